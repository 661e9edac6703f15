/- Texts of this seat, joined. -/
import Derived.Test.YtaefollmeoepkaaGreatDoorQ44
namespace Go.Proofs.YtaefollmeoepkaaGreatDoor
open Go.RowKit
set_option linter.unusedVariables false
theorem drH_hok {H : Ht} (K : Hok H) (k : Int) : Hok (drH H k) := by
  unfold drH
  split
  · exact tail_hok K
  · exact K
theorem dwW_hok {H : Ht} (K : Hok H) (k : Int) {x : Int} (hx : isW x = true) : Hok (dwW H k x) := by
  unfold dwW
  split
  · unfold outW
    split
    · exact out_hok K hx (by assumption)
    · exact K
  · split
    · exact setW_hok K (by decide) (by decide) hx
    · split
      · exact setW_hok K (by decide) (by decide) hx
      · exact K
theorem loadH_hok {H : Ht} (K : Hok H) (ps : List (Int × Int)) (zs : List Int) (x : Int) : Hok (loadH H ps zs x) := by
  unfold loadH
  split
  · exact K
  · exact drH_hok K _
theorem storeH_hok {H : Ht} (K : Hok H) (ps : List (Int × Int)) (zs : List Int) (x : Int) {y : Int} (hy : isW y = true) : Hok (storeH H ps zs x y) := by
  unfold storeH
  split
  · exact K
  · exact dwW_hok K _ hy
theorem storeZ_len (H : Ht) (ps : List (Int × Int)) (zs : List Int) (x y : Int) : (storeZ H ps zs x y).length = zs.length := by
  unfold storeZ
  split
  · simp
  · rfl
theorem storeZ_word {zs : List Int} (hz : zs.all isW = true) (H : Ht) (ps : List (Int × Int)) (x : Int) {y : Int} (hy : isW y = true) : (storeZ H ps zs x y).all isW = true := by
  unfold storeZ
  split
  · exact all_set hz hy
  · exact hz
theorem wait_hok {H : Ht} (K : Hok H) (b : Bool) : Hok { H with waiting := b } := ⟨K.r16, K.c11, K.r0, K.rw, K.pw, K.cw, K.iw, K.ow, K.i40, K.o40, K.d0, K.d9, K.st⟩
theorem halt_hok {H : Ht} (K : Hok H) (b : Bool) : Hok { H with halted := b } := ⟨K.r16, K.c11, K.r0, K.rw, K.pw, K.cw, K.iw, K.ow, K.i40, K.o40, K.d0, K.d9, K.st⟩
theorem doV_sn {H : Ht} {ps : List (Int × Int)} {zs : List Int} {p : Nat} (s : Sn H ps zs p) (ri op : Int) (d a : Nat) (im : Int) (hi : insC op d a im = 0) : Sn (doV H ps zs ri op d a im).H ps (doV H ps zs ri op d a im).zs p := by
  have q := ins_parts hi
  have k := s.hok
  have wi : isW (im * 65536) = true := isW_iff.2 ⟨by omega, by omega⟩
  by_cases h12 : op = 12
  · subst h12
    rw [show doV H ps zs ri 12 d a im = ⟨none, (addV H.pc 1), putV H d (addV (gt H.regs a) (offV im)), zs, ri⟩ from rfl]
    exact s.to_hok (putV_hok k (by omega) (by omega) (add_word _ _))
  by_cases h13 : op = 13
  · subst h13
    rw [show doV H ps zs ri 13 d a im = ⟨none, (addV H.pc 1), putV H d (im * 65536), zs, ri⟩ from rfl]
    exact s.to_hok (putV_hok k (by omega) (by omega) wi)
  by_cases h14 : op = 14
  · subst h14
    rw [show doV H ps zs ri 14 d a im = if plC H ps zs (addV (gt H.regs a) (offV im)) 1 = 0 then ⟨none, (addV H.pc 1), putV (loadH H ps zs (addV (gt H.regs a) (offV im))) d (loadW H ps zs (addV (gt H.regs a) (offV im))), zs, ri⟩ else ⟨some (3, (addV (gt H.regs a) (offV im))), 0, H, zs, ri⟩ from rfl]
    by_cases hz : plC H ps zs (addV (gt H.regs a) (offV im)) 1 = 0
    · rw [if_pos hz]
      exact s.to_hok (putV_hok (loadH_hok k _ _ _) (by omega) (by omega) (load_word s hz))
    · rw [if_neg hz]
      exact s
  by_cases h15 : op = 15
  · subst h15
    rw [show doV H ps zs ri 15 d a im = if plC H ps zs (addV (gt H.regs a) (offV im)) 2 = 0 then ⟨none, (addV H.pc 1), storeH H ps zs (addV (gt H.regs a) (offV im)) (gt H.regs d), storeZ H ps zs (addV (gt H.regs a) (offV im)) (gt H.regs d), storeR H ps zs (addV (gt H.regs a) (offV im)) (gt H.regs d) ri⟩ else ⟨some (4, (addV (gt H.regs a) (offV im))), 0, H, zs, ri⟩ from rfl]
    by_cases hz : plC H ps zs (addV (gt H.regs a) (offV im)) 2 = 0
    · rw [if_pos hz]
      exact (s.to_hok (storeH_hok k _ _ _ (gt_isW k.rw d))).to_mem (storeZ_len _ _ _ _ _) (storeZ_word s.zw _ _ _ (gt_isW k.rw d))
    · rw [if_neg hz]
      exact s
  by_cases h16 : op = 16
  · subst h16
    rw [show doV H ps zs ri 16 d a im = ⟨none, brV (gt H.regs d == gt H.regs a) (addV H.pc (offV im)) (addV H.pc 1), H, zs, ri⟩ from rfl]
    exact s
  by_cases h17 : op = 17
  · subst h17
    rw [show doV H ps zs ri 17 d a im = ⟨none, brV (gt H.regs d != gt H.regs a) (addV H.pc (offV im)) (addV H.pc 1), H, zs, ri⟩ from rfl]
    exact s
  by_cases h18 : op = 18
  · subst h18
    rw [show doV H ps zs ri 18 d a im = ⟨none, brV (decide (sgn (gt H.regs d) < sgn (gt H.regs a))) (addV H.pc (offV im)) (addV H.pc 1), H, zs, ri⟩ from rfl]
    exact s
  by_cases h19 : op = 19
  · subst h19
    rw [show doV H ps zs ri 19 d a im = ⟨none, addV H.pc (offV im), putV H d (addV H.pc 1), zs, ri⟩ from rfl]
    exact s.to_hok (putV_hok k (by omega) (by omega) (add_word _ _))
  by_cases h20 : op = 20
  · subst h20
    rw [show doV H ps zs ri 20 d a im = ⟨none, (addV (gt H.regs a) (offV im)), putV H d (addV H.pc 1), zs, ri⟩ from rfl]
    exact s.to_hok (putV_hok k (by omega) (by omega) (add_word _ _))
  by_cases h21 : op = 21
  · subst h21
    rw [show doV H ps zs ri 21 d a im = ⟨none, (addV H.pc 1), putV H d (getV H im), zs, ri⟩ from rfl]
    exact s.to_hok (putV_hok k (by omega) (by omega) (get_word k (by omega) (q.2.2.2.2.2.2.2.2.2 (.inl rfl))))
  by_cases h22 : op = 22
  · subst h22
    rw [show doV H ps zs ri 22 d a im = ⟨none, (addV H.pc 1), setW H im (gt H.regs a), zs, ri⟩ from rfl]
    exact s.to_hok (setW_hok k (by omega) (q.2.2.2.2.2.2.2.2.2 (.inr rfl)) (gt_isW k.rw a))
  by_cases h23 : op = 23
  · subst h23
    rw [show doV H ps zs ri 23 d a im = ⟨some (5, 0), 0, H, zs, ri⟩ from rfl]
    exact s
  by_cases h24 : op = 24
  · subst h24
    rw [show doV H ps zs ri 24 d a im = ⟨none, (backV H).pc, backV H, zs, ri⟩ from rfl]
    exact s.to_hok (backV_hok k)
  by_cases h25 : op = 25
  · subst h25
    rw [show doV H ps zs ri 25 d a im = ⟨none, (addV H.pc 1), { H with waiting := true }, zs, ri⟩ from rfl]
    exact s.to_hok (wait_hok k true)
  by_cases h26 : op = 26
  · subst h26
    rw [show doV H ps zs ri 26 d a im = ⟨none, H.pc, { H with halted := true }, zs, ri⟩ from rfl]
    exact s.to_hok (halt_hok k true)
  have e : doV H ps zs ri op d a im = ⟨none, (addV H.pc 1), putV H d (aluV op (gt H.regs a) (gt H.regs im.toNat)), zs, ri⟩ := by
    unfold doV
    rw [if_neg h12, if_neg h13, if_neg h14, if_neg h15, if_neg h16, if_neg h17, if_neg h18, if_neg h19, if_neg h20, if_neg h21, if_neg h22, if_neg h23, if_neg h24, if_neg h25, if_neg h26]
  rw [e]
  exact s.to_hok (putV_hok k (by omega) (by omega) (alu_word _ _ _))
theorem ring_word {k x : Int} (hx : isW x = true) : rgW k x = -1 ∨ 0 ≤ rgW k x := by
  unfold rgW
  split
  · exact .inr (isW_iff.1 hx).1
  · exact .inl rfl
theorem storeR_split (H : Ht) (ps : List (Int × Int)) (zs : List Int) (x : Int) {y : Int} (hy : isW y = true) (ri : Int) : storeR H ps zs x y ri = if 0 ≤ storeR H ps zs x y (-1) then storeR H ps zs x y (-1) else ri := by
  unfold storeR
  split
  · rfl
  · rcases ring_word (k := plV H ps zs x 2 - 1000) hy with h | h
    · rw [if_pos h, if_pos h, if_neg (by omega)]
    · have h' : ¬ rgW (plV H ps zs x 2 - 1000) y = -1 := by omega
      rw [if_neg h', if_neg h', if_pos h]
theorem doV_split {H : Ht} (k : Hok H) (ps : List (Int × Int)) (zs : List Int) (ri op : Int) (d a : Nat) (im : Int) : doV H ps zs ri op d a im = ⟨(doV H ps zs (-1) op d a im).t, (doV H ps zs (-1) op d a im).next, (doV H ps zs (-1) op d a im).H, (doV H ps zs (-1) op d a im).zs, if 0 ≤ (doV H ps zs (-1) op d a im).ri then (doV H ps zs (-1) op d a im).ri else ri⟩ := by
  by_cases h12 : op = 12
  · subst h12
    rfl
  by_cases h13 : op = 13
  · subst h13
    rfl
  by_cases h14 : op = 14
  · subst h14
    rw [show doV H ps zs ri 14 d a im = if plC H ps zs (addV (gt H.regs a) (offV im)) 1 = 0 then ⟨none, (addV H.pc 1), putV (loadH H ps zs (addV (gt H.regs a) (offV im))) d (loadW H ps zs (addV (gt H.regs a) (offV im))), zs, ri⟩ else ⟨some (3, (addV (gt H.regs a) (offV im))), 0, H, zs, ri⟩ from rfl, show doV H ps zs (-1) 14 d a im = if plC H ps zs (addV (gt H.regs a) (offV im)) 1 = 0 then ⟨none, (addV H.pc 1), putV (loadH H ps zs (addV (gt H.regs a) (offV im))) d (loadW H ps zs (addV (gt H.regs a) (offV im))), zs, (-1)⟩ else ⟨some (3, (addV (gt H.regs a) (offV im))), 0, H, zs, (-1)⟩ from rfl]
    split <;> rfl
  by_cases h15 : op = 15
  · subst h15
    rw [show doV H ps zs ri 15 d a im = if plC H ps zs (addV (gt H.regs a) (offV im)) 2 = 0 then ⟨none, (addV H.pc 1), storeH H ps zs (addV (gt H.regs a) (offV im)) (gt H.regs d), storeZ H ps zs (addV (gt H.regs a) (offV im)) (gt H.regs d), storeR H ps zs (addV (gt H.regs a) (offV im)) (gt H.regs d) ri⟩ else ⟨some (4, (addV (gt H.regs a) (offV im))), 0, H, zs, ri⟩ from rfl, show doV H ps zs (-1) 15 d a im = if plC H ps zs (addV (gt H.regs a) (offV im)) 2 = 0 then ⟨none, (addV H.pc 1), storeH H ps zs (addV (gt H.regs a) (offV im)) (gt H.regs d), storeZ H ps zs (addV (gt H.regs a) (offV im)) (gt H.regs d), storeR H ps zs (addV (gt H.regs a) (offV im)) (gt H.regs d) (-1)⟩ else ⟨some (4, (addV (gt H.regs a) (offV im))), 0, H, zs, (-1)⟩ from rfl]
    split
    · simp only
      rw [storeR_split H ps zs _ (gt_isW k.rw d) ri]
    · rfl
  by_cases h16 : op = 16
  · subst h16
    rfl
  by_cases h17 : op = 17
  · subst h17
    rfl
  by_cases h18 : op = 18
  · subst h18
    rfl
  by_cases h19 : op = 19
  · subst h19
    rfl
  by_cases h20 : op = 20
  · subst h20
    rfl
  by_cases h21 : op = 21
  · subst h21
    rfl
  by_cases h22 : op = 22
  · subst h22
    rfl
  by_cases h23 : op = 23
  · subst h23
    rfl
  by_cases h24 : op = 24
  · subst h24
    rfl
  by_cases h25 : op = 25
  · subst h25
    rfl
  by_cases h26 : op = 26
  · subst h26
    rfl
  have e : ∀ r, doV H ps zs r op d a im = ⟨none, (addV H.pc 1), putV H d (aluV op (gt H.regs a) (gt H.regs im.toNat)), zs, r⟩ := fun r => by
    unfold doV
    rw [if_neg h12, if_neg h13, if_neg h14, if_neg h15, if_neg h16, if_neg h17, if_neg h18, if_neg h19, if_neg h20, if_neg h21, if_neg h22, if_neg h23, if_neg h24, if_neg h25, if_neg h26]
  rw [e, e]
  rfl
theorem fet_parts {v : Int} (hf : decF v = 0) : insC (v / 16777216) (((v / 1048576 % 16).toNat : Nat) : Int) (((v / 65536 % 16).toNat : Nat) : Int) (v % 65536) = 0 := by
  have e1 : (((v / 1048576 % 16).toNat : Nat) : Int) = v / 1048576 % 16 := by omega
  have e2 : (((v / 65536 % 16).toNat : Nat) : Int) = v / 65536 % 16 := by omega
  rw [e1, e2]
  exact hf
theorem waitV_sn {H : Ht} {ps : List (Int × Int)} {zs : List Int} {p : Nat} (s : Sn H ps zs p) : Sn (waitV H) ps zs p := s.to_hok (wait_hok s.hok _)
theorem fetZ_word {H : Ht} {ps : List (Int × Int)} {zs : List Int} (h : zs.all isW = true) : isW (fetZ H ps zs) = true := isW_iff.2 (all_at h _)
theorem stepV_sn {H : Ht} {ps : List (Int × Int)} {zs : List Int} {p : Nat} (s : Sn H ps zs p) (ca ri : Int) : Sn (stepV H ps zs ca ri).1 ps (stepV H ps zs ca ri).2.1 p := by
  have k := s.hok
  have sw := waitV_sn s
  unfold stepV
  by_cases h1 : H.halted = true
  · rw [if_pos h1]; exact s
  rw [if_neg h1]
  by_cases h2 : ¬ dueV H < 0
  · rw [if_pos h2]
    have := due_le H
    exact s.to_hok (trapV_hok k _ _ (by omega) (by omega) (by decide))
  rw [if_neg h2]
  by_cases h3 : (waitV H).waiting = true
  · rw [if_pos h3]; exact sw
  rw [if_neg h3]
  by_cases h4 : ¬ plC (waitV H) ps zs H.pc 4 = 0
  · rw [if_pos h4]; exact sw.to_hok (trapV_hok sw.hok _ _ (by decide) (by decide) k.pw)
  rw [if_neg h4]
  by_cases h5 : ¬ decF (fetZ (waitV H) ps zs) = 0
  · rw [if_pos h5]; exact sw.to_hok (trapV_hok sw.hok _ _ (by decide) (by decide) (fetZ_word s.zw))
  rw [if_neg h5]
  have hf : decF (fetZ (waitV H) ps zs) = 0 := by simpa using h5
  have d := doV_sn sw ri _ _ _ _ (fet_parts hf)
  have wd := doV_word sw.hok ps zs ri (fetZ (waitV H) ps zs / 16777216) (fetZ (waitV H) ps zs / 1048576 % 16).toNat (fetZ (waitV H) ps zs / 65536 % 16).toNat (fetZ (waitV H) ps zs % 65536)
  generalize doV (waitV H) ps zs ri (fetZ (waitV H) ps zs / 16777216) (fetZ (waitV H) ps zs / 1048576 % 16).toNat (fetZ (waitV H) ps zs / 65536 % 16).toNat (fetZ (waitV H) ps zs % 65536) = D at *
  obtain ⟨t, n, G, ys, rj⟩ := D
  cases t with
  | none => exact d.to_hok (more_hok (done_hok d.hok (wd.1 rfl)))
  | some ct =>
    obtain ⟨c, t⟩ := ct
    exact d.to_hok (trapV_hok d.hok _ _ (wd.2 c t rfl).1 (wd.2 c t rfl).2.1 (wd.2 c t rfl).2.2)
theorem stepV_split {H : Ht} (k : Hok H) (ps : List (Int × Int)) (zs : List Int) (ca ri : Int) : stepV H ps zs ca ri = ((stepV H ps zs (-1) (-1)).1, (stepV H ps zs (-1) (-1)).2.1, (if 0 ≤ (stepV H ps zs (-1) (-1)).2.2.1 then (stepV H ps zs (-1) (-1)).2.2.1 else ca), (if 0 ≤ (stepV H ps zs (-1) (-1)).2.2.2 then (stepV H ps zs (-1) (-1)).2.2.2 else ri)) := by
  unfold stepV
  by_cases h1 : H.halted = true
  · rw [if_pos h1, if_pos h1]; rfl
  rw [if_neg h1, if_neg h1]
  by_cases h2 : ¬ dueV H < 0
  · rw [if_pos h2, if_pos h2]
    simp only
    rw [if_pos (by omega)]
    rfl
  rw [if_neg h2, if_neg h2]
  by_cases h3 : (waitV H).waiting = true
  · rw [if_pos h3, if_pos h3]; rfl
  rw [if_neg h3, if_neg h3]
  by_cases h4 : ¬ plC (waitV H) ps zs H.pc 4 = 0
  · rw [if_pos h4, if_pos h4]; rfl
  rw [if_neg h4, if_neg h4]
  by_cases h5 : ¬ decF (fetZ (waitV H) ps zs) = 0
  · rw [if_pos h5, if_pos h5]; rfl
  rw [if_neg h5, if_neg h5]
  have hs := doV_split (H := waitV H) (wait_hok k _) ps zs ri (fetZ (waitV H) ps zs / 16777216) (fetZ (waitV H) ps zs / 1048576 % 16).toNat (fetZ (waitV H) ps zs / 65536 % 16).toNat (fetZ (waitV H) ps zs % 65536)
  have hw := doV_word (wait_hok k (H.waiting && decide (bothV H = 0))) ps zs (-1) (fetZ (waitV H) ps zs / 16777216) (fetZ (waitV H) ps zs / 1048576 % 16).toNat (fetZ (waitV H) ps zs / 65536 % 16).toNat (fetZ (waitV H) ps zs % 65536)
  change Wd (doV (waitV H) _ _ _ _ _ _ _) at hw
  rw [hs]
  clear hs
  generalize doV (waitV H) ps zs (-1) (fetZ (waitV H) ps zs / 16777216) (fetZ (waitV H) ps zs / 1048576 % 16).toNat (fetZ (waitV H) ps zs / 65536 % 16).toNat (fetZ (waitV H) ps zs % 65536) = D at *
  obtain ⟨t, n, G, ys, rj⟩ := D
  cases t with
  | none => rfl
  | some ct =>
    obtain ⟨c, t⟩ := ct
    have := (hw.2 c t rfl).1
    simp only
    rw [if_pos this]
end Go.Proofs.YtaefollmeoepkaaGreatDoor
