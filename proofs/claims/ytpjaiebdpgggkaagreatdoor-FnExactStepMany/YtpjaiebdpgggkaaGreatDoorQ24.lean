/- Texts of this seat, joined. -/
import Derived.Deep.RegionWith
import Derived.Deep.Cut
import Derived.Deep.CutRange
import Derived.Test.YtpjaiebdpgggkaaGreatDoorQ03
import Derived.Test.YtpjaiebdpgggkaaGreatDoorQ14
import Derived.Test.YtpjaiebdpgggkaaGreatDoorQ16
import Derived.Test.YtpjaiebdpgggkaaGreatDoorQ19
import Derived.Test.YtpjaiebdpgggkaaGreatDoorQ23
namespace Go.Proofs.YtpjaiebdpgggkaaGreatDoor
open Go.RowKit

/-- The word of an instruction, 0 where it has a fault. -/
def encV (op d a imm : Int) : Int := if insC op d a imm = 0 then op * 16777216 + d * 1048576 + a * 65536 + imm else 0

theorem insC_bounds {op d a imm : Int} (h : insC op d a imm = 0) : 1 ≤ op ∧ op ≤ 26 ∧ 0 ≤ d ∧ d ≤ 15 ∧ 0 ≤ a ∧ a ≤ 15 ∧ 0 ≤ imm ∧ imm ≤ 65535 := by
  by_cases g : 1 ≤ op ∧ op ≤ 26 ∧ 0 ≤ d ∧ d ≤ 15 ∧ 0 ≤ a ∧ a ≤ 15 ∧ 0 ≤ imm ∧ imm ≤ 65535
  · exact g
  · rw [insC_3 g] at h; omega

theorem w64 (n : Int) (h : -9223372036854775808 ≤ n ∧ n ≤ 9223372036854775807) : wrap64 n = n := by unfold wrap64; omega
theorem enc_wrap {op d a imm : Int} (h : 1 ≤ op ∧ op ≤ 26 ∧ 0 ≤ d ∧ d ≤ 15 ∧ 0 ≤ a ∧ a ≤ 15 ∧ 0 ≤ imm ∧ imm ≤ 65535) :
    wrap64 (wrap64 (wrap64 (wrap64 (op * 16777216) + wrap64 (d * 1048576)) + wrap64 (a * 65536)) + imm) = op * 16777216 + d * 1048576 + a * 65536 + imm := by
  rw [w64 (op * 16777216) (by omega), w64 (d * 1048576) (by omega), w64 (a * 65536) (by omega), w64 (op * 16777216 + d * 1048576) (by omega), w64 (op * 16777216 + d * 1048576 + a * 65536) (by omega), w64 _ (by omega)]

set_option maxHeartbeats 2000000 in
theorem impl_encode (op d a imm : Int) (w : World) :
    Calls Tryz.prog 131 #[.agg #[.int .i64 op, .int .i64 d, .int .i64 a, .int .i64 imm]] w fun e w' => e = .returned (.agg #[.int .i64 (insC op d a imm), .int .i64 (encV op d a imm)]) ∧ Below w.heap.size w w' := by
  have hf := fun w => impl_insFault op d a imm w
  by_cases h : insC op d a imm = 0
  · have e : encV op d a imm = op * 16777216 + d * 1048576 + a * 65536 + imm := if_pos h
    have ew := enc_wrap (insC_bounds h)
    rw [e]
    clear e
    generalize insC op d a imm = c at *
    subst h
    generalize op * 16777216 + d * 1048576 + a * 65536 + imm = v at *
    go_enter Tryz.func131, Tryz.ntmps131
    go_wp2_with (go_at_call 139; refine (hf _).mono ?_; rintro e w1 ⟨rfl, hb⟩; obtain ⟨hc, hz⟩ := bcell hb)
    exact bodyPost_ret (v := .agg #[.int .i64 0, .int .i64 v]) (by simp [results, Tryz.results131, go_sem, hc, ew]) rfl ⟨rfl, (((((Below.refl _ _).alloc (Nat.le_refl _) _).alloc (by simp) _).trans (hb.mono (by simp; omega))).setCell (by simp) _).setCell (by simp) _⟩
  · have g : (insC op d a imm == 0) = false := beq_eq_false_iff_ne.2 h
    have e : encV op d a imm = 0 := if_neg h
    rw [e]
    clear e h
    generalize insC op d a imm = c at *
    go_enter Tryz.func131, Tryz.ntmps131
    go_wp2_with (go_at_call 139; refine (hf _).mono ?_; rintro e w1 ⟨rfl, hb⟩; obtain ⟨hc, hz⟩ := bcell hb)
    exact bodyPost_ret (v := .agg #[.int .i64 c, .int .i64 0]) (by simp [results, Tryz.results131, go_sem, hc]) rfl ⟨rfl, (((((Below.refl _ _).alloc (Nat.le_refl _) _).alloc (by simp) _).trans (hb.mono (by simp; omega))).setCell (by simp) _).setCell (by simp) _⟩

end Go.Proofs.YtpjaiebdpgggkaaGreatDoor
namespace Go.Proofs.YtpjaiebdpgggkaaGreatDoor
open Go.RowKit

theorem and15 (x : Int) : bits BinOp.and .i64 x 15 = x % 16 := by
  have h1 : (BitVec.ofInt 64 x).toNat = (x % 2 ^ 64).toNat := BitVec.toNat_ofInt ..
  have h2 : (BitVec.ofInt 64 15).toNat = 2 ^ 4 - 1 := by decide
  show IntKind.i64.wrap ((BitVec.ofInt 64 x &&& BitVec.ofInt 64 15).toNat : Int) = _
  rw [BitVec.toNat_and, h1, h2, Nat.and_two_pow_sub_one_eq_mod, IntKind.wrap_i64]
  omega
theorem and65535 (x : Int) : bits BinOp.and .i64 x 65535 = x % 65536 := by
  have h1 : (BitVec.ofInt 64 x).toNat = (x % 2 ^ 64).toNat := BitVec.toNat_ofInt ..
  have h2 : (BitVec.ofInt 64 65535).toNat = 2 ^ 16 - 1 := by decide
  show IntKind.i64.wrap ((BitVec.ofInt 64 x &&& BitVec.ofInt 64 65535).toNat : Int) = _
  rw [BitVec.toNat_and, h1, h2, Nat.and_two_pow_sub_one_eq_mod, IntKind.wrap_i64]
  omega

/-- The fault of the instruction that a number's bits tell. -/
def decF (v : Int) : Int := insC (v / 16777216) (v / 1048576 % 16) (v / 65536 % 16) (v % 65536)
theorem dec_back {v : Int} (h : decF v = 0) : encV (v / 16777216) (v / 1048576 % 16) (v / 65536 % 16) (v % 65536) = v := by
  have h' := h
  unfold decF at h'
  rw [encV, if_pos h']
  omega
theorem dec_in {v : Int} (h : decF v = 0) : 0 ≤ v ∧ v ≤ 4294967295 := by
  have := insC_bounds h
  omega
/-- What DecodeIns answers. -/
def decV (v : Int) : Value := if decF v = 0 then .agg #[.int .i64 0, .int .i64 (v / 16777216), .int .i64 (v / 1048576 % 16), .int .i64 (v / 65536 % 16), .int .i64 (v % 65536)] else .agg #[.int .i64 5, .int .i64 0, .int .i64 0, .int .i64 0, .int .i64 0]

set_option maxHeartbeats 1000000 in
theorem impl_decode (v : Int) (w : World) :
    Calls Tryz.prog 99 #[.int .i64 v] w fun e w' => e = .returned (decV v) ∧ Below w.heap.size w w' := by
  have he := fun w => impl_encode (v / 16777216) (v / 1048576 % 16) (v / 65536 % 16) (v % 65536) w
  by_cases h : decF v = 0
  · rw [decV, if_pos h]
    rw [show insC (v / 16777216) (v / 1048576 % 16) (v / 65536 % 16) (v % 65536) = 0 from h, dec_back h] at he
    clear h
    rw [← and15 (v / 1048576), ← and15 (v / 65536), ← and65535 v] at *
    go_enter Tryz.func99, Tryz.ntmps99
    go_wp2_with (go_at_call 131; refine (he _).mono ?_; rintro e w1 ⟨rfl, hb⟩; obtain ⟨hc, hz⟩ := bcell hb)
    have k0 := cell_keep hb (cell_push _ (cell_new (i := 0) rfl))
    have k1 := cell_keep hb (cell_push _ (cell_new (i := 1) rfl))
    have k2 := cell_keep hb (cell_push _ (cell_new (i := 2) rfl))
    have k3 := cell_keep hb (cell_push _ (cell_new (i := 3) rfl))
    have k4 := cell_keep hb (cell_push _ (cell_new (i := 4) rfl))
    clear hc hz
    exact bodyPost_ret (v := .agg #[.int .i64 0, .int .i64 (v / 16777216), .int .i64 (bits BinOp.and .i64 (v / 1048576) 15), .int .i64 (bits BinOp.and .i64 (v / 65536) 15), .int .i64 (bits BinOp.and .i64 v 65535)]) (by simp [results, Tryz.results99, go_sem, k0, k1, k2, k3, k4]) rfl ⟨rfl, ((((((((Below.refl _ _).alloc (Nat.le_refl _) _).alloc (by simp) _).trans (hb.mono (by simp; omega))).setCell (by simp) _).setCell (by simp) _).setCell (by simp) _).setCell (by simp) _).setCell (by simp) _⟩
  · rw [decV, if_neg h]
    have g : (decF v == 0) = false := beq_eq_false_iff_ne.2 h
    rw [show insC (v / 16777216) (v / 1048576 % 16) (v / 65536 % 16) (v % 65536) = decF v from rfl] at he
    clear h
    rw [← and15 (v / 1048576), ← and15 (v / 65536), ← and65535 v] at he
    generalize decF v = c at *
    go_enter Tryz.func99, Tryz.ntmps99
    go_wp2_with (go_at_call 131; refine (he _).mono ?_; rintro e w1 ⟨rfl, hb⟩; obtain ⟨hc, hz⟩ := bcell hb)
    have k0 := cell_keep hb (cell_push _ (cell_new (i := 0) rfl))
    have k1 := cell_keep hb (cell_push _ (cell_new (i := 1) rfl))
    have k2 := cell_keep hb (cell_push _ (cell_new (i := 2) rfl))
    have k3 := cell_keep hb (cell_push _ (cell_new (i := 3) rfl))
    have k4 := cell_keep hb (cell_push _ (cell_new (i := 4) rfl))
    clear hc hz
    exact bodyPost_ret (v := .agg #[.int .i64 5, .int .i64 0, .int .i64 0, .int .i64 0, .int .i64 0]) (by simp [results, Tryz.results99, go_sem, k0, k1, k2, k3, k4]) rfl ⟨rfl, ((((((((Below.refl _ _).alloc (Nat.le_refl _) _).alloc (by simp) _).trans (hb.mono (by simp; omega))).setCell (by simp) _).setCell (by simp) _).setCell (by simp) _).setCell (by simp) _).setCell (by simp) _⟩

set_option maxHeartbeats 1000000 in
theorem spec_l2Decode (v : Int) (w : World) :
    Calls Tryz.prog 45 #[.int .i64 v] w fun e w' => (e = .returned (if 0 ≤ v ∧ v ≤ 4294967295 then .tuple #[.agg #[.int .i64 (v / 16777216), .int .i64 (bits BinOp.and .i64 (v / 1048576) 15), .int .i64 (bits BinOp.and .i64 (v / 65536) 15), .int .i64 (bits BinOp.and .i64 v 65535)], .bool (decF v == 0)] else .tuple #[.agg #[.int .i64 0, .int .i64 0, .int .i64 0, .int .i64 0], .bool false])) ∧ Below w.heap.size w w' := by
  by_cases h : 0 ≤ v ∧ v ≤ 4294967295
  · rw [if_pos h]
    have i : inB v 0 4294967295 = true := inB_true h
    have he := fun w => spec_insFault (v / 16777216) (v / 1048576 % 16) (v / 65536 % 16) (v % 65536) w
    rw [show insC (v / 16777216) (v / 1048576 % 16) (v / 65536 % 16) (v % 65536) = decF v from rfl] at he
    clear h
    rw [← and15 (v / 1048576), ← and15 (v / 65536), ← and65535 v] at he
    generalize decF v = c at *
    go_enter Tryz.func45, Tryz.ntmps45
    go_wp2_with (go_at_call 31; refine (spec_inI _ _ _ _).mono ?_; rintro e w1 ⟨rfl, rfl⟩)
    go_region_with (go_at_call 69; refine (he _).mono ?_; rintro e w1 ⟨rfl, hb⟩; obtain ⟨hc, hz⟩ := bcell hb)
    all_goals go_wp2
    all_goals have k0 : w1.cell? ⟨w.heap.size, 0, none⟩ = some (.int .i64 0) := by rw [hc _ _ (by simp; omega)]; simp
    all_goals have k1 : w1.cell? ⟨w.heap.size, 1, none⟩ = some (.int .i64 0) := by rw [hc _ _ (by simp; omega)]; simp
    all_goals have k2 : w1.cell? ⟨w.heap.size, 2, none⟩ = some (.int .i64 0) := by rw [hc _ _ (by simp; omega)]; simp
    all_goals have k3 : w1.cell? ⟨w.heap.size, 3, none⟩ = some (.int .i64 0) := by rw [hc _ _ (by simp; omega)]; simp
    all_goals clear hc hz
    all_goals exact bodyPost_ret (v := .tuple #[.agg #[.int .i64 (v / 16777216), .int .i64 (bits BinOp.and .i64 (v / 1048576) 15), .int .i64 (bits BinOp.and .i64 (v / 65536) 15), .int .i64 (bits BinOp.and .i64 v 65535)], .bool (c == 0)]) (by simp [results, Tryz.results45, go_sem, k0, k1, k2, k3]) rfl ⟨rfl, (((((((Below.refl _ _).alloc (Nat.le_refl _) _).alloc (by simp) _).drew.trans (hb.mono (by simp; omega))).setCell (by simp) _).setCell (by simp) _).setCell (by simp) _).setCell (by simp) _⟩
  · rw [if_neg h]
    have i : inB v 0 4294967295 = false := inB_false h
    clear h
    go_enter Tryz.func45, Tryz.ntmps45
    go_wp2_with (go_at_call 31; refine (spec_inI _ _ _ _).mono ?_; rintro e w1 ⟨rfl, rfl⟩)
    exact bodyPost_ret (v := .tuple #[.agg #[.int .i64 0, .int .i64 0, .int .i64 0, .int .i64 0], .bool false]) (by simp [results, Tryz.results45, go_sem]) rfl ⟨rfl, (Below.refl _ _).alloc (Nat.le_refl _) _⟩

end Go.Proofs.YtpjaiebdpgggkaaGreatDoor
namespace Go.Proofs.YtpjaiebdpgggkaaGreatDoor
open Go.RowKit
set_option linter.unusedVariables false

set_option maxRecDepth 20000 in
set_option maxHeartbeats 4000000 in
theorem s_asked (q : Nat) (r c i o : Value) (H : Ht) (pa : Option Addr) (pn pc : Nat) (ps : List (Int × Int)) (ma : Option Addr) (mn mc : Nat) (zs : List Int) (b : Nat) (w : World) (h : Hm w b r c i o H) (hv : Vb w q #[r, .int .i64 H.pc, c, .bool H.halted, .bool H.waiting, .bool H.rung, .int .i64 H.done, i, o] 28) (hP : Prs 55 w b (.slice pa pn pc) ps) (hl : ps.length ≤ 1048576) (hM : Nums w b (.slice ma mn mc) zs) (hm : zs.length ≤ 1048576) :
    Calls Tryz.prog 24 #[.pointer (some ⟨q, 0, none⟩), .slice pa pn pc, .slice ma mn mc] w fun e w' => e = .returned (.int .i64 (seenC H ps zs)) ∧ w' = w := by
  have sF := s_fault q r c i o H b w h hv
  have sP := spec_fault _ ps 24 b w hP hl
  have sM := spec_memFault _ zs b w hM
  have HP : Hid (Prs 55 w b (.slice pa pn pc) ps) := hP
  have HN : Hid (mn = zs.length ∧ pn = ps.length) := by
    refine ⟨hM.len, ?_⟩
    obtain ⟨a, cap, hv, _⟩ := hP.shape
    cases hv
    rfl
  clear h hP hM hl hm hv
  by_cases hf : hfV H = 0
  case neg =>
    have HE : Hid (seenC H ps zs = hfV H) := if_neg hf
    generalize hfV H = f at *
    go_enter Tryz.func24, Tryz.ntmps24
    go_wp2_with (go_at_call 36; refine sF.mono ?_; rintro e y ⟨rfl, hy⟩; rw [hy]; clear hy y)
    go_ret
    exact ⟨by rw [HE.out]; rfl, rfl⟩
  have E1 : seenC H ps zs = if pgsV ps 24 = 0 then (if memV zs = 0 then (if beyB ps zs.length then 1 else 0) else 1) else pgsV ps 24 := if_pos hf
  rw [hf] at sF
  clear hf
  by_cases hp : pgsV ps 24 = 0
  case neg =>
    have HE : Hid (seenC H ps zs = pgsV ps 24) := by show _ = _; rw [E1, if_neg hp]
    clear E1
    generalize pgsV ps 24 = f at *
    go_enter Tryz.func24, Tryz.ntmps24
    go_wp2_with (first | (go_at_call 36; refine sF.mono ?_; rintro e y ⟨rfl, hy⟩; rw [hy]; clear hy y) | (go_at_call 37; refine sP.mono ?_; rintro e y ⟨rfl, hy⟩; rw [hy]; clear hy y))
    go_ret
    exact ⟨by rw [HE.out]; rfl, rfl⟩
  rw [if_pos hp] at E1
  obtain ⟨_, _, hl8, _⟩ := pgsV_zero hp
  rw [hp] at sP
  have HOK : Hid (okTo 24 ps 8) := (pgsV_zero hp).2.2.2
  clear hp
  by_cases hz : memV zs = 0
  case neg =>
    have HE : Hid (seenC H ps zs = 1) := by show _ = _; rw [E1, if_neg hz]
    clear E1 hl8
    generalize memV zs = f at *
    go_enter Tryz.func24, Tryz.ntmps24
    go_wp2_with (first | (go_at_call 36; refine sF.mono ?_; rintro e y ⟨rfl, hy⟩; rw [hy]; clear hy y) | (go_at_call 37; refine sP.mono ?_; rintro e y ⟨rfl, hy⟩; rw [hy]; clear hy y) | (go_at_call 38; refine sM.mono ?_; rintro e y ⟨rfl, hy⟩; rw [hy]; clear hy y))
    go_ret
    exact ⟨by rw [HE.out]; rfl, rfl⟩
  rw [if_pos hz] at E1
  have hz8 : ∃ p, zs.length = p * 8 ∧ p ≤ 24 := by
    unfold memV at hz
    split at hz
    · rename_i hf
      unfold formB at hf
      have hf := of_decide_eq_true hf
      exact ⟨zs.length / 8, by omega, by omega⟩
    · exact absurd hz (by decide)
  obtain ⟨p, hzp, hp24⟩ := hz8
  rw [hz] at sM
  obtain ⟨hn1, hn2⟩ := HN.out
  obtain rfl : mn = p * 8 := by omega
  obtain rfl : pn = 8 := by omega
  obtain ⟨pa', pc', hv, -, -, hg⟩ := HP.out.shape
  obtain ⟨g, hg⟩ := hg (by omega)
  simp only [Value.slice.injEq] at hv
  obtain ⟨hv1, -, -⟩ := hv
  rw [hg] at hv1
  subst hv1
  clear hg
  rw [hzp] at E1
  have HL : Hid (ps.length = 8) := hl8
  have HD : Hid (p * 8 / 8 = p) := by show _ = _; omega
  have HE1 : Hid (seenC H ps zs = if beyB ps (p * 8) then 1 else 0) := E1
  have hpi : (p : Int) ≤ 24 := by omega
  clear hz hn1 hn2 E1 hzp hp24 hl8
  go_enter Tryz.func24, Tryz.ntmps24
  go_wp2_with (first | (go_at_call 36; refine sF.mono ?_; rintro e y ⟨rfl, hy⟩; rw [hy]; clear hy y) | (go_at_call 37; refine sP.mono ?_; rintro e y ⟨rfl, hy⟩; rw [hy]; clear hy y) | (go_at_call 38; refine sM.mono ?_; rintro e y ⟨rfl, hy⟩; rw [hy]; clear hy y))
  clear sF sP sM
  go_loop [9] (fun c => ∃ j : Nat, j ≤ 8 ∧ c = .int .i64 j ∧ beyB (ps.take j) (p * 8) = false) (fun c => 8 - (intOf c).toNat)
  case atStart => exact ⟨0, Nat.zero_le _, rfl, rfl⟩
  case round =>
    obtain ⟨j, hj, rfl, hA⟩ := hrel
    have HA : Hid (beyB (ps.take j) (p * 8) = false) := hA
    clear hA
    by_cases hlt : j < 8
    · have c0 := (HP.out.cell HL.out.symm j hlt).1
      have hI : (j : Int) < 8 := by omega
      have HLT : Hid (j < 8) := hlt
      have HT := bey_take ps (p * 8) j (by have := HL.out; omega)
      rw [HA.out] at HT
      have HE := bey_here (ps := ps) (n := p * 8) (j := j) (by have := HL.out; omega)
      rw [HD.out] at HT HE
      have hr := pgC_zero (HOK.out j hlt)
      generalize (ps.getD j (0, 0)).1 = x at *
      have hr1 : -1 ≤ x := hr.1
      have hr2 : x ≤ 23 := by omega
      have HTT : Hid (beyB (ps.take (j + 1)) (p * 8) = (false || decide ((p : Int) ≤ x))) := HT
      have HEE : Hid ((p : Int) ≤ x → beyB ps (p * 8) = true) := HE
      clear HT HE hlt hr
      by_cases hx : (p : Int) ≤ x
      · have hx3 : (p : Int) * 8 < (x + 1) * 8 := by omega
        go_wp2_with fail
        go_ret
        exact ⟨by rw [HE1.out, HEE.out hx]; rfl, rfl⟩
      · have hx2 : x < (p : Int) := by omega
        have hx3 : ¬ (p : Int) * 8 < (x + 1) * 8 := by omega
        go_wp2_with fail
        go_round
        case rel => exact ⟨j + 1, by have := HLT.out; omega, by go_num, by rw [HTT.out]; simpa using hx2⟩
        case measure => have := HLT.out; simp [intOf]; omega
    · have hI : ¬ (j : Int) < 8 := by omega
      obtain rfl : j = 8 := by omega
      have HE : Hid (seenC H ps zs = 0) := by
        have := HA.out
        rw [List.take_of_length_le (Nat.le_of_eq HL.out)] at this
        show _ = _
        rw [HE1.out, this]
        rfl
      go_wp2_with fail
      go_ret
      exact ⟨by rw [HE.out]; rfl, rfl⟩
end Go.Proofs.YtpjaiebdpgggkaaGreatDoor
namespace Go.Proofs.YtpjaiebdpgggkaaGreatDoor
open Go.RowKit
set_option linter.unusedVariables false

/-- The cells of a runner. -/
def mcr (H : Ht) (i o l p : Value) (ca ri : Int) : Array Value := #[.int .i64 (gt H.regs 0), .int .i64 (gt H.regs 1), .int .i64 (gt H.regs 2), .int .i64 (gt H.regs 3), .int .i64 (gt H.regs 4), .int .i64 (gt H.regs 5), .int .i64 (gt H.regs 6), .int .i64 (gt H.regs 7), .int .i64 (gt H.regs 8), .int .i64 (gt H.regs 9), .int .i64 (gt H.regs 10), .int .i64 (gt H.regs 11), .int .i64 (gt H.regs 12), .int .i64 (gt H.regs 13), .int .i64 (gt H.regs 14), .int .i64 (gt H.regs 15), .int .i64 H.pc, .int .i64 (gt H.csr 0), .int .i64 (gt H.csr 1), .int .i64 (gt H.csr 2), .int .i64 (gt H.csr 3), .int .i64 (gt H.csr 4), .int .i64 (gt H.csr 5), .int .i64 (gt H.csr 6), .int .i64 (gt H.csr 7), .int .i64 (gt H.csr 8), .int .i64 (gt H.csr 9), .int .i64 (gt H.csr 10), .bool H.halted, .bool H.waiting, .bool H.rung, .int .i64 H.done, i, o, l, p, .int .i64 ca, .int .i64 ri]
theorem mcr_size (H : Ht) (i o l p : Value) (ca ri : Int) : (mcr H i o l p ca ri).size = 38 := rfl
def mrz : Array Value := #[.int .i64 0, .int .i64 0, .int .i64 0, .int .i64 0, .int .i64 0, .int .i64 0, .int .i64 0, .int .i64 0, .int .i64 0, .int .i64 0, .int .i64 0, .int .i64 0, .int .i64 0, .int .i64 0, .int .i64 0, .int .i64 0, .int .i64 0, .int .i64 0, .int .i64 0, .int .i64 0, .int .i64 0, .int .i64 0, .int .i64 0, .int .i64 0, .int .i64 0, .int .i64 0, .int .i64 0, .int .i64 0, .bool false, .bool false, .bool false, .int .i64 0, .slice none 0 0, .slice none 0 0, .slice none 0 0, .slice none 0 0, .int .i64 0, .int .i64 0]
theorem mcr_one (H : Ht) (i o l p : Value) (ca ri : Int) (hi : i.oneCell' = true) (ho : o.oneCell' = true) (hl : l.oneCell' = true) (hp : p.oneCell' = true) : (mcr H i o l p ca ri).all (·.oneCell') = true := by
  have h1 : ∀ z : Int, (Value.int .i64 z).oneCell' = true := fun _ => rfl
  have h2 : ∀ z : Bool, (Value.bool z).oneCell' = true := fun _ => rfl
  simp [mcr, h1, h2, hi, ho, hl, hp]
theorem mrz_there {w : World} {q : Nat} {t : TypeId} {cs : Array Value} (h : Vb w q cs t) : w.there q 0 cs.size := fun j hj => by
  rw [Nat.zero_add]
  exact ⟨by rw [h.cell j (Array.getElem?_eq_getElem hj)]; rfl, h.free _⟩

theorem wp_build {op : Oper} {a : Act} {w : World} {K : Act → World → Prop} {Q : Exit → Act → World → Prop} (t : TypeId) (parts : Array (Nat × Operand)) (ho : op.op = .build t parts) (cells : Array Value) (hb : Tryz.prog.built t (parts.map fun (i, x) => (i, a.eval x)).toList = some cells)
    (h : K (a.put op.dst (.agg cells)) w) : op.wp Tryz.prog a w K Q := by
  unfold Oper.wp execOp
  simp only [ho, Sem.run_bind, run_build (P := Tryz.prog) w t _ cells hb, Sem.run_pure, Result.andThen_ok]
  exact h
set_option maxRecDepth 20000 in
set_option maxHeartbeats 8000000 in
theorem i_runnerX (r c i o : Value) (H : Ht) (la : Option Addr) (ln lc : Nat) (gm n cap : Nat) (zs : List Int) (b p : Nat) (w : World) (h : Hm w b r c i o H) (hk : Hok H) (hM : Nums w b (.slice (some ⟨gm, 0, none⟩) n cap) zs) (hz : zs.length = p * 8) (hp : p ≤ 24) (hp0 : 1 ≤ p) :
    Calls Tryz.prog 33 #[.agg #[r, .int .i64 H.pc, c, .bool H.halted, .bool H.waiting, .bool H.rung, .int .i64 H.done, i, o], .slice la ln lc, .slice (some ⟨gm, 0, none⟩) n cap] w fun e w' => ∃ i' o' g, e = .returned (.agg (mcr H i' o' (.slice la ln lc) (.slice (some ⟨g, 0, none⟩) p p) (-1) (-1))) ∧ Nums w' w.heap.size i' H.inn ∧ Nums w' w.heap.size o' H.out ∧ Apt i' o' ∧ Pags w' w.heap.size (.slice (some ⟨g, 0, none⟩) p p) p zs ∧ Below w.heap.size w w' ∧ ∃ bo, w.heap.size ≤ bo ∧ bo ≤ w'.heap.size ∧ Nums w' bo o' H.out ∧ (∀ k, i'.ownBlock = some k → k < bo ∧ k ≠ g) := by
  have HM : Hid (Hm w b r c i o H) := h
  have K : Hid (Hok H) := hk
  have HZ : Hid (Nums w b (.slice (some ⟨gm, 0, none⟩) n cap) zs) := hM
  have HP : Hid (zs.length = p * 8 ∧ p ≤ 24 ∧ 1 ≤ p) := ⟨hz, hp, hp0⟩
  obtain ⟨a0, k0, rfl, _⟩ := h.r.shape
  obtain ⟨a1, k1, rfl, _⟩ := h.c.shape
  obtain ⟨a2, k2, rfl, _⟩ := h.i.shape
  obtain ⟨a3, k3, rfl, _⟩ := h.o.shape
  clear h hk hM hz hp hp0
  generalize hW : (w.alloc (.cells #[.slice a0 H.regs.length k0, .int .i64 H.pc, .slice a1 H.csr.length k1, .bool H.halted, .bool H.waiting, .bool H.rung, .int .i64 H.done, .slice a2 H.inn.length k2, .slice a3 H.out.length k3] 28)).alloc (.cells #[.int .i64 0, .int .i64 0, .int .i64 0, .int .i64 0, .int .i64 0, .int .i64 0, .int .i64 0, .int .i64 0, .int .i64 0, .int .i64 0, .int .i64 0, .int .i64 0, .int .i64 0, .int .i64 0, .int .i64 0, .int .i64 0, .int .i64 0, .int .i64 0, .int .i64 0, .int .i64 0, .int .i64 0, .int .i64 0, .int .i64 0, .int .i64 0, .int .i64 0, .int .i64 0, .int .i64 0, .int .i64 0, .bool false, .bool false, .bool false, .int .i64 0, .slice none 0 0, .slice none 0 0, .slice none 0 0, .slice none 0 0, .int .i64 0, .int .i64 0] 70) = W
  have B0 : Hid (Below w.heap.size w W) := by show Below _ _ _; rw [← hW]; exact al (al (Below.refl _ _) _) _
  obtain ⟨s, hS⟩ : ∃ s, w.heap.size = s := ⟨_, rfl⟩
  have HS : Hid (w.heap.size = s) := hS
  have VA : Hid (Vb W s #[.slice a0 H.regs.length k0, .int .i64 H.pc, .slice a1 H.csr.length k1, .bool H.halted, .bool H.waiting, .bool H.rung, .int .i64 H.done, .slice a2 H.inn.length k2, .slice a3 H.out.length k3] 28) := by
    show Vb _ _ _ _; rw [← hW, ← hS]; exact (Vb.new _ _ _).push _
  have VR : Hid (Vb W (s + 1) mrz 70) := by
    have z1 : s + 1 = (w.alloc (.cells #[.slice a0 H.regs.length k0, .int .i64 H.pc, .slice a1 H.csr.length k1, .bool H.halted, .bool H.waiting, .bool H.rung, .int .i64 H.done, .slice a2 H.inn.length k2, .slice a3 H.out.length k3] 28)).heap.size := by rw [← hS]; simp
    show Vb _ _ _ _; rw [← hW, z1]; exact Vb.new _ _ _
  have LW : Hid (s + 2 ≤ W.heap.size) := by show _ ≤ _; rw [← hW, ← hS]; simp
  have q0 := VA.out.cell 0 rfl
  have q1 := VA.out.cell 1 rfl
  have q2 := VA.out.cell 2 rfl
  have q3 := VA.out.cell 3 rfl
  have q4 := VA.out.cell 4 rfl
  have q5 := VA.out.cell 5 rfl
  have q6 := VA.out.cell 6 rfl
  have q7 := VA.out.cell 7 rfl
  have q8 := VA.out.cell 8 rfl
  go_enter Tryz.func33, Tryz.ntmps33
  go_wp2_with fail
  clear hW hS q0 q1 q2 q3 q4 q5 q6 q7 q8
  refine (i_machineX _ _ _ _ H _ _ (HM.out.keep B0.out) K.out.r16 K.out.c11 (by have := K.out.i40; omega) (by have := K.out.o40; omega)).mono ?_
  rintro e w2 ⟨i2, o2, rfl, mi, mo, ap, b2, bo, bo1, bo2, bo3, bo4⟩
  have BO : Hid (W.heap.size ≤ bo ∧ bo ≤ w2.heap.size) := ⟨bo1, bo2⟩
  have BO4 : Hid (∀ k, i2.ownBlock = some k → k < bo) := bo4
  have BO3 : Hid (Nums w2 bo o2 H.out) := bo3
  have MI : Hid (Nums w2 W.heap.size i2 H.inn) := mi
  have MO : Hid (Nums w2 W.heap.size o2 H.out) := mo
  have AP : Hid (Apt i2 o2) := ap
  have B2 : Hid (Below w.heap.size w w2) := on B0.out b2
  have VR2 : Hid (Vb w2 (s + 1) mrz 70) := VR.out.keep b2
  obtain ⟨xa, xk, rfl, _⟩ := mi.shape
  obtain ⟨ya, yk, rfl, _⟩ := mo.shape
  generalize hxn : H.inn.length = xn at *
  generalize hyn : H.out.length = yn at *
  clear mi mo ap b2 hxn hyn VR VA bo1 bo2 bo3 bo4
  go_wp2_with fail
  refine (impl_cut gm n cap zs b p w2 (HZ.out.keep B2.out) HP.out.1 HP.out.2.1 HP.out.2.2).mono ?_
  rintro e w3 ⟨g, rfl, pg, b3⟩
  have PG : Hid (Pags w3 w2.heap.size (.slice (some ⟨g, 0, none⟩) p p) p zs) := pg
  have B3 : Hid (Below w.heap.size w w3) := on B2.out b3
  have VR3 : Hid (Vb w3 (s + 1) mrz 70) := VR2.out.keep b3
  have MI3 : Hid (Nums w3 W.heap.size (.slice xa xn xk) H.inn) := MI.out.keep b3
  have MO3 : Hid (Nums w3 W.heap.size (.slice ya yn yk) H.out) := MO.out.keep b3
  have L2 : Hid (s + 1 < w2.heap.size) := VR2.out.lt
  have L3 : Hid (w2.heap.size ≤ w3.heap.size ∧ w2.heap.size ≤ g) := ⟨b3.size, (World.ownsRow.lt pg g rfl).1⟩
  have BO5 : Hid (Nums w3 bo (.slice ya yn yk) H.out) := BO3.out.keep b3
  clear pg b3 VR2 MI MO
  generalize hX : mcr H (.slice xa xn xk) (.slice ya yn yk) (.slice la ln lc) (.slice (some ⟨g, 0, none⟩) p p) (-1) (-1) = X at *
  have hsz : X.size = 38 := by rw [← hX]; rfl
  have XO : Hid (X.all (·.oneCell') = true) := by show _ = _; rw [← hX]; exact mcr_one _ _ _ _ _ _ _ rfl rfl rfl rfl
  have HX : Hid (mcr H (.slice xa xn xk) (.slice ya yn yk) (.slice la ln lc) (.slice (some ⟨g, 0, none⟩) p p) (-1) (-1) = X) := hX
  clear hX
  go_simp
  go_step
  go_step
  refine wp_build _ _ rfl X (by rw [← HX.out]; kernel_rfl) ?_
  simp only [Act.put, List.setIfInBounds_toArray, List.set_cons_zero, List.set_cons_succ]
  go_step
  go_step
  have TH : w3.there (s + 1) 0 X.size := by
    have t := mrz_there VR3.out
    rw [hsz]
    exact t
  refine wp_store_mid 70 (.tmp 6) (.tmp 12) rfl (s + 1) 0 X rfl rfl TH (by rw [hsz]; kernel_rfl) XO.out ?_
  simp only [Act.put]
  have M4 := mq_cells (s + 1) X.toList w3 0
  have B4 : Below w.heap.size w (w3.setCells (s + 1) 0 X.toList) := Mq.under B3.out M4 fun k e => by have := HS.out; omega
  have O4 : Ho W.heap.size w3 (w3.setCells (s + 1) 0 X.toList) := M4.ho fun k e => by have := LW.out; omega
  have R4 : (w3.setCells (s + 1) 0 X.toList).rangeAt (s + 1) 0 X.toList := World.rangeAt_setCells_same _ _ _ _ (by simpa using TH)
  have PG4 : Pags (w3.setCells (s + 1) 0 X.toList) w.heap.size (.slice (some ⟨g, 0, none⟩) p p) p zs := by
    obtain ⟨hge, hlt⟩ := World.ownsRow.lt PG.out g rfl
    have hh := PG.out.heap
    rw [← M4.block g hlt (by have := L2.out; omega)] at hh
    exact Pags.of_heap hh HP.out.1 (by have := B2.out.size; omega) (by have := HP.out.2.1; unfold maxLen; omega)
  generalize w3.setCells (s + 1) 0 X.toList = w4 at *
  have LD := run_loadVar_mid (P := Tryz.prog) w4 (s + 1) 0 70 X.toList _ R4 Tryz.underlying70 rfl (by rw [Array.length_toList, hsz]; kernel_rfl)
  go_wp2_with fail
  exact bodyPost_ret (v := .agg X) (by simp [results, Tryz.results33, asAddr]; rw [LD]) rfl ⟨_, _, _, by rw [HX.out], (MI3.out.ho O4).mono B0.out.size, (MO3.out.ho O4).mono B0.out.size, AP.out, PG4, B4, bo, Nat.le_trans B0.out.size BO.out.1, Nat.le_trans BO.out.2 (Nat.le_trans L3.out.1 O4.size), BO5.out.ho ⟨O4.size, fun k hb hk => O4.block k (Nat.le_trans BO.out.1 hb) hk⟩, fun k e => ⟨BO4.out k e, by have := BO4.out k e; have := BO.out.2; have := L3.out.2; omega⟩⟩
end Go.Proofs.YtpjaiebdpgggkaaGreatDoor
namespace Go.Proofs.YtpjaiebdpgggkaaGreatDoor
open Go.RowKit
set_option linter.unusedVariables false

theorem twoX {v : World} {q : Nat} {t : TypeId} {z0 z1 : Value} (h : Vb v q #[z0, z1] t) (u0 u1 : Value) :
    Vb ((v.setCell ⟨q, 0, none⟩ u0).setCell ⟨q, 1, none⟩ u1) q #[u0, u1] t ∧ Mq (fun k => k = q) v ((v.setCell ⟨q, 0, none⟩ u0).setCell ⟨q, 1, none⟩ u1) := by
  have h0 : Vb (v.setCell ⟨q, 0, none⟩ u0) q #[u0, z1] t := h.set 0 u0
  exact ⟨h0.set 1 u1, ((Mq.refl (fun k => k = q) v).set ⟨q, 0, none⟩ u0 rfl).set ⟨q, 1, none⟩ u1 rfl⟩
theorem Mq.prs {S : Nat → Prop} {w w' : World} {base : Nat} {e : TypeId} {v : Value} {rs : List (Int × Int)} (m : Mq S w w') (h : Prs e w base v rs) (hn : ∀ k, v.ownBlock = some k → ¬ S k) : Prs e w' base v rs := by
  obtain ⟨h1, h2 | ⟨g, cap, cur, hv, hg, hr, rest⟩⟩ := h
  · exact ⟨h1, .inl h2⟩
  · refine ⟨h1, .inr ⟨g, cap, cur, hv, hg, ?_, rest⟩⟩
    rw [m.block g ((Array.getElem?_eq_some_iff.1 hr).1) (hn g (by rw [hv]; rfl))]
    exact hr
theorem str_take (j : Nat) (h : j < 8) : strL.take (j + 1) = strL.take j ++ [((j : Int), 7)] := by
  have e : j = 0 ∨ j = 1 ∨ j = 2 ∨ j = 3 ∨ j = 4 ∨ j = 5 ∨ j = 6 ∨ j = 7 := by omega
  rcases e with rfl | rfl | rfl | rfl | rfl | rfl | rfl | rfl <;> rfl
set_option maxHeartbeats 2000000 in
theorem i_straight (w : World) : Calls Tryz.prog 142 #[] w fun e w' => ∃ u, e = .returned u ∧ Prs 55 w' w.heap.size u strL ∧ Below w.heap.size w w' := by
  go_enter Tryz.func142, Tryz.ntmps142
  go_wp2_with fail
  go_loopw [1, 2, 3] (fun u _ c wr => ∃ j : Nat, j ≤ 8 ∧ c = .int .i64 j ∧ Prs 55 wr w.heap.size u (strL.take j) ∧ Below w.heap.size w wr) (fun _ _ c _ => 8 - (intOf c).toNat)
  case atStart => exact ⟨0, Nat.zero_le _, rfl, Prs.nil _ _ _, Below.refl _ _⟩
  case round =>
    obtain ⟨j, hj, rfl, hP, hB⟩ := hrel
    have PB : Hid (Prs 55 wr w.heap.size _ (strL.take j)) := hP
    have HB : Hid (Below w.heap.size w wr) := hB
    obtain ⟨ua, uc, rfl, _, _, _⟩ := hP.shape
    have HLN : Hid ((strL.take j).length ≤ 8) := by show _ ≤ _; simp; omega
    generalize hun : (strL.take j).length = un at *
    clear hP hB
    by_cases hlt : j < 8
    · have hI : (j : Int) < 8 := by omega
      have HL : Hid (j < 8) := hlt
      have HT : Hid (strL.take (j + 1) = strL.take j ++ [((j : Int), 7)]) := str_take j hlt
      clear hlt
      go_wp2_with fail
      refine (impl_pageFor (j : Int) 7 wr).mono ?_
      rintro e w5 ⟨rfl, b5⟩
      have e1 : (forP (j : Int) 7).1 = j := rfl
      have e2 : (forP (j : Int) 7).2 = 7 := rfl
      rw [e1, e2]
      have B5 : Hid (Below w.heap.size w w5) := on HB.out b5
      have P5 : Hid (Prs 55 w5 w.heap.size (.slice ua un uc) (strL.take j)) := PB.out.keep b5
      clear b5 e1 e2
      go_wp2_with (at_builtin; refine wp_pair 33 55 Tryz.underlying33 info_page _ rfl _ _ rfl w.heap.size _ _ rfl (P5.out.keep (al (Below.refl _ _) _)) _ (j : Int) 7 rfl (cell_new rfl) (cell_new rfl) (by rw [hun]; have := HLN.out; omega) (by have := B5.out.size; simp; omega) ?_; intro v' w' hP' hG')
      have BP : Hid (Below w.heap.size w w') := (al B5.out _).grown hG' (by have := B5.out.size; simp; omega) (fun k hk => by have := (P5.out.lt k hk).1; omega)
      have PP : Hid (Prs 55 w' w.heap.size v' (strL.take (j + 1))) := by show Prs _ _ _ _ _; rw [HT.out]; exact hP'
      clear hP' hG'
      go_wp2_with fail
      go_roundw
      case rel => exact ⟨j + 1, by have := HL.out; omega, by go_num, PP.out, BP.out⟩
      case measure => have := HL.out; simp [intOf]; omega
    · have hI : ¬ (j : Int) < 8 := by omega
      obtain rfl : j = 8 := by omega
      go_wp2_with fail
      go_ret
      exact ⟨_, rfl, PB.out, HB.out⟩

theorem eight_at {zs : List Int} {p k : Nat} (hz : zs.length = p * 8) (hk : k < p) {w : World} {base g : Nat} (h : Pags w base (.slice (some ⟨g, 0, none⟩) p p) p zs) : w.rangeAt g (k * 8) [.int .i64 ((eight zs k).getD 0 0), .int .i64 ((eight zs k).getD 1 0), .int .i64 ((eight zs k).getD 2 0), .int .i64 ((eight zs k).getD 3 0), .int .i64 ((eight zs k).getD 4 0), .int .i64 ((eight zs k).getD 5 0), .int .i64 ((eight zs k).getD 6 0), .int .i64 ((eight zs k).getD 7 0)] := fun j v hv => by
  have hj : j < 8 := by have := (List.getElem?_eq_some_iff.1 hv).1; simpa using this
  rw [h.cell (k * 8 + j) (by omega)]
  have e : zs.getD (k * 8 + j) 0 = (eight zs k).getD j 0 := by
    simp only [eight, List.getD, List.getElem?_take, hj, if_true, List.getElem?_drop]
  rw [e]
  have ej : j = 0 ∨ j = 1 ∨ j = 2 ∨ j = 3 ∨ j = 4 ∨ j = 5 ∨ j = 6 ∨ j = 7 := by omega
  rcases ej with rfl | rfl | rfl | rfl | rfl | rfl | rfl | rfl <;> (cases hv; rfl)
theorem lit8 {zs : List Int} (j : Nat) (hj : j < 8) : (#[.int .i64 (zs.getD 0 0), .int .i64 (zs.getD 1 0), .int .i64 (zs.getD 2 0), .int .i64 (zs.getD 3 0), .int .i64 (zs.getD 4 0), .int .i64 (zs.getD 5 0), .int .i64 (zs.getD 6 0), .int .i64 (zs.getD 7 0)] : Array Value)[j]? = some (.int .i64 (zs.getD j 0)) := by
  have ej : j = 0 ∨ j = 1 ∨ j = 2 ∨ j = 3 ∨ j = 4 ∨ j = 5 ∨ j = 6 ∨ j = 7 := by omega
  rcases ej with rfl | rfl | rfl | rfl | rfl | rfl | rfl | rfl <;> rfl
theorem there8 {w : World} {q : Nat} {t : TypeId} (h : Vb w q #[.int .i64 0, .int .i64 0, .int .i64 0, .int .i64 0, .int .i64 0, .int .i64 0, .int .i64 0, .int .i64 0] t) : w.there q 0 8 := mrz_there h

set_option maxRecDepth 20000 in
set_option maxHeartbeats 8000000 in
theorem i_space (q : Nat) (i o : Value) (H : Ht) (pg pc : Nat) (ps : List (Int × Int)) (g p : Nat) (zs : List Int) (ca ri : Int) (b : Nat) (w : World) (hv : Vb w q (mcr H i o (.slice (some ⟨pg, 0, none⟩) 8 pc) (.slice (some ⟨g, 0, none⟩) p p) ca ri) 70) (hP : Prs 55 w b (.slice (some ⟨pg, 0, none⟩) 8 pc) ps) (hG : Pags w b (.slice (some ⟨g, 0, none⟩) p p) p zs) (sn : Sn H ps zs p) :
    Calls Tryz.prog 135 #[.pointer (some ⟨q, 0, none⟩)] w fun e w' => ∃ u, e = .returned (.agg #[.int .i64 (spC H ps), u]) ∧ Prs 55 w' w.heap.size u (spP H ps zs) ∧ Below w.heap.size w w' := by
  have SN : Hid (Sn H ps zs p) := sn
  have HV : Hid (Vb w q (mcr H i o (.slice (some ⟨pg, 0, none⟩) 8 pc) (.slice (some ⟨g, 0, none⟩) p p) ca ri) 70) := hv
  have HP : Hid (Prs 55 w b (.slice (some ⟨pg, 0, none⟩) 8 pc) ps) := hP
  have HG : Hid (Pags w b (.slice (some ⟨g, 0, none⟩) p p) p zs) := hG
  clear sn hv hP hG
  generalize hW : w.alloc (.cells #[.int .i64 0, .slice none 0 0] 149) = W
  have B0 : Hid (Below w.heap.size w W) := by show Below _ _ _; rw [← hW]; exact al (Below.refl _ _) _
  obtain ⟨s, hS⟩ : ∃ s, w.heap.size = s := ⟨_, rfl⟩
  have HS : Hid (w.heap.size = s) := hS
  have VR : Hid (Vb W s #[.int .i64 0, .slice none 0 0] 149) := by show Vb _ _ _ _; rw [← hW, ← hS]; exact Vb.new _ _ _
  have V0 : Hid (Vb W q (mcr H i o (.slice (some ⟨pg, 0, none⟩) 8 pc) (.slice (some ⟨g, 0, none⟩) p p) ca ri) 70) := HV.out.keep B0.out
  obtain ⟨T, hT⟩ : ∃ T, tabV H = T := ⟨_, rfl⟩
  have HT : Hid (tabV H = T) := hT
  have c27 : W.cell? ⟨q, 27, none⟩ = some (.int .i64 T) := by rw [← hT]; exact V0.out.cell 27 rfl
  have c34 : W.cell? ⟨q, 34, none⟩ = some (.slice (some ⟨pg, 0, none⟩) 8 pc) := V0.out.cell 34 rfl
  have hT0 : 0 ≤ T := by rw [← hT]; exact SN.out.t0
  have hT8 : T ≤ 8 := by rw [← hT]; exact SN.out.t8
  clear hT
  go_enter Tryz.func135, Tryz.ntmps135
  by_cases ht : T = 0
  · subst ht
    have E1 : Hid (spC H ps = 0 ∧ spP H ps zs = strL) := ⟨if_pos HT.out, if_pos HT.out⟩
    go_wp2_with fail
    clear hW hS
    refine (i_straight W).mono ?_
    rintro e w1 ⟨u, rfl, pu, b1⟩
    obtain ⟨ua, uc, rfl, _⟩ := pu.shape
    have PU : Hid (Prs 55 w1 W.heap.size (.slice ua strL.length uc) strL) := pu
    have B1 : Hid (Below w.heap.size w w1) := on B0.out b1
    have VR1 : Hid (Vb w1 s #[.int .i64 0, .slice none 0 0] 149) := VR.out.keep b1
    have LS : Hid (s < W.heap.size) := VR.out.lt
    have p0 := VR1.out.cell 0 rfl
    have f0 := VR1.out.free 0
    have p1 := VR1.out.cell 1 rfl
    have f1 := VR1.out.free 1
    clear pu b1
    go_wp2_with fail
    have NN : Hid (_ ∧ _) := twoX VR1.out (.int .i64 0) (.slice ua strL.length uc)
    have P2 : Hid (Prs 55 ((w1.setCell ⟨s, 0, none⟩ (.int .i64 0)).setCell ⟨s, 1, none⟩ (.slice ua strL.length uc)) W.heap.size (.slice ua strL.length uc) strL) := NN.out.2.prs PU.out fun k e f => by have := (PU.out.lt k e).1; have := LS.out; omega
    clear p0 f0 p1 f1
    generalize ((w1.setCell ⟨s, 0, none⟩ (.int .i64 0)).setCell ⟨s, 1, none⟩ (.slice ua strL.length uc)) = V at *
    have x0 := NN.out.1.cell 0 rfl
    have x1 := NN.out.1.cell 1 rfl
    exact bodyPost_ret (v := .agg #[.int .i64 0, .slice ua strL.length uc]) (by simp [results, Tryz.results135, go_sem, x0, x1]) rfl
      ⟨_, by rw [E1.out.1], by rw [E1.out.2]; exact P2.out.mono B0.out.size, Mq.under B1.out NN.out.2 fun k e => by have := HS.out; omega⟩
  obtain ⟨j, hj⟩ : ∃ j : Nat, T - 1 = (j : Int) := ⟨(T - 1).toNat, by omega⟩
  have hj7 : j < 8 := by omega
  have HJ : Hid (j < 8) := hj7
  have hji : (j : Int) < 8 := by omega
  have TZ : Hid (¬ tabV H = 0) := by show ¬ _; rw [HT.out]; exact ht
  have TP : Hid (tpg H ps = ps.getD j (0, 0)) := by
    show _ = _
    unfold tpg
    rw [HT.out, hj]
    rfl
  have d0 := cell_keep B0.out (HP.out.cell SN.out.l8.symm j hj7).1
  have d1 := cell_keep B0.out (HP.out.cell SN.out.l8.symm j hj7).2
  rw [← TP.out] at d0 d1
  obtain ⟨x, hx⟩ : ∃ x, (tpg H ps).1 = x := ⟨_, rfl⟩
  obtain ⟨y, hy⟩ : ∃ y, (tpg H ps).2 = y := ⟨_, rfl⟩
  have HX : Hid ((tpg H ps).1 = x) := hx
  have HY : Hid ((tpg H ps).2 = y) := hy
  rw [hx] at d0
  rw [hy] at d1
  have gb : pg < W.heap.size := block_of_cell d0
  have ht1 : (T == 0) = false := by simpa using ht
  have NB : Hid (noB H ps = (decide (T = 8) || (bits BinOp.and .i64 y 1 == 0))) := by show _ = _; unfold noB; rw [HT.out, HY.out]
  have SC : Hid (spC H ps = if noB H ps then 7 else 0) := if_neg TZ.out
  have SP : Hid (spP H ps zs = if noB H ps then [] else (eight zs x.toNat).map entP) := by show _ = _; rw [← HX.out]; exact if_neg TZ.out
  clear hx hy ht hj7
  go_upto_region 5 with fail
  generalize hW1 : W.alloc (.cells #[.int .i64 x, .int .i64 y] 55) = W1
  obtain ⟨n, hn⟩ : ∃ n, W.heap.size = n := ⟨_, rfl⟩
  rw [hn]
  have VN : Hid (Vb W1 n #[.int .i64 x, .int .i64 y] 55) := by show Vb _ _ _ _; rw [← hW1, ← hn]; exact Vb.new _ _ _
  have b1 : Below W.heap.size W W1 := by rw [← hW1]; exact al (Below.refl _ _) _
  have B1 : Hid (Below w.heap.size w W1) := on B0.out b1
  have VR1 : Hid (Vb W1 s #[.int .i64 0, .slice none 0 0] 149) := VR.out.keep b1
  have V1 : Hid (Vb W1 q (mcr H i o (.slice (some ⟨pg, 0, none⟩) 8 pc) (.slice (some ⟨g, 0, none⟩) p p) ca ri) 70) := V0.out.keep b1
  have G1 : Hid (Pags W1 b (.slice (some ⟨g, 0, none⟩) p p) p zs) := HG.out.keep B1.out
  clear hW hS hW1 hn b1 d0 d1 gb c27 c34 VR V0
  have n0 := VN.out.cell 0 rfl
  have n1 := VN.out.cell 1 rfl
  cases hnb : noB H ps
  case true =>
    have E1 : Hid (spC H ps = 7 ∧ spP H ps zs = []) := ⟨by rw [SC.out, hnb]; rfl, by rw [SP.out, hnb]; rfl⟩
    have p0 := VR1.out.cell 0 rfl
    have f0 := VR1.out.free 0
    have p1 := VR1.out.cell 1 rfl
    have f1 := VR1.out.free 1
    have NB2 := NB.out
    rw [hnb] at NB2
    have FIN : ∀ V, Vb V s #[.int .i64 7, .slice none 0 0] 149 → Below w.heap.size w V → (∃ u, Ending.returned (Value.agg #[.int .i64 7, .slice none 0 0]) = .returned (.agg #[.int .i64 (spC H ps), u]) ∧ Prs 55 V w.heap.size u (spP H ps zs) ∧ Below w.heap.size w V) := fun V _ hB => ⟨_, by rw [E1.out.1], by rw [E1.out.2]; exact Prs.nil _ _ _, hB⟩
    have FF : Hid (∀ V, Vb V s #[.int .i64 7, .slice none 0 0] 149 → Below w.heap.size w V → (∃ u, Ending.returned (Value.agg #[.int .i64 7, .slice none 0 0]) = .returned (.agg #[.int .i64 (spC H ps), u]) ∧ Prs 55 V w.heap.size u (spP H ps zs) ∧ Below w.heap.size w V)) := FIN
    clear FIN
    by_cases h7 : j = 7
    · subst h7
      clear hnb NB2
      go_wp2_with fail
      have NN : Hid (_ ∧ _) := twoX VR1.out (.int .i64 7) (.slice none 0 0)
      clear p0 f0 p1 f1 n0 n1
      generalize ((W1.setCell ⟨s, 0, none⟩ (.int .i64 7)).setCell ⟨s, 1, none⟩ (.slice none 0 0)) = V at *
      have x0 := NN.out.1.cell 0 rfl
      have x1 := NN.out.1.cell 1 rfl
      exact bodyPost_ret (v := .agg #[.int .i64 7, .slice none 0 0]) (by simp [results, Tryz.results135, go_sem, x0, x1]) rfl
        (FF.out _ NN.out.1 (Mq.under B1.out NN.out.2 fun k e => by have := HS.out; omega))
    · have h7b : ((j : Int) == 7) = false := by simp; omega
      have hb0 : (bits BinOp.and .i64 y 1 == 0) = true := by
        have : decide (T = 8) = false := by simp; omega
        rw [this] at NB2
        exact NB2.symm
      clear hnb NB2
      go_wp2_with fail
      have NN : Hid (_ ∧ _) := twoX VR1.out (.int .i64 7) (.slice none 0 0)
      clear p0 f0 p1 f1 n0 n1
      generalize ((W1.setCell ⟨s, 0, none⟩ (.int .i64 7)).setCell ⟨s, 1, none⟩ (.slice none 0 0)) = V at *
      have x0 := NN.out.1.cell 0 rfl
      have x1 := NN.out.1.cell 1 rfl
      exact bodyPost_ret (v := .agg #[.int .i64 7, .slice none 0 0]) (by simp [results, Tryz.results135, go_sem, x0, x1]) rfl
        (FF.out _ NN.out.1 (Mq.under B1.out NN.out.2 fun k e => by have := HS.out; omega))
  obtain ⟨k, hkp, hxk⟩ := tpg_to SN.out TZ.out hnb
  obtain rfl : x = (k : Int) := HX.out.symm.trans hxk
  have E1 : Hid (spC H ps = 0 ∧ spP H ps zs = (eight zs k).map entP) := ⟨by rw [SC.out, hnb]; rfl, by rw [SP.out, hnb]; rfl⟩
  have NB2 := NB.out
  rw [hnb] at NB2
  have NB3 : decide (T = 8) = false ∧ (bits BinOp.and .i64 y 1 == 0) = false := by
    have := NB2.symm
    simpa using this
  have h7b : ((j : Int) == 7) = false := by have := NB3.1; simp at this; simp; omega
  have hb0 : (bits BinOp.and .i64 y 1 == 0) = false := NB3.2
  have KP : Hid (((k : Int) < (p : Int)) ∧ k < p) := ⟨by omega, hkp⟩
  have L8 : Hid ((eight zs k).length = 8) := eight_length zs p k SN.out.zl hkp
  have AW : Hid ((eight zs k).all isW = true) := all_eight SN.out.zw k
  clear hnb NB2 NB3 hxk hkp
  go_upto_region 7 with fail
  clear n0 n1
  have D7 : Hid (Below W1.heap.size W1 W1.drew) := (Below.refl _ _).drew
  have cq : Hid (∀ w', Below W1.heap.size W1 w' → w'.cell? ⟨q, 35, none⟩ = some (.slice (some ⟨g, 0, none⟩) p p)) := fun w' hs => (V1.out.keep hs).cell 35 rfl
  have cn : Hid (∀ w', Below W1.heap.size W1 w' → w'.cell? ⟨n, 0, none⟩ = some (.int .i64 (k : Int))) := fun w' hs => (VN.out.keep hs).cell 0 rfl
  have RG : Hid (∀ w', Below W1.heap.size W1 w' → w'.rangeAt g (k * 8) [.int .i64 ((eight zs k).getD 0 0), .int .i64 ((eight zs k).getD 1 0), .int .i64 ((eight zs k).getD 2 0), .int .i64 ((eight zs k).getD 3 0), .int .i64 ((eight zs k).getD 4 0), .int .i64 ((eight zs k).getD 5 0), .int .i64 ((eight zs k).getD 6 0), .int .i64 ((eight zs k).getD 7 0)]) := fun w' hs => eight_at SN.out.zl KP.out.2 (G1.out.keep hs)
  refine wp_region_held (S := fun w' => Below W1.heap.size W1 w') (by kernel_rfl) ?_
  change wpAnyH _ _ _ _ _ _ _ _ (World.drew _)
  generalize W1.drew = d7 at *
  refine wpAnyH_take (i := 0) (v := .pointer (some ⟨q, 0, none⟩)) rfl (by kernel_rfl) (by kernel_rfl) (by kernel_rfl) (fun _ _ _ h => h) (Or.inl ⟨by rfl, fun w' hs => by go_simp⟩) D7.out ?_
  change wpAnyH _ _ _ _ _ _ _ (Act.put _ (some 40) _) _
  simp only [Act.put, List.setIfInBounds_toArray, List.set_cons_zero, List.set_cons_succ]
  refine wpAnyH_take (i := 1) (v := .pointer (some ⟨q, 0, none⟩)) rfl (by kernel_rfl) (by kernel_rfl) (by kernel_rfl) (fun _ _ _ h => h) (Or.inl ⟨by rfl, fun w' hs => by go_simp⟩) D7.out ?_
  change wpAnyH _ _ _ _ _ _ _ (Act.put _ (some 41) _) _
  simp only [Act.put, List.setIfInBounds_toArray, List.set_cons_zero, List.set_cons_succ]
  refine wpAnyH_take (i := 2) (v := .pointer (some ⟨q, 35, none⟩)) rfl (by kernel_rfl) (by kernel_rfl) (by kernel_rfl) (fun _ _ _ h => h) (Or.inl ⟨by rfl, fun w' hs => by go_simp⟩) D7.out ?_
  change wpAnyH _ _ _ _ _ _ _ (Act.put _ (some 42) _) _
  simp only [Act.put, List.setIfInBounds_toArray, List.set_cons_zero, List.set_cons_succ]
  refine wpAnyH_take (i := 3) (v := .slice (some ⟨g, 0, none⟩) p p) rfl (by kernel_rfl) (by kernel_rfl) (by kernel_rfl) (fun _ _ _ h => h) (Or.inl ⟨by rfl, fun w' hs => by have hc := cq.out w' hs; go_simp⟩) D7.out ?_
  change wpAnyH _ _ _ _ _ _ _ (Act.put _ (some 43) _) _
  simp only [Act.put, List.setIfInBounds_toArray, List.set_cons_zero, List.set_cons_succ]
  refine wpAnyH_take (i := 4) (v := .pointer (some ⟨n, 0, none⟩)) rfl (by kernel_rfl) (by kernel_rfl) (by kernel_rfl) (fun _ _ _ h => h) (Or.inl ⟨by rfl, fun w' hs => by go_simp⟩) D7.out ?_
  change wpAnyH _ _ _ _ _ _ _ (Act.put _ (some 44) _) _
  simp only [Act.put, List.setIfInBounds_toArray, List.set_cons_zero, List.set_cons_succ]
  refine wpAnyH_take (i := 5) (v := .int .i64 (k : Int)) rfl (by kernel_rfl) (by kernel_rfl) (by kernel_rfl) (fun _ _ _ h => h) (Or.inl ⟨by rfl, fun w' hs => by have hc := cn.out w' hs; go_simp⟩) D7.out ?_
  change wpAnyH _ _ _ _ _ _ _ (Act.put _ (some 45) _) _
  simp only [Act.put, List.setIfInBounds_toArray, List.set_cons_zero, List.set_cons_succ]
  refine wpAnyH_take (i := 6) (v := .pointer (some ⟨g, k * 8, none⟩)) rfl (by kernel_rfl) (by kernel_rfl) (by kernel_rfl) (fun _ _ _ h => h) (Or.inl ⟨by rfl, fun w' hs => by have h1 := KP.out.1; have h2 := KP.out.2; go_simp⟩) D7.out ?_
  change wpAnyH _ _ _ _ _ _ _ (Act.put _ (some 46) _) _
  simp only [Act.put, List.setIfInBounds_toArray, List.set_cons_zero, List.set_cons_succ]
  refine wpAnyH_take (i := 7) (v := .agg #[.int .i64 ((eight zs k).getD 0 0), .int .i64 ((eight zs k).getD 1 0), .int .i64 ((eight zs k).getD 2 0), .int .i64 ((eight zs k).getD 3 0), .int .i64 ((eight zs k).getD 4 0), .int .i64 ((eight zs k).getD 5 0), .int .i64 ((eight zs k).getD 6 0), .int .i64 ((eight zs k).getD 7 0)]) rfl (by kernel_rfl) (by kernel_rfl) (by kernel_rfl) (fun _ _ _ h => h) (yieldsIf_load_mid (by rfl) 118 (.tmp 46) rfl g (k * 8) rfl [.int .i64 ((eight zs k).getD 0 0), .int .i64 ((eight zs k).getD 1 0), .int .i64 ((eight zs k).getD 2 0), .int .i64 ((eight zs k).getD 3 0), .int .i64 ((eight zs k).getD 4 0), .int .i64 ((eight zs k).getD 5 0), .int .i64 ((eight zs k).getD 6 0), .int .i64 ((eight zs k).getD 7 0)] _ RG.out Tryz.underlying118 rfl (by kernel_rfl)) D7.out ?_
  change wpAnyH _ _ _ _ _ _ _ (Act.put _ (some 47) _) _
  simp only [Act.put, List.setIfInBounds_toArray, List.set_cons_zero, List.set_cons_succ]
  refine wpAnyH_ready (rs := [8]) (by kernel_rfl) (by simp) ?_
  refine AllReadyH.cons rfl (fun K hK => ?_) AllReadyH.nil
  rw [if_pos (by rfl)]
  go_simp
  obtain ⟨m, hm⟩ : ∃ m, d7.heap.size = m := ⟨_, rfl⟩
  have VM0 : Hid (Vb (d7.alloc (.cells #[.int .i64 0, .int .i64 0, .int .i64 0, .int .i64 0, .int .i64 0, .int .i64 0, .int .i64 0, .int .i64 0] 118)) m #[.int .i64 0, .int .i64 0, .int .i64 0, .int .i64 0, .int .i64 0, .int .i64 0, .int .i64 0, .int .i64 0] 118) := by show Vb _ _ _ _; rw [← hm]; exact Vb.new _ _ _
  have D8 : Hid (Below W1.heap.size W1 (d7.alloc (.cells #[.int .i64 0, .int .i64 0, .int .i64 0, .int .i64 0, .int .i64 0, .int .i64 0, .int .i64 0, .int .i64 0] 118))) := al D7.out _
  have MU : Hid (W1.heap.size ≤ m) := by show _ ≤ _; rw [← hm]; exact D7.out.size
  rw [hm]
  generalize d7.alloc (.cells #[.int .i64 0, .int .i64 0, .int .i64 0, .int .i64 0, .int .i64 0, .int .i64 0, .int .i64 0, .int .i64 0] 118) = d8 at *
  clear hm
  refine hK.out _ _ D8.out (fun _ => ?_)
  clear hK K
  refine wpAnyH_ready (rs := [9]) (by kernel_rfl) (by simp) ?_
  refine AllReadyH.cons rfl (fun K hK => ?_) AllReadyH.nil
  rw [if_pos (by rfl)]
  refine wp_store_mid 118 (.tmp 5) (.tmp 47) rfl m 0 #[.int .i64 ((eight zs k).getD 0 0), .int .i64 ((eight zs k).getD 1 0), .int .i64 ((eight zs k).getD 2 0), .int .i64 ((eight zs k).getD 3 0), .int .i64 ((eight zs k).getD 4 0), .int .i64 ((eight zs k).getD 5 0), .int .i64 ((eight zs k).getD 6 0), .int .i64 ((eight zs k).getD 7 0)] rfl rfl (there8 VM0.out) (by kernel_rfl) (by simp [Value.oneCell']) ?_
  change K (Act.put _ none undef) _
  simp only [Act.put]
  have M9 := mq_cells m [.int .i64 ((eight zs k).getD 0 0), .int .i64 ((eight zs k).getD 1 0), .int .i64 ((eight zs k).getD 2 0), .int .i64 ((eight zs k).getD 3 0), .int .i64 ((eight zs k).getD 4 0), .int .i64 ((eight zs k).getD 5 0), .int .i64 ((eight zs k).getD 6 0), .int .i64 ((eight zs k).getD 7 0)] d8 0
  have D9 : Hid (Below W1.heap.size W1 (d8.setCells m 0 [.int .i64 ((eight zs k).getD 0 0), .int .i64 ((eight zs k).getD 1 0), .int .i64 ((eight zs k).getD 2 0), .int .i64 ((eight zs k).getD 3 0), .int .i64 ((eight zs k).getD 4 0), .int .i64 ((eight zs k).getD 5 0), .int .i64 ((eight zs k).getD 6 0), .int .i64 ((eight zs k).getD 7 0)])) := Mq.under D8.out M9 fun k e => by have := MU.out; omega
  have R9 : Hid ((d8.setCells m 0 [.int .i64 ((eight zs k).getD 0 0), .int .i64 ((eight zs k).getD 1 0), .int .i64 ((eight zs k).getD 2 0), .int .i64 ((eight zs k).getD 3 0), .int .i64 ((eight zs k).getD 4 0), .int .i64 ((eight zs k).getD 5 0), .int .i64 ((eight zs k).getD 6 0), .int .i64 ((eight zs k).getD 7 0)]).rangeAt m 0 [.int .i64 ((eight zs k).getD 0 0), .int .i64 ((eight zs k).getD 1 0), .int .i64 ((eight zs k).getD 2 0), .int .i64 ((eight zs k).getD 3 0), .int .i64 ((eight zs k).getD 4 0), .int .i64 ((eight zs k).getD 5 0), .int .i64 ((eight zs k).getD 6 0), .int .i64 ((eight zs k).getD 7 0)]) := World.rangeAt_setCells_same _ _ _ _ (there8 VM0.out)
  generalize d8.setCells m 0 [.int .i64 ((eight zs k).getD 0 0), .int .i64 ((eight zs k).getD 1 0), .int .i64 ((eight zs k).getD 2 0), .int .i64 ((eight zs k).getD 3 0), .int .i64 ((eight zs k).getD 4 0), .int .i64 ((eight zs k).getD 5 0), .int .i64 ((eight zs k).getD 6 0), .int .i64 ((eight zs k).getD 7 0)] = d9 at *
  refine hK.out _ _ D9.out (fun _ => ?_)
  clear hK K M9
  refine wpAnyH_done (by kernel_rfl) ?_ _
  have mb : m < d9.heap.size := block_of_cell (R9.out 0 _ rfl)
  go_wp2_with fail
  refine (impl_fromR m 0 8 (eight zs k) d9 L8.out (fun j hj => by have t := R9.out j _ (by simpa using lit8 (zs := eight zs k) j hj); simpa using t)).mono ?_
  rintro e w1 ⟨u, rfl, pu, b2⟩
  have e1 : fromC (eight zs k) = 0 := by unfold fromC; rw [if_pos L8.out, AW.out]; rfl
  have e2 : fromP (eight zs k) = (eight zs k).map entP := by unfold fromP; rw [if_pos L8.out, AW.out]; rfl
  rw [e1]
  rw [e2] at pu
  clear e1 e2
  obtain ⟨ua, uc, rfl, _⟩ := pu.shape
  obtain ⟨ul, hul⟩ : ∃ ul, ((eight zs k).map entP).length = ul := ⟨_, rfl⟩
  rw [hul] at pu ⊢
  have PU : Hid (Prs 55 w1 d9.heap.size (.slice ua ul uc) ((eight zs k).map entP)) := pu
  have BX : Hid (Below W1.heap.size W1 w1) := on D9.out b2
  have B2 : Hid (Below w.heap.size w w1) := on B1.out BX.out
  have VR2 : Hid (Vb w1 s #[.int .i64 0, .slice none 0 0] 149) := VR1.out.keep BX.out
  have LS : Hid (s < d9.heap.size) := Nat.lt_of_lt_of_le VR1.out.lt D9.out.size
  have LW : Hid (w.heap.size ≤ d9.heap.size) := Nat.le_trans B1.out.size D9.out.size
  clear pu b2 hul mb
  have p0 := VR2.out.cell 0 rfl
  have f0 := VR2.out.free 0
  have p1 := VR2.out.cell 1 rfl
  have f1 := VR2.out.free 1
  go_wp2_with fail
  have NN : Hid (_ ∧ _) := twoX VR2.out (.int .i64 0) (.slice ua ul uc)
  have P2 : Hid (Prs 55 ((w1.setCell ⟨s, 0, none⟩ (.int .i64 0)).setCell ⟨s, 1, none⟩ (.slice ua ul uc)) d9.heap.size (.slice ua ul uc) ((eight zs k).map entP)) := NN.out.2.prs PU.out fun k e f => by have := (PU.out.lt k e).1; have := LS.out; omega
  clear p0 f0 p1 f1
  generalize ((w1.setCell ⟨s, 0, none⟩ (.int .i64 0)).setCell ⟨s, 1, none⟩ (.slice ua ul uc)) = V at *
  have x0 := NN.out.1.cell 0 rfl
  have x1 := NN.out.1.cell 1 rfl
  exact bodyPost_ret (v := .agg #[.int .i64 0, .slice ua ul uc]) (by simp [results, Tryz.results135, go_sem, x0, x1]) rfl
    ⟨_, by rw [E1.out.1], by rw [E1.out.2]; exact P2.out.mono LW.out, Mq.under B2.out NN.out.2 fun k e => by have := HS.out; omega⟩
end Go.Proofs.YtpjaiebdpgggkaaGreatDoor
namespace Go.Proofs.YtpjaiebdpgggkaaGreatDoor
open Go.RowKit
set_option linter.unusedVariables false

set_option maxHeartbeats 4000000 in
theorem i_through2 (x k : Int) (S q : Nat) (v : Value) (c0 y0 c1 y1 C Y : Int) (w : World) (hS : S < w.heap.size)
    (hf0 : w.cell? ⟨S, 0, none⟩ = some (.func (.func 137) #[v] #[])) (hf1 : w.cell? ⟨S, 1, none⟩ = some (.func (.func 138) #[.pointer (some ⟨q, 0, none⟩)] #[]))
    (h0 : ∀ u, Below w.heap.size w u → Calls Tryz.prog 137 #[v, .int .i64 x, .int .i64 k] u fun e w' => e = .returned (.agg #[.int .i64 c0, .int .i64 y0]) ∧ Below u.heap.size u w')
    (h1 : c0 = 0 → ∀ u, Below w.heap.size w u → Calls Tryz.prog 138 #[.pointer (some ⟨q, 0, none⟩), .int .i64 y0, .int .i64 k] u fun e w' => e = .returned (.agg #[.int .i64 c1, .int .i64 y1]) ∧ Below u.heap.size u w') (hr : (c0 = 0 → C = c1 ∧ Y = y1) ∧ (¬ c0 = 0 → C = c0 ∧ Y = y0)) :
    Calls Tryz.prog 136 #[.int .i64 x, .int .i64 k, .slice (some ⟨S, 0, none⟩) 2 2] w fun e w' => e = .returned (.agg #[.int .i64 C, .int .i64 Y]) ∧ Below w.heap.size w w' := by
  have F0 : Hid (w.cell? ⟨S, 0, none⟩ = some (.func (.func 137) #[v] #[])) := hf0
  have F1 : Hid (w.cell? ⟨S, 1, none⟩ = some (.func (.func 138) #[.pointer (some ⟨q, 0, none⟩)] #[])) := hf1
  have H1 : Hid (c0 = 0 → ∀ u, Below w.heap.size w u → Calls Tryz.prog 138 #[.pointer (some ⟨q, 0, none⟩), .int .i64 y0, .int .i64 k] u fun e w' => e = .returned (.agg #[.int .i64 c1, .int .i64 y1]) ∧ Below u.heap.size u w') := h1
  have HR : Hid ((c0 = 0 → C = c1 ∧ Y = y1) ∧ (¬ c0 = 0 → C = c0 ∧ Y = y0)) := hr
  clear hf0 hf1 h1 hr
  go_enter Tryz.func136, Tryz.ntmps136
  go_wp2_with fail
  go_loopw [9, 14] (fun _ c wr => ∃ (j : Nat) (y : Int), j ≤ 2 ∧ c = .int .i64 j ∧ ((j = 0 ∧ y = x) ∨ (j = 1 ∧ y = y0 ∧ c0 = 0) ∨ (j = 2 ∧ y = y1 ∧ c0 = 0 ∧ c1 = 0)) ∧ Below w.heap.size w wr ∧ wr.cell? ⟨w.heap.size, 0, none⟩ = some (.int .i64 0) ∧ wr.cell? ⟨w.heap.size, 1, none⟩ = some (.int .i64 0) ∧ wr.frozen? ⟨w.heap.size, 0, none⟩ = false ∧ wr.frozen? ⟨w.heap.size, 1, none⟩ = false
    ∧ wr.cell? ⟨w.heap.size + 1, 0, none⟩ = some (.int .i64 0) ∧ wr.cell? ⟨w.heap.size + 1, 1, none⟩ = some (.int .i64 y) ∧ wr.frozen? ⟨w.heap.size + 1, 0, none⟩ = false ∧ wr.frozen? ⟨w.heap.size + 1, 1, none⟩ = false) (fun _ c _ => 2 - (intOf c).toNat)
  case atStart => exact ⟨0, x, Nat.zero_le _, rfl, .inl ⟨rfl, rfl⟩, al (al (Below.refl _ _) _) _, by simp, by simp, by simp, by simp, by simp, by simp, by simp, by simp⟩
  case round =>
    obtain ⟨j, y, hj, rfl, hT, hB, r0, r1, f0, f1, p0, p1, g0, g1⟩ := hrel
    have HB : Hid (Below w.heap.size w wr) := hB
    have s1 : w.heap.size + 1 < wr.heap.size := block_of_cell p0
    have s0 : w.heap.size < wr.heap.size := by omega
    have Sw : S < wr.heap.size := by omega
    rcases hT with ⟨rfl, rfl⟩ | ⟨rfl, rfl, hz⟩ | ⟨rfl, rfl, hz0, hz1⟩
    · have c1' := cell_keep hB F0.out
      clear hB hj
      by_cases hcc : c0 = 0
      · have HC0 : Hid (c0 = 0) := hcc
        have hcb : (c0 != 0) = false := by simpa using hcc
        clear hcc
        go_wp2_with (go_at_call 137; refine (h0 _ HB.out).mono ?_; rintro e w5 ⟨rfl, b5⟩; have r0 := cell_keep b5 r0; have r1 := cell_keep b5 r1; have p0 := cell_keep b5 p0; have p1 := cell_keep b5 p1; have B5 : Hid (Below w.heap.size w w5) := on HB.out b5; have f0 : w5.frozen? ⟨w.heap.size, 0, none⟩ = false := (by rw [b5.frozen (p := ⟨w.heap.size, 0, none⟩) s0]; exact f0); have f1 : w5.frozen? ⟨w.heap.size, 1, none⟩ = false := (by rw [b5.frozen (p := ⟨w.heap.size, 1, none⟩) s0]; exact f1); have g0 : w5.frozen? ⟨w.heap.size + 1, 0, none⟩ = false := (by rw [b5.frozen (p := ⟨w.heap.size + 1, 0, none⟩) s1]; exact g0); have g1 : w5.frozen? ⟨w.heap.size + 1, 1, none⟩ = false := (by rw [b5.frozen (p := ⟨w.heap.size + 1, 1, none⟩) s1]; exact g1))
        go_roundw
        case rel => exact ⟨1, y0, by omega, by go_num, .inr (.inl ⟨rfl, rfl, HC0.out⟩), (B5.out.setCell (by simp) _).setCell (by simp) _, by simp [go_sem, r0], by simp [go_sem, r1], by rw [World.frozen?_setCell, World.frozen?_setCell]; exact f0, by rw [World.frozen?_setCell, World.frozen?_setCell]; exact f1, by rw [← HC0.out]; simp [go_sem, p0], by simp [go_sem, p1], by rw [World.frozen?_setCell, World.frozen?_setCell]; exact g0, by rw [World.frozen?_setCell, World.frozen?_setCell]; exact g1⟩
        case measure => simp [intOf]
      · have hc2 : (c0 != 0) = true := by simpa using hcc
        have HCC : Hid (¬ c0 = 0) := hcc
        clear hcc
        go_wp2_with (go_at_call 137; refine (h0 _ HB.out).mono ?_; rintro e w5 ⟨rfl, b5⟩; have r0 := cell_keep b5 r0; have r1 := cell_keep b5 r1; have p0 := cell_keep b5 p0; have p1 := cell_keep b5 p1; have B5 : Hid (Below w.heap.size w w5) := on HB.out b5; have f0 : w5.frozen? ⟨w.heap.size, 0, none⟩ = false := (by rw [b5.frozen (p := ⟨w.heap.size, 0, none⟩) s0]; exact f0); have f1 : w5.frozen? ⟨w.heap.size, 1, none⟩ = false := (by rw [b5.frozen (p := ⟨w.heap.size, 1, none⟩) s0]; exact f1); have g0 : w5.frozen? ⟨w.heap.size + 1, 0, none⟩ = false := (by rw [b5.frozen (p := ⟨w.heap.size + 1, 0, none⟩) s1]; exact g0); have g1 : w5.frozen? ⟨w.heap.size + 1, 1, none⟩ = false := (by rw [b5.frozen (p := ⟨w.heap.size + 1, 1, none⟩) s1]; exact g1))
        exact bodyPost_ret (v := .agg #[.int .i64 c0, .int .i64 y0]) (by simp [results, Tryz.results136, go_sem, r0, r1]) rfl ⟨by rw [(HR.out.2 HCC.out).1, (HR.out.2 HCC.out).2], (((B5.out.setCell (by simp) _).setCell (by simp) _).setCell (by simp) _).setCell (by simp) _⟩
    · have c1' := cell_keep hB F1.out
      have hW := H1.out hz
      have HZ : Hid (c0 = 0) := hz
      clear hB hj hz
      by_cases hcc : c1 = 0
      · have HC0 : Hid (c1 = 0) := hcc
        have hcb : (c1 != 0) = false := by simpa using hcc
        clear hcc
        go_wp2_with (go_at_call 138; refine (hW _ HB.out).mono ?_; rintro e w5 ⟨rfl, b5⟩; have r0 := cell_keep b5 r0; have r1 := cell_keep b5 r1; have p0 := cell_keep b5 p0; have p1 := cell_keep b5 p1; have B5 : Hid (Below w.heap.size w w5) := on HB.out b5; have f0 : w5.frozen? ⟨w.heap.size, 0, none⟩ = false := (by rw [b5.frozen (p := ⟨w.heap.size, 0, none⟩) s0]; exact f0); have f1 : w5.frozen? ⟨w.heap.size, 1, none⟩ = false := (by rw [b5.frozen (p := ⟨w.heap.size, 1, none⟩) s0]; exact f1); have g0 : w5.frozen? ⟨w.heap.size + 1, 0, none⟩ = false := (by rw [b5.frozen (p := ⟨w.heap.size + 1, 0, none⟩) s1]; exact g0); have g1 : w5.frozen? ⟨w.heap.size + 1, 1, none⟩ = false := (by rw [b5.frozen (p := ⟨w.heap.size + 1, 1, none⟩) s1]; exact g1))
        go_roundw
        case rel => exact ⟨2, y1, by omega, by go_num, .inr (.inr ⟨rfl, rfl, HZ.out, HC0.out⟩), (B5.out.setCell (by simp) _).setCell (by simp) _, by simp [go_sem, r0], by simp [go_sem, r1], by rw [World.frozen?_setCell, World.frozen?_setCell]; exact f0, by rw [World.frozen?_setCell, World.frozen?_setCell]; exact f1, by rw [← HC0.out]; simp [go_sem, p0], by simp [go_sem, p1], by rw [World.frozen?_setCell, World.frozen?_setCell]; exact g0, by rw [World.frozen?_setCell, World.frozen?_setCell]; exact g1⟩
        case measure => simp [intOf]
      · have hc2 : (c1 != 0) = true := by simpa using hcc
        have HCC : Hid (¬ c1 = 0) := hcc
        clear hcc
        go_wp2_with (go_at_call 138; refine (hW _ HB.out).mono ?_; rintro e w5 ⟨rfl, b5⟩; have r0 := cell_keep b5 r0; have r1 := cell_keep b5 r1; have p0 := cell_keep b5 p0; have p1 := cell_keep b5 p1; have B5 : Hid (Below w.heap.size w w5) := on HB.out b5; have f0 : w5.frozen? ⟨w.heap.size, 0, none⟩ = false := (by rw [b5.frozen (p := ⟨w.heap.size, 0, none⟩) s0]; exact f0); have f1 : w5.frozen? ⟨w.heap.size, 1, none⟩ = false := (by rw [b5.frozen (p := ⟨w.heap.size, 1, none⟩) s0]; exact f1); have g0 : w5.frozen? ⟨w.heap.size + 1, 0, none⟩ = false := (by rw [b5.frozen (p := ⟨w.heap.size + 1, 0, none⟩) s1]; exact g0); have g1 : w5.frozen? ⟨w.heap.size + 1, 1, none⟩ = false := (by rw [b5.frozen (p := ⟨w.heap.size + 1, 1, none⟩) s1]; exact g1))
        exact bodyPost_ret (v := .agg #[.int .i64 c1, .int .i64 y1]) (by simp [results, Tryz.results136, go_sem, r0, r1]) rfl ⟨by rw [(HR.out.1 HZ.out).1, (HR.out.1 HZ.out).2], (((B5.out.setCell (by simp) _).setCell (by simp) _).setCell (by simp) _).setCell (by simp) _⟩
    · have HZ : Hid (c0 = 0 ∧ c1 = 0) := ⟨hz0, hz1⟩
      clear hB hj hz0 hz1
      go_wp2_with fail
      exact bodyPost_ret (v := .agg #[.int .i64 0, .int .i64 y]) (by simp [results, Tryz.results136, go_sem, r0, r1]) rfl ⟨by rw [(HR.out.1 HZ.out.1).1, (HR.out.1 HZ.out.1).2, HZ.out.2], (HB.out.setCell (by simp) _).setCell (by simp) _⟩
end Go.Proofs.YtpjaiebdpgggkaaGreatDoor
namespace Go.Proofs.YtpjaiebdpgggkaaGreatDoor
open Go.RowKit
set_option linter.unusedVariables false

theorem wk_zero {rs : List (Int × Int)} {x k : Int} (h : ¬ wkC rs x k = 0) : wkV rs x k = 0 := by
  unfold wkV
  unfold wkC at h
  cases hk : kindB k
  · rfl
  · rw [hk] at h
    cases hg : goesB rs x k
    · rfl
    · rw [hg] at h
      simp at h
set_option maxRecDepth 20000 in
set_option maxHeartbeats 4000000 in
theorem i_behind (q : Nat) (i o : Value) (H : Ht) (pg pc : Nat) (ps : List (Int × Int)) (g p : Nat) (ca ri : Int) (b : Nat) (w : World) (hv : Vb w q (mcr H i o (.slice (some ⟨pg, 0, none⟩) 8 pc) (.slice (some ⟨g, 0, none⟩) p p) ca ri) 70) (hP : Prs 55 w b (.slice (some ⟨pg, 0, none⟩) 8 pc) ps) (hl : ps.length = 8) (ho : okTo 24 ps 8) (y k : Int) (h0 : 0 ≤ y) (h63 : y ≤ 63) :
    Calls Tryz.prog 138 #[.pointer (some ⟨q, 0, none⟩), .int .i64 y, .int .i64 k] w fun e w' => e = .returned (.agg #[.int .i64 (behC ps y k), .int .i64 (behV ps y k)]) ∧ Below w.heap.size w w' := by
  have HV : Hid (Vb w q (mcr H i o (.slice (some ⟨pg, 0, none⟩) 8 pc) (.slice (some ⟨g, 0, none⟩) p p) ca ri) 70) := hv
  have HP : Hid (Prs 55 w b (.slice (some ⟨pg, 0, none⟩) 8 pc) ps) := hP
  have HL : Hid (ps.length = 8 ∧ okTo 24 ps 8) := ⟨hl, ho⟩
  clear hv hP hl ho
  generalize hW : w.alloc (.cells #[.int .i64 0, .int .i64 0] 121) = W
  have B0 : Hid (Below w.heap.size w W) := by show Below _ _ _; rw [← hW]; exact al (Below.refl _ _) _
  obtain ⟨s, hS⟩ : ∃ s, w.heap.size = s := ⟨_, rfl⟩
  have HS : Hid (w.heap.size = s) := hS
  have VR : Hid (Vb W s #[.int .i64 0, .int .i64 0] 121) := by show Vb _ _ _ _; rw [← hW, ← hS]; exact Vb.new _ _ _
  have V0 : Hid (Vb W q (mcr H i o (.slice (some ⟨pg, 0, none⟩) 8 pc) (.slice (some ⟨g, 0, none⟩) p p) ca ri) 70) := HV.out.keep B0.out
  have c34 : W.cell? ⟨q, 34, none⟩ = some (.slice (some ⟨pg, 0, none⟩) 8 pc) := V0.out.cell 34 rfl
  have aB : atB y = true := by unfold atB; simp; omega
  have aN : atN y = y / 8 := by unfold atN; rw [aB]; rfl
  obtain ⟨m, hm⟩ : ∃ m, y / 8 = m := ⟨_, rfl⟩
  have HMM : Hid (y / 8 = m) := hm
  obtain ⟨C, hC⟩ : ∃ C, behC ps y k = C := ⟨_, rfl⟩
  obtain ⟨Y, hY⟩ : ∃ Y, behV ps y k = Y := ⟨_, rfl⟩
  have HC : Hid (behC ps y k = C) := hC
  have HY : Hid (behV ps y k = Y) := hY
  rw [hC, hY]
  clear hC hY
  by_cases h7 : m = 7
  · subst h7
    have E7 : Hid (y / 8 = 7) := hm
    by_cases h4 : k = 4
    · subst h4
      have EC : Hid (C = 9 ∧ Y = 0) := ⟨by rw [← HC.out, behC, if_pos E7.out, if_pos rfl], by rw [← HY.out, behV, if_pos E7.out, if_pos rfl]⟩
      go_enter Tryz.func138, Tryz.ntmps138
      have p0 := VR.out.cell 0 rfl
      have f0 := VR.out.free 0
      have p1 := VR.out.cell 1 rfl
      have f1 := VR.out.free 1
      go_wp2_with (go_at_call 144; refine (impl_pageOf y _).mono ?_; rintro e z ⟨rfl, hz⟩; rw [hz, aB, aN, hm]; clear hz z)
      clear aB aN hm hW hS c34
      have NN : Hid (_ ∧ _) := twoX VR.out (.int .i64 9) (.int .i64 0)
      clear p0 f0 p1 f1
      generalize ((W.setCell ⟨s, 0, none⟩ (.int .i64 9)).setCell ⟨s, 1, none⟩ (.int .i64 0)) = V at *
      have x0 := NN.out.1.cell 0 rfl
      have x1 := NN.out.1.cell 1 rfl
      exact bodyPost_ret (v := .agg #[.int .i64 9, .int .i64 0]) (by simp [results, Tryz.results138, go_sem, x0, x1]) rfl
        ⟨by rw [EC.out.1, EC.out.2], Mq.under B0.out NN.out.2 fun k e => by have := HS.out; omega⟩
    · have h4b : (k == 4) = false := by simpa using h4
      have tm : y.tmod 8 = y % 8 := Int.tmod_eq_emod_of_nonneg h0
      obtain ⟨z8, hz8⟩ : ∃ z8, y % 8 = z8 := ⟨_, rfl⟩
      have hz0 : 0 ≤ z8 := by omega
      have hz7 : z8 ≤ 7 := by omega
      have EC : Hid (C = 0 ∧ Y = 1000 + z8) := ⟨by rw [← HC.out, behC, if_pos E7.out, if_neg h4], by rw [← HY.out, behV, if_pos E7.out, if_neg h4, hz8]⟩
      rw [hz8] at tm
      clear h4 hz8
      go_enter Tryz.func138, Tryz.ntmps138
      have p0 := VR.out.cell 0 rfl
      have f0 := VR.out.free 0
      have p1 := VR.out.cell 1 rfl
      have f1 := VR.out.free 1
      go_wp2_with (go_at_call 144; refine (impl_pageOf y _).mono ?_; rintro e z ⟨rfl, hz⟩; rw [hz, aB, aN, hm]; clear hz z)
      clear aB aN hm hW hS c34
      have NN : Hid (_ ∧ _) := twoX VR.out (.int .i64 0) (.int .i64 (1000 + z8))
      clear p0 f0 p1 f1
      generalize ((W.setCell ⟨s, 0, none⟩ (.int .i64 0)).setCell ⟨s, 1, none⟩ (.int .i64 (1000 + z8))) = V at *
      have x0 := NN.out.1.cell 0 rfl
      have x1 := NN.out.1.cell 1 rfl
      exact bodyPost_ret (v := .agg #[.int .i64 0, .int .i64 (1000 + z8)]) (by simp [results, Tryz.results138, go_sem, x0, x1]) rfl
        ⟨by rw [EC.out.1, EC.out.2], Mq.under B0.out NN.out.2 fun k e => by have := HS.out; omega⟩
  · have h7b : (m != 7) = true := by simpa using h7
    have EC : Hid (C = wkC ps y k ∧ Y = wkV ps y k) := ⟨by rw [← HC.out, behC, if_neg (by rw [hm]; exact h7)], by rw [← HY.out, behV, if_neg (by rw [hm]; exact h7)]⟩
    go_enter Tryz.func138, Tryz.ntmps138
    go_wp2_with (go_at_call 144; refine (impl_pageOf y _).mono ?_; rintro e z ⟨rfl, hz⟩; rw [hz, aB, aN, hm]; clear hz z)
    clear aB aN hm hW hS c34 h7 h7b
    refine (impl_walk _ ps y k b W (HP.out.keep B0.out) HL.out.1 HL.out.2).mono ?_
    rintro e w1 ⟨rfl, b1⟩
    have B1 : Hid (Below w.heap.size w w1) := on B0.out b1
    have VR1 : Hid (Vb w1 s #[.int .i64 0, .int .i64 0] 121) := VR.out.keep b1
    clear b1
    generalize wkC ps y k = c1 at *
    generalize wkV ps y k = y1 at *
    have p0 := VR1.out.cell 0 rfl
    have f0 := VR1.out.free 0
    have p1 := VR1.out.cell 1 rfl
    have f1 := VR1.out.free 1
    go_wp2_with fail
    have NN : Hid (_ ∧ _) := twoX VR1.out (.int .i64 c1) (.int .i64 y1)
    clear p0 f0 p1 f1
    generalize ((w1.setCell ⟨s, 0, none⟩ (.int .i64 c1)).setCell ⟨s, 1, none⟩ (.int .i64 y1)) = V at *
    have x0 := NN.out.1.cell 0 rfl
    have x1 := NN.out.1.cell 1 rfl
    exact bodyPost_ret (v := .agg #[.int .i64 c1, .int .i64 y1]) (by simp [results, Tryz.results138, go_sem, x0, x1]) rfl
      ⟨by rw [EC.out.1, EC.out.2], Mq.under B1.out NN.out.2 fun k e => by have := HS.out; omega⟩

set_option maxRecDepth 20000 in
set_option maxHeartbeats 4000000 in
theorem i_place (q : Nat) (i o : Value) (H : Ht) (pg pc : Nat) (ps : List (Int × Int)) (g p : Nat) (zs : List Int) (ca ri : Int) (b : Nat) (w : World) (hv : Vb w q (mcr H i o (.slice (some ⟨pg, 0, none⟩) 8 pc) (.slice (some ⟨g, 0, none⟩) p p) ca ri) 70) (hP : Prs 55 w b (.slice (some ⟨pg, 0, none⟩) 8 pc) ps) (hG : Pags w b (.slice (some ⟨g, 0, none⟩) p p) p zs) (sn : Sn H ps zs p) (x k : Int) (hk : kindB k = true) :
    Calls Tryz.prog 130 #[.pointer (some ⟨q, 0, none⟩), .int .i64 x, .int .i64 k] w fun e w' => e = .returned (.agg #[.int .i64 (plC H ps zs x k), .int .i64 (plV H ps zs x k)]) ∧ Below w.heap.size w w' := by
  have HV : Hid (Vb w q (mcr H i o (.slice (some ⟨pg, 0, none⟩) 8 pc) (.slice (some ⟨g, 0, none⟩) p p) ca ri) 70) := hv
  have HP : Hid (Prs 55 w b (.slice (some ⟨pg, 0, none⟩) 8 pc) ps) := hP
  have HG : Hid (Pags w b (.slice (some ⟨g, 0, none⟩) p p) p zs) := hG
  have SN : Hid (Sn H ps zs p) := sn
  have HK : Hid (kindB k = true) := hk
  clear hv hP hG sn hk
  generalize hW : w.alloc (.cells #[.int .i64 0, .int .i64 0] 121) = W
  have B0 : Hid (Below w.heap.size w W) := by show Below _ _ _; rw [← hW]; exact al (Below.refl _ _) _
  obtain ⟨s, hS⟩ : ∃ s, w.heap.size = s := ⟨_, rfl⟩
  have HS : Hid (w.heap.size = s) := hS
  have VR : Hid (Vb W s #[.int .i64 0, .int .i64 0] 121) := by show Vb _ _ _ _; rw [← hW, ← hS]; exact Vb.new _ _ _
  have V0 : Hid (Vb W q (mcr H i o (.slice (some ⟨pg, 0, none⟩) 8 pc) (.slice (some ⟨g, 0, none⟩) p p) ca ri) 70) := HV.out.keep B0.out
  obtain ⟨C, hC⟩ : ∃ C, plC H ps zs x k = C := ⟨_, rfl⟩
  obtain ⟨Y, hY⟩ : ∃ Y, plV H ps zs x k = Y := ⟨_, rfl⟩
  have HC : Hid (plC H ps zs x k = C) := hC
  have HY : Hid (plV H ps zs x k = Y) := hY
  rw [hC, hY]
  clear hC hY
  go_enter Tryz.func130, Tryz.ntmps130
  go_wp2_with fail
  clear hW hS
  refine (i_space q i o H pg pc ps g p zs ca ri b W V0.out (HP.out.keep B0.out) (HG.out.keep B0.out) SN.out).mono ?_
  rintro e w1 ⟨u, rfl, pu, b1⟩
  obtain ⟨ua, uc, hu, _⟩ := pu.shape
  obtain ⟨ul, hul⟩ : ∃ ul, (spP H ps zs).length = ul := ⟨_, rfl⟩
  rw [hul] at hu
  subst hu
  obtain ⟨d, hd⟩ : ∃ d, spC H ps = d := ⟨_, rfl⟩
  have HD : Hid (spC H ps = d) := hd
  rw [hd]
  clear hd hul
  go_upto_region 2 with fail
  generalize hW1 : w1.alloc (.cells #[.int .i64 d, .slice ua ul uc] 149) = W1
  obtain ⟨n, hn⟩ : ∃ n, w1.heap.size = n := ⟨_, rfl⟩
  rw [hn]
  have VN : Hid (Vb W1 n #[.int .i64 d, .slice ua ul uc] 149) := by show Vb _ _ _ _; rw [← hW1, ← hn]; exact Vb.new _ _ _
  have bb : Below W.heap.size W W1 := by rw [← hW1]; exact al b1 _
  have PU : Hid (Prs 55 W1 W.heap.size (.slice ua ul uc) (spP H ps zs)) := by show Prs _ _ _ _ _; rw [← hW1]; exact pu.keep (al (Below.refl _ _) _)
  have B1 : Hid (Below w.heap.size w W1) := on B0.out bb
  have VR1 : Hid (Vb W1 s #[.int .i64 0, .int .i64 0] 121) := VR.out.keep bb
  have V1 : Hid (Vb W1 q (mcr H i o (.slice (some ⟨pg, 0, none⟩) 8 pc) (.slice (some ⟨g, 0, none⟩) p p) ca ri) 70) := V0.out.keep bb
  clear hW1 hn b1 bb pu VR V0
  have n0 := VN.out.cell 0 rfl
  have n1 := VN.out.cell 1 rfl
  by_cases hd0 : d = 0
  case neg =>
    have hdb : (d != 0) = true := by simpa using hd0
    have EC : Hid (C = d ∧ Y = 0) := ⟨by rw [← HC.out, plC, HD.out, if_neg hd0], by rw [← HY.out, plV, HD.out, if_neg hd0]⟩
    clear hd0
    have p0 := VR1.out.cell 0 rfl
    have f0 := VR1.out.free 0
    have p1 := VR1.out.cell 1 rfl
    have f1 := VR1.out.free 1
    go_wp2_with fail
    have NN : Hid (_ ∧ _) := twoX VR1.out (.int .i64 d) (.int .i64 0)
    clear p0 f0 p1 f1 n0 n1
    generalize ((W1.setCell ⟨s, 0, none⟩ (.int .i64 d)).setCell ⟨s, 1, none⟩ (.int .i64 0)) = V at *
    have x0 := NN.out.1.cell 0 rfl
    have x1 := NN.out.1.cell 1 rfl
    exact bodyPost_ret (v := .agg #[.int .i64 d, .int .i64 0]) (by simp [results, Tryz.results130, go_sem, x0, x1]) rfl
      ⟨by rw [EC.out.1, EC.out.2], Mq.under B1.out NN.out.2 fun k e => by have := HS.out; omega⟩
  subst hd0
  obtain ⟨sl, so⟩ := sp_ok SN.out HD.out
  have SO : Hid ((spP H ps zs).length = 8 ∧ okTo 8 (spP H ps zs) 8) := ⟨sl, so⟩
  clear sl so
  have HR : Hid ((wkC (spP H ps zs) x k = 0 → C = behC ps (wkV (spP H ps zs) x k) k ∧ Y = behV ps (wkV (spP H ps zs) x k) k) ∧ (¬ wkC (spP H ps zs) x k = 0 → C = wkC (spP H ps zs) x k ∧ Y = wkV (spP H ps zs) x k)) :=
    ⟨fun e => ⟨by rw [← HC.out, plC, if_pos HD.out, if_pos e], by rw [← HY.out, plV, if_pos HD.out, if_pos e]⟩, fun e => ⟨by rw [← HC.out, plC, if_pos HD.out, if_neg e], by rw [← HY.out, plV, if_pos HD.out, if_neg e, wk_zero e]⟩⟩
  go_wp2_with fail
  clear n0 n1
  generalize hW2 : W1.alloc _ = W2
  obtain ⟨S, hSS⟩ : ∃ S, W1.heap.size = S := ⟨_, rfl⟩
  rw [hSS]
  have b2 : Below W1.heap.size W1 W2 := by rw [← hW2]; exact al (Below.refl _ _) _
  have S0 : W2.cell? ⟨S, 0, none⟩ = some (.func (.func 137) #[.slice ua ul uc] #[]) := by rw [← hW2, ← hSS]; exact cell_new rfl
  have S1 : W2.cell? ⟨S, 1, none⟩ = some (.func (.func 138) #[.pointer (some ⟨q, 0, none⟩)] #[]) := by rw [← hW2, ← hSS]; exact cell_new rfl
  have B2 : Hid (Below w.heap.size w W2) := on B1.out b2
  have VR2 : Hid (Vb W2 s #[.int .i64 0, .int .i64 0] 121) := VR1.out.keep b2
  have V2 : Hid (Vb W2 q (mcr H i o (.slice (some ⟨pg, 0, none⟩) 8 pc) (.slice (some ⟨g, 0, none⟩) p p) ca ri) 70) := V1.out.keep b2
  have PU2 : Hid (Prs 55 W2 W.heap.size (.slice ua ul uc) (spP H ps zs)) := PU.out.keep b2
  clear hW2 hSS b2
  refine (i_through2 x k S q (.slice ua ul uc) (wkC (spP H ps zs) x k) (wkV (spP H ps zs) x k) (behC ps (wkV (spP H ps zs) x k) k) (behV ps (wkV (spP H ps zs) x k) k) C Y W2 (block_of_cell S0) S0 S1
    (fun u hu => impl_walk _ (spP H ps zs) x k W.heap.size u (PU2.out.keep hu) SO.out.1 (okTo_up SO.out.2))
    (fun e u hu => by
      obtain ⟨_, _, l0, l63⟩ := sp_goes SO.out.2 HK.out e
      exact i_behind q i o H pg pc ps g p ca ri b u (V2.out.keep hu) (HP.out.keep (on B2.out hu)) SN.out.l8 SN.out.ok _ k l0 l63) HR.out).mono ?_
  rintro e w3 ⟨rfl, b3⟩
  have B3 : Hid (Below w.heap.size w w3) := on B2.out b3
  have VR3 : Hid (Vb w3 s #[.int .i64 0, .int .i64 0] 121) := VR2.out.keep b3
  clear b3 S0 S1
  have p0 := VR3.out.cell 0 rfl
  have f0 := VR3.out.free 0
  have p1 := VR3.out.cell 1 rfl
  have f1 := VR3.out.free 1
  go_wp2_with fail
  have NN : Hid (_ ∧ _) := twoX VR3.out (.int .i64 C) (.int .i64 Y)
  clear p0 f0 p1 f1
  generalize ((w3.setCell ⟨s, 0, none⟩ (.int .i64 C)).setCell ⟨s, 1, none⟩ (.int .i64 Y)) = V at *
  have x0 := NN.out.1.cell 0 rfl
  have x1 := NN.out.1.cell 1 rfl
  exact bodyPost_ret (v := .agg #[.int .i64 C, .int .i64 Y]) (by simp [results, Tryz.results130, go_sem, x0, x1]) rfl
    ⟨rfl, Mq.under B3.out NN.out.2 fun k e => by have := HS.out; omega⟩

set_option maxHeartbeats 2000000 in
theorem i_wordAt (q : Nat) (i o : Value) (H : Ht) (l : Value) (g p : Nat) (zs : List Int) (ca ri : Int) (b : Nat) (w : World) (hv : Vb w q (mcr H i o l (.slice (some ⟨g, 0, none⟩) p p) ca ri) 70) (hG : Pags w b (.slice (some ⟨g, 0, none⟩) p p) p zs) (a : Nat) (ha : a < p * 8) (hp : p ≤ 24) :
    Calls Tryz.prog 97 #[.pointer (some ⟨q, 0, none⟩), .int .i64 (a : Int)] w fun e w' => e = .returned (.int .i64 (zs.getD a 0)) ∧ w' = w := by
  have c35 : w.cell? ⟨q, 35, none⟩ = some (.slice (some ⟨g, 0, none⟩) p p) := hv.cell 35 rfl
  obtain ⟨m, hm⟩ : ∃ m, a / 8 = m := ⟨_, rfl⟩
  obtain ⟨r, hr⟩ : ∃ r, a % 8 = r := ⟨_, rfl⟩
  have hmr : a = m * 8 + r := by omega
  have cg : w.cell? ⟨g, m * 8 + r, none⟩ = some (.int .i64 (zs.getD a 0)) := by rw [← hmr]; exact hG.cell a ha
  have td : Int.tdiv (a : Int) 8 = (m : Int) := by rw [Int.tdiv_eq_ediv_of_nonneg (by omega)]; omega
  have tm : Int.tmod (a : Int) 8 = (r : Int) := by rw [Int.tmod_eq_emod_of_nonneg (by omega)]; omega
  have h1 : (m : Int) < (p : Int) := by omega
  have h2 : m < p := by omega
  have h3 : (r : Int) < 8 := by omega
  have h4 : r < 8 := by omega
  have hai : (a : Int) ≤ 192 := by omega
  have hwm : wrap64 (m : Int) = (m : Int) := by unfold wrap64; omega
  generalize zs.getD a 0 = z at *
  clear hm hr hmr hv hG ha hp
  go_enter Tryz.func97, Tryz.ntmps97
  go_wp2_with fail
  go_ret
  exact ⟨rfl, rfl⟩
end Go.Proofs.YtpjaiebdpgggkaaGreatDoor
