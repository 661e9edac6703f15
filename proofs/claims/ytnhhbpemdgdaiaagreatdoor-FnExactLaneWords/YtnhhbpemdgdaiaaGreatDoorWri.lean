/- Words of pages, by the program. -/
import Derived.Test.YtnhhbpemdgdaiaaGreatDoorWrv
namespace Go.Proofs.YtnhhbpemdgdaiaaGreatDoor
open Go.RowKit
set_option linter.unusedVariables false

theorem i_wordsOn (gm n cap b : Nat) (ms : List Int) (ap : Option Addr) (lp cp : Nat) (ps : List Int) (w : World) (h : Nums w b (.slice (some ⟨gm, 0, none⟩) n cap) ms) (hm : ms.length = 192) (hp : IsNs w ap lp cp ps) (hr : ∀ x ∈ ps, 0 ≤ x ∧ x ≤ 23) (hl : 1 ≤ ps.length ∧ ps.length ≤ 5) :
    Calls Tryz.prog 32 #[.slice (some ⟨gm, 0, none⟩) n cap, .slice ap lp cp] w fun e w' => ∃ v, e = .returned v ∧ Nums w' w.heap.size v (wordsL ms ps) ∧ Below w.heap.size w w' :=
  i_wordsN gm n cap b ms ap lp cp ps w h 24 (by decide) (by decide) (by omega) hp (fun x hx => by have := hr x hx; omega) hl.2
set_option maxRecDepth 20000 in
set_option maxHeartbeats 4000000 in
theorem i_wordsOf (a0 a1 a2 a3 : Option Addr) (n0 c0 n1 c1 n2 c2 n3 c3 : Nat) (P : Plc) (b lm cm : Nat) (gm : Nat) (ms : List Int) (gu : Int) (w : World) (h : Pl w a0 n0 c0 a1 n1 c1 a2 n2 c2 a3 n3 c3 P) (hm : Nums w b (.slice (some ⟨gm, 0, none⟩) lm cm) ms) (hg : w.cell? ⟨0, 0, none⟩ = some (.iface 130 (.agg #[.pointer (some ⟨1, 95, none⟩)]))) :
    Calls Tryz.prog 9 #[.agg #[.slice a0 n0 c0, .slice a1 n1 c1, .slice a2 n2 c2, .slice a3 n3 c3], .slice (some ⟨gm, 0, none⟩) lm cm, .int .i64 gu] w fun e w' => ∃ v, e = .returned (.agg #[.int .i64 (wordsC P ms gu), v]) ∧ Nums w' w.heap.size v (wordsZ P ms gu) ∧ Below w.heap.size w w' := by
  generalize hW : ((w.alloc (.cells #[.slice a0 n0 c0, .slice a1 n1 c1, .slice a2 n2 c2, .slice a3 n3 c3] 37))).alloc (.cells #[.int .i64 0, .slice none 0 0] 31) = W
  have B0 : Hid (Below w.heap.size w W) := by show Below _ _ _; rw [← hW]; exact al (al (Below.refl _ _) _) _
  obtain ⟨s, hS⟩ : ∃ s, w.heap.size = s := ⟨_, rfl⟩
  have HSs : Hid (w.heap.size = s) := hS
  have Q : Hid (W.cell? ⟨s, 0, none⟩ = some (.slice a0 n0 c0) ∧ W.cell? ⟨s, 1, none⟩ = some (.slice a1 n1 c1) ∧ W.cell? ⟨s, 2, none⟩ = some (.slice a2 n2 c2) ∧ W.cell? ⟨s, 3, none⟩ = some (.slice a3 n3 c3)) := by
    show _ ∧ _
    rw [← hW, ← hS]
    exact ⟨cell_push _ (cell_new rfl), cell_push _ (cell_new rfl), cell_push _ (cell_new rfl), cell_push _ (cell_new rfl)⟩
  have R : Hid (RsI W s) := by
    have z1 : s + 1 = ((w.alloc (.cells #[.slice a0 n0 c0, .slice a1 n1 c1, .slice a2 n2 c2, .slice a3 n3 c3] 37))).heap.size := by rw [← hS]; simp
    show RsI W s
    unfold RsI
    rw [← hW, z1]
    exact ⟨cell_new rfl, cell_new rfl, fz_new _ _ _ _, fz_new _ _ _ _, by simp⟩
  have HP : Hid (Pl W a0 n0 c0 a1 n1 c1 a2 n2 c2 a3 n3 c3 P) := h.stay B0.out
  have HA : Hid (PolAt W s P) := ⟨_, _, _, _, _, _, _, _, _, _, _, _, Q.out.1, Q.out.2.1, Q.out.2.2.1, Q.out.2.2.2, HP.out⟩
  have HM : Hid (Nums W b (.slice (some ⟨gm, 0, none⟩) lm cm) ms) := hm.keep B0.out
  have HG : Hid (_ = _) := cell_keep B0.out hg
  clear h hg hm
  have q0 := Q.out.1
  have q1 := Q.out.2.1
  have q2 := Q.out.2.2.1
  have q3 := Q.out.2.2.2
  go_enter Tryz.func9, Tryz.ntmps9
  go_wp2_with fail
  clear hW hS
  refine (i_asked _ _ _ _ _ _ _ _ _ _ _ _ P _ _ HP.out HG.out).mono ?_
  rintro e w1 ⟨rfl, b1⟩
  have B1 : Hid (Below w.heap.size w w1) := on B0.out b1
  have R1 : Hid (RsI w1 s) := R.out.keep b1
  obtain ⟨r0, r1, f0, f1, lt⟩ := R1.out
  have Q1 : Hid (w1.cell? ⟨s, 0, none⟩ = some (.slice a0 n0 c0) ∧ w1.cell? ⟨s, 1, none⟩ = some (.slice a1 n1 c1)) := ⟨cell_keep b1 Q.out.1, cell_keep b1 Q.out.2.1⟩
  have HPw : Hid (Pl w1 a0 n0 c0 a1 n1 c1 a2 n2 c2 a3 n3 c3 P) := HP.out.stay b1
  have HMw : Hid (Nums w1 b (.slice (some ⟨gm, 0, none⟩) lm cm) ms) := HM.out.keep b1
  clear b1 q0 q1 q2 q3
  by_cases hz : askV P gu = 0
  case neg =>
    have CV : Hid (wordsC P ms gu = askV P gu) := by show _ = _; rw [wordsC, if_neg hz]
    have ZV : Hid (wordsZ P ms gu = []) := by show _ = _; rw [wordsZ, if_neg (by rw [CV.out]; exact hz)]
    generalize hv : askV P gu = v at *
    go_wp2_with fail
    exact bodyPost_ret (v := .agg #[.int .i64 v, .slice none 0 0]) (by simp [results, Tryz.results9, go_sem, r0, r1]) rfl ⟨.slice none 0 0, by rw [CV.out], by rw [ZV.out]; exact Nums.nil _ _, (B1.out.setCell (by have := HSs.out; show w.heap.size ≤ s + 1; omega) _).setCell (by have := HSs.out; show w.heap.size ≤ s + 1; omega) _⟩
  have AZ : Hid (askV P gu = 0) := hz
  have GU : Hid (0 ≤ gu ∧ gu < P.own.length) := ask_guest P gu hz
  obtain ⟨g, rfl⟩ := Int.eq_ofNat_of_zero_le GU.out.1
  have HGN : Hid (g < n0) := by have := HPw.out.own.len; have := GU.out.2; show _ < _; omega
  have hgI : (g : Int) < (n0 : Int) := by have := HGN.out; omega
  have hn0 : (n0 : Int) ≤ 9223372036854775807 := by have := HPw.out.own.cap; unfold maxLen at this; omega
  cases hw : wholeB ms with
  | false =>
    have CV : Hid (wordsC P ms (g : Int) = 1) := by show _ = _; rw [wordsC, if_pos AZ.out, hw]; rfl
    have ZV : Hid (wordsZ P ms (g : Int) = []) := by show _ = _; rw [wordsZ, if_neg (by rw [CV.out]; decide)]
    rw [hz]
    clear hz
    go_wp2_with (go_at_call 31; refine (i_whole _ ms b _ HMw.out).mono ?_; rintro e w1 ⟨rfl, rfl⟩; rw [hw])
    exact bodyPost_ret (v := .agg #[.int .i64 1, .slice none 0 0]) (by simp [results, Tryz.results9, go_sem, r0, r1]) rfl ⟨.slice none 0 0, by rw [CV.out], by rw [ZV.out]; exact Nums.nil _ _, (B1.out.setCell (by have := HSs.out; show w.heap.size ≤ s + 1; omega) _).setCell (by have := HSs.out; show w.heap.size ≤ s + 1; omega) _⟩
  | true =>
    have CV : Hid (wordsC P ms (g : Int) = 0) := by show _ = _; rw [wordsC, if_pos AZ.out, hw]; rfl
    have hwW : wholeB ms = true := hw
    have HWW : Hid (wholeB ms = true) := hw
    clear hwW
    rw [hz]
    clear hz
    obtain ⟨x, bb, ll, cc, rfl, k1, k2⟩ := HPw.out.own.at g HGN.out
    have NSP : Hid (IsNs w1 bb ll cc (P.own.getD g [])) := k2
    have OW : Hid (1 ≤ (P.own.getD g []).length ∧ (P.own.getD g []).length ≤ 5 ∧ ∀ x ∈ P.own.getD g [], 0 ≤ x ∧ x ≤ 23) := pf_own P (ask_pf P (g : Int) AZ.out) g (by have := GU.out; omega)
    have ZV : Hid (wordsZ P ms (g : Int) = wordsL ms (P.own.getD g [])) := by show _ = _; rw [wordsZ, if_pos CV.out, Int.toNat_natCast]
    have q0 := Q1.out.1
    generalize P.own.getD g [] = ow at *
    clear k2
    go_wp2_with (go_at_call 31; refine (i_whole _ ms b _ HMw.out).mono ?_; rintro e w1 ⟨rfl, rfl⟩; rw [hw])
    have hwW := HWW.out
    refine (i_wordsOn _ _ _ _ _ _ _ _ _ _ HMw.out (by unfold wholeB at hwW; simp at hwW; exact hwW.1) NSP.out OW.out.2.2 ⟨OW.out.1, OW.out.2.1⟩).mono ?_
    rintro e w2 ⟨v, rfl, n2', b2⟩
    clear hwW
    have B2 : Hid (Below w.heap.size w w2) := on B1.out b2
    have D2 : Hid (Below w1.heap.size w1 w2) := b2
    obtain ⟨ya, yc, hv, _, _, _⟩ := n2'.shape
    have NN : Hid (Nums w2 w.heap.size v (wordsL ms ow)) := n2'.mono (B1.out.size)
    have NL : Hid (∀ k, v.ownBlock = some k → w1.heap.size ≤ k) := fun k e => (n2'.lt k e).1
    have LT : Hid (s + 1 < w1.heap.size) := R1.out.2.2.2.2
    generalize (wordsL ms ow).length = ln at hv
    subst hv
    obtain ⟨r0, r1, f0, f1, lt⟩ := R1.out.keep D2.out
    clear b2 n2'
    go_wp2_with fail
    refine bodyPost_ret (v := .agg #[.int .i64 0, .slice ya ln yc]) (by simp [results, Tryz.results9, go_sem, r0, r1]) rfl ⟨.slice ya ln yc, by rw [CV.out], ?_, (B2.out.setCell (by have := HSs.out; show w.heap.size ≤ s + 1; omega) _).setCell (by have := HSs.out; show w.heap.size ≤ s + 1; omega) _⟩
    have ne : (Value.slice ya ln yc).ownBlock ≠ some (s + 1) := fun e => by have := NL.out _ e; have := LT.out; omega
    rw [ZV.out]
    exact (NN.out.put ⟨s + 1, 0, none⟩ (.int .i64 0) ne).put ⟨s + 1, 1, none⟩ (.slice ya ln yc) ne

set_option maxRecDepth 20000 in
set_option maxHeartbeats 4000000 in
theorem i_laneWords (a0 a1 a2 a3 : Option Addr) (n0 c0 n1 c1 n2 c2 n3 c3 : Nat) (P : Plc) (b lm cm : Nat) (gm : Nat) (ms : List Int) (gu : Int) (w : World) (h : Pl w a0 n0 c0 a1 n1 c1 a2 n2 c2 a3 n3 c3 P) (hm : Nums w b (.slice (some ⟨gm, 0, none⟩) lm cm) ms) (hg : w.cell? ⟨0, 0, none⟩ = some (.iface 130 (.agg #[.pointer (some ⟨1, 95, none⟩)]))) :
    Calls Tryz.prog 18 #[.agg #[.slice a0 n0 c0, .slice a1 n1 c1, .slice a2 n2 c2, .slice a3 n3 c3], .slice (some ⟨gm, 0, none⟩) lm cm, .int .i64 gu] w fun e w' => ∃ v, e = .returned (.agg #[.int .i64 (lwordsC P ms gu), v]) ∧ Nums w' w.heap.size v (lwordsZ P ms gu) ∧ Below w.heap.size w w' := by
  generalize hW : ((w.alloc (.cells #[.slice a0 n0 c0, .slice a1 n1 c1, .slice a2 n2 c2, .slice a3 n3 c3] 37))).alloc (.cells #[.int .i64 0, .slice none 0 0] 31) = W
  have B0 : Hid (Below w.heap.size w W) := by show Below _ _ _; rw [← hW]; exact al (al (Below.refl _ _) _) _
  obtain ⟨s, hS⟩ : ∃ s, w.heap.size = s := ⟨_, rfl⟩
  have HSs : Hid (w.heap.size = s) := hS
  have Q : Hid (W.cell? ⟨s, 0, none⟩ = some (.slice a0 n0 c0) ∧ W.cell? ⟨s, 1, none⟩ = some (.slice a1 n1 c1) ∧ W.cell? ⟨s, 2, none⟩ = some (.slice a2 n2 c2) ∧ W.cell? ⟨s, 3, none⟩ = some (.slice a3 n3 c3)) := by
    show _ ∧ _
    rw [← hW, ← hS]
    exact ⟨cell_push _ (cell_new rfl), cell_push _ (cell_new rfl), cell_push _ (cell_new rfl), cell_push _ (cell_new rfl)⟩
  have R : Hid (RsI W s) := by
    have z1 : s + 1 = ((w.alloc (.cells #[.slice a0 n0 c0, .slice a1 n1 c1, .slice a2 n2 c2, .slice a3 n3 c3] 37))).heap.size := by rw [← hS]; simp
    show RsI W s
    unfold RsI
    rw [← hW, z1]
    exact ⟨cell_new rfl, cell_new rfl, fz_new _ _ _ _, fz_new _ _ _ _, by simp⟩
  have HP : Hid (Pl W a0 n0 c0 a1 n1 c1 a2 n2 c2 a3 n3 c3 P) := h.stay B0.out
  have HA : Hid (PolAt W s P) := ⟨_, _, _, _, _, _, _, _, _, _, _, _, Q.out.1, Q.out.2.1, Q.out.2.2.1, Q.out.2.2.2, HP.out⟩
  have HM : Hid (Nums W b (.slice (some ⟨gm, 0, none⟩) lm cm) ms) := hm.keep B0.out
  have HG : Hid (_ = _) := cell_keep B0.out hg
  clear h hg hm
  have hn1 : (n1 : Int) ≤ 9223372036854775807 := by have := HP.out.lanes.cap; unfold maxLen at this; omega
  have HL1 : Hid (n1 = P.lanes.length) := HP.out.lanes.len
  have q0 := Q.out.1
  have q1 := Q.out.2.1
  have q2 := Q.out.2.2.1
  have q3 := Q.out.2.2.2
  go_enter Tryz.func18, Tryz.ntmps18
  go_wp2_with fail
  clear hW hS
  refine (impl_policy _ _ _ _ _ _ _ _ _ _ _ _ P _ HP.out HG.out).mono ?_
  rintro e w1 ⟨rfl, b1⟩
  have B1 : Hid (Below w.heap.size w w1) := on B0.out b1
  have R1 : Hid (RsI w1 s) := R.out.keep b1
  obtain ⟨r0, r1, f0, f1, lt⟩ := R1.out
  have Q1 : Hid (w1.cell? ⟨s, 0, none⟩ = some (.slice a0 n0 c0) ∧ w1.cell? ⟨s, 1, none⟩ = some (.slice a1 n1 c1)) := ⟨cell_keep b1 Q.out.1, cell_keep b1 Q.out.2.1⟩
  have HPw : Hid (Pl w1 a0 n0 c0 a1 n1 c1 a2 n2 c2 a3 n3 c3 P) := HP.out.stay b1
  have HMw : Hid (Nums w1 b (.slice (some ⟨gm, 0, none⟩) lm cm) ms) := HM.out.keep b1
  clear b1 q0 q1 q2 q3
  by_cases hz : pfV P = 0
  case neg =>
    have CV : Hid (lwordsC P ms gu = pfV P) := by show _ = _; rw [lwordsC, if_neg hz]
    have ZV : Hid (lwordsZ P ms gu = []) := by show _ = _; rw [lwordsZ, if_neg (by rw [CV.out]; exact hz)]
    generalize hv : pfV P = v at *
    go_wp2_with fail
    exact bodyPost_ret (v := .agg #[.int .i64 v, .slice none 0 0]) (by simp [results, Tryz.results18, go_sem, r0, r1]) rfl ⟨.slice none 0 0, by rw [CV.out], by rw [ZV.out]; exact Nums.nil _ _, (B1.out.setCell (by have := HSs.out; show w.heap.size ≤ s + 1; omega) _).setCell (by have := HSs.out; show w.heap.size ≤ s + 1; omega) _⟩
  have AZ : Hid (pfV P = 0) := hz
  by_cases hl : 0 ≤ gu ∧ gu < P.lanes.length
  case neg =>
    have CV : Hid (lwordsC P ms gu = 4) := by show _ = _; rw [lwordsC, if_pos hz, if_neg hl]
    have ZV : Hid (lwordsZ P ms gu = []) := by show _ = _; rw [lwordsZ, if_neg (by rw [CV.out]; decide)]
    rw [hz]
    have q1 := Q1.out.2
    have hl2 : ¬ (0 ≤ gu ∧ gu < n1) := by have := HL1.out; omega
    clear hz hl
    by_cases hl0 : gu < 0
    · clear hl2
      go_wp2_with fail
      exact bodyPost_ret (v := .agg #[.int .i64 4, .slice none 0 0]) (by simp [results, Tryz.results18, go_sem, r0, r1]) rfl ⟨.slice none 0 0, by rw [CV.out], by rw [ZV.out]; exact Nums.nil _ _, (B1.out.setCell (by have := HSs.out; show w.heap.size ≤ s + 1; omega) _).setCell (by have := HSs.out; show w.heap.size ≤ s + 1; omega) _⟩
    · have hl3 : (n1 : Int) ≤ gu := by omega
      clear hl2
      go_wp2_with fail
      exact bodyPost_ret (v := .agg #[.int .i64 4, .slice none 0 0]) (by simp [results, Tryz.results18, go_sem, r0, r1]) rfl ⟨.slice none 0 0, by rw [CV.out], by rw [ZV.out]; exact Nums.nil _ _, (B1.out.setCell (by have := HSs.out; show w.heap.size ≤ s + 1; omega) _).setCell (by have := HSs.out; show w.heap.size ≤ s + 1; omega) _⟩
  obtain ⟨l, rfl⟩ := Int.eq_ofNat_of_zero_le hl.1
  have HLN : Hid (l < n1) := by have := HL1.out; have := hl.2; show _ < _; omega
  have hlI : (l : Int) < (n1 : Int) := by have := HLN.out; omega
  have hd : (decide ((0 : Int) ≤ (l : Int)) && decide ((l : Int) ≤ (n1 : Int) - 1)) = true := by simp; omega
  have HLL : Hid (0 ≤ (l : Int) ∧ (l : Int) < P.lanes.length) := hl
  clear hl
  have q1 := Q1.out.2
  cases hw : wholeB ms with
  | false =>
    have CV : Hid (lwordsC P ms (l : Int) = 1) := by show _ = _; rw [lwordsC, if_pos AZ.out, if_pos HLL.out, hw]; rfl
    have ZV : Hid (lwordsZ P ms (l : Int) = []) := by show _ = _; rw [lwordsZ, if_neg (by rw [CV.out]; decide)]
    rw [hz]
    clear hz
    go_wp2_with (go_at_call 31; refine (i_whole _ ms b _ HMw.out).mono ?_; rintro e w1 ⟨rfl, rfl⟩; rw [hw])
    exact bodyPost_ret (v := .agg #[.int .i64 1, .slice none 0 0]) (by simp [results, Tryz.results18, go_sem, r0, r1]) rfl ⟨.slice none 0 0, by rw [CV.out], by rw [ZV.out]; exact Nums.nil _ _, (B1.out.setCell (by have := HSs.out; show w.heap.size ≤ s + 1; omega) _).setCell (by have := HSs.out; show w.heap.size ≤ s + 1; omega) _⟩
  | true =>
    have CV : Hid (lwordsC P ms (l : Int) = 0) := by show _ = _; rw [lwordsC, if_pos AZ.out, if_pos HLL.out, hw]; rfl
    have hwW : wholeB ms = true := hw
    have HWW : Hid (wholeB ms = true) := hw
    clear hwW
    rw [hz]
    clear hz
    obtain ⟨x, rfl, k0, k1, k2, k3, k4⟩ := HPw.out.lanes.at l HLN.out
    have PR : Hid (0 ≤ (P.lanes.getD l lz).pg ∧ (P.lanes.getD l lz).pg ≤ 23) := pf_page P AZ.out l (by have := HLL.out; omega)
    have ZV : Hid (lwordsZ P ms (l : Int) = wordsL ms [(P.lanes.getD l lz).pg]) := by show _ = _; rw [lwordsZ, if_pos CV.out, Int.toNat_natCast]
    generalize (P.lanes.getD l lz).pg = pg at *
    clear k0 k1 k3 k4
    go_wp2_with (go_at_call 31; refine (i_whole _ ms b _ HMw.out).mono ?_; rintro e w1 ⟨rfl, rfl⟩; rw [hw])
    have NSP : Hid (IsNs (w1.alloc (.cells #[.int .i64 pg] 2)) (some ⟨w1.heap.size, 0, none⟩) 1 1 [pg]) := ns_one _ _ _
    have hwW := HWW.out
    refine (i_wordsOn _ _ _ _ _ _ _ _ _ _ (HMw.out.keep (al (Below.refl _ _) _)) (by unfold wholeB at hwW; simp at hwW; exact hwW.1) NSP.out (by intro x hx; rw [List.mem_singleton] at hx; rw [hx]; exact PR.out) ⟨by simp, by simp⟩).mono ?_
    rintro e w2 ⟨v, rfl, n2', b2⟩
    clear hwW
    have B2 : Hid (Below w.heap.size w w2) := on B1.out (on (al (Below.refl _ _) _) b2)
    have D2 : Hid (Below w1.heap.size w1 w2) := on (al (Below.refl _ _) _) b2
    obtain ⟨ya, yc, hv, _, _, _⟩ := n2'.shape
    have NN : Hid (Nums w2 w.heap.size v (wordsL ms [pg])) := n2'.mono (Nat.le_trans B1.out.size (by simp))
    have NL : Hid (∀ k, v.ownBlock = some k → w1.heap.size ≤ k) := fun k e => Nat.le_trans (by simp) (n2'.lt k e).1
    have LT : Hid (s + 1 < w1.heap.size) := R1.out.2.2.2.2
    generalize (wordsL ms [pg]).length = ln at hv
    subst hv
    obtain ⟨r0, r1, f0, f1, lt⟩ := R1.out.keep D2.out
    clear b2 n2'
    go_wp2_with fail
    refine bodyPost_ret (v := .agg #[.int .i64 0, .slice ya ln yc]) (by simp [results, Tryz.results18, go_sem, r0, r1]) rfl ⟨.slice ya ln yc, by rw [CV.out], ?_, (B2.out.setCell (by have := HSs.out; show w.heap.size ≤ s + 1; omega) _).setCell (by have := HSs.out; show w.heap.size ≤ s + 1; omega) _⟩
    have ne : (Value.slice ya ln yc).ownBlock ≠ some (s + 1) := fun e => by have := NL.out _ e; have := LT.out; omega
    rw [ZV.out]
    exact (NN.out.put ⟨s + 1, 0, none⟩ (.int .i64 0) ne).put ⟨s + 1, 1, none⟩ (.slice ya ln yc) ne
end Go.Proofs.YtnhhbpemdgdaiaaGreatDoor
