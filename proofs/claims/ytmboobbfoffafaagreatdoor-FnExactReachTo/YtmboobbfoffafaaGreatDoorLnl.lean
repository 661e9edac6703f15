/- Links to a guest: the two functions themselves. -/
import Derived.Test.YtmboobbfoffafaaGreatDoorLnk
import Derived.Test.YtmboobbfoffafaaGreatDoorPfv
namespace Go.Proofs.YtmboobbfoffafaaGreatDoor
open Go.RowKit
set_option linter.unusedVariables false

set_option maxRecDepth 20000 in
set_option maxHeartbeats 4000000 in
theorem s_links (a0 a1 a2 a3 : Option Addr) (n0 c0 n1 c1 n2 c2 n3 c3 : Nat) (P : Plc) (gu : Int) (w : World) (h : Pl w a0 n0 c0 a1 n1 c1 a2 n2 c2 a3 n3 c3 P) :
    Calls Tryz.prog 32 #[.agg #[.slice a0 n0 c0, .slice a1 n1 c1, .slice a2 n2 c2, .slice a3 n3 c3], .int .i64 gu] w fun e w' => ∃ v, e = .returned (.agg #[.int .i64 (askV P gu), v]) ∧ Nums w' w.heap.size v (linksZ P gu) ∧ Below w.heap.size w w' := by
  generalize hW : ((w.alloc (.cells #[.slice a0 n0 c0, .slice a1 n1 c1, .slice a2 n2 c2, .slice a3 n3 c3] 29))).alloc (.cells #[.int .i64 0, .slice none 0 0] 34) = W
  have B0 : Hid (Below w.heap.size w W) := by show Below _ _ _; rw [← hW]; exact al (al (Below.refl _ _) _) _
  obtain ⟨s, hS⟩ : ∃ s, w.heap.size = s := ⟨_, rfl⟩
  have HSs : Hid (w.heap.size = s) := hS
  have Q : Hid (W.cell? ⟨s, 0, none⟩ = some (.slice a0 n0 c0) ∧ W.cell? ⟨s, 1, none⟩ = some (.slice a1 n1 c1) ∧ W.cell? ⟨s, 2, none⟩ = some (.slice a2 n2 c2) ∧ W.cell? ⟨s, 3, none⟩ = some (.slice a3 n3 c3)) := by
    show _ ∧ _
    rw [← hW, ← hS]
    exact ⟨cell_push _ (cell_new rfl), cell_push _ (cell_new rfl), cell_push _ (cell_new rfl), cell_push _ (cell_new rfl)⟩
  have R : Hid (RsI W s) := by
    have z1 : s + 1 = ((w.alloc (.cells #[.slice a0 n0 c0, .slice a1 n1 c1, .slice a2 n2 c2, .slice a3 n3 c3] 29))).heap.size := by rw [← hS]; simp
    show RsI W s
    unfold RsI
    rw [← hW, z1]
    exact ⟨cell_new rfl, cell_new rfl, fz_new _ _ _ _, fz_new _ _ _ _, by simp⟩
  have HP : Hid (Pl W a0 n0 c0 a1 n1 c1 a2 n2 c2 a3 n3 c3 P) := h.stay B0.out
  have HA : Hid (PolAt W s P) := ⟨_, _, _, _, _, _, _, _, _, _, _, _, Q.out.1, Q.out.2.1, Q.out.2.2.1, Q.out.2.2.2, HP.out⟩
  clear h
  have q0 := Q.out.1
  have q1 := Q.out.2.1
  have q2 := Q.out.2.2.1
  have q3 := Q.out.2.2.2
  go_enter Tryz.func32, Tryz.ntmps32
  go_wp2_with fail
  clear hW hS
  refine (l6_asked _ _ P _ HA.out).mono ?_
  rintro e w1 ⟨rfl, b1⟩
  by_cases hz : askV P gu = 0
  · have ZV : Hid ((linksZ P gu) = lkV P gu) := by show _ = _; rw [linksZ, if_pos hz]
    have AZ : Hid (askV P gu = 0) := hz
    have GU : Hid (0 ≤ gu ∧ gu < P.own.length) := ask_guest P gu hz
    have PZ : Hid (pfV P = 0) := ask_pf P gu hz
    rw [hz]
    have B1 : Hid (Below w.heap.size w w1) := on B0.out b1
    have HPw : Hid (Pl w1 a0 n0 c0 a1 n1 c1 a2 n2 c2 a3 n3 c3 P) := HP.out.stay b1
    have HAw : Hid (PolAt w1 s P) := HA.out.stay b1
    have R1 : Hid (RsI w1 s) := R.out.keep b1
    have q0 := cell_keep b1 Q.out.1
    have q1 := cell_keep b1 Q.out.2.1
    have q2 := cell_keep b1 Q.out.2.2.1
    have q3 := cell_keep b1 Q.out.2.2.2
    clear b1 hz
    go_wp2_with fail
    refine (l6_links _ _ P _ HAw.out (by have := (pf_parts P PZ.out).2.2.2.2.1; omega) (by have := (pf_parts P PZ.out).2.2.2.2.2.1; omega)).mono ?_
    rintro e w2 ⟨v, rfl, n2', b2⟩
    obtain ⟨ya, yc, hv, _, _, _⟩ := n2'.shape
    have NN : Hid (Nums w2 w.heap.size v (lkV P gu)) := n2'.mono B1.out.size
    have NL : Hid (∀ k, v.ownBlock = some k → w1.heap.size ≤ k) := fun k e => (n2'.lt k e).1
    have B2 : Hid (Below w.heap.size w w2) := on B1.out b2
    obtain ⟨r0, r1, f0, f1, lt⟩ := R1.out.keep b2
    have LT : Hid (s + 1 < w1.heap.size) := R1.out.2.2.2.2
    generalize (lkV P gu).length = ln at hv
    subst hv
    clear b2 n2'
    go_wp2_with fail
    refine bodyPost_ret (v := .agg #[.int .i64 0, .slice ya ln yc]) (by simp [results, Tryz.results32, go_sem, r0, r1]) rfl ⟨.slice ya ln yc, by rw [AZ.out], ?_, (B2.out.setCell (by have := HSs.out; show w.heap.size ≤ s + 1; omega) _).setCell (by have := HSs.out; show w.heap.size ≤ s + 1; omega) _⟩
    have ne : (Value.slice ya ln yc).ownBlock ≠ some (s + 1) := fun e => by have := NL.out _ e; have := LT.out; omega
    rw [ZV.out]
    exact (NN.out.put ⟨s + 1, 0, none⟩ (.int .i64 0) ne).put ⟨s + 1, 1, none⟩ (.slice ya ln yc) ne
  · have ZV : Hid ((linksZ P gu) = []) := by show _ = _; rw [linksZ, if_neg hz]
    obtain ⟨r0, r1, f0, f1, lt⟩ := R.out.keep b1
    have B1 : Hid (Below w.heap.size w w1) := on B0.out b1
    generalize hv : askV P gu = v at *
    have HV : Hid (askV P gu = v) := hv
    clear b1
    go_wp2_with fail
    exact bodyPost_ret (v := .agg #[.int .i64 v, .slice none 0 0]) (by simp [results, Tryz.results32, go_sem, r0, r1]) rfl ⟨.slice none 0 0, by rw [HV.out], by rw [ZV.out]; exact Nums.nil _ _, (B1.out.setCell (by have := HSs.out; show w.heap.size ≤ s + 1; omega) _).setCell (by have := HSs.out; show w.heap.size ≤ s + 1; omega) _⟩

set_option maxRecDepth 20000 in
set_option maxHeartbeats 4000000 in
theorem i_linksTo (a0 a1 a2 a3 : Option Addr) (n0 c0 n1 c1 n2 c2 n3 c3 : Nat) (P : Plc) (gu : Int) (w : World) (h : Pl w a0 n0 c0 a1 n1 c1 a2 n2 c2 a3 n3 c3 P) (hg : w.cell? ⟨0, 0, none⟩ = some (.iface 254 (.agg #[.pointer (some ⟨1, 159, none⟩)]))) :
    Calls Tryz.prog 16 #[.agg #[.slice a0 n0 c0, .slice a1 n1 c1, .slice a2 n2 c2, .slice a3 n3 c3], .int .i64 gu] w fun e w' => ∃ v, e = .returned (.agg #[.int .i64 (askV P gu), v]) ∧ Nums w' w.heap.size v (linksZ P gu) ∧ Below w.heap.size w w' := by
  generalize hW : ((w.alloc (.cells #[.slice a0 n0 c0, .slice a1 n1 c1, .slice a2 n2 c2, .slice a3 n3 c3] 29))).alloc (.cells #[.int .i64 0, .slice none 0 0] 34) = W
  have B0 : Hid (Below w.heap.size w W) := by show Below _ _ _; rw [← hW]; exact al (al (Below.refl _ _) _) _
  obtain ⟨s, hS⟩ : ∃ s, w.heap.size = s := ⟨_, rfl⟩
  have HSs : Hid (w.heap.size = s) := hS
  have Q : Hid (W.cell? ⟨s, 0, none⟩ = some (.slice a0 n0 c0) ∧ W.cell? ⟨s, 1, none⟩ = some (.slice a1 n1 c1) ∧ W.cell? ⟨s, 2, none⟩ = some (.slice a2 n2 c2) ∧ W.cell? ⟨s, 3, none⟩ = some (.slice a3 n3 c3)) := by
    show _ ∧ _
    rw [← hW, ← hS]
    exact ⟨cell_push _ (cell_new rfl), cell_push _ (cell_new rfl), cell_push _ (cell_new rfl), cell_push _ (cell_new rfl)⟩
  have R : Hid (RsI W s) := by
    have z1 : s + 1 = ((w.alloc (.cells #[.slice a0 n0 c0, .slice a1 n1 c1, .slice a2 n2 c2, .slice a3 n3 c3] 29))).heap.size := by rw [← hS]; simp
    show RsI W s
    unfold RsI
    rw [← hW, z1]
    exact ⟨cell_new rfl, cell_new rfl, fz_new _ _ _ _, fz_new _ _ _ _, by simp⟩
  have HP : Hid (Pl W a0 n0 c0 a1 n1 c1 a2 n2 c2 a3 n3 c3 P) := h.stay B0.out
  have HA : Hid (PolAt W s P) := ⟨_, _, _, _, _, _, _, _, _, _, _, _, Q.out.1, Q.out.2.1, Q.out.2.2.1, Q.out.2.2.2, HP.out⟩
  have HG : Hid (_ = _) := cell_keep B0.out hg
  clear h hg
  have q0 := Q.out.1
  have q1 := Q.out.2.1
  have q2 := Q.out.2.2.1
  have q3 := Q.out.2.2.2
  go_enter Tryz.func16, Tryz.ntmps16
  go_wp2_with fail
  clear hW hS
  refine (i_asked _ _ _ _ _ _ _ _ _ _ _ _ P _ _ HP.out HG.out).mono ?_
  rintro e w1 ⟨rfl, b1⟩
  by_cases hz : askV P gu = 0
  · have ZV : Hid ((linksZ P gu) = linkUp P gu P.own.length) := by show _ = _; rw [linksZ, if_pos hz]; exact link_eq P gu (ask_pf P gu hz)
    have AZ : Hid (askV P gu = 0) := hz
    have GU : Hid (0 ≤ gu ∧ gu < P.own.length) := ask_guest P gu hz
    have PZ : Hid (pfV P = 0) := ask_pf P gu hz
    rw [hz]
    have B1 : Hid (Below w.heap.size w w1) := on B0.out b1
    have HPw : Hid (Pl w1 a0 n0 c0 a1 n1 c1 a2 n2 c2 a3 n3 c3 P) := HP.out.stay b1
    have HAw : Hid (PolAt w1 s P) := HA.out.stay b1
    have R1 : Hid (RsI w1 s) := R.out.keep b1
    have q0 := cell_keep b1 Q.out.1
    have q1 := cell_keep b1 Q.out.2.1
    have q2 := cell_keep b1 Q.out.2.2.1
    have q3 := cell_keep b1 Q.out.2.2.2
    clear b1 hz
    go_wp2_with fail
    refine (i_links0 _ _ _ _ _ _ _ _ _ _ _ _ P _ _ HPw.out (by have := HPw.out.own.len; have := (pf_parts P PZ.out).1; omega)).mono ?_
    rintro e w2 ⟨v, rfl, n2', b2⟩
    obtain ⟨ya, yc, hv, _, _, _⟩ := n2'.shape
    have NN : Hid (Nums w2 w.heap.size v (linkUp P gu P.own.length)) := n2'.mono B1.out.size
    have NL : Hid (∀ k, v.ownBlock = some k → w1.heap.size ≤ k) := fun k e => (n2'.lt k e).1
    have B2 : Hid (Below w.heap.size w w2) := on B1.out b2
    obtain ⟨r0, r1, f0, f1, lt⟩ := R1.out.keep b2
    have LT : Hid (s + 1 < w1.heap.size) := R1.out.2.2.2.2
    generalize (linkUp P gu P.own.length).length = ln at hv
    subst hv
    clear b2 n2'
    go_wp2_with fail
    refine bodyPost_ret (v := .agg #[.int .i64 0, .slice ya ln yc]) (by simp [results, Tryz.results16, go_sem, r0, r1]) rfl ⟨.slice ya ln yc, by rw [AZ.out], ?_, (B2.out.setCell (by have := HSs.out; show w.heap.size ≤ s + 1; omega) _).setCell (by have := HSs.out; show w.heap.size ≤ s + 1; omega) _⟩
    have ne : (Value.slice ya ln yc).ownBlock ≠ some (s + 1) := fun e => by have := NL.out _ e; have := LT.out; omega
    rw [ZV.out]
    exact (NN.out.put ⟨s + 1, 0, none⟩ (.int .i64 0) ne).put ⟨s + 1, 1, none⟩ (.slice ya ln yc) ne
  · have ZV : Hid ((linksZ P gu) = []) := by show _ = _; rw [linksZ, if_neg hz]
    obtain ⟨r0, r1, f0, f1, lt⟩ := R.out.keep b1
    have B1 : Hid (Below w.heap.size w w1) := on B0.out b1
    generalize hv : askV P gu = v at *
    have HV : Hid (askV P gu = v) := hv
    clear b1
    go_wp2_with fail
    exact bodyPost_ret (v := .agg #[.int .i64 v, .slice none 0 0]) (by simp [results, Tryz.results16, go_sem, r0, r1]) rfl ⟨.slice none 0 0, by rw [HV.out], by rw [ZV.out]; exact Nums.nil _ _, (B1.out.setCell (by have := HSs.out; show w.heap.size ≤ s + 1; omega) _).setCell (by have := HSs.out; show w.heap.size ≤ s + 1; omega) _⟩
end Go.Proofs.YtmboobbfoffafaaGreatDoor
