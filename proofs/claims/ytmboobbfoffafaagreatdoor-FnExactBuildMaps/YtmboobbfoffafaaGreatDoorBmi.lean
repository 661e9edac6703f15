/- Maps of all guests, by the program. -/
import Derived.Test.YtmboobbfoffafaaGreatDoorMpm
import Derived.Test.YtmboobbfoffafaaGreatDoorPfi
import Derived.Deep.RegionLaw
namespace Go.Proofs.YtmboobbfoffafaaGreatDoor
open Go.RowKit
set_option linter.unusedVariables false

set_option maxRecDepth 20000 in
set_option maxHeartbeats 8000000 in
theorem i_maps (a0 a1 a2 a3 : Option Addr) (n0 c0 n1 c1 n2 c2 n3 c3 : Nat) (P : Plc) (w : World) (h : Pl w a0 n0 c0 a1 n1 c1 a2 n2 c2 a3 n3 c3 P) (hg : w.cell? ⟨0, 0, none⟩ = some (.iface 254 (.agg #[.pointer (some ⟨1, 159, none⟩)]))) :
    Calls Tryz.prog 23 #[.agg #[.slice a0 n0 c0, .slice a1 n1 c1, .slice a2 n2 c2, .slice a3 n3 c3]] w fun e w' => ∃ v, e = .returned (.agg #[.int .i64 (pfV P), v]) ∧ SpX w' w.heap.size v (mapsN P) (mapsL P) ∧ Below w.heap.size w w' := by
  generalize hW : ((w.alloc (.cells #[.slice a0 n0 c0, .slice a1 n1 c1, .slice a2 n2 c2, .slice a3 n3 c3] 29))).alloc (.cells #[.int .i64 0, .slice none 0 0] 48) = W
  have B0 : Hid (Below w.heap.size w W) := by show Below _ _ _; rw [← hW]; exact al (al (Below.refl _ _) _) _
  obtain ⟨s, hS⟩ : ∃ s, w.heap.size = s := ⟨_, rfl⟩
  have HSs : Hid (w.heap.size = s) := hS
  have Q : Hid (W.cell? ⟨s, 0, none⟩ = some (.slice a0 n0 c0) ∧ W.cell? ⟨s, 1, none⟩ = some (.slice a1 n1 c1) ∧ W.cell? ⟨s, 2, none⟩ = some (.slice a2 n2 c2) ∧ W.cell? ⟨s, 3, none⟩ = some (.slice a3 n3 c3)) := by
    show _ ∧ _
    rw [← hW, ← hS]
    exact ⟨cell_push _ (cell_new rfl), cell_push _ (cell_new rfl), cell_push _ (cell_new rfl), cell_push _ (cell_new rfl)⟩
  have R : Hid (RsI W s) := by
    have z1 : s + 1 = ((w.alloc (.cells #[.slice a0 n0 c0, .slice a1 n1 c1, .slice a2 n2 c2, .slice a3 n3 c3] 29))).heap.size := by rw [← hS]; simp
    show RsI W s
    unfold RsI
    rw [← hW, z1]
    exact ⟨cell_new rfl, cell_new rfl, fz_new _ _ _ _, fz_new _ _ _ _, by simp⟩
  have HP : Hid (Pl W a0 n0 c0 a1 n1 c1 a2 n2 c2 a3 n3 c3 P) := h.stay B0.out
  have HA : Hid (PolAt W s P) := ⟨_, _, _, _, _, _, _, _, _, _, _, _, Q.out.1, Q.out.2.1, Q.out.2.2.1, Q.out.2.2.2, HP.out⟩
  have HG : Hid (_ = _) := cell_keep B0.out hg
  clear h hg
  have q0 := Q.out.1
  have q1 := Q.out.2.1
  have q2 := Q.out.2.2.1
  have q3 := Q.out.2.2.2
  go_enter Tryz.func23, Tryz.ntmps23
  go_wp2_with fail
  clear hW hS
  refine (impl_policy _ _ _ _ _ _ _ _ _ _ _ _ P _ HP.out HG.out).mono ?_
  rintro e w1 ⟨rfl, b1⟩
  have BX : Hid (Below w.heap.size w w1) := on B0.out b1
  have R1 : Hid (RsI w1 s) := R.out.keep b1
  obtain ⟨r0, r1, f0, f1, lt⟩ := R1.out
  have Q1 : Hid (w1.cell? ⟨s, 0, none⟩ = some (.slice a0 n0 c0) ∧ w1.cell? ⟨s, 1, none⟩ = some (.slice a1 n1 c1) ∧ w1.cell? ⟨s, 2, none⟩ = some (.slice a2 n2 c2) ∧ w1.cell? ⟨s, 3, none⟩ = some (.slice a3 n3 c3)) := ⟨cell_keep b1 Q.out.1, cell_keep b1 Q.out.2.1, cell_keep b1 Q.out.2.2.1, cell_keep b1 Q.out.2.2.2⟩
  have HPw : Hid (Pl w1 a0 n0 c0 a1 n1 c1 a2 n2 c2 a3 n3 c3 P) := HP.out.stay b1
  have HAw : Hid (PolAt w1 s P) := HA.out.stay b1
  clear b1 q0 q1 q2 q3
  by_cases hz : pfV P = 0
  case neg =>
    have NV : Hid (mapsN P = 0) := by show _ = _; rw [mapsN, if_neg hz]
    obtain ⟨v, hv⟩ : ∃ v, pfV P = v := ⟨_, rfl⟩
    rw [hv] at hz ⊢
    have HV : Hid (pfV P = v) := hv
    clear hv
    go_wp2_with fail
    exact bodyPost_ret (v := .agg #[.int .i64 v, .slice none 0 0]) (by simp [results, Tryz.results23, go_sem, r0, r1]) rfl ⟨.slice none 0 0, by rw [HV.out], by rw [NV.out]; exact ⟨fun _ => 0, fun _ => 0, Sp.nil _ _ _ _ _⟩, (BX.out.setCell (by have := HSs.out; show w.heap.size ≤ s + 1; omega) _).setCell (by have := HSs.out; show w.heap.size ≤ s + 1; omega) _⟩
  have PZ : Hid (pfV P = 0) := hz
  have NV : Hid (mapsN P = n0) := by show _ = _; rw [mapsN, if_pos hz]; exact HPw.out.own.len.symm
  have HL0 : Hid (n0 = P.own.length) := HPw.out.own.len
  have hn0 : (n0 : Int) ≤ 3 := by have := HL0.out; have := (pf_parts P hz).1; omega
  rw [hz]
  clear hz
  have q0 := Q1.out.1
  go_wp2_with fail
  clear q0
  go_loopw [4, 5, 15] (fun v _ c wr => ∃ (j : Nat) (B C : Nat → Nat), j ≤ n0 ∧ c = .int .i64 j ∧ Sp wr w1.heap.size v j B C (mapsL P) ∧ Below w1.heap.size w1 wr) (fun _ _ c _ => n0 - (intOf c).toNat)
  case atStart => exact ⟨0, fun _ => 0, fun _ => 0, Nat.zero_le _, rfl, Sp.nil _ _ _ _ _, Below.refl _ _⟩
  case round =>
    obtain ⟨j, B, C, hj, rfl, hN, hB⟩ := hrel
    have HN : Hid (Sp wr _ _ j B C (mapsL P)) := hN
    have HB : Hid (Below _ w1 wr) := hB
    obtain ⟨ya, yc, hzz, _, _, _⟩ := hN.shape
    subst hzz
    by_cases hlt : j < n0
    · have hJ : (j : Int) < (n0 : Int) := by omega
      have HLT : Hid (j < n0) := hlt
      have q0 := cell_keep hB Q1.out.1
      have q1 := cell_keep hB Q1.out.2.1
      have q2 := cell_keep hB Q1.out.2.2.1
      have q3 := cell_keep hB Q1.out.2.2.2
      have CL := i_pages0 _ _ _ _ _ _ _ _ _ _ _ _ P (j : Int) wr (HPw.out.stay hB) ⟨by omega, by have := HL0.out; omega⟩
      rw [Int.toNat_natCast] at CL
      clear hN hB hlt
      go_wp2_with fail
      refine CL.mono ?_
      rintro e w2 ⟨v2, rfl, p2, b2⟩
      obtain ⟨va, vc, hv2, _, _, hsome⟩ := p2.shape
      rw [pforL_len] at hv2 hsome
      obtain ⟨gb, rfl⟩ := hsome (by omega)
      subst hv2
      have B2 : Hid (Below _ w1 w2) := on HB.out b2
      have N2 : Hid (Sp w2 _ _ j B C (mapsL P)) := HN.out.keep b2
      have PB : Hid (Prs 142 w2 w1.heap.size (.slice (some ⟨gb, 0, none⟩) 8 vc) (mapsL P j)) := p2.mono HB.out.size
      have BL : Hid (∀ i, i < j → B i < gb) := fun i hi => by have := (HN.out.blt i hi).2; have := (p2.lt gb rfl).1; omega
      have SZ : Hid (w1.heap.size ≤ w2.heap.size) := B2.out.size
      clear b2 p2 CL q0 q1 q2 q3
      go_wp2_with (at_builtin; refine wp_slp _ rfl _ _ rfl w1.heap.size _ j B C (mapsL P) rfl (N2.out.keep (al (Below.refl _ _) _)) w2.heap.size gb vc rfl (cell_new rfl) (PB.out.keep (al (Below.refl _ _) _)) BL.out (by have := HLT.out; omega) (by have := SZ.out; simp; omega) ?_; intro v' w' hN' hG')
      have N' : Hid (Sp w' _ v' (j + 1) _ _ (mapsL P)) := hN'
      have B' : Hid (Below w1.heap.size w1 w') := (al B2.out _).grown hG' (by have := SZ.out; simp; omega) (fun k hk => (N2.out.lt k hk).1)
      clear hN' hG'
      go_wp2_with fail
      go_roundw
      case rel => exact ⟨j + 1, _, _, by have := HLT.out; omega, by go_num, N'.out, B'.out⟩
      case measure => have := HLT.out; simp [intOf]; omega
    · have hJ : ¬ (j : Int) < (n0 : Int) := by omega
      obtain rfl : j = n0 := by omega
      obtain ⟨r0, r1, f0, f1, lt⟩ := R1.out.keep hB
      have LT : Hid (s + 1 < w1.heap.size) := R1.out.2.2.2.2
      clear hN hB hlt
      go_wp2_with fail
      refine bodyPost_ret (v := .agg #[.int .i64 0, .slice ya j yc]) (by simp [results, Tryz.results23, go_sem, r0, r1]) rfl ⟨.slice ya j yc, by rw [PZ.out], ?_, ((on BX.out HB.out).setCell (by have := HSs.out; show w.heap.size ≤ s + 1; omega) _).setCell (by have := HSs.out; show w.heap.size ≤ s + 1; omega) _⟩
      rw [NV.out]
      refine ⟨B, C, ?_⟩
      exact ((HN.out.put ⟨s + 1, 0, none⟩ (.int .i64 0) (by have := LT.out; show s + 1 < _; omega)).put ⟨s + 1, 1, none⟩ (.slice ya j yc) (by have := LT.out; show s + 1 < _; omega)).mono BX.out.size
end Go.Proofs.YtmboobbfoffafaaGreatDoor
