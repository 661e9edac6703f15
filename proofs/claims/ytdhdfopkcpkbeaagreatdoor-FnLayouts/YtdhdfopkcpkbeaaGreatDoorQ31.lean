/- Texts of this seat, joined. -/
import Derived.Test.YtdhdfopkcpkbeaaGreatDoorQ30
namespace Go.Proofs.YtdhdfopkcpkbeaaGreatDoor
open Go.RowKit
set_option linter.unusedVariables false

theorem getD_mem {α : Type} (zs : List α) (d : α) (k : Nat) (h : k < zs.length) : zs.getD k d ∈ zs := by
  rw [List.getD, List.getElem?_eq_getElem h]
  exact List.getElem_mem h
/-- Which pages are owned, as an array of tests. -/
def Arr (w : World) (B : Nat) (S : List Int) : Prop := ∀ m, m < 24 → w.cell? ⟨B, m, none⟩ = some (.bool (decide ((m : Int) ∈ S))) ∧ w.frozen? ⟨B, m, none⟩ = false
theorem Arr.put {w : World} {B : Nat} {S : List Int} (h : Arr w B S) (m : Nat) (hm : m < 24) : Arr (w.setCell ⟨B, m, none⟩ (.bool true)) B (S ++ [(m : Int)]) := by
  intro k hk
  obtain ⟨h1, h2⟩ := h k hk
  refine ⟨?_, by rw [World.frozen?_setCell]; exact h2⟩
  by_cases e : k = m
  · subst e
    rw [World.cell?_setCell_same _ _ _ h1]
    simp
  · rw [World.cell?_setCell_other _ _ _ _ (by intro h; cases h; exact e rfl), h1]
    have : ((k : Int) ∈ S ++ [(m : Int)]) ↔ ((k : Int) ∈ S) := by
      simp only [List.mem_append, List.mem_singleton]
      exact ⟨fun h => h.elim id (fun h => absurd (Int.ofNat.inj h) e), .inl⟩
    simp [this]
theorem IsLanes.pre {w : World} {x : Addr} {n c : Nat} {rs : List Ln} (h : IsLanes w (some x) n c rs) (k : Nat) (hk : k ≤ n) : IsLanes w (some x) k c (rs.take k) := by
  rcases h with ⟨h, _⟩ | ⟨y, hy, h1, h2, h3, h4⟩
  · cases h
  · refine .inr ⟨y, hy, by omega, h2, by simp; omega, fun i hi => ?_⟩
    have e : (rs.take k).getD i lz = rs.getD i lz := by simp [List.getD, hi]
    rw [e]
    exact h4 i (by omega)
theorem IsPairs.pre {w : World} {x : Addr} {n c : Nat} {rs : List (Int × Int)} (h : IsPairs w (some x) n c rs) (k : Nat) (hk : k ≤ n) : IsPairs w (some x) k c (rs.take k) := by
  rcases h with ⟨h, _⟩ | ⟨y, hy, h1, h2, h3, h4⟩
  · cases h
  · refine .inr ⟨y, hy, by omega, h2, by simp; omega, fun i hi => ?_⟩
    have e : (rs.take k).getD i (0, 0) = rs.getD i (0, 0) := by simp [List.getD, hi]
    rw [e]
    exact h4 i (by omega)

set_option maxRecDepth 20000 in
set_option maxHeartbeats 4000000 in
theorem i_owned (a0 a1 a2 a3 : Option Addr) (n0 c0 n1 c1 n2 c2 n3 c3 : Nat) (P : Plc) (w : World) (h : Pl w a0 n0 c0 a1 n1 c1 a2 n2 c2 a3 n3 c3 P) (hG : guestsV P.own = 0) :
    Calls Tryz.prog 70 #[.agg #[.slice a0 n0 c0, .slice a1 n1 c1, .slice a2 n2 c2, .slice a3 n3 c3]] w fun e w' => e = .returned (errV (g2V P.own)) ∧ Below w.heap.size w w' := by
  have HL : Hid (n0 = P.own.length) := h.own.len
  have HO : Hid (IsS2 w a0 n0 c0 P.own) := h.own
  have HG : Hid (guestsV P.own = 0) := hG
  have hmax : (n0 : Int) ≤ 9223372036854775807 := by have := h.own.cap; unfold maxLen at this; omega
  have AR : Hid (Arr (((w.alloc (.cells #[.slice a0 n0 c0, .slice a1 n1 c1, .slice a2 n2 c2, .slice a3 n3 c3] 29))).alloc (.cells #[.bool false, .bool false, .bool false, .bool false, .bool false, .bool false, .bool false, .bool false, .bool false, .bool false, .bool false, .bool false, .bool false, .bool false, .bool false, .bool false, .bool false, .bool false, .bool false, .bool false, .bool false, .bool false, .bool false, .bool false] 149)) (w.heap.size + 1) []) := by
    intro m hm
    have e : ∀ m, m < 24 → (#[.bool false, .bool false, .bool false, .bool false, .bool false, .bool false, .bool false, .bool false, .bool false, .bool false, .bool false, .bool false, .bool false, .bool false, .bool false, .bool false, .bool false, .bool false, .bool false, .bool false, .bool false, .bool false, .bool false, .bool false] : Array Value)[m]? = some (.bool false) := fun m hm => match m, hm with | 0, _ => rfl | 1, _ => rfl | 2, _ => rfl | 3, _ => rfl | 4, _ => rfl | 5, _ => rfl | 6, _ => rfl | 7, _ => rfl | 8, _ => rfl | 9, _ => rfl | 10, _ => rfl | 11, _ => rfl | 12, _ => rfl | 13, _ => rfl | 14, _ => rfl | 15, _ => rfl | 16, _ => rfl | 17, _ => rfl | 18, _ => rfl | 19, _ => rfl | 20, _ => rfl | 21, _ => rfl | 22, _ => rfl | 23, _ => rfl | m + 24, h => absurd h (by omega)
    have z : w.heap.size + 1 = ((w.alloc (.cells #[.slice a0 n0 c0, .slice a1 n1 c1, .slice a2 n2 c2, .slice a3 n3 c3] 29))).heap.size := by simp
    rw [z]
    have d : decide ((m : Int) ∈ ([] : List Int)) = false := by simp
    rw [d]
    exact ⟨cell_new (e m hm), by simp⟩
  have HB2 : Hid (Below w.heap.size w (((w.alloc (.cells #[.slice a0 n0 c0, .slice a1 n1 c1, .slice a2 n2 c2, .slice a3 n3 c3] 29))).alloc (.cells #[.bool false, .bool false, .bool false, .bool false, .bool false, .bool false, .bool false, .bool false, .bool false, .bool false, .bool false, .bool false, .bool false, .bool false, .bool false, .bool false, .bool false, .bool false, .bool false, .bool false, .bool false, .bool false, .bool false, .bool false] 149))) := al (al (Below.refl _ _) _) _
  clear h hG
  go_enter Tryz.func70, Tryz.ntmps70
  go_wp2_with fail
  generalize ((w.alloc (.cells #[.slice a0 n0 c0, .slice a1 n1 c1, .slice a2 n2 c2, .slice a3 n3 c3] 29))).alloc (.cells #[.bool false, .bool false, .bool false, .bool false, .bool false, .bool false, .bool false, .bool false, .bool false, .bool false, .bool false, .bool false, .bool false, .bool false, .bool false, .bool false, .bool false, .bool false, .bool false, .bool false, .bool false, .bool false, .bool false, .bool false] 149) = W2 at *
  obtain ⟨B, hB⟩ : ∃ B, w.heap.size + 1 = B := ⟨_, rfl⟩
  rw [hB] at AR ⊢
  have HBB : Hid (w.heap.size + 1 = B) := hB
  clear hB
  go_loopw [11] (fun c wr => ∃ i : Nat, i ≤ n0 ∧ c = .int .i64 i ∧ Arr wr B (P.own.take i).flatten ∧ Below w.heap.size w wr ∧ Hid (dupF [] P.own.flatten = dupF (P.own.take i).flatten (P.own.drop i).flatten)) (fun c _ => n0 - (intOf c).toNat)
  case atStart => exact ⟨0, Nat.zero_le _, rfl, by simpa using AR.out, HB2.out, by show _ = _; simp⟩
  case round =>
    obtain ⟨i, hi, rfl, hA, hB, hD⟩ := hrel
    have HA : Hid (Arr wr B _) := hA
    have HB : Hid (Below _ w wr) := hB
    clear hA hB
    by_cases hlt : i < n0
    · obtain ⟨x, b, l, c, rfl, k1, k2⟩ := HO.out.at i hlt
      have HN : Hid (IsNs w b l c _) := k2
      have k1 := cell_keep HB.out k1
      have HNL : Hid (l = (P.own.getD i []).length) := k2.len
      have hlmax : (l : Int) ≤ 9223372036854775807 := by have := k2.cap; unfold maxLen at this; omega
      have hJ : (i : Int) < (n0 : Int) := by omega
      have HLT : Hid (i < n0) := hlt
      obtain ⟨s1, s2⟩ := flat_seen P.own i (by have := HL.out; omega)
      have hns := HA.out
      rw [s1] at hns
      have HNs : Hid (Arr wr B (seenAt P.own i 0)) := hns
      have HDs : Hid (dupF [] P.own.flatten = dupF (seenAt P.own i 0) (leftAt P.own i 0)) := by show _ = _; rw [hD.out, s1, s2]
      obtain ⟨t1, t2⟩ := flat_next P.own i (by have := HL.out; omega)
      rw [← HNL.out] at t1 t2
      have T1 : Hid (_ = _) := t1
      have T2 : Hid (_ = _) := t2
      clear k2 hlt s1 s2 t1 t2 hns HA hD
      go_wp2_with fail
      clear k1
      go_loopw [17] (fun c wq => ∃ k : Nat, k ≤ l ∧ c = .int .i64 k ∧ Arr wq B (seenAt P.own i k) ∧ Below w.heap.size w wq ∧ Hid (dupF [] P.own.flatten = dupF (seenAt P.own i k) (leftAt P.own i k))) (fun c _ => l - (intOf c).toNat)
      case atStart => exact ⟨0, Nat.zero_le _, rfl, HNs.out, HB.out, HDs⟩
      case round =>
        obtain ⟨k, hk, rfl, hA, hB, hD⟩ := hrel
        have HAu : Hid (Arr wr _ _) := hA
        have HBq : Hid (Below _ w wr) := hB
        clear hA hB
        by_cases hkl : k < l
        · rcases HN.out with ⟨_, h1, _, _⟩ | ⟨y, rfl, h1, h2, h3, h4⟩
          · omega
          have d0 := cell_keep HBq.out (h4 k hkl)
          have hK1 : (k : Int) < (l : Int) := by omega
          have HKL : Hid (k < l) := hkl
          have DS : Hid (_ = _) := dup_step P.own i k (by have := HNL.out; omega)
          have SS : Hid (seenAt P.own i (k + 1) = seenAt P.own i k ++ [(P.own.getD i []).getD k 0]) := by
            show _ = _
            unfold seenAt
            rw [take_succ_getD _ 0 k (by have := HNL.out; omega), List.append_assoc]
          have hr : 0 ≤ (P.own.getD i []).getD k 0 ∧ (P.own.getD i []).getD k 0 ≤ 23 := by
            have ho := getD_mem P.own [] i (by have := HLT.out; have := HL.out; omega)
            have hz := getD_mem (P.own.getD i []) 0 k (by have := HNL.out; omega)
            exact (guests_all P.own HG.out _ ho).2.2 _ hz
          clear h1 h2 h3 h4 hkl
          generalize hz : (P.own.getD i []).getD k 0 = z at *
          clear hz
          generalize hS : seenAt P.own i k = S at *
          clear hS
          obtain ⟨m, rfl⟩ := Int.eq_ofNat_of_zero_le hr.1
          have hm24 : (m : Int) < 24 := by omega
          have HM24 : Hid (m < 24) := by show _ < _; omega
          obtain ⟨e1, e2⟩ := HAu.out m HM24.out
          clear hr
          by_cases hm : (m : Int) ∈ S
          · have HM : Hid ((m : Int) ∈ S) := hm
            rw [decide_eq_true hm] at e1
            clear hm
            go_wp2_with fail
            go_ret
            have : g2V P.own = 6 := by rw [g2V, hD.out, DS.out, if_pos HM.out]; rfl
            rw [this]
            exact ⟨rfl, HBq.out⟩
          · have HM : Hid (¬ (m : Int) ∈ S) := hm
            rw [decide_eq_false hm] at e1
            clear hm
            go_wp2_with fail
            go_roundw
            case rel => exact ⟨k + 1, by have := HKL.out; omega, by go_num, by rw [SS.out]; exact HAu.out.put m HM24.out, HBq.out.setCell (by have := HBB.out; show _ ≤ B; omega) _, by show _ = _; rw [hD.out, DS.out, if_neg HM.out]⟩
            case measure => have := HKL.out; simp [intOf]; omega
        · have hK1 : ¬ (k : Int) < (l : Int) := by omega
          have HKL : Hid (k = l) := by show _ = _; omega
          clear hkl
          go_wp2_with fail
          go_roundw
          case rel =>
            have e := HKL.out
            subst e
            refine ⟨i + 1, by have := HLT.out; omega, by go_num, ?_, HBq.out, ?_⟩
            · rw [← T1.out]; exact HAu.out
            · show _ = _; rw [hD.out, T1.out, T2.out]
          case measure => have := HLT.out; simp [intOf]; omega
    · have hJ : ¬ (i : Int) < (n0 : Int) := by omega
      have HJ : Hid (i = n0) := by show _ = _; omega
      clear hlt
      go_wp2_with fail
      go_ret
      have : g2V P.own = 0 := by rw [g2V, hD.out, List.drop_of_length_le (by have := HL.out; have := HJ.out; omega)]; rfl
      rw [this]
      exact ⟨rfl, HB.out⟩

set_option maxRecDepth 20000 in
set_option maxHeartbeats 4000000 in
theorem i_lanes (a0 a1 a2 a3 : Option Addr) (n0 c0 n1 c1 n2 c2 n3 c3 : Nat) (P : Plc) (w : World) (h : Pl w a0 n0 c0 a1 n1 c1 a2 n2 c2 a3 n3 c3 P) :
    Calls Tryz.prog 72 #[.agg #[.slice a0 n0 c0, .slice a1 n1 c1, .slice a2 n2 c2, .slice a3 n3 c3]] w fun e w' => e = .returned (errV (lanesV P.own [] P.lanes)) ∧ Below w.heap.size w w' := by
  have HL0 : Hid (n0 = P.own.length) := h.own.len
  have HL1 : Hid (n1 = P.lanes.length) := h.lanes.len
  have HP1 : Hid (Pl (w.alloc (.cells #[.slice a0 n0 c0, .slice a1 n1 c1, .slice a2 n2 c2, .slice a3 n3 c3] 29)) a0 n0 c0 a1 n1 c1 a2 n2 c2 a3 n3 c3 P) := h.stay (al (Below.refl _ _) _)
  have hmax : (n1 : Int) ≤ 9223372036854775807 := by have := h.lanes.cap; unfold maxLen at this; omega
  have hc1 : (n1 : Int) ≤ (c1 : Int) := by have := h.lanes.cap; omega
  have HM0 : Hid ((n0 : Int) ≤ 9223372036854775807) := by have := h.own.cap; show _ ≤ _; unfold maxLen at this; omega
  have HB1 : Hid (Below w.heap.size w (w.alloc (.cells #[.slice a0 n0 c0, .slice a1 n1 c1, .slice a2 n2 c2, .slice a3 n3 c3] 29))) := al (Below.refl _ _) _
  have Q : Hid (((w.alloc (.cells #[.slice a0 n0 c0, .slice a1 n1 c1, .slice a2 n2 c2, .slice a3 n3 c3] 29))).cell? ⟨w.heap.size, 0, none⟩ = some (.slice a0 n0 c0) ∧ ((w.alloc (.cells #[.slice a0 n0 c0, .slice a1 n1 c1, .slice a2 n2 c2, .slice a3 n3 c3] 29))).cell? ⟨w.heap.size, 1, none⟩ = some (.slice a1 n1 c1) ∧ ((w.alloc (.cells #[.slice a0 n0 c0, .slice a1 n1 c1, .slice a2 n2 c2, .slice a3 n3 c3] 29))).cell? ⟨w.heap.size, 2, none⟩ = some (.slice a2 n2 c2) ∧ ((w.alloc (.cells #[.slice a0 n0 c0, .slice a1 n1 c1, .slice a2 n2 c2, .slice a3 n3 c3] 29))).cell? ⟨w.heap.size, 3, none⟩ = some (.slice a3 n3 c3)) := ⟨cell_new rfl, cell_new rfl, cell_new rfl, cell_new rfl⟩
  clear h
  go_enter Tryz.func72, Tryz.ntmps72
  go_wp2_with fail
  generalize (w.alloc (.cells #[.slice a0 n0 c0, .slice a1 n1 c1, .slice a2 n2 c2, .slice a3 n3 c3] 29)) = W1 at *
  obtain ⟨B0, hB0⟩ : ∃ B0, w.heap.size = B0 := ⟨_, rfl⟩
  rw [hB0] at Q ⊢
  clear hB0
  go_loopw [9] (fun c wr => ∃ j : Nat, j ≤ n1 ∧ c = .int .i64 j ∧ Below W1.heap.size W1 wr ∧ Hid (lanesV P.own [] P.lanes = lanesV P.own (P.lanes.take j) (P.lanes.drop j))) (fun c _ => n1 - (intOf c).toNat)
  case atStart => exact ⟨0, Nat.zero_le _, rfl, Below.refl _ _, by show _ = _; simp⟩
  case round =>
    obtain ⟨j, hj, rfl, hB, hI⟩ := hrel
    have HB : Hid (Below W1.heap.size W1 wr) := hB
    have q0 := cell_keep hB Q.out.1
    have q1 := cell_keep hB Q.out.2.1
    have q2 := cell_keep hB Q.out.2.2.1
    have q3 := cell_keep hB Q.out.2.2.2
    have bB : B0 < wr.heap.size := block_of_cell q0
    by_cases hlt : j < n1
    · obtain ⟨x, rfl, k0, k1, k2, k3, k4⟩ := (HP1.out.lanes.stay hB).at j hlt
      have hJ : (j : Int) < (n1 : Int) := by omega
      have hjc : (j : Int) ≤ (c1 : Int) := by omega
      have HLT : Hid (j < n1) := hlt
      have ST : Hid (_ = _) := lanes_step P.own P.lanes j (by have := HL1.out; omega)
      obtain ⟨L, hL⟩ : ∃ L, P.lanes.getD j lz = L := ⟨_, rfl⟩
      rw [hL] at k0 k1 k2 k3 k4 ST
      clear hL hlt hB
      have LQ : Hid ((wr.alloc (.cells #[.int .i64 L.fr, .int .i64 L.dst, .int .i64 L.pg, .int .i64 L.af, .int .i64 L.tt] 83)).cell? ⟨wr.heap.size, 0, none⟩ = some (.int .i64 L.fr) ∧ (wr.alloc (.cells #[.int .i64 L.fr, .int .i64 L.dst, .int .i64 L.pg, .int .i64 L.af, .int .i64 L.tt] 83)).cell? ⟨wr.heap.size, 1, none⟩ = some (.int .i64 L.dst) ∧ (wr.alloc (.cells #[.int .i64 L.fr, .int .i64 L.dst, .int .i64 L.pg, .int .i64 L.af, .int .i64 L.tt] 83)).cell? ⟨wr.heap.size, 2, none⟩ = some (.int .i64 L.pg) ∧ (wr.alloc (.cells #[.int .i64 L.fr, .int .i64 L.dst, .int .i64 L.pg, .int .i64 L.af, .int .i64 L.tt] 83)).cell? ⟨wr.heap.size, 3, none⟩ = some (.int .i64 L.af) ∧ (wr.alloc (.cells #[.int .i64 L.fr, .int .i64 L.dst, .int .i64 L.pg, .int .i64 L.af, .int .i64 L.tt] 83)).cell? ⟨wr.heap.size, 4, none⟩ = some (.int .i64 L.tt)) := ⟨cell_new rfl, cell_new rfl, cell_new rfl, cell_new rfl, cell_new rfl⟩
      by_cases he : endsV n0 L.fr L.dst ≠ 0
      · have RV : Hid (lanesV P.own [] P.lanes = endsV n0 L.fr L.dst) := by
          show _ = _
          have e : laneV P.own (P.lanes.take j) L = endsV n0 L.fr L.dst := by rw [laneV, ← HL0.out, if_neg he]
          rw [hI.out, ST.out, e, if_neg he]
        have ev : errV (endsV n0 L.fr L.dst) = .iface 121 (.agg #[.int .i64 (endsV n0 L.fr L.dst)]) := by rw [errV, if_neg he]
        clear he
        generalize hv : endsV n0 L.fr L.dst = v at *
        go_wp2_with (go_at_call 94; refine (i_ends _ _ _ _ _ _ _ _ _ _ _ _ _ _ _ HM0.out).mono ?_; rintro e w2 ⟨rfl, b2⟩; have p0 := cell_keep b2 (cell_push _ q0); have p1 := cell_keep b2 (cell_push _ q1); have p2 := cell_keep b2 (cell_push _ q2); have p3 := cell_keep b2 (cell_push _ q3); have l0 := cell_keep b2 LQ.out.1; have l1 := cell_keep b2 LQ.out.2.1; have l2 := cell_keep b2 LQ.out.2.2.1; have l3 := cell_keep b2 LQ.out.2.2.2.1; have l4 := cell_keep b2 LQ.out.2.2.2.2; have B2 : Hid (Below W1.heap.size W1 w2) := on (al HB.out _) b2; clear b2; rw [hv, ev])
        go_ret
        rw [RV.out, ev]
        exact ⟨rfl, on HB1.out B2.out⟩
      have he0 : endsV n0 L.fr L.dst = 0 := Decidable.not_not.1 he
      have V0 : Hid (laneV P.own (P.lanes.take j) L = if pgOk L.pg = false ∨ atOk L.af = false ∨ atOk L.tt = false then 3 else if 0 ≤ ownerFrom 0 P.own L.pg then 6 else if (P.lanes.take j).any (fun o => meetV o L) then 6 else 0) := by
        show _ = _
        rw [laneV, ← HL0.out, if_pos he0]
      have ev0 : errV 0 = .nilIface := rfl
      clear he
      by_cases hp : pgOk L.pg = false
      · have V1 : Hid (lanesV P.own [] P.lanes = 3) := by
          show _ = _
          have e : laneV P.own (P.lanes.take j) L = 3 := by rw [V0.out, if_pos (.inl hp)]
          rw [hI.out, ST.out, e, if_neg (by decide)]
        go_wp2_with (first
          | (go_at_call 94; refine (i_ends _ _ _ _ _ _ _ _ _ _ _ _ _ _ _ HM0.out).mono ?_; rintro e w2 ⟨rfl, b2⟩; have p0 := cell_keep b2 (cell_push _ q0); have p1 := cell_keep b2 (cell_push _ q1); have p2 := cell_keep b2 (cell_push _ q2); have p3 := cell_keep b2 (cell_push _ q3); have l0 := cell_keep b2 LQ.out.1; have l1 := cell_keep b2 LQ.out.2.1; have l2 := cell_keep b2 LQ.out.2.2.1; have l3 := cell_keep b2 LQ.out.2.2.2.1; have l4 := cell_keep b2 LQ.out.2.2.2.2; have B2 : Hid (Below W1.heap.size W1 w2) := on (al HB.out _) b2; clear b2; rw [he0, ev0])
          | (go_at_call 93; refine (i_hostPage _ _).mono ?_; rintro e w2 ⟨rfl, rfl⟩; rw [hp]))
        go_ret
        rw [V1.out]
        exact ⟨rfl, on HB1.out B2.out⟩
      rw [Bool.not_eq_false] at hp
      by_cases ha : atOk L.af = false
      · have V1 : Hid (lanesV P.own [] P.lanes = 3) := by
          show _ = _
          have e : laneV P.own (P.lanes.take j) L = 3 := by rw [V0.out, if_pos (.inr (.inl ha))]
          rw [hI.out, ST.out, e, if_neg (by decide)]
        go_wp2_with (first
          | (go_at_call 94; refine (i_ends _ _ _ _ _ _ _ _ _ _ _ _ _ _ _ HM0.out).mono ?_; rintro e w2 ⟨rfl, b2⟩; have p0 := cell_keep b2 (cell_push _ q0); have p1 := cell_keep b2 (cell_push _ q1); have p2 := cell_keep b2 (cell_push _ q2); have p3 := cell_keep b2 (cell_push _ q3); have l0 := cell_keep b2 LQ.out.1; have l1 := cell_keep b2 LQ.out.2.1; have l2 := cell_keep b2 LQ.out.2.2.1; have l3 := cell_keep b2 LQ.out.2.2.2.1; have l4 := cell_keep b2 LQ.out.2.2.2.2; have B2 : Hid (Below W1.heap.size W1 w2) := on (al HB.out _) b2; clear b2; rw [he0, ev0])
          | (go_at_call 93; refine (i_hostPage _ _).mono ?_; rintro e w2 ⟨rfl, rfl⟩; rw [hp])
          | (go_at_call 95; refine (i_lanePlace _ _).mono ?_; rintro e w2 ⟨rfl, rfl⟩; rw [ha]))
        go_ret
        rw [V1.out]
        exact ⟨rfl, on HB1.out B2.out⟩
      rw [Bool.not_eq_false] at ha
      by_cases ht : atOk L.tt = false
      · have V1 : Hid (lanesV P.own [] P.lanes = 3) := by
          show _ = _
          have e : laneV P.own (P.lanes.take j) L = 3 := by rw [V0.out, if_pos (.inr (.inr ht))]
          rw [hI.out, ST.out, e, if_neg (by decide)]
        go_wp2_with (first
          | (go_at_call 94; refine (i_ends _ _ _ _ _ _ _ _ _ _ _ _ _ _ _ HM0.out).mono ?_; rintro e w2 ⟨rfl, b2⟩; have p0 := cell_keep b2 (cell_push _ q0); have p1 := cell_keep b2 (cell_push _ q1); have p2 := cell_keep b2 (cell_push _ q2); have p3 := cell_keep b2 (cell_push _ q3); have l0 := cell_keep b2 LQ.out.1; have l1 := cell_keep b2 LQ.out.2.1; have l2 := cell_keep b2 LQ.out.2.2.1; have l3 := cell_keep b2 LQ.out.2.2.2.1; have l4 := cell_keep b2 LQ.out.2.2.2.2; have B2 : Hid (Below W1.heap.size W1 w2) := on (al HB.out _) b2; clear b2; rw [he0, ev0])
          | (go_at_call 93; refine (i_hostPage _ _).mono ?_; rintro e w2 ⟨rfl, rfl⟩; rw [hp])
          | (go_at_call 95; refine (i_lanePlace _ _).mono ?_; rintro e w2 ⟨rfl, rfl⟩; first | rw [ha] | rw [ht]))
        go_ret
        rw [V1.out]
        exact ⟨rfl, on HB1.out B2.out⟩
      rw [Bool.not_eq_false] at ht
      have V2 : Hid (laneV P.own (P.lanes.take j) L = if 0 ≤ ownerFrom 0 P.own L.pg then 6 else if (P.lanes.take j).any (fun o => meetV o L) then 6 else 0) := by
        show _ = _
        rw [V0.out, if_neg (by rw [hp, ha, ht]; simp)]
      clear V0
      have OR := owner_range P.own L.pg 0 (by omega)
      go_wp2_with (first
        | (go_at_call 94; refine (i_ends _ _ _ _ _ _ _ _ _ _ _ _ _ _ _ HM0.out).mono ?_; rintro e w2 ⟨rfl, b2⟩; have p0 := cell_keep b2 (cell_push _ q0); have p1 := cell_keep b2 (cell_push _ q1); have p2 := cell_keep b2 (cell_push _ q2); have p3 := cell_keep b2 (cell_push _ q3); have l0 := cell_keep b2 LQ.out.1; have l1 := cell_keep b2 LQ.out.2.1; have l2 := cell_keep b2 LQ.out.2.2.1; have l3 := cell_keep b2 LQ.out.2.2.2.1; have l4 := cell_keep b2 LQ.out.2.2.2.2; have B2 : Hid (Below W1.heap.size W1 w2) := on (al HB.out _) b2; clear b2; rw [he0, ev0])
        | (go_at_call 93; refine (i_hostPage _ _).mono ?_; rintro e w2 ⟨rfl, rfl⟩; rw [hp])
        | (go_at_call 95; refine (i_lanePlace _ _).mono ?_; rintro e w2 ⟨rfl, rfl⟩; first | rw [ha] | rw [ht]))
      have HPw : Hid (Pl w2 a0 n0 c0 (some x) n1 c1 a2 n2 c2 a3 n3 c3 P) := HP1.out.stay B2.out
      have HLp : Hid (IsLanes w2 (some x) j c1 (P.lanes.take j)) := (HPw.out.lanes).pre j (Nat.le_of_lt HLT.out)
      have HB3 : Hid (Below w.heap.size w w2) := on HB1.out B2.out
      have inh : Nonempty (BW w2) := ⟨⟨w2, Below.refl _ _⟩⟩
      have z0 := BW.cell p0
      have z1 := BW.cell p1
      have z2 := BW.cell p2
      have z3 := BW.cell p3
      have y0 := BW.cell l0
      have y1 := BW.cell l1
      have y2 := BW.cell l2
      have y3 := BW.cell l3
      have y4 := BW.cell l4
      by_cases ho : ownerFrom 0 P.own L.pg = -1
      · have V3 : Hid (laneV P.own (P.lanes.take j) L = if (P.lanes.take j).any (fun o => meetV o L) then 6 else 0) := by
          show _ = _
          rw [V2.out, ho, if_neg (by decide)]
        obtain ⟨mb, hmb⟩ : ∃ mb, (P.lanes.take j).any (fun o => meetV o L) = mb := ⟨_, rfl⟩
        rw [hmb] at V3
        have CO : ∀ p : BW w2, Calls Tryz.prog 36 #[.agg #[.slice a0 n0 c0, .slice (some x) n1 c1, .slice a2 n2 c2, .slice a3 n3 c3], .int .i64 L.pg] p.w fun e w' => e = .returned (.int .i64 (-1)) ∧ Below p.w.heap.size p.w w' := fun p => by
          have t := i_owner _ _ _ _ _ _ _ _ _ _ _ _ P L.pg p.w (HPw.out.stay p.h)
          rw [ho] at t
          exact t
        have CM : ∀ p : BW w2, Calls Tryz.prog 96 #[.slice (some x) j c1, .agg #[.int .i64 L.fr, .int .i64 L.dst, .int .i64 L.pg, .int .i64 L.af, .int .i64 L.tt]] p.w fun e w' => e = .returned (.bool mb) ∧ Below p.w.heap.size p.w w' := fun p => by
          have t := i_meets _ _ _ _ L p.w (HLp.out.stay p.h)
          rw [hmb] at t
          exact t
        clear hmb ho OR V2
        cases mb
        · refine region_bw (by kernel_rfl) ?_
          repeat (quiet_step (first | (go_at_call 36; exact calls_bw (CO _)) | (go_at_call 96; exact calls_bw (CM _))))
          refine wpQuiet_nil ?_
          rintro _ ⟨p9, rfl⟩
          have B9 : Hid (Below W1.heap.size W1 p9.w) := on B2.out p9.h
          go_wp2_with fail
          go_roundw
          case rel => exact ⟨j + 1, by have := HLT.out; omega, by go_num, B9.out, by show _ = _; rw [hI.out, ST.out, V3.out]; rfl⟩
          case measure => have := HLT.out; simp [intOf]; omega
        · refine region_bw (by kernel_rfl) ?_
          repeat (quiet_step (first | (go_at_call 36; exact calls_bw (CO _)) | (go_at_call 96; exact calls_bw (CM _))))
          refine wpQuiet_nil ?_
          rintro _ ⟨p9, rfl⟩
          have B9 : Hid (Below w.heap.size w p9.w) := on HB3.out p9.h
          have RV : Hid (lanesV P.own [] P.lanes = 6) := by
            show _ = _
            rw [hI.out, ST.out, V3.out]
            rfl
          go_wp2_with fail
          go_ret
          rw [RV.out]
          exact ⟨rfl, B9.out⟩
      · have RV : Hid (lanesV P.own [] P.lanes = 6) := by
          show _ = _
          have e : laneV P.own (P.lanes.take j) L = 6 := by rw [V2.out, if_pos (by omega)]
          rw [hI.out, ST.out, e, if_neg (by decide)]
        have CO : ∀ p : BW w2, Calls Tryz.prog 36 #[.agg #[.slice a0 n0 c0, .slice (some x) n1 c1, .slice a2 n2 c2, .slice a3 n3 c3], .int .i64 L.pg] p.w fun e w' => e = .returned (.int .i64 (ownerFrom 0 P.own L.pg)) ∧ Below p.w.heap.size p.w w' := fun p => i_owner _ _ _ _ _ _ _ _ _ _ _ _ P L.pg p.w (HPw.out.stay p.h)
        clear OR V2
        refine region_bw (by kernel_rfl) ?_
        repeat (quiet_step ((go_at_call 36; exact calls_bw (CO _))))
        refine wpQuiet_nil ?_
        rintro _ ⟨p9, rfl⟩
        have B9 : Hid (Below w.heap.size w p9.w) := on HB3.out p9.h
        go_wp2_with fail
        go_ret
        rw [RV.out]
        exact ⟨rfl, B9.out⟩
    · have hJ : ¬ (j : Int) < (n1 : Int) := by omega
      have HJ : Hid (j = n1) := by show _ = _; omega
      clear hlt
      have RV : Hid (lanesV P.own [] P.lanes = 0) := by
        show _ = _
        rw [hI.out, List.drop_of_length_le (by have := HL1.out; have := HJ.out; omega)]
        rfl
      go_wp2_with fail
      go_ret
      rw [RV.out]
      exact ⟨rfl, on HB1.out HB.out⟩
end Go.Proofs.YtdhdfopkcpkbeaaGreatDoor
