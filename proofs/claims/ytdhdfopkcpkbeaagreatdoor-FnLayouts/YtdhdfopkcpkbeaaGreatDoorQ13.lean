/- Texts of this seat, joined. -/
import Derived.Test.YtdhdfopkcpkbeaaGreatDoorQ12
namespace Go.Proofs.YtdhdfopkcpkbeaaGreatDoor
open Go.RowKit
set_option linter.unusedVariables false

/-- A policy at the head of the block q. -/
def PolAt (w : World) (q : Nat) (P : Plc) : Prop :=
  ∃ a0 n0 c0 a1 n1 c1 a2 n2 c2 a3 n3 c3, w.cell? ⟨q, 0, none⟩ = some (.slice a0 n0 c0) ∧ w.cell? ⟨q, 1, none⟩ = some (.slice a1 n1 c1) ∧ w.cell? ⟨q, 2, none⟩ = some (.slice a2 n2 c2) ∧ w.cell? ⟨q, 3, none⟩ = some (.slice a3 n3 c3) ∧
    Pl w a0 n0 c0 a1 n1 c1 a2 n2 c2 a3 n3 c3 P
theorem PolAt.stay {w w' : World} {q : Nat} {P : Plc} (h : PolAt w q P) (b : Below w.heap.size w w') : PolAt w' q P := by
  obtain ⟨a0, n0, c0, a1, n1, c1, a2, n2, c2, a3, n3, c3, h0, h1, h2, h3, h4⟩ := h
  exact ⟨a0, n0, c0, a1, n1, c1, a2, n2, c2, a3, n3, c3, cell_keep b h0, cell_keep b h1, cell_keep b h2, cell_keep b h3, h4.stay b⟩

theorem l1_in (z a b : Int) (w : World) : Calls Tryz.prog 78 #[.int .i64 z, .int .i64 a, .int .i64 b] w fun e w' => e = .returned (.bool (decide (a ≤ z) && decide (z ≤ b))) ∧ w' = w := by
  by_cases h : a ≤ z
  · go_enter Tryz.func78, Tryz.ntmps78
    go_wp2
    go_ret
    exact ⟨by simp [h], rfl⟩
  · go_enter Tryz.func78, Tryz.ntmps78
    go_wp2
    go_ret
    exact ⟨by simp; omega, rfl⟩

theorem l1_pg (z : Int) (w : World) : Calls Tryz.prog 78 #[.int .i64 z, .int .i64 0, .int .i64 23] w fun e w' => e = .returned (.bool (pgOk z)) ∧ w' = w := l1_in z 0 23 w
theorem l1_st (z : Int) (w : World) : Calls Tryz.prog 78 #[.int .i64 z, .int .i64 1, .int .i64 50] w fun e w' => e = .returned (.bool (stOk z)) ∧ w' = w := l1_in z 1 50 w

theorem mem_drop_step (zs : List Int) (x : Int) (j : Nat) (h : j < zs.length) : (x ∈ zs.drop j) ↔ (zs.getD j 0 = x ∨ x ∈ zs.drop (j + 1)) := by
  rw [drop_cons_getD zs 0 j h, List.mem_cons]
  constructor
  · rintro (h | h)
    · exact .inl h.symm
    · exact .inr h
  · rintro (h | h)
    · exact .inl h.symm
    · exact .inr h

set_option maxHeartbeats 1000000 in
theorem l1_has (a : Option Addr) (len cap : Nat) (x : Int) (zs : List Int) (w : World) (h : IsNs w a len cap zs) :
    Calls Tryz.prog 79 #[.slice a len cap, .int .i64 x] w fun e w' => e = .returned (.bool (decide (x ∈ zs))) ∧ w' = w := by
  have HR : Hid (IsNs w a len cap zs) := h
  have hmax : (len : Int) ≤ 9223372036854775807 := by have := h.cap; unfold maxLen at this; omega
  have HL : Hid (len = zs.length) := h.len
  clear h
  go_enter Tryz.func79, Tryz.ntmps79
  go_wp2_with fail
  go_loop [5] (fun c => ∃ j : Nat, j ≤ len ∧ c = .int .i64 j ∧ Hid ((x ∈ zs) ↔ (x ∈ zs.drop j))) (fun c => len - (intOf c).toNat)
  case atStart => exact ⟨0, Nat.zero_le _, rfl, by show _ ↔ _; simp⟩
  case round =>
    obtain ⟨j, hj, rfl, hI⟩ := hrel
    by_cases hlt : j < len
    · rcases HR.out with ⟨_, h1, _, _⟩ | ⟨y, rfl, h1, h2, h3, h4⟩
      · omega
      have c0 := h4 j hlt
      have hJ : (j : Int) < (len : Int) := by omega
      have HLT : Hid (j < len) := hlt
      have ST : Hid (_ ↔ _) := mem_drop_step zs x j (by have := HL.out; omega)
      clear h1 h2 h3 h4
      generalize hz : zs.getD j 0 = z at *
      clear hz
      clear hlt
      by_cases hx : z = x
      · go_wp2_with fail
        go_ret
        refine ⟨?_, rfl⟩
        have : x ∈ zs := hI.out.2 (ST.out.2 (.inl hx))
        simp [this]
      · have HX : Hid (¬ z = x) := hx
        go_wp2_with fail
        go_round
        case rel =>
          refine ⟨j + 1, by have := HLT.out; omega, by go_num, ?_⟩
          show _ ↔ _
          rw [hI.out, ST.out]
          have := HX.out
          simp [this]
        case measure => have := HLT.out; simp [intOf]; omega
    · have hJ : ¬ (j : Int) < (len : Int) := by omega
      have HJ : Hid (j = len) := by show _ = _; omega
      clear hlt
      go_wp2_with fail
      go_ret
      refine ⟨?_, rfl⟩
      have e := hI.out
      rw [List.drop_of_length_le (by have := HL.out; have := HJ.out; omega)] at e
      simp at e
      simp [e]

theorem l6_guest (q : Nat) (g : Int) (P : Plc) (w : World) (h : PolAt w q P) :
    Calls Tryz.prog 83 #[.pointer (some ⟨q, 0, none⟩), .int .i64 g] w fun e w' => e = .returned (.bool (isG P.own.length g)) ∧ w' = w := by
  obtain ⟨a0, n0, c0, a1, n1, c1, a2, n2, c2, a3, n3, c3, h0, h1, h2, h3, h4⟩ := h
  have HL : Hid (n0 = P.own.length) := h4.own.len
  have hmax : (n0 : Int) ≤ 9223372036854775807 := by have := h4.own.cap; unfold maxLen at this; omega
  clear h1 h2 h3 h4
  go_enter Tryz.func83, Tryz.ntmps83
  go_wp2_with (go_at_call 78; refine (l1_in _ _ _ _).mono ?_; rintro e x ⟨rfl, rfl⟩)
  go_ret
  rw [isG, ← HL.out]
  exact ⟨rfl, rfl⟩

set_option maxHeartbeats 1000000 in
theorem l6_owner (q : Nat) (pg : Int) (P : Plc) (w : World) (h : PolAt w q P) :
    Calls Tryz.prog 81 #[.pointer (some ⟨q, 0, none⟩), .int .i64 pg] w fun e w' => e = .returned (.int .i64 (ownerFrom 0 P.own pg)) ∧ w' = w := by
  obtain ⟨a0, n0, c0, a1, n1, c1, a2, n2, c2, a3, n3, c3, h0, h1, h2, h3, h4⟩ := h
  have HL : Hid (n0 = P.own.length) := h4.own.len
  have HO : Hid (IsS2 w a0 n0 c0 P.own) := h4.own
  have hmax : (n0 : Int) ≤ 9223372036854775807 := by have := h4.own.cap; unfold maxLen at this; omega
  clear h1 h2 h3 h4
  go_enter Tryz.func81, Tryz.ntmps81
  go_wp2_with fail
  go_loop [5] (fun c => ∃ j : Nat, j ≤ n0 ∧ c = .int .i64 j ∧ Hid (ownerFrom 0 P.own pg = ownerFrom j (P.own.drop j) pg)) (fun c => n0 - (intOf c).toNat)
  case atStart => exact ⟨0, Nat.zero_le _, rfl, by show _ = _; simp⟩
  case round =>
    obtain ⟨j, hj, rfl, hI⟩ := hrel
    by_cases hlt : j < n0
    · obtain ⟨x, b, l, c, rfl, k1, k2⟩ := HO.out.at j hlt
      have HN : Hid (IsNs w b l c _) := k2
      have hJ : (j : Int) < (n0 : Int) := by omega
      have HLT : Hid (j < n0) := hlt
      have ST : Hid (_ = _) := owner_step P.own pg j (by have := HL.out; omega)
      clear k2 hlt
      by_cases hx : pg ∈ P.own.getD j []
      · have HX : Hid (pg ∈ P.own.getD j []) := hx
        have hd : decide (pg ∈ P.own.getD j []) = true := decide_eq_true hx
        clear hx
        go_wp2_with (go_at_call 79; refine (l1_has _ _ _ _ _ _ HN.out).mono ?_; rintro e x ⟨rfl, rfl⟩; rw [hd])
        go_ret
        rw [hI.out, ST.out, if_pos HX.out]
        exact ⟨rfl, rfl⟩
      · have HX : Hid (¬ pg ∈ P.own.getD j []) := hx
        have hd : decide (pg ∈ P.own.getD j []) = false := decide_eq_false hx
        clear hx
        go_wp2_with (go_at_call 79; refine (l1_has _ _ _ _ _ _ HN.out).mono ?_; rintro e x ⟨rfl, rfl⟩; rw [hd])
        go_round
        case rel =>
          refine ⟨j + 1, by have := HLT.out; omega, by go_num, ?_⟩
          show _ = _
          rw [hI.out, ST.out, if_neg HX.out]
        case measure => have := HLT.out; simp [intOf]; omega
    · have hJ : ¬ (j : Int) < (n0 : Int) := by omega
      have HJ : Hid (j = n0) := by show _ = _; omega
      clear hlt
      go_wp2_with fail
      go_ret
      rw [hI.out, List.drop_of_length_le (by have := HL.out; have := HJ.out; omega)]
      exact ⟨rfl, rfl⟩

theorem l6_at (l : Ln) (g p : Int) (w : World) : Calls Tryz.prog 82 #[.agg #[.int .i64 l.fr, .int .i64 l.dst, .int .i64 l.pg, .int .i64 l.af, .int .i64 l.tt], .int .i64 g, .int .i64 p] w fun e w' => e = .returned (.bool (usesV l g p)) ∧ w' = w.alloc (.cells #[.int .i64 l.fr, .int .i64 l.dst, .int .i64 l.pg, .int .i64 l.af, .int .i64 l.tt] 83) := by
  obtain ⟨a, b, c, d, z⟩ := l
  unfold usesV
  simp only
  have e0 : ∀ x : Bool, decide (a = g ∧ d = p ∨ b = g ∧ z = p) = x → True := fun _ _ => trivial
  by_cases h1 : a = g <;> by_cases h2 : d = p <;> by_cases h3 : b = g <;> by_cases h4 : z = p <;>
    (go_enter Tryz.func82, Tryz.ntmps82
     go_wp2_with fail
     go_ret
     exact ⟨by simp [h1, h2, h3, h4], by first | rfl | simp [h1, h2, h3, h4]⟩)

theorem l6_ends (q : Nat) (f t : Int) (P : Plc) (w : World) (h : PolAt w q P) :
    Calls Tryz.prog 80 #[.pointer (some ⟨q, 0, none⟩), .int .i64 f, .int .i64 t] w fun e w' => e = .returned (.int .i64 (endsV P.own.length f t)) ∧ w' = w := by
  have HP : Hid (PolAt w q P) := h
  clear h
  unfold endsV
  by_cases h1 : isG P.own.length f = true
  · by_cases h2 : isG P.own.length t = true
    · rw [if_neg (by simp [h1, h2])]
      by_cases h3 : f = t
      · rw [if_pos h3]
        go_enter Tryz.func80, Tryz.ntmps80
        go_wp2_with (go_at_call 83; refine (l6_guest _ _ P _ HP.out).mono ?_; rintro e x ⟨rfl, rfl⟩; first | rw [h1] | rw [h2])
        go_ret
        exact ⟨rfl, rfl⟩
      · rw [if_neg h3]
        go_enter Tryz.func80, Tryz.ntmps80
        go_wp2_with (go_at_call 83; refine (l6_guest _ _ P _ HP.out).mono ?_; rintro e x ⟨rfl, rfl⟩; first | rw [h1] | rw [h2])
        go_ret
        exact ⟨rfl, rfl⟩
    · rw [Bool.not_eq_true] at h2
      rw [if_pos (.inr h2)]
      go_enter Tryz.func80, Tryz.ntmps80
      go_wp2_with (go_at_call 83; refine (l6_guest _ _ P _ HP.out).mono ?_; rintro e x ⟨rfl, rfl⟩; first | rw [h1] | rw [h2])
      go_ret
      exact ⟨rfl, rfl⟩
  · rw [Bool.not_eq_true] at h1
    rw [if_pos (.inl h1)]
    go_enter Tryz.func80, Tryz.ntmps80
    go_wp2_with (go_at_call 83; refine (l6_guest _ _ P _ HP.out).mono ?_; rintro e x ⟨rfl, rfl⟩; rw [h1])
    go_ret
    exact ⟨rfl, rfl⟩
end Go.Proofs.YtdhdfopkcpkbeaaGreatDoor
