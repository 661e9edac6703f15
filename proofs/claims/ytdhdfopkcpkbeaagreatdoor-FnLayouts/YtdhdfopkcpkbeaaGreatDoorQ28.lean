/- Texts of this seat, joined. -/
import Derived.Deep.RegionWith
import Derived.Laws.ByValue
import Derived.Test.YtdhdfopkcpkbeaaGreatDoorQ27
namespace Go.Proofs.YtdhdfopkcpkbeaaGreatDoor
open Go.RowKit
set_option linter.unusedVariables false

theorem mem_drop_pair (zs : List (Int × Int)) (b : Int × Int) (k : Nat) (hk : k < zs.length) : (b ∈ zs.drop k) ↔ (zs.getD k (0, 0) = b ∨ b ∈ zs.drop (k + 1)) := by
  rw [drop_cons_getD zs (0, 0) k hk, List.mem_cons]
  constructor
  · rintro (h | h)
    · exact .inl h.symm
    · exact .inr h
  · rintro (h | h)
    · exact .inl h.symm
    · exact .inr h

set_option maxHeartbeats 1000000 in
theorem i_index (a : Option Addr) (len cap : Nat) (x : Int) (zs : List Int) (w : World) (h : IsNs w a len cap zs) :
    Calls Tryz.prog 85 #[.slice a len cap, .int .i64 x] w fun e w' => (∃ v : Int, e = .returned (.int .i64 v) ∧ (0 ≤ v ↔ x ∈ zs)) ∧ w' = w := by
  have HR : Hid (IsNs w a len cap zs) := h
  have hmax : (len : Int) ≤ 9223372036854775807 := by have := h.cap; unfold maxLen at this; omega
  have HL : Hid (len = zs.length) := h.len
  clear h
  go_enter Tryz.func85, Tryz.ntmps85
  go_wp2_with fail
  go_loop [8] (fun c => ∃ j : Nat, j ≤ len ∧ c = .int .i64 j ∧ Hid ((x ∈ zs) ↔ (x ∈ zs.drop j))) (fun c => len - (intOf c).toNat)
  case atStart => exact ⟨0, Nat.zero_le _, rfl, by show _ ↔ _; simp⟩
  case round =>
    obtain ⟨j, hj, rfl, hI⟩ := hrel
    by_cases hlt : j < len
    · rcases HR.out with ⟨_, h1, _, _⟩ | ⟨y, rfl, h1, h2, h3, h4⟩
      · omega
      have c0 := h4 j hlt
      have hJ : (j : Int) < (len : Int) := by omega
      have HLT : Hid (j < len) := hlt
      have ST : Hid (_ ↔ _) := mem_drop_step zs x j (by have := HL.out; omega)
      clear h1 h2 h3 h4
      generalize hz : zs.getD j 0 = z at *
      clear hz
      clear hlt
      by_cases hx : x = z
      · have HX : Hid (x = z) := hx
        go_wp2_with fail
        go_ret
        exact ⟨⟨_, rfl, ⟨fun _ => by have := hI.out.2 (ST.out.2 (.inl HX.out.symm)); rw [HX.out] at this; exact this, fun _ => by omega⟩⟩, rfl⟩
      · have HX : Hid (¬ x = z) := hx
        go_wp2_with fail
        go_round
        case rel =>
          refine ⟨j + 1, by have := HLT.out; omega, by go_num, ?_⟩
          show _ ↔ _
          rw [hI.out, ST.out]
          have := HX.out
          exact ⟨fun h => h.elim (fun e => absurd e.symm this) id, .inr⟩
        case measure => have := HLT.out; simp [intOf]; omega
    · have hJ : ¬ (j : Int) < (len : Int) := by omega
      have HJ : Hid (j = len) := by show _ = _; omega
      clear hlt
      go_wp2_with fail
      go_ret
      refine ⟨⟨_, rfl, ?_⟩, rfl⟩
      rw [hI.out, List.drop_of_length_le (by have := HL.out; have := HJ.out; omega)]
      simp
theorem i_contains (a : Option Addr) (len cap : Nat) (x : Int) (zs : List Int) (w : World) (h : IsNs w a len cap zs) :
    Calls Tryz.prog 62 #[.slice a len cap, .int .i64 x] w fun e w' => e = .returned (.bool (decide (x ∈ zs))) ∧ w' = w := by
  have HR : Hid (IsNs w a len cap zs) := h
  clear h
  go_enter Tryz.func62, Tryz.ntmps62
  go_wp2_with (go_at_call 85; refine (i_index _ _ _ _ _ _ HR.out).mono ?_; rintro e w1 ⟨⟨v, rfl, hv⟩, rfl⟩)
  go_ret
  exact ⟨congrArg (fun b => Ending.returned (.bool b)) (by apply Bool.eq_iff_iff.2; simp), rfl⟩

set_option maxHeartbeats 2000000 in
theorem i_indexB (a : Option Addr) (len cap : Nat) (f t : Int) (zs : List (Int × Int)) (w : World) (h : IsPairs w a len cap zs) :
    Calls Tryz.prog 104 #[.slice a len cap, .agg #[.int .i64 f, .int .i64 t]] w fun e w' => (∃ v : Int, e = .returned (.int .i64 v) ∧ (0 ≤ v ↔ (f, t) ∈ zs)) ∧ Below w.heap.size w w' := by
  have HR : Hid (IsPairs w a len cap zs) := h
  have hmax : (len : Int) ≤ 9223372036854775807 := by have := h.cap; unfold maxLen at this; omega
  have HL : Hid (len = zs.length) := h.len
  clear h
  have q0 : (w.alloc (.cells #[.int .i64 f, .int .i64 t] 85)).cell? ⟨w.heap.size, 0, none⟩ = some (.int .i64 f) := cell_new rfl
  have q1 : (w.alloc (.cells #[.int .i64 f, .int .i64 t] 85)).cell? ⟨w.heap.size, 1, none⟩ = some (.int .i64 t) := cell_new rfl
  have Q : Hid (_ ∧ _) := ⟨q0, q1⟩
  have HB1 : Hid (Below w.heap.size w (w.alloc (.cells #[.int .i64 f, .int .i64 t] 85))) := al (Below.refl _ _) _
  clear q0 q1
  go_enter Tryz.func104, Tryz.ntmps104
  go_wp2_with fail
  generalize w.alloc (.cells #[.int .i64 f, .int .i64 t] 85) = W1 at *
  obtain ⟨B, hB⟩ : ∃ B, w.heap.size = B := ⟨_, rfl⟩
  rw [hB] at Q ⊢
  have HBB : Hid (w.heap.size = B) := hB
  clear hB
  go_loopw [8] (fun c wq => ∃ j : Nat, j ≤ len ∧ c = .int .i64 j ∧ Below W1.heap.size W1 wq ∧ Hid (((f, t) ∈ zs) ↔ ((f, t) ∈ zs.drop j))) (fun c _ => len - (intOf c).toNat)
  case atStart => exact ⟨0, Nat.zero_le _, rfl, Below.refl _ _, by show _ ↔ _; simp⟩
  case round =>
    obtain ⟨j, hj, rfl, hB, hI⟩ := hrel
    have HBq : Hid (Below _ W1 wr) := hB
    have HBw : Hid (Below w.heap.size w wr) := on HB1.out hB
    have q0 := cell_keep hB Q.out.1
    have q1 := cell_keep hB Q.out.2
    have bB : B < wr.heap.size := block_of_cell q0
    by_cases hlt : j < len
    · obtain ⟨x, rfl, k0, k1⟩ := (HR.out.stay (on HB1.out hB)).at j hlt
      have hJ : (j : Int) < (len : Int) := by omega
      have HLT : Hid (j < len) := hlt
      have ST : Hid (_ ↔ _) := mem_drop_pair zs (f, t) j (by have := HL.out; omega)
      obtain ⟨⟨o1, o2⟩, hO⟩ : ∃ O, zs.getD j (0, 0) = O := ⟨_, rfl⟩
      rw [hO] at k0 k1 ST
      simp only at k0 k1
      clear hO hlt hB
      by_cases h1 : f = o1
      · by_cases h2 : t = o2
        · subst h1 h2
          go_wp2_with fail
          go_quiet (fail)
          go_wp2_with fail
          go_ret
          exact ⟨⟨_, rfl, ⟨fun _ => hI.out.2 (ST.out.2 (.inl (by trivial))), fun _ => by omega⟩⟩, dr HBw.out _⟩
        · have HX : Hid (¬ t = o2) := h2
          go_wp2_with fail
          go_quiet (fail)
          go_wp2_with fail
          go_roundw
          case rel => exact ⟨j + 1, by have := HLT.out; omega, by go_num, dr HBq.out _, by show _ ↔ _; rw [hI.out, ST.out]; exact ⟨fun h => h.elim (fun e => absurd (congrArg Prod.snd e).symm HX.out) id, .inr⟩⟩
          case measure => have := HLT.out; simp [intOf]; omega
      · have HX : Hid (¬ f = o1) := h1
        go_wp2_with fail
        go_quiet (fail)
        go_wp2_with fail
        go_roundw
        case rel => exact ⟨j + 1, by have := HLT.out; omega, by go_num, dr HBq.out _, by show _ ↔ _; rw [hI.out, ST.out]; exact ⟨fun h => h.elim (fun e => absurd (congrArg Prod.fst e).symm HX.out) id, .inr⟩⟩
        case measure => have := HLT.out; simp [intOf]; omega
    · have hJ : ¬ (j : Int) < (len : Int) := by omega
      have HJ : Hid (j = len) := by show _ = _; omega
      clear hlt hB
      go_wp2_with fail
      go_ret
      refine ⟨⟨_, rfl, ?_⟩, HBw.out⟩
      rw [hI.out, List.drop_of_length_le (by have := HL.out; have := HJ.out; omega)]
      simp
theorem i_containsB (a : Option Addr) (len cap : Nat) (f t : Int) (zs : List (Int × Int)) (w : World) (h : IsPairs w a len cap zs) :
    Calls Tryz.prog 97 #[.slice a len cap, .agg #[.int .i64 f, .int .i64 t]] w fun e w' => e = .returned (.bool (decide ((f, t) ∈ zs))) ∧ Below w.heap.size w w' := by
  have HR : Hid (IsPairs (w.alloc (.cells #[.int .i64 f, .int .i64 t] 85)) a len cap zs) := h.stay (al (Below.refl _ _) _)
  clear h
  go_enter Tryz.func97, Tryz.ntmps97
  go_wp2_with (go_at_call 104; refine (i_indexB _ _ _ _ _ _ _ HR.out).mono ?_; rintro e w1 ⟨⟨v, rfl, hv⟩, b1⟩)
  go_ret
  exact ⟨congrArg (fun b => Ending.returned (.bool b)) (by apply Bool.eq_iff_iff.2; simp), on (al (Below.refl _ _) _) b1⟩

theorem i_closure (a : Option Addr) (len cap g : Nat) (x : Int) (zs : List Int) (w : World) (h : IsNs w a len cap zs) (hg : w.cell? ⟨g, 0, none⟩ = some (.int .i64 x)) :
    Calls Tryz.prog 61 #[.slice a len cap, .pointer (some ⟨g, 0, none⟩)] w fun e w' => e = .returned (.bool (decide (x ∈ zs))) ∧ w' = w := by
  have HR : Hid (IsNs w a len cap zs) := h
  clear h
  go_enter Tryz.func61, Tryz.ntmps61
  go_wp2_with (go_at_call 62; refine (i_contains _ _ _ _ _ _ HR.out).mono ?_; rintro e w1 ⟨rfl, rfl⟩)
  go_ret
  exact ⟨rfl, rfl⟩
set_option maxHeartbeats 1000000 in
theorem i_indexF (a : Option Addr) (n c g : Nat) (pg : Int) (own : List (List Int)) (w : World) (h : IsS2 w a n c own) (hg : w.cell? ⟨g, 0, none⟩ = some (.int .i64 pg)) :
    Calls Tryz.prog 60 #[.slice a n c, .func (.func 61) #[] #[.pointer (some ⟨g, 0, none⟩)]] w fun e w' => e = .returned (.int .i64 (ownerFrom 0 own pg)) ∧ w' = w := by
  have HL : Hid (n = own.length) := h.len
  have HO : Hid (IsS2 w a n c own) := h
  have HG : Hid (w.cell? ⟨g, 0, none⟩ = some (.int .i64 pg)) := hg
  have hmax : (n : Int) ≤ 9223372036854775807 := by have := h.cap; unfold maxLen at this; omega
  clear h hg
  go_enter Tryz.func60, Tryz.ntmps60
  go_wp2_with fail
  go_loop [8] (fun c => ∃ j : Nat, j ≤ n ∧ c = .int .i64 j ∧ Hid (ownerFrom 0 own pg = ownerFrom j (own.drop j) pg)) (fun c => n - (intOf c).toNat)
  case atStart => exact ⟨0, Nat.zero_le _, rfl, by show _ = _; simp⟩
  case round =>
    obtain ⟨j, hj, rfl, hI⟩ := hrel
    by_cases hlt : j < n
    · obtain ⟨x, b, l, c, rfl, k1, k2⟩ := HO.out.at j hlt
      have HN : Hid (IsNs w b l c _) := k2
      have hJ : (j : Int) < (n : Int) := by omega
      have HLT : Hid (j < n) := hlt
      have ST : Hid (_ = _) := owner_step own pg j (by have := HL.out; omega)
      clear k2 hlt
      by_cases hx : pg ∈ own.getD j []
      · have HX : Hid (pg ∈ own.getD j []) := hx
        have hd : decide (pg ∈ own.getD j []) = true := decide_eq_true hx
        clear hx
        go_wp2_with (go_at_call 61; refine (i_closure _ _ _ _ _ _ _ HN.out HG.out).mono ?_; rintro e x ⟨rfl, rfl⟩; rw [hd])
        go_ret
        rw [hI.out, ST.out, if_pos HX.out]
        exact ⟨rfl, rfl⟩
      · have HX : Hid (¬ pg ∈ own.getD j []) := hx
        have hd : decide (pg ∈ own.getD j []) = false := decide_eq_false hx
        clear hx
        go_wp2_with (go_at_call 61; refine (i_closure _ _ _ _ _ _ _ HN.out HG.out).mono ?_; rintro e x ⟨rfl, rfl⟩; rw [hd])
        go_round
        case rel =>
          refine ⟨j + 1, by have := HLT.out; omega, by go_num, ?_⟩
          show _ = _
          rw [hI.out, ST.out, if_neg HX.out]
        case measure => have := HLT.out; simp [intOf]; omega
    · have hJ : ¬ (j : Int) < (n : Int) := by omega
      have HJ : Hid (j = n) := by show _ = _; omega
      clear hlt
      go_wp2_with fail
      go_ret
      rw [hI.out, List.drop_of_length_le (by have := HL.out; have := HJ.out; omega)]
      exact ⟨rfl, rfl⟩
theorem i_owner (a0 a1 a2 a3 : Option Addr) (n0 c0 n1 c1 n2 c2 n3 c3 : Nat) (P : Plc) (pg : Int) (w : World) (h : Pl w a0 n0 c0 a1 n1 c1 a2 n2 c2 a3 n3 c3 P) :
    Calls Tryz.prog 36 #[.agg #[.slice a0 n0 c0, .slice a1 n1 c1, .slice a2 n2 c2, .slice a3 n3 c3], .int .i64 pg] w fun e w' => e = .returned (.int .i64 (ownerFrom 0 P.own pg)) ∧ Below w.heap.size w w' := by
  have HO : Hid (IsS2 ((w.alloc (.cells #[.slice a0 n0 c0, .slice a1 n1 c1, .slice a2 n2 c2, .slice a3 n3 c3] 29)).alloc (.cells #[.int .i64 pg] 2)) a0 n0 c0 P.own) := h.own.stay (al (al (Below.refl _ _) _) _)
  have HG : Hid (((w.alloc (.cells #[.slice a0 n0 c0, .slice a1 n1 c1, .slice a2 n2 c2, .slice a3 n3 c3] 29)).alloc (.cells #[.int .i64 pg] 2)).cell? ⟨w.heap.size + 1, 0, none⟩ = some (.int .i64 pg)) := by
    show _ = _
    simp
  clear h
  go_enter Tryz.func36, Tryz.ntmps36
  go_wp2_with (go_at_call 60; refine (i_indexF _ _ _ _ _ _ _ HO.out HG.out).mono ?_; rintro e w1 ⟨rfl, rfl⟩)
  go_ret
  exact ⟨rfl, al (al (Below.refl _ _) _) _⟩
end Go.Proofs.YtdhdfopkcpkbeaaGreatDoor
