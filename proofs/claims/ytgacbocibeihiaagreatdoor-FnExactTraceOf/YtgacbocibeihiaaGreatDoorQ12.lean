/- Texts of this seat, joined. -/
import Derived.Test.YtgacbocibeihiaaGreatDoorQ07
namespace Go.Proofs.YtgacbocibeihiaaGreatDoor
open Go.RowKit
set_option linter.unusedVariables false

theorem eq_ints (c : Int) (v u : Value) (zs : List Int) (b b' : Nat) (w : World) (h : Nums w b v zs) (k : Nums w b' u zs) :
    Calls Tryz.prog 8 #[.agg #[.int .i64 c, v], .agg #[.int .i64 c, u]] w fun e w' => e = .returned (.bool true) ∧ Below w.heap.size w w' := by
  obtain ⟨a, cap, rfl, _, _, _⟩ := h.shape
  obtain ⟨a', cap', rfl, _, _, _⟩ := k.shape
  have H : Hid (Nums w b _ zs) := h
  have K : Hid (Nums w b' _ zs) := k
  clear h k
  go_enter Tryz.func8, Tryz.ntmps8
  go_wp2_with fail
  refine (eq_nums _ _ _ _ _ _ (H.out.keep (al (al (Below.refl _ _) _) _)) (K.out.keep (al (al (Below.refl _ _) _) _))).mono ?_
  rintro e w1 ⟨rfl, b1⟩
  go_wp2_with fail
  go_ret
  exact ⟨rfl, on (al (al (Below.refl _ _) _) _) b1⟩

theorem mark_ints (c : Int) (v : Value) (zs : List Int) (k : Int) (b : Nat) (w : World) (h : Nums w b v zs) (hk : 0 ≤ k) (hz : k + zs.length ≤ 4611686018427387904) :
    Calls Tryz.prog 11 #[.agg #[.int .i64 c, v], .int .i64 k] w fun e w' => e = .returned (.int .i64 (k + zs.length)) ∧ Nums w' b v (marks k zs.length) ∧ w.grownBy w' v.ownBlock := by
  obtain ⟨a, cap, rfl, _, _, _⟩ := h.shape
  have H : Hid (Nums w b _ zs) := h
  have HZ : Hid (0 ≤ k ∧ k + zs.length ≤ 4611686018427387904) := ⟨hk, hz⟩
  clear h hk hz
  go_enter Tryz.func11, Tryz.ntmps11
  go_wp2_with fail
  refine (mark_nums _ _ _ _ _ (H.out.keep (al (Below.refl _ _) _)) HZ.out.1 HZ.out.2).mono ?_
  rintro e w1 ⟨rfl, n1, g1⟩
  have N1 : Hid (Nums w1 b _ _) := n1
  have G1 : Hid (World.grownBy _ _ _) := grown_pre g1
  clear n1 g1
  go_wp2_with fail
  go_ret
  exact ⟨rfl, N1.out, G1.out⟩

theorem held_ints (c : Int) (v : Value) (k : Int) (n : Nat) (b : Nat) (w : World) (h : Nums w b v (marks k n)) (hk : 0 ≤ k) (hz : k + n ≤ 4611686018427387904) :
    Calls Tryz.prog 12 #[.agg #[.int .i64 c, v], .int .i64 k] w fun e w' => e = .returned (.int .i64 (k + n)) ∧ Below w.heap.size w w' := by
  obtain ⟨a, cap, rfl, _, _, _⟩ := h.shape
  have H : Hid (Nums w b _ (marks k n)) := h
  have HZ : Hid (0 ≤ k ∧ k + n ≤ 4611686018427387904) := ⟨hk, hz⟩
  clear h
  go_enter Tryz.func12, Tryz.ntmps12
  go_wp2_with fail
  refine (held_nums _ _ n _ _ (H.out.keep (al (Below.refl _ _) _)) HZ.out.1 HZ.out.2).mono ?_
  rintro e w1 ⟨rfl, rfl⟩
  go_wp2_with fail
  go_ret
  exact ⟨rfl, al (Below.refl _ _) _⟩
end Go.Proofs.YtgacbocibeihiaaGreatDoor
