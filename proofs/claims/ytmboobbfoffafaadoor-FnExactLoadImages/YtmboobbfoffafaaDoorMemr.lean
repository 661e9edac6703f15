/- Answers that hold a memory: compared, marked and held. -/
import Derived.Test.YtmboobbfoffafaaDoorNumb
namespace Go.Proofs.YtmboobbfoffafaaDoor
open Go.RowKit
set_option linter.unusedVariables false

theorem eq_mem (c : Int) (v u : Value) (zs : List Int) (b b' : Nat) (w : World) (h : Nums w b v zs) (k : Nums w b' u zs) :
    Calls Tryd.prog 11 #[.agg #[.int .i64 c, v], .agg #[.int .i64 c, u]] w fun e w' => e = .returned (.bool true) ∧ Below w.heap.size w w' := by
  obtain ⟨a, cap, rfl, _, _, _⟩ := h.shape
  obtain ⟨a', cap', rfl, _, _, _⟩ := k.shape
  have H : Hid (Nums w b _ zs) := h
  have K : Hid (Nums w b' _ zs) := k
  clear h k
  go_enter Tryd.func11, Tryd.ntmps11
  go_wp2_with fail
  refine (eq_nums _ _ _ _ _ _ (H.out.keep (al (al (Below.refl _ _) _) _)) (K.out.keep (al (al (Below.refl _ _) _) _))).mono ?_
  rintro e w1 ⟨rfl, b1⟩
  go_wp2_with fail
  go_ret
  exact ⟨rfl, on (al (al (Below.refl _ _) _) _) b1⟩

theorem grown_pre {w w' : World} {o : Obj} {row : Option Nat} (h : (w.alloc o).grownBy w' row) : w.grownBy w' row :=
  ⟨h.os, h.tape, h.output, by have := h.size; simp at this; omega, fun k hk hn => by rw [h.block k (by simp; omega) hn, Below.heap_alloc _ _ _ hk]⟩

theorem mark_mem (c : Int) (v : Value) (zs : List Int) (k : Int) (b : Nat) (w : World) (h : Nums w b v zs) (hk : 0 ≤ k) (hz : k + zs.length ≤ 4611686018427387904) :
    Calls Tryd.prog 16 #[.agg #[.int .i64 c, v], .int .i64 k] w fun e w' => e = .returned (.int .i64 (k + zs.length)) ∧ Nums w' b v (marks k zs.length) ∧ w.grownBy w' v.ownBlock := by
  obtain ⟨a, cap, rfl, _, _, _⟩ := h.shape
  have H : Hid (Nums w b _ zs) := h
  have HZ : Hid (0 ≤ k ∧ k + zs.length ≤ 4611686018427387904) := ⟨hk, hz⟩
  clear h hk hz
  go_enter Tryd.func16, Tryd.ntmps16
  go_wp2_with fail
  refine (mark_nums _ _ _ _ _ (H.out.keep (al (Below.refl _ _) _)) HZ.out.1 HZ.out.2).mono ?_
  rintro e w1 ⟨rfl, n1, g1⟩
  have N1 : Hid (Nums w1 b _ _) := n1
  have G1 : Hid (World.grownBy _ _ _) := grown_pre g1
  clear n1 g1
  go_wp2_with fail
  go_ret
  exact ⟨rfl, N1.out, G1.out⟩

theorem held_mem (c : Int) (v : Value) (k : Int) (n : Nat) (b : Nat) (w : World) (h : Nums w b v (marks k n)) (hk : 0 ≤ k) (hz : k + n ≤ 4611686018427387904) :
    Calls Tryd.prog 17 #[.agg #[.int .i64 c, v], .int .i64 k] w fun e w' => e = .returned (.int .i64 (k + n)) ∧ Below w.heap.size w w' := by
  obtain ⟨a, cap, rfl, _, _, _⟩ := h.shape
  have H : Hid (Nums w b _ (marks k n)) := h
  have HZ : Hid (0 ≤ k ∧ k + n ≤ 4611686018427387904) := ⟨hk, hz⟩
  clear h
  go_enter Tryd.func17, Tryd.ntmps17
  go_wp2_with fail
  refine (held_nums _ _ n _ _ (H.out.keep (al (Below.refl _ _) _)) HZ.out.1 HZ.out.2).mono ?_
  rintro e w1 ⟨rfl, rfl⟩
  go_wp2_with fail
  go_ret
  exact ⟨rfl, al (Below.refl _ _) _⟩
theorem cell_grown {w w' : World} {row : Option Nat} {p : Addr} {v : Value} (g : w.grownBy w' row) (h : w.cell? p = some v) (hne : some p.block ≠ row) : w'.cell? p = some v := by
  rw [← h]
  exact World.cell?_of_block (w := w) (g.block p.block (block_of_cell h) hne)
theorem below_of_grown {a w w' : World} {v : Value} {base : Nat} {zs : List Int} (h : Below a.heap.size a w) (g : w.grownBy w' v.ownBlock) (n : Nums w base v zs) (hb : a.heap.size ≤ base) : Below a.heap.size a w' :=
  h.grown g h.size (fun k hk => Nat.le_trans hb (n.lt k hk).1)
theorem own_ne {w w' : World} {base base' : Nat} {v u : Value} {zs ys : List Int} (h : Nums w base v zs) (k : Nums w' base' u ys) (hb : w.heap.size ≤ base') : v.ownBlock = none ∨ v.ownBlock ≠ u.ownBlock := by
  cases e : v.ownBlock with
  | none => exact .inl rfl
  | some x =>
    refine .inr fun e2 => ?_
    have h1 := (h.lt x e).2
    have h2 := (k.lt x e2.symm).1
    omega
theorem own_not {w : World} {base : Nat} {v : Value} {zs : List Int} (h : Nums w base v zs) (x : Nat) (hx : x < base ∨ w.heap.size ≤ x) : some x ≠ v.ownBlock := by
  intro e
  have := h.lt x e.symm
  omega
end Go.Proofs.YtmboobbfoffafaaDoor
