/- A list that grows in an answer under way. -/
import Derived.Test.YtnhebeehpkecfaaGreatDoorHnm
namespace Go.Proofs.YtnhebeehpkecfaaGreatDoor
open Go.RowKit
set_option linter.unusedVariables false

/-- Blocks below a number stay. -/
structure Mx (O : Nat) (w w' : World) : Prop where
  b : Below O w w'
theorem Mx.of {O : Nat} {w w' : World} (h : Below O w w') : Mx O w w' := ⟨h⟩
theorem Mx.vb {O : Nat} {w w' : World} (m : Mx O w w') {g : Nat} {cs : Array Value} {t : TypeId} (h : Vb w g cs t) (hg : g < O) : Vb w' g cs t := (m.b.block g hg).trans h
theorem Mx.nums {O : Nat} {w w' : World} (m : Mx O w w') {b : Nat} {v : Value} {zs : List Int} (h : Nums w b v zs) (hg : ∀ k, v.ownBlock = some k → k < O) : Nums w' b v zs := by
  obtain ⟨h1, h2 | ⟨g, cap, cur, hv, hb, hr, rest⟩⟩ := h
  · exact ⟨h1, .inl h2⟩
  · exact ⟨h1, .inr ⟨g, cap, cur, hv, hb, (m.b.block g (hg g (by rw [hv]; rfl))).trans hr, rest⟩⟩
theorem grow_step {O : Nat} {W2 wr w' : World} {o : Obj} {x y v' : Value} {zs ys : List Int} (HV : Vb wr O #[x, y] 31) (HN : Nums wr (O + 1) y zs) (HB : Below O W2 wr) (LW : O < wr.heap.size) (hN' : Nums w' (O + 1) v' ys) (hG' : (wr.alloc o).grownBy w' y.ownBlock) :
    ∃ ua ul uc, v' = .slice ua ul uc ∧ Hid (Nums w' (O + 1) v' ys) ∧ Hid (Below O W2 w') ∧ Hid (v'.ownBlock ≠ some O) ∧ Hid (Vb w' O #[x, y] 31) := by
  obtain ⟨ua, uc, hu5, _, _, _⟩ := hN'.shape
  refine ⟨ua, _, uc, hu5, hN', ?_, fun e => by have := (hN'.lt O e).1; omega, (HV.push _).gr hG' (fun e => by have := (HN.lt O e.symm).1; omega)⟩
  have h1 : Below wr.heap.size wr (wr.alloc o) := al (Below.refl _ _) _
  exact (HB.trans (h1.mono (Nat.le_of_lt LW))).grown hG' (by simp; have := HB.size; omega) (fun k hk => by have := (HN.lt k hk).1; omega)
end Go.Proofs.YtnhebeehpkecfaaGreatDoor
