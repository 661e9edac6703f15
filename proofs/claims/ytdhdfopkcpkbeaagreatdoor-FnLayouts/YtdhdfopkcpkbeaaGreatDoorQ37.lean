/- Texts of this seat, joined. -/
import Derived.Test.YtdhdfopkcpkbeaaGreatDoorQ14
import Derived.Test.YtdhdfopkcpkbeaaGreatDoorQ36
namespace Go.Proofs.YtdhdfopkcpkbeaaGreatDoor
open Go.RowKit
set_option linter.unusedVariables false

def laneHas (ls : List Ln) (pg : Int) : Bool := ls.any fun l => decide (l.pg = pg)
def isFree (P : Plc) (pg : Int) : Bool := decide (ownerFrom 0 P.own pg = -1) && !laneHas P.lanes pg
def freeUp (P : Plc) : Nat → List Int
  | 0 => []
  | j + 1 => freeUp P j ++ (if isFree P j = true then [(j : Int)] else [])
def freeC (P : Plc) : Int := pfV P
def freeZ (P : Plc) : List Int := if pfV P = 0 then freeUp P 24 else []
theorem freeUp_len (P : Plc) : ∀ j, (freeUp P j).length ≤ j
  | 0 => Nat.le_refl _
  | j + 1 => by
    have := freeUp_len P j
    rw [freeUp, List.length_append]
    split <;> simp <;> omega
theorem free_len (P : Plc) : (freeZ P).length ≤ 24 := by
  unfold freeZ
  split
  · exact freeUp_len P 24
  · exact Nat.zero_le _

theorem pf_parts (P : Plc) (h : pfV P = 0) : P.own.length ≤ 3 ∧ guestsV P.own = 0 ∧ lanesV P.own [] P.lanes = 0 ∧ bellsV P.own.length [] P.bells = 0 ∧ P.lanes.length ≤ 4 ∧ P.bells.length ≤ 4 ∧ 1 ≤ P.own.length := by
  have h1 := (or_zero h).1
  have h2 := (or_zero (or_zero h).2).1
  have h3 := (or_zero (or_zero h).2).2
  have h4 := (or_zero h1).1
  have h5 := (or_zero h2).1
  have h6 := (or_zero h2).2
  have h7 := (or_zero h3).1
  unfold g1V at h4
  split at h4
  · cases h4
  · rename_i k1
    unfold g3V at h5
    split at h5
    · cases h5
    · rename_i k2
      exact ⟨by omega, h4, h6, h7, by omega, by omega, by omega⟩
theorem isG_iff (n : Nat) (g : Int) : isG n g = true ↔ (0 ≤ g ∧ g < n) := by
  unfold isG
  simp
  omega
/-- What one round leaves: the list of numbers that grew stands in the answer under way (block O), the answer's place (block R) is as it was. -/
structure GrewI (w : World) (R O : Nat) (z : Value) (L : List Int) (w' : World) : Prop where
  prs : Nums w' (O + 1) z L
  r0 : w'.cell? ⟨R, 0, none⟩ = some (.int .i64 0)
  r1 : w'.cell? ⟨R, 1, none⟩ = some (.slice none 0 0)
  f0 : w'.frozen? ⟨R, 0, none⟩ = false
  f1 : w'.frozen? ⟨R, 1, none⟩ = false
  o0 : w'.cell? ⟨O, 0, none⟩ = some (.int .i64 0)
  o1 : w'.cell? ⟨O, 1, none⟩ = some z
  g1 : w'.frozen? ⟨O, 1, none⟩ = false
  lt : R < O
  below : Below w.heap.size w w'
theorem frozen_grownI {w w' : World} {row : Option Nat} {p : Addr} (g : w.grownBy w' row) (hp : p.block < w.heap.size) (hne : some p.block ≠ row) : w'.frozen? p = w.frozen? p :=
  World.frozen?_of_block (w := w) (g.block p.block hp hne)
theorem GrewI.keep {w w1 w2 : World} {R O : Nat} {z : Value} {L : List Int} (h : GrewI w R O z L w1) (b : Below w1.heap.size w1 w2) : GrewI w R O z L w2 := by
  have s1 : O < w1.heap.size := block_of_cell h.o0
  have s0 : R < w1.heap.size := block_of_cell h.r0
  exact ⟨h.prs.keep b, cell_keep b h.r0, cell_keep b h.r1, by rw [b.frozen (p := ⟨R, 0, none⟩) s0]; exact h.f0, by rw [b.frozen (p := ⟨R, 1, none⟩) s0]; exact h.f1,
    cell_keep b h.o0, cell_keep b h.o1, by rw [b.frozen (p := ⟨O, 1, none⟩) s1]; exact h.g1, h.lt, on h.below b⟩
theorem GrewI.grown {w w1 w2 : World} {R O : Nat} {z z' : Value} {L : List Int} {r : Int} (h : GrewI w R O z L w1) (hp : Nums w2 (O + 1) z' (L ++ [r])) (g : w1.grownBy w2 z.ownBlock) (hS : w.heap.size ≤ R) :
    GrewI w R O z' (L ++ [r]) (w2.setCell ⟨O, 1, none⟩ z') ∧ w2.cell? ⟨O, 1, none⟩ = some z ∧ w2.frozen? ⟨O, 1, none⟩ = false := by
  have s1 : O < w1.heap.size := block_of_cell h.o0
  have s0 : R < w1.heap.size := block_of_cell h.r0
  have hlt := h.lt
  have n0 : some R ≠ z.ownBlock := own_not h.prs _ (.inl (by omega))
  have n1 : some O ≠ z.ownBlock := own_not h.prs _ (.inl (by omega))
  have r0 := cell_grown g h.r0 n0
  have r1 := cell_grown g h.r1 n0
  have o0 := cell_grown g h.o0 n1
  have o1 := cell_grown g h.o1 n1
  have f0 : w2.frozen? ⟨R, 0, none⟩ = false := by rw [frozen_grownI (p := ⟨R, 0, none⟩) g s0 n0]; exact h.f0
  have f1 : w2.frozen? ⟨R, 1, none⟩ = false := by rw [frozen_grownI (p := ⟨R, 1, none⟩) g s0 n0]; exact h.f1
  have g1 : w2.frozen? ⟨O, 1, none⟩ = false := by rw [frozen_grownI (p := ⟨O, 1, none⟩) g s1 n1]; exact h.g1
  have b2 : Below w.heap.size w w2 := h.below.grown g h.below.size (fun k hk => by have := (h.prs.lt k hk).1; omega)
  have ne : ∀ i, (⟨O, 1, none⟩ : Addr) ≠ ⟨R, i, none⟩ := fun i e => by have := congrArg Addr.block e; simp at this; omega
  refine ⟨⟨hp.put _ _ (fun e => own_not hp O (.inl (by omega)) e.symm), by rw [World.cell?_setCell_other _ _ _ _ (ne 0)]; exact r0, by rw [World.cell?_setCell_other _ _ _ _ (ne 1)]; exact r1, by rw [World.frozen?_setCell]; exact f0, by rw [World.frozen?_setCell]; exact f1, by rw [World.cell?_setCell_other _ _ _ _ (by intro e; cases e)]; exact o0, by rw [World.cell?_setCell_same _ _ _ o1], by rw [World.frozen?_setCell]; exact g1, hlt, b2.setCell (by show w.heap.size ≤ O; omega) _⟩, o1, g1⟩
/-- The answer's place (a code and a list), still empty. -/
def RsI (w : World) (s : Nat) : Prop := w.cell? ⟨s + 1, 0, none⟩ = some (.int .i64 0) ∧ w.cell? ⟨s + 1, 1, none⟩ = some (.slice none 0 0) ∧ w.frozen? ⟨s + 1, 0, none⟩ = false ∧ w.frozen? ⟨s + 1, 1, none⟩ = false ∧ s + 1 < w.heap.size
theorem RsI.keep {w w' : World} {s : Nat} (h : RsI w s) (b : Below w.heap.size w w') : RsI w' s :=
  ⟨cell_keep b h.1, cell_keep b h.2.1, by rw [b.frozen (p := ⟨s + 1, 0, none⟩) h.2.2.2.2]; exact h.2.2.1, by rw [b.frozen (p := ⟨s + 1, 1, none⟩) h.2.2.2.2]; exact h.2.2.2.1, Nat.lt_of_lt_of_le h.2.2.2.2 b.size⟩

end Go.Proofs.YtdhdfopkcpkbeaaGreatDoor
