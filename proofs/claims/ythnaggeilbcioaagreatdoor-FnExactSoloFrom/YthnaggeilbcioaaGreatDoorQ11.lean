/- Texts of this seat, joined. -/
import Derived.Lib.SmallJoins
import Derived.Test.YthnaggeilbcioaaGreatDoorQ09
namespace Go.Proofs.YthnaggeilbcioaaGreatDoor
open Go.RowKit Go.ChangeShapes Go.WideShapes Go.ChangeAt
set_option linter.unusedVariables false

theorem list9 {α : Type} {l : List α} (h : l.length = 9) : ∃ a0 a1 a2 a3 a4 a5 a6 a7 a8, l = [a0, a1, a2, a3, a4, a5, a6, a7, a8] := by
  match l, h with
  | [a0, a1, a2, a3, a4, a5, a6, a7, a8], _ => exact ⟨a0, a1, a2, a3, a4, a5, a6, a7, a8, rfl⟩
theorem rn_open {H : Type} {enc : TypeId × Value → H} {P : Program} {w : World} {base : Nat} {held : Bool} {t e : TypeId} {fuel : Nat} {v : Value} {x : DataW H × List MemPlace}
    (ht : P.underlying t = some (.slice e)) (he : P.underlying e = some (.int .i64)) (ce : P.cellsOf e = 1)
    (h : DataW.trod enc P w base (fun _ => true) held fuel t [v] = some x) : ∃ a len cap zs, v = .slice a len cap ∧ IsRow .i64 w a len cap zs := by
  rcases open_ints ht he ce h with ⟨hcs, _⟩ | ⟨y, l, c, zs, hcs, _, hl, hm, hz, _, hcell, hwz⟩
  · simp at hcs
    exact ⟨none, 0, 0, [], hcs, .inl ⟨rfl, rfl, rfl, rfl⟩⟩
  · simp at hcs
    exact ⟨some y, l, c, _, hcs, IsRow.of_all hl hm (by simpa using hz) hcell hwz⟩
theorem bool_open {H : Type} {enc : TypeId × Value → H} {P : Program} {w : World} {base : Nat} {spare : Nat → Bool} {held : Bool} {t : TypeId} {fuel : Nat} {v : Value} {x : DataW H × List MemPlace}
    (ht : P.underlying t = some .bool) (h : DataW.trod enc P w base spare held fuel t [v] = some x) : ∃ b, v = .bool b := by
  obtain ⟨b, q, _⟩ := DataW.trod_bool ht h
  exact ⟨b, by simpa using q⟩
/-- A machine that came in. -/
structure Hin (w : World) (a0 : Option Addr) (n0 c0 : Nat) (a1 : Option Addr) (n1 c1 : Nat) (a2 : Option Addr) (n2 c2 : Nat) (a3 : Option Addr) (n3 c3 : Nat) (H : Ht) : Prop where
  regs : IsRow .i64 w a0 n0 c0 H.regs
  csr : IsRow .i64 w a1 n1 c1 H.csr
  inn : IsRow .i64 w a2 n2 c2 H.inn
  out : IsRow .i64 w a3 n3 c3 H.out
theorem Hin.stay {w w' : World} {a0 a1 a2 a3 : Option Addr} {n0 c0 n1 c1 n2 c2 n3 c3 : Nat} {H : Ht} (h : Hin w a0 n0 c0 a1 n1 c1 a2 n2 c2 a3 n3 c3 H) (b : Below w.heap.size w w') : Hin w' a0 n0 c0 a1 n1 c1 a2 n2 c2 a3 n3 c3 H :=
  ⟨h.regs.stay b, h.csr.stay b, h.inn.stay b, h.out.stay b⟩
end Go.Proofs.YthnaggeilbcioaaGreatDoor
