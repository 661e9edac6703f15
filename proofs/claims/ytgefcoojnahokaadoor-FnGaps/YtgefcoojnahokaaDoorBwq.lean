/- A region that draws its order, whose operations read and whose calls may lay memory of their own: walked once, at the class of the worlds that keep what there was. -/
import Derived.Test.YtgefcoojnahokaaDoorPos
import Derived.Deep.QuietTactic
namespace Go.Proofs.YtgefcoojnahokaaDoor
open Go.RowKit
set_option linter.unusedVariables false

/-- A world that keeps what was there in W. -/
structure BW (W : World) where
  w : World
  h : Below W.heap.size W w

theorem region_bw {id : Nat} {Q : Exit → Act → World → Prop} {a : Act} {W : World} {l : List Oper} (hB : Region.lexB .any l.toArray = true)
    (h : wpQuiet Tryd.prog l.toArray (fun w' => ∃ p : BW W, w' = p.w) (fun a' => ∀ w', (∃ p : BW W, w' = p.w) → Q .normal a' w') l a) : (Code.region id l.toArray true).wp Tryd.prog Q a W :=
  wp_region_quiet (C := fun w' => ∃ p : BW W, w' = p.w) (by kernel_rfl) hB ⟨⟨{ W with drawn := W.drawn + 1 }, (Below.refl _ _).drew⟩, rfl⟩ (by simpa using h)
theorem calls_bw {f : FuncId} {args : Array Value} {W : World} {p : BW W} {v : Value}
    (h : Calls Tryd.prog f args p.w fun e w' => e = .returned v ∧ Below p.w.heap.size p.w w') : Calls Tryd.prog f args p.w fun e w'' => e = .returned v ∧ ∃ q : BW W, w'' = q.w :=
  h.mono fun _ w' ⟨he, hb⟩ => ⟨he, ⟨w', on p.h hb⟩, rfl⟩
theorem calls_bw_same {f : FuncId} {args : Array Value} {W : World} {p : BW W} {v : Value}
    (h : Calls Tryd.prog f args p.w fun e w' => e = .returned v ∧ w' = p.w) : Calls Tryd.prog f args p.w fun e w'' => e = .returned v ∧ ∃ q : BW W, w'' = q.w :=
  h.mono fun _ w' ⟨he, hb⟩ => ⟨he, p, hb⟩
theorem BW.cell {W : World} {a : Addr} {v : Value} (h : W.cell? a = some v) (p : BW W) : p.w.cell? a = some v := cell_keep p.h h
end Go.Proofs.YtgefcoojnahokaaDoor
