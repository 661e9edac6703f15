/- Lists of lists of pages (maps): how they are told, compared, marked and held. -/
import Derived.Test.YtgefcoojnahokaaDoorPfv
import Derived.Test.YtgefcoojnahokaaDoorPgm
import Derived.Test.YtgefcoojnahokaaDoorMkp
namespace Go.Proofs.YtgefcoojnahokaaDoor
open Go.RowKit
set_option linter.unusedVariables false

theorem own_types {w : World} {base base' e e' sz sz' n m : Nat} {v u : Value} {xs ys : List Value} (h : w.ownsRow base e sz v n xs) (k : w.ownsRow base' e' sz' u m ys) (hne : e ≠ e') : v.ownBlock = none ∨ v.ownBlock ≠ u.ownBlock := by
  obtain ⟨h1, ⟨rfl, h3⟩ | ⟨g, cap, cur, rfl, hg, hr, rest⟩⟩ := h
  · exact .inl rfl
  · obtain ⟨k1, ⟨rfl, k3⟩ | ⟨g', cap', cur', rfl, kg, kr, rest'⟩⟩ := k
    · exact .inr (fun e => by cases e)
    · refine .inr fun e => ?_
      cases e
      rw [hr] at kr
      cases kr
      exact hne rfl

def ext (n b : Nat) (B : Nat → Nat) : Nat → Nat := fun i => if i = n then b else B i
theorem range_ext (n b c : Nat) (B C : Nat → Nat) : (List.range (n + 1)).map (fun i => Value.slice (some ⟨ext n b B i, 0, none⟩) 8 (ext n c C i)) = (List.range n).map (fun i => Value.slice (some ⟨B i, 0, none⟩) 8 (C i)) ++ [.slice (some ⟨b, 0, none⟩) 8 c] := by
  rw [List.range_succ, List.map_append]
  congr 1
  · apply List.map_congr_left
    intro i hi
    have := List.mem_range.1 hi
    unfold ext
    rw [if_neg (by omega), if_neg (by omega)]
  · simp [ext]
end Go.Proofs.YtgefcoojnahokaaDoor
