/- Texts of this seat, joined. -/
import Derived.Test.YtdhdfopkcpkbeaaGreatDoorQ29
namespace Go.Proofs.YtdhdfopkcpkbeaaGreatDoor
open Go.RowKit
set_option linter.unusedVariables false

/-- The fault of two lists. -/
def twoV (rs : List (Int × Int)) (top : Int) (qs : List (Int × Int)) : Int := if pgsV rs top = 0 then pgsV qs 24 else pgsV rs top
set_option maxHeartbeats 1000000 in
theorem impl_two (v u : Value) (rs qs : List (Int × Int)) (top : Int) (b b' : Nat) (w : World) (h : Prs 96 w b v rs) (k : Prs 96 w b' u qs) (hm : rs.length ≤ 1048576) (km : qs.length ≤ 1048576) :
    Calls Tryz.prog 98 #[v, .int .i64 top, u] w fun e w' => e = .returned (.int .i64 (twoV rs top qs)) ∧ Below w.heap.size w w' := by
  have hF := impl_fault v rs top b w h hm
  have kF := fun w1 (q : Below w.heap.size w w1) => impl_fault u qs 24 b' w1 (k.keep q) km
  obtain ⟨a, cap, rfl, _, _, _⟩ := h.shape
  obtain ⟨a', cap', rfl, _, _, _⟩ := k.shape
  unfold twoV
  clear h k
  by_cases hc : pgsV rs top = 0
  · rw [if_pos hc]
    rw [hc] at hF
    clear hc
    generalize pgsV qs 24 = c at *
    go_enter Tryz.func98, Tryz.ntmps98
    go_wp2_with fail
    refine hF.mono ?_
    rintro e w1 ⟨rfl, b1⟩
    go_wp2_with fail
    refine (kF _ b1).mono ?_
    rintro e w2 ⟨rfl, b2⟩
    go_wp2_with fail
    go_ret
    exact ⟨rfl, on b1 b2⟩
  · rw [if_neg hc]
    have g : (pgsV rs top != 0) = true := by simpa using hc
    generalize pgsV rs top = c at *
    clear hc kF
    go_enter Tryz.func98, Tryz.ntmps98
    go_wp2_with fail
    refine hF.mono ?_
    rintro e w1 ⟨rfl, b1⟩
    go_wp2_with fail
    go_ret
    exact ⟨rfl, b1⟩

end Go.Proofs.YtdhdfopkcpkbeaaGreatDoor
