/- A stage of the comparison of two machines by the model. -/
import Derived.Test.YtldfcojmcdpdgaaVsv
namespace Go.Proofs.Ytldfcojmcdpdgaa
open Go.RowKit
set_option linter.unusedVariables false

set_option maxRecDepth 20000 in
set_option maxHeartbeats 8000000 in
theorem stage6 {ops : Array Oper} {w : World} {Q : Act → Prop} {rest : List Oper} {a : Act} {q q' : Nat} {c : Bool} {ty0 ty1 ty2 ty3 ty4 ty5 ty6 ty7 ty8 ty9 ty10 : TypeId} {po0 po1 po2 po3 po4 po5 po6 po7 po8 po9 po10 : String} {af0 af1 af2 af3 af4 af5 af6 af7 af8 af9 af10 : Array Edge} (x y : Int) (A : Ac ops a 64 69 c q q') (cx : w.cell? ⟨q, 6, none⟩ = some (.int .i64 x)) (cy : w.cell? ⟨q', 6, none⟩ = some (.int .i64 y)) (ho : (ops[75]?).bind (·.dst) = some 80)
    (h : ∀ a' : Act, Ac ops a' 75 80 (c && decide (x = y)) q q' → wpQuiet Try.prog ops (fun w' => Below w.heap.size w w') Q rest a') :
    wpQuiet Try.prog ops (fun w' => Below w.heap.size w w') Q ({ dst := some 70, op := .move (.tmp 0), type := ty0, pos := po0, after := af0, guard := some (64, true) } :: { dst := some 71, op := .nilCheck (.tmp 70), type := ty1, pos := po1, after := af1, guard := some (64, true) } :: { dst := some 72, op := .fieldAddr 29 (.tmp 71) 6, type := ty2, pos := po2, after := af2, guard := some (64, true) } :: { dst := some 73, op := .load 2 (.tmp 72), type := ty3, pos := po3, after := af3, guard := some (64, true) } :: { dst := some 74, op := .move (.tmp 1), type := ty4, pos := po4, after := af4, guard := some (64, true) } :: { dst := some 75, op := .nilCheck (.tmp 74), type := ty5, pos := po5, after := af5, guard := some (64, true) } :: { dst := some 76, op := .fieldAddr 29 (.tmp 75) 6, type := ty6, pos := po6, after := af6, guard := some (64, true) } :: { dst := some 77, op := .load 2 (.tmp 76), type := ty7, pos := po7, after := af7, guard := some (64, true) } :: { dst := some 78, op := .binOp .eql 2 (.tmp 73) (.tmp 77) 2, type := ty8, pos := po8, after := af8, guard := some (64, true) } :: { dst := some 79, op := .pick (.tmp 69) (.tmp 78) (.const (.bool false)), type := ty9, pos := po9, after := af9, guard := none } :: { dst := some 80, op := .move (.tmp 79), type := ty10, pos := po10, after := af10, guard := none } :: rest) a := by
  cases c
  case true =>
    refine qTake (.pointer (some ⟨q, 0, none⟩)) (by simp [Region.wanted, A.yl]) (fun w' hs => by have e := A.t0; generalize a.eval = ρ at e ⊢; clear A; go_simp) ?_
    have A1 := A.put 70 (.pointer (some ⟨q, 0, none⟩)) (by decide) (by decide) (by decide)
    have E0 := ev_same a 70 (.pointer (some ⟨q, 0, none⟩)) (by rw [A.sz]; decide)
    change wpQuiet _ _ _ _ _ (a.put (some 70) (.pointer (some ⟨q, 0, none⟩)))
    generalize a.put (some 70) (.pointer (some ⟨q, 0, none⟩)) = a1 at *
    refine qTake (.pointer (some ⟨q, 0, none⟩)) (by simp [Region.wanted, A1.yl]) (fun w' hs => by have e := E0; generalize a1.eval = ρ at e ⊢; clear A1; go_simp) ?_
    have A2 := A1.put 71 (.pointer (some ⟨q, 0, none⟩)) (by decide) (by decide) (by decide)
    have E1 := ev_same a1 71 (.pointer (some ⟨q, 0, none⟩)) (by rw [A1.sz]; decide)
    change wpQuiet _ _ _ _ _ (a1.put (some 71) (.pointer (some ⟨q, 0, none⟩)))
    generalize a1.put (some 71) (.pointer (some ⟨q, 0, none⟩)) = a2 at *
    refine qTake (.pointer (some ⟨q, 6, none⟩)) (by simp [Region.wanted, A2.yl]) (fun w' hs => by have e := E1; generalize a2.eval = ρ at e ⊢; clear A2; go_simp) ?_
    have A3 := A2.put 72 (.pointer (some ⟨q, 6, none⟩)) (by decide) (by decide) (by decide)
    have E2 := ev_same a2 72 (.pointer (some ⟨q, 6, none⟩)) (by rw [A2.sz]; decide)
    change wpQuiet _ _ _ _ _ (a2.put (some 72) (.pointer (some ⟨q, 6, none⟩)))
    generalize a2.put (some 72) (.pointer (some ⟨q, 6, none⟩)) = a3 at *
    refine qTake (.int .i64 x) (by simp [Region.wanted, A3.yl]) (fun w' hs => by have e := E2; have cc := cell_keep hs cx; generalize a3.eval = ρ at e ⊢; clear A3; go_simp) ?_
    have A4 := A3.put 73 (.int .i64 x) (by decide) (by decide) (by decide)
    have E3 := ev_same a3 73 (.int .i64 x) (by rw [A3.sz]; decide)
    change wpQuiet _ _ _ _ _ (a3.put (some 73) (.int .i64 x))
    generalize a3.put (some 73) (.int .i64 x) = a4 at *
    refine qTake (.pointer (some ⟨q', 0, none⟩)) (by simp [Region.wanted, A4.yl]) (fun w' hs => by have e := A4.t1; generalize a4.eval = ρ at e ⊢; clear A4; go_simp) ?_
    have A5 := A4.put 74 (.pointer (some ⟨q', 0, none⟩)) (by decide) (by decide) (by decide)
    have E4 := ev_same a4 74 (.pointer (some ⟨q', 0, none⟩)) (by rw [A4.sz]; decide)
    have F4 : (a4.put (some 74) (.pointer (some ⟨q', 0, none⟩))).eval (.tmp 73) = .int .i64 x := by rw [ev_other _ _ _ _ (by decide)]; exact E3
    change wpQuiet _ _ _ _ _ (a4.put (some 74) (.pointer (some ⟨q', 0, none⟩)))
    generalize a4.put (some 74) (.pointer (some ⟨q', 0, none⟩)) = a5 at *
    refine qTake (.pointer (some ⟨q', 0, none⟩)) (by simp [Region.wanted, A5.yl]) (fun w' hs => by have e := E4; generalize a5.eval = ρ at e ⊢; clear A5; go_simp) ?_
    have A6 := A5.put 75 (.pointer (some ⟨q', 0, none⟩)) (by decide) (by decide) (by decide)
    have E5 := ev_same a5 75 (.pointer (some ⟨q', 0, none⟩)) (by rw [A5.sz]; decide)
    have F5 : (a5.put (some 75) (.pointer (some ⟨q', 0, none⟩))).eval (.tmp 73) = .int .i64 x := by rw [ev_other _ _ _ _ (by decide)]; exact F4
    change wpQuiet _ _ _ _ _ (a5.put (some 75) (.pointer (some ⟨q', 0, none⟩)))
    generalize a5.put (some 75) (.pointer (some ⟨q', 0, none⟩)) = a6 at *
    refine qTake (.pointer (some ⟨q', 6, none⟩)) (by simp [Region.wanted, A6.yl]) (fun w' hs => by have e := E5; generalize a6.eval = ρ at e ⊢; clear A6; go_simp) ?_
    have A7 := A6.put 76 (.pointer (some ⟨q', 6, none⟩)) (by decide) (by decide) (by decide)
    have E6 := ev_same a6 76 (.pointer (some ⟨q', 6, none⟩)) (by rw [A6.sz]; decide)
    have F6 : (a6.put (some 76) (.pointer (some ⟨q', 6, none⟩))).eval (.tmp 73) = .int .i64 x := by rw [ev_other _ _ _ _ (by decide)]; exact F5
    change wpQuiet _ _ _ _ _ (a6.put (some 76) (.pointer (some ⟨q', 6, none⟩)))
    generalize a6.put (some 76) (.pointer (some ⟨q', 6, none⟩)) = a7 at *
    refine qTake (.int .i64 y) (by simp [Region.wanted, A7.yl]) (fun w' hs => by have e := E6; have cc := cell_keep hs cy; generalize a7.eval = ρ at e ⊢; clear A7; go_simp) ?_
    have A8 := A7.put 77 (.int .i64 y) (by decide) (by decide) (by decide)
    have E7 := ev_same a7 77 (.int .i64 y) (by rw [A7.sz]; decide)
    have F7 : (a7.put (some 77) (.int .i64 y)).eval (.tmp 73) = .int .i64 x := by rw [ev_other _ _ _ _ (by decide)]; exact F6
    change wpQuiet _ _ _ _ _ (a7.put (some 77) (.int .i64 y))
    generalize a7.put (some 77) (.int .i64 y) = a8 at *
    refine qTake (.bool (decide (x = y))) (by simp [Region.wanted, A8.yl]) (fun w' hs => by have e := E7; have f := F7; generalize a8.eval = ρ at e f ⊢; clear A8; by_cases hxy : x = y <;> simp [hxy, e, f, execOp, go_sem]) ?_
    have A9 := A8.put 78 (.bool (decide (x = y))) (by decide) (by decide) (by decide)
    have E8 := ev_same a8 78 (.bool (decide (x = y))) (by rw [A8.sz]; decide)
    change wpQuiet _ _ _ _ _ (a8.put (some 78) (.bool (decide (x = y))))
    generalize a8.put (some 78) (.bool (decide (x = y))) = z9 at *
    refine qTake (.bool (decide (x = y))) (by simp [Region.wanted]) (fun w' hs => by have e := A9.gs; have f := E8; generalize z9.eval = ρ at e f ⊢; clear A9; go_simp) ?_
    have E9 := ev_same z9 79 (.bool (decide (x = y))) (by rw [A9.sz]; decide)
    have A10 := A9.put 79 (.bool (decide (x = y))) (by decide) (by decide) (by decide)
    change wpQuiet _ _ _ _ _ (z9.put (some 79) (.bool (decide (x = y))))
    generalize z9.put (some 79) (.bool (decide (x = y))) = z10 at *
    refine qTake (.bool (decide (x = y))) (by simp [Region.wanted]) (fun w' hs => by have e := E9; generalize z10.eval = ρ at e ⊢; clear A10; go_simp) ?_
    refine h _ ?_
    have A11 := A10.next 75 80 (decide (x = y)) (by decide) (by decide) (by decide) ho
    simpa using A11
  case false =>
    refine qSkip (by simp [Region.wanted, A.yl]) ?_
    have A1 := A.put 70 undef (by decide) (by decide) (by decide)
    change wpQuiet _ _ _ _ _ (a.put (some 70) undef)
    generalize a.put (some 70) undef = s1 at *
    refine qSkip (by simp [Region.wanted, A1.yl]) ?_
    have A2 := A1.put 71 undef (by decide) (by decide) (by decide)
    change wpQuiet _ _ _ _ _ (s1.put (some 71) undef)
    generalize s1.put (some 71) undef = s2 at *
    refine qSkip (by simp [Region.wanted, A2.yl]) ?_
    have A3 := A2.put 72 undef (by decide) (by decide) (by decide)
    change wpQuiet _ _ _ _ _ (s2.put (some 72) undef)
    generalize s2.put (some 72) undef = s3 at *
    refine qSkip (by simp [Region.wanted, A3.yl]) ?_
    have A4 := A3.put 73 undef (by decide) (by decide) (by decide)
    change wpQuiet _ _ _ _ _ (s3.put (some 73) undef)
    generalize s3.put (some 73) undef = s4 at *
    refine qSkip (by simp [Region.wanted, A4.yl]) ?_
    have A5 := A4.put 74 undef (by decide) (by decide) (by decide)
    change wpQuiet _ _ _ _ _ (s4.put (some 74) undef)
    generalize s4.put (some 74) undef = s5 at *
    refine qSkip (by simp [Region.wanted, A5.yl]) ?_
    have A6 := A5.put 75 undef (by decide) (by decide) (by decide)
    change wpQuiet _ _ _ _ _ (s5.put (some 75) undef)
    generalize s5.put (some 75) undef = s6 at *
    refine qSkip (by simp [Region.wanted, A6.yl]) ?_
    have A7 := A6.put 76 undef (by decide) (by decide) (by decide)
    change wpQuiet _ _ _ _ _ (s6.put (some 76) undef)
    generalize s6.put (some 76) undef = s7 at *
    refine qSkip (by simp [Region.wanted, A7.yl]) ?_
    have A8 := A7.put 77 undef (by decide) (by decide) (by decide)
    change wpQuiet _ _ _ _ _ (s7.put (some 77) undef)
    generalize s7.put (some 77) undef = s8 at *
    refine qSkip (by simp [Region.wanted, A8.yl]) ?_
    have A9 := A8.put 78 undef (by decide) (by decide) (by decide)
    change wpQuiet _ _ _ _ _ (s8.put (some 78) undef)
    generalize s8.put (some 78) undef = z9 at *
    refine qTake (.bool (false)) (by simp [Region.wanted]) (fun w' hs => by have e := A9.gs; have f : z9.eval (.const (.bool false)) = .bool false := rfl; generalize z9.eval = ρ at e f ⊢; clear A9; go_simp) ?_
    have E9 := ev_same z9 79 (.bool (false)) (by rw [A9.sz]; decide)
    have A10 := A9.put 79 (.bool (false)) (by decide) (by decide) (by decide)
    change wpQuiet _ _ _ _ _ (z9.put (some 79) (.bool (false)))
    generalize z9.put (some 79) (.bool (false)) = z10 at *
    refine qTake (.bool (false)) (by simp [Region.wanted]) (fun w' hs => by have e := E9; generalize z10.eval = ρ at e ⊢; clear A10; go_simp) ?_
    refine h _ ?_
    have A11 := A10.next 75 80 (false) (by decide) (by decide) (by decide) ho
    simpa using A11
end Go.Proofs.Ytldfcojmcdpdgaa
