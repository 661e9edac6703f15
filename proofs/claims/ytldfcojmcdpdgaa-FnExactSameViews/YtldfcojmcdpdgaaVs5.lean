/- A stage of the comparison of two machines by the model. -/
import Derived.Test.YtldfcojmcdpdgaaVsv
namespace Go.Proofs.Ytldfcojmcdpdgaa
open Go.RowKit
set_option linter.unusedVariables false

set_option maxRecDepth 20000 in
set_option maxHeartbeats 8000000 in
theorem stage5 {ops : Array Oper} {w : World} {Q : Act → Prop} {rest : List Oper} {a : Act} {q q' : Nat} {c : Bool} {ty0 ty1 ty2 ty3 ty4 ty5 ty6 ty7 ty8 ty9 ty10 : TypeId} {po0 po1 po2 po3 po4 po5 po6 po7 po8 po9 po10 : String} {af0 af1 af2 af3 af4 af5 af6 af7 af8 af9 af10 : Array Edge} (x y : Bool) (A : Ac ops a 53 58 c q q') (cx : w.cell? ⟨q, 5, none⟩ = some (.bool x)) (cy : w.cell? ⟨q', 5, none⟩ = some (.bool y)) (ho : (ops[64]?).bind (·.dst) = some 69)
    (h : ∀ a' : Act, Ac ops a' 64 69 (c && (x == y)) q q' → wpQuiet Try.prog ops (fun w' => Below w.heap.size w w') Q rest a') :
    wpQuiet Try.prog ops (fun w' => Below w.heap.size w w') Q ({ dst := some 59, op := .move (.tmp 0), type := ty0, pos := po0, after := af0, guard := some (53, true) } :: { dst := some 60, op := .nilCheck (.tmp 59), type := ty1, pos := po1, after := af1, guard := some (53, true) } :: { dst := some 61, op := .fieldAddr 29 (.tmp 60) 5, type := ty2, pos := po2, after := af2, guard := some (53, true) } :: { dst := some 62, op := .load 4 (.tmp 61), type := ty3, pos := po3, after := af3, guard := some (53, true) } :: { dst := some 63, op := .move (.tmp 1), type := ty4, pos := po4, after := af4, guard := some (53, true) } :: { dst := some 64, op := .nilCheck (.tmp 63), type := ty5, pos := po5, after := af5, guard := some (53, true) } :: { dst := some 65, op := .fieldAddr 29 (.tmp 64) 5, type := ty6, pos := po6, after := af6, guard := some (53, true) } :: { dst := some 66, op := .load 4 (.tmp 65), type := ty7, pos := po7, after := af7, guard := some (53, true) } :: { dst := some 67, op := .binOp .eql 4 (.tmp 62) (.tmp 66) 4, type := ty8, pos := po8, after := af8, guard := some (53, true) } :: { dst := some 68, op := .pick (.tmp 58) (.tmp 67) (.const (.bool false)), type := ty9, pos := po9, after := af9, guard := none } :: { dst := some 69, op := .move (.tmp 68), type := ty10, pos := po10, after := af10, guard := none } :: rest) a := by
  cases c
  case true =>
    refine qTake (.pointer (some ⟨q, 0, none⟩)) (by simp [Region.wanted, A.yl]) (fun w' hs => by have e := A.t0; generalize a.eval = ρ at e ⊢; clear A; go_simp) ?_
    have A1 := A.put 59 (.pointer (some ⟨q, 0, none⟩)) (by decide) (by decide) (by decide)
    have E0 := ev_same a 59 (.pointer (some ⟨q, 0, none⟩)) (by rw [A.sz]; decide)
    change wpQuiet _ _ _ _ _ (a.put (some 59) (.pointer (some ⟨q, 0, none⟩)))
    generalize a.put (some 59) (.pointer (some ⟨q, 0, none⟩)) = a1 at *
    refine qTake (.pointer (some ⟨q, 0, none⟩)) (by simp [Region.wanted, A1.yl]) (fun w' hs => by have e := E0; generalize a1.eval = ρ at e ⊢; clear A1; go_simp) ?_
    have A2 := A1.put 60 (.pointer (some ⟨q, 0, none⟩)) (by decide) (by decide) (by decide)
    have E1 := ev_same a1 60 (.pointer (some ⟨q, 0, none⟩)) (by rw [A1.sz]; decide)
    change wpQuiet _ _ _ _ _ (a1.put (some 60) (.pointer (some ⟨q, 0, none⟩)))
    generalize a1.put (some 60) (.pointer (some ⟨q, 0, none⟩)) = a2 at *
    refine qTake (.pointer (some ⟨q, 5, none⟩)) (by simp [Region.wanted, A2.yl]) (fun w' hs => by have e := E1; generalize a2.eval = ρ at e ⊢; clear A2; go_simp) ?_
    have A3 := A2.put 61 (.pointer (some ⟨q, 5, none⟩)) (by decide) (by decide) (by decide)
    have E2 := ev_same a2 61 (.pointer (some ⟨q, 5, none⟩)) (by rw [A2.sz]; decide)
    change wpQuiet _ _ _ _ _ (a2.put (some 61) (.pointer (some ⟨q, 5, none⟩)))
    generalize a2.put (some 61) (.pointer (some ⟨q, 5, none⟩)) = a3 at *
    refine qTake (.bool x) (by simp [Region.wanted, A3.yl]) (fun w' hs => by have e := E2; have cc := cell_keep hs cx; generalize a3.eval = ρ at e ⊢; clear A3; go_simp) ?_
    have A4 := A3.put 62 (.bool x) (by decide) (by decide) (by decide)
    have E3 := ev_same a3 62 (.bool x) (by rw [A3.sz]; decide)
    change wpQuiet _ _ _ _ _ (a3.put (some 62) (.bool x))
    generalize a3.put (some 62) (.bool x) = a4 at *
    refine qTake (.pointer (some ⟨q', 0, none⟩)) (by simp [Region.wanted, A4.yl]) (fun w' hs => by have e := A4.t1; generalize a4.eval = ρ at e ⊢; clear A4; go_simp) ?_
    have A5 := A4.put 63 (.pointer (some ⟨q', 0, none⟩)) (by decide) (by decide) (by decide)
    have E4 := ev_same a4 63 (.pointer (some ⟨q', 0, none⟩)) (by rw [A4.sz]; decide)
    have F4 : (a4.put (some 63) (.pointer (some ⟨q', 0, none⟩))).eval (.tmp 62) = .bool x := by rw [ev_other _ _ _ _ (by decide)]; exact E3
    change wpQuiet _ _ _ _ _ (a4.put (some 63) (.pointer (some ⟨q', 0, none⟩)))
    generalize a4.put (some 63) (.pointer (some ⟨q', 0, none⟩)) = a5 at *
    refine qTake (.pointer (some ⟨q', 0, none⟩)) (by simp [Region.wanted, A5.yl]) (fun w' hs => by have e := E4; generalize a5.eval = ρ at e ⊢; clear A5; go_simp) ?_
    have A6 := A5.put 64 (.pointer (some ⟨q', 0, none⟩)) (by decide) (by decide) (by decide)
    have E5 := ev_same a5 64 (.pointer (some ⟨q', 0, none⟩)) (by rw [A5.sz]; decide)
    have F5 : (a5.put (some 64) (.pointer (some ⟨q', 0, none⟩))).eval (.tmp 62) = .bool x := by rw [ev_other _ _ _ _ (by decide)]; exact F4
    change wpQuiet _ _ _ _ _ (a5.put (some 64) (.pointer (some ⟨q', 0, none⟩)))
    generalize a5.put (some 64) (.pointer (some ⟨q', 0, none⟩)) = a6 at *
    refine qTake (.pointer (some ⟨q', 5, none⟩)) (by simp [Region.wanted, A6.yl]) (fun w' hs => by have e := E5; generalize a6.eval = ρ at e ⊢; clear A6; go_simp) ?_
    have A7 := A6.put 65 (.pointer (some ⟨q', 5, none⟩)) (by decide) (by decide) (by decide)
    have E6 := ev_same a6 65 (.pointer (some ⟨q', 5, none⟩)) (by rw [A6.sz]; decide)
    have F6 : (a6.put (some 65) (.pointer (some ⟨q', 5, none⟩))).eval (.tmp 62) = .bool x := by rw [ev_other _ _ _ _ (by decide)]; exact F5
    change wpQuiet _ _ _ _ _ (a6.put (some 65) (.pointer (some ⟨q', 5, none⟩)))
    generalize a6.put (some 65) (.pointer (some ⟨q', 5, none⟩)) = a7 at *
    refine qTake (.bool y) (by simp [Region.wanted, A7.yl]) (fun w' hs => by have e := E6; have cc := cell_keep hs cy; generalize a7.eval = ρ at e ⊢; clear A7; go_simp) ?_
    have A8 := A7.put 66 (.bool y) (by decide) (by decide) (by decide)
    have E7 := ev_same a7 66 (.bool y) (by rw [A7.sz]; decide)
    have F7 : (a7.put (some 66) (.bool y)).eval (.tmp 62) = .bool x := by rw [ev_other _ _ _ _ (by decide)]; exact F6
    change wpQuiet _ _ _ _ _ (a7.put (some 66) (.bool y))
    generalize a7.put (some 66) (.bool y) = a8 at *
    refine qTake (.bool ((x == y))) (by simp [Region.wanted, A8.yl]) (fun w' hs => by have e := E7; have f := F7; generalize a8.eval = ρ at e f ⊢; clear A8; by_cases hxy : x = y <;> simp [hxy, e, f, execOp, go_sem]) ?_
    have A9 := A8.put 67 (.bool ((x == y))) (by decide) (by decide) (by decide)
    have E8 := ev_same a8 67 (.bool ((x == y))) (by rw [A8.sz]; decide)
    change wpQuiet _ _ _ _ _ (a8.put (some 67) (.bool ((x == y))))
    generalize a8.put (some 67) (.bool ((x == y))) = z9 at *
    refine qTake (.bool ((x == y))) (by simp [Region.wanted]) (fun w' hs => by have e := A9.gs; have f := E8; generalize z9.eval = ρ at e f ⊢; clear A9; go_simp) ?_
    have E9 := ev_same z9 68 (.bool ((x == y))) (by rw [A9.sz]; decide)
    have A10 := A9.put 68 (.bool ((x == y))) (by decide) (by decide) (by decide)
    change wpQuiet _ _ _ _ _ (z9.put (some 68) (.bool ((x == y))))
    generalize z9.put (some 68) (.bool ((x == y))) = z10 at *
    refine qTake (.bool ((x == y))) (by simp [Region.wanted]) (fun w' hs => by have e := E9; generalize z10.eval = ρ at e ⊢; clear A10; go_simp) ?_
    refine h _ ?_
    have A11 := A10.next 64 69 ((x == y)) (by decide) (by decide) (by decide) ho
    simpa using A11
  case false =>
    refine qSkip (by simp [Region.wanted, A.yl]) ?_
    have A1 := A.put 59 undef (by decide) (by decide) (by decide)
    change wpQuiet _ _ _ _ _ (a.put (some 59) undef)
    generalize a.put (some 59) undef = s1 at *
    refine qSkip (by simp [Region.wanted, A1.yl]) ?_
    have A2 := A1.put 60 undef (by decide) (by decide) (by decide)
    change wpQuiet _ _ _ _ _ (s1.put (some 60) undef)
    generalize s1.put (some 60) undef = s2 at *
    refine qSkip (by simp [Region.wanted, A2.yl]) ?_
    have A3 := A2.put 61 undef (by decide) (by decide) (by decide)
    change wpQuiet _ _ _ _ _ (s2.put (some 61) undef)
    generalize s2.put (some 61) undef = s3 at *
    refine qSkip (by simp [Region.wanted, A3.yl]) ?_
    have A4 := A3.put 62 undef (by decide) (by decide) (by decide)
    change wpQuiet _ _ _ _ _ (s3.put (some 62) undef)
    generalize s3.put (some 62) undef = s4 at *
    refine qSkip (by simp [Region.wanted, A4.yl]) ?_
    have A5 := A4.put 63 undef (by decide) (by decide) (by decide)
    change wpQuiet _ _ _ _ _ (s4.put (some 63) undef)
    generalize s4.put (some 63) undef = s5 at *
    refine qSkip (by simp [Region.wanted, A5.yl]) ?_
    have A6 := A5.put 64 undef (by decide) (by decide) (by decide)
    change wpQuiet _ _ _ _ _ (s5.put (some 64) undef)
    generalize s5.put (some 64) undef = s6 at *
    refine qSkip (by simp [Region.wanted, A6.yl]) ?_
    have A7 := A6.put 65 undef (by decide) (by decide) (by decide)
    change wpQuiet _ _ _ _ _ (s6.put (some 65) undef)
    generalize s6.put (some 65) undef = s7 at *
    refine qSkip (by simp [Region.wanted, A7.yl]) ?_
    have A8 := A7.put 66 undef (by decide) (by decide) (by decide)
    change wpQuiet _ _ _ _ _ (s7.put (some 66) undef)
    generalize s7.put (some 66) undef = s8 at *
    refine qSkip (by simp [Region.wanted, A8.yl]) ?_
    have A9 := A8.put 67 undef (by decide) (by decide) (by decide)
    change wpQuiet _ _ _ _ _ (s8.put (some 67) undef)
    generalize s8.put (some 67) undef = z9 at *
    refine qTake (.bool (false)) (by simp [Region.wanted]) (fun w' hs => by have e := A9.gs; have f : z9.eval (.const (.bool false)) = .bool false := rfl; generalize z9.eval = ρ at e f ⊢; clear A9; go_simp) ?_
    have E9 := ev_same z9 68 (.bool (false)) (by rw [A9.sz]; decide)
    have A10 := A9.put 68 (.bool (false)) (by decide) (by decide) (by decide)
    change wpQuiet _ _ _ _ _ (z9.put (some 68) (.bool (false)))
    generalize z9.put (some 68) (.bool (false)) = z10 at *
    refine qTake (.bool (false)) (by simp [Region.wanted]) (fun w' hs => by have e := E9; generalize z10.eval = ρ at e ⊢; clear A10; go_simp) ?_
    refine h _ ?_
    have A11 := A10.next 64 69 (false) (by decide) (by decide) (by decide) ho
    simpa using A11
end Go.Proofs.Ytldfcojmcdpdgaa
