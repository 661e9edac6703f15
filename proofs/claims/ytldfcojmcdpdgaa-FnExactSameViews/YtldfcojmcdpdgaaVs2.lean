/- A stage of the comparison of two machines by the model. -/
import Derived.Test.YtldfcojmcdpdgaaVsv
namespace Go.Proofs.Ytldfcojmcdpdgaa
open Go.RowKit
set_option linter.unusedVariables false

set_option maxRecDepth 20000 in
set_option maxHeartbeats 8000000 in
theorem stage2 {ops : Array Oper} {w : World} {Q : Act → Prop} {rest : List Oper} {A0 : Act} {q q' : Nat} {c : Bool} {ty0 ty1 ty2 ty3 ty4 ty5 ty6 ty7 ty8 ty9 ty10 : TypeId} {po0 po1 po2 po3 po4 po5 po6 po7 po8 po9 po10 : String} {af0 af1 af2 af3 af4 af5 af6 af7 af8 af9 af10 : Array Edge} (a a' : Option Addr) (n k n' k' : Nat) (zs ys : List Int) (nz nz' : Nat) (A : Ac ops A0 20 25 c q q') (cx : w.cell? ⟨q, 2, none⟩ = some (.slice a n k)) (cy : w.cell? ⟨q', 2, none⟩ = some (.slice a' n' k')) (hz : Nums w nz (.slice a n k) zs) (hY : Nums w nz' (.slice a' n' k') ys) (lz : zs.length ≤ 1048576) (ly : ys.length ≤ 1048576) (ho : (ops[31]?).bind (·.dst) = some 36)
    (h : ∀ a' : Act, Ac ops a' 31 36 (c && decide (zs = ys)) q q' → wpQuiet Try.prog ops (fun w' => Below w.heap.size w w') Q rest a') :
    wpQuiet Try.prog ops (fun w' => Below w.heap.size w w') Q ({ dst := some 26, op := .move (.tmp 0), type := ty0, pos := po0, after := af0, guard := some (20, true) } :: { dst := some 27, op := .nilCheck (.tmp 26), type := ty1, pos := po1, after := af1, guard := some (20, true) } :: { dst := some 28, op := .fieldAddr 29 (.tmp 27) 2, type := ty2, pos := po2, after := af2, guard := some (20, true) } :: { dst := some 29, op := .load 22 (.tmp 28), type := ty3, pos := po3, after := af3, guard := some (20, true) } :: { dst := some 30, op := .move (.tmp 1), type := ty4, pos := po4, after := af4, guard := some (20, true) } :: { dst := some 31, op := .nilCheck (.tmp 30), type := ty5, pos := po5, after := af5, guard := some (20, true) } :: { dst := some 32, op := .fieldAddr 29 (.tmp 31) 2, type := ty6, pos := po6, after := af6, guard := some (20, true) } :: { dst := some 33, op := .load 22 (.tmp 32), type := ty7, pos := po7, after := af7, guard := some (20, true) } :: { dst := some 34, op := .call { callee := .value (.func 21), args := #[.tmp 29, .tmp 33], argTypes := #[22, 22] }, type := ty8, pos := po8, after := af8, guard := some (20, true) } :: { dst := some 35, op := .pick (.tmp 25) (.tmp 34) (.const (.bool false)), type := ty9, pos := po9, after := af9, guard := none } :: { dst := some 36, op := .move (.tmp 35), type := ty10, pos := po10, after := af10, guard := none } :: rest) A0 := by
  cases c
  case true =>
    refine qTake (.pointer (some ⟨q, 0, none⟩)) (by simp [Region.wanted, A.yl]) (fun w' hs => by have e := A.t0; generalize A0.eval = ρ at e ⊢; clear A; go_simp) ?_
    have A1 := A.put 26 (.pointer (some ⟨q, 0, none⟩)) (by decide) (by decide) (by decide)
    have E0 := ev_same A0 26 (.pointer (some ⟨q, 0, none⟩)) (by rw [A.sz]; decide)
    change wpQuiet _ _ _ _ _ (A0.put (some 26) (.pointer (some ⟨q, 0, none⟩)))
    generalize A0.put (some 26) (.pointer (some ⟨q, 0, none⟩)) = b1 at *
    refine qTake (.pointer (some ⟨q, 0, none⟩)) (by simp [Region.wanted, A1.yl]) (fun w' hs => by have e := E0; generalize b1.eval = ρ at e ⊢; clear A1; go_simp) ?_
    have A2 := A1.put 27 (.pointer (some ⟨q, 0, none⟩)) (by decide) (by decide) (by decide)
    have E1 := ev_same b1 27 (.pointer (some ⟨q, 0, none⟩)) (by rw [A1.sz]; decide)
    change wpQuiet _ _ _ _ _ (b1.put (some 27) (.pointer (some ⟨q, 0, none⟩)))
    generalize b1.put (some 27) (.pointer (some ⟨q, 0, none⟩)) = b2 at *
    refine qTake (.pointer (some ⟨q, 2, none⟩)) (by simp [Region.wanted, A2.yl]) (fun w' hs => by have e := E1; generalize b2.eval = ρ at e ⊢; clear A2; go_simp) ?_
    have A3 := A2.put 28 (.pointer (some ⟨q, 2, none⟩)) (by decide) (by decide) (by decide)
    have E2 := ev_same b2 28 (.pointer (some ⟨q, 2, none⟩)) (by rw [A2.sz]; decide)
    change wpQuiet _ _ _ _ _ (b2.put (some 28) (.pointer (some ⟨q, 2, none⟩)))
    generalize b2.put (some 28) (.pointer (some ⟨q, 2, none⟩)) = b3 at *
    refine qTake (.slice a n k) (by simp [Region.wanted, A3.yl]) (fun w' hs => by have e := E2; have cc := cell_keep hs cx; generalize b3.eval = ρ at e ⊢; clear A3; go_simp) ?_
    have A4 := A3.put 29 (.slice a n k) (by decide) (by decide) (by decide)
    have E3 := ev_same b3 29 (.slice a n k) (by rw [A3.sz]; decide)
    change wpQuiet _ _ _ _ _ (b3.put (some 29) (.slice a n k))
    generalize b3.put (some 29) (.slice a n k) = b4 at *
    refine qTake (.pointer (some ⟨q', 0, none⟩)) (by simp [Region.wanted, A4.yl]) (fun w' hs => by have e := A4.t1; generalize b4.eval = ρ at e ⊢; clear A4; go_simp) ?_
    have A5 := A4.put 30 (.pointer (some ⟨q', 0, none⟩)) (by decide) (by decide) (by decide)
    have E4 := ev_same b4 30 (.pointer (some ⟨q', 0, none⟩)) (by rw [A4.sz]; decide)
    have F4 : (b4.put (some 30) (.pointer (some ⟨q', 0, none⟩))).eval (.tmp 29) = .slice a n k := by rw [ev_other _ _ _ _ (by decide)]; exact E3
    change wpQuiet _ _ _ _ _ (b4.put (some 30) (.pointer (some ⟨q', 0, none⟩)))
    generalize b4.put (some 30) (.pointer (some ⟨q', 0, none⟩)) = b5 at *
    refine qTake (.pointer (some ⟨q', 0, none⟩)) (by simp [Region.wanted, A5.yl]) (fun w' hs => by have e := E4; generalize b5.eval = ρ at e ⊢; clear A5; go_simp) ?_
    have A6 := A5.put 31 (.pointer (some ⟨q', 0, none⟩)) (by decide) (by decide) (by decide)
    have E5 := ev_same b5 31 (.pointer (some ⟨q', 0, none⟩)) (by rw [A5.sz]; decide)
    have F5 : (b5.put (some 31) (.pointer (some ⟨q', 0, none⟩))).eval (.tmp 29) = .slice a n k := by rw [ev_other _ _ _ _ (by decide)]; exact F4
    change wpQuiet _ _ _ _ _ (b5.put (some 31) (.pointer (some ⟨q', 0, none⟩)))
    generalize b5.put (some 31) (.pointer (some ⟨q', 0, none⟩)) = b6 at *
    refine qTake (.pointer (some ⟨q', 2, none⟩)) (by simp [Region.wanted, A6.yl]) (fun w' hs => by have e := E5; generalize b6.eval = ρ at e ⊢; clear A6; go_simp) ?_
    have A7 := A6.put 32 (.pointer (some ⟨q', 2, none⟩)) (by decide) (by decide) (by decide)
    have E6 := ev_same b6 32 (.pointer (some ⟨q', 2, none⟩)) (by rw [A6.sz]; decide)
    have F6 : (b6.put (some 32) (.pointer (some ⟨q', 2, none⟩))).eval (.tmp 29) = .slice a n k := by rw [ev_other _ _ _ _ (by decide)]; exact F5
    change wpQuiet _ _ _ _ _ (b6.put (some 32) (.pointer (some ⟨q', 2, none⟩)))
    generalize b6.put (some 32) (.pointer (some ⟨q', 2, none⟩)) = b7 at *
    refine qTake (.slice a' n' k') (by simp [Region.wanted, A7.yl]) (fun w' hs => by have e := E6; have cc := cell_keep hs cy; generalize b7.eval = ρ at e ⊢; clear A7; go_simp) ?_
    have A8 := A7.put 33 (.slice a' n' k') (by decide) (by decide) (by decide)
    have E7 := ev_same b7 33 (.slice a' n' k') (by rw [A7.sz]; decide)
    have F7 : (b7.put (some 33) (.slice a' n' k')).eval (.tmp 29) = .slice a n k := by rw [ev_other _ _ _ _ (by decide)]; exact F6
    change wpQuiet _ _ _ _ _ (b7.put (some 33) (.slice a' n' k'))
    generalize b7.put (some 33) (.slice a' n' k') = b8 at *
    refine qCall (.bool (decide (zs = ys))) 21 #[.slice a n k, .slice a' n' k'] (by simp [Region.wanted, A8.yl]) (fun w' hs => by have e := E7; have f := F7; have g : b8.eval (.func 21) = .func (.func 21) #[] #[] := rfl; generalize b8.eval = ρ at e f g ⊢; clear A8; go_simp) (fun w' hs => (s_same13 _ _ zs ys _ _ w' (hz.keep hs) (hY.keep hs) lz ly).mono fun _ _ ⟨he, hb⟩ => ⟨he, on hs hb⟩) ?_
    have A9 := A8.put 34 (.bool (decide (zs = ys))) (by decide) (by decide) (by decide)
    have E8 := ev_same b8 34 (.bool (decide (zs = ys))) (by rw [A8.sz]; decide)
    change wpQuiet _ _ _ _ _ (b8.put (some 34) (.bool (decide (zs = ys))))
    generalize b8.put (some 34) (.bool (decide (zs = ys))) = z9 at *
    refine qTake (.bool (decide (zs = ys))) (by simp [Region.wanted]) (fun w' hs => by have e := A9.gs; have f := E8; generalize z9.eval = ρ at e f ⊢; clear A9; go_simp) ?_
    have E9 := ev_same z9 35 (.bool (decide (zs = ys))) (by rw [A9.sz]; decide)
    have A10 := A9.put 35 (.bool (decide (zs = ys))) (by decide) (by decide) (by decide)
    change wpQuiet _ _ _ _ _ (z9.put (some 35) (.bool (decide (zs = ys))))
    generalize z9.put (some 35) (.bool (decide (zs = ys))) = z10 at *
    refine qTake (.bool (decide (zs = ys))) (by simp [Region.wanted]) (fun w' hs => by have e := E9; generalize z10.eval = ρ at e ⊢; clear A10; go_simp) ?_
    refine h _ ?_
    have A11 := A10.next 31 36 (decide (zs = ys)) (by decide) (by decide) (by decide) ho
    simpa using A11
  case false =>
    refine qSkip (by simp [Region.wanted, A.yl]) ?_
    have A1 := A.put 26 undef (by decide) (by decide) (by decide)
    change wpQuiet _ _ _ _ _ (A0.put (some 26) undef)
    generalize A0.put (some 26) undef = s1 at *
    refine qSkip (by simp [Region.wanted, A1.yl]) ?_
    have A2 := A1.put 27 undef (by decide) (by decide) (by decide)
    change wpQuiet _ _ _ _ _ (s1.put (some 27) undef)
    generalize s1.put (some 27) undef = s2 at *
    refine qSkip (by simp [Region.wanted, A2.yl]) ?_
    have A3 := A2.put 28 undef (by decide) (by decide) (by decide)
    change wpQuiet _ _ _ _ _ (s2.put (some 28) undef)
    generalize s2.put (some 28) undef = s3 at *
    refine qSkip (by simp [Region.wanted, A3.yl]) ?_
    have A4 := A3.put 29 undef (by decide) (by decide) (by decide)
    change wpQuiet _ _ _ _ _ (s3.put (some 29) undef)
    generalize s3.put (some 29) undef = s4 at *
    refine qSkip (by simp [Region.wanted, A4.yl]) ?_
    have A5 := A4.put 30 undef (by decide) (by decide) (by decide)
    change wpQuiet _ _ _ _ _ (s4.put (some 30) undef)
    generalize s4.put (some 30) undef = s5 at *
    refine qSkip (by simp [Region.wanted, A5.yl]) ?_
    have A6 := A5.put 31 undef (by decide) (by decide) (by decide)
    change wpQuiet _ _ _ _ _ (s5.put (some 31) undef)
    generalize s5.put (some 31) undef = s6 at *
    refine qSkip (by simp [Region.wanted, A6.yl]) ?_
    have A7 := A6.put 32 undef (by decide) (by decide) (by decide)
    change wpQuiet _ _ _ _ _ (s6.put (some 32) undef)
    generalize s6.put (some 32) undef = s7 at *
    refine qSkip (by simp [Region.wanted, A7.yl]) ?_
    have A8 := A7.put 33 undef (by decide) (by decide) (by decide)
    change wpQuiet _ _ _ _ _ (s7.put (some 33) undef)
    generalize s7.put (some 33) undef = s8 at *
    refine qSkip (by simp [Region.wanted, A8.yl]) ?_
    have A9 := A8.put 34 undef (by decide) (by decide) (by decide)
    change wpQuiet _ _ _ _ _ (s8.put (some 34) undef)
    generalize s8.put (some 34) undef = z9 at *
    refine qTake (.bool (false)) (by simp [Region.wanted]) (fun w' hs => by have e := A9.gs; have f : z9.eval (.const (.bool false)) = .bool false := rfl; generalize z9.eval = ρ at e f ⊢; clear A9; go_simp) ?_
    have E9 := ev_same z9 35 (.bool (false)) (by rw [A9.sz]; decide)
    have A10 := A9.put 35 (.bool (false)) (by decide) (by decide) (by decide)
    change wpQuiet _ _ _ _ _ (z9.put (some 35) (.bool (false)))
    generalize z9.put (some 35) (.bool (false)) = z10 at *
    refine qTake (.bool (false)) (by simp [Region.wanted]) (fun w' hs => by have e := E9; generalize z10.eval = ρ at e ⊢; clear A10; go_simp) ?_
    refine h _ ?_
    have A11 := A10.next 31 36 (false) (by decide) (by decide) (by decide) ho
    simpa using A11
end Go.Proofs.Ytldfcojmcdpdgaa
