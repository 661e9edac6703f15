/- A stage of the comparison of two machines by the model. -/
import Derived.Test.YtldfcojmcdpdgaaVsv
namespace Go.Proofs.Ytldfcojmcdpdgaa
open Go.RowKit
set_option linter.unusedVariables false

set_option maxRecDepth 20000 in
set_option maxHeartbeats 8000000 in
theorem stage8 {ops : Array Oper} {w : World} {Q : Act → Prop} {rest : List Oper} {A0 : Act} {q q' : Nat} {c : Bool} {ty0 ty1 ty2 ty3 ty4 ty5 ty6 ty7 ty8 ty9 : TypeId} {po0 po1 po2 po3 po4 po5 po6 po7 po8 po9 : String} {af0 af1 af2 af3 af4 af5 af6 af7 af8 af9 : Array Edge} (a a' : Option Addr) (n k n' k' : Nat) (zs ys : List Int) (nz nz' : Nat) (A : Ac ops A0 86 91 c q q') (cx : w.cell? ⟨q, 8, none⟩ = some (.slice a n k)) (cy : w.cell? ⟨q', 8, none⟩ = some (.slice a' n' k')) (hz : Nums w nz (.slice a n k) zs) (hY : Nums w nz' (.slice a' n' k') ys) (lz : zs.length ≤ 1048576) (ly : ys.length ≤ 1048576)
    (h : ∀ a' : Act, a'.tmps.size = 102 → a'.defers = [] → a'.eval (.tmp 101) = .bool (c && decide (zs = ys)) → wpQuiet Try.prog ops (fun w' => Below w.heap.size w w') Q rest a') :
    wpQuiet Try.prog ops (fun w' => Below w.heap.size w w') Q ({ dst := some 92, op := .move (.tmp 0), type := ty0, pos := po0, after := af0, guard := some (86, true) } :: { dst := some 93, op := .nilCheck (.tmp 92), type := ty1, pos := po1, after := af1, guard := some (86, true) } :: { dst := some 94, op := .fieldAddr 29 (.tmp 93) 8, type := ty2, pos := po2, after := af2, guard := some (86, true) } :: { dst := some 95, op := .load 22 (.tmp 94), type := ty3, pos := po3, after := af3, guard := some (86, true) } :: { dst := some 96, op := .move (.tmp 1), type := ty4, pos := po4, after := af4, guard := some (86, true) } :: { dst := some 97, op := .nilCheck (.tmp 96), type := ty5, pos := po5, after := af5, guard := some (86, true) } :: { dst := some 98, op := .fieldAddr 29 (.tmp 97) 8, type := ty6, pos := po6, after := af6, guard := some (86, true) } :: { dst := some 99, op := .load 22 (.tmp 98), type := ty7, pos := po7, after := af7, guard := some (86, true) } :: { dst := some 100, op := .call { callee := .value (.func 21), args := #[.tmp 95, .tmp 99], argTypes := #[22, 22] }, type := ty8, pos := po8, after := af8, guard := some (86, true) } :: { dst := some 101, op := .pick (.tmp 91) (.tmp 100) (.const (.bool false)), type := ty9, pos := po9, after := af9, guard := none } :: rest) A0 := by
  cases c
  case true =>
    refine qTake (.pointer (some ⟨q, 0, none⟩)) (by simp [Region.wanted, A.yl]) (fun w' hs => by have e := A.t0; generalize A0.eval = ρ at e ⊢; clear A; go_simp) ?_
    have A1 := A.put 92 (.pointer (some ⟨q, 0, none⟩)) (by decide) (by decide) (by decide)
    have E0 := ev_same A0 92 (.pointer (some ⟨q, 0, none⟩)) (by rw [A.sz]; decide)
    change wpQuiet _ _ _ _ _ (A0.put (some 92) (.pointer (some ⟨q, 0, none⟩)))
    generalize A0.put (some 92) (.pointer (some ⟨q, 0, none⟩)) = b1 at *
    refine qTake (.pointer (some ⟨q, 0, none⟩)) (by simp [Region.wanted, A1.yl]) (fun w' hs => by have e := E0; generalize b1.eval = ρ at e ⊢; clear A1; go_simp) ?_
    have A2 := A1.put 93 (.pointer (some ⟨q, 0, none⟩)) (by decide) (by decide) (by decide)
    have E1 := ev_same b1 93 (.pointer (some ⟨q, 0, none⟩)) (by rw [A1.sz]; decide)
    change wpQuiet _ _ _ _ _ (b1.put (some 93) (.pointer (some ⟨q, 0, none⟩)))
    generalize b1.put (some 93) (.pointer (some ⟨q, 0, none⟩)) = b2 at *
    refine qTake (.pointer (some ⟨q, 8, none⟩)) (by simp [Region.wanted, A2.yl]) (fun w' hs => by have e := E1; generalize b2.eval = ρ at e ⊢; clear A2; go_simp) ?_
    have A3 := A2.put 94 (.pointer (some ⟨q, 8, none⟩)) (by decide) (by decide) (by decide)
    have E2 := ev_same b2 94 (.pointer (some ⟨q, 8, none⟩)) (by rw [A2.sz]; decide)
    change wpQuiet _ _ _ _ _ (b2.put (some 94) (.pointer (some ⟨q, 8, none⟩)))
    generalize b2.put (some 94) (.pointer (some ⟨q, 8, none⟩)) = b3 at *
    refine qTake (.slice a n k) (by simp [Region.wanted, A3.yl]) (fun w' hs => by have e := E2; have cc := cell_keep hs cx; generalize b3.eval = ρ at e ⊢; clear A3; go_simp) ?_
    have A4 := A3.put 95 (.slice a n k) (by decide) (by decide) (by decide)
    have E3 := ev_same b3 95 (.slice a n k) (by rw [A3.sz]; decide)
    change wpQuiet _ _ _ _ _ (b3.put (some 95) (.slice a n k))
    generalize b3.put (some 95) (.slice a n k) = b4 at *
    refine qTake (.pointer (some ⟨q', 0, none⟩)) (by simp [Region.wanted, A4.yl]) (fun w' hs => by have e := A4.t1; generalize b4.eval = ρ at e ⊢; clear A4; go_simp) ?_
    have A5 := A4.put 96 (.pointer (some ⟨q', 0, none⟩)) (by decide) (by decide) (by decide)
    have E4 := ev_same b4 96 (.pointer (some ⟨q', 0, none⟩)) (by rw [A4.sz]; decide)
    have F4 : (b4.put (some 96) (.pointer (some ⟨q', 0, none⟩))).eval (.tmp 95) = .slice a n k := by rw [ev_other _ _ _ _ (by decide)]; exact E3
    change wpQuiet _ _ _ _ _ (b4.put (some 96) (.pointer (some ⟨q', 0, none⟩)))
    generalize b4.put (some 96) (.pointer (some ⟨q', 0, none⟩)) = b5 at *
    refine qTake (.pointer (some ⟨q', 0, none⟩)) (by simp [Region.wanted, A5.yl]) (fun w' hs => by have e := E4; generalize b5.eval = ρ at e ⊢; clear A5; go_simp) ?_
    have A6 := A5.put 97 (.pointer (some ⟨q', 0, none⟩)) (by decide) (by decide) (by decide)
    have E5 := ev_same b5 97 (.pointer (some ⟨q', 0, none⟩)) (by rw [A5.sz]; decide)
    have F5 : (b5.put (some 97) (.pointer (some ⟨q', 0, none⟩))).eval (.tmp 95) = .slice a n k := by rw [ev_other _ _ _ _ (by decide)]; exact F4
    change wpQuiet _ _ _ _ _ (b5.put (some 97) (.pointer (some ⟨q', 0, none⟩)))
    generalize b5.put (some 97) (.pointer (some ⟨q', 0, none⟩)) = b6 at *
    refine qTake (.pointer (some ⟨q', 8, none⟩)) (by simp [Region.wanted, A6.yl]) (fun w' hs => by have e := E5; generalize b6.eval = ρ at e ⊢; clear A6; go_simp) ?_
    have A7 := A6.put 98 (.pointer (some ⟨q', 8, none⟩)) (by decide) (by decide) (by decide)
    have E6 := ev_same b6 98 (.pointer (some ⟨q', 8, none⟩)) (by rw [A6.sz]; decide)
    have F6 : (b6.put (some 98) (.pointer (some ⟨q', 8, none⟩))).eval (.tmp 95) = .slice a n k := by rw [ev_other _ _ _ _ (by decide)]; exact F5
    change wpQuiet _ _ _ _ _ (b6.put (some 98) (.pointer (some ⟨q', 8, none⟩)))
    generalize b6.put (some 98) (.pointer (some ⟨q', 8, none⟩)) = b7 at *
    refine qTake (.slice a' n' k') (by simp [Region.wanted, A7.yl]) (fun w' hs => by have e := E6; have cc := cell_keep hs cy; generalize b7.eval = ρ at e ⊢; clear A7; go_simp) ?_
    have A8 := A7.put 99 (.slice a' n' k') (by decide) (by decide) (by decide)
    have E7 := ev_same b7 99 (.slice a' n' k') (by rw [A7.sz]; decide)
    have F7 : (b7.put (some 99) (.slice a' n' k')).eval (.tmp 95) = .slice a n k := by rw [ev_other _ _ _ _ (by decide)]; exact F6
    change wpQuiet _ _ _ _ _ (b7.put (some 99) (.slice a' n' k'))
    generalize b7.put (some 99) (.slice a' n' k') = b8 at *
    refine qCall (.bool (decide (zs = ys))) 21 #[.slice a n k, .slice a' n' k'] (by simp [Region.wanted, A8.yl]) (fun w' hs => by have e := E7; have f := F7; have g : b8.eval (.func 21) = .func (.func 21) #[] #[] := rfl; generalize b8.eval = ρ at e f g ⊢; clear A8; go_simp) (fun w' hs => (s_same13 _ _ zs ys _ _ w' (hz.keep hs) (hY.keep hs) lz ly).mono fun _ _ ⟨he, hb⟩ => ⟨he, on hs hb⟩) ?_
    have A9 := A8.put 100 (.bool (decide (zs = ys))) (by decide) (by decide) (by decide)
    have E8 := ev_same b8 100 (.bool (decide (zs = ys))) (by rw [A8.sz]; decide)
    change wpQuiet _ _ _ _ _ (b8.put (some 100) (.bool (decide (zs = ys))))
    generalize b8.put (some 100) (.bool (decide (zs = ys))) = z9 at *
    refine qTake (.bool (decide (zs = ys))) (by simp [Region.wanted]) (fun w' hs => by have e := A9.gs; have f := E8; generalize z9.eval = ρ at e f ⊢; clear A9; go_simp) ?_
    refine h _ (by simp [Act.put, A9.sz]) A9.df ?_
    rw [show (({ dst := some 101, op := .pick (.tmp 91) (.tmp 100) (.const (.bool false)), type := ty9, pos := po9, after := af9, guard := none } : Oper).dst) = some 101 from rfl, ev_same _ _ _ (by rw [A9.sz]; decide)]
    simp
  case false =>
    refine qSkip (by simp [Region.wanted, A.yl]) ?_
    have A1 := A.put 92 undef (by decide) (by decide) (by decide)
    change wpQuiet _ _ _ _ _ (A0.put (some 92) undef)
    generalize A0.put (some 92) undef = s1 at *
    refine qSkip (by simp [Region.wanted, A1.yl]) ?_
    have A2 := A1.put 93 undef (by decide) (by decide) (by decide)
    change wpQuiet _ _ _ _ _ (s1.put (some 93) undef)
    generalize s1.put (some 93) undef = s2 at *
    refine qSkip (by simp [Region.wanted, A2.yl]) ?_
    have A3 := A2.put 94 undef (by decide) (by decide) (by decide)
    change wpQuiet _ _ _ _ _ (s2.put (some 94) undef)
    generalize s2.put (some 94) undef = s3 at *
    refine qSkip (by simp [Region.wanted, A3.yl]) ?_
    have A4 := A3.put 95 undef (by decide) (by decide) (by decide)
    change wpQuiet _ _ _ _ _ (s3.put (some 95) undef)
    generalize s3.put (some 95) undef = s4 at *
    refine qSkip (by simp [Region.wanted, A4.yl]) ?_
    have A5 := A4.put 96 undef (by decide) (by decide) (by decide)
    change wpQuiet _ _ _ _ _ (s4.put (some 96) undef)
    generalize s4.put (some 96) undef = s5 at *
    refine qSkip (by simp [Region.wanted, A5.yl]) ?_
    have A6 := A5.put 97 undef (by decide) (by decide) (by decide)
    change wpQuiet _ _ _ _ _ (s5.put (some 97) undef)
    generalize s5.put (some 97) undef = s6 at *
    refine qSkip (by simp [Region.wanted, A6.yl]) ?_
    have A7 := A6.put 98 undef (by decide) (by decide) (by decide)
    change wpQuiet _ _ _ _ _ (s6.put (some 98) undef)
    generalize s6.put (some 98) undef = s7 at *
    refine qSkip (by simp [Region.wanted, A7.yl]) ?_
    have A8 := A7.put 99 undef (by decide) (by decide) (by decide)
    change wpQuiet _ _ _ _ _ (s7.put (some 99) undef)
    generalize s7.put (some 99) undef = s8 at *
    refine qSkip (by simp [Region.wanted, A8.yl]) ?_
    have A9 := A8.put 100 undef (by decide) (by decide) (by decide)
    change wpQuiet _ _ _ _ _ (s8.put (some 100) undef)
    generalize s8.put (some 100) undef = z9 at *
    refine qTake (.bool (false)) (by simp [Region.wanted]) (fun w' hs => by have e := A9.gs; have f : z9.eval (.const (.bool false)) = .bool false := rfl; generalize z9.eval = ρ at e f ⊢; clear A9; go_simp) ?_
    refine h _ (by simp [Act.put, A9.sz]) A9.df ?_
    rw [show (({ dst := some 101, op := .pick (.tmp 91) (.tmp 100) (.const (.bool false)), type := ty9, pos := po9, after := af9, guard := none } : Oper).dst) = some 101 from rfl, ev_same _ _ _ (by rw [A9.sz]; decide)]
    simp
end Go.Proofs.Ytldfcojmcdpdgaa
