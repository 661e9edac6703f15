/- Words of pages of a memory of 64 words. -/
import Derived.Test.YtijajemalokgjaaWla
namespace Go.Proofs.Ytijajemalokgjaa
open Go.RowKit
set_option linter.unusedVariables false

theorem i_wordsOn8 (gm n cap b : Nat) (ms : List Int) (ap : Option Addr) (lp cp : Nat) (ps : List Int) (w : World) (h : Nums w b (.slice (some ⟨gm, 0, none⟩) n cap) ms) (hm : ms.length = 64) (hp : IsNs w ap lp cp ps) (hr : ∀ x ∈ ps, 0 ≤ x ∧ x ≤ 7) (hl : 1 ≤ ps.length ∧ ps.length ≤ 5) :
    Calls Try.prog 31 #[.slice (some ⟨gm, 0, none⟩) n cap, .slice ap lp cp] w fun e w' => ∃ v, e = .returned v ∧ Nums w' w.heap.size v (wordsL ms ps) ∧ Below w.heap.size w w' :=
  i_wordsN gm n cap b ms ap lp cp ps w h 8 (by decide) (by decide) (by omega) hp (fun x hx => by have := hr x hx; omega) hl.2
theorem l7_words8 (gm n cap b : Nat) (ms : List Int) (ap : Option Addr) (lp cp : Nat) (ps : List Int) (w : World) (h : Nums w b (.slice (some ⟨gm, 0, none⟩) n cap) ms) (hm : ms.length = 64) (hp : IsNs w ap lp cp ps) (hr : ∀ x ∈ ps, 0 ≤ x ∧ x ≤ 7) (hl : 1 ≤ ps.length ∧ ps.length ≤ 5) :
    Calls Try.prog 27 #[.slice (some ⟨gm, 0, none⟩) n cap, .slice ap lp cp] w fun e w' => ∃ v, e = .returned v ∧ Nums w' w.heap.size v (wordsL ms ps) ∧ Below w.heap.size w w' :=
  l7_wordsN gm n cap b ms ap lp cp ps w h 8 (by decide) (by decide) (by omega) hp (fun x hx => by have := hr x hx; omega) hl.2
end Go.Proofs.Ytijajemalokgjaa
