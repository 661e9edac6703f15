/- Draws of caches. -/
import Derived.Test.YtaajaikpkcgalaaFac
import Derived.Test.YtaajaikpkcgalaaPdp
import Derived.Deep.Cut
import Derived.Deep.CutRange
import Derived.Deep.RegionWith
namespace Go.Proofs.Ytaajaikpkcgalaa
open Go.RowKit
set_option linter.unusedVariables false

theorem Qs.turn {e : TypeId} {w w' : World} {base b : Nat} {v : Value} {rs : List Qd} (h : Qs e w base v rs) (t : Turn b w w') (hb : b < base) : Qs e w' base v rs :=
  h.kept t.grown (.inr fun e => by have := (h.lt b e).1; omega)
theorem Qs.set0 {e : TypeId} {w : World} {base g n cap : Nat} {x : Qd} {r : List Qd} (h : Qs e w base (.slice (some ⟨g, 0, none⟩) n cap) (x :: r)) (hn : n = r.length + 1) (u : Int) :
    Qs e (w.setCell ⟨g, 0, none⟩ (.int .i64 u)) base (.slice (some ⟨g, 0, none⟩) n cap) (⟨u, x.page, x.to, x.kinds⟩ :: r) := by
  subst hn
  exact (World.ownsRow.stored h 0 (.int .i64 u)).1
theorem Qs.set3 {e : TypeId} {w : World} {base g n cap : Nat} {x : Qd} {r : List Qd} (h : Qs e w base (.slice (some ⟨g, 0, none⟩) n cap) (x :: r)) (hn : n = r.length + 1) (u : Int) :
    Qs e (w.setCell ⟨g, 3, none⟩ (.int .i64 u)) base (.slice (some ⟨g, 0, none⟩) n cap) (⟨x.tag, x.page, x.to, u⟩ :: r) := by
  subst hn
  exact (World.ownsRow.stored h 3 (.int .i64 u)).1
/-- One hit put into a drawn cache, as the model's draw does it. -/
theorem fill_turn {w : World} {b base k : Nat} {a : Option Addr} {len cap : Nat} {zs : List Int} (s : Src w b k a len cap zs) {v : Value} {rs : List Qd} (hQ : Qs 65 w base v rs) (hc : cfV rs = 0) (q : Qd) (hb : base ≤ w.heap.size) :
    Calls Try.prog 39 #[v, q.val] w fun e w' => ∃ v', e = .returned v' ∧ Qs 65 w' base v' (fillQ rs q) ∧ Turn b w w' ∧ Src w' b k a len cap zs := by
  obtain ⟨ya, yc, rfl, _, _, _⟩ := hQ.shape
  refine (spec_fill ya rs.length yc rs q w hQ.read hc).mono ?_
  rintro e w' ⟨v', rfl, n, d⟩
  exact ⟨v', rfl, n.mono hb, Turn.of_below d, s.turn (Turn.of_below (b := w.heap.size) d) (Nat.le_refl _)⟩

end Go.Proofs.Ytaajaikpkcgalaa
