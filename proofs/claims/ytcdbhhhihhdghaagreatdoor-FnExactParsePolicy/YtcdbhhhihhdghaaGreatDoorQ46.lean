/- Texts of this seat, joined. -/
import Derived.Test.YtcdbhhhihhdghaaGreatDoorQ36
import Derived.Test.YtcdbhhhihhdghaaGreatDoorQ45
namespace Go.Proofs.YtcdbhhhihhdghaaGreatDoor
open Go.RowKit
set_option linter.unusedVariables false

theorem Wp.void (w : World) (base : Nat) : Wp w base (.slice none 0 0) (.slice none 0 0) (.slice none 0 0) (.slice none 0 0) vdP [] :=
  ⟨World.ownsRow_nil w base _ _, rfl, fun i x e => by simp at e, List.Pairwise.nil, Ls.nil _ _ _, Prs.nil _ _ _, Prs.nil _ _ _⟩
theorem rowW {w w' : World} {base base' e e' sz sz' n m : Nat} {v u : Value} {xs ys : List Value} (h : w.ownsRow base e sz v n xs) (k : w.ownsRow base' e' sz' u m ys) (g : w.grownBy w' u.ownBlock) (hne : e ≠ e') : w'.ownsRow base e sz v n xs :=
  World.ownsRow.kept h g (row_typesX h k hne)
theorem Wp.pushOwn {w w' : World} {base : Nat} {v0 v1 v2 v3 v' u : Value} {P : Plc} {xs : List Value} {zs : List Int} (h : Wp w base v0 v1 v2 v3 P xs) (hu : Nums w base u zs) (ha : ∀ x ∈ xs, Apt x u)
    (hr : w'.ownsRow base 36 1 v' (xs ++ [u]).length (xs ++ [u])) (hg : w.grownBy w' v0.ownBlock) : Wp w' base v' v1 v2 v3 (adP P 0 zs) (xs ++ [u]) := by
  refine ⟨hr, by show _ = (P.own ++ [zs]).length; simp [h.xl], fun i x e => ?_, ?_, rowW h.lanes h.own hg (by decide), rowW h.bells h.own hg (by decide), rowW h.plan h.own hg (by decide)⟩
  · show Nums w' base x ((P.own ++ [zs]).getD i [])
    by_cases hi : i < xs.length
    · rw [List.getElem?_append_left hi] at e
      have e2 : (P.own ++ [zs]).getD i [] = P.own.getD i [] := by rw [List.getD, List.getD, List.getElem?_append_left (by rw [← h.xl]; exact hi)]
      rw [e2]
      exact rowW (h.rows i x e) h.own hg (by decide)
    · rw [List.getElem?_append_right (by omega)] at e
      have hi2 : i = xs.length := by have := (List.getElem?_eq_some_iff.1 e).1; simp at this; omega
      subst hi2
      rw [Nat.sub_self] at e
      cases e
      have e2 : (P.own ++ [zs]).getD xs.length [] = zs := by rw [h.xl, List.getD, List.getElem?_append_right (Nat.le_refl _)]; simp
      rw [e2]
      exact rowW hu h.own hg (by decide)
  · exact List.pairwise_append.2 ⟨h.apart, List.pairwise_singleton _ _, fun x hx y hy => by rw [List.mem_singleton] at hy; subst hy; exact ha x hx⟩
theorem Wp.pushLane {w w' : World} {base : Nat} {v0 v1 v2 v3 v' : Value} {P : Plc} {xs : List Value} {zs : List Int} (h : Wp w base v0 v1 v2 v3 P xs)
    (hr : Ls 54 w' base v' (P.lanes ++ [⟨zs.getD 0 0, zs.getD 1 0, zs.getD 2 0, zs.getD 3 0, zs.getD 4 0⟩])) (hg : w.grownBy w' v1.ownBlock) : Wp w' base v0 v' v2 v3 (adP P 1 zs) xs :=
  ⟨rowW h.own h.lanes hg (by decide), h.xl, fun i x e => rowW (h.rows i x e) h.lanes hg (by decide), h.apart, hr, rowW h.bells h.lanes hg (by decide), rowW h.plan h.lanes hg (by decide)⟩
theorem Wp.pushBell {w w' : World} {base : Nat} {v0 v1 v2 v3 v' : Value} {P : Plc} {xs : List Value} {zs : List Int} (h : Wp w base v0 v1 v2 v3 P xs)
    (hr : Prs 56 w' base v' (P.bells ++ [(zs.getD 0 0, zs.getD 1 0)])) (hg : w.grownBy w' v2.ownBlock) : Wp w' base v0 v1 v' v3 (adP P 2 zs) xs :=
  ⟨rowW h.own h.bells hg (by decide), h.xl, fun i x e => rowW (h.rows i x e) h.bells hg (by decide), h.apart, rowW h.lanes h.bells hg (by decide), hr, rowW h.plan h.bells hg (by decide)⟩
theorem Wp.pushSlot {w w' : World} {base : Nat} {v0 v1 v2 v3 v' : Value} {P : Plc} {xs : List Value} {zs : List Int} (h : Wp w base v0 v1 v2 v3 P xs)
    (hr : Prs 58 w' base v' (P.plan ++ [(zs.getD 0 0, zs.getD 1 0)])) (hg : w.grownBy w' v3.ownBlock) : Wp w' base v0 v1 v2 v' (adP P 3 zs) xs :=
  ⟨rowW h.own h.plan hg (by decide), h.xl, fun i x e => rowW (h.rows i x e) h.plan hg (by decide), h.apart, rowW h.lanes h.plan hg (by decide), rowW h.bells h.plan hg (by decide), hr⟩
theorem Wp.lt {w : World} {base : Nat} {v0 v1 v2 v3 : Value} {P : Plc} {xs : List Value} (h : Wp w base v0 v1 v2 v3 P xs) {x : Value} (hx : x ∈ xs) : ∀ k, x.ownBlock = some k → k < w.heap.size := fun k e => by
  obtain ⟨i, hi, e2⟩ := List.mem_iff_getElem.1 hx
  exact ((h.rows i x (by rw [List.getElem?_eq_getElem hi, e2])).lt k e).2
/-- A row made behind the policy is apart from its rows. -/
theorem Wp.apt {w w2 : World} {base B : Nat} {v0 v1 v2 v3 u : Value} {P : Plc} {xs : List Value} {zs : List Int} (h : Wp w base v0 v1 v2 v3 P xs) (hu : Nums w2 B u zs) (hB : w.heap.size ≤ B) : ∀ x ∈ xs, Apt x u := fun x hx => by
  cases e : x.ownBlock with
  | none => exact .inl e
  | some k =>
    refine .inr fun e2 => ?_
    rw [e] at e2
    have := h.lt hx k e
    have := (hu.lt k e2.symm).1
    omega
theorem Wp.shape {w : World} {base : Nat} {v0 v1 v2 v3 : Value} {P : Plc} {xs : List Value} (h : Wp w base v0 v1 v2 v3 P xs) : ∃ b0 b1 b2 b3 d0 d1 d2 d3, v0 = .slice b0 P.own.length d0 ∧ v1 = .slice b1 P.lanes.length d1 ∧ v2 = .slice b2 P.bells.length d2 ∧ v3 = .slice b3 P.plan.length d3 := by
  obtain ⟨b1, d1, e1, _⟩ := h.lanes.shape
  obtain ⟨b2, d2, e2, _⟩ := h.bells.shape
  obtain ⟨b3, d3, e3, _⟩ := h.plan.shape
  have := h.xl
  obtain ⟨_, ⟨e0, k⟩ | ⟨g, cap, _, e0, _⟩⟩ := h.own
  · exact ⟨none, b1, b2, b3, 0, d1, d2, d3, by rw [e0, ← this, k], e1, e2, e3⟩
  · exact ⟨_, b1, b2, b3, cap, d1, d2, d3, by rw [e0, this], e1, e2, e3⟩
theorem Wp.isS2 {w : World} {base n cap : Nat} {a : Option Addr} {v1 v2 v3 : Value} {P : Plc} {xs : List Value} (h : Wp w base (.slice a n cap) v1 v2 v3 P xs) : IsS2 w a n cap P.own := by
  have hx := h.xl
  have h1' := h.own
  obtain ⟨k1, ⟨hv, k3⟩ | ⟨g, c, cur, hv, _, _, k4, k5, _⟩⟩ := h.own
  · cases hv
    exact .inl ⟨rfl, rfl, rfl, List.eq_nil_of_length_eq_zero (by omega)⟩
  · cases hv
    refine .inr ⟨⟨g, 0, none⟩, rfl, k4, k5, hx.symm, fun i hi => ?_⟩
    have hc := World.ownsRow.cellAt h1' i (by omega)
    have hr := h.rows i xs[i] (by rw [List.getElem?_eq_getElem])
    obtain ⟨a', cap', hs, _⟩ := hr.shape
    refine ⟨a', _, cap', ?_, by rw [hs] at hr; exact hr.read⟩
    rw [Addr.add_lit, Nat.zero_add, hc, ← hs, List.getElem?_eq_getElem (by omega)]
theorem Wp.pl {w : World} {base : Nat} {a0 a1 a2 a3 : Option Addr} {n0 c0 n1 c1 n2 c2 n3 c3 : Nat} {P : Plc} {xs : List Value} (h : Wp w base (.slice a0 n0 c0) (.slice a1 n1 c1) (.slice a2 n2 c2) (.slice a3 n3 c3) P xs) : Pl w a0 n0 c0 a1 n1 c1 a2 n2 c2 a3 n3 c3 P :=
  ⟨h.isS2, h.lanes.read, h.bells.read, h.plan.read⟩
end Go.Proofs.YtcdbhhhihhdghaaGreatDoor
