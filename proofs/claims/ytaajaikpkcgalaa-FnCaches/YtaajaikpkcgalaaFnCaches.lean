/- The law FnCaches answers true at every input, and each argument reads behind the call as it read ahead of it; no condition. -/
import Derived.Test.YtaajaikpkcgalaaBase
import Derived.Test.YtaajaikpkcgalaaCaf
import Derived.Deep.RegionWith
import Derived.Deep.Cut
import Derived.Deep.CutRange
import Derived.Test.YtaajaikpkcgalaaPge
import Derived.Deep.RegionLaw
import Derived.Test.YtaajaikpkcgalaaPgx
import Derived.Test.YtaajaikpkcgalaaPdb
import Derived.Test.YtaajaikpkcgalaaWcb
import Derived.Test.YtaajaikpkcgalaaFlw
import Derived.Test.YtaajaikpkcgalaaSpc
namespace Go.Proofs.Ytaajaikpkcgalaa
open Go.RowKit
set_option linter.unusedVariables false

/-- append of one pair to a slice of the call's own, as a step of a region. -/
theorem step_pair {ops : Array Oper} {o : Oper} {act : Act} {w : World} {K : Act → World → Prop} {Q : Exit → Act → World → Prop} {E : Prop} (t e : TypeId) (he : Try.prog.underlying t = some (.slice e)) (hinfo : (Try.prog.info? e).map (fun i => (i.zero, i.size, i.bytes)) = some (some (.agg #[.int .i64 0, .int .i64 0]), 2, 16))
    (hgd : o.guard = none) (s x : Operand)
    (ho : o.op = .call { callee := .builtin .append, args := #[s, x], argTypes := #[t, t] }) (base : Nat) (v : Value) (rs : List (Int × Int)) (hs : act.eval s = v) (hN : Prs e w base v rs)
    (B : Nat) (a b : Int) (hx : act.eval x = .slice (some ⟨B, 0, none⟩) 1 1) (h0 : w.cell? ⟨B, 0, none⟩ = some (.int .i64 a)) (h1 : w.cell? ⟨B, 1, none⟩ = some (.int .i64 b))
    (hlen : rs.length ≤ 1000000000) (hbase : base ≤ w.heap.size)
    (h : ∀ v' w', Hid (Prs e w' base v' (rs ++ [(a, b)])) → w.grownBy w' v.ownBlock → K (act.put o.dst v') w') :
    if Region.wanted o (yielded ops act.tmps) = true then Oper.wp Try.prog o act w K Q else E := by
  have hw : Region.wanted o (yielded ops act.tmps) = true := by simp [Region.wanted, hgd]
  rw [if_pos hw]
  obtain ⟨i, hi, hz0, hz1, hz2⟩ := info_parts hinfo
  refine wp_append_own w s x t ho base e i _ 2 16 he hi hz0 hz1 hz2 rfl (by decide) v rs.length _ hs hN ⟨B, 0, none⟩ 1 1 (flat [(a, b)]) hx rfl ?_ (flat_one _) (by unfold maxLen; omega) (by omega) hbase ?_
  · intro j u hj
    rw [Addr.add_lit, Nat.zero_add]
    match j, hj with
    | 0, hj => rw [h0]; exact hj
    | 1, hj => rw [h1]; exact hj
    | j + 2, hj => simp [flat] at hj
  · intro v' w' hown hgrow _
    refine h v' w' ?_ hgrow
    show Prs e w' base v' (rs ++ [(a, b)])
    unfold Prs
    rw [List.length_append, flat_append]
    exact hown

theorem cell_new2 {w : World} {a : Obj} {cs : Array Value} {t : TypeId} {i : Nat} {v : Value} (h : cs[i]? = some v) : ((w.alloc a).alloc (.cells cs t)).cell? ⟨w.heap.size + 1, i, none⟩ = some v := by
  have := cell_new (w := w.alloc a) (cs := cs) (t := t) (i := i) h
  rwa [World.size_alloc] at this

theorem frozen_grown {w w' : World} {row : Option Nat} {p : Addr} (g : w.grownBy w' row) (hp : p.block < w.heap.size) (hne : some p.block ≠ row) : w'.frozen? p = w.frozen? p :=
  World.frozen?_of_block (w := w) (g.block p.block hp hne)

def fromC (zs : List Int) : Int := if zs.length = 8 then (if zs.all isW then 0 else 3) else 1
def fromP (zs : List Int) : List (Int × Int) := if zs.length = 8 then (if zs.all isW then zs.map entP else []) else []
theorem from_take (zs : List Int) (j : Nat) (h : j < zs.length) : (zs.take (j + 1)).map entP = (zs.take j).map entP ++ [((entP (zs.getD j 0)).1, (entP (zs.getD j 0)).2)] := by
  rw [List.take_succ_eq_append_getElem h, List.map_append, List.getD, List.getElem?_eq_getElem h]
  rfl

end Go.Proofs.Ytaajaikpkcgalaa
namespace Go.Proofs.Ytaajaikpkcgalaa
open Go.RowKit
set_option linter.unusedVariables false

theorem IsPairs.max {w : World} {a : Option Addr} {len cap : Nat} {rs : List (Int × Int)} (h : IsPairs w a len cap rs) : len ≤ 9223372036854775807 := by
  rcases h with ⟨_, h1, _, _⟩ | ⟨x, _, h1, h2, _⟩
  · omega
  · unfold maxLen at h2; omega

/-- The fault of two lists. -/
def twoV (rs : List (Int × Int)) (top : Int) (qs : List (Int × Int)) : Int := if pgsV rs top = 0 then pgsV qs 24 else pgsV rs top
def wbC (rs qs : List (Int × Int)) (x k : Int) : Int := if twoV rs 8 qs = 0 then (thr [rs, qs] x k).1 else twoV rs 8 qs
def wbV (rs qs : List (Int × Int)) (x k : Int) : Int := if twoV rs 8 qs = 0 then (thr [rs, qs] x k).2 else 0
theorem twoV_zero {rs qs : List (Int × Int)} {top : Int} (h : twoV rs top qs = 0) : pgsV rs top = 0 ∧ pgsV qs 24 = 0 := by
  unfold twoV at h
  split at h
  · next h1 => exact ⟨h1, h⟩
  · next h1 => exact absurd h h1
theorem okTo_mono {rs : List (Int × Int)} {t : Int} {j : Nat} (h : okTo t rs j) (ht : t ≤ 24) : okTo 24 rs j := by
  intro i hi
  obtain ⟨p1, p2, p3, p4, p5⟩ := pgC_zero (h i hi)
  exact pgC_ok (by omega) (by omega)
theorem pgsV_mono {rs : List (Int × Int)} {t : Int} (h : pgsV rs t = 0) : pgsV rs 24 = 0 := by
  obtain ⟨h1, h2, h3, h4⟩ := pgsV_zero h
  exact pgsV_ok (by omega) (by omega) h3 (okTo_mono h4 h2)

end Go.Proofs.Ytaajaikpkcgalaa
namespace Go.Proofs.Ytaajaikpkcgalaa
open Go.RowKit
set_option linter.unusedVariables false

theorem band_zeroR (k : Int) : bits BinOp.and .i64 k 0 = 0 := by
  show IntKind.i64.wrap ((BitVec.ofInt 64 k &&& BitVec.ofInt 64 0).toNat : Int) = 0
  rw [BitVec.toNat_and]
  simp [IntKind.wrap_i64]

/-- The page that leads at once where a page and a list lead. -/
def cmpP (qs : List (Int × Int)) (r : Int × Int) : Int × Int := if r.1 = -1 then (-1, 0) else forP (qs.getD r.1.toNat (0, 0)).1 (bits BinOp.and .i64 r.2 (qs.getD r.1.toNat (0, 0)).2)
def cmpL (rs qs : List (Int × Int)) : List (Int × Int) := if twoV rs 8 qs = 0 then rs.map (cmpP qs) else []

theorem map_take (f : Int × Int → Int × Int) (rs : List (Int × Int)) (j : Nat) (h : j < rs.length) : (rs.take (j + 1)).map f = (rs.take j).map f ++ [((f ((rs.getD j (0, 0)).1, (rs.getD j (0, 0)).2)).1, (f ((rs.getD j (0, 0)).1, (rs.getD j (0, 0)).2)).2)] := by
  rw [List.take_succ_eq_append_getElem h, List.map_append, List.getD, List.getElem?_eq_getElem h]
  rfl

end Go.Proofs.Ytaajaikpkcgalaa
namespace Go.Proofs.Ytaajaikpkcgalaa
open Go.RowKit
set_option linter.unusedVariables false

/-- What one round leaves: the list that grew stands in the answer under way. -/
structure Grew (w : World) (S : Nat) (z : Value) (L : List (Int × Int)) (w' : World) : Prop where
  prs : Prs 51 w' (S + 2) z L
  r0 : w'.cell? ⟨S, 0, none⟩ = some (.int .i64 0)
  r1 : w'.cell? ⟨S, 1, none⟩ = some (.slice none 0 0)
  f0 : w'.frozen? ⟨S, 0, none⟩ = false
  f1 : w'.frozen? ⟨S, 1, none⟩ = false
  o0 : w'.cell? ⟨S + 1, 0, none⟩ = some (.int .i64 0)
  o1 : w'.cell? ⟨S + 1, 1, none⟩ = some z
  g1 : w'.frozen? ⟨S + 1, 1, none⟩ = false
  below : Below w.heap.size w w'

theorem Grew.keep {w w1 w2 : World} {S : Nat} {z : Value} {L : List (Int × Int)} (h : Grew w S z L w1) (b : Below w1.heap.size w1 w2) : Grew w S z L w2 := by
  have s1 : S + 1 < w1.heap.size := block_of_cell h.o0
  exact ⟨h.prs.keep b, cell_keep b h.r0, cell_keep b h.r1, by rw [b.frozen (p := ⟨S, 0, none⟩) (by show S < _; omega)]; exact h.f0, by rw [b.frozen (p := ⟨S, 1, none⟩) (by show S < _; omega)]; exact h.f1,
    cell_keep b h.o0, cell_keep b h.o1, by rw [b.frozen (p := ⟨S + 1, 1, none⟩) s1]; exact h.g1, on h.below b⟩

/-- append has grown the list; it is not yet stored. -/
theorem Grew.grown {w w1 w2 : World} {S : Nat} {z z' : Value} {L : List (Int × Int)} {r : Int × Int} (h : Grew w S z L w1) (hp : Prs 51 w2 (S + 2) z' (L ++ [r])) (g : w1.grownBy w2 z.ownBlock) (hS : w.heap.size ≤ S) :
    Grew w S z' (L ++ [r]) (w2.setCell ⟨S + 1, 1, none⟩ z') ∧ w2.cell? ⟨S + 1, 1, none⟩ = some z ∧ w2.frozen? ⟨S + 1, 1, none⟩ = false := by
  have s1 : S + 1 < w1.heap.size := block_of_cell h.o0
  have n0 : some S ≠ z.ownBlock := pown_not h.prs _ (.inl (by omega))
  have n1 : some (S + 1) ≠ z.ownBlock := pown_not h.prs _ (.inl (by omega))
  have r0 := cell_grown g h.r0 n0
  have r1 := cell_grown g h.r1 n0
  have o0 := cell_grown g h.o0 n1
  have o1 := cell_grown g h.o1 n1
  have f0 : w2.frozen? ⟨S, 0, none⟩ = false := by rw [frozen_grown (p := ⟨S, 0, none⟩) g (by show S < _; omega) n0]; exact h.f0
  have f1 : w2.frozen? ⟨S, 1, none⟩ = false := by rw [frozen_grown (p := ⟨S, 1, none⟩) g (by show S < _; omega) n0]; exact h.f1
  have g1 : w2.frozen? ⟨S + 1, 1, none⟩ = false := by rw [frozen_grown (p := ⟨S + 1, 1, none⟩) g s1 n1]; exact h.g1
  have b2 : Below w.heap.size w w2 := h.below.grown g h.below.size (fun k hk => by have := (h.prs.lt k hk).1; omega)
  refine ⟨⟨hp.put _ _ (fun e => pown_not hp (S + 1) (.inl (by omega)) e.symm), by simp [go_sem, r0], by simp [go_sem, r1], by rw [World.frozen?_setCell]; exact f0, by rw [World.frozen?_setCell]; exact f1, by simp [go_sem, o0], by rw [World.cell?_setCell_same _ _ _ o1], by rw [World.frozen?_setCell]; exact g1, b2.setCell (by show w.heap.size ≤ S + 1; omega) _⟩, o1, g1⟩

theorem cell_newAt {w : World} {cs : Array Value} {t : TypeId} {i n : Nat} {v : Value} (hn : w.heap.size = n) (h : cs[i]? = some v) : (w.alloc (.cells cs t)).cell? ⟨n, i, none⟩ = some v := by
  subst hn
  exact cell_new h

end Go.Proofs.Ytaajaikpkcgalaa
namespace Go.Proofs.Ytaajaikpkcgalaa
open Go.RowKit
set_option linter.unusedVariables false

theorem band_fin : ∀ x y : Fin 8, (0 ≤ bits BinOp.and .i64 (x.val : Int) (y.val : Int) ∧ bits BinOp.and .i64 (x.val : Int) (y.val : Int) ≤ 7) ∧ (∀ k ∈ [(1 : Int), 2, 4], (bits BinOp.and .i64 (bits BinOp.and .i64 (x.val : Int) (y.val : Int)) k == 0) = (bits BinOp.and .i64 (x.val : Int) k == 0 || bits BinOp.and .i64 (y.val : Int) k == 0)) := by decide +kernel
theorem band_in {x y : Int} (h0 : 0 ≤ x) (h1 : x ≤ 7) (g0 : 0 ≤ y) (g1 : y ≤ 7) : 0 ≤ bits BinOp.and .i64 x y ∧ bits BinOp.and .i64 x y ≤ 7 := by
  obtain ⟨X, rfl⟩ : ∃ X : Fin 8, x = (X.val : Int) := ⟨⟨x.toNat, by omega⟩, by simp; omega⟩
  obtain ⟨Y, rfl⟩ : ∃ Y : Fin 8, y = (Y.val : Int) := ⟨⟨y.toNat, by omega⟩, by simp; omega⟩
  exact (band_fin X Y).1
theorem band_kind {x y k : Int} (h0 : 0 ≤ x) (h1 : x ≤ 7) (g0 : 0 ≤ y) (g1 : y ≤ 7) (hk : kindB k = true) : (bits BinOp.and .i64 (bits BinOp.and .i64 x y) k == 0) = (bits BinOp.and .i64 x k == 0 || bits BinOp.and .i64 y k == 0) := by
  obtain ⟨X, rfl⟩ : ∃ X : Fin 8, x = (X.val : Int) := ⟨⟨x.toNat, by omega⟩, by simp; omega⟩
  obtain ⟨Y, rfl⟩ : ∃ Y : Fin 8, y = (Y.val : Int) := ⟨⟨y.toNat, by omega⟩, by simp; omega⟩
  exact (band_fin X Y).2 k (by rcases kind_cases hk with rfl | rfl | rfl <;> simp)

theorem getD_map (f : Int × Int → Int × Int) (rs : List (Int × Int)) (i : Nat) (h : i < rs.length) : (rs.map f).getD i (0, 0) = f (rs.getD i (0, 0)) := by
  rw [List.getD, List.getD, List.getElem?_map, List.getElem?_eq_getElem h]
  rfl
/-- An entry of the composed list. -/
theorem cmp_at {rs qs : List (Int × Int)} (h : okTo 8 rs 8) (k : okTo 24 qs 8) {i : Nat} (hi : i < 8) :
    ((rs.getD i (0, 0)).1 = -1 ∧ (rs.getD i (0, 0)).2 = 0 ∧ cmpP qs (rs.getD i (0, 0)) = (-1, 0)) ∨
    ∃ A : Nat, A < 8 ∧ (rs.getD i (0, 0)).1 = A ∧ cmpP qs (rs.getD i (0, 0)) = forP (qs.getD A (0, 0)).1 (bits BinOp.and .i64 (rs.getD i (0, 0)).2 (qs.getD A (0, 0)).2) := by
  obtain ⟨p1, p2, p3, p4, p5⟩ := pgC_zero (h i hi)
  generalize rs.getD i (0, 0) = r at *
  by_cases hr : r.1 = -1
  · exact .inl ⟨hr, p5 hr, if_pos hr⟩
  · refine .inr ⟨r.1.toNat, by omega, by omega, ?_⟩
    rw [cmpP, if_neg hr]
theorem cmp_ok {rs qs : List (Int × Int)} (hl : rs.length = 8) (h : okTo 8 rs 8) (k : okTo 24 qs 8) : okTo 24 (rs.map (cmpP qs)) 8 := by
  intro i hi
  rw [getD_map _ _ _ (by omega)]
  obtain ⟨p1, p2, p3, p4, p5⟩ := pgC_zero (h i hi)
  rcases cmp_at h k hi with ⟨_, _, e⟩ | ⟨A, hA, e0, e⟩
  · rw [e]; decide
  · rw [e]
    obtain ⟨q1, q2, q3, q4, q5⟩ := pgC_zero (k A hA)
    generalize qs.getD A (0, 0) = t at *
    generalize (rs.getD i (0, 0)).2 = x at *
    have hb := band_in p3 p4 q3 q4
    unfold forP
    split
    · decide
    · next hz =>
      refine pgC_ok ⟨q1, q2, hb.1, hb.2⟩ ?_
      rintro ⟨ht, _⟩
      apply hz
      rw [q5 ht, band_zeroR]
theorem cmp_fault {rs qs : List (Int × Int)} (h : twoV rs 8 qs = 0) : pgsV (rs.map (cmpP qs)) 24 = 0 := by
  obtain ⟨z1, z2⟩ := twoV_zero h
  obtain ⟨_, _, hl, ho⟩ := pgsV_zero z1
  obtain ⟨_, _, kl, ko⟩ := pgsV_zero z2
  exact pgsV_ok (by omega) (by omega) (by rw [List.length_map]; exact hl) (cmp_ok hl ho ko)

theorem kindV_ne {k : Int} (h : kindB k = true) : kindV k ≠ 0 := by
  rcases kind_cases h with rfl | rfl | rfl <;> decide
theorem forP_snd (t m : Int) : (forP t m).2 = m := by
  unfold forP
  split
  · next h => exact h.symm
  · rfl

/-- Both stages lead where the composed one leads. -/
theorem stages_same {rs qs : List (Int × Int)} (h : twoV rs 8 qs = 0) (x k : Int) : wbC rs qs x k = wpC (rs.map (cmpP qs)) x k ∧ wbV rs qs x k = wpV (rs.map (cmpP qs)) x k := by
  have hf := cmp_fault h
  obtain ⟨z1, z2⟩ := twoV_zero h
  obtain ⟨_, _, hl, ho⟩ := pgsV_zero z1
  obtain ⟨_, _, kl, ko⟩ := pgsV_zero z2
  rw [wbC, wbV, wpC, wpV, if_pos h, if_pos h, if_pos hf, if_pos hf, thr_two]
  cases hk : kindB k
  · have e : ∀ l y, wkC l y k = 3 ∧ wkV l y k = 0 := fun l y => ⟨by simp [wkC, hk], by simp [wkV, hk]⟩
    rw [(e rs x).1, (e rs x).2, (e _ x).1, (e _ x).2]
    exact ⟨rfl, rfl⟩
  · have eT : ∀ l y, goesB l y k = true → wkC l y k = 0 ∧ wkV l y k = goesTo l y := fun l y hg => ⟨by simp [wkC, hk, hg], by simp [wkV, hk, hg]⟩
    have eF : ∀ l y, goesB l y k = false → wkC l y k = kindV k ∧ wkV l y k = 0 := fun l y hg => ⟨by simp [wkC, hk, hg], by simp [wkV, hk, hg]⟩
    have hn := kindV_ne hk
    by_cases hx : 0 ≤ x ∧ x ≤ 63
    case neg =>
      have hg : ∀ l, goesB l x k = false := fun l => by
        unfold goesB
        have : (decide (0 ≤ x) && decide (x ≤ 63)) = false := by simp; omega
        rw [this]; rfl
      rw [(eF rs x (hg _)).1, (eF rs x (hg _)).2, (eF _ x (hg _)).1, (eF _ x (hg _)).2, if_neg hn]
      exact ⟨rfl, rfl⟩
    obtain ⟨x0, x1⟩ := hx
    have hi : (x / 8).toNat < 8 := by omega
    have gx : ∀ l, goesB l x k = !(bits BinOp.and .i64 (l.getD (x / 8).toNat (0, 0)).2 k == 0) := fun l => by unfold goesB; simp [x0, x1]
    have gL := gx (rs.map (cmpP qs))
    rw [getD_map _ _ _ (by omega)] at gL
    have tL : goesTo (rs.map (cmpP qs)) x = (cmpP qs (rs.getD (x / 8).toNat (0, 0))).1 * 8 + x % 8 := by unfold goesTo; rw [getD_map _ _ _ (by omega)]
    obtain ⟨p1, p2, p3, p4, p5⟩ := pgC_zero (ho _ hi)
    rcases cmp_at ho ko hi with ⟨r1, r2, e⟩ | ⟨A, hA, e0, e⟩
    · have g1 : goesB rs x k = false := by rw [gx, r2, band_zero]; rfl
      have g2 : goesB (rs.map (cmpP qs)) x k = false := by rw [gL, e, band_zero]; rfl
      rw [(eF _ _ g1).1, (eF _ _ g1).2, (eF _ _ g2).1, (eF _ _ g2).2, if_neg hn]
      exact ⟨rfl, rfl⟩
    · obtain ⟨q1, q2, q3, q4, q5⟩ := pgC_zero (ko A hA)
      rw [e, forP_snd, band_kind p3 p4 q3 q4 hk] at gL
      rw [e] at tL
      cases c1 : (bits BinOp.and .i64 (rs.getD (x / 8).toNat (0, 0)).2 k == 0)
      · have g1 : goesB rs x k = true := by rw [gx, c1]; rfl
        rw [(eT _ _ g1).1, (eT _ _ g1).2, if_pos rfl]
        have t1 : goesTo rs x = (A : Int) * 8 + x % 8 := by unfold goesTo; rw [e0]
        have y8 : (((A : Int) * 8 + x % 8) / 8).toNat = A := by omega
        have y9 : ((A : Int) * 8 + x % 8) % 8 = x % 8 := by omega
        have gq : goesB qs ((A : Int) * 8 + x % 8) k = !(bits BinOp.and .i64 (qs.getD A (0, 0)).2 k == 0) := by
          unfold goesB
          rw [y8]
          have : (decide (0 ≤ (A : Int) * 8 + x % 8) && decide ((A : Int) * 8 + x % 8 ≤ 63)) = true := by simp; omega
          rw [this, Bool.true_and]
        rw [c1, Bool.false_or] at gL
        cases c2 : (bits BinOp.and .i64 (qs.getD A (0, 0)).2 k == 0)
        · have g2 : goesB qs ((A : Int) * 8 + x % 8) k = true := by rw [gq, c2]; rfl
          have g3 : goesB (rs.map (cmpP qs)) x k = true := by rw [gL, c2]; rfl
          rw [t1, (eT _ _ g2).1, (eT _ _ g2).2, (eT _ _ g3).1, (eT _ _ g3).2]
          refine ⟨rfl, ?_⟩
          rw [tL]
          unfold goesTo
          rw [y8, y9]
          have hm : ¬ bits BinOp.and .i64 (rs.getD (x / 8).toNat (0, 0)).2 (qs.getD A (0, 0)).2 = 0 := by
            intro hz
            have := band_kind p3 p4 q3 q4 hk
            rw [hz, band_zero, c1, c2] at this
            simp at this
          rw [forP, if_neg hm]
        · have g2 : goesB qs ((A : Int) * 8 + x % 8) k = false := by rw [gq, c2]; rfl
          have g3 : goesB (rs.map (cmpP qs)) x k = false := by rw [gL, c2]; rfl
          rw [t1, (eF _ _ g2).1, (eF _ _ g2).2, (eF _ _ g3).1, (eF _ _ g3).2]
          exact ⟨rfl, rfl⟩
      · have g1 : goesB rs x k = false := by rw [gx, c1]; rfl
        have g3 : goesB (rs.map (cmpP qs)) x k = false := by rw [gL, c1]; rfl
        rw [(eF _ _ g1).1, (eF _ _ g1).2, (eF _ _ g3).1, (eF _ _ g3).2, if_neg hn]
        exact ⟨rfl, rfl⟩

/-- The fault of a drawn list, by program and model. -/
def Flt (w : World) (v : Value) (top c : Int) : Prop :=
  (∀ w1, Below w.heap.size w w1 → Calls Try.prog 30 #[v, .int .i64 top] w1 fun e w' => e = .returned (.int .i64 c) ∧ Below w1.heap.size w1 w') ∧
  ∀ w1, Below w.heap.size w w1 → Calls Try.prog 8 #[v, .int .i64 top] w1 fun e w' => e = .returned (.int .i64 c) ∧ w' = w1
theorem Flt.good {w : World} {base : Nat} {v : Value} {rs : List (Int × Int)} (h : Prs 51 w base v rs) (hl : rs.length = 8) (top : Int) : Flt w v top (pgsV rs top) :=
  ⟨fun w1 b => impl_fault v rs top base w1 (h.keep b) (by omega), fun w1 b => spec_fault v rs top base w1 (h.keep b) (by omega)⟩
theorem Flt.bad {w : World} (a : Option Addr) (cap : Nat) (top : Int) (h1 : 1 ≤ top) (h2 : top ≤ 24) : Flt w (.slice a 7 cap) top 1 := by
  refine ⟨fun w1 b => ?_, fun w1 b => spec_faultBad _ _ _ _ _ (by omega) (by omega) h1 h2⟩
  refine (impl_faultBad _ _ _ _ _ (by omega) (by omega) h1 h2).mono ?_
  rintro e w' ⟨rfl, rfl⟩
  exact ⟨rfl, Below.refl _ _⟩

end Go.Proofs.Ytaajaikpkcgalaa
namespace Go.Proofs.Ytaajaikpkcgalaa
open Go.RowKit
set_option linter.unusedVariables false

/-- append of hits that lie anywhere to a slice of the call's own. -/
theorem app_quads {o : Oper} {act : Act} {w : World} {K : Act → World → Prop} {Q : Exit → Act → World → Prop} (s x : Operand)
    (ho : o.op = .call { callee := .builtin .append, args := #[s, x], argTypes := #[24, 24] }) (base : Nat) (v : Value) (rs : List Qd) (hs : act.eval s = v) (hN : Qs 65 w base v rs)
    (p : Addr) (m c : Nat) (ys : List Qd) (hx : act.eval x = .slice (some p) m c) (hR : IsQuads w (some p) m c ys) (hlen : rs.length + m ≤ 1000000) (hbase : base ≤ w.heap.size)
    (h : ∀ v' w', Qs 65 w' base v' (rs ++ ys) → w.grownBy w' v.ownBlock → K (act.put o.dst v') w') : Oper.wp Try.prog o act w K Q := by
  obtain ⟨i, hi, hz0, hz1, hz2⟩ := info_parts info_hit
  have hy : m = ys.length := hR.len
  rcases hR with ⟨h0, _⟩ | ⟨p', hp, _, _, _, h4⟩
  · cases h0
  cases hp
  refine wp_append_own w s x 24 ho base 65 i _ 4 32 Try.underlying24 hi hz0 hz1 hz2 rfl (by decide) v rs.length _ hs hN p m c (flat4 ys) hx (by rw [flat4_length, hy]) ?_ (flat4_one _) (by unfold maxLen; omega) (by omega) hbase ?_
  · intro j u hj
    have hjl : j < ys.length * 4 := by have := (List.getElem?_eq_some_iff.1 hj).1; rwa [flat4_length] at this
    have hq : j / 4 < ys.length := by omega
    obtain ⟨f0, f1, f2, f3⟩ := flat4_get ys (j / 4) hq
    obtain ⟨c0, c1, c2, c3⟩ := h4 (j / 4) (by omega)
    have e : j = j / 4 * 4 ∨ j = j / 4 * 4 + 1 ∨ j = j / 4 * 4 + 2 ∨ j = j / 4 * 4 + 3 := by omega
    generalize j / 4 = q at *
    rcases e with rfl | rfl | rfl | rfl
    · rw [c0, ← f0]; exact hj
    · rw [c1, ← f1]; exact hj
    · rw [c2, ← f2]; exact hj
    · rw [c3, ← f3]; exact hj
  · intro v' w' hown hgrow _
    refine h v' w' ?_ hgrow
    unfold Qs
    rw [List.length_append, ← hy, flat4_append]
    exact hown

set_option maxHeartbeats 2000000 in
theorem spec_asked (a : Option Addr) (len cap : Nat) (rs : List Qd) (t k pf : Int) (pa : Option Addr) (pn pc : Nat) (w : World) (h : IsQuads w a len cap rs)
    (hG : ∀ u, Below w.heap.size w u → Calls Try.prog 8 #[.slice pa pn pc, .int .i64 24] u fun e w' => e = .returned (.int .i64 pf) ∧ w' = u) :
    Calls Try.prog 32 #[.slice a len cap, .int .i64 t, .slice pa pn pc, .int .i64 k] w fun e w' => e = .returned (.int .i64 (wcX rs t pf k)) ∧ Below w.heap.size w w' := by
  have hF := spec_cacheFault a len cap rs w h
  have HIN : Hid ((decide (0 ≤ t) && decide (t ≤ 9)) = tagB t) := by show _ = _; unfold tagB; simp
  clear h
  by_cases hc : cfV rs = 0
  case neg =>
    have e1 : wcX rs t pf k = cfV rs := if_neg hc
    rw [e1]
    have g : (cfV rs != 0) = true := by simpa using hc
    clear e1 hc hG
    generalize cfV rs = c at *
    go_enter Try.func32, Try.ntmps32
    go_wp2_with (go_at_call 31; refine hF.mono ?_; rintro e w0 ⟨rfl, b0⟩)
    go_ret
    exact ⟨rfl, b0⟩
  have e1 : wcX rs t pf k = wfX t pf k := if_pos hc
  rw [hc] at hF
  rw [e1]
  clear e1 hc
  cases ht : tagB t
  · have e1 : wfX t pf k = 3 := by simp [wfX, ht]
    have HT : Hid (tagB t = false) := ht
    rw [e1]
    go_enter Try.func32, Try.ntmps32
    go_wp2_with (first | (go_at_call 31; refine hF.mono ?_; rintro e w0 ⟨rfl, b0⟩) | (go_at_call 29; refine (spec_in _ _ _ _).mono ?_; rintro e w1 ⟨rfl, rfl⟩; rw [HIN.out, HT.out]))
    go_ret
    exact ⟨rfl, b0⟩
  have HT : Hid (tagB t = true) := ht
  by_cases hp : pf = 0
  case neg =>
    have e1 : wfX t pf k = pf := by simp [wfX, ht, hp]
    have hp2 : (pf != 0) = true := by simpa using hp
    rw [e1]
    clear e1 ht hp
    go_enter Try.func32, Try.ntmps32
    go_wp2_with (first | (go_at_call 31; refine hF.mono ?_; rintro e w0 ⟨rfl, b0⟩) | (go_at_call 29; refine (spec_in _ _ _ _).mono ?_; rintro e w1 ⟨rfl, rfl⟩; rw [HIN.out, HT.out]) | (go_at_call 8; refine (hG _ b0).mono ?_; rintro e w2 ⟨rfl, rfl⟩))
    go_ret
    exact ⟨rfl, b0⟩
  subst hp
  have e1 : wfX t 0 k = if kindB k then 0 else 3 := by simp [wfX, ht]
  rw [e1]
  clear e1 ht
  cases hk : kindB k
  all_goals
    go_enter Try.func32, Try.ntmps32
    go_wp2_with (first | (go_at_call 31; refine hF.mono ?_; rintro e w0 ⟨rfl, b0⟩) | (go_at_call 29; refine (spec_in _ _ _ _).mono ?_; rintro e w1 ⟨rfl, rfl⟩; rw [HIN.out, HT.out]) | (go_at_call 8; refine (hG _ b0).mono ?_; rintro e w2 ⟨rfl, rfl⟩) | (go_at_call 47; refine (spec_kind _ _).mono ?_; rintro e w3 ⟨rfl, rfl⟩; rw [hk]))
    go_ret
    exact ⟨rfl, b0⟩

/-- The hit of a tag and a page: as the model finds it. -/
theorem fnd_at {rs : List Qd} (hc : cfV rs = 0) {t p : Int} (h : hasQ rs t p = true) : ∃ i : Nat, i < rs.length ∧ fiV rs t p = i ∧ rs.getD i qz = (fnd (trn rs) t p).2 ∧ okQ (fnd (trn rs) t p).2 = true ∧ (fnd (trn rs) t p).2.tag = t ∧ (fnd (trn rs) t p).2.page = p := by
  have hany : (trn rs).any (sel t p) = true := by rw [trn_any]; exact h
  obtain ⟨m1, m2, m3⟩ := fnd_mem hany
  have hm := trn_mem m1
  obtain ⟨i, h1, h2, h3⟩ := find_at (cfV_parts hc).2.2 hm
  rw [m2, m3] at h2
  exact ⟨i, h1, h2, h3, (cfV_parts hc).2.1 _ hm, m2, m3⟩

set_option maxRecDepth 20000 in
set_option maxHeartbeats 8000000 in
theorem spec_walkHit (a : Option Addr) (len cap : Nat) (rs : List Qd) (t x k : Int) (pa : Option Addr) (pn pc : Nat) (w : World) (h : IsQuads w a len cap rs) (hc : cfV rs = 0) (hk : kindB k = true) (hb : atB x = true) (hq : hasQ rs t (x / 8) = true) :
    Calls Try.prog 33 #[.slice a len cap, .int .i64 t, .slice pa pn pc, .int .i64 x, .int .i64 k] w fun e w' => ∃ (y : Int) (z : Bool) (la : Option Addr) (ll lc : Nat), e = .returned (.agg #[.int .i64 (wpgC (fnd (trn rs) t (x / 8)).2.kinds k), .int .i64 y, .bool z, .slice la ll lc]) ∧ Below w.heap.size w w' := by
  have hfi := fun u (z : Below w.heap.size w u) => spec_find a len cap rs t (x / 8) u (h.stay z)
  obtain ⟨i, hi, hfv, hgd, hok, htg, hpg⟩ := fnd_at hc hq
  clear htg hpg
  rw [hfv] at hfi
  have hx2 : 0 ≤ x ∧ x ≤ 63 := by unfold atB at hb; simpa using hb
  obtain ⟨hx0, hx1⟩ := hx2
  have HR : Hid (IsQuads w a len cap rs) := h
  have HLEN : Hid (len = rs.length ∧ rs.length ≤ 12) := ⟨h.len, (cfV_parts hc).1⟩
  have hil : i < len := by have := HLEN.out; omega
  have hilI : (i : Int) < (len : Int) := by omega
  rcases h with ⟨_, h1, _, _⟩ | ⟨p, rfl, h1, h2, h3, h4⟩
  · omega
  obtain ⟨c0, c1, c2, c3⟩ := h4 i hil
  rw [hgd] at c0 c1 c2 c3
  generalize (fnd (trn rs) t (x / 8)).2 = q at *
  have hok2 := okQ_iff.1 hok
  have q0 := hok2.2.2.2.2.1
  have q1 := hok2.2.2.2.2.2.1
  have HIN : Hid ((decide (0 ≤ x) && decide (x ≤ 63)) = true) := hb
  have d1 : w.cell? ⟨(p.add (i * 4)).block, (p.add (i * 4)).off + 1, none⟩ = some (.int .i64 q.page) := by show w.cell? ((p.add (i * 4)).add 1) = _; rw [Go.Deep.add_add]; exact c1
  have d2 : w.cell? ⟨(p.add (i * 4)).block, (p.add (i * 4)).off + 2, none⟩ = some (.int .i64 q.to) := by show w.cell? ((p.add (i * 4)).add 2) = _; rw [Go.Deep.add_add]; exact c2
  have d3 : w.cell? ⟨(p.add (i * 4)).block, (p.add (i * 4)).off + 3, none⟩ = some (.int .i64 q.kinds) := by show w.cell? ((p.add (i * 4)).add 3) = _; rw [Go.Deep.add_add]; exact c3
  have B0 : Hid (Below w.heap.size w (w.alloc (.cells #[.int .i64 0, .int .i64 0, .bool false, .slice none 0 0] 29))) := al (Below.refl _ _) _
  have V0 : Hid (Vb (w.alloc (.cells #[.int .i64 0, .int .i64 0, .bool false, .slice none 0 0] 29)) w.heap.size #[.int .i64 0, .int .i64 0, .bool false, .slice none 0 0] 29) := Vb.new _ _ _
  clear hq hfv hgd hok hok2 h1 h2 h3 h4 hb c1 c2 c3
  have c0 := cell_keep B0.out c0
  have d1 := cell_keep B0.out d1
  have d2 := cell_keep B0.out d2
  have d3 := cell_keep B0.out d3
  go_enter Try.func33, Try.ntmps33
  go_wp2_with fail
  generalize w.alloc (.cells #[.int .i64 0, .int .i64 0, .bool false, .slice none 0 0] 29) = W0 at *
  refine (spec_in _ _ _ _).mono ?_
  rintro e w1 ⟨rfl, rfl⟩
  rw [HIN.out]
  have gp : (p.add (i * 4)).block < w1.heap.size := block_of_cell c0
  cases hz : (bits BinOp.and .i64 q.kinds k == 0)
  · have HE : Hid (wpgC q.kinds k = 0) := by show _ = _; unfold wpgC; rw [hk, hz]; rfl
    go_upto_region 8 with (go_at_call 46; refine (hfi _ B0.out).mono ?_; rintro e w2 ⟨rfl, rfl⟩)
    obtain ⟨N, hN⟩ : ∃ N, w2.heap.size = N := ⟨_, rfl⟩
    have V3N : Hid (Vb (w2.alloc (.cells #[.int .i64 q.tag, .int .i64 q.page, .int .i64 q.to, .int .i64 q.kinds] 65)) N #[.int .i64 q.tag, .int .i64 q.page, .int .i64 q.to, .int .i64 q.kinds] 65) := by show Vb _ _ _ _; rw [← hN]; exact Vb.new _ _ _
    have V3 : Hid (Vb (w2.alloc (.cells #[.int .i64 q.tag, .int .i64 q.page, .int .i64 q.to, .int .i64 q.kinds] 65)) w.heap.size #[.int .i64 0, .int .i64 0, .bool false, .slice none 0 0] 29) := V0.out.push _
    have B3 : Hid (Below w.heap.size w (w2.alloc (.cells #[.int .i64 q.tag, .int .i64 q.page, .int .i64 q.to, .int .i64 q.kinds] 65))) := al B0.out _
    have HNR : Hid (N ≠ w.heap.size) := by have := V0.out.lt; show N ≠ _; omega
    rw [hN]
    generalize w2.alloc (.cells #[.int .i64 q.tag, .int .i64 q.page, .int .i64 q.to, .int .i64 q.kinds] 65) = W3 at *
    have WR : Hid (IntKind.i64.wrap (q.to * 8) = q.to * 8 ∧ x.tmod 8 = x % 8 ∧ IntKind.i64.wrap (q.to * 8 + x % 8) = q.to * 8 + x % 8 ∧ IntKind.i64.wrap (x % 8) = x % 8) := ⟨by rw [IntKind.wrap_i64]; omega, Int.tmod_eq_emod_of_nonneg hx0, by rw [IntKind.wrap_i64]; omega, by rw [IntKind.wrap_i64]; omega⟩
    clear hN V0 B0 c0 d1 d2 d3 gp hfi hz
    have SD : Hid (Vb W3.drew N #[.int .i64 q.tag, .int .i64 q.page, .int .i64 q.to, .int .i64 q.kinds] 65 ∧ W3.drew.there w.heap.size 0 4) := ⟨V3N.out.keep (Below.refl _ _).drew, thr4 (V3.out.keep (Below.refl _ _).drew)⟩
    have VR : Hid (Vb W3.drew w.heap.size #[.int .i64 0, .int .i64 0, .bool false, .slice none 0 0] 29) := V3.out.keep (Below.refl _ _).drew
    have BD : Hid (Below w.heap.size w W3.drew) := B3.out.drew
    refine wp_region_held (S := fun w' => Vb w' N #[.int .i64 q.tag, .int .i64 q.page, .int .i64 q.to, .int .i64 q.kinds] 65 ∧ w'.there w.heap.size 0 4) (by kernel_rfl) ?_
    change wpAnyH _ _ _ _ _ _ _ _ (World.drew _)
    generalize W3.drew = v1 at *
    refine wpAnyH_take (i := 0) (v := .pointer (some ⟨N, 2, none⟩)) rfl (by kernel_rfl) (by kernel_rfl) (by kernel_rfl) (fun _ _ _ h => h) (Or.inl ⟨by rfl, fun w' hs => by go_simp⟩) SD.out ?_
    change wpAnyH _ _ _ _ _ _ _ (Act.put _ (some 38) _) _
    simp only [Act.put, List.setIfInBounds_toArray, List.set_cons_zero, List.set_cons_succ]
    refine wpAnyH_take (i := 1) (v := .int .i64 q.to) rfl (by kernel_rfl) (by kernel_rfl) (by kernel_rfl) (fun _ _ _ h => h) (Or.inl ⟨by rfl, fun w' hs => by have hc : w'.cell? ⟨N, 2, none⟩ = some (.int .i64 q.to) := hs.1.cell 2 rfl; go_simp⟩) SD.out ?_
    change wpAnyH _ _ _ _ _ _ _ (Act.put _ (some 39) _) _
    simp only [Act.put, List.setIfInBounds_toArray, List.set_cons_zero, List.set_cons_succ]
    refine wpAnyH_take (i := 2) (v := .int .i64 (q.to * 8)) rfl (by kernel_rfl) (by kernel_rfl) (by kernel_rfl) (fun _ _ _ h => h) (Or.inl ⟨by rfl, fun w' hs => by have h1 := WR.out.1; go_simp⟩) SD.out ?_
    change wpAnyH _ _ _ _ _ _ _ (Act.put _ (some 40) _) _
    simp only [Act.put, List.setIfInBounds_toArray, List.set_cons_zero, List.set_cons_succ]
    refine wpAnyH_take (i := 3) (v := .int .i64 x) rfl (by kernel_rfl) (by kernel_rfl) (by kernel_rfl) (fun _ _ _ h => h) (Or.inl ⟨by rfl, fun w' hs => by go_simp⟩) SD.out ?_
    change wpAnyH _ _ _ _ _ _ _ (Act.put _ (some 41) _) _
    simp only [Act.put, List.setIfInBounds_toArray, List.set_cons_zero, List.set_cons_succ]
    refine wpAnyH_take (i := 4) (v := .int .i64 (x % 8)) rfl (by kernel_rfl) (by kernel_rfl) (by kernel_rfl) (fun _ _ _ h => h) (Or.inl ⟨by rfl, fun w' hs => by have h1 := WR.out.2.1; have h2 := WR.out.2.2.2; go_simp⟩) SD.out ?_
    change wpAnyH _ _ _ _ _ _ _ (Act.put _ (some 42) _) _
    simp only [Act.put, List.setIfInBounds_toArray, List.set_cons_zero, List.set_cons_succ]
    refine wpAnyH_take (i := 5) (v := .int .i64 (q.to * 8 + x % 8)) rfl (by kernel_rfl) (by kernel_rfl) (by kernel_rfl) (fun _ _ _ h => h) (Or.inl ⟨by rfl, fun w' hs => by have h1 := WR.out.2.2.1; go_simp⟩) SD.out ?_
    change wpAnyH _ _ _ _ _ _ _ (Act.put _ (some 43) _) _
    simp only [Act.put, List.setIfInBounds_toArray, List.set_cons_zero, List.set_cons_succ]
    refine wpAnyH_take (i := 7) (v := .slice (some p) len cap) rfl (by kernel_rfl) (by kernel_rfl) (by kernel_rfl) (fun _ _ _ h => h) (Or.inl ⟨by rfl, fun w' hs => by go_simp⟩) SD.out ?_
    change wpAnyH _ _ _ _ _ _ _ (Act.put _ (some 45) _) _
    simp only [Act.put, List.setIfInBounds_toArray, List.set_cons_zero, List.set_cons_succ]
    refine wpAnyH_ready (rs := [6]) (by kernel_rfl) (by simp) ?_
    refine AllReadyH.cons rfl (fun K hK => ?_) AllReadyH.nil
    rw [if_pos (by rfl)]
    go_simp
    obtain ⟨B, hB⟩ : ∃ B, v1.heap.size = B := ⟨_, rfl⟩
    have SE : Hid (Vb (v1.alloc (.cells #[] 65)) N #[.int .i64 q.tag, .int .i64 q.page, .int .i64 q.to, .int .i64 q.kinds] 65 ∧ (v1.alloc (.cells #[] 65)).there w.heap.size 0 4) := ⟨SD.out.1.push _, thr4 (VR.out.push _)⟩
    have VE : Hid (Vb (v1.alloc (.cells #[] 65)) w.heap.size #[.int .i64 0, .int .i64 0, .bool false, .slice none 0 0] 29) := VR.out.push _
    have BE : Hid (Below w.heap.size w (v1.alloc (.cells #[] 65))) := al BD.out _
    have QE : Hid (Qs 65 (v1.alloc (.cells #[] 65)) v1.heap.size (.slice (some ⟨B, 0, none⟩) 0 0) []) := by show Qs _ _ _ _ _; rw [← hB]; exact Qs.empty (Nat.le_refl _)
    have LE : Hid (w.heap.size < v1.heap.size ∧ N < v1.heap.size ∧ v1.heap.size ≤ (v1.alloc (.cells #[] 65)).heap.size ∧ w.heap.size ≤ v1.heap.size) := ⟨VR.out.lt, SD.out.1.lt, by simp, BD.out.size⟩
    rw [hB]
    generalize v1.alloc (.cells #[] 65) = v2 at *
    clear hB
    refine hK.out _ _ SE.out (fun _ => ?_)
    clear hK K SD VR BD
    refine wpAnyH_ready (rs := [8]) (by kernel_rfl) (by simp) ?_
    refine AllReadyH.cons rfl (fun K hK => ?_) AllReadyH.nil
    rw [if_pos (by rfl)]
    refine app_quads (.tmp 44) (.tmp 45) rfl v1.heap.size (.slice (some ⟨B, 0, none⟩) 0 0) [] rfl QE.out p len cap rs rfl (HR.out.stay BE.out) (by have := HLEN.out; simp; omega) LE.out.2.2.1 ?_
    intro lv v3 q3 g3
    obtain ⟨la, lc, hlv, _⟩ := q3.shape
    obtain ⟨ll, hll⟩ : ∃ ll, ([] ++ rs : List Qd).length = ll := ⟨_, rfl⟩
    rw [hll] at hlv
    subst hlv
    have hB := QE.out.lt B rfl
    have S3 : Hid (Vb v3 N #[.int .i64 q.tag, .int .i64 q.page, .int .i64 q.to, .int .i64 q.kinds] 65 ∧ v3.there w.heap.size 0 4) := ⟨SE.out.1.gr g3 (fun e => by have hx : _ = B := Option.some.inj e; have := LE.out; omega), thr4 (VE.out.gr g3 (fun e => by have hx : _ = B := Option.some.inj e; have := LE.out; omega))⟩
    have V4 : Hid (Vb v3 w.heap.size #[.int .i64 0, .int .i64 0, .bool false, .slice none 0 0] 29) := VE.out.gr g3 (fun e => by have hx : _ = B := Option.some.inj e; have := LE.out; omega)
    have B4 : Hid (Below w.heap.size w v3) := BE.out.grown g3 BE.out.size (fun j hj => by have hx : B = j := Option.some.inj hj; have := LE.out; omega)
    change K (Act.put _ (some 46) _) _
    simp only [Act.put, List.setIfInBounds_toArray, List.set_cons_zero, List.set_cons_succ]
    refine hK.out _ _ S3.out (fun _ => ?_)
    clear hK K g3 q3 SE VE BE QE
    refine wpAnyH_take (i := 9) (v := .agg #[.int .i64 0, .int .i64 (q.to * 8 + x % 8), .bool true, .slice la ll lc]) rfl (by kernel_rfl) (by kernel_rfl) (by kernel_rfl) (fun _ _ _ h => h) (Or.inl ⟨by rfl, fun w' hs => by go_simp⟩) S3.out ?_
    change wpAnyH _ _ _ _ _ _ _ (Act.put _ (some 47) _) _
    simp only [Act.put, List.setIfInBounds_toArray, List.set_cons_zero, List.set_cons_succ]
    refine wpAnyH_ready (rs := [10]) (by kernel_rfl) (by simp) ?_
    refine AllReadyH.cons rfl (fun K hK => ?_) AllReadyH.nil
    rw [if_pos (by rfl)]
    refine wp_store_mid 29 (.tmp 10) (.tmp 47) rfl w.heap.size 0 #[.int .i64 0, .int .i64 (q.to * 8 + x % 8), .bool true, .slice la ll lc] rfl rfl S3.out.2 (by kernel_rfl) (by simp [Value.oneCell']) ?_
    change K (Act.put _ none undef) (World.setCells v3 w.heap.size 0 [.int .i64 0, .int .i64 (q.to * 8 + x % 8), .bool true, .slice la ll lc])
    simp only [Act.put]
    have V5 : Hid (Vb (v3.setCells w.heap.size 0 [.int .i64 0, .int .i64 (q.to * 8 + x % 8), .bool true, .slice la ll lc]) w.heap.size #[.int .i64 0, .int .i64 (q.to * 8 + x % 8), .bool true, .slice la ll lc] 29) := (((V4.out.set 0 (.int .i64 0)).set 1 (.int .i64 (q.to * 8 + x % 8))).set 2 (.bool true)).set 3 (.slice la ll lc)
    have S5 : Hid (Vb (v3.setCells w.heap.size 0 [.int .i64 0, .int .i64 (q.to * 8 + x % 8), .bool true, .slice la ll lc]) N #[.int .i64 q.tag, .int .i64 q.page, .int .i64 q.to, .int .i64 q.kinds] 65 ∧ (v3.setCells w.heap.size 0 [.int .i64 0, .int .i64 (q.to * 8 + x % 8), .bool true, .slice la ll lc]).there w.heap.size 0 4) := ⟨(((S3.out.1.put ⟨w.heap.size, 0, none⟩ (.int .i64 0) HNR.out).put ⟨w.heap.size, 1, none⟩ (.int .i64 (q.to * 8 + x % 8)) HNR.out).put ⟨w.heap.size, 2, none⟩ (.bool true) HNR.out).put ⟨w.heap.size, 3, none⟩ (.slice la ll lc) HNR.out, thr4 V5.out⟩
    have B5 : Hid (Below w.heap.size w (v3.setCells w.heap.size 0 [.int .i64 0, .int .i64 (q.to * 8 + x % 8), .bool true, .slice la ll lc])) := (((B4.out.setCell (p := ⟨w.heap.size, 0, none⟩) (Nat.le_refl _) _).setCell (p := ⟨w.heap.size, 1, none⟩) (Nat.le_refl _) _).setCell (p := ⟨w.heap.size, 2, none⟩) (Nat.le_refl _) _).setCell (p := ⟨w.heap.size, 3, none⟩) (Nat.le_refl _) _
    generalize v3.setCells w.heap.size 0 [.int .i64 0, .int .i64 (q.to * 8 + x % 8), .bool true, .slice la ll lc] = v5 at *
    refine hK.out _ _ S5.out (fun _ => ?_)
    clear hK K
    refine wpAnyH_done (by kernel_rfl) ?_ _
    have r0 := V5.out.cell 0 rfl
    have r1 := V5.out.cell 1 rfl
    have r2 := V5.out.cell 2 rfl
    have r3 := V5.out.cell 3 rfl
    go_wp2_with fail
    exact bodyPost_ret (v := .agg #[.int .i64 0, .int .i64 (q.to * 8 + x % 8), .bool true, .slice la ll lc]) (by simp [results, Try.results33, go_sem, r0, r1, r2, r3]) rfl ⟨_, _, _, _, _, by rw [HE.out], B5.out⟩
  · have HE : Hid (wpgC q.kinds k = kindV k) := by show _ = _; unfold wpgC; rw [hk, hz]; rfl
    have hkv := fun u => spec_kindV k u hk
    generalize kindV k = kv at *
    have V3 := V0.out.push (.cells #[.int .i64 q.tag, .int .i64 q.page, .int .i64 q.to, .int .i64 q.kinds] 65)
    have r0 := V3.cell 0 rfl
    have z0 := V3.free 0
    have r1 := V3.cell 1 rfl
    have z1 := V3.free 1
    have r2 := V3.cell 2 rfl
    have z2 := V3.free 2
    have r3 := V3.cell 3 rfl
    have z3 := V3.free 3
    go_wp2_with (first | (go_at_call 46; refine (hfi _ B0.out).mono ?_; rintro e w2 ⟨rfl, rfl⟩) | (go_at_call 48; refine (hkv _).mono ?_; rintro e w4 ⟨rfl, rfl⟩))
    exact bodyPost_ret (v := .agg #[.int .i64 kv, .int .i64 0, .bool false, .slice none 0 0]) (by simp [results, Try.results33, go_sem, r0, r1, r2, r3]) rfl ⟨_, _, _, _, _, by rw [HE.out], ((((al B0.out _).setCell (by simp) _).setCell (by simp) _).setCell (by simp) _).setCell (by simp) _⟩

end Go.Proofs.Ytaajaikpkcgalaa
namespace Go.Proofs.Ytaajaikpkcgalaa
open Go.RowKit
set_option linter.unusedVariables false

set_option maxRecDepth 20000 in
set_option maxHeartbeats 8000000 in
theorem spec_walkMiss (a : Option Addr) (len cap : Nat) (rs : List Qd) (t x k : Int) (g pc : Nat) (ps : List (Int × Int)) (b : Nat) (w : World) (h : IsQuads w a len cap rs) (hP : Prs 51 w b (.slice (some ⟨g, 0, none⟩) 8 pc) ps) (hl : ps.length = 8) (ho : okTo 24 ps 8) (hc : cfV rs = 0) (hk : kindB k = true) (hm : (atB x && hasQ rs t (x / 8)) = false) :
    Calls Try.prog 33 #[.slice a len cap, .int .i64 t, .slice (some ⟨g, 0, none⟩) 8 pc, .int .i64 x, .int .i64 k] w fun e w' => ∃ (y : Int) (z : Bool) (la : Option Addr) (ll lc : Nat), e = .returned (.agg #[.int .i64 (wkC ps x k), .int .i64 y, .bool z, .slice la ll lc]) ∧ Below w.heap.size w w' := by
  have hWk := fun u (z : Below w.heap.size w u) => spec_l4walk (.slice (some ⟨g, 0, none⟩) 8 pc) ps x k b u (hP.keep z) hl ho
  have hfi := fun u (z : Below w.heap.size w u) => spec_find a len cap rs t (x / 8) u (h.stay z)
  have hkv := fun u => spec_kindV k u hk
  have HR : Hid (IsQuads w a len cap rs) := h
  have HC : Hid (cfV rs = 0) := hc
  have HG : Hid (g < w.heap.size) := (hP.lt g rfl).2
  have B0 : Hid (Below w.heap.size w (w.alloc (.cells #[.int .i64 0, .int .i64 0, .bool false, .slice none 0 0] 29))) := al (Below.refl _ _) _
  have V0 : Hid (Vb (w.alloc (.cells #[.int .i64 0, .int .i64 0, .bool false, .slice none 0 0] 29)) w.heap.size #[.int .i64 0, .int .i64 0, .bool false, .slice none 0 0] 29) := Vb.new _ _ _
  have HIN : Hid ((decide (0 ≤ x) && decide (x ≤ 63)) = atB x) := rfl
  cases hb : atB x
  · have hg : goesB ps x k = false := by unfold goesB; unfold atB at hb; rw [hb]; rfl
    have HV : Hid (goesV ps x k = -1) := by show _ = _; simp [goesV, hg]
    have HE : Hid (wkC ps x k = kindV k) := by show _ = _; unfold wkC; rw [hk, hg]; rfl
    rw [HE.out]
    clear hP hl ho hc hm h hfi hg
    generalize kindV k = kv at *
    go_enter Try.func33, Try.ntmps33
    go_wp2_with fail
    generalize w.alloc (.cells #[.int .i64 0, .int .i64 0, .bool false, .slice none 0 0] 29) = W0 at *
    refine (spec_in _ _ _ _).mono ?_
    rintro e w1 ⟨rfl, rfl⟩
    rw [HIN.out, hb]
    go_wp2_with (first | (go_at_call 49; refine (hWk _ B0.out).mono ?_; rintro e w2 ⟨rfl, b2⟩; rw [HV.out]; have V2 := V0.out.keep b2; have B2 : Hid (Below w.heap.size w w2) := on B0.out b2; have r0 := V2.cell 0 rfl; have r1 := V2.cell 1 rfl; have r2 := V2.cell 2 rfl; have r3 := V2.cell 3 rfl; have z0 := V2.free 0; have z1 := V2.free 1; have z2 := V2.free 2; have z3 := V2.free 3; clear b2 V2) | (go_at_call 48; refine (hkv _).mono ?_; rintro e w4 ⟨rfl, rfl⟩))
    exact bodyPost_ret (v := .agg #[.int .i64 kv, .int .i64 0, .bool false, .slice none 0 0]) (by simp [results, Try.results33, go_sem, r0, r1, r2, r3]) rfl ⟨_, _, _, _, _, rfl, (((B2.out.setCell (by simp) _).setCell (by simp) _).setCell (by simp) _).setCell (by simp) _⟩
  have hq : hasQ rs t (x / 8) = false := by rw [hb] at hm; exact hm
  have HFN : Hid (fiV rs t (x / 8) = -1) := fiV_not hq
  have hx2 : 0 ≤ x ∧ x ≤ 63 := by unfold atB at hb; simpa using hb
  obtain ⟨hx0, hx1⟩ := hx2
  cases hg : goesB ps x k
  · have HV : Hid (goesV ps x k = -1) := by show _ = _; simp [goesV, hg]
    have HE : Hid (wkC ps x k = kindV k) := by show _ = _; unfold wkC; rw [hk, hg]; rfl
    rw [HE.out]
    clear hP hl ho hc hm h hg hq
    generalize kindV k = kv at *
    go_enter Try.func33, Try.ntmps33
    go_wp2_with fail
    generalize w.alloc (.cells #[.int .i64 0, .int .i64 0, .bool false, .slice none 0 0] 29) = W0 at *
    refine (spec_in _ _ _ _).mono ?_
    rintro e w1 ⟨rfl, rfl⟩
    rw [HIN.out, hb]
    go_wp2_with (first | (go_at_call 46; refine (hfi _ B0.out).mono ?_; rintro e w5 ⟨rfl, rfl⟩; rw [HFN.out]) | (go_at_call 49; refine (hWk _ B0.out).mono ?_; rintro e w2 ⟨rfl, b2⟩; rw [HV.out]; have V2 := V0.out.keep b2; have B2 : Hid (Below w.heap.size w w2) := on B0.out b2; have r0 := V2.cell 0 rfl; have r1 := V2.cell 1 rfl; have r2 := V2.cell 2 rfl; have r3 := V2.cell 3 rfl; have z0 := V2.free 0; have z1 := V2.free 1; have z2 := V2.free 2; have z3 := V2.free 3; clear b2 V2) | (go_at_call 48; refine (hkv _).mono ?_; rintro e w4 ⟨rfl, rfl⟩))
    exact bodyPost_ret (v := .agg #[.int .i64 kv, .int .i64 0, .bool false, .slice none 0 0]) (by simp [results, Try.results33, go_sem, r0, r1, r2, r3]) rfl ⟨_, _, _, _, _, rfl, (((B2.out.setCell (by simp) _).setCell (by simp) _).setCell (by simp) _).setCell (by simp) _⟩
  have HE : Hid (wkC ps x k = 0) := by show _ = _; unfold wkC; rw [hk, hg]; rfl
  have hgi := goes_in ho hg
  obtain ⟨yv, hyv⟩ : ∃ yv, goesV ps x k = yv := ⟨_, rfl⟩
  have hy0 : 0 ≤ yv := by
    rw [← hyv]
    unfold goesV goesTo
    rw [hg, if_pos rfl]
    have := hgi.2.2.1
    omega
  have hyn : ¬ yv < 0 := by omega
  have HV : Hid (goesV ps x k = yv) := hyv
  have HPL : Hid (Prs 51 w b (.slice (some ⟨g, 0, none⟩) 8 pc) ps ∧ ps.length = 8) := ⟨hP, hl⟩
  clear hP hl ho hc hm h hg hq hgi hyv hkv
  go_enter Try.func33, Try.ntmps33
  go_wp2_with fail
  generalize w.alloc (.cells #[.int .i64 0, .int .i64 0, .bool false, .slice none 0 0] 29) = W0 at *
  refine (spec_in _ _ _ _).mono ?_
  rintro e w1 ⟨rfl, rfl⟩
  rw [HIN.out, hb]
  go_upto_region 13 with (first | (go_at_call 46; refine (hfi _ B0.out).mono ?_; rintro e w5 ⟨rfl, rfl⟩; rw [HFN.out]) | (go_at_call 49; refine (hWk _ B0.out).mono ?_; rintro e w2 ⟨rfl, b2⟩; rw [HV.out]; have V3 : Hid (Vb w2 w.heap.size #[.int .i64 0, .int .i64 0, .bool false, .slice none 0 0] 29) := V0.out.keep b2; have B3 : Hid (Below w.heap.size w w2) := on B0.out b2; clear b2))
  obtain ⟨i, hi⟩ : ∃ i : Nat, x / 8 = (i : Int) := Int.eq_ofNat_of_zero_le (by omega)
  have hi8 : (i : Int) < 8 := by omega
  have hi8' : i < 8 := by omega
  have HCL : Hid (w.cell? ⟨g, i * 2, none⟩ = some (.int .i64 (ps.getD i (0, 0)).1) ∧ w.cell? ⟨g, i * 2 + 1, none⟩ = some (.int .i64 (ps.getD i (0, 0)).2)) := HPL.out.1.cell HPL.out.2.symm i hi8'
  generalize (ps.getD i (0, 0)).1 = pt at *
  generalize (ps.getD i (0, 0)).2 = kd at *
  rw [hi]
  clear hi hx0 hx1 hb hk hy0 hyn HPL
  generalize w2 = W3 at *
  have c0 := cell_keep B3.out HCL.out.1
  have c1 := cell_keep B3.out HCL.out.2
  clear hWk hfi V0 B0
  have SD : Hid ((W3.drew.cell? ⟨g, i * 2, none⟩ = some (.int .i64 pt) ∧ W3.drew.cell? ⟨g, i * 2 + 1, none⟩ = some (.int .i64 kd)) ∧ W3.drew.there w.heap.size 0 4) := ⟨⟨c0, c1⟩, thr4 (V3.out.keep (Below.refl _ _).drew)⟩
  have VR : Hid (Vb W3.drew w.heap.size #[.int .i64 0, .int .i64 0, .bool false, .slice none 0 0] 29) := V3.out.keep (Below.refl _ _).drew
  have BD : Hid (Below w.heap.size w W3.drew) := B3.out.drew
  refine wp_region_held (S := fun w' => (w'.cell? ⟨g, i * 2, none⟩ = some (.int .i64 pt) ∧ w'.cell? ⟨g, i * 2 + 1, none⟩ = some (.int .i64 kd)) ∧ w'.there w.heap.size 0 4) (by kernel_rfl) ?_
  change wpAnyH _ _ _ _ _ _ _ _ (World.drew _)
  generalize W3.drew = v1 at *
  refine wpAnyH_take (i := 0) (v := .int .i64 yv) rfl (by kernel_rfl) (by kernel_rfl) (by kernel_rfl) (fun _ _ _ h => h) (Or.inl ⟨by rfl, fun w' hs => by go_simp⟩) SD.out ?_
  change wpAnyH _ _ _ _ _ _ _ (Act.put _ (some 59) _) _
  simp only [Act.put, List.setIfInBounds_toArray, List.set_cons_zero, List.set_cons_succ]
  refine wpAnyH_take (i := 1) (v := .slice a len cap) rfl (by kernel_rfl) (by kernel_rfl) (by kernel_rfl) (fun _ _ _ h => h) (Or.inl ⟨by rfl, fun w' hs => by go_simp⟩) SD.out ?_
  change wpAnyH _ _ _ _ _ _ _ (Act.put _ (some 60) _) _
  simp only [Act.put, List.setIfInBounds_toArray, List.set_cons_zero, List.set_cons_succ]
  refine wpAnyH_take (i := 2) (v := .int .i64 t) rfl (by kernel_rfl) (by kernel_rfl) (by kernel_rfl) (fun _ _ _ h => h) (Or.inl ⟨by rfl, fun w' hs => by go_simp⟩) SD.out ?_
  change wpAnyH _ _ _ _ _ _ _ (Act.put _ (some 61) _) _
  simp only [Act.put, List.setIfInBounds_toArray, List.set_cons_zero, List.set_cons_succ]
  refine wpAnyH_take (i := 3) (v := .int .i64 (i : Int)) rfl (by kernel_rfl) (by kernel_rfl) (by kernel_rfl) (fun _ _ _ h => h) (Or.inl ⟨by rfl, fun w' hs => by go_simp⟩) SD.out ?_
  change wpAnyH _ _ _ _ _ _ _ (Act.put _ (some 62) _) _
  simp only [Act.put, List.setIfInBounds_toArray, List.set_cons_zero, List.set_cons_succ]
  refine wpAnyH_take (i := 4) (v := .slice (some ⟨g, 0, none⟩) 8 pc) rfl (by kernel_rfl) (by kernel_rfl) (by kernel_rfl) (fun _ _ _ h => h) (Or.inl ⟨by rfl, fun w' hs => by go_simp⟩) SD.out ?_
  change wpAnyH _ _ _ _ _ _ _ (Act.put _ (some 63) _) _
  simp only [Act.put, List.setIfInBounds_toArray, List.set_cons_zero, List.set_cons_succ]
  refine wpAnyH_take (i := 5) (v := .int .i64 (i : Int)) rfl (by kernel_rfl) (by kernel_rfl) (by kernel_rfl) (fun _ _ _ h => h) (Or.inl ⟨by rfl, fun w' hs => by go_simp⟩) SD.out ?_
  change wpAnyH _ _ _ _ _ _ _ (Act.put _ (some 64) _) _
  simp only [Act.put, List.setIfInBounds_toArray, List.set_cons_zero, List.set_cons_succ]
  refine wpAnyH_take (i := 6) (v := .pointer (some ⟨g, i * 2, none⟩)) rfl (by kernel_rfl) (by kernel_rfl) (by kernel_rfl) (fun _ _ _ h => h) (Or.inl ⟨by rfl, fun w' hs => by have h1 := hi8; have h2 := hi8'; go_simp⟩) SD.out ?_
  change wpAnyH _ _ _ _ _ _ _ (Act.put _ (some 65) _) _
  simp only [Act.put, List.setIfInBounds_toArray, List.set_cons_zero, List.set_cons_succ]
  refine wpAnyH_take (i := 7) (v := .pointer (some ⟨g, i * 2, none⟩)) rfl (by kernel_rfl) (by kernel_rfl) (by kernel_rfl) (fun _ _ _ h => h) (Or.inl ⟨by rfl, fun w' hs => by go_simp⟩) SD.out ?_
  change wpAnyH _ _ _ _ _ _ _ (Act.put _ (some 66) _) _
  simp only [Act.put, List.setIfInBounds_toArray, List.set_cons_zero, List.set_cons_succ]
  refine wpAnyH_take (i := 8) (v := .int .i64 pt) rfl (by kernel_rfl) (by kernel_rfl) (by kernel_rfl) (fun _ _ _ h => h) (Or.inl ⟨by rfl, fun w' hs => by have hc := hs.1.1; go_simp⟩) SD.out ?_
  change wpAnyH _ _ _ _ _ _ _ (Act.put _ (some 67) _) _
  simp only [Act.put, List.setIfInBounds_toArray, List.set_cons_zero, List.set_cons_succ]
  refine wpAnyH_take (i := 9) (v := .slice (some ⟨g, 0, none⟩) 8 pc) rfl (by kernel_rfl) (by kernel_rfl) (by kernel_rfl) (fun _ _ _ h => h) (Or.inl ⟨by rfl, fun w' hs => by go_simp⟩) SD.out ?_
  change wpAnyH _ _ _ _ _ _ _ (Act.put _ (some 68) _) _
  simp only [Act.put, List.setIfInBounds_toArray, List.set_cons_zero, List.set_cons_succ]
  refine wpAnyH_take (i := 10) (v := .int .i64 (i : Int)) rfl (by kernel_rfl) (by kernel_rfl) (by kernel_rfl) (fun _ _ _ h => h) (Or.inl ⟨by rfl, fun w' hs => by go_simp⟩) SD.out ?_
  change wpAnyH _ _ _ _ _ _ _ (Act.put _ (some 69) _) _
  simp only [Act.put, List.setIfInBounds_toArray, List.set_cons_zero, List.set_cons_succ]
  refine wpAnyH_take (i := 11) (v := .pointer (some ⟨g, i * 2, none⟩)) rfl (by kernel_rfl) (by kernel_rfl) (by kernel_rfl) (fun _ _ _ h => h) (Or.inl ⟨by rfl, fun w' hs => by have h1 := hi8; have h2 := hi8'; go_simp⟩) SD.out ?_
  change wpAnyH _ _ _ _ _ _ _ (Act.put _ (some 70) _) _
  simp only [Act.put, List.setIfInBounds_toArray, List.set_cons_zero, List.set_cons_succ]
  refine wpAnyH_take (i := 12) (v := .pointer (some ⟨g, i * 2 + 1, none⟩)) rfl (by kernel_rfl) (by kernel_rfl) (by kernel_rfl) (fun _ _ _ h => h) (Or.inl ⟨by rfl, fun w' hs => by go_simp⟩) SD.out ?_
  change wpAnyH _ _ _ _ _ _ _ (Act.put _ (some 71) _) _
  simp only [Act.put, List.setIfInBounds_toArray, List.set_cons_zero, List.set_cons_succ]
  refine wpAnyH_take (i := 13) (v := .int .i64 kd) rfl (by kernel_rfl) (by kernel_rfl) (by kernel_rfl) (fun _ _ _ h => h) (Or.inl ⟨by rfl, fun w' hs => by have hc := hs.1.2; go_simp⟩) SD.out ?_
  change wpAnyH _ _ _ _ _ _ _ (Act.put _ (some 72) _) _
  simp only [Act.put, List.setIfInBounds_toArray, List.set_cons_zero, List.set_cons_succ]
  refine wpAnyH_take (i := 14) (v := .agg #[.int .i64 t, .int .i64 (i : Int), .int .i64 pt, .int .i64 kd]) rfl (by kernel_rfl) (by kernel_rfl) (by kernel_rfl) (fun _ _ _ h => h) (Or.inl ⟨by rfl, fun w' hs => by go_simp⟩) SD.out ?_
  change wpAnyH _ _ _ _ _ _ _ (Act.put _ (some 73) _) _
  simp only [Act.put, List.setIfInBounds_toArray, List.set_cons_zero, List.set_cons_succ]
  refine wpAnyH_ready (rs := [15]) (by kernel_rfl) (by simp) ?_
  refine AllReadyH.cons rfl (fun K hK => ?_) AllReadyH.nil
  rw [if_pos (by rfl)]
  go_simp
  refine (spec_fill a len cap rs ⟨t, i, pt, kd⟩ v1 (HR.out.stay BD.out) HC.out).mono ?_
  rintro e v2 ⟨lv, rfl, q2, b2⟩
  obtain ⟨la, lc, hlv, _⟩ := q2.shape
  obtain ⟨ll, hll⟩ : ∃ ll, (fillQ rs ⟨t, i, pt, kd⟩).length = ll := ⟨_, rfl⟩
  rw [hll] at hlv
  subst hlv
  have S2 : Hid ((v2.cell? ⟨g, i * 2, none⟩ = some (.int .i64 pt) ∧ v2.cell? ⟨g, i * 2 + 1, none⟩ = some (.int .i64 kd)) ∧ v2.there w.heap.size 0 4) := ⟨⟨cell_keep b2 SD.out.1.1, cell_keep b2 SD.out.1.2⟩, thr4 (VR.out.keep b2)⟩
  have V2 : Hid (Vb v2 w.heap.size #[.int .i64 0, .int .i64 0, .bool false, .slice none 0 0] 29) := VR.out.keep b2
  have B2 : Hid (Below w.heap.size w v2) := on BD.out b2
  refine hK.out _ _ S2.out (fun _ => ?_)
  clear hK K b2 q2 hll SD BD VR
  refine wpAnyH_take (i := 16) (v := .agg #[.int .i64 0, .int .i64 yv, .bool false, .slice la ll lc]) rfl (by kernel_rfl) (by kernel_rfl) (by kernel_rfl) (fun _ _ _ h => h) (Or.inl ⟨by rfl, fun w' hs => by go_simp⟩) S2.out ?_
  change wpAnyH _ _ _ _ _ _ _ (Act.put _ (some 75) _) _
  simp only [Act.put, List.setIfInBounds_toArray, List.set_cons_zero, List.set_cons_succ]
  refine wpAnyH_ready (rs := [17]) (by kernel_rfl) (by simp) ?_
  refine AllReadyH.cons rfl (fun K hK => ?_) AllReadyH.nil
  rw [if_pos (by rfl)]
  refine wp_store_mid 29 (.tmp 10) (.tmp 75) rfl w.heap.size 0 #[.int .i64 0, .int .i64 yv, .bool false, .slice la ll lc] rfl rfl S2.out.2 (by kernel_rfl) (by simp [Value.oneCell']) ?_
  change K (Act.put _ none undef) (World.setCells v2 w.heap.size 0 [.int .i64 0, .int .i64 yv, .bool false, .slice la ll lc])
  simp only [Act.put]
  have V5 : Hid (Vb (v2.setCells w.heap.size 0 [.int .i64 0, .int .i64 yv, .bool false, .slice la ll lc]) w.heap.size #[.int .i64 0, .int .i64 yv, .bool false, .slice la ll lc] 29) := (((V2.out.set 0 (.int .i64 0)).set 1 (.int .i64 yv)).set 2 (.bool false)).set 3 (.slice la ll lc)
  have gne : ∀ o : Nat, g ≠ (⟨w.heap.size, o, none⟩ : Addr).block := fun o => by have := HG.out; show g ≠ w.heap.size; omega
  have kp : ∀ (u : World) (j : Nat) (z : Value) (n : Nat) (y : Value), u.cell? ⟨g, j, none⟩ = some z → (u.setCell ⟨w.heap.size, n, none⟩ y).cell? ⟨g, j, none⟩ = some z := fun u j z n y hh => by rw [World.cell?_of_block (w := u) (heap_setCell_other u _ g y (gne n))]; exact hh
  have S5 : Hid (((v2.setCells w.heap.size 0 [.int .i64 0, .int .i64 yv, .bool false, .slice la ll lc]).cell? ⟨g, i * 2, none⟩ = some (.int .i64 pt) ∧ (v2.setCells w.heap.size 0 [.int .i64 0, .int .i64 yv, .bool false, .slice la ll lc]).cell? ⟨g, i * 2 + 1, none⟩ = some (.int .i64 kd)) ∧ (v2.setCells w.heap.size 0 [.int .i64 0, .int .i64 yv, .bool false, .slice la ll lc]).there w.heap.size 0 4) := ⟨⟨kp _ _ _ 3 _ (kp _ _ _ 2 _ (kp _ _ _ 1 _ (kp _ _ _ 0 _ S2.out.1.1))), kp _ _ _ 3 _ (kp _ _ _ 2 _ (kp _ _ _ 1 _ (kp _ _ _ 0 _ S2.out.1.2)))⟩, thr4 V5.out⟩
  have B5 : Hid (Below w.heap.size w (v2.setCells w.heap.size 0 [.int .i64 0, .int .i64 yv, .bool false, .slice la ll lc])) := (((B2.out.setCell (p := ⟨w.heap.size, 0, none⟩) (Nat.le_refl _) _).setCell (p := ⟨w.heap.size, 1, none⟩) (Nat.le_refl _) _).setCell (p := ⟨w.heap.size, 2, none⟩) (Nat.le_refl _) _).setCell (p := ⟨w.heap.size, 3, none⟩) (Nat.le_refl _) _
  generalize v2.setCells w.heap.size 0 [.int .i64 0, .int .i64 yv, .bool false, .slice la ll lc] = v5 at *
  refine hK.out _ _ S5.out (fun _ => ?_)
  clear hK K kp gne
  refine wpAnyH_done (by kernel_rfl) ?_ _
  have r0 := V5.out.cell 0 rfl
  have r1 := V5.out.cell 1 rfl
  have r2 := V5.out.cell 2 rfl
  have r3 := V5.out.cell 3 rfl
  go_wp2_with fail
  exact bodyPost_ret (v := .agg #[.int .i64 0, .int .i64 yv, .bool false, .slice la ll lc]) (by simp [results, Try.results33, go_sem, r0, r1, r2, r3]) rfl ⟨_, _, _, _, _, by rw [HE.out], B5.out⟩

/-- The code of a walk with a right cache. -/
def wcC (rs : List Qd) (t : Int) (ps : List (Int × Int)) (x k : Int) : Int := if (atB x && hasQ rs t (x / 8)) = true then wpgC (fnd (trn rs) t (x / 8)).2.kinds k else wkC ps x k
set_option maxHeartbeats 2000000 in
theorem spec_walkBad (a : Option Addr) (len cap : Nat) (rs : List Qd) (t x k pf : Int) (pa : Option Addr) (pn pc : Nat) (w : World) (h : IsQuads w a len cap rs)
    (hG : ∀ u, Below w.heap.size w u → Calls Try.prog 8 #[.slice pa pn pc, .int .i64 24] u fun e w' => e = .returned (.int .i64 pf) ∧ w' = u) (hx : ¬ wcX rs t pf k = 0) :
    Calls Try.prog 11 #[.slice a len cap, .int .i64 t, .slice pa pn pc, .int .i64 x, .int .i64 k] w fun e w' => ∃ (y : Int) (z : Bool) (la : Option Addr) (ll lc : Nat), e = .returned (.agg #[.int .i64 (wcX rs t pf k), .int .i64 y, .bool z, .slice la ll lc]) ∧ Below w.heap.size w w' := by
  have B0 : Hid (Below w.heap.size w (w.alloc (.cells #[.int .i64 0, .int .i64 0, .bool false, .slice none 0 0] 29))) := al (Below.refl _ _) _
  have V0 : Hid (Vb (w.alloc (.cells #[.int .i64 0, .int .i64 0, .bool false, .slice none 0 0] 29)) w.heap.size #[.int .i64 0, .int .i64 0, .bool false, .slice none 0 0] 29) := Vb.new _ _ _
  have hA := fun u (z : Below w.heap.size w u) => spec_asked a len cap rs t k pf pa pn pc u (h.stay z) (fun u' z' => hG u' (on z z'))
  have hx2 : (wcX rs t pf k != 0) = true := by simpa using hx
  clear h hG hx
  generalize wcX rs t pf k = c at *
  go_enter Try.func11, Try.ntmps11
  go_wp2_with fail
  generalize w.alloc (.cells #[.int .i64 0, .int .i64 0, .bool false, .slice none 0 0] 29) = W0 at *
  refine (hA _ B0.out).mono ?_
  rintro e w1 ⟨rfl, b1⟩
  have V1 := V0.out.keep b1
  have B1 : Hid (Below w.heap.size w w1) := on B0.out b1
  have r0 := V1.cell 0 rfl
  have z0 := V1.free 0
  have r1 := V1.cell 1 rfl
  have z1 := V1.free 1
  have r2 := V1.cell 2 rfl
  have z2 := V1.free 2
  have r3 := V1.cell 3 rfl
  have z3 := V1.free 3
  clear b1 V1
  go_wp2_with fail
  exact bodyPost_ret (v := .agg #[.int .i64 c, .int .i64 0, .bool false, .slice none 0 0]) (by simp [results, Try.results11, go_sem, r0, r1, r2, r3]) rfl ⟨_, _, _, _, _, rfl, (((B1.out.setCell (by simp) _).setCell (by simp) _).setCell (by simp) _).setCell (by simp) _⟩
set_option maxHeartbeats 2000000 in
theorem spec_walkGood (a : Option Addr) (len cap : Nat) (rs : List Qd) (t x k pf : Int) (g pc : Nat) (ps : List (Int × Int)) (b : Nat) (w : World) (h : IsQuads w a len cap rs) (hP : Prs 51 w b (.slice (some ⟨g, 0, none⟩) 8 pc) ps) (hl : ps.length = 8) (ho : okTo 24 ps 8)
    (hG : ∀ u, Below w.heap.size w u → Calls Try.prog 8 #[.slice (some ⟨g, 0, none⟩) 8 pc, .int .i64 24] u fun e w' => e = .returned (.int .i64 pf) ∧ w' = u) (hx : wcX rs t pf k = 0) :
    Calls Try.prog 11 #[.slice a len cap, .int .i64 t, .slice (some ⟨g, 0, none⟩) 8 pc, .int .i64 x, .int .i64 k] w fun e w' => ∃ (y : Int) (z : Bool) (la : Option Addr) (ll lc : Nat), e = .returned (.agg #[.int .i64 (wcC rs t ps x k), .int .i64 y, .bool z, .slice la ll lc]) ∧ Below w.heap.size w w' := by
  have B0 : Hid (Below w.heap.size w (w.alloc (.cells #[.int .i64 0, .int .i64 0, .bool false, .slice none 0 0] 29))) := al (Below.refl _ _) _
  have V0 : Hid (Vb (w.alloc (.cells #[.int .i64 0, .int .i64 0, .bool false, .slice none 0 0] 29)) w.heap.size #[.int .i64 0, .int .i64 0, .bool false, .slice none 0 0] 29) := Vb.new _ _ _
  have hA := fun u (z : Below w.heap.size w u) => spec_asked a len cap rs t k pf (some ⟨g, 0, none⟩) 8 pc u (h.stay z) (fun u' z' => hG u' (on z z'))
  have hc : cfV rs = 0 := by
    by_cases hc : cfV rs = 0
    · exact hc
    · rw [wcX, if_neg hc] at hx; exact absurd hx hc
  have hX := hx
  rw [wcX, if_pos hc] at hx
  have hk := (wfX_zero hx).2.2
  have hW : ∀ u, Below w.heap.size w u → Calls Try.prog 33 #[.slice a len cap, .int .i64 t, .slice (some ⟨g, 0, none⟩) 8 pc, .int .i64 x, .int .i64 k] u fun e w' => ∃ (y : Int) (z : Bool) (la : Option Addr) (ll lc : Nat), e = .returned (.agg #[.int .i64 (wcC rs t ps x k), .int .i64 y, .bool z, .slice la ll lc]) ∧ Below u.heap.size u w' := fun u z => by
    unfold wcC
    cases hm : (atB x && hasQ rs t (x / 8))
    · exact spec_walkMiss a len cap rs t x k g pc ps b u (h.stay z) (hP.keep z) hl ho hc hk hm
    · rw [Bool.and_eq_true] at hm
      exact spec_walkHit a len cap rs t x k (some ⟨g, 0, none⟩) 8 pc u (h.stay z) hc hk hm.1 hm.2
  rw [hX] at hA
  clear h hG hx hX hP hl ho hc hk
  generalize wcC rs t ps x k = c at *
  go_enter Try.func11, Try.ntmps11
  go_wp2_with fail
  generalize w.alloc (.cells #[.int .i64 0, .int .i64 0, .bool false, .slice none 0 0] 29) = W0 at *
  refine (hA _ B0.out).mono ?_
  rintro e w1 ⟨rfl, b1⟩
  have V1 : Hid (Vb w1 w.heap.size #[.int .i64 0, .int .i64 0, .bool false, .slice none 0 0] 29) := V0.out.keep b1
  have B1 : Hid (Below w.heap.size w w1) := on B0.out b1
  clear b1 hA
  go_wp2_with fail
  refine (hW _ B1.out).mono ?_
  rintro e w2 ⟨y, z, la, ll, lc, rfl, b2⟩
  have V2 := V1.out.keep b2
  have B2 : Hid (Below w.heap.size w w2) := on B1.out b2
  have r0 := V2.cell 0 rfl
  have z0 := V2.free 0
  have r1 := V2.cell 1 rfl
  have z1 := V2.free 1
  have r2 := V2.cell 2 rfl
  have z2 := V2.free 2
  have r3 := V2.cell 3 rfl
  have z3 := V2.free 3
  clear b2 V2
  go_wp2_with fail
  exact bodyPost_ret (v := .agg #[.int .i64 c, .int .i64 y, .bool z, .slice la ll lc]) (by simp [results, Try.results11, go_sem, r0, r1, r2, r3]) rfl ⟨_, _, _, _, _, rfl, (((B2.out.setCell (by simp) _).setCell (by simp) _).setCell (by simp) _).setCell (by simp) _⟩
end Go.Proofs.Ytaajaikpkcgalaa
namespace Go.Proofs.Ytaajaikpkcgalaa
open Go.RowKit
set_option linter.unusedVariables false

theorem fit_parts {rs : List Qd} {t : Int} {ps : List (Int × Int)} (h : fitV rs t ps = true) : cfV rs = 0 ∧ pgsV ps 24 = 0 ∧ ∀ q ∈ rs, fitG ps t q = true := by
  unfold fitV at h
  simp only [Bool.and_eq_true, decide_eq_true_eq, List.all_eq_true] at h
  exact ⟨h.1, h.2.1, h.2.2⟩
theorem fit_make {rs : List Qd} {t : Int} {ps : List (Int × Int)} (h0 : cfV rs = 0) (h1 : pgsV ps 24 = 0) (h2 : ∀ q ∈ rs, fitG ps t q = true) : fitV rs t ps = true := by
  unfold fitV
  simp only [Bool.and_eq_true, decide_eq_true_eq, List.all_eq_true]
  exact ⟨h0, h1, h2⟩
/-- A walk by what the list itself says of the page. -/
theorem wk_page {ps : List (Int × Int)} {x : Int} (k : Int) (hb : atB x = true) : wkC ps x k = wpgC (ps.getD (x / 8).toNat (0, 0)).2 k ∧ wkV ps x k = wpgV (ps.getD (x / 8).toNat (0, 0)).1 (ps.getD (x / 8).toNat (0, 0)).2 x k := by
  have hg : goesB ps x k = !(bits BinOp.and .i64 (ps.getD (x / 8).toNat (0, 0)).2 k == 0) := by
    unfold goesB
    unfold atB at hb
    rw [hb]
    rfl
  have hV : goesTo ps x = (ps.getD (x / 8).toNat (0, 0)).1 * 8 + x % 8 := rfl
  constructor
  · unfold wkC wpgC; rw [hg]
    cases kindB k <;> cases (bits BinOp.and .i64 (ps.getD (x / 8).toNat (0, 0)).2 k == 0) <;> rfl
  · unfold wkV wpgV; rw [hg, hV]
    cases kindB k <;> cases (bits BinOp.and .i64 (ps.getD (x / 8).toNat (0, 0)).2 k == 0) <;> rfl
theorem fit_hit {rs : List Qd} {t p : Int} {ps : List (Int × Int)} (h : fitV rs t ps = true) (hq : hasQ rs t p = true) : (fnd (trn rs) t p).2.to = (ps.getD p.toNat (0, 0)).1 ∧ (fnd (trn rs) t p).2.kinds = (ps.getD p.toNat (0, 0)).2 := by
  obtain ⟨h0, h1, h2⟩ := fit_parts h
  obtain ⟨i, hi, _, hg, _, ht, hp⟩ := fnd_at h0 hq
  have hm : (fnd (trn rs) t p).2 ∈ rs := by rw [← hg]; exact getD_mem hi
  have := h2 _ hm
  unfold fitG at this
  rw [ht, hp] at this
  simp at this
  exact ⟨this.1.symm, this.2.symm⟩
/-- With a cache that fits, a hit tells what walking tells. -/
theorem fit_walk {rs : List Qd} {t x : Int} {ps : List (Int × Int)} (k : Int) (h : fitV rs t ps = true) (hb : atB x = true) (hq : hasQ rs t (x / 8) = true) :
    wpgC (fnd (trn rs) t (x / 8)).2.kinds k = wkC ps x k ∧ wpgV (fnd (trn rs) t (x / 8)).2.to (fnd (trn rs) t (x / 8)).2.kinds x k = wkV ps x k := by
  obtain ⟨e1, e2⟩ := fit_hit h hq
  rw [e1, e2]
  exact ⟨(wk_page k hb).1.symm, (wk_page k hb).2.symm⟩
/-- What is filled in out of the list fits, and is there. -/
theorem fit_fill {rs : List Qd} {t : Int} {ps : List (Int × Int)} (h : fitV rs t ps = true) {i : Nat} (hq : okQ ⟨t, i, (ps.getD i (0, 0)).1, (ps.getD i (0, 0)).2⟩ = true) :
    fitV (fillQ rs ⟨t, i, (ps.getD i (0, 0)).1, (ps.getD i (0, 0)).2⟩) t ps = true ∧ hasQ (fillQ rs ⟨t, i, (ps.getD i (0, 0)).1, (ps.getD i (0, 0)).2⟩) t i = true := by
  obtain ⟨h0, h1, h2⟩ := fit_parts h
  have hf := fill_ok h0 hq
  refine ⟨fit_make hf.1 h1 (fun q hm => ?_), (hasQ_iff _ _ _).2 ⟨_, hf.2.2.1, rfl, rfl⟩⟩
  unfold fillQ at hm
  rcases List.mem_append.1 hm with hm | hm
  · exact h2 q ((stay_sub rs _).subset hm)
  · rw [List.mem_singleton] at hm
    subst hm
    unfold fitG
    simp
/-- What is flushed fits. -/
theorem fit_flush {rs : List Qd} {t : Int} {ps : List (Int × Int)} (h : flC rs t = 0) (h1 : pgsV ps 24 = 0) : fitV (flL rs t) t ps = true := by
  have hc : cfV rs = 0 := by
    unfold flC at h
    split at h
    · assumption
    · exact h
  have ht : tagB t = true := by
    unfold flC at h
    rw [if_pos hc] at h
    cases ht : tagB t
    · rw [ht] at h; simp at h
    · rfl
  refine fit_make (flush_not hc ht 0).2.1 h1 (fun q hm => ?_)
  unfold flL at hm
  rw [if_pos h] at hm
  have := (List.mem_filter.1 hm).2
  unfold notTag at this
  unfold fitG
  rw [this]
  rfl
end Go.Proofs.Ytaajaikpkcgalaa
namespace Go.Proofs.Ytaajaikpkcgalaa
open Go.RowKit
set_option linter.unusedVariables false

set_option maxRecDepth 100000 in
set_option maxHeartbeats 2000000 in
theorem impl_fitsBad (a : Option Addr) (len cap : Nat) (rs : List Qd) (t pf : Int) (pa : Option Addr) (pn pc : Nat) (w : World) (h : IsQuads w a len cap rs)
    (hG : ∀ u, Below w.heap.size w u → Calls Try.prog 30 #[.slice pa pn pc, .int .i64 24] u fun e w' => e = .returned (.int .i64 pf) ∧ Below u.heap.size u w') (hp : ¬ pf = 0) :
    Calls Try.prog 9 #[.slice a len cap, .int .i64 t, .slice pa pn pc] w fun e w' => e = .returned (.bool false) ∧ Below w.heap.size w w' := by
  have hF := impl_storeOf a len cap rs w h
  clear h
  by_cases hc : cfV rs = 0
  case neg =>
    have g : (cfV rs != 0) = true := by simpa using hc
    clear hc hG hp
    generalize cfV rs = c at *
    go_enter Try.func9, Try.ntmps9
    go_wp2_with (go_at_call 20; refine hF.mono ?_; rintro e w1 ⟨v, rfl, b1, _, _⟩)
    go_ret
    exact ⟨rfl, b1⟩
  have HC : Hid (cfV rs = 0) := hc
  have g : (pf != 0) = true := by simpa using hp
  clear hp hc
  go_enter Try.func9, Try.ntmps9
  go_wp2_with (first | (go_at_call 20; refine hF.mono ?_; rintro e w1 ⟨v, rfl, b1, _, _⟩; rw [HC.out]) | (go_at_call 30; refine (hG _ b1).mono ?_; rintro e w2 ⟨rfl, b2⟩))
  go_ret
  exact ⟨rfl, on b1 b2⟩

set_option maxRecDepth 100000 in
set_option maxHeartbeats 2000000 in
theorem spec_fitsBad (a : Option Addr) (len cap : Nat) (rs : List Qd) (t pf : Int) (pa : Option Addr) (pn pc : Nat) (w : World) (h : IsQuads w a len cap rs)
    (hG : ∀ u, Below w.heap.size w u → Calls Try.prog 8 #[.slice pa pn pc, .int .i64 24] u fun e w' => e = .returned (.int .i64 pf) ∧ w' = u) (hp : ¬ pf = 0) :
    Calls Try.prog 10 #[.slice a len cap, .int .i64 t, .slice pa pn pc] w fun e w' => e = .returned (.bool false) ∧ Below w.heap.size w w' := by
  have hF := spec_cacheFault a len cap rs w h
  clear h
  by_cases hc : cfV rs = 0
  case neg =>
    have g : (cfV rs != 0) = true := by simpa using hc
    clear hc hG hp
    generalize cfV rs = c at *
    go_enter Try.func10, Try.ntmps10
    go_wp2_with (go_at_call 31; refine hF.mono ?_; rintro e w1 ⟨rfl, b1⟩)
    go_ret
    exact ⟨rfl, b1⟩
  have HC : Hid (cfV rs = 0) := hc
  have g : (pf != 0) = true := by simpa using hp
  clear hp hc
  go_enter Try.func10, Try.ntmps10
  go_wp2_with (first | (go_at_call 31; refine hF.mono ?_; rintro e w1 ⟨rfl, b1⟩; rw [HC.out]) | (go_at_call 8; refine (hG _ b1).mono ?_; rintro e w2 ⟨rfl, rfl⟩))
  go_ret
  exact ⟨rfl, b1⟩
end Go.Proofs.Ytaajaikpkcgalaa
namespace Go.Proofs.Ytaajaikpkcgalaa
open Go.RowKit
set_option linter.unusedVariables false

/-- The code of a walk. -/
def cV (rs : List Qd) (t pf : Int) (ps : List (Int × Int)) (x k : Int) : Int := if wcX rs t pf k = 0 then wcC rs t ps x k else wcX rs t pf k
def fitX (rs : List Qd) (t pf : Int) (ps : List (Int × Int)) : Bool := decide (pf = 0) && fitV rs t ps
/-- A list of pages that was drawn: its fault, and its pages where it has none. -/
structure Lp (w : World) (b : Nat) (pa : Option Addr) (pn pc : Nat) (pf : Int) (ps : List (Int × Int)) : Prop where
  flt : Flt w (.slice pa pn pc) 24 pf
  good : pf = 0 → (∃ g, pa = some ⟨g, 0, none⟩) ∧ pn = 8 ∧ Prs 51 w b (.slice pa pn pc) ps ∧ ps.length = 8 ∧ okTo 24 ps 8 ∧ pgsV ps 24 = 0
theorem Lp.of {w : World} {b : Nat} {p : Value} (h : Drawn w b p) : ∃ pa pn pc pf ps, p = .slice pa pn pc ∧ Lp w b pa pn pc pf ps := by
  rcases h with ⟨rs, h, hl⟩ | ⟨a, cap, rfl⟩
  · obtain ⟨pa, pc, hv, _, _, hg⟩ := h.shape
    obtain ⟨g, rfl⟩ := hg (by omega)
    rw [hl] at hv
    subst hv
    exact ⟨_, _, _, pgsV rs 24, rs, rfl, Flt.good h hl 24, fun e => ⟨⟨g, rfl⟩, rfl, h, hl, (pgsV_zero e).2.2.2, e⟩⟩
  · exact ⟨a, 7, cap, 1, [], rfl, Flt.bad a cap 24 (by omega) (by omega), fun e => absurd e (by decide)⟩
theorem Lp.keep {w w' : World} {b : Nat} {pa : Option Addr} {pn pc : Nat} {pf : Int} {ps : List (Int × Int)} (h : Lp w b pa pn pc pf ps) (hb : Below w.heap.size w w') : Lp w' b pa pn pc pf ps :=
  ⟨⟨fun u hu => h.flt.1 u (on hb hu), fun u hu => h.flt.2 u (on hb hu)⟩, fun e => by
    obtain ⟨g, n, p, r⟩ := h.good e
    exact ⟨g, n, p.keep hb, r⟩⟩
theorem wcX_parts {rs : List Qd} {t pf k : Int} (h : wcX rs t pf k = 0) : cfV rs = 0 ∧ tagB t = true ∧ pf = 0 ∧ kindB k = true := by
  unfold wcX at h
  split at h
  · rename_i hc
    exact ⟨hc, wfX_zero h⟩
  · rename_i hc
    exact absurd h hc
theorem wcX_make {rs : List Qd} {t pf k : Int} (h : cfV rs = 0) (ht : tagB t = true) (hp : pf = 0) (hk : kindB k = true) : wcX rs t pf k = 0 := by
  simp [wcX, wfX, h, ht, hp, hk]
theorem fill_okq {t x k : Int} {ps : List (Int × Int)} (ht : tagB t = true) (hk : kindB k = true) (ho : okTo 24 ps 8) (hz : wkC ps x k = 0) : okQ ⟨t, ((x / 8).toNat : Int), (ps.getD (x / 8).toNat (0, 0)).1, (ps.getD (x / 8).toNat (0, 0)).2⟩ = true := by
  have hg : goesB ps x k = true := by
    cases hg : goesB ps x k
    · unfold wkC at hz
      rw [hk, hg] at hz
      exact absurd hz (by rcases kind_cases hk with rfl | rfl | rfl <;> decide)
    · rfl
  obtain ⟨h0, h1, h2, h3⟩ := goes_in ho hg
  have hp := pgC_zero (okTo_at ho h0 h1)
  have hq : (ps.getD (x / 8).toNat (0, 0)).2 ≠ 0 := by
    intro e
    unfold goesB at hg
    rw [e, band_zero] at hg
    simp at hg
  unfold tagB at ht
  simp at ht
  exact okQ_iff.2 ⟨by show 0 ≤ t; omega, by show t ≤ 9; omega, by show (0 : Int) ≤ ((x / 8).toNat : Int); omega, by show ((x / 8).toNat : Int) ≤ 7; omega, h2, by show (ps.getD (x / 8).toNat (0, 0)).1 ≤ 23; omega, by show 1 ≤ (ps.getD (x / 8).toNat (0, 0)).2; omega, by show (ps.getD (x / 8).toNat (0, 0)).2 ≤ 7; omega⟩

set_option maxHeartbeats 1000000 in
theorem i_any (a : Option Addr) (len cap : Nat) (rs : List Qd) (t x k pf : Int) (pa : Option Addr) (pn pc : Nat) (ps : List (Int × Int)) (b : Nat) (w : World) (h : IsQuads w a len cap rs) (hL : Lp w b pa pn pc pf ps) :
    Calls Try.prog 6 #[.slice a len cap, .int .i64 t, .slice pa pn pc, .int .i64 x, .int .i64 k] w fun e w' => ∃ y z v L, e = .returned (.agg #[.int .i64 (cV rs t pf ps x k), .int .i64 y, .bool z, v]) ∧ Qs 65 w' w.heap.size v L ∧ Below w.heap.size w w' ∧ (wcX rs t pf k = 0 → fitV rs t ps = true → wcC rs t ps x k = 0 → y = wkV ps x k ∧ wkC ps x k = 0 ∧ fitV L t ps = true ∧ hasQ L t (x / 8) = true ∧ atB x = true ∧ ((atB x && hasQ rs t (x / 8)) = true → z = true)) := by
  by_cases hx : wcX rs t pf k = 0
  case neg =>
    refine (impl_walkBad a len cap rs t x k pf pa pn pc w h hL.flt.1 hx).mono ?_
    rintro e w' ⟨rfl, b'⟩
    exact ⟨0, false, _, [], by rw [cV, if_neg hx], Qs.nil _ _ _, b', fun e => absurd e hx⟩
  have e1 : cV rs t pf ps x k = wcC rs t ps x k := if_pos hx
  rw [e1]
  obtain ⟨hc, ht, hp, hk⟩ := wcX_parts hx
  obtain ⟨⟨g, rfl⟩, rfl, hP, hl, ho, h0⟩ := hL.good hp
  cases hm : (atB x && hasQ rs t (x / 8))
  · have e2 : wcC rs t ps x k = wkC ps x k := by simp [wcC, hm]
    rw [e2]
    refine (impl_walkMiss a len cap rs t x k pf g pc ps b w h hP hl ho hL.flt.1 hx hm).mono ?_
    rintro e w' ⟨v, rfl, q, b'⟩
    refine ⟨_, _, v, _, rfl, q, b', fun _ hf hz => ?_⟩
    rw [if_pos hz]
    have hb : atB x = true := wk_parts hk hz
    have hi : ((x / 8).toNat : Int) = x / 8 := by
      unfold atB at hb
      simp at hb
      omega
    have ff := fit_fill hf (fill_okq ht hk ho hz)
    rw [hi] at ff
    exact ⟨rfl, hz, ff.1, ff.2, hb, fun e => by simp at e⟩
  · have hbq : atB x = true ∧ hasQ rs t (x / 8) = true := by simpa using hm
    obtain ⟨hb, hq⟩ := hbq
    have e2 : wcC rs t ps x k = wpgC (fnd (trn rs) t (x / 8)).2.kinds k := by simp [wcC, hm]
    rw [e2]
    refine (impl_walkHit a len cap rs t x k pf (some ⟨g, 0, none⟩) 8 pc w h hL.flt.1 hx hb hq).mono ?_
    rintro e w' ⟨v, rfl, q, b'⟩
    refine ⟨_, _, v, _, rfl, q, b', fun _ hf hz => ?_⟩
    rw [if_pos hz]
    obtain ⟨f1, f2⟩ := fit_walk k hf hb hq
    exact ⟨f2, f1.symm.trans hz, hf, hq, hb, fun _ => rfl⟩
theorem s_any (a : Option Addr) (len cap : Nat) (rs : List Qd) (t x k pf : Int) (pa : Option Addr) (pn pc : Nat) (ps : List (Int × Int)) (b : Nat) (w : World) (h : IsQuads w a len cap rs) (hL : Lp w b pa pn pc pf ps) :
    Calls Try.prog 11 #[.slice a len cap, .int .i64 t, .slice pa pn pc, .int .i64 x, .int .i64 k] w fun e w' => ∃ (y : Int) (z : Bool) (la : Option Addr) (ll lc : Nat), e = .returned (.agg #[.int .i64 (cV rs t pf ps x k), .int .i64 y, .bool z, .slice la ll lc]) ∧ Below w.heap.size w w' := by
  by_cases hx : wcX rs t pf k = 0
  case neg =>
    have e1 : cV rs t pf ps x k = wcX rs t pf k := if_neg hx
    rw [e1]
    exact spec_walkBad a len cap rs t x k pf pa pn pc w h hL.flt.2 hx
  have e1 : cV rs t pf ps x k = wcC rs t ps x k := if_pos hx
  rw [e1]
  obtain ⟨hc, ht, hp, hk⟩ := wcX_parts hx
  obtain ⟨⟨g, rfl⟩, rfl, hP, hl, ho, h0⟩ := hL.good hp
  exact spec_walkGood a len cap rs t x k pf g pc ps b w h hP hl ho hL.flt.2 hx
theorem i_fits (a : Option Addr) (len cap : Nat) (rs : List Qd) (t pf : Int) (pa : Option Addr) (pn pc : Nat) (ps : List (Int × Int)) (b : Nat) (w : World) (h : IsQuads w a len cap rs) (hL : Lp w b pa pn pc pf ps) (ht : wfI t) :
    Calls Try.prog 9 #[.slice a len cap, .int .i64 t, .slice pa pn pc] w fun e w' => e = .returned (.bool (fitX rs t pf ps)) ∧ Below w.heap.size w w' := by
  by_cases hp : pf = 0
  · obtain ⟨_, _, hP, hl, _⟩ := hL.good hp
    have e1 : fitX rs t pf ps = fitV rs t ps := by simp [fitX, hp]
    rw [e1]
    exact impl_cacheFits a len cap rs t _ ps b w h hP (by omega) ht
  · have e1 : fitX rs t pf ps = false := by simp [fitX, hp]
    rw [e1]
    exact impl_fitsBad a len cap rs t pf pa pn pc w h hL.flt.1 hp
theorem s_fits (a : Option Addr) (len cap : Nat) (rs : List Qd) (t pf : Int) (pa : Option Addr) (pn pc : Nat) (ps : List (Int × Int)) (b : Nat) (w : World) (h : IsQuads w a len cap rs) (hL : Lp w b pa pn pc pf ps) :
    Calls Try.prog 10 #[.slice a len cap, .int .i64 t, .slice pa pn pc] w fun e w' => e = .returned (.bool (fitX rs t pf ps)) ∧ Below w.heap.size w w' := by
  by_cases hp : pf = 0
  · obtain ⟨_, _, hP, hl, _⟩ := hL.good hp
    have e1 : fitX rs t pf ps = fitV rs t ps := by simp [fitX, hp]
    rw [e1]
    exact spec_cacheFits a len cap rs t _ ps b w h hP (by omega)
  · have e1 : fitX rs t pf ps = false := by simp [fitX, hp]
    rw [e1]
    exact spec_fitsBad a len cap rs t pf pa pn pc w h hL.flt.2 hp
/-- Where the cache fits and the walk has no code, the second walk has none, and is by a hit. -/
theorem any_again {rs L : List Qd} {t pf x k : Int} {ps : List (Int × Int)} (hx : wcX rs t pf k = 0) (hf : fitV L t ps = true) (hq : hasQ L t (x / 8) = true) (hb : atB x = true) (hz : wkC ps x k = 0) : wcX L t pf k = 0 ∧ wcC L t ps x k = 0 ∧ cV L t pf ps x k = 0 := by
  obtain ⟨_, ht, hp, hk⟩ := wcX_parts hx
  have h1 := wcX_make (fit_parts hf).1 ht hp hk
  have h2 : wcC L t ps x k = 0 := by
    unfold wcC
    rw [hb, hq]
    simp only [Bool.and_self, if_true]
    rw [(fit_walk k hf hb hq).1]
    exact hz
  exact ⟨h1, h2, by rw [cV, if_pos h1]; exact h2⟩
/-- Where the cache fits, what is told is what the list tells, or the tag or the kind is none. -/
theorem any_code {rs : List Qd} {t pf x k : Int} {ps : List (Int × Int)} (hp : pf = 0) (hf : fitV rs t ps = true) : cV rs t pf ps x k = wkC ps x k ∨ tagB t = false := by
  cases ht : tagB t
  · exact .inr rfl
  · refine .inl ?_
    have hc := (fit_parts hf).1
    cases hk : kindB k
    · have h1 : wcX rs t pf k = 3 := by simp [wcX, wfX, hc, ht, hp, hk]
      rw [cV, if_neg (by rw [h1]; decide), h1]
      simp [wkC, hk]
    · rw [cV, if_pos (wcX_make hc ht hp hk)]
      unfold wcC
      split
      · rename_i hm
        have hbq : atB x = true ∧ hasQ rs t (x / 8) = true := by simpa using hm
        exact (fit_walk k hf hbq.1 hbq.2).1
      · rfl
theorem any_zero {rs : List Qd} {t pf x k : Int} {ps : List (Int × Int)} (h : cV rs t pf ps x k = 0) : wcX rs t pf k = 0 ∧ wcC rs t ps x k = 0 := by
  unfold cV at h
  split at h
  · rename_i hx; exact ⟨hx, h⟩
  · rename_i hx; exact absurd h hx
theorem fitX_parts {rs : List Qd} {t pf : Int} {ps : List (Int × Int)} (h : fitX rs t pf ps = true) : pf = 0 ∧ fitV rs t ps = true := by
  simpa [fitX] using h
theorem tag_wf {t : Int} (h : 0 ≤ t ∧ t ≤ 10) : wfI t := by
  have e : t = 0 ∨ t = 1 ∨ t = 2 ∨ t = 3 ∨ t = 4 ∨ t = 5 ∨ t = 6 ∨ t = 7 ∨ t = 8 ∨ t = 9 ∨ t = 10 := by omega
  rcases e with rfl | rfl | rfl | rfl | rfl | rfl | rfl | rfl | rfl | rfl | rfl <;> rfl
end Go.Proofs.Ytaajaikpkcgalaa
namespace Go.Proofs.Ytaajaikpkcgalaa.fnCachesDone
open Go.ChangeShapes Go.WideShapes Go.ChangeAt Go.RowKit
open Go.ChangeMaps (open_string shut_string)
set_option linter.unusedVariables false

theorem field_c0 (x0 x1 x2 x3 : Value) (w : World) : (Instr.field 29 (.agg #[x0, x1, x2, x3]) 0).run Try.prog w = .ok x0 w := by kernel_rfl
set_option maxRecDepth 20000 in
set_option maxHeartbeats 16000000 in
theorem walk (a0 : Option Addr) (len0 cap0 : Nat) (z0 : List Int) (w : World) (w0 : IsRow .u8 w a0 len0 cap0 z0) :
    Calls Try.prog 3 #[.slice a0 len0 cap0] w fun e w' => e = .returned (.bool true) ∧ Below w.heap.size w w' := by
  have HR : Hid (IsRow .u8 w a0 len0 cap0 z0) := w0
  clear w0
  by_cases hbig : 1048576 < (len0 : Int)
  · go_enter Try.func3, Try.ntmps3
    go_wp2
    go_ret
    exact ⟨rfl, Below.refl _ _⟩
  have hb2 : (len0 : Int) ≤ 1048576 := by omega
  clear hbig
  go_enter Try.func3, Try.ntmps3
  go_wp2_with (go_at_call 4; go_in)
  refine (drawWalk HR.out).mono ?_
  rintro e w1 ⟨v, rs, t, p, x, k, rfl, ht, hl, hq, hp, b1⟩
  clear HR
  obtain ⟨ca, cc, hv, _⟩ := hq.shape
  obtain ⟨n, hn⟩ : ∃ n, rs.length = n := ⟨_, rfl⟩
  rw [hn] at hv
  subst hv
  obtain ⟨pa, pn, pc, pf, ps, rfl, lp⟩ := Lp.of hp
  have Q1 : Hid (Qs 65 w1 w.heap.size (.slice ca n cc) rs) := hq
  have L1 : Hid (Lp w1 w.heap.size pa pn pc pf ps) := lp
  have B1 : Hid (Below w.heap.size w w1) := b1
  have T10 : Hid (0 ≤ t ∧ t ≤ 10) := ht
  clear hq b1 ht hn hl hp lp
  go_wp2_with fail
  refine (i_any ca n cc rs t x k pf pa pn pc ps w.heap.size w1 Q1.out.read L1.out).mono ?_
  rintro e w2 ⟨y, z, v2, L, rfl, q2, b_, hF⟩
  obtain ⟨la, lc, hv2, _⟩ := q2.shape
  obtain ⟨ll, hll⟩ : ∃ ll, L.length = ll := ⟨_, rfl⟩
  rw [hll] at hv2
  subst hv2
  obtain ⟨c, hc⟩ : ∃ c, cV rs t pf ps x k = c := ⟨_, rfl⟩
  have HC : Hid (cV rs t pf ps x k = c) := hc
  rw [hc]
  have HF : Hid (wcX rs t pf k = 0 → fitV rs t ps = true → wcC rs t ps x k = 0 → y = wkV ps x k ∧ wkC ps x k = 0 ∧ fitV L t ps = true ∧ hasQ L t (x / 8) = true ∧ atB x = true ∧ ((atB x && hasQ rs t (x / 8)) = true → z = true)) := hF
  clear hll hc hF
  go_upto_region 5 with fail
  obtain ⟨r, hr⟩ : ∃ r, w2.heap.size = r := ⟨_, rfl⟩
  have Vr : Hid (Vb (w2.alloc (.cells #[.int .i64 c, .int .i64 y, .bool z, .slice la ll lc] 29)) r #[.int .i64 c, .int .i64 y, .bool z, .slice la ll lc] 29) := by show Vb _ _ _ _; rw [← hr]; exact Vb.new _ _ _
  have BWr : Hid (Below w1.heap.size w1 (w2.alloc (.cells #[.int .i64 c, .int .i64 y, .bool z, .slice la ll lc] 29))) := al b_ _
  have B2 : Hid (Below w.heap.size w (w2.alloc (.cells #[.int .i64 c, .int .i64 y, .bool z, .slice la ll lc] 29))) := on B1.out BWr.out
  have Q2 : Hid (Qs 65 (w2.alloc (.cells #[.int .i64 c, .int .i64 y, .bool z, .slice la ll lc] 29)) w.heap.size (.slice ca n cc) rs) := Q1.out.keep BWr.out
  have L2 : Hid (Lp (w2.alloc (.cells #[.int .i64 c, .int .i64 y, .bool z, .slice la ll lc] 29)) w.heap.size pa pn pc pf ps) := L1.out.keep BWr.out
  have QL2 : Hid (Qs 65 (w2.alloc (.cells #[.int .i64 c, .int .i64 y, .bool z, .slice la ll lc] 29)) w1.heap.size (.slice la ll lc) L) := q2.keep (al (Below.refl _ _) _)
  rw [hr]
  generalize w2.alloc (.cells #[.int .i64 c, .int .i64 y, .bool z, .slice la ll lc] 29) = W2 at *
  clear hr b_
  clear q2
  go_wp2_with fail
  refine (impl_flushCache ca n cc rs t W2 Q2.out.read).mono ?_
  rintro e w3 ⟨v3, rfl, q3, b_⟩
  obtain ⟨fa, fc, hv3, _⟩ := q3.shape
  obtain ⟨fl, hfl⟩ : ∃ fl, (flL rs t).length = fl := ⟨_, rfl⟩
  rw [hfl] at hv3
  subst hv3
  obtain ⟨d, hd⟩ : ∃ d, flC rs t = d := ⟨_, rfl⟩
  have HD : Hid (flC rs t = d) := hd
  rw [hd]
  clear hfl hd
  go_upto_region 6 with fail
  obtain ⟨f, hf⟩ : ∃ f, w3.heap.size = f := ⟨_, rfl⟩
  have Vf : Hid (Vb (w3.alloc (.cells #[.int .i64 d, .int .i64 0, .bool false, .slice fa fl fc] 29)) f #[.int .i64 d, .int .i64 0, .bool false, .slice fa fl fc] 29) := by show Vb _ _ _ _; rw [← hf]; exact Vb.new _ _ _
  have BWf : Hid (Below W2.heap.size W2 (w3.alloc (.cells #[.int .i64 d, .int .i64 0, .bool false, .slice fa fl fc] 29))) := al b_ _
  have BU : Hid (Below w.heap.size w (w3.alloc (.cells #[.int .i64 d, .int .i64 0, .bool false, .slice fa fl fc] 29))) := on B2.out BWf.out
  have QC : Hid (Qs 65 (w3.alloc (.cells #[.int .i64 d, .int .i64 0, .bool false, .slice fa fl fc] 29)) w.heap.size (.slice ca n cc) rs) := Q2.out.keep BWf.out
  have LP : Hid (Lp (w3.alloc (.cells #[.int .i64 d, .int .i64 0, .bool false, .slice fa fl fc] 29)) w.heap.size pa pn pc pf ps) := L2.out.keep BWf.out
  have QL : Hid (Qs 65 (w3.alloc (.cells #[.int .i64 d, .int .i64 0, .bool false, .slice fa fl fc] 29)) w1.heap.size (.slice la ll lc) L) := QL2.out.keep BWf.out
  have VR : Hid (Vb (w3.alloc (.cells #[.int .i64 d, .int .i64 0, .bool false, .slice fa fl fc] 29)) r #[.int .i64 c, .int .i64 y, .bool z, .slice la ll lc] 29) := Vr.out.keep BWf.out
  have QF : Hid (Qs 65 (w3.alloc (.cells #[.int .i64 d, .int .i64 0, .bool false, .slice fa fl fc] 29)) W2.heap.size (.slice fa fl fc) (flL rs t)) := q3.keep (al (Below.refl _ _) _)
  rw [hf]
  generalize w3.alloc (.cells #[.int .i64 d, .int .i64 0, .bool false, .slice fa fl fc] 29) = U at *
  clear hf b_
  clear q3 Q1 L1 B1 Q2 L2 B2 QL2 Vr BWr BWf
  have SF : ∀ u, Below U.heap.size U u → Calls Try.prog 10 #[.slice ca n cc, .int .i64 t, .slice pa pn pc] u fun e w' => e = .returned (.bool (fitX rs t pf ps)) ∧ Below u.heap.size u w' := fun u hu => s_fits ca n cc rs t pf pa pn pc ps w.heap.size u (QC.out.keep hu).read (LP.out.keep hu)
  have SW : ∀ u, Below U.heap.size U u → Calls Try.prog 11 #[.slice ca n cc, .int .i64 t, .slice pa pn pc, .int .i64 x, .int .i64 k] u fun e w' => ∃ (y : Int) (z : Bool) (la : Option Addr) (ll lc : Nat), e = .returned (.agg #[.int .i64 c, .int .i64 y, .bool z, .slice la ll lc]) ∧ Below u.heap.size u w' := fun u hu => by
    have tt := s_any ca n cc rs t x k pf pa pn pc ps w.heap.size u (QC.out.keep hu).read (LP.out.keep hu)
    rw [HC.out] at tt
    exact tt
  have SU : Hid (Below U.heap.size U U) := Below.refl _ _
  have g0 := Vf.out.cell 0 rfl
  by_cases hd0 : d = 0
  case neg =>
    have hdb : (d == 0) = false := by simpa using hd0
    clear hd0
    go_upto_region 8 with fail
    clear g0
    go_wp2_with fail
    refine (SF U SU.out).mono ?_
    rintro e u8 ⟨rfl, b8⟩
    have S8 : Hid (Below U.heap.size U u8) := on SU.out b8
    clear b8
    cases hx : fitX rs t pf ps
    · have IF : ∀ u, Below U.heap.size U u → Calls Try.prog 9 #[.slice ca n cc, .int .i64 t, .slice pa pn pc] u fun e w' => e = .returned (.bool false) ∧ Below u.heap.size u w' := fun u hu => by
        have tt := i_fits ca n cc rs t pf pa pn pc ps w.heap.size u (QC.out.keep hu).read (LP.out.keep hu) (tag_wf T10.out)
        rw [hx] at tt
        exact tt
      clear hx
      go_upto_region 9 with fail
      have D9 : Hid (Below U.heap.size U u8.drew) := S8.out.drew
      have cr0 : Hid (∀ w', Below U.heap.size U w' → w'.cell? ⟨r, 0, none⟩ = some (.int .i64 c)) := fun w' hs => (VR.out.keep hs).cell 0 rfl
      refine wp_region_held (S := fun w' => Below U.heap.size U w') (by kernel_rfl) ?_
      change wpAnyH _ _ _ _ _ _ _ _ (World.drew _)
      generalize u8.drew = d9 at *
      refine wpAnyH_take (i := 0) (v := .slice ca n cc) rfl (by kernel_rfl) (by kernel_rfl) (by kernel_rfl) (fun _ _ _ h => h) (Or.inl ⟨by rfl, fun w' hs => by go_simp⟩) D9.out ?_
      change wpAnyH _ _ _ _ _ _ _ (Act.put _ (some 52) _) _
      simp only [Act.put, List.setIfInBounds_toArray, List.set_cons_zero, List.set_cons_succ]
      refine wpAnyH_take (i := 1) (v := .int .i64 t) rfl (by kernel_rfl) (by kernel_rfl) (by kernel_rfl) (fun _ _ _ h => h) (Or.inl ⟨by rfl, fun w' hs => by go_simp⟩) D9.out ?_
      change wpAnyH _ _ _ _ _ _ _ (Act.put _ (some 53) _) _
      simp only [Act.put, List.setIfInBounds_toArray, List.set_cons_zero, List.set_cons_succ]
      refine wpAnyH_take (i := 2) (v := .slice pa pn pc) rfl (by kernel_rfl) (by kernel_rfl) (by kernel_rfl) (fun _ _ _ h => h) (Or.inl ⟨by rfl, fun w' hs => by go_simp⟩) D9.out ?_
      change wpAnyH _ _ _ _ _ _ _ (Act.put _ (some 54) _) _
      simp only [Act.put, List.setIfInBounds_toArray, List.set_cons_zero, List.set_cons_succ]
      refine wpAnyH_take (i := 3) (v := .int .i64 x) rfl (by kernel_rfl) (by kernel_rfl) (by kernel_rfl) (fun _ _ _ h => h) (Or.inl ⟨by rfl, fun w' hs => by go_simp⟩) D9.out ?_
      change wpAnyH _ _ _ _ _ _ _ (Act.put _ (some 55) _) _
      simp only [Act.put, List.setIfInBounds_toArray, List.set_cons_zero, List.set_cons_succ]
      refine wpAnyH_take (i := 4) (v := .int .i64 k) rfl (by kernel_rfl) (by kernel_rfl) (by kernel_rfl) (fun _ _ _ h => h) (Or.inl ⟨by rfl, fun w' hs => by go_simp⟩) D9.out ?_
      change wpAnyH _ _ _ _ _ _ _ (Act.put _ (some 56) _) _
      simp only [Act.put, List.setIfInBounds_toArray, List.set_cons_zero, List.set_cons_succ]
      refine wpAnyH_take (i := 7) (v := .pointer (some ⟨r, 0, none⟩)) rfl (by kernel_rfl) (by kernel_rfl) (by kernel_rfl) (fun _ _ _ h => h) (Or.inl ⟨by rfl, fun w' hs => by go_simp⟩) D9.out ?_
      change wpAnyH _ _ _ _ _ _ _ (Act.put _ (some 59) _) _
      simp only [Act.put, List.setIfInBounds_toArray, List.set_cons_zero, List.set_cons_succ]
      refine wpAnyH_take (i := 8) (v := .int .i64 c) rfl (by kernel_rfl) (by kernel_rfl) (by kernel_rfl) (fun _ _ _ h => h) (Or.inl ⟨by rfl, fun w' hs => by have hc := cr0.out w' hs; go_simp⟩) D9.out ?_
      change wpAnyH _ _ _ _ _ _ _ (Act.put _ (some 60) _) _
      simp only [Act.put, List.setIfInBounds_toArray, List.set_cons_zero, List.set_cons_succ]
      refine wpAnyH_ready (rs := [5]) (by kernel_rfl) (by simp) ?_
      refine AllReadyH.cons rfl (fun K hK => ?_) AllReadyH.nil
      rw [if_pos (by rfl)]
      go_simp
      refine (SW d9 D9.out).mono ?_
      rintro e x1 ⟨y9, z9, la9, ll9, lc9, rfl, b9⟩
      have X1 : Hid (Below U.heap.size U x1) := on D9.out b9
      refine hK.out _ _ X1.out (fun _ => ?_)
      clear hK K b9
      refine wpAnyH_take (i := 6) (v := .int .i64 c) rfl (by kernel_rfl) (by kernel_rfl) (by kernel_rfl) (fun _ _ _ h => h) (Or.inl ⟨by rfl, fun w' hs => by have hf := field_c0; go_simp⟩) X1.out ?_
      change wpAnyH _ _ _ _ _ _ _ (Act.put _ (some 58) _) _
      simp only [Act.put, List.setIfInBounds_toArray, List.set_cons_zero, List.set_cons_succ]
      refine wpAnyH_take (i := 9) (v := .bool true) rfl (by kernel_rfl) (by kernel_rfl) (by kernel_rfl) (fun _ _ _ h => h) (Or.inl ⟨by rfl, fun w' hs => by go_simp⟩) X1.out ?_
      change wpAnyH _ _ _ _ _ _ _ (Act.put _ (some 61) _) _
      simp only [Act.put, List.setIfInBounds_toArray, List.set_cons_zero, List.set_cons_succ]
      refine wpAnyH_take (i := 10) (v := .bool true) rfl (by kernel_rfl) (by kernel_rfl) (by kernel_rfl) (fun _ _ _ h => h) (Or.inl ⟨by rfl, fun w' hs => by go_simp⟩) X1.out ?_
      change wpAnyH _ _ _ _ _ _ _ (Act.put _ (some 62) _) _
      simp only [Act.put, List.setIfInBounds_toArray, List.set_cons_zero, List.set_cons_succ]
      refine wpAnyH_take (i := 11) (v := .slice ca n cc) rfl (by kernel_rfl) (by kernel_rfl) (by kernel_rfl) (fun _ _ _ h => h) (Or.inl ⟨by rfl, fun w' hs => by go_simp⟩) X1.out ?_
      change wpAnyH _ _ _ _ _ _ _ (Act.put _ (some 63) _) _
      simp only [Act.put, List.setIfInBounds_toArray, List.set_cons_zero, List.set_cons_succ]
      refine wpAnyH_take (i := 12) (v := .int .i64 t) rfl (by kernel_rfl) (by kernel_rfl) (by kernel_rfl) (fun _ _ _ h => h) (Or.inl ⟨by rfl, fun w' hs => by go_simp⟩) X1.out ?_
      change wpAnyH _ _ _ _ _ _ _ (Act.put _ (some 64) _) _
      simp only [Act.put, List.setIfInBounds_toArray, List.set_cons_zero, List.set_cons_succ]
      refine wpAnyH_take (i := 13) (v := .slice pa pn pc) rfl (by kernel_rfl) (by kernel_rfl) (by kernel_rfl) (fun _ _ _ h => h) (Or.inl ⟨by rfl, fun w' hs => by go_simp⟩) X1.out ?_
      change wpAnyH _ _ _ _ _ _ _ (Act.put _ (some 65) _) _
      simp only [Act.put, List.setIfInBounds_toArray, List.set_cons_zero, List.set_cons_succ]
      refine wpAnyH_ready (rs := [14]) (by kernel_rfl) (by simp) ?_
      refine AllReadyH.cons rfl (fun K hK => ?_) AllReadyH.nil
      rw [if_pos (by rfl)]
      go_simp
      refine (IF x1 X1.out).mono ?_
      rintro e x2 ⟨rfl, b9⟩
      have X2 : Hid (Below U.heap.size U x2) := on X1.out b9
      refine hK.out _ _ X2.out (fun _ => ?_)
      clear hK K b9
      refine wpAnyH_take (i := 15) (v := .bool true) rfl (by kernel_rfl) (by kernel_rfl) (by kernel_rfl) (fun _ _ _ h => h) (Or.inl ⟨by rfl, fun w' hs => by go_simp⟩) X2.out ?_
      change wpAnyH _ _ _ _ _ _ _ (Act.put _ (some 67) _) _
      simp only [Act.put, List.setIfInBounds_toArray, List.set_cons_zero, List.set_cons_succ]
      refine wpAnyH_take (i := 16) (v := .bool true) rfl (by kernel_rfl) (by kernel_rfl) (by kernel_rfl) (fun _ _ _ h => h) (Or.inl ⟨by rfl, fun w' hs => by go_simp⟩) X2.out ?_
      change wpAnyH _ _ _ _ _ _ _ (Act.put _ (some 68) _) _
      simp only [Act.put, List.setIfInBounds_toArray, List.set_cons_zero, List.set_cons_succ]
      refine wpAnyH_take (i := 17) (v := .bool true) rfl (by kernel_rfl) (by kernel_rfl) (by kernel_rfl) (fun _ _ _ h => h) (Or.inl ⟨by rfl, fun w' hs => by go_simp⟩) X2.out ?_
      change wpAnyH _ _ _ _ _ _ _ (Act.put _ (some 2) _) _
      simp only [Act.put, List.setIfInBounds_toArray, List.set_cons_zero, List.set_cons_succ]
      refine wpAnyH_done (by kernel_rfl) ?_ _
      go_wp2_with fail
      go_ret
      exact ⟨rfl, on BU.out X2.out⟩
    obtain ⟨hp0, hfv⟩ := fitX_parts hx
    have HFV : Hid (fitV rs t ps = true) := hfv
    have HP0 : Hid (pf = 0) := hp0
    clear hx
    have GD : Hid (_ ∧ _) := LP.out.good hp0
    have CD : Hid (cV rs t pf ps x k = wkC ps x k ∨ tagB t = false) := any_code hp0 hfv
    clear hp0 hfv
    go_wp2_with fail
    have wp := impl_walkPages (.slice pa pn pc) ps x k w.heap.size u8 (GD.out.2.2.1.keep S8.out) (by have := GD.out.2.2.2.1; omega)
    have e1 : wpC ps x k = wkC ps x k := if_pos GD.out.2.2.2.2.2
    have e2 : wpV ps x k = wkV ps x k := if_pos GD.out.2.2.2.2.2
    rw [e1, e2] at wp
    clear e1 e2
    obtain ⟨g, hg⟩ : ∃ g, wkC ps x k = g := ⟨_, rfl⟩
    obtain ⟨v, hv⟩ : ∃ v, wkV ps x k = v := ⟨_, rfl⟩
    have HG : Hid (wkC ps x k = g) := hg
    have HV : Hid (wkV ps x k = v) := hv
    rw [hg, hv] at wp
    clear hg hv
    refine wp.mono ?_
    rintro e u9 ⟨rfl, b_⟩
    clear wp
    go_upto_region 11 with fail
    obtain ⟨q, hq⟩ : ∃ q, u9.heap.size = q := ⟨_, rfl⟩
    have Vq : Hid (Vb (u9.alloc (.cells #[.int .i64 g, .int .i64 v] 35)) q #[.int .i64 g, .int .i64 v] 35) := by show Vb _ _ _ _; rw [← hq]; exact Vb.new _ _ _
    have BWq : Hid (Below u8.heap.size u8 (u9.alloc (.cells #[.int .i64 g, .int .i64 v] 35))) := al b_ _
    have S9 : Hid (Below U.heap.size U (u9.alloc (.cells #[.int .i64 g, .int .i64 v] 35))) := on S8.out BWq.out
    have VR9 : Hid (Vb (u9.alloc (.cells #[.int .i64 g, .int .i64 v] 35)) r #[.int .i64 c, .int .i64 y, .bool z, .slice la ll lc] 29) := VR.out.keep S9.out
    rw [hq]
    generalize u9.alloc (.cells #[.int .i64 g, .int .i64 v] 35) = W9 at *
    clear hq b_
    have s0 := VR9.out.cell 0 rfl
    have t0 := Vq.out.cell 0 rfl
    by_cases hc0 : c = 0
    case neg =>
      have hcb : (c != 0) = true := by simpa using hc0
      clear hc0
      by_cases hcg : c = g
      · subst hcg
        go_wp2_with fail
        go_ret
        exact ⟨rfl, on BU.out S9.out⟩
      · have ht : t = 10 := by
          rcases CD.out with h | h
          · exact absurd (HC.out.symm.trans (h.trans HG.out)) hcg
          · have := T10.out
            unfold tagB at h
            simp at h
            omega
        have hcg' : (c == g) = false := by simpa using hcg
        clear hcg CD
        subst ht
        go_wp2_with fail
        go_ret
        exact ⟨rfl, on BU.out S9.out⟩
    subst hc0
    obtain ⟨z1, z2⟩ := any_zero HC.out
    obtain ⟨f1, f2, f3, f4, f5, -⟩ := HF.out z1 HFV.out z2
    have ag := any_again z1 f3 f4 f5 f2
    have AG : Hid (_ ∧ _) := ag
    have F3 : Hid (fitV L t ps = true) := f3
    have F45 : Hid ((atB x && hasQ L t (x / 8)) = true) := by show _ = true; rw [f4, f5]; rfl
    obtain rfl : g = 0 := HG.out.symm.trans f2
    obtain rfl : y = v := f1.trans HV.out
    clear z1 z2 f1 f2 f3 f4 f5 ag CD s0 t0
    have s0 := VR9.out.cell 0 rfl
    have s1 := VR9.out.cell 1 rfl
    have s3 := VR9.out.cell 3 rfl
    go_wp2_with fail
    refine (i_any la ll lc L t x k pf pa pn pc ps w.heap.size _ (QL.out.keep S9.out).read (LP.out.keep S9.out)).mono ?_
    rintro e u10 ⟨y2, z2, v2, L2, rfl, q2, b_, hF2⟩
    obtain ⟨f1, f2, _, _, _, f6⟩ := hF2 AG.out.1 F3.out AG.out.2.1
    obtain rfl : z2 = true := f6 F45.out
    obtain rfl : y2 = y := f1.trans HV.out
    have hcv : cV L t pf ps x k = 0 := AG.out.2.2
    rw [hcv]
    obtain ⟨ga, gc, hv2, _⟩ := q2.shape
    obtain ⟨gl, hgl⟩ : ∃ gl, L2.length = gl := ⟨_, rfl⟩
    rw [hgl] at hv2
    subst hv2
    clear hgl q2 hF2 f1 f2 f6 hcv s0 s1 s3
    go_upto_region 14 with fail
    obtain ⟨m, hm⟩ : ∃ m, u10.heap.size = m := ⟨_, rfl⟩
    have Vm : Hid (Vb (u10.alloc (.cells #[.int .i64 0, .int .i64 y2, .bool true, .slice ga gl gc] 29)) m #[.int .i64 0, .int .i64 y2, .bool true, .slice ga gl gc] 29) := by show Vb _ _ _ _; rw [← hm]; exact Vb.new _ _ _
    have BWm : Hid (Below W9.heap.size W9 (u10.alloc (.cells #[.int .i64 0, .int .i64 y2, .bool true, .slice ga gl gc] 29))) := al b_ _
    have S10 : Hid (Below U.heap.size U (u10.alloc (.cells #[.int .i64 0, .int .i64 y2, .bool true, .slice ga gl gc] 29))) := on S9.out BWm.out
    have VRA : Hid (Vb (u10.alloc (.cells #[.int .i64 0, .int .i64 y2, .bool true, .slice ga gl gc] 29)) r #[.int .i64 0, .int .i64 y2, .bool z, .slice la ll lc] 29) := VR.out.keep S10.out
    have VQA : Hid (Vb (u10.alloc (.cells #[.int .i64 0, .int .i64 y2, .bool true, .slice ga gl gc] 29)) q #[.int .i64 0, .int .i64 y2] 35) := Vq.out.keep BWm.out
    rw [hm]
    generalize u10.alloc (.cells #[.int .i64 0, .int .i64 y2, .bool true, .slice ga gl gc] 29) = W10 at *
    clear hm b_
    have s0 := VRA.out.cell 0 rfl
    have s1 := VRA.out.cell 1 rfl
    have s3 := VRA.out.cell 3 rfl
    have t0 := VQA.out.cell 0 rfl
    have t1 := VQA.out.cell 1 rfl
    have m1 := Vm.out.cell 1 rfl
    have m2 := Vm.out.cell 2 rfl
    have FX := i_fits la ll lc L t pf pa pn pc ps w.heap.size W10 (QL.out.keep S10.out).read (LP.out.keep S10.out) (tag_wf T10.out)
    have e3 : fitX L t pf ps = true := by simp [fitX, F3.out, HP0.out]
    rw [e3] at FX
    clear e3
    go_wp2_with fail
    refine FX.mono ?_
    rintro e u11 ⟨rfl, b11⟩
    have S11 : Hid (Below U.heap.size U u11) := on S10.out b11
    clear s0 s1 s3 t0 t1 m1 m2 FX
    have VRB : Hid (Vb u11 r #[.int .i64 0, .int .i64 y2, .bool z, .slice la ll lc] 29) := VRA.out.keep b11
    have VMB : Hid (Vb u11 m #[.int .i64 0, .int .i64 y2, .bool true, .slice ga gl gc] 29) := Vm.out.keep b11
    have s1 := VRB.out.cell 1 rfl
    have s3 := VRB.out.cell 3 rfl
    have m1 := VMB.out.cell 1 rfl
    have m2 := VMB.out.cell 2 rfl
    have CF := impl_cacheFault la ll lc L u11 (QL.out.keep S11.out).read
    rw [(fit_parts F3.out).1] at CF
    go_wp2_with fail
    refine CF.mono ?_
    rintro e u12 ⟨rfl, b12⟩
    clear s1 s3 m1 m2
    go_wp2_with fail
    go_ret
    exact ⟨rfl, on BU.out (on S11.out b12)⟩
  subst hd0
  by_cases hp0 : pf = 0
  case neg =>
    have hpb : (pf == 0) = false := by simpa using hp0
    clear hp0
    go_wp2_with fail
    refine (LP.out.flt.2 U SU.out).mono ?_
    rintro e u5 ⟨rfl, hu5⟩
    rw [hu5]
    clear hu5 u5
    go_upto_region 8 with fail
    clear g0
    go_wp2_with fail
    refine (SF U SU.out).mono ?_
    rintro e u8 ⟨rfl, b8⟩
    have S8 : Hid (Below U.heap.size U u8) := on SU.out b8
    clear b8
    cases hx : fitX rs t pf ps
    · have IF : ∀ u, Below U.heap.size U u → Calls Try.prog 9 #[.slice ca n cc, .int .i64 t, .slice pa pn pc] u fun e w' => e = .returned (.bool false) ∧ Below u.heap.size u w' := fun u hu => by
        have tt := i_fits ca n cc rs t pf pa pn pc ps w.heap.size u (QC.out.keep hu).read (LP.out.keep hu) (tag_wf T10.out)
        rw [hx] at tt
        exact tt
      clear hx
      go_upto_region 9 with fail
      have D9 : Hid (Below U.heap.size U u8.drew) := S8.out.drew
      have cr0 : Hid (∀ w', Below U.heap.size U w' → w'.cell? ⟨r, 0, none⟩ = some (.int .i64 c)) := fun w' hs => (VR.out.keep hs).cell 0 rfl
      refine wp_region_held (S := fun w' => Below U.heap.size U w') (by kernel_rfl) ?_
      change wpAnyH _ _ _ _ _ _ _ _ (World.drew _)
      generalize u8.drew = d9 at *
      refine wpAnyH_take (i := 0) (v := .slice ca n cc) rfl (by kernel_rfl) (by kernel_rfl) (by kernel_rfl) (fun _ _ _ h => h) (Or.inl ⟨by rfl, fun w' hs => by go_simp⟩) D9.out ?_
      change wpAnyH _ _ _ _ _ _ _ (Act.put _ (some 52) _) _
      simp only [Act.put, List.setIfInBounds_toArray, List.set_cons_zero, List.set_cons_succ]
      refine wpAnyH_take (i := 1) (v := .int .i64 t) rfl (by kernel_rfl) (by kernel_rfl) (by kernel_rfl) (fun _ _ _ h => h) (Or.inl ⟨by rfl, fun w' hs => by go_simp⟩) D9.out ?_
      change wpAnyH _ _ _ _ _ _ _ (Act.put _ (some 53) _) _
      simp only [Act.put, List.setIfInBounds_toArray, List.set_cons_zero, List.set_cons_succ]
      refine wpAnyH_take (i := 2) (v := .slice pa pn pc) rfl (by kernel_rfl) (by kernel_rfl) (by kernel_rfl) (fun _ _ _ h => h) (Or.inl ⟨by rfl, fun w' hs => by go_simp⟩) D9.out ?_
      change wpAnyH _ _ _ _ _ _ _ (Act.put _ (some 54) _) _
      simp only [Act.put, List.setIfInBounds_toArray, List.set_cons_zero, List.set_cons_succ]
      refine wpAnyH_take (i := 3) (v := .int .i64 x) rfl (by kernel_rfl) (by kernel_rfl) (by kernel_rfl) (fun _ _ _ h => h) (Or.inl ⟨by rfl, fun w' hs => by go_simp⟩) D9.out ?_
      change wpAnyH _ _ _ _ _ _ _ (Act.put _ (some 55) _) _
      simp only [Act.put, List.setIfInBounds_toArray, List.set_cons_zero, List.set_cons_succ]
      refine wpAnyH_take (i := 4) (v := .int .i64 k) rfl (by kernel_rfl) (by kernel_rfl) (by kernel_rfl) (fun _ _ _ h => h) (Or.inl ⟨by rfl, fun w' hs => by go_simp⟩) D9.out ?_
      change wpAnyH _ _ _ _ _ _ _ (Act.put _ (some 56) _) _
      simp only [Act.put, List.setIfInBounds_toArray, List.set_cons_zero, List.set_cons_succ]
      refine wpAnyH_take (i := 7) (v := .pointer (some ⟨r, 0, none⟩)) rfl (by kernel_rfl) (by kernel_rfl) (by kernel_rfl) (fun _ _ _ h => h) (Or.inl ⟨by rfl, fun w' hs => by go_simp⟩) D9.out ?_
      change wpAnyH _ _ _ _ _ _ _ (Act.put _ (some 59) _) _
      simp only [Act.put, List.setIfInBounds_toArray, List.set_cons_zero, List.set_cons_succ]
      refine wpAnyH_take (i := 8) (v := .int .i64 c) rfl (by kernel_rfl) (by kernel_rfl) (by kernel_rfl) (fun _ _ _ h => h) (Or.inl ⟨by rfl, fun w' hs => by have hc := cr0.out w' hs; go_simp⟩) D9.out ?_
      change wpAnyH _ _ _ _ _ _ _ (Act.put _ (some 60) _) _
      simp only [Act.put, List.setIfInBounds_toArray, List.set_cons_zero, List.set_cons_succ]
      refine wpAnyH_ready (rs := [5]) (by kernel_rfl) (by simp) ?_
      refine AllReadyH.cons rfl (fun K hK => ?_) AllReadyH.nil
      rw [if_pos (by rfl)]
      go_simp
      refine (SW d9 D9.out).mono ?_
      rintro e x1 ⟨y9, z9, la9, ll9, lc9, rfl, b9⟩
      have X1 : Hid (Below U.heap.size U x1) := on D9.out b9
      refine hK.out _ _ X1.out (fun _ => ?_)
      clear hK K b9
      refine wpAnyH_take (i := 6) (v := .int .i64 c) rfl (by kernel_rfl) (by kernel_rfl) (by kernel_rfl) (fun _ _ _ h => h) (Or.inl ⟨by rfl, fun w' hs => by have hf := field_c0; go_simp⟩) X1.out ?_
      change wpAnyH _ _ _ _ _ _ _ (Act.put _ (some 58) _) _
      simp only [Act.put, List.setIfInBounds_toArray, List.set_cons_zero, List.set_cons_succ]
      refine wpAnyH_take (i := 9) (v := .bool true) rfl (by kernel_rfl) (by kernel_rfl) (by kernel_rfl) (fun _ _ _ h => h) (Or.inl ⟨by rfl, fun w' hs => by go_simp⟩) X1.out ?_
      change wpAnyH _ _ _ _ _ _ _ (Act.put _ (some 61) _) _
      simp only [Act.put, List.setIfInBounds_toArray, List.set_cons_zero, List.set_cons_succ]
      refine wpAnyH_take (i := 10) (v := .bool true) rfl (by kernel_rfl) (by kernel_rfl) (by kernel_rfl) (fun _ _ _ h => h) (Or.inl ⟨by rfl, fun w' hs => by go_simp⟩) X1.out ?_
      change wpAnyH _ _ _ _ _ _ _ (Act.put _ (some 62) _) _
      simp only [Act.put, List.setIfInBounds_toArray, List.set_cons_zero, List.set_cons_succ]
      refine wpAnyH_take (i := 11) (v := .slice ca n cc) rfl (by kernel_rfl) (by kernel_rfl) (by kernel_rfl) (fun _ _ _ h => h) (Or.inl ⟨by rfl, fun w' hs => by go_simp⟩) X1.out ?_
      change wpAnyH _ _ _ _ _ _ _ (Act.put _ (some 63) _) _
      simp only [Act.put, List.setIfInBounds_toArray, List.set_cons_zero, List.set_cons_succ]
      refine wpAnyH_take (i := 12) (v := .int .i64 t) rfl (by kernel_rfl) (by kernel_rfl) (by kernel_rfl) (fun _ _ _ h => h) (Or.inl ⟨by rfl, fun w' hs => by go_simp⟩) X1.out ?_
      change wpAnyH _ _ _ _ _ _ _ (Act.put _ (some 64) _) _
      simp only [Act.put, List.setIfInBounds_toArray, List.set_cons_zero, List.set_cons_succ]
      refine wpAnyH_take (i := 13) (v := .slice pa pn pc) rfl (by kernel_rfl) (by kernel_rfl) (by kernel_rfl) (fun _ _ _ h => h) (Or.inl ⟨by rfl, fun w' hs => by go_simp⟩) X1.out ?_
      change wpAnyH _ _ _ _ _ _ _ (Act.put _ (some 65) _) _
      simp only [Act.put, List.setIfInBounds_toArray, List.set_cons_zero, List.set_cons_succ]
      refine wpAnyH_ready (rs := [14]) (by kernel_rfl) (by simp) ?_
      refine AllReadyH.cons rfl (fun K hK => ?_) AllReadyH.nil
      rw [if_pos (by rfl)]
      go_simp
      refine (IF x1 X1.out).mono ?_
      rintro e x2 ⟨rfl, b9⟩
      have X2 : Hid (Below U.heap.size U x2) := on X1.out b9
      refine hK.out _ _ X2.out (fun _ => ?_)
      clear hK K b9
      refine wpAnyH_take (i := 15) (v := .bool true) rfl (by kernel_rfl) (by kernel_rfl) (by kernel_rfl) (fun _ _ _ h => h) (Or.inl ⟨by rfl, fun w' hs => by go_simp⟩) X2.out ?_
      change wpAnyH _ _ _ _ _ _ _ (Act.put _ (some 67) _) _
      simp only [Act.put, List.setIfInBounds_toArray, List.set_cons_zero, List.set_cons_succ]
      refine wpAnyH_take (i := 16) (v := .bool true) rfl (by kernel_rfl) (by kernel_rfl) (by kernel_rfl) (fun _ _ _ h => h) (Or.inl ⟨by rfl, fun w' hs => by go_simp⟩) X2.out ?_
      change wpAnyH _ _ _ _ _ _ _ (Act.put _ (some 68) _) _
      simp only [Act.put, List.setIfInBounds_toArray, List.set_cons_zero, List.set_cons_succ]
      refine wpAnyH_take (i := 17) (v := .bool true) rfl (by kernel_rfl) (by kernel_rfl) (by kernel_rfl) (fun _ _ _ h => h) (Or.inl ⟨by rfl, fun w' hs => by go_simp⟩) X2.out ?_
      change wpAnyH _ _ _ _ _ _ _ (Act.put _ (some 2) _) _
      simp only [Act.put, List.setIfInBounds_toArray, List.set_cons_zero, List.set_cons_succ]
      refine wpAnyH_done (by kernel_rfl) ?_ _
      go_wp2_with fail
      go_ret
      exact ⟨rfl, on BU.out X2.out⟩
    obtain ⟨hp0, hfv⟩ := fitX_parts hx
    have HFV : Hid (fitV rs t ps = true) := hfv
    have HP0 : Hid (pf = 0) := hp0
    clear hx
    have GD : Hid (_ ∧ _) := LP.out.good hp0
    have CD : Hid (cV rs t pf ps x k = wkC ps x k ∨ tagB t = false) := any_code hp0 hfv
    clear hp0 hfv
    go_wp2_with fail
    have wp := impl_walkPages (.slice pa pn pc) ps x k w.heap.size u8 (GD.out.2.2.1.keep S8.out) (by have := GD.out.2.2.2.1; omega)
    have e1 : wpC ps x k = wkC ps x k := if_pos GD.out.2.2.2.2.2
    have e2 : wpV ps x k = wkV ps x k := if_pos GD.out.2.2.2.2.2
    rw [e1, e2] at wp
    clear e1 e2
    obtain ⟨g, hg⟩ : ∃ g, wkC ps x k = g := ⟨_, rfl⟩
    obtain ⟨v, hv⟩ : ∃ v, wkV ps x k = v := ⟨_, rfl⟩
    have HG : Hid (wkC ps x k = g) := hg
    have HV : Hid (wkV ps x k = v) := hv
    rw [hg, hv] at wp
    clear hg hv
    refine wp.mono ?_
    rintro e u9 ⟨rfl, b_⟩
    clear wp
    go_upto_region 11 with fail
    obtain ⟨q, hq⟩ : ∃ q, u9.heap.size = q := ⟨_, rfl⟩
    have Vq : Hid (Vb (u9.alloc (.cells #[.int .i64 g, .int .i64 v] 35)) q #[.int .i64 g, .int .i64 v] 35) := by show Vb _ _ _ _; rw [← hq]; exact Vb.new _ _ _
    have BWq : Hid (Below u8.heap.size u8 (u9.alloc (.cells #[.int .i64 g, .int .i64 v] 35))) := al b_ _
    have S9 : Hid (Below U.heap.size U (u9.alloc (.cells #[.int .i64 g, .int .i64 v] 35))) := on S8.out BWq.out
    have VR9 : Hid (Vb (u9.alloc (.cells #[.int .i64 g, .int .i64 v] 35)) r #[.int .i64 c, .int .i64 y, .bool z, .slice la ll lc] 29) := VR.out.keep S9.out
    rw [hq]
    generalize u9.alloc (.cells #[.int .i64 g, .int .i64 v] 35) = W9 at *
    clear hq b_
    have s0 := VR9.out.cell 0 rfl
    have t0 := Vq.out.cell 0 rfl
    by_cases hc0 : c = 0
    case neg =>
      have hcb : (c != 0) = true := by simpa using hc0
      clear hc0
      by_cases hcg : c = g
      · subst hcg
        go_wp2_with fail
        go_ret
        exact ⟨rfl, on BU.out S9.out⟩
      · have ht : t = 10 := by
          rcases CD.out with h | h
          · exact absurd (HC.out.symm.trans (h.trans HG.out)) hcg
          · have := T10.out
            unfold tagB at h
            simp at h
            omega
        have hcg' : (c == g) = false := by simpa using hcg
        clear hcg CD
        subst ht
        go_wp2_with fail
        go_ret
        exact ⟨rfl, on BU.out S9.out⟩
    subst hc0
    obtain ⟨z1, z2⟩ := any_zero HC.out
    obtain ⟨f1, f2, f3, f4, f5, -⟩ := HF.out z1 HFV.out z2
    have ag := any_again z1 f3 f4 f5 f2
    have AG : Hid (_ ∧ _) := ag
    have F3 : Hid (fitV L t ps = true) := f3
    have F45 : Hid ((atB x && hasQ L t (x / 8)) = true) := by show _ = true; rw [f4, f5]; rfl
    obtain rfl : g = 0 := HG.out.symm.trans f2
    obtain rfl : y = v := f1.trans HV.out
    clear z1 z2 f1 f2 f3 f4 f5 ag CD s0 t0
    have s0 := VR9.out.cell 0 rfl
    have s1 := VR9.out.cell 1 rfl
    have s3 := VR9.out.cell 3 rfl
    go_wp2_with fail
    refine (i_any la ll lc L t x k pf pa pn pc ps w.heap.size _ (QL.out.keep S9.out).read (LP.out.keep S9.out)).mono ?_
    rintro e u10 ⟨y2, z2, v2, L2, rfl, q2, b_, hF2⟩
    obtain ⟨f1, f2, _, _, _, f6⟩ := hF2 AG.out.1 F3.out AG.out.2.1
    obtain rfl : z2 = true := f6 F45.out
    obtain rfl : y2 = y := f1.trans HV.out
    have hcv : cV L t pf ps x k = 0 := AG.out.2.2
    rw [hcv]
    obtain ⟨ga, gc, hv2, _⟩ := q2.shape
    obtain ⟨gl, hgl⟩ : ∃ gl, L2.length = gl := ⟨_, rfl⟩
    rw [hgl] at hv2
    subst hv2
    clear hgl q2 hF2 f1 f2 f6 hcv s0 s1 s3
    go_upto_region 14 with fail
    obtain ⟨m, hm⟩ : ∃ m, u10.heap.size = m := ⟨_, rfl⟩
    have Vm : Hid (Vb (u10.alloc (.cells #[.int .i64 0, .int .i64 y2, .bool true, .slice ga gl gc] 29)) m #[.int .i64 0, .int .i64 y2, .bool true, .slice ga gl gc] 29) := by show Vb _ _ _ _; rw [← hm]; exact Vb.new _ _ _
    have BWm : Hid (Below W9.heap.size W9 (u10.alloc (.cells #[.int .i64 0, .int .i64 y2, .bool true, .slice ga gl gc] 29))) := al b_ _
    have S10 : Hid (Below U.heap.size U (u10.alloc (.cells #[.int .i64 0, .int .i64 y2, .bool true, .slice ga gl gc] 29))) := on S9.out BWm.out
    have VRA : Hid (Vb (u10.alloc (.cells #[.int .i64 0, .int .i64 y2, .bool true, .slice ga gl gc] 29)) r #[.int .i64 0, .int .i64 y2, .bool z, .slice la ll lc] 29) := VR.out.keep S10.out
    have VQA : Hid (Vb (u10.alloc (.cells #[.int .i64 0, .int .i64 y2, .bool true, .slice ga gl gc] 29)) q #[.int .i64 0, .int .i64 y2] 35) := Vq.out.keep BWm.out
    rw [hm]
    generalize u10.alloc (.cells #[.int .i64 0, .int .i64 y2, .bool true, .slice ga gl gc] 29) = W10 at *
    clear hm b_
    have s0 := VRA.out.cell 0 rfl
    have s1 := VRA.out.cell 1 rfl
    have s3 := VRA.out.cell 3 rfl
    have t0 := VQA.out.cell 0 rfl
    have t1 := VQA.out.cell 1 rfl
    have m1 := Vm.out.cell 1 rfl
    have m2 := Vm.out.cell 2 rfl
    have FX := i_fits la ll lc L t pf pa pn pc ps w.heap.size W10 (QL.out.keep S10.out).read (LP.out.keep S10.out) (tag_wf T10.out)
    have e3 : fitX L t pf ps = true := by simp [fitX, F3.out, HP0.out]
    rw [e3] at FX
    clear e3
    go_wp2_with fail
    refine FX.mono ?_
    rintro e u11 ⟨rfl, b11⟩
    have S11 : Hid (Below U.heap.size U u11) := on S10.out b11
    clear s0 s1 s3 t0 t1 m1 m2 FX
    have VRB : Hid (Vb u11 r #[.int .i64 0, .int .i64 y2, .bool z, .slice la ll lc] 29) := VRA.out.keep b11
    have VMB : Hid (Vb u11 m #[.int .i64 0, .int .i64 y2, .bool true, .slice ga gl gc] 29) := Vm.out.keep b11
    have s1 := VRB.out.cell 1 rfl
    have s3 := VRB.out.cell 3 rfl
    have m1 := VMB.out.cell 1 rfl
    have m2 := VMB.out.cell 2 rfl
    have CF := impl_cacheFault la ll lc L u11 (QL.out.keep S11.out).read
    rw [(fit_parts F3.out).1] at CF
    go_wp2_with fail
    refine CF.mono ?_
    rintro e u12 ⟨rfl, b12⟩
    clear s1 s3 m1 m2
    go_wp2_with fail
    go_ret
    exact ⟨rfl, on BU.out (on S11.out b12)⟩
  have g3 := Vf.out.cell 3 rfl
  have PZ := LP.out.flt.2 U SU.out
  rw [hp0] at PZ
  go_wp2_with fail
  refine PZ.mono ?_
  rintro e u5 ⟨rfl, hu5⟩
  rw [hu5]
  clear hu5 u5
  have FX := i_fits fa fl fc (flL rs t) t pf pa pn pc ps w.heap.size U QF.out.read LP.out (tag_wf T10.out)
  have e3 : fitX (flL rs t) t pf ps = true := by simp [fitX, hp0, fit_flush HD.out (LP.out.good hp0).2.2.2.2.2]
  rw [e3] at FX
  clear e3 PZ hp0
  go_wp2_with fail
  refine FX.mono ?_
  rintro e u6 ⟨rfl, b6⟩
  have S6 : Hid (Below U.heap.size U u6) := b6
  clear b6 FX g0 g3
  go_upto_region 8 with fail
  go_wp2_with fail
  refine (SF u6 S6.out).mono ?_
  rintro e u8 ⟨rfl, b8⟩
  have S8 : Hid (Below U.heap.size U u8) := on S6.out b8
  clear b8
  cases hx : fitX rs t pf ps
  · have IF : ∀ u, Below U.heap.size U u → Calls Try.prog 9 #[.slice ca n cc, .int .i64 t, .slice pa pn pc] u fun e w' => e = .returned (.bool false) ∧ Below u.heap.size u w' := fun u hu => by
      have tt := i_fits ca n cc rs t pf pa pn pc ps w.heap.size u (QC.out.keep hu).read (LP.out.keep hu) (tag_wf T10.out)
      rw [hx] at tt
      exact tt
    clear hx
    go_upto_region 9 with fail
    have D9 : Hid (Below U.heap.size U u8.drew) := S8.out.drew
    have cr0 : Hid (∀ w', Below U.heap.size U w' → w'.cell? ⟨r, 0, none⟩ = some (.int .i64 c)) := fun w' hs => (VR.out.keep hs).cell 0 rfl
    refine wp_region_held (S := fun w' => Below U.heap.size U w') (by kernel_rfl) ?_
    change wpAnyH _ _ _ _ _ _ _ _ (World.drew _)
    generalize u8.drew = d9 at *
    refine wpAnyH_take (i := 0) (v := .slice ca n cc) rfl (by kernel_rfl) (by kernel_rfl) (by kernel_rfl) (fun _ _ _ h => h) (Or.inl ⟨by rfl, fun w' hs => by go_simp⟩) D9.out ?_
    change wpAnyH _ _ _ _ _ _ _ (Act.put _ (some 52) _) _
    simp only [Act.put, List.setIfInBounds_toArray, List.set_cons_zero, List.set_cons_succ]
    refine wpAnyH_take (i := 1) (v := .int .i64 t) rfl (by kernel_rfl) (by kernel_rfl) (by kernel_rfl) (fun _ _ _ h => h) (Or.inl ⟨by rfl, fun w' hs => by go_simp⟩) D9.out ?_
    change wpAnyH _ _ _ _ _ _ _ (Act.put _ (some 53) _) _
    simp only [Act.put, List.setIfInBounds_toArray, List.set_cons_zero, List.set_cons_succ]
    refine wpAnyH_take (i := 2) (v := .slice pa pn pc) rfl (by kernel_rfl) (by kernel_rfl) (by kernel_rfl) (fun _ _ _ h => h) (Or.inl ⟨by rfl, fun w' hs => by go_simp⟩) D9.out ?_
    change wpAnyH _ _ _ _ _ _ _ (Act.put _ (some 54) _) _
    simp only [Act.put, List.setIfInBounds_toArray, List.set_cons_zero, List.set_cons_succ]
    refine wpAnyH_take (i := 3) (v := .int .i64 x) rfl (by kernel_rfl) (by kernel_rfl) (by kernel_rfl) (fun _ _ _ h => h) (Or.inl ⟨by rfl, fun w' hs => by go_simp⟩) D9.out ?_
    change wpAnyH _ _ _ _ _ _ _ (Act.put _ (some 55) _) _
    simp only [Act.put, List.setIfInBounds_toArray, List.set_cons_zero, List.set_cons_succ]
    refine wpAnyH_take (i := 4) (v := .int .i64 k) rfl (by kernel_rfl) (by kernel_rfl) (by kernel_rfl) (fun _ _ _ h => h) (Or.inl ⟨by rfl, fun w' hs => by go_simp⟩) D9.out ?_
    change wpAnyH _ _ _ _ _ _ _ (Act.put _ (some 56) _) _
    simp only [Act.put, List.setIfInBounds_toArray, List.set_cons_zero, List.set_cons_succ]
    refine wpAnyH_take (i := 7) (v := .pointer (some ⟨r, 0, none⟩)) rfl (by kernel_rfl) (by kernel_rfl) (by kernel_rfl) (fun _ _ _ h => h) (Or.inl ⟨by rfl, fun w' hs => by go_simp⟩) D9.out ?_
    change wpAnyH _ _ _ _ _ _ _ (Act.put _ (some 59) _) _
    simp only [Act.put, List.setIfInBounds_toArray, List.set_cons_zero, List.set_cons_succ]
    refine wpAnyH_take (i := 8) (v := .int .i64 c) rfl (by kernel_rfl) (by kernel_rfl) (by kernel_rfl) (fun _ _ _ h => h) (Or.inl ⟨by rfl, fun w' hs => by have hc := cr0.out w' hs; go_simp⟩) D9.out ?_
    change wpAnyH _ _ _ _ _ _ _ (Act.put _ (some 60) _) _
    simp only [Act.put, List.setIfInBounds_toArray, List.set_cons_zero, List.set_cons_succ]
    refine wpAnyH_ready (rs := [5]) (by kernel_rfl) (by simp) ?_
    refine AllReadyH.cons rfl (fun K hK => ?_) AllReadyH.nil
    rw [if_pos (by rfl)]
    go_simp
    refine (SW d9 D9.out).mono ?_
    rintro e x1 ⟨y9, z9, la9, ll9, lc9, rfl, b9⟩
    have X1 : Hid (Below U.heap.size U x1) := on D9.out b9
    refine hK.out _ _ X1.out (fun _ => ?_)
    clear hK K b9
    refine wpAnyH_take (i := 6) (v := .int .i64 c) rfl (by kernel_rfl) (by kernel_rfl) (by kernel_rfl) (fun _ _ _ h => h) (Or.inl ⟨by rfl, fun w' hs => by have hf := field_c0; go_simp⟩) X1.out ?_
    change wpAnyH _ _ _ _ _ _ _ (Act.put _ (some 58) _) _
    simp only [Act.put, List.setIfInBounds_toArray, List.set_cons_zero, List.set_cons_succ]
    refine wpAnyH_take (i := 9) (v := .bool true) rfl (by kernel_rfl) (by kernel_rfl) (by kernel_rfl) (fun _ _ _ h => h) (Or.inl ⟨by rfl, fun w' hs => by go_simp⟩) X1.out ?_
    change wpAnyH _ _ _ _ _ _ _ (Act.put _ (some 61) _) _
    simp only [Act.put, List.setIfInBounds_toArray, List.set_cons_zero, List.set_cons_succ]
    refine wpAnyH_take (i := 10) (v := .bool true) rfl (by kernel_rfl) (by kernel_rfl) (by kernel_rfl) (fun _ _ _ h => h) (Or.inl ⟨by rfl, fun w' hs => by go_simp⟩) X1.out ?_
    change wpAnyH _ _ _ _ _ _ _ (Act.put _ (some 62) _) _
    simp only [Act.put, List.setIfInBounds_toArray, List.set_cons_zero, List.set_cons_succ]
    refine wpAnyH_take (i := 11) (v := .slice ca n cc) rfl (by kernel_rfl) (by kernel_rfl) (by kernel_rfl) (fun _ _ _ h => h) (Or.inl ⟨by rfl, fun w' hs => by go_simp⟩) X1.out ?_
    change wpAnyH _ _ _ _ _ _ _ (Act.put _ (some 63) _) _
    simp only [Act.put, List.setIfInBounds_toArray, List.set_cons_zero, List.set_cons_succ]
    refine wpAnyH_take (i := 12) (v := .int .i64 t) rfl (by kernel_rfl) (by kernel_rfl) (by kernel_rfl) (fun _ _ _ h => h) (Or.inl ⟨by rfl, fun w' hs => by go_simp⟩) X1.out ?_
    change wpAnyH _ _ _ _ _ _ _ (Act.put _ (some 64) _) _
    simp only [Act.put, List.setIfInBounds_toArray, List.set_cons_zero, List.set_cons_succ]
    refine wpAnyH_take (i := 13) (v := .slice pa pn pc) rfl (by kernel_rfl) (by kernel_rfl) (by kernel_rfl) (fun _ _ _ h => h) (Or.inl ⟨by rfl, fun w' hs => by go_simp⟩) X1.out ?_
    change wpAnyH _ _ _ _ _ _ _ (Act.put _ (some 65) _) _
    simp only [Act.put, List.setIfInBounds_toArray, List.set_cons_zero, List.set_cons_succ]
    refine wpAnyH_ready (rs := [14]) (by kernel_rfl) (by simp) ?_
    refine AllReadyH.cons rfl (fun K hK => ?_) AllReadyH.nil
    rw [if_pos (by rfl)]
    go_simp
    refine (IF x1 X1.out).mono ?_
    rintro e x2 ⟨rfl, b9⟩
    have X2 : Hid (Below U.heap.size U x2) := on X1.out b9
    refine hK.out _ _ X2.out (fun _ => ?_)
    clear hK K b9
    refine wpAnyH_take (i := 15) (v := .bool true) rfl (by kernel_rfl) (by kernel_rfl) (by kernel_rfl) (fun _ _ _ h => h) (Or.inl ⟨by rfl, fun w' hs => by go_simp⟩) X2.out ?_
    change wpAnyH _ _ _ _ _ _ _ (Act.put _ (some 67) _) _
    simp only [Act.put, List.setIfInBounds_toArray, List.set_cons_zero, List.set_cons_succ]
    refine wpAnyH_take (i := 16) (v := .bool true) rfl (by kernel_rfl) (by kernel_rfl) (by kernel_rfl) (fun _ _ _ h => h) (Or.inl ⟨by rfl, fun w' hs => by go_simp⟩) X2.out ?_
    change wpAnyH _ _ _ _ _ _ _ (Act.put _ (some 68) _) _
    simp only [Act.put, List.setIfInBounds_toArray, List.set_cons_zero, List.set_cons_succ]
    refine wpAnyH_take (i := 17) (v := .bool true) rfl (by kernel_rfl) (by kernel_rfl) (by kernel_rfl) (fun _ _ _ h => h) (Or.inl ⟨by rfl, fun w' hs => by go_simp⟩) X2.out ?_
    change wpAnyH _ _ _ _ _ _ _ (Act.put _ (some 2) _) _
    simp only [Act.put, List.setIfInBounds_toArray, List.set_cons_zero, List.set_cons_succ]
    refine wpAnyH_done (by kernel_rfl) ?_ _
    go_wp2_with fail
    go_ret
    exact ⟨rfl, on BU.out X2.out⟩
  obtain ⟨hp0, hfv⟩ := fitX_parts hx
  have HFV : Hid (fitV rs t ps = true) := hfv
  have HP0 : Hid (pf = 0) := hp0
  clear hx
  have GD : Hid (_ ∧ _) := LP.out.good hp0
  have CD : Hid (cV rs t pf ps x k = wkC ps x k ∨ tagB t = false) := any_code hp0 hfv
  clear hp0 hfv
  go_wp2_with fail
  have wp := impl_walkPages (.slice pa pn pc) ps x k w.heap.size u8 (GD.out.2.2.1.keep S8.out) (by have := GD.out.2.2.2.1; omega)
  have e1 : wpC ps x k = wkC ps x k := if_pos GD.out.2.2.2.2.2
  have e2 : wpV ps x k = wkV ps x k := if_pos GD.out.2.2.2.2.2
  rw [e1, e2] at wp
  clear e1 e2
  obtain ⟨g, hg⟩ : ∃ g, wkC ps x k = g := ⟨_, rfl⟩
  obtain ⟨v, hv⟩ : ∃ v, wkV ps x k = v := ⟨_, rfl⟩
  have HG : Hid (wkC ps x k = g) := hg
  have HV : Hid (wkV ps x k = v) := hv
  rw [hg, hv] at wp
  clear hg hv
  refine wp.mono ?_
  rintro e u9 ⟨rfl, b_⟩
  clear wp
  go_upto_region 11 with fail
  obtain ⟨q, hq⟩ : ∃ q, u9.heap.size = q := ⟨_, rfl⟩
  have Vq : Hid (Vb (u9.alloc (.cells #[.int .i64 g, .int .i64 v] 35)) q #[.int .i64 g, .int .i64 v] 35) := by show Vb _ _ _ _; rw [← hq]; exact Vb.new _ _ _
  have BWq : Hid (Below u8.heap.size u8 (u9.alloc (.cells #[.int .i64 g, .int .i64 v] 35))) := al b_ _
  have S9 : Hid (Below U.heap.size U (u9.alloc (.cells #[.int .i64 g, .int .i64 v] 35))) := on S8.out BWq.out
  have VR9 : Hid (Vb (u9.alloc (.cells #[.int .i64 g, .int .i64 v] 35)) r #[.int .i64 c, .int .i64 y, .bool z, .slice la ll lc] 29) := VR.out.keep S9.out
  rw [hq]
  generalize u9.alloc (.cells #[.int .i64 g, .int .i64 v] 35) = W9 at *
  clear hq b_
  have s0 := VR9.out.cell 0 rfl
  have t0 := Vq.out.cell 0 rfl
  by_cases hc0 : c = 0
  case neg =>
    have hcb : (c != 0) = true := by simpa using hc0
    clear hc0
    by_cases hcg : c = g
    · subst hcg
      go_wp2_with fail
      go_ret
      exact ⟨rfl, on BU.out S9.out⟩
    · have ht : t = 10 := by
        rcases CD.out with h | h
        · exact absurd (HC.out.symm.trans (h.trans HG.out)) hcg
        · have := T10.out
          unfold tagB at h
          simp at h
          omega
      have hcg' : (c == g) = false := by simpa using hcg
      clear hcg CD
      subst ht
      go_wp2_with fail
      go_ret
      exact ⟨rfl, on BU.out S9.out⟩
  subst hc0
  obtain ⟨z1, z2⟩ := any_zero HC.out
  obtain ⟨f1, f2, f3, f4, f5, -⟩ := HF.out z1 HFV.out z2
  have ag := any_again z1 f3 f4 f5 f2
  have AG : Hid (_ ∧ _) := ag
  have F3 : Hid (fitV L t ps = true) := f3
  have F45 : Hid ((atB x && hasQ L t (x / 8)) = true) := by show _ = true; rw [f4, f5]; rfl
  obtain rfl : g = 0 := HG.out.symm.trans f2
  obtain rfl : y = v := f1.trans HV.out
  clear z1 z2 f1 f2 f3 f4 f5 ag CD s0 t0
  have s0 := VR9.out.cell 0 rfl
  have s1 := VR9.out.cell 1 rfl
  have s3 := VR9.out.cell 3 rfl
  go_wp2_with fail
  refine (i_any la ll lc L t x k pf pa pn pc ps w.heap.size _ (QL.out.keep S9.out).read (LP.out.keep S9.out)).mono ?_
  rintro e u10 ⟨y2, z2, v2, L2, rfl, q2, b_, hF2⟩
  obtain ⟨f1, f2, _, _, _, f6⟩ := hF2 AG.out.1 F3.out AG.out.2.1
  obtain rfl : z2 = true := f6 F45.out
  obtain rfl : y2 = y := f1.trans HV.out
  have hcv : cV L t pf ps x k = 0 := AG.out.2.2
  rw [hcv]
  obtain ⟨ga, gc, hv2, _⟩ := q2.shape
  obtain ⟨gl, hgl⟩ : ∃ gl, L2.length = gl := ⟨_, rfl⟩
  rw [hgl] at hv2
  subst hv2
  clear hgl q2 hF2 f1 f2 f6 hcv s0 s1 s3
  go_upto_region 14 with fail
  obtain ⟨m, hm⟩ : ∃ m, u10.heap.size = m := ⟨_, rfl⟩
  have Vm : Hid (Vb (u10.alloc (.cells #[.int .i64 0, .int .i64 y2, .bool true, .slice ga gl gc] 29)) m #[.int .i64 0, .int .i64 y2, .bool true, .slice ga gl gc] 29) := by show Vb _ _ _ _; rw [← hm]; exact Vb.new _ _ _
  have BWm : Hid (Below W9.heap.size W9 (u10.alloc (.cells #[.int .i64 0, .int .i64 y2, .bool true, .slice ga gl gc] 29))) := al b_ _
  have S10 : Hid (Below U.heap.size U (u10.alloc (.cells #[.int .i64 0, .int .i64 y2, .bool true, .slice ga gl gc] 29))) := on S9.out BWm.out
  have VRA : Hid (Vb (u10.alloc (.cells #[.int .i64 0, .int .i64 y2, .bool true, .slice ga gl gc] 29)) r #[.int .i64 0, .int .i64 y2, .bool z, .slice la ll lc] 29) := VR.out.keep S10.out
  have VQA : Hid (Vb (u10.alloc (.cells #[.int .i64 0, .int .i64 y2, .bool true, .slice ga gl gc] 29)) q #[.int .i64 0, .int .i64 y2] 35) := Vq.out.keep BWm.out
  rw [hm]
  generalize u10.alloc (.cells #[.int .i64 0, .int .i64 y2, .bool true, .slice ga gl gc] 29) = W10 at *
  clear hm b_
  have s0 := VRA.out.cell 0 rfl
  have s1 := VRA.out.cell 1 rfl
  have s3 := VRA.out.cell 3 rfl
  have t0 := VQA.out.cell 0 rfl
  have t1 := VQA.out.cell 1 rfl
  have m1 := Vm.out.cell 1 rfl
  have m2 := Vm.out.cell 2 rfl
  have FX := i_fits la ll lc L t pf pa pn pc ps w.heap.size W10 (QL.out.keep S10.out).read (LP.out.keep S10.out) (tag_wf T10.out)
  have e3 : fitX L t pf ps = true := by simp [fitX, F3.out, HP0.out]
  rw [e3] at FX
  clear e3
  go_wp2_with fail
  refine FX.mono ?_
  rintro e u11 ⟨rfl, b11⟩
  have S11 : Hid (Below U.heap.size U u11) := on S10.out b11
  clear s0 s1 s3 t0 t1 m1 m2 FX
  have VRB : Hid (Vb u11 r #[.int .i64 0, .int .i64 y2, .bool z, .slice la ll lc] 29) := VRA.out.keep b11
  have VMB : Hid (Vb u11 m #[.int .i64 0, .int .i64 y2, .bool true, .slice ga gl gc] 29) := Vm.out.keep b11
  have s1 := VRB.out.cell 1 rfl
  have s3 := VRB.out.cell 3 rfl
  have m1 := VMB.out.cell 1 rfl
  have m2 := VMB.out.cell 2 rfl
  have CF := impl_cacheFault la ll lc L u11 (QL.out.keep S11.out).read
  rw [(fit_parts F3.out).1] at CF
  go_wp2_with fail
  refine CF.mono ?_
  rintro e u12 ⟨rfl, b12⟩
  clear s1 s3 m1 m2
  go_wp2_with fail
  go_ret
  exact ⟨rfl, on BU.out (on S11.out b12)⟩

set_option maxRecDepth 100000 in
theorem lifted (os : Os) (started : os.Started) (H : Type) (enc : TypeId × Value → H) :
    ReturnsInHanded {} Try.checked os 3 .any (Rows.fnCachesSpec.pre6 enc Try.prog Try.f3 Rows.fnCachesRow.domain false) (Rows.fnCachesSpec.post enc Try.prog Try.f3 false true false false) := by
  refine returnsInHanded_of_change (C := Try.checked) own started (by kernel_rfl) Try.func3
    (ChangeSpec.witness6 (enc := enc) (C := Try.checked) false ⟨#[], #[.slice none 0 0], []⟩ 8 (by kernel_rfl) (by kernel_rfl) (by kernel_rfl) (by kernel_rfl)) ?_
  intro W base args ds gs before hval0 hW hcnd _
  have hval : ∀ (j : Nat) t v, Try.f3.params[j]? = some t → args[j]? = some v → Value.okWide Try.prog W .any base t v := hval0
  have hW' := hW
  obtain ⟨p, q, hA0, hV, rfl, hfz, hnd⟩ := hW
  have hA : DataW.TrodAll enc Try.prog W 0 (fun _ => true) true Try.f3.params.toList args.toList ds p := hA0
  rw [Try.params3] at hA hval
  obtain ⟨v0, vs0, d0, ds0, p0, q0, hargs, rfl, rfl, h0, r0⟩ := trodAll_cons hA
  obtain ⟨rfl, rfl, rfl⟩ := trodAll_nil r0
  obtain rfl : args = #[v0] := by cases args; simp_all
  obtain ⟨rfl, rfl⟩ := trodVars_none hV
  obtain ⟨a0, len0, cap0, rfl⟩ := okWide_slice Try.underlying22 (hval 0 22 v0 rfl rfl)
  have k0 := h0
  have lt0 : ∀ x ∈ p0, x.block < W.heap.size := by obtain ⟨m, hm⟩ := k0; exact DataW.trod_lt m _ _ _ hm
  obtain ⟨z0, w0⟩ : ∃ zs, IsRow .u8 W a0 len0 cap0 zs := by
    obtain ⟨fuel, hf⟩ := h0
    rcases open_ints Try.underlying22 Try.underlying5 (by kernel_rfl) hf with ⟨hcs, _⟩ | ⟨x, l, c, zs, hcs, _, hl, hm, hz, _, hcell, hwz⟩
    · simp [Value.cells] at hcs
      obtain ⟨rfl, rfl, rfl⟩ := hcs
      exact ⟨[], .inl ⟨rfl, rfl, rfl, rfl⟩⟩
    · simp [Value.cells] at hcs
      obtain ⟨rfl, rfl, rfl⟩ := hcs
      exact ⟨_, IsRow.of_all hl hm (by simpa using hz) hcell hwz⟩
  clear hA0 hval0
  refine (walk a0 len0 cap0 z0 W w0).mono fun e W' ⟨he, bel⟩ => ?_
  subst he
  exact ⟨_, rfl, _, _, _, [], _, [], hW', trodAll_mk1 (shut_bool Try.underlying4 _), (trodAll_cons_mk (Below.trod laidOut (by kernel_rfl) (of_decide_eq_true (by kernel_rfl)) k0 bel lt0) trodAll_mk0), rfl, bel.frame _, fun h => by cases h⟩

theorem over : Rows.fnCachesRow.holds Try.pinned (OpenSpec.ofChange Rows.fnCachesSpec) :=
  OpenClaim.holds_of_wide 3 Try.f3 rfl rfl rfl rfl rfl rfl rfl ⟨rfl, rfl, rfl, rfl, rfl⟩ rfl rfl rfl rfl rfl (by kernel_rfl) Try.func3 (by kernel_rfl)
    (of_decide_eq_true (by kernel_rfl)) (by unfold Func.isWrapper; first | (rw [if_pos (by decide +kernel)]; kernel_rfl) | (rw [if_neg (by decide +kernel)]; exact ⟨rfl, rfl⟩))
    (fun os started H enc _ => lifted os started H enc)

theorem proved : Rows.FnCachesSaid := over
end Go.Proofs.Ytaajaikpkcgalaa.fnCachesDone
