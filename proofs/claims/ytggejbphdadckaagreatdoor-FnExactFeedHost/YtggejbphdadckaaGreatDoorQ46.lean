/- Texts of this seat, joined. -/
import Derived.Great.BuildSlice
import Derived.Deep.RegionWith
import Derived.Deep.RegionHeld3
import Derived.Deep.Cut
import Derived.Deep.CutRange
import Derived.Test.YtggejbphdadckaaGreatDoorQ29
import Derived.Test.YtggejbphdadckaaGreatDoorQ42
import Derived.Test.YtggejbphdadckaaGreatDoorQ43
import Derived.Test.YtggejbphdadckaaGreatDoorQ45
namespace Go.Proofs.YtggejbphdadckaaGreatDoor
open Go.RowKit
set_option linter.unusedVariables false
structure Hoz (X : Hst) : Prop where
  pf : pfV X.pol = 0
  ml : X.mem.length = 192
  mw : X.mem.all isW = true
  hl : X.harts.length = X.pol.own.length
  ok : ∀ k, k < X.harts.length → Hok (X.harts.getD k voidH)
  own : X.pol.own.length ≤ 3
  own1 : 1 ≤ X.pol.own.length
theorem harts_eachG : ∀ (hs : List Ht), hartsV hs = 0 → ∀ j, j < hs.length → hfV (hs.getD j voidH) = 0
  | [], _, j, hj => absurd hj (Nat.not_lt_zero _)
  | h :: t, hv, j, hj => by
    rw [hartsV] at hv
    split at hv
    · rename_i h0
      match j, hj with
      | 0, _ => exact h0
      | j + 1, hj => exact harts_eachG t hv j (by simpa using hj)
    · rename_i h0
      exact absurd hv h0
theorem hoz_of {X : Hst} (h : hoV X = 0) : Hoz X := by
  obtain ⟨hp, _, _⟩ := ho_ok h
  have hpp := pf_parts X.pol hp
  unfold hoV at h
  rw [if_pos hp] at h
  split at h
  case isFalse => cases h
  rename_i hm
  split at h
  case isFalse h3 => exact absurd h h3
  rename_i hh
  have hml := hm.1
  unfold wholeB at hml
  simp at hml
  have hw : X.mem.all isW = true := by
    have h1 := hml.2
    unfold memV at h1
    split at h1
    · split at h1
      · assumption
      · cases h1
    · cases h1
  exact ⟨hp, hml.1, hw, hm.2, fun k hk => hok_of (harts_eachG X.harts hh k hk), hpp.1, hpp.2.2.2.2.2.2⟩
structure Gv where
  i : Value
  o : Value
  l : Value
structure Gs where
  q : Gv
  H : Ht
  ps : List (Int × Int)
  ca : Int
  ri : Int
def gsz : Gs := ⟨⟨.slice none 0 0, .slice none 0 0, .slice none 0 0⟩, voidH, [], 0, 0⟩
def cel38 (g : Value) (s : Gs) : List Value := (mcr s.H s.q.i s.q.o s.q.l g s.ca s.ri).toList
theorem cel38_len (g : Value) (s : Gs) : (cel38 g s).length = 38 := rfl
def flatR (g : Value) : List Gs → List Value
  | [] => []
  | s :: t => cel38 g s ++ flatR g t
theorem flatR_app (g : Value) : ∀ (a b : List Gs), flatR g (a ++ b) = flatR g a ++ flatR g b
  | [], b => rfl
  | s :: t, b => by rw [List.cons_append, flatR, flatR, flatR_app g t b, List.append_assoc]
theorem flatR_get (g : Value) : ∀ (rs : List Gs) (k t : Nat), k < rs.length → t < 38 → (flatR g rs)[k * 38 + t]? = (cel38 g (rs.getD k gsz))[t]?
  | [], k, t, hk, _ => by simp at hk
  | s :: r, 0, t, _, ht => by
    rw [flatR, Nat.zero_mul, Nat.zero_add, List.getElem?_append_left (by rw [cel38_len]; exact ht)]
    rfl
  | s :: r, k + 1, t, hk, ht => by
    rw [flatR, List.getElem?_append_right (by rw [cel38_len]; omega), cel38_len]
    have := flatR_get g r k t (by simpa using hk) ht
    rw [show (k + 1) * 38 + t - 38 = k * 38 + t by omega, this]
    rfl
theorem flatR_one (g : Value) (hg : g.oneCell' = true) : ∀ (rs : List Gs), (∀ s ∈ rs, s.q.i.oneCell' = true ∧ s.q.o.oneCell' = true ∧ s.q.l.oneCell' = true) → ∀ u ∈ flatR g rs, u.oneCell' = true
  | [], _, u, hu => by cases hu
  | s :: t, h, u, hu => by
    rw [flatR] at hu
    rcases List.mem_append.1 hu with hu | hu
    · obtain ⟨h1, h2, h3⟩ := h s (by simp)
      have := mcr_one s.H s.q.i s.q.o s.q.l g s.ca s.ri h1 h2 h3 hg
      rw [Array.all_eq_true'] at this
      exact this u (by rw [← Array.mem_toList_iff]; exact hu)
    · exact flatR_one g hg t (fun s' hs => h s' (by simp [hs])) u hu
theorem info_runner : (Tryz.prog.info? 152).map (fun i => (i.zero, i.size, i.bytes)) = some (some (.agg mrz), 38, 352) := by kernel_rfl
structure Gr (w : World) (base : Nat) (s : Gs) : Prop where
  i : Nums w base s.q.i s.H.inn
  o : ∃ bo, base ≤ bo ∧ bo ≤ w.heap.size ∧ Nums w bo s.q.o s.H.out ∧ ∀ k, s.q.i.ownBlock = some k → k < bo
  l : Prs 174 w base s.q.l s.ps
  l8 : s.ps.length = 8
theorem Gr.keep {w w' : World} {base : Nat} {s : Gs} (h : Gr w base s) (b : Below w.heap.size w w') : Gr w' base s :=
  ⟨h.i.keep b, by obtain ⟨bo, h1, h2, h3, h4⟩ := h.o; exact ⟨bo, h1, Nat.le_trans h2 b.size, h3.keep b, h4⟩, h.l.keep b, h.l8⟩
theorem Gr.mono {w : World} {base base' : Nat} {s : Gs} (h : Gr w base s) (hb : base' ≤ base) : Gr w base' s :=
  ⟨h.i.mono hb, by obtain ⟨bo, h1, h2, h3, h4⟩ := h.o; exact ⟨bo, Nat.le_trans hb h1, h2, h3, h4⟩, row_monoX h.l hb, h.l8⟩
theorem Gr.ky {E : TypeId} {w w' : World} {base : Nat} {s : Gs} (h : Gr w base s) (k : Ky (some E) w w') (hs : w.heap.size ≤ w'.heap.size) (h1 : E ≠ 2) (h2 : E ≠ 174) : Gr w' base s := by
  have n1 : some 2 ≠ some E := fun e => h1 (by injection e with e; exact e.symm)
  have n2 : some 174 ≠ some E := fun e => h2 (by injection e with e; exact e.symm)
  exact ⟨k.row h.i n1, by obtain ⟨bo, h1, h2, h3, h4⟩ := h.o; exact ⟨bo, h1, Nat.le_trans h2 hs, k.row h3 n1, h4⟩, k.row h.l n2, h.l8⟩
theorem Gr.hoX {w w' : World} {base : Nat} {s : Gs} (h : Gr w base s) (k : Ho base w w') : Gr w' base s :=
  ⟨h.i.ho k, by obtain ⟨bo, h1, h2, h3, h4⟩ := h.o; exact ⟨bo, h1, Nat.le_trans h2 k.size, h3.ho (ho_lessX k h1), h4⟩, row_hoX h.l k, h.l8⟩
def Gv.two (q : Gv) : List Value := [q.i, q.o]
structure Gw (w : World) (base : Nat) (g v : Value) (hs : List Ht) (P : Plc) (j : Nat) (rs : List Gs) : Prop where
  len : rs.length = j
  row : w.ownsRow base 152 38 v rs.length (flatR g rs)
  one : ∀ (k : Nat) (s : Gs), rs[k]? = some s → s.H = hs.getD k voidH ∧ s.ps = pforL (P.own.getD k []) P.lanes (k : Int) 8 ∧ s.ca = -1 ∧ s.ri = -1 ∧ Gr w base s
  apart : (rs.flatMap fun s => s.q.two).Pairwise Apt
theorem Gw.keep {w w' : World} {base j : Nat} {g v : Value} {hs : List Ht} {P : Plc} {rs : List Gs} (h : Gw w base g v hs P j rs) (b : Below w.heap.size w w') : Gw w' base g v hs P j rs :=
  ⟨h.len, row_keepX h.row b, fun k s e => by obtain ⟨h1, h2, h3, h4, h5⟩ := h.one k s e; exact ⟨h1, h2, h3, h4, h5.keep b⟩, h.apart⟩
theorem Gw.ky {E : TypeId} {w w' : World} {base j : Nat} {g v : Value} {hs : List Ht} {P : Plc} {rs : List Gs} (h : Gw w base g v hs P j rs) (k : Ky (some E) w w') (hs' : w.heap.size ≤ w'.heap.size) (h1 : E ≠ 152) (h2 : E ≠ 2) (h3 : E ≠ 174) : Gw w' base g v hs P j rs :=
  ⟨h.len, k.row h.row (fun e => h1 (by injection e with e; exact e.symm)), fun i s e => by obtain ⟨k1, k2, k3, k4, k5⟩ := h.one i s e; exact ⟨k1, k2, k3, k4, k5.ky k hs' h2 h3⟩, h.apart⟩
theorem Gw.hoX {w w' : World} {base j : Nat} {g v : Value} {hs : List Ht} {P : Plc} {rs : List Gs} (h : Gw w base g v hs P j rs) (k : Ho base w w') : Gw w' base g v hs P j rs :=
  ⟨h.len, row_hoX h.row k, fun i s e => by obtain ⟨k1, k2, k3, k4, k5⟩ := h.one i s e; exact ⟨k1, k2, k3, k4, k5.hoX k⟩, h.apart⟩
theorem Gw.lists {w : World} {base j : Nat} {g v : Value} {hs : List Ht} {P : Plc} {rs : List Gs} (h : Gw w base g v hs P j rs) : ∀ u ∈ (rs.flatMap fun s => s.q.two), ∃ zs, Nums w base u zs := fun u hu => by
  obtain ⟨s, hs, hv⟩ := List.mem_flatMap.1 hu
  obtain ⟨i, hi, e⟩ := List.mem_iff_getElem.1 hs
  obtain ⟨_, _, _, _, m⟩ := h.one i s (by rw [List.getElem?_eq_getElem hi, e])
  simp only [Gv.two, List.mem_cons, List.not_mem_nil, or_false] at hv
  rcases hv with rfl | rfl
  · exact ⟨_, m.i⟩
  · obtain ⟨bo, h1, _, h3, _⟩ := m.o; exact ⟨_, h3.mono h1⟩
theorem Gw.step {wr w w' : World} {base j : Nat} {g v v' : Value} {hs : List Ht} {P : Plc} {rs : List Gs} {s : Gs} (h : Gw wr base g v hs P j rs) (b : Below wr.heap.size wr w) (hm : Gr w wr.heap.size s) (ha : Apt s.q.i s.q.o) (hb : base ≤ wr.heap.size) (e1 : s.H = hs.getD j voidH) (e2 : s.ps = pforL (P.own.getD j []) P.lanes (j : Int) 8) (e3 : s.ca = -1) (e4 : s.ri = -1) (hO : w'.ownsRow base 152 38 v' (rs ++ [s]).length (flatR g (rs ++ [s]))) (hG : w.grownBy w' v.ownBlock) : Gw w' base g v' hs P (j + 1) (rs ++ [s]) := by
  have hro := row_keepX h.row b
  have hg : ∀ {s : Gs} {bb : Nat}, Gr w bb s → Gr w' bb s := fun {s bb} m => by
    have ne : ∀ (bs : Nat) (u : Value) (zs : List Int), Nums w bs u zs → u.ownBlock = none ∨ u.ownBlock ≠ v.ownBlock := fun bs u zs hu => row_typesX hu hro (by decide)
    refine ⟨m.i.kept hG (ne _ _ _ m.i), ?_, World.ownsRow.kept m.l hG (row_typesX m.l hro (by decide)), m.l8⟩
    obtain ⟨bo, h1, h2, h3, h4⟩ := m.o
    exact ⟨bo, h1, Nat.le_trans h2 hG.size, h3.kept hG (ne _ _ _ h3), h4⟩
  refine ⟨by rw [List.length_append, h.len]; rfl, hO, fun k q e => ?_, ?_⟩
  · by_cases hk : k < rs.length
    · rw [List.getElem?_append_left hk] at e
      obtain ⟨k1, k2, k3, k4, k5⟩ := h.one k q e
      exact ⟨k1, k2, k3, k4, hg (k5.keep b)⟩
    · rw [List.getElem?_append_right (by omega)] at e
      have hk0 : k - rs.length = 0 := by
        rcases Nat.eq_zero_or_pos (k - rs.length) with h0 | h0
        · exact h0
        · rw [List.getElem?_eq_none (by simp; omega)] at e; cases e
      rw [hk0] at e
      cases e
      have : k = j := by have := h.len; omega
      subst this
      exact ⟨e1, e2, e3, e4, (hg hm).mono hb⟩
  · rw [List.flatMap_append, List.pairwise_append]
    refine ⟨h.apart, by simpa [Gv.two] using ha, fun a ha' b' hb' => ?_⟩
    obtain ⟨_, na⟩ := h.lists a ha'
    have hb2 : b' ∈ s.q.two := by simpa using hb'
    have nb : ∃ zs, Nums w wr.heap.size b' zs := by
      simp only [Gv.two, List.mem_cons, List.not_mem_nil, or_false] at hb2
      rcases hb2 with rfl | rfl
      · exact ⟨_, hm.i⟩
      · obtain ⟨bo, h1, _, h3, _⟩ := hm.o; exact ⟨_, h3.mono h1⟩
    obtain ⟨_, nb⟩ := nb
    exact apt_sep (m := wr.heap.size) (fun k e => (na.lt k e).2) (fun k e => (nb.lt k e).1)
theorem step_runX {ops : Array Oper} {o : Oper} {act : Act} {w : World} {K : Act → World → Prop} {Q : Exit → Act → World → Prop} {F : Prop} (hgd : o.guard = none) (s x : Operand)
    (ho : o.op = .call { callee := .builtin .append, args := #[s, x], argTypes := #[146, 146] }) (base : Nat) (g v : Value) (rs : List Gs) (hs : act.eval s = v) (hN : w.ownsRow base 152 38 v rs.length (flatR g rs))
    (b : Nat) (r : Gs) (hx : act.eval x = .slice (some ⟨b, 0, none⟩) 1 1) (hc : w.rangeAt b 0 (cel38 g r)) (h1 : r.q.i.oneCell' = true ∧ r.q.o.oneCell' = true ∧ r.q.l.oneCell' = true) (hg1 : g.oneCell' = true) (m : Nat) (hxm : rs.length = m) (hlen : m ≤ 1000) (hbase : base ≤ w.heap.size)
    (h : ∀ wa wc w', w'.ownsRow base 152 38 (.slice wa (m + 1) wc) (rs ++ [r]).length (flatR g (rs ++ [r])) → w.grownBy w' v.ownBlock → K (act.put o.dst (.slice wa (m + 1) wc)) w') :
    if Region.wanted o (yielded ops act.tmps) = true then Oper.wp Tryz.prog o act w K Q else F := by
  have hw : Region.wanted o (yielded ops act.tmps) = true := by simp [Region.wanted, hgd]
  rw [if_pos hw]
  obtain ⟨i, hi, hz0, hz1, hz2⟩ := info_parts info_runner
  obtain ⟨v', w', hr, h5, h6, _⟩ := run_append_own (P := Tryz.prog) w base 146 o.type 152 i _ 38 352 Tryz.underlying146 hi hz0 hz1 hz2 rfl (by decide) _ rs.length _ hN ⟨b, 0, none⟩ 1 1 (cel38 g r) rfl (by
    intro j u' hj
    rw [Addr.add_lit, Nat.zero_add]
    have := hc j u' hj
    rwa [Nat.zero_add] at this) (fun u hu => flatR_one g hg1 [r] (fun q' hq' => by rw [List.mem_singleton] at hq'; subst hq'; exact h1) u (by rw [flatR, flatR, List.append_nil]; exact hu)) (by unfold maxLen; omega) (by omega) hbase
  unfold Oper.wp execOp
  simp only [ho, resolve, invoke, builtin, Sem.run_bind, Sem.run_pure, Result.andThen_ok, List.map_toArray, List.map_cons, List.map_nil, hs, hx, hr]
  have h7 : w'.ownsRow base 152 38 v' (rs ++ [r]).length (flatR g (rs ++ [r])) := by
    rw [List.length_append, flatR_app, show flatR g [r] = cel38 g r by rw [flatR, flatR, List.append_nil]]
    exact h5
  obtain ⟨wa, wc, e⟩ := row_shape h7
  rw [List.length_append, hxm] at e
  subst e
  exact h wa wc w' h7 h6
theorem wp_bsR {o : Oper} {a : Act} {w : World} {K : Act → World → Prop} {Q : Exit → Act → World → Prop} (s : Operand) (ho : o.op = .buildSlice 146 1 #[(0, s)]) (cs : Array Value) (hs : a.eval s = .agg cs) (hc : cs.size = 38)
    (h : K (a.put o.dst (.slice (some ⟨w.heap.size, 0, none⟩) 1 1)) (w.alloc (.cells cs 152))) : o.wp Tryz.prog a w K Q := by
  obtain ⟨i, hi, hz0, hz1, hz2⟩ := info_parts info_runner
  refine wp_buildSlice 146 152 1 #[(0, s)] ho cs i (.agg mrz) Tryz.underlying146 hi hz0 (by rw [hz1]; decide) (by rw [hz1]; decide) ?_ h
  have e := Great.fill_whole (s := 38) (by decide) [Value.agg cs] ((Array.range (1 * i.size)).map ((Value.agg mrz).cells[· % (Value.agg mrz).cells.size]!)) (by intro v hv; rw [List.mem_singleton] at hv; subst hv; exact hc) (by simp [hz1])
  simpa [hs, hz1, Value.cells] using e
theorem gw_vd {w : World} {base n cap : Nat} {g : Value} {b : Nat} {rs : List Gs} (h : w.ownsRow base 152 38 (.slice (some ⟨b, 0, none⟩) n cap) n (flatR g rs)) (hn : n = rs.length) (k : Nat) (hk : k < rs.length) : Vd w b (k * 38) (mca (rs.getD k gsz).H (rs.getD k gsz).q.i (rs.getD k gsz).q.o) := by
  obtain ⟨h1, ⟨e, _⟩ | ⟨g', cap', cur, e, _, hr, hc, _, hcs, ht⟩⟩ := h
  · cases e
  have e1 : g' = b ∧ cap' = cap := by simp at e; exact ⟨e.1.symm, e.2.symm⟩
  obtain ⟨rfl, rfl⟩ := e1
  refine ⟨cur, _, hr, fun t x ex => ?_⟩
  have ht34 : t < 34 := by have := (Array.getElem?_eq_some_iff.1 ex).1; exact this
  have e2 := flatR_get g rs k t hk (by omega)
  have e3 : (cel38 g (rs.getD k gsz))[t]? = some x := by
    have m : ∀ s : Gs, ∀ y, (mca s.H s.q.i s.q.o)[t]? = some y → (cel38 g s)[t]? = some y := fun s y hy => by
      have : t = 0 ∨ t = 1 ∨ t = 2 ∨ t = 3 ∨ t = 4 ∨ t = 5 ∨ t = 6 ∨ t = 7 ∨ t = 8 ∨ t = 9 ∨ t = 10 ∨ t = 11 ∨ t = 12 ∨ t = 13 ∨ t = 14 ∨ t = 15 ∨ t = 16 ∨ t = 17 ∨ t = 18 ∨ t = 19 ∨ t = 20 ∨ t = 21 ∨ t = 22 ∨ t = 23 ∨ t = 24 ∨ t = 25 ∨ t = 26 ∨ t = 27 ∨ t = 28 ∨ t = 29 ∨ t = 30 ∨ t = 31 ∨ t = 32 ∨ t = 33 := by omega
      rcases this with rfl | rfl | rfl | rfl | rfl | rfl | rfl | rfl | rfl | rfl | rfl | rfl | rfl | rfl | rfl | rfl | rfl | rfl | rfl | rfl | rfl | rfl | rfl | rfl | rfl | rfl | rfl | rfl | rfl | rfl | rfl | rfl | rfl | rfl <;> exact hy
    exact m _ _ ex
  rw [e3, ← ht, List.getElem?_take] at e2
  split at e2
  · rw [← Array.getElem?_toList]; exact e2
  · cases e2
theorem ow_ofC {w : World} {base t1 t2 t3 : Nat} {v0 v1 v2 v3 v4 v5 : Value} {X : Hst} {qs : List (V4 × Ht)} {j : Nat} (hp : WpE w t3 v0 v1 v2 v3 X.pol) (hm : Nums w t1 v4 X.mem) (hw : Mc w t2 v5 X.harts j qs) (hwl : ∀ u ∈ (qs.flatMap fun q => q.1.l), ∀ k, u.ownBlock = some k → k < t1) (hml : ∀ k, v4.ownBlock = some k → k < t3) (hl : X.harts.length = j) (h1 : base ≤ t1) (h2 : base ≤ t2) (h3 : base ≤ t3) (h13 : t1 ≤ t3) :
    OwE w base v0 v1 v2 v3 v4 v5 X := by
  obtain ⟨xs, hx⟩ := hp
  refine ⟨xs, qs, row_monoX hx.own h3, hx.xl, fun i x e => (hx.rows i x e).mono h3, row_monoX hx.lanes h3, row_monoX hx.bells h3, row_monoX hx.plan h3, hm.mono h1, row_monoX hw.row h2, ?_, fun q hq => ?_, ?_⟩
  · apply List.ext_getElem (by rw [List.length_map, hw.len, ← hl])
    intro i k1 k2
    rw [List.length_map] at k1
    have e := (hw.one i qs[i] (List.getElem?_eq_getElem k1)).1
    rw [List.getElem_map, e, List.getD, List.getElem?_eq_getElem k2]
    rfl
  · obtain ⟨i, hi, e⟩ := List.mem_iff_getElem.1 hq
    exact (hw.one i q (by rw [List.getElem?_eq_getElem hi, e])).2.mono h2
  · rw [List.pairwise_append]
    have hxn : ∀ x ∈ xs, ∀ k, x.ownBlock = some k → t3 ≤ k := fun x hxm k e => by
      obtain ⟨i, hi, e2⟩ := List.mem_iff_getElem.1 hxm
      exact ((hx.rows i x (by rw [List.getElem?_eq_getElem hi, e2])).lt k e).1
    refine ⟨hx.apart, List.pairwise_cons.2 ⟨fun u hu => ?_, hw.apart⟩, fun a ha b hb => ?_⟩
    · exact (apt_sep (m := t1) (hwl u hu) (fun k e => (hm.lt k e).1)).swap
    · rcases List.mem_cons.1 hb with rfl | hb
      · exact (apt_sep (m := t3) hml (hxn a ha)).swap
      · exact (apt_sep (m := t3) (fun k e => by have := hwl b hb k e; omega) (hxn a ha)).swap
end Go.Proofs.YtggejbphdadckaaGreatDoor
