/- Texts of this seat, joined. -/
import Derived.Test.YtggejbphdadckaaGreatDoorQ19
import Derived.Test.YtggejbphdadckaaGreatDoorQ38
namespace Go.Proofs.YtggejbphdadckaaGreatDoor
open Go.RowKit
set_option linter.unusedVariables false
structure V4 where
  r : Value
  c : Value
  i : Value
  o : Value
def V4.l (q : V4) : List Value := [q.r, q.c, q.i, q.o]
def v4z : V4 := ⟨.slice none 0 0, .slice none 0 0, .slice none 0 0, .slice none 0 0⟩
def cel9 (q : V4) (H : Ht) : List Value := [q.r, .int .i64 H.pc, q.c, .bool H.halted, .bool H.waiting, .bool H.rung, .int .i64 H.done, q.i, q.o]
def flat9 : List (V4 × Ht) → List Value
  | [] => []
  | q :: t => cel9 q.1 q.2 ++ flat9 t
theorem flat9_app : ∀ (a b : List (V4 × Ht)), flat9 (a ++ b) = flat9 a ++ flat9 b
  | [], b => rfl
  | q :: t, b => by rw [List.cons_append, flat9, flat9, flat9_app t b, List.append_assoc]
theorem flat9_get : ∀ (qs : List (V4 × Ht)) (k t : Nat) (hk : k < qs.length), t < 9 → (flat9 qs)[k * 9 + t]? = (cel9 (qs.getD k (v4z, voidH)).1 (qs.getD k (v4z, voidH)).2)[t]?
  | [], k, t, hk, _ => by simp at hk
  | q :: r, 0, t, _, ht => by
    rw [flat9, Nat.zero_mul, Nat.zero_add, List.getElem?_append_left (by show t < 9; exact ht)]
    rfl
  | q :: r, k + 1, t, hk, ht => by
    rw [flat9, List.getElem?_append_right (by show 9 ≤ _; omega)]
    have := flat9_get r k t (by simpa using hk) ht
    rw [show (k + 1) * 9 + t - (cel9 q.1 q.2).length = k * 9 + t by show (k + 1) * 9 + t - 9 = _; omega, this]
    rfl
theorem flat9_one : ∀ (qs : List (V4 × Ht)), (∀ q ∈ qs, ∀ v ∈ q.1.l, v.oneCell' = true) → ∀ u ∈ flat9 qs, u.oneCell' = true
  | [], _, u, hu => by cases hu
  | q :: t, h, u, hu => by
    rw [flat9] at hu
    rcases List.mem_append.1 hu with hu | hu
    · have h0 := h q (by simp)
      simp only [cel9, List.mem_cons, List.not_mem_nil, or_false] at hu
      rcases hu with rfl | rfl | rfl | rfl | rfl | rfl | rfl | rfl | rfl <;> first | rfl | exact h0 _ (by simp [V4.l])
    · exact flat9_one t (fun q hq => h q (by simp [hq])) u hu
def tyOf (w : World) (g : Nat) : Option TypeId := match w.heap[g]? with | some (.cells _ t _) => some t | _ => none
theorem ty_ne {w : World} {a b : Nat} {s t : TypeId} (h : tyOf w a = some s) (k : tyOf w b = some t) (hn : s ≠ t) : a ≠ b := fun e => by subst e; rw [h] at k; cases k; exact hn rfl
def blk (v : Value) : Nat := match v.ownBlock with | some k => k | none => 0
def vln : Value → Nat
  | .slice _ n _ => n
  | _ => 0
structure Bk4 (w : World) (base : Nat) (t : TypeId) (v : Value) : Prop where
  own : v.ownBlock = some (blk v)
  ty : tyOf w (blk v) = some t
  lo : base ≤ blk v
  hi : blk v < w.heap.size
theorem row_bk {w : World} {base sz n : Nat} {e : TypeId} {v : Value} {xs : List Value} (h : w.ownsRow base e sz v n xs) (h0 : 0 < n) : Bk4 w base e v ∧ ∃ cap, v = .slice (some ⟨blk v, 0, none⟩) n cap := by
  obtain ⟨_, ⟨_, h2⟩ | ⟨g, cap, cur, rfl, hg, hr, _⟩⟩ := h
  · omega
  · exact ⟨⟨rfl, by show (match w.heap[g]? with | some (.cells _ t _) => some t | _ => none) = _; rw [hr], hg, (Array.getElem?_eq_some_iff.1 hr).1⟩, cap, rfl⟩
theorem row_mg {w : World} {base sz n cap : Nat} {e : TypeId} {a : Option Addr} {xs : List Value} (h : w.ownsRow base e sz (.slice a n cap) n xs) (hi : ∀ x ∈ xs, ∃ z, x = .int .i64 z) : Mg w (blk (.slice a n cap)) sz a n := fun h0 => by
  obtain ⟨g, e⟩ : ∃ g, a = some ⟨g, 0, none⟩ := by
    obtain ⟨_, ⟨_, h2⟩ | ⟨g, cap, cur, hv, _⟩⟩ := h
    · omega
    · simp at hv; exact ⟨g, hv.1⟩
  subst e
  show some (⟨g, 0, none⟩ : Addr) = some ⟨g, 0, none⟩ ∧ ∀ i, i < n * sz → (∃ z, w.cell? ⟨g, i, none⟩ = some (.int .i64 z)) ∧ w.frozen? ⟨g, i, none⟩ = false
  refine ⟨rfl, fun i hi' => ⟨?_, World.ownsRow.frozenAt h i⟩⟩
  have hl : i < xs.length := by rw [h.1]; exact hi'
  obtain ⟨z, hz⟩ := hi xs[i] (List.getElem_mem hl)
  refine ⟨z, ?_⟩
  have := World.ownsRow.cellAt h i hi'
  rw [List.getElem?_eq_getElem hl, hz] at this
  exact this
theorem flat_ints (rs : List (Int × Int)) : ∀ x ∈ flat rs, ∃ z, x = .int .i64 z := by
  induction rs with
  | nil => intro x hx; cases hx
  | cons r t ih =>
    intro x hx
    rcases List.mem_cons.1 hx with rfl | hx
    · exact ⟨_, rfl⟩
    rcases List.mem_cons.1 hx with rfl | hx
    · exact ⟨_, rfl⟩
    exact ih x hx
theorem flat5_ints (rs : List Ln) : ∀ x ∈ flat5 rs, ∃ z, x = .int .i64 z := by
  induction rs with
  | nil => intro x hx; cases hx
  | cons r t ih =>
    intro x hx
    simp only [flat5, List.mem_cons] at hx
    rcases hx with rfl | rfl | rfl | rfl | rfl | hx
    any_goals exact ⟨_, rfl⟩
    exact ih x hx
theorem ints_ints (zs : List Int) : ∀ x ∈ zs.map (Value.int .i64), ∃ z, x = .int .i64 z := fun x hx => by
  obtain ⟨z, _, rfl⟩ := List.mem_map.1 hx; exact ⟨z, rfl⟩
theorem Nums.vln {w : World} {base : Nat} {v : Value} {zs : List Int} (h : Nums w base v zs) : vln v = zs.length := by
  obtain ⟨a, cap, rfl, _⟩ := h.shape; rfl
theorem Nums.lx {w : World} {base : Nat} {v : Value} {zs : List Int} {p : Addr} (h : Nums w base v zs) (hc : w.cell? p = some v) : Lxm w p (blk v, Go.Proofs.YtggejbphdadckaaGreatDoor.vln v) := by
  obtain ⟨a, cap, rfl, _⟩ := h.shape
  exact ⟨a, cap, hc, row_mg h (ints_ints zs)⟩
theorem Nums.bk {w : World} {base : Nat} {v : Value} {zs : List Int} (h : Nums w base v zs) (h0 : 0 < Go.Proofs.YtggejbphdadckaaGreatDoor.vln v) : Bk4 w base 2 v := (row_bk h (by rw [← h.vln]; exact h0)).1
theorem apt_blk {w : World} {base : Nat} {t : TypeId} {a b : Value} (h : Apt a b) (ha : Bk4 w base t a) (hb : Bk4 w base t b) : blk a ≠ blk b := fun e => by
  rcases h with h | h
  · rw [ha.own] at h; cases h
  · rw [ha.own, hb.own, e] at h; exact h rfl
structure Ow (w : World) (base : Nat) (v0 v1 v2 v3 v4 v5 : Value) (X : Hst) (xs : List Value) (qs : List (V4 × Ht)) : Prop where
  own : w.ownsRow base 28 1 v0 xs.length xs
  xl : xs.length = X.pol.own.length
  rows : ∀ (i : Nat) (x : Value), xs[i]? = some x → Nums w base x (X.pol.own.getD i [])
  lanes : Ls 125 w base v1 X.pol.lanes
  bells : Prs 129 w base v2 X.pol.bells
  plan : Prs 123 w base v3 X.pol.plan
  mem : Nums w base v4 X.mem
  harts : w.ownsRow base 60 9 v5 qs.length (flat9 qs)
  qh : qs.map Prod.snd = X.harts
  lists : ∀ q ∈ qs, Hm w base q.1.r q.1.c q.1.i q.1.o q.2
  apart : (xs ++ v4 :: qs.flatMap fun q => q.1.l).Pairwise Apt
theorem row_keepX {w w' : World} {base sz n : Nat} {e : TypeId} {v : Value} {xs : List Value} (h : w.ownsRow base e sz v n xs) (b : Below w.heap.size w w') : w'.ownsRow base e sz v n xs := by
  refine World.ownsRow.kept h (below_grown b none) ?_
  cases v.ownBlock <;> simp
theorem row_hoX {e sz n base : Nat} {v : Value} {w w' : World} {xs : List Value} (h : w.ownsRow base e sz v n xs) (H : Ho base w w') : w'.ownsRow base e sz v n xs := by
  obtain ⟨h1, h2 | ⟨g, cap, cur, hv, hg, hr, rest⟩⟩ := h
  · exact ⟨h1, .inl h2⟩
  · refine ⟨h1, .inr ⟨g, cap, cur, hv, hg, ?_, rest⟩⟩
    rw [H.block g hg (Array.getElem?_eq_some_iff.1 hr).1]
    exact hr
theorem row_monoX {e sz n base base' : Nat} {v : Value} {w : World} {xs : List Value} (h : w.ownsRow base e sz v n xs) (hb : base' ≤ base) : w.ownsRow base' e sz v n xs := by
  obtain ⟨h1, h2 | ⟨g, cap, cur, hv, hg, hr⟩⟩ := h
  · exact ⟨h1, .inl h2⟩
  · exact ⟨h1, .inr ⟨g, cap, cur, hv, Nat.le_trans hb hg, hr⟩⟩
theorem Ow.keep {w w' : World} {base : Nat} {v0 v1 v2 v3 v4 v5 : Value} {X : Hst} {xs : List Value} {qs : List (V4 × Ht)} (h : Ow w base v0 v1 v2 v3 v4 v5 X xs qs) (b : Below w.heap.size w w') : Ow w' base v0 v1 v2 v3 v4 v5 X xs qs :=
  ⟨row_keepX h.own b, h.xl, fun i x e => (h.rows i x e).keep b, h.lanes.keep b, h.bells.keep b, h.plan.keep b, h.mem.keep b, row_keepX h.harts b, h.qh, fun q hq => (h.lists q hq).keep b, h.apart⟩
theorem Ow.ho {w w' : World} {base : Nat} {v0 v1 v2 v3 v4 v5 : Value} {X : Hst} {xs : List Value} {qs : List (V4 × Ht)} (h : Ow w base v0 v1 v2 v3 v4 v5 X xs qs) (b : Ho base w w') : Ow w' base v0 v1 v2 v3 v4 v5 X xs qs :=
  ⟨row_hoX h.own b, h.xl, fun i x e => (h.rows i x e).ho b, row_hoX h.lanes b, row_hoX h.bells b, row_hoX h.plan b, h.mem.ho b, row_hoX h.harts b, h.qh, fun q hq => (h.lists q hq).ho b, h.apart⟩
theorem Ow.mono {w : World} {base base' : Nat} {v0 v1 v2 v3 v4 v5 : Value} {X : Hst} {xs : List Value} {qs : List (V4 × Ht)} (h : Ow w base v0 v1 v2 v3 v4 v5 X xs qs) (hb : base' ≤ base) : Ow w base' v0 v1 v2 v3 v4 v5 X xs qs :=
  ⟨row_monoX h.own hb, h.xl, fun i x e => (h.rows i x e).mono hb, row_monoX h.lanes hb, row_monoX h.bells hb, row_monoX h.plan hb, h.mem.mono hb, row_monoX h.harts hb, h.qh, fun q hq => (h.lists q hq).mono hb, h.apart⟩
theorem ow_void (w : World) (base : Nat) : Ow w base (.slice none 0 0) (.slice none 0 0) (.slice none 0 0) (.slice none 0 0) (.slice none 0 0) (.slice none 0 0) ⟨⟨[], [], [], []⟩, [], [], 0, 0, 0⟩ [] [] :=
  ⟨World.ownsRow_nil _ _ _ _, rfl, fun i x e => by simp at e, World.ownsRow_nil _ _ _ _, World.ownsRow_nil _ _ _ _, World.ownsRow_nil _ _ _ _, Nums.nil _ _, World.ownsRow_nil _ _ _ _, rfl, fun q hq => (by cases hq), (by simp)⟩
theorem row_sv {w : World} {base : Nat} {v : Value} {xs : List Value} {oss : List (List Int)} (h : w.ownsRow base 28 1 v xs.length xs) (hl : xs.length = oss.length) (hr : ∀ (i : Nat) (x : Value), xs[i]? = some x → Nums w base x (oss.getD i [])) : Svr w v oss := by
  have h' := h
  obtain ⟨_, ⟨h2, h3⟩ | ⟨g, cap, cur, hv, hg, _, hc, hm, _⟩⟩ := h
  · exact .inl ⟨h2, List.length_eq_zero_iff.1 (by omega)⟩
  · subst hv
    refine .inr ⟨g, cap, by rw [← hl], by omega, hm, fun i hi => ?_⟩
    have hx : i < xs.length := by omega
    have n := hr i xs[i] (List.getElem?_eq_getElem hx)
    obtain ⟨a, c, e, _⟩ := n.shape
    have cc := World.ownsRow.cellAt h' i (by omega)
    rw [List.getElem?_eq_getElem hx, e] at cc
    rw [e] at n
    exact ⟨a, _, c, cc, n.rv⟩
theorem row_hc {w : World} {base g n cap : Nat} {qs : List (V4 × Ht)} (h : w.ownsRow base 60 9 (.slice (some ⟨g, 0, none⟩) n cap) n (flat9 qs)) (hn : n = qs.length) (k : Nat) (hk : k < qs.length) : Hc w ⟨g, k * 9, none⟩ (qs.getD k (v4z, voidH)).1.r (qs.getD k (v4z, voidH)).1.c (qs.getD k (v4z, voidH)).1.i (qs.getD k (v4z, voidH)).1.o (qs.getD k (v4z, voidH)).2 := by
  have cc : ∀ t, t < 9 → w.cell? ⟨g, k * 9 + t, none⟩ = (cel9 (qs.getD k (v4z, voidH)).1 (qs.getD k (v4z, voidH)).2)[t]? := fun t ht => by
    rw [World.ownsRow.cellAt h (k * 9 + t) (by omega), flat9_get qs k t hk ht]
  exact ⟨cc 0 (by decide), cc 1 (by decide), cc 2 (by decide), cc 3 (by decide), cc 4 (by decide), cc 5 (by decide), cc 6 (by decide), cc 7 (by decide), cc 8 (by decide)⟩
theorem snd_getD (qs : List (V4 × Ht)) (k : Nat) (hk : k < qs.length) : (qs.map Prod.snd).getD k voidH = (qs.getD k (v4z, voidH)).2 := by
  rw [List.getD, List.getElem?_map, List.getD, List.getElem?_eq_getElem hk]; rfl
theorem getD_memQ (qs : List (V4 × Ht)) (k : Nat) (hk : k < qs.length) : qs.getD k (v4z, voidH) ∈ qs := by
  rw [List.getD, List.getElem?_eq_getElem hk]; exact List.getElem_mem hk
theorem row_hv {w : World} {base : Nat} {v : Value} {qs : List (V4 × Ht)} {hs : List Ht} (h : w.ownsRow base 60 9 v qs.length (flat9 qs)) (hq : qs.map Prod.snd = hs) (hl : ∀ q ∈ qs, Hm w base q.1.r q.1.c q.1.i q.1.o q.2) : Hv w v hs := by
  subst hq
  have h' := h
  obtain ⟨_, ⟨h2, h3⟩ | ⟨g, cap, cur, hv, hg, _, hc, hm, _⟩⟩ := h
  · exact .inl ⟨h2, by rw [List.length_eq_zero_iff.1 h3]; rfl⟩
  · subst hv
    refine .inr ⟨g, cap, by rw [List.length_map], by rw [List.length_map]; exact hc, hm, fun k hk => ?_⟩
    rw [List.length_map] at hk
    rw [snd_getD qs k hk]
    exact ⟨_, _, _, _, row_hc h' rfl k hk, (hl _ (getD_memQ qs k hk)).hr⟩
theorem Ow.hq {w : World} {base : Nat} {v0 v1 v2 v3 v4 v5 : Value} {X : Hst} {xs : List Value} {qs : List (V4 × Ht)} (h : Ow w base v0 v1 v2 v3 v4 v5 X xs qs) : Hq w base v0 v1 v2 v3 v4 v5 X :=
  ⟨row_sv h.own h.xl h.rows, h.lanes, h.bells, h.plan, h.mem.rv, row_hv h.harts h.qh h.lists⟩
structure Xsm (X : Hst) : Prop where
  s0 : X.pol.own.length ≤ 1048576
  r0 : ∀ i, i < X.pol.own.length → (X.pol.own.getD i []).length ≤ 1048576
  s1 : X.pol.lanes.length ≤ 1048576
  s2 : X.pol.bells.length ≤ 1048576
  s3 : X.pol.plan.length ≤ 1048576
  s4 : X.mem.length ≤ 1048576
  s5 : X.harts.length ≤ 1048576
  h5 : ∀ H ∈ X.harts, H.regs.length ≤ 1048576 ∧ H.csr.length ≤ 1048576 ∧ H.inn.length ≤ 1048576 ∧ H.out.length ≤ 1048576
def rlX (xs : List Value) : List (Nat × Nat) := xs.map fun x => (blk x, vln x)
def hsX (q : V4) : Hsx := ⟨(blk q.r, vln q.r), (blk q.c, vln q.c), (blk q.i, vln q.i), (blk q.o, vln q.o)⟩
def mhX (qs : List (V4 × Ht)) (k : Nat) : Hsx := hsX (qs.getD k (v4z, voidH)).1
theorem hsX_mem {q : V4} {l : Nat × Nat} (h : l ∈ (hsX q).all) : ∃ v ∈ q.l, l = (blk v, vln v) := by
  simp only [Hsx.all, hsX, List.mem_cons, List.not_mem_nil, or_false] at h
  rcases h with rfl | rfl | rfl | rfl
  · exact ⟨_, by simp [V4.l], rfl⟩
  · exact ⟨_, by simp [V4.l], rfl⟩
  · exact ⟨_, by simp [V4.l], rfl⟩
  · exact ⟨_, by simp [V4.l], rfl⟩
theorem Ow.num {w : World} {base : Nat} {v0 v1 v2 v3 v4 v5 : Value} {X : Hst} {xs : List Value} {qs : List (V4 × Ht)} (h : Ow w base v0 v1 v2 v3 v4 v5 X xs qs) : ∀ v ∈ (xs ++ v4 :: qs.flatMap fun q => q.1.l), ∃ zs, Nums w base v zs := fun v hv => by
  rcases List.mem_append.1 hv with hv | hv
  · obtain ⟨i, hi, e⟩ := List.mem_iff_getElem.1 hv
    exact ⟨_, h.rows i v (by rw [List.getElem?_eq_getElem hi, e])⟩
  rcases List.mem_cons.1 hv with rfl | hv
  · exact ⟨_, h.mem⟩
  obtain ⟨q, hq, hv⟩ := List.mem_flatMap.1 hv
  have m := h.lists q hq
  simp only [V4.l, List.mem_cons, List.not_mem_nil, or_false] at hv
  rcases hv with rfl | rfl | rfl | rfl
  · exact ⟨_, m.r⟩
  · exact ⟨_, m.c⟩
  · exact ⟨_, m.i⟩
  · exact ⟨_, m.o⟩
theorem pw_ne {w : World} {base : Nat} {L : List Value} (hL : L.Pairwise Apt) (hn : ∀ v ∈ L, ∃ zs, Nums w base v zs) : L.Pairwise fun a b => 0 < vln a → 0 < vln b → blk a ≠ blk b := by
  refine List.Pairwise.imp_of_mem (fun ha hb h h1 h2 => ?_) hL
  obtain ⟨_, na⟩ := hn _ ha
  obtain ⟨_, nb⟩ := hn _ hb
  exact apt_blk h (na.bk h1) (nb.bk h2)
theorem Ow.mg {w : World} {base : Nat} {a : Option Addr} {n cap : Nat} {zs : List Int} (h : Nums w base (.slice a n cap) zs) : Mg w (blk (.slice a n cap)) 1 a n := by
  have e := h.vln
  have hn : n = zs.length := e
  subst hn
  exact row_mg h (ints_ints zs)
theorem ab_rows {w : World} {base p : Nat} {t : TypeId} {xs : List Value} (hx : ∀ x ∈ xs, ∃ zs, Nums w base x zs) (hp : tyOf w p = some t) (ht : t ≠ 2) : Ab (rN (rlX xs)) p := fun y hy => by
  obtain ⟨r, hr, h0, e⟩ := rN_mem hy
  obtain ⟨x, hxm, rfl⟩ := List.mem_map.1 hr
  obtain ⟨_, n⟩ := hx x hxm
  rw [e]
  exact ty_ne (n.bk h0).ty hp (fun e => ht e.symm)
theorem ab_cn {w : World} {base g n p : Nat} {s t : TypeId} (hg : 0 < n → tyOf w g = some s) (hp : tyOf w p = some t) (ht : s ≠ t) : Ab (cN g n) p := Ab.cn fun h0 => ty_ne (hg h0) hp ht
theorem Ow.og {w : World} {base : Nat} {a0 a1 a2 a3 a4 a5 : Option Addr} {n0 n1 n2 n3 n4 n5 c0 c1 c2 c3 c4 c5 : Nat} {X : Hst} {xs : List Value} {qs : List (V4 × Ht)} (h : Ow w base (.slice a0 n0 c0) (.slice a1 n1 c1) (.slice a2 n2 c2) (.slice a3 n3 c3) (.slice a4 n4 c4) (.slice a5 n5 c5) X xs qs) (sm : Xsm X) :
    Og w a0 a1 a2 a3 a4 a5 n0 n1 n2 n3 n4 n5 (blk (.slice a0 n0 c0)) (blk (.slice a1 n1 c1)) (blk (.slice a2 n2 c2)) (blk (.slice a3 n3 c3)) (blk (.slice a4 n4 c4)) (blk (.slice a5 n5 c5)) (rlX xs) (mhX qs) ∧ ∀ x ∈ oN (blk (.slice a1 n1 c1)) (blk (.slice a2 n2 c2)) (blk (.slice a3 n3 c3)) (blk (.slice a4 n4 c4)) (blk (.slice a5 n5 c5)) n1 n2 n3 n4 n5 (rlX xs) (mhX qs), base ≤ x.1.block ∧ x.1.block < w.heap.size := by
  have N0 : n0 = xs.length := by obtain ⟨_, ⟨e, h2⟩ | ⟨_, _, _, e, _⟩⟩ := h.own <;> simp at e <;> omega
  have N1 : n1 = X.pol.lanes.length := by obtain ⟨_, ⟨e, h2⟩ | ⟨_, _, _, e, _⟩⟩ := h.lanes <;> simp at e <;> omega
  have N2 : n2 = X.pol.bells.length := by obtain ⟨_, ⟨e, h2⟩ | ⟨_, _, _, e, _⟩⟩ := h.bells <;> simp at e <;> omega
  have N3 : n3 = X.pol.plan.length := by obtain ⟨_, ⟨e, h2⟩ | ⟨_, _, _, e, _⟩⟩ := h.plan <;> simp at e <;> omega
  have N4 : n4 = X.mem.length := h.mem.vln
  have N5 : n5 = qs.length := by obtain ⟨_, ⟨e, h2⟩ | ⟨_, _, _, e, _⟩⟩ := h.harts <;> simp at e <;> omega
  have QL : qs.length = X.harts.length := by rw [← h.qh, List.length_map]
  have XL := h.xl
  have b0 : 0 < n0 → Bk4 w base 28 (.slice a0 n0 c0) := fun h0 => (row_bk h.own (by omega)).1
  have b1 : 0 < n1 → Bk4 w base 125 (.slice a1 n1 c1) := fun h0 => (row_bk h.lanes (by omega)).1
  have b2 : 0 < n2 → Bk4 w base 129 (.slice a2 n2 c2) := fun h0 => (row_bk h.bells (by omega)).1
  have b3 : 0 < n3 → Bk4 w base 123 (.slice a3 n3 c3) := fun h0 => (row_bk h.plan (by omega)).1
  have b4 : 0 < n4 → Bk4 w base 2 (.slice a4 n4 c4) := fun h0 => h.mem.bk h0
  have b5 : 0 < n5 → Bk4 w base 60 (.slice a5 n5 c5) := fun h0 => (row_bk h.harts (by omega)).1
  have PW := pw_ne h.apart h.num
  obtain ⟨PX, PY, PXY⟩ := List.pairwise_append.1 PW
  obtain ⟨PM, PQ⟩ := List.pairwise_cons.1 PY
  have hx : ∀ x ∈ xs, ∃ zs, Nums w base x zs := fun x hx => h.num x (List.mem_append_left _ hx)
  have hxr : ∀ r ∈ rlX xs, 0 < r.2 → ∃ x ∈ xs, r = (blk x, vln x) ∧ Bk4 w base 2 x := fun r hr h0 => by
    obtain ⟨x, hxm, rfl⟩ := List.mem_map.1 hr
    obtain ⟨_, n⟩ := hx x hxm
    exact ⟨x, hxm, rfl, n.bk h0⟩
  have hql : ∀ j, j < n5 → ∀ l ∈ (mhX qs j).all, 0 < l.2 → ∃ v ∈ (qs.flatMap fun q => q.1.l), l = (blk v, vln v) ∧ Bk4 w base 2 v ∧ v ∈ (qs.getD j (v4z, voidH)).1.l := fun j hj l hl h0 => by
    obtain ⟨v, hv, rfl⟩ := hsX_mem hl
    have hm : v ∈ qs.flatMap fun q => q.1.l := List.mem_flatMap.2 ⟨_, getD_memQ qs j (by omega), hv⟩
    obtain ⟨_, n⟩ := h.num v (List.mem_append_right _ (List.mem_cons_of_mem _ hm))
    exact ⟨v, hm, rfl, n.bk h0, hv⟩
  have R : Rg w (blk (.slice a0 n0 c0)) (rlX xs) := by
    refine ⟨fun i r e => ?_, fun r hr => ?_, ?_, fun r hr h0 => ?_⟩
    · unfold rlX at e
      rw [List.getElem?_map] at e
      cases ex : xs[i]? with
      | none => rw [ex] at e; cases e
      | some x =>
        rw [ex] at e
        cases e
        have hi : i < xs.length := (List.getElem?_eq_some_iff.1 ex).1
        obtain ⟨bb, cap, ev⟩ := row_bk h.own (by omega)
        have cc := World.ownsRow.cellAt (by rw [← ev]; exact h.own) i (by omega)
        rw [ex] at cc
        have n := h.rows i x ex
        obtain ⟨a, c, rfl, _⟩ := n.shape
        exact ⟨a, c, cc, Ow.mg n⟩
    · obtain ⟨x, hxm, rfl⟩ := List.mem_map.1 hr
      obtain ⟨i, hi, e⟩ := List.mem_iff_getElem.1 hxm
      have n := h.rows i x (by rw [List.getElem?_eq_getElem hi, e])
      show vln x ≤ 1048576
      rw [n.vln]
      exact sm.r0 i (by omega)
    · unfold rlX
      rw [List.pairwise_map]
      exact PX
    · obtain ⟨x, hxm, rfl, bx⟩ := hxr r hr h0
      exact ty_ne bx.ty (b0 (by have := List.length_pos_of_mem hxm; omega)).ty (by decide)
  have dd : ∀ (t : TypeId) (g : Nat), tyOf w g = some t → t ≠ 2 → ∀ r ∈ rlX xs, 0 < r.2 → r.1 ≠ g := fun t g hg ht r hr h0 => by
    obtain ⟨x, hxm, rfl, bx⟩ := hxr r hr h0
    exact ty_ne bx.ty hg (fun e => ht e.symm)
  have P : Pg w a0 a1 a2 a3 n0 n1 n2 n3 (blk (.slice a0 n0 c0)) (blk (.slice a1 n1 c1)) (blk (.slice a2 n2 c2)) (blk (.slice a3 n3 c3)) (rlX xs) := by
    refine ⟨R, by rw [rlX, List.length_map]; omega, fun h0 => ?_, row_mg (by have := h.lanes; unfold Ls at this; rw [← N1] at this; exact this) (flat5_ints _), row_mg (by have := h.bells; unfold Prs at this; rw [← N2] at this; exact this) (flat_ints _), row_mg (by have := h.plan; unfold Prs at this; rw [← N3] at this; exact this) (flat_ints _), by have := sm.s0; omega, by have := sm.s1; omega, by have := sm.s2; omega, by have := sm.s3; omega, fun h0 => dd _ _ (b1 h0).ty (by decide), fun h0 => dd _ _ (b2 h0).ty (by decide), fun h0 => dd _ _ (b3 h0).ty (by decide), fun h0 h1 => ty_ne (b1 h0).ty (b2 h1).ty (by decide), fun h0 h1 => ty_ne (b1 h0).ty (b3 h1).ty (by decide), fun h0 h1 => ty_ne (b2 h0).ty (b3 h1).ty (by decide), fun h0 h1 => ty_ne (b1 h1).ty (b0 h0).ty (by decide), fun h0 h1 => ty_ne (b2 h1).ty (b0 h0).ty (by decide), fun h0 h1 => ty_ne (b3 h1).ty (b0 h0).ty (by decide)⟩
    obtain ⟨_, cap, ev⟩ := row_bk h.own (by omega)
    simp at ev
    exact ev.1
  -- a block of another type than all lists of the policy's
  have abP : ∀ (t : TypeId) (g : Nat), tyOf w g = some t → t ≠ 2 → t ≠ 125 → t ≠ 129 → t ≠ 123 → Ab (pN (blk (.slice a1 n1 c1)) (blk (.slice a2 n2 c2)) (blk (.slice a3 n3 c3)) n1 n2 n3 (rlX xs)) g := fun t g hg t0 t1 t2 t3 =>
    (((ab_rows hx hg t0).app (ab_cn (base := base) (fun h0 => (b1 (by omega)).ty) hg (fun e => t1 e.symm))).app (ab_cn (base := base) (fun h0 => (b2 (by omega)).ty) hg (fun e => t2 e.symm))).app (ab_cn (base := base) (fun h0 => (b3 (by omega)).ty) hg (fun e => t3 e.symm))
  -- a list of numbers beside the rows
  have abN : ∀ v, Bk4 w base 2 v → 0 < vln v → (∀ x ∈ xs, 0 < vln x → blk x ≠ blk v) → Ab (pN (blk (.slice a1 n1 c1)) (blk (.slice a2 n2 c2)) (blk (.slice a3 n3 c3)) n1 n2 n3 (rlX xs)) (blk v) := fun v bv hv hn => by
    have k0 : Ab (rN (rlX xs)) (blk v) := fun y hy => by
      obtain ⟨r, hr, h0, e⟩ := rN_mem hy
      obtain ⟨x, hxm, rfl, bx⟩ := hxr r hr h0
      rw [e]
      exact hn x hxm h0
    exact ((k0.app (ab_cn (base := base) (fun h0 => (b1 (by omega)).ty) bv.ty (by decide))).app (ab_cn (base := base) (fun h0 => (b2 (by omega)).ty) bv.ty (by decide))).app (ab_cn (base := base) (fun h0 => (b3 (by omega)).ty) bv.ty (by decide))
  have M : Mm w (blk (.slice a5 n5 c5)) n5 (mhX qs) := by
    have hq5 : 0 < n5 → ∃ cap, (Value.slice a5 n5 c5) = .slice (some ⟨blk (.slice a5 n5 c5), 0, none⟩) qs.length cap := fun h0 => (row_bk h.harts (by omega)).2
    refine ⟨fun j hj => ?_, fun i j hi hj hne l hl m hm h1 h2 => ?_⟩
    · obtain ⟨cap, ev⟩ := hq5 (by omega)
      have hc := row_hc (by rw [← ev]; exact h.harts) rfl j (by omega)
      have hm := h.lists _ (getD_memQ qs j (by omega))
      have hs := h.harts
      rw [ev] at hs
      have fz : ∀ t, t < 9 → w.frozen? ⟨blk (.slice a5 n5 c5), j * 9 + t, none⟩ = false := fun t ht => World.ownsRow.frozenAt hs (j * 9 + t)
      have hX : (qs.getD j (v4z, voidH)).2 ∈ X.harts := by rw [← h.qh]; exact List.mem_map.2 ⟨_, getD_memQ qs j (by omega), rfl⟩
      have s5 := sm.h5 _ hX
      have ql := (List.pairwise_flatMap.1 PQ).1 _ (getD_memQ qs j (by omega))
      have hof : ∀ l ∈ (mhX qs j).all, 0 < l.2 → l.1 ≠ blk (.slice a5 n5 c5) := fun l hl h0 => by
        obtain ⟨v, _, rfl, bv, _⟩ := hql j hj l hl h0
        exact ty_ne bv.ty (b5 (by omega)).ty (by decide)
      have hS : mhX qs j = hsX (qs.getD j (v4z, voidH)).1 := rfl
      rw [hS] at hof ⊢
      generalize qs.getD j (v4z, voidH) = q at *
      refine ⟨hm.r.lx hc.c0, ⟨⟨_, hc.c1⟩, fz 1 (by decide)⟩, hm.c.lx hc.c2, ⟨⟨_, hc.c3⟩, fz 3 (by decide)⟩, ⟨⟨_, hc.c4⟩, fz 4 (by decide)⟩, ⟨⟨_, hc.c5⟩, fz 5 (by decide)⟩, ⟨⟨_, hc.c6⟩, fz 6 (by decide)⟩, hm.i.lx hc.c7, hm.o.lx hc.c8, fun l hl => ?_, hof, ?_⟩
      · simp only [Hsx.all, hsX, List.mem_cons, List.not_mem_nil, or_false] at hl
        rcases hl with rfl | rfl | rfl | rfl
        · show vln _ ≤ _; rw [hm.r.vln]; exact s5.1
        · show vln _ ≤ _; rw [hm.c.vln]; exact s5.2.1
        · show vln _ ≤ _; rw [hm.i.vln]; exact s5.2.2.1
        · show vln _ ≤ _; rw [hm.o.vln]; exact s5.2.2.2
      · show ((q.1.l).map fun v => (blk v, vln v)).Pairwise _
        rw [List.pairwise_map]
        exact ql
    · have hp := (List.pairwise_flatMap.1 PQ).2
      obtain ⟨v, _, rfl, _, hv⟩ := hql i hi l hl h1
      obtain ⟨u, _, rfl, _, hu⟩ := hql j hj m hm h2
      rw [List.pairwise_iff_getElem] at hp
      have gi : qs.getD i (v4z, voidH) = qs[i]'(by omega) := by rw [List.getD, List.getElem?_eq_getElem (by omega)]; rfl
      have gj : qs.getD j (v4z, voidH) = qs[j]'(by omega) := by rw [List.getD, List.getElem?_eq_getElem (by omega)]; rfl
      rw [gi] at hv
      rw [gj] at hu
      rcases Nat.lt_or_gt_of_ne hne with hlt | hlt
      · exact hp i j (by omega) (by omega) hlt v hv u hu h1 h2
      · exact fun e => hp j i (by omega) (by omega) hlt u hu v hv h2 h1 e.symm
  have tM : ∀ x ∈ tN (blk (.slice a5 n5 c5)) (mhX qs) n5, (∃ v ∈ (qs.flatMap fun q => q.1.l), Bk4 w base 2 v ∧ x.1.block = blk v) ∨ (0 < n5 ∧ x.1.block = blk (.slice a5 n5 c5)) := fun x hx => by
    obtain ⟨i, hi, hx⟩ := tN_mem hx
    rcases hN_mem hx with ⟨l, hl, hp, hb⟩ | ⟨t, ht, e2⟩
    · obtain ⟨v, hv, rfl, bv, _⟩ := hql i hi l hl hp
      exact .inl ⟨v, hv, bv, hb⟩
    · exact .inr ⟨by omega, by rw [e2]⟩
  refine ⟨⟨P, Ow.mg h.mem, M, fun h0 => ?_, by have := sm.s4; omega, by have := sm.s5; omega, fun h0 => ?_, fun h0 => ?_, fun j hj l hl h0 => ?_, fun h0 => ?_⟩, fun x hx' => ?_⟩
  · obtain ⟨_, cap, ev⟩ := row_bk h.harts (by omega)
    simp at ev
    exact ev.1
  · exact abN _ (b4 h0) h0 fun x hx h1 => PXY x hx _ (List.mem_cons_self ..) h1 h0
  · exact (abP _ _ (b5 h0).ty (by decide) (by decide) (by decide) (by decide)).app (ab_cn (base := base) (fun h1 => (b4 (by omega)).ty) (b5 h0).ty (by decide))
  · obtain ⟨v, hv, rfl, bv, _⟩ := hql j hj l hl h0
    exact (abN v bv h0 fun x hx h1 => PXY x hx _ (List.mem_cons_of_mem _ hv) h1 h0).app (Ab.cn fun h4 => PM v hv h4 h0)
  · refine (ab_cn (base := base) (fun h1 => (b4 (by omega)).ty) (b0 h0).ty (by decide)).app fun x hx => ?_
    rcases tM x hx with ⟨v, _, bv, e⟩ | ⟨h5, e⟩
    · rw [e]; exact ty_ne bv.ty (b0 h0).ty (by decide)
    · rw [e]; exact ty_ne (b5 h5).ty (b0 h0).ty (by decide)
  · simp only [oN, pN, List.mem_append] at hx'
    rcases hx' with ((((hx' | hx') | hx') | hx') | hx') | hx'
    · obtain ⟨r, hr, h0, e⟩ := rN_mem hx'
      obtain ⟨x', _, rfl, bx⟩ := hxr r hr h0
      rw [e]; exact ⟨bx.lo, bx.hi⟩
    · have h0 := cN_pos hx'
      have b := b1 (by omega)
      rw [cN_block hx']; exact ⟨b.lo, b.hi⟩
    · have h0 := cN_pos hx'
      have b := b2 (by omega)
      rw [cN_block hx']; exact ⟨b.lo, b.hi⟩
    · have h0 := cN_pos hx'
      have b := b3 (by omega)
      rw [cN_block hx']; exact ⟨b.lo, b.hi⟩
    · have h0 := cN_pos hx'
      have b := b4 h0
      rw [cN_block hx']; exact ⟨b.lo, b.hi⟩
    · rcases tM x hx' with ⟨v, _, bv, e⟩ | ⟨h5, e⟩
      · rw [e]; exact ⟨bv.lo, bv.hi⟩
      · rw [e]; exact ⟨(b5 h5).lo, (b5 h5).hi⟩
end Go.Proofs.YtggejbphdadckaaGreatDoor
