/- The program's map of hits, by Tag and Page: what it says, and what a look-up, a store and a delete do to it. -/
import Derived.Test.YtaajaikpkcgalaaQuads
import Derived.Maps.OwnSet
import Derived.Maps.Views
import Derived.Maps.Range
import Derived.DeepKeys4
namespace Go.Proofs.Ytaajaikpkcgalaa
open Go.RowKit
open Go.Maps (Keyed)
set_option linter.unusedVariables false

theorem key_row : (59 : TypeId) < Try.prog.types.size := of_decide_eq_true (by kernel_rfl)
theorem key_at : Try.prog.keyTypeAt 2 59 = true := by kernel_rfl
theorem key_law : Keyed Try.prog 59 := Keyed.of_law (deep_law_laid laidOut (m := 2) (by omega) key_row key_at (by rw [Try.underlying59]))
theorem key_type : Try.prog.keyType 59 = true := by kernel_rfl
theorem key_cells : Try.prog.cellsOf 59 = 2 := by kernel_rfl
theorem i64_cells : Try.prog.cellsOf 2 = 1 := by kernel_rfl
def klit (t p : Int) : Lit := .string (keyBytes [.int .i64 t, .int .i64 p])
def wfI (x : Int) : Prop := (Lit.int .i64 x).wf = true
theorem wf_small {x : Int} (h0 : 0 ≤ x) (h1 : x ≤ 1000) : wfI x := WalkArith.wf_i64 (by omega)
/-- A struct of two int64 as a key, in whatever program. -/
structure TwoKey (P : Program) (k e : TypeId) (f0 f1 : Field) : Prop where
  u : P.underlying k = some (.struct #[f0, f1])
  n0 : (f0.name != "_") = true
  n1 : (f1.name != "_") = true
  t0 : f0.type = e
  t1 : f1.type = e
  o0 : f0.offset = 0
  o1 : f1.offset = 1
  kt : P.keyType k = true
  ck : P.cellsOf k = 2
  ue : P.underlying e = some (.int .i64)
  ce : P.cellsOf e = 1
  sz : k < P.types.size
theorem two_lits {P : Program} {k e : TypeId} {f0 f1 : Field} (K : TwoKey P k e f0 f1) (a b : Value) : P.keyLits (P.types.size + 1) k [a, b] = (do let x ← P.keyLits P.types.size e [a]; let y ← P.keyLits P.types.size e [b]; some (x ++ y)) := by
  rw [Program.keyLits.eq_def]
  simp only [K.u]
  simp [K.ck, K.n0, K.n1, K.t0, K.t1, K.o0, K.o1, K.ce, List.mapM_cons]
  cases P.keyLits P.types.size e [a] <;> cases P.keyLits P.types.size e [b] <;> simp
theorem one_lit {P : Program} {k e : TypeId} {f0 f1 : Field} (K : TwoKey P k e f0 f1) (a : Value) (l : List Lit) : P.keyLits P.types.size e [a] = some l ↔ ∃ t, a = .int .i64 t ∧ l = [.int .i64 t] ∧ wfI t := by
  obtain ⟨d, hd⟩ : ∃ d, P.types.size = d + 1 := Nat.exists_eq_succ_of_ne_zero (Nat.ne_of_gt (Nat.lt_of_le_of_lt (Nat.zero_le _) K.sz))
  rw [hd, Program.keyLits.eq_def]
  simp only [K.ue]
  cases a <;> simp
  rename_i q n
  constructor
  · rintro ⟨⟨rfl, h⟩, rfl⟩
    exact ⟨n, ⟨rfl, rfl⟩, rfl, h⟩
  · rintro ⟨t, ⟨rfl, rfl⟩, rfl, h⟩
    exact ⟨⟨rfl, h⟩, rfl⟩
theorem two_key_of {P : Program} {k e : TypeId} {f0 f1 : Field} (K : TwoKey P k e f0 f1) {t p : Int} (ht : wfI t) (hp : wfI p) : keyOf P k (.agg #[.int .i64 t, .int .i64 p]) = some (klit t p) := by
  unfold keyOf
  rw [K.u]
  have h1 := (one_lit K (.int .i64 t) _).2 ⟨t, rfl, rfl, ht⟩
  have h2 := (one_lit K (.int .i64 p) _).2 ⟨p, rfl, rfl, hp⟩
  simp [K.kt, Value.formed, K.u, K.ck, Value.cells, two_lits K, h1, h2, klit]
theorem two_key_inv {P : Program} {k e : TypeId} {f0 f1 : Field} (K : TwoKey P k e f0 f1) {v : Value} {kl : Lit} (h : keyOf P k v = some kl) : ∃ t p, v = .agg #[.int .i64 t, .int .i64 p] ∧ kl = klit t p ∧ wfI t ∧ wfI p := by
  unfold keyOf at h
  rw [K.u] at h
  simp only [K.kt, Bool.true_and] at h
  split at h
  case isFalse => cases h
  case isTrue hf =>
    cases v <;> simp [Value.formed, K.u] at hf
    rename_i cs
    rw [K.ck] at hf
    obtain ⟨a, b, rfl⟩ : ∃ a b, cs = #[a, b] := by
      obtain ⟨l⟩ := cs
      match l, hf with
      | [a, b], _ => exact ⟨a, b, rfl⟩
    simp only [Value.cells, two_lits K] at h
    cases h1 : P.keyLits P.types.size e [a] with
    | none => simp [h1] at h
    | some x =>
      cases h2 : P.keyLits P.types.size e [b] with
      | none => simp [h1, h2] at h
      | some y =>
        obtain ⟨t, rfl, rfl, wt⟩ := (one_lit K a x).1 h1
        obtain ⟨p, rfl, rfl, wp⟩ := (one_lit K b y).1 h2
        simp [h1, h2] at h
        exact ⟨t, p, rfl, h.symm, wt, wp⟩
theorem key_two : ∃ f0 f1, TwoKey Try.prog 59 2 f0 f1 := ⟨_, _, Try.underlying59, by decide, by decide, rfl, rfl, rfl, rfl, key_type, key_cells, Try.underlying2, i64_cells, key_row⟩
theorem key_of {t p : Int} (ht : wfI t) (hp : wfI p) : keyOf Try.prog 59 (.agg #[.int .i64 t, .int .i64 p]) = some (klit t p) := let ⟨_, _, K⟩ := key_two; two_key_of K ht hp
theorem key_inv {v : Value} {kl : Lit} (h : keyOf Try.prog 59 v = some kl) : ∃ t p, v = .agg #[.int .i64 t, .int .i64 p] ∧ kl = klit t p ∧ wfI t ∧ wfI p := let ⟨_, _, K⟩ := key_two; two_key_inv K h
theorem klit_inj {t p t' p' : Int} (ht : wfI t) (hp : wfI p) (ht' : wfI t') (hp' : wfI p') (h : klit t p = klit t' p') : t = t' ∧ p = p' := by
  have h1 := key_of ht hp
  have h2 := key_of ht' hp'
  rw [← h] at h2
  have := key_law.inj h1 h2
  simpa using this
theorem zero_kept (w : World) : (zeroValue 53).run Try.prog w = .ok (.agg #[.int .i64 0, .int .i64 0, .int .i64 0]) w := by kernel_rfl
def heldR (v : Value) : Option (DataW Value × List MemPlace) := some (.held v, [])

/-- Is it the hit of a tag and a page? -/
def sel (t p : Int) (e : Int × Qd) : Bool := e.2.tag == t && e.2.page == p
/-- The hit of a tag and a page, with its turn; noughts where there is none. -/
def fnd (s : List (Int × Qd)) (t p : Int) : Int × Qd := (s.find? (sel t p)).getD (0, qz)
def e3 (e : Int × Qd) : Value := .agg #[.int .i64 e.1, .int .i64 e.2.to, .int .i64 e.2.kinds]
def drp (s : List (Int × Qd)) (t p : Int) : List (Int × Qd) := s.filter fun e => !sel t p e

theorem sel_iff {t p : Int} {e : Int × Qd} : sel t p e = true ↔ e.2.tag = t ∧ e.2.page = p := by simp [sel]
theorem sel_not {t p : Int} {e : Int × Qd} : sel t p e = false ↔ ¬ (e.2.tag = t ∧ e.2.page = p) := by
  rw [← sel_iff]; simp

/-- Block mb is the program's map, and it says s (turns with their hits). -/
structure Hm (w : World) (mb n : Nat) (s : List (Int × Qd)) : Prop where
  ex : ∃ D : DataW Value, w.ownsMap Try.prog 59 heldR mb n D ∧ Maps.size D = s.length ∧ (∀ t p, wfI t → wfI p → Maps.has D (klit t p) = s.any (sel t p)) ∧ (∀ e ∈ s, ∀ zd, D.atKey (klit e.2.tag e.2.page) zd = .held (e3 e))
  apart : s.Pairwise fun a b => ¬ (a.2.tag = b.2.tag ∧ a.2.page = b.2.page)
  keys : ∀ e ∈ s, 0 ≤ e.2.tag ∧ e.2.tag ≤ 9 ∧ 0 ≤ e.2.page ∧ e.2.page ≤ 7

theorem Hm.lt {w : World} {mb n : Nat} {s : List (Int × Qd)} (h : Hm w mb n s) : mb < w.heap.size := by
  obtain ⟨D, h1, _⟩ := h.ex
  exact h1.lt
theorem Hm.kept {w w' : World} {mb n : Nat} {s : List (Int × Qd)} {row : Option Nat} (h : Hm w mb n s) (hg : w.grownBy w' row) (hne : some mb ≠ row) : Hm w' mb n s := by
  obtain ⟨D, h1, h2⟩ := h.ex
  exact ⟨⟨D, h1.kept hg hne, h2⟩, h.apart, h.keys⟩
theorem Hm.keep {w w' : World} {mb n : Nat} {s : List (Int × Qd)} (h : Hm w mb n s) (hb : Below w.heap.size w w') : Hm w' mb n s := h.kept (below_grown hb none) (by simp)
theorem Hm.alloc {w : World} {mb n : Nat} {s : List (Int × Qd)} (h : Hm w mb n s) (o : Obj) : Hm (w.alloc o) mb n s := h.kept (World.grownBy_alloc w o none) (by simp)
theorem Hm.drew {w : World} {mb n : Nat} {s : List (Int × Qd)} (h : Hm w mb n s) : Hm w.drew mb n s := by
  obtain ⟨D, h1, h2⟩ := h.ex
  exact ⟨⟨D, h1.drew, h2⟩, h.apart, h.keys⟩
theorem Hm.put {w : World} {mb n : Nat} {s : List (Int × Qd)} (h : Hm w mb n s) {a : Addr} (ha : mb ≠ a.block) (u : Value) : Hm (w.setCell a u) mb n s := by
  obtain ⟨D, h1, h2⟩ := h.ex
  exact ⟨⟨D, h1.setCell ha u, h2⟩, h.apart, h.keys⟩
theorem Hm.apartB {w : World} {mb n : Nat} {s : List (Int × Qd)} (h : Hm w mb n s) {a : Addr} {v : Value} (hc : w.cell? a = some v) : mb ≠ a.block := by
  obtain ⟨D, ⟨es, clock, hb, _⟩, _⟩ := h.ex
  intro e
  subst e
  simp [World.cell?, hb] at hc
theorem Hm.size {w : World} {mb n : Nat} {s : List (Int × Qd)} (h : Hm w mb n s) : ∃ es clock, w.heap[mb]? = some (.map es clock) ∧ es.size = s.length := by
  obtain ⟨D, ⟨es, clock, hb, F, hs, hD⟩, h2, _⟩ := h.ex
  refine ⟨es, clock, hb, ?_⟩
  rw [← h2, hD]
  exact (length_read es).symm
theorem Hm.made (w : World) : Hm (w.alloc (.map #[] 0)) w.heap.size 0 [] :=
  ⟨⟨_, World.ownsMap_made w _ _ _, rfl, fun _ _ _ _ => rfl, by simp⟩, by simp, by simp⟩

theorem Hm.atFnd {D : DataW Value} {s : List (Int × Qd)} (h1 : ∀ t p, wfI t → wfI p → Maps.has D (klit t p) = s.any (sel t p)) (h2 : ∀ e ∈ s, ∀ zd, D.atKey (klit e.2.tag e.2.page) zd = .held (e3 e)) {t p : Int} (ht : wfI t) (hp : wfI p) :
    D.atKey (klit t p) (.held (.agg #[.int .i64 0, .int .i64 0, .int .i64 0])) = .held (e3 (fnd s t p)) := by
  unfold fnd
  cases hf : s.find? (sel t p) with
  | none =>
    have hn : s.any (sel t p) = false := by
      rw [List.any_eq_false]
      exact fun x hx => List.find?_eq_none.1 hf x hx
    rw [Maps.atKey_of_not_has ((h1 t p ht hp).trans hn)]
    rfl
  | some e =>
    have hm := List.mem_of_find?_eq_some hf
    obtain ⟨e1, e2⟩ := sel_iff.1 (List.find?_some hf)
    have := h2 e hm (.held (.agg #[.int .i64 0, .int .i64 0, .int .i64 0]))
    rw [e1, e2] at this
    exact this

theorem Hm.look {w : World} {mb n : Nat} {s : List (Int × Qd)} (h : Hm w mb n s) {t p : Int} (ht : wfI t) (hp : wfI p) :
    (Instr.lookup 55 (.map (some mb)) (.agg #[.int .i64 t, .int .i64 p]) false).run Try.prog w = .ok (.agg #[.int .i64 (fnd s t p).1, .int .i64 (fnd s t p).2.to, .int .i64 (fnd s t p).2.kinds]) w := by
  obtain ⟨D, h1, h2, h3, h4⟩ := h.ex
  obtain ⟨v, ps, hrun, hv⟩ := h1.lookup key_law Try.underlying55 (zero_kept w) rfl (key_of ht hp)
  rw [Hm.atFnd h3 h4 ht hp] at hv
  simp [heldR] at hv
  rw [hrun, hv.1]
  rfl
theorem Hm.lookOk {w : World} {mb n : Nat} {s : List (Int × Qd)} (h : Hm w mb n s) {t p : Int} (ht : wfI t) (hp : wfI p) :
    (Instr.lookup 55 (.map (some mb)) (.agg #[.int .i64 t, .int .i64 p]) true).run Try.prog w = .ok (.tuple #[.agg #[.int .i64 (fnd s t p).1, .int .i64 (fnd s t p).2.to, .int .i64 (fnd s t p).2.kinds], .bool (s.any (sel t p))]) w := by
  obtain ⟨D, h1, h2, h3, h4⟩ := h.ex
  obtain ⟨v, ps, hrun, hv⟩ := h1.look_ok key_law Try.underlying55 (zero_kept w) rfl (key_of ht hp)
  rw [Hm.atFnd h3 h4 ht hp] at hv
  simp [heldR] at hv
  rw [hrun, hv.1, h3 t p ht hp]
  rfl
theorem Hm.len {w : World} {mb n : Nat} {s : List (Int × Qd)} (h : Hm w mb n s) (ty : TypeId) : (Builtin.len_ #[55] ty #[.map (some mb)]).run Try.prog w = .ok (.int .i64 s.length) w := by
  obtain ⟨D, h1, h2, h3, h4⟩ := h.ex
  rw [h1.len Try.underlying55 ty, h2]

theorem drp_mem {s : List (Int × Qd)} {t p : Int} {e : Int × Qd} : e ∈ drp s t p ↔ e ∈ s ∧ ¬ (e.2.tag = t ∧ e.2.page = p) := by
  simp only [drp, List.mem_filter, Bool.not_eq_true', sel_not]
theorem drp_none {s : List (Int × Qd)} {t p : Int} (h : s.any (sel t p) = false) : drp s t p = s := by
  unfold drp
  rw [List.filter_eq_self]
  intro e he
  have := List.any_eq_false.1 h e he
  simpa using this
theorem drp_length {s : List (Int × Qd)} {t p : Int} (h : s.Pairwise fun a b => ¬ (a.2.tag = b.2.tag ∧ a.2.page = b.2.page)) : (drp s t p).length + (if s.any (sel t p) then 1 else 0) = s.length := by
  induction s with
  | nil => rfl
  | cons e r ih =>
    obtain ⟨h1, h2⟩ := List.pairwise_cons.1 h
    cases hs : sel t p e
    · have := ih h2
      simp only [drp, List.filter_cons, hs, Bool.not_false, if_true, List.length_cons, List.any_cons, Bool.false_or] at this ⊢
      omega
    · have hr : r.any (sel t p) = false := by
        rw [List.any_eq_false]
        intro x hx
        rw [sel_iff]
        obtain ⟨e1, e2⟩ := sel_iff.1 hs
        intro ⟨x1, x2⟩
        exact h1 x hx ⟨e1.trans x1.symm, e2.trans x2.symm⟩
      have := drp_none hr
      unfold drp at this
      simp only [drp, List.filter_cons, hs, Bool.not_true, List.length_cons, List.any_cons, Bool.true_or, if_true]
      simp [this]
theorem any_drp {s : List (Int × Qd)} {t p : Int} (t' p' : Int) : (drp s t p).any (sel t' p') = (s.any (sel t' p') && !(t' == t && p' == p)) := by
  induction s with
  | nil => simp [drp]
  | cons e r ih =>
    unfold drp at ih ⊢
    cases hs : sel t p e
    · rw [List.filter_cons_of_pos (by simp [hs]), List.any_cons, List.any_cons, ih]
      cases h2 : sel t' p' e
      · simp
      · have : (t' == t && p' == p) = false := by
          rw [sel_not] at hs
          obtain ⟨x1, x2⟩ := sel_iff.1 h2
          rw [x1, x2] at hs
          simp
          intro e1 e2
          exact hs ⟨e1, e2⟩
        rw [this]
        simp
    · rw [List.filter_cons_of_neg (by simp [hs]), List.any_cons, ih]
      cases h2 : sel t' p' e
      · simp
      · obtain ⟨x1, x2⟩ := sel_iff.1 h2
        obtain ⟨y1, y2⟩ := sel_iff.1 hs
        have : (t' == t && p' == p) = true := by rw [← x1, ← x2, y1, y2]; simp
        rw [this]
        simp

theorem Hm.store {w : World} {mb n : Nat} {s : List (Int × Qd)} (h : Hm w mb n s) (hn : n < 1000) (nx : Int) (q : Qd) (hq : 0 ≤ q.tag ∧ q.tag ≤ 9 ∧ 0 ≤ q.page ∧ q.page ≤ 7) :
    ∃ w', (Instr.mapUpdate 55 (.map (some mb)) (.agg #[.int .i64 q.tag, .int .i64 q.page]) (.agg #[.int .i64 nx, .int .i64 q.to, .int .i64 q.kinds])).run Try.prog w = .ok () w' ∧
      Hm w' mb (n + 1) (drp s q.tag q.page ++ [(nx, q)]) ∧ w.grownBy w' (some mb) := by
  obtain ⟨D, h1, h2, h3, h4⟩ := h.ex
  have ht : wfI q.tag := wf_small hq.1 (by omega)
  have hp : wfI q.page := wf_small hq.2.2.1 (by omega)
  obtain ⟨w', hrun, ho, hg⟩ := h1.update key_law Try.underlying55 (by unfold maxLen; omega) (key_of ht hp) (val := .agg #[.int .i64 nx, .int .i64 q.to, .int .i64 q.kinds]) rfl
  have hk := key_law.key (key_of ht hp)
  have hTi := h1.tidy key_law
  refine ⟨w', hrun, ⟨⟨_, ho, ?_, ?_, ?_⟩, ?_, ?_⟩, hg⟩
  · rw [Maps.size_put hTi, h3 _ _ ht hp, h2]
    have := drp_length (t := q.tag) (p := q.page) h.apart
    rw [List.length_append, List.length_singleton]
    split at this <;> simp_all
  · intro t p wt wp
    rw [List.any_append, any_drp]
    by_cases he : t = q.tag ∧ p = q.page
    · obtain ⟨rfl, rfl⟩ := he
      rw [Maps.has_put_same h1.isMap hk]
      simp [sel]
    · rw [Maps.has_put_other (fun e => he (klit_inj wt wp ht hp e)), h3 t p wt wp]
      have e1 : (t == q.tag && p == q.page) = false := by simpa using he
      have e2 : sel t p (nx, q) = false := by
        rw [sel_not]
        exact fun ⟨a, b⟩ => he ⟨a.symm, b.symm⟩
      simp [e1, e2]
  · intro e he zd
    rcases List.mem_append.1 he with he | he
    · obtain ⟨hm, hne⟩ := drp_mem.1 he
      have hk2 := h.keys e hm
      rw [Maps.atKey_put_other (fun e' => hne (klit_inj (wf_small hk2.1 (by omega)) (wf_small hk2.2.2.1 (by omega)) ht hp e'))]
      exact h4 e hm zd
    · obtain rfl := List.mem_singleton.1 he
      rw [Maps.atKey_put_same h1.isMap hk]
      rfl
  · rw [List.pairwise_append]
    refine ⟨h.apart.filter _, by simp, ?_⟩
    intro a ha b hb
    obtain rfl := List.mem_singleton.1 hb
    exact (drp_mem.1 ha).2
  · intro e he
    rcases List.mem_append.1 he with he | he
    · exact h.keys e (drp_mem.1 he).1
    · obtain rfl := List.mem_singleton.1 he
      exact hq
theorem Hm.del {w : World} {mb n : Nat} {s : List (Int × Qd)} (h : Hm w mb n s) {t p : Int} (ht : wfI t) (hp : wfI p) (ty : TypeId) :
    ∃ w', (Builtin.delete_ #[55, 59] ty #[.map (some mb), .agg #[.int .i64 t, .int .i64 p]]).run Try.prog w = .ok (.tuple #[]) w' ∧
      Hm w' mb n (drp s t p) ∧ w.grownBy w' (some mb) := by
  obtain ⟨D, h1, h2, h3, h4⟩ := h.ex
  obtain ⟨w', hrun, ho, hg⟩ := h1.drop key_law Try.underlying55 (key_of ht hp) ty
  have hTi := h1.tidy key_law
  refine ⟨w', hrun, ⟨⟨_, ho, ?_, ?_, ?_⟩, h.apart.filter _, fun e he => h.keys e (drp_mem.1 he).1⟩, hg.grown⟩
  · have e1 := Maps.size_del (k := klit t p) hTi
    rw [h3 _ _ ht hp, h2, ← drp_length (t := t) (p := p) h.apart] at e1
    omega
  · intro t' p' wt wp
    rw [any_drp]
    by_cases he : t' = t ∧ p' = p
    · obtain ⟨rfl, rfl⟩ := he
      rw [Maps.has_del_same]
      simp
    · rw [Maps.has_del_other (fun e => he (klit_inj wt wp ht hp e)), h3 t' p' wt wp]
      have e1 : (t' == t && p' == p) = false := by simpa using he
      simp [e1]
  · intro e he zd
    obtain ⟨hm, hne⟩ := drp_mem.1 he
    have hk2 := h.keys e hm
    rw [Maps.atKey_del_other (fun e' => hne (klit_inj (wf_small hk2.1 (by omega)) (wf_small hk2.2.2.1 (by omega)) ht hp e'))]
    exact h4 e hm zd
end Go.Proofs.Ytaajaikpkcgalaa
