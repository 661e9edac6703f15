/- Texts of this seat, joined. -/
import Derived.Test.YtcdbhhhihhdghaaGreatDoorQ19
import Derived.Test.YtcdbhhhihhdghaaGreatDoorQ41
namespace Go.Proofs.YtcdbhhhihhdghaaGreatDoor
open Go.RowKit
set_option linter.unusedVariables false

structure V4 where
  r : Value
  c : Value
  i : Value
  o : Value
def V4.l (q : V4) : List Value := [q.r, q.c, q.i, q.o]
/-- What a list's block holds: the type of its cells. -/
def tyOf (w : World) (g : Nat) : Option TypeId := match w.heap[g]? with | some (.cells _ t _) => some t | _ => none
theorem ty_ne {w : World} {a b : Nat} {s t : TypeId} (h : tyOf w a = some s) (k : tyOf w b = some t) (hn : s ≠ t) : a ≠ b := fun e => by subst e; rw [h] at k; cases k; exact hn rfl
def blk (v : Value) : Nat := match v.ownBlock with | some k => k | none => 0
def vln : Value → Nat
  | .slice _ n _ => n
  | _ => 0
/-- A list that is not empty: where it lies. -/
structure Bk4 (w : World) (base : Nat) (t : TypeId) (v : Value) : Prop where
  own : v.ownBlock = some (blk v)
  ty : tyOf w (blk v) = some t
  lo : base ≤ blk v
  hi : blk v < w.heap.size
theorem row_bk {w : World} {base sz n : Nat} {e : TypeId} {v : Value} {xs : List Value} (h : w.ownsRow base e sz v n xs) (h0 : 0 < n) : Bk4 w base e v ∧ ∃ cap, v = .slice (some ⟨blk v, 0, none⟩) n cap := by
  obtain ⟨_, ⟨_, h2⟩ | ⟨g, cap, cur, rfl, hg, hr, _⟩⟩ := h
  · omega
  · exact ⟨⟨rfl, by show (match w.heap[g]? with | some (.cells _ t _) => some t | _ => none) = _; rw [hr], hg, (Array.getElem?_eq_some_iff.1 hr).1⟩, cap, rfl⟩
theorem row_mg {w : World} {base sz n cap : Nat} {e : TypeId} {a : Option Addr} {xs : List Value} (h : w.ownsRow base e sz (.slice a n cap) n xs) (hi : ∀ x ∈ xs, ∃ z, x = .int .i64 z) : Mg w (blk (.slice a n cap)) sz a n := fun h0 => by
  obtain ⟨g, e⟩ : ∃ g, a = some ⟨g, 0, none⟩ := by
    obtain ⟨_, ⟨_, h2⟩ | ⟨g, cap, cur, hv, _⟩⟩ := h
    · omega
    · simp at hv; exact ⟨g, hv.1⟩
  subst e
  show some (⟨g, 0, none⟩ : Addr) = some ⟨g, 0, none⟩ ∧ ∀ i, i < n * sz → (∃ z, w.cell? ⟨g, i, none⟩ = some (.int .i64 z)) ∧ w.frozen? ⟨g, i, none⟩ = false
  refine ⟨rfl, fun i hi' => ⟨?_, World.ownsRow.frozenAt h i⟩⟩
  have hl : i < xs.length := by rw [h.1]; exact hi'
  obtain ⟨z, hz⟩ := hi xs[i] (List.getElem_mem hl)
  refine ⟨z, ?_⟩
  have := World.ownsRow.cellAt h i hi'
  rw [List.getElem?_eq_getElem hl, hz] at this
  exact this
theorem flat_ints (rs : List (Int × Int)) : ∀ x ∈ flat rs, ∃ z, x = .int .i64 z := by
  induction rs with
  | nil => intro x hx; cases hx
  | cons r t ih =>
    intro x hx
    rcases List.mem_cons.1 hx with rfl | hx
    · exact ⟨_, rfl⟩
    rcases List.mem_cons.1 hx with rfl | hx
    · exact ⟨_, rfl⟩
    exact ih x hx
theorem flat5_ints (rs : List Ln) : ∀ x ∈ flat5 rs, ∃ z, x = .int .i64 z := by
  induction rs with
  | nil => intro x hx; cases hx
  | cons r t ih =>
    intro x hx
    simp only [flat5, List.mem_cons] at hx
    rcases hx with rfl | rfl | rfl | rfl | rfl | hx
    any_goals exact ⟨_, rfl⟩
    exact ih x hx
theorem ints_ints (zs : List Int) : ∀ x ∈ zs.map (Value.int .i64), ∃ z, x = .int .i64 z := fun x hx => by
  obtain ⟨z, _, rfl⟩ := List.mem_map.1 hx; exact ⟨z, rfl⟩
theorem Nums.vln {w : World} {base : Nat} {v : Value} {zs : List Int} (h : Nums w base v zs) : vln v = zs.length := by
  obtain ⟨a, cap, rfl, _⟩ := h.shape; rfl
theorem Nums.bk {w : World} {base : Nat} {v : Value} {zs : List Int} (h : Nums w base v zs) (h0 : 0 < Go.Proofs.YtcdbhhhihhdghaaGreatDoor.vln v) : Bk4 w base 2 v := (row_bk h (by rw [← h.vln]; exact h0)).1
theorem apt_blk {w : World} {base : Nat} {t : TypeId} {a b : Value} (h : Apt a b) (ha : Bk4 w base t a) (hb : Bk4 w base t b) : blk a ≠ blk b := fun e => by
  rcases h with h | h
  · rw [ha.own] at h; cases h
  · rw [ha.own, hb.own, e] at h; exact h rfl
theorem row_keepX {w w' : World} {base sz n : Nat} {e : TypeId} {v : Value} {xs : List Value} (h : w.ownsRow base e sz v n xs) (b : Below w.heap.size w w') : w'.ownsRow base e sz v n xs := by
  refine World.ownsRow.kept h (below_grown b none) ?_
  cases v.ownBlock <;> simp
theorem row_hoX {e sz n base : Nat} {v : Value} {w w' : World} {xs : List Value} (h : w.ownsRow base e sz v n xs) (H : Ho base w w') : w'.ownsRow base e sz v n xs := by
  obtain ⟨h1, h2 | ⟨g, cap, cur, hv, hg, hr, rest⟩⟩ := h
  · exact ⟨h1, .inl h2⟩
  · refine ⟨h1, .inr ⟨g, cap, cur, hv, hg, ?_, rest⟩⟩
    rw [H.block g hg (Array.getElem?_eq_some_iff.1 hr).1]
    exact hr
theorem row_monoX {e sz n base base' : Nat} {v : Value} {w : World} {xs : List Value} (h : w.ownsRow base e sz v n xs) (hb : base' ≤ base) : w.ownsRow base' e sz v n xs := by
  obtain ⟨h1, h2 | ⟨g, cap, cur, hv, hg, hr⟩⟩ := h
  · exact ⟨h1, .inl h2⟩
  · exact ⟨h1, .inr ⟨g, cap, cur, hv, Nat.le_trans hb hg, hr⟩⟩
theorem row_sv {w : World} {base : Nat} {v : Value} {xs : List Value} {oss : List (List Int)} (h : w.ownsRow base 36 1 v xs.length xs) (hl : xs.length = oss.length) (hr : ∀ (i : Nat) (x : Value), xs[i]? = some x → Nums w base x (oss.getD i [])) : Svr w v oss := by
  have h' := h
  obtain ⟨_, ⟨h2, h3⟩ | ⟨g, cap, cur, hv, hg, _, hc, hm, _⟩⟩ := h
  · exact .inl ⟨h2, List.length_eq_zero_iff.1 (by omega)⟩
  · subst hv
    refine .inr ⟨g, cap, by rw [← hl], by omega, hm, fun i hi => ?_⟩
    have hx : i < xs.length := by omega
    have n := hr i xs[i] (List.getElem?_eq_getElem hx)
    obtain ⟨a, c, e, _⟩ := n.shape
    have cc := World.ownsRow.cellAt h' i (by omega)
    rw [List.getElem?_eq_getElem hx, e] at cc
    rw [e] at n
    exact ⟨a, _, c, cc, n.rv⟩
def rlX (xs : List Value) : List (Nat × Nat) := xs.map fun x => (blk x, vln x)
theorem pw_ne {w : World} {base : Nat} {L : List Value} (hL : L.Pairwise Apt) (hn : ∀ v ∈ L, ∃ zs, Nums w base v zs) : L.Pairwise fun a b => 0 < vln a → 0 < vln b → blk a ≠ blk b := by
  refine List.Pairwise.imp_of_mem (fun ha hb h h1 h2 => ?_) hL
  obtain ⟨_, na⟩ := hn _ ha
  obtain ⟨_, nb⟩ := hn _ hb
  exact apt_blk h (na.bk h1) (nb.bk h2)
end Go.Proofs.YtcdbhhhihhdghaaGreatDoor
