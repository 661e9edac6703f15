/- FillCache and FlushCache by the program. -/
import Derived.Test.YtaajaikpkcgalaaStg
namespace Go.Proofs.Ytaajaikpkcgalaa
open Go.RowKit
set_option linter.unusedVariables false

/-- An answer of four cells at the head of a block. -/
structure Rc (w : World) (R : Nat) (c v : Int) (f : Bool) (s : Value) : Prop where
  r0 : w.cell? ⟨R, 0, none⟩ = some (.int .i64 c)
  r1 : w.cell? ⟨R, 1, none⟩ = some (.int .i64 v)
  r2 : w.cell? ⟨R, 2, none⟩ = some (.bool f)
  r3 : w.cell? ⟨R, 3, none⟩ = some s
  f0 : w.frozen? ⟨R, 0, none⟩ = false
  f1 : w.frozen? ⟨R, 1, none⟩ = false
  f2 : w.frozen? ⟨R, 2, none⟩ = false
  f3 : w.frozen? ⟨R, 3, none⟩ = false
theorem Rc.lt {w : World} {R : Nat} {c v : Int} {f : Bool} {s : Value} (h : Rc w R c v f s) : R < w.heap.size := block_of_cell h.r0
theorem Rc.below {w w' : World} {R B : Nat} {c v : Int} {f : Bool} {s : Value} (h : Rc w R c v f s) (hb : Below B w w') (hR : R < B) : Rc w' R c v f s :=
  ⟨by rw [hb.cell (p := ⟨R, 0, none⟩) hR]; exact h.r0, by rw [hb.cell (p := ⟨R, 1, none⟩) hR]; exact h.r1, by rw [hb.cell (p := ⟨R, 2, none⟩) hR]; exact h.r2, by rw [hb.cell (p := ⟨R, 3, none⟩) hR]; exact h.r3,
   by rw [hb.frozen (p := ⟨R, 0, none⟩) hR]; exact h.f0, by rw [hb.frozen (p := ⟨R, 1, none⟩) hR]; exact h.f1, by rw [hb.frozen (p := ⟨R, 2, none⟩) hR]; exact h.f2, by rw [hb.frozen (p := ⟨R, 3, none⟩) hR]; exact h.f3⟩
theorem Rc.keep {w w' : World} {R : Nat} {c v : Int} {f : Bool} {s : Value} (h : Rc w R c v f s) (hb : Below w.heap.size w w') : Rc w' R c v f s := h.below hb h.lt
theorem Rc.made (w : World) : Rc (w.alloc (.cells #[.int .i64 0, .int .i64 0, .bool false, .slice none 0 0] 29)) w.heap.size 0 0 false (.slice none 0 0) := by
  constructor <;> simp

theorem trn_rise (l : List Qd) : (trn l).Pairwise fun a b => a.1 < b.1 := by
  unfold trn
  rw [List.pairwise_map]
  have : ∀ (l : List Qd) (k : Nat), (l.zipIdx k).Pairwise fun a b => (a.2 : Int) < (b.2 : Int) := by
    intro l
    induction l with
    | nil => intro k; simp
    | cons q r ih =>
      intro k
      rw [List.zipIdx_cons, List.pairwise_cons]
      refine ⟨fun x hx => ?_, ih (k + 1)⟩
      have := (List.mem_zipIdx hx).1
      omega
  exact this l 0
theorem trn_hits (l : List Qd) : hitsOf (trn l) = l := by
  unfold hitsOf trn
  rw [List.map_map]
  have : ∀ (l : List Qd) (k : Nat), (l.zipIdx k).map ((fun e : Int × Qd => e.2) ∘ fun x => ((x.2 : Int), x.1)) = l := by
    intro l
    induction l with
    | nil => intro k; rfl
    | cons q r ih => intro k; simp [List.zipIdx_cons] at ih ⊢; exact ih (k + 1)
  exact this l 0
theorem trn_lt (l : List Qd) : ∀ e ∈ trn l, e.1 < l.length := by
  intro e he
  unfold trn at he
  obtain ⟨x, hx, rfl⟩ := List.mem_map.1 he
  have := (List.mem_zipIdx hx).2.1
  simp only
  omega

def notKey (t p : Int) (q : Qd) : Bool := !(q.tag == t && q.page == p)
/-- A cache behind a hit that is filled in. -/
def fillQ (rs : List Qd) (q : Qd) : List Qd := (if hasQ rs q.tag q.page then rs.filter (notKey q.tag q.page) else if rs.length = 12 then rs.tail else rs) ++ [q]
theorem hits_drp (s : List (Int × Qd)) (t p : Int) : hitsOf (drp s t p) = (hitsOf s).filter (notKey t p) := by
  unfold hitsOf drp
  rw [List.filter_map]
  rfl
theorem hits_fill (rs : List Qd) (q : Qd) (nx : Int) : hitsOf (fillS (trn rs) q nx) = fillQ rs q := by
  unfold fillS fillQ
  rw [trn_any, trn_length]
  have e : ∀ a b : List (Int × Qd), hitsOf (a ++ b) = hitsOf a ++ hitsOf b := fun a b => by simp [hitsOf]
  rw [e]
  congr 1
  split
  · rw [hits_drp, trn_hits]
  · split
    · have : hitsOf (trn rs).tail = (hitsOf (trn rs)).tail := by simp [hitsOf]
      rw [this, trn_hits]
    · exact trn_hits rs
theorem fill_rise (rs : List Qd) (q : Qd) : (fillS (trn rs) q rs.length).Pairwise fun a b => a.1 < b.1 := by
  unfold fillS
  have hsub : ∀ l : List (Int × Qd), l.Sublist (trn rs) → (l ++ [((rs.length : Int), q)]).Pairwise fun a b => a.1 < b.1 := fun l hl => by
    rw [List.pairwise_append]
    refine ⟨(trn_rise rs).sublist hl, by simp, fun a ha b hb => ?_⟩
    rw [List.mem_singleton] at hb
    subst hb
    exact trn_lt rs a (hl.subset ha)
  refine hsub _ ?_
  split
  · exact List.filter_sublist
  · split
    · exact List.tail_sublist _
    · exact List.Sublist.refl _
theorem fill_length (rs : List Qd) (q : Qd) (nx : Int) (hap : (trn rs).Pairwise fun a b => ¬ (a.2.tag = b.2.tag ∧ a.2.page = b.2.page)) (h : rs.length ≤ 12) : (fillS (trn rs) q nx).length ≤ 12 := by
  unfold fillS
  rw [List.length_append, List.length_singleton]
  split
  · next ha =>
    have := drp_length (t := q.tag) (p := q.page) hap
    rw [ha, trn_length] at this
    simp at this
    omega
  · split
    · next hl => rw [List.length_tail, hl]; omega
    · next hl => rw [trn_length] at hl ⊢; omega

/-- Code and cache of FillCache. -/
def fcC (rs : List Qd) (q : Qd) : Int := if cfV rs = 0 then hfV q else cfV rs
def fcL (rs : List Qd) (q : Qd) : List Qd := if fcC rs q = 0 then fillQ rs q else []

end Go.Proofs.Ytaajaikpkcgalaa
