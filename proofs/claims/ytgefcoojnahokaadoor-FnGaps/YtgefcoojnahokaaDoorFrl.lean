/- Free pages, links and numbers put into rising lists, as values; an answer under way whose list grows. -/
import Derived.Test.YtgefcoojnahokaaDoorPol
import Derived.Test.YtgefcoojnahokaaDoorApw
namespace Go.Proofs.YtgefcoojnahokaaDoor
open Go.RowKit
set_option linter.unusedVariables false

def laneHas (ls : List Ln) (pg : Int) : Bool := ls.any fun l => decide (l.pg = pg)
theorem laneHas_step (ls : List Ln) (pg : Int) (j : Nat) (h : j < ls.length) : laneHas (ls.drop j) pg = (decide ((ls.getD j lz).pg = pg) || laneHas (ls.drop (j + 1)) pg) := any_step lz ls _ j h
theorem laneHas_take (ls : List Ln) (pg : Int) (j : Nat) (h : j < ls.length) : laneHas (ls.take (j + 1)) pg = (laneHas (ls.take j) pg || decide ((ls.getD j lz).pg = pg)) := by
  unfold laneHas
  rw [take_succ_getD ls lz j h, List.any_append]
  simp
def isFree (P : Plc) (pg : Int) : Bool := decide (ownerFrom 0 P.own pg = -1) && !laneHas P.lanes pg
def freeUp (P : Plc) : Nat → List Int
  | 0 => []
  | j + 1 => freeUp P j ++ (if isFree P j = true then [(j : Int)] else [])
def freeC (P : Plc) : Int := pfV P
def freeZ (P : Plc) : List Int := if pfV P = 0 then freeUp P 24 else []
theorem freeUp_len (P : Plc) : ∀ j, (freeUp P j).length ≤ j
  | 0 => Nat.le_refl _
  | j + 1 => by
    have := freeUp_len P j
    rw [freeUp, List.length_append]
    split <;> simp <;> omega
theorem free_len (P : Plc) : (freeZ P).length ≤ 24 := by
  unfold freeZ
  split
  · exact freeUp_len P 24
  · exact Nat.zero_le _

/-- A number put into a rising list. -/
def riseV : List Int → Int → List Int
  | [], v => [v]
  | z :: t, v => if z < v then z :: riseV t v else if z = v then z :: t else v :: z :: t
theorem riseV_mem (zs : List Int) (v x : Int) : x ∈ riseV zs v ↔ (x = v ∨ x ∈ zs) := by
  induction zs with
  | nil => simp [riseV]
  | cons z t ih =>
    rw [riseV]
    split
    · rw [List.mem_cons, ih, List.mem_cons]
      constructor
      · rintro (h | h | h) <;> simp [h]
      · rintro (h | h | h) <;> simp [h]
    · split
      · rename_i h1 h2
        subst h2
        simp
      · simp
theorem riseV_len (zs : List Int) (v : Int) : (riseV zs v).length ≤ zs.length + 1 := by
  induction zs with
  | nil => simp [riseV]
  | cons z t ih =>
    rw [riseV]
    split
    · simp; omega
    · split <;> simp
def Up (zs : List Int) : Prop := zs.Pairwise (· < ·)
theorem riseV_up (zs : List Int) (v : Int) (h : Up zs) : Up (riseV zs v) := by
  induction zs with
  | nil => simp [riseV, Up]
  | cons z t ih =>
    unfold Up at *
    rw [List.pairwise_cons] at h
    rw [riseV]
    split
    · rename_i h1
      rw [List.pairwise_cons]
      refine ⟨fun x hx => ?_, ih h.2⟩
      rcases (riseV_mem t v x).1 hx with rfl | hx
      · exact h1
      · exact h.1 x hx
    · split
      · rw [List.pairwise_cons]; exact h
      · rename_i h1 h2
        rw [List.pairwise_cons, List.pairwise_cons]
        refine ⟨fun x hx => ?_, h⟩
        rcases List.mem_cons.1 hx with rfl | hx
        · omega
        · have := h.1 x hx; omega
theorem up_ext : ∀ (a b : List Int), Up a → Up b → (∀ x, x ∈ a ↔ x ∈ b) → a = b := by
  intro a
  induction a with
  | nil =>
    intro b _ _ h
    cases b with
    | nil => rfl
    | cons y t => have := (h y).2 (by simp); cases this
  | cons x a ih =>
    intro b ha hb h
    cases b with
    | nil => have := (h x).1 (by simp); cases this
    | cons y b =>
      unfold Up at *
      rw [List.pairwise_cons] at ha hb
      have hxy : x = y := by
        have h1 := (h x).1 (by simp)
        have h2 := (h y).2 (by simp)
        rcases List.mem_cons.1 h1 with e | h1
        · exact e
        · rcases List.mem_cons.1 h2 with e | h2
          · exact e.symm
          · have := ha.1 y h2; have := hb.1 x h1; omega
      subst hxy
      congr 1
      refine ih b ha.2 hb.2 (fun z => ?_)
      constructor
      · intro hz
        rcases List.mem_cons.1 ((h z).1 (List.mem_cons_of_mem _ hz)) with e | hz'
        · subst e; have := ha.1 z hz; omega
        · exact hz'
      · intro hz
        rcases List.mem_cons.1 ((h z).2 (List.mem_cons_of_mem _ hz)) with e | hz'
        · subst e; have := hb.1 z hz; omega
        · exact hz'
/-- Where a number goes in. -/
theorem riseV_at (zs : List Int) (v : Int) : ∃ j, j ≤ zs.length ∧ (∀ i, i < j → zs.getD i 0 < v) ∧
    ((j < zs.length ∧ zs.getD j 0 = v ∧ riseV zs v = zs) ∨ ((j < zs.length → v < zs.getD j 0) ∧ riseV zs v = zs.take j ++ [v] ++ zs.drop j)) := by
  induction zs with
  | nil => exact ⟨0, Nat.le_refl _, fun i hi => absurd hi (Nat.not_lt_zero _), .inr ⟨fun h => absurd h (Nat.not_lt_zero _), rfl⟩⟩
  | cons z t ih =>
    rw [riseV]
    split
    · rename_i h1
      obtain ⟨j, k1, k2, k3⟩ := ih
      refine ⟨j + 1, by simp; omega, fun i hi => ?_, ?_⟩
      · cases i with
        | zero => simpa using h1
        | succ i => simpa using k2 i (by omega)
      · rcases k3 with ⟨k3, k4, k5⟩ | ⟨k3, k4⟩
        · exact .inl ⟨by simp; omega, by simpa using k4, by rw [k5]⟩
        · refine .inr ⟨fun h => ?_, by rw [k4]; simp⟩
          have := k3 (by simp at h; omega)
          simpa using this
    · rename_i h1
      split
      · rename_i h2
        exact ⟨0, Nat.zero_le _, fun i hi => absurd hi (Nat.not_lt_zero _), .inl ⟨by simp, by simpa using h2, rfl⟩⟩
      · rename_i h2
        exact ⟨0, Nat.zero_le _, fun i hi => absurd hi (Nat.not_lt_zero _), .inr ⟨fun _ => by simp; omega, by simp⟩⟩

/-- The From of each lane and bell to a guest, put into a rising list. -/
def lkL (g : Int) (z : List Int) : List Ln → List Int
  | [] => z
  | l :: t => lkL g (if l.dst = g then riseV z l.fr else z) t
def lkB (g : Int) (z : List Int) : List (Int × Int) → List Int
  | [] => z
  | b :: t => lkB g (if b.2 = g then riseV z b.1 else z) t
def lkV (P : Plc) (g : Int) : List Int := lkB g (lkL g [] P.lanes) P.bells
theorem lkL_up (g : Int) (ls : List Ln) : ∀ z, Up z → Up (lkL g z ls) := by
  induction ls with
  | nil => intro z h; exact h
  | cons l t ih => intro z h; rw [lkL]; refine ih _ ?_; split; exact riseV_up _ _ h; exact h
theorem lkB_up (g : Int) (bs : List (Int × Int)) : ∀ z, Up z → Up (lkB g z bs) := by
  induction bs with
  | nil => intro z h; exact h
  | cons l t ih => intro z h; rw [lkB]; refine ih _ ?_; split; exact riseV_up _ _ h; exact h
theorem lkL_mem (g : Int) (ls : List Ln) (x : Int) : ∀ z, x ∈ lkL g z ls ↔ (x ∈ z ∨ ∃ l ∈ ls, l.fr = x ∧ l.dst = g) := by
  induction ls with
  | nil => intro z; simp [lkL]
  | cons l t ih =>
    intro z
    rw [lkL, ih]
    split
    · rename_i h1
      rw [riseV_mem]
      simp only [List.mem_cons, exists_eq_or_imp]
      constructor
      · rintro ((h | h) | h)
        · exact .inr (.inl ⟨h.symm, h1⟩)
        · exact .inl h
        · exact .inr (.inr h)
      · rintro (h | ⟨h, _⟩ | h)
        · exact .inl (.inr h)
        · exact .inl (.inl h.symm)
        · exact .inr h
    · rename_i h1
      simp only [List.mem_cons, exists_eq_or_imp]
      constructor
      · rintro (h | h)
        · exact .inl h
        · exact .inr (.inr h)
      · rintro (h | ⟨_, h⟩ | h)
        · exact .inl h
        · exact absurd h h1
        · exact .inr h
theorem lkB_mem (g : Int) (bs : List (Int × Int)) (x : Int) : ∀ z, x ∈ lkB g z bs ↔ (x ∈ z ∨ (x, g) ∈ bs) := by
  induction bs with
  | nil => intro z; simp [lkB]
  | cons b t ih =>
    intro z
    obtain ⟨b1, b2⟩ := b
    rw [lkB, ih]
    simp only [List.mem_cons, Prod.mk.injEq]
    split
    · rename_i h1
      rw [riseV_mem]
      constructor
      · rintro ((h | h) | h)
        · exact .inr (.inl ⟨h, h1.symm⟩)
        · exact .inl h
        · exact .inr (.inr h)
      · rintro (h | ⟨h, _⟩ | h)
        · exact .inl (.inr h)
        · exact .inl (.inl h)
        · exact .inr h
    · rename_i h1
      constructor
      · rintro (h | h)
        · exact .inl h
        · exact .inr (.inr h)
      · rintro (h | ⟨_, h⟩ | h)
        · exact .inl h
        · exact absurd h.symm h1
        · exact .inr h
theorem lkL_len (g : Int) (ls : List Ln) : ∀ z, (lkL g z ls).length ≤ z.length + ls.length := by
  induction ls with
  | nil => intro z; simp [lkL]
  | cons l t ih =>
    intro z
    rw [lkL]
    refine Nat.le_trans (ih _) ?_
    have := riseV_len z l.fr
    split <;> simp <;> omega
theorem lkB_len (g : Int) (ls : List (Int × Int)) : ∀ z, (lkB g z ls).length ≤ z.length + ls.length := by
  induction ls with
  | nil => intro z; simp [lkB]
  | cons l t ih =>
    intro z
    rw [lkB]
    refine Nat.le_trans (ih _) ?_
    have := riseV_len z l.1
    split <;> simp <;> omega
theorem lkL_step (g : Int) (ls : List Ln) (z : List Int) (j : Nat) (h : j < ls.length) : lkL g z (ls.drop j) = lkL g (if (ls.getD j lz).dst = g then riseV z (ls.getD j lz).fr else z) (ls.drop (j + 1)) := by
  rw [drop_cons_getD ls lz j h, lkL]
theorem lkB_step (g : Int) (ls : List (Int × Int)) (z : List Int) (j : Nat) (h : j < ls.length) : lkB g z (ls.drop j) = lkB g (if (ls.getD j (0, 0)).2 = g then riseV z (ls.getD j (0, 0)).1 else z) (ls.drop (j + 1)) := by
  rw [drop_cons_getD ls (0, 0) j h, lkB]
/-- Has one guest a link to another? -/
def hasL (P : Plc) (f t : Int) : Bool := decide ((f, t) ∈ P.bells) || P.lanes.any fun l => decide (l.fr = f) && decide (l.dst = t)
def linkUp (P : Plc) (g : Int) : Nat → List Int
  | 0 => []
  | j + 1 => linkUp P g j ++ (if hasL P j g = true then [(j : Int)] else [])
theorem linkUp_mem (P : Plc) (g x : Int) : ∀ j, x ∈ linkUp P g j ↔ (0 ≤ x ∧ x < j ∧ hasL P x g = true)
  | 0 => by simp [linkUp]; omega
  | j + 1 => by
    rw [linkUp, List.mem_append, linkUp_mem P g x j]
    split
    · rename_i h
      rw [List.mem_singleton]
      constructor
      · rintro (⟨h1, h2, h3⟩ | rfl)
        · exact ⟨h1, by omega, h3⟩
        · exact ⟨by omega, by omega, h⟩
      · rintro ⟨h1, h2, h3⟩
        by_cases e : x = j
        · exact .inr e
        · exact .inl ⟨h1, by omega, h3⟩
    · rename_i h
      constructor
      · rintro (⟨h1, h2, h3⟩ | h1)
        · exact ⟨h1, by omega, h3⟩
        · cases h1
      · rintro ⟨h1, h2, h3⟩
        by_cases e : x = j
        · subst e; exact absurd h3 h
        · exact .inl ⟨h1, by omega, h3⟩
theorem linkUp_up (P : Plc) (g : Int) : ∀ j, Up (linkUp P g j)
  | 0 => List.Pairwise.nil
  | j + 1 => by
    unfold Up
    rw [linkUp, List.pairwise_append]
    refine ⟨linkUp_up P g j, by split <;> simp, fun a ha b hb => ?_⟩
    have := (linkUp_mem P g a j).1 ha
    split at hb
    · rw [List.mem_singleton] at hb; omega
    · cases hb
theorem linkUp_len (P : Plc) (g : Int) : ∀ j, (linkUp P g j).length ≤ j
  | 0 => Nat.le_refl _
  | j + 1 => by
    have := linkUp_len P g j
    rw [linkUp, List.length_append]
    split <;> simp <;> omega
theorem lanes_ends (own : List (List Int)) : ∀ (ls ahead : List Ln), lanesV own ahead ls = 0 → ∀ l ∈ ls, isG own.length l.fr = true ∧ isG own.length l.dst = true := by
  intro ls
  induction ls with
  | nil => intro _ _ l hl; cases hl
  | cons a t ih =>
    intro ahead h l hl
    rw [lanesV] at h
    split at h
    · rename_i h1
      rcases List.mem_cons.1 hl with rfl | hl
      · rw [laneV] at h1
        split at h1
        · rename_i h2
          rw [endsV] at h2
          split at h2
          · cases h2
          · rename_i h3
            simp only [not_or, Bool.not_eq_false] at h3
            exact h3
        · rename_i h2
          exact absurd h1 h2
      · exact ih _ h l hl
    · rename_i h1
      exact absurd h h1
theorem bells_ends (n : Nat) : ∀ (bs ahead : List (Int × Int)), bellsV n ahead bs = 0 → ∀ b ∈ bs, isG n b.1 = true ∧ isG n b.2 = true := by
  intro bs
  induction bs with
  | nil => intro _ _ l hl; cases hl
  | cons a t ih =>
    intro ahead h l hl
    rw [bellsV] at h
    split at h
    · rename_i h1
      rcases List.mem_cons.1 hl with rfl | hl
      · rw [bellV] at h1
        split at h1
        · rename_i h2
          rw [endsV] at h2
          split at h2
          · cases h2
          · rename_i h3
            simp only [not_or, Bool.not_eq_false] at h3
            exact h3
        · rename_i h2
          exact absurd h1 h2
      · exact ih _ h l hl
    · rename_i h1
      exact absurd h h1
theorem pf_parts (P : Plc) (h : pfV P = 0) : P.own.length ≤ 3 ∧ guestsV P.own = 0 ∧ lanesV P.own [] P.lanes = 0 ∧ bellsV P.own.length [] P.bells = 0 ∧ P.lanes.length ≤ 4 ∧ P.bells.length ≤ 4 ∧ 1 ≤ P.own.length := by
  have h1 := (or_zero h).1
  have h2 := (or_zero (or_zero h).2).1
  have h3 := (or_zero (or_zero h).2).2
  have h4 := (or_zero h1).1
  have h5 := (or_zero h2).1
  have h6 := (or_zero h2).2
  have h7 := (or_zero h3).1
  unfold g1V at h4
  split at h4
  · cases h4
  · rename_i k1
    unfold g3V at h5
    split at h5
    · cases h5
    · rename_i k2
      exact ⟨by omega, h4, h6, h7, by omega, by omega, by omega⟩
theorem isG_iff (n : Nat) (g : Int) : isG n g = true ↔ (0 ≤ g ∧ g < n) := by
  unfold isG
  simp
  omega
theorem link_eq (P : Plc) (g : Int) (h : pfV P = 0) : lkV P g = linkUp P g P.own.length := by
  obtain ⟨_, _, hl, hb, _, _, _⟩ := pf_parts P h
  refine up_ext _ _ (lkB_up _ _ _ (lkL_up _ _ _ List.Pairwise.nil)) (linkUp_up _ _ _) (fun x => ?_)
  rw [lkV, lkB_mem, lkL_mem, linkUp_mem, hasL]
  simp only [List.not_mem_nil, false_or, Bool.or_eq_true, decide_eq_true_eq, List.any_eq_true, Bool.and_eq_true]
  constructor
  · rintro (⟨l, h1, h2, h3⟩ | h1)
    · have := (isG_iff _ _).1 (lanes_ends _ _ _ hl l h1).1
      rw [h2] at this
      exact ⟨this.1, this.2, .inr ⟨l, h1, h2, h3⟩⟩
    · have := (isG_iff _ _).1 (bells_ends _ _ _ hb _ h1).1
      exact ⟨this.1, this.2, .inl h1⟩
  · rintro ⟨_, _, h1 | h1⟩
    · exact .inr h1
    · exact .inl h1
def linksZ (P : Plc) (g : Int) : List Int := if askV P g = 0 then lkV P g else []
theorem links_len (P : Plc) (g : Int) : (linksZ P g).length ≤ 8 := by
  unfold linksZ
  split
  · rename_i h
    obtain ⟨_, _, _, _, h1, h2, _⟩ := pf_parts P (ask_pf P g h)
    have h3 := lkB_len g P.bells (lkL g [] P.lanes)
    have h4 := lkL_len g P.lanes []
    unfold lkV
    simp at h4
    omega
  · exact Nat.zero_le _

/-- What one round leaves: the list of numbers that grew stands in the answer under way (block O), the answer's place (block R) is as it was. -/
structure GrewI (w : World) (R O : Nat) (z : Value) (L : List Int) (w' : World) : Prop where
  prs : Nums w' (O + 1) z L
  r0 : w'.cell? ⟨R, 0, none⟩ = some (.int .i64 0)
  r1 : w'.cell? ⟨R, 1, none⟩ = some (.slice none 0 0)
  f0 : w'.frozen? ⟨R, 0, none⟩ = false
  f1 : w'.frozen? ⟨R, 1, none⟩ = false
  o0 : w'.cell? ⟨O, 0, none⟩ = some (.int .i64 0)
  o1 : w'.cell? ⟨O, 1, none⟩ = some z
  g1 : w'.frozen? ⟨O, 1, none⟩ = false
  lt : R < O
  below : Below w.heap.size w w'
theorem frozen_grownI {w w' : World} {row : Option Nat} {p : Addr} (g : w.grownBy w' row) (hp : p.block < w.heap.size) (hne : some p.block ≠ row) : w'.frozen? p = w.frozen? p :=
  World.frozen?_of_block (w := w) (g.block p.block hp hne)
theorem GrewI.keep {w w1 w2 : World} {R O : Nat} {z : Value} {L : List Int} (h : GrewI w R O z L w1) (b : Below w1.heap.size w1 w2) : GrewI w R O z L w2 := by
  have s1 : O < w1.heap.size := block_of_cell h.o0
  have s0 : R < w1.heap.size := block_of_cell h.r0
  exact ⟨h.prs.keep b, cell_keep b h.r0, cell_keep b h.r1, by rw [b.frozen (p := ⟨R, 0, none⟩) s0]; exact h.f0, by rw [b.frozen (p := ⟨R, 1, none⟩) s0]; exact h.f1,
    cell_keep b h.o0, cell_keep b h.o1, by rw [b.frozen (p := ⟨O, 1, none⟩) s1]; exact h.g1, h.lt, on h.below b⟩
theorem GrewI.grown {w w1 w2 : World} {R O : Nat} {z z' : Value} {L : List Int} {r : Int} (h : GrewI w R O z L w1) (hp : Nums w2 (O + 1) z' (L ++ [r])) (g : w1.grownBy w2 z.ownBlock) (hS : w.heap.size ≤ R) :
    GrewI w R O z' (L ++ [r]) (w2.setCell ⟨O, 1, none⟩ z') ∧ w2.cell? ⟨O, 1, none⟩ = some z ∧ w2.frozen? ⟨O, 1, none⟩ = false := by
  have s1 : O < w1.heap.size := block_of_cell h.o0
  have s0 : R < w1.heap.size := block_of_cell h.r0
  have hlt := h.lt
  have n0 : some R ≠ z.ownBlock := own_not h.prs _ (.inl (by omega))
  have n1 : some O ≠ z.ownBlock := own_not h.prs _ (.inl (by omega))
  have r0 := cell_grown g h.r0 n0
  have r1 := cell_grown g h.r1 n0
  have o0 := cell_grown g h.o0 n1
  have o1 := cell_grown g h.o1 n1
  have f0 : w2.frozen? ⟨R, 0, none⟩ = false := by rw [frozen_grownI (p := ⟨R, 0, none⟩) g s0 n0]; exact h.f0
  have f1 : w2.frozen? ⟨R, 1, none⟩ = false := by rw [frozen_grownI (p := ⟨R, 1, none⟩) g s0 n0]; exact h.f1
  have g1 : w2.frozen? ⟨O, 1, none⟩ = false := by rw [frozen_grownI (p := ⟨O, 1, none⟩) g s1 n1]; exact h.g1
  have b2 : Below w.heap.size w w2 := h.below.grown g h.below.size (fun k hk => by have := (h.prs.lt k hk).1; omega)
  have ne : ∀ i, (⟨O, 1, none⟩ : Addr) ≠ ⟨R, i, none⟩ := fun i e => by have := congrArg Addr.block e; simp at this; omega
  refine ⟨⟨hp.put _ _ (fun e => own_not hp O (.inl (by omega)) e.symm), by rw [World.cell?_setCell_other _ _ _ _ (ne 0)]; exact r0, by rw [World.cell?_setCell_other _ _ _ _ (ne 1)]; exact r1, by rw [World.frozen?_setCell]; exact f0, by rw [World.frozen?_setCell]; exact f1, by rw [World.cell?_setCell_other _ _ _ _ (by intro e; cases e)]; exact o0, by rw [World.cell?_setCell_same _ _ _ o1], by rw [World.frozen?_setCell]; exact g1, hlt, b2.setCell (by show w.heap.size ≤ O; omega) _⟩, o1, g1⟩
/-- The answer's place (a code and a list), still empty. -/
def RsI (w : World) (s : Nat) : Prop := w.cell? ⟨s + 1, 0, none⟩ = some (.int .i64 0) ∧ w.cell? ⟨s + 1, 1, none⟩ = some (.slice none 0 0) ∧ w.frozen? ⟨s + 1, 0, none⟩ = false ∧ w.frozen? ⟨s + 1, 1, none⟩ = false ∧ s + 1 < w.heap.size
theorem RsI.keep {w w' : World} {s : Nat} (h : RsI w s) (b : Below w.heap.size w w') : RsI w' s :=
  ⟨cell_keep b h.1, cell_keep b h.2.1, by rw [b.frozen (p := ⟨s + 1, 0, none⟩) h.2.2.2.2]; exact h.2.2.1, by rw [b.frozen (p := ⟨s + 1, 1, none⟩) h.2.2.2.2]; exact h.2.2.2.1, Nat.lt_of_lt_of_le h.2.2.2.2 b.size⟩

end Go.Proofs.YtgefcoojnahokaaDoor
