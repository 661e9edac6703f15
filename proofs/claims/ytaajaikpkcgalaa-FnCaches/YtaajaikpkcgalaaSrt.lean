/- The keys of the map, sorted by their turns. -/
import Derived.Test.YtaajaikpkcgalaaSto
import Derived.Test.YtaajaikpkcgalaaSortk
import Derived.Sort.OwnSorted
namespace Go.Proofs.Ytaajaikpkcgalaa
open Go.RowKit Go.Shelf Go.Lib Go.Sort
set_option linter.unusedVariables false

/-- A key: a tag and a page, both numbers of 64 bits. -/
structure WK where
  t : Int
  p : Int
  ht : wfI t
  hp : wfI p
instance : Inhabited WK := ⟨⟨0, 0, wf_small (by decide) (by decide), wf_small (by decide) (by decide)⟩⟩
theorem WK.same {x y : WK} (h1 : x.t = y.t) (h2 : x.p = y.p) : x = y := by
  obtain ⟨t, p, ht, hp⟩ := x
  obtain ⟨t', p', ht', hp'⟩ := y
  simp only at h1 h2
  subst h1 h2
  rfl
def encW (x : WK) : List Value := [.int .i64 x.t, .int .i64 x.p]
def cmpI (a b : Int) : Int := if a < b then -1 else if b < a then 1 else 0
/-- The turn of a key. -/
def turnOf (s : List (Int × Qd)) (x : WK) : Int := (fnd s x.t x.p).1

theorem field_turn (x y z : Value) (w : World) : (Instr.field 53 (.agg #[x, y, z]) 0).run Try.prog w = .ok x w := by kernel_rfl
theorem field_says (x y z : Value) (w : World) : (Instr.field 53 (.agg #[x, y, z]) 1).run Try.prog w = .ok (.agg #[y, z]) w := by kernel_rfl
theorem cmp_isNaN (x : Int) (w : World) : Calls Try.prog 58 #[.int .i64 x] w fun e w' => e = .returned (.bool false) ∧ w' = w := by
  go_enter Try.func58, Try.ntmps58
  go_wp2_with fail
  go_ret
  exact ⟨rfl, rfl⟩
theorem cmp_compare (a b : Int) (w : World) : Calls Try.prog 54 #[.int .i64 a, .int .i64 b] w fun e w' => e = .returned (.int .i64 (cmpI a b)) ∧ w' = w := by
  by_cases h1 : a < b
  · have e1 : cmpI a b = -1 := by simp [cmpI, h1]
    rw [e1]
    clear e1
    go_enter Try.func54, Try.ntmps54
    go_wp2_with (go_at_call 58; refine (cmp_isNaN _ _).mono ?_; rintro e w1 ⟨rfl, rfl⟩)
    go_ret
    exact ⟨rfl, rfl⟩
  by_cases h2 : b < a
  · have e1 : cmpI a b = 1 := by simp [cmpI, h1, h2]
    rw [e1]
    clear e1
    go_enter Try.func54, Try.ntmps54
    go_wp2_with (go_at_call 58; refine (cmp_isNaN _ _).mono ?_; rintro e w1 ⟨rfl, rfl⟩)
    go_ret
    exact ⟨rfl, rfl⟩
  have e1 : cmpI a b = 0 := by simp [cmpI, h1, h2]
  rw [e1]
  clear e1
  go_enter Try.func54, Try.ntmps54
  go_wp2_with (go_at_call 58; refine (cmp_isNaN _ _).mono ?_; rintro e w1 ⟨rfl, rfl⟩)
  go_ret
  exact ⟨rfl, rfl⟩

set_option maxHeartbeats 1000000 in
theorem impl_byTurn (x y : WK) (Bs sb mb n : Nat) (s : List (Int × Qd)) (W : World) (hm : Hm W mb n s) (c0 : W.cell? ⟨sb, 0, none⟩ = some (.map (some mb))) (cb : W.cell? ⟨Bs, 0, none⟩ = some (.pointer (some ⟨sb, 0, none⟩))) :
    Calls Try.prog 53 #[.agg #[.int .i64 x.t, .int .i64 x.p], .agg #[.int .i64 y.t, .int .i64 y.p], .pointer (some ⟨Bs, 0, none⟩)] W fun e w' => e = .returned (.int .i64 (cmpI (turnOf s x) (turnOf s y))) ∧ ∃ q os', w' = grow (W.drewN q) os' := by
  obtain ⟨t, p, ht, hp⟩ := x
  obtain ⟨t', p', ht', hp'⟩ := y
  simp only [turnOf] at ht hp ht' hp' ⊢
  obtain ⟨u, hu⟩ : ∃ u, (W.alloc (.cells #[.int .i64 t, .int .i64 p] 59)).alloc (.cells #[.int .i64 t', .int .i64 p'] 59) = u := ⟨_, rfl⟩
  have BU : Below W.heap.size W u := by rw [← hu]; exact al (al (Below.refl _ _) _) _
  have k0 : u.cell? ⟨W.heap.size, 0, none⟩ = some (.int .i64 t) := by rw [← hu]; exact cell_push _ (cell_new rfl)
  have k1 : u.cell? ⟨W.heap.size, 1, none⟩ = some (.int .i64 p) := by rw [← hu]; exact cell_push _ (cell_new rfl)
  have j0 : u.cell? ⟨W.heap.size + 1, 0, none⟩ = some (.int .i64 t') := by rw [← hu]; have := cell_new (w := W.alloc (.cells #[.int .i64 t, .int .i64 p] 59)) (cs := #[.int .i64 t', .int .i64 p']) (t := 59) (i := 0) rfl; rwa [World.size_alloc] at this
  have j1 : u.cell? ⟨W.heap.size + 1, 1, none⟩ = some (.int .i64 p') := by rw [← hu]; have := cell_new (w := W.alloc (.cells #[.int .i64 t, .int .i64 p] 59)) (cs := #[.int .i64 t', .int .i64 p']) (t := 59) (i := 1) rfl; rwa [World.size_alloc] at this
  have hmu := hm.keep BU
  have c0 := cell_keep BU c0
  have cb := cell_keep BU cb
  have hmn : ∀ q, Hm (u.drewN q) mb n s := fun q => hmu.keep ⟨rfl, rfl, rfl, Nat.le_refl _, fun _ _ => rfl⟩
  have L1 := fun q => (hmn q).look ht hp
  have L2 := fun q => (hmn q).look ht' hp'
  have HU : Hid ((W.alloc (.cells #[.int .i64 t, .int .i64 p] 59)).alloc (.cells #[.int .i64 t', .int .i64 p'] 59) = u) := hu
  have hc := fun w => cmp_compare (fnd s t p).1 (fnd s t' p').1 w
  generalize (fnd s t p).1 = e1 at *
  generalize (fnd s t p).2.to = e2 at *
  generalize (fnd s t p).2.kinds = e3 at *
  generalize (fnd s t' p').1 = f1 at *
  generalize (fnd s t' p').2.to = f2 at *
  generalize (fnd s t' p').2.kinds = f3 at *
  clear hmn hmu hm BU hu
  have hft := field_turn
  go_enter Try.func53, Try.ntmps53
  go_wp2_with fail
  rw [HU.out]
  go_quiet ((go_at_call 54; exact Calls.quiet_of_same (hc _)))
  go_wp2_with fail
  go_ret
  refine ⟨rfl, nq, #[.cells #[.int .i64 t, .int .i64 p] 59, .cells #[.int .i64 t', .int .i64 p'] 59], ?_⟩
  rw [← HU.out, alloc_eq_grow, alloc_eq_grow, grow_grow]
  rfl

theorem grown_sortK {α : Type} [Inhabited α] (enc : α → List Value) (k : Nat) (w : World) (blk off n : Nat) (d : Array α) (os : Array Obj) : w.grownBy (sortWorldK enc k w blk off n d os) (some blk) := by
  refine ⟨rfl, rfl, rfl, by simp [sortWorldK, putRowK], fun j hj hne => ?_⟩
  unfold sortWorldK putRowK
  rw [heap_grow_old _ _ (by simpa using hj)]
  have : blk ≠ j := fun e => hne (by rw [e])
  simp [putRow, mapBlock, Sort.ahead, Array.getElem?_modify, this]

theorem bits_len64 (n : Nat) (W : World) (h : n ≤ 12) : Calls Try.prog 71 #[.int .u64 n] W fun e w' => (∃ l : Int, e = .returned (.int .i64 l)) ∧ w' = W := by
  match n, h with
  | 0, _ | 1, _ | 2, _ | 3, _ | 4, _ | 5, _ | 6, _ | 7, _ | 8, _ | 9, _ | 10, _ | 11, _ | 12, _ =>
    go_enter Try.func71, Try.ntmps71
    go_wp2_with fail
    go_ret
    exact ⟨⟨_, rfl⟩, rfl⟩
theorem bits_len (n : Nat) (W : World) (h : n ≤ 12) : Calls Try.prog 61 #[.int .u64 n] W fun e w' => (∃ l : Int, e = .returned (.int .i64 l)) ∧ w' = W := by
  have hl := bits_len64 n W h
  go_enter Try.func61, Try.ntmps61
  go_wp2_with (go_at_call 71; refine hl.mono ?_; rintro e w1 ⟨⟨l, rfl⟩, rfl⟩)
  go_ret
  exact ⟨⟨_, rfl⟩, rfl⟩
end Go.Proofs.Ytaajaikpkcgalaa
