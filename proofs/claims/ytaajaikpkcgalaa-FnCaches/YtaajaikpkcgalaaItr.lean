/- The keys of the map, one by one, in some order. -/
import Derived.Test.YtaajaikpkcgalaaSrs
import Derived.Shelf.SlIter.Collect
import Derived.Shelf.AbstractIn
import Derived.RangeFuncGives
import Derived.Sort.MapsRangeIn
import Derived.OwnWalkIn
import Derived.TacticsInMore
import Derived.RegionIn
import Derived.LoopNIn
import Derived.LoopIn
namespace Go.Proofs.Ytaajaikpkcgalaa
open Go.RowKit Go.Maps Go.Sort Go.Shelf
set_option linter.unusedVariables false

def encK (x : WK) : Value := .agg #[.int .i64 x.t, .int .i64 x.p]
def klw (x : WK) : Lit := klit x.t x.p
theorem klw_inj {x y : WK} (h : klw x = klw y) : x = y := by
  have := klit_inj x.ht x.hp y.ht y.hp h
  exact WK.same this.1 this.2
theorem encK_inj {x y : WK} (h : encK x = encK y) : x = y := by
  simp [encK] at h
  exact WK.same h.1 h.2
theorem key_wk {v : Value} {kl : Lit} (h : keyOf Try.prog 59 v = some kl) : ∃ x : WK, v = encK x ∧ kl = klw x := by
  obtain ⟨t, p, h1, h2, h3, h4⟩ := key_inv h
  exact ⟨⟨t, p, h3, h4⟩, h1, h2⟩

/-- What has come of the keys, and what is still to come. -/
def ColK (D0 : DataW Value) (left : Lit → Bool) (ss : List WK) : Prop := ss.Nodup ∧ ∀ x : WK, x ∈ ss ↔ (Maps.has D0 (klw x) = true ∧ left (klw x) = false)
theorem ColK.start (D0 : DataW Value) : ColK D0 (Maps.has D0) [] := ⟨List.nodup_nil, fun x => by cases Maps.has D0 (klw x) <;> simp⟩
theorem ColK.step {D0 : DataW Value} {left : Lit → Bool} {ss : List WK} (h : ColK D0 left ss) {x : WK} {y : DataW Value} (hlk : left (klw x) = true) (hat : ∀ zd, D0.atKey (klw x) zd = y) :
    ColK D0 (fun z => left z && !z.sameKey (klw x)) (ss ++ [x]) := by
  have hk : WideAt.IsKeyLit (klw x) := trivial
  refine ⟨?_, fun z => ?_⟩
  · rw [List.nodup_append]
    refine ⟨h.1, by simp, ?_⟩
    intro a ha b hb
    rw [List.mem_singleton] at hb
    subst hb
    intro e
    subst e
    rw [((h.2 a).1 ha).2] at hlk
    cases hlk
  · rw [List.mem_append, List.mem_singleton, h.2 z]
    by_cases e : z = x
    · subst e
      show _ ↔ _ ∧ (left (klw z) && !(klw z).sameKey (klw z)) = false
      rw [WideAt.sameKey_self hk, Maps.has_true_of_atKey hat]
      simp
    · show _ ↔ _ ∧ (left (klw z) && !(klw z).sameKey (klw x)) = false
      rw [Maps.sameKey_ne (fun e' => e (klw_inj e'))]
      simp [e]

set_option maxRecDepth 100000 in
set_option maxHeartbeats 2000000 in
theorem keys1_in (n : Nat) (hn : 1 ≤ n) (l Bm b nn : Nat) (D0 : DataW Value) {R : Value → Option (DataW Value × List MemPlace)} (J : List WK → World → Prop)
    (hY : ∀ pre x W, J pre W → pre.length < Maps.size D0 → YieldAt Fence.wide (n - 1) Try.prog l #[encK x] W fun e W' => e = .returned (.bool true) ∧ J (pre ++ [x]) W' ∧ KeepsWalks W W')
    (W : World) (hJ : AbidesFrom W.heap.size J) (hm : W.cell? ⟨Bm, 0, none⟩ = some (.map (some b))) (hown : W.ownsMap Try.prog 59 R b nn D0) (h0 : J [] W) :
    CallsIn Fence.wide n Try.prog 57 #[.func (.yield l) #[] #[], .pointer (some ⟨Bm, 0, none⟩)] W fun e W' => (∃ v, e = .returned v) ∧ ∃ ss : List WK, (ss.Nodup ∧ ∀ x : WK, x ∈ ss ↔ Maps.has D0 (klw x) = true) ∧ J ss W' := by
  refine callsIn_of_wp Try.func57 rfl trivial ?_ rfl
  simp only [Try.ntmps57, List.size_toArray, List.length_cons, List.length_nil, Nat.reduceAdd, Nat.reduceSub, Array.replicate_succ, Array.replicate_zero, List.push_toArray, List.append_toArray, List.nil_append, List.cons_append]
  gi_wp2_with (first
    | (gi_at_range; refine wpListIn_range_own _ rfl _ 55 rfl 59 53 key_law Try.underlying55 _ b nn _ rfl hown ?_; intro w0 hrg0 hg0 hs0)
    | gi_in)
  go_frame
  gi_loopw [3] (fun _ wr => ∃ (left : Lit → Bool) (cnt : Nat) (ss : List WK), wr.ranges Try.prog 59 R b W.heap.size nn D0 left cnt ∧ ss.length + cnt ≤ Maps.size D0 ∧ ColK D0 left ss ∧ J ss wr)
    (fun _ wr => wr.rangeLeft b W.heap.size)
  case atStart =>
    exact ⟨_, _, [], hrg0, by simp, ColK.start D0, hJ [] W w0 none h0 hg0 (fun r e => by cases e)⟩
  case round =>
    obtain ⟨left, cnt, ss, hrg, hcs, hC, hJs⟩ := hrel
    gi_wp2_with (first
      | (gi_at_next; refine wpListIn_next_ranges _ rfl _ rfl 59 key_law R encK id (fun key kl hk => by obtain ⟨x, hx, _⟩ := key_wk hk; exact ⟨x, hx⟩) (fun v _ _ => ⟨v, rfl⟩) b W.heap.size nn _ _ _ rfl hrg ?_ ?_)
      | gi_in)
    · intro hc0 hl0
      gi_wp2
      go_end0
      refine ⟨⟨_, rfl⟩, ss, ⟨hC.1, fun x => ?_⟩, hJs⟩
      rw [hC.2 x]
      simp [hl0]
    · intro x c kl yd yp w2 cnt2 hkey hlk hv hat hrg2 hlt hg2 hs2 hen
      obtain ⟨x', ex, rfl⟩ := key_wk hkey
      obtain rfl : x = x' := encK_inj ex
      have hJ2 : J ss w2 := hJ ss wr w2 (some W.heap.size) hJs hg2 (fun r e => by cases e; exact ⟨Nat.le_refl _, hrg.iter_walk⟩)
      have hJ3 : J ss (w2.alloc (.cells #[.int .i64 x.t, .int .i64 x.p] 59)) := hJ ss w2 _ none hJ2 (World.grownBy_alloc _ _ _) (fun r e => by cases e)
      obtain ⟨fn, tmps, assign, body, hy, hR⟩ := hY ss x _ hJ3 (by omega)
      clear hs2
      simp only [encK] at hen hy hR
      have hrg2' := hrg2.alloc (.cells #[.int .i64 x.t, .int .i64 x.p] 59)
      gi_wp2
      refine hR.mono ?_
      rintro e W3 ⟨rfl, hJ4, hk3⟩
      gi_wp2
      have hrg3 := hrg2'.of_walks hk3
      go_roundw
      case rel => exact ⟨_, cnt2, ss ++ [x], hrg3, by simp; omega, hC.step hlk hat, hJ4⟩
      case measure => rw [hrg3.left_eq, hrg.left_eq]; exact hlt
end Go.Proofs.Ytaajaikpkcgalaa
