/- slices.SortFunc over a slice of keys, by their turns. -/
import Derived.Test.YtaajaikpkcgalaaSrt
import Derived.Test.YtaajaikpkcgalaaPgm
namespace Go.Proofs.Ytaajaikpkcgalaa
open Go.RowKit Go.Shelf Go.Lib Go.Sort
set_option linter.unusedVariables false

/-- The pairs of keys. -/
def prsW (ss : List WK) : List (Int × Int) := ss.map fun x => (x.t, x.p)
theorem prsW_length (ss : List WK) : (prsW ss).length = ss.length := by simp [prsW]
theorem prsW_get (ss : List WK) (i : Nat) (h : i < ss.length) : (prsW ss).getD i (0, 0) = ((ss.toArray[i]!).t, (ss.toArray[i]!).p) := by
  simp [prsW, List.getD, h]
theorem flatK_flat (ss : List WK) : (flatK encW 2 ss.toArray).toList = flat (prsW ss) := by
  apply List.ext_getElem?
  intro j
  by_cases hj : j < ss.length * 2
  · have h1 : (flatK encW 2 ss.toArray).toList[j]? = some ((encW ss.toArray[j / 2]!)[j % 2]!) := by
      have := get_flatK encW 2 ss.toArray j (by simpa using hj)
      rw [Array.getElem?_toList, Array.getElem?_eq_getElem (by simpa using hj)]
      rw [getElem!_pos _ _ (by simpa using hj)] at this
      rw [this]
    rw [h1]
    have hi : j / 2 < ss.length := by omega
    have hg := flat_get (prsW ss) (j / 2) (by rw [prsW_length]; exact hi)
    rw [prsW_get ss _ hi] at hg
    have h2 : j % 2 = 0 ∨ j % 2 = 1 := by omega
    rcases h2 with h2 | h2
    · have e : j = j / 2 * 2 := by omega
      rw [h2]
      conv => rhs; rw [e]
      rw [hg.1]
      rfl
    · have e : j = j / 2 * 2 + 1 := by omega
      rw [h2]
      conv => rhs; rw [e]
      rw [hg.2]
      rfl
  · rw [List.getElem?_eq_none (by simp; omega), List.getElem?_eq_none (by rw [flat_length, prsW_length]; omega)]

theorem holds_keys {w : World} {g : Nat} {cur : Array Value} {e : TypeId} {ss : List WK} (hb : w.heap[g]? = some (.cells cur e (0, 0))) (ht : cur.toList.take (ss.length * 2) = flat (prsW ss)) : HoldsK encW 2 w g 0 ss.toArray := by
  intro j hj
  have hj' : j < ss.length * 2 := by simpa using hj
  refine ⟨?_, by simp [World.frozen?, hb]⟩
  have h1 : (cur.toList.take (ss.length * 2))[j]? = (flatK encW 2 ss.toArray).toList[j]? := by rw [ht, flatK_flat]
  rw [List.getElem?_take_of_lt hj'] at h1
  simp only [World.cell?, hb, Nat.zero_add]
  simp only [Option.isSome_none, Bool.false_eq_true, if_false]
  rw [← Array.getElem?_toList, h1, Array.getElem?_toList, Array.getElem?_eq_getElem (by simpa using hj'), getElem!_pos _ _ (by simpa using hj')]
  rfl
theorem take_putK (cur F : Array Value) (h : F.size ≤ cur.size) : (putCells id 0 F cur).toList.take F.size = F.toList := by
  apply List.ext_getElem?
  intro j
  by_cases hj : j < F.size
  · rw [List.getElem?_take_of_lt hj, Array.getElem?_toList]
    simp [putCells, hj, show j < cur.size by omega]
  · rw [List.getElem?_take_eq_none (by omega), List.getElem?_eq_none (by simp; omega)]
theorem keys_sorted {w : World} {base g cap n : Nat} {e : TypeId} {os : Array Obj} {cur : Array Value} {ss ts : List WK} (hl : ts.length = ss.length) (hbase : base ≤ g) (hb : w.heap[g]? = some (.cells cur e (0, 0)))
    (h1 : ss.length ≤ cap) (h2 : cap ≤ maxLen) (h3 : cur.size = cap * 2) : Prs e (sortWorldK encW 2 w g 0 n ts.toArray os) base (.slice (some ⟨g, 0, none⟩) ss.length cap) (prsW ts) := by
  have hg : g < w.heap.size := (Array.getElem?_eq_some_iff.1 hb).1
  have hh : (sortWorldK encW 2 w g 0 n ts.toArray os).heap[g]? = some (.cells (putCells id 0 (flatK encW 2 ts.toArray) cur) e (0, 0)) := by
    unfold sortWorldK putRowK
    rw [heap_grow_old _ _ (by simpa using hg)]
    simp [putRow, mapBlock, Sort.ahead, Array.getElem?_modify, hb, onCells]
  have ht : (putCells id 0 (flatK encW 2 ts.toArray) cur).toList.take (ts.length * 2) = flat (prsW ts) := by
    have := take_putK cur (flatK encW 2 ts.toArray) (by simp; omega)
    rw [flatK_flat] at this
    rw [← this]
    simp
  unfold Prs
  rw [prsW_length]
  refine ⟨by rw [flat_length, prsW_length], .inr ⟨g, cap, _, by rw [hl], hbase, hh, by omega, h2, by simp [putCells, h3], ht⟩⟩

theorem cmpI_neg (a b : Int) : cmpI a b < 0 ↔ a < b := by
  unfold cmpI
  split
  · next h => exact ⟨fun _ => h, fun _ => by decide⟩
  · next h =>
    split
    · exact ⟨fun h2 => absurd h2 (by decide), fun h2 => absurd h2 h⟩
    · exact ⟨fun h2 => absurd h2 (by decide), fun h2 => absurd h2 h⟩
theorem lt_turn (s : List (Int × Qd)) (x y : WK) : ltOf (fun x y : WK => cmpI (turnOf s x) (turnOf s y)) x y = decide (turnOf s x < turnOf s y) := by
  rw [Bool.eq_iff_iff]
  show decide (cmpI (turnOf s x) (turnOf s y) < 0) = true ↔ _
  rw [decide_eq_true_eq, decide_eq_true_eq, cmpI_neg]
theorem swo_turn (s : List (Int × Qd)) : SWO (ltOf fun x y : WK => cmpI (turnOf s x) (turnOf s y)) where
  irrefl x := by rw [lt_turn]; simp
  trans x y z h1 h2 := by
    rw [lt_turn] at h1 h2 ⊢
    simp only [decide_eq_true_eq] at h1 h2 ⊢
    omega
  ntrans x y z h1 h2 := by
    rw [lt_turn] at h1 h2 ⊢
    simp only [decide_eq_false_iff_not] at h1 h2 ⊢
    omega

set_option maxHeartbeats 2000000 in
set_option maxRecDepth 100000 in
theorem sort_nil (g : Value) (w : World) : Calls Try.prog 56 #[.slice none 0 0, g] w fun e w' => e = .returned (.tuple #[]) ∧ w' = w := by
  have hi : ∀ g w, Calls Try.prog 62 #[.slice none 0 0, .int .i64 0, .int .i64 0, g] w fun e w' => e = .returned (.tuple #[]) ∧ w' = w := by
    intro g w
    go_enter Try.func62, Try.ntmps62
    go_wp2_with fail
    refine wp_loop_rounds 1 ?_
    rw [rounds_succ]
    go_wp2_with fail
    go_end0
    exact ⟨rfl, rfl⟩
  have hp : ∀ (l : Int) g w, Calls Try.prog 60 #[.slice none 0 0, .int .i64 0, .int .i64 0, .int .i64 l, g] w fun e w' => e = .returned (.tuple #[]) ∧ w' = w := by
    intro l g w
    go_enter Try.func60, Try.ntmps60
    go_wp2_with fail
    refine wp_loop_rounds 1 ?_
    rw [rounds_succ]
    go_wp2_with (go_at_call 62; refine (hi _ _).mono ?_; rintro e w' ⟨rfl, rfl⟩)
    (try simp only [Exit.inBlock, Exit.then]); refine bodyPost_ret (results_none rfl _ _ _) rfl ?_
    exact ⟨rfl, rfl⟩
  have hl := bits_len 0
  go_enter Try.func56, Try.ntmps56
  go_wp2_with (first | (go_at_call 61; refine (hl _ (by omega)).mono ?_; rintro e w1 ⟨⟨l, rfl⟩, rfl⟩) | (go_at_call 60; refine (hp _ _ _).mono ?_; rintro e w1 ⟨rfl, rfl⟩))
  go_end0
  exact ⟨rfl, rfl⟩

theorem sort_keys (v : Value) (ss : List WK) (base Bs sb mb n : Nat) (s : List (Int × Qd)) (w : World) (hv : Prs 59 w base v (prsW ss)) (h12 : ss.length ≤ 12) (hm : Hm w mb n s) (c0 : w.cell? ⟨sb, 0, none⟩ = some (.map (some mb)))
    (cb : w.cell? ⟨Bs, 0, none⟩ = some (.pointer (some ⟨sb, 0, none⟩))) (n1 : some sb ≠ v.ownBlock) (n2 : some Bs ≠ v.ownBlock) (n3 : some mb ≠ v.ownBlock) :
    Calls Try.prog 56 #[v, .func (.func 53) #[] #[.pointer (some ⟨Bs, 0, none⟩)]] w fun e w' => e = .returned (.tuple #[]) ∧ ∃ ts : List WK, ts.Perm ss ∧ ts.Pairwise (fun a b => ¬ turnOf s b < turnOf s a) ∧ Prs 59 w' base v (prsW ts) ∧ w.grownBy w' v.ownBlock := by
  have hv' := hv
  obtain ⟨h1, ⟨rfl, h3⟩ | ⟨g, cap, cur, rfl, hbase, hb, h4, h5, h6, h7⟩⟩ := hv'
  · have hz : ss = [] := by cases ss with
      | nil => rfl
      | cons x r => simp [prsW] at h3
    subst hz
    refine (sort_nil _ _).mono ?_
    rintro e w' ⟨rfl, rfl⟩
    exact ⟨rfl, [], List.Perm.refl _, List.Pairwise.nil, hv, World.grownBy.refl _ _⟩
  rw [prsW_length] at h1 h4 h7 hv ⊢
  have eg : ∀ args w, (callFunc 53 args).run Try.prog w = .ok (.enter 53 args) w := enters_of Try.func53 (by kernel_rfl) rfl
  have hne : ∀ {x : Nat}, some x ≠ (Value.slice (some ⟨g, 0, none⟩) ss.length cap).ownBlock → some x ≠ some g := fun h e => h (by rw [e]; rfl)
  rw [prsW_length] at n1 n2 n3
  have hcmp : CmpLays Try.prog 53 #[.pointer (some ⟨Bs, 0, none⟩)] encW 2 (fun x y => cmpI (turnOf s x) (turnOf s y)) g 0 ss.toArray.size w := fun m os dk _ x y => by
    have hg := grown_sortK encW 2 w g 0 m dk os
    refine impl_byTurn x y Bs sb mb n s _ (hm.kept hg (hne n3)) ?_ ?_
    · rw [World.cell?_of_block (w := w) (hg.block sb (block_of_cell c0) (hne n1))]; exact c0
    · rw [World.cell?_of_block (w := w) (hg.block Bs (block_of_cell cb) (hne n2))]; exact cb
  have hc := AnyQ.slices_SortFunc_small_sorted Try.sortKeys 2 Try.isAgg59 Try.sizeOf59 encW (fun _ => rfl) (fun x v hv => by simp [encW] at hv; rcases hv with rfl | rfl <;> rfl) (fun x y => cmpI (turnOf s x) (turnOf s y)) 53 #[.pointer (some ⟨Bs, 0, none⟩)] (swo_turn s) g 0 cap ss.toArray w eg hcmp (holds_keys hb h7) (Array.getElem?_eq_some_iff.1 hb).1 (by simpa using h12) (fun n W h => bits_len n W h)
  change Calls Try.prog 56 _ _ _ at hc
  have hsz : ss.toArray.size = ss.length := by simp
  rw [hsz] at hc
  refine hc.mono ?_
  rintro e w' ⟨rfl, d, m, os, hP, hS, rfl⟩
  obtain ⟨p1, p2, p3⟩ := hP
  have pd : d.toList.Perm ss := by
    have e1 : (d.extract 0 ss.length).toList = d.toList := by
      have : ss.length = d.size := by rw [p1]; simp
      rw [this, Array.extract_size]
    have e2 : (ss.toArray.extract 0 ss.length).toList = ss := by
      have : ss.length = ss.toArray.size := by simp
      rw [this, Array.extract_size]
    rw [e1, e2] at p3
    exact p3
  refine ⟨rfl, d.toList, pd, ?_, ?_, grown_sortK _ _ _ _ _ _ _ _⟩
  · rw [List.pairwise_iff_getElem]
    intro i j hi hj hij
    have := hS i j (Nat.zero_le _) hij (by have := pd.length_eq; simpa [this] using hj)
    rw [lt_turn, decide_eq_false_iff_not] at this
    have e1 : d[i]! = d.toList[i] := by rw [getElem!_pos d i (by simpa using hi)]; simp
    have e2 : d[j]! = d.toList[j] := by rw [getElem!_pos d j (by simpa using hj)]; simp
    rw [e1, e2] at this
    exact this
  · have := keys_sorted (w := w) (n := m) (os := os) (ss := ss) (ts := d.toList) pd.length_eq hbase hb h4 h5 h6
    simpa using this
end Go.Proofs.Ytaajaikpkcgalaa
