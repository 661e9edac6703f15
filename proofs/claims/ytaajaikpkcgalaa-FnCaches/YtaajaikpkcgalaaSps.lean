/- The model of the cache: hits, where one is found, and the fault. -/
import Derived.Test.YtaajaikpkcgalaaStn
import Derived.Test.YtaajaikpkcgalaaMem
namespace Go.Proofs.Ytaajaikpkcgalaa
open Go.RowKit
set_option linter.unusedVariables false

theorem spec_hit (q : Qd) (w : World) : Calls Try.prog 37 #[q.val] w fun e w' => e = .returned (.bool (okQ q)) ∧ Below w.heap.size w w' := by
  obtain ⟨t, p, o, k⟩ := q
  unfold Qd.val
  simp only
  have e0 : okQ ⟨t, p, o, k⟩ = ((decide (0 ≤ t) && decide (t ≤ 9)) && ((decide (0 ≤ p) && decide (p ≤ 7)) && ((decide (0 ≤ o) && decide (o ≤ 23)) && (decide (1 ≤ k) && decide (k ≤ 7))))) := by
    simp [okQ, Bool.and_assoc]
  rw [e0]
  clear e0
  cases h1 : (decide (0 ≤ t) && decide (t ≤ 9))
  · go_enter Try.func37, Try.ntmps37
    go_wp2_with (go_at_call 29; refine (spec_in _ _ _ _).mono ?_; rintro e x ⟨rfl, rfl⟩; rw [h1])
    go_ret
    exact ⟨rfl, al (Below.refl _ _) _⟩
  cases h2 : (decide (0 ≤ p) && decide (p ≤ 7))
  · go_enter Try.func37, Try.ntmps37
    go_wp2_with (go_at_call 29; refine (spec_in _ _ _ _).mono ?_; rintro e x ⟨rfl, rfl⟩; (first | rw [h1] | rw [h2]))
    go_ret
    exact ⟨rfl, al (Below.refl _ _) _⟩
  cases h3 : (decide (0 ≤ o) && decide (o ≤ 23))
  · go_enter Try.func37, Try.ntmps37
    go_wp2_with (go_at_call 29; refine (spec_in _ _ _ _).mono ?_; rintro e x ⟨rfl, rfl⟩; (first | rw [h1] | rw [h2] | rw [h3]))
    go_ret
    exact ⟨rfl, al (Below.refl _ _) _⟩
  cases h4 : (decide (1 ≤ k) && decide (k ≤ 7))
  all_goals
    go_enter Try.func37, Try.ntmps37
    go_wp2_with (go_at_call 29; refine (spec_in _ _ _ _).mono ?_; rintro e x ⟨rfl, rfl⟩; (first | rw [h1] | rw [h2] | rw [h3] | rw [h4]))
    go_ret
    exact ⟨rfl, al (Below.refl _ _) _⟩

/-- The place of a hit, from a place on; -1: there is none. -/
def fiG (t p : Int) : List Qd → Int → Int
  | [], _ => -1
  | q :: r, k => if q.tag == t && q.page == p then k else fiG t p r (k + 1)
def fiV (l : List Qd) (t p : Int) : Int := fiG t p l 0
theorem fiG_step (l : List Qd) (t p : Int) (j : Nat) (h : j < l.length) (k : Int) : fiG t p (l.drop j) k = if (l.getD j qz).tag == t && (l.getD j qz).page == p then k else fiG t p (l.drop (j + 1)) (k + 1) := by
  rw [List.drop_eq_getElem_cons h, fiG, List.getD, List.getElem?_eq_getElem h]
  rfl
theorem fiG_has (t p : Int) : ∀ (l : List Qd) (k : Int), 0 ≤ k → (hasQ l t p = true → k ≤ fiG t p l k ∧ fiG t p l k < k + l.length) ∧ (hasQ l t p = false → fiG t p l k = -1)
  | [], k, _ => ⟨fun h => by simp [hasQ] at h, fun _ => rfl⟩
  | q :: r, k, hk => by
    have ih := fiG_has t p r (k + 1) (by omega)
    unfold hasQ at ih ⊢
    rw [List.any_cons]
    cases hq : (q.tag == t && q.page == p)
    · simp only [fiG, hq, Bool.false_or, List.length_cons]
      refine ⟨fun h => ?_, fun h => ih.2 h⟩
      have := ih.1 h
      simp only [Bool.false_eq_true, if_false]
      omega
    · simp only [fiG, hq, Bool.true_or, if_true, List.length_cons]
      exact ⟨fun _ => ⟨Int.le_refl _, by omega⟩, fun h => by cases h⟩
theorem fiV_has {l : List Qd} {t p : Int} (h : hasQ l t p = true) : 0 ≤ fiV l t p ∧ fiV l t p < l.length := by
  have := (fiG_has t p l 0 (Int.le_refl _)).1 h
  unfold fiV
  omega
theorem fiV_not {l : List Qd} {t p : Int} (h : hasQ l t p = false) : fiV l t p = -1 := (fiG_has t p l 0 (Int.le_refl _)).2 h
theorem fiV_neg (l : List Qd) (t p : Int) : (decide (fiV l t p < 0)) = !hasQ l t p := by
  cases h : hasQ l t p
  · rw [fiV_not h]; rfl
  · have := fiV_has h; simp; omega
theorem fnd_trn {l : List Qd} {t p : Int} (h : hasQ l t p = true) : (fnd (trn l) t p).1 = fiV l t p := by
  have : ∀ (l : List Qd) (k : Nat), hasQ l t p = true → (((l.zipIdx k).map fun x => ((x.2 : Int), x.1)).find? (sel t p)).map (·.1) = some (fiG t p l (k : Int)) := by
    intro l
    induction l with
    | nil => intro k h; simp [hasQ] at h
    | cons q r ih =>
      intro k h
      rw [List.zipIdx_cons, List.map_cons, List.find?_cons]
      cases hq : (q.tag == t && q.page == p)
      · have hr : hasQ r t p = true := by unfold hasQ at h ⊢; rw [List.any_cons, hq] at h; simpa using h
        have := ih (k + 1) hr
        simp only [sel, hq, fiG, Bool.false_eq_true, if_false]
        rw [this]
        rfl
      · simp only [sel, hq, fiG, if_true]
        rfl
  have h1 := this l 0 h
  unfold fnd trn fiV
  cases hf : (l.zipIdx.map fun x => ((x.2 : Int), x.1)).find? (sel t p) with
  | none => rw [hf] at h1; cases h1
  | some e =>
    rw [hf] at h1
    simp only [Option.map_some, Option.some.injEq] at h1
    exact h1

set_option maxHeartbeats 1000000 in
theorem spec_find (a : Option Addr) (n cap : Nat) (rs : List Qd) (t p : Int) (w : World) (h : IsQuads w a n cap rs) :
    Calls Try.prog 46 #[.slice a n cap, .int .i64 t, .int .i64 p] w fun e w' => e = .returned (.int .i64 (fiV rs t p)) ∧ w' = w := by
  have hlen := h.len
  have hcap := h.cap
  have hl : (n : Int) ≤ 9223372036854775807 := by unfold maxLen at hcap; omega
  have HR : Hid (IsQuads w a n cap rs) := h
  have HL : Hid (n = rs.length) := hlen
  clear hcap h hlen
  go_enter Try.func46, Try.ntmps46
  go_wp2_with fail
  go_loop [7] (fun i => ∃ j : Nat, j ≤ n ∧ i = .int .i64 j ∧ fiV rs t p = fiG t p (rs.drop j) j) (fun i => n - (intOf i).toNat)
  case atStart => exact ⟨0, Nat.zero_le _, rfl, rfl⟩
  case round =>
    obtain ⟨j, hj, rfl, hG⟩ := hrel
    by_cases hlt : j < n
    case neg =>
      have hI : ¬ (j : Int) < (n : Int) := by omega
      obtain rfl : j = n := by omega
      have HG : Hid (fiV rs t p = -1) := by show _ = _; rw [hG, List.drop_of_length_le (Nat.le_of_eq HL.out.symm)]; rfl
      clear hG
      go_wp2_with fail
      go_ret
      exact ⟨by rw [HG.out]; rfl, rfl⟩
    rcases HR.out with ⟨_, h1, _, _⟩ | ⟨x, rfl, h1, h2, h3, h4⟩
    · omega
    have c0 := (h4 j hlt).1
    have c1 : w.cell? ⟨(x.add (j * 4)).block, (x.add (j * 4)).off + 1, none⟩ = some (.int .i64 (rs.getD j qz).page) := by
      show w.cell? ((x.add (j * 4)).add 1) = _
      rw [Go.Deep.add_add]; exact (h4 j hlt).2.1
    have hI : (j : Int) < (n : Int) := by omega
    have HLT : Hid (j < n) := hlt
    have hstep := fiG_step rs t p j (by have := HL.out; omega) j
    rw [← hG] at hstep
    generalize (rs.getD j qz).tag = t' at *
    generalize (rs.getD j qz).page = p' at *
    have HG : Hid (fiV rs t p = if (t' == t && p' == p) = true then (j : Int) else fiG t p (rs.drop (j + 1)) ((j : Int) + 1)) := hstep
    clear hstep hG h1 h2 h3 h4 hlt
    cases e1 : (t' == t)
    · have HG2 : Hid (fiV rs t p = fiG t p (rs.drop (j + 1)) ((j : Int) + 1)) := by show _ = _; rw [HG.out, e1]; rfl
      have e1' : ¬ t' = t := by simpa using e1
      go_wp2_with fail
      go_round
      case rel => exact ⟨j + 1, by have := HLT.out; omega, by go_num, by rw [HG2.out]; rfl⟩
      case measure => have := HLT.out; simp [intOf]; omega
    · cases e2 : (p' == p)
      · have HG2 : Hid (fiV rs t p = fiG t p (rs.drop (j + 1)) ((j : Int) + 1)) := by show _ = _; rw [HG.out, e1, e2]; rfl
        go_wp2_with fail
        go_round
        case rel => exact ⟨j + 1, by have := HLT.out; omega, by go_num, by rw [HG2.out]; rfl⟩
        case measure => have := HLT.out; simp [intOf]; omega
      · have HG2 : Hid (fiV rs t p = (j : Int)) := by show _ = _; rw [HG.out, e1, e2]; rfl
        go_wp2_with fail
        go_ret
        exact ⟨by rw [HG2.out]; rfl, rfl⟩
end Go.Proofs.Ytaajaikpkcgalaa
