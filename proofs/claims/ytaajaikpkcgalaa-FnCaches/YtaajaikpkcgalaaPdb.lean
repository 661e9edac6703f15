/- Draws of bent lists of pages, and of two of them. -/
import Derived.Test.YtaajaikpkcgalaaPdp
namespace Go.Proofs.Ytaajaikpkcgalaa
open Go.RowKit
set_option linter.unusedVariables false

/-- A drawn list: eight pages of the draw's own, or a slice of another length. -/
def Drawn (w : World) (base : Nat) (v : Value) : Prop :=
  (∃ rs : List (Int × Int), Prs 51 w base v rs ∧ rs.length = 8) ∨ ∃ a cap, v = .slice a 7 cap
theorem Drawn.turn {w w' : World} {base b : Nat} {v : Value} (h : Drawn w base v) (t : Turn b w w') (hb : b < base) : Drawn w' base v := by
  rcases h with ⟨rs, h, hl⟩ | h
  · exact .inl ⟨rs, h.turn t hb, hl⟩
  · exact .inr h
theorem Drawn.mono {w : World} {base base' : Nat} {v : Value} (h : Drawn w base v) (hb : base' ≤ base) : Drawn w base' v := by
  rcases h with ⟨rs, h, hl⟩ | h
  · exact .inl ⟨rs, h.mono hb, hl⟩
  · exact .inr h
theorem Drawn.shape {w : World} {base : Nat} {v : Value} (h : Drawn w base v) : ∃ a n cap, v = .slice a n cap := by
  rcases h with ⟨rs, h, hl⟩ | ⟨a, cap, rfl⟩
  · obtain ⟨a, cap, rfl, _⟩ := h.shape
    exact ⟨_, _, _, rfl⟩
  · exact ⟨_, _, _, rfl⟩
theorem Prs.storeAt {e : TypeId} {w : World} {base g n cap : Nat} {rs : List (Int × Int)} (h : Prs e w base (.slice (some ⟨g, 0, none⟩) n cap) rs) (hn : n = rs.length) (j : Nat) (u : Int) (hj : j < n) :
    (∃ qs, qs.length = rs.length ∧ Prs e (w.setCell ⟨g, j * 2, none⟩ (.int .i64 u)) base (.slice (some ⟨g, 0, none⟩) n cap) qs) ∧ ∃ qs, qs.length = rs.length ∧ Prs e (w.setCell ⟨g, j * 2 + 1, none⟩ (.int .i64 u)) base (.slice (some ⟨g, 0, none⟩) n cap) qs := by
  subst hn
  have h1 := (World.ownsRow.stored h (j * 2) (.int .i64 u)).1
  have h2 := (World.ownsRow.stored h (j * 2 + 1) (.int .i64 u)).1
  have e1 : (flat rs).set (j * 2) (.int .i64 u) = flat (rs.set j (u, (rs.getD j (0, 0)).2)) := by
    rw [flat_set rs j _ _ hj]
    apply List.ext_getElem?
    intro i
    by_cases hi : j * 2 + 1 = i
    · subst hi
      rw [List.getElem?_set_ne (by omega), (flat_get rs j hj).2, List.getElem?_set_self (by rw [List.length_set, flat_length]; omega)]
    · rw [List.getElem?_set_ne hi]
  have e2 : (flat rs).set (j * 2 + 1) (.int .i64 u) = flat (rs.set j ((rs.getD j (0, 0)).1, u)) := by
    rw [flat_set rs j _ _ hj]
    apply List.ext_getElem?
    intro i
    by_cases hi : j * 2 + 1 = i
    · subst hi
      rw [List.getElem?_set_self (by rw [flat_length]; omega), List.getElem?_set_self (by rw [List.length_set, flat_length]; omega)]
    · rw [List.getElem?_set_ne hi, List.getElem?_set_ne hi]
      by_cases hk : j * 2 = i
      · subst hk
        rw [List.getElem?_set_self (by rw [flat_length]; omega), (flat_get rs j hj).1]
      · rw [List.getElem?_set_ne hk]
  refine ⟨⟨rs.set j (u, (rs.getD j (0, 0)).2), List.length_set .., ?_⟩, ⟨rs.set j ((rs.getD j (0, 0)).1, u), List.length_set .., ?_⟩⟩
  · show World.ownsRow _ _ _ _ _ _ (flat (rs.set j (u, (rs.getD j (0, 0)).2)))
    rw [← e1, List.length_set]
    exact h1
  · show World.ownsRow _ _ _ _ _ _ (flat (rs.set j ((rs.getD j (0, 0)).1, u)))
    rw [← e2, List.length_set]
    exact h2

set_option maxHeartbeats 2000000 in
theorem bent_any {w : World} {b k : Nat} {a : Option Addr} {len cap : Nat} {zs : List Int} (s : Src w b k a len cap zs) (hk : k ≤ 80000) (top : Int) :
    Calls Try.prog 15 #[.pointer (some ⟨b, 0, none⟩), .int .i64 top] w fun e w' => ∃ (v : Value) (k' : Nat), e = .returned v ∧ Drawn w' w.heap.size v ∧ k' ≤ k + 30 ∧ Turn b w w' ∧ Src w' b k' a len cap zs := by
  have hb := s.here
  have HS : Hid (Src w b k a len cap zs) := s
  have HK : Hid (k ≤ 80000) := hk
  clear s hk
  go_enter Try.func15, Try.ntmps15
  go_wp2_with fail
  refine (pages_any HS.out (by have := HK.out; omega) top).mono ?_
  rintro e w1 ⟨v, rs, rfl, hl, hP, t1, s1⟩
  obtain ⟨ya, yc, rfl, l1, l2, hg⟩ := hP.shape
  rw [hl] at l1 hg hP ⊢
  obtain ⟨g, rfl⟩ := hg (by omega)
  have PB : Hid (Prs 51 w1 w.heap.size (.slice (some ⟨g, 0, none⟩) 8 yc) rs) := hP
  have LR : Hid (rs.length = 8) := hl
  clear hP hl hg l2
  go_wp2_with fail
  refine (next_any s1 (by have := HK.out; omega) _).mono ?_
  rintro e w2 ⟨v2, rfl, h2, -, t2, s2⟩
  obtain ⟨i0, i1⟩ := h2 (by omega)
  obtain ⟨i, rfl⟩ := Int.eq_ofNat_of_zero_le i0
  have hi8 : i < 8 := by omega
  clear h2 i0
  go_wp2_with fail
  refine (next_any s2 (by have := HK.out; omega) _).mono ?_
  rintro e w3 ⟨v3, rfl, -, -, t3, s3⟩
  have T3 : Hid (Turn b w w3) := t1.trans (t2.trans t3)
  have S3 : Hid (Src w3 b (k + 24 + 1 + 1) a len cap zs) := s3
  have P3 : Hid (Prs 51 w3 w.heap.size (.slice (some ⟨g, 0, none⟩) 8 yc) rs) := PB.out.turn (t2.trans t3) hb
  have h3 := s3.here
  have hgb : w.heap.size ≤ g := (PB.out.lt g rfl).1
  clear t1 t2 t3 s1 s2 s3
  by_cases c0 : v3 = 0
  · subst c0
    go_wp2_with fail
    refine (pick_any (S3.out.alloc _) (by have := HK.out; omega) (fun _ => True) _ 3 (by omega) (by omega) (by simp) (by omega) ?_).mono ?_
    · intro i hi
      have : i = 0 ∨ i = 1 ∨ i = 2 := by omega
      rcases this with rfl | rfl | rfl
      all_goals exact ⟨_, cell_new rfl, trivial⟩
    rintro e w4 ⟨v4, rfl, -, t4, s4⟩
    have T4 : Hid (Turn b w w4) := T3.out.trans ((Turn.alloc _ w3 _).trans t4)
    have P4 : Hid (Prs 51 w4 w.heap.size (.slice (some ⟨g, 0, none⟩) 8 yc) rs) := P3.out.turn ((Turn.alloc _ w3 _).trans t4) hb
    have c1 := (P4.out.cell LR.out.symm i hi8).1
    have f1 := P4.out.free LR.out.symm (i * 2)
    have S4 : Hid (Src w4 b (k + 24 + 1 + 1 + 1) a len cap zs) := s4
    clear t4 s4
    go_wp2_with fail
    go_ret
    obtain ⟨qs, hq, hQ⟩ := (P4.out.storeAt LR.out.symm i v4 hi8).1
    exact ⟨_, k + 24 + 1 + 1 + 1, rfl, .inl ⟨qs, hQ, hq.trans LR.out⟩, by omega, T4.out.put _ _ hgb, S4.out.put _ _ (by show b < g; omega)⟩
  have n0 : (v3 == 0) = false := beq_eq_false_iff_ne.2 c0
  by_cases c1 : v3 = 1
  · subst c1
    clear n0 c0
    go_wp2_with fail
    refine (pick_any (S3.out.alloc _) (by have := HK.out; omega) (fun _ => True) _ 4 (by omega) (by omega) (by simp) (by omega) ?_).mono ?_
    · intro i hi
      have : i = 0 ∨ i = 1 ∨ i = 2 ∨ i = 3 := by omega
      rcases this with rfl | rfl | rfl | rfl
      all_goals exact ⟨_, cell_new rfl, trivial⟩
    rintro e w4 ⟨v4, rfl, -, t4, s4⟩
    have T4 : Hid (Turn b w w4) := T3.out.trans ((Turn.alloc _ w3 _).trans t4)
    have P4 : Hid (Prs 51 w4 w.heap.size (.slice (some ⟨g, 0, none⟩) 8 yc) rs) := P3.out.turn ((Turn.alloc _ w3 _).trans t4) hb
    have c1 := (P4.out.cell LR.out.symm i hi8).2
    have f1 := P4.out.free LR.out.symm (i * 2 + 1)
    have S4 : Hid (Src w4 b (k + 24 + 1 + 1 + 1) a len cap zs) := s4
    clear t4 s4
    go_wp2_with fail
    go_ret
    obtain ⟨qs, hq, hQ⟩ := (P4.out.storeAt LR.out.symm i v4 hi8).2
    exact ⟨_, k + 24 + 1 + 1 + 1, rfl, .inl ⟨qs, hQ, hq.trans LR.out⟩, by omega, T4.out.put _ _ hgb, S4.out.put _ _ (by show b < g; omega)⟩
  have n1 : (v3 == 1) = false := beq_eq_false_iff_ne.2 c1
  by_cases c2 : v3 = 2
  · subst c2
    clear n0 c0 n1 c1
    have l1I : (8 : Int) ≤ (yc : Int) := by omega
    go_wp2_with fail
    go_ret
    exact ⟨_, k + 24 + 1 + 1, rfl, .inr ⟨_, _, rfl⟩, by omega, T3.out, S3.out⟩
  have n2 : (v3 == 2) = false := beq_eq_false_iff_ne.2 c2
  clear c0 c1 c2
  go_wp2_with fail
  go_ret
  exact ⟨_, k + 24 + 1 + 1, rfl, .inl ⟨rs, P3.out, LR.out⟩, by omega, T3.out, S3.out⟩

end Go.Proofs.Ytaajaikpkcgalaa
