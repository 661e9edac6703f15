/- Texts of this seat, joined. -/
import Derived.Test.YtgjpfmcokcjegaaQ17
namespace Go.Proofs.Ytgjpfmcokcjegaa
open Go.RowKit
set_option linter.unusedVariables false
theorem spec_faultBad (a : Option Addr) (n cap : Nat) (top : Int) (w : World) (hn : n ≠ 8) (hm : n ≤ 1048576) (h1 : 1 ≤ top) (h2 : top ≤ 24) :
    Calls Try.prog 47 #[.slice a n cap, .int .i64 top] w fun e w' => e = .returned (.int .i64 1) ∧ w' = w := by
  have g : ((n : Int) != 8) = true := by simp; omega
  have hi : (n : Int) ≤ 1048576 := by omega
  have k : (decide (1 ≤ top) && decide (top ≤ 24)) = true := by simp; omega
  go_enter Try.func47, Try.ntmps47
  go_wp2_with (go_at_call 58; refine (spec_in _ _ _ _).mono ?_; rintro e x ⟨rfl, rfl⟩; rw [k])
  go_ret
  exact ⟨rfl, rfl⟩
set_option maxHeartbeats 2000000 in
theorem spec_fault (v : Value) (rs : List (Int × Int)) (top : Int) (b : Nat) (w : World) (h : Prs 73 w b v rs) (hm : rs.length ≤ 1048576) :
    Calls Try.prog 47 #[v, .int .i64 top] w fun e w' => e = .returned (.int .i64 (pgsV rs top)) ∧ w' = w := by
  obtain ⟨a, cap, rfl, l1, l2, hg⟩ := h.shape
  by_cases h1 : (decide (1 ≤ top) && decide (top ≤ 24)) = true
  case neg =>
    rw [Bool.not_eq_true] at h1
    rw [pgsV, if_neg (by simp at h1; omega)]
    clear h
    go_enter Try.func47, Try.ntmps47
    go_wp2_with (go_at_call 58; refine (spec_in _ _ _ _).mono ?_; rintro e x ⟨rfl, rfl⟩; rw [h1])
    go_ret
    exact ⟨rfl, rfl⟩
  have h2 : 1 ≤ top ∧ top ≤ 24 := by simpa using h1
  obtain ⟨t1, t2⟩ := h2
  by_cases hl : rs.length = 8
  case neg =>
    rw [pgsV, if_pos (by omega), if_neg hl]
    exact spec_faultBad _ _ _ _ _ hl hm t1 t2
  rw [pgsV, if_pos (by omega), if_pos hl]
  rw [hl] at hg ⊢
  have HZ : Hid (Prs 73 w b (.slice a 8 cap) rs) := by show Prs 73 _ _ _ _; rw [← hl]; exact h
  have HN : Hid (rs.length = 8) := hl
  obtain ⟨g, rfl⟩ := hg (by omega)
  clear h hl l1 l2 hg hm
  go_enter Try.func47, Try.ntmps47
  go_wp2_with (go_at_call 58; refine (spec_in _ _ _ _).mono ?_; rintro e x ⟨rfl, rfl⟩; rw [h1])
  go_loop [5] (fun c => ∃ j : Nat, j ≤ 8 ∧ c = .int .i64 j ∧ okTo top rs j) (fun c => 8 - (intOf c).toNat)
  case atStart => exact ⟨0, Nat.zero_le _, rfl, fun i hi => by omega⟩
  case round =>
    obtain ⟨j, hj, rfl, hA⟩ := hrel
    by_cases hlt : j < 8
    · have c1 := (HZ.out.cell HN.out.symm j hlt).1
      have c2 := (HZ.out.cell HN.out.symm j hlt).2
      have hI : (j : Int) < 8 := by omega
      have HL : Hid (j < 8) := hlt
      have HS : Hid (pgC top (rs.getD j (0, 0)).1 (rs.getD j (0, 0)).2 = 0 → okTo top rs (j + 1)) := okTo_succ hA
      have HT : Hid (pgC top (rs.getD j (0, 0)).1 (rs.getD j (0, 0)).2 ≠ 0 → firstC top rs = pgC top (rs.getD j (0, 0)).1 (rs.getD j (0, 0)).2) := firstC_at (by have := HN.out; omega) hA
      generalize (rs.getD j (0, 0)).1 = p at *
      generalize (rs.getD j (0, 0)).2 = q at *
      clear hlt hA
      by_cases k1 : (decide (-1 ≤ p) && decide (p ≤ top - 1)) = true
      case neg =>
        rw [Bool.not_eq_true] at k1
        have e : pgC top p q = 3 := pgC_range (by simp at k1; omega)
        have HT2 : Hid (firstC top rs = 3) := by show _ = _; rw [HT.out (by omega), e]
        clear e HT HS
        go_wp2_with (go_at_call 58; refine (spec_in _ _ _ _).mono ?_; rintro e x ⟨rfl, rfl⟩; rw [k1])
        go_ret
        exact ⟨by rw [HT2.out]; rfl, rfl⟩
      by_cases k2 : (decide (0 ≤ q) && decide (q ≤ 7)) = true
      case neg =>
        rw [Bool.not_eq_true] at k2
        have e : pgC top p q = 3 := pgC_range (by simp at k2; omega)
        have HT2 : Hid (firstC top rs = 3) := by show _ = _; rw [HT.out (by omega), e]
        clear e HT HS
        go_wp2_with (go_at_call 58; refine (spec_in _ _ _ _).mono ?_; rintro e x ⟨rfl, rfl⟩; first | rw [k1] | rw [k2])
        go_ret
        exact ⟨by rw [HT2.out]; rfl, rfl⟩
      have b1 : -1 ≤ p ∧ p ≤ top - 1 := by simpa using k1
      have b2 : 0 ≤ q ∧ q ≤ 7 := by simpa using k2
      obtain ⟨p1, p2⟩ := b1
      obtain ⟨p3, p4⟩ := b2
      by_cases k3 : p < 0
      case neg =>
        have e : pgC top p q = 0 := pgC_ok (by omega) (by omega)
        have S := HS.out e
        have HS' : Hid (okTo top rs (j + 1)) := S
        clear e HT HS S
        go_wp2_with (go_at_call 58; refine (spec_in _ _ _ _).mono ?_; rintro e x ⟨rfl, rfl⟩; first | rw [k1] | rw [k2])
        go_round
        case rel => exact ⟨j + 1, by have := HL.out; omega, by go_num, HS'.out⟩
        case measure => have := HL.out; simp [intOf]; omega
      by_cases k4 : q = 0
      case neg =>
        have e : pgC top p q = 1 := pgC_form (by omega) (by omega)
        have HT2 : Hid (firstC top rs = 1) := by show _ = _; rw [HT.out (by omega), e]
        have k5 : (q != 0) = true := by simpa using k4
        clear e HT HS k4
        go_wp2_with (go_at_call 58; refine (spec_in _ _ _ _).mono ?_; rintro e x ⟨rfl, rfl⟩; first | rw [k1] | rw [k2])
        go_ret
        exact ⟨by rw [HT2.out]; rfl, rfl⟩
      · have e : pgC top p q = 0 := pgC_ok (by omega) (by omega)
        have HS' : Hid (okTo top rs (j + 1)) := HS.out e
        subst k4
        clear e HT HS
        go_wp2_with (go_at_call 58; refine (spec_in _ _ _ _).mono ?_; rintro e x ⟨rfl, rfl⟩; first | rw [k1] | rw [k2])
        go_round
        case rel => exact ⟨j + 1, by have := HL.out; omega, by go_num, HS'.out⟩
        case measure => have := HL.out; simp [intOf]; omega
    · have hI : ¬ (j : Int) < 8 := by omega
      obtain rfl : j = 8 := by omega
      have HE : Hid (firstC top rs = 0) := firstC_ok (by rw [HN.out]; exact hA)
      clear hA
      go_wp2_with fail
      go_ret
      exact ⟨by rw [HE.out]; rfl, rfl⟩
def Vc (w : World) (m : Nat) (cs : Array Value) : Prop := ∃ (C : Array Value) (t : TypeId), Vb w m C t ∧ ∀ (j : Nat) (x : Value), cs[j]? = some x → C[j]? = some x
theorem Vc.cell {w : World} {m : Nat} {cs : Array Value} (h : Vc w m cs) (j : Nat) {x : Value} (hx : cs[j]? = some x) : w.cell? ⟨m, j, none⟩ = some x := by
  obtain ⟨C, t, hv, hc⟩ := h
  exact hv.cell j (hc j x hx)
theorem Vc.keep {w w' : World} {m : Nat} {cs : Array Value} (h : Vc w m cs) (b : Below w.heap.size w w') : Vc w' m cs := by
  obtain ⟨C, t, hv, hc⟩ := h
  exact ⟨C, t, hv.keep b, hc⟩
theorem Vc.lt {w : World} {m : Nat} {cs : Array Value} (h : Vc w m cs) : m < w.heap.size := by
  obtain ⟨C, t, hv, hc⟩ := h
  exact hv.lt
theorem Vc.mq {S : Nat → Prop} {w w' : World} {m : Nat} {cs : Array Value} (h : Vc w m cs) (q : Mq S w w') (hn : ¬ S m) : Vc w' m cs := by
  obtain ⟨C, t, hv, hc⟩ := h
  exact ⟨C, t, q.vb hv hn, hc⟩
theorem Vb.vc {w : World} {m : Nat} {cs : Array Value} {t : TypeId} (h : Vb w m cs t) : Vc w m cs := ⟨cs, t, h, fun _ _ e => e⟩
def Vd (w : World) (m d : Nat) (cs : Array Value) : Prop := ∃ (C : Array Value) (t : TypeId), Vb w m C t ∧ ∀ (j : Nat) (x : Value), cs[j]? = some x → C[d + j]? = some x
theorem Vd.cell {w : World} {m d : Nat} {cs : Array Value} (h : Vd w m d cs) (j : Nat) {x : Value} (hx : cs[j]? = some x) : w.cell? ⟨m, d + j, none⟩ = some x := by
  obtain ⟨C, t, hv, hc⟩ := h
  exact hv.cell (d + j) (hc j x hx)
theorem Vd.keep {w w' : World} {m d : Nat} {cs : Array Value} (h : Vd w m d cs) (b : Below w.heap.size w w') : Vd w' m d cs := by
  obtain ⟨C, t, hv, hc⟩ := h
  exact ⟨C, t, hv.keep b, hc⟩
theorem Vd.lt {w : World} {m d : Nat} {cs : Array Value} (h : Vd w m d cs) : m < w.heap.size := by
  obtain ⟨C, t, hv, hc⟩ := h
  exact hv.lt
theorem Vd.mq {S : Nat → Prop} {w w' : World} {m d : Nat} {cs : Array Value} (h : Vd w m d cs) (q : Mq S w w') (hn : ¬ S m) : Vd w' m d cs := by
  obtain ⟨C, t, hv, hc⟩ := h
  exact ⟨C, t, q.vb hv hn, hc⟩
def Sj (W : World) (q : Nat) (w' : World) : Prop := Mq (fun k => k = q) W w' ∧ w'.there q 0 9
theorem Sj.step {W w w' : World} {q : Nat} (h : Sj W q w) (hq : q < W.heap.size) (b : Below w.heap.size w w') : Sj W q w' :=
  ⟨h.1.trans (Mq.of (below_grown b none) fun k e => by cases e), there_below h.2 (Nat.lt_of_lt_of_le hq h.1.size) b⟩
theorem Sj.put {W w : World} {q : Nat} (h : Sj W q w) (j : Nat) (u : Value) : Sj W q (w.setCell ⟨q, j, none⟩ u) := ⟨h.1.set _ _ rfl, World.there_setCells h.2 q j [u]⟩
theorem Sj.at {W w : World} {q : Nat} (h : Sj W q w) (j : Nat) (hj : j < 9) : (∃ v, w.cell? ⟨q, j, none⟩ = some v) ∧ w.frozen? ⟨q, j, none⟩ = false := by
  obtain ⟨h1, h2⟩ := h.2 j hj
  rw [Nat.zero_add] at h1 h2
  exact ⟨Option.isSome_iff_exists.1 h1, h2⟩
theorem Sj.set {W w : World} {q : Nat} (h : Sj W q w) (vs : List Value) : Sj W q (w.setCells q 0 vs) := ⟨h.1.trans (mq_cells q vs w 0), World.there_setCells h.2 _ _ _⟩
end Go.Proofs.Ytgjpfmcokcjegaa
