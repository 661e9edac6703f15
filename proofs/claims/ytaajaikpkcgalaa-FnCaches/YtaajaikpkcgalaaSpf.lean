/- The fault of a cache by the model, and FindHit by both. -/
import Derived.Test.YtaajaikpkcgalaaSps
namespace Go.Proofs.Ytaajaikpkcgalaa
open Go.RowKit
set_option linter.unusedVariables false

theorem bdn {B : Nat} {a w : World} (h : Below B a w) (n : Nat) : Below B a (w.drewN n) := h.trans ⟨rfl, rfl, rfl, Nat.le_refl _, fun _ _ => rfl⟩
theorem IsQuads.pre {w : World} {a : Option Addr} {n cap : Nat} {rs : List Qd} (h : IsQuads w a n cap rs) (j : Nat) (hj : j ≤ n) : IsQuads w a j cap (rs.take j) := by
  rcases h with ⟨h1, h2, h3, h4⟩ | ⟨x, h1, h2, h3, h4, h5⟩
  · subst h2 h4
    obtain rfl : j = 0 := by omega
    exact .inl ⟨h1, rfl, h3, rfl⟩
  · refine .inr ⟨x, h1, by omega, h3, by simp; omega, fun i hi => ?_⟩
    have e : (rs.take j).getD i qz = rs.getD i qz := by simp [List.getD, hi]
    rw [e]
    exact h5 i (by omega)

set_option maxRecDepth 100000 in
set_option maxHeartbeats 2000000 in
theorem spec_cacheFault (a : Option Addr) (len cap : Nat) (rs : List Qd) (w : World) (h : IsQuads w a len cap rs) :
    Calls Try.prog 31 #[.slice a len cap] w fun e w' => e = .returned (.int .i64 (cfV rs)) ∧ Below w.heap.size w w' := by
  have hlen := h.len
  have hcap := h.cap
  have hl : (len : Int) ≤ 9223372036854775807 := by unfold maxLen at hcap; omega
  have hlc : (len : Int) ≤ (cap : Int) := by omega
  have hcm : (cap : Int) ≤ 9223372036854775807 := by unfold maxLen at hcap; omega
  clear hcap
  by_cases hm : 12 < len
  · have e1 : cfV rs = 2 := by rw [cfV, if_pos (by omega)]
    rw [e1]
    have hmi : (12 : Int) < (len : Int) := by omega
    clear h e1 hlen
    go_enter Try.func31, Try.ntmps31
    go_wp2_with fail
    go_ret
    exact ⟨rfl, Below.refl _ _⟩
  have e1 : cfV rs = cfG [] rs := by rw [cfV, if_neg (by omega)]
  rw [e1]
  clear e1
  have hmi : ¬ (12 : Int) < (len : Int) := by omega
  have HR : Hid (IsQuads w a len cap rs) := h
  have HL : Hid (len = rs.length) := hlen
  clear h hlen hm
  go_enter Try.func31, Try.ntmps31
  go_wp2_with fail
  go_loopw [3] (fun c wr => ∃ j : Nat, j ≤ len ∧ c = .int .i64 j ∧ cfG [] rs = cfG (rs.take j) (rs.drop j) ∧ Below w.heap.size w wr) (fun c _ => len - (intOf c).toNat)
  case atStart => exact ⟨0, Nat.zero_le _, rfl, rfl, Below.refl _ _⟩
  case round =>
    obtain ⟨j, hj, rfl, hG, hB⟩ := hrel
    have HB : Hid (Below w.heap.size w wr) := hB
    by_cases hlt : j < len
    case neg =>
      have hI : ¬ (j : Int) < (len : Int) := by omega
      obtain rfl : j = len := by omega
      have HE : Hid (cfG [] rs = 0) := by show _ = _; rw [hG, List.drop_of_length_le (Nat.le_of_eq HL.out.symm)]; rfl
      clear hG hB
      go_wp2_with fail
      go_ret
      exact ⟨by rw [HE.out]; rfl, HB.out⟩
    rcases HR.out with ⟨_, h1, _, _⟩ | ⟨x, rfl, h1, h2, h3, h4⟩
    · omega
    have c0 := cell_keep hB (h4 j hlt).1
    have c1 : wr.cell? ⟨(x.add (j * 4)).block, (x.add (j * 4)).off + 1, none⟩ = some (.int .i64 (rs.getD j qz).page) := by
      show wr.cell? ((x.add (j * 4)).add 1) = _
      rw [Go.Deep.add_add]; exact cell_keep hB (h4 j hlt).2.1
    have c2 : wr.cell? ⟨(x.add (j * 4)).block, (x.add (j * 4)).off + 2, none⟩ = some (.int .i64 (rs.getD j qz).to) := by
      show wr.cell? ((x.add (j * 4)).add 2) = _
      rw [Go.Deep.add_add]; exact cell_keep hB (h4 j hlt).2.2.1
    have c3 : wr.cell? ⟨(x.add (j * 4)).block, (x.add (j * 4)).off + 3, none⟩ = some (.int .i64 (rs.getD j qz).kinds) := by
      show wr.cell? ((x.add (j * 4)).add 3) = _
      rw [Go.Deep.add_add]; exact cell_keep hB (h4 j hlt).2.2.2
    have hI : (j : Int) < (len : Int) := by omega
    have HLT : Hid (j < len) := hlt
    have hstep := cfG_step rs j (by have := HL.out; omega)
    rw [← hG] at hstep
    have hF := spec_hit (rs.getD j qz)
    have hP := HR.out.pre j (by omega)
    have hfi := fun u (hu : Below w.heap.size w u) => spec_find (some x) j cap (rs.take j) (rs.getD j qz).tag (rs.getD j qz).page u (hP.stay hu)
    have hng := fiV_neg (rs.take j) (rs.getD j qz).tag (rs.getD j qz).page
    generalize rs.getD j qz = q at *
    obtain ⟨t, p, o, k⟩ := q
    simp only [Qd.val] at hF hstep c0 c1 c2 c3 hfi hng
    have HFI : Hid (∀ u, Below w.heap.size w u → Calls Try.prog 46 #[.slice (some x) j cap, .int .i64 t, .int .i64 p] u fun e w' => e = .returned (.int .i64 (fiV (rs.take j) t p)) ∧ w' = u) := hfi
    have HNG : Hid (decide (fiV (rs.take j) t p < 0) = !hasQ (rs.take j) t p) := hng
    clear h1 h2 h3 h4 hG hB hlt hP hfi hng
    cases hok : okQ ⟨t, p, o, k⟩
    · rw [hok] at hF hstep
      have HE : Hid (cfG [] rs = 3) := hstep
      clear hstep hok
      go_wp2_with (go_at_call 37; refine (hF _).mono ?_; rintro e w5 ⟨rfl, b5⟩)
      go_ret
      exact ⟨by rw [HE.out]; rfl, on HB.out b5⟩
    rw [hok] at hF hstep
    have HST : Hid (cfG [] rs = if hasQ (rs.take j) t p = true then 6 else cfG (rs.take (j + 1)) (rs.drop (j + 1))) := by show _ = _; rw [hstep]; rfl
    clear hstep hok
    go_wp2_with (go_at_call 37; refine (hF _).mono ?_; rintro e w5 ⟨rfl, b5⟩)
    have c0 := cell_keep b5 c0
    have c1 := cell_keep b5 c1
    have B5 : Hid (Below w.heap.size w w5) := on HB.out b5
    clear b5 c2 c3 hF
    have hji : (j : Int) ≤ (cap : Int) := by omega
    have fi := HFI.out
    generalize hfv : fiV (rs.take j) t p = fv at fi
    have HFV : Hid (fiV (rs.take j) t p = fv) := hfv
    clear hfv
    go_quiet ((go_at_call 46; exact Calls.quiet_of_same (fi _ (bdn B5.out _))))
    cases hh : hasQ (rs.take j) t p
    · have hfn : fv < 0 := by
        have := HNG.out
        rw [hh, HFV.out] at this
        simpa using this
      have HE : Hid (cfG [] rs = cfG (rs.take (j + 1)) (rs.drop (j + 1))) := by show _ = _; rw [HST.out, hh]; rfl
      clear hh
      go_wp2_with fail
      go_roundw
      case rel => exact ⟨j + 1, by have := HLT.out; omega, by go_num, HE.out, bdn B5.out _⟩
      case measure => have := HLT.out; simp [intOf]; omega
    · have hfn : ¬ fv < 0 := by
        have := HNG.out
        rw [hh, HFV.out] at this
        simpa using this
      have hfn2 : 0 ≤ fv := by omega
      have HE : Hid (cfG [] rs = 6) := by show _ = _; rw [HST.out, hh]; rfl
      clear hh
      go_wp2_with fail
      go_ret
      exact ⟨by rw [HE.out]; rfl, bdn B5.out _⟩

theorem impl_cacheFault (a : Option Addr) (len cap : Nat) (rs : List Qd) (w : World) (h : IsQuads w a len cap rs) :
    Calls Try.prog 13 #[.slice a len cap] w fun e w' => e = .returned (.int .i64 (cfV rs)) ∧ Below w.heap.size w w' := by
  have hF := impl_storeOf a len cap rs w h
  go_enter Try.func13, Try.ntmps13
  go_wp2_with (go_at_call 20; refine hF.mono ?_; rintro e w1 ⟨v, rfl, b1, _, _⟩)
  go_ret
  exact ⟨rfl, b1⟩

/-- Code and value of FindHit. -/
def fhC (rs : List Qd) (t p : Int) : Int := if cfV rs = 0 then (if hasQ rs t p then 0 else 4) else cfV rs
def fhV (rs : List Qd) (t p : Int) : Int := if cfV rs = 0 then (if hasQ rs t p then fiV rs t p else 0) else 0

end Go.Proofs.Ytaajaikpkcgalaa
