/- A word of a memory is read, by program and model. -/
import Derived.Test.YtedjnokeknmbaaaMem
namespace Go.Proofs.Ytedjnokeknmbaaa
open Go.RowKit
set_option linter.unusedVariables false

def inB (n : Nat) (at_ : Int) : Bool := decide (0 ≤ at_) && decide (at_ ≤ (n : Int) - 1)
def readC (zs : List Int) (at_ : Int) : Int := if memV zs = 0 then (if inB zs.length at_ then 0 else 7) else memV zs
def readX (zs : List Int) (at_ : Int) : Int := if memV zs = 0 then (if inB zs.length at_ then zs.getD at_.toNat 0 else 0) else 0

def placesB (n : Nat) (at_ size : Int) : Bool := decide (size = 0) || (decide (0 ≤ at_) && decide (size ≤ (n : Int) - at_))

theorem places_one (n : Nat) (at_ : Int) : placesB n at_ 1 = inB n at_ := by
  rw [Bool.eq_iff_iff]
  simp [placesB, inB]
  omega

theorem impl_hasPlaces (a : Option Addr) (n cap : Nat) (at_ size : Int) (w : World) (hn : (n : Int) ≤ 1048576) (h1 : -9223372036854775808 ≤ at_) (h2 : at_ ≤ 9223372036854775807) :
    Calls Try.prog 59 #[.slice a n cap, .int .i64 at_, .int .i64 size] w fun e w' => e = .returned (.bool (placesB n at_ size)) ∧ w' = w := by
  by_cases hs : size = 0
  · subst hs
    go_enter Try.func59, Try.ntmps59
    go_wp2
    go_ret
    exact ⟨by simp [placesB], rfl⟩
  · by_cases ha : 0 ≤ at_
    · go_enter Try.func59, Try.ntmps59
      go_wp2
      go_ret
      exact ⟨by simp [placesB, ha, hs], rfl⟩
    · have hz : at_ < 0 := by omega
      have hp : Hid (placesB n at_ size = false) := by show _ = _; simp [placesB, hs]; omega
      go_enter Try.func59, Try.ntmps59
      go_wp2
      go_ret
      exact ⟨by rw [hp.out]; simp [hs], rfl⟩

theorem spec_at (a : Option Addr) (n cap : Nat) (at_ : Int) (w : World) (hn : (n : Int) ≤ 1048576) :
    Calls Try.prog 56 #[.slice a n cap, .int .i64 at_] w fun e w' => e = .returned (.bool (inB n at_)) ∧ w' = w := by
  go_enter Try.func56, Try.ntmps56
  go_wp2_with (go_at_call 63; refine (spec_in _ _ _ _).mono ?_; rintro e x ⟨rfl, rfl⟩)
  go_ret
  exact ⟨rfl, rfl⟩

theorem memV_len {zs : List Int} (h : memV zs = 0) : zs.length % 8 = 0 ∧ 8 ≤ zs.length ∧ zs.length ≤ 192 ∧ zs.all isW = true := by
  unfold memV at h
  split at h
  · next hf =>
    have hf' := of_decide_eq_true hf
    split at h
    · next ha => exact ⟨hf'.1, hf'.2.1, hf'.2.2, ha⟩
    · omega
  · omega
theorem all_getD {zs : List Int} (h : zs.all isW = true) (i : Nat) (hi : i < zs.length) : 0 ≤ zs.getD i 0 ∧ zs.getD i 0 ≤ 4294967295 := by
  rw [List.all_eq_true] at h
  have := h _ (List.getElem_mem hi)
  rw [List.getD, List.getElem?_eq_getElem hi]
  simpa [isW] using this

set_option maxHeartbeats 1000000 in
theorem spec_read (v : Value) (zs : List Int) (at_ : Int) (b : Nat) (w : World) (h : Nums w b v zs) (h1 : -9223372036854775808 ≤ at_) (h2 : at_ ≤ 9223372036854775807) :
    Calls Try.prog 31 #[v, .int .i64 at_] w fun e w' => e = .returned (.agg #[.int .i64 (readC zs at_), .int .i64 (readX zs at_)]) ∧ Below w.heap.size w w' := by
  have HZ : Hid (Nums w b v zs) := h
  obtain ⟨a, cap, hv, l1, l2, hg⟩ := h.shape
  clear h
  have hmf := fun w b h => spec_memFault v zs b w h
  by_cases hm : memV zs = 0
  · obtain ⟨_, n1, n2, n3⟩ := memV_len hm
    obtain ⟨g, rfl⟩ := hg (by omega)
    subst hv
    rw [hm] at hmf
    have hL : (zs.length : Int) ≤ 1048576 := by omega
    cases hi : inB zs.length at_
    · have e1 : readC zs at_ = 7 := by simp [readC, hm, hi]
      have e2 : readX zs at_ = 0 := by simp [readX, hm, hi]
      rw [e1, e2]
      clear e1 e2 hm n3 n1 n2 l1 l2 hg
      generalize zs.length = n at *
      go_enter Try.func31, Try.ntmps31
      go_wp2_with (first
        | (go_at_call 23; refine (hmf _ b (HZ.out.keep (al (Below.refl _ _) _))).mono ?_; rintro e x ⟨rfl, rfl⟩)
        | (go_at_call 56; refine (spec_at _ _ _ _ _ hL).mono ?_; rintro e x ⟨rfl, rfl⟩; rw [hi]))
      exact bodyPost_ret (v := .agg #[.int .i64 7, .int .i64 0]) (by simp [results, Try.results31, go_sem]) rfl ⟨rfl, al (Below.refl _ _) _⟩
    · have e1 : readC zs at_ = 0 := by simp [readC, hm, hi]
      have e2 : readX zs at_ = zs.getD at_.toNat 0 := by simp [readX, hm, hi]
      rw [e1, e2]
      obtain ⟨i0, i1⟩ : 0 ≤ at_ ∧ at_ ≤ (zs.length : Int) - 1 := by simpa [inB] using hi
      obtain ⟨k, rfl⟩ : ∃ k : Nat, at_ = k := ⟨at_.toNat, by omega⟩
      rw [Int.toNat_natCast]
      have c1 := HZ.out.cell rfl k (by omega)
      have hgb : g < w.heap.size := block_of_cell c1
      have hI : (k : Int) < (zs.length : Int) := by omega
      clear e1 e2 hm n3 i0 i1 n1 n2 l1 l2 hg
      generalize zs.getD k 0 = z at *
      generalize zs.length = n at *
      go_enter Try.func31, Try.ntmps31
      go_wp2_with (first
        | (go_at_call 23; refine (hmf _ b (HZ.out.keep (al (Below.refl _ _) _))).mono ?_; rintro e x ⟨rfl, rfl⟩)
        | (go_at_call 56; refine (spec_at _ _ _ _ _ hL).mono ?_; rintro e x ⟨rfl, rfl⟩; rw [hi]))
      exact bodyPost_ret (v := .agg #[.int .i64 0, .int .i64 z]) (by simp [results, Try.results31, go_sem]) rfl ⟨rfl, al (Below.refl _ _) _⟩
  · have e1 : readC zs at_ = memV zs := by simp [readC, hm]
    have e2 : readX zs at_ = 0 := by simp [readX, hm]
    rw [e1, e2]
    generalize memV zs = f at *
    have hf : (f != 0) = true := by simpa using hm
    clear e1 e2 hm
    subst hv
    generalize zs.length = n at *
    go_enter Try.func31, Try.ntmps31
    go_wp2_with (first
      | (go_at_call 23; refine (hmf _ b (HZ.out.keep (al (Below.refl _ _) _))).mono ?_; rintro e x ⟨rfl, rfl⟩))
    exact bodyPost_ret (v := .agg #[.int .i64 f, .int .i64 0]) (by simp [results, Try.results31, go_sem]) rfl ⟨rfl, al (Below.refl _ _) _⟩

set_option maxHeartbeats 1000000 in
theorem impl_read (v : Value) (zs : List Int) (at_ : Int) (b : Nat) (w : World) (h : Nums w b v zs) (h1 : -9223372036854775808 ≤ at_) (h2 : at_ ≤ 9223372036854775807) :
    Calls Try.prog 18 #[v, .int .i64 at_] w fun e w' => e = .returned (.agg #[.int .i64 (readC zs at_), .int .i64 (readX zs at_)]) ∧ Below w.heap.size w w' := by
  have HZ : Hid (Nums w b v zs) := h
  obtain ⟨a, cap, hv, l1, l2, hg⟩ := h.shape
  clear h
  have hmf := fun w b h => impl_memFault v zs b w h
  by_cases hm : memV zs = 0
  · obtain ⟨_, n1, n2, n3⟩ := memV_len hm
    obtain ⟨g, rfl⟩ := hg (by omega)
    subst hv
    rw [hm] at hmf
    have hL : (zs.length : Int) ≤ 1048576 := by omega
    cases hi : inB zs.length at_
    · have e1 : readC zs at_ = 7 := by simp [readC, hm, hi]
      have e2 : readX zs at_ = 0 := by simp [readX, hm, hi]
      rw [e1, e2]
      clear e1 e2 hm n3 n1 n2 l1 l2 hg
      generalize zs.length = n at *
      go_enter Try.func18, Try.ntmps18
      go_wp2_with (first
        | (go_at_call 21; refine (hmf _ b (HZ.out.keep (al (Below.refl _ _) _))).mono ?_; rintro e x ⟨rfl, rfl⟩)
        | (go_at_call 59; refine (impl_hasPlaces _ _ _ _ _ _ hL h1 h2).mono ?_; rintro e x ⟨rfl, rfl⟩; rw [places_one, hi]))
      exact bodyPost_ret (v := .agg #[.int .i64 7, .int .i64 0]) (by simp [results, Try.results18, go_sem]) rfl ⟨rfl, al (Below.refl _ _) _⟩
    · have e1 : readC zs at_ = 0 := by simp [readC, hm, hi]
      have e2 : readX zs at_ = zs.getD at_.toNat 0 := by simp [readX, hm, hi]
      rw [e1, e2]
      obtain ⟨i0, i1⟩ : 0 ≤ at_ ∧ at_ ≤ (zs.length : Int) - 1 := by simpa [inB] using hi
      obtain ⟨k, rfl⟩ : ∃ k : Nat, at_ = k := ⟨at_.toNat, by omega⟩
      rw [Int.toNat_natCast]
      have c1 := HZ.out.cell rfl k (by omega)
      have hgb : g < w.heap.size := block_of_cell c1
      have hI : (k : Int) < (zs.length : Int) := by omega
      clear e1 e2 hm n3 i0 i1 n1 n2 l1 l2 hg
      generalize zs.getD k 0 = z at *
      generalize zs.length = n at *
      go_enter Try.func18, Try.ntmps18
      go_wp2_with (first
        | (go_at_call 21; refine (hmf _ b (HZ.out.keep (al (Below.refl _ _) _))).mono ?_; rintro e x ⟨rfl, rfl⟩)
        | (go_at_call 59; refine (impl_hasPlaces _ _ _ _ _ _ hL h1 h2).mono ?_; rintro e x ⟨rfl, rfl⟩; rw [places_one, hi]))
      exact bodyPost_ret (v := .agg #[.int .i64 0, .int .i64 z]) (by simp [results, Try.results18, go_sem]) rfl ⟨rfl, al (Below.refl _ _) _⟩
  · have e1 : readC zs at_ = memV zs := by simp [readC, hm]
    have e2 : readX zs at_ = 0 := by simp [readX, hm]
    rw [e1, e2]
    generalize memV zs = f at *
    have hf : (f != 0) = true := by simpa using hm
    clear e1 e2 hm
    subst hv
    generalize zs.length = n at *
    go_enter Try.func18, Try.ntmps18
    go_wp2_with (first
      | (go_at_call 21; refine (hmf _ b (HZ.out.keep (al (Below.refl _ _) _))).mono ?_; rintro e x ⟨rfl, rfl⟩))
    exact bodyPost_ret (v := .agg #[.int .i64 f, .int .i64 0]) (by simp [results, Try.results18, go_sem]) rfl ⟨rfl, al (Below.refl _ _) _⟩

end Go.Proofs.Ytedjnokeknmbaaa
