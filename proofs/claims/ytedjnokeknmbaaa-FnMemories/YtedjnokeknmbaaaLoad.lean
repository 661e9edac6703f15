/- Words are loaded into a memory, and one is written, by program and model. -/
import Derived.Test.YtedjnokeknmbaaaWith
import Derived.Test.YtedjnokeknmbaaaRead
namespace Go.Proofs.Ytedjnokeknmbaaa
open Go.RowKit
set_option linter.unusedVariables false

def canB (n : Nat) (at_ : Int) (m : Nat) : Bool := decide (0 ≤ at_) && placesB n at_ m
def loadC (zs : List Int) (at_ : Int) (ys : List Int) : Int := if memV zs = 0 then (if canB zs.length at_ ys.length then 0 else 8) else memV zs
def loadZ (zs : List Int) (at_ : Int) (ys : List Int) : List Int := if memV zs = 0 then (if canB zs.length at_ ys.length then putN zs at_.toNat ys ys.length else []) else []

theorem loadZ_length (zs : List Int) (at_ : Int) (ys : List Int) : (loadZ zs at_ ys).length ≤ 192 := by
  unfold loadZ
  split
  · next h =>
    have := memV_len h
    split
    · rw [putN_length]; omega
    · simp
  · simp

theorem places_nat (n k m : Nat) (h : placesB n k m = true) : k + m ≤ n ∨ m = 0 := by
  simp [placesB] at h
  omega

set_option maxHeartbeats 2000000 in
theorem impl_load (v : Value) (zs : List Int) (at_ : Int) (u : Value) (ys : List Int) (b b2 : Nat) (w : World) (h : Nums w b v zs) (hy : Nums w b2 u ys) (h1 : -9223372036854775808 ≤ at_) (h2 : at_ ≤ 9223372036854775807) :
    Calls Try.prog 20 #[v, .int .i64 at_, u] w fun e w' => ∃ x, e = .returned (.agg #[.int .i64 (loadC zs at_ ys), x]) ∧ Nums w' w.heap.size x (loadZ zs at_ ys) ∧ Below w.heap.size w w' := by
  have HZ : Hid (Nums w b v zs) := h
  have HY : Hid (Nums w b2 u ys) := hy
  obtain ⟨a, cap, rfl, l1, l2, hg⟩ := h.shape
  obtain ⟨a', cap', rfl, m1, m2, hg'⟩ := hy.shape
  clear h hy
  have hmf := fun w b h => impl_memFault (.slice a zs.length cap) zs b w h
  have hyl : (ys.length : Int) ≤ 9223372036854775807 := by unfold maxLen at m2; omega
  by_cases hm : memV zs = 0
  · obtain ⟨n0, n1, n2, n3⟩ := memV_len hm
    obtain ⟨g, rfl⟩ := hg (by omega)
    rw [hm] at hmf
    have hL : (zs.length : Int) ≤ 1048576 := by omega
    by_cases hneg : at_ < 0
    · have hc : canB zs.length at_ ys.length = false := by simp [canB]; omega
      have e1 : loadC zs at_ ys = 8 := by simp [loadC, hm, hc]
      have e2 : loadZ zs at_ ys = [] := by simp [loadZ, hm, hc]
      rw [e1, e2]
      clear e1 e2 hm hc n3 n0 n1 n2 l1 l2 m1 m2 hg hg'
      generalize zs.length = n at *
      generalize ys.length = m at *
      go_enter Try.func20, Try.ntmps20
      go_wp2_with (go_at_call 21; refine (hmf _ b (HZ.out.keep (al (Below.refl _ _) _))).mono ?_; rintro e x ⟨rfl, rfl⟩)
      exact bodyPost_ret (v := .agg #[.int .i64 8, .slice none 0 0]) (by simp [results, Try.results20, go_sem]) rfl ⟨_, rfl, Nums.nil _ _, al (Below.refl _ _) _⟩
    cases hi : placesB zs.length at_ ys.length
    · have hc : canB zs.length at_ ys.length = false := by simp [canB, hi]
      have e1 : loadC zs at_ ys = 8 := by simp [loadC, hm, hc]
      have e2 : loadZ zs at_ ys = [] := by simp [loadZ, hm, hc]
      rw [e1, e2]
      clear e1 e2 hm hc n3 n0 n1 n2 l1 l2 m1 m2 hg hg'
      generalize zs.length = n at *
      generalize ys.length = m at *
      go_enter Try.func20, Try.ntmps20
      go_wp2_with (first
        | (go_at_call 21; refine (hmf _ b (HZ.out.keep (al (Below.refl _ _) _))).mono ?_; rintro e x ⟨rfl, rfl⟩)
        | (go_at_call 59; refine (impl_hasPlaces _ _ _ _ _ _ hL h1 h2).mono ?_; rintro e x ⟨rfl, rfl⟩; rw [hi]))
      exact bodyPost_ret (v := .agg #[.int .i64 8, .slice none 0 0]) (by simp [results, Try.results20, go_sem]) rfl ⟨_, rfl, Nums.nil _ _, al (Below.refl _ _) _⟩
    · obtain ⟨k, rfl⟩ : ∃ k : Nat, at_ = k := ⟨at_.toNat, by omega⟩
      have hc : canB zs.length k ys.length = true := by simp [canB, hi]
      have e1 : loadC zs k ys = 0 := by simp [loadC, hm, hc]
      have e2 : loadZ zs k ys = putN zs k ys ys.length := by simp [loadZ, hm, hc]
      rw [e1, e2]
      have HK : Hid (k + ys.length ≤ zs.length ∨ ys.length = 0) := by
        exact places_nat _ _ _ hi
      have HP : Hid (zs.length = zs.length / 8 * 8 ∧ 1 ≤ zs.length / 8 ∧ zs.length / 8 ≤ 24) := ⟨by omega, by omega, by omega⟩
      have hwith := fun w b b2 h hy => impl_with g zs.length cap zs b (zs.length / 8) k (.slice a' ys.length cap') ys b2 w h hy HP.out.1 HP.out.2.2 HP.out.2.1 HK.out h2
      clear e1 e2 hm hc n3 n0 n1 n2 l1 l2 m1 m2 hg hg'
      generalize putN zs k ys ys.length = R at *
      generalize zs.length = n at *
      generalize ys.length = m at *
      clear HP HK
      go_enter Try.func20, Try.ntmps20
      go_wp2_with (first
        | (go_at_call 21; refine (hmf _ b (HZ.out.keep (al (Below.refl _ _) _))).mono ?_; rintro e x ⟨rfl, rfl⟩)
        | (go_at_call 59; refine (impl_hasPlaces _ _ _ _ _ _ hL h1 h2).mono ?_; rintro e x ⟨rfl, rfl⟩; rw [hi]))
      refine (hwith _ b b2 (HZ.out.keep (al (Below.refl _ _) _)) (HY.out.keep (al (Below.refl _ _) _))).mono ?_
      rintro e w2 ⟨x, rfl, nx, bx⟩
      obtain ⟨c1, z1⟩ := bcell bx
      have N2 : Hid (Nums w2 _ x R) := nx
      have B2 : Hid (Below w.heap.size w w2) := on (al (Below.refl _ _) _) bx
      have hv : Hid (x.ownBlock ≠ some w.heap.size) := fun e => own_not nx _ (.inl (by simp)) e.symm
      have k0 : w2.cell? ⟨w.heap.size, 0, none⟩ = some (.int .i64 0) := cell_keep bx (cell_new rfl)
      have k1 : w2.cell? ⟨w.heap.size, 1, none⟩ = some (.slice none 0 0) := cell_keep bx (cell_new rfl)
      obtain ⟨ax, capx, rfl, _, _, _⟩ := nx.shape
      clear nx bx hwith hmf
      go_wp2_with fail
      exact bodyPost_ret (v := .agg #[.int .i64 0, .slice ax _ capx]) (by simp [results, Try.results20, go_sem, k0, k1]) rfl
        ⟨_, rfl, ((N2.out.mono (by simp)).put _ _ hv.out).put _ _ hv.out, (B2.out.setCell (by simp) _).setCell (by simp) _⟩
  · have e1 : loadC zs at_ ys = memV zs := by simp [loadC, hm]
    have e2 : loadZ zs at_ ys = [] := by simp [loadZ, hm]
    rw [e1, e2]
    generalize memV zs = f at *
    have hf : (f != 0) = true := by simpa using hm
    clear e1 e2 hm hg hg' l1 l2 m1 m2
    generalize zs.length = n at *
    generalize ys.length = m at *
    go_enter Try.func20, Try.ntmps20
    go_wp2_with (go_at_call 21; refine (hmf _ b (HZ.out.keep (al (Below.refl _ _) _))).mono ?_; rintro e x ⟨rfl, rfl⟩)
    exact bodyPost_ret (v := .agg #[.int .i64 f, .slice none 0 0]) (by simp [results, Try.results20, go_sem]) rfl ⟨_, rfl, Nums.nil _ _, al (Below.refl _ _) _⟩

theorem Nums.lit (w : World) (x : Int) (base : Nat) (hb : base ≤ w.heap.size) : Nums (w.alloc (.cells #[.int .i64 x] 2)) base (.slice (some ⟨w.heap.size, 0, none⟩) 1 1) [x] :=
  World.ownsRow_lit w #[.int .i64 x] 1 hb (by decide) rfl

set_option maxHeartbeats 1000000 in
theorem impl_write (v : Value) (zs : List Int) (at_ x : Int) (b : Nat) (w : World) (h : Nums w b v zs) (h1 : -9223372036854775808 ≤ at_) (h2 : at_ ≤ 9223372036854775807) :
    Calls Try.prog 16 #[v, .int .i64 at_, .int .i64 x] w fun e w' => ∃ u, e = .returned (.agg #[.int .i64 (loadC zs at_ [x]), u]) ∧ Nums w' w.heap.size u (loadZ zs at_ [x]) ∧ Below w.heap.size w w' := by
  have HZ : Hid (Nums w b v zs) := h
  have hl := fun v u b b2 w h hy => impl_load v zs at_ u [x] b b2 w h hy h1 h2
  clear h h1 h2
  obtain ⟨a, cap, rfl, _, _, _⟩ := HZ.out.shape
  generalize loadC zs at_ [x] = c at *
  generalize loadZ zs at_ [x] = Z at *
  go_enter Try.func16, Try.ntmps16
  go_wp2_with fail
  refine (hl _ _ b 0 _ (HZ.out.keep (al (al (Below.refl _ _) _) _)) (by have := Nums.lit (w.alloc (.cells #[.int .i64 0, .slice none 0 0] 28)) x 0 (Nat.zero_le _); rw [World.size_alloc] at this; exact this)).mono ?_
  rintro e w2 ⟨u, rfl, nx, bx⟩
  have bx' : Below (w.alloc (.cells #[.int .i64 0, .slice none 0 0] 28)).heap.size (w.alloc (.cells #[.int .i64 0, .slice none 0 0] 28)) w2 := on (al (Below.refl _ _) _) bx
  obtain ⟨c1, z1⟩ := bcell bx'
  have N2 : Hid (Nums w2 _ u Z) := nx
  have B2 : Hid (Below w.heap.size w w2) := on (al (Below.refl _ _) _) bx'
  have hv : Hid (u.ownBlock ≠ some w.heap.size) := fun e => own_not nx _ (.inl (by simp; omega)) e.symm
  have k0 : w2.cell? ⟨w.heap.size, 0, none⟩ = some (.int .i64 0) := cell_keep bx' (cell_new rfl)
  have k1 : w2.cell? ⟨w.heap.size, 1, none⟩ = some (.slice none 0 0) := cell_keep bx' (cell_new rfl)
  obtain ⟨ax, capx, rfl, _, _, _⟩ := nx.shape
  clear nx bx bx' hl
  go_wp2_with fail
  exact bodyPost_ret (v := .agg #[.int .i64 c, .slice ax _ capx]) (by simp [results, Try.results16, go_sem, k0, k1]) rfl
    ⟨_, rfl, ((N2.out.mono (by simp; omega)).put _ _ hv.out).put _ _ hv.out, (B2.out.setCell (by simp) _).setCell (by simp) _⟩
end Go.Proofs.Ytedjnokeknmbaaa
