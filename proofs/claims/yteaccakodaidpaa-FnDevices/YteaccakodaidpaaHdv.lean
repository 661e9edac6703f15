/- The device page as values: what is read and written there, words fed, machines rung. -/
import Derived.Test.YteaccakodaidpaaHob
import Derived.Test.YteaccakodaidpaaHst
import Derived.Test.YteaccakodaidpaaHdq
namespace Go.Proofs.Yteaccakodaidpaa
open Go.RowKit
set_option linter.unusedVariables false

theorem twelve {v : World} {q : Nat} {t : TypeId} {z0 z1 z2 z3 z4 z5 z6 z7 z8 z9 z10 z11 : Value} (h : Vb v q #[z0, z1, z2, z3, z4, z5, z6, z7, z8, z9, z10, z11] t) (u0 u1 u2 u3 u4 u5 u6 u7 u8 u9 u10 u11 : Value) :
    Vb ((((((((((((v.setCell ⟨q, 0, none⟩ u0).setCell ⟨q, 1, none⟩ u1).setCell ⟨q, 2, none⟩ u2).setCell ⟨q, 3, none⟩ u3).setCell ⟨q, 4, none⟩ u4).setCell ⟨q, 5, none⟩ u5).setCell ⟨q, 6, none⟩ u6).setCell ⟨q, 7, none⟩ u7).setCell ⟨q, 8, none⟩ u8).setCell ⟨q, 9, none⟩ u9).setCell ⟨q, 10, none⟩ u10).setCell ⟨q, 11, none⟩ u11) q #[u0, u1, u2, u3, u4, u5, u6, u7, u8, u9, u10, u11] t ∧ Mq (fun k => k = q) v ((((((((((((v.setCell ⟨q, 0, none⟩ u0).setCell ⟨q, 1, none⟩ u1).setCell ⟨q, 2, none⟩ u2).setCell ⟨q, 3, none⟩ u3).setCell ⟨q, 4, none⟩ u4).setCell ⟨q, 5, none⟩ u5).setCell ⟨q, 6, none⟩ u6).setCell ⟨q, 7, none⟩ u7).setCell ⟨q, 8, none⟩ u8).setCell ⟨q, 9, none⟩ u9).setCell ⟨q, 10, none⟩ u10).setCell ⟨q, 11, none⟩ u11) := by
  have h0 : Vb (v.setCell ⟨q, 0, none⟩ u0) q #[u0, z1, z2, z3, z4, z5, z6, z7, z8, z9, z10, z11] t := h.set 0 u0
  have h1 : Vb ((v.setCell ⟨q, 0, none⟩ u0).setCell ⟨q, 1, none⟩ u1) q #[u0, u1, z2, z3, z4, z5, z6, z7, z8, z9, z10, z11] t := h0.set 1 u1
  have h2 : Vb (((v.setCell ⟨q, 0, none⟩ u0).setCell ⟨q, 1, none⟩ u1).setCell ⟨q, 2, none⟩ u2) q #[u0, u1, u2, z3, z4, z5, z6, z7, z8, z9, z10, z11] t := h1.set 2 u2
  have h3 : Vb ((((v.setCell ⟨q, 0, none⟩ u0).setCell ⟨q, 1, none⟩ u1).setCell ⟨q, 2, none⟩ u2).setCell ⟨q, 3, none⟩ u3) q #[u0, u1, u2, u3, z4, z5, z6, z7, z8, z9, z10, z11] t := h2.set 3 u3
  have h4 : Vb (((((v.setCell ⟨q, 0, none⟩ u0).setCell ⟨q, 1, none⟩ u1).setCell ⟨q, 2, none⟩ u2).setCell ⟨q, 3, none⟩ u3).setCell ⟨q, 4, none⟩ u4) q #[u0, u1, u2, u3, u4, z5, z6, z7, z8, z9, z10, z11] t := h3.set 4 u4
  have h5 : Vb ((((((v.setCell ⟨q, 0, none⟩ u0).setCell ⟨q, 1, none⟩ u1).setCell ⟨q, 2, none⟩ u2).setCell ⟨q, 3, none⟩ u3).setCell ⟨q, 4, none⟩ u4).setCell ⟨q, 5, none⟩ u5) q #[u0, u1, u2, u3, u4, u5, z6, z7, z8, z9, z10, z11] t := h4.set 5 u5
  have h6 : Vb (((((((v.setCell ⟨q, 0, none⟩ u0).setCell ⟨q, 1, none⟩ u1).setCell ⟨q, 2, none⟩ u2).setCell ⟨q, 3, none⟩ u3).setCell ⟨q, 4, none⟩ u4).setCell ⟨q, 5, none⟩ u5).setCell ⟨q, 6, none⟩ u6) q #[u0, u1, u2, u3, u4, u5, u6, z7, z8, z9, z10, z11] t := h5.set 6 u6
  have h7 : Vb ((((((((v.setCell ⟨q, 0, none⟩ u0).setCell ⟨q, 1, none⟩ u1).setCell ⟨q, 2, none⟩ u2).setCell ⟨q, 3, none⟩ u3).setCell ⟨q, 4, none⟩ u4).setCell ⟨q, 5, none⟩ u5).setCell ⟨q, 6, none⟩ u6).setCell ⟨q, 7, none⟩ u7) q #[u0, u1, u2, u3, u4, u5, u6, u7, z8, z9, z10, z11] t := h6.set 7 u7
  have h8 : Vb (((((((((v.setCell ⟨q, 0, none⟩ u0).setCell ⟨q, 1, none⟩ u1).setCell ⟨q, 2, none⟩ u2).setCell ⟨q, 3, none⟩ u3).setCell ⟨q, 4, none⟩ u4).setCell ⟨q, 5, none⟩ u5).setCell ⟨q, 6, none⟩ u6).setCell ⟨q, 7, none⟩ u7).setCell ⟨q, 8, none⟩ u8) q #[u0, u1, u2, u3, u4, u5, u6, u7, u8, z9, z10, z11] t := h7.set 8 u8
  have h9 : Vb ((((((((((v.setCell ⟨q, 0, none⟩ u0).setCell ⟨q, 1, none⟩ u1).setCell ⟨q, 2, none⟩ u2).setCell ⟨q, 3, none⟩ u3).setCell ⟨q, 4, none⟩ u4).setCell ⟨q, 5, none⟩ u5).setCell ⟨q, 6, none⟩ u6).setCell ⟨q, 7, none⟩ u7).setCell ⟨q, 8, none⟩ u8).setCell ⟨q, 9, none⟩ u9) q #[u0, u1, u2, u3, u4, u5, u6, u7, u8, u9, z10, z11] t := h8.set 9 u9
  have h10 : Vb (((((((((((v.setCell ⟨q, 0, none⟩ u0).setCell ⟨q, 1, none⟩ u1).setCell ⟨q, 2, none⟩ u2).setCell ⟨q, 3, none⟩ u3).setCell ⟨q, 4, none⟩ u4).setCell ⟨q, 5, none⟩ u5).setCell ⟨q, 6, none⟩ u6).setCell ⟨q, 7, none⟩ u7).setCell ⟨q, 8, none⟩ u8).setCell ⟨q, 9, none⟩ u9).setCell ⟨q, 10, none⟩ u10) q #[u0, u1, u2, u3, u4, u5, u6, u7, u8, u9, u10, z11] t := h9.set 10 u10
  have h11 : Vb ((((((((((((v.setCell ⟨q, 0, none⟩ u0).setCell ⟨q, 1, none⟩ u1).setCell ⟨q, 2, none⟩ u2).setCell ⟨q, 3, none⟩ u3).setCell ⟨q, 4, none⟩ u4).setCell ⟨q, 5, none⟩ u5).setCell ⟨q, 6, none⟩ u6).setCell ⟨q, 7, none⟩ u7).setCell ⟨q, 8, none⟩ u8).setCell ⟨q, 9, none⟩ u9).setCell ⟨q, 10, none⟩ u10).setCell ⟨q, 11, none⟩ u11) q #[u0, u1, u2, u3, u4, u5, u6, u7, u8, u9, u10, u11] t := h10.set 11 u11
  exact ⟨h11, (((((((((((((Mq.refl (fun k => k = q) v).set ⟨q, 0, none⟩ u0 rfl).set ⟨q, 1, none⟩ u1 rfl).set ⟨q, 2, none⟩ u2 rfl).set ⟨q, 3, none⟩ u3 rfl).set ⟨q, 4, none⟩ u4 rfl).set ⟨q, 5, none⟩ u5 rfl).set ⟨q, 6, none⟩ u6 rfl).set ⟨q, 7, none⟩ u7 rfl).set ⟨q, 8, none⟩ u8 rfl).set ⟨q, 9, none⟩ u9 rfl).set ⟨q, 10, none⟩ u10 rfl).set ⟨q, 11, none⟩ u11 rfl)⟩

/-- An answer of the device page. -/
structure Da where
  code : Int
  val : Int
  ring : Int
  h : Ht
def drV (H : Ht) (k : Int) : Int := if k = 1 then H.inn.headD 0 else if k = 2 then H.done else if k = 3 then H.csr.getD 9 0 else if k = 4 then pendV H else if k = 6 then H.inn.length else 0
def drH (H : Ht) (k : Int) : Ht := if k = 1 then { H with inn := H.inn.tail } else H
def setW (H : Ht) (k x : Int) : Ht := stH H k.toNat (standV k x) (H.rung && !(decide (k = 6) && decide (2 ≤ x % 4)))
theorem setW_wd (H : Ht) (k x : Int) : setV H k x = setW H k (wd x) := rfl
def outW (H : Ht) (x : Int) : Ht := if H.out.length < 40 then { H with out := H.out ++ [x] } else H
def dwW (H : Ht) (k x : Int) : Ht := if k = 0 then outW H x else if k = 3 then setW H 9 x else if k = 4 then setW H 6 x else H
def rgW (k x : Int) : Int := if k = 5 then x else -1
def feedV (H : Ht) (ys : List Int) : Ht := { H with inn := H.inn ++ ys }
def ringV (H : Ht) : Ht := { H with rung := true }
def drR (H : Ht) (k : Int) : Da := if hfV H = 0 then (if (decide (0 ≤ k) && decide (k ≤ 7)) = true then ⟨0, drV H k, -1, drH H k⟩ else ⟨3, 0, 0, voidH⟩) else ⟨hfV H, 0, 0, voidH⟩
def dwR (H : Ht) (k x : Int) : Da := if hfV H = 0 then (if (decide (0 ≤ k) && decide (k ≤ 7)) = true then ⟨0, 0, rgW k (wd x), dwW H k (wd x)⟩ else ⟨3, 0, 0, voidH⟩) else ⟨hfV H, 0, 0, voidH⟩
def feedR (H : Ht) (ys : List Int) : Int × Ht := if hfV H = 0 then (if ys.all isW = true then (if H.inn.length + ys.length ≤ 40 then (0, feedV H ys) else (2, voidH)) else (3, voidH)) else (hfV H, voidH)
def ringR (H : Ht) : Int × Ht := if hfV H = 0 then (0, ringV H) else (hfV H, voidH)

theorem drH_lens {H : Ht} (K : Hok H) (k : Int) : (drH H k).regs.length = 16 ∧ (drH H k).csr.length = 11 ∧ (drH H k).inn.length ≤ 1000 ∧ (drH H k).out.length ≤ 1000 := by
  have := K.r16; have := K.c11; have := K.i40; have := K.o40
  unfold drH
  split
  · refine ⟨K.r16, K.c11, ?_, by show H.out.length ≤ 1000; omega⟩
    show H.inn.tail.length ≤ 1000
    rw [List.length_tail]; omega
  · exact ⟨by omega, by omega, by omega, by omega⟩
theorem dwW_lens {H : Ht} (K : Hok H) (k x : Int) : (dwW H k x).regs.length = 16 ∧ (dwW H k x).csr.length = 11 ∧ (dwW H k x).inn.length ≤ 1000 ∧ (dwW H k x).out.length ≤ 1000 := by
  have := K.r16; have := K.c11; have := K.i40; have := K.o40
  unfold dwW outW
  split
  · split
    · refine ⟨K.r16, K.c11, by show H.inn.length ≤ 1000; omega, ?_⟩
      show (H.out ++ [x]).length ≤ 1000
      rw [List.length_append]; simp; omega
    · exact ⟨by omega, by omega, by omega, by omega⟩
  · split
    · refine ⟨by show H.regs.length = 16; omega, ?_, by show H.inn.length ≤ 1000; omega, by show H.out.length ≤ 1000; omega⟩
      show (H.csr.set _ _).length = 11
      rw [List.length_set]; omega
    · split
      · refine ⟨by show H.regs.length = 16; omega, ?_, by show H.inn.length ≤ 1000; omega, by show H.out.length ≤ 1000; omega⟩
        show (H.csr.set _ _).length = 11
        rw [List.length_set]; omega
      · exact ⟨by omega, by omega, by omega, by omega⟩
theorem feedV_lens {H : Ht} (K : Hok H) {ys : List Int} (h : H.inn.length + ys.length ≤ 40) : (feedV H ys).regs.length = 16 ∧ (feedV H ys).csr.length = 11 ∧ (feedV H ys).inn.length ≤ 1000 ∧ (feedV H ys).out.length ≤ 1000 := by
  have := K.o40
  refine ⟨K.r16, K.c11, ?_, by show H.out.length ≤ 1000; omega⟩
  show (H.inn ++ ys).length ≤ 1000
  rw [List.length_append]; omega
theorem ringV_lens {H : Ht} (K : Hok H) : (ringV H).regs.length = 16 ∧ (ringV H).csr.length = 11 ∧ (ringV H).inn.length ≤ 1000 ∧ (ringV H).out.length ≤ 1000 := by
  have := K.i40; have := K.o40
  exact ⟨K.r16, K.c11, by show H.inn.length ≤ 1000; omega, by show H.out.length ≤ 1000; omega⟩
theorem drR_tot (H : Ht) (k : Int) : totH (drR H k).h ≤ 4000 := by
  unfold drR
  split
  next h =>
    split
    · have := drH_lens (hok_of h) k
      simp only [totH]; omega
    · simp [totH, voidH]
  next => simp [totH, voidH]
theorem dwR_tot (H : Ht) (k x : Int) : totH (dwR H k x).h ≤ 4000 := by
  unfold dwR
  split
  next h =>
    split
    · have := dwW_lens (hok_of h) k (wd x)
      simp only [totH]; omega
    · simp [totH, voidH]
  next => simp [totH, voidH]
theorem feedR_tot (H : Ht) (ys : List Int) : totH (feedR H ys).2 ≤ 4000 := by
  unfold feedR
  split
  next h =>
    have K := hok_of h
    have := K.r16; have := K.c11; have := K.i40; have := K.o40
    split
    · split
      · simp only [totH, feedV, List.length_append]; omega
      · simp [totH, voidH]
    · simp [totH, voidH]
  next => simp [totH, voidH]
theorem ringR_tot (H : Ht) : totH (ringR H).2 ≤ 4000 := by
  unfold ringR
  split
  next h =>
    have K := hok_of h
    have := K.r16; have := K.c11; have := K.i40; have := K.o40
    simp only [totH, ringV]; omega
  next => simp [totH, voidH]
theorem mca_in (H : Ht) (i o u : Value) (zs : List Int) : (mca H i o).setIfInBounds 32 u = mca { H with inn := zs } u o := rfl
theorem mca_out (H : Ht) (i o u : Value) (zs : List Int) : (mca H i o).setIfInBounds 33 u = mca { H with out := zs } i u := rfl
theorem void_hr (w : World) : Hr w (.slice none 0 0) (.slice none 0 0) (.slice none 0 0) (.slice none 0 0) voidH := (void_hm w 0).hr
/-- The list behind a list's first number. -/
theorem rv_tail {w : World} {base g n cap : Nat} {zs : List Int} (h : Nums w base (.slice (some ⟨g, 0, none⟩) n cap) zs) (hz : 0 < n) : Rv w (.slice (some ⟨g, 1, none⟩) (n - 1) (cap - 1)) zs.tail := by
  have hn := h.len
  have hc := h.lens
  refine ⟨some ⟨g, 1, none⟩, cap - 1, by rw [List.length_tail, ← hn], .inr ⟨_, rfl, by rw [List.length_tail]; omega, by omega, rfl, fun i hi => ?_⟩⟩
  rw [List.length_tail] at hi
  have := h.cell hn (1 + i) (by omega)
  rw [Addr.add_mid, this]
  cases zs with
  | nil => simp at hi
  | cons x t =>
    rw [Nat.add_comm 1 i]
    rfl
theorem rv_tail1 {w : World} {base g n cap : Nat} {zs : List Int} (h : Nums w base (.slice (some ⟨g, 0, none⟩) n cap) zs) (hz : 0 < n) (h1 : cap = 1) : Rv w (.slice (some ⟨g, 0, none⟩) (n - 1) 0) zs.tail := by
  have hn := h.len
  have hc := h.lens
  have e : zs.tail = [] := List.eq_nil_of_length_eq_zero (by rw [List.length_tail]; omega)
  rw [e, show n - 1 = 0 by omega]
  exact ⟨_, 0, rfl, .inr ⟨_, rfl, Nat.le_refl _, Nat.zero_le _, rfl, fun i hi => absurd hi (Nat.not_lt_zero _)⟩⟩
theorem head_get (zs : List Int) : zs[0]?.getD 0 = zs.headD 0 := by cases zs <;> rfl
theorem head_get2 (zs : List Int) : zs[0]?.getD 0 = zs.head?.getD 0 := by cases zs <;> rfl
end Go.Proofs.Yteaccakodaidpaa
