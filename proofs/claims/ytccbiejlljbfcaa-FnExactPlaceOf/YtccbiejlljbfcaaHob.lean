/- What the functions on a machine answer, as values; stores of answers. -/
import Derived.Test.YtccbiejlljbfcaaHge
import Derived.Test.YtccbiejlljbfcaaHrr
namespace Go.Proofs.Ytccbiejlljbfcaa
open Go.RowKit
set_option linter.unusedVariables false

def getR (H : Ht) (k : Int) : Int × Int := if hfV H = 0 then (if (decide (0 ≤ k) && decide (k ≤ 10)) = true then (0, getV H k) else (3, 0)) else (hfV H, 0)
def pendR (H : Ht) : Int × Int := if hfV H = 0 then (0, pendV H) else (hfV H, 0)
def dueR (H : Ht) : Int × Int := if hfV H = 0 then (if dueV H < 0 then (4, 0) else (0, dueV H)) else (hfV H, 0)
def setR (H : Ht) (k x : Int) : Int × Ht := if hfV H = 0 then (if (decide (0 ≤ k) && decide (k ≤ 10)) = true then (0, setV H k x) else (3, voidH)) else (hfV H, voidH)
def trapR (H : Ht) (k x : Int) : Int × Ht := if hfV H = 0 then (if ((decide (0 ≤ k) && decide (k ≤ 31)) && isW x) = true then (0, trapV H k x) else (3, voidH)) else (hfV H, voidH)
def backR (H : Ht) : Int × Ht := if hfV H = 0 then (0, backV H) else (hfV H, voidH)
theorem setR_tot (H : Ht) (k x : Int) : totH (setR H k x).2 ≤ 1000 := by
  unfold setR
  split
  next h =>
    have K := hok_of h
    split
    · have := K.r16; have := K.c11; have := K.i40; have := K.o40
      simp only [totH, setV, List.length_set]; omega
    · simp [totH, voidH]
  next => simp [totH, voidH]
theorem trapR_tot (H : Ht) (k x : Int) : totH (trapR H k x).2 ≤ 1000 := by
  unfold trapR
  split
  next h =>
    have K := hok_of h
    split
    · have := K.r16; have := K.c11; have := K.i40; have := K.o40
      simp only [totH, trapV, List.length_set]; omega
    · simp [totH, voidH]
  next => simp [totH, voidH]
theorem backR_tot (H : Ht) : totH (backR H).2 ≤ 1000 := by
  unfold backR
  split
  next h =>
    have K := hok_of h
    have := K.r16; have := K.c11; have := K.i40; have := K.o40
    simp only [totH, backV, List.length_set]; omega
  next => simp [totH, voidH]
theorem two {v : World} {q : Nat} {t : TypeId} {z0 z1 : Value} (h : Vb v q #[z0, z1] t) (u0 u1 : Value) :
    Vb ((v.setCell ⟨q, 0, none⟩ u0).setCell ⟨q, 1, none⟩ u1) q #[u0, u1] t ∧ Mq (fun k => k = q) v ((v.setCell ⟨q, 0, none⟩ u0).setCell ⟨q, 1, none⟩ u1) := by
  have h0 : Vb (v.setCell ⟨q, 0, none⟩ u0) q #[u0, z1] t := h.set 0 u0
  exact ⟨h0.set 1 u1, ((Mq.refl (fun k => k = q) v).set ⟨q, 0, none⟩ u0 rfl).set ⟨q, 1, none⟩ u1 rfl⟩
theorem eq_intRes (a b : Int) (w : World) :
    Calls Try.prog 24 #[.agg #[.int .i64 a, .int .i64 b], .agg #[.int .i64 a, .int .i64 b]] w fun e w' => e = .returned (.bool true) ∧ Below w.heap.size w w' := by
  go_enter Try.func24, Try.ntmps24
  go_wp2_with fail
  go_ret
  exact ⟨rfl, al (al (Below.refl _ _) _) _⟩
theorem mca_store (H : Ht) (xa : Option Addr) (xn xk : Nat) (ya : Option Addr) (yn yk : Nat) (w : World) : (storeCells ⟨w.heap.size, 0, none⟩ (mca H (.slice xa xn xk) (.slice ya yn yk)).toList 0).run Try.prog (w.alloc (.cells #[.int .i64 0, .int .i64 0, .int .i64 0, .int .i64 0, .int .i64 0, .int .i64 0, .int .i64 0, .int .i64 0, .int .i64 0, .int .i64 0, .int .i64 0, .int .i64 0, .int .i64 0, .int .i64 0, .int .i64 0, .int .i64 0, .int .i64 0, .int .i64 0, .int .i64 0, .int .i64 0, .int .i64 0, .int .i64 0, .int .i64 0, .int .i64 0, .int .i64 0, .int .i64 0, .int .i64 0, .int .i64 0, .bool false, .bool false, .bool false, .int .i64 0, .slice none 0 0, .slice none 0 0] 73)) = .ok () (w.alloc (.cells (mca H (.slice xa xn xk) (.slice ya yn yk)) 73)) :=
  run_storeCells_new (P := Try.prog) w 73 #[.int .i64 0, .int .i64 0, .int .i64 0, .int .i64 0, .int .i64 0, .int .i64 0, .int .i64 0, .int .i64 0, .int .i64 0, .int .i64 0, .int .i64 0, .int .i64 0, .int .i64 0, .int .i64 0, .int .i64 0, .int .i64 0, .int .i64 0, .int .i64 0, .int .i64 0, .int .i64 0, .int .i64 0, .int .i64 0, .int .i64 0, .int .i64 0, .int .i64 0, .int .i64 0, .int .i64 0, .int .i64 0, .bool false, .bool false, .bool false, .int .i64 0, .slice none 0 0, .slice none 0 0] (mca H (.slice xa xn xk) (.slice ya yn yk)) (by kernel_rfl) rfl (mca_one _ _ _ rfl rfl)
theorem void_hm (w : World) (base : Nat) : Hm w base (.slice none 0 0) (.slice none 0 0) (.slice none 0 0) (.slice none 0 0) voidH := ⟨Nums.nil _ _, Nums.nil _ _, Nums.nil _ _, Nums.nil _ _⟩
theorem void_ha : Ha (.slice none 0 0) (.slice none 0 0) (.slice none 0 0) (.slice none 0 0) := ⟨.inl rfl, .inl rfl, .inl rfl, .inl rfl, .inl rfl, .inl rfl⟩
end Go.Proofs.Ytccbiejlljbfcaa
