/- The device page as values: what the law FnDevices asks. -/
import Derived.Test.YteaccakodaidpaaHdv
import Derived.Test.YteaccakodaidpaaHvf
namespace Go.Proofs.Yteaccakodaidpaa
open Go.RowKit
set_option linter.unusedVariables false

/-- A machine whose queue has the words from the j-th on left. -/
def atJ (G : Ht) (all : List Int) (j : Nat) : Ht := { G with inn := all.drop j }
theorem feedV_ok {H : Ht} {ys : List Int} (K : Hok H) (ha : ys.all isW = true) (hl : H.inn.length + ys.length ≤ 40) : Hok (feedV H ys) :=
  ⟨K.r16, K.c11, K.r0, K.rw, K.pw, K.cw, by simp only [feedV, List.all_append, K.iw, ha, Bool.and_self], K.ow, by simp only [feedV, List.length_append]; omega, K.o40, K.d0, K.d9, K.st⟩
theorem all_drop {zs : List Int} (h : zs.all isW = true) (j : Nat) : (zs.drop j).all isW = true := by
  rw [List.all_eq_true] at h ⊢
  exact fun x hx => h x (List.mem_of_mem_drop hx)
theorem atJ_ok {G : Ht} {all : List Int} (K : Hok G) (ha : all.all isW = true) (hl : all.length ≤ 40) (j : Nat) : Hok (atJ G all j) :=
  ⟨K.r16, K.c11, K.r0, K.rw, K.pw, K.cw, all_drop ha j, K.ow, by simp only [atJ, List.length_drop]; omega, K.o40, K.d0, K.d9, K.st⟩
/-- What is known where words were fed. -/
structure Fdf (H : Ht) (ys : List Int) (G : Ht) : Prop where
  g0 : G = atJ G (H.inn ++ ys) 0
  n40 : (H.inn ++ ys).length ≤ 40
  okJ : ∀ j, Hok (atJ G (H.inn ++ ys) j)
theorem fdf {H : Ht} {ys : List Int} (h : (feedR H ys).1 = 0) : Fdf H ys (feedR H ys).2 := by
  unfold feedR at h ⊢
  split at h
  next h1 =>
    rw [if_pos h1]
    split at h
    next h2 =>
      rw [if_pos h2]
      split at h
      next h3 =>
        rw [if_pos h3]
        have K := hok_of h1
        have KF := feedV_ok K h2 h3
        have e : (H.inn ++ ys).all isW = true := KF.iw
        refine ⟨rfl, by rw [List.length_append]; exact h3, fun j => atJ_ok KF e (by rw [List.length_append]; exact h3) j⟩
      next => exact absurd h (by decide)
    next => exact absurd h (by decide)
  next h1 => exact absurd h h1
theorem drR_one {G : Ht} {all : List Int} {j : Nat} (K : Hok (atJ G all j)) : drR (atJ G all j) 1 = ⟨0, all.getD j 0, -1, atJ G all (j + 1)⟩ := by
  unfold drR
  rw [if_pos (hfV_ok K), if_pos (by decide)]
  have e1 : drV (atJ G all j) 1 = all.getD j 0 := by
    show (all.drop j).headD 0 = all.getD j 0
    rw [List.headD_eq_head?_getD, List.head?_drop, List.getD_eq_getElem?_getD]
  have e2 : drH (atJ G all j) 1 = atJ G all (j + 1) := by
    show ({ atJ G all j with inn := (all.drop j).tail } : Ht) = _
    rw [List.tail_drop]
    rfl
  rw [e1, e2]
theorem drR_six {G : Ht} {all : List Int} {j : Nat} (K : Hok (atJ G all j)) : drR (atJ G all j) 6 = ⟨0, ((all.length - j : Nat) : Int), -1, atJ G all j⟩ := by
  unfold drR
  rw [if_pos (hfV_ok K), if_pos (by decide)]
  have e1 : drV (atJ G all j) 6 = ((all.length - j : Nat) : Int) := by
    show (((all.drop j).length : Nat) : Int) = _
    rw [List.length_drop]
  rw [e1]
  rfl
theorem dwR_out {H : Ht} (K : Hok H) : dwR H 0 77 = ⟨0, 0, -1, outW H 77⟩ := by
  unfold dwR
  rw [if_pos (hfV_ok K), if_pos (by decide)]
  rfl
theorem dwR_ring {H : Ht} (K : Hok H) : dwR H 5 3 = ⟨0, 0, 3, H⟩ := by
  unfold dwR
  rw [if_pos (hfV_ok K), if_pos (by decide)]
  rfl
theorem ringR_ok {H : Ht} (K : Hok H) : ringR H = (0, ringV H) := by
  unfold ringR
  rw [if_pos (hfV_ok K)]
theorem ringV_ok {H : Ht} (K : Hok H) : Hok (ringV H) := ⟨K.r16, K.c11, K.r0, K.rw, K.pw, K.cw, K.iw, K.ow, K.i40, K.o40, K.d0, K.d9, K.st⟩
theorem pend_ring (H : Ht) (K : Hok H) : pendR (ringV H) = (0, pendV (ringV H)) ∧ 2 ≤ pendV (ringV H) := by
  refine ⟨by unfold pendR; rw [if_pos (hfV_ok (ringV_ok K))], ?_⟩
  unfold pendV
  have : (ringV H).rung = true := rfl
  rw [this, if_pos rfl]
  split <;> split <;> omega
theorem Hm.ne_vb {w : World} {b m : Nat} {r c i o : Value} {H : Ht} {cs : Array Value} {t : TypeId} (h : Hm w b r c i o H) (hv : Vb w m cs t) (ht : t ≠ 2) (k : Nat) (e : Own4 r c i o k) : k ≠ m := by
  rintro rfl
  rcases e with e | e | e | e
  · exact h.r.ne_vb hv ht e
  · exact h.c.ne_vb hv ht e
  · exact h.i.ne_vb hv ht e
  · exact h.o.ne_vb hv ht e
theorem last_get (zs : List Int) (x : Int) : (zs ++ [x]).getD zs.length 0 = x := by
  rw [List.getD_eq_getElem?_getD, List.getElem?_append_right (Nat.le_refl _), Nat.sub_self]
  rfl
end Go.Proofs.Yteaccakodaidpaa
