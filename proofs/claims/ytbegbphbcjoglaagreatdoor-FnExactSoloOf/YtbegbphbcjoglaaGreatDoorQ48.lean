/- Texts of this seat, joined. -/
import Derived.Test.YtbegbphbcjoglaaGreatDoorQ25
import Derived.Test.YtbegbphbcjoglaaGreatDoorQ30
import Derived.Test.YtbegbphbcjoglaaGreatDoorQ40
import Derived.Test.YtbegbphbcjoglaaGreatDoorQ42
import Derived.Test.YtbegbphbcjoglaaGreatDoorQ46
namespace Go.Proofs.YtbegbphbcjoglaaGreatDoor
open Go.RowKit
set_option linter.unusedVariables false

def soC (P : Plc) (gu : Int) (im inp : List Int) : Int := if askV P gu = 0 then (if (P.own.getD gu.toNat []).length * 8 < im.length then 8 else (newR inp).1) else askV P gu
def soH (P : Plc) (gu : Int) (im inp : List Int) : Ht := if soC P gu im inp = 0 then (newR inp).2 else voidH
def soP (P : Plc) (gu : Int) (im inp : List Int) : List (Int × Int) := if soC P gu im inp = 0 then aloL (pforL (P.own.getD gu.toNat []) P.lanes gu 8) else []
def soZ (P : Plc) (gu : Int) (im inp : List Int) : List Int := if soC P gu im inp = 0 then (putN (List.replicate 64 0) 0 im im.length) else []
theorem so_not (P : Plc) (gu : Int) (im inp : List Int) (h : soC P gu im inp ≠ 0) : soH P gu im inp = voidH ∧ soP P gu im inp = [] ∧ soZ P gu im inp = [] :=
  ⟨by rw [soH, if_neg h], by rw [soP, if_neg h], by rw [soZ, if_neg h]⟩
theorem so_yes (P : Plc) (gu : Int) (im inp : List Int) (h : soC P gu im inp = 0) : soH P gu im inp = (newR inp).2 ∧ soP P gu im inp = aloL (pforL (P.own.getD gu.toNat []) P.lanes gu 8) ∧ soZ P gu im inp = (putN (List.replicate 64 0) 0 im im.length) :=
  ⟨by rw [soH, if_pos h], by rw [soP, if_pos h], by rw [soZ, if_pos h]⟩
theorem ask_ok {P : Plc} {gu : Int} (h : askV P gu = 0) : pfV P = 0 ∧ ∃ g : Nat, gu = (g : Int) ∧ g < P.own.length := by
  have hp := ask_pf P gu h
  rw [askV, if_pos hp] at h
  cases e : isG P.own.length gu with
  | false => rw [e, if_pos rfl] at h; cases h
  | true =>
    obtain ⟨h1, h2⟩ := (isG_iff _ _).1 e
    obtain ⟨g, rfl⟩ := Int.eq_ofNat_of_zero_le h1
    exact ⟨hp, g, rfl, by omega⟩
theorem standZ : standC (List.replicate 11 0) = true := by decide
theorem newR_ok {zs : List Int} (h : (newR zs).1 = 0) : (newR zs).2 = newV zs ∧ Hok (newV zs) := by
  unfold newR at h ⊢
  split at h
  · cases h
  rename_i h1
  rw [if_neg h1]
  cases e : zs.all isW with
  | false => rw [e] at h; cases h
  | true =>
    refine ⟨rfl, ⟨rfl, rfl, rfl, by show (List.replicate 16 (0 : Int)).all isW = true; decide, by show isW 0 = true; decide, by show (List.replicate 11 (0 : Int)).all isW = true; decide, e, rfl, by show zs.length ≤ 40; omega, by show (0 : Nat) ≤ 40; decide, by show (0 : Int) ≤ 0; decide, by show (0 : Int) ≤ 1000000000; decide, standZ⟩⟩
theorem so_len (P : Plc) (gu : Int) (im inp : List Int) (h : soC P gu im inp = 0) : pfV P = 0 ∧ ∃ g : Nat, gu = (g : Int) ∧ g < P.own.length ∧ im.length ≤ (P.own.getD g []).length * 8 ∧ im.length ≤ 40 ∧ (newR inp).1 = 0 := by
  unfold soC at h
  split at h
  case isFalse k => exact absurd h k
  rename_i k
  obtain ⟨hp, g, rfl, hg⟩ := ask_ok k
  rw [Int.toNat_natCast] at h
  split at h
  · cases h
  rename_i k2
  have := pf_own P hp g hg
  exact ⟨hp, g, rfl, hg, by omega, by omega, h⟩
theorem so_small (P : Plc) (gu : Int) (im inp : List Int) : totS (soH P gu im inp) (soP P gu im inp) (soZ P gu im inp) ≤ 2000 := by
  by_cases h : soC P gu im inp = 0
  · have hu := so_yes P gu im inp h
    obtain ⟨_, g, rfl, _, _, h40, hn⟩ := so_len P gu im inp h
    obtain ⟨e, ok⟩ := newR_ok hn
    rw [hu.1, hu.2.1, hu.2.2, e]
    have h1 := aloL_len (pforL (P.own.getD (g : Int).toNat []) P.lanes (g : Int) 8)
    have h2 := putN_length (List.replicate 64 0) 0 im im.length
    rw [List.length_replicate] at h2
    have := ok.r16
    have := ok.c11
    have := ok.i40
    have := ok.o40
    unfold totS totH
    omega
  · have hu := so_not P gu im inp h
    rw [hu.1, hu.2.1, hu.2.2]
    simp [totS, totH, voidH]
end Go.Proofs.YtbegbphbcjoglaaGreatDoor
