/- Texts of this seat, joined. -/
import Derived.RowKit
import Derived.Laws.BitsAllLaws
namespace Go.Proofs.YtdmlejfopmimfaaGreatDoor
open Go.RowKit

def wd (n : Int) : Int := n % 4294967296
def addV (a b : Int) : Int := (a + b) % 4294967296
def mulV (a b : Int) : Int := a % 4294967296 * (b % 4294967296) % 4294967296
def sgn (a : Int) : Int := wrap64 (wrap32 (a % 4294967296))
def divV (a b : Int) : Int := if b % 4294967296 = 0 then 4294967295 else wrap64 ((sgn a).tdiv (sgn b)) % 4294967296
def remV (a b : Int) : Int := if b % 4294967296 = 0 then a % 4294967296 else (sgn a).tmod (sgn b) % 4294967296
theorem mulV_eq (a b : Int) : mulV a b = a * b % 4294967296 := by unfold mulV; rw [← Int.mul_emod]
theorem wd_in (a : Int) : 0 ≤ wd a ∧ wd a ≤ 4294967295 := by unfold wd; omega
theorem sgn_mod (a : Int) : sgn a % 4294967296 = a % 4294967296 := by unfold sgn wrap64 wrap32; omega
theorem wrap64_mod (n : Int) : wrap64 n % 4294967296 = n % 4294967296 := by unfold wrap64; omega
theorem back (a b : Int) : addV (mulV (divV a b) b) (remV a b) = wd a := by
  rw [mulV_eq]
  unfold addV wd
  rw [Int.emod_add_emod]
  by_cases h : b % 4294967296 = 0
  · have e1 : remV a b = a % 4294967296 := by unfold remV; rw [if_pos h]
    have e2 : divV a b = 4294967295 := by unfold divV; rw [if_pos h]
    rw [e1, e2, Int.add_emod_emod]
    omega
  · have e1 : remV a b = (sgn a).tmod (sgn b) % 4294967296 := by unfold remV; rw [if_neg h]
    have e2 : divV a b = wrap64 ((sgn a).tdiv (sgn b)) % 4294967296 := by unfold divV; rw [if_neg h]
    rw [e1, e2, wrap64_mod, Int.add_emod_emod, Int.add_emod, Int.mul_emod, Int.emod_emod_of_dvd _ (Int.dvd_refl _), ← sgn_mod b, ← Int.mul_emod, ← Int.add_emod, Int.tdiv_mul_add_tmod, sgn_mod]

end Go.Proofs.YtdmlejfopmimfaaGreatDoor
