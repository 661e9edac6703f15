/- Texts of this seat, joined. -/
import Derived.Test.YtggejbphdadckaaGreatDoorQ39
import Derived.Test.YtggejbphdadckaaGreatDoorQ44
namespace Go.Proofs.YtggejbphdadckaaGreatDoor
open Go.RowKit
set_option linter.unusedVariables false

def fhC (X : Hst) (g : Int) (ys : List Int) : Int := if hoV X = 0 then (if isG X.pol.own.length g = true then (feedR (X.harts.getD g.toNat voidH) ys).1 else 4) else hoV X
def fhX (X : Hst) (g : Int) (ys : List Int) : Hst := if fhC X g ys = 0 then { X with harts := X.harts.set g.toNat (feedR (X.harts.getD g.toNat voidH) ys).2 } else voidX
theorem fh_not (X : Hst) (g : Int) (ys : List Int) (h : fhC X g ys ≠ 0) : fhX X g ys = voidX := by rw [fhX, if_neg h]
theorem fh_host (X : Hst) (g : Int) (ys : List Int) (h : hoV X ≠ 0) : fhC X g ys = hoV X := by rw [fhC, if_neg h]
theorem fh_guest (X : Hst) (g : Int) (ys : List Int) (h : hoV X = 0) (hg : isG X.pol.own.length g = false) : fhC X g ys = 4 := by rw [fhC, if_pos h, if_neg (by rw [hg]; decide)]
theorem fh_fed (X : Hst) (g : Int) (ys : List Int) (h : hoV X = 0) (hg : isG X.pol.own.length g = true) : fhC X g ys = (feedR (X.harts.getD g.toNat voidH) ys).1 := by rw [fhC, if_pos h, if_pos hg]
theorem fh_yes (X : Hst) (g : Int) (ys : List Int) (h : fhC X g ys = 0) : fhX X g ys = { X with harts := X.harts.set g.toNat (feedR (X.harts.getD g.toNat voidH) ys).2 } := by rw [fhX, if_pos h]

end Go.Proofs.YtggejbphdadckaaGreatDoor
