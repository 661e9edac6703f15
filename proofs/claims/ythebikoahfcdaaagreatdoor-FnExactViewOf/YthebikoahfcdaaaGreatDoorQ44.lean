/- Texts of this seat, joined. -/
import Derived.Test.YthebikoahfcdaaaGreatDoorQ08
import Derived.Test.YthebikoahfcdaaaGreatDoorQ31
import Derived.Test.YthebikoahfcdaaaGreatDoorQ41
namespace Go.Proofs.YthebikoahfcdaaaGreatDoor
open Go.RowKit
set_option linter.unusedVariables false

def hartsV : List Ht → Int
  | [] => 0
  | h :: t => if hfV h = 0 then hartsV t else hfV h
theorem harts_step (hs : List Ht) (j : Nat) (h : j < hs.length) : hartsV (hs.drop j) = if hfV (hs.getD j voidH) = 0 then hartsV (hs.drop (j + 1)) else hfV (hs.getD j voidH) := by
  rw [drop_cons_getD hs voidH j h, hartsV]
def hoV (X : Hst) : Int :=
  if pfV X.pol = 0 then
    if wholeB X.mem = true ∧ X.harts.length = X.pol.own.length then
      if hartsV X.harts = 0 then
        if ckOk X.clock = true then (if (tS X.pol X.clock).1 = X.slot ∧ (tS X.pol X.clock).2 = X.left then 0 else 1) else 3
      else hartsV X.harts
    else 1
  else pfV X.pol
theorem ho_ok {X : Hst} (h : hoV X = 0) : pfV X.pol = 0 ∧ 0 ≤ X.clock ∧ X.clock ≤ 1000000 := by
  unfold hoV at h
  split at h
  · rename_i h1
    split at h
    · split at h
      · split at h
        · rename_i h4
          unfold ckOk at h4
          simp at h4
          exact ⟨h1, h4⟩
        · cases h
      · rename_i h3
        exact absurd h h3
    · cases h
  · rename_i h1
    exact absurd h h1
/-- A host that is read: the policy, the memory, the machines. -/
structure Oj (w : World) (base : Nat) (a0 : Option Addr) (n0 c0 : Nat) (a1 : Option Addr) (n1 c1 : Nat) (a2 : Option Addr) (n2 c2 : Nat) (a3 : Option Addr) (n3 c3 : Nat) (m h : Value) (X : Hst) : Prop where
  pol : Pl w a0 n0 c0 a1 n1 c1 a2 n2 c2 a3 n3 c3 X.pol
  mem : Nums w base m X.mem
  harts : Hl w base h X.harts
theorem Oj.keep {w w' : World} {base : Nat} {a0 : Option Addr} {n0 c0 : Nat} {a1 : Option Addr} {n1 c1 : Nat} {a2 : Option Addr} {n2 c2 : Nat} {a3 : Option Addr} {n3 c3 : Nat} {m h : Value} {X : Hst} (d : Oj w base a0 n0 c0 a1 n1 c1 a2 n2 c2 a3 n3 c3 m h X) (b : Below w.heap.size w w') : Oj w' base a0 n0 c0 a1 n1 c1 a2 n2 c2 a3 n3 c3 m h X :=
  ⟨d.pol.stay b, d.mem.keep b, d.harts.keep b⟩
end Go.Proofs.YthebikoahfcdaaaGreatDoor
