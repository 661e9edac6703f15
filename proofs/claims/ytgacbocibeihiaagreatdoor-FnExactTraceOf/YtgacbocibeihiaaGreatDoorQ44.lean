/- Texts of this seat, joined. -/
import Derived.Test.YtgacbocibeihiaaGreatDoorQ16
import Derived.Test.YtgacbocibeihiaaGreatDoorQ35
import Derived.Test.YtgacbocibeihiaaGreatDoorQ43
namespace Go.Proofs.YtgacbocibeihiaaGreatDoor
open Go.RowKit
set_option linter.unusedVariables false

/-- The slot at r steps into a round is one of the plan, and what is left of it is of its own. -/
theorem tn_in (zs : List (Int × Int)) (hp : ∀ s ∈ zs, 1 ≤ s.2) : ∀ r : Int, 0 ≤ r → r < rdV zs →
    0 ≤ (tnV zs r).1 ∧ (tnV zs r).1 < zs.length ∧ 1 ≤ (tnV zs r).2 ∧ (tnV zs r).2 ≤ (zs.getD (tnV zs r).1.toNat (0, 0)).2 := by
  induction zs with
  | nil => intro r h0 h1; simp [rdV] at h1; omega
  | cons s t ih =>
    intro r h0 h1
    rw [rdV] at h1
    rw [tnV]
    split
    · rename_i hs
      obtain ⟨k0, k1, k2, k3⟩ := ih (fun x hx => hp x (by simp [hx])) (r - s.2) (by omega) (by omega)
      have e : ((tnV t (r - s.2)).1 + 1).toNat = (tnV t (r - s.2)).1.toNat + 1 := by omega
      refine ⟨by simp only; omega, by simp only [List.length_cons]; omega, k2, ?_⟩
      simp only [e, List.getD_cons_succ]
      exact k3
    · rename_i hs
      refine ⟨by simp, by simp only [List.length_cons]; omega, by simp only; omega, ?_⟩
      simp
      omega
theorem tS_in (P : Plc) (h : pfV P = 0) (c : Int) : 0 ≤ (tS P c).1 ∧ (tS P c).1 < P.plan.length ∧ 1 ≤ (tS P c).2 ∧ (tS P c).2 ≤ (P.plan.getD (tS P c).1.toNat (0, 0)).2 :=
  tn_in P.plan (fun s hs => (pf_each P h s hs).1) _ (Int.emod_nonneg c (by have := (rd_pos P h).1; omega)) (Int.emod_lt_of_pos c (by have := (rd_pos P h).1; omega))
end Go.Proofs.YtgacbocibeihiaaGreatDoor
namespace Go.Proofs.YtgacbocibeihiaaGreatDoor
open Go.RowKit
set_option linter.unusedVariables false

def hartsV : List Ht → Int
  | [] => 0
  | h :: t => if hfV h = 0 then hartsV t else hfV h
theorem harts_step (hs : List Ht) (j : Nat) (h : j < hs.length) : hartsV (hs.drop j) = if hfV (hs.getD j voidH) = 0 then hartsV (hs.drop (j + 1)) else hfV (hs.getD j voidH) := by
  rw [drop_cons_getD hs voidH j h, hartsV]
def hoV (X : Hst) : Int :=
  if pfV X.pol = 0 then
    if wholeB X.mem = true ∧ X.harts.length = X.pol.own.length then
      if hartsV X.harts = 0 then
        if ckOk X.clock = true then (if (tS X.pol X.clock).1 = X.slot ∧ (tS X.pol X.clock).2 = X.left then 0 else 1) else 3
      else hartsV X.harts
    else 1
  else pfV X.pol
theorem ho_ok {X : Hst} (h : hoV X = 0) : pfV X.pol = 0 ∧ 0 ≤ X.clock ∧ X.clock ≤ 1000000 := by
  unfold hoV at h
  split at h
  · rename_i h1
    split at h
    · split at h
      · split at h
        · rename_i h4
          unfold ckOk at h4
          simp at h4
          exact ⟨h1, h4⟩
        · cases h
      · rename_i h3
        exact absurd h h3
    · cases h
  · rename_i h1
    exact absurd h h1
/-- A host that is read: the policy, the memory, the machines. -/
structure Oj (w : World) (base : Nat) (a0 : Option Addr) (n0 c0 : Nat) (a1 : Option Addr) (n1 c1 : Nat) (a2 : Option Addr) (n2 c2 : Nat) (a3 : Option Addr) (n3 c3 : Nat) (m h : Value) (X : Hst) : Prop where
  pol : Pl w a0 n0 c0 a1 n1 c1 a2 n2 c2 a3 n3 c3 X.pol
  mem : Nums w base m X.mem
  harts : Hl w base h X.harts
theorem Oj.keep {w w' : World} {base : Nat} {a0 : Option Addr} {n0 c0 : Nat} {a1 : Option Addr} {n1 c1 : Nat} {a2 : Option Addr} {n2 c2 : Nat} {a3 : Option Addr} {n3 c3 : Nat} {m h : Value} {X : Hst} (d : Oj w base a0 n0 c0 a1 n1 c1 a2 n2 c2 a3 n3 c3 m h X) (b : Below w.heap.size w w') : Oj w' base a0 n0 c0 a1 n1 c1 a2 n2 c2 a3 n3 c3 m h X :=
  ⟨d.pol.stay b, d.mem.keep b, d.harts.keep b⟩
end Go.Proofs.YtgacbocibeihiaaGreatDoor
