/- Whose turn it is, as a value. -/
import Derived.Test.YtifepfjcbapliaaDoorPol
namespace Go.Proofs.YtifepfjcbapliaaDoor
open Go.RowKit
set_option linter.unusedVariables false

/-- The slot whose turn it is a steps into a round, and what is left of it. -/
def tnV : List (Int × Int) → Int → Int × Int
  | [], _ => (0, 0)
  | s :: t, a => if s.2 ≤ a then ((tnV t (a - s.2)).1 + 1, (tnV t (a - s.2)).2) else (0, s.2 - a)
theorem rd_nonneg (zs : List (Int × Int)) (h : ∀ s ∈ zs, 1 ≤ s.2) : 0 ≤ rdV zs := by
  induction zs with
  | nil => simp [rdV]
  | cons s t ih =>
    rw [rdV]
    have h1 := h s (by simp)
    have h2 := ih fun x hx => h x (by simp [hx])
    omega
theorem tn_at (zs : List (Int × Int)) : ∀ (j : Nat) (a : Int), (∀ s ∈ zs, 1 ≤ s.2) → j < zs.length → rdV (zs.take j) ≤ a → a < rdV (zs.take (j + 1)) → tnV zs a = ((j : Int), rdV (zs.take (j + 1)) - a) := by
  induction zs with
  | nil => intro j a _ h; simp at h
  | cons s t ih =>
    intro j a hp hj h0 h1
    cases j with
    | zero =>
      simp [rdV] at h1
      rw [tnV, if_neg (by omega)]
      simp [rdV]
    | succ j =>
      simp only [List.take_succ_cons, rdV] at h0 h1 ⊢
      have n := rd_nonneg (t.take j) fun x hx => hp x (by simp [List.mem_of_mem_take hx])
      rw [tnV, if_pos (by omega), ih j (a - s.2) (fun x hx => hp x (by simp [hx])) (by simpa using hj) (by omega) (by omega)]
      exact Prod.ext (by simp) (by simp; omega)
def ckOk (c : Int) : Bool := decide (0 ≤ c) && decide (c ≤ 1000000)
def ckV (P : Plc) (c : Int) : Int := if pfV P = 0 then (if ckOk c = false then 3 else 0) else pfV P
theorem ck_pf {P : Plc} {c : Int} (h : ckV P c = 0) : pfV P = 0 ∧ 0 ≤ c ∧ c ≤ 1000000 := by
  unfold ckV at h
  split at h
  · rename_i h1
    split at h
    · cases h
    · rename_i h2
      have h3 : ckOk c = true := by simpa using h2
      simp [ckOk] at h3
      exact ⟨h1, h3⟩
  · rename_i h1
    exact absurd h h1
theorem pf_plan1 (P : Plc) (h : pfV P = 0) : 1 ≤ P.plan.length := by
  have h6 : g6V P = 0 := (or_zero (or_zero (or_zero h).2).2).2
  unfold g6V at h6
  split at h6
  · cases h6
  · rename_i h1; omega
theorem pf_each (P : Plc) (h : pfV P = 0) : ∀ s ∈ P.plan, 1 ≤ s.2 ∧ s.2 ≤ 50 := by
  have h6 : g6V P = 0 := (or_zero (or_zero (or_zero h).2).2).2
  unfold g6V at h6
  split at h6
  · cases h6
  · exact slots_ok _ _ h6
theorem rd_pos (P : Plc) (h : pfV P = 0) : 1 ≤ rdV P.plan ∧ rdV P.plan ≤ 400 := by
  have h1 := pf_plan1 P h
  have h2 := (rd_bound P h P.plan.length (Nat.le_refl _)).2
  have h8 := (pf_plan P h).1
  rw [List.take_length] at h2
  refine ⟨?_, by omega⟩
  have e := pf_each P h
  cases hp : P.plan with
  | nil => rw [hp] at h1; simp at h1
  | cons s t =>
    rw [hp] at e
    rw [rdV]
    have h3 := e s (by simp)
    have h4 := rd_nonneg t fun x hx => (e x (by simp [hx])).1
    omega
/-- What TurnAt answers: the code, the slot, its guest, what is left of it. -/
def tS (P : Plc) (c : Int) : Int × Int := tnV P.plan (c % rdV P.plan)
def tG (P : Plc) (c : Int) : Int := (P.plan.getD (tS P c).1.toNat (0, 0)).1
theorem tS_at (P : Plc) (h : pfV P = 0) (c : Int) (j : Nat) (hj : j < P.plan.length) (h0 : rdV (P.plan.take j) ≤ c % rdV P.plan) (h1 : c % rdV P.plan < rdV (P.plan.take (j + 1))) : tS P c = ((j : Int), rdV (P.plan.take (j + 1)) - c % rdV P.plan) :=
  tn_at P.plan j _ (fun s hs => (pf_each P h s hs).1) hj h0 h1
/-- The steps of a guest within the first r of a round, and what of r is left behind. -/
def tbF (g : Int) (zs : List (Int × Int)) (r : Int) : Int × Int := zs.foldl (fun a s => (a.1 + (if s.1 = g then min s.2 a.2 else 0), a.2 - min s.2 a.2)) (0, r)
theorem tb_take (g : Int) (zs : List (Int × Int)) (r : Int) (j : Nat) (h : j < zs.length) : tbF g (zs.take (j + 1)) r = ((tbF g (zs.take j) r).1 + (if (zs.getD j (0, 0)).1 = g then min (zs.getD j (0, 0)).2 (tbF g (zs.take j) r).2 else 0), (tbF g (zs.take j) r).2 - min (zs.getD j (0, 0)).2 (tbF g (zs.take j) r).2) := by
  unfold tbF
  rw [take_succ_getD zs (0, 0) j h, List.foldl_append]
  rfl
theorem tb_bound (g : Int) (zs : List (Int × Int)) (r : Int) (hr : 0 ≤ r) (hp : ∀ s ∈ zs, 1 ≤ s.2) : ∀ j, j ≤ zs.length → 0 ≤ (tbF g (zs.take j) r).1 ∧ 0 ≤ (tbF g (zs.take j) r).2 ∧ (tbF g (zs.take j) r).1 + (tbF g (zs.take j) r).2 ≤ r := by
  intro j
  induction j with
  | zero => intro _; simp [tbF]; exact hr
  | succ j ih =>
    intro hj
    have h1 := ih (by omega)
    have h2 := hp _ (getD_mem zs (0, 0) j (by omega))
    rw [tb_take g zs r j (by omega)]
    simp only
    generalize tbF g (zs.take j) r = q at *
    generalize zs.getD j (0, 0) = s at *
    have m : min s.2 q.2 ≤ q.2 := Int.min_le_right _ _
    have m2 : 0 ≤ min s.2 q.2 := by rw [Int.min_def]; split <;> omega
    split <;> omega
theorem tb_still (g : Int) (zs : List (Int × Int)) (r : Int) (hp : ∀ s ∈ zs, 1 ≤ s.2) (j : Nat) (h0 : (tbF g (zs.take j) r).2 = 0) : ∀ k, j + k ≤ zs.length → tbF g (zs.take (j + k)) r = tbF g (zs.take j) r := by
  intro k
  induction k with
  | zero => intro _; rfl
  | succ k ih =>
    intro hk
    have h1 := ih (by omega)
    have h2 := hp _ (getD_mem zs (0, 0) (j + k) (by omega))
    rw [← Nat.add_assoc, tb_take g zs r (j + k) (by omega), h1, h0]
    have m : min (zs.getD (j + k) (0, 0)).2 0 = 0 := by rw [Int.min_def]; split <;> omega
    rw [m]
    refine Prod.ext ?_ ?_
    · simp
    · simp [h0]
/-- The steps of a guest among the first c. -/
def tbV (P : Plc) (c g : Int) : Int := c / rdV P.plan * frV g P.plan + (tbF g P.plan (c % rdV P.plan)).1
def tbC (P : Plc) (c g : Int) : Int := if ckV P c = 0 then (if isG P.own.length g = false then 4 else 0) else ckV P c
def tbR (P : Plc) (c g : Int) : Int × Int := if tbC P c g = 0 then (0, tbV P c g) else (tbC P c g, 0)
def tR (P : Plc) (c : Int) : Int × Int × Int × Int := if ckV P c = 0 then (0, (tS P c).1, tG P c, (tS P c).2) else (ckV P c, 0, 0, 0)
theorem fr_le (P : Plc) (h : pfV P = 0) (g : Int) : 0 ≤ frV g P.plan ∧ frV g P.plan ≤ 400 := by
  have h2 := fr_bound P h g P.plan.length (Nat.le_refl _)
  have h8 := (pf_plan P h).1
  rw [List.take_length] at h2
  omega
theorem div_le {c r : Int} (h0 : 0 ≤ c) (h1 : c ≤ 1000000) (hr : 1 ≤ r) : 0 ≤ c / r ∧ c / r ≤ 1000000 := by
  refine ⟨Int.ediv_nonneg h0 (by omega), ?_⟩
  have : c / r ≤ c := Int.ediv_le_self _ h0
  omega
theorem mul_le {a b : Int} (h0 : 0 ≤ a) (h1 : a ≤ 1000000) (k0 : 0 ≤ b) (k1 : b ≤ 400) : 0 ≤ a * b ∧ a * b ≤ 400000000 := by
  refine ⟨Int.mul_nonneg h0 k0, ?_⟩
  have h : a * b ≤ 1000000 * 400 := Int.mul_le_mul h1 k1 k0 (by omega)
  omega
end Go.Proofs.YtifepfjcbapliaaDoor
