/- Chapter 13, values: strangers to a guest, pages that it may change, the gap between its turns. -/
import Derived.Test.YtnhebeehpkecfaaGreatDoorRcv
import Derived.Test.YtnhebeehpkecfaaGreatDoorPfv
namespace Go.Proofs.YtnhebeehpkecfaaGreatDoor
open Go.RowKit
set_option linter.unusedVariables false

/-- Strangers to a guest, of the first n guests. -/
def strB (P : Plc) (g x : Int) : Bool := !decide (x = g) && !decide (x ∈ rch P g)
def strL (P : Plc) (g : Int) (n : Nat) : List Int := ((List.range n).map fun (i : Nat) => (i : Int)).filter (strB P g)
theorem str_succ (P : Plc) (g : Int) (n : Nat) : strL P g (n + 1) = strL P g n ++ (if strB P g n then [(n : Int)] else []) := by
  unfold strL
  rw [List.range_succ, List.map_append, List.filter_append]
  congr 1
  cases h : strB P g n <;> simp [h]
theorem str_lenL (P : Plc) (g : Int) (n : Nat) : (strL P g n).length ≤ n := by
  unfold strL
  refine Nat.le_trans (List.length_filter_le _ _) ?_
  simp
def strZ (P : Plc) (g : Int) : List Int := if askV P g = 0 then strL P g P.own.length else []
theorem str_len (P : Plc) (g : Int) : (strZ P g).length ≤ 8 := by
  unfold strZ
  split
  · rename_i h
    have := str_lenL P g P.own.length
    have := (pf_parts P (ask_pf P g h)).1
    omega
  · simp

/-- The kinds for which a list leads to a page. -/
def kdV (rs : List (Int × Int)) (x : Int) : Int := rs.foldl (fun k r => if r.1 = x then bits BinOp.or .i64 k r.2 else k) 0
def kdB (rs : List (Int × Int)) (x : Int) : Bool := rs.any fun r => decide (r.1 = x)
theorem kd_take (rs : List (Int × Int)) (x : Int) (j : Nat) (h : j < rs.length) : kdV (rs.take (j + 1)) x = if (rs.getD j (0, 0)).1 = x then bits BinOp.or .i64 (kdV (rs.take j) x) (rs.getD j (0, 0)).2 else kdV (rs.take j) x := by
  unfold kdV
  rw [List.take_succ_eq_append_getElem h, List.foldl_append, List.getD, List.getElem?_eq_getElem h]
  rfl
theorem kdb_take (rs : List (Int × Int)) (x : Int) (j : Nat) (h : j < rs.length) : kdB (rs.take (j + 1)) x = (kdB (rs.take j) x || decide ((rs.getD j (0, 0)).1 = x)) := by
  unfold kdB
  rw [List.take_succ_eq_append_getElem h, List.any_append, List.getD, List.getElem?_eq_getElem h]
  simp
/-- May be written to, by its kinds. -/
def wrB (k : Int) : Bool := !decide (bits BinOp.and .i64 k 2 = 0)
theorem bits_small : ∀ a b : Fin 8, (0 ≤ bits BinOp.or .i64 (a.val : Int) (b.val : Int) ∧ bits BinOp.or .i64 (a.val : Int) (b.val : Int) < 8) ∧ wrB (bits BinOp.or .i64 (a.val : Int) (b.val : Int)) = (wrB a.val || wrB b.val) := by decide +kernel
def KOk (k : Int) : Prop := 0 ≤ k ∧ k < 8
theorem bits_or (a b : Int) (ha : KOk a) (hb : KOk b) : KOk (bits BinOp.or .i64 a b) ∧ wrB (bits BinOp.or .i64 a b) = (wrB a || wrB b) := by
  obtain ⟨x, rfl⟩ := Int.eq_ofNat_of_zero_le ha.1
  obtain ⟨y, rfl⟩ := Int.eq_ofNat_of_zero_le hb.1
  exact bits_small ⟨x, by have := ha.2; omega⟩ ⟨y, by have := hb.2; omega⟩
theorem wr0 : wrB 0 = false := by decide +kernel
theorem kd_fold (x : Int) : ∀ (rs : List (Int × Int)) (k : Int), KOk k → (∀ r ∈ rs, KOk r.2) →
    wrB (rs.foldl (fun k r => if r.1 = x then bits BinOp.or .i64 k r.2 else k) k) = (wrB k || rs.any fun r => decide (r.1 = x) && wrB r.2) := by
  intro rs
  induction rs with
  | nil => intro k _ _; simp
  | cons r t ih =>
    intro k hk hr
    rw [List.foldl_cons, List.any_cons]
    have h2 : ∀ r ∈ t, KOk r.2 := fun y hy => hr y (List.mem_cons_of_mem _ hy)
    by_cases h : r.1 = x
    · have hb := bits_or k r.2 hk (hr r List.mem_cons_self)
      rw [if_pos h, ih _ hb.1 h2, hb.2, decide_eq_true h]
      simp [Bool.or_assoc]
    · rw [if_neg h, ih _ hk h2, decide_eq_false h]
      simp
theorem kd_wr (rs : List (Int × Int)) (x : Int) (h : ∀ r ∈ rs, KOk r.2) : wrB (kdV rs x) = rs.any fun r => decide (r.1 = x) && wrB r.2 := by
  unfold kdV
  rw [kd_fold x rs 0 ⟨by decide, by decide⟩ h, wr0]
  rfl

/-- The pages below n that may be written to, and the model's: those of the list, put in their order. -/
def mayL (rs : List (Int × Int)) (n : Nat) : List Int := ((List.range n).map fun (i : Nat) => (i : Int)).filter fun x => wrB (kdV rs x)
theorem may_succ (rs : List (Int × Int)) (n : Nat) : mayL rs (n + 1) = mayL rs n ++ (if wrB (kdV rs n) then [(n : Int)] else []) := by
  unfold mayL
  rw [List.range_succ, List.map_append, List.filter_append]
  congr 1
  cases h : wrB (kdV rs n) <;> simp [h]
theorem may_lenL (rs : List (Int × Int)) (n : Nat) : (mayL rs n).length ≤ n := by
  unfold mayL
  refine Nat.le_trans (List.length_filter_le _ _) ?_
  simp
theorem may_mem (rs : List (Int × Int)) (n : Nat) (x : Int) : x ∈ mayL rs n ↔ (0 ≤ x ∧ x < n) ∧ wrB (kdV rs x) = true := by
  unfold mayL
  rw [List.mem_filter, List.mem_map]
  constructor
  · rintro ⟨⟨i, hi, rfl⟩, h⟩
    rw [List.mem_range] at hi
    exact ⟨⟨by omega, by omega⟩, h⟩
  · rintro ⟨⟨h1, h2⟩, h⟩
    refine ⟨⟨x.toNat, List.mem_range.2 (by omega), by omega⟩, h⟩
theorem may_up (rs : List (Int × Int)) : ∀ n, Up (mayL rs n) := by
  intro n
  induction n with
  | zero => exact List.Pairwise.nil
  | succ n ih =>
    rw [may_succ]
    split
    · unfold Up at *
      rw [List.pairwise_append]
      refine ⟨ih, by simp, fun a ha b hb => ?_⟩
      rw [List.mem_singleton] at hb
      have := ((may_mem rs n a).1 ha).1.2
      omega
    · rw [List.append_nil]; exact ih
def mayF (z : List Int) : List (Int × Int) → List Int
  | [] => z
  | r :: t => mayF (if wrB r.2 then riseV z r.1 else z) t
theorem mayF_step (z : List Int) (rs : List (Int × Int)) (j : Nat) (h : j < rs.length) : mayF z (rs.drop j) = mayF (if wrB (rs.getD j (0, 0)).2 then riseV z (rs.getD j (0, 0)).1 else z) (rs.drop (j + 1)) := by
  rw [List.drop_eq_getElem_cons h, mayF, List.getD, List.getElem?_eq_getElem h]
  rfl
theorem mayF_up : ∀ (rs : List (Int × Int)) (z : List Int), Up z → Up (mayF z rs) := by
  intro rs
  induction rs with
  | nil => intro z h; exact h
  | cons r t ih => intro z h; rw [mayF]; refine ih _ ?_; split; exact riseV_up _ _ h; exact h
theorem mayF_mem (x : Int) : ∀ (rs : List (Int × Int)) (z : List Int), x ∈ mayF z rs ↔ (x ∈ z ∨ ∃ r ∈ rs, r.1 = x ∧ wrB r.2 = true) := by
  intro rs
  induction rs with
  | nil => intro z; simp [mayF]
  | cons r t ih =>
    intro z
    rw [mayF, ih]
    split
    · rename_i h
      rw [riseV_mem]
      simp only [List.mem_cons, exists_eq_or_imp]
      constructor
      · rintro ((rfl | h1) | h1)
        · exact .inr (.inl ⟨rfl, h⟩)
        · exact .inl h1
        · exact .inr (.inr h1)
      · rintro (h1 | ⟨rfl, _⟩ | h1)
        · exact .inl (.inr h1)
        · exact .inl (.inl rfl)
        · exact .inr h1
    · rename_i h
      simp only [List.mem_cons, exists_eq_or_imp]
      constructor
      · rintro (h1 | h1)
        · exact .inl h1
        · exact .inr (.inr h1)
      · rintro (h1 | ⟨_, h2⟩ | h1)
        · exact .inl h1
        · exact absurd h2 h
        · exact .inr h1
theorem may_eq (rs : List (Int × Int)) (h : ∀ r ∈ rs, KOk r.2 ∧ (wrB r.2 = true → 0 ≤ r.1 ∧ r.1 < 24)) : mayF [] rs = mayL rs 24 := by
  refine up_ext _ _ (mayF_up _ _ List.Pairwise.nil) (may_up _ _) (fun x => ?_)
  rw [mayF_mem, may_mem, kd_wr rs x (fun r hr => (h r hr).1)]
  simp only [List.not_mem_nil, false_or, List.any_eq_true, Bool.and_eq_true, decide_eq_true_eq]
  constructor
  · rintro ⟨r, hr, rfl, hw⟩
    have := (h r hr).2 hw
    exact ⟨⟨this.1, by omega⟩, r, hr, rfl, hw⟩
  · rintro ⟨_, r, hr, h1, h2⟩
    exact ⟨r, hr, h1, h2⟩
theorem kok (k : Nat) (h : k < 8) : KOk (k : Int) := ⟨by omega, by omega⟩
theorem lanes_pg (own : List (List Int)) : ∀ (ls ahead : List Ln), lanesV own ahead ls = 0 → ∀ l ∈ ls, 0 ≤ l.pg ∧ l.pg < 24 := by
  intro ls
  induction ls with
  | nil => intro ahead _ l hl; cases hl
  | cons a t ih =>
    intro ahead h l hl
    rw [lanesV] at h
    split at h
    · rename_i h1
      rcases List.mem_cons.1 hl with rfl | hl
      · rw [laneV] at h1
        split at h1
        · split at h1
          · cases h1
          · rename_i h2
            simp only [not_or, Bool.not_eq_false] at h2
            have := h2.1
            simp [pgOk] at this
            omega
        · rename_i h2
          exact absurd h1 h2
      · exact ih _ h l hl
    · rename_i h1
      exact absurd h h1
theorem first_ok (g k : Int) (ls : List Ln) (h : ∀ l ∈ ls, 0 ≤ l.pg ∧ l.pg < 24) : KOk (firstM g k ls).2 ∧ (wrB (firstM g k ls).2 = true → 0 ≤ (firstM g k ls).1 ∧ (firstM g k ls).1 < 24) := by
  induction ls with
  | nil => rw [firstM]; exact ⟨kok 0 (by omega), fun h => by simp [wr0] at h⟩
  | cons l t ih =>
    have hl := h l List.mem_cons_self
    have i := ih fun x hx => h x (List.mem_cons_of_mem _ hx)
    rw [firstM]
    unfold matchL
    split
    · rename_i x hx
      split at hx
      · cases hx; exact ⟨kok 3 (by omega), fun _ => hl⟩
      · split at hx
        · cases hx; exact ⟨kok 1 (by omega), fun _ => hl⟩
        · cases hx
    · exact i
theorem pfor_ok (P : Plc) (g : Int) (h : askV P g = 0) : ∀ r ∈ pforL (P.own.getD g.toNat []) P.lanes g 8, KOk r.2 ∧ (wrB r.2 = true → 0 ≤ r.1 ∧ r.1 < 24) := by
  intro r hr
  have hp := ask_pf P g h
  have hg := ask_guest P g h
  unfold pforL at hr
  obtain ⟨k, hk, rfl⟩ := List.mem_map.1 hr
  rw [List.mem_range] at hk
  unfold pageV
  split
  · rename_i hl
    have := (pf_own P hp g.toNat (by omega)).2.2 _ (getD_mem (P.own.getD g.toNat []) 0 k hl)
    exact ⟨kok 7 (by omega), fun _ => ⟨this.1, by omega⟩⟩
  · exact first_ok g k _ (lanes_pg _ _ _ (pf_parts P hp).2.2.1)
def mayZ (P : Plc) (g : Int) : List Int := if askV P g = 0 then mayL (pforL (P.own.getD g.toNat []) P.lanes g 8) 24 else []
theorem may_len (P : Plc) (g : Int) : (mayZ P g).length ≤ 24 := by
  unfold mayZ
  split
  · exact may_lenL _ _
  · simp

/-- The plan gone over twice: the longest gap so far, and the one under way. -/
def gst (g : Int) (s x : Int × Int) : Int × Int := if x.1 = g then (s.1, 0) else (max s.1 (s.2 + x.2), s.2 + x.2)
def gN (P : Plc) (g : Int) (n : Nat) : Int × Int := ((P.plan ++ P.plan).take n).foldl (gst g) (0, 0)
theorem gN_zero (P : Plc) (g : Int) : gN P g 0 = (0, 0) := by simp [gN]
theorem two_get (zs : List (Int × Int)) (n : Nat) (h : n < 2 * zs.length) : (zs ++ zs)[n]? = some (zs.getD (n % zs.length) (0, 0)) := by
  by_cases h1 : n < zs.length
  · rw [List.getElem?_append_left h1, Nat.mod_eq_of_lt h1, List.getD, List.getElem?_eq_getElem h1]; rfl
  · have h2 : n - zs.length < zs.length := by omega
    rw [List.getElem?_append_right (by omega), Nat.mod_eq_sub_mod (by omega), Nat.mod_eq_of_lt h2, List.getD, List.getElem?_eq_getElem h2]; rfl
theorem gN_succ (P : Plc) (g : Int) (n : Nat) (h : n < 2 * P.plan.length) : gN P g (n + 1) = gst g (gN P g n) (P.plan.getD (n % P.plan.length) (0, 0)) := by
  unfold gN
  rw [List.take_add_one, two_get _ n h, List.foldl_append]
  rfl
theorem gN_bound (P : Plc) (hp : pfV P = 0) (g : Int) : ∀ n, n ≤ 2 * P.plan.length → (0 ≤ (gN P g n).1 ∧ (gN P g n).1 ≤ 50 * n) ∧ (0 ≤ (gN P g n).2 ∧ (gN P g n).2 ≤ 50 * n) := by
  intro n
  induction n with
  | zero => intro _; rw [gN_zero]; simp
  | succ n ih =>
    intro h
    have i := ih (by omega)
    have hl : 0 < P.plan.length := by omega
    have st := (pf_plan P hp).2 (n % P.plan.length) (Nat.mod_lt _ hl)
    rw [gN_succ P g n (by omega)]
    unfold gst
    split
    · exact ⟨⟨by omega, by omega⟩, by simp; omega⟩
    · refine ⟨⟨?_, ?_⟩, ?_, ?_⟩ <;> simp only <;> omega
def gpR (P : Plc) (g : Int) : Int × Int := if askV P g = 0 then (if frV g P.plan = 0 then (10, 0) else (0, (gN P g (2 * P.plan.length)).1)) else (askV P g, 0)
end Go.Proofs.YtnhebeehpkecfaaGreatDoor
