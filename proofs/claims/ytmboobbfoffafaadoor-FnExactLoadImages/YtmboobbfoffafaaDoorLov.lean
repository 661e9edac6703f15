/- Images laid into a memory, as values. -/
import Derived.Test.YtmboobbfoffafaaDoorPfv
import Derived.Test.YtmboobbfoffafaaDoorCut
import Derived.Test.YtmboobbfoffafaaDoorWords
namespace Go.Proofs.YtmboobbfoffafaaDoor
open Go.RowKit
set_option linter.unusedVariables false

theorem spec_wrap7 (n : Int) (w : World) : Calls Tryd.prog 52 #[.int .i64 n] w fun e w' => e = .returned (.int .i64 (wd n)) ∧ w' = w := by
  go_enter Tryd.func52, Tryd.ntmps52
  go_wp2
  go_ret
  exact ⟨rfl, rfl⟩

/-- One word of an image, laid into a memory. -/
def putW (ow img m : List Int) (i : Nat) : List Int := m.set ((ow.getD (i / 8) 0).toNat * 8 + i % 8) (wd (img.getD i 0))
def layM (ow img m : List Int) : Nat → List Int
  | 0 => m
  | i + 1 => putW ow img (layM ow img m i) i
theorem layM_len (ow img m : List Int) : ∀ i, (layM ow img m i).length = m.length
  | 0 => rfl
  | i + 1 => by rw [layM, putW, List.length_set, layM_len ow img m i]
/-- The first g images laid into a memory. -/
def allM (own iss : List (List Int)) (m : List Int) : Nat → List Int
  | 0 => m
  | g + 1 => layM (own.getD g []) (iss.getD g []) (allM own iss m g) (iss.getD g []).length
theorem allM_len (own iss : List (List Int)) (m : List Int) : ∀ g, (allM own iss m g).length = m.length
  | 0 => rfl
  | g + 1 => by rw [allM, layM_len, allM_len own iss m g]
def badAt (own iss : List (List Int)) (j : Nat) : Bool := decide ((own.getD j []).length * 8 < (iss.getD j []).length)
def sizesV (own iss : List (List Int)) : Nat → Int
  | 0 => 0
  | j + 1 => if sizesV own iss j = 0 then (if badAt own iss j = true then 8 else 0) else 8
theorem sizes_bad (own iss : List (List Int)) (j : Nat) (h : badAt own iss j = true) : ∀ n, j < n → sizesV own iss n = 8
  | 0, hn => absurd hn (Nat.not_lt_zero _)
  | n + 1, hn => by
    rw [sizesV]
    by_cases e : j = n
    · subst e
      rw [if_pos h]
      split <;> rfl
    · rw [sizes_bad own iss j h n (by omega)]
      rfl
theorem sizes_good (own iss : List (List Int)) : ∀ n, (∀ j, j < n → badAt own iss j = false) → sizesV own iss n = 0
  | 0, _ => rfl
  | n + 1, h => by
    rw [sizesV, sizes_good own iss n (fun j hj => h j (by omega)), if_pos rfl, h n (by omega)]
    rfl
theorem sizes_all (own iss : List (List Int)) : ∀ n, sizesV own iss n = 0 → ∀ j, j < n → badAt own iss j = false := by
  intro n h j hj
  cases hb : badAt own iss j with
  | false => rfl
  | true => rw [sizes_bad own iss j hb n hj] at h; cases h
def imgC (own iss : List (List Int)) : Int := if iss.length = own.length then sizesV own iss iss.length else 2
def loadC (P : Plc) (iss : List (List Int)) : Int := if pfV P = 0 then imgC P.own iss else pfV P
def loadZ (P : Plc) (iss : List (List Int)) : List Int := if loadC P iss = 0 then allM P.own iss (List.replicate 192 0) iss.length else []
theorem load_len (P : Plc) (iss : List (List Int)) : (loadZ P iss).length ≤ 192 := by
  unfold loadZ
  split
  · rw [allM_len, List.length_replicate]; exact Nat.le_refl _
  · exact Nat.zero_le _
theorem splice_nil (M : List Int) (b : Nat) : splice M b [] = M := by simp [splice]
theorem splice_set (M : List Int) (b : Nat) (x : Int) (xs : List Int) (y : Int) (h : b + (xs.length + 1) ≤ M.length) : (splice M b (x :: xs)).set b y = splice (M.set b y) (b + 1) xs := by
  unfold splice
  rw [List.set_append_right _ _ (by simp; omega), List.length_take, Nat.min_eq_left (by omega), Nat.sub_self, List.cons_append, List.set_cons_zero]
  have h1 : (M.set b y).take (b + 1) = M.take b ++ [y] := by
    rw [List.take_succ_eq_append_getElem (by simp; omega), List.take_set_of_le (Nat.le_refl _), List.getElem_set_self]
  have h2 : (M.set b y).drop (b + 1 + xs.length) = M.drop (b + (x :: xs).length) := by
    rw [List.drop_set_of_lt (by omega)]
    congr 1
    simp
    omega
  rw [h1, h2, List.append_assoc]
  rfl
theorem splice_get (M : List Int) (b : Nat) (x : Int) (xs : List Int) (h : b ≤ M.length) : (splice M b (x :: xs)).getD b 0 = x := by
  unfold splice
  rw [List.getD, List.getElem?_append_right (by rw [List.length_take]; omega), List.length_take, Nat.min_eq_left h, Nat.sub_self]
  rfl
theorem splice_map (M : List Int) (b : Nat) (xs : List Int) : splice (M.map (Value.int .i64)) b (xs.map (Value.int .i64)) = (splice M b xs).map (Value.int .i64) := by
  unfold splice
  rw [List.map_append, List.map_append, List.map_take, List.map_drop, List.length_map]
theorem splice_lenI (M : List Int) (b : Nat) (xs : List Int) (h : b + xs.length ≤ M.length) : (splice M b xs).length = M.length := by
  simp [splice]
  omega
theorem Pags.store {w : World} {base g n cap : Nat} {zs : List Int} (h : Pags w base (.slice (some ⟨g, 0, none⟩) n cap) n zs) (j : Nat) (x : Int) :
    Pags (w.setCell ⟨g, j, none⟩ (.int .i64 x)) base (.slice (some ⟨g, 0, none⟩) n cap) n (zs.set j x) := by
  have h1 := (World.ownsRow.stored h j (.int .i64 x)).1
  unfold Pags
  rw [List.map_set]
  exact h1
theorem Pags.free {w : World} {base g n cap : Nat} {zs : List Int} (h : Pags w base (.slice (some ⟨g, 0, none⟩) n cap) n zs) (i : Nat) : w.frozen? ⟨g, i, none⟩ = false := World.ownsRow.frozenAt h i
/-- A slice of numbers, cut from the front. -/
theorem IsNs.cut {w : World} {a : Option Addr} {n c : Nat} {zs : List Int} (h : IsNs w a n c zs) (k : Nat) (hk : k ≤ n) : ∀ x, a = some x → IsNs w (if c = k then some x else some (x.add k)) (n - k) (c - k) (zs.drop k) := by
  rintro x rfl
  rcases h with ⟨e, _⟩ | ⟨y, e, h1, h2, h3, h4⟩
  · cases e
  · cases e
    by_cases hc : c = k
    · rw [if_pos hc]
      exact .inr ⟨x, rfl, by omega, by omega, by simp; omega, fun i hi => by omega⟩
    · rw [if_neg hc]
      refine .inr ⟨x.add k, rfl, by omega, by omega, by simp; omega, fun i hi => ?_⟩
      rw [Go.Deep.add_add, h4 (k + i) (by omega)]
      simp [List.getD]
end Go.Proofs.YtmboobbfoffafaaDoor
