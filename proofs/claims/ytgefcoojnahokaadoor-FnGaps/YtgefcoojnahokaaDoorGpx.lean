/- Texts of this seat, joined. -/
import Derived.RowKit
import Derived.Laws.BitsAllLaws
import Derived.Test.YtgefcoojnahokaaDoorBase
import Derived.Test.YtgefcoojnahokaaDoorNumb
import Derived.Test.YtgefcoojnahokaaDoorMemr
import Derived.Laws.AppendOwn
import Derived.Test.YtgefcoojnahokaaDoorPol
import Derived.Deep.RegionHeld3
import Derived.Deep.WholeRow
import Derived.Deep.Cut
import Derived.Deep.CutRange
import Derived.Test.YtgefcoojnahokaaDoorRcv
import Derived.Test.YtgefcoojnahokaaDoorPfv
import Derived.Deep.RegionWith
import Derived.Test.YtgefcoojnahokaaDoorDpe
import Derived.Test.YtgefcoojnahokaaDoorWide
namespace Go.Proofs.YtgefcoojnahokaaDoor
open Go.RowKit

def wd (n : Int) : Int := n % 4294967296
def addV (a b : Int) : Int := (a + b) % 4294967296
def mulV (a b : Int) : Int := a % 4294967296 * (b % 4294967296) % 4294967296
def sgn (a : Int) : Int := wrap64 (wrap32 (a % 4294967296))
def divV (a b : Int) : Int := if b % 4294967296 = 0 then 4294967295 else wrap64 ((sgn a).tdiv (sgn b)) % 4294967296
def remV (a b : Int) : Int := if b % 4294967296 = 0 then a % 4294967296 else (sgn a).tmod (sgn b) % 4294967296
def shlV (a k : Int) : Int := a % 4294967296 * 2 ^ (k % 32).toNat % 4294967296
def shrV (a k : Int) : Int := wrap64 (a % 4294967296 / 2 ^ (k % 32).toNat)

theorem mulV_eq (a b : Int) : mulV a b = a * b % 4294967296 := by unfold mulV; rw [← Int.mul_emod]
theorem addV_assoc (a b c : Int) : addV (addV a b) c = addV a (addV b c) := by
  unfold addV; rw [Int.emod_add_emod, Int.add_emod_emod, Int.add_assoc]
theorem addV_comm (a b : Int) : addV a b = addV b a := by unfold addV; rw [Int.add_comm]
theorem mulV_addV (a b c : Int) : mulV a (addV b c) = addV (mulV a b) (mulV a c) := by
  rw [mulV_eq, mulV_eq, mulV_eq]
  unfold addV
  rw [Int.emod_add_emod, Int.add_emod_emod, Int.mul_emod, Int.emod_emod_of_dvd _ (Int.dvd_refl _), ← Int.mul_emod, Int.mul_add]
theorem wd_in (a : Int) : 0 ≤ wd a ∧ wd a ≤ 4294967295 := by unfold wd; omega
theorem sgn_mod (a : Int) : sgn a % 4294967296 = a % 4294967296 := by unfold sgn wrap64 wrap32; omega
theorem sgn_in (a : Int) : -2147483648 ≤ sgn a ∧ sgn a ≤ 2147483647 := by unfold sgn wrap64 wrap32; omega
theorem sgn_zero (a : Int) : sgn a = 0 ↔ a % 4294967296 = 0 := by unfold sgn wrap64 wrap32; omega
theorem wd_sgn (a : Int) : wd (sgn a) = wd a := sgn_mod a
theorem wrap64_mod (n : Int) : wrap64 n % 4294967296 = n % 4294967296 := by unfold wrap64; omega
theorem addV_zero (a : Int) : addV a 0 = wd a := by unfold addV wd; rw [Int.add_zero]

theorem back (a b : Int) : addV (mulV (divV a b) b) (remV a b) = wd a := by
  rw [mulV_eq]
  unfold addV wd
  rw [Int.emod_add_emod]
  by_cases h : b % 4294967296 = 0
  · have e1 : remV a b = a % 4294967296 := by unfold remV; rw [if_pos h]
    have e2 : divV a b = 4294967295 := by unfold divV; rw [if_pos h]
    rw [e1, e2, Int.add_emod_emod]
    omega
  · have e1 : remV a b = (sgn a).tmod (sgn b) % 4294967296 := by unfold remV; rw [if_neg h]
    have e2 : divV a b = wrap64 ((sgn a).tdiv (sgn b)) % 4294967296 := by unfold divV; rw [if_neg h]
    rw [e1, e2, wrap64_mod, Int.add_emod_emod, Int.add_emod, Int.mul_emod, Int.emod_emod_of_dvd _ (Int.dvd_refl _), ← sgn_mod b, ← Int.mul_emod, ← Int.add_emod, Int.tdiv_mul_add_tmod, sgn_mod]

theorem nat_and_xor (a b : Nat) : (a &&& b) + (a ^^^ b) = a ||| b := by
  induction a using Nat.strongRecOn generalizing b with
  | _ a ih =>
    by_cases h : a = 0
    · subst h; simp
    · have hi := ih (a / 2) (by omega) (b / 2)
      have e1 : (a &&& b) / 2 = a / 2 &&& b / 2 := Nat.and_div_two
      have e2 : (a ^^^ b) / 2 = a / 2 ^^^ b / 2 := Nat.xor_div_two
      have e3 : (a ||| b) / 2 = a / 2 ||| b / 2 := Nat.or_div_two
      have m1 := @Nat.and_mod_two_eq_one a b
      have m2 := @Nat.xor_mod_two_eq_one a b
      have m3 := @Nat.or_mod_two_eq_one a b
      have r1 := Nat.mod_two_eq_zero_or_one (a &&& b)
      have r2 := Nat.mod_two_eq_zero_or_one (a ^^^ b)
      have r3 := Nat.mod_two_eq_zero_or_one (a ||| b)
      have ra := Nat.mod_two_eq_zero_or_one a
      have rb := Nat.mod_two_eq_zero_or_one b
      generalize (a &&& b) = x at *
      generalize (a ^^^ b) = y at *
      generalize (a ||| b) = z at *
      rw [← e1, ← e2, ← e3] at hi
      omega

theorem shift_back (v k : Int) : shrV (shlV v k) k = wd v % 2 ^ (32 - (k % 32).toNat) := by
  unfold shrV shlV wd
  obtain ⟨n, hn⟩ : ∃ n : Nat, (k % 32).toNat = n := ⟨_, rfl⟩
  have hn32 : n < 32 := by omega
  rw [hn]
  clear hn
  generalize v % 4294967296 = x
  have hp : (4294967296 : Int) = 2 ^ (32 - n) * 2 ^ n := by rw [← Int.pow_add, Nat.sub_add_cancel (by omega)]; rfl
  have hpos : (0 : Int) < 2 ^ n := Int.pow_pos (by decide)
  have e : x * 2 ^ n % 4294967296 = (x % 2 ^ (32 - n)) * 2 ^ n := by
    rw [hp, Int.mul_comm x, Int.mul_comm (2 ^ (32 - n)) (2 ^ n), Int.mul_emod_mul_of_pos _ _ hpos, Int.mul_comm]
  have e2 : x * 2 ^ n % 4294967296 % 4294967296 = (x % 2 ^ (32 - n)) * 2 ^ n := by
    rw [Int.emod_emod_of_dvd _ (Int.dvd_refl _), e]
  rw [e2, Int.mul_ediv_cancel _ (by omega)]
  have h1 : (0 : Int) ≤ x % 2 ^ (32 - n) := Int.emod_nonneg _ (by have := Int.pow_pos (n := 2) (m := 32 - n) (by decide); omega)
  have h2 : x % 2 ^ (32 - n) < 2 ^ (32 - n) := Int.emod_lt_of_pos _ (Int.pow_pos (by decide))
  have h3 : (2 : Int) ^ (32 - n) ≤ 2 ^ 32 := by exact_mod_cast Nat.pow_le_pow_right (n := 2) (by decide) (show 32 - n ≤ 32 by omega)
  unfold wrap64
  omega
def bitC (op : Int) : Int := if op = 1 then 0 else if op = 2 then 0 else if op = 3 then 0 else 3
def bitV (op a b : Int) : Int :=
  if op = 1 then wrap64 (bits BinOp.and IntKind.u32 (a % 4294967296) (b % 4294967296))
  else if op = 2 then wrap64 (bits BinOp.or IntKind.u32 (a % 4294967296) (b % 4294967296))
  else if op = 3 then wrap64 (bits BinOp.xor IntKind.u32 (a % 4294967296) (b % 4294967296))
  else 0
theorem bitC_no {op : Int} (h1 : ¬ op = 1) (h2 : ¬ op = 2) (h3 : ¬ op = 3) : bitC op = 3 := by simp [bitC, h1, h2, h3]
theorem bitV_no {op : Int} (a b : Int) (h1 : ¬ op = 1) (h2 : ¬ op = 2) (h3 : ¬ op = 3) : bitV op a b = 0 := by simp [bitV, h1, h2, h3]


theorem bitV_in {a b : Int} {op : BinOp} {n : Nat} (h : bits op .u32 (a % 4294967296) (b % 4294967296) = (n : Int)) (hn : n < 2 ^ 32) : wrap64 (bits op .u32 (a % 4294967296) (b % 4294967296)) = (n : Int) := by
  rw [h]; unfold wrap64; omega
theorem toNat_lt (a : Int) : (a % 4294967296).toNat < 2 ^ 32 := by omega
theorem bitV_and (a b : Int) : bitV 1 a b = (((a % 4294967296).toNat &&& (b % 4294967296).toNat : Nat) : Int) := by
  have e : bitV 1 a b = wrap64 (bits BinOp.and IntKind.u32 (a % 4294967296) (b % 4294967296)) := by simp [bitV]
  rw [e]
  exact bitV_in (u32_and _ _ (by omega) (by omega) (by omega) (by omega)) (Nat.and_lt_two_pow _ (toNat_lt b))
theorem bitV_or (a b : Int) : bitV 2 a b = (((a % 4294967296).toNat ||| (b % 4294967296).toNat : Nat) : Int) := by
  have e : bitV 2 a b = wrap64 (bits BinOp.or IntKind.u32 (a % 4294967296) (b % 4294967296)) := by simp [bitV]
  rw [e]
  exact bitV_in (u32_or _ _ (by omega) (by omega) (by omega) (by omega)) (Nat.or_lt_two_pow (toNat_lt a) (toNat_lt b))
theorem bitV_xor (a b : Int) : bitV 3 a b = (((a % 4294967296).toNat ^^^ (b % 4294967296).toNat : Nat) : Int) := by
  have e : bitV 3 a b = wrap64 (bits BinOp.xor IntKind.u32 (a % 4294967296) (b % 4294967296)) := by simp [bitV]
  rw [e]
  exact bitV_in (u32_xor _ _ (by omega) (by omega) (by omega) (by omega)) (Nat.xor_lt_two_pow (toNat_lt a) (toNat_lt b))
theorem bit_sum (a b : Int) : bitV 1 a b + bitV 3 a b = bitV 2 a b := by
  rw [bitV_and, bitV_or, bitV_xor, ← nat_and_xor]; simp
theorem bit_lt (a b : Int) : 0 ≤ bitV 2 a b ∧ bitV 2 a b ≤ 4294967295 := by
  have h := Nat.or_lt_two_pow (toNat_lt a) (toNat_lt b)
  rw [bitV_or]; omega
theorem bit_back (a b : Int) : bitV 3 (bitV 3 a b) b = wd a := by
  rw [bitV_xor (bitV 3 a b) b, bitV_xor]
  have h := Nat.xor_lt_two_pow (toNat_lt a) (toNat_lt b)
  generalize hx : (a % 4294967296).toNat = x at *
  generalize (b % 4294967296).toNat = y at *
  have e : (((x ^^^ y : Nat) : Int) % 4294967296).toNat = x ^^^ y := by omega
  rw [e, Nat.xor_assoc, Nat.xor_self, Nat.xor_zero]
  unfold wd
  omega
theorem tmod_32 (k : Int) : (wrap64 (k.tmod 32 + 32)).tmod 32 = k % 32 := by
  have h1 : -32 < k.tmod 32 ∧ k.tmod 32 < 32 := ⟨by have := Int.lt_tmod_of_pos k (b := 32) (by decide); omega, Int.tmod_lt_of_pos k (by decide)⟩
  have h2 : (k.tmod 32) % 32 = k % 32 := by
    have h := Int.mul_tdiv_add_tmod k 32
    omega
  have h3 : wrap64 (k.tmod 32 + 32) = k.tmod 32 + 32 := by unfold wrap64; omega
  rw [h3, Int.tmod_eq_emod_of_nonneg (by omega)]
  omega
theorem pow_wrap (m : Nat) : wrap64 (2 ^ (32 - m)) = 2 ^ (32 - m) ∧ (0 : Int) < 2 ^ (32 - m) := by
  have h1 : (0 : Int) < 2 ^ (32 - m) := Int.pow_pos (by decide)
  have h3 : (2 : Int) ^ (32 - m) ≤ 2 ^ 32 := by exact_mod_cast Nat.pow_le_pow_right (n := 2) (by decide) (show 32 - m ≤ 32 by omega)
  refine ⟨?_, h1⟩
  unfold wrap64
  omega
theorem shift_test (v k : Int) (m : Nat) (hm : k % 32 = (m : Int)) : (shrV (shlV v k) k == (wd v).tmod (wrap64 (2 ^ (32 - m)))) = true := by
  rw [beq_iff_eq, (pow_wrap m).1, shift_back, hm, Int.toNat_natCast, Int.tmod_eq_emod_of_nonneg (wd_in v).1]
theorem bit_wrap (a b : Int) : (wrap64 (bitV 1 a b + bitV 3 a b) == bitV 2 a b) = true := by
  have h := bit_lt a b
  rw [bit_sum, beq_iff_eq]
  unfold wrap64
  omega
theorem shr_eq (v k : Int) : shrV v k = wd v / 2 ^ (k % 32).toNat := by
  unfold shrV wd
  generalize (k % 32).toNat = n
  have h1 : (0 : Int) ≤ v % 4294967296 / 2 ^ n := Int.ediv_nonneg (by omega) (by have := Int.pow_pos (n := 2) (m := n) (by decide); omega)
  have h2 : v % 4294967296 / 2 ^ n ≤ v % 4294967296 := Int.ediv_le_self _ (by omega)
  unfold wrap64
  omega
end Go.Proofs.YtgefcoojnahokaaDoor
namespace Go.Proofs.YtgefcoojnahokaaDoor
open Go.RowKit

theorem field_value (x y : Value) (w : World) : (Instr.field 33 (.agg #[x, y]) 1).run Tryd.prog w = .ok y w := by kernel_rfl
theorem field_code (x y : Value) (w : World) : (Instr.field 33 (.agg #[x, y]) 0).run Tryd.prog w = .ok x w := by kernel_rfl
theorem ret_i64 {a b : Int} (h : a = b) : Ending.returned (.int .i64 a) = .returned (.int .i64 b) := by rw [h]
end Go.Proofs.YtgefcoojnahokaaDoor
namespace Go.Proofs.YtgefcoojnahokaaDoor
open Go.RowKit
set_option linter.unusedVariables false

def isW (z : Int) : Bool := decide (0 ≤ z) && decide (z ≤ 4294967295)
def formB (n : Nat) : Bool := decide (n % 8 = 0 ∧ 8 ≤ n ∧ n ≤ 192)
def memV (zs : List Int) : Int := if formB zs.length then (if zs.all isW then 0 else 3) else 1

theorem isW_wd (z : Int) : (wd z == z) = isW z := by
  have h := wd_in z
  rw [Bool.eq_iff_iff]
  simp only [isW, beq_iff_eq, Bool.and_eq_true, decide_eq_true_eq]
  constructor
  · intro e
    rw [e] at h
    omega
  · intro e
    unfold wd
    omega
theorem all_take (zs : List Int) (j : Nat) (h : j < zs.length) : (zs.take (j + 1)).all isW = ((zs.take j).all isW && isW (zs.getD j 0)) := by
  rw [List.take_succ_eq_append_getElem h, List.all_append, List.getD, List.getElem?_eq_getElem h]
  simp
theorem all_not (zs : List Int) (j : Nat) (h : j < zs.length) (hz : isW (zs.getD j 0) = false) : zs.all isW = false := by
  rw [List.getD, List.getElem?_eq_getElem h] at hz
  rw [List.all_eq_false]
  exact ⟨_, List.getElem_mem h, by simpa using hz⟩

theorem spec_in (z a b : Int) (w : World) : Calls Tryd.prog 33 #[.int .i64 z, .int .i64 a, .int .i64 b] w fun e w' => e = .returned (.bool (decide (a ≤ z) && decide (z ≤ b))) ∧ w' = w := by
  by_cases h : a ≤ z
  · go_enter Tryd.func33, Tryd.ntmps33
    go_wp2
    go_ret
    exact ⟨by simp [h], rfl⟩
  · go_enter Tryd.func33, Tryd.ntmps33
    go_wp2
    go_ret
    exact ⟨by simp; omega, rfl⟩

theorem ret_i {a b : Int} (h : a = b) : Ending.returned (.int .i64 a) = .returned (.int .i64 b) := by rw [h]
theorem memV_form {zs : List Int} {n : Nat} (hn : zs.length = n) (h : formB n = false) : memV zs = 1 := by simp [memV, hn, h]
theorem memV_not {zs : List Int} {n : Nat} (hn : zs.length = n) (h : formB n = true) (ha : zs.all isW = false) : memV zs = 3 := by simp [memV, hn, h, ha]
theorem memV_ok {zs : List Int} {n : Nat} (hn : zs.length = n) (h : formB n = true) (ha : zs.all isW = true) : memV zs = 0 := by simp [memV, hn, h, ha]

end Go.Proofs.YtgefcoojnahokaaDoor
namespace Go.Proofs.YtgefcoojnahokaaDoor
open Go.RowKit
set_option linter.unusedVariables false

/-- A slice of numbers, read alone. -/
def Rn (w : World) (a : Option Addr) (len cap : Nat) (zs : List Int) : Prop :=
  (a = none ∧ len = 0 ∧ cap = 0 ∧ zs = []) ∨
  ∃ x, a = some x ∧ len ≤ cap ∧ cap ≤ maxLen ∧ zs.length = len ∧ ∀ i, i < len → w.cell? (x.add i) = some (.int .i64 (zs.getD i 0))
theorem Rn.stay {w w' : World} {a : Option Addr} {len cap : Nat} {zs : List Int} (h : Rn w a len cap zs) (b : Below w.heap.size w w') : Rn w' a len cap zs := by
  rcases h with h | ⟨x, rfl, h1, h2, h3, h4⟩
  · exact .inl h
  · exact .inr ⟨x, rfl, h1, h2, h3, fun i hi => cell_keep b (h4 i hi)⟩
theorem Rn.len {w : World} {a : Option Addr} {len cap : Nat} {zs : List Int} (h : Rn w a len cap zs) : len = zs.length := by
  rcases h with ⟨_, h1, _, rfl⟩ | ⟨x, _, _, _, h1, _⟩
  · simpa using h1
  · exact h1.symm
theorem Rn.cap {w : World} {a : Option Addr} {len cap : Nat} {zs : List Int} (h : Rn w a len cap zs) : len ≤ cap ∧ cap ≤ maxLen := by
  rcases h with ⟨_, h1, h2, _⟩ | ⟨x, _, h1, h2, _⟩
  · subst h1 h2; exact ⟨Nat.le_refl _, Nat.zero_le _⟩
  · exact ⟨h1, h2⟩
theorem Rn.at {w : World} {a : Option Addr} {len cap : Nat} {zs : List Int} (h : Rn w a len cap zs) (i : Nat) (hi : i < len) : ∃ x, a = some x ∧ w.cell? (x.add i) = some (.int .i64 (zs.getD i 0)) := by
  rcases h with ⟨_, h1, _, _⟩ | ⟨x, rfl, _, _, _, h4⟩
  · omega
  · exact ⟨x, rfl, h4 i hi⟩
theorem IsRow.rn {w : World} {a : Option Addr} {len cap : Nat} {zs : List Int} (h : IsRow .i64 w a len cap zs) : Rn w a len cap zs := by
  rcases h with h | ⟨x, h0, h1, h2, h3, h4, _⟩
  · exact .inl h
  · exact .inr ⟨x, h0, h1, h2, h3, h4⟩
theorem Nums.rn {w : World} {base n cap : Nat} {a : Option Addr} {zs : List Int} (h : Nums w base (.slice a n cap) zs) : Rn w a n cap zs := by
  obtain ⟨a', cap', hv, l1, l2, hg⟩ := h.shape
  cases hv
  by_cases hz : 0 < zs.length
  · obtain ⟨g, rfl⟩ := hg hz
    refine .inr ⟨_, rfl, l1, l2, rfl, fun i hi => ?_⟩
    have := h.cell rfl i hi
    simpa [Addr.add_lit] using this
  · have h0 : zs = [] := by cases zs with
      | nil => rfl
      | cons x t => exact absurd (Nat.succ_pos _) hz
    subst h0
    cases a with
    | none =>
      obtain ⟨h1, ⟨hq, h3⟩ | ⟨g, cap, cur, hq, _⟩⟩ := h
      · cases hq; exact .inl ⟨rfl, rfl, rfl, rfl⟩
      · cases hq
    | some x => exact .inr ⟨x, rfl, l1, l2, rfl, fun i hi => absurd hi (Nat.not_lt_zero _)⟩
/-- A slice as a value, read alone. -/
def Rv (w : World) (v : Value) (zs : List Int) : Prop := ∃ a cap, v = .slice a zs.length cap ∧ Rn w a zs.length cap zs
theorem Rv.stay {w w' : World} {v : Value} {zs : List Int} (h : Rv w v zs) (b : Below w.heap.size w w') : Rv w' v zs := by
  obtain ⟨a, cap, h1, h2⟩ := h
  exact ⟨a, cap, h1, h2.stay b⟩
theorem Nums.rv {w : World} {base : Nat} {v : Value} {zs : List Int} (h : Nums w base v zs) : Rv w v zs := by
  obtain ⟨a, cap, rfl, _⟩ := h.shape
  exact ⟨a, cap, rfl, h.rn⟩
theorem Rn.rv {w : World} {a : Option Addr} {len cap : Nat} {zs : List Int} (h : Rn w a len cap zs) : Rv w (.slice a len cap) zs := by
  have := h.len
  subst this
  exact ⟨a, cap, rfl, h⟩

theorem IsRow.ln {k : IntKind} {w : World} {a : Option Addr} {len cap : Nat} {zs : List Int} (h : IsRow k w a len cap zs) : len = zs.length ∧ len ≤ 9223372036854775807 := by
  rcases h with ⟨_, h1, _, rfl⟩ | ⟨x, _, h1, h2, h3, _⟩
  · exact ⟨by simpa using h1, by omega⟩
  · exact ⟨h3.symm, by unfold maxLen at h2; omega⟩

/-- append of numbers that lie anywhere to a slice of the call's own. -/
theorem wp_appx {ops : Array Oper} {rest : List Oper} {o : Oper} {act : Act} {Q : Exit → Act → World → Prop} (w : World) (hgd : o.guard = none) (s x : Operand)
    (ho : o.op = .call { callee := .builtin .append, args := #[s, x], argTypes := #[64, 64] }) (base : Nat) (v : Value) (zs : List Int) (hs : act.eval s = v) (hN : Nums w base v zs)
    (p : Addr) (m c : Nat) (ys : List Int) (hx : act.eval x = .slice (some p) m c) (hR : Rn w (some p) m c ys)
    (hlen : zs.length + m ≤ 1000000000) (hbase : base ≤ w.heap.size)
    (h : ∀ v' w', Nums w' base v' (zs ++ ys) → w.grownBy w' v.ownBlock → wpList Tryd.prog ops Q rest (act.put o.dst v') w') : wpList Tryd.prog ops Q (o :: rest) act w := by
  have hy : ys.length = m := hR.len.symm
  have hc : ∀ i, i < m → w.cell? (p.add i) = some (.int .i64 (ys.getD i 0)) := by
    intro i hi
    obtain ⟨x, e, h⟩ := hR.at i hi
    cases e
    exact h
  obtain ⟨i, hi, hz0, hz1, hz2⟩ := info_parts info_i64
  refine wpList_append_own w hgd s x 64 ho base 2 i _ 1 8 Tryd.underlying64 hi hz0 hz1 hz2 rfl (by decide) v zs.length _ hs hN p m c (ys.map (Value.int .i64)) hx (by simpa using hy) ?_ ?_ (by unfold maxLen; omega) (by omega) hbase ?_
  · intro j u hj
    have hjl : j < ys.length := by have := (List.getElem?_eq_some_iff.1 hj).1; simpa using this
    rw [List.getElem?_map, List.getElem?_eq_getElem hjl] at hj
    have := hc j (by omega)
    rw [List.getD, List.getElem?_eq_getElem hjl] at this
    rw [this]
    exact hj
  · intro u hu
    obtain ⟨z, _, rfl⟩ := List.mem_map.1 hu
    rfl
  · intro v' w' hown hgrow _
    refine h v' w' ?_ hgrow
    unfold Nums
    rw [List.length_append, hy, List.map_append]
    exact hown
theorem nums_none (w : World) (base : Nat) (hb : base ≤ w.heap.size) : Nums (w.alloc (.cells #[] 2)) base (.slice (some ⟨w.heap.size, 0, none⟩) 0 0) [] :=
  World.ownsRow_lit w #[] 0 hb (by decide) rfl

/-- A block of cells of a type. -/
def Vb (w : World) (q : Nat) (cs : Array Value) (t : TypeId) : Prop := w.heap[q]? = some (.cells cs t (0, 0))
theorem Vb.cell {w : World} {q : Nat} {cs : Array Value} {t : TypeId} (h : Vb w q cs t) (i : Nat) {v : Value} (hi : cs[i]? = some v) : w.cell? ⟨q, i, none⟩ = some v := by
  unfold Vb at h
  simp [World.cell?, h, hi]
theorem Vb.free {w : World} {q : Nat} {cs : Array Value} {t : TypeId} (h : Vb w q cs t) (i : Nat) : w.frozen? ⟨q, i, none⟩ = false := by
  unfold Vb at h
  simp [World.frozen?, h]
theorem Vb.lt {w : World} {q : Nat} {cs : Array Value} {t : TypeId} (h : Vb w q cs t) : q < w.heap.size := by
  rcases Nat.lt_or_ge q w.heap.size with h1 | h1
  · exact h1
  · unfold Vb at h
    rw [Array.getElem?_eq_none h1] at h
    cases h
theorem Vb.new (w : World) (cs : Array Value) (t : TypeId) : Vb (w.alloc (.cells cs t)) w.heap.size cs t := heap_alloc_new w _
theorem Vb.gr {w w' : World} {q : Nat} {cs : Array Value} {t : TypeId} {row : Option Nat} (h : Vb w q cs t) (g : w.grownBy w' row) (hn : some q ≠ row) : Vb w' q cs t := (g.block q h.lt hn).trans h
theorem Vb.keep {w w' : World} {q : Nat} {cs : Array Value} {t : TypeId} (h : Vb w q cs t) (b : Below w.heap.size w w') : Vb w' q cs t := (b.block q h.lt).trans h
theorem Vb.put {w : World} {q : Nat} {cs : Array Value} {t : TypeId} (h : Vb w q cs t) (p : Addr) (u : Value) (hp : q ≠ p.block) : Vb (w.setCell p u) q cs t := (heap_setCell_other w p q u hp).trans h
theorem Vb.set {w : World} {q : Nat} {cs : Array Value} {t : TypeId} (h : Vb w q cs t) (i : Nat) (u : Value) : Vb (w.setCell ⟨q, i, none⟩ u) q (cs.setIfInBounds i u) t := heap_setCell_same w q i cs t u h
theorem Vb.push {w : World} {q : Nat} {cs : Array Value} {t : TypeId} (h : Vb w q cs t) (o : Obj) : Vb (w.alloc o) q cs t := h.keep (al (Below.refl _ _) o)

/-- From one world to another: blocks from base on stay. -/
structure Ho (base : Nat) (w w' : World) : Prop where
  size : w.heap.size ≤ w'.heap.size
  block : ∀ k, base ≤ k → k < w.heap.size → w'.heap[k]? = w.heap[k]?
theorem Ho.refl (base : Nat) (w : World) : Ho base w w := ⟨Nat.le_refl _, fun _ _ _ => rfl⟩
theorem Ho.trans {base : Nat} {a b c : World} (h : Ho base a b) (k : Ho base b c) : Ho base a c :=
  ⟨Nat.le_trans h.size k.size, fun i hb hi => (k.block i hb (Nat.lt_of_lt_of_le hi h.size)).trans (h.block i hb hi)⟩
theorem Ho.of {base : Nat} {w w' : World} (h : Below w.heap.size w w') : Ho base w w' := ⟨h.size, fun k _ hk => h.block k hk⟩
theorem Ho.set {base : Nat} (w : World) (p : Addr) (u : Value) (h : p.block < base) : Ho base w (w.setCell p u) :=
  ⟨(grown_set w p u).size, fun k hb hk => (grown_set w p u).block k hk (fun e => by cases e; omega)⟩
theorem Nums.ho {base : Nat} {v : Value} {w w' : World} {zs : List Int} (h : Nums w base v zs) (H : Ho base w w') : Nums w' base v zs := by
  obtain ⟨h1, h2 | ⟨g, cap, cur, hv, hg, hr, rest⟩⟩ := h
  · exact ⟨h1, .inl h2⟩
  · refine ⟨h1, .inr ⟨g, cap, cur, hv, hg, ?_, rest⟩⟩
    rw [H.block g hg ((Array.getElem?_eq_some_iff.1 hr).1)]
    exact hr
end Go.Proofs.YtgefcoojnahokaaDoor
namespace Go.Proofs.YtgefcoojnahokaaDoor
open Go.RowKit
set_option linter.unusedVariables false

/-- The slot whose turn it is a steps into a round, and what is left of it. -/
def tnV : List (Int × Int) → Int → Int × Int
  | [], _ => (0, 0)
  | s :: t, a => if s.2 ≤ a then ((tnV t (a - s.2)).1 + 1, (tnV t (a - s.2)).2) else (0, s.2 - a)
theorem rd_nonneg (zs : List (Int × Int)) (h : ∀ s ∈ zs, 1 ≤ s.2) : 0 ≤ rdV zs := by
  induction zs with
  | nil => simp [rdV]
  | cons s t ih =>
    rw [rdV]
    have h1 := h s (by simp)
    have h2 := ih fun x hx => h x (by simp [hx])
    omega
theorem tn_at (zs : List (Int × Int)) : ∀ (j : Nat) (a : Int), (∀ s ∈ zs, 1 ≤ s.2) → j < zs.length → rdV (zs.take j) ≤ a → a < rdV (zs.take (j + 1)) → tnV zs a = ((j : Int), rdV (zs.take (j + 1)) - a) := by
  induction zs with
  | nil => intro j a _ h; simp at h
  | cons s t ih =>
    intro j a hp hj h0 h1
    cases j with
    | zero =>
      simp [rdV] at h1
      rw [tnV, if_neg (by omega)]
      simp [rdV]
    | succ j =>
      simp only [List.take_succ_cons, rdV] at h0 h1 ⊢
      have n := rd_nonneg (t.take j) fun x hx => hp x (by simp [List.mem_of_mem_take hx])
      rw [tnV, if_pos (by omega), ih j (a - s.2) (fun x hx => hp x (by simp [hx])) (by simpa using hj) (by omega) (by omega)]
      exact Prod.ext (by simp) (by simp; omega)
def ckOk (c : Int) : Bool := decide (0 ≤ c) && decide (c ≤ 1000000)
def ckV (P : Plc) (c : Int) : Int := if pfV P = 0 then (if ckOk c = false then 3 else 0) else pfV P
theorem ck_pf {P : Plc} {c : Int} (h : ckV P c = 0) : pfV P = 0 ∧ 0 ≤ c ∧ c ≤ 1000000 := by
  unfold ckV at h
  split at h
  · rename_i h1
    split at h
    · cases h
    · rename_i h2
      have h3 : ckOk c = true := by simpa using h2
      simp [ckOk] at h3
      exact ⟨h1, h3⟩
  · rename_i h1
    exact absurd h h1
theorem pf_plan1 (P : Plc) (h : pfV P = 0) : 1 ≤ P.plan.length := by
  have h6 : g6V P = 0 := (or_zero (or_zero (or_zero h).2).2).2
  unfold g6V at h6
  split at h6
  · cases h6
  · rename_i h1; omega
theorem pf_each (P : Plc) (h : pfV P = 0) : ∀ s ∈ P.plan, 1 ≤ s.2 ∧ s.2 ≤ 50 := by
  have h6 : g6V P = 0 := (or_zero (or_zero (or_zero h).2).2).2
  unfold g6V at h6
  split at h6
  · cases h6
  · exact slots_ok _ _ h6
theorem rd_pos (P : Plc) (h : pfV P = 0) : 1 ≤ rdV P.plan ∧ rdV P.plan ≤ 400 := by
  have h1 := pf_plan1 P h
  have h2 := (rd_bound P h P.plan.length (Nat.le_refl _)).2
  have h8 := (pf_plan P h).1
  rw [List.take_length] at h2
  refine ⟨?_, by omega⟩
  have e := pf_each P h
  cases hp : P.plan with
  | nil => rw [hp] at h1; simp at h1
  | cons s t =>
    rw [hp] at e
    rw [rdV]
    have h3 := e s (by simp)
    have h4 := rd_nonneg t fun x hx => (e x (by simp [hx])).1
    omega
/-- What TurnAt answers: the code, the slot, its guest, what is left of it. -/
def tS (P : Plc) (c : Int) : Int × Int := tnV P.plan (c % rdV P.plan)
def tG (P : Plc) (c : Int) : Int := (P.plan.getD (tS P c).1.toNat (0, 0)).1
theorem tS_at (P : Plc) (h : pfV P = 0) (c : Int) (j : Nat) (hj : j < P.plan.length) (h0 : rdV (P.plan.take j) ≤ c % rdV P.plan) (h1 : c % rdV P.plan < rdV (P.plan.take (j + 1))) : tS P c = ((j : Int), rdV (P.plan.take (j + 1)) - c % rdV P.plan) :=
  tn_at P.plan j _ (fun s hs => (pf_each P h s hs).1) hj h0 h1
/-- The steps of a guest within the first r of a round, and what of r is left behind. -/
def tbF (g : Int) (zs : List (Int × Int)) (r : Int) : Int × Int := zs.foldl (fun a s => (a.1 + (if s.1 = g then min s.2 a.2 else 0), a.2 - min s.2 a.2)) (0, r)
theorem tb_take (g : Int) (zs : List (Int × Int)) (r : Int) (j : Nat) (h : j < zs.length) : tbF g (zs.take (j + 1)) r = ((tbF g (zs.take j) r).1 + (if (zs.getD j (0, 0)).1 = g then min (zs.getD j (0, 0)).2 (tbF g (zs.take j) r).2 else 0), (tbF g (zs.take j) r).2 - min (zs.getD j (0, 0)).2 (tbF g (zs.take j) r).2) := by
  unfold tbF
  rw [take_succ_getD zs (0, 0) j h, List.foldl_append]
  rfl
theorem tb_bound (g : Int) (zs : List (Int × Int)) (r : Int) (hr : 0 ≤ r) (hp : ∀ s ∈ zs, 1 ≤ s.2) : ∀ j, j ≤ zs.length → 0 ≤ (tbF g (zs.take j) r).1 ∧ 0 ≤ (tbF g (zs.take j) r).2 ∧ (tbF g (zs.take j) r).1 + (tbF g (zs.take j) r).2 ≤ r := by
  intro j
  induction j with
  | zero => intro _; simp [tbF]; exact hr
  | succ j ih =>
    intro hj
    have h1 := ih (by omega)
    have h2 := hp _ (getD_mem zs (0, 0) j (by omega))
    rw [tb_take g zs r j (by omega)]
    simp only
    generalize tbF g (zs.take j) r = q at *
    generalize zs.getD j (0, 0) = s at *
    have m : min s.2 q.2 ≤ q.2 := Int.min_le_right _ _
    have m2 : 0 ≤ min s.2 q.2 := by rw [Int.min_def]; split <;> omega
    split <;> omega
theorem tb_still (g : Int) (zs : List (Int × Int)) (r : Int) (hp : ∀ s ∈ zs, 1 ≤ s.2) (j : Nat) (h0 : (tbF g (zs.take j) r).2 = 0) : ∀ k, j + k ≤ zs.length → tbF g (zs.take (j + k)) r = tbF g (zs.take j) r := by
  intro k
  induction k with
  | zero => intro _; rfl
  | succ k ih =>
    intro hk
    have h1 := ih (by omega)
    have h2 := hp _ (getD_mem zs (0, 0) (j + k) (by omega))
    rw [← Nat.add_assoc, tb_take g zs r (j + k) (by omega), h1, h0]
    have m : min (zs.getD (j + k) (0, 0)).2 0 = 0 := by rw [Int.min_def]; split <;> omega
    rw [m]
    refine Prod.ext ?_ ?_
    · simp
    · simp [h0]
/-- The steps of a guest among the first c. -/
def tbV (P : Plc) (c g : Int) : Int := c / rdV P.plan * frV g P.plan + (tbF g P.plan (c % rdV P.plan)).1
def tbC (P : Plc) (c g : Int) : Int := if ckV P c = 0 then (if isG P.own.length g = false then 4 else 0) else ckV P c
def tbR (P : Plc) (c g : Int) : Int × Int := if tbC P c g = 0 then (0, tbV P c g) else (tbC P c g, 0)
def tR (P : Plc) (c : Int) : Int × Int × Int × Int := if ckV P c = 0 then (0, (tS P c).1, tG P c, (tS P c).2) else (ckV P c, 0, 0, 0)
theorem fr_le (P : Plc) (h : pfV P = 0) (g : Int) : 0 ≤ frV g P.plan ∧ frV g P.plan ≤ 400 := by
  have h2 := fr_bound P h g P.plan.length (Nat.le_refl _)
  have h8 := (pf_plan P h).1
  rw [List.take_length] at h2
  omega
theorem div_le {c r : Int} (h0 : 0 ≤ c) (h1 : c ≤ 1000000) (hr : 1 ≤ r) : 0 ≤ c / r ∧ c / r ≤ 1000000 := by
  refine ⟨Int.ediv_nonneg h0 (by omega), ?_⟩
  have : c / r ≤ c := Int.ediv_le_self _ h0
  omega
theorem mul_le {a b : Int} (h0 : 0 ≤ a) (h1 : a ≤ 1000000) (k0 : 0 ≤ b) (k1 : b ≤ 400) : 0 ≤ a * b ∧ a * b ≤ 400000000 := by
  refine ⟨Int.mul_nonneg h0 k0, ?_⟩
  have h : a * b ≤ 1000000 * 400 := Int.mul_le_mul h1 k1 k0 (by omega)
  omega
end Go.Proofs.YtgefcoojnahokaaDoor
namespace Go.Proofs.YtgefcoojnahokaaDoor
open Go.RowKit
set_option linter.unusedVariables false

theorem i_clock (c : Int) (w : World) : Calls Tryd.prog 26 #[.int .i64 c] w fun e w' => e = .returned (.bool (ckOk c)) ∧ w' = w := by
  by_cases h : 0 ≤ c
  · by_cases k : c ≤ 1000000
    · have E : ckOk c = true := by simp [ckOk, h, k]
      rw [E]
      go_enter Tryd.func26, Tryd.ntmps26
      go_wp2_with fail
      go_ret
      exact ⟨rfl, rfl⟩
    · have E : ckOk c = false := by simp [ckOk, k]
      rw [E]
      go_enter Tryd.func26, Tryd.ntmps26
      go_wp2_with fail
      go_ret
      exact ⟨rfl, rfl⟩
  · have E : ckOk c = false := by simp [ckOk, h]
    rw [E]
    go_enter Tryd.func26, Tryd.ntmps26
    go_wp2_with fail
    go_ret
    exact ⟨rfl, rfl⟩

set_option maxHeartbeats 1000000 in
theorem i_clockFault (a0 a1 a2 a3 : Option Addr) (n0 c0 n1 c1 n2 c2 n3 c3 : Nat) (P : Plc) (c : Int) (w : World) (h : Pl w a0 n0 c0 a1 n1 c1 a2 n2 c2 a3 n3 c3 P) (hg : w.cell? ⟨0, 0, none⟩ = some (.iface 96 (.agg #[.pointer (some ⟨1, 57, none⟩)]))) :
    Calls Tryd.prog 16 #[.agg #[.slice a0 n0 c0, .slice a1 n1 c1, .slice a2 n2 c2, .slice a3 n3 c3], .int .i64 c] w fun e w' => e = .returned (.int .i64 (ckV P c)) ∧ Below w.heap.size w w' := by
  generalize hW : (w.alloc (.cells #[.slice a0 n0 c0, .slice a1 n1 c1, .slice a2 n2 c2, .slice a3 n3 c3] 29)) = W
  have B0 : Hid (Below w.heap.size w W) := by show Below _ _ _; rw [← hW]; exact al (Below.refl _ _) _
  obtain ⟨s, hS⟩ : ∃ s, w.heap.size = s := ⟨_, rfl⟩
  have Q : Hid (W.cell? ⟨s, 0, none⟩ = some (.slice a0 n0 c0) ∧ W.cell? ⟨s, 1, none⟩ = some (.slice a1 n1 c1) ∧ W.cell? ⟨s, 2, none⟩ = some (.slice a2 n2 c2) ∧ W.cell? ⟨s, 3, none⟩ = some (.slice a3 n3 c3)) := by
    show _ ∧ _
    rw [← hW, ← hS]
    exact ⟨cell_new rfl, cell_new rfl, cell_new rfl, cell_new rfl⟩
  have HP : Hid (Pl W a0 n0 c0 a1 n1 c1 a2 n2 c2 a3 n3 c3 P) := h.stay B0.out
  have HG : Hid (_ = _) := cell_keep B0.out hg
  clear h hg
  have q0 := Q.out.1
  have q1 := Q.out.2.1
  have q2 := Q.out.2.2.1
  have q3 := Q.out.2.2.2
  go_enter Tryd.func16, Tryd.ntmps16
  go_wp2_with fail
  clear hW hS
  refine (impl_policy _ _ _ _ _ _ _ _ _ _ _ _ P _ HP.out HG.out).mono ?_
  rintro e w1 ⟨rfl, b1⟩
  have B1 : Hid (Below w.heap.size w w1) := on B0.out b1
  clear b1
  by_cases hz : pfV P = 0
  · by_cases hk : ckOk c = false
    · have E : Hid (ckV P c = 3) := by show _ = _; rw [ckV, if_pos hz, if_pos hk]
      rw [hz]
      go_wp2_with fail
      refine (i_clock _ _).mono ?_
      rintro e w1 ⟨rfl, rfl⟩
      rw [hk]
      go_wp2_with fail
      go_ret
      rw [E.out]
      exact ⟨rfl, B1.out⟩
    · have E : Hid (ckV P c = 0) := by show _ = _; rw [ckV, if_pos hz, if_neg hk]
      rw [Bool.not_eq_false] at hk
      rw [hz]
      go_wp2_with fail
      refine (i_clock _ _).mono ?_
      rintro e w1 ⟨rfl, rfl⟩
      rw [hk]
      go_wp2_with fail
      go_ret
      rw [E.out]
      exact ⟨rfl, B1.out⟩
  · have E : Hid (ckV P c = pfV P) := by show _ = _; rw [ckV, if_neg hz]
    generalize hv : pfV P = v at *
    go_wp2_with fail
    go_ret
    rw [E.out]
    exact ⟨rfl, B1.out⟩

set_option maxRecDepth 20000 in
set_option maxHeartbeats 4000000 in
theorem i_turnAt (a0 a1 a2 a3 : Option Addr) (n0 c0 n1 c1 n2 c2 n3 c3 : Nat) (P : Plc) (c : Int) (w : World) (h : Pl w a0 n0 c0 a1 n1 c1 a2 n2 c2 a3 n3 c3 P) (hg : w.cell? ⟨0, 0, none⟩ = some (.iface 96 (.agg #[.pointer (some ⟨1, 57, none⟩)]))) (hz : pfV P = 0) (hc : 0 ≤ c) (hc1 : c ≤ 1000000) :
    Calls Tryd.prog 17 #[.agg #[.slice a0 n0 c0, .slice a1 n1 c1, .slice a2 n2 c2, .slice a3 n3 c3], .int .i64 c] w fun e w' => e = .returned (.agg #[.int .i64 (tS P c).1, .int .i64 (tS P c).2, .int .i64 c]) ∧ Below w.heap.size w w' := by
  have PZ : Hid (pfV P = 0) := hz
  have HC : Hid (0 ≤ c ∧ c ≤ 1000000) := ⟨hc, hc1⟩
  obtain ⟨u, hu⟩ : ∃ u, tS P c = u := ⟨_, rfl⟩
  rw [hu]
  have HU : Hid (tS P c = u) := hu
  clear hz hu
  generalize hW : (w.alloc (.cells #[.slice a0 n0 c0, .slice a1 n1 c1, .slice a2 n2 c2, .slice a3 n3 c3] 29)).alloc (.cells #[.int .i64 0, .int .i64 0, .int .i64 0] 47) = W
  have B0 : Hid (Below w.heap.size w W) := by show Below _ _ _; rw [← hW]; exact al (al (Below.refl _ _) _) _
  obtain ⟨s, hS⟩ : ∃ s, w.heap.size = s := ⟨_, rfl⟩
  have HSs : Hid (w.heap.size = s) := hS
  have Q : Hid (W.cell? ⟨s, 0, none⟩ = some (.slice a0 n0 c0) ∧ W.cell? ⟨s, 1, none⟩ = some (.slice a1 n1 c1) ∧ W.cell? ⟨s, 2, none⟩ = some (.slice a2 n2 c2) ∧ W.cell? ⟨s, 3, none⟩ = some (.slice a3 n3 c3)) := by
    show _ ∧ _
    rw [← hW, ← hS]
    exact ⟨cell_push _ (cell_new rfl), cell_push _ (cell_new rfl), cell_push _ (cell_new rfl), cell_push _ (cell_new rfl)⟩
  have R : Hid (Vb W (s + 1) #[.int .i64 0, .int .i64 0, .int .i64 0] 47) := by
    have z1 : s + 1 = (w.alloc (.cells #[.slice a0 n0 c0, .slice a1 n1 c1, .slice a2 n2 c2, .slice a3 n3 c3] 29)).heap.size := by rw [← hS]; simp
    show Vb _ _ _ _
    rw [← hW, z1]
    exact Vb.new _ _ _
  have HP : Hid (Pl W a0 n0 c0 a1 n1 c1 a2 n2 c2 a3 n3 c3 P) := h.stay B0.out
  have HA : Hid (PolAt W s P) := ⟨_, _, _, _, _, _, _, _, _, _, _, _, Q.out.1, Q.out.2.1, Q.out.2.2.1, Q.out.2.2.2, HP.out⟩
  have HG : Hid (W.cell? ⟨0, 0, none⟩ = some (.iface 96 (.agg #[.pointer (some ⟨1, 57, none⟩)]))) := cell_keep B0.out hg
  clear h hg
  have q0 := Q.out.1
  have q1 := Q.out.2.1
  have q2 := Q.out.2.2.1
  have q3 := Q.out.2.2.2
  have fv := field_value
  go_enter Tryd.func17, Tryd.ntmps17
  go_wp2_with fail
  clear hW hS
  refine (i_roundOf _ _ _ _ _ _ _ _ _ _ _ _ P _ HP.out HG.out).mono ?_
  rintro e w1 ⟨rfl, b1⟩
  have RV : rR P = (0, rdV P.plan) := by rw [rR, if_pos PZ.out]
  rw [RV]
  clear RV
  have RP := rd_pos P PZ.out
  obtain ⟨rr, hrr⟩ : ∃ r, rdV P.plan = r := ⟨_, rfl⟩
  rw [hrr] at RP
  have HR : Hid (rdV P.plan = rr) := hrr
  simp only
  rw [hrr]
  clear hrr
  have r1 := RP.1
  have r2 := RP.2
  have tm : c.tmod rr = c % rr := Int.tmod_eq_emod_of_nonneg hc
  have m0 : 0 ≤ c % rr := Int.emod_nonneg _ (by omega)
  have m1 : c % rr < rr := Int.emod_lt_of_pos _ (by omega)
  obtain ⟨m, hm⟩ : ∃ m, c % rr = m := ⟨_, rfl⟩
  rw [hm] at tm m0 m1
  have HM : Hid (c % rr = m) := hm
  have M01 : Hid (0 ≤ m ∧ m < rr) := ⟨m0, m1⟩
  have R4 : Hid (rr ≤ 400) := r2
  clear hm RP
  have HPw : Hid (Pl w1 a0 n0 c0 a1 n1 c1 a2 n2 c2 a3 n3 c3 P) := HP.out.stay b1
  have HL3 : Hid (n3 = P.plan.length) := HPw.out.plan.len
  have L8 : Hid (1 ≤ n3 ∧ n3 ≤ 8) := by show _ ∧ _; rw [HPw.out.plan.len]; exact ⟨pf_plan1 P PZ.out, (pf_plan P PZ.out).1⟩
  have ST8 : Hid (∀ j, j < P.plan.length → 1 ≤ (P.plan.getD j (0, 0)).2 ∧ (P.plan.getD j (0, 0)).2 ≤ 50) := (pf_plan P PZ.out).2
  have q3 := cell_keep b1 Q.out.2.2.2
  have R1 : Hid (Vb w1 (s + 1) #[.int .i64 0, .int .i64 0, .int .i64 0] 47) := R.out.keep b1
  have B1 : Hid (Below w.heap.size w w1) := on B0.out b1
  clear b1
  go_wp2_with fail
  go_loop [5, 6] (fun u v => ∃ j : Nat, j < n3 ∧ v = .int .i64 j ∧ u = .int .i64 (m - rdV (P.plan.take j)) ∧ rdV (P.plan.take j) ≤ m) (fun _ v => n3 - (intOf v).toNat)
  case atStart => exact ⟨0, L8.out.1, rfl, by simp [rdV], by simp [rdV]; exact M01.out.1⟩
  case round =>
    obtain ⟨j, hlt, rfl, rfl, hle⟩ := hrel
    obtain ⟨x, rfl, k0, k1⟩ := HPw.out.plan.at j hlt
    have HLT : Hid (j < n3) := hlt
    have hJ : (j : Int) < (n3 : Int) := by omega
    have J8 : (j : Int) ≤ 8 := by have := L8.out; omega
    have TK : Hid (_ = _) := rdV_take P.plan j (by have := HL3.out; omega)
    have st := ST8.out j (by have := HL3.out; omega)
    have bd := rd_bound P PZ.out j (by have := HL3.out; omega)
    have bd0 := bd.1
    have bd1 : rdV (P.plan.take j) ≤ 400 := by have := L8.out; omega
    have st0 := st.1
    have st1 := st.2
    have mm := M01.out
    have m40 : m ≤ 400 := by have := R4.out; omega
    obtain ⟨⟨g, t⟩, hL⟩ : ∃ L, P.plan.getD j (0, 0) = L := ⟨_, rfl⟩
    rw [hL] at k0 k1 TK st0 st1
    simp only at k0 k1 TK st0 st1
    clear hL bd st
    obtain ⟨sm, hsm⟩ : ∃ z, rdV (P.plan.take j) = z := ⟨_, rfl⟩
    rw [hsm] at TK bd0 bd1 hle ⊢
    have HSM : Hid (rdV (P.plan.take j) = sm) := hsm
    clear hsm
    by_cases he : t ≤ m - sm
    · have TK2 : Hid (rdV (P.plan.take (j + 1)) = sm + t) := TK.out
      have JN : Hid (j + 1 < n3) := by
        show _ < _
        rcases Nat.lt_or_ge (j + 1) n3 with h | h
        · exact h
        · exfalso
          have e : P.plan.take (j + 1) = P.plan := List.take_of_length_le (by have := HL3.out; omega)
          have := TK2.out
          rw [e, HR.out] at this
          omega
      go_wp2_with fail
      go_round
      case rel => exact ⟨j + 1, JN.out, by go_num, by rw [TK2.out]; go_num, by rw [TK2.out]; omega⟩
      case measure => have := HLT.out; simp [intOf]; omega
    · have EV := tS_at P PZ.out c j (by have := HL3.out; omega) (by rw [HSM.out, HR.out, HM.out]; exact hle) (by rw [TK.out, HR.out, HM.out]; omega)
      rw [TK.out, HR.out, HM.out, HU.out] at EV
      subst EV
      have r0 := R1.out.cell 0 rfl
      have r1 := R1.out.cell 1 rfl
      have r2 := R1.out.cell 2 rfl
      have f0 := R1.out.free 0
      have f1 := R1.out.free 1
      have f2 := R1.out.free 2
      have e1 : t - (m - sm) = sm + t - m := by omega
      go_wp2_with fail
      exact bodyPost_ret (v := .agg #[.int .i64 (j : Int), .int .i64 (sm + t - m), .int .i64 c]) (by simp [results, Tryd.results17, go_sem, r0, r1, r2]) rfl ⟨rfl, (((B1.out).setCell (by have := HSs.out; show w.heap.size ≤ s + 1; omega) _).setCell (by have := HSs.out; show w.heap.size ≤ s + 1; omega) _).setCell (by have := HSs.out; show w.heap.size ≤ s + 1; omega) _⟩
end Go.Proofs.YtgefcoojnahokaaDoor
namespace Go.Proofs.YtgefcoojnahokaaDoor
open Go.RowKit
set_option linter.unusedVariables false

theorem tS_some (P : Plc) (h : pfV P = 0) (c : Int) : ∃ j : Nat, j < P.plan.length ∧ (tS P c).1 = (j : Int) := by
  have rp := rd_pos P h
  have m0 : 0 ≤ c % rdV P.plan := Int.emod_nonneg _ (by omega)
  have m1 : c % rdV P.plan < rdV P.plan := Int.emod_lt_of_pos _ (by omega)
  obtain ⟨m, hm⟩ : ∃ m, c % rdV P.plan = m := ⟨_, rfl⟩
  rw [hm] at m0 m1
  have key : ∀ k, k ≤ P.plan.length → m < rdV (P.plan.take k) → ∃ j, j < k ∧ rdV (P.plan.take j) ≤ m ∧ m < rdV (P.plan.take (j + 1)) := by
    intro k
    induction k with
    | zero => intro _ h0; simp [rdV] at h0; omega
    | succ k ih =>
      intro hk h0
      by_cases h1 : m < rdV (P.plan.take k)
      · obtain ⟨j, hj, h2⟩ := ih (by omega) h1
        exact ⟨j, by omega, h2⟩
      · exact ⟨k, by omega, by omega, h0⟩
  obtain ⟨j, hj, h0, h1⟩ := key P.plan.length (Nat.le_refl _) (by rw [List.take_length]; exact m1)
  refine ⟨j, hj, ?_⟩
  rw [tS_at P h c j hj (by rw [hm]; exact h0) (by rw [hm]; exact h1)]
/-- What the answer's region reads, and that the answer has its place. -/
def Sg (w : World) (s t j : Nat) (L : Int) (c3 n3 : Nat) (x : Addr) (g : Int) : Prop :=
  w.cell? ⟨t, 0, none⟩ = some (.int .i64 (j : Int)) ∧ w.cell? ⟨t, 1, none⟩ = some (.int .i64 L) ∧ w.cell? ⟨s, 3, none⟩ = some (.slice (some x) n3 c3) ∧ w.cell? (x.add (j * 2)) = some (.int .i64 g) ∧ w.there (s + 1) 0 4
theorem Sg.put {w : World} {s t j : Nat} {L : Int} {c3 n3 : Nat} {x : Addr} {g : Int} (h : Sg w s t j L c3 n3 x g) (vs : List Value) (hn : t ≠ s + 1 ∧ (x.add (j * 2)).block ≠ s + 1) : Sg (w.setCells (s + 1) 0 vs) s t j L c3 n3 x g :=
  ⟨(World.cell?_setCells_out _ _ _ _ _ fun e => absurd e hn.1).trans h.1, (World.cell?_setCells_out _ _ _ _ _ fun e => absurd e hn.1).trans h.2.1, (World.cell?_setCells_out _ _ _ _ _ fun e => absurd e (show s ≠ s + 1 by omega)).trans h.2.2.1, (World.cell?_setCells_out _ _ _ _ _ fun e => absurd e hn.2).trans h.2.2.2.1, World.there_setCells h.2.2.2.2 _ _ _⟩

set_option maxRecDepth 20000 in
set_option maxHeartbeats 8000000 in
theorem i_TurnAt (a0 a1 a2 a3 : Option Addr) (n0 c0 n1 c1 n2 c2 n3 c3 : Nat) (P : Plc) (c : Int) (w : World) (h : Pl w a0 n0 c0 a1 n1 c1 a2 n2 c2 a3 n3 c3 P) (hg : w.cell? ⟨0, 0, none⟩ = some (.iface 96 (.agg #[.pointer (some ⟨1, 57, none⟩)]))) :
    Calls Tryd.prog 9 #[.agg #[.slice a0 n0 c0, .slice a1 n1 c1, .slice a2 n2 c2, .slice a3 n3 c3], .int .i64 c] w fun e w' => e = .returned (.agg #[.int .i64 (tR P c).1, .int .i64 (tR P c).2.1, .int .i64 (tR P c).2.2.1, .int .i64 (tR P c).2.2.2]) ∧ Below w.heap.size w w' := by
  obtain ⟨U, hU⟩ : ∃ U, tR P c = U := ⟨_, rfl⟩
  rw [hU]
  have HU : Hid (tR P c = U) := hU
  have H0 : Hid (Pl w a0 n0 c0 a1 n1 c1 a2 n2 c2 a3 n3 c3 P) := h
  clear hU
  generalize hW : (w.alloc (.cells #[.slice a0 n0 c0, .slice a1 n1 c1, .slice a2 n2 c2, .slice a3 n3 c3] 29)).alloc (.cells #[.int .i64 0, .int .i64 0, .int .i64 0, .int .i64 0] 39) = W
  have B0 : Hid (Below w.heap.size w W) := by show Below _ _ _; rw [← hW]; exact al (al (Below.refl _ _) _) _
  obtain ⟨s, hS⟩ : ∃ s, w.heap.size = s := ⟨_, rfl⟩
  have HSs : Hid (w.heap.size = s) := hS
  have Q : Hid (W.cell? ⟨s, 0, none⟩ = some (.slice a0 n0 c0) ∧ W.cell? ⟨s, 1, none⟩ = some (.slice a1 n1 c1) ∧ W.cell? ⟨s, 2, none⟩ = some (.slice a2 n2 c2) ∧ W.cell? ⟨s, 3, none⟩ = some (.slice a3 n3 c3)) := by
    show _ ∧ _
    rw [← hW, ← hS]
    exact ⟨cell_push _ (cell_new rfl), cell_push _ (cell_new rfl), cell_push _ (cell_new rfl), cell_push _ (cell_new rfl)⟩
  have R : Hid (Vb W (s + 1) #[.int .i64 0, .int .i64 0, .int .i64 0, .int .i64 0] 39) := by
    have z1 : s + 1 = (w.alloc (.cells #[.slice a0 n0 c0, .slice a1 n1 c1, .slice a2 n2 c2, .slice a3 n3 c3] 29)).heap.size := by rw [← hS]; simp
    show Vb _ _ _ _
    rw [← hW, z1]
    exact Vb.new _ _ _
  have HP : Hid (Pl W a0 n0 c0 a1 n1 c1 a2 n2 c2 a3 n3 c3 P) := h.stay B0.out
  have HA : Hid (PolAt W s P) := ⟨_, _, _, _, _, _, _, _, _, _, _, _, Q.out.1, Q.out.2.1, Q.out.2.2.1, Q.out.2.2.2, HP.out⟩
  have HG : Hid (W.cell? ⟨0, 0, none⟩ = some (.iface 96 (.agg #[.pointer (some ⟨1, 57, none⟩)]))) := cell_keep B0.out hg
  clear h hg
  have q0 := Q.out.1
  have q1 := Q.out.2.1
  have q2 := Q.out.2.2.1
  have q3 := Q.out.2.2.2
  have fv := field_value
  go_enter Tryd.func9, Tryd.ntmps9
  go_wp2_with fail
  clear hW hS
  refine (i_clockFault _ _ _ _ _ _ _ _ _ _ _ _ P _ _ HP.out HG.out).mono ?_
  rintro e w1 ⟨rfl, b1⟩
  have B1 : Hid (Below w.heap.size w w1) := on B0.out b1
  have q0 := cell_keep b1 Q.out.1
  have q1 := cell_keep b1 Q.out.2.1
  have q2 := cell_keep b1 Q.out.2.2.1
  have q3 := cell_keep b1 Q.out.2.2.2
  have R1 : Hid (Vb w1 (s + 1) #[.int .i64 0, .int .i64 0, .int .i64 0, .int .i64 0] 39) := R.out.keep b1
  by_cases hz : ckV P c = 0
  · obtain ⟨pz, cl, cu⟩ := ck_pf hz
    rw [hz]
    obtain ⟨j, hj, hs⟩ := tS_some P pz c
    have HU2 : Hid ((0, (j : Int), (P.plan.getD j (0, 0)).1, (tS P c).2) = U) := by
      show _ = _
      rw [← HU.out, tR, if_pos hz, tG, hs]
      simp
    have HJ : Hid (j < P.plan.length) := hj
    have HSJ : Hid ((tS P c).1 = (j : Int)) := hs
    have PZ : Hid (pfV P = 0 ∧ 0 ≤ c ∧ c ≤ 1000000) := ⟨pz, cl, cu⟩
    have HB1 : Hid (Below W.heap.size W w1) := b1
    clear hz pz cl cu hj hs b1
    go_wp2_with fail
    clear q0 q1 q2 q3
    refine (i_turnAt _ _ _ _ _ _ _ _ _ _ _ _ P c _ (HP.out.stay HB1.out) (cell_keep HB1.out HG.out) PZ.out.1 PZ.out.2.1 PZ.out.2.2).mono ?_
    rintro e w2 ⟨rfl, b2⟩
    rw [HSJ.out]
    obtain ⟨L, hL⟩ : ∃ L, (tS P c).2 = L := ⟨_, rfl⟩
    rw [hL] at HU2 ⊢
    clear hL
    have q3 := cell_keep b2 (cell_keep HB1.out Q.out.2.2.2)
    have HQ3 : Hid (_ = _) := q3
    have R2 : Hid (Vb w2 (s + 1) #[.int .i64 0, .int .i64 0, .int .i64 0, .int .i64 0] 39) := R1.out.keep b2
    have B2 : Hid (Below w.heap.size w w2) := on B1.out b2
    have HPw : Hid (Pl w2 a0 n0 c0 a1 n1 c1 a2 n2 c2 a3 n3 c3 P) := (HP.out.stay HB1.out).stay b2
    obtain ⟨x, hx, k0, k1⟩ := HPw.out.plan.at j (by rw [HPw.out.plan.len]; exact HJ.out)
    obtain ⟨x', hx', k0', k1'⟩ := H0.out.plan.at j (by rw [HPw.out.plan.len]; exact HJ.out)
    have XL : Hid ((x.add (j * 2)).block < s) := by
      have e : x = x' := Option.some.inj (hx.symm.trans hx')
      subst e
      show _ < _
      have bk : (x.add (j * 2)).block < w.heap.size := block_of_cell k0'
      rw [← HSs.out]
      exact bk
    clear hx' k0' k1' x' k1
    subst hx
    have JN : (j : Int) < (n3 : Int) := by have := HJ.out; have := HPw.out.plan.len; omega
    have J8 : (j : Int) ≤ 8 := by have := HJ.out; have := (pf_plan P PZ.out.1).1; omega
    obtain ⟨g, hgg⟩ : ∃ g, (P.plan.getD j (0, 0)).1 = g := ⟨_, rfl⟩
    rw [hgg] at HU2 k0
    have HK0 : Hid (w2.cell? (x.add (j * 2)) = some (.int .i64 g)) := k0
    have E := HU2.out
    subst E
    clear hgg b2 k0 q3
    go_upto_region 5 with fail
    have V3 : Hid (Vb (w2.alloc (.cells #[.int .i64 (j : Int), .int .i64 L, .int .i64 c] 47)) w2.heap.size #[.int .i64 (j : Int), .int .i64 L, .int .i64 c] 47) := Vb.new _ _ _
    have b3 : Below w2.heap.size w2 (w2.alloc (.cells #[.int .i64 (j : Int), .int .i64 L, .int .i64 c] 47)) := al (Below.refl _ _) _
    have B3 : Hid (Below w.heap.size w (w2.alloc (.cells #[.int .i64 (j : Int), .int .i64 L, .int .i64 c] 47))) := on B2.out b3
    have R3 : Hid (Vb (w2.alloc (.cells #[.int .i64 (j : Int), .int .i64 L, .int .i64 c] 47)) (s + 1) #[.int .i64 0, .int .i64 0, .int .i64 0, .int .i64 0] 39) := R2.out.keep b3
    have q3 := cell_keep b3 HQ3.out
    have k0 := cell_keep b3 HK0.out
    have NT : Hid (w2.heap.size ≠ s + 1 ∧ (x.add (j * 2)).block ≠ s + 1) := by
      have := R2.out.lt
      have := XL.out
      exact ⟨by omega, by omega⟩
    clear b3
    generalize w2.alloc (.cells #[.int .i64 (j : Int), .int .i64 L, .int .i64 c] 47) = w3 at *
    generalize w2.heap.size = t at *
    have SG : Hid (Sg w3.drew s t j L c3 n3 x g) := ⟨V3.out.cell 0 rfl, V3.out.cell 1 rfl, q3, k0, fun i hi => ⟨by rw [show w3.drew.cell? ⟨s + 1, 0 + i, none⟩ = w3.cell? ⟨s + 1, 0 + i, none⟩ from rfl, R3.out.cell (0 + i) (v := .int .i64 0) (by rcases (show i = 0 ∨ i = 1 ∨ i = 2 ∨ i = 3 by omega) with rfl | rfl | rfl | rfl <;> rfl)]; rfl, R3.out.free _⟩⟩
    refine wp_region_held (S := fun w' => Sg w' s t j L c3 n3 x g) (by kernel_rfl) ?_
    change wpAnyH _ _ _ _ _ _ _ _ (World.drew _)
    have BX : Hid (Below w.heap.size w w3.drew) := B3.out.drew
    generalize w3.drew = x0 at *
    refine wpAnyH_take (i := 0) (v := .pointer (some ⟨t, 0, none⟩)) rfl (by kernel_rfl) (by kernel_rfl) (by kernel_rfl) (fun _ _ _ h => h) (Or.inl ⟨by rfl, fun w' hs => by go_simp⟩) SG.out ?_
    change wpAnyH _ _ _ _ _ _ _ (Act.put _ (some 17) _) _
    simp only [Act.put, List.setIfInBounds_toArray, List.set_cons_zero, List.set_cons_succ]
    refine wpAnyH_take (i := 1) (v := .int .i64 (j : Int)) rfl (by kernel_rfl) (by kernel_rfl) (by kernel_rfl) (fun _ _ _ h => h) (Or.inl ⟨by rfl, fun w' hs => by obtain ⟨y0, y1, y2, y3, _⟩ := hs; go_simp⟩) SG.out ?_
    change wpAnyH _ _ _ _ _ _ _ (Act.put _ (some 18) _) _
    simp only [Act.put, List.setIfInBounds_toArray, List.set_cons_zero, List.set_cons_succ]
    refine wpAnyH_take (i := 2) (v := .pointer (some ⟨s, 3, none⟩)) rfl (by kernel_rfl) (by kernel_rfl) (by kernel_rfl) (fun _ _ _ h => h) (Or.inl ⟨by rfl, fun w' hs => by go_simp⟩) SG.out ?_
    change wpAnyH _ _ _ _ _ _ _ (Act.put _ (some 19) _) _
    simp only [Act.put, List.setIfInBounds_toArray, List.set_cons_zero, List.set_cons_succ]
    refine wpAnyH_take (i := 3) (v := .slice (some x) n3 c3) rfl (by kernel_rfl) (by kernel_rfl) (by kernel_rfl) (fun _ _ _ h => h) (Or.inl ⟨by rfl, fun w' hs => by obtain ⟨y0, y1, y2, y3, _⟩ := hs; go_simp⟩) SG.out ?_
    change wpAnyH _ _ _ _ _ _ _ (Act.put _ (some 20) _) _
    simp only [Act.put, List.setIfInBounds_toArray, List.set_cons_zero, List.set_cons_succ]
    refine wpAnyH_take (i := 4) (v := .pointer (some ⟨t, 0, none⟩)) rfl (by kernel_rfl) (by kernel_rfl) (by kernel_rfl) (fun _ _ _ h => h) (Or.inl ⟨by rfl, fun w' hs => by go_simp⟩) SG.out ?_
    change wpAnyH _ _ _ _ _ _ _ (Act.put _ (some 21) _) _
    simp only [Act.put, List.setIfInBounds_toArray, List.set_cons_zero, List.set_cons_succ]
    refine wpAnyH_take (i := 5) (v := .int .i64 (j : Int)) rfl (by kernel_rfl) (by kernel_rfl) (by kernel_rfl) (fun _ _ _ h => h) (Or.inl ⟨by rfl, fun w' hs => by obtain ⟨y0, y1, y2, y3, _⟩ := hs; go_simp⟩) SG.out ?_
    change wpAnyH _ _ _ _ _ _ _ (Act.put _ (some 22) _) _
    simp only [Act.put, List.setIfInBounds_toArray, List.set_cons_zero, List.set_cons_succ]
    refine wpAnyH_take (i := 6) (v := .pointer (some (x.add (j * 2)))) rfl (by kernel_rfl) (by kernel_rfl) (by kernel_rfl) (fun _ _ _ h => h) (Or.inl ⟨by rfl, fun w' hs => by go_simp⟩) SG.out ?_
    change wpAnyH _ _ _ _ _ _ _ (Act.put _ (some 23) _) _
    simp only [Act.put, List.setIfInBounds_toArray, List.set_cons_zero, List.set_cons_succ]
    refine wpAnyH_take (i := 7) (v := .pointer (some (x.add (j * 2)))) rfl (by kernel_rfl) (by kernel_rfl) (by kernel_rfl) (fun _ _ _ h => h) (Or.inl ⟨by rfl, fun w' hs => by go_simp⟩) SG.out ?_
    change wpAnyH _ _ _ _ _ _ _ (Act.put _ (some 24) _) _
    simp only [Act.put, List.setIfInBounds_toArray, List.set_cons_zero, List.set_cons_succ]
    refine wpAnyH_take (i := 8) (v := .int .i64 g) rfl (by kernel_rfl) (by kernel_rfl) (by kernel_rfl) (fun _ _ _ h => h) (Or.inl ⟨by rfl, fun w' hs => by obtain ⟨y0, y1, y2, y3, _⟩ := hs; go_simp⟩) SG.out ?_
    change wpAnyH _ _ _ _ _ _ _ (Act.put _ (some 25) _) _
    simp only [Act.put, List.setIfInBounds_toArray, List.set_cons_zero, List.set_cons_succ]
    refine wpAnyH_take (i := 9) (v := .pointer (some ⟨t, 1, none⟩)) rfl (by kernel_rfl) (by kernel_rfl) (by kernel_rfl) (fun _ _ _ h => h) (Or.inl ⟨by rfl, fun w' hs => by go_simp⟩) SG.out ?_
    change wpAnyH _ _ _ _ _ _ _ (Act.put _ (some 26) _) _
    simp only [Act.put, List.setIfInBounds_toArray, List.set_cons_zero, List.set_cons_succ]
    refine wpAnyH_take (i := 10) (v := .int .i64 L) rfl (by kernel_rfl) (by kernel_rfl) (by kernel_rfl) (fun _ _ _ h => h) (Or.inl ⟨by rfl, fun w' hs => by obtain ⟨y0, y1, y2, y3, _⟩ := hs; go_simp⟩) SG.out ?_
    change wpAnyH _ _ _ _ _ _ _ (Act.put _ (some 27) _) _
    simp only [Act.put, List.setIfInBounds_toArray, List.set_cons_zero, List.set_cons_succ]
    refine wpAnyH_take (i := 11) (v := .agg #[.int .i64 g, .int .i64 L]) rfl (by kernel_rfl) (by kernel_rfl) (by kernel_rfl) (fun _ _ _ h => h) (Or.inl ⟨by rfl, fun w' hs => by go_simp⟩) SG.out ?_
    change wpAnyH _ _ _ _ _ _ _ (Act.put _ (some 28) _) _
    simp only [Act.put, List.setIfInBounds_toArray, List.set_cons_zero, List.set_cons_succ]
    refine wpAnyH_take (i := 12) (v := .agg #[.int .i64 0, .int .i64 (j : Int), .int .i64 g, .int .i64 L]) rfl (by kernel_rfl) (by kernel_rfl) (by kernel_rfl) (fun _ _ _ h => h) (Or.inl ⟨by rfl, fun w' hs => by go_simp⟩) SG.out ?_
    change wpAnyH _ _ _ _ _ _ _ (Act.put _ (some 29) _) _
    simp only [Act.put, List.setIfInBounds_toArray, List.set_cons_zero, List.set_cons_succ]
    refine wpAnyH_ready (rs := [13]) (by kernel_rfl) (by simp) ?_
    refine AllReadyH.cons rfl (fun K hK => ?_) AllReadyH.nil
    rw [if_pos (by rfl)]
    refine wp_store_mid 39 (.tmp 4) (.tmp 29) rfl (s + 1) 0 #[.int .i64 0, .int .i64 (j : Int), .int .i64 g, .int .i64 L] rfl rfl SG.out.2.2.2.2 (by kernel_rfl) (by simp [Value.oneCell']) ?_
    change K (Act.put _ none undef) _
    simp only [Act.put]
    have R4 : Hid ((x0.setCells (s + 1) 0 [.int .i64 0, .int .i64 (j : Int), .int .i64 g, .int .i64 L]).rangeAt (s + 1) 0 [.int .i64 0, .int .i64 (j : Int), .int .i64 g, .int .i64 L]) := World.rangeAt_setCells_same _ _ _ _ SG.out.2.2.2.2
    have S4 : Hid (Sg (x0.setCells (s + 1) 0 [.int .i64 0, .int .i64 (j : Int), .int .i64 g, .int .i64 L]) s t j L c3 n3 x g) := SG.out.put _ NT.out
    have B4 : Hid (Below w.heap.size w (x0.setCells (s + 1) 0 [.int .i64 0, .int .i64 (j : Int), .int .i64 g, .int .i64 L])) := ((((BX.out.setCell (by have := HSs.out; show w.heap.size ≤ s + 1; omega) _).setCell (by have := HSs.out; show w.heap.size ≤ s + 1; omega) _).setCell (by have := HSs.out; show w.heap.size ≤ s + 1; omega) _).setCell (by have := HSs.out; show w.heap.size ≤ s + 1; omega) _)
    generalize x0.setCells (s + 1) 0 [.int .i64 0, .int .i64 (j : Int), .int .i64 g, .int .i64 L] = x1 at *
    refine hK.out _ _ S4.out (fun _ => ?_)
    clear hK K
    refine wpAnyH_done (by kernel_rfl) ?_ _
    have LD := run_loadVar_mid (P := Tryd.prog) x1 (s + 1) 0 39 [.int .i64 0, .int .i64 (j : Int), .int .i64 g, .int .i64 L] _ R4.out Tryd.underlying39 rfl (by kernel_rfl)
    go_wp2_with fail
    exact bodyPost_ret (v := .agg #[.int .i64 0, .int .i64 (j : Int), .int .i64 g, .int .i64 L]) (by simp [results, Tryd.results9, asAddr]; rw [LD]) rfl ⟨rfl, B4.out⟩
  · have HU2 : Hid ((ckV P c, (0 : Int), (0 : Int), (0 : Int)) = U) := by
      show _ = _
      rw [← HU.out, tR, if_neg hz]
    generalize hv : ckV P c = v at *
    have E := HU2.out
    subst E
    have r0 := R1.out.cell 0 rfl
    have r1 := R1.out.cell 1 rfl
    have r2 := R1.out.cell 2 rfl
    have r3 := R1.out.cell 3 rfl
    have f0 := R1.out.free 0
    have f1 := R1.out.free 1
    have f2 := R1.out.free 2
    have f3 := R1.out.free 3
    go_wp2_with fail
    exact bodyPost_ret (v := .agg #[.int .i64 v, .int .i64 0, .int .i64 0, .int .i64 0]) (by simp [results, Tryd.results9, go_sem, r0, r1, r2, r3]) rfl ⟨rfl, ((((B1.out).setCell (by have := HSs.out; show w.heap.size ≤ s + 1; omega) _).setCell (by have := HSs.out; show w.heap.size ≤ s + 1; omega) _).setCell (by have := HSs.out; show w.heap.size ≤ s + 1; omega) _).setCell (by have := HSs.out; show w.heap.size ≤ s + 1; omega) _⟩
end Go.Proofs.YtgefcoojnahokaaDoor
namespace Go.Proofs.YtgefcoojnahokaaDoor
open Go.RowKit
set_option linter.unusedVariables false

/-- Strangers to a guest, of the first n guests. -/
def strB (P : Plc) (g x : Int) : Bool := !decide (x = g) && !decide (x ∈ rch P g)
def strL (P : Plc) (g : Int) (n : Nat) : List Int := ((List.range n).map fun (i : Nat) => (i : Int)).filter (strB P g)
theorem str_succ (P : Plc) (g : Int) (n : Nat) : strL P g (n + 1) = strL P g n ++ (if strB P g n then [(n : Int)] else []) := by
  unfold strL
  rw [List.range_succ, List.map_append, List.filter_append]
  congr 1
  cases h : strB P g n <;> simp [h]
theorem str_lenL (P : Plc) (g : Int) (n : Nat) : (strL P g n).length ≤ n := by
  unfold strL
  refine Nat.le_trans (List.length_filter_le _ _) ?_
  simp
def strZ (P : Plc) (g : Int) : List Int := if askV P g = 0 then strL P g P.own.length else []
theorem str_len (P : Plc) (g : Int) : (strZ P g).length ≤ 8 := by
  unfold strZ
  split
  · rename_i h
    have := str_lenL P g P.own.length
    have := (pf_parts P (ask_pf P g h)).1
    omega
  · simp

/-- The kinds for which a list leads to a page. -/
def kdV (rs : List (Int × Int)) (x : Int) : Int := rs.foldl (fun k r => if r.1 = x then bits BinOp.or .i64 k r.2 else k) 0
def kdB (rs : List (Int × Int)) (x : Int) : Bool := rs.any fun r => decide (r.1 = x)
theorem kd_take (rs : List (Int × Int)) (x : Int) (j : Nat) (h : j < rs.length) : kdV (rs.take (j + 1)) x = if (rs.getD j (0, 0)).1 = x then bits BinOp.or .i64 (kdV (rs.take j) x) (rs.getD j (0, 0)).2 else kdV (rs.take j) x := by
  unfold kdV
  rw [List.take_succ_eq_append_getElem h, List.foldl_append, List.getD, List.getElem?_eq_getElem h]
  rfl
theorem kdb_take (rs : List (Int × Int)) (x : Int) (j : Nat) (h : j < rs.length) : kdB (rs.take (j + 1)) x = (kdB (rs.take j) x || decide ((rs.getD j (0, 0)).1 = x)) := by
  unfold kdB
  rw [List.take_succ_eq_append_getElem h, List.any_append, List.getD, List.getElem?_eq_getElem h]
  simp
/-- May be written to, by its kinds. -/
def wrB (k : Int) : Bool := !decide (bits BinOp.and .i64 k 2 = 0)
theorem bits_small : ∀ a b : Fin 8, (0 ≤ bits BinOp.or .i64 (a.val : Int) (b.val : Int) ∧ bits BinOp.or .i64 (a.val : Int) (b.val : Int) < 8) ∧ wrB (bits BinOp.or .i64 (a.val : Int) (b.val : Int)) = (wrB a.val || wrB b.val) := by decide +kernel
def KOk (k : Int) : Prop := 0 ≤ k ∧ k < 8
theorem bits_or (a b : Int) (ha : KOk a) (hb : KOk b) : KOk (bits BinOp.or .i64 a b) ∧ wrB (bits BinOp.or .i64 a b) = (wrB a || wrB b) := by
  obtain ⟨x, rfl⟩ := Int.eq_ofNat_of_zero_le ha.1
  obtain ⟨y, rfl⟩ := Int.eq_ofNat_of_zero_le hb.1
  exact bits_small ⟨x, by have := ha.2; omega⟩ ⟨y, by have := hb.2; omega⟩
theorem wr0 : wrB 0 = false := by decide +kernel
theorem kd_fold (x : Int) : ∀ (rs : List (Int × Int)) (k : Int), KOk k → (∀ r ∈ rs, KOk r.2) →
    wrB (rs.foldl (fun k r => if r.1 = x then bits BinOp.or .i64 k r.2 else k) k) = (wrB k || rs.any fun r => decide (r.1 = x) && wrB r.2) := by
  intro rs
  induction rs with
  | nil => intro k _ _; simp
  | cons r t ih =>
    intro k hk hr
    rw [List.foldl_cons, List.any_cons]
    have h2 : ∀ r ∈ t, KOk r.2 := fun y hy => hr y (List.mem_cons_of_mem _ hy)
    by_cases h : r.1 = x
    · have hb := bits_or k r.2 hk (hr r List.mem_cons_self)
      rw [if_pos h, ih _ hb.1 h2, hb.2, decide_eq_true h]
      simp [Bool.or_assoc]
    · rw [if_neg h, ih _ hk h2, decide_eq_false h]
      simp
theorem kd_wr (rs : List (Int × Int)) (x : Int) (h : ∀ r ∈ rs, KOk r.2) : wrB (kdV rs x) = rs.any fun r => decide (r.1 = x) && wrB r.2 := by
  unfold kdV
  rw [kd_fold x rs 0 ⟨by decide, by decide⟩ h, wr0]
  rfl

/-- The pages below n that may be written to, and the model's: those of the list, put in their order. -/
def mayL (rs : List (Int × Int)) (n : Nat) : List Int := ((List.range n).map fun (i : Nat) => (i : Int)).filter fun x => wrB (kdV rs x)
theorem may_succ (rs : List (Int × Int)) (n : Nat) : mayL rs (n + 1) = mayL rs n ++ (if wrB (kdV rs n) then [(n : Int)] else []) := by
  unfold mayL
  rw [List.range_succ, List.map_append, List.filter_append]
  congr 1
  cases h : wrB (kdV rs n) <;> simp [h]
theorem may_lenL (rs : List (Int × Int)) (n : Nat) : (mayL rs n).length ≤ n := by
  unfold mayL
  refine Nat.le_trans (List.length_filter_le _ _) ?_
  simp
theorem may_mem (rs : List (Int × Int)) (n : Nat) (x : Int) : x ∈ mayL rs n ↔ (0 ≤ x ∧ x < n) ∧ wrB (kdV rs x) = true := by
  unfold mayL
  rw [List.mem_filter, List.mem_map]
  constructor
  · rintro ⟨⟨i, hi, rfl⟩, h⟩
    rw [List.mem_range] at hi
    exact ⟨⟨by omega, by omega⟩, h⟩
  · rintro ⟨⟨h1, h2⟩, h⟩
    refine ⟨⟨x.toNat, List.mem_range.2 (by omega), by omega⟩, h⟩
theorem may_up (rs : List (Int × Int)) : ∀ n, Up (mayL rs n) := by
  intro n
  induction n with
  | zero => exact List.Pairwise.nil
  | succ n ih =>
    rw [may_succ]
    split
    · unfold Up at *
      rw [List.pairwise_append]
      refine ⟨ih, by simp, fun a ha b hb => ?_⟩
      rw [List.mem_singleton] at hb
      have := ((may_mem rs n a).1 ha).1.2
      omega
    · rw [List.append_nil]; exact ih
def mayF (z : List Int) : List (Int × Int) → List Int
  | [] => z
  | r :: t => mayF (if wrB r.2 then riseV z r.1 else z) t
theorem mayF_step (z : List Int) (rs : List (Int × Int)) (j : Nat) (h : j < rs.length) : mayF z (rs.drop j) = mayF (if wrB (rs.getD j (0, 0)).2 then riseV z (rs.getD j (0, 0)).1 else z) (rs.drop (j + 1)) := by
  rw [List.drop_eq_getElem_cons h, mayF, List.getD, List.getElem?_eq_getElem h]
  rfl
theorem mayF_up : ∀ (rs : List (Int × Int)) (z : List Int), Up z → Up (mayF z rs) := by
  intro rs
  induction rs with
  | nil => intro z h; exact h
  | cons r t ih => intro z h; rw [mayF]; refine ih _ ?_; split; exact riseV_up _ _ h; exact h
theorem mayF_mem (x : Int) : ∀ (rs : List (Int × Int)) (z : List Int), x ∈ mayF z rs ↔ (x ∈ z ∨ ∃ r ∈ rs, r.1 = x ∧ wrB r.2 = true) := by
  intro rs
  induction rs with
  | nil => intro z; simp [mayF]
  | cons r t ih =>
    intro z
    rw [mayF, ih]
    split
    · rename_i h
      rw [riseV_mem]
      simp only [List.mem_cons, exists_eq_or_imp]
      constructor
      · rintro ((rfl | h1) | h1)
        · exact .inr (.inl ⟨rfl, h⟩)
        · exact .inl h1
        · exact .inr (.inr h1)
      · rintro (h1 | ⟨rfl, _⟩ | h1)
        · exact .inl (.inr h1)
        · exact .inl (.inl rfl)
        · exact .inr h1
    · rename_i h
      simp only [List.mem_cons, exists_eq_or_imp]
      constructor
      · rintro (h1 | h1)
        · exact .inl h1
        · exact .inr (.inr h1)
      · rintro (h1 | ⟨_, h2⟩ | h1)
        · exact .inl h1
        · exact absurd h2 h
        · exact .inr h1
theorem may_eq (rs : List (Int × Int)) (h : ∀ r ∈ rs, KOk r.2 ∧ (wrB r.2 = true → 0 ≤ r.1 ∧ r.1 < 24)) : mayF [] rs = mayL rs 24 := by
  refine up_ext _ _ (mayF_up _ _ List.Pairwise.nil) (may_up _ _) (fun x => ?_)
  rw [mayF_mem, may_mem, kd_wr rs x (fun r hr => (h r hr).1)]
  simp only [List.not_mem_nil, false_or, List.any_eq_true, Bool.and_eq_true, decide_eq_true_eq]
  constructor
  · rintro ⟨r, hr, rfl, hw⟩
    have := (h r hr).2 hw
    exact ⟨⟨this.1, by omega⟩, r, hr, rfl, hw⟩
  · rintro ⟨_, r, hr, h1, h2⟩
    exact ⟨r, hr, h1, h2⟩
theorem kok (k : Nat) (h : k < 8) : KOk (k : Int) := ⟨by omega, by omega⟩
theorem lanes_pg (own : List (List Int)) : ∀ (ls ahead : List Ln), lanesV own ahead ls = 0 → ∀ l ∈ ls, 0 ≤ l.pg ∧ l.pg < 24 := by
  intro ls
  induction ls with
  | nil => intro ahead _ l hl; cases hl
  | cons a t ih =>
    intro ahead h l hl
    rw [lanesV] at h
    split at h
    · rename_i h1
      rcases List.mem_cons.1 hl with rfl | hl
      · rw [laneV] at h1
        split at h1
        · split at h1
          · cases h1
          · rename_i h2
            simp only [not_or, Bool.not_eq_false] at h2
            have := h2.1
            simp [pgOk] at this
            omega
        · rename_i h2
          exact absurd h1 h2
      · exact ih _ h l hl
    · rename_i h1
      exact absurd h h1
theorem first_ok (g k : Int) (ls : List Ln) (h : ∀ l ∈ ls, 0 ≤ l.pg ∧ l.pg < 24) : KOk (firstM g k ls).2 ∧ (wrB (firstM g k ls).2 = true → 0 ≤ (firstM g k ls).1 ∧ (firstM g k ls).1 < 24) := by
  induction ls with
  | nil => rw [firstM]; exact ⟨kok 0 (by omega), fun h => by simp [wr0] at h⟩
  | cons l t ih =>
    have hl := h l List.mem_cons_self
    have i := ih fun x hx => h x (List.mem_cons_of_mem _ hx)
    rw [firstM]
    unfold matchL
    split
    · rename_i x hx
      split at hx
      · cases hx; exact ⟨kok 3 (by omega), fun _ => hl⟩
      · split at hx
        · cases hx; exact ⟨kok 1 (by omega), fun _ => hl⟩
        · cases hx
    · exact i
theorem pfor_ok (P : Plc) (g : Int) (h : askV P g = 0) : ∀ r ∈ pforL (P.own.getD g.toNat []) P.lanes g 8, KOk r.2 ∧ (wrB r.2 = true → 0 ≤ r.1 ∧ r.1 < 24) := by
  intro r hr
  have hp := ask_pf P g h
  have hg := ask_guest P g h
  unfold pforL at hr
  obtain ⟨k, hk, rfl⟩ := List.mem_map.1 hr
  rw [List.mem_range] at hk
  unfold pageV
  split
  · rename_i hl
    have := (pf_own P hp g.toNat (by omega)).2.2 _ (getD_mem (P.own.getD g.toNat []) 0 k hl)
    exact ⟨kok 7 (by omega), fun _ => ⟨this.1, by omega⟩⟩
  · exact first_ok g k _ (lanes_pg _ _ _ (pf_parts P hp).2.2.1)
def mayZ (P : Plc) (g : Int) : List Int := if askV P g = 0 then mayL (pforL (P.own.getD g.toNat []) P.lanes g 8) 24 else []
theorem may_len (P : Plc) (g : Int) : (mayZ P g).length ≤ 24 := by
  unfold mayZ
  split
  · exact may_lenL _ _
  · simp

/-- The plan gone over twice: the longest gap so far, and the one under way. -/
def gst (g : Int) (s x : Int × Int) : Int × Int := if x.1 = g then (s.1, 0) else (max s.1 (s.2 + x.2), s.2 + x.2)
def gN (P : Plc) (g : Int) (n : Nat) : Int × Int := ((P.plan ++ P.plan).take n).foldl (gst g) (0, 0)
theorem gN_zero (P : Plc) (g : Int) : gN P g 0 = (0, 0) := by simp [gN]
theorem two_get (zs : List (Int × Int)) (n : Nat) (h : n < 2 * zs.length) : (zs ++ zs)[n]? = some (zs.getD (n % zs.length) (0, 0)) := by
  by_cases h1 : n < zs.length
  · rw [List.getElem?_append_left h1, Nat.mod_eq_of_lt h1, List.getD, List.getElem?_eq_getElem h1]; rfl
  · have h2 : n - zs.length < zs.length := by omega
    rw [List.getElem?_append_right (by omega), Nat.mod_eq_sub_mod (by omega), Nat.mod_eq_of_lt h2, List.getD, List.getElem?_eq_getElem h2]; rfl
theorem gN_succ (P : Plc) (g : Int) (n : Nat) (h : n < 2 * P.plan.length) : gN P g (n + 1) = gst g (gN P g n) (P.plan.getD (n % P.plan.length) (0, 0)) := by
  unfold gN
  rw [List.take_add_one, two_get _ n h, List.foldl_append]
  rfl
theorem gN_bound (P : Plc) (hp : pfV P = 0) (g : Int) : ∀ n, n ≤ 2 * P.plan.length → (0 ≤ (gN P g n).1 ∧ (gN P g n).1 ≤ 50 * n) ∧ (0 ≤ (gN P g n).2 ∧ (gN P g n).2 ≤ 50 * n) := by
  intro n
  induction n with
  | zero => intro _; rw [gN_zero]; simp
  | succ n ih =>
    intro h
    have i := ih (by omega)
    have hl : 0 < P.plan.length := by omega
    have st := (pf_plan P hp).2 (n % P.plan.length) (Nat.mod_lt _ hl)
    rw [gN_succ P g n (by omega)]
    unfold gst
    split
    · exact ⟨⟨by omega, by omega⟩, by simp; omega⟩
    · refine ⟨⟨?_, ?_⟩, ?_, ?_⟩ <;> simp only <;> omega
def gpR (P : Plc) (g : Int) : Int × Int := if askV P g = 0 then (if frV g P.plan = 0 then (10, 0) else (0, (gN P g (2 * P.plan.length)).1)) else (askV P g, 0)
end Go.Proofs.YtgefcoojnahokaaDoor
namespace Go.Proofs.YtgefcoojnahokaaDoor
open Go.RowKit
set_option linter.unusedVariables false

set_option maxRecDepth 20000 in
set_option maxHeartbeats 8000000 in
theorem i_gap (a0 a1 a2 a3 : Option Addr) (n0 c0 n1 c1 n2 c2 n3 c3 : Nat) (P : Plc) (gu : Int) (w : World) (h : Pl w a0 n0 c0 a1 n1 c1 a2 n2 c2 a3 n3 c3 P) (hg : w.cell? ⟨0, 0, none⟩ = some (.iface 96 (.agg #[.pointer (some ⟨1, 57, none⟩)]))) :
    Calls Tryd.prog 6 #[.agg #[.slice a0 n0 c0, .slice a1 n1 c1, .slice a2 n2 c2, .slice a3 n3 c3], .int .i64 gu] w fun e w' => e = .returned (.agg #[.int .i64 (gpR P gu).1, .int .i64 (gpR P gu).2]) ∧ Below w.heap.size w w' := by
  obtain ⟨U, hU⟩ : ∃ U, gpR P gu = U := ⟨_, rfl⟩
  rw [hU]
  have HU : Hid (gpR P gu = U) := hU
  clear hU
  obtain ⟨U1, U2⟩ := U
  generalize hW : (w.alloc (.cells #[.slice a0 n0 c0, .slice a1 n1 c1, .slice a2 n2 c2, .slice a3 n3 c3] 29)).alloc (.cells #[.int .i64 0, .int .i64 0] 33) = W
  have B0 : Hid (Below w.heap.size w W) := by show Below _ _ _; rw [← hW]; exact al (al (Below.refl _ _) _) _
  obtain ⟨s, hS⟩ : ∃ s, w.heap.size = s := ⟨_, rfl⟩
  have HSs : Hid (w.heap.size = s) := hS
  have Q : Hid (Vb W s #[.slice a0 n0 c0, .slice a1 n1 c1, .slice a2 n2 c2, .slice a3 n3 c3] 29) := by show Vb _ _ _ _; rw [← hW, ← hS]; exact (Vb.new _ _ _).push _
  have R : Hid (Vb W (s + 1) #[.int .i64 0, .int .i64 0] 33) := by
    have z1 : s + 1 = (w.alloc (.cells #[.slice a0 n0 c0, .slice a1 n1 c1, .slice a2 n2 c2, .slice a3 n3 c3] 29)).heap.size := by rw [← hS]; simp
    show Vb _ _ _ _; rw [← hW, z1]; exact Vb.new _ _ _
  have HP : Hid (Pl W a0 n0 c0 a1 n1 c1 a2 n2 c2 a3 n3 c3 P) := h.stay B0.out
  have HG : Hid (W.cell? ⟨0, 0, none⟩ = some (.iface 96 (.agg #[.pointer (some ⟨1, 57, none⟩)]))) := cell_keep B0.out hg
  clear h hg
  have q0 := Q.out.cell 0 rfl
  have q1 := Q.out.cell 1 rfl
  have q2 := Q.out.cell 2 rfl
  have q3 := Q.out.cell 3 rfl
  go_enter Tryd.func6, Tryd.ntmps6
  go_wp2_with fail
  clear hW hS
  refine (i_framesOf _ _ _ _ _ _ _ _ _ _ _ _ P _ _ HP.out HG.out).mono ?_
  rintro e w1 ⟨rfl, b1⟩
  obtain ⟨F1, hF1⟩ : ∃ F, (fR P gu).1 = F := ⟨_, rfl⟩
  obtain ⟨F2, hF2⟩ : ∃ F, (fR P gu).2 = F := ⟨_, rfl⟩
  rw [hF1, hF2]
  have HF : Hid ((fR P gu).1 = F1 ∧ (fR P gu).2 = F2) := ⟨hF1, hF2⟩
  clear hF1 hF2 q0 q1 q2 q3
  have V1 : Hid (Vb (w1.alloc (.cells #[.int .i64 F1, .int .i64 F2] 33)) w1.heap.size #[.int .i64 F1, .int .i64 F2] 33) := Vb.new _ _ _
  have R1 : Hid (Vb (w1.alloc (.cells #[.int .i64 F1, .int .i64 F2] 33)) (s + 1) #[.int .i64 0, .int .i64 0] 33) := (R.out.keep b1).push _
  have Q1 : Hid (Vb (w1.alloc (.cells #[.int .i64 F1, .int .i64 F2] 33)) s #[.slice a0 n0 c0, .slice a1 n1 c1, .slice a2 n2 c2, .slice a3 n3 c3] 29) := (Q.out.keep b1).push _
  have HPw : Hid (Pl (w1.alloc (.cells #[.int .i64 F1, .int .i64 F2] 33)) a0 n0 c0 a1 n1 c1 a2 n2 c2 a3 n3 c3 P) := HP.out.stay (al b1 _)
  have B1 : Hid (Below w.heap.size w (w1.alloc (.cells #[.int .i64 F1, .int .i64 F2] 33))) := on B0.out (al b1 _)
  clear b1
  go_upto_region 2 with fail
  generalize w1.alloc (.cells #[.int .i64 F1, .int .i64 F2] 33) = W1 at *
  generalize w1.heap.size = s1 at *
  have v0 := V1.out.cell 0 rfl
  have v1 := V1.out.cell 1 rfl
  have r0 := R1.out.cell 0 rfl
  have r1 := R1.out.cell 1 rfl
  have f0 := R1.out.free 0
  have f1 := R1.out.free 1
  by_cases hz : askV P gu = 0
  case neg =>
    have E : askV P gu = F1 := by rw [← HF.out.1, fR, if_neg hz]
    have EU := HU.out
    rw [gpR, if_neg hz, E] at EU
    obtain ⟨rfl, rfl⟩ : F1 = U1 ∧ (0 : Int) = U2 := by simpa using EU
    rw [E] at hz
    clear EU E
    go_wp2_with fail
    exact bodyPost_ret (v := .agg #[.int .i64 F1, .int .i64 0]) (by simp [results, Tryd.results6, go_sem, r0, r1]) rfl ⟨rfl, (B1.out.setCell (by have := HSs.out; show w.heap.size ≤ s + 1; omega) _).setCell (by have := HSs.out; show w.heap.size ≤ s + 1; omega) _⟩
  have PZ : Hid (pfV P = 0) := ask_pf P gu hz
  have e1 : (0 : Int) = F1 := by rw [← HF.out.1, fR, if_pos hz]
  have e2 : frV gu P.plan = F2 := by rw [← HF.out.2, fR, if_pos hz]
  subst e1
  have EU := HU.out
  rw [gpR, if_pos hz, e2] at EU
  have EUH : Hid ((if F2 = 0 then ((10 : Int), (0 : Int)) else (0, (gN P gu (2 * P.plan.length)).1)) = (U1, U2)) := EU
  clear EU e2 hz HF
  by_cases hf : F2 = 0
  · subst hf
    have EU := EUH.out
    rw [if_pos rfl] at EU
    obtain ⟨rfl, rfl⟩ : (10 : Int) = U1 ∧ (0 : Int) = U2 := by simpa using EU
    clear EU
    go_wp2_with fail
    exact bodyPost_ret (v := .agg #[.int .i64 10, .int .i64 0]) (by simp [results, Tryd.results6, go_sem, r0, r1]) rfl ⟨rfl, (B1.out.setCell (by have := HSs.out; show w.heap.size ≤ s + 1; omega) _).setCell (by have := HSs.out; show w.heap.size ≤ s + 1; omega) _⟩
  have EU := EUH.out
  rw [if_neg hf] at EU
  obtain ⟨rfl, e3⟩ : (0 : Int) = U1 ∧ (gN P gu (2 * P.plan.length)).1 = U2 := by simpa using EU
  have E3 : Hid ((gN P gu (2 * P.plan.length)).1 = U2) := e3
  clear EU e3 EUH HU
  have HL3 : Hid (n3 = P.plan.length) := HPw.out.plan.len
  have L8 : Hid (P.plan.length ≤ 8) := (pf_plan P PZ.out).1
  have BD : Hid (∀ n, n ≤ 2 * P.plan.length → (0 ≤ (gN P gu n).1 ∧ (gN P gu n).1 ≤ 50 * n) ∧ (0 ≤ (gN P gu n).2 ∧ (gN P gu n).2 ≤ 50 * n)) := gN_bound P PZ.out gu
  have ST8 : Hid (∀ j, j < P.plan.length → 1 ≤ (P.plan.getD j (0, 0)).2 ∧ (P.plan.getD j (0, 0)).2 ≤ 50) := (pf_plan P PZ.out).2
  have hmax3 : (n3 : Int) ≤ 8 := by have := L8.out; have := HL3.out; omega
  go_wp2_with fail
  clear v0 v1 r0 r1 f0 f1
  go_loopw [6, 7, 23] (fun g6 g7 c wr => ∃ r : Nat, r ≤ 2 ∧ c = .int .i64 r ∧ g6 = .int .i64 (gN P gu (r * n3)).2 ∧ g7 = .int .i64 (gN P gu (r * n3)).1 ∧ Below W1.heap.size W1 wr) (fun _ _ c _ => 2 - (intOf c).toNat)
  case atStart => exact ⟨0, by omega, rfl, by rw [Nat.zero_mul, gN_zero], by rw [Nat.zero_mul, gN_zero], Below.refl _ _⟩
  case round =>
    obtain ⟨r, hr, rfl, rfl, rfl, hB⟩ := hrel
    have HB : Hid (Below W1.heap.size W1 wr) := hB
    have q3 := (Q1.out.keep hB).cell 3 rfl
    by_cases hr2 : r < 2
    · have hR : (r : Int) < 2 := by omega
      have HR2 : Hid (r < 2) := hr2
      clear hB hr2
      go_wp2_with fail
      clear q3
      rename World => wo
      go_loopw [6, 7, 28] (fun g6 g7 c wr => ∃ j : Nat, j ≤ n3 ∧ c = .int .i64 j ∧ g6 = .int .i64 (gN P gu (r * n3 + j)).2 ∧ g7 = .int .i64 (gN P gu (r * n3 + j)).1 ∧ Below W1.heap.size W1 wr) (fun _ _ c _ => n3 - (intOf c).toNat)
      case atStart => exact ⟨0, Nat.zero_le _, rfl, rfl, rfl, HB.out⟩
      case round =>
        clear HB
        obtain ⟨j, hj, rfl, rfl, rfl, hB⟩ := hrel
        have HB : Hid (Below W1.heap.size W1 wr) := hB
        by_cases hlt : j < n3
        · obtain ⟨x, rfl, k0, k1⟩ := (HPw.out.plan.stay hB).at j hlt
          have hJ : (j : Int) < (n3 : Int) := by omega
          have HLT : Hid (j < n3) := hlt
          have MD : (r * n3 + j) % P.plan.length = j := by
            rw [← HL3.out]
            have h2 := HR2.out
            rw [Nat.mul_comm, Nat.mul_add_mod, Nat.mod_eq_of_lt hlt]
          have HLE : Hid (r * n3 + j < 2 * P.plan.length) := by
            show _ < _
            rw [← HL3.out]
            have h2 := HR2.out
            have : r * n3 ≤ 1 * n3 := Nat.mul_le_mul_right _ (by omega)
            omega
          have SU : Hid (_ = _) := gN_succ P gu (r * n3 + j) HLE.out
          rw [MD] at SU
          have bd := BD.out (r * n3 + j) (Nat.le_of_lt HLE.out)
          have st := ST8.out j (by have := HL3.out; omega)
          have l16 : r * n3 + j ≤ 16 := by have := HLE.out; have := L8.out; omega
          obtain ⟨⟨g, t⟩, hL⟩ : ∃ L, P.plan.getD j (0, 0) = L := ⟨_, rfl⟩
          rw [hL] at k0 k1 SU st
          simp only at k0 k1 SU st
          obtain ⟨⟨mo, ru⟩, hM⟩ : ∃ M, gN P gu (r * n3 + j) = M := ⟨_, rfl⟩
          rw [hM] at SU bd ⊢
          simp only at SU bd ⊢
          have b0 : 0 ≤ mo := bd.1.1
          have b1 : mo ≤ 800 := by have := bd.1.2; omega
          have b2 : 0 ≤ ru := bd.2.1
          have b3 : ru ≤ 800 := by have := bd.2.2; omega
          have s0 : 1 ≤ t := st.1
          have s1 : t ≤ 50 := st.2
          have XV : Hid (r * n3 + (j + 1) = r * n3 + j + 1) := by show _ = _; omega
          clear hL hM bd st l16 hlt hB MD
          by_cases he : g = gu
          · have S2 : Hid (gN P gu (r * n3 + (j + 1)) = (mo, 0)) := by show _ = _; rw [XV.out, SU.out, gst, if_pos he]
            clear SU
            by_cases hmm : mo < 0
            · omega
            have hm3 : ¬ mo < 0 := hmm
            go_wp2_with fail
            go_roundw
            case rel => exact ⟨j + 1, by have := HLT.out; omega, by go_num, by rw [S2.out], by rw [S2.out]; first | done | go_num | (congr 1; omega), al HB.out _⟩
            case measure => have := HLT.out; simp [intOf]; omega
          · have S2 : Hid (gN P gu (r * n3 + (j + 1)) = (max mo (ru + t), ru + t)) := by show _ = _; rw [XV.out, SU.out, gst, if_neg he]
            clear SU
            by_cases hmm : mo < ru + t
            · go_wp2_with fail
              go_roundw
              case rel => exact ⟨j + 1, by have := HLT.out; omega, by go_num, by rw [S2.out]; first | done | go_num, by rw [S2.out]; first | done | go_num | (congr 1; omega), al HB.out _⟩
              case measure => have := HLT.out; simp [intOf]; omega
            · have hm3 : ru + t ≤ mo := by omega
              go_wp2_with fail
              go_roundw
              case rel => exact ⟨j + 1, by have := HLT.out; omega, by go_num, by rw [S2.out]; first | done | go_num, by rw [S2.out]; first | done | go_num | (congr 1; omega), al HB.out _⟩
              case measure => have := HLT.out; simp [intOf]; omega
        · have hJ : ¬ (j : Int) < (n3 : Int) := by omega
          have EV : Hid (r * n3 + j = (r + 1) * n3) := by show _ = _; rw [Nat.succ_mul]; omega
          rw [EV.out]
          clear hlt hB
          go_wp2_with fail
          go_roundw
          case rel => exact ⟨r + 1, by have := HR2.out; omega, by go_num, rfl, rfl, HB.out⟩
          case measure => have := HR2.out; simp [intOf]; omega
    · have hR : ¬ (r : Int) < 2 := by omega
      obtain rfl : r = 2 := by omega
      have EV : (gN P gu (2 * n3)).1 = U2 := by rw [HL3.out]; exact E3.out
      have R3 : Hid (Vb wr (s + 1) #[.int .i64 0, .int .i64 0] 33) := R1.out.keep hB
      have BB : Hid (Below w.heap.size w wr) := on B1.out hB
      have r0 := R3.out.cell 0 rfl
      have r1 := R3.out.cell 1 rfl
      have f0 := R3.out.free 0
      have f1 := R3.out.free 1
      rw [EV]
      clear hr2 hB EV q3
      go_wp2_with fail
      exact bodyPost_ret (v := .agg #[.int .i64 0, .int .i64 U2]) (by simp [results, Tryd.results6, go_sem, r0, r1]) rfl ⟨rfl, (BB.out.setCell (by have := HSs.out; show w.heap.size ≤ s + 1; omega) _).setCell (by have := HSs.out; show w.heap.size ≤ s + 1; omega) _⟩
end Go.Proofs.YtgefcoojnahokaaDoor
namespace Go.Proofs.YtgefcoojnahokaaDoor
open Go.RowKit
set_option linter.unusedVariables false

theorem t_max (x y : Int) (w : World) : Calls Tryd.prog 14 #[.int .i64 x, .int .i64 y] w fun e w' => e = .returned (.int .i64 (max x y)) ∧ w' = w := by
  by_cases h : y < x
  · have e : max x y = x := by omega
    rw [e]
    go_enter Tryd.func14, Tryd.ntmps14
    go_wp2_with fail
    go_ret
    exact ⟨rfl, rfl⟩
  · have e : max x y = y := by omega
    rw [e]
    go_enter Tryd.func14, Tryd.ntmps14
    go_wp2_with fail
    go_ret
    exact ⟨rfl, rfl⟩
set_option maxRecDepth 20000 in
set_option maxHeartbeats 8000000 in
theorem s_gap (a0 a1 a2 a3 : Option Addr) (n0 c0 n1 c1 n2 c2 n3 c3 : Nat) (P : Plc) (gu : Int) (w : World) (h : Pl w a0 n0 c0 a1 n1 c1 a2 n2 c2 a3 n3 c3 P) :
    Calls Tryd.prog 7 #[.agg #[.slice a0 n0 c0, .slice a1 n1 c1, .slice a2 n2 c2, .slice a3 n3 c3], .int .i64 gu] w fun e w' => e = .returned (.agg #[.int .i64 (gpR P gu).1, .int .i64 (gpR P gu).2]) ∧ Below w.heap.size w w' := by
  obtain ⟨U, hU⟩ : ∃ U, gpR P gu = U := ⟨_, rfl⟩
  rw [hU]
  have HU : Hid (gpR P gu = U) := hU
  clear hU
  obtain ⟨U1, U2⟩ := U
  generalize hW : (w.alloc (.cells #[.slice a0 n0 c0, .slice a1 n1 c1, .slice a2 n2 c2, .slice a3 n3 c3] 29)).alloc (.cells #[.int .i64 0, .int .i64 0] 33) = W
  have B0 : Hid (Below w.heap.size w W) := by show Below _ _ _; rw [← hW]; exact al (al (Below.refl _ _) _) _
  obtain ⟨s, hS⟩ : ∃ s, w.heap.size = s := ⟨_, rfl⟩
  have HSs : Hid (w.heap.size = s) := hS
  have Q : Hid (Vb W s #[.slice a0 n0 c0, .slice a1 n1 c1, .slice a2 n2 c2, .slice a3 n3 c3] 29) := by show Vb _ _ _ _; rw [← hW, ← hS]; exact (Vb.new _ _ _).push _
  have R : Hid (Vb W (s + 1) #[.int .i64 0, .int .i64 0] 33) := by
    have z1 : s + 1 = (w.alloc (.cells #[.slice a0 n0 c0, .slice a1 n1 c1, .slice a2 n2 c2, .slice a3 n3 c3] 29)).heap.size := by rw [← hS]; simp
    show Vb _ _ _ _; rw [← hW, z1]; exact Vb.new _ _ _
  have HP : Hid (Pl W a0 n0 c0 a1 n1 c1 a2 n2 c2 a3 n3 c3 P) := h.stay B0.out
  have HA : Hid (PolAt W s P) := ⟨_, _, _, _, _, _, _, _, _, _, _, _, Q.out.cell 0 rfl, Q.out.cell 1 rfl, Q.out.cell 2 rfl, Q.out.cell 3 rfl, HP.out⟩
  clear h
  have fv := field_value
  go_enter Tryd.func7, Tryd.ntmps7
  go_wp2_with fail
  clear hW hS
  refine (l6_asked _ _ P _ HA.out).mono ?_
  rintro e w1 ⟨rfl, b1⟩
  have R1 : Hid (Vb w1 (s + 1) #[.int .i64 0, .int .i64 0] 33) := R.out.keep b1
  have Q1 : Hid (Vb w1 s #[.slice a0 n0 c0, .slice a1 n1 c1, .slice a2 n2 c2, .slice a3 n3 c3] 29) := Q.out.keep b1
  have HP1 : Hid (Pl w1 a0 n0 c0 a1 n1 c1 a2 n2 c2 a3 n3 c3 P) := HP.out.stay b1
  have B1 : Hid (Below w.heap.size w w1) := on B0.out b1
  clear b1
  by_cases hz : askV P gu = 0
  case neg =>
    have EU := HU.out
    rw [gpR, if_neg hz] at EU
    obtain ⟨F1, hF⟩ : ∃ F, askV P gu = F := ⟨_, rfl⟩
    rw [hF] at EU hz ⊢
    obtain ⟨rfl, rfl⟩ : F1 = U1 ∧ (0 : Int) = U2 := by simpa using EU
    clear EU hF
    have r0 := R1.out.cell 0 rfl
    have r1 := R1.out.cell 1 rfl
    have f0 := R1.out.free 0
    have f1 := R1.out.free 1
    go_wp2_with fail
    exact bodyPost_ret (v := .agg #[.int .i64 F1, .int .i64 0]) (by simp [results, Tryd.results7, go_sem, r0, r1]) rfl ⟨rfl, (B1.out.setCell (by have := HSs.out; show w.heap.size ≤ s + 1; omega) _).setCell (by have := HSs.out; show w.heap.size ≤ s + 1; omega) _⟩
  have PZ : Hid (pfV P = 0) := ask_pf P gu hz
  have EF : fR P gu = (0, frV gu P.plan) := by rw [fR, if_pos hz]
  have FR := s_framesOf _ _ _ _ _ _ _ _ _ _ _ _ P gu w1 HP1.out
  rw [EF] at FR
  have EU := HU.out
  rw [gpR, if_pos hz] at EU
  rw [hz]
  obtain ⟨F2, hF⟩ : ∃ F, frV gu P.plan = F := ⟨_, rfl⟩
  rw [hF] at FR EU
  simp only at FR
  have EUH : Hid ((if F2 = 0 then ((10 : Int), (0 : Int)) else (0, (gN P gu (2 * P.plan.length)).1)) = (U1, U2)) := EU
  clear EU hF EF hz
  have q0 := Q1.out.cell 0 rfl
  have q1 := Q1.out.cell 1 rfl
  have q2 := Q1.out.cell 2 rfl
  have q3 := Q1.out.cell 3 rfl
  go_wp2_with fail
  refine FR.mono ?_
  rintro e w2 ⟨rfl, b2⟩
  have R2 : Hid (Vb w2 (s + 1) #[.int .i64 0, .int .i64 0] 33) := R1.out.keep b2
  have Q2 : Hid (Vb w2 s #[.slice a0 n0 c0, .slice a1 n1 c1, .slice a2 n2 c2, .slice a3 n3 c3] 29) := Q1.out.keep b2
  have HPw : Hid (Pl w2 a0 n0 c0 a1 n1 c1 a2 n2 c2 a3 n3 c3 P) := HP1.out.stay b2
  have B2 : Hid (Below w.heap.size w w2) := on B1.out b2
  clear b2 FR q0 q1 q2 q3
  by_cases hf : F2 = 0
  · subst hf
    have EU := EUH.out
    rw [if_pos rfl] at EU
    obtain ⟨rfl, rfl⟩ : (10 : Int) = U1 ∧ (0 : Int) = U2 := by simpa using EU
    clear EU
    have r0 := R2.out.cell 0 rfl
    have r1 := R2.out.cell 1 rfl
    have f0 := R2.out.free 0
    have f1 := R2.out.free 1
    go_wp2_with fail
    exact bodyPost_ret (v := .agg #[.int .i64 10, .int .i64 0]) (by simp [results, Tryd.results7, go_sem, r0, r1]) rfl ⟨rfl, (B2.out.setCell (by have := HSs.out; show w.heap.size ≤ s + 1; omega) _).setCell (by have := HSs.out; show w.heap.size ≤ s + 1; omega) _⟩
  have EU := EUH.out
  rw [if_neg hf] at EU
  obtain ⟨rfl, e3⟩ : (0 : Int) = U1 ∧ (gN P gu (2 * P.plan.length)).1 = U2 := by simpa using EU
  have E3 : Hid ((gN P gu (2 * P.plan.length)).1 = U2) := e3
  clear EU e3 EUH HU
  have hf2 : (F2 == 0) = false := beq_eq_false_iff_ne.2 hf
  have HL3 : Hid (n3 = P.plan.length) := HPw.out.plan.len
  have L8 : Hid (P.plan.length ≤ 8) := (pf_plan P PZ.out).1
  have BD : Hid (∀ n, n ≤ 2 * P.plan.length → (0 ≤ (gN P gu n).1 ∧ (gN P gu n).1 ≤ 50 * n) ∧ (0 ≤ (gN P gu n).2 ∧ (gN P gu n).2 ≤ 50 * n)) := gN_bound P PZ.out gu
  have ST8 : Hid (∀ j, j < P.plan.length → 1 ≤ (P.plan.getD j (0, 0)).2 ∧ (P.plan.getD j (0, 0)).2 ≤ 50) := (pf_plan P PZ.out).2
  have hmax3 : (n3 : Int) ≤ 8 := by have := L8.out; have := HL3.out; omega
  go_wp2_with fail
  go_loopw [6, 7, 8] (fun g6 g7 c wr => ∃ n : Nat, n ≤ 2 * n3 ∧ c = .int .i64 n ∧ g7 = .int .i64 (gN P gu n).2 ∧ g6 = .int .i64 (gN P gu n).1 ∧ Below w2.heap.size w2 wr) (fun _ _ c _ => 2 * n3 - (intOf c).toNat)
  case atStart => exact ⟨0, by omega, rfl, by rw [gN_zero], by rw [gN_zero], Below.refl _ _⟩
  case round =>
    obtain ⟨n, hn, rfl, rfl, rfl, hB⟩ := hrel
    have HB : Hid (Below w2.heap.size w2 wr) := hB
    have q3 := (Q2.out.keep hB).cell 3 rfl
    by_cases hlt : n < 2 * n3
    · have n3p : 0 < n3 := by omega
      obtain ⟨x, rfl, k0, k1⟩ := (HPw.out.plan.stay hB).at (n % n3) (Nat.mod_lt _ n3p)
      have hJ : (n : Int) < 2 * (n3 : Int) := by omega
      have HLT : Hid (n < 2 * n3) := hlt
      have SU : Hid (_ = _) := gN_succ P gu n (by have := HL3.out; omega)
      have bd := BD.out n (by have := HL3.out; omega)
      have st := ST8.out (n % P.plan.length) (Nat.mod_lt _ (by have := HL3.out; omega))
      rw [← HL3.out] at SU st
      obtain ⟨⟨g, t⟩, hL⟩ : ∃ L, P.plan.getD (n % n3) (0, 0) = L := ⟨_, rfl⟩
      rw [hL] at k0 k1 SU st
      simp only at k0 k1 SU st
      obtain ⟨⟨mo, ru⟩, hM⟩ : ∃ M, gN P gu n = M := ⟨_, rfl⟩
      rw [hM] at SU bd ⊢
      simp only at SU bd ⊢
      have b0 : 0 ≤ mo := bd.1.1
      have b1 : mo ≤ 800 := by have := bd.1.2; have := HLT.out; omega
      have b2 : 0 ≤ ru := bd.2.1
      have b3 : ru ≤ 800 := by have := bd.2.2; have := HLT.out; omega
      have s0 : 1 ≤ t := st.1
      have s1 : t ≤ 50 := st.2
      obtain ⟨md, hmd⟩ : ∃ md, n % n3 = md := ⟨_, rfl⟩
      have hmd2 : (n : Int).tmod (n3 : Int) = (md : Int) := by rw [← hmd]; rfl
      have hmd3 : (n : Int) % (n3 : Int) = (md : Int) := by rw [← hmd]; simp
      have hmlt : md < n3 := by rw [← hmd]; exact Nat.mod_lt _ n3p
      have hmI : (md : Int) < (n3 : Int) := by omega
      have hn0 : ¬ (n3 : Int) = 0 := by omega
      have hn1 : ¬ n3 = 0 := by omega
      rw [hmd] at k0 k1
      have xb : x.block < wr.heap.size := by have t := block_of_cell k0; unfold Addr.add at t; split at t <;> exact t
      have k0' := cell_push (.cells #[.int .i64 0, .int .i64 0] 37) k0
      have q3' := cell_push (.cells #[.int .i64 0, .int .i64 0] 37) q3
      have k1' := cell_push (.cells #[.int .i64 0, .int .i64 0] 37) k1
      clear hL hM bd st hlt hB hmd
      go_wp2_with fail
      go_cut [9] from 30 to 38 (fun p wx => ∃ gg, p = .pointer (some ⟨gg, 0, none⟩) ∧ wx.cell? ⟨gg, 0, none⟩ = some (.int .i64 g) ∧ wx.cell? ⟨gg, 1, none⟩ = some (.int .i64 t) ∧ Below wr.heap.size wr wx)
      case first =>
        go_region_with (fail)
        all_goals (go_wp2_with fail; go_meet; exact ⟨_, rfl, by simp, by simp, by first | exact al (Below.refl _ _).drew _ | exact (al (Below.refl _ _) _).drew | exact al (Below.refl _ _) _⟩)
      case rest =>
      obtain ⟨gg, rfl, d0, d1, b3⟩ := hcut
      have HB3 : Hid (Below w2.heap.size w2 wc) := on HB.out b3
      have lg : gg < wc.heap.size := block_of_cell d0
      clear b3 k0 k1 k0' k1' q3' q3 HB
      by_cases he : g = gu
      · have S2 : Hid (gN P gu (n + 1) = (mo, 0)) := by show _ = _; rw [SU.out, gst, if_pos he]
        clear SU
        go_wp2_with fail
        go_roundw
        case rel => exact ⟨n + 1, by have := HLT.out; omega, by go_num, by rw [S2.out], by rw [S2.out], HB3.out⟩
        case measure => have := HLT.out; simp [intOf]; omega
      · have S2 : Hid (gN P gu (n + 1) = (max mo (ru + t), ru + t)) := by show _ = _; rw [SU.out, gst, if_neg he]
        have TM := fun w => t_max mo (ru + t) w
        clear SU
        obtain ⟨mx, hmx⟩ : ∃ mx, max mo (ru + t) = mx := ⟨_, rfl⟩
        rw [hmx] at TM S2
        clear hmx
        go_wp2_with (go_at_call 14; refine (TM _).mono ?_; rintro e wc ⟨rfl, rfl⟩)
        go_roundw
        case rel => exact ⟨n + 1, by have := HLT.out; omega, by go_num, by rw [S2.out]; first | done | go_num, by rw [S2.out], HB3.out⟩
        case measure => have := HLT.out; simp [intOf]; omega
    · have hJ : ¬ (n : Int) < 2 * (n3 : Int) := by omega
      obtain rfl : n = 2 * n3 := by omega
      have EV : (gN P gu (2 * n3)).1 = U2 := by rw [HL3.out]; exact E3.out
      have R3 : Hid (Vb wr (s + 1) #[.int .i64 0, .int .i64 0] 33) := R2.out.keep hB
      have BB : Hid (Below w.heap.size w wr) := on B2.out hB
      have r0 := R3.out.cell 0 rfl
      have r1 := R3.out.cell 1 rfl
      have f0 := R3.out.free 0
      have f1 := R3.out.free 1
      rw [EV]
      have hc2 : ((2 * n3 : Nat) : Int) = 2 * (n3 : Int) := by omega
      clear hlt hB EV
      go_wp2_with fail
      exact bodyPost_ret (v := .agg #[.int .i64 0, .int .i64 U2]) (by simp [results, Tryd.results7, go_sem, r0, r1]) rfl ⟨rfl, (BB.out.setCell (by have := HSs.out; show w.heap.size ≤ s + 1; omega) _).setCell (by have := HSs.out; show w.heap.size ≤ s + 1; omega) _⟩
end Go.Proofs.YtgefcoojnahokaaDoor
namespace Go.Proofs.YtgefcoojnahokaaDoor
open Go.RowKit
set_option linter.unusedVariables false

/-- The guests of a plan, step by step. -/
def exL (zs : List (Int × Int)) : List Int := zs.flatMap fun s => List.replicate s.2.toNat s.1
theorem ex_len : ∀ (zs : List (Int × Int)), (∀ s ∈ zs, 1 ≤ s.2) → ((exL zs).length : Int) = rdV zs
  | [], _ => rfl
  | s :: t, h => by
    have ih := ex_len t fun x hx => h x (by simp [hx])
    have h1 := h s (by simp)
    rw [exL, List.flatMap_cons, List.length_append, List.length_replicate, rdV, ← ih]
    show ((s.2.toNat + (exL t).length : Nat) : Int) = _
    omega
theorem ex_tn : ∀ (zs : List (Int × Int)) (r : Int), (∀ s ∈ zs, 1 ≤ s.2) → 0 ≤ r → r < rdV zs → (exL zs).getD r.toNat 0 = (zs.getD (tnV zs r).1.toNat (0, 0)).1 ∧ 0 ≤ (tnV zs r).1
  | [], r, _, h0, h1 => by simp [rdV] at h1; omega
  | s :: t, r, h, h0, h1 => by
    have hs := h s (by simp)
    rw [rdV] at h1
    have e : exL (s :: t) = List.replicate s.2.toNat s.1 ++ exL t := by rw [exL, List.flatMap_cons]; rfl
    rw [e, tnV]
    by_cases hc : s.2 ≤ r
    · obtain ⟨i1, i2⟩ := ex_tn t (r - s.2) (fun x hx => h x (by simp [hx])) (by omega) (by omega)
      rw [if_pos hc]
      refine ⟨?_, by simp; omega⟩
      rw [show ((tnV t (r - s.2)).1 + 1).toNat = (tnV t (r - s.2)).1.toNat + 1 by omega, List.getD_cons_succ, ← i1]
      simp only [List.getD]
      rw [List.getElem?_append_right (by simp; omega), List.length_replicate, show r.toNat - s.2.toNat = (r - s.2).toNat by omega]
    · rw [if_neg hc]
      refine ⟨?_, Int.le_refl _⟩
      simp only [List.getD]
      rw [List.getElem?_append_left (by simp; omega), List.getElem?_replicate, if_pos (by omega)]
      rfl
/-- One step of a clock: the worst wait, the wait that runs. -/
def cst (g : Int) (s : Int × Int) (x : Int) : Int × Int := if x = g then (s.1, 0) else (max s.1 (s.2 + 1), s.2 + 1)
theorem cst_rep (g x : Int) : ∀ (n : Nat) (s : Int × Int), (List.replicate (n + 1) x).foldl (cst g) s = gst g s (x, ((n + 1 : Nat) : Int))
  | 0, s => by
    simp [cst, gst]
  | n + 1, s => by
    rw [List.replicate_succ, List.foldl_cons, cst_rep g x n]
    unfold cst gst
    by_cases h : x = g
    · simp [h]
    · simp only [if_neg h]
      exact Prod.ext (by simp; omega) (by simp; omega)
theorem cst_ex (g : Int) : ∀ (zs : List (Int × Int)) (s : Int × Int), (∀ s ∈ zs, 1 ≤ s.2) → (exL zs).foldl (cst g) s = zs.foldl (gst g) s
  | [], s, _ => rfl
  | z :: t, s, h => by
    have hz := h z (by simp)
    have e : exL (z :: t) = List.replicate z.2.toNat z.1 ++ exL t := by rw [exL, List.flatMap_cons]; rfl
    obtain ⟨n, hn⟩ : ∃ n : Nat, z.2.toNat = n + 1 := ⟨z.2.toNat - 1, by omega⟩
    rw [e, List.foldl_append, hn, cst_rep, cst_ex g t _ fun x hx => h x (by simp [hx]), List.foldl_cons, show ((n + 1 : Nat) : Int) = z.2 by omega]
/-- The worst wait and the wait that runs, behind so many steps. -/
def gC (P : Plc) (g : Int) : Nat → Int × Int
  | 0 => (0, 0)
  | n + 1 => cst g (gC P g n) (tG P n)
theorem gC_fold (P : Plc) (g : Int) : ∀ n, gC P g n = ((List.range n).map fun (k : Nat) => tG P k).foldl (cst g) (0, 0)
  | 0 => rfl
  | n + 1 => by rw [gC, List.range_succ, List.map_append, List.foldl_append, ← gC_fold P g n]; rfl
theorem gC_bound (P : Plc) (g : Int) : ∀ n : Nat, (0 ≤ (gC P g n).1 ∧ (gC P g n).1 ≤ n) ∧ 0 ≤ (gC P g n).2 ∧ (gC P g n).2 ≤ n
  | 0 => by simp [gC]
  | n + 1 => by
    have := gC_bound P g n
    rw [gC, cst]
    split <;> simp <;> omega
theorem gC_two (P : Plc) (h : pfV P = 0) (g : Int) (R : Nat) (hR : (R : Int) = rdV P.plan) : gC P g (2 * R) = gN P g (2 * P.plan.length) := by
  have he : ∀ s ∈ P.plan, 1 ≤ s.2 := fun s hs => (pf_each P h s hs).1
  have hl := ex_len P.plan he
  have hl' : (exL P.plan).length = R := by omega
  have hm : ((List.range (2 * R)).map fun (k : Nat) => tG P k) = exL P.plan ++ exL P.plan := by
    apply List.ext_getElem
    · simp; omega
    · intro i h1 h2
      simp only [List.length_map, List.length_range] at h1
      rw [List.getElem_map, List.getElem_range]
      have hr := rd_pos P h
      have hx := ex_tn P.plan ((i : Int) % rdV P.plan) he (Int.emod_nonneg _ (by omega)) (Int.emod_lt_of_pos _ (by omega))
      have e1 : tG P i = (exL P.plan).getD ((i : Int) % rdV P.plan).toNat 0 := by rw [tG, tS, hx.1]
      rw [e1]
      by_cases hi : i < R
      · rw [List.getElem_append_left (by omega), Int.emod_eq_of_lt (by omega) (by omega), Int.toNat_natCast, List.getD, List.getElem?_eq_getElem (by omega)]
        rfl
      · rw [List.getElem_append_right (by omega)]
        have e2 : (i : Int) % rdV P.plan = ((i - R : Nat) : Int) := by
          rw [← hR, show (i : Int) = ((i - R : Nat) : Int) + R by omega, Int.add_emod_right, Int.emod_eq_of_lt (by omega) (by omega)]
        rw [e2, Int.toNat_natCast, List.getD, List.getElem?_eq_getElem (by omega)]
        simp [hl']
  rw [gC_fold, hm, List.foldl_append, cst_ex g _ _ he, cst_ex g _ _ he, gN, List.take_of_length_le (by simp; omega), List.foldl_append]
end Go.Proofs.YtgefcoojnahokaaDoor
namespace Go.Proofs.YtgefcoojnahokaaDoor
open Go.RowKit
set_option linter.unusedVariables false

theorem fourR {v : World} {q : Nat} {t : TypeId} {z0 z1 z2 z3 : Value} (h : Bk v q #[z0, z1, z2, z3] t) (u0 u1 u2 u3 : Value) :
    Bk ((((v.setCell ⟨q, 0, none⟩ u0).setCell ⟨q, 1, none⟩ u1).setCell ⟨q, 2, none⟩ u2).setCell ⟨q, 3, none⟩ u3) q #[u0, u1, u2, u3] t := by
  have h0 : Bk (v.setCell ⟨q, 0, none⟩ u0) q #[u0, z1, z2, z3] t := h.set 0 u0
  have h1 : Bk ((v.setCell ⟨q, 0, none⟩ u0).setCell ⟨q, 1, none⟩ u1) q #[u0, u1, z2, z3] t := h0.set 1 u1
  have h2 : Bk (((v.setCell ⟨q, 0, none⟩ u0).setCell ⟨q, 1, none⟩ u1).setCell ⟨q, 2, none⟩ u2) q #[u0, u1, u2, z3] t := h1.set 2 u2
  exact h2.set 3 u3
set_option maxRecDepth 20000 in
set_option maxHeartbeats 8000000 in
theorem drawWith {w : World} {a : Option Addr} {len cap : Nat} {zs : List Int} (hr : IsRow .u8 w a len cap zs) :
    Calls Tryd.prog 11 #[.slice a len cap] w fun e w' => ∃ v0 v1 v2 v3 P cl, e = .returned (.tuple #[.agg #[v0, v1, v2, v3], .int .i64 cl]) ∧ Dv w' w.heap.size v0 v1 v2 v3 P ∧ Below w.heap.size w w' := by
  have HR : Hid (IsRow .u8 w a len cap zs) := hr
  obtain ⟨s0, hs0⟩ : ∃ s, w.heap.size = s := ⟨_, rfl⟩
  have S0 : Hid (w.heap.size ≤ s0) := by show _ ≤ _; omega
  have SE : Hid (w.heap.size = s0) := hs0
  clear hr
  go_enter Tryd.func11, Tryd.ntmps11
  go_wp2_with fail
  have A0 : Hid (Below w.heap.size w (w.alloc (.cells #[.slice none 0 0, .slice none 0 0, .slice none 0 0, .slice none 0 0] 29))) := al (Below.refl _ _) _
  have R0 : Hid (Bk (w.alloc (.cells #[.slice none 0 0, .slice none 0 0, .slice none 0 0, .slice none 0 0] 29)) s0 #[.slice none 0 0, .slice none 0 0, .slice none 0 0, .slice none 0 0] 29) := by show Bk _ _ _ _; rw [← hs0]; exact Bk.new _ _ _
  have Z0 : Hid (s0 + 1 = (w.alloc (.cells #[.slice none 0 0, .slice none 0 0, .slice none 0 0, .slice none 0 0] 29)).heap.size) := by show _ = _; simp; omega
  try rw [hs0]
  generalize w.alloc (.cells #[.slice none 0 0, .slice none 0 0, .slice none 0 0, .slice none 0 0] 29) = W at *
  clear hs0
  refine (source_any (HR.out.below A0.out)).mono ?_
  rintro e w1 ⟨rfl, b1, sr⟩
  have B1 : Hid (Below W.heap.size W w1) := b1
  have SR : Hid (Src w1 W.heap.size 0 a len cap zs) := sr
  obtain ⟨b, hb⟩ : ∃ b, W.heap.size = b := ⟨_, rfl⟩
  have BE : Hid (W.heap.size = b) := hb
  rw [hb] at SR ⊢
  have R1 : Hid (Bk w1 s0 #[.slice none 0 0, .slice none 0 0, .slice none 0 0, .slice none 0 0] 29) := R0.out.keep b1
  clear b1 sr hb
  go_wp2_with fail
  refine (bentp_any SR.out (by decide)).mono ?_
  rintro e w2 ⟨_, _, _, _, P, k, rfl, dv, hk, tn, s2⟩
  obtain ⟨a0, c0, a1, c1, a2, c2, a3, c3, e0, e1, e2, e3⟩ := dv.shape
  subst e0 e1 e2 e3
  obtain ⟨n0, hn0⟩ : ∃ n, P.own.length = n := ⟨_, rfl⟩
  obtain ⟨n1, hn1⟩ : ∃ n, P.lanes.length = n := ⟨_, rfl⟩
  obtain ⟨n2, hn2⟩ : ∃ n, P.bells.length = n := ⟨_, rfl⟩
  obtain ⟨n3, hn3⟩ : ∃ n, P.plan.length = n := ⟨_, rfl⟩
  rw [hn0, hn1, hn2, hn3] at dv ⊢
  clear hn0 hn1 hn2 hn3
  have DV : Hid (Dv w2 w1.heap.size (.slice a0 n0 c0) (.slice a1 n1 c1) (.slice a2 n2 c2) (.slice a3 n3 c3) P) := dv
  have B2 : Hid (Below w.heap.size w w2) := by
    have h1 := SE.out
    have h2 := Z0.out
    have h3 := BE.out
    have h4 := B1.out.size
    have hx := on A0.out B1.out
    exact hx.trans (tn.below (by omega) hx.size)
  have R2 : Hid (Bk w2 s0 #[.slice none 0 0, .slice none 0 0, .slice none 0 0, .slice none 0 0] 29) := R1.out.turn tn (by have := Z0.out; have := BE.out; omega)
  have S2 : Hid (Src w2 b k a len cap zs ∧ k ≤ 200) := ⟨s2, by omega⟩
  have L1 : Hid (s0 < b ∧ b < w1.heap.size ∧ w1.heap.size ≤ w2.heap.size) := ⟨by have := Z0.out; have := BE.out; omega, SR.out.here, tn.size⟩
  clear dv tn s2 hk
  go_upto_region 3 with fail
  have A2 : Hid (Below w2.heap.size w2 (w2.alloc (.cells #[.slice a0 n0 c0, .slice a1 n1 c1, .slice a2 n2 c2, .slice a3 n3 c3] 29))) := al (Below.refl _ _) _
  obtain ⟨t, ht⟩ : ∃ t, w2.heap.size = t := ⟨_, rfl⟩
  have TE : Hid (w2.heap.size = t) := ht
  have TV : Hid (Bk (w2.alloc (.cells #[.slice a0 n0 c0, .slice a1 n1 c1, .slice a2 n2 c2, .slice a3 n3 c3] 29)) t #[.slice a0 n0 c0, .slice a1 n1 c1, .slice a2 n2 c2, .slice a3 n3 c3] 29) := by show Bk _ _ _ _; rw [← ht]; exact Bk.new _ _ _
  rw [ht]
  generalize w2.alloc (.cells #[.slice a0 n0 c0, .slice a1 n1 c1, .slice a2 n2 c2, .slice a3 n3 c3] 29) = W3 at *
  clear ht
  have TB : Hid (Bk W3.drew t #[.slice a0 n0 c0, .slice a1 n1 c1, .slice a2 n2 c2, .slice a3 n3 c3] 29) := TV.out.keep (Below.refl _ _).drew
  have RB : Hid (Bk W3.drew s0 #[.slice none 0 0, .slice none 0 0, .slice none 0 0, .slice none 0 0] 29) := (R2.out.keep A2.out).keep (Below.refl _ _).drew
  have DVX : Hid (Dv W3.drew w1.heap.size (.slice a0 n0 c0) (.slice a1 n1 c1) (.slice a2 n2 c2) (.slice a3 n3 c3) P) := (DV.out.keep A2.out).keep (Below.refl _ _).drew
  have BX : Hid (Below w.heap.size w W3.drew) := (on B2.out A2.out).drew
  have SX : Hid (Src W3.drew b k a len cap zs) := (S2.out.1.turn (Turn.of_below (b := w2.heap.size) A2.out) (Nat.le_refl _)).drewed
  have TS : Hid (t ≠ s0) := by have := TE.out; have := L1.out; show _ ≠ _; omega
  refine wp_region_held (S := fun w' => Bk w' t #[.slice a0 n0 c0, .slice a1 n1 c1, .slice a2 n2 c2, .slice a3 n3 c3] 29) (by kernel_rfl) ?_
  change wpAnyH _ _ _ _ _ _ _ _ (World.drew _)
  generalize W3.drew = u0 at *
  refine wpAnyH_take (i := 0) (v := (.agg #[.slice a0 n0 c0, .slice a1 n1 c1, .slice a2 n2 c2, .slice a3 n3 c3])) rfl (by kernel_rfl) (by kernel_rfl) (by kernel_rfl) (fun _ _ _ h => h) (Or.inl ⟨by rfl, fun w' hs => by have y0 := hs.cell (i := 0) rfl; have y1 := hs.cell (i := 1) rfl; have y2 := hs.cell (i := 2) rfl; have y3 := hs.cell (i := 3) rfl; go_simp⟩) TB.out ?_
  change wpAnyH _ _ _ _ _ _ _ (Act.put _ (some 10) _) _
  simp only [Act.put, List.setIfInBounds_toArray, List.set_cons_zero, List.set_cons_succ]
  refine wpAnyH_take (i := 1) (v := (.pointer (some ⟨b, 0, none⟩))) rfl (by kernel_rfl) (by kernel_rfl) (by kernel_rfl) (fun _ _ _ h => h) (Or.inl ⟨by rfl, fun w' hs => by go_simp⟩) TB.out ?_
  change wpAnyH _ _ _ _ _ _ _ (Act.put _ (some 11) _) _
  simp only [Act.put, List.setIfInBounds_toArray, List.set_cons_zero, List.set_cons_succ]
  refine wpAnyH_ready (rs := [2]) (by kernel_rfl) (by simp) ?_
  refine AllReadyH.cons rfl (fun K hK => ?_) AllReadyH.nil
  rw [if_pos (by rfl)]
  go_simp
  have bq : Below u0.heap.size u0 (u0.alloc (.cells #[.int .i64 0, .int .i64 1, .int .i64 2, .int .i64 0, .int .i64 1, .int .i64 3, .int .i64 (-1)] 2)) := al (Below.refl _ _) _
  have LD : Hid (∀ i, i < 7 → ∃ v : Int, (u0.alloc (.cells #[.int .i64 0, .int .i64 1, .int .i64 2, .int .i64 0, .int .i64 1, .int .i64 3, .int .i64 (-1)] 2)).cell? ⟨u0.heap.size, i, none⟩ = some (.int .i64 v) ∧ True) := laid_at u0 [0, 1, 2, 0, 1, 3, (-1)]
  have LL : Hid (u0.heap.size < (u0.alloc (.cells #[.int .i64 0, .int .i64 1, .int .i64 2, .int .i64 0, .int .i64 1, .int .i64 3, .int .i64 (-1)] 2)).heap.size ∧ u0.heap.size ≠ b) := ⟨by simp, by have := SX.out.here; omega⟩
  replace TB : Hid (Bk (u0.alloc (.cells #[.int .i64 0, .int .i64 1, .int .i64 2, .int .i64 0, .int .i64 1, .int .i64 3, .int .i64 (-1)] 2)) t #[.slice a0 n0 c0, .slice a1 n1 c1, .slice a2 n2 c2, .slice a3 n3 c3] 29) := TB.out.keep bq
  replace RB : Hid (Bk (u0.alloc (.cells #[.int .i64 0, .int .i64 1, .int .i64 2, .int .i64 0, .int .i64 1, .int .i64 3, .int .i64 (-1)] 2)) s0 #[.slice none 0 0, .slice none 0 0, .slice none 0 0, .slice none 0 0] 29) := RB.out.keep bq
  replace DVX : Hid (Dv (u0.alloc (.cells #[.int .i64 0, .int .i64 1, .int .i64 2, .int .i64 0, .int .i64 1, .int .i64 3, .int .i64 (-1)] 2)) w1.heap.size (.slice a0 n0 c0) (.slice a1 n1 c1) (.slice a2 n2 c2) (.slice a3 n3 c3) P) := DVX.out.keep bq
  replace BX : Hid (Below w.heap.size w (u0.alloc (.cells #[.int .i64 0, .int .i64 1, .int .i64 2, .int .i64 0, .int .i64 1, .int .i64 3, .int .i64 (-1)] 2))) := on BX.out bq
  replace SX : Hid (Src (u0.alloc (.cells #[.int .i64 0, .int .i64 1, .int .i64 2, .int .i64 0, .int .i64 1, .int .i64 3, .int .i64 (-1)] 2)) b _ a len cap zs) := SX.out.alloc _
  generalize (u0.alloc (.cells #[.int .i64 0, .int .i64 1, .int .i64 2, .int .i64 0, .int .i64 1, .int .i64 3, .int .i64 (-1)] 2)) = ul at *
  generalize u0.heap.size = gl at *
  clear bq
  refine hK.out _ _ TB.out (fun _ => ?_)
  clear hK K
  refine wpAnyH_ready (rs := [3]) (by kernel_rfl) (by simp) ?_
  refine AllReadyH.cons rfl (fun K hK => ?_) AllReadyH.nil
  rw [if_pos (by rfl)]
  go_simp
  refine (pick_any SX.out (by have := S2.out.2; omega) (fun _ => True) gl 7 (by omega) (by omega) LL.out.1 LL.out.2 LD.out).mono ?_
  rintro e u1 ⟨cl, rfl, -, tn, sn⟩
  replace TB : Hid (Bk u1 t #[.slice a0 n0 c0, .slice a1 n1 c1, .slice a2 n2 c2, .slice a3 n3 c3] 29) := TB.out.turn tn (by have := TE.out; have := L1.out; omega)
  replace RB : Hid (Bk u1 s0 #[.slice none 0 0, .slice none 0 0, .slice none 0 0, .slice none 0 0] 29) := RB.out.turn tn (by have := L1.out; omega)
  replace DVX : Hid (Dv u1 w1.heap.size (.slice a0 n0 c0) (.slice a1 n1 c1) (.slice a2 n2 c2) (.slice a3 n3 c3) P) := DVX.out.turn tn L1.out.2.1
  replace BX : Hid (Below w.heap.size w u1) := BX.out.trans (tn.below (by have := SE.out; have := L1.out; omega) BX.out.size)
  replace SX : Hid (Src u1 b _ a len cap zs) := sn
  clear tn sn
  refine hK.out _ _ TB.out (fun _ => ?_)
  clear hK K
  refine wpAnyH_ready (rs := [4]) (by kernel_rfl) (by simp) ?_
  refine AllReadyH.cons rfl (fun K hK => ?_) AllReadyH.nil
  rw [if_pos (by rfl)]
  have p0 := RB.out.cell (i := 0) rfl
  have f0 := RB.out.free 0
  have p1 := RB.out.cell (i := 1) rfl
  have f1 := RB.out.free 1
  have p2 := RB.out.cell (i := 2) rfl
  have f2 := RB.out.free 2
  have p3 := RB.out.cell (i := 3) rfl
  have f3 := RB.out.free 3
  have lt := RB.out.lt
  go_simp
  clear lt p0 f0 p1 f1 p2 f2 p3 f3
  have R9 : Hid (Bk ((((u1.setCell ⟨s0, 0, none⟩ (.slice a0 n0 c0)).setCell ⟨s0, 1, none⟩ (.slice a1 n1 c1)).setCell ⟨s0, 2, none⟩ (.slice a2 n2 c2)).setCell ⟨s0, 3, none⟩ (.slice a3 n3 c3)) s0 #[.slice a0 n0 c0, .slice a1 n1 c1, .slice a2 n2 c2, .slice a3 n3 c3] 29) := fourR RB.out _ _ _ _
  have D9 : Hid (Dv ((((u1.setCell ⟨s0, 0, none⟩ (.slice a0 n0 c0)).setCell ⟨s0, 1, none⟩ (.slice a1 n1 c1)).setCell ⟨s0, 2, none⟩ (.slice a2 n2 c2)).setCell ⟨s0, 3, none⟩ (.slice a3 n3 c3)) w.heap.size (.slice a0 n0 c0) (.slice a1 n1 c1) (.slice a2 n2 c2) (.slice a3 n3 c3) P) := by
    have b0 := RB.out
    have b1 : Bk (u1.setCell ⟨s0, 0, none⟩ (.slice a0 n0 c0)) s0 #[.slice a0 n0 c0, .slice none 0 0, .slice none 0 0, .slice none 0 0] 29 := b0.set 0 _
    have b2 : Bk ((u1.setCell ⟨s0, 0, none⟩ (.slice a0 n0 c0)).setCell ⟨s0, 1, none⟩ (.slice a1 n1 c1)) s0 #[.slice a0 n0 c0, .slice a1 n1 c1, .slice none 0 0, .slice none 0 0] 29 := b1.set 1 _
    have b3 : Bk (((u1.setCell ⟨s0, 0, none⟩ (.slice a0 n0 c0)).setCell ⟨s0, 1, none⟩ (.slice a1 n1 c1)).setCell ⟨s0, 2, none⟩ (.slice a2 n2 c2)) s0 #[.slice a0 n0 c0, .slice a1 n1 c1, .slice a2 n2 c2, .slice none 0 0] 29 := b2.set 2 _
    exact ((((DVX.out.mono (base' := w.heap.size) (by have := SE.out; have := L1.out; omega)).put b0 _).put b1 _).put b2 _).put b3 _
  have B9 : Hid (Below w.heap.size w ((((u1.setCell ⟨s0, 0, none⟩ (.slice a0 n0 c0)).setCell ⟨s0, 1, none⟩ (.slice a1 n1 c1)).setCell ⟨s0, 2, none⟩ (.slice a2 n2 c2)).setCell ⟨s0, 3, none⟩ (.slice a3 n3 c3))) := ((((BX.out).setCell (by show w.heap.size ≤ s0; exact S0.out) _).setCell (by show w.heap.size ≤ s0; exact S0.out) _).setCell (by show w.heap.size ≤ s0; exact S0.out) _).setCell (by show w.heap.size ≤ s0; exact S0.out) _
  have T9 : Hid (Bk ((((u1.setCell ⟨s0, 0, none⟩ (.slice a0 n0 c0)).setCell ⟨s0, 1, none⟩ (.slice a1 n1 c1)).setCell ⟨s0, 2, none⟩ (.slice a2 n2 c2)).setCell ⟨s0, 3, none⟩ (.slice a3 n3 c3)) t #[.slice a0 n0 c0, .slice a1 n1 c1, .slice a2 n2 c2, .slice a3 n3 c3] 29) := (((TB.out.put ⟨s0, 0, none⟩ _ TS.out).put ⟨s0, 1, none⟩ _ TS.out).put ⟨s0, 2, none⟩ _ TS.out).put ⟨s0, 3, none⟩ _ TS.out
  generalize ((((u1.setCell ⟨s0, 0, none⟩ (.slice a0 n0 c0)).setCell ⟨s0, 1, none⟩ (.slice a1 n1 c1)).setCell ⟨s0, 2, none⟩ (.slice a2 n2 c2)).setCell ⟨s0, 3, none⟩ (.slice a3 n3 c3)) = w9 at *
  refine hK.out _ _ T9.out (fun _ => ?_)
  clear hK K
  refine wpAnyH_take (i := 5) (v := (.int .i64 cl)) rfl (by kernel_rfl) (by kernel_rfl) (by kernel_rfl) (fun _ _ _ h => h) (Or.inl ⟨by rfl, fun w' hs => by go_simp⟩) T9.out ?_
  change wpAnyH _ _ _ _ _ _ _ (Act.put _ (some 3) _) _
  simp only [Act.put, List.setIfInBounds_toArray, List.set_cons_zero, List.set_cons_succ]
  refine wpAnyH_done (by kernel_rfl) ?_ _
  have z0 := R9.out.cell (i := 0) rfl
  have z1 := R9.out.cell (i := 1) rfl
  have z2 := R9.out.cell (i := 2) rfl
  have z3 := R9.out.cell (i := 3) rfl
  go_wp2_with fail
  exact bodyPost_ret (v := .tuple #[.agg #[.slice a0 n0 c0, .slice a1 n1 c1, .slice a2 n2 c2, .slice a3 n3 c3], .int .i64 cl]) (by simp [results, Tryd.results11, go_sem, z0, z1, z2, z3]) rfl ⟨_, _, _, _, P, cl, rfl, D9.out, B9.out⟩
end Go.Proofs.YtgefcoojnahokaaDoor
namespace Go.Proofs.YtgefcoojnahokaaDoor
open Go.RowKit
set_option linter.unusedVariables false

set_option maxRecDepth 20000 in
set_option maxHeartbeats 8000000 in
theorem drawGapOf {w : World} {a : Option Addr} {len cap : Nat} {zs : List Int} (hr : IsRow .u8 w a len cap zs) :
    Calls Tryd.prog 5 #[.slice a len cap] w fun e w' => ∃ v0 v1 v2 v3 P cl, e = .returned (.tuple #[.agg #[v0, v1, v2, v3], .int .i64 cl]) ∧ Dv w' w.heap.size v0 v1 v2 v3 P ∧ Below w.heap.size w w' := by
  have HR : Hid (IsRow .u8 w a len cap zs) := hr
  obtain ⟨s0, hs0⟩ : ∃ s, w.heap.size = s := ⟨_, rfl⟩
  have S0 : Hid (w.heap.size ≤ s0) := by show _ ≤ _; omega
  have SE : Hid (w.heap.size = s0) := hs0
  clear hr
  go_enter Tryd.func5, Tryd.ntmps5
  go_wp2_with fail
  have A0 : Hid (Below w.heap.size w (w.alloc (.cells #[.slice none 0 0, .slice none 0 0, .slice none 0 0, .slice none 0 0] 29))) := al (Below.refl _ _) _
  have R0 : Hid (Bk (w.alloc (.cells #[.slice none 0 0, .slice none 0 0, .slice none 0 0, .slice none 0 0] 29)) s0 #[.slice none 0 0, .slice none 0 0, .slice none 0 0, .slice none 0 0] 29) := by show Bk _ _ _ _; rw [← hs0]; exact Bk.new _ _ _
  have Z0 : Hid (s0 + 1 = (w.alloc (.cells #[.slice none 0 0, .slice none 0 0, .slice none 0 0, .slice none 0 0] 29)).heap.size) := by show _ = _; simp; omega
  try rw [hs0]
  generalize w.alloc (.cells #[.slice none 0 0, .slice none 0 0, .slice none 0 0, .slice none 0 0] 29) = W at *
  clear hs0
  refine (drawWith (HR.out.below A0.out)).mono ?_
  rintro e w2 ⟨_, _, _, _, P, cl, rfl, dv, b2⟩
  obtain ⟨a0, c0, a1, c1, a2, c2, a3, c3, e0, e1, e2, e3⟩ := dv.shape
  subst e0 e1 e2 e3
  obtain ⟨n0, hn0⟩ : ∃ n, P.own.length = n := ⟨_, rfl⟩
  obtain ⟨n1, hn1⟩ : ∃ n, P.lanes.length = n := ⟨_, rfl⟩
  obtain ⟨n2, hn2⟩ : ∃ n, P.bells.length = n := ⟨_, rfl⟩
  obtain ⟨n3, hn3⟩ : ∃ n, P.plan.length = n := ⟨_, rfl⟩
  rw [hn0, hn1, hn2, hn3] at dv ⊢
  clear hn0 hn1 hn2 hn3
  have DV : Hid (Dv w2 W.heap.size (.slice a0 n0 c0) (.slice a1 n1 c1) (.slice a2 n2 c2) (.slice a3 n3 c3) P) := dv
  have BX : Hid (Below w.heap.size w w2) := on A0.out b2
  have RB : Hid (Bk w2 s0 #[.slice none 0 0, .slice none 0 0, .slice none 0 0, .slice none 0 0] 29) := R0.out.keep b2
  clear dv b2
  have p0 := RB.out.cell (i := 0) rfl
  have f0 := RB.out.free 0
  have p1 := RB.out.cell (i := 1) rfl
  have f1 := RB.out.free 1
  have p2 := RB.out.cell (i := 2) rfl
  have f2 := RB.out.free 2
  have p3 := RB.out.cell (i := 3) rfl
  have f3 := RB.out.free 3
  have lt := RB.out.lt
  go_upto_region 2 with fail
  clear lt p0 f0 p1 f1 p2 f2 p3 f3
  have R9 : Hid (Bk ((((w2.setCell ⟨s0, 0, none⟩ (.slice a0 n0 c0)).setCell ⟨s0, 1, none⟩ (.slice a1 n1 c1)).setCell ⟨s0, 2, none⟩ (.slice a2 n2 c2)).setCell ⟨s0, 3, none⟩ (.slice a3 n3 c3)) s0 #[.slice a0 n0 c0, .slice a1 n1 c1, .slice a2 n2 c2, .slice a3 n3 c3] 29) := fourR RB.out _ _ _ _
  have D9 : Hid (Dv ((((w2.setCell ⟨s0, 0, none⟩ (.slice a0 n0 c0)).setCell ⟨s0, 1, none⟩ (.slice a1 n1 c1)).setCell ⟨s0, 2, none⟩ (.slice a2 n2 c2)).setCell ⟨s0, 3, none⟩ (.slice a3 n3 c3)) w.heap.size (.slice a0 n0 c0) (.slice a1 n1 c1) (.slice a2 n2 c2) (.slice a3 n3 c3) P) := by
    have b0 := RB.out
    have b1 : Bk (w2.setCell ⟨s0, 0, none⟩ (.slice a0 n0 c0)) s0 #[.slice a0 n0 c0, .slice none 0 0, .slice none 0 0, .slice none 0 0] 29 := b0.set 0 _
    have b2 : Bk ((w2.setCell ⟨s0, 0, none⟩ (.slice a0 n0 c0)).setCell ⟨s0, 1, none⟩ (.slice a1 n1 c1)) s0 #[.slice a0 n0 c0, .slice a1 n1 c1, .slice none 0 0, .slice none 0 0] 29 := b1.set 1 _
    have b3 : Bk (((w2.setCell ⟨s0, 0, none⟩ (.slice a0 n0 c0)).setCell ⟨s0, 1, none⟩ (.slice a1 n1 c1)).setCell ⟨s0, 2, none⟩ (.slice a2 n2 c2)) s0 #[.slice a0 n0 c0, .slice a1 n1 c1, .slice a2 n2 c2, .slice none 0 0] 29 := b2.set 2 _
    exact ((((DV.out.mono (base' := w.heap.size) (by have := SE.out; have := Z0.out; omega)).put b0 _).put b1 _).put b2 _).put b3 _
  have B9 : Hid (Below w.heap.size w ((((w2.setCell ⟨s0, 0, none⟩ (.slice a0 n0 c0)).setCell ⟨s0, 1, none⟩ (.slice a1 n1 c1)).setCell ⟨s0, 2, none⟩ (.slice a2 n2 c2)).setCell ⟨s0, 3, none⟩ (.slice a3 n3 c3))) := ((((BX.out).setCell (by show w.heap.size ≤ s0; exact S0.out) _).setCell (by show w.heap.size ≤ s0; exact S0.out) _).setCell (by show w.heap.size ≤ s0; exact S0.out) _).setCell (by show w.heap.size ≤ s0; exact S0.out) _
  generalize ((((w2.setCell ⟨s0, 0, none⟩ (.slice a0 n0 c0)).setCell ⟨s0, 1, none⟩ (.slice a1 n1 c1)).setCell ⟨s0, 2, none⟩ (.slice a2 n2 c2)).setCell ⟨s0, 3, none⟩ (.slice a3 n3 c3)) = w9 at *
  have z0 := R9.out.cell (i := 0) rfl
  have z1 := R9.out.cell (i := 1) rfl
  have z2 := R9.out.cell (i := 2) rfl
  have z3 := R9.out.cell (i := 3) rfl
  go_wp2_with fail
  exact bodyPost_ret (v := .tuple #[.agg #[.slice a0 n0 c0, .slice a1 n1 c1, .slice a2 n2 c2, .slice a3 n3 c3], .int .i64 cl]) (by simp [results, Tryd.results5, go_sem, z0, z1, z2, z3]) rfl ⟨_, _, _, _, P, cl, rfl, D9.out, B9.out⟩
end Go.Proofs.YtgefcoojnahokaaDoor
