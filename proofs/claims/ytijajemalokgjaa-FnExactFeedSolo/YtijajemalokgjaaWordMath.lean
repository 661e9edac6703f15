/- Plain arithmetic of words: sums and products hang on no order, a quotient and what it leaves make the word again, bits and shifts. -/
import Derived.RowKit
import Derived.Laws.BitsAllLaws
namespace Go.Proofs.Ytijajemalokgjaa
open Go.RowKit

def wd (n : Int) : Int := n % 4294967296
def addV (a b : Int) : Int := (a + b) % 4294967296
def mulV (a b : Int) : Int := a % 4294967296 * (b % 4294967296) % 4294967296
def sgn (a : Int) : Int := wrap64 (wrap32 (a % 4294967296))
def divV (a b : Int) : Int := if b % 4294967296 = 0 then 4294967295 else wrap64 ((sgn a).tdiv (sgn b)) % 4294967296
def remV (a b : Int) : Int := if b % 4294967296 = 0 then a % 4294967296 else (sgn a).tmod (sgn b) % 4294967296
def shlV (a k : Int) : Int := a % 4294967296 * 2 ^ (k % 32).toNat % 4294967296
def shrV (a k : Int) : Int := wrap64 (a % 4294967296 / 2 ^ (k % 32).toNat)

theorem mulV_eq (a b : Int) : mulV a b = a * b % 4294967296 := by unfold mulV; rw [← Int.mul_emod]
theorem addV_assoc (a b c : Int) : addV (addV a b) c = addV a (addV b c) := by
  unfold addV; rw [Int.emod_add_emod, Int.add_emod_emod, Int.add_assoc]
theorem addV_comm (a b : Int) : addV a b = addV b a := by unfold addV; rw [Int.add_comm]
theorem mulV_addV (a b c : Int) : mulV a (addV b c) = addV (mulV a b) (mulV a c) := by
  rw [mulV_eq, mulV_eq, mulV_eq]
  unfold addV
  rw [Int.emod_add_emod, Int.add_emod_emod, Int.mul_emod, Int.emod_emod_of_dvd _ (Int.dvd_refl _), ← Int.mul_emod, Int.mul_add]
theorem wd_in (a : Int) : 0 ≤ wd a ∧ wd a ≤ 4294967295 := by unfold wd; omega
theorem sgn_mod (a : Int) : sgn a % 4294967296 = a % 4294967296 := by unfold sgn wrap64 wrap32; omega
theorem sgn_in (a : Int) : -2147483648 ≤ sgn a ∧ sgn a ≤ 2147483647 := by unfold sgn wrap64 wrap32; omega
theorem sgn_zero (a : Int) : sgn a = 0 ↔ a % 4294967296 = 0 := by unfold sgn wrap64 wrap32; omega
theorem wd_sgn (a : Int) : wd (sgn a) = wd a := sgn_mod a
theorem wrap64_mod (n : Int) : wrap64 n % 4294967296 = n % 4294967296 := by unfold wrap64; omega
theorem addV_zero (a : Int) : addV a 0 = wd a := by unfold addV wd; rw [Int.add_zero]

theorem back (a b : Int) : addV (mulV (divV a b) b) (remV a b) = wd a := by
  rw [mulV_eq]
  unfold addV wd
  rw [Int.emod_add_emod]
  by_cases h : b % 4294967296 = 0
  · have e1 : remV a b = a % 4294967296 := by unfold remV; rw [if_pos h]
    have e2 : divV a b = 4294967295 := by unfold divV; rw [if_pos h]
    rw [e1, e2, Int.add_emod_emod]
    omega
  · have e1 : remV a b = (sgn a).tmod (sgn b) % 4294967296 := by unfold remV; rw [if_neg h]
    have e2 : divV a b = wrap64 ((sgn a).tdiv (sgn b)) % 4294967296 := by unfold divV; rw [if_neg h]
    rw [e1, e2, wrap64_mod, Int.add_emod_emod, Int.add_emod, Int.mul_emod, Int.emod_emod_of_dvd _ (Int.dvd_refl _), ← sgn_mod b, ← Int.mul_emod, ← Int.add_emod, Int.tdiv_mul_add_tmod, sgn_mod]

theorem nat_and_xor (a b : Nat) : (a &&& b) + (a ^^^ b) = a ||| b := by
  induction a using Nat.strongRecOn generalizing b with
  | _ a ih =>
    by_cases h : a = 0
    · subst h; simp
    · have hi := ih (a / 2) (by omega) (b / 2)
      have e1 : (a &&& b) / 2 = a / 2 &&& b / 2 := Nat.and_div_two
      have e2 : (a ^^^ b) / 2 = a / 2 ^^^ b / 2 := Nat.xor_div_two
      have e3 : (a ||| b) / 2 = a / 2 ||| b / 2 := Nat.or_div_two
      have m1 := @Nat.and_mod_two_eq_one a b
      have m2 := @Nat.xor_mod_two_eq_one a b
      have m3 := @Nat.or_mod_two_eq_one a b
      have r1 := Nat.mod_two_eq_zero_or_one (a &&& b)
      have r2 := Nat.mod_two_eq_zero_or_one (a ^^^ b)
      have r3 := Nat.mod_two_eq_zero_or_one (a ||| b)
      have ra := Nat.mod_two_eq_zero_or_one a
      have rb := Nat.mod_two_eq_zero_or_one b
      generalize (a &&& b) = x at *
      generalize (a ^^^ b) = y at *
      generalize (a ||| b) = z at *
      rw [← e1, ← e2, ← e3] at hi
      omega

theorem shift_back (v k : Int) : shrV (shlV v k) k = wd v % 2 ^ (32 - (k % 32).toNat) := by
  unfold shrV shlV wd
  obtain ⟨n, hn⟩ : ∃ n : Nat, (k % 32).toNat = n := ⟨_, rfl⟩
  have hn32 : n < 32 := by omega
  rw [hn]
  clear hn
  generalize v % 4294967296 = x
  have hp : (4294967296 : Int) = 2 ^ (32 - n) * 2 ^ n := by rw [← Int.pow_add, Nat.sub_add_cancel (by omega)]; rfl
  have hpos : (0 : Int) < 2 ^ n := Int.pow_pos (by decide)
  have e : x * 2 ^ n % 4294967296 = (x % 2 ^ (32 - n)) * 2 ^ n := by
    rw [hp, Int.mul_comm x, Int.mul_comm (2 ^ (32 - n)) (2 ^ n), Int.mul_emod_mul_of_pos _ _ hpos, Int.mul_comm]
  have e2 : x * 2 ^ n % 4294967296 % 4294967296 = (x % 2 ^ (32 - n)) * 2 ^ n := by
    rw [Int.emod_emod_of_dvd _ (Int.dvd_refl _), e]
  rw [e2, Int.mul_ediv_cancel _ (by omega)]
  have h1 : (0 : Int) ≤ x % 2 ^ (32 - n) := Int.emod_nonneg _ (by have := Int.pow_pos (n := 2) (m := 32 - n) (by decide); omega)
  have h2 : x % 2 ^ (32 - n) < 2 ^ (32 - n) := Int.emod_lt_of_pos _ (Int.pow_pos (by decide))
  have h3 : (2 : Int) ^ (32 - n) ≤ 2 ^ 32 := by exact_mod_cast Nat.pow_le_pow_right (n := 2) (by decide) (show 32 - n ≤ 32 by omega)
  unfold wrap64
  omega
def bitC (op : Int) : Int := if op = 1 then 0 else if op = 2 then 0 else if op = 3 then 0 else 3
def bitV (op a b : Int) : Int :=
  if op = 1 then wrap64 (bits BinOp.and IntKind.u32 (a % 4294967296) (b % 4294967296))
  else if op = 2 then wrap64 (bits BinOp.or IntKind.u32 (a % 4294967296) (b % 4294967296))
  else if op = 3 then wrap64 (bits BinOp.xor IntKind.u32 (a % 4294967296) (b % 4294967296))
  else 0
theorem bitC_no {op : Int} (h1 : ¬ op = 1) (h2 : ¬ op = 2) (h3 : ¬ op = 3) : bitC op = 3 := by simp [bitC, h1, h2, h3]
theorem bitV_no {op : Int} (a b : Int) (h1 : ¬ op = 1) (h2 : ¬ op = 2) (h3 : ¬ op = 3) : bitV op a b = 0 := by simp [bitV, h1, h2, h3]


theorem bitV_in {a b : Int} {op : BinOp} {n : Nat} (h : bits op .u32 (a % 4294967296) (b % 4294967296) = (n : Int)) (hn : n < 2 ^ 32) : wrap64 (bits op .u32 (a % 4294967296) (b % 4294967296)) = (n : Int) := by
  rw [h]; unfold wrap64; omega
theorem toNat_lt (a : Int) : (a % 4294967296).toNat < 2 ^ 32 := by omega
theorem bitV_and (a b : Int) : bitV 1 a b = (((a % 4294967296).toNat &&& (b % 4294967296).toNat : Nat) : Int) := by
  have e : bitV 1 a b = wrap64 (bits BinOp.and IntKind.u32 (a % 4294967296) (b % 4294967296)) := by simp [bitV]
  rw [e]
  exact bitV_in (u32_and _ _ (by omega) (by omega) (by omega) (by omega)) (Nat.and_lt_two_pow _ (toNat_lt b))
theorem bitV_or (a b : Int) : bitV 2 a b = (((a % 4294967296).toNat ||| (b % 4294967296).toNat : Nat) : Int) := by
  have e : bitV 2 a b = wrap64 (bits BinOp.or IntKind.u32 (a % 4294967296) (b % 4294967296)) := by simp [bitV]
  rw [e]
  exact bitV_in (u32_or _ _ (by omega) (by omega) (by omega) (by omega)) (Nat.or_lt_two_pow (toNat_lt a) (toNat_lt b))
theorem bitV_xor (a b : Int) : bitV 3 a b = (((a % 4294967296).toNat ^^^ (b % 4294967296).toNat : Nat) : Int) := by
  have e : bitV 3 a b = wrap64 (bits BinOp.xor IntKind.u32 (a % 4294967296) (b % 4294967296)) := by simp [bitV]
  rw [e]
  exact bitV_in (u32_xor _ _ (by omega) (by omega) (by omega) (by omega)) (Nat.xor_lt_two_pow (toNat_lt a) (toNat_lt b))
theorem bit_sum (a b : Int) : bitV 1 a b + bitV 3 a b = bitV 2 a b := by
  rw [bitV_and, bitV_or, bitV_xor, ← nat_and_xor]; simp
theorem bit_lt (a b : Int) : 0 ≤ bitV 2 a b ∧ bitV 2 a b ≤ 4294967295 := by
  have h := Nat.or_lt_two_pow (toNat_lt a) (toNat_lt b)
  rw [bitV_or]; omega
theorem bit_back (a b : Int) : bitV 3 (bitV 3 a b) b = wd a := by
  rw [bitV_xor (bitV 3 a b) b, bitV_xor]
  have h := Nat.xor_lt_two_pow (toNat_lt a) (toNat_lt b)
  generalize hx : (a % 4294967296).toNat = x at *
  generalize (b % 4294967296).toNat = y at *
  have e : (((x ^^^ y : Nat) : Int) % 4294967296).toNat = x ^^^ y := by omega
  rw [e, Nat.xor_assoc, Nat.xor_self, Nat.xor_zero]
  unfold wd
  omega
theorem tmod_32 (k : Int) : (wrap64 (k.tmod 32 + 32)).tmod 32 = k % 32 := by
  have h1 : -32 < k.tmod 32 ∧ k.tmod 32 < 32 := ⟨by have := Int.lt_tmod_of_pos k (b := 32) (by decide); omega, Int.tmod_lt_of_pos k (by decide)⟩
  have h2 : (k.tmod 32) % 32 = k % 32 := by
    have h := Int.mul_tdiv_add_tmod k 32
    omega
  have h3 : wrap64 (k.tmod 32 + 32) = k.tmod 32 + 32 := by unfold wrap64; omega
  rw [h3, Int.tmod_eq_emod_of_nonneg (by omega)]
  omega
theorem pow_wrap (m : Nat) : wrap64 (2 ^ (32 - m)) = 2 ^ (32 - m) ∧ (0 : Int) < 2 ^ (32 - m) := by
  have h1 : (0 : Int) < 2 ^ (32 - m) := Int.pow_pos (by decide)
  have h3 : (2 : Int) ^ (32 - m) ≤ 2 ^ 32 := by exact_mod_cast Nat.pow_le_pow_right (n := 2) (by decide) (show 32 - m ≤ 32 by omega)
  refine ⟨?_, h1⟩
  unfold wrap64
  omega
theorem shift_test (v k : Int) (m : Nat) (hm : k % 32 = (m : Int)) : (shrV (shlV v k) k == (wd v).tmod (wrap64 (2 ^ (32 - m)))) = true := by
  rw [beq_iff_eq, (pow_wrap m).1, shift_back, hm, Int.toNat_natCast, Int.tmod_eq_emod_of_nonneg (wd_in v).1]
theorem bit_wrap (a b : Int) : (wrap64 (bitV 1 a b + bitV 3 a b) == bitV 2 a b) = true := by
  have h := bit_lt a b
  rw [bit_sum, beq_iff_eq]
  unfold wrap64
  omega
theorem shr_eq (v k : Int) : shrV v k = wd v / 2 ^ (k % 32).toNat := by
  unfold shrV wd
  generalize (k % 32).toNat = n
  have h1 : (0 : Int) ≤ v % 4294967296 / 2 ^ n := Int.ediv_nonneg (by omega) (by have := Int.pow_pos (n := 2) (m := n) (by decide); omega)
  have h2 : v % 4294967296 / 2 ^ n ≤ v % 4294967296 := Int.ediv_le_self _ (by omega)
  unfold wrap64
  omega
end Go.Proofs.Ytijajemalokgjaa
