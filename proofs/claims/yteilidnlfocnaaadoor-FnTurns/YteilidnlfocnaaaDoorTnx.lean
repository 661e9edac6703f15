/- Texts of this seat, joined. -/
import Derived.RowKit
import Derived.Laws.BitsAllLaws
import Derived.Test.YteilidnlfocnaaaDoorBase
import Derived.Test.YteilidnlfocnaaaDoorNumb
import Derived.Test.YteilidnlfocnaaaDoorMemr
import Derived.Laws.AppendOwn
import Derived.Test.YteilidnlfocnaaaDoorPol
import Derived.Deep.RegionHeld3
import Derived.Deep.WholeRow
import Derived.Deep.Cut
import Derived.Deep.CutRange
import Derived.BigQuiet
namespace Go.Proofs.YteilidnlfocnaaaDoor
open Go.RowKit

def wd (n : Int) : Int := n % 4294967296
def addV (a b : Int) : Int := (a + b) % 4294967296
def mulV (a b : Int) : Int := a % 4294967296 * (b % 4294967296) % 4294967296
def sgn (a : Int) : Int := wrap64 (wrap32 (a % 4294967296))
def divV (a b : Int) : Int := if b % 4294967296 = 0 then 4294967295 else wrap64 ((sgn a).tdiv (sgn b)) % 4294967296
def remV (a b : Int) : Int := if b % 4294967296 = 0 then a % 4294967296 else (sgn a).tmod (sgn b) % 4294967296
def shlV (a k : Int) : Int := a % 4294967296 * 2 ^ (k % 32).toNat % 4294967296
def shrV (a k : Int) : Int := wrap64 (a % 4294967296 / 2 ^ (k % 32).toNat)

theorem mulV_eq (a b : Int) : mulV a b = a * b % 4294967296 := by unfold mulV; rw [← Int.mul_emod]
theorem addV_assoc (a b c : Int) : addV (addV a b) c = addV a (addV b c) := by
  unfold addV; rw [Int.emod_add_emod, Int.add_emod_emod, Int.add_assoc]
theorem addV_comm (a b : Int) : addV a b = addV b a := by unfold addV; rw [Int.add_comm]
theorem mulV_addV (a b c : Int) : mulV a (addV b c) = addV (mulV a b) (mulV a c) := by
  rw [mulV_eq, mulV_eq, mulV_eq]
  unfold addV
  rw [Int.emod_add_emod, Int.add_emod_emod, Int.mul_emod, Int.emod_emod_of_dvd _ (Int.dvd_refl _), ← Int.mul_emod, Int.mul_add]
theorem wd_in (a : Int) : 0 ≤ wd a ∧ wd a ≤ 4294967295 := by unfold wd; omega
theorem sgn_mod (a : Int) : sgn a % 4294967296 = a % 4294967296 := by unfold sgn wrap64 wrap32; omega
theorem sgn_in (a : Int) : -2147483648 ≤ sgn a ∧ sgn a ≤ 2147483647 := by unfold sgn wrap64 wrap32; omega
theorem sgn_zero (a : Int) : sgn a = 0 ↔ a % 4294967296 = 0 := by unfold sgn wrap64 wrap32; omega
theorem wd_sgn (a : Int) : wd (sgn a) = wd a := sgn_mod a
theorem wrap64_mod (n : Int) : wrap64 n % 4294967296 = n % 4294967296 := by unfold wrap64; omega
theorem addV_zero (a : Int) : addV a 0 = wd a := by unfold addV wd; rw [Int.add_zero]

theorem back (a b : Int) : addV (mulV (divV a b) b) (remV a b) = wd a := by
  rw [mulV_eq]
  unfold addV wd
  rw [Int.emod_add_emod]
  by_cases h : b % 4294967296 = 0
  · have e1 : remV a b = a % 4294967296 := by unfold remV; rw [if_pos h]
    have e2 : divV a b = 4294967295 := by unfold divV; rw [if_pos h]
    rw [e1, e2, Int.add_emod_emod]
    omega
  · have e1 : remV a b = (sgn a).tmod (sgn b) % 4294967296 := by unfold remV; rw [if_neg h]
    have e2 : divV a b = wrap64 ((sgn a).tdiv (sgn b)) % 4294967296 := by unfold divV; rw [if_neg h]
    rw [e1, e2, wrap64_mod, Int.add_emod_emod, Int.add_emod, Int.mul_emod, Int.emod_emod_of_dvd _ (Int.dvd_refl _), ← sgn_mod b, ← Int.mul_emod, ← Int.add_emod, Int.tdiv_mul_add_tmod, sgn_mod]

theorem nat_and_xor (a b : Nat) : (a &&& b) + (a ^^^ b) = a ||| b := by
  induction a using Nat.strongRecOn generalizing b with
  | _ a ih =>
    by_cases h : a = 0
    · subst h; simp
    · have hi := ih (a / 2) (by omega) (b / 2)
      have e1 : (a &&& b) / 2 = a / 2 &&& b / 2 := Nat.and_div_two
      have e2 : (a ^^^ b) / 2 = a / 2 ^^^ b / 2 := Nat.xor_div_two
      have e3 : (a ||| b) / 2 = a / 2 ||| b / 2 := Nat.or_div_two
      have m1 := @Nat.and_mod_two_eq_one a b
      have m2 := @Nat.xor_mod_two_eq_one a b
      have m3 := @Nat.or_mod_two_eq_one a b
      have r1 := Nat.mod_two_eq_zero_or_one (a &&& b)
      have r2 := Nat.mod_two_eq_zero_or_one (a ^^^ b)
      have r3 := Nat.mod_two_eq_zero_or_one (a ||| b)
      have ra := Nat.mod_two_eq_zero_or_one a
      have rb := Nat.mod_two_eq_zero_or_one b
      generalize (a &&& b) = x at *
      generalize (a ^^^ b) = y at *
      generalize (a ||| b) = z at *
      rw [← e1, ← e2, ← e3] at hi
      omega

theorem shift_back (v k : Int) : shrV (shlV v k) k = wd v % 2 ^ (32 - (k % 32).toNat) := by
  unfold shrV shlV wd
  obtain ⟨n, hn⟩ : ∃ n : Nat, (k % 32).toNat = n := ⟨_, rfl⟩
  have hn32 : n < 32 := by omega
  rw [hn]
  clear hn
  generalize v % 4294967296 = x
  have hp : (4294967296 : Int) = 2 ^ (32 - n) * 2 ^ n := by rw [← Int.pow_add, Nat.sub_add_cancel (by omega)]; rfl
  have hpos : (0 : Int) < 2 ^ n := Int.pow_pos (by decide)
  have e : x * 2 ^ n % 4294967296 = (x % 2 ^ (32 - n)) * 2 ^ n := by
    rw [hp, Int.mul_comm x, Int.mul_comm (2 ^ (32 - n)) (2 ^ n), Int.mul_emod_mul_of_pos _ _ hpos, Int.mul_comm]
  have e2 : x * 2 ^ n % 4294967296 % 4294967296 = (x % 2 ^ (32 - n)) * 2 ^ n := by
    rw [Int.emod_emod_of_dvd _ (Int.dvd_refl _), e]
  rw [e2, Int.mul_ediv_cancel _ (by omega)]
  have h1 : (0 : Int) ≤ x % 2 ^ (32 - n) := Int.emod_nonneg _ (by have := Int.pow_pos (n := 2) (m := 32 - n) (by decide); omega)
  have h2 : x % 2 ^ (32 - n) < 2 ^ (32 - n) := Int.emod_lt_of_pos _ (Int.pow_pos (by decide))
  have h3 : (2 : Int) ^ (32 - n) ≤ 2 ^ 32 := by exact_mod_cast Nat.pow_le_pow_right (n := 2) (by decide) (show 32 - n ≤ 32 by omega)
  unfold wrap64
  omega
def bitC (op : Int) : Int := if op = 1 then 0 else if op = 2 then 0 else if op = 3 then 0 else 3
def bitV (op a b : Int) : Int :=
  if op = 1 then wrap64 (bits BinOp.and IntKind.u32 (a % 4294967296) (b % 4294967296))
  else if op = 2 then wrap64 (bits BinOp.or IntKind.u32 (a % 4294967296) (b % 4294967296))
  else if op = 3 then wrap64 (bits BinOp.xor IntKind.u32 (a % 4294967296) (b % 4294967296))
  else 0
theorem bitC_no {op : Int} (h1 : ¬ op = 1) (h2 : ¬ op = 2) (h3 : ¬ op = 3) : bitC op = 3 := by simp [bitC, h1, h2, h3]
theorem bitV_no {op : Int} (a b : Int) (h1 : ¬ op = 1) (h2 : ¬ op = 2) (h3 : ¬ op = 3) : bitV op a b = 0 := by simp [bitV, h1, h2, h3]


theorem bitV_in {a b : Int} {op : BinOp} {n : Nat} (h : bits op .u32 (a % 4294967296) (b % 4294967296) = (n : Int)) (hn : n < 2 ^ 32) : wrap64 (bits op .u32 (a % 4294967296) (b % 4294967296)) = (n : Int) := by
  rw [h]; unfold wrap64; omega
theorem toNat_lt (a : Int) : (a % 4294967296).toNat < 2 ^ 32 := by omega
theorem bitV_and (a b : Int) : bitV 1 a b = (((a % 4294967296).toNat &&& (b % 4294967296).toNat : Nat) : Int) := by
  have e : bitV 1 a b = wrap64 (bits BinOp.and IntKind.u32 (a % 4294967296) (b % 4294967296)) := by simp [bitV]
  rw [e]
  exact bitV_in (u32_and _ _ (by omega) (by omega) (by omega) (by omega)) (Nat.and_lt_two_pow _ (toNat_lt b))
theorem bitV_or (a b : Int) : bitV 2 a b = (((a % 4294967296).toNat ||| (b % 4294967296).toNat : Nat) : Int) := by
  have e : bitV 2 a b = wrap64 (bits BinOp.or IntKind.u32 (a % 4294967296) (b % 4294967296)) := by simp [bitV]
  rw [e]
  exact bitV_in (u32_or _ _ (by omega) (by omega) (by omega) (by omega)) (Nat.or_lt_two_pow (toNat_lt a) (toNat_lt b))
theorem bitV_xor (a b : Int) : bitV 3 a b = (((a % 4294967296).toNat ^^^ (b % 4294967296).toNat : Nat) : Int) := by
  have e : bitV 3 a b = wrap64 (bits BinOp.xor IntKind.u32 (a % 4294967296) (b % 4294967296)) := by simp [bitV]
  rw [e]
  exact bitV_in (u32_xor _ _ (by omega) (by omega) (by omega) (by omega)) (Nat.xor_lt_two_pow (toNat_lt a) (toNat_lt b))
theorem bit_sum (a b : Int) : bitV 1 a b + bitV 3 a b = bitV 2 a b := by
  rw [bitV_and, bitV_or, bitV_xor, ← nat_and_xor]; simp
theorem bit_lt (a b : Int) : 0 ≤ bitV 2 a b ∧ bitV 2 a b ≤ 4294967295 := by
  have h := Nat.or_lt_two_pow (toNat_lt a) (toNat_lt b)
  rw [bitV_or]; omega
theorem bit_back (a b : Int) : bitV 3 (bitV 3 a b) b = wd a := by
  rw [bitV_xor (bitV 3 a b) b, bitV_xor]
  have h := Nat.xor_lt_two_pow (toNat_lt a) (toNat_lt b)
  generalize hx : (a % 4294967296).toNat = x at *
  generalize (b % 4294967296).toNat = y at *
  have e : (((x ^^^ y : Nat) : Int) % 4294967296).toNat = x ^^^ y := by omega
  rw [e, Nat.xor_assoc, Nat.xor_self, Nat.xor_zero]
  unfold wd
  omega
theorem tmod_32 (k : Int) : (wrap64 (k.tmod 32 + 32)).tmod 32 = k % 32 := by
  have h1 : -32 < k.tmod 32 ∧ k.tmod 32 < 32 := ⟨by have := Int.lt_tmod_of_pos k (b := 32) (by decide); omega, Int.tmod_lt_of_pos k (by decide)⟩
  have h2 : (k.tmod 32) % 32 = k % 32 := by
    have h := Int.mul_tdiv_add_tmod k 32
    omega
  have h3 : wrap64 (k.tmod 32 + 32) = k.tmod 32 + 32 := by unfold wrap64; omega
  rw [h3, Int.tmod_eq_emod_of_nonneg (by omega)]
  omega
theorem pow_wrap (m : Nat) : wrap64 (2 ^ (32 - m)) = 2 ^ (32 - m) ∧ (0 : Int) < 2 ^ (32 - m) := by
  have h1 : (0 : Int) < 2 ^ (32 - m) := Int.pow_pos (by decide)
  have h3 : (2 : Int) ^ (32 - m) ≤ 2 ^ 32 := by exact_mod_cast Nat.pow_le_pow_right (n := 2) (by decide) (show 32 - m ≤ 32 by omega)
  refine ⟨?_, h1⟩
  unfold wrap64
  omega
theorem shift_test (v k : Int) (m : Nat) (hm : k % 32 = (m : Int)) : (shrV (shlV v k) k == (wd v).tmod (wrap64 (2 ^ (32 - m)))) = true := by
  rw [beq_iff_eq, (pow_wrap m).1, shift_back, hm, Int.toNat_natCast, Int.tmod_eq_emod_of_nonneg (wd_in v).1]
theorem bit_wrap (a b : Int) : (wrap64 (bitV 1 a b + bitV 3 a b) == bitV 2 a b) = true := by
  have h := bit_lt a b
  rw [bit_sum, beq_iff_eq]
  unfold wrap64
  omega
theorem shr_eq (v k : Int) : shrV v k = wd v / 2 ^ (k % 32).toNat := by
  unfold shrV wd
  generalize (k % 32).toNat = n
  have h1 : (0 : Int) ≤ v % 4294967296 / 2 ^ n := Int.ediv_nonneg (by omega) (by have := Int.pow_pos (n := 2) (m := n) (by decide); omega)
  have h2 : v % 4294967296 / 2 ^ n ≤ v % 4294967296 := Int.ediv_le_self _ (by omega)
  unfold wrap64
  omega
end Go.Proofs.YteilidnlfocnaaaDoor
namespace Go.Proofs.YteilidnlfocnaaaDoor
open Go.RowKit

theorem field_value (x y : Value) (w : World) : (Instr.field 33 (.agg #[x, y]) 1).run Tryd.prog w = .ok y w := by kernel_rfl
theorem field_code (x y : Value) (w : World) : (Instr.field 33 (.agg #[x, y]) 0).run Tryd.prog w = .ok x w := by kernel_rfl
theorem ret_i64 {a b : Int} (h : a = b) : Ending.returned (.int .i64 a) = .returned (.int .i64 b) := by rw [h]
end Go.Proofs.YteilidnlfocnaaaDoor
namespace Go.Proofs.YteilidnlfocnaaaDoor
open Go.RowKit
set_option linter.unusedVariables false

def isW (z : Int) : Bool := decide (0 ≤ z) && decide (z ≤ 4294967295)
def formB (n : Nat) : Bool := decide (n % 8 = 0 ∧ 8 ≤ n ∧ n ≤ 192)
def memV (zs : List Int) : Int := if formB zs.length then (if zs.all isW then 0 else 3) else 1

theorem isW_wd (z : Int) : (wd z == z) = isW z := by
  have h := wd_in z
  rw [Bool.eq_iff_iff]
  simp only [isW, beq_iff_eq, Bool.and_eq_true, decide_eq_true_eq]
  constructor
  · intro e
    rw [e] at h
    omega
  · intro e
    unfold wd
    omega
theorem all_take (zs : List Int) (j : Nat) (h : j < zs.length) : (zs.take (j + 1)).all isW = ((zs.take j).all isW && isW (zs.getD j 0)) := by
  rw [List.take_succ_eq_append_getElem h, List.all_append, List.getD, List.getElem?_eq_getElem h]
  simp
theorem all_not (zs : List Int) (j : Nat) (h : j < zs.length) (hz : isW (zs.getD j 0) = false) : zs.all isW = false := by
  rw [List.getD, List.getElem?_eq_getElem h] at hz
  rw [List.all_eq_false]
  exact ⟨_, List.getElem_mem h, by simpa using hz⟩

theorem spec_in (z a b : Int) (w : World) : Calls Tryd.prog 28 #[.int .i64 z, .int .i64 a, .int .i64 b] w fun e w' => e = .returned (.bool (decide (a ≤ z) && decide (z ≤ b))) ∧ w' = w := by
  by_cases h : a ≤ z
  · go_enter Tryd.func28, Tryd.ntmps28
    go_wp2
    go_ret
    exact ⟨by simp [h], rfl⟩
  · go_enter Tryd.func28, Tryd.ntmps28
    go_wp2
    go_ret
    exact ⟨by simp; omega, rfl⟩

theorem ret_i {a b : Int} (h : a = b) : Ending.returned (.int .i64 a) = .returned (.int .i64 b) := by rw [h]
theorem memV_form {zs : List Int} {n : Nat} (hn : zs.length = n) (h : formB n = false) : memV zs = 1 := by simp [memV, hn, h]
theorem memV_not {zs : List Int} {n : Nat} (hn : zs.length = n) (h : formB n = true) (ha : zs.all isW = false) : memV zs = 3 := by simp [memV, hn, h, ha]
theorem memV_ok {zs : List Int} {n : Nat} (hn : zs.length = n) (h : formB n = true) (ha : zs.all isW = true) : memV zs = 0 := by simp [memV, hn, h, ha]

end Go.Proofs.YteilidnlfocnaaaDoor
namespace Go.Proofs.YteilidnlfocnaaaDoor
open Go.RowKit
set_option linter.unusedVariables false

/-- A slice of numbers, read alone. -/
def Rn (w : World) (a : Option Addr) (len cap : Nat) (zs : List Int) : Prop :=
  (a = none ∧ len = 0 ∧ cap = 0 ∧ zs = []) ∨
  ∃ x, a = some x ∧ len ≤ cap ∧ cap ≤ maxLen ∧ zs.length = len ∧ ∀ i, i < len → w.cell? (x.add i) = some (.int .i64 (zs.getD i 0))
theorem Rn.stay {w w' : World} {a : Option Addr} {len cap : Nat} {zs : List Int} (h : Rn w a len cap zs) (b : Below w.heap.size w w') : Rn w' a len cap zs := by
  rcases h with h | ⟨x, rfl, h1, h2, h3, h4⟩
  · exact .inl h
  · exact .inr ⟨x, rfl, h1, h2, h3, fun i hi => cell_keep b (h4 i hi)⟩
theorem Rn.len {w : World} {a : Option Addr} {len cap : Nat} {zs : List Int} (h : Rn w a len cap zs) : len = zs.length := by
  rcases h with ⟨_, h1, _, rfl⟩ | ⟨x, _, _, _, h1, _⟩
  · simpa using h1
  · exact h1.symm
theorem Rn.cap {w : World} {a : Option Addr} {len cap : Nat} {zs : List Int} (h : Rn w a len cap zs) : len ≤ cap ∧ cap ≤ maxLen := by
  rcases h with ⟨_, h1, h2, _⟩ | ⟨x, _, h1, h2, _⟩
  · subst h1 h2; exact ⟨Nat.le_refl _, Nat.zero_le _⟩
  · exact ⟨h1, h2⟩
theorem Rn.at {w : World} {a : Option Addr} {len cap : Nat} {zs : List Int} (h : Rn w a len cap zs) (i : Nat) (hi : i < len) : ∃ x, a = some x ∧ w.cell? (x.add i) = some (.int .i64 (zs.getD i 0)) := by
  rcases h with ⟨_, h1, _, _⟩ | ⟨x, rfl, _, _, _, h4⟩
  · omega
  · exact ⟨x, rfl, h4 i hi⟩
theorem IsRow.rn {w : World} {a : Option Addr} {len cap : Nat} {zs : List Int} (h : IsRow .i64 w a len cap zs) : Rn w a len cap zs := by
  rcases h with h | ⟨x, h0, h1, h2, h3, h4, _⟩
  · exact .inl h
  · exact .inr ⟨x, h0, h1, h2, h3, h4⟩
theorem Nums.rn {w : World} {base n cap : Nat} {a : Option Addr} {zs : List Int} (h : Nums w base (.slice a n cap) zs) : Rn w a n cap zs := by
  obtain ⟨a', cap', hv, l1, l2, hg⟩ := h.shape
  cases hv
  by_cases hz : 0 < zs.length
  · obtain ⟨g, rfl⟩ := hg hz
    refine .inr ⟨_, rfl, l1, l2, rfl, fun i hi => ?_⟩
    have := h.cell rfl i hi
    simpa [Addr.add_lit] using this
  · have h0 : zs = [] := by cases zs with
      | nil => rfl
      | cons x t => exact absurd (Nat.succ_pos _) hz
    subst h0
    cases a with
    | none =>
      obtain ⟨h1, ⟨hq, h3⟩ | ⟨g, cap, cur, hq, _⟩⟩ := h
      · cases hq; exact .inl ⟨rfl, rfl, rfl, rfl⟩
      · cases hq
    | some x => exact .inr ⟨x, rfl, l1, l2, rfl, fun i hi => absurd hi (Nat.not_lt_zero _)⟩
/-- A slice as a value, read alone. -/
def Rv (w : World) (v : Value) (zs : List Int) : Prop := ∃ a cap, v = .slice a zs.length cap ∧ Rn w a zs.length cap zs
theorem Rv.stay {w w' : World} {v : Value} {zs : List Int} (h : Rv w v zs) (b : Below w.heap.size w w') : Rv w' v zs := by
  obtain ⟨a, cap, h1, h2⟩ := h
  exact ⟨a, cap, h1, h2.stay b⟩
theorem Nums.rv {w : World} {base : Nat} {v : Value} {zs : List Int} (h : Nums w base v zs) : Rv w v zs := by
  obtain ⟨a, cap, rfl, _⟩ := h.shape
  exact ⟨a, cap, rfl, h.rn⟩
theorem Rn.rv {w : World} {a : Option Addr} {len cap : Nat} {zs : List Int} (h : Rn w a len cap zs) : Rv w (.slice a len cap) zs := by
  have := h.len
  subst this
  exact ⟨a, cap, rfl, h⟩

theorem IsRow.ln {k : IntKind} {w : World} {a : Option Addr} {len cap : Nat} {zs : List Int} (h : IsRow k w a len cap zs) : len = zs.length ∧ len ≤ 9223372036854775807 := by
  rcases h with ⟨_, h1, _, rfl⟩ | ⟨x, _, h1, h2, h3, _⟩
  · exact ⟨by simpa using h1, by omega⟩
  · exact ⟨h3.symm, by unfold maxLen at h2; omega⟩

/-- append of numbers that lie anywhere to a slice of the call's own. -/
theorem wp_appx {ops : Array Oper} {rest : List Oper} {o : Oper} {act : Act} {Q : Exit → Act → World → Prop} (w : World) (hgd : o.guard = none) (s x : Operand)
    (ho : o.op = .call { callee := .builtin .append, args := #[s, x], argTypes := #[61, 61] }) (base : Nat) (v : Value) (zs : List Int) (hs : act.eval s = v) (hN : Nums w base v zs)
    (p : Addr) (m c : Nat) (ys : List Int) (hx : act.eval x = .slice (some p) m c) (hR : Rn w (some p) m c ys)
    (hlen : zs.length + m ≤ 1000000000) (hbase : base ≤ w.heap.size)
    (h : ∀ v' w', Nums w' base v' (zs ++ ys) → w.grownBy w' v.ownBlock → wpList Tryd.prog ops Q rest (act.put o.dst v') w') : wpList Tryd.prog ops Q (o :: rest) act w := by
  have hy : ys.length = m := hR.len.symm
  have hc : ∀ i, i < m → w.cell? (p.add i) = some (.int .i64 (ys.getD i 0)) := by
    intro i hi
    obtain ⟨x, e, h⟩ := hR.at i hi
    cases e
    exact h
  obtain ⟨i, hi, hz0, hz1, hz2⟩ := info_parts info_i64
  refine wpList_append_own w hgd s x 61 ho base 2 i _ 1 8 Tryd.underlying61 hi hz0 hz1 hz2 rfl (by decide) v zs.length _ hs hN p m c (ys.map (Value.int .i64)) hx (by simpa using hy) ?_ ?_ (by unfold maxLen; omega) (by omega) hbase ?_
  · intro j u hj
    have hjl : j < ys.length := by have := (List.getElem?_eq_some_iff.1 hj).1; simpa using this
    rw [List.getElem?_map, List.getElem?_eq_getElem hjl] at hj
    have := hc j (by omega)
    rw [List.getD, List.getElem?_eq_getElem hjl] at this
    rw [this]
    exact hj
  · intro u hu
    obtain ⟨z, _, rfl⟩ := List.mem_map.1 hu
    rfl
  · intro v' w' hown hgrow _
    refine h v' w' ?_ hgrow
    unfold Nums
    rw [List.length_append, hy, List.map_append]
    exact hown
theorem nums_none (w : World) (base : Nat) (hb : base ≤ w.heap.size) : Nums (w.alloc (.cells #[] 2)) base (.slice (some ⟨w.heap.size, 0, none⟩) 0 0) [] :=
  World.ownsRow_lit w #[] 0 hb (by decide) rfl

/-- A block of cells of a type. -/
def Vb (w : World) (q : Nat) (cs : Array Value) (t : TypeId) : Prop := w.heap[q]? = some (.cells cs t (0, 0))
theorem Vb.cell {w : World} {q : Nat} {cs : Array Value} {t : TypeId} (h : Vb w q cs t) (i : Nat) {v : Value} (hi : cs[i]? = some v) : w.cell? ⟨q, i, none⟩ = some v := by
  unfold Vb at h
  simp [World.cell?, h, hi]
theorem Vb.free {w : World} {q : Nat} {cs : Array Value} {t : TypeId} (h : Vb w q cs t) (i : Nat) : w.frozen? ⟨q, i, none⟩ = false := by
  unfold Vb at h
  simp [World.frozen?, h]
theorem Vb.lt {w : World} {q : Nat} {cs : Array Value} {t : TypeId} (h : Vb w q cs t) : q < w.heap.size := by
  rcases Nat.lt_or_ge q w.heap.size with h1 | h1
  · exact h1
  · unfold Vb at h
    rw [Array.getElem?_eq_none h1] at h
    cases h
theorem Vb.new (w : World) (cs : Array Value) (t : TypeId) : Vb (w.alloc (.cells cs t)) w.heap.size cs t := heap_alloc_new w _
theorem Vb.gr {w w' : World} {q : Nat} {cs : Array Value} {t : TypeId} {row : Option Nat} (h : Vb w q cs t) (g : w.grownBy w' row) (hn : some q ≠ row) : Vb w' q cs t := (g.block q h.lt hn).trans h
theorem Vb.keep {w w' : World} {q : Nat} {cs : Array Value} {t : TypeId} (h : Vb w q cs t) (b : Below w.heap.size w w') : Vb w' q cs t := (b.block q h.lt).trans h
theorem Vb.put {w : World} {q : Nat} {cs : Array Value} {t : TypeId} (h : Vb w q cs t) (p : Addr) (u : Value) (hp : q ≠ p.block) : Vb (w.setCell p u) q cs t := (heap_setCell_other w p q u hp).trans h
theorem Vb.set {w : World} {q : Nat} {cs : Array Value} {t : TypeId} (h : Vb w q cs t) (i : Nat) (u : Value) : Vb (w.setCell ⟨q, i, none⟩ u) q (cs.setIfInBounds i u) t := heap_setCell_same w q i cs t u h
theorem Vb.push {w : World} {q : Nat} {cs : Array Value} {t : TypeId} (h : Vb w q cs t) (o : Obj) : Vb (w.alloc o) q cs t := h.keep (al (Below.refl _ _) o)

/-- From one world to another: blocks from base on stay. -/
structure Ho (base : Nat) (w w' : World) : Prop where
  size : w.heap.size ≤ w'.heap.size
  block : ∀ k, base ≤ k → k < w.heap.size → w'.heap[k]? = w.heap[k]?
theorem Ho.refl (base : Nat) (w : World) : Ho base w w := ⟨Nat.le_refl _, fun _ _ _ => rfl⟩
theorem Ho.trans {base : Nat} {a b c : World} (h : Ho base a b) (k : Ho base b c) : Ho base a c :=
  ⟨Nat.le_trans h.size k.size, fun i hb hi => (k.block i hb (Nat.lt_of_lt_of_le hi h.size)).trans (h.block i hb hi)⟩
theorem Ho.of {base : Nat} {w w' : World} (h : Below w.heap.size w w') : Ho base w w' := ⟨h.size, fun k _ hk => h.block k hk⟩
theorem Ho.set {base : Nat} (w : World) (p : Addr) (u : Value) (h : p.block < base) : Ho base w (w.setCell p u) :=
  ⟨(grown_set w p u).size, fun k hb hk => (grown_set w p u).block k hk (fun e => by cases e; omega)⟩
theorem Nums.ho {base : Nat} {v : Value} {w w' : World} {zs : List Int} (h : Nums w base v zs) (H : Ho base w w') : Nums w' base v zs := by
  obtain ⟨h1, h2 | ⟨g, cap, cur, hv, hg, hr, rest⟩⟩ := h
  · exact ⟨h1, .inl h2⟩
  · refine ⟨h1, .inr ⟨g, cap, cur, hv, hg, ?_, rest⟩⟩
    rw [H.block g hg ((Array.getElem?_eq_some_iff.1 hr).1)]
    exact hr
end Go.Proofs.YteilidnlfocnaaaDoor
namespace Go.Proofs.YteilidnlfocnaaaDoor
open Go.RowKit
set_option linter.unusedVariables false

/-- The slot whose turn it is a steps into a round, and what is left of it. -/
def tnV : List (Int × Int) → Int → Int × Int
  | [], _ => (0, 0)
  | s :: t, a => if s.2 ≤ a then ((tnV t (a - s.2)).1 + 1, (tnV t (a - s.2)).2) else (0, s.2 - a)
theorem rd_nonneg (zs : List (Int × Int)) (h : ∀ s ∈ zs, 1 ≤ s.2) : 0 ≤ rdV zs := by
  induction zs with
  | nil => simp [rdV]
  | cons s t ih =>
    rw [rdV]
    have h1 := h s (by simp)
    have h2 := ih fun x hx => h x (by simp [hx])
    omega
theorem tn_at (zs : List (Int × Int)) : ∀ (j : Nat) (a : Int), (∀ s ∈ zs, 1 ≤ s.2) → j < zs.length → rdV (zs.take j) ≤ a → a < rdV (zs.take (j + 1)) → tnV zs a = ((j : Int), rdV (zs.take (j + 1)) - a) := by
  induction zs with
  | nil => intro j a _ h; simp at h
  | cons s t ih =>
    intro j a hp hj h0 h1
    cases j with
    | zero =>
      simp [rdV] at h1
      rw [tnV, if_neg (by omega)]
      simp [rdV]
    | succ j =>
      simp only [List.take_succ_cons, rdV] at h0 h1 ⊢
      have n := rd_nonneg (t.take j) fun x hx => hp x (by simp [List.mem_of_mem_take hx])
      rw [tnV, if_pos (by omega), ih j (a - s.2) (fun x hx => hp x (by simp [hx])) (by simpa using hj) (by omega) (by omega)]
      exact Prod.ext (by simp) (by simp; omega)
def ckOk (c : Int) : Bool := decide (0 ≤ c) && decide (c ≤ 1000000)
def ckV (P : Plc) (c : Int) : Int := if pfV P = 0 then (if ckOk c = false then 3 else 0) else pfV P
theorem ck_pf {P : Plc} {c : Int} (h : ckV P c = 0) : pfV P = 0 ∧ 0 ≤ c ∧ c ≤ 1000000 := by
  unfold ckV at h
  split at h
  · rename_i h1
    split at h
    · cases h
    · rename_i h2
      have h3 : ckOk c = true := by simpa using h2
      simp [ckOk] at h3
      exact ⟨h1, h3⟩
  · rename_i h1
    exact absurd h h1
theorem pf_plan1 (P : Plc) (h : pfV P = 0) : 1 ≤ P.plan.length := by
  have h6 : g6V P = 0 := (or_zero (or_zero (or_zero h).2).2).2
  unfold g6V at h6
  split at h6
  · cases h6
  · rename_i h1; omega
theorem pf_each (P : Plc) (h : pfV P = 0) : ∀ s ∈ P.plan, 1 ≤ s.2 ∧ s.2 ≤ 50 := by
  have h6 : g6V P = 0 := (or_zero (or_zero (or_zero h).2).2).2
  unfold g6V at h6
  split at h6
  · cases h6
  · exact slots_ok _ _ h6
theorem rd_pos (P : Plc) (h : pfV P = 0) : 1 ≤ rdV P.plan ∧ rdV P.plan ≤ 400 := by
  have h1 := pf_plan1 P h
  have h2 := (rd_bound P h P.plan.length (Nat.le_refl _)).2
  have h8 := (pf_plan P h).1
  rw [List.take_length] at h2
  refine ⟨?_, by omega⟩
  have e := pf_each P h
  cases hp : P.plan with
  | nil => rw [hp] at h1; simp at h1
  | cons s t =>
    rw [hp] at e
    rw [rdV]
    have h3 := e s (by simp)
    have h4 := rd_nonneg t fun x hx => (e x (by simp [hx])).1
    omega
/-- What TurnAt answers: the code, the slot, its guest, what is left of it. -/
def tS (P : Plc) (c : Int) : Int × Int := tnV P.plan (c % rdV P.plan)
def tG (P : Plc) (c : Int) : Int := (P.plan.getD (tS P c).1.toNat (0, 0)).1
theorem tS_at (P : Plc) (h : pfV P = 0) (c : Int) (j : Nat) (hj : j < P.plan.length) (h0 : rdV (P.plan.take j) ≤ c % rdV P.plan) (h1 : c % rdV P.plan < rdV (P.plan.take (j + 1))) : tS P c = ((j : Int), rdV (P.plan.take (j + 1)) - c % rdV P.plan) :=
  tn_at P.plan j _ (fun s hs => (pf_each P h s hs).1) hj h0 h1
/-- The steps of a guest within the first r of a round, and what of r is left behind. -/
def tbF (g : Int) (zs : List (Int × Int)) (r : Int) : Int × Int := zs.foldl (fun a s => (a.1 + (if s.1 = g then min s.2 a.2 else 0), a.2 - min s.2 a.2)) (0, r)
theorem tb_take (g : Int) (zs : List (Int × Int)) (r : Int) (j : Nat) (h : j < zs.length) : tbF g (zs.take (j + 1)) r = ((tbF g (zs.take j) r).1 + (if (zs.getD j (0, 0)).1 = g then min (zs.getD j (0, 0)).2 (tbF g (zs.take j) r).2 else 0), (tbF g (zs.take j) r).2 - min (zs.getD j (0, 0)).2 (tbF g (zs.take j) r).2) := by
  unfold tbF
  rw [take_succ_getD zs (0, 0) j h, List.foldl_append]
  rfl
theorem tb_bound (g : Int) (zs : List (Int × Int)) (r : Int) (hr : 0 ≤ r) (hp : ∀ s ∈ zs, 1 ≤ s.2) : ∀ j, j ≤ zs.length → 0 ≤ (tbF g (zs.take j) r).1 ∧ 0 ≤ (tbF g (zs.take j) r).2 ∧ (tbF g (zs.take j) r).1 + (tbF g (zs.take j) r).2 ≤ r := by
  intro j
  induction j with
  | zero => intro _; simp [tbF]; exact hr
  | succ j ih =>
    intro hj
    have h1 := ih (by omega)
    have h2 := hp _ (getD_mem zs (0, 0) j (by omega))
    rw [tb_take g zs r j (by omega)]
    simp only
    generalize tbF g (zs.take j) r = q at *
    generalize zs.getD j (0, 0) = s at *
    have m : min s.2 q.2 ≤ q.2 := Int.min_le_right _ _
    have m2 : 0 ≤ min s.2 q.2 := by rw [Int.min_def]; split <;> omega
    split <;> omega
theorem tb_still (g : Int) (zs : List (Int × Int)) (r : Int) (hp : ∀ s ∈ zs, 1 ≤ s.2) (j : Nat) (h0 : (tbF g (zs.take j) r).2 = 0) : ∀ k, j + k ≤ zs.length → tbF g (zs.take (j + k)) r = tbF g (zs.take j) r := by
  intro k
  induction k with
  | zero => intro _; rfl
  | succ k ih =>
    intro hk
    have h1 := ih (by omega)
    have h2 := hp _ (getD_mem zs (0, 0) (j + k) (by omega))
    rw [← Nat.add_assoc, tb_take g zs r (j + k) (by omega), h1, h0]
    have m : min (zs.getD (j + k) (0, 0)).2 0 = 0 := by rw [Int.min_def]; split <;> omega
    rw [m]
    refine Prod.ext ?_ ?_
    · simp
    · simp [h0]
/-- The steps of a guest among the first c. -/
def tbV (P : Plc) (c g : Int) : Int := c / rdV P.plan * frV g P.plan + (tbF g P.plan (c % rdV P.plan)).1
def tbC (P : Plc) (c g : Int) : Int := if ckV P c = 0 then (if isG P.own.length g = false then 4 else 0) else ckV P c
def tbR (P : Plc) (c g : Int) : Int × Int := if tbC P c g = 0 then (0, tbV P c g) else (tbC P c g, 0)
def tR (P : Plc) (c : Int) : Int × Int × Int × Int := if ckV P c = 0 then (0, (tS P c).1, tG P c, (tS P c).2) else (ckV P c, 0, 0, 0)
theorem fr_le (P : Plc) (h : pfV P = 0) (g : Int) : 0 ≤ frV g P.plan ∧ frV g P.plan ≤ 400 := by
  have h2 := fr_bound P h g P.plan.length (Nat.le_refl _)
  have h8 := (pf_plan P h).1
  rw [List.take_length] at h2
  omega
theorem div_le {c r : Int} (h0 : 0 ≤ c) (h1 : c ≤ 1000000) (hr : 1 ≤ r) : 0 ≤ c / r ∧ c / r ≤ 1000000 := by
  refine ⟨Int.ediv_nonneg h0 (by omega), ?_⟩
  have : c / r ≤ c := Int.ediv_le_self _ h0
  omega
theorem mul_le {a b : Int} (h0 : 0 ≤ a) (h1 : a ≤ 1000000) (k0 : 0 ≤ b) (k1 : b ≤ 400) : 0 ≤ a * b ∧ a * b ≤ 400000000 := by
  refine ⟨Int.mul_nonneg h0 k0, ?_⟩
  have h : a * b ≤ 1000000 * 400 := Int.mul_le_mul h1 k1 k0 (by omega)
  omega
end Go.Proofs.YteilidnlfocnaaaDoor
namespace Go.Proofs.YteilidnlfocnaaaDoor
open Go.RowKit
set_option linter.unusedVariables false

theorem i_clock (c : Int) (w : World) : Calls Tryd.prog 25 #[.int .i64 c] w fun e w' => e = .returned (.bool (ckOk c)) ∧ w' = w := by
  by_cases h : 0 ≤ c
  · by_cases k : c ≤ 1000000
    · have E : ckOk c = true := by simp [ckOk, h, k]
      rw [E]
      go_enter Tryd.func25, Tryd.ntmps25
      go_wp2_with fail
      go_ret
      exact ⟨rfl, rfl⟩
    · have E : ckOk c = false := by simp [ckOk, k]
      rw [E]
      go_enter Tryd.func25, Tryd.ntmps25
      go_wp2_with fail
      go_ret
      exact ⟨rfl, rfl⟩
  · have E : ckOk c = false := by simp [ckOk, h]
    rw [E]
    go_enter Tryd.func25, Tryd.ntmps25
    go_wp2_with fail
    go_ret
    exact ⟨rfl, rfl⟩

set_option maxHeartbeats 1000000 in
theorem i_clockFault (a0 a1 a2 a3 : Option Addr) (n0 c0 n1 c1 n2 c2 n3 c3 : Nat) (P : Plc) (c : Int) (w : World) (h : Pl w a0 n0 c0 a1 n1 c1 a2 n2 c2 a3 n3 c3 P) (hg : w.cell? ⟨0, 0, none⟩ = some (.iface 99 (.agg #[.pointer (some ⟨1, 67, none⟩)]))) :
    Calls Tryd.prog 13 #[.agg #[.slice a0 n0 c0, .slice a1 n1 c1, .slice a2 n2 c2, .slice a3 n3 c3], .int .i64 c] w fun e w' => e = .returned (.int .i64 (ckV P c)) ∧ Below w.heap.size w w' := by
  generalize hW : (w.alloc (.cells #[.slice a0 n0 c0, .slice a1 n1 c1, .slice a2 n2 c2, .slice a3 n3 c3] 29)) = W
  have B0 : Hid (Below w.heap.size w W) := by show Below _ _ _; rw [← hW]; exact al (Below.refl _ _) _
  obtain ⟨s, hS⟩ : ∃ s, w.heap.size = s := ⟨_, rfl⟩
  have Q : Hid (W.cell? ⟨s, 0, none⟩ = some (.slice a0 n0 c0) ∧ W.cell? ⟨s, 1, none⟩ = some (.slice a1 n1 c1) ∧ W.cell? ⟨s, 2, none⟩ = some (.slice a2 n2 c2) ∧ W.cell? ⟨s, 3, none⟩ = some (.slice a3 n3 c3)) := by
    show _ ∧ _
    rw [← hW, ← hS]
    exact ⟨cell_new rfl, cell_new rfl, cell_new rfl, cell_new rfl⟩
  have HP : Hid (Pl W a0 n0 c0 a1 n1 c1 a2 n2 c2 a3 n3 c3 P) := h.stay B0.out
  have HG : Hid (_ = _) := cell_keep B0.out hg
  clear h hg
  have q0 := Q.out.1
  have q1 := Q.out.2.1
  have q2 := Q.out.2.2.1
  have q3 := Q.out.2.2.2
  go_enter Tryd.func13, Tryd.ntmps13
  go_wp2_with fail
  clear hW hS
  refine (impl_policy _ _ _ _ _ _ _ _ _ _ _ _ P _ HP.out HG.out).mono ?_
  rintro e w1 ⟨rfl, b1⟩
  have B1 : Hid (Below w.heap.size w w1) := on B0.out b1
  clear b1
  by_cases hz : pfV P = 0
  · by_cases hk : ckOk c = false
    · have E : Hid (ckV P c = 3) := by show _ = _; rw [ckV, if_pos hz, if_pos hk]
      rw [hz]
      go_wp2_with fail
      refine (i_clock _ _).mono ?_
      rintro e w1 ⟨rfl, rfl⟩
      rw [hk]
      go_wp2_with fail
      go_ret
      rw [E.out]
      exact ⟨rfl, B1.out⟩
    · have E : Hid (ckV P c = 0) := by show _ = _; rw [ckV, if_pos hz, if_neg hk]
      rw [Bool.not_eq_false] at hk
      rw [hz]
      go_wp2_with fail
      refine (i_clock _ _).mono ?_
      rintro e w1 ⟨rfl, rfl⟩
      rw [hk]
      go_wp2_with fail
      go_ret
      rw [E.out]
      exact ⟨rfl, B1.out⟩
  · have E : Hid (ckV P c = pfV P) := by show _ = _; rw [ckV, if_neg hz]
    generalize hv : pfV P = v at *
    go_wp2_with fail
    go_ret
    rw [E.out]
    exact ⟨rfl, B1.out⟩

set_option maxRecDepth 20000 in
set_option maxHeartbeats 4000000 in
theorem i_turnAt (a0 a1 a2 a3 : Option Addr) (n0 c0 n1 c1 n2 c2 n3 c3 : Nat) (P : Plc) (c : Int) (w : World) (h : Pl w a0 n0 c0 a1 n1 c1 a2 n2 c2 a3 n3 c3 P) (hg : w.cell? ⟨0, 0, none⟩ = some (.iface 99 (.agg #[.pointer (some ⟨1, 67, none⟩)]))) (hz : pfV P = 0) (hc : 0 ≤ c) (hc1 : c ≤ 1000000) :
    Calls Tryd.prog 22 #[.agg #[.slice a0 n0 c0, .slice a1 n1 c1, .slice a2 n2 c2, .slice a3 n3 c3], .int .i64 c] w fun e w' => e = .returned (.agg #[.int .i64 (tS P c).1, .int .i64 (tS P c).2, .int .i64 c]) ∧ Below w.heap.size w w' := by
  have PZ : Hid (pfV P = 0) := hz
  have HC : Hid (0 ≤ c ∧ c ≤ 1000000) := ⟨hc, hc1⟩
  obtain ⟨u, hu⟩ : ∃ u, tS P c = u := ⟨_, rfl⟩
  rw [hu]
  have HU : Hid (tS P c = u) := hu
  clear hz hu
  generalize hW : (w.alloc (.cells #[.slice a0 n0 c0, .slice a1 n1 c1, .slice a2 n2 c2, .slice a3 n3 c3] 29)).alloc (.cells #[.int .i64 0, .int .i64 0, .int .i64 0] 55) = W
  have B0 : Hid (Below w.heap.size w W) := by show Below _ _ _; rw [← hW]; exact al (al (Below.refl _ _) _) _
  obtain ⟨s, hS⟩ : ∃ s, w.heap.size = s := ⟨_, rfl⟩
  have HSs : Hid (w.heap.size = s) := hS
  have Q : Hid (W.cell? ⟨s, 0, none⟩ = some (.slice a0 n0 c0) ∧ W.cell? ⟨s, 1, none⟩ = some (.slice a1 n1 c1) ∧ W.cell? ⟨s, 2, none⟩ = some (.slice a2 n2 c2) ∧ W.cell? ⟨s, 3, none⟩ = some (.slice a3 n3 c3)) := by
    show _ ∧ _
    rw [← hW, ← hS]
    exact ⟨cell_push _ (cell_new rfl), cell_push _ (cell_new rfl), cell_push _ (cell_new rfl), cell_push _ (cell_new rfl)⟩
  have R : Hid (Vb W (s + 1) #[.int .i64 0, .int .i64 0, .int .i64 0] 55) := by
    have z1 : s + 1 = (w.alloc (.cells #[.slice a0 n0 c0, .slice a1 n1 c1, .slice a2 n2 c2, .slice a3 n3 c3] 29)).heap.size := by rw [← hS]; simp
    show Vb _ _ _ _
    rw [← hW, z1]
    exact Vb.new _ _ _
  have HP : Hid (Pl W a0 n0 c0 a1 n1 c1 a2 n2 c2 a3 n3 c3 P) := h.stay B0.out
  have HA : Hid (PolAt W s P) := ⟨_, _, _, _, _, _, _, _, _, _, _, _, Q.out.1, Q.out.2.1, Q.out.2.2.1, Q.out.2.2.2, HP.out⟩
  have HG : Hid (W.cell? ⟨0, 0, none⟩ = some (.iface 99 (.agg #[.pointer (some ⟨1, 67, none⟩)]))) := cell_keep B0.out hg
  clear h hg
  have q0 := Q.out.1
  have q1 := Q.out.2.1
  have q2 := Q.out.2.2.1
  have q3 := Q.out.2.2.2
  have fv := field_value
  go_enter Tryd.func22, Tryd.ntmps22
  go_wp2_with fail
  clear hW hS
  refine (i_roundOf _ _ _ _ _ _ _ _ _ _ _ _ P _ HP.out HG.out).mono ?_
  rintro e w1 ⟨rfl, b1⟩
  have RV : rR P = (0, rdV P.plan) := by rw [rR, if_pos PZ.out]
  rw [RV]
  clear RV
  have RP := rd_pos P PZ.out
  obtain ⟨rr, hrr⟩ : ∃ r, rdV P.plan = r := ⟨_, rfl⟩
  rw [hrr] at RP
  have HR : Hid (rdV P.plan = rr) := hrr
  simp only
  rw [hrr]
  clear hrr
  have r1 := RP.1
  have r2 := RP.2
  have tm : c.tmod rr = c % rr := Int.tmod_eq_emod_of_nonneg hc
  have m0 : 0 ≤ c % rr := Int.emod_nonneg _ (by omega)
  have m1 : c % rr < rr := Int.emod_lt_of_pos _ (by omega)
  obtain ⟨m, hm⟩ : ∃ m, c % rr = m := ⟨_, rfl⟩
  rw [hm] at tm m0 m1
  have HM : Hid (c % rr = m) := hm
  have M01 : Hid (0 ≤ m ∧ m < rr) := ⟨m0, m1⟩
  have R4 : Hid (rr ≤ 400) := r2
  clear hm RP
  have HPw : Hid (Pl w1 a0 n0 c0 a1 n1 c1 a2 n2 c2 a3 n3 c3 P) := HP.out.stay b1
  have HL3 : Hid (n3 = P.plan.length) := HPw.out.plan.len
  have L8 : Hid (1 ≤ n3 ∧ n3 ≤ 8) := by show _ ∧ _; rw [HPw.out.plan.len]; exact ⟨pf_plan1 P PZ.out, (pf_plan P PZ.out).1⟩
  have ST8 : Hid (∀ j, j < P.plan.length → 1 ≤ (P.plan.getD j (0, 0)).2 ∧ (P.plan.getD j (0, 0)).2 ≤ 50) := (pf_plan P PZ.out).2
  have q3 := cell_keep b1 Q.out.2.2.2
  have R1 : Hid (Vb w1 (s + 1) #[.int .i64 0, .int .i64 0, .int .i64 0] 55) := R.out.keep b1
  have B1 : Hid (Below w.heap.size w w1) := on B0.out b1
  clear b1
  go_wp2_with fail
  go_loop [5, 6] (fun u v => ∃ j : Nat, j < n3 ∧ v = .int .i64 j ∧ u = .int .i64 (m - rdV (P.plan.take j)) ∧ rdV (P.plan.take j) ≤ m) (fun _ v => n3 - (intOf v).toNat)
  case atStart => exact ⟨0, L8.out.1, rfl, by simp [rdV], by simp [rdV]; exact M01.out.1⟩
  case round =>
    obtain ⟨j, hlt, rfl, rfl, hle⟩ := hrel
    obtain ⟨x, rfl, k0, k1⟩ := HPw.out.plan.at j hlt
    have HLT : Hid (j < n3) := hlt
    have hJ : (j : Int) < (n3 : Int) := by omega
    have J8 : (j : Int) ≤ 8 := by have := L8.out; omega
    have TK : Hid (_ = _) := rdV_take P.plan j (by have := HL3.out; omega)
    have st := ST8.out j (by have := HL3.out; omega)
    have bd := rd_bound P PZ.out j (by have := HL3.out; omega)
    have bd0 := bd.1
    have bd1 : rdV (P.plan.take j) ≤ 400 := by have := L8.out; omega
    have st0 := st.1
    have st1 := st.2
    have mm := M01.out
    have m40 : m ≤ 400 := by have := R4.out; omega
    obtain ⟨⟨g, t⟩, hL⟩ : ∃ L, P.plan.getD j (0, 0) = L := ⟨_, rfl⟩
    rw [hL] at k0 k1 TK st0 st1
    simp only at k0 k1 TK st0 st1
    clear hL bd st
    obtain ⟨sm, hsm⟩ : ∃ z, rdV (P.plan.take j) = z := ⟨_, rfl⟩
    rw [hsm] at TK bd0 bd1 hle ⊢
    have HSM : Hid (rdV (P.plan.take j) = sm) := hsm
    clear hsm
    by_cases he : t ≤ m - sm
    · have TK2 : Hid (rdV (P.plan.take (j + 1)) = sm + t) := TK.out
      have JN : Hid (j + 1 < n3) := by
        show _ < _
        rcases Nat.lt_or_ge (j + 1) n3 with h | h
        · exact h
        · exfalso
          have e : P.plan.take (j + 1) = P.plan := List.take_of_length_le (by have := HL3.out; omega)
          have := TK2.out
          rw [e, HR.out] at this
          omega
      go_wp2_with fail
      go_round
      case rel => exact ⟨j + 1, JN.out, by go_num, by rw [TK2.out]; go_num, by rw [TK2.out]; omega⟩
      case measure => have := HLT.out; simp [intOf]; omega
    · have EV := tS_at P PZ.out c j (by have := HL3.out; omega) (by rw [HSM.out, HR.out, HM.out]; exact hle) (by rw [TK.out, HR.out, HM.out]; omega)
      rw [TK.out, HR.out, HM.out, HU.out] at EV
      subst EV
      have r0 := R1.out.cell 0 rfl
      have r1 := R1.out.cell 1 rfl
      have r2 := R1.out.cell 2 rfl
      have f0 := R1.out.free 0
      have f1 := R1.out.free 1
      have f2 := R1.out.free 2
      have e1 : t - (m - sm) = sm + t - m := by omega
      go_wp2_with fail
      exact bodyPost_ret (v := .agg #[.int .i64 (j : Int), .int .i64 (sm + t - m), .int .i64 c]) (by simp [results, Tryd.results22, go_sem, r0, r1, r2]) rfl ⟨rfl, (((B1.out).setCell (by have := HSs.out; show w.heap.size ≤ s + 1; omega) _).setCell (by have := HSs.out; show w.heap.size ≤ s + 1; omega) _).setCell (by have := HSs.out; show w.heap.size ≤ s + 1; omega) _⟩
end Go.Proofs.YteilidnlfocnaaaDoor
namespace Go.Proofs.YteilidnlfocnaaaDoor
open Go.RowKit
set_option linter.unusedVariables false

theorem tS_some (P : Plc) (h : pfV P = 0) (c : Int) : ∃ j : Nat, j < P.plan.length ∧ (tS P c).1 = (j : Int) := by
  have rp := rd_pos P h
  have m0 : 0 ≤ c % rdV P.plan := Int.emod_nonneg _ (by omega)
  have m1 : c % rdV P.plan < rdV P.plan := Int.emod_lt_of_pos _ (by omega)
  obtain ⟨m, hm⟩ : ∃ m, c % rdV P.plan = m := ⟨_, rfl⟩
  rw [hm] at m0 m1
  have key : ∀ k, k ≤ P.plan.length → m < rdV (P.plan.take k) → ∃ j, j < k ∧ rdV (P.plan.take j) ≤ m ∧ m < rdV (P.plan.take (j + 1)) := by
    intro k
    induction k with
    | zero => intro _ h0; simp [rdV] at h0; omega
    | succ k ih =>
      intro hk h0
      by_cases h1 : m < rdV (P.plan.take k)
      · obtain ⟨j, hj, h2⟩ := ih (by omega) h1
        exact ⟨j, by omega, h2⟩
      · exact ⟨k, by omega, by omega, h0⟩
  obtain ⟨j, hj, h0, h1⟩ := key P.plan.length (Nat.le_refl _) (by rw [List.take_length]; exact m1)
  refine ⟨j, hj, ?_⟩
  rw [tS_at P h c j hj (by rw [hm]; exact h0) (by rw [hm]; exact h1)]
/-- What the answer's region reads, and that the answer has its place. -/
def Sg (w : World) (s t j : Nat) (L : Int) (c3 n3 : Nat) (x : Addr) (g : Int) : Prop :=
  w.cell? ⟨t, 0, none⟩ = some (.int .i64 (j : Int)) ∧ w.cell? ⟨t, 1, none⟩ = some (.int .i64 L) ∧ w.cell? ⟨s, 3, none⟩ = some (.slice (some x) n3 c3) ∧ w.cell? (x.add (j * 2)) = some (.int .i64 g) ∧ w.there (s + 1) 0 4
theorem Sg.put {w : World} {s t j : Nat} {L : Int} {c3 n3 : Nat} {x : Addr} {g : Int} (h : Sg w s t j L c3 n3 x g) (vs : List Value) (hn : t ≠ s + 1 ∧ (x.add (j * 2)).block ≠ s + 1) : Sg (w.setCells (s + 1) 0 vs) s t j L c3 n3 x g :=
  ⟨(World.cell?_setCells_out _ _ _ _ _ fun e => absurd e hn.1).trans h.1, (World.cell?_setCells_out _ _ _ _ _ fun e => absurd e hn.1).trans h.2.1, (World.cell?_setCells_out _ _ _ _ _ fun e => absurd e (show s ≠ s + 1 by omega)).trans h.2.2.1, (World.cell?_setCells_out _ _ _ _ _ fun e => absurd e hn.2).trans h.2.2.2.1, World.there_setCells h.2.2.2.2 _ _ _⟩

set_option maxRecDepth 20000 in
set_option maxHeartbeats 8000000 in
theorem i_TurnAt (a0 a1 a2 a3 : Option Addr) (n0 c0 n1 c1 n2 c2 n3 c3 : Nat) (P : Plc) (c : Int) (w : World) (h : Pl w a0 n0 c0 a1 n1 c1 a2 n2 c2 a3 n3 c3 P) (hg : w.cell? ⟨0, 0, none⟩ = some (.iface 99 (.agg #[.pointer (some ⟨1, 67, none⟩)]))) :
    Calls Tryd.prog 9 #[.agg #[.slice a0 n0 c0, .slice a1 n1 c1, .slice a2 n2 c2, .slice a3 n3 c3], .int .i64 c] w fun e w' => e = .returned (.agg #[.int .i64 (tR P c).1, .int .i64 (tR P c).2.1, .int .i64 (tR P c).2.2.1, .int .i64 (tR P c).2.2.2]) ∧ Below w.heap.size w w' := by
  obtain ⟨U, hU⟩ : ∃ U, tR P c = U := ⟨_, rfl⟩
  rw [hU]
  have HU : Hid (tR P c = U) := hU
  have H0 : Hid (Pl w a0 n0 c0 a1 n1 c1 a2 n2 c2 a3 n3 c3 P) := h
  clear hU
  generalize hW : (w.alloc (.cells #[.slice a0 n0 c0, .slice a1 n1 c1, .slice a2 n2 c2, .slice a3 n3 c3] 29)).alloc (.cells #[.int .i64 0, .int .i64 0, .int .i64 0, .int .i64 0] 39) = W
  have B0 : Hid (Below w.heap.size w W) := by show Below _ _ _; rw [← hW]; exact al (al (Below.refl _ _) _) _
  obtain ⟨s, hS⟩ : ∃ s, w.heap.size = s := ⟨_, rfl⟩
  have HSs : Hid (w.heap.size = s) := hS
  have Q : Hid (W.cell? ⟨s, 0, none⟩ = some (.slice a0 n0 c0) ∧ W.cell? ⟨s, 1, none⟩ = some (.slice a1 n1 c1) ∧ W.cell? ⟨s, 2, none⟩ = some (.slice a2 n2 c2) ∧ W.cell? ⟨s, 3, none⟩ = some (.slice a3 n3 c3)) := by
    show _ ∧ _
    rw [← hW, ← hS]
    exact ⟨cell_push _ (cell_new rfl), cell_push _ (cell_new rfl), cell_push _ (cell_new rfl), cell_push _ (cell_new rfl)⟩
  have R : Hid (Vb W (s + 1) #[.int .i64 0, .int .i64 0, .int .i64 0, .int .i64 0] 39) := by
    have z1 : s + 1 = (w.alloc (.cells #[.slice a0 n0 c0, .slice a1 n1 c1, .slice a2 n2 c2, .slice a3 n3 c3] 29)).heap.size := by rw [← hS]; simp
    show Vb _ _ _ _
    rw [← hW, z1]
    exact Vb.new _ _ _
  have HP : Hid (Pl W a0 n0 c0 a1 n1 c1 a2 n2 c2 a3 n3 c3 P) := h.stay B0.out
  have HA : Hid (PolAt W s P) := ⟨_, _, _, _, _, _, _, _, _, _, _, _, Q.out.1, Q.out.2.1, Q.out.2.2.1, Q.out.2.2.2, HP.out⟩
  have HG : Hid (W.cell? ⟨0, 0, none⟩ = some (.iface 99 (.agg #[.pointer (some ⟨1, 67, none⟩)]))) := cell_keep B0.out hg
  clear h hg
  have q0 := Q.out.1
  have q1 := Q.out.2.1
  have q2 := Q.out.2.2.1
  have q3 := Q.out.2.2.2
  have fv := field_value
  go_enter Tryd.func9, Tryd.ntmps9
  go_wp2_with fail
  clear hW hS
  refine (i_clockFault _ _ _ _ _ _ _ _ _ _ _ _ P _ _ HP.out HG.out).mono ?_
  rintro e w1 ⟨rfl, b1⟩
  have B1 : Hid (Below w.heap.size w w1) := on B0.out b1
  have q0 := cell_keep b1 Q.out.1
  have q1 := cell_keep b1 Q.out.2.1
  have q2 := cell_keep b1 Q.out.2.2.1
  have q3 := cell_keep b1 Q.out.2.2.2
  have R1 : Hid (Vb w1 (s + 1) #[.int .i64 0, .int .i64 0, .int .i64 0, .int .i64 0] 39) := R.out.keep b1
  by_cases hz : ckV P c = 0
  · obtain ⟨pz, cl, cu⟩ := ck_pf hz
    rw [hz]
    obtain ⟨j, hj, hs⟩ := tS_some P pz c
    have HU2 : Hid ((0, (j : Int), (P.plan.getD j (0, 0)).1, (tS P c).2) = U) := by
      show _ = _
      rw [← HU.out, tR, if_pos hz, tG, hs]
      simp
    have HJ : Hid (j < P.plan.length) := hj
    have HSJ : Hid ((tS P c).1 = (j : Int)) := hs
    have PZ : Hid (pfV P = 0 ∧ 0 ≤ c ∧ c ≤ 1000000) := ⟨pz, cl, cu⟩
    have HB1 : Hid (Below W.heap.size W w1) := b1
    clear hz pz cl cu hj hs b1
    go_wp2_with fail
    clear q0 q1 q2 q3
    refine (i_turnAt _ _ _ _ _ _ _ _ _ _ _ _ P c _ (HP.out.stay HB1.out) (cell_keep HB1.out HG.out) PZ.out.1 PZ.out.2.1 PZ.out.2.2).mono ?_
    rintro e w2 ⟨rfl, b2⟩
    rw [HSJ.out]
    obtain ⟨L, hL⟩ : ∃ L, (tS P c).2 = L := ⟨_, rfl⟩
    rw [hL] at HU2 ⊢
    clear hL
    have q3 := cell_keep b2 (cell_keep HB1.out Q.out.2.2.2)
    have HQ3 : Hid (_ = _) := q3
    have R2 : Hid (Vb w2 (s + 1) #[.int .i64 0, .int .i64 0, .int .i64 0, .int .i64 0] 39) := R1.out.keep b2
    have B2 : Hid (Below w.heap.size w w2) := on B1.out b2
    have HPw : Hid (Pl w2 a0 n0 c0 a1 n1 c1 a2 n2 c2 a3 n3 c3 P) := (HP.out.stay HB1.out).stay b2
    obtain ⟨x, hx, k0, k1⟩ := HPw.out.plan.at j (by rw [HPw.out.plan.len]; exact HJ.out)
    obtain ⟨x', hx', k0', k1'⟩ := H0.out.plan.at j (by rw [HPw.out.plan.len]; exact HJ.out)
    have XL : Hid ((x.add (j * 2)).block < s) := by
      have e : x = x' := Option.some.inj (hx.symm.trans hx')
      subst e
      show _ < _
      have bk : (x.add (j * 2)).block < w.heap.size := block_of_cell k0'
      rw [← HSs.out]
      exact bk
    clear hx' k0' k1' x' k1
    subst hx
    have JN : (j : Int) < (n3 : Int) := by have := HJ.out; have := HPw.out.plan.len; omega
    have J8 : (j : Int) ≤ 8 := by have := HJ.out; have := (pf_plan P PZ.out.1).1; omega
    obtain ⟨g, hgg⟩ : ∃ g, (P.plan.getD j (0, 0)).1 = g := ⟨_, rfl⟩
    rw [hgg] at HU2 k0
    have HK0 : Hid (w2.cell? (x.add (j * 2)) = some (.int .i64 g)) := k0
    have E := HU2.out
    subst E
    clear hgg b2 k0 q3
    go_upto_region 5 with fail
    have V3 : Hid (Vb (w2.alloc (.cells #[.int .i64 (j : Int), .int .i64 L, .int .i64 c] 55)) w2.heap.size #[.int .i64 (j : Int), .int .i64 L, .int .i64 c] 55) := Vb.new _ _ _
    have b3 : Below w2.heap.size w2 (w2.alloc (.cells #[.int .i64 (j : Int), .int .i64 L, .int .i64 c] 55)) := al (Below.refl _ _) _
    have B3 : Hid (Below w.heap.size w (w2.alloc (.cells #[.int .i64 (j : Int), .int .i64 L, .int .i64 c] 55))) := on B2.out b3
    have R3 : Hid (Vb (w2.alloc (.cells #[.int .i64 (j : Int), .int .i64 L, .int .i64 c] 55)) (s + 1) #[.int .i64 0, .int .i64 0, .int .i64 0, .int .i64 0] 39) := R2.out.keep b3
    have q3 := cell_keep b3 HQ3.out
    have k0 := cell_keep b3 HK0.out
    have NT : Hid (w2.heap.size ≠ s + 1 ∧ (x.add (j * 2)).block ≠ s + 1) := by
      have := R2.out.lt
      have := XL.out
      exact ⟨by omega, by omega⟩
    clear b3
    generalize w2.alloc (.cells #[.int .i64 (j : Int), .int .i64 L, .int .i64 c] 55) = w3 at *
    generalize w2.heap.size = t at *
    have SG : Hid (Sg w3.drew s t j L c3 n3 x g) := ⟨V3.out.cell 0 rfl, V3.out.cell 1 rfl, q3, k0, fun i hi => ⟨by rw [show w3.drew.cell? ⟨s + 1, 0 + i, none⟩ = w3.cell? ⟨s + 1, 0 + i, none⟩ from rfl, R3.out.cell (0 + i) (v := .int .i64 0) (by rcases (show i = 0 ∨ i = 1 ∨ i = 2 ∨ i = 3 by omega) with rfl | rfl | rfl | rfl <;> rfl)]; rfl, R3.out.free _⟩⟩
    refine wp_region_held (S := fun w' => Sg w' s t j L c3 n3 x g) (by kernel_rfl) ?_
    change wpAnyH _ _ _ _ _ _ _ _ (World.drew _)
    have BX : Hid (Below w.heap.size w w3.drew) := B3.out.drew
    generalize w3.drew = x0 at *
    refine wpAnyH_take (i := 0) (v := .pointer (some ⟨t, 0, none⟩)) rfl (by kernel_rfl) (by kernel_rfl) (by kernel_rfl) (fun _ _ _ h => h) (Or.inl ⟨by rfl, fun w' hs => by go_simp⟩) SG.out ?_
    change wpAnyH _ _ _ _ _ _ _ (Act.put _ (some 17) _) _
    simp only [Act.put, List.setIfInBounds_toArray, List.set_cons_zero, List.set_cons_succ]
    refine wpAnyH_take (i := 1) (v := .int .i64 (j : Int)) rfl (by kernel_rfl) (by kernel_rfl) (by kernel_rfl) (fun _ _ _ h => h) (Or.inl ⟨by rfl, fun w' hs => by obtain ⟨y0, y1, y2, y3, _⟩ := hs; go_simp⟩) SG.out ?_
    change wpAnyH _ _ _ _ _ _ _ (Act.put _ (some 18) _) _
    simp only [Act.put, List.setIfInBounds_toArray, List.set_cons_zero, List.set_cons_succ]
    refine wpAnyH_take (i := 2) (v := .pointer (some ⟨s, 3, none⟩)) rfl (by kernel_rfl) (by kernel_rfl) (by kernel_rfl) (fun _ _ _ h => h) (Or.inl ⟨by rfl, fun w' hs => by go_simp⟩) SG.out ?_
    change wpAnyH _ _ _ _ _ _ _ (Act.put _ (some 19) _) _
    simp only [Act.put, List.setIfInBounds_toArray, List.set_cons_zero, List.set_cons_succ]
    refine wpAnyH_take (i := 3) (v := .slice (some x) n3 c3) rfl (by kernel_rfl) (by kernel_rfl) (by kernel_rfl) (fun _ _ _ h => h) (Or.inl ⟨by rfl, fun w' hs => by obtain ⟨y0, y1, y2, y3, _⟩ := hs; go_simp⟩) SG.out ?_
    change wpAnyH _ _ _ _ _ _ _ (Act.put _ (some 20) _) _
    simp only [Act.put, List.setIfInBounds_toArray, List.set_cons_zero, List.set_cons_succ]
    refine wpAnyH_take (i := 4) (v := .pointer (some ⟨t, 0, none⟩)) rfl (by kernel_rfl) (by kernel_rfl) (by kernel_rfl) (fun _ _ _ h => h) (Or.inl ⟨by rfl, fun w' hs => by go_simp⟩) SG.out ?_
    change wpAnyH _ _ _ _ _ _ _ (Act.put _ (some 21) _) _
    simp only [Act.put, List.setIfInBounds_toArray, List.set_cons_zero, List.set_cons_succ]
    refine wpAnyH_take (i := 5) (v := .int .i64 (j : Int)) rfl (by kernel_rfl) (by kernel_rfl) (by kernel_rfl) (fun _ _ _ h => h) (Or.inl ⟨by rfl, fun w' hs => by obtain ⟨y0, y1, y2, y3, _⟩ := hs; go_simp⟩) SG.out ?_
    change wpAnyH _ _ _ _ _ _ _ (Act.put _ (some 22) _) _
    simp only [Act.put, List.setIfInBounds_toArray, List.set_cons_zero, List.set_cons_succ]
    refine wpAnyH_take (i := 6) (v := .pointer (some (x.add (j * 2)))) rfl (by kernel_rfl) (by kernel_rfl) (by kernel_rfl) (fun _ _ _ h => h) (Or.inl ⟨by rfl, fun w' hs => by go_simp⟩) SG.out ?_
    change wpAnyH _ _ _ _ _ _ _ (Act.put _ (some 23) _) _
    simp only [Act.put, List.setIfInBounds_toArray, List.set_cons_zero, List.set_cons_succ]
    refine wpAnyH_take (i := 7) (v := .pointer (some (x.add (j * 2)))) rfl (by kernel_rfl) (by kernel_rfl) (by kernel_rfl) (fun _ _ _ h => h) (Or.inl ⟨by rfl, fun w' hs => by go_simp⟩) SG.out ?_
    change wpAnyH _ _ _ _ _ _ _ (Act.put _ (some 24) _) _
    simp only [Act.put, List.setIfInBounds_toArray, List.set_cons_zero, List.set_cons_succ]
    refine wpAnyH_take (i := 8) (v := .int .i64 g) rfl (by kernel_rfl) (by kernel_rfl) (by kernel_rfl) (fun _ _ _ h => h) (Or.inl ⟨by rfl, fun w' hs => by obtain ⟨y0, y1, y2, y3, _⟩ := hs; go_simp⟩) SG.out ?_
    change wpAnyH _ _ _ _ _ _ _ (Act.put _ (some 25) _) _
    simp only [Act.put, List.setIfInBounds_toArray, List.set_cons_zero, List.set_cons_succ]
    refine wpAnyH_take (i := 9) (v := .pointer (some ⟨t, 1, none⟩)) rfl (by kernel_rfl) (by kernel_rfl) (by kernel_rfl) (fun _ _ _ h => h) (Or.inl ⟨by rfl, fun w' hs => by go_simp⟩) SG.out ?_
    change wpAnyH _ _ _ _ _ _ _ (Act.put _ (some 26) _) _
    simp only [Act.put, List.setIfInBounds_toArray, List.set_cons_zero, List.set_cons_succ]
    refine wpAnyH_take (i := 10) (v := .int .i64 L) rfl (by kernel_rfl) (by kernel_rfl) (by kernel_rfl) (fun _ _ _ h => h) (Or.inl ⟨by rfl, fun w' hs => by obtain ⟨y0, y1, y2, y3, _⟩ := hs; go_simp⟩) SG.out ?_
    change wpAnyH _ _ _ _ _ _ _ (Act.put _ (some 27) _) _
    simp only [Act.put, List.setIfInBounds_toArray, List.set_cons_zero, List.set_cons_succ]
    refine wpAnyH_take (i := 11) (v := .agg #[.int .i64 g, .int .i64 L]) rfl (by kernel_rfl) (by kernel_rfl) (by kernel_rfl) (fun _ _ _ h => h) (Or.inl ⟨by rfl, fun w' hs => by go_simp⟩) SG.out ?_
    change wpAnyH _ _ _ _ _ _ _ (Act.put _ (some 28) _) _
    simp only [Act.put, List.setIfInBounds_toArray, List.set_cons_zero, List.set_cons_succ]
    refine wpAnyH_take (i := 12) (v := .agg #[.int .i64 0, .int .i64 (j : Int), .int .i64 g, .int .i64 L]) rfl (by kernel_rfl) (by kernel_rfl) (by kernel_rfl) (fun _ _ _ h => h) (Or.inl ⟨by rfl, fun w' hs => by go_simp⟩) SG.out ?_
    change wpAnyH _ _ _ _ _ _ _ (Act.put _ (some 29) _) _
    simp only [Act.put, List.setIfInBounds_toArray, List.set_cons_zero, List.set_cons_succ]
    refine wpAnyH_ready (rs := [13]) (by kernel_rfl) (by simp) ?_
    refine AllReadyH.cons rfl (fun K hK => ?_) AllReadyH.nil
    rw [if_pos (by rfl)]
    refine wp_store_mid 39 (.tmp 4) (.tmp 29) rfl (s + 1) 0 #[.int .i64 0, .int .i64 (j : Int), .int .i64 g, .int .i64 L] rfl rfl SG.out.2.2.2.2 (by kernel_rfl) (by simp [Value.oneCell']) ?_
    change K (Act.put _ none undef) _
    simp only [Act.put]
    have R4 : Hid ((x0.setCells (s + 1) 0 [.int .i64 0, .int .i64 (j : Int), .int .i64 g, .int .i64 L]).rangeAt (s + 1) 0 [.int .i64 0, .int .i64 (j : Int), .int .i64 g, .int .i64 L]) := World.rangeAt_setCells_same _ _ _ _ SG.out.2.2.2.2
    have S4 : Hid (Sg (x0.setCells (s + 1) 0 [.int .i64 0, .int .i64 (j : Int), .int .i64 g, .int .i64 L]) s t j L c3 n3 x g) := SG.out.put _ NT.out
    have B4 : Hid (Below w.heap.size w (x0.setCells (s + 1) 0 [.int .i64 0, .int .i64 (j : Int), .int .i64 g, .int .i64 L])) := ((((BX.out.setCell (by have := HSs.out; show w.heap.size ≤ s + 1; omega) _).setCell (by have := HSs.out; show w.heap.size ≤ s + 1; omega) _).setCell (by have := HSs.out; show w.heap.size ≤ s + 1; omega) _).setCell (by have := HSs.out; show w.heap.size ≤ s + 1; omega) _)
    generalize x0.setCells (s + 1) 0 [.int .i64 0, .int .i64 (j : Int), .int .i64 g, .int .i64 L] = x1 at *
    refine hK.out _ _ S4.out (fun _ => ?_)
    clear hK K
    refine wpAnyH_done (by kernel_rfl) ?_ _
    have LD := run_loadVar_mid (P := Tryd.prog) x1 (s + 1) 0 39 [.int .i64 0, .int .i64 (j : Int), .int .i64 g, .int .i64 L] _ R4.out Tryd.underlying39 rfl (by kernel_rfl)
    go_wp2_with fail
    exact bodyPost_ret (v := .agg #[.int .i64 0, .int .i64 (j : Int), .int .i64 g, .int .i64 L]) (by simp [results, Tryd.results9, asAddr]; rw [LD]) rfl ⟨rfl, B4.out⟩
  · have HU2 : Hid ((ckV P c, (0 : Int), (0 : Int), (0 : Int)) = U) := by
      show _ = _
      rw [← HU.out, tR, if_neg hz]
    generalize hv : ckV P c = v at *
    have E := HU2.out
    subst E
    have r0 := R1.out.cell 0 rfl
    have r1 := R1.out.cell 1 rfl
    have r2 := R1.out.cell 2 rfl
    have r3 := R1.out.cell 3 rfl
    have f0 := R1.out.free 0
    have f1 := R1.out.free 1
    have f2 := R1.out.free 2
    have f3 := R1.out.free 3
    go_wp2_with fail
    exact bodyPost_ret (v := .agg #[.int .i64 v, .int .i64 0, .int .i64 0, .int .i64 0]) (by simp [results, Tryd.results9, go_sem, r0, r1, r2, r3]) rfl ⟨rfl, ((((B1.out).setCell (by have := HSs.out; show w.heap.size ≤ s + 1; omega) _).setCell (by have := HSs.out; show w.heap.size ≤ s + 1; omega) _).setCell (by have := HSs.out; show w.heap.size ≤ s + 1; omega) _).setCell (by have := HSs.out; show w.heap.size ≤ s + 1; omega) _⟩
end Go.Proofs.YteilidnlfocnaaaDoor
namespace Go.Proofs.YteilidnlfocnaaaDoor
open Go.RowKit
set_option linter.unusedVariables false

set_option maxRecDepth 20000 in
set_option maxHeartbeats 8000000 in
theorem i_TurnsBefore (a0 a1 a2 a3 : Option Addr) (n0 c0 n1 c1 n2 c2 n3 c3 : Nat) (P : Plc) (c g : Int) (w : World) (h : Pl w a0 n0 c0 a1 n1 c1 a2 n2 c2 a3 n3 c3 P) (hg : w.cell? ⟨0, 0, none⟩ = some (.iface 99 (.agg #[.pointer (some ⟨1, 67, none⟩)]))) :
    Calls Tryd.prog 6 #[.agg #[.slice a0 n0 c0, .slice a1 n1 c1, .slice a2 n2 c2, .slice a3 n3 c3], .int .i64 c, .int .i64 g] w fun e w' => e = .returned (.agg #[.int .i64 (tbR P c g).1, .int .i64 (tbR P c g).2]) ∧ Below w.heap.size w w' := by
  obtain ⟨U, hU⟩ : ∃ U, tbR P c g = U := ⟨_, rfl⟩
  rw [hU]
  have HU : Hid (tbR P c g = U) := hU
  have HL0 : Hid (n0 = P.own.length) := h.own.len
  have HM0 : Hid ((n0 : Int) ≤ 9223372036854775807) := by have := h.own.cap; show _ ≤ _; unfold maxLen at this; omega
  clear hU
  generalize hW : (w.alloc (.cells #[.slice a0 n0 c0, .slice a1 n1 c1, .slice a2 n2 c2, .slice a3 n3 c3] 29)).alloc (.cells #[.int .i64 0, .int .i64 0] 33) = W
  have B0 : Hid (Below w.heap.size w W) := by show Below _ _ _; rw [← hW]; exact al (al (Below.refl _ _) _) _
  obtain ⟨s, hS⟩ : ∃ s, w.heap.size = s := ⟨_, rfl⟩
  have HSs : Hid (w.heap.size = s) := hS
  have Q : Hid (W.cell? ⟨s, 0, none⟩ = some (.slice a0 n0 c0) ∧ W.cell? ⟨s, 1, none⟩ = some (.slice a1 n1 c1) ∧ W.cell? ⟨s, 2, none⟩ = some (.slice a2 n2 c2) ∧ W.cell? ⟨s, 3, none⟩ = some (.slice a3 n3 c3)) := by
    show _ ∧ _
    rw [← hW, ← hS]
    exact ⟨cell_push _ (cell_new rfl), cell_push _ (cell_new rfl), cell_push _ (cell_new rfl), cell_push _ (cell_new rfl)⟩
  have R : Hid (Vb W (s + 1) #[.int .i64 0, .int .i64 0] 33) := by
    have z1 : s + 1 = (w.alloc (.cells #[.slice a0 n0 c0, .slice a1 n1 c1, .slice a2 n2 c2, .slice a3 n3 c3] 29)).heap.size := by rw [← hS]; simp
    show Vb _ _ _ _
    rw [← hW, z1]
    exact Vb.new _ _ _
  have HP : Hid (Pl W a0 n0 c0 a1 n1 c1 a2 n2 c2 a3 n3 c3 P) := h.stay B0.out
  have HA : Hid (PolAt W s P) := ⟨_, _, _, _, _, _, _, _, _, _, _, _, Q.out.1, Q.out.2.1, Q.out.2.2.1, Q.out.2.2.2, HP.out⟩
  have HG : Hid (W.cell? ⟨0, 0, none⟩ = some (.iface 99 (.agg #[.pointer (some ⟨1, 67, none⟩)]))) := cell_keep B0.out hg
  clear h hg
  have q0 := Q.out.1
  have q1 := Q.out.2.1
  have q2 := Q.out.2.2.1
  have q3 := Q.out.2.2.2
  have fv := field_value
  go_enter Tryd.func6, Tryd.ntmps6
  go_wp2_with fail
  clear hW hS
  refine (i_clockFault _ _ _ _ _ _ _ _ _ _ _ _ P _ _ HP.out HG.out).mono ?_
  rintro e w1 ⟨rfl, b1⟩
  have B1 : Hid (Below w.heap.size w w1) := on B0.out b1
  have q0 := cell_keep b1 Q.out.1
  have q1 := cell_keep b1 Q.out.2.1
  have q2 := cell_keep b1 Q.out.2.2.1
  have q3 := cell_keep b1 Q.out.2.2.2
  have R1 : Hid (Vb w1 (s + 1) #[.int .i64 0, .int .i64 0] 33) := R.out.keep b1
  by_cases hz : ckV P c = 0
  · have PZ : Hid (pfV P = 0 ∧ 0 ≤ c ∧ c ≤ 1000000) := ck_pf hz
    have CZ : Hid (ckV P c = 0) := hz
    have HB1 : Hid (Below W.heap.size W w1) := b1
    rw [hz]
    clear hz b1
    go_wp2_with fail
    refine (i_guest _ _ _ _ _ _ _ _ _ _ _ _ _ _ HM0.out).mono ?_
    rintro e w2 ⟨rfl, hw2⟩
    have b2 : Below w1.heap.size w1 w2 := by rw [hw2]; exact al (Below.refl _ _) _
    clear hw2 q0 q1 q2 q3
    have B2 : Hid (Below w.heap.size w w2) := on B1.out b2
    have R2 : Hid (Vb w2 (s + 1) #[.int .i64 0, .int .i64 0] 33) := R1.out.keep b2
    have HB2 : Hid (Below W.heap.size W w2) := on HB1.out b2
    clear b2
    by_cases hG : isG n0 g = false
    · rw [hG]
      have HU2 : Hid (((4 : Int), (0 : Int)) = U) := by
        have e : tbC P c g = 4 := by rw [tbC, if_pos CZ.out, if_pos (by rw [← HL0.out]; exact hG)]
        show _ = _
        rw [← HU.out, tbR, e, if_neg (by decide)]
      have E := HU2.out
      subst E
      have r0 := R2.out.cell 0 rfl
      have r1 := R2.out.cell 1 rfl
      have f0 := R2.out.free 0
      have f1 := R2.out.free 1
      go_wp2_with fail
      exact bodyPost_ret (v := .agg #[.int .i64 4, .int .i64 0]) (by simp [results, Tryd.results6, go_sem, r0, r1]) rfl ⟨rfl, ((B2.out).setCell (by have := HSs.out; show w.heap.size ≤ s + 1; omega) _).setCell (by have := HSs.out; show w.heap.size ≤ s + 1; omega) _⟩
    have HZ : Hid (tbC P c g = 0) := by show _ = _; rw [tbC, if_pos CZ.out, if_neg (by rw [← HL0.out]; exact hG)]
    have AK : Hid (askV P g = 0) := by show _ = _; rw [askV, if_pos PZ.out.1, if_neg (by rw [← HL0.out]; exact hG)]
    rw [Bool.not_eq_false] at hG
    rw [hG]
    obtain ⟨rr, hrr⟩ : ∃ r, rdV P.plan = r := ⟨_, rfl⟩
    have RP := rd_pos P PZ.out.1
    rw [hrr] at RP
    have HR : Hid (rdV P.plan = rr) := hrr
    have RV : Hid (rR P = (0, rr)) := by show _ = _; rw [rR, if_pos PZ.out.1, hrr]
    clear hrr
    have tm : c.tmod rr = c % rr := Int.tmod_eq_emod_of_nonneg PZ.out.2.1
    have td : c.tdiv rr = c / rr := Int.tdiv_eq_ediv_of_nonneg PZ.out.2.1
    have m0 : 0 ≤ c % rr := Int.emod_nonneg _ (by omega)
    have m1 : c % rr < rr := Int.emod_lt_of_pos _ (by omega)
    obtain ⟨d0, d1⟩ := div_le PZ.out.2.1 PZ.out.2.2 RP.1
    obtain ⟨m, hm⟩ : ∃ m, c % rr = m := ⟨_, rfl⟩
    rw [hm] at tm m0 m1
    have HM : Hid (c % rr = m) := hm
    obtain ⟨d, hd⟩ : ∃ d, c / rr = d := ⟨_, rfl⟩
    rw [hd] at td d0 d1
    have HD : Hid (c / rr = d) := hd
    obtain ⟨fr, hfr⟩ : ∃ f, frV g P.plan = f := ⟨_, rfl⟩
    have FP := fr_le P PZ.out.1 g
    rw [hfr] at FP
    have HF : Hid (frV g P.plan = fr) := hfr
    have FV : Hid (fR P g = (0, fr)) := by show _ = _; rw [fR, if_pos AK.out, hfr]
    obtain ⟨u0, u1⟩ := mul_le d0 d1 FP.1 FP.2
    obtain ⟨bs, hb⟩ : ∃ b, d * fr = b := ⟨_, rfl⟩
    rw [hb] at u0 u1
    have HBS : Hid (d * fr = bs) := hb
    have r1 := RP.1
    have r2 := RP.2
    have U01 : Hid (0 ≤ bs ∧ bs ≤ 400000000) := ⟨u0, u1⟩
    have M01 : Hid (0 ≤ m ∧ m < rr ∧ rr ≤ 400) := ⟨m0, m1, r2⟩
    have HU3 : Hid ((0, bs + (tbF g P.plan m).1) = U) := by
      show _ = _
      rw [← HU.out, tbR, if_pos HZ.out, tbV, HR.out, HM.out, HD.out, HF.out, HBS.out]
    clear hm hd hfr
    have wr : IntKind.i64.wrap (d * fr) = bs := by rw [hb, IntKind.wrap_i64]; omega
    clear hb
    have rne : ¬ rr = 0 := by omega
    have wdd : IntKind.i64.wrap d = d := by rw [IntKind.wrap_i64]; omega
    have q0 := cell_keep HB2.out Q.out.1
    have q1 := cell_keep HB2.out Q.out.2.1
    have q2 := cell_keep HB2.out Q.out.2.2.1
    have q3 := cell_keep HB2.out Q.out.2.2.2
    go_wp2_with fail
    clear q0 q1 q2 q3
    refine (i_roundOf _ _ _ _ _ _ _ _ _ _ _ _ P _ (HP.out.stay HB2.out) (cell_keep HB2.out HG.out)).mono ?_
    rintro e w3 ⟨rfl, b3⟩
    rw [RV.out]
    have B3 : Hid (Below w.heap.size w w3) := on B2.out b3
    have R3 : Hid (Vb w3 (s + 1) #[.int .i64 0, .int .i64 0] 33) := R2.out.keep b3
    have HB3 : Hid (Below W.heap.size W w3) := on HB2.out b3
    have Q3 : Hid (_ ∧ _ ∧ _ ∧ _) := ⟨cell_keep HB3.out Q.out.1, cell_keep HB3.out Q.out.2.1, cell_keep HB3.out Q.out.2.2.1, cell_keep HB3.out Q.out.2.2.2⟩
    clear b3
    simp only
    go_wp2_with fail
    refine wp_region_held (S := fun w' => Below w3.heap.size w3 w') (by kernel_rfl) ?_
    change wpAnyH _ _ _ _ _ _ _ _ (World.drew _)
    have SD : Hid (Below w3.heap.size w3 w3.drew) := (Below.refl _ _).drew
    generalize w3.drew = x0 at *
    refine wpAnyH_take (i := 0) (v := .int .i64 c) rfl (by kernel_rfl) (by kernel_rfl) (by kernel_rfl) (fun _ _ _ h => h) (Or.inl ⟨by rfl, fun w' hs => by go_simp⟩) SD.out ?_
    change wpAnyH _ _ _ _ _ _ _ (Act.put _ (some 29) _) _
    simp only [Act.put, List.setIfInBounds_toArray, List.set_cons_zero, List.set_cons_succ]
    refine wpAnyH_take (i := 1) (v := .int .i64 rr) rfl (by kernel_rfl) (by kernel_rfl) (by kernel_rfl) (fun _ _ _ h => h) (Or.inl ⟨by rfl, fun w' hs => by go_simp⟩) SD.out ?_
    change wpAnyH _ _ _ _ _ _ _ (Act.put _ (some 30) _) _
    simp only [Act.put, List.setIfInBounds_toArray, List.set_cons_zero, List.set_cons_succ]
    refine wpAnyH_take (i := 2) (v := .int .i64 d) rfl (by kernel_rfl) (by kernel_rfl) (by kernel_rfl) (fun _ _ _ h => h) (Or.inl ⟨by rfl, fun w' hs => by go_simp⟩) SD.out ?_
    change wpAnyH _ _ _ _ _ _ _ (Act.put _ (some 31) _) _
    simp only [Act.put, List.setIfInBounds_toArray, List.set_cons_zero, List.set_cons_succ]
    refine wpAnyH_take (i := 3) (v := .agg #[.slice a0 n0 c0, .slice a1 n1 c1, .slice a2 n2 c2, .slice a3 n3 c3]) rfl (by kernel_rfl) (by kernel_rfl) (by kernel_rfl) (fun _ _ _ h => h) (Or.inl ⟨by rfl, fun w' hs => by have y0 := cell_keep hs Q3.out.1; have y1 := cell_keep hs Q3.out.2.1; have y2 := cell_keep hs Q3.out.2.2.1; have y3 := cell_keep hs Q3.out.2.2.2; go_simp⟩) SD.out ?_
    change wpAnyH _ _ _ _ _ _ _ (Act.put _ (some 32) _) _
    simp only [Act.put, List.setIfInBounds_toArray, List.set_cons_zero, List.set_cons_succ]
    refine wpAnyH_take (i := 4) (v := .int .i64 g) rfl (by kernel_rfl) (by kernel_rfl) (by kernel_rfl) (fun _ _ _ h => h) (Or.inl ⟨by rfl, fun w' hs => by go_simp⟩) SD.out ?_
    change wpAnyH _ _ _ _ _ _ _ (Act.put _ (some 33) _) _
    simp only [Act.put, List.setIfInBounds_toArray, List.set_cons_zero, List.set_cons_succ]
    refine wpAnyH_ready (rs := [5]) (by kernel_rfl) (by simp) ?_
    refine AllReadyH.cons rfl (fun K hK => ?_) AllReadyH.nil
    rw [if_pos (by rfl)]
    go_simp
    refine (i_framesOf _ _ _ _ _ _ _ _ _ _ _ _ P g _ ((HP.out.stay HB3.out).stay SD.out) (cell_keep SD.out (cell_keep HB3.out HG.out))).mono ?_
    rintro e w4 ⟨rfl, b4⟩
    rw [FV.out]
    have S4 : Hid (Below w3.heap.size w3 w4) := on SD.out b4
    clear b4
    refine hK.out _ _ S4.out (fun _ => ?_)
    clear hK K
    refine wpAnyH_take (i := 6) (v := .int .i64 fr) rfl (by kernel_rfl) (by kernel_rfl) (by kernel_rfl) (fun _ _ _ h => h) (Or.inl ⟨by rfl, fun w' hs => by go_simp⟩) S4.out ?_
    change wpAnyH _ _ _ _ _ _ _ (Act.put _ (some 35) _) _
    simp only [Act.put, List.setIfInBounds_toArray, List.set_cons_zero, List.set_cons_succ]
    refine wpAnyH_take (i := 7) (v := .int .i64 bs) rfl (by kernel_rfl) (by kernel_rfl) (by kernel_rfl) (fun _ _ _ h => h) (Or.inl ⟨by rfl, fun w' hs => by go_simp⟩) S4.out ?_
    change wpAnyH _ _ _ _ _ _ _ (Act.put _ (some 36) _) _
    simp only [Act.put, List.setIfInBounds_toArray, List.set_cons_zero, List.set_cons_succ]
    refine wpAnyH_take (i := 8) (v := .int .i64 bs) rfl (by kernel_rfl) (by kernel_rfl) (by kernel_rfl) (fun _ _ _ h => h) (Or.inl ⟨by rfl, fun w' hs => by go_simp⟩) S4.out ?_
    change wpAnyH _ _ _ _ _ _ _ (Act.put _ (some 9) _) _
    simp only [Act.put, List.setIfInBounds_toArray, List.set_cons_zero, List.set_cons_succ]
    refine wpAnyH_done (by kernel_rfl) ?_ _
    have B4 : Hid (Below w.heap.size w w4) := on B3.out S4.out
    have R4 : Hid (Vb w4 (s + 1) #[.int .i64 0, .int .i64 0] 33) := R3.out.keep S4.out
    have q3 := cell_keep S4.out Q3.out.2.2.2
    have HPw : Hid (Pl w4 a0 n0 c0 a1 n1 c1 a2 n2 c2 a3 n3 c3 P) := (HP.out.stay HB3.out).stay S4.out
    have HL3 : Hid (n3 = P.plan.length) := HPw.out.plan.len
    have L8 : Hid (n3 ≤ 8) := by show _ ≤ _; rw [HPw.out.plan.len]; exact (pf_plan P PZ.out.1).1
    have hmax3 : (n3 : Int) ≤ 9223372036854775807 := by have := L8.out; omega
    have ST8 : Hid (∀ j, j < P.plan.length → 1 ≤ (P.plan.getD j (0, 0)).2 ∧ (P.plan.getD j (0, 0)).2 ≤ 50) := (pf_plan P PZ.out.1).2
    clear SD S4 x0 Q3
    go_wp2_with fail
    clear q3 wr wdd rne td tm d0 d1 u0 u1 m0 m1 r1 r2 RP FP
    go_loopw [9, 10, 43] (fun u v c wr => ∃ j : Nat, j ≤ n3 ∧ c = .int .i64 j ∧ u = .int .i64 (bs + (tbF g (P.plan.take j) m).1) ∧ v = .int .i64 (tbF g (P.plan.take j) m).2 ∧ Below w4.heap.size w4 wr) (fun _ _ c _ => n3 - (intOf c).toNat)
    case atStart => exact ⟨0, Nat.zero_le _, rfl, by simp [tbF], by simp [tbF], Below.refl _ _⟩
    case round =>
      obtain ⟨j, hj, rfl, rfl, rfl, hB⟩ := hrel
      have HB : Hid (Below w4.heap.size w4 wr) := hB
      by_cases hlt : j < n3
      · obtain ⟨x, rfl, k0, k1⟩ := (HPw.out.plan.stay hB).at j hlt
        clear hB
        have HLT : Hid (j < n3) := hlt
        have hJ : (j : Int) < (n3 : Int) := by omega
        have J8 : (j : Int) ≤ 8 := by have := L8.out; omega
        have TK : Hid (_ = _) := tb_take g P.plan m j (by have := HL3.out; omega)
        have st := ST8.out j (by have := HL3.out; omega)
        obtain ⟨t0, t1, t2⟩ := tb_bound g P.plan m M01.out.1 (fun x hx => (pf_each P PZ.out.1 x hx).1) j (by have := HL3.out; omega)
        have st0 := st.1
        have st1 := st.2
        have m4 : m ≤ 400 := by have := M01.out; omega
        have u0 := U01.out.1
        have u1 := U01.out.2
        obtain ⟨⟨gg, t⟩, hL⟩ : ∃ L, P.plan.getD j (0, 0) = L := ⟨_, rfl⟩
        rw [hL] at k0 k1 TK st0 st1
        simp only at k0 k1 TK st0 st1
        clear hL st
        obtain ⟨⟨sm, re⟩, hsm⟩ : ∃ z, tbF g (P.plan.take j) m = z := ⟨_, rfl⟩
        rw [hsm] at TK t0 t1 t2 ⊢
        simp only at TK t0 t1 t2 ⊢
        clear hsm
        by_cases hm : re < t
        · have MN : min t re = re := by omega
          rw [MN] at TK
          by_cases he : gg = g
          · have TK2 : Hid (tbF g (P.plan.take (j + 1)) m = (sm + re, re - re)) := by show _ = _; rw [TK.out, if_pos he]
            go_wp2_with fail
            go_roundw
            case rel => exact ⟨j + 1, by have := HLT.out; omega, by go_num, by rw [TK2.out]; first | done | go_num | (simp; done), by rw [TK2.out]; first | done | go_num | (simp; done), al HB.out _⟩
            case measure => have := HLT.out; simp [intOf]; omega
          · have TK2 : Hid (tbF g (P.plan.take (j + 1)) m = (sm, re - re)) := by show _ = _; rw [TK.out, if_neg he]; simp
            go_wp2_with fail
            go_roundw
            case rel => exact ⟨j + 1, by have := HLT.out; omega, by go_num, by rw [TK2.out]; first | done | go_num | (simp; done), by rw [TK2.out]; first | done | go_num | (simp; done), al HB.out _⟩
            case measure => have := HLT.out; simp [intOf]; omega
        · have MN : min t re = t := by omega
          rw [MN] at TK
          have hm2 : t ≤ re := by omega
          by_cases he : gg = g
          · have TK2 : Hid (tbF g (P.plan.take (j + 1)) m = (sm + t, re - t)) := by show _ = _; rw [TK.out, if_pos he]
            go_wp2_with fail
            go_roundw
            case rel => exact ⟨j + 1, by have := HLT.out; omega, by go_num, by rw [TK2.out]; first | done | go_num | (simp; done), by rw [TK2.out]; first | done | go_num | (simp; done), al HB.out _⟩
            case measure => have := HLT.out; simp [intOf]; omega
          · have TK2 : Hid (tbF g (P.plan.take (j + 1)) m = (sm, re - t)) := by show _ = _; rw [TK.out, if_neg he]; simp
            go_wp2_with fail
            go_roundw
            case rel => exact ⟨j + 1, by have := HLT.out; omega, by go_num, by rw [TK2.out]; first | done | go_num | (simp; done), by rw [TK2.out]; first | done | go_num | (simp; done), al HB.out _⟩
            case measure => have := HLT.out; simp [intOf]; omega
      · have hJ : ¬ (j : Int) < (n3 : Int) := by omega
        have HJ : Hid (j = n3) := by show _ = _; omega
        have R5 := R4.out.keep hB
        clear hlt hB
        have EV : Hid (P.plan.take j = P.plan) := by show _ = _; rw [List.take_of_length_le (by have := HL3.out; have := HJ.out; omega)]
        rw [EV.out]
        obtain ⟨sm, hsm⟩ : ∃ z, (tbF g P.plan m).1 = z := ⟨_, rfl⟩
        rw [hsm] at HU3 ⊢
        have E := HU3.out
        subst E
        clear hsm
        have r0 := R5.cell 0 rfl
        have r1 := R5.cell 1 rfl
        have f0 := R5.free 0
        have f1 := R5.free 1
        go_wp2_with fail
        exact bodyPost_ret (v := .agg #[.int .i64 0, .int .i64 (bs + sm)]) (by simp [results, Tryd.results6, go_sem, r0, r1]) rfl ⟨rfl, ((on B4.out HB.out).setCell (by have := HSs.out; show w.heap.size ≤ s + 1; omega) _).setCell (by have := HSs.out; show w.heap.size ≤ s + 1; omega) _⟩
  · have HU2 : Hid ((ckV P c, (0 : Int)) = U) := by
      show _ = _
      rw [← HU.out, tbR, if_neg (by rw [tbC, if_neg hz]; exact hz), tbC, if_neg hz]
    generalize hv : ckV P c = v at *
    have E := HU2.out
    subst E
    have r0 := R1.out.cell 0 rfl
    have r1 := R1.out.cell 1 rfl
    have f0 := R1.out.free 0
    have f1 := R1.out.free 1
    go_wp2_with fail
    exact bodyPost_ret (v := .agg #[.int .i64 v, .int .i64 0]) (by simp [results, Tryd.results6, go_sem, r0, r1]) rfl ⟨rfl, ((B1.out).setCell (by have := HSs.out; show w.heap.size ≤ s + 1; omega) _).setCell (by have := HSs.out; show w.heap.size ≤ s + 1; omega) _⟩
end Go.Proofs.YteilidnlfocnaaaDoor
namespace Go.Proofs.YteilidnlfocnaaaDoor
open Go.RowKit
set_option linter.unusedVariables false

theorem s_asked12 (q : Nat) (c : Int) (P : Plc) (w : World) (h : PolAt w q P) :
    Calls Tryd.prog 16 #[.pointer (some ⟨q, 0, none⟩), .int .i64 c] w fun e w' => e = .returned (.int .i64 (ckV P c)) ∧ Below w.heap.size w w' := by
  have HP : Hid (PolAt w q P) := h
  clear h
  go_enter Tryd.func16, Tryd.ntmps16
  go_wp2_with fail
  refine (l6_fault _ P _ HP.out).mono ?_
  rintro e w1 ⟨rfl, b1⟩
  by_cases hz : pfV P = 0
  · by_cases hg : ckOk c = false
    · have E : Hid (ckV P c = 3) := by show _ = _; rw [ckV, if_pos hz, if_pos hg]
      have HG : Hid ((decide (0 ≤ c) && decide (c ≤ 1000000)) = false) := hg
      rw [hz]
      clear hg
      go_wp2_with fail
      refine (l1_in _ _ _ _).mono ?_
      rintro e w1 ⟨rfl, rfl⟩
      rw [HG.out]
      go_wp2_with fail
      go_ret
      rw [E.out]
      exact ⟨rfl, b1⟩
    · have E : Hid (ckV P c = 0) := by show _ = _; rw [ckV, if_pos hz, if_neg hg]
      rw [Bool.not_eq_false] at hg
      have HG : Hid ((decide (0 ≤ c) && decide (c ≤ 1000000)) = true) := hg
      rw [hz]
      clear hg
      go_wp2_with fail
      refine (l1_in _ _ _ _).mono ?_
      rintro e w1 ⟨rfl, rfl⟩
      rw [HG.out]
      go_wp2_with fail
      go_ret
      rw [E.out]
      exact ⟨rfl, b1⟩
  · have E : Hid (ckV P c = pfV P) := by show _ = _; rw [ckV, if_neg hz]
    generalize hv : pfV P = v at *
    go_wp2_with fail
    go_ret
    rw [E.out]
    exact ⟨rfl, b1⟩

end Go.Proofs.YteilidnlfocnaaaDoor
namespace Go.Proofs.YteilidnlfocnaaaDoor
open Go.RowKit
set_option linter.unusedVariables false

theorem t_min (x y : Int) (w : World) : Calls Tryd.prog 20 #[.int .i64 x, .int .i64 y] w fun e w' => e = .returned (.int .i64 (if x < y then x else y)) ∧ w' = w := by
  by_cases h : x < y
  · rw [if_pos h]
    go_enter Tryd.func20, Tryd.ntmps20
    go_wp2_with fail
    go_ret
    exact ⟨rfl, rfl⟩
  · rw [if_neg h]
    go_enter Tryd.func20, Tryd.ntmps20
    go_wp2_with fail
    go_ret
    exact ⟨rfl, rfl⟩
set_option maxRecDepth 20000 in
set_option maxHeartbeats 8000000 in
theorem s_TurnsBefore (a0 a1 a2 a3 : Option Addr) (n0 c0 n1 c1 n2 c2 n3 c3 : Nat) (P : Plc) (c g : Int) (w : World) (h : Pl w a0 n0 c0 a1 n1 c1 a2 n2 c2 a3 n3 c3 P) :
    Calls Tryd.prog 7 #[.agg #[.slice a0 n0 c0, .slice a1 n1 c1, .slice a2 n2 c2, .slice a3 n3 c3], .int .i64 c, .int .i64 g] w fun e w' => e = .returned (.agg #[.int .i64 (tbR P c g).1, .int .i64 (tbR P c g).2]) ∧ Below w.heap.size w w' := by
  obtain ⟨U, hU⟩ : ∃ U, tbR P c g = U := ⟨_, rfl⟩
  rw [hU]
  have HU : Hid (tbR P c g = U) := hU
  clear hU
  generalize hW : (w.alloc (.cells #[.slice a0 n0 c0, .slice a1 n1 c1, .slice a2 n2 c2, .slice a3 n3 c3] 29)).alloc (.cells #[.int .i64 0, .int .i64 0] 33) = W
  have B0 : Hid (Below w.heap.size w W) := by show Below _ _ _; rw [← hW]; exact al (al (Below.refl _ _) _) _
  obtain ⟨s, hS⟩ : ∃ s, w.heap.size = s := ⟨_, rfl⟩
  have HSs : Hid (w.heap.size = s) := hS
  have Q : Hid (W.cell? ⟨s, 0, none⟩ = some (.slice a0 n0 c0) ∧ W.cell? ⟨s, 1, none⟩ = some (.slice a1 n1 c1) ∧ W.cell? ⟨s, 2, none⟩ = some (.slice a2 n2 c2) ∧ W.cell? ⟨s, 3, none⟩ = some (.slice a3 n3 c3)) := by
    show _ ∧ _
    rw [← hW, ← hS]
    exact ⟨cell_push _ (cell_new rfl), cell_push _ (cell_new rfl), cell_push _ (cell_new rfl), cell_push _ (cell_new rfl)⟩
  have R : Hid (Vb W (s + 1) #[.int .i64 0, .int .i64 0] 33) := by
    have z1 : s + 1 = (w.alloc (.cells #[.slice a0 n0 c0, .slice a1 n1 c1, .slice a2 n2 c2, .slice a3 n3 c3] 29)).heap.size := by rw [← hS]; simp
    show Vb _ _ _ _
    rw [← hW, z1]
    exact Vb.new _ _ _
  have HP : Hid (Pl W a0 n0 c0 a1 n1 c1 a2 n2 c2 a3 n3 c3 P) := h.stay B0.out
  have HA : Hid (PolAt W s P) := ⟨_, _, _, _, _, _, _, _, _, _, _, _, Q.out.1, Q.out.2.1, Q.out.2.2.1, Q.out.2.2.2, HP.out⟩
  clear h
  have q0 := Q.out.1
  have q1 := Q.out.2.1
  have q2 := Q.out.2.2.1
  have q3 := Q.out.2.2.2
  have fv := field_value
  go_enter Tryd.func7, Tryd.ntmps7
  go_wp2_with fail
  clear hW hS
  refine (s_asked12 _ _ P _ HA.out).mono ?_
  rintro e w1 ⟨rfl, b1⟩
  have B1 : Hid (Below w.heap.size w w1) := on B0.out b1
  have R1 : Hid (Vb w1 (s + 1) #[.int .i64 0, .int .i64 0] 33) := R.out.keep b1
  clear q0 q1 q2 q3
  by_cases hz : ckV P c = 0
  · have PZ : Hid (pfV P = 0 ∧ 0 ≤ c ∧ c ≤ 1000000) := ck_pf hz
    have CZ : Hid (ckV P c = 0) := hz
    have HB1 : Hid (Below W.heap.size W w1) := b1
    rw [hz]
    clear hz b1
    go_wp2_with fail
    refine (l6_guest _ _ P _ (HA.out.stay HB1.out)).mono ?_
    rintro e w1 ⟨rfl, rfl⟩
    by_cases hG : isG P.own.length g = false
    · rw [hG]
      have HU2 : Hid (((4 : Int), (0 : Int)) = U) := by
        have e : tbC P c g = 4 := by rw [tbC, if_pos CZ.out, if_pos hG]
        show _ = _
        rw [← HU.out, tbR, e, if_neg (by decide)]
      have E := HU2.out
      subst E
      have r0 := R1.out.cell 0 rfl
      have r1 := R1.out.cell 1 rfl
      have f0 := R1.out.free 0
      have f1 := R1.out.free 1
      go_wp2_with fail
      exact bodyPost_ret (v := .agg #[.int .i64 4, .int .i64 0]) (by simp [results, Tryd.results7, go_sem, r0, r1]) rfl ⟨rfl, ((B1.out).setCell (by have := HSs.out; show w.heap.size ≤ s + 1; omega) _).setCell (by have := HSs.out; show w.heap.size ≤ s + 1; omega) _⟩
    have HZ : Hid (tbC P c g = 0) := by show _ = _; rw [tbC, if_pos CZ.out, if_neg hG]
    have AK : Hid (askV P g = 0) := by show _ = _; rw [askV, if_pos PZ.out.1, if_neg hG]
    rw [Bool.not_eq_false] at hG
    rw [hG]
    obtain ⟨rr, hrr⟩ : ∃ r, rdV P.plan = r := ⟨_, rfl⟩
    have RP := rd_pos P PZ.out.1
    rw [hrr] at RP
    have HR : Hid (rdV P.plan = rr) := hrr
    have RV : Hid (rR P = (0, rr)) := by show _ = _; rw [rR, if_pos PZ.out.1, hrr]
    clear hrr
    have tm : c.tmod rr = c % rr := Int.tmod_eq_emod_of_nonneg PZ.out.2.1
    have td : c.tdiv rr = c / rr := Int.tdiv_eq_ediv_of_nonneg PZ.out.2.1
    have m0 : 0 ≤ c % rr := Int.emod_nonneg _ (by omega)
    have m1 : c % rr < rr := Int.emod_lt_of_pos _ (by omega)
    obtain ⟨d0, d1⟩ := div_le PZ.out.2.1 PZ.out.2.2 RP.1
    obtain ⟨m, hm⟩ : ∃ m, c % rr = m := ⟨_, rfl⟩
    rw [hm] at tm m0 m1
    have HM : Hid (c % rr = m) := hm
    obtain ⟨d, hd⟩ : ∃ d, c / rr = d := ⟨_, rfl⟩
    rw [hd] at td d0 d1
    have HD : Hid (c / rr = d) := hd
    obtain ⟨fr, hfr⟩ : ∃ f, frV g P.plan = f := ⟨_, rfl⟩
    have FP := fr_le P PZ.out.1 g
    rw [hfr] at FP
    have HF : Hid (frV g P.plan = fr) := hfr
    have FV : Hid (fR P g = (0, fr)) := by show _ = _; rw [fR, if_pos AK.out, hfr]
    obtain ⟨u0, u1⟩ := mul_le d0 d1 FP.1 FP.2
    obtain ⟨bs, hb⟩ : ∃ b, d * fr = b := ⟨_, rfl⟩
    rw [hb] at u0 u1
    have HBS : Hid (d * fr = bs) := hb
    have r1 := RP.1
    have r2 := RP.2
    have U01 : Hid (0 ≤ bs ∧ bs ≤ 400000000) := ⟨u0, u1⟩
    have M01 : Hid (0 ≤ m ∧ m < rr ∧ rr ≤ 400) := ⟨m0, m1, r2⟩
    have HU3 : Hid ((0, bs + (tbF g P.plan m).1) = U) := by
      show _ = _
      rw [← HU.out, tbR, if_pos HZ.out, tbV, HR.out, HM.out, HD.out, HF.out, HBS.out]
    clear hm hd hfr
    have wr : IntKind.i64.wrap (d * fr) = bs := by rw [hb, IntKind.wrap_i64]; omega
    clear hb
    have rne : ¬ rr = 0 := by omega
    have wdd : IntKind.i64.wrap d = d := by rw [IntKind.wrap_i64]; omega
    have q0 := cell_keep HB1.out Q.out.1
    have q1 := cell_keep HB1.out Q.out.2.1
    have q2 := cell_keep HB1.out Q.out.2.2.1
    have q3 := cell_keep HB1.out Q.out.2.2.2
    go_wp2_with fail
    clear q0 q1 q2 q3
    refine (s_roundOf _ _ _ _ _ _ _ _ _ _ _ _ P _ (HP.out.stay HB1.out)).mono ?_
    rintro e w3 ⟨rfl, b3⟩
    rw [RV.out]
    have B3 : Hid (Below w.heap.size w w3) := on B1.out b3
    have R3 : Hid (Vb w3 (s + 1) #[.int .i64 0, .int .i64 0] 33) := R1.out.keep b3
    have HB3 : Hid (Below W.heap.size W w3) := on HB1.out b3
    have Q3 : Hid (_ ∧ _ ∧ _ ∧ _) := ⟨cell_keep HB3.out Q.out.1, cell_keep HB3.out Q.out.2.1, cell_keep HB3.out Q.out.2.2.1, cell_keep HB3.out Q.out.2.2.2⟩
    clear b3
    simp only
    go_wp2_with fail
    refine wp_region_held (S := fun w' => Below w3.heap.size w3 w') (by kernel_rfl) ?_
    change wpAnyH _ _ _ _ _ _ _ _ (World.drew _)
    have SD : Hid (Below w3.heap.size w3 w3.drew) := (Below.refl _ _).drew
    generalize w3.drew = x0 at *
    refine wpAnyH_take (i := 0) (v := .int .i64 c) rfl (by kernel_rfl) (by kernel_rfl) (by kernel_rfl) (fun _ _ _ h => h) (Or.inl ⟨by rfl, fun w' hs => by go_simp⟩) SD.out ?_
    change wpAnyH _ _ _ _ _ _ _ (Act.put _ (some 25) _) _
    simp only [Act.put, List.setIfInBounds_toArray, List.set_cons_zero, List.set_cons_succ]
    refine wpAnyH_take (i := 1) (v := .int .i64 rr) rfl (by kernel_rfl) (by kernel_rfl) (by kernel_rfl) (fun _ _ _ h => h) (Or.inl ⟨by rfl, fun w' hs => by go_simp⟩) SD.out ?_
    change wpAnyH _ _ _ _ _ _ _ (Act.put _ (some 26) _) _
    simp only [Act.put, List.setIfInBounds_toArray, List.set_cons_zero, List.set_cons_succ]
    refine wpAnyH_take (i := 2) (v := .int .i64 d) rfl (by kernel_rfl) (by kernel_rfl) (by kernel_rfl) (fun _ _ _ h => h) (Or.inl ⟨by rfl, fun w' hs => by go_simp⟩) SD.out ?_
    change wpAnyH _ _ _ _ _ _ _ (Act.put _ (some 27) _) _
    simp only [Act.put, List.setIfInBounds_toArray, List.set_cons_zero, List.set_cons_succ]
    refine wpAnyH_take (i := 3) (v := .agg #[.slice a0 n0 c0, .slice a1 n1 c1, .slice a2 n2 c2, .slice a3 n3 c3]) rfl (by kernel_rfl) (by kernel_rfl) (by kernel_rfl) (fun _ _ _ h => h) (Or.inl ⟨by rfl, fun w' hs => by have y0 := cell_keep hs Q3.out.1; have y1 := cell_keep hs Q3.out.2.1; have y2 := cell_keep hs Q3.out.2.2.1; have y3 := cell_keep hs Q3.out.2.2.2; go_simp⟩) SD.out ?_
    change wpAnyH _ _ _ _ _ _ _ (Act.put _ (some 28) _) _
    simp only [Act.put, List.setIfInBounds_toArray, List.set_cons_zero, List.set_cons_succ]
    refine wpAnyH_take (i := 4) (v := .int .i64 g) rfl (by kernel_rfl) (by kernel_rfl) (by kernel_rfl) (fun _ _ _ h => h) (Or.inl ⟨by rfl, fun w' hs => by go_simp⟩) SD.out ?_
    change wpAnyH _ _ _ _ _ _ _ (Act.put _ (some 29) _) _
    simp only [Act.put, List.setIfInBounds_toArray, List.set_cons_zero, List.set_cons_succ]
    refine wpAnyH_ready (rs := [5]) (by kernel_rfl) (by simp) ?_
    refine AllReadyH.cons rfl (fun K hK => ?_) AllReadyH.nil
    rw [if_pos (by rfl)]
    go_simp
    refine (s_framesOf _ _ _ _ _ _ _ _ _ _ _ _ P g _ ((HP.out.stay HB3.out).stay SD.out)).mono ?_
    rintro e w4 ⟨rfl, b4⟩
    rw [FV.out]
    have S4 : Hid (Below w3.heap.size w3 w4) := on SD.out b4
    clear b4
    refine hK.out _ _ S4.out (fun _ => ?_)
    clear hK K
    refine wpAnyH_take (i := 6) (v := .int .i64 fr) rfl (by kernel_rfl) (by kernel_rfl) (by kernel_rfl) (fun _ _ _ h => h) (Or.inl ⟨by rfl, fun w' hs => by go_simp⟩) S4.out ?_
    change wpAnyH _ _ _ _ _ _ _ (Act.put _ (some 31) _) _
    simp only [Act.put, List.setIfInBounds_toArray, List.set_cons_zero, List.set_cons_succ]
    refine wpAnyH_take (i := 7) (v := .int .i64 bs) rfl (by kernel_rfl) (by kernel_rfl) (by kernel_rfl) (fun _ _ _ h => h) (Or.inl ⟨by rfl, fun w' hs => by go_simp⟩) S4.out ?_
    change wpAnyH _ _ _ _ _ _ _ (Act.put _ (some 32) _) _
    simp only [Act.put, List.setIfInBounds_toArray, List.set_cons_zero, List.set_cons_succ]
    refine wpAnyH_take (i := 8) (v := .int .i64 bs) rfl (by kernel_rfl) (by kernel_rfl) (by kernel_rfl) (fun _ _ _ h => h) (Or.inl ⟨by rfl, fun w' hs => by go_simp⟩) S4.out ?_
    change wpAnyH _ _ _ _ _ _ _ (Act.put _ (some 9) _) _
    simp only [Act.put, List.setIfInBounds_toArray, List.set_cons_zero, List.set_cons_succ]
    refine wpAnyH_done (by kernel_rfl) ?_ _
    have B4 : Hid (Below w.heap.size w w4) := on B3.out S4.out
    have R4 : Hid (Vb w4 (s + 1) #[.int .i64 0, .int .i64 0] 33) := R3.out.keep S4.out
    have q3 := cell_keep S4.out Q3.out.2.2.2
    have HPw : Hid (Pl w4 a0 n0 c0 a1 n1 c1 a2 n2 c2 a3 n3 c3 P) := (HP.out.stay HB3.out).stay S4.out
    have HL3 : Hid (n3 = P.plan.length) := HPw.out.plan.len
    have L8 : Hid (n3 ≤ 8) := by show _ ≤ _; rw [HPw.out.plan.len]; exact (pf_plan P PZ.out.1).1
    have hmax3 : (n3 : Int) ≤ 9223372036854775807 := by have := L8.out; omega
    have ST8 : Hid (∀ j, j < P.plan.length → 1 ≤ (P.plan.getD j (0, 0)).2 ∧ (P.plan.getD j (0, 0)).2 ≤ 50) := (pf_plan P PZ.out.1).2
    clear SD S4 x0 Q3
    go_wp2_with fail
    clear wr wdd rne td tm d0 d1 u0 u1 m0 m1 r1 r2 RP FP
    go_loop [9, 10, 11] (fun u v c => ∃ j : Nat, j ≤ n3 ∧ c = .int .i64 j ∧ u = .int .i64 (bs + (tbF g (P.plan.take j) m).1) ∧ v = .int .i64 (tbF g (P.plan.take j) m).2) (fun _ _ c => n3 - (intOf c).toNat)
    case atStart => exact ⟨0, Nat.zero_le _, rfl, by simp [tbF], by simp [tbF]⟩
    case round =>
      obtain ⟨j, hj, rfl, rfl, rfl⟩ := hrel
      by_cases hlt : j < n3
      · by_cases hre : 0 < (tbF g (P.plan.take j) m).2
        · obtain ⟨x, rfl, k0, k1⟩ := HPw.out.plan.at j hlt
          have HLT : Hid (j < n3) := hlt
          have hJ : (j : Int) < (n3 : Int) := by omega
          have J8 : (j : Int) ≤ 8 := by have := L8.out; omega
          have TK : Hid (_ = _) := tb_take g P.plan m j (by have := HL3.out; omega)
          have st := ST8.out j (by have := HL3.out; omega)
          obtain ⟨t0, t1, t2⟩ := tb_bound g P.plan m M01.out.1 (fun x hx => (pf_each P PZ.out.1 x hx).1) j (by have := HL3.out; omega)
          have st0 := st.1
          have st1 := st.2
          have m4 : m ≤ 400 := by have := M01.out; omega
          have u0 := U01.out.1
          have u1 := U01.out.2
          obtain ⟨⟨gg, t⟩, hL⟩ : ∃ L, P.plan.getD j (0, 0) = L := ⟨_, rfl⟩
          rw [hL] at k0 k1 TK st0 st1
          simp only at k0 k1 TK st0 st1
          clear hL st
          obtain ⟨⟨sm, re⟩, hsm⟩ : ∃ z, tbF g (P.plan.take j) m = z := ⟨_, rfl⟩
          rw [hsm] at TK t0 t1 t2 hre ⊢
          simp only at TK t0 t1 t2 hre ⊢
          clear hsm
          by_cases hm : re < t
          · have MN : min t re = re := by omega
            have MI : Hid ((if re < t then re else t) = re) := by show _ = _; split <;> omega
            rw [MN] at TK
            clear MN
            by_cases he : gg = g
            · have TK2 : Hid (tbF g (P.plan.take (j + 1)) m = (sm + re, re - re)) := by show _ = _; rw [TK.out, if_pos he]
              go_wp2_with (go_at_call 20; refine (t_min _ _ _).mono ?_; rintro e y ⟨rfl, hy⟩; rw [hy]; clear hy y; rw [MI.out])
              go_round
              case rel => exact ⟨j + 1, by have := HLT.out; omega, by go_num, by rw [TK2.out]; first | done | go_num | (simp; done), by rw [TK2.out]; first | done | go_num | (simp; done)⟩
              case measure => have := HLT.out; simp [intOf]; omega
            · have TK2 : Hid (tbF g (P.plan.take (j + 1)) m = (sm, re - re)) := by show _ = _; rw [TK.out, if_neg he]; simp
              go_wp2_with (go_at_call 20; refine (t_min _ _ _).mono ?_; rintro e y ⟨rfl, hy⟩; rw [hy]; clear hy y; rw [MI.out])
              go_round
              case rel => exact ⟨j + 1, by have := HLT.out; omega, by go_num, by rw [TK2.out]; first | done | go_num | (simp; done), by rw [TK2.out]; first | done | go_num | (simp; done)⟩
              case measure => have := HLT.out; simp [intOf]; omega
          · have MN : min t re = t := by omega
            have MI : Hid ((if re < t then re else t) = t) := by show _ = _; split <;> omega
            rw [MN] at TK
            clear MN
            by_cases he : gg = g
            · have TK2 : Hid (tbF g (P.plan.take (j + 1)) m = (sm + t, re - t)) := by show _ = _; rw [TK.out, if_pos he]
              go_wp2_with (go_at_call 20; refine (t_min _ _ _).mono ?_; rintro e y ⟨rfl, hy⟩; rw [hy]; clear hy y; rw [MI.out])
              go_round
              case rel => exact ⟨j + 1, by have := HLT.out; omega, by go_num, by rw [TK2.out]; first | done | go_num | (simp; done), by rw [TK2.out]; first | done | go_num | (simp; done)⟩
              case measure => have := HLT.out; simp [intOf]; omega
            · have TK2 : Hid (tbF g (P.plan.take (j + 1)) m = (sm, re - t)) := by show _ = _; rw [TK.out, if_neg he]; simp
              go_wp2_with (go_at_call 20; refine (t_min _ _ _).mono ?_; rintro e y ⟨rfl, hy⟩; rw [hy]; clear hy y; rw [MI.out])
              go_round
              case rel => exact ⟨j + 1, by have := HLT.out; omega, by go_num, by rw [TK2.out]; first | done | go_num | (simp; done), by rw [TK2.out]; first | done | go_num | (simp; done)⟩
              case measure => have := HLT.out; simp [intOf]; omega
        · have hJ : (j : Int) < (n3 : Int) := by omega
          obtain ⟨t0, t1, t2⟩ := tb_bound g P.plan m M01.out.1 (fun x hx => (pf_each P PZ.out.1 x hx).1) j (by have := HL3.out; omega)
          have RE : (tbF g (P.plan.take j) m).2 = 0 := by omega
          have HJL : Hid (j ≤ n3) := hj
          have EV0 : Hid ((tbF g (P.plan.take j) m).1 = (tbF g P.plan m).1) := by
            have hs := tb_still g P.plan m (fun x hx => (pf_each P PZ.out.1 x hx).1) j RE (P.plan.length - j) (by have := HL3.out; omega)
            rw [show j + (P.plan.length - j) = P.plan.length by have := HL3.out; omega, List.take_length] at hs
            show _ = _
            rw [← hs]
          rw [RE]
          clear RE t0 t1 t2 hre
          have EV : Hid ((tbF g (P.plan.take j) m).1 = (tbF g P.plan m).1) := by
            show _ = _
            exact EV0.out
          rw [EV.out]
          obtain ⟨sm, hsm⟩ : ∃ z, (tbF g P.plan m).1 = z := ⟨_, rfl⟩
          rw [hsm] at HU3 ⊢
          have E := HU3.out
          subst E
          clear hsm EV
          have r0 := R4.out.cell 0 rfl
          have r1 := R4.out.cell 1 rfl
          have f0 := R4.out.free 0
          have f1 := R4.out.free 1
          go_wp2_with fail
          exact bodyPost_ret (v := .agg #[.int .i64 0, .int .i64 (bs + sm)]) (by simp [results, Tryd.results7, go_sem, r0, r1]) rfl ⟨rfl, ((B4.out).setCell (by have := HSs.out; show w.heap.size ≤ s + 1; omega) _).setCell (by have := HSs.out; show w.heap.size ≤ s + 1; omega) _⟩
      · have hJ : ¬ (j : Int) < (n3 : Int) := by omega
        have HJ : Hid (j = n3) := by show _ = _; omega
        clear hlt
        have EV : Hid ((tbF g (P.plan.take j) m).1 = (tbF g P.plan m).1) := by
          show _ = _
          rw [List.take_of_length_le (by have := HL3.out; have := HJ.out; omega)]
        rw [EV.out]
        obtain ⟨sm, hsm⟩ : ∃ z, (tbF g P.plan m).1 = z := ⟨_, rfl⟩
        rw [hsm] at HU3 ⊢
        have E := HU3.out
        subst E
        clear hsm EV
        have r0 := R4.out.cell 0 rfl
        have r1 := R4.out.cell 1 rfl
        have f0 := R4.out.free 0
        have f1 := R4.out.free 1
        go_wp2_with fail
        exact bodyPost_ret (v := .agg #[.int .i64 0, .int .i64 (bs + sm)]) (by simp [results, Tryd.results7, go_sem, r0, r1]) rfl ⟨rfl, ((B4.out).setCell (by have := HSs.out; show w.heap.size ≤ s + 1; omega) _).setCell (by have := HSs.out; show w.heap.size ≤ s + 1; omega) _⟩
  · have HU2 : Hid ((ckV P c, (0 : Int)) = U) := by
      show _ = _
      rw [← HU.out, tbR, if_neg (by rw [tbC, if_neg hz]; exact hz), tbC, if_neg hz]
    generalize hv : ckV P c = v at *
    have E := HU2.out
    subst E
    have r0 := R1.out.cell 0 rfl
    have r1 := R1.out.cell 1 rfl
    have f0 := R1.out.free 0
    have f1 := R1.out.free 1
    go_wp2_with fail
    exact bodyPost_ret (v := .agg #[.int .i64 v, .int .i64 0]) (by simp [results, Tryd.results7, go_sem, r0, r1]) rfl ⟨rfl, ((B1.out).setCell (by have := HSs.out; show w.heap.size ≤ s + 1; omega) _).setCell (by have := HSs.out; show w.heap.size ≤ s + 1; omega) _⟩
end Go.Proofs.YteilidnlfocnaaaDoor
