/- Chapter 2's words read back. -/
import Derived.Test.YtmddpomibogfcaaIsd
import Derived.Test.YtmddpomibogfcaaCells
import Derived.Deep.RegionWith
namespace Go.Proofs.Ytmddpomibogfcaa
open Go.RowKit

theorem and15 (x : Int) : bits BinOp.and .i64 x 15 = x % 16 := by
  have h1 : (BitVec.ofInt 64 x).toNat = (x % 2 ^ 64).toNat := BitVec.toNat_ofInt ..
  have h2 : (BitVec.ofInt 64 15).toNat = 2 ^ 4 - 1 := by decide
  show IntKind.i64.wrap ((BitVec.ofInt 64 x &&& BitVec.ofInt 64 15).toNat : Int) = _
  rw [BitVec.toNat_and, h1, h2, Nat.and_two_pow_sub_one_eq_mod, IntKind.wrap_i64]
  omega
theorem and65535 (x : Int) : bits BinOp.and .i64 x 65535 = x % 65536 := by
  have h1 : (BitVec.ofInt 64 x).toNat = (x % 2 ^ 64).toNat := BitVec.toNat_ofInt ..
  have h2 : (BitVec.ofInt 64 65535).toNat = 2 ^ 16 - 1 := by decide
  show IntKind.i64.wrap ((BitVec.ofInt 64 x &&& BitVec.ofInt 64 65535).toNat : Int) = _
  rw [BitVec.toNat_and, h1, h2, Nat.and_two_pow_sub_one_eq_mod, IntKind.wrap_i64]
  omega

/-- The fault of the instruction that a number's bits tell. -/
def decF (v : Int) : Int := insC (v / 16777216) (v / 1048576 % 16) (v / 65536 % 16) (v % 65536)
theorem dec_back {v : Int} (h : decF v = 0) : encV (v / 16777216) (v / 1048576 % 16) (v / 65536 % 16) (v % 65536) = v := by
  have h' := h
  unfold decF at h'
  rw [encV, if_pos h']
  omega
theorem dec_in {v : Int} (h : decF v = 0) : 0 ≤ v ∧ v ≤ 4294967295 := by
  have := insC_bounds h
  omega
/-- What DecodeIns answers. -/
def decV (v : Int) : Value := if decF v = 0 then .agg #[.int .i64 0, .int .i64 (v / 16777216), .int .i64 (v / 1048576 % 16), .int .i64 (v / 65536 % 16), .int .i64 (v % 65536)] else .agg #[.int .i64 5, .int .i64 0, .int .i64 0, .int .i64 0, .int .i64 0]

end Go.Proofs.Ytmddpomibogfcaa
