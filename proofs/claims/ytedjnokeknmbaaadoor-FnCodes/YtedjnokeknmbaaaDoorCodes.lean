/- What FnCodes asks besides its draws. -/
import Derived.Test.YtedjnokeknmbaaaDoorCdraws
import Derived.Test.YtedjnokeknmbaaaDoorIse
import Derived.Test.YtedjnokeknmbaaaDoorTextz
import Derived.Deep.RegionWith
namespace Go.Proofs.YtedjnokeknmbaaaDoor
open Go.RowKit
set_option linter.unusedVariables false

theorem dec_enc {o d x i : Int} (h : insC o d x i = 0) : decV (encV o d x i) = .agg #[.int .i64 0, .int .i64 o, .int .i64 d, .int .i64 x, .int .i64 i] := by
  have hb := insC_bounds h
  have e0 : encV o d x i = o * 16777216 + d * 1048576 + x * 65536 + i := if_pos h
  rw [e0]
  have e1 : (o * 16777216 + d * 1048576 + x * 65536 + i) / 16777216 = o := by omega
  have e2 : (o * 16777216 + d * 1048576 + x * 65536 + i) / 1048576 % 16 = d := by omega
  have e3 : (o * 16777216 + d * 1048576 + x * 65536 + i) / 65536 % 16 = x := by omega
  have e4 : (o * 16777216 + d * 1048576 + x * 65536 + i) % 65536 = i := by omega
  unfold decV decF
  rw [e1, e2, e3, e4, if_pos h]

theorem size_append (s t : ByteArray) : (s ++ t).size = s.size + t.size := ByteArray.size_append
theorem told_size (s t : ByteArray) (b : Bool) : s.size ≤ (told s b t).size := by
  unfold told
  split
  · exact Nat.le_refl _
  · rw [size_append, size_append]; omega
theorem nm_pos (k : Nat) (h1 : 1 ≤ k) (h2 : k ≤ 26) : 0 < (nm k).size := by
  have : ∀ k : Fin 27, 1 ≤ k.val → 0 < (nm k.val).size := by decide
  exact this ⟨k, by omega⟩ h1
theorem insS_pos {o d x i : Int} (h : insC o d x i = 0) : 0 < (insS o d x i).size := by
  have hb := insC_bounds h
  rw [insS, if_pos h]
  have h1 := nm_pos o.toNat (by omega) (by omega)
  unfold insT
  exact Nat.lt_of_lt_of_le h1 (Nat.le_trans (told_size _ _ _) (Nat.le_trans (told_size _ _ _) (told_size _ _ _)))

theorem offset_any (n : Int) (w : World) : Calls Tryd.prog 13 #[.int .i64 n] w fun e w' => ∃ v : Int, e = .returned (.int .i64 v) ∧ -32768 ≤ v ∧ v ≤ 32767 ∧ w' = w := by
  go_enter Tryd.func13, Tryd.ntmps13
  go_wp2
  all_goals go_ret
  all_goals refine ⟨_, rfl, ?_, ?_, rfl⟩
  all_goals simp [IntKind.wrap, IntKind.bits, IntKind.signed]
  all_goals unfold wrap64
  all_goals split <;> omega

theorem field_tcode (x y : Value) (w : World) : (Instr.field 36 (.agg #[x, y]) 0).run Tryd.prog w = .ok x w := by kernel_rfl
theorem field_ttext (x y : Value) (w : World) : (Instr.field 36 (.agg #[x, y]) 1).run Tryd.prog w = .ok y w := by kernel_rfl
theorem field_icode (x0 x1 x2 x3 x4 : Value) (w : World) : (Instr.field 28 (.agg #[x0, x1, x2, x3, x4]) 0).run Tryd.prog w = .ok x0 w := by kernel_rfl
end Go.Proofs.YtedjnokeknmbaaaDoor
