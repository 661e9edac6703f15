/- Numbers of a machine that are got, of both. -/
import Derived.Test.YtaajaikpkcgalaaDoorHpe
import Derived.Test.YtaajaikpkcgalaaDoorHfi
import Derived.Test.YtaajaikpkcgalaaDoorHfs
namespace Go.Proofs.YtaajaikpkcgalaaDoor
open Go.RowKit
set_option linter.unusedVariables false

theorem mca_at (H : Ht) (i o : Value) (n : Nat) (hn : n < 11) : (mca H i o)[17 + n]? = some (.int .i64 (gt H.csr n)) := by
  have e : n = 0 ∨ n = 1 ∨ n = 2 ∨ n = 3 ∨ n = 4 ∨ n = 5 ∨ n = 6 ∨ n = 7 ∨ n = 8 ∨ n = 9 ∨ n = 10 := by omega
  rcases e with rfl | rfl | rfl | rfl | rfl | rfl | rfl | rfl | rfl | rfl | rfl <;> rfl
theorem getV_at (H : Ht) (n : Nat) (h6 : n ≠ 6) (h8 : n ≠ 8) : getV H (n : Int) = gt H.csr n := by
  unfold getV
  rw [if_neg (by omega), if_neg (by omega)]
  rfl

set_option maxRecDepth 20000 in
set_option maxHeartbeats 4000000 in
theorem i_get (m : Nat) (i o : Value) (H : Ht) (k : Int) (b : Nat) (w : World) (hv : Vb w m (mca H i o) 56) (hi : Nums w b i H.inn) (h0 : 0 ≤ k) (h10 : k ≤ 10) :
    Calls Tryd.prog 37 #[.pointer (some ⟨m, 0, none⟩), .int .i64 k] w fun e w' => e = .returned (.int .i64 (getV H k)) ∧ w' = w := by
  by_cases h6 : k = 6
  · subst h6
    have HV : Hid (Vb w m (mca H i o) 56) := hv
    have HI : Hid (Nums w b i H.inn) := hi
    clear hv hi
    go_enter Tryd.func37, Tryd.ntmps37
    go_wp2_with (go_at_call 50; refine (i_pending m i o H b _ HV.out HI.out).mono ?_; rintro e x ⟨rfl, rfl⟩)
    go_ret
    exact ⟨rfl, rfl⟩
  by_cases h8 : k = 8
  · subst h8
    have c8 : w.cell? ⟨m, 31, none⟩ = some (.int .i64 H.done) := hv.cell 31 rfl
    clear hv hi
    go_enter Tryd.func37, Tryd.ntmps37
    go_wp2_with fail
    go_ret
    exact ⟨rfl, rfl⟩
  obtain ⟨n, rfl⟩ : ∃ n : Nat, k = n := ⟨k.toNat, by omega⟩
  have cn : w.cell? ⟨m, 17 + n, none⟩ = some (.int .i64 (gt H.csr n)) := hv.cell (17 + n) (mca_at H i o n (by omega))
  have HG : Hid (getV H (n : Int) = gt H.csr n) := getV_at H n (by omega) (by omega)
  clear hv hi
  go_enter Tryd.func37, Tryd.ntmps37
  go_wp2_with fail
  go_ret
  exact ⟨ret_i HG.out.symm, rfl⟩

end Go.Proofs.YtaajaikpkcgalaaDoor
