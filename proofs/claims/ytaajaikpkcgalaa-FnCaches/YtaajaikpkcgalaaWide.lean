/- Draws of words and of wider numbers, and the source that they begin with. -/
import Derived.Test.YtaajaikpkcgalaaSource
namespace Go.Proofs.Ytaajaikpkcgalaa
open Go.RowKit

theorem source_any {w : World} {a : Option Addr} {len cap : Nat} {zs : List Int} (hr : IsRow .u8 w a len cap zs) :
    Calls Try.prog 14 #[.slice a len cap] w fun e w' => e = .returned (.pointer (some ⟨w.heap.size, 0, none⟩)) ∧ Below w.heap.size w w' ∧ Src w' w.heap.size 0 a len cap zs := by
  have HR : Hid (IsRow .u8 w a len cap zs) := hr
  clear hr
  go_enter Try.func14, Try.ntmps14
  go_wp2
  go_ret
  refine ⟨rfl, (Below.refl _ _).alloc (Nat.le_refl _) _, cell_new rfl, cell_new rfl, ?_, HR.out.turn (Turn.alloc w.heap.size w _) HR.out.block (Nat.le_refl _), HR.out.block, by simp⟩
  simp [go_sem]

def isWord (v : Int) : Prop := 0 ≤ v ∧ v ≤ 4294967295
def isWide (v : Int) : Prop := -9223372036854775808 ≤ v ∧ v ≤ 9223372036854775807

theorem chance_any {w : World} {b k : Nat} {a : Option Addr} {len cap : Nat} {zs : List Int} (s : Src w b k a len cap zs) (hk : k ≤ 100000) (n : Int) :
    Calls Try.prog 38 #[.pointer (some ⟨b, 0, none⟩), .int .i64 n] w fun e w' => ∃ v : Bool, e = .returned (.bool v) ∧ Turn b w w' ∧ Src w' b (k + 1) a len cap zs := by
  go_enter Try.func38, Try.ntmps38
  go_wp2_with fail
  refine (next_any s (by omega) _).mono ?_
  rintro e w1 ⟨v1, rfl, -, -, t1, s1⟩
  go_wp2
  go_ret
  exact ⟨_, rfl, t1, s1⟩

end Go.Proofs.Ytaajaikpkcgalaa
