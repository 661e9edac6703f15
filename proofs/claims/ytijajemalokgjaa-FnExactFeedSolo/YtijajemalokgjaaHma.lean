/- A program's machine in memory: its cells. -/
import Derived.Test.YtijajemalokgjaaHto
import Derived.Test.YtijajemalokgjaaHfv
import Derived.Deep.RegionHeld3
import Derived.Deep.WholeRow
import Derived.Lib.BufferMore
namespace Go.Proofs.Ytijajemalokgjaa
open Go.RowKit
set_option linter.unusedVariables false

theorem clone_grown {a w w' : World} {base : Nat} {v : Value} {zs : List Int} (h : Below a.heap.size a w) (g : w.grownBy w' v.ownBlock) (n : Nums w base v zs) (hb : a.heap.size ≤ base) : Below a.heap.size a w' := below_of_grown h g n hb
set_option maxRecDepth 20000 in
theorem i_clone (a : Option Addr) (n cap : Nat) (zs : List Int) (w : World) (h : Rn w a n cap zs) (hn : n ≤ 100000000) :
    Calls Try.prog 67 #[.slice a n cap] w fun e w' => ∃ v, e = .returned v ∧ Nums w' w.heap.size v zs ∧ Below w.heap.size w w' := by
  cases a with
  | none =>
    obtain ⟨h1, h2, h3⟩ : n = 0 ∧ cap = 0 ∧ zs = [] := by
      rcases h with ⟨_, h1, h2, h3⟩ | ⟨x, e, _⟩
      · exact ⟨h1, h2, h3⟩
      · cases e
    subst h1 h2 h3
    have hnil : ∀ W, (binOp .eql 22 (.slice none 0 0) (.slice none 0 0)).run Try.prog W = .ok (.bool true) W := fun W => Lib.run_eql_slice_nil_nil W _ _ Try.underlying22
    go_enter Try.func67, Try.ntmps67
    go_wp2_with fail
    go_ret
    exact ⟨_, rfl, Nums.nil _ _, Below.refl _ _⟩
  | some x =>
    have HR : Hid (Rn w (some x) n cap zs) := h
    have HL : Hid (n ≤ 100000000) := hn
    clear h hn
    have hnil : ∀ W, (binOp .eql 22 (.slice (some x) n cap) (.slice none 0 0)).run Try.prog W = .ok (.bool false) W := fun W => Lib.run_eql_slice_some_nil W _ _ _ Try.underlying22
    go_enter Try.func67, Try.ntmps67
    go_wp2_with (at_builtin; refine wp_appx _ rfl _ _ rfl w.heap.size _ [] rfl (nums_none _ _ (Nat.le_refl _)) x n cap zs rfl (HR.out.stay (al (Below.refl _ _) _)) (by have := HL.out; simp; omega) (by simp) ?_; intro v' w' hN' hG')
    have B : Below w.heap.size w w' := below_of_grown (al (Below.refl _ _) _) hG' (nums_none _ _ (Nat.le_refl _)) (Nat.le_refl _)
    go_wp2_with fail
    go_ret
    exact ⟨_, rfl, by simpa using hN', B⟩

/-- A number of a list. -/
def gt (zs : List Int) (j : Nat) : Int := zs.getD j 0
/-- The cells of a machine. -/
def mca (H : Ht) (i o : Value) : Array Value := #[.int .i64 (gt H.regs 0), .int .i64 (gt H.regs 1), .int .i64 (gt H.regs 2), .int .i64 (gt H.regs 3), .int .i64 (gt H.regs 4), .int .i64 (gt H.regs 5), .int .i64 (gt H.regs 6), .int .i64 (gt H.regs 7), .int .i64 (gt H.regs 8), .int .i64 (gt H.regs 9), .int .i64 (gt H.regs 10), .int .i64 (gt H.regs 11), .int .i64 (gt H.regs 12), .int .i64 (gt H.regs 13), .int .i64 (gt H.regs 14), .int .i64 (gt H.regs 15), .int .i64 H.pc, .int .i64 (gt H.csr 0), .int .i64 (gt H.csr 1), .int .i64 (gt H.csr 2), .int .i64 (gt H.csr 3), .int .i64 (gt H.csr 4), .int .i64 (gt H.csr 5), .int .i64 (gt H.csr 6), .int .i64 (gt H.csr 7), .int .i64 (gt H.csr 8), .int .i64 (gt H.csr 9), .int .i64 (gt H.csr 10), .bool H.halted, .bool H.waiting, .bool H.rung, .int .i64 H.done, i, o]
theorem mca_size (H : Ht) (i o : Value) : (mca H i o).size = 34 := rfl
def mcz : Array Value := #[.int .i64 0, .int .i64 0, .int .i64 0, .int .i64 0, .int .i64 0, .int .i64 0, .int .i64 0, .int .i64 0, .int .i64 0, .int .i64 0, .int .i64 0, .int .i64 0, .int .i64 0, .int .i64 0, .int .i64 0, .int .i64 0, .int .i64 0, .int .i64 0, .int .i64 0, .int .i64 0, .int .i64 0, .int .i64 0, .int .i64 0, .int .i64 0, .int .i64 0, .int .i64 0, .int .i64 0, .int .i64 0, .bool false, .bool false, .bool false, .int .i64 0, .slice none 0 0, .slice none 0 0]
theorem mca_lit (H : Ht) (i o : Value) : #[.int .i64 (gt H.regs 0), .int .i64 (gt H.regs 1), .int .i64 (gt H.regs 2), .int .i64 (gt H.regs 3), .int .i64 (gt H.regs 4), .int .i64 (gt H.regs 5), .int .i64 (gt H.regs 6), .int .i64 (gt H.regs 7), .int .i64 (gt H.regs 8), .int .i64 (gt H.regs 9), .int .i64 (gt H.regs 10), .int .i64 (gt H.regs 11), .int .i64 (gt H.regs 12), .int .i64 (gt H.regs 13), .int .i64 (gt H.regs 14), .int .i64 (gt H.regs 15), .int .i64 H.pc, .int .i64 (gt H.csr 0), .int .i64 (gt H.csr 1), .int .i64 (gt H.csr 2), .int .i64 (gt H.csr 3), .int .i64 (gt H.csr 4), .int .i64 (gt H.csr 5), .int .i64 (gt H.csr 6), .int .i64 (gt H.csr 7), .int .i64 (gt H.csr 8), .int .i64 (gt H.csr 9), .int .i64 (gt H.csr 10), .bool H.halted, .bool H.waiting, .bool H.rung, .int .i64 H.done, i, o] = mca H i o := rfl
theorem mcz_lit : #[.int .i64 0, .int .i64 0, .int .i64 0, .int .i64 0, .int .i64 0, .int .i64 0, .int .i64 0, .int .i64 0, .int .i64 0, .int .i64 0, .int .i64 0, .int .i64 0, .int .i64 0, .int .i64 0, .int .i64 0, .int .i64 0, .int .i64 0, .int .i64 0, .int .i64 0, .int .i64 0, .int .i64 0, .int .i64 0, .int .i64 0, .int .i64 0, .int .i64 0, .int .i64 0, .int .i64 0, .int .i64 0, .bool false, .bool false, .bool false, .int .i64 0, .slice none 0 0, .slice none 0 0] = mcz := rfl
theorem mca_one (H : Ht) (i o : Value) (hi : i.oneCell' = true) (ho : o.oneCell' = true) : (mca H i o).all (·.oneCell') = true := by
  have h1 : ∀ z : Int, (Value.int .i64 z).oneCell' = true := fun _ => rfl
  have h2 : ∀ z : Bool, (Value.bool z).oneCell' = true := fun _ => rfl
  simp [mca, h1, h2, hi, ho]
theorem nums_one {w : World} {base : Nat} {v : Value} {zs : List Int} (h : Nums w base v zs) : v.oneCell' = true := by
  obtain ⟨a, cap, rfl, _⟩ := h.shape
  rfl
end Go.Proofs.Ytijajemalokgjaa
