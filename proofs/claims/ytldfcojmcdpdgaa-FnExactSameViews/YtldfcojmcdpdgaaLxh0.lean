/- A great region, taken out of its function. -/
import Derived.Test.YtldfcojmcdpdgaaNums
import Derived.Deep.QuietTactic
namespace Go.Proofs.Ytldfcojmcdpdgaa
open Go.RowKit
set_option linter.unusedVariables false

def regOps (n : Nat) : Code → List Oper
  | .region i ops _ => if i = n then ops.toList else []
  | .seq a b => regOps n a ++ regOps n b
  | .block _ b => regOps n b
  | .loop b => regOps n b
  | .scope b => regOps n b
  | _ => []
/-- So many steps of the listing. -/
def lexPart (md : Region.Mode) (ops : Array Oper) : Nat → Nat → Array Bool → Bool
  | 0, _, _ => true
  | n + 1, k, listed => (Region.ready md ops listed).contains k && Region.free md ops listed k && lexPart md ops n (k + 1) (listed.setIfInBounds k true)
def setAll : Nat → Nat → Array Bool → Array Bool
  | 0, _, l => l
  | n + 1, k, l => setAll n (k + 1) (l.setIfInBounds k true)
theorem lex_join {md : Region.Mode} {ops : Array Oper} (m : Nat) : ∀ (n k : Nat) (l : Array Bool), lexPart md ops n k l = true → Region.lexFrom md ops m (k + n) (setAll n k l) = true → Region.lexFrom md ops (n + m) k l = true
  | 0, k, l, _, h => by rw [Nat.zero_add]; exact h
  | n + 1, k, l, h1, h2 => by
    simp only [lexPart, Bool.and_eq_true] at h1
    rw [show n + 1 + m = (n + m) + 1 by omega, Region.lexFrom, h1.1.1, h1.1.2]
    simp only [Bool.true_and]
    exact lex_join m n (k + 1) _ h1.2 (by rw [show k + 1 + n = k + (n + 1) by omega]; exact h2)
theorem lex_at {md : Region.Mode} {ops : Array Oper} (m n k : Nat) (l l' : Array Bool) (f k' : Nat) (hf : f = n + m) (hk : k' = k + n) (hl : setAll n k l = l') (h1 : lexPart md ops n k l = true) (h2 : Region.lexFrom md ops m k' l' = true) : Region.lexFrom md ops f k l = true := by
  subst hf hk hl
  exact lex_join m n k l h1 h2
theorem lexB_of {ops : Array Oper} {c : Nat} (h1 : Region.noSelect ops = true) (h2 : ops.size = c) (h : Region.lexFrom .any ops c 0 (Array.replicate c false) = true) : Region.lexB .any ops = true := by
  unfold Region.lexB
  rw [h1, h2, h]
  rfl
end Go.Proofs.Ytldfcojmcdpdgaa
