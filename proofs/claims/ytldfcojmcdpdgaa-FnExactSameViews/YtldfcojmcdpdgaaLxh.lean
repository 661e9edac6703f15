/- The listing of a great region. -/
import Derived.Test.YtldfcojmcdpdgaaLxha
import Derived.Test.YtldfcojmcdpdgaaLxhb
import Derived.Test.YtldfcojmcdpdgaaLxhc
import Derived.Test.YtldfcojmcdpdgaaLxhd
import Derived.Test.YtldfcojmcdpdgaaLxhe
import Derived.Test.YtldfcojmcdpdgaaLxhf
import Derived.Test.YtldfcojmcdpdgaaLxhg
import Derived.Test.YtldfcojmcdpdgaaLxhh
import Derived.Test.YtldfcojmcdpdgaaLxhi
import Derived.Test.YtldfcojmcdpdgaaLxhj
import Derived.Test.YtldfcojmcdpdgaaLxhk
import Derived.Test.YtldfcojmcdpdgaaLxhl
import Derived.Test.YtldfcojmcdpdgaaLxhm
import Derived.Test.YtldfcojmcdpdgaaLxhn
namespace Go.Proofs.Ytldfcojmcdpdgaa
open Go.RowKit
set_option linter.unusedVariables false

theorem lxLxhEnd : Region.lexFrom .any (regOps 1 (Try.f20.body.getD .skip)).toArray 0 98 (setAll 98 0 (Array.replicate 98 false)) = true := by kernel_rfl
theorem hlLxh13 : setAll 7 91 (setAll 91 0 (Array.replicate 98 false)) = (setAll 98 0 (Array.replicate 98 false)) := by kernel_rfl
theorem lyLxh13 : Region.lexFrom .any (regOps 1 (Try.f20.body.getD .skip)).toArray 7 91 (setAll 91 0 (Array.replicate 98 false)) = true := lex_at 0 7 91 (setAll 91 0 (Array.replicate 98 false)) (setAll 98 0 (Array.replicate 98 false)) 7 98 rfl rfl hlLxh13 lxLxh13 lxLxhEnd
theorem hlLxh12 : setAll 7 84 (setAll 84 0 (Array.replicate 98 false)) = (setAll 91 0 (Array.replicate 98 false)) := by kernel_rfl
theorem lyLxh12 : Region.lexFrom .any (regOps 1 (Try.f20.body.getD .skip)).toArray 14 84 (setAll 84 0 (Array.replicate 98 false)) = true := lex_at 7 7 84 (setAll 84 0 (Array.replicate 98 false)) (setAll 91 0 (Array.replicate 98 false)) 14 91 rfl rfl hlLxh12 lxLxh12 lyLxh13
theorem hlLxh11 : setAll 7 77 (setAll 77 0 (Array.replicate 98 false)) = (setAll 84 0 (Array.replicate 98 false)) := by kernel_rfl
theorem lyLxh11 : Region.lexFrom .any (regOps 1 (Try.f20.body.getD .skip)).toArray 21 77 (setAll 77 0 (Array.replicate 98 false)) = true := lex_at 14 7 77 (setAll 77 0 (Array.replicate 98 false)) (setAll 84 0 (Array.replicate 98 false)) 21 84 rfl rfl hlLxh11 lxLxh11 lyLxh12
theorem hlLxh10 : setAll 7 70 (setAll 70 0 (Array.replicate 98 false)) = (setAll 77 0 (Array.replicate 98 false)) := by kernel_rfl
theorem lyLxh10 : Region.lexFrom .any (regOps 1 (Try.f20.body.getD .skip)).toArray 28 70 (setAll 70 0 (Array.replicate 98 false)) = true := lex_at 21 7 70 (setAll 70 0 (Array.replicate 98 false)) (setAll 77 0 (Array.replicate 98 false)) 28 77 rfl rfl hlLxh10 lxLxh10 lyLxh11
theorem hlLxh9 : setAll 7 63 (setAll 63 0 (Array.replicate 98 false)) = (setAll 70 0 (Array.replicate 98 false)) := by kernel_rfl
theorem lyLxh9 : Region.lexFrom .any (regOps 1 (Try.f20.body.getD .skip)).toArray 35 63 (setAll 63 0 (Array.replicate 98 false)) = true := lex_at 28 7 63 (setAll 63 0 (Array.replicate 98 false)) (setAll 70 0 (Array.replicate 98 false)) 35 70 rfl rfl hlLxh9 lxLxh9 lyLxh10
theorem hlLxh8 : setAll 7 56 (setAll 56 0 (Array.replicate 98 false)) = (setAll 63 0 (Array.replicate 98 false)) := by kernel_rfl
theorem lyLxh8 : Region.lexFrom .any (regOps 1 (Try.f20.body.getD .skip)).toArray 42 56 (setAll 56 0 (Array.replicate 98 false)) = true := lex_at 35 7 56 (setAll 56 0 (Array.replicate 98 false)) (setAll 63 0 (Array.replicate 98 false)) 42 63 rfl rfl hlLxh8 lxLxh8 lyLxh9
theorem hlLxh7 : setAll 7 49 (setAll 49 0 (Array.replicate 98 false)) = (setAll 56 0 (Array.replicate 98 false)) := by kernel_rfl
theorem lyLxh7 : Region.lexFrom .any (regOps 1 (Try.f20.body.getD .skip)).toArray 49 49 (setAll 49 0 (Array.replicate 98 false)) = true := lex_at 42 7 49 (setAll 49 0 (Array.replicate 98 false)) (setAll 56 0 (Array.replicate 98 false)) 49 56 rfl rfl hlLxh7 lxLxh7 lyLxh8
theorem hlLxh6 : setAll 7 42 (setAll 42 0 (Array.replicate 98 false)) = (setAll 49 0 (Array.replicate 98 false)) := by kernel_rfl
theorem lyLxh6 : Region.lexFrom .any (regOps 1 (Try.f20.body.getD .skip)).toArray 56 42 (setAll 42 0 (Array.replicate 98 false)) = true := lex_at 49 7 42 (setAll 42 0 (Array.replicate 98 false)) (setAll 49 0 (Array.replicate 98 false)) 56 49 rfl rfl hlLxh6 lxLxh6 lyLxh7
theorem hlLxh5 : setAll 7 35 (setAll 35 0 (Array.replicate 98 false)) = (setAll 42 0 (Array.replicate 98 false)) := by kernel_rfl
theorem lyLxh5 : Region.lexFrom .any (regOps 1 (Try.f20.body.getD .skip)).toArray 63 35 (setAll 35 0 (Array.replicate 98 false)) = true := lex_at 56 7 35 (setAll 35 0 (Array.replicate 98 false)) (setAll 42 0 (Array.replicate 98 false)) 63 42 rfl rfl hlLxh5 lxLxh5 lyLxh6
theorem hlLxh4 : setAll 7 28 (setAll 28 0 (Array.replicate 98 false)) = (setAll 35 0 (Array.replicate 98 false)) := by kernel_rfl
theorem lyLxh4 : Region.lexFrom .any (regOps 1 (Try.f20.body.getD .skip)).toArray 70 28 (setAll 28 0 (Array.replicate 98 false)) = true := lex_at 63 7 28 (setAll 28 0 (Array.replicate 98 false)) (setAll 35 0 (Array.replicate 98 false)) 70 35 rfl rfl hlLxh4 lxLxh4 lyLxh5
theorem hlLxh3 : setAll 7 21 (setAll 21 0 (Array.replicate 98 false)) = (setAll 28 0 (Array.replicate 98 false)) := by kernel_rfl
theorem lyLxh3 : Region.lexFrom .any (regOps 1 (Try.f20.body.getD .skip)).toArray 77 21 (setAll 21 0 (Array.replicate 98 false)) = true := lex_at 70 7 21 (setAll 21 0 (Array.replicate 98 false)) (setAll 28 0 (Array.replicate 98 false)) 77 28 rfl rfl hlLxh3 lxLxh3 lyLxh4
theorem hlLxh2 : setAll 7 14 (setAll 14 0 (Array.replicate 98 false)) = (setAll 21 0 (Array.replicate 98 false)) := by kernel_rfl
theorem lyLxh2 : Region.lexFrom .any (regOps 1 (Try.f20.body.getD .skip)).toArray 84 14 (setAll 14 0 (Array.replicate 98 false)) = true := lex_at 77 7 14 (setAll 14 0 (Array.replicate 98 false)) (setAll 21 0 (Array.replicate 98 false)) 84 21 rfl rfl hlLxh2 lxLxh2 lyLxh3
theorem hlLxh1 : setAll 7 7 (setAll 7 0 (Array.replicate 98 false)) = (setAll 14 0 (Array.replicate 98 false)) := by kernel_rfl
theorem lyLxh1 : Region.lexFrom .any (regOps 1 (Try.f20.body.getD .skip)).toArray 91 7 (setAll 7 0 (Array.replicate 98 false)) = true := lex_at 84 7 7 (setAll 7 0 (Array.replicate 98 false)) (setAll 14 0 (Array.replicate 98 false)) 91 14 rfl rfl hlLxh1 lxLxh1 lyLxh2
theorem hlLxh0 : setAll 7 0 (Array.replicate 98 false) = (setAll 7 0 (Array.replicate 98 false)) := by kernel_rfl
theorem lyLxh0 : Region.lexFrom .any (regOps 1 (Try.f20.body.getD .skip)).toArray 98 0 (Array.replicate 98 false) = true := lex_at 91 7 0 (Array.replicate 98 false) (setAll 7 0 (Array.replicate 98 false)) 98 7 rfl rfl hlLxh0 lxLxh0 lyLxh1
theorem nsLxh : Region.noSelect (regOps 1 (Try.f20.body.getD .skip)).toArray = true := by kernel_rfl
theorem szLxh : (regOps 1 (Try.f20.body.getD .skip)).toArray.size = 98 := by kernel_rfl
theorem LxhLex : Region.lexB .any (regOps 1 (Try.f20.body.getD .skip)).toArray = true := lexB_of nsLxh szLxh lyLxh0
end Go.Proofs.Ytldfcojmcdpdgaa
