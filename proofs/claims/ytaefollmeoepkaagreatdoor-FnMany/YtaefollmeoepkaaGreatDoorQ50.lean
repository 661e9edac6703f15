/- Texts of this seat, joined. -/
import Derived.Test.YtaefollmeoepkaaGreatDoorQ47
import Derived.Test.YtaefollmeoepkaaGreatDoorQ48
namespace Go.Proofs.YtaefollmeoepkaaGreatDoor
open Go.RowKit
set_option linter.unusedVariables false
theorem sp_many_code (r c i o : Value) (H : Ht) (pa : Option Addr) (pn pc : Nat) (ps : List (Int × Int)) (ma : Option Addr) (mn mc : Nat) (zs : List Int) (n : Int) (b : Nat) (w : World) (h : Hm w b r c i o H) (hP : Prs 36 w b (.slice pa pn pc) ps) (hl : ps.length ≤ 1048576) (hM : Nums w b (.slice ma mn mc) zs) (hm : zs.length ≤ 1048576) (hn : ¬ (smV H ps zs n).code = 0) :
    Calls Tryz.prog 14 #[.agg #[r, .int .i64 H.pc, c, .bool H.halted, .bool H.waiting, .bool H.rung, .int .i64 H.done, i, o], .slice pa pn pc, .slice ma mn mc, .int .i64 n] w fun e w' => ∃ ca ri r' c' i' o' m', ∃ G : Ht, e = .returned (.agg #[.int .i64 (smV H ps zs n).code, .int .i64 ca, .int .i64 ri, r', .int .i64 G.pc, c', .bool G.halted, .bool G.waiting, .bool G.rung, .int .i64 G.done, i', o', m']) ∧ Below w.heap.size w w' := by
  by_cases hf : seenC H ps zs = 0
  · by_cases hr : 0 ≤ n ∧ n ≤ 500
    · exact absurd (by rw [smV_good hf hr.1 hr.2]) hn
    · refine (sm_range r c i o H pa pn pc ps ma mn mc zs n b w h hP hl hM hm hf hr).mono ?_
      rintro e w' ⟨r', c', i', o', m', rfl, -, hb⟩
      exact ⟨_, _, r', c', i', o', m', _, rfl, hb⟩
  · refine (sm_bad r c i o H pa pn pc ps ma mn mc zs n b w h hP hl hM hm hf).mono ?_
    rintro e w' ⟨r', c', i', o', m', rfl, -, hb⟩
    exact ⟨_, _, r', c', i', o', m', _, rfl, hb⟩
end Go.Proofs.YtaefollmeoepkaaGreatDoor
