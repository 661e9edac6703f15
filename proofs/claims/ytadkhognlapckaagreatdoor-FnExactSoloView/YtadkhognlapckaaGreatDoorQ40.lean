/- Texts of this seat, joined. -/
import Derived.Test.YtadkhognlapckaaGreatDoorQ34
import Derived.Test.YtadkhognlapckaaGreatDoorQ37
namespace Go.Proofs.YtadkhognlapckaaGreatDoor
open Go.RowKit
set_option linter.unusedVariables false

set_option maxRecDepth 20000 in
set_option maxHeartbeats 8000000 in
theorem sz_soloK (K : Int) (hK : 0 ≤ K ∧ K ≤ 1048576) (a0 a1 a2 a3 : Option Addr) (n0 c0 n1 c1 n2 c2 n3 c3 : Nat) (H : Ht) (la : Option Addr) (ln lc : Nat) (ps : List (Int × Int)) (ma : Option Addr) (mn mc : Nat) (zs : List Int) (w : World) (h : Hin w a0 n0 c0 a1 n1 c1 a2 n2 c2 a3 n3 c3 H) (hp : IsPairs w la ln lc ps) (hz : IsRow .i64 w ma mn mc zs) :
    Calls Tryz.prog 5 #[.agg #[.slice a0 n0 c0, .int .i64 H.pc, .slice a1 n1 c1, .bool H.halted, .bool H.waiting, .bool H.rung, .int .i64 H.done, .slice a2 n2 c2, .slice a3 n3 c3, .slice la ln lc, .slice ma mn mc], .int .i64 K] w fun e w' => (∃ r : Int, e = .returned (.int .i64 r) ∧ (0 ≤ r → Hs n0 n1 n2 n3 ∧ ln ≤ 1048576 ∧ mn ≤ 1048576)) ∧ Below w.heap.size w w' := by
  have LP : Hid (ln ≤ 9223372036854775807) := hp.max2
  have LM : Hid (mn ≤ 9223372036854775807) := hz.ln.2
  generalize hW : w.alloc (.cells #[.slice a0 n0 c0, .int .i64 H.pc, .slice a1 n1 c1, .bool H.halted, .bool H.waiting, .bool H.rung, .int .i64 H.done, .slice a2 n2 c2, .slice a3 n3 c3, .slice la ln lc, .slice ma mn mc] 33) = W
  have B0 : Hid (Below w.heap.size w W) := by show Below _ _ _; rw [← hW]; exact al (Below.refl _ _) _
  obtain ⟨s, hS⟩ : ∃ s, w.heap.size = s := ⟨_, rfl⟩
  have Q : Hid (Vb W s #[.slice a0 n0 c0, .int .i64 H.pc, .slice a1 n1 c1, .bool H.halted, .bool H.waiting, .bool H.rung, .int .i64 H.done, .slice a2 n2 c2, .slice a3 n3 c3, .slice la ln lc, .slice ma mn mc] 33) := by
    show Vb _ _ _ _
    rw [← hW, ← hS]
    exact Vb.new _ _ _
  have HP : Hid (Hin W a0 n0 c0 a1 n1 c1 a2 n2 c2 a3 n3 c3 H) := h.stay B0.out
  clear h hp hz
  have HKK : Hid (0 ≤ K ∧ K ≤ 1048576) := hK
  clear hK
  have q0 := Q.out.cell 0 rfl
  have q1 := Q.out.cell 1 rfl
  have q2 := Q.out.cell 2 rfl
  have q3 := Q.out.cell 3 rfl
  have q4 := Q.out.cell 4 rfl
  have q5 := Q.out.cell 5 rfl
  have q6 := Q.out.cell 6 rfl
  have q7 := Q.out.cell 7 rfl
  have q8 := Q.out.cell 8 rfl
  have q9 := Q.out.cell 9 rfl
  have q10 := Q.out.cell 10 rfl
  go_enter Tryz.func5, Tryz.ntmps5
  go_wp2_with fail
  clear hW hS
  refine (sz_hartK K HKK.out _ _ _ _ _ _ _ _ _ _ _ _ H _ HP.out).mono ?_
  rintro e w1 ⟨⟨r, rfl, hr, hs⟩, b1⟩
  have B1 : Hid (Below w.heap.size w w1) := on B0.out b1
  have Q1 : Hid (Vb w1 s #[.slice a0 n0 c0, .int .i64 H.pc, .slice a1 n1 c1, .bool H.halted, .bool H.waiting, .bool H.rung, .int .i64 H.done, .slice a2 n2 c2, .slice a3 n3 c3, .slice la ln lc, .slice ma mn mc] 33) := Q.out.keep b1
  clear q0 q1 q2 q3 q4 q5 q6 q7 q8 q9 q10 b1
  by_cases hneg : r < 0
  · go_wp2_with fail
    go_ret
    exact ⟨⟨-1, rfl, fun h => by omega⟩, B1.out⟩
  have SM : Hid (Hs n0 n1 n2 n3) := hs (by omega)
  have HR : Hid (0 ≤ r ∧ r ≤ 1048576) := ⟨by omega, by have := HKK.out; omega⟩
  have q9 := Q1.out.cell 9 rfl
  have q10 := Q1.out.cell 10 rfl
  clear hs hr
  by_cases h1 : r - ln < 0
  · have H1 : Hid (r - ln < 0) := h1
    clear h1
    go_wp2_with fail
    refine (sz_prs _ _ _ _ _ LP.out HR.out.1 HR.out.2).mono ?_
    rintro e w2 ⟨rfl, rfl⟩
    rw [if_pos H1.out]
    go_wp2_with fail
    go_ret
    exact ⟨⟨-1, rfl, fun h => by omega⟩, B1.out⟩
  have H1 : Hid (¬ r - ln < 0) := h1
  obtain ⟨r1, hr1⟩ : ∃ r1 : Int, r - ln = r1 := ⟨_, rfl⟩
  have K1 : Hid (r - ln = r1) := hr1
  have E1 : Hid (0 ≤ r1 ∧ r1 ≤ 1048576) := ⟨by omega, by have := HR.out; omega⟩
  have e1 : 0 ≤ r1 := E1.out.1
  have LL : Hid (ln ≤ 1048576) := by show _ ≤ _; have := HR.out; omega
  clear h1 hr1
  by_cases h2 : r1 - mn < 0
  · have H2 : Hid (r1 - mn < 0) := h2
    clear h2
    go_wp2_with fail
    refine (sz_prs _ _ _ _ _ LP.out HR.out.1 HR.out.2).mono ?_
    rintro e w2 ⟨rfl, rfl⟩
    rw [if_neg (by have := H1.out; omega), K1.out]
    go_wp2_with fail
    refine (szn _ _ _ _ _ LM.out E1.out.1 E1.out.2).mono ?_
    rintro e w2 ⟨rfl, rfl⟩
    rw [if_pos H2.out]
    go_wp2_with fail
    go_ret
    exact ⟨⟨-1, rfl, fun h => by omega⟩, B1.out⟩
  have H2 : Hid (¬ r1 - mn < 0) := h2
  obtain ⟨r2, hr2⟩ : ∃ r2 : Int, r1 - mn = r2 := ⟨_, rfl⟩
  have K2 : Hid (r1 - mn = r2) := hr2
  have e2 : 0 ≤ r2 := by omega
  have MM : Hid (mn ≤ 1048576) := by show _ ≤ _; have := E1.out; omega
  clear h2 hr2
  go_wp2_with fail
  refine (sz_prs _ _ _ _ _ LP.out HR.out.1 HR.out.2).mono ?_
  rintro e w2 ⟨rfl, rfl⟩
  rw [if_neg (by have := H1.out; omega), K1.out]
  go_wp2_with fail
  refine (szn _ _ _ _ _ LM.out E1.out.1 E1.out.2).mono ?_
  rintro e w2 ⟨rfl, rfl⟩
  rw [if_neg (by have := H2.out; omega), K2.out]
  go_wp2_with fail
  go_ret
  exact ⟨⟨r2, rfl, fun _ => ⟨SM.out, LL.out, MM.out⟩⟩, B1.out⟩
end Go.Proofs.YtadkhognlapckaaGreatDoor
