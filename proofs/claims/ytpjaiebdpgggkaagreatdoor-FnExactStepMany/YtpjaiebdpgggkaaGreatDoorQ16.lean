/- Texts of this seat, joined. -/
import Derived.Laws.EntriesVeiled
import Derived.Laws.AppendOwnNone
import Derived.Deep.Cut
import Derived.Test.YtpjaiebdpgggkaaGreatDoorQ03
import Derived.Test.YtpjaiebdpgggkaaGreatDoorQ04
import Derived.Test.YtpjaiebdpgggkaaGreatDoorQ14
import Derived.Test.YtpjaiebdpgggkaaGreatDoorQ15
namespace Go.Proofs.YtpjaiebdpgggkaaGreatDoor
open Go.RowKit

theorem spec_add (a b : Int) (w : World) : Calls Tryz.prog 70 #[.int .i64 a, .int .i64 b] w fun e w' => e = .returned (.int .i64 (addV a b)) ∧ w' = w := by
  go_enter Tryz.func70, Tryz.ntmps70
  go_wp2
  go_ret
  exact ⟨ret_i64 (by unfold addV; simp), rfl⟩
theorem spec_mul (a b : Int) (w : World) : Calls Tryz.prog 106 #[.int .i64 a, .int .i64 b] w fun e w' => e = .returned (.int .i64 (mulV a b)) ∧ w' = w := by
  go_enter Tryz.func106, Tryz.ntmps106
  go_wp2
  go_ret
  exact ⟨ret_i64 (by unfold mulV; rfl), rfl⟩
theorem spec_div (a b : Int) (w : World) : Calls Tryz.prog 107 #[.int .i64 a, .int .i64 b] w fun e w' => e = .returned (.int .i64 (divV a b)) ∧ w' = w := by
  by_cases h : b % 4294967296 = 0
  · have h2 : (b % 4294967296 == 0) = true := by rw [beq_iff_eq]; exact h
    have e : divV a b = 4294967295 := by unfold divV; rw [if_pos h]
    rw [e]
    clear h e
    go_enter Tryz.func107, Tryz.ntmps107
    go_wp2
    go_ret
    exact ⟨rfl, rfl⟩
  · have h2 : (b % 4294967296 == 0) = false := by rw [beq_eq_false_iff_ne]; exact h
    have h3 : ¬ wrap64 (wrap32 (b % 4294967296)) = 0 := fun e => h ((sgn_zero b).1 e)
    have e : divV a b = wrap64 ((sgn a).tdiv (sgn b)) % 4294967296 := by unfold divV; rw [if_neg h]
    rw [e]
    clear h e
    go_enter Tryz.func107, Tryz.ntmps107
    go_wp2
    go_ret
    exact ⟨ret_i64 (by unfold sgn; rfl), rfl⟩
theorem spec_rem (a b : Int) (w : World) : Calls Tryz.prog 108 #[.int .i64 a, .int .i64 b] w fun e w' => e = .returned (.int .i64 (remV a b)) ∧ w' = w := by
  by_cases h : b % 4294967296 = 0
  · have h2 : (b % 4294967296 == 0) = true := by rw [beq_iff_eq]; exact h
    have e : remV a b = a % 4294967296 := by unfold remV; rw [if_pos h]
    rw [e]
    clear h e
    go_enter Tryz.func108, Tryz.ntmps108
    go_wp2
    go_ret
    exact ⟨rfl, rfl⟩
  · have h2 : (b % 4294967296 == 0) = false := by rw [beq_eq_false_iff_ne]; exact h
    have h3 : ¬ wrap64 (wrap32 (b % 4294967296)) = 0 := fun e => h ((sgn_zero b).1 e)
    have e : remV a b = (sgn a).tmod (sgn b) % 4294967296 := by unfold remV; rw [if_neg h]
    rw [e]
    clear h e
    go_enter Tryz.func108, Tryz.ntmps108
    go_wp2
    go_ret
    exact ⟨ret_i64 (by unfold sgn; rfl), rfl⟩
theorem spec_shr (a k : Int) (w : World) : Calls Tryz.prog 110 #[.int .i64 a, .int .i64 k, .bool false] w fun e w' => e = .returned (.int .i64 (shrV a k)) ∧ w' = w := by
  go_enter Tryz.func110, Tryz.ntmps110
  go_wp2
  go_ret
  exact ⟨ret_i64 (by unfold shrV; simp), rfl⟩

/-- What an op does. -/
def aluV (op a b : Int) : Int :=
  if op = 1 then addV a b else if op = 2 then (a - b) % 4294967296 else if op = 3 then mulV a b else if op = 4 then divV a b else if op = 5 then remV a b else if op = 6 then bitV 1 a b else if op = 7 then bitV 2 a b else if op = 8 then bitV 3 a b else if op = 9 then shlV a b else if op = 10 then shrV a b else if sgn a < sgn b then 1 else 0

theorem sub_eq (a b : Int) : (a % 4294967296 - b % 4294967296) % 4294967296 = (a - b) % 4294967296 := by omega
theorem impl_sub (a b : Int) (w : World) : Calls Tryz.prog 116 #[.int .i64 a, .int .i64 b] w fun e w' => e = .returned (.int .i64 ((a - b) % 4294967296)) ∧ w' = w := by
  go_enter Tryz.func116, Tryz.ntmps116
  go_wp2
  go_ret
  exact ⟨ret_i64 (by first | rfl | simp | exact sub_eq a b), rfl⟩
theorem impl_less (a b : Int) (w : World) : Calls Tryz.prog 127 #[.int .i64 a, .int .i64 b] w fun e w' => e = .returned (.int .i64 (if sgn a < sgn b then 1 else 0)) ∧ w' = w := by
  by_cases h : sgn a < sgn b
  all_goals
    first | rw [if_pos h] | rw [if_neg h]
    go_enter Tryz.func127, Tryz.ntmps127
    go_wp2_with (go_at_call 93; refine (impl_signed _ _).mono ?_; rintro e w1 ⟨rfl, rfl⟩)
    go_ret
    exact ⟨rfl, rfl⟩
theorem impl_clos1 (a b : Int) (w : World) : Calls Tryz.prog 120 #[.int .i64 a, .int .i64 b] w fun e w' => e = .returned (.int .i64 (bitV 1 a b)) ∧ Below w.heap.size w w' := by
  have hf := field_value
  go_enter Tryz.func120, Tryz.ntmps120
  go_wp2_with (go_at_call 121; refine (impl_bit _ _ _ _).mono ?_; rintro e w1 ⟨rfl, hb⟩)
  go_ret
  exact ⟨rfl, hb⟩
theorem impl_clos2 (a b : Int) (w : World) : Calls Tryz.prog 122 #[.int .i64 a, .int .i64 b] w fun e w' => e = .returned (.int .i64 (bitV 2 a b)) ∧ Below w.heap.size w w' := by
  have hf := field_value
  go_enter Tryz.func122, Tryz.ntmps122
  go_wp2_with (go_at_call 121; refine (impl_bit _ _ _ _).mono ?_; rintro e w1 ⟨rfl, hb⟩)
  go_ret
  exact ⟨rfl, hb⟩
theorem impl_clos3 (a b : Int) (w : World) : Calls Tryz.prog 123 #[.int .i64 a, .int .i64 b] w fun e w' => e = .returned (.int .i64 (bitV 3 a b)) ∧ Below w.heap.size w w' := by
  have hf := field_value
  go_enter Tryz.func123, Tryz.ntmps123
  go_wp2_with (go_at_call 121; refine (impl_bit _ _ _ _).mono ?_; rintro e w1 ⟨rfl, hb⟩)
  go_ret
  exact ⟨rfl, hb⟩
theorem impl_clos4 (a b : Int) (w : World) : Calls Tryz.prog 124 #[.int .i64 a, .int .i64 b] w fun e w' => e = .returned (.int .i64 (shlV a b)) ∧ w' = w := by
  go_enter Tryz.func124, Tryz.ntmps124
  go_wp2_with (go_at_call 125; refine (impl_shl _ _ _).mono ?_; rintro e w1 ⟨rfl, rfl⟩)
  go_ret
  exact ⟨rfl, rfl⟩
theorem impl_clos5 (a b : Int) (w : World) : Calls Tryz.prog 126 #[.int .i64 a, .int .i64 b] w fun e w' => e = .returned (.int .i64 (shrV a b)) ∧ w' = w := by
  go_enter Tryz.func126, Tryz.ntmps126
  go_wp2_with (go_at_call 125; refine (impl_shr _ _ _).mono ?_; rintro e w1 ⟨rfl, rfl⟩)
  go_ret
  exact ⟨rfl, rfl⟩
theorem aluV1 (a b : Int) : aluV 1 a b = (addV a b) := by simp [aluV]
theorem aluV2 (a b : Int) : aluV 2 a b = ((a - b) % 4294967296) := by simp [aluV]
theorem aluV3 (a b : Int) : aluV 3 a b = (mulV a b) := by simp [aluV]
theorem aluV4 (a b : Int) : aluV 4 a b = (divV a b) := by simp [aluV]
theorem aluV5 (a b : Int) : aluV 5 a b = (remV a b) := by simp [aluV]
theorem aluV6 (a b : Int) : aluV 6 a b = (bitV 1 a b) := by simp [aluV]
theorem aluV7 (a b : Int) : aluV 7 a b = (bitV 2 a b) := by simp [aluV]
theorem aluV8 (a b : Int) : aluV 8 a b = (bitV 3 a b) := by simp [aluV]
theorem aluV9 (a b : Int) : aluV 9 a b = (shlV a b) := by simp [aluV]
theorem aluV10 (a b : Int) : aluV 10 a b = (shrV a b) := by simp [aluV]
theorem aluV11 (a b : Int) : aluV 11 a b = (if sgn a < sgn b then 1 else 0) := by simp [aluV]
end Go.Proofs.YtpjaiebdpgggkaaGreatDoor
namespace Go.Proofs.YtpjaiebdpgggkaaGreatDoor
open Go.RowKit

set_option maxHeartbeats 4000000 in
theorem spec_insFault_in (op d a imm : Int) (w : World) (h : 1 ≤ op ∧ op ≤ 26 ∧ 0 ≤ d ∧ d ≤ 15 ∧ 0 ≤ a ∧ a ≤ 15 ∧ 0 ≤ imm ∧ imm ≤ 65535) :
    Calls Tryz.prog 69 #[.agg #[.int .i64 op, .int .i64 d, .int .i64 a, .int .i64 imm]] w fun e w' => e = .returned (.int .i64 (insC op d a imm)) ∧ Below w.heap.size w w' := by
  have hi : Hid (_ ↔ _) := insC_zero h
  have h3 : Hid (insC op d a imm = 0 ∨ insC op d a imm = 1) := by rw [insC, if_pos h]; show _ ∨ _; split <;> simp
  have hh : Hid _ := h
  have hcl := op_class (op := op) ⟨h.1, h.2.1⟩
  have i1 : inB op 1 26 = true := inB_true (by omega)
  have i2 : inB d 0 15 = true := inB_true (by omega)
  have i3 : inB a 0 15 = true := inB_true (by omega)
  have i4 : inB imm 0 65535 = true := inB_true (by omega)
  have hb := fun w => spec_bare op w ⟨h.1, h.2.1⟩
  clear h
  generalize insC op d a imm = c at *
  obtain ⟨x, hx⟩ : ∃ x, bareD op = x := ⟨_, rfl⟩
  obtain ⟨y, hy⟩ : ∃ y, bareA op = y := ⟨_, rfl⟩
  obtain ⟨z, hz⟩ : ∃ z, bareI op = z := ⟨_, rfl⟩
  rw [hx, hy, hz] at hb
  rcases hcl with rfl | rfl | rfl | rfl | rfl | rfl | rfl | rfl | ⟨g1, g2, g3, g4, g5, g6, g7, g8, g9⟩
  rotate_right 1
  · obtain rfl : false = x := by rw [← hx]; exact (decide_eq_false (by have g9 := g9.out; omega)).symm
    obtain rfl : false = y := by rw [← hy]; exact (decide_eq_false (by have g9 := g9.out; omega)).symm
    obtain rfl : false = z := by rw [← hz]; exact (decide_eq_false (by have g9 := g9.out; omega)).symm
    clear hx hy hz
    go_enter Tryz.func69, Tryz.ntmps69
    go_wp2_with (first | (go_at_call 101; refine (hb _).mono ?_; rintro e w1 ⟨rfl, rfl⟩) | (go_at_call 31; refine (spec_inI _ _ _ _).mono ?_; rintro e w1 ⟨rfl, rfl⟩))
    all_goals go_ret
    all_goals refine ⟨congrArg (fun b => Ending.returned (Value.int .i64 b)) ?_, ((Below.refl _ _).alloc (Nat.le_refl _) _)⟩
    all_goals have hi := hi.out
    all_goals have hh := hh.out
    all_goals have h3 := h3.out
    all_goals have g9 := g9.out
    all_goals omega
  all_goals
    obtain rfl : _ = x := hx
    obtain rfl : _ = y := hy
    obtain rfl : _ = z := hz
  all_goals
    go_enter Tryz.func69, Tryz.ntmps69
    go_wp2_with (first | (go_at_call 101; refine (hb _).mono ?_; rintro e w1 ⟨rfl, rfl⟩) | (go_at_call 31; refine (spec_inI _ _ _ _).mono ?_; rintro e w1 ⟨rfl, rfl⟩))
  all_goals go_ret
  all_goals refine ⟨congrArg (fun b => Ending.returned (Value.int .i64 b)) ?_, ((Below.refl _ _).alloc (Nat.le_refl _) _)⟩
  all_goals have hi := hi.out
  all_goals have hh := hh.out
  all_goals have h3 := h3.out
  all_goals first | omega | (simp at hi; omega) | skip

set_option maxHeartbeats 4000000 in
theorem spec_insFault (op d a imm : Int) (w : World) :
    Calls Tryz.prog 69 #[.agg #[.int .i64 op, .int .i64 d, .int .i64 a, .int .i64 imm]] w fun e w' => e = .returned (.int .i64 (insC op d a imm)) ∧ Below w.heap.size w w' := by
  by_cases h : 1 ≤ op ∧ op ≤ 26 ∧ 0 ≤ d ∧ d ≤ 15 ∧ 0 ≤ a ∧ a ≤ 15 ∧ 0 ≤ imm ∧ imm ≤ 65535
  · exact spec_insFault_in op d a imm w h
  · rw [insC_3 h]
    have hcl : inB op 1 26 = false ∨ inB op 1 26 = true ∧ (inB d 0 15 = false ∨ inB d 0 15 = true ∧ (inB a 0 15 = false ∨ inB a 0 15 = true ∧ inB imm 0 65535 = false)) := by
      simp only [inB, decide_eq_true_eq, decide_eq_false_iff_not]
      omega
    clear h
    rcases hcl with i1 | ⟨i1, i2 | ⟨i2, i3 | ⟨i3, i4⟩⟩⟩
    all_goals
      go_enter Tryz.func69, Tryz.ntmps69
      go_wp2_with (go_at_call 31; refine (spec_inI _ _ _ _).mono ?_; rintro e w1 ⟨rfl, rfl⟩)
    all_goals go_ret
    all_goals exact ⟨rfl, ((Below.refl _ _).alloc (Nat.le_refl _) _)⟩
end Go.Proofs.YtpjaiebdpgggkaaGreatDoor
namespace Go.Proofs.YtpjaiebdpgggkaaGreatDoor
open Go.RowKit
set_option linter.unusedVariables false

/-- append of numbers that lie anywhere, or of none, to a slice of the call's own. -/
theorem wp_appy {ops : Array Oper} {rest : List Oper} {o : Oper} {act : Act} {Q : Exit → Act → World → Prop} (w : World) (hgd : o.guard = none) (s x : Operand)
    (ho : o.op = .call { callee := .builtin .append, args := #[s, x], argTypes := #[22, 22] }) (base : Nat) (v : Value) (zs : List Int) (hs : act.eval s = v) (hN : Nums w base v zs)
    (p : Option Addr) (m c : Nat) (ys : List Int) (hx : act.eval x = .slice p m c) (hR : Rn w p m c ys)
    (hlen : zs.length + m ≤ 1000000000) (hbase : base ≤ w.heap.size)
    (h : ∀ v' w', Nums w' base v' (zs ++ ys) → w.grownBy w' v.ownBlock → wpList Tryz.prog ops Q rest (act.put o.dst v') w') : wpList Tryz.prog ops Q (o :: rest) act w := by
  cases p with
  | some p => exact wp_appx w hgd s x ho base v zs hs hN p m c ys hx hR hlen hbase h
  | none =>
    obtain ⟨h1, h2, h3⟩ : m = 0 ∧ c = 0 ∧ ys = [] := by
      rcases hR with ⟨_, h1, h2, h3⟩ | ⟨x, e, _⟩
      · exact ⟨h1, h2, h3⟩
      · cases e
    subst h1 h2 h3
    obtain ⟨i, hi, hz0, hz1, hz2⟩ := info_parts info_i64
    exact wpList_append_own_none hgd s x 22 ho base 2 i 1 Tryz.underlying22 hi v zs.length _ hs hN hx (h v w (by rw [List.append_nil]; exact hN) (World.grownBy.refl _ _))

/-- What l8Copy has under way: the machine's variable (A), and the answer's place. -/
structure Cy (w v : World) (s : Nat) (A : Array Value) : Prop where
  A : Vb v s A 28
  R : Vb v (s + 1) #[.slice none 0 0, .int .i64 0, .slice none 0 0, .bool false, .bool false, .bool false, .int .i64 0, .slice none 0 0, .slice none 0 0] 28
  b : Below w.heap.size w v
  s : w.heap.size = s
theorem Cy.keep {w v v' : World} {s : Nat} {A : Array Value} (h : Cy w v s A) (b : Below v.heap.size v v') : Cy w v' s A := ⟨h.A.keep b, h.R.keep b, on h.b b, h.s⟩
theorem Cy.put {w v : World} {s : Nat} {A : Array Value} (h : Cy w v s A) (j : Nat) (u : Value) : Cy w (v.setCell ⟨s, j, none⟩ u) s (A.setIfInBounds j u) :=
  ⟨h.A.set j u, h.R.put _ _ (by show s + 1 ≠ s; omega), h.b.setCell (by have := h.s; show w.heap.size ≤ s; omega) _, h.s⟩

end Go.Proofs.YtpjaiebdpgggkaaGreatDoor
namespace Go.Proofs.YtpjaiebdpgggkaaGreatDoor
open Go.RowKit
set_option linter.unusedVariables false

set_option maxRecDepth 20000 in
set_option maxHeartbeats 4000000 in
theorem eqr_hart (r c i o r' c' i' o' : Value) (H : Ht) (w : World) (h : Hr w r c i o H) (k : Hr w r' c' i' o' H) :
    Calls Tryz.prog 13 #[.agg #[r, .int .i64 H.pc, c, .bool H.halted, .bool H.waiting, .bool H.rung, .int .i64 H.done, i, o], .agg #[r', .int .i64 H.pc, c', .bool H.halted, .bool H.waiting, .bool H.rung, .int .i64 H.done, i', o']] w fun e w' => e = .returned (.bool true) ∧ Below w.heap.size w w' := by
  obtain ⟨a0, k0, rfl, _⟩ := h.r
  obtain ⟨a1, k1, rfl, _⟩ := h.c
  obtain ⟨a2, k2, rfl, _⟩ := h.i
  obtain ⟨a3, k3, rfl, _⟩ := h.o
  obtain ⟨x0, l0, rfl, _⟩ := k.r
  obtain ⟨x1, l1, rfl, _⟩ := k.c
  obtain ⟨x2, l2, rfl, _⟩ := k.i
  obtain ⟨x3, l3, rfl, _⟩ := k.o
  have HM : Hid (Hr w _ _ _ _ H) := h
  have KM : Hid (Hr w _ _ _ _ H) := k
  clear h k
  generalize H.regs.length = n0 at *
  generalize H.csr.length = n1 at *
  generalize H.inn.length = n2 at *
  generalize H.out.length = n3 at *
  generalize hW : (w.alloc (.cells #[.slice a0 n0 k0, .int .i64 H.pc, .slice a1 n1 k1, .bool H.halted, .bool H.waiting, .bool H.rung, .int .i64 H.done, .slice a2 n2 k2, .slice a3 n3 k3] 28)).alloc (.cells #[.slice x0 n0 l0, .int .i64 H.pc, .slice x1 n1 l1, .bool H.halted, .bool H.waiting, .bool H.rung, .int .i64 H.done, .slice x2 n2 l2, .slice x3 n3 l3] 28) = W
  have B0 : Hid (Below w.heap.size w W) := by show Below _ _ _; rw [← hW]; exact al (al (Below.refl _ _) _) _
  obtain ⟨s, hS⟩ : ∃ s, w.heap.size = s := ⟨_, rfl⟩
  have VA : Hid (Vb W s #[.slice a0 n0 k0, .int .i64 H.pc, .slice a1 n1 k1, .bool H.halted, .bool H.waiting, .bool H.rung, .int .i64 H.done, .slice a2 n2 k2, .slice a3 n3 k3] 28) := by
    show Vb _ _ _ _
    rw [← hW, ← hS]
    exact (Vb.new _ _ _).push _
  have VB : Hid (Vb W (s + 1) #[.slice x0 n0 l0, .int .i64 H.pc, .slice x1 n1 l1, .bool H.halted, .bool H.waiting, .bool H.rung, .int .i64 H.done, .slice x2 n2 l2, .slice x3 n3 l3] 28) := by
    show Vb _ _ _ _
    have z1 : s + 1 = (w.alloc (.cells #[.slice a0 n0 k0, .int .i64 H.pc, .slice a1 n1 k1, .bool H.halted, .bool H.waiting, .bool H.rung, .int .i64 H.done, .slice a2 n2 k2, .slice a3 n3 k3] 28)).heap.size := by rw [← hS]; simp
    rw [← hW, z1]
    exact Vb.new _ _ _
  have q0 := VA.out.cell 0 rfl
  have p0 := VB.out.cell 0 rfl
  go_enter Tryz.func13, Tryz.ntmps13
  go_wp2_with fail
  clear hW hS q0 p0
  refine (eq_rn _ _ _ _ (HM.out.stay B0.out).r (KM.out.stay B0.out).r).mono ?_
  rintro e w1 ⟨rfl, b1⟩
  have B1 : Hid (Below w.heap.size w w1) := on B0.out b1
  have VA1 : Hid (Vb w1 _ _ _) := VA.out.keep b1
  have VB1 : Hid (Vb w1 _ _ _) := VB.out.keep b1
  have q1 := VA1.out.cell 1 rfl
  have p1 := VB1.out.cell 1 rfl
  have q2 := VA1.out.cell 2 rfl
  have p2 := VB1.out.cell 2 rfl
  clear b1 VA VB B0
  go_wp2_with fail
  clear q1 p1 q2 p2
  refine (eq_rn _ _ _ _ (HM.out.stay B1.out).c (KM.out.stay B1.out).c).mono ?_
  rintro e w2 ⟨rfl, b1⟩
  have B2 : Hid (Below w.heap.size w w2) := on B1.out b1
  have VA2 : Hid (Vb w2 _ _ _) := VA1.out.keep b1
  have VB2 : Hid (Vb w2 _ _ _) := VB1.out.keep b1
  have q3 := VA2.out.cell 3 rfl
  have p3 := VB2.out.cell 3 rfl
  have q4 := VA2.out.cell 4 rfl
  have p4 := VB2.out.cell 4 rfl
  have q5 := VA2.out.cell 5 rfl
  have p5 := VB2.out.cell 5 rfl
  have q6 := VA2.out.cell 6 rfl
  have p6 := VB2.out.cell 6 rfl
  have q7 := VA2.out.cell 7 rfl
  have p7 := VB2.out.cell 7 rfl
  clear b1 VA1 VB1 B1
  go_wp2_with fail
  clear q3 p3 q4 p4 q5 p5 q6 p6 q7 p7
  refine (eq_rn _ _ _ _ (HM.out.stay B2.out).i (KM.out.stay B2.out).i).mono ?_
  rintro e w3 ⟨rfl, b1⟩
  have B3 : Hid (Below w.heap.size w w3) := on B2.out b1
  have q8 := (VA2.out.keep b1).cell 8 rfl
  have p8 := (VB2.out.keep b1).cell 8 rfl
  clear b1 VA2 VB2 B2
  go_wp2_with fail
  refine (eq_rn _ _ _ _ (HM.out.stay B3.out).o (KM.out.stay B3.out).o).mono ?_
  rintro e w4 ⟨rfl, b1⟩
  go_wp2_with fail
  go_ret
  exact ⟨rfl, on B3.out b1⟩

end Go.Proofs.YtpjaiebdpgggkaaGreatDoor
