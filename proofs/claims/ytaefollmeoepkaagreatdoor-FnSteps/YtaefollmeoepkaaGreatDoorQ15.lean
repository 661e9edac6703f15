/- Texts of this seat, joined. -/
import Derived.Laws.EntriesVeiled
import Derived.Laws.AppendOwnNone
import Derived.Deep.Cut
import Derived.BigQuiet
import Derived.Deep.QuietTactic
import Derived.Test.YtaefollmeoepkaaGreatDoorQ03
import Derived.Test.YtaefollmeoepkaaGreatDoorQ04
import Derived.Test.YtaefollmeoepkaaGreatDoorQ12
namespace Go.Proofs.YtaefollmeoepkaaGreatDoor
set_option maxRecDepth 20000
set_option maxHeartbeats 16000000
open Go.RowKit
theorem spec_add (a b : Int) (w : World) : Calls Tryz.prog 100 #[.int .i64 a, .int .i64 b] w fun e w' => e = .returned (.int .i64 (addV a b)) ∧ w' = w := by
 go_enter Tryz.func100, Tryz.ntmps100
 go_wp2
 go_ret
 exact ⟨ret_i64 (by unfold addV; simp), rfl⟩
theorem spec_mul (a b : Int) (w : World) : Calls Tryz.prog 136 #[.int .i64 a, .int .i64 b] w fun e w' => e = .returned (.int .i64 (mulV a b)) ∧ w' = w := by
 go_enter Tryz.func136, Tryz.ntmps136
 go_wp2
 go_ret
 exact ⟨ret_i64 (by unfold mulV; rfl), rfl⟩
theorem spec_div (a b : Int) (w : World) : Calls Tryz.prog 137 #[.int .i64 a, .int .i64 b] w fun e w' => e = .returned (.int .i64 (divV a b)) ∧ w' = w := by
 by_cases h : b % 4294967296 = 0
 ·have h2 : (b % 4294967296 == 0) = true := by rw [beq_iff_eq]; exact h
  have e : divV a b = 4294967295 := by unfold divV; rw [if_pos h]
  rw [e]
  clear h e
  go_enter Tryz.func137, Tryz.ntmps137
  go_wp2
  go_ret
  exact ⟨rfl, rfl⟩
 ·have h2 : (b % 4294967296 == 0) = false := by rw [beq_eq_false_iff_ne]; exact h
  have h3 : ¬ wrap64 (wrap32 (b % 4294967296)) = 0 := fun e => h ((sgn_zero b).1 e)
  have e : divV a b = wrap64 ((sgn a).tdiv (sgn b)) % 4294967296 := by unfold divV; rw [if_neg h]
  rw [e]
  clear h e
  go_enter Tryz.func137, Tryz.ntmps137
  go_wp2
  go_ret
  exact ⟨ret_i64 (by unfold sgn; rfl), rfl⟩
theorem spec_rem (a b : Int) (w : World) : Calls Tryz.prog 138 #[.int .i64 a, .int .i64 b] w fun e w' => e = .returned (.int .i64 (remV a b)) ∧ w' = w := by
 by_cases h : b % 4294967296 = 0
 ·have h2 : (b % 4294967296 == 0) = true := by rw [beq_iff_eq]; exact h
  have e : remV a b = a % 4294967296 := by unfold remV; rw [if_pos h]
  rw [e]
  clear h e
  go_enter Tryz.func138, Tryz.ntmps138
  go_wp2
  go_ret
  exact ⟨rfl, rfl⟩
 ·have h2 : (b % 4294967296 == 0) = false := by rw [beq_eq_false_iff_ne]; exact h
  have h3 : ¬ wrap64 (wrap32 (b % 4294967296)) = 0 := fun e => h ((sgn_zero b).1 e)
  have e : remV a b = (sgn a).tmod (sgn b) % 4294967296 := by unfold remV; rw [if_neg h]
  rw [e]
  clear h e
  go_enter Tryz.func138, Tryz.ntmps138
  go_wp2
  go_ret
  exact ⟨ret_i64 (by unfold sgn; rfl), rfl⟩
theorem spec_shr (a k : Int) (w : World) : Calls Tryz.prog 140 #[.int .i64 a, .int .i64 k, .bool false] w fun e w' => e = .returned (.int .i64 (shrV a k)) ∧ w' = w := by
 go_enter Tryz.func140, Tryz.ntmps140
 go_wp2
 go_ret
 exact ⟨ret_i64 (by unfold shrV; simp), rfl⟩
def aluV (op a b : Int) : Int :=
 if op = 1 then addV a b else if op = 2 then (a - b) % 4294967296 else if op = 3 then mulV a b else if op = 4 then divV a b else if op = 5 then remV a b else if op = 6 then bitV 1 a b else if op = 7 then bitV 2 a b else if op = 8 then bitV 3 a b else if op = 9 then shlV a b else if op = 10 then shrV a b else if sgn a < sgn b then 1 else 0
theorem sub_eq (a b : Int) : (a % 4294967296 - b % 4294967296) % 4294967296 = (a - b) % 4294967296 := by omega
theorem impl_sub (a b : Int) (w : World) : Calls Tryz.prog 141 #[.int .i64 a, .int .i64 b] w fun e w' => e = .returned (.int .i64 ((a - b) % 4294967296)) ∧ w' = w := by
 go_enter Tryz.func141, Tryz.ntmps141
 go_wp2
 go_ret
 exact ⟨ret_i64 (by first | rfl | simp | exact sub_eq a b), rfl⟩
theorem impl_less (a b : Int) (w : World) : Calls Tryz.prog 152 #[.int .i64 a, .int .i64 b] w fun e w' => e = .returned (.int .i64 (if sgn a < sgn b then 1 else 0)) ∧ w' = w := by
 by_cases h : sgn a < sgn b
 all_goals
  first | rw [if_pos h] | rw [if_neg h]
  go_enter Tryz.func152, Tryz.ntmps152
  go_wp2_with (go_at_call 116; refine (impl_signed _ _).mono ?_; rintro e w1 ⟨rfl, rfl⟩)
  go_ret
  exact ⟨rfl, rfl⟩
theorem impl_clos1 (a b : Int) (w : World) : Calls Tryz.prog 145 #[.int .i64 a, .int .i64 b] w fun e w' => e = .returned (.int .i64 (bitV 1 a b)) ∧ Below w.heap.size w w' := by
 have hf := field_value
 go_enter Tryz.func145, Tryz.ntmps145
 go_wp2_with (go_at_call 146; refine (impl_bit _ _ _ _).mono ?_; rintro e w1 ⟨rfl, hb⟩)
 go_ret
 exact ⟨rfl, hb⟩
theorem impl_clos2 (a b : Int) (w : World) : Calls Tryz.prog 147 #[.int .i64 a, .int .i64 b] w fun e w' => e = .returned (.int .i64 (bitV 2 a b)) ∧ Below w.heap.size w w' := by
 have hf := field_value
 go_enter Tryz.func147, Tryz.ntmps147
 go_wp2_with (go_at_call 146; refine (impl_bit _ _ _ _).mono ?_; rintro e w1 ⟨rfl, hb⟩)
 go_ret
 exact ⟨rfl, hb⟩
theorem impl_clos3 (a b : Int) (w : World) : Calls Tryz.prog 148 #[.int .i64 a, .int .i64 b] w fun e w' => e = .returned (.int .i64 (bitV 3 a b)) ∧ Below w.heap.size w w' := by
 have hf := field_value
 go_enter Tryz.func148, Tryz.ntmps148
 go_wp2_with (go_at_call 146; refine (impl_bit _ _ _ _).mono ?_; rintro e w1 ⟨rfl, hb⟩)
 go_ret
 exact ⟨rfl, hb⟩
theorem impl_clos4 (a b : Int) (w : World) : Calls Tryz.prog 149 #[.int .i64 a, .int .i64 b] w fun e w' => e = .returned (.int .i64 (shlV a b)) ∧ w' = w := by
 go_enter Tryz.func149, Tryz.ntmps149
 go_wp2_with (go_at_call 150; refine (impl_shl _ _ _).mono ?_; rintro e w1 ⟨rfl, rfl⟩)
 go_ret
 exact ⟨rfl, rfl⟩
theorem impl_clos5 (a b : Int) (w : World) : Calls Tryz.prog 151 #[.int .i64 a, .int .i64 b] w fun e w' => e = .returned (.int .i64 (shrV a b)) ∧ w' = w := by
 go_enter Tryz.func151, Tryz.ntmps151
 go_wp2_with (go_at_call 150; refine (impl_shr _ _ _).mono ?_; rintro e w1 ⟨rfl, rfl⟩)
 go_ret
 exact ⟨rfl, rfl⟩
theorem aluV1 (a b : Int) : aluV 1 a b = (addV a b) := by simp [aluV]
theorem aluV2 (a b : Int) : aluV 2 a b = ((a - b) % 4294967296) := by simp [aluV]
theorem aluV3 (a b : Int) : aluV 3 a b = (mulV a b) := by simp [aluV]
theorem aluV4 (a b : Int) : aluV 4 a b = (divV a b) := by simp [aluV]
theorem aluV5 (a b : Int) : aluV 5 a b = (remV a b) := by simp [aluV]
theorem aluV6 (a b : Int) : aluV 6 a b = (bitV 1 a b) := by simp [aluV]
theorem aluV7 (a b : Int) : aluV 7 a b = (bitV 2 a b) := by simp [aluV]
theorem aluV8 (a b : Int) : aluV 8 a b = (bitV 3 a b) := by simp [aluV]
theorem aluV9 (a b : Int) : aluV 9 a b = (shlV a b) := by simp [aluV]
theorem aluV10 (a b : Int) : aluV 10 a b = (shrV a b) := by simp [aluV]
theorem aluV11 (a b : Int) : aluV 11 a b = (if sgn a < sgn b then 1 else 0) := by simp [aluV]
set_option linter.unusedVariables false
theorem wp_appy {ops : Array Oper} {rest : List Oper} {o : Oper} {act : Act} {Q : Exit → Act → World → Prop} (w : World) (hgd : o.guard = none) (s x : Operand)
  (ho : o.op = .call { callee := .builtin .append, args := #[s, x], argTypes := #[24, 24] }) (base : Nat) (v : Value) (zs : List Int) (hs : act.eval s = v) (hN : Nums w base v zs)
  (p : Option Addr) (m c : Nat) (ys : List Int) (hx : act.eval x = .slice p m c) (hR : Rn w p m c ys)
  (hlen : zs.length + m ≤ 1000000000) (hbase : base ≤ w.heap.size)
  (h : ∀ v' w', Nums w' base v' (zs ++ ys) → w.grownBy w' v.ownBlock → wpList Tryz.prog ops Q rest (act.put o.dst v') w') : wpList Tryz.prog ops Q (o :: rest) act w := by
 cases p with
 | some p => exact wp_appx w hgd s x ho base v zs hs hN p m c ys hx hR hlen hbase h
 | none =>
  obtain ⟨h1, h2, h3⟩ : m = 0 ∧ c = 0 ∧ ys = [] := by
   rcases hR with ⟨_, h1, h2, h3⟩ | ⟨x, e, _⟩
   ·exact ⟨h1, h2, h3⟩
   ·cases e
  subst h1 h2 h3
  obtain ⟨i, hi, hz0, hz1, hz2⟩ := info_parts info_i64
  exact wpList_append_own_none hgd s x 24 ho base 2 i 1 Tryz.underlying24 hi v zs.length _ hs hN hx (h v w (by rw [List.append_nil]; exact hN) (World.grownBy.refl _ _))
structure Cy (w v : World) (s : Nat) (A : Array Value) : Prop where
 A : Vb v s A 26
 R : Vb v (s + 1) #[.slice none 0 0, .int .i64 0, .slice none 0 0, .bool false, .bool false, .bool false, .int .i64 0, .slice none 0 0, .slice none 0 0] 26
 b : Below w.heap.size w v
 s : w.heap.size = s
theorem Cy.keep {w v v' : World} {s : Nat} {A : Array Value} (h : Cy w v s A) (b : Below v.heap.size v v') : Cy w v' s A := ⟨h.A.keep b, h.R.keep b, on h.b b, h.s⟩
theorem Cy.put {w v : World} {s : Nat} {A : Array Value} (h : Cy w v s A) (j : Nat) (u : Value) : Cy w (v.setCell ⟨s, j, none⟩ u) s (A.setIfInBounds j u) :=
 ⟨h.A.set j u, h.R.put _ _ (by show s + 1 ≠ s; omega), h.b.setCell (by have := h.s; show w.heap.size ≤ s; omega) _, h.s⟩
theorem pend_eq (H : Ht) (a b c : Int) (ha : (if gt H.csr 9 ≠ 0 ∧ gt H.csr 9 ≤ H.done then (1 : Int) else 0) = a) (hb : (if H.rung then (2 : Int) else 0) = b) (hc : (if 0 < H.inn.length then (4 : Int) else 0) = c) : a + b + c = pendV H := by
 subst ha hb hc
 rfl
end Go.Proofs.YtaefollmeoepkaaGreatDoor
