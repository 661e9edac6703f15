/- Texts of this seat, joined. -/
import Derived.Deep.RegionWith
import Derived.Laws.AppendOwnNone
import Derived.Deep.Cut
import Derived.Test.YtcbcbgomafeccaaGreatDoorQ03
import Derived.Test.YtcbcbgomafeccaaGreatDoorQ13
import Derived.Test.YtcbcbgomafeccaaGreatDoorQ15
import Derived.Test.YtcbcbgomafeccaaGreatDoorQ17
import Derived.Test.YtcbcbgomafeccaaGreatDoorQ20
import Derived.Test.YtcbcbgomafeccaaGreatDoorQ21
import Derived.Test.YtcbcbgomafeccaaGreatDoorQ22
namespace Go.Proofs.YtcbcbgomafeccaaGreatDoor
open Go.RowKit

/-- The word of an instruction, 0 where it has a fault. -/
def encV (op d a imm : Int) : Int := if insC op d a imm = 0 then op * 16777216 + d * 1048576 + a * 65536 + imm else 0

theorem insC_bounds {op d a imm : Int} (h : insC op d a imm = 0) : 1 ≤ op ∧ op ≤ 26 ∧ 0 ≤ d ∧ d ≤ 15 ∧ 0 ≤ a ∧ a ≤ 15 ∧ 0 ≤ imm ∧ imm ≤ 65535 := by
  by_cases g : 1 ≤ op ∧ op ≤ 26 ∧ 0 ≤ d ∧ d ≤ 15 ∧ 0 ≤ a ∧ a ≤ 15 ∧ 0 ≤ imm ∧ imm ≤ 65535
  · exact g
  · rw [insC_3 g] at h; omega

theorem w64 (n : Int) (h : -9223372036854775808 ≤ n ∧ n ≤ 9223372036854775807) : wrap64 n = n := by unfold wrap64; omega
theorem enc_wrap {op d a imm : Int} (h : 1 ≤ op ∧ op ≤ 26 ∧ 0 ≤ d ∧ d ≤ 15 ∧ 0 ≤ a ∧ a ≤ 15 ∧ 0 ≤ imm ∧ imm ≤ 65535) :
    wrap64 (wrap64 (wrap64 (wrap64 (op * 16777216) + wrap64 (d * 1048576)) + wrap64 (a * 65536)) + imm) = op * 16777216 + d * 1048576 + a * 65536 + imm := by
  rw [w64 (op * 16777216) (by omega), w64 (d * 1048576) (by omega), w64 (a * 65536) (by omega), w64 (op * 16777216 + d * 1048576) (by omega), w64 (op * 16777216 + d * 1048576 + a * 65536) (by omega), w64 _ (by omega)]

set_option maxHeartbeats 2000000 in
theorem impl_encode (op d a imm : Int) (w : World) :
    Calls Tryz.prog 132 #[.agg #[.int .i64 op, .int .i64 d, .int .i64 a, .int .i64 imm]] w fun e w' => e = .returned (.agg #[.int .i64 (insC op d a imm), .int .i64 (encV op d a imm)]) ∧ Below w.heap.size w w' := by
  have hf := fun w => impl_insFault op d a imm w
  by_cases h : insC op d a imm = 0
  · have e : encV op d a imm = op * 16777216 + d * 1048576 + a * 65536 + imm := if_pos h
    have ew := enc_wrap (insC_bounds h)
    rw [e]
    clear e
    generalize insC op d a imm = c at *
    subst h
    generalize op * 16777216 + d * 1048576 + a * 65536 + imm = v at *
    go_enter Tryz.func132, Tryz.ntmps132
    go_wp2_with (go_at_call 140; refine (hf _).mono ?_; rintro e w1 ⟨rfl, hb⟩; obtain ⟨hc, hz⟩ := bcell hb)
    exact bodyPost_ret (v := .agg #[.int .i64 0, .int .i64 v]) (by simp [results, Tryz.results132, go_sem, hc, ew]) rfl ⟨rfl, (((((Below.refl _ _).alloc (Nat.le_refl _) _).alloc (by simp) _).trans (hb.mono (by simp; omega))).setCell (by simp) _).setCell (by simp) _⟩
  · have g : (insC op d a imm == 0) = false := beq_eq_false_iff_ne.2 h
    have e : encV op d a imm = 0 := if_neg h
    rw [e]
    clear e h
    generalize insC op d a imm = c at *
    go_enter Tryz.func132, Tryz.ntmps132
    go_wp2_with (go_at_call 140; refine (hf _).mono ?_; rintro e w1 ⟨rfl, hb⟩; obtain ⟨hc, hz⟩ := bcell hb)
    exact bodyPost_ret (v := .agg #[.int .i64 c, .int .i64 0]) (by simp [results, Tryz.results132, go_sem, hc]) rfl ⟨rfl, (((((Below.refl _ _).alloc (Nat.le_refl _) _).alloc (by simp) _).trans (hb.mono (by simp; omega))).setCell (by simp) _).setCell (by simp) _⟩

end Go.Proofs.YtcbcbgomafeccaaGreatDoor
namespace Go.Proofs.YtcbcbgomafeccaaGreatDoor
open Go.RowKit

theorem and15 (x : Int) : bits BinOp.and .i64 x 15 = x % 16 := by
  have h1 : (BitVec.ofInt 64 x).toNat = (x % 2 ^ 64).toNat := BitVec.toNat_ofInt ..
  have h2 : (BitVec.ofInt 64 15).toNat = 2 ^ 4 - 1 := by decide
  show IntKind.i64.wrap ((BitVec.ofInt 64 x &&& BitVec.ofInt 64 15).toNat : Int) = _
  rw [BitVec.toNat_and, h1, h2, Nat.and_two_pow_sub_one_eq_mod, IntKind.wrap_i64]
  omega
theorem and65535 (x : Int) : bits BinOp.and .i64 x 65535 = x % 65536 := by
  have h1 : (BitVec.ofInt 64 x).toNat = (x % 2 ^ 64).toNat := BitVec.toNat_ofInt ..
  have h2 : (BitVec.ofInt 64 65535).toNat = 2 ^ 16 - 1 := by decide
  show IntKind.i64.wrap ((BitVec.ofInt 64 x &&& BitVec.ofInt 64 65535).toNat : Int) = _
  rw [BitVec.toNat_and, h1, h2, Nat.and_two_pow_sub_one_eq_mod, IntKind.wrap_i64]
  omega

/-- The fault of the instruction that a number's bits tell. -/
def decF (v : Int) : Int := insC (v / 16777216) (v / 1048576 % 16) (v / 65536 % 16) (v % 65536)
theorem dec_back {v : Int} (h : decF v = 0) : encV (v / 16777216) (v / 1048576 % 16) (v / 65536 % 16) (v % 65536) = v := by
  have h' := h
  unfold decF at h'
  rw [encV, if_pos h']
  omega
theorem dec_in {v : Int} (h : decF v = 0) : 0 ≤ v ∧ v ≤ 4294967295 := by
  have := insC_bounds h
  omega
/-- What DecodeIns answers. -/
def decV (v : Int) : Value := if decF v = 0 then .agg #[.int .i64 0, .int .i64 (v / 16777216), .int .i64 (v / 1048576 % 16), .int .i64 (v / 65536 % 16), .int .i64 (v % 65536)] else .agg #[.int .i64 5, .int .i64 0, .int .i64 0, .int .i64 0, .int .i64 0]

set_option maxHeartbeats 1000000 in
theorem impl_decode (v : Int) (w : World) :
    Calls Tryz.prog 99 #[.int .i64 v] w fun e w' => e = .returned (decV v) ∧ Below w.heap.size w w' := by
  have he := fun w => impl_encode (v / 16777216) (v / 1048576 % 16) (v / 65536 % 16) (v % 65536) w
  by_cases h : decF v = 0
  · rw [decV, if_pos h]
    rw [show insC (v / 16777216) (v / 1048576 % 16) (v / 65536 % 16) (v % 65536) = 0 from h, dec_back h] at he
    clear h
    rw [← and15 (v / 1048576), ← and15 (v / 65536), ← and65535 v] at *
    go_enter Tryz.func99, Tryz.ntmps99
    go_wp2_with (go_at_call 132; refine (he _).mono ?_; rintro e w1 ⟨rfl, hb⟩; obtain ⟨hc, hz⟩ := bcell hb)
    have k0 := cell_keep hb (cell_push _ (cell_new (i := 0) rfl))
    have k1 := cell_keep hb (cell_push _ (cell_new (i := 1) rfl))
    have k2 := cell_keep hb (cell_push _ (cell_new (i := 2) rfl))
    have k3 := cell_keep hb (cell_push _ (cell_new (i := 3) rfl))
    have k4 := cell_keep hb (cell_push _ (cell_new (i := 4) rfl))
    clear hc hz
    exact bodyPost_ret (v := .agg #[.int .i64 0, .int .i64 (v / 16777216), .int .i64 (bits BinOp.and .i64 (v / 1048576) 15), .int .i64 (bits BinOp.and .i64 (v / 65536) 15), .int .i64 (bits BinOp.and .i64 v 65535)]) (by simp [results, Tryz.results99, go_sem, k0, k1, k2, k3, k4]) rfl ⟨rfl, ((((((((Below.refl _ _).alloc (Nat.le_refl _) _).alloc (by simp) _).trans (hb.mono (by simp; omega))).setCell (by simp) _).setCell (by simp) _).setCell (by simp) _).setCell (by simp) _).setCell (by simp) _⟩
  · rw [decV, if_neg h]
    have g : (decF v == 0) = false := beq_eq_false_iff_ne.2 h
    rw [show insC (v / 16777216) (v / 1048576 % 16) (v / 65536 % 16) (v % 65536) = decF v from rfl] at he
    clear h
    rw [← and15 (v / 1048576), ← and15 (v / 65536), ← and65535 v] at he
    generalize decF v = c at *
    go_enter Tryz.func99, Tryz.ntmps99
    go_wp2_with (go_at_call 132; refine (he _).mono ?_; rintro e w1 ⟨rfl, hb⟩; obtain ⟨hc, hz⟩ := bcell hb)
    have k0 := cell_keep hb (cell_push _ (cell_new (i := 0) rfl))
    have k1 := cell_keep hb (cell_push _ (cell_new (i := 1) rfl))
    have k2 := cell_keep hb (cell_push _ (cell_new (i := 2) rfl))
    have k3 := cell_keep hb (cell_push _ (cell_new (i := 3) rfl))
    have k4 := cell_keep hb (cell_push _ (cell_new (i := 4) rfl))
    clear hc hz
    exact bodyPost_ret (v := .agg #[.int .i64 5, .int .i64 0, .int .i64 0, .int .i64 0, .int .i64 0]) (by simp [results, Tryz.results99, go_sem, k0, k1, k2, k3, k4]) rfl ⟨rfl, ((((((((Below.refl _ _).alloc (Nat.le_refl _) _).alloc (by simp) _).trans (hb.mono (by simp; omega))).setCell (by simp) _).setCell (by simp) _).setCell (by simp) _).setCell (by simp) _).setCell (by simp) _⟩

set_option maxHeartbeats 1000000 in
theorem spec_l2Decode (v : Int) (w : World) :
    Calls Tryz.prog 45 #[.int .i64 v] w fun e w' => (e = .returned (if 0 ≤ v ∧ v ≤ 4294967295 then .tuple #[.agg #[.int .i64 (v / 16777216), .int .i64 (bits BinOp.and .i64 (v / 1048576) 15), .int .i64 (bits BinOp.and .i64 (v / 65536) 15), .int .i64 (bits BinOp.and .i64 v 65535)], .bool (decF v == 0)] else .tuple #[.agg #[.int .i64 0, .int .i64 0, .int .i64 0, .int .i64 0], .bool false])) ∧ Below w.heap.size w w' := by
  by_cases h : 0 ≤ v ∧ v ≤ 4294967295
  · rw [if_pos h]
    have i : inB v 0 4294967295 = true := inB_true h
    have he := fun w => spec_insFault (v / 16777216) (v / 1048576 % 16) (v / 65536 % 16) (v % 65536) w
    rw [show insC (v / 16777216) (v / 1048576 % 16) (v / 65536 % 16) (v % 65536) = decF v from rfl] at he
    clear h
    rw [← and15 (v / 1048576), ← and15 (v / 65536), ← and65535 v] at he
    generalize decF v = c at *
    go_enter Tryz.func45, Tryz.ntmps45
    go_wp2_with (go_at_call 31; refine (spec_inI _ _ _ _).mono ?_; rintro e w1 ⟨rfl, rfl⟩)
    go_region_with (go_at_call 69; refine (he _).mono ?_; rintro e w1 ⟨rfl, hb⟩; obtain ⟨hc, hz⟩ := bcell hb)
    all_goals go_wp2
    all_goals have k0 : w1.cell? ⟨w.heap.size, 0, none⟩ = some (.int .i64 0) := by rw [hc _ _ (by simp; omega)]; simp
    all_goals have k1 : w1.cell? ⟨w.heap.size, 1, none⟩ = some (.int .i64 0) := by rw [hc _ _ (by simp; omega)]; simp
    all_goals have k2 : w1.cell? ⟨w.heap.size, 2, none⟩ = some (.int .i64 0) := by rw [hc _ _ (by simp; omega)]; simp
    all_goals have k3 : w1.cell? ⟨w.heap.size, 3, none⟩ = some (.int .i64 0) := by rw [hc _ _ (by simp; omega)]; simp
    all_goals clear hc hz
    all_goals exact bodyPost_ret (v := .tuple #[.agg #[.int .i64 (v / 16777216), .int .i64 (bits BinOp.and .i64 (v / 1048576) 15), .int .i64 (bits BinOp.and .i64 (v / 65536) 15), .int .i64 (bits BinOp.and .i64 v 65535)], .bool (c == 0)]) (by simp [results, Tryz.results45, go_sem, k0, k1, k2, k3]) rfl ⟨rfl, (((((((Below.refl _ _).alloc (Nat.le_refl _) _).alloc (by simp) _).drew.trans (hb.mono (by simp; omega))).setCell (by simp) _).setCell (by simp) _).setCell (by simp) _).setCell (by simp) _⟩
  · rw [if_neg h]
    have i : inB v 0 4294967295 = false := inB_false h
    clear h
    go_enter Tryz.func45, Tryz.ntmps45
    go_wp2_with (go_at_call 31; refine (spec_inI _ _ _ _).mono ?_; rintro e w1 ⟨rfl, rfl⟩)
    exact bodyPost_ret (v := .tuple #[.agg #[.int .i64 0, .int .i64 0, .int .i64 0, .int .i64 0], .bool false]) (by simp [results, Tryz.results45, go_sem]) rfl ⟨rfl, (Below.refl _ _).alloc (Nat.le_refl _) _⟩

end Go.Proofs.YtcbcbgomafeccaaGreatDoor
namespace Go.Proofs.YtcbcbgomafeccaaGreatDoor
open Go.RowKit
set_option linter.unusedVariables false

/-- append of numbers that lie anywhere, or of none, to a slice of the call's own. -/
theorem wp_appy {ops : Array Oper} {rest : List Oper} {o : Oper} {act : Act} {Q : Exit → Act → World → Prop} (w : World) (hgd : o.guard = none) (s x : Operand)
    (ho : o.op = .call { callee := .builtin .append, args := #[s, x], argTypes := #[22, 22] }) (base : Nat) (v : Value) (zs : List Int) (hs : act.eval s = v) (hN : Nums w base v zs)
    (p : Option Addr) (m c : Nat) (ys : List Int) (hx : act.eval x = .slice p m c) (hR : Rn w p m c ys)
    (hlen : zs.length + m ≤ 1000000000) (hbase : base ≤ w.heap.size)
    (h : ∀ v' w', Nums w' base v' (zs ++ ys) → w.grownBy w' v.ownBlock → wpList Tryz.prog ops Q rest (act.put o.dst v') w') : wpList Tryz.prog ops Q (o :: rest) act w := by
  cases p with
  | some p => exact wp_appx w hgd s x ho base v zs hs hN p m c ys hx hR hlen hbase h
  | none =>
    obtain ⟨h1, h2, h3⟩ : m = 0 ∧ c = 0 ∧ ys = [] := by
      rcases hR with ⟨_, h1, h2, h3⟩ | ⟨x, e, _⟩
      · exact ⟨h1, h2, h3⟩
      · cases e
    subst h1 h2 h3
    obtain ⟨i, hi, hz0, hz1, hz2⟩ := info_parts info_i64
    exact wpList_append_own_none hgd s x 22 ho base 2 i 1 Tryz.underlying22 hi v zs.length _ hs hN hx (h v w (by rw [List.append_nil]; exact hN) (World.grownBy.refl _ _))

/-- What l8Copy has under way: the machine's variable (A), and the answer's place. -/
structure Cy (w v : World) (s : Nat) (A : Array Value) : Prop where
  A : Vb v s A 28
  R : Vb v (s + 1) #[.slice none 0 0, .int .i64 0, .slice none 0 0, .bool false, .bool false, .bool false, .int .i64 0, .slice none 0 0, .slice none 0 0] 28
  b : Below w.heap.size w v
  s : w.heap.size = s
theorem Cy.keep {w v v' : World} {s : Nat} {A : Array Value} (h : Cy w v s A) (b : Below v.heap.size v v') : Cy w v' s A := ⟨h.A.keep b, h.R.keep b, on h.b b, h.s⟩
theorem Cy.put {w v : World} {s : Nat} {A : Array Value} (h : Cy w v s A) (j : Nat) (u : Value) : Cy w (v.setCell ⟨s, j, none⟩ u) s (A.setIfInBounds j u) :=
  ⟨h.A.set j u, h.R.put _ _ (by show s + 1 ≠ s; omega), h.b.setCell (by have := h.s; show w.heap.size ≤ s; omega) _, h.s⟩

end Go.Proofs.YtcbcbgomafeccaaGreatDoor
namespace Go.Proofs.YtcbcbgomafeccaaGreatDoor
open Go.RowKit
set_option linter.unusedVariables false

set_option maxRecDepth 20000 in
set_option maxHeartbeats 4000000 in
theorem eqr_hart (r c i o r' c' i' o' : Value) (H : Ht) (w : World) (h : Hr w r c i o H) (k : Hr w r' c' i' o' H) :
    Calls Tryz.prog 13 #[.agg #[r, .int .i64 H.pc, c, .bool H.halted, .bool H.waiting, .bool H.rung, .int .i64 H.done, i, o], .agg #[r', .int .i64 H.pc, c', .bool H.halted, .bool H.waiting, .bool H.rung, .int .i64 H.done, i', o']] w fun e w' => e = .returned (.bool true) ∧ Below w.heap.size w w' := by
  obtain ⟨a0, k0, rfl, _⟩ := h.r
  obtain ⟨a1, k1, rfl, _⟩ := h.c
  obtain ⟨a2, k2, rfl, _⟩ := h.i
  obtain ⟨a3, k3, rfl, _⟩ := h.o
  obtain ⟨x0, l0, rfl, _⟩ := k.r
  obtain ⟨x1, l1, rfl, _⟩ := k.c
  obtain ⟨x2, l2, rfl, _⟩ := k.i
  obtain ⟨x3, l3, rfl, _⟩ := k.o
  have HM : Hid (Hr w _ _ _ _ H) := h
  have KM : Hid (Hr w _ _ _ _ H) := k
  clear h k
  generalize H.regs.length = n0 at *
  generalize H.csr.length = n1 at *
  generalize H.inn.length = n2 at *
  generalize H.out.length = n3 at *
  generalize hW : (w.alloc (.cells #[.slice a0 n0 k0, .int .i64 H.pc, .slice a1 n1 k1, .bool H.halted, .bool H.waiting, .bool H.rung, .int .i64 H.done, .slice a2 n2 k2, .slice a3 n3 k3] 28)).alloc (.cells #[.slice x0 n0 l0, .int .i64 H.pc, .slice x1 n1 l1, .bool H.halted, .bool H.waiting, .bool H.rung, .int .i64 H.done, .slice x2 n2 l2, .slice x3 n3 l3] 28) = W
  have B0 : Hid (Below w.heap.size w W) := by show Below _ _ _; rw [← hW]; exact al (al (Below.refl _ _) _) _
  obtain ⟨s, hS⟩ : ∃ s, w.heap.size = s := ⟨_, rfl⟩
  have VA : Hid (Vb W s #[.slice a0 n0 k0, .int .i64 H.pc, .slice a1 n1 k1, .bool H.halted, .bool H.waiting, .bool H.rung, .int .i64 H.done, .slice a2 n2 k2, .slice a3 n3 k3] 28) := by
    show Vb _ _ _ _
    rw [← hW, ← hS]
    exact (Vb.new _ _ _).push _
  have VB : Hid (Vb W (s + 1) #[.slice x0 n0 l0, .int .i64 H.pc, .slice x1 n1 l1, .bool H.halted, .bool H.waiting, .bool H.rung, .int .i64 H.done, .slice x2 n2 l2, .slice x3 n3 l3] 28) := by
    show Vb _ _ _ _
    have z1 : s + 1 = (w.alloc (.cells #[.slice a0 n0 k0, .int .i64 H.pc, .slice a1 n1 k1, .bool H.halted, .bool H.waiting, .bool H.rung, .int .i64 H.done, .slice a2 n2 k2, .slice a3 n3 k3] 28)).heap.size := by rw [← hS]; simp
    rw [← hW, z1]
    exact Vb.new _ _ _
  have q0 := VA.out.cell 0 rfl
  have p0 := VB.out.cell 0 rfl
  go_enter Tryz.func13, Tryz.ntmps13
  go_wp2_with fail
  clear hW hS q0 p0
  refine (eq_rn _ _ _ _ (HM.out.stay B0.out).r (KM.out.stay B0.out).r).mono ?_
  rintro e w1 ⟨rfl, b1⟩
  have B1 : Hid (Below w.heap.size w w1) := on B0.out b1
  have VA1 : Hid (Vb w1 _ _ _) := VA.out.keep b1
  have VB1 : Hid (Vb w1 _ _ _) := VB.out.keep b1
  have q1 := VA1.out.cell 1 rfl
  have p1 := VB1.out.cell 1 rfl
  have q2 := VA1.out.cell 2 rfl
  have p2 := VB1.out.cell 2 rfl
  clear b1 VA VB B0
  go_wp2_with fail
  clear q1 p1 q2 p2
  refine (eq_rn _ _ _ _ (HM.out.stay B1.out).c (KM.out.stay B1.out).c).mono ?_
  rintro e w2 ⟨rfl, b1⟩
  have B2 : Hid (Below w.heap.size w w2) := on B1.out b1
  have VA2 : Hid (Vb w2 _ _ _) := VA1.out.keep b1
  have VB2 : Hid (Vb w2 _ _ _) := VB1.out.keep b1
  have q3 := VA2.out.cell 3 rfl
  have p3 := VB2.out.cell 3 rfl
  have q4 := VA2.out.cell 4 rfl
  have p4 := VB2.out.cell 4 rfl
  have q5 := VA2.out.cell 5 rfl
  have p5 := VB2.out.cell 5 rfl
  have q6 := VA2.out.cell 6 rfl
  have p6 := VB2.out.cell 6 rfl
  have q7 := VA2.out.cell 7 rfl
  have p7 := VB2.out.cell 7 rfl
  clear b1 VA1 VB1 B1
  go_wp2_with fail
  clear q3 p3 q4 p4 q5 p5 q6 p6 q7 p7
  refine (eq_rn _ _ _ _ (HM.out.stay B2.out).i (KM.out.stay B2.out).i).mono ?_
  rintro e w3 ⟨rfl, b1⟩
  have B3 : Hid (Below w.heap.size w w3) := on B2.out b1
  have q8 := (VA2.out.keep b1).cell 8 rfl
  have p8 := (VB2.out.keep b1).cell 8 rfl
  clear b1 VA2 VB2 B2
  go_wp2_with fail
  refine (eq_rn _ _ _ _ (HM.out.stay B3.out).o (KM.out.stay B3.out).o).mono ?_
  rintro e w4 ⟨rfl, b1⟩
  go_wp2_with fail
  go_ret
  exact ⟨rfl, on B3.out b1⟩

end Go.Proofs.YtcbcbgomafeccaaGreatDoor
namespace Go.Proofs.YtcbcbgomafeccaaGreatDoor
open Go.RowKit
set_option linter.unusedVariables false

set_option maxRecDepth 20000 in
set_option maxHeartbeats 4000000 in
theorem s_asked (q : Nat) (r c i o : Value) (H : Ht) (pa : Option Addr) (pn pc : Nat) (ps : List (Int × Int)) (ma : Option Addr) (mn mc : Nat) (zs : List Int) (b : Nat) (w : World) (h : Hm w b r c i o H) (hv : Vb w q #[r, .int .i64 H.pc, c, .bool H.halted, .bool H.waiting, .bool H.rung, .int .i64 H.done, i, o] 28) (hP : Prs 55 w b (.slice pa pn pc) ps) (hl : ps.length ≤ 1048576) (hM : Nums w b (.slice ma mn mc) zs) (hm : zs.length ≤ 1048576) :
    Calls Tryz.prog 24 #[.pointer (some ⟨q, 0, none⟩), .slice pa pn pc, .slice ma mn mc] w fun e w' => e = .returned (.int .i64 (seenC H ps zs)) ∧ w' = w := by
  have sF := s_fault q r c i o H b w h hv
  have sP := spec_fault _ ps 24 b w hP hl
  have sM := spec_memFault _ zs b w hM
  have HP : Hid (Prs 55 w b (.slice pa pn pc) ps) := hP
  have HN : Hid (mn = zs.length ∧ pn = ps.length) := by
    refine ⟨hM.len, ?_⟩
    obtain ⟨a, cap, hv, _⟩ := hP.shape
    cases hv
    rfl
  clear h hP hM hl hm hv
  by_cases hf : hfV H = 0
  case neg =>
    have HE : Hid (seenC H ps zs = hfV H) := if_neg hf
    generalize hfV H = f at *
    go_enter Tryz.func24, Tryz.ntmps24
    go_wp2_with (go_at_call 36; refine sF.mono ?_; rintro e y ⟨rfl, hy⟩; rw [hy]; clear hy y)
    go_ret
    exact ⟨by rw [HE.out]; rfl, rfl⟩
  have E1 : seenC H ps zs = if pgsV ps 24 = 0 then (if memV zs = 0 then (if beyB ps zs.length then 1 else 0) else 1) else pgsV ps 24 := if_pos hf
  rw [hf] at sF
  clear hf
  by_cases hp : pgsV ps 24 = 0
  case neg =>
    have HE : Hid (seenC H ps zs = pgsV ps 24) := by show _ = _; rw [E1, if_neg hp]
    clear E1
    generalize pgsV ps 24 = f at *
    go_enter Tryz.func24, Tryz.ntmps24
    go_wp2_with (first | (go_at_call 36; refine sF.mono ?_; rintro e y ⟨rfl, hy⟩; rw [hy]; clear hy y) | (go_at_call 37; refine sP.mono ?_; rintro e y ⟨rfl, hy⟩; rw [hy]; clear hy y))
    go_ret
    exact ⟨by rw [HE.out]; rfl, rfl⟩
  rw [if_pos hp] at E1
  obtain ⟨_, _, hl8, _⟩ := pgsV_zero hp
  rw [hp] at sP
  have HOK : Hid (okTo 24 ps 8) := (pgsV_zero hp).2.2.2
  clear hp
  by_cases hz : memV zs = 0
  case neg =>
    have HE : Hid (seenC H ps zs = 1) := by show _ = _; rw [E1, if_neg hz]
    clear E1 hl8
    generalize memV zs = f at *
    go_enter Tryz.func24, Tryz.ntmps24
    go_wp2_with (first | (go_at_call 36; refine sF.mono ?_; rintro e y ⟨rfl, hy⟩; rw [hy]; clear hy y) | (go_at_call 37; refine sP.mono ?_; rintro e y ⟨rfl, hy⟩; rw [hy]; clear hy y) | (go_at_call 38; refine sM.mono ?_; rintro e y ⟨rfl, hy⟩; rw [hy]; clear hy y))
    go_ret
    exact ⟨by rw [HE.out]; rfl, rfl⟩
  rw [if_pos hz] at E1
  have hz8 : ∃ p, zs.length = p * 8 ∧ p ≤ 24 := by
    unfold memV at hz
    split at hz
    · rename_i hf
      unfold formB at hf
      have hf := of_decide_eq_true hf
      exact ⟨zs.length / 8, by omega, by omega⟩
    · exact absurd hz (by decide)
  obtain ⟨p, hzp, hp24⟩ := hz8
  rw [hz] at sM
  obtain ⟨hn1, hn2⟩ := HN.out
  obtain rfl : mn = p * 8 := by omega
  obtain rfl : pn = 8 := by omega
  obtain ⟨pa', pc', hv, -, -, hg⟩ := HP.out.shape
  obtain ⟨g, hg⟩ := hg (by omega)
  simp only [Value.slice.injEq] at hv
  obtain ⟨hv1, -, -⟩ := hv
  rw [hg] at hv1
  subst hv1
  clear hg
  rw [hzp] at E1
  have HL : Hid (ps.length = 8) := hl8
  have HD : Hid (p * 8 / 8 = p) := by show _ = _; omega
  have HE1 : Hid (seenC H ps zs = if beyB ps (p * 8) then 1 else 0) := E1
  have hpi : (p : Int) ≤ 24 := by omega
  clear hz hn1 hn2 E1 hzp hp24 hl8
  go_enter Tryz.func24, Tryz.ntmps24
  go_wp2_with (first | (go_at_call 36; refine sF.mono ?_; rintro e y ⟨rfl, hy⟩; rw [hy]; clear hy y) | (go_at_call 37; refine sP.mono ?_; rintro e y ⟨rfl, hy⟩; rw [hy]; clear hy y) | (go_at_call 38; refine sM.mono ?_; rintro e y ⟨rfl, hy⟩; rw [hy]; clear hy y))
  clear sF sP sM
  go_loop [9] (fun c => ∃ j : Nat, j ≤ 8 ∧ c = .int .i64 j ∧ beyB (ps.take j) (p * 8) = false) (fun c => 8 - (intOf c).toNat)
  case atStart => exact ⟨0, Nat.zero_le _, rfl, rfl⟩
  case round =>
    obtain ⟨j, hj, rfl, hA⟩ := hrel
    have HA : Hid (beyB (ps.take j) (p * 8) = false) := hA
    clear hA
    by_cases hlt : j < 8
    · have c0 := (HP.out.cell HL.out.symm j hlt).1
      have hI : (j : Int) < 8 := by omega
      have HLT : Hid (j < 8) := hlt
      have HT := bey_take ps (p * 8) j (by have := HL.out; omega)
      rw [HA.out] at HT
      have HE := bey_here (ps := ps) (n := p * 8) (j := j) (by have := HL.out; omega)
      rw [HD.out] at HT HE
      have hr := pgC_zero (HOK.out j hlt)
      generalize (ps.getD j (0, 0)).1 = x at *
      have hr1 : -1 ≤ x := hr.1
      have hr2 : x ≤ 23 := by omega
      have HTT : Hid (beyB (ps.take (j + 1)) (p * 8) = (false || decide ((p : Int) ≤ x))) := HT
      have HEE : Hid ((p : Int) ≤ x → beyB ps (p * 8) = true) := HE
      clear HT HE hlt hr
      by_cases hx : (p : Int) ≤ x
      · have hx3 : (p : Int) * 8 < (x + 1) * 8 := by omega
        go_wp2_with fail
        go_ret
        exact ⟨by rw [HE1.out, HEE.out hx]; rfl, rfl⟩
      · have hx2 : x < (p : Int) := by omega
        have hx3 : ¬ (p : Int) * 8 < (x + 1) * 8 := by omega
        go_wp2_with fail
        go_round
        case rel => exact ⟨j + 1, by have := HLT.out; omega, by go_num, by rw [HTT.out]; simpa using hx2⟩
        case measure => have := HLT.out; simp [intOf]; omega
    · have hI : ¬ (j : Int) < 8 := by omega
      obtain rfl : j = 8 := by omega
      have HE : Hid (seenC H ps zs = 0) := by
        have := HA.out
        rw [List.take_of_length_le (Nat.le_of_eq HL.out)] at this
        show _ = _
        rw [HE1.out, this]
        rfl
      go_wp2_with fail
      go_ret
      exact ⟨by rw [HE.out]; rfl, rfl⟩
end Go.Proofs.YtcbcbgomafeccaaGreatDoor
namespace Go.Proofs.YtcbcbgomafeccaaGreatDoor
open Go.RowKit
set_option linter.unusedVariables false

set_option maxHeartbeats 4000000 in
theorem i_through2 (x k : Int) (S q : Nat) (v : Value) (c0 y0 c1 y1 C Y : Int) (w : World) (hS : S < w.heap.size)
    (hf0 : w.cell? ⟨S, 0, none⟩ = some (.func (.func 138) #[v] #[])) (hf1 : w.cell? ⟨S, 1, none⟩ = some (.func (.func 139) #[.pointer (some ⟨q, 0, none⟩)] #[]))
    (h0 : ∀ u, Below w.heap.size w u → Calls Tryz.prog 138 #[v, .int .i64 x, .int .i64 k] u fun e w' => e = .returned (.agg #[.int .i64 c0, .int .i64 y0]) ∧ Below u.heap.size u w')
    (h1 : c0 = 0 → ∀ u, Below w.heap.size w u → Calls Tryz.prog 139 #[.pointer (some ⟨q, 0, none⟩), .int .i64 y0, .int .i64 k] u fun e w' => e = .returned (.agg #[.int .i64 c1, .int .i64 y1]) ∧ Below u.heap.size u w') (hr : (c0 = 0 → C = c1 ∧ Y = y1) ∧ (¬ c0 = 0 → C = c0 ∧ Y = y0)) :
    Calls Tryz.prog 137 #[.int .i64 x, .int .i64 k, .slice (some ⟨S, 0, none⟩) 2 2] w fun e w' => e = .returned (.agg #[.int .i64 C, .int .i64 Y]) ∧ Below w.heap.size w w' := by
  have F0 : Hid (w.cell? ⟨S, 0, none⟩ = some (.func (.func 138) #[v] #[])) := hf0
  have F1 : Hid (w.cell? ⟨S, 1, none⟩ = some (.func (.func 139) #[.pointer (some ⟨q, 0, none⟩)] #[])) := hf1
  have H1 : Hid (c0 = 0 → ∀ u, Below w.heap.size w u → Calls Tryz.prog 139 #[.pointer (some ⟨q, 0, none⟩), .int .i64 y0, .int .i64 k] u fun e w' => e = .returned (.agg #[.int .i64 c1, .int .i64 y1]) ∧ Below u.heap.size u w') := h1
  have HR : Hid ((c0 = 0 → C = c1 ∧ Y = y1) ∧ (¬ c0 = 0 → C = c0 ∧ Y = y0)) := hr
  clear hf0 hf1 h1 hr
  go_enter Tryz.func137, Tryz.ntmps137
  go_wp2_with fail
  go_loopw [9, 14] (fun _ c wr => ∃ (j : Nat) (y : Int), j ≤ 2 ∧ c = .int .i64 j ∧ ((j = 0 ∧ y = x) ∨ (j = 1 ∧ y = y0 ∧ c0 = 0) ∨ (j = 2 ∧ y = y1 ∧ c0 = 0 ∧ c1 = 0)) ∧ Below w.heap.size w wr ∧ wr.cell? ⟨w.heap.size, 0, none⟩ = some (.int .i64 0) ∧ wr.cell? ⟨w.heap.size, 1, none⟩ = some (.int .i64 0) ∧ wr.frozen? ⟨w.heap.size, 0, none⟩ = false ∧ wr.frozen? ⟨w.heap.size, 1, none⟩ = false
    ∧ wr.cell? ⟨w.heap.size + 1, 0, none⟩ = some (.int .i64 0) ∧ wr.cell? ⟨w.heap.size + 1, 1, none⟩ = some (.int .i64 y) ∧ wr.frozen? ⟨w.heap.size + 1, 0, none⟩ = false ∧ wr.frozen? ⟨w.heap.size + 1, 1, none⟩ = false) (fun _ c _ => 2 - (intOf c).toNat)
  case atStart => exact ⟨0, x, Nat.zero_le _, rfl, .inl ⟨rfl, rfl⟩, al (al (Below.refl _ _) _) _, by simp, by simp, by simp, by simp, by simp, by simp, by simp, by simp⟩
  case round =>
    obtain ⟨j, y, hj, rfl, hT, hB, r0, r1, f0, f1, p0, p1, g0, g1⟩ := hrel
    have HB : Hid (Below w.heap.size w wr) := hB
    have s1 : w.heap.size + 1 < wr.heap.size := block_of_cell p0
    have s0 : w.heap.size < wr.heap.size := by omega
    have Sw : S < wr.heap.size := by omega
    rcases hT with ⟨rfl, rfl⟩ | ⟨rfl, rfl, hz⟩ | ⟨rfl, rfl, hz0, hz1⟩
    · have c1' := cell_keep hB F0.out
      clear hB hj
      by_cases hcc : c0 = 0
      · have HC0 : Hid (c0 = 0) := hcc
        have hcb : (c0 != 0) = false := by simpa using hcc
        clear hcc
        go_wp2_with (go_at_call 138; refine (h0 _ HB.out).mono ?_; rintro e w5 ⟨rfl, b5⟩; have r0 := cell_keep b5 r0; have r1 := cell_keep b5 r1; have p0 := cell_keep b5 p0; have p1 := cell_keep b5 p1; have B5 : Hid (Below w.heap.size w w5) := on HB.out b5; have f0 : w5.frozen? ⟨w.heap.size, 0, none⟩ = false := (by rw [b5.frozen (p := ⟨w.heap.size, 0, none⟩) s0]; exact f0); have f1 : w5.frozen? ⟨w.heap.size, 1, none⟩ = false := (by rw [b5.frozen (p := ⟨w.heap.size, 1, none⟩) s0]; exact f1); have g0 : w5.frozen? ⟨w.heap.size + 1, 0, none⟩ = false := (by rw [b5.frozen (p := ⟨w.heap.size + 1, 0, none⟩) s1]; exact g0); have g1 : w5.frozen? ⟨w.heap.size + 1, 1, none⟩ = false := (by rw [b5.frozen (p := ⟨w.heap.size + 1, 1, none⟩) s1]; exact g1))
        go_roundw
        case rel => exact ⟨1, y0, by omega, by go_num, .inr (.inl ⟨rfl, rfl, HC0.out⟩), (B5.out.setCell (by simp) _).setCell (by simp) _, by simp [go_sem, r0], by simp [go_sem, r1], by rw [World.frozen?_setCell, World.frozen?_setCell]; exact f0, by rw [World.frozen?_setCell, World.frozen?_setCell]; exact f1, by rw [← HC0.out]; simp [go_sem, p0], by simp [go_sem, p1], by rw [World.frozen?_setCell, World.frozen?_setCell]; exact g0, by rw [World.frozen?_setCell, World.frozen?_setCell]; exact g1⟩
        case measure => simp [intOf]
      · have hc2 : (c0 != 0) = true := by simpa using hcc
        have HCC : Hid (¬ c0 = 0) := hcc
        clear hcc
        go_wp2_with (go_at_call 138; refine (h0 _ HB.out).mono ?_; rintro e w5 ⟨rfl, b5⟩; have r0 := cell_keep b5 r0; have r1 := cell_keep b5 r1; have p0 := cell_keep b5 p0; have p1 := cell_keep b5 p1; have B5 : Hid (Below w.heap.size w w5) := on HB.out b5; have f0 : w5.frozen? ⟨w.heap.size, 0, none⟩ = false := (by rw [b5.frozen (p := ⟨w.heap.size, 0, none⟩) s0]; exact f0); have f1 : w5.frozen? ⟨w.heap.size, 1, none⟩ = false := (by rw [b5.frozen (p := ⟨w.heap.size, 1, none⟩) s0]; exact f1); have g0 : w5.frozen? ⟨w.heap.size + 1, 0, none⟩ = false := (by rw [b5.frozen (p := ⟨w.heap.size + 1, 0, none⟩) s1]; exact g0); have g1 : w5.frozen? ⟨w.heap.size + 1, 1, none⟩ = false := (by rw [b5.frozen (p := ⟨w.heap.size + 1, 1, none⟩) s1]; exact g1))
        exact bodyPost_ret (v := .agg #[.int .i64 c0, .int .i64 y0]) (by simp [results, Tryz.results137, go_sem, r0, r1]) rfl ⟨by rw [(HR.out.2 HCC.out).1, (HR.out.2 HCC.out).2], (((B5.out.setCell (by simp) _).setCell (by simp) _).setCell (by simp) _).setCell (by simp) _⟩
    · have c1' := cell_keep hB F1.out
      have hW := H1.out hz
      have HZ : Hid (c0 = 0) := hz
      clear hB hj hz
      by_cases hcc : c1 = 0
      · have HC0 : Hid (c1 = 0) := hcc
        have hcb : (c1 != 0) = false := by simpa using hcc
        clear hcc
        go_wp2_with (go_at_call 139; refine (hW _ HB.out).mono ?_; rintro e w5 ⟨rfl, b5⟩; have r0 := cell_keep b5 r0; have r1 := cell_keep b5 r1; have p0 := cell_keep b5 p0; have p1 := cell_keep b5 p1; have B5 : Hid (Below w.heap.size w w5) := on HB.out b5; have f0 : w5.frozen? ⟨w.heap.size, 0, none⟩ = false := (by rw [b5.frozen (p := ⟨w.heap.size, 0, none⟩) s0]; exact f0); have f1 : w5.frozen? ⟨w.heap.size, 1, none⟩ = false := (by rw [b5.frozen (p := ⟨w.heap.size, 1, none⟩) s0]; exact f1); have g0 : w5.frozen? ⟨w.heap.size + 1, 0, none⟩ = false := (by rw [b5.frozen (p := ⟨w.heap.size + 1, 0, none⟩) s1]; exact g0); have g1 : w5.frozen? ⟨w.heap.size + 1, 1, none⟩ = false := (by rw [b5.frozen (p := ⟨w.heap.size + 1, 1, none⟩) s1]; exact g1))
        go_roundw
        case rel => exact ⟨2, y1, by omega, by go_num, .inr (.inr ⟨rfl, rfl, HZ.out, HC0.out⟩), (B5.out.setCell (by simp) _).setCell (by simp) _, by simp [go_sem, r0], by simp [go_sem, r1], by rw [World.frozen?_setCell, World.frozen?_setCell]; exact f0, by rw [World.frozen?_setCell, World.frozen?_setCell]; exact f1, by rw [← HC0.out]; simp [go_sem, p0], by simp [go_sem, p1], by rw [World.frozen?_setCell, World.frozen?_setCell]; exact g0, by rw [World.frozen?_setCell, World.frozen?_setCell]; exact g1⟩
        case measure => simp [intOf]
      · have hc2 : (c1 != 0) = true := by simpa using hcc
        have HCC : Hid (¬ c1 = 0) := hcc
        clear hcc
        go_wp2_with (go_at_call 139; refine (hW _ HB.out).mono ?_; rintro e w5 ⟨rfl, b5⟩; have r0 := cell_keep b5 r0; have r1 := cell_keep b5 r1; have p0 := cell_keep b5 p0; have p1 := cell_keep b5 p1; have B5 : Hid (Below w.heap.size w w5) := on HB.out b5; have f0 : w5.frozen? ⟨w.heap.size, 0, none⟩ = false := (by rw [b5.frozen (p := ⟨w.heap.size, 0, none⟩) s0]; exact f0); have f1 : w5.frozen? ⟨w.heap.size, 1, none⟩ = false := (by rw [b5.frozen (p := ⟨w.heap.size, 1, none⟩) s0]; exact f1); have g0 : w5.frozen? ⟨w.heap.size + 1, 0, none⟩ = false := (by rw [b5.frozen (p := ⟨w.heap.size + 1, 0, none⟩) s1]; exact g0); have g1 : w5.frozen? ⟨w.heap.size + 1, 1, none⟩ = false := (by rw [b5.frozen (p := ⟨w.heap.size + 1, 1, none⟩) s1]; exact g1))
        exact bodyPost_ret (v := .agg #[.int .i64 c1, .int .i64 y1]) (by simp [results, Tryz.results137, go_sem, r0, r1]) rfl ⟨by rw [(HR.out.1 HZ.out).1, (HR.out.1 HZ.out).2], (((B5.out.setCell (by simp) _).setCell (by simp) _).setCell (by simp) _).setCell (by simp) _⟩
    · have HZ : Hid (c0 = 0 ∧ c1 = 0) := ⟨hz0, hz1⟩
      clear hB hj hz0 hz1
      go_wp2_with fail
      exact bodyPost_ret (v := .agg #[.int .i64 0, .int .i64 y]) (by simp [results, Tryz.results137, go_sem, r0, r1]) rfl ⟨by rw [(HR.out.1 HZ.out.1).1, (HR.out.1 HZ.out.1).2, HZ.out.2], (HB.out.setCell (by simp) _).setCell (by simp) _⟩
end Go.Proofs.YtcbcbgomafeccaaGreatDoor
namespace Go.Proofs.YtcbcbgomafeccaaGreatDoor
open Go.RowKit
set_option linter.unusedVariables false

theorem wk_zero {rs : List (Int × Int)} {x k : Int} (h : ¬ wkC rs x k = 0) : wkV rs x k = 0 := by
  unfold wkV
  unfold wkC at h
  cases hk : kindB k
  · rfl
  · rw [hk] at h
    cases hg : goesB rs x k
    · rfl
    · rw [hg] at h
      simp at h
set_option maxRecDepth 20000 in
set_option maxHeartbeats 4000000 in
theorem i_behind (q : Nat) (i o : Value) (H : Ht) (pg pc : Nat) (ps : List (Int × Int)) (g p : Nat) (ca ri : Int) (b : Nat) (w : World) (hv : Vb w q (mcr H i o (.slice (some ⟨pg, 0, none⟩) 8 pc) (.slice (some ⟨g, 0, none⟩) p p) ca ri) 70) (hP : Prs 55 w b (.slice (some ⟨pg, 0, none⟩) 8 pc) ps) (hl : ps.length = 8) (ho : okTo 24 ps 8) (y k : Int) (h0 : 0 ≤ y) (h63 : y ≤ 63) :
    Calls Tryz.prog 139 #[.pointer (some ⟨q, 0, none⟩), .int .i64 y, .int .i64 k] w fun e w' => e = .returned (.agg #[.int .i64 (behC ps y k), .int .i64 (behV ps y k)]) ∧ Below w.heap.size w w' := by
  have HV : Hid (Vb w q (mcr H i o (.slice (some ⟨pg, 0, none⟩) 8 pc) (.slice (some ⟨g, 0, none⟩) p p) ca ri) 70) := hv
  have HP : Hid (Prs 55 w b (.slice (some ⟨pg, 0, none⟩) 8 pc) ps) := hP
  have HL : Hid (ps.length = 8 ∧ okTo 24 ps 8) := ⟨hl, ho⟩
  clear hv hP hl ho
  generalize hW : w.alloc (.cells #[.int .i64 0, .int .i64 0] 122) = W
  have B0 : Hid (Below w.heap.size w W) := by show Below _ _ _; rw [← hW]; exact al (Below.refl _ _) _
  obtain ⟨s, hS⟩ : ∃ s, w.heap.size = s := ⟨_, rfl⟩
  have HS : Hid (w.heap.size = s) := hS
  have VR : Hid (Vb W s #[.int .i64 0, .int .i64 0] 122) := by show Vb _ _ _ _; rw [← hW, ← hS]; exact Vb.new _ _ _
  have V0 : Hid (Vb W q (mcr H i o (.slice (some ⟨pg, 0, none⟩) 8 pc) (.slice (some ⟨g, 0, none⟩) p p) ca ri) 70) := HV.out.keep B0.out
  have c34 : W.cell? ⟨q, 34, none⟩ = some (.slice (some ⟨pg, 0, none⟩) 8 pc) := V0.out.cell 34 rfl
  have aB : atB y = true := by unfold atB; simp; omega
  have aN : atN y = y / 8 := by unfold atN; rw [aB]; rfl
  obtain ⟨m, hm⟩ : ∃ m, y / 8 = m := ⟨_, rfl⟩
  have HMM : Hid (y / 8 = m) := hm
  obtain ⟨C, hC⟩ : ∃ C, behC ps y k = C := ⟨_, rfl⟩
  obtain ⟨Y, hY⟩ : ∃ Y, behV ps y k = Y := ⟨_, rfl⟩
  have HC : Hid (behC ps y k = C) := hC
  have HY : Hid (behV ps y k = Y) := hY
  rw [hC, hY]
  clear hC hY
  by_cases h7 : m = 7
  · subst h7
    have E7 : Hid (y / 8 = 7) := hm
    by_cases h4 : k = 4
    · subst h4
      have EC : Hid (C = 9 ∧ Y = 0) := ⟨by rw [← HC.out, behC, if_pos E7.out, if_pos rfl], by rw [← HY.out, behV, if_pos E7.out, if_pos rfl]⟩
      go_enter Tryz.func139, Tryz.ntmps139
      have p0 := VR.out.cell 0 rfl
      have f0 := VR.out.free 0
      have p1 := VR.out.cell 1 rfl
      have f1 := VR.out.free 1
      go_wp2_with (go_at_call 145; refine (impl_pageOf y _).mono ?_; rintro e z ⟨rfl, hz⟩; rw [hz, aB, aN, hm]; clear hz z)
      clear aB aN hm hW hS c34
      have NN : Hid (_ ∧ _) := twoX VR.out (.int .i64 9) (.int .i64 0)
      clear p0 f0 p1 f1
      generalize ((W.setCell ⟨s, 0, none⟩ (.int .i64 9)).setCell ⟨s, 1, none⟩ (.int .i64 0)) = V at *
      have x0 := NN.out.1.cell 0 rfl
      have x1 := NN.out.1.cell 1 rfl
      exact bodyPost_ret (v := .agg #[.int .i64 9, .int .i64 0]) (by simp [results, Tryz.results139, go_sem, x0, x1]) rfl
        ⟨by rw [EC.out.1, EC.out.2], Mq.under B0.out NN.out.2 fun k e => by have := HS.out; omega⟩
    · have h4b : (k == 4) = false := by simpa using h4
      have tm : y.tmod 8 = y % 8 := Int.tmod_eq_emod_of_nonneg h0
      obtain ⟨z8, hz8⟩ : ∃ z8, y % 8 = z8 := ⟨_, rfl⟩
      have hz0 : 0 ≤ z8 := by omega
      have hz7 : z8 ≤ 7 := by omega
      have EC : Hid (C = 0 ∧ Y = 1000 + z8) := ⟨by rw [← HC.out, behC, if_pos E7.out, if_neg h4], by rw [← HY.out, behV, if_pos E7.out, if_neg h4, hz8]⟩
      rw [hz8] at tm
      clear h4 hz8
      go_enter Tryz.func139, Tryz.ntmps139
      have p0 := VR.out.cell 0 rfl
      have f0 := VR.out.free 0
      have p1 := VR.out.cell 1 rfl
      have f1 := VR.out.free 1
      go_wp2_with (go_at_call 145; refine (impl_pageOf y _).mono ?_; rintro e z ⟨rfl, hz⟩; rw [hz, aB, aN, hm]; clear hz z)
      clear aB aN hm hW hS c34
      have NN : Hid (_ ∧ _) := twoX VR.out (.int .i64 0) (.int .i64 (1000 + z8))
      clear p0 f0 p1 f1
      generalize ((W.setCell ⟨s, 0, none⟩ (.int .i64 0)).setCell ⟨s, 1, none⟩ (.int .i64 (1000 + z8))) = V at *
      have x0 := NN.out.1.cell 0 rfl
      have x1 := NN.out.1.cell 1 rfl
      exact bodyPost_ret (v := .agg #[.int .i64 0, .int .i64 (1000 + z8)]) (by simp [results, Tryz.results139, go_sem, x0, x1]) rfl
        ⟨by rw [EC.out.1, EC.out.2], Mq.under B0.out NN.out.2 fun k e => by have := HS.out; omega⟩
  · have h7b : (m != 7) = true := by simpa using h7
    have EC : Hid (C = wkC ps y k ∧ Y = wkV ps y k) := ⟨by rw [← HC.out, behC, if_neg (by rw [hm]; exact h7)], by rw [← HY.out, behV, if_neg (by rw [hm]; exact h7)]⟩
    go_enter Tryz.func139, Tryz.ntmps139
    go_wp2_with (go_at_call 145; refine (impl_pageOf y _).mono ?_; rintro e z ⟨rfl, hz⟩; rw [hz, aB, aN, hm]; clear hz z)
    clear aB aN hm hW hS c34 h7 h7b
    refine (impl_walk _ ps y k b W (HP.out.keep B0.out) HL.out.1 HL.out.2).mono ?_
    rintro e w1 ⟨rfl, b1⟩
    have B1 : Hid (Below w.heap.size w w1) := on B0.out b1
    have VR1 : Hid (Vb w1 s #[.int .i64 0, .int .i64 0] 122) := VR.out.keep b1
    clear b1
    generalize wkC ps y k = c1 at *
    generalize wkV ps y k = y1 at *
    have p0 := VR1.out.cell 0 rfl
    have f0 := VR1.out.free 0
    have p1 := VR1.out.cell 1 rfl
    have f1 := VR1.out.free 1
    go_wp2_with fail
    have NN : Hid (_ ∧ _) := twoX VR1.out (.int .i64 c1) (.int .i64 y1)
    clear p0 f0 p1 f1
    generalize ((w1.setCell ⟨s, 0, none⟩ (.int .i64 c1)).setCell ⟨s, 1, none⟩ (.int .i64 y1)) = V at *
    have x0 := NN.out.1.cell 0 rfl
    have x1 := NN.out.1.cell 1 rfl
    exact bodyPost_ret (v := .agg #[.int .i64 c1, .int .i64 y1]) (by simp [results, Tryz.results139, go_sem, x0, x1]) rfl
      ⟨by rw [EC.out.1, EC.out.2], Mq.under B1.out NN.out.2 fun k e => by have := HS.out; omega⟩

set_option maxRecDepth 20000 in
set_option maxHeartbeats 4000000 in
theorem i_place (q : Nat) (i o : Value) (H : Ht) (pg pc : Nat) (ps : List (Int × Int)) (g p : Nat) (zs : List Int) (ca ri : Int) (b : Nat) (w : World) (hv : Vb w q (mcr H i o (.slice (some ⟨pg, 0, none⟩) 8 pc) (.slice (some ⟨g, 0, none⟩) p p) ca ri) 70) (hP : Prs 55 w b (.slice (some ⟨pg, 0, none⟩) 8 pc) ps) (hG : Pags w b (.slice (some ⟨g, 0, none⟩) p p) p zs) (sn : Sn H ps zs p) (x k : Int) (hk : kindB k = true) :
    Calls Tryz.prog 131 #[.pointer (some ⟨q, 0, none⟩), .int .i64 x, .int .i64 k] w fun e w' => e = .returned (.agg #[.int .i64 (plC H ps zs x k), .int .i64 (plV H ps zs x k)]) ∧ Below w.heap.size w w' := by
  have HV : Hid (Vb w q (mcr H i o (.slice (some ⟨pg, 0, none⟩) 8 pc) (.slice (some ⟨g, 0, none⟩) p p) ca ri) 70) := hv
  have HP : Hid (Prs 55 w b (.slice (some ⟨pg, 0, none⟩) 8 pc) ps) := hP
  have HG : Hid (Pags w b (.slice (some ⟨g, 0, none⟩) p p) p zs) := hG
  have SN : Hid (Sn H ps zs p) := sn
  have HK : Hid (kindB k = true) := hk
  clear hv hP hG sn hk
  generalize hW : w.alloc (.cells #[.int .i64 0, .int .i64 0] 122) = W
  have B0 : Hid (Below w.heap.size w W) := by show Below _ _ _; rw [← hW]; exact al (Below.refl _ _) _
  obtain ⟨s, hS⟩ : ∃ s, w.heap.size = s := ⟨_, rfl⟩
  have HS : Hid (w.heap.size = s) := hS
  have VR : Hid (Vb W s #[.int .i64 0, .int .i64 0] 122) := by show Vb _ _ _ _; rw [← hW, ← hS]; exact Vb.new _ _ _
  have V0 : Hid (Vb W q (mcr H i o (.slice (some ⟨pg, 0, none⟩) 8 pc) (.slice (some ⟨g, 0, none⟩) p p) ca ri) 70) := HV.out.keep B0.out
  obtain ⟨C, hC⟩ : ∃ C, plC H ps zs x k = C := ⟨_, rfl⟩
  obtain ⟨Y, hY⟩ : ∃ Y, plV H ps zs x k = Y := ⟨_, rfl⟩
  have HC : Hid (plC H ps zs x k = C) := hC
  have HY : Hid (plV H ps zs x k = Y) := hY
  rw [hC, hY]
  clear hC hY
  go_enter Tryz.func131, Tryz.ntmps131
  go_wp2_with fail
  clear hW hS
  refine (i_space q i o H pg pc ps g p zs ca ri b W V0.out (HP.out.keep B0.out) (HG.out.keep B0.out) SN.out).mono ?_
  rintro e w1 ⟨u, rfl, pu, b1⟩
  obtain ⟨ua, uc, hu, _⟩ := pu.shape
  obtain ⟨ul, hul⟩ : ∃ ul, (spP H ps zs).length = ul := ⟨_, rfl⟩
  rw [hul] at hu
  subst hu
  obtain ⟨d, hd⟩ : ∃ d, spC H ps = d := ⟨_, rfl⟩
  have HD : Hid (spC H ps = d) := hd
  rw [hd]
  clear hd hul
  go_upto_region 2 with fail
  generalize hW1 : w1.alloc (.cells #[.int .i64 d, .slice ua ul uc] 150) = W1
  obtain ⟨n, hn⟩ : ∃ n, w1.heap.size = n := ⟨_, rfl⟩
  rw [hn]
  have VN : Hid (Vb W1 n #[.int .i64 d, .slice ua ul uc] 150) := by show Vb _ _ _ _; rw [← hW1, ← hn]; exact Vb.new _ _ _
  have bb : Below W.heap.size W W1 := by rw [← hW1]; exact al b1 _
  have PU : Hid (Prs 55 W1 W.heap.size (.slice ua ul uc) (spP H ps zs)) := by show Prs _ _ _ _ _; rw [← hW1]; exact pu.keep (al (Below.refl _ _) _)
  have B1 : Hid (Below w.heap.size w W1) := on B0.out bb
  have VR1 : Hid (Vb W1 s #[.int .i64 0, .int .i64 0] 122) := VR.out.keep bb
  have V1 : Hid (Vb W1 q (mcr H i o (.slice (some ⟨pg, 0, none⟩) 8 pc) (.slice (some ⟨g, 0, none⟩) p p) ca ri) 70) := V0.out.keep bb
  clear hW1 hn b1 bb pu VR V0
  have n0 := VN.out.cell 0 rfl
  have n1 := VN.out.cell 1 rfl
  by_cases hd0 : d = 0
  case neg =>
    have hdb : (d != 0) = true := by simpa using hd0
    have EC : Hid (C = d ∧ Y = 0) := ⟨by rw [← HC.out, plC, HD.out, if_neg hd0], by rw [← HY.out, plV, HD.out, if_neg hd0]⟩
    clear hd0
    have p0 := VR1.out.cell 0 rfl
    have f0 := VR1.out.free 0
    have p1 := VR1.out.cell 1 rfl
    have f1 := VR1.out.free 1
    go_wp2_with fail
    have NN : Hid (_ ∧ _) := twoX VR1.out (.int .i64 d) (.int .i64 0)
    clear p0 f0 p1 f1 n0 n1
    generalize ((W1.setCell ⟨s, 0, none⟩ (.int .i64 d)).setCell ⟨s, 1, none⟩ (.int .i64 0)) = V at *
    have x0 := NN.out.1.cell 0 rfl
    have x1 := NN.out.1.cell 1 rfl
    exact bodyPost_ret (v := .agg #[.int .i64 d, .int .i64 0]) (by simp [results, Tryz.results131, go_sem, x0, x1]) rfl
      ⟨by rw [EC.out.1, EC.out.2], Mq.under B1.out NN.out.2 fun k e => by have := HS.out; omega⟩
  subst hd0
  obtain ⟨sl, so⟩ := sp_ok SN.out HD.out
  have SO : Hid ((spP H ps zs).length = 8 ∧ okTo 8 (spP H ps zs) 8) := ⟨sl, so⟩
  clear sl so
  have HR : Hid ((wkC (spP H ps zs) x k = 0 → C = behC ps (wkV (spP H ps zs) x k) k ∧ Y = behV ps (wkV (spP H ps zs) x k) k) ∧ (¬ wkC (spP H ps zs) x k = 0 → C = wkC (spP H ps zs) x k ∧ Y = wkV (spP H ps zs) x k)) :=
    ⟨fun e => ⟨by rw [← HC.out, plC, if_pos HD.out, if_pos e], by rw [← HY.out, plV, if_pos HD.out, if_pos e]⟩, fun e => ⟨by rw [← HC.out, plC, if_pos HD.out, if_neg e], by rw [← HY.out, plV, if_pos HD.out, if_neg e, wk_zero e]⟩⟩
  go_wp2_with fail
  clear n0 n1
  generalize hW2 : W1.alloc _ = W2
  obtain ⟨S, hSS⟩ : ∃ S, W1.heap.size = S := ⟨_, rfl⟩
  rw [hSS]
  have b2 : Below W1.heap.size W1 W2 := by rw [← hW2]; exact al (Below.refl _ _) _
  have S0 : W2.cell? ⟨S, 0, none⟩ = some (.func (.func 138) #[.slice ua ul uc] #[]) := by rw [← hW2, ← hSS]; exact cell_new rfl
  have S1 : W2.cell? ⟨S, 1, none⟩ = some (.func (.func 139) #[.pointer (some ⟨q, 0, none⟩)] #[]) := by rw [← hW2, ← hSS]; exact cell_new rfl
  have B2 : Hid (Below w.heap.size w W2) := on B1.out b2
  have VR2 : Hid (Vb W2 s #[.int .i64 0, .int .i64 0] 122) := VR1.out.keep b2
  have V2 : Hid (Vb W2 q (mcr H i o (.slice (some ⟨pg, 0, none⟩) 8 pc) (.slice (some ⟨g, 0, none⟩) p p) ca ri) 70) := V1.out.keep b2
  have PU2 : Hid (Prs 55 W2 W.heap.size (.slice ua ul uc) (spP H ps zs)) := PU.out.keep b2
  clear hW2 hSS b2
  refine (i_through2 x k S q (.slice ua ul uc) (wkC (spP H ps zs) x k) (wkV (spP H ps zs) x k) (behC ps (wkV (spP H ps zs) x k) k) (behV ps (wkV (spP H ps zs) x k) k) C Y W2 (block_of_cell S0) S0 S1
    (fun u hu => impl_walk _ (spP H ps zs) x k W.heap.size u (PU2.out.keep hu) SO.out.1 (okTo_up SO.out.2))
    (fun e u hu => by
      obtain ⟨_, _, l0, l63⟩ := sp_goes SO.out.2 HK.out e
      exact i_behind q i o H pg pc ps g p ca ri b u (V2.out.keep hu) (HP.out.keep (on B2.out hu)) SN.out.l8 SN.out.ok _ k l0 l63) HR.out).mono ?_
  rintro e w3 ⟨rfl, b3⟩
  have B3 : Hid (Below w.heap.size w w3) := on B2.out b3
  have VR3 : Hid (Vb w3 s #[.int .i64 0, .int .i64 0] 122) := VR2.out.keep b3
  clear b3 S0 S1
  have p0 := VR3.out.cell 0 rfl
  have f0 := VR3.out.free 0
  have p1 := VR3.out.cell 1 rfl
  have f1 := VR3.out.free 1
  go_wp2_with fail
  have NN : Hid (_ ∧ _) := twoX VR3.out (.int .i64 C) (.int .i64 Y)
  clear p0 f0 p1 f1
  generalize ((w3.setCell ⟨s, 0, none⟩ (.int .i64 C)).setCell ⟨s, 1, none⟩ (.int .i64 Y)) = V at *
  have x0 := NN.out.1.cell 0 rfl
  have x1 := NN.out.1.cell 1 rfl
  exact bodyPost_ret (v := .agg #[.int .i64 C, .int .i64 Y]) (by simp [results, Tryz.results131, go_sem, x0, x1]) rfl
    ⟨rfl, Mq.under B3.out NN.out.2 fun k e => by have := HS.out; omega⟩

set_option maxHeartbeats 2000000 in
theorem i_wordAt (q : Nat) (i o : Value) (H : Ht) (l : Value) (g p : Nat) (zs : List Int) (ca ri : Int) (b : Nat) (w : World) (hv : Vb w q (mcr H i o l (.slice (some ⟨g, 0, none⟩) p p) ca ri) 70) (hG : Pags w b (.slice (some ⟨g, 0, none⟩) p p) p zs) (a : Nat) (ha : a < p * 8) (hp : p ≤ 24) :
    Calls Tryz.prog 97 #[.pointer (some ⟨q, 0, none⟩), .int .i64 (a : Int)] w fun e w' => e = .returned (.int .i64 (zs.getD a 0)) ∧ w' = w := by
  have c35 : w.cell? ⟨q, 35, none⟩ = some (.slice (some ⟨g, 0, none⟩) p p) := hv.cell 35 rfl
  obtain ⟨m, hm⟩ : ∃ m, a / 8 = m := ⟨_, rfl⟩
  obtain ⟨r, hr⟩ : ∃ r, a % 8 = r := ⟨_, rfl⟩
  have hmr : a = m * 8 + r := by omega
  have cg : w.cell? ⟨g, m * 8 + r, none⟩ = some (.int .i64 (zs.getD a 0)) := by rw [← hmr]; exact hG.cell a ha
  have td : Int.tdiv (a : Int) 8 = (m : Int) := by rw [Int.tdiv_eq_ediv_of_nonneg (by omega)]; omega
  have tm : Int.tmod (a : Int) 8 = (r : Int) := by rw [Int.tmod_eq_emod_of_nonneg (by omega)]; omega
  have h1 : (m : Int) < (p : Int) := by omega
  have h2 : m < p := by omega
  have h3 : (r : Int) < 8 := by omega
  have h4 : r < 8 := by omega
  have hai : (a : Int) ≤ 192 := by omega
  have hwm : wrap64 (m : Int) = (m : Int) := by unfold wrap64; omega
  generalize zs.getD a 0 = z at *
  clear hm hr hmr hv hG ha hp
  go_enter Tryz.func97, Tryz.ntmps97
  go_wp2_with fail
  go_ret
  exact ⟨rfl, rfl⟩
end Go.Proofs.YtcbcbgomafeccaaGreatDoor
