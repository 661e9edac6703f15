/- Texts of this seat, joined. -/
import Derived.Laws.AppendOwn
import Derived.Deep.RegionWith
import Derived.Test.YtggejbphdadckaaGreatDoorQ05
import Derived.Test.YtggejbphdadckaaGreatDoorQ10
import Derived.Test.YtggejbphdadckaaGreatDoorQ11
import Derived.Test.YtggejbphdadckaaGreatDoorQ12
import Derived.Test.YtggejbphdadckaaGreatDoorQ14
namespace Go.Proofs.YtggejbphdadckaaGreatDoor
open Go.RowKit
set_option linter.unusedVariables false
def PolAt (w : World) (q : Nat) (P : Plc) : Prop :=
  ∃ a0 n0 c0 a1 n1 c1 a2 n2 c2 a3 n3 c3, w.cell? ⟨q, 0, none⟩ = some (.slice a0 n0 c0) ∧ w.cell? ⟨q, 1, none⟩ = some (.slice a1 n1 c1) ∧ w.cell? ⟨q, 2, none⟩ = some (.slice a2 n2 c2) ∧ w.cell? ⟨q, 3, none⟩ = some (.slice a3 n3 c3) ∧
    Pl w a0 n0 c0 a1 n1 c1 a2 n2 c2 a3 n3 c3 P
theorem PolAt.stay {w w' : World} {q : Nat} {P : Plc} (h : PolAt w q P) (b : Below w.heap.size w w') : PolAt w' q P := by
  obtain ⟨a0, n0, c0, a1, n1, c1, a2, n2, c2, a3, n3, c3, h0, h1, h2, h3, h4⟩ := h
  exact ⟨a0, n0, c0, a1, n1, c1, a2, n2, c2, a3, n3, c3, cell_keep b h0, cell_keep b h1, cell_keep b h2, cell_keep b h3, h4.stay b⟩
theorem l1_in (z a b : Int) (w : World) : Calls Tryz.prog 42 #[.int .i64 z, .int .i64 a, .int .i64 b] w fun e w' => e = .returned (.bool (decide (a ≤ z) && decide (z ≤ b))) ∧ w' = w := by
  by_cases h : a ≤ z
  · go_enter Tryz.func42, Tryz.ntmps42
    go_wp2
    go_ret
    exact ⟨by simp [h], rfl⟩
  · go_enter Tryz.func42, Tryz.ntmps42
    go_wp2
    go_ret
    exact ⟨by simp; omega, rfl⟩
theorem l1_pg (z : Int) (w : World) : Calls Tryz.prog 42 #[.int .i64 z, .int .i64 0, .int .i64 23] w fun e w' => e = .returned (.bool (pgOk z)) ∧ w' = w := l1_in z 0 23 w
theorem l1_st (z : Int) (w : World) : Calls Tryz.prog 42 #[.int .i64 z, .int .i64 1, .int .i64 50] w fun e w' => e = .returned (.bool (stOk z)) ∧ w' = w := l1_in z 1 50 w
theorem mem_drop_step (zs : List Int) (x : Int) (j : Nat) (h : j < zs.length) : (x ∈ zs.drop j) ↔ (zs.getD j 0 = x ∨ x ∈ zs.drop (j + 1)) := by
  rw [drop_cons_getD zs 0 j h, List.mem_cons]
  constructor
  · rintro (h | h)
    · exact .inl h.symm
    · exact .inr h
  · rintro (h | h)
    · exact .inl h.symm
    · exact .inr h
set_option maxHeartbeats 1000000 in
theorem l1_has (a : Option Addr) (len cap : Nat) (x : Int) (zs : List Int) (w : World) (h : IsNs w a len cap zs) :
    Calls Tryz.prog 105 #[.slice a len cap, .int .i64 x] w fun e w' => e = .returned (.bool (decide (x ∈ zs))) ∧ w' = w := by
  have HR : Hid (IsNs w a len cap zs) := h
  have hmax : (len : Int) ≤ 9223372036854775807 := by have := h.cap; unfold maxLen at this; omega
  have HL : Hid (len = zs.length) := h.len
  clear h
  go_enter Tryz.func105, Tryz.ntmps105
  go_wp2_with fail
  go_loop [5] (fun c => ∃ j : Nat, j ≤ len ∧ c = .int .i64 j ∧ Hid ((x ∈ zs) ↔ (x ∈ zs.drop j))) (fun c => len - (intOf c).toNat)
  case atStart => exact ⟨0, Nat.zero_le _, rfl, by show _ ↔ _; simp⟩
  case round =>
    obtain ⟨j, hj, rfl, hI⟩ := hrel
    by_cases hlt : j < len
    · rcases HR.out with ⟨_, h1, _, _⟩ | ⟨y, rfl, h1, h2, h3, h4⟩
      · omega
      have c0 := h4 j hlt
      have hJ : (j : Int) < (len : Int) := by omega
      have HLT : Hid (j < len) := hlt
      have ST : Hid (_ ↔ _) := mem_drop_step zs x j (by have := HL.out; omega)
      clear h1 h2 h3 h4
      generalize hz : zs.getD j 0 = z at *
      clear hz
      clear hlt
      by_cases hx : z = x
      · go_wp2_with fail
        go_ret
        refine ⟨?_, rfl⟩
        have : x ∈ zs := hI.out.2 (ST.out.2 (.inl hx))
        simp [this]
      · have HX : Hid (¬ z = x) := hx
        go_wp2_with fail
        go_round
        case rel =>
          refine ⟨j + 1, by have := HLT.out; omega, by go_num, ?_⟩
          show _ ↔ _
          rw [hI.out, ST.out]
          have := HX.out
          simp [this]
        case measure => have := HLT.out; simp [intOf]; omega
    · have hJ : ¬ (j : Int) < (len : Int) := by omega
      have HJ : Hid (j = len) := by show _ = _; omega
      clear hlt
      go_wp2_with fail
      go_ret
      refine ⟨?_, rfl⟩
      have e := hI.out
      rw [List.drop_of_length_le (by have := HL.out; have := HJ.out; omega)] at e
      simp at e
      simp [e]
theorem l6_guest (q : Nat) (g : Int) (P : Plc) (w : World) (h : PolAt w q P) :
    Calls Tryz.prog 20 #[.pointer (some ⟨q, 0, none⟩), .int .i64 g] w fun e w' => e = .returned (.bool (isG P.own.length g)) ∧ w' = w := by
  obtain ⟨a0, n0, c0, a1, n1, c1, a2, n2, c2, a3, n3, c3, h0, h1, h2, h3, h4⟩ := h
  have HL : Hid (n0 = P.own.length) := h4.own.len
  have hmax : (n0 : Int) ≤ 9223372036854775807 := by have := h4.own.cap; unfold maxLen at this; omega
  clear h1 h2 h3 h4
  go_enter Tryz.func20, Tryz.ntmps20
  go_wp2_with (go_at_call 42; refine (l1_in _ _ _ _).mono ?_; rintro e x ⟨rfl, rfl⟩)
  go_ret
  rw [isG, ← HL.out]
  exact ⟨rfl, rfl⟩
set_option maxHeartbeats 1000000 in
theorem l6_owner (q : Nat) (pg : Int) (P : Plc) (w : World) (h : PolAt w q P) :
    Calls Tryz.prog 107 #[.pointer (some ⟨q, 0, none⟩), .int .i64 pg] w fun e w' => e = .returned (.int .i64 (ownerFrom 0 P.own pg)) ∧ w' = w := by
  obtain ⟨a0, n0, c0, a1, n1, c1, a2, n2, c2, a3, n3, c3, h0, h1, h2, h3, h4⟩ := h
  have HL : Hid (n0 = P.own.length) := h4.own.len
  have HO : Hid (IsS2 w a0 n0 c0 P.own) := h4.own
  have hmax : (n0 : Int) ≤ 9223372036854775807 := by have := h4.own.cap; unfold maxLen at this; omega
  clear h1 h2 h3 h4
  go_enter Tryz.func107, Tryz.ntmps107
  go_wp2_with fail
  go_loop [5] (fun c => ∃ j : Nat, j ≤ n0 ∧ c = .int .i64 j ∧ Hid (ownerFrom 0 P.own pg = ownerFrom j (P.own.drop j) pg)) (fun c => n0 - (intOf c).toNat)
  case atStart => exact ⟨0, Nat.zero_le _, rfl, by show _ = _; simp⟩
  case round =>
    obtain ⟨j, hj, rfl, hI⟩ := hrel
    by_cases hlt : j < n0
    · obtain ⟨x, b, l, c, rfl, k1, k2⟩ := HO.out.at j hlt
      have HN : Hid (IsNs w b l c _) := k2
      have hJ : (j : Int) < (n0 : Int) := by omega
      have HLT : Hid (j < n0) := hlt
      have ST : Hid (_ = _) := owner_step P.own pg j (by have := HL.out; omega)
      clear k2 hlt
      by_cases hx : pg ∈ P.own.getD j []
      · have HX : Hid (pg ∈ P.own.getD j []) := hx
        have hd : decide (pg ∈ P.own.getD j []) = true := decide_eq_true hx
        clear hx
        go_wp2_with (go_at_call 105; refine (l1_has _ _ _ _ _ _ HN.out).mono ?_; rintro e x ⟨rfl, rfl⟩; rw [hd])
        go_ret
        rw [hI.out, ST.out, if_pos HX.out]
        exact ⟨rfl, rfl⟩
      · have HX : Hid (¬ pg ∈ P.own.getD j []) := hx
        have hd : decide (pg ∈ P.own.getD j []) = false := decide_eq_false hx
        clear hx
        go_wp2_with (go_at_call 105; refine (l1_has _ _ _ _ _ _ HN.out).mono ?_; rintro e x ⟨rfl, rfl⟩; rw [hd])
        go_round
        case rel =>
          refine ⟨j + 1, by have := HLT.out; omega, by go_num, ?_⟩
          show _ = _
          rw [hI.out, ST.out, if_neg HX.out]
        case measure => have := HLT.out; simp [intOf]; omega
    · have hJ : ¬ (j : Int) < (n0 : Int) := by omega
      have HJ : Hid (j = n0) := by show _ = _; omega
      clear hlt
      go_wp2_with fail
      go_ret
      rw [hI.out, List.drop_of_length_le (by have := HL.out; have := HJ.out; omega)]
      exact ⟨rfl, rfl⟩
theorem l6_at (l : Ln) (g p : Int) (w : World) : Calls Tryz.prog 108 #[.agg #[.int .i64 l.fr, .int .i64 l.dst, .int .i64 l.pg, .int .i64 l.af, .int .i64 l.tt], .int .i64 g, .int .i64 p] w fun e w' => e = .returned (.bool (usesV l g p)) ∧ w' = w.alloc (.cells #[.int .i64 l.fr, .int .i64 l.dst, .int .i64 l.pg, .int .i64 l.af, .int .i64 l.tt] 125) := by
  obtain ⟨a, b, c, d, z⟩ := l
  unfold usesV
  simp only
  have e0 : ∀ x : Bool, decide (a = g ∧ d = p ∨ b = g ∧ z = p) = x → True := fun _ _ => trivial
  by_cases h1 : a = g <;> by_cases h2 : d = p <;> by_cases h3 : b = g <;> by_cases h4 : z = p <;>
    (go_enter Tryz.func108, Tryz.ntmps108
     go_wp2_with fail
     go_ret
     exact ⟨by simp [h1, h2, h3, h4], by first | rfl | simp [h1, h2, h3, h4]⟩)
theorem l6_ends (q : Nat) (f t : Int) (P : Plc) (w : World) (h : PolAt w q P) :
    Calls Tryz.prog 106 #[.pointer (some ⟨q, 0, none⟩), .int .i64 f, .int .i64 t] w fun e w' => e = .returned (.int .i64 (endsV P.own.length f t)) ∧ w' = w := by
  have HP : Hid (PolAt w q P) := h
  clear h
  unfold endsV
  by_cases h1 : isG P.own.length f = true
  · by_cases h2 : isG P.own.length t = true
    · rw [if_neg (by simp [h1, h2])]
      by_cases h3 : f = t
      · rw [if_pos h3]
        go_enter Tryz.func106, Tryz.ntmps106
        go_wp2_with (go_at_call 20; refine (l6_guest _ _ P _ HP.out).mono ?_; rintro e x ⟨rfl, rfl⟩; first | rw [h1] | rw [h2])
        go_ret
        exact ⟨rfl, rfl⟩
      · rw [if_neg h3]
        go_enter Tryz.func106, Tryz.ntmps106
        go_wp2_with (go_at_call 20; refine (l6_guest _ _ P _ HP.out).mono ?_; rintro e x ⟨rfl, rfl⟩; first | rw [h1] | rw [h2])
        go_ret
        exact ⟨rfl, rfl⟩
    · rw [Bool.not_eq_true] at h2
      rw [if_pos (.inr h2)]
      go_enter Tryz.func106, Tryz.ntmps106
      go_wp2_with (go_at_call 20; refine (l6_guest _ _ P _ HP.out).mono ?_; rintro e x ⟨rfl, rfl⟩; first | rw [h1] | rw [h2])
      go_ret
      exact ⟨rfl, rfl⟩
  · rw [Bool.not_eq_true] at h1
    rw [if_pos (.inl h1)]
    go_enter Tryz.func106, Tryz.ntmps106
    go_wp2_with (go_at_call 20; refine (l6_guest _ _ P _ HP.out).mono ?_; rintro e x ⟨rfl, rfl⟩; rw [h1])
    go_ret
    exact ⟨rfl, rfl⟩
theorem wp_appn {ops : Array Oper} {rest : List Oper} {o : Oper} {act : Act} {Q : Exit → Act → World → Prop} (w : World) (hgd : o.guard = none) (s x : Operand)
    (ho : o.op = .call { callee := .builtin .append, args := #[s, x], argTypes := #[28, 28] }) (base : Nat) (v : Value) (zs : List Int) (hs : act.eval s = v) (hN : Nums w base v zs)
    (B m c : Nat) (ys : List Int) (hx : act.eval x = .slice (some ⟨B, 0, none⟩) m c) (hy : ys.length = m) (hc : ∀ i, i < m → w.cell? ⟨B, i, none⟩ = some (.int .i64 (ys.getD i 0)))
    (hlen : zs.length + m ≤ 1000000000) (hbase : base ≤ w.heap.size)
    (h : ∀ v' w', Nums w' base v' (zs ++ ys) → w.grownBy w' v.ownBlock → wpList Tryz.prog ops Q rest (act.put o.dst v') w') : wpList Tryz.prog ops Q (o :: rest) act w := by
  obtain ⟨i, hi, hz0, hz1, hz2⟩ := info_parts info_i64
  refine wpList_append_own w hgd s x 28 ho base 2 i _ 1 8 Tryz.underlying28 hi hz0 hz1 hz2 rfl (by decide) v zs.length _ hs hN ⟨B, 0, none⟩ m c (ys.map (Value.int .i64)) hx (by simpa using hy) ?_ ?_ (by unfold maxLen; omega) (by omega) hbase ?_
  · intro j u hj
    have hjl : j < ys.length := by have := (List.getElem?_eq_some_iff.1 hj).1; simpa using this
    rw [List.getElem?_map, List.getElem?_eq_getElem hjl] at hj
    have := hc j (by omega)
    rw [List.getD, List.getElem?_eq_getElem hjl] at this
    rw [show (⟨B, 0, none⟩ : Addr).add j = ⟨B, j, none⟩ by rw [Addr.add_lit]; simp, this]
    exact hj
  · intro u hu
    obtain ⟨z, _, rfl⟩ := List.mem_map.1 hu
    rfl
  · intro v' w' hown hgrow _
    refine h v' w' ?_ hgrow
    unfold Nums
    rw [List.length_append, hy, List.map_append]
    exact hown
theorem nums_empty (w : World) (base : Nat) (hb : base ≤ w.heap.size) : Nums (w.alloc (.cells #[] 2)) base (.slice (some ⟨w.heap.size, 0, none⟩) 0 0) [] :=
  World.ownsRow_lit w #[] 0 hb (by decide) rfl
theorem one_at {w : World} {g : Nat} {z : Int} (h : w.cell? ⟨g, 0, none⟩ = some (.int .i64 z)) : ∀ i, i < 1 → w.cell? ⟨g, i, none⟩ = some (.int .i64 (([z] : List Int).getD i 0)) := by
  intro i hi
  obtain rfl : i = 0 := by omega
  exact h
theorem one_all (z : Int) : [z].all isW = isW z := by simp
theorem one_rn (w : World) (z : Int) {t : TypeId} {q : Nat} (hq : q = w.heap.size) : Rn (w.alloc (.cells #[.int .i64 z] t)) (some ⟨q, 0, none⟩) 1 1 [z] := by
  subst hq
  refine .inr ⟨_, rfl, by decide, by decide, rfl, fun i hi => ?_⟩
  obtain rfl : i = 0 := by omega
  rw [show (⟨w.heap.size, 0, none⟩ : Addr).add 0 = ⟨w.heap.size, 0, none⟩ by rw [Addr.add_lit]]
  exact cell_new rfl
set_option maxRecDepth 20000 in
set_option maxHeartbeats 8000000 in
theorem i_fault (r c i o : Value) (H : Ht) (b : Nat) (w : World) (h : Hm w b r c i o H) :
    Calls Tryz.prog 55 #[.agg #[r, .int .i64 H.pc, c, .bool H.halted, .bool H.waiting, .bool H.rung, .int .i64 H.done, i, o]] w fun e w' => e = .returned (.int .i64 (hfV H)) ∧ Below w.heap.size w w' := by
  have HM : Hid (Hm w b r c i o H) := h
  obtain ⟨a0, k0, h0, _, _, g0⟩ := h.r.shape
  obtain ⟨a1, k1, h1, _, _, g1⟩ := h.c.shape
  obtain ⟨a2, k2, h2, _, l2, _⟩ := h.i.shape
  obtain ⟨a3, k3, h3, _, l3, _⟩ := h.o.shape
  have R0 := h.r.rv
  obtain ⟨n0, e0⟩ : ∃ n, H.regs.length = n := ⟨_, rfl⟩
  obtain ⟨n1, e1⟩ : ∃ n, H.csr.length = n := ⟨_, rfl⟩
  obtain ⟨n2, e2⟩ : ∃ n, H.inn.length = n := ⟨_, rfl⟩
  obtain ⟨n3, e3⟩ : ∃ n, H.out.length = n := ⟨_, rfl⟩
  rw [e0] at h0 g0
  rw [e1] at h1 g1
  rw [e2] at h2
  rw [e3] at h3
  have EL : Hid (H.regs.length = n0 ∧ H.csr.length = n1 ∧ H.inn.length = n2 ∧ H.out.length = n3) := ⟨e0, e1, e2, e3⟩
  subst h0 h1 h2 h3
  have hl2 : (n2 : Int) ≤ 9223372036854775807 := by have := h.i.lens; unfold maxLen at this; omega
  have hl3 : (n3 : Int) ≤ 9223372036854775807 := by have := h.o.lens; unfold maxLen at this; omega
  have hl0 : (n0 : Int) ≤ 9223372036854775807 := by have := h.r.lens; unfold maxLen at this; omega
  have hl1 : (n1 : Int) ≤ 9223372036854775807 := by have := h.c.lens; unfold maxLen at this; omega
  clear h e0 e1 e2 e3 l2 l3 R0
  have B1 : Hid (Below w.heap.size w (w.alloc (.cells #[.slice a0 n0 k0, .int .i64 H.pc, .slice a1 n1 k1, .bool H.halted, .bool H.waiting, .bool H.rung, .int .i64 H.done, .slice a2 n2 k2, .slice a3 n3 k3] 60))) := al (Below.refl _ _) _
  by_cases hn0 : n0 = 16
  case neg =>
    have HN : Hid (¬ (H.regs.length = 16 ∧ H.csr.length = 11 ∧ H.regs.getD 0 0 = 0)) := fun k => hn0 (EL.out.1.symm.trans k.1)
    have hI : ¬ (n0 : Int) = 16 := by omega
    go_enter Tryz.func55, Tryz.ntmps55
    go_wp2_with fail
    go_ret
    exact ⟨ret_i (hf_form HN.out).symm, by first | exact B1.out | exact al B1.out _⟩
  subst hn0
  obtain ⟨y0, rfl⟩ := g0 (by decide)
  clear g0
  by_cases hn1 : n1 = 11
  case neg =>
    have HN : Hid (¬ (H.regs.length = 16 ∧ H.csr.length = 11 ∧ H.regs.getD 0 0 = 0)) := fun k => hn1 (EL.out.2.1.symm.trans k.2.1)
    have hI : ¬ (n1 : Int) = 11 := by omega
    go_enter Tryz.func55, Tryz.ntmps55
    go_wp2_with fail
    go_ret
    exact ⟨ret_i (hf_form HN.out).symm, by first | exact B1.out | exact al B1.out _⟩
  subst hn1
  obtain ⟨y1, rfl⟩ := g1 (by decide)
  clear g1
  obtain ⟨z0, hz0⟩ : ∃ z, H.regs.getD 0 0 = z := ⟨_, rfl⟩
  have cz : (w.alloc (.cells #[.slice (some ⟨y0, 0, none⟩) 16 k0, .int .i64 H.pc, .slice (some ⟨y1, 0, none⟩) 11 k1, .bool H.halted, .bool H.waiting, .bool H.rung, .int .i64 H.done, .slice a2 n2 k2, .slice a3 n3 k3] 60)).cell? ⟨y0, 0, none⟩ = some (.int .i64 z0) := by rw [← hz0]; exact cell_push _ (HM.out.r.cell EL.out.1.symm 0 (by decide))
  have Y0 : Hid (y0 < w.heap.size) := block_of_cell (HM.out.r.cell EL.out.1.symm 0 (by decide))
  have Y1 : Hid (y1 < w.heap.size) := block_of_cell (HM.out.c.cell EL.out.2.1.symm 0 (by decide))
  have y0lt : y0 < w.heap.size := Y0.out
  have y1lt : y1 < w.heap.size := Y1.out
  have HZ0 : Hid (H.regs.getD 0 0 = z0) := hz0
  clear hz0
  by_cases hr0 : z0 = 0
  case neg =>
    have HN : Hid (¬ (H.regs.length = 16 ∧ H.csr.length = 11 ∧ H.regs.getD 0 0 = 0)) := fun k => hr0 (HZ0.out.symm.trans k.2.2)
    go_enter Tryz.func55, Tryz.ntmps55
    go_wp2_with fail
    go_ret
    exact ⟨ret_i (hf_form HN.out).symm, by first | exact B1.out | exact al B1.out _⟩
  have FM : Hid (H.regs.length = 16 ∧ H.csr.length = 11 ∧ H.regs.getD 0 0 = 0) := ⟨EL.out.1, EL.out.2.1, HZ0.out.trans hr0⟩
  subst hr0
  cases hb0 : H.regs.all isW
  case false =>
    have HN : Hid (H.words = false) := by show _ = _; simp [Ht.words, hb0]
    go_enter Tryz.func55, Tryz.ntmps55
    go_wp2_with (first
          | (go_at_call_of 59 (Value.slice (some ⟨y0, 0, none⟩) 16 k0); refine (i_words (some ⟨y0, 0, none⟩) 16 k0 H.regs _ (HM.out.r.rn.stay (by first | exact B1.out | exact al B1.out _))).mono ?_; rintro e x ⟨rfl, rfl⟩; rw [hb0])
          | (go_at_call_of 59 (Value.slice (some ⟨y1, 0, none⟩) 11 k1); refine (i_words (some ⟨y1, 0, none⟩) 11 k1 H.csr _ (HM.out.c.rn.stay (by first | exact B1.out | exact al B1.out _))).mono ?_; rintro e x ⟨rfl, rfl⟩; rw [hb1])
          | (go_at_call_of 59 (Value.slice a2 n2 k2); refine (i_words a2 n2 k2 H.inn _ (HM.out.i.rn.stay (by first | exact B1.out | exact al B1.out _))).mono ?_; rintro e x ⟨rfl, rfl⟩; rw [hb2])
          | (go_at_call_of 59 (Value.slice a3 n3 k3); refine (i_words a3 n3 k3 H.out _ (HM.out.o.rn.stay (by first | exact B1.out | exact al B1.out _))).mono ?_; rintro e x ⟨rfl, rfl⟩; rw [hb3])
          | (go_at_call 59; refine (i_words _ 1 1 [H.pc] _ (one_rn _ _ (by simp))).mono ?_; rintro e x ⟨rfl, rfl⟩; rw [one_all, hbp])
          | (go_at_call 88; refine (i_allStand _ k1 H.csr _ (HM.out.c.rn.stay (al B1.out _)) CW.out).mono ?_; rintro e x ⟨rfl, rfl⟩; rw [hst]))
    go_ret
    exact ⟨ret_i (hf_words FM.out HN.out).symm, by first | exact B1.out | exact al B1.out _⟩
  cases hbp : isW H.pc
  case false =>
    have HN : Hid (H.words = false) := by show _ = _; simp [Ht.words, hbp]
    go_enter Tryz.func55, Tryz.ntmps55
    go_wp2_with (first
          | (go_at_call_of 59 (Value.slice (some ⟨y0, 0, none⟩) 16 k0); refine (i_words (some ⟨y0, 0, none⟩) 16 k0 H.regs _ (HM.out.r.rn.stay (by first | exact B1.out | exact al B1.out _))).mono ?_; rintro e x ⟨rfl, rfl⟩; rw [hb0])
          | (go_at_call_of 59 (Value.slice (some ⟨y1, 0, none⟩) 11 k1); refine (i_words (some ⟨y1, 0, none⟩) 11 k1 H.csr _ (HM.out.c.rn.stay (by first | exact B1.out | exact al B1.out _))).mono ?_; rintro e x ⟨rfl, rfl⟩; rw [hb1])
          | (go_at_call_of 59 (Value.slice a2 n2 k2); refine (i_words a2 n2 k2 H.inn _ (HM.out.i.rn.stay (by first | exact B1.out | exact al B1.out _))).mono ?_; rintro e x ⟨rfl, rfl⟩; rw [hb2])
          | (go_at_call_of 59 (Value.slice a3 n3 k3); refine (i_words a3 n3 k3 H.out _ (HM.out.o.rn.stay (by first | exact B1.out | exact al B1.out _))).mono ?_; rintro e x ⟨rfl, rfl⟩; rw [hb3])
          | (go_at_call 59; refine (i_words _ 1 1 [H.pc] _ (one_rn _ _ (by simp))).mono ?_; rintro e x ⟨rfl, rfl⟩; rw [one_all, hbp])
          | (go_at_call 88; refine (i_allStand _ k1 H.csr _ (HM.out.c.rn.stay (al B1.out _)) CW.out).mono ?_; rintro e x ⟨rfl, rfl⟩; rw [hst]))
    go_ret
    exact ⟨ret_i (hf_words FM.out HN.out).symm, by first | exact B1.out | exact al B1.out _⟩
  cases hb1 : H.csr.all isW
  case false =>
    have HN : Hid (H.words = false) := by show _ = _; simp [Ht.words, hb1]
    go_enter Tryz.func55, Tryz.ntmps55
    go_wp2_with (first
          | (go_at_call_of 59 (Value.slice (some ⟨y0, 0, none⟩) 16 k0); refine (i_words (some ⟨y0, 0, none⟩) 16 k0 H.regs _ (HM.out.r.rn.stay (by first | exact B1.out | exact al B1.out _))).mono ?_; rintro e x ⟨rfl, rfl⟩; rw [hb0])
          | (go_at_call_of 59 (Value.slice (some ⟨y1, 0, none⟩) 11 k1); refine (i_words (some ⟨y1, 0, none⟩) 11 k1 H.csr _ (HM.out.c.rn.stay (by first | exact B1.out | exact al B1.out _))).mono ?_; rintro e x ⟨rfl, rfl⟩; rw [hb1])
          | (go_at_call_of 59 (Value.slice a2 n2 k2); refine (i_words a2 n2 k2 H.inn _ (HM.out.i.rn.stay (by first | exact B1.out | exact al B1.out _))).mono ?_; rintro e x ⟨rfl, rfl⟩; rw [hb2])
          | (go_at_call_of 59 (Value.slice a3 n3 k3); refine (i_words a3 n3 k3 H.out _ (HM.out.o.rn.stay (by first | exact B1.out | exact al B1.out _))).mono ?_; rintro e x ⟨rfl, rfl⟩; rw [hb3])
          | (go_at_call 59; refine (i_words _ 1 1 [H.pc] _ (one_rn _ _ (by simp))).mono ?_; rintro e x ⟨rfl, rfl⟩; rw [one_all, hbp])
          | (go_at_call 88; refine (i_allStand _ k1 H.csr _ (HM.out.c.rn.stay (al B1.out _)) CW.out).mono ?_; rintro e x ⟨rfl, rfl⟩; rw [hst]))
    go_ret
    exact ⟨ret_i (hf_words FM.out HN.out).symm, by first | exact B1.out | exact al B1.out _⟩
  cases hb2 : H.inn.all isW
  case false =>
    have HN : Hid (H.words = false) := by show _ = _; simp [Ht.words, hb2]
    go_enter Tryz.func55, Tryz.ntmps55
    go_wp2_with (first
          | (go_at_call_of 59 (Value.slice (some ⟨y0, 0, none⟩) 16 k0); refine (i_words (some ⟨y0, 0, none⟩) 16 k0 H.regs _ (HM.out.r.rn.stay (by first | exact B1.out | exact al B1.out _))).mono ?_; rintro e x ⟨rfl, rfl⟩; rw [hb0])
          | (go_at_call_of 59 (Value.slice (some ⟨y1, 0, none⟩) 11 k1); refine (i_words (some ⟨y1, 0, none⟩) 11 k1 H.csr _ (HM.out.c.rn.stay (by first | exact B1.out | exact al B1.out _))).mono ?_; rintro e x ⟨rfl, rfl⟩; rw [hb1])
          | (go_at_call_of 59 (Value.slice a2 n2 k2); refine (i_words a2 n2 k2 H.inn _ (HM.out.i.rn.stay (by first | exact B1.out | exact al B1.out _))).mono ?_; rintro e x ⟨rfl, rfl⟩; rw [hb2])
          | (go_at_call_of 59 (Value.slice a3 n3 k3); refine (i_words a3 n3 k3 H.out _ (HM.out.o.rn.stay (by first | exact B1.out | exact al B1.out _))).mono ?_; rintro e x ⟨rfl, rfl⟩; rw [hb3])
          | (go_at_call 59; refine (i_words _ 1 1 [H.pc] _ (one_rn _ _ (by simp))).mono ?_; rintro e x ⟨rfl, rfl⟩; rw [one_all, hbp])
          | (go_at_call 88; refine (i_allStand _ k1 H.csr _ (HM.out.c.rn.stay (al B1.out _)) CW.out).mono ?_; rintro e x ⟨rfl, rfl⟩; rw [hst]))
    go_ret
    exact ⟨ret_i (hf_words FM.out HN.out).symm, by first | exact B1.out | exact al B1.out _⟩
  cases hb3 : H.out.all isW
  case false =>
    have HN : Hid (H.words = false) := by show _ = _; simp [Ht.words, hb3]
    go_enter Tryz.func55, Tryz.ntmps55
    go_wp2_with (first
          | (go_at_call_of 59 (Value.slice (some ⟨y0, 0, none⟩) 16 k0); refine (i_words (some ⟨y0, 0, none⟩) 16 k0 H.regs _ (HM.out.r.rn.stay (by first | exact B1.out | exact al B1.out _))).mono ?_; rintro e x ⟨rfl, rfl⟩; rw [hb0])
          | (go_at_call_of 59 (Value.slice (some ⟨y1, 0, none⟩) 11 k1); refine (i_words (some ⟨y1, 0, none⟩) 11 k1 H.csr _ (HM.out.c.rn.stay (by first | exact B1.out | exact al B1.out _))).mono ?_; rintro e x ⟨rfl, rfl⟩; rw [hb1])
          | (go_at_call_of 59 (Value.slice a2 n2 k2); refine (i_words a2 n2 k2 H.inn _ (HM.out.i.rn.stay (by first | exact B1.out | exact al B1.out _))).mono ?_; rintro e x ⟨rfl, rfl⟩; rw [hb2])
          | (go_at_call_of 59 (Value.slice a3 n3 k3); refine (i_words a3 n3 k3 H.out _ (HM.out.o.rn.stay (by first | exact B1.out | exact al B1.out _))).mono ?_; rintro e x ⟨rfl, rfl⟩; rw [hb3])
          | (go_at_call 59; refine (i_words _ 1 1 [H.pc] _ (one_rn _ _ (by simp))).mono ?_; rintro e x ⟨rfl, rfl⟩; rw [one_all, hbp])
          | (go_at_call 88; refine (i_allStand _ k1 H.csr _ (HM.out.c.rn.stay (al B1.out _)) CW.out).mono ?_; rintro e x ⟨rfl, rfl⟩; rw [hst]))
    go_ret
    exact ⟨ret_i (hf_words FM.out HN.out).symm, by first | exact B1.out | exact al B1.out _⟩
  have WM : Hid (H.words = true) := by show _ = _; simp [Ht.words, hb0, hbp, hb1, hb2, hb3]
  have CW : Hid (H.csr.all isW = true) := hb1
  by_cases hn2 : n2 ≤ 40
  case neg =>
    have HN : Hid (¬ (H.inn.length ≤ 40 ∧ H.out.length ≤ 40)) := fun k => hn2 (by have := EL.out.2.2.1; omega)
    have hI : (40 : Int) < (n2 : Int) := by omega
    go_enter Tryz.func55, Tryz.ntmps55
    go_wp2_with (first
          | (go_at_call_of 59 (Value.slice (some ⟨y0, 0, none⟩) 16 k0); refine (i_words (some ⟨y0, 0, none⟩) 16 k0 H.regs _ (HM.out.r.rn.stay (by first | exact B1.out | exact al B1.out _))).mono ?_; rintro e x ⟨rfl, rfl⟩; rw [hb0])
          | (go_at_call_of 59 (Value.slice (some ⟨y1, 0, none⟩) 11 k1); refine (i_words (some ⟨y1, 0, none⟩) 11 k1 H.csr _ (HM.out.c.rn.stay (by first | exact B1.out | exact al B1.out _))).mono ?_; rintro e x ⟨rfl, rfl⟩; rw [hb1])
          | (go_at_call_of 59 (Value.slice a2 n2 k2); refine (i_words a2 n2 k2 H.inn _ (HM.out.i.rn.stay (by first | exact B1.out | exact al B1.out _))).mono ?_; rintro e x ⟨rfl, rfl⟩; rw [hb2])
          | (go_at_call_of 59 (Value.slice a3 n3 k3); refine (i_words a3 n3 k3 H.out _ (HM.out.o.rn.stay (by first | exact B1.out | exact al B1.out _))).mono ?_; rintro e x ⟨rfl, rfl⟩; rw [hb3])
          | (go_at_call 59; refine (i_words _ 1 1 [H.pc] _ (one_rn _ _ (by simp))).mono ?_; rintro e x ⟨rfl, rfl⟩; rw [one_all, hbp])
          | (go_at_call 88; refine (i_allStand _ k1 H.csr _ (HM.out.c.rn.stay (al B1.out _)) CW.out).mono ?_; rintro e x ⟨rfl, rfl⟩; rw [hst]))
    go_ret
    exact ⟨ret_i (hf_few FM.out WM.out HN.out).symm, by first | exact B1.out | exact al B1.out _⟩
  have hI2 : ¬ (40 : Int) < (n2 : Int) := by omega
  by_cases hn3 : n3 ≤ 40
  case neg =>
    have HN : Hid (¬ (H.inn.length ≤ 40 ∧ H.out.length ≤ 40)) := fun k => hn3 (by have := EL.out.2.2.2; omega)
    have hI : (40 : Int) < (n3 : Int) := by omega
    go_enter Tryz.func55, Tryz.ntmps55
    go_wp2_with (first
          | (go_at_call_of 59 (Value.slice (some ⟨y0, 0, none⟩) 16 k0); refine (i_words (some ⟨y0, 0, none⟩) 16 k0 H.regs _ (HM.out.r.rn.stay (by first | exact B1.out | exact al B1.out _))).mono ?_; rintro e x ⟨rfl, rfl⟩; rw [hb0])
          | (go_at_call_of 59 (Value.slice (some ⟨y1, 0, none⟩) 11 k1); refine (i_words (some ⟨y1, 0, none⟩) 11 k1 H.csr _ (HM.out.c.rn.stay (by first | exact B1.out | exact al B1.out _))).mono ?_; rintro e x ⟨rfl, rfl⟩; rw [hb1])
          | (go_at_call_of 59 (Value.slice a2 n2 k2); refine (i_words a2 n2 k2 H.inn _ (HM.out.i.rn.stay (by first | exact B1.out | exact al B1.out _))).mono ?_; rintro e x ⟨rfl, rfl⟩; rw [hb2])
          | (go_at_call_of 59 (Value.slice a3 n3 k3); refine (i_words a3 n3 k3 H.out _ (HM.out.o.rn.stay (by first | exact B1.out | exact al B1.out _))).mono ?_; rintro e x ⟨rfl, rfl⟩; rw [hb3])
          | (go_at_call 59; refine (i_words _ 1 1 [H.pc] _ (one_rn _ _ (by simp))).mono ?_; rintro e x ⟨rfl, rfl⟩; rw [one_all, hbp])
          | (go_at_call 88; refine (i_allStand _ k1 H.csr _ (HM.out.c.rn.stay (al B1.out _)) CW.out).mono ?_; rintro e x ⟨rfl, rfl⟩; rw [hst]))
    go_ret
    exact ⟨ret_i (hf_few FM.out WM.out HN.out).symm, by first | exact B1.out | exact al B1.out _⟩
  have hI3 : ¬ (40 : Int) < (n3 : Int) := by omega
  have FW : Hid (H.inn.length ≤ 40 ∧ H.out.length ≤ 40) := ⟨by have := EL.out.2.2.1; omega, by have := EL.out.2.2.2; omega⟩
  by_cases hd0 : 0 ≤ H.done
  case neg =>
    have HN : Hid (¬ (0 ≤ H.done ∧ H.done ≤ 1000000000)) := fun k => hd0 k.1
    have hI : H.done < 0 := by omega
    go_enter Tryz.func55, Tryz.ntmps55
    go_wp2_with (first
          | (go_at_call_of 59 (Value.slice (some ⟨y0, 0, none⟩) 16 k0); refine (i_words (some ⟨y0, 0, none⟩) 16 k0 H.regs _ (HM.out.r.rn.stay (by first | exact B1.out | exact al B1.out _))).mono ?_; rintro e x ⟨rfl, rfl⟩; rw [hb0])
          | (go_at_call_of 59 (Value.slice (some ⟨y1, 0, none⟩) 11 k1); refine (i_words (some ⟨y1, 0, none⟩) 11 k1 H.csr _ (HM.out.c.rn.stay (by first | exact B1.out | exact al B1.out _))).mono ?_; rintro e x ⟨rfl, rfl⟩; rw [hb1])
          | (go_at_call_of 59 (Value.slice a2 n2 k2); refine (i_words a2 n2 k2 H.inn _ (HM.out.i.rn.stay (by first | exact B1.out | exact al B1.out _))).mono ?_; rintro e x ⟨rfl, rfl⟩; rw [hb2])
          | (go_at_call_of 59 (Value.slice a3 n3 k3); refine (i_words a3 n3 k3 H.out _ (HM.out.o.rn.stay (by first | exact B1.out | exact al B1.out _))).mono ?_; rintro e x ⟨rfl, rfl⟩; rw [hb3])
          | (go_at_call 59; refine (i_words _ 1 1 [H.pc] _ (one_rn _ _ (by simp))).mono ?_; rintro e x ⟨rfl, rfl⟩; rw [one_all, hbp])
          | (go_at_call 88; refine (i_allStand _ k1 H.csr _ (HM.out.c.rn.stay (al B1.out _)) CW.out).mono ?_; rintro e x ⟨rfl, rfl⟩; rw [hst]))
    go_ret
    exact ⟨ret_i (hf_nice FM.out WM.out FW.out HN.out).symm, by first | exact B1.out | exact al B1.out _⟩
  have hI4 : ¬ H.done < 0 := by omega
  by_cases hd9 : H.done ≤ 1000000000
  case neg =>
    have HN : Hid (¬ (0 ≤ H.done ∧ H.done ≤ 1000000000)) := fun k => hd9 k.2
    have hI : 1000000000 < H.done := by omega
    go_enter Tryz.func55, Tryz.ntmps55
    go_wp2_with (first
          | (go_at_call_of 59 (Value.slice (some ⟨y0, 0, none⟩) 16 k0); refine (i_words (some ⟨y0, 0, none⟩) 16 k0 H.regs _ (HM.out.r.rn.stay (by first | exact B1.out | exact al B1.out _))).mono ?_; rintro e x ⟨rfl, rfl⟩; rw [hb0])
          | (go_at_call_of 59 (Value.slice (some ⟨y1, 0, none⟩) 11 k1); refine (i_words (some ⟨y1, 0, none⟩) 11 k1 H.csr _ (HM.out.c.rn.stay (by first | exact B1.out | exact al B1.out _))).mono ?_; rintro e x ⟨rfl, rfl⟩; rw [hb1])
          | (go_at_call_of 59 (Value.slice a2 n2 k2); refine (i_words a2 n2 k2 H.inn _ (HM.out.i.rn.stay (by first | exact B1.out | exact al B1.out _))).mono ?_; rintro e x ⟨rfl, rfl⟩; rw [hb2])
          | (go_at_call_of 59 (Value.slice a3 n3 k3); refine (i_words a3 n3 k3 H.out _ (HM.out.o.rn.stay (by first | exact B1.out | exact al B1.out _))).mono ?_; rintro e x ⟨rfl, rfl⟩; rw [hb3])
          | (go_at_call 59; refine (i_words _ 1 1 [H.pc] _ (one_rn _ _ (by simp))).mono ?_; rintro e x ⟨rfl, rfl⟩; rw [one_all, hbp])
          | (go_at_call 88; refine (i_allStand _ k1 H.csr _ (HM.out.c.rn.stay (al B1.out _)) CW.out).mono ?_; rintro e x ⟨rfl, rfl⟩; rw [hst]))
    go_ret
    exact ⟨ret_i (hf_nice FM.out WM.out FW.out HN.out).symm, by first | exact B1.out | exact al B1.out _⟩
  have hI5 : ¬ 1000000000 < H.done := by omega
  have ND : Hid (0 ≤ H.done ∧ H.done ≤ 1000000000) := ⟨hd0, hd9⟩
  cases hst : standC H.csr
  case false =>
    have HN : Hid (standC H.csr = false) := hst
    go_enter Tryz.func55, Tryz.ntmps55
    go_wp2_with (first
          | (go_at_call_of 59 (Value.slice (some ⟨y0, 0, none⟩) 16 k0); refine (i_words (some ⟨y0, 0, none⟩) 16 k0 H.regs _ (HM.out.r.rn.stay (by first | exact B1.out | exact al B1.out _))).mono ?_; rintro e x ⟨rfl, rfl⟩; rw [hb0])
          | (go_at_call_of 59 (Value.slice (some ⟨y1, 0, none⟩) 11 k1); refine (i_words (some ⟨y1, 0, none⟩) 11 k1 H.csr _ (HM.out.c.rn.stay (by first | exact B1.out | exact al B1.out _))).mono ?_; rintro e x ⟨rfl, rfl⟩; rw [hb1])
          | (go_at_call_of 59 (Value.slice a2 n2 k2); refine (i_words a2 n2 k2 H.inn _ (HM.out.i.rn.stay (by first | exact B1.out | exact al B1.out _))).mono ?_; rintro e x ⟨rfl, rfl⟩; rw [hb2])
          | (go_at_call_of 59 (Value.slice a3 n3 k3); refine (i_words a3 n3 k3 H.out _ (HM.out.o.rn.stay (by first | exact B1.out | exact al B1.out _))).mono ?_; rintro e x ⟨rfl, rfl⟩; rw [hb3])
          | (go_at_call 59; refine (i_words _ 1 1 [H.pc] _ (one_rn _ _ (by simp))).mono ?_; rintro e x ⟨rfl, rfl⟩; rw [one_all, hbp])
          | (go_at_call 88; refine (i_allStand _ k1 H.csr _ (HM.out.c.rn.stay (al B1.out _)) CW.out).mono ?_; rintro e x ⟨rfl, rfl⟩; rw [hst]))
    go_ret
    exact ⟨ret_i ((hf_stand FM.out WM.out FW.out ND.out).trans (by rw [HN.out]; rfl)).symm, by first | exact B1.out | exact al B1.out _⟩
  have HN : Hid (standC H.csr = true) := hst
  go_enter Tryz.func55, Tryz.ntmps55
  go_wp2_with (first
        | (go_at_call_of 59 (Value.slice (some ⟨y0, 0, none⟩) 16 k0); refine (i_words (some ⟨y0, 0, none⟩) 16 k0 H.regs _ (HM.out.r.rn.stay (by first | exact B1.out | exact al B1.out _))).mono ?_; rintro e x ⟨rfl, rfl⟩; rw [hb0])
        | (go_at_call_of 59 (Value.slice (some ⟨y1, 0, none⟩) 11 k1); refine (i_words (some ⟨y1, 0, none⟩) 11 k1 H.csr _ (HM.out.c.rn.stay (by first | exact B1.out | exact al B1.out _))).mono ?_; rintro e x ⟨rfl, rfl⟩; rw [hb1])
        | (go_at_call_of 59 (Value.slice a2 n2 k2); refine (i_words a2 n2 k2 H.inn _ (HM.out.i.rn.stay (by first | exact B1.out | exact al B1.out _))).mono ?_; rintro e x ⟨rfl, rfl⟩; rw [hb2])
        | (go_at_call_of 59 (Value.slice a3 n3 k3); refine (i_words a3 n3 k3 H.out _ (HM.out.o.rn.stay (by first | exact B1.out | exact al B1.out _))).mono ?_; rintro e x ⟨rfl, rfl⟩; rw [hb3])
        | (go_at_call 59; refine (i_words _ 1 1 [H.pc] _ (one_rn _ _ (by simp))).mono ?_; rintro e x ⟨rfl, rfl⟩; rw [one_all, hbp])
        | (go_at_call 88; refine (i_allStand _ k1 H.csr _ (HM.out.c.rn.stay (al B1.out _)) CW.out).mono ?_; rintro e x ⟨rfl, rfl⟩; rw [hst]))
  go_ret
  exact ⟨ret_i ((hf_stand FM.out WM.out FW.out ND.out).trans (by rw [HN.out]; rfl)).symm, by first | exact B1.out | exact al B1.out _⟩
end Go.Proofs.YtggejbphdadckaaGreatDoor
