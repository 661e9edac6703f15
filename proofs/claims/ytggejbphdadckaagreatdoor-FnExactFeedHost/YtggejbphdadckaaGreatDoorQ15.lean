/- Texts of this seat, joined. -/
import Derived.Deep.RegionWith
import Derived.Laws.AppendOwnNone
import Derived.Deep.Cut
import Derived.Test.YtggejbphdadckaaGreatDoorQ09
import Derived.Test.YtggejbphdadckaaGreatDoorQ10
import Derived.Test.YtggejbphdadckaaGreatDoorQ12
import Derived.Test.YtggejbphdadckaaGreatDoorQ14
namespace Go.Proofs.YtggejbphdadckaaGreatDoor
open Go.RowKit
set_option linter.unusedVariables false

theorem one_all (z : Int) : [z].all isW = isW z := by simp
theorem one_rn (w : World) (z : Int) {t : TypeId} {q : Nat} (hq : q = w.heap.size) : Rn (w.alloc (.cells #[.int .i64 z] t)) (some ⟨q, 0, none⟩) 1 1 [z] := by
  subst hq
  refine .inr ⟨_, rfl, by decide, by decide, rfl, fun i hi => ?_⟩
  obtain rfl : i = 0 := by omega
  rw [show (⟨w.heap.size, 0, none⟩ : Addr).add 0 = ⟨w.heap.size, 0, none⟩ by rw [Addr.add_lit]]
  exact cell_new rfl

set_option maxRecDepth 20000 in
set_option maxHeartbeats 8000000 in
theorem i_fault (r c i o : Value) (H : Ht) (b : Nat) (w : World) (h : Hm w b r c i o H) :
    Calls Tryz.prog 55 #[.agg #[r, .int .i64 H.pc, c, .bool H.halted, .bool H.waiting, .bool H.rung, .int .i64 H.done, i, o]] w fun e w' => e = .returned (.int .i64 (hfV H)) ∧ Below w.heap.size w w' := by
  have HM : Hid (Hm w b r c i o H) := h
  obtain ⟨a0, k0, h0, _, _, g0⟩ := h.r.shape
  obtain ⟨a1, k1, h1, _, _, g1⟩ := h.c.shape
  obtain ⟨a2, k2, h2, _, l2, _⟩ := h.i.shape
  obtain ⟨a3, k3, h3, _, l3, _⟩ := h.o.shape
  have R0 := h.r.rv
  obtain ⟨n0, e0⟩ : ∃ n, H.regs.length = n := ⟨_, rfl⟩
  obtain ⟨n1, e1⟩ : ∃ n, H.csr.length = n := ⟨_, rfl⟩
  obtain ⟨n2, e2⟩ : ∃ n, H.inn.length = n := ⟨_, rfl⟩
  obtain ⟨n3, e3⟩ : ∃ n, H.out.length = n := ⟨_, rfl⟩
  rw [e0] at h0 g0
  rw [e1] at h1 g1
  rw [e2] at h2
  rw [e3] at h3
  have EL : Hid (H.regs.length = n0 ∧ H.csr.length = n1 ∧ H.inn.length = n2 ∧ H.out.length = n3) := ⟨e0, e1, e2, e3⟩
  subst h0 h1 h2 h3
  have hl2 : (n2 : Int) ≤ 9223372036854775807 := by have := h.i.lens; unfold maxLen at this; omega
  have hl3 : (n3 : Int) ≤ 9223372036854775807 := by have := h.o.lens; unfold maxLen at this; omega
  have hl0 : (n0 : Int) ≤ 9223372036854775807 := by have := h.r.lens; unfold maxLen at this; omega
  have hl1 : (n1 : Int) ≤ 9223372036854775807 := by have := h.c.lens; unfold maxLen at this; omega
  clear h e0 e1 e2 e3 l2 l3 R0
  have B1 : Hid (Below w.heap.size w (w.alloc (.cells #[.slice a0 n0 k0, .int .i64 H.pc, .slice a1 n1 k1, .bool H.halted, .bool H.waiting, .bool H.rung, .int .i64 H.done, .slice a2 n2 k2, .slice a3 n3 k3] 60))) := al (Below.refl _ _) _
  by_cases hn0 : n0 = 16
  case neg =>
    have HN : Hid (¬ (H.regs.length = 16 ∧ H.csr.length = 11 ∧ H.regs.getD 0 0 = 0)) := fun k => hn0 (EL.out.1.symm.trans k.1)
    have hI : ¬ (n0 : Int) = 16 := by omega
    go_enter Tryz.func55, Tryz.ntmps55
    go_wp2_with fail
    go_ret
    exact ⟨ret_i (hf_form HN.out).symm, by first | exact B1.out | exact al B1.out _⟩
  subst hn0
  obtain ⟨y0, rfl⟩ := g0 (by decide)
  clear g0
  by_cases hn1 : n1 = 11
  case neg =>
    have HN : Hid (¬ (H.regs.length = 16 ∧ H.csr.length = 11 ∧ H.regs.getD 0 0 = 0)) := fun k => hn1 (EL.out.2.1.symm.trans k.2.1)
    have hI : ¬ (n1 : Int) = 11 := by omega
    go_enter Tryz.func55, Tryz.ntmps55
    go_wp2_with fail
    go_ret
    exact ⟨ret_i (hf_form HN.out).symm, by first | exact B1.out | exact al B1.out _⟩
  subst hn1
  obtain ⟨y1, rfl⟩ := g1 (by decide)
  clear g1
  obtain ⟨z0, hz0⟩ : ∃ z, H.regs.getD 0 0 = z := ⟨_, rfl⟩
  have cz : (w.alloc (.cells #[.slice (some ⟨y0, 0, none⟩) 16 k0, .int .i64 H.pc, .slice (some ⟨y1, 0, none⟩) 11 k1, .bool H.halted, .bool H.waiting, .bool H.rung, .int .i64 H.done, .slice a2 n2 k2, .slice a3 n3 k3] 60)).cell? ⟨y0, 0, none⟩ = some (.int .i64 z0) := by rw [← hz0]; exact cell_push _ (HM.out.r.cell EL.out.1.symm 0 (by decide))
  have Y0 : Hid (y0 < w.heap.size) := block_of_cell (HM.out.r.cell EL.out.1.symm 0 (by decide))
  have Y1 : Hid (y1 < w.heap.size) := block_of_cell (HM.out.c.cell EL.out.2.1.symm 0 (by decide))
  have y0lt : y0 < w.heap.size := Y0.out
  have y1lt : y1 < w.heap.size := Y1.out
  have HZ0 : Hid (H.regs.getD 0 0 = z0) := hz0
  clear hz0
  by_cases hr0 : z0 = 0
  case neg =>
    have HN : Hid (¬ (H.regs.length = 16 ∧ H.csr.length = 11 ∧ H.regs.getD 0 0 = 0)) := fun k => hr0 (HZ0.out.symm.trans k.2.2)
    go_enter Tryz.func55, Tryz.ntmps55
    go_wp2_with fail
    go_ret
    exact ⟨ret_i (hf_form HN.out).symm, by first | exact B1.out | exact al B1.out _⟩
  have FM : Hid (H.regs.length = 16 ∧ H.csr.length = 11 ∧ H.regs.getD 0 0 = 0) := ⟨EL.out.1, EL.out.2.1, HZ0.out.trans hr0⟩
  subst hr0
  cases hb0 : H.regs.all isW
  case false =>
    have HN : Hid (H.words = false) := by show _ = _; simp [Ht.words, hb0]
    go_enter Tryz.func55, Tryz.ntmps55
    go_wp2_with (first
          | (go_at_call_of 59 (Value.slice (some ⟨y0, 0, none⟩) 16 k0); refine (i_words (some ⟨y0, 0, none⟩) 16 k0 H.regs _ (HM.out.r.rn.stay (by first | exact B1.out | exact al B1.out _))).mono ?_; rintro e x ⟨rfl, rfl⟩; rw [hb0])
          | (go_at_call_of 59 (Value.slice (some ⟨y1, 0, none⟩) 11 k1); refine (i_words (some ⟨y1, 0, none⟩) 11 k1 H.csr _ (HM.out.c.rn.stay (by first | exact B1.out | exact al B1.out _))).mono ?_; rintro e x ⟨rfl, rfl⟩; rw [hb1])
          | (go_at_call_of 59 (Value.slice a2 n2 k2); refine (i_words a2 n2 k2 H.inn _ (HM.out.i.rn.stay (by first | exact B1.out | exact al B1.out _))).mono ?_; rintro e x ⟨rfl, rfl⟩; rw [hb2])
          | (go_at_call_of 59 (Value.slice a3 n3 k3); refine (i_words a3 n3 k3 H.out _ (HM.out.o.rn.stay (by first | exact B1.out | exact al B1.out _))).mono ?_; rintro e x ⟨rfl, rfl⟩; rw [hb3])
          | (go_at_call 59; refine (i_words _ 1 1 [H.pc] _ (one_rn _ _ (by simp))).mono ?_; rintro e x ⟨rfl, rfl⟩; rw [one_all, hbp])
          | (go_at_call 88; refine (i_allStand _ k1 H.csr _ (HM.out.c.rn.stay (al B1.out _)) CW.out).mono ?_; rintro e x ⟨rfl, rfl⟩; rw [hst]))
    go_ret
    exact ⟨ret_i (hf_words FM.out HN.out).symm, by first | exact B1.out | exact al B1.out _⟩
  cases hbp : isW H.pc
  case false =>
    have HN : Hid (H.words = false) := by show _ = _; simp [Ht.words, hbp]
    go_enter Tryz.func55, Tryz.ntmps55
    go_wp2_with (first
          | (go_at_call_of 59 (Value.slice (some ⟨y0, 0, none⟩) 16 k0); refine (i_words (some ⟨y0, 0, none⟩) 16 k0 H.regs _ (HM.out.r.rn.stay (by first | exact B1.out | exact al B1.out _))).mono ?_; rintro e x ⟨rfl, rfl⟩; rw [hb0])
          | (go_at_call_of 59 (Value.slice (some ⟨y1, 0, none⟩) 11 k1); refine (i_words (some ⟨y1, 0, none⟩) 11 k1 H.csr _ (HM.out.c.rn.stay (by first | exact B1.out | exact al B1.out _))).mono ?_; rintro e x ⟨rfl, rfl⟩; rw [hb1])
          | (go_at_call_of 59 (Value.slice a2 n2 k2); refine (i_words a2 n2 k2 H.inn _ (HM.out.i.rn.stay (by first | exact B1.out | exact al B1.out _))).mono ?_; rintro e x ⟨rfl, rfl⟩; rw [hb2])
          | (go_at_call_of 59 (Value.slice a3 n3 k3); refine (i_words a3 n3 k3 H.out _ (HM.out.o.rn.stay (by first | exact B1.out | exact al B1.out _))).mono ?_; rintro e x ⟨rfl, rfl⟩; rw [hb3])
          | (go_at_call 59; refine (i_words _ 1 1 [H.pc] _ (one_rn _ _ (by simp))).mono ?_; rintro e x ⟨rfl, rfl⟩; rw [one_all, hbp])
          | (go_at_call 88; refine (i_allStand _ k1 H.csr _ (HM.out.c.rn.stay (al B1.out _)) CW.out).mono ?_; rintro e x ⟨rfl, rfl⟩; rw [hst]))
    go_ret
    exact ⟨ret_i (hf_words FM.out HN.out).symm, by first | exact B1.out | exact al B1.out _⟩
  cases hb1 : H.csr.all isW
  case false =>
    have HN : Hid (H.words = false) := by show _ = _; simp [Ht.words, hb1]
    go_enter Tryz.func55, Tryz.ntmps55
    go_wp2_with (first
          | (go_at_call_of 59 (Value.slice (some ⟨y0, 0, none⟩) 16 k0); refine (i_words (some ⟨y0, 0, none⟩) 16 k0 H.regs _ (HM.out.r.rn.stay (by first | exact B1.out | exact al B1.out _))).mono ?_; rintro e x ⟨rfl, rfl⟩; rw [hb0])
          | (go_at_call_of 59 (Value.slice (some ⟨y1, 0, none⟩) 11 k1); refine (i_words (some ⟨y1, 0, none⟩) 11 k1 H.csr _ (HM.out.c.rn.stay (by first | exact B1.out | exact al B1.out _))).mono ?_; rintro e x ⟨rfl, rfl⟩; rw [hb1])
          | (go_at_call_of 59 (Value.slice a2 n2 k2); refine (i_words a2 n2 k2 H.inn _ (HM.out.i.rn.stay (by first | exact B1.out | exact al B1.out _))).mono ?_; rintro e x ⟨rfl, rfl⟩; rw [hb2])
          | (go_at_call_of 59 (Value.slice a3 n3 k3); refine (i_words a3 n3 k3 H.out _ (HM.out.o.rn.stay (by first | exact B1.out | exact al B1.out _))).mono ?_; rintro e x ⟨rfl, rfl⟩; rw [hb3])
          | (go_at_call 59; refine (i_words _ 1 1 [H.pc] _ (one_rn _ _ (by simp))).mono ?_; rintro e x ⟨rfl, rfl⟩; rw [one_all, hbp])
          | (go_at_call 88; refine (i_allStand _ k1 H.csr _ (HM.out.c.rn.stay (al B1.out _)) CW.out).mono ?_; rintro e x ⟨rfl, rfl⟩; rw [hst]))
    go_ret
    exact ⟨ret_i (hf_words FM.out HN.out).symm, by first | exact B1.out | exact al B1.out _⟩
  cases hb2 : H.inn.all isW
  case false =>
    have HN : Hid (H.words = false) := by show _ = _; simp [Ht.words, hb2]
    go_enter Tryz.func55, Tryz.ntmps55
    go_wp2_with (first
          | (go_at_call_of 59 (Value.slice (some ⟨y0, 0, none⟩) 16 k0); refine (i_words (some ⟨y0, 0, none⟩) 16 k0 H.regs _ (HM.out.r.rn.stay (by first | exact B1.out | exact al B1.out _))).mono ?_; rintro e x ⟨rfl, rfl⟩; rw [hb0])
          | (go_at_call_of 59 (Value.slice (some ⟨y1, 0, none⟩) 11 k1); refine (i_words (some ⟨y1, 0, none⟩) 11 k1 H.csr _ (HM.out.c.rn.stay (by first | exact B1.out | exact al B1.out _))).mono ?_; rintro e x ⟨rfl, rfl⟩; rw [hb1])
          | (go_at_call_of 59 (Value.slice a2 n2 k2); refine (i_words a2 n2 k2 H.inn _ (HM.out.i.rn.stay (by first | exact B1.out | exact al B1.out _))).mono ?_; rintro e x ⟨rfl, rfl⟩; rw [hb2])
          | (go_at_call_of 59 (Value.slice a3 n3 k3); refine (i_words a3 n3 k3 H.out _ (HM.out.o.rn.stay (by first | exact B1.out | exact al B1.out _))).mono ?_; rintro e x ⟨rfl, rfl⟩; rw [hb3])
          | (go_at_call 59; refine (i_words _ 1 1 [H.pc] _ (one_rn _ _ (by simp))).mono ?_; rintro e x ⟨rfl, rfl⟩; rw [one_all, hbp])
          | (go_at_call 88; refine (i_allStand _ k1 H.csr _ (HM.out.c.rn.stay (al B1.out _)) CW.out).mono ?_; rintro e x ⟨rfl, rfl⟩; rw [hst]))
    go_ret
    exact ⟨ret_i (hf_words FM.out HN.out).symm, by first | exact B1.out | exact al B1.out _⟩
  cases hb3 : H.out.all isW
  case false =>
    have HN : Hid (H.words = false) := by show _ = _; simp [Ht.words, hb3]
    go_enter Tryz.func55, Tryz.ntmps55
    go_wp2_with (first
          | (go_at_call_of 59 (Value.slice (some ⟨y0, 0, none⟩) 16 k0); refine (i_words (some ⟨y0, 0, none⟩) 16 k0 H.regs _ (HM.out.r.rn.stay (by first | exact B1.out | exact al B1.out _))).mono ?_; rintro e x ⟨rfl, rfl⟩; rw [hb0])
          | (go_at_call_of 59 (Value.slice (some ⟨y1, 0, none⟩) 11 k1); refine (i_words (some ⟨y1, 0, none⟩) 11 k1 H.csr _ (HM.out.c.rn.stay (by first | exact B1.out | exact al B1.out _))).mono ?_; rintro e x ⟨rfl, rfl⟩; rw [hb1])
          | (go_at_call_of 59 (Value.slice a2 n2 k2); refine (i_words a2 n2 k2 H.inn _ (HM.out.i.rn.stay (by first | exact B1.out | exact al B1.out _))).mono ?_; rintro e x ⟨rfl, rfl⟩; rw [hb2])
          | (go_at_call_of 59 (Value.slice a3 n3 k3); refine (i_words a3 n3 k3 H.out _ (HM.out.o.rn.stay (by first | exact B1.out | exact al B1.out _))).mono ?_; rintro e x ⟨rfl, rfl⟩; rw [hb3])
          | (go_at_call 59; refine (i_words _ 1 1 [H.pc] _ (one_rn _ _ (by simp))).mono ?_; rintro e x ⟨rfl, rfl⟩; rw [one_all, hbp])
          | (go_at_call 88; refine (i_allStand _ k1 H.csr _ (HM.out.c.rn.stay (al B1.out _)) CW.out).mono ?_; rintro e x ⟨rfl, rfl⟩; rw [hst]))
    go_ret
    exact ⟨ret_i (hf_words FM.out HN.out).symm, by first | exact B1.out | exact al B1.out _⟩
  have WM : Hid (H.words = true) := by show _ = _; simp [Ht.words, hb0, hbp, hb1, hb2, hb3]
  have CW : Hid (H.csr.all isW = true) := hb1
  by_cases hn2 : n2 ≤ 40
  case neg =>
    have HN : Hid (¬ (H.inn.length ≤ 40 ∧ H.out.length ≤ 40)) := fun k => hn2 (by have := EL.out.2.2.1; omega)
    have hI : (40 : Int) < (n2 : Int) := by omega
    go_enter Tryz.func55, Tryz.ntmps55
    go_wp2_with (first
          | (go_at_call_of 59 (Value.slice (some ⟨y0, 0, none⟩) 16 k0); refine (i_words (some ⟨y0, 0, none⟩) 16 k0 H.regs _ (HM.out.r.rn.stay (by first | exact B1.out | exact al B1.out _))).mono ?_; rintro e x ⟨rfl, rfl⟩; rw [hb0])
          | (go_at_call_of 59 (Value.slice (some ⟨y1, 0, none⟩) 11 k1); refine (i_words (some ⟨y1, 0, none⟩) 11 k1 H.csr _ (HM.out.c.rn.stay (by first | exact B1.out | exact al B1.out _))).mono ?_; rintro e x ⟨rfl, rfl⟩; rw [hb1])
          | (go_at_call_of 59 (Value.slice a2 n2 k2); refine (i_words a2 n2 k2 H.inn _ (HM.out.i.rn.stay (by first | exact B1.out | exact al B1.out _))).mono ?_; rintro e x ⟨rfl, rfl⟩; rw [hb2])
          | (go_at_call_of 59 (Value.slice a3 n3 k3); refine (i_words a3 n3 k3 H.out _ (HM.out.o.rn.stay (by first | exact B1.out | exact al B1.out _))).mono ?_; rintro e x ⟨rfl, rfl⟩; rw [hb3])
          | (go_at_call 59; refine (i_words _ 1 1 [H.pc] _ (one_rn _ _ (by simp))).mono ?_; rintro e x ⟨rfl, rfl⟩; rw [one_all, hbp])
          | (go_at_call 88; refine (i_allStand _ k1 H.csr _ (HM.out.c.rn.stay (al B1.out _)) CW.out).mono ?_; rintro e x ⟨rfl, rfl⟩; rw [hst]))
    go_ret
    exact ⟨ret_i (hf_few FM.out WM.out HN.out).symm, by first | exact B1.out | exact al B1.out _⟩
  have hI2 : ¬ (40 : Int) < (n2 : Int) := by omega
  by_cases hn3 : n3 ≤ 40
  case neg =>
    have HN : Hid (¬ (H.inn.length ≤ 40 ∧ H.out.length ≤ 40)) := fun k => hn3 (by have := EL.out.2.2.2; omega)
    have hI : (40 : Int) < (n3 : Int) := by omega
    go_enter Tryz.func55, Tryz.ntmps55
    go_wp2_with (first
          | (go_at_call_of 59 (Value.slice (some ⟨y0, 0, none⟩) 16 k0); refine (i_words (some ⟨y0, 0, none⟩) 16 k0 H.regs _ (HM.out.r.rn.stay (by first | exact B1.out | exact al B1.out _))).mono ?_; rintro e x ⟨rfl, rfl⟩; rw [hb0])
          | (go_at_call_of 59 (Value.slice (some ⟨y1, 0, none⟩) 11 k1); refine (i_words (some ⟨y1, 0, none⟩) 11 k1 H.csr _ (HM.out.c.rn.stay (by first | exact B1.out | exact al B1.out _))).mono ?_; rintro e x ⟨rfl, rfl⟩; rw [hb1])
          | (go_at_call_of 59 (Value.slice a2 n2 k2); refine (i_words a2 n2 k2 H.inn _ (HM.out.i.rn.stay (by first | exact B1.out | exact al B1.out _))).mono ?_; rintro e x ⟨rfl, rfl⟩; rw [hb2])
          | (go_at_call_of 59 (Value.slice a3 n3 k3); refine (i_words a3 n3 k3 H.out _ (HM.out.o.rn.stay (by first | exact B1.out | exact al B1.out _))).mono ?_; rintro e x ⟨rfl, rfl⟩; rw [hb3])
          | (go_at_call 59; refine (i_words _ 1 1 [H.pc] _ (one_rn _ _ (by simp))).mono ?_; rintro e x ⟨rfl, rfl⟩; rw [one_all, hbp])
          | (go_at_call 88; refine (i_allStand _ k1 H.csr _ (HM.out.c.rn.stay (al B1.out _)) CW.out).mono ?_; rintro e x ⟨rfl, rfl⟩; rw [hst]))
    go_ret
    exact ⟨ret_i (hf_few FM.out WM.out HN.out).symm, by first | exact B1.out | exact al B1.out _⟩
  have hI3 : ¬ (40 : Int) < (n3 : Int) := by omega
  have FW : Hid (H.inn.length ≤ 40 ∧ H.out.length ≤ 40) := ⟨by have := EL.out.2.2.1; omega, by have := EL.out.2.2.2; omega⟩
  by_cases hd0 : 0 ≤ H.done
  case neg =>
    have HN : Hid (¬ (0 ≤ H.done ∧ H.done ≤ 1000000000)) := fun k => hd0 k.1
    have hI : H.done < 0 := by omega
    go_enter Tryz.func55, Tryz.ntmps55
    go_wp2_with (first
          | (go_at_call_of 59 (Value.slice (some ⟨y0, 0, none⟩) 16 k0); refine (i_words (some ⟨y0, 0, none⟩) 16 k0 H.regs _ (HM.out.r.rn.stay (by first | exact B1.out | exact al B1.out _))).mono ?_; rintro e x ⟨rfl, rfl⟩; rw [hb0])
          | (go_at_call_of 59 (Value.slice (some ⟨y1, 0, none⟩) 11 k1); refine (i_words (some ⟨y1, 0, none⟩) 11 k1 H.csr _ (HM.out.c.rn.stay (by first | exact B1.out | exact al B1.out _))).mono ?_; rintro e x ⟨rfl, rfl⟩; rw [hb1])
          | (go_at_call_of 59 (Value.slice a2 n2 k2); refine (i_words a2 n2 k2 H.inn _ (HM.out.i.rn.stay (by first | exact B1.out | exact al B1.out _))).mono ?_; rintro e x ⟨rfl, rfl⟩; rw [hb2])
          | (go_at_call_of 59 (Value.slice a3 n3 k3); refine (i_words a3 n3 k3 H.out _ (HM.out.o.rn.stay (by first | exact B1.out | exact al B1.out _))).mono ?_; rintro e x ⟨rfl, rfl⟩; rw [hb3])
          | (go_at_call 59; refine (i_words _ 1 1 [H.pc] _ (one_rn _ _ (by simp))).mono ?_; rintro e x ⟨rfl, rfl⟩; rw [one_all, hbp])
          | (go_at_call 88; refine (i_allStand _ k1 H.csr _ (HM.out.c.rn.stay (al B1.out _)) CW.out).mono ?_; rintro e x ⟨rfl, rfl⟩; rw [hst]))
    go_ret
    exact ⟨ret_i (hf_nice FM.out WM.out FW.out HN.out).symm, by first | exact B1.out | exact al B1.out _⟩
  have hI4 : ¬ H.done < 0 := by omega
  by_cases hd9 : H.done ≤ 1000000000
  case neg =>
    have HN : Hid (¬ (0 ≤ H.done ∧ H.done ≤ 1000000000)) := fun k => hd9 k.2
    have hI : 1000000000 < H.done := by omega
    go_enter Tryz.func55, Tryz.ntmps55
    go_wp2_with (first
          | (go_at_call_of 59 (Value.slice (some ⟨y0, 0, none⟩) 16 k0); refine (i_words (some ⟨y0, 0, none⟩) 16 k0 H.regs _ (HM.out.r.rn.stay (by first | exact B1.out | exact al B1.out _))).mono ?_; rintro e x ⟨rfl, rfl⟩; rw [hb0])
          | (go_at_call_of 59 (Value.slice (some ⟨y1, 0, none⟩) 11 k1); refine (i_words (some ⟨y1, 0, none⟩) 11 k1 H.csr _ (HM.out.c.rn.stay (by first | exact B1.out | exact al B1.out _))).mono ?_; rintro e x ⟨rfl, rfl⟩; rw [hb1])
          | (go_at_call_of 59 (Value.slice a2 n2 k2); refine (i_words a2 n2 k2 H.inn _ (HM.out.i.rn.stay (by first | exact B1.out | exact al B1.out _))).mono ?_; rintro e x ⟨rfl, rfl⟩; rw [hb2])
          | (go_at_call_of 59 (Value.slice a3 n3 k3); refine (i_words a3 n3 k3 H.out _ (HM.out.o.rn.stay (by first | exact B1.out | exact al B1.out _))).mono ?_; rintro e x ⟨rfl, rfl⟩; rw [hb3])
          | (go_at_call 59; refine (i_words _ 1 1 [H.pc] _ (one_rn _ _ (by simp))).mono ?_; rintro e x ⟨rfl, rfl⟩; rw [one_all, hbp])
          | (go_at_call 88; refine (i_allStand _ k1 H.csr _ (HM.out.c.rn.stay (al B1.out _)) CW.out).mono ?_; rintro e x ⟨rfl, rfl⟩; rw [hst]))
    go_ret
    exact ⟨ret_i (hf_nice FM.out WM.out FW.out HN.out).symm, by first | exact B1.out | exact al B1.out _⟩
  have hI5 : ¬ 1000000000 < H.done := by omega
  have ND : Hid (0 ≤ H.done ∧ H.done ≤ 1000000000) := ⟨hd0, hd9⟩
  cases hst : standC H.csr
  case false =>
    have HN : Hid (standC H.csr = false) := hst
    go_enter Tryz.func55, Tryz.ntmps55
    go_wp2_with (first
          | (go_at_call_of 59 (Value.slice (some ⟨y0, 0, none⟩) 16 k0); refine (i_words (some ⟨y0, 0, none⟩) 16 k0 H.regs _ (HM.out.r.rn.stay (by first | exact B1.out | exact al B1.out _))).mono ?_; rintro e x ⟨rfl, rfl⟩; rw [hb0])
          | (go_at_call_of 59 (Value.slice (some ⟨y1, 0, none⟩) 11 k1); refine (i_words (some ⟨y1, 0, none⟩) 11 k1 H.csr _ (HM.out.c.rn.stay (by first | exact B1.out | exact al B1.out _))).mono ?_; rintro e x ⟨rfl, rfl⟩; rw [hb1])
          | (go_at_call_of 59 (Value.slice a2 n2 k2); refine (i_words a2 n2 k2 H.inn _ (HM.out.i.rn.stay (by first | exact B1.out | exact al B1.out _))).mono ?_; rintro e x ⟨rfl, rfl⟩; rw [hb2])
          | (go_at_call_of 59 (Value.slice a3 n3 k3); refine (i_words a3 n3 k3 H.out _ (HM.out.o.rn.stay (by first | exact B1.out | exact al B1.out _))).mono ?_; rintro e x ⟨rfl, rfl⟩; rw [hb3])
          | (go_at_call 59; refine (i_words _ 1 1 [H.pc] _ (one_rn _ _ (by simp))).mono ?_; rintro e x ⟨rfl, rfl⟩; rw [one_all, hbp])
          | (go_at_call 88; refine (i_allStand _ k1 H.csr _ (HM.out.c.rn.stay (al B1.out _)) CW.out).mono ?_; rintro e x ⟨rfl, rfl⟩; rw [hst]))
    go_ret
    exact ⟨ret_i ((hf_stand FM.out WM.out FW.out ND.out).trans (by rw [HN.out]; rfl)).symm, by first | exact B1.out | exact al B1.out _⟩
  have HN : Hid (standC H.csr = true) := hst
  go_enter Tryz.func55, Tryz.ntmps55
  go_wp2_with (first
        | (go_at_call_of 59 (Value.slice (some ⟨y0, 0, none⟩) 16 k0); refine (i_words (some ⟨y0, 0, none⟩) 16 k0 H.regs _ (HM.out.r.rn.stay (by first | exact B1.out | exact al B1.out _))).mono ?_; rintro e x ⟨rfl, rfl⟩; rw [hb0])
        | (go_at_call_of 59 (Value.slice (some ⟨y1, 0, none⟩) 11 k1); refine (i_words (some ⟨y1, 0, none⟩) 11 k1 H.csr _ (HM.out.c.rn.stay (by first | exact B1.out | exact al B1.out _))).mono ?_; rintro e x ⟨rfl, rfl⟩; rw [hb1])
        | (go_at_call_of 59 (Value.slice a2 n2 k2); refine (i_words a2 n2 k2 H.inn _ (HM.out.i.rn.stay (by first | exact B1.out | exact al B1.out _))).mono ?_; rintro e x ⟨rfl, rfl⟩; rw [hb2])
        | (go_at_call_of 59 (Value.slice a3 n3 k3); refine (i_words a3 n3 k3 H.out _ (HM.out.o.rn.stay (by first | exact B1.out | exact al B1.out _))).mono ?_; rintro e x ⟨rfl, rfl⟩; rw [hb3])
        | (go_at_call 59; refine (i_words _ 1 1 [H.pc] _ (one_rn _ _ (by simp))).mono ?_; rintro e x ⟨rfl, rfl⟩; rw [one_all, hbp])
        | (go_at_call 88; refine (i_allStand _ k1 H.csr _ (HM.out.c.rn.stay (al B1.out _)) CW.out).mono ?_; rintro e x ⟨rfl, rfl⟩; rw [hst]))
  go_ret
  exact ⟨ret_i ((hf_stand FM.out WM.out FW.out ND.out).trans (by rw [HN.out]; rfl)).symm, by first | exact B1.out | exact al B1.out _⟩
end Go.Proofs.YtggejbphdadckaaGreatDoor
namespace Go.Proofs.YtggejbphdadckaaGreatDoor
open Go.RowKit
set_option linter.unusedVariables false

set_option maxRecDepth 20000 in
set_option maxHeartbeats 8000000 in
theorem s_fault (q : Nat) (r c i o : Value) (H : Ht) (b : Nat) (w : World) (h : Hm w b r c i o H) (hv : Vb w q #[r, .int .i64 H.pc, c, .bool H.halted, .bool H.waiting, .bool H.rung, .int .i64 H.done, i, o] 60) :
    Calls Tryz.prog 41 #[.pointer (some ⟨q, 0, none⟩)] w fun e w' => e = .returned (.int .i64 (hfV H)) ∧ w' = w := by
  have HM : Hid (Hm w b r c i o H) := h
  obtain ⟨a0, k0, h0, _, _, g0⟩ := h.r.shape
  obtain ⟨a1, k1, h1, _, _, g1⟩ := h.c.shape
  obtain ⟨a2, k2, h2, _, l2, _⟩ := h.i.shape
  obtain ⟨a3, k3, h3, _, l3, _⟩ := h.o.shape
  have R0 := h.r.rv
  obtain ⟨n0, e0⟩ : ∃ n, H.regs.length = n := ⟨_, rfl⟩
  obtain ⟨n1, e1⟩ : ∃ n, H.csr.length = n := ⟨_, rfl⟩
  obtain ⟨n2, e2⟩ : ∃ n, H.inn.length = n := ⟨_, rfl⟩
  obtain ⟨n3, e3⟩ : ∃ n, H.out.length = n := ⟨_, rfl⟩
  rw [e0] at h0 g0
  rw [e1] at h1 g1
  rw [e2] at h2
  rw [e3] at h3
  have EL : Hid (H.regs.length = n0 ∧ H.csr.length = n1 ∧ H.inn.length = n2 ∧ H.out.length = n3) := ⟨e0, e1, e2, e3⟩
  subst h0 h1 h2 h3
  have hl2 : (n2 : Int) ≤ 9223372036854775807 := by have := h.i.lens; unfold maxLen at this; omega
  have hl3 : (n3 : Int) ≤ 9223372036854775807 := by have := h.o.lens; unfold maxLen at this; omega
  have hl0 : (n0 : Int) ≤ 9223372036854775807 := by have := h.r.lens; unfold maxLen at this; omega
  have hl1 : (n1 : Int) ≤ 9223372036854775807 := by have := h.c.lens; unfold maxLen at this; omega
  clear h e0 e1 e2 e3 l2 l3 R0
  have v0 := hv.cell 0 rfl
  have v1 := hv.cell 1 rfl
  have v2 := hv.cell 2 rfl
  have v6 := hv.cell 6 rfl
  have v7 := hv.cell 7 rfl
  have v8 := hv.cell 8 rfl
  clear hv
  by_cases hn0 : n0 = 16
  case neg =>
    have HN : Hid (¬ (H.regs.length = 16 ∧ H.csr.length = 11 ∧ H.regs.getD 0 0 = 0)) := fun k => hn0 (EL.out.1.symm.trans k.1)
    have hI : ¬ (n0 : Int) = 16 := by omega
    go_enter Tryz.func41, Tryz.ntmps41
    go_wp2_with fail
    go_ret
    exact ⟨ret_i (hf_form HN.out).symm, rfl⟩
  subst hn0
  obtain ⟨y0, rfl⟩ := g0 (by decide)
  clear g0
  by_cases hn1 : n1 = 11
  case neg =>
    have HN : Hid (¬ (H.regs.length = 16 ∧ H.csr.length = 11 ∧ H.regs.getD 0 0 = 0)) := fun k => hn1 (EL.out.2.1.symm.trans k.2.1)
    have hI : ¬ (n1 : Int) = 11 := by omega
    go_enter Tryz.func41, Tryz.ntmps41
    go_wp2_with fail
    go_ret
    exact ⟨ret_i (hf_form HN.out).symm, rfl⟩
  subst hn1
  obtain ⟨y1, rfl⟩ := g1 (by decide)
  clear g1
  obtain ⟨z0, hz0⟩ : ∃ z, H.regs.getD 0 0 = z := ⟨_, rfl⟩
  have cz : w.cell? ⟨y0, 0, none⟩ = some (.int .i64 z0) := by rw [← hz0]; exact HM.out.r.cell EL.out.1.symm 0 (by decide)
  have Y0 : Hid (y0 < w.heap.size) := block_of_cell (HM.out.r.cell EL.out.1.symm 0 (by decide))
  have Y1 : Hid (y1 < w.heap.size) := block_of_cell (HM.out.c.cell EL.out.2.1.symm 0 (by decide))
  have y0lt : y0 < w.heap.size := Y0.out
  have y1lt : y1 < w.heap.size := Y1.out
  have HZ0 : Hid (H.regs.getD 0 0 = z0) := hz0
  clear hz0
  by_cases hr0 : z0 = 0
  case neg =>
    have HN : Hid (¬ (H.regs.length = 16 ∧ H.csr.length = 11 ∧ H.regs.getD 0 0 = 0)) := fun k => hr0 (HZ0.out.symm.trans k.2.2)
    go_enter Tryz.func41, Tryz.ntmps41
    go_wp2_with fail
    go_ret
    exact ⟨ret_i (hf_form HN.out).symm, rfl⟩
  have FM : Hid (H.regs.length = 16 ∧ H.csr.length = 11 ∧ H.regs.getD 0 0 = 0) := ⟨EL.out.1, EL.out.2.1, HZ0.out.trans hr0⟩
  subst hr0
  cases hb0 : H.regs.all isW
  case false =>
    have HN : Hid (H.words = false) := by show _ = _; simp [Ht.words, hb0]
    go_enter Tryz.func41, Tryz.ntmps41
    go_wp2_with (first
          | (go_at_call_of 44 (Value.slice (some ⟨y0, 0, none⟩) 16 k0); refine (s_words (some ⟨y0, 0, none⟩) 16 k0 H.regs _ HM.out.r.rn).mono ?_; rintro e x ⟨rfl, rfl⟩; rw [hb0])
          | (go_at_call_of 44 (Value.slice (some ⟨y1, 0, none⟩) 11 k1); refine (s_words (some ⟨y1, 0, none⟩) 11 k1 H.csr _ HM.out.c.rn).mono ?_; rintro e x ⟨rfl, rfl⟩; rw [hb1])
          | (go_at_call_of 44 (Value.slice a2 n2 k2); refine (s_words a2 n2 k2 H.inn _ HM.out.i.rn).mono ?_; rintro e x ⟨rfl, rfl⟩; rw [hb2])
          | (go_at_call_of 44 (Value.slice a3 n3 k3); refine (s_words a3 n3 k3 H.out _ HM.out.o.rn).mono ?_; rintro e x ⟨rfl, rfl⟩; rw [hb3])
          | (go_at_call 81; refine (s_word _ _).mono ?_; rintro e x ⟨rfl, rfl⟩; rw [hbp])
          | (go_at_call 42; refine (spec_in _ _ _ _).mono ?_; rintro e x ⟨rfl, rfl⟩; rw [hdn]))
    go_ret
    exact ⟨ret_i (hf_words FM.out HN.out).symm, rfl⟩
  cases hbp : isW H.pc
  case false =>
    have HN : Hid (H.words = false) := by show _ = _; simp [Ht.words, hbp]
    go_enter Tryz.func41, Tryz.ntmps41
    go_wp2_with (first
          | (go_at_call_of 44 (Value.slice (some ⟨y0, 0, none⟩) 16 k0); refine (s_words (some ⟨y0, 0, none⟩) 16 k0 H.regs _ HM.out.r.rn).mono ?_; rintro e x ⟨rfl, rfl⟩; rw [hb0])
          | (go_at_call_of 44 (Value.slice (some ⟨y1, 0, none⟩) 11 k1); refine (s_words (some ⟨y1, 0, none⟩) 11 k1 H.csr _ HM.out.c.rn).mono ?_; rintro e x ⟨rfl, rfl⟩; rw [hb1])
          | (go_at_call_of 44 (Value.slice a2 n2 k2); refine (s_words a2 n2 k2 H.inn _ HM.out.i.rn).mono ?_; rintro e x ⟨rfl, rfl⟩; rw [hb2])
          | (go_at_call_of 44 (Value.slice a3 n3 k3); refine (s_words a3 n3 k3 H.out _ HM.out.o.rn).mono ?_; rintro e x ⟨rfl, rfl⟩; rw [hb3])
          | (go_at_call 81; refine (s_word _ _).mono ?_; rintro e x ⟨rfl, rfl⟩; rw [hbp])
          | (go_at_call 42; refine (spec_in _ _ _ _).mono ?_; rintro e x ⟨rfl, rfl⟩; rw [hdn]))
    go_ret
    exact ⟨ret_i (hf_words FM.out HN.out).symm, rfl⟩
  cases hb1 : H.csr.all isW
  case false =>
    have HN : Hid (H.words = false) := by show _ = _; simp [Ht.words, hb1]
    go_enter Tryz.func41, Tryz.ntmps41
    go_wp2_with (first
          | (go_at_call_of 44 (Value.slice (some ⟨y0, 0, none⟩) 16 k0); refine (s_words (some ⟨y0, 0, none⟩) 16 k0 H.regs _ HM.out.r.rn).mono ?_; rintro e x ⟨rfl, rfl⟩; rw [hb0])
          | (go_at_call_of 44 (Value.slice (some ⟨y1, 0, none⟩) 11 k1); refine (s_words (some ⟨y1, 0, none⟩) 11 k1 H.csr _ HM.out.c.rn).mono ?_; rintro e x ⟨rfl, rfl⟩; rw [hb1])
          | (go_at_call_of 44 (Value.slice a2 n2 k2); refine (s_words a2 n2 k2 H.inn _ HM.out.i.rn).mono ?_; rintro e x ⟨rfl, rfl⟩; rw [hb2])
          | (go_at_call_of 44 (Value.slice a3 n3 k3); refine (s_words a3 n3 k3 H.out _ HM.out.o.rn).mono ?_; rintro e x ⟨rfl, rfl⟩; rw [hb3])
          | (go_at_call 81; refine (s_word _ _).mono ?_; rintro e x ⟨rfl, rfl⟩; rw [hbp])
          | (go_at_call 42; refine (spec_in _ _ _ _).mono ?_; rintro e x ⟨rfl, rfl⟩; rw [hdn]))
    go_ret
    exact ⟨ret_i (hf_words FM.out HN.out).symm, rfl⟩
  cases hb2 : H.inn.all isW
  case false =>
    have HN : Hid (H.words = false) := by show _ = _; simp [Ht.words, hb2]
    go_enter Tryz.func41, Tryz.ntmps41
    go_wp2_with (first
          | (go_at_call_of 44 (Value.slice (some ⟨y0, 0, none⟩) 16 k0); refine (s_words (some ⟨y0, 0, none⟩) 16 k0 H.regs _ HM.out.r.rn).mono ?_; rintro e x ⟨rfl, rfl⟩; rw [hb0])
          | (go_at_call_of 44 (Value.slice (some ⟨y1, 0, none⟩) 11 k1); refine (s_words (some ⟨y1, 0, none⟩) 11 k1 H.csr _ HM.out.c.rn).mono ?_; rintro e x ⟨rfl, rfl⟩; rw [hb1])
          | (go_at_call_of 44 (Value.slice a2 n2 k2); refine (s_words a2 n2 k2 H.inn _ HM.out.i.rn).mono ?_; rintro e x ⟨rfl, rfl⟩; rw [hb2])
          | (go_at_call_of 44 (Value.slice a3 n3 k3); refine (s_words a3 n3 k3 H.out _ HM.out.o.rn).mono ?_; rintro e x ⟨rfl, rfl⟩; rw [hb3])
          | (go_at_call 81; refine (s_word _ _).mono ?_; rintro e x ⟨rfl, rfl⟩; rw [hbp])
          | (go_at_call 42; refine (spec_in _ _ _ _).mono ?_; rintro e x ⟨rfl, rfl⟩; rw [hdn]))
    go_ret
    exact ⟨ret_i (hf_words FM.out HN.out).symm, rfl⟩
  cases hb3 : H.out.all isW
  case false =>
    have HN : Hid (H.words = false) := by show _ = _; simp [Ht.words, hb3]
    go_enter Tryz.func41, Tryz.ntmps41
    go_wp2_with (first
          | (go_at_call_of 44 (Value.slice (some ⟨y0, 0, none⟩) 16 k0); refine (s_words (some ⟨y0, 0, none⟩) 16 k0 H.regs _ HM.out.r.rn).mono ?_; rintro e x ⟨rfl, rfl⟩; rw [hb0])
          | (go_at_call_of 44 (Value.slice (some ⟨y1, 0, none⟩) 11 k1); refine (s_words (some ⟨y1, 0, none⟩) 11 k1 H.csr _ HM.out.c.rn).mono ?_; rintro e x ⟨rfl, rfl⟩; rw [hb1])
          | (go_at_call_of 44 (Value.slice a2 n2 k2); refine (s_words a2 n2 k2 H.inn _ HM.out.i.rn).mono ?_; rintro e x ⟨rfl, rfl⟩; rw [hb2])
          | (go_at_call_of 44 (Value.slice a3 n3 k3); refine (s_words a3 n3 k3 H.out _ HM.out.o.rn).mono ?_; rintro e x ⟨rfl, rfl⟩; rw [hb3])
          | (go_at_call 81; refine (s_word _ _).mono ?_; rintro e x ⟨rfl, rfl⟩; rw [hbp])
          | (go_at_call 42; refine (spec_in _ _ _ _).mono ?_; rintro e x ⟨rfl, rfl⟩; rw [hdn]))
    go_ret
    exact ⟨ret_i (hf_words FM.out HN.out).symm, rfl⟩
  have WM : Hid (H.words = true) := by show _ = _; simp [Ht.words, hb0, hbp, hb1, hb2, hb3]
  have CW : Hid (H.csr.all isW = true) := hb1
  by_cases hn2 : n2 ≤ 40
  case neg =>
    have HN : Hid (¬ (H.inn.length ≤ 40 ∧ H.out.length ≤ 40)) := fun k => hn2 (by have := EL.out.2.2.1; omega)
    have hI : (40 : Int) < (n2 : Int) := by omega
    go_enter Tryz.func41, Tryz.ntmps41
    go_wp2_with (first
          | (go_at_call_of 44 (Value.slice (some ⟨y0, 0, none⟩) 16 k0); refine (s_words (some ⟨y0, 0, none⟩) 16 k0 H.regs _ HM.out.r.rn).mono ?_; rintro e x ⟨rfl, rfl⟩; rw [hb0])
          | (go_at_call_of 44 (Value.slice (some ⟨y1, 0, none⟩) 11 k1); refine (s_words (some ⟨y1, 0, none⟩) 11 k1 H.csr _ HM.out.c.rn).mono ?_; rintro e x ⟨rfl, rfl⟩; rw [hb1])
          | (go_at_call_of 44 (Value.slice a2 n2 k2); refine (s_words a2 n2 k2 H.inn _ HM.out.i.rn).mono ?_; rintro e x ⟨rfl, rfl⟩; rw [hb2])
          | (go_at_call_of 44 (Value.slice a3 n3 k3); refine (s_words a3 n3 k3 H.out _ HM.out.o.rn).mono ?_; rintro e x ⟨rfl, rfl⟩; rw [hb3])
          | (go_at_call 81; refine (s_word _ _).mono ?_; rintro e x ⟨rfl, rfl⟩; rw [hbp])
          | (go_at_call 42; refine (spec_in _ _ _ _).mono ?_; rintro e x ⟨rfl, rfl⟩; rw [hdn]))
    go_ret
    exact ⟨ret_i (hf_few FM.out WM.out HN.out).symm, rfl⟩
  have hI2 : ¬ (40 : Int) < (n2 : Int) := by omega
  by_cases hn3 : n3 ≤ 40
  case neg =>
    have HN : Hid (¬ (H.inn.length ≤ 40 ∧ H.out.length ≤ 40)) := fun k => hn3 (by have := EL.out.2.2.2; omega)
    have hI : (40 : Int) < (n3 : Int) := by omega
    go_enter Tryz.func41, Tryz.ntmps41
    go_wp2_with (first
          | (go_at_call_of 44 (Value.slice (some ⟨y0, 0, none⟩) 16 k0); refine (s_words (some ⟨y0, 0, none⟩) 16 k0 H.regs _ HM.out.r.rn).mono ?_; rintro e x ⟨rfl, rfl⟩; rw [hb0])
          | (go_at_call_of 44 (Value.slice (some ⟨y1, 0, none⟩) 11 k1); refine (s_words (some ⟨y1, 0, none⟩) 11 k1 H.csr _ HM.out.c.rn).mono ?_; rintro e x ⟨rfl, rfl⟩; rw [hb1])
          | (go_at_call_of 44 (Value.slice a2 n2 k2); refine (s_words a2 n2 k2 H.inn _ HM.out.i.rn).mono ?_; rintro e x ⟨rfl, rfl⟩; rw [hb2])
          | (go_at_call_of 44 (Value.slice a3 n3 k3); refine (s_words a3 n3 k3 H.out _ HM.out.o.rn).mono ?_; rintro e x ⟨rfl, rfl⟩; rw [hb3])
          | (go_at_call 81; refine (s_word _ _).mono ?_; rintro e x ⟨rfl, rfl⟩; rw [hbp])
          | (go_at_call 42; refine (spec_in _ _ _ _).mono ?_; rintro e x ⟨rfl, rfl⟩; rw [hdn]))
    go_ret
    exact ⟨ret_i (hf_few FM.out WM.out HN.out).symm, rfl⟩
  have hI3 : ¬ (40 : Int) < (n3 : Int) := by omega
  have FW : Hid (H.inn.length ≤ 40 ∧ H.out.length ≤ 40) := ⟨by have := EL.out.2.2.1; omega, by have := EL.out.2.2.2; omega⟩
  cases hdn : (decide (0 ≤ H.done) && decide (H.done ≤ 1000000000))
  case false =>
    have HN : Hid (¬ (0 ≤ H.done ∧ H.done ≤ 1000000000)) := fun k => by simp [k.1, k.2] at hdn
    go_enter Tryz.func41, Tryz.ntmps41
    go_wp2_with (first
          | (go_at_call_of 44 (Value.slice (some ⟨y0, 0, none⟩) 16 k0); refine (s_words (some ⟨y0, 0, none⟩) 16 k0 H.regs _ HM.out.r.rn).mono ?_; rintro e x ⟨rfl, rfl⟩; rw [hb0])
          | (go_at_call_of 44 (Value.slice (some ⟨y1, 0, none⟩) 11 k1); refine (s_words (some ⟨y1, 0, none⟩) 11 k1 H.csr _ HM.out.c.rn).mono ?_; rintro e x ⟨rfl, rfl⟩; rw [hb1])
          | (go_at_call_of 44 (Value.slice a2 n2 k2); refine (s_words a2 n2 k2 H.inn _ HM.out.i.rn).mono ?_; rintro e x ⟨rfl, rfl⟩; rw [hb2])
          | (go_at_call_of 44 (Value.slice a3 n3 k3); refine (s_words a3 n3 k3 H.out _ HM.out.o.rn).mono ?_; rintro e x ⟨rfl, rfl⟩; rw [hb3])
          | (go_at_call 81; refine (s_word _ _).mono ?_; rintro e x ⟨rfl, rfl⟩; rw [hbp])
          | (go_at_call 42; refine (spec_in _ _ _ _).mono ?_; rintro e x ⟨rfl, rfl⟩; rw [hdn]))
    go_ret
    exact ⟨ret_i (hf_nice FM.out WM.out FW.out HN.out).symm, rfl⟩
  have ND : Hid (0 ≤ H.done ∧ H.done ≤ 1000000000) := by show _ ∧ _; simpa using hdn
  obtain ⟨s0, hs0⟩ : ∃ z, H.csr.getD 0 0 = z := ⟨_, rfl⟩
  have cs0 : w.cell? ⟨y1, 0, none⟩ = some (.int .i64 s0) := by rw [← hs0]; exact HM.out.c.cell EL.out.2.1.symm 0 (by decide)
  have Hs0 : Hid (H.csr.getD 0 0 = s0) := hs0
  clear hs0
  obtain ⟨s7, hs7⟩ : ∃ z, H.csr.getD 7 0 = z := ⟨_, rfl⟩
  have cs7 : w.cell? ⟨y1, 7, none⟩ = some (.int .i64 s7) := by rw [← hs7]; exact HM.out.c.cell EL.out.2.1.symm 7 (by decide)
  have Hs7 : Hid (H.csr.getD 7 0 = s7) := hs7
  clear hs7
  obtain ⟨s10, hs10⟩ : ∃ z, H.csr.getD 10 0 = z := ⟨_, rfl⟩
  have cs10 : w.cell? ⟨y1, 10, none⟩ = some (.int .i64 s10) := by rw [← hs10]; exact HM.out.c.cell EL.out.2.1.symm 10 (by decide)
  have Hs10 : Hid (H.csr.getD 10 0 = s10) := hs10
  clear hs10
  obtain ⟨s6, hs6⟩ : ∃ z, H.csr.getD 6 0 = z := ⟨_, rfl⟩
  have cs6 : w.cell? ⟨y1, 6, none⟩ = some (.int .i64 s6) := by rw [← hs6]; exact HM.out.c.cell EL.out.2.1.symm 6 (by decide)
  have Hs6 : Hid (H.csr.getD 6 0 = s6) := hs6
  clear hs6
  obtain ⟨s8, hs8⟩ : ∃ z, H.csr.getD 8 0 = z := ⟨_, rfl⟩
  have cs8 : w.cell? ⟨y1, 8, none⟩ = some (.int .i64 s8) := by rw [← hs8]; exact HM.out.c.cell EL.out.2.1.symm 8 (by decide)
  have Hs8 : Hid (H.csr.getD 8 0 = s8) := hs8
  clear hs8
  have SC : Hid (standC H.csr = (decide (s0 ≤ 3) && decide (s7 ≤ 7) && decide (s10 ≤ 8) && decide (s6 = 0) && decide (s8 = 0))) := by show _ = _; unfold standC; rw [Hs0.out, Hs7.out, Hs10.out, Hs6.out, Hs8.out]
  by_cases ts0 : s0 ≤ 3
  case neg =>
    have HN : Hid (standC H.csr = false) := by show _ = _; rw [SC.out]; simp [ts0]
    have hI : 3 < s0 := by omega
    go_enter Tryz.func41, Tryz.ntmps41
    go_wp2_with (first
          | (go_at_call_of 44 (Value.slice (some ⟨y0, 0, none⟩) 16 k0); refine (s_words (some ⟨y0, 0, none⟩) 16 k0 H.regs _ HM.out.r.rn).mono ?_; rintro e x ⟨rfl, rfl⟩; rw [hb0])
          | (go_at_call_of 44 (Value.slice (some ⟨y1, 0, none⟩) 11 k1); refine (s_words (some ⟨y1, 0, none⟩) 11 k1 H.csr _ HM.out.c.rn).mono ?_; rintro e x ⟨rfl, rfl⟩; rw [hb1])
          | (go_at_call_of 44 (Value.slice a2 n2 k2); refine (s_words a2 n2 k2 H.inn _ HM.out.i.rn).mono ?_; rintro e x ⟨rfl, rfl⟩; rw [hb2])
          | (go_at_call_of 44 (Value.slice a3 n3 k3); refine (s_words a3 n3 k3 H.out _ HM.out.o.rn).mono ?_; rintro e x ⟨rfl, rfl⟩; rw [hb3])
          | (go_at_call 81; refine (s_word _ _).mono ?_; rintro e x ⟨rfl, rfl⟩; rw [hbp])
          | (go_at_call 42; refine (spec_in _ _ _ _).mono ?_; rintro e x ⟨rfl, rfl⟩; rw [hdn]))
    go_ret
    exact ⟨ret_i ((hf_stand FM.out WM.out FW.out ND.out).trans (by rw [HN.out]; rfl)).symm, rfl⟩
  have us0 : ¬ 3 < s0 := by omega
  by_cases ts7 : s7 ≤ 7
  case neg =>
    have HN : Hid (standC H.csr = false) := by show _ = _; rw [SC.out]; simp [ts7]
    have hI : 7 < s7 := by omega
    go_enter Tryz.func41, Tryz.ntmps41
    go_wp2_with (first
          | (go_at_call_of 44 (Value.slice (some ⟨y0, 0, none⟩) 16 k0); refine (s_words (some ⟨y0, 0, none⟩) 16 k0 H.regs _ HM.out.r.rn).mono ?_; rintro e x ⟨rfl, rfl⟩; rw [hb0])
          | (go_at_call_of 44 (Value.slice (some ⟨y1, 0, none⟩) 11 k1); refine (s_words (some ⟨y1, 0, none⟩) 11 k1 H.csr _ HM.out.c.rn).mono ?_; rintro e x ⟨rfl, rfl⟩; rw [hb1])
          | (go_at_call_of 44 (Value.slice a2 n2 k2); refine (s_words a2 n2 k2 H.inn _ HM.out.i.rn).mono ?_; rintro e x ⟨rfl, rfl⟩; rw [hb2])
          | (go_at_call_of 44 (Value.slice a3 n3 k3); refine (s_words a3 n3 k3 H.out _ HM.out.o.rn).mono ?_; rintro e x ⟨rfl, rfl⟩; rw [hb3])
          | (go_at_call 81; refine (s_word _ _).mono ?_; rintro e x ⟨rfl, rfl⟩; rw [hbp])
          | (go_at_call 42; refine (spec_in _ _ _ _).mono ?_; rintro e x ⟨rfl, rfl⟩; rw [hdn]))
    go_ret
    exact ⟨ret_i ((hf_stand FM.out WM.out FW.out ND.out).trans (by rw [HN.out]; rfl)).symm, rfl⟩
  have us7 : ¬ 7 < s7 := by omega
  by_cases ts10 : s10 ≤ 8
  case neg =>
    have HN : Hid (standC H.csr = false) := by show _ = _; rw [SC.out]; simp [ts10]
    have hI : 8 < s10 := by omega
    go_enter Tryz.func41, Tryz.ntmps41
    go_wp2_with (first
          | (go_at_call_of 44 (Value.slice (some ⟨y0, 0, none⟩) 16 k0); refine (s_words (some ⟨y0, 0, none⟩) 16 k0 H.regs _ HM.out.r.rn).mono ?_; rintro e x ⟨rfl, rfl⟩; rw [hb0])
          | (go_at_call_of 44 (Value.slice (some ⟨y1, 0, none⟩) 11 k1); refine (s_words (some ⟨y1, 0, none⟩) 11 k1 H.csr _ HM.out.c.rn).mono ?_; rintro e x ⟨rfl, rfl⟩; rw [hb1])
          | (go_at_call_of 44 (Value.slice a2 n2 k2); refine (s_words a2 n2 k2 H.inn _ HM.out.i.rn).mono ?_; rintro e x ⟨rfl, rfl⟩; rw [hb2])
          | (go_at_call_of 44 (Value.slice a3 n3 k3); refine (s_words a3 n3 k3 H.out _ HM.out.o.rn).mono ?_; rintro e x ⟨rfl, rfl⟩; rw [hb3])
          | (go_at_call 81; refine (s_word _ _).mono ?_; rintro e x ⟨rfl, rfl⟩; rw [hbp])
          | (go_at_call 42; refine (spec_in _ _ _ _).mono ?_; rintro e x ⟨rfl, rfl⟩; rw [hdn]))
    go_ret
    exact ⟨ret_i ((hf_stand FM.out WM.out FW.out ND.out).trans (by rw [HN.out]; rfl)).symm, rfl⟩
  have us10 : ¬ 8 < s10 := by omega
  by_cases ts6 : s6 = 0
  case neg =>
    have HN : Hid (standC H.csr = false) := by show _ = _; rw [SC.out]; simp [ts6]
    have hI : (s6 != 0) = true := by simp [ts6]
    go_enter Tryz.func41, Tryz.ntmps41
    go_wp2_with (first
          | (go_at_call_of 44 (Value.slice (some ⟨y0, 0, none⟩) 16 k0); refine (s_words (some ⟨y0, 0, none⟩) 16 k0 H.regs _ HM.out.r.rn).mono ?_; rintro e x ⟨rfl, rfl⟩; rw [hb0])
          | (go_at_call_of 44 (Value.slice (some ⟨y1, 0, none⟩) 11 k1); refine (s_words (some ⟨y1, 0, none⟩) 11 k1 H.csr _ HM.out.c.rn).mono ?_; rintro e x ⟨rfl, rfl⟩; rw [hb1])
          | (go_at_call_of 44 (Value.slice a2 n2 k2); refine (s_words a2 n2 k2 H.inn _ HM.out.i.rn).mono ?_; rintro e x ⟨rfl, rfl⟩; rw [hb2])
          | (go_at_call_of 44 (Value.slice a3 n3 k3); refine (s_words a3 n3 k3 H.out _ HM.out.o.rn).mono ?_; rintro e x ⟨rfl, rfl⟩; rw [hb3])
          | (go_at_call 81; refine (s_word _ _).mono ?_; rintro e x ⟨rfl, rfl⟩; rw [hbp])
          | (go_at_call 42; refine (spec_in _ _ _ _).mono ?_; rintro e x ⟨rfl, rfl⟩; rw [hdn]))
    go_ret
    exact ⟨ret_i ((hf_stand FM.out WM.out FW.out ND.out).trans (by rw [HN.out]; rfl)).symm, rfl⟩
  subst ts6
  by_cases ts8 : s8 = 0
  case neg =>
    have HN : Hid (standC H.csr = false) := by show _ = _; rw [SC.out]; simp [ts8]
    have hI : (s8 != 0) = true := by simp [ts8]
    go_enter Tryz.func41, Tryz.ntmps41
    go_wp2_with (first
          | (go_at_call_of 44 (Value.slice (some ⟨y0, 0, none⟩) 16 k0); refine (s_words (some ⟨y0, 0, none⟩) 16 k0 H.regs _ HM.out.r.rn).mono ?_; rintro e x ⟨rfl, rfl⟩; rw [hb0])
          | (go_at_call_of 44 (Value.slice (some ⟨y1, 0, none⟩) 11 k1); refine (s_words (some ⟨y1, 0, none⟩) 11 k1 H.csr _ HM.out.c.rn).mono ?_; rintro e x ⟨rfl, rfl⟩; rw [hb1])
          | (go_at_call_of 44 (Value.slice a2 n2 k2); refine (s_words a2 n2 k2 H.inn _ HM.out.i.rn).mono ?_; rintro e x ⟨rfl, rfl⟩; rw [hb2])
          | (go_at_call_of 44 (Value.slice a3 n3 k3); refine (s_words a3 n3 k3 H.out _ HM.out.o.rn).mono ?_; rintro e x ⟨rfl, rfl⟩; rw [hb3])
          | (go_at_call 81; refine (s_word _ _).mono ?_; rintro e x ⟨rfl, rfl⟩; rw [hbp])
          | (go_at_call 42; refine (spec_in _ _ _ _).mono ?_; rintro e x ⟨rfl, rfl⟩; rw [hdn]))
    go_ret
    exact ⟨ret_i ((hf_stand FM.out WM.out FW.out ND.out).trans (by rw [HN.out]; rfl)).symm, rfl⟩
  subst ts8
  have HN : Hid (standC H.csr = true) := by show _ = _; rw [SC.out]; simp [ts0, ts7, ts10]
  go_enter Tryz.func41, Tryz.ntmps41
  go_wp2_with (first
        | (go_at_call_of 44 (Value.slice (some ⟨y0, 0, none⟩) 16 k0); refine (s_words (some ⟨y0, 0, none⟩) 16 k0 H.regs _ HM.out.r.rn).mono ?_; rintro e x ⟨rfl, rfl⟩; rw [hb0])
        | (go_at_call_of 44 (Value.slice (some ⟨y1, 0, none⟩) 11 k1); refine (s_words (some ⟨y1, 0, none⟩) 11 k1 H.csr _ HM.out.c.rn).mono ?_; rintro e x ⟨rfl, rfl⟩; rw [hb1])
        | (go_at_call_of 44 (Value.slice a2 n2 k2); refine (s_words a2 n2 k2 H.inn _ HM.out.i.rn).mono ?_; rintro e x ⟨rfl, rfl⟩; rw [hb2])
        | (go_at_call_of 44 (Value.slice a3 n3 k3); refine (s_words a3 n3 k3 H.out _ HM.out.o.rn).mono ?_; rintro e x ⟨rfl, rfl⟩; rw [hb3])
        | (go_at_call 81; refine (s_word _ _).mono ?_; rintro e x ⟨rfl, rfl⟩; rw [hbp])
        | (go_at_call 42; refine (spec_in _ _ _ _).mono ?_; rintro e x ⟨rfl, rfl⟩; rw [hdn]))
  go_ret
  exact ⟨ret_i ((hf_stand FM.out WM.out FW.out ND.out).trans (by rw [HN.out]; rfl)).symm, rfl⟩

end Go.Proofs.YtggejbphdadckaaGreatDoor
namespace Go.Proofs.YtggejbphdadckaaGreatDoor
open Go.RowKit
set_option linter.unusedVariables false

set_option maxRecDepth 20000 in
set_option maxHeartbeats 8000000 in
theorem s_faultO (q O : Nat) (r c i o : Value) (H : Ht) (b : Nat) (w : World) (h : Hm w b r c i o H) (v0 : w.cell? ⟨q, O, none⟩ = some r) (v1 : w.cell? ⟨q, O + 1, none⟩ = some (.int .i64 H.pc)) (v2 : w.cell? ⟨q, O + 2, none⟩ = some c) (v6 : w.cell? ⟨q, O + 6, none⟩ = some (.int .i64 H.done)) (v7 : w.cell? ⟨q, O + 7, none⟩ = some i) (v8 : w.cell? ⟨q, O + 8, none⟩ = some o) :
    Calls Tryz.prog 41 #[.pointer (some ⟨q, O, none⟩)] w fun e w' => e = .returned (.int .i64 (hfV H)) ∧ w' = w := by
  have HM : Hid (Hm w b r c i o H) := h
  obtain ⟨a0, k0, h0, _, _, g0⟩ := h.r.shape
  obtain ⟨a1, k1, h1, _, _, g1⟩ := h.c.shape
  obtain ⟨a2, k2, h2, _, l2, _⟩ := h.i.shape
  obtain ⟨a3, k3, h3, _, l3, _⟩ := h.o.shape
  have R0 := h.r.rv
  obtain ⟨n0, e0⟩ : ∃ n, H.regs.length = n := ⟨_, rfl⟩
  obtain ⟨n1, e1⟩ : ∃ n, H.csr.length = n := ⟨_, rfl⟩
  obtain ⟨n2, e2⟩ : ∃ n, H.inn.length = n := ⟨_, rfl⟩
  obtain ⟨n3, e3⟩ : ∃ n, H.out.length = n := ⟨_, rfl⟩
  rw [e0] at h0 g0
  rw [e1] at h1 g1
  rw [e2] at h2
  rw [e3] at h3
  have EL : Hid (H.regs.length = n0 ∧ H.csr.length = n1 ∧ H.inn.length = n2 ∧ H.out.length = n3) := ⟨e0, e1, e2, e3⟩
  subst h0 h1 h2 h3
  have hl2 : (n2 : Int) ≤ 9223372036854775807 := by have := h.i.lens; unfold maxLen at this; omega
  have hl3 : (n3 : Int) ≤ 9223372036854775807 := by have := h.o.lens; unfold maxLen at this; omega
  have hl0 : (n0 : Int) ≤ 9223372036854775807 := by have := h.r.lens; unfold maxLen at this; omega
  have hl1 : (n1 : Int) ≤ 9223372036854775807 := by have := h.c.lens; unfold maxLen at this; omega
  clear h e0 e1 e2 e3 l2 l3 R0
  by_cases hn0 : n0 = 16
  case neg =>
    have HN : Hid (¬ (H.regs.length = 16 ∧ H.csr.length = 11 ∧ H.regs.getD 0 0 = 0)) := fun k => hn0 (EL.out.1.symm.trans k.1)
    have hI : ¬ (n0 : Int) = 16 := by omega
    go_enter Tryz.func41, Tryz.ntmps41
    go_wp2_with fail
    go_ret
    exact ⟨ret_i (hf_form HN.out).symm, rfl⟩
  subst hn0
  obtain ⟨y0, rfl⟩ := g0 (by decide)
  clear g0
  by_cases hn1 : n1 = 11
  case neg =>
    have HN : Hid (¬ (H.regs.length = 16 ∧ H.csr.length = 11 ∧ H.regs.getD 0 0 = 0)) := fun k => hn1 (EL.out.2.1.symm.trans k.2.1)
    have hI : ¬ (n1 : Int) = 11 := by omega
    go_enter Tryz.func41, Tryz.ntmps41
    go_wp2_with fail
    go_ret
    exact ⟨ret_i (hf_form HN.out).symm, rfl⟩
  subst hn1
  obtain ⟨y1, rfl⟩ := g1 (by decide)
  clear g1
  obtain ⟨z0, hz0⟩ : ∃ z, H.regs.getD 0 0 = z := ⟨_, rfl⟩
  have cz : w.cell? ⟨y0, 0, none⟩ = some (.int .i64 z0) := by rw [← hz0]; exact HM.out.r.cell EL.out.1.symm 0 (by decide)
  have Y0 : Hid (y0 < w.heap.size) := block_of_cell (HM.out.r.cell EL.out.1.symm 0 (by decide))
  have Y1 : Hid (y1 < w.heap.size) := block_of_cell (HM.out.c.cell EL.out.2.1.symm 0 (by decide))
  have y0lt : y0 < w.heap.size := Y0.out
  have y1lt : y1 < w.heap.size := Y1.out
  have HZ0 : Hid (H.regs.getD 0 0 = z0) := hz0
  clear hz0
  by_cases hr0 : z0 = 0
  case neg =>
    have HN : Hid (¬ (H.regs.length = 16 ∧ H.csr.length = 11 ∧ H.regs.getD 0 0 = 0)) := fun k => hr0 (HZ0.out.symm.trans k.2.2)
    go_enter Tryz.func41, Tryz.ntmps41
    go_wp2_with fail
    go_ret
    exact ⟨ret_i (hf_form HN.out).symm, rfl⟩
  have FM : Hid (H.regs.length = 16 ∧ H.csr.length = 11 ∧ H.regs.getD 0 0 = 0) := ⟨EL.out.1, EL.out.2.1, HZ0.out.trans hr0⟩
  subst hr0
  cases hb0 : H.regs.all isW
  case false =>
    have HN : Hid (H.words = false) := by show _ = _; simp [Ht.words, hb0]
    go_enter Tryz.func41, Tryz.ntmps41
    go_wp2_with (first
          | (go_at_call_of 44 (Value.slice (some ⟨y0, 0, none⟩) 16 k0); refine (s_words (some ⟨y0, 0, none⟩) 16 k0 H.regs _ HM.out.r.rn).mono ?_; rintro e x ⟨rfl, rfl⟩; rw [hb0])
          | (go_at_call_of 44 (Value.slice (some ⟨y1, 0, none⟩) 11 k1); refine (s_words (some ⟨y1, 0, none⟩) 11 k1 H.csr _ HM.out.c.rn).mono ?_; rintro e x ⟨rfl, rfl⟩; rw [hb1])
          | (go_at_call_of 44 (Value.slice a2 n2 k2); refine (s_words a2 n2 k2 H.inn _ HM.out.i.rn).mono ?_; rintro e x ⟨rfl, rfl⟩; rw [hb2])
          | (go_at_call_of 44 (Value.slice a3 n3 k3); refine (s_words a3 n3 k3 H.out _ HM.out.o.rn).mono ?_; rintro e x ⟨rfl, rfl⟩; rw [hb3])
          | (go_at_call 81; refine (s_word _ _).mono ?_; rintro e x ⟨rfl, rfl⟩; rw [hbp])
          | (go_at_call 42; refine (spec_in _ _ _ _).mono ?_; rintro e x ⟨rfl, rfl⟩; rw [hdn]))
    go_ret
    exact ⟨ret_i (hf_words FM.out HN.out).symm, rfl⟩
  cases hbp : isW H.pc
  case false =>
    have HN : Hid (H.words = false) := by show _ = _; simp [Ht.words, hbp]
    go_enter Tryz.func41, Tryz.ntmps41
    go_wp2_with (first
          | (go_at_call_of 44 (Value.slice (some ⟨y0, 0, none⟩) 16 k0); refine (s_words (some ⟨y0, 0, none⟩) 16 k0 H.regs _ HM.out.r.rn).mono ?_; rintro e x ⟨rfl, rfl⟩; rw [hb0])
          | (go_at_call_of 44 (Value.slice (some ⟨y1, 0, none⟩) 11 k1); refine (s_words (some ⟨y1, 0, none⟩) 11 k1 H.csr _ HM.out.c.rn).mono ?_; rintro e x ⟨rfl, rfl⟩; rw [hb1])
          | (go_at_call_of 44 (Value.slice a2 n2 k2); refine (s_words a2 n2 k2 H.inn _ HM.out.i.rn).mono ?_; rintro e x ⟨rfl, rfl⟩; rw [hb2])
          | (go_at_call_of 44 (Value.slice a3 n3 k3); refine (s_words a3 n3 k3 H.out _ HM.out.o.rn).mono ?_; rintro e x ⟨rfl, rfl⟩; rw [hb3])
          | (go_at_call 81; refine (s_word _ _).mono ?_; rintro e x ⟨rfl, rfl⟩; rw [hbp])
          | (go_at_call 42; refine (spec_in _ _ _ _).mono ?_; rintro e x ⟨rfl, rfl⟩; rw [hdn]))
    go_ret
    exact ⟨ret_i (hf_words FM.out HN.out).symm, rfl⟩
  cases hb1 : H.csr.all isW
  case false =>
    have HN : Hid (H.words = false) := by show _ = _; simp [Ht.words, hb1]
    go_enter Tryz.func41, Tryz.ntmps41
    go_wp2_with (first
          | (go_at_call_of 44 (Value.slice (some ⟨y0, 0, none⟩) 16 k0); refine (s_words (some ⟨y0, 0, none⟩) 16 k0 H.regs _ HM.out.r.rn).mono ?_; rintro e x ⟨rfl, rfl⟩; rw [hb0])
          | (go_at_call_of 44 (Value.slice (some ⟨y1, 0, none⟩) 11 k1); refine (s_words (some ⟨y1, 0, none⟩) 11 k1 H.csr _ HM.out.c.rn).mono ?_; rintro e x ⟨rfl, rfl⟩; rw [hb1])
          | (go_at_call_of 44 (Value.slice a2 n2 k2); refine (s_words a2 n2 k2 H.inn _ HM.out.i.rn).mono ?_; rintro e x ⟨rfl, rfl⟩; rw [hb2])
          | (go_at_call_of 44 (Value.slice a3 n3 k3); refine (s_words a3 n3 k3 H.out _ HM.out.o.rn).mono ?_; rintro e x ⟨rfl, rfl⟩; rw [hb3])
          | (go_at_call 81; refine (s_word _ _).mono ?_; rintro e x ⟨rfl, rfl⟩; rw [hbp])
          | (go_at_call 42; refine (spec_in _ _ _ _).mono ?_; rintro e x ⟨rfl, rfl⟩; rw [hdn]))
    go_ret
    exact ⟨ret_i (hf_words FM.out HN.out).symm, rfl⟩
  cases hb2 : H.inn.all isW
  case false =>
    have HN : Hid (H.words = false) := by show _ = _; simp [Ht.words, hb2]
    go_enter Tryz.func41, Tryz.ntmps41
    go_wp2_with (first
          | (go_at_call_of 44 (Value.slice (some ⟨y0, 0, none⟩) 16 k0); refine (s_words (some ⟨y0, 0, none⟩) 16 k0 H.regs _ HM.out.r.rn).mono ?_; rintro e x ⟨rfl, rfl⟩; rw [hb0])
          | (go_at_call_of 44 (Value.slice (some ⟨y1, 0, none⟩) 11 k1); refine (s_words (some ⟨y1, 0, none⟩) 11 k1 H.csr _ HM.out.c.rn).mono ?_; rintro e x ⟨rfl, rfl⟩; rw [hb1])
          | (go_at_call_of 44 (Value.slice a2 n2 k2); refine (s_words a2 n2 k2 H.inn _ HM.out.i.rn).mono ?_; rintro e x ⟨rfl, rfl⟩; rw [hb2])
          | (go_at_call_of 44 (Value.slice a3 n3 k3); refine (s_words a3 n3 k3 H.out _ HM.out.o.rn).mono ?_; rintro e x ⟨rfl, rfl⟩; rw [hb3])
          | (go_at_call 81; refine (s_word _ _).mono ?_; rintro e x ⟨rfl, rfl⟩; rw [hbp])
          | (go_at_call 42; refine (spec_in _ _ _ _).mono ?_; rintro e x ⟨rfl, rfl⟩; rw [hdn]))
    go_ret
    exact ⟨ret_i (hf_words FM.out HN.out).symm, rfl⟩
  cases hb3 : H.out.all isW
  case false =>
    have HN : Hid (H.words = false) := by show _ = _; simp [Ht.words, hb3]
    go_enter Tryz.func41, Tryz.ntmps41
    go_wp2_with (first
          | (go_at_call_of 44 (Value.slice (some ⟨y0, 0, none⟩) 16 k0); refine (s_words (some ⟨y0, 0, none⟩) 16 k0 H.regs _ HM.out.r.rn).mono ?_; rintro e x ⟨rfl, rfl⟩; rw [hb0])
          | (go_at_call_of 44 (Value.slice (some ⟨y1, 0, none⟩) 11 k1); refine (s_words (some ⟨y1, 0, none⟩) 11 k1 H.csr _ HM.out.c.rn).mono ?_; rintro e x ⟨rfl, rfl⟩; rw [hb1])
          | (go_at_call_of 44 (Value.slice a2 n2 k2); refine (s_words a2 n2 k2 H.inn _ HM.out.i.rn).mono ?_; rintro e x ⟨rfl, rfl⟩; rw [hb2])
          | (go_at_call_of 44 (Value.slice a3 n3 k3); refine (s_words a3 n3 k3 H.out _ HM.out.o.rn).mono ?_; rintro e x ⟨rfl, rfl⟩; rw [hb3])
          | (go_at_call 81; refine (s_word _ _).mono ?_; rintro e x ⟨rfl, rfl⟩; rw [hbp])
          | (go_at_call 42; refine (spec_in _ _ _ _).mono ?_; rintro e x ⟨rfl, rfl⟩; rw [hdn]))
    go_ret
    exact ⟨ret_i (hf_words FM.out HN.out).symm, rfl⟩
  have WM : Hid (H.words = true) := by show _ = _; simp [Ht.words, hb0, hbp, hb1, hb2, hb3]
  have CW : Hid (H.csr.all isW = true) := hb1
  by_cases hn2 : n2 ≤ 40
  case neg =>
    have HN : Hid (¬ (H.inn.length ≤ 40 ∧ H.out.length ≤ 40)) := fun k => hn2 (by have := EL.out.2.2.1; omega)
    have hI : (40 : Int) < (n2 : Int) := by omega
    go_enter Tryz.func41, Tryz.ntmps41
    go_wp2_with (first
          | (go_at_call_of 44 (Value.slice (some ⟨y0, 0, none⟩) 16 k0); refine (s_words (some ⟨y0, 0, none⟩) 16 k0 H.regs _ HM.out.r.rn).mono ?_; rintro e x ⟨rfl, rfl⟩; rw [hb0])
          | (go_at_call_of 44 (Value.slice (some ⟨y1, 0, none⟩) 11 k1); refine (s_words (some ⟨y1, 0, none⟩) 11 k1 H.csr _ HM.out.c.rn).mono ?_; rintro e x ⟨rfl, rfl⟩; rw [hb1])
          | (go_at_call_of 44 (Value.slice a2 n2 k2); refine (s_words a2 n2 k2 H.inn _ HM.out.i.rn).mono ?_; rintro e x ⟨rfl, rfl⟩; rw [hb2])
          | (go_at_call_of 44 (Value.slice a3 n3 k3); refine (s_words a3 n3 k3 H.out _ HM.out.o.rn).mono ?_; rintro e x ⟨rfl, rfl⟩; rw [hb3])
          | (go_at_call 81; refine (s_word _ _).mono ?_; rintro e x ⟨rfl, rfl⟩; rw [hbp])
          | (go_at_call 42; refine (spec_in _ _ _ _).mono ?_; rintro e x ⟨rfl, rfl⟩; rw [hdn]))
    go_ret
    exact ⟨ret_i (hf_few FM.out WM.out HN.out).symm, rfl⟩
  have hI2 : ¬ (40 : Int) < (n2 : Int) := by omega
  by_cases hn3 : n3 ≤ 40
  case neg =>
    have HN : Hid (¬ (H.inn.length ≤ 40 ∧ H.out.length ≤ 40)) := fun k => hn3 (by have := EL.out.2.2.2; omega)
    have hI : (40 : Int) < (n3 : Int) := by omega
    go_enter Tryz.func41, Tryz.ntmps41
    go_wp2_with (first
          | (go_at_call_of 44 (Value.slice (some ⟨y0, 0, none⟩) 16 k0); refine (s_words (some ⟨y0, 0, none⟩) 16 k0 H.regs _ HM.out.r.rn).mono ?_; rintro e x ⟨rfl, rfl⟩; rw [hb0])
          | (go_at_call_of 44 (Value.slice (some ⟨y1, 0, none⟩) 11 k1); refine (s_words (some ⟨y1, 0, none⟩) 11 k1 H.csr _ HM.out.c.rn).mono ?_; rintro e x ⟨rfl, rfl⟩; rw [hb1])
          | (go_at_call_of 44 (Value.slice a2 n2 k2); refine (s_words a2 n2 k2 H.inn _ HM.out.i.rn).mono ?_; rintro e x ⟨rfl, rfl⟩; rw [hb2])
          | (go_at_call_of 44 (Value.slice a3 n3 k3); refine (s_words a3 n3 k3 H.out _ HM.out.o.rn).mono ?_; rintro e x ⟨rfl, rfl⟩; rw [hb3])
          | (go_at_call 81; refine (s_word _ _).mono ?_; rintro e x ⟨rfl, rfl⟩; rw [hbp])
          | (go_at_call 42; refine (spec_in _ _ _ _).mono ?_; rintro e x ⟨rfl, rfl⟩; rw [hdn]))
    go_ret
    exact ⟨ret_i (hf_few FM.out WM.out HN.out).symm, rfl⟩
  have hI3 : ¬ (40 : Int) < (n3 : Int) := by omega
  have FW : Hid (H.inn.length ≤ 40 ∧ H.out.length ≤ 40) := ⟨by have := EL.out.2.2.1; omega, by have := EL.out.2.2.2; omega⟩
  cases hdn : (decide (0 ≤ H.done) && decide (H.done ≤ 1000000000))
  case false =>
    have HN : Hid (¬ (0 ≤ H.done ∧ H.done ≤ 1000000000)) := fun k => by simp [k.1, k.2] at hdn
    go_enter Tryz.func41, Tryz.ntmps41
    go_wp2_with (first
          | (go_at_call_of 44 (Value.slice (some ⟨y0, 0, none⟩) 16 k0); refine (s_words (some ⟨y0, 0, none⟩) 16 k0 H.regs _ HM.out.r.rn).mono ?_; rintro e x ⟨rfl, rfl⟩; rw [hb0])
          | (go_at_call_of 44 (Value.slice (some ⟨y1, 0, none⟩) 11 k1); refine (s_words (some ⟨y1, 0, none⟩) 11 k1 H.csr _ HM.out.c.rn).mono ?_; rintro e x ⟨rfl, rfl⟩; rw [hb1])
          | (go_at_call_of 44 (Value.slice a2 n2 k2); refine (s_words a2 n2 k2 H.inn _ HM.out.i.rn).mono ?_; rintro e x ⟨rfl, rfl⟩; rw [hb2])
          | (go_at_call_of 44 (Value.slice a3 n3 k3); refine (s_words a3 n3 k3 H.out _ HM.out.o.rn).mono ?_; rintro e x ⟨rfl, rfl⟩; rw [hb3])
          | (go_at_call 81; refine (s_word _ _).mono ?_; rintro e x ⟨rfl, rfl⟩; rw [hbp])
          | (go_at_call 42; refine (spec_in _ _ _ _).mono ?_; rintro e x ⟨rfl, rfl⟩; rw [hdn]))
    go_ret
    exact ⟨ret_i (hf_nice FM.out WM.out FW.out HN.out).symm, rfl⟩
  have ND : Hid (0 ≤ H.done ∧ H.done ≤ 1000000000) := by show _ ∧ _; simpa using hdn
  obtain ⟨s0, hs0⟩ : ∃ z, H.csr.getD 0 0 = z := ⟨_, rfl⟩
  have cs0 : w.cell? ⟨y1, 0, none⟩ = some (.int .i64 s0) := by rw [← hs0]; exact HM.out.c.cell EL.out.2.1.symm 0 (by decide)
  have Hs0 : Hid (H.csr.getD 0 0 = s0) := hs0
  clear hs0
  obtain ⟨s7, hs7⟩ : ∃ z, H.csr.getD 7 0 = z := ⟨_, rfl⟩
  have cs7 : w.cell? ⟨y1, 7, none⟩ = some (.int .i64 s7) := by rw [← hs7]; exact HM.out.c.cell EL.out.2.1.symm 7 (by decide)
  have Hs7 : Hid (H.csr.getD 7 0 = s7) := hs7
  clear hs7
  obtain ⟨s10, hs10⟩ : ∃ z, H.csr.getD 10 0 = z := ⟨_, rfl⟩
  have cs10 : w.cell? ⟨y1, 10, none⟩ = some (.int .i64 s10) := by rw [← hs10]; exact HM.out.c.cell EL.out.2.1.symm 10 (by decide)
  have Hs10 : Hid (H.csr.getD 10 0 = s10) := hs10
  clear hs10
  obtain ⟨s6, hs6⟩ : ∃ z, H.csr.getD 6 0 = z := ⟨_, rfl⟩
  have cs6 : w.cell? ⟨y1, 6, none⟩ = some (.int .i64 s6) := by rw [← hs6]; exact HM.out.c.cell EL.out.2.1.symm 6 (by decide)
  have Hs6 : Hid (H.csr.getD 6 0 = s6) := hs6
  clear hs6
  obtain ⟨s8, hs8⟩ : ∃ z, H.csr.getD 8 0 = z := ⟨_, rfl⟩
  have cs8 : w.cell? ⟨y1, 8, none⟩ = some (.int .i64 s8) := by rw [← hs8]; exact HM.out.c.cell EL.out.2.1.symm 8 (by decide)
  have Hs8 : Hid (H.csr.getD 8 0 = s8) := hs8
  clear hs8
  have SC : Hid (standC H.csr = (decide (s0 ≤ 3) && decide (s7 ≤ 7) && decide (s10 ≤ 8) && decide (s6 = 0) && decide (s8 = 0))) := by show _ = _; unfold standC; rw [Hs0.out, Hs7.out, Hs10.out, Hs6.out, Hs8.out]
  by_cases ts0 : s0 ≤ 3
  case neg =>
    have HN : Hid (standC H.csr = false) := by show _ = _; rw [SC.out]; simp [ts0]
    have hI : 3 < s0 := by omega
    go_enter Tryz.func41, Tryz.ntmps41
    go_wp2_with (first
          | (go_at_call_of 44 (Value.slice (some ⟨y0, 0, none⟩) 16 k0); refine (s_words (some ⟨y0, 0, none⟩) 16 k0 H.regs _ HM.out.r.rn).mono ?_; rintro e x ⟨rfl, rfl⟩; rw [hb0])
          | (go_at_call_of 44 (Value.slice (some ⟨y1, 0, none⟩) 11 k1); refine (s_words (some ⟨y1, 0, none⟩) 11 k1 H.csr _ HM.out.c.rn).mono ?_; rintro e x ⟨rfl, rfl⟩; rw [hb1])
          | (go_at_call_of 44 (Value.slice a2 n2 k2); refine (s_words a2 n2 k2 H.inn _ HM.out.i.rn).mono ?_; rintro e x ⟨rfl, rfl⟩; rw [hb2])
          | (go_at_call_of 44 (Value.slice a3 n3 k3); refine (s_words a3 n3 k3 H.out _ HM.out.o.rn).mono ?_; rintro e x ⟨rfl, rfl⟩; rw [hb3])
          | (go_at_call 81; refine (s_word _ _).mono ?_; rintro e x ⟨rfl, rfl⟩; rw [hbp])
          | (go_at_call 42; refine (spec_in _ _ _ _).mono ?_; rintro e x ⟨rfl, rfl⟩; rw [hdn]))
    go_ret
    exact ⟨ret_i ((hf_stand FM.out WM.out FW.out ND.out).trans (by rw [HN.out]; rfl)).symm, rfl⟩
  have us0 : ¬ 3 < s0 := by omega
  by_cases ts7 : s7 ≤ 7
  case neg =>
    have HN : Hid (standC H.csr = false) := by show _ = _; rw [SC.out]; simp [ts7]
    have hI : 7 < s7 := by omega
    go_enter Tryz.func41, Tryz.ntmps41
    go_wp2_with (first
          | (go_at_call_of 44 (Value.slice (some ⟨y0, 0, none⟩) 16 k0); refine (s_words (some ⟨y0, 0, none⟩) 16 k0 H.regs _ HM.out.r.rn).mono ?_; rintro e x ⟨rfl, rfl⟩; rw [hb0])
          | (go_at_call_of 44 (Value.slice (some ⟨y1, 0, none⟩) 11 k1); refine (s_words (some ⟨y1, 0, none⟩) 11 k1 H.csr _ HM.out.c.rn).mono ?_; rintro e x ⟨rfl, rfl⟩; rw [hb1])
          | (go_at_call_of 44 (Value.slice a2 n2 k2); refine (s_words a2 n2 k2 H.inn _ HM.out.i.rn).mono ?_; rintro e x ⟨rfl, rfl⟩; rw [hb2])
          | (go_at_call_of 44 (Value.slice a3 n3 k3); refine (s_words a3 n3 k3 H.out _ HM.out.o.rn).mono ?_; rintro e x ⟨rfl, rfl⟩; rw [hb3])
          | (go_at_call 81; refine (s_word _ _).mono ?_; rintro e x ⟨rfl, rfl⟩; rw [hbp])
          | (go_at_call 42; refine (spec_in _ _ _ _).mono ?_; rintro e x ⟨rfl, rfl⟩; rw [hdn]))
    go_ret
    exact ⟨ret_i ((hf_stand FM.out WM.out FW.out ND.out).trans (by rw [HN.out]; rfl)).symm, rfl⟩
  have us7 : ¬ 7 < s7 := by omega
  by_cases ts10 : s10 ≤ 8
  case neg =>
    have HN : Hid (standC H.csr = false) := by show _ = _; rw [SC.out]; simp [ts10]
    have hI : 8 < s10 := by omega
    go_enter Tryz.func41, Tryz.ntmps41
    go_wp2_with (first
          | (go_at_call_of 44 (Value.slice (some ⟨y0, 0, none⟩) 16 k0); refine (s_words (some ⟨y0, 0, none⟩) 16 k0 H.regs _ HM.out.r.rn).mono ?_; rintro e x ⟨rfl, rfl⟩; rw [hb0])
          | (go_at_call_of 44 (Value.slice (some ⟨y1, 0, none⟩) 11 k1); refine (s_words (some ⟨y1, 0, none⟩) 11 k1 H.csr _ HM.out.c.rn).mono ?_; rintro e x ⟨rfl, rfl⟩; rw [hb1])
          | (go_at_call_of 44 (Value.slice a2 n2 k2); refine (s_words a2 n2 k2 H.inn _ HM.out.i.rn).mono ?_; rintro e x ⟨rfl, rfl⟩; rw [hb2])
          | (go_at_call_of 44 (Value.slice a3 n3 k3); refine (s_words a3 n3 k3 H.out _ HM.out.o.rn).mono ?_; rintro e x ⟨rfl, rfl⟩; rw [hb3])
          | (go_at_call 81; refine (s_word _ _).mono ?_; rintro e x ⟨rfl, rfl⟩; rw [hbp])
          | (go_at_call 42; refine (spec_in _ _ _ _).mono ?_; rintro e x ⟨rfl, rfl⟩; rw [hdn]))
    go_ret
    exact ⟨ret_i ((hf_stand FM.out WM.out FW.out ND.out).trans (by rw [HN.out]; rfl)).symm, rfl⟩
  have us10 : ¬ 8 < s10 := by omega
  by_cases ts6 : s6 = 0
  case neg =>
    have HN : Hid (standC H.csr = false) := by show _ = _; rw [SC.out]; simp [ts6]
    have hI : (s6 != 0) = true := by simp [ts6]
    go_enter Tryz.func41, Tryz.ntmps41
    go_wp2_with (first
          | (go_at_call_of 44 (Value.slice (some ⟨y0, 0, none⟩) 16 k0); refine (s_words (some ⟨y0, 0, none⟩) 16 k0 H.regs _ HM.out.r.rn).mono ?_; rintro e x ⟨rfl, rfl⟩; rw [hb0])
          | (go_at_call_of 44 (Value.slice (some ⟨y1, 0, none⟩) 11 k1); refine (s_words (some ⟨y1, 0, none⟩) 11 k1 H.csr _ HM.out.c.rn).mono ?_; rintro e x ⟨rfl, rfl⟩; rw [hb1])
          | (go_at_call_of 44 (Value.slice a2 n2 k2); refine (s_words a2 n2 k2 H.inn _ HM.out.i.rn).mono ?_; rintro e x ⟨rfl, rfl⟩; rw [hb2])
          | (go_at_call_of 44 (Value.slice a3 n3 k3); refine (s_words a3 n3 k3 H.out _ HM.out.o.rn).mono ?_; rintro e x ⟨rfl, rfl⟩; rw [hb3])
          | (go_at_call 81; refine (s_word _ _).mono ?_; rintro e x ⟨rfl, rfl⟩; rw [hbp])
          | (go_at_call 42; refine (spec_in _ _ _ _).mono ?_; rintro e x ⟨rfl, rfl⟩; rw [hdn]))
    go_ret
    exact ⟨ret_i ((hf_stand FM.out WM.out FW.out ND.out).trans (by rw [HN.out]; rfl)).symm, rfl⟩
  subst ts6
  by_cases ts8 : s8 = 0
  case neg =>
    have HN : Hid (standC H.csr = false) := by show _ = _; rw [SC.out]; simp [ts8]
    have hI : (s8 != 0) = true := by simp [ts8]
    go_enter Tryz.func41, Tryz.ntmps41
    go_wp2_with (first
          | (go_at_call_of 44 (Value.slice (some ⟨y0, 0, none⟩) 16 k0); refine (s_words (some ⟨y0, 0, none⟩) 16 k0 H.regs _ HM.out.r.rn).mono ?_; rintro e x ⟨rfl, rfl⟩; rw [hb0])
          | (go_at_call_of 44 (Value.slice (some ⟨y1, 0, none⟩) 11 k1); refine (s_words (some ⟨y1, 0, none⟩) 11 k1 H.csr _ HM.out.c.rn).mono ?_; rintro e x ⟨rfl, rfl⟩; rw [hb1])
          | (go_at_call_of 44 (Value.slice a2 n2 k2); refine (s_words a2 n2 k2 H.inn _ HM.out.i.rn).mono ?_; rintro e x ⟨rfl, rfl⟩; rw [hb2])
          | (go_at_call_of 44 (Value.slice a3 n3 k3); refine (s_words a3 n3 k3 H.out _ HM.out.o.rn).mono ?_; rintro e x ⟨rfl, rfl⟩; rw [hb3])
          | (go_at_call 81; refine (s_word _ _).mono ?_; rintro e x ⟨rfl, rfl⟩; rw [hbp])
          | (go_at_call 42; refine (spec_in _ _ _ _).mono ?_; rintro e x ⟨rfl, rfl⟩; rw [hdn]))
    go_ret
    exact ⟨ret_i ((hf_stand FM.out WM.out FW.out ND.out).trans (by rw [HN.out]; rfl)).symm, rfl⟩
  subst ts8
  have HN : Hid (standC H.csr = true) := by show _ = _; rw [SC.out]; simp [ts0, ts7, ts10]
  go_enter Tryz.func41, Tryz.ntmps41
  go_wp2_with (first
        | (go_at_call_of 44 (Value.slice (some ⟨y0, 0, none⟩) 16 k0); refine (s_words (some ⟨y0, 0, none⟩) 16 k0 H.regs _ HM.out.r.rn).mono ?_; rintro e x ⟨rfl, rfl⟩; rw [hb0])
        | (go_at_call_of 44 (Value.slice (some ⟨y1, 0, none⟩) 11 k1); refine (s_words (some ⟨y1, 0, none⟩) 11 k1 H.csr _ HM.out.c.rn).mono ?_; rintro e x ⟨rfl, rfl⟩; rw [hb1])
        | (go_at_call_of 44 (Value.slice a2 n2 k2); refine (s_words a2 n2 k2 H.inn _ HM.out.i.rn).mono ?_; rintro e x ⟨rfl, rfl⟩; rw [hb2])
        | (go_at_call_of 44 (Value.slice a3 n3 k3); refine (s_words a3 n3 k3 H.out _ HM.out.o.rn).mono ?_; rintro e x ⟨rfl, rfl⟩; rw [hb3])
        | (go_at_call 81; refine (s_word _ _).mono ?_; rintro e x ⟨rfl, rfl⟩; rw [hbp])
        | (go_at_call 42; refine (spec_in _ _ _ _).mono ?_; rintro e x ⟨rfl, rfl⟩; rw [hdn]))
  go_ret
  exact ⟨ret_i ((hf_stand FM.out WM.out FW.out ND.out).trans (by rw [HN.out]; rfl)).symm, rfl⟩
end Go.Proofs.YtggejbphdadckaaGreatDoor
namespace Go.Proofs.YtggejbphdadckaaGreatDoor
open Go.RowKit
set_option linter.unusedVariables false

/-- append of numbers that lie anywhere, or of none, to a slice of the call's own. -/
theorem wp_appy {ops : Array Oper} {rest : List Oper} {o : Oper} {act : Act} {Q : Exit → Act → World → Prop} (w : World) (hgd : o.guard = none) (s x : Operand)
    (ho : o.op = .call { callee := .builtin .append, args := #[s, x], argTypes := #[28, 28] }) (base : Nat) (v : Value) (zs : List Int) (hs : act.eval s = v) (hN : Nums w base v zs)
    (p : Option Addr) (m c : Nat) (ys : List Int) (hx : act.eval x = .slice p m c) (hR : Rn w p m c ys)
    (hlen : zs.length + m ≤ 1000000000) (hbase : base ≤ w.heap.size)
    (h : ∀ v' w', Nums w' base v' (zs ++ ys) → w.grownBy w' v.ownBlock → wpList Tryz.prog ops Q rest (act.put o.dst v') w') : wpList Tryz.prog ops Q (o :: rest) act w := by
  cases p with
  | some p => exact wp_appx w hgd s x ho base v zs hs hN p m c ys hx hR hlen hbase h
  | none =>
    obtain ⟨h1, h2, h3⟩ : m = 0 ∧ c = 0 ∧ ys = [] := by
      rcases hR with ⟨_, h1, h2, h3⟩ | ⟨x, e, _⟩
      · exact ⟨h1, h2, h3⟩
      · cases e
    subst h1 h2 h3
    obtain ⟨i, hi, hz0, hz1, hz2⟩ := info_parts info_i64
    exact wpList_append_own_none hgd s x 28 ho base 2 i 1 Tryz.underlying28 hi v zs.length _ hs hN hx (h v w (by rw [List.append_nil]; exact hN) (World.grownBy.refl _ _))

/-- What l8Copy has under way: the machine's variable (A), and the answer's place. -/
structure Cy (w v : World) (s : Nat) (A : Array Value) : Prop where
  A : Vb v s A 60
  R : Vb v (s + 1) #[.slice none 0 0, .int .i64 0, .slice none 0 0, .bool false, .bool false, .bool false, .int .i64 0, .slice none 0 0, .slice none 0 0] 60
  b : Below w.heap.size w v
  s : w.heap.size = s
theorem Cy.keep {w v v' : World} {s : Nat} {A : Array Value} (h : Cy w v s A) (b : Below v.heap.size v v') : Cy w v' s A := ⟨h.A.keep b, h.R.keep b, on h.b b, h.s⟩
theorem Cy.put {w v : World} {s : Nat} {A : Array Value} (h : Cy w v s A) (j : Nat) (u : Value) : Cy w (v.setCell ⟨s, j, none⟩ u) s (A.setIfInBounds j u) :=
  ⟨h.A.set j u, h.R.put _ _ (by show s + 1 ≠ s; omega), h.b.setCell (by have := h.s; show w.heap.size ≤ s; omega) _, h.s⟩

set_option maxRecDepth 20000 in
set_option maxHeartbeats 8000000 in
theorem s_copy (r c i o : Value) (H : Ht) (b : Nat) (w : World) (h : Hm w b r c i o H) (h0 : H.regs.length ≤ 1000) (h1 : H.csr.length ≤ 1000) (h2 : H.inn.length ≤ 1000) (h3 : H.out.length ≤ 1000) :
    Calls Tryz.prog 45 #[.agg #[r, .int .i64 H.pc, c, .bool H.halted, .bool H.waiting, .bool H.rung, .int .i64 H.done, i, o]] w fun e w' => ∃ r' c' i' o', e = .returned (.agg #[r', .int .i64 H.pc, c', .bool H.halted, .bool H.waiting, .bool H.rung, .int .i64 H.done, i', o']) ∧ Hm w' w.heap.size r' c' i' o' H ∧ Ha r' c' i' o' ∧ Below w.heap.size w w' := by
  have HM : Hid (Hm w b r c i o H) := h
  have HL : Hid (H.regs.length ≤ 1000 ∧ H.csr.length ≤ 1000 ∧ H.inn.length ≤ 1000 ∧ H.out.length ≤ 1000) := ⟨h0, h1, h2, h3⟩
  obtain ⟨a0, k0, rfl, _⟩ := h.r.shape
  obtain ⟨a1, k1, rfl, _⟩ := h.c.shape
  obtain ⟨a2, k2, rfl, _⟩ := h.i.shape
  obtain ⟨a3, k3, rfl, _⟩ := h.o.shape
  clear h h0 h1 h2 h3
  generalize hW : (w.alloc (.cells #[.slice a0 H.regs.length k0, .int .i64 H.pc, .slice a1 H.csr.length k1, .bool H.halted, .bool H.waiting, .bool H.rung, .int .i64 H.done, .slice a2 H.inn.length k2, .slice a3 H.out.length k3] 60)).alloc (.cells #[.slice none 0 0, .int .i64 0, .slice none 0 0, .bool false, .bool false, .bool false, .int .i64 0, .slice none 0 0, .slice none 0 0] 60) = v0
  have SZ : Hid (v0.heap.size = w.heap.size + 2) := by show _ = _; rw [← hW]; simp
  obtain ⟨s, hS⟩ : ∃ s, w.heap.size = s := ⟨_, rfl⟩
  have HSs : Hid (w.heap.size = s) := hS
  have T0 : Hid (Cy w v0 s #[.slice a0 H.regs.length k0, .int .i64 H.pc, .slice a1 H.csr.length k1, .bool H.halted, .bool H.waiting, .bool H.rung, .int .i64 H.done, .slice a2 H.inn.length k2, .slice a3 H.out.length k3]) := by
    have z1 : s + 1 = (w.alloc (.cells #[.slice a0 H.regs.length k0, .int .i64 H.pc, .slice a1 H.csr.length k1, .bool H.halted, .bool H.waiting, .bool H.rung, .int .i64 H.done, .slice a2 H.inn.length k2, .slice a3 H.out.length k3] 60)).heap.size := by rw [← hS]; simp
    refine ⟨?_, ?_, by rw [← hW]; exact al (al (Below.refl _ _) _) _, hS⟩
    · rw [← hW, ← hS]; exact (Vb.new _ _ _).push _
    · rw [← hW, z1]; exact Vb.new _ _ _
  have LO : Hid (∀ k, Own4 (.slice a0 H.regs.length k0) (.slice a1 H.csr.length k1) (.slice a2 H.inn.length k2) (.slice a3 H.out.length k3) k → k < s) := fun k e => by have := (HM.out.own k e).2; have := HSs.out; omega
  have Z0 : Hid (s + 2 ≤ v0.heap.size) := by show _ ≤ _; have := SZ.out; have := HSs.out; omega
  have q0 := T0.out.A.cell 0 rfl
  have ls := T0.out.A.lt
  go_enter Tryz.func45, Tryz.ntmps45
  go_upto_region 2 with (at_builtin; refine wp_appy _ rfl _ _ rfl v0.heap.size _ [] rfl (nums_none _ _ (Nat.le_refl _)) a0 H.regs.length k0 H.regs rfl ((HM.out.r.rn.stay T0.out.b).stay (al (Below.refl _ _) _)) (by have := HL.out.1; simp; omega) (by simp) ?_; intro x0 w1 n1 g1; have b1 : Below v0.heap.size v0 w1 := below_of_grown (al (Below.refl _ _) _) g1 (nums_none _ _ (Nat.le_refl _)) (Nat.le_refl _); rw [List.nil_append] at n1; obtain ⟨xa0, xk0, rfl, _⟩ := n1.shape; clear ls; have S1 := T0.out.keep b1; have ls := S1.A.lt; have o0 := S1.A.cell 0 rfl; have f0 := S1.A.free 0; have e2 := S1.A.cell 2 rfl; clear g1)
  have MB0 : Hid (Nums w1 v0.heap.size (.slice xa0 H.regs.length xk0) H.regs) := n1
  have M0 : Hid (Nums w1 (s + 2) (.slice xa0 H.regs.length xk0) H.regs) := n1.mono Z0.out
  have T1 : Hid (Cy w (w1.setCell ⟨s, 0, none⟩ (.slice xa0 H.regs.length xk0)) s #[.slice xa0 H.regs.length xk0, .int .i64 H.pc, .slice a1 H.csr.length k1, .bool H.halted, .bool H.waiting, .bool H.rung, .int .i64 H.done, .slice a2 H.inn.length k2, .slice a3 H.out.length k3]) := S1.put 0 (.slice xa0 H.regs.length xk0)
  have H1 : Hid (Ho (s + 2) w1 (w1.setCell ⟨s, 0, none⟩ (.slice xa0 H.regs.length xk0))) := Ho.set _ _ _ (by show s < s + 2; omega)
  have Z1 : Hid (s + 2 ≤ (w1.setCell ⟨s, 0, none⟩ (.slice xa0 H.regs.length xk0)).heap.size) := (by have := T1.out.R.lt; show _ ≤ _; omega)
  have Y1 : Hid (w1.heap.size ≤ (w1.setCell ⟨s, 0, none⟩ (.slice xa0 H.regs.length xk0)).heap.size) := H1.out.size
  generalize (w1.setCell ⟨s, 0, none⟩ (.slice xa0 H.regs.length xk0)) = v1 at *
  clear S1 n1 b1 o0 f0 e2 q0 hW hS ls
  have ls := T1.out.A.lt
  have e2 := T1.out.A.cell 2 rfl
  go_upto_region 3 with (at_builtin; refine wp_appy _ rfl _ _ rfl v1.heap.size _ [] rfl (nums_none _ _ (Nat.le_refl _)) a1 H.csr.length k1 H.csr rfl ((HM.out.c.rn.stay T1.out.b).stay (al (Below.refl _ _) _)) (by have := HL.out.2.1; simp; omega) (by simp) ?_; intro x1 w2 n1 g1; have b1 : Below v1.heap.size v1 w2 := below_of_grown (al (Below.refl _ _) _) g1 (nums_none _ _ (Nat.le_refl _)) (Nat.le_refl _); rw [List.nil_append] at n1; obtain ⟨xa1, xk1, rfl, _⟩ := n1.shape; clear ls e2; have S1 := T1.out.keep b1; have ls := S1.A.lt; have o2 := S1.A.cell 2 rfl; have f2 := S1.A.free 2; have e7 := S1.A.cell 7 rfl; clear g1)
  have MB1 : Hid (Nums w2 v1.heap.size (.slice xa1 H.csr.length xk1) H.csr) := n1
  have H12 : Hid (Ho (s + 2) w1 w2) := H1.out.trans (Ho.of b1)
  have M1 : Hid (Nums w2 (s + 2) (.slice xa1 H.csr.length xk1) H.csr) := n1.mono Z1.out
  have T2 : Hid (Cy w (w2.setCell ⟨s, 2, none⟩ (.slice xa1 H.csr.length xk1)) s #[.slice xa0 H.regs.length xk0, .int .i64 H.pc, .slice xa1 H.csr.length xk1, .bool H.halted, .bool H.waiting, .bool H.rung, .int .i64 H.done, .slice a2 H.inn.length k2, .slice a3 H.out.length k3]) := S1.put 2 (.slice xa1 H.csr.length xk1)
  have H2 : Hid (Ho (s + 2) w2 (w2.setCell ⟨s, 2, none⟩ (.slice xa1 H.csr.length xk1))) := Ho.set _ _ _ (by show s < s + 2; omega)
  have Z2 : Hid (s + 2 ≤ (w2.setCell ⟨s, 2, none⟩ (.slice xa1 H.csr.length xk1)).heap.size) := (by have := T2.out.R.lt; show _ ≤ _; omega)
  have Y2 : Hid (w2.heap.size ≤ (w2.setCell ⟨s, 2, none⟩ (.slice xa1 H.csr.length xk1)).heap.size) := H2.out.size
  generalize (w2.setCell ⟨s, 2, none⟩ (.slice xa1 H.csr.length xk1)) = v2 at *
  clear S1 n1 b1 o2 f2 e7 ls
  have ls := T2.out.A.lt
  have e7 := T2.out.A.cell 7 rfl
  go_upto_region 4 with (at_builtin; refine wp_appy _ rfl _ _ rfl v2.heap.size _ [] rfl (nums_none _ _ (Nat.le_refl _)) a2 H.inn.length k2 H.inn rfl ((HM.out.i.rn.stay T2.out.b).stay (al (Below.refl _ _) _)) (by have := HL.out.2.2.1; simp; omega) (by simp) ?_; intro x2 w3 n1 g1; have b1 : Below v2.heap.size v2 w3 := below_of_grown (al (Below.refl _ _) _) g1 (nums_none _ _ (Nat.le_refl _)) (Nat.le_refl _); rw [List.nil_append] at n1; obtain ⟨xa2, xk2, rfl, _⟩ := n1.shape; clear ls e7; have S1 := T2.out.keep b1; have ls := S1.A.lt; have o7 := S1.A.cell 7 rfl; have f7 := S1.A.free 7; have e8 := S1.A.cell 8 rfl; clear g1)
  have MB2 : Hid (Nums w3 v2.heap.size (.slice xa2 H.inn.length xk2) H.inn) := n1
  have H23 : Hid (Ho (s + 2) w2 w3) := H2.out.trans (Ho.of b1)
  have M2 : Hid (Nums w3 (s + 2) (.slice xa2 H.inn.length xk2) H.inn) := n1.mono Z2.out
  have T3 : Hid (Cy w (w3.setCell ⟨s, 7, none⟩ (.slice xa2 H.inn.length xk2)) s #[.slice xa0 H.regs.length xk0, .int .i64 H.pc, .slice xa1 H.csr.length xk1, .bool H.halted, .bool H.waiting, .bool H.rung, .int .i64 H.done, .slice xa2 H.inn.length xk2, .slice a3 H.out.length k3]) := S1.put 7 (.slice xa2 H.inn.length xk2)
  have H3 : Hid (Ho (s + 2) w3 (w3.setCell ⟨s, 7, none⟩ (.slice xa2 H.inn.length xk2))) := Ho.set _ _ _ (by show s < s + 2; omega)
  have Z3 : Hid (s + 2 ≤ (w3.setCell ⟨s, 7, none⟩ (.slice xa2 H.inn.length xk2)).heap.size) := (by have := T3.out.R.lt; show _ ≤ _; omega)
  have Y3 : Hid (w3.heap.size ≤ (w3.setCell ⟨s, 7, none⟩ (.slice xa2 H.inn.length xk2)).heap.size) := H3.out.size
  generalize (w3.setCell ⟨s, 7, none⟩ (.slice xa2 H.inn.length xk2)) = v3 at *
  clear S1 n1 b1 o7 f7 e8 ls
  have ls := T3.out.A.lt
  have e8 := T3.out.A.cell 8 rfl
  go_upto_region 5 with (at_builtin; refine wp_appy _ rfl _ _ rfl v3.heap.size _ [] rfl (nums_none _ _ (Nat.le_refl _)) a3 H.out.length k3 H.out rfl ((HM.out.o.rn.stay T3.out.b).stay (al (Below.refl _ _) _)) (by have := HL.out.2.2.2; simp; omega) (by simp) ?_; intro x3 w4 n1 g1; have b1 : Below v3.heap.size v3 w4 := below_of_grown (al (Below.refl _ _) _) g1 (nums_none _ _ (Nat.le_refl _)) (Nat.le_refl _); rw [List.nil_append] at n1; obtain ⟨xa3, xk3, rfl, _⟩ := n1.shape; clear ls e8; have S1 := T3.out.keep b1; have ls := S1.A.lt; have o8 := S1.A.cell 8 rfl; have f8 := S1.A.free 8; have r0 := S1.R.cell 0 rfl; have y0 := S1.R.free 0; have r1 := S1.R.cell 1 rfl; have y1 := S1.R.free 1; have r2 := S1.R.cell 2 rfl; have y2 := S1.R.free 2; have r3 := S1.R.cell 3 rfl; have y3 := S1.R.free 3; have r4 := S1.R.cell 4 rfl; have y4 := S1.R.free 4; have r5 := S1.R.cell 5 rfl; have y5 := S1.R.free 5; have r6 := S1.R.cell 6 rfl; have y6 := S1.R.free 6; have r7 := S1.R.cell 7 rfl; have y7 := S1.R.free 7; have r8 := S1.R.cell 8 rfl; have y8 := S1.R.free 8; have l0 := S1.A.cell 0 rfl; have l1 := S1.A.cell 1 rfl; have l2 := S1.A.cell 2 rfl; have l3 := S1.A.cell 3 rfl; have l4 := S1.A.cell 4 rfl; have l5 := S1.A.cell 5 rfl; have l6 := S1.A.cell 6 rfl; have l7 := S1.A.cell 7 rfl; clear g1)
  have MB3 : Hid (Nums w4 v3.heap.size (.slice xa3 H.out.length xk3) H.out) := n1
  have H34 : Hid (Ho (s + 2) w3 w4) := H3.out.trans (Ho.of b1)
  have M3 : Hid (Nums w4 (s + 2) (.slice xa3 H.out.length xk3) H.out) := n1.mono Z3.out
  have T4 : Hid (Cy w (w4.setCell ⟨s, 8, none⟩ (.slice xa3 H.out.length xk3)) s #[.slice xa0 H.regs.length xk0, .int .i64 H.pc, .slice xa1 H.csr.length xk1, .bool H.halted, .bool H.waiting, .bool H.rung, .int .i64 H.done, .slice xa2 H.inn.length xk2, .slice xa3 H.out.length xk3]) := S1.put 8 (.slice xa3 H.out.length xk3)
  have H4 : Hid (Ho (s + 2) w4 (w4.setCell ⟨s, 8, none⟩ (.slice xa3 H.out.length xk3))) := Ho.set _ _ _ (by show s < s + 2; omega)
  have Z4 : Hid (s + 2 ≤ (w4.setCell ⟨s, 8, none⟩ (.slice xa3 H.out.length xk3)).heap.size) := by have := T4.out.R.lt; show _ ≤ _; omega
  have Y4 : Hid (w4.heap.size ≤ (w4.setCell ⟨s, 8, none⟩ (.slice xa3 H.out.length xk3)).heap.size) := H4.out.size
  go_wp2_with fail
  have NN : Hid (_ ∧ _) := nine T4.out.R (.slice xa0 H.regs.length xk0) (.int .i64 H.pc) (.slice xa1 H.csr.length xk1) (.bool H.halted) (.bool H.waiting) (.bool H.rung) (.int .i64 H.done) (.slice xa2 H.inn.length xk2) (.slice xa3 H.out.length xk3)
  clear S1 n1 b1 o8 f8 r0 y0 r1 y1 r2 y2 r3 y3 r4 y4 r5 y5 r6 y6 r7 y7 r8 y8 l0 l1 l2 l3 l4 l5 l6 l7
  generalize ((((((((((w4.setCell ⟨s, 8, none⟩ (.slice xa3 H.out.length xk3)).setCell ⟨s + 1, 0, none⟩ (.slice xa0 H.regs.length xk0)).setCell ⟨s + 1, 1, none⟩ (.int .i64 H.pc)).setCell ⟨s + 1, 2, none⟩ (.slice xa1 H.csr.length xk1)).setCell ⟨s + 1, 3, none⟩ (.bool H.halted)).setCell ⟨s + 1, 4, none⟩ (.bool H.waiting)).setCell ⟨s + 1, 5, none⟩ (.bool H.rung)).setCell ⟨s + 1, 6, none⟩ (.int .i64 H.done)).setCell ⟨s + 1, 7, none⟩ (.slice xa2 H.inn.length xk2)).setCell ⟨s + 1, 8, none⟩ (.slice xa3 H.out.length xk3)) = V at *
  generalize (w4.setCell ⟨s, 8, none⟩ (.slice xa3 H.out.length xk3)) = v4 at *
  have H5 : Hid (Ho (s + 2) w4 V) := H4.out.trans (NN.out.2.ho fun k e => by omega)
  have B5 : Hid (Below w.heap.size w V) := Mq.under T4.out.b NN.out.2 fun k e => by have := HSs.out; omega
  have A01 := MB0.out.apt MB1.out Y1.out
  have A02 := MB0.out.apt MB2.out (Nat.le_trans H12.out.size Y2.out)
  have A03 := MB0.out.apt MB3.out (Nat.le_trans (Nat.le_trans H12.out.size H23.out.size) Y3.out)
  have A12 := MB1.out.apt MB2.out Y2.out
  have A13 := MB1.out.apt MB3.out (Nat.le_trans H23.out.size Y3.out)
  have A23 := MB2.out.apt MB3.out Y3.out
  have R0 : Nums V w.heap.size (.slice xa0 H.regs.length xk0) H.regs := (M0.out.ho (H12.out.trans (H23.out.trans (H34.out.trans H5.out)))).mono (by have := HSs.out; omega)
  have R1 : Nums V w.heap.size (.slice xa1 H.csr.length xk1) H.csr := (M1.out.ho (H23.out.trans (H34.out.trans H5.out))).mono (by have := HSs.out; omega)
  have R2 : Nums V w.heap.size (.slice xa2 H.inn.length xk2) H.inn := (M2.out.ho (H34.out.trans H5.out)).mono (by have := HSs.out; omega)
  have R3 : Nums V w.heap.size (.slice xa3 H.out.length xk3) H.out := (M3.out.ho H5.out).mono (by have := HSs.out; omega)
  have x0 := NN.out.1.cell 0 rfl
  have x1 := NN.out.1.cell 1 rfl
  have x2 := NN.out.1.cell 2 rfl
  have x3 := NN.out.1.cell 3 rfl
  have x4 := NN.out.1.cell 4 rfl
  have x5 := NN.out.1.cell 5 rfl
  have x6 := NN.out.1.cell 6 rfl
  have x7 := NN.out.1.cell 7 rfl
  have x8 := NN.out.1.cell 8 rfl
  exact bodyPost_ret (v := .agg #[.slice xa0 H.regs.length xk0, .int .i64 H.pc, .slice xa1 H.csr.length xk1, .bool H.halted, .bool H.waiting, .bool H.rung, .int .i64 H.done, .slice xa2 H.inn.length xk2, .slice xa3 H.out.length xk3]) (by simp [results, Tryz.results45, go_sem, x0, x1, x2, x3, x4, x5, x6, x7, x8]) rfl
    ⟨_, _, _, _, rfl, ⟨R0, R1, R2, R3⟩, ⟨A01, A02, A03, A12, A13, A23⟩, B5.out⟩
end Go.Proofs.YtggejbphdadckaaGreatDoor
