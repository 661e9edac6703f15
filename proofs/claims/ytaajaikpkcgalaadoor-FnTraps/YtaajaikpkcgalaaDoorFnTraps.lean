/- The law FnTraps answers true at every input, and each argument reads behind the call as it read ahead of it; no condition. -/
import Derived.Test.YtaajaikpkcgalaaDoorBase
import Derived.Test.YtaajaikpkcgalaaDoorCards
import Derived.Test.YtaajaikpkcgalaaDoorTie
import Derived.Deep.DeepHandedRow
import Derived.Lib.LaidTab
import Derived.Stop.LaidErr
import Derived.Test.YtaajaikpkcgalaaDoorHdo
import Derived.Test.YtaajaikpkcgalaaDoorHot
import Derived.Test.YtaajaikpkcgalaaDoorHok
import Derived.Test.YtaajaikpkcgalaaDoorHoi
import Derived.Test.YtaajaikpkcgalaaDoorHsh
import Derived.Deep.RegionWith
import Derived.Deep.Cut
import Derived.Deep.CutRange
import Derived.Test.YtaajaikpkcgalaaDoorHdc
import Derived.Test.YtaajaikpkcgalaaDoorHvf
import Derived.Test.YtaajaikpkcgalaaDoorHoa
import Derived.Deep.QuietTactic
import Derived.Test.YtaajaikpkcgalaaDoorHob
namespace Go.Proofs.YtaajaikpkcgalaaDoor
open Go.RowKit
set_option linter.unusedVariables false

/-- A world that keeps what was there in W. -/
structure BW (W : World) where
  w : World
  h : Below W.heap.size W w
theorem region_bw {id : Nat} {Q : Exit → Act → World → Prop} {a : Act} {W : World} {l : List Oper} (hB : Region.lexB .any l.toArray = true)
    (h : wpQuiet Tryd.prog l.toArray (fun w' => ∃ p : BW W, w' = p.w) (fun a' => ∀ w', (∃ p : BW W, w' = p.w) → Q .normal a' w') l a) : (Code.region id l.toArray true).wp Tryd.prog Q a W :=
  wp_region_quiet (C := fun w' => ∃ p : BW W, w' = p.w) (by kernel_rfl) hB ⟨⟨{ W with drawn := W.drawn + 1 }, (Below.refl _ _).drew⟩, rfl⟩ (by simpa using h)
theorem calls_bw {f : FuncId} {args : Array Value} {W : World} {p : BW W} {v : Value}
    (h : Calls Tryd.prog f args p.w fun e w' => e = .returned v ∧ Below p.w.heap.size p.w w') : Calls Tryd.prog f args p.w fun e w'' => e = .returned v ∧ ∃ q : BW W, w'' = q.w :=
  h.mono fun _ w' ⟨he, hb⟩ => ⟨he, ⟨w', on p.h hb⟩, rfl⟩
theorem BW.cell {W : World} {a : Addr} {v : Value} (h : W.cell? a = some v) (p : BW W) : p.w.cell? a = some v := cell_keep p.h h

/-- What FnCsrs asks of a machine whose number n was set. -/
structure Csf (H G : Ht) (n x : Int) : Prop where
  n0 : 0 ≤ n
  n10 : n ≤ 10
  okG : hfV G = 0
  gG : getR G n = (0, getV G n)
  other : ∀ i : Nat, i < 11 → (i : Int) ≠ n → i ≠ 6 → getR G i = getR H i
  scratch : n = 5 → getV G n = wd x
  time : n = 8 → getV G n = H.done
  again : setR G n x = (0, setV G n x)
  same : getR (setV G n x) n = (0, getV G n)
  regs : G.regs = H.regs
theorem csf {H : Ht} {n x : Int} (h : (setR H n x).1 = 0) : Csf H (setR H n x).2 n x := by
  have hf : hfV H = 0 := by
    by_cases h0 : hfV H = 0
    · exact h0
    · simp only [setR, if_neg h0] at h; exact absurd h h0
  have hn : (decide (0 ≤ n) && decide (n ≤ 10)) = true := by
    by_cases h1 : (decide (0 ≤ n) && decide (n ≤ 10)) = true
    · exact h1
    · simp only [setR, if_pos hf, if_neg h1] at h; cases h
  obtain ⟨n0, n10⟩ : 0 ≤ n ∧ n ≤ 10 := by simpa using hn
  have e2 : (setR H n x).2 = setV H n x := by simp only [setR, if_pos hf, if_pos hn]
  rw [e2]
  have K : Hok H := hok_of hf
  have KG : Hok (setV H n x) := setV_hok K n x n0 n10
  have hg : hfV (setV H n x) = 0 := hfV_ok KG
  have K2 : Hok (setV (setV H n x) n x) := setV_hok KG n x n0 n10
  have hg2 : hfV (setV (setV H n x) n x) = 0 := hfV_ok K2
  have gz : ∀ (Y : Ht) (i : Int), hfV Y = 0 → 0 ≤ i → i ≤ 10 → getR Y i = (0, getV Y i) := fun Y i y0 i0 i1 => by
    have : (decide (0 ≤ i) && decide (i ≤ 10)) = true := by simp [i0, i1]
    simp only [getR, if_pos y0, if_pos this]
  refine ⟨n0, n10, hg, gz _ _ hg n0 n10, fun i hi hne h6 => ?_, fun e => ?_, fun e => ?_, by simp only [setR, if_pos hg, if_pos hn], ?_, rfl⟩
  · rw [gz _ _ hg (by omega) (by omega), gz _ _ hf (by omega) (by omega), set_other K n x n0 n10 i hi hne h6]
  · subst e; exact set_scratch K x
  · subst e; exact set_time x
  · rw [gz _ _ hg2 n0 n10, set_again K n x n0 n10]
end Go.Proofs.YtaajaikpkcgalaaDoor
namespace Go.Proofs.YtaajaikpkcgalaaDoor
open Go.RowKit
set_option linter.unusedVariables false

set_option maxHeartbeats 1000000 in
theorem lw_nums (v u : Value) (zs : List Int) (b c : Nat) (w : World) (h : Nums w b v zs) (k : Nums w c u zs) :
    Calls Tryd.prog 12 #[v, u] w fun e w' => e = .returned (.bool true) ∧ Below w.heap.size w w' := by
  obtain ⟨a, cap, rfl, l1, l2, hg⟩ := h.shape
  obtain ⟨a', cap', rfl, m1, m2, hg'⟩ := k.shape
  have HZ : Hid (Nums w b _ zs) := h
  have KZ : Hid (Nums w c _ zs) := k
  have hl : (zs.length : Int) ≤ 9223372036854775807 := by unfold maxLen at l2; omega
  clear h k
  obtain ⟨n, hn⟩ : ∃ n, zs.length = n := ⟨_, rfl⟩
  rw [hn] at HZ KZ hl l1 m1 hg hg' ⊢
  have HN : Hid (zs.length = n) := hn
  clear hn l1 m1 l2 m2
  go_enter Tryd.func12, Tryd.ntmps12
  go_wp2_with fail
  go_loopw [5] (fun i wr => ∃ j : Nat, j ≤ n ∧ i = .int .i64 j ∧ Below w.heap.size w wr) (fun i _ => n - (intOf i).toNat)
  case atStart => exact ⟨0, Nat.zero_le _, rfl, Below.refl _ _⟩
  case round =>
    obtain ⟨j, hj, rfl, hB⟩ := hrel
    have HB : Hid (Below _ _ _) := hB
    by_cases hlt : j < n
    · obtain ⟨g, rfl⟩ := hg (by omega)
      obtain ⟨g', rfl⟩ := hg' (by omega)
      have c1 := HZ.out.cell HN.out.symm j hlt
      have c2 := KZ.out.cell HN.out.symm j hlt
      have c1' := cell_keep hB c1
      have c2' := cell_keep hB c2
      have hI : (j : Int) < (n : Int) := by omega
      have HL : Hid (j < n) := hlt
      clear hB hlt c1 c2 hg hg'
      go_wp2_with fail
      go_quiet (fail)
      go_wp2_with fail
      go_roundw
      case rel => exact ⟨j + 1, by have := HL.out; omega, by go_num, dr HB.out _⟩
      case measure => have := HL.out; simp [intOf]; omega
    · have hI : ¬ (j : Int) < (n : Int) := by omega
      clear hB
      go_wp2_with fail
      go_ret
      exact ⟨rfl, HB.out⟩
end Go.Proofs.YtaajaikpkcgalaaDoor
namespace Go.Proofs.YtaajaikpkcgalaaDoor
open Go.RowKit
set_option linter.unusedVariables false

/-- A machine H, what a trap leaves (G) and what the way back leaves (K). -/
structure Tpf (H : Ht) (n x : Int) (G K : Ht) : Prop where
  back : backR G = (0, K)
  okG : hfV G = 0
  okK : hfV K = 0
  pcG : G.pc = gt H.csr 1
  due : dueR G = (4, 0)
  pcK : K.pc = H.pc
  stK : gt K.csr 0 = 2 + gt H.csr 0 % 2
  regs : K.regs = H.regs
  done : K.done = H.done
  cause : getR G 3 = (0, n)
  epc : getR G 2 = (0, H.pc)
  wait : G.waiting = false
  hc : H.csr.length = 11
  kc : K.csr.length = 11
  z0 : 0 ≤ gt H.csr 0 ∧ gt H.csr 0 ≤ 3
theorem tpf {H : Ht} {n x : Int} (h : (trapR H n x).1 = 0) : Tpf H n x (trapR H n x).2 (backV (trapR H n x).2) := by
  have h' := h
  unfold trapR at h
  split at h
  next h1 =>
    split at h
    next h2 =>
      have K := hok_of h1
      have e : (trapR H n x).2 = trapV H n x := by unfold trapR; rw [if_pos h1, if_pos h2]
      rw [e]
      simp only [Bool.and_eq_true, decide_eq_true_eq] at h2
      have KG := trapV_hok K n x h2.1.1 h2.1.2 h2.2
      have KK := backV_hok KG
      have t := trap_back K n x
      have z := all_at K.cw 0
      have s := stand_parts.1 K.st
      refine ⟨by unfold backR; rw [if_pos (hfV_ok KG)], hfV_ok KG, hfV_ok KK, t.1, ?_, t.2.2.1, t.2.2.2.1, t.2.2.2.2.1, t.2.2.2.2.2.1, ?_, ?_, t.2.2.2.2.2.2.2.2, K.c11, KK.c11, ⟨z.1, s.1⟩⟩
      · unfold dueR
        rw [if_pos (hfV_ok KG), t.2.1]
        rfl
      · unfold getR
        rw [if_pos (hfV_ok KG), if_pos (by decide), t.2.2.2.2.2.2.1]
      · unfold getR
        rw [if_pos (hfV_ok KG), if_pos (by decide), t.2.2.2.2.2.2.2.1]
    next => exact absurd h (by decide)
  next h1 => exact absurd h h1
end Go.Proofs.YtaajaikpkcgalaaDoor
namespace Go.Proofs.YtaajaikpkcgalaaDoor
open Go.RowKit
set_option linter.unusedVariables false

set_option maxRecDepth 20000 in
set_option maxHeartbeats 16000000 in
theorem drawTrap {w : World} {a : Option Addr} {len cap : Nat} {zs : List Int} (hr : IsRow .u8 w a len cap zs) :
    Calls Tryd.prog 6 #[.slice a len cap] w fun e w' => ∃ a0 m0 k0 a1 m1 k1 a2 m2 k2 a3 m3 k3 H, ∃ n x : Int, e = .returned (.tuple #[.agg #[.slice a0 m0 k0, .int .i64 H.pc, .slice a1 m1 k1, .bool H.halted, .bool H.waiting, .bool H.rung, .int .i64 H.done, .slice a2 m2 k2, .slice a3 m3 k3], .int .i64 n, .int .i64 x]) ∧ ((Hm w' w.heap.size (.slice a0 m0 k0) (.slice a1 m1 k1) (.slice a2 m2 k2) (.slice a3 m3 k3) H ∧ Ha (.slice a0 m0 k0) (.slice a1 m1 k1) (.slice a2 m2 k2) (.slice a3 m3 k3)) ∨ m0 = 15) ∧ Below w.heap.size w w' := by
  obtain ⟨R, hR⟩ : ∃ R, w.heap.size = R := ⟨_, rfl⟩
  have HR : Hid (w.heap.size = R) := hR
  obtain ⟨b, hb⟩ : ∃ b, (w.alloc (.cells #[.slice none 0 0, .int .i64 0, .slice none 0 0, .bool false, .bool false, .bool false, .int .i64 0, .slice none 0 0, .slice none 0 0] 26)).heap.size = b := ⟨_, rfl⟩
  have HB : Hid (R < b) := by show _ < _; rw [← hb, ← hR]; simp
  have TW : Hid (Below w.heap.size w (w.alloc (.cells #[.slice none 0 0, .int .i64 0, .slice none 0 0, .bool false, .bool false, .bool false, .int .i64 0, .slice none 0 0, .slice none 0 0] 26))) := (Below.refl _ _).alloc (Nat.le_refl _) _
  have VW : Hid (Vb (w.alloc (.cells #[.slice none 0 0, .int .i64 0, .slice none 0 0, .bool false, .bool false, .bool false, .int .i64 0, .slice none 0 0, .slice none 0 0] 26)) R #[.slice none 0 0, .int .i64 0, .slice none 0 0, .bool false, .bool false, .bool false, .int .i64 0, .slice none 0 0, .slice none 0 0] 26) := by show Vb _ _ _ _; rw [← hR]; exact Vb.new _ _ _
  have RW : Hid (IsRow .u8 (w.alloc (.cells #[.slice none 0 0, .int .i64 0, .slice none 0 0, .bool false, .bool false, .bool false, .int .i64 0, .slice none 0 0, .slice none 0 0] 26)) a len cap zs) := hr.below TW.out
  clear hr
  go_enter Tryd.func6, Tryd.ntmps6
  go_wp2_with fail
  generalize w.alloc (.cells #[.slice none 0 0, .int .i64 0, .slice none 0 0, .bool false, .bool false, .bool false, .int .i64 0, .slice none 0 0, .slice none 0 0] 26) = W at *
  refine (source_any RW.out).mono ?_
  rintro e w1 ⟨rfl, b1, s1⟩
  have V1 : Hid (Vb w1 R #[.slice none 0 0, .int .i64 0, .slice none 0 0, .bool false, .bool false, .bool false, .int .i64 0, .slice none 0 0, .slice none 0 0] 26) := VW.out.keep b1
  have B1 : Hid (Below w.heap.size w w1) := TW.out.trans (b1.mono TW.out.size)
  rw [hb] at s1 b1 ⊢
  have S1 : Hid (Src w1 b 0 a len cap zs) := s1
  clear s1 b1 hb hR
  go_wp2_with fail
  refine (hbent_any S1.out (by decide)).mono ?_
  rintro e w2 ⟨a0, m0, k0, a1, m1, k1, a2, m2, k2, a3, m3, k3, H, rfl, hm2, t2, k', hk', s2⟩
  have KB : Hid (k' ≤ 1100) := by show _ ≤ _; omega
  obtain ⟨q, hq⟩ : ∃ q, w2.heap.size = q := ⟨_, rfl⟩
  have D0 : Hid (Dx w (w2.alloc (.cells #[.slice a0 m0 k0, .int .i64 H.pc, .slice a1 m1 k1, .bool H.halted, .bool H.waiting, .bool H.rung, .int .i64 H.done, .slice a2 m2 k2, .slice a3 m3 k3] 26)) R b (k') a len cap zs q a0 m0 k0 a1 m1 k1 a2 m2 k2 a3 m3 k3 H) := by
    have hRR := HR.out; have hBR := HB.out; have hh := S1.out.here; have ht := t2.size
    refine ⟨s2.alloc _, ?_, by rw [← hq]; exact Vb.new _ _ _, ((turn_mq t2).vb V1.out (fun e => by omega)).push _, (B1.out.trans (t2.below (by omega) B1.out.size)).trans (al (Below.refl _ _) _ |>.mono (by have := B1.out.size; omega)), hRR, hBR, by omega⟩
    rcases hm2 with ⟨h1, h2⟩ | h1
    · exact .inl ⟨(h1.keep (al (Below.refl _ _) _)).mono (by omega), h2⟩
    · exact .inr h1
  clear hm2 t2 hk' s2
  go_upto_region 3 with fail
  generalize w2.alloc (.cells #[.slice a0 m0 k0, .int .i64 H.pc, .slice a1 m1 k1, .bool H.halted, .bool H.waiting, .bool H.rung, .int .i64 H.done, .slice a2 m2 k2, .slice a3 m3 k3] 26) = W2 at *
  clear hq
  have DR : Hid (Dx w W2.drew R b (k') a len cap zs q a0 m0 k0 a1 m1 k1 a2 m2 k2 a3 m3 k3 H) := D0.out.turn (Turn.of_below (Below.refl _ _).drew) (D0.out.src.turn (Turn.of_below (b := W2.heap.size) (Below.refl _ _).drew) (Nat.le_refl _))
  refine wp_region_held (S := fun w' => Vb w' q #[.slice a0 m0 k0, .int .i64 H.pc, .slice a1 m1 k1, .bool H.halted, .bool H.waiting, .bool H.rung, .int .i64 H.done, .slice a2 m2 k2, .slice a3 m3 k3] 26) (by kernel_rfl) ?_
  change wpAnyH _ _ _ _ _ _ _ _ (World.drew _)
  generalize W2.drew = v1 at *
  have SD : Hid (Vb v1 q #[.slice a0 m0 k0, .int .i64 H.pc, .slice a1 m1 k1, .bool H.halted, .bool H.waiting, .bool H.rung, .int .i64 H.done, .slice a2 m2 k2, .slice a3 m3 k3] 26) := DR.out.var
  refine wpAnyH_take (i := 0) (v := .agg #[.slice a0 m0 k0, .int .i64 H.pc, .slice a1 m1 k1, .bool H.halted, .bool H.waiting, .bool H.rung, .int .i64 H.done, .slice a2 m2 k2, .slice a3 m3 k3]) rfl (by kernel_rfl) (by kernel_rfl) (by kernel_rfl) (fun _ _ _ h => h) (yieldsIf_load_mid (by rfl) 26 (.tmp 6) rfl q 0 rfl [.slice a0 m0 k0, .int .i64 H.pc, .slice a1 m1 k1, .bool H.halted, .bool H.waiting, .bool H.rung, .int .i64 H.done, .slice a2 m2 k2, .slice a3 m3 k3] _ (fun w' hs => Vb.range hs) Tryd.underlying26 rfl (by kernel_rfl)) SD.out ?_
  change wpAnyH _ _ _ _ _ _ _ (Act.put _ (some 11) _) _
  simp only [Act.put, List.setIfInBounds_toArray, List.set_cons_zero, List.set_cons_succ]
  refine wpAnyH_take (i := 1) (v := (.pointer (some ⟨b, 0, none⟩))) rfl (by kernel_rfl) (by kernel_rfl) (by kernel_rfl) (fun _ _ _ h => h) (Or.inl ⟨by rfl, fun w' hs => by go_simp⟩) SD.out ?_
  change wpAnyH _ _ _ _ _ _ _ (Act.put _ (some 12) _) _
  simp only [Act.put, List.setIfInBounds_toArray, List.set_cons_zero, List.set_cons_succ]
  refine wpAnyH_take (i := 2) (v := (.pointer (some ⟨b, 0, none⟩))) rfl (by kernel_rfl) (by kernel_rfl) (by kernel_rfl) (fun _ _ _ h => h) (Or.inl ⟨by rfl, fun w' hs => by go_simp⟩) SD.out ?_
  change wpAnyH _ _ _ _ _ _ _ (Act.put _ (some 13) _) _
  simp only [Act.put, List.setIfInBounds_toArray, List.set_cons_zero, List.set_cons_succ]
  refine wpAnyH_take (i := 5) (v := (.pointer (some ⟨b, 0, none⟩))) rfl (by kernel_rfl) (by kernel_rfl) (by kernel_rfl) (fun _ _ _ h => h) (Or.inl ⟨by rfl, fun w' hs => by go_simp⟩) SD.out ?_
  change wpAnyH _ _ _ _ _ _ _ (Act.put _ (some 16) _) _
  simp only [Act.put, List.setIfInBounds_toArray, List.set_cons_zero, List.set_cons_succ]
  refine wpAnyH_take (i := 10) (v := (.pointer (some ⟨b, 0, none⟩))) rfl (by kernel_rfl) (by kernel_rfl) (by kernel_rfl) (fun _ _ _ h => h) (Or.inl ⟨by rfl, fun w' hs => by go_simp⟩) SD.out ?_
  change wpAnyH _ _ _ _ _ _ _ (Act.put _ (some 21) _) _
  simp only [Act.put, List.setIfInBounds_toArray, List.set_cons_zero, List.set_cons_succ]
  refine wpAnyH_take (i := 11) (v := (.pointer (some ⟨b, 0, none⟩))) rfl (by kernel_rfl) (by kernel_rfl) (by kernel_rfl) (fun _ _ _ h => h) (Or.inl ⟨by rfl, fun w' hs => by go_simp⟩) SD.out ?_
  change wpAnyH _ _ _ _ _ _ _ (Act.put _ (some 22) _) _
  simp only [Act.put, List.setIfInBounds_toArray, List.set_cons_zero, List.set_cons_succ]
  refine wpAnyH_take (i := 13) (v := (.pointer (some ⟨b, 0, none⟩))) rfl (by kernel_rfl) (by kernel_rfl) (by kernel_rfl) (fun _ _ _ h => h) (Or.inl ⟨by rfl, fun w' hs => by go_simp⟩) SD.out ?_
  change wpAnyH _ _ _ _ _ _ _ (Act.put _ (some 24) _) _
  simp only [Act.put, List.setIfInBounds_toArray, List.set_cons_zero, List.set_cons_succ]
  refine wpAnyH_ready (rs := [3]) (by kernel_rfl) (by simp) ?_
  refine AllReadyH.cons rfl (fun K hK => ?_) AllReadyH.nil
  rw [if_pos (by rfl)]
  go_simp
  refine (next_any DR.out.src (by have := KB.out; omega) _).mono ?_
  rintro e u2 ⟨x2, rfl, hx2, -, t1, s1⟩
  have D2 : Hid (Dx w u2 R b (k' + 1) a len cap zs q a0 m0 k0 a1 m1 k1 a2 m2 k2 a3 m3 k3 H) := DR.out.turn t1 s1
  clear t1 s1
  refine hK.out _ _ D2.out.var (fun _ => ?_)
  clear hK K
  obtain ⟨x20, x21⟩ := hx2 (by decide)
  have hw2 : IntKind.i64.wrap (1 + x2) = 1 + x2 := by rw [IntKind.wrap_i64]; omega
  clear hx2
  refine wpAnyH_take (i := 4) (v := .int .i64 (1 + x2)) rfl (by kernel_rfl) (by kernel_rfl) (by kernel_rfl) (fun _ _ _ h => h) (Or.inl ⟨by rfl, fun w' hs => by go_simp⟩) D2.out.var ?_
  change wpAnyH _ _ _ _ _ _ _ (Act.put _ (some 15) _) _
  simp only [Act.put, List.setIfInBounds_toArray, List.set_cons_zero, List.set_cons_succ]
  refine wpAnyH_ready (rs := [6]) (by kernel_rfl) (by simp) ?_
  refine AllReadyH.cons rfl (fun K hK => ?_) AllReadyH.nil
  rw [if_pos (by rfl)]
  go_simp
  refine (next_any D2.out.src (by have := KB.out; omega) _).mono ?_
  rintro e u3 ⟨x3, rfl, hx3, -, t1, s1⟩
  have D3 : Hid (Dx w u3 R b (k' + 1 + 1) a len cap zs q a0 m0 k0 a1 m1 k1 a2 m2 k2 a3 m3 k3 H) := D2.out.turn t1 s1
  clear t1 s1
  refine hK.out _ _ D3.out.var (fun _ => ?_)
  clear hK K
  obtain ⟨x30, x31⟩ := hx3 (by decide)
  have hw3 : IntKind.i64.wrap (16 + x3) = 16 + x3 := by rw [IntKind.wrap_i64]; omega
  clear hx3
  refine wpAnyH_take (i := 7) (v := .int .i64 (16 + x3)) rfl (by kernel_rfl) (by kernel_rfl) (by kernel_rfl) (fun _ _ _ h => h) (Or.inl ⟨by rfl, fun w' hs => by go_simp⟩) D3.out.var ?_
  change wpAnyH _ _ _ _ _ _ _ (Act.put _ (some 18) _) _
  simp only [Act.put, List.setIfInBounds_toArray, List.set_cons_zero, List.set_cons_succ]
  refine wpAnyH_ready (rs := [8]) (by kernel_rfl) (by simp) ?_
  refine AllReadyH.cons rfl (fun K hK => ?_) AllReadyH.nil
  rw [if_pos (by rfl)]
  go_simp
  have D4 : Hid (Dx w (u3.alloc (.cells #[.int .i64 (1 + x2), .int .i64 (16 + x3), .int .i64 32, .int .i64 (-1)] 2)) R b (k' + 1 + 1) a len cap zs q a0 m0 k0 a1 m1 k1 a2 m2 k2 a3 m3 k3 H) := D3.out.turn (Turn.alloc _ _ _) (D3.out.src.alloc _)
  refine hK.out _ _ D4.out.var (fun _ => ?_)
  clear hK K
  refine wpAnyH_ready (rs := [9]) (by kernel_rfl) (by simp) ?_
  refine AllReadyH.cons rfl (fun K hK => ?_) AllReadyH.nil
  rw [if_pos (by rfl)]
  go_simp
  refine (pick_any D4.out.src (by have := KB.out; omega) (fun _ => True) _ 4 (by decide) (by decide) (by simp) (by have := D3.out.src.here; omega) (lits_at _ [1 + x2, 16 + x3, 32, -1] _ rfl)).mono ?_
  rintro e u5 ⟨x5, rfl, -, t1, s1⟩
  have D5 : Hid (Dx w u5 R b (k' + 1 + 1 + 1) a len cap zs q a0 m0 k0 a1 m1 k1 a2 m2 k2 a3 m3 k3 H) := D4.out.turn t1 s1
  clear t1 s1
  refine hK.out _ _ D5.out.var (fun _ => ?_)
  clear hK K
  refine wpAnyH_ready (rs := [12]) (by kernel_rfl) (by simp) ?_
  refine AllReadyH.cons rfl (fun K hK => ?_) AllReadyH.nil
  rw [if_pos (by rfl)]
  go_simp
  refine (next_any D5.out.src (by have := KB.out; omega) _).mono ?_
  rintro e u6 ⟨x6, rfl, -, -, t1, s1⟩
  have D6 : Hid (Dx w u6 R b (k' + 1 + 1 + 1 + 1) a len cap zs q a0 m0 k0 a1 m1 k1 a2 m2 k2 a3 m3 k3 H) := D5.out.turn t1 s1
  clear t1 s1
  refine hK.out _ _ D6.out.var (fun _ => ?_)
  clear hK K
  refine wpAnyH_ready (rs := [14]) (by kernel_rfl) (by simp) ?_
  refine AllReadyH.cons rfl (fun K hK => ?_) AllReadyH.nil
  rw [if_pos (by rfl)]
  go_simp
  refine (next_any D6.out.src (by have := KB.out; omega) _).mono ?_
  rintro e u7 ⟨x7, rfl, -, -, t1, s1⟩
  have D7 : Hid (Dx w u7 R b (k' + 1 + 1 + 1 + 1 + 1) a len cap zs q a0 m0 k0 a1 m1 k1 a2 m2 k2 a3 m3 k3 H) := D6.out.turn t1 s1
  clear t1 s1
  refine hK.out _ _ D7.out.var (fun _ => ?_)
  clear hK K
  refine wpAnyH_ready (rs := [15]) (by kernel_rfl) (by simp) ?_
  refine AllReadyH.cons rfl (fun K hK => ?_) AllReadyH.nil
  rw [if_pos (by rfl)]
  go_simp
  have D8 : Hid (Dx w (u7.alloc (.cells #[.int .i64 x6, .int .i64 x7, .int .i64 (-1)] 2)) R b (k' + 1 + 1 + 1 + 1 + 1) a len cap zs q a0 m0 k0 a1 m1 k1 a2 m2 k2 a3 m3 k3 H) := D7.out.turn (Turn.alloc _ _ _) (D7.out.src.alloc _)
  refine hK.out _ _ D8.out.var (fun _ => ?_)
  clear hK K
  refine wpAnyH_ready (rs := [16]) (by kernel_rfl) (by simp) ?_
  refine AllReadyH.cons rfl (fun K hK => ?_) AllReadyH.nil
  rw [if_pos (by rfl)]
  go_simp
  refine (pick_any D8.out.src (by have := KB.out; omega) (fun _ => True) _ 3 (by decide) (by decide) (by simp) (by have := D7.out.src.here; omega) (lits_at _ [x6, x7, -1] _ rfl)).mono ?_
  rintro e u9 ⟨x9, rfl, -, t1, s1⟩
  have D9 : Hid (Dx w u9 R b (k' + 1 + 1 + 1 + 1 + 1 + 1) a len cap zs q a0 m0 k0 a1 m1 k1 a2 m2 k2 a3 m3 k3 H) := D8.out.turn t1 s1
  clear t1 s1
  refine hK.out _ _ D9.out.var (fun _ => ?_)
  clear hK K
  refine wpAnyH_ready (rs := [17]) (by kernel_rfl) (by simp) ?_
  refine AllReadyH.cons rfl (fun K hK => ?_) AllReadyH.nil
  rw [if_pos (by rfl)]
  refine wp_store_mid 26 (.tmp 2) (.tmp 11) rfl R 0 #[.slice a0 m0 k0, .int .i64 H.pc, .slice a1 m1 k1, .bool H.halted, .bool H.waiting, .bool H.rung, .int .i64 H.done, .slice a2 m2 k2, .slice a3 m3 k3] rfl rfl (D9.out.res.there 9 (by decide)) (by kernel_rfl) (by simp [Value.oneCell']) ?_
  change K (Act.put _ none undef) (World.setCells u9 R 0 [.slice a0 m0 k0, .int .i64 H.pc, .slice a1 m1 k1, .bool H.halted, .bool H.waiting, .bool H.rung, .int .i64 H.done, .slice a2 m2 k2, .slice a3 m3 k3])
  simp only [Act.put]
  have R5 : Hid ((u9.setCells R 0 [.slice a0 m0 k0, .int .i64 H.pc, .slice a1 m1 k1, .bool H.halted, .bool H.waiting, .bool H.rung, .int .i64 H.done, .slice a2 m2 k2, .slice a3 m3 k3]).rangeAt R 0 [.slice a0 m0 k0, .int .i64 H.pc, .slice a1 m1 k1, .bool H.halted, .bool H.waiting, .bool H.rung, .int .i64 H.done, .slice a2 m2 k2, .slice a3 m3 k3]) := World.rangeAt_setCells_same _ _ _ _ (D9.out.res.there 9 (by decide))
  have M5 : Hid (Mq (fun k => k = R) u9 (u9.setCells R 0 [.slice a0 m0 k0, .int .i64 H.pc, .slice a1 m1 k1, .bool H.halted, .bool H.waiting, .bool H.rung, .int .i64 H.done, .slice a2 m2 k2, .slice a3 m3 k3])) := mq_cells R _ u9 0
  generalize u9.setCells R 0 [.slice a0 m0 k0, .int .i64 H.pc, .slice a1 m1 k1, .bool H.halted, .bool H.waiting, .bool H.rung, .int .i64 H.done, .slice a2 m2 k2, .slice a3 m3 k3] = u10 at *
  refine hK.out _ _ (M5.out.vb D9.out.var (by have := D9.out.hb; have := D9.out.hq; omega)) (fun _ => ?_)
  clear hK K
  have S6 : Hid (Vb u10 q #[.slice a0 m0 k0, .int .i64 H.pc, .slice a1 m1 k1, .bool H.halted, .bool H.waiting, .bool H.rung, .int .i64 H.done, .slice a2 m2 k2, .slice a3 m3 k3] 26) := M5.out.vb D9.out.var (by have := D9.out.hb; have := D9.out.hq; omega)
  refine wpAnyH_take (i := 18) (v := .int .i64 x5) rfl (by kernel_rfl) (by kernel_rfl) (by kernel_rfl) (fun _ _ _ h => h) (Or.inl ⟨by rfl, fun w' hs => by go_simp⟩) S6.out ?_
  change wpAnyH _ _ _ _ _ _ _ (Act.put _ (some 3) _) _
  simp only [Act.put, List.setIfInBounds_toArray, List.set_cons_zero, List.set_cons_succ]
  refine wpAnyH_take (i := 19) (v := .int .i64 x9) rfl (by kernel_rfl) (by kernel_rfl) (by kernel_rfl) (fun _ _ _ h => h) (Or.inl ⟨by rfl, fun w' hs => by go_simp⟩) S6.out ?_
  change wpAnyH _ _ _ _ _ _ _ (Act.put _ (some 4) _) _
  simp only [Act.put, List.setIfInBounds_toArray, List.set_cons_zero, List.set_cons_succ]
  refine wpAnyH_done (by kernel_rfl) ?_ _
  go_wp2_with fail
  have y0 : u10.cell? ⟨R, 0, none⟩ = _ := R5.out 0 _ rfl
  have y1 : u10.cell? ⟨R, 1, none⟩ = _ := R5.out 1 _ rfl
  have y2 : u10.cell? ⟨R, 2, none⟩ = _ := R5.out 2 _ rfl
  have y3 : u10.cell? ⟨R, 3, none⟩ = _ := R5.out 3 _ rfl
  have y4 : u10.cell? ⟨R, 4, none⟩ = _ := R5.out 4 _ rfl
  have y5 : u10.cell? ⟨R, 5, none⟩ = _ := R5.out 5 _ rfl
  have y6 : u10.cell? ⟨R, 6, none⟩ = _ := R5.out 6 _ rfl
  have y7 : u10.cell? ⟨R, 7, none⟩ = _ := R5.out 7 _ rfl
  have y8 : u10.cell? ⟨R, 8, none⟩ = _ := R5.out 8 _ rfl
  have hb := D9.out.hb
  have hR := D9.out.hR
  have hs := D9.out.g.size
  exact bodyPost_ret (v := .tuple #[.agg #[.slice a0 m0 k0, .int .i64 H.pc, .slice a1 m1 k1, .bool H.halted, .bool H.waiting, .bool H.rung, .int .i64 H.done, .slice a2 m2 k2, .slice a3 m3 k3], .int .i64 x5, .int .i64 x9]) (by simp [results, Tryd.results6, go_sem, y0, y1, y2, y3, y4, y5, y6, y7, y8]) rfl
    ⟨_, _, _, _, _, _, _, _, _, _, _, _, H, _, _, rfl, D9.out.m.imp (fun h => ⟨(M5.out.hm h.1 (fun x e f => by have := (h.1.own x e).1; omega)).mono (by omega), h.2⟩) id, ⟨M5.out.os.trans D9.out.g.os, M5.out.tape.trans D9.out.g.tape, M5.out.output.trans D9.out.g.output, Nat.le_trans D9.out.g.size M5.out.size, fun x hx => (M5.out.block x (by omega) (by omega)).trans (D9.out.g.block x hx)⟩⟩
end Go.Proofs.YtaajaikpkcgalaaDoor
namespace Go.Proofs.YtaajaikpkcgalaaDoor.fnTrapsDone
open Go.ChangeShapes Go.WideShapes Go.ChangeAt Go.RowKit
open Go.ChangeMaps (open_string shut_string)
set_option linter.unusedVariables false

theorem Vb.range1 {w : World} {q : Nat} {c : Value} {cs : List Value} {t : TypeId} (h : Vb w q (c :: cs).toArray t) : w.rangeAt q 1 cs := fun j v hv => h.cell (1 + j) (by rw [Nat.add_comm]; simpa using hv)
theorem field_int0 (x0 x1 : Value) (w : World) : (Instr.field 35 (.agg #[x0, x1]) 0).run Tryd.prog w = .ok x0 w := by kernel_rfl
theorem field_int1 (x0 x1 : Value) (w : World) : (Instr.field 35 (.agg #[x0, x1]) 1).run Tryd.prog w = .ok x1 w := by kernel_rfl
theorem field_hart0 (x0 x1 x2 x3 x4 x5 x6 x7 x8 x9 : Value) (w : World) : (Instr.field 30 (.agg #[x0, x1, x2, x3, x4, x5, x6, x7, x8, x9]) 0).run Tryd.prog w = .ok x0 w := by kernel_rfl
set_option maxRecDepth 20000 in
set_option maxHeartbeats 16000000 in
theorem walk (a0 : Option Addr) (len0 cap0 : Nat) (z0 : List Int) (w : World) (w0 : IsRow .u8 w a0 len0 cap0 z0) (hg : Tab w) :
    Calls Tryd.prog 3 #[.slice a0 len0 cap0] w fun e w' => e = .returned (.bool true) ∧ Below w.heap.size w w' := by
  have HR : Hid (IsRow .u8 w a0 len0 cap0 z0) := w0
  have HT : Hid (Tab w) := hg
  clear w0 hg
  by_cases hbig : 1048576 < (len0 : Int)
  · go_enter Tryd.func3, Tryd.ntmps3
    go_wp2
    go_ret
    exact ⟨rfl, Below.refl _ _⟩
  have hb2 : (len0 : Int) ≤ 1048576 := by omega
  clear hbig
  go_enter Tryd.func3, Tryd.ntmps3
  go_wp2_with (go_at_call 5; go_in)
  refine (drawTrap HR.out).mono ?_
  rintro e w1 ⟨a0, m0, k0, a1, m1, k1, a2, m2, k2, a3, m3, k3, H, n, x, rfl, hm, b1⟩
  clear HR
  go_upto_region 4 with fail
  obtain ⟨q, hq⟩ : ∃ q, w1.heap.size = q := ⟨_, rfl⟩
  have VQ : Hid (Vb (w1.alloc (.cells #[.slice a0 m0 k0, .int .i64 H.pc, .slice a1 m1 k1, .bool H.halted, .bool H.waiting, .bool H.rung, .int .i64 H.done, .slice a2 m2 k2, .slice a3 m3 k3] 26)) q #[.slice a0 m0 k0, .int .i64 H.pc, .slice a1 m1 k1, .bool H.halted, .bool H.waiting, .bool H.rung, .int .i64 H.done, .slice a2 m2 k2, .slice a3 m3 k3] 26) := by show Vb _ _ _ _; rw [← hq]; exact Vb.new _ _ _
  have B2 : Hid (Below w.heap.size w (w1.alloc (.cells #[.slice a0 m0 k0, .int .i64 H.pc, .slice a1 m1 k1, .bool H.halted, .bool H.waiting, .bool H.rung, .int .i64 H.done, .slice a2 m2 k2, .slice a3 m3 k3] 26))) := al b1 _
  have M2 : Hid ((Hm (w1.alloc (.cells #[.slice a0 m0 k0, .int .i64 H.pc, .slice a1 m1 k1, .bool H.halted, .bool H.waiting, .bool H.rung, .int .i64 H.done, .slice a2 m2 k2, .slice a3 m3 k3] 26)) w.heap.size (.slice a0 m0 k0) (.slice a1 m1 k1) (.slice a2 m2 k2) (.slice a3 m3 k3) H ∧ Ha (.slice a0 m0 k0) (.slice a1 m1 k1) (.slice a2 m2 k2) (.slice a3 m3 k3)) ∨ m0 = 15) := hm.imp (fun h => ⟨h.1.keep (al (Below.refl _ _) _), h.2⟩) id
  clear hm b1
  rw [hq]
  generalize w1.alloc (.cells #[.slice a0 m0 k0, .int .i64 H.pc, .slice a1 m1 k1, .bool H.halted, .bool H.waiting, .bool H.rung, .int .i64 H.done, .slice a2 m2 k2, .slice a3 m3 k3] 26) = W2 at *
  clear hq
  have q0 := VQ.out.cell 0 rfl
  have q1 := VQ.out.cell 1 rfl
  have q2 := VQ.out.cell 2 rfl
  have q3 := VQ.out.cell 3 rfl
  have q4 := VQ.out.cell 4 rfl
  have q5 := VQ.out.cell 5 rfl
  have q6 := VQ.out.cell 6 rfl
  have q7 := VQ.out.cell 7 rfl
  have q8 := VQ.out.cell 8 rfl
  go_wp2_with fail
  clear q0 q1 q2 q3 q4 q5 q6 q7 q8
  rcases M2.out with M | M
  case inr =>
    subst M
    refine (i_trap15 _ _ _ _ _ _ _ _ _ _ _ H _ _ _).mono ?_
    rintro e w3 ⟨rfl, b3⟩
    have BL := b3
    go_upto_region 5 with fail
    obtain ⟨s, hs⟩ : ∃ s, w3.heap.size = s := ⟨_, rfl⟩
    have VS : Hid (Vb (w3.alloc (.cells #[.int .i64 1, .slice none 0 0, .int .i64 0, .slice none 0 0, .bool false, .bool false, .bool false, .int .i64 0, .slice none 0 0, .slice none 0 0] 30)) s #[.int .i64 1, .slice none 0 0, .int .i64 0, .slice none 0 0, .bool false, .bool false, .bool false, .int .i64 0, .slice none 0 0, .slice none 0 0] 30) := by show Vb _ _ _ _; rw [← hs]; exact Vb.new _ _ _
    have VQ3 : Hid (Vb (w3.alloc (.cells #[.int .i64 1, .slice none 0 0, .int .i64 0, .slice none 0 0, .bool false, .bool false, .bool false, .int .i64 0, .slice none 0 0, .slice none 0 0] 30)) q #[.slice a0 15 k0, .int .i64 H.pc, .slice a1 m1 k1, .bool H.halted, .bool H.waiting, .bool H.rung, .int .i64 H.done, .slice a2 m2 k2, .slice a3 m3 k3] 26) := (VQ.out.keep BL).push _
    have B3 : Hid (Below w.heap.size w (w3.alloc (.cells #[.int .i64 1, .slice none 0 0, .int .i64 0, .slice none 0 0, .bool false, .bool false, .bool false, .int .i64 0, .slice none 0 0, .slice none 0 0] 30))) := al (on B2.out BL) _
    rw [hs]
    generalize w3.alloc (.cells #[.int .i64 1, .slice none 0 0, .int .i64 0, .slice none 0 0, .bool false, .bool false, .bool false, .int .i64 0, .slice none 0 0, .slice none 0 0] 30) = W3 at *
    clear hs BL b3
    have cc := VS.out.cell 0 rfl
    go_upto_region 6 with fail
    clear cc
    have SD : Hid (Vb W3.drew q #[.slice a0 15 k0, .int .i64 H.pc, .slice a1 m1 k1, .bool H.halted, .bool H.waiting, .bool H.rung, .int .i64 H.done, .slice a2 m2 k2, .slice a3 m3 k3] 26 ∧ Vb W3.drew s #[.int .i64 1, .slice none 0 0, .int .i64 0, .slice none 0 0, .bool false, .bool false, .bool false, .int .i64 0, .slice none 0 0, .slice none 0 0] 30) := ⟨VQ3.out.keep (Below.refl _ _).drew, VS.out.keep (Below.refl _ _).drew⟩
    have BD : Hid (Below w.heap.size w W3.drew) := B3.out.drew
    have QS : ∀ w', (Vb w' q #[.slice a0 15 k0, .int .i64 H.pc, .slice a1 m1 k1, .bool H.halted, .bool H.waiting, .bool H.rung, .int .i64 H.done, .slice a2 m2 k2, .slice a3 m3 k3] 26 ∧ Vb w' s #[.int .i64 1, .slice none 0 0, .int .i64 0, .slice none 0 0, .bool false, .bool false, .bool false, .int .i64 0, .slice none 0 0, .slice none 0 0] 30) → w'.cell? ⟨s, 0, none⟩ = some (.int .i64 1) := fun w' hs => hs.2.cell 0 rfl
    refine wp_region_held (S := fun w' => Vb w' q #[.slice a0 15 k0, .int .i64 H.pc, .slice a1 m1 k1, .bool H.halted, .bool H.waiting, .bool H.rung, .int .i64 H.done, .slice a2 m2 k2, .slice a3 m3 k3] 26 ∧ Vb w' s #[.int .i64 1, .slice none 0 0, .int .i64 0, .slice none 0 0, .bool false, .bool false, .bool false, .int .i64 0, .slice none 0 0, .slice none 0 0] 30) (by kernel_rfl) ?_
    change wpAnyH _ _ _ _ _ _ _ _ (World.drew _)
    generalize W3.drew = v1 at *
    refine wpAnyH_take (i := 0) (v := .agg #[.slice a0 15 k0, .int .i64 H.pc, .slice a1 m1 k1, .bool H.halted, .bool H.waiting, .bool H.rung, .int .i64 H.done, .slice a2 m2 k2, .slice a3 m3 k3]) rfl (by kernel_rfl) (by kernel_rfl) (by kernel_rfl) (fun _ _ _ h => h) (yieldsIf_load_mid (by rfl) 26 (.tmp 3) rfl q 0 rfl [.slice a0 15 k0, .int .i64 H.pc, .slice a1 m1 k1, .bool H.halted, .bool H.waiting, .bool H.rung, .int .i64 H.done, .slice a2 m2 k2, .slice a3 m3 k3] _ (fun w' hs => Vb.range hs.1) Tryd.underlying26 rfl (by kernel_rfl)) SD.out ?_
    change wpAnyH _ _ _ _ _ _ _ (Act.put _ (some 24) _) _
    simp only [Act.put, List.setIfInBounds_toArray, List.set_cons_zero, List.set_cons_succ]
    refine wpAnyH_take (i := 1) (v := .int .i64 n) rfl (by kernel_rfl) (by kernel_rfl) (by kernel_rfl) (fun _ _ _ h => h) (Or.inl ⟨by rfl, fun w' hs => by go_simp⟩) SD.out ?_
    change wpAnyH _ _ _ _ _ _ _ (Act.put _ (some 25) _) _
    simp only [Act.put, List.setIfInBounds_toArray, List.set_cons_zero, List.set_cons_succ]
    refine wpAnyH_take (i := 2) (v := .int .i64 x) rfl (by kernel_rfl) (by kernel_rfl) (by kernel_rfl) (fun _ _ _ h => h) (Or.inl ⟨by rfl, fun w' hs => by go_simp⟩) SD.out ?_
    change wpAnyH _ _ _ _ _ _ _ (Act.put _ (some 26) _) _
    simp only [Act.put, List.setIfInBounds_toArray, List.set_cons_zero, List.set_cons_succ]
    refine wpAnyH_take (i := 5) (v := .pointer (some ⟨s, 0, none⟩)) rfl (by kernel_rfl) (by kernel_rfl) (by kernel_rfl) (fun _ _ _ h => h) (Or.inl ⟨by rfl, fun w' hs => by go_simp⟩) SD.out ?_
    change wpAnyH _ _ _ _ _ _ _ (Act.put _ (some 29) _) _
    simp only [Act.put, List.setIfInBounds_toArray, List.set_cons_zero, List.set_cons_succ]
    have QR : ∀ w', (Vb w' q #[.slice a0 15 k0, .int .i64 H.pc, .slice a1 m1 k1, .bool H.halted, .bool H.waiting, .bool H.rung, .int .i64 H.done, .slice a2 m2 k2, .slice a3 m3 k3] 26 ∧ Vb w' s #[.int .i64 1, .slice none 0 0, .int .i64 0, .slice none 0 0, .bool false, .bool false, .bool false, .int .i64 0, .slice none 0 0, .slice none 0 0] 30) → w'.cell? ⟨s, 0, none⟩ = some (.int .i64 1) := QS
    refine wpAnyH_take (i := 6) (v := .int .i64 1) rfl (by kernel_rfl) (by kernel_rfl) (by kernel_rfl) (fun _ _ _ h => h) (Or.inl ⟨by rfl, fun w' hs => by have hc := QR w' hs; go_simp⟩) SD.out ?_
    change wpAnyH _ _ _ _ _ _ _ (Act.put _ (some 30) _) _
    simp only [Act.put, List.setIfInBounds_toArray, List.set_cons_zero, List.set_cons_succ]
    refine wpAnyH_ready (rs := [3]) (by kernel_rfl) (by simp) ?_
    refine AllReadyH.cons rfl (fun K hK => ?_) AllReadyH.nil
    rw [if_pos (by rfl)]
    go_simp
    refine (s_trap15 _ _ _ _ _ _ _ _ _ _ _ H _ _ _).mono ?_
    rintro e w4 ⟨rfl, b4⟩
    have S4 : Hid (Vb w4 q #[.slice a0 15 k0, .int .i64 H.pc, .slice a1 m1 k1, .bool H.halted, .bool H.waiting, .bool H.rung, .int .i64 H.done, .slice a2 m2 k2, .slice a3 m3 k3] 26 ∧ Vb w4 s #[.int .i64 1, .slice none 0 0, .int .i64 0, .slice none 0 0, .bool false, .bool false, .bool false, .int .i64 0, .slice none 0 0, .slice none 0 0] 30) := ⟨SD.out.1.keep b4, SD.out.2.keep b4⟩
    have B4 : Hid (Below w.heap.size w w4) := on BD.out b4
    refine hK.out _ _ S4.out (fun _ => ?_)
    clear hK K b4
    refine wpAnyH_take (i := 4) (v := .int .i64 1) rfl (by kernel_rfl) (by kernel_rfl) (by kernel_rfl) (fun _ _ _ h => h) (Or.inl ⟨by rfl, fun w' hs => by have hf := field_hart0; go_simp⟩) S4.out ?_
    change wpAnyH _ _ _ _ _ _ _ (Act.put _ (some 28) _) _
    simp only [Act.put, List.setIfInBounds_toArray, List.set_cons_zero, List.set_cons_succ]
    refine wpAnyH_take (i := 7) (v := .bool true) rfl (by kernel_rfl) (by kernel_rfl) (by kernel_rfl) (fun _ _ _ h => h) (Or.inl ⟨by rfl, fun w' hs => by go_simp⟩) S4.out ?_
    change wpAnyH _ _ _ _ _ _ _ (Act.put _ (some 31) _) _
    simp only [Act.put, List.setIfInBounds_toArray, List.set_cons_zero, List.set_cons_succ]
    refine wpAnyH_take (i := 8) (v := .bool true) rfl (by kernel_rfl) (by kernel_rfl) (by kernel_rfl) (fun _ _ _ h => h) (Or.inl ⟨by rfl, fun w' hs => by go_simp⟩) S4.out ?_
    change wpAnyH _ _ _ _ _ _ _ (Act.put _ (some 2) _) _
    simp only [Act.put, List.setIfInBounds_toArray, List.set_cons_zero, List.set_cons_succ]
    refine wpAnyH_done (by kernel_rfl) ?_ _
    go_wp2_with fail
    go_ret
    exact ⟨rfl, B4.out⟩
  have fi := fun w b h => i_trapHart (.slice a0 m0 k0) (.slice a1 m1 k1) (.slice a2 m2 k2) (.slice a3 m3 k3) H n x b w h
  obtain ⟨c, hc⟩ : ∃ c, (trapR H n x).1 = c := ⟨_, rfl⟩
  obtain ⟨G, hG⟩ : ∃ G, (trapR H n x).2 = G := ⟨_, rfl⟩
  simp only [hc, hG] at fi
  refine (fi _ _ M.1).mono ?_
  rintro e w3 ⟨r', c', i', o', rfl, g3, A3, b3⟩
  obtain ⟨ra, rk, rfl, _⟩ := g3.r.shape
  obtain ⟨ca, ck, rfl, _⟩ := g3.c.shape
  obtain ⟨ia, ik, rfl, _⟩ := g3.i.shape
  obtain ⟨oa, ok, rfl, _⟩ := g3.o.shape
  clear fi
  have BL := b3
  go_upto_region 5 with fail
  obtain ⟨s, hs⟩ : ∃ s, w3.heap.size = s := ⟨_, rfl⟩
  have VS : Hid (Vb (w3.alloc (.cells #[.int .i64 c, .slice ra G.regs.length rk, .int .i64 G.pc, .slice ca G.csr.length ck, .bool G.halted, .bool G.waiting, .bool G.rung, .int .i64 G.done, .slice ia G.inn.length ik, .slice oa G.out.length ok] 30)) s #[.int .i64 c, .slice ra G.regs.length rk, .int .i64 G.pc, .slice ca G.csr.length ck, .bool G.halted, .bool G.waiting, .bool G.rung, .int .i64 G.done, .slice ia G.inn.length ik, .slice oa G.out.length ok] 30) := by show Vb _ _ _ _; rw [← hs]; exact Vb.new _ _ _
  have VQ3 : Hid (Vb (w3.alloc (.cells #[.int .i64 c, .slice ra G.regs.length rk, .int .i64 G.pc, .slice ca G.csr.length ck, .bool G.halted, .bool G.waiting, .bool G.rung, .int .i64 G.done, .slice ia G.inn.length ik, .slice oa G.out.length ok] 30)) q #[.slice a0 m0 k0, .int .i64 H.pc, .slice a1 m1 k1, .bool H.halted, .bool H.waiting, .bool H.rung, .int .i64 H.done, .slice a2 m2 k2, .slice a3 m3 k3] 26) := (VQ.out.keep BL).push _
  have B3 : Hid (Below w.heap.size w (w3.alloc (.cells #[.int .i64 c, .slice ra G.regs.length rk, .int .i64 G.pc, .slice ca G.csr.length ck, .bool G.halted, .bool G.waiting, .bool G.rung, .int .i64 G.done, .slice ia G.inn.length ik, .slice oa G.out.length ok] 30))) := al (on B2.out BL) _
  have BW : Hid (Below W2.heap.size W2 (w3.alloc (.cells #[.int .i64 c, .slice ra G.regs.length rk, .int .i64 G.pc, .slice ca G.csr.length ck, .bool G.halted, .bool G.waiting, .bool G.rung, .int .i64 G.done, .slice ia G.inn.length ik, .slice oa G.out.length ok] 30))) := al b3 _
  have GM : Hid (Hm (w3.alloc (.cells #[.int .i64 c, .slice ra G.regs.length rk, .int .i64 G.pc, .slice ca G.csr.length ck, .bool G.halted, .bool G.waiting, .bool G.rung, .int .i64 G.done, .slice ia G.inn.length ik, .slice oa G.out.length ok] 30)) w.heap.size (.slice ra G.regs.length rk) (.slice ca G.csr.length ck) (.slice ia G.inn.length ik) (.slice oa G.out.length ok) G) := (g3.keep (al (Below.refl _ _) _)).mono B2.out.size
  rw [hs]
  generalize w3.alloc (.cells #[.int .i64 c, .slice ra G.regs.length rk, .int .i64 G.pc, .slice ca G.csr.length ck, .bool G.halted, .bool G.waiting, .bool G.rung, .int .i64 G.done, .slice ia G.inn.length ik, .slice oa G.out.length ok] 30) = W3 at *
  clear hs BL b3 g3 A3
  have cc := VS.out.cell 0 rfl
  by_cases hc0 : c = 0
  case neg =>
    have fs := fun w b h => s_trapHart (.slice a0 m0 k0) (.slice a1 m1 k1) (.slice a2 m2 k2) (.slice a3 m3 k3) H n x b w h
    simp only [hc, hG] at fs
    have HM : Hid (Hm W2 w.heap.size (.slice a0 m0 k0) (.slice a1 m1 k1) (.slice a2 m2 k2) (.slice a3 m3 k3) H) := M.1
    have hcb : (c != 0) = true := by simpa using hc0
    clear M M2 hc hG GM
    have FS : Hid (_) := fs
    clear fs
    go_upto_region 6 with fail
    clear cc
    have BX : Hid (Below W2.heap.size W2 W3.drew) := BW.out.drew
    have SD : Hid (Vb W3.drew q #[.slice a0 m0 k0, .int .i64 H.pc, .slice a1 m1 k1, .bool H.halted, .bool H.waiting, .bool H.rung, .int .i64 H.done, .slice a2 m2 k2, .slice a3 m3 k3] 26 ∧ Vb W3.drew s #[.int .i64 c, .slice ra G.regs.length rk, .int .i64 G.pc, .slice ca G.csr.length ck, .bool G.halted, .bool G.waiting, .bool G.rung, .int .i64 G.done, .slice ia G.inn.length ik, .slice oa G.out.length ok] 30) := ⟨VQ3.out.keep (Below.refl _ _).drew, VS.out.keep (Below.refl _ _).drew⟩
    have BD : Hid (Below w.heap.size w W3.drew) := B3.out.drew
    have QS : ∀ w', (Vb w' q #[.slice a0 m0 k0, .int .i64 H.pc, .slice a1 m1 k1, .bool H.halted, .bool H.waiting, .bool H.rung, .int .i64 H.done, .slice a2 m2 k2, .slice a3 m3 k3] 26 ∧ Vb w' s #[.int .i64 c, .slice ra G.regs.length rk, .int .i64 G.pc, .slice ca G.csr.length ck, .bool G.halted, .bool G.waiting, .bool G.rung, .int .i64 G.done, .slice ia G.inn.length ik, .slice oa G.out.length ok] 30) → w'.cell? ⟨s, 0, none⟩ = some (.int .i64 c) := fun w' hs => hs.2.cell 0 rfl
    refine wp_region_held (S := fun w' => Vb w' q #[.slice a0 m0 k0, .int .i64 H.pc, .slice a1 m1 k1, .bool H.halted, .bool H.waiting, .bool H.rung, .int .i64 H.done, .slice a2 m2 k2, .slice a3 m3 k3] 26 ∧ Vb w' s #[.int .i64 c, .slice ra G.regs.length rk, .int .i64 G.pc, .slice ca G.csr.length ck, .bool G.halted, .bool G.waiting, .bool G.rung, .int .i64 G.done, .slice ia G.inn.length ik, .slice oa G.out.length ok] 30) (by kernel_rfl) ?_
    change wpAnyH _ _ _ _ _ _ _ _ (World.drew _)
    generalize W3.drew = v1 at *
    refine wpAnyH_take (i := 0) (v := .agg #[.slice a0 m0 k0, .int .i64 H.pc, .slice a1 m1 k1, .bool H.halted, .bool H.waiting, .bool H.rung, .int .i64 H.done, .slice a2 m2 k2, .slice a3 m3 k3]) rfl (by kernel_rfl) (by kernel_rfl) (by kernel_rfl) (fun _ _ _ h => h) (yieldsIf_load_mid (by rfl) 26 (.tmp 3) rfl q 0 rfl [.slice a0 m0 k0, .int .i64 H.pc, .slice a1 m1 k1, .bool H.halted, .bool H.waiting, .bool H.rung, .int .i64 H.done, .slice a2 m2 k2, .slice a3 m3 k3] _ (fun w' hs => Vb.range hs.1) Tryd.underlying26 rfl (by kernel_rfl)) SD.out ?_
    change wpAnyH _ _ _ _ _ _ _ (Act.put _ (some 24) _) _
    simp only [Act.put, List.setIfInBounds_toArray, List.set_cons_zero, List.set_cons_succ]
    refine wpAnyH_take (i := 1) (v := .int .i64 n) rfl (by kernel_rfl) (by kernel_rfl) (by kernel_rfl) (fun _ _ _ h => h) (Or.inl ⟨by rfl, fun w' hs => by go_simp⟩) SD.out ?_
    change wpAnyH _ _ _ _ _ _ _ (Act.put _ (some 25) _) _
    simp only [Act.put, List.setIfInBounds_toArray, List.set_cons_zero, List.set_cons_succ]
    refine wpAnyH_take (i := 2) (v := .int .i64 x) rfl (by kernel_rfl) (by kernel_rfl) (by kernel_rfl) (fun _ _ _ h => h) (Or.inl ⟨by rfl, fun w' hs => by go_simp⟩) SD.out ?_
    change wpAnyH _ _ _ _ _ _ _ (Act.put _ (some 26) _) _
    simp only [Act.put, List.setIfInBounds_toArray, List.set_cons_zero, List.set_cons_succ]
    refine wpAnyH_take (i := 5) (v := .pointer (some ⟨s, 0, none⟩)) rfl (by kernel_rfl) (by kernel_rfl) (by kernel_rfl) (fun _ _ _ h => h) (Or.inl ⟨by rfl, fun w' hs => by go_simp⟩) SD.out ?_
    change wpAnyH _ _ _ _ _ _ _ (Act.put _ (some 29) _) _
    simp only [Act.put, List.setIfInBounds_toArray, List.set_cons_zero, List.set_cons_succ]
    have QR : ∀ w', (Vb w' q #[.slice a0 m0 k0, .int .i64 H.pc, .slice a1 m1 k1, .bool H.halted, .bool H.waiting, .bool H.rung, .int .i64 H.done, .slice a2 m2 k2, .slice a3 m3 k3] 26 ∧ Vb w' s #[.int .i64 c, .slice ra G.regs.length rk, .int .i64 G.pc, .slice ca G.csr.length ck, .bool G.halted, .bool G.waiting, .bool G.rung, .int .i64 G.done, .slice ia G.inn.length ik, .slice oa G.out.length ok] 30) → w'.cell? ⟨s, 0, none⟩ = some (.int .i64 c) := QS
    refine wpAnyH_take (i := 6) (v := .int .i64 c) rfl (by kernel_rfl) (by kernel_rfl) (by kernel_rfl) (fun _ _ _ h => h) (Or.inl ⟨by rfl, fun w' hs => by have hc := QR w' hs; go_simp⟩) SD.out ?_
    change wpAnyH _ _ _ _ _ _ _ (Act.put _ (some 30) _) _
    simp only [Act.put, List.setIfInBounds_toArray, List.set_cons_zero, List.set_cons_succ]
    refine wpAnyH_ready (rs := [3]) (by kernel_rfl) (by simp) ?_
    refine AllReadyH.cons rfl (fun K hK => ?_) AllReadyH.nil
    rw [if_pos (by rfl)]
    go_simp
    refine (FS.out _ _ (HM.out.keep BX.out)).mono ?_
    rintro e w4 ⟨r4, c4, i4, o4, rfl, -, -, b4⟩
    have S4 : Hid (Vb w4 q #[.slice a0 m0 k0, .int .i64 H.pc, .slice a1 m1 k1, .bool H.halted, .bool H.waiting, .bool H.rung, .int .i64 H.done, .slice a2 m2 k2, .slice a3 m3 k3] 26 ∧ Vb w4 s #[.int .i64 c, .slice ra G.regs.length rk, .int .i64 G.pc, .slice ca G.csr.length ck, .bool G.halted, .bool G.waiting, .bool G.rung, .int .i64 G.done, .slice ia G.inn.length ik, .slice oa G.out.length ok] 30) := ⟨SD.out.1.keep b4, SD.out.2.keep b4⟩
    have B4 : Hid (Below w.heap.size w w4) := on BD.out b4
    refine hK.out _ _ S4.out (fun _ => ?_)
    clear hK K b4
    refine wpAnyH_take (i := 4) (v := .int .i64 c) rfl (by kernel_rfl) (by kernel_rfl) (by kernel_rfl) (fun _ _ _ h => h) (Or.inl ⟨by rfl, fun w' hs => by have hf := field_hart0; go_simp⟩) S4.out ?_
    change wpAnyH _ _ _ _ _ _ _ (Act.put _ (some 28) _) _
    simp only [Act.put, List.setIfInBounds_toArray, List.set_cons_zero, List.set_cons_succ]
    refine wpAnyH_take (i := 7) (v := .bool true) rfl (by kernel_rfl) (by kernel_rfl) (by kernel_rfl) (fun _ _ _ h => h) (Or.inl ⟨by rfl, fun w' hs => by go_simp⟩) S4.out ?_
    change wpAnyH _ _ _ _ _ _ _ (Act.put _ (some 31) _) _
    simp only [Act.put, List.setIfInBounds_toArray, List.set_cons_zero, List.set_cons_succ]
    refine wpAnyH_take (i := 8) (v := .bool true) rfl (by kernel_rfl) (by kernel_rfl) (by kernel_rfl) (fun _ _ _ h => h) (Or.inl ⟨by rfl, fun w' hs => by go_simp⟩) S4.out ?_
    change wpAnyH _ _ _ _ _ _ _ (Act.put _ (some 2) _) _
    simp only [Act.put, List.setIfInBounds_toArray, List.set_cons_zero, List.set_cons_succ]
    refine wpAnyH_done (by kernel_rfl) ?_ _
    go_wp2_with fail
    go_ret
    exact ⟨rfl, B4.out⟩
  subst hc0
  have TF : Hid (Tpf H n x G (backV G)) := by show Tpf _ _ _ _ _; rw [← hG]; exact tpf hc
  have MH : Hid (Hm W2 w.heap.size (.slice a0 m0 k0) (.slice a1 m1 k1) (.slice a2 m2 k2) (.slice a3 m3 k3) H) := M.1
  clear M M2 hc hG
  have s1 := VS.out.cell 1 rfl
  have s2 := VS.out.cell 2 rfl
  have s3 := VS.out.cell 3 rfl
  have s4 := VS.out.cell 4 rfl
  have s5 := VS.out.cell 5 rfl
  have s6 := VS.out.cell 6 rfl
  have s7 := VS.out.cell 7 rfl
  have s8 := VS.out.cell 8 rfl
  have s9 := VS.out.cell 9 rfl
  go_wp2_with fail
  clear cc s1 s2 s3 s4 s5 s6 s7 s8 s9
  refine (i_backHart (.slice ra G.regs.length rk) (.slice ca G.csr.length ck) (.slice ia G.inn.length ik) (.slice oa G.out.length ok) G _ _ GM.out).mono ?_
  rintro e w5 ⟨r5, c5, i5, o5, rfl, g5, -, b5⟩
  rw [TF.out.back] at g5 ⊢
  obtain ⟨K, hK⟩ : ∃ K, backV G = K := ⟨_, rfl⟩
  simp only [hK] at g5 TF ⊢
  clear hK
  obtain ⟨ra5, rk5, rfl, _⟩ := g5.r.shape
  obtain ⟨ca5, ck5, rfl, _, _, gk5⟩ := g5.c.shape
  obtain ⟨ia5, ik5, rfl, _⟩ := g5.i.shape
  obtain ⟨oa5, ok5, rfl, _⟩ := g5.o.shape
  obtain ⟨ky, rfl⟩ := gk5 (by have := TF.out.kc; omega)
  obtain ⟨y1, rfl⟩ : ∃ y, a1 = some ⟨y, 0, none⟩ := by
    obtain ⟨a, cc, hv, _, _, hh⟩ := MH.out.c.shape
    cases hv
    exact hh (by have := TF.out.hc; omega)
  have M1 : Hid (m1 = 11) := by have := MH.out.c.len; have := TF.out.hc; show _ = _; omega
  clear gk5
  go_upto_region 8 with fail
  obtain ⟨u, hu⟩ : ∃ u, w5.heap.size = u := ⟨_, rfl⟩
  have b6 : Below W3.heap.size W3 (w5.alloc (.cells #[.int .i64 0, .slice ra5 K.regs.length rk5, .int .i64 K.pc, .slice (some ⟨ky, 0, none⟩) K.csr.length ck5, .bool K.halted, .bool K.waiting, .bool K.rung, .int .i64 K.done, .slice ia5 K.inn.length ik5, .slice oa5 K.out.length ok5] 30)) := al b5 _
  have VQ5 : Hid (Vb (w5.alloc (.cells #[.int .i64 0, .slice ra5 K.regs.length rk5, .int .i64 K.pc, .slice (some ⟨ky, 0, none⟩) K.csr.length ck5, .bool K.halted, .bool K.waiting, .bool K.rung, .int .i64 K.done, .slice ia5 K.inn.length ik5, .slice oa5 K.out.length ok5] 30)) q #[.slice a0 m0 k0, .int .i64 H.pc, .slice (some ⟨y1, 0, none⟩) m1 k1, .bool H.halted, .bool H.waiting, .bool H.rung, .int .i64 H.done, .slice a2 m2 k2, .slice a3 m3 k3] 26) := VQ3.out.keep b6
  have VS5 : Hid (Vb (w5.alloc (.cells #[.int .i64 0, .slice ra5 K.regs.length rk5, .int .i64 K.pc, .slice (some ⟨ky, 0, none⟩) K.csr.length ck5, .bool K.halted, .bool K.waiting, .bool K.rung, .int .i64 K.done, .slice ia5 K.inn.length ik5, .slice oa5 K.out.length ok5] 30)) s #[.int .i64 0, .slice ra G.regs.length rk, .int .i64 G.pc, .slice ca G.csr.length ck, .bool G.halted, .bool G.waiting, .bool G.rung, .int .i64 G.done, .slice ia G.inn.length ik, .slice oa G.out.length ok] 30) := VS.out.keep b6
  have VU : Hid (Vb (w5.alloc (.cells #[.int .i64 0, .slice ra5 K.regs.length rk5, .int .i64 K.pc, .slice (some ⟨ky, 0, none⟩) K.csr.length ck5, .bool K.halted, .bool K.waiting, .bool K.rung, .int .i64 K.done, .slice ia5 K.inn.length ik5, .slice oa5 K.out.length ok5] 30)) u #[.int .i64 0, .slice ra5 K.regs.length rk5, .int .i64 K.pc, .slice (some ⟨ky, 0, none⟩) K.csr.length ck5, .bool K.halted, .bool K.waiting, .bool K.rung, .int .i64 K.done, .slice ia5 K.inn.length ik5, .slice oa5 K.out.length ok5] 30) := by show Vb _ _ _ _; rw [← hu]; exact Vb.new _ _ _
  have MH5 : Hid (Hm (w5.alloc (.cells #[.int .i64 0, .slice ra5 K.regs.length rk5, .int .i64 K.pc, .slice (some ⟨ky, 0, none⟩) K.csr.length ck5, .bool K.halted, .bool K.waiting, .bool K.rung, .int .i64 K.done, .slice ia5 K.inn.length ik5, .slice oa5 K.out.length ok5] 30)) w.heap.size (.slice a0 m0 k0) (.slice (some ⟨y1, 0, none⟩) m1 k1) (.slice a2 m2 k2) (.slice a3 m3 k3) H) := MH.out.keep (on BW.out b6)
  have MG5 : Hid (Hm (w5.alloc (.cells #[.int .i64 0, .slice ra5 K.regs.length rk5, .int .i64 K.pc, .slice (some ⟨ky, 0, none⟩) K.csr.length ck5, .bool K.halted, .bool K.waiting, .bool K.rung, .int .i64 K.done, .slice ia5 K.inn.length ik5, .slice oa5 K.out.length ok5] 30)) w.heap.size (.slice ra G.regs.length rk) (.slice ca G.csr.length ck) (.slice ia G.inn.length ik) (.slice oa G.out.length ok) G) := GM.out.keep b6
  have MK5 : Hid (Hm (w5.alloc (.cells #[.int .i64 0, .slice ra5 K.regs.length rk5, .int .i64 K.pc, .slice (some ⟨ky, 0, none⟩) K.csr.length ck5, .bool K.halted, .bool K.waiting, .bool K.rung, .int .i64 K.done, .slice ia5 K.inn.length ik5, .slice oa5 K.out.length ok5] 30)) W3.heap.size (.slice ra5 K.regs.length rk5) (.slice (some ⟨ky, 0, none⟩) K.csr.length ck5) (.slice ia5 K.inn.length ik5) (.slice oa5 K.out.length ok5) K) := g5.keep (al (Below.refl _ _) _)
  have B5 : Hid (Below w.heap.size w (w5.alloc (.cells #[.int .i64 0, .slice ra5 K.regs.length rk5, .int .i64 K.pc, .slice (some ⟨ky, 0, none⟩) K.csr.length ck5, .bool K.halted, .bool K.waiting, .bool K.rung, .int .i64 K.done, .slice ia5 K.inn.length ik5, .slice oa5 K.out.length ok5] 30))) := on B3.out b6
  rw [hu]
  generalize w5.alloc (.cells #[.int .i64 0, .slice ra5 K.regs.length rk5, .int .i64 K.pc, .slice (some ⟨ky, 0, none⟩) K.csr.length ck5, .bool K.halted, .bool K.waiting, .bool K.rung, .int .i64 K.done, .slice ia5 K.inn.length ik5, .slice oa5 K.out.length ok5] 30) = U at *
  clear hu g5 b5 b6 VQ3 VS MH GM BW VQ B2 B3
  obtain ⟨z, hz⟩ : ∃ z, gt H.csr 0 = z := ⟨_, rfl⟩
  have HZ : Hid (gt H.csr 0 = z) := hz
  have ZB : Hid (0 ≤ z ∧ z ≤ 3) := by rw [← hz]; exact TF.out.z0
  have HI1 : Hid ((1 : Int) < (m1 : Int)) := by show _ < _; have := M1.out; omega
  have KI0 : Hid ((0 : Int) < (K.csr.length : Int)) := by show _ < _; have := TF.out.kc; omega
  have KNE : Hid (¬ K.csr = []) := fun e => by have := TF.out.kc; rw [e] at this; simp at this
  have HW2 : Hid (IntKind.i64.wrap (2 + z % 2) = 2 + z % 2) := by show _ = _; rw [IntKind.wrap_i64]; have := ZB.out; omega
  clear hz
  have CFg : ∀ p : Go.Proofs.YtaajaikpkcgalaaDoor.BW U, Calls Tryd.prog 10 #[.agg #[.slice ra G.regs.length rk, .int .i64 G.pc, .slice ca G.csr.length ck, .bool G.halted, .bool G.waiting, .bool G.rung, .int .i64 G.done, .slice ia G.inn.length ik, .slice oa G.out.length ok]] p.w fun e w' => e = .returned (.int .i64 0) ∧ Below p.w.heap.size p.w w' := fun p => by
    have t := i_fault _ _ _ _ G _ p.w (MG5.out.keep p.h); rw [TF.out.okG] at t; exact t
  have CFk : ∀ p : Go.Proofs.YtaajaikpkcgalaaDoor.BW U, Calls Tryd.prog 10 #[.agg #[.slice ra5 K.regs.length rk5, .int .i64 K.pc, .slice (some ⟨ky, 0, none⟩) K.csr.length ck5, .bool K.halted, .bool K.waiting, .bool K.rung, .int .i64 K.done, .slice ia5 K.inn.length ik5, .slice oa5 K.out.length ok5]] p.w fun e w' => e = .returned (.int .i64 0) ∧ Below p.w.heap.size p.w w' := fun p => by
    have t := i_fault _ _ _ _ K _ p.w (MK5.out.keep p.h); rw [TF.out.okK] at t; exact t
  have CD : ∀ p : Go.Proofs.YtaajaikpkcgalaaDoor.BW U, Calls Tryd.prog 11 #[.agg #[.slice ra G.regs.length rk, .int .i64 G.pc, .slice ca G.csr.length ck, .bool G.halted, .bool G.waiting, .bool G.rung, .int .i64 G.done, .slice ia G.inn.length ik, .slice oa G.out.length ok]] p.w fun e w' => e = .returned (.agg #[.int .i64 4, .int .i64 0]) ∧ Below p.w.heap.size p.w w' := fun p => by
    have t := i_dueOf _ _ _ _ G _ p.w (MG5.out.keep p.h) (HT.out.keep (on B5.out p.h)); rw [TF.out.due] at t; exact t
  have CG3 : ∀ p : Go.Proofs.YtaajaikpkcgalaaDoor.BW U, Calls Tryd.prog 13 #[.agg #[.slice ra G.regs.length rk, .int .i64 G.pc, .slice ca G.csr.length ck, .bool G.halted, .bool G.waiting, .bool G.rung, .int .i64 G.done, .slice ia G.inn.length ik, .slice oa G.out.length ok], .int .i64 3] p.w fun e w' => e = .returned (.agg #[.int .i64 0, .int .i64 n]) ∧ Below p.w.heap.size p.w w' := fun p => by
    have t := i_getCsr _ _ _ _ G 3 _ p.w (MG5.out.keep p.h); rw [TF.out.cause] at t; exact t
  have CG2 : ∀ p : Go.Proofs.YtaajaikpkcgalaaDoor.BW U, Calls Tryd.prog 13 #[.agg #[.slice ra G.regs.length rk, .int .i64 G.pc, .slice ca G.csr.length ck, .bool G.halted, .bool G.waiting, .bool G.rung, .int .i64 G.done, .slice ia G.inn.length ik, .slice oa G.out.length ok], .int .i64 2] p.w fun e w' => e = .returned (.agg #[.int .i64 0, .int .i64 H.pc]) ∧ Below p.w.heap.size p.w w' := fun p => by
    have t := i_getCsr _ _ _ _ G 2 _ p.w (MG5.out.keep p.h); rw [TF.out.epc] at t; exact t
  have CN : ∀ p : Go.Proofs.YtaajaikpkcgalaaDoor.BW U, Calls Tryd.prog 12 #[.slice ra5 K.regs.length rk5, .slice a0 m0 k0] p.w fun e w' => e = .returned (.bool true) ∧ Below p.w.heap.size p.w w' := fun p => by
    exact lw_nums _ _ H.regs _ _ p.w (by have t := (MK5.out.keep p.h).r; rw [TF.out.regs] at t ⊢; exact t) (MH5.out.keep p.h).r
  have RG1 : Hid (∀ w', Below U.heap.size U w' → w'.rangeAt s 1 [.slice ra G.regs.length rk, .int .i64 G.pc, .slice ca G.csr.length ck, .bool G.halted, .bool G.waiting, .bool G.rung, .int .i64 G.done, .slice ia G.inn.length ik, .slice oa G.out.length ok]) := fun w' hs => Vb.range1 (VS5.out.keep hs)
  have RK1 : Hid (∀ w', Below U.heap.size U w' → w'.rangeAt u 1 [.slice ra5 K.regs.length rk5, .int .i64 K.pc, .slice (some ⟨ky, 0, none⟩) K.csr.length ck5, .bool K.halted, .bool K.waiting, .bool K.rung, .int .i64 K.done, .slice ia5 K.inn.length ik5, .slice oa5 K.out.length ok5]) := fun w' hs => Vb.range1 (VU.out.keep hs)
  have cu0 : Hid (∀ w', Below U.heap.size U w' → w'.cell? ⟨u, 0, none⟩ = some (.int .i64 0)) := fun w' hs => (VU.out.keep hs).cell 0 rfl
  have cs2 : Hid (∀ w', Below U.heap.size U w' → w'.cell? ⟨s, 2, none⟩ = some (.int .i64 G.pc)) := fun w' hs => (VS5.out.keep hs).cell 2 rfl
  have cq2 : Hid (∀ w', Below U.heap.size U w' → w'.cell? ⟨q, 2, none⟩ = some (.slice (some ⟨y1, 0, none⟩) m1 k1)) := fun w' hs => (VQ5.out.keep hs).cell 2 rfl
  have cy1 : Hid (∀ w', Below U.heap.size U w' → w'.cell? ⟨y1, 1, none⟩ = some (.int .i64 G.pc)) := fun w' hs => by have t := (MH5.out.keep hs).c.cell (MH5.out.c.len) 1 (by have := M1.out; omega); rw [TF.out.pcG]; exact t
  have cy0 : Hid (∀ w', Below U.heap.size U w' → w'.cell? ⟨y1, 0, none⟩ = some (.int .i64 z)) := fun w' hs => by have t := (MH5.out.keep hs).c.cell (MH5.out.c.len) 0 (by have := M1.out; omega); rw [← HZ.out]; exact t
  have cu2 : Hid (∀ w', Below U.heap.size U w' → w'.cell? ⟨u, 2, none⟩ = some (.int .i64 H.pc)) := fun w' hs => by have t := (VU.out.keep hs).cell 2 rfl; rw [← TF.out.pcK]; exact t
  have cq1 : Hid (∀ w', Below U.heap.size U w' → w'.cell? ⟨q, 1, none⟩ = some (.int .i64 H.pc)) := fun w' hs => (VQ5.out.keep hs).cell 1 rfl
  have cu3 : Hid (∀ w', Below U.heap.size U w' → w'.cell? ⟨u, 3, none⟩ = some (.slice (some ⟨ky, 0, none⟩) K.csr.length ck5)) := fun w' hs => (VU.out.keep hs).cell 3 rfl
  have ck0 : Hid (∀ w', Below U.heap.size U w' → w'.cell? ⟨ky, 0, none⟩ = some (.int .i64 (2 + z % 2))) := fun w' hs => by have t := (MK5.out.keep hs).c.cell rfl 0 (by have := TF.out.kc; omega); rw [← HZ.out, ← TF.out.stK]; exact t
  have cu1 : Hid (∀ w', Below U.heap.size U w' → w'.cell? ⟨u, 1, none⟩ = some (.slice ra5 K.regs.length rk5)) := fun w' hs => (VU.out.keep hs).cell 1 rfl
  have cq0 : Hid (∀ w', Below U.heap.size U w' → w'.cell? ⟨q, 0, none⟩ = some (.slice a0 m0 k0)) := fun w' hs => (VQ5.out.keep hs).cell 0 rfl
  have cu7 : Hid (∀ w', Below U.heap.size U w' → w'.cell? ⟨u, 7, none⟩ = some (.int .i64 H.done)) := fun w' hs => by have t := (VU.out.keep hs).cell 7 rfl; rw [← TF.out.done]; exact t
  have cq6 : Hid (∀ w', Below U.heap.size U w' → w'.cell? ⟨q, 6, none⟩ = some (.int .i64 H.done)) := fun w' hs => (VQ5.out.keep hs).cell 6 rfl
  have cs5 : Hid (∀ w', Below U.heap.size U w' → w'.cell? ⟨s, 5, none⟩ = some (.bool false)) := fun w' hs => by have t := (VS5.out.keep hs).cell 5 rfl; rw [← TF.out.wait]; exact t
  have UU : Hid (Below U.heap.size U U) := Below.refl _ _
  have D8 : Hid (Below U.heap.size U U.drew) := UU.out.drew
  refine wp_region_held (S := fun w' => Below U.heap.size U w') (by kernel_rfl) ?_
  change wpAnyH _ _ _ _ _ _ _ _ (World.drew _)
  generalize U.drew = d8 at *
  refine wpAnyH_take (i := 0) (v := .pointer (some ⟨s, 1, none⟩)) rfl (by kernel_rfl) (by kernel_rfl) (by kernel_rfl) (fun _ _ _ h => h) (Or.inl ⟨by rfl, fun w' hs => by go_simp⟩) D8.out ?_
  change wpAnyH _ _ _ _ _ _ _ (Act.put _ (some 35) _) _
  simp only [Act.put, List.setIfInBounds_toArray, List.set_cons_zero, List.set_cons_succ]
  refine wpAnyH_take (i := 1) (v := .agg #[.slice ra G.regs.length rk, .int .i64 G.pc, .slice ca G.csr.length ck, .bool G.halted, .bool G.waiting, .bool G.rung, .int .i64 G.done, .slice ia G.inn.length ik, .slice oa G.out.length ok]) rfl (by kernel_rfl) (by kernel_rfl) (by kernel_rfl) (fun _ _ _ h => h) (yieldsIf_load_mid (by rfl) 26 (.tmp 35) rfl s 1 rfl [.slice ra G.regs.length rk, .int .i64 G.pc, .slice ca G.csr.length ck, .bool G.halted, .bool G.waiting, .bool G.rung, .int .i64 G.done, .slice ia G.inn.length ik, .slice oa G.out.length ok] _ RG1.out Tryd.underlying26 rfl (by kernel_rfl)) D8.out ?_
  change wpAnyH _ _ _ _ _ _ _ (Act.put _ (some 36) _) _
  simp only [Act.put, List.setIfInBounds_toArray, List.set_cons_zero, List.set_cons_succ]
  refine wpAnyH_ready (rs := [2]) (by kernel_rfl) (by simp) ?_
  refine AllReadyH.cons rfl (fun K hK => ?_) AllReadyH.nil
  rw [if_pos (by rfl)]
  go_simp
  refine (CFg ⟨d8, D8.out⟩).mono ?_
  rintro e x8w1 ⟨rfl, b8⟩
  have X8S1 : Hid (Below U.heap.size U x8w1) := on D8.out b8
  refine hK.out _ _ X8S1.out (fun _ => ?_)
  clear hK K b8
  refine wpAnyH_take (i := 3) (v := .bool false) rfl (by kernel_rfl) (by kernel_rfl) (by kernel_rfl) (fun _ _ _ h => h) (Or.inl ⟨by rfl, fun w' hs => by go_simp⟩) X8S1.out ?_
  change wpAnyH _ _ _ _ _ _ _ (Act.put _ (some 38) _) _
  simp only [Act.put, List.setIfInBounds_toArray, List.set_cons_zero, List.set_cons_succ]
  refine wpAnyH_take (i := 4) (v := .bool false) rfl (by kernel_rfl) (by kernel_rfl) (by kernel_rfl) (fun _ _ _ h => h) (Or.inl ⟨by rfl, fun w' hs => by go_simp⟩) X8S1.out ?_
  change wpAnyH _ _ _ _ _ _ _ (Act.put _ (some 39) _) _
  simp only [Act.put, List.setIfInBounds_toArray, List.set_cons_zero, List.set_cons_succ]
  refine wpAnyH_take (i := 5) (v := .pointer (some ⟨u, 0, none⟩)) rfl (by kernel_rfl) (by kernel_rfl) (by kernel_rfl) (fun _ _ _ h => h) (Or.inl ⟨by rfl, fun w' hs => by go_simp⟩) X8S1.out ?_
  change wpAnyH _ _ _ _ _ _ _ (Act.put _ (some 40) _) _
  simp only [Act.put, List.setIfInBounds_toArray, List.set_cons_zero, List.set_cons_succ]
  refine wpAnyH_take (i := 6) (v := .int .i64 0) rfl (by kernel_rfl) (by kernel_rfl) (by kernel_rfl) (fun _ _ _ h => h) (Or.inl ⟨by rfl, fun w' hs => by have hc := cu0.out w' hs; go_simp⟩) X8S1.out ?_
  change wpAnyH _ _ _ _ _ _ _ (Act.put _ (some 41) _) _
  simp only [Act.put, List.setIfInBounds_toArray, List.set_cons_zero, List.set_cons_succ]
  refine wpAnyH_take (i := 7) (v := .bool false) rfl (by kernel_rfl) (by kernel_rfl) (by kernel_rfl) (fun _ _ _ h => h) (Or.inl ⟨by rfl, fun w' hs => by go_simp⟩) X8S1.out ?_
  change wpAnyH _ _ _ _ _ _ _ (Act.put _ (some 42) _) _
  simp only [Act.put, List.setIfInBounds_toArray, List.set_cons_zero, List.set_cons_succ]
  refine wpAnyH_take (i := 8) (v := .bool false) rfl (by kernel_rfl) (by kernel_rfl) (by kernel_rfl) (fun _ _ _ h => h) (Or.inl ⟨by rfl, fun w' hs => by go_simp⟩) X8S1.out ?_
  change wpAnyH _ _ _ _ _ _ _ (Act.put _ (some 43) _) _
  simp only [Act.put, List.setIfInBounds_toArray, List.set_cons_zero, List.set_cons_succ]
  refine wpAnyH_take (i := 9) (v := .bool false) rfl (by kernel_rfl) (by kernel_rfl) (by kernel_rfl) (fun _ _ _ h => h) (Or.inl ⟨by rfl, fun w' hs => by go_simp⟩) X8S1.out ?_
  change wpAnyH _ _ _ _ _ _ _ (Act.put _ (some 44) _) _
  simp only [Act.put, List.setIfInBounds_toArray, List.set_cons_zero, List.set_cons_succ]
  refine wpAnyH_take (i := 10) (v := .pointer (some ⟨u, 1, none⟩)) rfl (by kernel_rfl) (by kernel_rfl) (by kernel_rfl) (fun _ _ _ h => h) (Or.inl ⟨by rfl, fun w' hs => by go_simp⟩) X8S1.out ?_
  change wpAnyH _ _ _ _ _ _ _ (Act.put _ (some 45) _) _
  simp only [Act.put, List.setIfInBounds_toArray, List.set_cons_zero, List.set_cons_succ]
  refine wpAnyH_take (i := 11) (v := .agg #[.slice ra5 K.regs.length rk5, .int .i64 K.pc, .slice (some ⟨ky, 0, none⟩) K.csr.length ck5, .bool K.halted, .bool K.waiting, .bool K.rung, .int .i64 K.done, .slice ia5 K.inn.length ik5, .slice oa5 K.out.length ok5]) rfl (by kernel_rfl) (by kernel_rfl) (by kernel_rfl) (fun _ _ _ h => h) (yieldsIf_load_mid (by rfl) 26 (.tmp 45) rfl u 1 rfl [.slice ra5 K.regs.length rk5, .int .i64 K.pc, .slice (some ⟨ky, 0, none⟩) K.csr.length ck5, .bool K.halted, .bool K.waiting, .bool K.rung, .int .i64 K.done, .slice ia5 K.inn.length ik5, .slice oa5 K.out.length ok5] _ RK1.out Tryd.underlying26 rfl (by kernel_rfl)) X8S1.out ?_
  change wpAnyH _ _ _ _ _ _ _ (Act.put _ (some 46) _) _
  simp only [Act.put, List.setIfInBounds_toArray, List.set_cons_zero, List.set_cons_succ]
  refine wpAnyH_ready (rs := [12]) (by kernel_rfl) (by simp) ?_
  refine AllReadyH.cons rfl (fun K hK => ?_) AllReadyH.nil
  rw [if_pos (by rfl)]
  go_simp
  refine (CFk ⟨x8w1, X8S1.out⟩).mono ?_
  rintro e x8w2 ⟨rfl, b8⟩
  have X8S2 : Hid (Below U.heap.size U x8w2) := on X8S1.out b8
  refine hK.out _ _ X8S2.out (fun _ => ?_)
  clear hK K b8
  refine wpAnyH_take (i := 13) (v := .bool false) rfl (by kernel_rfl) (by kernel_rfl) (by kernel_rfl) (fun _ _ _ h => h) (Or.inl ⟨by rfl, fun w' hs => by go_simp⟩) X8S2.out ?_
  change wpAnyH _ _ _ _ _ _ _ (Act.put _ (some 48) _) _
  simp only [Act.put, List.setIfInBounds_toArray, List.set_cons_zero, List.set_cons_succ]
  refine wpAnyH_take (i := 14) (v := .bool false) rfl (by kernel_rfl) (by kernel_rfl) (by kernel_rfl) (fun _ _ _ h => h) (Or.inl ⟨by rfl, fun w' hs => by go_simp⟩) X8S2.out ?_
  change wpAnyH _ _ _ _ _ _ _ (Act.put _ (some 49) _) _
  simp only [Act.put, List.setIfInBounds_toArray, List.set_cons_zero, List.set_cons_succ]
  refine wpAnyH_take (i := 15) (v := .bool false) rfl (by kernel_rfl) (by kernel_rfl) (by kernel_rfl) (fun _ _ _ h => h) (Or.inl ⟨by rfl, fun w' hs => by go_simp⟩) X8S2.out ?_
  change wpAnyH _ _ _ _ _ _ _ (Act.put _ (some 50) _) _
  simp only [Act.put, List.setIfInBounds_toArray, List.set_cons_zero, List.set_cons_succ]
  refine wpAnyH_take (i := 16) (v := .pointer (some ⟨s, 1, none⟩)) rfl (by kernel_rfl) (by kernel_rfl) (by kernel_rfl) (fun _ _ _ h => h) (Or.inl ⟨by rfl, fun w' hs => by go_simp⟩) X8S2.out ?_
  change wpAnyH _ _ _ _ _ _ _ (Act.put _ (some 51) _) _
  simp only [Act.put, List.setIfInBounds_toArray, List.set_cons_zero, List.set_cons_succ]
  refine wpAnyH_take (i := 17) (v := .pointer (some ⟨s, 2, none⟩)) rfl (by kernel_rfl) (by kernel_rfl) (by kernel_rfl) (fun _ _ _ h => h) (Or.inl ⟨by rfl, fun w' hs => by go_simp⟩) X8S2.out ?_
  change wpAnyH _ _ _ _ _ _ _ (Act.put _ (some 52) _) _
  simp only [Act.put, List.setIfInBounds_toArray, List.set_cons_zero, List.set_cons_succ]
  refine wpAnyH_take (i := 18) (v := .int .i64 G.pc) rfl (by kernel_rfl) (by kernel_rfl) (by kernel_rfl) (fun _ _ _ h => h) (Or.inl ⟨by rfl, fun w' hs => by have hc := cs2.out w' hs; go_simp⟩) X8S2.out ?_
  change wpAnyH _ _ _ _ _ _ _ (Act.put _ (some 53) _) _
  simp only [Act.put, List.setIfInBounds_toArray, List.set_cons_zero, List.set_cons_succ]
  refine wpAnyH_take (i := 19) (v := .pointer (some ⟨q, 2, none⟩)) rfl (by kernel_rfl) (by kernel_rfl) (by kernel_rfl) (fun _ _ _ h => h) (Or.inl ⟨by rfl, fun w' hs => by go_simp⟩) X8S2.out ?_
  change wpAnyH _ _ _ _ _ _ _ (Act.put _ (some 54) _) _
  simp only [Act.put, List.setIfInBounds_toArray, List.set_cons_zero, List.set_cons_succ]
  refine wpAnyH_take (i := 20) (v := .slice (some ⟨y1, 0, none⟩) m1 k1) rfl (by kernel_rfl) (by kernel_rfl) (by kernel_rfl) (fun _ _ _ h => h) (Or.inl ⟨by rfl, fun w' hs => by have hc := cq2.out w' hs; go_simp⟩) X8S2.out ?_
  change wpAnyH _ _ _ _ _ _ _ (Act.put _ (some 55) _) _
  simp only [Act.put, List.setIfInBounds_toArray, List.set_cons_zero, List.set_cons_succ]
  refine wpAnyH_take (i := 21) (v := .pointer (some ⟨y1, 1, none⟩)) rfl (by kernel_rfl) (by kernel_rfl) (by kernel_rfl) (fun _ _ _ h => h) (Or.inl ⟨by rfl, fun w' hs => by have h1 := HI1.out; go_simp⟩) X8S2.out ?_
  change wpAnyH _ _ _ _ _ _ _ (Act.put _ (some 56) _) _
  simp only [Act.put, List.setIfInBounds_toArray, List.set_cons_zero, List.set_cons_succ]
  refine wpAnyH_take (i := 22) (v := .int .i64 G.pc) rfl (by kernel_rfl) (by kernel_rfl) (by kernel_rfl) (fun _ _ _ h => h) (Or.inl ⟨by rfl, fun w' hs => by have hc := cy1.out w' hs; go_simp⟩) X8S2.out ?_
  change wpAnyH _ _ _ _ _ _ _ (Act.put _ (some 57) _) _
  simp only [Act.put, List.setIfInBounds_toArray, List.set_cons_zero, List.set_cons_succ]
  refine wpAnyH_take (i := 23) (v := .bool false) rfl (by kernel_rfl) (by kernel_rfl) (by kernel_rfl) (fun _ _ _ h => h) (Or.inl ⟨by rfl, fun w' hs => by go_simp⟩) X8S2.out ?_
  change wpAnyH _ _ _ _ _ _ _ (Act.put _ (some 58) _) _
  simp only [Act.put, List.setIfInBounds_toArray, List.set_cons_zero, List.set_cons_succ]
  refine wpAnyH_take (i := 24) (v := .bool false) rfl (by kernel_rfl) (by kernel_rfl) (by kernel_rfl) (fun _ _ _ h => h) (Or.inl ⟨by rfl, fun w' hs => by go_simp⟩) X8S2.out ?_
  change wpAnyH _ _ _ _ _ _ _ (Act.put _ (some 59) _) _
  simp only [Act.put, List.setIfInBounds_toArray, List.set_cons_zero, List.set_cons_succ]
  refine wpAnyH_take (i := 25) (v := .bool false) rfl (by kernel_rfl) (by kernel_rfl) (by kernel_rfl) (fun _ _ _ h => h) (Or.inl ⟨by rfl, fun w' hs => by go_simp⟩) X8S2.out ?_
  change wpAnyH _ _ _ _ _ _ _ (Act.put _ (some 60) _) _
  simp only [Act.put, List.setIfInBounds_toArray, List.set_cons_zero, List.set_cons_succ]
  refine wpAnyH_take (i := 26) (v := .pointer (some ⟨s, 1, none⟩)) rfl (by kernel_rfl) (by kernel_rfl) (by kernel_rfl) (fun _ _ _ h => h) (Or.inl ⟨by rfl, fun w' hs => by go_simp⟩) X8S2.out ?_
  change wpAnyH _ _ _ _ _ _ _ (Act.put _ (some 61) _) _
  simp only [Act.put, List.setIfInBounds_toArray, List.set_cons_zero, List.set_cons_succ]
  refine wpAnyH_take (i := 27) (v := .agg #[.slice ra G.regs.length rk, .int .i64 G.pc, .slice ca G.csr.length ck, .bool G.halted, .bool G.waiting, .bool G.rung, .int .i64 G.done, .slice ia G.inn.length ik, .slice oa G.out.length ok]) rfl (by kernel_rfl) (by kernel_rfl) (by kernel_rfl) (fun _ _ _ h => h) (yieldsIf_load_mid (by rfl) 26 (.tmp 61) rfl s 1 rfl [.slice ra G.regs.length rk, .int .i64 G.pc, .slice ca G.csr.length ck, .bool G.halted, .bool G.waiting, .bool G.rung, .int .i64 G.done, .slice ia G.inn.length ik, .slice oa G.out.length ok] _ RG1.out Tryd.underlying26 rfl (by kernel_rfl)) X8S2.out ?_
  change wpAnyH _ _ _ _ _ _ _ (Act.put _ (some 62) _) _
  simp only [Act.put, List.setIfInBounds_toArray, List.set_cons_zero, List.set_cons_succ]
  refine wpAnyH_ready (rs := [28]) (by kernel_rfl) (by simp) ?_
  refine AllReadyH.cons rfl (fun K hK => ?_) AllReadyH.nil
  rw [if_pos (by rfl)]
  go_simp
  refine (CD ⟨x8w2, X8S2.out⟩).mono ?_
  rintro e x8w3 ⟨rfl, b8⟩
  have X8S3 : Hid (Below U.heap.size U x8w3) := on X8S2.out b8
  refine hK.out _ _ X8S3.out (fun _ => ?_)
  clear hK K b8
  refine wpAnyH_take (i := 29) (v := .int .i64 4) rfl (by kernel_rfl) (by kernel_rfl) (by kernel_rfl) (fun _ _ _ h => h) (Or.inl ⟨by rfl, fun w' hs => by have hf := field_int0; go_simp⟩) X8S3.out ?_
  change wpAnyH _ _ _ _ _ _ _ (Act.put _ (some 64) _) _
  simp only [Act.put, List.setIfInBounds_toArray, List.set_cons_zero, List.set_cons_succ]
  refine wpAnyH_take (i := 30) (v := .bool false) rfl (by kernel_rfl) (by kernel_rfl) (by kernel_rfl) (fun _ _ _ h => h) (Or.inl ⟨by rfl, fun w' hs => by go_simp⟩) X8S3.out ?_
  change wpAnyH _ _ _ _ _ _ _ (Act.put _ (some 65) _) _
  simp only [Act.put, List.setIfInBounds_toArray, List.set_cons_zero, List.set_cons_succ]
  refine wpAnyH_take (i := 31) (v := .bool false) rfl (by kernel_rfl) (by kernel_rfl) (by kernel_rfl) (fun _ _ _ h => h) (Or.inl ⟨by rfl, fun w' hs => by go_simp⟩) X8S3.out ?_
  change wpAnyH _ _ _ _ _ _ _ (Act.put _ (some 66) _) _
  simp only [Act.put, List.setIfInBounds_toArray, List.set_cons_zero, List.set_cons_succ]
  refine wpAnyH_done (by kernel_rfl) ?_ _
  have k2 := cq2.out _ X8S3.out
  have k0 := cy0.out _ X8S3.out
  have hI0 : (0 : Int) < (m1 : Int) := by have := M1.out; omega
  have tm : z.tmod 2 = z % 2 := Int.tmod_eq_emod_of_nonneg ZB.out.1
  go_upto_region 11 with fail
  clear k2 k0 hI0 tm
  have D11 : Hid (Below U.heap.size U x8w3.drew) := X8S3.out.drew
  refine wp_region_held (S := fun w' => Below U.heap.size U w') (by kernel_rfl) ?_
  change wpAnyH _ _ _ _ _ _ _ _ (World.drew _)
  generalize x8w3.drew = d11 at *
  refine wpAnyH_take (i := 0) (v := .pointer (some ⟨u, 1, none⟩)) rfl (by kernel_rfl) (by kernel_rfl) (by kernel_rfl) (fun _ _ _ h => h) (Or.inl ⟨by rfl, fun w' hs => by go_simp⟩) D11.out ?_
  change wpAnyH _ _ _ _ _ _ _ (Act.put _ (some 72) _) _
  simp only [Act.put, List.setIfInBounds_toArray, List.set_cons_zero, List.set_cons_succ]
  refine wpAnyH_take (i := 1) (v := .pointer (some ⟨u, 2, none⟩)) rfl (by kernel_rfl) (by kernel_rfl) (by kernel_rfl) (fun _ _ _ h => h) (Or.inl ⟨by rfl, fun w' hs => by go_simp⟩) D11.out ?_
  change wpAnyH _ _ _ _ _ _ _ (Act.put _ (some 73) _) _
  simp only [Act.put, List.setIfInBounds_toArray, List.set_cons_zero, List.set_cons_succ]
  refine wpAnyH_take (i := 2) (v := .int .i64 H.pc) rfl (by kernel_rfl) (by kernel_rfl) (by kernel_rfl) (fun _ _ _ h => h) (Or.inl ⟨by rfl, fun w' hs => by have hc := cu2.out w' hs; go_simp⟩) D11.out ?_
  change wpAnyH _ _ _ _ _ _ _ (Act.put _ (some 74) _) _
  simp only [Act.put, List.setIfInBounds_toArray, List.set_cons_zero, List.set_cons_succ]
  refine wpAnyH_take (i := 3) (v := .pointer (some ⟨q, 1, none⟩)) rfl (by kernel_rfl) (by kernel_rfl) (by kernel_rfl) (fun _ _ _ h => h) (Or.inl ⟨by rfl, fun w' hs => by go_simp⟩) D11.out ?_
  change wpAnyH _ _ _ _ _ _ _ (Act.put _ (some 75) _) _
  simp only [Act.put, List.setIfInBounds_toArray, List.set_cons_zero, List.set_cons_succ]
  refine wpAnyH_take (i := 4) (v := .int .i64 H.pc) rfl (by kernel_rfl) (by kernel_rfl) (by kernel_rfl) (fun _ _ _ h => h) (Or.inl ⟨by rfl, fun w' hs => by have hc := cq1.out w' hs; go_simp⟩) D11.out ?_
  change wpAnyH _ _ _ _ _ _ _ (Act.put _ (some 76) _) _
  simp only [Act.put, List.setIfInBounds_toArray, List.set_cons_zero, List.set_cons_succ]
  refine wpAnyH_take (i := 5) (v := .bool true) rfl (by kernel_rfl) (by kernel_rfl) (by kernel_rfl) (fun _ _ _ h => h) (Or.inl ⟨by rfl, fun w' hs => by go_simp⟩) D11.out ?_
  change wpAnyH _ _ _ _ _ _ _ (Act.put _ (some 77) _) _
  simp only [Act.put, List.setIfInBounds_toArray, List.set_cons_zero, List.set_cons_succ]
  refine wpAnyH_take (i := 6) (v := .bool true) rfl (by kernel_rfl) (by kernel_rfl) (by kernel_rfl) (fun _ _ _ h => h) (Or.inl ⟨by rfl, fun w' hs => by go_simp⟩) D11.out ?_
  change wpAnyH _ _ _ _ _ _ _ (Act.put _ (some 78) _) _
  simp only [Act.put, List.setIfInBounds_toArray, List.set_cons_zero, List.set_cons_succ]
  refine wpAnyH_take (i := 7) (v := .pointer (some ⟨u, 1, none⟩)) rfl (by kernel_rfl) (by kernel_rfl) (by kernel_rfl) (fun _ _ _ h => h) (Or.inl ⟨by rfl, fun w' hs => by go_simp⟩) D11.out ?_
  change wpAnyH _ _ _ _ _ _ _ (Act.put _ (some 79) _) _
  simp only [Act.put, List.setIfInBounds_toArray, List.set_cons_zero, List.set_cons_succ]
  refine wpAnyH_take (i := 8) (v := .pointer (some ⟨u, 3, none⟩)) rfl (by kernel_rfl) (by kernel_rfl) (by kernel_rfl) (fun _ _ _ h => h) (Or.inl ⟨by rfl, fun w' hs => by go_simp⟩) D11.out ?_
  change wpAnyH _ _ _ _ _ _ _ (Act.put _ (some 80) _) _
  simp only [Act.put, List.setIfInBounds_toArray, List.set_cons_zero, List.set_cons_succ]
  refine wpAnyH_take (i := 9) (v := .slice (some ⟨ky, 0, none⟩) K.csr.length ck5) rfl (by kernel_rfl) (by kernel_rfl) (by kernel_rfl) (fun _ _ _ h => h) (Or.inl ⟨by rfl, fun w' hs => by have hc := cu3.out w' hs; go_simp⟩) D11.out ?_
  change wpAnyH _ _ _ _ _ _ _ (Act.put _ (some 81) _) _
  simp only [Act.put, List.setIfInBounds_toArray, List.set_cons_zero, List.set_cons_succ]
  refine wpAnyH_take (i := 10) (v := .pointer (some ⟨ky, 0, none⟩)) rfl (by kernel_rfl) (by kernel_rfl) (by kernel_rfl) (fun _ _ _ h => h) (Or.inl ⟨by rfl, fun w' hs => by have h1 := KI0.out; have h2 := KNE.out; go_simp⟩) D11.out ?_
  change wpAnyH _ _ _ _ _ _ _ (Act.put _ (some 82) _) _
  simp only [Act.put, List.setIfInBounds_toArray, List.set_cons_zero, List.set_cons_succ]
  refine wpAnyH_take (i := 11) (v := .int .i64 (2 + z % 2)) rfl (by kernel_rfl) (by kernel_rfl) (by kernel_rfl) (fun _ _ _ h => h) (Or.inl ⟨by rfl, fun w' hs => by have hc := ck0.out w' hs; go_simp⟩) D11.out ?_
  change wpAnyH _ _ _ _ _ _ _ (Act.put _ (some 83) _) _
  simp only [Act.put, List.setIfInBounds_toArray, List.set_cons_zero, List.set_cons_succ]
  refine wpAnyH_take (i := 12) (v := .int .i64 (z % 2)) rfl (by kernel_rfl) (by kernel_rfl) (by kernel_rfl) (fun _ _ _ h => h) (Or.inl ⟨by rfl, fun w' hs => by go_simp⟩) D11.out ?_
  change wpAnyH _ _ _ _ _ _ _ (Act.put _ (some 84) _) _
  simp only [Act.put, List.setIfInBounds_toArray, List.set_cons_zero, List.set_cons_succ]
  refine wpAnyH_take (i := 13) (v := .int .i64 (2 + z % 2)) rfl (by kernel_rfl) (by kernel_rfl) (by kernel_rfl) (fun _ _ _ h => h) (Or.inl ⟨by rfl, fun w' hs => by have hw := HW2.out; go_simp⟩) D11.out ?_
  change wpAnyH _ _ _ _ _ _ _ (Act.put _ (some 85) _) _
  simp only [Act.put, List.setIfInBounds_toArray, List.set_cons_zero, List.set_cons_succ]
  refine wpAnyH_take (i := 14) (v := .bool true) rfl (by kernel_rfl) (by kernel_rfl) (by kernel_rfl) (fun _ _ _ h => h) (Or.inl ⟨by rfl, fun w' hs => by go_simp⟩) D11.out ?_
  change wpAnyH _ _ _ _ _ _ _ (Act.put _ (some 86) _) _
  simp only [Act.put, List.setIfInBounds_toArray, List.set_cons_zero, List.set_cons_succ]
  refine wpAnyH_take (i := 15) (v := .bool true) rfl (by kernel_rfl) (by kernel_rfl) (by kernel_rfl) (fun _ _ _ h => h) (Or.inl ⟨by rfl, fun w' hs => by go_simp⟩) D11.out ?_
  change wpAnyH _ _ _ _ _ _ _ (Act.put _ (some 87) _) _
  simp only [Act.put, List.setIfInBounds_toArray, List.set_cons_zero, List.set_cons_succ]
  refine wpAnyH_take (i := 16) (v := .bool true) rfl (by kernel_rfl) (by kernel_rfl) (by kernel_rfl) (fun _ _ _ h => h) (Or.inl ⟨by rfl, fun w' hs => by go_simp⟩) D11.out ?_
  change wpAnyH _ _ _ _ _ _ _ (Act.put _ (some 88) _) _
  simp only [Act.put, List.setIfInBounds_toArray, List.set_cons_zero, List.set_cons_succ]
  refine wpAnyH_take (i := 17) (v := .pointer (some ⟨u, 1, none⟩)) rfl (by kernel_rfl) (by kernel_rfl) (by kernel_rfl) (fun _ _ _ h => h) (Or.inl ⟨by rfl, fun w' hs => by go_simp⟩) D11.out ?_
  change wpAnyH _ _ _ _ _ _ _ (Act.put _ (some 89) _) _
  simp only [Act.put, List.setIfInBounds_toArray, List.set_cons_zero, List.set_cons_succ]
  refine wpAnyH_take (i := 18) (v := .pointer (some ⟨u, 1, none⟩)) rfl (by kernel_rfl) (by kernel_rfl) (by kernel_rfl) (fun _ _ _ h => h) (Or.inl ⟨by rfl, fun w' hs => by go_simp⟩) D11.out ?_
  change wpAnyH _ _ _ _ _ _ _ (Act.put _ (some 90) _) _
  simp only [Act.put, List.setIfInBounds_toArray, List.set_cons_zero, List.set_cons_succ]
  refine wpAnyH_take (i := 19) (v := .slice ra5 K.regs.length rk5) rfl (by kernel_rfl) (by kernel_rfl) (by kernel_rfl) (fun _ _ _ h => h) (Or.inl ⟨by rfl, fun w' hs => by have hc := cu1.out w' hs; go_simp⟩) D11.out ?_
  change wpAnyH _ _ _ _ _ _ _ (Act.put _ (some 91) _) _
  simp only [Act.put, List.setIfInBounds_toArray, List.set_cons_zero, List.set_cons_succ]
  refine wpAnyH_take (i := 20) (v := .pointer (some ⟨q, 0, none⟩)) rfl (by kernel_rfl) (by kernel_rfl) (by kernel_rfl) (fun _ _ _ h => h) (Or.inl ⟨by rfl, fun w' hs => by go_simp⟩) D11.out ?_
  change wpAnyH _ _ _ _ _ _ _ (Act.put _ (some 92) _) _
  simp only [Act.put, List.setIfInBounds_toArray, List.set_cons_zero, List.set_cons_succ]
  refine wpAnyH_take (i := 21) (v := .slice a0 m0 k0) rfl (by kernel_rfl) (by kernel_rfl) (by kernel_rfl) (fun _ _ _ h => h) (Or.inl ⟨by rfl, fun w' hs => by have hc := cq0.out w' hs; go_simp⟩) D11.out ?_
  change wpAnyH _ _ _ _ _ _ _ (Act.put _ (some 93) _) _
  simp only [Act.put, List.setIfInBounds_toArray, List.set_cons_zero, List.set_cons_succ]
  refine wpAnyH_ready (rs := [22]) (by kernel_rfl) (by simp) ?_
  refine AllReadyH.cons rfl (fun K hK => ?_) AllReadyH.nil
  rw [if_pos (by rfl)]
  go_simp
  refine (CN ⟨d11, D11.out⟩).mono ?_
  rintro e x11w1 ⟨rfl, b8⟩
  have X11S1 : Hid (Below U.heap.size U x11w1) := on D11.out b8
  refine hK.out _ _ X11S1.out (fun _ => ?_)
  clear hK K b8
  refine wpAnyH_take (i := 23) (v := .bool true) rfl (by kernel_rfl) (by kernel_rfl) (by kernel_rfl) (fun _ _ _ h => h) (Or.inl ⟨by rfl, fun w' hs => by go_simp⟩) X11S1.out ?_
  change wpAnyH _ _ _ _ _ _ _ (Act.put _ (some 95) _) _
  simp only [Act.put, List.setIfInBounds_toArray, List.set_cons_zero, List.set_cons_succ]
  refine wpAnyH_take (i := 24) (v := .bool true) rfl (by kernel_rfl) (by kernel_rfl) (by kernel_rfl) (fun _ _ _ h => h) (Or.inl ⟨by rfl, fun w' hs => by go_simp⟩) X11S1.out ?_
  change wpAnyH _ _ _ _ _ _ _ (Act.put _ (some 96) _) _
  simp only [Act.put, List.setIfInBounds_toArray, List.set_cons_zero, List.set_cons_succ]
  refine wpAnyH_take (i := 25) (v := .pointer (some ⟨u, 1, none⟩)) rfl (by kernel_rfl) (by kernel_rfl) (by kernel_rfl) (fun _ _ _ h => h) (Or.inl ⟨by rfl, fun w' hs => by go_simp⟩) X11S1.out ?_
  change wpAnyH _ _ _ _ _ _ _ (Act.put _ (some 97) _) _
  simp only [Act.put, List.setIfInBounds_toArray, List.set_cons_zero, List.set_cons_succ]
  refine wpAnyH_take (i := 26) (v := .pointer (some ⟨u, 7, none⟩)) rfl (by kernel_rfl) (by kernel_rfl) (by kernel_rfl) (fun _ _ _ h => h) (Or.inl ⟨by rfl, fun w' hs => by go_simp⟩) X11S1.out ?_
  change wpAnyH _ _ _ _ _ _ _ (Act.put _ (some 98) _) _
  simp only [Act.put, List.setIfInBounds_toArray, List.set_cons_zero, List.set_cons_succ]
  refine wpAnyH_take (i := 27) (v := .int .i64 H.done) rfl (by kernel_rfl) (by kernel_rfl) (by kernel_rfl) (fun _ _ _ h => h) (Or.inl ⟨by rfl, fun w' hs => by have hc := cu7.out w' hs; go_simp⟩) X11S1.out ?_
  change wpAnyH _ _ _ _ _ _ _ (Act.put _ (some 99) _) _
  simp only [Act.put, List.setIfInBounds_toArray, List.set_cons_zero, List.set_cons_succ]
  refine wpAnyH_take (i := 28) (v := .pointer (some ⟨q, 6, none⟩)) rfl (by kernel_rfl) (by kernel_rfl) (by kernel_rfl) (fun _ _ _ h => h) (Or.inl ⟨by rfl, fun w' hs => by go_simp⟩) X11S1.out ?_
  change wpAnyH _ _ _ _ _ _ _ (Act.put _ (some 100) _) _
  simp only [Act.put, List.setIfInBounds_toArray, List.set_cons_zero, List.set_cons_succ]
  refine wpAnyH_take (i := 29) (v := .int .i64 H.done) rfl (by kernel_rfl) (by kernel_rfl) (by kernel_rfl) (fun _ _ _ h => h) (Or.inl ⟨by rfl, fun w' hs => by have hc := cq6.out w' hs; go_simp⟩) X11S1.out ?_
  change wpAnyH _ _ _ _ _ _ _ (Act.put _ (some 101) _) _
  simp only [Act.put, List.setIfInBounds_toArray, List.set_cons_zero, List.set_cons_succ]
  refine wpAnyH_take (i := 30) (v := .bool true) rfl (by kernel_rfl) (by kernel_rfl) (by kernel_rfl) (fun _ _ _ h => h) (Or.inl ⟨by rfl, fun w' hs => by go_simp⟩) X11S1.out ?_
  change wpAnyH _ _ _ _ _ _ _ (Act.put _ (some 102) _) _
  simp only [Act.put, List.setIfInBounds_toArray, List.set_cons_zero, List.set_cons_succ]
  refine wpAnyH_take (i := 31) (v := .bool true) rfl (by kernel_rfl) (by kernel_rfl) (by kernel_rfl) (fun _ _ _ h => h) (Or.inl ⟨by rfl, fun w' hs => by go_simp⟩) X11S1.out ?_
  change wpAnyH _ _ _ _ _ _ _ (Act.put _ (some 103) _) _
  simp only [Act.put, List.setIfInBounds_toArray, List.set_cons_zero, List.set_cons_succ]
  refine wpAnyH_take (i := 32) (v := .bool true) rfl (by kernel_rfl) (by kernel_rfl) (by kernel_rfl) (fun _ _ _ h => h) (Or.inl ⟨by rfl, fun w' hs => by go_simp⟩) X11S1.out ?_
  change wpAnyH _ _ _ _ _ _ _ (Act.put _ (some 104) _) _
  simp only [Act.put, List.setIfInBounds_toArray, List.set_cons_zero, List.set_cons_succ]
  refine wpAnyH_take (i := 33) (v := .pointer (some ⟨s, 1, none⟩)) rfl (by kernel_rfl) (by kernel_rfl) (by kernel_rfl) (fun _ _ _ h => h) (Or.inl ⟨by rfl, fun w' hs => by go_simp⟩) X11S1.out ?_
  change wpAnyH _ _ _ _ _ _ _ (Act.put _ (some 105) _) _
  simp only [Act.put, List.setIfInBounds_toArray, List.set_cons_zero, List.set_cons_succ]
  refine wpAnyH_take (i := 34) (v := .agg #[.slice ra G.regs.length rk, .int .i64 G.pc, .slice ca G.csr.length ck, .bool G.halted, .bool G.waiting, .bool G.rung, .int .i64 G.done, .slice ia G.inn.length ik, .slice oa G.out.length ok]) rfl (by kernel_rfl) (by kernel_rfl) (by kernel_rfl) (fun _ _ _ h => h) (yieldsIf_load_mid (by rfl) 26 (.tmp 105) rfl s 1 rfl [.slice ra G.regs.length rk, .int .i64 G.pc, .slice ca G.csr.length ck, .bool G.halted, .bool G.waiting, .bool G.rung, .int .i64 G.done, .slice ia G.inn.length ik, .slice oa G.out.length ok] _ RG1.out Tryd.underlying26 rfl (by kernel_rfl)) X11S1.out ?_
  change wpAnyH _ _ _ _ _ _ _ (Act.put _ (some 106) _) _
  simp only [Act.put, List.setIfInBounds_toArray, List.set_cons_zero, List.set_cons_succ]
  refine wpAnyH_take (i := 37) (v := .int .i64 n) rfl (by kernel_rfl) (by kernel_rfl) (by kernel_rfl) (fun _ _ _ h => h) (Or.inl ⟨by rfl, fun w' hs => by go_simp⟩) X11S1.out ?_
  change wpAnyH _ _ _ _ _ _ _ (Act.put _ (some 109) _) _
  simp only [Act.put, List.setIfInBounds_toArray, List.set_cons_zero, List.set_cons_succ]
  refine wpAnyH_ready (rs := [35]) (by kernel_rfl) (by simp) ?_
  refine AllReadyH.cons rfl (fun K hK => ?_) AllReadyH.nil
  rw [if_pos (by rfl)]
  go_simp
  refine (CG3 ⟨x11w1, X11S1.out⟩).mono ?_
  rintro e x11w2 ⟨rfl, b8⟩
  have X11S2 : Hid (Below U.heap.size U x11w2) := on X11S1.out b8
  refine hK.out _ _ X11S2.out (fun _ => ?_)
  clear hK K b8
  refine wpAnyH_take (i := 36) (v := .int .i64 n) rfl (by kernel_rfl) (by kernel_rfl) (by kernel_rfl) (fun _ _ _ h => h) (Or.inl ⟨by rfl, fun w' hs => by have hf := field_int1; go_simp⟩) X11S2.out ?_
  change wpAnyH _ _ _ _ _ _ _ (Act.put _ (some 108) _) _
  simp only [Act.put, List.setIfInBounds_toArray, List.set_cons_zero, List.set_cons_succ]
  refine wpAnyH_take (i := 38) (v := .bool true) rfl (by kernel_rfl) (by kernel_rfl) (by kernel_rfl) (fun _ _ _ h => h) (Or.inl ⟨by rfl, fun w' hs => by go_simp⟩) X11S2.out ?_
  change wpAnyH _ _ _ _ _ _ _ (Act.put _ (some 110) _) _
  simp only [Act.put, List.setIfInBounds_toArray, List.set_cons_zero, List.set_cons_succ]
  refine wpAnyH_take (i := 39) (v := .bool true) rfl (by kernel_rfl) (by kernel_rfl) (by kernel_rfl) (fun _ _ _ h => h) (Or.inl ⟨by rfl, fun w' hs => by go_simp⟩) X11S2.out ?_
  change wpAnyH _ _ _ _ _ _ _ (Act.put _ (some 111) _) _
  simp only [Act.put, List.setIfInBounds_toArray, List.set_cons_zero, List.set_cons_succ]
  refine wpAnyH_take (i := 40) (v := .bool true) rfl (by kernel_rfl) (by kernel_rfl) (by kernel_rfl) (fun _ _ _ h => h) (Or.inl ⟨by rfl, fun w' hs => by go_simp⟩) X11S2.out ?_
  change wpAnyH _ _ _ _ _ _ _ (Act.put _ (some 112) _) _
  simp only [Act.put, List.setIfInBounds_toArray, List.set_cons_zero, List.set_cons_succ]
  refine wpAnyH_take (i := 41) (v := .pointer (some ⟨s, 1, none⟩)) rfl (by kernel_rfl) (by kernel_rfl) (by kernel_rfl) (fun _ _ _ h => h) (Or.inl ⟨by rfl, fun w' hs => by go_simp⟩) X11S2.out ?_
  change wpAnyH _ _ _ _ _ _ _ (Act.put _ (some 113) _) _
  simp only [Act.put, List.setIfInBounds_toArray, List.set_cons_zero, List.set_cons_succ]
  refine wpAnyH_take (i := 42) (v := .agg #[.slice ra G.regs.length rk, .int .i64 G.pc, .slice ca G.csr.length ck, .bool G.halted, .bool G.waiting, .bool G.rung, .int .i64 G.done, .slice ia G.inn.length ik, .slice oa G.out.length ok]) rfl (by kernel_rfl) (by kernel_rfl) (by kernel_rfl) (fun _ _ _ h => h) (yieldsIf_load_mid (by rfl) 26 (.tmp 113) rfl s 1 rfl [.slice ra G.regs.length rk, .int .i64 G.pc, .slice ca G.csr.length ck, .bool G.halted, .bool G.waiting, .bool G.rung, .int .i64 G.done, .slice ia G.inn.length ik, .slice oa G.out.length ok] _ RG1.out Tryd.underlying26 rfl (by kernel_rfl)) X11S2.out ?_
  change wpAnyH _ _ _ _ _ _ _ (Act.put _ (some 114) _) _
  simp only [Act.put, List.setIfInBounds_toArray, List.set_cons_zero, List.set_cons_succ]
  refine wpAnyH_take (i := 45) (v := .pointer (some ⟨q, 1, none⟩)) rfl (by kernel_rfl) (by kernel_rfl) (by kernel_rfl) (fun _ _ _ h => h) (Or.inl ⟨by rfl, fun w' hs => by go_simp⟩) X11S2.out ?_
  change wpAnyH _ _ _ _ _ _ _ (Act.put _ (some 117) _) _
  simp only [Act.put, List.setIfInBounds_toArray, List.set_cons_zero, List.set_cons_succ]
  refine wpAnyH_take (i := 46) (v := .int .i64 H.pc) rfl (by kernel_rfl) (by kernel_rfl) (by kernel_rfl) (fun _ _ _ h => h) (Or.inl ⟨by rfl, fun w' hs => by have hc := cq1.out w' hs; go_simp⟩) X11S2.out ?_
  change wpAnyH _ _ _ _ _ _ _ (Act.put _ (some 118) _) _
  simp only [Act.put, List.setIfInBounds_toArray, List.set_cons_zero, List.set_cons_succ]
  refine wpAnyH_ready (rs := [43]) (by kernel_rfl) (by simp) ?_
  refine AllReadyH.cons rfl (fun K hK => ?_) AllReadyH.nil
  rw [if_pos (by rfl)]
  go_simp
  refine (CG2 ⟨x11w2, X11S2.out⟩).mono ?_
  rintro e x11w3 ⟨rfl, b8⟩
  have X11S3 : Hid (Below U.heap.size U x11w3) := on X11S2.out b8
  refine hK.out _ _ X11S3.out (fun _ => ?_)
  clear hK K b8
  refine wpAnyH_take (i := 44) (v := .int .i64 H.pc) rfl (by kernel_rfl) (by kernel_rfl) (by kernel_rfl) (fun _ _ _ h => h) (Or.inl ⟨by rfl, fun w' hs => by have hf := field_int1; go_simp⟩) X11S3.out ?_
  change wpAnyH _ _ _ _ _ _ _ (Act.put _ (some 116) _) _
  simp only [Act.put, List.setIfInBounds_toArray, List.set_cons_zero, List.set_cons_succ]
  refine wpAnyH_take (i := 47) (v := .bool true) rfl (by kernel_rfl) (by kernel_rfl) (by kernel_rfl) (fun _ _ _ h => h) (Or.inl ⟨by rfl, fun w' hs => by go_simp⟩) X11S3.out ?_
  change wpAnyH _ _ _ _ _ _ _ (Act.put _ (some 119) _) _
  simp only [Act.put, List.setIfInBounds_toArray, List.set_cons_zero, List.set_cons_succ]
  refine wpAnyH_take (i := 48) (v := .bool true) rfl (by kernel_rfl) (by kernel_rfl) (by kernel_rfl) (fun _ _ _ h => h) (Or.inl ⟨by rfl, fun w' hs => by go_simp⟩) X11S3.out ?_
  change wpAnyH _ _ _ _ _ _ _ (Act.put _ (some 120) _) _
  simp only [Act.put, List.setIfInBounds_toArray, List.set_cons_zero, List.set_cons_succ]
  refine wpAnyH_take (i := 49) (v := .bool true) rfl (by kernel_rfl) (by kernel_rfl) (by kernel_rfl) (fun _ _ _ h => h) (Or.inl ⟨by rfl, fun w' hs => by go_simp⟩) X11S3.out ?_
  change wpAnyH _ _ _ _ _ _ _ (Act.put _ (some 121) _) _
  simp only [Act.put, List.setIfInBounds_toArray, List.set_cons_zero, List.set_cons_succ]
  refine wpAnyH_take (i := 50) (v := .pointer (some ⟨s, 1, none⟩)) rfl (by kernel_rfl) (by kernel_rfl) (by kernel_rfl) (fun _ _ _ h => h) (Or.inl ⟨by rfl, fun w' hs => by go_simp⟩) X11S3.out ?_
  change wpAnyH _ _ _ _ _ _ _ (Act.put _ (some 122) _) _
  simp only [Act.put, List.setIfInBounds_toArray, List.set_cons_zero, List.set_cons_succ]
  refine wpAnyH_take (i := 51) (v := .pointer (some ⟨s, 5, none⟩)) rfl (by kernel_rfl) (by kernel_rfl) (by kernel_rfl) (fun _ _ _ h => h) (Or.inl ⟨by rfl, fun w' hs => by go_simp⟩) X11S3.out ?_
  change wpAnyH _ _ _ _ _ _ _ (Act.put _ (some 123) _) _
  simp only [Act.put, List.setIfInBounds_toArray, List.set_cons_zero, List.set_cons_succ]
  refine wpAnyH_take (i := 52) (v := .bool false) rfl (by kernel_rfl) (by kernel_rfl) (by kernel_rfl) (fun _ _ _ h => h) (Or.inl ⟨by rfl, fun w' hs => by have hc := cs5.out w' hs; go_simp⟩) X11S3.out ?_
  change wpAnyH _ _ _ _ _ _ _ (Act.put _ (some 124) _) _
  simp only [Act.put, List.setIfInBounds_toArray, List.set_cons_zero, List.set_cons_succ]
  refine wpAnyH_take (i := 53) (v := .bool true) rfl (by kernel_rfl) (by kernel_rfl) (by kernel_rfl) (fun _ _ _ h => h) (Or.inl ⟨by rfl, fun w' hs => by go_simp⟩) X11S3.out ?_
  change wpAnyH _ _ _ _ _ _ _ (Act.put _ (some 125) _) _
  simp only [Act.put, List.setIfInBounds_toArray, List.set_cons_zero, List.set_cons_succ]
  refine wpAnyH_take (i := 54) (v := .bool true) rfl (by kernel_rfl) (by kernel_rfl) (by kernel_rfl) (fun _ _ _ h => h) (Or.inl ⟨by rfl, fun w' hs => by go_simp⟩) X11S3.out ?_
  change wpAnyH _ _ _ _ _ _ _ (Act.put _ (some 126) _) _
  simp only [Act.put, List.setIfInBounds_toArray, List.set_cons_zero, List.set_cons_succ]
  refine wpAnyH_take (i := 55) (v := .bool true) rfl (by kernel_rfl) (by kernel_rfl) (by kernel_rfl) (fun _ _ _ h => h) (Or.inl ⟨by rfl, fun w' hs => by go_simp⟩) X11S3.out ?_
  change wpAnyH _ _ _ _ _ _ _ (Act.put _ (some 2) _) _
  simp only [Act.put, List.setIfInBounds_toArray, List.set_cons_zero, List.set_cons_succ]
  refine wpAnyH_done (by kernel_rfl) ?_ _
  go_wp2_with fail
  go_ret
  exact ⟨rfl, on B5.out X11S3.out⟩

theorem gTab : Tryd.prog.globalNamed "math/bits.deBruijn64tab" = some 0 := by kernel_rfl
theorem gTabType : (Tryd.prog.globals[0]?).map (·.type) = some 85 := by kernel_rfl
theorem table {W : World} (h : laidMetH Tryd.prog Rows.fnTrapsRow.laid W) : Tab W := by
  have h' : laidMet Tryd.prog Rows.fnTrapsRow.laid W := h
  have t : Lib.TabIs Tryd.prog W "math/bits.deBruijn64tab" .u8 [0, 1, 56, 2, 57, 49, 28, 3, 61, 58, 42, 50, 38, 29, 17, 4, 62, 47, 59, 36, 45, 43, 51, 22, 53, 39, 33, 30, 24, 18, 12, 5, 63, 55, 48, 27, 60, 41, 37, 16, 46, 35, 44, 21, 52, 32, 23, 11, 54, 26, 40, 15, 34, 20, 31, 10, 25, 14, 19, 9, 13, 8, 7, 6] := Lib.tabIs_of_head (rest := []) gTab gTabType Tryd.underlying85 (by kernel_rfl) (by kernel_rfl) (by kernel_rfl) h'
  unfold Lib.TabIs at t
  exact ⟨by simpa using World.var?_cell gTab t 0, by simpa using World.var?_cell gTab t 1, by simpa using World.var?_cell gTab t 3⟩

set_option maxRecDepth 100000 in
theorem contract (H : Type) (enc : TypeId × Value → H) (W : World) (base : Nat) (args : Array Value) (ds gs : List (DataW H)) (before : List MemPlace)
    (hval0 : ∀ (j : Nat) t v, Tryd.f3.params[j]? = some t → args[j]? = some v → Value.okWide Tryd.prog W .any base t v)
    (hW : DataW.Whole enc Tryd.prog Tryd.f3.params.toList Rows.fnTrapsSpec.vars false W args.toList ds gs before) (hL : laidMetH Tryd.prog Rows.fnTrapsRow.laid W) :
    Calls Tryd.prog 3 args W fun e W' => ∃ v, e = .returned v ∧ Rows.fnTrapsSpec.post enc Tryd.prog Tryd.f3 false true false false W args v W' := by
  have hval : ∀ (j : Nat) t v, Tryd.f3.params[j]? = some t → args[j]? = some v → Value.okWide Tryd.prog W .any base t v := hval0
  have hW' := hW
  obtain ⟨p, q, hA0, hV, rfl, hfz, hnd⟩ := hW
  have hA : DataW.TrodAll enc Tryd.prog W 0 (fun _ => true) true Tryd.f3.params.toList args.toList ds p := hA0
  rw [Tryd.params3] at hA hval
  obtain ⟨v0, vs0, d0, ds0, p0, q0, hargs, rfl, rfl, h0, r0⟩ := trodAll_cons hA
  obtain ⟨rfl, rfl, rfl⟩ := trodAll_nil r0
  obtain rfl : args = #[v0] := by cases args; simp_all
  obtain ⟨rfl, rfl⟩ := trodVars_none hV
  obtain ⟨a0, len0, cap0, rfl⟩ := okWide_slice Tryd.underlying22 (hval 0 22 v0 rfl rfl)
  have k0 := h0
  have lt0 : ∀ x ∈ p0, x.block < W.heap.size := by obtain ⟨m, hm⟩ := k0; exact DataW.trod_lt m _ _ _ hm
  obtain ⟨z0, w0⟩ : ∃ zs, IsRow .u8 W a0 len0 cap0 zs := by
    obtain ⟨fuel, hf⟩ := h0
    rcases open_ints Tryd.underlying22 Tryd.underlying5 (by kernel_rfl) hf with ⟨hcs, _⟩ | ⟨x, l, c, zs, hcs, _, hl, hm, hz, _, hcell, hwz⟩
    · simp [Value.cells] at hcs
      obtain ⟨rfl, rfl, rfl⟩ := hcs
      exact ⟨[], .inl ⟨rfl, rfl, rfl, rfl⟩⟩
    · simp [Value.cells] at hcs
      obtain ⟨rfl, rfl, rfl⟩ := hcs
      exact ⟨_, IsRow.of_all hl hm (by simpa using hz) hcell hwz⟩
  clear hA0 hval0
  refine (walk a0 len0 cap0 z0 W w0 (table hL)).mono fun e W' ⟨he, bel⟩ => ?_
  subst he
  exact ⟨_, rfl, _, _, _, [], _, [], hW', trodAll_mk1 (shut_bool Tryd.underlying4 _), (trodAll_cons_mk (Below.trod laidOut (by kernel_rfl) (of_decide_eq_true (by kernel_rfl)) k0 bel lt0) trodAll_mk0), rfl, bel.frame _, fun h => by cases h⟩

theorem laid_met (os : Os) : laidMet Tryd.prog Rows.fnTrapsRow.laid (({ World.holding Tryd.prog os ⟨#[], #[], []⟩ with heap := ((World.holding Tryd.prog os ⟨#[], #[], []⟩).heap.modify 0 fun
      | .cells _ t frozen => .cells #[.int .u8 0, .int .u8 1, .int .u8 56, .int .u8 2, .int .u8 57, .int .u8 49, .int .u8 28, .int .u8 3, .int .u8 61, .int .u8 58, .int .u8 42, .int .u8 50, .int .u8 38, .int .u8 29, .int .u8 17, .int .u8 4, .int .u8 62, .int .u8 47, .int .u8 59, .int .u8 36, .int .u8 45, .int .u8 43, .int .u8 51, .int .u8 22, .int .u8 53, .int .u8 39, .int .u8 33, .int .u8 30, .int .u8 24, .int .u8 18, .int .u8 12, .int .u8 5, .int .u8 63, .int .u8 55, .int .u8 48, .int .u8 27, .int .u8 60, .int .u8 41, .int .u8 37, .int .u8 16, .int .u8 46, .int .u8 35, .int .u8 44, .int .u8 21, .int .u8 52, .int .u8 32, .int .u8 23, .int .u8 11, .int .u8 54, .int .u8 26, .int .u8 40, .int .u8 15, .int .u8 34, .int .u8 20, .int .u8 31, .int .u8 10, .int .u8 25, .int .u8 14, .int .u8 19, .int .u8 9, .int .u8 13, .int .u8 8, .int .u8 7, .int .u8 6] t frozen
      | o => o) } : World).forCall (fun _ _ => 0) ⟨#[], #[.slice none 0 0], []⟩).memory :=
  laidMet_of_run' 200 (by kernel_rfl) (by kernel_rfl)
theorem reads (os : Os) {H : Type} (enc : TypeId × Value → H) : ∃ places, DataW.whole enc Tryd.prog (({ World.holding Tryd.prog os ⟨#[], #[], []⟩ with heap := ((World.holding Tryd.prog os ⟨#[], #[], []⟩).heap.modify 0 fun
      | .cells _ t frozen => .cells #[.int .u8 0, .int .u8 1, .int .u8 56, .int .u8 2, .int .u8 57, .int .u8 49, .int .u8 28, .int .u8 3, .int .u8 61, .int .u8 58, .int .u8 42, .int .u8 50, .int .u8 38, .int .u8 29, .int .u8 17, .int .u8 4, .int .u8 62, .int .u8 47, .int .u8 59, .int .u8 36, .int .u8 45, .int .u8 43, .int .u8 51, .int .u8 22, .int .u8 53, .int .u8 39, .int .u8 33, .int .u8 30, .int .u8 24, .int .u8 18, .int .u8 12, .int .u8 5, .int .u8 63, .int .u8 55, .int .u8 48, .int .u8 27, .int .u8 60, .int .u8 41, .int .u8 37, .int .u8 16, .int .u8 46, .int .u8 35, .int .u8 44, .int .u8 21, .int .u8 52, .int .u8 32, .int .u8 23, .int .u8 11, .int .u8 54, .int .u8 26, .int .u8 40, .int .u8 15, .int .u8 34, .int .u8 20, .int .u8 31, .int .u8 10, .int .u8 25, .int .u8 14, .int .u8 19, .int .u8 9, .int .u8 13, .int .u8 8, .int .u8 7, .int .u8 6] t frozen
      | o => o) } : World).forCall (fun _ _ => 0) ⟨#[], #[.slice none 0 0], []⟩).memory Tryd.f3.params.toList Rows.fnTrapsSpec.vars false (#[.slice none 0 0] : Array Value).toList 8 = some ([.nil], [], places) :=
  ⟨[], by kernel_rfl⟩
set_option maxRecDepth 100000 in
theorem lifted (os : Os) (started : os.Started) (H : Type) (enc : TypeId × Value → H) (F : Stop.Interp) :
    ReturnsInHanded {} Tryd.checked os 3 .any ((OpenSpec.ofChange Rows.fnTrapsSpec).preRow enc Tryd.prog Tryd.f3 Rows.fnTrapsRow.domain false Rows.fnTrapsRow.laid) (((OpenSpec.ofChange Rows.fnTrapsSpec).at F).post enc Tryd.prog Tryd.f3 false true false false) := by
  obtain ⟨places, hx⟩ := reads os enc
  refine returnsInHanded_of_row (C := Tryd.checked) (s := OpenSpec.ofChange Rows.fnTrapsSpec) own started (by kernel_rfl) Tryd.func3
    (witness_row_at (enc := enc) (C := Tryd.checked) false ({ World.holding Tryd.prog os ⟨#[], #[], []⟩ with heap := ((World.holding Tryd.prog os ⟨#[], #[], []⟩).heap.modify 0 fun
      | .cells _ t frozen => .cells #[.int .u8 0, .int .u8 1, .int .u8 56, .int .u8 2, .int .u8 57, .int .u8 49, .int .u8 28, .int .u8 3, .int .u8 61, .int .u8 58, .int .u8 42, .int .u8 50, .int .u8 38, .int .u8 29, .int .u8 17, .int .u8 4, .int .u8 62, .int .u8 47, .int .u8 59, .int .u8 36, .int .u8 45, .int .u8 43, .int .u8 51, .int .u8 22, .int .u8 53, .int .u8 39, .int .u8 33, .int .u8 30, .int .u8 24, .int .u8 18, .int .u8 12, .int .u8 5, .int .u8 63, .int .u8 55, .int .u8 48, .int .u8 27, .int .u8 60, .int .u8 41, .int .u8 37, .int .u8 16, .int .u8 46, .int .u8 35, .int .u8 44, .int .u8 21, .int .u8 52, .int .u8 32, .int .u8 23, .int .u8 11, .int .u8 54, .int .u8 26, .int .u8 40, .int .u8 15, .int .u8 34, .int .u8 20, .int .u8 31, .int .u8 10, .int .u8 25, .int .u8 14, .int .u8 19, .int .u8 9, .int .u8 13, .int .u8 8, .int .u8 7, .int .u8 6] t frozen
      | o => o) } : World) #[.slice none 0 0] rfl (by kernel_rfl) (by kernel_rfl) (by kernel_rfl)
      (OpenSpec.preRow_of_cond 8 hx (by kernel_rfl) (fun k hk => by cases hk) (by kernel_rfl) (laid_met os))) ?_
  intro W base args ds gs before hval hW _ _ _ hL _ _
  exact contract H enc W base args ds gs before hval hW hL

theorem said : Rows.FnTrapsSaid :=
  OpenClaim.holds_of_cond 3 Tryd.f3 rfl rfl rfl rfl rfl rfl rfl ⟨rfl, rfl, rfl, rfl, rfl⟩ rfl rfl rfl rfl rfl (by kernel_rfl) Tryd.func3 (by kernel_rfl)
    (of_decide_eq_true (by kernel_rfl)) (by unfold Func.isWrapper; first | (rw [if_pos (by decide +kernel)]; kernel_rfl) | (rw [if_neg (by decide +kernel)]; exact ⟨rfl, rfl⟩))
    (fun os started H enc _ F => by rw [OpenClaim.pre_eq_preRow]; exact lifted os started H enc F)
theorem plain (f : FuncId) (fn : Func) (hf : Tryd.pinned.checked.prog.funcNamed "loop.example/g00213/laws.FnTraps" = some f) (hfn : Tryd.pinned.checked.prog.funcs[f]? = some fn) :
    false = Tryd.pinned.checked.prog.looks [] ∧ ∀ (j : Nat) t, fn.params[j]? = some t → Tryd.pinned.checked.prog.wantsStandIn t = false := by
  obtain rfl : f = 3 := Option.some.inj ((show Tryd.prog.funcNamed "loop.example/g00213/laws.FnTraps" = some 3 by kernel_rfl).symm.trans hf) |>.symm
  obtain rfl : fn = Tryd.f3 := (Option.some.inj (Tryd.func3.symm.trans hfn)).symm
  refine ⟨by kernel_rfl, fun j t ht => ?_⟩
  rw [Tryd.params3] at ht
  obtain rfl : t = 22 := by simpa using Array.mem_of_getElem? ht
  exact (show Tryd.prog.wantsStandIn 22 = false by kernel_rfl)
theorem proved : Rows.FnTrapsCardSaid :=
  Claim7.holds_tied_plain_at .later [] _ _ _ _ said (fun _ h => by cases h) (by kernel_rfl) (fun _ h => by cases h) fnTraps_row_tie rfl ⟨rfl, rfl⟩ (by kernel_rfl) rfl plain (by kernel_rfl)
end Go.Proofs.YtaajaikpkcgalaaDoor.fnTrapsDone
