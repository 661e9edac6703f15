/- The law FnDevices answers true at every input, and each argument reads behind the call as it read ahead of it; no condition. -/
import Derived.Test.YteaccakodaidpaaBase
import Derived.Test.YteaccakodaidpaaHdk
import Derived.Test.YteaccakodaidpaaHdn
import Derived.Test.YteaccakodaidpaaHdw
import Derived.Deep.RegionWith
import Derived.Deep.Cut
import Derived.Deep.CutRange
import Derived.Test.YteaccakodaidpaaHob
import Derived.Test.YteaccakodaidpaaHst
import Derived.Test.YteaccakodaidpaaHdc
import Derived.Test.YteaccakodaidpaaHsh
import Derived.Test.YteaccakodaidpaaHvf
import Derived.Deep.QuietTactic
import Derived.Test.YteaccakodaidpaaHdv
import Derived.Test.YteaccakodaidpaaHfi
namespace Go.Proofs.Yteaccakodaidpaa
open Go.RowKit
set_option linter.unusedVariables false

set_option maxRecDepth 20000 in
set_option maxHeartbeats 8000000 in
theorem i_pendingOf (r c i o : Value) (H : Ht) (b : Nat) (w : World) (h : Hm w b r c i o H) :
    Calls Try.prog 24 #[.agg #[r, .int .i64 H.pc, c, .bool H.halted, .bool H.waiting, .bool H.rung, .int .i64 H.done, i, o]] w fun e w' => e = .returned (.agg #[.int .i64 (pendR H).1, .int .i64 (pendR H).2]) ∧ Below w.heap.size w w' := by
  have HM : Hid (Hm w b r c i o H) := h
  obtain ⟨a0, k0, rfl, _⟩ := h.r.shape
  obtain ⟨a1, k1, rfl, _⟩ := h.c.shape
  obtain ⟨a2, k2, rfl, _⟩ := h.i.shape
  obtain ⟨a3, k3, rfl, _⟩ := h.o.shape
  clear h
  generalize hW : (w.alloc (.cells #[.slice a0 H.regs.length k0, .int .i64 H.pc, .slice a1 H.csr.length k1, .bool H.halted, .bool H.waiting, .bool H.rung, .int .i64 H.done, .slice a2 H.inn.length k2, .slice a3 H.out.length k3] 39)).alloc (.cells #[.int .i64 0, .int .i64 0] 33) = W
  have B0 : Hid (Below w.heap.size w W) := by show Below _ _ _; rw [← hW]; exact al (al (Below.refl _ _) _) _
  obtain ⟨s, hS⟩ : ∃ s, w.heap.size = s := ⟨_, rfl⟩
  have HS : Hid (w.heap.size = s) := hS
  have VA : Hid (Vb W s #[.slice a0 H.regs.length k0, .int .i64 H.pc, .slice a1 H.csr.length k1, .bool H.halted, .bool H.waiting, .bool H.rung, .int .i64 H.done, .slice a2 H.inn.length k2, .slice a3 H.out.length k3] 39) := by
    show Vb _ _ _ _; rw [← hW, ← hS]; exact (Vb.new _ _ _).push _
  have VR : Hid (Vb W (s + 1) #[.int .i64 0, .int .i64 0] 33) := by
    have z1 : s + 1 = (w.alloc (.cells #[.slice a0 H.regs.length k0, .int .i64 H.pc, .slice a1 H.csr.length k1, .bool H.halted, .bool H.waiting, .bool H.rung, .int .i64 H.done, .slice a2 H.inn.length k2, .slice a3 H.out.length k3] 39)).heap.size := by rw [← hS]; simp
    show Vb _ _ _ _; rw [← hW, z1]; exact Vb.new _ _ _
  have q0 := VA.out.cell 0 rfl
  have q1 := VA.out.cell 1 rfl
  have q2 := VA.out.cell 2 rfl
  have q3 := VA.out.cell 3 rfl
  have q4 := VA.out.cell 4 rfl
  have q5 := VA.out.cell 5 rfl
  have q6 := VA.out.cell 6 rfl
  have q7 := VA.out.cell 7 rfl
  have q8 := VA.out.cell 8 rfl
  go_enter Try.func24, Try.ntmps24
  go_wp2_with fail
  clear hW hS q0 q1 q2 q3 q4 q5 q6 q7 q8
  refine (i_fault _ _ _ _ H _ _ (HM.out.keep B0.out)).mono ?_
  rintro e w1 ⟨rfl, b1⟩
  have B1 : Hid (Below w.heap.size w w1) := on B0.out b1
  have VA1 : Hid (Vb w1 s #[.slice a0 H.regs.length k0, .int .i64 H.pc, .slice a1 H.csr.length k1, .bool H.halted, .bool H.waiting, .bool H.rung, .int .i64 H.done, .slice a2 H.inn.length k2, .slice a3 H.out.length k3] 39) := VA.out.keep b1
  have VR1 : Hid (Vb w1 (s + 1) #[.int .i64 0, .int .i64 0] 33) := VR.out.keep b1
  have M1 : Hid (Hm w1 b _ _ _ _ H) := HM.out.keep B1.out
  clear b1 VA VR
  by_cases hf : hfV H = 0
  case neg =>
    have E1 : (pendR H).1 = hfV H := by simp only [pendR, if_neg hf]
    have E2 : (pendR H).2 = 0 := by simp only [pendR, if_neg hf]
    have HE1 : Hid ((pendR H).1 = hfV H) := E1
    have HE2 : Hid ((pendR H).2 = 0) := E2
    clear E1 E2
    generalize hfV H = f at *
    have p0 := VR1.out.cell 0 rfl
    have f0 := VR1.out.free 0
    have p1 := VR1.out.cell 1 rfl
    have f1 := VR1.out.free 1
    go_wp2_with fail
    have NN : Hid (_ ∧ _) := two VR1.out (.int .i64 f) (.int .i64 0)
    clear p0 f0 p1 f1
    generalize ((w1.setCell ⟨s + 1, 0, none⟩ (.int .i64 f)).setCell ⟨s + 1, 1, none⟩ (.int .i64 0)) = V at *
    have x0 := NN.out.1.cell 0 rfl
    have x1 := NN.out.1.cell 1 rfl
    exact bodyPost_ret (v := .agg #[.int .i64 f, .int .i64 0]) (by simp [results, Try.results24, go_sem, x0, x1]) rfl
      ⟨by rw [HE1.out, HE2.out], Mq.under B1.out NN.out.2 fun k e => by have := HS.out; omega⟩
  have K : Hid (Hok H) := hok_of hf
  have HF : Hid (hfV H = 0) := hf
  rw [hf]
  have HE1 : Hid ((pendR H).1 = 0) := by show _ = _; simp [pendR, hf]
  have HE2 : Hid ((pendR H).2 = pendV H) := by show _ = _; simp [pendR, hf]
  have q0 := VA1.out.cell 0 rfl
  have q1 := VA1.out.cell 1 rfl
  have q2 := VA1.out.cell 2 rfl
  have q3 := VA1.out.cell 3 rfl
  have q4 := VA1.out.cell 4 rfl
  have q5 := VA1.out.cell 5 rfl
  have q6 := VA1.out.cell 6 rfl
  have q7 := VA1.out.cell 7 rfl
  have q8 := VA1.out.cell 8 rfl
  go_wp2_with fail
  clear q0 q1 q2 q3 q4 q5 q6 q7 q8
  refine (i_machine _ _ _ _ H _ _ M1.out K.out.r16 K.out.c11 (by have := K.out.i40; omega) (by have := K.out.o40; omega)).mono ?_
  rintro e w2 ⟨i2, o2, rfl, mi, mo, ap, b2⟩
  obtain ⟨xa, xk, rfl, _⟩ := mi.shape
  obtain ⟨ya, yk, rfl, _⟩ := mo.shape
  generalize hxn : H.inn.length = xn at *
  generalize hyn : H.out.length = yn at *
  have hst := mca_store H xa xn xk ya yn yk w2
  have hsz := mca_size H (.slice xa xn xk) (.slice ya yn yk)
  have MI : Hid (Nums w2 w1.heap.size (.slice xa xn xk) H.inn) := mi
  have B2 : Hid (Below w.heap.size w w2) := on B1.out b2
  have VR2 : Hid (Vb w2 (s + 1) #[.int .i64 0, .int .i64 0] 33) := VR1.out.keep b2
  clear mi mo ap b2 hxn hyn
  go_wp2_with fail
  generalize hW3 : w2.alloc (.cells (mca H (.slice xa xn xk) (.slice ya yn yk)) 103) = W3
  have V3 : Hid (Vb W3 w2.heap.size (mca H (.slice xa xn xk) (.slice ya yn yk)) 103) := by show Vb _ _ _ _; rw [← hW3]; exact Vb.new _ _ _
  have B3 : Hid (Below w.heap.size w W3) := by show Below _ _ _; rw [← hW3]; exact al B2.out _
  have VR3 : Hid (Vb W3 (s + 1) #[.int .i64 0, .int .i64 0] 33) := by show Vb _ _ _ _; rw [← hW3]; exact VR2.out.push _
  have MI3 : Hid (Nums W3 w1.heap.size (.slice xa xn xk) H.inn) := by show Nums _ _ _ _; rw [← hW3]; exact MI.out.keep (al (Below.refl _ _) _)
  clear hst hsz hW3
  refine (i_pending _ _ _ H _ _ V3.out MI3.out).mono ?_
  rintro e w4 ⟨rfl, rfl⟩
  obtain ⟨g, hg⟩ : ∃ g, pendV H = g := ⟨_, rfl⟩
  rw [hg]
  have HE3 : Hid ((pendR H).2 = g) := HE2.out.trans hg
  clear hg
  have p0 := VR3.out.cell 0 rfl
  have f0 := VR3.out.free 0
  have p1 := VR3.out.cell 1 rfl
  have f1 := VR3.out.free 1
  go_wp2_with fail
  have NN : Hid (_ ∧ _) := two VR3.out (.int .i64 0) (.int .i64 g)
  clear p0 f0 p1 f1
  generalize ((w4.setCell ⟨s + 1, 0, none⟩ (.int .i64 0)).setCell ⟨s + 1, 1, none⟩ (.int .i64 g)) = V at *
  have x0 := NN.out.1.cell 0 rfl
  have x1 := NN.out.1.cell 1 rfl
  exact bodyPost_ret (v := .agg #[.int .i64 0, .int .i64 g]) (by simp [results, Try.results24, go_sem, x0, x1]) rfl
    ⟨by rw [HE1.out, HE3.out], Mq.under B3.out NN.out.2 fun k e => by have := HS.out; omega⟩

end Go.Proofs.Yteaccakodaidpaa
namespace Go.Proofs.Yteaccakodaidpaa
open Go.RowKit
set_option linter.unusedVariables false

theorem st_three {H : Ht} (K : Hok H) : gt H.csr 0 ≤ 3 := by
  have := K.st
  simp only [standC, Bool.and_eq_true, decide_eq_true_eq] at this
  exact this.1.1.1.1

end Go.Proofs.Yteaccakodaidpaa
namespace Go.Proofs.Yteaccakodaidpaa
open Go.RowKit
set_option linter.unusedVariables false

/-- A world that keeps what was there in W. -/
structure BW (W : World) where
  w : World
  h : Below W.heap.size W w
theorem region_bw {id : Nat} {Q : Exit → Act → World → Prop} {a : Act} {W : World} {l : List Oper} (hB : Region.lexB .any l.toArray = true)
    (h : wpQuiet Try.prog l.toArray (fun w' => ∃ p : BW W, w' = p.w) (fun a' => ∀ w', (∃ p : BW W, w' = p.w) → Q .normal a' w') l a) : (Code.region id l.toArray true).wp Try.prog Q a W :=
  wp_region_quiet (C := fun w' => ∃ p : BW W, w' = p.w) (by kernel_rfl) hB ⟨⟨{ W with drawn := W.drawn + 1 }, (Below.refl _ _).drew⟩, rfl⟩ (by simpa using h)
theorem calls_bw {f : FuncId} {args : Array Value} {W : World} {p : BW W} {v : Value}
    (h : Calls Try.prog f args p.w fun e w' => e = .returned v ∧ Below p.w.heap.size p.w w') : Calls Try.prog f args p.w fun e w'' => e = .returned v ∧ ∃ q : BW W, w'' = q.w :=
  h.mono fun _ w' ⟨he, hb⟩ => ⟨he, ⟨w', on p.h hb⟩, rfl⟩
theorem BW.cell {W : World} {a : Addr} {v : Value} (h : W.cell? a = some v) (p : BW W) : p.w.cell? a = some v := cell_keep p.h h

/-- What FnCsrs asks of a machine whose number n was set. -/
structure Csf (H G : Ht) (n x : Int) : Prop where
  n0 : 0 ≤ n
  n10 : n ≤ 10
  okG : hfV G = 0
  gG : getR G n = (0, getV G n)
  other : ∀ i : Nat, i < 11 → (i : Int) ≠ n → i ≠ 6 → getR G i = getR H i
  scratch : n = 5 → getV G n = wd x
  time : n = 8 → getV G n = H.done
  again : setR G n x = (0, setV G n x)
  same : getR (setV G n x) n = (0, getV G n)
  regs : G.regs = H.regs
theorem csf {H : Ht} {n x : Int} (h : (setR H n x).1 = 0) : Csf H (setR H n x).2 n x := by
  have hf : hfV H = 0 := by
    by_cases h0 : hfV H = 0
    · exact h0
    · simp only [setR, if_neg h0] at h; exact absurd h h0
  have hn : (decide (0 ≤ n) && decide (n ≤ 10)) = true := by
    by_cases h1 : (decide (0 ≤ n) && decide (n ≤ 10)) = true
    · exact h1
    · simp only [setR, if_pos hf, if_neg h1] at h; cases h
  obtain ⟨n0, n10⟩ : 0 ≤ n ∧ n ≤ 10 := by simpa using hn
  have e2 : (setR H n x).2 = setV H n x := by simp only [setR, if_pos hf, if_pos hn]
  rw [e2]
  have K : Hok H := hok_of hf
  have KG : Hok (setV H n x) := setV_hok K n x n0 n10
  have hg : hfV (setV H n x) = 0 := hfV_ok KG
  have K2 : Hok (setV (setV H n x) n x) := setV_hok KG n x n0 n10
  have hg2 : hfV (setV (setV H n x) n x) = 0 := hfV_ok K2
  have gz : ∀ (Y : Ht) (i : Int), hfV Y = 0 → 0 ≤ i → i ≤ 10 → getR Y i = (0, getV Y i) := fun Y i y0 i0 i1 => by
    have : (decide (0 ≤ i) && decide (i ≤ 10)) = true := by simp [i0, i1]
    simp only [getR, if_pos y0, if_pos this]
  refine ⟨n0, n10, hg, gz _ _ hg n0 n10, fun i hi hne h6 => ?_, fun e => ?_, fun e => ?_, by simp only [setR, if_pos hg, if_pos hn], ?_, rfl⟩
  · rw [gz _ _ hg (by omega) (by omega), gz _ _ hf (by omega) (by omega), set_other K n x n0 n10 i hi hne h6]
  · subst e; exact set_scratch K x
  · subst e; exact set_time x
  · rw [gz _ _ hg2 n0 n10, set_again K n x n0 n10]
end Go.Proofs.Yteaccakodaidpaa
namespace Go.Proofs.Yteaccakodaidpaa
open Go.RowKit
set_option linter.unusedVariables false

set_option maxHeartbeats 1000000 in
theorem lw_nums (v u : Value) (zs : List Int) (b c : Nat) (w : World) (h : Nums w b v zs) (k : Nums w c u zs) :
    Calls Try.prog 22 #[v, u] w fun e w' => e = .returned (.bool true) ∧ Below w.heap.size w w' := by
  obtain ⟨a, cap, rfl, l1, l2, hg⟩ := h.shape
  obtain ⟨a', cap', rfl, m1, m2, hg'⟩ := k.shape
  have HZ : Hid (Nums w b _ zs) := h
  have KZ : Hid (Nums w c _ zs) := k
  have hl : (zs.length : Int) ≤ 9223372036854775807 := by unfold maxLen at l2; omega
  clear h k
  obtain ⟨n, hn⟩ : ∃ n, zs.length = n := ⟨_, rfl⟩
  rw [hn] at HZ KZ hl l1 m1 hg hg' ⊢
  have HN : Hid (zs.length = n) := hn
  clear hn l1 m1 l2 m2
  go_enter Try.func22, Try.ntmps22
  go_wp2_with fail
  go_loopw [5] (fun i wr => ∃ j : Nat, j ≤ n ∧ i = .int .i64 j ∧ Below w.heap.size w wr) (fun i _ => n - (intOf i).toNat)
  case atStart => exact ⟨0, Nat.zero_le _, rfl, Below.refl _ _⟩
  case round =>
    obtain ⟨j, hj, rfl, hB⟩ := hrel
    have HB : Hid (Below _ _ _) := hB
    by_cases hlt : j < n
    · obtain ⟨g, rfl⟩ := hg (by omega)
      obtain ⟨g', rfl⟩ := hg' (by omega)
      have c1 := HZ.out.cell HN.out.symm j hlt
      have c2 := KZ.out.cell HN.out.symm j hlt
      have c1' := cell_keep hB c1
      have c2' := cell_keep hB c2
      have hI : (j : Int) < (n : Int) := by omega
      have HL : Hid (j < n) := hlt
      clear hB hlt c1 c2 hg hg'
      go_wp2_with fail
      go_quiet (fail)
      go_wp2_with fail
      go_roundw
      case rel => exact ⟨j + 1, by have := HL.out; omega, by go_num, dr HB.out _⟩
      case measure => have := HL.out; simp [intOf]; omega
    · have hI : ¬ (j : Int) < (n : Int) := by omega
      clear hB
      go_wp2_with fail
      go_ret
      exact ⟨rfl, HB.out⟩
end Go.Proofs.Yteaccakodaidpaa
namespace Go.Proofs.Yteaccakodaidpaa
open Go.RowKit
set_option linter.unusedVariables false

set_option maxRecDepth 20000 in
set_option maxHeartbeats 4000000 in
theorem i_feed15 (a0 : Option Addr) (k0 : Nat) (a1 : Option Addr) (m1 k1 : Nat) (a2 : Option Addr) (m2 k2 : Nat) (a3 : Option Addr) (m3 k3 : Nat) (H : Ht) (ya : Option Addr) (yn yc : Nat) (w : World) :
    Calls Try.prog 17 #[.agg #[.slice a0 15 k0, .int .i64 H.pc, .slice a1 m1 k1, .bool H.halted, .bool H.waiting, .bool H.rung, .int .i64 H.done, .slice a2 m2 k2, .slice a3 m3 k3], .slice ya yn yc] w fun e w' => e = .returned (.agg #[.int .i64 1, .slice none 0 0, .int .i64 0, .slice none 0 0, .bool false, .bool false, .bool false, .int .i64 0, .slice none 0 0, .slice none 0 0]) ∧ Below w.heap.size w w' := by
  generalize hW : (w.alloc (.cells #[.slice a0 15 k0, .int .i64 H.pc, .slice a1 m1 k1, .bool H.halted, .bool H.waiting, .bool H.rung, .int .i64 H.done, .slice a2 m2 k2, .slice a3 m3 k3] 39)).alloc (.cells #[.int .i64 0, .slice none 0 0, .int .i64 0, .slice none 0 0, .bool false, .bool false, .bool false, .int .i64 0, .slice none 0 0, .slice none 0 0] 43) = W
  have B0 : Hid (Below w.heap.size w W) := by show Below _ _ _; rw [← hW]; exact al (al (Below.refl _ _) _) _
  obtain ⟨s, hS⟩ : ∃ s, w.heap.size = s := ⟨_, rfl⟩
  have HS : Hid (w.heap.size = s) := hS
  have VA : Hid (Vb W s #[.slice a0 15 k0, .int .i64 H.pc, .slice a1 m1 k1, .bool H.halted, .bool H.waiting, .bool H.rung, .int .i64 H.done, .slice a2 m2 k2, .slice a3 m3 k3] 39) := by
    show Vb _ _ _ _; rw [← hW, ← hS]; exact (Vb.new _ _ _).push _
  have VR : Hid (Vb W (s + 1) #[.int .i64 0, .slice none 0 0, .int .i64 0, .slice none 0 0, .bool false, .bool false, .bool false, .int .i64 0, .slice none 0 0, .slice none 0 0] 43) := by
    have z1 : s + 1 = (w.alloc (.cells #[.slice a0 15 k0, .int .i64 H.pc, .slice a1 m1 k1, .bool H.halted, .bool H.waiting, .bool H.rung, .int .i64 H.done, .slice a2 m2 k2, .slice a3 m3 k3] 39)).heap.size := by rw [← hS]; simp
    show Vb _ _ _ _; rw [← hW, z1]; exact Vb.new _ _ _
  have q0 := VA.out.cell 0 rfl
  have q1 := VA.out.cell 1 rfl
  have q2 := VA.out.cell 2 rfl
  have q3 := VA.out.cell 3 rfl
  have q4 := VA.out.cell 4 rfl
  have q5 := VA.out.cell 5 rfl
  have q6 := VA.out.cell 6 rfl
  have q7 := VA.out.cell 7 rfl
  have q8 := VA.out.cell 8 rfl
  go_enter Try.func17, Try.ntmps17
  go_wp2_with fail
  clear hW hS q0 q1 q2 q3 q4 q5 q6 q7 q8
  refine (i_fault15 a0 k0 a1 m1 k1 a2 m2 k2 a3 m3 k3 H _).mono ?_
  rintro e w1 ⟨rfl, b1⟩
  have B1 : Hid (Below w.heap.size w w1) := on B0.out b1
  have VR1 : Hid (Vb w1 (s + 1) #[.int .i64 0, .slice none 0 0, .int .i64 0, .slice none 0 0, .bool false, .bool false, .bool false, .int .i64 0, .slice none 0 0, .slice none 0 0] 43) := VR.out.keep b1
  clear b1 VA VR
  have p0 := VR1.out.cell 0 rfl
  have f0 := VR1.out.free 0
  have p1 := VR1.out.cell 1 rfl
  have f1 := VR1.out.free 1
  have p2 := VR1.out.cell 2 rfl
  have f2 := VR1.out.free 2
  have p3 := VR1.out.cell 3 rfl
  have f3 := VR1.out.free 3
  have p4 := VR1.out.cell 4 rfl
  have f4 := VR1.out.free 4
  have p5 := VR1.out.cell 5 rfl
  have f5 := VR1.out.free 5
  have p6 := VR1.out.cell 6 rfl
  have f6 := VR1.out.free 6
  have p7 := VR1.out.cell 7 rfl
  have f7 := VR1.out.free 7
  have p8 := VR1.out.cell 8 rfl
  have f8 := VR1.out.free 8
  have p9 := VR1.out.cell 9 rfl
  have f9 := VR1.out.free 9
  go_wp2_with fail
  have NN : Hid (_ ∧ _) := ten VR1.out (.int .i64 1) (.slice none 0 0) (.int .i64 0) (.slice none 0 0) (.bool false) (.bool false) (.bool false) (.int .i64 0) (.slice none 0 0) (.slice none 0 0)
  clear p0 f0 p1 f1 p2 f2 p3 f3 p4 f4 p5 f5 p6 f6 p7 f7 p8 f8 p9 f9
  generalize ((((((((((w1.setCell ⟨s + 1, 0, none⟩ (.int .i64 1)).setCell ⟨s + 1, 1, none⟩ (.slice none 0 0)).setCell ⟨s + 1, 2, none⟩ (.int .i64 0)).setCell ⟨s + 1, 3, none⟩ (.slice none 0 0)).setCell ⟨s + 1, 4, none⟩ (.bool false)).setCell ⟨s + 1, 5, none⟩ (.bool false)).setCell ⟨s + 1, 6, none⟩ (.bool false)).setCell ⟨s + 1, 7, none⟩ (.int .i64 0)).setCell ⟨s + 1, 8, none⟩ (.slice none 0 0)).setCell ⟨s + 1, 9, none⟩ (.slice none 0 0)) = V at *
  have x0 := NN.out.1.cell 0 rfl
  have x1 := NN.out.1.cell 1 rfl
  have x2 := NN.out.1.cell 2 rfl
  have x3 := NN.out.1.cell 3 rfl
  have x4 := NN.out.1.cell 4 rfl
  have x5 := NN.out.1.cell 5 rfl
  have x6 := NN.out.1.cell 6 rfl
  have x7 := NN.out.1.cell 7 rfl
  have x8 := NN.out.1.cell 8 rfl
  have x9 := NN.out.1.cell 9 rfl
  have BV : Below w.heap.size w V := Mq.under B1.out NN.out.2 fun k e => by have := HS.out; omega
  exact bodyPost_ret (v := .agg #[.int .i64 1, .slice none 0 0, .int .i64 0, .slice none 0 0, .bool false, .bool false, .bool false, .int .i64 0, .slice none 0 0, .slice none 0 0]) (by simp [results, Try.results17, go_sem, x0, x1, x2, x3, x4, x5, x6, x7, x8, x9]) rfl ⟨rfl, BV⟩
set_option maxRecDepth 20000 in
set_option maxHeartbeats 4000000 in
theorem s_feed15 (a0 : Option Addr) (k0 : Nat) (a1 : Option Addr) (m1 k1 : Nat) (a2 : Option Addr) (m2 k2 : Nat) (a3 : Option Addr) (m3 k3 : Nat) (H : Ht) (ya : Option Addr) (yn yc : Nat) (w : World) :
    Calls Try.prog 18 #[.agg #[.slice a0 15 k0, .int .i64 H.pc, .slice a1 m1 k1, .bool H.halted, .bool H.waiting, .bool H.rung, .int .i64 H.done, .slice a2 m2 k2, .slice a3 m3 k3], .slice ya yn yc] w fun e w' => e = .returned (.agg #[.int .i64 1, .slice none 0 0, .int .i64 0, .slice none 0 0, .bool false, .bool false, .bool false, .int .i64 0, .slice none 0 0, .slice none 0 0]) ∧ Below w.heap.size w w' := by
  generalize hW : (w.alloc (.cells #[.slice a0 15 k0, .int .i64 H.pc, .slice a1 m1 k1, .bool H.halted, .bool H.waiting, .bool H.rung, .int .i64 H.done, .slice a2 m2 k2, .slice a3 m3 k3] 39)).alloc (.cells #[.int .i64 0, .slice none 0 0, .int .i64 0, .slice none 0 0, .bool false, .bool false, .bool false, .int .i64 0, .slice none 0 0, .slice none 0 0] 43) = W
  have B0 : Hid (Below w.heap.size w W) := by show Below _ _ _; rw [← hW]; exact al (al (Below.refl _ _) _) _
  obtain ⟨s, hS⟩ : ∃ s, w.heap.size = s := ⟨_, rfl⟩
  have HS : Hid (w.heap.size = s) := hS
  have VA : Hid (Vb W s #[.slice a0 15 k0, .int .i64 H.pc, .slice a1 m1 k1, .bool H.halted, .bool H.waiting, .bool H.rung, .int .i64 H.done, .slice a2 m2 k2, .slice a3 m3 k3] 39) := by
    show Vb _ _ _ _; rw [← hW, ← hS]; exact (Vb.new _ _ _).push _
  have VR : Hid (Vb W (s + 1) #[.int .i64 0, .slice none 0 0, .int .i64 0, .slice none 0 0, .bool false, .bool false, .bool false, .int .i64 0, .slice none 0 0, .slice none 0 0] 43) := by
    have z1 : s + 1 = (w.alloc (.cells #[.slice a0 15 k0, .int .i64 H.pc, .slice a1 m1 k1, .bool H.halted, .bool H.waiting, .bool H.rung, .int .i64 H.done, .slice a2 m2 k2, .slice a3 m3 k3] 39)).heap.size := by rw [← hS]; simp
    show Vb _ _ _ _; rw [← hW, z1]; exact Vb.new _ _ _
  have q0 := VA.out.cell 0 rfl
  have q1 := VA.out.cell 1 rfl
  have q2 := VA.out.cell 2 rfl
  have q3 := VA.out.cell 3 rfl
  have q4 := VA.out.cell 4 rfl
  have q5 := VA.out.cell 5 rfl
  have q6 := VA.out.cell 6 rfl
  have q7 := VA.out.cell 7 rfl
  have q8 := VA.out.cell 8 rfl
  go_enter Try.func18, Try.ntmps18
  go_wp2_with fail
  clear hW hS q0 q1 q2 q3 q4 q5 q6 q7 q8
  refine (s_fault15 s a0 k0 a1 m1 k1 a2 m2 k2 a3 m3 k3 H _ VA.out).mono ?_
  rintro e w1 ⟨rfl, b1⟩
  have B1 : Hid (Below w.heap.size w w1) := on B0.out b1
  have VR1 : Hid (Vb w1 (s + 1) #[.int .i64 0, .slice none 0 0, .int .i64 0, .slice none 0 0, .bool false, .bool false, .bool false, .int .i64 0, .slice none 0 0, .slice none 0 0] 43) := VR.out.keep b1
  clear b1 VA VR
  have p0 := VR1.out.cell 0 rfl
  have f0 := VR1.out.free 0
  have p1 := VR1.out.cell 1 rfl
  have f1 := VR1.out.free 1
  have p2 := VR1.out.cell 2 rfl
  have f2 := VR1.out.free 2
  have p3 := VR1.out.cell 3 rfl
  have f3 := VR1.out.free 3
  have p4 := VR1.out.cell 4 rfl
  have f4 := VR1.out.free 4
  have p5 := VR1.out.cell 5 rfl
  have f5 := VR1.out.free 5
  have p6 := VR1.out.cell 6 rfl
  have f6 := VR1.out.free 6
  have p7 := VR1.out.cell 7 rfl
  have f7 := VR1.out.free 7
  have p8 := VR1.out.cell 8 rfl
  have f8 := VR1.out.free 8
  have p9 := VR1.out.cell 9 rfl
  have f9 := VR1.out.free 9
  go_wp2_with fail
  have NN : Hid (_ ∧ _) := ten VR1.out (.int .i64 1) (.slice none 0 0) (.int .i64 0) (.slice none 0 0) (.bool false) (.bool false) (.bool false) (.int .i64 0) (.slice none 0 0) (.slice none 0 0)
  clear p0 f0 p1 f1 p2 f2 p3 f3 p4 f4 p5 f5 p6 f6 p7 f7 p8 f8 p9 f9
  generalize ((((((((((w1.setCell ⟨s + 1, 0, none⟩ (.int .i64 1)).setCell ⟨s + 1, 1, none⟩ (.slice none 0 0)).setCell ⟨s + 1, 2, none⟩ (.int .i64 0)).setCell ⟨s + 1, 3, none⟩ (.slice none 0 0)).setCell ⟨s + 1, 4, none⟩ (.bool false)).setCell ⟨s + 1, 5, none⟩ (.bool false)).setCell ⟨s + 1, 6, none⟩ (.bool false)).setCell ⟨s + 1, 7, none⟩ (.int .i64 0)).setCell ⟨s + 1, 8, none⟩ (.slice none 0 0)).setCell ⟨s + 1, 9, none⟩ (.slice none 0 0)) = V at *
  have x0 := NN.out.1.cell 0 rfl
  have x1 := NN.out.1.cell 1 rfl
  have x2 := NN.out.1.cell 2 rfl
  have x3 := NN.out.1.cell 3 rfl
  have x4 := NN.out.1.cell 4 rfl
  have x5 := NN.out.1.cell 5 rfl
  have x6 := NN.out.1.cell 6 rfl
  have x7 := NN.out.1.cell 7 rfl
  have x8 := NN.out.1.cell 8 rfl
  have x9 := NN.out.1.cell 9 rfl
  have BV : Below w.heap.size w V := Mq.under B1.out NN.out.2 fun k e => by have := HS.out; omega
  exact bodyPost_ret (v := .agg #[.int .i64 1, .slice none 0 0, .int .i64 0, .slice none 0 0, .bool false, .bool false, .bool false, .int .i64 0, .slice none 0 0, .slice none 0 0]) (by simp [results, Try.results18, go_sem, x0, x1, x2, x3, x4, x5, x6, x7, x8, x9]) rfl ⟨rfl, BV⟩
end Go.Proofs.Yteaccakodaidpaa
namespace Go.Proofs.Yteaccakodaidpaa
open Go.RowKit
set_option linter.unusedVariables false

/-- A machine whose queue has the words from the j-th on left. -/
def atJ (G : Ht) (all : List Int) (j : Nat) : Ht := { G with inn := all.drop j }
theorem feedV_ok {H : Ht} {ys : List Int} (K : Hok H) (ha : ys.all isW = true) (hl : H.inn.length + ys.length ≤ 40) : Hok (feedV H ys) :=
  ⟨K.r16, K.c11, K.r0, K.rw, K.pw, K.cw, by simp only [feedV, List.all_append, K.iw, ha, Bool.and_self], K.ow, by simp only [feedV, List.length_append]; omega, K.o40, K.d0, K.d9, K.st⟩
theorem all_drop {zs : List Int} (h : zs.all isW = true) (j : Nat) : (zs.drop j).all isW = true := by
  rw [List.all_eq_true] at h ⊢
  exact fun x hx => h x (List.mem_of_mem_drop hx)
theorem atJ_ok {G : Ht} {all : List Int} (K : Hok G) (ha : all.all isW = true) (hl : all.length ≤ 40) (j : Nat) : Hok (atJ G all j) :=
  ⟨K.r16, K.c11, K.r0, K.rw, K.pw, K.cw, all_drop ha j, K.ow, by simp only [atJ, List.length_drop]; omega, K.o40, K.d0, K.d9, K.st⟩
/-- What is known where words were fed. -/
structure Fdf (H : Ht) (ys : List Int) (G : Ht) : Prop where
  g0 : G = atJ G (H.inn ++ ys) 0
  n40 : (H.inn ++ ys).length ≤ 40
  okJ : ∀ j, Hok (atJ G (H.inn ++ ys) j)
theorem fdf {H : Ht} {ys : List Int} (h : (feedR H ys).1 = 0) : Fdf H ys (feedR H ys).2 := by
  unfold feedR at h ⊢
  split at h
  next h1 =>
    rw [if_pos h1]
    split at h
    next h2 =>
      rw [if_pos h2]
      split at h
      next h3 =>
        rw [if_pos h3]
        have K := hok_of h1
        have KF := feedV_ok K h2 h3
        have e : (H.inn ++ ys).all isW = true := KF.iw
        refine ⟨rfl, by rw [List.length_append]; exact h3, fun j => atJ_ok KF e (by rw [List.length_append]; exact h3) j⟩
      next => exact absurd h (by decide)
    next => exact absurd h (by decide)
  next h1 => exact absurd h h1
theorem drR_one {G : Ht} {all : List Int} {j : Nat} (K : Hok (atJ G all j)) : drR (atJ G all j) 1 = ⟨0, all.getD j 0, -1, atJ G all (j + 1)⟩ := by
  unfold drR
  rw [if_pos (hfV_ok K), if_pos (by decide)]
  have e1 : drV (atJ G all j) 1 = all.getD j 0 := by
    show (all.drop j).headD 0 = all.getD j 0
    rw [List.headD_eq_head?_getD, List.head?_drop, List.getD_eq_getElem?_getD]
  have e2 : drH (atJ G all j) 1 = atJ G all (j + 1) := by
    show ({ atJ G all j with inn := (all.drop j).tail } : Ht) = _
    rw [List.tail_drop]
    rfl
  rw [e1, e2]
theorem drR_six {G : Ht} {all : List Int} {j : Nat} (K : Hok (atJ G all j)) : drR (atJ G all j) 6 = ⟨0, ((all.length - j : Nat) : Int), -1, atJ G all j⟩ := by
  unfold drR
  rw [if_pos (hfV_ok K), if_pos (by decide)]
  have e1 : drV (atJ G all j) 6 = ((all.length - j : Nat) : Int) := by
    show (((all.drop j).length : Nat) : Int) = _
    rw [List.length_drop]
  rw [e1]
  rfl
theorem dwR_out {H : Ht} (K : Hok H) : dwR H 0 77 = ⟨0, 0, -1, outW H 77⟩ := by
  unfold dwR
  rw [if_pos (hfV_ok K), if_pos (by decide)]
  rfl
theorem dwR_ring {H : Ht} (K : Hok H) : dwR H 5 3 = ⟨0, 0, 3, H⟩ := by
  unfold dwR
  rw [if_pos (hfV_ok K), if_pos (by decide)]
  rfl
theorem ringR_ok {H : Ht} (K : Hok H) : ringR H = (0, ringV H) := by
  unfold ringR
  rw [if_pos (hfV_ok K)]
theorem ringV_ok {H : Ht} (K : Hok H) : Hok (ringV H) := ⟨K.r16, K.c11, K.r0, K.rw, K.pw, K.cw, K.iw, K.ow, K.i40, K.o40, K.d0, K.d9, K.st⟩
theorem pend_ring (H : Ht) (K : Hok H) : pendR (ringV H) = (0, pendV (ringV H)) ∧ 2 ≤ pendV (ringV H) := by
  refine ⟨by unfold pendR; rw [if_pos (hfV_ok (ringV_ok K))], ?_⟩
  unfold pendV
  have : (ringV H).rung = true := rfl
  rw [this, if_pos rfl]
  split <;> split <;> omega
theorem Hm.ne_vb {w : World} {b m : Nat} {r c i o : Value} {H : Ht} {cs : Array Value} {t : TypeId} (h : Hm w b r c i o H) (hv : Vb w m cs t) (ht : t ≠ 2) (k : Nat) (e : Own4 r c i o k) : k ≠ m := by
  rintro rfl
  rcases e with e | e | e | e
  · exact h.r.ne_vb hv ht e
  · exact h.c.ne_vb hv ht e
  · exact h.i.ne_vb hv ht e
  · exact h.o.ne_vb hv ht e
theorem last_get (zs : List Int) (x : Int) : (zs ++ [x]).getD zs.length 0 = x := by
  rw [List.getD_eq_getElem?_getD, List.getElem?_append_right (Nat.le_refl _), Nat.sub_self]
  rfl
end Go.Proofs.Yteaccakodaidpaa
namespace Go.Proofs.Yteaccakodaidpaa
open Go.RowKit
set_option linter.unusedVariables false

theorem src_more {S : Nat → Prop} {w w' : World} {b k : Nat} {a : Option Addr} {len cap : Nat} {zs : List Int} (s : Src w b k a len cap zs) (m : Mq S w w') (hb : ∀ x, S x → b < x) : Src w' b k a len cap zs := by
  have hh := s.here
  have hbk : ∀ x, x ≤ b → x < w.heap.size → w'.heap[x]? = w.heap[x]? := fun x hx hl => m.block x hl (fun e => by have := hb x e; omega)
  have hcell : ∀ (p : Addr) (u : Value), p.block ≤ b → w.cell? p = some u → w'.cell? p = some u := fun p u hp hu => by
    have hl := block_of_cell hu
    unfold World.cell? at *
    rw [hbk _ hp hl]
    exact hu
  refine ⟨hcell _ _ (Nat.le_refl _) s.code, hcell _ _ (Nat.le_refl _) s.count, ?_, ?_, s.away, Nat.lt_of_lt_of_le hh m.size⟩
  · rw [World.frozen?_of_block (w := w) (hbk b (Nat.le_refl _) hh)]; exact s.free
  · rcases s.row with h0 | ⟨x, rfl, q1, q2, q3, q4, q5⟩
    · exact .inl h0
    · refine .inr ⟨x, rfl, q1, q2, q3, fun j hj => hcell _ _ ?_ (q4 j hj), q5⟩
      have hx := s.away x rfl (by omega)
      rw [src_block]
      omega
/-- Words that are drawn: their list, the source b. -/
structure Dn (w0 v : World) (b k : Nat) (a : Option Addr) (len cap : Nat) (zs : List Int) (u : Value) (ys : List Int) : Prop where
  src : Src v b k a len cap zs
  n : Nums v (b + 1) u ys
  g : Below w0.heap.size w0 v
  hb : w0.heap.size = b
theorem Dn.turn {w0 v v' : World} {b k k' : Nat} {a : Option Addr} {len cap : Nat} {zs : List Int} {u : Value} {ys : List Int} (h : Dn w0 v b k a len cap zs u ys) (t : Turn b v v') (s : Src v' b k' a len cap zs) : Dn w0 v' b k' a len cap zs u ys :=
  ⟨s, (turn_mq t).nums h.n (fun x e f => by have := (h.n.lt x e).1; omega), h.g.trans (t.below (by have := h.hb; omega) h.g.size), h.hb⟩
theorem Dn.new {w0 v : World} {b k : Nat} {a : Option Addr} {len cap : Nat} {zs : List Int} {u : Value} {ys : List Int} (h : Dn w0 v b k a len cap zs u ys) (o : Obj) : Dn w0 (v.alloc o) b k a len cap zs u ys :=
  ⟨h.src.alloc _, h.n.keep (al (Below.refl _ _) _), al h.g _, h.hb⟩
theorem Dn.app {w0 v v' : World} {b k : Nat} {a : Option Addr} {len cap : Nat} {zs : List Int} {u u' : Value} {ys ys' : List Int} (h : Dn w0 v b k a len cap zs u ys) (n : Nums v' (b + 1) u' ys') (g : v.grownBy v' u.ownBlock) : Dn w0 v' b k a len cap zs u' ys' := by
  have m : Mq (fun x => u.ownBlock = some x) v v' := Mq.of g fun x e => e.symm
  exact ⟨src_more h.src m (fun x e => by have := (h.n.lt x e).1; omega), n, Mq.under h.g m (fun x e => by have := (h.n.lt x e).1; have := h.hb; omega), h.hb⟩
theorem four_at (w : World) (x y : Int) (hx : 0 ≤ x ∧ x ≤ 41) (hy : 0 ≤ y ∧ y ≤ 41) (t : TypeId) : ∀ i, i < 4 → ∃ v : Int, (w.alloc (.cells #[.int .i64 x, .int .i64 y, .int .i64 40, .int .i64 41] t)).cell? ⟨w.heap.size, i, none⟩ = some (.int .i64 v) ∧ (0 ≤ v ∧ v ≤ 41) := by
  intro i hi
  have e : i = 0 ∨ i = 1 ∨ i = 2 ∨ i = 3 := by omega
  rcases e with rfl | rfl | rfl | rfl
  · exact ⟨x, cell_new rfl, hx⟩
  · exact ⟨y, cell_new rfl, hy⟩
  · exact ⟨40, cell_new rfl, by decide⟩
  · exact ⟨41, cell_new rfl, by decide⟩

set_option maxRecDepth 20000 in
set_option maxHeartbeats 16000000 in
theorem drawNew {w : World} {a : Option Addr} {len cap : Nat} {zs : List Int} (hr : IsRow .u8 w a len cap zs) :
    Calls Try.prog 56 #[.slice a len cap] w fun e w' => ∃ v ys, e = .returned v ∧ Nums w' w.heap.size v ys ∧ ys.length ≤ 41 ∧ Below w.heap.size w w' := by
  have HR : Hid (IsRow .u8 w a len cap zs) := hr
  clear hr
  go_enter Try.func56, Try.ntmps56
  go_wp2_with fail
  refine (source_any HR.out).mono ?_
  rintro e w1 ⟨rfl, b1, s1⟩
  obtain ⟨b, hb⟩ : ∃ b, w.heap.size = b := ⟨_, rfl⟩
  have D0 : Hid (Dn w (w1.alloc (.cells #[] 2)) b 0 a len cap zs (.slice (some ⟨w1.heap.size, 0, none⟩) 0 0) []) := ⟨by rw [← hb]; exact s1.alloc _, nums_none w1 (b + 1) (by have := s1.here; omega), al b1 _, hb⟩
  rw [hb]
  clear s1 b1 hb
  go_wp2_with fail
  generalize w1.alloc (.cells #[] 2) = W1 at *
  generalize w1.heap.size = g0 at *
  refine (next_any D0.out.src (by omega) _).mono ?_
  rintro e u1 ⟨x1, rfl, hx1, -, t1, s1⟩
  have D1 : Hid (Dn w u1 b (0 + 1) a len cap zs (.slice (some ⟨g0, 0, none⟩) 0 0) []) := D0.out.turn t1 s1
  have X1 : Hid (0 ≤ x1 ∧ x1 ≤ 41) := by have := hx1 (by decide); exact ⟨by omega, by omega⟩
  clear t1 s1 hx1
  go_wp2_with fail
  refine (next_any D1.out.src (by omega) _).mono ?_
  rintro e u2 ⟨x2, rfl, hx2, -, t1, s1⟩
  have D2 : Hid (Dn w u2 b (0 + 1 + 1) a len cap zs (.slice (some ⟨g0, 0, none⟩) 0 0) []) := D1.out.turn t1 s1
  have X2 : Hid (0 ≤ x2 ∧ x2 ≤ 41) := by have := hx2 (by decide); exact ⟨by omega, by omega⟩
  have D3 : Hid (Dn w (u2.alloc (.cells #[.int .i64 x1, .int .i64 x2, .int .i64 40, .int .i64 41] 2)) b (0 + 1 + 1) a len cap zs (.slice (some ⟨g0, 0, none⟩) 0 0) []) := D2.out.new _
  clear t1 s1 hx2
  go_wp2_with fail
  refine (pick_any D3.out.src (by omega) (fun v => 0 ≤ v ∧ v ≤ 41) _ 4 (by decide) (by decide) (by simp) (by have := D2.out.src.here; omega) (four_at _ _ _ X1.out X2.out _)).mono ?_
  rintro e u4 ⟨x4, rfl, ⟨x40, x41⟩, t1, s1⟩
  have D4 : Hid (Dn w u4 b (0 + 1 + 1 + 1) a len cap zs (.slice (some ⟨g0, 0, none⟩) 0 0) []) := D3.out.turn t1 s1
  obtain ⟨n, rfl⟩ : ∃ n : Nat, x4 = n := ⟨x4.toNat, by omega⟩
  have N4 : Hid (n ≤ 41) := by show _ ≤ _; omega
  clear t1 s1 x40 x41 D3 D2 D1 D0 X1 X2
  go_wp2_with fail
  go_loopw [4, 5] (fun o kk wr => ∃ (ys : List Int) (j kc : Nat), kk = .int .i64 j ∧ ys.length + j ≤ 41 ∧ kc ≤ 3 + 5 * ys.length ∧ Dn w wr b kc a len cap zs o ys) (fun _ kk _ => (intOf kk).toNat)
  case atStart => exact ⟨[], n, 3, rfl, by have := N4.out; simp; omega, by simp, D4.out⟩
  case round =>
    obtain ⟨ys, j, kc, rfl, hj, hk, hD⟩ := hrel
    have DD : Hid (Dn w wr b kc a len cap zs _ ys) := hD
    have KB : Hid (ys.length + j ≤ 41 ∧ kc ≤ 3 + 5 * ys.length) := ⟨hj, hk⟩
    obtain ⟨oa, oc, hv, l1, l2, hg⟩ := hD.n.shape
    obtain ⟨m, hm⟩ : ∃ m, ys.length = m := ⟨_, rfl⟩
    rw [hm] at hv hg
    subst hv
    have HM : Hid (ys.length = m) := hm
    clear hD hj hk D4 l1 l2 hm
    by_cases hlt : 0 < j
    · have hJ : (0 : Int) < (j : Int) := by omega
      have hJ9 : (j : Int) ≤ 41 := by have := KB.out; omega
      have HL : Hid (0 < j) := hlt
      clear hlt hg
      go_wp2_with fail
      refine (word_any DD.out.src (by have := KB.out; omega)).mono ?_
      rintro e u1 ⟨x, rfl, -, t1, s1⟩
      have D1 : Hid (Dn w u1 b (kc + 5) a len cap zs (.slice oa m oc) ys) := DD.out.turn t1 s1
      have D2 : Hid (Dn w (u1.alloc (.cells #[.int .i64 x] 2)) b (kc + 5) a len cap zs (.slice oa m oc) ys) := D1.out.new _
      clear t1 s1
      go_wp2_with (at_builtin; refine wp_appx _ rfl _ _ rfl (b + 1) _ ys rfl D2.out.n _ 1 1 [x] rfl (one_rn u1 x rfl) (by have := KB.out; omega) (by have := D2.out.src.here; omega) ?_; intro v' w' hN' hG'; have D3 : Hid (Dn w w' b (kc + 5) a len cap zs v' (ys ++ [x])) := D2.out.app hN' hG'; clear hN' hG')
      go_roundw
      case rel => exact ⟨ys ++ [x], j - 1, kc + 5, by have := HL.out; go_num, by have := KB.out; have := HL.out; simp; omega, by have := KB.out; simp; omega, D3.out⟩
      case measure => have := HL.out; simp [intOf]; omega
    · have hJ : ¬ (0 : Int) < (j : Int) := by omega
      clear hlt
      by_cases hz : m = 0
      · subst hz
        clear hg
        go_wp2_with fail
        go_ret
        exact ⟨_, rfl, ys, DD.out.n.mono (by have := DD.out.hb; omega), by have := KB.out; omega, DD.out.g⟩
      · obtain ⟨g, rfl⟩ := hg (by have := HM.out; omega)
        have hI : (0 : Int) < (m : Int) := by omega
        have hI2 : 0 < m := by omega
        have HI2 : Hid (0 < m) := hI2
        clear hz
        go_wp2_with fail
        refine (chance_any DD.out.src (by have := KB.out; omega) _).mono ?_
        rintro e u1 ⟨cv, rfl, t1, s1⟩
        have D1 : Hid (Dn w u1 b (kc + 1) a len cap zs (.slice (some ⟨g, 0, none⟩) m oc) ys) := DD.out.turn t1 s1
        clear t1 s1
        cases cv
        · go_wp2_with fail
          go_ret
          exact ⟨_, ys, rfl, D1.out.n.mono (by have := D1.out.hb; omega), by have := KB.out; omega, D1.out.g⟩
        · go_wp2_with fail
          refine (wide_any D1.out.src (by have := KB.out; omega)).mono ?_
          rintro e u2 ⟨x, rfl, -, t1, s1⟩
          have D2 : Hid (Dn w u2 b (kc + 1 + 16) a len cap zs (.slice (some ⟨g, 0, none⟩) m oc) ys) := D1.out.turn t1 s1
          have c0 : u2.cell? ⟨g, 0, none⟩ = some (.int .i64 (ys.getD 0 0)) := D2.out.n.cell HM.out.symm 0 HI2.out
          have f0 := D2.out.n.free HM.out.symm 0
          clear t1 s1
          go_wp2_with fail
          go_ret
          have st := D2.out.n.store 0 x
          have D3 := D2.out.app st.1 st.2
          exact ⟨_, ys.set 0 x, rfl, D3.n.mono (by have := D3.hb; omega), by have := KB.out; simp; omega, D3.g⟩

set_option maxRecDepth 20000 in
set_option maxHeartbeats 16000000 in
theorem drawFeed {w : World} {a : Option Addr} {len cap : Nat} {zs : List Int} (hr : IsRow .u8 w a len cap zs) :
    Calls Try.prog 16 #[.slice a len cap] w fun e w' => ∃ a0 m0 k0 a1 m1 k1 a2 m2 k2 a3 m3 k3 H, ∃ v ys, e = .returned (.tuple #[.agg #[.slice a0 m0 k0, .int .i64 H.pc, .slice a1 m1 k1, .bool H.halted, .bool H.waiting, .bool H.rung, .int .i64 H.done, .slice a2 m2 k2, .slice a3 m3 k3], v]) ∧ ((Hm w' w.heap.size (.slice a0 m0 k0) (.slice a1 m1 k1) (.slice a2 m2 k2) (.slice a3 m3 k3) H ∧ Ha (.slice a0 m0 k0) (.slice a1 m1 k1) (.slice a2 m2 k2) (.slice a3 m3 k3)) ∨ m0 = 15) ∧ Nums w' w.heap.size v ys ∧ ys.length ≤ 41 ∧ Below w.heap.size w w' := by
  obtain ⟨R, hR⟩ : ∃ R, w.heap.size = R := ⟨_, rfl⟩
  have HR : Hid (w.heap.size = R) := hR
  obtain ⟨b, hb⟩ : ∃ b, (w.alloc (.cells #[.slice none 0 0, .int .i64 0, .slice none 0 0, .bool false, .bool false, .bool false, .int .i64 0, .slice none 0 0, .slice none 0 0] 39)).heap.size = b := ⟨_, rfl⟩
  have HB : Hid (R < b) := by show _ < _; rw [← hb, ← hR]; simp
  have TW : Hid (Below w.heap.size w (w.alloc (.cells #[.slice none 0 0, .int .i64 0, .slice none 0 0, .bool false, .bool false, .bool false, .int .i64 0, .slice none 0 0, .slice none 0 0] 39))) := (Below.refl _ _).alloc (Nat.le_refl _) _
  have VW : Hid (Vb (w.alloc (.cells #[.slice none 0 0, .int .i64 0, .slice none 0 0, .bool false, .bool false, .bool false, .int .i64 0, .slice none 0 0, .slice none 0 0] 39)) R #[.slice none 0 0, .int .i64 0, .slice none 0 0, .bool false, .bool false, .bool false, .int .i64 0, .slice none 0 0, .slice none 0 0] 39) := by show Vb _ _ _ _; rw [← hR]; exact Vb.new _ _ _
  have RW : Hid (IsRow .u8 (w.alloc (.cells #[.slice none 0 0, .int .i64 0, .slice none 0 0, .bool false, .bool false, .bool false, .int .i64 0, .slice none 0 0, .slice none 0 0] 39)) a len cap zs) := hr.below TW.out
  clear hr
  go_enter Try.func16, Try.ntmps16
  go_wp2_with fail
  generalize w.alloc (.cells #[.slice none 0 0, .int .i64 0, .slice none 0 0, .bool false, .bool false, .bool false, .int .i64 0, .slice none 0 0, .slice none 0 0] 39) = W at *
  refine (source_any RW.out).mono ?_
  rintro e w1 ⟨rfl, b1, s1⟩
  have V1 : Hid (Vb w1 R #[.slice none 0 0, .int .i64 0, .slice none 0 0, .bool false, .bool false, .bool false, .int .i64 0, .slice none 0 0, .slice none 0 0] 39) := VW.out.keep b1
  have B1 : Hid (Below w.heap.size w w1) := TW.out.trans (b1.mono TW.out.size)
  rw [hb] at s1 b1 ⊢
  have S1 : Hid (Src w1 b 0 a len cap zs) := s1
  clear s1 b1 hb hR
  go_wp2_with fail
  refine (hbent_any S1.out (by decide)).mono ?_
  rintro e w2 ⟨a0, m0, k0, a1, m1, k1, a2, m2, k2, a3, m3, k3, H, rfl, hm2, t2, k', hk', s2⟩
  obtain ⟨q, hq⟩ : ∃ q, w2.heap.size = q := ⟨_, rfl⟩
  have D0 : Hid (Dx w (w2.alloc (.cells #[.slice a0 m0 k0, .int .i64 H.pc, .slice a1 m1 k1, .bool H.halted, .bool H.waiting, .bool H.rung, .int .i64 H.done, .slice a2 m2 k2, .slice a3 m3 k3] 39)) R b (k') a len cap zs q a0 m0 k0 a1 m1 k1 a2 m2 k2 a3 m3 k3 H) := by
    have hRR := HR.out; have hBR := HB.out; have hh := S1.out.here; have ht := t2.size
    refine ⟨s2.alloc _, ?_, by rw [← hq]; exact Vb.new _ _ _, ((turn_mq t2).vb V1.out (fun e => by omega)).push _, (B1.out.trans (t2.below (by omega) B1.out.size)).trans (al (Below.refl _ _) _ |>.mono (by have := B1.out.size; omega)), hRR, hBR, by omega⟩
    rcases hm2 with ⟨h1, h2⟩ | h1
    · exact .inl ⟨(h1.keep (al (Below.refl _ _) _)).mono (by omega), h2⟩
    · exact .inr h1
  clear hm2 t2 hk' s2
  go_upto_region 3 with fail
  generalize w2.alloc (.cells #[.slice a0 m0 k0, .int .i64 H.pc, .slice a1 m1 k1, .bool H.halted, .bool H.waiting, .bool H.rung, .int .i64 H.done, .slice a2 m2 k2, .slice a3 m3 k3] 39) = W2 at *
  clear hq
  have DR : Hid (Dx w W2.drew R b (k') a len cap zs q a0 m0 k0 a1 m1 k1 a2 m2 k2 a3 m3 k3 H) := D0.out.turn (Turn.of_below (Below.refl _ _).drew) (D0.out.src.turn (Turn.of_below (b := W2.heap.size) (Below.refl _ _).drew) (Nat.le_refl _))
  refine wp_region_held (S := fun w' => Vb w' q #[.slice a0 m0 k0, .int .i64 H.pc, .slice a1 m1 k1, .bool H.halted, .bool H.waiting, .bool H.rung, .int .i64 H.done, .slice a2 m2 k2, .slice a3 m3 k3] 39) (by kernel_rfl) ?_
  change wpAnyH _ _ _ _ _ _ _ _ (World.drew _)
  generalize W2.drew = v1 at *
  have SD : Hid (Vb v1 q #[.slice a0 m0 k0, .int .i64 H.pc, .slice a1 m1 k1, .bool H.halted, .bool H.waiting, .bool H.rung, .int .i64 H.done, .slice a2 m2 k2, .slice a3 m3 k3] 39) := DR.out.var
  refine wpAnyH_take (i := 0) (v := .agg #[.slice a0 m0 k0, .int .i64 H.pc, .slice a1 m1 k1, .bool H.halted, .bool H.waiting, .bool H.rung, .int .i64 H.done, .slice a2 m2 k2, .slice a3 m3 k3]) rfl (by kernel_rfl) (by kernel_rfl) (by kernel_rfl) (fun _ _ _ h => h) (yieldsIf_load_mid (by rfl) 39 (.tmp 5) rfl q 0 rfl [.slice a0 m0 k0, .int .i64 H.pc, .slice a1 m1 k1, .bool H.halted, .bool H.waiting, .bool H.rung, .int .i64 H.done, .slice a2 m2 k2, .slice a3 m3 k3] _ (fun w' hs => Vb.range hs) Try.underlying39 rfl (by kernel_rfl)) SD.out ?_
  change wpAnyH _ _ _ _ _ _ _ (Act.put _ (some 10) _) _
  simp only [Act.put, List.setIfInBounds_toArray, List.set_cons_zero, List.set_cons_succ]
  refine wpAnyH_take (i := 1) (v := .slice a len cap) rfl (by kernel_rfl) (by kernel_rfl) (by kernel_rfl) (fun _ _ _ h => h) (Or.inl ⟨by rfl, fun w' hs => by go_simp⟩) SD.out ?_
  change wpAnyH _ _ _ _ _ _ _ (Act.put _ (some 11) _) _
  simp only [Act.put, List.setIfInBounds_toArray, List.set_cons_zero, List.set_cons_succ]
  refine wpAnyH_ready (rs := [2]) (by kernel_rfl) (by simp) ?_
  refine AllReadyH.cons rfl (fun K hK => ?_) AllReadyH.nil
  rw [if_pos (by rfl)]
  go_simp
  refine (drawNew DR.out.src.row).mono ?_
  rintro e u3 ⟨v3, ys, rfl, n3, l3, b3⟩
  have D3 : Hid (Dx w u3 R b (k') a len cap zs q a0 m0 k0 a1 m1 k1 a2 m2 k2 a3 m3 k3 H) := DR.out.turn (Turn.of_below b3) (DR.out.src.turn (Turn.of_below (b := v1.heap.size) b3) (Nat.le_refl _))
  have N3 : Hid (Nums u3 v1.heap.size v3 ys ∧ ys.length ≤ 41) := ⟨n3, l3⟩
  have Z3 : Hid (q < v1.heap.size) := DR.out.var.lt
  clear n3 l3 b3
  refine hK.out _ _ D3.out.var (fun _ => ?_)
  clear hK K
  refine wpAnyH_ready (rs := [3]) (by kernel_rfl) (by simp) ?_
  refine AllReadyH.cons rfl (fun K hK => ?_) AllReadyH.nil
  rw [if_pos (by rfl)]
  refine wp_store_mid 39 (.tmp 2) (.tmp 10) rfl R 0 #[.slice a0 m0 k0, .int .i64 H.pc, .slice a1 m1 k1, .bool H.halted, .bool H.waiting, .bool H.rung, .int .i64 H.done, .slice a2 m2 k2, .slice a3 m3 k3] rfl rfl (D3.out.res.there 9 (by decide)) (by kernel_rfl) (by simp [Value.oneCell']) ?_
  change K (Act.put _ none undef) (World.setCells u3 R 0 [.slice a0 m0 k0, .int .i64 H.pc, .slice a1 m1 k1, .bool H.halted, .bool H.waiting, .bool H.rung, .int .i64 H.done, .slice a2 m2 k2, .slice a3 m3 k3])
  simp only [Act.put]
  have R5 : Hid ((u3.setCells R 0 [.slice a0 m0 k0, .int .i64 H.pc, .slice a1 m1 k1, .bool H.halted, .bool H.waiting, .bool H.rung, .int .i64 H.done, .slice a2 m2 k2, .slice a3 m3 k3]).rangeAt R 0 [.slice a0 m0 k0, .int .i64 H.pc, .slice a1 m1 k1, .bool H.halted, .bool H.waiting, .bool H.rung, .int .i64 H.done, .slice a2 m2 k2, .slice a3 m3 k3]) := World.rangeAt_setCells_same _ _ _ _ (D3.out.res.there 9 (by decide))
  have M5 : Hid (Mq (fun k => k = R) u3 (u3.setCells R 0 [.slice a0 m0 k0, .int .i64 H.pc, .slice a1 m1 k1, .bool H.halted, .bool H.waiting, .bool H.rung, .int .i64 H.done, .slice a2 m2 k2, .slice a3 m3 k3])) := mq_cells R _ u3 0
  generalize u3.setCells R 0 [.slice a0 m0 k0, .int .i64 H.pc, .slice a1 m1 k1, .bool H.halted, .bool H.waiting, .bool H.rung, .int .i64 H.done, .slice a2 m2 k2, .slice a3 m3 k3] = u6 at *
  refine hK.out _ _ (M5.out.vb D3.out.var (by have := D3.out.hb; have := D3.out.hq; omega)) (fun _ => ?_)
  clear hK K
  have S6 : Hid (Vb u6 q #[.slice a0 m0 k0, .int .i64 H.pc, .slice a1 m1 k1, .bool H.halted, .bool H.waiting, .bool H.rung, .int .i64 H.done, .slice a2 m2 k2, .slice a3 m3 k3] 39) := M5.out.vb D3.out.var (by have := D3.out.hb; have := D3.out.hq; omega)
  refine wpAnyH_take (i := 4) (v := v3) rfl (by kernel_rfl) (by kernel_rfl) (by kernel_rfl) (fun _ _ _ h => h) (Or.inl ⟨by rfl, fun w' hs => by go_simp⟩) S6.out ?_
  change wpAnyH _ _ _ _ _ _ _ (Act.put _ (some 3) _) _
  simp only [Act.put, List.setIfInBounds_toArray, List.set_cons_zero, List.set_cons_succ]
  refine wpAnyH_done (by kernel_rfl) ?_ _
  go_wp2_with fail
  have y0 : u6.cell? ⟨R, 0, none⟩ = _ := R5.out 0 _ rfl
  have y1 : u6.cell? ⟨R, 1, none⟩ = _ := R5.out 1 _ rfl
  have y2 : u6.cell? ⟨R, 2, none⟩ = _ := R5.out 2 _ rfl
  have y3 : u6.cell? ⟨R, 3, none⟩ = _ := R5.out 3 _ rfl
  have y4 : u6.cell? ⟨R, 4, none⟩ = _ := R5.out 4 _ rfl
  have y5 : u6.cell? ⟨R, 5, none⟩ = _ := R5.out 5 _ rfl
  have y6 : u6.cell? ⟨R, 6, none⟩ = _ := R5.out 6 _ rfl
  have y7 : u6.cell? ⟨R, 7, none⟩ = _ := R5.out 7 _ rfl
  have y8 : u6.cell? ⟨R, 8, none⟩ = _ := R5.out 8 _ rfl
  have hb := D3.out.hb
  have hR := D3.out.hR
  have hs := D3.out.g.size
  have hq := D3.out.hq
  have hz := Z3.out
  exact bodyPost_ret (v := .tuple #[.agg #[.slice a0 m0 k0, .int .i64 H.pc, .slice a1 m1 k1, .bool H.halted, .bool H.waiting, .bool H.rung, .int .i64 H.done, .slice a2 m2 k2, .slice a3 m3 k3], v3]) (by simp [results, Try.results16, go_sem, y0, y1, y2, y3, y4, y5, y6, y7, y8]) rfl
    ⟨_, _, _, _, _, _, _, _, _, _, _, _, H, v3, ys, rfl, D3.out.m.imp (fun h => ⟨(M5.out.hm h.1 (fun x e f => by have := (h.1.own x e).1; omega)).mono (by omega), h.2⟩) id, (M5.out.nums N3.out.1 (fun x e f => by have := (N3.out.1.lt x e).1; omega)).mono (by omega), N3.out.2, ⟨M5.out.os.trans D3.out.g.os, M5.out.tape.trans D3.out.g.tape, M5.out.output.trans D3.out.g.output, Nat.le_trans D3.out.g.size M5.out.size, fun x hx => (M5.out.block x (by omega) (by omega)).trans (D3.out.g.block x hx)⟩⟩
end Go.Proofs.Yteaccakodaidpaa
namespace Go.Proofs.Yteaccakodaidpaa.fnDevicesDone
open Go.ChangeShapes Go.WideShapes Go.ChangeAt Go.RowKit
open Go.ChangeMaps (open_string shut_string)
set_option linter.unusedVariables false

theorem Vb.range3 {w : World} {q : Nat} {c c' c'' : Value} {cs : List Value} {t : TypeId} (h : Vb w q (c :: c' :: c'' :: cs).toArray t) : w.rangeAt q 3 cs := fun j v hv => h.cell (3 + j) (by rw [Nat.add_comm]; simpa using hv)
theorem field_hart0 (x0 x1 x2 x3 x4 x5 x6 x7 x8 x9 : Value) (w : World) : (Instr.field 43 (.agg #[x0, x1, x2, x3, x4, x5, x6, x7, x8, x9]) 0).run Try.prog w = .ok x0 w := by kernel_rfl
theorem field_int1 (x0 x1 : Value) (w : World) : (Instr.field 33 (.agg #[x0, x1]) 1).run Try.prog w = .ok x1 w := by kernel_rfl
theorem field_h5 (x0 x1 x2 x3 x4 x5 x6 x7 x8 : Value) (w : World) : (Instr.field 39 (.agg #[x0, x1, x2, x3, x4, x5, x6, x7, x8]) 5).run Try.prog w = .ok x5 w := by kernel_rfl
theorem field_dev1 (x0 x1 x2 x3 x4 x5 x6 x7 x8 x9 x10 x11 : Value) (w : World) : (Instr.field 46 (.agg #[x0, x1, x2, x3, x4, x5, x6, x7, x8, x9, x10, x11]) 1).run Try.prog w = .ok x1 w := by kernel_rfl
set_option maxRecDepth 20000 in
set_option maxHeartbeats 16000000 in
theorem walk (a0 : Option Addr) (len0 cap0 : Nat) (z0 : List Int) (w : World) (w0 : IsRow .u8 w a0 len0 cap0 z0) :
    Calls Try.prog 4 #[.slice a0 len0 cap0] w fun e w' => e = .returned (.bool true) ∧ Below w.heap.size w w' := by
  have HR : Hid (IsRow .u8 w a0 len0 cap0 z0) := w0
  clear w0
  by_cases hbig : 1048576 < (len0 : Int)
  · go_enter Try.func4, Try.ntmps4
    go_wp2
    go_ret
    exact ⟨rfl, Below.refl _ _⟩
  have hb2 : (len0 : Int) ≤ 1048576 := by omega
  clear hbig
  go_enter Try.func4, Try.ntmps4
  go_wp2_with (go_at_call 9; go_in)
  refine (drawFeed HR.out).mono ?_
  rintro e w1 ⟨a0, m0, k0, a1, m1, k1, a2, m2, k2, a3, m3, k3, H, v, ys, rfl, hm, hn, hl, b1⟩
  clear HR
  obtain ⟨va, vk, hv, _⟩ := hn.shape
  obtain ⟨yl, hyl⟩ : ∃ yl, ys.length = yl := ⟨_, rfl⟩
  rw [hyl] at hv hl
  subst hv
  have YL : Hid (ys.length = yl) := hyl
  have YL2 : Hid (yl ≤ 1048576) := by show _ ≤ _; omega
  clear hyl
  go_upto_region 4 with fail
  obtain ⟨q, hq⟩ : ∃ q, w1.heap.size = q := ⟨_, rfl⟩
  have VQ : Hid (Vb (w1.alloc (.cells #[.slice a0 m0 k0, .int .i64 H.pc, .slice a1 m1 k1, .bool H.halted, .bool H.waiting, .bool H.rung, .int .i64 H.done, .slice a2 m2 k2, .slice a3 m3 k3] 39)) q #[.slice a0 m0 k0, .int .i64 H.pc, .slice a1 m1 k1, .bool H.halted, .bool H.waiting, .bool H.rung, .int .i64 H.done, .slice a2 m2 k2, .slice a3 m3 k3] 39) := by show Vb _ _ _ _; rw [← hq]; exact Vb.new _ _ _
  have B2 : Hid (Below w.heap.size w (w1.alloc (.cells #[.slice a0 m0 k0, .int .i64 H.pc, .slice a1 m1 k1, .bool H.halted, .bool H.waiting, .bool H.rung, .int .i64 H.done, .slice a2 m2 k2, .slice a3 m3 k3] 39))) := al b1 _
  have NY : Hid (Nums (w1.alloc (.cells #[.slice a0 m0 k0, .int .i64 H.pc, .slice a1 m1 k1, .bool H.halted, .bool H.waiting, .bool H.rung, .int .i64 H.done, .slice a2 m2 k2, .slice a3 m3 k3] 39)) w.heap.size (.slice va yl vk) ys) := hn.keep (al (Below.refl _ _) _)
  have M2 : Hid ((Hm (w1.alloc (.cells #[.slice a0 m0 k0, .int .i64 H.pc, .slice a1 m1 k1, .bool H.halted, .bool H.waiting, .bool H.rung, .int .i64 H.done, .slice a2 m2 k2, .slice a3 m3 k3] 39)) w.heap.size (.slice a0 m0 k0) (.slice a1 m1 k1) (.slice a2 m2 k2) (.slice a3 m3 k3) H ∧ Ha (.slice a0 m0 k0) (.slice a1 m1 k1) (.slice a2 m2 k2) (.slice a3 m3 k3)) ∨ m0 = 15) := hm.imp (fun h => ⟨h.1.keep (al (Below.refl _ _) _), h.2⟩) id
  clear hm b1 hn hl
  rw [hq]
  generalize w1.alloc (.cells #[.slice a0 m0 k0, .int .i64 H.pc, .slice a1 m1 k1, .bool H.halted, .bool H.waiting, .bool H.rung, .int .i64 H.done, .slice a2 m2 k2, .slice a3 m3 k3] 39) = W2 at *
  clear hq
  have q0 := VQ.out.cell 0 rfl
  have q1 := VQ.out.cell 1 rfl
  have q2 := VQ.out.cell 2 rfl
  have q3 := VQ.out.cell 3 rfl
  have q4 := VQ.out.cell 4 rfl
  have q5 := VQ.out.cell 5 rfl
  have q6 := VQ.out.cell 6 rfl
  have q7 := VQ.out.cell 7 rfl
  have q8 := VQ.out.cell 8 rfl
  go_wp2_with fail
  clear q0 q1 q2 q3 q4 q5 q6 q7 q8
  rcases M2.out with M | M
  case inr =>
    subst M
    refine (i_feed15 _ _ _ _ _ _ _ _ _ _ _ H _ _ _ _).mono ?_
    rintro e w3 ⟨rfl, b3⟩
    have BL := b3
    go_upto_region 5 with fail
    obtain ⟨s, hs⟩ : ∃ s, w3.heap.size = s := ⟨_, rfl⟩
    have VS : Hid (Vb (w3.alloc (.cells #[.int .i64 1, .slice none 0 0, .int .i64 0, .slice none 0 0, .bool false, .bool false, .bool false, .int .i64 0, .slice none 0 0, .slice none 0 0] 43)) s #[.int .i64 1, .slice none 0 0, .int .i64 0, .slice none 0 0, .bool false, .bool false, .bool false, .int .i64 0, .slice none 0 0, .slice none 0 0] 43) := by show Vb _ _ _ _; rw [← hs]; exact Vb.new _ _ _
    have VQ3 : Hid (Vb (w3.alloc (.cells #[.int .i64 1, .slice none 0 0, .int .i64 0, .slice none 0 0, .bool false, .bool false, .bool false, .int .i64 0, .slice none 0 0, .slice none 0 0] 43)) q #[.slice a0 15 k0, .int .i64 H.pc, .slice a1 m1 k1, .bool H.halted, .bool H.waiting, .bool H.rung, .int .i64 H.done, .slice a2 m2 k2, .slice a3 m3 k3] 39) := (VQ.out.keep BL).push _
    have B3 : Hid (Below w.heap.size w (w3.alloc (.cells #[.int .i64 1, .slice none 0 0, .int .i64 0, .slice none 0 0, .bool false, .bool false, .bool false, .int .i64 0, .slice none 0 0, .slice none 0 0] 43))) := al (on B2.out BL) _
    rw [hs]
    generalize w3.alloc (.cells #[.int .i64 1, .slice none 0 0, .int .i64 0, .slice none 0 0, .bool false, .bool false, .bool false, .int .i64 0, .slice none 0 0, .slice none 0 0] 43) = W3 at *
    clear hs BL b3
    have cc := VS.out.cell 0 rfl
    go_upto_region 6 with fail
    clear cc
    have SD : Hid (Vb W3.drew q #[.slice a0 15 k0, .int .i64 H.pc, .slice a1 m1 k1, .bool H.halted, .bool H.waiting, .bool H.rung, .int .i64 H.done, .slice a2 m2 k2, .slice a3 m3 k3] 39 ∧ Vb W3.drew s #[.int .i64 1, .slice none 0 0, .int .i64 0, .slice none 0 0, .bool false, .bool false, .bool false, .int .i64 0, .slice none 0 0, .slice none 0 0] 43) := ⟨VQ3.out.keep (Below.refl _ _).drew, VS.out.keep (Below.refl _ _).drew⟩
    have BD : Hid (Below w.heap.size w W3.drew) := B3.out.drew
    have QS : ∀ w', (Vb w' q #[.slice a0 15 k0, .int .i64 H.pc, .slice a1 m1 k1, .bool H.halted, .bool H.waiting, .bool H.rung, .int .i64 H.done, .slice a2 m2 k2, .slice a3 m3 k3] 39 ∧ Vb w' s #[.int .i64 1, .slice none 0 0, .int .i64 0, .slice none 0 0, .bool false, .bool false, .bool false, .int .i64 0, .slice none 0 0, .slice none 0 0] 43) → w'.cell? ⟨s, 0, none⟩ = some (.int .i64 1) := fun w' hs => hs.2.cell 0 rfl
    refine wp_region_held (S := fun w' => Vb w' q #[.slice a0 15 k0, .int .i64 H.pc, .slice a1 m1 k1, .bool H.halted, .bool H.waiting, .bool H.rung, .int .i64 H.done, .slice a2 m2 k2, .slice a3 m3 k3] 39 ∧ Vb w' s #[.int .i64 1, .slice none 0 0, .int .i64 0, .slice none 0 0, .bool false, .bool false, .bool false, .int .i64 0, .slice none 0 0, .slice none 0 0] 43) (by kernel_rfl) ?_
    change wpAnyH _ _ _ _ _ _ _ _ (World.drew _)
    generalize W3.drew = v1 at *
    refine wpAnyH_take (i := 0) (v := .agg #[.slice a0 15 k0, .int .i64 H.pc, .slice a1 m1 k1, .bool H.halted, .bool H.waiting, .bool H.rung, .int .i64 H.done, .slice a2 m2 k2, .slice a3 m3 k3]) rfl (by kernel_rfl) (by kernel_rfl) (by kernel_rfl) (fun _ _ _ h => h) (yieldsIf_load_mid (by rfl) 39 (.tmp 3) rfl q 0 rfl [.slice a0 15 k0, .int .i64 H.pc, .slice a1 m1 k1, .bool H.halted, .bool H.waiting, .bool H.rung, .int .i64 H.done, .slice a2 m2 k2, .slice a3 m3 k3] _ (fun w' hs => Vb.range hs.1) Try.underlying39 rfl (by kernel_rfl)) SD.out ?_
    change wpAnyH _ _ _ _ _ _ _ (Act.put _ (some 27) _) _
    simp only [Act.put, List.setIfInBounds_toArray, List.set_cons_zero, List.set_cons_succ]
    refine wpAnyH_take (i := 1) (v := .slice va yl vk) rfl (by kernel_rfl) (by kernel_rfl) (by kernel_rfl) (fun _ _ _ h => h) (Or.inl ⟨by rfl, fun w' hs => by go_simp⟩) SD.out ?_
    change wpAnyH _ _ _ _ _ _ _ (Act.put _ (some 28) _) _
    simp only [Act.put, List.setIfInBounds_toArray, List.set_cons_zero, List.set_cons_succ]
    refine wpAnyH_take (i := 4) (v := .pointer (some ⟨s, 0, none⟩)) rfl (by kernel_rfl) (by kernel_rfl) (by kernel_rfl) (fun _ _ _ h => h) (Or.inl ⟨by rfl, fun w' hs => by go_simp⟩) SD.out ?_
    change wpAnyH _ _ _ _ _ _ _ (Act.put _ (some 31) _) _
    simp only [Act.put, List.setIfInBounds_toArray, List.set_cons_zero, List.set_cons_succ]
    have QR : ∀ w', (Vb w' q #[.slice a0 15 k0, .int .i64 H.pc, .slice a1 m1 k1, .bool H.halted, .bool H.waiting, .bool H.rung, .int .i64 H.done, .slice a2 m2 k2, .slice a3 m3 k3] 39 ∧ Vb w' s #[.int .i64 1, .slice none 0 0, .int .i64 0, .slice none 0 0, .bool false, .bool false, .bool false, .int .i64 0, .slice none 0 0, .slice none 0 0] 43) → w'.cell? ⟨s, 0, none⟩ = some (.int .i64 1) := QS
    refine wpAnyH_take (i := 5) (v := .int .i64 1) rfl (by kernel_rfl) (by kernel_rfl) (by kernel_rfl) (fun _ _ _ h => h) (Or.inl ⟨by rfl, fun w' hs => by have hc := QR w' hs; go_simp⟩) SD.out ?_
    change wpAnyH _ _ _ _ _ _ _ (Act.put _ (some 32) _) _
    simp only [Act.put, List.setIfInBounds_toArray, List.set_cons_zero, List.set_cons_succ]
    refine wpAnyH_ready (rs := [2]) (by kernel_rfl) (by simp) ?_
    refine AllReadyH.cons rfl (fun K hK => ?_) AllReadyH.nil
    rw [if_pos (by rfl)]
    go_simp
    refine (s_feed15 _ _ _ _ _ _ _ _ _ _ _ H _ _ _ _).mono ?_
    rintro e w4 ⟨rfl, b4⟩
    have S4 : Hid (Vb w4 q #[.slice a0 15 k0, .int .i64 H.pc, .slice a1 m1 k1, .bool H.halted, .bool H.waiting, .bool H.rung, .int .i64 H.done, .slice a2 m2 k2, .slice a3 m3 k3] 39 ∧ Vb w4 s #[.int .i64 1, .slice none 0 0, .int .i64 0, .slice none 0 0, .bool false, .bool false, .bool false, .int .i64 0, .slice none 0 0, .slice none 0 0] 43) := ⟨SD.out.1.keep b4, SD.out.2.keep b4⟩
    have B4 : Hid (Below w.heap.size w w4) := on BD.out b4
    refine hK.out _ _ S4.out (fun _ => ?_)
    clear hK K b4
    refine wpAnyH_take (i := 3) (v := .int .i64 1) rfl (by kernel_rfl) (by kernel_rfl) (by kernel_rfl) (fun _ _ _ h => h) (Or.inl ⟨by rfl, fun w' hs => by have hf := field_hart0; go_simp⟩) S4.out ?_
    change wpAnyH _ _ _ _ _ _ _ (Act.put _ (some 30) _) _
    simp only [Act.put, List.setIfInBounds_toArray, List.set_cons_zero, List.set_cons_succ]
    refine wpAnyH_take (i := 6) (v := .bool true) rfl (by kernel_rfl) (by kernel_rfl) (by kernel_rfl) (fun _ _ _ h => h) (Or.inl ⟨by rfl, fun w' hs => by go_simp⟩) S4.out ?_
    change wpAnyH _ _ _ _ _ _ _ (Act.put _ (some 33) _) _
    simp only [Act.put, List.setIfInBounds_toArray, List.set_cons_zero, List.set_cons_succ]
    refine wpAnyH_take (i := 7) (v := .bool true) rfl (by kernel_rfl) (by kernel_rfl) (by kernel_rfl) (fun _ _ _ h => h) (Or.inl ⟨by rfl, fun w' hs => by go_simp⟩) S4.out ?_
    change wpAnyH _ _ _ _ _ _ _ (Act.put _ (some 2) _) _
    simp only [Act.put, List.setIfInBounds_toArray, List.set_cons_zero, List.set_cons_succ]
    refine wpAnyH_done (by kernel_rfl) ?_ _
    go_wp2_with fail
    go_ret
    exact ⟨rfl, B4.out⟩
  have fi := fun w b h hy => i_feedHart (.slice a0 m0 k0) (.slice a1 m1 k1) (.slice a2 m2 k2) (.slice a3 m3 k3) H va yl vk ys b w h hy
  obtain ⟨c, hc⟩ : ∃ c, (feedR H ys).1 = c := ⟨_, rfl⟩
  obtain ⟨G, hG⟩ : ∃ G, (feedR H ys).2 = G := ⟨_, rfl⟩
  simp only [hc, hG] at fi
  refine (fi _ _ M.1 (NY.out.rn) YL2.out).mono ?_
  rintro e w3 ⟨r', c', i', o', rfl, g3, A3, b3⟩
  obtain ⟨ra, rk, rfl, _⟩ := g3.r.shape
  obtain ⟨ca, ck, rfl, _⟩ := g3.c.shape
  obtain ⟨ia, ik, rfl, _⟩ := g3.i.shape
  obtain ⟨oa, ok, rfl, _⟩ := g3.o.shape
  clear fi
  have BL := b3
  go_upto_region 5 with fail
  obtain ⟨s, hs⟩ : ∃ s, w3.heap.size = s := ⟨_, rfl⟩
  have VS : Hid (Vb (w3.alloc (.cells #[.int .i64 c, .slice ra G.regs.length rk, .int .i64 G.pc, .slice ca G.csr.length ck, .bool G.halted, .bool G.waiting, .bool G.rung, .int .i64 G.done, .slice ia G.inn.length ik, .slice oa G.out.length ok] 43)) s #[.int .i64 c, .slice ra G.regs.length rk, .int .i64 G.pc, .slice ca G.csr.length ck, .bool G.halted, .bool G.waiting, .bool G.rung, .int .i64 G.done, .slice ia G.inn.length ik, .slice oa G.out.length ok] 43) := by show Vb _ _ _ _; rw [← hs]; exact Vb.new _ _ _
  have VQ3 : Hid (Vb (w3.alloc (.cells #[.int .i64 c, .slice ra G.regs.length rk, .int .i64 G.pc, .slice ca G.csr.length ck, .bool G.halted, .bool G.waiting, .bool G.rung, .int .i64 G.done, .slice ia G.inn.length ik, .slice oa G.out.length ok] 43)) q #[.slice a0 m0 k0, .int .i64 H.pc, .slice a1 m1 k1, .bool H.halted, .bool H.waiting, .bool H.rung, .int .i64 H.done, .slice a2 m2 k2, .slice a3 m3 k3] 39) := (VQ.out.keep BL).push _
  have B3 : Hid (Below w.heap.size w (w3.alloc (.cells #[.int .i64 c, .slice ra G.regs.length rk, .int .i64 G.pc, .slice ca G.csr.length ck, .bool G.halted, .bool G.waiting, .bool G.rung, .int .i64 G.done, .slice ia G.inn.length ik, .slice oa G.out.length ok] 43))) := al (on B2.out BL) _
  have BW : Hid (Below W2.heap.size W2 (w3.alloc (.cells #[.int .i64 c, .slice ra G.regs.length rk, .int .i64 G.pc, .slice ca G.csr.length ck, .bool G.halted, .bool G.waiting, .bool G.rung, .int .i64 G.done, .slice ia G.inn.length ik, .slice oa G.out.length ok] 43))) := al b3 _
  have GM : Hid (Hm (w3.alloc (.cells #[.int .i64 c, .slice ra G.regs.length rk, .int .i64 G.pc, .slice ca G.csr.length ck, .bool G.halted, .bool G.waiting, .bool G.rung, .int .i64 G.done, .slice ia G.inn.length ik, .slice oa G.out.length ok] 43)) w.heap.size (.slice ra G.regs.length rk) (.slice ca G.csr.length ck) (.slice ia G.inn.length ik) (.slice oa G.out.length ok) G) := (g3.keep (al (Below.refl _ _) _)).mono B2.out.size
  rw [hs]
  generalize w3.alloc (.cells #[.int .i64 c, .slice ra G.regs.length rk, .int .i64 G.pc, .slice ca G.csr.length ck, .bool G.halted, .bool G.waiting, .bool G.rung, .int .i64 G.done, .slice ia G.inn.length ik, .slice oa G.out.length ok] 43) = W3 at *
  clear hs BL b3 g3 A3
  have cc := VS.out.cell 0 rfl
  by_cases hc0 : c = 0
  case neg =>
    have fs := fun w b h hy => s_feedHart (.slice a0 m0 k0) (.slice a1 m1 k1) (.slice a2 m2 k2) (.slice a3 m3 k3) H va yl vk ys b w h hy
    simp only [hc, hG] at fs
    have HM : Hid (Hm W2 w.heap.size (.slice a0 m0 k0) (.slice a1 m1 k1) (.slice a2 m2 k2) (.slice a3 m3 k3) H) := M.1
    have hcb : (c != 0) = true := by simpa using hc0
    clear M M2 hc hG GM
    have FS : Hid (_) := fs
    clear fs
    go_upto_region 6 with fail
    clear cc
    have BX : Hid (Below W2.heap.size W2 W3.drew) := BW.out.drew
    have SD : Hid (Vb W3.drew q #[.slice a0 m0 k0, .int .i64 H.pc, .slice a1 m1 k1, .bool H.halted, .bool H.waiting, .bool H.rung, .int .i64 H.done, .slice a2 m2 k2, .slice a3 m3 k3] 39 ∧ Vb W3.drew s #[.int .i64 c, .slice ra G.regs.length rk, .int .i64 G.pc, .slice ca G.csr.length ck, .bool G.halted, .bool G.waiting, .bool G.rung, .int .i64 G.done, .slice ia G.inn.length ik, .slice oa G.out.length ok] 43) := ⟨VQ3.out.keep (Below.refl _ _).drew, VS.out.keep (Below.refl _ _).drew⟩
    have BD : Hid (Below w.heap.size w W3.drew) := B3.out.drew
    have QS : ∀ w', (Vb w' q #[.slice a0 m0 k0, .int .i64 H.pc, .slice a1 m1 k1, .bool H.halted, .bool H.waiting, .bool H.rung, .int .i64 H.done, .slice a2 m2 k2, .slice a3 m3 k3] 39 ∧ Vb w' s #[.int .i64 c, .slice ra G.regs.length rk, .int .i64 G.pc, .slice ca G.csr.length ck, .bool G.halted, .bool G.waiting, .bool G.rung, .int .i64 G.done, .slice ia G.inn.length ik, .slice oa G.out.length ok] 43) → w'.cell? ⟨s, 0, none⟩ = some (.int .i64 c) := fun w' hs => hs.2.cell 0 rfl
    refine wp_region_held (S := fun w' => Vb w' q #[.slice a0 m0 k0, .int .i64 H.pc, .slice a1 m1 k1, .bool H.halted, .bool H.waiting, .bool H.rung, .int .i64 H.done, .slice a2 m2 k2, .slice a3 m3 k3] 39 ∧ Vb w' s #[.int .i64 c, .slice ra G.regs.length rk, .int .i64 G.pc, .slice ca G.csr.length ck, .bool G.halted, .bool G.waiting, .bool G.rung, .int .i64 G.done, .slice ia G.inn.length ik, .slice oa G.out.length ok] 43) (by kernel_rfl) ?_
    change wpAnyH _ _ _ _ _ _ _ _ (World.drew _)
    generalize W3.drew = v1 at *
    refine wpAnyH_take (i := 0) (v := .agg #[.slice a0 m0 k0, .int .i64 H.pc, .slice a1 m1 k1, .bool H.halted, .bool H.waiting, .bool H.rung, .int .i64 H.done, .slice a2 m2 k2, .slice a3 m3 k3]) rfl (by kernel_rfl) (by kernel_rfl) (by kernel_rfl) (fun _ _ _ h => h) (yieldsIf_load_mid (by rfl) 39 (.tmp 3) rfl q 0 rfl [.slice a0 m0 k0, .int .i64 H.pc, .slice a1 m1 k1, .bool H.halted, .bool H.waiting, .bool H.rung, .int .i64 H.done, .slice a2 m2 k2, .slice a3 m3 k3] _ (fun w' hs => Vb.range hs.1) Try.underlying39 rfl (by kernel_rfl)) SD.out ?_
    change wpAnyH _ _ _ _ _ _ _ (Act.put _ (some 27) _) _
    simp only [Act.put, List.setIfInBounds_toArray, List.set_cons_zero, List.set_cons_succ]
    refine wpAnyH_take (i := 1) (v := .slice va yl vk) rfl (by kernel_rfl) (by kernel_rfl) (by kernel_rfl) (fun _ _ _ h => h) (Or.inl ⟨by rfl, fun w' hs => by go_simp⟩) SD.out ?_
    change wpAnyH _ _ _ _ _ _ _ (Act.put _ (some 28) _) _
    simp only [Act.put, List.setIfInBounds_toArray, List.set_cons_zero, List.set_cons_succ]
    refine wpAnyH_take (i := 4) (v := .pointer (some ⟨s, 0, none⟩)) rfl (by kernel_rfl) (by kernel_rfl) (by kernel_rfl) (fun _ _ _ h => h) (Or.inl ⟨by rfl, fun w' hs => by go_simp⟩) SD.out ?_
    change wpAnyH _ _ _ _ _ _ _ (Act.put _ (some 31) _) _
    simp only [Act.put, List.setIfInBounds_toArray, List.set_cons_zero, List.set_cons_succ]
    have QR : ∀ w', (Vb w' q #[.slice a0 m0 k0, .int .i64 H.pc, .slice a1 m1 k1, .bool H.halted, .bool H.waiting, .bool H.rung, .int .i64 H.done, .slice a2 m2 k2, .slice a3 m3 k3] 39 ∧ Vb w' s #[.int .i64 c, .slice ra G.regs.length rk, .int .i64 G.pc, .slice ca G.csr.length ck, .bool G.halted, .bool G.waiting, .bool G.rung, .int .i64 G.done, .slice ia G.inn.length ik, .slice oa G.out.length ok] 43) → w'.cell? ⟨s, 0, none⟩ = some (.int .i64 c) := QS
    refine wpAnyH_take (i := 5) (v := .int .i64 c) rfl (by kernel_rfl) (by kernel_rfl) (by kernel_rfl) (fun _ _ _ h => h) (Or.inl ⟨by rfl, fun w' hs => by have hc := QR w' hs; go_simp⟩) SD.out ?_
    change wpAnyH _ _ _ _ _ _ _ (Act.put _ (some 32) _) _
    simp only [Act.put, List.setIfInBounds_toArray, List.set_cons_zero, List.set_cons_succ]
    refine wpAnyH_ready (rs := [2]) (by kernel_rfl) (by simp) ?_
    refine AllReadyH.cons rfl (fun K hK => ?_) AllReadyH.nil
    rw [if_pos (by rfl)]
    go_simp
    refine (FS.out _ _ (HM.out.keep BX.out) (NY.out.keep BX.out).rn YL2.out).mono ?_
    rintro e w4 ⟨r4, c4, i4, o4, rfl, -, b4⟩
    have S4 : Hid (Vb w4 q #[.slice a0 m0 k0, .int .i64 H.pc, .slice a1 m1 k1, .bool H.halted, .bool H.waiting, .bool H.rung, .int .i64 H.done, .slice a2 m2 k2, .slice a3 m3 k3] 39 ∧ Vb w4 s #[.int .i64 c, .slice ra G.regs.length rk, .int .i64 G.pc, .slice ca G.csr.length ck, .bool G.halted, .bool G.waiting, .bool G.rung, .int .i64 G.done, .slice ia G.inn.length ik, .slice oa G.out.length ok] 43) := ⟨SD.out.1.keep b4, SD.out.2.keep b4⟩
    have B4 : Hid (Below w.heap.size w w4) := on BD.out b4
    refine hK.out _ _ S4.out (fun _ => ?_)
    clear hK K b4
    refine wpAnyH_take (i := 3) (v := .int .i64 c) rfl (by kernel_rfl) (by kernel_rfl) (by kernel_rfl) (fun _ _ _ h => h) (Or.inl ⟨by rfl, fun w' hs => by have hf := field_hart0; go_simp⟩) S4.out ?_
    change wpAnyH _ _ _ _ _ _ _ (Act.put _ (some 30) _) _
    simp only [Act.put, List.setIfInBounds_toArray, List.set_cons_zero, List.set_cons_succ]
    refine wpAnyH_take (i := 6) (v := .bool true) rfl (by kernel_rfl) (by kernel_rfl) (by kernel_rfl) (fun _ _ _ h => h) (Or.inl ⟨by rfl, fun w' hs => by go_simp⟩) S4.out ?_
    change wpAnyH _ _ _ _ _ _ _ (Act.put _ (some 33) _) _
    simp only [Act.put, List.setIfInBounds_toArray, List.set_cons_zero, List.set_cons_succ]
    refine wpAnyH_take (i := 7) (v := .bool true) rfl (by kernel_rfl) (by kernel_rfl) (by kernel_rfl) (fun _ _ _ h => h) (Or.inl ⟨by rfl, fun w' hs => by go_simp⟩) S4.out ?_
    change wpAnyH _ _ _ _ _ _ _ (Act.put _ (some 2) _) _
    simp only [Act.put, List.setIfInBounds_toArray, List.set_cons_zero, List.set_cons_succ]
    refine wpAnyH_done (by kernel_rfl) ?_ _
    go_wp2_with fail
    go_ret
    exact ⟨rfl, B4.out⟩
  subst hc0
  have FD : Hid (Fdf H ys G) := by show Fdf _ _ _; rw [← hG]; exact fdf hc
  have MH : Hid (Hm W2 w.heap.size (.slice a0 m0 k0) (.slice a1 m1 k1) (.slice a2 m2 k2) (.slice a3 m3 k3) H) := M.1
  clear M M2 hc hG
  have s0 := VS.out.cell 0 rfl
  have s1 := VS.out.cell 1 rfl
  have s2 := VS.out.cell 2 rfl
  have s3 := VS.out.cell 3 rfl
  have s4 := VS.out.cell 4 rfl
  have s5 := VS.out.cell 5 rfl
  have s6 := VS.out.cell 6 rfl
  have s7 := VS.out.cell 7 rfl
  have s8 := VS.out.cell 8 rfl
  have s9 := VS.out.cell 9 rfl
  go_upto_region 8 with fail
  clear cc s0 s1 s2 s3 s4 s5 s6 s7 s8 s9
  obtain ⟨t, ht⟩ : ∃ t, W3.heap.size = t := ⟨_, rfl⟩
  have VT : Hid (Vb (W3.alloc (.cells #[.slice ra G.regs.length rk, .int .i64 G.pc, .slice ca G.csr.length ck, .bool G.halted, .bool G.waiting, .bool G.rung, .int .i64 G.done, .slice ia G.inn.length ik, .slice oa G.out.length ok] 39)) t #[.slice ra G.regs.length rk, .int .i64 G.pc, .slice ca G.csr.length ck, .bool G.halted, .bool G.waiting, .bool G.rung, .int .i64 G.done, .slice ia G.inn.length ik, .slice oa G.out.length ok] 39) := by show Vb _ _ _ _; rw [← ht]; exact Vb.new _ _ _
  have VQ4 : Hid (Vb (W3.alloc (.cells #[.slice ra G.regs.length rk, .int .i64 G.pc, .slice ca G.csr.length ck, .bool G.halted, .bool G.waiting, .bool G.rung, .int .i64 G.done, .slice ia G.inn.length ik, .slice oa G.out.length ok] 39)) q #[.slice a0 m0 k0, .int .i64 H.pc, .slice a1 m1 k1, .bool H.halted, .bool H.waiting, .bool H.rung, .int .i64 H.done, .slice a2 m2 k2, .slice a3 m3 k3] 39) := VQ3.out.push _
  have B4 : Hid (Below w.heap.size w (W3.alloc (.cells #[.slice ra G.regs.length rk, .int .i64 G.pc, .slice ca G.csr.length ck, .bool G.halted, .bool G.waiting, .bool G.rung, .int .i64 G.done, .slice ia G.inn.length ik, .slice oa G.out.length ok] 39))) := al B3.out _
  have MG4 : Hid (Hm (W3.alloc (.cells #[.slice ra G.regs.length rk, .int .i64 G.pc, .slice ca G.csr.length ck, .bool G.halted, .bool G.waiting, .bool G.rung, .int .i64 G.done, .slice ia G.inn.length ik, .slice oa G.out.length ok] 39)) w.heap.size (.slice ra G.regs.length rk) (.slice ca G.csr.length ck) (.slice ia G.inn.length ik) (.slice oa G.out.length ok) G) := GM.out.keep (al (Below.refl _ _) _)
  have MH4 : Hid (Nums (W3.alloc (.cells #[.slice ra G.regs.length rk, .int .i64 G.pc, .slice ca G.csr.length ck, .bool G.halted, .bool G.waiting, .bool G.rung, .int .i64 G.done, .slice ia G.inn.length ik, .slice oa G.out.length ok] 39)) w.heap.size (.slice a2 m2 k2) H.inn) := (MH.out.i.keep BW.out).keep (al (Below.refl _ _) _)
  have NY4 : Hid (Nums (W3.alloc (.cells #[.slice ra G.regs.length rk, .int .i64 G.pc, .slice ca G.csr.length ck, .bool G.halted, .bool G.waiting, .bool G.rung, .int .i64 G.done, .slice ia G.inn.length ik, .slice oa G.out.length ok] 39)) w.heap.size (.slice va yl vk) ys) := (NY.out.keep BW.out).keep (al (Below.refl _ _) _)
  have L40 : Hid (H.inn.length + ys.length ≤ 40) := by have := FD.out.n40; rw [List.length_append] at this; exact this
  have WTT : Hid (w.heap.size ≤ t) := by show _ ≤ _; rw [← ht]; exact B3.out.size
  rw [ht]
  generalize W3.alloc (.cells #[.slice ra G.regs.length rk, .int .i64 G.pc, .slice ca G.csr.length ck, .bool G.halted, .bool G.waiting, .bool G.rung, .int .i64 G.done, .slice ia G.inn.length ik, .slice oa G.out.length ok] 39) = U at *
  clear ht VQ3 VS MH GM BW VQ B2 B3 NY
  have q7 := VQ4.out.cell 7 rfl
  have lq : q < U.heap.size := VQ4.out.lt
  have B40 : Hid (w.heap.size ≤ U.heap.size) := B4.out.size
  go_upto_region 9 with (first
    | (at_builtin; refine wp_appy _ rfl _ _ rfl U.heap.size _ [] rfl (nums_none _ _ (Nat.le_refl _)) a2 m2 k2 H.inn rfl (MH4.out.keep (al (Below.refl _ _) _)).rn (by have := L40.out; have := MH4.out.len; simp; omega) (by simp) ?_; intro v8 w8 hN8 hG8; have N8 : Hid (Nums w8 U.heap.size v8 H.inn) := (by show Nums _ _ _ _; simpa using hN8); have BU8 : Hid (Below U.heap.size U w8) := below_of_grown (al (Below.refl _ _) _) hG8 (nums_none _ _ (Nat.le_refl _)) (Nat.le_refl _); clear hN8 hG8)
    | (at_builtin; refine wp_appy _ rfl _ _ rfl U.heap.size _ H.inn rfl N8.out va yl vk ys rfl (NY4.out.keep BU8.out).rn (by have := L40.out; have := NY4.out.len; omega) BU8.out.size ?_; intro v9 w9 hN9 hG9; have N9 : Hid (Nums w9 U.heap.size v9 (H.inn ++ ys)) := hN9; have BU9 : Hid (Below U.heap.size U w9) := below_of_grown BU8.out hG9 N8.out (Nat.le_refl _); clear hN9 hG9))
  clear q7 lq MH4 NY4 L40
  obtain ⟨xa, xc, hv9, _, _, hxg⟩ := N9.out.shape
  obtain ⟨all, hall⟩ : ∃ all, H.inn ++ ys = all := ⟨_, rfl⟩
  rw [hall] at hv9 hxg
  have FDA : Hid (G = atJ G all 0 ∧ all.length ≤ 40 ∧ ∀ j, Hok (atJ G all j)) := by rw [← hall]; exact ⟨FD.out.g0, FD.out.n40, FD.out.okJ⟩
  have N9a : Hid (Nums w9 U.heap.size v9 all) := by show Nums _ _ _ _; rw [← hall]; exact N9.out
  clear N9 N8 FD hall
  obtain ⟨n, hn⟩ : ∃ n, all.length = n := ⟨_, rfl⟩
  rw [hn] at hv9 hxg
  subst hv9
  have HN : Hid (all.length = n) := hn
  have NA : Hid (Nums w9 U.heap.size (.slice xa n xc) all) := N9a.out
  have HXG : Hid (0 < n → ∃ g, xa = some ⟨g, 0, none⟩) := hxg
  have hnI : (n : Int) ≤ 40 := by have := FDA.out.2.1; omega
  clear hn hxg N9a
  have VT9 : Hid (Vb w9 t #[.slice ra G.regs.length rk, .int .i64 G.pc, .slice ca G.csr.length ck, .bool G.halted, .bool G.waiting, .bool G.rung, .int .i64 G.done, .slice ia G.inn.length ik, .slice oa G.out.length ok] 39) := VT.out.keep BU9.out
  have MG9 : Hid (Hm w9 w.heap.size (.slice ra G.regs.length rk) (.slice ca G.csr.length ck) (.slice ia G.inn.length ik) (.slice oa G.out.length ok) G) := MG4.out.keep BU9.out
  have B9 : Hid (Below w.heap.size w w9) := on B4.out BU9.out
  clear VT MG4 B4 BU9 BU8 VQ4 B40
  generalize G.regs.length = rn at *
  generalize G.csr.length = cn at *
  generalize G.inn.length = in_ at *
  generalize G.out.length = on_ at *
  have t0 := VT9.out.cell 0 rfl
  have t1 := VT9.out.cell 1 rfl
  have t2 := VT9.out.cell 2 rfl
  have t3 := VT9.out.cell 3 rfl
  have t4 := VT9.out.cell 4 rfl
  have t5 := VT9.out.cell 5 rfl
  have t6 := VT9.out.cell 6 rfl
  have t7 := VT9.out.cell 7 rfl
  have t8 := VT9.out.cell 8 rfl
  go_wp2_with fail
  clear t0 t1 t2 t3 t4 t5 t6 t7 t8
  have f6 := i_devRead (.slice ra rn rk) (.slice ca cn ck) (.slice ia in_ ik) (.slice oa on_ ok) G 6 _ w9 MG9.out
  have e6 : drR G 6 = ⟨0, (n : Int), -1, G⟩ := by
    have := drR_six (FDA.out.2.2 0)
    rw [← FDA.out.1, HN.out] at this
    simpa using this
  rw [e6] at f6
  refine f6.mono ?_
  rintro e w10 ⟨r', c', i', o', rfl, -, -, b10⟩
  have NA10 : Hid (Nums w10 U.heap.size (.slice xa n xc) all) := NA.out.keep b10
  have VT10 : Hid (Vb w10 t #[.slice ra rn rk, .int .i64 G.pc, .slice ca cn ck, .bool G.halted, .bool G.waiting, .bool G.rung, .int .i64 G.done, .slice ia in_ ik, .slice oa on_ ok] 39) := VT9.out.keep b10
  have MG10 : Hid (Hm w10 0 (.slice ra rn rk) (.slice ca cn ck) (.slice ia in_ ik) (.slice oa on_ ok) G) := (MG9.out.keep b10).mono (Nat.zero_le _)
  have B10 : Hid (Below w.heap.size w w10) := on B9.out b10
  have TL : Hid (t < w10.heap.size) := VT10.out.lt
  have VTT : Hid (∃ cs, Vb w10 t cs 39) := ⟨_, VT10.out⟩
  have WT : Hid (w.heap.size ≤ t) := WTT.out
  have hf := field_dev1
  clear f6 e6 b10 NA VT9 MG9 B9
  go_wp2_with fail
  clear hf
  go_loopw [8] (fun ii wr => ∃ (j : Nat) (ra : Option Addr) (rn rk : Nat) (ca : Option Addr) (cn ck : Nat) (ia : Option Addr) (in_ ik : Nat) (oa : Option Addr) (on_ ok : Nat), j ≤ n ∧ ii = .int .i64 j ∧ Vb wr t #[.slice ra rn rk, .int .i64 (atJ G all j).pc, .slice ca cn ck, .bool (atJ G all j).halted, .bool (atJ G all j).waiting, .bool (atJ G all j).rung, .int .i64 (atJ G all j).done, .slice ia in_ ik, .slice oa on_ ok] 39 ∧ Hm wr 0 (.slice ra rn rk) (.slice ca cn ck) (.slice ia in_ ik) (.slice oa on_ ok) (atJ G all j) ∧ Mq (fun k => k = t) w10 wr) (fun ii _ => n - (intOf ii).toNat)
  case atStart => exact ⟨0, ra, rn, rk, ca, cn, ck, ia, in_, ik, oa, on_, ok, Nat.zero_le _, rfl, by rw [← FDA.out.1]; exact VT10.out, by rw [← FDA.out.1]; exact MG10.out, Mq.refl _ _⟩
  case round =>
    clear VT10 MG10
    obtain ⟨j, ra, rn, rk, ca, cn, ck, ia, in_, ik, oa, on_, ok, hj, rfl, hV, hM, hQ⟩ := hrel
    obtain ⟨GJ, hGJ⟩ : ∃ GJ, atJ G all j = GJ := ⟨_, rfl⟩
    rw [hGJ] at hV hM
    have VJ : Hid (Vb wr t #[.slice ra rn rk, .int .i64 GJ.pc, .slice ca cn ck, .bool GJ.halted, .bool GJ.waiting, .bool GJ.rung, .int .i64 GJ.done, .slice ia in_ ik, .slice oa on_ ok] 39) := hV
    have MJ : Hid (Hm wr 0 (.slice ra rn rk) (.slice ca cn ck) (.slice ia in_ ik) (.slice oa on_ ok) GJ) := hM
    have QJ : Hid (Mq (fun k => k = t) w10 wr) := hQ
    have KJ : Hid (Hok GJ) := by show Hok _; rw [← hGJ]; exact FDA.out.2.2 j
    have NAJ : Hid (Nums wr U.heap.size (.slice xa n xc) all) := hQ.nums NA10.out fun k e f => by obtain ⟨cs, hcs⟩ := VTT.out; exact NA10.out.ne_vb hcs (by decide) (by rw [e, f])
    have BJ : Hid (Below w.heap.size w wr) := Mq.under B10.out hQ fun k e => by have := WT.out; omega
    have HGJ : Hid (atJ G all j = GJ) := hGJ
    clear hV hM hQ hGJ
    by_cases hlt : j < n
    · have hJ : (j : Int) < (n : Int) := by omega
      have HL : Hid (j < n) := hlt
      obtain ⟨x, rfl⟩ := HXG.out (by omega)
      clear hlt hj
      have t0 := VJ.out.cell 0 rfl
      have t1 := VJ.out.cell 1 rfl
      have t2 := VJ.out.cell 2 rfl
      have t3 := VJ.out.cell 3 rfl
      have t4 := VJ.out.cell 4 rfl
      have t5 := VJ.out.cell 5 rfl
      have t6 := VJ.out.cell 6 rfl
      have t7 := VJ.out.cell 7 rfl
      have t8 := VJ.out.cell 8 rfl
      go_wp2_with fail
      clear t0 t1 t2 t3 t4 t5 t6 t7 t8
      have f1 := i_devRead (.slice ra rn rk) (.slice ca cn ck) (.slice ia in_ ik) (.slice oa on_ ok) GJ 1 _ wr MJ.out
      obtain ⟨y, hy⟩ : ∃ y, all.getD j 0 = y := ⟨_, rfl⟩
      obtain ⟨N, hN⟩ : ∃ N, atJ G all (j + 1) = N := ⟨_, rfl⟩
      have e1 : drR GJ 1 = ⟨0, y, -1, N⟩ := by
        have := drR_one (FDA.out.2.2 j)
        rw [HGJ.out, hy, hN] at this
        exact this
      rw [e1] at f1
      refine f1.mono ?_
      rintro e w5 ⟨r', c', i', o', rfl, m5, A5, b5⟩
      obtain ⟨na, nk, rfl, _⟩ := m5.r.shape
      obtain ⟨nb, nl, rfl, _⟩ := m5.c.shape
      obtain ⟨nc, nm, rfl, _⟩ := m5.i.shape
      obtain ⟨nd, no, rfl, _⟩ := m5.o.shape
      have HNN : Hid (atJ G all (j + 1) = N) := hN
      have CX5 : Hid (w5.cell? ⟨x, j, none⟩ = some (.int .i64 y)) := by show _ = _; rw [← hy]; exact (NAJ.out.keep b5).cell HN.out.symm j HL.out
      clear f1 e1 A5 hy hN
      go_upto_region 15 with fail
      obtain ⟨d, hd⟩ : ∃ d, w5.heap.size = d := ⟨_, rfl⟩
      have VD : Hid (Vb (w5.alloc (.cells #[.int .i64 0, .int .i64 y, .int .i64 (-1), .slice na N.regs.length nk, .int .i64 N.pc, .slice nb N.csr.length nl, .bool N.halted, .bool N.waiting, .bool N.rung, .int .i64 N.done, .slice nc N.inn.length nm, .slice nd N.out.length no] 46)) d #[.int .i64 0, .int .i64 y, .int .i64 (-1), .slice na N.regs.length nk, .int .i64 N.pc, .slice nb N.csr.length nl, .bool N.halted, .bool N.waiting, .bool N.rung, .int .i64 N.done, .slice nc N.inn.length nm, .slice nd N.out.length no] 46) := by show Vb _ _ _ _; rw [← hd]; exact Vb.new _ _ _
      have MN : Hid (Hm (w5.alloc (.cells #[.int .i64 0, .int .i64 y, .int .i64 (-1), .slice na N.regs.length nk, .int .i64 N.pc, .slice nb N.csr.length nl, .bool N.halted, .bool N.waiting, .bool N.rung, .int .i64 N.done, .slice nc N.inn.length nm, .slice nd N.out.length no] 46)) 0 (.slice na N.regs.length nk) (.slice nb N.csr.length nl) (.slice nc N.inn.length nm) (.slice nd N.out.length no) N) := (m5.keep (al (Below.refl _ _) _)).mono (Nat.zero_le _)
      have VJ5 : Hid (Vb (w5.alloc (.cells #[.int .i64 0, .int .i64 y, .int .i64 (-1), .slice na N.regs.length nk, .int .i64 N.pc, .slice nb N.csr.length nl, .bool N.halted, .bool N.waiting, .bool N.rung, .int .i64 N.done, .slice nc N.inn.length nm, .slice nd N.out.length no] 46)) t #[.slice ra rn rk, .int .i64 GJ.pc, .slice ca cn ck, .bool GJ.halted, .bool GJ.waiting, .bool GJ.rung, .int .i64 GJ.done, .slice ia in_ ik, .slice oa on_ ok] 39) := (VJ.out.keep b5).push _
      have CX : Hid ((w5.alloc (.cells #[.int .i64 0, .int .i64 y, .int .i64 (-1), .slice na N.regs.length nk, .int .i64 N.pc, .slice nb N.csr.length nl, .bool N.halted, .bool N.waiting, .bool N.rung, .int .i64 N.done, .slice nc N.inn.length nm, .slice nd N.out.length no] 46)).cell? ⟨x, j, none⟩ = some (.int .i64 y)) := cell_keep (al (Below.refl _ _) _) CX5.out
      have BL5 : Hid (Below wr.heap.size wr (w5.alloc (.cells #[.int .i64 0, .int .i64 y, .int .i64 (-1), .slice na N.regs.length nk, .int .i64 N.pc, .slice nb N.csr.length nl, .bool N.halted, .bool N.waiting, .bool N.rung, .int .i64 N.done, .slice nc N.inn.length nm, .slice nd N.out.length no] 46))) := al b5 _
      have KN : Hid (Hok N) := by show Hok _; rw [← HNN.out]; exact FDA.out.2.2 (j + 1)
      rw [hd]
      generalize w5.alloc (.cells #[.int .i64 0, .int .i64 y, .int .i64 (-1), .slice na N.regs.length nk, .int .i64 N.pc, .slice nb N.csr.length nl, .bool N.halted, .bool N.waiting, .bool N.rung, .int .i64 N.done, .slice nc N.inn.length nm, .slice nd N.out.length no] 46) = U5 at *
      clear hd m5 b5 CX5
      have CF : ∀ p : Go.Proofs.Yteaccakodaidpaa.BW U5, Calls Try.prog 20 #[.agg #[.slice na N.regs.length nk, .int .i64 N.pc, .slice nb N.csr.length nl, .bool N.halted, .bool N.waiting, .bool N.rung, .int .i64 N.done, .slice nc N.inn.length nm, .slice nd N.out.length no]] p.w fun e w' => e = .returned (.int .i64 0) ∧ Below p.w.heap.size p.w w' := fun p => by
        have tt := i_fault _ _ _ _ N _ p.w (MN.out.keep p.h)
        rw [hfV_ok KN.out] at tt
        exact tt
      have SD : Hid (Below U5.heap.size U5 U5.drew) := (Below.refl _ _).drew
      have RN : Hid (∀ w', Below U5.heap.size U5 w' → w'.rangeAt d 3 [.slice na N.regs.length nk, .int .i64 N.pc, .slice nb N.csr.length nl, .bool N.halted, .bool N.waiting, .bool N.rung, .int .i64 N.done, .slice nc N.inn.length nm, .slice nd N.out.length no]) := fun w' hs => Vb.range3 (VD.out.keep hs)
      have cd0 : Hid (∀ w', Below U5.heap.size U5 w' → w'.cell? ⟨d, 0, none⟩ = some (.int .i64 0)) := fun w' hs => (VD.out.keep hs).cell 0 rfl
      have cd1 : Hid (∀ w', Below U5.heap.size U5 w' → w'.cell? ⟨d, 1, none⟩ = some (.int .i64 y)) := fun w' hs => (VD.out.keep hs).cell 1 rfl
      have cx : Hid (∀ w', Below U5.heap.size U5 w' → w'.cell? ⟨x, j, none⟩ = some (.int .i64 y)) := fun w' hs => cell_keep hs CX.out
      refine wp_region_held (S := fun w' => Below U5.heap.size U5 w') (by kernel_rfl) ?_
      change wpAnyH _ _ _ _ _ _ _ _ (World.drew _)
      generalize U5.drew = v1 at *
      refine wpAnyH_take (i := 0) (v := .pointer (some ⟨d, 0, none⟩)) rfl (by kernel_rfl) (by kernel_rfl) (by kernel_rfl) (fun _ _ _ h => h) (Or.inl ⟨by rfl, fun w' hs => by go_simp⟩) SD.out ?_
      change wpAnyH _ _ _ _ _ _ _ (Act.put _ (some 56) _) _
      simp only [Act.put, List.setIfInBounds_toArray, List.set_cons_zero, List.set_cons_succ]
      refine wpAnyH_take (i := 1) (v := .int .i64 0) rfl (by kernel_rfl) (by kernel_rfl) (by kernel_rfl) (fun _ _ _ h => h) (Or.inl ⟨by rfl, fun w' hs => by have hc := cd0.out w' hs; go_simp⟩) SD.out ?_
      change wpAnyH _ _ _ _ _ _ _ (Act.put _ (some 57) _) _
      simp only [Act.put, List.setIfInBounds_toArray, List.set_cons_zero, List.set_cons_succ]
      refine wpAnyH_take (i := 2) (v := .bool false) rfl (by kernel_rfl) (by kernel_rfl) (by kernel_rfl) (fun _ _ _ h => h) (Or.inl ⟨by rfl, fun w' hs => by go_simp⟩) SD.out ?_
      change wpAnyH _ _ _ _ _ _ _ (Act.put _ (some 58) _) _
      simp only [Act.put, List.setIfInBounds_toArray, List.set_cons_zero, List.set_cons_succ]
      refine wpAnyH_take (i := 3) (v := .bool false) rfl (by kernel_rfl) (by kernel_rfl) (by kernel_rfl) (fun _ _ _ h => h) (Or.inl ⟨by rfl, fun w' hs => by go_simp⟩) SD.out ?_
      change wpAnyH _ _ _ _ _ _ _ (Act.put _ (some 59) _) _
      simp only [Act.put, List.setIfInBounds_toArray, List.set_cons_zero, List.set_cons_succ]
      refine wpAnyH_take (i := 4) (v := .pointer (some ⟨d, 1, none⟩)) rfl (by kernel_rfl) (by kernel_rfl) (by kernel_rfl) (fun _ _ _ h => h) (Or.inl ⟨by rfl, fun w' hs => by go_simp⟩) SD.out ?_
      change wpAnyH _ _ _ _ _ _ _ (Act.put _ (some 60) _) _
      simp only [Act.put, List.setIfInBounds_toArray, List.set_cons_zero, List.set_cons_succ]
      refine wpAnyH_take (i := 5) (v := .int .i64 y) rfl (by kernel_rfl) (by kernel_rfl) (by kernel_rfl) (fun _ _ _ h => h) (Or.inl ⟨by rfl, fun w' hs => by have hc := cd1.out w' hs; go_simp⟩) SD.out ?_
      change wpAnyH _ _ _ _ _ _ _ (Act.put _ (some 61) _) _
      simp only [Act.put, List.setIfInBounds_toArray, List.set_cons_zero, List.set_cons_succ]
      refine wpAnyH_take (i := 6) (v := .slice (some ⟨x, 0, none⟩) n xc) rfl (by kernel_rfl) (by kernel_rfl) (by kernel_rfl) (fun _ _ _ h => h) (Or.inl ⟨by rfl, fun w' hs => by go_simp⟩) SD.out ?_
      change wpAnyH _ _ _ _ _ _ _ (Act.put _ (some 62) _) _
      simp only [Act.put, List.setIfInBounds_toArray, List.set_cons_zero, List.set_cons_succ]
      refine wpAnyH_take (i := 7) (v := .int .i64 (j : Int)) rfl (by kernel_rfl) (by kernel_rfl) (by kernel_rfl) (fun _ _ _ h => h) (Or.inl ⟨by rfl, fun w' hs => by go_simp⟩) SD.out ?_
      change wpAnyH _ _ _ _ _ _ _ (Act.put _ (some 63) _) _
      simp only [Act.put, List.setIfInBounds_toArray, List.set_cons_zero, List.set_cons_succ]
      refine wpAnyH_take (i := 8) (v := .pointer (some ⟨x, j, none⟩)) rfl (by kernel_rfl) (by kernel_rfl) (by kernel_rfl) (fun _ _ _ h => h) (Or.inl ⟨by rfl, fun w' hs => by have h1 := hJ; have h2 := HL.out; go_simp⟩) SD.out ?_
      change wpAnyH _ _ _ _ _ _ _ (Act.put _ (some 64) _) _
      simp only [Act.put, List.setIfInBounds_toArray, List.set_cons_zero, List.set_cons_succ]
      refine wpAnyH_take (i := 9) (v := .int .i64 y) rfl (by kernel_rfl) (by kernel_rfl) (by kernel_rfl) (fun _ _ _ h => h) (Or.inl ⟨by rfl, fun w' hs => by have hc := cx.out w' hs; go_simp⟩) SD.out ?_
      change wpAnyH _ _ _ _ _ _ _ (Act.put _ (some 65) _) _
      simp only [Act.put, List.setIfInBounds_toArray, List.set_cons_zero, List.set_cons_succ]
      refine wpAnyH_take (i := 10) (v := .bool false) rfl (by kernel_rfl) (by kernel_rfl) (by kernel_rfl) (fun _ _ _ h => h) (Or.inl ⟨by rfl, fun w' hs => by go_simp⟩) SD.out ?_
      change wpAnyH _ _ _ _ _ _ _ (Act.put _ (some 66) _) _
      simp only [Act.put, List.setIfInBounds_toArray, List.set_cons_zero, List.set_cons_succ]
      refine wpAnyH_take (i := 11) (v := .bool false) rfl (by kernel_rfl) (by kernel_rfl) (by kernel_rfl) (fun _ _ _ h => h) (Or.inl ⟨by rfl, fun w' hs => by go_simp⟩) SD.out ?_
      change wpAnyH _ _ _ _ _ _ _ (Act.put _ (some 67) _) _
      simp only [Act.put, List.setIfInBounds_toArray, List.set_cons_zero, List.set_cons_succ]
      refine wpAnyH_take (i := 12) (v := .bool false) rfl (by kernel_rfl) (by kernel_rfl) (by kernel_rfl) (fun _ _ _ h => h) (Or.inl ⟨by rfl, fun w' hs => by go_simp⟩) SD.out ?_
      change wpAnyH _ _ _ _ _ _ _ (Act.put _ (some 68) _) _
      simp only [Act.put, List.setIfInBounds_toArray, List.set_cons_zero, List.set_cons_succ]
      refine wpAnyH_take (i := 13) (v := .pointer (some ⟨d, 3, none⟩)) rfl (by kernel_rfl) (by kernel_rfl) (by kernel_rfl) (fun _ _ _ h => h) (Or.inl ⟨by rfl, fun w' hs => by go_simp⟩) SD.out ?_
      change wpAnyH _ _ _ _ _ _ _ (Act.put _ (some 69) _) _
      simp only [Act.put, List.setIfInBounds_toArray, List.set_cons_zero, List.set_cons_succ]
      refine wpAnyH_take (i := 14) (v := .agg #[.slice na N.regs.length nk, .int .i64 N.pc, .slice nb N.csr.length nl, .bool N.halted, .bool N.waiting, .bool N.rung, .int .i64 N.done, .slice nc N.inn.length nm, .slice nd N.out.length no]) rfl (by kernel_rfl) (by kernel_rfl) (by kernel_rfl) (fun _ _ _ h => h) (yieldsIf_load_mid (by rfl) 39 (.tmp 69) rfl d 3 rfl [.slice na N.regs.length nk, .int .i64 N.pc, .slice nb N.csr.length nl, .bool N.halted, .bool N.waiting, .bool N.rung, .int .i64 N.done, .slice nc N.inn.length nm, .slice nd N.out.length no] _ RN.out Try.underlying39 rfl (by kernel_rfl)) SD.out ?_
      change wpAnyH _ _ _ _ _ _ _ (Act.put _ (some 70) _) _
      simp only [Act.put, List.setIfInBounds_toArray, List.set_cons_zero, List.set_cons_succ]
      refine wpAnyH_ready (rs := [15]) (by kernel_rfl) (by simp) ?_
      refine AllReadyH.cons rfl (fun K hK => ?_) AllReadyH.nil
      rw [if_pos (by rfl)]
      go_simp
      refine (CF ⟨v1, SD.out⟩).mono ?_
      rintro e w6 ⟨rfl, b8⟩
      have S6 : Hid (Below U5.heap.size U5 w6) := on SD.out b8
      refine hK.out _ _ S6.out (fun _ => ?_)
      clear hK K b8
      refine wpAnyH_take (i := 16) (v := .bool false) rfl (by kernel_rfl) (by kernel_rfl) (by kernel_rfl) (fun _ _ _ h => h) (Or.inl ⟨by rfl, fun w' hs => by go_simp⟩) S6.out ?_
      change wpAnyH _ _ _ _ _ _ _ (Act.put _ (some 72) _) _
      simp only [Act.put, List.setIfInBounds_toArray, List.set_cons_zero, List.set_cons_succ]
      refine wpAnyH_take (i := 17) (v := .bool false) rfl (by kernel_rfl) (by kernel_rfl) (by kernel_rfl) (fun _ _ _ h => h) (Or.inl ⟨by rfl, fun w' hs => by go_simp⟩) S6.out ?_
      change wpAnyH _ _ _ _ _ _ _ (Act.put _ (some 73) _) _
      simp only [Act.put, List.setIfInBounds_toArray, List.set_cons_zero, List.set_cons_succ]
      refine wpAnyH_done (by kernel_rfl) ?_ _
      have VD6 : Hid (Vb w6 d #[.int .i64 0, .int .i64 y, .int .i64 (-1), .slice na N.regs.length nk, .int .i64 N.pc, .slice nb N.csr.length nl, .bool N.halted, .bool N.waiting, .bool N.rung, .int .i64 N.done, .slice nc N.inn.length nm, .slice nd N.out.length no] 46) := VD.out.keep S6.out
      have VT6 : Hid (Vb w6 t #[.slice ra rn rk, .int .i64 GJ.pc, .slice ca cn ck, .bool GJ.halted, .bool GJ.waiting, .bool GJ.rung, .int .i64 GJ.done, .slice ia in_ ik, .slice oa on_ ok] 39) := VJ5.out.keep S6.out
      have NI : Hid (_ ∧ _) := nine VT6.out (.slice na N.regs.length nk) (.int .i64 N.pc) (.slice nb N.csr.length nl) (.bool N.halted) (.bool N.waiting) (.bool N.rung) (.int .i64 N.done) (.slice nc N.inn.length nm) (.slice nd N.out.length no)
      have MN6 : Hid (Hm w6 0 (.slice na N.regs.length nk) (.slice nb N.csr.length nl) (.slice nc N.inn.length nm) (.slice nd N.out.length no) N) := MN.out.keep S6.out
      have Q6 : Hid (Mq (fun k => k = t) w10 w6) := (QJ.out.trans (Mq.of (below_grown (on BL5.out S6.out) none) fun k e => by cases e))
      have d3 := VD6.out.cell 3 rfl
      have d4 := VD6.out.cell 4 rfl
      have d5 := VD6.out.cell 5 rfl
      have d6 := VD6.out.cell 6 rfl
      have d7 := VD6.out.cell 7 rfl
      have d8 := VD6.out.cell 8 rfl
      have d9 := VD6.out.cell 9 rfl
      have d10 := VD6.out.cell 10 rfl
      have d11 := VD6.out.cell 11 rfl
      have t0 := VT6.out.cell 0 rfl
      have f0 := VT6.out.free 0
      have t1 := VT6.out.cell 1 rfl
      have f1 := VT6.out.free 1
      have t2 := VT6.out.cell 2 rfl
      have f2 := VT6.out.free 2
      have t3 := VT6.out.cell 3 rfl
      have f3 := VT6.out.free 3
      have t4 := VT6.out.cell 4 rfl
      have f4 := VT6.out.free 4
      have t5 := VT6.out.cell 5 rfl
      have f5 := VT6.out.free 5
      have t6 := VT6.out.cell 6 rfl
      have f6 := VT6.out.free 6
      have t7 := VT6.out.cell 7 rfl
      have f7 := VT6.out.free 7
      have t8 := VT6.out.cell 8 rfl
      have f8 := VT6.out.free 8
      go_wp2_with fail
      generalize (((((((((w6.setCell ⟨t, 0, none⟩ (.slice na N.regs.length nk)).setCell ⟨t, 1, none⟩ (.int .i64 N.pc)).setCell ⟨t, 2, none⟩ (.slice nb N.csr.length nl)).setCell ⟨t, 3, none⟩ (.bool N.halted)).setCell ⟨t, 4, none⟩ (.bool N.waiting)).setCell ⟨t, 5, none⟩ (.bool N.rung)).setCell ⟨t, 6, none⟩ (.int .i64 N.done)).setCell ⟨t, 7, none⟩ (.slice nc N.inn.length nm)).setCell ⟨t, 8, none⟩ (.slice nd N.out.length no)) = V6 at *
      go_roundw
      case rel => exact ⟨j + 1, na, _, nk, nb, _, nl, nc, _, nm, nd, _, no, by have := HL.out; omega, by go_num, by rw [HNN.out]; exact NI.out.1, by rw [HNN.out]; exact NI.out.2.hm MN6.out (fun k e f => MN6.out.ne_vb (t := 39) VT6.out (by decide) k e f), Q6.out.trans NI.out.2⟩
      case measure => have := HL.out; simp [intOf]; omega
    · have hJ : ¬ (j : Int) < (n : Int) := by omega
      have HL : Hid (¬ j < n) := hlt
      clear hlt hj
      have hnil : GJ.inn = [] := by rw [← HGJ.out]; show all.drop j = []; exact List.drop_eq_nil_of_le (by have := HL.out; have := HN.out; omega)
      have eG : GJ = atJ GJ [] 0 := by cases GJ; simp only at hnil; subst hnil; rfl
      have d1 : drR GJ 1 = ⟨0, 0, -1, atJ GJ [] 1⟩ := by have := drR_one (G := GJ) (all := []) (j := 0) (by rw [← eG]; exact KJ.out); rw [← eG] at this; exact this
      have HD1 : Hid (drR GJ 1 = ⟨0, 0, -1, atJ GJ [] 1⟩) := d1
      clear hnil eG d1
      generalize atJ GJ [] 1 = GE at *
      have t0 := VJ.out.cell 0 rfl
      have t1 := VJ.out.cell 1 rfl
      have t2 := VJ.out.cell 2 rfl
      have t3 := VJ.out.cell 3 rfl
      have t4 := VJ.out.cell 4 rfl
      have t5 := VJ.out.cell 5 rfl
      have t6 := VJ.out.cell 6 rfl
      have t7 := VJ.out.cell 7 rfl
      have t8 := VJ.out.cell 8 rfl
      go_wp2_with fail
      clear t0 t1 t2 t3 t4 t5 t6 t7 t8
      have f1 := i_devWrite (.slice ra rn rk) (.slice ca cn ck) (.slice ia in_ ik) (.slice oa on_ ok) GJ 0 77 _ wr MJ.out
      obtain ⟨O, hO⟩ : ∃ O, outW GJ 77 = O := ⟨_, rfl⟩
      have HO : Hid (outW GJ 77 = O) := hO
      rw [dwR_out KJ.out] at f1
      simp only [hO] at f1
      refine f1.mono ?_
      rintro e w5 ⟨r', c', i', o', rfl, m5, A5, b5⟩
      obtain ⟨ea, ek, rfl, _⟩ := m5.r.shape
      obtain ⟨eb, el, rfl, _⟩ := m5.c.shape
      obtain ⟨ec, em, rfl, _⟩ := m5.i.shape
      obtain ⟨ed, eo, rfl, _⟩ := m5.o.shape
      clear f1 A5 hO
      go_upto_region 19 with fail
      obtain ⟨d, hd⟩ : ∃ d, w5.heap.size = d := ⟨_, rfl⟩
      have VD : Hid (Vb (w5.alloc (.cells #[.int .i64 0, .int .i64 0, .int .i64 (-1), .slice ea O.regs.length ek, .int .i64 O.pc, .slice eb O.csr.length el, .bool O.halted, .bool O.waiting, .bool O.rung, .int .i64 O.done, .slice ec O.inn.length em, .slice ed O.out.length eo] 46)) d #[.int .i64 0, .int .i64 0, .int .i64 (-1), .slice ea O.regs.length ek, .int .i64 O.pc, .slice eb O.csr.length el, .bool O.halted, .bool O.waiting, .bool O.rung, .int .i64 O.done, .slice ec O.inn.length em, .slice ed O.out.length eo] 46) := by show Vb _ _ _ _; rw [← hd]; exact Vb.new _ _ _
      have MO : Hid (Nums (w5.alloc (.cells #[.int .i64 0, .int .i64 0, .int .i64 (-1), .slice ea O.regs.length ek, .int .i64 O.pc, .slice eb O.csr.length el, .bool O.halted, .bool O.waiting, .bool O.rung, .int .i64 O.done, .slice ec O.inn.length em, .slice ed O.out.length eo] 46)) 0 (.slice ed O.out.length eo) O.out) := (m5.o.keep (al (Below.refl _ _) _)).mono (Nat.zero_le _)
      have VJ5 : Hid (Vb (w5.alloc (.cells #[.int .i64 0, .int .i64 0, .int .i64 (-1), .slice ea O.regs.length ek, .int .i64 O.pc, .slice eb O.csr.length el, .bool O.halted, .bool O.waiting, .bool O.rung, .int .i64 O.done, .slice ec O.inn.length em, .slice ed O.out.length eo] 46)) t #[.slice ra rn rk, .int .i64 GJ.pc, .slice ca cn ck, .bool GJ.halted, .bool GJ.waiting, .bool GJ.rung, .int .i64 GJ.done, .slice ia in_ ik, .slice oa on_ ok] 39) := (VJ.out.keep b5).push _
      have MJ5 : Hid (Hm (w5.alloc (.cells #[.int .i64 0, .int .i64 0, .int .i64 (-1), .slice ea O.regs.length ek, .int .i64 O.pc, .slice eb O.csr.length el, .bool O.halted, .bool O.waiting, .bool O.rung, .int .i64 O.done, .slice ec O.inn.length em, .slice ed O.out.length eo] 46)) 0 (.slice ra rn rk) (.slice ca cn ck) (.slice ia in_ ik) (.slice oa on_ ok) GJ) := (MJ.out.keep b5).keep (al (Below.refl _ _) _)
      have BJ5 : Hid (Below w.heap.size w (w5.alloc (.cells #[.int .i64 0, .int .i64 0, .int .i64 (-1), .slice ea O.regs.length ek, .int .i64 O.pc, .slice eb O.csr.length el, .bool O.halted, .bool O.waiting, .bool O.rung, .int .i64 O.done, .slice ec O.inn.length em, .slice ed O.out.length eo] 46))) := al (on BJ.out b5) _
      rw [hd]
      generalize w5.alloc (.cells #[.int .i64 0, .int .i64 0, .int .i64 (-1), .slice ea O.regs.length ek, .int .i64 O.pc, .slice eb O.csr.length el, .bool O.halted, .bool O.waiting, .bool O.rung, .int .i64 O.done, .slice ec O.inn.length em, .slice ed O.out.length eo] 46) = U5 at *
      clear hd m5 b5
      have t0 := VJ5.out.cell 0 rfl
      have t1 := VJ5.out.cell 1 rfl
      have t2 := VJ5.out.cell 2 rfl
      have t3 := VJ5.out.cell 3 rfl
      have t4 := VJ5.out.cell 4 rfl
      have t5 := VJ5.out.cell 5 rfl
      have t6 := VJ5.out.cell 6 rfl
      have t7 := VJ5.out.cell 7 rfl
      have t8 := VJ5.out.cell 8 rfl
      go_wp2_with fail
      clear t0 t1 t2 t3 t4 t5 t6 t7 t8
      have f1 := i_devWrite (.slice ra rn rk) (.slice ca cn ck) (.slice ia in_ ik) (.slice oa on_ ok) GJ 5 3 _ U5 MJ5.out
      rw [dwR_ring KJ.out] at f1
      refine f1.mono ?_
      rintro e w6 ⟨r', c', i', o', rfl, m6, A6, b6⟩
      obtain ⟨ga, gk, rfl, _⟩ := m6.r.shape
      obtain ⟨gb, gl, rfl, _⟩ := m6.c.shape
      obtain ⟨gc, gm, rfl, _⟩ := m6.i.shape
      obtain ⟨gd, go_, rfl, _⟩ := m6.o.shape
      clear f1 A6 m6
      go_upto_region 20 with fail
      obtain ⟨g, hg⟩ : ∃ g, w6.heap.size = g := ⟨_, rfl⟩
      have bb : Below U5.heap.size U5 (w6.alloc (.cells #[.int .i64 0, .int .i64 0, .int .i64 3, .slice ga GJ.regs.length gk, .int .i64 GJ.pc, .slice gb GJ.csr.length gl, .bool GJ.halted, .bool GJ.waiting, .bool GJ.rung, .int .i64 GJ.done, .slice gc GJ.inn.length gm, .slice gd GJ.out.length go_] 46)) := al b6 _
      have VE : Hid (Vb (w6.alloc (.cells #[.int .i64 0, .int .i64 0, .int .i64 3, .slice ga GJ.regs.length gk, .int .i64 GJ.pc, .slice gb GJ.csr.length gl, .bool GJ.halted, .bool GJ.waiting, .bool GJ.rung, .int .i64 GJ.done, .slice gc GJ.inn.length gm, .slice gd GJ.out.length go_] 46)) g #[.int .i64 0, .int .i64 0, .int .i64 3, .slice ga GJ.regs.length gk, .int .i64 GJ.pc, .slice gb GJ.csr.length gl, .bool GJ.halted, .bool GJ.waiting, .bool GJ.rung, .int .i64 GJ.done, .slice gc GJ.inn.length gm, .slice gd GJ.out.length go_] 46) := by show Vb _ _ _ _; rw [← hg]; exact Vb.new _ _ _
      have VD6 : Hid (Vb (w6.alloc (.cells #[.int .i64 0, .int .i64 0, .int .i64 3, .slice ga GJ.regs.length gk, .int .i64 GJ.pc, .slice gb GJ.csr.length gl, .bool GJ.halted, .bool GJ.waiting, .bool GJ.rung, .int .i64 GJ.done, .slice gc GJ.inn.length gm, .slice gd GJ.out.length go_] 46)) d #[.int .i64 0, .int .i64 0, .int .i64 (-1), .slice ea O.regs.length ek, .int .i64 O.pc, .slice eb O.csr.length el, .bool O.halted, .bool O.waiting, .bool O.rung, .int .i64 O.done, .slice ec O.inn.length em, .slice ed O.out.length eo] 46) := VD.out.keep bb
      have MO6 : Hid (Nums (w6.alloc (.cells #[.int .i64 0, .int .i64 0, .int .i64 3, .slice ga GJ.regs.length gk, .int .i64 GJ.pc, .slice gb GJ.csr.length gl, .bool GJ.halted, .bool GJ.waiting, .bool GJ.rung, .int .i64 GJ.done, .slice gc GJ.inn.length gm, .slice gd GJ.out.length go_] 46)) 0 (.slice ed O.out.length eo) O.out) := MO.out.keep bb
      have VJ6 : Hid (Vb (w6.alloc (.cells #[.int .i64 0, .int .i64 0, .int .i64 3, .slice ga GJ.regs.length gk, .int .i64 GJ.pc, .slice gb GJ.csr.length gl, .bool GJ.halted, .bool GJ.waiting, .bool GJ.rung, .int .i64 GJ.done, .slice gc GJ.inn.length gm, .slice gd GJ.out.length go_] 46)) t #[.slice ra rn rk, .int .i64 GJ.pc, .slice ca cn ck, .bool GJ.halted, .bool GJ.waiting, .bool GJ.rung, .int .i64 GJ.done, .slice ia in_ ik, .slice oa on_ ok] 39) := VJ5.out.keep bb
      have MJ6 : Hid (Hm (w6.alloc (.cells #[.int .i64 0, .int .i64 0, .int .i64 3, .slice ga GJ.regs.length gk, .int .i64 GJ.pc, .slice gb GJ.csr.length gl, .bool GJ.halted, .bool GJ.waiting, .bool GJ.rung, .int .i64 GJ.done, .slice gc GJ.inn.length gm, .slice gd GJ.out.length go_] 46)) 0 (.slice ra rn rk) (.slice ca cn ck) (.slice ia in_ ik) (.slice oa on_ ok) GJ) := MJ5.out.keep bb
      have BJ6 : Hid (Below w.heap.size w (w6.alloc (.cells #[.int .i64 0, .int .i64 0, .int .i64 3, .slice ga GJ.regs.length gk, .int .i64 GJ.pc, .slice gb GJ.csr.length gl, .bool GJ.halted, .bool GJ.waiting, .bool GJ.rung, .int .i64 GJ.done, .slice gc GJ.inn.length gm, .slice gd GJ.out.length go_] 46))) := on BJ5.out bb
      rw [hg]
      generalize w6.alloc (.cells #[.int .i64 0, .int .i64 0, .int .i64 3, .slice ga GJ.regs.length gk, .int .i64 GJ.pc, .slice gb GJ.csr.length gl, .bool GJ.halted, .bool GJ.waiting, .bool GJ.rung, .int .i64 GJ.done, .slice gc GJ.inn.length gm, .slice gd GJ.out.length go_] 46) = U6 at *
      clear hg b6 bb VD MO VJ5 MJ5 BJ5 VJ MJ BJ
      have ON : Hid (on_ = GJ.out.length) := MJ6.out.o.len
      have o40 : (on_ : Int) ≤ 40 := by have := ON.out; have := KJ.out.o40; omega
      have t8 := VJ6.out.cell 8 rfl
      by_cases h40 : on_ = 40
      · subst h40
        have EO : Hid (O = GJ) := by show _ = _; rw [← HO.out]; unfold outW; rw [if_neg (by have := ON.out; omega)]
        have OL : O.out.length = 40 := by have := ON.out; rw [EO.out]; omega
        have d11 : U6.cell? ⟨d, 11, none⟩ = some (.slice ed 40 eo) := by rw [← OL]; exact VD6.out.cell 11 rfl
        have NO : Hid (Nums U6 0 (.slice ed 40 eo) GJ.out) := by show Nums _ _ _ _; have := MO6.out; rw [OL, EO.out] at this; exact this
        clear OL
        go_upto_region 22 with (go_at_call 22; refine (lw_nums _ _ GJ.out _ _ _ NO.out MJ6.out.o).mono ?_; rintro e u7 ⟨rfl, b7⟩; have C7 : Hid (Below U6.heap.size U6 u7) := b7; clear b7)
        clear d11 t8
        have t0 := (VJ6.out.keep C7.out).cell 0 rfl
        have t1 := (VJ6.out.keep C7.out).cell 1 rfl
        have t2 := (VJ6.out.keep C7.out).cell 2 rfl
        have t3 := (VJ6.out.keep C7.out).cell 3 rfl
        have t4 := (VJ6.out.keep C7.out).cell 4 rfl
        have t5 := (VJ6.out.keep C7.out).cell 5 rfl
        have t6 := (VJ6.out.keep C7.out).cell 6 rfl
        have t7 := (VJ6.out.keep C7.out).cell 7 rfl
        have t8 := (VJ6.out.keep C7.out).cell 8 rfl
        have g2 := (VE.out.keep C7.out).cell 2 rfl
        have d2 := (VD6.out.keep C7.out).cell 2 rfl
        go_wp2_with fail
        clear t0 t1 t2 t3 t4 t5 t6 t7 t8 g2 d2
        have f1 := i_devRead (.slice ra rn rk) (.slice ca cn ck) (.slice ia in_ ik) (.slice oa 40 ok) GJ 1 _ u7 (MJ6.out.keep C7.out)
        rw [HD1.out] at f1
        refine f1.mono ?_
        rintro e w8 ⟨r', c', i', o', rfl, -, -, b8⟩
        have C8 : Hid (Below U6.heap.size U6 w8) := on C7.out b8
        clear f1 b8
        have t0 := (VJ6.out.keep C8.out).cell 0 rfl
        have t1 := (VJ6.out.keep C8.out).cell 1 rfl
        have t2 := (VJ6.out.keep C8.out).cell 2 rfl
        have t3 := (VJ6.out.keep C8.out).cell 3 rfl
        have t4 := (VJ6.out.keep C8.out).cell 4 rfl
        have t5 := (VJ6.out.keep C8.out).cell 5 rfl
        have t6 := (VJ6.out.keep C8.out).cell 6 rfl
        have t7 := (VJ6.out.keep C8.out).cell 7 rfl
        have t8 := (VJ6.out.keep C8.out).cell 8 rfl
        have g2 := (VE.out.keep C8.out).cell 2 rfl
        have d2 := (VD6.out.keep C8.out).cell 2 rfl
        have hf := field_dev1
        go_wp2_with fail
        clear t0 t1 t2 t3 t4 t5 t6 t7 t8 g2 d2
        clear hf
        have f1 := i_ringHart (.slice ra rn rk) (.slice ca cn ck) (.slice ia in_ ik) (.slice oa 40 ok) GJ _ w8 (MJ6.out.keep C8.out)
        rw [ringR_ok KJ.out] at f1
        refine f1.mono ?_
        rintro e w9 ⟨r', c', i', o', rfl, -, -, b9⟩
        have C9 : Hid (Below U6.heap.size U6 w9) := on C8.out b9
        have ER : (ringV GJ).rung = true := rfl
        rw [ER]
        clear f1 b9 ER
        have t0 := (VJ6.out.keep C9.out).cell 0 rfl
        have t1 := (VJ6.out.keep C9.out).cell 1 rfl
        have t2 := (VJ6.out.keep C9.out).cell 2 rfl
        have t3 := (VJ6.out.keep C9.out).cell 3 rfl
        have t4 := (VJ6.out.keep C9.out).cell 4 rfl
        have t5 := (VJ6.out.keep C9.out).cell 5 rfl
        have t6 := (VJ6.out.keep C9.out).cell 6 rfl
        have t7 := (VJ6.out.keep C9.out).cell 7 rfl
        have t8 := (VJ6.out.keep C9.out).cell 8 rfl
        have g2 := (VE.out.keep C9.out).cell 2 rfl
        have d2 := (VD6.out.keep C9.out).cell 2 rfl
        have hf := field_hart
        have hf2 := field_h5
        go_wp2_with fail
        clear t0 t1 t2 t3 t4 t5 t6 t7 t8 g2 d2
        clear hf hf2
        have f1 := i_ringHart (.slice ra rn rk) (.slice ca cn ck) (.slice ia in_ ik) (.slice oa 40 ok) GJ _ w9 (MJ6.out.keep C9.out)
        rw [ringR_ok KJ.out] at f1
        refine f1.mono ?_
        rintro e w10' ⟨r', c', i', o', rfl, m10, -, b10⟩
        have C10 : Hid (Below U6.heap.size U6 w10') := on C9.out b10
        have M10 : Hid (Hm w10' _ r' c' i' o' (ringV GJ)) := m10
        have PR : Hid (pendR (ringV GJ) = (0, pendV (ringV GJ)) ∧ 2 ≤ pendV (ringV GJ)) := pend_ring GJ KJ.out
        obtain ⟨GR, hGR⟩ : ∃ GR, ringV GJ = GR := ⟨_, rfl⟩
        simp only [hGR] at M10 PR ⊢
        clear f1 b10 m10 hGR
        have hf := field_hart
        go_wp2_with fail
        clear hf
        have f1 := i_pendingOf _ _ _ _ GR _ w10' M10.out
        rw [PR.out.1] at f1
        refine f1.mono ?_
        rintro e w11 ⟨rfl, b11⟩
        have C11 : Hid (Below U6.heap.size U6 w11) := on C10.out b11
        obtain ⟨pv, hpv⟩ : ∃ pv, pendV GR = pv := ⟨_, rfl⟩
        have p2 : 2 ≤ pv := by rw [← hpv]; exact PR.out.2
        simp only [hpv]
        have hf := field_int1
        clear f1 b11 hpv
        go_wp2_with fail
        go_ret
        exact ⟨rfl, on BJ6.out C11.out⟩
      · have hlt40 : (on_ : Int) < 40 := by omega
        have hne40 : ¬ (on_ : Int) = 40 := by omega
        have EO : Hid (O.out = GJ.out ++ [77]) := by show _ = _; rw [← HO.out]; unfold outW; rw [if_pos (by have := ON.out; omega)]
        obtain ⟨l, hl⟩ : ∃ l, O.out.length = l := ⟨_, rfl⟩
        have hlo : (l : Int) = (on_ : Int) + 1 := by rw [← hl, EO.out, List.length_append]; have := ON.out; simp; omega
        have hlo2 : l = on_ + 1 := by omega
        have d11 : U6.cell? ⟨d, 11, none⟩ = some (.slice ed l eo) := by rw [← hl]; exact VD6.out.cell 11 rfl
        have NO : Hid (Nums U6 0 (.slice ed l eo) (GJ.out ++ [77])) := by show Nums _ _ _ _; have := MO6.out; rw [hl, EO.out] at this; exact this
        obtain ⟨y0, rfl⟩ : ∃ y, ed = some ⟨y, 0, none⟩ := by
          obtain ⟨a, cc, hv, _, _, hh⟩ := NO.out.shape
          cases hv
          exact hh (by simp)
        have c77 : U6.cell? ⟨y0, on_, none⟩ = some (.int .i64 77) := by
          have := NO.out.cell NO.out.len on_ (by omega)
          rw [ON.out, last_get, ← ON.out] at this
          exact this
        subst hlo2
        clear hl hlo
        have C7 : Hid (Below U6.heap.size U6 U6) := Below.refl _ _
        go_upto_region 22 with fail
        clear d11 t8 c77
        have t0 := (VJ6.out.keep C7.out).cell 0 rfl
        have t1 := (VJ6.out.keep C7.out).cell 1 rfl
        have t2 := (VJ6.out.keep C7.out).cell 2 rfl
        have t3 := (VJ6.out.keep C7.out).cell 3 rfl
        have t4 := (VJ6.out.keep C7.out).cell 4 rfl
        have t5 := (VJ6.out.keep C7.out).cell 5 rfl
        have t6 := (VJ6.out.keep C7.out).cell 6 rfl
        have t7 := (VJ6.out.keep C7.out).cell 7 rfl
        have t8 := (VJ6.out.keep C7.out).cell 8 rfl
        have g2 := (VE.out.keep C7.out).cell 2 rfl
        have d2 := (VD6.out.keep C7.out).cell 2 rfl
        go_wp2_with fail
        clear t0 t1 t2 t3 t4 t5 t6 t7 t8 g2 d2
        have f1 := i_devRead (.slice ra rn rk) (.slice ca cn ck) (.slice ia in_ ik) (.slice oa on_ ok) GJ 1 _ U6 (MJ6.out.keep C7.out)
        rw [HD1.out] at f1
        refine f1.mono ?_
        rintro e w8 ⟨r', c', i', o', rfl, -, -, b8⟩
        have C8 : Hid (Below U6.heap.size U6 w8) := on C7.out b8
        clear f1 b8
        have t0 := (VJ6.out.keep C8.out).cell 0 rfl
        have t1 := (VJ6.out.keep C8.out).cell 1 rfl
        have t2 := (VJ6.out.keep C8.out).cell 2 rfl
        have t3 := (VJ6.out.keep C8.out).cell 3 rfl
        have t4 := (VJ6.out.keep C8.out).cell 4 rfl
        have t5 := (VJ6.out.keep C8.out).cell 5 rfl
        have t6 := (VJ6.out.keep C8.out).cell 6 rfl
        have t7 := (VJ6.out.keep C8.out).cell 7 rfl
        have t8 := (VJ6.out.keep C8.out).cell 8 rfl
        have g2 := (VE.out.keep C8.out).cell 2 rfl
        have d2 := (VD6.out.keep C8.out).cell 2 rfl
        have hf := field_dev1
        go_wp2_with fail
        clear t0 t1 t2 t3 t4 t5 t6 t7 t8 g2 d2
        clear hf
        have f1 := i_ringHart (.slice ra rn rk) (.slice ca cn ck) (.slice ia in_ ik) (.slice oa on_ ok) GJ _ w8 (MJ6.out.keep C8.out)
        rw [ringR_ok KJ.out] at f1
        refine f1.mono ?_
        rintro e w9 ⟨r', c', i', o', rfl, -, -, b9⟩
        have C9 : Hid (Below U6.heap.size U6 w9) := on C8.out b9
        have ER : (ringV GJ).rung = true := rfl
        rw [ER]
        clear f1 b9 ER
        have t0 := (VJ6.out.keep C9.out).cell 0 rfl
        have t1 := (VJ6.out.keep C9.out).cell 1 rfl
        have t2 := (VJ6.out.keep C9.out).cell 2 rfl
        have t3 := (VJ6.out.keep C9.out).cell 3 rfl
        have t4 := (VJ6.out.keep C9.out).cell 4 rfl
        have t5 := (VJ6.out.keep C9.out).cell 5 rfl
        have t6 := (VJ6.out.keep C9.out).cell 6 rfl
        have t7 := (VJ6.out.keep C9.out).cell 7 rfl
        have t8 := (VJ6.out.keep C9.out).cell 8 rfl
        have g2 := (VE.out.keep C9.out).cell 2 rfl
        have d2 := (VD6.out.keep C9.out).cell 2 rfl
        have hf := field_hart
        have hf2 := field_h5
        go_wp2_with fail
        clear t0 t1 t2 t3 t4 t5 t6 t7 t8 g2 d2
        clear hf hf2
        have f1 := i_ringHart (.slice ra rn rk) (.slice ca cn ck) (.slice ia in_ ik) (.slice oa on_ ok) GJ _ w9 (MJ6.out.keep C9.out)
        rw [ringR_ok KJ.out] at f1
        refine f1.mono ?_
        rintro e w10' ⟨r', c', i', o', rfl, m10, -, b10⟩
        have C10 : Hid (Below U6.heap.size U6 w10') := on C9.out b10
        have M10 : Hid (Hm w10' _ r' c' i' o' (ringV GJ)) := m10
        have PR : Hid (pendR (ringV GJ) = (0, pendV (ringV GJ)) ∧ 2 ≤ pendV (ringV GJ)) := pend_ring GJ KJ.out
        obtain ⟨GR, hGR⟩ : ∃ GR, ringV GJ = GR := ⟨_, rfl⟩
        simp only [hGR] at M10 PR ⊢
        clear f1 b10 m10 hGR
        have hf := field_hart
        go_wp2_with fail
        clear hf
        have f1 := i_pendingOf _ _ _ _ GR _ w10' M10.out
        rw [PR.out.1] at f1
        refine f1.mono ?_
        rintro e w11 ⟨rfl, b11⟩
        have C11 : Hid (Below U6.heap.size U6 w11) := on C10.out b11
        obtain ⟨pv, hpv⟩ : ∃ pv, pendV GR = pv := ⟨_, rfl⟩
        have p2 : 2 ≤ pv := by rw [← hpv]; exact PR.out.2
        simp only [hpv]
        have hf := field_int1
        clear f1 b11 hpv
        go_wp2_with fail
        go_ret
        exact ⟨rfl, on BJ6.out C11.out⟩

set_option maxRecDepth 100000 in
theorem lifted (os : Os) (started : os.Started) (H : Type) (enc : TypeId × Value → H) :
    ReturnsInHanded {} Try.checked os 4 .any (Rows.fnDevicesSpec.pre6 enc Try.prog Try.f4 Rows.fnDevicesRow.domain false) (Rows.fnDevicesSpec.post enc Try.prog Try.f4 false true false false) := by
  refine returnsInHanded_of_change (C := Try.checked) own started (by kernel_rfl) Try.func4
    (ChangeSpec.witness6 (enc := enc) (C := Try.checked) false ⟨#[], #[.slice none 0 0], []⟩ 8 (by kernel_rfl) (by kernel_rfl) (by kernel_rfl) (by kernel_rfl)) ?_
  intro W base args ds gs before hval0 hW hcnd _
  have hval : ∀ (j : Nat) t v, Try.f4.params[j]? = some t → args[j]? = some v → Value.okWide Try.prog W .any base t v := hval0
  have hW' := hW
  obtain ⟨p, q, hA0, hV, rfl, hfz, hnd⟩ := hW
  have hA : DataW.TrodAll enc Try.prog W 0 (fun _ => true) true Try.f4.params.toList args.toList ds p := hA0
  rw [Try.params4] at hA hval
  obtain ⟨v0, vs0, d0, ds0, p0, q0, hargs, rfl, rfl, h0, r0⟩ := trodAll_cons hA
  obtain ⟨rfl, rfl, rfl⟩ := trodAll_nil r0
  obtain rfl : args = #[v0] := by cases args; simp_all
  obtain ⟨rfl, rfl⟩ := trodVars_none hV
  obtain ⟨a0, len0, cap0, rfl⟩ := okWide_slice Try.underlying22 (hval 0 22 v0 rfl rfl)
  have k0 := h0
  have lt0 : ∀ x ∈ p0, x.block < W.heap.size := by obtain ⟨m, hm⟩ := k0; exact DataW.trod_lt m _ _ _ hm
  obtain ⟨z0, w0⟩ : ∃ zs, IsRow .u8 W a0 len0 cap0 zs := by
    obtain ⟨fuel, hf⟩ := h0
    rcases open_ints Try.underlying22 Try.underlying5 (by kernel_rfl) hf with ⟨hcs, _⟩ | ⟨x, l, c, zs, hcs, _, hl, hm, hz, _, hcell, hwz⟩
    · simp [Value.cells] at hcs
      obtain ⟨rfl, rfl, rfl⟩ := hcs
      exact ⟨[], .inl ⟨rfl, rfl, rfl, rfl⟩⟩
    · simp [Value.cells] at hcs
      obtain ⟨rfl, rfl, rfl⟩ := hcs
      exact ⟨_, IsRow.of_all hl hm (by simpa using hz) hcell hwz⟩
  clear hA0 hval0
  refine (walk a0 len0 cap0 z0 W w0).mono fun e W' ⟨he, bel⟩ => ?_
  subst he
  exact ⟨_, rfl, _, _, _, [], _, [], hW', trodAll_mk1 (shut_bool Try.underlying4 _), (trodAll_cons_mk (Below.trod laidOut (by kernel_rfl) (of_decide_eq_true (by kernel_rfl)) k0 bel lt0) trodAll_mk0), rfl, bel.frame _, fun h => by cases h⟩

theorem over : Rows.fnDevicesRow.holds Try.pinned (OpenSpec.ofChange Rows.fnDevicesSpec) :=
  OpenClaim.holds_of_wide 4 Try.f4 rfl rfl rfl rfl rfl rfl rfl ⟨rfl, rfl, rfl, rfl, rfl⟩ rfl rfl rfl rfl rfl (by kernel_rfl) Try.func4 (by kernel_rfl)
    (of_decide_eq_true (by kernel_rfl)) (by unfold Func.isWrapper; first | (rw [if_pos (by decide +kernel)]; kernel_rfl) | (rw [if_neg (by decide +kernel)]; exact ⟨rfl, rfl⟩))
    (fun os started H enc _ => lifted os started H enc)

theorem proved : Rows.FnDevicesSaid := over
end Go.Proofs.Yteaccakodaidpaa.fnDevicesDone
