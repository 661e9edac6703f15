/- Texts of this seat, joined. -/
import Derived.Test.YtkaehdlgimodjaaGreatDoorQ48
import Derived.Test.YtkaehdlgimodjaaGreatDoorQ49
namespace Go.Proofs.YtkaehdlgimodjaaGreatDoor
open Go.RowKit
set_option linter.unusedVariables false

theorem field_int (x y : Value) (w : World) : (Instr.field 57 (.agg #[x, y]) 1).run Tryz.prog w = .ok y w := by kernel_rfl
theorem isb_keepH {w w' : World} {T e : TypeId} {B b : Nat} {bs : List Value} (h : Lib.IsBuilder T e B b bs w) (k : Below w.heap.size w w') : Lib.IsBuilder T e B b bs w' := h.imp (bd_keep · k) (bd_keep · k)
set_option maxRecDepth 20000 in
set_option maxHeartbeats 8000000 in
theorem i_hostText (a0 a1 a2 a3 : Option Addr) (n0 c0 n1 c1 n2 c2 n3 c3 : Nat) (m h : Value) (X : Hst) (b : Nat) (w : World) (d : Oj w b a0 n0 c0 a1 n1 c1 a2 n2 c2 a3 n3 c3 m h X) (hg : w.cell? ⟨0, 0, none⟩ = some (.iface 173 (.agg #[.pointer (some ⟨4, 68, none⟩)]))) (ht : Lib.TabIs Tryz.prog w "internal/strconv.uint64pow10" .u64 Lib.pow10Tab) :
    Calls Tryz.prog 7 #[.agg #[.slice a0 n0 c0, .slice a1 n1 c1, .slice a2 n2 c2, .slice a3 n3 c3, m, h, .int .i64 X.slot, .int .i64 X.left, .int .i64 X.clock]] w fun e w' => e = .returned (.agg #[.int .i64 (htR X).1, .string (bs (htR X).2)]) ∧ Below w.heap.size w w' := by
  obtain ⟨am, cm, rfl, _⟩ := d.mem.shape
  obtain ⟨ah, ch, rfl, _, lh2, gh⟩ := d.harts.shape
  obtain ⟨U, hU⟩ : ∃ U, (htR X).1 = U := ⟨_, rfl⟩
  obtain ⟨T, hT⟩ : ∃ T, bs (htR X).2 = T := ⟨_, rfl⟩
  rw [hU, hT]
  have HU : Hid ((htR X).1 = U ∧ bs (htR X).2 = T) := ⟨hU, hT⟩
  clear hU hT
  obtain ⟨lm, hlm⟩ : ∃ n, X.mem.length = n := ⟨_, rfl⟩
  obtain ⟨lh, hlh⟩ : ∃ n, X.harts.length = n := ⟨_, rfl⟩
  rw [hlm, hlh] at d
  rw [hlh] at gh
  rw [hlm, hlh]
  have HLH : Hid (X.harts.length = lh) := hlh
  have GH : Hid (0 < lh → ∃ g, ah = some ⟨g, 0, none⟩) := gh
  clear hlm hlh gh lh2
  generalize hW : (w.alloc (.cells #[.slice a0 n0 c0, .slice a1 n1 c1, .slice a2 n2 c2, .slice a3 n3 c3, .slice am lm cm, .slice ah lh ch, .int .i64 X.slot, .int .i64 X.left, .int .i64 X.clock] 43)).alloc (.cells #[.int .i64 0, .string ⟨#[]⟩] 34) = W
  have B0 : Hid (Below w.heap.size w W) := by show Below _ _ _; rw [← hW]; exact al (al (Below.refl _ _) _) _
  obtain ⟨s, hS⟩ : ∃ s, w.heap.size = s := ⟨_, rfl⟩
  have HSs : Hid (w.heap.size = s) := hS
  have Q : Hid (Vb W s #[.slice a0 n0 c0, .slice a1 n1 c1, .slice a2 n2 c2, .slice a3 n3 c3, .slice am lm cm, .slice ah lh ch, .int .i64 X.slot, .int .i64 X.left, .int .i64 X.clock] 43) := by show Vb _ _ _ _; rw [← hW, ← hS]; exact (Vb.new _ _ _).push _
  have R : Hid (Vb W (s + 1) #[.int .i64 0, .string ⟨#[]⟩] 34) := by
    have z1 : s + 1 = (w.alloc (.cells #[.slice a0 n0 c0, .slice a1 n1 c1, .slice a2 n2 c2, .slice a3 n3 c3, .slice am lm cm, .slice ah lh ch, .int .i64 X.slot, .int .i64 X.left, .int .i64 X.clock] 43)).heap.size := by rw [← hS]; simp
    show Vb _ _ _ _; rw [← hW, z1]; exact Vb.new _ _ _
  have D : Hid (Oj W b a0 n0 c0 a1 n1 c1 a2 n2 c2 a3 n3 c3 (.slice am lm cm) (.slice ah lh ch) X) := d.keep B0.out
  have HG : Hid (W.cell? ⟨0, 0, none⟩ = some (.iface 173 (.agg #[.pointer (some ⟨4, 68, none⟩)]))) := cell_keep B0.out hg
  have HTw : Hid (Lib.TabIs Tryz.prog w "internal/strconv.uint64pow10" .u64 Lib.pow10Tab) := ht
  clear d hg ht
  have q0 := Q.out.cell 0 rfl
  have q1 := Q.out.cell 1 rfl
  have q2 := Q.out.cell 2 rfl
  have q3 := Q.out.cell 3 rfl
  have q4 := Q.out.cell 4 rfl
  have q5 := Q.out.cell 5 rfl
  have q6 := Q.out.cell 6 rfl
  have q7 := Q.out.cell 7 rfl
  have q8 := Q.out.cell 8 rfl
  go_enter Tryz.func7, Tryz.ntmps7
  go_wp2_with fail
  clear hW hS q0 q1 q2 q3 q4 q5 q6 q7 q8
  refine (i_hostFault _ _ _ _ _ _ _ _ _ _ _ _ _ _ X b _ D.out HG.out).mono ?_
  rintro e w1 ⟨rfl, b1⟩
  have B1 : Hid (Below w.heap.size w w1) := on B0.out b1
  have R1 : Hid (Vb w1 (s + 1) #[.int .i64 0, .string ⟨#[]⟩] 34) := R.out.keep b1
  have Q1 : Hid (Vb w1 s #[.slice a0 n0 c0, .slice a1 n1 c1, .slice a2 n2 c2, .slice a3 n3 c3, .slice am lm cm, .slice ah lh ch, .int .i64 X.slot, .int .i64 X.left, .int .i64 X.clock] 43) := Q.out.keep b1
  have D1 : Hid (Oj w1 b a0 n0 c0 a1 n1 c1 a2 n2 c2 a3 n3 c3 (.slice am lm cm) (.slice ah lh ch) X) := D.out.keep b1
  clear b1
  by_cases hf : hoV X = 0
  case neg =>
    have t1 : hoV X = U := by rw [← HU.out.1, htR, if_neg hf]
    have t2 : ⟨#[]⟩ = T := by rw [← HU.out.2, htR, if_neg hf]; rfl
    clear HU
    rw [t1]
    subst t2
    rw [t1] at hf
    clear t1
    have p0 := R1.out.cell 0 rfl
    have f0 := R1.out.free 0
    have p1 := R1.out.cell 1 rfl
    have f1 := R1.out.free 1
    go_wp2_with fail
    have NN : Hid (Vb ((w1.setCell ⟨s + 1, 0, none⟩ (.int .i64 U)).setCell ⟨s + 1, 1, none⟩ (.string ⟨#[]⟩)) (s + 1) #[.int .i64 U, .string ⟨#[]⟩] 34) := two3H R1.out (.int .i64 U) (.string ⟨#[]⟩)
    have BN : Hid (Below w.heap.size w ((w1.setCell ⟨s + 1, 0, none⟩ (.int .i64 U)).setCell ⟨s + 1, 1, none⟩ (.string ⟨#[]⟩))) := (B1.out.setCell (by have := HSs.out; show w.heap.size ≤ s + 1; omega) _).setCell (by have := HSs.out; show w.heap.size ≤ s + 1; omega) _
    clear p0 f0 p1 f1
    generalize ((w1.setCell ⟨s + 1, 0, none⟩ (.int .i64 U)).setCell ⟨s + 1, 1, none⟩ (.string ⟨#[]⟩)) = V at *
    have x0 := NN.out.cell 0 rfl
    have x1 := NN.out.cell 1 rfl
    exact bodyPost_ret (v := .agg #[.int .i64 U, .string ⟨#[]⟩]) (by simp [results, Tryz.results7, go_sem, x0, x1]) rfl ⟨rfl, BN.out⟩
  have t1 : 0 = U := by rw [← HU.out.1, htR, if_pos hf]
  have ET : Hid (bs (htW X) = T) := by show _ = _; rw [← HU.out.2, htR, if_pos hf]
  have HF : Hid (Htk X) := htk_of hf
  subst t1
  rw [hf]
  clear hf HU Q R HG B0 D
  have il : (lh : Int) ≤ 3 := by have := HF.out.n3; have := HLH.out; omega
  have HT : Hid (Lib.TabIs Tryz.prog w1 "internal/strconv.uint64pow10" .u64 Lib.pow10Tab) := Lib.tabBelow_of_tabIs HTw.out _ B1.out
  clear HTw
  obtain ⟨B, hB⟩ : ∃ B, w1.heap.size = B := ⟨_, rfl⟩
  have HB : Hid (w1.heap.size = B) := hB
  have I0 : Hid (Lib.IsBuilder 66 5 B B (Lib.byteCells []) (w1.alloc (.cells #[.pointer none, .slice none 0 0] 66))) :=
    .inl ⟨Nat.le_refl _, .slice none 0 0, by rw [← hB]; exact heap_alloc_new w1 _, World.ownsRow_nil _ _ _ _, by intro e; cases e⟩
  have W0 : Hid (Below B w1 (w1.alloc (.cells #[.pointer none, .slice none 0 0] 66))) := by show Below _ _ _; rw [← hB]; exact al (Below.refl _ _) _
  have K0 : Hid (Below w1.heap.size w1 (w1.alloc (.cells #[.pointer none, .slice none 0 0] 66))) := al (Below.refl _ _) _
  have q6 : (w1.alloc (.cells #[.pointer none, .slice none 0 0] 66)).cell? ⟨s, 6, none⟩ = some (.int .i64 X.slot) := cell_push _ (Q1.out.cell 6 rfl)
  have q7 : (w1.alloc (.cells #[.pointer none, .slice none 0 0] 66)).cell? ⟨s, 7, none⟩ = some (.int .i64 X.left) := cell_push _ (Q1.out.cell 7 rfl)
  have q8 : (w1.alloc (.cells #[.pointer none, .slice none 0 0] 66)).cell? ⟨s, 8, none⟩ = some (.int .i64 X.clock) := cell_push _ (Q1.out.cell 8 rfl)
  generalize hW1 : w1.alloc (.cells #[.pointer none, .slice none 0 0] 66) = W1 at *
  clear hB
  go_wp2_with fail
  rw [HB.out]
  clear hW1 q6 q7 q8
  have EC : Hid (nlW wdClock [X.clock, X.slot, X.left] = ht0 X 0) := (ht0_zero X).symm
  refine (i_numbers wdClock _ _ _ [X.clock, X.slot, X.left] _ (rn3H _ _ _ _ rfl) HF.out.cw (by decide) (by decide) (Lib.tabBelow_of_tabIs HT.out _ (al K0.out _))).mono ?_
  rintro e w2 ⟨rfl, b2⟩
  have I2 : Hid (Lib.IsBuilder 66 5 B B (Lib.byteCells []) w2) := isb_keepH I0.out (on (al (Below.refl _ _) _) b2)
  have LB0 : Hid (B ≤ W1.heap.size) := by show _ ≤ _; have := W0.out.size; have := HB.out; omega
  have B2 : Hid (Below B w1 w2) := W0.out.trans ((on (al (Below.refl _ _) _) b2).mono LB0.out)
  have LC : Hid ((ht0 X 0).length ≤ 2000) := by show _ ≤ _; have := ht0_len HF.out 0 (Nat.zero_le _); omega
  rw [EC.out]
  clear b2 I0 W0 K0 EC LB0
  generalize hD0 : ht0 X 0 = D0 at *
  have HD0 : Hid (ht0 X 0 = D0) := hD0
  clear hD0
  go_wp2_with fail
  refine (bd_string B B _ (bs D0) w2 I2.out (by rw [Lib.byteCells_length, bs_size]; have := LC.out; simp; omega) (by have := B2.out.size; have := HB.out; omega)).mono ?_
  rintro e w3 ⟨rfl, k3, b3⟩
  have I3 : Hid (Lib.IsBuilder 66 5 B B (Lib.byteCells (ht0 X 0)) w3) := by
    show Lib.IsBuilder _ _ _ _ _ _
    rw [HD0.out]
    exact .inr k3
  have B3 : Hid (Below B w1 w3) := B2.out.trans b3
  have q5 : w3.cell? ⟨s, 5, none⟩ = some (.slice ah lh ch) := by
    have : Below w1.heap.size w1 w3 := by rw [HB.out]; exact B3.out
    exact cell_keep this (Q1.out.cell 5 rfl)
  clear k3 b3 I2 B2 LC HD0
  go_wp2_with fail
  clear q5
  go_loopw [25] (fun i wr => ∃ j : Nat, j ≤ lh ∧ i = .int .i64 j ∧ Lib.IsBuilder 66 5 B B (Lib.byteCells (ht0 X j)) wr ∧ Below B w1 wr) (fun i _ => lh - (intOf i).toNat)
  case atStart => exact ⟨0, Nat.zero_le _, rfl, I3.out, B3.out⟩
  case round =>
    clear I3 B3
    obtain ⟨j, hj, rfl, hI1, hB1⟩ := hrel
    have I1 : Hid (Lib.IsBuilder 66 5 B B (Lib.byteCells (ht0 X j)) wr) := hI1
    have B1w : Hid (Below B w1 wr) := hB1
    have kb : Below w1.heap.size w1 wr := by rw [HB.out]; exact hB1
    have KB : Hid (Below w1.heap.size w1 wr) := kb
    have LB : Hid (B ≤ wr.heap.size) := by show _ ≤ _; have := hB1.size; have := HB.out; omega
    have LL : Hid ((ht0 X j).length ≤ 2000) := by show _ ≤ _; have := ht0_len HF.out j (by have := HLH.out; omega); have := HF.out.n3; have := HLH.out; omega
    clear hI1 hB1
    by_cases hlt : j < lh
    · obtain ⟨x1, e1⟩ := GH.out (by omega)
      subst e1
      obtain ⟨r, c, i, o, z1, z2, _⟩ := (D1.out.harts.keep KB.out).at j (by rw [HLH.out]; exact hlt)
      have GW : Hid ((htG X j).all isW = true) := HF.out.gw j (by rw [HLH.out]; exact hlt)
      have NX : Hid (_ = _) := ht0_next X j
      have GE : Hid (htG X j = htN (X.harts.getD j voidH) j) := rfl
      obtain ⟨H, hH⟩ : ∃ H, X.harts.getD j voidH = H := ⟨_, rfl⟩
      rw [hH] at z1 z2 GE
      obtain ⟨xr, lr, rfl, _⟩ := z2.r.shape
      obtain ⟨xc, lc, rfl, _⟩ := z2.c.shape
      obtain ⟨xi, li, rfl, _⟩ := z2.i.shape
      obtain ⟨xo, lo, rfl, _⟩ := z2.o.shape
      have HK : Hid (Hok H) := by have h := HF.out.ok j (by rw [HLH.out]; exact hlt); rw [hH] at h; exact h
      have ii : (H.inn.length : Int) ≤ 40 := by have := HK.out.i40; omega
      have io : (H.out.length : Int) ≤ 40 := by have := HK.out.o40; omega
      have GN : Hid (htG X j = [(j : Int), H.pc, H.done, (H.inn.length : Int), (H.out.length : Int)]) := GE.out
      have EN : Hid (ht0 X (j + 1) = ht0 X j ++ nlW wdGuest [(j : Int), H.pc, H.done, (H.inn.length : Int), (H.out.length : Int)]) := by show _ = _; rw [NX.out, GN.out]
      have GA : Hid (([(j : Int), H.pc, H.done, (H.inn.length : Int), (H.out.length : Int)] : List Int).all isW = true) := by show _ = _; rw [← GN.out]; exact GW.out
      generalize H.regs.length = m0 at *
      generalize H.csr.length = m1 at *
      generalize H.inn.length = mi at *
      generalize H.out.length = mo at *
      have DL : Hid ((nlW wdGuest [(j : Int), H.pc, H.done, (mi : Int), (mo : Int)]).length ≤ 500) := nl_len GA.out (by simp) (by decide)
      have y0 := z1.c0
      have y1 := z1.c1
      have y2 := z1.c2
      have y3 := z1.c3
      have y4 := z1.c4
      have y5 := z1.c5
      have y6 := z1.c6
      have y7 := z1.c7
      have y8 := z1.c8
      have hI : (j : Int) < (lh : Int) := by omega
      have HL : Hid (j < lh) := hlt
      have xl : x1 < wr.heap.size := block_of_cell z1.c0
      clear z1 z2 hH hlt hj kb NX GE GN GW
      go_wp2_with fail
      clear y0 y1 y2 y3 y4 y5 y6 y7 y8 xl
      refine (i_numbers wdGuest _ _ _ [(j : Int), H.pc, H.done, (mi : Int), (mo : Int)] _ (rn5H _ _ _ _ _ _ (by simp)) GA.out (by decide) (by decide) (Lib.tabBelow_of_tabIs HT.out _ (al (al KB.out _) _))).mono ?_
      rintro e w2 ⟨rfl, b2⟩
      have I2 : Hid (Lib.IsBuilder 66 5 B B (Lib.byteCells (ht0 X j)) w2) := isb_keepH I1.out (on (al (al (Below.refl _ _) _) _) b2)
      have B2 : Hid (Below B w1 w2) := B1w.out.trans ((on (al (al (Below.refl _ _) _) _) b2).mono LB.out)
      obtain ⟨D, hD⟩ : ∃ D, nlW wdGuest [(j : Int), H.pc, H.done, (mi : Int), (mo : Int)] = D := ⟨_, rfl⟩
      rw [hD] at DL EN ⊢
      clear b2 hD
      go_wp2_with fail
      refine (bd_string B B _ (bs D) w2 I2.out (by rw [Lib.byteCells_length, bs_size]; have := LL.out; have := DL.out; omega) (by have := B2.out.size; have := HB.out; omega)).mono ?_
      rintro e w3 ⟨rfl, k3, b3⟩
      have K3 : Hid (Lib.IsBuilder 66 5 B B (Lib.byteCells (ht0 X (j + 1))) w3) := by
        show Lib.IsBuilder _ _ _ _ _ _
        rw [EN.out, Lib.byteCells_append]
        exact .inr k3
      have B3 : Hid (Below B w1 w3) := B2.out.trans b3
      clear k3 b3
      go_wp2_with fail
      go_roundw
      case rel => exact ⟨j + 1, by have := HL.out; omega, by go_num, K3.out, B3.out⟩
      case measure => have := HL.out; simp [intOf]; omega
    · have hJ : ¬ (j : Int) < (lh : Int) := by omega
      have EJ : Hid (bs (ht0 X j ++ nlW wdMem [dgX X.mem]) = T) := by show _ = _; rw [← ET.out, htW, show X.harts.length = j by have := HLH.out; omega]
      have q4 := cell_keep KB.out (Q1.out.cell 4 rfl)
      have DM : Hid ((nlW wdMem [dgX X.mem]).length ≤ 500) := nl_len HF.out.mw (by simp) (by decide)
      have hfi := field_int
      have FD := fun w h => i_digest (.slice am lm cm) X.mem b w h
      have MW : Hid (([dgX X.mem] : List Int).all isW = true) := HF.out.mw
      obtain ⟨dg, hdg⟩ : ∃ dg, dgX X.mem = dg := ⟨_, rfl⟩
      rw [hdg] at EJ DM FD MW
      clear hlt hj kb hdg
      go_wp2_with fail
      refine (FD _ (D1.out.mem.keep KB.out)).mono ?_
      rintro e w2 ⟨rfl, b2⟩
      have I2 : Hid (Lib.IsBuilder 66 5 B B (Lib.byteCells (ht0 X j)) w2) := isb_keepH I1.out b2
      have B2 : Hid (Below B w1 w2) := B1w.out.trans (b2.mono LB.out)
      have K2 : Hid (Below w1.heap.size w1 w2) := on KB.out b2
      have LB2 : Hid (B ≤ w2.heap.size) := by show _ ≤ _; have := B2.out.size; have := HB.out; omega
      clear b2 FD q4 hJ
      generalize dgC X.mem = dc at *
      go_wp2_with fail
      refine (i_numbers wdMem _ _ _ [dg] _ (rn1H _ _ (by simp)) MW.out (by decide) (by decide) (Lib.tabBelow_of_tabIs HT.out _ (al K2.out _))).mono ?_
      rintro e w3 ⟨rfl, b3⟩
      have I3 : Hid (Lib.IsBuilder 66 5 B B (Lib.byteCells (ht0 X j)) w3) := isb_keepH I2.out (on (al (Below.refl _ _) _) b3)
      have B3 : Hid (Below B w1 w3) := B2.out.trans ((on (al (Below.refl _ _) _) b3).mono LB2.out)
      obtain ⟨E, hE⟩ : ∃ E, nlW wdMem [dg] = E := ⟨_, rfl⟩
      rw [hE] at DM EJ ⊢
      clear b3 hE
      go_wp2_with fail
      refine (bd_string B B _ (bs E) w3 I3.out (by rw [Lib.byteCells_length, bs_size]; have := LL.out; have := DM.out; omega) (by have := B3.out.size; have := HB.out; omega)).mono ?_
      rintro e w4 ⟨rfl, k4, b4⟩
      have I4 : Hid (Lib.IsBuilder 66 5 B B (Lib.byteCells (ht0 X j ++ E)) w4) := by
        show Lib.IsBuilder _ _ _ _ _ _
        rw [Lib.byteCells_append]
        exact .inr k4
      have B4 : Hid (Below B w1 w4) := B3.out.trans b4
      clear k4 b4
      go_wp2_with fail
      refine (Tryz.Builder_String_any B B (ht0 X j ++ E) _ I4.out (by have := B4.out.size; have := HB.out; omega)).mono ?_
      rintro e w5 ⟨rfl, b5⟩
      have B5' : Hid (Below w1.heap.size w1 w5) := by show Below _ _ _; rw [HB.out]; exact B4.out.trans b5
      have B5 : Hid (Below w.heap.size w w5) := on B1.out B5'.out
      have R5 : Hid (Vb w5 (s + 1) #[.int .i64 0, .string ⟨#[]⟩] 34) := R1.out.keep B5'.out
      have EJ2 : (⟨(ht0 X j ++ E).toArray⟩ : ByteArray) = T := EJ.out
      rw [EJ2]
      clear b5 EJ EJ2
      have p0 := R5.out.cell 0 rfl
      have f0 := R5.out.free 0
      have p1 := R5.out.cell 1 rfl
      have f1 := R5.out.free 1
      go_wp2_with fail
      have NN : Hid (Vb ((w5.setCell ⟨s + 1, 0, none⟩ (.int .i64 0)).setCell ⟨s + 1, 1, none⟩ (.string T)) (s + 1) #[.int .i64 0, .string T] 34) := two3H R5.out (.int .i64 0) (.string T)
      have BN : Hid (Below w.heap.size w ((w5.setCell ⟨s + 1, 0, none⟩ (.int .i64 0)).setCell ⟨s + 1, 1, none⟩ (.string T))) := (B5.out.setCell (by have := HSs.out; show w.heap.size ≤ s + 1; omega) _).setCell (by have := HSs.out; show w.heap.size ≤ s + 1; omega) _
      clear p0 f0 p1 f1
      generalize ((w5.setCell ⟨s + 1, 0, none⟩ (.int .i64 0)).setCell ⟨s + 1, 1, none⟩ (.string T)) = V at *
      have x0 := NN.out.cell 0 rfl
      have x1 := NN.out.cell 1 rfl
      exact bodyPost_ret (v := .agg #[.int .i64 0, .string T]) (by simp [results, Tryz.results7, go_sem, x0, x1]) rfl ⟨rfl, BN.out⟩
end Go.Proofs.YtkaehdlgimodjaaGreatDoor
namespace Go.Proofs.YtkaehdlgimodjaaGreatDoor
open Go.RowKit
set_option linter.unusedVariables false

set_option maxRecDepth 20000 in
set_option maxHeartbeats 8000000 in
theorem s_hostText (a0 a1 a2 a3 : Option Addr) (n0 c0 n1 c1 n2 c2 n3 c3 : Nat) (m h : Value) (X : Hst) (b : Nat) (w : World) (d : Oj w b a0 n0 c0 a1 n1 c1 a2 n2 c2 a3 n3 c3 m h X) :
    Calls Tryz.prog 5 #[.agg #[.slice a0 n0 c0, .slice a1 n1 c1, .slice a2 n2 c2, .slice a3 n3 c3, m, h, .int .i64 X.slot, .int .i64 X.left, .int .i64 X.clock]] w fun e w' => e = .returned (.agg #[.int .i64 (htR X).1, .string (bs (htR X).2)]) ∧ Below w.heap.size w w' := by
  obtain ⟨am, cm, rfl, _⟩ := d.mem.shape
  obtain ⟨ah, ch, rfl, _, lh2, gh⟩ := d.harts.shape
  obtain ⟨U, hU⟩ : ∃ U, (htR X).1 = U := ⟨_, rfl⟩
  obtain ⟨T, hT⟩ : ∃ T, bs (htR X).2 = T := ⟨_, rfl⟩
  rw [hU, hT]
  have HU : Hid ((htR X).1 = U ∧ bs (htR X).2 = T) := ⟨hU, hT⟩
  clear hU hT
  obtain ⟨lm, hlm⟩ : ∃ n, X.mem.length = n := ⟨_, rfl⟩
  obtain ⟨lh, hlh⟩ : ∃ n, X.harts.length = n := ⟨_, rfl⟩
  rw [hlm, hlh] at d
  rw [hlh] at gh
  rw [hlm, hlh]
  have HLH : Hid (X.harts.length = lh) := hlh
  have GH : Hid (0 < lh → ∃ g, ah = some ⟨g, 0, none⟩) := gh
  clear hlm hlh gh lh2
  generalize hW : (w.alloc (.cells #[.slice a0 n0 c0, .slice a1 n1 c1, .slice a2 n2 c2, .slice a3 n3 c3, .slice am lm cm, .slice ah lh ch, .int .i64 X.slot, .int .i64 X.left, .int .i64 X.clock] 43)).alloc (.cells #[.int .i64 0, .string ⟨#[]⟩] 34) = W
  have B0 : Hid (Below w.heap.size w W) := by show Below _ _ _; rw [← hW]; exact al (al (Below.refl _ _) _) _
  obtain ⟨s, hS⟩ : ∃ s, w.heap.size = s := ⟨_, rfl⟩
  have HSs : Hid (w.heap.size = s) := hS
  have Q : Hid (Vb W s #[.slice a0 n0 c0, .slice a1 n1 c1, .slice a2 n2 c2, .slice a3 n3 c3, .slice am lm cm, .slice ah lh ch, .int .i64 X.slot, .int .i64 X.left, .int .i64 X.clock] 43) := by show Vb _ _ _ _; rw [← hW, ← hS]; exact (Vb.new _ _ _).push _
  have R : Hid (Vb W (s + 1) #[.int .i64 0, .string ⟨#[]⟩] 34) := by
    have z1 : s + 1 = (w.alloc (.cells #[.slice a0 n0 c0, .slice a1 n1 c1, .slice a2 n2 c2, .slice a3 n3 c3, .slice am lm cm, .slice ah lh ch, .int .i64 X.slot, .int .i64 X.left, .int .i64 X.clock] 43)).heap.size := by rw [← hS]; simp
    show Vb _ _ _ _; rw [← hW, z1]; exact Vb.new _ _ _
  have D : Hid (Oj W b a0 n0 c0 a1 n1 c1 a2 n2 c2 a3 n3 c3 (.slice am lm cm) (.slice ah lh ch) X) := d.keep B0.out
  clear d
  have q0 := Q.out.cell 0 rfl
  have q1 := Q.out.cell 1 rfl
  have q2 := Q.out.cell 2 rfl
  have q3 := Q.out.cell 3 rfl
  have q4 := Q.out.cell 4 rfl
  have q5 := Q.out.cell 5 rfl
  have q6 := Q.out.cell 6 rfl
  have q7 := Q.out.cell 7 rfl
  have q8 := Q.out.cell 8 rfl
  go_enter Tryz.func5, Tryz.ntmps5
  go_wp2_with fail
  clear hW hS q0 q1 q2 q3 q4 q5 q6 q7 q8
  refine (s_fault12 s _ _ _ _ _ _ _ _ _ _ _ _ _ _ X b _ D.out Q.out).mono ?_
  rintro e w1 ⟨rfl, b1⟩
  have B1 : Hid (Below w.heap.size w w1) := on B0.out b1
  have R1 : Hid (Vb w1 (s + 1) #[.int .i64 0, .string ⟨#[]⟩] 34) := R.out.keep b1
  have Q1 : Hid (Vb w1 s #[.slice a0 n0 c0, .slice a1 n1 c1, .slice a2 n2 c2, .slice a3 n3 c3, .slice am lm cm, .slice ah lh ch, .int .i64 X.slot, .int .i64 X.left, .int .i64 X.clock] 43) := Q.out.keep b1
  have D1 : Hid (Oj w1 b a0 n0 c0 a1 n1 c1 a2 n2 c2 a3 n3 c3 (.slice am lm cm) (.slice ah lh ch) X) := D.out.keep b1
  clear b1
  by_cases hf : hoV X = 0
  case neg =>
    have t1 : hoV X = U := by rw [← HU.out.1, htR, if_neg hf]
    have t2 : ⟨#[]⟩ = T := by rw [← HU.out.2, htR, if_neg hf]; rfl
    clear HU
    rw [t1]
    subst t2
    rw [t1] at hf
    clear t1
    have p0 := R1.out.cell 0 rfl
    have f0 := R1.out.free 0
    have p1 := R1.out.cell 1 rfl
    have f1 := R1.out.free 1
    go_wp2_with fail
    have NN : Hid (Vb ((w1.setCell ⟨s + 1, 0, none⟩ (.int .i64 U)).setCell ⟨s + 1, 1, none⟩ (.string ⟨#[]⟩)) (s + 1) #[.int .i64 U, .string ⟨#[]⟩] 34) := two3H R1.out (.int .i64 U) (.string ⟨#[]⟩)
    have BN : Hid (Below w.heap.size w ((w1.setCell ⟨s + 1, 0, none⟩ (.int .i64 U)).setCell ⟨s + 1, 1, none⟩ (.string ⟨#[]⟩))) := (B1.out.setCell (by have := HSs.out; show w.heap.size ≤ s + 1; omega) _).setCell (by have := HSs.out; show w.heap.size ≤ s + 1; omega) _
    clear p0 f0 p1 f1
    generalize ((w1.setCell ⟨s + 1, 0, none⟩ (.int .i64 U)).setCell ⟨s + 1, 1, none⟩ (.string ⟨#[]⟩)) = V at *
    have x0 := NN.out.cell 0 rfl
    have x1 := NN.out.cell 1 rfl
    exact bodyPost_ret (v := .agg #[.int .i64 U, .string ⟨#[]⟩]) (by simp [results, Tryz.results5, go_sem, x0, x1]) rfl ⟨rfl, BN.out⟩
  have t1 : 0 = U := by rw [← HU.out.1, htR, if_pos hf]
  have ET : Hid (bs (htW X) = T) := by show _ = _; rw [← HU.out.2, htR, if_pos hf]
  have HF : Hid (Htk X) := htk_of hf
  subst t1
  rw [hf]
  clear hf HU Q R B0 D
  have il : (lh : Int) ≤ 3 := by have := HF.out.n3; have := HLH.out; omega
  have q6 := Q1.out.cell 6 rfl
  have q7 := Q1.out.cell 7 rfl
  have q8 := Q1.out.cell 8 rfl
  go_wp2_with fail
  clear q6 q7 q8
  have EC : Hid (nlW wdClock [X.clock, X.slot, X.left] = ht0 X 0) := (ht0_zero X).symm
  refine (s_line wdClock _ _ _ [X.clock, X.slot, X.left] _ (rn3H _ _ _ _ rfl) HF.out.cw (by decide) (by decide)).mono ?_
  rintro e w2 ⟨rfl, b2⟩
  have B2 : Hid (Below w1.heap.size w1 w2) := on (al (Below.refl _ _) _) b2
  rw [EC.out]
  clear b2 EC
  generalize hD0 : bs (ht0 X 0) = D0 at *
  have HD0 : Hid (bs (ht0 X 0) = D0) := hD0
  clear hD0
  go_wp2_with fail
  go_loopw [4, 5] (fun u i wr => ∃ j : Nat, j ≤ lh ∧ i = .int .i64 j ∧ u = .string (bs (ht0 X j)) ∧ Below w1.heap.size w1 wr) (fun _ i _ => lh - (intOf i).toNat)
  case atStart => exact ⟨0, Nat.zero_le _, rfl, by rw [HD0.out], B2.out⟩
  case round =>
    clear B2 HD0
    obtain ⟨j, hj, rfl, rfl, hB1⟩ := hrel
    have KB : Hid (Below w1.heap.size w1 wr) := hB1
    have LL : Hid ((ht0 X j).length ≤ 2000) := by show _ ≤ _; have := ht0_len HF.out j (by have := HLH.out; omega); have := HF.out.n3; have := HLH.out; omega
    have q5 : wr.cell? ⟨s, 5, none⟩ = some (.slice ah lh ch) := cell_keep hB1 (Q1.out.cell 5 rfl)
    have sl : s < wr.heap.size := block_of_cell q5
    clear hB1
    by_cases hlt : j < lh
    · obtain ⟨x1, e1⟩ := GH.out (by omega)
      subst e1
      obtain ⟨r, c, i, o, z1, z2, _⟩ := (D1.out.harts.keep KB.out).at j (by rw [HLH.out]; exact hlt)
      have GW : Hid ((htG X j).all isW = true) := HF.out.gw j (by rw [HLH.out]; exact hlt)
      have NX : Hid (_ = _) := ht0_next X j
      have GE : Hid (htG X j = htN (X.harts.getD j voidH) j) := rfl
      obtain ⟨H, hH⟩ : ∃ H, X.harts.getD j voidH = H := ⟨_, rfl⟩
      rw [hH] at z1 z2 GE
      obtain ⟨xr, lr, rfl, _⟩ := z2.r.shape
      obtain ⟨xc, lc, rfl, _⟩ := z2.c.shape
      obtain ⟨xi, li, rfl, _⟩ := z2.i.shape
      obtain ⟨xo, lo, rfl, _⟩ := z2.o.shape
      have HK : Hid (Hok H) := by have h := HF.out.ok j (by rw [HLH.out]; exact hlt); rw [hH] at h; exact h
      have ii : (H.inn.length : Int) ≤ 40 := by have := HK.out.i40; omega
      have io : (H.out.length : Int) ≤ 40 := by have := HK.out.o40; omega
      have GN : Hid (htG X j = [(j : Int), H.pc, H.done, (H.inn.length : Int), (H.out.length : Int)]) := GE.out
      have EN : Hid (ht0 X (j + 1) = ht0 X j ++ nlW wdGuest [(j : Int), H.pc, H.done, (H.inn.length : Int), (H.out.length : Int)]) := by show _ = _; rw [NX.out, GN.out]
      have GA : Hid (([(j : Int), H.pc, H.done, (H.inn.length : Int), (H.out.length : Int)] : List Int).all isW = true) := by show _ = _; rw [← GN.out]; exact GW.out
      generalize H.regs.length = m0 at *
      generalize H.csr.length = m1 at *
      generalize H.inn.length = mi at *
      generalize H.out.length = mo at *
      have DL : Hid ((nlW wdGuest [(j : Int), H.pc, H.done, (mi : Int), (mo : Int)]).length ≤ 500) := nl_len GA.out (by simp) (by decide)
      have y0 := z1.c0
      have y1 := z1.c1
      have y2 := z1.c2
      have y3 := z1.c3
      have y4 := z1.c4
      have y5 := z1.c5
      have y6 := z1.c6
      have y7 := z1.c7
      have y8 := z1.c8
      have hI : (j : Int) < (lh : Int) := by omega
      have HL : Hid (j < lh) := hlt
      have xl : x1 < wr.heap.size := block_of_cell z1.c0
      have L0 : ¬ 9223372036854775807 < (bs (ht0 X j)).size := by rw [bs_size]; have := LL.out; omega
      obtain ⟨T0, hT0⟩ : ∃ T0, bs (ht0 X j) = T0 := ⟨_, rfl⟩
      have HT0 : Hid (bs (ht0 X j) = T0 ∧ T0.size ≤ 2000) := ⟨hT0, by rw [← hT0, bs_size]; exact LL.out⟩
      rw [hT0]
      clear z1 z2 hH hlt hj NX GE GN GW L0 hT0
      go_wp2_with fail
      clear y0 y1 y2 y3 y4 y5 y6 y7 y8 xl q5 sl
      refine (s_line wdGuest _ _ _ [(j : Int), H.pc, H.done, (mi : Int), (mo : Int)] _ (rn5H _ _ _ _ _ _ (by simp)) GA.out (by decide) (by decide)).mono ?_
      rintro e w2 ⟨rfl, b2⟩
      have B2 : Hid (Below w1.heap.size w1 w2) := on (al (al KB.out _) _) b2
      obtain ⟨D, hD⟩ : ∃ D, bs (nlW wdGuest [(j : Int), H.pc, H.done, (mi : Int), (mo : Int)]) = D := ⟨_, rfl⟩
      have HD : Hid (bs (nlW wdGuest [(j : Int), H.pc, H.done, (mi : Int), (mo : Int)]) = D) := hD
      have zD : ¬ 9223372036854775807 < T0.size + D.size := by rw [← hD, bs_size]; have := HT0.out.2; have := DL.out; omega
      rw [hD]
      clear b2 hD
      go_wp2_with fail
      go_roundw
      case rel => exact ⟨j + 1, by have := HL.out; omega, by go_num, by rw [EN.out, bs_app, HT0.out.1, HD.out], B2.out⟩
      case measure => have := HL.out; simp [intOf]; omega
    · have hJ : ¬ (j : Int) < (lh : Int) := by omega
      have EJ : Hid (bs (ht0 X j) ++ bs (nlW wdMem [dgX X.mem]) = T) := by show _ = _; rw [← bs_app, ← ET.out, htW, show X.harts.length = j by have := HLH.out; omega]
      have q4 := cell_keep KB.out (Q1.out.cell 4 rfl)
      have DM : Hid ((nlW wdMem [dgX X.mem]).length ≤ 500) := nl_len HF.out.mw (by simp) (by decide)
      have hfi := field_int
      have FD := fun w h => s_digest (.slice am lm cm) X.mem b w h
      have MW : Hid (([dgX X.mem] : List Int).all isW = true) := HF.out.mw
      obtain ⟨dg, hdg⟩ : ∃ dg, dgX X.mem = dg := ⟨_, rfl⟩
      rw [hdg] at EJ DM FD MW
      obtain ⟨T0, hT0⟩ : ∃ T0, bs (ht0 X j) = T0 := ⟨_, rfl⟩
      have HT0 : Hid (T0.size ≤ 2000) := by show _ ≤ _; rw [← hT0, bs_size]; exact LL.out
      rw [hT0] at EJ ⊢
      clear hlt hj hdg hT0
      go_wp2_with fail
      refine (FD _ (D1.out.mem.keep KB.out)).mono ?_
      rintro e w2 ⟨rfl, b2⟩
      have K2 : Hid (Below w1.heap.size w1 w2) := on KB.out b2
      clear b2 FD q4 q5 sl hJ
      generalize dgC X.mem = dc at *
      go_wp2_with fail
      refine (s_line wdMem _ _ _ [dg] _ (rn1H _ _ (by simp)) MW.out (by decide) (by decide)).mono ?_
      rintro e w5 ⟨rfl, b3⟩
      have B5' : Hid (Below w1.heap.size w1 w5) := on (al K2.out _) b3
      have B5 : Hid (Below w.heap.size w w5) := on B1.out B5'.out
      have R5 : Hid (Vb w5 (s + 1) #[.int .i64 0, .string ⟨#[]⟩] 34) := R1.out.keep B5'.out
      obtain ⟨E, hE⟩ : ∃ E, bs (nlW wdMem [dg]) = E := ⟨_, rfl⟩
      have zE : ¬ 9223372036854775807 < T0.size + E.size := by rw [← hE, bs_size]; have := HT0.out; have := DM.out; omega
      rw [hE] at EJ ⊢
      have p0 := R5.out.cell 0 rfl
      have f0 := R5.out.free 0
      have p1 := R5.out.cell 1 rfl
      have f1 := R5.out.free 1
      clear b3 hE
      have NN : Hid (Vb ((w5.setCell ⟨s + 1, 0, none⟩ (.int .i64 0)).setCell ⟨s + 1, 1, none⟩ (.string (T0 ++ E))) (s + 1) #[.int .i64 0, .string (T0 ++ E)] 34) := two3H R5.out (.int .i64 0) (.string (T0 ++ E))
      have BN : Hid (Below w.heap.size w ((w5.setCell ⟨s + 1, 0, none⟩ (.int .i64 0)).setCell ⟨s + 1, 1, none⟩ (.string (T0 ++ E)))) := (B5.out.setCell (by have := HSs.out; show w.heap.size ≤ s + 1; omega) _).setCell (by have := HSs.out; show w.heap.size ≤ s + 1; omega) _
      go_wp2_with fail
      clear p0 f0 p1 f1
      generalize ((w5.setCell ⟨s + 1, 0, none⟩ (.int .i64 0)).setCell ⟨s + 1, 1, none⟩ (.string (T0 ++ E))) = V at *
      have x0 := NN.out.cell 0 rfl
      have x1 := NN.out.cell 1 rfl
      exact bodyPost_ret (v := .agg #[.int .i64 0, .string (T0 ++ E)]) (by simp [results, Tryz.results5, go_sem, x0, x1]) rfl ⟨by rw [EJ.out], BN.out⟩
end Go.Proofs.YtkaehdlgimodjaaGreatDoor
