/- A policy's text by the program. -/
import Derived.Test.YtnggkofddokplaaGreatDoorFms
import Derived.Test.YtnggkofddokplaaGreatDoorBui
import Derived.Test.YtnggkofddokplaaGreatDoorPig
namespace Go.Proofs.YtnggkofddokplaaGreatDoor
open Go.RowKit
set_option linter.unusedVariables false

theorem isb_keepF {w w' : World} {T e : TypeId} {B b : Nat} {bs : List Value} (h : Lib.IsBuilder T e B b bs w) (k : Below w.heap.size w w') : Lib.IsBuilder T e B b bs w' := h.imp (bd_keep · k) (bd_keep · k)
set_option maxRecDepth 20000 in
set_option maxHeartbeats 8000000 in
theorem i_line0 (a : Option Addr) (n c : Nat) (zs : List Int) (w : World) (hR : Rn w a n c zs) (hw : zs.all isW = true) (hn : n ≤ 40) (ht : Lib.TabIs Tryz.prog w "internal/strconv.uint64pow10" .u64 Lib.pow10Tab) (hl : w.cell? ⟨0, 0, none⟩ = some (.string (bs wdOwn))) :
    Calls Tryz.prog 22 #[.int .i64 0, .slice a n c] w fun e w' => e = .returned (.string (bs (nlW wdOwn zs))) ∧ Below w.heap.size w w' := by
  have FM := i_numbers wdOwn a n c zs w hR hw hn (by decide) ht
  obtain ⟨D, hD⟩ : ∃ D, bs (nlW wdOwn zs) = D := ⟨_, rfl⟩
  rw [hD] at FM ⊢
  obtain ⟨wd, hwd⟩ : ∃ wd, bs wdOwn = wd := ⟨_, rfl⟩
  rw [hwd] at FM hl
  clear hD hwd hR hw ht
  go_enter Tryz.func22, Tryz.ntmps22
  go_wp2_with (go_at_call 40; refine FM.mono ?_; clear FM; rintro e w1 ⟨rfl, b1⟩)
  go_ret
  exact ⟨rfl, b1⟩
set_option maxRecDepth 20000 in
set_option maxHeartbeats 8000000 in
theorem i_line1 (a : Option Addr) (n c : Nat) (zs : List Int) (w : World) (hR : Rn w a n c zs) (hw : zs.all isW = true) (hn : n ≤ 40) (ht : Lib.TabIs Tryz.prog w "internal/strconv.uint64pow10" .u64 Lib.pow10Tab) (hl : w.cell? ⟨0, 3, none⟩ = some (.string (bs wdLane))) :
    Calls Tryz.prog 22 #[.int .i64 1, .slice a n c] w fun e w' => e = .returned (.string (bs (nlW wdLane zs))) ∧ Below w.heap.size w w' := by
  have FM := i_numbers wdLane a n c zs w hR hw hn (by decide) ht
  obtain ⟨D, hD⟩ : ∃ D, bs (nlW wdLane zs) = D := ⟨_, rfl⟩
  rw [hD] at FM ⊢
  obtain ⟨wd, hwd⟩ : ∃ wd, bs wdLane = wd := ⟨_, rfl⟩
  rw [hwd] at FM hl
  clear hD hwd hR hw ht
  go_enter Tryz.func22, Tryz.ntmps22
  go_wp2_with (go_at_call 40; refine FM.mono ?_; clear FM; rintro e w1 ⟨rfl, b1⟩)
  go_ret
  exact ⟨rfl, b1⟩
set_option maxRecDepth 20000 in
set_option maxHeartbeats 8000000 in
theorem i_line2 (a : Option Addr) (n c : Nat) (zs : List Int) (w : World) (hR : Rn w a n c zs) (hw : zs.all isW = true) (hn : n ≤ 40) (ht : Lib.TabIs Tryz.prog w "internal/strconv.uint64pow10" .u64 Lib.pow10Tab) (hl : w.cell? ⟨0, 6, none⟩ = some (.string (bs wdBell))) :
    Calls Tryz.prog 22 #[.int .i64 2, .slice a n c] w fun e w' => e = .returned (.string (bs (nlW wdBell zs))) ∧ Below w.heap.size w w' := by
  have FM := i_numbers wdBell a n c zs w hR hw hn (by decide) ht
  obtain ⟨D, hD⟩ : ∃ D, bs (nlW wdBell zs) = D := ⟨_, rfl⟩
  rw [hD] at FM ⊢
  obtain ⟨wd, hwd⟩ : ∃ wd, bs wdBell = wd := ⟨_, rfl⟩
  rw [hwd] at FM hl
  clear hD hwd hR hw ht
  go_enter Tryz.func22, Tryz.ntmps22
  go_wp2_with (go_at_call 40; refine FM.mono ?_; clear FM; rintro e w1 ⟨rfl, b1⟩)
  go_ret
  exact ⟨rfl, b1⟩
set_option maxRecDepth 20000 in
set_option maxHeartbeats 8000000 in
theorem i_line3 (a : Option Addr) (n c : Nat) (zs : List Int) (w : World) (hR : Rn w a n c zs) (hw : zs.all isW = true) (hn : n ≤ 40) (ht : Lib.TabIs Tryz.prog w "internal/strconv.uint64pow10" .u64 Lib.pow10Tab) (hl : w.cell? ⟨0, 9, none⟩ = some (.string (bs wdSlot))) :
    Calls Tryz.prog 22 #[.int .i64 3, .slice a n c] w fun e w' => e = .returned (.string (bs (nlW wdSlot zs))) ∧ Below w.heap.size w w' := by
  have FM := i_numbers wdSlot a n c zs w hR hw hn (by decide) ht
  obtain ⟨D, hD⟩ : ∃ D, bs (nlW wdSlot zs) = D := ⟨_, rfl⟩
  rw [hD] at FM ⊢
  obtain ⟨wd, hwd⟩ : ∃ wd, bs wdSlot = wd := ⟨_, rfl⟩
  rw [hwd] at FM hl
  clear hD hwd hR hw ht
  go_enter Tryz.func22, Tryz.ntmps22
  go_wp2_with (go_at_call 40; refine FM.mono ?_; clear FM; rintro e w1 ⟨rfl, b1⟩)
  go_ret
  exact ⟨rfl, b1⟩
set_option maxRecDepth 20000 in
set_option maxHeartbeats 8000000 in
theorem i_formatP (a0 a1 a2 a3 : Option Addr) (n0 c0 n1 c1 n2 c2 n3 c3 : Nat) (P : Plc) (w : World) (h : Pl w a0 n0 c0 a1 n1 c1 a2 n2 c2 a3 n3 c3 P) (hg : w.cell? ⟨1, 0, none⟩ = some (.iface 129 (.agg #[.pointer (some ⟨5, 59, none⟩)]))) (ht : Lib.TabIs Tryz.prog w "internal/strconv.uint64pow10" .u64 Lib.pow10Tab) (hlf : w.cell? ⟨0, 0, none⟩ = some (.string (bs wdOwn)) ∧ w.cell? ⟨0, 3, none⟩ = some (.string (bs wdLane)) ∧ w.cell? ⟨0, 6, none⟩ = some (.string (bs wdBell)) ∧ w.cell? ⟨0, 9, none⟩ = some (.string (bs wdSlot))) :
    Calls Tryz.prog 7 #[.agg #[.slice a0 n0 c0, .slice a1 n1 c1, .slice a2 n2 c2, .slice a3 n3 c3]] w fun e w' => e = .returned (.agg #[.int .i64 (fmR P).1, .string (bs (fmR P).2)]) ∧ Below w.heap.size w w' := by
  obtain ⟨U, hU⟩ : ∃ U, (fmR P).1 = U := ⟨_, rfl⟩
  obtain ⟨T, hT⟩ : ∃ T, bs (fmR P).2 = T := ⟨_, rfl⟩
  rw [hU, hT]
  have HU : Hid ((fmR P).1 = U ∧ bs (fmR P).2 = T) := ⟨hU, hT⟩
  clear hU hT
  generalize hW : (w.alloc (.cells #[.slice a0 n0 c0, .slice a1 n1 c1, .slice a2 n2 c2, .slice a3 n3 c3] 36)).alloc (.cells #[.int .i64 0, .string ⟨#[]⟩] 30) = W
  have B0 : Hid (Below w.heap.size w W) := by show Below _ _ _; rw [← hW]; exact al (al (Below.refl _ _) _) _
  obtain ⟨s, hS⟩ : ∃ s, w.heap.size = s := ⟨_, rfl⟩
  have HSs : Hid (w.heap.size = s) := hS
  have Q : Hid (Vb W s #[.slice a0 n0 c0, .slice a1 n1 c1, .slice a2 n2 c2, .slice a3 n3 c3] 36) := by show Vb _ _ _ _; rw [← hW, ← hS]; exact (Vb.new _ _ _).push _
  have R : Hid (Vb W (s + 1) #[.int .i64 0, .string ⟨#[]⟩] 30) := by
    have z1 : s + 1 = (w.alloc (.cells #[.slice a0 n0 c0, .slice a1 n1 c1, .slice a2 n2 c2, .slice a3 n3 c3] 36)).heap.size := by rw [← hS]; simp
    show Vb _ _ _ _; rw [← hW, z1]; exact Vb.new _ _ _
  have HP : Hid (Pl W a0 n0 c0 a1 n1 c1 a2 n2 c2 a3 n3 c3 P) := h.stay B0.out
  have HG : Hid (W.cell? ⟨1, 0, none⟩ = some (.iface 129 (.agg #[.pointer (some ⟨5, 59, none⟩)]))) := cell_keep B0.out hg
  have HTw : Hid (Lib.TabIs Tryz.prog w "internal/strconv.uint64pow10" .u64 Lib.pow10Tab) := ht
  have LFw : Hid (w.cell? ⟨0, 0, none⟩ = some (.string (bs wdOwn)) ∧ w.cell? ⟨0, 3, none⟩ = some (.string (bs wdLane)) ∧ w.cell? ⟨0, 6, none⟩ = some (.string (bs wdBell)) ∧ w.cell? ⟨0, 9, none⟩ = some (.string (bs wdSlot))) := hlf
  clear h hg ht hlf
  have q0 := Q.out.cell 0 rfl
  have q1 := Q.out.cell 1 rfl
  have q2 := Q.out.cell 2 rfl
  have q3 := Q.out.cell 3 rfl
  go_enter Tryz.func7, Tryz.ntmps7
  go_wp2_with fail
  clear hW hS q0 q1 q2 q3
  refine (impl_policy _ _ _ _ _ _ _ _ _ _ _ _ P _ HP.out HG.out).mono ?_
  rintro e w1 ⟨rfl, b1⟩
  have B1 : Hid (Below w.heap.size w w1) := on B0.out b1
  have R1 : Hid (Vb w1 (s + 1) #[.int .i64 0, .string ⟨#[]⟩] 30) := R.out.keep b1
  have Q1 : Hid (Vb w1 s #[.slice a0 n0 c0, .slice a1 n1 c1, .slice a2 n2 c2, .slice a3 n3 c3] 36) := Q.out.keep b1
  have HP1 : Hid (Pl w1 a0 n0 c0 a1 n1 c1 a2 n2 c2 a3 n3 c3 P) := HP.out.stay b1
  clear b1
  by_cases hf : pfV P = 0
  case neg =>
    have t1 : pfV P = U := by rw [← HU.out.1, fmR, if_neg hf]
    have t2 : ⟨#[]⟩ = T := by rw [← HU.out.2, fmR, if_neg hf]; rfl
    clear HU
    rw [t1]
    subst t2
    rw [t1] at hf
    clear t1
    have p0 := R1.out.cell 0 rfl
    have f0 := R1.out.free 0
    have p1 := R1.out.cell 1 rfl
    have f1 := R1.out.free 1
    go_wp2_with fail
    have NN : Hid (Vb ((w1.setCell ⟨s + 1, 0, none⟩ (.int .i64 U)).setCell ⟨s + 1, 1, none⟩ (.string ⟨#[]⟩)) (s + 1) #[.int .i64 U, .string ⟨#[]⟩] 30) := two3 R1.out (.int .i64 U) (.string ⟨#[]⟩)
    have BN : Hid (Below w.heap.size w ((w1.setCell ⟨s + 1, 0, none⟩ (.int .i64 U)).setCell ⟨s + 1, 1, none⟩ (.string ⟨#[]⟩))) := (B1.out.setCell (by have := HSs.out; show w.heap.size ≤ s + 1; omega) _).setCell (by have := HSs.out; show w.heap.size ≤ s + 1; omega) _
    clear p0 f0 p1 f1
    generalize ((w1.setCell ⟨s + 1, 0, none⟩ (.int .i64 U)).setCell ⟨s + 1, 1, none⟩ (.string ⟨#[]⟩)) = V at *
    have x0 := NN.out.cell 0 rfl
    have x1 := NN.out.cell 1 rfl
    exact bodyPost_ret (v := .agg #[.int .i64 U, .string ⟨#[]⟩]) (by simp [results, Tryz.results7, go_sem, x0, x1]) rfl ⟨rfl, BN.out⟩
  have t1 : 0 = U := by rw [← HU.out.1, fmR, if_pos hf]
  have ET : Hid (bs (fmW P) = T) := by show _ = _; rw [← HU.out.2, fmR, if_pos hf]
  have FM : Hid (Fm P) := fm_of hf
  subst t1
  rw [hf]
  clear hf HU
  have HF : Hid (Fm P) := FM.out
  clear HP
  have HP : Hid (Pl w1 a0 n0 c0 a1 n1 c1 a2 n2 c2 a3 n3 c3 P) := HP1.out
  clear HP1 FM Q R HG B0
  have HN : Hid (n0 = P.own.length ∧ n1 = P.lanes.length ∧ n2 = P.bells.length ∧ n3 = P.plan.length) := ⟨HP.out.own.len, HP.out.lanes.len, HP.out.bells.len, HP.out.plan.len⟩
  have HC0 : Hid ((n0 : Int) ≤ (c0 : Int)) := by have := HP.out.own.cap; show _ ≤ _; omega
  have HC1 : Hid ((n1 : Int) ≤ (c1 : Int)) := by have := HP.out.lanes.cap; show _ ≤ _; omega
  have HC2 : Hid ((n2 : Int) ≤ (c2 : Int)) := by have := HP.out.bells.cap; show _ ≤ _; omega
  have HC3 : Hid ((n3 : Int) ≤ (c3 : Int)) := by have := HP.out.plan.cap; show _ ≤ _; omega
  have i0 : (n0 : Int) ≤ 3 := by have := HN.out.1; have := HF.out.o3; omega
  have i1 : (n1 : Int) ≤ 4 := by have := HN.out.2.1; have := HF.out.l4; omega
  have i2 : (n2 : Int) ≤ 4 := by have := HN.out.2.2.1; have := HF.out.b4; omega
  have i3 : (n3 : Int) ≤ 8 := by have := HN.out.2.2.2; have := HF.out.s8; omega
  have HT : Hid (Lib.TabIs Tryz.prog w1 "internal/strconv.uint64pow10" .u64 Lib.pow10Tab) := Lib.tabBelow_of_tabIs HTw.out _ B1.out
  have LF : Hid (w1.cell? ⟨0, 0, none⟩ = some (.string (bs wdOwn)) ∧ w1.cell? ⟨0, 3, none⟩ = some (.string (bs wdLane)) ∧ w1.cell? ⟨0, 6, none⟩ = some (.string (bs wdBell)) ∧ w1.cell? ⟨0, 9, none⟩ = some (.string (bs wdSlot))) := ⟨cell_keep B1.out LFw.out.1, cell_keep B1.out LFw.out.2.1, cell_keep B1.out LFw.out.2.2.1, cell_keep B1.out LFw.out.2.2.2⟩
  clear HTw LFw
  obtain ⟨B, hB⟩ : ∃ B, w1.heap.size = B := ⟨_, rfl⟩
  have HB : Hid (w1.heap.size = B) := hB
  have I0 : Hid (Lib.IsBuilder 56 5 B B (Lib.byteCells (fm0 P 0)) (w1.alloc (.cells #[.pointer none, .slice none 0 0] 56))) :=
    .inl ⟨Nat.le_refl _, .slice none 0 0, by rw [← hB]; exact heap_alloc_new w1 _, World.ownsRow_nil _ _ _ _, by intro e; cases e⟩
  have W0 : Hid (Below B w1 (w1.alloc (.cells #[.pointer none, .slice none 0 0] 56))) := by show Below _ _ _; rw [← hB]; exact al (Below.refl _ _) _
  have q0 : (w1.alloc (.cells #[.pointer none, .slice none 0 0] 56)).cell? ⟨s, 0, none⟩ = some (.slice a0 n0 c0) := cell_push _ (Q1.out.cell 0 rfl)
  clear hB
  go_wp2_with fail
  clear q0
  generalize w1.alloc (.cells #[.pointer none, .slice none 0 0] 56) = W at *
  rw [HB.out]
  go_loopw [22] (fun i wr => ∃ j : Nat, j ≤ n0 ∧ i = .int .i64 j ∧ Lib.IsBuilder 56 5 B B (Lib.byteCells (fm0 P j)) wr ∧ Below B w1 wr) (fun i _ => n0 - (intOf i).toNat)
  case atStart => exact ⟨0, Nat.zero_le _, rfl, I0.out, W0.out⟩
  case round =>
    obtain ⟨j, hj, rfl, hI1, hB1⟩ := hrel
    have I1 : Hid (Lib.IsBuilder 56 5 B B (Lib.byteCells (fm0 P j)) wr) := hI1
    have B1w : Hid (Below B w1 wr) := hB1
    have kb : Below w1.heap.size w1 wr := by rw [HB.out]; exact hB1
    have KB : Hid (Below w1.heap.size w1 wr) := kb
    have LB : Hid (B ≤ wr.heap.size) := by show _ ≤ _; have := hB1.size; have := HB.out; omega
    clear hI1 hB1
    by_cases hlt : j < n0
    · have hJ : (j : Int) < (n0 : Int) := by omega
      have HL : Hid (j < n0) := hlt
      have hjc : (j : Int) ≤ (c0 : Int) := by have := HC0.out; omega
      obtain ⟨x, b, l, c, rfl, cx, nz⟩ := (HP.out.own.stay kb).at j hlt
      have NX : Hid (_ = _) := fm0_next (P := P) (j := j) (by have := HN.out.1; omega)
      have LK : Hid (LkOk (P.own.getD j [])) := lk_at HF.out.ok0 (by have := HN.out.1; omega)
      obtain ⟨zs, hz⟩ : ∃ zs, P.own.getD j [] = zs := ⟨_, rfl⟩
      rw [hz] at nz NX LK
      have NZ : Hid (Rn wr b l c zs) := nz
      have NL : Hid (l ≤ 40) := by show _ ≤ _; have := NZ.out.len; have := LK.out.1; omega
      clear hz nz
      have DL : Hid ((nlW wdOwn zs).length ≤ 500) := nl_len LK.out.2 LK.out.1 (by decide)
      have LL : Hid ((fm0 P j).length ≤ 16000) := fm0_len HF.out j
      have EN : Hid (fm0 P (j + 1) = fm0 P j ++ nlW wdOwn zs) := NX.out
      clear hlt hj kb NX
      go_wp2_with fail
      clear cx
      refine (i_line0 _ _ _ zs _ NZ.out LK.out.2 NL.out (Lib.tabBelow_of_tabIs HT.out _ KB.out) (cell_keep KB.out LF.out.1)).mono ?_
      rintro e w2 ⟨rfl, b2⟩
      have I2 : Hid (Lib.IsBuilder 56 5 B B (Lib.byteCells (fm0 P j)) w2) := isb_keepF I1.out b2
      have B2 : Hid (Below B w1 w2) := B1w.out.trans (b2.mono LB.out)
      obtain ⟨D, hD⟩ : ∃ D, nlW wdOwn zs = D := ⟨_, rfl⟩
      rw [hD] at DL EN ⊢
      clear b2 hD
      go_wp2_with fail
      refine (bd_string B B _ (bs D) w2 I2.out (by rw [Lib.byteCells_length, bs_size]; have := LL.out; have := DL.out; omega) (by have := B2.out.size; have := HB.out; omega)).mono ?_
      rintro e w3 ⟨rfl, k3, b3⟩
      have K3 : Hid (Lib.IsBuilder 56 5 B B (Lib.byteCells (fm0 P (j + 1))) w3) := by
        show Lib.IsBuilder _ _ _ _ _ _
        rw [EN.out, Lib.byteCells_append]
        exact .inr k3
      have B3 : Hid (Below B w1 w3) := B2.out.trans b3
      clear k3 b3
      go_wp2_with fail
      go_roundw
      case rel => exact ⟨j + 1, by have := HL.out; omega, by go_num, K3.out, B3.out⟩
      case measure => have := HL.out; simp [intOf]; omega
    · have hJ : ¬ (j : Int) < (n0 : Int) := by omega
      have I2 : Hid (Lib.IsBuilder 56 5 B B (Lib.byteCells (fm1 P 0)) wr) := by
        show Lib.IsBuilder _ _ _ _ _ _
        rw [← fm1_zero, show P.own.length = j by have := HN.out.1; omega]
        exact I1.out
      have q1 := cell_keep kb (Q1.out.cell 1 rfl)
      clear hlt hj kb I1
      go_wp2_with fail
      clear hJ q1
      go_loopw [33] (fun i wr => ∃ j : Nat, j ≤ n1 ∧ i = .int .i64 j ∧ Lib.IsBuilder 56 5 B B (Lib.byteCells (fm1 P j)) wr ∧ Below B w1 wr) (fun i _ => n1 - (intOf i).toNat)
      case atStart => exact ⟨0, Nat.zero_le _, rfl, I2.out, B1w.out⟩
      case round =>
        obtain ⟨j, hj, rfl, hI1, hB1⟩ := hrel
        have I1 : Hid (Lib.IsBuilder 56 5 B B (Lib.byteCells (fm1 P j)) wr) := hI1
        have B1w : Hid (Below B w1 wr) := hB1
        have kb : Below w1.heap.size w1 wr := by rw [HB.out]; exact hB1
        have KB : Hid (Below w1.heap.size w1 wr) := kb
        have LB : Hid (B ≤ wr.heap.size) := by show _ ≤ _; have := hB1.size; have := HB.out; omega
        clear hI1 hB1
        by_cases hlt : j < n1
        · have hJ : (j : Int) < (n1 : Int) := by omega
          have HL : Hid (j < n1) := hlt
          have hjc : (j : Int) ≤ (c1 : Int) := by have := HC1.out; omega
          obtain ⟨x, rfl, k0, k1, k2, k3, k4⟩ := (HP.out.lanes.stay kb).at j hlt
          have NX : Hid (_ = _) := fm1_next (P := P) (j := j) (by have := HN.out.2.1; omega)
          have LK : Hid (LkOk (ln5 (P.lanes.getD j lz))) := by show LkOk _; rw [← map_getD ln5 P.lanes lz j (by have := HN.out.2.1; omega)]; exact lk_at HF.out.ok1 (by have := HN.out.2.1; simp; omega)
          obtain ⟨⟨f, d, g, p, t⟩, hz⟩ : ∃ L, P.lanes.getD j lz = L := ⟨_, rfl⟩
          rw [hz] at k0 k1 k2 k3 k4 NX LK
          simp only at k0 k1 k2 k3 k4
          have LK : Hid (LkOk [f, d, g, p, t]) := LK.out
          clear hz
          have DL : Hid ((nlW wdLane [f, d, g, p, t]).length ≤ 500) := nl_len LK.out.2 LK.out.1 (by decide)
          have LL : Hid ((fm1 P j).length ≤ 16000) := fm1_len HF.out j
          have EN : Hid (fm1 P (j + 1) = fm1 P j ++ nlW wdLane [f, d, g, p, t]) := NX.out
          clear hlt hj kb NX
          go_wp2_with fail
          clear k0 k1 k2 k3 k4
          refine (i_line1 _ _ _ [f, d, g, p, t] _ (rn5 _ _ _ _ _ _ (by simp)) LK.out.2 (by decide) (Lib.tabBelow_of_tabIs HT.out _ (al (al KB.out _) _)) (cell_keep (al (al KB.out _) _) LF.out.2.1)).mono ?_
          rintro e w2 ⟨rfl, b2⟩
          have I2 : Hid (Lib.IsBuilder 56 5 B B (Lib.byteCells (fm1 P j)) w2) := isb_keepF I1.out (on (al (al (Below.refl _ _) _) _) b2)
          have B2 : Hid (Below B w1 w2) := B1w.out.trans ((on (al (al (Below.refl _ _) _) _) b2).mono LB.out)
          obtain ⟨D, hD⟩ : ∃ D, nlW wdLane [f, d, g, p, t] = D := ⟨_, rfl⟩
          rw [hD] at DL EN ⊢
          clear b2 hD
          go_wp2_with fail
          refine (bd_string B B _ (bs D) w2 I2.out (by rw [Lib.byteCells_length, bs_size]; have := LL.out; have := DL.out; omega) (by have := B2.out.size; have := HB.out; omega)).mono ?_
          rintro e w3 ⟨rfl, k3, b3⟩
          have K3 : Hid (Lib.IsBuilder 56 5 B B (Lib.byteCells (fm1 P (j + 1))) w3) := by
            show Lib.IsBuilder _ _ _ _ _ _
            rw [EN.out, Lib.byteCells_append]
            exact .inr k3
          have B3 : Hid (Below B w1 w3) := B2.out.trans b3
          clear k3 b3
          go_wp2_with fail
          go_roundw
          case rel => exact ⟨j + 1, by have := HL.out; omega, by go_num, K3.out, B3.out⟩
          case measure => have := HL.out; simp [intOf]; omega
        · have hJ : ¬ (j : Int) < (n1 : Int) := by omega
          have I2 : Hid (Lib.IsBuilder 56 5 B B (Lib.byteCells (fm2 P 0)) wr) := by
            show Lib.IsBuilder _ _ _ _ _ _
            rw [← fm2_zero, show P.lanes.length = j by have := HN.out.2.1; omega]
            exact I1.out
          have q2 := cell_keep kb (Q1.out.cell 2 rfl)
          clear hlt hj kb I1
          go_wp2_with fail
          clear hJ q2
          go_loopw [54] (fun i wr => ∃ j : Nat, j ≤ n2 ∧ i = .int .i64 j ∧ Lib.IsBuilder 56 5 B B (Lib.byteCells (fm2 P j)) wr ∧ Below B w1 wr) (fun i _ => n2 - (intOf i).toNat)
          case atStart => exact ⟨0, Nat.zero_le _, rfl, I2.out, B1w.out⟩
          case round =>
            obtain ⟨j, hj, rfl, hI1, hB1⟩ := hrel
            have I1 : Hid (Lib.IsBuilder 56 5 B B (Lib.byteCells (fm2 P j)) wr) := hI1
            have B1w : Hid (Below B w1 wr) := hB1
            have kb : Below w1.heap.size w1 wr := by rw [HB.out]; exact hB1
            have KB : Hid (Below w1.heap.size w1 wr) := kb
            have LB : Hid (B ≤ wr.heap.size) := by show _ ≤ _; have := hB1.size; have := HB.out; omega
            clear hI1 hB1
            by_cases hlt : j < n2
            · have hJ : (j : Int) < (n2 : Int) := by omega
              have HL : Hid (j < n2) := hlt
              have hjc : (j : Int) ≤ (c2 : Int) := by have := HC2.out; omega
              obtain ⟨x, rfl, k0, k1⟩ := (HP.out.bells.stay kb).at j hlt
              have NX : Hid (_ = _) := fm2_next (P := P) (j := j) (by have := HN.out.2.2.1; omega)
              have LK : Hid (LkOk (pr2 (P.bells.getD j (0, 0)))) := by show LkOk _; rw [← map_getD pr2 P.bells (0, 0) j (by have := HN.out.2.2.1; omega)]; exact lk_at HF.out.ok2 (by have := HN.out.2.2.1; simp; omega)
              obtain ⟨⟨f, t⟩, hz⟩ : ∃ L, P.bells.getD j (0, 0) = L := ⟨_, rfl⟩
              rw [hz] at k0 k1 NX LK
              simp only at k0 k1
              have LK : Hid (LkOk [f, t]) := LK.out
              clear hz
              have DL : Hid ((nlW wdBell [f, t]).length ≤ 500) := nl_len LK.out.2 LK.out.1 (by decide)
              have LL : Hid ((fm2 P j).length ≤ 16000) := fm2_len HF.out j
              have EN : Hid (fm2 P (j + 1) = fm2 P j ++ nlW wdBell [f, t]) := NX.out
              clear hlt hj kb NX
              go_wp2_with fail
              clear k0 k1
              refine (i_line2 _ _ _ [f, t] _ (rn2 _ _ _ (by simp)) LK.out.2 (by decide) (Lib.tabBelow_of_tabIs HT.out _ (al (al KB.out _) _)) (cell_keep (al (al KB.out _) _) LF.out.2.2.1)).mono ?_
              rintro e w2 ⟨rfl, b2⟩
              have I2 : Hid (Lib.IsBuilder 56 5 B B (Lib.byteCells (fm2 P j)) w2) := isb_keepF I1.out (on (al (al (Below.refl _ _) _) _) b2)
              have B2 : Hid (Below B w1 w2) := B1w.out.trans ((on (al (al (Below.refl _ _) _) _) b2).mono LB.out)
              obtain ⟨D, hD⟩ : ∃ D, nlW wdBell [f, t] = D := ⟨_, rfl⟩
              rw [hD] at DL EN ⊢
              clear b2 hD
              go_wp2_with fail
              refine (bd_string B B _ (bs D) w2 I2.out (by rw [Lib.byteCells_length, bs_size]; have := LL.out; have := DL.out; omega) (by have := B2.out.size; have := HB.out; omega)).mono ?_
              rintro e w3 ⟨rfl, k3, b3⟩
              have K3 : Hid (Lib.IsBuilder 56 5 B B (Lib.byteCells (fm2 P (j + 1))) w3) := by
                show Lib.IsBuilder _ _ _ _ _ _
                rw [EN.out, Lib.byteCells_append]
                exact .inr k3
              have B3 : Hid (Below B w1 w3) := B2.out.trans b3
              clear k3 b3
              go_wp2_with fail
              go_roundw
              case rel => exact ⟨j + 1, by have := HL.out; omega, by go_num, K3.out, B3.out⟩
              case measure => have := HL.out; simp [intOf]; omega
            · have hJ : ¬ (j : Int) < (n2 : Int) := by omega
              have I2 : Hid (Lib.IsBuilder 56 5 B B (Lib.byteCells (fm3 P 0)) wr) := by
                show Lib.IsBuilder _ _ _ _ _ _
                rw [← fm3_zero, show P.bells.length = j by have := HN.out.2.2.1; omega]
                exact I1.out
              have q3 := cell_keep kb (Q1.out.cell 3 rfl)
              clear hlt hj kb I1
              go_wp2_with fail
              clear hJ q3
              go_loopw [69] (fun i wr => ∃ j : Nat, j ≤ n3 ∧ i = .int .i64 j ∧ Lib.IsBuilder 56 5 B B (Lib.byteCells (fm3 P j)) wr ∧ Below B w1 wr) (fun i _ => n3 - (intOf i).toNat)
              case atStart => exact ⟨0, Nat.zero_le _, rfl, I2.out, B1w.out⟩
              case round =>
                obtain ⟨j, hj, rfl, hI1, hB1⟩ := hrel
                have I1 : Hid (Lib.IsBuilder 56 5 B B (Lib.byteCells (fm3 P j)) wr) := hI1
                have B1w : Hid (Below B w1 wr) := hB1
                have kb : Below w1.heap.size w1 wr := by rw [HB.out]; exact hB1
                have KB : Hid (Below w1.heap.size w1 wr) := kb
                have LB : Hid (B ≤ wr.heap.size) := by show _ ≤ _; have := hB1.size; have := HB.out; omega
                clear hI1 hB1
                by_cases hlt : j < n3
                · have hJ : (j : Int) < (n3 : Int) := by omega
                  have HL : Hid (j < n3) := hlt
                  have hjc : (j : Int) ≤ (c3 : Int) := by have := HC3.out; omega
                  obtain ⟨x, rfl, k0, k1⟩ := (HP.out.plan.stay kb).at j hlt
                  have NX : Hid (_ = _) := fm3_next (P := P) (j := j) (by have := HN.out.2.2.2; omega)
                  have LK : Hid (LkOk (pr2 (P.plan.getD j (0, 0)))) := by show LkOk _; rw [← map_getD pr2 P.plan (0, 0) j (by have := HN.out.2.2.2; omega)]; exact lk_at HF.out.ok3 (by have := HN.out.2.2.2; simp; omega)
                  obtain ⟨⟨f, t⟩, hz⟩ : ∃ L, P.plan.getD j (0, 0) = L := ⟨_, rfl⟩
                  rw [hz] at k0 k1 NX LK
                  simp only at k0 k1
                  have LK : Hid (LkOk [f, t]) := LK.out
                  clear hz
                  have DL : Hid ((nlW wdSlot [f, t]).length ≤ 500) := nl_len LK.out.2 LK.out.1 (by decide)
                  have LL : Hid ((fm3 P j).length ≤ 16000) := fm3_len HF.out j
                  have EN : Hid (fm3 P (j + 1) = fm3 P j ++ nlW wdSlot [f, t]) := NX.out
                  clear hlt hj kb NX
                  go_wp2_with fail
                  clear k0 k1
                  refine (i_line3 _ _ _ [f, t] _ (rn2 _ _ _ (by simp)) LK.out.2 (by decide) (Lib.tabBelow_of_tabIs HT.out _ (al (al KB.out _) _)) (cell_keep (al (al KB.out _) _) LF.out.2.2.2)).mono ?_
                  rintro e w2 ⟨rfl, b2⟩
                  have I2 : Hid (Lib.IsBuilder 56 5 B B (Lib.byteCells (fm3 P j)) w2) := isb_keepF I1.out (on (al (al (Below.refl _ _) _) _) b2)
                  have B2 : Hid (Below B w1 w2) := B1w.out.trans ((on (al (al (Below.refl _ _) _) _) b2).mono LB.out)
                  obtain ⟨D, hD⟩ : ∃ D, nlW wdSlot [f, t] = D := ⟨_, rfl⟩
                  rw [hD] at DL EN ⊢
                  clear b2 hD
                  go_wp2_with fail
                  refine (bd_string B B _ (bs D) w2 I2.out (by rw [Lib.byteCells_length, bs_size]; have := LL.out; have := DL.out; omega) (by have := B2.out.size; have := HB.out; omega)).mono ?_
                  rintro e w3 ⟨rfl, k3, b3⟩
                  have K3 : Hid (Lib.IsBuilder 56 5 B B (Lib.byteCells (fm3 P (j + 1))) w3) := by
                    show Lib.IsBuilder _ _ _ _ _ _
                    rw [EN.out, Lib.byteCells_append]
                    exact .inr k3
                  have B3 : Hid (Below B w1 w3) := B2.out.trans b3
                  clear k3 b3
                  go_wp2_with fail
                  go_roundw
                  case rel => exact ⟨j + 1, by have := HL.out; omega, by go_num, K3.out, B3.out⟩
                  case measure => have := HL.out; simp [intOf]; omega
                · have hJ : ¬ (j : Int) < (n3 : Int) := by omega
                  have EJ : (⟨(fm3 P j).toArray⟩ : ByteArray) = T := by rw [← ET.out, fmW, show P.plan.length = j by have := HN.out.2.2.2; omega]; rfl
                  clear hlt hj kb
                  go_wp2_with fail
                  clear hJ
                  refine (Tryz.Builder_String_any B B (fm3 P j) _ I1.out LB.out).mono ?_
                  rintro e w4 ⟨rfl, b4⟩
                  have B4' : Hid (Below w1.heap.size w1 w4) := by show Below _ _ _; rw [HB.out]; exact B1w.out.trans b4
                  have B4 : Hid (Below w.heap.size w w4) := on B1.out B4'.out
                  have R4 : Hid (Vb w4 (s + 1) #[.int .i64 0, .string ⟨#[]⟩] 30) := R1.out.keep B4'.out
                  rw [EJ]
                  clear b4 EJ
                  have p0 := R4.out.cell 0 rfl
                  have f0 := R4.out.free 0
                  have p1 := R4.out.cell 1 rfl
                  have f1 := R4.out.free 1
                  go_wp2_with fail
                  have NN : Hid (Vb ((w4.setCell ⟨s + 1, 0, none⟩ (.int .i64 0)).setCell ⟨s + 1, 1, none⟩ (.string T)) (s + 1) #[.int .i64 0, .string T] 30) := two3 R4.out (.int .i64 0) (.string T)
                  have BN : Hid (Below w.heap.size w ((w4.setCell ⟨s + 1, 0, none⟩ (.int .i64 0)).setCell ⟨s + 1, 1, none⟩ (.string T))) := (B4.out.setCell (by have := HSs.out; show w.heap.size ≤ s + 1; omega) _).setCell (by have := HSs.out; show w.heap.size ≤ s + 1; omega) _
                  clear p0 f0 p1 f1
                  generalize ((w4.setCell ⟨s + 1, 0, none⟩ (.int .i64 0)).setCell ⟨s + 1, 1, none⟩ (.string T)) = V at *
                  have x0 := NN.out.cell 0 rfl
                  have x1 := NN.out.cell 1 rfl
                  exact bodyPost_ret (v := .agg #[.int .i64 0, .string T]) (by simp [results, Tryz.results7, go_sem, x0, x1]) rfl ⟨rfl, BN.out⟩
end Go.Proofs.YtnggkofddokplaaGreatDoor
