/- Texts of this seat, joined. -/
import Derived.Test.YtkfcofjmjbkekaaGreatDoorQ11
import Derived.Test.YtkfcofjmjbkekaaGreatDoorQ16
import Derived.Test.YtkfcofjmjbkekaaGreatDoorQ22
import Derived.Test.YtkfcofjmjbkekaaGreatDoorQ35
import Derived.Test.YtkfcofjmjbkekaaGreatDoorQ46
namespace Go.Proofs.YtkfcofjmjbkekaaGreatDoor
open Go.RowKit
set_option linter.unusedVariables false

theorem isb_keepF {w w' : World} {T e : TypeId} {B b : Nat} {bs : List Value} (h : Lib.IsBuilder T e B b bs w) (k : Below w.heap.size w w') : Lib.IsBuilder T e B b bs w' := h.imp (bd_keep · k) (bd_keep · k)
set_option maxRecDepth 20000 in
set_option maxHeartbeats 8000000 in
theorem i_line0 (a : Option Addr) (n c : Nat) (zs : List Int) (w : World) (hR : Rn w a n c zs) (hw : zs.all isW = true) (hn : n ≤ 40) (ht : Lib.TabIs Tryz.prog w "internal/strconv.uint64pow10" .u64 Lib.pow10Tab) (hl : w.cell? ⟨0, 0, none⟩ = some (.string (bs wdOwn))) :
    Calls Tryz.prog 22 #[.int .i64 0, .slice a n c] w fun e w' => e = .returned (.string (bs (nlW wdOwn zs))) ∧ Below w.heap.size w w' := by
  have FM := i_numbers wdOwn a n c zs w hR hw hn (by decide) ht
  obtain ⟨D, hD⟩ : ∃ D, bs (nlW wdOwn zs) = D := ⟨_, rfl⟩
  rw [hD] at FM ⊢
  obtain ⟨wd, hwd⟩ : ∃ wd, bs wdOwn = wd := ⟨_, rfl⟩
  rw [hwd] at FM hl
  clear hD hwd hR hw ht
  go_enter Tryz.func22, Tryz.ntmps22
  go_wp2_with (go_at_call 43; refine FM.mono ?_; clear FM; rintro e w1 ⟨rfl, b1⟩)
  go_ret
  exact ⟨rfl, b1⟩
set_option maxRecDepth 20000 in
set_option maxHeartbeats 8000000 in
theorem i_line1 (a : Option Addr) (n c : Nat) (zs : List Int) (w : World) (hR : Rn w a n c zs) (hw : zs.all isW = true) (hn : n ≤ 40) (ht : Lib.TabIs Tryz.prog w "internal/strconv.uint64pow10" .u64 Lib.pow10Tab) (hl : w.cell? ⟨0, 3, none⟩ = some (.string (bs wdLane))) :
    Calls Tryz.prog 22 #[.int .i64 1, .slice a n c] w fun e w' => e = .returned (.string (bs (nlW wdLane zs))) ∧ Below w.heap.size w w' := by
  have FM := i_numbers wdLane a n c zs w hR hw hn (by decide) ht
  obtain ⟨D, hD⟩ : ∃ D, bs (nlW wdLane zs) = D := ⟨_, rfl⟩
  rw [hD] at FM ⊢
  obtain ⟨wd, hwd⟩ : ∃ wd, bs wdLane = wd := ⟨_, rfl⟩
  rw [hwd] at FM hl
  clear hD hwd hR hw ht
  go_enter Tryz.func22, Tryz.ntmps22
  go_wp2_with (go_at_call 43; refine FM.mono ?_; clear FM; rintro e w1 ⟨rfl, b1⟩)
  go_ret
  exact ⟨rfl, b1⟩
set_option maxRecDepth 20000 in
set_option maxHeartbeats 8000000 in
theorem i_line2 (a : Option Addr) (n c : Nat) (zs : List Int) (w : World) (hR : Rn w a n c zs) (hw : zs.all isW = true) (hn : n ≤ 40) (ht : Lib.TabIs Tryz.prog w "internal/strconv.uint64pow10" .u64 Lib.pow10Tab) (hl : w.cell? ⟨0, 6, none⟩ = some (.string (bs wdBell))) :
    Calls Tryz.prog 22 #[.int .i64 2, .slice a n c] w fun e w' => e = .returned (.string (bs (nlW wdBell zs))) ∧ Below w.heap.size w w' := by
  have FM := i_numbers wdBell a n c zs w hR hw hn (by decide) ht
  obtain ⟨D, hD⟩ : ∃ D, bs (nlW wdBell zs) = D := ⟨_, rfl⟩
  rw [hD] at FM ⊢
  obtain ⟨wd, hwd⟩ : ∃ wd, bs wdBell = wd := ⟨_, rfl⟩
  rw [hwd] at FM hl
  clear hD hwd hR hw ht
  go_enter Tryz.func22, Tryz.ntmps22
  go_wp2_with (go_at_call 43; refine FM.mono ?_; clear FM; rintro e w1 ⟨rfl, b1⟩)
  go_ret
  exact ⟨rfl, b1⟩
set_option maxRecDepth 20000 in
set_option maxHeartbeats 8000000 in
theorem i_line3 (a : Option Addr) (n c : Nat) (zs : List Int) (w : World) (hR : Rn w a n c zs) (hw : zs.all isW = true) (hn : n ≤ 40) (ht : Lib.TabIs Tryz.prog w "internal/strconv.uint64pow10" .u64 Lib.pow10Tab) (hl : w.cell? ⟨0, 9, none⟩ = some (.string (bs wdSlot))) :
    Calls Tryz.prog 22 #[.int .i64 3, .slice a n c] w fun e w' => e = .returned (.string (bs (nlW wdSlot zs))) ∧ Below w.heap.size w w' := by
  have FM := i_numbers wdSlot a n c zs w hR hw hn (by decide) ht
  obtain ⟨D, hD⟩ : ∃ D, bs (nlW wdSlot zs) = D := ⟨_, rfl⟩
  rw [hD] at FM ⊢
  obtain ⟨wd, hwd⟩ : ∃ wd, bs wdSlot = wd := ⟨_, rfl⟩
  rw [hwd] at FM hl
  clear hD hwd hR hw ht
  go_enter Tryz.func22, Tryz.ntmps22
  go_wp2_with (go_at_call 43; refine FM.mono ?_; clear FM; rintro e w1 ⟨rfl, b1⟩)
  go_ret
  exact ⟨rfl, b1⟩
set_option maxRecDepth 20000 in
set_option maxHeartbeats 8000000 in
theorem i_formatP (a0 a1 a2 a3 : Option Addr) (n0 c0 n1 c1 n2 c2 n3 c3 : Nat) (P : Plc) (w : World) (h : Pl w a0 n0 c0 a1 n1 c1 a2 n2 c2 a3 n3 c3 P) (hg : w.cell? ⟨1, 0, none⟩ = some (.iface 137 (.agg #[.pointer (some ⟨10, 45, none⟩)]))) (ht : Lib.TabIs Tryz.prog w "internal/strconv.uint64pow10" .u64 Lib.pow10Tab) (hlf : w.cell? ⟨0, 0, none⟩ = some (.string (bs wdOwn)) ∧ w.cell? ⟨0, 3, none⟩ = some (.string (bs wdLane)) ∧ w.cell? ⟨0, 6, none⟩ = some (.string (bs wdBell)) ∧ w.cell? ⟨0, 9, none⟩ = some (.string (bs wdSlot))) :
    Calls Tryz.prog 7 #[.agg #[.slice a0 n0 c0, .slice a1 n1 c1, .slice a2 n2 c2, .slice a3 n3 c3]] w fun e w' => e = .returned (.agg #[.int .i64 (fmR P).1, .string (bs (fmR P).2)]) ∧ Below w.heap.size w w' := by
  obtain ⟨U, hU⟩ : ∃ U, (fmR P).1 = U := ⟨_, rfl⟩
  obtain ⟨T, hT⟩ : ∃ T, bs (fmR P).2 = T := ⟨_, rfl⟩
  rw [hU, hT]
  have HU : Hid ((fmR P).1 = U ∧ bs (fmR P).2 = T) := ⟨hU, hT⟩
  clear hU hT
  generalize hW : (w.alloc (.cells #[.slice a0 n0 c0, .slice a1 n1 c1, .slice a2 n2 c2, .slice a3 n3 c3] 30)).alloc (.cells #[.int .i64 0, .string ⟨#[]⟩] 35) = W
  have B0 : Hid (Below w.heap.size w W) := by show Below _ _ _; rw [← hW]; exact al (al (Below.refl _ _) _) _
  obtain ⟨s, hS⟩ : ∃ s, w.heap.size = s := ⟨_, rfl⟩
  have HSs : Hid (w.heap.size = s) := hS
  have Q : Hid (Vb W s #[.slice a0 n0 c0, .slice a1 n1 c1, .slice a2 n2 c2, .slice a3 n3 c3] 30) := by show Vb _ _ _ _; rw [← hW, ← hS]; exact (Vb.new _ _ _).push _
  have R : Hid (Vb W (s + 1) #[.int .i64 0, .string ⟨#[]⟩] 35) := by
    have z1 : s + 1 = (w.alloc (.cells #[.slice a0 n0 c0, .slice a1 n1 c1, .slice a2 n2 c2, .slice a3 n3 c3] 30)).heap.size := by rw [← hS]; simp
    show Vb _ _ _ _; rw [← hW, z1]; exact Vb.new _ _ _
  have HP : Hid (Pl W a0 n0 c0 a1 n1 c1 a2 n2 c2 a3 n3 c3 P) := h.stay B0.out
  have HG : Hid (W.cell? ⟨1, 0, none⟩ = some (.iface 137 (.agg #[.pointer (some ⟨10, 45, none⟩)]))) := cell_keep B0.out hg
  have HTw : Hid (Lib.TabIs Tryz.prog w "internal/strconv.uint64pow10" .u64 Lib.pow10Tab) := ht
  have LFw : Hid (w.cell? ⟨0, 0, none⟩ = some (.string (bs wdOwn)) ∧ w.cell? ⟨0, 3, none⟩ = some (.string (bs wdLane)) ∧ w.cell? ⟨0, 6, none⟩ = some (.string (bs wdBell)) ∧ w.cell? ⟨0, 9, none⟩ = some (.string (bs wdSlot))) := hlf
  clear h hg ht hlf
  have q0 := Q.out.cell 0 rfl
  have q1 := Q.out.cell 1 rfl
  have q2 := Q.out.cell 2 rfl
  have q3 := Q.out.cell 3 rfl
  go_enter Tryz.func7, Tryz.ntmps7
  go_wp2_with fail
  clear hW hS q0 q1 q2 q3
  refine (impl_policy _ _ _ _ _ _ _ _ _ _ _ _ P _ HP.out HG.out).mono ?_
  rintro e w1 ⟨rfl, b1⟩
  have B1 : Hid (Below w.heap.size w w1) := on B0.out b1
  have R1 : Hid (Vb w1 (s + 1) #[.int .i64 0, .string ⟨#[]⟩] 35) := R.out.keep b1
  have Q1 : Hid (Vb w1 s #[.slice a0 n0 c0, .slice a1 n1 c1, .slice a2 n2 c2, .slice a3 n3 c3] 30) := Q.out.keep b1
  have HP1 : Hid (Pl w1 a0 n0 c0 a1 n1 c1 a2 n2 c2 a3 n3 c3 P) := HP.out.stay b1
  clear b1
  by_cases hf : pfV P = 0
  case neg =>
    have t1 : pfV P = U := by rw [← HU.out.1, fmR, if_neg hf]
    have t2 : ⟨#[]⟩ = T := by rw [← HU.out.2, fmR, if_neg hf]; rfl
    clear HU
    rw [t1]
    subst t2
    rw [t1] at hf
    clear t1
    have p0 := R1.out.cell 0 rfl
    have f0 := R1.out.free 0
    have p1 := R1.out.cell 1 rfl
    have f1 := R1.out.free 1
    go_wp2_with fail
    have NN : Hid (Vb ((w1.setCell ⟨s + 1, 0, none⟩ (.int .i64 U)).setCell ⟨s + 1, 1, none⟩ (.string ⟨#[]⟩)) (s + 1) #[.int .i64 U, .string ⟨#[]⟩] 35) := two3 R1.out (.int .i64 U) (.string ⟨#[]⟩)
    have BN : Hid (Below w.heap.size w ((w1.setCell ⟨s + 1, 0, none⟩ (.int .i64 U)).setCell ⟨s + 1, 1, none⟩ (.string ⟨#[]⟩))) := (B1.out.setCell (by have := HSs.out; show w.heap.size ≤ s + 1; omega) _).setCell (by have := HSs.out; show w.heap.size ≤ s + 1; omega) _
    clear p0 f0 p1 f1
    generalize ((w1.setCell ⟨s + 1, 0, none⟩ (.int .i64 U)).setCell ⟨s + 1, 1, none⟩ (.string ⟨#[]⟩)) = V at *
    have x0 := NN.out.cell 0 rfl
    have x1 := NN.out.cell 1 rfl
    exact bodyPost_ret (v := .agg #[.int .i64 U, .string ⟨#[]⟩]) (by simp [results, Tryz.results7, go_sem, x0, x1]) rfl ⟨rfl, BN.out⟩
  have t1 : 0 = U := by rw [← HU.out.1, fmR, if_pos hf]
  have ET : Hid (bs (fmW P) = T) := by show _ = _; rw [← HU.out.2, fmR, if_pos hf]
  have FM : Hid (Fm P) := fm_of hf
  subst t1
  rw [hf]
  clear hf HU
  have HF : Hid (Fm P) := FM.out
  clear HP
  have HP : Hid (Pl w1 a0 n0 c0 a1 n1 c1 a2 n2 c2 a3 n3 c3 P) := HP1.out
  clear HP1 FM Q R HG B0
  have HN : Hid (n0 = P.own.length ∧ n1 = P.lanes.length ∧ n2 = P.bells.length ∧ n3 = P.plan.length) := ⟨HP.out.own.len, HP.out.lanes.len, HP.out.bells.len, HP.out.plan.len⟩
  have HC0 : Hid ((n0 : Int) ≤ (c0 : Int)) := by have := HP.out.own.cap; show _ ≤ _; omega
  have HC1 : Hid ((n1 : Int) ≤ (c1 : Int)) := by have := HP.out.lanes.cap; show _ ≤ _; omega
  have HC2 : Hid ((n2 : Int) ≤ (c2 : Int)) := by have := HP.out.bells.cap; show _ ≤ _; omega
  have HC3 : Hid ((n3 : Int) ≤ (c3 : Int)) := by have := HP.out.plan.cap; show _ ≤ _; omega
  have i0 : (n0 : Int) ≤ 3 := by have := HN.out.1; have := HF.out.o3; omega
  have i1 : (n1 : Int) ≤ 4 := by have := HN.out.2.1; have := HF.out.l4; omega
  have i2 : (n2 : Int) ≤ 4 := by have := HN.out.2.2.1; have := HF.out.b4; omega
  have i3 : (n3 : Int) ≤ 8 := by have := HN.out.2.2.2; have := HF.out.s8; omega
  have HT : Hid (Lib.TabIs Tryz.prog w1 "internal/strconv.uint64pow10" .u64 Lib.pow10Tab) := Lib.tabBelow_of_tabIs HTw.out _ B1.out
  have LF : Hid (w1.cell? ⟨0, 0, none⟩ = some (.string (bs wdOwn)) ∧ w1.cell? ⟨0, 3, none⟩ = some (.string (bs wdLane)) ∧ w1.cell? ⟨0, 6, none⟩ = some (.string (bs wdBell)) ∧ w1.cell? ⟨0, 9, none⟩ = some (.string (bs wdSlot))) := ⟨cell_keep B1.out LFw.out.1, cell_keep B1.out LFw.out.2.1, cell_keep B1.out LFw.out.2.2.1, cell_keep B1.out LFw.out.2.2.2⟩
  clear HTw LFw
  obtain ⟨B, hB⟩ : ∃ B, w1.heap.size = B := ⟨_, rfl⟩
  have HB : Hid (w1.heap.size = B) := hB
  have I0 : Hid (Lib.IsBuilder 52 5 B B (Lib.byteCells (fm0 P 0)) (w1.alloc (.cells #[.pointer none, .slice none 0 0] 52))) :=
    .inl ⟨Nat.le_refl _, .slice none 0 0, by rw [← hB]; exact heap_alloc_new w1 _, World.ownsRow_nil _ _ _ _, by intro e; cases e⟩
  have W0 : Hid (Below B w1 (w1.alloc (.cells #[.pointer none, .slice none 0 0] 52))) := by show Below _ _ _; rw [← hB]; exact al (Below.refl _ _) _
  have q0 : (w1.alloc (.cells #[.pointer none, .slice none 0 0] 52)).cell? ⟨s, 0, none⟩ = some (.slice a0 n0 c0) := cell_push _ (Q1.out.cell 0 rfl)
  clear hB
  go_wp2_with fail
  clear q0
  generalize w1.alloc (.cells #[.pointer none, .slice none 0 0] 52) = W at *
  rw [HB.out]
  go_loopw [22] (fun i wr => ∃ j : Nat, j ≤ n0 ∧ i = .int .i64 j ∧ Lib.IsBuilder 52 5 B B (Lib.byteCells (fm0 P j)) wr ∧ Below B w1 wr) (fun i _ => n0 - (intOf i).toNat)
  case atStart => exact ⟨0, Nat.zero_le _, rfl, I0.out, W0.out⟩
  case round =>
    obtain ⟨j, hj, rfl, hI1, hB1⟩ := hrel
    have I1 : Hid (Lib.IsBuilder 52 5 B B (Lib.byteCells (fm0 P j)) wr) := hI1
    have B1w : Hid (Below B w1 wr) := hB1
    have kb : Below w1.heap.size w1 wr := by rw [HB.out]; exact hB1
    have KB : Hid (Below w1.heap.size w1 wr) := kb
    have LB : Hid (B ≤ wr.heap.size) := by show _ ≤ _; have := hB1.size; have := HB.out; omega
    clear hI1 hB1
    by_cases hlt : j < n0
    · have hJ : (j : Int) < (n0 : Int) := by omega
      have HL : Hid (j < n0) := hlt
      have hjc : (j : Int) ≤ (c0 : Int) := by have := HC0.out; omega
      obtain ⟨x, b, l, c, rfl, cx, nz⟩ := (HP.out.own.stay kb).at j hlt
      have NX : Hid (_ = _) := fm0_next (P := P) (j := j) (by have := HN.out.1; omega)
      have LK : Hid (LkOk (P.own.getD j [])) := lk_at HF.out.ok0 (by have := HN.out.1; omega)
      obtain ⟨zs, hz⟩ : ∃ zs, P.own.getD j [] = zs := ⟨_, rfl⟩
      rw [hz] at nz NX LK
      have NZ : Hid (Rn wr b l c zs) := nz
      have NL : Hid (l ≤ 40) := by show _ ≤ _; have := NZ.out.len; have := LK.out.1; omega
      clear hz nz
      have DL : Hid ((nlW wdOwn zs).length ≤ 500) := nl_len LK.out.2 LK.out.1 (by decide)
      have LL : Hid ((fm0 P j).length ≤ 16000) := fm0_len HF.out j
      have EN : Hid (fm0 P (j + 1) = fm0 P j ++ nlW wdOwn zs) := NX.out
      clear hlt hj kb NX
      go_wp2_with fail
      clear cx
      refine (i_line0 _ _ _ zs _ NZ.out LK.out.2 NL.out (Lib.tabBelow_of_tabIs HT.out _ KB.out) (cell_keep KB.out LF.out.1)).mono ?_
      rintro e w2 ⟨rfl, b2⟩
      have I2 : Hid (Lib.IsBuilder 52 5 B B (Lib.byteCells (fm0 P j)) w2) := isb_keepF I1.out b2
      have B2 : Hid (Below B w1 w2) := B1w.out.trans (b2.mono LB.out)
      obtain ⟨D, hD⟩ : ∃ D, nlW wdOwn zs = D := ⟨_, rfl⟩
      rw [hD] at DL EN ⊢
      clear b2 hD
      go_wp2_with fail
      refine (bd_string B B _ (bs D) w2 I2.out (by rw [Lib.byteCells_length, bs_size]; have := LL.out; have := DL.out; omega) (by have := B2.out.size; have := HB.out; omega)).mono ?_
      rintro e w3 ⟨rfl, k3, b3⟩
      have K3 : Hid (Lib.IsBuilder 52 5 B B (Lib.byteCells (fm0 P (j + 1))) w3) := by
        show Lib.IsBuilder _ _ _ _ _ _
        rw [EN.out, Lib.byteCells_append]
        exact .inr k3
      have B3 : Hid (Below B w1 w3) := B2.out.trans b3
      clear k3 b3
      go_wp2_with fail
      go_roundw
      case rel => exact ⟨j + 1, by have := HL.out; omega, by go_num, K3.out, B3.out⟩
      case measure => have := HL.out; simp [intOf]; omega
    · have hJ : ¬ (j : Int) < (n0 : Int) := by omega
      have I2 : Hid (Lib.IsBuilder 52 5 B B (Lib.byteCells (fm1 P 0)) wr) := by
        show Lib.IsBuilder _ _ _ _ _ _
        rw [← fm1_zero, show P.own.length = j by have := HN.out.1; omega]
        exact I1.out
      have q1 := cell_keep kb (Q1.out.cell 1 rfl)
      clear hlt hj kb I1
      go_wp2_with fail
      clear hJ q1
      go_loopw [33] (fun i wr => ∃ j : Nat, j ≤ n1 ∧ i = .int .i64 j ∧ Lib.IsBuilder 52 5 B B (Lib.byteCells (fm1 P j)) wr ∧ Below B w1 wr) (fun i _ => n1 - (intOf i).toNat)
      case atStart => exact ⟨0, Nat.zero_le _, rfl, I2.out, B1w.out⟩
      case round =>
        obtain ⟨j, hj, rfl, hI1, hB1⟩ := hrel
        have I1 : Hid (Lib.IsBuilder 52 5 B B (Lib.byteCells (fm1 P j)) wr) := hI1
        have B1w : Hid (Below B w1 wr) := hB1
        have kb : Below w1.heap.size w1 wr := by rw [HB.out]; exact hB1
        have KB : Hid (Below w1.heap.size w1 wr) := kb
        have LB : Hid (B ≤ wr.heap.size) := by show _ ≤ _; have := hB1.size; have := HB.out; omega
        clear hI1 hB1
        by_cases hlt : j < n1
        · have hJ : (j : Int) < (n1 : Int) := by omega
          have HL : Hid (j < n1) := hlt
          have hjc : (j : Int) ≤ (c1 : Int) := by have := HC1.out; omega
          obtain ⟨x, rfl, k0, k1, k2, k3, k4⟩ := (HP.out.lanes.stay kb).at j hlt
          have NX : Hid (_ = _) := fm1_next (P := P) (j := j) (by have := HN.out.2.1; omega)
          have LK : Hid (LkOk (ln5 (P.lanes.getD j lz))) := by show LkOk _; rw [← map_getD ln5 P.lanes lz j (by have := HN.out.2.1; omega)]; exact lk_at HF.out.ok1 (by have := HN.out.2.1; simp; omega)
          obtain ⟨⟨f, d, g, p, t⟩, hz⟩ : ∃ L, P.lanes.getD j lz = L := ⟨_, rfl⟩
          rw [hz] at k0 k1 k2 k3 k4 NX LK
          simp only at k0 k1 k2 k3 k4
          have LK : Hid (LkOk [f, d, g, p, t]) := LK.out
          clear hz
          have DL : Hid ((nlW wdLane [f, d, g, p, t]).length ≤ 500) := nl_len LK.out.2 LK.out.1 (by decide)
          have LL : Hid ((fm1 P j).length ≤ 16000) := fm1_len HF.out j
          have EN : Hid (fm1 P (j + 1) = fm1 P j ++ nlW wdLane [f, d, g, p, t]) := NX.out
          clear hlt hj kb NX
          go_wp2_with fail
          clear k0 k1 k2 k3 k4
          refine (i_line1 _ _ _ [f, d, g, p, t] _ (rn5 _ _ _ _ _ _ (by simp)) LK.out.2 (by decide) (Lib.tabBelow_of_tabIs HT.out _ (al (al KB.out _) _)) (cell_keep (al (al KB.out _) _) LF.out.2.1)).mono ?_
          rintro e w2 ⟨rfl, b2⟩
          have I2 : Hid (Lib.IsBuilder 52 5 B B (Lib.byteCells (fm1 P j)) w2) := isb_keepF I1.out (on (al (al (Below.refl _ _) _) _) b2)
          have B2 : Hid (Below B w1 w2) := B1w.out.trans ((on (al (al (Below.refl _ _) _) _) b2).mono LB.out)
          obtain ⟨D, hD⟩ : ∃ D, nlW wdLane [f, d, g, p, t] = D := ⟨_, rfl⟩
          rw [hD] at DL EN ⊢
          clear b2 hD
          go_wp2_with fail
          refine (bd_string B B _ (bs D) w2 I2.out (by rw [Lib.byteCells_length, bs_size]; have := LL.out; have := DL.out; omega) (by have := B2.out.size; have := HB.out; omega)).mono ?_
          rintro e w3 ⟨rfl, k3, b3⟩
          have K3 : Hid (Lib.IsBuilder 52 5 B B (Lib.byteCells (fm1 P (j + 1))) w3) := by
            show Lib.IsBuilder _ _ _ _ _ _
            rw [EN.out, Lib.byteCells_append]
            exact .inr k3
          have B3 : Hid (Below B w1 w3) := B2.out.trans b3
          clear k3 b3
          go_wp2_with fail
          go_roundw
          case rel => exact ⟨j + 1, by have := HL.out; omega, by go_num, K3.out, B3.out⟩
          case measure => have := HL.out; simp [intOf]; omega
        · have hJ : ¬ (j : Int) < (n1 : Int) := by omega
          have I2 : Hid (Lib.IsBuilder 52 5 B B (Lib.byteCells (fm2 P 0)) wr) := by
            show Lib.IsBuilder _ _ _ _ _ _
            rw [← fm2_zero, show P.lanes.length = j by have := HN.out.2.1; omega]
            exact I1.out
          have q2 := cell_keep kb (Q1.out.cell 2 rfl)
          clear hlt hj kb I1
          go_wp2_with fail
          clear hJ q2
          go_loopw [54] (fun i wr => ∃ j : Nat, j ≤ n2 ∧ i = .int .i64 j ∧ Lib.IsBuilder 52 5 B B (Lib.byteCells (fm2 P j)) wr ∧ Below B w1 wr) (fun i _ => n2 - (intOf i).toNat)
          case atStart => exact ⟨0, Nat.zero_le _, rfl, I2.out, B1w.out⟩
          case round =>
            obtain ⟨j, hj, rfl, hI1, hB1⟩ := hrel
            have I1 : Hid (Lib.IsBuilder 52 5 B B (Lib.byteCells (fm2 P j)) wr) := hI1
            have B1w : Hid (Below B w1 wr) := hB1
            have kb : Below w1.heap.size w1 wr := by rw [HB.out]; exact hB1
            have KB : Hid (Below w1.heap.size w1 wr) := kb
            have LB : Hid (B ≤ wr.heap.size) := by show _ ≤ _; have := hB1.size; have := HB.out; omega
            clear hI1 hB1
            by_cases hlt : j < n2
            · have hJ : (j : Int) < (n2 : Int) := by omega
              have HL : Hid (j < n2) := hlt
              have hjc : (j : Int) ≤ (c2 : Int) := by have := HC2.out; omega
              obtain ⟨x, rfl, k0, k1⟩ := (HP.out.bells.stay kb).at j hlt
              have NX : Hid (_ = _) := fm2_next (P := P) (j := j) (by have := HN.out.2.2.1; omega)
              have LK : Hid (LkOk (pr2 (P.bells.getD j (0, 0)))) := by show LkOk _; rw [← map_getD pr2 P.bells (0, 0) j (by have := HN.out.2.2.1; omega)]; exact lk_at HF.out.ok2 (by have := HN.out.2.2.1; simp; omega)
              obtain ⟨⟨f, t⟩, hz⟩ : ∃ L, P.bells.getD j (0, 0) = L := ⟨_, rfl⟩
              rw [hz] at k0 k1 NX LK
              simp only at k0 k1
              have LK : Hid (LkOk [f, t]) := LK.out
              clear hz
              have DL : Hid ((nlW wdBell [f, t]).length ≤ 500) := nl_len LK.out.2 LK.out.1 (by decide)
              have LL : Hid ((fm2 P j).length ≤ 16000) := fm2_len HF.out j
              have EN : Hid (fm2 P (j + 1) = fm2 P j ++ nlW wdBell [f, t]) := NX.out
              clear hlt hj kb NX
              go_wp2_with fail
              clear k0 k1
              refine (i_line2 _ _ _ [f, t] _ (rn2 _ _ _ (by simp)) LK.out.2 (by decide) (Lib.tabBelow_of_tabIs HT.out _ (al (al KB.out _) _)) (cell_keep (al (al KB.out _) _) LF.out.2.2.1)).mono ?_
              rintro e w2 ⟨rfl, b2⟩
              have I2 : Hid (Lib.IsBuilder 52 5 B B (Lib.byteCells (fm2 P j)) w2) := isb_keepF I1.out (on (al (al (Below.refl _ _) _) _) b2)
              have B2 : Hid (Below B w1 w2) := B1w.out.trans ((on (al (al (Below.refl _ _) _) _) b2).mono LB.out)
              obtain ⟨D, hD⟩ : ∃ D, nlW wdBell [f, t] = D := ⟨_, rfl⟩
              rw [hD] at DL EN ⊢
              clear b2 hD
              go_wp2_with fail
              refine (bd_string B B _ (bs D) w2 I2.out (by rw [Lib.byteCells_length, bs_size]; have := LL.out; have := DL.out; omega) (by have := B2.out.size; have := HB.out; omega)).mono ?_
              rintro e w3 ⟨rfl, k3, b3⟩
              have K3 : Hid (Lib.IsBuilder 52 5 B B (Lib.byteCells (fm2 P (j + 1))) w3) := by
                show Lib.IsBuilder _ _ _ _ _ _
                rw [EN.out, Lib.byteCells_append]
                exact .inr k3
              have B3 : Hid (Below B w1 w3) := B2.out.trans b3
              clear k3 b3
              go_wp2_with fail
              go_roundw
              case rel => exact ⟨j + 1, by have := HL.out; omega, by go_num, K3.out, B3.out⟩
              case measure => have := HL.out; simp [intOf]; omega
            · have hJ : ¬ (j : Int) < (n2 : Int) := by omega
              have I2 : Hid (Lib.IsBuilder 52 5 B B (Lib.byteCells (fm3 P 0)) wr) := by
                show Lib.IsBuilder _ _ _ _ _ _
                rw [← fm3_zero, show P.bells.length = j by have := HN.out.2.2.1; omega]
                exact I1.out
              have q3 := cell_keep kb (Q1.out.cell 3 rfl)
              clear hlt hj kb I1
              go_wp2_with fail
              clear hJ q3
              go_loopw [69] (fun i wr => ∃ j : Nat, j ≤ n3 ∧ i = .int .i64 j ∧ Lib.IsBuilder 52 5 B B (Lib.byteCells (fm3 P j)) wr ∧ Below B w1 wr) (fun i _ => n3 - (intOf i).toNat)
              case atStart => exact ⟨0, Nat.zero_le _, rfl, I2.out, B1w.out⟩
              case round =>
                obtain ⟨j, hj, rfl, hI1, hB1⟩ := hrel
                have I1 : Hid (Lib.IsBuilder 52 5 B B (Lib.byteCells (fm3 P j)) wr) := hI1
                have B1w : Hid (Below B w1 wr) := hB1
                have kb : Below w1.heap.size w1 wr := by rw [HB.out]; exact hB1
                have KB : Hid (Below w1.heap.size w1 wr) := kb
                have LB : Hid (B ≤ wr.heap.size) := by show _ ≤ _; have := hB1.size; have := HB.out; omega
                clear hI1 hB1
                by_cases hlt : j < n3
                · have hJ : (j : Int) < (n3 : Int) := by omega
                  have HL : Hid (j < n3) := hlt
                  have hjc : (j : Int) ≤ (c3 : Int) := by have := HC3.out; omega
                  obtain ⟨x, rfl, k0, k1⟩ := (HP.out.plan.stay kb).at j hlt
                  have NX : Hid (_ = _) := fm3_next (P := P) (j := j) (by have := HN.out.2.2.2; omega)
                  have LK : Hid (LkOk (pr2 (P.plan.getD j (0, 0)))) := by show LkOk _; rw [← map_getD pr2 P.plan (0, 0) j (by have := HN.out.2.2.2; omega)]; exact lk_at HF.out.ok3 (by have := HN.out.2.2.2; simp; omega)
                  obtain ⟨⟨f, t⟩, hz⟩ : ∃ L, P.plan.getD j (0, 0) = L := ⟨_, rfl⟩
                  rw [hz] at k0 k1 NX LK
                  simp only at k0 k1
                  have LK : Hid (LkOk [f, t]) := LK.out
                  clear hz
                  have DL : Hid ((nlW wdSlot [f, t]).length ≤ 500) := nl_len LK.out.2 LK.out.1 (by decide)
                  have LL : Hid ((fm3 P j).length ≤ 16000) := fm3_len HF.out j
                  have EN : Hid (fm3 P (j + 1) = fm3 P j ++ nlW wdSlot [f, t]) := NX.out
                  clear hlt hj kb NX
                  go_wp2_with fail
                  clear k0 k1
                  refine (i_line3 _ _ _ [f, t] _ (rn2 _ _ _ (by simp)) LK.out.2 (by decide) (Lib.tabBelow_of_tabIs HT.out _ (al (al KB.out _) _)) (cell_keep (al (al KB.out _) _) LF.out.2.2.2)).mono ?_
                  rintro e w2 ⟨rfl, b2⟩
                  have I2 : Hid (Lib.IsBuilder 52 5 B B (Lib.byteCells (fm3 P j)) w2) := isb_keepF I1.out (on (al (al (Below.refl _ _) _) _) b2)
                  have B2 : Hid (Below B w1 w2) := B1w.out.trans ((on (al (al (Below.refl _ _) _) _) b2).mono LB.out)
                  obtain ⟨D, hD⟩ : ∃ D, nlW wdSlot [f, t] = D := ⟨_, rfl⟩
                  rw [hD] at DL EN ⊢
                  clear b2 hD
                  go_wp2_with fail
                  refine (bd_string B B _ (bs D) w2 I2.out (by rw [Lib.byteCells_length, bs_size]; have := LL.out; have := DL.out; omega) (by have := B2.out.size; have := HB.out; omega)).mono ?_
                  rintro e w3 ⟨rfl, k3, b3⟩
                  have K3 : Hid (Lib.IsBuilder 52 5 B B (Lib.byteCells (fm3 P (j + 1))) w3) := by
                    show Lib.IsBuilder _ _ _ _ _ _
                    rw [EN.out, Lib.byteCells_append]
                    exact .inr k3
                  have B3 : Hid (Below B w1 w3) := B2.out.trans b3
                  clear k3 b3
                  go_wp2_with fail
                  go_roundw
                  case rel => exact ⟨j + 1, by have := HL.out; omega, by go_num, K3.out, B3.out⟩
                  case measure => have := HL.out; simp [intOf]; omega
                · have hJ : ¬ (j : Int) < (n3 : Int) := by omega
                  have EJ : (⟨(fm3 P j).toArray⟩ : ByteArray) = T := by rw [← ET.out, fmW, show P.plan.length = j by have := HN.out.2.2.2; omega]; rfl
                  clear hlt hj kb
                  go_wp2_with fail
                  clear hJ
                  refine (Tryz.Builder_String_any B B (fm3 P j) _ I1.out LB.out).mono ?_
                  rintro e w4 ⟨rfl, b4⟩
                  have B4' : Hid (Below w1.heap.size w1 w4) := by show Below _ _ _; rw [HB.out]; exact B1w.out.trans b4
                  have B4 : Hid (Below w.heap.size w w4) := on B1.out B4'.out
                  have R4 : Hid (Vb w4 (s + 1) #[.int .i64 0, .string ⟨#[]⟩] 35) := R1.out.keep B4'.out
                  rw [EJ]
                  clear b4 EJ
                  have p0 := R4.out.cell 0 rfl
                  have f0 := R4.out.free 0
                  have p1 := R4.out.cell 1 rfl
                  have f1 := R4.out.free 1
                  go_wp2_with fail
                  have NN : Hid (Vb ((w4.setCell ⟨s + 1, 0, none⟩ (.int .i64 0)).setCell ⟨s + 1, 1, none⟩ (.string T)) (s + 1) #[.int .i64 0, .string T] 35) := two3 R4.out (.int .i64 0) (.string T)
                  have BN : Hid (Below w.heap.size w ((w4.setCell ⟨s + 1, 0, none⟩ (.int .i64 0)).setCell ⟨s + 1, 1, none⟩ (.string T))) := (B4.out.setCell (by have := HSs.out; show w.heap.size ≤ s + 1; omega) _).setCell (by have := HSs.out; show w.heap.size ≤ s + 1; omega) _
                  clear p0 f0 p1 f1
                  generalize ((w4.setCell ⟨s + 1, 0, none⟩ (.int .i64 0)).setCell ⟨s + 1, 1, none⟩ (.string T)) = V at *
                  have x0 := NN.out.cell 0 rfl
                  have x1 := NN.out.cell 1 rfl
                  exact bodyPost_ret (v := .agg #[.int .i64 0, .string T]) (by simp [results, Tryz.results7, go_sem, x0, x1]) rfl ⟨rfl, BN.out⟩
end Go.Proofs.YtkfcofjmjbkekaaGreatDoor
namespace Go.Proofs.YtkfcofjmjbkekaaGreatDoor
open Go.RowKit
set_option linter.unusedVariables false

set_option maxHeartbeats 1000000 in
theorem code_two (i c : Int) (w : World) (hg : w.cell? ⟨1, 0, none⟩ = some (.iface 137 (.agg #[.pointer (some ⟨10, 45, none⟩)]))) :
    Calls Tryz.prog 18 #[.iface 83 (.agg #[.int .i64 i, .iface 81 (.agg #[.int .i64 c])])] w fun e w' => e = .returned (.int .i64 c) ∧ Below w.heap.size w w' := by
  have hgA : Hid (_ = _) := cell_push (.cells #[.int .i64 0] 81) hg
  have htA : Hid ((w.alloc (.cells #[.int .i64 0] 81)).cell? ⟨w.heap.size, 0, none⟩ = some (.int .i64 0)) := cell_new rfl
  have hfA : Hid ((w.alloc (.cells #[.int .i64 0] 81)).frozen? ⟨w.heap.size, 0, none⟩ = false) := by show _ = _; simp
  clear hg
  have AS : Calls Tryz.prog 41 #[.iface 83 (.agg #[.int .i64 i, .iface 81 (.agg #[.int .i64 c])]), .iface 87 (.pointer (some ⟨w.heap.size, 0, none⟩))] (w.alloc (.cells #[.int .i64 0] 81)) fun e w' => e = .returned (.bool true) ∧ w'.cell? ⟨w.heap.size, 0, none⟩ = some (.int .i64 c) ∧ Below w.heap.size w w' := (as_two i c ⟨w.heap.size, 0, none⟩ (.int .i64 0) (w.alloc (.cells #[.int .i64 0] 81)) hgA.out htA.out hfA.out).mono (by
    rintro e w' ⟨h1, w1, b1, rfl⟩
    exact ⟨h1, World.cell?_setCell_same _ _ _ (cell_keep b1 htA.out), (on (al (Below.refl _ _) _) b1).setCell (by simp) _⟩)
  go_enter Tryz.func18, Tryz.ntmps18
  go_wp2_with (go_at_call 41; refine AS.mono ?_; rintro e w' ⟨rfl, k1, B1⟩)
  go_ret
  exact ⟨rfl, B1⟩
set_option maxHeartbeats 1000000 in
theorem lines_line (i c : Int) (w : World) (hg : w.cell? ⟨1, 0, none⟩ = some (.iface 137 (.agg #[.pointer (some ⟨10, 45, none⟩)]))) :
    Calls Tryz.prog 19 #[.iface 83 (.agg #[.int .i64 i, .iface 81 (.agg #[.int .i64 c])])] w fun e w' => e = .returned (.int .i64 i) ∧ Below w.heap.size w w' := by
  have hgA : Hid (_ = _) := cell_push (.cells #[.int .i64 0, .nilIface] 83) hg
  have htA : Hid ((w.alloc (.cells #[.int .i64 0, .nilIface] 83)).cell? ⟨w.heap.size, 0, none⟩ = some (.int .i64 0)) := cell_new rfl
  have htB : Hid ((w.alloc (.cells #[.int .i64 0, .nilIface] 83)).cell? ⟨w.heap.size, 1, none⟩ = some .nilIface) := cell_new rfl
  have hfA : Hid (∀ k, (w.alloc (.cells #[.int .i64 0, .nilIface] 83)).frozen? ⟨w.heap.size, k, none⟩ = false) := fun k => by simp
  clear hg
  have AS : Calls Tryz.prog 41 #[.iface 83 (.agg #[.int .i64 i, .iface 81 (.agg #[.int .i64 c])]), .iface 88 (.pointer (some ⟨w.heap.size, 0, none⟩))] (w.alloc (.cells #[.int .i64 0, .nilIface] 83)) fun e w' => e = .returned (.bool true) ∧ w'.cell? ⟨w.heap.size, 0, none⟩ = some (.int .i64 i) ∧ Below w.heap.size w w' := (as_line i c ⟨w.heap.size, 0, none⟩ (.int .i64 0) .nilIface (w.alloc (.cells #[.int .i64 0, .nilIface] 83)) hgA.out htA.out htB.out (hfA.out 0) (hfA.out 1) rfl).mono (by
    rintro e w' ⟨h1, w1, b1, rfl⟩
    refine ⟨h1, ?_, ((on (al (Below.refl _ _) _) b1).setCell (by simp) _).setCell (by show w.heap.size ≤ w.heap.size; exact Nat.le_refl _) _⟩
    rw [World.cell?_setCell_other _ _ _ _ (by intro e; have := congrArg Addr.off e; exact absurd this (by show (1 : Nat) ≠ 0; decide))]
    exact World.cell?_setCell_same _ _ _ (cell_keep b1 htA.out))
  go_enter Tryz.func19, Tryz.ntmps19
  go_wp2_with (go_at_call 41; refine AS.mono ?_; rintro e w' ⟨rfl, k1, B1⟩)
  go_ret
  exact ⟨rfl, B1⟩
set_option maxHeartbeats 1000000 in
theorem lines_miss (c : Int) (w : World) (hg : w.cell? ⟨1, 0, none⟩ = some (.iface 137 (.agg #[.pointer (some ⟨10, 45, none⟩)]))) :
    Calls Tryz.prog 19 #[.iface 81 (.agg #[.int .i64 c])] w fun e w' => e = .returned (.int .i64 0) ∧ Below w.heap.size w w' := by
  have AS := as_miss c ⟨w.heap.size, 0, none⟩ (.int .i64 0) (w.alloc (.cells #[.int .i64 0, .nilIface] 83)) (cell_push _ hg) (cell_new rfl)
  clear hg
  go_enter Tryz.func19, Tryz.ntmps19
  go_wp2_with (go_at_call 41; refine AS.mono ?_; rintro e w' ⟨rfl, B1⟩)
  go_ret
  exact ⟨rfl, on (al (Below.refl _ _) _) B1⟩
theorem Wp.putR {w : World} {base q i : Nat} {v0 v1 v2 v3 u : Value} {P : Plc} {xs : List Value} {cs : Array Value} (h : Wp w base v0 v1 v2 v3 P xs) (k : Kb w q cs 32) : Wp (w.setCell ⟨q, i, none⟩ u) base v0 v1 v2 v3 P xs :=
  ⟨row_put h.own k (by decide), h.xl, fun i x e => row_put (h.rows i x e) k (by decide), h.apart, row_put h.lanes k (by decide), row_put h.bells k (by decide), row_put h.plan k (by decide)⟩
theorem Wp.put6 {w : World} {base q : Nat} {v0 v1 v2 v3 u0 u1 u2 u3 u4 u5 : Value} {P : Plc} {xs : List Value} {cs : Array Value} (h : Wp w base v0 v1 v2 v3 P xs) (k : Kb w q cs 32) : Wp ((((((w.setCell ⟨q, 0, none⟩ u0).setCell ⟨q, 1, none⟩ u1).setCell ⟨q, 2, none⟩ u2).setCell ⟨q, 3, none⟩ u3).setCell ⟨q, 4, none⟩ u4).setCell ⟨q, 5, none⟩ u5) base v0 v1 v2 v3 P xs :=
  (((((h.putR k).putR (k.set 0 u0)).putR ((k.set 0 u0).set 1 u1)).putR (((k.set 0 u0).set 1 u1).set 2 u2)).putR ((((k.set 0 u0).set 1 u1).set 2 u2).set 3 u3)).putR (((((k.set 0 u0).set 1 u1).set 2 u2).set 3 u3).set 4 u4)
/-- What reading a policy answers. -/
def ppO (w w' : World) (r : Int × Nat × Plc) (e : Ending) : Prop := ∃ v0 v1 v2 v3 xs, e = .returned (.agg #[.int .i64 r.1, .int .i64 (r.2.1 : Int), v0, v1, v2, v3]) ∧ Wp w' w.heap.size v0 v1 v2 v3 r.2.2 xs
set_option maxRecDepth 20000 in
set_option maxHeartbeats 8000000 in
theorem i_parsePolicy (tx : Wb) (hl : tx.length ≤ 1048576) (w : World) (g : Gp w) : Calls Tryz.prog 6 #[.string (bq tx)] w fun e w' => ppO w w' (ppV tx) e ∧ Below w.heap.size w w' := by
  have hz : (bq tx).size = tx.length := bq_size tx
  have G : Hid (Gp w) := g
  obtain ⟨n, hn⟩ : ∃ n, tx.length = n := ⟨_, rfl⟩
  have hnI : (n : Int) ≤ 1048576 := by omega
  by_cases hb : 1000 < n
  · have e : ppV tx = (2, 0, vdP) := by unfold ppV; rw [if_pos (by omega)]
    have hI : (1000 : Int) < (n : Int) := by omega
    rw [e]
    rw [hn] at hz
    clear e hn hl g
    generalize bq tx = S at *
    go_enter Tryz.func6, Tryz.ntmps6
    go_wp2_with fail
    exact bodyPost_ret (v := .agg #[.int .i64 2, .int .i64 0, .slice none 0 0, .slice none 0 0, .slice none 0 0, .slice none 0 0]) (by simp [results, Tryz.results6, go_sem]) rfl ⟨⟨_, _, _, _, _, rfl, Wp.void _ _⟩, al (Below.refl _ _) _⟩
  have hI : (n : Int) ≤ 1000 := by omega
  have RP := fun w1 (g1 : Gp w1) => i_readPolicy tx (by omega) w1 g1
  have hpp : ppV tx = if (rdP (spl 10 tx []) 0 0 vdP).1 = 0 then (if pfV (rdP (spl 10 tx []) 0 0 vdP).2.2 = 0 then (0, 0, (rdP (spl 10 tx []) 0 0 vdP).2.2) else (pfV (rdP (spl 10 tx []) 0 0 vdP).2.2, 0, vdP)) else ((rdP (spl 10 tx []) 0 0 vdP).1, (rdP (spl 10 tx []) 0 0 vdP).2.1, vdP) := by unfold ppV; rw [if_neg (by omega)]
  obtain ⟨V, hV⟩ : ∃ V, ppV tx = V := ⟨_, rfl⟩
  obtain ⟨R, hR⟩ : ∃ R, rdP (spl 10 tx []) 0 0 vdP = R := ⟨_, rfl⟩
  rw [hR] at hpp RP
  rw [hV] at hpp ⊢
  have HP : Hid (V = if R.1 = 0 then (if pfV R.2.2 = 0 then (0, 0, R.2.2) else (pfV R.2.2, 0, vdP)) else (R.1, R.2.1, vdP)) := hpp
  rw [hn] at hz
  clear hpp hV hR hn hl hb g
  generalize bq tx = S at *
  have GA : Hid (∀ o, Gp (w.alloc o)) := fun o => G.out.keep (al (Below.refl _ _) _)
  go_enter Tryz.func6, Tryz.ntmps6
  go_wp2_with fail
  refine (RP _ (GA.out _)).mono ?_
  clear RP
  rintro e w1 ⟨hq, b1⟩
  have B1 : Hid (Below w.heap.size w w1) := on (al (Below.refl _ _) _) b1
  have K1 : Hid (Kb w1 w.heap.size #[.int .i64 0, .int .i64 0, .slice none 0 0, .slice none 0 0, .slice none 0 0, .slice none 0 0] 32) := (Kb.new w _ _).keep b1
  have L1 : Hid (w.heap.size < w1.heap.size) := K1.out.lt
  clear b1
  rcases hq with ⟨h0, v0, v1, v2, v3, xs, rfl, hW⟩ | ⟨h5, rfl⟩
  · obtain ⟨b0, b1, b2, b3, d0, d1, d2, d3, rfl, rfl, rfl, rfl⟩ := hW.shape
    have WP : Hid (Wp w1 (w.heap.size + 1) (.slice b0 R.2.2.own.length d0) (.slice b1 R.2.2.lanes.length d1) (.slice b2 R.2.2.bells.length d2) (.slice b3 R.2.2.plan.length d3) R.2.2 xs) := by
      have h := hW
      rw [show (w.alloc (.cells #[.int .i64 0, .int .i64 0, .slice none 0 0, .slice none 0 0, .slice none 0 0, .slice none 0 0] 32)).heap.size = w.heap.size + 1 by simp] at h
      exact h
    have HV : Hid (V = if pfV R.2.2 = 0 then (0, 0, R.2.2) else (pfV R.2.2, 0, vdP)) := by have := HP.out; rw [if_pos h0] at this; exact this
    have IC := fun w2 (b : Below w1.heap.size w1 w2) => i_check _ _ _ _ _ _ _ _ _ _ _ _ R.2.2 w2 (hW.pl.stay b)
    clear hW h0 HP
    generalize R.2.2.own.length = n0 at *
    generalize R.2.2.lanes.length = n1 at *
    generalize R.2.2.bells.length = n2 at *
    generalize R.2.2.plan.length = n3 at *
    by_cases hf : pfV R.2.2 = 0
    · have e : V = (0, 0, R.2.2) := by have := HV.out; rw [if_pos hf] at this; exact this
      subst e
      rw [hf] at IC
      have ez : errV 0 = .nilIface := rfl
      rw [ez] at IC
      clear ez hf HV
      go_wp2_with (go_at_call 17; refine (IC _ (al (Below.refl _ _) _)).mono ?_; rintro e w2 ⟨rfl, bb⟩; have B2 : Hid (Below w1.heap.size w1 w2) := on (al (Below.refl _ _) _) bb; have P2 : Hid (Kb w2 w1.heap.size #[.slice b0 n0 d0, .slice b1 n1 d1, .slice b2 n2 d2, .slice b3 n3 d3] 30) := (Kb.new w1 _ _).keep bb; have q0 := P2.out.cell (i := 0) rfl; have q1 := P2.out.cell (i := 1) rfl; have q2 := P2.out.cell (i := 2) rfl; have q3 := P2.out.cell (i := 3) rfl; have K2 : Hid (Kb w2 w.heap.size _ _) := K1.out.keep B2.out; have r0 := K2.out.cell (i := 0) rfl; have r1 := K2.out.cell (i := 1) rfl; have r2 := K2.out.cell (i := 2) rfl; have r3 := K2.out.cell (i := 3) rfl; have r4 := K2.out.cell (i := 4) rfl; have r5 := K2.out.cell (i := 5) rfl; have t0 := K2.out.free 0; have t1 := K2.out.free 1; have t2 := K2.out.free 2; have t3 := K2.out.free 3; have t4 := K2.out.free 4; have t5 := K2.out.free 5; clear bb)
      have KF : Kb _ w.heap.size #[.int .i64 0, .int .i64 0, .slice b0 n0 d0, .slice b1 n1 d1, .slice b2 n2 d2, .slice b3 n3 d3] 32 := (((((K2.out.set 0 (.int .i64 0)).set 1 (.int .i64 0)).set 2 (.slice b0 n0 d0)).set 3 (.slice b1 n1 d1)).set 4 (.slice b2 n2 d2)).set 5 (.slice b3 n3 d3)
      have LD := run_loadVar_mid (P := Tryz.prog) _ w.heap.size 0 32 #[.int .i64 0, .int .i64 0, .slice b0 n0 d0, .slice b1 n1 d1, .slice b2 n2 d2, .slice b3 n3 d3].toList _ (fun j v hj => by rw [Nat.zero_add]; exact KF.cell (by simpa using hj)) Tryz.underlying32 rfl (by kernel_rfl)
      exact bodyPost_ret (v := .agg #[.int .i64 0, .int .i64 0, .slice b0 n0 d0, .slice b1 n1 d1, .slice b2 n2 d2, .slice b3 n3 d3]) (by simp [results, Tryz.results6, asAddr]; rw [LD]) rfl ⟨⟨_, _, _, _, xs, rfl, ((WP.out.keep B2.out).mono (by omega)).put6 K2.out⟩, (((((((on B1.out B2.out).setCell (Nat.le_refl _) _).setCell (Nat.le_refl _) _).setCell (Nat.le_refl _) _).setCell (Nat.le_refl _) _).setCell (Nat.le_refl _) _).setCell (Nat.le_refl _) _)⟩
    · have e : V = (pfV R.2.2, 0, vdP) := by have := HV.out; rw [if_neg hf] at this; exact this
      subst e
      have ez : errV (pfV R.2.2) = .iface 81 (.agg #[.int .i64 (pfV R.2.2)]) := by unfold errV; rw [if_neg hf]
      rw [ez] at IC
      clear ez hf HV
      go_wp2_with (first
        | (go_at_call 17; refine (IC _ (al (Below.refl _ _) _)).mono ?_; rintro e w2 ⟨rfl, b2⟩; have B2 : Hid (Below w1.heap.size w1 w2) := on (al (Below.refl _ _) _) b2; have G2 : Hid (Gp w2) := (G.out.keep B1.out).keep B2.out; clear b2)
        | (go_at_call 18; refine (code_hit _ _ G2.out.et).mono ?_; rintro e w3 ⟨rfl, b3⟩; have B3 : Hid (Below w2.heap.size w2 w3) := b3; clear b3)
        | (go_at_call 19; refine (lines_miss _ _ (G2.out.keep B3.out).et).mono ?_; rintro e w4 ⟨rfl, b4⟩; have B4 : Hid (Below w2.heap.size w2 w4) := on B3.out b4; have K2 : Hid (Kb w4 w.heap.size _ _) := (K1.out.keep B2.out).keep B4.out; have r0 := K2.out.cell (i := 0) rfl; have r1 := K2.out.cell (i := 1) rfl; have r2 := K2.out.cell (i := 2) rfl; have r3 := K2.out.cell (i := 3) rfl; have r4 := K2.out.cell (i := 4) rfl; have r5 := K2.out.cell (i := 5) rfl; have t0 := K2.out.free 0; have t1 := K2.out.free 1; have t2 := K2.out.free 2; have t3 := K2.out.free 3; have t4 := K2.out.free 4; have t5 := K2.out.free 5; clear b4))
      have KF : Kb _ w.heap.size #[.int .i64 (pfV R.2.2), .int .i64 0, .slice none 0 0, .slice none 0 0, .slice none 0 0, .slice none 0 0] 32 := (((((K2.out.set 0 (.int .i64 (pfV R.2.2))).set 1 (.int .i64 0)).set 2 (.slice none 0 0)).set 3 (.slice none 0 0)).set 4 (.slice none 0 0)).set 5 (.slice none 0 0)
      have LD := run_loadVar_mid (P := Tryz.prog) _ w.heap.size 0 32 #[.int .i64 (pfV R.2.2), .int .i64 0, .slice none 0 0, .slice none 0 0, .slice none 0 0, .slice none 0 0].toList _ (fun j v hj => by rw [Nat.zero_add]; exact KF.cell (by simpa using hj)) Tryz.underlying32 rfl (by kernel_rfl)
      exact bodyPost_ret (v := .agg #[.int .i64 (pfV R.2.2), .int .i64 0, .slice none 0 0, .slice none 0 0, .slice none 0 0, .slice none 0 0]) (by simp [results, Tryz.results6, asAddr]; rw [LD]) rfl ⟨⟨_, _, _, _, [], rfl, Wp.void _ _⟩, (((((((on (on B1.out B2.out) B4.out)).setCell (Nat.le_refl _) _).setCell (Nat.le_refl _) _).setCell (Nat.le_refl _) _).setCell (Nat.le_refl _) _).setCell (Nat.le_refl _) _).setCell (Nat.le_refl _) _⟩
  · have e : V = (5, R.2.1, vdP) := by have := HP.out; rw [if_neg (by rw [h5]; decide), h5] at this; exact this
    subst e
    skip
    clear HP h5
    have G2 : Hid (Gp w1) := G.out.keep B1.out
    go_wp2_with (first
      | (go_at_call 18; refine (code_two _ _ _ (G2.out.keep (al (Below.refl _ _) _)).et).mono ?_; rintro e w3 ⟨rfl, b3⟩; have B3 : Hid (Below w1.heap.size w1 w3) := on (al (Below.refl _ _) _) b3; clear b3)
      | (go_at_call 19; refine (lines_line _ _ _ (G2.out.keep B3.out).et).mono ?_; rintro e w4 ⟨rfl, b4⟩; have B4 : Hid (Below w1.heap.size w1 w4) := on B3.out b4; have K2 : Hid (Kb w4 w.heap.size _ _) := K1.out.keep B4.out; have r0 := K2.out.cell (i := 0) rfl; have r1 := K2.out.cell (i := 1) rfl; have r2 := K2.out.cell (i := 2) rfl; have r3 := K2.out.cell (i := 3) rfl; have r4 := K2.out.cell (i := 4) rfl; have r5 := K2.out.cell (i := 5) rfl; have t0 := K2.out.free 0; have t1 := K2.out.free 1; have t2 := K2.out.free 2; have t3 := K2.out.free 3; have t4 := K2.out.free 4; have t5 := K2.out.free 5; clear b4))
    have KF : Kb _ w.heap.size #[.int .i64 5, .int .i64 (R.2.1 : Int), .slice none 0 0, .slice none 0 0, .slice none 0 0, .slice none 0 0] 32 := (((((K2.out.set 0 (.int .i64 5)).set 1 (.int .i64 (R.2.1 : Int))).set 2 (.slice none 0 0)).set 3 (.slice none 0 0)).set 4 (.slice none 0 0)).set 5 (.slice none 0 0)
    have LD := run_loadVar_mid (P := Tryz.prog) _ w.heap.size 0 32 #[.int .i64 5, .int .i64 (R.2.1 : Int), .slice none 0 0, .slice none 0 0, .slice none 0 0, .slice none 0 0].toList _ (fun j v hj => by rw [Nat.zero_add]; exact KF.cell (by simpa using hj)) Tryz.underlying32 rfl (by kernel_rfl)
    exact bodyPost_ret (v := .agg #[.int .i64 5, .int .i64 (R.2.1 : Int), .slice none 0 0, .slice none 0 0, .slice none 0 0, .slice none 0 0]) (by simp [results, Tryz.results6, asAddr]; rw [LD]) rfl ⟨⟨_, _, _, _, [], rfl, Wp.void _ _⟩, (((((((on B1.out B4.out)).setCell (Nat.le_refl _) _).setCell (Nat.le_refl _) _).setCell (Nat.le_refl _) _).setCell (Nat.le_refl _) _).setCell (Nat.le_refl _) _).setCell (Nat.le_refl _) _⟩
end Go.Proofs.YtkfcofjmjbkekaaGreatDoor
namespace Go.Proofs.YtkfcofjmjbkekaaGreatDoor
open Go.RowKit
set_option linter.unusedVariables false

theorem Gn.low {a b : Nat} {w w' : World} (g : Gn b w w') (h : a ≤ b) : Gn a w w' := fun B x hx hb ha => g B x hx (Nat.le_trans hb h) ha
set_option maxRecDepth 20000 in
set_option maxHeartbeats 8000000 in
theorem s_add0 (base q : Nat) (v0 v1 v2 v3 u : Value) (P : Plc) (xs : List Value) (zs : List Int) (w : World) (h : Wp w base v0 v1 v2 v3 P xs) (kq : Kb w q #[v0, v1, v2, v3] 30) (hu : Nums w base u zs) (ha : ∀ x ∈ xs, Apt x u) (hq : q ≤ base) (hb : base ≤ w.heap.size) (hs : SmP P 1000) :
    Calls Tryz.prog 26 #[.pointer (some ⟨q, 0, none⟩), .int .i64 0, u] w fun e w' => e = .returned (.tuple #[]) ∧ ∃ v0' v1' v2' v3' xs', Wp w' base v0' v1' v2' v3' (adP P 0 zs) xs' ∧ Kb w' q #[v0', v1', v2', v3'] 30 ∧ Gn q w w' := by
  obtain ⟨b0, b1, b2, b3, d0, d1, d2, d3, rfl, rfl, rfl, rfl⟩ := h.shape
  obtain ⟨ua, uc, hv, _, _, hg⟩ := hu.shape
  subst hv
  have HW : Hid (Wp w base _ _ _ _ P xs) := h
  have HUN : Hid (Nums w base _ zs) := hu
  have HQ : Hid (q ≤ base) := hq
  have HA : Hid (∀ x ∈ xs, Apt x _) := ha
  have HB : Hid (base ≤ w.heap.size ∧ xs.length ≤ 1000) := ⟨hb, by rw [h.xl]; exact hs.own⟩
  obtain ⟨n0, hn0⟩ : ∃ n, P.own.length = n := ⟨_, rfl⟩
  obtain ⟨n1, hn1⟩ : ∃ n, P.lanes.length = n := ⟨_, rfl⟩
  obtain ⟨n2, hn2⟩ : ∃ n, P.bells.length = n := ⟨_, rfl⟩
  obtain ⟨n3, hn3⟩ : ∃ n, P.plan.length = n := ⟨_, rfl⟩
  rw [hn0, hn1, hn2, hn3] at HW kq
  obtain ⟨m, hm⟩ : ∃ n, zs.length = n := ⟨_, rfl⟩
  rw [hm] at HUN HA ⊢
  have KB2 : Hid (Kb w q #[.slice b0 n0 d0, .slice b1 n1 d1, .slice b2 n2 d2, .slice b3 n3 d3] 30) := kq
  have HL : Hid (q < w.heap.size) := kq.lt
  clear h hu hb hs hq hn0 hn1 hn2 hn3 kq ha hm hg
  obtain ⟨W3, hW3⟩ : ∃ W3, w.alloc (.cells #[.slice ua m uc] 53) = W3 := ⟨_, rfl⟩
  have B3 : Hid (Below w.heap.size w W3) := by show Below _ _ _; rw [← hW3]; exact al (Below.refl _ _) _
  have XC : Hid (W3.cell? ⟨w.heap.size, 0, none⟩ = some (.slice ua m uc)) := by show _ = _; rw [← hW3]; exact cell_new rfl
  have S3 : Hid (base ≤ W3.heap.size) := Nat.le_trans HB.out.1 B3.out.size
  have q0 := KB2.out.cell (i := 0) rfl
  go_enter Tryz.func26, Tryz.ntmps26
  go_wp2_with (at_builtin; refine wp_rowsX _ rfl _ _ rfl base _ xs rfl (HW.out.keep B3.out).own w.heap.size _ rfl XC.out rfl (by have := HB.out; omega) S3.out ?_; intro v' w' hN' hG'; have PW := (HW.out.keep B3.out).pushOwn (HUN.out.keep B3.out) HA.out hN' hG'; have G1 : Hid (Gn base w w') := Gn.row B3.out hG' (HW.out.keep B3.out).own; have K1 := (KB2.out.keep B3.out).gr hG' (fun e => (KB2.out.keep B3.out).row (HW.out.keep B3.out).own (by decide) e.symm); obtain ⟨e0, f0, hv'⟩ : ∃ e f, v' = .slice e (adP P 0 zs).own.length f := PW.shape0; generalize (adP P 0 zs).own.length = m0 at hv'; subst hv'; have PWH : Hid (Wp w' base _ _ _ _ (adP P 0 zs) _) := PW; have K1H : Hid (Kb w' _ _ _) := K1; have k0 := K1.cell (i := 0) rfl; have s0 := K1.free 0; clear hN' hG' PW K1)
  go_end0
  exact ⟨rfl, _, _, _, _, _, PWH.out.put K1H.out, K1H.out.set 0 (.slice e0 m0 f0), (G1.out.low HQ.out).put q (Nat.le_refl _) _ _⟩
set_option maxRecDepth 20000 in
set_option maxHeartbeats 8000000 in
theorem s_add1 (base q : Nat) (v0 v1 v2 v3 u : Value) (P : Plc) (xs : List Value) (zs : List Int) (w : World) (h : Wp w base v0 v1 v2 v3 P xs) (kq : Kb w q #[v0, v1, v2, v3] 30) (hu : Nums w base u zs) (hc : zs.length = 5) (hq : q ≤ base) (hb : base ≤ w.heap.size) (hs : SmP P 1000) :
    Calls Tryz.prog 26 #[.pointer (some ⟨q, 0, none⟩), .int .i64 1, u] w fun e w' => e = .returned (.tuple #[]) ∧ ∃ v0' v1' v2' v3' xs', Wp w' base v0' v1' v2' v3' (adP P 1 zs) xs' ∧ Kb w' q #[v0', v1', v2', v3'] 30 ∧ Gn q w w' := by
  obtain ⟨b0, b1, b2, b3, d0, d1, d2, d3, rfl, rfl, rfl, rfl⟩ := h.shape
  obtain ⟨ua, uc, hv, _, _, hg⟩ := hu.shape
  subst hv
  rw [hc] at hu hg ⊢
  obtain ⟨g, rfl⟩ := hg (by omega)
  have HW : Hid (Wp w base _ _ _ _ P xs) := h
  have HUN : Hid (Nums w base _ zs) := hu
  have HQ : Hid (q ≤ base) := hq
  have HB : Hid (base ≤ w.heap.size ∧ P.lanes.length ≤ 1000) := ⟨hb, hs.lanes⟩
  obtain ⟨y0, hy0⟩ : ∃ y, zs.getD 0 0 = y := ⟨_, rfl⟩
  obtain ⟨y1, hy1⟩ : ∃ y, zs.getD 1 0 = y := ⟨_, rfl⟩
  obtain ⟨y2, hy2⟩ : ∃ y, zs.getD 2 0 = y := ⟨_, rfl⟩
  obtain ⟨y3, hy3⟩ : ∃ y, zs.getD 3 0 = y := ⟨_, rfl⟩
  obtain ⟨y4, hy4⟩ : ∃ y, zs.getD 4 0 = y := ⟨_, rfl⟩
  have z0 : w.cell? ⟨g, 0, none⟩ = some (.int .i64 y0) := num_cell' hu 0 (by decide) hy0
  have z1 : w.cell? ⟨g, 1, none⟩ = some (.int .i64 y1) := num_cell' hu 1 (by decide) hy1
  have z2 : w.cell? ⟨g, 2, none⟩ = some (.int .i64 y2) := num_cell' hu 2 (by decide) hy2
  have z3 : w.cell? ⟨g, 3, none⟩ = some (.int .i64 y3) := num_cell' hu 3 (by decide) hy3
  have z4 : w.cell? ⟨g, 4, none⟩ = some (.int .i64 y4) := num_cell' hu 4 (by decide) hy4
  have HY : Hid (zs.getD 0 0 = y0 ∧ zs.getD 1 0 = y1 ∧ zs.getD 2 0 = y2 ∧ zs.getD 3 0 = y3 ∧ zs.getD 4 0 = y4) := ⟨hy0, hy1, hy2, hy3, hy4⟩
  have HZ : Hid (w.cell? ⟨g, 0, none⟩ = some (.int .i64 y0) ∧ w.cell? ⟨g, 1, none⟩ = some (.int .i64 y1) ∧ w.cell? ⟨g, 2, none⟩ = some (.int .i64 y2) ∧ w.cell? ⟨g, 3, none⟩ = some (.int .i64 y3) ∧ w.cell? ⟨g, 4, none⟩ = some (.int .i64 y4)) := ⟨z0, z1, z2, z3, z4⟩
  obtain ⟨n0, hn0⟩ : ∃ n, P.own.length = n := ⟨_, rfl⟩
  obtain ⟨n1, hn1⟩ : ∃ n, P.lanes.length = n := ⟨_, rfl⟩
  obtain ⟨n2, hn2⟩ : ∃ n, P.bells.length = n := ⟨_, rfl⟩
  obtain ⟨n3, hn3⟩ : ∃ n, P.plan.length = n := ⟨_, rfl⟩
  rw [hn0, hn1, hn2, hn3] at HW kq
  have KB2 : Hid (Kb w q #[.slice b0 n0 d0, .slice b1 n1 d1, .slice b2 n2 d2, .slice b3 n3 d3] 30) := kq
  have HL : Hid (q < w.heap.size) := kq.lt
  clear h hu hb hs hq hn0 hn1 hn2 hn3 kq hc hg hy0 z0 hy1 z1 hy2 z2 hy3 z3 hy4 z4
  go_enter Tryz.func26, Tryz.ntmps26
  go_wp2_with fail
  refine hz_region (fun w' => w'.cell? ⟨q, 1, none⟩ = some (.slice b1 n1 d1) ∧ w'.cell? ⟨g, 0, none⟩ = some (.int .i64 y0) ∧ w'.cell? ⟨g, 1, none⟩ = some (.int .i64 y1) ∧ w'.cell? ⟨g, 2, none⟩ = some (.int .i64 y2) ∧ w'.cell? ⟨g, 3, none⟩ = some (.int .i64 y3) ∧ w'.cell? ⟨g, 4, none⟩ = some (.int .i64 y4)) 25 (by kernel_rfl) ?_
  have BD : Hid (Below w.heap.size w w.drew) := (Below.refl _ _).drew
  have B0 : Hid (Below w.heap.size w w.drew) := BD.out
  have KB : Hid (Kb w.drew _ _ _) := KB2.out.keep BD.out
  have SS : Hid (w.drew.cell? ⟨q, 1, none⟩ = some (.slice b1 n1 d1) ∧ w.drew.cell? ⟨g, 0, none⟩ = some (.int .i64 y0) ∧ w.drew.cell? ⟨g, 1, none⟩ = some (.int .i64 y1) ∧ w.drew.cell? ⟨g, 2, none⟩ = some (.int .i64 y2) ∧ w.drew.cell? ⟨g, 3, none⟩ = some (.int .i64 y3) ∧ w.drew.cell? ⟨g, 4, none⟩ = some (.int .i64 y4)) := ⟨KB.out.cell (i := 1) rfl, cell_keep B0.out HZ.out.1, cell_keep B0.out HZ.out.2.1, cell_keep B0.out HZ.out.2.2.1, cell_keep B0.out HZ.out.2.2.2.1, cell_keep B0.out HZ.out.2.2.2.2⟩
  clear BD
  generalize w.drew = u0 at *
  refine hz_take (i := 0) (v := (.pointer (some ⟨q, 0, none⟩))) rfl rfl (by kernel_rfl) (by decide) (by kernel_rfl) (by kernel_rfl) (by kernel_rfl) (fun _ _ _ h => h) (Or.inl ⟨by rfl, fun w' hs => by go_simp⟩) SS.out ?_
  change Hz _ _ _ _ _ _ _ _ (Act.put _ (some 21) _) _
  simp only [Act.put, List.setIfInBounds_toArray, List.set_cons_zero, List.set_cons_succ]
  refine hz_take (i := 1) (v := (.pointer (some ⟨q, 0, none⟩))) rfl rfl (by kernel_rfl) (by decide) (by kernel_rfl) (by kernel_rfl) (by kernel_rfl) (fun _ _ _ h => h) (Or.inl ⟨by rfl, fun w' hs => by go_simp⟩) SS.out ?_
  change Hz _ _ _ _ _ _ _ _ (Act.put _ (some 22) _) _
  simp only [Act.put, List.setIfInBounds_toArray, List.set_cons_zero, List.set_cons_succ]
  refine hz_take (i := 2) (v := (.pointer (some ⟨q, 0, none⟩))) rfl rfl (by kernel_rfl) (by decide) (by kernel_rfl) (by kernel_rfl) (by kernel_rfl) (fun _ _ _ h => h) (Or.inl ⟨by rfl, fun w' hs => by go_simp⟩) SS.out ?_
  change Hz _ _ _ _ _ _ _ _ (Act.put _ (some 23) _) _
  simp only [Act.put, List.setIfInBounds_toArray, List.set_cons_zero, List.set_cons_succ]
  refine hz_take (i := 3) (v := (.pointer (some ⟨q, 1, none⟩))) rfl rfl (by kernel_rfl) (by decide) (by kernel_rfl) (by kernel_rfl) (by kernel_rfl) (fun _ _ _ h => h) (Or.inl ⟨by rfl, fun w' hs => by go_simp⟩) SS.out ?_
  change Hz _ _ _ _ _ _ _ _ (Act.put _ (some 24) _) _
  simp only [Act.put, List.setIfInBounds_toArray, List.set_cons_zero, List.set_cons_succ]
  refine hz_take (i := 4) (v := (.slice b1 n1 d1)) rfl rfl (by kernel_rfl) (by decide) (by kernel_rfl) (by kernel_rfl) (by kernel_rfl) (fun _ _ _ h => h) (Or.inl ⟨by rfl, fun w' hs => by have h0 := hs.1; go_simp⟩) SS.out ?_
  change Hz _ _ _ _ _ _ _ _ (Act.put _ (some 25) _) _
  simp only [Act.put, List.setIfInBounds_toArray, List.set_cons_zero, List.set_cons_succ]
  refine hz_take (i := 5) (v := (.slice (some ⟨g, 0, none⟩) 5 uc)) rfl rfl (by kernel_rfl) (by decide) (by kernel_rfl) (by kernel_rfl) (by kernel_rfl) (fun _ _ _ h => h) (Or.inl ⟨by rfl, fun w' hs => by go_simp⟩) SS.out ?_
  change Hz _ _ _ _ _ _ _ _ (Act.put _ (some 26) _) _
  simp only [Act.put, List.setIfInBounds_toArray, List.set_cons_zero, List.set_cons_succ]
  refine hz_take (i := 6) (v := (.pointer (some ⟨g, 0, none⟩))) rfl rfl (by kernel_rfl) (by decide) (by kernel_rfl) (by kernel_rfl) (by kernel_rfl) (fun _ _ _ h => h) (Or.inl ⟨by rfl, fun w' hs => by go_simp⟩) SS.out ?_
  change Hz _ _ _ _ _ _ _ _ (Act.put _ (some 27) _) _
  simp only [Act.put, List.setIfInBounds_toArray, List.set_cons_zero, List.set_cons_succ]
  refine hz_take (i := 7) (v := (.int .i64 y0)) rfl rfl (by kernel_rfl) (by decide) (by kernel_rfl) (by kernel_rfl) (by kernel_rfl) (fun _ _ _ h => h) (Or.inl ⟨by rfl, fun w' hs => by have h0 := hs.2.1; go_simp⟩) SS.out ?_
  change Hz _ _ _ _ _ _ _ _ (Act.put _ (some 28) _) _
  simp only [Act.put, List.setIfInBounds_toArray, List.set_cons_zero, List.set_cons_succ]
  refine hz_take (i := 8) (v := (.slice (some ⟨g, 0, none⟩) 5 uc)) rfl rfl (by kernel_rfl) (by decide) (by kernel_rfl) (by kernel_rfl) (by kernel_rfl) (fun _ _ _ h => h) (Or.inl ⟨by rfl, fun w' hs => by go_simp⟩) SS.out ?_
  change Hz _ _ _ _ _ _ _ _ (Act.put _ (some 29) _) _
  simp only [Act.put, List.setIfInBounds_toArray, List.set_cons_zero, List.set_cons_succ]
  refine hz_take (i := 9) (v := (.pointer (some ⟨g, 1, none⟩))) rfl rfl (by kernel_rfl) (by decide) (by kernel_rfl) (by kernel_rfl) (by kernel_rfl) (fun _ _ _ h => h) (Or.inl ⟨by rfl, fun w' hs => by go_simp⟩) SS.out ?_
  change Hz _ _ _ _ _ _ _ _ (Act.put _ (some 30) _) _
  simp only [Act.put, List.setIfInBounds_toArray, List.set_cons_zero, List.set_cons_succ]
  refine hz_take (i := 10) (v := (.int .i64 y1)) rfl rfl (by kernel_rfl) (by decide) (by kernel_rfl) (by kernel_rfl) (by kernel_rfl) (fun _ _ _ h => h) (Or.inl ⟨by rfl, fun w' hs => by have h0 := hs.2.2.1; go_simp⟩) SS.out ?_
  change Hz _ _ _ _ _ _ _ _ (Act.put _ (some 31) _) _
  simp only [Act.put, List.setIfInBounds_toArray, List.set_cons_zero, List.set_cons_succ]
  refine hz_take (i := 11) (v := (.slice (some ⟨g, 0, none⟩) 5 uc)) rfl rfl (by kernel_rfl) (by decide) (by kernel_rfl) (by kernel_rfl) (by kernel_rfl) (fun _ _ _ h => h) (Or.inl ⟨by rfl, fun w' hs => by go_simp⟩) SS.out ?_
  change Hz _ _ _ _ _ _ _ _ (Act.put _ (some 32) _) _
  simp only [Act.put, List.setIfInBounds_toArray, List.set_cons_zero, List.set_cons_succ]
  refine hz_take (i := 12) (v := (.pointer (some ⟨g, 2, none⟩))) rfl rfl (by kernel_rfl) (by decide) (by kernel_rfl) (by kernel_rfl) (by kernel_rfl) (fun _ _ _ h => h) (Or.inl ⟨by rfl, fun w' hs => by go_simp⟩) SS.out ?_
  change Hz _ _ _ _ _ _ _ _ (Act.put _ (some 33) _) _
  simp only [Act.put, List.setIfInBounds_toArray, List.set_cons_zero, List.set_cons_succ]
  refine hz_take (i := 13) (v := (.int .i64 y2)) rfl rfl (by kernel_rfl) (by decide) (by kernel_rfl) (by kernel_rfl) (by kernel_rfl) (fun _ _ _ h => h) (Or.inl ⟨by rfl, fun w' hs => by have h0 := hs.2.2.2.1; go_simp⟩) SS.out ?_
  change Hz _ _ _ _ _ _ _ _ (Act.put _ (some 34) _) _
  simp only [Act.put, List.setIfInBounds_toArray, List.set_cons_zero, List.set_cons_succ]
  refine hz_take (i := 14) (v := (.slice (some ⟨g, 0, none⟩) 5 uc)) rfl rfl (by kernel_rfl) (by decide) (by kernel_rfl) (by kernel_rfl) (by kernel_rfl) (fun _ _ _ h => h) (Or.inl ⟨by rfl, fun w' hs => by go_simp⟩) SS.out ?_
  change Hz _ _ _ _ _ _ _ _ (Act.put _ (some 35) _) _
  simp only [Act.put, List.setIfInBounds_toArray, List.set_cons_zero, List.set_cons_succ]
  refine hz_take (i := 15) (v := (.pointer (some ⟨g, 3, none⟩))) rfl rfl (by kernel_rfl) (by decide) (by kernel_rfl) (by kernel_rfl) (by kernel_rfl) (fun _ _ _ h => h) (Or.inl ⟨by rfl, fun w' hs => by go_simp⟩) SS.out ?_
  change Hz _ _ _ _ _ _ _ _ (Act.put _ (some 36) _) _
  simp only [Act.put, List.setIfInBounds_toArray, List.set_cons_zero, List.set_cons_succ]
  refine hz_take (i := 16) (v := (.int .i64 y3)) rfl rfl (by kernel_rfl) (by decide) (by kernel_rfl) (by kernel_rfl) (by kernel_rfl) (fun _ _ _ h => h) (Or.inl ⟨by rfl, fun w' hs => by have h0 := hs.2.2.2.2.1; go_simp⟩) SS.out ?_
  change Hz _ _ _ _ _ _ _ _ (Act.put _ (some 37) _) _
  simp only [Act.put, List.setIfInBounds_toArray, List.set_cons_zero, List.set_cons_succ]
  refine hz_take (i := 17) (v := (.slice (some ⟨g, 0, none⟩) 5 uc)) rfl rfl (by kernel_rfl) (by decide) (by kernel_rfl) (by kernel_rfl) (by kernel_rfl) (fun _ _ _ h => h) (Or.inl ⟨by rfl, fun w' hs => by go_simp⟩) SS.out ?_
  change Hz _ _ _ _ _ _ _ _ (Act.put _ (some 38) _) _
  simp only [Act.put, List.setIfInBounds_toArray, List.set_cons_zero, List.set_cons_succ]
  refine hz_take (i := 18) (v := (.pointer (some ⟨g, 4, none⟩))) rfl rfl (by kernel_rfl) (by decide) (by kernel_rfl) (by kernel_rfl) (by kernel_rfl) (fun _ _ _ h => h) (Or.inl ⟨by rfl, fun w' hs => by go_simp⟩) SS.out ?_
  change Hz _ _ _ _ _ _ _ _ (Act.put _ (some 39) _) _
  simp only [Act.put, List.setIfInBounds_toArray, List.set_cons_zero, List.set_cons_succ]
  refine hz_take (i := 19) (v := (.int .i64 y4)) rfl rfl (by kernel_rfl) (by decide) (by kernel_rfl) (by kernel_rfl) (by kernel_rfl) (fun _ _ _ h => h) (Or.inl ⟨by rfl, fun w' hs => by have h0 := hs.2.2.2.2.2; go_simp⟩) SS.out ?_
  change Hz _ _ _ _ _ _ _ _ (Act.put _ (some 40) _) _
  simp only [Act.put, List.setIfInBounds_toArray, List.set_cons_zero, List.set_cons_succ]
  refine hz_take (i := 20) (v := (.agg #[.int .i64 y0, .int .i64 y1, .int .i64 y2, .int .i64 y3, .int .i64 y4])) rfl rfl (by kernel_rfl) (by decide) (by kernel_rfl) (by kernel_rfl) (by kernel_rfl) (fun _ _ _ h => h) (Or.inl ⟨by rfl, fun w' hs => by go_simp⟩) SS.out ?_
  change Hz _ _ _ _ _ _ _ _ (Act.put _ (some 41) _) _
  simp only [Act.put, List.setIfInBounds_toArray, List.set_cons_zero, List.set_cons_succ]
  refine hz_ready (rs := [21]) (by kernel_rfl) (by simp) ?_
  refine hz_cons (hz_next rfl (fun K hK => ?_)) hz_nil
  rw [if_pos (by rfl)]
  go_simp
  have x0 : (u0.alloc (.cells #[.int .i64 y0, .int .i64 y1, .int .i64 y2, .int .i64 y3, .int .i64 y4] 58)).cell? ⟨u0.heap.size, 0, none⟩ = some (.int .i64 y0) := cell_new rfl
  have x1 : (u0.alloc (.cells #[.int .i64 y0, .int .i64 y1, .int .i64 y2, .int .i64 y3, .int .i64 y4] 58)).cell? ⟨u0.heap.size, 1, none⟩ = some (.int .i64 y1) := cell_new rfl
  have x2 : (u0.alloc (.cells #[.int .i64 y0, .int .i64 y1, .int .i64 y2, .int .i64 y3, .int .i64 y4] 58)).cell? ⟨u0.heap.size, 2, none⟩ = some (.int .i64 y2) := cell_new rfl
  have x3 : (u0.alloc (.cells #[.int .i64 y0, .int .i64 y1, .int .i64 y2, .int .i64 y3, .int .i64 y4] 58)).cell? ⟨u0.heap.size, 3, none⟩ = some (.int .i64 y3) := cell_new rfl
  have x4 : (u0.alloc (.cells #[.int .i64 y0, .int .i64 y1, .int .i64 y2, .int .i64 y3, .int .i64 y4] 58)).cell? ⟨u0.heap.size, 4, none⟩ = some (.int .i64 y4) := cell_new rfl
  have BA : Hid (Below u0.heap.size u0 (u0.alloc (.cells #[.int .i64 y0, .int .i64 y1, .int .i64 y2, .int .i64 y3, .int .i64 y4] 58))) := al (Below.refl _ _) _
  have SA : Hid ((u0.alloc (.cells #[.int .i64 y0, .int .i64 y1, .int .i64 y2, .int .i64 y3, .int .i64 y4] 58)).cell? ⟨q, 1, none⟩ = some (.slice b1 n1 d1) ∧ (u0.alloc (.cells #[.int .i64 y0, .int .i64 y1, .int .i64 y2, .int .i64 y3, .int .i64 y4] 58)).cell? ⟨g, 0, none⟩ = some (.int .i64 y0) ∧ (u0.alloc (.cells #[.int .i64 y0, .int .i64 y1, .int .i64 y2, .int .i64 y3, .int .i64 y4] 58)).cell? ⟨g, 1, none⟩ = some (.int .i64 y1) ∧ (u0.alloc (.cells #[.int .i64 y0, .int .i64 y1, .int .i64 y2, .int .i64 y3, .int .i64 y4] 58)).cell? ⟨g, 2, none⟩ = some (.int .i64 y2) ∧ (u0.alloc (.cells #[.int .i64 y0, .int .i64 y1, .int .i64 y2, .int .i64 y3, .int .i64 y4] 58)).cell? ⟨g, 3, none⟩ = some (.int .i64 y3) ∧ (u0.alloc (.cells #[.int .i64 y0, .int .i64 y1, .int .i64 y2, .int .i64 y3, .int .i64 y4] 58)).cell? ⟨g, 4, none⟩ = some (.int .i64 y4)) := ⟨cell_keep BA.out SS.out.1, cell_keep BA.out SS.out.2.1, cell_keep BA.out SS.out.2.2.1, cell_keep BA.out SS.out.2.2.2.1, cell_keep BA.out SS.out.2.2.2.2.1, cell_keep BA.out SS.out.2.2.2.2.2⟩
  refine hK.out _ _ (fun _ => SA.out) ?_
  clear hK K
  have XC : Hid ((u0.alloc (.cells #[.int .i64 y0, .int .i64 y1, .int .i64 y2, .int .i64 y3, .int .i64 y4] 58)).cell? ⟨u0.heap.size, 0, none⟩ = some (.int .i64 y0) ∧ (u0.alloc (.cells #[.int .i64 y0, .int .i64 y1, .int .i64 y2, .int .i64 y3, .int .i64 y4] 58)).cell? ⟨u0.heap.size, 1, none⟩ = some (.int .i64 y1) ∧ (u0.alloc (.cells #[.int .i64 y0, .int .i64 y1, .int .i64 y2, .int .i64 y3, .int .i64 y4] 58)).cell? ⟨u0.heap.size, 2, none⟩ = some (.int .i64 y2) ∧ (u0.alloc (.cells #[.int .i64 y0, .int .i64 y1, .int .i64 y2, .int .i64 y3, .int .i64 y4] 58)).cell? ⟨u0.heap.size, 3, none⟩ = some (.int .i64 y3) ∧ (u0.alloc (.cells #[.int .i64 y0, .int .i64 y1, .int .i64 y2, .int .i64 y3, .int .i64 y4] 58)).cell? ⟨u0.heap.size, 4, none⟩ = some (.int .i64 y4)) := ⟨x0, x1, x2, x3, x4⟩
  clear x0 x1 x2 x3 x4
  have B3 : Hid (Below w.heap.size w (u0.alloc (.cells #[.int .i64 y0, .int .i64 y1, .int .i64 y2, .int .i64 y3, .int .i64 y4] 58))) := on B0.out BA.out
  have S3 : Hid (base ≤ (u0.alloc (.cells #[.int .i64 y0, .int .i64 y1, .int .i64 y2, .int .i64 y3, .int .i64 y4] 58)).heap.size) := Nat.le_trans HB.out.1 B3.out.size
  replace KB : Hid (Kb (u0.alloc (.cells #[.int .i64 y0, .int .i64 y1, .int .i64 y2, .int .i64 y3, .int .i64 y4] 58)) _ _ _) := KB.out.keep BA.out
  generalize (u0.alloc (.cells #[.int .i64 y0, .int .i64 y1, .int .i64 y2, .int .i64 y3, .int .i64 y4] 58)) = u2 at *
  generalize u0.heap.size = s0 at *
  clear BA SS
  refine hz_ready (rs := [22]) (by kernel_rfl) (by simp) ?_
  refine hz_cons (hz_next rfl (fun K hK => ?_)) hz_nil
  refine stepW_lane rfl (.tmp 25) (.tmp 42) rfl base (.slice b1 n1 d1) P.lanes rfl (HW.out.keep B3.out).lanes s0 ⟨y0, y1, y2, y3, y4⟩ rfl XC.out.1 XC.out.2.1 XC.out.2.2.1 XC.out.2.2.2.1 XC.out.2.2.2.2 (by have := HB.out; omega) S3.out ?_
  intro v' w' hN' hG'
  change K (Act.put _ (some 43) _) _
  simp only [Act.put, List.setIfInBounds_toArray, List.set_cons_zero, List.set_cons_succ]
  have PW := (HW.out.keep B3.out).pushLane (zs := zs) (by rw [HY.out.1, HY.out.2.1, HY.out.2.2.1, HY.out.2.2.2.1, HY.out.2.2.2.2]; exact hN'.out) hG'
  have G1 : Hid (Gn base w w') := Gn.row B3.out hG' (HW.out.keep B3.out).lanes
  have K1 := KB.out.gr hG' (fun e => KB.out.row (HW.out.keep B3.out).lanes (by decide) e.symm)
  obtain ⟨e1, f1, hv'⟩ : ∃ e f, v' = .slice e (adP P 1 zs).lanes.length f := PW.shape1
  generalize (adP P 1 zs).lanes.length = m1 at hv'
  subst hv'
  have PWH : Hid (Wp w' base _ _ _ _ (adP P 1 zs) _) := PW
  have K1H : Hid (Kb w' _ _ _) := K1
  have SB : Hid (w'.cell? ⟨q, 1, none⟩ = some (.slice b1 n1 d1) ∧ w'.cell? ⟨g, 0, none⟩ = some (.int .i64 y0) ∧ w'.cell? ⟨g, 1, none⟩ = some (.int .i64 y1) ∧ w'.cell? ⟨g, 2, none⟩ = some (.int .i64 y2) ∧ w'.cell? ⟨g, 3, none⟩ = some (.int .i64 y3) ∧ w'.cell? ⟨g, 4, none⟩ = some (.int .i64 y4)) := ⟨K1.cell (i := 1) rfl, num_cell' (rowW (HUN.out.keep B3.out) (HW.out.keep B3.out).lanes hG' (by decide)) 0 (by decide) HY.out.1, num_cell' (rowW (HUN.out.keep B3.out) (HW.out.keep B3.out).lanes hG' (by decide)) 1 (by decide) HY.out.2.1, num_cell' (rowW (HUN.out.keep B3.out) (HW.out.keep B3.out).lanes hG' (by decide)) 2 (by decide) HY.out.2.2.1, num_cell' (rowW (HUN.out.keep B3.out) (HW.out.keep B3.out).lanes hG' (by decide)) 3 (by decide) HY.out.2.2.2.1, num_cell' (rowW (HUN.out.keep B3.out) (HW.out.keep B3.out).lanes hG' (by decide)) 4 (by decide) HY.out.2.2.2.2⟩
  refine hK.out _ _ (fun _ => SB.out) ?_
  clear hK K hN' hG' PW SA
  refine hz_ready (rs := [23]) (by kernel_rfl) (by simp) ?_
  refine hz_cons (hz_next rfl (fun K hK => ?_)) hz_nil
  rw [if_pos (by rfl)]
  go_simp
  refine hK.out _ _ (fun _ => SB.out) ?_
  clear hK K
  refine hz_take (i := 24) (v := (.pointer (some ⟨q, 1, none⟩))) rfl rfl (by kernel_rfl) (by decide) (by kernel_rfl) (by kernel_rfl) (by kernel_rfl) (fun _ _ _ h => h) (Or.inl ⟨by rfl, fun w' hs => by go_simp⟩) SB.out ?_
  change Hz _ _ _ _ _ _ _ _ (Act.put _ (some 45) _) _
  simp only [Act.put, List.setIfInBounds_toArray, List.set_cons_zero, List.set_cons_succ]
  have s1 := K1H.out.free 1
  have k1 := K1H.out.cell (i := 1) rfl
  refine hz_ready (rs := [25]) (by kernel_rfl) (by simp) ?_
  refine hz_cons (hz_next rfl (fun K hK => ?_)) hz_nil
  rw [if_pos (by rfl)]
  have lq := K1H.out.lt
  go_simp
  clear s1 k1 lq
  refine hK.out _ _ (fun e => absurd rfl e) ?_
  clear hK K
  refine hz_done (by kernel_rfl) ?_
  go_wp2_with fail
  go_end0
  exact ⟨rfl, _, _, _, _, _, PWH.out.put K1H.out, K1H.out.set 1 (.slice e1 m1 f1), (G1.out.low HQ.out).put q (Nat.le_refl _) _ _⟩
set_option maxRecDepth 20000 in
set_option maxHeartbeats 8000000 in
theorem s_add2 (base q : Nat) (v0 v1 v2 v3 u : Value) (P : Plc) (xs : List Value) (zs : List Int) (w : World) (h : Wp w base v0 v1 v2 v3 P xs) (kq : Kb w q #[v0, v1, v2, v3] 30) (hu : Nums w base u zs) (hc : zs.length = 2) (hq : q ≤ base) (hb : base ≤ w.heap.size) (hs : SmP P 1000) :
    Calls Tryz.prog 26 #[.pointer (some ⟨q, 0, none⟩), .int .i64 2, u] w fun e w' => e = .returned (.tuple #[]) ∧ ∃ v0' v1' v2' v3' xs', Wp w' base v0' v1' v2' v3' (adP P 2 zs) xs' ∧ Kb w' q #[v0', v1', v2', v3'] 30 ∧ Gn q w w' := by
  obtain ⟨b0, b1, b2, b3, d0, d1, d2, d3, rfl, rfl, rfl, rfl⟩ := h.shape
  obtain ⟨ua, uc, hv, _, _, hg⟩ := hu.shape
  subst hv
  rw [hc] at hu hg ⊢
  obtain ⟨g, rfl⟩ := hg (by omega)
  have HW : Hid (Wp w base _ _ _ _ P xs) := h
  have HUN : Hid (Nums w base _ zs) := hu
  have HQ : Hid (q ≤ base) := hq
  have HB : Hid (base ≤ w.heap.size ∧ P.bells.length ≤ 1000) := ⟨hb, hs.bells⟩
  obtain ⟨y0, hy0⟩ : ∃ y, zs.getD 0 0 = y := ⟨_, rfl⟩
  obtain ⟨y1, hy1⟩ : ∃ y, zs.getD 1 0 = y := ⟨_, rfl⟩
  have z0 : w.cell? ⟨g, 0, none⟩ = some (.int .i64 y0) := num_cell' hu 0 (by decide) hy0
  have z1 : w.cell? ⟨g, 1, none⟩ = some (.int .i64 y1) := num_cell' hu 1 (by decide) hy1
  have HY : Hid (zs.getD 0 0 = y0 ∧ zs.getD 1 0 = y1) := ⟨hy0, hy1⟩
  have HZ : Hid (w.cell? ⟨g, 0, none⟩ = some (.int .i64 y0) ∧ w.cell? ⟨g, 1, none⟩ = some (.int .i64 y1)) := ⟨z0, z1⟩
  obtain ⟨n0, hn0⟩ : ∃ n, P.own.length = n := ⟨_, rfl⟩
  obtain ⟨n1, hn1⟩ : ∃ n, P.lanes.length = n := ⟨_, rfl⟩
  obtain ⟨n2, hn2⟩ : ∃ n, P.bells.length = n := ⟨_, rfl⟩
  obtain ⟨n3, hn3⟩ : ∃ n, P.plan.length = n := ⟨_, rfl⟩
  rw [hn0, hn1, hn2, hn3] at HW kq
  have KB2 : Hid (Kb w q #[.slice b0 n0 d0, .slice b1 n1 d1, .slice b2 n2 d2, .slice b3 n3 d3] 30) := kq
  have HL : Hid (q < w.heap.size) := kq.lt
  clear h hu hb hs hq hn0 hn1 hn2 hn3 kq hc hg hy0 z0 hy1 z1
  go_enter Tryz.func26, Tryz.ntmps26
  go_wp2_with fail
  refine hz_region (fun w' => w'.cell? ⟨q, 2, none⟩ = some (.slice b2 n2 d2) ∧ w'.cell? ⟨g, 0, none⟩ = some (.int .i64 y0) ∧ w'.cell? ⟨g, 1, none⟩ = some (.int .i64 y1)) 16 (by kernel_rfl) ?_
  have BD : Hid (Below w.heap.size w w.drew) := (Below.refl _ _).drew
  have B0 : Hid (Below w.heap.size w w.drew) := BD.out
  have KB : Hid (Kb w.drew _ _ _) := KB2.out.keep BD.out
  have SS : Hid (w.drew.cell? ⟨q, 2, none⟩ = some (.slice b2 n2 d2) ∧ w.drew.cell? ⟨g, 0, none⟩ = some (.int .i64 y0) ∧ w.drew.cell? ⟨g, 1, none⟩ = some (.int .i64 y1)) := ⟨KB.out.cell (i := 2) rfl, cell_keep B0.out HZ.out.1, cell_keep B0.out HZ.out.2⟩
  clear BD
  generalize w.drew = u0 at *
  refine hz_take (i := 0) (v := (.pointer (some ⟨q, 0, none⟩))) rfl rfl (by kernel_rfl) (by decide) (by kernel_rfl) (by kernel_rfl) (by kernel_rfl) (fun _ _ _ h => h) (Or.inl ⟨by rfl, fun w' hs => by go_simp⟩) SS.out ?_
  change Hz _ _ _ _ _ _ _ _ (Act.put _ (some 48) _) _
  simp only [Act.put, List.setIfInBounds_toArray, List.set_cons_zero, List.set_cons_succ]
  refine hz_take (i := 1) (v := (.pointer (some ⟨q, 0, none⟩))) rfl rfl (by kernel_rfl) (by decide) (by kernel_rfl) (by kernel_rfl) (by kernel_rfl) (fun _ _ _ h => h) (Or.inl ⟨by rfl, fun w' hs => by go_simp⟩) SS.out ?_
  change Hz _ _ _ _ _ _ _ _ (Act.put _ (some 49) _) _
  simp only [Act.put, List.setIfInBounds_toArray, List.set_cons_zero, List.set_cons_succ]
  refine hz_take (i := 2) (v := (.pointer (some ⟨q, 0, none⟩))) rfl rfl (by kernel_rfl) (by decide) (by kernel_rfl) (by kernel_rfl) (by kernel_rfl) (fun _ _ _ h => h) (Or.inl ⟨by rfl, fun w' hs => by go_simp⟩) SS.out ?_
  change Hz _ _ _ _ _ _ _ _ (Act.put _ (some 50) _) _
  simp only [Act.put, List.setIfInBounds_toArray, List.set_cons_zero, List.set_cons_succ]
  refine hz_take (i := 3) (v := (.pointer (some ⟨q, 2, none⟩))) rfl rfl (by kernel_rfl) (by decide) (by kernel_rfl) (by kernel_rfl) (by kernel_rfl) (fun _ _ _ h => h) (Or.inl ⟨by rfl, fun w' hs => by go_simp⟩) SS.out ?_
  change Hz _ _ _ _ _ _ _ _ (Act.put _ (some 51) _) _
  simp only [Act.put, List.setIfInBounds_toArray, List.set_cons_zero, List.set_cons_succ]
  refine hz_take (i := 4) (v := (.slice b2 n2 d2)) rfl rfl (by kernel_rfl) (by decide) (by kernel_rfl) (by kernel_rfl) (by kernel_rfl) (fun _ _ _ h => h) (Or.inl ⟨by rfl, fun w' hs => by have h0 := hs.1; go_simp⟩) SS.out ?_
  change Hz _ _ _ _ _ _ _ _ (Act.put _ (some 52) _) _
  simp only [Act.put, List.setIfInBounds_toArray, List.set_cons_zero, List.set_cons_succ]
  refine hz_take (i := 5) (v := (.slice (some ⟨g, 0, none⟩) 2 uc)) rfl rfl (by kernel_rfl) (by decide) (by kernel_rfl) (by kernel_rfl) (by kernel_rfl) (fun _ _ _ h => h) (Or.inl ⟨by rfl, fun w' hs => by go_simp⟩) SS.out ?_
  change Hz _ _ _ _ _ _ _ _ (Act.put _ (some 53) _) _
  simp only [Act.put, List.setIfInBounds_toArray, List.set_cons_zero, List.set_cons_succ]
  refine hz_take (i := 6) (v := (.pointer (some ⟨g, 0, none⟩))) rfl rfl (by kernel_rfl) (by decide) (by kernel_rfl) (by kernel_rfl) (by kernel_rfl) (fun _ _ _ h => h) (Or.inl ⟨by rfl, fun w' hs => by go_simp⟩) SS.out ?_
  change Hz _ _ _ _ _ _ _ _ (Act.put _ (some 54) _) _
  simp only [Act.put, List.setIfInBounds_toArray, List.set_cons_zero, List.set_cons_succ]
  refine hz_take (i := 7) (v := (.int .i64 y0)) rfl rfl (by kernel_rfl) (by decide) (by kernel_rfl) (by kernel_rfl) (by kernel_rfl) (fun _ _ _ h => h) (Or.inl ⟨by rfl, fun w' hs => by have h0 := hs.2.1; go_simp⟩) SS.out ?_
  change Hz _ _ _ _ _ _ _ _ (Act.put _ (some 55) _) _
  simp only [Act.put, List.setIfInBounds_toArray, List.set_cons_zero, List.set_cons_succ]
  refine hz_take (i := 8) (v := (.slice (some ⟨g, 0, none⟩) 2 uc)) rfl rfl (by kernel_rfl) (by decide) (by kernel_rfl) (by kernel_rfl) (by kernel_rfl) (fun _ _ _ h => h) (Or.inl ⟨by rfl, fun w' hs => by go_simp⟩) SS.out ?_
  change Hz _ _ _ _ _ _ _ _ (Act.put _ (some 56) _) _
  simp only [Act.put, List.setIfInBounds_toArray, List.set_cons_zero, List.set_cons_succ]
  refine hz_take (i := 9) (v := (.pointer (some ⟨g, 1, none⟩))) rfl rfl (by kernel_rfl) (by decide) (by kernel_rfl) (by kernel_rfl) (by kernel_rfl) (fun _ _ _ h => h) (Or.inl ⟨by rfl, fun w' hs => by go_simp⟩) SS.out ?_
  change Hz _ _ _ _ _ _ _ _ (Act.put _ (some 57) _) _
  simp only [Act.put, List.setIfInBounds_toArray, List.set_cons_zero, List.set_cons_succ]
  refine hz_take (i := 10) (v := (.int .i64 y1)) rfl rfl (by kernel_rfl) (by decide) (by kernel_rfl) (by kernel_rfl) (by kernel_rfl) (fun _ _ _ h => h) (Or.inl ⟨by rfl, fun w' hs => by have h0 := hs.2.2; go_simp⟩) SS.out ?_
  change Hz _ _ _ _ _ _ _ _ (Act.put _ (some 58) _) _
  simp only [Act.put, List.setIfInBounds_toArray, List.set_cons_zero, List.set_cons_succ]
  refine hz_take (i := 11) (v := (.agg #[.int .i64 y0, .int .i64 y1])) rfl rfl (by kernel_rfl) (by decide) (by kernel_rfl) (by kernel_rfl) (by kernel_rfl) (fun _ _ _ h => h) (Or.inl ⟨by rfl, fun w' hs => by go_simp⟩) SS.out ?_
  change Hz _ _ _ _ _ _ _ _ (Act.put _ (some 59) _) _
  simp only [Act.put, List.setIfInBounds_toArray, List.set_cons_zero, List.set_cons_succ]
  refine hz_ready (rs := [12]) (by kernel_rfl) (by simp) ?_
  refine hz_cons (hz_next rfl (fun K hK => ?_)) hz_nil
  rw [if_pos (by rfl)]
  go_simp
  have x0 : (u0.alloc (.cells #[.int .i64 y0, .int .i64 y1] 60)).cell? ⟨u0.heap.size, 0, none⟩ = some (.int .i64 y0) := cell_new rfl
  have x1 : (u0.alloc (.cells #[.int .i64 y0, .int .i64 y1] 60)).cell? ⟨u0.heap.size, 1, none⟩ = some (.int .i64 y1) := cell_new rfl
  have BA : Hid (Below u0.heap.size u0 (u0.alloc (.cells #[.int .i64 y0, .int .i64 y1] 60))) := al (Below.refl _ _) _
  have SA : Hid ((u0.alloc (.cells #[.int .i64 y0, .int .i64 y1] 60)).cell? ⟨q, 2, none⟩ = some (.slice b2 n2 d2) ∧ (u0.alloc (.cells #[.int .i64 y0, .int .i64 y1] 60)).cell? ⟨g, 0, none⟩ = some (.int .i64 y0) ∧ (u0.alloc (.cells #[.int .i64 y0, .int .i64 y1] 60)).cell? ⟨g, 1, none⟩ = some (.int .i64 y1)) := ⟨cell_keep BA.out SS.out.1, cell_keep BA.out SS.out.2.1, cell_keep BA.out SS.out.2.2⟩
  refine hK.out _ _ (fun _ => SA.out) ?_
  clear hK K
  have XC : Hid ((u0.alloc (.cells #[.int .i64 y0, .int .i64 y1] 60)).cell? ⟨u0.heap.size, 0, none⟩ = some (.int .i64 y0) ∧ (u0.alloc (.cells #[.int .i64 y0, .int .i64 y1] 60)).cell? ⟨u0.heap.size, 1, none⟩ = some (.int .i64 y1)) := ⟨x0, x1⟩
  clear x0 x1
  have B3 : Hid (Below w.heap.size w (u0.alloc (.cells #[.int .i64 y0, .int .i64 y1] 60))) := on B0.out BA.out
  have S3 : Hid (base ≤ (u0.alloc (.cells #[.int .i64 y0, .int .i64 y1] 60)).heap.size) := Nat.le_trans HB.out.1 B3.out.size
  replace KB : Hid (Kb (u0.alloc (.cells #[.int .i64 y0, .int .i64 y1] 60)) _ _ _) := KB.out.keep BA.out
  generalize (u0.alloc (.cells #[.int .i64 y0, .int .i64 y1] 60)) = u2 at *
  generalize u0.heap.size = s0 at *
  clear BA SS
  refine hz_ready (rs := [13]) (by kernel_rfl) (by simp) ?_
  refine hz_cons (hz_next rfl (fun K hK => ?_)) hz_nil
  refine stepW_pair 27 60 Tryz.underlying27 info_bell rfl (.tmp 52) (.tmp 60) rfl base (.slice b2 n2 d2) P.bells rfl (HW.out.keep B3.out).bells s0 y0 y1 rfl XC.out.1 XC.out.2 (by have := HB.out; omega) S3.out ?_
  intro v' w' hN' hG'
  change K (Act.put _ (some 61) _) _
  simp only [Act.put, List.setIfInBounds_toArray, List.set_cons_zero, List.set_cons_succ]
  have PW := (HW.out.keep B3.out).pushBell (zs := zs) (by rw [HY.out.1, HY.out.2]; exact hN'.out) hG'
  have G1 : Hid (Gn base w w') := Gn.row B3.out hG' (HW.out.keep B3.out).bells
  have K1 := KB.out.gr hG' (fun e => KB.out.row (HW.out.keep B3.out).bells (by decide) e.symm)
  obtain ⟨e2, f2, hv'⟩ : ∃ e f, v' = .slice e (adP P 2 zs).bells.length f := PW.shape2
  generalize (adP P 2 zs).bells.length = m2 at hv'
  subst hv'
  have PWH : Hid (Wp w' base _ _ _ _ (adP P 2 zs) _) := PW
  have K1H : Hid (Kb w' _ _ _) := K1
  have SB : Hid (w'.cell? ⟨q, 2, none⟩ = some (.slice b2 n2 d2) ∧ w'.cell? ⟨g, 0, none⟩ = some (.int .i64 y0) ∧ w'.cell? ⟨g, 1, none⟩ = some (.int .i64 y1)) := ⟨K1.cell (i := 2) rfl, num_cell' (rowW (HUN.out.keep B3.out) (HW.out.keep B3.out).bells hG' (by decide)) 0 (by decide) HY.out.1, num_cell' (rowW (HUN.out.keep B3.out) (HW.out.keep B3.out).bells hG' (by decide)) 1 (by decide) HY.out.2⟩
  refine hK.out _ _ (fun _ => SB.out) ?_
  clear hK K hN' hG' PW SA
  refine hz_ready (rs := [14]) (by kernel_rfl) (by simp) ?_
  refine hz_cons (hz_next rfl (fun K hK => ?_)) hz_nil
  rw [if_pos (by rfl)]
  go_simp
  refine hK.out _ _ (fun _ => SB.out) ?_
  clear hK K
  refine hz_take (i := 15) (v := (.pointer (some ⟨q, 2, none⟩))) rfl rfl (by kernel_rfl) (by decide) (by kernel_rfl) (by kernel_rfl) (by kernel_rfl) (fun _ _ _ h => h) (Or.inl ⟨by rfl, fun w' hs => by go_simp⟩) SB.out ?_
  change Hz _ _ _ _ _ _ _ _ (Act.put _ (some 63) _) _
  simp only [Act.put, List.setIfInBounds_toArray, List.set_cons_zero, List.set_cons_succ]
  have s2 := K1H.out.free 2
  have k2 := K1H.out.cell (i := 2) rfl
  refine hz_ready (rs := [16]) (by kernel_rfl) (by simp) ?_
  refine hz_cons (hz_next rfl (fun K hK => ?_)) hz_nil
  rw [if_pos (by rfl)]
  have lq := K1H.out.lt
  go_simp
  clear s2 k2 lq
  refine hK.out _ _ (fun e => absurd rfl e) ?_
  clear hK K
  refine hz_done (by kernel_rfl) ?_
  go_wp2_with fail
  go_end0
  exact ⟨rfl, _, _, _, _, _, PWH.out.put K1H.out, K1H.out.set 2 (.slice e2 m2 f2), (G1.out.low HQ.out).put q (Nat.le_refl _) _ _⟩
set_option maxRecDepth 20000 in
set_option maxHeartbeats 8000000 in
theorem s_add3 (base q : Nat) (v0 v1 v2 v3 u : Value) (P : Plc) (xs : List Value) (zs : List Int) (w : World) (h : Wp w base v0 v1 v2 v3 P xs) (kq : Kb w q #[v0, v1, v2, v3] 30) (hu : Nums w base u zs) (hc : zs.length = 2) (hq : q ≤ base) (hb : base ≤ w.heap.size) (hs : SmP P 1000) :
    Calls Tryz.prog 26 #[.pointer (some ⟨q, 0, none⟩), .int .i64 3, u] w fun e w' => e = .returned (.tuple #[]) ∧ ∃ v0' v1' v2' v3' xs', Wp w' base v0' v1' v2' v3' (adP P 3 zs) xs' ∧ Kb w' q #[v0', v1', v2', v3'] 30 ∧ Gn q w w' := by
  obtain ⟨b0, b1, b2, b3, d0, d1, d2, d3, rfl, rfl, rfl, rfl⟩ := h.shape
  obtain ⟨ua, uc, hv, _, _, hg⟩ := hu.shape
  subst hv
  rw [hc] at hu hg ⊢
  obtain ⟨g, rfl⟩ := hg (by omega)
  have HW : Hid (Wp w base _ _ _ _ P xs) := h
  have HUN : Hid (Nums w base _ zs) := hu
  have HQ : Hid (q ≤ base) := hq
  have HB : Hid (base ≤ w.heap.size ∧ P.plan.length ≤ 1000) := ⟨hb, hs.plan⟩
  obtain ⟨y0, hy0⟩ : ∃ y, zs.getD 0 0 = y := ⟨_, rfl⟩
  obtain ⟨y1, hy1⟩ : ∃ y, zs.getD 1 0 = y := ⟨_, rfl⟩
  have z0 : w.cell? ⟨g, 0, none⟩ = some (.int .i64 y0) := num_cell' hu 0 (by decide) hy0
  have z1 : w.cell? ⟨g, 1, none⟩ = some (.int .i64 y1) := num_cell' hu 1 (by decide) hy1
  have HY : Hid (zs.getD 0 0 = y0 ∧ zs.getD 1 0 = y1) := ⟨hy0, hy1⟩
  have HZ : Hid (w.cell? ⟨g, 0, none⟩ = some (.int .i64 y0) ∧ w.cell? ⟨g, 1, none⟩ = some (.int .i64 y1)) := ⟨z0, z1⟩
  obtain ⟨n0, hn0⟩ : ∃ n, P.own.length = n := ⟨_, rfl⟩
  obtain ⟨n1, hn1⟩ : ∃ n, P.lanes.length = n := ⟨_, rfl⟩
  obtain ⟨n2, hn2⟩ : ∃ n, P.bells.length = n := ⟨_, rfl⟩
  obtain ⟨n3, hn3⟩ : ∃ n, P.plan.length = n := ⟨_, rfl⟩
  rw [hn0, hn1, hn2, hn3] at HW kq
  have KB2 : Hid (Kb w q #[.slice b0 n0 d0, .slice b1 n1 d1, .slice b2 n2 d2, .slice b3 n3 d3] 30) := kq
  have HL : Hid (q < w.heap.size) := kq.lt
  clear h hu hb hs hq hn0 hn1 hn2 hn3 kq hc hg hy0 z0 hy1 z1
  go_enter Tryz.func26, Tryz.ntmps26
  go_wp2_with fail
  refine hz_region (fun w' => w'.cell? ⟨q, 3, none⟩ = some (.slice b3 n3 d3) ∧ w'.cell? ⟨g, 0, none⟩ = some (.int .i64 y0) ∧ w'.cell? ⟨g, 1, none⟩ = some (.int .i64 y1)) 16 (by kernel_rfl) ?_
  have BD : Hid (Below w.heap.size w w.drew) := (Below.refl _ _).drew
  have B0 : Hid (Below w.heap.size w w.drew) := BD.out
  have KB : Hid (Kb w.drew _ _ _) := KB2.out.keep BD.out
  have SS : Hid (w.drew.cell? ⟨q, 3, none⟩ = some (.slice b3 n3 d3) ∧ w.drew.cell? ⟨g, 0, none⟩ = some (.int .i64 y0) ∧ w.drew.cell? ⟨g, 1, none⟩ = some (.int .i64 y1)) := ⟨KB.out.cell (i := 3) rfl, cell_keep B0.out HZ.out.1, cell_keep B0.out HZ.out.2⟩
  clear BD
  generalize w.drew = u0 at *
  refine hz_take (i := 0) (v := (.pointer (some ⟨q, 0, none⟩))) rfl rfl (by kernel_rfl) (by decide) (by kernel_rfl) (by kernel_rfl) (by kernel_rfl) (fun _ _ _ h => h) (Or.inl ⟨by rfl, fun w' hs => by go_simp⟩) SS.out ?_
  change Hz _ _ _ _ _ _ _ _ (Act.put _ (some 66) _) _
  simp only [Act.put, List.setIfInBounds_toArray, List.set_cons_zero, List.set_cons_succ]
  refine hz_take (i := 1) (v := (.pointer (some ⟨q, 0, none⟩))) rfl rfl (by kernel_rfl) (by decide) (by kernel_rfl) (by kernel_rfl) (by kernel_rfl) (fun _ _ _ h => h) (Or.inl ⟨by rfl, fun w' hs => by go_simp⟩) SS.out ?_
  change Hz _ _ _ _ _ _ _ _ (Act.put _ (some 67) _) _
  simp only [Act.put, List.setIfInBounds_toArray, List.set_cons_zero, List.set_cons_succ]
  refine hz_take (i := 2) (v := (.pointer (some ⟨q, 0, none⟩))) rfl rfl (by kernel_rfl) (by decide) (by kernel_rfl) (by kernel_rfl) (by kernel_rfl) (fun _ _ _ h => h) (Or.inl ⟨by rfl, fun w' hs => by go_simp⟩) SS.out ?_
  change Hz _ _ _ _ _ _ _ _ (Act.put _ (some 68) _) _
  simp only [Act.put, List.setIfInBounds_toArray, List.set_cons_zero, List.set_cons_succ]
  refine hz_take (i := 3) (v := (.pointer (some ⟨q, 3, none⟩))) rfl rfl (by kernel_rfl) (by decide) (by kernel_rfl) (by kernel_rfl) (by kernel_rfl) (fun _ _ _ h => h) (Or.inl ⟨by rfl, fun w' hs => by go_simp⟩) SS.out ?_
  change Hz _ _ _ _ _ _ _ _ (Act.put _ (some 69) _) _
  simp only [Act.put, List.setIfInBounds_toArray, List.set_cons_zero, List.set_cons_succ]
  refine hz_take (i := 4) (v := (.slice b3 n3 d3)) rfl rfl (by kernel_rfl) (by decide) (by kernel_rfl) (by kernel_rfl) (by kernel_rfl) (fun _ _ _ h => h) (Or.inl ⟨by rfl, fun w' hs => by have h0 := hs.1; go_simp⟩) SS.out ?_
  change Hz _ _ _ _ _ _ _ _ (Act.put _ (some 70) _) _
  simp only [Act.put, List.setIfInBounds_toArray, List.set_cons_zero, List.set_cons_succ]
  refine hz_take (i := 5) (v := (.slice (some ⟨g, 0, none⟩) 2 uc)) rfl rfl (by kernel_rfl) (by decide) (by kernel_rfl) (by kernel_rfl) (by kernel_rfl) (fun _ _ _ h => h) (Or.inl ⟨by rfl, fun w' hs => by go_simp⟩) SS.out ?_
  change Hz _ _ _ _ _ _ _ _ (Act.put _ (some 71) _) _
  simp only [Act.put, List.setIfInBounds_toArray, List.set_cons_zero, List.set_cons_succ]
  refine hz_take (i := 6) (v := (.pointer (some ⟨g, 0, none⟩))) rfl rfl (by kernel_rfl) (by decide) (by kernel_rfl) (by kernel_rfl) (by kernel_rfl) (fun _ _ _ h => h) (Or.inl ⟨by rfl, fun w' hs => by go_simp⟩) SS.out ?_
  change Hz _ _ _ _ _ _ _ _ (Act.put _ (some 72) _) _
  simp only [Act.put, List.setIfInBounds_toArray, List.set_cons_zero, List.set_cons_succ]
  refine hz_take (i := 7) (v := (.int .i64 y0)) rfl rfl (by kernel_rfl) (by decide) (by kernel_rfl) (by kernel_rfl) (by kernel_rfl) (fun _ _ _ h => h) (Or.inl ⟨by rfl, fun w' hs => by have h0 := hs.2.1; go_simp⟩) SS.out ?_
  change Hz _ _ _ _ _ _ _ _ (Act.put _ (some 73) _) _
  simp only [Act.put, List.setIfInBounds_toArray, List.set_cons_zero, List.set_cons_succ]
  refine hz_take (i := 8) (v := (.slice (some ⟨g, 0, none⟩) 2 uc)) rfl rfl (by kernel_rfl) (by decide) (by kernel_rfl) (by kernel_rfl) (by kernel_rfl) (fun _ _ _ h => h) (Or.inl ⟨by rfl, fun w' hs => by go_simp⟩) SS.out ?_
  change Hz _ _ _ _ _ _ _ _ (Act.put _ (some 74) _) _
  simp only [Act.put, List.setIfInBounds_toArray, List.set_cons_zero, List.set_cons_succ]
  refine hz_take (i := 9) (v := (.pointer (some ⟨g, 1, none⟩))) rfl rfl (by kernel_rfl) (by decide) (by kernel_rfl) (by kernel_rfl) (by kernel_rfl) (fun _ _ _ h => h) (Or.inl ⟨by rfl, fun w' hs => by go_simp⟩) SS.out ?_
  change Hz _ _ _ _ _ _ _ _ (Act.put _ (some 75) _) _
  simp only [Act.put, List.setIfInBounds_toArray, List.set_cons_zero, List.set_cons_succ]
  refine hz_take (i := 10) (v := (.int .i64 y1)) rfl rfl (by kernel_rfl) (by decide) (by kernel_rfl) (by kernel_rfl) (by kernel_rfl) (fun _ _ _ h => h) (Or.inl ⟨by rfl, fun w' hs => by have h0 := hs.2.2; go_simp⟩) SS.out ?_
  change Hz _ _ _ _ _ _ _ _ (Act.put _ (some 76) _) _
  simp only [Act.put, List.setIfInBounds_toArray, List.set_cons_zero, List.set_cons_succ]
  refine hz_take (i := 11) (v := (.agg #[.int .i64 y0, .int .i64 y1])) rfl rfl (by kernel_rfl) (by decide) (by kernel_rfl) (by kernel_rfl) (by kernel_rfl) (fun _ _ _ h => h) (Or.inl ⟨by rfl, fun w' hs => by go_simp⟩) SS.out ?_
  change Hz _ _ _ _ _ _ _ _ (Act.put _ (some 77) _) _
  simp only [Act.put, List.setIfInBounds_toArray, List.set_cons_zero, List.set_cons_succ]
  refine hz_ready (rs := [12]) (by kernel_rfl) (by simp) ?_
  refine hz_cons (hz_next rfl (fun K hK => ?_)) hz_nil
  rw [if_pos (by rfl)]
  go_simp
  have x0 : (u0.alloc (.cells #[.int .i64 y0, .int .i64 y1] 62)).cell? ⟨u0.heap.size, 0, none⟩ = some (.int .i64 y0) := cell_new rfl
  have x1 : (u0.alloc (.cells #[.int .i64 y0, .int .i64 y1] 62)).cell? ⟨u0.heap.size, 1, none⟩ = some (.int .i64 y1) := cell_new rfl
  have BA : Hid (Below u0.heap.size u0 (u0.alloc (.cells #[.int .i64 y0, .int .i64 y1] 62))) := al (Below.refl _ _) _
  have SA : Hid ((u0.alloc (.cells #[.int .i64 y0, .int .i64 y1] 62)).cell? ⟨q, 3, none⟩ = some (.slice b3 n3 d3) ∧ (u0.alloc (.cells #[.int .i64 y0, .int .i64 y1] 62)).cell? ⟨g, 0, none⟩ = some (.int .i64 y0) ∧ (u0.alloc (.cells #[.int .i64 y0, .int .i64 y1] 62)).cell? ⟨g, 1, none⟩ = some (.int .i64 y1)) := ⟨cell_keep BA.out SS.out.1, cell_keep BA.out SS.out.2.1, cell_keep BA.out SS.out.2.2⟩
  refine hK.out _ _ (fun _ => SA.out) ?_
  clear hK K
  have XC : Hid ((u0.alloc (.cells #[.int .i64 y0, .int .i64 y1] 62)).cell? ⟨u0.heap.size, 0, none⟩ = some (.int .i64 y0) ∧ (u0.alloc (.cells #[.int .i64 y0, .int .i64 y1] 62)).cell? ⟨u0.heap.size, 1, none⟩ = some (.int .i64 y1)) := ⟨x0, x1⟩
  clear x0 x1
  have B3 : Hid (Below w.heap.size w (u0.alloc (.cells #[.int .i64 y0, .int .i64 y1] 62))) := on B0.out BA.out
  have S3 : Hid (base ≤ (u0.alloc (.cells #[.int .i64 y0, .int .i64 y1] 62)).heap.size) := Nat.le_trans HB.out.1 B3.out.size
  replace KB : Hid (Kb (u0.alloc (.cells #[.int .i64 y0, .int .i64 y1] 62)) _ _ _) := KB.out.keep BA.out
  generalize (u0.alloc (.cells #[.int .i64 y0, .int .i64 y1] 62)) = u2 at *
  generalize u0.heap.size = s0 at *
  clear BA SS
  refine hz_ready (rs := [13]) (by kernel_rfl) (by simp) ?_
  refine hz_cons (hz_next rfl (fun K hK => ?_)) hz_nil
  refine stepW_pair 28 62 Tryz.underlying28 info_slot rfl (.tmp 70) (.tmp 78) rfl base (.slice b3 n3 d3) P.plan rfl (HW.out.keep B3.out).plan s0 y0 y1 rfl XC.out.1 XC.out.2 (by have := HB.out; omega) S3.out ?_
  intro v' w' hN' hG'
  change K (Act.put _ (some 79) _) _
  simp only [Act.put, List.setIfInBounds_toArray, List.set_cons_zero, List.set_cons_succ]
  have PW := (HW.out.keep B3.out).pushSlot (zs := zs) (by rw [HY.out.1, HY.out.2]; exact hN'.out) hG'
  have G1 : Hid (Gn base w w') := Gn.row B3.out hG' (HW.out.keep B3.out).plan
  have K1 := KB.out.gr hG' (fun e => KB.out.row (HW.out.keep B3.out).plan (by decide) e.symm)
  obtain ⟨e3, f3, hv'⟩ : ∃ e f, v' = .slice e (adP P 3 zs).plan.length f := PW.shape3
  generalize (adP P 3 zs).plan.length = m3 at hv'
  subst hv'
  have PWH : Hid (Wp w' base _ _ _ _ (adP P 3 zs) _) := PW
  have K1H : Hid (Kb w' _ _ _) := K1
  have SB : Hid (w'.cell? ⟨q, 3, none⟩ = some (.slice b3 n3 d3) ∧ w'.cell? ⟨g, 0, none⟩ = some (.int .i64 y0) ∧ w'.cell? ⟨g, 1, none⟩ = some (.int .i64 y1)) := ⟨K1.cell (i := 3) rfl, num_cell' (rowW (HUN.out.keep B3.out) (HW.out.keep B3.out).plan hG' (by decide)) 0 (by decide) HY.out.1, num_cell' (rowW (HUN.out.keep B3.out) (HW.out.keep B3.out).plan hG' (by decide)) 1 (by decide) HY.out.2⟩
  refine hK.out _ _ (fun _ => SB.out) ?_
  clear hK K hN' hG' PW SA
  refine hz_ready (rs := [14]) (by kernel_rfl) (by simp) ?_
  refine hz_cons (hz_next rfl (fun K hK => ?_)) hz_nil
  rw [if_pos (by rfl)]
  go_simp
  refine hK.out _ _ (fun _ => SB.out) ?_
  clear hK K
  refine hz_take (i := 15) (v := (.pointer (some ⟨q, 3, none⟩))) rfl rfl (by kernel_rfl) (by decide) (by kernel_rfl) (by kernel_rfl) (by kernel_rfl) (fun _ _ _ h => h) (Or.inl ⟨by rfl, fun w' hs => by go_simp⟩) SB.out ?_
  change Hz _ _ _ _ _ _ _ _ (Act.put _ (some 81) _) _
  simp only [Act.put, List.setIfInBounds_toArray, List.set_cons_zero, List.set_cons_succ]
  have s3 := K1H.out.free 3
  have k3 := K1H.out.cell (i := 3) rfl
  refine hz_ready (rs := [16]) (by kernel_rfl) (by simp) ?_
  refine hz_cons (hz_next rfl (fun K hK => ?_)) hz_nil
  rw [if_pos (by rfl)]
  have lq := K1H.out.lt
  go_simp
  clear s3 k3 lq
  refine hK.out _ _ (fun e => absurd rfl e) ?_
  clear hK K
  refine hz_done (by kernel_rfl) ?_
  go_wp2_with fail
  go_end0
  exact ⟨rfl, _, _, _, _, _, PWH.out.put K1H.out, K1H.out.set 3 (.slice e3 m3 f3), (G1.out.low HQ.out).put q (Nat.le_refl _) _ _⟩
theorem s_add (k : Nat) (hk : k < 4) (base q : Nat) (v0 v1 v2 v3 u : Value) (P : Plc) (xs : List Value) (zs : List Int) (w : World) (h : Wp w base v0 v1 v2 v3 P xs) (kq : Kb w q #[v0, v1, v2, v3] 30) (hu : Nums w base u zs) (ha : ∀ x ∈ xs, Apt x u) (hc : (k = 1 → zs.length = 5) ∧ (k = 2 → zs.length = 2) ∧ (k = 3 → zs.length = 2)) (hq : q ≤ base) (hb : base ≤ w.heap.size) (hs : SmP P 1000) :
    Calls Tryz.prog 26 #[.pointer (some ⟨q, 0, none⟩), .int .i64 (k : Int), u] w fun e w' => e = .returned (.tuple #[]) ∧ ∃ v0' v1' v2' v3' xs', Wp w' base v0' v1' v2' v3' (adP P k zs) xs' ∧ Kb w' q #[v0', v1', v2', v3'] 30 ∧ Gn q w w' := by
  match k, hk with
  | 0, _ => exact s_add0 base q v0 v1 v2 v3 u P xs zs w h kq hu ha hq hb hs
  | 1, _ => exact s_add1 base q v0 v1 v2 v3 u P xs zs w h kq hu (hc.1 rfl) hq hb hs
  | 2, _ => exact s_add2 base q v0 v1 v2 v3 u P xs zs w h kq hu (hc.2.1 rfl) hq hb hs
  | 3, _ => exact s_add3 base q v0 v1 v2 v3 u P xs zs w h kq hu (hc.2.2 rfl) hq hb hs
end Go.Proofs.YtkfcofjmjbkekaaGreatDoor
namespace Go.Proofs.YtkfcofjmjbkekaaGreatDoor
open Go.RowKit
set_option linter.unusedVariables false

structure Mp (w w1 wr : World) (R : Int × Nat × Plc) (L : List Wb) (k i : Nat) (P : Plc) (v0 v1 v2 v3 : Value) (xs : List Value) : Prop where
  val : rdP (L.drop i) k i P = R
  sm : SmP P i
  pol : Wp wr (w1.heap.size + 1) v0 v1 v2 v3 P xs
  var : Kb wr w1.heap.size #[v0, v1, v2, v3] 30
  bel : Below w1.heap.size w1 wr
  two : w1.heap.size + 1 ≤ wr.heap.size
set_option maxRecDepth 20000 in
set_option maxHeartbeats 16000000 in
theorem s_parsePolicy (tx : Wb) (hl : tx.length ≤ 1048576) (w : World) : Calls Tryz.prog 8 #[.string (bq tx)] w fun e w' => ppO w w' (ppV tx) e ∧ Below w.heap.size w w' := by
  have hz : (bq tx).size = tx.length := bq_size tx
  obtain ⟨n, hn⟩ : ∃ n, tx.length = n := ⟨_, rfl⟩
  have hnI : (n : Int) ≤ 1048576 := by omega
  by_cases hb : 1000 < n
  · have e : ppV tx = (2, 0, vdP) := by unfold ppV; rw [if_pos (by omega)]
    have hI : (1000 : Int) < (n : Int) := by omega
    rw [e]
    rw [hn] at hz
    clear e hn hl
    generalize bq tx = S at *
    go_enter Tryz.func8, Tryz.ntmps8
    go_wp2_with fail
    exact bodyPost_ret (v := .agg #[.int .i64 2, .int .i64 0, .slice none 0 0, .slice none 0 0, .slice none 0 0, .slice none 0 0]) (by simp [results, Tryz.results8, go_sem]) rfl ⟨⟨_, _, _, _, _, rfl, Wp.void _ _⟩, al (Below.refl _ _) _⟩
  have hI : (n : Int) ≤ 1000 := by omega
  have hpp : ppV tx = if (rdP (spl 10 tx []) 0 0 vdP).1 = 0 then (if pfV (rdP (spl 10 tx []) 0 0 vdP).2.2 = 0 then (0, 0, (rdP (spl 10 tx []) 0 0 vdP).2.2) else (pfV (rdP (spl 10 tx []) 0 0 vdP).2.2, 0, vdP)) else ((rdP (spl 10 tx []) 0 0 vdP).1, (rdP (spl 10 tx []) 0 0 vdP).2.1, vdP) := by unfold ppV; rw [if_neg (by omega)]
  have CUT := s_cut tx 10 (w.alloc (.cells #[.int .i64 0, .int .i64 0, .slice none 0 0, .slice none 0 0, .slice none 0 0, .slice none 0 0] 32)) (by omega)
  have hmany := spl_many 10 tx []
  have hshort := spl_short 10 tx []
  have hne := spl_ne 10 tx []
  obtain ⟨V, hV⟩ : ∃ V, ppV tx = V := ⟨_, rfl⟩
  obtain ⟨L, hL⟩ : ∃ L, spl 10 tx [] = L := ⟨_, rfl⟩
  rw [hL] at hpp CUT hmany hshort hne
  obtain ⟨R, hR⟩ : ∃ R, rdP L 0 0 vdP = R := ⟨_, rfl⟩
  rw [hR, hV] at hpp
  rw [hV]
  have HP : Hid (V = if R.1 = 0 then (if pfV R.2.2 = 0 then (0, 0, R.2.2) else (pfV R.2.2, 0, vdP)) else (R.1, R.2.1, vdP)) := hpp
  have HR : Hid (rdP L 0 0 vdP = R) := hR
  obtain ⟨m, hm⟩ : ∃ m, L.length = m + 1 := ⟨L.length - 1, by have := List.length_pos_iff.2 hne; omega⟩
  have HN : Hid (L.length = m + 1 ∧ m ≤ 1000) := ⟨hm, by omega⟩
  have hmI : (m : Int) ≤ 1000 := by have := HN.out; omega
  have HS : Hid (∀ i, i < m + 1 → (L.getD i []).length ≤ 1000) := fun i hi => by
    have := hshort (L.getD i []) (by rw [List.getD, List.getElem?_eq_getElem (by omega)]; exact List.getElem_mem (by omega))
    rw [List.length_nil, Nat.zero_add] at this
    omega
  rw [hn] at hz
  clear hpp hV hL hR hmany hshort hne hn hl hb
  generalize bq tx = S at *
  go_enter Tryz.func8, Tryz.ntmps8
  go_wp2_with fail
  refine CUT.mono ?_
  clear CUT
  rintro e w1 ⟨v, rfl, hO, b1⟩
  obtain ⟨a, cap, rfl, k1, k2, k3, k4⟩ := hO.shape
  rw [hm] at k1 ⊢
  obtain ⟨p, hp⟩ : ∃ p, a = some p := by
    cases a with
    | none => have := k3 rfl; rw [this] at hm; cases hm
    | some p => exact ⟨p, rfl⟩
  obtain ⟨g, rfl⟩ := k4 p hp
  subst hp
  have hO' : w1.ownsRow (w.alloc (.cells #[.int .i64 0, .int .i64 0, .slice none 0 0, .slice none 0 0, .slice none 0 0, .slice none 0 0] 32)).heap.size 9 1 (.slice (some ⟨g, 0, none⟩) (m + 1) cap) (m + 1) (strs L) := by have h := hO; unfold Os at h; rw [hm] at h; exact h
  have HC : Hid (∀ i, i < m + 1 → w1.cell? ⟨g, i, none⟩ = some (.string (bq (L.getD i [])))) := fun i hi => by
    rw [World.ownsRow.cellAt hO' i (by omega)]
    unfold strs
    rw [List.getElem?_map, List.getD, List.getElem?_eq_getElem (by omega)]
    rfl
  have B1 : Hid (Below w.heap.size w w1) := on (al (Below.refl _ _) _) b1
  have K1 : Hid (Kb w1 w.heap.size #[.int .i64 0, .int .i64 0, .slice none 0 0, .slice none 0 0, .slice none 0 0, .slice none 0 0] 32) := (Kb.new w _ _).keep b1
  have L1 : Hid (w.heap.size < w1.heap.size) := K1.out.lt
  clear hO hO' k1 k2 k3 k4 b1 hm
  go_wp2_with fail
  generalize hW : w1.alloc (.cells #[.slice none 0 0, .slice none 0 0, .slice none 0 0, .slice none 0 0] 30) = W2 at *
  have KV : Hid (Kb W2 w1.heap.size #[.slice none 0 0, .slice none 0 0, .slice none 0 0, .slice none 0 0] 30) := by show Kb _ _ _ _; rw [← hW]; exact Kb.new w1 _ _
  have B2 : Hid (Below w1.heap.size w1 W2) := by show Below _ _ _; rw [← hW]; exact al (Below.refl _ _) _
  have S2 : Hid (w1.heap.size + 1 ≤ W2.heap.size) := by show _ ≤ _; rw [← hW]; simp
  clear hW
  go_loopw [5, 6] (fun ls ii wr => ∃ (k i : Nat) (P : Plc) (v0 v1 v2 v3 : Value) (xs : List Value), i ≤ m ∧ ls = .int .i64 (k : Int) ∧ ii = .int .i64 (i : Int) ∧ Mp w w1 wr R L k i P v0 v1 v2 v3 xs) (fun _ ii _ => m - (intOf ii).toNat)
  case atStart => exact ⟨0, 0, vdP, _, _, _, _, [], Nat.zero_le _, rfl, rfl, HR.out, ⟨Nat.le_refl _, Nat.le_refl _, Nat.le_refl _, Nat.le_refl _⟩, Wp.void _ _, KV.out, B2.out, S2.out⟩
  case round =>
    obtain ⟨k, i, P, v0, v1, v2, v3, xs, hi, rfl, rfl, hp⟩ := hrel
    have MP : Hid (Mp w w1 wr R L k i P v0 v1 v2 v3 xs) := hp
    have K2 : Hid (Kb wr w.heap.size #[.int .i64 0, .int .i64 0, .slice none 0 0, .slice none 0 0, .slice none 0 0, .slice none 0 0] 32) := K1.out.keep hp.bel
    clear hp
    by_cases hlt : i < m
    · have hJ : (i : Int) < (m : Int) := by omega
      have HJ : Hid (i < m) := hlt
      have hv := rd_at L i k P (by have := HN.out; omega)
      rw [MP.out.val] at hv
      have ci := cell_keep MP.out.bel (HC.out i (by omega))
      have SW := fun w2 => s_words (L.getD i []) (HS.out i (by omega)) w2
      obtain ⟨y, hy⟩ : ∃ y, L.getD i [] = y := ⟨_, rfl⟩
      rw [hy] at hv ci SW
      cases hln : lnO y with
      | none =>
        rw [hln] at hv SW
        have e : R = (5, i, P) := hv
        have eV : V = (5, i, vdP) := by have := HP.out; rw [e, if_neg (show ¬ (5 : Int) = 0 by decide)] at this; exact this
        subst eV
        clear hv e hln hy hlt hi
        go_wp2_with (go_at_call 25; refine (SW _).mono ?_; rintro e w2 ⟨rfl, b2⟩; have B3 : Hid (Below wr.heap.size wr w2) := b2; have K3 : Hid (Kb w2 w.heap.size _ _) := K2.out.keep b2; have r0 := K3.out.cell (i := 0) rfl; have r1 := K3.out.cell (i := 1) rfl; have r2 := K3.out.cell (i := 2) rfl; have r3 := K3.out.cell (i := 3) rfl; have r4 := K3.out.cell (i := 4) rfl; have r5 := K3.out.cell (i := 5) rfl; have t0 := K3.out.free 0; have t1 := K3.out.free 1; have t2 := K3.out.free 2; have t3 := K3.out.free 3; have t4 := K3.out.free 4; have t5 := K3.out.free 5; clear b2)
        have K2 := K3
        have KF : Kb _ w.heap.size #[.int .i64 5, .int .i64 (i : Int), .slice none 0 0, .slice none 0 0, .slice none 0 0, .slice none 0 0] 32 := ((((((K2.out.set 0 (.int .i64 5)).set 1 (.int .i64 (i : Int))).set 2 (.slice none 0 0)).set 3 (.slice none 0 0)).set 4 (.slice none 0 0)).set 5 (.slice none 0 0))
        have LD := run_loadVar_mid (P := Tryz.prog) _ w.heap.size 0 32 #[.int .i64 5, .int .i64 (i : Int), .slice none 0 0, .slice none 0 0, .slice none 0 0, .slice none 0 0].toList _ (fun j v hj => by rw [Nat.zero_add]; exact KF.cell (by simpa using hj)) Tryz.underlying32 rfl (by kernel_rfl)
        exact bodyPost_ret (v := .agg #[.int .i64 5, .int .i64 (i : Int), .slice none 0 0, .slice none 0 0, .slice none 0 0, .slice none 0 0]) (by simp [results, Tryz.results8, asAddr]; rw [LD]) rfl ⟨⟨_, _, _, _, [], rfl, Wp.void _ _⟩, (((((((on B1.out (on MP.out.bel B3.out)).setCell (Nat.le_refl _) _).setCell (Nat.le_refl _) _).setCell (Nat.le_refl _) _).setCell (Nat.le_refl _) _).setCell (Nat.le_refl _) _).setCell (Nat.le_refl _) _)⟩
      | some fz =>
        obtain ⟨f, zs⟩ := fz
        rw [hln] at hv SW
        have hv : R = if f < k then (5, i, P) else rdP (L.drop (i + 1)) f (i + 1) (adP P f zs) := hv
        have LC : Hid (f < 4 ∧ (f = 1 → zs.length = 5) ∧ (f = 2 → zs.length = 2) ∧ (f = 3 → zs.length = 2)) := ln_cnt hln
        by_cases hf : f < k
        · rw [if_pos hf] at hv
          have eV : V = (5, i, vdP) := by have := HP.out; rw [hv, if_neg (show ¬ (5 : Int) = 0 by decide)] at this; exact this
          have hI2 : (f : Int) < (k : Int) := by omega
          subst eV
          clear hv hln hy hlt hi hf
          go_wp2_with (go_at_call 25; refine (SW _).mono ?_; rintro e w2 ⟨⟨v, rfl, hNN⟩, b2⟩; have B3 : Hid (Below wr.heap.size wr w2) := b2; have K3 : Hid (Kb w2 w.heap.size _ _) := K2.out.keep b2; have r0 := K3.out.cell (i := 0) rfl; have r1 := K3.out.cell (i := 1) rfl; have r2 := K3.out.cell (i := 2) rfl; have r3 := K3.out.cell (i := 3) rfl; have r4 := K3.out.cell (i := 4) rfl; have r5 := K3.out.cell (i := 5) rfl; have t0 := K3.out.free 0; have t1 := K3.out.free 1; have t2 := K3.out.free 2; have t3 := K3.out.free 3; have t4 := K3.out.free 4; have t5 := K3.out.free 5; clear b2 hNN)
          have K2 := K3
          have KF : Kb _ w.heap.size #[.int .i64 5, .int .i64 (i : Int), .slice none 0 0, .slice none 0 0, .slice none 0 0, .slice none 0 0] 32 := ((((((K2.out.set 0 (.int .i64 5)).set 1 (.int .i64 (i : Int))).set 2 (.slice none 0 0)).set 3 (.slice none 0 0)).set 4 (.slice none 0 0)).set 5 (.slice none 0 0))
          have LD := run_loadVar_mid (P := Tryz.prog) _ w.heap.size 0 32 #[.int .i64 5, .int .i64 (i : Int), .slice none 0 0, .slice none 0 0, .slice none 0 0, .slice none 0 0].toList _ (fun j v hj => by rw [Nat.zero_add]; exact KF.cell (by simpa using hj)) Tryz.underlying32 rfl (by kernel_rfl)
          exact bodyPost_ret (v := .agg #[.int .i64 5, .int .i64 (i : Int), .slice none 0 0, .slice none 0 0, .slice none 0 0, .slice none 0 0]) (by simp [results, Tryz.results8, asAddr]; rw [LD]) rfl ⟨⟨_, _, _, _, [], rfl, Wp.void _ _⟩, (((((((on B1.out (on MP.out.bel B3.out)).setCell (Nat.le_refl _) _).setCell (Nat.le_refl _) _).setCell (Nat.le_refl _) _).setCell (Nat.le_refl _) _).setCell (Nat.le_refl _) _).setCell (Nat.le_refl _) _)⟩
        · rw [if_neg hf] at hv
          have HV : Hid (rdP (L.drop (i + 1)) f (i + 1) (adP P f zs) = R) := hv.symm
          have hI2 : (k : Int) ≤ (f : Int) := by omega
          have wi : IntKind.i64.wrap ((i : Int) + 1) = (i : Int) + 1 := by rw [IntKind.wrap_i64]; have := HN.out; omega
          clear hv hln hy hlt hi hf
          go_wp2_with (first
            | (go_at_call 25; refine (SW _).mono ?_; rintro e w2 ⟨⟨v, rfl, hNN⟩, b2⟩; have B3 : Hid (Below wr.heap.size wr w2) := b2; have PN : Hid (Wp w2 (w1.heap.size + 1) v0 v1 v2 v3 P xs) := MP.out.pol.keep b2; have NU : Hid (Nums w2 (w1.heap.size + 1) v zs) := owns_mono hNN MP.out.two; have AP : Hid (∀ x ∈ xs, Apt x v) := MP.out.pol.apt hNN (Nat.le_refl _); have VV : Hid (Kb w2 w1.heap.size #[v0, v1, v2, v3] 30) := MP.out.var.keep b2; clear b2 hNN)
            | (go_at_call 26; refine (s_add f LC.out.1 (w1.heap.size + 1) w1.heap.size v0 v1 v2 v3 _ P xs zs _ PN.out VV.out NU.out AP.out LC.out.2 (by omega) (by have := MP.out.two; have := B3.out.size; omega) (by have h := MP.out.sm; have := HN.out; have := HJ.out; exact ⟨by have := h.own; omega, by have := h.lanes; omega, by have := h.bells; omega, by have := h.plan; omega⟩)).mono ?_; rintro e w3 ⟨rfl, u0, u1, u2, u3, ys, hW, hK, hG⟩; have WN : Hid (Wp w3 (w1.heap.size + 1) u0 u1 u2 u3 (adP P f zs) ys) := hW; have KN : Hid (Kb w3 w1.heap.size #[u0, u1, u2, u3] 30) := hK; have GN : Hid (Gn w1.heap.size _ w3) := hG; clear hW hK hG))
          go_roundw
          case rel => exact ⟨f, i + 1, adP P f zs, u0, u1, u2, u3, ys, by have := HJ.out; omega, rfl, by go_num, HV.out, MP.out.sm.next f zs, WN.out, KN.out, GN.out _ w1 (on MP.out.bel B3.out) (Nat.le_refl _) (Nat.le_refl _), by have := (GN.out.self (by have := MP.out.two; have := B3.out.size; omega)).size; have := MP.out.two; have := B3.out.size; omega⟩
          case measure => have := HJ.out; simp [intOf]; omega
    · have hJ : ¬ (i : Int) < (m : Int) := by omega
      obtain rfl : i = m := by omega
      have hv := rd_last L i k P (by have := HN.out; omega)
      rw [MP.out.val] at hv
      have ci := cell_keep MP.out.bel (HC.out i (by omega))
      obtain ⟨y, hy⟩ : ∃ y, L.getD i [] = y := ⟨_, rfl⟩
      rw [hy] at hv ci
      by_cases h0 : y = []
      · subst h0
        rw [if_pos rfl] at hv
        have es : (bq ([] : Wb)).toList.isEmpty = true := by rw [bqP_toList]; rfl
        have HV : Hid (V = if pfV P = 0 then (0, 0, P) else (pfV P, 0, vdP)) := by have := HP.out; rw [hv, if_pos rfl] at this; exact this
        obtain ⟨b0, b1, b2, b3, d0, d1, d2, d3, rfl, rfl, rfl, rfl⟩ := MP.out.pol.shape
        have PA : Hid (PolAt wr w1.heap.size P) := ⟨_, _, _, _, _, _, _, _, _, _, _, _, MP.out.var.cell (i := 0) rfl, MP.out.var.cell (i := 1) rfl, MP.out.var.cell (i := 2) rfl, MP.out.var.cell (i := 3) rfl, MP.out.pol.pl⟩
        generalize P.own.length = n0 at *
        generalize P.lanes.length = n1 at *
        generalize P.bells.length = n2 at *
        generalize P.plan.length = n3 at *
        clear hv hy hi hlt
        by_cases hf : pfV P = 0
        · have eV : V = (0, 0, P) := by have := HV.out; rw [if_pos hf] at this; exact this
          subst eV
          go_wp2_with (go_at_call 27; refine (l6_fault _ P _ PA.out).mono ?_; rintro e w5 ⟨rfl, b5⟩; have B5 : Hid (Below w1.heap.size w1 w5) := on MP.out.bel b5; have K3 : Hid (Kb w5 w.heap.size _ _) := K2.out.keep b5; have r0 := K3.out.cell (i := 0) rfl; have r1 := K3.out.cell (i := 1) rfl; have r2 := K3.out.cell (i := 2) rfl; have r3 := K3.out.cell (i := 3) rfl; have r4 := K3.out.cell (i := 4) rfl; have r5 := K3.out.cell (i := 5) rfl; have t0 := K3.out.free 0; have t1 := K3.out.free 1; have t2 := K3.out.free 2; have t3 := K3.out.free 3; have t4 := K3.out.free 4; have t5 := K3.out.free 5; have V5 : Hid (Kb w5 w1.heap.size _ _) := MP.out.var.keep b5; have p0 := V5.out.cell (i := 0) rfl; have p1 := V5.out.cell (i := 1) rfl; have p2 := V5.out.cell (i := 2) rfl; have p3 := V5.out.cell (i := 3) rfl; have W5 : Hid (Wp w5 _ _ _ _ _ P xs) := MP.out.pol.keep b5; clear b5)
          have K2 := K3
          have KF : Kb _ w.heap.size #[.int .i64 0, .int .i64 0, .slice b0 n0 d0, .slice b1 n1 d1, .slice b2 n2 d2, .slice b3 n3 d3] 32 := ((((((K2.out.set 0 (.int .i64 0)).set 1 (.int .i64 0)).set 2 (.slice b0 n0 d0)).set 3 (.slice b1 n1 d1)).set 4 (.slice b2 n2 d2)).set 5 (.slice b3 n3 d3))
          have LD := run_loadVar_mid (P := Tryz.prog) _ w.heap.size 0 32 #[.int .i64 0, .int .i64 0, .slice b0 n0 d0, .slice b1 n1 d1, .slice b2 n2 d2, .slice b3 n3 d3].toList _ (fun j v hj => by rw [Nat.zero_add]; exact KF.cell (by simpa using hj)) Tryz.underlying32 rfl (by kernel_rfl)
          exact bodyPost_ret (v := .agg #[.int .i64 0, .int .i64 0, .slice b0 n0 d0, .slice b1 n1 d1, .slice b2 n2 d2, .slice b3 n3 d3]) (by simp [results, Tryz.results8, asAddr]; rw [LD]) rfl ⟨⟨_, _, _, _, xs, rfl, (W5.out.mono (by have := L1.out; omega)).put6 K2.out⟩, (((((((on B1.out B5.out).setCell (Nat.le_refl _) _).setCell (Nat.le_refl _) _).setCell (Nat.le_refl _) _).setCell (Nat.le_refl _) _).setCell (Nat.le_refl _) _).setCell (Nat.le_refl _) _)⟩
        · have eV : V = (pfV P, 0, vdP) := by have := HV.out; rw [if_neg hf] at this; exact this
          subst eV
          go_wp2_with (go_at_call 27; refine (l6_fault _ P _ PA.out).mono ?_; rintro e w5 ⟨rfl, b5⟩; have B5 : Hid (Below w1.heap.size w1 w5) := on MP.out.bel b5; have K3 : Hid (Kb w5 w.heap.size _ _) := K2.out.keep b5; have r0 := K3.out.cell (i := 0) rfl; have r1 := K3.out.cell (i := 1) rfl; have r2 := K3.out.cell (i := 2) rfl; have r3 := K3.out.cell (i := 3) rfl; have r4 := K3.out.cell (i := 4) rfl; have r5 := K3.out.cell (i := 5) rfl; have t0 := K3.out.free 0; have t1 := K3.out.free 1; have t2 := K3.out.free 2; have t3 := K3.out.free 3; have t4 := K3.out.free 4; have t5 := K3.out.free 5;  clear b5)
          have K2 := K3
          have KF : Kb _ w.heap.size #[.int .i64 (pfV P), .int .i64 0, .slice none 0 0, .slice none 0 0, .slice none 0 0, .slice none 0 0] 32 := ((((((K2.out.set 0 (.int .i64 (pfV P))).set 1 (.int .i64 0)).set 2 (.slice none 0 0)).set 3 (.slice none 0 0)).set 4 (.slice none 0 0)).set 5 (.slice none 0 0))
          have LD := run_loadVar_mid (P := Tryz.prog) _ w.heap.size 0 32 #[.int .i64 (pfV P), .int .i64 0, .slice none 0 0, .slice none 0 0, .slice none 0 0, .slice none 0 0].toList _ (fun j v hj => by rw [Nat.zero_add]; exact KF.cell (by simpa using hj)) Tryz.underlying32 rfl (by kernel_rfl)
          exact bodyPost_ret (v := .agg #[.int .i64 (pfV P), .int .i64 0, .slice none 0 0, .slice none 0 0, .slice none 0 0, .slice none 0 0]) (by simp [results, Tryz.results8, asAddr]; rw [LD]) rfl ⟨⟨_, _, _, _, [], rfl, Wp.void _ _⟩, (((((((on B1.out B5.out).setCell (Nat.le_refl _) _).setCell (Nat.le_refl _) _).setCell (Nat.le_refl _) _).setCell (Nat.le_refl _) _).setCell (Nat.le_refl _) _).setCell (Nat.le_refl _) _)⟩
      · rw [if_neg h0] at hv
        have es : (bq y).toList.isEmpty = false := by rw [bqP_toList]; cases y with | nil => exact absurd rfl h0 | cons c r => rfl
        have eV : V = (5, i, vdP) := by have := HP.out; rw [hv, if_neg (show ¬ (5 : Int) = 0 by decide)] at this; exact this
        subst eV
        clear hv hy h0 hi hlt
        have r0 := K2.out.cell (i := 0) rfl
        have r1 := K2.out.cell (i := 1) rfl
        have r2 := K2.out.cell (i := 2) rfl
        have r3 := K2.out.cell (i := 3) rfl
        have r4 := K2.out.cell (i := 4) rfl
        have r5 := K2.out.cell (i := 5) rfl
        have t0 := K2.out.free 0
        have t1 := K2.out.free 1
        have t2 := K2.out.free 2
        have t3 := K2.out.free 3
        have t4 := K2.out.free 4
        have t5 := K2.out.free 5
        go_wp2_with fail
        have KF : Kb _ w.heap.size #[.int .i64 5, .int .i64 (i : Int), .slice none 0 0, .slice none 0 0, .slice none 0 0, .slice none 0 0] 32 := ((((((K2.out.set 0 (.int .i64 5)).set 1 (.int .i64 (i : Int))).set 2 (.slice none 0 0)).set 3 (.slice none 0 0)).set 4 (.slice none 0 0)).set 5 (.slice none 0 0))
        have LD := run_loadVar_mid (P := Tryz.prog) _ w.heap.size 0 32 #[.int .i64 5, .int .i64 (i : Int), .slice none 0 0, .slice none 0 0, .slice none 0 0, .slice none 0 0].toList _ (fun j v hj => by rw [Nat.zero_add]; exact KF.cell (by simpa using hj)) Tryz.underlying32 rfl (by kernel_rfl)
        exact bodyPost_ret (v := .agg #[.int .i64 5, .int .i64 (i : Int), .slice none 0 0, .slice none 0 0, .slice none 0 0, .slice none 0 0]) (by simp [results, Tryz.results8, asAddr]; rw [LD]) rfl ⟨⟨_, _, _, _, [], rfl, Wp.void _ _⟩, (((((((on B1.out MP.out.bel).setCell (Nat.le_refl _) _).setCell (Nat.le_refl _) _).setCell (Nat.le_refl _) _).setCell (Nat.le_refl _) _).setCell (Nat.le_refl _) _).setCell (Nat.le_refl _) _)⟩
end Go.Proofs.YtkfcofjmjbkekaaGreatDoor
