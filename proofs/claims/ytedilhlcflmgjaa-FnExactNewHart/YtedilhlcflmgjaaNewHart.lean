/- The law FnExactNewHart answers true at every input, and each argument reads behind the call as it read ahead of it; no condition. -/
import Derived.Test.YtedilhlcflmgjaaBase
import Derived.Test.YtedilhlcflmgjaaHns
import Derived.Deep.RegionWith
namespace Go.Proofs.Ytedilhlcflmgjaa.fnExactNewHartDone
open Go.ChangeShapes Go.WideShapes Go.ChangeAt Go.RowKit
open Go.ChangeMaps (open_string shut_string)
set_option linter.unusedVariables false

set_option maxRecDepth 20000 in
set_option maxHeartbeats 8000000 in
theorem walk (a0 : Option Addr) (len0 cap0 : Nat) (z0 : List Int) (w : World) (h : IsRow .i64 w a0 len0 cap0 z0) :
    Calls Try.prog 6 #[.slice a0 len0 cap0] w fun e w' => e = .returned (.bool true) ∧ Below w.heap.size w w' := by
  have HP : Hid (IsRow .i64 w a0 len0 cap0 z0) := h
  have hmax : (len0 : Int) ≤ 9223372036854775807 := by have := h.ln.2; omega
  have HLN : Hid (len0 = z0.length) := h.ln.1
  clear h
  by_cases hbig : 1048576 < len0
  · have hI : (1048576 : Int) < (len0 : Int) := by omega
    go_enter Try.func6, Try.ntmps6
    go_wp2_with fail
    go_ret
    exact ⟨rfl, Below.refl _ _⟩
  have hI : ¬ (1048576 : Int) < (len0 : Int) := by omega
  have SM : Hid (len0 ≤ 1048576) := by show _ ≤ _; omega
  clear hbig
  go_enter Try.func6, Try.ntmps6
  go_wp2_with fail
  refine (to_nums _ _ _ _ _ HP.out SM.out).mono ?_
  rintro e w2 ⟨g2, rfl, m2, b2⟩
  have B2 : Hid (Below _ w w2) := b2
  have M2 : Hid (Nums w2 _ (.slice (some ⟨g2, 0, none⟩) len0 len0) z0) := m2
  clear m2 b2
  go_wp2_with fail
  refine (s_newHart _ z0 _ _ M2.out).mono ?_
  rintro e w3 ⟨r3, d3, i3, o3, rfl, m3, b3⟩
  obtain ⟨x3, hx3⟩ : ∃ x3, (newR z0).1 = x3 := ⟨_, rfl⟩
  obtain ⟨G, hG⟩ : ∃ G, (newR z0).2 = G := ⟨_, rfl⟩
  rw [hG] at m3
  rw [hx3, hG]
  have HX : Hid ((newR z0).1 = x3) := hx3
  have HG : Hid ((newR z0).2 = G) := hG
  have HT : Hid ((1 : Int) + totH G ≤ 4611686018427387904) := by have := newR_tot z0; rw [hG] at this; show _ ≤ _; omega
  obtain ⟨za0, zk0, rfl, _⟩ := m3.r.shape
  obtain ⟨za1, zk1, rfl, _⟩ := m3.c.shape
  obtain ⟨za2, zk2, rfl, _⟩ := m3.i.shape
  obtain ⟨za3, zk3, rfl, _⟩ := m3.o.shape
  have B3 : Hid (Below _ w (w3.alloc (.cells #[.int .i64 x3, (.slice za0 G.regs.length zk0), .int .i64 G.pc, (.slice za1 G.csr.length zk1), .bool G.halted, .bool G.waiting, .bool G.rung, .int .i64 G.done, (.slice za2 G.inn.length zk2), (.slice za3 G.out.length zk3)] 43))) := al (on B2.out b3) _
  have Y3 : Hid (Vb (w3.alloc (.cells #[.int .i64 x3, (.slice za0 G.regs.length zk0), .int .i64 G.pc, (.slice za1 G.csr.length zk1), .bool G.halted, .bool G.waiting, .bool G.rung, .int .i64 G.done, (.slice za2 G.inn.length zk2), (.slice za3 G.out.length zk3)] 43)) w3.heap.size #[.int .i64 x3, (.slice za0 G.regs.length zk0), .int .i64 G.pc, (.slice za1 G.csr.length zk1), .bool G.halted, .bool G.waiting, .bool G.rung, .int .i64 G.done, (.slice za2 G.inn.length zk2), (.slice za3 G.out.length zk3)] 43) := Vb.new _ _ _
  have M3 : Hid (Hm (w3.alloc (.cells #[.int .i64 x3, (.slice za0 G.regs.length zk0), .int .i64 G.pc, (.slice za1 G.csr.length zk1), .bool G.halted, .bool G.waiting, .bool G.rung, .int .i64 G.done, (.slice za2 G.inn.length zk2), (.slice za3 G.out.length zk3)] 43)) _ (.slice za0 G.regs.length zk0) (.slice za1 G.csr.length zk1) (.slice za2 G.inn.length zk2) (.slice za3 G.out.length zk3) G) := m3.keep (al (Below.refl _ _) _)
  have L3 : Hid (∀ k, Own4 (.slice za0 G.regs.length zk0) (.slice za1 G.csr.length zk1) (.slice za2 G.inn.length zk2) (.slice za3 G.out.length zk3) k → k < w3.heap.size) := fun k e => (m3.own k e).2
  have Z3 : Hid (w3.heap.size + 1 = (w3.alloc (.cells #[.int .i64 x3, (.slice za0 G.regs.length zk0), .int .i64 G.pc, (.slice za1 G.csr.length zk1), .bool G.halted, .bool G.waiting, .bool G.rung, .int .i64 G.done, (.slice za2 G.inn.length zk2), (.slice za3 G.out.length zk3)] 43)).heap.size) := by show _ = _; simp
  clear b3 hx3 hG M2 m3
  go_wp2_with fail
  generalize w3.alloc (.cells #[.int .i64 x3, (.slice za0 G.regs.length zk0), .int .i64 G.pc, (.slice za1 G.csr.length zk1), .bool G.halted, .bool G.waiting, .bool G.rung, .int .i64 G.done, (.slice za2 G.inn.length zk2), (.slice za3 G.out.length zk3)] 43) = W3 at *
  generalize w3.heap.size = s3 at *
  refine (to_nums _ _ _ _ _ (HP.out.stay B3.out) SM.out).mono ?_
  rintro e w4 ⟨g4, rfl, m4, b4⟩
  have M4 : Hid (Nums w4 W3.heap.size (.slice (some ⟨g4, 0, none⟩) len0 len0) z0) := m4
  have B4 : Hid (Below _ w w4) := on B3.out b4
  have Y4 : Hid (Vb w4 s3 _ _) := Y3.out.keep b4
  have M34 : Hid (Hm w4 _ (.slice za0 G.regs.length zk0) (.slice za1 G.csr.length zk1) (.slice za2 G.inn.length zk2) (.slice za3 G.out.length zk3) G) := M3.out.keep b4
  have Z4 : Hid (W3.heap.size ≤ w4.heap.size) := b4.size
  have G4 : Hid (W3.heap.size ≤ g4 ∧ g4 < w4.heap.size) := m4.lt g4 rfl
  clear m4 b4
  go_wp2_with fail
  refine (i_newHart _ z0 _ _ M4.out).mono ?_
  rintro e w5 ⟨r5, d5, i5, o5, rfl, m5, A5, b5⟩
  rw [HG.out] at m5
  rw [HX.out, HG.out]
  obtain ⟨ga0, gk0, rfl, _⟩ := m5.r.shape
  obtain ⟨ga1, gk1, rfl, _⟩ := m5.c.shape
  obtain ⟨ga2, gk2, rfl, _⟩ := m5.i.shape
  obtain ⟨ga3, gk3, rfl, _⟩ := m5.o.shape
  have HA5 : Hid (Ha (.slice ga0 G.regs.length gk0) (.slice ga1 G.csr.length gk1) (.slice ga2 G.inn.length gk2) (.slice ga3 G.out.length gk3)) := A5
  have B5 : Hid (Below _ w (w5.alloc (.cells #[.int .i64 x3, (.slice ga0 G.regs.length gk0), .int .i64 G.pc, (.slice ga1 G.csr.length gk1), .bool G.halted, .bool G.waiting, .bool G.rung, .int .i64 G.done, (.slice ga2 G.inn.length gk2), (.slice ga3 G.out.length gk3)] 43))) := al (on B4.out b5) _
  have D5 : Hid (Below w4.heap.size w4 (w5.alloc (.cells #[.int .i64 x3, (.slice ga0 G.regs.length gk0), .int .i64 G.pc, (.slice ga1 G.csr.length gk1), .bool G.halted, .bool G.waiting, .bool G.rung, .int .i64 G.done, (.slice ga2 G.inn.length gk2), (.slice ga3 G.out.length gk3)] 43))) := al b5 _
  have G5 : Hid (Vb (w5.alloc (.cells #[.int .i64 x3, (.slice ga0 G.regs.length gk0), .int .i64 G.pc, (.slice ga1 G.csr.length gk1), .bool G.halted, .bool G.waiting, .bool G.rung, .int .i64 G.done, (.slice ga2 G.inn.length gk2), (.slice ga3 G.out.length gk3)] 43)) w5.heap.size #[.int .i64 x3, (.slice ga0 G.regs.length gk0), .int .i64 G.pc, (.slice ga1 G.csr.length gk1), .bool G.halted, .bool G.waiting, .bool G.rung, .int .i64 G.done, (.slice ga2 G.inn.length gk2), (.slice ga3 G.out.length gk3)] 43) := Vb.new _ _ _
  have Y5 : Hid (Vb (w5.alloc (.cells #[.int .i64 x3, (.slice ga0 G.regs.length gk0), .int .i64 G.pc, (.slice ga1 G.csr.length gk1), .bool G.halted, .bool G.waiting, .bool G.rung, .int .i64 G.done, (.slice ga2 G.inn.length gk2), (.slice ga3 G.out.length gk3)] 43)) s3 _ _) := (Y4.out.keep b5).push _
  have N5 : Hid (Hm (w5.alloc (.cells #[.int .i64 x3, (.slice ga0 G.regs.length gk0), .int .i64 G.pc, (.slice ga1 G.csr.length gk1), .bool G.halted, .bool G.waiting, .bool G.rung, .int .i64 G.done, (.slice ga2 G.inn.length gk2), (.slice ga3 G.out.length gk3)] 43)) _ (.slice za0 G.regs.length zk0) (.slice za1 G.csr.length zk1) (.slice za2 G.inn.length zk2) (.slice za3 G.out.length zk3) G) := (M34.out.keep b5).keep (al (Below.refl _ _) _)
  have O5 : Hid (Hm (w5.alloc (.cells #[.int .i64 x3, (.slice ga0 G.regs.length gk0), .int .i64 G.pc, (.slice ga1 G.csr.length gk1), .bool G.halted, .bool G.waiting, .bool G.rung, .int .i64 G.done, (.slice ga2 G.inn.length gk2), (.slice ga3 G.out.length gk3)] 43)) _ (.slice ga0 G.regs.length gk0) (.slice ga1 G.csr.length gk1) (.slice ga2 G.inn.length gk2) (.slice ga3 G.out.length gk3) G) := m5.keep (al (Below.refl _ _) _)
  have L5 : Hid (∀ k, Own4 (.slice ga0 G.regs.length gk0) (.slice ga1 G.csr.length gk1) (.slice ga2 G.inn.length gk2) (.slice ga3 G.out.length gk3) k → w4.heap.size ≤ k ∧ k < w5.heap.size) := fun k e => m5.own k e
  have Z5 : Hid (w4.heap.size ≤ w5.heap.size) := b5.size
  have yw := Y4.out.keep b5
  have ly : s3 < w5.heap.size := yw.lt
  have y0 := yw.cell 0 rfl
  have y1 := yw.cell 1 rfl
  have y2 := yw.cell 2 rfl
  have y3 := yw.cell 3 rfl
  have y4 := yw.cell 4 rfl
  have y5 := yw.cell 5 rfl
  have y6 := yw.cell 6 rfl
  have y7 := yw.cell 7 rfl
  have y8 := yw.cell 8 rfl
  have y9 := yw.cell 9 rfl
  clear b5 yw m5 A5
  go_wp2_with fail
  generalize w5.alloc (.cells #[.int .i64 x3, (.slice ga0 G.regs.length gk0), .int .i64 G.pc, (.slice ga1 G.csr.length gk1), .bool G.halted, .bool G.waiting, .bool G.rung, .int .i64 G.done, (.slice ga2 G.inn.length gk2), (.slice ga3 G.out.length gk3)] 43) = W5 at *
  generalize w5.heap.size = s5 at *
  clear y0 y1 y2 y3 y4 y5 y6 y7 y8 y9 ly
  refine (eq_hres _ _ _ _ _ _ _ _ _ G _ _ _ O5.out N5.out).mono ?_
  rintro e w6 ⟨rfl, b6⟩
  have B6 : Hid (Below _ w w6) := on B5.out b6
  have D6 : Hid (Below w4.heap.size w4 w6) := on D5.out b6
  have Y6 : Hid (Vb w6 s3 _ _) := Y5.out.keep b6
  have G6 : Hid (Vb w6 s5 _ _) := G5.out.keep b6
  have N6 : Hid (Hm w6 _ (.slice za0 G.regs.length zk0) (.slice za1 G.csr.length zk1) (.slice za2 G.inn.length zk2) (.slice za3 G.out.length zk3) G) := N5.out.keep b6
  have O6 : Hid (Hm w6 _ (.slice ga0 G.regs.length gk0) (.slice ga1 G.csr.length gk1) (.slice ga2 G.inn.length gk2) (.slice ga3 G.out.length gk3) G) := O5.out.keep b6
  clear b6 Y5 G5 N5 O5 D5 B5
  go_wp2_with fail
  refine (to_nums _ _ _ _ _ (HP.out.stay B6.out) SM.out).mono ?_
  rintro e w8 ⟨g8, rfl, m8, b8⟩
  have E8 : Hid (Below w6.heap.size w6 w8) := b8
  have N8 : Hid (Nums w8 _ (.slice (some ⟨g4, 0, none⟩) len0 len0) z0) := (M4.out.keep D6.out).keep b8
  have M8 : Hid (Nums w8 _ (.slice (some ⟨g8, 0, none⟩) len0 len0) z0) := m8
  clear m8 b8
  go_wp2_with fail
  refine (eq_nums _ _ _ _ _ _ N8.out M8.out).mono ?_
  rintro e wc ⟨rfl, b7'⟩
  have b7 : Below w6.heap.size w6 wc := on E8.out b7'
  have B7 : Hid (Below _ w wc) := on B6.out b7
  have Y7 : Hid (Vb wc s3 _ _) := Y6.out.keep b7
  have G7 : Hid (Vb wc s5 _ _) := G6.out.keep b7
  have N7 : Hid (Hm wc _ (.slice za0 G.regs.length zk0) (.slice za1 G.csr.length zk1) (.slice za2 G.inn.length zk2) (.slice za3 G.out.length zk3) G) := N6.out.keep b7
  have O7 : Hid (Hm wc _ (.slice ga0 G.regs.length gk0) (.slice ga1 G.csr.length gk1) (.slice ga2 G.inn.length gk2) (.slice ga3 G.out.length gk3) G) := O6.out.keep b7
  have X7 : Hid (Nums wc _ (.slice (some ⟨g4, 0, none⟩) len0 len0) z0) := N8.out.keep b7'
  clear b7 b7' Y6 G6 N6 O6 D6 B6 E8 N8 M8
  go_wp2_with fail
  refine (mark_nums _ 1 _ _ _ X7.out (by decide) (by have := SM.out; have := HLN.out; omega)).mono ?_
  rintro e m1 ⟨rfl, _, gk'⟩
  have mk1 : Mq (fun k => k = g4) wc m1 := Mq.of gk' fun k e => by cases e; rfl
  have Bm : Hid (Below _ w m1) := Mq.below B7.out mk1 fun k e => by have := G4.out.1; have := B3.out.size; omega
  have Ym : Hid (Vb m1 s3 _ _) := mk1.vb Y7.out fun e => by have := G4.out.1; have := Z3.out; omega
  have Gm : Hid (Vb m1 s5 _ _) := mk1.vb G7.out fun e => by have := G4.out.2; have := Z5.out; omega
  have Nm : Hid (Hm m1 _ (.slice za0 G.regs.length zk0) (.slice za1 G.csr.length zk1) (.slice za2 G.inn.length zk2) (.slice za3 G.out.length zk3) G) := mk1.hm N7.out fun k e f => by have := L3.out k e; have := G4.out.1; have := Z3.out; omega
  have Om : Hid (Hm m1 _ (.slice ga0 G.regs.length gk0) (.slice ga1 G.csr.length gk1) (.slice ga2 G.inn.length gk2) (.slice ga3 G.out.length gk3) G) := mk1.hm O7.out fun k e f => by have := (L5.out k e).1; have := G4.out.2; omega
  have hp1 : 0 ≤ (1 : Int) + z0.length := by omega
  generalize (1 : Int) + z0.length = T1 at *
  clear mk1 Y7 G7 N7 O7 gk'
  have y0 := Ym.out.cell 0 rfl
  have y1 := Ym.out.cell 1 rfl
  have y2 := Ym.out.cell 2 rfl
  have y3 := Ym.out.cell 3 rfl
  have y4 := Ym.out.cell 4 rfl
  have y5 := Ym.out.cell 5 rfl
  have y6 := Ym.out.cell 6 rfl
  have y7 := Ym.out.cell 7 rfl
  have y8 := Ym.out.cell 8 rfl
  have y9 := Ym.out.cell 9 rfl
  have g0 := Gm.out.cell 0 rfl
  have g1 := Gm.out.cell 1 rfl
  have g2 := Gm.out.cell 2 rfl
  have g3 := Gm.out.cell 3 rfl
  have g4 := Gm.out.cell 4 rfl
  have g5 := Gm.out.cell 5 rfl
  have g6 := Gm.out.cell 6 rfl
  have g7 := Gm.out.cell 7 rfl
  have g8 := Gm.out.cell 8 rfl
  have g9 := Gm.out.cell 9 rfl
  go_wp2_with fail
  clear y0 y1 y2 y3 y4 y5 y6 y7 y8 y9 g0 g1 g2 g3 g4 g5 g6 g7 g8 g9
  refine (eq_hres _ _ _ _ _ _ _ _ _ G _ _ _ Om.out Nm.out).mono ?_
  rintro e t1 ⟨rfl, b7⟩
  have Bt1 : Hid (Below _ w t1) := on Bm.out b7
  have Yt1 : Hid (Vb t1 s3 _ _) := Ym.out.keep b7
  have Gt1 : Hid (Vb t1 s5 _ _) := Gm.out.keep b7
  have Nt1 : Hid (Hm t1 _ (.slice za0 G.regs.length zk0) (.slice za1 G.csr.length zk1) (.slice za2 G.inn.length zk2) (.slice za3 G.out.length zk3) G) := Nm.out.keep b7
  have Ot1 : Hid (Hm t1 _ (.slice ga0 G.regs.length gk0) (.slice ga1 G.csr.length gk1) (.slice ga2 G.inn.length gk2) (.slice ga3 G.out.length gk3) G) := Om.out.keep b7
  clear b7 Ym Gm Nm Om
  have g0 := Gt1.out.cell 0 rfl
  have g1 := Gt1.out.cell 1 rfl
  have g2 := Gt1.out.cell 2 rfl
  have g3 := Gt1.out.cell 3 rfl
  have g4 := Gt1.out.cell 4 rfl
  have g5 := Gt1.out.cell 5 rfl
  have g6 := Gt1.out.cell 6 rfl
  have g7 := Gt1.out.cell 7 rfl
  have g8 := Gt1.out.cell 8 rfl
  have g9 := Gt1.out.cell 9 rfl
  go_wp2_with fail
  clear g0 g1 g2 g3 g4 g5 g6 g7 g8 g9
  refine (mark_hres _ _ _ _ _ G 1 _ _ Ot1.out HA5.out (by decide) HT.out).mono ?_
  rintro e t2 ⟨rfl, n7, g7⟩
  have Bt2 : Hid (Below _ w t2) := Mq.below Bt1.out g7 fun k e => by have := (L5.out k e).1; have := B4.out.size; omega
  have Yt2 : Hid (Vb t2 s3 _ _) := g7.vb Yt1.out fun e => by have := (L5.out _ e).1; have := Z3.out; have := Z4.out; omega
  have Gt2 : Hid (Vb t2 s5 _ _) := g7.vb Gt1.out fun e => by have := (L5.out _ e).2; omega
  have Nt2 : Hid (Hm t2 _ (.slice za0 G.regs.length zk0) (.slice za1 G.csr.length zk1) (.slice za2 G.inn.length zk2) (.slice za3 G.out.length zk3) G) := g7.hm Nt1.out fun k e f => by have := L3.out k e; have := (L5.out _ f).1; have := Z3.out; have := Z4.out; omega
  have Ot2 : Hid (Hm t2 _ (.slice ga0 G.regs.length gk0) (.slice ga1 G.csr.length gk1) (.slice ga2 G.inn.length gk2) (.slice ga3 G.out.length gk3) (mkH 1 G)) := n7
  have hp2 : 0 ≤ (1 : Int) + totH G := by omega
  obtain ⟨T2, hT2⟩ : ∃ T2, (1 : Int) + totH G = T2 := ⟨_, rfl⟩
  rw [hT2] at hp2 ⊢
  have HT2 : Hid ((1 : Int) + totH G = T2) := hT2
  clear n7 g7 hT2 Yt1 Gt1 Nt1 Ot1
  have g0 := Gt2.out.cell 0 rfl
  have g1 := Gt2.out.cell 1 rfl
  have g2 := Gt2.out.cell 2 rfl
  have g3 := Gt2.out.cell 3 rfl
  have g4 := Gt2.out.cell 4 rfl
  have g5 := Gt2.out.cell 5 rfl
  have g6 := Gt2.out.cell 6 rfl
  have g7 := Gt2.out.cell 7 rfl
  have g8 := Gt2.out.cell 8 rfl
  have g9 := Gt2.out.cell 9 rfl
  go_wp2_with fail
  clear g0 g1 g2 g3 g4 g5 g6 g7 g8 g9
  refine (held_hres _ _ _ _ _ G 1 _ _ Ot2.out (by decide) HT.out).mono ?_
  rintro e t3 ⟨rfl, b7⟩
  rw [HT2.out]
  have Bt3 : Hid (Below _ w t3) := on Bt2.out b7
  have Yt3 : Hid (Vb t3 s3 _ _) := Yt2.out.keep b7
  have Gt3 : Hid (Vb t3 s5 _ _) := Gt2.out.keep b7
  have Nt3 : Hid (Hm t3 _ (.slice za0 G.regs.length zk0) (.slice za1 G.csr.length zk1) (.slice za2 G.inn.length zk2) (.slice za3 G.out.length zk3) G) := Nt2.out.keep b7
  have Ot3 : Hid (Hm t3 _ (.slice ga0 G.regs.length gk0) (.slice ga1 G.csr.length gk1) (.slice ga2 G.inn.length gk2) (.slice ga3 G.out.length gk3) (mkH 1 G)) := Ot2.out.keep b7
  clear b7 Yt2 Gt2 Nt2 Ot2
  go_wp2_with fail
  refine (to_nums _ _ _ _ _ (HP.out.stay Bt3.out) SM.out).mono ?_
  rintro e t4 ⟨g9, rfl, m9, b7⟩
  have Bt4 : Hid (Below _ w t4) := on Bt3.out b7
  have Yt4 : Hid (Vb t4 s3 _ _) := Yt3.out.keep b7
  have Gt4 : Hid (Vb t4 s5 _ _) := Gt3.out.keep b7
  have Nt4 : Hid (Hm t4 _ (.slice za0 G.regs.length zk0) (.slice za1 G.csr.length zk1) (.slice za2 G.inn.length zk2) (.slice za3 G.out.length zk3) G) := Nt3.out.keep b7
  have Ot4 : Hid (Hm t4 _ (.slice ga0 G.regs.length gk0) (.slice ga1 G.csr.length gk1) (.slice ga2 G.inn.length gk2) (.slice ga3 G.out.length gk3) (mkH 1 G)) := Ot3.out.keep b7
  have M9 : Hid (Nums t4 _ (.slice (some ⟨g9, 0, none⟩) len0 len0) z0) := m9
  clear b7 m9 Yt3 Gt3 Nt3 Ot3
  go_wp2_with fail
  refine (i_newHart _ z0 _ _ M9.out).mono ?_
  rintro e t6 ⟨r6, d6, i6, o6, rfl, m6, A6, b7⟩
  rw [HG.out] at m6
  rw [HX.out, HG.out]
  obtain ⟨ja0, jk0, rfl, _⟩ := m6.r.shape
  obtain ⟨ja1, jk1, rfl, _⟩ := m6.c.shape
  obtain ⟨ja2, jk2, rfl, _⟩ := m6.i.shape
  obtain ⟨ja3, jk3, rfl, _⟩ := m6.o.shape
  have WN : Hid (Below t6.heap.size t6 (t6.alloc (.cells #[.int .i64 x3, (.slice ja0 G.regs.length jk0), .int .i64 G.pc, (.slice ja1 G.csr.length jk1), .bool G.halted, .bool G.waiting, .bool G.rung, .int .i64 G.done, (.slice ja2 G.inn.length jk2), (.slice ja3 G.out.length jk3)] 43))) := al (Below.refl _ _) _
  have H6 : Hid (Hm (t6.alloc (.cells #[.int .i64 x3, (.slice ja0 G.regs.length jk0), .int .i64 G.pc, (.slice ja1 G.csr.length jk1), .bool G.halted, .bool G.waiting, .bool G.rung, .int .i64 G.done, (.slice ja2 G.inn.length jk2), (.slice ja3 G.out.length jk3)] 43)) _ (.slice ja0 G.regs.length jk0) (.slice ja1 G.csr.length jk1) (.slice ja2 G.inn.length jk2) (.slice ja3 G.out.length jk3) G) := m6.keep WN.out
  have Bt6 : Hid (Below _ w t6) := on Bt4.out b7
  have Gt6 : Hid (Vb t6 s5 _ _) := Gt4.out.keep b7
  have Nt6 : Hid (Hm t6 _ (.slice za0 G.regs.length zk0) (.slice za1 G.csr.length zk1) (.slice za2 G.inn.length zk2) (.slice za3 G.out.length zk3) G) := Nt4.out.keep b7
  have Ot6 : Hid (Hm t6 _ (.slice ga0 G.regs.length gk0) (.slice ga1 G.csr.length gk1) (.slice ga2 G.inn.length gk2) (.slice ga3 G.out.length gk3) (mkH 1 G)) := Ot4.out.keep b7
  have Yt6 := Yt4.out.keep b7
  have l6 : s3 < t6.heap.size := Yt6.lt
  have y0 := Yt6.cell 0 rfl
  have y1 := Yt6.cell 1 rfl
  have y2 := Yt6.cell 2 rfl
  have y3 := Yt6.cell 3 rfl
  have y4 := Yt6.cell 4 rfl
  have y5 := Yt6.cell 5 rfl
  have y6 := Yt6.cell 6 rfl
  have y7 := Yt6.cell 7 rfl
  have y8 := Yt6.cell 8 rfl
  have y9 := Yt6.cell 9 rfl
  clear b7 Yt6 A6 m6
  go_wp2_with fail
  refine (eq_hres _ _ _ _ _ _ _ _ _ G _ _ _ H6.out (Nt6.out.keep WN.out)).mono ?_
  rintro e t7 ⟨rfl, b8⟩
  have b7 := on WN.out b8
  clear b8 y0 y1 y2 y3 y4 y5 y6 y7 y8 y9 l6
  have Bt7 : Hid (Below _ w t7) := on Bt6.out b7
  have Ot7 : Hid (Hm t7 _ (.slice ga0 G.regs.length gk0) (.slice ga1 G.csr.length gk1) (.slice ga2 G.inn.length gk2) (.slice ga3 G.out.length gk3) (mkH 1 G)) := Ot6.out.keep b7
  have Gt7 := Gt6.out.keep b7
  clear b7
  have g0 := Gt7.cell 0 rfl
  have g1 := Gt7.cell 1 rfl
  have g2 := Gt7.cell 2 rfl
  have g3 := Gt7.cell 3 rfl
  have g4 := Gt7.cell 4 rfl
  have g5 := Gt7.cell 5 rfl
  have g6 := Gt7.cell 6 rfl
  have g7 := Gt7.cell 7 rfl
  have g8 := Gt7.cell 8 rfl
  have g9 := Gt7.cell 9 rfl
  clear Gt7
  go_wp2_with fail
  refine (held_hres _ _ _ _ _ G 1 _ _ Ot7.out (by decide) HT.out).mono ?_
  rintro e t8 ⟨rfl, b8⟩
  rw [HT2.out]
  go_wp2_with fail
  go_ret
  exact ⟨rfl, on Bt7.out b8⟩

set_option maxRecDepth 100000 in
theorem lifted (os : Os) (started : os.Started) (H : Type) (enc : TypeId × Value → H) :
    ReturnsInHanded {} Try.checked os 6 .any (Rows.fnExactNewHartSpec.pre6 enc Try.prog Try.f6 Rows.fnExactNewHartRow.domain false) (Rows.fnExactNewHartSpec.post enc Try.prog Try.f6 false true false false) := by
  refine returnsInHanded_of_change (C := Try.checked) own started (by kernel_rfl) Try.func6
    (ChangeSpec.witness6 (enc := enc) (C := Try.checked) false ⟨#[], #[.slice none 0 0], []⟩ 8 (by kernel_rfl) (by kernel_rfl) (by kernel_rfl) (by kernel_rfl)) ?_
  intro W base args ds gs before hval0 hW hcnd _
  have hval : ∀ (j : Nat) t v, Try.f6.params[j]? = some t → args[j]? = some v → Value.okWide Try.prog W .any base t v := hval0
  have hW' := hW
  obtain ⟨p, q, hA0, hV, rfl, hfz, hnd⟩ := hW
  have hA : DataW.TrodAll enc Try.prog W 0 (fun _ => true) true Try.f6.params.toList args.toList ds p := hA0
  rw [Try.params6] at hA hval
  obtain ⟨v0, vs0, d0, ds0, p0, q0, hargs, rfl, rfl, h0, r0⟩ := trodAll_cons hA
  obtain ⟨rfl, rfl, rfl⟩ := trodAll_nil r0
  obtain rfl : args = #[v0] := by cases args; simp_all
  obtain ⟨rfl, rfl⟩ := trodVars_none hV
  obtain ⟨a0, len0, cap0, rfl⟩ := okWide_slice Try.underlying37 (hval 0 37 v0 rfl rfl)
  have k0 := h0
  have lt0 : ∀ x ∈ p0, x.block < W.heap.size := by obtain ⟨m, hm⟩ := k0; exact DataW.trod_lt m _ _ _ hm
  obtain ⟨z0, w0⟩ : ∃ zs, IsRow .i64 W a0 len0 cap0 zs := by
    obtain ⟨fuel, hf⟩ := h0
    rcases open_ints Try.underlying37 Try.underlying2 (by kernel_rfl) hf with ⟨hcs, _⟩ | ⟨x, l, c, zs, hcs, _, hl, hm, hz, _, hcell, hwz⟩
    · simp [Value.cells] at hcs
      obtain ⟨rfl, rfl, rfl⟩ := hcs
      exact ⟨[], .inl ⟨rfl, rfl, rfl, rfl⟩⟩
    · simp [Value.cells] at hcs
      obtain ⟨rfl, rfl, rfl⟩ := hcs
      exact ⟨_, IsRow.of_all hl hm (by simpa using hz) hcell hwz⟩
  clear hA0 hval0
  refine (walk a0 len0 cap0 z0 W w0).mono fun e W' ⟨he, bel⟩ => ?_
  subst he
  exact ⟨_, rfl, _, _, _, [], _, [], hW', trodAll_mk1 (shut_bool Try.underlying4 _), (trodAll_cons_mk (Below.trod laidOut (by kernel_rfl) (of_decide_eq_true (by kernel_rfl)) k0 bel lt0) trodAll_mk0), rfl, bel.frame _, fun h => by cases h⟩

theorem over : Rows.fnExactNewHartRow.holds Try.pinned (OpenSpec.ofChange Rows.fnExactNewHartSpec) :=
  OpenClaim.holds_of_wide 6 Try.f6 rfl rfl rfl rfl rfl rfl rfl ⟨rfl, rfl, rfl, rfl, rfl⟩ rfl rfl rfl rfl rfl (by kernel_rfl) Try.func6 (by kernel_rfl)
    (of_decide_eq_true (by kernel_rfl)) (by unfold Func.isWrapper; first | (rw [if_pos (by decide +kernel)]; kernel_rfl) | (rw [if_neg (by decide +kernel)]; exact ⟨rfl, rfl⟩))
    (fun os started H enc _ => lifted os started H enc)

theorem proved : Rows.FnExactNewHartSaid := over
end Go.Proofs.Ytedilhlcflmgjaa.fnExactNewHartDone
