/- Texts of this seat, joined. -/
import Derived.Deep.RegionHeld3
import Derived.Test.YtaefollmeoepkaaGreatDoorQ40
import Derived.Test.YtaefollmeoepkaaGreatDoorQ46
namespace Go.Proofs.YtaefollmeoepkaaGreatDoor
open Go.RowKit
set_option linter.unusedVariables false
theorem lits6b (w : World) (x0 x1 x2 x3 x4 x5 : Int) (t : TypeId) (P : Int → Prop) (h : P x0 ∧ P x1 ∧ P x2 ∧ P x3 ∧ P x4 ∧ P x5) : ∀ i, i < 6 → ∃ v : Int, (w.alloc (.cells #[.int .i64 x0, .int .i64 x1, .int .i64 x2, .int .i64 x3, .int .i64 x4, .int .i64 x5] t)).cell? ⟨w.heap.size, i, none⟩ = some (.int .i64 v) ∧ P v := by
  intro i hi
  have e : i = 0 ∨ i = 1 ∨ i = 2 ∨ i = 3 ∨ i = 4 ∨ i = 5 := by omega
  rcases e with rfl | rfl | rfl | rfl | rfl | rfl
  · exact ⟨x0, cell_new rfl, h.1⟩
  · exact ⟨x1, cell_new rfl, h.2.1⟩
  · exact ⟨x2, cell_new rfl, h.2.2.1⟩
  · exact ⟨x3, cell_new rfl, h.2.2.2.1⟩
  · exact ⟨x4, cell_new rfl, h.2.2.2.2.1⟩
  · exact ⟨x5, cell_new rfl, h.2.2.2.2.2⟩
set_option maxRecDepth 20000 in
set_option maxHeartbeats 16000000 in
theorem drawStepMany {w : World} {a : Option Addr} {len cap : Nat} {zs : List Int} (hr : IsRow .u8 w a len cap zs) :
    Calls Tryz.prog 12 #[.slice a len cap] w fun e w' => ∃ a0 m0 k0 a1 m1 k1 a2 m2 k2 a3 m3 k3 H la ln lk ma mn mk, ∃ x1 : Int, e = .returned (.tuple #[.agg #[.slice a0 m0 k0, .int .i64 H.pc, .slice a1 m1 k1, .bool H.halted, .bool H.waiting, .bool H.rung, .int .i64 H.done, .slice a2 m2 k2, .slice a3 m3 k3], .slice la ln lk, .slice ma mn mk, .int .i64 x1]) ∧ Hz w' w.heap.size a0 m0 k0 a1 m1 k1 a2 m2 k2 a3 m3 k3 H ∧ Drawn8 w' w.heap.size (.slice la ln lk) ∧ DrawnM w' w.heap.size (.slice ma mn mk) ∧ Below w.heap.size w w' ∧ -1 ≤ x1 ∧ x1 ≤ 501 := by
  obtain ⟨R, hR⟩ : ∃ R, w.heap.size = R := ⟨_, rfl⟩
  have HR : Hid (w.heap.size = R) := hR
  obtain ⟨b, hb⟩ : ∃ b, (w.alloc (.cells #[.slice none 0 0, .int .i64 0, .slice none 0 0, .bool false, .bool false, .bool false, .int .i64 0, .slice none 0 0, .slice none 0 0] 26)).heap.size = b := ⟨_, rfl⟩
  have HB : Hid (R < b) := by show _ < _; rw [← hb, ← hR]; simp
  have TW : Hid (Below w.heap.size w (w.alloc (.cells #[.slice none 0 0, .int .i64 0, .slice none 0 0, .bool false, .bool false, .bool false, .int .i64 0, .slice none 0 0, .slice none 0 0] 26))) := (Below.refl _ _).alloc (Nat.le_refl _) _
  have VW : Hid (Vb (w.alloc (.cells #[.slice none 0 0, .int .i64 0, .slice none 0 0, .bool false, .bool false, .bool false, .int .i64 0, .slice none 0 0, .slice none 0 0] 26)) R #[.slice none 0 0, .int .i64 0, .slice none 0 0, .bool false, .bool false, .bool false, .int .i64 0, .slice none 0 0, .slice none 0 0] 26) := by show Vb _ _ _ _; rw [← hR]; exact Vb.new _ _ _
  have RW : Hid (IsRow .u8 (w.alloc (.cells #[.slice none 0 0, .int .i64 0, .slice none 0 0, .bool false, .bool false, .bool false, .int .i64 0, .slice none 0 0, .slice none 0 0] 26)) a len cap zs) := hr.below TW.out
  clear hr
  go_enter Tryz.func12, Tryz.ntmps12
  go_wp2_with fail
  generalize w.alloc (.cells #[.slice none 0 0, .int .i64 0, .slice none 0 0, .bool false, .bool false, .bool false, .int .i64 0, .slice none 0 0, .slice none 0 0] 26) = W at *
  refine (source_any RW.out).mono ?_
  rintro e w1 ⟨rfl, b1, s1⟩
  have V1 : Hid (Vb w1 R #[.slice none 0 0, .int .i64 0, .slice none 0 0, .bool false, .bool false, .bool false, .int .i64 0, .slice none 0 0, .slice none 0 0] 26) := VW.out.keep b1
  have B1 : Hid (Below w.heap.size w w1) := TW.out.trans (b1.mono TW.out.size)
  rw [hb] at s1 b1 ⊢
  have S1 : Hid (Src w1 b 0 a len cap zs) := s1
  clear s1 b1 hb hR
  go_wp2_with fail
  refine (world_any S1.out (by decide)).mono ?_
  rintro e w2 ⟨a0, m0, k0, a1, m1, k1, a2, m2, k2, a3, m3, k3, H, vl, vm, rfl, hz, hl, hm, t2, k', hk', s2⟩
  obtain ⟨la, ln, lk, rfl⟩ := hl.drawn.shape
  obtain ⟨ma, mn, mk, rfl⟩ := drawnM_shape hm
  have KB : Hid (k' ≤ 10000) := hk'
  obtain ⟨q, hq⟩ : ∃ q, w2.heap.size = q := ⟨_, rfl⟩
  have D0 : Hid (Dy w (w2.alloc (.cells #[.slice a0 m0 k0, .int .i64 H.pc, .slice a1 m1 k1, .bool H.halted, .bool H.waiting, .bool H.rung, .int .i64 H.done, .slice a2 m2 k2, .slice a3 m3 k3] 26)) R b (k') a len cap zs q a0 m0 k0 a1 m1 k1 a2 m2 k2 a3 m3 k3 H la ln lk ma mn mk) := by
    have hRR := HR.out; have hBR := HB.out; have hh := S1.out.here; have ht := t2.size
    have ta : Turn b w2 (w2.alloc (.cells #[.slice a0 m0 k0, .int .i64 H.pc, .slice a1 m1 k1, .bool H.halted, .bool H.waiting, .bool H.rung, .int .i64 H.done, .slice a2 m2 k2, .slice a3 m3 k3] 26)) := Turn.alloc _ _ _
    exact ⟨s2.alloc _, (hz.mono (by omega)).turn ta (by omega), (hl.mono (by omega)).turn ta (by omega), (hm.monoW (by omega)).turnW ta (by omega), by rw [← hq]; exact Vb.new _ _ _, ((turn_mq t2).vb V1.out (fun e => by omega)).push _, (B1.out.trans (t2.below (by omega) B1.out.size)).trans (al (Below.refl _ _) _ |>.mono (by have := B1.out.size; omega)), by omega, hBR, by omega⟩
  clear hz hl hm t2 hk' s2
  go_wp2_with fail
  generalize w2.alloc (.cells #[.slice a0 m0 k0, .int .i64 H.pc, .slice a1 m1 k1, .bool H.halted, .bool H.waiting, .bool H.rung, .int .i64 H.done, .slice a2 m2 k2, .slice a3 m3 k3] 26) = W2 at *
  clear hq
  go_upto_region 3 with fail
  have DR : Hid (Dy w W2.drew R b (k') a len cap zs q a0 m0 k0 a1 m1 k1 a2 m2 k2 a3 m3 k3 H la ln lk ma mn mk) := D0.out.turn (Turn.of_below (Below.refl _ _).drew) (D0.out.src.turn (Turn.of_below (b := W2.heap.size) (Below.refl _ _).drew) (Nat.le_refl _))
  refine wp_region_held (S := fun w' => Vb w' q #[.slice a0 m0 k0, .int .i64 H.pc, .slice a1 m1 k1, .bool H.halted, .bool H.waiting, .bool H.rung, .int .i64 H.done, .slice a2 m2 k2, .slice a3 m3 k3] 26) (by kernel_rfl) ?_
  change wpAnyH _ _ _ _ _ _ _ _ (World.drew _)
  generalize W2.drew = v1 at *
  have SD : Hid (Vb v1 q #[.slice a0 m0 k0, .int .i64 H.pc, .slice a1 m1 k1, .bool H.halted, .bool H.waiting, .bool H.rung, .int .i64 H.done, .slice a2 m2 k2, .slice a3 m3 k3] 26) := DR.out.var
  refine wpTk (i := 0) (v := .agg #[.slice a0 m0 k0, .int .i64 H.pc, .slice a1 m1 k1, .bool H.halted, .bool H.waiting, .bool H.rung, .int .i64 H.done, .slice a2 m2 k2, .slice a3 m3 k3]) rfl (yieldsIf_load_mid (by rfl) 26 (.tmp 7) rfl q 0 rfl [.slice a0 m0 k0, .int .i64 H.pc, .slice a1 m1 k1, .bool H.halted, .bool H.waiting, .bool H.rung, .int .i64 H.done, .slice a2 m2 k2, .slice a3 m3 k3] _ (fun w' hs => vb_rangeW hs) Tryz.underlying26 rfl (by kernel_rfl)) SD.out ?_
  change wpAnyH _ _ _ _ _ _ _ (Act.put _ (some 18) _) _
  simp only [Act.put, zT, zZ, zS]
  refine wpTk (i := 1) (v := (.slice la ln lk)) rfl (Or.inl ⟨by rfl, fun w' hs => by go_simp⟩) SD.out ?_
  change wpAnyH _ _ _ _ _ _ _ (Act.put _ (some 19) _) _
  simp only [Act.put, zT, zZ, zS]
  refine wpTk (i := 2) (v := (.slice ma mn mk)) rfl (Or.inl ⟨by rfl, fun w' hs => by go_simp⟩) SD.out ?_
  change wpAnyH _ _ _ _ _ _ _ (Act.put _ (some 20) _) _
  simp only [Act.put, zT, zZ, zS]
  refine wpTk (i := 3) (v := .pointer (some ⟨b, 0, none⟩)) rfl (Or.inl ⟨by rfl, fun w' hs => by go_simp⟩) SD.out ?_
  change wpAnyH _ _ _ _ _ _ _ (Act.put _ (some 21) _) _
  simp only [Act.put, zT, zZ, zS]
  refine wpTk (i := 4) (v := .pointer (some ⟨b, 0, none⟩)) rfl (Or.inl ⟨by rfl, fun w' hs => by go_simp⟩) SD.out ?_
  change wpAnyH _ _ _ _ _ _ _ (Act.put _ (some 22) _) _
  simp only [Act.put, zT, zZ, zS]
  refine wpTk (i := 6) (v := .pointer (some ⟨b, 0, none⟩)) rfl (Or.inl ⟨by rfl, fun w' hs => by go_simp⟩) SD.out ?_
  change wpAnyH _ _ _ _ _ _ _ (Act.put _ (some 24) _) _
  simp only [Act.put, zT, zZ, zS]
  refine zR 5 rfl fun K hK => ?_
  rw [if_pos (by rfl)]
  go_simp
  refine (next_any DR.out.src (by have := KB.out; omega) _).mono ?_
  rintro e u2 ⟨y1, rfl, hy1, -, t1, s1⟩
  obtain ⟨y1a, y1b⟩ := hy1 (by decide)
  have D2 : Hid (Dy w u2 R b (k' + 1) a len cap zs q a0 m0 k0 a1 m1 k1 a2 m2 k2 a3 m3 k3 H la ln lk ma mn mk) := DR.out.turn t1 s1
  clear t1 s1 hy1
  refine hK.out _ _ D2.out.var (fun _ => ?_)
  clear hK K
  refine zR 7 rfl fun K hK => ?_
  rw [if_pos (by rfl)]
  go_simp
  refine (next_any D2.out.src (by have := KB.out; omega) _).mono ?_
  rintro e u3 ⟨y2, rfl, hy2, -, t1, s1⟩
  obtain ⟨y2a, y2b⟩ := hy2 (by decide)
  have D3 : Hid (Dy w u3 R b (k' + 1 + 1) a len cap zs q a0 m0 k0 a1 m1 k1 a2 m2 k2 a3 m3 k3 H la ln lk ma mn mk) := D2.out.turn t1 s1
  clear t1 s1 hy2
  refine hK.out _ _ D3.out.var (fun _ => ?_)
  clear hK K
  refine zR 8 rfl fun K hK => ?_
  rw [if_pos (by rfl)]
  go_simp
  have D4 : Hid (Dy w (u3.alloc (.cells #[.int .i64 y1, .int .i64 y2, .int .i64 0, .int .i64 500, .int .i64 501, .int .i64 (-1)] 2)) R b (k' + 1 + 1) a len cap zs q a0 m0 k0 a1 m1 k1 a2 m2 k2 a3 m3 k3 H la ln lk ma mn mk) := D3.out.turn (Turn.alloc _ _ _) (D3.out.src.alloc _)
  refine hK.out _ _ D4.out.var (fun _ => ?_)
  clear hK K
  refine zR 9 rfl fun K hK => ?_
  rw [if_pos (by rfl)]
  go_simp
  refine (pick_any D4.out.src (by have := KB.out; omega) (fun z => -1 ≤ z ∧ z ≤ 501) _ 6 (by decide) (by decide) (by simp) (by have := D3.out.src.here; omega) (lits6b _ _ _ _ _ _ _ _ _ ⟨by omega, by omega, by omega, by omega, by omega, by omega⟩)).mono ?_
  rintro e u5 ⟨x1, rfl, hx1, t1, s1⟩
  have X1 : Hid (-1 ≤ x1 ∧ x1 ≤ 501) := hx1
  have D5 : Hid (Dy w u5 R b (k' + 1 + 1 + 1) a len cap zs q a0 m0 k0 a1 m1 k1 a2 m2 k2 a3 m3 k3 H la ln lk ma mn mk) := D4.out.turn t1 s1
  clear t1 s1 hx1 y1a y1b y2a y2b
  refine hK.out _ _ D5.out.var (fun _ => ?_)
  clear hK K
  refine zR 10 rfl fun K hK => ?_
  rw [if_pos (by rfl)]
  refine wp_store_mid 26 (.tmp 2) (.tmp 18) rfl R 0 #[.slice a0 m0 k0, .int .i64 H.pc, .slice a1 m1 k1, .bool H.halted, .bool H.waiting, .bool H.rung, .int .i64 H.done, .slice a2 m2 k2, .slice a3 m3 k3] rfl rfl (D5.out.res.there 9 (by decide)) (by kernel_rfl) (by simp [Value.oneCell']) ?_
  change K (Act.put _ none undef) (World.setCells u5 R 0 [.slice a0 m0 k0, .int .i64 H.pc, .slice a1 m1 k1, .bool H.halted, .bool H.waiting, .bool H.rung, .int .i64 H.done, .slice a2 m2 k2, .slice a3 m3 k3])
  simp only [Act.put]
  have R5 : Hid ((u5.setCells R 0 [.slice a0 m0 k0, .int .i64 H.pc, .slice a1 m1 k1, .bool H.halted, .bool H.waiting, .bool H.rung, .int .i64 H.done, .slice a2 m2 k2, .slice a3 m3 k3]).rangeAt R 0 [.slice a0 m0 k0, .int .i64 H.pc, .slice a1 m1 k1, .bool H.halted, .bool H.waiting, .bool H.rung, .int .i64 H.done, .slice a2 m2 k2, .slice a3 m3 k3]) := World.rangeAt_setCells_same _ _ _ _ (D5.out.res.there 9 (by decide))
  have M5 : Hid (Mq (fun k => k = R) u5 (u5.setCells R 0 [.slice a0 m0 k0, .int .i64 H.pc, .slice a1 m1 k1, .bool H.halted, .bool H.waiting, .bool H.rung, .int .i64 H.done, .slice a2 m2 k2, .slice a3 m3 k3])) := mq_cells R _ u5 0
  generalize u5.setCells R 0 [.slice a0 m0 k0, .int .i64 H.pc, .slice a1 m1 k1, .bool H.halted, .bool H.waiting, .bool H.rung, .int .i64 H.done, .slice a2 m2 k2, .slice a3 m3 k3] = u6 at *
  have S6 : Hid (Vb u6 q #[.slice a0 m0 k0, .int .i64 H.pc, .slice a1 m1 k1, .bool H.halted, .bool H.waiting, .bool H.rung, .int .i64 H.done, .slice a2 m2 k2, .slice a3 m3 k3] 26) := M5.out.vb D5.out.var (by have := D5.out.hb; have := D5.out.hq; omega)
  refine hK.out _ _ S6.out (fun _ => ?_)
  clear hK K
  refine wpTk (i := 11) (v := (.slice la ln lk)) rfl (Or.inl ⟨by rfl, fun w' hs => by go_simp⟩) S6.out ?_
  change wpAnyH _ _ _ _ _ _ _ (Act.put _ (some 3) _) _
  simp only [Act.put, zT, zZ, zS]
  refine wpTk (i := 12) (v := (.slice ma mn mk)) rfl (Or.inl ⟨by rfl, fun w' hs => by go_simp⟩) S6.out ?_
  change wpAnyH _ _ _ _ _ _ _ (Act.put _ (some 4) _) _
  simp only [Act.put, zT, zZ, zS]
  refine wpTk (i := 13) (v := .int .i64 x1) rfl (Or.inl ⟨by rfl, fun w' hs => by go_simp⟩) S6.out ?_
  change wpAnyH _ _ _ _ _ _ _ (Act.put _ (some 5) _) _
  simp only [Act.put, zT, zZ, zS]
  refine wpAnyH_done (by kernel_rfl) ?_ _
  go_wp2_with fail
  have y0 : u6.cell? ⟨R, 0, none⟩ = _ := R5.out 0 _ rfl
  have y1 : u6.cell? ⟨R, 1, none⟩ = _ := R5.out 1 _ rfl
  have y2 : u6.cell? ⟨R, 2, none⟩ = _ := R5.out 2 _ rfl
  have y3 : u6.cell? ⟨R, 3, none⟩ = _ := R5.out 3 _ rfl
  have y4 : u6.cell? ⟨R, 4, none⟩ = _ := R5.out 4 _ rfl
  have y5 : u6.cell? ⟨R, 5, none⟩ = _ := R5.out 5 _ rfl
  have y6 : u6.cell? ⟨R, 6, none⟩ = _ := R5.out 6 _ rfl
  have y7 : u6.cell? ⟨R, 7, none⟩ = _ := R5.out 7 _ rfl
  have y8 : u6.cell? ⟨R, 8, none⟩ = _ := R5.out 8 _ rfl
  have hb := D5.out.hb
  have hR := D5.out.hR
  have hs := D5.out.g.size
  exact bodyPost_ret (v := .tuple #[.agg #[.slice a0 m0 k0, .int .i64 H.pc, .slice a1 m1 k1, .bool H.halted, .bool H.waiting, .bool H.rung, .int .i64 H.done, .slice a2 m2 k2, .slice a3 m3 k3], .slice la ln lk, .slice ma mn mk, .int .i64 x1]) (by simp [results, Tryz.results12, go_sem, y0, y1, y2, y3, y4, y5, y6, y7, y8]) rfl
    ⟨_, _, _, _, _, _, _, _, _, _, _, _, H, _, _, _, _, _, _, _, rfl, (D5.out.fin M5.out).1, (D5.out.fin M5.out).2.1, (D5.out.fin M5.out).2.2.1, (D5.out.fin M5.out).2.2.2, X1.out.1, X1.out.2⟩
set_option maxRecDepth 20000 in
set_option maxHeartbeats 4000000 in
theorem ib_many (a0 : Option Addr) (m0 k0 : Nat) (a1 : Option Addr) (m1 k1 : Nat) (a2 : Option Addr) (m2 k2 : Nat) (a3 : Option Addr) (m3 k3 : Nat) (H : Ht) (la : Option Addr) (ln lk : Nat) (ma : Option Addr) (mn mk : Nat) (c : Int) (n : Int) (w : World) (hs : Sees w a0 m0 k0 a1 m1 k1 a2 m2 k2 a3 m3 k3 H la ln lk ma mn mk c) (hc : c ≠ 0) :
    Calls Tryz.prog 13 #[.agg #[.slice a0 m0 k0, .int .i64 H.pc, .slice a1 m1 k1, .bool H.halted, .bool H.waiting, .bool H.rung, .int .i64 H.done, .slice a2 m2 k2, .slice a3 m3 k3], .slice la ln lk, .slice ma mn mk, .int .i64 n] w fun e w' => e = .returned (.agg #[.int .i64 c, .int .i64 0, .int .i64 0, .slice none 0 0, .int .i64 0, .slice none 0 0, .bool false, .bool false, .bool false, .int .i64 0, .slice none 0 0, .slice none 0 0, .slice none 0 0]) ∧ Below w.heap.size w w' := by
  have SS : Hid (Sees w a0 m0 k0 a1 m1 k1 a2 m2 k2 a3 m3 k3 H la ln lk ma mn mk c) := hs
  have hc2 : (c != 0) = true := by simpa using hc
  clear hs hc
  generalize hW : (w.alloc (.cells #[.slice a0 m0 k0, .int .i64 H.pc, .slice a1 m1 k1, .bool H.halted, .bool H.waiting, .bool H.rung, .int .i64 H.done, .slice a2 m2 k2, .slice a3 m3 k3] 26)).alloc (.cells #[.int .i64 0, .int .i64 0, .int .i64 0, .slice none 0 0, .int .i64 0, .slice none 0 0, .bool false, .bool false, .bool false, .int .i64 0, .slice none 0 0, .slice none 0 0, .slice none 0 0] 31) = W
  have B0 : Hid (Below w.heap.size w W) := by show Below _ _ _; rw [← hW]; exact al (al (Below.refl _ _) _) _
  obtain ⟨s, hS⟩ : ∃ s, w.heap.size = s := ⟨_, rfl⟩
  have HS : Hid (w.heap.size = s) := hS
  have VA : Hid (Vb W s #[.slice a0 m0 k0, .int .i64 H.pc, .slice a1 m1 k1, .bool H.halted, .bool H.waiting, .bool H.rung, .int .i64 H.done, .slice a2 m2 k2, .slice a3 m3 k3] 26) := by
    show Vb _ _ _ _; rw [← hW, ← hS]; exact (Vb.new _ _ _).push _
  have VR : Hid (Vb W (s + 1) #[.int .i64 0, .int .i64 0, .int .i64 0, .slice none 0 0, .int .i64 0, .slice none 0 0, .bool false, .bool false, .bool false, .int .i64 0, .slice none 0 0, .slice none 0 0, .slice none 0 0] 31) := by
    have z1 : s + 1 = (w.alloc (.cells #[.slice a0 m0 k0, .int .i64 H.pc, .slice a1 m1 k1, .bool H.halted, .bool H.waiting, .bool H.rung, .int .i64 H.done, .slice a2 m2 k2, .slice a3 m3 k3] 26)).heap.size := by rw [← hS]; simp
    show Vb _ _ _ _; rw [← hW, z1]; exact Vb.new _ _ _
  have q0 := VA.out.cell 0 rfl
  have q1 := VA.out.cell 1 rfl
  have q2 := VA.out.cell 2 rfl
  have q3 := VA.out.cell 3 rfl
  have q4 := VA.out.cell 4 rfl
  have q5 := VA.out.cell 5 rfl
  have q6 := VA.out.cell 6 rfl
  have q7 := VA.out.cell 7 rfl
  have q8 := VA.out.cell 8 rfl
  go_enter Tryz.func13, Tryz.ntmps13
  go_wp2_with fail
  clear hW hS q0 q1 q2 q3 q4 q5 q6 q7 q8
  refine (SS.out.1 W B0.out).mono ?_
  rintro e w1 ⟨rfl, b1⟩
  have B1 : Hid (Below w.heap.size w w1) := on B0.out b1
  have VR1 : Hid (Vb w1 (s + 1) #[.int .i64 0, .int .i64 0, .int .i64 0, .slice none 0 0, .int .i64 0, .slice none 0 0, .bool false, .bool false, .bool false, .int .i64 0, .slice none 0 0, .slice none 0 0, .slice none 0 0] 31) := VR.out.keep b1
  clear b1 VA VR
  have p0 := VR1.out.cell 0 rfl
  have p1 := VR1.out.cell 1 rfl
  have p2 := VR1.out.cell 2 rfl
  have p3 := VR1.out.cell 3 rfl
  have p4 := VR1.out.cell 4 rfl
  have p5 := VR1.out.cell 5 rfl
  have p6 := VR1.out.cell 6 rfl
  have p7 := VR1.out.cell 7 rfl
  have p8 := VR1.out.cell 8 rfl
  have p9 := VR1.out.cell 9 rfl
  have p10 := VR1.out.cell 10 rfl
  have p11 := VR1.out.cell 11 rfl
  have p12 := VR1.out.cell 12 rfl
  have f0 := VR1.out.free 0
  have f1 := VR1.out.free 1
  have f2 := VR1.out.free 2
  have f3 := VR1.out.free 3
  have f4 := VR1.out.free 4
  have f5 := VR1.out.free 5
  have f6 := VR1.out.free 6
  have f7 := VR1.out.free 7
  have f8 := VR1.out.free 8
  have f9 := VR1.out.free 9
  have f10 := VR1.out.free 10
  have f11 := VR1.out.free 11
  have f12 := VR1.out.free 12
  go_wp2_with fail
  have NN : Hid (_ ∧ _) := thirteenX VR1.out (.int .i64 c) (.int .i64 0) (.int .i64 0) (.slice none 0 0) (.int .i64 0) (.slice none 0 0) (.bool false) (.bool false) (.bool false) (.int .i64 0) (.slice none 0 0) (.slice none 0 0) (.slice none 0 0)
  clear p0 f0 p1 f1 p2 f2 p3 f3 p4 f4 p5 f5 p6 f6 p7 f7 p8 f8 p9 f9 p10 f10 p11 f11 p12 f12
  generalize (((((((((((((w1.setCell ⟨s + 1, 0, none⟩ (.int .i64 c)).setCell ⟨s + 1, 1, none⟩ (.int .i64 0)).setCell ⟨s + 1, 2, none⟩ (.int .i64 0)).setCell ⟨s + 1, 3, none⟩ (.slice none 0 0)).setCell ⟨s + 1, 4, none⟩ (.int .i64 0)).setCell ⟨s + 1, 5, none⟩ (.slice none 0 0)).setCell ⟨s + 1, 6, none⟩ (.bool false)).setCell ⟨s + 1, 7, none⟩ (.bool false)).setCell ⟨s + 1, 8, none⟩ (.bool false)).setCell ⟨s + 1, 9, none⟩ (.int .i64 0)).setCell ⟨s + 1, 10, none⟩ (.slice none 0 0)).setCell ⟨s + 1, 11, none⟩ (.slice none 0 0)).setCell ⟨s + 1, 12, none⟩ (.slice none 0 0)) = V at *
  have x0 := NN.out.1.cell 0 rfl
  have x1 := NN.out.1.cell 1 rfl
  have x2 := NN.out.1.cell 2 rfl
  have x3 := NN.out.1.cell 3 rfl
  have x4 := NN.out.1.cell 4 rfl
  have x5 := NN.out.1.cell 5 rfl
  have x6 := NN.out.1.cell 6 rfl
  have x7 := NN.out.1.cell 7 rfl
  have x8 := NN.out.1.cell 8 rfl
  have x9 := NN.out.1.cell 9 rfl
  have x10 := NN.out.1.cell 10 rfl
  have x11 := NN.out.1.cell 11 rfl
  have x12 := NN.out.1.cell 12 rfl
  exact bodyPost_ret (v := .agg #[.int .i64 c, .int .i64 0, .int .i64 0, .slice none 0 0, .int .i64 0, .slice none 0 0, .bool false, .bool false, .bool false, .int .i64 0, .slice none 0 0, .slice none 0 0, .slice none 0 0]) (by simp [results, Tryz.results13, go_sem, x0, x1, x2, x3, x4, x5, x6, x7, x8, x9, x10, x11, x12]) rfl
    ⟨rfl, Mq.under B1.out NN.out.2 fun k e => by have := HS.out; omega⟩
set_option maxRecDepth 20000 in
set_option maxHeartbeats 4000000 in
theorem sb_many (a0 : Option Addr) (m0 k0 : Nat) (a1 : Option Addr) (m1 k1 : Nat) (a2 : Option Addr) (m2 k2 : Nat) (a3 : Option Addr) (m3 k3 : Nat) (H : Ht) (la : Option Addr) (ln lk : Nat) (ma : Option Addr) (mn mk : Nat) (c : Int) (n : Int) (w : World) (hs : Sees w a0 m0 k0 a1 m1 k1 a2 m2 k2 a3 m3 k3 H la ln lk ma mn mk c) (hc : c ≠ 0) :
    Calls Tryz.prog 14 #[.agg #[.slice a0 m0 k0, .int .i64 H.pc, .slice a1 m1 k1, .bool H.halted, .bool H.waiting, .bool H.rung, .int .i64 H.done, .slice a2 m2 k2, .slice a3 m3 k3], .slice la ln lk, .slice ma mn mk, .int .i64 n] w fun e w' => e = .returned (.agg #[.int .i64 c, .int .i64 0, .int .i64 0, .slice none 0 0, .int .i64 0, .slice none 0 0, .bool false, .bool false, .bool false, .int .i64 0, .slice none 0 0, .slice none 0 0, .slice none 0 0]) ∧ Below w.heap.size w w' := by
  have SS : Hid (Sees w a0 m0 k0 a1 m1 k1 a2 m2 k2 a3 m3 k3 H la ln lk ma mn mk c) := hs
  have hc2 : (c != 0) = true := by simpa using hc
  clear hs hc
  generalize hW : (w.alloc (.cells #[.slice a0 m0 k0, .int .i64 H.pc, .slice a1 m1 k1, .bool H.halted, .bool H.waiting, .bool H.rung, .int .i64 H.done, .slice a2 m2 k2, .slice a3 m3 k3] 26)).alloc (.cells #[.int .i64 0, .int .i64 0, .int .i64 0, .slice none 0 0, .int .i64 0, .slice none 0 0, .bool false, .bool false, .bool false, .int .i64 0, .slice none 0 0, .slice none 0 0, .slice none 0 0] 31) = W
  have B0 : Hid (Below w.heap.size w W) := by show Below _ _ _; rw [← hW]; exact al (al (Below.refl _ _) _) _
  obtain ⟨s, hS⟩ : ∃ s, w.heap.size = s := ⟨_, rfl⟩
  have HS : Hid (w.heap.size = s) := hS
  have VA : Hid (Vb W s #[.slice a0 m0 k0, .int .i64 H.pc, .slice a1 m1 k1, .bool H.halted, .bool H.waiting, .bool H.rung, .int .i64 H.done, .slice a2 m2 k2, .slice a3 m3 k3] 26) := by
    show Vb _ _ _ _; rw [← hW, ← hS]; exact (Vb.new _ _ _).push _
  have VR : Hid (Vb W (s + 1) #[.int .i64 0, .int .i64 0, .int .i64 0, .slice none 0 0, .int .i64 0, .slice none 0 0, .bool false, .bool false, .bool false, .int .i64 0, .slice none 0 0, .slice none 0 0, .slice none 0 0] 31) := by
    have z1 : s + 1 = (w.alloc (.cells #[.slice a0 m0 k0, .int .i64 H.pc, .slice a1 m1 k1, .bool H.halted, .bool H.waiting, .bool H.rung, .int .i64 H.done, .slice a2 m2 k2, .slice a3 m3 k3] 26)).heap.size := by rw [← hS]; simp
    show Vb _ _ _ _; rw [← hW, z1]; exact Vb.new _ _ _
  go_enter Tryz.func14, Tryz.ntmps14
  go_wp2_with fail
  clear hW hS
  refine (SS.out.2 W s B0.out VA.out).mono ?_
  rintro e w1 ⟨rfl, b1⟩
  have B1 : Hid (Below w.heap.size w w1) := on B0.out b1
  have VR1 : Hid (Vb w1 (s + 1) #[.int .i64 0, .int .i64 0, .int .i64 0, .slice none 0 0, .int .i64 0, .slice none 0 0, .bool false, .bool false, .bool false, .int .i64 0, .slice none 0 0, .slice none 0 0, .slice none 0 0] 31) := VR.out.keep b1
  clear b1 VA VR
  have p0 := VR1.out.cell 0 rfl
  have p1 := VR1.out.cell 1 rfl
  have p2 := VR1.out.cell 2 rfl
  have p3 := VR1.out.cell 3 rfl
  have p4 := VR1.out.cell 4 rfl
  have p5 := VR1.out.cell 5 rfl
  have p6 := VR1.out.cell 6 rfl
  have p7 := VR1.out.cell 7 rfl
  have p8 := VR1.out.cell 8 rfl
  have p9 := VR1.out.cell 9 rfl
  have p10 := VR1.out.cell 10 rfl
  have p11 := VR1.out.cell 11 rfl
  have p12 := VR1.out.cell 12 rfl
  have f0 := VR1.out.free 0
  have f1 := VR1.out.free 1
  have f2 := VR1.out.free 2
  have f3 := VR1.out.free 3
  have f4 := VR1.out.free 4
  have f5 := VR1.out.free 5
  have f6 := VR1.out.free 6
  have f7 := VR1.out.free 7
  have f8 := VR1.out.free 8
  have f9 := VR1.out.free 9
  have f10 := VR1.out.free 10
  have f11 := VR1.out.free 11
  have f12 := VR1.out.free 12
  go_wp2_with fail
  have NN : Hid (_ ∧ _) := thirteenX VR1.out (.int .i64 c) (.int .i64 0) (.int .i64 0) (.slice none 0 0) (.int .i64 0) (.slice none 0 0) (.bool false) (.bool false) (.bool false) (.int .i64 0) (.slice none 0 0) (.slice none 0 0) (.slice none 0 0)
  clear p0 f0 p1 f1 p2 f2 p3 f3 p4 f4 p5 f5 p6 f6 p7 f7 p8 f8 p9 f9 p10 f10 p11 f11 p12 f12
  generalize (((((((((((((w1.setCell ⟨s + 1, 0, none⟩ (.int .i64 c)).setCell ⟨s + 1, 1, none⟩ (.int .i64 0)).setCell ⟨s + 1, 2, none⟩ (.int .i64 0)).setCell ⟨s + 1, 3, none⟩ (.slice none 0 0)).setCell ⟨s + 1, 4, none⟩ (.int .i64 0)).setCell ⟨s + 1, 5, none⟩ (.slice none 0 0)).setCell ⟨s + 1, 6, none⟩ (.bool false)).setCell ⟨s + 1, 7, none⟩ (.bool false)).setCell ⟨s + 1, 8, none⟩ (.bool false)).setCell ⟨s + 1, 9, none⟩ (.int .i64 0)).setCell ⟨s + 1, 10, none⟩ (.slice none 0 0)).setCell ⟨s + 1, 11, none⟩ (.slice none 0 0)).setCell ⟨s + 1, 12, none⟩ (.slice none 0 0)) = V at *
  have x0 := NN.out.1.cell 0 rfl
  have x1 := NN.out.1.cell 1 rfl
  have x2 := NN.out.1.cell 2 rfl
  have x3 := NN.out.1.cell 3 rfl
  have x4 := NN.out.1.cell 4 rfl
  have x5 := NN.out.1.cell 5 rfl
  have x6 := NN.out.1.cell 6 rfl
  have x7 := NN.out.1.cell 7 rfl
  have x8 := NN.out.1.cell 8 rfl
  have x9 := NN.out.1.cell 9 rfl
  have x10 := NN.out.1.cell 10 rfl
  have x11 := NN.out.1.cell 11 rfl
  have x12 := NN.out.1.cell 12 rfl
  exact bodyPost_ret (v := .agg #[.int .i64 c, .int .i64 0, .int .i64 0, .slice none 0 0, .int .i64 0, .slice none 0 0, .bool false, .bool false, .bool false, .int .i64 0, .slice none 0 0, .slice none 0 0, .slice none 0 0]) (by simp [results, Tryz.results14, go_sem, x0, x1, x2, x3, x4, x5, x6, x7, x8, x9, x10, x11, x12]) rfl
    ⟨rfl, Mq.under B1.out NN.out.2 fun k e => by have := HS.out; omega⟩
theorem sn_seen {H : Ht} {ps : List (Int × Int)} {zs : List Int} {p : Nat} (s : Sn H ps zs p) : seenC H ps zs = 0 := by
  have h1 : hfV H = 0 := hfV_ok s.hok
  have h2 : pgsV ps 24 = 0 := pgsV_ok (by decide) (by decide) s.l8 s.ok
  have hz := s.zl
  have hp1 := s.p1
  have hp2 := s.p24
  have h3 : memV zs = 0 := by
    unfold memV
    rw [if_pos (by unfold formB; exact decide_eq_true (by omega)), if_pos s.zw]
  have h4 : beyB ps zs.length = false := by
    unfold beyB
    rw [List.any_eq_false]
    intro q hq
    obtain ⟨i, hi, rfl⟩ := List.getElem_of_mem hq
    have := s.tl i (by have := s.l8; omega)
    rw [List.getD, List.getElem?_eq_getElem hi] at this
    simp at this ⊢
    omega
  unfold seenC
  rw [if_pos h1, if_pos h2, if_pos h3, h4]
  rfl
theorem many_same {ps : List (Int × Int)} {p : Nat} (n : Nat) {H : Ht} {zs : List Int} (s : Sn H ps zs p) (ca ri ca' ri' : Int) : (manyV ps n (H, zs, ca, ri)).1 = (manyV ps n (H, zs, ca', ri')).1 ∧ (manyV ps n (H, zs, ca, ri)).2.1 = (manyV ps n (H, zs, ca', ri')).2.1 := by
  induction n with
  | zero => exact ⟨rfl, rfl⟩
  | succ n ih =>
    have k := (manyV_sn (x := (H, zs, ca, ri)) n s).hok
    have k' := (manyV_sn (x := (H, zs, ca', ri')) n s).hok
    have e := stepV_split k ps (manyV ps n (H, zs, ca, ri)).2.1 (manyV ps n (H, zs, ca, ri)).2.2.1 (manyV ps n (H, zs, ca, ri)).2.2.2
    have e' := stepV_split k' ps (manyV ps n (H, zs, ca', ri')).2.1 (manyV ps n (H, zs, ca', ri')).2.2.1 (manyV ps n (H, zs, ca', ri')).2.2.2
    show (stepV _ _ _ _ _).1 = (stepV _ _ _ _ _).1 ∧ (stepV _ _ _ _ _).2.1 = (stepV _ _ _ _ _).2.1
    rw [e, e', ih.1, ih.2]
    exact ⟨rfl, rfl⟩
theorem many_add {ps : List (Int × Int)} (m n : Nat) (x : Ht × List Int × Int × Int) : manyV ps (m + n) x = manyV ps n (manyV ps m x) := by
  induction n with
  | zero => rfl
  | succ n ih =>
    have e : manyV ps (m + (n + 1)) x = stepV (manyV ps (m + n) x).1 ps (manyV ps (m + n) x).2.1 (manyV ps (m + n) x).2.2.1 (manyV ps (m + n) x).2.2.2 := rfl
    rw [e, ih]
    rfl
theorem smV_good {H : Ht} {ps : List (Int × Int)} {zs : List Int} {n : Int} (h : seenC H ps zs = 0) (h0 : 0 ≤ n) (h5 : n ≤ 500) : smV H ps zs n = ⟨0, (manyV ps n.toNat (H, zs, -1, -1)).2.2.1, (manyV ps n.toNat (H, zs, -1, -1)).2.2.2, (manyV ps n.toNat (H, zs, -1, -1)).1, (manyV ps n.toNat (H, zs, -1, -1)).2.1⟩ := by
  unfold smV
  rw [if_pos h, if_pos ⟨h0, h5⟩]
theorem smV_zero {H : Ht} {ps : List (Int × Int)} {zs : List Int} {n : Int} (h : (smV H ps zs n).code = 0) : seenC H ps zs = 0 ∧ 0 ≤ n ∧ n ≤ 500 := by
  unfold smV at h
  split at h
  · rename_i hs
    split at h
    · rename_i hn
      exact ⟨hs, hn.1, hn.2⟩
    · exact absurd h (by decide)
  · rename_i hs
    exact absurd h hs
theorem sm_two {H : Ht} {ps : List (Int × Int)} {zs : List Int} {n k : Int} (h : (smV H ps zs n).code = 0) (hk : 0 ≤ k) (hkn : k ≤ n) :
    (smV H ps zs k).code = 0 ∧ (smV (smV H ps zs k).H ps (smV H ps zs k).zs (n - k)).code = 0 ∧ (smV (smV H ps zs k).H ps (smV H ps zs k).zs (n - k)).H = (smV H ps zs n).H ∧ (smV (smV H ps zs k).H ps (smV H ps zs k).zs (n - k)).zs = (smV H ps zs n).zs ∧ (smV H ps zs n).zs.length = zs.length := by
  obtain ⟨hs, h0, h5⟩ := smV_zero h
  obtain ⟨p, sn⟩ := seen_ok hs
  have e1 := smV_good (n := k) hs hk (by omega)
  have sk := manyV_sn (x := (H, zs, -1, -1)) k.toNat sn
  have e2 := smV_good (n := n - k) (sn_seen sk) (by omega) (by omega)
  have e3 := smV_good (n := n) hs h0 h5
  have e2' : smV (smV H ps zs k).H ps (smV H ps zs k).zs (n - k) = smV (manyV ps k.toNat (H, zs, -1, -1)).1 ps (manyV ps k.toNat (H, zs, -1, -1)).2.1 (n - k) := by rw [e1]
  have ha : n.toNat = k.toNat + (n - k).toNat := by omega
  have hm := many_same (n - k).toNat sk (manyV ps k.toNat (H, zs, -1, -1)).2.2.1 (manyV ps k.toNat (H, zs, -1, -1)).2.2.2 (-1) (-1)
  have hadd : manyV ps n.toNat (H, zs, -1, -1) = manyV ps (n - k).toNat (manyV ps k.toNat (H, zs, -1, -1)) := by rw [ha]; exact many_add _ _ _
  have sn' := manyV_sn (x := (H, zs, -1, -1)) n.toNat sn
  rw [e2', e2, e3]
  refine ⟨by rw [e1], rfl, ?_, ?_, ?_⟩
  · show _ = (manyV ps n.toNat (H, zs, -1, -1)).1
    rw [hadd]
    exact hm.1.symm
  · show _ = (manyV ps n.toNat (H, zs, -1, -1)).2.1
    rw [hadd]
    exact hm.2.symm
  · show (manyV ps n.toNat (H, zs, -1, -1)).2.1.length = zs.length
    rw [sn'.zl, sn.zl]
theorem sm_sizes {H : Ht} {ps : List (Int × Int)} {zs : List Int} {n : Int} : (smV H ps zs n).zs.length ≤ 1000 := by
  have := smV_small H ps zs n
  omega
end Go.Proofs.YtaefollmeoepkaaGreatDoor
