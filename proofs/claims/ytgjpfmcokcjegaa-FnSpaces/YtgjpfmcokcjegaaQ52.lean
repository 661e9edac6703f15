/- Texts of this seat, joined. -/
import Derived.Deep.RegionHeld3
import Derived.Test.YtgjpfmcokcjegaaQ50
import Derived.Test.YtgjpfmcokcjegaaQ51
namespace Go.Proofs.Ytgjpfmcokcjegaa
open Go.RowKit
set_option linter.unusedVariables false
theorem lits6w (w : World) (x0 x1 x2 x3 x4 x5 : Int) (t : TypeId) : ∀ i, i < 6 → ∃ v : Int, (w.alloc (.cells #[.int .i64 x0, .int .i64 x1, .int .i64 x2, .int .i64 x3, .int .i64 x4, .int .i64 x5] t)).cell? ⟨w.heap.size, i, none⟩ = some (.int .i64 v) ∧ True := by
  intro i hi
  have e : i = 0 ∨ i = 1 ∨ i = 2 ∨ i = 3 ∨ i = 4 ∨ i = 5 := by omega
  rcases e with rfl | rfl | rfl | rfl | rfl | rfl
  · exact ⟨x0, cell_new rfl, trivial⟩
  · exact ⟨x1, cell_new rfl, trivial⟩
  · exact ⟨x2, cell_new rfl, trivial⟩
  · exact ⟨x3, cell_new rfl, trivial⟩
  · exact ⟨x4, cell_new rfl, trivial⟩
  · exact ⟨x5, cell_new rfl, trivial⟩
theorem place_any4 {w : World} {b k : Nat} {a : Option Addr} {len cap : Nat} {zs : List Int} (s : Src w b k a len cap zs) (hk : k ≤ 90000) :
    Calls Try.prog 14 #[.pointer (some ⟨b, 0, none⟩)] w fun e w' => ∃ (v : Int) (k' : Nat), e = .returned (.int .i64 v) ∧ k' ≤ k + 4 ∧ Turn b w w' ∧ Src w' b k' a len cap zs := by
  have HS : Hid (Src w b k a len cap zs) := s
  have HK : Hid (k ≤ 90000) := hk
  clear s hk
  go_enter Try.func14, Try.ntmps14
  go_wp2_with fail
  refine (next_any HS.out (by have := HK.out; omega) _).mono ?_
  rintro e w1 ⟨v1, rfl, -, -, t1, s1⟩
  have S1 : Hid (Turn b w w1 ∧ Src w1 b (k + 1) a len cap zs) := ⟨t1, s1⟩
  clear t1 s1 HS
  go_wp2_with fail
  refine (next_any S1.out.2 (by have := HK.out; omega) _).mono ?_
  rintro e w2 ⟨v2, rfl, -, -, t1, s1⟩
  have S2 : Hid (Turn b w w2 ∧ Src w2 b (k + 1 + 1) a len cap zs) := ⟨S1.out.1.trans t1, s1⟩
  clear t1 s1 S1
  go_wp2_with fail
  refine (next_any S2.out.2 (by have := HK.out; omega) _).mono ?_
  rintro e w3 ⟨v3, rfl, -, -, t1, s1⟩
  have S3 : Hid (Turn b w w3 ∧ Src w3 b (k + 1 + 1 + 1) a len cap zs) := ⟨S2.out.1.trans t1, s1⟩
  clear t1 s1 S2
  go_wp2_with fail
  refine (pick_any (S3.out.2.alloc _) (by have := HK.out; omega) (fun _ => True) _ 6 (by decide) (by decide) (by simp) (by have := S3.out.2.here; omega) (lits6w _ _ _ _ _ _ _ _)).mono ?_
  rintro e w4 ⟨v4, rfl, -, t1, s1⟩
  have S4 : Hid (Turn b w w4 ∧ Src w4 b (k + 1 + 1 + 1 + 1) a len cap zs) := ⟨(S3.out.1.trans (Turn.alloc _ _ _)).trans t1, s1⟩
  clear t1 s1 S3
  go_wp2_with fail
  go_ret
  first
    | exact ⟨_, _, rfl, Nat.le_refl _, S4.out.1, S4.out.2⟩
    | exact ⟨_, rfl, _, Nat.le_refl _, S4.out.1, S4.out.2⟩
theorem drawKind4 {w : World} {b k : Nat} {a : Option Addr} {len cap : Nat} {zs : List Int} (s : Src w b k a len cap zs) (hk : k ≤ 90000) :
    Calls Try.prog 15 #[.pointer (some ⟨b, 0, none⟩)] w fun e w' => ∃ (v : Int), e = .returned (.int .i64 v) ∧ Turn b w w' ∧ Src w' b (k + 1) a len cap zs := by
  have HS : Hid (Src w b k a len cap zs) := s
  have HK : Hid (k ≤ 90000) := hk
  clear s hk
  go_enter Try.func15, Try.ntmps15
  go_wp2_with fail
  refine (pick_any (HS.out.alloc _) (by have := HK.out; omega) (fun _ => True) _ 6 (by decide) (by decide) (by simp) (by have := HS.out.here; omega) (lits6w _ _ _ _ _ _ _ _)).mono ?_
  rintro e w4 ⟨v4, rfl, -, t1, s1⟩
  have S4 : Hid (Turn b w w4 ∧ Src w4 b (k + 1) a len cap zs) := ⟨(Turn.alloc _ _ _).trans t1, s1⟩
  clear t1 s1
  go_wp2_with fail
  go_ret
  first
    | exact ⟨_, rfl, S4.out.1, S4.out.2⟩
    | exact ⟨rfl, S4.out.1, S4.out.2⟩
set_option maxRecDepth 20000 in
set_option maxHeartbeats 16000000 in
theorem drawPlaceOf {w : World} {a : Option Addr} {len cap : Nat} {zs : List Int} (hr : IsRow .u8 w a len cap zs) :
    Calls Try.prog 5 #[.slice a len cap] w fun e w' => ∃ a0 m0 k0 a1 m1 k1 a2 m2 k2 a3 m3 k3 H la ln lk ma mn mk, ∃ x1 x2 : Int, e = .returned (.tuple #[.agg #[.slice a0 m0 k0, .int .i64 H.pc, .slice a1 m1 k1, .bool H.halted, .bool H.waiting, .bool H.rung, .int .i64 H.done, .slice a2 m2 k2, .slice a3 m3 k3], .slice la ln lk, .slice ma mn mk, .int .i64 x1, .int .i64 x2]) ∧ Hz w' w.heap.size a0 m0 k0 a1 m1 k1 a2 m2 k2 a3 m3 k3 H ∧ Drawn8 w' w.heap.size (.slice la ln lk) ∧ DrawnM w' w.heap.size (.slice ma mn mk) ∧ Below w.heap.size w w' := by
  obtain ⟨R, hR⟩ : ∃ R, w.heap.size = R := ⟨_, rfl⟩
  have HR : Hid (w.heap.size = R) := hR
  obtain ⟨b, hb⟩ : ∃ b, (w.alloc (.cells #[.slice none 0 0, .int .i64 0, .slice none 0 0, .bool false, .bool false, .bool false, .int .i64 0, .slice none 0 0, .slice none 0 0] 26)).heap.size = b := ⟨_, rfl⟩
  have HB : Hid (R < b) := by show _ < _; rw [← hb, ← hR]; simp
  have TW : Hid (Below w.heap.size w (w.alloc (.cells #[.slice none 0 0, .int .i64 0, .slice none 0 0, .bool false, .bool false, .bool false, .int .i64 0, .slice none 0 0, .slice none 0 0] 26))) := (Below.refl _ _).alloc (Nat.le_refl _) _
  have VW : Hid (Vb (w.alloc (.cells #[.slice none 0 0, .int .i64 0, .slice none 0 0, .bool false, .bool false, .bool false, .int .i64 0, .slice none 0 0, .slice none 0 0] 26)) R #[.slice none 0 0, .int .i64 0, .slice none 0 0, .bool false, .bool false, .bool false, .int .i64 0, .slice none 0 0, .slice none 0 0] 26) := by show Vb _ _ _ _; rw [← hR]; exact Vb.new _ _ _
  have RW : Hid (IsRow .u8 (w.alloc (.cells #[.slice none 0 0, .int .i64 0, .slice none 0 0, .bool false, .bool false, .bool false, .int .i64 0, .slice none 0 0, .slice none 0 0] 26)) a len cap zs) := hr.below TW.out
  clear hr
  go_enter Try.func5, Try.ntmps5
  go_wp2_with fail
  generalize w.alloc (.cells #[.slice none 0 0, .int .i64 0, .slice none 0 0, .bool false, .bool false, .bool false, .int .i64 0, .slice none 0 0, .slice none 0 0] 26) = W at *
  refine (source_any RW.out).mono ?_
  rintro e w1 ⟨rfl, b1, s1⟩
  have V1 : Hid (Vb w1 R #[.slice none 0 0, .int .i64 0, .slice none 0 0, .bool false, .bool false, .bool false, .int .i64 0, .slice none 0 0, .slice none 0 0] 26) := VW.out.keep b1
  have B1 : Hid (Below w.heap.size w w1) := TW.out.trans (b1.mono TW.out.size)
  rw [hb] at s1 b1 ⊢
  have S1 : Hid (Src w1 b 0 a len cap zs) := s1
  clear s1 b1 hb hR
  go_wp2_with fail
  refine (world_any S1.out (by decide)).mono ?_
  rintro e w2 ⟨a0, m0, k0, a1, m1, k1, a2, m2, k2, a3, m3, k3, H, vl, vm, rfl, hz, hl, hm, t2, k', hk', s2⟩
  obtain ⟨la, ln, lk, rfl⟩ := hl.drawn.shape
  obtain ⟨ma, mn, mk, rfl⟩ := drawnM_shape hm
  have KB : Hid (k' ≤ 10000) := hk'
  obtain ⟨q, hq⟩ : ∃ q, w2.heap.size = q := ⟨_, rfl⟩
  have D0 : Hid (Dy w (w2.alloc (.cells #[.slice a0 m0 k0, .int .i64 H.pc, .slice a1 m1 k1, .bool H.halted, .bool H.waiting, .bool H.rung, .int .i64 H.done, .slice a2 m2 k2, .slice a3 m3 k3] 26)) R b (k') a len cap zs q a0 m0 k0 a1 m1 k1 a2 m2 k2 a3 m3 k3 H la ln lk ma mn mk) := by
    have hRR := HR.out; have hBR := HB.out; have hh := S1.out.here; have ht := t2.size
    have ta : Turn b w2 (w2.alloc (.cells #[.slice a0 m0 k0, .int .i64 H.pc, .slice a1 m1 k1, .bool H.halted, .bool H.waiting, .bool H.rung, .int .i64 H.done, .slice a2 m2 k2, .slice a3 m3 k3] 26)) := Turn.alloc _ _ _
    exact ⟨s2.alloc _, (hz.mono (by omega)).turn ta (by omega), (hl.mono (by omega)).turn ta (by omega), (hm.monoW (by omega)).turnW ta (by omega), by rw [← hq]; exact Vb.new _ _ _, ((turn_mq t2).vb V1.out (fun e => by omega)).push _, (B1.out.trans (t2.below (by omega) B1.out.size)).trans (al (Below.refl _ _) _ |>.mono (by have := B1.out.size; omega)), by omega, hBR, by omega⟩
  clear hz hl hm t2 hk' s2
  go_wp2_with fail
  generalize w2.alloc (.cells #[.slice a0 m0 k0, .int .i64 H.pc, .slice a1 m1 k1, .bool H.halted, .bool H.waiting, .bool H.rung, .int .i64 H.done, .slice a2 m2 k2, .slice a3 m3 k3] 26) = W2 at *
  clear hq
  refine (place_any4 D0.out.src (by have := KB.out; omega)).mono ?_
  rintro e u1 ⟨x1, k1', rfl, hk1, t1, s1⟩
  have K1 : Hid (k1' ≤ 10004) := by have := KB.out; show _ ≤ _; omega
  have D1 : Hid (Dy w u1 R b (k1') a len cap zs q a0 m0 k0 a1 m1 k1 a2 m2 k2 a3 m3 k3 H la ln lk ma mn mk) := D0.out.turn t1 s1
  clear t1 s1 hk1
  go_upto_region 4 with fail
  have DR : Hid (Dy w u1.drew R b (k1') a len cap zs q a0 m0 k0 a1 m1 k1 a2 m2 k2 a3 m3 k3 H la ln lk ma mn mk) := D1.out.turn (Turn.of_below (Below.refl _ _).drew) (D1.out.src.turn (Turn.of_below (b := u1.heap.size) (Below.refl _ _).drew) (Nat.le_refl _))
  refine wp_region_held (S := fun w' => Vb w' q #[.slice a0 m0 k0, .int .i64 H.pc, .slice a1 m1 k1, .bool H.halted, .bool H.waiting, .bool H.rung, .int .i64 H.done, .slice a2 m2 k2, .slice a3 m3 k3] 26) (by kernel_rfl) ?_
  change wpAnyH _ _ _ _ _ _ _ _ (World.drew _)
  generalize u1.drew = v1 at *
  have SD : Hid (Vb v1 q #[.slice a0 m0 k0, .int .i64 H.pc, .slice a1 m1 k1, .bool H.halted, .bool H.waiting, .bool H.rung, .int .i64 H.done, .slice a2 m2 k2, .slice a3 m3 k3] 26) := DR.out.var
  refine wpTk (i := 0) (v := .agg #[.slice a0 m0 k0, .int .i64 H.pc, .slice a1 m1 k1, .bool H.halted, .bool H.waiting, .bool H.rung, .int .i64 H.done, .slice a2 m2 k2, .slice a3 m3 k3]) rfl (yieldsIf_load_mid (by rfl) 26 (.tmp 8) rfl q 0 rfl [.slice a0 m0 k0, .int .i64 H.pc, .slice a1 m1 k1, .bool H.halted, .bool H.waiting, .bool H.rung, .int .i64 H.done, .slice a2 m2 k2, .slice a3 m3 k3] _ (fun w' hs => vb_rangeW hs) Try.underlying26 rfl (by kernel_rfl)) SD.out ?_
  change wpAnyH _ _ _ _ _ _ _ (Act.put _ (some 22) _) _
  simp only [Act.put, zT, zZ, zS]
  refine wpTk (i := 1) (v := (.slice la ln lk)) rfl (Or.inl ⟨by rfl, fun w' hs => by go_simp⟩) SD.out ?_
  change wpAnyH _ _ _ _ _ _ _ (Act.put _ (some 23) _) _
  simp only [Act.put, zT, zZ, zS]
  refine wpTk (i := 2) (v := (.slice ma mn mk)) rfl (Or.inl ⟨by rfl, fun w' hs => by go_simp⟩) SD.out ?_
  change wpAnyH _ _ _ _ _ _ _ (Act.put _ (some 24) _) _
  simp only [Act.put, zT, zZ, zS]
  refine wpTk (i := 3) (v := .int .i64 x1) rfl (Or.inl ⟨by rfl, fun w' hs => by go_simp⟩) SD.out ?_
  change wpAnyH _ _ _ _ _ _ _ (Act.put _ (some 25) _) _
  simp only [Act.put, zT, zZ, zS]
  refine wpTk (i := 4) (v := .pointer (some ⟨b, 0, none⟩)) rfl (Or.inl ⟨by rfl, fun w' hs => by go_simp⟩) SD.out ?_
  change wpAnyH _ _ _ _ _ _ _ (Act.put _ (some 26) _) _
  simp only [Act.put, zT, zZ, zS]
  refine zR 5 rfl fun K hK => ?_
  rw [if_pos (by rfl)]
  go_simp
  refine (drawKind4 DR.out.src (by have := K1.out; omega)).mono ?_
  rintro e u5 ⟨x2, rfl, t1, s1⟩
  have D5 : Hid (Dy w u5 R b (k1' + 1) a len cap zs q a0 m0 k0 a1 m1 k1 a2 m2 k2 a3 m3 k3 H la ln lk ma mn mk) := DR.out.turn t1 s1
  clear t1 s1
  refine hK.out _ _ D5.out.var (fun _ => ?_)
  clear hK K
  refine zR 6 rfl fun K hK => ?_
  rw [if_pos (by rfl)]
  refine wp_store_mid 26 (.tmp 2) (.tmp 22) rfl R 0 #[.slice a0 m0 k0, .int .i64 H.pc, .slice a1 m1 k1, .bool H.halted, .bool H.waiting, .bool H.rung, .int .i64 H.done, .slice a2 m2 k2, .slice a3 m3 k3] rfl rfl (D5.out.res.there 9 (by decide)) (by kernel_rfl) (by simp [Value.oneCell']) ?_
  change K (Act.put _ none undef) (World.setCells u5 R 0 [.slice a0 m0 k0, .int .i64 H.pc, .slice a1 m1 k1, .bool H.halted, .bool H.waiting, .bool H.rung, .int .i64 H.done, .slice a2 m2 k2, .slice a3 m3 k3])
  simp only [Act.put]
  have R5 : Hid ((u5.setCells R 0 [.slice a0 m0 k0, .int .i64 H.pc, .slice a1 m1 k1, .bool H.halted, .bool H.waiting, .bool H.rung, .int .i64 H.done, .slice a2 m2 k2, .slice a3 m3 k3]).rangeAt R 0 [.slice a0 m0 k0, .int .i64 H.pc, .slice a1 m1 k1, .bool H.halted, .bool H.waiting, .bool H.rung, .int .i64 H.done, .slice a2 m2 k2, .slice a3 m3 k3]) := World.rangeAt_setCells_same _ _ _ _ (D5.out.res.there 9 (by decide))
  have M5 : Hid (Mq (fun k => k = R) u5 (u5.setCells R 0 [.slice a0 m0 k0, .int .i64 H.pc, .slice a1 m1 k1, .bool H.halted, .bool H.waiting, .bool H.rung, .int .i64 H.done, .slice a2 m2 k2, .slice a3 m3 k3])) := mq_cells R _ u5 0
  generalize u5.setCells R 0 [.slice a0 m0 k0, .int .i64 H.pc, .slice a1 m1 k1, .bool H.halted, .bool H.waiting, .bool H.rung, .int .i64 H.done, .slice a2 m2 k2, .slice a3 m3 k3] = u6 at *
  have S6 : Hid (Vb u6 q #[.slice a0 m0 k0, .int .i64 H.pc, .slice a1 m1 k1, .bool H.halted, .bool H.waiting, .bool H.rung, .int .i64 H.done, .slice a2 m2 k2, .slice a3 m3 k3] 26) := M5.out.vb D5.out.var (by have := D5.out.hb; have := D5.out.hq; omega)
  refine hK.out _ _ S6.out (fun _ => ?_)
  clear hK K
  refine wpTk (i := 7) (v := (.slice la ln lk)) rfl (Or.inl ⟨by rfl, fun w' hs => by go_simp⟩) S6.out ?_
  change wpAnyH _ _ _ _ _ _ _ (Act.put _ (some 3) _) _
  simp only [Act.put, zT, zZ, zS]
  refine wpTk (i := 8) (v := (.slice ma mn mk)) rfl (Or.inl ⟨by rfl, fun w' hs => by go_simp⟩) S6.out ?_
  change wpAnyH _ _ _ _ _ _ _ (Act.put _ (some 4) _) _
  simp only [Act.put, zT, zZ, zS]
  refine wpTk (i := 9) (v := .int .i64 x1) rfl (Or.inl ⟨by rfl, fun w' hs => by go_simp⟩) S6.out ?_
  change wpAnyH _ _ _ _ _ _ _ (Act.put _ (some 5) _) _
  simp only [Act.put, zT, zZ, zS]
  refine wpTk (i := 10) (v := .int .i64 x2) rfl (Or.inl ⟨by rfl, fun w' hs => by go_simp⟩) S6.out ?_
  change wpAnyH _ _ _ _ _ _ _ (Act.put _ (some 6) _) _
  simp only [Act.put, zT, zZ, zS]
  refine wpAnyH_done (by kernel_rfl) ?_ _
  go_wp2_with fail
  have y0 : u6.cell? ⟨R, 0, none⟩ = _ := R5.out 0 _ rfl
  have y1 : u6.cell? ⟨R, 1, none⟩ = _ := R5.out 1 _ rfl
  have y2 : u6.cell? ⟨R, 2, none⟩ = _ := R5.out 2 _ rfl
  have y3 : u6.cell? ⟨R, 3, none⟩ = _ := R5.out 3 _ rfl
  have y4 : u6.cell? ⟨R, 4, none⟩ = _ := R5.out 4 _ rfl
  have y5 : u6.cell? ⟨R, 5, none⟩ = _ := R5.out 5 _ rfl
  have y6 : u6.cell? ⟨R, 6, none⟩ = _ := R5.out 6 _ rfl
  have y7 : u6.cell? ⟨R, 7, none⟩ = _ := R5.out 7 _ rfl
  have y8 : u6.cell? ⟨R, 8, none⟩ = _ := R5.out 8 _ rfl
  have hb := D5.out.hb
  have hR := D5.out.hR
  have hs := D5.out.g.size
  exact bodyPost_ret (v := .tuple #[.agg #[.slice a0 m0 k0, .int .i64 H.pc, .slice a1 m1 k1, .bool H.halted, .bool H.waiting, .bool H.rung, .int .i64 H.done, .slice a2 m2 k2, .slice a3 m3 k3], .slice la ln lk, .slice ma mn mk, .int .i64 x1, .int .i64 x2]) (by simp [results, Try.results5, go_sem, y0, y1, y2, y3, y4, y5, y6, y7, y8]) rfl
    ⟨_, _, _, _, _, _, _, _, _, _, _, _, H, _, _, _, _, _, _, _, _, rfl, D5.out.fin M5.out⟩
structure Skn (w : World) (b0 : Option Addr) (m0 k0 : Nat) (b1 : Option Addr) (m1 k1 : Nat) (b2 : Option Addr) (m2 k2 : Nat) (b3 : Option Addr) (m3 k3 : Nat) (H : Ht) (la : Option Addr) (ln lk : Nat) (ma : Option Addr) (mn mk : Nat) (x k sc pc pv : Int) : Prop where
  ip : ∀ w1, Below w.heap.size w w1 → Calls Try.prog 6 #[.agg #[.slice b0 m0 k0, .int .i64 H.pc, .slice b1 m1 k1, .bool H.halted, .bool H.waiting, .bool H.rung, .int .i64 H.done, .slice b2 m2 k2, .slice b3 m3 k3], .slice la ln lk, .slice ma mn mk, .int .i64 x, .int .i64 k] w1 fun e w' => e = .returned (.agg #[.int .i64 pc, .int .i64 pv]) ∧ Below w1.heap.size w1 w'
  sp : ∀ w1, Below w.heap.size w w1 → Calls Try.prog 9 #[.agg #[.slice b0 m0 k0, .int .i64 H.pc, .slice b1 m1 k1, .bool H.halted, .bool H.waiting, .bool H.rung, .int .i64 H.done, .slice b2 m2 k2, .slice b3 m3 k3], .slice la ln lk, .slice ma mn mk, .int .i64 x, .int .i64 k] w1 fun e w' => e = .returned (.agg #[.int .i64 pc, .int .i64 pv]) ∧ Below w1.heap.size w1 w'
  ss : ∀ w1, Below w.heap.size w w1 → Calls Try.prog 8 #[.agg #[.slice b0 m0 k0, .int .i64 H.pc, .slice b1 m1 k1, .bool H.halted, .bool H.waiting, .bool H.rung, .int .i64 H.done, .slice b2 m2 k2, .slice b3 m3 k3], .slice la ln lk, .slice ma mn mk] w1 fun e w' => ∃ a n c, e = .returned (.agg #[.int .i64 sc, .slice a n c]) ∧ Below w1.heap.size w1 w'
  is : ∀ w1, Below w.heap.size w w1 → Calls Try.prog 7 #[.agg #[.slice b0 m0 k0, .int .i64 H.pc, .slice b1 m1 k1, .bool H.halted, .bool H.waiting, .bool H.rung, .int .i64 H.done, .slice b2 m2 k2, .slice b3 m3 k3], .slice la ln lk, .slice ma mn mk] w1 fun e w' => ∃ a n c, e = .returned (.agg #[.int .i64 sc, .slice a n c]) ∧ Below w1.heap.size w1 w' ∧ (sc = 0 → ∃ rs, Prs 73 w' w1.heap.size (.slice a n c) rs ∧ rs.length = 8 ∧
    (¬ wpC rs x k = 0 → pc = wpC rs x k) ∧ (wpC rs x k = 0 → 0 ≤ wpV rs x k ∧ wpV rs x k ≤ 63 ∧ (56 ≤ wpV rs x k → (k = 4 ∧ pc = 9) ∨ (¬ k = 4 ∧ pc = 0 ∧ pv = 1000 + wpV rs x k - 56)) ∧
      (¬ 56 ≤ wpV rs x k → ∃ ps, Prs 73 w1 0 (.slice la ln lk) ps ∧ ps.length = 8 ∧ twoV rs 8 ps = 0 ∧ pc = wpC (cmpL rs ps) x k ∧ pv = wpV (cmpL rs ps) x k)))
theorem Sees.later {w w' : World} {b0 : Option Addr} {m0 k0 : Nat} {b1 : Option Addr} {m1 k1 : Nat} {b2 : Option Addr} {m2 k2 : Nat} {b3 : Option Addr} {m3 k3 : Nat} {H : Ht} {la : Option Addr} {ln lk : Nat} {ma : Option Addr} {mn mk : Nat} {c : Int} (h : Sees w b0 m0 k0 b1 m1 k1 b2 m2 k2 b3 m3 k3 H la ln lk ma mn mk c) (b : Below w.heap.size w w') : Sees w' b0 m0 k0 b1 m1 k1 b2 m2 k2 b3 m3 k3 H la ln lk ma mn mk c := ⟨fun w1 k => h.1 w1 (on b k), fun w1 q k => h.2 w1 q (on b k)⟩
theorem sk_any {w : World} {base : Nat} {b0 : Option Addr} {m0 k0 : Nat} {b1 : Option Addr} {m1 k1 : Nat} {b2 : Option Addr} {m2 k2 : Nat} {b3 : Option Addr} {m3 k3 : Nat} {H : Ht} {la : Option Addr} {ln lk : Nat} {ma : Option Addr} {mn mk : Nat} (x k : Int) (hz : Hz w base b0 m0 k0 b1 m1 k1 b2 m2 k2 b3 m3 k3 H) (hl : Drawn8 w base (.slice la ln lk)) (hm : DrawnM w base (.slice ma mn mk)) : ∃ sc pc pv, Skn w b0 m0 k0 b1 m1 k1 b2 m2 k2 b3 m3 k3 H la ln lk ma mn mk x k sc pc pv := by
  rcases sees_any hz hl hm with ⟨ps, zs, h, hP, h8, hN, hn⟩ | ⟨c, hc, S⟩
  · refine ⟨soC H ps zs, poC H ps zs x k, poV H ps zs x k, ⟨fun w1 b => ?_, fun w1 b => ?_, fun w1 b => ?_, fun w1 b => ?_⟩⟩
    · exact i_placeOf _ _ _ _ H _ _ _ ps _ _ _ zs x k base w1 (h.keep b) (hP.keep b) (by omega) (hN.keep b) (by omega)
    · exact s_placeOf _ _ _ _ H _ _ _ ps _ _ _ zs x k base w1 (h.keep b) (hP.keep b) (by omega) (hN.keep b) (by omega)
    · refine (s_spaceOf _ _ _ _ H _ _ _ ps _ _ _ zs base w1 (h.keep b) (hP.keep b) (by omega) (hN.keep b) (by omega)).mono ?_
      rintro e w' ⟨u, rfl, hu, hb⟩
      obtain ⟨a, c, rfl, _⟩ := hu.shape
      exact ⟨_, _, _, rfl, hb⟩
    · refine (i_spaceOf _ _ _ _ H _ _ _ ps _ _ _ zs base w1 (h.keep b) (hP.keep b) (by omega) (hN.keep b) (by omega)).mono ?_
      rintro e w' ⟨u, rfl, hu, hb⟩
      obtain ⟨a, c, hv, _⟩ := hu.shape
      subst hv
      refine ⟨_, _, _, rfl, hb, fun h0 => ⟨soP H ps zs, hu, (so_facts h0).2.2.2.1, fun hn => place_own h0 x k hn, fun hz => ?_⟩⟩
      obtain ⟨_, y0, y1, _⟩ := place_in h0 x k hz
      exact ⟨y0, y1, fun h56 => place_device h0 x k hz h56, fun h56 => ⟨ps, (hP.keep b).mono (Nat.zero_le _), h8, place_both h0 x k hz h56⟩⟩
  · refine ⟨c, c, 0, ⟨fun w1 b => ?_, fun w1 b => ?_, fun w1 b => ?_, fun w1 b => ?_⟩⟩
    · exact ib_place b0 m0 k0 b1 m1 k1 b2 m2 k2 b3 m3 k3 H la ln lk ma mn mk c x k w1 (S.later b) hc
    · exact sb_place b0 m0 k0 b1 m1 k1 b2 m2 k2 b3 m3 k3 H la ln lk ma mn mk c x k w1 (S.later b) hc
    · refine (sb_space b0 m0 k0 b1 m1 k1 b2 m2 k2 b3 m3 k3 H la ln lk ma mn mk c w1 (S.later b) hc).mono ?_
      rintro e w' ⟨rfl, hb⟩
      exact ⟨_, _, _, rfl, hb⟩
    · refine (ib_space b0 m0 k0 b1 m1 k1 b2 m2 k2 b3 m3 k3 H la ln lk ma mn mk c w1 (S.later b) hc).mono ?_
      rintro e w' ⟨rfl, hb⟩
      exact ⟨_, _, _, rfl, hb, fun h0 => absurd h0 hc⟩
theorem Skn.later {w w' : World} {b0 : Option Addr} {m0 k0 : Nat} {b1 : Option Addr} {m1 k1 : Nat} {b2 : Option Addr} {m2 k2 : Nat} {b3 : Option Addr} {m3 k3 : Nat} {H : Ht} {la : Option Addr} {ln lk : Nat} {ma : Option Addr} {mn mk : Nat} {x k sc pc pv : Int} (h : Skn w b0 m0 k0 b1 m1 k1 b2 m2 k2 b3 m3 k3 H la ln lk ma mn mk x k sc pc pv) (b : Below w.heap.size w w') : Skn w' b0 m0 k0 b1 m1 k1 b2 m2 k2 b3 m3 k3 H la ln lk ma mn mk x k sc pc pv :=
  ⟨fun w1 q => h.ip w1 (on b q), fun w1 q => h.sp w1 (on b q), fun w1 q => h.ss w1 (on b q), fun w1 q => h.is w1 (on b q)⟩
end Go.Proofs.Ytgjpfmcokcjegaa
