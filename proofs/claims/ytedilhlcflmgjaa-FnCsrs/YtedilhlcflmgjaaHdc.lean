/- What SetCsr is drawn for. -/
import Derived.Test.YtedilhlcflmgjaaHbe
import Derived.Test.YtedilhlcflmgjaaHmo
namespace Go.Proofs.Ytedilhlcflmgjaa
open Go.RowKit
set_option linter.unusedVariables false

theorem Vb.range {w : World} {q : Nat} {cs : List Value} {t : TypeId} (h : Vb w q cs.toArray t) : w.rangeAt q 0 cs := fun j v hv => by
  rw [Nat.zero_add]
  exact h.cell j (by simpa using hv)
/-- A machine that is drawn, whole, in its variable q; the answer's place R, the source b. -/
structure Dx (w0 v : World) (R b k : Nat) (a : Option Addr) (len cap : Nat) (zs : List Int) (q : Nat) (a0 : Option Addr) (m0 k0 : Nat) (a1 : Option Addr) (m1 k1 : Nat) (a2 : Option Addr) (m2 k2 : Nat) (a3 : Option Addr) (m3 k3 : Nat) (H : Ht) : Prop where
  src : Src v b k a len cap zs
  m : (Hm v (b + 1) (.slice a0 m0 k0) (.slice a1 m1 k1) (.slice a2 m2 k2) (.slice a3 m3 k3) H ∧ Ha (.slice a0 m0 k0) (.slice a1 m1 k1) (.slice a2 m2 k2) (.slice a3 m3 k3)) ∨ m0 = 15
  var : Vb v q #[.slice a0 m0 k0, .int .i64 H.pc, .slice a1 m1 k1, .bool H.halted, .bool H.waiting, .bool H.rung, .int .i64 H.done, .slice a2 m2 k2, .slice a3 m3 k3] 39
  res : Vb v R #[.slice none 0 0, .int .i64 0, .slice none 0 0, .bool false, .bool false, .bool false, .int .i64 0, .slice none 0 0, .slice none 0 0] 39
  g : Below w0.heap.size w0 v
  hR : w0.heap.size = R
  hb : R < b
  hq : b < q
theorem Dx.turn {w0 v v' : World} {R b k k' : Nat} {a : Option Addr} {len cap : Nat} {zs : List Int} {q : Nat} {a0 : Option Addr} {m0 k0 : Nat} {a1 : Option Addr} {m1 k1 : Nat} {a2 : Option Addr} {m2 k2 : Nat} {a3 : Option Addr} {m3 k3 : Nat} {H : Ht}
    (h : Dx w0 v R b k a len cap zs q a0 m0 k0 a1 m1 k1 a2 m2 k2 a3 m3 k3 H) (t : Turn b v v') (s : Src v' b k' a len cap zs) : Dx w0 v' R b k' a len cap zs q a0 m0 k0 a1 m1 k1 a2 m2 k2 a3 m3 k3 H := by
  have hb := h.hb; have hq := h.hq; have hR := h.hR
  refine ⟨s, ?_, (turn_mq t).vb h.var (fun e => by omega), (turn_mq t).vb h.res (fun e => by omega), h.g.trans (t.below (by omega) h.g.size), hR, hb, hq⟩
  rcases h.m with ⟨h1, h2⟩ | h1
  · exact .inl ⟨(turn_mq t).hm h1 (fun x e f => by have := (h1.own x e).1; omega), h2⟩
  · exact .inr h1

set_option maxRecDepth 20000 in
set_option maxHeartbeats 16000000 in
theorem drawSetCsr {w : World} {a : Option Addr} {len cap : Nat} {zs : List Int} (hr : IsRow .u8 w a len cap zs) :
    Calls Try.prog 19 #[.slice a len cap] w fun e w' => ∃ a0 m0 k0 a1 m1 k1 a2 m2 k2 a3 m3 k3 H, ∃ n x : Int, e = .returned (.tuple #[.agg #[.slice a0 m0 k0, .int .i64 H.pc, .slice a1 m1 k1, .bool H.halted, .bool H.waiting, .bool H.rung, .int .i64 H.done, .slice a2 m2 k2, .slice a3 m3 k3], .int .i64 n, .int .i64 x]) ∧ ((Hm w' w.heap.size (.slice a0 m0 k0) (.slice a1 m1 k1) (.slice a2 m2 k2) (.slice a3 m3 k3) H ∧ Ha (.slice a0 m0 k0) (.slice a1 m1 k1) (.slice a2 m2 k2) (.slice a3 m3 k3)) ∨ m0 = 15) ∧ Below w.heap.size w w' := by
  obtain ⟨R, hR⟩ : ∃ R, w.heap.size = R := ⟨_, rfl⟩
  have HR : Hid (w.heap.size = R) := hR
  obtain ⟨b, hb⟩ : ∃ b, (w.alloc (.cells #[.slice none 0 0, .int .i64 0, .slice none 0 0, .bool false, .bool false, .bool false, .int .i64 0, .slice none 0 0, .slice none 0 0] 39)).heap.size = b := ⟨_, rfl⟩
  have HB : Hid (R < b) := by show _ < _; rw [← hb, ← hR]; simp
  have TW : Hid (Below w.heap.size w (w.alloc (.cells #[.slice none 0 0, .int .i64 0, .slice none 0 0, .bool false, .bool false, .bool false, .int .i64 0, .slice none 0 0, .slice none 0 0] 39))) := (Below.refl _ _).alloc (Nat.le_refl _) _
  have VW : Hid (Vb (w.alloc (.cells #[.slice none 0 0, .int .i64 0, .slice none 0 0, .bool false, .bool false, .bool false, .int .i64 0, .slice none 0 0, .slice none 0 0] 39)) R #[.slice none 0 0, .int .i64 0, .slice none 0 0, .bool false, .bool false, .bool false, .int .i64 0, .slice none 0 0, .slice none 0 0] 39) := by show Vb _ _ _ _; rw [← hR]; exact Vb.new _ _ _
  have RW : Hid (IsRow .u8 (w.alloc (.cells #[.slice none 0 0, .int .i64 0, .slice none 0 0, .bool false, .bool false, .bool false, .int .i64 0, .slice none 0 0, .slice none 0 0] 39)) a len cap zs) := hr.below TW.out
  clear hr
  go_enter Try.func19, Try.ntmps19
  go_wp2_with fail
  generalize w.alloc (.cells #[.slice none 0 0, .int .i64 0, .slice none 0 0, .bool false, .bool false, .bool false, .int .i64 0, .slice none 0 0, .slice none 0 0] 39) = W at *
  refine (source_any RW.out).mono ?_
  rintro e w1 ⟨rfl, b1, s1⟩
  have V1 : Hid (Vb w1 R #[.slice none 0 0, .int .i64 0, .slice none 0 0, .bool false, .bool false, .bool false, .int .i64 0, .slice none 0 0, .slice none 0 0] 39) := VW.out.keep b1
  have B1 : Hid (Below w.heap.size w w1) := TW.out.trans (b1.mono TW.out.size)
  rw [hb] at s1 b1 ⊢
  have S1 : Hid (Src w1 b 0 a len cap zs) := s1
  clear s1 b1 hb hR
  go_wp2_with fail
  refine (hbent_any S1.out (by decide)).mono ?_
  rintro e w2 ⟨a0, m0, k0, a1, m1, k1, a2, m2, k2, a3, m3, k3, H, rfl, hm2, t2, k', hk', s2⟩
  have KB : Hid (k' ≤ 1100) := by show _ ≤ _; omega
  obtain ⟨q, hq⟩ : ∃ q, w2.heap.size = q := ⟨_, rfl⟩
  have D0 : Hid (Dx w (w2.alloc (.cells #[.slice a0 m0 k0, .int .i64 H.pc, .slice a1 m1 k1, .bool H.halted, .bool H.waiting, .bool H.rung, .int .i64 H.done, .slice a2 m2 k2, .slice a3 m3 k3] 39)) R b (k') a len cap zs q a0 m0 k0 a1 m1 k1 a2 m2 k2 a3 m3 k3 H) := by
    have hRR := HR.out; have hBR := HB.out; have hh := S1.out.here; have ht := t2.size
    refine ⟨s2.alloc _, ?_, by rw [← hq]; exact Vb.new _ _ _, ((turn_mq t2).vb V1.out (fun e => by omega)).push _, (B1.out.trans (t2.below (by omega) B1.out.size)).trans (al (Below.refl _ _) _ |>.mono (by have := B1.out.size; omega)), hRR, hBR, by omega⟩
    rcases hm2 with ⟨h1, h2⟩ | h1
    · exact .inl ⟨(h1.keep (al (Below.refl _ _) _)).mono (by omega), h2⟩
    · exact .inr h1
  clear hm2 t2 hk' s2
  go_wp2_with fail
  generalize w2.alloc (.cells #[.slice a0 m0 k0, .int .i64 H.pc, .slice a1 m1 k1, .bool H.halted, .bool H.waiting, .bool H.rung, .int .i64 H.done, .slice a2 m2 k2, .slice a3 m3 k3] 39) = W2 at *
  clear hq
  refine (next_any D0.out.src (by have := KB.out; omega) _).mono ?_
  rintro e u1 ⟨x1, rfl, hx1, -, t1, s1⟩
  have D1 : Hid (Dx w u1 R b (k' + 1) a len cap zs q a0 m0 k0 a1 m1 k1 a2 m2 k2 a3 m3 k3 H) := D0.out.turn t1 s1
  obtain ⟨x10, x11⟩ := hx1 (by decide)
  have hw1 : IntKind.i64.wrap (x1 - 1) = x1 - 1 := by rw [IntKind.wrap_i64]; omega
  clear t1 s1 hx1
  go_upto_region 4 with fail
  have DR : Hid (Dx w u1.drew R b (k' + 1) a len cap zs q a0 m0 k0 a1 m1 k1 a2 m2 k2 a3 m3 k3 H) := D1.out.turn (Turn.of_below (Below.refl _ _).drew) (D1.out.src.turn (Turn.of_below (b := u1.heap.size) (Below.refl _ _).drew) (Nat.le_refl _))
  refine wp_region_held (S := fun w' => Vb w' q #[.slice a0 m0 k0, .int .i64 H.pc, .slice a1 m1 k1, .bool H.halted, .bool H.waiting, .bool H.rung, .int .i64 H.done, .slice a2 m2 k2, .slice a3 m3 k3] 39) (by kernel_rfl) ?_
  change wpAnyH _ _ _ _ _ _ _ _ (World.drew _)
  generalize u1.drew = v1 at *
  have SD : Hid (Vb v1 q #[.slice a0 m0 k0, .int .i64 H.pc, .slice a1 m1 k1, .bool H.halted, .bool H.waiting, .bool H.rung, .int .i64 H.done, .slice a2 m2 k2, .slice a3 m3 k3] 39) := DR.out.var
  refine wpAnyH_take (i := 0) (v := .agg #[.slice a0 m0 k0, .int .i64 H.pc, .slice a1 m1 k1, .bool H.halted, .bool H.waiting, .bool H.rung, .int .i64 H.done, .slice a2 m2 k2, .slice a3 m3 k3]) rfl (by kernel_rfl) (by kernel_rfl) (by kernel_rfl) (fun _ _ _ h => h) (yieldsIf_load_mid (by rfl) 39 (.tmp 6) rfl q 0 rfl [.slice a0 m0 k0, .int .i64 H.pc, .slice a1 m1 k1, .bool H.halted, .bool H.waiting, .bool H.rung, .int .i64 H.done, .slice a2 m2 k2, .slice a3 m3 k3] _ (fun w' hs => Vb.range hs) Try.underlying39 rfl (by kernel_rfl)) SD.out ?_
  change wpAnyH _ _ _ _ _ _ _ (Act.put _ (some 15) _) _
  simp only [Act.put, List.setIfInBounds_toArray, List.set_cons_zero, List.set_cons_succ]
  refine wpAnyH_take (i := 1) (v := .int .i64 (x1 - 1)) rfl (by kernel_rfl) (by kernel_rfl) (by kernel_rfl) (fun _ _ _ h => h) (Or.inl ⟨by rfl, fun w' hs => by go_simp⟩) SD.out ?_
  change wpAnyH _ _ _ _ _ _ _ (Act.put _ (some 16) _) _
  simp only [Act.put, List.setIfInBounds_toArray, List.set_cons_zero, List.set_cons_succ]
  refine wpAnyH_take (i := 2) (v := (.pointer (some ⟨b, 0, none⟩))) rfl (by kernel_rfl) (by kernel_rfl) (by kernel_rfl) (fun _ _ _ h => h) (Or.inl ⟨by rfl, fun w' hs => by go_simp⟩) SD.out ?_
  change wpAnyH _ _ _ _ _ _ _ (Act.put _ (some 17) _) _
  simp only [Act.put, List.setIfInBounds_toArray, List.set_cons_zero, List.set_cons_succ]
  refine wpAnyH_take (i := 3) (v := (.pointer (some ⟨b, 0, none⟩))) rfl (by kernel_rfl) (by kernel_rfl) (by kernel_rfl) (fun _ _ _ h => h) (Or.inl ⟨by rfl, fun w' hs => by go_simp⟩) SD.out ?_
  change wpAnyH _ _ _ _ _ _ _ (Act.put _ (some 18) _) _
  simp only [Act.put, List.setIfInBounds_toArray, List.set_cons_zero, List.set_cons_succ]
  refine wpAnyH_take (i := 5) (v := (.pointer (some ⟨b, 0, none⟩))) rfl (by kernel_rfl) (by kernel_rfl) (by kernel_rfl) (fun _ _ _ h => h) (Or.inl ⟨by rfl, fun w' hs => by go_simp⟩) SD.out ?_
  change wpAnyH _ _ _ _ _ _ _ (Act.put _ (some 20) _) _
  simp only [Act.put, List.setIfInBounds_toArray, List.set_cons_zero, List.set_cons_succ]
  refine wpAnyH_ready (rs := [4]) (by kernel_rfl) (by simp) ?_
  refine AllReadyH.cons rfl (fun K hK => ?_) AllReadyH.nil
  rw [if_pos (by rfl)]
  go_simp
  refine (next_any DR.out.src (by have := KB.out; omega) _).mono ?_
  rintro e u2 ⟨x2, rfl, -, -, t1, s1⟩
  have D2 : Hid (Dx w u2 R b (k' + 1 + 1) a len cap zs q a0 m0 k0 a1 m1 k1 a2 m2 k2 a3 m3 k3 H) := DR.out.turn t1 s1
  clear t1 s1
  refine hK.out _ _ D2.out.var (fun _ => ?_)
  clear hK K
  refine wpAnyH_ready (rs := [6]) (by kernel_rfl) (by simp) ?_
  refine AllReadyH.cons rfl (fun K hK => ?_) AllReadyH.nil
  rw [if_pos (by rfl)]
  go_simp
  refine (wide_any D2.out.src (by have := KB.out; omega)).mono ?_
  rintro e u3 ⟨x3, rfl, -, t1, s1⟩
  have D3 : Hid (Dx w u3 R b (k' + 1 + 1 + 16) a len cap zs q a0 m0 k0 a1 m1 k1 a2 m2 k2 a3 m3 k3 H) := D2.out.turn t1 s1
  clear t1 s1
  refine hK.out _ _ D3.out.var (fun _ => ?_)
  clear hK K
  refine wpAnyH_ready (rs := [7]) (by kernel_rfl) (by simp) ?_
  refine AllReadyH.cons rfl (fun K hK => ?_) AllReadyH.nil
  rw [if_pos (by rfl)]
  go_simp
  have D4 : Hid (Dx w (u3.alloc (.cells #[.int .i64 x2, .int .i64 x3] 2)) R b (k' + 1 + 1 + 16) a len cap zs q a0 m0 k0 a1 m1 k1 a2 m2 k2 a3 m3 k3 H) := D3.out.turn (Turn.alloc _ _ _) (D3.out.src.alloc _)
  refine hK.out _ _ D4.out.var (fun _ => ?_)
  clear hK K
  refine wpAnyH_ready (rs := [8]) (by kernel_rfl) (by simp) ?_
  refine AllReadyH.cons rfl (fun K hK => ?_) AllReadyH.nil
  rw [if_pos (by rfl)]
  go_simp
  refine (pick_any D4.out.src (by have := KB.out; omega) (fun _ => True) _ 2 (by decide) (by decide) (by simp) (by have := D3.out.src.here; omega) (lits_at _ [x2, x3] _ rfl)).mono ?_
  rintro e u5 ⟨x5, rfl, -, t1, s1⟩
  have D5 : Hid (Dx w u5 R b (k' + 1 + 1 + 16 + 1) a len cap zs q a0 m0 k0 a1 m1 k1 a2 m2 k2 a3 m3 k3 H) := D4.out.turn t1 s1
  clear t1 s1
  refine hK.out _ _ D5.out.var (fun _ => ?_)
  clear hK K
  refine wpAnyH_ready (rs := [9]) (by kernel_rfl) (by simp) ?_
  refine AllReadyH.cons rfl (fun K hK => ?_) AllReadyH.nil
  rw [if_pos (by rfl)]
  refine wp_store_mid 39 (.tmp 2) (.tmp 15) rfl R 0 #[.slice a0 m0 k0, .int .i64 H.pc, .slice a1 m1 k1, .bool H.halted, .bool H.waiting, .bool H.rung, .int .i64 H.done, .slice a2 m2 k2, .slice a3 m3 k3] rfl rfl (D5.out.res.there 9 (by decide)) (by kernel_rfl) (by simp [Value.oneCell']) ?_
  change K (Act.put _ none undef) (World.setCells u5 R 0 [.slice a0 m0 k0, .int .i64 H.pc, .slice a1 m1 k1, .bool H.halted, .bool H.waiting, .bool H.rung, .int .i64 H.done, .slice a2 m2 k2, .slice a3 m3 k3])
  simp only [Act.put]
  have R5 : Hid ((u5.setCells R 0 [.slice a0 m0 k0, .int .i64 H.pc, .slice a1 m1 k1, .bool H.halted, .bool H.waiting, .bool H.rung, .int .i64 H.done, .slice a2 m2 k2, .slice a3 m3 k3]).rangeAt R 0 [.slice a0 m0 k0, .int .i64 H.pc, .slice a1 m1 k1, .bool H.halted, .bool H.waiting, .bool H.rung, .int .i64 H.done, .slice a2 m2 k2, .slice a3 m3 k3]) := World.rangeAt_setCells_same _ _ _ _ (D5.out.res.there 9 (by decide))
  have M5 : Hid (Mq (fun k => k = R) u5 (u5.setCells R 0 [.slice a0 m0 k0, .int .i64 H.pc, .slice a1 m1 k1, .bool H.halted, .bool H.waiting, .bool H.rung, .int .i64 H.done, .slice a2 m2 k2, .slice a3 m3 k3])) := mq_cells R _ u5 0
  generalize u5.setCells R 0 [.slice a0 m0 k0, .int .i64 H.pc, .slice a1 m1 k1, .bool H.halted, .bool H.waiting, .bool H.rung, .int .i64 H.done, .slice a2 m2 k2, .slice a3 m3 k3] = u6 at *
  refine hK.out _ _ (M5.out.vb D5.out.var (by have := D5.out.hb; have := D5.out.hq; omega)) (fun _ => ?_)
  clear hK K
  have S6 : Hid (Vb u6 q #[.slice a0 m0 k0, .int .i64 H.pc, .slice a1 m1 k1, .bool H.halted, .bool H.waiting, .bool H.rung, .int .i64 H.done, .slice a2 m2 k2, .slice a3 m3 k3] 39) := M5.out.vb D5.out.var (by have := D5.out.hb; have := D5.out.hq; omega)
  refine wpAnyH_take (i := 10) (v := .int .i64 (x1 - 1)) rfl (by kernel_rfl) (by kernel_rfl) (by kernel_rfl) (fun _ _ _ h => h) (Or.inl ⟨by rfl, fun w' hs => by go_simp⟩) S6.out ?_
  change wpAnyH _ _ _ _ _ _ _ (Act.put _ (some 3) _) _
  simp only [Act.put, List.setIfInBounds_toArray, List.set_cons_zero, List.set_cons_succ]
  refine wpAnyH_take (i := 11) (v := .int .i64 x5) rfl (by kernel_rfl) (by kernel_rfl) (by kernel_rfl) (fun _ _ _ h => h) (Or.inl ⟨by rfl, fun w' hs => by go_simp⟩) S6.out ?_
  change wpAnyH _ _ _ _ _ _ _ (Act.put _ (some 4) _) _
  simp only [Act.put, List.setIfInBounds_toArray, List.set_cons_zero, List.set_cons_succ]
  refine wpAnyH_done (by kernel_rfl) ?_ _
  go_wp2_with fail
  have y0 : u6.cell? ⟨R, 0, none⟩ = _ := R5.out 0 _ rfl
  have y1 : u6.cell? ⟨R, 1, none⟩ = _ := R5.out 1 _ rfl
  have y2 : u6.cell? ⟨R, 2, none⟩ = _ := R5.out 2 _ rfl
  have y3 : u6.cell? ⟨R, 3, none⟩ = _ := R5.out 3 _ rfl
  have y4 : u6.cell? ⟨R, 4, none⟩ = _ := R5.out 4 _ rfl
  have y5 : u6.cell? ⟨R, 5, none⟩ = _ := R5.out 5 _ rfl
  have y6 : u6.cell? ⟨R, 6, none⟩ = _ := R5.out 6 _ rfl
  have y7 : u6.cell? ⟨R, 7, none⟩ = _ := R5.out 7 _ rfl
  have y8 : u6.cell? ⟨R, 8, none⟩ = _ := R5.out 8 _ rfl
  have hb := D5.out.hb
  have hR := D5.out.hR
  have hs := D5.out.g.size
  exact bodyPost_ret (v := .tuple #[.agg #[.slice a0 m0 k0, .int .i64 H.pc, .slice a1 m1 k1, .bool H.halted, .bool H.waiting, .bool H.rung, .int .i64 H.done, .slice a2 m2 k2, .slice a3 m3 k3], .int .i64 (x1 - 1), .int .i64 x5]) (by simp [results, Try.results19, go_sem, y0, y1, y2, y3, y4, y5, y6, y7, y8]) rfl
    ⟨_, _, _, _, _, _, _, _, _, _, _, _, H, _, _, rfl, D5.out.m.imp (fun h => ⟨(M5.out.hm h.1 (fun x e f => by have := (h.1.own x e).1; omega)).mono (by omega), h.2⟩) id, ⟨M5.out.os.trans D5.out.g.os, M5.out.tape.trans D5.out.g.tape, M5.out.output.trans D5.out.g.output, Nat.le_trans D5.out.g.size M5.out.size, fun x hx => (M5.out.block x (by omega) (by omega)).trans (D5.out.g.block x hx)⟩⟩
end Go.Proofs.Ytedilhlcflmgjaa
