/- What FeedHart is drawn for. -/
import Derived.Test.YteaccakodaidpaaHdc
import Derived.Test.YteaccakodaidpaaHfi
namespace Go.Proofs.Yteaccakodaidpaa
open Go.RowKit
set_option linter.unusedVariables false

theorem src_more {S : Nat → Prop} {w w' : World} {b k : Nat} {a : Option Addr} {len cap : Nat} {zs : List Int} (s : Src w b k a len cap zs) (m : Mq S w w') (hb : ∀ x, S x → b < x) : Src w' b k a len cap zs := by
  have hh := s.here
  have hbk : ∀ x, x ≤ b → x < w.heap.size → w'.heap[x]? = w.heap[x]? := fun x hx hl => m.block x hl (fun e => by have := hb x e; omega)
  have hcell : ∀ (p : Addr) (u : Value), p.block ≤ b → w.cell? p = some u → w'.cell? p = some u := fun p u hp hu => by
    have hl := block_of_cell hu
    unfold World.cell? at *
    rw [hbk _ hp hl]
    exact hu
  refine ⟨hcell _ _ (Nat.le_refl _) s.code, hcell _ _ (Nat.le_refl _) s.count, ?_, ?_, s.away, Nat.lt_of_lt_of_le hh m.size⟩
  · rw [World.frozen?_of_block (w := w) (hbk b (Nat.le_refl _) hh)]; exact s.free
  · rcases s.row with h0 | ⟨x, rfl, q1, q2, q3, q4, q5⟩
    · exact .inl h0
    · refine .inr ⟨x, rfl, q1, q2, q3, fun j hj => hcell _ _ ?_ (q4 j hj), q5⟩
      have hx := s.away x rfl (by omega)
      rw [src_block]
      omega
/-- Words that are drawn: their list, the source b. -/
structure Dn (w0 v : World) (b k : Nat) (a : Option Addr) (len cap : Nat) (zs : List Int) (u : Value) (ys : List Int) : Prop where
  src : Src v b k a len cap zs
  n : Nums v (b + 1) u ys
  g : Below w0.heap.size w0 v
  hb : w0.heap.size = b
theorem Dn.turn {w0 v v' : World} {b k k' : Nat} {a : Option Addr} {len cap : Nat} {zs : List Int} {u : Value} {ys : List Int} (h : Dn w0 v b k a len cap zs u ys) (t : Turn b v v') (s : Src v' b k' a len cap zs) : Dn w0 v' b k' a len cap zs u ys :=
  ⟨s, (turn_mq t).nums h.n (fun x e f => by have := (h.n.lt x e).1; omega), h.g.trans (t.below (by have := h.hb; omega) h.g.size), h.hb⟩
theorem Dn.new {w0 v : World} {b k : Nat} {a : Option Addr} {len cap : Nat} {zs : List Int} {u : Value} {ys : List Int} (h : Dn w0 v b k a len cap zs u ys) (o : Obj) : Dn w0 (v.alloc o) b k a len cap zs u ys :=
  ⟨h.src.alloc _, h.n.keep (al (Below.refl _ _) _), al h.g _, h.hb⟩
theorem Dn.app {w0 v v' : World} {b k : Nat} {a : Option Addr} {len cap : Nat} {zs : List Int} {u u' : Value} {ys ys' : List Int} (h : Dn w0 v b k a len cap zs u ys) (n : Nums v' (b + 1) u' ys') (g : v.grownBy v' u.ownBlock) : Dn w0 v' b k a len cap zs u' ys' := by
  have m : Mq (fun x => u.ownBlock = some x) v v' := Mq.of g fun x e => e.symm
  exact ⟨src_more h.src m (fun x e => by have := (h.n.lt x e).1; omega), n, Mq.under h.g m (fun x e => by have := (h.n.lt x e).1; have := h.hb; omega), h.hb⟩
theorem four_at (w : World) (x y : Int) (hx : 0 ≤ x ∧ x ≤ 41) (hy : 0 ≤ y ∧ y ≤ 41) (t : TypeId) : ∀ i, i < 4 → ∃ v : Int, (w.alloc (.cells #[.int .i64 x, .int .i64 y, .int .i64 40, .int .i64 41] t)).cell? ⟨w.heap.size, i, none⟩ = some (.int .i64 v) ∧ (0 ≤ v ∧ v ≤ 41) := by
  intro i hi
  have e : i = 0 ∨ i = 1 ∨ i = 2 ∨ i = 3 := by omega
  rcases e with rfl | rfl | rfl | rfl
  · exact ⟨x, cell_new rfl, hx⟩
  · exact ⟨y, cell_new rfl, hy⟩
  · exact ⟨40, cell_new rfl, by decide⟩
  · exact ⟨41, cell_new rfl, by decide⟩

set_option maxRecDepth 20000 in
set_option maxHeartbeats 16000000 in
theorem drawNew {w : World} {a : Option Addr} {len cap : Nat} {zs : List Int} (hr : IsRow .u8 w a len cap zs) :
    Calls Try.prog 56 #[.slice a len cap] w fun e w' => ∃ v ys, e = .returned v ∧ Nums w' w.heap.size v ys ∧ ys.length ≤ 41 ∧ Below w.heap.size w w' := by
  have HR : Hid (IsRow .u8 w a len cap zs) := hr
  clear hr
  go_enter Try.func56, Try.ntmps56
  go_wp2_with fail
  refine (source_any HR.out).mono ?_
  rintro e w1 ⟨rfl, b1, s1⟩
  obtain ⟨b, hb⟩ : ∃ b, w.heap.size = b := ⟨_, rfl⟩
  have D0 : Hid (Dn w (w1.alloc (.cells #[] 2)) b 0 a len cap zs (.slice (some ⟨w1.heap.size, 0, none⟩) 0 0) []) := ⟨by rw [← hb]; exact s1.alloc _, nums_none w1 (b + 1) (by have := s1.here; omega), al b1 _, hb⟩
  rw [hb]
  clear s1 b1 hb
  go_wp2_with fail
  generalize w1.alloc (.cells #[] 2) = W1 at *
  generalize w1.heap.size = g0 at *
  refine (next_any D0.out.src (by omega) _).mono ?_
  rintro e u1 ⟨x1, rfl, hx1, -, t1, s1⟩
  have D1 : Hid (Dn w u1 b (0 + 1) a len cap zs (.slice (some ⟨g0, 0, none⟩) 0 0) []) := D0.out.turn t1 s1
  have X1 : Hid (0 ≤ x1 ∧ x1 ≤ 41) := by have := hx1 (by decide); exact ⟨by omega, by omega⟩
  clear t1 s1 hx1
  go_wp2_with fail
  refine (next_any D1.out.src (by omega) _).mono ?_
  rintro e u2 ⟨x2, rfl, hx2, -, t1, s1⟩
  have D2 : Hid (Dn w u2 b (0 + 1 + 1) a len cap zs (.slice (some ⟨g0, 0, none⟩) 0 0) []) := D1.out.turn t1 s1
  have X2 : Hid (0 ≤ x2 ∧ x2 ≤ 41) := by have := hx2 (by decide); exact ⟨by omega, by omega⟩
  have D3 : Hid (Dn w (u2.alloc (.cells #[.int .i64 x1, .int .i64 x2, .int .i64 40, .int .i64 41] 2)) b (0 + 1 + 1) a len cap zs (.slice (some ⟨g0, 0, none⟩) 0 0) []) := D2.out.new _
  clear t1 s1 hx2
  go_wp2_with fail
  refine (pick_any D3.out.src (by omega) (fun v => 0 ≤ v ∧ v ≤ 41) _ 4 (by decide) (by decide) (by simp) (by have := D2.out.src.here; omega) (four_at _ _ _ X1.out X2.out _)).mono ?_
  rintro e u4 ⟨x4, rfl, ⟨x40, x41⟩, t1, s1⟩
  have D4 : Hid (Dn w u4 b (0 + 1 + 1 + 1) a len cap zs (.slice (some ⟨g0, 0, none⟩) 0 0) []) := D3.out.turn t1 s1
  obtain ⟨n, rfl⟩ : ∃ n : Nat, x4 = n := ⟨x4.toNat, by omega⟩
  have N4 : Hid (n ≤ 41) := by show _ ≤ _; omega
  clear t1 s1 x40 x41 D3 D2 D1 D0 X1 X2
  go_wp2_with fail
  go_loopw [4, 5] (fun o kk wr => ∃ (ys : List Int) (j kc : Nat), kk = .int .i64 j ∧ ys.length + j ≤ 41 ∧ kc ≤ 3 + 5 * ys.length ∧ Dn w wr b kc a len cap zs o ys) (fun _ kk _ => (intOf kk).toNat)
  case atStart => exact ⟨[], n, 3, rfl, by have := N4.out; simp; omega, by simp, D4.out⟩
  case round =>
    obtain ⟨ys, j, kc, rfl, hj, hk, hD⟩ := hrel
    have DD : Hid (Dn w wr b kc a len cap zs _ ys) := hD
    have KB : Hid (ys.length + j ≤ 41 ∧ kc ≤ 3 + 5 * ys.length) := ⟨hj, hk⟩
    obtain ⟨oa, oc, hv, l1, l2, hg⟩ := hD.n.shape
    obtain ⟨m, hm⟩ : ∃ m, ys.length = m := ⟨_, rfl⟩
    rw [hm] at hv hg
    subst hv
    have HM : Hid (ys.length = m) := hm
    clear hD hj hk D4 l1 l2 hm
    by_cases hlt : 0 < j
    · have hJ : (0 : Int) < (j : Int) := by omega
      have hJ9 : (j : Int) ≤ 41 := by have := KB.out; omega
      have HL : Hid (0 < j) := hlt
      clear hlt hg
      go_wp2_with fail
      refine (word_any DD.out.src (by have := KB.out; omega)).mono ?_
      rintro e u1 ⟨x, rfl, -, t1, s1⟩
      have D1 : Hid (Dn w u1 b (kc + 5) a len cap zs (.slice oa m oc) ys) := DD.out.turn t1 s1
      have D2 : Hid (Dn w (u1.alloc (.cells #[.int .i64 x] 2)) b (kc + 5) a len cap zs (.slice oa m oc) ys) := D1.out.new _
      clear t1 s1
      go_wp2_with (at_builtin; refine wp_appx _ rfl _ _ rfl (b + 1) _ ys rfl D2.out.n _ 1 1 [x] rfl (one_rn u1 x rfl) (by have := KB.out; omega) (by have := D2.out.src.here; omega) ?_; intro v' w' hN' hG'; have D3 : Hid (Dn w w' b (kc + 5) a len cap zs v' (ys ++ [x])) := D2.out.app hN' hG'; clear hN' hG')
      go_roundw
      case rel => exact ⟨ys ++ [x], j - 1, kc + 5, by have := HL.out; go_num, by have := KB.out; have := HL.out; simp; omega, by have := KB.out; simp; omega, D3.out⟩
      case measure => have := HL.out; simp [intOf]; omega
    · have hJ : ¬ (0 : Int) < (j : Int) := by omega
      clear hlt
      by_cases hz : m = 0
      · subst hz
        clear hg
        go_wp2_with fail
        go_ret
        exact ⟨_, rfl, ys, DD.out.n.mono (by have := DD.out.hb; omega), by have := KB.out; omega, DD.out.g⟩
      · obtain ⟨g, rfl⟩ := hg (by have := HM.out; omega)
        have hI : (0 : Int) < (m : Int) := by omega
        have hI2 : 0 < m := by omega
        have HI2 : Hid (0 < m) := hI2
        clear hz
        go_wp2_with fail
        refine (chance_any DD.out.src (by have := KB.out; omega) _).mono ?_
        rintro e u1 ⟨cv, rfl, t1, s1⟩
        have D1 : Hid (Dn w u1 b (kc + 1) a len cap zs (.slice (some ⟨g, 0, none⟩) m oc) ys) := DD.out.turn t1 s1
        clear t1 s1
        cases cv
        · go_wp2_with fail
          go_ret
          exact ⟨_, ys, rfl, D1.out.n.mono (by have := D1.out.hb; omega), by have := KB.out; omega, D1.out.g⟩
        · go_wp2_with fail
          refine (wide_any D1.out.src (by have := KB.out; omega)).mono ?_
          rintro e u2 ⟨x, rfl, -, t1, s1⟩
          have D2 : Hid (Dn w u2 b (kc + 1 + 16) a len cap zs (.slice (some ⟨g, 0, none⟩) m oc) ys) := D1.out.turn t1 s1
          have c0 : u2.cell? ⟨g, 0, none⟩ = some (.int .i64 (ys.getD 0 0)) := D2.out.n.cell HM.out.symm 0 HI2.out
          have f0 := D2.out.n.free HM.out.symm 0
          clear t1 s1
          go_wp2_with fail
          go_ret
          have st := D2.out.n.store 0 x
          have D3 := D2.out.app st.1 st.2
          exact ⟨_, ys.set 0 x, rfl, D3.n.mono (by have := D3.hb; omega), by have := KB.out; simp; omega, D3.g⟩

set_option maxRecDepth 20000 in
set_option maxHeartbeats 16000000 in
theorem drawFeed {w : World} {a : Option Addr} {len cap : Nat} {zs : List Int} (hr : IsRow .u8 w a len cap zs) :
    Calls Try.prog 16 #[.slice a len cap] w fun e w' => ∃ a0 m0 k0 a1 m1 k1 a2 m2 k2 a3 m3 k3 H, ∃ v ys, e = .returned (.tuple #[.agg #[.slice a0 m0 k0, .int .i64 H.pc, .slice a1 m1 k1, .bool H.halted, .bool H.waiting, .bool H.rung, .int .i64 H.done, .slice a2 m2 k2, .slice a3 m3 k3], v]) ∧ ((Hm w' w.heap.size (.slice a0 m0 k0) (.slice a1 m1 k1) (.slice a2 m2 k2) (.slice a3 m3 k3) H ∧ Ha (.slice a0 m0 k0) (.slice a1 m1 k1) (.slice a2 m2 k2) (.slice a3 m3 k3)) ∨ m0 = 15) ∧ Nums w' w.heap.size v ys ∧ ys.length ≤ 41 ∧ Below w.heap.size w w' := by
  obtain ⟨R, hR⟩ : ∃ R, w.heap.size = R := ⟨_, rfl⟩
  have HR : Hid (w.heap.size = R) := hR
  obtain ⟨b, hb⟩ : ∃ b, (w.alloc (.cells #[.slice none 0 0, .int .i64 0, .slice none 0 0, .bool false, .bool false, .bool false, .int .i64 0, .slice none 0 0, .slice none 0 0] 39)).heap.size = b := ⟨_, rfl⟩
  have HB : Hid (R < b) := by show _ < _; rw [← hb, ← hR]; simp
  have TW : Hid (Below w.heap.size w (w.alloc (.cells #[.slice none 0 0, .int .i64 0, .slice none 0 0, .bool false, .bool false, .bool false, .int .i64 0, .slice none 0 0, .slice none 0 0] 39))) := (Below.refl _ _).alloc (Nat.le_refl _) _
  have VW : Hid (Vb (w.alloc (.cells #[.slice none 0 0, .int .i64 0, .slice none 0 0, .bool false, .bool false, .bool false, .int .i64 0, .slice none 0 0, .slice none 0 0] 39)) R #[.slice none 0 0, .int .i64 0, .slice none 0 0, .bool false, .bool false, .bool false, .int .i64 0, .slice none 0 0, .slice none 0 0] 39) := by show Vb _ _ _ _; rw [← hR]; exact Vb.new _ _ _
  have RW : Hid (IsRow .u8 (w.alloc (.cells #[.slice none 0 0, .int .i64 0, .slice none 0 0, .bool false, .bool false, .bool false, .int .i64 0, .slice none 0 0, .slice none 0 0] 39)) a len cap zs) := hr.below TW.out
  clear hr
  go_enter Try.func16, Try.ntmps16
  go_wp2_with fail
  generalize w.alloc (.cells #[.slice none 0 0, .int .i64 0, .slice none 0 0, .bool false, .bool false, .bool false, .int .i64 0, .slice none 0 0, .slice none 0 0] 39) = W at *
  refine (source_any RW.out).mono ?_
  rintro e w1 ⟨rfl, b1, s1⟩
  have V1 : Hid (Vb w1 R #[.slice none 0 0, .int .i64 0, .slice none 0 0, .bool false, .bool false, .bool false, .int .i64 0, .slice none 0 0, .slice none 0 0] 39) := VW.out.keep b1
  have B1 : Hid (Below w.heap.size w w1) := TW.out.trans (b1.mono TW.out.size)
  rw [hb] at s1 b1 ⊢
  have S1 : Hid (Src w1 b 0 a len cap zs) := s1
  clear s1 b1 hb hR
  go_wp2_with fail
  refine (hbent_any S1.out (by decide)).mono ?_
  rintro e w2 ⟨a0, m0, k0, a1, m1, k1, a2, m2, k2, a3, m3, k3, H, rfl, hm2, t2, k', hk', s2⟩
  obtain ⟨q, hq⟩ : ∃ q, w2.heap.size = q := ⟨_, rfl⟩
  have D0 : Hid (Dx w (w2.alloc (.cells #[.slice a0 m0 k0, .int .i64 H.pc, .slice a1 m1 k1, .bool H.halted, .bool H.waiting, .bool H.rung, .int .i64 H.done, .slice a2 m2 k2, .slice a3 m3 k3] 39)) R b (k') a len cap zs q a0 m0 k0 a1 m1 k1 a2 m2 k2 a3 m3 k3 H) := by
    have hRR := HR.out; have hBR := HB.out; have hh := S1.out.here; have ht := t2.size
    refine ⟨s2.alloc _, ?_, by rw [← hq]; exact Vb.new _ _ _, ((turn_mq t2).vb V1.out (fun e => by omega)).push _, (B1.out.trans (t2.below (by omega) B1.out.size)).trans (al (Below.refl _ _) _ |>.mono (by have := B1.out.size; omega)), hRR, hBR, by omega⟩
    rcases hm2 with ⟨h1, h2⟩ | h1
    · exact .inl ⟨(h1.keep (al (Below.refl _ _) _)).mono (by omega), h2⟩
    · exact .inr h1
  clear hm2 t2 hk' s2
  go_upto_region 3 with fail
  generalize w2.alloc (.cells #[.slice a0 m0 k0, .int .i64 H.pc, .slice a1 m1 k1, .bool H.halted, .bool H.waiting, .bool H.rung, .int .i64 H.done, .slice a2 m2 k2, .slice a3 m3 k3] 39) = W2 at *
  clear hq
  have DR : Hid (Dx w W2.drew R b (k') a len cap zs q a0 m0 k0 a1 m1 k1 a2 m2 k2 a3 m3 k3 H) := D0.out.turn (Turn.of_below (Below.refl _ _).drew) (D0.out.src.turn (Turn.of_below (b := W2.heap.size) (Below.refl _ _).drew) (Nat.le_refl _))
  refine wp_region_held (S := fun w' => Vb w' q #[.slice a0 m0 k0, .int .i64 H.pc, .slice a1 m1 k1, .bool H.halted, .bool H.waiting, .bool H.rung, .int .i64 H.done, .slice a2 m2 k2, .slice a3 m3 k3] 39) (by kernel_rfl) ?_
  change wpAnyH _ _ _ _ _ _ _ _ (World.drew _)
  generalize W2.drew = v1 at *
  have SD : Hid (Vb v1 q #[.slice a0 m0 k0, .int .i64 H.pc, .slice a1 m1 k1, .bool H.halted, .bool H.waiting, .bool H.rung, .int .i64 H.done, .slice a2 m2 k2, .slice a3 m3 k3] 39) := DR.out.var
  refine wpAnyH_take (i := 0) (v := .agg #[.slice a0 m0 k0, .int .i64 H.pc, .slice a1 m1 k1, .bool H.halted, .bool H.waiting, .bool H.rung, .int .i64 H.done, .slice a2 m2 k2, .slice a3 m3 k3]) rfl (by kernel_rfl) (by kernel_rfl) (by kernel_rfl) (fun _ _ _ h => h) (yieldsIf_load_mid (by rfl) 39 (.tmp 5) rfl q 0 rfl [.slice a0 m0 k0, .int .i64 H.pc, .slice a1 m1 k1, .bool H.halted, .bool H.waiting, .bool H.rung, .int .i64 H.done, .slice a2 m2 k2, .slice a3 m3 k3] _ (fun w' hs => Vb.range hs) Try.underlying39 rfl (by kernel_rfl)) SD.out ?_
  change wpAnyH _ _ _ _ _ _ _ (Act.put _ (some 10) _) _
  simp only [Act.put, List.setIfInBounds_toArray, List.set_cons_zero, List.set_cons_succ]
  refine wpAnyH_take (i := 1) (v := .slice a len cap) rfl (by kernel_rfl) (by kernel_rfl) (by kernel_rfl) (fun _ _ _ h => h) (Or.inl ⟨by rfl, fun w' hs => by go_simp⟩) SD.out ?_
  change wpAnyH _ _ _ _ _ _ _ (Act.put _ (some 11) _) _
  simp only [Act.put, List.setIfInBounds_toArray, List.set_cons_zero, List.set_cons_succ]
  refine wpAnyH_ready (rs := [2]) (by kernel_rfl) (by simp) ?_
  refine AllReadyH.cons rfl (fun K hK => ?_) AllReadyH.nil
  rw [if_pos (by rfl)]
  go_simp
  refine (drawNew DR.out.src.row).mono ?_
  rintro e u3 ⟨v3, ys, rfl, n3, l3, b3⟩
  have D3 : Hid (Dx w u3 R b (k') a len cap zs q a0 m0 k0 a1 m1 k1 a2 m2 k2 a3 m3 k3 H) := DR.out.turn (Turn.of_below b3) (DR.out.src.turn (Turn.of_below (b := v1.heap.size) b3) (Nat.le_refl _))
  have N3 : Hid (Nums u3 v1.heap.size v3 ys ∧ ys.length ≤ 41) := ⟨n3, l3⟩
  have Z3 : Hid (q < v1.heap.size) := DR.out.var.lt
  clear n3 l3 b3
  refine hK.out _ _ D3.out.var (fun _ => ?_)
  clear hK K
  refine wpAnyH_ready (rs := [3]) (by kernel_rfl) (by simp) ?_
  refine AllReadyH.cons rfl (fun K hK => ?_) AllReadyH.nil
  rw [if_pos (by rfl)]
  refine wp_store_mid 39 (.tmp 2) (.tmp 10) rfl R 0 #[.slice a0 m0 k0, .int .i64 H.pc, .slice a1 m1 k1, .bool H.halted, .bool H.waiting, .bool H.rung, .int .i64 H.done, .slice a2 m2 k2, .slice a3 m3 k3] rfl rfl (D3.out.res.there 9 (by decide)) (by kernel_rfl) (by simp [Value.oneCell']) ?_
  change K (Act.put _ none undef) (World.setCells u3 R 0 [.slice a0 m0 k0, .int .i64 H.pc, .slice a1 m1 k1, .bool H.halted, .bool H.waiting, .bool H.rung, .int .i64 H.done, .slice a2 m2 k2, .slice a3 m3 k3])
  simp only [Act.put]
  have R5 : Hid ((u3.setCells R 0 [.slice a0 m0 k0, .int .i64 H.pc, .slice a1 m1 k1, .bool H.halted, .bool H.waiting, .bool H.rung, .int .i64 H.done, .slice a2 m2 k2, .slice a3 m3 k3]).rangeAt R 0 [.slice a0 m0 k0, .int .i64 H.pc, .slice a1 m1 k1, .bool H.halted, .bool H.waiting, .bool H.rung, .int .i64 H.done, .slice a2 m2 k2, .slice a3 m3 k3]) := World.rangeAt_setCells_same _ _ _ _ (D3.out.res.there 9 (by decide))
  have M5 : Hid (Mq (fun k => k = R) u3 (u3.setCells R 0 [.slice a0 m0 k0, .int .i64 H.pc, .slice a1 m1 k1, .bool H.halted, .bool H.waiting, .bool H.rung, .int .i64 H.done, .slice a2 m2 k2, .slice a3 m3 k3])) := mq_cells R _ u3 0
  generalize u3.setCells R 0 [.slice a0 m0 k0, .int .i64 H.pc, .slice a1 m1 k1, .bool H.halted, .bool H.waiting, .bool H.rung, .int .i64 H.done, .slice a2 m2 k2, .slice a3 m3 k3] = u6 at *
  refine hK.out _ _ (M5.out.vb D3.out.var (by have := D3.out.hb; have := D3.out.hq; omega)) (fun _ => ?_)
  clear hK K
  have S6 : Hid (Vb u6 q #[.slice a0 m0 k0, .int .i64 H.pc, .slice a1 m1 k1, .bool H.halted, .bool H.waiting, .bool H.rung, .int .i64 H.done, .slice a2 m2 k2, .slice a3 m3 k3] 39) := M5.out.vb D3.out.var (by have := D3.out.hb; have := D3.out.hq; omega)
  refine wpAnyH_take (i := 4) (v := v3) rfl (by kernel_rfl) (by kernel_rfl) (by kernel_rfl) (fun _ _ _ h => h) (Or.inl ⟨by rfl, fun w' hs => by go_simp⟩) S6.out ?_
  change wpAnyH _ _ _ _ _ _ _ (Act.put _ (some 3) _) _
  simp only [Act.put, List.setIfInBounds_toArray, List.set_cons_zero, List.set_cons_succ]
  refine wpAnyH_done (by kernel_rfl) ?_ _
  go_wp2_with fail
  have y0 : u6.cell? ⟨R, 0, none⟩ = _ := R5.out 0 _ rfl
  have y1 : u6.cell? ⟨R, 1, none⟩ = _ := R5.out 1 _ rfl
  have y2 : u6.cell? ⟨R, 2, none⟩ = _ := R5.out 2 _ rfl
  have y3 : u6.cell? ⟨R, 3, none⟩ = _ := R5.out 3 _ rfl
  have y4 : u6.cell? ⟨R, 4, none⟩ = _ := R5.out 4 _ rfl
  have y5 : u6.cell? ⟨R, 5, none⟩ = _ := R5.out 5 _ rfl
  have y6 : u6.cell? ⟨R, 6, none⟩ = _ := R5.out 6 _ rfl
  have y7 : u6.cell? ⟨R, 7, none⟩ = _ := R5.out 7 _ rfl
  have y8 : u6.cell? ⟨R, 8, none⟩ = _ := R5.out 8 _ rfl
  have hb := D3.out.hb
  have hR := D3.out.hR
  have hs := D3.out.g.size
  have hq := D3.out.hq
  have hz := Z3.out
  exact bodyPost_ret (v := .tuple #[.agg #[.slice a0 m0 k0, .int .i64 H.pc, .slice a1 m1 k1, .bool H.halted, .bool H.waiting, .bool H.rung, .int .i64 H.done, .slice a2 m2 k2, .slice a3 m3 k3], v3]) (by simp [results, Try.results16, go_sem, y0, y1, y2, y3, y4, y5, y6, y7, y8]) rfl
    ⟨_, _, _, _, _, _, _, _, _, _, _, _, H, v3, ys, rfl, D3.out.m.imp (fun h => ⟨(M5.out.hm h.1 (fun x e f => by have := (h.1.own x e).1; omega)).mono (by omega), h.2⟩) id, (M5.out.nums N3.out.1 (fun x e f => by have := (N3.out.1.lt x e).1; omega)).mono (by omega), N3.out.2, ⟨M5.out.os.trans D3.out.g.os, M5.out.tape.trans D3.out.g.tape, M5.out.output.trans D3.out.g.output, Nat.le_trans D3.out.g.size M5.out.size, fun x hx => (M5.out.block x (by omega) (by omega)).trans (D3.out.g.block x hx)⟩⟩
end Go.Proofs.Yteaccakodaidpaa
