/- A hit filled in where there is no room: the first one goes. -/
import Derived.Test.YtaajaikpkcgalaaItl
import Derived.Deep.Cut
import Derived.Deep.CutRange
namespace Go.Proofs.Ytaajaikpkcgalaa
open Go.RowKit
set_option linter.unusedVariables false

theorem cell_onMap {w w' : World} {mb n : Nat} {s : List (Int × Qd)} (hm : Hm w mb n s) (G : w.grownBy w' (some mb)) {a : Addr} {v : Value} (h : w.cell? a = some v) : w'.cell? a = some v := by
  have hne := hm.apartB h
  rw [World.cell?_of_block (w := w) (G.block a.block (block_of_cell h) (fun e => hne (by cases e; rfl)))]; exact h
theorem frozen_onMap {w w' : World} {mb n : Nat} {s : List (Int × Qd)} (hm : Hm w mb n s) (G : w.grownBy w' (some mb)) {a : Addr} {v : Value} (h : w.cell? a = some v) (hf : w.frozen? a = false) : w'.frozen? a = false := by
  have hne := hm.apartB h
  rw [World.frozen?_of_block (w := w) (G.block a.block (block_of_cell h) (fun e => hne (by cases e; rfl)))]; exact hf

set_option maxRecDepth 100000 in
set_option maxHeartbeats 8000000 in
theorem impl_fill_full (q : Qd) (s : List (Int × Qd)) (nx : Int) (base sb mb n : Nat) (w : World) (S : St w base sb mb n s nx) (hq : okQ q = true) (hn : n < 1000) (hx : 0 ≤ nx ∧ nx ≤ 1000) (hno : s.any (sel q.tag q.page) = false) (hlen : s.length = 12) (hrise : s.Pairwise fun a b => a.1 < b.1) :
    Calls Try.prog 25 #[.pointer (some ⟨sb, 0, none⟩), q.val] w fun e w' => e = .returned (.tuple #[]) ∧ St w' base sb mb (n + 1) (s.tail ++ [(nx, q)]) (nx + 1) ∧ Below base w w' ∧ Asd sb mb w w' := by
  have hk := impl_keyOf q
  have hq2 := okQ_iff.1 hq
  have wt : wfI q.tag := wf_small hq2.1 (by omega)
  have wp : wfI q.page := wf_small hq2.2.2.1 (by omega)
  have HS : Hid (St w base sb mb n s nx) := S
  have HQ : Hid (okQ q = true ∧ wfI q.tag ∧ wfI q.page) := ⟨hq, wt, wp⟩
  have HLEN : Hid (s.length = 12) := hlen
  have HRISE : Hid (s.Pairwise fun a b => a.1 < b.1) := hrise
  clear S hq hq2 wt wp hlen hrise
  obtain ⟨t, p, o, k⟩ := q
  unfold Qd.val at hk ⊢
  simp only at hk HQ hno ⊢
  go_enter Try.func25, Try.ntmps25
  go_wp2_with (go_at_call 41; refine (hk _).mono ?_; rintro e w1 ⟨rfl, b1⟩)
  obtain ⟨u, hu⟩ : ∃ u, w1.alloc (.cells #[.int .i64 t, .int .i64 p] 59) = u := ⟨_, rfl⟩
  have BU : Below w.heap.size w u := by rw [← hu]; exact al (on (al (Below.refl _ _) _) b1) _
  have SU : St u base sb mb n s nx := HS.out.keep BU
  have h0 : u.cell? ⟨w.heap.size, 2, none⟩ = some (.int .i64 o) := by rw [← hu]; exact cell_push _ (cell_keep b1 (cell_new rfl))
  have h1 : u.cell? ⟨w.heap.size, 3, none⟩ = some (.int .i64 k) := by rw [← hu]; exact cell_push _ (cell_keep b1 (cell_new rfl))
  have k0 : u.cell? ⟨w1.heap.size, 0, none⟩ = some (.int .i64 t) := by rw [← hu]; exact cell_new rfl
  have k1 : u.cell? ⟨w1.heap.size, 1, none⟩ = some (.int .i64 p) := by rw [← hu]; exact cell_new rfl
  rw [hu]
  clear hu b1 hk
  generalize w1.heap.size = kb at *
  have HU : Hid (Below w.heap.size w u) := BU
  obtain ⟨gb, hgb⟩ : ∃ gb, w.heap.size = gb := ⟨_, rfl⟩
  rw [hgb] at h0 h1 ⊢
  clear hgb
  have s0 := SU.c0
  have s1 := SU.c1
  have f1 := SU.f1
  have z0 : sb < u.heap.size := block_of_cell s0
  have z1 : gb < u.heap.size := block_of_cell h0
  have z2 : kb < u.heap.size := block_of_cell k0
  have L1 := SU.hm.drew.lookOk HQ.out.2.1 HQ.out.2.2
  have L2 := (SU.hm.alloc (.cells #[.int .i64 0, .int .i64 0, .int .i64 0] 53)).drew.lookOk HQ.out.2.1 HQ.out.2.2
  have HSU : Hid (St u base sb mb n s nx) := SU
  generalize (fnd s t p).1 = e1 at L1 L2
  generalize (fnd s t p).2.to = e2 at L1 L2
  generalize (fnd s t p).2.kinds = e3 at L1 L2
  clear SU BU
  have z3 := HSU.out.hm.lt
  go_region
  all_goals
    obtain ⟨v, hv⟩ : ∃ v, (u.alloc (.cells #[.int .i64 e1, .int .i64 e2, .int .i64 e3] 53)).drew = v := ⟨_, rfl⟩
    have BV : Below u.heap.size u v := by rw [← hv]; exact (al (Below.refl _ _) _).drew
    rw [hv]
    clear hv L1 L2
    have SV := HSU.out.keep BV
    have h0 := cell_keep BV h0
    have h1 := cell_keep BV h1
    have k0 := cell_keep BV k0
    have k1 := cell_keep BV k1
    have s0 := SV.c0
    have s1 := SV.c1
    have f1 := SV.f1
    have z0 : sb < v.heap.size := block_of_cell s0
    have z1 : gb < v.heap.size := block_of_cell h0
    have z2 : kb < v.heap.size := block_of_cell k0
    have SVH : Hid (St v base sb mb n s nx) := SV
    have BW : Hid (Below base w v) := by
      refine Below.trans (Below.mono HU.out ?_) (BV.mono (Nat.le_trans HSU.out.b1 (Nat.le_of_lt (block_of_cell HSU.out.c0))))
      exact Nat.le_trans HS.out.b1 (Nat.le_of_lt (block_of_cell HS.out.c0))
    have HT := impl_inTurn base sb mb n s nx v.drew ⟨SV.hm.drew, s0, s1, f1, SV.b1, SV.b2⟩ (Nat.le_of_eq HLEN.out) HRISE.out
    have HL := SV.hm.len 3
    have hli : (s.length : Int) = 12 := by have := HLEN.out; omega
    rw [hli] at HL
    obtain ⟨e0, r0, hs⟩ : ∃ e0 r0, s = e0 :: r0 := by
      have := HLEN.out
      cases s with
      | nil => simp at this
      | cons a b => exact ⟨a, b, rfl⟩
    have HHD : Hid (s = e0 :: r0) := hs
    have HTL : Hid (drp s e0.2.tag e0.2.page = s.tail) := by
      show _ = _
      have hap := SVH.out.hm.apart
      rw [hs] at hap ⊢
      obtain ⟨a1, _⟩ := List.pairwise_cons.1 hap
      have hn : r0.any (sel e0.2.tag e0.2.page) = false := by
        rw [List.any_eq_false]
        intro y hy
        rw [sel_iff]
        exact fun ⟨b1, b2⟩ => a1 y hy ⟨b1.symm, b2.symm⟩
      have h2 := drp_none hn
      unfold drp at h2 ⊢
      rw [List.filter_cons_of_neg (by simp [sel_iff.2 ⟨rfl, rfl⟩]), h2]
      rfl
    have HKE : Hid (0 ≤ e0.2.tag ∧ e0.2.tag ≤ 9 ∧ 0 ≤ e0.2.page ∧ e0.2.page ≤ 7) := SVH.out.hm.keys e0 (by rw [hs]; exact List.mem_cons_self)
    have HK0 : Hid ((keysOf s).getD 0 (0, 0) = (e0.2.tag, e0.2.page) ∧ (keysOf s).length = 12) := ⟨by rw [hs]; rfl, by simp [keysOf]; exact HLEN.out⟩
    clear hs hli
    generalize e0.2.tag = t0 at HTL HKE HK0
    generalize e0.2.page = p0 at HTL HKE HK0
    have AV : Hid (w.heap.size ≤ v.heap.size ∧ ∀ j, j < w.heap.size → v.heap[j]? = w.heap[j]?) := ⟨Nat.le_trans HU.out.size BV.size, fun j hj => (BV.block j (Nat.lt_of_lt_of_le hj HU.out.size)).trans (HU.out.block j hj)⟩
    clear SV BV
    go_wp2_with fail
    go_region_with (go_at_call 44; refine HT.mono ?_; rintro e y ⟨kv, rfl, hkv, hb⟩; have hb : Below v.heap.size v y := on (Below.refl _ _).drew hb; obtain ⟨ka, kc, rfl, _, _, hkg⟩ := hkv.shape; rw [HK0.out.2] at hkv hkg; obtain ⟨kg, rfl⟩ := hkg (by omega); have kc0 := (hkv.cell HK0.out.2.symm 0 (by omega)).1; have kc1 := (hkv.cell HK0.out.2.symm 0 (by omega)).2; rw [HK0.out.1] at kc0 kc1; have SY : Hid (St y base sb mb n s nx) := SVH.out.keep hb; have sy0 := SY.out.c0; rw [HK0.out.2]; obtain ⟨y2, hdel, HY2, GY2⟩ := SY.out.hm.del (wf_small HKE.out.1 (by have := HKE.out; omega)) (wf_small HKE.out.2.2.1 (by have := HKE.out; omega)) 0; clear hkv hkg)
    all_goals
      have h0 := cell_onMap SY.out.hm GY2 (cell_keep hb h0)
      have h1 := cell_onMap SY.out.hm GY2 (cell_keep hb h1)
      have k0 := cell_onMap SY.out.hm GY2 (cell_keep hb k0)
      have k1 := cell_onMap SY.out.hm GY2 (cell_keep hb k1)
      have s0 := cell_onMap SY.out.hm GY2 SY.out.c0
      have s1 := cell_onMap SY.out.hm GY2 SY.out.c1
      have f1 := frozen_onMap SY.out.hm GY2 SY.out.c1 SY.out.f1
      have z0 : sb < y2.heap.size := block_of_cell s0
      have z1 : gb < y2.heap.size := block_of_cell h0
      have z2 : kb < y2.heap.size := block_of_cell k0
      have hbv : base ≤ v.heap.size := Nat.le_trans SVH.out.b1 (Nat.le_of_lt (block_of_cell SVH.out.c0))
      have BY : Hid (Below base w y2) := (BW.out.trans (hb.mono hbv)).grown GY2 (Nat.le_trans hbv hb.size) (fun j hj => by cases hj; exact SVH.out.b2)
      rw [HTL.out] at HY2
      have hno2 : s.tail.any (sel t p) = false := by
        have := hno
        rw [HHD.out] at this ⊢
        rw [List.any_cons, Bool.or_eq_false_iff] at this
        exact this.2
      obtain ⟨x, hrun, HX, GX⟩ := HY2.drew.store hn nx ⟨t, p, o, k⟩ (by have := okQ_iff.1 HQ.out.1; simp only at this; exact ⟨this.1, this.2.1, this.2.2.1, this.2.2.2.1⟩)
      simp only at hrun HX
      rw [drp_none hno2] at HX
      have x0 := cell_onMap HY2.drew GX s0
      have x1 := cell_onMap HY2.drew GX s1
      have y1 := frozen_onMap HY2.drew GX s1 f1
      have zx : sb < x.heap.size := block_of_cell x0
      have HE : Hid (St (x.setCell ⟨sb, 1, none⟩ (.int .i64 (nx + 1))) base sb mb (n + 1) (s.tail ++ [(nx, ⟨t, p, o, k⟩)]) (nx + 1) ∧ Below base w (x.setCell ⟨sb, 1, none⟩ (.int .i64 (nx + 1))) ∧ Asd sb mb w (x.setCell ⟨sb, 1, none⟩ (.int .i64 (nx + 1)))) := by
        have B1 : Below base w x := BY.out.drew.grown GX (Nat.le_trans hbv (Nat.le_trans hb.size GY2.size)) (fun j hj => by cases hj; exact SVH.out.b2)
        have hne := HY2.apartB s0
        exact ⟨⟨HX.put (a := ⟨sb, 1, none⟩) hne _, by simp [go_sem, x0], by simp [go_sem, x1], by rw [World.frozen?_setCell]; exact y1, SVH.out.b1, SVH.out.b2⟩, B1.setCell SVH.out.b1 _, fun j hj h1 h2 => (heap_setCell_other x ⟨sb, 1, none⟩ j _ h1).trans ((GX.block j (Nat.lt_of_lt_of_le hj (Nat.le_trans AV.out.1 (Nat.le_trans hb.size GY2.size))) (fun e => h2 (Option.some.inj e))).trans ((GY2.block j (Nat.lt_of_lt_of_le hj (Nat.le_trans AV.out.1 hb.size)) (fun e => h2 (Option.some.inj e))).trans ((hb.block j (Nat.lt_of_lt_of_le hj AV.out.1)).trans (AV.out.2 j hj))))⟩
      clear HX GX HY2 GY2 hb hdel kc0 kc1 sy0 hno hno2 HL
      go_wp2_with fail
      go_region
      all_goals go_wp2_with fail
      all_goals go_end0
      all_goals exact ⟨rfl, HE.out⟩

/-- The store behind a hit that is filled in. -/
def fillS (s : List (Int × Qd)) (q : Qd) (nx : Int) : List (Int × Qd) := (if s.any (sel q.tag q.page) then drp s q.tag q.page else if s.length = 12 then s.tail else s) ++ [(nx, q)]
theorem impl_fill (q : Qd) (s : List (Int × Qd)) (nx : Int) (base sb mb n : Nat) (w : World) (S : St w base sb mb n s nx) (hq : okQ q = true) (hn : n < 1000) (hx : 0 ≤ nx ∧ nx ≤ 1000) (hrise : s.Pairwise fun a b => a.1 < b.1) :
    Calls Try.prog 25 #[.pointer (some ⟨sb, 0, none⟩), q.val] w fun e w' => e = .returned (.tuple #[]) ∧ St w' base sb mb (n + 1) (fillS s q nx) (nx + 1) ∧ Below base w w' ∧ Asd sb mb w w' := by
  unfold fillS
  cases ha : s.any (sel q.tag q.page)
  · by_cases hl : s.length = 12
    · have := impl_fill_full q s nx base sb mb n w S hq hn hx ha hl hrise
      simpa [hl] using this
    · have := impl_fill_room q s nx base sb mb n w S hq hn hx (.inr (by omega))
      rw [drp_none ha] at this
      simpa [hl] using this
  · have := impl_fill_room q s nx base sb mb n w S hq hn hx (.inl ha)
    simpa using this
end Go.Proofs.Ytaajaikpkcgalaa
