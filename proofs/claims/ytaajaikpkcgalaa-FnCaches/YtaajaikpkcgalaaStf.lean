/- A hit filled in where there is room. -/
import Derived.Test.YtaajaikpkcgalaaSto
import Derived.Deep.Cut
import Derived.Deep.CutRange
namespace Go.Proofs.Ytaajaikpkcgalaa
open Go.RowKit
set_option linter.unusedVariables false

/-- From one world to another: what lies beside two blocks stays. -/
def Asd (sb mb : Nat) (w w' : World) : Prop := ∀ j, j < w.heap.size → j ≠ sb → j ≠ mb → w'.heap[j]? = w.heap[j]?

set_option maxRecDepth 100000 in
set_option maxHeartbeats 2000000 in
theorem impl_fill_room (q : Qd) (s : List (Int × Qd)) (nx : Int) (base sb mb n : Nat) (w : World) (S : St w base sb mb n s nx) (hq : okQ q = true) (hn : n < 1000) (hx : 0 ≤ nx ∧ nx ≤ 1000) (hr : s.any (sel q.tag q.page) = true ∨ (s.length : Int) ≠ 12) :
    Calls Try.prog 25 #[.pointer (some ⟨sb, 0, none⟩), q.val] w fun e w' => e = .returned (.tuple #[]) ∧ St w' base sb mb (n + 1) (drp s q.tag q.page ++ [(nx, q)]) (nx + 1) ∧ Below base w w' ∧ Asd sb mb w w' := by
  have hk := impl_keyOf q
  have hq2 := okQ_iff.1 hq
  have wt : wfI q.tag := wf_small hq2.1 (by omega)
  have wp : wfI q.page := wf_small hq2.2.2.1 (by omega)
  have HS : Hid (St w base sb mb n s nx) := S
  have HQ : Hid (okQ q = true ∧ wfI q.tag ∧ wfI q.page) := ⟨hq, wt, wp⟩
  clear S hq hq2 wt wp
  obtain ⟨t, p, o, k⟩ := q
  unfold Qd.val at hk ⊢
  simp only at hk HQ hr ⊢
  go_enter Try.func25, Try.ntmps25
  go_wp2_with (go_at_call 41; refine (hk _).mono ?_; rintro e w1 ⟨rfl, b1⟩)
  obtain ⟨u, hu⟩ : ∃ u, w1.alloc (.cells #[.int .i64 t, .int .i64 p] 59) = u := ⟨_, rfl⟩
  have BU : Below w.heap.size w u := by rw [← hu]; exact al (on (al (Below.refl _ _) _) b1) _
  have SU : St u base sb mb n s nx := HS.out.keep BU
  have h0 : u.cell? ⟨w.heap.size, 2, none⟩ = some (.int .i64 o) := by rw [← hu]; exact cell_push _ (cell_keep b1 (cell_new rfl))
  have h1 : u.cell? ⟨w.heap.size, 3, none⟩ = some (.int .i64 k) := by rw [← hu]; exact cell_push _ (cell_keep b1 (cell_new rfl))
  have k0 : u.cell? ⟨w1.heap.size, 0, none⟩ = some (.int .i64 t) := by rw [← hu]; exact cell_new rfl
  have k1 : u.cell? ⟨w1.heap.size, 1, none⟩ = some (.int .i64 p) := by rw [← hu]; exact cell_new rfl
  rw [hu]
  clear hu b1 hk
  generalize w1.heap.size = kb at *
  have HU : Hid (Below w.heap.size w u) := BU
  obtain ⟨gb, hgb⟩ : ∃ gb, w.heap.size = gb := ⟨_, rfl⟩
  rw [hgb] at h0 h1 ⊢
  clear hgb
  have s0 := SU.c0
  have s1 := SU.c1
  have f1 := SU.f1
  have z0 : sb < u.heap.size := block_of_cell s0
  have z1 : gb < u.heap.size := block_of_cell h0
  have z2 : kb < u.heap.size := block_of_cell k0
  have L1 := SU.hm.drew.lookOk HQ.out.2.1 HQ.out.2.2
  have L2 := (SU.hm.alloc (.cells #[.int .i64 0, .int .i64 0, .int .i64 0] 53)).drew.lookOk HQ.out.2.1 HQ.out.2.2
  have HSU : Hid (St u base sb mb n s nx) := SU
  generalize (fnd s t p).1 = e1 at L1 L2
  generalize (fnd s t p).2.to = e2 at L1 L2
  generalize (fnd s t p).2.kinds = e3 at L1 L2
  clear SU BU
  have z3 := HSU.out.hm.lt
  go_region
  all_goals
    obtain ⟨v, hv⟩ : ∃ v, (u.alloc (.cells #[.int .i64 e1, .int .i64 e2, .int .i64 e3] 53)).drew = v := ⟨_, rfl⟩
    have BV : Below u.heap.size u v := by rw [← hv]; exact (al (Below.refl _ _) _).drew
    rw [hv]
    clear hv L1 L2
    have SV := HSU.out.keep BV
    have h0 := cell_keep BV h0
    have h1 := cell_keep BV h1
    have k0 := cell_keep BV k0
    have k1 := cell_keep BV k1
    have s0 := SV.c0
    have s1 := SV.c1
    have f1 := SV.f1
    have z0 : sb < v.heap.size := block_of_cell s0
    have z1 : gb < v.heap.size := block_of_cell h0
    have z2 : kb < v.heap.size := block_of_cell k0
    obtain ⟨x, hrun, HX, GX⟩ := SV.hm.drew.store hn nx ⟨t, p, o, k⟩ (by have := okQ_iff.1 HQ.out.1; simp only at this; exact ⟨this.1, this.2.1, this.2.2.1, this.2.2.2.1⟩)
    simp only at hrun HX
    have hne : sb ≠ mb := (SV.hm.apartB s0).symm
    have x0 : x.cell? ⟨sb, 0, none⟩ = some (.map (some mb)) := by
      rw [World.cell?_of_block (w := v.drew) (GX.block sb z0 (fun e => hne (by cases e; rfl)))]; exact s0
    have x1 : x.cell? ⟨sb, 1, none⟩ = some (.int .i64 nx) := by
      rw [World.cell?_of_block (w := v.drew) (GX.block sb z0 (fun e => hne (by cases e; rfl)))]; exact s1
    have y1 : x.frozen? ⟨sb, 1, none⟩ = false := by
      rw [World.frozen?_of_block (w := v.drew) (GX.block sb z0 (fun e => hne (by cases e; rfl)))]; exact f1
    have zx : sb < x.heap.size := block_of_cell x0
    have HE : Hid (St (x.setCell ⟨sb, 1, none⟩ (.int .i64 (nx + 1))) base sb mb (n + 1) (drp s t p ++ [(nx, ⟨t, p, o, k⟩)]) (nx + 1) ∧ Below base w (x.setCell ⟨sb, 1, none⟩ (.int .i64 (nx + 1))) ∧ Asd sb mb w (x.setCell ⟨sb, 1, none⟩ (.int .i64 (nx + 1)))) := by
      have hbs : base ≤ v.heap.size := Nat.le_trans SV.b1 (Nat.le_of_lt z0)
      have B0 : Below base w v := by
        refine Below.trans (Below.mono HU.out ?_) (BV.mono (Nat.le_trans HSU.out.b1 (Nat.le_of_lt (block_of_cell HSU.out.c0))))
        exact Nat.le_trans HS.out.b1 (Nat.le_of_lt (block_of_cell HS.out.c0))
      have B1 : Below base w x := B0.drew.grown GX hbs (fun j hj => by cases hj; exact SV.b2)
      exact ⟨⟨HX.put (a := ⟨sb, 1, none⟩) hne.symm _, by simp [go_sem, x0], by simp [go_sem, x1], by rw [World.frozen?_setCell]; exact y1, SV.b1, SV.b2⟩, B1.setCell SV.b1 _, fun j hj h1 h2 => (heap_setCell_other x ⟨sb, 1, none⟩ j _ h1).trans ((GX.block j (Nat.lt_of_lt_of_le hj (Nat.le_trans HU.out.size BV.size)) (fun e => h2 (Option.some.inj e))).trans ((BV.block j (Nat.lt_of_lt_of_le hj HU.out.size)).trans (HU.out.block j hj)))⟩
    have HL := SV.hm.len 3
    clear HX GX SV BV
    cases ha : s.any (sel t p)
    · have hr : (s.length : Int) ≠ 12 := by rcases hr with hr | hr; (rw [hr] at ha; cases ha); exact hr
      have hr2 : ((s.length : Int) == 12) = false := by simpa using hr
      generalize (s.length : Int) = m at *
      go_wp2_with fail
      go_region
      all_goals go_wp2_with fail
      all_goals go_end0
      all_goals exact ⟨rfl, HE.out⟩
    · clear HL hr
      go_wp2_with fail
      go_region
      all_goals go_wp2_with fail
      all_goals go_end0
      all_goals exact ⟨rfl, HE.out⟩
theorem impl_fill_room0 (q : Qd) (s : List (Int × Qd)) (nx : Int) (base sb mb n : Nat) (w : World) (S : St w base sb mb n s nx) (hq : okQ q = true) (hn : n < 1000) (hx : 0 ≤ nx ∧ nx ≤ 1000) (hr : s.any (sel q.tag q.page) = true ∨ (s.length : Int) ≠ 12) :
    Calls Try.prog 25 #[.pointer (some ⟨sb, 0, none⟩), q.val] w fun e w' => e = .returned (.tuple #[]) ∧ St w' base sb mb (n + 1) (drp s q.tag q.page ++ [(nx, q)]) (nx + 1) ∧ Below base w w' :=
  (impl_fill_room q s nx base sb mb n w S hq hn hx hr).mono fun e w' h => ⟨h.1, h.2.1, h.2.2.1⟩
end Go.Proofs.Ytaajaikpkcgalaa
