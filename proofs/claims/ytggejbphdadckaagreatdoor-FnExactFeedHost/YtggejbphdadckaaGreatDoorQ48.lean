/- Texts of this seat, joined. -/
import Derived.Deep.RegionWith
import Derived.Deep.RegionHeld3
import Derived.Deep.Cut
import Derived.Deep.CutRange
import Derived.Test.YtggejbphdadckaaGreatDoorQ29
import Derived.Test.YtggejbphdadckaaGreatDoorQ46
namespace Go.Proofs.YtggejbphdadckaaGreatDoor
open Go.RowKit
set_option linter.unusedVariables false
def Ra (base : Nat) (a0 a1 a2 a3 : Option Addr) (n0 c0 n1 c1 n2 c2 n3 c3 lh : Nat) (X : Hst) (e : Ending) (w' : World) : Prop := ∃ (q g : Nat) (v : Value) (rs : List Gs), e = .returned (.pointer (some ⟨q, 0, none⟩)) ∧ Vb w' q #[.int .i64 X.slot, .int .i64 X.left, .int .i64 X.clock, .slice a0 n0 c0, .slice a1 n1 c1, .slice a2 n2 c2, .slice a3 n3 c3, .slice (some ⟨g, 0, none⟩) 24 24, v] 148 ∧ Pags w' base (.slice (some ⟨g, 0, none⟩) 24 24) 24 X.mem ∧ Gw w' base (.slice (some ⟨g, 0, none⟩) 24 24) v X.harts X.pol lh rs ∧ base ≤ q
def Sq5 (B q g t : Nat) (wr w' : World) : Prop := Mq (fun k => (B ≤ k ∧ k ≠ t) ∨ k = q) wr w' ∧ w'.cell? ⟨q, 7, none⟩ = some (.slice (some ⟨g, 0, none⟩) 24 24)
theorem Sq5.step {B q g t : Nat} {wr u u' : World} (h : Sq5 B q g t wr u) (b : Below u.heap.size u u') : Sq5 B q g t wr u' := ⟨h.1.trans (mq_belowX b), cell_keep b h.2⟩
set_option maxRecDepth 20000 in
set_option maxHeartbeats 8000000 in
theorem i_runningOf (a0 a1 a2 a3 : Option Addr) (n0 c0 n1 c1 n2 c2 n3 c3 : Nat) (am : Option Addr) (lm cm : Nat) (ah : Option Addr) (lh ch : Nat) (X : Hst) (b : Nat) (w : World) (d : Oj w b a0 n0 c0 a1 n1 c1 a2 n2 c2 a3 n3 c3 (.slice am lm cm) (.slice ah lh ch) X) (z : Hoz X) :
    Calls Tryz.prog 63 #[.agg #[.slice a0 n0 c0, .slice a1 n1 c1, .slice a2 n2 c2, .slice a3 n3 c3, .slice am lm cm, .slice ah lh ch, .int .i64 X.slot, .int .i64 X.left, .int .i64 X.clock]] w fun e w' => Ra w.heap.size a0 a1 a2 a3 n0 c0 n1 c1 n2 c2 n3 c3 lh X e w' ∧ Below w.heap.size w w' := by
  generalize hW : w.alloc (.cells #[.slice a0 n0 c0, .slice a1 n1 c1, .slice a2 n2 c2, .slice a3 n3 c3, .slice am lm cm, .slice ah lh ch, .int .i64 X.slot, .int .i64 X.left, .int .i64 X.clock] 40) = W
  have B0 : Hid (Below w.heap.size w W) := by show Below _ _ _; rw [← hW]; exact al (Below.refl _ _) _
  obtain ⟨s, hS⟩ : ∃ s, w.heap.size = s := ⟨_, rfl⟩
  have HSs : Hid (w.heap.size = s) := hS
  have Q : Hid (Vb W s #[.slice a0 n0 c0, .slice a1 n1 c1, .slice a2 n2 c2, .slice a3 n3 c3, .slice am lm cm, .slice ah lh ch, .int .i64 X.slot, .int .i64 X.left, .int .i64 X.clock] 40) := by show Vb _ _ _ _; rw [← hW, ← hS]; exact Vb.new _ _ _
  have ZW : Hid (s + 1 = W.heap.size) := by show _ = _; rw [← hW, ← hS]; simp
  have D : Hid (Oj W b a0 n0 c0 a1 n1 c1 a2 n2 c2 a3 n3 c3 (.slice am lm cm) (.slice ah lh ch) X) := d.keep B0.out
  have HZ : Hid (Hoz X) := z
  have LH : Hid (lh = X.harts.length) := by obtain ⟨_, _, e, _⟩ := d.harts.shape; simp at e; exact e.2.1
  have N0 : Hid (n0 = X.pol.own.length) := d.pol.own.len
  have lh3 : (lh : Int) ≤ 3 := by have := z.hl; have := z.own; have := LH.out; omega
  obtain ⟨gm, hgm⟩ : ∃ g, am = some ⟨g, 0, none⟩ := by
    obtain ⟨_, _, e, _, _, hg⟩ := d.mem.shape
    simp at e
    obtain ⟨g, eg⟩ := hg (by rw [z.ml]; decide)
    exact ⟨g, by rw [e.1, eg]⟩
  subst hgm
  clear d z
  go_enter Tryz.func63, Tryz.ntmps63
  go_upto_region 1 with fail
  clear hW hS
  have SU : Hid (Below W.heap.size W W.drew) := (Below.refl _ _).drew
  refine wp_region_held (S := fun w' => Below W.heap.size W w') (by kernel_rfl) ?_
  change wpAnyH _ _ _ _ _ _ _ _ (World.drew _)
  generalize W.drew = u0 at *
  refine wpTk (i := 0) (v := (.agg #[.slice a0 n0 c0, .slice a1 n1 c1, .slice a2 n2 c2, .slice a3 n3 c3, .slice (some ⟨gm, 0, none⟩) lm cm, .slice ah lh ch, .int .i64 X.slot, .int .i64 X.left, .int .i64 X.clock])) rfl (Or.inl ⟨by rfl, fun w' hs => by have qv := Q.out.keep hs; have y0 := qv.cell 0 rfl; have y1 := qv.cell 1 rfl; have y2 := qv.cell 2 rfl; have y3 := qv.cell 3 rfl; have y4 := qv.cell 4 rfl; have y5 := qv.cell 5 rfl; have y6 := qv.cell 6 rfl; have y7 := qv.cell 7 rfl; have y8 := qv.cell 8 rfl; go_simp⟩) SU.out ?_
  change wpAnyH _ _ _ _ _ _ _ (Act.put _ (some 6) _) _
  simp only [Act.put, zT, zZ, zS]
  refine wpTk (i := 2) (v := (.pointer (some ⟨s, 0, none⟩))) rfl (Or.inl ⟨by rfl, fun w' hs => by go_simp⟩) SU.out ?_
  change wpAnyH _ _ _ _ _ _ _ (Act.put _ (some 8) _) _
  simp only [Act.put, zT, zZ, zS]
  refine wpTk (i := 3) (v := (.agg #[.slice a0 n0 c0, .slice a1 n1 c1, .slice a2 n2 c2, .slice a3 n3 c3])) rfl (Or.inl ⟨by rfl, fun w' hs => by have qv := Q.out.keep hs; have y0 := qv.cell 0 rfl; have y1 := qv.cell 1 rfl; have y2 := qv.cell 2 rfl; have y3 := qv.cell 3 rfl; go_simp⟩) SU.out ?_
  change wpAnyH _ _ _ _ _ _ _ (Act.put _ (some 9) _) _
  simp only [Act.put, zT, zZ, zS]
  refine wpTk (i := 4) (v := (.pointer (some ⟨s, 4, none⟩))) rfl (Or.inl ⟨by rfl, fun w' hs => by go_simp⟩) SU.out ?_
  change wpAnyH _ _ _ _ _ _ _ (Act.put _ (some 10) _) _
  simp only [Act.put, zT, zZ, zS]
  refine wpTk (i := 5) (v := (.slice (some ⟨gm, 0, none⟩) lm cm)) rfl (Or.inl ⟨by rfl, fun w' hs => by have y := (Q.out.keep hs).cell 4 rfl; go_simp⟩) SU.out ?_
  change wpAnyH _ _ _ _ _ _ _ (Act.put _ (some 11) _) _
  simp only [Act.put, zT, zZ, zS]
  refine zR 1 rfl fun K hK => ?_
  rw [if_pos (by rfl)]
  go_simp
  refine (i_turnOf _ _ _ _ _ _ _ _ _ _ _ _ _ _ _ _ _ _ X _).mono ?_
  rintro e u1 ⟨rfl, b1⟩
  replace SU : Hid (Below W.heap.size W u1) := on SU.out b1
  clear b1
  refine hK.out _ _ SU.out (fun _ => ?_)
  clear hK K
  refine zR 6 rfl fun K hK => ?_
  rw [if_pos (by rfl)]
  go_simp
  refine (impl_cut gm lm cm X.mem b 24 _ (D.out.mem.keep SU.out) (by rw [HZ.out.ml]) (by decide) (by decide)).mono ?_
  rintro e u2 ⟨g, rfl, pg, b2⟩
  have PGS : Hid (Pags u2 W.heap.size (.slice (some ⟨g, 0, none⟩) 24 24) 24 X.mem) := row_monoX pg SU.out.size
  replace SU : Hid (Below W.heap.size W u2) := on SU.out b2
  clear pg b2
  refine hK.out _ _ SU.out (fun _ => ?_)
  clear hK K
  refine wpTk (i := 7) (v := (.agg #[.int .i64 X.slot, .int .i64 X.left, .int .i64 X.clock, .slice a0 n0 c0, .slice a1 n1 c1, .slice a2 n2 c2, .slice a3 n3 c3, .slice (some ⟨g, 0, none⟩) 24 24, .slice none 0 0])) rfl (Or.inl ⟨by rfl, fun w' hs => by go_simp⟩) SU.out ?_
  change wpAnyH _ _ _ _ _ _ _ (Act.put _ (some 13) _) _
  simp only [Act.put, zT, zZ, zS]
  refine zR 8 rfl fun K hK => ?_
  rw [if_pos (by rfl)]
  go_simp
  have bq : Below u2.heap.size u2 (u2.alloc (.cells #[.int .i64 X.slot, .int .i64 X.left, .int .i64 X.clock, .slice a0 n0 c0, .slice a1 n1 c1, .slice a2 n2 c2, .slice a3 n3 c3, .slice (some ⟨g, 0, none⟩) 24 24, .slice none 0 0] 148)) := al (Below.refl _ _) _
  have VQ : Hid (Vb (u2.alloc (.cells #[.int .i64 X.slot, .int .i64 X.left, .int .i64 X.clock, .slice a0 n0 c0, .slice a1 n1 c1, .slice a2 n2 c2, .slice a3 n3 c3, .slice (some ⟨g, 0, none⟩) 24 24, .slice none 0 0] 148)) u2.heap.size #[.int .i64 X.slot, .int .i64 X.left, .int .i64 X.clock, .slice a0 n0 c0, .slice a1 n1 c1, .slice a2 n2 c2, .slice a3 n3 c3, .slice (some ⟨g, 0, none⟩) 24 24, .slice none 0 0] 148) := Vb.new _ _ _
  obtain ⟨q, hq⟩ : ∃ q, u2.heap.size = q := ⟨_, rfl⟩
  have QB : Hid (W.heap.size ≤ q) := by show _ ≤ _; rw [← hq]; exact SU.out.size
  replace PGS : Hid (Pags (u2.alloc (.cells #[.int .i64 X.slot, .int .i64 X.left, .int .i64 X.clock, .slice a0 n0 c0, .slice a1 n1 c1, .slice a2 n2 c2, .slice a3 n3 c3, .slice (some ⟨g, 0, none⟩) 24 24, .slice none 0 0] 148)) W.heap.size (.slice (some ⟨g, 0, none⟩) 24 24) 24 X.mem) := row_keepX PGS.out bq
  replace SU : Hid (Below W.heap.size W (u2.alloc (.cells #[.int .i64 X.slot, .int .i64 X.left, .int .i64 X.clock, .slice a0 n0 c0, .slice a1 n1 c1, .slice a2 n2 c2, .slice a3 n3 c3, .slice (some ⟨g, 0, none⟩) 24 24, .slice none 0 0] 148))) := on SU.out bq
  rw [hq] at VQ ⊢
  generalize u2.alloc (.cells #[.int .i64 X.slot, .int .i64 X.left, .int .i64 X.clock, .slice a0 n0 c0, .slice a1 n1 c1, .slice a2 n2 c2, .slice a3 n3 c3, .slice (some ⟨g, 0, none⟩) 24 24, .slice none 0 0] 148) = V at *
  have BVS : Hid (W.heap.size ≤ V.heap.size) := SU.out.size
  clear bq hq
  refine hK.out _ _ SU.out (fun _ => ?_)
  clear hK K
  refine wpTk (i := 9) (v := (.pointer (some ⟨q, 0, none⟩))) rfl (Or.inl ⟨by rfl, fun w' hs => by go_simp⟩) SU.out ?_
  change wpAnyH _ _ _ _ _ _ _ (Act.put _ (some 3) _) _
  simp only [Act.put, zT, zZ, zS]
  refine wpAnyH_done (by kernel_rfl) ?_ _
  have w2 := (Q.out.keep SU.out).cell 5 rfl
  go_wp2_with fail
  clear w2
  go_loopw [4, 5, 18] (fun _ _ c wr => ∃ (j : Nat) (v : Value) (rs : List Gs), j ≤ lh ∧ c = .int .i64 (j : Int) ∧ Vb wr q #[.int .i64 X.slot, .int .i64 X.left, .int .i64 X.clock, .slice a0 n0 c0, .slice a1 n1 c1, .slice a2 n2 c2, .slice a3 n3 c3, .slice (some ⟨g, 0, none⟩) 24 24, v] 148 ∧ Pags wr W.heap.size (.slice (some ⟨g, 0, none⟩) 24 24) 24 X.mem ∧ Gw wr V.heap.size (.slice (some ⟨g, 0, none⟩) 24 24) v X.harts X.pol j rs ∧ Below W.heap.size W wr ∧ V.heap.size ≤ wr.heap.size) (fun _ _ c _ => lh - (intOf c).toNat)
  case atStart => exact ⟨0, .slice none 0 0, [], Nat.zero_le _, rfl, VQ.out, PGS.out, ⟨rfl, World.ownsRow_nil _ _ _ _, fun i q e => by simp at e, by simp⟩, SU.out, Nat.le_refl _⟩
  case round =>
    obtain ⟨j, v, rs, hj, rfl, hX, hP, hG, hB, hZ⟩ := hrel
    obtain ⟨va, vc, hv⟩ := row_shape hG.row
    rw [hG.len] at hv
    subst hv
    have HX : Hid (Vb wr q #[.int .i64 X.slot, .int .i64 X.left, .int .i64 X.clock, .slice a0 n0 c0, .slice a1 n1 c1, .slice a2 n2 c2, .slice a3 n3 c3, .slice (some ⟨g, 0, none⟩) 24 24, .slice va j vc] 148) := hX
    have HP : Hid (Pags wr W.heap.size (.slice (some ⟨g, 0, none⟩) 24 24) 24 X.mem) := hP
    have HG : Hid (Gw wr V.heap.size (.slice (some ⟨g, 0, none⟩) 24 24) (.slice va j vc) X.harts X.pol j rs) := hG
    have HB : Hid (Below W.heap.size W wr ∧ V.heap.size ≤ wr.heap.size) := ⟨hB, hZ⟩
    have HZ2 : Hid (V.heap.size ≤ wr.heap.size) := hZ
    clear hX hP hG hZ
    by_cases hlt : j < lh
    · have hI : (j : Int) < (lh : Int) := by omega
      have HLT : Hid (j < lh) := hlt
      obtain ⟨gh, hgh⟩ : ∃ g, ah = some ⟨g, 0, none⟩ := by
        obtain ⟨_, _, e, _, _, hg⟩ := D.out.harts.shape
        simp at e
        obtain ⟨e1, e2, _⟩ := e
        obtain ⟨g, eg⟩ := hg (by omega)
        exact ⟨g, by rw [e1, eg]⟩
      subst hgh
      obtain ⟨r, c, i, o, y1, y2, _⟩ := ((D.out.harts.keep hB).at j (by have := LH.out; omega))
      have HOJ : Hid (Hok (X.harts.getD j voidH)) := HZ.out.ok j (by have := LH.out; omega)
      obtain ⟨H, hH⟩ : ∃ H, X.harts.getD j voidH = H := ⟨_, rfl⟩
      have HHE : Hid (X.harts.getD j voidH = H) := hH
      rw [hH] at y1 y2 HOJ
      obtain ⟨xr, kr, e0, _⟩ := y2.r.shape
      obtain ⟨xc, kc, e1, _⟩ := y2.c.shape
      obtain ⟨xi, ki, e2, _⟩ := y2.i.shape
      obtain ⟨xo, ko, e3, _⟩ := y2.o.shape
      subst e0 e1 e2 e3
      obtain ⟨lr, hlr⟩ : ∃ n, H.regs.length = n := ⟨_, rfl⟩
      obtain ⟨lc, hlc⟩ : ∃ n, H.csr.length = n := ⟨_, rfl⟩
      obtain ⟨li, hli⟩ : ∃ n, H.inn.length = n := ⟨_, rfl⟩
      obtain ⟨lo, hlo⟩ : ∃ n, H.out.length = n := ⟨_, rfl⟩
      rw [hlr, hlc, hli, hlo] at y1 y2
      have k0 := y1.c0
      have k1 := y1.c1
      have k2 := y1.c2
      have k3 := y1.c3
      have k4 := y1.c4
      have k5 := y1.c5
      have k6 := y1.c6
      have k7 := y1.c7
      have k8 := y1.c8
      have Y2 : Hid (Hm wr b (.slice xr lr kr) (.slice xc lc kc) (.slice xi li ki) (.slice xo lo ko) H) := y2
      clear hlt hB hj y1 y2 hH hlr hlc hli hlo
      go_upto_region 5 with fail
      clear k0 k1 k2 k3 k4 k5 k6 k7 k8
      have AL : Hid (Below wr.heap.size wr (wr.alloc (.cells #[.slice xr lr kr, .int .i64 H.pc, .slice xc lc kc, .bool H.halted, .bool H.waiting, .bool H.rung, .int .i64 H.done, .slice xi li ki, .slice xo lo ko] 60))) := al (Below.refl _ _) _
      have VT : Hid (Vb (wr.alloc (.cells #[.slice xr lr kr, .int .i64 H.pc, .slice xc lc kc, .bool H.halted, .bool H.waiting, .bool H.rung, .int .i64 H.done, .slice xi li ki, .slice xo lo ko] 60)) wr.heap.size #[.slice xr lr kr, .int .i64 H.pc, .slice xc lc kc, .bool H.halted, .bool H.waiting, .bool H.rung, .int .i64 H.done, .slice xi li ki, .slice xo lo ko] 60) := Vb.new _ _ _
      replace HX : Hid (Vb (wr.alloc (.cells #[.slice xr lr kr, .int .i64 H.pc, .slice xc lc kc, .bool H.halted, .bool H.waiting, .bool H.rung, .int .i64 H.done, .slice xi li ki, .slice xo lo ko] 60)) q #[.int .i64 X.slot, .int .i64 X.left, .int .i64 X.clock, .slice a0 n0 c0, .slice a1 n1 c1, .slice a2 n2 c2, .slice a3 n3 c3, .slice (some ⟨g, 0, none⟩) 24 24, .slice va j vc] 148) := HX.out.keep AL.out
      replace HP : Hid (Pags (wr.alloc (.cells #[.slice xr lr kr, .int .i64 H.pc, .slice xc lc kc, .bool H.halted, .bool H.waiting, .bool H.rung, .int .i64 H.done, .slice xi li ki, .slice xo lo ko] 60)) W.heap.size (.slice (some ⟨g, 0, none⟩) 24 24) 24 X.mem) := row_keepX HP.out AL.out
      replace HG : Hid (Gw (wr.alloc (.cells #[.slice xr lr kr, .int .i64 H.pc, .slice xc lc kc, .bool H.halted, .bool H.waiting, .bool H.rung, .int .i64 H.done, .slice xi li ki, .slice xo lo ko] 60)) V.heap.size (.slice (some ⟨g, 0, none⟩) 24 24) (.slice va j vc) X.harts X.pol j rs) := HG.out.keep AL.out
      replace Y2 : Hid (Hm (wr.alloc (.cells #[.slice xr lr kr, .int .i64 H.pc, .slice xc lc kc, .bool H.halted, .bool H.waiting, .bool H.rung, .int .i64 H.done, .slice xi li ki, .slice xo lo ko] 60)) b (.slice xr lr kr) (.slice xc lc kc) (.slice xi li ki) (.slice xo lo ko) H) := Y2.out.keep AL.out
      replace HB : Hid (Below W.heap.size W (wr.alloc (.cells #[.slice xr lr kr, .int .i64 H.pc, .slice xc lc kc, .bool H.halted, .bool H.waiting, .bool H.rung, .int .i64 H.done, .slice xi li ki, .slice xo lo ko] 60)) ∧ V.heap.size ≤ (wr.alloc (.cells #[.slice xr lr kr, .int .i64 H.pc, .slice xc lc kc, .bool H.halted, .bool H.waiting, .bool H.rung, .int .i64 H.done, .slice xi li ki, .slice xo lo ko] 60)).heap.size) := ⟨on HB.out.1 AL.out, Nat.le_trans HB.out.2 AL.out.size⟩
      have QT : Hid (V.heap.size ≤ wr.heap.size ∧ q < V.heap.size) := ⟨by have := HB.out.2; have := HZ2.out; omega, VQ.out.lt⟩
      generalize wr.alloc (.cells #[.slice xr lr kr, .int .i64 H.pc, .slice xc lc kc, .bool H.halted, .bool H.waiting, .bool H.rung, .int .i64 H.done, .slice xi li ki, .slice xo lo ko] 60) = W5 at *
      obtain ⟨t, ht⟩ : ∃ t, wr.heap.size = t := ⟨_, rfl⟩
      rw [ht] at VT QT ⊢
      have SD : Hid (Sq5 V.heap.size q g t W5 W5.drew) := Sq5.step ⟨Mq.refl _ _, HX.out.cell 7 rfl⟩ (Below.refl _ _).drew
      have QL : Hid (∀ w', Sq5 V.heap.size q g t W5 w' → Vb w' s #[.slice a0 n0 c0, .slice a1 n1 c1, .slice a2 n2 c2, .slice a3 n3 c3, .slice (some ⟨gm, 0, none⟩) lm cm, .slice (some ⟨gh, 0, none⟩) lh ch, .int .i64 X.slot, .int .i64 X.left, .int .i64 X.clock] 40 ∧ Vb w' t #[.slice xr lr kr, .int .i64 H.pc, .slice xc lc kc, .bool H.halted, .bool H.waiting, .bool H.rung, .int .i64 H.done, .slice xi li ki, .slice xo lo ko] 60) := fun w' hs => ⟨hs.1.vb (Q.out.keep HB.out.1) (by have := QB.out; have := ZW.out; have := QT.out; omega), hs.1.vb VT.out (by have := QT.out; omega)⟩
      refine wp_region_held (S := fun w' => Sq5 V.heap.size q g t W5 w') (by kernel_rfl) ?_
      change wpAnyH _ _ _ _ _ _ _ _ (World.drew _)
      have BU : Hid (Below W5.heap.size W5 W5.drew) := (Below.refl _ _).drew
      generalize W5.drew = v0 at *
      have MU : Hid (Sq5 V.heap.size q g t W5 v0) := SD.out
      refine wpTk (i := 0) (v := (.pointer (some ⟨q, 0, none⟩))) rfl (Or.inl ⟨by rfl, fun w' hs => by go_simp⟩) SD.out ?_
      change wpAnyH _ _ _ _ _ _ _ (Act.put _ (some 23) _) _
      simp only [Act.put, zT, zZ, zS]
      refine wpTk (i := 1) (v := (.pointer (some ⟨q, 0, none⟩))) rfl (Or.inl ⟨by rfl, fun w' hs => by go_simp⟩) SD.out ?_
      change wpAnyH _ _ _ _ _ _ _ (Act.put _ (some 24) _) _
      simp only [Act.put, zT, zZ, zS]
      refine wpTk (i := 2) (v := (.pointer (some ⟨q, 0, none⟩))) rfl (Or.inl ⟨by rfl, fun w' hs => by go_simp⟩) SD.out ?_
      change wpAnyH _ _ _ _ _ _ _ (Act.put _ (some 25) _) _
      simp only [Act.put, zT, zZ, zS]
      refine wpTk (i := 3) (v := (.pointer (some ⟨q, 8, none⟩))) rfl (Or.inl ⟨by rfl, fun w' hs => by go_simp⟩) SD.out ?_
      change wpAnyH _ _ _ _ _ _ _ (Act.put _ (some 26) _) _
      simp only [Act.put, zT, zZ, zS]
      refine wpTk (i := 5) (v := (.agg #[.slice xr lr kr, .int .i64 H.pc, .slice xc lc kc, .bool H.halted, .bool H.waiting, .bool H.rung, .int .i64 H.done, .slice xi li ki, .slice xo lo ko])) rfl (Or.inl ⟨by rfl, fun w' hs => by have qv := (QL.out w' hs).2; have y0 := qv.cell 0 rfl; have y1 := qv.cell 1 rfl; have y2 := qv.cell 2 rfl; have y3 := qv.cell 3 rfl; have y4 := qv.cell 4 rfl; have y5 := qv.cell 5 rfl; have y6 := qv.cell 6 rfl; have y7 := qv.cell 7 rfl; have y8 := qv.cell 8 rfl; go_simp⟩) SD.out ?_
      change wpAnyH _ _ _ _ _ _ _ (Act.put _ (some 28) _) _
      simp only [Act.put, zT, zZ, zS]
      refine wpTk (i := 6) (v := (.pointer (some ⟨s, 0, none⟩))) rfl (Or.inl ⟨by rfl, fun w' hs => by go_simp⟩) SD.out ?_
      change wpAnyH _ _ _ _ _ _ _ (Act.put _ (some 29) _) _
      simp only [Act.put, zT, zZ, zS]
      refine wpTk (i := 7) (v := (.agg #[.slice a0 n0 c0, .slice a1 n1 c1, .slice a2 n2 c2, .slice a3 n3 c3])) rfl (Or.inl ⟨by rfl, fun w' hs => by have qv := (QL.out w' hs).1; have y0 := qv.cell 0 rfl; have y1 := qv.cell 1 rfl; have y2 := qv.cell 2 rfl; have y3 := qv.cell 3 rfl; go_simp⟩) SD.out ?_
      change wpAnyH _ _ _ _ _ _ _ (Act.put _ (some 30) _) _
      simp only [Act.put, zT, zZ, zS]
      refine wpTk (i := 8) (v := (.int .i64 (j : Int))) rfl (Or.inl ⟨by rfl, fun w' hs => by go_simp⟩) SD.out ?_
      change wpAnyH _ _ _ _ _ _ _ (Act.put _ (some 31) _) _
      simp only [Act.put, zT, zZ, zS]
      refine wpTk (i := 10) (v := (.pointer (some ⟨q, 0, none⟩))) rfl (Or.inl ⟨by rfl, fun w' hs => by go_simp⟩) SD.out ?_
      change wpAnyH _ _ _ _ _ _ _ (Act.put _ (some 33) _) _
      simp only [Act.put, zT, zZ, zS]
      refine wpTk (i := 11) (v := (.pointer (some ⟨q, 0, none⟩))) rfl (Or.inl ⟨by rfl, fun w' hs => by go_simp⟩) SD.out ?_
      change wpAnyH _ _ _ _ _ _ _ (Act.put _ (some 34) _) _
      simp only [Act.put, zT, zZ, zS]
      refine wpTk (i := 12) (v := (.pointer (some ⟨q, 7, none⟩))) rfl (Or.inl ⟨by rfl, fun w' hs => by go_simp⟩) SD.out ?_
      change wpAnyH _ _ _ _ _ _ _ (Act.put _ (some 35) _) _
      simp only [Act.put, zT, zZ, zS]
      refine wpTk (i := 13) (v := (.slice (some ⟨g, 0, none⟩) 24 24)) rfl (Or.inl ⟨by rfl, fun w' hs => by have y := hs.2; go_simp⟩) SD.out ?_
      change wpAnyH _ _ _ _ _ _ _ (Act.put _ (some 36) _) _
      simp only [Act.put, zT, zZ, zS]
      refine wpAnyH_ready (rs := [4, 9]) (by kernel_rfl) (by simp) ?_
      refine AllReadyH.cons rfl (fun K hK => ?_) (AllReadyH.cons rfl (fun K hK => ?_) AllReadyH.nil)
      · skip
        rw [if_pos (by rfl)]
        have y := (HX.out.keep BU.out).cell 8 rfl
        go_simp
        clear y
        refine hK.out _ _ MU.out (fun _ => ?_)
        clear hK K
        refine zR 9 rfl fun K hK => ?_
        rw [if_pos (by rfl)]
        go_simp
        refine (i_pages0 _ _ _ _ _ _ _ _ _ _ _ _ X.pol (j : Int) _ ((D.out.pol.stay HB.out.1).stay BU.out) ⟨by omega, by have := HLT.out; have := LH.out; have := HZ.out.hl; omega⟩).mono ?_
        rintro e u1 ⟨lv, rfl, pr, bq⟩
        rw [Int.toNat_natCast] at pr
        obtain ⟨la, lk, e0⟩ := row_shape pr
        subst e0
        obtain ⟨ln, hln⟩ : ∃ n, (pforL (X.pol.own.getD j []) X.pol.lanes (j : Int) 8).length = n := ⟨_, rfl⟩
        rw [hln] at pr ⊢
        have PR : Hid (Prs 174 u1 W5.heap.size (.slice la ln lk) (pforL (X.pol.own.getD j []) X.pol.lanes (j : Int) 8)) := row_monoX pr BU.out.size
        replace BU : Hid (Below W5.heap.size W5 u1) := on BU.out bq
        replace MU : Hid (Sq5 V.heap.size q g t W5 u1) := MU.out.step bq
        clear pr bq hln
        refine hK.out _ _ MU.out (fun _ => ?_)
        clear hK K
        refine zR 14 rfl fun K hK => ?_
        rw [if_pos (by rfl)]
        go_simp
        refine (i_runnerOver _ _ _ _ H la ln lk (some ⟨g, 0, none⟩) 24 24 b _ (Y2.out.keep BU.out) HOJ.out).mono ?_
        rintro e u2 ⟨i1, o1, rfl, ni, no, ap, bq, bo, h1, h2, h3, h4⟩
        have RN1 : Hid (Gr u2 W5.heap.size (⟨⟨i1, o1, .slice la ln lk⟩, H, pforL (X.pol.own.getD j []) X.pol.lanes (j : Int) 8, -1, -1⟩ : Gs) ∧ Apt i1 o1) := ⟨⟨ni.mono BU.out.size, ⟨bo, Nat.le_trans BU.out.size h1, h2, h3, h4⟩, row_keepX PR.out bq, pforL_len _ _ _ _⟩, ap⟩
        have OC : Hid (i1.oneCell' = true ∧ o1.oneCell' = true) := by
          obtain ⟨_, _, f0, _⟩ := ni.shape
          obtain ⟨_, _, f1, _⟩ := no.shape
          subst f0 f1
          exact ⟨rfl, rfl⟩
        replace BU : Hid (Below W5.heap.size W5 u2) := on BU.out bq
        replace MU : Hid (Sq5 V.heap.size q g t W5 u2) := MU.out.step bq
        clear ni no ap bq h1 h2 h3 h4
        refine hK.out _ _ MU.out (fun _ => ?_)
        clear hK K
        refine zR 15 rfl fun K hK => ?_
        rw [if_pos (by rfl)]
        refine wp_bsR (.tmp 37) rfl (mcr H i1 o1 (.slice la ln lk) (.slice (some ⟨g, 0, none⟩) 24 24) (-1) (-1)) rfl rfl ?_
        change K (Act.put _ (some 38) _) _
        simp only [Act.put, zT, zZ, zS]
        have bq : Below u2.heap.size u2 (u2.alloc (.cells (mcr H i1 o1 (.slice la ln lk) (.slice (some ⟨g, 0, none⟩) 24 24) (-1) (-1)) 152)) := al (Below.refl _ _) _
        have C3 : Hid ((u2.alloc (.cells (mcr H i1 o1 (.slice la ln lk) (.slice (some ⟨g, 0, none⟩) 24 24) (-1) (-1)) 152)).rangeAt u2.heap.size 0 (cel38 (.slice (some ⟨g, 0, none⟩) 24 24) (⟨⟨i1, o1, .slice la ln lk⟩, H, pforL (X.pol.own.getD j []) X.pol.lanes (j : Int) 8, -1, -1⟩ : Gs))) := range_new _ _ _
        replace RN1 : Hid (Gr (u2.alloc (.cells (mcr H i1 o1 (.slice la ln lk) (.slice (some ⟨g, 0, none⟩) 24 24) (-1) (-1)) 152)) W5.heap.size (⟨⟨i1, o1, .slice la ln lk⟩, H, pforL (X.pol.own.getD j []) X.pol.lanes (j : Int) 8, -1, -1⟩ : Gs) ∧ Apt i1 o1) := ⟨RN1.out.1.keep bq, RN1.out.2⟩
        replace BU : Hid (Below W5.heap.size W5 (u2.alloc (.cells (mcr H i1 o1 (.slice la ln lk) (.slice (some ⟨g, 0, none⟩) 24 24) (-1) (-1)) 152))) := on BU.out bq
        obtain ⟨gf, hgf⟩ : ∃ g, u2.heap.size = g := ⟨_, rfl⟩
        rw [hgf] at C3 ⊢
        replace MU : Hid (Sq5 V.heap.size q g t W5 (u2.alloc (.cells (mcr H i1 o1 (.slice la ln lk) (.slice (some ⟨g, 0, none⟩) 24 24) (-1) (-1)) 152))) := MU.out.step bq
        generalize u2.alloc (.cells (mcr H i1 o1 (.slice la ln lk) (.slice (some ⟨g, 0, none⟩) 24 24) (-1) (-1)) 152) = u3 at *
        clear bq hgf
        refine hK.out _ _ MU.out (fun _ => ?_)
        clear hK K
        refine zR 16 rfl fun K hK => ?_
        refine step_runX rfl (.tmp 27) (.tmp 38) rfl V.heap.size (.slice (some ⟨g, 0, none⟩) 24 24) (.slice va j vc) rs rfl (row_keepX HG.out.row BU.out) gf (⟨⟨i1, o1, .slice la ln lk⟩, H, pforL (X.pol.own.getD j []) X.pol.lanes (j : Int) 8, -1, -1⟩ : Gs) rfl C3.out ⟨OC.out.1, OC.out.2, rfl⟩ rfl j HG.out.len (by have := HLT.out; have := HZ.out.hl; have := HZ.out.own; have := LH.out; omega) (Nat.le_trans HB.out.2 BU.out.size) ?_
        intro wa wc u4 hO4 hG4
        change K (Act.put _ (some 39) _) _
        simp only [Act.put, zT, zZ, zS]
        have KY : Ky (some 152) u3 u4 := ky_row (row_keepX HG.out.row BU.out) hG4
        have V4' : Hid (Vb u4 q #[.int .i64 X.slot, .int .i64 X.left, .int .i64 X.clock, .slice a0 n0 c0, .slice a1 n1 c1, .slice a2 n2 c2, .slice a3 n3 c3, .slice (some ⟨g, 0, none⟩) 24 24, .slice va j vc] 148) := KY.vb (HX.out.keep BU.out) (by decide)
        have M4 : Hid (Sq5 V.heap.size q g t W5 u4) := ⟨MU.out.1.trans (Mq.of hG4 fun k e => .inl ⟨(World.ownsRow.lt HG.out.row k e.symm).1, fun f => by subst f; exact row_ne_vb (row_keepX HG.out.row BU.out) ((VT.out).keep BU.out) (by decide) e.symm⟩), V4'.out.cell 7 rfl⟩
        have MN : Hid (Gw u4 V.heap.size (.slice (some ⟨g, 0, none⟩) 24 24) (.slice wa (j + 1) wc) X.harts X.pol (j + 1) (rs ++ [(⟨⟨i1, o1, .slice la ln lk⟩, H, pforL (X.pol.own.getD j []) X.pol.lanes (j : Int) 8, -1, -1⟩ : Gs)])) := HG.out.step BU.out RN1.out.1 RN1.out.2 HB.out.2 HHE.out.symm rfl rfl rfl hO4 hG4
        have P4 : Hid (Pags u4 W.heap.size (.slice (some ⟨g, 0, none⟩) 24 24) 24 X.mem) := KY.row (row_keepX HP.out BU.out) (by decide)
        have L4 : Hid (u3.heap.size ≤ u4.heap.size) := hG4.size
        clear hO4 hG4 KY
        refine hK.out _ _ M4.out (fun _ => ?_)
        clear hK K
        refine wpTk (i := 17) (v := (.pointer (some ⟨q, 0, none⟩))) rfl (Or.inl ⟨by rfl, fun w' hs => by go_simp⟩) M4.out ?_
        change wpAnyH _ _ _ _ _ _ _ (Act.put _ (some 40) _) _
        simp only [Act.put, zT, zZ, zS]
        refine wpTk (i := 18) (v := (.pointer (some ⟨q, 8, none⟩))) rfl (Or.inl ⟨by rfl, fun w' hs => by go_simp⟩) M4.out ?_
        change wpAnyH _ _ _ _ _ _ _ (Act.put _ (some 41) _) _
        simp only [Act.put, zT, zZ, zS]
        refine zR 19 rfl fun K hK => ?_
        rw [if_pos (by rfl)]
        have y0 := V4'.out.cell 8 rfl
        have f0 := V4'.out.free 8
        have lt := V4'.out.lt
        go_simp
        clear y0 f0 lt
        have V5 : Hid (Vb (u4.setCell ⟨q, 8, none⟩ (.slice wa (j + 1) wc)) q #[.int .i64 X.slot, .int .i64 X.left, .int .i64 X.clock, .slice a0 n0 c0, .slice a1 n1 c1, .slice a2 n2 c2, .slice a3 n3 c3, .slice (some ⟨g, 0, none⟩) 24 24, .slice wa (j + 1) wc] 148) := V4'.out.set 8 _
        have M5 : Hid (Mq (fun k => k = q) u4 (u4.setCell ⟨q, 8, none⟩ (.slice wa (j + 1) wc))) := (Mq.refl _ _).set _ _ rfl
        have K5 : Hid (Ky (some 148) u4 (u4.setCell ⟨q, 8, none⟩ (.slice wa (j + 1) wc))) := ky_set V4'.out M5.out
        have M6 : Hid (Sq5 V.heap.size q g t W5 (u4.setCell ⟨q, 8, none⟩ (.slice wa (j + 1) wc))) := ⟨M4.out.1.set _ _ (.inr rfl), V5.out.cell 7 rfl⟩
        generalize u4.setCell ⟨q, 8, none⟩ (.slice wa (j + 1) wc) = u5 at *
        refine hK.out _ _ M6.out (fun _ => ?_)
        clear hK K
        refine wpAnyH_done (by kernel_rfl) ?_ _
        have B5 : Hid (Below W.heap.size W u5) := Mq.under HB.out.1 M6.out.1 fun k e => by have := QB.out; have := BVS.out; omega
        have Z5 : Hid (V.heap.size ≤ u5.heap.size) := Nat.le_trans HB.out.2 M6.out.1.size
        go_wp2_with fail
        go_roundw
        case rel => exact ⟨j + 1, _, _, by have := HLT.out; omega, by go_num, V5.out, K5.out.row P4.out (by decide), MN.out.ky K5.out M5.out.size (by decide) (by decide) (by decide), B5.out, Z5.out⟩
        case measure => have := HLT.out; simp [intOf]; omega
      · skip
        rw [if_pos (by rfl)]
        go_simp
        refine (i_pages0 _ _ _ _ _ _ _ _ _ _ _ _ X.pol (j : Int) _ ((D.out.pol.stay HB.out.1).stay BU.out) ⟨by omega, by have := HLT.out; have := LH.out; have := HZ.out.hl; omega⟩).mono ?_
        rintro e u1 ⟨lv, rfl, pr, bq⟩
        rw [Int.toNat_natCast] at pr
        obtain ⟨la, lk, e0⟩ := row_shape pr
        subst e0
        obtain ⟨ln, hln⟩ : ∃ n, (pforL (X.pol.own.getD j []) X.pol.lanes (j : Int) 8).length = n := ⟨_, rfl⟩
        rw [hln] at pr ⊢
        have PR : Hid (Prs 174 u1 W5.heap.size (.slice la ln lk) (pforL (X.pol.own.getD j []) X.pol.lanes (j : Int) 8)) := row_monoX pr BU.out.size
        replace BU : Hid (Below W5.heap.size W5 u1) := on BU.out bq
        replace MU : Hid (Sq5 V.heap.size q g t W5 u1) := MU.out.step bq
        clear pr bq hln
        refine hK.out _ _ MU.out (fun _ => ?_)
        clear hK K
        refine wpAnyH_ready (rs := [4, 14]) (by kernel_rfl) (by simp) ?_
        refine AllReadyH.cons rfl (fun K hK => ?_) (AllReadyH.cons rfl (fun K hK => ?_) AllReadyH.nil)
        · skip
          rw [if_pos (by rfl)]
          have y := (HX.out.keep BU.out).cell 8 rfl
          go_simp
          clear y
          refine hK.out _ _ MU.out (fun _ => ?_)
          clear hK K
          refine zR 14 rfl fun K hK => ?_
          rw [if_pos (by rfl)]
          go_simp
          refine (i_runnerOver _ _ _ _ H la ln lk (some ⟨g, 0, none⟩) 24 24 b _ (Y2.out.keep BU.out) HOJ.out).mono ?_
          rintro e u2 ⟨i1, o1, rfl, ni, no, ap, bq, bo, h1, h2, h3, h4⟩
          have RN1 : Hid (Gr u2 W5.heap.size (⟨⟨i1, o1, .slice la ln lk⟩, H, pforL (X.pol.own.getD j []) X.pol.lanes (j : Int) 8, -1, -1⟩ : Gs) ∧ Apt i1 o1) := ⟨⟨ni.mono BU.out.size, ⟨bo, Nat.le_trans BU.out.size h1, h2, h3, h4⟩, row_keepX PR.out bq, pforL_len _ _ _ _⟩, ap⟩
          have OC : Hid (i1.oneCell' = true ∧ o1.oneCell' = true) := by
            obtain ⟨_, _, f0, _⟩ := ni.shape
            obtain ⟨_, _, f1, _⟩ := no.shape
            subst f0 f1
            exact ⟨rfl, rfl⟩
          replace BU : Hid (Below W5.heap.size W5 u2) := on BU.out bq
          replace MU : Hid (Sq5 V.heap.size q g t W5 u2) := MU.out.step bq
          clear ni no ap bq h1 h2 h3 h4
          refine hK.out _ _ MU.out (fun _ => ?_)
          clear hK K
          refine zR 15 rfl fun K hK => ?_
          rw [if_pos (by rfl)]
          refine wp_bsR (.tmp 37) rfl (mcr H i1 o1 (.slice la ln lk) (.slice (some ⟨g, 0, none⟩) 24 24) (-1) (-1)) rfl rfl ?_
          change K (Act.put _ (some 38) _) _
          simp only [Act.put, zT, zZ, zS]
          have bq : Below u2.heap.size u2 (u2.alloc (.cells (mcr H i1 o1 (.slice la ln lk) (.slice (some ⟨g, 0, none⟩) 24 24) (-1) (-1)) 152)) := al (Below.refl _ _) _
          have C3 : Hid ((u2.alloc (.cells (mcr H i1 o1 (.slice la ln lk) (.slice (some ⟨g, 0, none⟩) 24 24) (-1) (-1)) 152)).rangeAt u2.heap.size 0 (cel38 (.slice (some ⟨g, 0, none⟩) 24 24) (⟨⟨i1, o1, .slice la ln lk⟩, H, pforL (X.pol.own.getD j []) X.pol.lanes (j : Int) 8, -1, -1⟩ : Gs))) := range_new _ _ _
          replace RN1 : Hid (Gr (u2.alloc (.cells (mcr H i1 o1 (.slice la ln lk) (.slice (some ⟨g, 0, none⟩) 24 24) (-1) (-1)) 152)) W5.heap.size (⟨⟨i1, o1, .slice la ln lk⟩, H, pforL (X.pol.own.getD j []) X.pol.lanes (j : Int) 8, -1, -1⟩ : Gs) ∧ Apt i1 o1) := ⟨RN1.out.1.keep bq, RN1.out.2⟩
          replace BU : Hid (Below W5.heap.size W5 (u2.alloc (.cells (mcr H i1 o1 (.slice la ln lk) (.slice (some ⟨g, 0, none⟩) 24 24) (-1) (-1)) 152))) := on BU.out bq
          obtain ⟨gf, hgf⟩ : ∃ g, u2.heap.size = g := ⟨_, rfl⟩
          rw [hgf] at C3 ⊢
          replace MU : Hid (Sq5 V.heap.size q g t W5 (u2.alloc (.cells (mcr H i1 o1 (.slice la ln lk) (.slice (some ⟨g, 0, none⟩) 24 24) (-1) (-1)) 152))) := MU.out.step bq
          generalize u2.alloc (.cells (mcr H i1 o1 (.slice la ln lk) (.slice (some ⟨g, 0, none⟩) 24 24) (-1) (-1)) 152) = u3 at *
          clear bq hgf
          refine hK.out _ _ MU.out (fun _ => ?_)
          clear hK K
          refine zR 16 rfl fun K hK => ?_
          refine step_runX rfl (.tmp 27) (.tmp 38) rfl V.heap.size (.slice (some ⟨g, 0, none⟩) 24 24) (.slice va j vc) rs rfl (row_keepX HG.out.row BU.out) gf (⟨⟨i1, o1, .slice la ln lk⟩, H, pforL (X.pol.own.getD j []) X.pol.lanes (j : Int) 8, -1, -1⟩ : Gs) rfl C3.out ⟨OC.out.1, OC.out.2, rfl⟩ rfl j HG.out.len (by have := HLT.out; have := HZ.out.hl; have := HZ.out.own; have := LH.out; omega) (Nat.le_trans HB.out.2 BU.out.size) ?_
          intro wa wc u4 hO4 hG4
          change K (Act.put _ (some 39) _) _
          simp only [Act.put, zT, zZ, zS]
          have KY : Ky (some 152) u3 u4 := ky_row (row_keepX HG.out.row BU.out) hG4
          have V4' : Hid (Vb u4 q #[.int .i64 X.slot, .int .i64 X.left, .int .i64 X.clock, .slice a0 n0 c0, .slice a1 n1 c1, .slice a2 n2 c2, .slice a3 n3 c3, .slice (some ⟨g, 0, none⟩) 24 24, .slice va j vc] 148) := KY.vb (HX.out.keep BU.out) (by decide)
          have M4 : Hid (Sq5 V.heap.size q g t W5 u4) := ⟨MU.out.1.trans (Mq.of hG4 fun k e => .inl ⟨(World.ownsRow.lt HG.out.row k e.symm).1, fun f => by subst f; exact row_ne_vb (row_keepX HG.out.row BU.out) ((VT.out).keep BU.out) (by decide) e.symm⟩), V4'.out.cell 7 rfl⟩
          have MN : Hid (Gw u4 V.heap.size (.slice (some ⟨g, 0, none⟩) 24 24) (.slice wa (j + 1) wc) X.harts X.pol (j + 1) (rs ++ [(⟨⟨i1, o1, .slice la ln lk⟩, H, pforL (X.pol.own.getD j []) X.pol.lanes (j : Int) 8, -1, -1⟩ : Gs)])) := HG.out.step BU.out RN1.out.1 RN1.out.2 HB.out.2 HHE.out.symm rfl rfl rfl hO4 hG4
          have P4 : Hid (Pags u4 W.heap.size (.slice (some ⟨g, 0, none⟩) 24 24) 24 X.mem) := KY.row (row_keepX HP.out BU.out) (by decide)
          have L4 : Hid (u3.heap.size ≤ u4.heap.size) := hG4.size
          clear hO4 hG4 KY
          refine hK.out _ _ M4.out (fun _ => ?_)
          clear hK K
          refine wpTk (i := 17) (v := (.pointer (some ⟨q, 0, none⟩))) rfl (Or.inl ⟨by rfl, fun w' hs => by go_simp⟩) M4.out ?_
          change wpAnyH _ _ _ _ _ _ _ (Act.put _ (some 40) _) _
          simp only [Act.put, zT, zZ, zS]
          refine wpTk (i := 18) (v := (.pointer (some ⟨q, 8, none⟩))) rfl (Or.inl ⟨by rfl, fun w' hs => by go_simp⟩) M4.out ?_
          change wpAnyH _ _ _ _ _ _ _ (Act.put _ (some 41) _) _
          simp only [Act.put, zT, zZ, zS]
          refine zR 19 rfl fun K hK => ?_
          rw [if_pos (by rfl)]
          have y0 := V4'.out.cell 8 rfl
          have f0 := V4'.out.free 8
          have lt := V4'.out.lt
          go_simp
          clear y0 f0 lt
          have V5 : Hid (Vb (u4.setCell ⟨q, 8, none⟩ (.slice wa (j + 1) wc)) q #[.int .i64 X.slot, .int .i64 X.left, .int .i64 X.clock, .slice a0 n0 c0, .slice a1 n1 c1, .slice a2 n2 c2, .slice a3 n3 c3, .slice (some ⟨g, 0, none⟩) 24 24, .slice wa (j + 1) wc] 148) := V4'.out.set 8 _
          have M5 : Hid (Mq (fun k => k = q) u4 (u4.setCell ⟨q, 8, none⟩ (.slice wa (j + 1) wc))) := (Mq.refl _ _).set _ _ rfl
          have K5 : Hid (Ky (some 148) u4 (u4.setCell ⟨q, 8, none⟩ (.slice wa (j + 1) wc))) := ky_set V4'.out M5.out
          have M6 : Hid (Sq5 V.heap.size q g t W5 (u4.setCell ⟨q, 8, none⟩ (.slice wa (j + 1) wc))) := ⟨M4.out.1.set _ _ (.inr rfl), V5.out.cell 7 rfl⟩
          generalize u4.setCell ⟨q, 8, none⟩ (.slice wa (j + 1) wc) = u5 at *
          refine hK.out _ _ M6.out (fun _ => ?_)
          clear hK K
          refine wpAnyH_done (by kernel_rfl) ?_ _
          have B5 : Hid (Below W.heap.size W u5) := Mq.under HB.out.1 M6.out.1 fun k e => by have := QB.out; have := BVS.out; omega
          have Z5 : Hid (V.heap.size ≤ u5.heap.size) := Nat.le_trans HB.out.2 M6.out.1.size
          go_wp2_with fail
          go_roundw
          case rel => exact ⟨j + 1, _, _, by have := HLT.out; omega, by go_num, V5.out, K5.out.row P4.out (by decide), MN.out.ky K5.out M5.out.size (by decide) (by decide) (by decide), B5.out, Z5.out⟩
          case measure => have := HLT.out; simp [intOf]; omega
        · skip
          rw [if_pos (by rfl)]
          go_simp
          refine (i_runnerOver _ _ _ _ H la ln lk (some ⟨g, 0, none⟩) 24 24 b _ (Y2.out.keep BU.out) HOJ.out).mono ?_
          rintro e u2 ⟨i1, o1, rfl, ni, no, ap, bq, bo, h1, h2, h3, h4⟩
          have RN1 : Hid (Gr u2 W5.heap.size (⟨⟨i1, o1, .slice la ln lk⟩, H, pforL (X.pol.own.getD j []) X.pol.lanes (j : Int) 8, -1, -1⟩ : Gs) ∧ Apt i1 o1) := ⟨⟨ni.mono BU.out.size, ⟨bo, Nat.le_trans BU.out.size h1, h2, h3, h4⟩, row_keepX PR.out bq, pforL_len _ _ _ _⟩, ap⟩
          have OC : Hid (i1.oneCell' = true ∧ o1.oneCell' = true) := by
            obtain ⟨_, _, f0, _⟩ := ni.shape
            obtain ⟨_, _, f1, _⟩ := no.shape
            subst f0 f1
            exact ⟨rfl, rfl⟩
          replace BU : Hid (Below W5.heap.size W5 u2) := on BU.out bq
          replace MU : Hid (Sq5 V.heap.size q g t W5 u2) := MU.out.step bq
          clear ni no ap bq h1 h2 h3 h4
          refine hK.out _ _ MU.out (fun _ => ?_)
          clear hK K
          refine wpAnyH_ready (rs := [4, 15]) (by kernel_rfl) (by simp) ?_
          refine AllReadyH.cons rfl (fun K hK => ?_) (AllReadyH.cons rfl (fun K hK => ?_) AllReadyH.nil)
          · skip
            rw [if_pos (by rfl)]
            have y := (HX.out.keep BU.out).cell 8 rfl
            go_simp
            clear y
            refine hK.out _ _ MU.out (fun _ => ?_)
            clear hK K
            refine zR 15 rfl fun K hK => ?_
            rw [if_pos (by rfl)]
            refine wp_bsR (.tmp 37) rfl (mcr H i1 o1 (.slice la ln lk) (.slice (some ⟨g, 0, none⟩) 24 24) (-1) (-1)) rfl rfl ?_
            change K (Act.put _ (some 38) _) _
            simp only [Act.put, zT, zZ, zS]
            have bq : Below u2.heap.size u2 (u2.alloc (.cells (mcr H i1 o1 (.slice la ln lk) (.slice (some ⟨g, 0, none⟩) 24 24) (-1) (-1)) 152)) := al (Below.refl _ _) _
            have C3 : Hid ((u2.alloc (.cells (mcr H i1 o1 (.slice la ln lk) (.slice (some ⟨g, 0, none⟩) 24 24) (-1) (-1)) 152)).rangeAt u2.heap.size 0 (cel38 (.slice (some ⟨g, 0, none⟩) 24 24) (⟨⟨i1, o1, .slice la ln lk⟩, H, pforL (X.pol.own.getD j []) X.pol.lanes (j : Int) 8, -1, -1⟩ : Gs))) := range_new _ _ _
            replace RN1 : Hid (Gr (u2.alloc (.cells (mcr H i1 o1 (.slice la ln lk) (.slice (some ⟨g, 0, none⟩) 24 24) (-1) (-1)) 152)) W5.heap.size (⟨⟨i1, o1, .slice la ln lk⟩, H, pforL (X.pol.own.getD j []) X.pol.lanes (j : Int) 8, -1, -1⟩ : Gs) ∧ Apt i1 o1) := ⟨RN1.out.1.keep bq, RN1.out.2⟩
            replace BU : Hid (Below W5.heap.size W5 (u2.alloc (.cells (mcr H i1 o1 (.slice la ln lk) (.slice (some ⟨g, 0, none⟩) 24 24) (-1) (-1)) 152))) := on BU.out bq
            obtain ⟨gf, hgf⟩ : ∃ g, u2.heap.size = g := ⟨_, rfl⟩
            rw [hgf] at C3 ⊢
            replace MU : Hid (Sq5 V.heap.size q g t W5 (u2.alloc (.cells (mcr H i1 o1 (.slice la ln lk) (.slice (some ⟨g, 0, none⟩) 24 24) (-1) (-1)) 152))) := MU.out.step bq
            generalize u2.alloc (.cells (mcr H i1 o1 (.slice la ln lk) (.slice (some ⟨g, 0, none⟩) 24 24) (-1) (-1)) 152) = u3 at *
            clear bq hgf
            refine hK.out _ _ MU.out (fun _ => ?_)
            clear hK K
            refine zR 16 rfl fun K hK => ?_
            refine step_runX rfl (.tmp 27) (.tmp 38) rfl V.heap.size (.slice (some ⟨g, 0, none⟩) 24 24) (.slice va j vc) rs rfl (row_keepX HG.out.row BU.out) gf (⟨⟨i1, o1, .slice la ln lk⟩, H, pforL (X.pol.own.getD j []) X.pol.lanes (j : Int) 8, -1, -1⟩ : Gs) rfl C3.out ⟨OC.out.1, OC.out.2, rfl⟩ rfl j HG.out.len (by have := HLT.out; have := HZ.out.hl; have := HZ.out.own; have := LH.out; omega) (Nat.le_trans HB.out.2 BU.out.size) ?_
            intro wa wc u4 hO4 hG4
            change K (Act.put _ (some 39) _) _
            simp only [Act.put, zT, zZ, zS]
            have KY : Ky (some 152) u3 u4 := ky_row (row_keepX HG.out.row BU.out) hG4
            have V4' : Hid (Vb u4 q #[.int .i64 X.slot, .int .i64 X.left, .int .i64 X.clock, .slice a0 n0 c0, .slice a1 n1 c1, .slice a2 n2 c2, .slice a3 n3 c3, .slice (some ⟨g, 0, none⟩) 24 24, .slice va j vc] 148) := KY.vb (HX.out.keep BU.out) (by decide)
            have M4 : Hid (Sq5 V.heap.size q g t W5 u4) := ⟨MU.out.1.trans (Mq.of hG4 fun k e => .inl ⟨(World.ownsRow.lt HG.out.row k e.symm).1, fun f => by subst f; exact row_ne_vb (row_keepX HG.out.row BU.out) ((VT.out).keep BU.out) (by decide) e.symm⟩), V4'.out.cell 7 rfl⟩
            have MN : Hid (Gw u4 V.heap.size (.slice (some ⟨g, 0, none⟩) 24 24) (.slice wa (j + 1) wc) X.harts X.pol (j + 1) (rs ++ [(⟨⟨i1, o1, .slice la ln lk⟩, H, pforL (X.pol.own.getD j []) X.pol.lanes (j : Int) 8, -1, -1⟩ : Gs)])) := HG.out.step BU.out RN1.out.1 RN1.out.2 HB.out.2 HHE.out.symm rfl rfl rfl hO4 hG4
            have P4 : Hid (Pags u4 W.heap.size (.slice (some ⟨g, 0, none⟩) 24 24) 24 X.mem) := KY.row (row_keepX HP.out BU.out) (by decide)
            have L4 : Hid (u3.heap.size ≤ u4.heap.size) := hG4.size
            clear hO4 hG4 KY
            refine hK.out _ _ M4.out (fun _ => ?_)
            clear hK K
            refine wpTk (i := 17) (v := (.pointer (some ⟨q, 0, none⟩))) rfl (Or.inl ⟨by rfl, fun w' hs => by go_simp⟩) M4.out ?_
            change wpAnyH _ _ _ _ _ _ _ (Act.put _ (some 40) _) _
            simp only [Act.put, zT, zZ, zS]
            refine wpTk (i := 18) (v := (.pointer (some ⟨q, 8, none⟩))) rfl (Or.inl ⟨by rfl, fun w' hs => by go_simp⟩) M4.out ?_
            change wpAnyH _ _ _ _ _ _ _ (Act.put _ (some 41) _) _
            simp only [Act.put, zT, zZ, zS]
            refine zR 19 rfl fun K hK => ?_
            rw [if_pos (by rfl)]
            have y0 := V4'.out.cell 8 rfl
            have f0 := V4'.out.free 8
            have lt := V4'.out.lt
            go_simp
            clear y0 f0 lt
            have V5 : Hid (Vb (u4.setCell ⟨q, 8, none⟩ (.slice wa (j + 1) wc)) q #[.int .i64 X.slot, .int .i64 X.left, .int .i64 X.clock, .slice a0 n0 c0, .slice a1 n1 c1, .slice a2 n2 c2, .slice a3 n3 c3, .slice (some ⟨g, 0, none⟩) 24 24, .slice wa (j + 1) wc] 148) := V4'.out.set 8 _
            have M5 : Hid (Mq (fun k => k = q) u4 (u4.setCell ⟨q, 8, none⟩ (.slice wa (j + 1) wc))) := (Mq.refl _ _).set _ _ rfl
            have K5 : Hid (Ky (some 148) u4 (u4.setCell ⟨q, 8, none⟩ (.slice wa (j + 1) wc))) := ky_set V4'.out M5.out
            have M6 : Hid (Sq5 V.heap.size q g t W5 (u4.setCell ⟨q, 8, none⟩ (.slice wa (j + 1) wc))) := ⟨M4.out.1.set _ _ (.inr rfl), V5.out.cell 7 rfl⟩
            generalize u4.setCell ⟨q, 8, none⟩ (.slice wa (j + 1) wc) = u5 at *
            refine hK.out _ _ M6.out (fun _ => ?_)
            clear hK K
            refine wpAnyH_done (by kernel_rfl) ?_ _
            have B5 : Hid (Below W.heap.size W u5) := Mq.under HB.out.1 M6.out.1 fun k e => by have := QB.out; have := BVS.out; omega
            have Z5 : Hid (V.heap.size ≤ u5.heap.size) := Nat.le_trans HB.out.2 M6.out.1.size
            go_wp2_with fail
            go_roundw
            case rel => exact ⟨j + 1, _, _, by have := HLT.out; omega, by go_num, V5.out, K5.out.row P4.out (by decide), MN.out.ky K5.out M5.out.size (by decide) (by decide) (by decide), B5.out, Z5.out⟩
            case measure => have := HLT.out; simp [intOf]; omega
          · skip
            rw [if_pos (by rfl)]
            refine wp_bsR (.tmp 37) rfl (mcr H i1 o1 (.slice la ln lk) (.slice (some ⟨g, 0, none⟩) 24 24) (-1) (-1)) rfl rfl ?_
            change K (Act.put _ (some 38) _) _
            simp only [Act.put, zT, zZ, zS]
            have bq : Below u2.heap.size u2 (u2.alloc (.cells (mcr H i1 o1 (.slice la ln lk) (.slice (some ⟨g, 0, none⟩) 24 24) (-1) (-1)) 152)) := al (Below.refl _ _) _
            have C3 : Hid ((u2.alloc (.cells (mcr H i1 o1 (.slice la ln lk) (.slice (some ⟨g, 0, none⟩) 24 24) (-1) (-1)) 152)).rangeAt u2.heap.size 0 (cel38 (.slice (some ⟨g, 0, none⟩) 24 24) (⟨⟨i1, o1, .slice la ln lk⟩, H, pforL (X.pol.own.getD j []) X.pol.lanes (j : Int) 8, -1, -1⟩ : Gs))) := range_new _ _ _
            replace RN1 : Hid (Gr (u2.alloc (.cells (mcr H i1 o1 (.slice la ln lk) (.slice (some ⟨g, 0, none⟩) 24 24) (-1) (-1)) 152)) W5.heap.size (⟨⟨i1, o1, .slice la ln lk⟩, H, pforL (X.pol.own.getD j []) X.pol.lanes (j : Int) 8, -1, -1⟩ : Gs) ∧ Apt i1 o1) := ⟨RN1.out.1.keep bq, RN1.out.2⟩
            replace BU : Hid (Below W5.heap.size W5 (u2.alloc (.cells (mcr H i1 o1 (.slice la ln lk) (.slice (some ⟨g, 0, none⟩) 24 24) (-1) (-1)) 152))) := on BU.out bq
            obtain ⟨gf, hgf⟩ : ∃ g, u2.heap.size = g := ⟨_, rfl⟩
            rw [hgf] at C3 ⊢
            replace MU : Hid (Sq5 V.heap.size q g t W5 (u2.alloc (.cells (mcr H i1 o1 (.slice la ln lk) (.slice (some ⟨g, 0, none⟩) 24 24) (-1) (-1)) 152))) := MU.out.step bq
            generalize u2.alloc (.cells (mcr H i1 o1 (.slice la ln lk) (.slice (some ⟨g, 0, none⟩) 24 24) (-1) (-1)) 152) = u3 at *
            clear bq hgf
            refine hK.out _ _ MU.out (fun _ => ?_)
            clear hK K
            refine zR 4 rfl fun K hK => ?_
            rw [if_pos (by rfl)]
            have y := (HX.out.keep BU.out).cell 8 rfl
            go_simp
            clear y
            refine hK.out _ _ MU.out (fun _ => ?_)
            clear hK K
            refine zR 16 rfl fun K hK => ?_
            refine step_runX rfl (.tmp 27) (.tmp 38) rfl V.heap.size (.slice (some ⟨g, 0, none⟩) 24 24) (.slice va j vc) rs rfl (row_keepX HG.out.row BU.out) gf (⟨⟨i1, o1, .slice la ln lk⟩, H, pforL (X.pol.own.getD j []) X.pol.lanes (j : Int) 8, -1, -1⟩ : Gs) rfl C3.out ⟨OC.out.1, OC.out.2, rfl⟩ rfl j HG.out.len (by have := HLT.out; have := HZ.out.hl; have := HZ.out.own; have := LH.out; omega) (Nat.le_trans HB.out.2 BU.out.size) ?_
            intro wa wc u4 hO4 hG4
            change K (Act.put _ (some 39) _) _
            simp only [Act.put, zT, zZ, zS]
            have KY : Ky (some 152) u3 u4 := ky_row (row_keepX HG.out.row BU.out) hG4
            have V4' : Hid (Vb u4 q #[.int .i64 X.slot, .int .i64 X.left, .int .i64 X.clock, .slice a0 n0 c0, .slice a1 n1 c1, .slice a2 n2 c2, .slice a3 n3 c3, .slice (some ⟨g, 0, none⟩) 24 24, .slice va j vc] 148) := KY.vb (HX.out.keep BU.out) (by decide)
            have M4 : Hid (Sq5 V.heap.size q g t W5 u4) := ⟨MU.out.1.trans (Mq.of hG4 fun k e => .inl ⟨(World.ownsRow.lt HG.out.row k e.symm).1, fun f => by subst f; exact row_ne_vb (row_keepX HG.out.row BU.out) ((VT.out).keep BU.out) (by decide) e.symm⟩), V4'.out.cell 7 rfl⟩
            have MN : Hid (Gw u4 V.heap.size (.slice (some ⟨g, 0, none⟩) 24 24) (.slice wa (j + 1) wc) X.harts X.pol (j + 1) (rs ++ [(⟨⟨i1, o1, .slice la ln lk⟩, H, pforL (X.pol.own.getD j []) X.pol.lanes (j : Int) 8, -1, -1⟩ : Gs)])) := HG.out.step BU.out RN1.out.1 RN1.out.2 HB.out.2 HHE.out.symm rfl rfl rfl hO4 hG4
            have P4 : Hid (Pags u4 W.heap.size (.slice (some ⟨g, 0, none⟩) 24 24) 24 X.mem) := KY.row (row_keepX HP.out BU.out) (by decide)
            have L4 : Hid (u3.heap.size ≤ u4.heap.size) := hG4.size
            clear hO4 hG4 KY
            refine hK.out _ _ M4.out (fun _ => ?_)
            clear hK K
            refine wpTk (i := 17) (v := (.pointer (some ⟨q, 0, none⟩))) rfl (Or.inl ⟨by rfl, fun w' hs => by go_simp⟩) M4.out ?_
            change wpAnyH _ _ _ _ _ _ _ (Act.put _ (some 40) _) _
            simp only [Act.put, zT, zZ, zS]
            refine wpTk (i := 18) (v := (.pointer (some ⟨q, 8, none⟩))) rfl (Or.inl ⟨by rfl, fun w' hs => by go_simp⟩) M4.out ?_
            change wpAnyH _ _ _ _ _ _ _ (Act.put _ (some 41) _) _
            simp only [Act.put, zT, zZ, zS]
            refine zR 19 rfl fun K hK => ?_
            rw [if_pos (by rfl)]
            have y0 := V4'.out.cell 8 rfl
            have f0 := V4'.out.free 8
            have lt := V4'.out.lt
            go_simp
            clear y0 f0 lt
            have V5 : Hid (Vb (u4.setCell ⟨q, 8, none⟩ (.slice wa (j + 1) wc)) q #[.int .i64 X.slot, .int .i64 X.left, .int .i64 X.clock, .slice a0 n0 c0, .slice a1 n1 c1, .slice a2 n2 c2, .slice a3 n3 c3, .slice (some ⟨g, 0, none⟩) 24 24, .slice wa (j + 1) wc] 148) := V4'.out.set 8 _
            have M5 : Hid (Mq (fun k => k = q) u4 (u4.setCell ⟨q, 8, none⟩ (.slice wa (j + 1) wc))) := (Mq.refl _ _).set _ _ rfl
            have K5 : Hid (Ky (some 148) u4 (u4.setCell ⟨q, 8, none⟩ (.slice wa (j + 1) wc))) := ky_set V4'.out M5.out
            have M6 : Hid (Sq5 V.heap.size q g t W5 (u4.setCell ⟨q, 8, none⟩ (.slice wa (j + 1) wc))) := ⟨M4.out.1.set _ _ (.inr rfl), V5.out.cell 7 rfl⟩
            generalize u4.setCell ⟨q, 8, none⟩ (.slice wa (j + 1) wc) = u5 at *
            refine hK.out _ _ M6.out (fun _ => ?_)
            clear hK K
            refine wpAnyH_done (by kernel_rfl) ?_ _
            have B5 : Hid (Below W.heap.size W u5) := Mq.under HB.out.1 M6.out.1 fun k e => by have := QB.out; have := BVS.out; omega
            have Z5 : Hid (V.heap.size ≤ u5.heap.size) := Nat.le_trans HB.out.2 M6.out.1.size
            go_wp2_with fail
            go_roundw
            case rel => exact ⟨j + 1, _, _, by have := HLT.out; omega, by go_num, V5.out, K5.out.row P4.out (by decide), MN.out.ky K5.out M5.out.size (by decide) (by decide) (by decide), B5.out, Z5.out⟩
            case measure => have := HLT.out; simp [intOf]; omega
    · have hJ : ¬ (j : Int) < (lh : Int) := by omega
      have JN : j = lh := by omega
      subst JN
      clear hlt hB hj
      go_wp2_with fail
      exact bodyPost_ret (v := .pointer (some ⟨q, 0, none⟩)) (by simp [results, Tryz.results63, go_sem]) rfl ⟨⟨q, g, _, rs, rfl, HX.out, row_monoX HP.out B0.out.size, ⟨HG.out.len, row_monoX HG.out.row (Nat.le_trans B0.out.size BVS.out), fun k s e => by obtain ⟨k1, k2, k3, k4, k5⟩ := HG.out.one k s e; exact ⟨k1, k2, k3, k4, k5.mono (Nat.le_trans B0.out.size BVS.out)⟩, HG.out.apart⟩, by have := QB.out; have := B0.out.size; omega⟩, on B0.out HB.out.1⟩
end Go.Proofs.YtggejbphdadckaaGreatDoor
