/- Texts of this seat, joined. -/
import Derived.Test.YtbegbphbcjoglaaGreatDoorQ12
import Derived.Test.YtbegbphbcjoglaaGreatDoorQ14
import Derived.Test.YtbegbphbcjoglaaGreatDoorQ18
import Derived.Test.YtbegbphbcjoglaaGreatDoorQ21
import Derived.Test.YtbegbphbcjoglaaGreatDoorQ29
import Derived.Test.YtbegbphbcjoglaaGreatDoorQ32
import Derived.Test.YtbegbphbcjoglaaGreatDoorQ33
namespace Go.Proofs.YtbegbphbcjoglaaGreatDoor
open Go.RowKit
set_option linter.unusedVariables false

theorem two {v : World} {q : Nat} {t : TypeId} {z0 z1 : Value} (h : Vb v q #[z0, z1] t) (u0 u1 : Value) :
    Vb ((v.setCell ⟨q, 0, none⟩ u0).setCell ⟨q, 1, none⟩ u1) q #[u0, u1] t ∧ Mq (fun k => k = q) v ((v.setCell ⟨q, 0, none⟩ u0).setCell ⟨q, 1, none⟩ u1) := by
  have h0 : Vb (v.setCell ⟨q, 0, none⟩ u0) q #[u0, z1] t := h.set 0 u0
  exact ⟨h0.set 1 u1, ((Mq.refl (fun k => k = q) v).set ⟨q, 0, none⟩ u0 rfl).set ⟨q, 1, none⟩ u1 rfl⟩
theorem void_hm (w : World) (base : Nat) : Hm w base (.slice none 0 0) (.slice none 0 0) (.slice none 0 0) (.slice none 0 0) voidH := ⟨Nums.nil _ _, Nums.nil _ _, Nums.nil _ _, Nums.nil _ _⟩
theorem void_ha : Ha (.slice none 0 0) (.slice none 0 0) (.slice none 0 0) (.slice none 0 0) := ⟨.inl rfl, .inl rfl, .inl rfl, .inl rfl, .inl rfl, .inl rfl⟩
end Go.Proofs.YtbegbphbcjoglaaGreatDoor
namespace Go.Proofs.YtbegbphbcjoglaaGreatDoor
open Go.RowKit
set_option linter.unusedVariables false

def mcp (H : Ht) (i o : Value) (ps : List (Int × Int)) : Array Value := #[.int .i64 (gt H.regs 0), .int .i64 (gt H.regs 1), .int .i64 (gt H.regs 2), .int .i64 (gt H.regs 3), .int .i64 (gt H.regs 4), .int .i64 (gt H.regs 5), .int .i64 (gt H.regs 6), .int .i64 (gt H.regs 7), .int .i64 (gt H.regs 8), .int .i64 (gt H.regs 9), .int .i64 (gt H.regs 10), .int .i64 (gt H.regs 11), .int .i64 (gt H.regs 12), .int .i64 (gt H.regs 13), .int .i64 (gt H.regs 14), .int .i64 (gt H.regs 15), .int .i64 H.pc, .int .i64 (gt H.csr 0), .int .i64 (gt H.csr 1), .int .i64 (gt H.csr 2), .int .i64 (gt H.csr 3), .int .i64 (gt H.csr 4), .int .i64 (gt H.csr 5), .int .i64 (gt H.csr 6), .int .i64 (gt H.csr 7), .int .i64 (gt H.csr 8), .int .i64 (gt H.csr 9), .int .i64 (gt H.csr 10), .bool H.halted, .bool H.waiting, .bool H.rung, .int .i64 H.done, i, o, .int .i64 (ps.getD 0 (0, 0)).1, .int .i64 (ps.getD 0 (0, 0)).2, .int .i64 (ps.getD 1 (0, 0)).1, .int .i64 (ps.getD 1 (0, 0)).2, .int .i64 (ps.getD 2 (0, 0)).1, .int .i64 (ps.getD 2 (0, 0)).2, .int .i64 (ps.getD 3 (0, 0)).1, .int .i64 (ps.getD 3 (0, 0)).2, .int .i64 (ps.getD 4 (0, 0)).1, .int .i64 (ps.getD 4 (0, 0)).2, .int .i64 (ps.getD 5 (0, 0)).1, .int .i64 (ps.getD 5 (0, 0)).2, .int .i64 (ps.getD 6 (0, 0)).1, .int .i64 (ps.getD 6 (0, 0)).2, .int .i64 (ps.getD 7 (0, 0)).1, .int .i64 (ps.getD 7 (0, 0)).2]
set_option maxRecDepth 20000 in
set_option maxHeartbeats 8000000 in
theorem i_pagedOver (r c i o : Value) (H : Ht) (pgb pc : Nat) (ps : List (Int × Int)) (b : Nat) (w : World) (h : Hm w b r c i o H) (hk : Hok H) (hp : Prs 80 w b (.slice (some ⟨pgb, 0, none⟩) 8 pc) ps) (h8 : ps.length = 8) :
    Calls Tryz.prog 34 #[.agg #[r, .int .i64 H.pc, c, .bool H.halted, .bool H.waiting, .bool H.rung, .int .i64 H.done, i, o], .slice (some ⟨pgb, 0, none⟩) 8 pc] w fun e w' => ∃ i' o', e = .returned (.agg (mcp H i' o' ps)) ∧ Nums w' w.heap.size i' H.inn ∧ Nums w' w.heap.size o' H.out ∧ Apt i' o' ∧ Below w.heap.size w w' := by
  have c0 := hp.cell h8.symm 0 (by decide)
  have c1 := hp.cell h8.symm 1 (by decide)
  have c2 := hp.cell h8.symm 2 (by decide)
  have c3 := hp.cell h8.symm 3 (by decide)
  have c4 := hp.cell h8.symm 4 (by decide)
  have c5 := hp.cell h8.symm 5 (by decide)
  have c6 := hp.cell h8.symm 6 (by decide)
  have c7 := hp.cell h8.symm 7 (by decide)
  obtain ⟨t0, ht0⟩ : ∃ z, (ps.getD 0 (0, 0)).1 = z := ⟨_, rfl⟩
  obtain ⟨d0, hd0⟩ : ∃ z, (ps.getD 0 (0, 0)).2 = z := ⟨_, rfl⟩
  rw [ht0, hd0] at c0
  obtain ⟨t1, ht1⟩ : ∃ z, (ps.getD 1 (0, 0)).1 = z := ⟨_, rfl⟩
  obtain ⟨d1, hd1⟩ : ∃ z, (ps.getD 1 (0, 0)).2 = z := ⟨_, rfl⟩
  rw [ht1, hd1] at c1
  obtain ⟨t2, ht2⟩ : ∃ z, (ps.getD 2 (0, 0)).1 = z := ⟨_, rfl⟩
  obtain ⟨d2, hd2⟩ : ∃ z, (ps.getD 2 (0, 0)).2 = z := ⟨_, rfl⟩
  rw [ht2, hd2] at c2
  obtain ⟨t3, ht3⟩ : ∃ z, (ps.getD 3 (0, 0)).1 = z := ⟨_, rfl⟩
  obtain ⟨d3, hd3⟩ : ∃ z, (ps.getD 3 (0, 0)).2 = z := ⟨_, rfl⟩
  rw [ht3, hd3] at c3
  obtain ⟨t4, ht4⟩ : ∃ z, (ps.getD 4 (0, 0)).1 = z := ⟨_, rfl⟩
  obtain ⟨d4, hd4⟩ : ∃ z, (ps.getD 4 (0, 0)).2 = z := ⟨_, rfl⟩
  rw [ht4, hd4] at c4
  obtain ⟨t5, ht5⟩ : ∃ z, (ps.getD 5 (0, 0)).1 = z := ⟨_, rfl⟩
  obtain ⟨d5, hd5⟩ : ∃ z, (ps.getD 5 (0, 0)).2 = z := ⟨_, rfl⟩
  rw [ht5, hd5] at c5
  obtain ⟨t6, ht6⟩ : ∃ z, (ps.getD 6 (0, 0)).1 = z := ⟨_, rfl⟩
  obtain ⟨d6, hd6⟩ : ∃ z, (ps.getD 6 (0, 0)).2 = z := ⟨_, rfl⟩
  rw [ht6, hd6] at c6
  obtain ⟨t7, ht7⟩ : ∃ z, (ps.getD 7 (0, 0)).1 = z := ⟨_, rfl⟩
  obtain ⟨d7, hd7⟩ : ∃ z, (ps.getD 7 (0, 0)).2 = z := ⟨_, rfl⟩
  rw [ht7, hd7] at c7
  have PE : Hid ((ps.getD 0 (0, 0)).1 = t0 ∧ (ps.getD 0 (0, 0)).2 = d0 ∧ (ps.getD 1 (0, 0)).1 = t1 ∧ (ps.getD 1 (0, 0)).2 = d1 ∧ (ps.getD 2 (0, 0)).1 = t2 ∧ (ps.getD 2 (0, 0)).2 = d2 ∧ (ps.getD 3 (0, 0)).1 = t3 ∧ (ps.getD 3 (0, 0)).2 = d3 ∧ (ps.getD 4 (0, 0)).1 = t4 ∧ (ps.getD 4 (0, 0)).2 = d4 ∧ (ps.getD 5 (0, 0)).1 = t5 ∧ (ps.getD 5 (0, 0)).2 = d5 ∧ (ps.getD 6 (0, 0)).1 = t6 ∧ (ps.getD 6 (0, 0)).2 = d6 ∧ (ps.getD 7 (0, 0)).1 = t7 ∧ (ps.getD 7 (0, 0)).2 = d7) := ⟨ht0, hd0, ht1, hd1, ht2, hd2, ht3, hd3, ht4, hd4, ht5, hd5, ht6, hd6, ht7, hd7⟩
  have C : Hid ((w.cell? ⟨pgb, 0, none⟩ = some (.int .i64 t0) ∧ w.cell? ⟨pgb, 1, none⟩ = some (.int .i64 d0)) ∧ (w.cell? ⟨pgb, 2, none⟩ = some (.int .i64 t1) ∧ w.cell? ⟨pgb, 3, none⟩ = some (.int .i64 d1)) ∧ (w.cell? ⟨pgb, 4, none⟩ = some (.int .i64 t2) ∧ w.cell? ⟨pgb, 5, none⟩ = some (.int .i64 d2)) ∧ (w.cell? ⟨pgb, 6, none⟩ = some (.int .i64 t3) ∧ w.cell? ⟨pgb, 7, none⟩ = some (.int .i64 d3)) ∧ (w.cell? ⟨pgb, 8, none⟩ = some (.int .i64 t4) ∧ w.cell? ⟨pgb, 9, none⟩ = some (.int .i64 d4)) ∧ (w.cell? ⟨pgb, 10, none⟩ = some (.int .i64 t5) ∧ w.cell? ⟨pgb, 11, none⟩ = some (.int .i64 d5)) ∧ (w.cell? ⟨pgb, 12, none⟩ = some (.int .i64 t6) ∧ w.cell? ⟨pgb, 13, none⟩ = some (.int .i64 d6)) ∧ (w.cell? ⟨pgb, 14, none⟩ = some (.int .i64 t7) ∧ w.cell? ⟨pgb, 15, none⟩ = some (.int .i64 d7))) := ⟨c0, c1, c2, c3, c4, c5, c6, c7⟩
  clear ht0 hd0 c0 ht1 hd1 c1 ht2 hd2 c2 ht3 hd3 c3 ht4 hd4 c4 ht5 hd5 c5 ht6 hd6 c6 ht7 hd7 c7 hp h8
  have HM' := h
  obtain ⟨a0, k0, e0, _⟩ := h.r.shape
  obtain ⟨a1, k1, e1, _⟩ := h.c.shape
  obtain ⟨a2, k2, e2, _⟩ := h.i.shape
  obtain ⟨a3, k3, e3, _⟩ := h.o.shape
  subst e0 e1 e2 e3
  obtain ⟨n0, hn0⟩ : ∃ n, H.regs.length = n := ⟨_, rfl⟩
  obtain ⟨n1, hn1⟩ : ∃ n, H.csr.length = n := ⟨_, rfl⟩
  obtain ⟨n2, hn2⟩ : ∃ n, H.inn.length = n := ⟨_, rfl⟩
  obtain ⟨n3, hn3⟩ : ∃ n, H.out.length = n := ⟨_, rfl⟩
  rw [hn0, hn1, hn2, hn3] at h ⊢
  have HM : Hid (Hm w b (.slice a0 n0 k0) (.slice a1 n1 k1) (.slice a2 n2 k2) (.slice a3 n3 k3) H) := h
  have KH : Hid (Hok H) := hk
  clear h hk HM' hn0 hn1 hn2 hn3
  generalize hW : (w.alloc (.cells #[.slice a0 n0 k0, .int .i64 H.pc, .slice a1 n1 k1, .bool H.halted, .bool H.waiting, .bool H.rung, .int .i64 H.done, .slice a2 n2 k2, .slice a3 n3 k3] 31)).alloc (.cells #[.int .i64 0, .int .i64 0, .int .i64 0, .int .i64 0, .int .i64 0, .int .i64 0, .int .i64 0, .int .i64 0, .int .i64 0, .int .i64 0, .int .i64 0, .int .i64 0, .int .i64 0, .int .i64 0, .int .i64 0, .int .i64 0, .int .i64 0, .int .i64 0, .int .i64 0, .int .i64 0, .int .i64 0, .int .i64 0, .int .i64 0, .int .i64 0, .int .i64 0, .int .i64 0, .int .i64 0, .int .i64 0, .bool false, .bool false, .bool false, .int .i64 0, .slice none 0 0, .slice none 0 0, .int .i64 0, .int .i64 0, .int .i64 0, .int .i64 0, .int .i64 0, .int .i64 0, .int .i64 0, .int .i64 0, .int .i64 0, .int .i64 0, .int .i64 0, .int .i64 0, .int .i64 0, .int .i64 0, .int .i64 0, .int .i64 0] 91) = W
  have B0 : Hid (Below w.heap.size w W) := by show Below _ _ _; rw [← hW]; exact al (al (Below.refl _ _) _) _
  obtain ⟨s, hS⟩ : ∃ s, w.heap.size = s := ⟨_, rfl⟩
  have HSs : Hid (w.heap.size = s) := hS
  have z1 : s + 1 = (w.alloc (.cells #[.slice a0 n0 k0, .int .i64 H.pc, .slice a1 n1 k1, .bool H.halted, .bool H.waiting, .bool H.rung, .int .i64 H.done, .slice a2 n2 k2, .slice a3 n3 k3] 31)).heap.size := by rw [← hS]; simp
  have Q : Hid (Vb W s #[.slice a0 n0 k0, .int .i64 H.pc, .slice a1 n1 k1, .bool H.halted, .bool H.waiting, .bool H.rung, .int .i64 H.done, .slice a2 n2 k2, .slice a3 n3 k3] 31) := by show Vb _ _ _ _; rw [← hW, ← hS]; exact (Vb.new _ _ _).push _
  have R : Hid (Vb W (s + 1) #[.int .i64 0, .int .i64 0, .int .i64 0, .int .i64 0, .int .i64 0, .int .i64 0, .int .i64 0, .int .i64 0, .int .i64 0, .int .i64 0, .int .i64 0, .int .i64 0, .int .i64 0, .int .i64 0, .int .i64 0, .int .i64 0, .int .i64 0, .int .i64 0, .int .i64 0, .int .i64 0, .int .i64 0, .int .i64 0, .int .i64 0, .int .i64 0, .int .i64 0, .int .i64 0, .int .i64 0, .int .i64 0, .bool false, .bool false, .bool false, .int .i64 0, .slice none 0 0, .slice none 0 0, .int .i64 0, .int .i64 0, .int .i64 0, .int .i64 0, .int .i64 0, .int .i64 0, .int .i64 0, .int .i64 0, .int .i64 0, .int .i64 0, .int .i64 0, .int .i64 0, .int .i64 0, .int .i64 0, .int .i64 0, .int .i64 0] 91) := by show Vb _ _ _ _; rw [← hW, z1]; exact Vb.new _ _ _
  clear z1
  have LT : Hid (s + 1 < W.heap.size) := R.out.lt
  have BS : Hid (∀ w', SvN 50 W (s + 1) w' → Below w.heap.size w w') := fun w' hs => Mq.under B0.out hs.1 fun k e => by have := HSs.out; omega
  have QS : Hid (∀ w', SvN 50 W (s + 1) w' → Vb w' s #[.slice a0 n0 k0, .int .i64 H.pc, .slice a1 n1 k1, .bool H.halted, .bool H.waiting, .bool H.rung, .int .i64 H.done, .slice a2 n2 k2, .slice a3 n3 k3] 31) := fun w' hs => hs.1.vb Q.out (by omega)
  have Sv0 : Hid (SvN 50 W (s + 1) W.drew) := SvN.step ⟨Mq.refl _ _, R.out.there 50 (by decide)⟩ LT.out (Below.refl _ _).drew
  have E0 : Hid (Below W.heap.size W W.drew) := (Below.refl _ _).drew
  have ha0 : ∀ w', (Instr.arrayAt 89 (.slice (some ⟨pgb, 0, none⟩) 8 pc)).run Tryz.prog w' = .ok (.pointer (some ⟨pgb, 0, none⟩)) w' := fun w' => by simp [Instr.arrayAt, Sem.run_bind, run_underlying Tryz.underlying89]
  go_enter Tryz.func34, Tryz.ntmps34
  go_upto_region 1 with fail
  clear hW hS
  refine wp_region_held (S := fun w' => SvN 50 W (s + 1) w') (by kernel_rfl) ?_
  change wpAnyH _ _ _ _ _ _ _ _ (World.drew _)
  generalize W.drew = v0 at *
  refine wpAnyH_take (i := 0) (v := (.agg #[.slice a0 n0 k0, .int .i64 H.pc, .slice a1 n1 k1, .bool H.halted, .bool H.waiting, .bool H.rung, .int .i64 H.done, .slice a2 n2 k2, .slice a3 n3 k3])) rfl (by kernel_rfl) (by kernel_rfl) (by kernel_rfl) (fun _ _ _ h => h) (Or.inl ⟨by rfl, fun w' hs => by have hq := QS.out w' hs; have y0 := hq.cell 0 rfl; have y1 := hq.cell 1 rfl; have y2 := hq.cell 2 rfl; have y3 := hq.cell 3 rfl; have y4 := hq.cell 4 rfl; have y5 := hq.cell 5 rfl; have y6 := hq.cell 6 rfl; have y7 := hq.cell 7 rfl; have y8 := hq.cell 8 rfl; go_simp⟩) Sv0.out ?_
  change wpAnyH _ _ _ _ _ _ _ (Act.put _ (some 5) _) _
  simp only [Act.put, List.setIfInBounds_toArray, List.set_cons_zero, List.set_cons_succ]
  refine wpAnyH_take (i := 2) (v := (.slice (some ⟨pgb, 0, none⟩) 8 pc)) rfl (by kernel_rfl) (by kernel_rfl) (by kernel_rfl) (fun _ _ _ h => h) (Or.inl ⟨by rfl, fun w' hs => by go_simp⟩) Sv0.out ?_
  change wpAnyH _ _ _ _ _ _ _ (Act.put _ (some 7) _) _
  simp only [Act.put, List.setIfInBounds_toArray, List.set_cons_zero, List.set_cons_succ]
  refine wpAnyH_take (i := 3) (v := (.pointer (some ⟨pgb, 0, none⟩))) rfl (by kernel_rfl) (by kernel_rfl) (by kernel_rfl) (fun _ _ _ h => h) (Or.inl ⟨by rfl, fun w' hs => by have ha := ha0 w'; go_simp⟩) Sv0.out ?_
  change wpAnyH _ _ _ _ _ _ _ (Act.put _ (some 8) _) _
  simp only [Act.put, List.setIfInBounds_toArray, List.set_cons_zero, List.set_cons_succ]
  refine wpAnyH_take (i := 4) (v := (.agg #[.int .i64 t0, .int .i64 d0, .int .i64 t1, .int .i64 d1, .int .i64 t2, .int .i64 d2, .int .i64 t3, .int .i64 d3, .int .i64 t4, .int .i64 d4, .int .i64 t5, .int .i64 d5, .int .i64 t6, .int .i64 d6, .int .i64 t7, .int .i64 d7])) rfl (by kernel_rfl) (by kernel_rfl) (by kernel_rfl) (fun _ _ _ h => h) (Or.inl ⟨by rfl, fun w' hs => by have y0 := cell_keep (BS.out w' hs) C.out.1.1; have x0 := cell_keep (BS.out w' hs) C.out.1.2; have y1 := cell_keep (BS.out w' hs) C.out.2.1.1; have x1 := cell_keep (BS.out w' hs) C.out.2.1.2; have y2 := cell_keep (BS.out w' hs) C.out.2.2.1.1; have x2 := cell_keep (BS.out w' hs) C.out.2.2.1.2; have y3 := cell_keep (BS.out w' hs) C.out.2.2.2.1.1; have x3 := cell_keep (BS.out w' hs) C.out.2.2.2.1.2; have y4 := cell_keep (BS.out w' hs) C.out.2.2.2.2.1.1; have x4 := cell_keep (BS.out w' hs) C.out.2.2.2.2.1.2; have y5 := cell_keep (BS.out w' hs) C.out.2.2.2.2.2.1.1; have x5 := cell_keep (BS.out w' hs) C.out.2.2.2.2.2.1.2; have y6 := cell_keep (BS.out w' hs) C.out.2.2.2.2.2.2.1.1; have x6 := cell_keep (BS.out w' hs) C.out.2.2.2.2.2.2.1.2; have y7 := cell_keep (BS.out w' hs) C.out.2.2.2.2.2.2.2.1; have x7 := cell_keep (BS.out w' hs) C.out.2.2.2.2.2.2.2.2; go_simp⟩) Sv0.out ?_
  change wpAnyH _ _ _ _ _ _ _ (Act.put _ (some 9) _) _
  simp only [Act.put, List.setIfInBounds_toArray, List.set_cons_zero, List.set_cons_succ]
  refine wpAnyH_ready (rs := [1]) (by kernel_rfl) (by simp) ?_
  refine AllReadyH.cons rfl (fun K hK => ?_) AllReadyH.nil
  rw [if_pos (by rfl)]
  go_simp
  refine (i_machine _ _ _ _ H _ _ ((HM.out.keep B0.out).keep E0.out) KH.out.r16 KH.out.c11 (by have := KH.out.i40; omega) (by have := KH.out.o40; omega)).mono ?_
  rintro e v1 ⟨i2, o2, rfl, mi, mo, ap, b2⟩
  obtain ⟨xa, xk, rfl, _⟩ := mi.shape
  obtain ⟨ya, yk, rfl, _⟩ := mo.shape
  obtain ⟨xn, hxn⟩ : ∃ n, H.inn.length = n := ⟨_, rfl⟩
  obtain ⟨yn, hyn⟩ : ∃ n, H.out.length = n := ⟨_, rfl⟩
  rw [hxn] at mi
  rw [hyn] at mo
  rw [hxn, hyn] at ap ⊢
  have MI : Hid (Nums v1 v0.heap.size (.slice xa xn xk) H.inn) := mi
  have MO : Hid (Nums v1 v0.heap.size (.slice ya yn yk) H.out) := mo
  have AP : Hid (Apt (.slice xa xn xk) (.slice ya yn yk)) := ap
  have Sv1 : Hid (SvN 50 W (s + 1) v1) := Sv0.out.step LT.out b2
  have Z0 : Hid (W.heap.size ≤ v0.heap.size) := E0.out.size
  clear mi mo ap b2 hxn hyn
  unfold mca
  refine hK.out _ _ Sv1.out (fun _ => ?_)
  clear hK K
  refine wpAnyH_take (i := 5) (v := (.agg #[.int .i64 (gt H.regs 0), .int .i64 (gt H.regs 1), .int .i64 (gt H.regs 2), .int .i64 (gt H.regs 3), .int .i64 (gt H.regs 4), .int .i64 (gt H.regs 5), .int .i64 (gt H.regs 6), .int .i64 (gt H.regs 7), .int .i64 (gt H.regs 8), .int .i64 (gt H.regs 9), .int .i64 (gt H.regs 10), .int .i64 (gt H.regs 11), .int .i64 (gt H.regs 12), .int .i64 (gt H.regs 13), .int .i64 (gt H.regs 14), .int .i64 (gt H.regs 15), .int .i64 H.pc, .int .i64 (gt H.csr 0), .int .i64 (gt H.csr 1), .int .i64 (gt H.csr 2), .int .i64 (gt H.csr 3), .int .i64 (gt H.csr 4), .int .i64 (gt H.csr 5), .int .i64 (gt H.csr 6), .int .i64 (gt H.csr 7), .int .i64 (gt H.csr 8), .int .i64 (gt H.csr 9), .int .i64 (gt H.csr 10), .bool H.halted, .bool H.waiting, .bool H.rung, .int .i64 H.done, .slice xa xn xk, .slice ya yn yk, .int .i64 t0, .int .i64 d0, .int .i64 t1, .int .i64 d1, .int .i64 t2, .int .i64 d2, .int .i64 t3, .int .i64 d3, .int .i64 t4, .int .i64 d4, .int .i64 t5, .int .i64 d5, .int .i64 t6, .int .i64 d6, .int .i64 t7, .int .i64 d7])) rfl (by kernel_rfl) (by kernel_rfl) (by kernel_rfl) (fun _ _ _ h => h) (Or.inl ⟨by rfl, fun w' hs => by go_simp⟩) Sv1.out ?_
  change wpAnyH _ _ _ _ _ _ _ (Act.put _ (some 10) _) _
  simp only [Act.put, List.setIfInBounds_toArray, List.set_cons_zero, List.set_cons_succ]
  refine wpAnyH_ready (rs := [6]) (by kernel_rfl) (by simp) ?_
  refine AllReadyH.cons rfl (fun K hK => ?_) AllReadyH.nil
  rw [if_pos (by rfl)]
  refine wp_store_mid 91 (.tmp 4) (.tmp 10) rfl (s + 1) 0 #[.int .i64 (gt H.regs 0), .int .i64 (gt H.regs 1), .int .i64 (gt H.regs 2), .int .i64 (gt H.regs 3), .int .i64 (gt H.regs 4), .int .i64 (gt H.regs 5), .int .i64 (gt H.regs 6), .int .i64 (gt H.regs 7), .int .i64 (gt H.regs 8), .int .i64 (gt H.regs 9), .int .i64 (gt H.regs 10), .int .i64 (gt H.regs 11), .int .i64 (gt H.regs 12), .int .i64 (gt H.regs 13), .int .i64 (gt H.regs 14), .int .i64 (gt H.regs 15), .int .i64 H.pc, .int .i64 (gt H.csr 0), .int .i64 (gt H.csr 1), .int .i64 (gt H.csr 2), .int .i64 (gt H.csr 3), .int .i64 (gt H.csr 4), .int .i64 (gt H.csr 5), .int .i64 (gt H.csr 6), .int .i64 (gt H.csr 7), .int .i64 (gt H.csr 8), .int .i64 (gt H.csr 9), .int .i64 (gt H.csr 10), .bool H.halted, .bool H.waiting, .bool H.rung, .int .i64 H.done, .slice xa xn xk, .slice ya yn yk, .int .i64 t0, .int .i64 d0, .int .i64 t1, .int .i64 d1, .int .i64 t2, .int .i64 d2, .int .i64 t3, .int .i64 d3, .int .i64 t4, .int .i64 d4, .int .i64 t5, .int .i64 d5, .int .i64 t6, .int .i64 d6, .int .i64 t7, .int .i64 d7] rfl rfl Sv1.out.2 (by kernel_rfl) (by simp [Value.oneCell']) ?_
  change K (Act.put _ none undef) _
  simp only [Act.put]
  have S6 : Hid (SvN 50 W (s + 1) (v1.setCells (s + 1) 0 #[.int .i64 (gt H.regs 0), .int .i64 (gt H.regs 1), .int .i64 (gt H.regs 2), .int .i64 (gt H.regs 3), .int .i64 (gt H.regs 4), .int .i64 (gt H.regs 5), .int .i64 (gt H.regs 6), .int .i64 (gt H.regs 7), .int .i64 (gt H.regs 8), .int .i64 (gt H.regs 9), .int .i64 (gt H.regs 10), .int .i64 (gt H.regs 11), .int .i64 (gt H.regs 12), .int .i64 (gt H.regs 13), .int .i64 (gt H.regs 14), .int .i64 (gt H.regs 15), .int .i64 H.pc, .int .i64 (gt H.csr 0), .int .i64 (gt H.csr 1), .int .i64 (gt H.csr 2), .int .i64 (gt H.csr 3), .int .i64 (gt H.csr 4), .int .i64 (gt H.csr 5), .int .i64 (gt H.csr 6), .int .i64 (gt H.csr 7), .int .i64 (gt H.csr 8), .int .i64 (gt H.csr 9), .int .i64 (gt H.csr 10), .bool H.halted, .bool H.waiting, .bool H.rung, .int .i64 H.done, .slice xa xn xk, .slice ya yn yk, .int .i64 t0, .int .i64 d0, .int .i64 t1, .int .i64 d1, .int .i64 t2, .int .i64 d2, .int .i64 t3, .int .i64 d3, .int .i64 t4, .int .i64 d4, .int .i64 t5, .int .i64 d5, .int .i64 t6, .int .i64 d6, .int .i64 t7, .int .i64 d7].toList)) := Sv1.out.set _
  have R6 : Hid ((v1.setCells (s + 1) 0 #[.int .i64 (gt H.regs 0), .int .i64 (gt H.regs 1), .int .i64 (gt H.regs 2), .int .i64 (gt H.regs 3), .int .i64 (gt H.regs 4), .int .i64 (gt H.regs 5), .int .i64 (gt H.regs 6), .int .i64 (gt H.regs 7), .int .i64 (gt H.regs 8), .int .i64 (gt H.regs 9), .int .i64 (gt H.regs 10), .int .i64 (gt H.regs 11), .int .i64 (gt H.regs 12), .int .i64 (gt H.regs 13), .int .i64 (gt H.regs 14), .int .i64 (gt H.regs 15), .int .i64 H.pc, .int .i64 (gt H.csr 0), .int .i64 (gt H.csr 1), .int .i64 (gt H.csr 2), .int .i64 (gt H.csr 3), .int .i64 (gt H.csr 4), .int .i64 (gt H.csr 5), .int .i64 (gt H.csr 6), .int .i64 (gt H.csr 7), .int .i64 (gt H.csr 8), .int .i64 (gt H.csr 9), .int .i64 (gt H.csr 10), .bool H.halted, .bool H.waiting, .bool H.rung, .int .i64 H.done, .slice xa xn xk, .slice ya yn yk, .int .i64 t0, .int .i64 d0, .int .i64 t1, .int .i64 d1, .int .i64 t2, .int .i64 d2, .int .i64 t3, .int .i64 d3, .int .i64 t4, .int .i64 d4, .int .i64 t5, .int .i64 d5, .int .i64 t6, .int .i64 d6, .int .i64 t7, .int .i64 d7].toList).rangeAt (s + 1) 0 #[.int .i64 (gt H.regs 0), .int .i64 (gt H.regs 1), .int .i64 (gt H.regs 2), .int .i64 (gt H.regs 3), .int .i64 (gt H.regs 4), .int .i64 (gt H.regs 5), .int .i64 (gt H.regs 6), .int .i64 (gt H.regs 7), .int .i64 (gt H.regs 8), .int .i64 (gt H.regs 9), .int .i64 (gt H.regs 10), .int .i64 (gt H.regs 11), .int .i64 (gt H.regs 12), .int .i64 (gt H.regs 13), .int .i64 (gt H.regs 14), .int .i64 (gt H.regs 15), .int .i64 H.pc, .int .i64 (gt H.csr 0), .int .i64 (gt H.csr 1), .int .i64 (gt H.csr 2), .int .i64 (gt H.csr 3), .int .i64 (gt H.csr 4), .int .i64 (gt H.csr 5), .int .i64 (gt H.csr 6), .int .i64 (gt H.csr 7), .int .i64 (gt H.csr 8), .int .i64 (gt H.csr 9), .int .i64 (gt H.csr 10), .bool H.halted, .bool H.waiting, .bool H.rung, .int .i64 H.done, .slice xa xn xk, .slice ya yn yk, .int .i64 t0, .int .i64 d0, .int .i64 t1, .int .i64 d1, .int .i64 t2, .int .i64 d2, .int .i64 t3, .int .i64 d3, .int .i64 t4, .int .i64 d4, .int .i64 t5, .int .i64 d5, .int .i64 t6, .int .i64 d6, .int .i64 t7, .int .i64 d7].toList) := World.rangeAt_setCells_same _ _ _ _ Sv1.out.2
  have Q6 : Hid (Mq (fun k => k = s + 1) v1 (v1.setCells (s + 1) 0 #[.int .i64 (gt H.regs 0), .int .i64 (gt H.regs 1), .int .i64 (gt H.regs 2), .int .i64 (gt H.regs 3), .int .i64 (gt H.regs 4), .int .i64 (gt H.regs 5), .int .i64 (gt H.regs 6), .int .i64 (gt H.regs 7), .int .i64 (gt H.regs 8), .int .i64 (gt H.regs 9), .int .i64 (gt H.regs 10), .int .i64 (gt H.regs 11), .int .i64 (gt H.regs 12), .int .i64 (gt H.regs 13), .int .i64 (gt H.regs 14), .int .i64 (gt H.regs 15), .int .i64 H.pc, .int .i64 (gt H.csr 0), .int .i64 (gt H.csr 1), .int .i64 (gt H.csr 2), .int .i64 (gt H.csr 3), .int .i64 (gt H.csr 4), .int .i64 (gt H.csr 5), .int .i64 (gt H.csr 6), .int .i64 (gt H.csr 7), .int .i64 (gt H.csr 8), .int .i64 (gt H.csr 9), .int .i64 (gt H.csr 10), .bool H.halted, .bool H.waiting, .bool H.rung, .int .i64 H.done, .slice xa xn xk, .slice ya yn yk, .int .i64 t0, .int .i64 d0, .int .i64 t1, .int .i64 d1, .int .i64 t2, .int .i64 d2, .int .i64 t3, .int .i64 d3, .int .i64 t4, .int .i64 d4, .int .i64 t5, .int .i64 d5, .int .i64 t6, .int .i64 d6, .int .i64 t7, .int .i64 d7].toList)) := mq_cells (s + 1) _ v1 0
  generalize v1.setCells (s + 1) 0 #[.int .i64 (gt H.regs 0), .int .i64 (gt H.regs 1), .int .i64 (gt H.regs 2), .int .i64 (gt H.regs 3), .int .i64 (gt H.regs 4), .int .i64 (gt H.regs 5), .int .i64 (gt H.regs 6), .int .i64 (gt H.regs 7), .int .i64 (gt H.regs 8), .int .i64 (gt H.regs 9), .int .i64 (gt H.regs 10), .int .i64 (gt H.regs 11), .int .i64 (gt H.regs 12), .int .i64 (gt H.regs 13), .int .i64 (gt H.regs 14), .int .i64 (gt H.regs 15), .int .i64 H.pc, .int .i64 (gt H.csr 0), .int .i64 (gt H.csr 1), .int .i64 (gt H.csr 2), .int .i64 (gt H.csr 3), .int .i64 (gt H.csr 4), .int .i64 (gt H.csr 5), .int .i64 (gt H.csr 6), .int .i64 (gt H.csr 7), .int .i64 (gt H.csr 8), .int .i64 (gt H.csr 9), .int .i64 (gt H.csr 10), .bool H.halted, .bool H.waiting, .bool H.rung, .int .i64 H.done, .slice xa xn xk, .slice ya yn yk, .int .i64 t0, .int .i64 d0, .int .i64 t1, .int .i64 d1, .int .i64 t2, .int .i64 d2, .int .i64 t3, .int .i64 d3, .int .i64 t4, .int .i64 d4, .int .i64 t5, .int .i64 d5, .int .i64 t6, .int .i64 d6, .int .i64 t7, .int .i64 d7].toList = v6 at *
  refine hK.out _ _ S6.out (fun _ => ?_)
  clear hK K
  refine wpAnyH_done (by kernel_rfl) ?_ _
  have o6 : Ho W.heap.size v1 v6 := Q6.out.ho fun k e => by have := LT.out; omega
  have z1 : w.heap.size ≤ W.heap.size := B0.out.size
  have F : Hid (Nums v6 w.heap.size (.slice xa xn xk) H.inn ∧ Nums v6 w.heap.size (.slice ya yn yk) H.out) := ⟨((MI.out.mono Z0.out).ho o6).mono z1, ((MO.out.mono Z0.out).ho o6).mono z1⟩
  have LD := run_loadVar_mid (P := Tryz.prog) v6 (s + 1) 0 91 #[.int .i64 (gt H.regs 0), .int .i64 (gt H.regs 1), .int .i64 (gt H.regs 2), .int .i64 (gt H.regs 3), .int .i64 (gt H.regs 4), .int .i64 (gt H.regs 5), .int .i64 (gt H.regs 6), .int .i64 (gt H.regs 7), .int .i64 (gt H.regs 8), .int .i64 (gt H.regs 9), .int .i64 (gt H.regs 10), .int .i64 (gt H.regs 11), .int .i64 (gt H.regs 12), .int .i64 (gt H.regs 13), .int .i64 (gt H.regs 14), .int .i64 (gt H.regs 15), .int .i64 H.pc, .int .i64 (gt H.csr 0), .int .i64 (gt H.csr 1), .int .i64 (gt H.csr 2), .int .i64 (gt H.csr 3), .int .i64 (gt H.csr 4), .int .i64 (gt H.csr 5), .int .i64 (gt H.csr 6), .int .i64 (gt H.csr 7), .int .i64 (gt H.csr 8), .int .i64 (gt H.csr 9), .int .i64 (gt H.csr 10), .bool H.halted, .bool H.waiting, .bool H.rung, .int .i64 H.done, .slice xa xn xk, .slice ya yn yk, .int .i64 t0, .int .i64 d0, .int .i64 t1, .int .i64 d1, .int .i64 t2, .int .i64 d2, .int .i64 t3, .int .i64 d3, .int .i64 t4, .int .i64 d4, .int .i64 t5, .int .i64 d5, .int .i64 t6, .int .i64 d6, .int .i64 t7, .int .i64 d7].toList _ R6.out Tryz.underlying91 rfl (by kernel_rfl)
  go_wp2_with fail
  exact bodyPost_ret (v := .agg #[.int .i64 (gt H.regs 0), .int .i64 (gt H.regs 1), .int .i64 (gt H.regs 2), .int .i64 (gt H.regs 3), .int .i64 (gt H.regs 4), .int .i64 (gt H.regs 5), .int .i64 (gt H.regs 6), .int .i64 (gt H.regs 7), .int .i64 (gt H.regs 8), .int .i64 (gt H.regs 9), .int .i64 (gt H.regs 10), .int .i64 (gt H.regs 11), .int .i64 (gt H.regs 12), .int .i64 (gt H.regs 13), .int .i64 (gt H.regs 14), .int .i64 (gt H.regs 15), .int .i64 H.pc, .int .i64 (gt H.csr 0), .int .i64 (gt H.csr 1), .int .i64 (gt H.csr 2), .int .i64 (gt H.csr 3), .int .i64 (gt H.csr 4), .int .i64 (gt H.csr 5), .int .i64 (gt H.csr 6), .int .i64 (gt H.csr 7), .int .i64 (gt H.csr 8), .int .i64 (gt H.csr 9), .int .i64 (gt H.csr 10), .bool H.halted, .bool H.waiting, .bool H.rung, .int .i64 H.done, .slice xa xn xk, .slice ya yn yk, .int .i64 t0, .int .i64 d0, .int .i64 t1, .int .i64 d1, .int .i64 t2, .int .i64 d2, .int .i64 t3, .int .i64 d3, .int .i64 t4, .int .i64 d4, .int .i64 t5, .int .i64 d5, .int .i64 t6, .int .i64 d6, .int .i64 t7, .int .i64 d7]) (by simp [results, Tryz.results34, asAddr]; rw [LD]) rfl ⟨.slice xa xn xk, .slice ya yn yk, by unfold mcp; rw [PE.out.1, PE.out.2.1, PE.out.2.2.1, PE.out.2.2.2.1, PE.out.2.2.2.2.1, PE.out.2.2.2.2.2.1, PE.out.2.2.2.2.2.2.1, PE.out.2.2.2.2.2.2.2.1, PE.out.2.2.2.2.2.2.2.2.1, PE.out.2.2.2.2.2.2.2.2.2.1, PE.out.2.2.2.2.2.2.2.2.2.2.1, PE.out.2.2.2.2.2.2.2.2.2.2.2.1, PE.out.2.2.2.2.2.2.2.2.2.2.2.2.1, PE.out.2.2.2.2.2.2.2.2.2.2.2.2.2.1, PE.out.2.2.2.2.2.2.2.2.2.2.2.2.2.2.1, PE.out.2.2.2.2.2.2.2.2.2.2.2.2.2.2.2], F.out.1, F.out.2, AP.out, BS.out _ S6.out⟩
end Go.Proofs.YtbegbphbcjoglaaGreatDoor
