/- The law FnDevices answers true at every input, and each argument reads behind the call as it read ahead of it; no condition. -/
import Derived.Test.YteaccakodaidpaaBase
import Derived.Test.YteaccakodaidpaaHdf
import Derived.Test.YteaccakodaidpaaHvd
import Derived.Test.YteaccakodaidpaaHsf
import Derived.Test.YteaccakodaidpaaHdk
import Derived.Test.YteaccakodaidpaaHdn
import Derived.Test.YteaccakodaidpaaHdw
import Derived.Test.YteaccakodaidpaaHlw
import Derived.Test.YteaccakodaidpaaHbw
import Derived.Test.YteaccakodaidpaaHoi
import Derived.Deep.RegionWith
import Derived.Deep.Cut
import Derived.Deep.CutRange
namespace Go.Proofs.Yteaccakodaidpaa.fnDevicesDone
open Go.ChangeShapes Go.WideShapes Go.ChangeAt Go.RowKit
open Go.ChangeMaps (open_string shut_string)
set_option linter.unusedVariables false

theorem Vb.range3 {w : World} {q : Nat} {c c' c'' : Value} {cs : List Value} {t : TypeId} (h : Vb w q (c :: c' :: c'' :: cs).toArray t) : w.rangeAt q 3 cs := fun j v hv => h.cell (3 + j) (by rw [Nat.add_comm]; simpa using hv)
theorem field_hart0 (x0 x1 x2 x3 x4 x5 x6 x7 x8 x9 : Value) (w : World) : (Instr.field 43 (.agg #[x0, x1, x2, x3, x4, x5, x6, x7, x8, x9]) 0).run Try.prog w = .ok x0 w := by kernel_rfl
theorem field_int1 (x0 x1 : Value) (w : World) : (Instr.field 33 (.agg #[x0, x1]) 1).run Try.prog w = .ok x1 w := by kernel_rfl
theorem field_h5 (x0 x1 x2 x3 x4 x5 x6 x7 x8 : Value) (w : World) : (Instr.field 39 (.agg #[x0, x1, x2, x3, x4, x5, x6, x7, x8]) 5).run Try.prog w = .ok x5 w := by kernel_rfl
theorem field_dev1 (x0 x1 x2 x3 x4 x5 x6 x7 x8 x9 x10 x11 : Value) (w : World) : (Instr.field 46 (.agg #[x0, x1, x2, x3, x4, x5, x6, x7, x8, x9, x10, x11]) 1).run Try.prog w = .ok x1 w := by kernel_rfl
set_option maxRecDepth 20000 in
set_option maxHeartbeats 16000000 in
theorem walk (a0 : Option Addr) (len0 cap0 : Nat) (z0 : List Int) (w : World) (w0 : IsRow .u8 w a0 len0 cap0 z0) :
    Calls Try.prog 4 #[.slice a0 len0 cap0] w fun e w' => e = .returned (.bool true) ∧ Below w.heap.size w w' := by
  have HR : Hid (IsRow .u8 w a0 len0 cap0 z0) := w0
  clear w0
  by_cases hbig : 1048576 < (len0 : Int)
  · go_enter Try.func4, Try.ntmps4
    go_wp2
    go_ret
    exact ⟨rfl, Below.refl _ _⟩
  have hb2 : (len0 : Int) ≤ 1048576 := by omega
  clear hbig
  go_enter Try.func4, Try.ntmps4
  go_wp2_with (go_at_call 9; go_in)
  refine (drawFeed HR.out).mono ?_
  rintro e w1 ⟨a0, m0, k0, a1, m1, k1, a2, m2, k2, a3, m3, k3, H, v, ys, rfl, hm, hn, hl, b1⟩
  clear HR
  obtain ⟨va, vk, hv, _⟩ := hn.shape
  obtain ⟨yl, hyl⟩ : ∃ yl, ys.length = yl := ⟨_, rfl⟩
  rw [hyl] at hv hl
  subst hv
  have YL : Hid (ys.length = yl) := hyl
  have YL2 : Hid (yl ≤ 1048576) := by show _ ≤ _; omega
  clear hyl
  go_upto_region 4 with fail
  obtain ⟨q, hq⟩ : ∃ q, w1.heap.size = q := ⟨_, rfl⟩
  have VQ : Hid (Vb (w1.alloc (.cells #[.slice a0 m0 k0, .int .i64 H.pc, .slice a1 m1 k1, .bool H.halted, .bool H.waiting, .bool H.rung, .int .i64 H.done, .slice a2 m2 k2, .slice a3 m3 k3] 39)) q #[.slice a0 m0 k0, .int .i64 H.pc, .slice a1 m1 k1, .bool H.halted, .bool H.waiting, .bool H.rung, .int .i64 H.done, .slice a2 m2 k2, .slice a3 m3 k3] 39) := by show Vb _ _ _ _; rw [← hq]; exact Vb.new _ _ _
  have B2 : Hid (Below w.heap.size w (w1.alloc (.cells #[.slice a0 m0 k0, .int .i64 H.pc, .slice a1 m1 k1, .bool H.halted, .bool H.waiting, .bool H.rung, .int .i64 H.done, .slice a2 m2 k2, .slice a3 m3 k3] 39))) := al b1 _
  have NY : Hid (Nums (w1.alloc (.cells #[.slice a0 m0 k0, .int .i64 H.pc, .slice a1 m1 k1, .bool H.halted, .bool H.waiting, .bool H.rung, .int .i64 H.done, .slice a2 m2 k2, .slice a3 m3 k3] 39)) w.heap.size (.slice va yl vk) ys) := hn.keep (al (Below.refl _ _) _)
  have M2 : Hid ((Hm (w1.alloc (.cells #[.slice a0 m0 k0, .int .i64 H.pc, .slice a1 m1 k1, .bool H.halted, .bool H.waiting, .bool H.rung, .int .i64 H.done, .slice a2 m2 k2, .slice a3 m3 k3] 39)) w.heap.size (.slice a0 m0 k0) (.slice a1 m1 k1) (.slice a2 m2 k2) (.slice a3 m3 k3) H ∧ Ha (.slice a0 m0 k0) (.slice a1 m1 k1) (.slice a2 m2 k2) (.slice a3 m3 k3)) ∨ m0 = 15) := hm.imp (fun h => ⟨h.1.keep (al (Below.refl _ _) _), h.2⟩) id
  clear hm b1 hn hl
  rw [hq]
  generalize w1.alloc (.cells #[.slice a0 m0 k0, .int .i64 H.pc, .slice a1 m1 k1, .bool H.halted, .bool H.waiting, .bool H.rung, .int .i64 H.done, .slice a2 m2 k2, .slice a3 m3 k3] 39) = W2 at *
  clear hq
  have q0 := VQ.out.cell 0 rfl
  have q1 := VQ.out.cell 1 rfl
  have q2 := VQ.out.cell 2 rfl
  have q3 := VQ.out.cell 3 rfl
  have q4 := VQ.out.cell 4 rfl
  have q5 := VQ.out.cell 5 rfl
  have q6 := VQ.out.cell 6 rfl
  have q7 := VQ.out.cell 7 rfl
  have q8 := VQ.out.cell 8 rfl
  go_wp2_with fail
  clear q0 q1 q2 q3 q4 q5 q6 q7 q8
  rcases M2.out with M | M
  case inr =>
    subst M
    refine (i_feed15 _ _ _ _ _ _ _ _ _ _ _ H _ _ _ _).mono ?_
    rintro e w3 ⟨rfl, b3⟩
    have BL := b3
    go_upto_region 5 with fail
    obtain ⟨s, hs⟩ : ∃ s, w3.heap.size = s := ⟨_, rfl⟩
    have VS : Hid (Vb (w3.alloc (.cells #[.int .i64 1, .slice none 0 0, .int .i64 0, .slice none 0 0, .bool false, .bool false, .bool false, .int .i64 0, .slice none 0 0, .slice none 0 0] 43)) s #[.int .i64 1, .slice none 0 0, .int .i64 0, .slice none 0 0, .bool false, .bool false, .bool false, .int .i64 0, .slice none 0 0, .slice none 0 0] 43) := by show Vb _ _ _ _; rw [← hs]; exact Vb.new _ _ _
    have VQ3 : Hid (Vb (w3.alloc (.cells #[.int .i64 1, .slice none 0 0, .int .i64 0, .slice none 0 0, .bool false, .bool false, .bool false, .int .i64 0, .slice none 0 0, .slice none 0 0] 43)) q #[.slice a0 15 k0, .int .i64 H.pc, .slice a1 m1 k1, .bool H.halted, .bool H.waiting, .bool H.rung, .int .i64 H.done, .slice a2 m2 k2, .slice a3 m3 k3] 39) := (VQ.out.keep BL).push _
    have B3 : Hid (Below w.heap.size w (w3.alloc (.cells #[.int .i64 1, .slice none 0 0, .int .i64 0, .slice none 0 0, .bool false, .bool false, .bool false, .int .i64 0, .slice none 0 0, .slice none 0 0] 43))) := al (on B2.out BL) _
    rw [hs]
    generalize w3.alloc (.cells #[.int .i64 1, .slice none 0 0, .int .i64 0, .slice none 0 0, .bool false, .bool false, .bool false, .int .i64 0, .slice none 0 0, .slice none 0 0] 43) = W3 at *
    clear hs BL b3
    have cc := VS.out.cell 0 rfl
    go_upto_region 6 with fail
    clear cc
    have SD : Hid (Vb W3.drew q #[.slice a0 15 k0, .int .i64 H.pc, .slice a1 m1 k1, .bool H.halted, .bool H.waiting, .bool H.rung, .int .i64 H.done, .slice a2 m2 k2, .slice a3 m3 k3] 39 ∧ Vb W3.drew s #[.int .i64 1, .slice none 0 0, .int .i64 0, .slice none 0 0, .bool false, .bool false, .bool false, .int .i64 0, .slice none 0 0, .slice none 0 0] 43) := ⟨VQ3.out.keep (Below.refl _ _).drew, VS.out.keep (Below.refl _ _).drew⟩
    have BD : Hid (Below w.heap.size w W3.drew) := B3.out.drew
    have QS : ∀ w', (Vb w' q #[.slice a0 15 k0, .int .i64 H.pc, .slice a1 m1 k1, .bool H.halted, .bool H.waiting, .bool H.rung, .int .i64 H.done, .slice a2 m2 k2, .slice a3 m3 k3] 39 ∧ Vb w' s #[.int .i64 1, .slice none 0 0, .int .i64 0, .slice none 0 0, .bool false, .bool false, .bool false, .int .i64 0, .slice none 0 0, .slice none 0 0] 43) → w'.cell? ⟨s, 0, none⟩ = some (.int .i64 1) := fun w' hs => hs.2.cell 0 rfl
    refine wp_region_held (S := fun w' => Vb w' q #[.slice a0 15 k0, .int .i64 H.pc, .slice a1 m1 k1, .bool H.halted, .bool H.waiting, .bool H.rung, .int .i64 H.done, .slice a2 m2 k2, .slice a3 m3 k3] 39 ∧ Vb w' s #[.int .i64 1, .slice none 0 0, .int .i64 0, .slice none 0 0, .bool false, .bool false, .bool false, .int .i64 0, .slice none 0 0, .slice none 0 0] 43) (by kernel_rfl) ?_
    change wpAnyH _ _ _ _ _ _ _ _ (World.drew _)
    generalize W3.drew = v1 at *
    refine wpAnyH_take (i := 0) (v := .agg #[.slice a0 15 k0, .int .i64 H.pc, .slice a1 m1 k1, .bool H.halted, .bool H.waiting, .bool H.rung, .int .i64 H.done, .slice a2 m2 k2, .slice a3 m3 k3]) rfl (by kernel_rfl) (by kernel_rfl) (by kernel_rfl) (fun _ _ _ h => h) (yieldsIf_load_mid (by rfl) 39 (.tmp 3) rfl q 0 rfl [.slice a0 15 k0, .int .i64 H.pc, .slice a1 m1 k1, .bool H.halted, .bool H.waiting, .bool H.rung, .int .i64 H.done, .slice a2 m2 k2, .slice a3 m3 k3] _ (fun w' hs => Vb.range hs.1) Try.underlying39 rfl (by kernel_rfl)) SD.out ?_
    change wpAnyH _ _ _ _ _ _ _ (Act.put _ (some 27) _) _
    simp only [Act.put, List.setIfInBounds_toArray, List.set_cons_zero, List.set_cons_succ]
    refine wpAnyH_take (i := 1) (v := .slice va yl vk) rfl (by kernel_rfl) (by kernel_rfl) (by kernel_rfl) (fun _ _ _ h => h) (Or.inl ⟨by rfl, fun w' hs => by go_simp⟩) SD.out ?_
    change wpAnyH _ _ _ _ _ _ _ (Act.put _ (some 28) _) _
    simp only [Act.put, List.setIfInBounds_toArray, List.set_cons_zero, List.set_cons_succ]
    refine wpAnyH_take (i := 4) (v := .pointer (some ⟨s, 0, none⟩)) rfl (by kernel_rfl) (by kernel_rfl) (by kernel_rfl) (fun _ _ _ h => h) (Or.inl ⟨by rfl, fun w' hs => by go_simp⟩) SD.out ?_
    change wpAnyH _ _ _ _ _ _ _ (Act.put _ (some 31) _) _
    simp only [Act.put, List.setIfInBounds_toArray, List.set_cons_zero, List.set_cons_succ]
    have QR : ∀ w', (Vb w' q #[.slice a0 15 k0, .int .i64 H.pc, .slice a1 m1 k1, .bool H.halted, .bool H.waiting, .bool H.rung, .int .i64 H.done, .slice a2 m2 k2, .slice a3 m3 k3] 39 ∧ Vb w' s #[.int .i64 1, .slice none 0 0, .int .i64 0, .slice none 0 0, .bool false, .bool false, .bool false, .int .i64 0, .slice none 0 0, .slice none 0 0] 43) → w'.cell? ⟨s, 0, none⟩ = some (.int .i64 1) := QS
    refine wpAnyH_take (i := 5) (v := .int .i64 1) rfl (by kernel_rfl) (by kernel_rfl) (by kernel_rfl) (fun _ _ _ h => h) (Or.inl ⟨by rfl, fun w' hs => by have hc := QR w' hs; go_simp⟩) SD.out ?_
    change wpAnyH _ _ _ _ _ _ _ (Act.put _ (some 32) _) _
    simp only [Act.put, List.setIfInBounds_toArray, List.set_cons_zero, List.set_cons_succ]
    refine wpAnyH_ready (rs := [2]) (by kernel_rfl) (by simp) ?_
    refine AllReadyH.cons rfl (fun K hK => ?_) AllReadyH.nil
    rw [if_pos (by rfl)]
    go_simp
    refine (s_feed15 _ _ _ _ _ _ _ _ _ _ _ H _ _ _ _).mono ?_
    rintro e w4 ⟨rfl, b4⟩
    have S4 : Hid (Vb w4 q #[.slice a0 15 k0, .int .i64 H.pc, .slice a1 m1 k1, .bool H.halted, .bool H.waiting, .bool H.rung, .int .i64 H.done, .slice a2 m2 k2, .slice a3 m3 k3] 39 ∧ Vb w4 s #[.int .i64 1, .slice none 0 0, .int .i64 0, .slice none 0 0, .bool false, .bool false, .bool false, .int .i64 0, .slice none 0 0, .slice none 0 0] 43) := ⟨SD.out.1.keep b4, SD.out.2.keep b4⟩
    have B4 : Hid (Below w.heap.size w w4) := on BD.out b4
    refine hK.out _ _ S4.out (fun _ => ?_)
    clear hK K b4
    refine wpAnyH_take (i := 3) (v := .int .i64 1) rfl (by kernel_rfl) (by kernel_rfl) (by kernel_rfl) (fun _ _ _ h => h) (Or.inl ⟨by rfl, fun w' hs => by have hf := field_hart0; go_simp⟩) S4.out ?_
    change wpAnyH _ _ _ _ _ _ _ (Act.put _ (some 30) _) _
    simp only [Act.put, List.setIfInBounds_toArray, List.set_cons_zero, List.set_cons_succ]
    refine wpAnyH_take (i := 6) (v := .bool true) rfl (by kernel_rfl) (by kernel_rfl) (by kernel_rfl) (fun _ _ _ h => h) (Or.inl ⟨by rfl, fun w' hs => by go_simp⟩) S4.out ?_
    change wpAnyH _ _ _ _ _ _ _ (Act.put _ (some 33) _) _
    simp only [Act.put, List.setIfInBounds_toArray, List.set_cons_zero, List.set_cons_succ]
    refine wpAnyH_take (i := 7) (v := .bool true) rfl (by kernel_rfl) (by kernel_rfl) (by kernel_rfl) (fun _ _ _ h => h) (Or.inl ⟨by rfl, fun w' hs => by go_simp⟩) S4.out ?_
    change wpAnyH _ _ _ _ _ _ _ (Act.put _ (some 2) _) _
    simp only [Act.put, List.setIfInBounds_toArray, List.set_cons_zero, List.set_cons_succ]
    refine wpAnyH_done (by kernel_rfl) ?_ _
    go_wp2_with fail
    go_ret
    exact ⟨rfl, B4.out⟩
  have fi := fun w b h hy => i_feedHart (.slice a0 m0 k0) (.slice a1 m1 k1) (.slice a2 m2 k2) (.slice a3 m3 k3) H va yl vk ys b w h hy
  obtain ⟨c, hc⟩ : ∃ c, (feedR H ys).1 = c := ⟨_, rfl⟩
  obtain ⟨G, hG⟩ : ∃ G, (feedR H ys).2 = G := ⟨_, rfl⟩
  simp only [hc, hG] at fi
  refine (fi _ _ M.1 (NY.out.rn) YL2.out).mono ?_
  rintro e w3 ⟨r', c', i', o', rfl, g3, A3, b3⟩
  obtain ⟨ra, rk, rfl, _⟩ := g3.r.shape
  obtain ⟨ca, ck, rfl, _⟩ := g3.c.shape
  obtain ⟨ia, ik, rfl, _⟩ := g3.i.shape
  obtain ⟨oa, ok, rfl, _⟩ := g3.o.shape
  clear fi
  have BL := b3
  go_upto_region 5 with fail
  obtain ⟨s, hs⟩ : ∃ s, w3.heap.size = s := ⟨_, rfl⟩
  have VS : Hid (Vb (w3.alloc (.cells #[.int .i64 c, .slice ra G.regs.length rk, .int .i64 G.pc, .slice ca G.csr.length ck, .bool G.halted, .bool G.waiting, .bool G.rung, .int .i64 G.done, .slice ia G.inn.length ik, .slice oa G.out.length ok] 43)) s #[.int .i64 c, .slice ra G.regs.length rk, .int .i64 G.pc, .slice ca G.csr.length ck, .bool G.halted, .bool G.waiting, .bool G.rung, .int .i64 G.done, .slice ia G.inn.length ik, .slice oa G.out.length ok] 43) := by show Vb _ _ _ _; rw [← hs]; exact Vb.new _ _ _
  have VQ3 : Hid (Vb (w3.alloc (.cells #[.int .i64 c, .slice ra G.regs.length rk, .int .i64 G.pc, .slice ca G.csr.length ck, .bool G.halted, .bool G.waiting, .bool G.rung, .int .i64 G.done, .slice ia G.inn.length ik, .slice oa G.out.length ok] 43)) q #[.slice a0 m0 k0, .int .i64 H.pc, .slice a1 m1 k1, .bool H.halted, .bool H.waiting, .bool H.rung, .int .i64 H.done, .slice a2 m2 k2, .slice a3 m3 k3] 39) := (VQ.out.keep BL).push _
  have B3 : Hid (Below w.heap.size w (w3.alloc (.cells #[.int .i64 c, .slice ra G.regs.length rk, .int .i64 G.pc, .slice ca G.csr.length ck, .bool G.halted, .bool G.waiting, .bool G.rung, .int .i64 G.done, .slice ia G.inn.length ik, .slice oa G.out.length ok] 43))) := al (on B2.out BL) _
  have BW : Hid (Below W2.heap.size W2 (w3.alloc (.cells #[.int .i64 c, .slice ra G.regs.length rk, .int .i64 G.pc, .slice ca G.csr.length ck, .bool G.halted, .bool G.waiting, .bool G.rung, .int .i64 G.done, .slice ia G.inn.length ik, .slice oa G.out.length ok] 43))) := al b3 _
  have GM : Hid (Hm (w3.alloc (.cells #[.int .i64 c, .slice ra G.regs.length rk, .int .i64 G.pc, .slice ca G.csr.length ck, .bool G.halted, .bool G.waiting, .bool G.rung, .int .i64 G.done, .slice ia G.inn.length ik, .slice oa G.out.length ok] 43)) w.heap.size (.slice ra G.regs.length rk) (.slice ca G.csr.length ck) (.slice ia G.inn.length ik) (.slice oa G.out.length ok) G) := (g3.keep (al (Below.refl _ _) _)).mono B2.out.size
  rw [hs]
  generalize w3.alloc (.cells #[.int .i64 c, .slice ra G.regs.length rk, .int .i64 G.pc, .slice ca G.csr.length ck, .bool G.halted, .bool G.waiting, .bool G.rung, .int .i64 G.done, .slice ia G.inn.length ik, .slice oa G.out.length ok] 43) = W3 at *
  clear hs BL b3 g3 A3
  have cc := VS.out.cell 0 rfl
  by_cases hc0 : c = 0
  case neg =>
    have fs := fun w b h hy => s_feedHart (.slice a0 m0 k0) (.slice a1 m1 k1) (.slice a2 m2 k2) (.slice a3 m3 k3) H va yl vk ys b w h hy
    simp only [hc, hG] at fs
    have HM : Hid (Hm W2 w.heap.size (.slice a0 m0 k0) (.slice a1 m1 k1) (.slice a2 m2 k2) (.slice a3 m3 k3) H) := M.1
    have hcb : (c != 0) = true := by simpa using hc0
    clear M M2 hc hG GM
    have FS : Hid (_) := fs
    clear fs
    go_upto_region 6 with fail
    clear cc
    have BX : Hid (Below W2.heap.size W2 W3.drew) := BW.out.drew
    have SD : Hid (Vb W3.drew q #[.slice a0 m0 k0, .int .i64 H.pc, .slice a1 m1 k1, .bool H.halted, .bool H.waiting, .bool H.rung, .int .i64 H.done, .slice a2 m2 k2, .slice a3 m3 k3] 39 ∧ Vb W3.drew s #[.int .i64 c, .slice ra G.regs.length rk, .int .i64 G.pc, .slice ca G.csr.length ck, .bool G.halted, .bool G.waiting, .bool G.rung, .int .i64 G.done, .slice ia G.inn.length ik, .slice oa G.out.length ok] 43) := ⟨VQ3.out.keep (Below.refl _ _).drew, VS.out.keep (Below.refl _ _).drew⟩
    have BD : Hid (Below w.heap.size w W3.drew) := B3.out.drew
    have QS : ∀ w', (Vb w' q #[.slice a0 m0 k0, .int .i64 H.pc, .slice a1 m1 k1, .bool H.halted, .bool H.waiting, .bool H.rung, .int .i64 H.done, .slice a2 m2 k2, .slice a3 m3 k3] 39 ∧ Vb w' s #[.int .i64 c, .slice ra G.regs.length rk, .int .i64 G.pc, .slice ca G.csr.length ck, .bool G.halted, .bool G.waiting, .bool G.rung, .int .i64 G.done, .slice ia G.inn.length ik, .slice oa G.out.length ok] 43) → w'.cell? ⟨s, 0, none⟩ = some (.int .i64 c) := fun w' hs => hs.2.cell 0 rfl
    refine wp_region_held (S := fun w' => Vb w' q #[.slice a0 m0 k0, .int .i64 H.pc, .slice a1 m1 k1, .bool H.halted, .bool H.waiting, .bool H.rung, .int .i64 H.done, .slice a2 m2 k2, .slice a3 m3 k3] 39 ∧ Vb w' s #[.int .i64 c, .slice ra G.regs.length rk, .int .i64 G.pc, .slice ca G.csr.length ck, .bool G.halted, .bool G.waiting, .bool G.rung, .int .i64 G.done, .slice ia G.inn.length ik, .slice oa G.out.length ok] 43) (by kernel_rfl) ?_
    change wpAnyH _ _ _ _ _ _ _ _ (World.drew _)
    generalize W3.drew = v1 at *
    refine wpAnyH_take (i := 0) (v := .agg #[.slice a0 m0 k0, .int .i64 H.pc, .slice a1 m1 k1, .bool H.halted, .bool H.waiting, .bool H.rung, .int .i64 H.done, .slice a2 m2 k2, .slice a3 m3 k3]) rfl (by kernel_rfl) (by kernel_rfl) (by kernel_rfl) (fun _ _ _ h => h) (yieldsIf_load_mid (by rfl) 39 (.tmp 3) rfl q 0 rfl [.slice a0 m0 k0, .int .i64 H.pc, .slice a1 m1 k1, .bool H.halted, .bool H.waiting, .bool H.rung, .int .i64 H.done, .slice a2 m2 k2, .slice a3 m3 k3] _ (fun w' hs => Vb.range hs.1) Try.underlying39 rfl (by kernel_rfl)) SD.out ?_
    change wpAnyH _ _ _ _ _ _ _ (Act.put _ (some 27) _) _
    simp only [Act.put, List.setIfInBounds_toArray, List.set_cons_zero, List.set_cons_succ]
    refine wpAnyH_take (i := 1) (v := .slice va yl vk) rfl (by kernel_rfl) (by kernel_rfl) (by kernel_rfl) (fun _ _ _ h => h) (Or.inl ⟨by rfl, fun w' hs => by go_simp⟩) SD.out ?_
    change wpAnyH _ _ _ _ _ _ _ (Act.put _ (some 28) _) _
    simp only [Act.put, List.setIfInBounds_toArray, List.set_cons_zero, List.set_cons_succ]
    refine wpAnyH_take (i := 4) (v := .pointer (some ⟨s, 0, none⟩)) rfl (by kernel_rfl) (by kernel_rfl) (by kernel_rfl) (fun _ _ _ h => h) (Or.inl ⟨by rfl, fun w' hs => by go_simp⟩) SD.out ?_
    change wpAnyH _ _ _ _ _ _ _ (Act.put _ (some 31) _) _
    simp only [Act.put, List.setIfInBounds_toArray, List.set_cons_zero, List.set_cons_succ]
    have QR : ∀ w', (Vb w' q #[.slice a0 m0 k0, .int .i64 H.pc, .slice a1 m1 k1, .bool H.halted, .bool H.waiting, .bool H.rung, .int .i64 H.done, .slice a2 m2 k2, .slice a3 m3 k3] 39 ∧ Vb w' s #[.int .i64 c, .slice ra G.regs.length rk, .int .i64 G.pc, .slice ca G.csr.length ck, .bool G.halted, .bool G.waiting, .bool G.rung, .int .i64 G.done, .slice ia G.inn.length ik, .slice oa G.out.length ok] 43) → w'.cell? ⟨s, 0, none⟩ = some (.int .i64 c) := QS
    refine wpAnyH_take (i := 5) (v := .int .i64 c) rfl (by kernel_rfl) (by kernel_rfl) (by kernel_rfl) (fun _ _ _ h => h) (Or.inl ⟨by rfl, fun w' hs => by have hc := QR w' hs; go_simp⟩) SD.out ?_
    change wpAnyH _ _ _ _ _ _ _ (Act.put _ (some 32) _) _
    simp only [Act.put, List.setIfInBounds_toArray, List.set_cons_zero, List.set_cons_succ]
    refine wpAnyH_ready (rs := [2]) (by kernel_rfl) (by simp) ?_
    refine AllReadyH.cons rfl (fun K hK => ?_) AllReadyH.nil
    rw [if_pos (by rfl)]
    go_simp
    refine (FS.out _ _ (HM.out.keep BX.out) (NY.out.keep BX.out).rn YL2.out).mono ?_
    rintro e w4 ⟨r4, c4, i4, o4, rfl, -, b4⟩
    have S4 : Hid (Vb w4 q #[.slice a0 m0 k0, .int .i64 H.pc, .slice a1 m1 k1, .bool H.halted, .bool H.waiting, .bool H.rung, .int .i64 H.done, .slice a2 m2 k2, .slice a3 m3 k3] 39 ∧ Vb w4 s #[.int .i64 c, .slice ra G.regs.length rk, .int .i64 G.pc, .slice ca G.csr.length ck, .bool G.halted, .bool G.waiting, .bool G.rung, .int .i64 G.done, .slice ia G.inn.length ik, .slice oa G.out.length ok] 43) := ⟨SD.out.1.keep b4, SD.out.2.keep b4⟩
    have B4 : Hid (Below w.heap.size w w4) := on BD.out b4
    refine hK.out _ _ S4.out (fun _ => ?_)
    clear hK K b4
    refine wpAnyH_take (i := 3) (v := .int .i64 c) rfl (by kernel_rfl) (by kernel_rfl) (by kernel_rfl) (fun _ _ _ h => h) (Or.inl ⟨by rfl, fun w' hs => by have hf := field_hart0; go_simp⟩) S4.out ?_
    change wpAnyH _ _ _ _ _ _ _ (Act.put _ (some 30) _) _
    simp only [Act.put, List.setIfInBounds_toArray, List.set_cons_zero, List.set_cons_succ]
    refine wpAnyH_take (i := 6) (v := .bool true) rfl (by kernel_rfl) (by kernel_rfl) (by kernel_rfl) (fun _ _ _ h => h) (Or.inl ⟨by rfl, fun w' hs => by go_simp⟩) S4.out ?_
    change wpAnyH _ _ _ _ _ _ _ (Act.put _ (some 33) _) _
    simp only [Act.put, List.setIfInBounds_toArray, List.set_cons_zero, List.set_cons_succ]
    refine wpAnyH_take (i := 7) (v := .bool true) rfl (by kernel_rfl) (by kernel_rfl) (by kernel_rfl) (fun _ _ _ h => h) (Or.inl ⟨by rfl, fun w' hs => by go_simp⟩) S4.out ?_
    change wpAnyH _ _ _ _ _ _ _ (Act.put _ (some 2) _) _
    simp only [Act.put, List.setIfInBounds_toArray, List.set_cons_zero, List.set_cons_succ]
    refine wpAnyH_done (by kernel_rfl) ?_ _
    go_wp2_with fail
    go_ret
    exact ⟨rfl, B4.out⟩
  subst hc0
  have FD : Hid (Fdf H ys G) := by show Fdf _ _ _; rw [← hG]; exact fdf hc
  have MH : Hid (Hm W2 w.heap.size (.slice a0 m0 k0) (.slice a1 m1 k1) (.slice a2 m2 k2) (.slice a3 m3 k3) H) := M.1
  clear M M2 hc hG
  have s0 := VS.out.cell 0 rfl
  have s1 := VS.out.cell 1 rfl
  have s2 := VS.out.cell 2 rfl
  have s3 := VS.out.cell 3 rfl
  have s4 := VS.out.cell 4 rfl
  have s5 := VS.out.cell 5 rfl
  have s6 := VS.out.cell 6 rfl
  have s7 := VS.out.cell 7 rfl
  have s8 := VS.out.cell 8 rfl
  have s9 := VS.out.cell 9 rfl
  go_upto_region 8 with fail
  clear cc s0 s1 s2 s3 s4 s5 s6 s7 s8 s9
  obtain ⟨t, ht⟩ : ∃ t, W3.heap.size = t := ⟨_, rfl⟩
  have VT : Hid (Vb (W3.alloc (.cells #[.slice ra G.regs.length rk, .int .i64 G.pc, .slice ca G.csr.length ck, .bool G.halted, .bool G.waiting, .bool G.rung, .int .i64 G.done, .slice ia G.inn.length ik, .slice oa G.out.length ok] 39)) t #[.slice ra G.regs.length rk, .int .i64 G.pc, .slice ca G.csr.length ck, .bool G.halted, .bool G.waiting, .bool G.rung, .int .i64 G.done, .slice ia G.inn.length ik, .slice oa G.out.length ok] 39) := by show Vb _ _ _ _; rw [← ht]; exact Vb.new _ _ _
  have VQ4 : Hid (Vb (W3.alloc (.cells #[.slice ra G.regs.length rk, .int .i64 G.pc, .slice ca G.csr.length ck, .bool G.halted, .bool G.waiting, .bool G.rung, .int .i64 G.done, .slice ia G.inn.length ik, .slice oa G.out.length ok] 39)) q #[.slice a0 m0 k0, .int .i64 H.pc, .slice a1 m1 k1, .bool H.halted, .bool H.waiting, .bool H.rung, .int .i64 H.done, .slice a2 m2 k2, .slice a3 m3 k3] 39) := VQ3.out.push _
  have B4 : Hid (Below w.heap.size w (W3.alloc (.cells #[.slice ra G.regs.length rk, .int .i64 G.pc, .slice ca G.csr.length ck, .bool G.halted, .bool G.waiting, .bool G.rung, .int .i64 G.done, .slice ia G.inn.length ik, .slice oa G.out.length ok] 39))) := al B3.out _
  have MG4 : Hid (Hm (W3.alloc (.cells #[.slice ra G.regs.length rk, .int .i64 G.pc, .slice ca G.csr.length ck, .bool G.halted, .bool G.waiting, .bool G.rung, .int .i64 G.done, .slice ia G.inn.length ik, .slice oa G.out.length ok] 39)) w.heap.size (.slice ra G.regs.length rk) (.slice ca G.csr.length ck) (.slice ia G.inn.length ik) (.slice oa G.out.length ok) G) := GM.out.keep (al (Below.refl _ _) _)
  have MH4 : Hid (Nums (W3.alloc (.cells #[.slice ra G.regs.length rk, .int .i64 G.pc, .slice ca G.csr.length ck, .bool G.halted, .bool G.waiting, .bool G.rung, .int .i64 G.done, .slice ia G.inn.length ik, .slice oa G.out.length ok] 39)) w.heap.size (.slice a2 m2 k2) H.inn) := (MH.out.i.keep BW.out).keep (al (Below.refl _ _) _)
  have NY4 : Hid (Nums (W3.alloc (.cells #[.slice ra G.regs.length rk, .int .i64 G.pc, .slice ca G.csr.length ck, .bool G.halted, .bool G.waiting, .bool G.rung, .int .i64 G.done, .slice ia G.inn.length ik, .slice oa G.out.length ok] 39)) w.heap.size (.slice va yl vk) ys) := (NY.out.keep BW.out).keep (al (Below.refl _ _) _)
  have L40 : Hid (H.inn.length + ys.length ≤ 40) := by have := FD.out.n40; rw [List.length_append] at this; exact this
  have WTT : Hid (w.heap.size ≤ t) := by show _ ≤ _; rw [← ht]; exact B3.out.size
  rw [ht]
  generalize W3.alloc (.cells #[.slice ra G.regs.length rk, .int .i64 G.pc, .slice ca G.csr.length ck, .bool G.halted, .bool G.waiting, .bool G.rung, .int .i64 G.done, .slice ia G.inn.length ik, .slice oa G.out.length ok] 39) = U at *
  clear ht VQ3 VS MH GM BW VQ B2 B3 NY
  have q7 := VQ4.out.cell 7 rfl
  have lq : q < U.heap.size := VQ4.out.lt
  have B40 : Hid (w.heap.size ≤ U.heap.size) := B4.out.size
  go_upto_region 9 with (first
    | (at_builtin; refine wp_appy _ rfl _ _ rfl U.heap.size _ [] rfl (nums_none _ _ (Nat.le_refl _)) a2 m2 k2 H.inn rfl (MH4.out.keep (al (Below.refl _ _) _)).rn (by have := L40.out; have := MH4.out.len; simp; omega) (by simp) ?_; intro v8 w8 hN8 hG8; have N8 : Hid (Nums w8 U.heap.size v8 H.inn) := (by show Nums _ _ _ _; simpa using hN8); have BU8 : Hid (Below U.heap.size U w8) := below_of_grown (al (Below.refl _ _) _) hG8 (nums_none _ _ (Nat.le_refl _)) (Nat.le_refl _); clear hN8 hG8)
    | (at_builtin; refine wp_appy _ rfl _ _ rfl U.heap.size _ H.inn rfl N8.out va yl vk ys rfl (NY4.out.keep BU8.out).rn (by have := L40.out; have := NY4.out.len; omega) BU8.out.size ?_; intro v9 w9 hN9 hG9; have N9 : Hid (Nums w9 U.heap.size v9 (H.inn ++ ys)) := hN9; have BU9 : Hid (Below U.heap.size U w9) := below_of_grown BU8.out hG9 N8.out (Nat.le_refl _); clear hN9 hG9))
  clear q7 lq MH4 NY4 L40
  obtain ⟨xa, xc, hv9, _, _, hxg⟩ := N9.out.shape
  obtain ⟨all, hall⟩ : ∃ all, H.inn ++ ys = all := ⟨_, rfl⟩
  rw [hall] at hv9 hxg
  have FDA : Hid (G = atJ G all 0 ∧ all.length ≤ 40 ∧ ∀ j, Hok (atJ G all j)) := by rw [← hall]; exact ⟨FD.out.g0, FD.out.n40, FD.out.okJ⟩
  have N9a : Hid (Nums w9 U.heap.size v9 all) := by show Nums _ _ _ _; rw [← hall]; exact N9.out
  clear N9 N8 FD hall
  obtain ⟨n, hn⟩ : ∃ n, all.length = n := ⟨_, rfl⟩
  rw [hn] at hv9 hxg
  subst hv9
  have HN : Hid (all.length = n) := hn
  have NA : Hid (Nums w9 U.heap.size (.slice xa n xc) all) := N9a.out
  have HXG : Hid (0 < n → ∃ g, xa = some ⟨g, 0, none⟩) := hxg
  have hnI : (n : Int) ≤ 40 := by have := FDA.out.2.1; omega
  clear hn hxg N9a
  have VT9 : Hid (Vb w9 t #[.slice ra G.regs.length rk, .int .i64 G.pc, .slice ca G.csr.length ck, .bool G.halted, .bool G.waiting, .bool G.rung, .int .i64 G.done, .slice ia G.inn.length ik, .slice oa G.out.length ok] 39) := VT.out.keep BU9.out
  have MG9 : Hid (Hm w9 w.heap.size (.slice ra G.regs.length rk) (.slice ca G.csr.length ck) (.slice ia G.inn.length ik) (.slice oa G.out.length ok) G) := MG4.out.keep BU9.out
  have B9 : Hid (Below w.heap.size w w9) := on B4.out BU9.out
  clear VT MG4 B4 BU9 BU8 VQ4 B40
  generalize G.regs.length = rn at *
  generalize G.csr.length = cn at *
  generalize G.inn.length = in_ at *
  generalize G.out.length = on_ at *
  have t0 := VT9.out.cell 0 rfl
  have t1 := VT9.out.cell 1 rfl
  have t2 := VT9.out.cell 2 rfl
  have t3 := VT9.out.cell 3 rfl
  have t4 := VT9.out.cell 4 rfl
  have t5 := VT9.out.cell 5 rfl
  have t6 := VT9.out.cell 6 rfl
  have t7 := VT9.out.cell 7 rfl
  have t8 := VT9.out.cell 8 rfl
  go_wp2_with fail
  clear t0 t1 t2 t3 t4 t5 t6 t7 t8
  have f6 := i_devRead (.slice ra rn rk) (.slice ca cn ck) (.slice ia in_ ik) (.slice oa on_ ok) G 6 _ w9 MG9.out
  have e6 : drR G 6 = ⟨0, (n : Int), -1, G⟩ := by
    have := drR_six (FDA.out.2.2 0)
    rw [← FDA.out.1, HN.out] at this
    simpa using this
  rw [e6] at f6
  refine f6.mono ?_
  rintro e w10 ⟨r', c', i', o', rfl, -, -, b10⟩
  have NA10 : Hid (Nums w10 U.heap.size (.slice xa n xc) all) := NA.out.keep b10
  have VT10 : Hid (Vb w10 t #[.slice ra rn rk, .int .i64 G.pc, .slice ca cn ck, .bool G.halted, .bool G.waiting, .bool G.rung, .int .i64 G.done, .slice ia in_ ik, .slice oa on_ ok] 39) := VT9.out.keep b10
  have MG10 : Hid (Hm w10 0 (.slice ra rn rk) (.slice ca cn ck) (.slice ia in_ ik) (.slice oa on_ ok) G) := (MG9.out.keep b10).mono (Nat.zero_le _)
  have B10 : Hid (Below w.heap.size w w10) := on B9.out b10
  have TL : Hid (t < w10.heap.size) := VT10.out.lt
  have VTT : Hid (∃ cs, Vb w10 t cs 39) := ⟨_, VT10.out⟩
  have WT : Hid (w.heap.size ≤ t) := WTT.out
  have hf := field_dev1
  clear f6 e6 b10 NA VT9 MG9 B9
  go_wp2_with fail
  clear hf
  go_loopw [8] (fun ii wr => ∃ (j : Nat) (ra : Option Addr) (rn rk : Nat) (ca : Option Addr) (cn ck : Nat) (ia : Option Addr) (in_ ik : Nat) (oa : Option Addr) (on_ ok : Nat), j ≤ n ∧ ii = .int .i64 j ∧ Vb wr t #[.slice ra rn rk, .int .i64 (atJ G all j).pc, .slice ca cn ck, .bool (atJ G all j).halted, .bool (atJ G all j).waiting, .bool (atJ G all j).rung, .int .i64 (atJ G all j).done, .slice ia in_ ik, .slice oa on_ ok] 39 ∧ Hm wr 0 (.slice ra rn rk) (.slice ca cn ck) (.slice ia in_ ik) (.slice oa on_ ok) (atJ G all j) ∧ Mq (fun k => k = t) w10 wr) (fun ii _ => n - (intOf ii).toNat)
  case atStart => exact ⟨0, ra, rn, rk, ca, cn, ck, ia, in_, ik, oa, on_, ok, Nat.zero_le _, rfl, by rw [← FDA.out.1]; exact VT10.out, by rw [← FDA.out.1]; exact MG10.out, Mq.refl _ _⟩
  case round =>
    clear VT10 MG10
    obtain ⟨j, ra, rn, rk, ca, cn, ck, ia, in_, ik, oa, on_, ok, hj, rfl, hV, hM, hQ⟩ := hrel
    obtain ⟨GJ, hGJ⟩ : ∃ GJ, atJ G all j = GJ := ⟨_, rfl⟩
    rw [hGJ] at hV hM
    have VJ : Hid (Vb wr t #[.slice ra rn rk, .int .i64 GJ.pc, .slice ca cn ck, .bool GJ.halted, .bool GJ.waiting, .bool GJ.rung, .int .i64 GJ.done, .slice ia in_ ik, .slice oa on_ ok] 39) := hV
    have MJ : Hid (Hm wr 0 (.slice ra rn rk) (.slice ca cn ck) (.slice ia in_ ik) (.slice oa on_ ok) GJ) := hM
    have QJ : Hid (Mq (fun k => k = t) w10 wr) := hQ
    have KJ : Hid (Hok GJ) := by show Hok _; rw [← hGJ]; exact FDA.out.2.2 j
    have NAJ : Hid (Nums wr U.heap.size (.slice xa n xc) all) := hQ.nums NA10.out fun k e f => by obtain ⟨cs, hcs⟩ := VTT.out; exact NA10.out.ne_vb hcs (by decide) (by rw [e, f])
    have BJ : Hid (Below w.heap.size w wr) := Mq.under B10.out hQ fun k e => by have := WT.out; omega
    have HGJ : Hid (atJ G all j = GJ) := hGJ
    clear hV hM hQ hGJ
    by_cases hlt : j < n
    · have hJ : (j : Int) < (n : Int) := by omega
      have HL : Hid (j < n) := hlt
      obtain ⟨x, rfl⟩ := HXG.out (by omega)
      clear hlt hj
      have t0 := VJ.out.cell 0 rfl
      have t1 := VJ.out.cell 1 rfl
      have t2 := VJ.out.cell 2 rfl
      have t3 := VJ.out.cell 3 rfl
      have t4 := VJ.out.cell 4 rfl
      have t5 := VJ.out.cell 5 rfl
      have t6 := VJ.out.cell 6 rfl
      have t7 := VJ.out.cell 7 rfl
      have t8 := VJ.out.cell 8 rfl
      go_wp2_with fail
      clear t0 t1 t2 t3 t4 t5 t6 t7 t8
      have f1 := i_devRead (.slice ra rn rk) (.slice ca cn ck) (.slice ia in_ ik) (.slice oa on_ ok) GJ 1 _ wr MJ.out
      obtain ⟨y, hy⟩ : ∃ y, all.getD j 0 = y := ⟨_, rfl⟩
      obtain ⟨N, hN⟩ : ∃ N, atJ G all (j + 1) = N := ⟨_, rfl⟩
      have e1 : drR GJ 1 = ⟨0, y, -1, N⟩ := by
        have := drR_one (FDA.out.2.2 j)
        rw [HGJ.out, hy, hN] at this
        exact this
      rw [e1] at f1
      refine f1.mono ?_
      rintro e w5 ⟨r', c', i', o', rfl, m5, A5, b5⟩
      obtain ⟨na, nk, rfl, _⟩ := m5.r.shape
      obtain ⟨nb, nl, rfl, _⟩ := m5.c.shape
      obtain ⟨nc, nm, rfl, _⟩ := m5.i.shape
      obtain ⟨nd, no, rfl, _⟩ := m5.o.shape
      have HNN : Hid (atJ G all (j + 1) = N) := hN
      have CX5 : Hid (w5.cell? ⟨x, j, none⟩ = some (.int .i64 y)) := by show _ = _; rw [← hy]; exact (NAJ.out.keep b5).cell HN.out.symm j HL.out
      clear f1 e1 A5 hy hN
      go_upto_region 15 with fail
      obtain ⟨d, hd⟩ : ∃ d, w5.heap.size = d := ⟨_, rfl⟩
      have VD : Hid (Vb (w5.alloc (.cells #[.int .i64 0, .int .i64 y, .int .i64 (-1), .slice na N.regs.length nk, .int .i64 N.pc, .slice nb N.csr.length nl, .bool N.halted, .bool N.waiting, .bool N.rung, .int .i64 N.done, .slice nc N.inn.length nm, .slice nd N.out.length no] 46)) d #[.int .i64 0, .int .i64 y, .int .i64 (-1), .slice na N.regs.length nk, .int .i64 N.pc, .slice nb N.csr.length nl, .bool N.halted, .bool N.waiting, .bool N.rung, .int .i64 N.done, .slice nc N.inn.length nm, .slice nd N.out.length no] 46) := by show Vb _ _ _ _; rw [← hd]; exact Vb.new _ _ _
      have MN : Hid (Hm (w5.alloc (.cells #[.int .i64 0, .int .i64 y, .int .i64 (-1), .slice na N.regs.length nk, .int .i64 N.pc, .slice nb N.csr.length nl, .bool N.halted, .bool N.waiting, .bool N.rung, .int .i64 N.done, .slice nc N.inn.length nm, .slice nd N.out.length no] 46)) 0 (.slice na N.regs.length nk) (.slice nb N.csr.length nl) (.slice nc N.inn.length nm) (.slice nd N.out.length no) N) := (m5.keep (al (Below.refl _ _) _)).mono (Nat.zero_le _)
      have VJ5 : Hid (Vb (w5.alloc (.cells #[.int .i64 0, .int .i64 y, .int .i64 (-1), .slice na N.regs.length nk, .int .i64 N.pc, .slice nb N.csr.length nl, .bool N.halted, .bool N.waiting, .bool N.rung, .int .i64 N.done, .slice nc N.inn.length nm, .slice nd N.out.length no] 46)) t #[.slice ra rn rk, .int .i64 GJ.pc, .slice ca cn ck, .bool GJ.halted, .bool GJ.waiting, .bool GJ.rung, .int .i64 GJ.done, .slice ia in_ ik, .slice oa on_ ok] 39) := (VJ.out.keep b5).push _
      have CX : Hid ((w5.alloc (.cells #[.int .i64 0, .int .i64 y, .int .i64 (-1), .slice na N.regs.length nk, .int .i64 N.pc, .slice nb N.csr.length nl, .bool N.halted, .bool N.waiting, .bool N.rung, .int .i64 N.done, .slice nc N.inn.length nm, .slice nd N.out.length no] 46)).cell? ⟨x, j, none⟩ = some (.int .i64 y)) := cell_keep (al (Below.refl _ _) _) CX5.out
      have BL5 : Hid (Below wr.heap.size wr (w5.alloc (.cells #[.int .i64 0, .int .i64 y, .int .i64 (-1), .slice na N.regs.length nk, .int .i64 N.pc, .slice nb N.csr.length nl, .bool N.halted, .bool N.waiting, .bool N.rung, .int .i64 N.done, .slice nc N.inn.length nm, .slice nd N.out.length no] 46))) := al b5 _
      have KN : Hid (Hok N) := by show Hok _; rw [← HNN.out]; exact FDA.out.2.2 (j + 1)
      rw [hd]
      generalize w5.alloc (.cells #[.int .i64 0, .int .i64 y, .int .i64 (-1), .slice na N.regs.length nk, .int .i64 N.pc, .slice nb N.csr.length nl, .bool N.halted, .bool N.waiting, .bool N.rung, .int .i64 N.done, .slice nc N.inn.length nm, .slice nd N.out.length no] 46) = U5 at *
      clear hd m5 b5 CX5
      have CF : ∀ p : Go.Proofs.Yteaccakodaidpaa.BW U5, Calls Try.prog 20 #[.agg #[.slice na N.regs.length nk, .int .i64 N.pc, .slice nb N.csr.length nl, .bool N.halted, .bool N.waiting, .bool N.rung, .int .i64 N.done, .slice nc N.inn.length nm, .slice nd N.out.length no]] p.w fun e w' => e = .returned (.int .i64 0) ∧ Below p.w.heap.size p.w w' := fun p => by
        have tt := i_fault _ _ _ _ N _ p.w (MN.out.keep p.h)
        rw [hfV_ok KN.out] at tt
        exact tt
      have SD : Hid (Below U5.heap.size U5 U5.drew) := (Below.refl _ _).drew
      have RN : Hid (∀ w', Below U5.heap.size U5 w' → w'.rangeAt d 3 [.slice na N.regs.length nk, .int .i64 N.pc, .slice nb N.csr.length nl, .bool N.halted, .bool N.waiting, .bool N.rung, .int .i64 N.done, .slice nc N.inn.length nm, .slice nd N.out.length no]) := fun w' hs => Vb.range3 (VD.out.keep hs)
      have cd0 : Hid (∀ w', Below U5.heap.size U5 w' → w'.cell? ⟨d, 0, none⟩ = some (.int .i64 0)) := fun w' hs => (VD.out.keep hs).cell 0 rfl
      have cd1 : Hid (∀ w', Below U5.heap.size U5 w' → w'.cell? ⟨d, 1, none⟩ = some (.int .i64 y)) := fun w' hs => (VD.out.keep hs).cell 1 rfl
      have cx : Hid (∀ w', Below U5.heap.size U5 w' → w'.cell? ⟨x, j, none⟩ = some (.int .i64 y)) := fun w' hs => cell_keep hs CX.out
      refine wp_region_held (S := fun w' => Below U5.heap.size U5 w') (by kernel_rfl) ?_
      change wpAnyH _ _ _ _ _ _ _ _ (World.drew _)
      generalize U5.drew = v1 at *
      refine wpAnyH_take (i := 0) (v := .pointer (some ⟨d, 0, none⟩)) rfl (by kernel_rfl) (by kernel_rfl) (by kernel_rfl) (fun _ _ _ h => h) (Or.inl ⟨by rfl, fun w' hs => by go_simp⟩) SD.out ?_
      change wpAnyH _ _ _ _ _ _ _ (Act.put _ (some 56) _) _
      simp only [Act.put, List.setIfInBounds_toArray, List.set_cons_zero, List.set_cons_succ]
      refine wpAnyH_take (i := 1) (v := .int .i64 0) rfl (by kernel_rfl) (by kernel_rfl) (by kernel_rfl) (fun _ _ _ h => h) (Or.inl ⟨by rfl, fun w' hs => by have hc := cd0.out w' hs; go_simp⟩) SD.out ?_
      change wpAnyH _ _ _ _ _ _ _ (Act.put _ (some 57) _) _
      simp only [Act.put, List.setIfInBounds_toArray, List.set_cons_zero, List.set_cons_succ]
      refine wpAnyH_take (i := 2) (v := .bool false) rfl (by kernel_rfl) (by kernel_rfl) (by kernel_rfl) (fun _ _ _ h => h) (Or.inl ⟨by rfl, fun w' hs => by go_simp⟩) SD.out ?_
      change wpAnyH _ _ _ _ _ _ _ (Act.put _ (some 58) _) _
      simp only [Act.put, List.setIfInBounds_toArray, List.set_cons_zero, List.set_cons_succ]
      refine wpAnyH_take (i := 3) (v := .bool false) rfl (by kernel_rfl) (by kernel_rfl) (by kernel_rfl) (fun _ _ _ h => h) (Or.inl ⟨by rfl, fun w' hs => by go_simp⟩) SD.out ?_
      change wpAnyH _ _ _ _ _ _ _ (Act.put _ (some 59) _) _
      simp only [Act.put, List.setIfInBounds_toArray, List.set_cons_zero, List.set_cons_succ]
      refine wpAnyH_take (i := 4) (v := .pointer (some ⟨d, 1, none⟩)) rfl (by kernel_rfl) (by kernel_rfl) (by kernel_rfl) (fun _ _ _ h => h) (Or.inl ⟨by rfl, fun w' hs => by go_simp⟩) SD.out ?_
      change wpAnyH _ _ _ _ _ _ _ (Act.put _ (some 60) _) _
      simp only [Act.put, List.setIfInBounds_toArray, List.set_cons_zero, List.set_cons_succ]
      refine wpAnyH_take (i := 5) (v := .int .i64 y) rfl (by kernel_rfl) (by kernel_rfl) (by kernel_rfl) (fun _ _ _ h => h) (Or.inl ⟨by rfl, fun w' hs => by have hc := cd1.out w' hs; go_simp⟩) SD.out ?_
      change wpAnyH _ _ _ _ _ _ _ (Act.put _ (some 61) _) _
      simp only [Act.put, List.setIfInBounds_toArray, List.set_cons_zero, List.set_cons_succ]
      refine wpAnyH_take (i := 6) (v := .slice (some ⟨x, 0, none⟩) n xc) rfl (by kernel_rfl) (by kernel_rfl) (by kernel_rfl) (fun _ _ _ h => h) (Or.inl ⟨by rfl, fun w' hs => by go_simp⟩) SD.out ?_
      change wpAnyH _ _ _ _ _ _ _ (Act.put _ (some 62) _) _
      simp only [Act.put, List.setIfInBounds_toArray, List.set_cons_zero, List.set_cons_succ]
      refine wpAnyH_take (i := 7) (v := .int .i64 (j : Int)) rfl (by kernel_rfl) (by kernel_rfl) (by kernel_rfl) (fun _ _ _ h => h) (Or.inl ⟨by rfl, fun w' hs => by go_simp⟩) SD.out ?_
      change wpAnyH _ _ _ _ _ _ _ (Act.put _ (some 63) _) _
      simp only [Act.put, List.setIfInBounds_toArray, List.set_cons_zero, List.set_cons_succ]
      refine wpAnyH_take (i := 8) (v := .pointer (some ⟨x, j, none⟩)) rfl (by kernel_rfl) (by kernel_rfl) (by kernel_rfl) (fun _ _ _ h => h) (Or.inl ⟨by rfl, fun w' hs => by have h1 := hJ; have h2 := HL.out; go_simp⟩) SD.out ?_
      change wpAnyH _ _ _ _ _ _ _ (Act.put _ (some 64) _) _
      simp only [Act.put, List.setIfInBounds_toArray, List.set_cons_zero, List.set_cons_succ]
      refine wpAnyH_take (i := 9) (v := .int .i64 y) rfl (by kernel_rfl) (by kernel_rfl) (by kernel_rfl) (fun _ _ _ h => h) (Or.inl ⟨by rfl, fun w' hs => by have hc := cx.out w' hs; go_simp⟩) SD.out ?_
      change wpAnyH _ _ _ _ _ _ _ (Act.put _ (some 65) _) _
      simp only [Act.put, List.setIfInBounds_toArray, List.set_cons_zero, List.set_cons_succ]
      refine wpAnyH_take (i := 10) (v := .bool false) rfl (by kernel_rfl) (by kernel_rfl) (by kernel_rfl) (fun _ _ _ h => h) (Or.inl ⟨by rfl, fun w' hs => by go_simp⟩) SD.out ?_
      change wpAnyH _ _ _ _ _ _ _ (Act.put _ (some 66) _) _
      simp only [Act.put, List.setIfInBounds_toArray, List.set_cons_zero, List.set_cons_succ]
      refine wpAnyH_take (i := 11) (v := .bool false) rfl (by kernel_rfl) (by kernel_rfl) (by kernel_rfl) (fun _ _ _ h => h) (Or.inl ⟨by rfl, fun w' hs => by go_simp⟩) SD.out ?_
      change wpAnyH _ _ _ _ _ _ _ (Act.put _ (some 67) _) _
      simp only [Act.put, List.setIfInBounds_toArray, List.set_cons_zero, List.set_cons_succ]
      refine wpAnyH_take (i := 12) (v := .bool false) rfl (by kernel_rfl) (by kernel_rfl) (by kernel_rfl) (fun _ _ _ h => h) (Or.inl ⟨by rfl, fun w' hs => by go_simp⟩) SD.out ?_
      change wpAnyH _ _ _ _ _ _ _ (Act.put _ (some 68) _) _
      simp only [Act.put, List.setIfInBounds_toArray, List.set_cons_zero, List.set_cons_succ]
      refine wpAnyH_take (i := 13) (v := .pointer (some ⟨d, 3, none⟩)) rfl (by kernel_rfl) (by kernel_rfl) (by kernel_rfl) (fun _ _ _ h => h) (Or.inl ⟨by rfl, fun w' hs => by go_simp⟩) SD.out ?_
      change wpAnyH _ _ _ _ _ _ _ (Act.put _ (some 69) _) _
      simp only [Act.put, List.setIfInBounds_toArray, List.set_cons_zero, List.set_cons_succ]
      refine wpAnyH_take (i := 14) (v := .agg #[.slice na N.regs.length nk, .int .i64 N.pc, .slice nb N.csr.length nl, .bool N.halted, .bool N.waiting, .bool N.rung, .int .i64 N.done, .slice nc N.inn.length nm, .slice nd N.out.length no]) rfl (by kernel_rfl) (by kernel_rfl) (by kernel_rfl) (fun _ _ _ h => h) (yieldsIf_load_mid (by rfl) 39 (.tmp 69) rfl d 3 rfl [.slice na N.regs.length nk, .int .i64 N.pc, .slice nb N.csr.length nl, .bool N.halted, .bool N.waiting, .bool N.rung, .int .i64 N.done, .slice nc N.inn.length nm, .slice nd N.out.length no] _ RN.out Try.underlying39 rfl (by kernel_rfl)) SD.out ?_
      change wpAnyH _ _ _ _ _ _ _ (Act.put _ (some 70) _) _
      simp only [Act.put, List.setIfInBounds_toArray, List.set_cons_zero, List.set_cons_succ]
      refine wpAnyH_ready (rs := [15]) (by kernel_rfl) (by simp) ?_
      refine AllReadyH.cons rfl (fun K hK => ?_) AllReadyH.nil
      rw [if_pos (by rfl)]
      go_simp
      refine (CF ⟨v1, SD.out⟩).mono ?_
      rintro e w6 ⟨rfl, b8⟩
      have S6 : Hid (Below U5.heap.size U5 w6) := on SD.out b8
      refine hK.out _ _ S6.out (fun _ => ?_)
      clear hK K b8
      refine wpAnyH_take (i := 16) (v := .bool false) rfl (by kernel_rfl) (by kernel_rfl) (by kernel_rfl) (fun _ _ _ h => h) (Or.inl ⟨by rfl, fun w' hs => by go_simp⟩) S6.out ?_
      change wpAnyH _ _ _ _ _ _ _ (Act.put _ (some 72) _) _
      simp only [Act.put, List.setIfInBounds_toArray, List.set_cons_zero, List.set_cons_succ]
      refine wpAnyH_take (i := 17) (v := .bool false) rfl (by kernel_rfl) (by kernel_rfl) (by kernel_rfl) (fun _ _ _ h => h) (Or.inl ⟨by rfl, fun w' hs => by go_simp⟩) S6.out ?_
      change wpAnyH _ _ _ _ _ _ _ (Act.put _ (some 73) _) _
      simp only [Act.put, List.setIfInBounds_toArray, List.set_cons_zero, List.set_cons_succ]
      refine wpAnyH_done (by kernel_rfl) ?_ _
      have VD6 : Hid (Vb w6 d #[.int .i64 0, .int .i64 y, .int .i64 (-1), .slice na N.regs.length nk, .int .i64 N.pc, .slice nb N.csr.length nl, .bool N.halted, .bool N.waiting, .bool N.rung, .int .i64 N.done, .slice nc N.inn.length nm, .slice nd N.out.length no] 46) := VD.out.keep S6.out
      have VT6 : Hid (Vb w6 t #[.slice ra rn rk, .int .i64 GJ.pc, .slice ca cn ck, .bool GJ.halted, .bool GJ.waiting, .bool GJ.rung, .int .i64 GJ.done, .slice ia in_ ik, .slice oa on_ ok] 39) := VJ5.out.keep S6.out
      have NI : Hid (_ ∧ _) := nine VT6.out (.slice na N.regs.length nk) (.int .i64 N.pc) (.slice nb N.csr.length nl) (.bool N.halted) (.bool N.waiting) (.bool N.rung) (.int .i64 N.done) (.slice nc N.inn.length nm) (.slice nd N.out.length no)
      have MN6 : Hid (Hm w6 0 (.slice na N.regs.length nk) (.slice nb N.csr.length nl) (.slice nc N.inn.length nm) (.slice nd N.out.length no) N) := MN.out.keep S6.out
      have Q6 : Hid (Mq (fun k => k = t) w10 w6) := (QJ.out.trans (Mq.of (below_grown (on BL5.out S6.out) none) fun k e => by cases e))
      have d3 := VD6.out.cell 3 rfl
      have d4 := VD6.out.cell 4 rfl
      have d5 := VD6.out.cell 5 rfl
      have d6 := VD6.out.cell 6 rfl
      have d7 := VD6.out.cell 7 rfl
      have d8 := VD6.out.cell 8 rfl
      have d9 := VD6.out.cell 9 rfl
      have d10 := VD6.out.cell 10 rfl
      have d11 := VD6.out.cell 11 rfl
      have t0 := VT6.out.cell 0 rfl
      have f0 := VT6.out.free 0
      have t1 := VT6.out.cell 1 rfl
      have f1 := VT6.out.free 1
      have t2 := VT6.out.cell 2 rfl
      have f2 := VT6.out.free 2
      have t3 := VT6.out.cell 3 rfl
      have f3 := VT6.out.free 3
      have t4 := VT6.out.cell 4 rfl
      have f4 := VT6.out.free 4
      have t5 := VT6.out.cell 5 rfl
      have f5 := VT6.out.free 5
      have t6 := VT6.out.cell 6 rfl
      have f6 := VT6.out.free 6
      have t7 := VT6.out.cell 7 rfl
      have f7 := VT6.out.free 7
      have t8 := VT6.out.cell 8 rfl
      have f8 := VT6.out.free 8
      go_wp2_with fail
      generalize (((((((((w6.setCell ⟨t, 0, none⟩ (.slice na N.regs.length nk)).setCell ⟨t, 1, none⟩ (.int .i64 N.pc)).setCell ⟨t, 2, none⟩ (.slice nb N.csr.length nl)).setCell ⟨t, 3, none⟩ (.bool N.halted)).setCell ⟨t, 4, none⟩ (.bool N.waiting)).setCell ⟨t, 5, none⟩ (.bool N.rung)).setCell ⟨t, 6, none⟩ (.int .i64 N.done)).setCell ⟨t, 7, none⟩ (.slice nc N.inn.length nm)).setCell ⟨t, 8, none⟩ (.slice nd N.out.length no)) = V6 at *
      go_roundw
      case rel => exact ⟨j + 1, na, _, nk, nb, _, nl, nc, _, nm, nd, _, no, by have := HL.out; omega, by go_num, by rw [HNN.out]; exact NI.out.1, by rw [HNN.out]; exact NI.out.2.hm MN6.out (fun k e f => MN6.out.ne_vb (t := 39) VT6.out (by decide) k e f), Q6.out.trans NI.out.2⟩
      case measure => have := HL.out; simp [intOf]; omega
    · have hJ : ¬ (j : Int) < (n : Int) := by omega
      have HL : Hid (¬ j < n) := hlt
      clear hlt hj
      have hnil : GJ.inn = [] := by rw [← HGJ.out]; show all.drop j = []; exact List.drop_eq_nil_of_le (by have := HL.out; have := HN.out; omega)
      have eG : GJ = atJ GJ [] 0 := by cases GJ; simp only at hnil; subst hnil; rfl
      have d1 : drR GJ 1 = ⟨0, 0, -1, atJ GJ [] 1⟩ := by have := drR_one (G := GJ) (all := []) (j := 0) (by rw [← eG]; exact KJ.out); rw [← eG] at this; exact this
      have HD1 : Hid (drR GJ 1 = ⟨0, 0, -1, atJ GJ [] 1⟩) := d1
      clear hnil eG d1
      generalize atJ GJ [] 1 = GE at *
      have t0 := VJ.out.cell 0 rfl
      have t1 := VJ.out.cell 1 rfl
      have t2 := VJ.out.cell 2 rfl
      have t3 := VJ.out.cell 3 rfl
      have t4 := VJ.out.cell 4 rfl
      have t5 := VJ.out.cell 5 rfl
      have t6 := VJ.out.cell 6 rfl
      have t7 := VJ.out.cell 7 rfl
      have t8 := VJ.out.cell 8 rfl
      go_wp2_with fail
      clear t0 t1 t2 t3 t4 t5 t6 t7 t8
      have f1 := i_devWrite (.slice ra rn rk) (.slice ca cn ck) (.slice ia in_ ik) (.slice oa on_ ok) GJ 0 77 _ wr MJ.out
      obtain ⟨O, hO⟩ : ∃ O, outW GJ 77 = O := ⟨_, rfl⟩
      have HO : Hid (outW GJ 77 = O) := hO
      rw [dwR_out KJ.out] at f1
      simp only [hO] at f1
      refine f1.mono ?_
      rintro e w5 ⟨r', c', i', o', rfl, m5, A5, b5⟩
      obtain ⟨ea, ek, rfl, _⟩ := m5.r.shape
      obtain ⟨eb, el, rfl, _⟩ := m5.c.shape
      obtain ⟨ec, em, rfl, _⟩ := m5.i.shape
      obtain ⟨ed, eo, rfl, _⟩ := m5.o.shape
      clear f1 A5 hO
      go_upto_region 19 with fail
      obtain ⟨d, hd⟩ : ∃ d, w5.heap.size = d := ⟨_, rfl⟩
      have VD : Hid (Vb (w5.alloc (.cells #[.int .i64 0, .int .i64 0, .int .i64 (-1), .slice ea O.regs.length ek, .int .i64 O.pc, .slice eb O.csr.length el, .bool O.halted, .bool O.waiting, .bool O.rung, .int .i64 O.done, .slice ec O.inn.length em, .slice ed O.out.length eo] 46)) d #[.int .i64 0, .int .i64 0, .int .i64 (-1), .slice ea O.regs.length ek, .int .i64 O.pc, .slice eb O.csr.length el, .bool O.halted, .bool O.waiting, .bool O.rung, .int .i64 O.done, .slice ec O.inn.length em, .slice ed O.out.length eo] 46) := by show Vb _ _ _ _; rw [← hd]; exact Vb.new _ _ _
      have MO : Hid (Nums (w5.alloc (.cells #[.int .i64 0, .int .i64 0, .int .i64 (-1), .slice ea O.regs.length ek, .int .i64 O.pc, .slice eb O.csr.length el, .bool O.halted, .bool O.waiting, .bool O.rung, .int .i64 O.done, .slice ec O.inn.length em, .slice ed O.out.length eo] 46)) 0 (.slice ed O.out.length eo) O.out) := (m5.o.keep (al (Below.refl _ _) _)).mono (Nat.zero_le _)
      have VJ5 : Hid (Vb (w5.alloc (.cells #[.int .i64 0, .int .i64 0, .int .i64 (-1), .slice ea O.regs.length ek, .int .i64 O.pc, .slice eb O.csr.length el, .bool O.halted, .bool O.waiting, .bool O.rung, .int .i64 O.done, .slice ec O.inn.length em, .slice ed O.out.length eo] 46)) t #[.slice ra rn rk, .int .i64 GJ.pc, .slice ca cn ck, .bool GJ.halted, .bool GJ.waiting, .bool GJ.rung, .int .i64 GJ.done, .slice ia in_ ik, .slice oa on_ ok] 39) := (VJ.out.keep b5).push _
      have MJ5 : Hid (Hm (w5.alloc (.cells #[.int .i64 0, .int .i64 0, .int .i64 (-1), .slice ea O.regs.length ek, .int .i64 O.pc, .slice eb O.csr.length el, .bool O.halted, .bool O.waiting, .bool O.rung, .int .i64 O.done, .slice ec O.inn.length em, .slice ed O.out.length eo] 46)) 0 (.slice ra rn rk) (.slice ca cn ck) (.slice ia in_ ik) (.slice oa on_ ok) GJ) := (MJ.out.keep b5).keep (al (Below.refl _ _) _)
      have BJ5 : Hid (Below w.heap.size w (w5.alloc (.cells #[.int .i64 0, .int .i64 0, .int .i64 (-1), .slice ea O.regs.length ek, .int .i64 O.pc, .slice eb O.csr.length el, .bool O.halted, .bool O.waiting, .bool O.rung, .int .i64 O.done, .slice ec O.inn.length em, .slice ed O.out.length eo] 46))) := al (on BJ.out b5) _
      rw [hd]
      generalize w5.alloc (.cells #[.int .i64 0, .int .i64 0, .int .i64 (-1), .slice ea O.regs.length ek, .int .i64 O.pc, .slice eb O.csr.length el, .bool O.halted, .bool O.waiting, .bool O.rung, .int .i64 O.done, .slice ec O.inn.length em, .slice ed O.out.length eo] 46) = U5 at *
      clear hd m5 b5
      have t0 := VJ5.out.cell 0 rfl
      have t1 := VJ5.out.cell 1 rfl
      have t2 := VJ5.out.cell 2 rfl
      have t3 := VJ5.out.cell 3 rfl
      have t4 := VJ5.out.cell 4 rfl
      have t5 := VJ5.out.cell 5 rfl
      have t6 := VJ5.out.cell 6 rfl
      have t7 := VJ5.out.cell 7 rfl
      have t8 := VJ5.out.cell 8 rfl
      go_wp2_with fail
      clear t0 t1 t2 t3 t4 t5 t6 t7 t8
      have f1 := i_devWrite (.slice ra rn rk) (.slice ca cn ck) (.slice ia in_ ik) (.slice oa on_ ok) GJ 5 3 _ U5 MJ5.out
      rw [dwR_ring KJ.out] at f1
      refine f1.mono ?_
      rintro e w6 ⟨r', c', i', o', rfl, m6, A6, b6⟩
      obtain ⟨ga, gk, rfl, _⟩ := m6.r.shape
      obtain ⟨gb, gl, rfl, _⟩ := m6.c.shape
      obtain ⟨gc, gm, rfl, _⟩ := m6.i.shape
      obtain ⟨gd, go_, rfl, _⟩ := m6.o.shape
      clear f1 A6 m6
      go_upto_region 20 with fail
      obtain ⟨g, hg⟩ : ∃ g, w6.heap.size = g := ⟨_, rfl⟩
      have bb : Below U5.heap.size U5 (w6.alloc (.cells #[.int .i64 0, .int .i64 0, .int .i64 3, .slice ga GJ.regs.length gk, .int .i64 GJ.pc, .slice gb GJ.csr.length gl, .bool GJ.halted, .bool GJ.waiting, .bool GJ.rung, .int .i64 GJ.done, .slice gc GJ.inn.length gm, .slice gd GJ.out.length go_] 46)) := al b6 _
      have VE : Hid (Vb (w6.alloc (.cells #[.int .i64 0, .int .i64 0, .int .i64 3, .slice ga GJ.regs.length gk, .int .i64 GJ.pc, .slice gb GJ.csr.length gl, .bool GJ.halted, .bool GJ.waiting, .bool GJ.rung, .int .i64 GJ.done, .slice gc GJ.inn.length gm, .slice gd GJ.out.length go_] 46)) g #[.int .i64 0, .int .i64 0, .int .i64 3, .slice ga GJ.regs.length gk, .int .i64 GJ.pc, .slice gb GJ.csr.length gl, .bool GJ.halted, .bool GJ.waiting, .bool GJ.rung, .int .i64 GJ.done, .slice gc GJ.inn.length gm, .slice gd GJ.out.length go_] 46) := by show Vb _ _ _ _; rw [← hg]; exact Vb.new _ _ _
      have VD6 : Hid (Vb (w6.alloc (.cells #[.int .i64 0, .int .i64 0, .int .i64 3, .slice ga GJ.regs.length gk, .int .i64 GJ.pc, .slice gb GJ.csr.length gl, .bool GJ.halted, .bool GJ.waiting, .bool GJ.rung, .int .i64 GJ.done, .slice gc GJ.inn.length gm, .slice gd GJ.out.length go_] 46)) d #[.int .i64 0, .int .i64 0, .int .i64 (-1), .slice ea O.regs.length ek, .int .i64 O.pc, .slice eb O.csr.length el, .bool O.halted, .bool O.waiting, .bool O.rung, .int .i64 O.done, .slice ec O.inn.length em, .slice ed O.out.length eo] 46) := VD.out.keep bb
      have MO6 : Hid (Nums (w6.alloc (.cells #[.int .i64 0, .int .i64 0, .int .i64 3, .slice ga GJ.regs.length gk, .int .i64 GJ.pc, .slice gb GJ.csr.length gl, .bool GJ.halted, .bool GJ.waiting, .bool GJ.rung, .int .i64 GJ.done, .slice gc GJ.inn.length gm, .slice gd GJ.out.length go_] 46)) 0 (.slice ed O.out.length eo) O.out) := MO.out.keep bb
      have VJ6 : Hid (Vb (w6.alloc (.cells #[.int .i64 0, .int .i64 0, .int .i64 3, .slice ga GJ.regs.length gk, .int .i64 GJ.pc, .slice gb GJ.csr.length gl, .bool GJ.halted, .bool GJ.waiting, .bool GJ.rung, .int .i64 GJ.done, .slice gc GJ.inn.length gm, .slice gd GJ.out.length go_] 46)) t #[.slice ra rn rk, .int .i64 GJ.pc, .slice ca cn ck, .bool GJ.halted, .bool GJ.waiting, .bool GJ.rung, .int .i64 GJ.done, .slice ia in_ ik, .slice oa on_ ok] 39) := VJ5.out.keep bb
      have MJ6 : Hid (Hm (w6.alloc (.cells #[.int .i64 0, .int .i64 0, .int .i64 3, .slice ga GJ.regs.length gk, .int .i64 GJ.pc, .slice gb GJ.csr.length gl, .bool GJ.halted, .bool GJ.waiting, .bool GJ.rung, .int .i64 GJ.done, .slice gc GJ.inn.length gm, .slice gd GJ.out.length go_] 46)) 0 (.slice ra rn rk) (.slice ca cn ck) (.slice ia in_ ik) (.slice oa on_ ok) GJ) := MJ5.out.keep bb
      have BJ6 : Hid (Below w.heap.size w (w6.alloc (.cells #[.int .i64 0, .int .i64 0, .int .i64 3, .slice ga GJ.regs.length gk, .int .i64 GJ.pc, .slice gb GJ.csr.length gl, .bool GJ.halted, .bool GJ.waiting, .bool GJ.rung, .int .i64 GJ.done, .slice gc GJ.inn.length gm, .slice gd GJ.out.length go_] 46))) := on BJ5.out bb
      rw [hg]
      generalize w6.alloc (.cells #[.int .i64 0, .int .i64 0, .int .i64 3, .slice ga GJ.regs.length gk, .int .i64 GJ.pc, .slice gb GJ.csr.length gl, .bool GJ.halted, .bool GJ.waiting, .bool GJ.rung, .int .i64 GJ.done, .slice gc GJ.inn.length gm, .slice gd GJ.out.length go_] 46) = U6 at *
      clear hg b6 bb VD MO VJ5 MJ5 BJ5 VJ MJ BJ
      have ON : Hid (on_ = GJ.out.length) := MJ6.out.o.len
      have o40 : (on_ : Int) ≤ 40 := by have := ON.out; have := KJ.out.o40; omega
      have t8 := VJ6.out.cell 8 rfl
      by_cases h40 : on_ = 40
      · subst h40
        have EO : Hid (O = GJ) := by show _ = _; rw [← HO.out]; unfold outW; rw [if_neg (by have := ON.out; omega)]
        have OL : O.out.length = 40 := by have := ON.out; rw [EO.out]; omega
        have d11 : U6.cell? ⟨d, 11, none⟩ = some (.slice ed 40 eo) := by rw [← OL]; exact VD6.out.cell 11 rfl
        have NO : Hid (Nums U6 0 (.slice ed 40 eo) GJ.out) := by show Nums _ _ _ _; have := MO6.out; rw [OL, EO.out] at this; exact this
        clear OL
        go_upto_region 22 with (go_at_call 22; refine (lw_nums _ _ GJ.out _ _ _ NO.out MJ6.out.o).mono ?_; rintro e u7 ⟨rfl, b7⟩; have C7 : Hid (Below U6.heap.size U6 u7) := b7; clear b7)
        clear d11 t8
        have t0 := (VJ6.out.keep C7.out).cell 0 rfl
        have t1 := (VJ6.out.keep C7.out).cell 1 rfl
        have t2 := (VJ6.out.keep C7.out).cell 2 rfl
        have t3 := (VJ6.out.keep C7.out).cell 3 rfl
        have t4 := (VJ6.out.keep C7.out).cell 4 rfl
        have t5 := (VJ6.out.keep C7.out).cell 5 rfl
        have t6 := (VJ6.out.keep C7.out).cell 6 rfl
        have t7 := (VJ6.out.keep C7.out).cell 7 rfl
        have t8 := (VJ6.out.keep C7.out).cell 8 rfl
        have g2 := (VE.out.keep C7.out).cell 2 rfl
        have d2 := (VD6.out.keep C7.out).cell 2 rfl
        go_wp2_with fail
        clear t0 t1 t2 t3 t4 t5 t6 t7 t8 g2 d2
        have f1 := i_devRead (.slice ra rn rk) (.slice ca cn ck) (.slice ia in_ ik) (.slice oa 40 ok) GJ 1 _ u7 (MJ6.out.keep C7.out)
        rw [HD1.out] at f1
        refine f1.mono ?_
        rintro e w8 ⟨r', c', i', o', rfl, -, -, b8⟩
        have C8 : Hid (Below U6.heap.size U6 w8) := on C7.out b8
        clear f1 b8
        have t0 := (VJ6.out.keep C8.out).cell 0 rfl
        have t1 := (VJ6.out.keep C8.out).cell 1 rfl
        have t2 := (VJ6.out.keep C8.out).cell 2 rfl
        have t3 := (VJ6.out.keep C8.out).cell 3 rfl
        have t4 := (VJ6.out.keep C8.out).cell 4 rfl
        have t5 := (VJ6.out.keep C8.out).cell 5 rfl
        have t6 := (VJ6.out.keep C8.out).cell 6 rfl
        have t7 := (VJ6.out.keep C8.out).cell 7 rfl
        have t8 := (VJ6.out.keep C8.out).cell 8 rfl
        have g2 := (VE.out.keep C8.out).cell 2 rfl
        have d2 := (VD6.out.keep C8.out).cell 2 rfl
        have hf := field_dev1
        go_wp2_with fail
        clear t0 t1 t2 t3 t4 t5 t6 t7 t8 g2 d2
        clear hf
        have f1 := i_ringHart (.slice ra rn rk) (.slice ca cn ck) (.slice ia in_ ik) (.slice oa 40 ok) GJ _ w8 (MJ6.out.keep C8.out)
        rw [ringR_ok KJ.out] at f1
        refine f1.mono ?_
        rintro e w9 ⟨r', c', i', o', rfl, -, -, b9⟩
        have C9 : Hid (Below U6.heap.size U6 w9) := on C8.out b9
        have ER : (ringV GJ).rung = true := rfl
        rw [ER]
        clear f1 b9 ER
        have t0 := (VJ6.out.keep C9.out).cell 0 rfl
        have t1 := (VJ6.out.keep C9.out).cell 1 rfl
        have t2 := (VJ6.out.keep C9.out).cell 2 rfl
        have t3 := (VJ6.out.keep C9.out).cell 3 rfl
        have t4 := (VJ6.out.keep C9.out).cell 4 rfl
        have t5 := (VJ6.out.keep C9.out).cell 5 rfl
        have t6 := (VJ6.out.keep C9.out).cell 6 rfl
        have t7 := (VJ6.out.keep C9.out).cell 7 rfl
        have t8 := (VJ6.out.keep C9.out).cell 8 rfl
        have g2 := (VE.out.keep C9.out).cell 2 rfl
        have d2 := (VD6.out.keep C9.out).cell 2 rfl
        have hf := field_hart
        have hf2 := field_h5
        go_wp2_with fail
        clear t0 t1 t2 t3 t4 t5 t6 t7 t8 g2 d2
        clear hf hf2
        have f1 := i_ringHart (.slice ra rn rk) (.slice ca cn ck) (.slice ia in_ ik) (.slice oa 40 ok) GJ _ w9 (MJ6.out.keep C9.out)
        rw [ringR_ok KJ.out] at f1
        refine f1.mono ?_
        rintro e w10' ⟨r', c', i', o', rfl, m10, -, b10⟩
        have C10 : Hid (Below U6.heap.size U6 w10') := on C9.out b10
        have M10 : Hid (Hm w10' _ r' c' i' o' (ringV GJ)) := m10
        have PR : Hid (pendR (ringV GJ) = (0, pendV (ringV GJ)) ∧ 2 ≤ pendV (ringV GJ)) := pend_ring GJ KJ.out
        obtain ⟨GR, hGR⟩ : ∃ GR, ringV GJ = GR := ⟨_, rfl⟩
        simp only [hGR] at M10 PR ⊢
        clear f1 b10 m10 hGR
        have hf := field_hart
        go_wp2_with fail
        clear hf
        have f1 := i_pendingOf _ _ _ _ GR _ w10' M10.out
        rw [PR.out.1] at f1
        refine f1.mono ?_
        rintro e w11 ⟨rfl, b11⟩
        have C11 : Hid (Below U6.heap.size U6 w11) := on C10.out b11
        obtain ⟨pv, hpv⟩ : ∃ pv, pendV GR = pv := ⟨_, rfl⟩
        have p2 : 2 ≤ pv := by rw [← hpv]; exact PR.out.2
        simp only [hpv]
        have hf := field_int1
        clear f1 b11 hpv
        go_wp2_with fail
        go_ret
        exact ⟨rfl, on BJ6.out C11.out⟩
      · have hlt40 : (on_ : Int) < 40 := by omega
        have hne40 : ¬ (on_ : Int) = 40 := by omega
        have EO : Hid (O.out = GJ.out ++ [77]) := by show _ = _; rw [← HO.out]; unfold outW; rw [if_pos (by have := ON.out; omega)]
        obtain ⟨l, hl⟩ : ∃ l, O.out.length = l := ⟨_, rfl⟩
        have hlo : (l : Int) = (on_ : Int) + 1 := by rw [← hl, EO.out, List.length_append]; have := ON.out; simp; omega
        have hlo2 : l = on_ + 1 := by omega
        have d11 : U6.cell? ⟨d, 11, none⟩ = some (.slice ed l eo) := by rw [← hl]; exact VD6.out.cell 11 rfl
        have NO : Hid (Nums U6 0 (.slice ed l eo) (GJ.out ++ [77])) := by show Nums _ _ _ _; have := MO6.out; rw [hl, EO.out] at this; exact this
        obtain ⟨y0, rfl⟩ : ∃ y, ed = some ⟨y, 0, none⟩ := by
          obtain ⟨a, cc, hv, _, _, hh⟩ := NO.out.shape
          cases hv
          exact hh (by simp)
        have c77 : U6.cell? ⟨y0, on_, none⟩ = some (.int .i64 77) := by
          have := NO.out.cell NO.out.len on_ (by omega)
          rw [ON.out, last_get, ← ON.out] at this
          exact this
        subst hlo2
        clear hl hlo
        have C7 : Hid (Below U6.heap.size U6 U6) := Below.refl _ _
        go_upto_region 22 with fail
        clear d11 t8 c77
        have t0 := (VJ6.out.keep C7.out).cell 0 rfl
        have t1 := (VJ6.out.keep C7.out).cell 1 rfl
        have t2 := (VJ6.out.keep C7.out).cell 2 rfl
        have t3 := (VJ6.out.keep C7.out).cell 3 rfl
        have t4 := (VJ6.out.keep C7.out).cell 4 rfl
        have t5 := (VJ6.out.keep C7.out).cell 5 rfl
        have t6 := (VJ6.out.keep C7.out).cell 6 rfl
        have t7 := (VJ6.out.keep C7.out).cell 7 rfl
        have t8 := (VJ6.out.keep C7.out).cell 8 rfl
        have g2 := (VE.out.keep C7.out).cell 2 rfl
        have d2 := (VD6.out.keep C7.out).cell 2 rfl
        go_wp2_with fail
        clear t0 t1 t2 t3 t4 t5 t6 t7 t8 g2 d2
        have f1 := i_devRead (.slice ra rn rk) (.slice ca cn ck) (.slice ia in_ ik) (.slice oa on_ ok) GJ 1 _ U6 (MJ6.out.keep C7.out)
        rw [HD1.out] at f1
        refine f1.mono ?_
        rintro e w8 ⟨r', c', i', o', rfl, -, -, b8⟩
        have C8 : Hid (Below U6.heap.size U6 w8) := on C7.out b8
        clear f1 b8
        have t0 := (VJ6.out.keep C8.out).cell 0 rfl
        have t1 := (VJ6.out.keep C8.out).cell 1 rfl
        have t2 := (VJ6.out.keep C8.out).cell 2 rfl
        have t3 := (VJ6.out.keep C8.out).cell 3 rfl
        have t4 := (VJ6.out.keep C8.out).cell 4 rfl
        have t5 := (VJ6.out.keep C8.out).cell 5 rfl
        have t6 := (VJ6.out.keep C8.out).cell 6 rfl
        have t7 := (VJ6.out.keep C8.out).cell 7 rfl
        have t8 := (VJ6.out.keep C8.out).cell 8 rfl
        have g2 := (VE.out.keep C8.out).cell 2 rfl
        have d2 := (VD6.out.keep C8.out).cell 2 rfl
        have hf := field_dev1
        go_wp2_with fail
        clear t0 t1 t2 t3 t4 t5 t6 t7 t8 g2 d2
        clear hf
        have f1 := i_ringHart (.slice ra rn rk) (.slice ca cn ck) (.slice ia in_ ik) (.slice oa on_ ok) GJ _ w8 (MJ6.out.keep C8.out)
        rw [ringR_ok KJ.out] at f1
        refine f1.mono ?_
        rintro e w9 ⟨r', c', i', o', rfl, -, -, b9⟩
        have C9 : Hid (Below U6.heap.size U6 w9) := on C8.out b9
        have ER : (ringV GJ).rung = true := rfl
        rw [ER]
        clear f1 b9 ER
        have t0 := (VJ6.out.keep C9.out).cell 0 rfl
        have t1 := (VJ6.out.keep C9.out).cell 1 rfl
        have t2 := (VJ6.out.keep C9.out).cell 2 rfl
        have t3 := (VJ6.out.keep C9.out).cell 3 rfl
        have t4 := (VJ6.out.keep C9.out).cell 4 rfl
        have t5 := (VJ6.out.keep C9.out).cell 5 rfl
        have t6 := (VJ6.out.keep C9.out).cell 6 rfl
        have t7 := (VJ6.out.keep C9.out).cell 7 rfl
        have t8 := (VJ6.out.keep C9.out).cell 8 rfl
        have g2 := (VE.out.keep C9.out).cell 2 rfl
        have d2 := (VD6.out.keep C9.out).cell 2 rfl
        have hf := field_hart
        have hf2 := field_h5
        go_wp2_with fail
        clear t0 t1 t2 t3 t4 t5 t6 t7 t8 g2 d2
        clear hf hf2
        have f1 := i_ringHart (.slice ra rn rk) (.slice ca cn ck) (.slice ia in_ ik) (.slice oa on_ ok) GJ _ w9 (MJ6.out.keep C9.out)
        rw [ringR_ok KJ.out] at f1
        refine f1.mono ?_
        rintro e w10' ⟨r', c', i', o', rfl, m10, -, b10⟩
        have C10 : Hid (Below U6.heap.size U6 w10') := on C9.out b10
        have M10 : Hid (Hm w10' _ r' c' i' o' (ringV GJ)) := m10
        have PR : Hid (pendR (ringV GJ) = (0, pendV (ringV GJ)) ∧ 2 ≤ pendV (ringV GJ)) := pend_ring GJ KJ.out
        obtain ⟨GR, hGR⟩ : ∃ GR, ringV GJ = GR := ⟨_, rfl⟩
        simp only [hGR] at M10 PR ⊢
        clear f1 b10 m10 hGR
        have hf := field_hart
        go_wp2_with fail
        clear hf
        have f1 := i_pendingOf _ _ _ _ GR _ w10' M10.out
        rw [PR.out.1] at f1
        refine f1.mono ?_
        rintro e w11 ⟨rfl, b11⟩
        have C11 : Hid (Below U6.heap.size U6 w11) := on C10.out b11
        obtain ⟨pv, hpv⟩ : ∃ pv, pendV GR = pv := ⟨_, rfl⟩
        have p2 : 2 ≤ pv := by rw [← hpv]; exact PR.out.2
        simp only [hpv]
        have hf := field_int1
        clear f1 b11 hpv
        go_wp2_with fail
        go_ret
        exact ⟨rfl, on BJ6.out C11.out⟩

set_option maxRecDepth 100000 in
theorem lifted (os : Os) (started : os.Started) (H : Type) (enc : TypeId × Value → H) :
    ReturnsInHanded {} Try.checked os 4 .any (Rows.fnDevicesSpec.pre6 enc Try.prog Try.f4 Rows.fnDevicesRow.domain false) (Rows.fnDevicesSpec.post enc Try.prog Try.f4 false true false false) := by
  refine returnsInHanded_of_change (C := Try.checked) own started (by kernel_rfl) Try.func4
    (ChangeSpec.witness6 (enc := enc) (C := Try.checked) false ⟨#[], #[.slice none 0 0], []⟩ 8 (by kernel_rfl) (by kernel_rfl) (by kernel_rfl) (by kernel_rfl)) ?_
  intro W base args ds gs before hval0 hW hcnd _
  have hval : ∀ (j : Nat) t v, Try.f4.params[j]? = some t → args[j]? = some v → Value.okWide Try.prog W .any base t v := hval0
  have hW' := hW
  obtain ⟨p, q, hA0, hV, rfl, hfz, hnd⟩ := hW
  have hA : DataW.TrodAll enc Try.prog W 0 (fun _ => true) true Try.f4.params.toList args.toList ds p := hA0
  rw [Try.params4] at hA hval
  obtain ⟨v0, vs0, d0, ds0, p0, q0, hargs, rfl, rfl, h0, r0⟩ := trodAll_cons hA
  obtain ⟨rfl, rfl, rfl⟩ := trodAll_nil r0
  obtain rfl : args = #[v0] := by cases args; simp_all
  obtain ⟨rfl, rfl⟩ := trodVars_none hV
  obtain ⟨a0, len0, cap0, rfl⟩ := okWide_slice Try.underlying22 (hval 0 22 v0 rfl rfl)
  have k0 := h0
  have lt0 : ∀ x ∈ p0, x.block < W.heap.size := by obtain ⟨m, hm⟩ := k0; exact DataW.trod_lt m _ _ _ hm
  obtain ⟨z0, w0⟩ : ∃ zs, IsRow .u8 W a0 len0 cap0 zs := by
    obtain ⟨fuel, hf⟩ := h0
    rcases open_ints Try.underlying22 Try.underlying5 (by kernel_rfl) hf with ⟨hcs, _⟩ | ⟨x, l, c, zs, hcs, _, hl, hm, hz, _, hcell, hwz⟩
    · simp [Value.cells] at hcs
      obtain ⟨rfl, rfl, rfl⟩ := hcs
      exact ⟨[], .inl ⟨rfl, rfl, rfl, rfl⟩⟩
    · simp [Value.cells] at hcs
      obtain ⟨rfl, rfl, rfl⟩ := hcs
      exact ⟨_, IsRow.of_all hl hm (by simpa using hz) hcell hwz⟩
  clear hA0 hval0
  refine (walk a0 len0 cap0 z0 W w0).mono fun e W' ⟨he, bel⟩ => ?_
  subst he
  exact ⟨_, rfl, _, _, _, [], _, [], hW', trodAll_mk1 (shut_bool Try.underlying4 _), (trodAll_cons_mk (Below.trod laidOut (by kernel_rfl) (of_decide_eq_true (by kernel_rfl)) k0 bel lt0) trodAll_mk0), rfl, bel.frame _, fun h => by cases h⟩

theorem over : Rows.fnDevicesRow.holds Try.pinned (OpenSpec.ofChange Rows.fnDevicesSpec) :=
  OpenClaim.holds_of_wide 4 Try.f4 rfl rfl rfl rfl rfl rfl rfl ⟨rfl, rfl, rfl, rfl, rfl⟩ rfl rfl rfl rfl rfl (by kernel_rfl) Try.func4 (by kernel_rfl)
    (of_decide_eq_true (by kernel_rfl)) (by unfold Func.isWrapper; first | (rw [if_pos (by decide +kernel)]; kernel_rfl) | (rw [if_neg (by decide +kernel)]; exact ⟨rfl, rfl⟩))
    (fun os started H enc _ => lifted os started H enc)

theorem proved : Rows.FnDevicesSaid := over
end Go.Proofs.Yteaccakodaidpaa.fnDevicesDone
