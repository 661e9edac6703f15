/- The walk of a law. -/
import Derived.Test.YtggejbphdadckaaGreatDoorCards
import Derived.Test.YtggejbphdadckaaGreatDoorTie
import Derived.Deep.DeepHandedRow
import Derived.LaidHandle
import Derived.LaidLaws
import Derived.Lib.LaidTab
import Derived.Stop.LaidErr
import Derived.Lib.SmallJoins
import Derived.Deep.RegionWith
import Derived.Deep.RegionHeld3
import Derived.Deep.Cut
import Derived.Deep.CutRange
import Derived.Test.YtggejbphdadckaaGreatDoorQ01
import Derived.Test.YtggejbphdadckaaGreatDoorQ15
import Derived.Test.YtggejbphdadckaaGreatDoorQ18
import Derived.Test.YtggejbphdadckaaGreatDoorQ29
import Derived.Test.YtggejbphdadckaaGreatDoorQ30
import Derived.Test.YtggejbphdadckaaGreatDoorQ47
import Derived.Test.YtggejbphdadckaaGreatDoorQ49
import Derived.Test.YtggejbphdadckaaGreatDoorQ50
namespace Go.Proofs.YtggejbphdadckaaGreatDoor.fnExactFeedHostDone
open Go.ChangeShapes Go.WideShapes Go.ChangeAt Go.RowKit
open Go.ChangeMaps (open_string shut_string)
set_option linter.unusedVariables false

theorem mk_mqX {lo hi : Nat} {w w' : World} (m : Mk lo hi w w') : Mq (fun k => lo ≤ k ∧ k < hi) w w' := ⟨m.os, m.tape, m.output, m.size, fun k hk hn => m.block k hk (by have : ¬ (lo ≤ k ∧ k < hi) := hn; omega)⟩
theorem owe_hq {w : World} {base : Nat} {v0 v1 v2 v3 v4 v5 : Value} {X : Hst} (h : OwE w base v0 v1 v2 v3 v4 v5 X) : Hq w base v0 v1 v2 v3 v4 v5 X := by
  obtain ⟨_, _, h⟩ := h; exact h.hq
theorem owe_ho {w w' : World} {base : Nat} {v0 v1 v2 v3 v4 v5 : Value} {X : Hst} (h : OwE w base v0 v1 v2 v3 v4 v5 X) (k : Ho base w w') : OwE w' base v0 v1 v2 v3 v4 v5 X := by
  obtain ⟨xs, qs, h⟩ := h; exact ⟨xs, qs, h.ho k⟩
theorem ow_tyX {w : World} {base : Nat} {a0 a1 a2 a3 a4 a5 : Option Addr} {n0 n1 n2 n3 n4 n5 c0 c1 c2 c3 c4 c5 : Nat} {X : Hst} {xs : List Value} {qs : List (V4 × Ht)} (h : Ow w base (.slice a0 n0 c0) (.slice a1 n1 c1) (.slice a2 n2 c2) (.slice a3 n3 c3) (.slice a4 n4 c4) (.slice a5 n5 c5) X xs qs) {T : TypeId} (t0 : T ≠ 2) (t1 : T ≠ 125) (t2 : T ≠ 129) (t3 : T ≠ 123) (t5 : T ≠ 60) {q : Nat} {cs : Array Value} (k : Vb w q cs T) :
    ∀ x ∈ oN (blk (.slice a1 n1 c1)) (blk (.slice a2 n2 c2)) (blk (.slice a3 n3 c3)) (blk (.slice a4 n4 c4)) (blk (.slice a5 n5 c5)) n1 n2 n3 n4 n5 (rlX xs) (mhX qs), x.1.block ≠ q := by
  have kt : tyOf w q = some T := by unfold tyOf; unfold Vb at k; rw [k]
  have N1 : n1 = X.pol.lanes.length := by obtain ⟨_, ⟨e, h2⟩ | ⟨_, _, _, e, _⟩⟩ := h.lanes <;> simp at e <;> omega
  have N2 : n2 = X.pol.bells.length := by obtain ⟨_, ⟨e, h2⟩ | ⟨_, _, _, e, _⟩⟩ := h.bells <;> simp at e <;> omega
  have N3 : n3 = X.pol.plan.length := by obtain ⟨_, ⟨e, h2⟩ | ⟨_, _, _, e, _⟩⟩ := h.plan <;> simp at e <;> omega
  have N5 : n5 = qs.length := by obtain ⟨_, ⟨e, h2⟩ | ⟨_, _, _, e, _⟩⟩ := h.harts <;> simp at e <;> omega
  intro x hx e
  simp only [oN, pN, List.mem_append] at hx
  rcases hx with ((((hx | hx) | hx) | hx) | hx) | hx
  · obtain ⟨r, hr, h0, e'⟩ := rN_mem hx
    obtain ⟨x', hxm, rfl⟩ := List.mem_map.1 hr
    obtain ⟨_, n⟩ := h.num x' (List.mem_append_left _ hxm)
    exact ty_ne (n.bk h0).ty kt (fun e => t0 e.symm) (by rw [← e, e'])
  · have h0 := cN_pos hx
    exact ty_ne (row_bk h.lanes (by omega)).1.ty kt (fun e => t1 e.symm) (by rw [← e, cN_block hx])
  · have h0 := cN_pos hx
    exact ty_ne (row_bk h.bells (by omega)).1.ty kt (fun e => t2 e.symm) (by rw [← e, cN_block hx])
  · have h0 := cN_pos hx
    exact ty_ne (row_bk h.plan (by omega)).1.ty kt (fun e => t3 e.symm) (by rw [← e, cN_block hx])
  · exact ty_ne (h.mem.bk (cN_pos hx)).ty kt (fun e => t0 e.symm) (by rw [← e, cN_block hx])
  · obtain ⟨i, hi, hx⟩ := tN_mem hx
    rcases hN_mem hx with ⟨l, hl, hp, hb⟩ | ⟨t, ht, e2⟩
    · obtain ⟨v, hv, rfl⟩ := hsX_mem hl
      obtain ⟨_, n⟩ := h.num v (List.mem_append_right _ (List.mem_cons_of_mem _ (List.mem_flatMap.2 ⟨_, getD_memQ qs i (by omega), hv⟩)))
      exact ty_ne (n.bk hp).ty kt (fun e => t0 e.symm) (by rw [← e, hb])
    · exact ty_ne (row_bk h.harts (by omega)).1.ty kt (fun e => t5 e.symm) (by rw [← e, e2])
theorem owe_og {w : World} {base : Nat} {a0 a1 a2 a3 a4 a5 : Option Addr} {n0 n1 n2 n3 n4 n5 c0 c1 c2 c3 c4 c5 : Nat} {X : Hst} (h : OwE w base (.slice a0 n0 c0) (.slice a1 n1 c1) (.slice a2 n2 c2) (.slice a3 n3 c3) (.slice a4 n4 c4) (.slice a5 n5 c5) X) (sm : Xsm X) {T : TypeId} (t0 : T ≠ 2) (t1 : T ≠ 125) (t2 : T ≠ 129) (t3 : T ≠ 123) (t5 : T ≠ 60) {q : Nat} {cs : Array Value} (k : Vb w q cs T) :
    ∃ g0 g1 g2 g3 g4 g5 R S, Og w a0 a1 a2 a3 a4 a5 n0 n1 n2 n3 n4 n5 g0 g1 g2 g3 g4 g5 R S ∧ (∀ x ∈ oN g1 g2 g3 g4 g5 n1 n2 n3 n4 n5 R S, base ≤ x.1.block ∧ x.1.block < w.heap.size) ∧ ∀ x ∈ oN g1 g2 g3 g4 g5 n1 n2 n3 n4 n5 R S, x.1.block ≠ q := by
  obtain ⟨xs, qs, h⟩ := h
  exact ⟨_, _, _, _, _, _, _, _, (h.og sm).1, (h.og sm).2, ow_tyX h t0 t1 t2 t3 t5 k⟩
theorem hx_keepX {L : List (Addr × Bool)} {k : Int} {w w' : World} (h : Hx L k w) (b : Below w.heap.size w w') : Hx L k w' := fun i x e => cell_keep b (h i x e)
set_option maxHeartbeats 4000000 in
theorem mark_sbX (g n c lo hi : Nat) (k : Int) (w : World) (h : Sb w lo hi g n) (hn : n ≤ 1048576) (hk : 0 ≤ k) (hz : k ≤ 17592186044416) :
    Calls Tryz.prog 70 #[.slice (some ⟨g, 0, none⟩) n c, .int .i64 k] w fun e w' => (∃ r : Int, e = .returned (.int .i64 r) ∧ 0 ≤ r ∧ r ≤ k + 1048576 * n) ∧ Mk lo hi w w' := by
  have HZ : Hid (Sb w lo hi g n) := h
  have hn2 : (n : Int) ≤ 1048576 := by omega
  clear h
  go_enter Tryz.func70, Tryz.ntmps70
  go_wp2_with fail
  go_loopw [1, 5] (fun q i wr => ∃ (j : Nat) (r : Int), j ≤ n ∧ i = .int .i64 j ∧ q = .int .i64 r ∧ 0 ≤ r ∧ r ≤ k + 1048576 * j ∧ Mk lo hi w wr) (fun _ i _ => n - (intOf i).toNat)
  case atStart => exact ⟨0, k, Nat.zero_le _, rfl, rfl, hk, by omega, Mk.refl _ _ _⟩
  case round =>
    obtain ⟨j, r, hj, rfl, rfl, hr0, hr1, hM⟩ := hrel
    have M0 : Hid (Mk lo hi w wr) := hM
    have R0 : Hid (0 ≤ r ∧ r ≤ k + 1048576 * j) := ⟨hr0, hr1⟩
    by_cases hlt : j < n
    · obtain ⟨b, l, c, k1, k2, k3⟩ := (HZ.out.mked hM).row j hlt
      have K2 : Hid (Mb wr lo hi 1 b l) := k2
      have K3 : Hid (l ≤ 1048576) := k3
      have hI : (j : Int) < (n : Int) := by omega
      have HL : Hid (j < n) := hlt
      clear hM hlt k2 k3 hr1
      go_wp2_with (go_at_call 13; refine (mark_mb _ _ _ _ _ _ _ K2.out R0.out.1 (by have := R0.out.2; have := K3.out; have := HL.out; omega)).mono ?_; rintro e w1 ⟨rfl, m1⟩; have M1 : Hid (Mk lo hi w w1) := M0.out.trans m1; clear m1)
      go_roundw
      case rel => exact ⟨j + 1, r + l, by have := HL.out; omega, by go_num, rfl, by have := R0.out.1; omega, by have := R0.out.2; have := K3.out; omega, M1.out⟩
      case measure => have := HL.out; simp [intOf]; omega
    · have hI : ¬ (j : Int) < (n : Int) := by omega
      obtain rfl : j = n := by omega
      clear hM
      go_wp2_with fail
      go_ret
      exact ⟨⟨r, rfl, R0.out⟩, M0.out⟩

theorem od_ojE {w : World} {base g0 g1 g2 g3 n0 n1 n2 n3 : Nat} {m h : Value} {X : Hst} (d : Od w base g0 g1 g2 g3 n0 n1 n2 n3 m h X) : Oj w base (some ⟨g0, 0, none⟩) n0 n0 (some ⟨g1, 0, none⟩) n1 n1 (some ⟨g2, 0, none⟩) n2 n2 (some ⟨g3, 0, none⟩) n3 n3 m h X :=
  ⟨d.pol.pl, d.mem, d.harts⟩
theorem vo_widE {S T : Nat → Prop} {w w' : World} (m : Mq S w w') (h : ∀ k, S k → T k) : Mq T w w' := ⟨m.os, m.tape, m.output, m.size, fun k hk hn => m.block k hk fun e => hn (h k e)⟩
theorem mbMh2 {w w' : World} {lo hi a b sz n : Nat} {p : Option Addr} (h : Mb w lo hi sz p n) (m : Mq (fun k => a ≤ k ∧ k < b) w w') (hb : b ≤ lo) : Mb w' lo hi sz p n := fun h0 => by
  obtain ⟨g, e, h1, h2, h3⟩ := h h0
  refine ⟨g, e, h1, h2, fun i hi' => ?_⟩
  obtain ⟨⟨z, hz⟩, hf⟩ := h3 i hi'
  have hl : g < w.heap.size := block_of_cell hz
  have hB := m.block g hl (fun f => by have := f.2; omega)
  refine ⟨⟨z, ?_⟩, ?_⟩
  · unfold World.cell? at hz ⊢; rw [hB]; exact hz
  · unfold World.frozen? at hf ⊢; rw [hB]; exact hf
set_option maxRecDepth 20000 in
set_option maxHeartbeats 8000000 in
theorem walk (a0 a1 a2 a3 a4 a5 : Option Addr) (n0 c0 n1 c1 n2 c2 n3 c3 n4 c4 n5 c5 : Nat) (X : Hst) (gu : Int) (ysa : Option Addr) (ysl ysc : Nat) (ys : List Int) (w : World) (h : Oi w a0 n0 c0 a1 n1 c1 a2 n2 c2 a3 n3 c3 a4 n4 c4 a5 n5 c5 X) (wgu : (Lit.int .i64 gu).wf = true) (hys : IsRow .i64 w ysa ysl ysc ys) (hg : w.cell? ⟨0, 0, none⟩ = some (.iface 200 (.agg #[.pointer (some ⟨1, 136, none⟩)]))) :
    Calls Tryz.prog 3 #[.agg #[.slice a0 n0 c0, .slice a1 n1 c1, .slice a2 n2 c2, .slice a3 n3 c3, .slice a4 n4 c4, .slice a5 n5 c5, .int .i64 X.slot, .int .i64 X.left, .int .i64 X.clock], .int .i64 gu, .slice ysa ysl ysc] w fun e w' => e = .returned (.bool true) ∧ Below w.heap.size w w' := by
  generalize hW : w.alloc (.cells #[.slice a0 n0 c0, .slice a1 n1 c1, .slice a2 n2 c2, .slice a3 n3 c3, .slice a4 n4 c4, .slice a5 n5 c5, .int .i64 X.slot, .int .i64 X.left, .int .i64 X.clock] 31) = W
  have B0 : Hid (Below w.heap.size w W) := by show Below _ _ _; rw [← hW]; exact al (Below.refl _ _) _
  obtain ⟨s, hS⟩ : ∃ s, w.heap.size = s := ⟨_, rfl⟩
  have Q : Hid (Vb W s #[.slice a0 n0 c0, .slice a1 n1 c1, .slice a2 n2 c2, .slice a3 n3 c3, .slice a4 n4 c4, .slice a5 n5 c5, .int .i64 X.slot, .int .i64 X.left, .int .i64 X.clock] 31) := by show Vb _ _ _ _; rw [← hW, ← hS]; exact Vb.new _ _ _
  have HP : Hid (Oi W a0 n0 c0 a1 n1 c1 a2 n2 c2 a3 n3 c3 a4 n4 c4 a5 n5 c5 X) := h.stay B0.out
  have HG : Hid (W.cell? ⟨0, 0, none⟩ = some (.iface 200 (.agg #[.pointer (some ⟨1, 136, none⟩)]))) := cell_keep B0.out hg
  have HRys : Hid (IsRow .i64 W ysa ysl ysc ys) := hys.stay B0.out
  have HLys : Hid (ysl = ys.length) := hys.ln.1
  have hcys : (ysl : Int) ≤ 9223372036854775807 := by have := hys.ln.2; unfold maxLen at this; omega
  clear hg h wgu hys
  by_cases hbys : (1048576 : Int) < (ysl : Int)
  · go_enter Tryz.func3, Tryz.ntmps3
    go_wp2_with fail
    go_ret
    exact ⟨rfl, by first | exact B0.out | (rw [← hS]; exact B0.out)⟩
  have SMys : Hid (ysl ≤ 1048576) := by show _ ≤ _; omega
  have q0 := Q.out.cell 0 rfl
  have q1 := Q.out.cell 1 rfl
  have q2 := Q.out.cell 2 rfl
  have q3 := Q.out.cell 3 rfl
  have q4 := Q.out.cell 4 rfl
  have q5 := Q.out.cell 5 rfl
  have q6 := Q.out.cell 6 rfl
  have q7 := Q.out.cell 7 rfl
  have q8 := Q.out.cell 8 rfl
  go_enter Tryz.func3, Tryz.ntmps3
  go_wp2_with fail
  clear hW hS q0 q1 q2 q3 q4 q5 q6 q7 q8 hbys
  refine (sz_host _ _ _ _ _ _ _ _ _ _ _ _ _ _ _ _ _ _ X _ HP.out).mono ?_
  rintro e w1 ⟨⟨r, rfl, hr, hs⟩, b1⟩
  by_cases hneg : r < 0
  · go_wp2_with fail
    go_ret
    exact ⟨rfl, on B0.out b1⟩
  have SM : Hid (Osm n0 n1 n2 n3 n4 n5 X) := hs (by omega)
  have B : Hid (Below W.heap.size W w1) := b1
  clear hs b1
  obtain ⟨C, hC⟩ : ∃ C, fhC X gu ys = C := ⟨_, rfl⟩
  obtain ⟨BX, hX⟩ : ∃ Z9, fhX X gu ys = Z9 := ⟨_, rfl⟩
  have HCX : Hid (fhC X gu ys = C ∧ fhX X gu ys = BX) := ⟨hC, hX⟩
  have SMX : Hid (Xsm BX) := by have t := fh_small X gu ys; rw [hX] at t; exact t
  obtain ⟨e0, le0⟩ : ∃ n, BX.pol.own.length = n := ⟨_, rfl⟩
  obtain ⟨e1, le1⟩ : ∃ n, BX.pol.lanes.length = n := ⟨_, rfl⟩
  obtain ⟨e2, le2⟩ : ∃ n, BX.pol.bells.length = n := ⟨_, rfl⟩
  obtain ⟨e3, le3⟩ : ∃ n, BX.pol.plan.length = n := ⟨_, rfl⟩
  obtain ⟨e4, le4⟩ : ∃ n, BX.mem.length = n := ⟨_, rfl⟩
  obtain ⟨e5, le5⟩ : ∃ n, BX.harts.length = n := ⟨_, rfl⟩
  have LY : Hid (BX.pol.own.length = e0 ∧ BX.pol.lanes.length = e1 ∧ BX.pol.bells.length = e2 ∧ BX.pol.plan.length = e3 ∧ BX.mem.length = e4 ∧ BX.harts.length = e5) := ⟨le0, le1, le2, le3, le4, le5⟩
  clear hC hX le0 le1 le2 le3 le4 le5
  have q0 := (Q.out.keep B.out).cell 0 rfl
  have q1 := (Q.out.keep B.out).cell 1 rfl
  have q2 := (Q.out.keep B.out).cell 2 rfl
  have q3 := (Q.out.keep B.out).cell 3 rfl
  have q4 := (Q.out.keep B.out).cell 4 rfl
  have q5 := (Q.out.keep B.out).cell 5 rfl
  have q6 := (Q.out.keep B.out).cell 6 rfl
  have q7 := (Q.out.keep B.out).cell 7 rfl
  have q8 := (Q.out.keep B.out).cell 8 rfl
  go_wp2_with fail
  clear q0 q1 q2 q3 q4 q5 q6 q7 q8
  refine (to_host _ _ _ _ _ _ _ _ _ _ _ _ _ _ _ _ _ _ X _ (HP.out.stay B.out) SM.out).mono ?_
  rintro e wgX ⟨g0, g1, g2, g3, g4, g5, rfl, mm, bb⟩
  have Mg : Hid (Od wgX _ g0 g1 g2 g3 n0 n1 n2 n3 (.slice (some ⟨g4, 0, none⟩) n4 n4) (.slice (some ⟨g5, 0, none⟩) n5 n5) X) := mm
  replace B : Hid (Below W.heap.size W wgX) := on B.out bb
  clear mm bb
  go_wp2_with fail
  refine (to_nums _ _ _ _ _ (HRys.out.stay B.out) SMys.out).mono ?_
  rintro e wgys ⟨gys, rfl, mm, bb⟩
  have Fgys : Hid (Nums wgys _ (.slice (some ⟨gys, 0, none⟩) ysl ysl) ys) := mm
  replace Mg : Hid (Od wgys _ g0 g1 g2 g3 n0 n1 n2 n3 (.slice (some ⟨g4, 0, none⟩) n4 n4) (.slice (some ⟨g5, 0, none⟩) n5 n5) X) := Mg.out.keep bb
  replace B : Hid (Below W.heap.size W wgys) := on B.out bb
  clear mm bb
  go_wp2_with fail
  have CALL := s_feedHostQ _ _ _ _ _ _ _ _ _ _ _ _ _ _ _ _ _ _ X gu _ _ _ ys _ _ (od_ojE Mg.out) SM.out.pol Fgys.out.rn SMys.out
  rw [HCX.out.1, HCX.out.2] at CALL
  refine CALL.mono ?_
  clear CALL
  rintro e w3 ⟨_, _, _, _, _, _, rfl, sp, b3⟩
  have hq := sp
  obtain ⟨ya0, yk0, f0, _⟩ := hq.own.shape
  obtain ⟨ya1, yk1, f1, _⟩ := hq.lanes.shape
  obtain ⟨ya2, yk2, f2, _⟩ := hq.bells.shape
  obtain ⟨ya3, yk3, f3, _⟩ := hq.plan.shape
  obtain ⟨ya4, yk4, f4, _⟩ := hq.mem
  obtain ⟨ya5, yk5, f5, _⟩ := hq.harts.shape
  clear hq
  subst f0 f1 f2 f3 f4 f5
  rw [LY.out.1, LY.out.2.1, LY.out.2.2.1, LY.out.2.2.2.1, LY.out.2.2.2.2.1, LY.out.2.2.2.2.2] at sp ⊢
  have Y : Hid (Vb (w3.alloc (.cells #[.int .i64 C, .slice ya0 e0 yk0, .slice ya1 e1 yk1, .slice ya2 e2 yk2, .slice ya3 e3 yk3, .slice ya4 e4 yk4, .slice ya5 e5 yk5, .int .i64 BX.slot, .int .i64 BX.left, .int .i64 BX.clock] 42)) w3.heap.size #[.int .i64 C, .slice ya0 e0 yk0, .slice ya1 e1 yk1, .slice ya2 e2 yk2, .slice ya3 e3 yk3, .slice ya4 e4 yk4, .slice ya5 e5 yk5, .int .i64 BX.slot, .int .i64 BX.left, .int .i64 BX.clock] 42) := Vb.new _ _ _
  have N : Hid (Hq (w3.alloc (.cells #[.int .i64 C, .slice ya0 e0 yk0, .slice ya1 e1 yk1, .slice ya2 e2 yk2, .slice ya3 e3 yk3, .slice ya4 e4 yk4, .slice ya5 e5 yk5, .int .i64 BX.slot, .int .i64 BX.left, .int .i64 BX.clock] 42)) _ (.slice ya0 e0 yk0) (.slice ya1 e1 yk1) (.slice ya2 e2 yk2) (.slice ya3 e3 yk3) (.slice ya4 e4 yk4) (.slice ya5 e5 yk5) BX) := sp.keep (al (Below.refl _ _) _)
  have Z3 : Hid (w3.heap.size + 1 = (w3.alloc (.cells #[.int .i64 C, .slice ya0 e0 yk0, .slice ya1 e1 yk1, .slice ya2 e2 yk2, .slice ya3 e3 yk3, .slice ya4 e4 yk4, .slice ya5 e5 yk5, .int .i64 BX.slot, .int .i64 BX.left, .int .i64 BX.clock] 42)).heap.size) := by show _ = _; simp
  have q3' : Hid (Vb w3 s #[.slice a0 n0 c0, .slice a1 n1 c1, .slice a2 n2 c2, .slice a3 n3 c3, .slice a4 n4 c4, .slice a5 n5 c5, .int .i64 X.slot, .int .i64 X.left, .int .i64 X.clock] 31) := Q.out.keep (on B.out b3)
  replace B : Hid (Below W.heap.size W (w3.alloc (.cells #[.int .i64 C, .slice ya0 e0 yk0, .slice ya1 e1 yk1, .slice ya2 e2 yk2, .slice ya3 e3 yk3, .slice ya4 e4 yk4, .slice ya5 e5 yk5, .int .i64 BX.slot, .int .i64 BX.left, .int .i64 BX.clock] 42))) := al (on B.out b3) _
  clear sp b3 Mg Fgys
  have q0 := q3'.out.cell 0 rfl
  have q1 := q3'.out.cell 1 rfl
  have q2 := q3'.out.cell 2 rfl
  have q3 := q3'.out.cell 3 rfl
  have q4 := q3'.out.cell 4 rfl
  have q5 := q3'.out.cell 5 rfl
  have q6 := q3'.out.cell 6 rfl
  have q7 := q3'.out.cell 7 rfl
  have q8 := q3'.out.cell 8 rfl
  have ls3 : s < w3.heap.size := q3'.out.lt
  go_wp2_with fail
  have Bw3 : Hid (W.heap.size ≤ (w3.alloc (.cells #[.int .i64 C, .slice ya0 e0 yk0, .slice ya1 e1 yk1, .slice ya2 e2 yk2, .slice ya3 e3 yk3, .slice ya4 e4 yk4, .slice ya5 e5 yk5, .int .i64 BX.slot, .int .i64 BX.left, .int .i64 BX.clock] 42)).heap.size) := B.out.size
  generalize (w3.alloc (.cells #[.int .i64 C, .slice ya0 e0 yk0, .slice ya1 e1 yk1, .slice ya2 e2 yk2, .slice ya3 e3 yk3, .slice ya4 e4 yk4, .slice ya5 e5 yk5, .int .i64 BX.slot, .int .i64 BX.left, .int .i64 BX.clock] 42)) = W3 at *
  generalize w3.heap.size = s3 at *
  clear q0 q1 q2 q3 q4 q5 q6 q7 q8 ls3 q3'
  have D3 : Hid (Below W3.heap.size W3 W3) := Below.refl _ _
  refine (to_hostT _ _ _ _ _ _ _ _ _ _ _ _ _ _ _ _ _ _ X _ (HP.out.stay B.out) SM.out).mono ?_
  rintro e w4 ⟨k0, k1, k2, k3, k4, k5, rfl, m4, b4, th4, l4a, l4b⟩
  have M4 : Hid (Od w4 W3.heap.size k0 k1 k2 k3 n0 n1 n2 n3 (.slice (some ⟨k4, 0, none⟩) n4 n4) (.slice (some ⟨k5, 0, none⟩) n5 n5) X) := m4
  have T4 : Hid (w4.there k5 0 (n5 * 9) ∧ W3.heap.size ≤ k5 ∧ k5 < w4.heap.size) := ⟨th4, l4a, l4b⟩
  clear th4 l4a l4b
  have b4' : Below W3.heap.size W3 (w4.alloc (.cells #[.slice (some ⟨k0, 0, none⟩) n0 n0, .slice (some ⟨k1, 0, none⟩) n1 n1, .slice (some ⟨k2, 0, none⟩) n2 n2, .slice (some ⟨k3, 0, none⟩) n3 n3, .slice (some ⟨k4, 0, none⟩) n4 n4, .slice (some ⟨k5, 0, none⟩) n5 n5, .int .i64 X.slot, .int .i64 X.left, .int .i64 X.clock] 40)) := al b4 _
  have D4 : Hid (Below w4.heap.size w4 (w4.alloc (.cells #[.slice (some ⟨k0, 0, none⟩) n0 n0, .slice (some ⟨k1, 0, none⟩) n1 n1, .slice (some ⟨k2, 0, none⟩) n2 n2, .slice (some ⟨k3, 0, none⟩) n3 n3, .slice (some ⟨k4, 0, none⟩) n4 n4, .slice (some ⟨k5, 0, none⟩) n5 n5, .int .i64 X.slot, .int .i64 X.left, .int .i64 X.clock] 40))) := al (Below.refl _ _) _
  have XB : Hid (Vb (w4.alloc (.cells #[.slice (some ⟨k0, 0, none⟩) n0 n0, .slice (some ⟨k1, 0, none⟩) n1 n1, .slice (some ⟨k2, 0, none⟩) n2 n2, .slice (some ⟨k3, 0, none⟩) n3 n3, .slice (some ⟨k4, 0, none⟩) n4 n4, .slice (some ⟨k5, 0, none⟩) n5 n5, .int .i64 X.slot, .int .i64 X.left, .int .i64 X.clock] 40)) w4.heap.size #[.slice (some ⟨k0, 0, none⟩) n0 n0, .slice (some ⟨k1, 0, none⟩) n1 n1, .slice (some ⟨k2, 0, none⟩) n2 n2, .slice (some ⟨k3, 0, none⟩) n3 n3, .slice (some ⟨k4, 0, none⟩) n4 n4, .slice (some ⟨k5, 0, none⟩) n5 n5, .int .i64 X.slot, .int .i64 X.left, .int .i64 X.clock] 40) := Vb.new _ _ _
  have Z4 : Hid (W3.heap.size ≤ w4.heap.size ∧ w4.heap.size + 1 = (w4.alloc (.cells #[.slice (some ⟨k0, 0, none⟩) n0 n0, .slice (some ⟨k1, 0, none⟩) n1 n1, .slice (some ⟨k2, 0, none⟩) n2 n2, .slice (some ⟨k3, 0, none⟩) n3 n3, .slice (some ⟨k4, 0, none⟩) n4 n4, .slice (some ⟨k5, 0, none⟩) n5 n5, .int .i64 X.slot, .int .i64 X.left, .int .i64 X.clock] 40)).heap.size) := ⟨b4.size, by simp⟩
  replace B : Hid (Below W.heap.size W (w4.alloc (.cells #[.slice (some ⟨k0, 0, none⟩) n0 n0, .slice (some ⟨k1, 0, none⟩) n1 n1, .slice (some ⟨k2, 0, none⟩) n2 n2, .slice (some ⟨k3, 0, none⟩) n3 n3, .slice (some ⟨k4, 0, none⟩) n4 n4, .slice (some ⟨k5, 0, none⟩) n5 n5, .int .i64 X.slot, .int .i64 X.left, .int .i64 X.clock] 40))) := on B.out b4'
  replace Y : Hid (Vb (w4.alloc (.cells #[.slice (some ⟨k0, 0, none⟩) n0 n0, .slice (some ⟨k1, 0, none⟩) n1 n1, .slice (some ⟨k2, 0, none⟩) n2 n2, .slice (some ⟨k3, 0, none⟩) n3 n3, .slice (some ⟨k4, 0, none⟩) n4 n4, .slice (some ⟨k5, 0, none⟩) n5 n5, .int .i64 X.slot, .int .i64 X.left, .int .i64 X.clock] 40)) s3 #[.int .i64 C, .slice ya0 e0 yk0, .slice ya1 e1 yk1, .slice ya2 e2 yk2, .slice ya3 e3 yk3, .slice ya4 e4 yk4, .slice ya5 e5 yk5, .int .i64 BX.slot, .int .i64 BX.left, .int .i64 BX.clock] 42) := Y.out.keep b4'
  replace D3 : Hid (Below W3.heap.size W3 (w4.alloc (.cells #[.slice (some ⟨k0, 0, none⟩) n0 n0, .slice (some ⟨k1, 0, none⟩) n1 n1, .slice (some ⟨k2, 0, none⟩) n2 n2, .slice (some ⟨k3, 0, none⟩) n3 n3, .slice (some ⟨k4, 0, none⟩) n4 n4, .slice (some ⟨k5, 0, none⟩) n5 n5, .int .i64 X.slot, .int .i64 X.left, .int .i64 X.clock] 40))) := on D3.out b4'
  clear m4 b4 b4'
  go_wp2_with fail
  generalize (w4.alloc (.cells #[.slice (some ⟨k0, 0, none⟩) n0 n0, .slice (some ⟨k1, 0, none⟩) n1 n1, .slice (some ⟨k2, 0, none⟩) n2 n2, .slice (some ⟨k3, 0, none⟩) n3 n3, .slice (some ⟨k4, 0, none⟩) n4 n4, .slice (some ⟨k5, 0, none⟩) n5 n5, .int .i64 X.slot, .int .i64 X.left, .int .i64 X.clock] 40)) = W4 at *
  obtain ⟨s4, hs4⟩ : ∃ s4, w4.heap.size = s4 := ⟨_, rfl⟩
  replace XB : Hid (Vb W4 s4 #[.slice (some ⟨k0, 0, none⟩) n0 n0, .slice (some ⟨k1, 0, none⟩) n1 n1, .slice (some ⟨k2, 0, none⟩) n2 n2, .slice (some ⟨k3, 0, none⟩) n3 n3, .slice (some ⟨k4, 0, none⟩) n4 n4, .slice (some ⟨k5, 0, none⟩) n5 n5, .int .i64 X.slot, .int .i64 X.left, .int .i64 X.clock] 40) := by show Vb _ _ _ _; rw [← hs4]; exact XB.out
  have S4 : Hid (w4.heap.size = s4) := hs4
  rw [hs4]
  clear hs4
  refine (to_nums _ _ _ _ _ (HRys.out.stay B.out) SMys.out).mono ?_
  rintro e xysw ⟨xys, rfl, mm, bb⟩
  have Jys : Hid (Nums xysw W4.heap.size (.slice (some ⟨xys, 0, none⟩) ysl ysl) ys) := mm
  have Zxys : Hid (W4.heap.size ≤ xysw.heap.size) := bb.size
  replace B : Hid (Below W.heap.size W xysw) := on B.out bb
  replace Y : Hid (Vb xysw s3 #[.int .i64 C, .slice ya0 e0 yk0, .slice ya1 e1 yk1, .slice ya2 e2 yk2, .slice ya3 e3 yk3, .slice ya4 e4 yk4, .slice ya5 e5 yk5, .int .i64 BX.slot, .int .i64 BX.left, .int .i64 BX.clock] 42) := Y.out.keep bb
  replace D3 : Hid (Below W3.heap.size W3 xysw) := on D3.out bb
  replace XB : Hid (Vb xysw s4 #[.slice (some ⟨k0, 0, none⟩) n0 n0, .slice (some ⟨k1, 0, none⟩) n1 n1, .slice (some ⟨k2, 0, none⟩) n2 n2, .slice (some ⟨k3, 0, none⟩) n3 n3, .slice (some ⟨k4, 0, none⟩) n4 n4, .slice (some ⟨k5, 0, none⟩) n5 n5, .int .i64 X.slot, .int .i64 X.left, .int .i64 X.clock] 40) := XB.out.keep bb
  replace D4 : Hid (Below w4.heap.size w4 xysw) := on D4.out bb
  have Dys : Hid (Below xysw.heap.size xysw xysw) := Below.refl _ _
  clear mm bb
  have x0 := XB.out.cell 0 rfl
  have x1 := XB.out.cell 1 rfl
  have x2 := XB.out.cell 2 rfl
  have x3 := XB.out.cell 3 rfl
  have x4 := XB.out.cell 4 rfl
  have x5 := XB.out.cell 5 rfl
  have x6 := XB.out.cell 6 rfl
  have x7 := XB.out.cell 7 rfl
  have x8 := XB.out.cell 8 rfl
  go_wp2_with fail
  clear x0 x1 x2 x3 x4 x5 x6 x7 x8
  have CALL := i_feedHost _ _ _ _ _ _ _ _ _ _ _ _ _ _ _ _ _ _ X gu _ _ _ ys _ _ (od_ojE (M4.out.keep D4.out)) SM.out.pol (Jys.out.keep Dys.out).rn SMys.out (cell_keep B.out HG.out)
  rw [HCX.out.1, HCX.out.2] at CALL
  refine CALL.mono ?_
  clear CALL
  rintro e w5 ⟨_, _, _, _, _, _, rfl, sp, b5⟩
  have hq := owe_hq sp
  obtain ⟨za0, zk0, f0, _⟩ := hq.own.shape
  obtain ⟨za1, zk1, f1, _⟩ := hq.lanes.shape
  obtain ⟨za2, zk2, f2, _⟩ := hq.bells.shape
  obtain ⟨za3, zk3, f3, _⟩ := hq.plan.shape
  obtain ⟨za4, zk4, f4, _⟩ := hq.mem
  obtain ⟨za5, zk5, f5, _⟩ := hq.harts.shape
  clear hq
  subst f0 f1 f2 f3 f4 f5
  rw [LY.out.1, LY.out.2.1, LY.out.2.2.1, LY.out.2.2.2.1, LY.out.2.2.2.2.1, LY.out.2.2.2.2.2] at sp ⊢
  have WN : Hid (Below w5.heap.size w5 (w5.alloc (.cells #[.int .i64 C, .slice za0 e0 zk0, .slice za1 e1 zk1, .slice za2 e2 zk2, .slice za3 e3 zk3, .slice za4 e4 zk4, .slice za5 e5 zk5, .int .i64 BX.slot, .int .i64 BX.left, .int .i64 BX.clock] 42))) := al (Below.refl _ _) _
  have G5 : Hid (Vb (w5.alloc (.cells #[.int .i64 C, .slice za0 e0 zk0, .slice za1 e1 zk1, .slice za2 e2 zk2, .slice za3 e3 zk3, .slice za4 e4 zk4, .slice za5 e5 zk5, .int .i64 BX.slot, .int .i64 BX.left, .int .i64 BX.clock] 42)) w5.heap.size #[.int .i64 C, .slice za0 e0 zk0, .slice za1 e1 zk1, .slice za2 e2 zk2, .slice za3 e3 zk3, .slice za4 e4 zk4, .slice za5 e5 zk5, .int .i64 BX.slot, .int .i64 BX.left, .int .i64 BX.clock] 42) := Vb.new _ _ _
  have O : Hid (OwE (w5.alloc (.cells #[.int .i64 C, .slice za0 e0 zk0, .slice za1 e1 zk1, .slice za2 e2 zk2, .slice za3 e3 zk3, .slice za4 e4 zk4, .slice za5 e5 zk5, .int .i64 BX.slot, .int .i64 BX.left, .int .i64 BX.clock] 42)) xysw.heap.size (.slice za0 e0 zk0) (.slice za1 e1 zk1) (.slice za2 e2 zk2) (.slice za3 e3 zk3) (.slice za4 e4 zk4) (.slice za5 e5 zk5) BX) := sp.keep WN.out
  have Z5 : Hid (xysw.heap.size ≤ w5.heap.size) := b5.size
  have yb : Hid (Vb w5 s3 #[.int .i64 C, .slice ya0 e0 yk0, .slice ya1 e1 yk1, .slice ya2 e2 yk2, .slice ya3 e3 yk3, .slice ya4 e4 yk4, .slice ya5 e5 yk5, .int .i64 BX.slot, .int .i64 BX.left, .int .i64 BX.clock] 42) := Y.out.keep b5
  have b5' : Below xysw.heap.size xysw (w5.alloc (.cells #[.int .i64 C, .slice za0 e0 zk0, .slice za1 e1 zk1, .slice za2 e2 zk2, .slice za3 e3 zk3, .slice za4 e4 zk4, .slice za5 e5 zk5, .int .i64 BX.slot, .int .i64 BX.left, .int .i64 BX.clock] 42)) := al b5 _
  replace B : Hid (Below W.heap.size W (w5.alloc (.cells #[.int .i64 C, .slice za0 e0 zk0, .slice za1 e1 zk1, .slice za2 e2 zk2, .slice za3 e3 zk3, .slice za4 e4 zk4, .slice za5 e5 zk5, .int .i64 BX.slot, .int .i64 BX.left, .int .i64 BX.clock] 42))) := on B.out b5'
  replace Y : Hid (Vb (w5.alloc (.cells #[.int .i64 C, .slice za0 e0 zk0, .slice za1 e1 zk1, .slice za2 e2 zk2, .slice za3 e3 zk3, .slice za4 e4 zk4, .slice za5 e5 zk5, .int .i64 BX.slot, .int .i64 BX.left, .int .i64 BX.clock] 42)) s3 #[.int .i64 C, .slice ya0 e0 yk0, .slice ya1 e1 yk1, .slice ya2 e2 yk2, .slice ya3 e3 yk3, .slice ya4 e4 yk4, .slice ya5 e5 yk5, .int .i64 BX.slot, .int .i64 BX.left, .int .i64 BX.clock] 42) := Y.out.keep b5'
  replace D3 : Hid (Below W3.heap.size W3 (w5.alloc (.cells #[.int .i64 C, .slice za0 e0 zk0, .slice za1 e1 zk1, .slice za2 e2 zk2, .slice za3 e3 zk3, .slice za4 e4 zk4, .slice za5 e5 zk5, .int .i64 BX.slot, .int .i64 BX.left, .int .i64 BX.clock] 42))) := on D3.out b5'
  replace XB : Hid (Vb (w5.alloc (.cells #[.int .i64 C, .slice za0 e0 zk0, .slice za1 e1 zk1, .slice za2 e2 zk2, .slice za3 e3 zk3, .slice za4 e4 zk4, .slice za5 e5 zk5, .int .i64 BX.slot, .int .i64 BX.left, .int .i64 BX.clock] 42)) s4 #[.slice (some ⟨k0, 0, none⟩) n0 n0, .slice (some ⟨k1, 0, none⟩) n1 n1, .slice (some ⟨k2, 0, none⟩) n2 n2, .slice (some ⟨k3, 0, none⟩) n3 n3, .slice (some ⟨k4, 0, none⟩) n4 n4, .slice (some ⟨k5, 0, none⟩) n5 n5, .int .i64 X.slot, .int .i64 X.left, .int .i64 X.clock] 40) := XB.out.keep b5'
  replace D4 : Hid (Below w4.heap.size w4 (w5.alloc (.cells #[.int .i64 C, .slice za0 e0 zk0, .slice za1 e1 zk1, .slice za2 e2 zk2, .slice za3 e3 zk3, .slice za4 e4 zk4, .slice za5 e5 zk5, .int .i64 BX.slot, .int .i64 BX.left, .int .i64 BX.clock] 42))) := on D4.out b5'
  replace Dys : Hid (Below xysw.heap.size xysw (w5.alloc (.cells #[.int .i64 C, .slice za0 e0 zk0, .slice za1 e1 zk1, .slice za2 e2 zk2, .slice za3 e3 zk3, .slice za4 e4 zk4, .slice za5 e5 zk5, .int .i64 BX.slot, .int .i64 BX.left, .int .i64 BX.clock] 42))) := on Dys.out b5'
  have y0 := yb.out.cell 0 rfl
  have y1 := yb.out.cell 1 rfl
  have y2 := yb.out.cell 2 rfl
  have y3 := yb.out.cell 3 rfl
  have y4 := yb.out.cell 4 rfl
  have y5 := yb.out.cell 5 rfl
  have y6 := yb.out.cell 6 rfl
  have y7 := yb.out.cell 7 rfl
  have y8 := yb.out.cell 8 rfl
  have y9 := yb.out.cell 9 rfl
  have ly : s3 < w5.heap.size := yb.out.lt
  clear sp b5 b5' WN
  go_wp2_with fail
  generalize (w5.alloc (.cells #[.int .i64 C, .slice za0 e0 zk0, .slice za1 e1 zk1, .slice za2 e2 zk2, .slice za3 e3 zk3, .slice za4 e4 zk4, .slice za5 e5 zk5, .int .i64 BX.slot, .int .i64 BX.left, .int .i64 BX.clock] 42)) = W5 at *
  generalize w5.heap.size = s5 at *
  clear y0 y1 y2 y3 y4 y5 y6 y7 y8 y9 ly yb
  refine (eq_hostRQ _ _ _ _ _ _ _ _ _ _ _ _ _ BX _ _ _ (owe_hq O.out) (N.out.keep D3.out)).mono ?_
  rintro e w6 ⟨rfl, bb⟩
  replace B : Hid (Below W.heap.size W w6) := on B.out bb
  replace Y : Hid (Vb w6 s3 #[.int .i64 C, .slice ya0 e0 yk0, .slice ya1 e1 yk1, .slice ya2 e2 yk2, .slice ya3 e3 yk3, .slice ya4 e4 yk4, .slice ya5 e5 yk5, .int .i64 BX.slot, .int .i64 BX.left, .int .i64 BX.clock] 42) := Y.out.keep bb
  replace D3 : Hid (Below W3.heap.size W3 w6) := on D3.out bb
  replace XB : Hid (Vb w6 s4 #[.slice (some ⟨k0, 0, none⟩) n0 n0, .slice (some ⟨k1, 0, none⟩) n1 n1, .slice (some ⟨k2, 0, none⟩) n2 n2, .slice (some ⟨k3, 0, none⟩) n3 n3, .slice (some ⟨k4, 0, none⟩) n4 n4, .slice (some ⟨k5, 0, none⟩) n5 n5, .int .i64 X.slot, .int .i64 X.left, .int .i64 X.clock] 40) := XB.out.keep bb
  replace D4 : Hid (Below w4.heap.size w4 w6) := on D4.out bb
  replace Dys : Hid (Below xysw.heap.size xysw w6) := on Dys.out bb
  replace G5 : Hid (Vb w6 s5 #[.int .i64 C, .slice za0 e0 zk0, .slice za1 e1 zk1, .slice za2 e2 zk2, .slice za3 e3 zk3, .slice za4 e4 zk4, .slice za5 e5 zk5, .int .i64 BX.slot, .int .i64 BX.left, .int .i64 BX.clock] 42) := G5.out.keep bb
  replace O : Hid (OwE w6 xysw.heap.size (.slice za0 e0 zk0) (.slice za1 e1 zk1) (.slice za2 e2 zk2) (.slice za3 e3 zk3) (.slice za4 e4 zk4) (.slice za5 e5 zk5) BX) := O.out.keep bb
  clear bb
  have SMo : Hid (Osm n0 n1 n2 n3 n4 n5 X) := SM.out
  go_wp2_with fail
  refine wp_region_held (S := fun w' => Below w6.heap.size w6 w') (by kernel_rfl) ?_
  change wpAnyH _ _ _ _ _ _ _ _ (World.drew _)
  have SD : Hid (Below w6.heap.size w6 w6.drew) := (Below.refl _ _).drew
  generalize w6.drew = x0 at *
  refine wpAnyH_take (i := 0) (v := (.agg #[.slice (some ⟨k0, 0, none⟩) n0 n0, .slice (some ⟨k1, 0, none⟩) n1 n1, .slice (some ⟨k2, 0, none⟩) n2 n2, .slice (some ⟨k3, 0, none⟩) n3 n3, .slice (some ⟨k4, 0, none⟩) n4 n4, .slice (some ⟨k5, 0, none⟩) n5 n5, .int .i64 X.slot, .int .i64 X.left, .int .i64 X.clock])) rfl (by kernel_rfl) (by kernel_rfl) (by kernel_rfl) (fun _ _ _ h => h) (Or.inl ⟨by rfl, fun w' hs => by have hq := XB.out.keep hs; have y0 := hq.cell 0 rfl; have y1 := hq.cell 1 rfl; have y2 := hq.cell 2 rfl; have y3 := hq.cell 3 rfl; have y4 := hq.cell 4 rfl; have y5 := hq.cell 5 rfl; have y6 := hq.cell 6 rfl; have y7 := hq.cell 7 rfl; have y8 := hq.cell 8 rfl; go_simp⟩) SD.out ?_
  change wpAnyH _ _ _ _ _ _ _ (Act.put _ (some 42) _) _
  simp only [Act.put, List.setIfInBounds_toArray, List.set_cons_zero, List.set_cons_succ]
  refine wpAnyH_take (i := 1) (v := (.agg #[.slice a0 n0 c0, .slice a1 n1 c1, .slice a2 n2 c2, .slice a3 n3 c3, .slice a4 n4 c4, .slice a5 n5 c5, .int .i64 X.slot, .int .i64 X.left, .int .i64 X.clock])) rfl (by kernel_rfl) (by kernel_rfl) (by kernel_rfl) (fun _ _ _ h => h) (Or.inl ⟨by rfl, fun w' hs => by have hq := (Q.out.keep B.out).keep hs; have y0 := hq.cell 0 rfl; have y1 := hq.cell 1 rfl; have y2 := hq.cell 2 rfl; have y3 := hq.cell 3 rfl; have y4 := hq.cell 4 rfl; have y5 := hq.cell 5 rfl; have y6 := hq.cell 6 rfl; have y7 := hq.cell 7 rfl; have y8 := hq.cell 8 rfl; go_simp⟩) SD.out ?_
  change wpAnyH _ _ _ _ _ _ _ (Act.put _ (some 43) _) _
  simp only [Act.put, List.setIfInBounds_toArray, List.set_cons_zero, List.set_cons_succ]
  refine wpAnyH_ready (rs := [2]) (by kernel_rfl) (by simp) ?_
  refine AllReadyH.cons rfl (fun K hK => ?_) AllReadyH.nil
  rw [if_pos (by rfl)]
  go_simp
  refine (to_host _ _ _ _ _ _ _ _ _ _ _ _ _ _ _ _ _ _ X _ ((HP.out.stay B.out).stay SD.out) SM.out).mono ?_
  rintro e w7 ⟨j0, j1, j2, j3, j4, j5, rfl, m7, b7⟩
  have S7 : Hid (Below w6.heap.size w6 w7) := on SD.out b7
  have M7 : Hid (Od w7 _ j0 j1 j2 j3 n0 n1 n2 n3 (.slice (some ⟨j4, 0, none⟩) n4 n4) (.slice (some ⟨j5, 0, none⟩) n5 n5) X) := m7
  clear m7 b7
  refine hK.out _ _ S7.out (fun _ => ?_)
  clear hK K
  refine wpAnyH_ready (rs := [3]) (by kernel_rfl) (by simp) ?_
  refine AllReadyH.cons rfl (fun K hK => ?_) AllReadyH.nil
  rw [if_pos (by rfl)]
  go_simp
  refine (eq_host _ _ _ _ _ _ _ _ _ _ _ _ _ _ _ _ X _ _ _ ((M4.out.keep D4.out).keep S7.out) M7.out).mono ?_
  rintro e wc ⟨rfl, b8⟩
  have S8 : Hid (Below w6.heap.size w6 wc) := on S7.out b8
  clear b8 M7
  refine hK.out _ _ S8.out (fun _ => ?_)
  clear hK K
  refine wpAnyH_take (i := 4) (v := (.bool false)) rfl (by kernel_rfl) (by kernel_rfl) (by kernel_rfl) (fun _ _ _ h => h) (Or.inl ⟨by rfl, fun w' hs => by go_simp⟩) S8.out ?_
  change wpAnyH _ _ _ _ _ _ _ (Act.put _ (some 46) _) _
  simp only [Act.put, List.setIfInBounds_toArray, List.set_cons_zero, List.set_cons_succ]
  refine wpAnyH_done (by kernel_rfl) ?_ _
  have bb := S8.out
  clear S7 S8 SD SMo
  replace B : Hid (Below W.heap.size W wc) := on B.out bb
  replace Y : Hid (Vb wc s3 #[.int .i64 C, .slice ya0 e0 yk0, .slice ya1 e1 yk1, .slice ya2 e2 yk2, .slice ya3 e3 yk3, .slice ya4 e4 yk4, .slice ya5 e5 yk5, .int .i64 BX.slot, .int .i64 BX.left, .int .i64 BX.clock] 42) := Y.out.keep bb
  replace D3 : Hid (Below W3.heap.size W3 wc) := on D3.out bb
  replace XB : Hid (Vb wc s4 #[.slice (some ⟨k0, 0, none⟩) n0 n0, .slice (some ⟨k1, 0, none⟩) n1 n1, .slice (some ⟨k2, 0, none⟩) n2 n2, .slice (some ⟨k3, 0, none⟩) n3 n3, .slice (some ⟨k4, 0, none⟩) n4 n4, .slice (some ⟨k5, 0, none⟩) n5 n5, .int .i64 X.slot, .int .i64 X.left, .int .i64 X.clock] 40) := XB.out.keep bb
  replace D4 : Hid (Below w4.heap.size w4 wc) := on D4.out bb
  replace Dys : Hid (Below xysw.heap.size xysw wc) := on Dys.out bb
  replace G5 : Hid (Vb wc s5 #[.int .i64 C, .slice za0 e0 zk0, .slice za1 e1 zk1, .slice za2 e2 zk2, .slice za3 e3 zk3, .slice za4 e4 zk4, .slice za5 e5 zk5, .int .i64 BX.slot, .int .i64 BX.left, .int .i64 BX.clock] 42) := G5.out.keep bb
  replace O : Hid (OwE wc xysw.heap.size (.slice za0 e0 zk0) (.slice za1 e1 zk1) (.slice za2 e2 zk2) (.slice za3 e3 zk3) (.slice za4 e4 zk4) (.slice za5 e5 zk5) BX) := O.out.keep bb
  clear bb
  go_wp2_with fail
  refine (to_nums _ _ _ _ _ (HRys.out.stay B.out) SMys.out).mono ?_
  rintro e dysw ⟨dys, rfl, mm, bb⟩
  have JN : Hid (Nums dysw _ (.slice (some ⟨dys, 0, none⟩) ysl ysl) ys) := mm
  replace B : Hid (Below W.heap.size W dysw) := on B.out bb
  replace Y : Hid (Vb dysw s3 #[.int .i64 C, .slice ya0 e0 yk0, .slice ya1 e1 yk1, .slice ya2 e2 yk2, .slice ya3 e3 yk3, .slice ya4 e4 yk4, .slice ya5 e5 yk5, .int .i64 BX.slot, .int .i64 BX.left, .int .i64 BX.clock] 42) := Y.out.keep bb
  replace D3 : Hid (Below W3.heap.size W3 dysw) := on D3.out bb
  replace XB : Hid (Vb dysw s4 #[.slice (some ⟨k0, 0, none⟩) n0 n0, .slice (some ⟨k1, 0, none⟩) n1 n1, .slice (some ⟨k2, 0, none⟩) n2 n2, .slice (some ⟨k3, 0, none⟩) n3 n3, .slice (some ⟨k4, 0, none⟩) n4 n4, .slice (some ⟨k5, 0, none⟩) n5 n5, .int .i64 X.slot, .int .i64 X.left, .int .i64 X.clock] 40) := XB.out.keep bb
  replace D4 : Hid (Below w4.heap.size w4 dysw) := on D4.out bb
  replace Dys : Hid (Below xysw.heap.size xysw dysw) := on Dys.out bb
  replace G5 : Hid (Vb dysw s5 #[.int .i64 C, .slice za0 e0 zk0, .slice za1 e1 zk1, .slice za2 e2 zk2, .slice za3 e3 zk3, .slice za4 e4 zk4, .slice za5 e5 zk5, .int .i64 BX.slot, .int .i64 BX.left, .int .i64 BX.clock] 42) := G5.out.keep bb
  replace O : Hid (OwE dysw xysw.heap.size (.slice za0 e0 zk0) (.slice za1 e1 zk1) (.slice za2 e2 zk2) (.slice za3 e3 zk3) (.slice za4 e4 zk4) (.slice za5 e5 zk5) BX) := O.out.keep bb
  clear mm bb
  go_wp2_with fail
  refine (eq_nums _ _ _ _ _ _ (Jys.out.keep Dys.out) JN.out).mono ?_
  rintro e eysw ⟨rfl, bb⟩
  replace B : Hid (Below W.heap.size W eysw) := on B.out bb
  replace Y : Hid (Vb eysw s3 #[.int .i64 C, .slice ya0 e0 yk0, .slice ya1 e1 yk1, .slice ya2 e2 yk2, .slice ya3 e3 yk3, .slice ya4 e4 yk4, .slice ya5 e5 yk5, .int .i64 BX.slot, .int .i64 BX.left, .int .i64 BX.clock] 42) := Y.out.keep bb
  replace D3 : Hid (Below W3.heap.size W3 eysw) := on D3.out bb
  replace XB : Hid (Vb eysw s4 #[.slice (some ⟨k0, 0, none⟩) n0 n0, .slice (some ⟨k1, 0, none⟩) n1 n1, .slice (some ⟨k2, 0, none⟩) n2 n2, .slice (some ⟨k3, 0, none⟩) n3 n3, .slice (some ⟨k4, 0, none⟩) n4 n4, .slice (some ⟨k5, 0, none⟩) n5 n5, .int .i64 X.slot, .int .i64 X.left, .int .i64 X.clock] 40) := XB.out.keep bb
  replace D4 : Hid (Below w4.heap.size w4 eysw) := on D4.out bb
  replace Dys : Hid (Below xysw.heap.size xysw eysw) := on Dys.out bb
  replace G5 : Hid (Vb eysw s5 #[.int .i64 C, .slice za0 e0 zk0, .slice za1 e1 zk1, .slice za2 e2 zk2, .slice za3 e3 zk3, .slice za4 e4 zk4, .slice za5 e5 zk5, .int .i64 BX.slot, .int .i64 BX.left, .int .i64 BX.clock] 42) := G5.out.keep bb
  replace O : Hid (OwE eysw xysw.heap.size (.slice za0 e0 zk0) (.slice za1 e1 zk1) (.slice za2 e2 zk2) (.slice za3 e3 zk3) (.slice za4 e4 zk4) (.slice za5 e5 zk5) BX) := O.out.keep bb
  clear bb JN
  have x0 := XB.out.cell 0 rfl
  have x1 := XB.out.cell 1 rfl
  have x2 := XB.out.cell 2 rfl
  have x3 := XB.out.cell 3 rfl
  have x4 := XB.out.cell 4 rfl
  have x5 := XB.out.cell 5 rfl
  have x6 := XB.out.cell 6 rfl
  have x7 := XB.out.cell 7 rfl
  have x8 := XB.out.cell 8 rfl
  go_wp2_with fail
  clear x0 x1 x2 x3 x4 x5 x6 x7 x8
  refine (mark_hostB _ _ _ _ _ _ _ _ _ _ _ _ W3.heap.size w4.heap.size X w4 eysw M4.out T4.out.1 T4.out.2.1 T4.out.2.2 D4.out SM.out (Nat.le_refl _)).mono ?_
  rintro e m0 ⟨⟨r1, rfl, hr1, hr1b⟩, mk⟩
  have MH : Hid (Mq (fun k => W3.heap.size ≤ k ∧ k < w4.heap.size) eysw m0) := mk.mqv
  have MK : Hid (Mk W4.heap.size xysw.heap.size m0 m0) := Mk.refl _ _ _
  clear mk
  go_wp2_with fail
  refine (mark_mb _ _ _ W4.heap.size xysw.heap.size _ _ ((mbMh2 ((((Jys.out.mb).stay Dys.out).wide (lo' := W4.heap.size) (hi' := xysw.heap.size) (by have := Z4.out; have := Zxys.out; have := Z3.out; have := S4.out; omega) (by have := Z4.out; have := Zxys.out; have := Z3.out; have := S4.out; omega))) MH.out (by have := Z4.out; have := Zxys.out; have := Z3.out; have := S4.out; omega)).mk MK.out) hr1 (by have := SMys.out; omega)).mono ?_
  rintro e m1 ⟨rfl, mk⟩
  replace MK : Hid (Mk W4.heap.size xysw.heap.size m0 m1) := MK.out.trans mk
  clear mk
  have hr2 : 0 ≤ r1 + (ysl : Int) := by omega
  have hr2b : r1 + (ysl : Int) ≤ 9100000000000 := by have := SMys.out; omega
  generalize r1 + (ysl : Int) = r2n at *
  clear hr1 hr1b
  have hr1 := hr2
  have hr1b := hr2b
  clear hr2 hr2b
  have MV : Hid (Mq (fun k => W3.heap.size ≤ k ∧ k < xysw.heap.size) eysw m1) := (vo_widE MH.out fun k e => by have := Z4.out; have := Zxys.out; have := Z3.out; have := S4.out; omega).trans (vo_widE (mk_mqX MK.out) fun k e => by have := Z4.out; have := Zxys.out; have := Z3.out; have := S4.out; omega)
  replace B : Hid (Below W.heap.size W m1) := Mq.below B.out MV.out fun k e => by have := Bw3.out; omega
  replace Y : Hid (Vb m1 s3 #[.int .i64 C, .slice ya0 e0 yk0, .slice ya1 e1 yk1, .slice ya2 e2 yk2, .slice ya3 e3 yk3, .slice ya4 e4 yk4, .slice ya5 e5 yk5, .int .i64 BX.slot, .int .i64 BX.left, .int .i64 BX.clock] 42) := MV.out.vb Y.out (by have := Z4.out; have := Zxys.out; have := Z3.out; have := S4.out; omega)
  replace G5 : Hid (Vb m1 s5 #[.int .i64 C, .slice za0 e0 zk0, .slice za1 e1 zk1, .slice za2 e2 zk2, .slice za3 e3 zk3, .slice za4 e4 zk4, .slice za5 e5 zk5, .int .i64 BX.slot, .int .i64 BX.left, .int .i64 BX.clock] 42) := MV.out.vb G5.out (by have := Z4.out; have := Zxys.out; have := Z3.out; have := S4.out; have := Z5.out; omega)
  replace D3 : Hid (Below W3.heap.size W3 m1) := Mq.below D3.out MV.out fun k e => e.1
  replace O : Hid (OwE m1 xysw.heap.size (.slice za0 e0 zk0) (.slice za1 e1 zk1) (.slice za2 e2 zk2) (.slice za3 e3 zk3) (.slice za4 e4 zk4) (.slice za5 e5 zk5) BX) := owe_ho O.out (MV.out.ho fun k e => e.2)
  clear MK MV XB D4 M4 MH T4 Dys Jys
  have y0 := Y.out.cell 0 rfl
  have y1 := Y.out.cell 1 rfl
  have y2 := Y.out.cell 2 rfl
  have y3 := Y.out.cell 3 rfl
  have y4 := Y.out.cell 4 rfl
  have y5 := Y.out.cell 5 rfl
  have y6 := Y.out.cell 6 rfl
  have y7 := Y.out.cell 7 rfl
  have y8 := Y.out.cell 8 rfl
  have y9 := Y.out.cell 9 rfl
  have g0 := G5.out.cell 0 rfl
  have g1 := G5.out.cell 1 rfl
  have g2 := G5.out.cell 2 rfl
  have g3 := G5.out.cell 3 rfl
  have g4 := G5.out.cell 4 rfl
  have g5 := G5.out.cell 5 rfl
  have g6 := G5.out.cell 6 rfl
  have g7 := G5.out.cell 7 rfl
  have g8 := G5.out.cell 8 rfl
  have g9 := G5.out.cell 9 rfl
  go_wp2_with fail
  clear y0 y1 y2 y3 y4 y5 y6 y7 y8 y9 g0 g1 g2 g3 g4 g5 g6 g7 g8 g9
  refine (eq_hostRQ _ _ _ _ _ _ _ _ _ _ _ _ _ BX _ _ _ (owe_hq O.out) (N.out.keep D3.out)).mono ?_
  rintro e t1 ⟨rfl, bb⟩
  replace B : Hid (Below W.heap.size W t1) := on B.out bb
  replace Y : Hid (Vb t1 s3 #[.int .i64 C, .slice ya0 e0 yk0, .slice ya1 e1 yk1, .slice ya2 e2 yk2, .slice ya3 e3 yk3, .slice ya4 e4 yk4, .slice ya5 e5 yk5, .int .i64 BX.slot, .int .i64 BX.left, .int .i64 BX.clock] 42) := Y.out.keep bb
  replace D3 : Hid (Below W3.heap.size W3 t1) := on D3.out bb
  replace G5 : Hid (Vb t1 s5 #[.int .i64 C, .slice za0 e0 zk0, .slice za1 e1 zk1, .slice za2 e2 zk2, .slice za3 e3 zk3, .slice za4 e4 zk4, .slice za5 e5 zk5, .int .i64 BX.slot, .int .i64 BX.left, .int .i64 BX.clock] 42) := G5.out.keep bb
  replace O : Hid (OwE t1 xysw.heap.size (.slice za0 e0 zk0) (.slice za1 e1 zk1) (.slice za2 e2 zk2) (.slice za3 e3 zk3) (.slice za4 e4 zk4) (.slice za5 e5 zk5) BX) := O.out.keep bb
  clear bb
  have g0 := G5.out.cell 0 rfl
  have g1 := G5.out.cell 1 rfl
  have g2 := G5.out.cell 2 rfl
  have g3 := G5.out.cell 3 rfl
  have g4 := G5.out.cell 4 rfl
  have g5 := G5.out.cell 5 rfl
  have g6 := G5.out.cell 6 rfl
  have g7 := G5.out.cell 7 rfl
  have g8 := G5.out.cell 8 rfl
  have g9 := G5.out.cell 9 rfl
  go_wp2_with fail
  clear g0 g1 g2 g3 g4 g5 g6 g7 g8 g9
  obtain ⟨y0, y1, y2, y3, y4, y5, RR, SS, og, bd, be⟩ := owe_og O.out SMX.out (by decide) (by decide) (by decide) (by decide) (by decide) G5.out
  have OG : Hid (Og t1 za0 za1 za2 za3 za4 za5 e0 e1 e2 e3 e4 e5 y0 y1 y2 y3 y4 y5 RR SS) := og
  have BD : Hid (∀ x ∈ (oN y1 y2 y3 y4 y5 e1 e2 e3 e4 e5 RR SS), xysw.heap.size ≤ x.1.block) := fun x hx => (bd x hx).1
  have BE : Hid (∀ x ∈ (oN y1 y2 y3 y4 y5 e1 e2 e3 e4 e5 RR SS), x.1.block ≠ s5) := be
  clear og bd be
  refine (mx_hostR _ _ _ _ _ _ _ _ _ _ _ _ _ _ _ _ _ _ _ _ _ _ _ _ _ BX.slot BX.left BX.clock RR SS 1 _ OG.out (by decide) (by decide)).mono ?_
  rintro e t2 ⟨rfl, mx⟩
  have HXF : Hid (Hx (oN y1 y2 y3 y4 y5 e1 e2 e3 e4 e5 RR SS) 1 t2) := mx.hx
  have OHF : Hid (Oh t2 za0 za1 za2 za3 za4 za5 e0 e1 e2 e3 e4 e5 y0 y1 y2 y3 y4 y5 RR SS) := OG.out.oh mx
  have B' : Hid (Below W.heap.size W t2) := ⟨mx.os.trans B.out.os, mx.tape.trans B.out.tape, mx.output.trans B.out.output, Nat.le_trans B.out.size mx.size, fun k hk => (mx.block k (Nat.lt_of_lt_of_le hk B.out.size) fun x hx f => by have := BD.out x hx; have := Bw3.out; have := Z4.out; have := Zxys.out; have := Z3.out; have := S4.out; omega).trans (B.out.block k hk)⟩
  have D3' : Hid (Below W3.heap.size W3 t2) := ⟨mx.os.trans D3.out.os, mx.tape.trans D3.out.tape, mx.output.trans D3.out.output, Nat.le_trans D3.out.size mx.size, fun k hk => (mx.block k (Nat.lt_of_lt_of_le hk D3.out.size) fun x hx f => by have := BD.out x hx; have := Z4.out; have := Zxys.out; have := Z3.out; have := S4.out; omega).trans (D3.out.block k hk)⟩
  replace Y : Hid (Vb t2 s3 #[.int .i64 C, .slice ya0 e0 yk0, .slice ya1 e1 yk1, .slice ya2 e2 yk2, .slice ya3 e3 yk3, .slice ya4 e4 yk4, .slice ya5 e5 yk5, .int .i64 BX.slot, .int .i64 BX.left, .int .i64 BX.clock] 42) := (mx.block s3 Y.out.lt fun x hx f => by have := BD.out x hx; have := Z4.out; have := Zxys.out; have := Z3.out; have := S4.out; omega).trans Y.out
  replace G5 : Hid (Vb t2 s5 #[.int .i64 C, .slice za0 e0 zk0, .slice za1 e1 zk1, .slice za2 e2 zk2, .slice za3 e3 zk3, .slice za4 e4 zk4, .slice za5 e5 zk5, .int .i64 BX.slot, .int .i64 BX.left, .int .i64 BX.clock] 42) := (mx.block s5 G5.out.lt fun x hx f => BE.out x hx f).trans G5.out
  clear B D3 O OG BD BE mx
  have B := B'
  have D3 := D3'
  have OH := OHF
  have HX := HXF
  clear B' D3' OHF HXF
  have tp : 0 ≤ 1 + (((oN y1 y2 y3 y4 y5 e1 e2 e3 e4 e5 RR SS).length : Nat) : Int) := by omega
  obtain ⟨TT, hTT⟩ : ∃ t, 1 + (((oN y1 y2 y3 y4 y5 e1 e2 e3 e4 e5 RR SS).length : Nat) : Int) = t := ⟨_, rfl⟩
  have HTT : Hid (1 + (((oN y1 y2 y3 y4 y5 e1 e2 e3 e4 e5 RR SS).length : Nat) : Int) = TT) := hTT
  rw [hTT] at tp ⊢
  clear hTT
  have g0 := G5.out.cell 0 rfl
  have g1 := G5.out.cell 1 rfl
  have g2 := G5.out.cell 2 rfl
  have g3 := G5.out.cell 3 rfl
  have g4 := G5.out.cell 4 rfl
  have g5 := G5.out.cell 5 rfl
  have g6 := G5.out.cell 6 rfl
  have g7 := G5.out.cell 7 rfl
  have g8 := G5.out.cell 8 rfl
  have g9 := G5.out.cell 9 rfl
  go_wp2_with fail
  clear g0 g1 g2 g3 g4 g5 g6 g7 g8 g9
  refine (hx_hostR _ _ _ _ _ _ _ _ _ _ _ _ _ _ _ _ _ _ _ _ _ _ _ _ _ BX.slot BX.left BX.clock RR SS 1 _ OH.out HX.out (by decide) (by decide)).mono ?_
  rintro e t3 ⟨rfl, bb⟩
  replace B : Hid (Below W.heap.size W t3) := on B.out bb
  replace Y : Hid (Vb t3 s3 #[.int .i64 C, .slice ya0 e0 yk0, .slice ya1 e1 yk1, .slice ya2 e2 yk2, .slice ya3 e3 yk3, .slice ya4 e4 yk4, .slice ya5 e5 yk5, .int .i64 BX.slot, .int .i64 BX.left, .int .i64 BX.clock] 42) := Y.out.keep bb
  replace D3 : Hid (Below W3.heap.size W3 t3) := on D3.out bb
  replace G5 : Hid (Vb t3 s5 #[.int .i64 C, .slice za0 e0 zk0, .slice za1 e1 zk1, .slice za2 e2 zk2, .slice za3 e3 zk3, .slice za4 e4 zk4, .slice za5 e5 zk5, .int .i64 BX.slot, .int .i64 BX.left, .int .i64 BX.clock] 42) := G5.out.keep bb
  replace OH : Hid (Oh t3 za0 za1 za2 za3 za4 za5 e0 e1 e2 e3 e4 e5 y0 y1 y2 y3 y4 y5 RR SS) := OH.out.keep bb
  replace HX : Hid (Hx (oN y1 y2 y3 y4 y5 e1 e2 e3 e4 e5 RR SS) 1 t3) := hx_keepX HX.out bb
  clear bb
  rw [HTT.out]
  have q0 := (Q.out.keep B.out).cell 0 rfl
  have q1 := (Q.out.keep B.out).cell 1 rfl
  have q2 := (Q.out.keep B.out).cell 2 rfl
  have q3 := (Q.out.keep B.out).cell 3 rfl
  have q4 := (Q.out.keep B.out).cell 4 rfl
  have q5 := (Q.out.keep B.out).cell 5 rfl
  have q6 := (Q.out.keep B.out).cell 6 rfl
  have q7 := (Q.out.keep B.out).cell 7 rfl
  have q8 := (Q.out.keep B.out).cell 8 rfl
  go_wp2_with fail
  clear q0 q1 q2 q3 q4 q5 q6 q7 q8
  refine (to_host _ _ _ _ _ _ _ _ _ _ _ _ _ _ _ _ _ _ X _ (HP.out.stay B.out) SM.out).mono ?_
  rintro e whX ⟨h0, h1, h2, h3, h4, h5, rfl, mm, bb⟩
  have Mh : Hid (Od whX _ h0 h1 h2 h3 n0 n1 n2 n3 (.slice (some ⟨h4, 0, none⟩) n4 n4) (.slice (some ⟨h5, 0, none⟩) n5 n5) X) := mm
  replace B : Hid (Below W.heap.size W whX) := on B.out bb
  replace Y : Hid (Vb whX s3 #[.int .i64 C, .slice ya0 e0 yk0, .slice ya1 e1 yk1, .slice ya2 e2 yk2, .slice ya3 e3 yk3, .slice ya4 e4 yk4, .slice ya5 e5 yk5, .int .i64 BX.slot, .int .i64 BX.left, .int .i64 BX.clock] 42) := Y.out.keep bb
  replace D3 : Hid (Below W3.heap.size W3 whX) := on D3.out bb
  replace G5 : Hid (Vb whX s5 #[.int .i64 C, .slice za0 e0 zk0, .slice za1 e1 zk1, .slice za2 e2 zk2, .slice za3 e3 zk3, .slice za4 e4 zk4, .slice za5 e5 zk5, .int .i64 BX.slot, .int .i64 BX.left, .int .i64 BX.clock] 42) := G5.out.keep bb
  replace OH : Hid (Oh whX za0 za1 za2 za3 za4 za5 e0 e1 e2 e3 e4 e5 y0 y1 y2 y3 y4 y5 RR SS) := OH.out.keep bb
  replace HX : Hid (Hx (oN y1 y2 y3 y4 y5 e1 e2 e3 e4 e5 RR SS) 1 whX) := hx_keepX HX.out bb
  clear mm bb
  go_wp2_with fail
  refine (to_nums _ _ _ _ _ (HRys.out.stay B.out) SMys.out).mono ?_
  rintro e whys ⟨hys, rfl, mm, bb⟩
  have Fhys : Hid (Nums whys _ (.slice (some ⟨hys, 0, none⟩) ysl ysl) ys) := mm
  replace Mh : Hid (Od whys _ h0 h1 h2 h3 n0 n1 n2 n3 (.slice (some ⟨h4, 0, none⟩) n4 n4) (.slice (some ⟨h5, 0, none⟩) n5 n5) X) := Mh.out.keep bb
  replace B : Hid (Below W.heap.size W whys) := on B.out bb
  replace Y : Hid (Vb whys s3 #[.int .i64 C, .slice ya0 e0 yk0, .slice ya1 e1 yk1, .slice ya2 e2 yk2, .slice ya3 e3 yk3, .slice ya4 e4 yk4, .slice ya5 e5 yk5, .int .i64 BX.slot, .int .i64 BX.left, .int .i64 BX.clock] 42) := Y.out.keep bb
  replace D3 : Hid (Below W3.heap.size W3 whys) := on D3.out bb
  replace G5 : Hid (Vb whys s5 #[.int .i64 C, .slice za0 e0 zk0, .slice za1 e1 zk1, .slice za2 e2 zk2, .slice za3 e3 zk3, .slice za4 e4 zk4, .slice za5 e5 zk5, .int .i64 BX.slot, .int .i64 BX.left, .int .i64 BX.clock] 42) := G5.out.keep bb
  replace OH : Hid (Oh whys za0 za1 za2 za3 za4 za5 e0 e1 e2 e3 e4 e5 y0 y1 y2 y3 y4 y5 RR SS) := OH.out.keep bb
  replace HX : Hid (Hx (oN y1 y2 y3 y4 y5 e1 e2 e3 e4 e5 RR SS) 1 whys) := hx_keepX HX.out bb
  clear mm bb
  go_wp2_with fail
  have CALL := i_feedHost _ _ _ _ _ _ _ _ _ _ _ _ _ _ _ _ _ _ X gu _ _ _ ys _ _ (od_ojE Mh.out) SM.out.pol Fhys.out.rn SMys.out (cell_keep B.out HG.out)
  rw [HCX.out.1, HCX.out.2] at CALL
  refine CALL.mono ?_
  clear CALL
  rintro e t6 ⟨_, _, _, _, _, _, rfl, sp, b7⟩
  have hq := owe_hq sp
  obtain ⟨ta0, tk0, f0, _⟩ := hq.own.shape
  obtain ⟨ta1, tk1, f1, _⟩ := hq.lanes.shape
  obtain ⟨ta2, tk2, f2, _⟩ := hq.bells.shape
  obtain ⟨ta3, tk3, f3, _⟩ := hq.plan.shape
  obtain ⟨ta4, tk4, f4, _⟩ := hq.mem
  obtain ⟨ta5, tk5, f5, _⟩ := hq.harts.shape
  clear hq
  subst f0 f1 f2 f3 f4 f5
  rw [LY.out.1, LY.out.2.1, LY.out.2.2.1, LY.out.2.2.2.1, LY.out.2.2.2.2.1, LY.out.2.2.2.2.2] at sp ⊢
  have WN : Hid (Below t6.heap.size t6 (t6.alloc (.cells #[.int .i64 C, .slice ta0 e0 tk0, .slice ta1 e1 tk1, .slice ta2 e2 tk2, .slice ta3 e3 tk3, .slice ta4 e4 tk4, .slice ta5 e5 tk5, .int .i64 BX.slot, .int .i64 BX.left, .int .i64 BX.clock] 42))) := al (Below.refl _ _) _
  have H6 : Hid (OwE (t6.alloc (.cells #[.int .i64 C, .slice ta0 e0 tk0, .slice ta1 e1 tk1, .slice ta2 e2 tk2, .slice ta3 e3 tk3, .slice ta4 e4 tk4, .slice ta5 e5 tk5, .int .i64 BX.slot, .int .i64 BX.left, .int .i64 BX.clock] 42)) _ (.slice ta0 e0 tk0) (.slice ta1 e1 tk1) (.slice ta2 e2 tk2) (.slice ta3 e3 tk3) (.slice ta4 e4 tk4) (.slice ta5 e5 tk5) BX) := sp.keep WN.out
  replace B : Hid (Below W.heap.size W t6) := on B.out b7
  replace Y : Hid (Vb t6 s3 #[.int .i64 C, .slice ya0 e0 yk0, .slice ya1 e1 yk1, .slice ya2 e2 yk2, .slice ya3 e3 yk3, .slice ya4 e4 yk4, .slice ya5 e5 yk5, .int .i64 BX.slot, .int .i64 BX.left, .int .i64 BX.clock] 42) := Y.out.keep b7
  replace D3 : Hid (Below W3.heap.size W3 t6) := on D3.out b7
  replace G5 : Hid (Vb t6 s5 #[.int .i64 C, .slice za0 e0 zk0, .slice za1 e1 zk1, .slice za2 e2 zk2, .slice za3 e3 zk3, .slice za4 e4 zk4, .slice za5 e5 zk5, .int .i64 BX.slot, .int .i64 BX.left, .int .i64 BX.clock] 42) := G5.out.keep b7
  replace OH : Hid (Oh t6 za0 za1 za2 za3 za4 za5 e0 e1 e2 e3 e4 e5 y0 y1 y2 y3 y4 y5 RR SS) := OH.out.keep b7
  replace HX : Hid (Hx (oN y1 y2 y3 y4 y5 e1 e2 e3 e4 e5 RR SS) 1 t6) := hx_keepX HX.out b7
  have y0 := Y.out.cell 0 rfl
  have y1 := Y.out.cell 1 rfl
  have y2 := Y.out.cell 2 rfl
  have y3 := Y.out.cell 3 rfl
  have y4 := Y.out.cell 4 rfl
  have y5 := Y.out.cell 5 rfl
  have y6 := Y.out.cell 6 rfl
  have y7 := Y.out.cell 7 rfl
  have y8 := Y.out.cell 8 rfl
  have y9 := Y.out.cell 9 rfl
  have l6 : s3 < t6.heap.size := Y.out.lt
  clear sp b7 Mh Fhys
  go_wp2_with fail
  clear y0 y1 y2 y3 y4 y5 y6 y7 y8 y9 l6
  refine (eq_hostRQ _ _ _ _ _ _ _ _ _ _ _ _ _ BX _ _ _ (owe_hq H6.out) ((N.out.keep D3.out).keep WN.out)).mono ?_
  rintro e t7 ⟨rfl, b8⟩
  have b7 := on WN.out b8
  replace B : Hid (Below W.heap.size W t7) := on B.out b7
  replace Y : Hid (Vb t7 s3 #[.int .i64 C, .slice ya0 e0 yk0, .slice ya1 e1 yk1, .slice ya2 e2 yk2, .slice ya3 e3 yk3, .slice ya4 e4 yk4, .slice ya5 e5 yk5, .int .i64 BX.slot, .int .i64 BX.left, .int .i64 BX.clock] 42) := Y.out.keep b7
  replace D3 : Hid (Below W3.heap.size W3 t7) := on D3.out b7
  replace G5 : Hid (Vb t7 s5 #[.int .i64 C, .slice za0 e0 zk0, .slice za1 e1 zk1, .slice za2 e2 zk2, .slice za3 e3 zk3, .slice za4 e4 zk4, .slice za5 e5 zk5, .int .i64 BX.slot, .int .i64 BX.left, .int .i64 BX.clock] 42) := G5.out.keep b7
  replace OH : Hid (Oh t7 za0 za1 za2 za3 za4 za5 e0 e1 e2 e3 e4 e5 y0 y1 y2 y3 y4 y5 RR SS) := OH.out.keep b7
  replace HX : Hid (Hx (oN y1 y2 y3 y4 y5 e1 e2 e3 e4 e5 RR SS) 1 t7) := hx_keepX HX.out b7
  clear b7 b8 WN H6
  have g0 := G5.out.cell 0 rfl
  have g1 := G5.out.cell 1 rfl
  have g2 := G5.out.cell 2 rfl
  have g3 := G5.out.cell 3 rfl
  have g4 := G5.out.cell 4 rfl
  have g5 := G5.out.cell 5 rfl
  have g6 := G5.out.cell 6 rfl
  have g7 := G5.out.cell 7 rfl
  have g8 := G5.out.cell 8 rfl
  have g9 := G5.out.cell 9 rfl
  go_wp2_with fail
  clear g0 g1 g2 g3 g4 g5 g6 g7 g8 g9
  refine (hx_hostR _ _ _ _ _ _ _ _ _ _ _ _ _ _ _ _ _ _ _ _ _ _ _ _ _ BX.slot BX.left BX.clock RR SS 1 _ OH.out HX.out (by decide) (by decide)).mono ?_
  rintro e t8 ⟨rfl, b8⟩
  rw [HTT.out]
  go_wp2_with fail
  go_ret
  exact ⟨rfl, on B0.out (on B.out b8)⟩
end Go.Proofs.YtggejbphdadckaaGreatDoor.fnExactFeedHostDone
