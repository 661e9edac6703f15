/- The walk of a law. -/
import Derived.Test.YtmgninipaigjfaaGreatDoorCards
import Derived.Test.YtmgninipaigjfaaGreatDoorTie
import Derived.Deep.DeepHandedRow
import Derived.LaidHandle
import Derived.LaidLaws
import Derived.Lib.LaidTab
import Derived.Stop.LaidErr
import Derived.Lib.SmallJoins
import Derived.Deep.RegionWith
import Derived.Deep.RegionHeld3
import Derived.Deep.Cut
import Derived.Deep.CutRange
import Derived.Test.YtmgninipaigjfaaGreatDoorQ01
import Derived.Test.YtmgninipaigjfaaGreatDoorQ15
import Derived.Test.YtmgninipaigjfaaGreatDoorQ18
import Derived.Test.YtmgninipaigjfaaGreatDoorQ47
import Derived.Test.YtmgninipaigjfaaGreatDoorQ49
import Derived.Test.YtmgninipaigjfaaGreatDoorQ50
namespace Go.Proofs.YtmgninipaigjfaaGreatDoor.fnExactTwinHostDone
open Go.ChangeShapes Go.WideShapes Go.ChangeAt Go.RowKit
open Go.ChangeMaps (open_string shut_string)
set_option linter.unusedVariables false

theorem mk_mqX {lo hi : Nat} {w w' : World} (m : Mk lo hi w w') : Mq (fun k => lo ≤ k ∧ k < hi) w w' := ⟨m.os, m.tape, m.output, m.size, fun k hk hn => m.block k hk (by have : ¬ (lo ≤ k ∧ k < hi) := hn; omega)⟩
theorem owe_hq {w : World} {base : Nat} {v0 v1 v2 v3 v4 v5 : Value} {X : Hst} (h : OwE w base v0 v1 v2 v3 v4 v5 X) : Hq w base v0 v1 v2 v3 v4 v5 X := by
  obtain ⟨_, _, h⟩ := h; exact h.hq
theorem owe_ho {w w' : World} {base : Nat} {v0 v1 v2 v3 v4 v5 : Value} {X : Hst} (h : OwE w base v0 v1 v2 v3 v4 v5 X) (k : Ho base w w') : OwE w' base v0 v1 v2 v3 v4 v5 X := by
  obtain ⟨xs, qs, h⟩ := h; exact ⟨xs, qs, h.ho k⟩
theorem ow_tyX {w : World} {base : Nat} {a0 a1 a2 a3 a4 a5 : Option Addr} {n0 n1 n2 n3 n4 n5 c0 c1 c2 c3 c4 c5 : Nat} {X : Hst} {xs : List Value} {qs : List (V4 × Ht)} (h : Ow w base (.slice a0 n0 c0) (.slice a1 n1 c1) (.slice a2 n2 c2) (.slice a3 n3 c3) (.slice a4 n4 c4) (.slice a5 n5 c5) X xs qs) {T : TypeId} (t0 : T ≠ 2) (t1 : T ≠ 86) (t2 : T ≠ 90) (t3 : T ≠ 79) (t5 : T ≠ 81) {q : Nat} {cs : Array Value} (k : Vb w q cs T) :
    ∀ x ∈ oN (blk (.slice a1 n1 c1)) (blk (.slice a2 n2 c2)) (blk (.slice a3 n3 c3)) (blk (.slice a4 n4 c4)) (blk (.slice a5 n5 c5)) n1 n2 n3 n4 n5 (rlX xs) (mhX qs), x.1.block ≠ q := by
  have kt : tyOf w q = some T := by unfold tyOf; unfold Vb at k; rw [k]
  have N1 : n1 = X.pol.lanes.length := by obtain ⟨_, ⟨e, h2⟩ | ⟨_, _, _, e, _⟩⟩ := h.lanes <;> simp at e <;> omega
  have N2 : n2 = X.pol.bells.length := by obtain ⟨_, ⟨e, h2⟩ | ⟨_, _, _, e, _⟩⟩ := h.bells <;> simp at e <;> omega
  have N3 : n3 = X.pol.plan.length := by obtain ⟨_, ⟨e, h2⟩ | ⟨_, _, _, e, _⟩⟩ := h.plan <;> simp at e <;> omega
  have N5 : n5 = qs.length := by obtain ⟨_, ⟨e, h2⟩ | ⟨_, _, _, e, _⟩⟩ := h.harts <;> simp at e <;> omega
  intro x hx e
  simp only [oN, pN, List.mem_append] at hx
  rcases hx with ((((hx | hx) | hx) | hx) | hx) | hx
  · obtain ⟨r, hr, h0, e'⟩ := rN_mem hx
    obtain ⟨x', hxm, rfl⟩ := List.mem_map.1 hr
    obtain ⟨_, n⟩ := h.num x' (List.mem_append_left _ hxm)
    exact ty_ne (n.bk h0).ty kt (fun e => t0 e.symm) (by rw [← e, e'])
  · have h0 := cN_pos hx
    exact ty_ne (row_bk h.lanes (by omega)).1.ty kt (fun e => t1 e.symm) (by rw [← e, cN_block hx])
  · have h0 := cN_pos hx
    exact ty_ne (row_bk h.bells (by omega)).1.ty kt (fun e => t2 e.symm) (by rw [← e, cN_block hx])
  · have h0 := cN_pos hx
    exact ty_ne (row_bk h.plan (by omega)).1.ty kt (fun e => t3 e.symm) (by rw [← e, cN_block hx])
  · exact ty_ne (h.mem.bk (cN_pos hx)).ty kt (fun e => t0 e.symm) (by rw [← e, cN_block hx])
  · obtain ⟨i, hi, hx⟩ := tN_mem hx
    rcases hN_mem hx with ⟨l, hl, hp, hb⟩ | ⟨t, ht, e2⟩
    · obtain ⟨v, hv, rfl⟩ := hsX_mem hl
      obtain ⟨_, n⟩ := h.num v (List.mem_append_right _ (List.mem_cons_of_mem _ (List.mem_flatMap.2 ⟨_, getD_memQ qs i (by omega), hv⟩)))
      exact ty_ne (n.bk hp).ty kt (fun e => t0 e.symm) (by rw [← e, hb])
    · exact ty_ne (row_bk h.harts (by omega)).1.ty kt (fun e => t5 e.symm) (by rw [← e, e2])
theorem owe_og {w : World} {base : Nat} {a0 a1 a2 a3 a4 a5 : Option Addr} {n0 n1 n2 n3 n4 n5 c0 c1 c2 c3 c4 c5 : Nat} {X : Hst} (h : OwE w base (.slice a0 n0 c0) (.slice a1 n1 c1) (.slice a2 n2 c2) (.slice a3 n3 c3) (.slice a4 n4 c4) (.slice a5 n5 c5) X) (sm : Xsm X) {T : TypeId} (t0 : T ≠ 2) (t1 : T ≠ 86) (t2 : T ≠ 90) (t3 : T ≠ 79) (t5 : T ≠ 81) {q : Nat} {cs : Array Value} (k : Vb w q cs T) :
    ∃ g0 g1 g2 g3 g4 g5 R S, Og w a0 a1 a2 a3 a4 a5 n0 n1 n2 n3 n4 n5 g0 g1 g2 g3 g4 g5 R S ∧ (∀ x ∈ oN g1 g2 g3 g4 g5 n1 n2 n3 n4 n5 R S, base ≤ x.1.block ∧ x.1.block < w.heap.size) ∧ ∀ x ∈ oN g1 g2 g3 g4 g5 n1 n2 n3 n4 n5 R S, x.1.block ≠ q := by
  obtain ⟨xs, qs, h⟩ := h
  exact ⟨_, _, _, _, _, _, _, _, (h.og sm).1, (h.og sm).2, ow_tyX h t0 t1 t2 t3 t5 k⟩
theorem hx_keepX {L : List (Addr × Bool)} {k : Int} {w w' : World} (h : Hx L k w) (b : Below w.heap.size w w') : Hx L k w' := fun i x e => cell_keep b (h i x e)
set_option maxHeartbeats 4000000 in
theorem mark_sbX (g n c lo hi : Nat) (k : Int) (w : World) (h : Sb w lo hi g n) (hn : n ≤ 1048576) (hk : 0 ≤ k) (hz : k ≤ 17592186044416) :
    Calls Tryz.prog 16 #[.slice (some ⟨g, 0, none⟩) n c, .int .i64 k] w fun e w' => (∃ r : Int, e = .returned (.int .i64 r) ∧ 0 ≤ r ∧ r ≤ k + 1048576 * n) ∧ Mk lo hi w w' := by
  have HZ : Hid (Sb w lo hi g n) := h
  have hn2 : (n : Int) ≤ 1048576 := by omega
  clear h
  go_enter Tryz.func16, Tryz.ntmps16
  go_wp2_with fail
  go_loopw [1, 5] (fun q i wr => ∃ (j : Nat) (r : Int), j ≤ n ∧ i = .int .i64 j ∧ q = .int .i64 r ∧ 0 ≤ r ∧ r ≤ k + 1048576 * j ∧ Mk lo hi w wr) (fun _ i _ => n - (intOf i).toNat)
  case atStart => exact ⟨0, k, Nat.zero_le _, rfl, rfl, hk, by omega, Mk.refl _ _ _⟩
  case round =>
    obtain ⟨j, r, hj, rfl, rfl, hr0, hr1, hM⟩ := hrel
    have M0 : Hid (Mk lo hi w wr) := hM
    have R0 : Hid (0 ≤ r ∧ r ≤ k + 1048576 * j) := ⟨hr0, hr1⟩
    by_cases hlt : j < n
    · obtain ⟨b, l, c, k1, k2, k3⟩ := (HZ.out.mked hM).row j hlt
      have K2 : Hid (Mb wr lo hi 1 b l) := k2
      have K3 : Hid (l ≤ 1048576) := k3
      have hI : (j : Int) < (n : Int) := by omega
      have HL : Hid (j < n) := hlt
      clear hM hlt k2 k3 hr1
      go_wp2_with (go_at_call 17; refine (mark_mb _ _ _ _ _ _ _ K2.out R0.out.1 (by have := R0.out.2; have := K3.out; have := HL.out; omega)).mono ?_; rintro e w1 ⟨rfl, m1⟩; have M1 : Hid (Mk lo hi w w1) := M0.out.trans m1; clear m1)
      go_roundw
      case rel => exact ⟨j + 1, r + l, by have := HL.out; omega, by go_num, rfl, by have := R0.out.1; omega, by have := R0.out.2; have := K3.out; omega, M1.out⟩
      case measure => have := HL.out; simp [intOf]; omega
    · have hI : ¬ (j : Int) < (n : Int) := by omega
      obtain rfl : j = n := by omega
      clear hM
      go_wp2_with fail
      go_ret
      exact ⟨⟨r, rfl, R0.out⟩, M0.out⟩

set_option maxRecDepth 20000 in
set_option maxHeartbeats 8000000 in
theorem walk (a0 a1 a2 a3 : Option Addr) (n0 c0 n1 c1 n2 c2 n3 c3 : Nat) (P : Plc) (issa : Option Addr) (issl issc : Nat) (iss : List (List Int)) (jssa : Option Addr) (jssl jssc : Nat) (jss : List (List Int)) (gu : Int) (ima : Option Addr) (iml imc : Nat) (im : List Int) (inpa : Option Addr) (inpl inpc : Nat) (inp : List Int) (w : World) (h : Pin w a0 n0 c0 a1 n1 c1 a2 n2 c2 a3 n3 c3 P) (hiss : IsSS w issa issl issc iss) (hjss : IsSS w jssa jssl jssc jss) (wgu : (Lit.int .i64 gu).wf = true) (him : IsRow .i64 w ima iml imc im) (hinp : IsRow .i64 w inpa inpl inpc inp) (hg : w.cell? ⟨0, 0, none⟩ = some (.iface 165 (.agg #[.pointer (some ⟨1, 112, none⟩)]))) :
    Calls Tryz.prog 3 #[.agg #[.slice a0 n0 c0, .slice a1 n1 c1, .slice a2 n2 c2, .slice a3 n3 c3], .slice issa issl issc, .slice jssa jssl jssc, .int .i64 gu, .slice ima iml imc, .slice inpa inpl inpc] w fun e w' => e = .returned (.bool true) ∧ Below w.heap.size w w' := by
  generalize hW : w.alloc (.cells #[.slice a0 n0 c0, .slice a1 n1 c1, .slice a2 n2 c2, .slice a3 n3 c3] 27) = W
  have B0 : Hid (Below w.heap.size w W) := by show Below _ _ _; rw [← hW]; exact al (Below.refl _ _) _
  obtain ⟨s, hS⟩ : ∃ s, w.heap.size = s := ⟨_, rfl⟩
  have Q : Hid (Vb W s #[.slice a0 n0 c0, .slice a1 n1 c1, .slice a2 n2 c2, .slice a3 n3 c3] 27) := by show Vb _ _ _ _; rw [← hW, ← hS]; exact Vb.new _ _ _
  have HP : Hid (Pin W a0 n0 c0 a1 n1 c1 a2 n2 c2 a3 n3 c3 P) := h.stay B0.out
  have HG : Hid (W.cell? ⟨0, 0, none⟩ = some (.iface 165 (.agg #[.pointer (some ⟨1, 112, none⟩)]))) := cell_keep B0.out hg
  have HRim : Hid (IsRow .i64 W ima iml imc im) := him.stay B0.out
  have HLim : Hid (iml = im.length) := him.ln.1
  have hcim : (iml : Int) ≤ 9223372036854775807 := by have := him.ln.2; unfold maxLen at this; omega
  have HRinp : Hid (IsRow .i64 W inpa inpl inpc inp) := hinp.stay B0.out
  have HLinp : Hid (inpl = inp.length) := hinp.ln.1
  have hcinp : (inpl : Int) ≤ 9223372036854775807 := by have := hinp.ln.2; unfold maxLen at this; omega
  have HRiss : Hid (IsSS W issa issl issc iss) := hiss.stay B0.out
  have HRjss : Hid (IsSS W jssa jssl jssc jss) := hjss.stay B0.out
  clear hg h hiss hjss wgu him hinp
  by_cases hbim : (1048576 : Int) < (iml : Int)
  · go_enter Tryz.func3, Tryz.ntmps3
    go_wp2_with fail
    go_ret
    exact ⟨rfl, by first | exact B0.out | (rw [← hS]; exact B0.out)⟩
  have SMim : Hid (iml ≤ 1048576) := by show _ ≤ _; omega
  by_cases hbinp : (1048576 : Int) < (inpl : Int)
  · go_enter Tryz.func3, Tryz.ntmps3
    go_wp2_with fail
    go_ret
    exact ⟨rfl, by first | exact B0.out | (rw [← hS]; exact B0.out)⟩
  have SMinp : Hid (inpl ≤ 1048576) := by show _ ≤ _; omega
  have q0 := Q.out.cell 0 rfl
  have q1 := Q.out.cell 1 rfl
  have q2 := Q.out.cell 2 rfl
  have q3 := Q.out.cell 3 rfl
  go_enter Tryz.func3, Tryz.ntmps3
  go_wp2_with fail
  clear hW hS q0 q1 q2 q3 hbim hbinp
  refine (sz_policy _ _ _ _ _ _ _ _ _ _ _ _ P _ HP.out).mono ?_
  rintro e w1 ⟨⟨r, rfl, hr, hs⟩, b1⟩
  by_cases hneg : r < 0
  · go_wp2_with fail
    go_ret
    exact ⟨rfl, on B0.out b1⟩
  have SM : Hid (Small n0 n1 n2 n3 P) := hs (by omega)
  have B : Hid (Below W.heap.size W w1) := b1
  clear hs b1
  go_wp2_with fail
  refine (sz_ss _ _ _ _ iss _ (HRiss.out.stay B.out) (by omega) hr).mono ?_
  rintro e wz ⟨⟨r2, rfl, hr2, hs2⟩, hwz⟩
  rw [hwz]
  clear hwz wz
  by_cases hneg2 : r2 < 0
  · go_wp2_with fail
    go_ret
    exact ⟨rfl, on B0.out B.out⟩
  have SIiss : Hid (issl ≤ 1048576 ∧ ∀ i, i < issl → (iss.getD i []).length ≤ 1048576) := hs2 (by omega)
  clear hs2
  go_wp2_with fail
  refine (sz_ss _ _ _ _ jss _ (HRjss.out.stay B.out) (by omega) hr2).mono ?_
  rintro e wz ⟨⟨r3, rfl, hr3, hs2⟩, hwz⟩
  rw [hwz]
  clear hwz wz
  by_cases hneg3 : r3 < 0
  · go_wp2_with fail
    go_ret
    exact ⟨rfl, on B0.out B.out⟩
  have SIjss : Hid (jssl ≤ 1048576 ∧ ∀ i, i < jssl → (jss.getD i []).length ≤ 1048576) := hs2 (by omega)
  clear hs2
  obtain ⟨C, hC⟩ : ∃ C, twC P iss jss gu im inp = C := ⟨_, rfl⟩
  obtain ⟨BX, hX⟩ : ∃ X, twX P iss jss gu im inp = X := ⟨_, rfl⟩
  have HCX : Hid (twC P iss jss gu im inp = C ∧ twX P iss jss gu im inp = BX) := ⟨hC, hX⟩
  have SMX : Hid (Xsm BX) := by have t := tw_small P iss jss gu im inp; rw [hX] at t; exact t
  obtain ⟨e0, le0⟩ : ∃ n, BX.pol.own.length = n := ⟨_, rfl⟩
  obtain ⟨e1, le1⟩ : ∃ n, BX.pol.lanes.length = n := ⟨_, rfl⟩
  obtain ⟨e2, le2⟩ : ∃ n, BX.pol.bells.length = n := ⟨_, rfl⟩
  obtain ⟨e3, le3⟩ : ∃ n, BX.pol.plan.length = n := ⟨_, rfl⟩
  obtain ⟨e4, le4⟩ : ∃ n, BX.mem.length = n := ⟨_, rfl⟩
  obtain ⟨e5, le5⟩ : ∃ n, BX.harts.length = n := ⟨_, rfl⟩
  have LY : Hid (BX.pol.own.length = e0 ∧ BX.pol.lanes.length = e1 ∧ BX.pol.bells.length = e2 ∧ BX.pol.plan.length = e3 ∧ BX.mem.length = e4 ∧ BX.harts.length = e5) := ⟨le0, le1, le2, le3, le4, le5⟩
  clear hC hX le0 le1 le2 le3 le4 le5
  have q0 := (Q.out.keep B.out).cell 0 rfl
  have q1 := (Q.out.keep B.out).cell 1 rfl
  have q2 := (Q.out.keep B.out).cell 2 rfl
  have q3 := (Q.out.keep B.out).cell 3 rfl
  go_wp2_with fail
  clear q0 q1 q2 q3
  refine (to_policy _ _ _ _ _ _ _ _ _ _ _ _ P _ (HP.out.stay B.out) SM.out).mono ?_
  rintro e wgP ⟨g0, g1, g2, g3, rfl, mm, bb⟩
  have Mg : Hid (Mde wgP _ g0 g1 g2 g3 n0 n1 n2 n3 P) := mm
  replace B : Hid (Below W.heap.size W wgP) := on B.out bb
  clear mm bb
  go_wp2_with fail
  refine (to_ss _ _ _ _ _ (HRiss.out.stay B.out) SIiss.out.1 SIiss.out.2).mono ?_
  rintro e wgiss ⟨giss, rfl, mm, bb⟩
  have Fgiss : Hid (SSo wgiss _ giss issl iss) := mm
  replace Mg : Hid (Mde wgiss _ g0 g1 g2 g3 n0 n1 n2 n3 P) := Mg.out.keep bb
  replace B : Hid (Below W.heap.size W wgiss) := on B.out bb
  clear mm bb
  go_wp2_with fail
  refine (to_ss _ _ _ _ _ (HRjss.out.stay B.out) SIjss.out.1 SIjss.out.2).mono ?_
  rintro e wgjss ⟨gjss, rfl, mm, bb⟩
  have Fgjss : Hid (SSo wgjss _ gjss jssl jss) := mm
  replace Mg : Hid (Mde wgjss _ g0 g1 g2 g3 n0 n1 n2 n3 P) := Mg.out.keep bb
  replace Fgiss : Hid (SSo wgjss _ giss issl iss) := Fgiss.out.keep bb
  replace B : Hid (Below W.heap.size W wgjss) := on B.out bb
  clear mm bb
  go_wp2_with fail
  refine (to_nums _ _ _ _ _ (HRim.out.stay B.out) SMim.out).mono ?_
  rintro e wgim ⟨gim, rfl, mm, bb⟩
  have Fgim : Hid (Nums wgim _ (.slice (some ⟨gim, 0, none⟩) iml iml) im) := mm
  replace Mg : Hid (Mde wgim _ g0 g1 g2 g3 n0 n1 n2 n3 P) := Mg.out.keep bb
  replace Fgiss : Hid (SSo wgim _ giss issl iss) := Fgiss.out.keep bb
  replace Fgjss : Hid (SSo wgim _ gjss jssl jss) := Fgjss.out.keep bb
  replace B : Hid (Below W.heap.size W wgim) := on B.out bb
  clear mm bb
  go_wp2_with fail
  refine (to_nums _ _ _ _ _ (HRinp.out.stay B.out) SMinp.out).mono ?_
  rintro e wginp ⟨ginp, rfl, mm, bb⟩
  have Fginp : Hid (Nums wginp _ (.slice (some ⟨ginp, 0, none⟩) inpl inpl) inp) := mm
  replace Mg : Hid (Mde wginp _ g0 g1 g2 g3 n0 n1 n2 n3 P) := Mg.out.keep bb
  replace Fgiss : Hid (SSo wginp _ giss issl iss) := Fgiss.out.keep bb
  replace Fgjss : Hid (SSo wginp _ gjss jssl jss) := Fgjss.out.keep bb
  replace Fgim : Hid (Nums wginp _ (.slice (some ⟨gim, 0, none⟩) iml iml) im) := Fgim.out.keep bb
  replace B : Hid (Below W.heap.size W wginp) := on B.out bb
  clear mm bb
  go_wp2_with fail
  have CALL := s_twinHost _ _ _ _ _ _ _ _ _ _ _ _ P _ _ _ iss _ _ _ jss gu _ _ _ im _ _ _ inp _ _ _ _ _ Mg.out.pl SM.out Fgiss.out.swn Fgjss.out.swn Fgim.out Fginp.out SIiss.out.1 SIjss.out.1 (fun _ => ⟨_, rfl⟩)
  rw [HCX.out.1, HCX.out.2] at CALL
  refine CALL.mono ?_
  clear CALL
  rintro e w3 ⟨_, _, _, _, _, _, rfl, sp, b3⟩
  have hq := sp
  obtain ⟨ya0, yk0, f0, _⟩ := hq.own.shape
  obtain ⟨ya1, yk1, f1, _⟩ := hq.lanes.shape
  obtain ⟨ya2, yk2, f2, _⟩ := hq.bells.shape
  obtain ⟨ya3, yk3, f3, _⟩ := hq.plan.shape
  obtain ⟨ya4, yk4, f4, _⟩ := hq.mem
  obtain ⟨ya5, yk5, f5, _⟩ := hq.harts.shape
  clear hq
  subst f0 f1 f2 f3 f4 f5
  rw [LY.out.1, LY.out.2.1, LY.out.2.2.1, LY.out.2.2.2.1, LY.out.2.2.2.2.1, LY.out.2.2.2.2.2] at sp ⊢
  have Y : Hid (Vb (w3.alloc (.cells #[.int .i64 C, .slice ya0 e0 yk0, .slice ya1 e1 yk1, .slice ya2 e2 yk2, .slice ya3 e3 yk3, .slice ya4 e4 yk4, .slice ya5 e5 yk5, .int .i64 BX.slot, .int .i64 BX.left, .int .i64 BX.clock] 40)) w3.heap.size #[.int .i64 C, .slice ya0 e0 yk0, .slice ya1 e1 yk1, .slice ya2 e2 yk2, .slice ya3 e3 yk3, .slice ya4 e4 yk4, .slice ya5 e5 yk5, .int .i64 BX.slot, .int .i64 BX.left, .int .i64 BX.clock] 40) := Vb.new _ _ _
  have N : Hid (Hq (w3.alloc (.cells #[.int .i64 C, .slice ya0 e0 yk0, .slice ya1 e1 yk1, .slice ya2 e2 yk2, .slice ya3 e3 yk3, .slice ya4 e4 yk4, .slice ya5 e5 yk5, .int .i64 BX.slot, .int .i64 BX.left, .int .i64 BX.clock] 40)) _ (.slice ya0 e0 yk0) (.slice ya1 e1 yk1) (.slice ya2 e2 yk2) (.slice ya3 e3 yk3) (.slice ya4 e4 yk4) (.slice ya5 e5 yk5) BX) := sp.keep (al (Below.refl _ _) _)
  have Z3 : Hid (w3.heap.size + 1 = (w3.alloc (.cells #[.int .i64 C, .slice ya0 e0 yk0, .slice ya1 e1 yk1, .slice ya2 e2 yk2, .slice ya3 e3 yk3, .slice ya4 e4 yk4, .slice ya5 e5 yk5, .int .i64 BX.slot, .int .i64 BX.left, .int .i64 BX.clock] 40)).heap.size) := by show _ = _; simp
  have q3' : Hid (Vb w3 s #[.slice a0 n0 c0, .slice a1 n1 c1, .slice a2 n2 c2, .slice a3 n3 c3] 27) := Q.out.keep (on B.out b3)
  replace B : Hid (Below W.heap.size W (w3.alloc (.cells #[.int .i64 C, .slice ya0 e0 yk0, .slice ya1 e1 yk1, .slice ya2 e2 yk2, .slice ya3 e3 yk3, .slice ya4 e4 yk4, .slice ya5 e5 yk5, .int .i64 BX.slot, .int .i64 BX.left, .int .i64 BX.clock] 40))) := al (on B.out b3) _
  clear sp b3 Mg Fgiss Fgjss Fgim Fginp
  have q0 := q3'.out.cell 0 rfl
  have q1 := q3'.out.cell 1 rfl
  have q2 := q3'.out.cell 2 rfl
  have q3 := q3'.out.cell 3 rfl
  have ls3 : s < w3.heap.size := q3'.out.lt
  go_wp2_with fail
  have Bw3 : Hid (W.heap.size ≤ (w3.alloc (.cells #[.int .i64 C, .slice ya0 e0 yk0, .slice ya1 e1 yk1, .slice ya2 e2 yk2, .slice ya3 e3 yk3, .slice ya4 e4 yk4, .slice ya5 e5 yk5, .int .i64 BX.slot, .int .i64 BX.left, .int .i64 BX.clock] 40)).heap.size) := B.out.size
  generalize (w3.alloc (.cells #[.int .i64 C, .slice ya0 e0 yk0, .slice ya1 e1 yk1, .slice ya2 e2 yk2, .slice ya3 e3 yk3, .slice ya4 e4 yk4, .slice ya5 e5 yk5, .int .i64 BX.slot, .int .i64 BX.left, .int .i64 BX.clock] 40)) = W3 at *
  generalize w3.heap.size = s3 at *
  clear q0 q1 q2 q3 ls3 q3'
  have D3 : Hid (Below W3.heap.size W3 W3) := Below.refl _ _
  refine (to_policy _ _ _ _ _ _ _ _ _ _ _ _ P _ (HP.out.stay B.out) SM.out).mono ?_
  rintro e w4 ⟨k0, k1, k2, k3, rfl, m4, b4⟩
  have M4 : Hid (Mde w4 W3.heap.size k0 k1 k2 k3 n0 n1 n2 n3 P) := m4
  have b4' : Below W3.heap.size W3 (w4.alloc (.cells #[.slice (some ⟨k0, 0, none⟩) n0 n0, .slice (some ⟨k1, 0, none⟩) n1 n1, .slice (some ⟨k2, 0, none⟩) n2 n2, .slice (some ⟨k3, 0, none⟩) n3 n3] 35)) := al b4 _
  have D4 : Hid (Below w4.heap.size w4 (w4.alloc (.cells #[.slice (some ⟨k0, 0, none⟩) n0 n0, .slice (some ⟨k1, 0, none⟩) n1 n1, .slice (some ⟨k2, 0, none⟩) n2 n2, .slice (some ⟨k3, 0, none⟩) n3 n3] 35))) := al (Below.refl _ _) _
  have X : Hid (Vb (w4.alloc (.cells #[.slice (some ⟨k0, 0, none⟩) n0 n0, .slice (some ⟨k1, 0, none⟩) n1 n1, .slice (some ⟨k2, 0, none⟩) n2 n2, .slice (some ⟨k3, 0, none⟩) n3 n3] 35)) w4.heap.size #[.slice (some ⟨k0, 0, none⟩) n0 n0, .slice (some ⟨k1, 0, none⟩) n1 n1, .slice (some ⟨k2, 0, none⟩) n2 n2, .slice (some ⟨k3, 0, none⟩) n3 n3] 35) := Vb.new _ _ _
  have Z4 : Hid (W3.heap.size ≤ w4.heap.size ∧ w4.heap.size + 1 = (w4.alloc (.cells #[.slice (some ⟨k0, 0, none⟩) n0 n0, .slice (some ⟨k1, 0, none⟩) n1 n1, .slice (some ⟨k2, 0, none⟩) n2 n2, .slice (some ⟨k3, 0, none⟩) n3 n3] 35)).heap.size) := ⟨b4.size, by simp⟩
  replace B : Hid (Below W.heap.size W (w4.alloc (.cells #[.slice (some ⟨k0, 0, none⟩) n0 n0, .slice (some ⟨k1, 0, none⟩) n1 n1, .slice (some ⟨k2, 0, none⟩) n2 n2, .slice (some ⟨k3, 0, none⟩) n3 n3] 35))) := on B.out b4'
  replace Y : Hid (Vb (w4.alloc (.cells #[.slice (some ⟨k0, 0, none⟩) n0 n0, .slice (some ⟨k1, 0, none⟩) n1 n1, .slice (some ⟨k2, 0, none⟩) n2 n2, .slice (some ⟨k3, 0, none⟩) n3 n3] 35)) s3 #[.int .i64 C, .slice ya0 e0 yk0, .slice ya1 e1 yk1, .slice ya2 e2 yk2, .slice ya3 e3 yk3, .slice ya4 e4 yk4, .slice ya5 e5 yk5, .int .i64 BX.slot, .int .i64 BX.left, .int .i64 BX.clock] 40) := Y.out.keep b4'
  replace D3 : Hid (Below W3.heap.size W3 (w4.alloc (.cells #[.slice (some ⟨k0, 0, none⟩) n0 n0, .slice (some ⟨k1, 0, none⟩) n1 n1, .slice (some ⟨k2, 0, none⟩) n2 n2, .slice (some ⟨k3, 0, none⟩) n3 n3] 35))) := on D3.out b4'
  clear m4 b4 b4'
  go_wp2_with fail
  generalize (w4.alloc (.cells #[.slice (some ⟨k0, 0, none⟩) n0 n0, .slice (some ⟨k1, 0, none⟩) n1 n1, .slice (some ⟨k2, 0, none⟩) n2 n2, .slice (some ⟨k3, 0, none⟩) n3 n3] 35)) = W4 at *
  obtain ⟨s4, hs4⟩ : ∃ s4, w4.heap.size = s4 := ⟨_, rfl⟩
  replace X : Hid (Vb W4 s4 #[.slice (some ⟨k0, 0, none⟩) n0 n0, .slice (some ⟨k1, 0, none⟩) n1 n1, .slice (some ⟨k2, 0, none⟩) n2 n2, .slice (some ⟨k3, 0, none⟩) n3 n3] 35) := by show Vb _ _ _ _; rw [← hs4]; exact X.out
  have S4 : Hid (w4.heap.size = s4) := hs4
  rw [hs4]
  clear hs4
  refine (to_ss _ _ _ _ _ (HRiss.out.stay B.out) SIiss.out.1 SIiss.out.2).mono ?_
  rintro e xissw ⟨xiss, rfl, mm, bb⟩
  have Jiss : Hid (SSo xissw W4.heap.size xiss issl iss) := mm
  have Zxiss : Hid (W4.heap.size ≤ xissw.heap.size) := bb.size
  replace B : Hid (Below W.heap.size W xissw) := on B.out bb
  replace Y : Hid (Vb xissw s3 #[.int .i64 C, .slice ya0 e0 yk0, .slice ya1 e1 yk1, .slice ya2 e2 yk2, .slice ya3 e3 yk3, .slice ya4 e4 yk4, .slice ya5 e5 yk5, .int .i64 BX.slot, .int .i64 BX.left, .int .i64 BX.clock] 40) := Y.out.keep bb
  replace D3 : Hid (Below W3.heap.size W3 xissw) := on D3.out bb
  replace X : Hid (Vb xissw s4 #[.slice (some ⟨k0, 0, none⟩) n0 n0, .slice (some ⟨k1, 0, none⟩) n1 n1, .slice (some ⟨k2, 0, none⟩) n2 n2, .slice (some ⟨k3, 0, none⟩) n3 n3] 35) := X.out.keep bb
  replace D4 : Hid (Below w4.heap.size w4 xissw) := on D4.out bb
  have Diss : Hid (Below xissw.heap.size xissw xissw) := Below.refl _ _
  clear mm bb
  go_wp2_with fail
  refine (to_ss _ _ _ _ _ (HRjss.out.stay B.out) SIjss.out.1 SIjss.out.2).mono ?_
  rintro e xjssw ⟨xjss, rfl, mm, bb⟩
  have Jjss : Hid (SSo xjssw xissw.heap.size xjss jssl jss) := mm
  have Zxjss : Hid (xissw.heap.size ≤ xjssw.heap.size) := bb.size
  replace B : Hid (Below W.heap.size W xjssw) := on B.out bb
  replace Y : Hid (Vb xjssw s3 #[.int .i64 C, .slice ya0 e0 yk0, .slice ya1 e1 yk1, .slice ya2 e2 yk2, .slice ya3 e3 yk3, .slice ya4 e4 yk4, .slice ya5 e5 yk5, .int .i64 BX.slot, .int .i64 BX.left, .int .i64 BX.clock] 40) := Y.out.keep bb
  replace D3 : Hid (Below W3.heap.size W3 xjssw) := on D3.out bb
  replace X : Hid (Vb xjssw s4 #[.slice (some ⟨k0, 0, none⟩) n0 n0, .slice (some ⟨k1, 0, none⟩) n1 n1, .slice (some ⟨k2, 0, none⟩) n2 n2, .slice (some ⟨k3, 0, none⟩) n3 n3] 35) := X.out.keep bb
  replace D4 : Hid (Below w4.heap.size w4 xjssw) := on D4.out bb
  replace Diss : Hid (Below xissw.heap.size xissw xjssw) := on Diss.out bb
  have Djss : Hid (Below xjssw.heap.size xjssw xjssw) := Below.refl _ _
  clear mm bb
  go_wp2_with fail
  refine (to_nums _ _ _ _ _ (HRim.out.stay B.out) SMim.out).mono ?_
  rintro e ximw ⟨xim, rfl, mm, bb⟩
  have Jim : Hid (Nums ximw xjssw.heap.size (.slice (some ⟨xim, 0, none⟩) iml iml) im) := mm
  have Zxim : Hid (xjssw.heap.size ≤ ximw.heap.size) := bb.size
  replace B : Hid (Below W.heap.size W ximw) := on B.out bb
  replace Y : Hid (Vb ximw s3 #[.int .i64 C, .slice ya0 e0 yk0, .slice ya1 e1 yk1, .slice ya2 e2 yk2, .slice ya3 e3 yk3, .slice ya4 e4 yk4, .slice ya5 e5 yk5, .int .i64 BX.slot, .int .i64 BX.left, .int .i64 BX.clock] 40) := Y.out.keep bb
  replace D3 : Hid (Below W3.heap.size W3 ximw) := on D3.out bb
  replace X : Hid (Vb ximw s4 #[.slice (some ⟨k0, 0, none⟩) n0 n0, .slice (some ⟨k1, 0, none⟩) n1 n1, .slice (some ⟨k2, 0, none⟩) n2 n2, .slice (some ⟨k3, 0, none⟩) n3 n3] 35) := X.out.keep bb
  replace D4 : Hid (Below w4.heap.size w4 ximw) := on D4.out bb
  replace Diss : Hid (Below xissw.heap.size xissw ximw) := on Diss.out bb
  replace Djss : Hid (Below xjssw.heap.size xjssw ximw) := on Djss.out bb
  have Dim : Hid (Below ximw.heap.size ximw ximw) := Below.refl _ _
  clear mm bb
  go_wp2_with fail
  refine (to_nums _ _ _ _ _ (HRinp.out.stay B.out) SMinp.out).mono ?_
  rintro e xinpw ⟨xinp, rfl, mm, bb⟩
  have Jinp : Hid (Nums xinpw ximw.heap.size (.slice (some ⟨xinp, 0, none⟩) inpl inpl) inp) := mm
  have Zxinp : Hid (ximw.heap.size ≤ xinpw.heap.size) := bb.size
  replace B : Hid (Below W.heap.size W xinpw) := on B.out bb
  replace Y : Hid (Vb xinpw s3 #[.int .i64 C, .slice ya0 e0 yk0, .slice ya1 e1 yk1, .slice ya2 e2 yk2, .slice ya3 e3 yk3, .slice ya4 e4 yk4, .slice ya5 e5 yk5, .int .i64 BX.slot, .int .i64 BX.left, .int .i64 BX.clock] 40) := Y.out.keep bb
  replace D3 : Hid (Below W3.heap.size W3 xinpw) := on D3.out bb
  replace X : Hid (Vb xinpw s4 #[.slice (some ⟨k0, 0, none⟩) n0 n0, .slice (some ⟨k1, 0, none⟩) n1 n1, .slice (some ⟨k2, 0, none⟩) n2 n2, .slice (some ⟨k3, 0, none⟩) n3 n3] 35) := X.out.keep bb
  replace D4 : Hid (Below w4.heap.size w4 xinpw) := on D4.out bb
  replace Diss : Hid (Below xissw.heap.size xissw xinpw) := on Diss.out bb
  replace Djss : Hid (Below xjssw.heap.size xjssw xinpw) := on Djss.out bb
  replace Dim : Hid (Below ximw.heap.size ximw xinpw) := on Dim.out bb
  have Dinp : Hid (Below xinpw.heap.size xinpw xinpw) := Below.refl _ _
  clear mm bb
  have x0 := X.out.cell 0 rfl
  have x1 := X.out.cell 1 rfl
  have x2 := X.out.cell 2 rfl
  have x3 := X.out.cell 3 rfl
  go_wp2_with fail
  clear x0 x1 x2 x3
  have CALL := i_twinHost _ _ _ _ _ _ _ _ _ _ _ _ P _ _ _ iss _ _ _ jss gu _ _ _ im _ _ _ inp _ _ _ _ _ (M4.out.keep D4.out).pl SM.out (Jiss.out.keep Diss.out).swn (Jjss.out.keep Djss.out).swn (Jim.out.keep Dim.out) (Jinp.out.keep Dinp.out) SIiss.out.1 SIjss.out.1 (cell_keep B.out HG.out)
  rw [HCX.out.1, HCX.out.2] at CALL
  refine CALL.mono ?_
  clear CALL
  rintro e w5 ⟨_, _, _, _, _, _, rfl, sp, b5⟩
  have hq := owe_hq sp
  obtain ⟨za0, zk0, f0, _⟩ := hq.own.shape
  obtain ⟨za1, zk1, f1, _⟩ := hq.lanes.shape
  obtain ⟨za2, zk2, f2, _⟩ := hq.bells.shape
  obtain ⟨za3, zk3, f3, _⟩ := hq.plan.shape
  obtain ⟨za4, zk4, f4, _⟩ := hq.mem
  obtain ⟨za5, zk5, f5, _⟩ := hq.harts.shape
  clear hq
  subst f0 f1 f2 f3 f4 f5
  rw [LY.out.1, LY.out.2.1, LY.out.2.2.1, LY.out.2.2.2.1, LY.out.2.2.2.2.1, LY.out.2.2.2.2.2] at sp ⊢
  have WN : Hid (Below w5.heap.size w5 (w5.alloc (.cells #[.int .i64 C, .slice za0 e0 zk0, .slice za1 e1 zk1, .slice za2 e2 zk2, .slice za3 e3 zk3, .slice za4 e4 zk4, .slice za5 e5 zk5, .int .i64 BX.slot, .int .i64 BX.left, .int .i64 BX.clock] 40))) := al (Below.refl _ _) _
  have G5 : Hid (Vb (w5.alloc (.cells #[.int .i64 C, .slice za0 e0 zk0, .slice za1 e1 zk1, .slice za2 e2 zk2, .slice za3 e3 zk3, .slice za4 e4 zk4, .slice za5 e5 zk5, .int .i64 BX.slot, .int .i64 BX.left, .int .i64 BX.clock] 40)) w5.heap.size #[.int .i64 C, .slice za0 e0 zk0, .slice za1 e1 zk1, .slice za2 e2 zk2, .slice za3 e3 zk3, .slice za4 e4 zk4, .slice za5 e5 zk5, .int .i64 BX.slot, .int .i64 BX.left, .int .i64 BX.clock] 40) := Vb.new _ _ _
  have O : Hid (OwE (w5.alloc (.cells #[.int .i64 C, .slice za0 e0 zk0, .slice za1 e1 zk1, .slice za2 e2 zk2, .slice za3 e3 zk3, .slice za4 e4 zk4, .slice za5 e5 zk5, .int .i64 BX.slot, .int .i64 BX.left, .int .i64 BX.clock] 40)) xinpw.heap.size (.slice za0 e0 zk0) (.slice za1 e1 zk1) (.slice za2 e2 zk2) (.slice za3 e3 zk3) (.slice za4 e4 zk4) (.slice za5 e5 zk5) BX) := sp.keep WN.out
  have Z5 : Hid (xinpw.heap.size ≤ w5.heap.size) := b5.size
  have yb : Hid (Vb w5 s3 #[.int .i64 C, .slice ya0 e0 yk0, .slice ya1 e1 yk1, .slice ya2 e2 yk2, .slice ya3 e3 yk3, .slice ya4 e4 yk4, .slice ya5 e5 yk5, .int .i64 BX.slot, .int .i64 BX.left, .int .i64 BX.clock] 40) := Y.out.keep b5
  have b5' : Below xinpw.heap.size xinpw (w5.alloc (.cells #[.int .i64 C, .slice za0 e0 zk0, .slice za1 e1 zk1, .slice za2 e2 zk2, .slice za3 e3 zk3, .slice za4 e4 zk4, .slice za5 e5 zk5, .int .i64 BX.slot, .int .i64 BX.left, .int .i64 BX.clock] 40)) := al b5 _
  replace B : Hid (Below W.heap.size W (w5.alloc (.cells #[.int .i64 C, .slice za0 e0 zk0, .slice za1 e1 zk1, .slice za2 e2 zk2, .slice za3 e3 zk3, .slice za4 e4 zk4, .slice za5 e5 zk5, .int .i64 BX.slot, .int .i64 BX.left, .int .i64 BX.clock] 40))) := on B.out b5'
  replace Y : Hid (Vb (w5.alloc (.cells #[.int .i64 C, .slice za0 e0 zk0, .slice za1 e1 zk1, .slice za2 e2 zk2, .slice za3 e3 zk3, .slice za4 e4 zk4, .slice za5 e5 zk5, .int .i64 BX.slot, .int .i64 BX.left, .int .i64 BX.clock] 40)) s3 #[.int .i64 C, .slice ya0 e0 yk0, .slice ya1 e1 yk1, .slice ya2 e2 yk2, .slice ya3 e3 yk3, .slice ya4 e4 yk4, .slice ya5 e5 yk5, .int .i64 BX.slot, .int .i64 BX.left, .int .i64 BX.clock] 40) := Y.out.keep b5'
  replace D3 : Hid (Below W3.heap.size W3 (w5.alloc (.cells #[.int .i64 C, .slice za0 e0 zk0, .slice za1 e1 zk1, .slice za2 e2 zk2, .slice za3 e3 zk3, .slice za4 e4 zk4, .slice za5 e5 zk5, .int .i64 BX.slot, .int .i64 BX.left, .int .i64 BX.clock] 40))) := on D3.out b5'
  replace X : Hid (Vb (w5.alloc (.cells #[.int .i64 C, .slice za0 e0 zk0, .slice za1 e1 zk1, .slice za2 e2 zk2, .slice za3 e3 zk3, .slice za4 e4 zk4, .slice za5 e5 zk5, .int .i64 BX.slot, .int .i64 BX.left, .int .i64 BX.clock] 40)) s4 #[.slice (some ⟨k0, 0, none⟩) n0 n0, .slice (some ⟨k1, 0, none⟩) n1 n1, .slice (some ⟨k2, 0, none⟩) n2 n2, .slice (some ⟨k3, 0, none⟩) n3 n3] 35) := X.out.keep b5'
  replace D4 : Hid (Below w4.heap.size w4 (w5.alloc (.cells #[.int .i64 C, .slice za0 e0 zk0, .slice za1 e1 zk1, .slice za2 e2 zk2, .slice za3 e3 zk3, .slice za4 e4 zk4, .slice za5 e5 zk5, .int .i64 BX.slot, .int .i64 BX.left, .int .i64 BX.clock] 40))) := on D4.out b5'
  replace Diss : Hid (Below xissw.heap.size xissw (w5.alloc (.cells #[.int .i64 C, .slice za0 e0 zk0, .slice za1 e1 zk1, .slice za2 e2 zk2, .slice za3 e3 zk3, .slice za4 e4 zk4, .slice za5 e5 zk5, .int .i64 BX.slot, .int .i64 BX.left, .int .i64 BX.clock] 40))) := on Diss.out b5'
  replace Djss : Hid (Below xjssw.heap.size xjssw (w5.alloc (.cells #[.int .i64 C, .slice za0 e0 zk0, .slice za1 e1 zk1, .slice za2 e2 zk2, .slice za3 e3 zk3, .slice za4 e4 zk4, .slice za5 e5 zk5, .int .i64 BX.slot, .int .i64 BX.left, .int .i64 BX.clock] 40))) := on Djss.out b5'
  replace Dim : Hid (Below ximw.heap.size ximw (w5.alloc (.cells #[.int .i64 C, .slice za0 e0 zk0, .slice za1 e1 zk1, .slice za2 e2 zk2, .slice za3 e3 zk3, .slice za4 e4 zk4, .slice za5 e5 zk5, .int .i64 BX.slot, .int .i64 BX.left, .int .i64 BX.clock] 40))) := on Dim.out b5'
  replace Dinp : Hid (Below xinpw.heap.size xinpw (w5.alloc (.cells #[.int .i64 C, .slice za0 e0 zk0, .slice za1 e1 zk1, .slice za2 e2 zk2, .slice za3 e3 zk3, .slice za4 e4 zk4, .slice za5 e5 zk5, .int .i64 BX.slot, .int .i64 BX.left, .int .i64 BX.clock] 40))) := on Dinp.out b5'
  have y0 := yb.out.cell 0 rfl
  have y1 := yb.out.cell 1 rfl
  have y2 := yb.out.cell 2 rfl
  have y3 := yb.out.cell 3 rfl
  have y4 := yb.out.cell 4 rfl
  have y5 := yb.out.cell 5 rfl
  have y6 := yb.out.cell 6 rfl
  have y7 := yb.out.cell 7 rfl
  have y8 := yb.out.cell 8 rfl
  have y9 := yb.out.cell 9 rfl
  have ly : s3 < w5.heap.size := yb.out.lt
  clear sp b5 b5' WN
  go_wp2_with fail
  generalize (w5.alloc (.cells #[.int .i64 C, .slice za0 e0 zk0, .slice za1 e1 zk1, .slice za2 e2 zk2, .slice za3 e3 zk3, .slice za4 e4 zk4, .slice za5 e5 zk5, .int .i64 BX.slot, .int .i64 BX.left, .int .i64 BX.clock] 40)) = W5 at *
  generalize w5.heap.size = s5 at *
  clear y0 y1 y2 y3 y4 y5 y6 y7 y8 y9 ly yb
  refine (eq_hostRQ _ _ _ _ _ _ _ _ _ _ _ _ _ BX _ _ _ (owe_hq O.out) (N.out.keep D3.out)).mono ?_
  rintro e w6 ⟨rfl, bb⟩
  replace B : Hid (Below W.heap.size W w6) := on B.out bb
  replace Y : Hid (Vb w6 s3 #[.int .i64 C, .slice ya0 e0 yk0, .slice ya1 e1 yk1, .slice ya2 e2 yk2, .slice ya3 e3 yk3, .slice ya4 e4 yk4, .slice ya5 e5 yk5, .int .i64 BX.slot, .int .i64 BX.left, .int .i64 BX.clock] 40) := Y.out.keep bb
  replace D3 : Hid (Below W3.heap.size W3 w6) := on D3.out bb
  replace X : Hid (Vb w6 s4 #[.slice (some ⟨k0, 0, none⟩) n0 n0, .slice (some ⟨k1, 0, none⟩) n1 n1, .slice (some ⟨k2, 0, none⟩) n2 n2, .slice (some ⟨k3, 0, none⟩) n3 n3] 35) := X.out.keep bb
  replace D4 : Hid (Below w4.heap.size w4 w6) := on D4.out bb
  replace Diss : Hid (Below xissw.heap.size xissw w6) := on Diss.out bb
  replace Djss : Hid (Below xjssw.heap.size xjssw w6) := on Djss.out bb
  replace Dim : Hid (Below ximw.heap.size ximw w6) := on Dim.out bb
  replace Dinp : Hid (Below xinpw.heap.size xinpw w6) := on Dinp.out bb
  replace G5 : Hid (Vb w6 s5 #[.int .i64 C, .slice za0 e0 zk0, .slice za1 e1 zk1, .slice za2 e2 zk2, .slice za3 e3 zk3, .slice za4 e4 zk4, .slice za5 e5 zk5, .int .i64 BX.slot, .int .i64 BX.left, .int .i64 BX.clock] 40) := G5.out.keep bb
  replace O : Hid (OwE w6 xinpw.heap.size (.slice za0 e0 zk0) (.slice za1 e1 zk1) (.slice za2 e2 zk2) (.slice za3 e3 zk3) (.slice za4 e4 zk4) (.slice za5 e5 zk5) BX) := O.out.keep bb
  clear bb
  have q0 := (Q.out.keep B.out).cell 0 rfl
  have q1 := (Q.out.keep B.out).cell 1 rfl
  have q2 := (Q.out.keep B.out).cell 2 rfl
  have q3 := (Q.out.keep B.out).cell 3 rfl
  have x0 := X.out.cell 0 rfl
  have x1 := X.out.cell 1 rfl
  have x2 := X.out.cell 2 rfl
  have x3 := X.out.cell 3 rfl
  have M5 : Hid (Mde w6 _ k0 k1 k2 k3 n0 n1 n2 n3 P) := M4.out.keep D4.out
  go_wp2_with fail
  go_cut [83] from 79 to 83 (fun c wx => c = .bool false ∧ Below w6.heap.size w6 wx)
  case first =>
    go_region_with (first
      | (go_at_call 7; refine (to_policy _ _ _ _ _ _ _ _ _ _ _ _ P _ (HP.out.stay (by first | exact B.out | exact B.out.drew | exact B.out.drew.drew | exact B.out.drew.drew.drew)) SM.out).mono ?_; rintro e w8 ⟨h0, h1, h2, h3, rfl, m8, b8⟩; have E8 : Hid (Below w6.heap.size w6 w8) := (by first | exact b8 | exact on (Below.refl _ _).drew b8 | exact on (Below.refl _ _).drew.drew b8 | exact on (Below.refl _ _).drew.drew.drew b8); have x0 := cell_keep b8 x0; have x1 := cell_keep b8 x1; have x2 := cell_keep b8 x2; have x3 := cell_keep b8 x3; (first | have N8 := M5.out.keep b8 | have N8 := (M5.out.keep (Below.refl _ _).drew).keep b8 | have N8 := (M5.out.keep (Below.refl _ _).drew.drew).keep b8 | have N8 := (M5.out.keep (Below.refl _ _).drew.drew.drew).keep b8); clear b8)
      | (go_at_call 12; refine (eq_policy _ _ _ _ _ _ _ _ _ _ _ _ P _ _ _ (by first | exact N8 | exact N8.keep (Below.refl _ _).drew | exact N8.keep (Below.refl _ _).drew.drew) (by first | exact m8 | exact m8.keep (Below.refl _ _).drew | exact m8.keep (Below.refl _ _).drew.drew)).mono ?_; rintro e w7 ⟨rfl, b7⟩; (first | have E7 : Hid (Below w6.heap.size w6 w7) := on E8.out b7 | have E7 : Hid (Below w6.heap.size w6 w7) := on E8.out.drew b7 | have E7 : Hid (Below w6.heap.size w6 w7) := on E8.out.drew.drew b7); clear b7))
    all_goals (go_wp2_with fail; go_meet; exact ⟨rfl, by first | exact E7.out | exact E7.out.drew⟩)
  case rest =>
  obtain ⟨rfl, bb⟩ := hcut
  clear q0 q1 q2 q3 x0 x1 x2 x3 M5
  replace B : Hid (Below W.heap.size W wc) := on B.out bb
  replace Y : Hid (Vb wc s3 #[.int .i64 C, .slice ya0 e0 yk0, .slice ya1 e1 yk1, .slice ya2 e2 yk2, .slice ya3 e3 yk3, .slice ya4 e4 yk4, .slice ya5 e5 yk5, .int .i64 BX.slot, .int .i64 BX.left, .int .i64 BX.clock] 40) := Y.out.keep bb
  replace D3 : Hid (Below W3.heap.size W3 wc) := on D3.out bb
  replace X : Hid (Vb wc s4 #[.slice (some ⟨k0, 0, none⟩) n0 n0, .slice (some ⟨k1, 0, none⟩) n1 n1, .slice (some ⟨k2, 0, none⟩) n2 n2, .slice (some ⟨k3, 0, none⟩) n3 n3] 35) := X.out.keep bb
  replace D4 : Hid (Below w4.heap.size w4 wc) := on D4.out bb
  replace Diss : Hid (Below xissw.heap.size xissw wc) := on Diss.out bb
  replace Djss : Hid (Below xjssw.heap.size xjssw wc) := on Djss.out bb
  replace Dim : Hid (Below ximw.heap.size ximw wc) := on Dim.out bb
  replace Dinp : Hid (Below xinpw.heap.size xinpw wc) := on Dinp.out bb
  replace G5 : Hid (Vb wc s5 #[.int .i64 C, .slice za0 e0 zk0, .slice za1 e1 zk1, .slice za2 e2 zk2, .slice za3 e3 zk3, .slice za4 e4 zk4, .slice za5 e5 zk5, .int .i64 BX.slot, .int .i64 BX.left, .int .i64 BX.clock] 40) := G5.out.keep bb
  replace O : Hid (OwE wc xinpw.heap.size (.slice za0 e0 zk0) (.slice za1 e1 zk1) (.slice za2 e2 zk2) (.slice za3 e3 zk3) (.slice za4 e4 zk4) (.slice za5 e5 zk5) BX) := O.out.keep bb
  clear bb
  go_wp2_with fail
  refine (to_ss _ _ _ _ _ (HRiss.out.stay B.out) SIiss.out.1 SIiss.out.2).mono ?_
  rintro e dissw ⟨diss, rfl, mm, bb⟩
  have JN : Hid (SSo dissw _ diss issl iss) := mm
  replace B : Hid (Below W.heap.size W dissw) := on B.out bb
  replace Y : Hid (Vb dissw s3 #[.int .i64 C, .slice ya0 e0 yk0, .slice ya1 e1 yk1, .slice ya2 e2 yk2, .slice ya3 e3 yk3, .slice ya4 e4 yk4, .slice ya5 e5 yk5, .int .i64 BX.slot, .int .i64 BX.left, .int .i64 BX.clock] 40) := Y.out.keep bb
  replace D3 : Hid (Below W3.heap.size W3 dissw) := on D3.out bb
  replace X : Hid (Vb dissw s4 #[.slice (some ⟨k0, 0, none⟩) n0 n0, .slice (some ⟨k1, 0, none⟩) n1 n1, .slice (some ⟨k2, 0, none⟩) n2 n2, .slice (some ⟨k3, 0, none⟩) n3 n3] 35) := X.out.keep bb
  replace D4 : Hid (Below w4.heap.size w4 dissw) := on D4.out bb
  replace Diss : Hid (Below xissw.heap.size xissw dissw) := on Diss.out bb
  replace Djss : Hid (Below xjssw.heap.size xjssw dissw) := on Djss.out bb
  replace Dim : Hid (Below ximw.heap.size ximw dissw) := on Dim.out bb
  replace Dinp : Hid (Below xinpw.heap.size xinpw dissw) := on Dinp.out bb
  replace G5 : Hid (Vb dissw s5 #[.int .i64 C, .slice za0 e0 zk0, .slice za1 e1 zk1, .slice za2 e2 zk2, .slice za3 e3 zk3, .slice za4 e4 zk4, .slice za5 e5 zk5, .int .i64 BX.slot, .int .i64 BX.left, .int .i64 BX.clock] 40) := G5.out.keep bb
  replace O : Hid (OwE dissw xinpw.heap.size (.slice za0 e0 zk0) (.slice za1 e1 zk1) (.slice za2 e2 zk2) (.slice za3 e3 zk3) (.slice za4 e4 zk4) (.slice za5 e5 zk5) BX) := O.out.keep bb
  clear mm bb
  go_wp2_with fail
  refine (eq_ss _ _ _ _ _ _ _ (Jiss.out.keep Diss.out) JN.out).mono ?_
  rintro e eissw ⟨rfl, bb⟩
  replace B : Hid (Below W.heap.size W eissw) := on B.out bb
  replace Y : Hid (Vb eissw s3 #[.int .i64 C, .slice ya0 e0 yk0, .slice ya1 e1 yk1, .slice ya2 e2 yk2, .slice ya3 e3 yk3, .slice ya4 e4 yk4, .slice ya5 e5 yk5, .int .i64 BX.slot, .int .i64 BX.left, .int .i64 BX.clock] 40) := Y.out.keep bb
  replace D3 : Hid (Below W3.heap.size W3 eissw) := on D3.out bb
  replace X : Hid (Vb eissw s4 #[.slice (some ⟨k0, 0, none⟩) n0 n0, .slice (some ⟨k1, 0, none⟩) n1 n1, .slice (some ⟨k2, 0, none⟩) n2 n2, .slice (some ⟨k3, 0, none⟩) n3 n3] 35) := X.out.keep bb
  replace D4 : Hid (Below w4.heap.size w4 eissw) := on D4.out bb
  replace Diss : Hid (Below xissw.heap.size xissw eissw) := on Diss.out bb
  replace Djss : Hid (Below xjssw.heap.size xjssw eissw) := on Djss.out bb
  replace Dim : Hid (Below ximw.heap.size ximw eissw) := on Dim.out bb
  replace Dinp : Hid (Below xinpw.heap.size xinpw eissw) := on Dinp.out bb
  replace G5 : Hid (Vb eissw s5 #[.int .i64 C, .slice za0 e0 zk0, .slice za1 e1 zk1, .slice za2 e2 zk2, .slice za3 e3 zk3, .slice za4 e4 zk4, .slice za5 e5 zk5, .int .i64 BX.slot, .int .i64 BX.left, .int .i64 BX.clock] 40) := G5.out.keep bb
  replace O : Hid (OwE eissw xinpw.heap.size (.slice za0 e0 zk0) (.slice za1 e1 zk1) (.slice za2 e2 zk2) (.slice za3 e3 zk3) (.slice za4 e4 zk4) (.slice za5 e5 zk5) BX) := O.out.keep bb
  clear bb JN
  go_wp2_with fail
  refine (to_ss _ _ _ _ _ (HRjss.out.stay B.out) SIjss.out.1 SIjss.out.2).mono ?_
  rintro e djssw ⟨djss, rfl, mm, bb⟩
  have JN : Hid (SSo djssw _ djss jssl jss) := mm
  replace B : Hid (Below W.heap.size W djssw) := on B.out bb
  replace Y : Hid (Vb djssw s3 #[.int .i64 C, .slice ya0 e0 yk0, .slice ya1 e1 yk1, .slice ya2 e2 yk2, .slice ya3 e3 yk3, .slice ya4 e4 yk4, .slice ya5 e5 yk5, .int .i64 BX.slot, .int .i64 BX.left, .int .i64 BX.clock] 40) := Y.out.keep bb
  replace D3 : Hid (Below W3.heap.size W3 djssw) := on D3.out bb
  replace X : Hid (Vb djssw s4 #[.slice (some ⟨k0, 0, none⟩) n0 n0, .slice (some ⟨k1, 0, none⟩) n1 n1, .slice (some ⟨k2, 0, none⟩) n2 n2, .slice (some ⟨k3, 0, none⟩) n3 n3] 35) := X.out.keep bb
  replace D4 : Hid (Below w4.heap.size w4 djssw) := on D4.out bb
  replace Diss : Hid (Below xissw.heap.size xissw djssw) := on Diss.out bb
  replace Djss : Hid (Below xjssw.heap.size xjssw djssw) := on Djss.out bb
  replace Dim : Hid (Below ximw.heap.size ximw djssw) := on Dim.out bb
  replace Dinp : Hid (Below xinpw.heap.size xinpw djssw) := on Dinp.out bb
  replace G5 : Hid (Vb djssw s5 #[.int .i64 C, .slice za0 e0 zk0, .slice za1 e1 zk1, .slice za2 e2 zk2, .slice za3 e3 zk3, .slice za4 e4 zk4, .slice za5 e5 zk5, .int .i64 BX.slot, .int .i64 BX.left, .int .i64 BX.clock] 40) := G5.out.keep bb
  replace O : Hid (OwE djssw xinpw.heap.size (.slice za0 e0 zk0) (.slice za1 e1 zk1) (.slice za2 e2 zk2) (.slice za3 e3 zk3) (.slice za4 e4 zk4) (.slice za5 e5 zk5) BX) := O.out.keep bb
  clear mm bb
  go_wp2_with fail
  refine (eq_ss _ _ _ _ _ _ _ (Jjss.out.keep Djss.out) JN.out).mono ?_
  rintro e ejssw ⟨rfl, bb⟩
  replace B : Hid (Below W.heap.size W ejssw) := on B.out bb
  replace Y : Hid (Vb ejssw s3 #[.int .i64 C, .slice ya0 e0 yk0, .slice ya1 e1 yk1, .slice ya2 e2 yk2, .slice ya3 e3 yk3, .slice ya4 e4 yk4, .slice ya5 e5 yk5, .int .i64 BX.slot, .int .i64 BX.left, .int .i64 BX.clock] 40) := Y.out.keep bb
  replace D3 : Hid (Below W3.heap.size W3 ejssw) := on D3.out bb
  replace X : Hid (Vb ejssw s4 #[.slice (some ⟨k0, 0, none⟩) n0 n0, .slice (some ⟨k1, 0, none⟩) n1 n1, .slice (some ⟨k2, 0, none⟩) n2 n2, .slice (some ⟨k3, 0, none⟩) n3 n3] 35) := X.out.keep bb
  replace D4 : Hid (Below w4.heap.size w4 ejssw) := on D4.out bb
  replace Diss : Hid (Below xissw.heap.size xissw ejssw) := on Diss.out bb
  replace Djss : Hid (Below xjssw.heap.size xjssw ejssw) := on Djss.out bb
  replace Dim : Hid (Below ximw.heap.size ximw ejssw) := on Dim.out bb
  replace Dinp : Hid (Below xinpw.heap.size xinpw ejssw) := on Dinp.out bb
  replace G5 : Hid (Vb ejssw s5 #[.int .i64 C, .slice za0 e0 zk0, .slice za1 e1 zk1, .slice za2 e2 zk2, .slice za3 e3 zk3, .slice za4 e4 zk4, .slice za5 e5 zk5, .int .i64 BX.slot, .int .i64 BX.left, .int .i64 BX.clock] 40) := G5.out.keep bb
  replace O : Hid (OwE ejssw xinpw.heap.size (.slice za0 e0 zk0) (.slice za1 e1 zk1) (.slice za2 e2 zk2) (.slice za3 e3 zk3) (.slice za4 e4 zk4) (.slice za5 e5 zk5) BX) := O.out.keep bb
  clear bb JN
  go_wp2_with fail
  refine (to_nums _ _ _ _ _ (HRim.out.stay B.out) SMim.out).mono ?_
  rintro e dimw ⟨dim, rfl, mm, bb⟩
  have JN : Hid (Nums dimw _ (.slice (some ⟨dim, 0, none⟩) iml iml) im) := mm
  replace B : Hid (Below W.heap.size W dimw) := on B.out bb
  replace Y : Hid (Vb dimw s3 #[.int .i64 C, .slice ya0 e0 yk0, .slice ya1 e1 yk1, .slice ya2 e2 yk2, .slice ya3 e3 yk3, .slice ya4 e4 yk4, .slice ya5 e5 yk5, .int .i64 BX.slot, .int .i64 BX.left, .int .i64 BX.clock] 40) := Y.out.keep bb
  replace D3 : Hid (Below W3.heap.size W3 dimw) := on D3.out bb
  replace X : Hid (Vb dimw s4 #[.slice (some ⟨k0, 0, none⟩) n0 n0, .slice (some ⟨k1, 0, none⟩) n1 n1, .slice (some ⟨k2, 0, none⟩) n2 n2, .slice (some ⟨k3, 0, none⟩) n3 n3] 35) := X.out.keep bb
  replace D4 : Hid (Below w4.heap.size w4 dimw) := on D4.out bb
  replace Diss : Hid (Below xissw.heap.size xissw dimw) := on Diss.out bb
  replace Djss : Hid (Below xjssw.heap.size xjssw dimw) := on Djss.out bb
  replace Dim : Hid (Below ximw.heap.size ximw dimw) := on Dim.out bb
  replace Dinp : Hid (Below xinpw.heap.size xinpw dimw) := on Dinp.out bb
  replace G5 : Hid (Vb dimw s5 #[.int .i64 C, .slice za0 e0 zk0, .slice za1 e1 zk1, .slice za2 e2 zk2, .slice za3 e3 zk3, .slice za4 e4 zk4, .slice za5 e5 zk5, .int .i64 BX.slot, .int .i64 BX.left, .int .i64 BX.clock] 40) := G5.out.keep bb
  replace O : Hid (OwE dimw xinpw.heap.size (.slice za0 e0 zk0) (.slice za1 e1 zk1) (.slice za2 e2 zk2) (.slice za3 e3 zk3) (.slice za4 e4 zk4) (.slice za5 e5 zk5) BX) := O.out.keep bb
  clear mm bb
  go_wp2_with fail
  refine (eq_nums _ _ _ _ _ _ (Jim.out.keep Dim.out) JN.out).mono ?_
  rintro e eimw ⟨rfl, bb⟩
  replace B : Hid (Below W.heap.size W eimw) := on B.out bb
  replace Y : Hid (Vb eimw s3 #[.int .i64 C, .slice ya0 e0 yk0, .slice ya1 e1 yk1, .slice ya2 e2 yk2, .slice ya3 e3 yk3, .slice ya4 e4 yk4, .slice ya5 e5 yk5, .int .i64 BX.slot, .int .i64 BX.left, .int .i64 BX.clock] 40) := Y.out.keep bb
  replace D3 : Hid (Below W3.heap.size W3 eimw) := on D3.out bb
  replace X : Hid (Vb eimw s4 #[.slice (some ⟨k0, 0, none⟩) n0 n0, .slice (some ⟨k1, 0, none⟩) n1 n1, .slice (some ⟨k2, 0, none⟩) n2 n2, .slice (some ⟨k3, 0, none⟩) n3 n3] 35) := X.out.keep bb
  replace D4 : Hid (Below w4.heap.size w4 eimw) := on D4.out bb
  replace Diss : Hid (Below xissw.heap.size xissw eimw) := on Diss.out bb
  replace Djss : Hid (Below xjssw.heap.size xjssw eimw) := on Djss.out bb
  replace Dim : Hid (Below ximw.heap.size ximw eimw) := on Dim.out bb
  replace Dinp : Hid (Below xinpw.heap.size xinpw eimw) := on Dinp.out bb
  replace G5 : Hid (Vb eimw s5 #[.int .i64 C, .slice za0 e0 zk0, .slice za1 e1 zk1, .slice za2 e2 zk2, .slice za3 e3 zk3, .slice za4 e4 zk4, .slice za5 e5 zk5, .int .i64 BX.slot, .int .i64 BX.left, .int .i64 BX.clock] 40) := G5.out.keep bb
  replace O : Hid (OwE eimw xinpw.heap.size (.slice za0 e0 zk0) (.slice za1 e1 zk1) (.slice za2 e2 zk2) (.slice za3 e3 zk3) (.slice za4 e4 zk4) (.slice za5 e5 zk5) BX) := O.out.keep bb
  clear bb JN
  go_wp2_with fail
  refine (to_nums _ _ _ _ _ (HRinp.out.stay B.out) SMinp.out).mono ?_
  rintro e dinpw ⟨dinp, rfl, mm, bb⟩
  have JN : Hid (Nums dinpw _ (.slice (some ⟨dinp, 0, none⟩) inpl inpl) inp) := mm
  replace B : Hid (Below W.heap.size W dinpw) := on B.out bb
  replace Y : Hid (Vb dinpw s3 #[.int .i64 C, .slice ya0 e0 yk0, .slice ya1 e1 yk1, .slice ya2 e2 yk2, .slice ya3 e3 yk3, .slice ya4 e4 yk4, .slice ya5 e5 yk5, .int .i64 BX.slot, .int .i64 BX.left, .int .i64 BX.clock] 40) := Y.out.keep bb
  replace D3 : Hid (Below W3.heap.size W3 dinpw) := on D3.out bb
  replace X : Hid (Vb dinpw s4 #[.slice (some ⟨k0, 0, none⟩) n0 n0, .slice (some ⟨k1, 0, none⟩) n1 n1, .slice (some ⟨k2, 0, none⟩) n2 n2, .slice (some ⟨k3, 0, none⟩) n3 n3] 35) := X.out.keep bb
  replace D4 : Hid (Below w4.heap.size w4 dinpw) := on D4.out bb
  replace Diss : Hid (Below xissw.heap.size xissw dinpw) := on Diss.out bb
  replace Djss : Hid (Below xjssw.heap.size xjssw dinpw) := on Djss.out bb
  replace Dim : Hid (Below ximw.heap.size ximw dinpw) := on Dim.out bb
  replace Dinp : Hid (Below xinpw.heap.size xinpw dinpw) := on Dinp.out bb
  replace G5 : Hid (Vb dinpw s5 #[.int .i64 C, .slice za0 e0 zk0, .slice za1 e1 zk1, .slice za2 e2 zk2, .slice za3 e3 zk3, .slice za4 e4 zk4, .slice za5 e5 zk5, .int .i64 BX.slot, .int .i64 BX.left, .int .i64 BX.clock] 40) := G5.out.keep bb
  replace O : Hid (OwE dinpw xinpw.heap.size (.slice za0 e0 zk0) (.slice za1 e1 zk1) (.slice za2 e2 zk2) (.slice za3 e3 zk3) (.slice za4 e4 zk4) (.slice za5 e5 zk5) BX) := O.out.keep bb
  clear mm bb
  go_wp2_with fail
  refine (eq_nums _ _ _ _ _ _ (Jinp.out.keep Dinp.out) JN.out).mono ?_
  rintro e einpw ⟨rfl, bb⟩
  replace B : Hid (Below W.heap.size W einpw) := on B.out bb
  replace Y : Hid (Vb einpw s3 #[.int .i64 C, .slice ya0 e0 yk0, .slice ya1 e1 yk1, .slice ya2 e2 yk2, .slice ya3 e3 yk3, .slice ya4 e4 yk4, .slice ya5 e5 yk5, .int .i64 BX.slot, .int .i64 BX.left, .int .i64 BX.clock] 40) := Y.out.keep bb
  replace D3 : Hid (Below W3.heap.size W3 einpw) := on D3.out bb
  replace X : Hid (Vb einpw s4 #[.slice (some ⟨k0, 0, none⟩) n0 n0, .slice (some ⟨k1, 0, none⟩) n1 n1, .slice (some ⟨k2, 0, none⟩) n2 n2, .slice (some ⟨k3, 0, none⟩) n3 n3] 35) := X.out.keep bb
  replace D4 : Hid (Below w4.heap.size w4 einpw) := on D4.out bb
  replace Diss : Hid (Below xissw.heap.size xissw einpw) := on Diss.out bb
  replace Djss : Hid (Below xjssw.heap.size xjssw einpw) := on Djss.out bb
  replace Dim : Hid (Below ximw.heap.size ximw einpw) := on Dim.out bb
  replace Dinp : Hid (Below xinpw.heap.size xinpw einpw) := on Dinp.out bb
  replace G5 : Hid (Vb einpw s5 #[.int .i64 C, .slice za0 e0 zk0, .slice za1 e1 zk1, .slice za2 e2 zk2, .slice za3 e3 zk3, .slice za4 e4 zk4, .slice za5 e5 zk5, .int .i64 BX.slot, .int .i64 BX.left, .int .i64 BX.clock] 40) := G5.out.keep bb
  replace O : Hid (OwE einpw xinpw.heap.size (.slice za0 e0 zk0) (.slice za1 e1 zk1) (.slice za2 e2 zk2) (.slice za3 e3 zk3) (.slice za4 e4 zk4) (.slice za5 e5 zk5) BX) := O.out.keep bb
  clear bb JN
  have x0 := X.out.cell 0 rfl
  have x1 := X.out.cell 1 rfl
  have x2 := X.out.cell 2 rfl
  have x3 := X.out.cell 3 rfl
  go_wp2_with fail
  clear x0 x1 x2 x3
  refine (mark_policy _ _ _ _ _ _ _ _ W3.heap.size xinpw.heap.size P w4 einpw M4.out D4.out SM.out (by have := Z4.out; have := Zxiss.out; have := Zxjss.out; have := Zxim.out; have := Zxinp.out; have := Z3.out; have := S4.out; omega)).mono ?_
  rintro e m0 ⟨⟨r1, rfl, hr1, hr1b⟩, mk⟩
  have MK : Hid (Mk W3.heap.size xinpw.heap.size einpw m0) := mk
  clear mk
  go_wp2_with fail
  refine (mark_sbX _ _ _ W3.heap.size xinpw.heap.size _ _ (((Jiss.out.sb Diss.out SIiss.out.2).wide (by have := Z4.out; have := Zxiss.out; have := Zxjss.out; have := Zxim.out; have := Zxinp.out; have := Z3.out; have := S4.out; omega) (by have := Z4.out; have := Zxiss.out; have := Zxjss.out; have := Zxim.out; have := Zxinp.out; have := Z3.out; have := S4.out; omega)).mked MK.out) SIiss.out.1 hr1 (by omega)).mono ?_
  rintro e m1 ⟨⟨r2s, rfl, hr2, hr2b⟩, mk⟩
  replace MK : Hid (Mk W3.heap.size xinpw.heap.size einpw m1) := MK.out.trans mk
  clear mk hr1
  have hr1 := hr2
  have hr1b' : r2s ≤ 2200000000000 := by have := SIiss.out.1; omega
  clear hr1b hr2 hr2b
  have hr1b := hr1b'
  clear hr1b'
  go_wp2_with fail
  refine (mark_sbX _ _ _ W3.heap.size xinpw.heap.size _ _ (((Jjss.out.sb Djss.out SIjss.out.2).wide (by have := Z4.out; have := Zxiss.out; have := Zxjss.out; have := Zxim.out; have := Zxinp.out; have := Z3.out; have := S4.out; omega) (by have := Z4.out; have := Zxiss.out; have := Zxjss.out; have := Zxim.out; have := Zxinp.out; have := Z3.out; have := S4.out; omega)).mked MK.out) SIjss.out.1 hr1 (by omega)).mono ?_
  rintro e m2 ⟨⟨r3s, rfl, hr2, hr2b⟩, mk⟩
  replace MK : Hid (Mk W3.heap.size xinpw.heap.size einpw m2) := MK.out.trans mk
  clear mk hr1
  have hr1 := hr2
  have hr1b' : r3s ≤ 3300000000000 := by have := SIjss.out.1; omega
  clear hr1b hr2 hr2b
  have hr1b := hr1b'
  clear hr1b'
  go_wp2_with fail
  refine (mark_mb _ _ _ W3.heap.size xinpw.heap.size _ _ ((((Jim.out.mb).stay Dim.out).wide (by have := Z4.out; have := Zxiss.out; have := Zxjss.out; have := Zxim.out; have := Zxinp.out; have := Z3.out; have := S4.out; omega) (by have := Z4.out; have := Zxiss.out; have := Zxjss.out; have := Zxim.out; have := Zxinp.out; have := Z3.out; have := S4.out; omega)).mk MK.out) hr1 (by have := SMim.out; omega)).mono ?_
  rintro e m3 ⟨rfl, mk⟩
  replace MK : Hid (Mk W3.heap.size xinpw.heap.size einpw m3) := MK.out.trans mk
  clear mk
  have hr2 : 0 ≤ r3s + (iml : Int) := by omega
  have hr2b : r3s + (iml : Int) ≤ 4400000000000 := by have := SMim.out; omega
  generalize r3s + (iml : Int) = r4n at *
  clear hr1 hr1b
  have hr1 := hr2
  have hr1b := hr2b
  clear hr2 hr2b
  go_wp2_with fail
  refine (mark_mb _ _ _ W3.heap.size xinpw.heap.size _ _ ((((Jinp.out.mb).stay Dinp.out).wide (by have := Z4.out; have := Zxiss.out; have := Zxjss.out; have := Zxim.out; have := Zxinp.out; have := Z3.out; have := S4.out; omega) (by have := Z4.out; have := Zxiss.out; have := Zxjss.out; have := Zxim.out; have := Zxinp.out; have := Z3.out; have := S4.out; omega)).mk MK.out) hr1 (by have := SMinp.out; omega)).mono ?_
  rintro e m4 ⟨rfl, mk⟩
  replace MK : Hid (Mk W3.heap.size xinpw.heap.size einpw m4) := MK.out.trans mk
  clear mk
  have hr2 : 0 ≤ r4n + (inpl : Int) := by omega
  have hr2b : r4n + (inpl : Int) ≤ 5500000000000 := by have := SMinp.out; omega
  generalize r4n + (inpl : Int) = r5n at *
  clear hr1 hr1b
  have hr1 := hr2
  have hr1b := hr2b
  clear hr2 hr2b
  have MV : Hid (Mq (fun k => W3.heap.size ≤ k ∧ k < xinpw.heap.size) einpw m4) := mk_mqX MK.out
  replace B : Hid (Below W.heap.size W m4) := Mk.below B.out MK.out (by have := Bw3.out; omega)
  replace Y : Hid (Vb m4 s3 #[.int .i64 C, .slice ya0 e0 yk0, .slice ya1 e1 yk1, .slice ya2 e2 yk2, .slice ya3 e3 yk3, .slice ya4 e4 yk4, .slice ya5 e5 yk5, .int .i64 BX.slot, .int .i64 BX.left, .int .i64 BX.clock] 40) := MV.out.vb Y.out (by have := Z4.out; have := Zxiss.out; have := Zxjss.out; have := Zxim.out; have := Zxinp.out; have := Z3.out; have := S4.out; omega)
  replace G5 : Hid (Vb m4 s5 #[.int .i64 C, .slice za0 e0 zk0, .slice za1 e1 zk1, .slice za2 e2 zk2, .slice za3 e3 zk3, .slice za4 e4 zk4, .slice za5 e5 zk5, .int .i64 BX.slot, .int .i64 BX.left, .int .i64 BX.clock] 40) := MV.out.vb G5.out (by have := Z4.out; have := Zxiss.out; have := Zxjss.out; have := Zxim.out; have := Zxinp.out; have := Z3.out; have := S4.out; have := Z5.out; omega)
  replace D3 : Hid (Below W3.heap.size W3 m4) := Mk.below D3.out MK.out (Nat.le_refl _)
  replace O : Hid (OwE m4 xinpw.heap.size (.slice za0 e0 zk0) (.slice za1 e1 zk1) (.slice za2 e2 zk2) (.slice za3 e3 zk3) (.slice za4 e4 zk4) (.slice za5 e5 zk5) BX) := owe_ho O.out (MV.out.ho fun k e => e.2)
  clear MK MV X D4 M4 Diss Jiss Djss Jjss Dim Jim Dinp Jinp
  have y0 := Y.out.cell 0 rfl
  have y1 := Y.out.cell 1 rfl
  have y2 := Y.out.cell 2 rfl
  have y3 := Y.out.cell 3 rfl
  have y4 := Y.out.cell 4 rfl
  have y5 := Y.out.cell 5 rfl
  have y6 := Y.out.cell 6 rfl
  have y7 := Y.out.cell 7 rfl
  have y8 := Y.out.cell 8 rfl
  have y9 := Y.out.cell 9 rfl
  have g0 := G5.out.cell 0 rfl
  have g1 := G5.out.cell 1 rfl
  have g2 := G5.out.cell 2 rfl
  have g3 := G5.out.cell 3 rfl
  have g4 := G5.out.cell 4 rfl
  have g5 := G5.out.cell 5 rfl
  have g6 := G5.out.cell 6 rfl
  have g7 := G5.out.cell 7 rfl
  have g8 := G5.out.cell 8 rfl
  have g9 := G5.out.cell 9 rfl
  go_wp2_with fail
  clear y0 y1 y2 y3 y4 y5 y6 y7 y8 y9 g0 g1 g2 g3 g4 g5 g6 g7 g8 g9
  refine (eq_hostRQ _ _ _ _ _ _ _ _ _ _ _ _ _ BX _ _ _ (owe_hq O.out) (N.out.keep D3.out)).mono ?_
  rintro e t1 ⟨rfl, bb⟩
  replace B : Hid (Below W.heap.size W t1) := on B.out bb
  replace Y : Hid (Vb t1 s3 #[.int .i64 C, .slice ya0 e0 yk0, .slice ya1 e1 yk1, .slice ya2 e2 yk2, .slice ya3 e3 yk3, .slice ya4 e4 yk4, .slice ya5 e5 yk5, .int .i64 BX.slot, .int .i64 BX.left, .int .i64 BX.clock] 40) := Y.out.keep bb
  replace D3 : Hid (Below W3.heap.size W3 t1) := on D3.out bb
  replace G5 : Hid (Vb t1 s5 #[.int .i64 C, .slice za0 e0 zk0, .slice za1 e1 zk1, .slice za2 e2 zk2, .slice za3 e3 zk3, .slice za4 e4 zk4, .slice za5 e5 zk5, .int .i64 BX.slot, .int .i64 BX.left, .int .i64 BX.clock] 40) := G5.out.keep bb
  replace O : Hid (OwE t1 xinpw.heap.size (.slice za0 e0 zk0) (.slice za1 e1 zk1) (.slice za2 e2 zk2) (.slice za3 e3 zk3) (.slice za4 e4 zk4) (.slice za5 e5 zk5) BX) := O.out.keep bb
  clear bb
  have g0 := G5.out.cell 0 rfl
  have g1 := G5.out.cell 1 rfl
  have g2 := G5.out.cell 2 rfl
  have g3 := G5.out.cell 3 rfl
  have g4 := G5.out.cell 4 rfl
  have g5 := G5.out.cell 5 rfl
  have g6 := G5.out.cell 6 rfl
  have g7 := G5.out.cell 7 rfl
  have g8 := G5.out.cell 8 rfl
  have g9 := G5.out.cell 9 rfl
  go_wp2_with fail
  clear g0 g1 g2 g3 g4 g5 g6 g7 g8 g9
  obtain ⟨y0, y1, y2, y3, y4, y5, RR, SS, og, bd, be⟩ := owe_og O.out SMX.out (by decide) (by decide) (by decide) (by decide) (by decide) G5.out
  have OG : Hid (Og t1 za0 za1 za2 za3 za4 za5 e0 e1 e2 e3 e4 e5 y0 y1 y2 y3 y4 y5 RR SS) := og
  have BD : Hid (∀ x ∈ (oN y1 y2 y3 y4 y5 e1 e2 e3 e4 e5 RR SS), xinpw.heap.size ≤ x.1.block) := fun x hx => (bd x hx).1
  have BE : Hid (∀ x ∈ (oN y1 y2 y3 y4 y5 e1 e2 e3 e4 e5 RR SS), x.1.block ≠ s5) := be
  clear og bd be
  refine (mx_hostR _ _ _ _ _ _ _ _ _ _ _ _ _ _ _ _ _ _ _ _ _ _ _ _ _ BX.slot BX.left BX.clock RR SS 1 _ OG.out (by decide) (by decide)).mono ?_
  rintro e t2 ⟨rfl, mx⟩
  have HXF : Hid (Hx (oN y1 y2 y3 y4 y5 e1 e2 e3 e4 e5 RR SS) 1 t2) := mx.hx
  have OHF : Hid (Oh t2 za0 za1 za2 za3 za4 za5 e0 e1 e2 e3 e4 e5 y0 y1 y2 y3 y4 y5 RR SS) := OG.out.oh mx
  have B' : Hid (Below W.heap.size W t2) := ⟨mx.os.trans B.out.os, mx.tape.trans B.out.tape, mx.output.trans B.out.output, Nat.le_trans B.out.size mx.size, fun k hk => (mx.block k (Nat.lt_of_lt_of_le hk B.out.size) fun x hx f => by have := BD.out x hx; have := Bw3.out; have := Z4.out; have := Zxiss.out; have := Zxjss.out; have := Zxim.out; have := Zxinp.out; have := Z3.out; have := S4.out; omega).trans (B.out.block k hk)⟩
  have D3' : Hid (Below W3.heap.size W3 t2) := ⟨mx.os.trans D3.out.os, mx.tape.trans D3.out.tape, mx.output.trans D3.out.output, Nat.le_trans D3.out.size mx.size, fun k hk => (mx.block k (Nat.lt_of_lt_of_le hk D3.out.size) fun x hx f => by have := BD.out x hx; have := Z4.out; have := Zxiss.out; have := Zxjss.out; have := Zxim.out; have := Zxinp.out; have := Z3.out; have := S4.out; omega).trans (D3.out.block k hk)⟩
  replace Y : Hid (Vb t2 s3 #[.int .i64 C, .slice ya0 e0 yk0, .slice ya1 e1 yk1, .slice ya2 e2 yk2, .slice ya3 e3 yk3, .slice ya4 e4 yk4, .slice ya5 e5 yk5, .int .i64 BX.slot, .int .i64 BX.left, .int .i64 BX.clock] 40) := (mx.block s3 Y.out.lt fun x hx f => by have := BD.out x hx; have := Z4.out; have := Zxiss.out; have := Zxjss.out; have := Zxim.out; have := Zxinp.out; have := Z3.out; have := S4.out; omega).trans Y.out
  replace G5 : Hid (Vb t2 s5 #[.int .i64 C, .slice za0 e0 zk0, .slice za1 e1 zk1, .slice za2 e2 zk2, .slice za3 e3 zk3, .slice za4 e4 zk4, .slice za5 e5 zk5, .int .i64 BX.slot, .int .i64 BX.left, .int .i64 BX.clock] 40) := (mx.block s5 G5.out.lt fun x hx f => BE.out x hx f).trans G5.out
  clear B D3 O OG BD BE mx
  have B := B'
  have D3 := D3'
  have OH := OHF
  have HX := HXF
  clear B' D3' OHF HXF
  have tp : 0 ≤ 1 + (((oN y1 y2 y3 y4 y5 e1 e2 e3 e4 e5 RR SS).length : Nat) : Int) := by omega
  obtain ⟨TT, hTT⟩ : ∃ t, 1 + (((oN y1 y2 y3 y4 y5 e1 e2 e3 e4 e5 RR SS).length : Nat) : Int) = t := ⟨_, rfl⟩
  have HTT : Hid (1 + (((oN y1 y2 y3 y4 y5 e1 e2 e3 e4 e5 RR SS).length : Nat) : Int) = TT) := hTT
  rw [hTT] at tp ⊢
  clear hTT
  have g0 := G5.out.cell 0 rfl
  have g1 := G5.out.cell 1 rfl
  have g2 := G5.out.cell 2 rfl
  have g3 := G5.out.cell 3 rfl
  have g4 := G5.out.cell 4 rfl
  have g5 := G5.out.cell 5 rfl
  have g6 := G5.out.cell 6 rfl
  have g7 := G5.out.cell 7 rfl
  have g8 := G5.out.cell 8 rfl
  have g9 := G5.out.cell 9 rfl
  go_wp2_with fail
  clear g0 g1 g2 g3 g4 g5 g6 g7 g8 g9
  refine (hx_hostR _ _ _ _ _ _ _ _ _ _ _ _ _ _ _ _ _ _ _ _ _ _ _ _ _ BX.slot BX.left BX.clock RR SS 1 _ OH.out HX.out (by decide) (by decide)).mono ?_
  rintro e t3 ⟨rfl, bb⟩
  replace B : Hid (Below W.heap.size W t3) := on B.out bb
  replace Y : Hid (Vb t3 s3 #[.int .i64 C, .slice ya0 e0 yk0, .slice ya1 e1 yk1, .slice ya2 e2 yk2, .slice ya3 e3 yk3, .slice ya4 e4 yk4, .slice ya5 e5 yk5, .int .i64 BX.slot, .int .i64 BX.left, .int .i64 BX.clock] 40) := Y.out.keep bb
  replace D3 : Hid (Below W3.heap.size W3 t3) := on D3.out bb
  replace G5 : Hid (Vb t3 s5 #[.int .i64 C, .slice za0 e0 zk0, .slice za1 e1 zk1, .slice za2 e2 zk2, .slice za3 e3 zk3, .slice za4 e4 zk4, .slice za5 e5 zk5, .int .i64 BX.slot, .int .i64 BX.left, .int .i64 BX.clock] 40) := G5.out.keep bb
  replace OH : Hid (Oh t3 za0 za1 za2 za3 za4 za5 e0 e1 e2 e3 e4 e5 y0 y1 y2 y3 y4 y5 RR SS) := OH.out.keep bb
  replace HX : Hid (Hx (oN y1 y2 y3 y4 y5 e1 e2 e3 e4 e5 RR SS) 1 t3) := hx_keepX HX.out bb
  clear bb
  rw [HTT.out]
  have q0 := (Q.out.keep B.out).cell 0 rfl
  have q1 := (Q.out.keep B.out).cell 1 rfl
  have q2 := (Q.out.keep B.out).cell 2 rfl
  have q3 := (Q.out.keep B.out).cell 3 rfl
  go_wp2_with fail
  clear q0 q1 q2 q3
  refine (to_policy _ _ _ _ _ _ _ _ _ _ _ _ P _ (HP.out.stay B.out) SM.out).mono ?_
  rintro e whP ⟨h0, h1, h2, h3, rfl, mm, bb⟩
  have Mh : Hid (Mde whP _ h0 h1 h2 h3 n0 n1 n2 n3 P) := mm
  replace B : Hid (Below W.heap.size W whP) := on B.out bb
  replace Y : Hid (Vb whP s3 #[.int .i64 C, .slice ya0 e0 yk0, .slice ya1 e1 yk1, .slice ya2 e2 yk2, .slice ya3 e3 yk3, .slice ya4 e4 yk4, .slice ya5 e5 yk5, .int .i64 BX.slot, .int .i64 BX.left, .int .i64 BX.clock] 40) := Y.out.keep bb
  replace D3 : Hid (Below W3.heap.size W3 whP) := on D3.out bb
  replace G5 : Hid (Vb whP s5 #[.int .i64 C, .slice za0 e0 zk0, .slice za1 e1 zk1, .slice za2 e2 zk2, .slice za3 e3 zk3, .slice za4 e4 zk4, .slice za5 e5 zk5, .int .i64 BX.slot, .int .i64 BX.left, .int .i64 BX.clock] 40) := G5.out.keep bb
  replace OH : Hid (Oh whP za0 za1 za2 za3 za4 za5 e0 e1 e2 e3 e4 e5 y0 y1 y2 y3 y4 y5 RR SS) := OH.out.keep bb
  replace HX : Hid (Hx (oN y1 y2 y3 y4 y5 e1 e2 e3 e4 e5 RR SS) 1 whP) := hx_keepX HX.out bb
  clear mm bb
  go_wp2_with fail
  refine (to_ss _ _ _ _ _ (HRiss.out.stay B.out) SIiss.out.1 SIiss.out.2).mono ?_
  rintro e whiss ⟨hiss, rfl, mm, bb⟩
  have Fhiss : Hid (SSo whiss _ hiss issl iss) := mm
  replace Mh : Hid (Mde whiss _ h0 h1 h2 h3 n0 n1 n2 n3 P) := Mh.out.keep bb
  replace B : Hid (Below W.heap.size W whiss) := on B.out bb
  replace Y : Hid (Vb whiss s3 #[.int .i64 C, .slice ya0 e0 yk0, .slice ya1 e1 yk1, .slice ya2 e2 yk2, .slice ya3 e3 yk3, .slice ya4 e4 yk4, .slice ya5 e5 yk5, .int .i64 BX.slot, .int .i64 BX.left, .int .i64 BX.clock] 40) := Y.out.keep bb
  replace D3 : Hid (Below W3.heap.size W3 whiss) := on D3.out bb
  replace G5 : Hid (Vb whiss s5 #[.int .i64 C, .slice za0 e0 zk0, .slice za1 e1 zk1, .slice za2 e2 zk2, .slice za3 e3 zk3, .slice za4 e4 zk4, .slice za5 e5 zk5, .int .i64 BX.slot, .int .i64 BX.left, .int .i64 BX.clock] 40) := G5.out.keep bb
  replace OH : Hid (Oh whiss za0 za1 za2 za3 za4 za5 e0 e1 e2 e3 e4 e5 y0 y1 y2 y3 y4 y5 RR SS) := OH.out.keep bb
  replace HX : Hid (Hx (oN y1 y2 y3 y4 y5 e1 e2 e3 e4 e5 RR SS) 1 whiss) := hx_keepX HX.out bb
  clear mm bb
  go_wp2_with fail
  refine (to_ss _ _ _ _ _ (HRjss.out.stay B.out) SIjss.out.1 SIjss.out.2).mono ?_
  rintro e whjss ⟨hjss, rfl, mm, bb⟩
  have Fhjss : Hid (SSo whjss _ hjss jssl jss) := mm
  replace Mh : Hid (Mde whjss _ h0 h1 h2 h3 n0 n1 n2 n3 P) := Mh.out.keep bb
  replace Fhiss : Hid (SSo whjss _ hiss issl iss) := Fhiss.out.keep bb
  replace B : Hid (Below W.heap.size W whjss) := on B.out bb
  replace Y : Hid (Vb whjss s3 #[.int .i64 C, .slice ya0 e0 yk0, .slice ya1 e1 yk1, .slice ya2 e2 yk2, .slice ya3 e3 yk3, .slice ya4 e4 yk4, .slice ya5 e5 yk5, .int .i64 BX.slot, .int .i64 BX.left, .int .i64 BX.clock] 40) := Y.out.keep bb
  replace D3 : Hid (Below W3.heap.size W3 whjss) := on D3.out bb
  replace G5 : Hid (Vb whjss s5 #[.int .i64 C, .slice za0 e0 zk0, .slice za1 e1 zk1, .slice za2 e2 zk2, .slice za3 e3 zk3, .slice za4 e4 zk4, .slice za5 e5 zk5, .int .i64 BX.slot, .int .i64 BX.left, .int .i64 BX.clock] 40) := G5.out.keep bb
  replace OH : Hid (Oh whjss za0 za1 za2 za3 za4 za5 e0 e1 e2 e3 e4 e5 y0 y1 y2 y3 y4 y5 RR SS) := OH.out.keep bb
  replace HX : Hid (Hx (oN y1 y2 y3 y4 y5 e1 e2 e3 e4 e5 RR SS) 1 whjss) := hx_keepX HX.out bb
  clear mm bb
  go_wp2_with fail
  refine (to_nums _ _ _ _ _ (HRim.out.stay B.out) SMim.out).mono ?_
  rintro e whim ⟨him, rfl, mm, bb⟩
  have Fhim : Hid (Nums whim _ (.slice (some ⟨him, 0, none⟩) iml iml) im) := mm
  replace Mh : Hid (Mde whim _ h0 h1 h2 h3 n0 n1 n2 n3 P) := Mh.out.keep bb
  replace Fhiss : Hid (SSo whim _ hiss issl iss) := Fhiss.out.keep bb
  replace Fhjss : Hid (SSo whim _ hjss jssl jss) := Fhjss.out.keep bb
  replace B : Hid (Below W.heap.size W whim) := on B.out bb
  replace Y : Hid (Vb whim s3 #[.int .i64 C, .slice ya0 e0 yk0, .slice ya1 e1 yk1, .slice ya2 e2 yk2, .slice ya3 e3 yk3, .slice ya4 e4 yk4, .slice ya5 e5 yk5, .int .i64 BX.slot, .int .i64 BX.left, .int .i64 BX.clock] 40) := Y.out.keep bb
  replace D3 : Hid (Below W3.heap.size W3 whim) := on D3.out bb
  replace G5 : Hid (Vb whim s5 #[.int .i64 C, .slice za0 e0 zk0, .slice za1 e1 zk1, .slice za2 e2 zk2, .slice za3 e3 zk3, .slice za4 e4 zk4, .slice za5 e5 zk5, .int .i64 BX.slot, .int .i64 BX.left, .int .i64 BX.clock] 40) := G5.out.keep bb
  replace OH : Hid (Oh whim za0 za1 za2 za3 za4 za5 e0 e1 e2 e3 e4 e5 y0 y1 y2 y3 y4 y5 RR SS) := OH.out.keep bb
  replace HX : Hid (Hx (oN y1 y2 y3 y4 y5 e1 e2 e3 e4 e5 RR SS) 1 whim) := hx_keepX HX.out bb
  clear mm bb
  go_wp2_with fail
  refine (to_nums _ _ _ _ _ (HRinp.out.stay B.out) SMinp.out).mono ?_
  rintro e whinp ⟨hinp, rfl, mm, bb⟩
  have Fhinp : Hid (Nums whinp _ (.slice (some ⟨hinp, 0, none⟩) inpl inpl) inp) := mm
  replace Mh : Hid (Mde whinp _ h0 h1 h2 h3 n0 n1 n2 n3 P) := Mh.out.keep bb
  replace Fhiss : Hid (SSo whinp _ hiss issl iss) := Fhiss.out.keep bb
  replace Fhjss : Hid (SSo whinp _ hjss jssl jss) := Fhjss.out.keep bb
  replace Fhim : Hid (Nums whinp _ (.slice (some ⟨him, 0, none⟩) iml iml) im) := Fhim.out.keep bb
  replace B : Hid (Below W.heap.size W whinp) := on B.out bb
  replace Y : Hid (Vb whinp s3 #[.int .i64 C, .slice ya0 e0 yk0, .slice ya1 e1 yk1, .slice ya2 e2 yk2, .slice ya3 e3 yk3, .slice ya4 e4 yk4, .slice ya5 e5 yk5, .int .i64 BX.slot, .int .i64 BX.left, .int .i64 BX.clock] 40) := Y.out.keep bb
  replace D3 : Hid (Below W3.heap.size W3 whinp) := on D3.out bb
  replace G5 : Hid (Vb whinp s5 #[.int .i64 C, .slice za0 e0 zk0, .slice za1 e1 zk1, .slice za2 e2 zk2, .slice za3 e3 zk3, .slice za4 e4 zk4, .slice za5 e5 zk5, .int .i64 BX.slot, .int .i64 BX.left, .int .i64 BX.clock] 40) := G5.out.keep bb
  replace OH : Hid (Oh whinp za0 za1 za2 za3 za4 za5 e0 e1 e2 e3 e4 e5 y0 y1 y2 y3 y4 y5 RR SS) := OH.out.keep bb
  replace HX : Hid (Hx (oN y1 y2 y3 y4 y5 e1 e2 e3 e4 e5 RR SS) 1 whinp) := hx_keepX HX.out bb
  clear mm bb
  go_wp2_with fail
  have CALL := i_twinHost _ _ _ _ _ _ _ _ _ _ _ _ P _ _ _ iss _ _ _ jss gu _ _ _ im _ _ _ inp _ _ _ _ _ Mh.out.pl SM.out Fhiss.out.swn Fhjss.out.swn Fhim.out Fhinp.out SIiss.out.1 SIjss.out.1 (cell_keep B.out HG.out)
  rw [HCX.out.1, HCX.out.2] at CALL
  refine CALL.mono ?_
  clear CALL
  rintro e t6 ⟨_, _, _, _, _, _, rfl, sp, b7⟩
  have hq := owe_hq sp
  obtain ⟨ta0, tk0, f0, _⟩ := hq.own.shape
  obtain ⟨ta1, tk1, f1, _⟩ := hq.lanes.shape
  obtain ⟨ta2, tk2, f2, _⟩ := hq.bells.shape
  obtain ⟨ta3, tk3, f3, _⟩ := hq.plan.shape
  obtain ⟨ta4, tk4, f4, _⟩ := hq.mem
  obtain ⟨ta5, tk5, f5, _⟩ := hq.harts.shape
  clear hq
  subst f0 f1 f2 f3 f4 f5
  rw [LY.out.1, LY.out.2.1, LY.out.2.2.1, LY.out.2.2.2.1, LY.out.2.2.2.2.1, LY.out.2.2.2.2.2] at sp ⊢
  have WN : Hid (Below t6.heap.size t6 (t6.alloc (.cells #[.int .i64 C, .slice ta0 e0 tk0, .slice ta1 e1 tk1, .slice ta2 e2 tk2, .slice ta3 e3 tk3, .slice ta4 e4 tk4, .slice ta5 e5 tk5, .int .i64 BX.slot, .int .i64 BX.left, .int .i64 BX.clock] 40))) := al (Below.refl _ _) _
  have H6 : Hid (OwE (t6.alloc (.cells #[.int .i64 C, .slice ta0 e0 tk0, .slice ta1 e1 tk1, .slice ta2 e2 tk2, .slice ta3 e3 tk3, .slice ta4 e4 tk4, .slice ta5 e5 tk5, .int .i64 BX.slot, .int .i64 BX.left, .int .i64 BX.clock] 40)) _ (.slice ta0 e0 tk0) (.slice ta1 e1 tk1) (.slice ta2 e2 tk2) (.slice ta3 e3 tk3) (.slice ta4 e4 tk4) (.slice ta5 e5 tk5) BX) := sp.keep WN.out
  replace B : Hid (Below W.heap.size W t6) := on B.out b7
  replace Y : Hid (Vb t6 s3 #[.int .i64 C, .slice ya0 e0 yk0, .slice ya1 e1 yk1, .slice ya2 e2 yk2, .slice ya3 e3 yk3, .slice ya4 e4 yk4, .slice ya5 e5 yk5, .int .i64 BX.slot, .int .i64 BX.left, .int .i64 BX.clock] 40) := Y.out.keep b7
  replace D3 : Hid (Below W3.heap.size W3 t6) := on D3.out b7
  replace G5 : Hid (Vb t6 s5 #[.int .i64 C, .slice za0 e0 zk0, .slice za1 e1 zk1, .slice za2 e2 zk2, .slice za3 e3 zk3, .slice za4 e4 zk4, .slice za5 e5 zk5, .int .i64 BX.slot, .int .i64 BX.left, .int .i64 BX.clock] 40) := G5.out.keep b7
  replace OH : Hid (Oh t6 za0 za1 za2 za3 za4 za5 e0 e1 e2 e3 e4 e5 y0 y1 y2 y3 y4 y5 RR SS) := OH.out.keep b7
  replace HX : Hid (Hx (oN y1 y2 y3 y4 y5 e1 e2 e3 e4 e5 RR SS) 1 t6) := hx_keepX HX.out b7
  have y0 := Y.out.cell 0 rfl
  have y1 := Y.out.cell 1 rfl
  have y2 := Y.out.cell 2 rfl
  have y3 := Y.out.cell 3 rfl
  have y4 := Y.out.cell 4 rfl
  have y5 := Y.out.cell 5 rfl
  have y6 := Y.out.cell 6 rfl
  have y7 := Y.out.cell 7 rfl
  have y8 := Y.out.cell 8 rfl
  have y9 := Y.out.cell 9 rfl
  have l6 : s3 < t6.heap.size := Y.out.lt
  clear sp b7 Mh Fhiss Fhjss Fhim Fhinp
  go_wp2_with fail
  clear y0 y1 y2 y3 y4 y5 y6 y7 y8 y9 l6
  refine (eq_hostRQ _ _ _ _ _ _ _ _ _ _ _ _ _ BX _ _ _ (owe_hq H6.out) ((N.out.keep D3.out).keep WN.out)).mono ?_
  rintro e t7 ⟨rfl, b8⟩
  have b7 := on WN.out b8
  replace B : Hid (Below W.heap.size W t7) := on B.out b7
  replace Y : Hid (Vb t7 s3 #[.int .i64 C, .slice ya0 e0 yk0, .slice ya1 e1 yk1, .slice ya2 e2 yk2, .slice ya3 e3 yk3, .slice ya4 e4 yk4, .slice ya5 e5 yk5, .int .i64 BX.slot, .int .i64 BX.left, .int .i64 BX.clock] 40) := Y.out.keep b7
  replace D3 : Hid (Below W3.heap.size W3 t7) := on D3.out b7
  replace G5 : Hid (Vb t7 s5 #[.int .i64 C, .slice za0 e0 zk0, .slice za1 e1 zk1, .slice za2 e2 zk2, .slice za3 e3 zk3, .slice za4 e4 zk4, .slice za5 e5 zk5, .int .i64 BX.slot, .int .i64 BX.left, .int .i64 BX.clock] 40) := G5.out.keep b7
  replace OH : Hid (Oh t7 za0 za1 za2 za3 za4 za5 e0 e1 e2 e3 e4 e5 y0 y1 y2 y3 y4 y5 RR SS) := OH.out.keep b7
  replace HX : Hid (Hx (oN y1 y2 y3 y4 y5 e1 e2 e3 e4 e5 RR SS) 1 t7) := hx_keepX HX.out b7
  clear b7 b8 WN H6
  have g0 := G5.out.cell 0 rfl
  have g1 := G5.out.cell 1 rfl
  have g2 := G5.out.cell 2 rfl
  have g3 := G5.out.cell 3 rfl
  have g4 := G5.out.cell 4 rfl
  have g5 := G5.out.cell 5 rfl
  have g6 := G5.out.cell 6 rfl
  have g7 := G5.out.cell 7 rfl
  have g8 := G5.out.cell 8 rfl
  have g9 := G5.out.cell 9 rfl
  go_wp2_with fail
  clear g0 g1 g2 g3 g4 g5 g6 g7 g8 g9
  refine (hx_hostR _ _ _ _ _ _ _ _ _ _ _ _ _ _ _ _ _ _ _ _ _ _ _ _ _ BX.slot BX.left BX.clock RR SS 1 _ OH.out HX.out (by decide) (by decide)).mono ?_
  rintro e t8 ⟨rfl, b8⟩
  rw [HTT.out]
  go_wp2_with fail
  go_ret
  exact ⟨rfl, on B0.out (on B.out b8)⟩
end Go.Proofs.YtmgninipaigjfaaGreatDoor.fnExactTwinHostDone
