/- The law FnExactPatchImage answers true at every input, and each argument reads behind the call as it read ahead of it; no condition. -/
import Derived.Test.YtfnlmjbpchhkfaaBase
import Derived.Test.YtfnlmjbpchhkfaaPas
import Derived.Test.YtfnlmjbpchhkfaaWre
import Derived.Test.YtfnlmjbpchhkfaaNumb
import Derived.Deep.RegionWith
import Derived.Deep.Cut
import Derived.Deep.CutRange
namespace Go.Proofs.Ytfnlmjbpchhkfaa.fnExactPatchImageDone
open Go.ChangeShapes Go.WideShapes Go.ChangeAt Go.RowKit
open Go.ChangeMaps (open_string shut_string)
set_option linter.unusedVariables false

theorem blk_ne {v u : Value} {B : Nat} (h : ∀ k, v.ownBlock = some k → k < B) (h' : ∀ k, u.ownBlock = some k → B ≤ k) : v.ownBlock = none ∨ v.ownBlock ≠ u.ownBlock := by
  cases e : v.ownBlock with
  | none => exact .inl rfl
  | some x =>
    refine .inr fun e2 => ?_
    have h1 := h x e
    have h2 := h' x e2.symm
    omega
theorem blk_ne' {v u : Value} {B : Nat} (h : ∀ k, v.ownBlock = some k → B ≤ k) (h' : ∀ k, u.ownBlock = some k → k < B) : v.ownBlock = none ∨ v.ownBlock ≠ u.ownBlock := by
  cases e : v.ownBlock with
  | none => exact .inl rfl
  | some x =>
    refine .inr fun e2 => ?_
    have h1 := h x e
    have h2 := h' x e2.symm
    omega
set_option maxHeartbeats 4000000 in
theorem walk (a0 : Option Addr) (len0 cap0 : Nat) (rs : List Int) (at_ : Int) (a1 : Option Addr) (len1 cap1 : Nat) (qs : List Int) (w : World) (w0 : IsRow .i64 w a0 len0 cap0 rs) (wf1 : (Lit.int .i64 at_).wf = true) (w1 : IsRow .i64 w a1 len1 cap1 qs) :
    Calls Try.prog 3 #[.slice a0 len0 cap0, .int .i64 at_, .slice a1 len1 cap1] w fun e w' => e = .returned (.bool true) ∧ Below w.heap.size w w' := by
  obtain ⟨wx, rfl⟩ : ∃ wx, wx = w := ⟨_, rfl⟩
  have HR : Hid (IsRow .i64 wx a0 len0 cap0 rs) := w0
  have KR : Hid (IsRow .i64 wx a1 len1 cap1 qs) := w1
  have hlen : Hid (len0 = rs.length) := w0.ln.1
  have klen : Hid (len1 = qs.length) := w1.ln.1
  have hmax : (len0 : Int) ≤ 9223372036854775807 := by have := w0.ln.2; omega
  have kmax : (len1 : Int) ≤ 9223372036854775807 := by have := w1.ln.2; omega
  clear w0 w1 wf1
  by_cases hbig : (1048576 : Int) < len0
  · go_enter Try.func3, Try.ntmps3
    go_wp2_with fail
    go_ret
    exact ⟨rfl, Below.refl _ _⟩
  have HB2 : Hid (len0 ≤ 1048576) := by show _ ≤ _; omega
  have HLE : Hid (rs.length ≤ 1048576) := by show _ ≤ _; have := hlen.out; omega
  by_cases kbig : (1048576 : Int) < len1
  · go_enter Try.func3, Try.ntmps3
    go_wp2_with fail
    go_ret
    exact ⟨rfl, Below.refl _ _⟩
  have KB2 : Hid (len1 ≤ 1048576) := by show _ ≤ _; omega
  have KLE : Hid (qs.length ≤ 1048576) := by show _ ≤ _; have := klen.out; omega
  clear hlen klen
  have fs := fun w v u b b' h h' => s_patch v u rs qs at_ b b' w h h' HLE.out KLE.out
  have fi := fun w v u b b' h h' => i_patch v u rs qs at_ b b' w h h' HLE.out KLE.out
  have hlen := paZ_len rs at_ qs
  generalize (paC rs at_ qs) = c at *
  generalize (paZ rs at_ qs) = Z at *
  have HLEN : Hid (1 + (Z.length : Int) ≤ 4611686018427387904) := by show _ ≤ _; omega
  have hlI : (Z.length : Int) ≤ 192 := by omega
  clear hlen
  go_enter Try.func3, Try.ntmps3
  go_wp2_with fail
  refine (to_nums _ _ _ _ _ HR.out HB2.out).mono ?_
  rintro e u1 ⟨g1, rfl, n1, d1⟩
  go_wp2_with fail
  refine (to_nums _ _ _ _ _ (KR.out.stay d1) KB2.out).mono ?_
  rintro e u2 ⟨g2, rfl, n2, d2⟩
  go_wp2_with fail
  refine (fs _ _ _ _ _ (n1.keep d2) n2).mono ?_
  rintro e w1 ⟨v0, rfl, n0, bb⟩
  have N0 : Hid (Nums w1 _ v0 Z) := n0
  have B1 : Hid (Below wx.heap.size wx w1) := on (on d1 d2) bb
  have S0 : Hid (wx.heap.size ≤ u2.heap.size) := (on d1 d2).size
  clear n0 bb d1 d2 n1 n2 fs
  obtain ⟨a0', cap0', rfl, _, _, _⟩ := N0.out.shape
  go_wp2_with fail
  refine (to_nums _ _ _ _ _ (HR.out.stay (al B1.out _)) HB2.out).mono ?_
  rintro e x2 ⟨gx, rfl, nx, bx⟩
  have qa0 := cell_keep bx (cell_new (i := 0) rfl)
  have qa1 := cell_keep bx (cell_new (i := 1) rfl)
  have qa2 := cell_keep bx (cell_new (i := 2) rfl)
  have NX : Hid (Nums x2 _ _ rs) := nx
  have N0x : Hid (Nums x2 _ _ Z) := N0.out.keep (on (al (Below.refl _ _) _) bx)
  have BX : Hid (Below wx.heap.size wx x2) := on (al B1.out _) bx
  have SX : Hid (w1.heap.size < x2.heap.size) := block_of_cell qa0
  clear nx bx
  go_wp2_with fail
  refine (to_nums _ _ _ _ _ (KR.out.stay BX.out) KB2.out).mono ?_
  rintro e x3 ⟨gy, rfl, ny, by3⟩
  have qa0 := cell_keep by3 qa0
  have qa1 := cell_keep by3 qa1
  have qa2 := cell_keep by3 qa2
  have MX : Hid (Nums x3 _ _ qs) := ny
  have NX3 : Hid (Nums x3 _ _ rs) := NX.out.keep by3
  have N03 : Hid (Nums x3 _ _ Z) := N0x.out.keep by3
  have B3 : Hid (Below wx.heap.size wx x3) := on BX.out by3
  have S3 : Hid (x2.heap.size ≤ x3.heap.size) := by3.size
  clear ny by3
  go_wp2_with fail
  refine (fi _ _ _ _ _ NX3.out MX.out).mono ?_
  rintro e w2 ⟨v1, rfl, n1, b2⟩
  obtain ⟨a1', cap1', rfl, _, _, _⟩ := n1.shape
  have qa0 := cell_keep b2 qa0
  have qa1 := cell_keep b2 qa1
  have qa2 := cell_keep b2 qa2
  have N1 : Hid (Nums w2 _ _ Z) := n1
  have N0a : Hid (Nums w2 _ _ Z) := N03.out.keep b2
  have NXa : Hid (Nums w2 _ _ rs) := NX3.out.keep b2
  have MXa : Hid (Nums w2 _ _ qs) := MX.out.keep b2
  have B2 : Hid (Below wx.heap.size wx w2) := on B3.out b2
  have s12 : w1.heap.size < w2.heap.size := block_of_cell qa0
  have S22 : Hid (x3.heap.size ≤ w2.heap.size) := b2.size
  clear n1 b2
  go_wp2_with fail
  refine (eq_wres _ _ _ _ _ _ _ _ (N1.out.keep (al (Below.refl _ _) _)) (N0a.out.keep (al (Below.refl _ _) _))).mono ?_
  rintro e w3 ⟨rfl, b3⟩
  have qb0 := cell_keep b3 (cell_new (i := 0) rfl)
  have qb1 := cell_keep b3 (cell_new (i := 1) rfl)
  have qb2 := cell_keep b3 (cell_new (i := 2) rfl)
  have qa0 := cell_keep (on (al (Below.refl _ _) _) b3) qa0
  have qa1 := cell_keep (on (al (Below.refl _ _) _) b3) qa1
  have qa2 := cell_keep (on (al (Below.refl _ _) _) b3) qa2
  have N1w3 : Hid (Nums w3 _ _ Z) := N1.out.keep (on (al (Below.refl _ _) _) b3)
  have N0w3 : Hid (Nums w3 _ _ Z) := N0a.out.keep (on (al (Below.refl _ _) _) b3)
  have NXw3 : Hid (Nums w3 _ _ rs) := NXa.out.keep (on (al (Below.refl _ _) _) b3)
  have MXw3 : Hid (Nums w3 _ _ qs) := MXa.out.keep (on (al (Below.refl _ _) _) b3)
  have Bw3 : Hid (Below wx.heap.size wx w3) := on (al B2.out _) b3
  clear b3
  go_wp2_with fail
  refine (to_nums _ _ _ _ _ (HR.out.stay Bw3.out) HB2.out).mono ?_
  rintro e e1 ⟨gg0, rfl, ny, b4⟩
  have qa0 := cell_keep b4 qa0
  have qa1 := cell_keep b4 qa1
  have qa2 := cell_keep b4 qa2
  have qb0 := cell_keep b4 qb0
  have qb1 := cell_keep b4 qb1
  have qb2 := cell_keep b4 qb2
  have N1e1 : Hid (Nums e1 _ _ Z) := N1w3.out.keep b4
  have N0e1 : Hid (Nums e1 _ _ Z) := N0w3.out.keep b4
  have NXe1 : Hid (Nums e1 _ _ rs) := NXw3.out.keep b4
  have MXe1 : Hid (Nums e1 _ _ qs) := MXw3.out.keep b4
  have Be1 : Hid (Below wx.heap.size wx e1) := on Bw3.out b4
  clear b4
  go_wp2_with fail
  refine (eq_nums _ _ _ _ _ _ NXe1.out ny).mono ?_
  rintro e e2 ⟨rfl, b4⟩
  have qa0 := cell_keep b4 qa0
  have qa1 := cell_keep b4 qa1
  have qa2 := cell_keep b4 qa2
  have qb0 := cell_keep b4 qb0
  have qb1 := cell_keep b4 qb1
  have qb2 := cell_keep b4 qb2
  have N1e2 : Hid (Nums e2 _ _ Z) := N1e1.out.keep b4
  have N0e2 : Hid (Nums e2 _ _ Z) := N0e1.out.keep b4
  have NXe2 : Hid (Nums e2 _ _ rs) := NXe1.out.keep b4
  have MXe2 : Hid (Nums e2 _ _ qs) := MXe1.out.keep b4
  have Be2 : Hid (Below wx.heap.size wx e2) := on Be1.out b4
  clear b4 ny
  go_wp2_with fail
  refine (to_nums _ _ _ _ _ (KR.out.stay Be2.out) KB2.out).mono ?_
  rintro e e3 ⟨gg1, rfl, ny, b4⟩
  have qa0 := cell_keep b4 qa0
  have qa1 := cell_keep b4 qa1
  have qa2 := cell_keep b4 qa2
  have qb0 := cell_keep b4 qb0
  have qb1 := cell_keep b4 qb1
  have qb2 := cell_keep b4 qb2
  have N1e3 : Hid (Nums e3 _ _ Z) := N1e2.out.keep b4
  have N0e3 : Hid (Nums e3 _ _ Z) := N0e2.out.keep b4
  have NXe3 : Hid (Nums e3 _ _ rs) := NXe2.out.keep b4
  have MXe3 : Hid (Nums e3 _ _ qs) := MXe2.out.keep b4
  have Be3 : Hid (Below wx.heap.size wx e3) := on Be2.out b4
  clear b4
  go_wp2_with fail
  refine (eq_nums _ _ _ _ _ _ MXe3.out ny).mono ?_
  rintro e e4 ⟨rfl, b4⟩
  have qa0 := cell_keep b4 qa0
  have qa1 := cell_keep b4 qa1
  have qa2 := cell_keep b4 qa2
  have qb0 := cell_keep b4 qb0
  have qb1 := cell_keep b4 qb1
  have qb2 := cell_keep b4 qb2
  have N1e4 : Hid (Nums e4 _ _ Z) := N1e3.out.keep b4
  have N0e4 : Hid (Nums e4 _ _ Z) := N0e3.out.keep b4
  have NXe4 : Hid (Nums e4 _ _ rs) := NXe3.out.keep b4
  have MXe4 : Hid (Nums e4 _ _ qs) := MXe3.out.keep b4
  have Be4 : Hid (Below wx.heap.size wx e4) := on Be3.out b4
  clear b4 ny
  go_wp2_with fail
  refine (mark_nums _ 1 rs _ _ NXe4.out (by decide) (by have := HLE.out; omega)).mono ?_
  rintro e m1 ⟨rfl, -, g5⟩
  have qb0 := cell_grown g5 qb0 (own_not NX.out w2.heap.size (.inr (by have := S22.out; have := S3.out; omega)))
  have qb1 := cell_grown g5 qb1 (own_not NX.out w2.heap.size (.inr (by have := S22.out; have := S3.out; omega)))
  have qb2 := cell_grown g5 qb2 (own_not NX.out w2.heap.size (.inr (by have := S22.out; have := S3.out; omega)))
  have qa0 := cell_grown g5 qa0 (own_not NX.out _ (.inl (by simp)))
  have qa1 := cell_grown g5 qa1 (own_not NX.out _ (.inl (by simp)))
  have qa2 := cell_grown g5 qa2 (own_not NX.out _ (.inl (by simp)))
  have N1m1 : Hid (Nums m1 _ _ Z) := N1e4.out.kept g5 (blk_ne' (B := x2.heap.size) (fun k e => by have := (N1.out.lt k e).1; have := S3.out; omega) (fun k e => (NX.out.lt k e).2))
  have N0m1 : Hid (Nums m1 _ _ Z) := N0e4.out.kept g5 (blk_ne (B := w1.heap.size) (fun k e => (N0.out.lt k e).2) (fun k e => by have := (NX.out.lt k e).1; simp at this; omega))
  have MXm1 : Hid (Nums m1 _ _ qs) := MXe4.out.kept g5 (blk_ne' (B := x2.heap.size) (fun k e => (MX.out.lt k e).1) (fun k e => (NX.out.lt k e).2))
  have Bm1 : Hid (Below wx.heap.size wx m1) := below_of_grown Be4.out g5 NXe4.out (by have := B1.out.size; simp; omega)
  have hk5 : (rs.length : Int) ≤ 1048576 := by have := HLE.out; omega
  have hk5' : 0 ≤ (rs.length : Int) := by omega
  clear g5
  generalize (rs.length : Int) = lz at *
  go_wp2_with fail
  refine (mark_nums _ _ qs _ _ MXm1.out (by omega) (by have := KLE.out; omega)).mono ?_
  rintro e m2 ⟨rfl, -, g5⟩
  have qb0 := cell_grown g5 qb0 (own_not MX.out w2.heap.size (.inr (by have := S22.out; omega)))
  have qb1 := cell_grown g5 qb1 (own_not MX.out w2.heap.size (.inr (by have := S22.out; omega)))
  have qb2 := cell_grown g5 qb2 (own_not MX.out w2.heap.size (.inr (by have := S22.out; omega)))
  have qa0 := cell_grown g5 qa0 (own_not MX.out w1.heap.size (.inl (by have := SX.out; omega)))
  have qa1 := cell_grown g5 qa1 (own_not MX.out w1.heap.size (.inl (by have := SX.out; omega)))
  have qa2 := cell_grown g5 qa2 (own_not MX.out w1.heap.size (.inl (by have := SX.out; omega)))
  have N1m2 : Hid (Nums m2 _ _ Z) := N1m1.out.kept g5 (blk_ne' (B := x3.heap.size) (fun k e => (N1.out.lt k e).1) (fun k e => (MX.out.lt k e).2))
  have N0m2 : Hid (Nums m2 _ _ Z) := N0m1.out.kept g5 (blk_ne (B := w1.heap.size) (fun k e => (N0.out.lt k e).2) (fun k e => by have := (MX.out.lt k e).1; have := SX.out; omega))
  have Bm2 : Hid (Below wx.heap.size wx m2) := below_of_grown Bm1.out g5 MXm1.out (by have := BX.out.size; omega)
  have hj5 : (qs.length : Int) ≤ 1048576 := by have := KLE.out; omega
  have hj5' : 0 ≤ (qs.length : Int) := by omega
  have s15 : w1.heap.size < m2.heap.size := block_of_cell qa0
  have s25 : w2.heap.size < m2.heap.size := block_of_cell qb0
  clear g5
  generalize (qs.length : Int) = ly at *
  go_wp2_with fail
  refine (eq_wres _ _ _ _ _ _ _ _ N1m2.out N0m2.out).mono ?_
  rintro e t1 ⟨rfl, b4⟩
  have qa0 := cell_keep b4 qa0
  have qa1 := cell_keep b4 qa1
  have qa2 := cell_keep b4 qa2
  have qb0 := cell_keep b4 qb0
  have qb1 := cell_keep b4 qb1
  have qb2 := cell_keep b4 qb2
  have N1t1 : Hid (Nums t1 _ _ Z) := N1m2.out.keep b4
  have N0t1 : Hid (Nums t1 _ _ Z) := N0m2.out.keep b4
  have Bt1 : Hid (Below wx.heap.size wx t1) := on Bm2.out b4
  clear b4
  go_wp2_with fail
  refine (mark_wres _ _ _ _ 1 _ _ N1t1.out (by decide) HLEN.out).mono ?_
  rintro e t2 ⟨rfl, n7, g7⟩
  have qb0 := cell_grown g7 qb0 (own_not N1.out _ (.inr (Nat.le_refl _)))
  have qb1 := cell_grown g7 qb1 (own_not N1.out _ (.inr (Nat.le_refl _)))
  have qb2 := cell_grown g7 qb2 (own_not N1.out _ (.inr (Nat.le_refl _)))
  have qa0 := cell_grown g7 qa0 (own_not N1.out w1.heap.size (.inl (by have := SX.out; have := S3.out; omega)))
  have qa1 := cell_grown g7 qa1 (own_not N1.out w1.heap.size (.inl (by have := SX.out; have := S3.out; omega)))
  have qa2 := cell_grown g7 qa2 (own_not N1.out w1.heap.size (.inl (by have := SX.out; have := S3.out; omega)))
  have N1t2 : Hid (Nums t2 _ _ (marks 1 Z.length)) := n7
  have N0t2 : Hid (Nums t2 _ _ Z) := N0t1.out.kept g7 (blk_ne (B := w1.heap.size) (fun k e => (N0.out.lt k e).2) (fun k e => by have := (N1.out.lt k e).1; have := SX.out; have := S3.out; omega))
  have Bt2 : Hid (Below wx.heap.size wx t2) := below_of_grown Bt1.out g7 N1t1.out (by have := B3.out.size; omega)
  clear g7 n7
  go_wp2_with fail
  refine (held_wres _ _ _ 1 Z.length _ _ N1t2.out (by decide) HLEN.out).mono ?_
  rintro e t3 ⟨rfl, b4⟩
  have qa0 := cell_keep b4 qa0
  have qa1 := cell_keep b4 qa1
  have qa2 := cell_keep b4 qa2
  have qb0 := cell_keep b4 qb0
  have qb1 := cell_keep b4 qb1
  have qb2 := cell_keep b4 qb2
  have N1t3 : Hid (Nums t3 _ _ (marks 1 Z.length)) := N1t2.out.keep b4
  have N0t3 : Hid (Nums t3 _ _ Z) := N0t2.out.keep b4
  have Bt3 : Hid (Below wx.heap.size wx t3) := on Bt2.out b4
  clear b4
  go_wp2_with fail
  refine (to_nums _ _ _ _ _ (HR.out.stay Bt3.out) HB2.out).mono ?_
  rintro e t4 ⟨gz, rfl, nz, b4⟩
  have qa0 := cell_keep b4 qa0
  have qa1 := cell_keep b4 qa1
  have qa2 := cell_keep b4 qa2
  have qb0 := cell_keep b4 qb0
  have qb1 := cell_keep b4 qb1
  have qb2 := cell_keep b4 qb2
  have N1t4 : Hid (Nums t4 _ _ (marks 1 Z.length)) := N1t3.out.keep b4
  have N0t4 : Hid (Nums t4 _ _ Z) := N0t3.out.keep b4
  have Bt4 : Hid (Below wx.heap.size wx t4) := on Bt3.out b4
  have NZ : Hid (Nums t4 _ _ rs) := nz
  clear b4 nz
  go_wp2_with fail
  refine (to_nums _ _ _ _ _ (KR.out.stay Bt4.out) KB2.out).mono ?_
  rintro e t5 ⟨gz2, rfl, nz, b4⟩
  have qa0 := cell_keep b4 qa0
  have qa1 := cell_keep b4 qa1
  have qa2 := cell_keep b4 qa2
  have qb0 := cell_keep b4 qb0
  have qb1 := cell_keep b4 qb1
  have qb2 := cell_keep b4 qb2
  have N1t5 : Hid (Nums t5 _ _ (marks 1 Z.length)) := N1t4.out.keep b4
  have N0t5 : Hid (Nums t5 _ _ Z) := N0t4.out.keep b4
  have Bt5 : Hid (Below wx.heap.size wx t5) := on Bt4.out b4
  have MZ : Hid (Nums t5 _ _ qs) := nz
  have NZ5 : Hid (Nums t5 _ _ rs) := NZ.out.keep b4
  clear b4 nz
  go_wp2_with fail
  refine (fi _ _ _ _ _ NZ5.out MZ.out).mono ?_
  rintro e t6 ⟨v2, rfl, n6, b4⟩
  obtain ⟨a2, cap2, rfl, _, _, _⟩ := n6.shape
  have qa0 := cell_keep b4 qa0
  have qa1 := cell_keep b4 qa1
  have qa2 := cell_keep b4 qa2
  have qb0 := cell_keep b4 qb0
  have qb1 := cell_keep b4 qb1
  have qb2 := cell_keep b4 qb2
  have N1t6 : Hid (Nums t6 _ _ (marks 1 Z.length)) := N1t5.out.keep b4
  have N0t6 : Hid (Nums t6 _ _ Z) := N0t5.out.keep b4
  have Bt6 : Hid (Below wx.heap.size wx t6) := on Bt5.out b4
  have N2 : Hid (Nums t6 _ _ Z) := n6
  have s16 : w1.heap.size < t6.heap.size := block_of_cell qa0
  have s26 : w2.heap.size < t6.heap.size := block_of_cell qb0
  clear b4 n6
  go_wp2_with fail
  refine (eq_wres _ _ _ _ _ _ _ _ (N2.out.keep (al (Below.refl _ _) _)) (N0t6.out.keep (al (Below.refl _ _) _))).mono ?_
  rintro e t7 ⟨rfl, b7⟩
  have qj0 := cell_keep b7 (cell_push _ qb0)
  have qj1 := cell_keep b7 (cell_push _ qb1)
  have qj2 := cell_keep b7 (cell_push _ qb2)
  have N1t7 : Hid (Nums t7 _ _ (marks 1 Z.length)) := N1t6.out.keep (on (al (Below.refl _ _) _) b7)
  have Bt7 : Hid (Below wx.heap.size wx t7) := on (al Bt6.out _) b7
  clear b7 qa0 qa1 qa2 qb0 qb1 qb2
  go_wp2_with fail
  refine (held_wres _ _ _ 1 Z.length _ _ N1t7.out (by decide) HLEN.out).mono ?_
  rintro e t8 ⟨rfl, b8⟩
  go_wp2_with fail
  go_ret
  exact ⟨rfl, on Bt7.out b8⟩

set_option maxRecDepth 100000 in
theorem lifted (os : Os) (started : os.Started) (H : Type) (enc : TypeId × Value → H) :
    ReturnsInHanded {} Try.checked os 3 .any (Rows.fnExactPatchImageSpec.pre6 enc Try.prog Try.f3 Rows.fnExactPatchImageRow.domain false) (Rows.fnExactPatchImageSpec.post enc Try.prog Try.f3 false true false false) := by
  refine returnsInHanded_of_change (C := Try.checked) own started (by kernel_rfl) Try.func3
    (ChangeSpec.witness6 (enc := enc) (C := Try.checked) false ⟨#[], #[.slice none 0 0, .int .i64 0, .slice none 0 0], []⟩ 8 (by kernel_rfl) (by kernel_rfl) (by kernel_rfl) (by kernel_rfl)) ?_
  intro W base args ds gs before hval0 hW hcnd _
  have hval : ∀ (j : Nat) t v, Try.f3.params[j]? = some t → args[j]? = some v → Value.okWide Try.prog W .any base t v := hval0
  have hW' := hW
  obtain ⟨p, q, hA0, hV, rfl, hfz, hnd⟩ := hW
  have hA : DataW.TrodAll enc Try.prog W 0 (fun _ => true) true Try.f3.params.toList args.toList ds p := hA0
  rw [Try.params3] at hA hval
  obtain ⟨v0, vs0, d0, ds0, p0, q0, hargs, rfl, rfl, h0, r0⟩ := trodAll_cons hA
  obtain ⟨v1, vs1, d1, ds1, p1, q1, rfl, rfl, rfl, h1, r1⟩ := trodAll_cons r0
  obtain ⟨v2, vs2, d2, ds2, p2, q2, rfl, rfl, rfl, h2, r2⟩ := trodAll_cons r1
  obtain ⟨rfl, rfl, rfl⟩ := trodAll_nil r2
  obtain rfl : args = #[v0, v1, v2] := by cases args; simp_all
  obtain ⟨rfl, rfl⟩ := trodVars_none hV
  obtain ⟨a0, len0, cap0, rfl⟩ := okWide_slice Try.underlying22 (hval 0 22 v0 rfl rfl)
  have k0 := h0
  have lt0 : ∀ x ∈ p0, x.block < W.heap.size := by obtain ⟨m, hm⟩ := k0; exact DataW.trod_lt m _ _ _ hm
  obtain ⟨z0, w0⟩ : ∃ zs, IsRow .i64 W a0 len0 cap0 zs := by
    obtain ⟨fuel, hf⟩ := h0
    rcases open_ints Try.underlying22 Try.underlying2 (by kernel_rfl) hf with ⟨hcs, _⟩ | ⟨x, l, c, zs, hcs, _, hl, hm, hz, _, hcell, hwz⟩
    · simp [Value.cells] at hcs
      obtain ⟨rfl, rfl, rfl⟩ := hcs
      exact ⟨[], .inl ⟨rfl, rfl, rfl, rfl⟩⟩
    · simp [Value.cells] at hcs
      obtain ⟨rfl, rfl, rfl⟩ := hcs
      exact ⟨_, IsRow.of_all hl hm (by simpa using hz) hcell hwz⟩
  obtain ⟨a1, rfl, rfl, rfl, w1⟩ := open_int Try.underlying2 (hval 1 2 v1 rfl rfl) h1
  obtain ⟨a2, len2, cap2, rfl⟩ := okWide_slice Try.underlying22 (hval 2 22 v2 rfl rfl)
  have k2 := h2
  have lt2 : ∀ x ∈ p2, x.block < W.heap.size := by obtain ⟨m, hm⟩ := k2; exact DataW.trod_lt m _ _ _ hm
  obtain ⟨z2, w2⟩ : ∃ zs, IsRow .i64 W a2 len2 cap2 zs := by
    obtain ⟨fuel, hf⟩ := h2
    rcases open_ints Try.underlying22 Try.underlying2 (by kernel_rfl) hf with ⟨hcs, _⟩ | ⟨x, l, c, zs, hcs, _, hl, hm, hz, _, hcell, hwz⟩
    · simp [Value.cells] at hcs
      obtain ⟨rfl, rfl, rfl⟩ := hcs
      exact ⟨[], .inl ⟨rfl, rfl, rfl, rfl⟩⟩
    · simp [Value.cells] at hcs
      obtain ⟨rfl, rfl, rfl⟩ := hcs
      exact ⟨_, IsRow.of_all hl hm (by simpa using hz) hcell hwz⟩
  clear hA0 hval0
  refine (walk a0 len0 cap0 z0 a1 a2 len2 cap2 z2 W w0 w1 w2).mono fun e W' ⟨he, bel⟩ => ?_
  subst he
  exact ⟨_, rfl, _, _, _, [], _, [], hW', trodAll_mk1 (shut_bool Try.underlying4 _), (trodAll_cons_mk (Below.trod laidOut (by kernel_rfl) (of_decide_eq_true (by kernel_rfl)) k0 bel lt0) (trodAll_cons_mk (shut_int Try.underlying2 w1) (trodAll_cons_mk (Below.trod laidOut (by kernel_rfl) (of_decide_eq_true (by kernel_rfl)) k2 bel lt2) trodAll_mk0))), rfl, bel.frame _, fun h => by cases h⟩

theorem over : Rows.fnExactPatchImageRow.holds Try.pinned (OpenSpec.ofChange Rows.fnExactPatchImageSpec) :=
  OpenClaim.holds_of_wide 3 Try.f3 rfl rfl rfl rfl rfl rfl rfl ⟨rfl, rfl, rfl, rfl, rfl⟩ rfl rfl rfl rfl rfl (by kernel_rfl) Try.func3 (by kernel_rfl)
    (of_decide_eq_true (by kernel_rfl)) (by unfold Func.isWrapper; first | (rw [if_pos (by decide +kernel)]; kernel_rfl) | (rw [if_neg (by decide +kernel)]; exact ⟨rfl, rfl⟩))
    (fun os started H enc _ => lifted os started H enc)

theorem proved : Rows.FnExactPatchImageSaid := over
end Go.Proofs.Ytfnlmjbpchhkfaa.fnExactPatchImageDone
