/- The law FnExactPagesFrom answers true at every input, and each argument reads behind the call as it read ahead of it; no condition. -/
import Derived.Test.YtmkhjbiocjomlaaBase
import Derived.Test.YtmkhjbiocjomlaaPgz
namespace Go.Proofs.Ytmkhjbiocjomlaa.fnExactPagesFromDone
open Go.ChangeShapes Go.WideShapes Go.ChangeAt Go.RowKit
open Go.ChangeMaps (open_string shut_string)
set_option linter.unusedVariables false

theorem blk_ne {v u : Value} {B : Nat} (h : ∀ k, v.ownBlock = some k → k < B) (h' : ∀ k, u.ownBlock = some k → B ≤ k) : v.ownBlock = none ∨ v.ownBlock ≠ u.ownBlock := by
  cases e : v.ownBlock with
  | none => exact .inl rfl
  | some x =>
    refine .inr fun e2 => ?_
    have h1 := h x e
    have h2 := h' x e2.symm
    omega
theorem blk_ne' {v u : Value} {B : Nat} (h : ∀ k, v.ownBlock = some k → B ≤ k) (h' : ∀ k, u.ownBlock = some k → k < B) : v.ownBlock = none ∨ v.ownBlock ≠ u.ownBlock := by
  cases e : v.ownBlock with
  | none => exact .inl rfl
  | some x =>
    refine .inr fun e2 => ?_
    have h1 := h x e
    have h2 := h' x e2.symm
    omega
theorem fromP_len (zs : List Int) : (fromP zs).length ≤ 8 := by
  unfold fromP
  split
  · next h => split <;> simp; omega
  · simp

set_option maxHeartbeats 2000000 in
theorem walk (a0 : Option Addr) (len0 cap0 : Nat) (z0 : List Int) (w : World) (w0 : IsRow .i64 w a0 len0 cap0 z0) :
    Calls Try.prog 8 #[.slice a0 len0 cap0] w fun e w' => e = .returned (.bool true) ∧ Below w.heap.size w w' := by
  have HR : Hid (IsRow .i64 w a0 len0 cap0 z0) := w0
  have hz0 : Hid (z0.length = len0) := by
    show _ = _
    rcases w0 with ⟨_, h1, _, rfl⟩ | ⟨x, _, _, _, h1, _⟩
    · simpa using h1.symm
    · exact h1
  have hlen := fromP_len z0
  clear w0
  by_cases hbig : 1048576 < (len0 : Int)
  · go_enter Try.func8, Try.ntmps8
    go_wp2_with fail
    go_ret
    exact ⟨rfl, Below.refl _ _⟩
  have hb2 : (len0 : Int) ≤ 1048576 := by omega
  have HB2 : Hid (len0 ≤ 1048576) := by show _ ≤ _; omega
  clear hbig
  have fs := fun v b w h => spec_from v z0 b w h (by have := HB2.out; have := hz0.out; omega)
  have fi := fun v b w h => impl_from v z0 b w h (by have := HB2.out; have := hz0.out; omega)
  generalize fromC z0 = c at *
  generalize fromP z0 = Z at *
  have HLEN : Hid (1 + ((2 * Z.length : Nat) : Int) ≤ 4611686018427387904) := by show _ ≤ _; omega
  have hlI : ((2 * Z.length : Nat) : Int) ≤ 192 := by omega
  clear hlen
  go_enter Try.func8, Try.ntmps8
  go_wp2_with fail
  refine (to_nums _ _ _ _ _ HR.out HB2.out).mono ?_
  rintro e u1 ⟨g1, rfl, n1, b1⟩
  go_wp2_with fail
  refine (fs _ _ _ n1).mono ?_
  rintro e w1 ⟨v0, rfl, n0, bb⟩
  have N0 : Hid (Prs 37 w1 _ v0 Z) := n0
  have B1 : Hid (Below _ w w1) := on b1 bb
  have S0 : Hid (w.heap.size ≤ u1.heap.size) := b1.size
  clear n0 bb b1 n1 fs
  obtain ⟨a0', cap0', rfl, _, _, _⟩ := N0.out.shape
  go_wp2_with fail
  refine (to_nums _ _ _ _ _ (HR.out.stay (al B1.out _)) HB2.out).mono ?_
  rintro e u2 ⟨gx, rfl, nx, bx⟩
  have qa0 := cell_keep bx (cell_new (i := 0) rfl)
  have qa1 := cell_keep bx (cell_new (i := 1) rfl)
  have NX : Hid (Nums u2 _ _ z0) := nx
  have N0' : Hid (Prs 37 u2 _ _ Z) := N0.out.keep (on (al (Below.refl _ _) _) bx)
  have BX : Hid (Below _ w u2) := on (al B1.out _) bx
  have sx : w1.heap.size < u2.heap.size := block_of_cell qa0
  have sx' : Hid (w1.heap.size < u2.heap.size) := sx
  clear nx bx
  go_wp2_with fail
  refine (fi _ _ _ NX.out).mono ?_
  rintro e w2 ⟨v1, rfl, n1, b2⟩
  obtain ⟨a1, cap1, rfl, _, _, _⟩ := n1.shape
  have ra0 := cell_keep b2 qa0
  have ra1 := cell_keep b2 qa1
  have N1 : Hid (Prs 37 w2 _ _ Z) := n1
  have N0a : Hid (Prs 37 w2 _ _ Z) := N0'.out.keep b2
  have NXa : Hid (Nums w2 _ _ z0) := NX.out.keep b2
  have B2 : Hid (Below _ w w2) := on BX.out b2
  have s12 : w1.heap.size < w2.heap.size := block_of_cell ra0
  have S22 : Hid (u2.heap.size ≤ w2.heap.size) := b2.size
  clear n1 b2 qa0 qa1
  go_wp2_with fail
  refine (eq_pagesR _ _ _ _ _ _ _ (N1.out.keep (al (Below.refl _ _) _)) (N0a.out.keep (al (Below.refl _ _) _))).mono ?_
  rintro e w3 ⟨rfl, b3⟩
  have qb0 := cell_keep b3 (cell_new (i := 0) rfl)
  have qb1 := cell_keep b3 (cell_new (i := 1) rfl)
  have qc0 := cell_keep (on (al (Below.refl _ _) _) b3) ra0
  have qc1 := cell_keep (on (al (Below.refl _ _) _) b3) ra1
  have N1b : Hid (Prs 37 w3 _ _ Z) := N1.out.keep (on (al (Below.refl _ _) _) b3)
  have N0b : Hid (Prs 37 w3 _ _ Z) := N0a.out.keep (on (al (Below.refl _ _) _) b3)
  have NXb : Hid (Nums w3 _ _ z0) := NXa.out.keep (on (al (Below.refl _ _) _) b3)
  have B3 : Hid (Below _ w w3) := on (al B2.out _) b3
  clear ra0 ra1 b3
  go_wp2_with fail
  refine (to_nums _ _ _ _ _ (HR.out.stay B3.out) HB2.out).mono ?_
  rintro e u3 ⟨gy, rfl, ny, b3'⟩
  have qb0 := cell_keep b3' qb0
  have qb1 := cell_keep b3' qb1
  have qc0 := cell_keep b3' qc0
  have qc1 := cell_keep b3' qc1
  have N1b' : Hid (Prs 37 u3 _ _ Z) := N1b.out.keep b3'
  have N0b' : Hid (Prs 37 u3 _ _ Z) := N0b.out.keep b3'
  have NXb' : Hid (Nums u3 _ _ z0) := NXb.out.keep b3'
  have NY : Hid (Nums u3 _ _ z0) := ny
  have B3' : Hid (Below _ w u3) := on B3.out b3'
  clear b3' ny
  go_wp2_with fail
  refine (eq_nums _ _ _ _ _ _ NXb'.out NY.out).mono ?_
  rintro e u4 ⟨rfl, b4⟩
  have qb0 := cell_keep b4 qb0
  have qb1 := cell_keep b4 qb1
  have qc0 := cell_keep b4 qc0
  have qc1 := cell_keep b4 qc1
  have N1c : Hid (Prs 37 u4 _ _ Z) := N1b'.out.keep b4
  have N0c : Hid (Prs 37 u4 _ _ Z) := N0b'.out.keep b4
  have NXc : Hid (Nums u4 _ _ z0) := NXb'.out.keep b4
  have B4 : Hid (Below _ w u4) := on B3'.out b4
  clear b4
  go_wp2_with fail
  refine (mark_nums _ 1 z0 _ _ NXc.out (by decide) (by have := HB2.out; have := hz0.out; omega)).mono ?_
  rintro e u5 ⟨rfl, -, g5⟩
  have qb0 := cell_grown g5 qb0 (own_not NX.out _ (.inr (by have := S22.out; omega)))
  have qb1 := cell_grown g5 qb1 (own_not NX.out _ (.inr (by have := S22.out; omega)))
  have qc0 := cell_grown g5 qc0 (own_not NX.out _ (.inl (by simp)))
  have qc1 := cell_grown g5 qc1 (own_not NX.out _ (.inl (by simp)))
  have N1d : Hid (Prs 37 u5 _ _ Z) := N1c.out.kept g5 (blk_ne' (B := u2.heap.size) (fun k e => (N1.out.lt k e).1) (fun k e => (NX.out.lt k e).2))
  have N0d : Hid (Prs 37 u5 _ _ Z) := N0c.out.kept g5 (blk_ne (B := w1.heap.size) (fun k e => (N0.out.lt k e).2) (fun k e => by have := (NX.out.lt k e).1; simp at this; omega))
  have B5 : Hid (Below _ w u5) := below_of_grown B4.out g5 NXc.out (by have := B1.out.size; simp; omega)
  have s15 : w1.heap.size < u5.heap.size := block_of_cell qc0
  have s25 : w2.heap.size < u5.heap.size := block_of_cell qb0
  have hk5 : (z0.length : Int) ≤ 1048576 := by have := HB2.out; have := hz0.out; omega
  clear g5 NX NXa NXb NXb' NXc NY
  generalize z0.length = lz at *
  go_wp2_with fail
  refine (eq_pagesR _ _ _ _ _ _ _ N1d.out N0d.out).mono ?_
  rintro e u6 ⟨rfl, b6⟩
  have qb0 := cell_keep b6 qb0
  have qb1 := cell_keep b6 qb1
  have qc0 := cell_keep b6 qc0
  have qc1 := cell_keep b6 qc1
  have N1e : Hid (Prs 37 u6 _ _ Z) := N1d.out.keep b6
  have N0e : Hid (Prs 37 u6 _ _ Z) := N0d.out.keep b6
  have B6 : Hid (Below _ w u6) := on B5.out b6
  clear b6
  go_wp2_with fail
  refine (mark_pagesR _ _ _ 1 _ _ N1e.out (by decide) HLEN.out).mono ?_
  rintro e u7 ⟨rfl, n7, g7⟩
  have qb0 := cell_grown g7 qb0 (pown_not N1.out _ (.inr (Nat.le_refl _)))
  have qb1 := cell_grown g7 qb1 (pown_not N1.out _ (.inr (Nat.le_refl _)))
  have qc0 := cell_grown g7 qc0 (pown_not N1.out _ (.inl sx'.out))
  have qc1 := cell_grown g7 qc1 (pown_not N1.out _ (.inl sx'.out))
  have N1f : Hid (Prs 37 u7 _ _ (pmarks 1 Z.length)) := n7
  have N0f : Hid (Prs 37 u7 _ _ Z) := N0e.out.kept g7 (pown_ne N0.out N1.out (by have := sx'.out; omega))
  have B7 : Hid (Below _ w u7) := pbelow_of_grown B6.out g7 N1e.out (by have := BX.out.size; omega)
  clear g7 n7
  go_wp2_with fail
  refine (held_pagesR _ _ 1 Z.length _ _ N1f.out (by decide) HLEN.out).mono ?_
  rintro e u8 ⟨rfl, b8⟩
  have qb0 := cell_keep b8 qb0
  have qb1 := cell_keep b8 qb1
  have qc0 := cell_keep b8 qc0
  have qc1 := cell_keep b8 qc1
  have N1g : Hid (Prs 37 u8 _ _ (pmarks 1 Z.length)) := N1f.out.keep b8
  have N0g : Hid (Prs 37 u8 _ _ Z) := N0f.out.keep b8
  have B8 : Hid (Below _ w u8) := on B7.out b8
  clear b8
  go_wp2_with fail
  refine (to_nums _ _ _ _ _ (HR.out.stay B8.out) HB2.out).mono ?_
  rintro e u9 ⟨gz, rfl, nz, b9⟩
  have qb0 := cell_keep b9 qb0
  have qb1 := cell_keep b9 qb1
  have qc0 := cell_keep b9 qc0
  have qc1 := cell_keep b9 qc1
  have N1h : Hid (Prs 37 u9 _ _ (pmarks 1 Z.length)) := N1g.out.keep b9
  have N0h : Hid (Prs 37 u9 _ _ Z) := N0g.out.keep b9
  have NZ : Hid (Nums u9 _ _ z0) := nz
  have B9 : Hid (Below _ w u9) := on B8.out b9
  clear b9 nz
  go_wp2_with fail
  refine (fi _ _ _ NZ.out).mono ?_
  rintro e w6 ⟨v2, rfl, n6, b6⟩
  obtain ⟨a2, cap2, rfl, _, _, _⟩ := n6.shape
  have qb0 := cell_keep b6 qb0
  have qb1 := cell_keep b6 qb1
  have qc0 := cell_keep b6 qc0
  have qc1 := cell_keep b6 qc1
  have N1i : Hid (Prs 37 w6 _ _ (pmarks 1 Z.length)) := N1h.out.keep b6
  have N0i : Hid (Prs 37 w6 _ _ Z) := N0h.out.keep b6
  have N2 : Hid (Prs 37 w6 _ _ Z) := n6
  have BB : Hid (Below _ w w6) := on B9.out b6
  have s16 : w1.heap.size < w6.heap.size := block_of_cell qc0
  have s26 : w2.heap.size < w6.heap.size := block_of_cell qb0
  clear b6 n6
  go_wp2_with fail
  refine (eq_pagesR _ _ _ _ _ _ _ (N2.out.keep (al (Below.refl _ _) _)) (N0i.out.keep (al (Below.refl _ _) _))).mono ?_
  rintro e w7 ⟨rfl, b7⟩
  have qj0 := cell_keep b7 (cell_push _ qb0)
  have qj1 := cell_keep b7 (cell_push _ qb1)
  have N1j : Hid (Prs 37 w7 _ _ (pmarks 1 Z.length)) := N1i.out.keep (on (al (Below.refl _ _) _) b7)
  have BC : Hid (Below _ w w7) := on (al BB.out _) b7
  clear b7
  go_wp2_with fail
  refine (held_pagesR _ _ 1 Z.length _ _ N1j.out (by decide) HLEN.out).mono ?_
  rintro e w8 ⟨rfl, b8⟩
  go_wp2_with fail
  go_ret
  exact ⟨rfl, on BC.out b8⟩

set_option maxRecDepth 100000 in
theorem lifted (os : Os) (started : os.Started) (H : Type) (enc : TypeId × Value → H) :
    ReturnsInHanded {} Try.checked os 8 .any (Rows.fnExactPagesFromSpec.pre6 enc Try.prog Try.f8 Rows.fnExactPagesFromRow.domain false) (Rows.fnExactPagesFromSpec.post enc Try.prog Try.f8 false true false false) := by
  refine returnsInHanded_of_change (C := Try.checked) own started (by kernel_rfl) Try.func8
    (ChangeSpec.witness6 (enc := enc) (C := Try.checked) false ⟨#[], #[.slice none 0 0], []⟩ 8 (by kernel_rfl) (by kernel_rfl) (by kernel_rfl) (by kernel_rfl)) ?_
  intro W base args ds gs before hval0 hW hcnd _
  have hval : ∀ (j : Nat) t v, Try.f8.params[j]? = some t → args[j]? = some v → Value.okWide Try.prog W .any base t v := hval0
  have hW' := hW
  obtain ⟨p, q, hA0, hV, rfl, hfz, hnd⟩ := hW
  have hA : DataW.TrodAll enc Try.prog W 0 (fun _ => true) true Try.f8.params.toList args.toList ds p := hA0
  rw [Try.params8] at hA hval
  obtain ⟨v0, vs0, d0, ds0, p0, q0, hargs, rfl, rfl, h0, r0⟩ := trodAll_cons hA
  obtain ⟨rfl, rfl, rfl⟩ := trodAll_nil r0
  obtain rfl : args = #[v0] := by cases args; simp_all
  obtain ⟨rfl, rfl⟩ := trodVars_none hV
  obtain ⟨a0, len0, cap0, rfl⟩ := okWide_slice Try.underlying54 (hval 0 54 v0 rfl rfl)
  have k0 := h0
  have lt0 : ∀ x ∈ p0, x.block < W.heap.size := by obtain ⟨m, hm⟩ := k0; exact DataW.trod_lt m _ _ _ hm
  obtain ⟨z0, w0⟩ : ∃ zs, IsRow .i64 W a0 len0 cap0 zs := by
    obtain ⟨fuel, hf⟩ := h0
    rcases open_ints Try.underlying54 Try.underlying2 (by kernel_rfl) hf with ⟨hcs, _⟩ | ⟨x, l, c, zs, hcs, _, hl, hm, hz, _, hcell, hwz⟩
    · simp [Value.cells] at hcs
      obtain ⟨rfl, rfl, rfl⟩ := hcs
      exact ⟨[], .inl ⟨rfl, rfl, rfl, rfl⟩⟩
    · simp [Value.cells] at hcs
      obtain ⟨rfl, rfl, rfl⟩ := hcs
      exact ⟨_, IsRow.of_all hl hm (by simpa using hz) hcell hwz⟩
  clear hA0 hval0
  refine (walk a0 len0 cap0 z0 W w0).mono fun e W' ⟨he, bel⟩ => ?_
  subst he
  exact ⟨_, rfl, _, _, _, [], _, [], hW', trodAll_mk1 (shut_bool Try.underlying4 _), (trodAll_cons_mk (Below.trod laidOut (by kernel_rfl) (of_decide_eq_true (by kernel_rfl)) k0 bel lt0) trodAll_mk0), rfl, bel.frame _, fun h => by cases h⟩

theorem over : Rows.fnExactPagesFromRow.holds Try.pinned (OpenSpec.ofChange Rows.fnExactPagesFromSpec) :=
  OpenClaim.holds_of_wide 8 Try.f8 rfl rfl rfl rfl rfl rfl rfl ⟨rfl, rfl, rfl, rfl, rfl⟩ rfl rfl rfl rfl rfl (by kernel_rfl) Try.func8 (by kernel_rfl)
    (of_decide_eq_true (by kernel_rfl)) (by unfold Func.isWrapper; first | (rw [if_pos (by decide +kernel)]; kernel_rfl) | (rw [if_neg (by decide +kernel)]; exact ⟨rfl, rfl⟩))
    (fun os started H enc _ => lifted os started H enc)

theorem proved : Rows.FnExactPagesFromSaid := over
end Go.Proofs.Ytmkhjbiocjomlaa.fnExactPagesFromDone
