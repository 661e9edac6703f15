/- The law FnExactAssemble answers true at every input, and each argument reads behind the call as it read ahead of it; no condition. -/
import Derived.Test.YtmddpomibogfcaaBase
import Derived.Test.YtmddpomibogfcaaAmu
import Derived.Test.YtmddpomibogfcaaWre
namespace Go.Proofs.Ytmddpomibogfcaa.fnExactAssembleDone
open Go.ChangeShapes Go.WideShapes Go.ChangeAt Go.RowKit
open Go.ChangeMaps (open_string shut_string)
set_option linter.unusedVariables false

theorem blk_neA {v u : Value} {B : Nat} (h : ∀ k, v.ownBlock = some k → k < B) (h' : ∀ k, u.ownBlock = some k → B ≤ k) : v.ownBlock = none ∨ v.ownBlock ≠ u.ownBlock := by
  cases e : v.ownBlock with
  | none => exact .inl rfl
  | some x =>
    refine .inr fun e2 => ?_
    have h1 := h x e
    have h2 := h' x e2.symm
    omega
theorem nu_not {w : World} {base : Nat} {v : Value} {zs : List Int} (h : Nums w base v zs) (x : Nat) (hx : x < base ∨ w.heap.size ≤ x) : some x ≠ v.ownBlock := by
  intro e
  have := h.lt x e.symm
  omega
theorem asmV_len (tx : Wb) : (asmV tx).2.2.length ≤ 80 := by
  unfold asmV
  split
  · rename_i h0
    have h1 := asmR_len (labV tx).2.2 (cutT tx) 0 []
    have h2 : (cutT tx).length ≤ 80 := by
      unfold labV at h0
      split at h0
      · cases h0
      · rw [cutT_len]; omega
    simp at h1
    omega
  · simp
set_option maxHeartbeats 4000000 in
theorem walk (s0 : ByteArray) (hs0 : s0.size ≤ maxLen) (w : World) :
    Calls Try.prog 3 #[.string s0] w fun e w' => e = .returned (.bool true) ∧ Below w.heap.size w w' := by
  obtain ⟨wx, rfl⟩ : ∃ wx, wx = w := ⟨_, rfl⟩
  obtain ⟨tx, rfl⟩ : ∃ tx, s0 = bq tx := ⟨_, bq_of s0⟩
  have hz : (bq tx).size = tx.length := bq_size tx
  obtain ⟨n, hn⟩ : ∃ n, tx.length = n := ⟨_, rfl⟩
  rw [hn] at hz
  have hmI : (n : Int) ≤ 9223372036854775807 := by rw [hz] at hs0; unfold maxLen at hs0; omega
  by_cases hbig : (1048576 : Int) < n
  · clear hs0
    go_enter Try.func3, Try.ntmps3
    go_wp2_with fail
    go_ret
    exact ⟨rfl, Below.refl _ _⟩
  have HB2 : Hid (tx.length ≤ 1048576) := by show _ ≤ _; omega
  clear hs0 hn
  have fs := fun w => s_assemble tx w HB2.out
  have fi := fun w => i_assemble tx w HB2.out
  have hlen := asmV_len tx
  generalize asmV tx = T at *
  obtain ⟨C, A, Z⟩ := T
  have HLEN : Hid (1 + (Z.length : Int) ≤ 4611686018427387904) := by show _ ≤ _; simp at hlen; omega
  have hq0 : 0 ≤ 1 + (Z.length : Int) := by omega
  have hq1 : 1 + (Z.length : Int) ≤ 4611686018427387904 := HLEN.out
  clear hlen
  go_enter Try.func3, Try.ntmps3
  go_wp2_with fail
  refine (fs _).mono ?_
  rintro e w1 ⟨v0, rfl, n0, bb⟩
  have N0 : Hid (Nums w1 _ v0 Z) := n0
  have B1 : Hid (Below wx.heap.size wx w1) := bb
  obtain ⟨a0', cap0', rfl, _, _, _⟩ := n0.shape
  clear n0 bb fs
  go_wp2_with fail
  refine (fi _).mono ?_
  rintro e w2 ⟨v1, rfl, n1, b2⟩
  obtain ⟨a1', cap1', rfl, _, _, _⟩ := n1.shape
  have qa0 := cell_keep b2 (cell_new (i := 0) rfl)
  have qa1 := cell_keep b2 (cell_new (i := 1) rfl)
  have qa2 := cell_keep b2 (cell_new (i := 2) rfl)
  have N1 : Hid (Nums w2 _ _ Z) := n1
  have N0a : Hid (Nums w2 _ _ Z) := N0.out.keep (on (al (Below.refl _ _) _) b2)
  have B2 : Hid (Below wx.heap.size wx w2) := on (al B1.out _) b2
  have S12 : Hid (w1.heap.size < w2.heap.size) := block_of_cell qa0
  have s12 := S12.out
  have SA : Hid ((w1.alloc (.cells #[.int .i64 C, .int .i64 A, .slice a0' Z.length cap0'] 24)).heap.size = w1.heap.size + 1) := by show _ = _; simp
  clear n1 b2
  generalize hlz : Z.length = lz at *
  have HLZ : Hid (Z.length = lz) := hlz
  clear hlz
  go_wp2_with fail
  refine (eq_wres _ _ _ _ _ _ _ _ (N1.out.keep (al (Below.refl _ _) _)) (N0a.out.keep (al (Below.refl _ _) _))).mono ?_
  rintro e w3 ⟨rfl, b3⟩
  have qb0 := cell_keep b3 (cell_new (i := 0) rfl)
  have qb1 := cell_keep b3 (cell_new (i := 1) rfl)
  have qb2 := cell_keep b3 (cell_new (i := 2) rfl)
  have qa0 := cell_keep (on (al (Below.refl _ _) _) b3) qa0
  have qa1 := cell_keep (on (al (Below.refl _ _) _) b3) qa1
  have qa2 := cell_keep (on (al (Below.refl _ _) _) b3) qa2
  have N1w3 : Hid (Nums w3 _ _ Z) := N1.out.keep (on (al (Below.refl _ _) _) b3)
  have N0w3 : Hid (Nums w3 _ _ Z) := N0a.out.keep (on (al (Below.refl _ _) _) b3)
  have Bw3 : Hid (Below wx.heap.size wx w3) := on (al B2.out _) b3
  clear b3
  go_wp2_with fail
  refine (mark_wres _ _ _ _ 1 _ _ N1w3.out (by decide) (by rw [HLZ.out]; exact HLEN.out)).mono ?_
  rintro e t2 ⟨rfl, n7, g7⟩
  have qb0 := cell_grL g7 qb0 (nu_not N1.out _ (.inr (Nat.le_refl _)))
  have qb1 := cell_grL g7 qb1 (nu_not N1.out _ (.inr (Nat.le_refl _)))
  have qb2 := cell_grL g7 qb2 (nu_not N1.out _ (.inr (Nat.le_refl _)))
  have qa0 := cell_grL g7 qa0 (nu_not N1.out w1.heap.size (.inl (by have := SA.out; omega)))
  have qa1 := cell_grL g7 qa1 (nu_not N1.out w1.heap.size (.inl (by have := SA.out; omega)))
  have qa2 := cell_grL g7 qa2 (nu_not N1.out w1.heap.size (.inl (by have := SA.out; omega)))
  rw [HLZ.out] at n7
  have N1t2 : Hid (Nums t2 _ _ (marks 1 lz)) := n7
  have N0t2 : Hid (Nums t2 _ _ Z) := World.ownsRow.kept N0w3.out g7 (blk_neA (B := w1.heap.size) (fun k e => (N0.out.lt k e).2) (fun k e => by have := (N1.out.lt k e).1; have := SA.out; omega))
  have Bt2 : Hid (Below wx.heap.size wx t2) := Bw3.out.grown g7 Bw3.out.size (fun k e => by have := (N1w3.out.lt k e).1; have := SA.out; have := B1.out.size; omega)
  rw [HLZ.out]
  clear g7 n7
  generalize hqq : 1 + (lz : Int) = qq at *
  have HQQ : Hid (1 + (lz : Int) = qq) := hqq
  clear hqq
  go_wp2_with fail
  refine (held_wres _ _ _ 1 lz _ _ N1t2.out (by decide) (by rw [HQQ.out]; exact HLEN.out)).mono ?_
  rintro e t3 ⟨rfl, b4⟩
  rw [HQQ.out]
  have qa0 := cell_keep b4 qa0
  have qa1 := cell_keep b4 qa1
  have qa2 := cell_keep b4 qa2
  have qb0 := cell_keep b4 qb0
  have qb1 := cell_keep b4 qb1
  have qb2 := cell_keep b4 qb2
  have N1t3 : Hid (Nums t3 _ _ (marks 1 lz)) := N1t2.out.keep b4
  have N0t3 : Hid (Nums t3 _ _ Z) := N0t2.out.keep b4
  have Bt3 : Hid (Below wx.heap.size wx t3) := on Bt2.out b4
  clear b4
  go_wp2_with fail
  refine (fi _).mono ?_
  rintro e t6 ⟨v2, rfl, n6, b4⟩
  obtain ⟨a2, cap2, rfl, _, _, _⟩ := n6.shape
  have qa0 := cell_keep b4 qa0
  have qa1 := cell_keep b4 qa1
  have qa2 := cell_keep b4 qa2
  have qb0 := cell_keep b4 qb0
  have qb1 := cell_keep b4 qb1
  have qb2 := cell_keep b4 qb2
  have N1t6 : Hid (Nums t6 _ _ (marks 1 lz)) := N1t3.out.keep b4
  have N0t6 : Hid (Nums t6 _ _ Z) := N0t3.out.keep b4
  have Bt6 : Hid (Below wx.heap.size wx t6) := on Bt3.out b4
  have N2 : Hid (Nums t6 _ _ Z) := n6
  have s16 : w1.heap.size < t6.heap.size := block_of_cell qa0
  have s26 : w2.heap.size < t6.heap.size := block_of_cell qb0
  clear b4 n6
  rw [HLZ.out] at N2 ⊢
  go_wp2_with fail
  refine (eq_wres _ _ _ _ _ _ _ _ (N2.out.keep (al (Below.refl _ _) _)) (N0t6.out.keep (al (Below.refl _ _) _))).mono ?_
  rintro e t7 ⟨rfl, b7⟩
  have qj0 := cell_keep b7 (cell_push _ qb0)
  have qj1 := cell_keep b7 (cell_push _ qb1)
  have qj2 := cell_keep b7 (cell_push _ qb2)
  have N1t7 : Hid (Nums t7 _ _ (marks 1 lz)) := N1t6.out.keep (on (al (Below.refl _ _) _) b7)
  have Bt7 : Hid (Below wx.heap.size wx t7) := on (al Bt6.out _) b7
  clear b7 qa0 qa1 qa2 qb0 qb1 qb2
  go_wp2_with fail
  refine (held_wres _ _ _ 1 lz _ _ N1t7.out (by decide) (by rw [HQQ.out]; exact HLEN.out)).mono ?_
  rintro e t8 ⟨rfl, b8⟩
  rw [HQQ.out]
  go_wp2_with fail
  go_ret
  exact ⟨rfl, on Bt7.out b8⟩

set_option maxRecDepth 100000 in
theorem lifted (os : Go.Os) (started : os.Started) (H : Type) (enc : TypeId × Value → H) :
    ReturnsInHanded {} Try.checked os 3 .any (Rows.fnExactAssembleSpec.pre6 enc Try.prog Try.f3 Rows.fnExactAssembleRow.domain false) (Rows.fnExactAssembleSpec.post enc Try.prog Try.f3 false true false false) := by
  refine returnsInHanded_of_change (C := Try.checked) own started (by kernel_rfl) Try.func3
    (ChangeSpec.witness6 (enc := enc) (C := Try.checked) false ⟨#[], #[.string ⟨#[]⟩], []⟩ 8 (by kernel_rfl) (by kernel_rfl) (by kernel_rfl) (by kernel_rfl)) ?_
  intro W base args ds gs before hval0 hW hcnd _
  have hval : ∀ (j : Nat) t v, Try.f3.params[j]? = some t → args[j]? = some v → Value.okWide Try.prog W .any base t v := hval0
  have hW' := hW
  obtain ⟨p, q, hA0, hV, rfl, hfz, hnd⟩ := hW
  have hA : DataW.TrodAll enc Try.prog W 0 (fun _ => true) true Try.f3.params.toList args.toList ds p := hA0
  rw [Try.params3] at hA hval
  obtain ⟨v0, vs0, d0, ds0, p0, q0, hargs, rfl, rfl, h0, r0⟩ := trodAll_cons hA
  obtain ⟨rfl, rfl, rfl⟩ := trodAll_nil r0
  obtain rfl : args = #[v0] := by cases args; simp_all
  obtain ⟨rfl, rfl⟩ := trodVars_none hV
  obtain ⟨a0, rfl, rfl, rfl, w0⟩ := open_string Try.underlying9 (hval 0 9 v0 rfl rfl) h0
  clear hA0 hval0
  refine (walk a0 w0 W).mono fun e W' ⟨he, bel⟩ => ?_
  subst he
  exact ⟨_, rfl, _, _, _, [], [], [], hW', trodAll_mk1 (shut_bool Try.underlying4 _), (trodAll_cons_mk (shut_string Try.underlying9 w0) trodAll_mk0), rfl, bel.frame _, fun h => by cases h⟩

theorem over : Rows.fnExactAssembleRow.holds Try.pinned (OpenSpec.ofChange Rows.fnExactAssembleSpec) :=
  OpenClaim.holds_of_wide 3 Try.f3 rfl rfl rfl rfl rfl rfl rfl ⟨rfl, rfl, rfl, rfl, rfl⟩ rfl rfl rfl rfl rfl (by kernel_rfl) Try.func3 (by kernel_rfl)
    (of_decide_eq_true (by kernel_rfl)) (by unfold Func.isWrapper; first | (rw [if_pos (by decide +kernel)]; kernel_rfl) | (rw [if_neg (by decide +kernel)]; exact ⟨rfl, rfl⟩))
    (fun os started H enc _ => lifted os started H enc)

theorem proved : Rows.FnExactAssembleSaid := over
end Go.Proofs.Ytmddpomibogfcaa.fnExactAssembleDone
