/- The law FnFills answers true at every input, and each argument reads behind the call as it read ahead of it; no condition. -/
import Derived.Test.YteaccakodaidpaaBase
import Derived.Test.YteaccakodaidpaaCae
import Derived.Test.YteaccakodaidpaaFlw
import Derived.Deep.RegionWith
import Derived.Deep.Cut
import Derived.Deep.CutRange
namespace Go.Proofs.Yteaccakodaidpaa.fnFillsDone
open Go.ChangeShapes Go.WideShapes Go.ChangeAt Go.RowKit
open Go.ChangeMaps (open_string shut_string)
set_option linter.unusedVariables false

theorem rng {w : World} {q : Nat} {cs : List Value} {t : TypeId} (h : Vb w q cs.toArray t) : w.rangeAt q 0 cs := fun j v hv => by
  rw [Nat.zero_add]
  exact h.cell j (by simpa using hv)
theorem thr {w : World} {q : Nat} {a b : Value} {t : TypeId} (h : Vb w q #[a, b] t) : w.there q 0 2 := fun j hj => by
  rw [Nat.zero_add]
  refine ⟨?_, h.free _⟩
  have e : j = 0 ∨ j = 1 := by omega
  rcases e with rfl | rfl
  · rw [h.cell 0 rfl]; rfl
  · rw [h.cell 1 rfl]; rfl
theorem qrng {w : World} {base g n cap : Nat} {rs : List Qd} (h : Qs 26 w base (.slice (some ⟨g, 0, none⟩) n cap) rs) (hn : n = rs.length) (i : Nat) (hi : i < n) : w.rangeAt g (i * 4) [.int .i64 (rs.getD i qz).tag, .int .i64 (rs.getD i qz).page, .int .i64 (rs.getD i qz).to, .int .i64 (rs.getD i qz).kinds] := fun j v hv => by
  obtain ⟨c0, c1, c2, c3⟩ := h.cell hn i hi
  have hj : j < 4 := by have := (List.getElem?_eq_some_iff.1 hv).1; simpa using this
  have e : j = 0 ∨ j = 1 ∨ j = 2 ∨ j = 3 := by omega
  rcases e with rfl | rfl | rfl | rfl
  · cases hv; exact c0
  · cases hv; exact c1
  · cases hv; exact c2
  · cases hv; exact c3
theorem field_i0 (x0 x1 : Value) (w : World) : (Instr.field 33 (.agg #[x0, x1]) 0).run Try.prog w = .ok x0 w := by kernel_rfl
theorem field_c0 (x0 x1 x2 x3 : Value) (w : World) : (Instr.field 30 (.agg #[x0, x1, x2, x3]) 0).run Try.prog w = .ok x0 w := by kernel_rfl
theorem fc_parts {rs : List Qd} {q : Qd} (h : fcC rs q = 0) : cfV rs = 0 ∧ okQ q = true ∧ fcL rs q = fillQ rs q := by
  refine ⟨?_, ?_, if_pos h⟩
  · unfold fcC at h
    split at h
    · assumption
    · exact h
  · unfold fcC at h
    split at h
    · unfold hfV at h
      split at h
      · assumption
      · exact absurd h (by decide)
    · rename_i hn; exact absurd h hn
theorem wf_tiny {x : Int} (h0 : 0 ≤ x) (h9 : x ≤ 9) : wfI x := by
  have e : x = 0 ∨ x = 1 ∨ x = 2 ∨ x = 3 ∨ x = 4 ∨ x = 5 ∨ x = 6 ∨ x = 7 ∨ x = 8 ∨ x = 9 := by omega
  rcases e with rfl | rfl | rfl | rfl | rfl | rfl | rfl | rfl | rfl | rfl <;> rfl
theorem ok_wf {q : Qd} (h : okQ q = true) : wfI q.tag ∧ wfI q.page := by
  have := okQ_iff.1 h
  exact ⟨wf_tiny (by omega) (by omega), wf_tiny (by omega) (by omega)⟩
set_option maxRecDepth 20000 in
set_option maxHeartbeats 16000000 in
theorem walk (a0 : Option Addr) (len0 cap0 : Nat) (z0 : List Int) (w : World) (w0 : IsRow .u8 w a0 len0 cap0 z0) :
    Calls Try.prog 3 #[.slice a0 len0 cap0] w fun e w' => e = .returned (.bool true) ∧ Below w.heap.size w w' := by
  have HR : Hid (IsRow .u8 w a0 len0 cap0 z0) := w0
  clear w0
  by_cases hbig : 1048576 < (len0 : Int)
  · go_enter Try.func3, Try.ntmps3
    go_wp2
    go_ret
    exact ⟨rfl, Below.refl _ _⟩
  have hb2 : (len0 : Int) ≤ 1048576 := by omega
  clear hbig
  go_enter Try.func3, Try.ntmps3
  go_wp2_with (go_at_call 9; go_in)
  refine (drawFill HR.out).mono ?_
  rintro e w1 ⟨v, rs, q, rfl, hl, hq, b1⟩
  clear HR
  obtain ⟨ca, cc, hv, _, _, hcg⟩ := hq.shape
  obtain ⟨n, hn⟩ : ∃ n, rs.length = n := ⟨_, rfl⟩
  rw [hn] at hv hcg hl
  subst hv
  have HN : Hid (n = rs.length) := hn.symm
  have HCG : Hid (0 < n → ∃ g, ca = some ⟨g, 0, none⟩) := hcg
  have hn13 : (n : Int) ≤ 13 := by omega
  clear hn hcg hl
  have qe : q.val = .agg #[.int .i64 q.tag, .int .i64 q.page, .int .i64 q.to, .int .i64 q.kinds] := rfl
  rw [qe]
  go_upto_region 4 with fail
  obtain ⟨t, ht⟩ : ∃ t, w1.heap.size = t := ⟨_, rfl⟩
  have VT : Hid (Vb (w1.alloc (.cells #[.int .i64 q.tag, .int .i64 q.page, .int .i64 q.to, .int .i64 q.kinds] 26)) t #[.int .i64 q.tag, .int .i64 q.page, .int .i64 q.to, .int .i64 q.kinds] 26) := by show Vb _ _ _ _; rw [← ht]; exact Vb.new _ _ _
  have B2 : Hid (Below w.heap.size w (w1.alloc (.cells #[.int .i64 q.tag, .int .i64 q.page, .int .i64 q.to, .int .i64 q.kinds] 26))) := al b1 _
  have QC : Hid (Qs 26 (w1.alloc (.cells #[.int .i64 q.tag, .int .i64 q.page, .int .i64 q.to, .int .i64 q.kinds] 26)) w.heap.size (.slice ca n cc) rs) := hq.keep (al (Below.refl _ _) _)
  clear b1 hq qe
  rw [ht]
  generalize w1.alloc (.cells #[.int .i64 q.tag, .int .i64 q.page, .int .i64 q.to, .int .i64 q.kinds] 26) = W2 at *
  clear ht
  have t0 := VT.out.cell 0 rfl
  have t1 := VT.out.cell 1 rfl
  have t2 := VT.out.cell 2 rfl
  have t3 := VT.out.cell 3 rfl
  go_wp2_with fail
  clear t0 t1 t2 t3
  have fi := fun u h => impl_fillCache ca n cc rs q u h
  obtain ⟨c, hc⟩ : ∃ c, fcC rs q = c := ⟨_, rfl⟩
  simp only [hc] at fi
  refine (fi _ QC.out.read).mono ?_
  rintro e w3 ⟨v3, rfl, q3, b3⟩
  obtain ⟨la, lc, hv3, _, _, hlg⟩ := q3.shape
  obtain ⟨ll, hll⟩ : ∃ ll, (fcL rs q).length = ll := ⟨_, rfl⟩
  rw [hll] at hv3 hlg
  subst hv3
  clear fi
  go_upto_region 5 with fail
  obtain ⟨s, hs⟩ : ∃ s, w3.heap.size = s := ⟨_, rfl⟩
  have VS : Hid (Vb (w3.alloc (.cells #[.int .i64 c, .int .i64 0, .bool false, .slice la ll lc] 30)) s #[.int .i64 c, .int .i64 0, .bool false, .slice la ll lc] 30) := by show Vb _ _ _ _; rw [← hs]; exact Vb.new _ _ _
  have BW : Hid (Below W2.heap.size W2 (w3.alloc (.cells #[.int .i64 c, .int .i64 0, .bool false, .slice la ll lc] 30))) := al b3 _
  have VQ : Hid (Vb (w3.alloc (.cells #[.int .i64 c, .int .i64 0, .bool false, .slice la ll lc] 30)) t #[.int .i64 q.tag, .int .i64 q.page, .int .i64 q.to, .int .i64 q.kinds] 26) := VT.out.keep BW.out
  have B3 : Hid (Below w.heap.size w (w3.alloc (.cells #[.int .i64 c, .int .i64 0, .bool false, .slice la ll lc] 30))) := on B2.out BW.out
  have QR : Hid (Qs 26 (w3.alloc (.cells #[.int .i64 c, .int .i64 0, .bool false, .slice la ll lc] 30)) 0 (.slice la ll lc) (fcL rs q)) := (q3.keep (al (Below.refl _ _) _)).mono (Nat.zero_le _)
  rw [hs]
  generalize w3.alloc (.cells #[.int .i64 c, .int .i64 0, .bool false, .slice la ll lc] 30) = W3 at *
  clear hs b3 q3
  have s0 := VS.out.cell 0 rfl
  by_cases hc0 : c = 0
  case neg =>
    have fs := fun u h => spec_fillCache ca n cc rs q u h
    simp only [hc] at fs
    have FS : Hid (_) := fs
    have hcb : (c != 0) = true := by simpa using hc0
    clear fs hc QR
    go_upto_region 6 with fail
    clear s0
    have SD : Hid (Vb W3.drew t #[.int .i64 q.tag, .int .i64 q.page, .int .i64 q.to, .int .i64 q.kinds] 26 ∧ Vb W3.drew s #[.int .i64 c, .int .i64 0, .bool false, .slice la ll lc] 30) := ⟨VQ.out.keep (Below.refl _ _).drew, VS.out.keep (Below.refl _ _).drew⟩
    have BD : Hid (Below w.heap.size w W3.drew) := B3.out.drew
    have BX : Hid (Below W2.heap.size W2 W3.drew) := BW.out.drew
    refine wp_region_held (S := fun w' => Vb w' t #[.int .i64 q.tag, .int .i64 q.page, .int .i64 q.to, .int .i64 q.kinds] 26 ∧ Vb w' s #[.int .i64 c, .int .i64 0, .bool false, .slice la ll lc] 30) (by kernel_rfl) ?_
    change wpAnyH _ _ _ _ _ _ _ _ (World.drew _)
    generalize W3.drew = v1 at *
    refine wpAnyH_take (i := 0) (v := .slice ca n cc) rfl (by kernel_rfl) (by kernel_rfl) (by kernel_rfl) (fun _ _ _ h => h) (Or.inl ⟨by rfl, fun w' hs => by go_simp⟩) SD.out ?_
    change wpAnyH _ _ _ _ _ _ _ (Act.put _ (some 24) _) _
    simp only [Act.put, List.setIfInBounds_toArray, List.set_cons_zero, List.set_cons_succ]
    refine wpAnyH_take (i := 1) (v := .agg #[.int .i64 q.tag, .int .i64 q.page, .int .i64 q.to, .int .i64 q.kinds]) rfl (by kernel_rfl) (by kernel_rfl) (by kernel_rfl) (fun _ _ _ h => h) (yieldsIf_load_mid (by rfl) 26 (.tmp 4) rfl t 0 rfl [.int .i64 q.tag, .int .i64 q.page, .int .i64 q.to, .int .i64 q.kinds] _ (fun w' hs => rng hs.1) Try.underlying26 rfl (by kernel_rfl)) SD.out ?_
    change wpAnyH _ _ _ _ _ _ _ (Act.put _ (some 25) _) _
    simp only [Act.put, List.setIfInBounds_toArray, List.set_cons_zero, List.set_cons_succ]
    refine wpAnyH_take (i := 4) (v := .pointer (some ⟨s, 0, none⟩)) rfl (by kernel_rfl) (by kernel_rfl) (by kernel_rfl) (fun _ _ _ h => h) (Or.inl ⟨by rfl, fun w' hs => by go_simp⟩) SD.out ?_
    change wpAnyH _ _ _ _ _ _ _ (Act.put _ (some 28) _) _
    simp only [Act.put, List.setIfInBounds_toArray, List.set_cons_zero, List.set_cons_succ]
    refine wpAnyH_take (i := 5) (v := .int .i64 c) rfl (by kernel_rfl) (by kernel_rfl) (by kernel_rfl) (fun _ _ _ h => h) (Or.inl ⟨by rfl, fun w' hs => by have hc : w'.cell? ⟨s, 0, none⟩ = some (.int .i64 c) := hs.2.cell 0 rfl; go_simp⟩) SD.out ?_
    change wpAnyH _ _ _ _ _ _ _ (Act.put _ (some 29) _) _
    simp only [Act.put, List.setIfInBounds_toArray, List.set_cons_zero, List.set_cons_succ]
    refine wpAnyH_ready (rs := [2]) (by kernel_rfl) (by simp) ?_
    refine AllReadyH.cons rfl (fun K hK => ?_) AllReadyH.nil
    rw [if_pos (by rfl)]
    go_simp
    refine (FS.out _ (QC.out.keep BX.out).read).mono ?_
    rintro e w4 ⟨v4, rfl, -, b4⟩
    have S4 : Hid (Vb w4 t #[.int .i64 q.tag, .int .i64 q.page, .int .i64 q.to, .int .i64 q.kinds] 26 ∧ Vb w4 s #[.int .i64 c, .int .i64 0, .bool false, .slice la ll lc] 30) := ⟨SD.out.1.keep b4, SD.out.2.keep b4⟩
    have B4 : Hid (Below w.heap.size w w4) := on BD.out b4
    refine hK.out _ _ S4.out (fun _ => ?_)
    clear hK K b4
    refine wpAnyH_take (i := 3) (v := .int .i64 c) rfl (by kernel_rfl) (by kernel_rfl) (by kernel_rfl) (fun _ _ _ h => h) (Or.inl ⟨by rfl, fun w' hs => by have hf := field_c0; go_simp⟩) S4.out ?_
    change wpAnyH _ _ _ _ _ _ _ (Act.put _ (some 27) _) _
    simp only [Act.put, List.setIfInBounds_toArray, List.set_cons_zero, List.set_cons_succ]
    refine wpAnyH_take (i := 6) (v := .bool true) rfl (by kernel_rfl) (by kernel_rfl) (by kernel_rfl) (fun _ _ _ h => h) (Or.inl ⟨by rfl, fun w' hs => by go_simp⟩) S4.out ?_
    change wpAnyH _ _ _ _ _ _ _ (Act.put _ (some 30) _) _
    simp only [Act.put, List.setIfInBounds_toArray, List.set_cons_zero, List.set_cons_succ]
    refine wpAnyH_take (i := 7) (v := .bool true) rfl (by kernel_rfl) (by kernel_rfl) (by kernel_rfl) (fun _ _ _ h => h) (Or.inl ⟨by rfl, fun w' hs => by go_simp⟩) S4.out ?_
    change wpAnyH _ _ _ _ _ _ _ (Act.put _ (some 2) _) _
    simp only [Act.put, List.setIfInBounds_toArray, List.set_cons_zero, List.set_cons_succ]
    refine wpAnyH_done (by kernel_rfl) ?_ _
    go_wp2_with fail
    go_ret
    exact ⟨rfl, B4.out⟩
  subst hc0
  obtain ⟨C0, OQ, EL⟩ := fc_parts hc
  have HC0 : Hid (cfV rs = 0) := C0
  have HOQ : Hid (okQ q = true) := OQ
  rw [EL] at QR hll
  obtain ⟨L, hL⟩ : ∃ L, fillQ rs q = L := ⟨_, rfl⟩
  have HLL : Hid (fillQ rs q = L) := hL
  rw [hL] at QR hll
  have FO : Hid (cfV L = 0 ∧ rs.length ≤ L.length ∧ L.length ≤ 12) := by rw [← hL]; exact ⟨(fill_ok C0 OQ).1, (fill_ok C0 OQ).2.2.2.1, (fill_ok C0 OQ).2.2.2.2⟩
  obtain ⟨ja, hja, fa1, fa2, fa3⟩ : ∃ j : Nat, j < L.length ∧ fhC L q.tag q.page = 0 ∧ fhV L q.tag q.page = j ∧ L.getD j qz = q := by rw [← hL]; exact fill_self C0 OQ
  obtain ⟨lg, rfl⟩ := hlg (by omega)
  have QLN : Hid (ll = L.length) := hll.symm
  have JA : Hid (((ja : Int) < (ll : Int)) ∧ ja < ll) := ⟨by omega, by omega⟩
  have FA3 : Hid (L.getD ja qz = q) := fa3
  have WF : Hid (wfI q.tag ∧ wfI q.page) := ok_wf OQ
  clear hc EL hL hll hlg C0 OQ hja fa3
  have s3 := VS.out.cell 3 rfl
  have t0 := VQ.out.cell 0 rfl
  have t1 := VQ.out.cell 1 rfl
  go_wp2_with fail
  have fh := impl_findHit (some ⟨lg, 0, none⟩) ll lc L q.tag q.page W3 QR.out.read WF.out.1 WF.out.2
  rw [fa1, fa2] at fh
  refine fh.mono ?_
  rintro e w5 ⟨rfl, b5⟩
  clear fh fa1 fa2 s0 s3 t0 t1
  go_upto_region 8 with fail
  obtain ⟨a, ha⟩ : ∃ a, w5.heap.size = a := ⟨_, rfl⟩
  have b6 : Below W3.heap.size W3 (w5.alloc (.cells #[.int .i64 0, .int .i64 (ja : Int)] 33)) := al b5 _
  have VA : Hid (Vb (w5.alloc (.cells #[.int .i64 0, .int .i64 (ja : Int)] 33)) a #[.int .i64 0, .int .i64 (ja : Int)] 33) := by show Vb _ _ _ _; rw [← ha]; exact Vb.new _ _ _
  have VS6 : Hid (Vb (w5.alloc (.cells #[.int .i64 0, .int .i64 (ja : Int)] 33)) s #[.int .i64 0, .int .i64 0, .bool false, .slice (some ⟨lg, 0, none⟩) ll lc] 30) := VS.out.keep b6
  have VQ6 : Hid (Vb (w5.alloc (.cells #[.int .i64 0, .int .i64 (ja : Int)] 33)) t #[.int .i64 q.tag, .int .i64 q.page, .int .i64 q.to, .int .i64 q.kinds] 26) := VQ.out.keep b6
  have QR6 : Hid (Qs 26 (w5.alloc (.cells #[.int .i64 0, .int .i64 (ja : Int)] 33)) 0 (.slice (some ⟨lg, 0, none⟩) ll lc) L) := QR.out.keep b6
  have QC6 : Hid (Qs 26 (w5.alloc (.cells #[.int .i64 0, .int .i64 (ja : Int)] 33)) w.heap.size (.slice ca n cc) rs) := QC.out.keep (on BW.out b6)
  have B6 : Hid (Below w.heap.size w (w5.alloc (.cells #[.int .i64 0, .int .i64 (ja : Int)] 33))) := on B3.out b6
  rw [ha]
  generalize w5.alloc (.cells #[.int .i64 0, .int .i64 (ja : Int)] 33) = W6 at *
  clear ha b5 b6 VS VQ QR QC BW B3 B2 VT
  have s3 := VS6.out.cell 3 rfl
  have t0 := VQ6.out.cell 0 rfl
  go_wp2_with fail
  have ff := impl_flushCache (some ⟨lg, 0, none⟩) ll lc L q.tag W6 QR6.out.read
  obtain ⟨fl1, fl2, fl3⟩ := flush_not FO.out.1 (t := q.tag) (by have := okQ_iff.1 HOQ.out; unfold tagB; simp; omega) q.page
  rw [fl1] at ff
  refine ff.mono ?_
  rintro e w7 ⟨v7, rfl, q7, b7⟩
  obtain ⟨fa, fc, hv7, _⟩ := q7.shape
  obtain ⟨fl, hfl⟩ : ∃ fl, (flL L q.tag).length = fl := ⟨_, rfl⟩
  rw [hfl] at hv7
  subst hv7
  clear ff s3 t0
  go_upto_region 9 with fail
  obtain ⟨f, hf⟩ : ∃ f, w7.heap.size = f := ⟨_, rfl⟩
  have b8 : Below W6.heap.size W6 (w7.alloc (.cells #[.int .i64 0, .int .i64 0, .bool false, .slice fa fl fc] 30)) := al b7 _
  have VF : Hid (Vb (w7.alloc (.cells #[.int .i64 0, .int .i64 0, .bool false, .slice fa fl fc] 30)) f #[.int .i64 0, .int .i64 0, .bool false, .slice fa fl fc] 30) := by show Vb _ _ _ _; rw [← hf]; exact Vb.new _ _ _
  have VA8 : Hid (Vb (w7.alloc (.cells #[.int .i64 0, .int .i64 0, .bool false, .slice fa fl fc] 30)) a #[.int .i64 0, .int .i64 (ja : Int)] 33) := VA.out.keep b8
  have VS8 : Hid (Vb (w7.alloc (.cells #[.int .i64 0, .int .i64 0, .bool false, .slice fa fl fc] 30)) s #[.int .i64 0, .int .i64 0, .bool false, .slice (some ⟨lg, 0, none⟩) ll lc] 30) := VS6.out.keep b8
  have VQ8 : Hid (Vb (w7.alloc (.cells #[.int .i64 0, .int .i64 0, .bool false, .slice fa fl fc] 30)) t #[.int .i64 q.tag, .int .i64 q.page, .int .i64 q.to, .int .i64 q.kinds] 26) := VQ6.out.keep b8
  have QL : Hid (Qs 26 (w7.alloc (.cells #[.int .i64 0, .int .i64 0, .bool false, .slice fa fl fc] 30)) 0 (.slice (some ⟨lg, 0, none⟩) ll lc) L) := QR6.out.keep b8
  have QC8 : Hid (Qs 26 (w7.alloc (.cells #[.int .i64 0, .int .i64 0, .bool false, .slice fa fl fc] 30)) w.heap.size (.slice ca n cc) rs) := QC6.out.keep b8
  have QF : Hid (Qs 26 (w7.alloc (.cells #[.int .i64 0, .int .i64 0, .bool false, .slice fa fl fc] 30)) W6.heap.size (.slice fa fl fc) (flL L q.tag)) := q7.keep (al (Below.refl _ _) _)
  have B8 : Hid (Below w.heap.size w (w7.alloc (.cells #[.int .i64 0, .int .i64 0, .bool false, .slice fa fl fc] 30))) := on B6.out b8
  rw [hf]
  generalize w7.alloc (.cells #[.int .i64 0, .int .i64 0, .bool false, .slice fa fl fc] 30) = U at *
  clear hf b7 b8 q7 hfl VA VS6 VQ6 QR6 QC6 B6
  obtain ⟨fv, hfv⟩ : ∃ fv, fhV (flL L q.tag) q.tag q.page = fv := ⟨_, rfl⟩
  have LN : Hid (¬ ((ll : Int) < (n : Int))) := by show ¬ _; have := FO.out.2.1; have := QLN.out; have := HN.out; omega
  have CF : ∀ u, Below U.heap.size U u → Calls Try.prog 15 #[.slice (some ⟨lg, 0, none⟩) ll lc] u fun e w' => e = .returned (.int .i64 0) ∧ Below u.heap.size u w' := fun u hu => by
    have tt := impl_cacheFault _ _ _ L u (QL.out.keep hu).read
    rw [FO.out.1] at tt
    exact tt
  have CN : ∀ u, Below U.heap.size U u → Calls Try.prog 13 #[.slice fa fl fc, .int .i64 q.tag, .int .i64 q.page] u fun e w' => e = .returned (.agg #[.int .i64 4, .int .i64 fv]) ∧ Below u.heap.size u w' := fun u hu => by
    have tt := impl_findHit _ _ _ (flL L q.tag) q.tag q.page u (QF.out.keep hu).read WF.out.1 WF.out.2
    rw [fl3, hfv] at tt
    exact tt
  clear fl1 fl2
  have cs3 : Hid (∀ w', Below U.heap.size U w' → w'.cell? ⟨s, 3, none⟩ = some (.slice (some ⟨lg, 0, none⟩) ll lc)) := fun w' hs => (VS8.out.keep hs).cell 3 rfl
  have ca0 : Hid (∀ w', Below U.heap.size U w' → w'.cell? ⟨a, 0, none⟩ = some (.int .i64 0)) := fun w' hs => (VA8.out.keep hs).cell 0 rfl
  have ca1 : Hid (∀ w', Below U.heap.size U w' → w'.cell? ⟨a, 1, none⟩ = some (.int .i64 (ja : Int))) := fun w' hs => (VA8.out.keep hs).cell 1 rfl
  have cf0 : Hid (∀ w', Below U.heap.size U w' → w'.cell? ⟨f, 0, none⟩ = some (.int .i64 0)) := fun w' hs => (VF.out.keep hs).cell 0 rfl
  have cf3 : Hid (∀ w', Below U.heap.size U w' → w'.cell? ⟨f, 3, none⟩ = some (.slice fa fl fc)) := fun w' hs => (VF.out.keep hs).cell 3 rfl
  have ct0 : Hid (∀ w', Below U.heap.size U w' → w'.cell? ⟨t, 0, none⟩ = some (.int .i64 q.tag)) := fun w' hs => (VQ8.out.keep hs).cell 0 rfl
  have ct1 : Hid (∀ w', Below U.heap.size U w' → w'.cell? ⟨t, 1, none⟩ = some (.int .i64 q.page)) := fun w' hs => (VQ8.out.keep hs).cell 1 rfl
  have RL : Hid (∀ w', Below U.heap.size U w' → w'.rangeAt lg (ja * 4) [.int .i64 q.tag, .int .i64 q.page, .int .i64 q.to, .int .i64 q.kinds]) := fun w' hs => by have tt := qrng (QL.out.keep hs) QLN.out ja JA.out.2; rw [FA3.out] at tt; exact tt
  have RT : Hid (∀ w', Below U.heap.size U w' → w'.rangeAt t 0 [.int .i64 q.tag, .int .i64 q.page, .int .i64 q.to, .int .i64 q.kinds]) := fun w' hs => rng (VQ8.out.keep hs)
  have UU : Hid (Below U.heap.size U U) := Below.refl _ _
  have D9 : Hid (Below U.heap.size U U.drew) := UU.out.drew
  refine wp_region_held (S := fun w' => Below U.heap.size U w') (by kernel_rfl) ?_
  change wpAnyH _ _ _ _ _ _ _ _ (World.drew _)
  generalize U.drew = d9 at *
  refine wpAnyH_take (i := 0) (v := .pointer (some ⟨s, 3, none⟩)) rfl (by kernel_rfl) (by kernel_rfl) (by kernel_rfl) (fun _ _ _ h => h) (Or.inl ⟨by rfl, fun w' hs => by go_simp⟩) D9.out ?_
  change wpAnyH _ _ _ _ _ _ _ (Act.put _ (some 43) _) _
  simp only [Act.put, List.setIfInBounds_toArray, List.set_cons_zero, List.set_cons_succ]
  refine wpAnyH_take (i := 1) (v := .slice (some ⟨lg, 0, none⟩) ll lc) rfl (by kernel_rfl) (by kernel_rfl) (by kernel_rfl) (fun _ _ _ h => h) (Or.inl ⟨by rfl, fun w' hs => by have hc := cs3.out w' hs; go_simp⟩) D9.out ?_
  change wpAnyH _ _ _ _ _ _ _ (Act.put _ (some 44) _) _
  simp only [Act.put, List.setIfInBounds_toArray, List.set_cons_zero, List.set_cons_succ]
  refine wpAnyH_ready (rs := [2]) (by kernel_rfl) (by simp) ?_
  refine AllReadyH.cons rfl (fun K hK => ?_) AllReadyH.nil
  rw [if_pos (by rfl)]
  go_simp
  refine (CF d9 D9.out).mono ?_
  rintro e x9w1 ⟨rfl, b8⟩
  have X9S1 : Hid (Below U.heap.size U x9w1) := on D9.out b8
  refine hK.out _ _ X9S1.out (fun _ => ?_)
  clear hK K b8
  refine wpAnyH_take (i := 3) (v := .bool false) rfl (by kernel_rfl) (by kernel_rfl) (by kernel_rfl) (fun _ _ _ h => h) (Or.inl ⟨by rfl, fun w' hs => by go_simp⟩) X9S1.out ?_
  change wpAnyH _ _ _ _ _ _ _ (Act.put _ (some 46) _) _
  simp only [Act.put, List.setIfInBounds_toArray, List.set_cons_zero, List.set_cons_succ]
  refine wpAnyH_take (i := 4) (v := .bool false) rfl (by kernel_rfl) (by kernel_rfl) (by kernel_rfl) (fun _ _ _ h => h) (Or.inl ⟨by rfl, fun w' hs => by go_simp⟩) X9S1.out ?_
  change wpAnyH _ _ _ _ _ _ _ (Act.put _ (some 47) _) _
  simp only [Act.put, List.setIfInBounds_toArray, List.set_cons_zero, List.set_cons_succ]
  refine wpAnyH_take (i := 5) (v := .pointer (some ⟨a, 0, none⟩)) rfl (by kernel_rfl) (by kernel_rfl) (by kernel_rfl) (fun _ _ _ h => h) (Or.inl ⟨by rfl, fun w' hs => by go_simp⟩) X9S1.out ?_
  change wpAnyH _ _ _ _ _ _ _ (Act.put _ (some 48) _) _
  simp only [Act.put, List.setIfInBounds_toArray, List.set_cons_zero, List.set_cons_succ]
  refine wpAnyH_take (i := 6) (v := .int .i64 0) rfl (by kernel_rfl) (by kernel_rfl) (by kernel_rfl) (fun _ _ _ h => h) (Or.inl ⟨by rfl, fun w' hs => by have hc := ca0.out w' hs; go_simp⟩) X9S1.out ?_
  change wpAnyH _ _ _ _ _ _ _ (Act.put _ (some 49) _) _
  simp only [Act.put, List.setIfInBounds_toArray, List.set_cons_zero, List.set_cons_succ]
  refine wpAnyH_take (i := 7) (v := .bool false) rfl (by kernel_rfl) (by kernel_rfl) (by kernel_rfl) (fun _ _ _ h => h) (Or.inl ⟨by rfl, fun w' hs => by go_simp⟩) X9S1.out ?_
  change wpAnyH _ _ _ _ _ _ _ (Act.put _ (some 50) _) _
  simp only [Act.put, List.setIfInBounds_toArray, List.set_cons_zero, List.set_cons_succ]
  refine wpAnyH_take (i := 8) (v := .bool false) rfl (by kernel_rfl) (by kernel_rfl) (by kernel_rfl) (fun _ _ _ h => h) (Or.inl ⟨by rfl, fun w' hs => by go_simp⟩) X9S1.out ?_
  change wpAnyH _ _ _ _ _ _ _ (Act.put _ (some 51) _) _
  simp only [Act.put, List.setIfInBounds_toArray, List.set_cons_zero, List.set_cons_succ]
  refine wpAnyH_take (i := 9) (v := .bool false) rfl (by kernel_rfl) (by kernel_rfl) (by kernel_rfl) (fun _ _ _ h => h) (Or.inl ⟨by rfl, fun w' hs => by go_simp⟩) X9S1.out ?_
  change wpAnyH _ _ _ _ _ _ _ (Act.put _ (some 52) _) _
  simp only [Act.put, List.setIfInBounds_toArray, List.set_cons_zero, List.set_cons_succ]
  refine wpAnyH_take (i := 10) (v := .pointer (some ⟨s, 3, none⟩)) rfl (by kernel_rfl) (by kernel_rfl) (by kernel_rfl) (fun _ _ _ h => h) (Or.inl ⟨by rfl, fun w' hs => by go_simp⟩) X9S1.out ?_
  change wpAnyH _ _ _ _ _ _ _ (Act.put _ (some 53) _) _
  simp only [Act.put, List.setIfInBounds_toArray, List.set_cons_zero, List.set_cons_succ]
  refine wpAnyH_take (i := 11) (v := .slice (some ⟨lg, 0, none⟩) ll lc) rfl (by kernel_rfl) (by kernel_rfl) (by kernel_rfl) (fun _ _ _ h => h) (Or.inl ⟨by rfl, fun w' hs => by have hc := cs3.out w' hs; go_simp⟩) X9S1.out ?_
  change wpAnyH _ _ _ _ _ _ _ (Act.put _ (some 54) _) _
  simp only [Act.put, List.setIfInBounds_toArray, List.set_cons_zero, List.set_cons_succ]
  refine wpAnyH_take (i := 12) (v := .pointer (some ⟨a, 1, none⟩)) rfl (by kernel_rfl) (by kernel_rfl) (by kernel_rfl) (fun _ _ _ h => h) (Or.inl ⟨by rfl, fun w' hs => by go_simp⟩) X9S1.out ?_
  change wpAnyH _ _ _ _ _ _ _ (Act.put _ (some 55) _) _
  simp only [Act.put, List.setIfInBounds_toArray, List.set_cons_zero, List.set_cons_succ]
  refine wpAnyH_take (i := 13) (v := .int .i64 (ja : Int)) rfl (by kernel_rfl) (by kernel_rfl) (by kernel_rfl) (fun _ _ _ h => h) (Or.inl ⟨by rfl, fun w' hs => by have hc := ca1.out w' hs; go_simp⟩) X9S1.out ?_
  change wpAnyH _ _ _ _ _ _ _ (Act.put _ (some 56) _) _
  simp only [Act.put, List.setIfInBounds_toArray, List.set_cons_zero, List.set_cons_succ]
  refine wpAnyH_take (i := 14) (v := .pointer (some ⟨lg, ja * 4, none⟩)) rfl (by kernel_rfl) (by kernel_rfl) (by kernel_rfl) (fun _ _ _ h => h) (Or.inl ⟨by rfl, fun w' hs => by have h0 := JA.out.1; have h1 := JA.out.2; go_simp⟩) X9S1.out ?_
  change wpAnyH _ _ _ _ _ _ _ (Act.put _ (some 57) _) _
  simp only [Act.put, List.setIfInBounds_toArray, List.set_cons_zero, List.set_cons_succ]
  refine wpAnyH_take (i := 15) (v := .agg #[.int .i64 q.tag, .int .i64 q.page, .int .i64 q.to, .int .i64 q.kinds]) rfl (by kernel_rfl) (by kernel_rfl) (by kernel_rfl) (fun _ _ _ h => h) (yieldsIf_load_mid (by rfl) 26 (.tmp 57) rfl lg (ja * 4) rfl [.int .i64 q.tag, .int .i64 q.page, .int .i64 q.to, .int .i64 q.kinds] _ RL.out Try.underlying26 rfl (by kernel_rfl)) X9S1.out ?_
  change wpAnyH _ _ _ _ _ _ _ (Act.put _ (some 58) _) _
  simp only [Act.put, List.setIfInBounds_toArray, List.set_cons_zero, List.set_cons_succ]
  refine wpAnyH_take (i := 16) (v := .agg #[.int .i64 q.tag, .int .i64 q.page, .int .i64 q.to, .int .i64 q.kinds]) rfl (by kernel_rfl) (by kernel_rfl) (by kernel_rfl) (fun _ _ _ h => h) (yieldsIf_load_mid (by rfl) 26 (.tmp 4) rfl t (0) rfl [.int .i64 q.tag, .int .i64 q.page, .int .i64 q.to, .int .i64 q.kinds] _ RT.out Try.underlying26 rfl (by kernel_rfl)) X9S1.out ?_
  change wpAnyH _ _ _ _ _ _ _ (Act.put _ (some 59) _) _
  simp only [Act.put, List.setIfInBounds_toArray, List.set_cons_zero, List.set_cons_succ]
  refine wpAnyH_take (i := 17) (v := .bool false) rfl (by kernel_rfl) (by kernel_rfl) (by kernel_rfl) (fun _ _ _ h => h) (Or.inl ⟨by rfl, fun w' hs => by go_simp⟩) X9S1.out ?_
  change wpAnyH _ _ _ _ _ _ _ (Act.put _ (some 60) _) _
  simp only [Act.put, List.setIfInBounds_toArray, List.set_cons_zero, List.set_cons_succ]
  refine wpAnyH_take (i := 18) (v := .bool false) rfl (by kernel_rfl) (by kernel_rfl) (by kernel_rfl) (fun _ _ _ h => h) (Or.inl ⟨by rfl, fun w' hs => by go_simp⟩) X9S1.out ?_
  change wpAnyH _ _ _ _ _ _ _ (Act.put _ (some 61) _) _
  simp only [Act.put, List.setIfInBounds_toArray, List.set_cons_zero, List.set_cons_succ]
  refine wpAnyH_take (i := 19) (v := .bool false) rfl (by kernel_rfl) (by kernel_rfl) (by kernel_rfl) (fun _ _ _ h => h) (Or.inl ⟨by rfl, fun w' hs => by go_simp⟩) X9S1.out ?_
  change wpAnyH _ _ _ _ _ _ _ (Act.put _ (some 62) _) _
  simp only [Act.put, List.setIfInBounds_toArray, List.set_cons_zero, List.set_cons_succ]
  refine wpAnyH_take (i := 20) (v := .pointer (some ⟨f, 0, none⟩)) rfl (by kernel_rfl) (by kernel_rfl) (by kernel_rfl) (fun _ _ _ h => h) (Or.inl ⟨by rfl, fun w' hs => by go_simp⟩) X9S1.out ?_
  change wpAnyH _ _ _ _ _ _ _ (Act.put _ (some 63) _) _
  simp only [Act.put, List.setIfInBounds_toArray, List.set_cons_zero, List.set_cons_succ]
  refine wpAnyH_take (i := 21) (v := .int .i64 0) rfl (by kernel_rfl) (by kernel_rfl) (by kernel_rfl) (fun _ _ _ h => h) (Or.inl ⟨by rfl, fun w' hs => by have hc := cf0.out w' hs; go_simp⟩) X9S1.out ?_
  change wpAnyH _ _ _ _ _ _ _ (Act.put _ (some 64) _) _
  simp only [Act.put, List.setIfInBounds_toArray, List.set_cons_zero, List.set_cons_succ]
  refine wpAnyH_take (i := 22) (v := .bool false) rfl (by kernel_rfl) (by kernel_rfl) (by kernel_rfl) (fun _ _ _ h => h) (Or.inl ⟨by rfl, fun w' hs => by go_simp⟩) X9S1.out ?_
  change wpAnyH _ _ _ _ _ _ _ (Act.put _ (some 65) _) _
  simp only [Act.put, List.setIfInBounds_toArray, List.set_cons_zero, List.set_cons_succ]
  refine wpAnyH_take (i := 23) (v := .bool false) rfl (by kernel_rfl) (by kernel_rfl) (by kernel_rfl) (fun _ _ _ h => h) (Or.inl ⟨by rfl, fun w' hs => by go_simp⟩) X9S1.out ?_
  change wpAnyH _ _ _ _ _ _ _ (Act.put _ (some 66) _) _
  simp only [Act.put, List.setIfInBounds_toArray, List.set_cons_zero, List.set_cons_succ]
  refine wpAnyH_take (i := 24) (v := .bool false) rfl (by kernel_rfl) (by kernel_rfl) (by kernel_rfl) (fun _ _ _ h => h) (Or.inl ⟨by rfl, fun w' hs => by go_simp⟩) X9S1.out ?_
  change wpAnyH _ _ _ _ _ _ _ (Act.put _ (some 67) _) _
  simp only [Act.put, List.setIfInBounds_toArray, List.set_cons_zero, List.set_cons_succ]
  refine wpAnyH_take (i := 25) (v := .pointer (some ⟨f, 3, none⟩)) rfl (by kernel_rfl) (by kernel_rfl) (by kernel_rfl) (fun _ _ _ h => h) (Or.inl ⟨by rfl, fun w' hs => by go_simp⟩) X9S1.out ?_
  change wpAnyH _ _ _ _ _ _ _ (Act.put _ (some 68) _) _
  simp only [Act.put, List.setIfInBounds_toArray, List.set_cons_zero, List.set_cons_succ]
  refine wpAnyH_take (i := 26) (v := .slice fa fl fc) rfl (by kernel_rfl) (by kernel_rfl) (by kernel_rfl) (fun _ _ _ h => h) (Or.inl ⟨by rfl, fun w' hs => by have hc := cf3.out w' hs; go_simp⟩) X9S1.out ?_
  change wpAnyH _ _ _ _ _ _ _ (Act.put _ (some 69) _) _
  simp only [Act.put, List.setIfInBounds_toArray, List.set_cons_zero, List.set_cons_succ]
  refine wpAnyH_take (i := 27) (v := .pointer (some ⟨t, 0, none⟩)) rfl (by kernel_rfl) (by kernel_rfl) (by kernel_rfl) (fun _ _ _ h => h) (Or.inl ⟨by rfl, fun w' hs => by go_simp⟩) X9S1.out ?_
  change wpAnyH _ _ _ _ _ _ _ (Act.put _ (some 70) _) _
  simp only [Act.put, List.setIfInBounds_toArray, List.set_cons_zero, List.set_cons_succ]
  refine wpAnyH_take (i := 28) (v := .int .i64 q.tag) rfl (by kernel_rfl) (by kernel_rfl) (by kernel_rfl) (fun _ _ _ h => h) (Or.inl ⟨by rfl, fun w' hs => by have hc := ct0.out w' hs; go_simp⟩) X9S1.out ?_
  change wpAnyH _ _ _ _ _ _ _ (Act.put _ (some 71) _) _
  simp only [Act.put, List.setIfInBounds_toArray, List.set_cons_zero, List.set_cons_succ]
  refine wpAnyH_take (i := 29) (v := .pointer (some ⟨t, 1, none⟩)) rfl (by kernel_rfl) (by kernel_rfl) (by kernel_rfl) (fun _ _ _ h => h) (Or.inl ⟨by rfl, fun w' hs => by go_simp⟩) X9S1.out ?_
  change wpAnyH _ _ _ _ _ _ _ (Act.put _ (some 72) _) _
  simp only [Act.put, List.setIfInBounds_toArray, List.set_cons_zero, List.set_cons_succ]
  refine wpAnyH_take (i := 30) (v := .int .i64 q.page) rfl (by kernel_rfl) (by kernel_rfl) (by kernel_rfl) (fun _ _ _ h => h) (Or.inl ⟨by rfl, fun w' hs => by have hc := ct1.out w' hs; go_simp⟩) X9S1.out ?_
  change wpAnyH _ _ _ _ _ _ _ (Act.put _ (some 73) _) _
  simp only [Act.put, List.setIfInBounds_toArray, List.set_cons_zero, List.set_cons_succ]
  refine wpAnyH_ready (rs := [31]) (by kernel_rfl) (by simp) ?_
  refine AllReadyH.cons rfl (fun K hK => ?_) AllReadyH.nil
  rw [if_pos (by rfl)]
  go_simp
  refine (CN x9w1 X9S1.out).mono ?_
  rintro e x9w2 ⟨rfl, b8⟩
  have X9S2 : Hid (Below U.heap.size U x9w2) := on X9S1.out b8
  refine hK.out _ _ X9S2.out (fun _ => ?_)
  clear hK K b8
  refine wpAnyH_take (i := 32) (v := .int .i64 4) rfl (by kernel_rfl) (by kernel_rfl) (by kernel_rfl) (fun _ _ _ h => h) (Or.inl ⟨by rfl, fun w' hs => by have hf := field_i0; go_simp⟩) X9S2.out ?_
  change wpAnyH _ _ _ _ _ _ _ (Act.put _ (some 75) _) _
  simp only [Act.put, List.setIfInBounds_toArray, List.set_cons_zero, List.set_cons_succ]
  refine wpAnyH_take (i := 33) (v := .bool false) rfl (by kernel_rfl) (by kernel_rfl) (by kernel_rfl) (fun _ _ _ h => h) (Or.inl ⟨by rfl, fun w' hs => by go_simp⟩) X9S2.out ?_
  change wpAnyH _ _ _ _ _ _ _ (Act.put _ (some 76) _) _
  simp only [Act.put, List.setIfInBounds_toArray, List.set_cons_zero, List.set_cons_succ]
  refine wpAnyH_take (i := 34) (v := .bool false) rfl (by kernel_rfl) (by kernel_rfl) (by kernel_rfl) (fun _ _ _ h => h) (Or.inl ⟨by rfl, fun w' hs => by go_simp⟩) X9S2.out ?_
  change wpAnyH _ _ _ _ _ _ _ (Act.put _ (some 77) _) _
  simp only [Act.put, List.setIfInBounds_toArray, List.set_cons_zero, List.set_cons_succ]
  refine wpAnyH_take (i := 35) (v := .bool false) rfl (by kernel_rfl) (by kernel_rfl) (by kernel_rfl) (fun _ _ _ h => h) (Or.inl ⟨by rfl, fun w' hs => by go_simp⟩) X9S2.out ?_
  change wpAnyH _ _ _ _ _ _ _ (Act.put _ (some 78) _) _
  simp only [Act.put, List.setIfInBounds_toArray, List.set_cons_zero, List.set_cons_succ]
  refine wpAnyH_take (i := 36) (v := .pointer (some ⟨s, 3, none⟩)) rfl (by kernel_rfl) (by kernel_rfl) (by kernel_rfl) (fun _ _ _ h => h) (Or.inl ⟨by rfl, fun w' hs => by go_simp⟩) X9S2.out ?_
  change wpAnyH _ _ _ _ _ _ _ (Act.put _ (some 79) _) _
  simp only [Act.put, List.setIfInBounds_toArray, List.set_cons_zero, List.set_cons_succ]
  refine wpAnyH_take (i := 37) (v := .slice (some ⟨lg, 0, none⟩) ll lc) rfl (by kernel_rfl) (by kernel_rfl) (by kernel_rfl) (fun _ _ _ h => h) (Or.inl ⟨by rfl, fun w' hs => by have hc := cs3.out w' hs; go_simp⟩) X9S2.out ?_
  change wpAnyH _ _ _ _ _ _ _ (Act.put _ (some 80) _) _
  simp only [Act.put, List.setIfInBounds_toArray, List.set_cons_zero, List.set_cons_succ]
  refine wpAnyH_take (i := 38) (v := .int .i64 (ll : Int)) rfl (by kernel_rfl) (by kernel_rfl) (by kernel_rfl) (fun _ _ _ h => h) (Or.inl ⟨by rfl, fun w' hs => by go_simp⟩) X9S2.out ?_
  change wpAnyH _ _ _ _ _ _ _ (Act.put _ (some 81) _) _
  simp only [Act.put, List.setIfInBounds_toArray, List.set_cons_zero, List.set_cons_succ]
  refine wpAnyH_take (i := 39) (v := .slice ca n cc) rfl (by kernel_rfl) (by kernel_rfl) (by kernel_rfl) (fun _ _ _ h => h) (Or.inl ⟨by rfl, fun w' hs => by go_simp⟩) X9S2.out ?_
  change wpAnyH _ _ _ _ _ _ _ (Act.put _ (some 82) _) _
  simp only [Act.put, List.setIfInBounds_toArray, List.set_cons_zero, List.set_cons_succ]
  refine wpAnyH_take (i := 40) (v := .int .i64 (n : Int)) rfl (by kernel_rfl) (by kernel_rfl) (by kernel_rfl) (fun _ _ _ h => h) (Or.inl ⟨by rfl, fun w' hs => by go_simp⟩) X9S2.out ?_
  change wpAnyH _ _ _ _ _ _ _ (Act.put _ (some 83) _) _
  simp only [Act.put, List.setIfInBounds_toArray, List.set_cons_zero, List.set_cons_succ]
  refine wpAnyH_take (i := 41) (v := .bool false) rfl (by kernel_rfl) (by kernel_rfl) (by kernel_rfl) (fun _ _ _ h => h) (Or.inl ⟨by rfl, fun w' hs => by have h0 := LN.out; go_simp⟩) X9S2.out ?_
  change wpAnyH _ _ _ _ _ _ _ (Act.put _ (some 84) _) _
  simp only [Act.put, List.setIfInBounds_toArray, List.set_cons_zero, List.set_cons_succ]
  refine wpAnyH_take (i := 42) (v := .bool false) rfl (by kernel_rfl) (by kernel_rfl) (by kernel_rfl) (fun _ _ _ h => h) (Or.inl ⟨by rfl, fun w' hs => by go_simp⟩) X9S2.out ?_
  change wpAnyH _ _ _ _ _ _ _ (Act.put _ (some 85) _) _
  simp only [Act.put, List.setIfInBounds_toArray, List.set_cons_zero, List.set_cons_succ]
  refine wpAnyH_done (by kernel_rfl) ?_ _
  generalize hW9 : x9w2 = w9 at *
  have S9 : Hid (Below U.heap.size U w9) := X9S2.out
  go_wp2_with fail
  go_loopw [8, 9] (fun gg ii wr => ∃ j g : Nat, j ≤ n ∧ ii = .int .i64 j ∧ gg = .int .i64 g ∧ (g ≤ 1 ∧ (g = 1 → rs.length = 12 ∧ 1 ≤ j)) ∧ Below U.heap.size U wr) (fun _ ii _ => n - (intOf ii).toNat)
  case atStart => exact ⟨0, 0, Nat.zero_le _, rfl, rfl, ⟨by omega, fun h => by omega⟩, S9.out⟩
  case round =>
    obtain ⟨j, g, hj, rfl, rfl, hg, hB⟩ := hrel
    have HB : Hid (Below U.heap.size U wr) := hB
    have HG : Hid (g ≤ 1 ∧ (g = 1 → rs.length = 12 ∧ 1 ≤ j)) := hg
    have hg1 : (g : Int) ≤ 1 := by omega
    clear hB
    by_cases hlt : j < n
    · have hJ : (j : Int) < (n : Int) := by omega
      have HLT : Hid (j < n) := hlt
      obtain ⟨cg, rfl⟩ := HCG.out (by omega)
      have QCU : Hid (Qs 26 U w.heap.size (.slice (some ⟨cg, 0, none⟩) n cc) rs) := QC8.out
      obtain ⟨p, hp⟩ : ∃ p, rs.getD j qz = p := ⟨_, rfl⟩
      have HP : Hid (rs.getD j qz = p) := hp
      have KP : Hid (okQ p = true) := by rw [← hp]; exact cfV_ok HC0.out j (by have := HN.out; omega)
      have WP : Hid (wfI p.tag ∧ wfI p.page) := ok_wf KP.out
      clear hlt hj hg hp
      have cp0 : Hid (∀ w', Below U.heap.size U w' → w'.cell? ⟨cg, j * 4, none⟩ = some (.int .i64 p.tag)) := fun w' hs => by have tt := ((QCU.out.keep hs).cell HN.out j HLT.out).1; rw [HP.out] at tt; exact tt
      have cp1 : Hid (∀ w', Below U.heap.size U w' → w'.cell? ⟨cg, j * 4 + 1, none⟩ = some (.int .i64 p.page)) := fun w' hs => by have tt := ((QCU.out.keep hs).cell HN.out j HLT.out).2.1; rw [HP.out] at tt; exact tt
      obtain ⟨xc, hxc⟩ : ∃ xc, fhC L p.tag p.page = xc := ⟨_, rfl⟩
      obtain ⟨xv, hxv⟩ : ∃ xv, fhV L p.tag p.page = xv := ⟨_, rfl⟩
      have HXC : Hid (fhC L p.tag p.page = xc) := hxc
      have HXV : Hid (fhV L p.tag p.page = xv) := hxv
      have CP : ∀ u, Below U.heap.size U u → Calls Try.prog 13 #[.slice (some ⟨lg, 0, none⟩) ll lc, .int .i64 p.tag, .int .i64 p.page] u fun e w' => e = .returned (.agg #[.int .i64 xc, .int .i64 xv]) ∧ Below u.heap.size u w' := fun u hu => by
        have tt := impl_findHit _ _ _ L p.tag p.page u (QL.out.keep hu).read WP.out.1 WP.out.2
        rw [hxc, hxv] at tt
        exact tt
      clear hxc hxv
      go_upto_region 15 with fail
      by_cases ht : p.tag = q.tag
      · by_cases hp : p.page = q.page
        · skip
          have D15 : Hid (Below U.heap.size U wr.drew) := HB.out.drew
          refine wp_region_held (S := fun w' => Below U.heap.size U w') (by kernel_rfl) ?_
          change wpAnyH _ _ _ _ _ _ _ _ (World.drew _)
          generalize wr.drew = d15 at *
          refine wpAnyH_take (i := 0) (v := .slice (some ⟨cg, 0, none⟩) n cc) rfl (by kernel_rfl) (by kernel_rfl) (by kernel_rfl) (fun _ _ _ h => h) (Or.inl ⟨by rfl, fun w' hs => by go_simp⟩) D15.out ?_
          change wpAnyH _ _ _ _ _ _ _ (Act.put _ (some 92) _) _
          simp only [Act.put, List.setIfInBounds_toArray, List.set_cons_zero, List.set_cons_succ]
          refine wpAnyH_take (i := 1) (v := .int .i64 (j : Int)) rfl (by kernel_rfl) (by kernel_rfl) (by kernel_rfl) (fun _ _ _ h => h) (Or.inl ⟨by rfl, fun w' hs => by go_simp⟩) D15.out ?_
          change wpAnyH _ _ _ _ _ _ _ (Act.put _ (some 93) _) _
          simp only [Act.put, List.setIfInBounds_toArray, List.set_cons_zero, List.set_cons_succ]
          refine wpAnyH_take (i := 2) (v := .pointer (some ⟨cg, j * 4, none⟩)) rfl (by kernel_rfl) (by kernel_rfl) (by kernel_rfl) (fun _ _ _ h => h) (Or.inl ⟨by rfl, fun w' hs => by have h0 := hJ; have h1 := HLT.out; go_simp⟩) D15.out ?_
          change wpAnyH _ _ _ _ _ _ _ (Act.put _ (some 94) _) _
          simp only [Act.put, List.setIfInBounds_toArray, List.set_cons_zero, List.set_cons_succ]
          refine wpAnyH_take (i := 3) (v := .pointer (some ⟨cg, j * 4, none⟩)) rfl (by kernel_rfl) (by kernel_rfl) (by kernel_rfl) (fun _ _ _ h => h) (Or.inl ⟨by rfl, fun w' hs => by go_simp⟩) D15.out ?_
          change wpAnyH _ _ _ _ _ _ _ (Act.put _ (some 95) _) _
          simp only [Act.put, List.setIfInBounds_toArray, List.set_cons_zero, List.set_cons_succ]
          refine wpAnyH_take (i := 4) (v := .int .i64 p.tag) rfl (by kernel_rfl) (by kernel_rfl) (by kernel_rfl) (fun _ _ _ h => h) (Or.inl ⟨by rfl, fun w' hs => by have hc := cp0.out w' hs; go_simp⟩) D15.out ?_
          change wpAnyH _ _ _ _ _ _ _ (Act.put _ (some 96) _) _
          simp only [Act.put, List.setIfInBounds_toArray, List.set_cons_zero, List.set_cons_succ]
          refine wpAnyH_take (i := 5) (v := .pointer (some ⟨t, 0, none⟩)) rfl (by kernel_rfl) (by kernel_rfl) (by kernel_rfl) (fun _ _ _ h => h) (Or.inl ⟨by rfl, fun w' hs => by go_simp⟩) D15.out ?_
          change wpAnyH _ _ _ _ _ _ _ (Act.put _ (some 97) _) _
          simp only [Act.put, List.setIfInBounds_toArray, List.set_cons_zero, List.set_cons_succ]
          refine wpAnyH_take (i := 6) (v := .int .i64 q.tag) rfl (by kernel_rfl) (by kernel_rfl) (by kernel_rfl) (fun _ _ _ h => h) (Or.inl ⟨by rfl, fun w' hs => by have hc := ct0.out w' hs; go_simp⟩) D15.out ?_
          change wpAnyH _ _ _ _ _ _ _ (Act.put _ (some 98) _) _
          simp only [Act.put, List.setIfInBounds_toArray, List.set_cons_zero, List.set_cons_succ]
          refine wpAnyH_take (i := 7) (v := .bool true) rfl (by kernel_rfl) (by kernel_rfl) (by kernel_rfl) (fun _ _ _ h => h) (Or.inl ⟨by rfl, fun w' hs => by have h0 := ht; go_simp⟩) D15.out ?_
          change wpAnyH _ _ _ _ _ _ _ (Act.put _ (some 99) _) _
          simp only [Act.put, List.setIfInBounds_toArray, List.set_cons_zero, List.set_cons_succ]
          refine wpAnyH_take (i := 8) (v := .bool true) rfl (by kernel_rfl) (by kernel_rfl) (by kernel_rfl) (fun _ _ _ h => h) (Or.inl ⟨by rfl, fun w' hs => by go_simp⟩) D15.out ?_
          change wpAnyH _ _ _ _ _ _ _ (Act.put _ (some 100) _) _
          simp only [Act.put, List.setIfInBounds_toArray, List.set_cons_zero, List.set_cons_succ]
          refine wpAnyH_take (i := 9) (v := .slice (some ⟨cg, 0, none⟩) n cc) rfl (by kernel_rfl) (by kernel_rfl) (by kernel_rfl) (fun _ _ _ h => h) (Or.inl ⟨by rfl, fun w' hs => by go_simp⟩) D15.out ?_
          change wpAnyH _ _ _ _ _ _ _ (Act.put _ (some 101) _) _
          simp only [Act.put, List.setIfInBounds_toArray, List.set_cons_zero, List.set_cons_succ]
          refine wpAnyH_take (i := 10) (v := .int .i64 (j : Int)) rfl (by kernel_rfl) (by kernel_rfl) (by kernel_rfl) (fun _ _ _ h => h) (Or.inl ⟨by rfl, fun w' hs => by go_simp⟩) D15.out ?_
          change wpAnyH _ _ _ _ _ _ _ (Act.put _ (some 102) _) _
          simp only [Act.put, List.setIfInBounds_toArray, List.set_cons_zero, List.set_cons_succ]
          refine wpAnyH_take (i := 11) (v := .pointer (some ⟨cg, j * 4, none⟩)) rfl (by kernel_rfl) (by kernel_rfl) (by kernel_rfl) (fun _ _ _ h => h) (Or.inl ⟨by rfl, fun w' hs => by have h0 := hJ; have h1 := HLT.out; go_simp⟩) D15.out ?_
          change wpAnyH _ _ _ _ _ _ _ (Act.put _ (some 103) _) _
          simp only [Act.put, List.setIfInBounds_toArray, List.set_cons_zero, List.set_cons_succ]
          refine wpAnyH_take (i := 12) (v := .pointer (some ⟨cg, j * 4 + 1, none⟩)) rfl (by kernel_rfl) (by kernel_rfl) (by kernel_rfl) (fun _ _ _ h => h) (Or.inl ⟨by rfl, fun w' hs => by go_simp⟩) D15.out ?_
          change wpAnyH _ _ _ _ _ _ _ (Act.put _ (some 104) _) _
          simp only [Act.put, List.setIfInBounds_toArray, List.set_cons_zero, List.set_cons_succ]
          refine wpAnyH_take (i := 13) (v := .int .i64 p.page) rfl (by kernel_rfl) (by kernel_rfl) (by kernel_rfl) (fun _ _ _ h => h) (Or.inl ⟨by rfl, fun w' hs => by have hc := cp1.out w' hs; go_simp⟩) D15.out ?_
          change wpAnyH _ _ _ _ _ _ _ (Act.put _ (some 105) _) _
          simp only [Act.put, List.setIfInBounds_toArray, List.set_cons_zero, List.set_cons_succ]
          refine wpAnyH_take (i := 14) (v := .pointer (some ⟨t, 1, none⟩)) rfl (by kernel_rfl) (by kernel_rfl) (by kernel_rfl) (fun _ _ _ h => h) (Or.inl ⟨by rfl, fun w' hs => by go_simp⟩) D15.out ?_
          change wpAnyH _ _ _ _ _ _ _ (Act.put _ (some 106) _) _
          simp only [Act.put, List.setIfInBounds_toArray, List.set_cons_zero, List.set_cons_succ]
          refine wpAnyH_take (i := 15) (v := .int .i64 q.page) rfl (by kernel_rfl) (by kernel_rfl) (by kernel_rfl) (fun _ _ _ h => h) (Or.inl ⟨by rfl, fun w' hs => by have hc := ct1.out w' hs; go_simp⟩) D15.out ?_
          change wpAnyH _ _ _ _ _ _ _ (Act.put _ (some 107) _) _
          simp only [Act.put, List.setIfInBounds_toArray, List.set_cons_zero, List.set_cons_succ]
          refine wpAnyH_take (i := 16) (v := .bool true) rfl (by kernel_rfl) (by kernel_rfl) (by kernel_rfl) (fun _ _ _ h => h) (Or.inl ⟨by rfl, fun w' hs => by have h0 := hp; go_simp⟩) D15.out ?_
          change wpAnyH _ _ _ _ _ _ _ (Act.put _ (some 108) _) _
          simp only [Act.put, List.setIfInBounds_toArray, List.set_cons_zero, List.set_cons_succ]
          refine wpAnyH_take (i := 17) (v := .bool true) rfl (by kernel_rfl) (by kernel_rfl) (by kernel_rfl) (fun _ _ _ h => h) (Or.inl ⟨by rfl, fun w' hs => by go_simp⟩) D15.out ?_
          change wpAnyH _ _ _ _ _ _ _ (Act.put _ (some 109) _) _
          simp only [Act.put, List.setIfInBounds_toArray, List.set_cons_zero, List.set_cons_succ]
          refine wpAnyH_done (by kernel_rfl) ?_ _
          go_wp2_with fail
          go_roundw
          case rel => exact ⟨j + 1, g, by have := HLT.out; omega, by go_num, by go_num, ⟨HG.out.1, fun h => ⟨(HG.out.2 h).1, by omega⟩⟩, D15.out⟩
          case measure => have := HLT.out; simp [intOf]; omega
        · have FF := fill_find HC0.out HOQ.out (i := j) (by have := HN.out; have := HLT.out; omega) (by rw [HP.out]; exact fun e => hp e.2)
          rw [HP.out, HLL.out] at FF
          have D15 : Hid (Below U.heap.size U wr.drew) := HB.out.drew
          refine wp_region_held (S := fun w' => Below U.heap.size U w') (by kernel_rfl) ?_
          change wpAnyH _ _ _ _ _ _ _ _ (World.drew _)
          generalize wr.drew = d15 at *
          refine wpAnyH_take (i := 0) (v := .slice (some ⟨cg, 0, none⟩) n cc) rfl (by kernel_rfl) (by kernel_rfl) (by kernel_rfl) (fun _ _ _ h => h) (Or.inl ⟨by rfl, fun w' hs => by go_simp⟩) D15.out ?_
          change wpAnyH _ _ _ _ _ _ _ (Act.put _ (some 92) _) _
          simp only [Act.put, List.setIfInBounds_toArray, List.set_cons_zero, List.set_cons_succ]
          refine wpAnyH_take (i := 1) (v := .int .i64 (j : Int)) rfl (by kernel_rfl) (by kernel_rfl) (by kernel_rfl) (fun _ _ _ h => h) (Or.inl ⟨by rfl, fun w' hs => by go_simp⟩) D15.out ?_
          change wpAnyH _ _ _ _ _ _ _ (Act.put _ (some 93) _) _
          simp only [Act.put, List.setIfInBounds_toArray, List.set_cons_zero, List.set_cons_succ]
          refine wpAnyH_take (i := 2) (v := .pointer (some ⟨cg, j * 4, none⟩)) rfl (by kernel_rfl) (by kernel_rfl) (by kernel_rfl) (fun _ _ _ h => h) (Or.inl ⟨by rfl, fun w' hs => by have h0 := hJ; have h1 := HLT.out; go_simp⟩) D15.out ?_
          change wpAnyH _ _ _ _ _ _ _ (Act.put _ (some 94) _) _
          simp only [Act.put, List.setIfInBounds_toArray, List.set_cons_zero, List.set_cons_succ]
          refine wpAnyH_take (i := 3) (v := .pointer (some ⟨cg, j * 4, none⟩)) rfl (by kernel_rfl) (by kernel_rfl) (by kernel_rfl) (fun _ _ _ h => h) (Or.inl ⟨by rfl, fun w' hs => by go_simp⟩) D15.out ?_
          change wpAnyH _ _ _ _ _ _ _ (Act.put _ (some 95) _) _
          simp only [Act.put, List.setIfInBounds_toArray, List.set_cons_zero, List.set_cons_succ]
          refine wpAnyH_take (i := 4) (v := .int .i64 p.tag) rfl (by kernel_rfl) (by kernel_rfl) (by kernel_rfl) (fun _ _ _ h => h) (Or.inl ⟨by rfl, fun w' hs => by have hc := cp0.out w' hs; go_simp⟩) D15.out ?_
          change wpAnyH _ _ _ _ _ _ _ (Act.put _ (some 96) _) _
          simp only [Act.put, List.setIfInBounds_toArray, List.set_cons_zero, List.set_cons_succ]
          refine wpAnyH_take (i := 5) (v := .pointer (some ⟨t, 0, none⟩)) rfl (by kernel_rfl) (by kernel_rfl) (by kernel_rfl) (fun _ _ _ h => h) (Or.inl ⟨by rfl, fun w' hs => by go_simp⟩) D15.out ?_
          change wpAnyH _ _ _ _ _ _ _ (Act.put _ (some 97) _) _
          simp only [Act.put, List.setIfInBounds_toArray, List.set_cons_zero, List.set_cons_succ]
          refine wpAnyH_take (i := 6) (v := .int .i64 q.tag) rfl (by kernel_rfl) (by kernel_rfl) (by kernel_rfl) (fun _ _ _ h => h) (Or.inl ⟨by rfl, fun w' hs => by have hc := ct0.out w' hs; go_simp⟩) D15.out ?_
          change wpAnyH _ _ _ _ _ _ _ (Act.put _ (some 98) _) _
          simp only [Act.put, List.setIfInBounds_toArray, List.set_cons_zero, List.set_cons_succ]
          refine wpAnyH_take (i := 7) (v := .bool true) rfl (by kernel_rfl) (by kernel_rfl) (by kernel_rfl) (fun _ _ _ h => h) (Or.inl ⟨by rfl, fun w' hs => by have h0 := ht; go_simp⟩) D15.out ?_
          change wpAnyH _ _ _ _ _ _ _ (Act.put _ (some 99) _) _
          simp only [Act.put, List.setIfInBounds_toArray, List.set_cons_zero, List.set_cons_succ]
          refine wpAnyH_take (i := 8) (v := .bool true) rfl (by kernel_rfl) (by kernel_rfl) (by kernel_rfl) (fun _ _ _ h => h) (Or.inl ⟨by rfl, fun w' hs => by go_simp⟩) D15.out ?_
          change wpAnyH _ _ _ _ _ _ _ (Act.put _ (some 100) _) _
          simp only [Act.put, List.setIfInBounds_toArray, List.set_cons_zero, List.set_cons_succ]
          refine wpAnyH_take (i := 9) (v := .slice (some ⟨cg, 0, none⟩) n cc) rfl (by kernel_rfl) (by kernel_rfl) (by kernel_rfl) (fun _ _ _ h => h) (Or.inl ⟨by rfl, fun w' hs => by go_simp⟩) D15.out ?_
          change wpAnyH _ _ _ _ _ _ _ (Act.put _ (some 101) _) _
          simp only [Act.put, List.setIfInBounds_toArray, List.set_cons_zero, List.set_cons_succ]
          refine wpAnyH_take (i := 10) (v := .int .i64 (j : Int)) rfl (by kernel_rfl) (by kernel_rfl) (by kernel_rfl) (fun _ _ _ h => h) (Or.inl ⟨by rfl, fun w' hs => by go_simp⟩) D15.out ?_
          change wpAnyH _ _ _ _ _ _ _ (Act.put _ (some 102) _) _
          simp only [Act.put, List.setIfInBounds_toArray, List.set_cons_zero, List.set_cons_succ]
          refine wpAnyH_take (i := 11) (v := .pointer (some ⟨cg, j * 4, none⟩)) rfl (by kernel_rfl) (by kernel_rfl) (by kernel_rfl) (fun _ _ _ h => h) (Or.inl ⟨by rfl, fun w' hs => by have h0 := hJ; have h1 := HLT.out; go_simp⟩) D15.out ?_
          change wpAnyH _ _ _ _ _ _ _ (Act.put _ (some 103) _) _
          simp only [Act.put, List.setIfInBounds_toArray, List.set_cons_zero, List.set_cons_succ]
          refine wpAnyH_take (i := 12) (v := .pointer (some ⟨cg, j * 4 + 1, none⟩)) rfl (by kernel_rfl) (by kernel_rfl) (by kernel_rfl) (fun _ _ _ h => h) (Or.inl ⟨by rfl, fun w' hs => by go_simp⟩) D15.out ?_
          change wpAnyH _ _ _ _ _ _ _ (Act.put _ (some 104) _) _
          simp only [Act.put, List.setIfInBounds_toArray, List.set_cons_zero, List.set_cons_succ]
          refine wpAnyH_take (i := 13) (v := .int .i64 p.page) rfl (by kernel_rfl) (by kernel_rfl) (by kernel_rfl) (fun _ _ _ h => h) (Or.inl ⟨by rfl, fun w' hs => by have hc := cp1.out w' hs; go_simp⟩) D15.out ?_
          change wpAnyH _ _ _ _ _ _ _ (Act.put _ (some 105) _) _
          simp only [Act.put, List.setIfInBounds_toArray, List.set_cons_zero, List.set_cons_succ]
          refine wpAnyH_take (i := 14) (v := .pointer (some ⟨t, 1, none⟩)) rfl (by kernel_rfl) (by kernel_rfl) (by kernel_rfl) (fun _ _ _ h => h) (Or.inl ⟨by rfl, fun w' hs => by go_simp⟩) D15.out ?_
          change wpAnyH _ _ _ _ _ _ _ (Act.put _ (some 106) _) _
          simp only [Act.put, List.setIfInBounds_toArray, List.set_cons_zero, List.set_cons_succ]
          refine wpAnyH_take (i := 15) (v := .int .i64 q.page) rfl (by kernel_rfl) (by kernel_rfl) (by kernel_rfl) (fun _ _ _ h => h) (Or.inl ⟨by rfl, fun w' hs => by have hc := ct1.out w' hs; go_simp⟩) D15.out ?_
          change wpAnyH _ _ _ _ _ _ _ (Act.put _ (some 107) _) _
          simp only [Act.put, List.setIfInBounds_toArray, List.set_cons_zero, List.set_cons_succ]
          refine wpAnyH_take (i := 16) (v := .bool false) rfl (by kernel_rfl) (by kernel_rfl) (by kernel_rfl) (fun _ _ _ h => h) (Or.inl ⟨by rfl, fun w' hs => by have h0 := hp; go_simp⟩) D15.out ?_
          change wpAnyH _ _ _ _ _ _ _ (Act.put _ (some 108) _) _
          simp only [Act.put, List.setIfInBounds_toArray, List.set_cons_zero, List.set_cons_succ]
          refine wpAnyH_take (i := 17) (v := .bool false) rfl (by kernel_rfl) (by kernel_rfl) (by kernel_rfl) (fun _ _ _ h => h) (Or.inl ⟨by rfl, fun w' hs => by go_simp⟩) D15.out ?_
          change wpAnyH _ _ _ _ _ _ _ (Act.put _ (some 109) _) _
          simp only [Act.put, List.setIfInBounds_toArray, List.set_cons_zero, List.set_cons_succ]
          refine wpAnyH_done (by kernel_rfl) ?_ _
          clear ht hp
          have SRR : Hid (Below U.heap.size U d15) := D15.out
          go_upto_region 16 with fail
          have SR : Hid (Below U.heap.size U d15) := SRR.out
          have D16 : Hid (Below U.heap.size U d15.drew) := SR.out.drew
          refine wp_region_held (S := fun w' => Below U.heap.size U w') (by kernel_rfl) ?_
          change wpAnyH _ _ _ _ _ _ _ _ (World.drew _)
          generalize d15.drew = d16 at *
          refine wpAnyH_take (i := 0) (v := .pointer (some ⟨s, 3, none⟩)) rfl (by kernel_rfl) (by kernel_rfl) (by kernel_rfl) (fun _ _ _ h => h) (Or.inl ⟨by rfl, fun w' hs => by go_simp⟩) D16.out ?_
          change wpAnyH _ _ _ _ _ _ _ (Act.put _ (some 110) _) _
          simp only [Act.put, List.setIfInBounds_toArray, List.set_cons_zero, List.set_cons_succ]
          refine wpAnyH_take (i := 1) (v := .slice (some ⟨lg, 0, none⟩) ll lc) rfl (by kernel_rfl) (by kernel_rfl) (by kernel_rfl) (fun _ _ _ h => h) (Or.inl ⟨by rfl, fun w' hs => by have hc := cs3.out w' hs; go_simp⟩) D16.out ?_
          change wpAnyH _ _ _ _ _ _ _ (Act.put _ (some 111) _) _
          simp only [Act.put, List.setIfInBounds_toArray, List.set_cons_zero, List.set_cons_succ]
          refine wpAnyH_take (i := 2) (v := .slice (some ⟨cg, 0, none⟩) n cc) rfl (by kernel_rfl) (by kernel_rfl) (by kernel_rfl) (fun _ _ _ h => h) (Or.inl ⟨by rfl, fun w' hs => by go_simp⟩) D16.out ?_
          change wpAnyH _ _ _ _ _ _ _ (Act.put _ (some 112) _) _
          simp only [Act.put, List.setIfInBounds_toArray, List.set_cons_zero, List.set_cons_succ]
          refine wpAnyH_take (i := 3) (v := .int .i64 (j : Int)) rfl (by kernel_rfl) (by kernel_rfl) (by kernel_rfl) (fun _ _ _ h => h) (Or.inl ⟨by rfl, fun w' hs => by go_simp⟩) D16.out ?_
          change wpAnyH _ _ _ _ _ _ _ (Act.put _ (some 113) _) _
          simp only [Act.put, List.setIfInBounds_toArray, List.set_cons_zero, List.set_cons_succ]
          refine wpAnyH_take (i := 4) (v := .pointer (some ⟨cg, j * 4, none⟩)) rfl (by kernel_rfl) (by kernel_rfl) (by kernel_rfl) (fun _ _ _ h => h) (Or.inl ⟨by rfl, fun w' hs => by have h0 := hJ; have h1 := HLT.out; go_simp⟩) D16.out ?_
          change wpAnyH _ _ _ _ _ _ _ (Act.put _ (some 114) _) _
          simp only [Act.put, List.setIfInBounds_toArray, List.set_cons_zero, List.set_cons_succ]
          refine wpAnyH_take (i := 5) (v := .pointer (some ⟨cg, j * 4, none⟩)) rfl (by kernel_rfl) (by kernel_rfl) (by kernel_rfl) (fun _ _ _ h => h) (Or.inl ⟨by rfl, fun w' hs => by go_simp⟩) D16.out ?_
          change wpAnyH _ _ _ _ _ _ _ (Act.put _ (some 115) _) _
          simp only [Act.put, List.setIfInBounds_toArray, List.set_cons_zero, List.set_cons_succ]
          refine wpAnyH_take (i := 6) (v := .int .i64 p.tag) rfl (by kernel_rfl) (by kernel_rfl) (by kernel_rfl) (fun _ _ _ h => h) (Or.inl ⟨by rfl, fun w' hs => by have hc := cp0.out w' hs; go_simp⟩) D16.out ?_
          change wpAnyH _ _ _ _ _ _ _ (Act.put _ (some 116) _) _
          simp only [Act.put, List.setIfInBounds_toArray, List.set_cons_zero, List.set_cons_succ]
          refine wpAnyH_take (i := 7) (v := .slice (some ⟨cg, 0, none⟩) n cc) rfl (by kernel_rfl) (by kernel_rfl) (by kernel_rfl) (fun _ _ _ h => h) (Or.inl ⟨by rfl, fun w' hs => by go_simp⟩) D16.out ?_
          change wpAnyH _ _ _ _ _ _ _ (Act.put _ (some 117) _) _
          simp only [Act.put, List.setIfInBounds_toArray, List.set_cons_zero, List.set_cons_succ]
          refine wpAnyH_take (i := 8) (v := .int .i64 (j : Int)) rfl (by kernel_rfl) (by kernel_rfl) (by kernel_rfl) (fun _ _ _ h => h) (Or.inl ⟨by rfl, fun w' hs => by go_simp⟩) D16.out ?_
          change wpAnyH _ _ _ _ _ _ _ (Act.put _ (some 118) _) _
          simp only [Act.put, List.setIfInBounds_toArray, List.set_cons_zero, List.set_cons_succ]
          refine wpAnyH_take (i := 9) (v := .pointer (some ⟨cg, j * 4, none⟩)) rfl (by kernel_rfl) (by kernel_rfl) (by kernel_rfl) (fun _ _ _ h => h) (Or.inl ⟨by rfl, fun w' hs => by have h0 := hJ; have h1 := HLT.out; go_simp⟩) D16.out ?_
          change wpAnyH _ _ _ _ _ _ _ (Act.put _ (some 119) _) _
          simp only [Act.put, List.setIfInBounds_toArray, List.set_cons_zero, List.set_cons_succ]
          refine wpAnyH_take (i := 10) (v := .pointer (some ⟨cg, j * 4 + 1, none⟩)) rfl (by kernel_rfl) (by kernel_rfl) (by kernel_rfl) (fun _ _ _ h => h) (Or.inl ⟨by rfl, fun w' hs => by go_simp⟩) D16.out ?_
          change wpAnyH _ _ _ _ _ _ _ (Act.put _ (some 120) _) _
          simp only [Act.put, List.setIfInBounds_toArray, List.set_cons_zero, List.set_cons_succ]
          refine wpAnyH_take (i := 11) (v := .int .i64 p.page) rfl (by kernel_rfl) (by kernel_rfl) (by kernel_rfl) (fun _ _ _ h => h) (Or.inl ⟨by rfl, fun w' hs => by have hc := cp1.out w' hs; go_simp⟩) D16.out ?_
          change wpAnyH _ _ _ _ _ _ _ (Act.put _ (some 121) _) _
          simp only [Act.put, List.setIfInBounds_toArray, List.set_cons_zero, List.set_cons_succ]
          refine wpAnyH_ready (rs := [12, 13]) (by kernel_rfl) (by simp) ?_
          refine AllReadyH.cons rfl (fun K hK => ?_) (AllReadyH.cons rfl (fun K hK => ?_) AllReadyH.nil)
          · skip
            rw [if_pos (by rfl)]
            go_simp
            refine (CP d16 D16.out).mono ?_
            rintro e y16 ⟨rfl, b8⟩
            have Y16 : Hid (Below U.heap.size U y16) := on D16.out b8
            refine hK.out _ _ Y16.out (fun _ => ?_)
            clear hK K b8
            refine wpAnyH_ready (rs := [13]) (by kernel_rfl) (by simp) ?_
            refine AllReadyH.cons rfl (fun K hK => ?_) AllReadyH.nil
            rw [if_pos (by rfl)]
            go_simp
            obtain ⟨x, hx⟩ : ∃ x, y16.heap.size = x := ⟨_, rfl⟩
            have VX0 : Hid (Vb (y16.alloc (.cells #[.int .i64 0, .int .i64 0] 33)) x #[.int .i64 0, .int .i64 0] 33) := by show Vb _ _ _ _; rw [← hx]; exact Vb.new _ _ _
            have SX0 : Hid (Below U.heap.size U (y16.alloc (.cells #[.int .i64 0, .int .i64 0] 33))) := al Y16.out _
            have XU : Hid (U.heap.size ≤ x) := by show _ ≤ _; rw [← hx]; exact Y16.out.size
            rw [hx]
            generalize y16.alloc (.cells #[.int .i64 0, .int .i64 0] 33) = wx at *
            clear hx
            refine hK.out _ _ SX0.out (fun _ => ?_)
            clear hK K
            refine wpAnyH_ready (rs := [14]) (by kernel_rfl) (by simp) ?_
            refine AllReadyH.cons rfl (fun K hK => ?_) AllReadyH.nil
            rw [if_pos (by rfl)]
            refine wp_store_mid 33 (.tmp 10) (.tmp 122) rfl x 0 #[.int .i64 xc, .int .i64 xv] rfl rfl (thr VX0.out) (by kernel_rfl) (by simp [Value.oneCell']) ?_
            change K (Act.put _ none undef) (World.setCells wx x 0 [.int .i64 xc, .int .i64 xv])
            simp only [Act.put]
            have VX : Hid (Vb (wx.setCells x 0 [.int .i64 xc, .int .i64 xv]) x #[.int .i64 xc, .int .i64 xv] 33) := (VX0.out.set 0 (.int .i64 xc)).set 1 (.int .i64 xv)
            have SX : Hid (Below U.heap.size U (wx.setCells x 0 [.int .i64 xc, .int .i64 xv])) := (SX0.out.setCell (p := ⟨x, 0, none⟩) XU.out _).setCell (p := ⟨x, 1, none⟩) XU.out _
            generalize wx.setCells x 0 [.int .i64 xc, .int .i64 xv] = wy at *
            refine hK.out _ _ SX.out (fun _ => ?_)
            clear hK K
            refine wpAnyH_done (by kernel_rfl) ?_ _
            have x0 := VX.out.cell 0 rfl
            rcases FF with ⟨jx, hjx, e1, e2, e3⟩ | ⟨e1, e2, e3⟩
            · have E1 : xc = 0 := HXC.out.symm.trans e1
              have E2 : xv = (jx : Int) := HXV.out.symm.trans e2
              subst E1 E2
              have PX : Hid (L.getD jx qz = p) := e3
              have JX : Hid (((jx : Int) < (ll : Int)) ∧ jx < ll) := by have := QLN.out; exact ⟨by omega, by omega⟩
              go_upto_region 19 with fail
              clear x0
              have SZ : Hid (Below U.heap.size U wy) := SX.out
              have VZ : Hid (Vb wy x #[.int .i64 0, .int .i64 (jx : Int)] 33) := VX.out
              generalize wy = wz at *
              have D19 : Hid (Below U.heap.size U wz.drew ∧ Vb wz.drew x #[.int .i64 0, .int .i64 (jx : Int)] 33) := ⟨SZ.out.drew, VZ.out⟩
              have cx1 : Hid (∀ w', (Below U.heap.size U w' ∧ Vb w' x #[.int .i64 0, .int .i64 (jx : Int)] 33) → w'.cell? ⟨x, 1, none⟩ = some (.int .i64 (jx : Int))) := fun w' hs => hs.2.cell 1 rfl
              have RLX : Hid (∀ w', (Below U.heap.size U w' ∧ Vb w' x #[.int .i64 0, .int .i64 (jx : Int)] 33) → w'.rangeAt lg (jx * 4) [.int .i64 p.tag, .int .i64 p.page, .int .i64 p.to, .int .i64 p.kinds]) := fun w' hs => by have tt := qrng (QL.out.keep hs.1) QLN.out jx JX.out.2; rw [PX.out] at tt; exact tt
              have RP : Hid (∀ w', (Below U.heap.size U w' ∧ Vb w' x #[.int .i64 0, .int .i64 (jx : Int)] 33) → w'.rangeAt cg (j * 4) [.int .i64 p.tag, .int .i64 p.page, .int .i64 p.to, .int .i64 p.kinds]) := fun w' hs => by have tt := qrng (QCU.out.keep hs.1) HN.out j HLT.out; rw [HP.out] at tt; exact tt
              refine wp_region_held (S := fun w' => Below U.heap.size U w' ∧ Vb w' x #[.int .i64 0, .int .i64 (jx : Int)] 33) (by kernel_rfl) ?_
              change wpAnyH _ _ _ _ _ _ _ _ (World.drew _)
              generalize wz.drew = d19 at *
              refine wpAnyH_take (i := 0) (v := .pointer (some ⟨s, 3, none⟩)) rfl (by kernel_rfl) (by kernel_rfl) (by kernel_rfl) (fun _ _ _ h => h) (Or.inl ⟨by rfl, fun w' hs => by go_simp⟩) D19.out ?_
              change wpAnyH _ _ _ _ _ _ _ (Act.put _ (some 128) _) _
              simp only [Act.put, List.setIfInBounds_toArray, List.set_cons_zero, List.set_cons_succ]
              refine wpAnyH_take (i := 1) (v := .slice (some ⟨lg, 0, none⟩) ll lc) rfl (by kernel_rfl) (by kernel_rfl) (by kernel_rfl) (fun _ _ _ h => h) (Or.inl ⟨by rfl, fun w' hs => by have hc := cs3.out w' hs.1; go_simp⟩) D19.out ?_
              change wpAnyH _ _ _ _ _ _ _ (Act.put _ (some 129) _) _
              simp only [Act.put, List.setIfInBounds_toArray, List.set_cons_zero, List.set_cons_succ]
              refine wpAnyH_take (i := 2) (v := .pointer (some ⟨x, 1, none⟩)) rfl (by kernel_rfl) (by kernel_rfl) (by kernel_rfl) (fun _ _ _ h => h) (Or.inl ⟨by rfl, fun w' hs => by go_simp⟩) D19.out ?_
              change wpAnyH _ _ _ _ _ _ _ (Act.put _ (some 130) _) _
              simp only [Act.put, List.setIfInBounds_toArray, List.set_cons_zero, List.set_cons_succ]
              refine wpAnyH_take (i := 3) (v := .int .i64 (jx : Int)) rfl (by kernel_rfl) (by kernel_rfl) (by kernel_rfl) (fun _ _ _ h => h) (Or.inl ⟨by rfl, fun w' hs => by have hc := cx1.out w' hs; go_simp⟩) D19.out ?_
              change wpAnyH _ _ _ _ _ _ _ (Act.put _ (some 131) _) _
              simp only [Act.put, List.setIfInBounds_toArray, List.set_cons_zero, List.set_cons_succ]
              refine wpAnyH_take (i := 4) (v := .pointer (some ⟨lg, jx * 4, none⟩)) rfl (by kernel_rfl) (by kernel_rfl) (by kernel_rfl) (fun _ _ _ h => h) (Or.inl ⟨by rfl, fun w' hs => by have h0 := JX.out.1; have h1 := JX.out.2; go_simp⟩) D19.out ?_
              change wpAnyH _ _ _ _ _ _ _ (Act.put _ (some 132) _) _
              simp only [Act.put, List.setIfInBounds_toArray, List.set_cons_zero, List.set_cons_succ]
              refine wpAnyH_take (i := 5) (v := .agg #[.int .i64 p.tag, .int .i64 p.page, .int .i64 p.to, .int .i64 p.kinds]) rfl (by kernel_rfl) (by kernel_rfl) (by kernel_rfl) (fun _ _ _ h => h) (yieldsIf_load_mid (by rfl) 26 (.tmp 132) rfl lg (jx * 4) rfl [.int .i64 p.tag, .int .i64 p.page, .int .i64 p.to, .int .i64 p.kinds] _ RLX.out Try.underlying26 rfl (by kernel_rfl)) D19.out ?_
              change wpAnyH _ _ _ _ _ _ _ (Act.put _ (some 133) _) _
              simp only [Act.put, List.setIfInBounds_toArray, List.set_cons_zero, List.set_cons_succ]
              refine wpAnyH_take (i := 6) (v := .slice (some ⟨cg, 0, none⟩) n cc) rfl (by kernel_rfl) (by kernel_rfl) (by kernel_rfl) (fun _ _ _ h => h) (Or.inl ⟨by rfl, fun w' hs => by go_simp⟩) D19.out ?_
              change wpAnyH _ _ _ _ _ _ _ (Act.put _ (some 134) _) _
              simp only [Act.put, List.setIfInBounds_toArray, List.set_cons_zero, List.set_cons_succ]
              refine wpAnyH_take (i := 7) (v := .int .i64 (j : Int)) rfl (by kernel_rfl) (by kernel_rfl) (by kernel_rfl) (fun _ _ _ h => h) (Or.inl ⟨by rfl, fun w' hs => by go_simp⟩) D19.out ?_
              change wpAnyH _ _ _ _ _ _ _ (Act.put _ (some 135) _) _
              simp only [Act.put, List.setIfInBounds_toArray, List.set_cons_zero, List.set_cons_succ]
              refine wpAnyH_take (i := 8) (v := .pointer (some ⟨cg, j * 4, none⟩)) rfl (by kernel_rfl) (by kernel_rfl) (by kernel_rfl) (fun _ _ _ h => h) (Or.inl ⟨by rfl, fun w' hs => by have h0 := hJ; have h1 := HLT.out; go_simp⟩) D19.out ?_
              change wpAnyH _ _ _ _ _ _ _ (Act.put _ (some 136) _) _
              simp only [Act.put, List.setIfInBounds_toArray, List.set_cons_zero, List.set_cons_succ]
              refine wpAnyH_take (i := 9) (v := .agg #[.int .i64 p.tag, .int .i64 p.page, .int .i64 p.to, .int .i64 p.kinds]) rfl (by kernel_rfl) (by kernel_rfl) (by kernel_rfl) (fun _ _ _ h => h) (yieldsIf_load_mid (by rfl) 26 (.tmp 136) rfl cg (j * 4) rfl [.int .i64 p.tag, .int .i64 p.page, .int .i64 p.to, .int .i64 p.kinds] _ RP.out Try.underlying26 rfl (by kernel_rfl)) D19.out ?_
              change wpAnyH _ _ _ _ _ _ _ (Act.put _ (some 137) _) _
              simp only [Act.put, List.setIfInBounds_toArray, List.set_cons_zero, List.set_cons_succ]
              refine wpAnyH_take (i := 10) (v := .bool false) rfl (by kernel_rfl) (by kernel_rfl) (by kernel_rfl) (fun _ _ _ h => h) (Or.inl ⟨by rfl, fun w' hs => by go_simp⟩) D19.out ?_
              change wpAnyH _ _ _ _ _ _ _ (Act.put _ (some 138) _) _
              simp only [Act.put, List.setIfInBounds_toArray, List.set_cons_zero, List.set_cons_succ]
              refine wpAnyH_done (by kernel_rfl) ?_ _
              go_wp2_with fail
              go_roundw
              case rel => exact ⟨j + 1, g, by have := HLT.out; omega, by go_num, by go_num, ⟨HG.out.1, fun h => ⟨(HG.out.2 h).1, by omega⟩⟩, D19.out.1⟩
              case measure => have := HLT.out; simp [intOf]; omega
            · have E1 : xc = 4 := HXC.out.symm.trans e1
              subst E1
              have hg0 : g = 0 := by
                have h0 := HG.out
                by_cases h : g = 1
                · have := (h0.2 h).2; omega
                · omega
              subst hg0
              go_wp2_with fail
              go_roundw
              case rel => exact ⟨j + 1, 1, by have := HLT.out; omega, by go_num, by go_num, ⟨by omega, fun _ => ⟨by have := HN.out; omega, by omega⟩⟩, SX.out⟩
              case measure => have := HLT.out; simp [intOf]; omega
          · skip
            rw [if_pos (by rfl)]
            go_simp
            obtain ⟨x, hx⟩ : ∃ x, d16.heap.size = x := ⟨_, rfl⟩
            have VX0 : Hid (Vb (d16.alloc (.cells #[.int .i64 0, .int .i64 0] 33)) x #[.int .i64 0, .int .i64 0] 33) := by show Vb _ _ _ _; rw [← hx]; exact Vb.new _ _ _
            have SX0 : Hid (Below U.heap.size U (d16.alloc (.cells #[.int .i64 0, .int .i64 0] 33))) := al D16.out _
            have XU : Hid (U.heap.size ≤ x) := by show _ ≤ _; rw [← hx]; exact D16.out.size
            rw [hx]
            generalize d16.alloc (.cells #[.int .i64 0, .int .i64 0] 33) = wx at *
            clear hx
            refine hK.out _ _ SX0.out (fun _ => ?_)
            clear hK K
            refine wpAnyH_ready (rs := [12]) (by kernel_rfl) (by simp) ?_
            refine AllReadyH.cons rfl (fun K hK => ?_) AllReadyH.nil
            rw [if_pos (by rfl)]
            go_simp
            refine (CP wx SX0.out).mono ?_
            rintro e y16 ⟨rfl, b8⟩
            have Y16 : Hid (Below U.heap.size U y16) := on SX0.out b8
            have VX1 : Hid (Vb y16 x #[.int .i64 0, .int .i64 0] 33) := VX0.out.keep b8
            refine hK.out _ _ Y16.out (fun _ => ?_)
            clear hK K b8
            refine wpAnyH_ready (rs := [14]) (by kernel_rfl) (by simp) ?_
            refine AllReadyH.cons rfl (fun K hK => ?_) AllReadyH.nil
            rw [if_pos (by rfl)]
            refine wp_store_mid 33 (.tmp 10) (.tmp 122) rfl x 0 #[.int .i64 xc, .int .i64 xv] rfl rfl (thr VX1.out) (by kernel_rfl) (by simp [Value.oneCell']) ?_
            change K (Act.put _ none undef) (World.setCells y16 x 0 [.int .i64 xc, .int .i64 xv])
            simp only [Act.put]
            have VX : Hid (Vb (y16.setCells x 0 [.int .i64 xc, .int .i64 xv]) x #[.int .i64 xc, .int .i64 xv] 33) := (VX1.out.set 0 (.int .i64 xc)).set 1 (.int .i64 xv)
            have SX : Hid (Below U.heap.size U (y16.setCells x 0 [.int .i64 xc, .int .i64 xv])) := (Y16.out.setCell (p := ⟨x, 0, none⟩) XU.out _).setCell (p := ⟨x, 1, none⟩) XU.out _
            generalize y16.setCells x 0 [.int .i64 xc, .int .i64 xv] = wy at *
            refine hK.out _ _ SX.out (fun _ => ?_)
            clear hK K
            refine wpAnyH_done (by kernel_rfl) ?_ _
            have x0 := VX.out.cell 0 rfl
            rcases FF with ⟨jx, hjx, e1, e2, e3⟩ | ⟨e1, e2, e3⟩
            · have E1 : xc = 0 := HXC.out.symm.trans e1
              have E2 : xv = (jx : Int) := HXV.out.symm.trans e2
              subst E1 E2
              have PX : Hid (L.getD jx qz = p) := e3
              have JX : Hid (((jx : Int) < (ll : Int)) ∧ jx < ll) := by have := QLN.out; exact ⟨by omega, by omega⟩
              go_upto_region 19 with fail
              clear x0
              have SZ : Hid (Below U.heap.size U wy) := SX.out
              have VZ : Hid (Vb wy x #[.int .i64 0, .int .i64 (jx : Int)] 33) := VX.out
              generalize wy = wz at *
              have D19 : Hid (Below U.heap.size U wz.drew ∧ Vb wz.drew x #[.int .i64 0, .int .i64 (jx : Int)] 33) := ⟨SZ.out.drew, VZ.out⟩
              have cx1 : Hid (∀ w', (Below U.heap.size U w' ∧ Vb w' x #[.int .i64 0, .int .i64 (jx : Int)] 33) → w'.cell? ⟨x, 1, none⟩ = some (.int .i64 (jx : Int))) := fun w' hs => hs.2.cell 1 rfl
              have RLX : Hid (∀ w', (Below U.heap.size U w' ∧ Vb w' x #[.int .i64 0, .int .i64 (jx : Int)] 33) → w'.rangeAt lg (jx * 4) [.int .i64 p.tag, .int .i64 p.page, .int .i64 p.to, .int .i64 p.kinds]) := fun w' hs => by have tt := qrng (QL.out.keep hs.1) QLN.out jx JX.out.2; rw [PX.out] at tt; exact tt
              have RP : Hid (∀ w', (Below U.heap.size U w' ∧ Vb w' x #[.int .i64 0, .int .i64 (jx : Int)] 33) → w'.rangeAt cg (j * 4) [.int .i64 p.tag, .int .i64 p.page, .int .i64 p.to, .int .i64 p.kinds]) := fun w' hs => by have tt := qrng (QCU.out.keep hs.1) HN.out j HLT.out; rw [HP.out] at tt; exact tt
              refine wp_region_held (S := fun w' => Below U.heap.size U w' ∧ Vb w' x #[.int .i64 0, .int .i64 (jx : Int)] 33) (by kernel_rfl) ?_
              change wpAnyH _ _ _ _ _ _ _ _ (World.drew _)
              generalize wz.drew = d19 at *
              refine wpAnyH_take (i := 0) (v := .pointer (some ⟨s, 3, none⟩)) rfl (by kernel_rfl) (by kernel_rfl) (by kernel_rfl) (fun _ _ _ h => h) (Or.inl ⟨by rfl, fun w' hs => by go_simp⟩) D19.out ?_
              change wpAnyH _ _ _ _ _ _ _ (Act.put _ (some 128) _) _
              simp only [Act.put, List.setIfInBounds_toArray, List.set_cons_zero, List.set_cons_succ]
              refine wpAnyH_take (i := 1) (v := .slice (some ⟨lg, 0, none⟩) ll lc) rfl (by kernel_rfl) (by kernel_rfl) (by kernel_rfl) (fun _ _ _ h => h) (Or.inl ⟨by rfl, fun w' hs => by have hc := cs3.out w' hs.1; go_simp⟩) D19.out ?_
              change wpAnyH _ _ _ _ _ _ _ (Act.put _ (some 129) _) _
              simp only [Act.put, List.setIfInBounds_toArray, List.set_cons_zero, List.set_cons_succ]
              refine wpAnyH_take (i := 2) (v := .pointer (some ⟨x, 1, none⟩)) rfl (by kernel_rfl) (by kernel_rfl) (by kernel_rfl) (fun _ _ _ h => h) (Or.inl ⟨by rfl, fun w' hs => by go_simp⟩) D19.out ?_
              change wpAnyH _ _ _ _ _ _ _ (Act.put _ (some 130) _) _
              simp only [Act.put, List.setIfInBounds_toArray, List.set_cons_zero, List.set_cons_succ]
              refine wpAnyH_take (i := 3) (v := .int .i64 (jx : Int)) rfl (by kernel_rfl) (by kernel_rfl) (by kernel_rfl) (fun _ _ _ h => h) (Or.inl ⟨by rfl, fun w' hs => by have hc := cx1.out w' hs; go_simp⟩) D19.out ?_
              change wpAnyH _ _ _ _ _ _ _ (Act.put _ (some 131) _) _
              simp only [Act.put, List.setIfInBounds_toArray, List.set_cons_zero, List.set_cons_succ]
              refine wpAnyH_take (i := 4) (v := .pointer (some ⟨lg, jx * 4, none⟩)) rfl (by kernel_rfl) (by kernel_rfl) (by kernel_rfl) (fun _ _ _ h => h) (Or.inl ⟨by rfl, fun w' hs => by have h0 := JX.out.1; have h1 := JX.out.2; go_simp⟩) D19.out ?_
              change wpAnyH _ _ _ _ _ _ _ (Act.put _ (some 132) _) _
              simp only [Act.put, List.setIfInBounds_toArray, List.set_cons_zero, List.set_cons_succ]
              refine wpAnyH_take (i := 5) (v := .agg #[.int .i64 p.tag, .int .i64 p.page, .int .i64 p.to, .int .i64 p.kinds]) rfl (by kernel_rfl) (by kernel_rfl) (by kernel_rfl) (fun _ _ _ h => h) (yieldsIf_load_mid (by rfl) 26 (.tmp 132) rfl lg (jx * 4) rfl [.int .i64 p.tag, .int .i64 p.page, .int .i64 p.to, .int .i64 p.kinds] _ RLX.out Try.underlying26 rfl (by kernel_rfl)) D19.out ?_
              change wpAnyH _ _ _ _ _ _ _ (Act.put _ (some 133) _) _
              simp only [Act.put, List.setIfInBounds_toArray, List.set_cons_zero, List.set_cons_succ]
              refine wpAnyH_take (i := 6) (v := .slice (some ⟨cg, 0, none⟩) n cc) rfl (by kernel_rfl) (by kernel_rfl) (by kernel_rfl) (fun _ _ _ h => h) (Or.inl ⟨by rfl, fun w' hs => by go_simp⟩) D19.out ?_
              change wpAnyH _ _ _ _ _ _ _ (Act.put _ (some 134) _) _
              simp only [Act.put, List.setIfInBounds_toArray, List.set_cons_zero, List.set_cons_succ]
              refine wpAnyH_take (i := 7) (v := .int .i64 (j : Int)) rfl (by kernel_rfl) (by kernel_rfl) (by kernel_rfl) (fun _ _ _ h => h) (Or.inl ⟨by rfl, fun w' hs => by go_simp⟩) D19.out ?_
              change wpAnyH _ _ _ _ _ _ _ (Act.put _ (some 135) _) _
              simp only [Act.put, List.setIfInBounds_toArray, List.set_cons_zero, List.set_cons_succ]
              refine wpAnyH_take (i := 8) (v := .pointer (some ⟨cg, j * 4, none⟩)) rfl (by kernel_rfl) (by kernel_rfl) (by kernel_rfl) (fun _ _ _ h => h) (Or.inl ⟨by rfl, fun w' hs => by have h0 := hJ; have h1 := HLT.out; go_simp⟩) D19.out ?_
              change wpAnyH _ _ _ _ _ _ _ (Act.put _ (some 136) _) _
              simp only [Act.put, List.setIfInBounds_toArray, List.set_cons_zero, List.set_cons_succ]
              refine wpAnyH_take (i := 9) (v := .agg #[.int .i64 p.tag, .int .i64 p.page, .int .i64 p.to, .int .i64 p.kinds]) rfl (by kernel_rfl) (by kernel_rfl) (by kernel_rfl) (fun _ _ _ h => h) (yieldsIf_load_mid (by rfl) 26 (.tmp 136) rfl cg (j * 4) rfl [.int .i64 p.tag, .int .i64 p.page, .int .i64 p.to, .int .i64 p.kinds] _ RP.out Try.underlying26 rfl (by kernel_rfl)) D19.out ?_
              change wpAnyH _ _ _ _ _ _ _ (Act.put _ (some 137) _) _
              simp only [Act.put, List.setIfInBounds_toArray, List.set_cons_zero, List.set_cons_succ]
              refine wpAnyH_take (i := 10) (v := .bool false) rfl (by kernel_rfl) (by kernel_rfl) (by kernel_rfl) (fun _ _ _ h => h) (Or.inl ⟨by rfl, fun w' hs => by go_simp⟩) D19.out ?_
              change wpAnyH _ _ _ _ _ _ _ (Act.put _ (some 138) _) _
              simp only [Act.put, List.setIfInBounds_toArray, List.set_cons_zero, List.set_cons_succ]
              refine wpAnyH_done (by kernel_rfl) ?_ _
              go_wp2_with fail
              go_roundw
              case rel => exact ⟨j + 1, g, by have := HLT.out; omega, by go_num, by go_num, ⟨HG.out.1, fun h => ⟨(HG.out.2 h).1, by omega⟩⟩, D19.out.1⟩
              case measure => have := HLT.out; simp [intOf]; omega
            · have E1 : xc = 4 := HXC.out.symm.trans e1
              subst E1
              have hg0 : g = 0 := by
                have h0 := HG.out
                by_cases h : g = 1
                · have := (h0.2 h).2; omega
                · omega
              subst hg0
              go_wp2_with fail
              go_roundw
              case rel => exact ⟨j + 1, 1, by have := HLT.out; omega, by go_num, by go_num, ⟨by omega, fun _ => ⟨by have := HN.out; omega, by omega⟩⟩, SX.out⟩
              case measure => have := HLT.out; simp [intOf]; omega
      · have FF := fill_find HC0.out HOQ.out (i := j) (by have := HN.out; have := HLT.out; omega) (by rw [HP.out]; exact fun e => ht e.1)
        rw [HP.out, HLL.out] at FF
        have D15 : Hid (Below U.heap.size U wr.drew) := HB.out.drew
        refine wp_region_held (S := fun w' => Below U.heap.size U w') (by kernel_rfl) ?_
        change wpAnyH _ _ _ _ _ _ _ _ (World.drew _)
        generalize wr.drew = d15 at *
        refine wpAnyH_take (i := 0) (v := .slice (some ⟨cg, 0, none⟩) n cc) rfl (by kernel_rfl) (by kernel_rfl) (by kernel_rfl) (fun _ _ _ h => h) (Or.inl ⟨by rfl, fun w' hs => by go_simp⟩) D15.out ?_
        change wpAnyH _ _ _ _ _ _ _ (Act.put _ (some 92) _) _
        simp only [Act.put, List.setIfInBounds_toArray, List.set_cons_zero, List.set_cons_succ]
        refine wpAnyH_take (i := 1) (v := .int .i64 (j : Int)) rfl (by kernel_rfl) (by kernel_rfl) (by kernel_rfl) (fun _ _ _ h => h) (Or.inl ⟨by rfl, fun w' hs => by go_simp⟩) D15.out ?_
        change wpAnyH _ _ _ _ _ _ _ (Act.put _ (some 93) _) _
        simp only [Act.put, List.setIfInBounds_toArray, List.set_cons_zero, List.set_cons_succ]
        refine wpAnyH_take (i := 2) (v := .pointer (some ⟨cg, j * 4, none⟩)) rfl (by kernel_rfl) (by kernel_rfl) (by kernel_rfl) (fun _ _ _ h => h) (Or.inl ⟨by rfl, fun w' hs => by have h0 := hJ; have h1 := HLT.out; go_simp⟩) D15.out ?_
        change wpAnyH _ _ _ _ _ _ _ (Act.put _ (some 94) _) _
        simp only [Act.put, List.setIfInBounds_toArray, List.set_cons_zero, List.set_cons_succ]
        refine wpAnyH_take (i := 3) (v := .pointer (some ⟨cg, j * 4, none⟩)) rfl (by kernel_rfl) (by kernel_rfl) (by kernel_rfl) (fun _ _ _ h => h) (Or.inl ⟨by rfl, fun w' hs => by go_simp⟩) D15.out ?_
        change wpAnyH _ _ _ _ _ _ _ (Act.put _ (some 95) _) _
        simp only [Act.put, List.setIfInBounds_toArray, List.set_cons_zero, List.set_cons_succ]
        refine wpAnyH_take (i := 4) (v := .int .i64 p.tag) rfl (by kernel_rfl) (by kernel_rfl) (by kernel_rfl) (fun _ _ _ h => h) (Or.inl ⟨by rfl, fun w' hs => by have hc := cp0.out w' hs; go_simp⟩) D15.out ?_
        change wpAnyH _ _ _ _ _ _ _ (Act.put _ (some 96) _) _
        simp only [Act.put, List.setIfInBounds_toArray, List.set_cons_zero, List.set_cons_succ]
        refine wpAnyH_take (i := 5) (v := .pointer (some ⟨t, 0, none⟩)) rfl (by kernel_rfl) (by kernel_rfl) (by kernel_rfl) (fun _ _ _ h => h) (Or.inl ⟨by rfl, fun w' hs => by go_simp⟩) D15.out ?_
        change wpAnyH _ _ _ _ _ _ _ (Act.put _ (some 97) _) _
        simp only [Act.put, List.setIfInBounds_toArray, List.set_cons_zero, List.set_cons_succ]
        refine wpAnyH_take (i := 6) (v := .int .i64 q.tag) rfl (by kernel_rfl) (by kernel_rfl) (by kernel_rfl) (fun _ _ _ h => h) (Or.inl ⟨by rfl, fun w' hs => by have hc := ct0.out w' hs; go_simp⟩) D15.out ?_
        change wpAnyH _ _ _ _ _ _ _ (Act.put _ (some 98) _) _
        simp only [Act.put, List.setIfInBounds_toArray, List.set_cons_zero, List.set_cons_succ]
        refine wpAnyH_take (i := 7) (v := .bool false) rfl (by kernel_rfl) (by kernel_rfl) (by kernel_rfl) (fun _ _ _ h => h) (Or.inl ⟨by rfl, fun w' hs => by have h0 := ht; go_simp⟩) D15.out ?_
        change wpAnyH _ _ _ _ _ _ _ (Act.put _ (some 99) _) _
        simp only [Act.put, List.setIfInBounds_toArray, List.set_cons_zero, List.set_cons_succ]
        refine wpAnyH_take (i := 8) (v := .bool false) rfl (by kernel_rfl) (by kernel_rfl) (by kernel_rfl) (fun _ _ _ h => h) (Or.inl ⟨by rfl, fun w' hs => by go_simp⟩) D15.out ?_
        change wpAnyH _ _ _ _ _ _ _ (Act.put _ (some 100) _) _
        simp only [Act.put, List.setIfInBounds_toArray, List.set_cons_zero, List.set_cons_succ]
        refine wpAnyH_take (i := 9) (v := undef) rfl (by kernel_rfl) (by kernel_rfl) (by kernel_rfl) (fun _ _ _ h => h) (Or.inr ⟨by rfl, rfl⟩) D15.out ?_
        change wpAnyH _ _ _ _ _ _ _ (Act.put _ (some 101) _) _
        simp only [Act.put, List.setIfInBounds_toArray, List.set_cons_zero, List.set_cons_succ]
        refine wpAnyH_take (i := 10) (v := undef) rfl (by kernel_rfl) (by kernel_rfl) (by kernel_rfl) (fun _ _ _ h => h) (Or.inr ⟨by rfl, rfl⟩) D15.out ?_
        change wpAnyH _ _ _ _ _ _ _ (Act.put _ (some 102) _) _
        simp only [Act.put, List.setIfInBounds_toArray, List.set_cons_zero, List.set_cons_succ]
        refine wpAnyH_take (i := 11) (v := undef) rfl (by kernel_rfl) (by kernel_rfl) (by kernel_rfl) (fun _ _ _ h => h) (Or.inr ⟨by rfl, rfl⟩) D15.out ?_
        change wpAnyH _ _ _ _ _ _ _ (Act.put _ (some 103) _) _
        simp only [Act.put, List.setIfInBounds_toArray, List.set_cons_zero, List.set_cons_succ]
        refine wpAnyH_take (i := 12) (v := undef) rfl (by kernel_rfl) (by kernel_rfl) (by kernel_rfl) (fun _ _ _ h => h) (Or.inr ⟨by rfl, rfl⟩) D15.out ?_
        change wpAnyH _ _ _ _ _ _ _ (Act.put _ (some 104) _) _
        simp only [Act.put, List.setIfInBounds_toArray, List.set_cons_zero, List.set_cons_succ]
        refine wpAnyH_take (i := 13) (v := undef) rfl (by kernel_rfl) (by kernel_rfl) (by kernel_rfl) (fun _ _ _ h => h) (Or.inr ⟨by rfl, rfl⟩) D15.out ?_
        change wpAnyH _ _ _ _ _ _ _ (Act.put _ (some 105) _) _
        simp only [Act.put, List.setIfInBounds_toArray, List.set_cons_zero, List.set_cons_succ]
        refine wpAnyH_take (i := 14) (v := undef) rfl (by kernel_rfl) (by kernel_rfl) (by kernel_rfl) (fun _ _ _ h => h) (Or.inr ⟨by rfl, rfl⟩) D15.out ?_
        change wpAnyH _ _ _ _ _ _ _ (Act.put _ (some 106) _) _
        simp only [Act.put, List.setIfInBounds_toArray, List.set_cons_zero, List.set_cons_succ]
        refine wpAnyH_take (i := 15) (v := undef) rfl (by kernel_rfl) (by kernel_rfl) (by kernel_rfl) (fun _ _ _ h => h) (Or.inr ⟨by rfl, rfl⟩) D15.out ?_
        change wpAnyH _ _ _ _ _ _ _ (Act.put _ (some 107) _) _
        simp only [Act.put, List.setIfInBounds_toArray, List.set_cons_zero, List.set_cons_succ]
        refine wpAnyH_take (i := 16) (v := undef) rfl (by kernel_rfl) (by kernel_rfl) (by kernel_rfl) (fun _ _ _ h => h) (Or.inr ⟨by rfl, rfl⟩) D15.out ?_
        change wpAnyH _ _ _ _ _ _ _ (Act.put _ (some 108) _) _
        simp only [Act.put, List.setIfInBounds_toArray, List.set_cons_zero, List.set_cons_succ]
        refine wpAnyH_take (i := 17) (v := .bool false) rfl (by kernel_rfl) (by kernel_rfl) (by kernel_rfl) (fun _ _ _ h => h) (Or.inl ⟨by rfl, fun w' hs => by go_simp⟩) D15.out ?_
        change wpAnyH _ _ _ _ _ _ _ (Act.put _ (some 109) _) _
        simp only [Act.put, List.setIfInBounds_toArray, List.set_cons_zero, List.set_cons_succ]
        refine wpAnyH_done (by kernel_rfl) ?_ _
        clear ht
        have SRR : Hid (Below U.heap.size U d15) := D15.out
        go_upto_region 16 with fail
        have SR : Hid (Below U.heap.size U d15) := SRR.out
        have D16 : Hid (Below U.heap.size U d15.drew) := SR.out.drew
        refine wp_region_held (S := fun w' => Below U.heap.size U w') (by kernel_rfl) ?_
        change wpAnyH _ _ _ _ _ _ _ _ (World.drew _)
        generalize d15.drew = d16 at *
        refine wpAnyH_take (i := 0) (v := .pointer (some ⟨s, 3, none⟩)) rfl (by kernel_rfl) (by kernel_rfl) (by kernel_rfl) (fun _ _ _ h => h) (Or.inl ⟨by rfl, fun w' hs => by go_simp⟩) D16.out ?_
        change wpAnyH _ _ _ _ _ _ _ (Act.put _ (some 110) _) _
        simp only [Act.put, List.setIfInBounds_toArray, List.set_cons_zero, List.set_cons_succ]
        refine wpAnyH_take (i := 1) (v := .slice (some ⟨lg, 0, none⟩) ll lc) rfl (by kernel_rfl) (by kernel_rfl) (by kernel_rfl) (fun _ _ _ h => h) (Or.inl ⟨by rfl, fun w' hs => by have hc := cs3.out w' hs; go_simp⟩) D16.out ?_
        change wpAnyH _ _ _ _ _ _ _ (Act.put _ (some 111) _) _
        simp only [Act.put, List.setIfInBounds_toArray, List.set_cons_zero, List.set_cons_succ]
        refine wpAnyH_take (i := 2) (v := .slice (some ⟨cg, 0, none⟩) n cc) rfl (by kernel_rfl) (by kernel_rfl) (by kernel_rfl) (fun _ _ _ h => h) (Or.inl ⟨by rfl, fun w' hs => by go_simp⟩) D16.out ?_
        change wpAnyH _ _ _ _ _ _ _ (Act.put _ (some 112) _) _
        simp only [Act.put, List.setIfInBounds_toArray, List.set_cons_zero, List.set_cons_succ]
        refine wpAnyH_take (i := 3) (v := .int .i64 (j : Int)) rfl (by kernel_rfl) (by kernel_rfl) (by kernel_rfl) (fun _ _ _ h => h) (Or.inl ⟨by rfl, fun w' hs => by go_simp⟩) D16.out ?_
        change wpAnyH _ _ _ _ _ _ _ (Act.put _ (some 113) _) _
        simp only [Act.put, List.setIfInBounds_toArray, List.set_cons_zero, List.set_cons_succ]
        refine wpAnyH_take (i := 4) (v := .pointer (some ⟨cg, j * 4, none⟩)) rfl (by kernel_rfl) (by kernel_rfl) (by kernel_rfl) (fun _ _ _ h => h) (Or.inl ⟨by rfl, fun w' hs => by have h0 := hJ; have h1 := HLT.out; go_simp⟩) D16.out ?_
        change wpAnyH _ _ _ _ _ _ _ (Act.put _ (some 114) _) _
        simp only [Act.put, List.setIfInBounds_toArray, List.set_cons_zero, List.set_cons_succ]
        refine wpAnyH_take (i := 5) (v := .pointer (some ⟨cg, j * 4, none⟩)) rfl (by kernel_rfl) (by kernel_rfl) (by kernel_rfl) (fun _ _ _ h => h) (Or.inl ⟨by rfl, fun w' hs => by go_simp⟩) D16.out ?_
        change wpAnyH _ _ _ _ _ _ _ (Act.put _ (some 115) _) _
        simp only [Act.put, List.setIfInBounds_toArray, List.set_cons_zero, List.set_cons_succ]
        refine wpAnyH_take (i := 6) (v := .int .i64 p.tag) rfl (by kernel_rfl) (by kernel_rfl) (by kernel_rfl) (fun _ _ _ h => h) (Or.inl ⟨by rfl, fun w' hs => by have hc := cp0.out w' hs; go_simp⟩) D16.out ?_
        change wpAnyH _ _ _ _ _ _ _ (Act.put _ (some 116) _) _
        simp only [Act.put, List.setIfInBounds_toArray, List.set_cons_zero, List.set_cons_succ]
        refine wpAnyH_take (i := 7) (v := .slice (some ⟨cg, 0, none⟩) n cc) rfl (by kernel_rfl) (by kernel_rfl) (by kernel_rfl) (fun _ _ _ h => h) (Or.inl ⟨by rfl, fun w' hs => by go_simp⟩) D16.out ?_
        change wpAnyH _ _ _ _ _ _ _ (Act.put _ (some 117) _) _
        simp only [Act.put, List.setIfInBounds_toArray, List.set_cons_zero, List.set_cons_succ]
        refine wpAnyH_take (i := 8) (v := .int .i64 (j : Int)) rfl (by kernel_rfl) (by kernel_rfl) (by kernel_rfl) (fun _ _ _ h => h) (Or.inl ⟨by rfl, fun w' hs => by go_simp⟩) D16.out ?_
        change wpAnyH _ _ _ _ _ _ _ (Act.put _ (some 118) _) _
        simp only [Act.put, List.setIfInBounds_toArray, List.set_cons_zero, List.set_cons_succ]
        refine wpAnyH_take (i := 9) (v := .pointer (some ⟨cg, j * 4, none⟩)) rfl (by kernel_rfl) (by kernel_rfl) (by kernel_rfl) (fun _ _ _ h => h) (Or.inl ⟨by rfl, fun w' hs => by have h0 := hJ; have h1 := HLT.out; go_simp⟩) D16.out ?_
        change wpAnyH _ _ _ _ _ _ _ (Act.put _ (some 119) _) _
        simp only [Act.put, List.setIfInBounds_toArray, List.set_cons_zero, List.set_cons_succ]
        refine wpAnyH_take (i := 10) (v := .pointer (some ⟨cg, j * 4 + 1, none⟩)) rfl (by kernel_rfl) (by kernel_rfl) (by kernel_rfl) (fun _ _ _ h => h) (Or.inl ⟨by rfl, fun w' hs => by go_simp⟩) D16.out ?_
        change wpAnyH _ _ _ _ _ _ _ (Act.put _ (some 120) _) _
        simp only [Act.put, List.setIfInBounds_toArray, List.set_cons_zero, List.set_cons_succ]
        refine wpAnyH_take (i := 11) (v := .int .i64 p.page) rfl (by kernel_rfl) (by kernel_rfl) (by kernel_rfl) (fun _ _ _ h => h) (Or.inl ⟨by rfl, fun w' hs => by have hc := cp1.out w' hs; go_simp⟩) D16.out ?_
        change wpAnyH _ _ _ _ _ _ _ (Act.put _ (some 121) _) _
        simp only [Act.put, List.setIfInBounds_toArray, List.set_cons_zero, List.set_cons_succ]
        refine wpAnyH_ready (rs := [12, 13]) (by kernel_rfl) (by simp) ?_
        refine AllReadyH.cons rfl (fun K hK => ?_) (AllReadyH.cons rfl (fun K hK => ?_) AllReadyH.nil)
        · skip
          rw [if_pos (by rfl)]
          go_simp
          refine (CP d16 D16.out).mono ?_
          rintro e y16 ⟨rfl, b8⟩
          have Y16 : Hid (Below U.heap.size U y16) := on D16.out b8
          refine hK.out _ _ Y16.out (fun _ => ?_)
          clear hK K b8
          refine wpAnyH_ready (rs := [13]) (by kernel_rfl) (by simp) ?_
          refine AllReadyH.cons rfl (fun K hK => ?_) AllReadyH.nil
          rw [if_pos (by rfl)]
          go_simp
          obtain ⟨x, hx⟩ : ∃ x, y16.heap.size = x := ⟨_, rfl⟩
          have VX0 : Hid (Vb (y16.alloc (.cells #[.int .i64 0, .int .i64 0] 33)) x #[.int .i64 0, .int .i64 0] 33) := by show Vb _ _ _ _; rw [← hx]; exact Vb.new _ _ _
          have SX0 : Hid (Below U.heap.size U (y16.alloc (.cells #[.int .i64 0, .int .i64 0] 33))) := al Y16.out _
          have XU : Hid (U.heap.size ≤ x) := by show _ ≤ _; rw [← hx]; exact Y16.out.size
          rw [hx]
          generalize y16.alloc (.cells #[.int .i64 0, .int .i64 0] 33) = wx at *
          clear hx
          refine hK.out _ _ SX0.out (fun _ => ?_)
          clear hK K
          refine wpAnyH_ready (rs := [14]) (by kernel_rfl) (by simp) ?_
          refine AllReadyH.cons rfl (fun K hK => ?_) AllReadyH.nil
          rw [if_pos (by rfl)]
          refine wp_store_mid 33 (.tmp 10) (.tmp 122) rfl x 0 #[.int .i64 xc, .int .i64 xv] rfl rfl (thr VX0.out) (by kernel_rfl) (by simp [Value.oneCell']) ?_
          change K (Act.put _ none undef) (World.setCells wx x 0 [.int .i64 xc, .int .i64 xv])
          simp only [Act.put]
          have VX : Hid (Vb (wx.setCells x 0 [.int .i64 xc, .int .i64 xv]) x #[.int .i64 xc, .int .i64 xv] 33) := (VX0.out.set 0 (.int .i64 xc)).set 1 (.int .i64 xv)
          have SX : Hid (Below U.heap.size U (wx.setCells x 0 [.int .i64 xc, .int .i64 xv])) := (SX0.out.setCell (p := ⟨x, 0, none⟩) XU.out _).setCell (p := ⟨x, 1, none⟩) XU.out _
          generalize wx.setCells x 0 [.int .i64 xc, .int .i64 xv] = wy at *
          refine hK.out _ _ SX.out (fun _ => ?_)
          clear hK K
          refine wpAnyH_done (by kernel_rfl) ?_ _
          have x0 := VX.out.cell 0 rfl
          rcases FF with ⟨jx, hjx, e1, e2, e3⟩ | ⟨e1, e2, e3⟩
          · have E1 : xc = 0 := HXC.out.symm.trans e1
            have E2 : xv = (jx : Int) := HXV.out.symm.trans e2
            subst E1 E2
            have PX : Hid (L.getD jx qz = p) := e3
            have JX : Hid (((jx : Int) < (ll : Int)) ∧ jx < ll) := by have := QLN.out; exact ⟨by omega, by omega⟩
            go_upto_region 19 with fail
            clear x0
            have SZ : Hid (Below U.heap.size U wy) := SX.out
            have VZ : Hid (Vb wy x #[.int .i64 0, .int .i64 (jx : Int)] 33) := VX.out
            generalize wy = wz at *
            have D19 : Hid (Below U.heap.size U wz.drew ∧ Vb wz.drew x #[.int .i64 0, .int .i64 (jx : Int)] 33) := ⟨SZ.out.drew, VZ.out⟩
            have cx1 : Hid (∀ w', (Below U.heap.size U w' ∧ Vb w' x #[.int .i64 0, .int .i64 (jx : Int)] 33) → w'.cell? ⟨x, 1, none⟩ = some (.int .i64 (jx : Int))) := fun w' hs => hs.2.cell 1 rfl
            have RLX : Hid (∀ w', (Below U.heap.size U w' ∧ Vb w' x #[.int .i64 0, .int .i64 (jx : Int)] 33) → w'.rangeAt lg (jx * 4) [.int .i64 p.tag, .int .i64 p.page, .int .i64 p.to, .int .i64 p.kinds]) := fun w' hs => by have tt := qrng (QL.out.keep hs.1) QLN.out jx JX.out.2; rw [PX.out] at tt; exact tt
            have RP : Hid (∀ w', (Below U.heap.size U w' ∧ Vb w' x #[.int .i64 0, .int .i64 (jx : Int)] 33) → w'.rangeAt cg (j * 4) [.int .i64 p.tag, .int .i64 p.page, .int .i64 p.to, .int .i64 p.kinds]) := fun w' hs => by have tt := qrng (QCU.out.keep hs.1) HN.out j HLT.out; rw [HP.out] at tt; exact tt
            refine wp_region_held (S := fun w' => Below U.heap.size U w' ∧ Vb w' x #[.int .i64 0, .int .i64 (jx : Int)] 33) (by kernel_rfl) ?_
            change wpAnyH _ _ _ _ _ _ _ _ (World.drew _)
            generalize wz.drew = d19 at *
            refine wpAnyH_take (i := 0) (v := .pointer (some ⟨s, 3, none⟩)) rfl (by kernel_rfl) (by kernel_rfl) (by kernel_rfl) (fun _ _ _ h => h) (Or.inl ⟨by rfl, fun w' hs => by go_simp⟩) D19.out ?_
            change wpAnyH _ _ _ _ _ _ _ (Act.put _ (some 128) _) _
            simp only [Act.put, List.setIfInBounds_toArray, List.set_cons_zero, List.set_cons_succ]
            refine wpAnyH_take (i := 1) (v := .slice (some ⟨lg, 0, none⟩) ll lc) rfl (by kernel_rfl) (by kernel_rfl) (by kernel_rfl) (fun _ _ _ h => h) (Or.inl ⟨by rfl, fun w' hs => by have hc := cs3.out w' hs.1; go_simp⟩) D19.out ?_
            change wpAnyH _ _ _ _ _ _ _ (Act.put _ (some 129) _) _
            simp only [Act.put, List.setIfInBounds_toArray, List.set_cons_zero, List.set_cons_succ]
            refine wpAnyH_take (i := 2) (v := .pointer (some ⟨x, 1, none⟩)) rfl (by kernel_rfl) (by kernel_rfl) (by kernel_rfl) (fun _ _ _ h => h) (Or.inl ⟨by rfl, fun w' hs => by go_simp⟩) D19.out ?_
            change wpAnyH _ _ _ _ _ _ _ (Act.put _ (some 130) _) _
            simp only [Act.put, List.setIfInBounds_toArray, List.set_cons_zero, List.set_cons_succ]
            refine wpAnyH_take (i := 3) (v := .int .i64 (jx : Int)) rfl (by kernel_rfl) (by kernel_rfl) (by kernel_rfl) (fun _ _ _ h => h) (Or.inl ⟨by rfl, fun w' hs => by have hc := cx1.out w' hs; go_simp⟩) D19.out ?_
            change wpAnyH _ _ _ _ _ _ _ (Act.put _ (some 131) _) _
            simp only [Act.put, List.setIfInBounds_toArray, List.set_cons_zero, List.set_cons_succ]
            refine wpAnyH_take (i := 4) (v := .pointer (some ⟨lg, jx * 4, none⟩)) rfl (by kernel_rfl) (by kernel_rfl) (by kernel_rfl) (fun _ _ _ h => h) (Or.inl ⟨by rfl, fun w' hs => by have h0 := JX.out.1; have h1 := JX.out.2; go_simp⟩) D19.out ?_
            change wpAnyH _ _ _ _ _ _ _ (Act.put _ (some 132) _) _
            simp only [Act.put, List.setIfInBounds_toArray, List.set_cons_zero, List.set_cons_succ]
            refine wpAnyH_take (i := 5) (v := .agg #[.int .i64 p.tag, .int .i64 p.page, .int .i64 p.to, .int .i64 p.kinds]) rfl (by kernel_rfl) (by kernel_rfl) (by kernel_rfl) (fun _ _ _ h => h) (yieldsIf_load_mid (by rfl) 26 (.tmp 132) rfl lg (jx * 4) rfl [.int .i64 p.tag, .int .i64 p.page, .int .i64 p.to, .int .i64 p.kinds] _ RLX.out Try.underlying26 rfl (by kernel_rfl)) D19.out ?_
            change wpAnyH _ _ _ _ _ _ _ (Act.put _ (some 133) _) _
            simp only [Act.put, List.setIfInBounds_toArray, List.set_cons_zero, List.set_cons_succ]
            refine wpAnyH_take (i := 6) (v := .slice (some ⟨cg, 0, none⟩) n cc) rfl (by kernel_rfl) (by kernel_rfl) (by kernel_rfl) (fun _ _ _ h => h) (Or.inl ⟨by rfl, fun w' hs => by go_simp⟩) D19.out ?_
            change wpAnyH _ _ _ _ _ _ _ (Act.put _ (some 134) _) _
            simp only [Act.put, List.setIfInBounds_toArray, List.set_cons_zero, List.set_cons_succ]
            refine wpAnyH_take (i := 7) (v := .int .i64 (j : Int)) rfl (by kernel_rfl) (by kernel_rfl) (by kernel_rfl) (fun _ _ _ h => h) (Or.inl ⟨by rfl, fun w' hs => by go_simp⟩) D19.out ?_
            change wpAnyH _ _ _ _ _ _ _ (Act.put _ (some 135) _) _
            simp only [Act.put, List.setIfInBounds_toArray, List.set_cons_zero, List.set_cons_succ]
            refine wpAnyH_take (i := 8) (v := .pointer (some ⟨cg, j * 4, none⟩)) rfl (by kernel_rfl) (by kernel_rfl) (by kernel_rfl) (fun _ _ _ h => h) (Or.inl ⟨by rfl, fun w' hs => by have h0 := hJ; have h1 := HLT.out; go_simp⟩) D19.out ?_
            change wpAnyH _ _ _ _ _ _ _ (Act.put _ (some 136) _) _
            simp only [Act.put, List.setIfInBounds_toArray, List.set_cons_zero, List.set_cons_succ]
            refine wpAnyH_take (i := 9) (v := .agg #[.int .i64 p.tag, .int .i64 p.page, .int .i64 p.to, .int .i64 p.kinds]) rfl (by kernel_rfl) (by kernel_rfl) (by kernel_rfl) (fun _ _ _ h => h) (yieldsIf_load_mid (by rfl) 26 (.tmp 136) rfl cg (j * 4) rfl [.int .i64 p.tag, .int .i64 p.page, .int .i64 p.to, .int .i64 p.kinds] _ RP.out Try.underlying26 rfl (by kernel_rfl)) D19.out ?_
            change wpAnyH _ _ _ _ _ _ _ (Act.put _ (some 137) _) _
            simp only [Act.put, List.setIfInBounds_toArray, List.set_cons_zero, List.set_cons_succ]
            refine wpAnyH_take (i := 10) (v := .bool false) rfl (by kernel_rfl) (by kernel_rfl) (by kernel_rfl) (fun _ _ _ h => h) (Or.inl ⟨by rfl, fun w' hs => by go_simp⟩) D19.out ?_
            change wpAnyH _ _ _ _ _ _ _ (Act.put _ (some 138) _) _
            simp only [Act.put, List.setIfInBounds_toArray, List.set_cons_zero, List.set_cons_succ]
            refine wpAnyH_done (by kernel_rfl) ?_ _
            go_wp2_with fail
            go_roundw
            case rel => exact ⟨j + 1, g, by have := HLT.out; omega, by go_num, by go_num, ⟨HG.out.1, fun h => ⟨(HG.out.2 h).1, by omega⟩⟩, D19.out.1⟩
            case measure => have := HLT.out; simp [intOf]; omega
          · have E1 : xc = 4 := HXC.out.symm.trans e1
            subst E1
            have hg0 : g = 0 := by
              have h0 := HG.out
              by_cases h : g = 1
              · have := (h0.2 h).2; omega
              · omega
            subst hg0
            go_wp2_with fail
            go_roundw
            case rel => exact ⟨j + 1, 1, by have := HLT.out; omega, by go_num, by go_num, ⟨by omega, fun _ => ⟨by have := HN.out; omega, by omega⟩⟩, SX.out⟩
            case measure => have := HLT.out; simp [intOf]; omega
        · skip
          rw [if_pos (by rfl)]
          go_simp
          obtain ⟨x, hx⟩ : ∃ x, d16.heap.size = x := ⟨_, rfl⟩
          have VX0 : Hid (Vb (d16.alloc (.cells #[.int .i64 0, .int .i64 0] 33)) x #[.int .i64 0, .int .i64 0] 33) := by show Vb _ _ _ _; rw [← hx]; exact Vb.new _ _ _
          have SX0 : Hid (Below U.heap.size U (d16.alloc (.cells #[.int .i64 0, .int .i64 0] 33))) := al D16.out _
          have XU : Hid (U.heap.size ≤ x) := by show _ ≤ _; rw [← hx]; exact D16.out.size
          rw [hx]
          generalize d16.alloc (.cells #[.int .i64 0, .int .i64 0] 33) = wx at *
          clear hx
          refine hK.out _ _ SX0.out (fun _ => ?_)
          clear hK K
          refine wpAnyH_ready (rs := [12]) (by kernel_rfl) (by simp) ?_
          refine AllReadyH.cons rfl (fun K hK => ?_) AllReadyH.nil
          rw [if_pos (by rfl)]
          go_simp
          refine (CP wx SX0.out).mono ?_
          rintro e y16 ⟨rfl, b8⟩
          have Y16 : Hid (Below U.heap.size U y16) := on SX0.out b8
          have VX1 : Hid (Vb y16 x #[.int .i64 0, .int .i64 0] 33) := VX0.out.keep b8
          refine hK.out _ _ Y16.out (fun _ => ?_)
          clear hK K b8
          refine wpAnyH_ready (rs := [14]) (by kernel_rfl) (by simp) ?_
          refine AllReadyH.cons rfl (fun K hK => ?_) AllReadyH.nil
          rw [if_pos (by rfl)]
          refine wp_store_mid 33 (.tmp 10) (.tmp 122) rfl x 0 #[.int .i64 xc, .int .i64 xv] rfl rfl (thr VX1.out) (by kernel_rfl) (by simp [Value.oneCell']) ?_
          change K (Act.put _ none undef) (World.setCells y16 x 0 [.int .i64 xc, .int .i64 xv])
          simp only [Act.put]
          have VX : Hid (Vb (y16.setCells x 0 [.int .i64 xc, .int .i64 xv]) x #[.int .i64 xc, .int .i64 xv] 33) := (VX1.out.set 0 (.int .i64 xc)).set 1 (.int .i64 xv)
          have SX : Hid (Below U.heap.size U (y16.setCells x 0 [.int .i64 xc, .int .i64 xv])) := (Y16.out.setCell (p := ⟨x, 0, none⟩) XU.out _).setCell (p := ⟨x, 1, none⟩) XU.out _
          generalize y16.setCells x 0 [.int .i64 xc, .int .i64 xv] = wy at *
          refine hK.out _ _ SX.out (fun _ => ?_)
          clear hK K
          refine wpAnyH_done (by kernel_rfl) ?_ _
          have x0 := VX.out.cell 0 rfl
          rcases FF with ⟨jx, hjx, e1, e2, e3⟩ | ⟨e1, e2, e3⟩
          · have E1 : xc = 0 := HXC.out.symm.trans e1
            have E2 : xv = (jx : Int) := HXV.out.symm.trans e2
            subst E1 E2
            have PX : Hid (L.getD jx qz = p) := e3
            have JX : Hid (((jx : Int) < (ll : Int)) ∧ jx < ll) := by have := QLN.out; exact ⟨by omega, by omega⟩
            go_upto_region 19 with fail
            clear x0
            have SZ : Hid (Below U.heap.size U wy) := SX.out
            have VZ : Hid (Vb wy x #[.int .i64 0, .int .i64 (jx : Int)] 33) := VX.out
            generalize wy = wz at *
            have D19 : Hid (Below U.heap.size U wz.drew ∧ Vb wz.drew x #[.int .i64 0, .int .i64 (jx : Int)] 33) := ⟨SZ.out.drew, VZ.out⟩
            have cx1 : Hid (∀ w', (Below U.heap.size U w' ∧ Vb w' x #[.int .i64 0, .int .i64 (jx : Int)] 33) → w'.cell? ⟨x, 1, none⟩ = some (.int .i64 (jx : Int))) := fun w' hs => hs.2.cell 1 rfl
            have RLX : Hid (∀ w', (Below U.heap.size U w' ∧ Vb w' x #[.int .i64 0, .int .i64 (jx : Int)] 33) → w'.rangeAt lg (jx * 4) [.int .i64 p.tag, .int .i64 p.page, .int .i64 p.to, .int .i64 p.kinds]) := fun w' hs => by have tt := qrng (QL.out.keep hs.1) QLN.out jx JX.out.2; rw [PX.out] at tt; exact tt
            have RP : Hid (∀ w', (Below U.heap.size U w' ∧ Vb w' x #[.int .i64 0, .int .i64 (jx : Int)] 33) → w'.rangeAt cg (j * 4) [.int .i64 p.tag, .int .i64 p.page, .int .i64 p.to, .int .i64 p.kinds]) := fun w' hs => by have tt := qrng (QCU.out.keep hs.1) HN.out j HLT.out; rw [HP.out] at tt; exact tt
            refine wp_region_held (S := fun w' => Below U.heap.size U w' ∧ Vb w' x #[.int .i64 0, .int .i64 (jx : Int)] 33) (by kernel_rfl) ?_
            change wpAnyH _ _ _ _ _ _ _ _ (World.drew _)
            generalize wz.drew = d19 at *
            refine wpAnyH_take (i := 0) (v := .pointer (some ⟨s, 3, none⟩)) rfl (by kernel_rfl) (by kernel_rfl) (by kernel_rfl) (fun _ _ _ h => h) (Or.inl ⟨by rfl, fun w' hs => by go_simp⟩) D19.out ?_
            change wpAnyH _ _ _ _ _ _ _ (Act.put _ (some 128) _) _
            simp only [Act.put, List.setIfInBounds_toArray, List.set_cons_zero, List.set_cons_succ]
            refine wpAnyH_take (i := 1) (v := .slice (some ⟨lg, 0, none⟩) ll lc) rfl (by kernel_rfl) (by kernel_rfl) (by kernel_rfl) (fun _ _ _ h => h) (Or.inl ⟨by rfl, fun w' hs => by have hc := cs3.out w' hs.1; go_simp⟩) D19.out ?_
            change wpAnyH _ _ _ _ _ _ _ (Act.put _ (some 129) _) _
            simp only [Act.put, List.setIfInBounds_toArray, List.set_cons_zero, List.set_cons_succ]
            refine wpAnyH_take (i := 2) (v := .pointer (some ⟨x, 1, none⟩)) rfl (by kernel_rfl) (by kernel_rfl) (by kernel_rfl) (fun _ _ _ h => h) (Or.inl ⟨by rfl, fun w' hs => by go_simp⟩) D19.out ?_
            change wpAnyH _ _ _ _ _ _ _ (Act.put _ (some 130) _) _
            simp only [Act.put, List.setIfInBounds_toArray, List.set_cons_zero, List.set_cons_succ]
            refine wpAnyH_take (i := 3) (v := .int .i64 (jx : Int)) rfl (by kernel_rfl) (by kernel_rfl) (by kernel_rfl) (fun _ _ _ h => h) (Or.inl ⟨by rfl, fun w' hs => by have hc := cx1.out w' hs; go_simp⟩) D19.out ?_
            change wpAnyH _ _ _ _ _ _ _ (Act.put _ (some 131) _) _
            simp only [Act.put, List.setIfInBounds_toArray, List.set_cons_zero, List.set_cons_succ]
            refine wpAnyH_take (i := 4) (v := .pointer (some ⟨lg, jx * 4, none⟩)) rfl (by kernel_rfl) (by kernel_rfl) (by kernel_rfl) (fun _ _ _ h => h) (Or.inl ⟨by rfl, fun w' hs => by have h0 := JX.out.1; have h1 := JX.out.2; go_simp⟩) D19.out ?_
            change wpAnyH _ _ _ _ _ _ _ (Act.put _ (some 132) _) _
            simp only [Act.put, List.setIfInBounds_toArray, List.set_cons_zero, List.set_cons_succ]
            refine wpAnyH_take (i := 5) (v := .agg #[.int .i64 p.tag, .int .i64 p.page, .int .i64 p.to, .int .i64 p.kinds]) rfl (by kernel_rfl) (by kernel_rfl) (by kernel_rfl) (fun _ _ _ h => h) (yieldsIf_load_mid (by rfl) 26 (.tmp 132) rfl lg (jx * 4) rfl [.int .i64 p.tag, .int .i64 p.page, .int .i64 p.to, .int .i64 p.kinds] _ RLX.out Try.underlying26 rfl (by kernel_rfl)) D19.out ?_
            change wpAnyH _ _ _ _ _ _ _ (Act.put _ (some 133) _) _
            simp only [Act.put, List.setIfInBounds_toArray, List.set_cons_zero, List.set_cons_succ]
            refine wpAnyH_take (i := 6) (v := .slice (some ⟨cg, 0, none⟩) n cc) rfl (by kernel_rfl) (by kernel_rfl) (by kernel_rfl) (fun _ _ _ h => h) (Or.inl ⟨by rfl, fun w' hs => by go_simp⟩) D19.out ?_
            change wpAnyH _ _ _ _ _ _ _ (Act.put _ (some 134) _) _
            simp only [Act.put, List.setIfInBounds_toArray, List.set_cons_zero, List.set_cons_succ]
            refine wpAnyH_take (i := 7) (v := .int .i64 (j : Int)) rfl (by kernel_rfl) (by kernel_rfl) (by kernel_rfl) (fun _ _ _ h => h) (Or.inl ⟨by rfl, fun w' hs => by go_simp⟩) D19.out ?_
            change wpAnyH _ _ _ _ _ _ _ (Act.put _ (some 135) _) _
            simp only [Act.put, List.setIfInBounds_toArray, List.set_cons_zero, List.set_cons_succ]
            refine wpAnyH_take (i := 8) (v := .pointer (some ⟨cg, j * 4, none⟩)) rfl (by kernel_rfl) (by kernel_rfl) (by kernel_rfl) (fun _ _ _ h => h) (Or.inl ⟨by rfl, fun w' hs => by have h0 := hJ; have h1 := HLT.out; go_simp⟩) D19.out ?_
            change wpAnyH _ _ _ _ _ _ _ (Act.put _ (some 136) _) _
            simp only [Act.put, List.setIfInBounds_toArray, List.set_cons_zero, List.set_cons_succ]
            refine wpAnyH_take (i := 9) (v := .agg #[.int .i64 p.tag, .int .i64 p.page, .int .i64 p.to, .int .i64 p.kinds]) rfl (by kernel_rfl) (by kernel_rfl) (by kernel_rfl) (fun _ _ _ h => h) (yieldsIf_load_mid (by rfl) 26 (.tmp 136) rfl cg (j * 4) rfl [.int .i64 p.tag, .int .i64 p.page, .int .i64 p.to, .int .i64 p.kinds] _ RP.out Try.underlying26 rfl (by kernel_rfl)) D19.out ?_
            change wpAnyH _ _ _ _ _ _ _ (Act.put _ (some 137) _) _
            simp only [Act.put, List.setIfInBounds_toArray, List.set_cons_zero, List.set_cons_succ]
            refine wpAnyH_take (i := 10) (v := .bool false) rfl (by kernel_rfl) (by kernel_rfl) (by kernel_rfl) (fun _ _ _ h => h) (Or.inl ⟨by rfl, fun w' hs => by go_simp⟩) D19.out ?_
            change wpAnyH _ _ _ _ _ _ _ (Act.put _ (some 138) _) _
            simp only [Act.put, List.setIfInBounds_toArray, List.set_cons_zero, List.set_cons_succ]
            refine wpAnyH_done (by kernel_rfl) ?_ _
            go_wp2_with fail
            go_roundw
            case rel => exact ⟨j + 1, g, by have := HLT.out; omega, by go_num, by go_num, ⟨HG.out.1, fun h => ⟨(HG.out.2 h).1, by omega⟩⟩, D19.out.1⟩
            case measure => have := HLT.out; simp [intOf]; omega
          · have E1 : xc = 4 := HXC.out.symm.trans e1
            subst E1
            have hg0 : g = 0 := by
              have h0 := HG.out
              by_cases h : g = 1
              · have := (h0.2 h).2; omega
              · omega
            subst hg0
            go_wp2_with fail
            go_roundw
            case rel => exact ⟨j + 1, 1, by have := HLT.out; omega, by go_num, by go_num, ⟨by omega, fun _ => ⟨by have := HN.out; omega, by omega⟩⟩, SX.out⟩
            case measure => have := HLT.out; simp [intOf]; omega
    · have hJ : ¬ (j : Int) < (n : Int) := by omega
      clear hlt hj
      by_cases hg0 : g = 0
      · subst hg0
        go_wp2_with fail
        go_ret
        exact ⟨rfl, on B8.out HB.out⟩
      · have h1 : g = 1 := by omega
        subst h1
        have h12 : n = 12 := by have := (hg.2 rfl).1; have := HN.out; omega
        subst h12
        go_wp2_with fail
        go_ret
        exact ⟨rfl, on B8.out HB.out⟩

set_option maxRecDepth 100000 in
theorem lifted (os : Os) (started : os.Started) (H : Type) (enc : TypeId × Value → H) :
    ReturnsInHanded {} Try.checked os 3 .any (Rows.fnFillsSpec.pre6 enc Try.prog Try.f3 Rows.fnFillsRow.domain false) (Rows.fnFillsSpec.post enc Try.prog Try.f3 false true false false) := by
  refine returnsInHanded_of_change (C := Try.checked) own started (by kernel_rfl) Try.func3
    (ChangeSpec.witness6 (enc := enc) (C := Try.checked) false ⟨#[], #[.slice none 0 0], []⟩ 8 (by kernel_rfl) (by kernel_rfl) (by kernel_rfl) (by kernel_rfl)) ?_
  intro W base args ds gs before hval0 hW hcnd _
  have hval : ∀ (j : Nat) t v, Try.f3.params[j]? = some t → args[j]? = some v → Value.okWide Try.prog W .any base t v := hval0
  have hW' := hW
  obtain ⟨p, q, hA0, hV, rfl, hfz, hnd⟩ := hW
  have hA : DataW.TrodAll enc Try.prog W 0 (fun _ => true) true Try.f3.params.toList args.toList ds p := hA0
  rw [Try.params3] at hA hval
  obtain ⟨v0, vs0, d0, ds0, p0, q0, hargs, rfl, rfl, h0, r0⟩ := trodAll_cons hA
  obtain ⟨rfl, rfl, rfl⟩ := trodAll_nil r0
  obtain rfl : args = #[v0] := by cases args; simp_all
  obtain ⟨rfl, rfl⟩ := trodVars_none hV
  obtain ⟨a0, len0, cap0, rfl⟩ := okWide_slice Try.underlying22 (hval 0 22 v0 rfl rfl)
  have k0 := h0
  have lt0 : ∀ x ∈ p0, x.block < W.heap.size := by obtain ⟨m, hm⟩ := k0; exact DataW.trod_lt m _ _ _ hm
  obtain ⟨z0, w0⟩ : ∃ zs, IsRow .u8 W a0 len0 cap0 zs := by
    obtain ⟨fuel, hf⟩ := h0
    rcases open_ints Try.underlying22 Try.underlying5 (by kernel_rfl) hf with ⟨hcs, _⟩ | ⟨x, l, c, zs, hcs, _, hl, hm, hz, _, hcell, hwz⟩
    · simp [Value.cells] at hcs
      obtain ⟨rfl, rfl, rfl⟩ := hcs
      exact ⟨[], .inl ⟨rfl, rfl, rfl, rfl⟩⟩
    · simp [Value.cells] at hcs
      obtain ⟨rfl, rfl, rfl⟩ := hcs
      exact ⟨_, IsRow.of_all hl hm (by simpa using hz) hcell hwz⟩
  clear hA0 hval0
  refine (walk a0 len0 cap0 z0 W w0).mono fun e W' ⟨he, bel⟩ => ?_
  subst he
  exact ⟨_, rfl, _, _, _, [], _, [], hW', trodAll_mk1 (shut_bool Try.underlying4 _), (trodAll_cons_mk (Below.trod laidOut (by kernel_rfl) (of_decide_eq_true (by kernel_rfl)) k0 bel lt0) trodAll_mk0), rfl, bel.frame _, fun h => by cases h⟩

theorem over : Rows.fnFillsRow.holds Try.pinned (OpenSpec.ofChange Rows.fnFillsSpec) :=
  OpenClaim.holds_of_wide 3 Try.f3 rfl rfl rfl rfl rfl rfl rfl ⟨rfl, rfl, rfl, rfl, rfl⟩ rfl rfl rfl rfl rfl (by kernel_rfl) Try.func3 (by kernel_rfl)
    (of_decide_eq_true (by kernel_rfl)) (by unfold Func.isWrapper; first | (rw [if_pos (by decide +kernel)]; kernel_rfl) | (rw [if_neg (by decide +kernel)]; exact ⟨rfl, rfl⟩))
    (fun os started H enc _ => lifted os started H enc)

theorem proved : Rows.FnFillsSaid := over
end Go.Proofs.Yteaccakodaidpaa.fnFillsDone
