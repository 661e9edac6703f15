/- FillCache by the model. -/
import Derived.Test.YtaajaikpkcgalaaFil
namespace Go.Proofs.Ytaajaikpkcgalaa
open Go.RowKit
set_option linter.unusedVariables false

theorem cfG_apart : ∀ (l pre : List Qd), cfG pre l = 0 → l.Pairwise (fun a b => ¬ (a.tag = b.tag ∧ a.page = b.page)) ∧ ∀ q ∈ l, hasQ pre q.tag q.page = false
  | [], _, _ => ⟨List.Pairwise.nil, fun q hq => by cases hq⟩
  | q :: r, pre, h => by
    unfold cfG at h
    cases hq : okQ q
    · rw [hq] at h; simp at h
    · rw [hq] at h
      cases hh : hasQ pre q.tag q.page
      · rw [hh] at h
        simp at h
        obtain ⟨i1, i2⟩ := cfG_apart r _ h
        have i3 : ∀ x ∈ r, ¬ (q.tag = x.tag ∧ q.page = x.page) ∧ hasQ pre x.tag x.page = false := fun x hx => by
          have := i2 x hx
          unfold hasQ at this ⊢
          rw [List.any_append, Bool.or_eq_false_iff] at this
          refine ⟨fun ⟨e1, e2⟩ => ?_, this.1⟩
          have := this.2
          simp [e1, e2] at this
        refine ⟨List.pairwise_cons.2 ⟨fun x hx => (i3 x hx).1, i1⟩, fun x hx => ?_⟩
        rcases List.mem_cons.1 hx with rfl | hx
        · exact hh
        · exact (i3 x hx).2
      · rw [hh] at h; simp at h
theorem cfV_apart {l : List Qd} (h : cfV l = 0) : l.Pairwise (fun a b => ¬ (a.tag = b.tag ∧ a.page = b.page)) ∧ l.length ≤ 12 := by
  unfold cfV at h
  split at h
  · cases h
  · exact ⟨(cfG_apart l [] h).1, by omega⟩

/-- A list without the hit at a place. -/
def skp (at_ : Int) : List Qd → Int → List Qd
  | [], _ => []
  | q :: r, k => if k = at_ then skp at_ r (k + 1) else q :: skp at_ r (k + 1)
theorem skp_snoc (at_ : Int) : ∀ (l : List Qd) (q : Qd) (k : Int), skp at_ (l ++ [q]) k = skp at_ l k ++ (if k + l.length = at_ then [] else [q])
  | [], q, k => by simp [skp]
  | x :: r, q, k => by
    have ih := skp_snoc at_ r q (k + 1)
    have e : k + 1 + (r.length : Int) = k + ((x :: r).length : Int) := by simp; omega
    rw [e] at ih
    simp only [List.cons_append, skp]
    split
    · exact ih
    · rw [ih]; rfl
theorem skp_len (at_ : Int) : ∀ (l : List Qd) (k : Int), (skp at_ l k).length ≤ l.length
  | [], _ => Nat.le_refl _
  | x :: r, k => by
    have ih := skp_len at_ r (k + 1)
    rw [skp]
    split
    · simp; omega
    · simp; omega
theorem skp_lt (at_ : Int) : ∀ (l : List Qd) (k : Int), at_ < k → skp at_ l k = l
  | [], _, _ => rfl
  | x :: r, k, h => by rw [skp, if_neg (by omega), skp_lt at_ r (k + 1) (by omega)]
theorem skp_find (t p : Int) : ∀ (l : List Qd) (k : Int), 0 ≤ k → l.Pairwise (fun a b => ¬ (a.tag = b.tag ∧ a.page = b.page)) → hasQ l t p = true → skp (fiG t p l k) l k = l.filter (notKey t p)
  | [], _, _, _, h => by simp [hasQ] at h
  | q :: r, k, hk, ha, h => by
    obtain ⟨a1, a2⟩ := List.pairwise_cons.1 ha
    cases hq : (q.tag == t && q.page == p)
    · have hr : hasQ r t p = true := by unfold hasQ at h ⊢; rw [List.any_cons, hq] at h; simpa using h
      have := (fiG_has t p r (k + 1) (by omega)).1 hr
      rw [fiG, hq]
      simp only [Bool.false_eq_true, if_false]
      rw [skp, if_neg (by omega), skp_find t p r (k + 1) (by omega) a2 hr, List.filter_cons_of_pos (by simp [notKey, hq])]
    · rw [fiG, hq]
      simp only [if_true]
      rw [skp, if_pos rfl, skp_lt k r (k + 1) (by omega), List.filter_cons_of_neg (by simp [notKey, hq])]
      symm
      rw [List.filter_eq_self]
      intro x hx
      simp only [Bool.and_eq_true, beq_iff_eq] at hq
      have := a1 x hx
      rw [hq.1, hq.2] at this
      simp only [notKey, Bool.not_eq_true', Bool.and_eq_false_iff, beq_eq_false_iff_ne]
      by_cases e : x.tag = t
      · right; intro e2; exact this ⟨e.symm, e2.symm⟩
      · left; exact e
/-- The place that goes. -/
def goAt (rs : List Qd) (q : Qd) : Int := if fiV rs q.tag q.page < 0 ∧ 12 ≤ rs.length then 0 else fiV rs q.tag q.page
theorem skp_goAt (rs : List Qd) (q : Qd) (h : cfV rs = 0) : skp (goAt rs q) rs 0 ++ [q] = fillQ rs q := by
  obtain ⟨ha, hl⟩ := cfV_apart h
  unfold fillQ goAt
  congr 1
  cases hh : hasQ rs q.tag q.page
  · rw [fiV_not hh]
    by_cases h12 : 12 ≤ rs.length
    · have e : rs.length = 12 := by omega
      rw [if_pos ⟨by decide, h12⟩]
      simp only [Bool.false_eq_true, if_false, e, if_true]
      cases rs with
      | nil => simp at e
      | cons x r => rw [skp, if_pos rfl, skp_lt 0 r _ (by decide)]; rfl
    · have e : ¬ rs.length = 12 := by omega
      rw [if_neg (fun hx => h12 hx.2)]
      simp only [Bool.false_eq_true, if_false, e]
      exact skp_lt _ _ _ (by decide)
  · have := fiV_has hh
    rw [if_neg (by omega)]
    simp only [if_true]
    exact skp_find q.tag q.page rs 0 (by decide) ha hh

theorem Qs.empty {w : World} {base : Nat} (h : base ≤ w.heap.size) : Qs 65 (w.alloc (.cells #[] 65)) base (.slice (some ⟨w.heap.size, 0, none⟩) 0 0) [] := by
  refine ⟨rfl, .inr ⟨w.heap.size, 0, #[], rfl, h, World.alloc_heap_new w _, Nat.le_refl _, Nat.zero_le _, rfl, rfl⟩⟩

set_option maxRecDepth 100000 in
set_option maxHeartbeats 2000000 in
theorem spec_fill (a : Option Addr) (len cap : Nat) (rs : List Qd) (q : Qd) (w : World) (h : IsQuads w a len cap rs) (hc : cfV rs = 0) :
    Calls Try.prog 39 #[.slice a len cap, q.val] w fun e w' => ∃ v, e = .returned v ∧ Qs 65 w' w.heap.size v (fillQ rs q) ∧ Below w.heap.size w w' := by
  have hfi := fun u (z : Below w.heap.size w u) => spec_find a len cap rs q.tag q.page u (h.stay z)
  have HR : Hid (IsQuads w a len cap rs) := h
  have HL : Hid (len = rs.length) := h.len
  have hl12 := (cfV_apart hc).2
  have hl : (len : Int) ≤ 12 := by have := HL.out; omega
  have HE := skp_goAt rs q hc
  have HGA : Hid (goAt rs q = if fiV rs q.tag q.page < 0 ∧ 12 ≤ rs.length then 0 else fiV rs q.tag q.page) := rfl
  obtain ⟨t, p, o, k⟩ := q
  unfold Qd.val
  simp only at hfi ⊢
  have HE2 : Hid (skp (goAt rs ⟨t, p, o, k⟩) rs 0 ++ [⟨t, p, o, k⟩] = fillQ rs ⟨t, p, o, k⟩) := HE
  clear HE
  generalize hfv : fiV rs t p = fv at *
  have HFV : Hid (fiV rs t p = fv) := hfv
  obtain ⟨ga, hga⟩ : ∃ ga, goAt rs ⟨t, p, o, k⟩ = ga := ⟨_, rfl⟩
  rw [hga] at HE2
  have HG : Hid (ga = if fv < 0 ∧ 12 ≤ rs.length then 0 else fv) := by show _ = _; rw [← hga, HGA.out]
  clear h hc hl12 hga hfv HGA HFV
  go_enter Try.func39, Try.ntmps39
  go_upto_region 2 with (go_at_call 46; refine (hfi _ (al (Below.refl _ _) _)).mono ?_; rintro e w1 ⟨rfl, rfl⟩)
  go_cut [20] from 14 to 20 (fun c wx => c = .bool (decide (fv < 0) && decide (12 ≤ rs.length)) ∧ wx = w.alloc (.cells #[.int .i64 t, .int .i64 p, .int .i64 o, .int .i64 k] 65))
  case first =>
    by_cases h1 : fv < 0
    · by_cases h2 : (12 : Int) ≤ len
      · have HX : Hid ((decide (fv < 0) && decide (12 ≤ rs.length)) = true) := by show _ = _; have := HL.out; simp [h1]; omega
        go_wp2_with fail
        go_meet
        exact ⟨by rw [HX.out], rfl⟩
      · have HX : Hid ((decide (fv < 0) && decide (12 ≤ rs.length)) = false) := by show _ = _; have := HL.out; simp [h1]; omega
        go_wp2_with fail
        go_meet
        exact ⟨by rw [HX.out], rfl⟩
    · have HX : Hid ((decide (fv < 0) && decide (12 ≤ rs.length)) = false) := by show _ = _; simp [h1]
      go_wp2_with fail
      go_meet
      exact ⟨by rw [HX.out], rfl⟩
  case rest =>
  obtain ⟨hcv, rfl⟩ := hcut
  have HG2 : Hid (ga = if (decide (fv < 0) && decide (12 ≤ rs.length)) = true then 0 else fv) := by
    show _ = _
    rw [HG.out]
    simp
  generalize (decide (fv < 0) && decide (12 ≤ rs.length)) = bb at hcv HG2
  subst hcv
  go_upto_if 20 with fail
  go_cut [5] from 14 to 20 (fun c wx => c = .int .i64 ga ∧ wx = w.alloc (.cells #[.int .i64 t, .int .i64 p, .int .i64 o, .int .i64 k] 65))
  case first =>
    cases bb
    · have HX : Hid (ga = fv) := HG2.out
      go_wp2_with fail
      go_meet
      exact ⟨by rw [HX.out], rfl⟩
    · have HX : Hid (ga = 0) := HG2.out
      go_wp2_with fail
      go_meet
      exact ⟨by rw [HX.out], rfl⟩
  case rest =>
  obtain ⟨rfl, rfl⟩ := hcut
  clear HG HG2 hfi
  obtain ⟨W0, hW0⟩ : ∃ W0, w.alloc (.cells #[.int .i64 t, .int .i64 p, .int .i64 o, .int .i64 k] 65) = W0 := ⟨_, rfl⟩
  have b0 : Below w.heap.size w W0 := by rw [← hW0]; exact al (Below.refl _ _) _
  have d0 : W0.cell? ⟨w.heap.size, 0, none⟩ = some (.int .i64 t) := by rw [← hW0]; exact cell_new rfl
  have d1 : W0.cell? ⟨w.heap.size, 1, none⟩ = some (.int .i64 p) := by rw [← hW0]; exact cell_new rfl
  have d2 : W0.cell? ⟨w.heap.size, 2, none⟩ = some (.int .i64 o) := by rw [← hW0]; exact cell_new rfl
  have d3 : W0.cell? ⟨w.heap.size, 3, none⟩ = some (.int .i64 k) := by rw [← hW0]; exact cell_new rfl
  rw [hW0]
  have HQ0 : Hid (Qs 65 (W0.alloc (.cells #[] 65)) W0.heap.size (.slice (some ⟨W0.heap.size, 0, none⟩) 0 0) []) := Qs.empty (Nat.le_refl _)
  have B0 : Hid (Below w.heap.size w W0) := b0
  have D0 : Hid (W0.cell? ⟨w.heap.size, 0, none⟩ = some (.int .i64 t) ∧ W0.cell? ⟨w.heap.size, 1, none⟩ = some (.int .i64 p) ∧ W0.cell? ⟨w.heap.size, 2, none⟩ = some (.int .i64 o) ∧ W0.cell? ⟨w.heap.size, 3, none⟩ = some (.int .i64 k)) := ⟨d0, d1, d2, d3⟩
  clear hW0 b0 d0 d1 d2 d3
  go_wp2_with fail
  go_loopw [6, 7] (fun cv c wr => ∃ j : Nat, j ≤ len ∧ c = .int .i64 j ∧ Qs 65 wr W0.heap.size cv (skp ga (rs.take j) 0) ∧ Below W0.heap.size W0 wr) (fun _ c _ => len - (intOf c).toNat)
  case atStart => exact ⟨0, Nat.zero_le _, rfl, HQ0.out, al (Below.refl _ _) _⟩
  case round =>
    obtain ⟨j, hj, rfl, hQ, hB⟩ := hrel
    have HQ : Hid (Qs 65 wr W0.heap.size u6 (skp ga (rs.take j) 0)) := hQ
    have HB : Hid (Below W0.heap.size W0 wr) := hB
    obtain ⟨qa, qc, hqv, _, _, _⟩ := hQ.shape
    by_cases hlt : j < len
    case neg =>
      have hI : ¬ (j : Int) < (len : Int) := by omega
      obtain rfl : j = len := by omega
      have d0 := cell_keep hB D0.out.1
      have d1 := cell_keep hB D0.out.2.1
      have d2 := cell_keep hB D0.out.2.2.1
      have d3 := cell_keep hB D0.out.2.2.2
      have hrl : Hid (rs.take j = rs) := List.take_of_length_le (Nat.le_of_eq HL.out.symm)
      have HLQ : Hid ((skp ga (rs.take j) 0).length ≤ 1000) := by
        show _ ≤ _
        have h5 := skp_len ga (rs.take j) 0
        have h6 := HL.out
        rw [List.length_take] at h5
        omega
      clear hQ hB hqv
      go_wp2_with (at_builtin; refine wp_quad 24 65 Try.underlying24 info_hit _ rfl _ _ rfl W0.heap.size u6 (skp ga (rs.take j) 0) rfl (HQ.out.keep (al (Below.refl _ _) _)) wr.heap.size ⟨t, p, o, k⟩ rfl (cell_new rfl) (cell_new rfl) (cell_new rfl) (cell_new rfl) (by have := HLQ.out; omega) (by have := HB.out.size; simp; omega) ?_; intro v' w5 hn5 hg5; have N5 : Hid (Qs 65 w5 W0.heap.size v' (skp ga (rs.take j) 0 ++ [⟨t, p, o, k⟩])) := hn5; have B5 : Hid (Below W0.heap.size W0 w5) := qbelow_of_grown (al HB.out _) hg5 (HQ.out.keep (al (Below.refl _ _) _)) (Nat.le_refl _); clear hn5 hg5)
      go_ret
      refine ⟨_, rfl, ?_, on B0.out B5.out⟩
      have := N5.out
      rw [hrl.out, HE2.out] at this
      exact this.mono B0.out.size
    rcases HR.out with ⟨_, h1, _, _⟩ | ⟨x, rfl, h1, h2, h3, h4⟩
    · omega
    have hBw := on B0.out hB
    have c0 := cell_keep hBw (h4 j hlt).1
    have c1 : wr.cell? ⟨(x.add (j * 4)).block, (x.add (j * 4)).off + 1, none⟩ = some (.int .i64 (rs.getD j qz).page) := by
      show wr.cell? ((x.add (j * 4)).add 1) = _
      rw [Go.Deep.add_add]; exact cell_keep hBw (h4 j hlt).2.1
    have c2 : wr.cell? ⟨(x.add (j * 4)).block, (x.add (j * 4)).off + 2, none⟩ = some (.int .i64 (rs.getD j qz).to) := by
      show wr.cell? ((x.add (j * 4)).add 2) = _
      rw [Go.Deep.add_add]; exact cell_keep hBw (h4 j hlt).2.2.1
    have c3 : wr.cell? ⟨(x.add (j * 4)).block, (x.add (j * 4)).off + 3, none⟩ = some (.int .i64 (rs.getD j qz).kinds) := by
      show wr.cell? ((x.add (j * 4)).add 3) = _
      rw [Go.Deep.add_add]; exact cell_keep hBw (h4 j hlt).2.2.2
    have hI : (j : Int) < (len : Int) := by omega
    have HLT : Hid (j < len) := hlt
    have hsn := skp_snoc ga (rs.take j) (rs.getD j qz) 0
    rw [← take_snoc rs j (by have := HL.out; omega), List.length_take, show min j rs.length = j by have := HL.out; omega, Int.zero_add] at hsn
    have HLQ : Hid ((skp ga (rs.take j) 0).length ≤ 1000) := by
      show _ ≤ _
      have h5 := skp_len ga (rs.take j) 0
      have h6 := HL.out
      rw [List.length_take] at h5
      omega
    generalize rs.getD j qz = q at *
    obtain ⟨t', p', o', k'⟩ := q
    simp only at c0 c1 c2 c3
    have HSN : Hid (skp ga (rs.take (j + 1)) 0 = skp ga (rs.take j) 0 ++ (if (j : Int) = ga then [] else [⟨t', p', o', k'⟩])) := hsn
    clear hsn h1 h2 h3 h4 hBw hB hQ hlt hqv
    by_cases hga : (j : Int) = ga
    · have HSN2 : Hid (skp ga (rs.take (j + 1)) 0 = skp ga (rs.take j) 0) := by show _ = _; rw [HSN.out, if_pos hga, List.append_nil]
      have hga2 : ((j : Int) != ga) = false := by simpa using hga
      clear hga
      go_wp2_with fail
      go_roundw
      case rel => exact ⟨j + 1, by have := HLT.out; omega, by go_num, by rw [HSN2.out]; exact HQ.out, HB.out⟩
      case measure => have := HLT.out; simp [intOf]; omega
    · have HSN2 : Hid (skp ga (rs.take (j + 1)) 0 = skp ga (rs.take j) 0 ++ [⟨t', p', o', k'⟩]) := by show _ = _; rw [HSN.out, if_neg hga]
      have hga2 : ((j : Int) != ga) = true := by simpa using hga
      go_wp2_with (at_builtin; refine wp_quad 24 65 Try.underlying24 info_hit _ rfl _ _ rfl W0.heap.size u6 (skp ga (rs.take j) 0) rfl (HQ.out.keep (al (Below.refl _ _) _)) wr.heap.size ⟨t', p', o', k'⟩ rfl (cell_new rfl) (cell_new rfl) (cell_new rfl) (cell_new rfl) (by have := HLQ.out; omega) (by have := HB.out.size; simp; omega) ?_; intro v' w5 hn5 hg5; have N5 : Hid (Qs 65 w5 W0.heap.size v' (skp ga (rs.take j) 0 ++ [⟨t', p', o', k'⟩])) := hn5; have B5 : Hid (Below W0.heap.size W0 w5) := qbelow_of_grown (al HB.out _) hg5 (HQ.out.keep (al (Below.refl _ _) _)) (Nat.le_refl _); clear hn5 hg5)
      go_roundw
      case rel => exact ⟨j + 1, by have := HLT.out; omega, by go_num, by rw [HSN2.out]; exact N5.out, B5.out⟩
      case measure => have := HLT.out; simp [intOf]; omega
end Go.Proofs.Ytaajaikpkcgalaa
