/- CacheFits, by program and model. -/
import Derived.Test.YtaajaikpkcgalaaSpf
import Derived.Test.YtaajaikpkcgalaaPgs4
namespace Go.Proofs.Ytaajaikpkcgalaa
open Go.RowKit
set_option linter.unusedVariables false

/-- Is a hit what the list says, where it is of the tag? -/
def fitG (ps : List (Int × Int)) (t : Int) (q : Qd) : Bool := !(q.tag == t) || ((ps.getD q.page.toNat (0, 0)).1 == q.to && (ps.getD q.page.toNat (0, 0)).2 == q.kinds)
def fitV (rs : List Qd) (t : Int) (ps : List (Int × Int)) : Bool := decide (cfV rs = 0) && (decide (pgsV ps 24 = 0) && rs.all (fitG ps t))
/-- The same, asked of a page. -/
def fitP (s : List (Int × Qd)) (ps : List (Int × Int)) (t : Int) (j : Nat) : Bool := !(s.any (sel t j)) || ((fnd s t j).2.to == (ps.getD j (0, 0)).1 && (fnd s t j).2.kinds == (ps.getD j (0, 0)).2)

theorem fnd_mem {s : List (Int × Qd)} {t p : Int} (h : s.any (sel t p) = true) : fnd s t p ∈ s ∧ (fnd s t p).2.tag = t ∧ (fnd s t p).2.page = p := by
  unfold fnd
  cases hf : s.find? (sel t p) with
  | none =>
    rw [List.any_eq_true] at h
    obtain ⟨x, hx, hs⟩ := h
    exact absurd hs (by simpa using List.find?_eq_none.1 hf x hx)
  | some e => exact ⟨List.mem_of_find?_eq_some hf, sel_iff.1 (List.find?_some hf)⟩
theorem apart_eq {s : List (Int × Qd)} (h : s.Pairwise fun a b => ¬ (a.2.tag = b.2.tag ∧ a.2.page = b.2.page)) : ∀ x ∈ s, ∀ y ∈ s, x.2.tag = y.2.tag → x.2.page = y.2.page → x = y := by
  induction s with
  | nil => intro x hx; cases hx
  | cons z r ih =>
    obtain ⟨h1, h2⟩ := List.pairwise_cons.1 h
    intro x hx y hy e1 e2
    rcases List.mem_cons.1 hx with hx | hx
    · rcases List.mem_cons.1 hy with hy | hy
      · rw [hx, hy]
      · exact absurd (by rw [← hx]; exact ⟨e1, e2⟩) (h1 y hy)
    · rcases List.mem_cons.1 hy with hy | hy
      · exact absurd (by rw [← hy]; exact ⟨e1.symm, e2.symm⟩) (h1 x hx)
      · exact ih h2 x hx y hy e1 e2
theorem fits_pages (s : List (Int × Qd)) (ha : s.Pairwise fun a b => ¬ (a.2.tag = b.2.tag ∧ a.2.page = b.2.page)) (hk : ∀ e ∈ s, 0 ≤ e.2.tag ∧ e.2.tag ≤ 9 ∧ 0 ≤ e.2.page ∧ e.2.page ≤ 7) (ps : List (Int × Int)) (t : Int) :
    (List.range 8).all (fitP s ps t) = s.all fun e => fitG ps t e.2 := by
  rw [Bool.eq_iff_iff, List.all_eq_true, List.all_eq_true]
  constructor
  · intro h e he
    have hke := hk e he
    have hj := h e.2.page.toNat (List.mem_range.2 (by omega))
    unfold fitG
    unfold fitP at hj
    cases ht : (e.2.tag == t)
    · rfl
    · have hp : ((e.2.page.toNat : Nat) : Int) = e.2.page := by omega
      have ht' : e.2.tag = t := by simpa using ht
      have hany : s.any (sel t e.2.page) = true := List.any_eq_true.2 ⟨e, he, sel_iff.2 ⟨ht', rfl⟩⟩
      rw [hp, hany] at hj
      obtain ⟨m1, m2, m3⟩ := fnd_mem hany
      rw [apart_eq ha _ m1 e he (m2.trans ht'.symm) m3] at hj
      simp at hj ⊢
      exact ⟨hj.1.symm, hj.2.symm⟩
  · intro h j hj
    have hj8 : j < 8 := List.mem_range.1 hj
    unfold fitP
    cases hany : s.any (sel t (j : Int))
    · rfl
    · obtain ⟨m1, m2, m3⟩ := fnd_mem hany
      have := h _ m1
      unfold fitG at this
      rw [m2, m3] at this
      simp at this ⊢
      exact ⟨this.1.symm, this.2.symm⟩
theorem cfG_ok : ∀ (l pre : List Qd), cfG pre l = 0 → ∀ j, j < l.length → okQ (l.getD j qz) = true
  | [], _, _ => fun j hj => by simp at hj
  | q :: r, pre, h => by
    unfold cfG at h
    cases hq : okQ q
    · rw [hq] at h; simp at h
    · rw [hq] at h
      cases hh : hasQ pre q.tag q.page
      · rw [hh] at h
        simp at h
        intro j hj
        cases j with
        | zero => exact hq
        | succ j => exact cfG_ok r _ h j (by simpa using hj)
      · rw [hh] at h; simp at h
theorem cfV_ok {l : List Qd} (h : cfV l = 0) : ∀ j, j < l.length → okQ (l.getD j qz) = true := by
  unfold cfV at h
  split at h
  · cases h
  · exact cfG_ok l [] h
theorem cell_keep' {w : World} {b g cap : Nat} {ps : List (Int × Int)} (h : Prs 51 w b (.slice (some ⟨g, 0, none⟩) 8 cap) ps) (hl : ps.length = 8) {i : Nat} (hi : i < 8) :
    w.cell? ⟨g, i * 2, none⟩ = some (.int .i64 (ps.getD i (0, 0)).1) ∧ w.cell? ⟨g, i * 2 + 1, none⟩ = some (.int .i64 (ps.getD i (0, 0)).2) := h.cell hl.symm i hi
theorem trn_all (l : List Qd) (f : Qd → Bool) : ((trn l).all fun e => f e.2) = l.all f := by
  unfold trn
  rw [List.all_map]
  have : ∀ (l : List Qd) (k : Nat), (l.zipIdx k).all ((fun e : Int × Qd => f e.2) ∘ fun x => ((x.2 : Int), x.1)) = l.all f := by
    intro l
    induction l with
    | nil => intro k; rfl
    | cons q r ih => intro k; simp [List.zipIdx_cons] at ih ⊢; rw [ih]
  exact this l 0
theorem all_range_not {f : Nat → Bool} {n j : Nat} (h : j < n) (hf : f j = false) : (List.range n).all f = false := by
  rw [List.all_eq_false]
  exact ⟨j, List.mem_range.2 h, by simp [hf]⟩
theorem all_range_succ (f : Nat → Bool) (j : Nat) : (List.range (j + 1)).all f = ((List.range j).all f && f j) := by
  rw [List.range_succ, List.all_append]
  simp

set_option maxRecDepth 100000 in
set_option maxHeartbeats 2000000 in
theorem impl_cacheFits (a : Option Addr) (len cap : Nat) (rs : List Qd) (t : Int) (v : Value) (ps : List (Int × Int)) (b : Nat) (w : World) (h : IsQuads w a len cap rs) (hP : Prs 51 w b v ps) (hm : ps.length ≤ 1048576) (ht : wfI t) :
    Calls Try.prog 9 #[.slice a len cap, .int .i64 t, v] w fun e w' => e = .returned (.bool (fitV rs t ps)) ∧ Below w.heap.size w w' := by
  have hF := impl_storeOf a len cap rs w h
  have hG := fun u (q : Below w.heap.size w u) => impl_fault v ps 24 b u (hP.keep q) hm
  obtain ⟨pa, pc, hv, l1, l2, hg⟩ := hP.shape
  have HP : Hid (Prs 51 w b v ps) := hP
  clear h hP
  by_cases hc : cfV rs = 0
  case neg =>
    have e1 : fitV rs t ps = false := by simp [fitV, hc]
    rw [e1]
    have g : (cfV rs != 0) = true := by simpa using hc
    clear e1 hc hG l1 l2 hg HP
    generalize cfV rs = c at *
    subst hv
    go_enter Try.func9, Try.ntmps9
    go_wp2_with (go_at_call 20; refine hF.mono ?_; rintro e w1 ⟨v, rfl, b1, _, _⟩)
    go_ret
    exact ⟨rfl, b1⟩
  have HC : Hid (cfV rs = 0) := hc
  by_cases hd : pgsV ps 24 = 0
  case neg =>
    have e1 : fitV rs t ps = false := by simp [fitV, hd]
    rw [e1]
    have g : (pgsV ps 24 != 0) = true := by simpa using hd
    clear e1 hd hc l1 l2 hg HP hm
    generalize pgsV ps 24 = c at *
    subst hv
    go_enter Try.func9, Try.ntmps9
    go_wp2_with (first | (go_at_call 20; refine hF.mono ?_; rintro e w1 ⟨v, rfl, b1, _, _⟩; rw [HC.out]) | (go_at_call 30; refine (hG _ b1).mono ?_; rintro e w2 ⟨rfl, b2⟩))
    go_ret
    exact ⟨rfl, on b1 b2⟩
  have e1 : fitV rs t ps = rs.all (fitG ps t) := by simp [fitV, hc, hd]
  rw [e1]
  obtain ⟨_, _, hl8, _⟩ := pgsV_zero hd
  rw [hd] at hG
  obtain ⟨g, rfl⟩ := hg (by omega)
  have HL : Hid (ps.length = 8) := hl8
  rw [hl8] at hv
  subst hv
  clear e1 hd hc l1 l2 hg hm hl8
  go_enter Try.func9, Try.ntmps9
  go_wp2_with (first | (go_at_call 20; refine hF.mono ?_; rintro e w1 ⟨v, rfl, b1, _, hM⟩; rw [HC.out]; obtain ⟨sb, mb, rfl, _, hS⟩ := hM HC.out) | (go_at_call 30; refine (hG _ b1).mono ?_; rintro e w2 ⟨rfl, b2⟩))
  have SW : Hid (St w2 w.heap.size sb mb rs.length (trn rs) rs.length) := hS.keep b2
  have BW : Hid (Below w.heap.size w w2) := on b1 b2
  have PW : Hid (Prs 51 w2 b (.slice (some ⟨g, 0, none⟩) 8 pc) ps) := HP.out.keep BW.out
  clear b1 b2 hM hS hF hG HP
  go_loopw [27] (fun c wr => ∃ j : Nat, j ≤ 8 ∧ c = .int .i64 j ∧ (List.range j).all (fitP (trn rs) ps t) = true ∧ Below w2.heap.size w2 wr) (fun c _ => 8 - (intOf c).toNat)
  case atStart => exact ⟨0, Nat.zero_le _, rfl, rfl, Below.refl _ _⟩
  case round =>
    obtain ⟨j, hj, rfl, hA, hB⟩ := hrel
    have HB : Hid (Below w2.heap.size w2 wr) := hB
    have HA : Hid ((List.range j).all (fitP (trn rs) ps t) = true) := hA
    clear hA
    by_cases hlt : j < 8
    case neg =>
      have hI : ¬ (j : Int) < 8 := by omega
      obtain rfl : j = 8 := by omega
      clear hB
      go_wp2_with fail
      go_ret
      exact ⟨by rw [← trn_all, ← fits_pages _ SW.out.hm.apart SW.out.hm.keys, HA.out]; rfl, on BW.out HB.out⟩
    have hI : (j : Int) < 8 := by omega
    have c0 := cell_keep hB (PW.out.cell HL.out.symm j hlt).1
    have c1 := cell_keep hB (PW.out.cell HL.out.symm j hlt).2
    have gb : g < wr.heap.size := block_of_cell c0
    have SR := SW.out.keep hB
    have s0 := SR.c0
    have gs : sb < wr.heap.size := block_of_cell s0
    have wj : wfI (j : Int) := wf_small (by omega) (by omega)
    have L0 : ∀ o1 o2, _ := fun o1 o2 => ((SR.hm.alloc o1).alloc o2).lookOk ht wj
    have L1 : ∀ o1, _ := fun o1 => (SR.hm.alloc o1).lookOk ht wj
    have HLT : Hid (j < 8) := hlt
    have hFP : Hid (fitP (trn rs) ps t j = (!((trn rs).any (sel t j)) || ((fnd (trn rs) t j).2.to == (ps.getD j (0, 0)).1 && (fnd (trn rs) t j).2.kinds == (ps.getD j (0, 0)).2))) := rfl
    generalize (ps.getD j (0, 0)).1 = p at *
    generalize (ps.getD j (0, 0)).2 = q at *
    generalize (fnd (trn rs) t j).1 = f1 at *
    generalize (fnd (trn rs) t j).2.to = f2 at *
    generalize (fnd (trn rs) t j).2.kinds = f3 at *
    generalize (trn rs).any (sel t j) = an at *
    clear hB hlt SR
    cases an
    · go_wp2_with fail
      go_roundw
      case rel => exact ⟨j + 1, by have := HLT.out; omega, by go_num, by rw [all_range_succ, HA.out, hFP.out]; rfl, al (al HB.out _) _⟩
      case measure => have := HLT.out; simp [intOf]; omega
    · by_cases h2 : f2 = p
      · by_cases h3 : f3 = q
        · subst h2 h3
          have hFT : Hid (fitP (trn rs) ps t j = true) := by show _ = _; rw [hFP.out]; simp
          go_wp2_with fail
          go_roundw
          case rel => exact ⟨j + 1, by have := HLT.out; omega, by go_num, by rw [all_range_succ, HA.out, hFT.out]; rfl, al (al HB.out _) _⟩
          case measure => have := HLT.out; simp [intOf]; omega
        · subst h2
          have hFT : Hid (fitP (trn rs) ps t j = false) := by show _ = _; rw [hFP.out]; simp [h3]
          go_wp2_with fail
          go_ret
          exact ⟨by rw [← trn_all, ← fits_pages _ SW.out.hm.apart SW.out.hm.keys, all_range_not HLT.out hFT.out]; rfl, on BW.out (al (al HB.out _) _)⟩
      · have hFT : Hid (fitP (trn rs) ps t j = false) := by show _ = _; rw [hFP.out]; simp [h2]
        go_wp2_with fail
        go_ret
        exact ⟨by rw [← trn_all, ← fits_pages _ SW.out.hm.apart SW.out.hm.keys, all_range_not HLT.out hFT.out]; rfl, on BW.out (al (al HB.out _) _)⟩

set_option maxRecDepth 100000 in
set_option maxHeartbeats 2000000 in
theorem spec_cacheFits (a : Option Addr) (len cap : Nat) (rs : List Qd) (t : Int) (v : Value) (ps : List (Int × Int)) (b : Nat) (w : World) (h : IsQuads w a len cap rs) (hP : Prs 51 w b v ps) (hm : ps.length ≤ 1048576) :
    Calls Try.prog 10 #[.slice a len cap, .int .i64 t, v] w fun e w' => e = .returned (.bool (fitV rs t ps)) ∧ Below w.heap.size w w' := by
  have hF := spec_cacheFault a len cap rs w h
  have hG := fun u (q : Below w.heap.size w u) => spec_fault v ps 24 b u (hP.keep q) hm
  obtain ⟨pa, pc, hv, l1, l2, hg⟩ := hP.shape
  have HP : Hid (Prs 51 w b v ps) := hP
  have HQ : Hid (IsQuads w a len cap rs) := h
  have HN : Hid (len = rs.length) := h.len
  have hcap := h.cap
  have hl : (len : Int) ≤ 9223372036854775807 := by unfold maxLen at hcap; omega
  clear h hP hcap
  by_cases hc : cfV rs = 0
  case neg =>
    have e1 : fitV rs t ps = false := by simp [fitV, hc]
    rw [e1]
    have g : (cfV rs != 0) = true := by simpa using hc
    clear e1 hc hG l1 l2 hg HP
    generalize cfV rs = c at *
    subst hv
    go_enter Try.func10, Try.ntmps10
    go_wp2_with (go_at_call 31; refine hF.mono ?_; rintro e w1 ⟨rfl, b1⟩)
    go_ret
    exact ⟨rfl, b1⟩
  have HC : Hid (cfV rs = 0) := hc
  by_cases hd : pgsV ps 24 = 0
  case neg =>
    have e1 : fitV rs t ps = false := by simp [fitV, hd]
    rw [e1]
    have g : (pgsV ps 24 != 0) = true := by simpa using hd
    clear e1 hd hc l1 l2 hg HP hm
    generalize pgsV ps 24 = c at *
    subst hv
    go_enter Try.func10, Try.ntmps10
    go_wp2_with (first | (go_at_call 31; refine hF.mono ?_; rintro e w1 ⟨rfl, b1⟩; rw [HC.out]) | (go_at_call 8; refine (hG _ b1).mono ?_; rintro e w2 ⟨rfl, rfl⟩))
    go_ret
    exact ⟨rfl, b1⟩
  have e1 : fitV rs t ps = rs.all (fitG ps t) := by simp [fitV, hc, hd]
  rw [e1]
  obtain ⟨_, _, hl8, _⟩ := pgsV_zero hd
  rw [hd] at hG
  obtain ⟨g, rfl⟩ := hg (by omega)
  have HL : Hid (ps.length = 8) := hl8
  have HK : Hid (∀ j, j < rs.length → okQ (rs.getD j qz) = true) := cfV_ok hc
  rw [hl8] at hv
  subst hv
  clear e1 hd hc l1 l2 hg hm hl8
  go_enter Try.func10, Try.ntmps10
  go_wp2_with (first | (go_at_call 31; refine hF.mono ?_; rintro e w1 ⟨rfl, b1⟩; rw [HC.out]) | (go_at_call 8; refine (hG _ b1).mono ?_; rintro e w2 ⟨rfl, rfl⟩))
  have BW : Hid (Below w.heap.size w w2) := b1
  clear b1 hF hG
  go_loopw [7] (fun c wr => ∃ j : Nat, j ≤ len ∧ c = .int .i64 j ∧ (rs.take j).all (fitG ps t) = true ∧ Below w.heap.size w wr) (fun c _ => len - (intOf c).toNat)
  case atStart => exact ⟨0, Nat.zero_le _, rfl, rfl, BW.out⟩
  case round =>
    obtain ⟨j, hj, rfl, hA, hB⟩ := hrel
    have HB : Hid (Below w.heap.size w wr) := hB
    have HA : Hid ((rs.take j).all (fitG ps t) = true) := hA
    clear hA
    by_cases hlt : j < len
    case neg =>
      have hI : ¬ (j : Int) < (len : Int) := by omega
      obtain rfl : j = len := by omega
      clear hB
      go_wp2_with fail
      go_ret
      refine ⟨?_, HB.out⟩
      have := HA.out
      rw [List.take_of_length_le (Nat.le_of_eq HN.out.symm)] at this
      rw [this]
      rfl
    rcases HQ.out with ⟨_, h1, _, _⟩ | ⟨x, rfl, h1, h2, h3, h4⟩
    · omega
    have hI : (j : Int) < (len : Int) := by omega
    have HLT : Hid (j < len) := hlt
    have c0 := cell_keep hB (h4 j hlt).1
    have c1 : wr.cell? ⟨(x.add (j * 4)).block, (x.add (j * 4)).off + 1, none⟩ = some (.int .i64 (rs.getD j qz).page) := by
      show wr.cell? ((x.add (j * 4)).add 1) = _
      rw [Go.Deep.add_add]; exact cell_keep hB (h4 j hlt).2.1
    have c2 : wr.cell? ⟨(x.add (j * 4)).block, (x.add (j * 4)).off + 2, none⟩ = some (.int .i64 (rs.getD j qz).to) := by
      show wr.cell? ((x.add (j * 4)).add 2) = _
      rw [Go.Deep.add_add]; exact cell_keep hB (h4 j hlt).2.2.1
    have c3 : wr.cell? ⟨(x.add (j * 4)).block, (x.add (j * 4)).off + 3, none⟩ = some (.int .i64 (rs.getD j qz).kinds) := by
      show wr.cell? ((x.add (j * 4)).add 3) = _
      rw [Go.Deep.add_add]; exact cell_keep hB (h4 j hlt).2.2.2
    have hok := okQ_iff.1 (HK.out j (by have := HN.out; omega))
    have hpg : (rs.getD j qz).page.toNat < 8 := by omega
    have d0 := cell_keep hB (cell_keep' HP.out HL.out hpg).1
    have d1 := cell_keep hB (cell_keep' HP.out HL.out hpg).2
    have gb : g < wr.heap.size := block_of_cell d0
    have hsn := take_snoc rs j (by have := HN.out; omega)
    have hFP : fitG ps t (rs.getD j qz) = (!((rs.getD j qz).tag == t) || ((ps.getD (rs.getD j qz).page.toNat (0, 0)).1 == (rs.getD j qz).to && (ps.getD (rs.getD j qz).page.toNat (0, 0)).2 == (rs.getD j qz).kinds)) := rfl
    generalize (ps.getD (rs.getD j qz).page.toNat (0, 0)).1 = p at *
    generalize (ps.getD (rs.getD j qz).page.toNat (0, 0)).2 = q at *
    generalize rs.getD j qz = y at *
    obtain ⟨t', pg, o, k⟩ := y
    simp only at c0 c1 c2 c3 d0 d1 hok hFP hpg
    have hp0 : 0 ≤ pg := hok.2.2.1
    have hp1 : pg < 8 := by omega
    have hSucc : Hid ((rs.take (j + 1)).all (fitG ps t) = fitG ps t ⟨t', pg, o, k⟩) := by
      show _ = _
      rw [hsn, List.all_append, HA.out]
      simp
    have hNo : Hid (fitG ps t ⟨t', pg, o, k⟩ = false → rs.all (fitG ps t) = false) := fun hf => by
      have h5 := hSucc.out
      rw [hf] at h5
      rw [List.all_eq_false] at h5 ⊢
      obtain ⟨z, hz, hz2⟩ := h5
      exact ⟨z, List.mem_of_mem_take hz, hz2⟩
    have HFP : Hid (fitG ps t ⟨t', pg, o, k⟩ = (!(t' == t) || (p == o && q == k))) := hFP
    clear hB hlt h1 h2 h3 h4 hok hsn hFP hpg
    by_cases e1 : t' = t
    case neg =>
      have e1' : (t' == t) = false := by simpa using e1
      have hFT : Hid (fitG ps t ⟨t', pg, o, k⟩ = true) := by show _ = _; rw [HFP.out, e1']; rfl
      clear d0 d1
      go_wp2_with fail
      go_quiet (fail)
      go_wp2_with fail
      go_roundw
      case rel => exact ⟨j + 1, by have := HLT.out; omega, by go_num, hSucc.out.trans hFT.out, bdn (al (al HB.out _) _) _⟩
      case measure => have := HLT.out; simp [intOf]; omega
    subst e1
    by_cases e2 : p = o
    case neg =>
      have hFT : Hid (fitG ps t' ⟨t', pg, o, k⟩ = false) := by show _ = _; rw [HFP.out]; simp [e2]
      go_wp2_with fail
      go_quiet (fail)
      go_wp2_with fail
      go_ret
      exact ⟨by rw [hNo.out hFT.out]; rfl, bdn (al (al HB.out _) _) _⟩
    subst e2
    by_cases e3 : q = k
    case neg =>
      have hFT : Hid (fitG ps t' ⟨t', pg, p, k⟩ = false) := by show _ = _; rw [HFP.out]; simp [e3]
      go_wp2_with fail
      go_quiet (fail)
      go_wp2_with fail
      go_ret
      exact ⟨by rw [hNo.out hFT.out]; rfl, bdn (al (al HB.out _) _) _⟩
    subst e3
    have hFT : Hid (fitG ps t' ⟨t', pg, p, q⟩ = true) := by show _ = _; rw [HFP.out]; simp
    go_wp2_with fail
    go_quiet (fail)
    go_wp2_with fail
    go_roundw
    case rel => exact ⟨j + 1, by have := HLT.out; omega, by go_num, hSucc.out.trans hFT.out, bdn (al (al HB.out _) _) _⟩
    case measure => have := HLT.out; simp [intOf]; omega
end Go.Proofs.Ytaajaikpkcgalaa
