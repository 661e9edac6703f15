/- Texts of this seat, joined. -/
import Derived.Test.YtgjpfmcokcjegaaQ03
import Derived.Test.YtgjpfmcokcjegaaQ18
import Derived.Test.YtgjpfmcokcjegaaQ21
import Derived.Test.YtgjpfmcokcjegaaQ24
import Derived.Test.YtgjpfmcokcjegaaQ25
import Derived.Test.YtgjpfmcokcjegaaQ33
namespace Go.Proofs.Ytgjpfmcokcjegaa
open Go.RowKit
set_option linter.unusedVariables false
theorem bey_take (ps : List (Int × Int)) (n j : Nat) (h : j < ps.length) : beyB (ps.take (j + 1)) n = (beyB (ps.take j) n || decide (((n / 8 : Nat) : Int) ≤ (ps.getD j (0, 0)).1)) := by
  unfold beyB
  rw [List.take_succ_eq_append_getElem h, List.any_append, List.getD, List.getElem?_eq_getElem h]
  simp
theorem bey_here {ps : List (Int × Int)} {n j : Nat} (h : j < ps.length) (hb : ((n / 8 : Nat) : Int) ≤ (ps.getD j (0, 0)).1) : beyB ps n = true := by
  unfold beyB
  rw [List.any_eq_true]
  refine ⟨ps.getD j (0, 0), ?_, by simpa using hb⟩
  rw [List.getD, List.getElem?_eq_getElem h]
  exact List.getElem_mem _
set_option maxHeartbeats 2000000 in
theorem i_beyond (g pc : Nat) (ps : List (Int × Int)) (b p : Nat) (ma : Option Addr) (mc : Nat) (w : World) (h : Prs 73 w b (.slice (some ⟨g, 0, none⟩) 8 pc) ps) (hl : ps.length = 8) (hp : p ≤ 24) :
    Calls Try.prog 40 #[.slice (some ⟨g, 0, none⟩) 8 pc, .slice ma (p * 8) mc] w fun e w' => e = .returned (.bool (beyB ps (p * 8))) ∧ Below w.heap.size w w' := by
  have HP : Hid (Prs 73 w b (.slice (some ⟨g, 0, none⟩) 8 pc) ps) := h
  have HL : Hid (ps.length = 8) := hl
  have hpi : (p : Int) ≤ 24 := by omega
  have hdi : p * 8 / 8 = p := by omega
  have HD : Hid (p * 8 / 8 = p) := hdi
  clear h hl hdi hp
  go_enter Try.func40, Try.ntmps40
  go_wp2_with fail
  go_loopw [6, 9] (fun _ c wr => ∃ j : Nat, j ≤ 8 ∧ c = .int .i64 j ∧ beyB (ps.take j) (p * 8) = false ∧ Below w.heap.size w wr) (fun _ c _ => 8 - (intOf c).toNat)
  case atStart => exact ⟨0, Nat.zero_le _, rfl, rfl, Below.refl _ _⟩
  case round =>
    obtain ⟨j, hj, rfl, hA, hB⟩ := hrel
    have HB : Hid (Below w.heap.size w wr) := hB
    have HA : Hid (beyB (ps.take j) (p * 8) = false) := hA
    clear hA
    by_cases hlt : j < 8
    · have c0 := cell_keep hB (HP.out.cell HL.out.symm j hlt).1
      have c1 := cell_keep hB (HP.out.cell HL.out.symm j hlt).2
      have gb : g < wr.heap.size := block_of_cell c0
      have hI : (j : Int) < 8 := by omega
      have HLT : Hid (j < 8) := hlt
      have HT := bey_take ps (p * 8) j (by have := HL.out; omega)
      rw [HA.out] at HT
      have HE := bey_here (ps := ps) (n := p * 8) (j := j) (by have := HL.out; omega)
      rw [HD.out] at HT HE
      generalize (ps.getD j (0, 0)).1 = x at *
      generalize (ps.getD j (0, 0)).2 = y at *
      have HTT : Hid (beyB (ps.take (j + 1)) (p * 8) = (false || decide ((p : Int) ≤ x))) := HT
      have HEE : Hid ((p : Int) ≤ x → beyB ps (p * 8) = true) := HE
      clear HT HE hB hlt
      by_cases hx : (p : Int) ≤ x
      · go_wp2_with fail
        go_ret
        exact ⟨by rw [HEE.out hx]; rfl, al HB.out _⟩
      · have hx2 : x < (p : Int) := by omega
        go_wp2_with fail
        go_roundw
        case rel => exact ⟨j + 1, by have := HLT.out; omega, by go_num, by rw [HTT.out]; simpa using hx2, al HB.out _⟩
        case measure => have := HLT.out; simp [intOf]; omega
    · have hI : ¬ (j : Int) < 8 := by omega
      obtain rfl : j = 8 := by omega
      have HE : Hid (beyB ps (p * 8) = false) := by
        have := HA.out
        rw [List.take_of_length_le (Nat.le_of_eq HL.out)] at this
        exact this
      clear hB
      go_wp2_with fail
      go_ret
      exact ⟨by rw [HE.out]; rfl, HB.out⟩
set_option maxRecDepth 20000 in
set_option maxHeartbeats 4000000 in
theorem i_seen (r c i o : Value) (H : Ht) (pa : Option Addr) (pn pc : Nat) (ps : List (Int × Int)) (ma : Option Addr) (mn mc : Nat) (zs : List Int) (b : Nat) (w : World) (h : Hm w b r c i o H) (hP : Prs 73 w b (.slice pa pn pc) ps) (hl : ps.length ≤ 1048576) (hM : Nums w b (.slice ma mn mc) zs) (hm : zs.length ≤ 1048576) :
    Calls Try.prog 16 #[.agg #[r, .int .i64 H.pc, c, .bool H.halted, .bool H.waiting, .bool H.rung, .int .i64 H.done, i, o], .slice pa pn pc, .slice ma mn mc] w fun e w' => e = .returned (.int .i64 (seenC H ps zs)) ∧ Below w.heap.size w w' := by
  have HM : Hid (Hm w b r c i o H) := h
  have HP : Hid (Prs 73 w b (.slice pa pn pc) ps) := hP
  have HZ : Hid (Nums w b (.slice ma mn mc) zs) := hM
  have HL : Hid (ps.length ≤ 1048576 ∧ zs.length ≤ 1048576) := ⟨hl, hm⟩
  have HN : Hid (mn = zs.length ∧ pn = ps.length) := by
    refine ⟨hM.len, ?_⟩
    obtain ⟨a, cap, hv, _⟩ := hP.shape
    cases hv
    rfl
  obtain ⟨a0, k0, rfl, _⟩ := h.r.shape
  obtain ⟨a1, k1, rfl, _⟩ := h.c.shape
  obtain ⟨a2, k2, rfl, _⟩ := h.i.shape
  obtain ⟨a3, k3, rfl, _⟩ := h.o.shape
  clear h hP hM hl hm
  generalize hW : w.alloc (.cells #[.slice a0 H.regs.length k0, .int .i64 H.pc, .slice a1 H.csr.length k1, .bool H.halted, .bool H.waiting, .bool H.rung, .int .i64 H.done, .slice a2 H.inn.length k2, .slice a3 H.out.length k3] 26) = W
  have B0 : Hid (Below w.heap.size w W) := by show Below _ _ _; rw [← hW]; exact al (Below.refl _ _) _
  obtain ⟨s, hS⟩ : ∃ s, w.heap.size = s := ⟨_, rfl⟩
  have VA : Hid (Vb W s #[.slice a0 H.regs.length k0, .int .i64 H.pc, .slice a1 H.csr.length k1, .bool H.halted, .bool H.waiting, .bool H.rung, .int .i64 H.done, .slice a2 H.inn.length k2, .slice a3 H.out.length k3] 26) := by
    show Vb _ _ _ _; rw [← hW, ← hS]; exact Vb.new _ _ _
  have q0 := VA.out.cell 0 rfl
  have q1 := VA.out.cell 1 rfl
  have q2 := VA.out.cell 2 rfl
  have q3 := VA.out.cell 3 rfl
  have q4 := VA.out.cell 4 rfl
  have q5 := VA.out.cell 5 rfl
  have q6 := VA.out.cell 6 rfl
  have q7 := VA.out.cell 7 rfl
  have q8 := VA.out.cell 8 rfl
  go_enter Try.func16, Try.ntmps16
  go_wp2_with fail
  clear hW hS q0 q1 q2 q3 q4 q5 q6 q7 q8
  refine (i_fault _ _ _ _ H _ _ (HM.out.keep B0.out)).mono ?_
  rintro e w1 ⟨rfl, b1⟩
  have B1 : Hid (Below w.heap.size w w1) := on B0.out b1
  clear b1 VA B0
  by_cases hf : hfV H = 0
  case neg =>
    have HE : Hid (seenC H ps zs = hfV H) := if_neg hf
    generalize hfV H = f at *
    go_wp2_with fail
    go_ret
    exact ⟨by rw [HE.out]; rfl, B1.out⟩
  have E1 : seenC H ps zs = if pgsV ps 24 = 0 then (if memV zs = 0 then (if beyB ps zs.length then 1 else 0) else 1) else pgsV ps 24 := if_pos hf
  rw [hf]
  clear hf
  go_wp2_with fail
  refine (impl_fault _ ps 24 b w1 (HP.out.keep B1.out) HL.out.1).mono ?_
  rintro e w2 ⟨rfl, b2⟩
  have B2 : Hid (Below w.heap.size w w2) := on B1.out b2
  clear b2
  by_cases hp : pgsV ps 24 = 0
  case neg =>
    have HE : Hid (seenC H ps zs = pgsV ps 24) := by show _ = _; rw [E1, if_neg hp]
    clear E1
    generalize pgsV ps 24 = f at *
    go_wp2_with fail
    go_ret
    exact ⟨by rw [HE.out]; rfl, B2.out⟩
  rw [if_pos hp] at E1
  obtain ⟨_, _, hl8, _⟩ := pgsV_zero hp
  rw [hp]
  clear hp
  go_wp2_with fail
  refine (impl_memFault _ zs b w2 (HZ.out.keep B2.out)).mono ?_
  rintro e w3 ⟨rfl, hw3⟩
  rw [hw3]
  clear hw3 w3
  by_cases hz : memV zs = 0
  case neg =>
    have HE : Hid (seenC H ps zs = 1) := by show _ = _; rw [E1, if_neg hz]
    clear E1 hl8
    generalize memV zs = f at *
    go_wp2_with fail
    go_ret
    exact ⟨by rw [HE.out]; rfl, B2.out⟩
  rw [if_pos hz] at E1
  have hz8 : ∃ p, zs.length = p * 8 ∧ p ≤ 24 := by
    unfold memV at hz
    split at hz
    · rename_i hf
      unfold formB at hf
      have hf := of_decide_eq_true hf
      exact ⟨zs.length / 8, by omega, by omega⟩
    · exact absurd hz (by decide)
  obtain ⟨p, hzp, hp24⟩ := hz8
  rw [hz]
  obtain ⟨hn1, hn2⟩ := HN.out
  obtain rfl : mn = p * 8 := by omega
  obtain rfl : pn = 8 := by omega
  obtain ⟨pa', pc', hv, -, -, hg⟩ := HP.out.shape
  obtain ⟨g, hg⟩ := hg (by omega)
  simp only [Value.slice.injEq] at hv
  obtain ⟨hv1, -, -⟩ := hv
  rw [hg] at hv1
  subst hv1
  clear hg
  rw [hzp] at E1
  have HE1 : Hid (seenC H ps zs = if beyB ps (p * 8) then 1 else 0) := E1
  have HL8 : Hid (ps.length = 8) := hl8
  clear hz hn1 hn2 E1 hl8 hzp
  go_wp2_with fail
  refine (i_beyond g pc ps b p ma mc w2 (HP.out.keep B2.out) HL8.out hp24).mono ?_
  rintro e w4 ⟨rfl, b4⟩
  have B4 : Hid (Below w.heap.size w w4) := on B2.out b4
  clear b4
  cases hb : beyB ps (p * 8)
  · have HE : Hid (seenC H ps zs = 0) := by show _ = _; rw [HE1.out, hb]; rfl
    clear hb
    go_wp2_with fail
    go_ret
    exact ⟨by rw [HE.out]; rfl, B4.out⟩
  · have HE : Hid (seenC H ps zs = 1) := by show _ = _; rw [HE1.out, hb]; rfl
    clear hb
    go_wp2_with fail
    go_ret
    exact ⟨by rw [HE.out]; rfl, B4.out⟩
structure Sv (w u : World) (b q : Nat) (r c i o : Value) (H : Ht) : Prop where
  m : Hm u b r c i o H
  v : Vb u q #[r, .int .i64 H.pc, c, .bool H.halted, .bool H.waiting, .bool H.rung, .int .i64 H.done, i, o] 26
  g : Mq (fun j => j = q ∨ c.ownBlock = some j) w u
theorem apt_ne {a c : Value} {y : Nat} (h : Apt c a) (hc : c.ownBlock = some y) : a.ownBlock ≠ some y := by
  rcases h with h | h
  · rw [hc] at h; cases h
  · intro e; exact h (hc.trans e.symm)
theorem Sv.csr {w v : World} {b q y k : Nat} {r i o : Value} {H : Ht} (h : Sv w v b q r (.slice (some ⟨y, 0, none⟩) 11 k) i o H) (A : Ha r (.slice (some ⟨y, 0, none⟩) 11 k) i o) (hq : q ≠ y) (n : Nat) (u : Int) :
    Sv w (v.setCell ⟨y, n, none⟩ (.int .i64 u)) b q r (.slice (some ⟨y, 0, none⟩) 11 k) i o { H with csr := H.csr.set n u } :=
  ⟨⟨h.m.r.put _ _ (apt_ne A.rc.swap rfl), (h.m.c.store n u).1, h.m.i.put _ _ (apt_ne A.ci rfl), h.m.o.put _ _ (apt_ne A.co rfl)⟩, h.v.put _ _ hq, h.g.set _ _ (.inr rfl)⟩
theorem Sv.fld {w v : World} {b q : Nat} {r c i o : Value} {H : Ht} (h : Sv w v b q r c i o H) (hq : ∀ k, Own4 r c i o k → k ≠ q) (j : Nat) (u : Value) :
    Nums (v.setCell ⟨q, j, none⟩ u) b r H.regs ∧ Nums (v.setCell ⟨q, j, none⟩ u) b c H.csr ∧ Nums (v.setCell ⟨q, j, none⟩ u) b i H.inn ∧ Nums (v.setCell ⟨q, j, none⟩ u) b o H.out ∧ Mq (fun j => j = q ∨ c.ownBlock = some j) w (v.setCell ⟨q, j, none⟩ u) :=
  ⟨h.m.r.put _ _ (fun e => hq q (.inl e) rfl), h.m.c.put _ _ (fun e => hq q (.inr (.inl e)) rfl), h.m.i.put _ _ (fun e => hq q (.inr (.inr (.inl e))) rfl), h.m.o.put _ _ (fun e => hq q (.inr (.inr (.inr e))) rfl), h.g.set _ _ (.inl rfl)⟩
theorem Sv.pc {w v : World} {b q : Nat} {r c i o : Value} {H : Ht} (h : Sv w v b q r c i o H) (hq : ∀ k, Own4 r c i o k → k ≠ q) (u : Int) : Sv w (v.setCell ⟨q, 1, none⟩ (.int .i64 u)) b q r c i o { H with pc := u } := by
  obtain ⟨h1, h2, h3, h4, h5⟩ := h.fld hq 1 (.int .i64 u)
  exact ⟨⟨h1, h2, h3, h4⟩, h.v.set 1 _, h5⟩
theorem Sv.rung {w v : World} {b q : Nat} {r c i o : Value} {H : Ht} (h : Sv w v b q r c i o H) (hq : ∀ k, Own4 r c i o k → k ≠ q) (u : Bool) : Sv w (v.setCell ⟨q, 5, none⟩ (.bool u)) b q r c i o { H with rung := u } := by
  obtain ⟨h1, h2, h3, h4, h5⟩ := h.fld hq 5 (.bool u)
  exact ⟨⟨h1, h2, h3, h4⟩, h.v.set 5 _, h5⟩
end Go.Proofs.Ytgjpfmcokcjegaa
