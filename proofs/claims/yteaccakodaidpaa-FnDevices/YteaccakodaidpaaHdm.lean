/- The device page, the model's: what is read and written. -/
import Derived.Test.YteaccakodaidpaaHdv
import Derived.Test.YteaccakodaidpaaHfi
import Derived.Test.YteaccakodaidpaaHcy
namespace Go.Proofs.Yteaccakodaidpaa
open Go.RowKit
set_option linter.unusedVariables false

set_option maxRecDepth 20000 in
set_option maxHeartbeats 4000000 in
theorem s_bad (x : Int) (w : World) : Calls Try.prog 71 #[.int .i64 x] w fun e w' => e = .returned (.agg #[.int .i64 x, .int .i64 0, .int .i64 0, .slice none 0 0, .int .i64 0, .slice none 0 0, .bool false, .bool false, .bool false, .int .i64 0, .slice none 0 0, .slice none 0 0]) ∧ Below w.heap.size w w' := by
  generalize hW : w.alloc (.cells #[.int .i64 0, .int .i64 0, .int .i64 0, .slice none 0 0, .int .i64 0, .slice none 0 0, .bool false, .bool false, .bool false, .int .i64 0, .slice none 0 0, .slice none 0 0] 46) = W
  have B0 : Hid (Below w.heap.size w W) := by show Below _ _ _; rw [← hW]; exact al (Below.refl _ _) _
  obtain ⟨s, hS⟩ : ∃ s, w.heap.size = s := ⟨_, rfl⟩
  have HS : Hid (w.heap.size = s) := hS
  have VR : Hid (Vb W s #[.int .i64 0, .int .i64 0, .int .i64 0, .slice none 0 0, .int .i64 0, .slice none 0 0, .bool false, .bool false, .bool false, .int .i64 0, .slice none 0 0, .slice none 0 0] 46) := by show Vb _ _ _ _; rw [← hW, ← hS]; exact Vb.new _ _ _
  have p0 := VR.out.cell 0 rfl
  have f0 := VR.out.free 0
  have p1 := VR.out.cell 1 rfl
  have f1 := VR.out.free 1
  have p2 := VR.out.cell 2 rfl
  have f2 := VR.out.free 2
  have p3 := VR.out.cell 3 rfl
  have f3 := VR.out.free 3
  have p4 := VR.out.cell 4 rfl
  have f4 := VR.out.free 4
  have p5 := VR.out.cell 5 rfl
  have f5 := VR.out.free 5
  have p6 := VR.out.cell 6 rfl
  have f6 := VR.out.free 6
  have p7 := VR.out.cell 7 rfl
  have f7 := VR.out.free 7
  have p8 := VR.out.cell 8 rfl
  have f8 := VR.out.free 8
  have p9 := VR.out.cell 9 rfl
  have f9 := VR.out.free 9
  have p10 := VR.out.cell 10 rfl
  have f10 := VR.out.free 10
  have p11 := VR.out.cell 11 rfl
  have f11 := VR.out.free 11
  go_enter Try.func71, Try.ntmps71
  go_wp2_with fail
  have NN : Hid (_ ∧ _) := twelve VR.out (.int .i64 x) (.int .i64 0) (.int .i64 0) (.slice none 0 0) (.int .i64 0) (.slice none 0 0) (.bool false) (.bool false) (.bool false) (.int .i64 0) (.slice none 0 0) (.slice none 0 0)
  clear p0 f0 p1 f1 p2 f2 p3 f3 p4 f4 p5 f5 p6 f6 p7 f7 p8 f8 p9 f9 p10 f10 p11 f11 hW hS
  generalize ((((((((((((W.setCell ⟨s, 0, none⟩ (.int .i64 x)).setCell ⟨s, 1, none⟩ (.int .i64 0)).setCell ⟨s, 2, none⟩ (.int .i64 0)).setCell ⟨s, 3, none⟩ (.slice none 0 0)).setCell ⟨s, 4, none⟩ (.int .i64 0)).setCell ⟨s, 5, none⟩ (.slice none 0 0)).setCell ⟨s, 6, none⟩ (.bool false)).setCell ⟨s, 7, none⟩ (.bool false)).setCell ⟨s, 8, none⟩ (.bool false)).setCell ⟨s, 9, none⟩ (.int .i64 0)).setCell ⟨s, 10, none⟩ (.slice none 0 0)).setCell ⟨s, 11, none⟩ (.slice none 0 0)) = V at *
  have x0 := NN.out.1.cell 0 rfl
  have x1 := NN.out.1.cell 1 rfl
  have x2 := NN.out.1.cell 2 rfl
  have x3 := NN.out.1.cell 3 rfl
  have x4 := NN.out.1.cell 4 rfl
  have x5 := NN.out.1.cell 5 rfl
  have x6 := NN.out.1.cell 6 rfl
  have x7 := NN.out.1.cell 7 rfl
  have x8 := NN.out.1.cell 8 rfl
  have x9 := NN.out.1.cell 9 rfl
  have x10 := NN.out.1.cell 10 rfl
  have x11 := NN.out.1.cell 11 rfl
  exact bodyPost_ret (v := .agg #[.int .i64 x, .int .i64 0, .int .i64 0, .slice none 0 0, .int .i64 0, .slice none 0 0, .bool false, .bool false, .bool false, .int .i64 0, .slice none 0 0, .slice none 0 0]) (by simp [results, Try.results71, go_sem, x0, x1, x2, x3, x4, x5, x6, x7, x8, x9, x10, x11]) rfl ⟨rfl, Mq.under B0.out NN.out.2 fun k e => by have := HS.out; omega⟩
/-- A machine's variable q behind what was done to it from w on; its lists are read alone. -/
structure Sd (w u : World) (b q : Nat) (r c o i' o' : Value) (G : Ht) : Prop where
  v : Vb u q #[r, .int .i64 G.pc, c, .bool G.halted, .bool G.waiting, .bool G.rung, .int .i64 G.done, i', o'] 39
  m : Hr u r c i' o' G
  n : ∀ k, Own4 r c i' o' k → b ≤ k ∧ k < u.heap.size
  g : Mq (fun j => j = q ∨ c.ownBlock = some j ∨ o.ownBlock = some j) w u
theorem Sd.same {w w' : World} {b q : Nat} {r c i o : Value} {H : Ht} (h : Hm w b r c i o H) (hv : Vb w q #[r, .int .i64 H.pc, c, .bool H.halted, .bool H.waiting, .bool H.rung, .int .i64 H.done, i, o] 39) (B : Below w.heap.size w w') : Sd w w' b q r c o i o H :=
  ⟨hv.keep B, h.hr.stay B, fun k e => by have := h.own k e; have := B.size; omega, Mq.of (below_grown B none) fun k e => by cases e⟩
theorem tail_nil {H : Ht} (h : H.inn = []) : drH H 1 = H := by
  cases H
  simp only at h
  subst h
  rfl
theorem drH_ne (H : Ht) {k : Int} (h : k ≠ 1) : drH H k = H := if_neg h

set_option maxRecDepth 20000 in
set_option maxHeartbeats 4000000 in
theorem s_read (q : Nat) (r c i o : Value) (H : Ht) (k : Int) (b : Nat) (w : World) (h : Hm w b r c i o H) (hv : Vb w q #[r, .int .i64 H.pc, c, .bool H.halted, .bool H.waiting, .bool H.rung, .int .i64 H.done, i, o] 39) (hq : ∀ k, Own4 r c i o k → k ≠ q) (hc : H.csr.length = 11) (h0 : 0 ≤ k) (h7 : k ≤ 7) :
    Calls Try.prog 73 #[.pointer (some ⟨q, 0, none⟩), .int .i64 k] w fun e w' => e = .returned (.int .i64 (drV H k)) ∧ ∃ i' o', Sd w w' b q r c o i' o' (drH H k) := by
  have HS : Hid (∀ w', Below w.heap.size w w' → Sd w w' b q r c o i o H) := fun w' B => Sd.same h hv B
  have HV : Hid (Vb w q #[r, .int .i64 H.pc, c, .bool H.halted, .bool H.waiting, .bool H.rung, .int .i64 H.done, i, o] 39) := hv
  have HM : Hid (Hm w b r c i o H) := h
  have HC : Hid (H.csr.length = 11) := hc
  by_cases k1 : k = 1
  · subst k1
    obtain ⟨a, cap, rfl, l1, l2, hg⟩ := h.i.shape
    have MI := h.i
    obtain ⟨n, hn⟩ : ∃ n, H.inn.length = n := ⟨_, rfl⟩
    rw [hn] at hv MI l1 hg HS HV HM hq
    have HN : Hid (H.inn.length = n) := hn
    have HI : Hid (Nums w b (.slice a n cap) H.inn) := MI
    have HQ : Hid (∀ k, Own4 r c (.slice a n cap) o k → k ≠ q) := hq
    have c7 : w.cell? ⟨q, 7, none⟩ = some (.slice a n cap) := hv.cell 7 rfl
    have f7 := hv.free 7
    clear hv h hn hc MI hq
    by_cases hz : n = 0
    · subst hz
      have E0 : Hid (H.inn = []) := List.eq_nil_of_length_eq_zero HN.out
      clear hg
      go_enter Try.func73, Try.ntmps73
      go_wp2_with fail
      go_ret
      refine ⟨?_, _, _, by rw [tail_nil E0.out]; exact HS.out _ (Below.refl _ _)⟩
      simp [drV, E0.out]
    · obtain ⟨g, rfl⟩ := hg (by have := HN.out; omega)
      have c0 : w.cell? ⟨g, 0, none⟩ = some (.int .i64 (H.inn.getD 0 0)) := HI.out.cell HN.out.symm 0 (by omega)
      have hI : ¬ (n : Int) = 0 := by omega
      have hI1 : (1 : Int) ≤ (n : Int) := by omega
      have hI3 : 1 ≤ n := by omega
      have H0 : Hid (0 < n) := by show _ < _; omega
      clear hz
      go_enter Try.func73, Try.ntmps73
      go_wp2_with fail
      · go_ret
        refine ⟨by show Ending.returned (Value.int .i64 (H.inn[0]?.getD 0)) = _; rw [head_get]; rfl, _, _, HV.out.set 7 _, ⟨(HM.out.r.put _ _ (fun e => HQ.out _ (.inl e) rfl)).rv, (HM.out.c.put _ _ (fun e => HQ.out _ (.inr (.inl e)) rfl)).rv, rv_tail1 (HI.out.put ⟨q, 7, none⟩ (.slice (some ⟨g, 0, none⟩) (n - 1) 0) (fun e => HQ.out _ (.inr (.inr (.inl e))) rfl)) H0.out (by assumption), (HM.out.o.put _ _ (fun e => HQ.out _ (.inr (.inr (.inr e))) rfl)).rv⟩, ?_, (Mq.refl _ _).set ⟨q, 7, none⟩ _ (.inl rfl)⟩
        intro k e
        have := HM.out.own k e
        have := (grown_set w ⟨q, 7, none⟩ (.slice (some ⟨g, 0, none⟩) (n - 1) 0)).size
        omega
      · go_ret
        refine ⟨by show Ending.returned (Value.int .i64 (H.inn[0]?.getD 0)) = _; rw [head_get]; rfl, _, _, HV.out.set 7 _, ⟨(HM.out.r.put _ _ (fun e => HQ.out _ (.inl e) rfl)).rv, (HM.out.c.put _ _ (fun e => HQ.out _ (.inr (.inl e)) rfl)).rv, rv_tail (HI.out.put ⟨q, 7, none⟩ (.slice (some ⟨g, 1, none⟩) (n - 1) (cap - 1)) (fun e => HQ.out _ (.inr (.inr (.inl e))) rfl)) H0.out, (HM.out.o.put _ _ (fun e => HQ.out _ (.inr (.inr (.inr e))) rfl)).rv⟩, ?_, (Mq.refl _ _).set ⟨q, 7, none⟩ _ (.inl rfl)⟩
        intro k e
        have := HM.out.own k e
        have := (grown_set w ⟨q, 7, none⟩ (.slice (some ⟨g, 1, none⟩) (n - 1) (cap - 1))).size
        omega
  have e1 : drH H k = H := drH_ne H k1
  have E1 : Hid (drH H k = H) := e1
  rw [e1]
  by_cases k2 : k = 2
  · subst k2
    have c6 := hv.cell 6 rfl
    clear hv h hc hq
    go_enter Try.func73, Try.ntmps73
    go_wp2_with fail
    go_ret
    exact ⟨rfl, _, _, HS.out _ (Below.refl _ _)⟩
  by_cases k3 : k = 3
  · subst k3
    obtain ⟨a1, n1, rfl, _, _, g1⟩ := h.c.shape
    obtain ⟨y1, rfl⟩ := g1 (by omega)
    have cn : w.cell? ⟨y1, 9, none⟩ = some (.int .i64 (gt H.csr 9)) := h.c.cell rfl 9 (by omega)
    have c2 : w.cell? ⟨q, 2, none⟩ = some (.slice (some ⟨y1, 0, none⟩) 11 n1) := by rw [← hc]; exact hv.cell 2 rfl
    clear hv h hc hq g1
    go_enter Try.func73, Try.ntmps73
    go_wp2_with fail
    go_ret
    exact ⟨rfl, _, _, HS.out _ (Below.refl _ _)⟩
  by_cases k4 : k = 4
  · subst k4
    clear hv h hc hq
    go_enter Try.func73, Try.ntmps73
    go_wp2_with (go_at_call 94; refine (s_pending q r c i o H b _ HM.out HV.out HC.out).mono ?_; rintro e x ⟨rfl, bx⟩)
    go_ret
    exact ⟨rfl, _, _, HS.out _ bx⟩
  by_cases k6 : k = 6
  · subst k6
    obtain ⟨a2, n2, rfl, _⟩ := h.i.shape
    have c7 := hv.cell 7 rfl
    clear hv h hc hq
    go_enter Try.func73, Try.ntmps73
    go_wp2_with fail
    go_ret
    exact ⟨rfl, _, _, HS.out _ (Below.refl _ _)⟩
  have HD : Hid (drV H k = 0) := by show _ = _; simp [drV, k1, k2, k3, k4, k6]
  clear hv h hc hq
  go_enter Try.func73, Try.ntmps73
  go_wp2_with fail
  go_ret
  exact ⟨by rw [HD.out]; rfl, _, _, HS.out _ (Below.refl _ _)⟩

theorem wd_wd (x : Int) : wd (wd x) = wd x := by have := hwd_in x; unfold wd at *; omega
theorem Sd.of {w w' : World} {b q : Nat} {r c i o o' : Value} {G : Ht} (h : Hm w' b r c i o' G) (hv : Vb w' q #[r, .int .i64 G.pc, c, .bool G.halted, .bool G.waiting, .bool G.rung, .int .i64 G.done, i, o'] 39) (g : Mq (fun j => j = q ∨ c.ownBlock = some j ∨ o.ownBlock = some j) w w') : Sd w w' b q r c o i o' G :=
  ⟨hv, h.hr, fun k e => h.own k e, g⟩
theorem Mq.more {S T : Nat → Prop} {w w' : World} (m : Mq S w w') (h : ∀ k, S k → T k) : Mq T w w' := ⟨m.os, m.tape, m.output, m.size, fun k hk hn => m.block k hk fun e => hn (h k e)⟩

set_option maxRecDepth 20000 in
set_option maxHeartbeats 4000000 in
theorem s_write (q : Nat) (r c i o : Value) (H : Ht) (k x : Int) (b : Nat) (w : World) (h : Hm w b r c i o H) (A : Ha r c i o) (hv : Vb w q #[r, .int .i64 H.pc, c, .bool H.halted, .bool H.waiting, .bool H.rung, .int .i64 H.done, i, o] 39) (hq : ∀ k, Own4 r c i o k → k ≠ q) (K : Hok H) (h0 : 0 ≤ k) (h7 : k ≤ 7) (hb : b ≤ w.heap.size) :
    Calls Try.prog 75 #[.pointer (some ⟨q, 0, none⟩), .int .i64 k, .int .i64 x] w fun e w' => e = .returned (.int .i64 (rgW k (wd x))) ∧ ∃ i' o', Sd w w' b q r c o i' o' (dwW H k (wd x)) := by
  have HS : Hid (Sd w w b q r c o i o H) := Sd.same h hv (Below.refl _ _)
  have HV : Hid (Vb w q #[r, .int .i64 H.pc, c, .bool H.halted, .bool H.waiting, .bool H.rung, .int .i64 H.done, i, o] 39) := hv
  have HM : Hid (Hm w b r c i o H) := h
  have HA : Hid (Ha r c i o) := A
  have HK : Hid (Hok H) := K
  have HQ : Hid (∀ k, Own4 r c i o k → k ≠ q) := hq
  have HB : Hid (b ≤ w.heap.size) := hb
  have hwd := hwd_in x
  obtain ⟨u, hu⟩ : ∃ u, wd x = u := ⟨_, rfl⟩
  have HU : Hid (wd x = u) := hu
  rw [hu] at hwd ⊢
  have HW : Hid (0 ≤ u ∧ u ≤ 4294967295) := hwd
  clear h A hq K hb hu hwd
  by_cases k0 : k = 0
  · subst k0
    obtain ⟨a3, n3, rfl, _⟩ := HM.out.o.shape
    obtain ⟨l, hl⟩ : ∃ l, H.out.length = l := ⟨_, rfl⟩
    rw [hl] at HS HV HM HA HQ hv ⊢
    have HL : Hid (H.out.length = l) := hl
    have c8 : w.cell? ⟨q, 8, none⟩ = some (.slice a3 l n3) := hv.cell 8 rfl
    clear hv hl
    by_cases h4 : l < 40
    · have hI : (l : Int) < 40 := by omega
      have HD : Hid (dwW H 0 u = { H with out := H.out ++ [u] }) := by show _ = _; have := HL.out; simp [dwW, outW, this, h4]
      have H4 : Hid (l < 40) := h4
      clear h4
      go_enter Try.func75, Try.ntmps75
      go_wp2_with (first
        | (go_at_call 96; refine (s_wrap _ _).mono ?_; rintro e y ⟨rfl, hy⟩; rw [hy]; clear hy y; rw [HU.out])
        | (at_builtin; refine wp_appx _ rfl _ _ rfl b _ H.out rfl (HM.out.o.keep (al (Below.refl _ _) _)) _ 1 1 [u] rfl (one_rn w u rfl) (by have := HL.out; have := H4.out; omega) (by have := HB.out; simp; omega) ?_; intro v' w' hN' hG'; obtain ⟨y, cap', hv', _⟩ := hN'.shape; obtain ⟨L, hL⟩ : ∃ L, (H.out ++ [u]).length = L := ⟨_, rfl⟩; rw [hL] at hv'; clear hL; subst hv'; have N1 : Hid (Nums w' b (.slice y L cap') (H.out ++ [u])) := hN'; have G1 : Hid ((w.alloc (.cells #[.int .i64 u] 2)).grownBy w' (Value.slice a3 l n3).ownBlock) := hG'; have V1 : Hid (Vb w' q #[r, .int .i64 H.pc, c, .bool H.halted, .bool H.waiting, .bool H.rung, .int .i64 H.done, i, .slice a3 l n3] 39) := (HV.out.push _).gr hG' (fun e => HQ.out q (.inr (.inr (.inr e.symm))) rfl); clear hN' hG' c8; have c1 : w'.cell? ⟨q, 8, none⟩ = some (.slice a3 l n3) := V1.out.cell 8 rfl; have f1 := V1.out.free 8))
      go_ret
      refine ⟨rfl, i, .slice y L cap', ?_⟩
      rw [HD.out]
      have G2 : Mq (fun j => j = q ∨ c.ownBlock = some j ∨ (Value.slice a3 l n3).ownBlock = some j) w w' := Mq.pre (Mq.of G1.out fun k e => .inr (.inr e.symm))
      have hne : Nums w' b (.slice y L cap') (H.out ++ [u]) := N1.out
      refine Sd.of ⟨?_, ?_, ?_, hne.put ⟨q, 8, none⟩ _ (hne.ne_vb (t := 39) V1.out (by decide))⟩ (V1.out.set 8 _) (G2.set ⟨q, 8, none⟩ _ (.inl rfl))
      · exact (((HM.out.r.keep (al (Below.refl _ _) _)).kept G1.out HA.out.ro).put ⟨q, 8, none⟩ _ (fun e => HQ.out _ (.inl e) rfl))
      · exact (((HM.out.c.keep (al (Below.refl _ _) _)).kept G1.out HA.out.co).put ⟨q, 8, none⟩ _ (fun e => HQ.out _ (.inr (.inl e)) rfl))
      · exact (((HM.out.i.keep (al (Below.refl _ _) _)).kept G1.out HA.out.io).put ⟨q, 8, none⟩ _ (fun e => HQ.out _ (.inr (.inr (.inl e))) rfl))
    · have hI : ¬ (l : Int) < 40 := by omega
      have HD : Hid (dwW H 0 u = H) := by show _ = _; have := HL.out; simp [dwW, outW, this, h4]
      clear h4
      go_enter Try.func75, Try.ntmps75
      go_wp2_with (go_at_call 96; refine (s_wrap _ _).mono ?_; rintro e y ⟨rfl, hy⟩; rw [hy]; clear hy y; rw [HU.out])
      go_ret
      exact ⟨rfl, _, _, by rw [HD.out]; exact HS.out⟩
  by_cases k3 : k = 3
  · subst k3
    obtain ⟨a1, n1, rfl, _, _, g1⟩ := HM.out.c.shape
    have hc := HK.out.c11
    obtain ⟨y1, rfl⟩ := g1 (by omega)
    rw [hc] at HS HV HM HA HQ hv ⊢
    have cc : w.cell? ⟨y1, 9, none⟩ = some (.int .i64 (gt H.csr 9)) := HM.out.c.cell hc.symm 9 (by omega)
    have ff : w.frozen? ⟨y1, 9, none⟩ = false := HM.out.c.free hc.symm 9
    have c2 : w.cell? ⟨q, 2, none⟩ = some (.slice (some ⟨y1, 0, none⟩) 11 n1) := hv.cell 2 rfl
    have QY : Hid (q ≠ y1) := fun e => HQ.out y1 (.inr (.inl rfl)) e.symm
    have S0 : Hid (Sv w w b q r (.slice (some ⟨y1, 0, none⟩) 11 n1) i o H) := ⟨HM.out, HV.out, Mq.refl _ _⟩
    have HD : Hid (dwW H 3 u = { H with csr := H.csr.set 9 u }) := by show _ = _; simp [dwW, setW, stH, standV]
    clear hv g1 hc
    go_enter Try.func75, Try.ntmps75
    go_wp2_with (go_at_call 96; refine (s_wrap _ _).mono ?_; rintro e y ⟨rfl, hy⟩; rw [hy]; clear hy y; rw [HU.out])
    go_ret
    have S1 := S0.out.csr HA.out QY.out 9 u
    exact ⟨rfl, _, _, by rw [HD.out]; exact Sd.of S1.m S1.v (S1.g.more fun k e => e.elim .inl fun e => .inr (.inl e))⟩
  by_cases k4 : k = 4
  · subst k4
    have HD : Hid (setV H 6 u = dwW H 4 u) := by show _ = _; rw [setW_wd, ← HU.out, wd_wd]; rfl
    clear hv
    go_enter Try.func75, Try.ntmps75
    go_wp2_with (go_at_call 96; refine (s_wrap _ _).mono ?_; rintro e y ⟨rfl, hy⟩; rw [hy]; clear hy y; rw [HU.out])
    refine (s_set _ _ _ _ _ H 6 u _ _ HM.out HA.out HV.out HQ.out HK.out (by decide) (by decide)).mono ?_
    rintro e w1 ⟨rfl, s1⟩
    rw [HD.out] at s1
    have S1 : Hid (Sv w w1 b q r c i o (dwW H 4 u)) := s1
    clear s1
    go_wp2_with fail
    go_ret
    exact ⟨rfl, _, _, Sd.of S1.out.m S1.out.v (S1.out.g.more fun k e => e.elim .inl fun e => .inr (.inl e))⟩
  have HD : Hid (dwW H k u = H) := by show _ = _; simp [dwW, k0, k3, k4]
  clear hv
  by_cases k5 : k = 5
  · subst k5
    go_enter Try.func75, Try.ntmps75
    go_wp2_with (go_at_call 96; refine (s_wrap _ _).mono ?_; rintro e y ⟨rfl, hy⟩; rw [hy]; clear hy y; rw [HU.out])
    go_ret
    exact ⟨rfl, _, _, by rw [HD.out]; exact HS.out⟩
  have HR : Hid (rgW k u = -1) := by show _ = _; simp [rgW, k5]
  go_enter Try.func75, Try.ntmps75
  go_wp2_with (go_at_call 96; refine (s_wrap _ _).mono ?_; rintro e y ⟨rfl, hy⟩; rw [hy]; clear hy y; rw [HU.out])
  go_ret
  exact ⟨by rw [HR.out]; rfl, _, _, by rw [HD.out]; exact HS.out⟩
end Go.Proofs.Yteaccakodaidpaa
