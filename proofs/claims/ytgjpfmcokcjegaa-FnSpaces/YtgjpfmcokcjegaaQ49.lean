/- Texts of this seat, joined. -/
import Derived.Deep.Cut
import Derived.Deep.CutRange
import Derived.Test.YtgjpfmcokcjegaaQ17
import Derived.Test.YtgjpfmcokcjegaaQ22
import Derived.Test.YtgjpfmcokcjegaaQ32
import Derived.Test.YtgjpfmcokcjegaaQ46
namespace Go.Proofs.Ytgjpfmcokcjegaa
open Go.RowKit
set_option linter.unusedVariables false
def Hz (w : World) (base : Nat) (a0 : Option Addr) (m0 k0 : Nat) (a1 : Option Addr) (m1 k1 : Nat) (a2 : Option Addr) (m2 k2 : Nat) (a3 : Option Addr) (m3 k3 : Nat) (H : Ht) : Prop :=
  (Hm w base (.slice a0 m0 k0) (.slice a1 m1 k1) (.slice a2 m2 k2) (.slice a3 m3 k3) H ∧ Ha (.slice a0 m0 k0) (.slice a1 m1 k1) (.slice a2 m2 k2) (.slice a3 m3 k3)) ∨ (m0 = 15 ∧ m1 = 11 ∧ ∃ y, a1 = some ⟨y, 0, none⟩ ∧ H.csr.length = 11 ∧ Nums w base (.slice (some ⟨y, 0, none⟩) 11 k1) H.csr)
theorem Hz.mq {S : Nat → Prop} {w w' : World} {base : Nat} {a0 : Option Addr} {m0 k0 : Nat} {a1 : Option Addr} {m1 k1 : Nat} {a2 : Option Addr} {m2 k2 : Nat} {a3 : Option Addr} {m3 k3 : Nat} {H : Ht} (h : Hz w base a0 m0 k0 a1 m1 k1 a2 m2 k2 a3 m3 k3 H) (m : Mq S w w') (hn : ∀ k, base ≤ k → k < w.heap.size → ¬ S k) : Hz w' base a0 m0 k0 a1 m1 k1 a2 m2 k2 a3 m3 k3 H := by
  rcases h with ⟨h, g⟩ | ⟨e0, e1, y, e2, hl, h⟩
  · exact .inl ⟨m.hm h (fun k e => hn k (h.own k e).1 (h.own k e).2), g⟩
  · exact .inr ⟨e0, e1, y, e2, hl, m.nums h (fun k e => hn k (h.lt k e).1 (h.lt k e).2)⟩
theorem Hz.turn {w w' : World} {base b : Nat} {a0 : Option Addr} {m0 k0 : Nat} {a1 : Option Addr} {m1 k1 : Nat} {a2 : Option Addr} {m2 k2 : Nat} {a3 : Option Addr} {m3 k3 : Nat} {H : Ht} (h : Hz w base a0 m0 k0 a1 m1 k1 a2 m2 k2 a3 m3 k3 H) (t : Turn b w w') (hb : b < base) : Hz w' base a0 m0 k0 a1 m1 k1 a2 m2 k2 a3 m3 k3 H := h.mq (turn_mq t) (fun k e _ f => by omega)
theorem Hz.mono {w : World} {base base' : Nat} {a0 : Option Addr} {m0 k0 : Nat} {a1 : Option Addr} {m1 k1 : Nat} {a2 : Option Addr} {m2 k2 : Nat} {a3 : Option Addr} {m3 k3 : Nat} {H : Ht} (h : Hz w base a0 m0 k0 a1 m1 k1 a2 m2 k2 a3 m3 k3 H) (hb : base' ≤ base) : Hz w base' a0 m0 k0 a1 m1 k1 a2 m2 k2 a3 m3 k3 H := by
  rcases h with ⟨h, g⟩ | ⟨e0, e1, y, e2, hl, h⟩
  · exact .inl ⟨h.mono hb, g⟩
  · exact .inr ⟨e0, e1, y, e2, hl, h.mono hb⟩
theorem Hz.store {w : World} {base : Nat} {a0 : Option Addr} {m0 k0 : Nat} {a1 : Option Addr} {m1 k1 : Nat} {a2 : Option Addr} {m2 k2 : Nat} {a3 : Option Addr} {m3 k3 : Nat} {H : Ht} (h : Hz w base a0 m0 k0 a1 m1 k1 a2 m2 k2 a3 m3 k3 H) (h1 : m1 = 11) :
    ∃ y, a1 = some ⟨y, 0, none⟩ ∧ base ≤ y ∧ y < w.heap.size ∧ (∃ z, w.cell? ⟨y, 10, none⟩ = some (.int .i64 z)) ∧ w.frozen? ⟨y, 10, none⟩ = false ∧ 11 ≤ k1 ∧ Hz (w.setCell ⟨y, 10, none⟩ (.int .i64 2)) base a0 m0 k0 a1 m1 k1 a2 m2 k2 a3 m3 k3 { H with csr := H.csr.set 10 2 } := by
  subst h1
  rcases h with ⟨h, g⟩ | ⟨e0, _, y, rfl, hl, h⟩
  · have hc := h.c
    have hl : H.csr.length = 11 := hc.len.symm
    obtain ⟨a, c, hv, hc1, _, hg⟩ := hc.shape
    obtain ⟨y, rfl⟩ := hg (by omega)
    rw [hl] at hv hc1
    simp only [Value.slice.injEq] at hv
    obtain ⟨rfl, -, rfl⟩ := hv
    have hy := hc.lt y rfl
    exact ⟨y, rfl, hy.1, hy.2, ⟨_, hc.cell hl.symm 10 (by decide)⟩, hc.free hl.symm 10, hc1, .inl ⟨⟨h.r.put _ _ (apt_ne g.rc.swap rfl), (hc.store 10 2).1, h.i.put _ _ (apt_ne g.ci rfl), h.o.put _ _ (apt_ne g.co rfl)⟩, g⟩⟩
  · have hy := h.lt y rfl
    exact ⟨y, rfl, hy.1, hy.2, ⟨_, h.cell hl.symm 10 (by decide)⟩, h.free hl.symm 10, h.lens.1, .inr ⟨e0, rfl, y, rfl, by simpa using hl, (h.store 10 2).1⟩⟩
theorem Drawn8.mq {S : Nat → Prop} {w w' : World} {base : Nat} {v : Value} (h : Drawn8 w base v) (m : Mq S w w') (hn : ∀ k, base ≤ k → k < w.heap.size → ¬ S k) : Drawn8 w' base v := by
  have g : ∀ {u : Value} {rs : List (Int × Int)}, Prs 73 w base u rs → Prs 73 w' base u rs := fun {u rs} k => by
    have hl := k.lt
    obtain ⟨h1, h2 | ⟨g, cap, cur, hv, hg, hr, rest⟩⟩ := k
    · exact ⟨h1, .inl h2⟩
    · refine ⟨h1, .inr ⟨g, cap, cur, hv, hg, ?_, rest⟩⟩
      have hh := hl g (by rw [hv]; rfl)
      rw [m.block g hh.2 (hn g hh.1 hh.2)]
      exact hr
  rcases h with ⟨rs, h, hl⟩ | ⟨x, yc, c2, rs, rfl, h, hl⟩
  · exact .inl ⟨rs, g h, hl⟩
  · exact .inr ⟨x, yc, c2, rs, rfl, g h, hl⟩
theorem put_mq (w : World) (y j : Nat) (u : Value) : Mq (fun k => k = y) w (w.setCell ⟨y, j, none⟩ u) := (Mq.refl _ w).set _ _ rfl
theorem drawnM_mq {w w' : World} {base base' R : Nat} {v : Value} (h : DrawnM w base v) (m : Mq (fun k => k = R) w w') (hn : R < base) (hb : base' ≤ base) : DrawnM w' base' v := by
  rcases h with ⟨zs, h, hl⟩ | h
  · exact .inl ⟨zs, (m.nums h (fun k e f => by have := (h.lt k e).1; omega)).mono hb, hl⟩
  · exact .inr h
theorem field_memW (x y : Value) (w : World) : (Instr.field 81 (.agg #[x, y]) 1).run Try.prog w = .ok y w := by kernel_rfl
set_option maxRecDepth 20000 in
set_option maxHeartbeats 16000000 in
theorem world_any {w : World} {b k : Nat} {a : Option Addr} {len cap : Nat} {zs : List Int} (s : Src w b k a len cap zs) (hk : k ≤ 1000) :
    Calls Try.prog 13 #[.pointer (some ⟨b, 0, none⟩)] w fun e w' => ∃ a0 m0 k0 a1 m1 k1 a2 m2 k2 a3 m3 k3 H vl vm, e = .returned (.tuple #[.agg #[.slice a0 m0 k0, .int .i64 H.pc, .slice a1 m1 k1, .bool H.halted, .bool H.waiting, .bool H.rung, .int .i64 H.done, .slice a2 m2 k2, .slice a3 m3 k3], vl, vm]) ∧ Hz w' w.heap.size a0 m0 k0 a1 m1 k1 a2 m2 k2 a3 m3 k3 H ∧ Drawn8 w' w.heap.size vl ∧ DrawnM w' w.heap.size vm ∧ Turn b w w' ∧ ∃ k', k' ≤ 10000 ∧ Src w' b k' a len cap zs := by
  have HK : Hid (k ≤ 1000) := hk
  obtain ⟨R, hR⟩ : ∃ R, w.heap.size = R := ⟨_, rfl⟩
  have HR : Hid (w.heap.size = R) := hR
  have BR : Hid (b < R) := by show _ < _; rw [← hR]; exact s.here
  generalize hW : w.alloc (.cells #[.slice none 0 0, .int .i64 0, .slice none 0 0, .bool false, .bool false, .bool false, .int .i64 0, .slice none 0 0, .slice none 0 0] 26) = W
  have VR : Hid (Vb W R #[.slice none 0 0, .int .i64 0, .slice none 0 0, .bool false, .bool false, .bool false, .int .i64 0, .slice none 0 0, .slice none 0 0] 26) := by show Vb _ _ _ _; rw [← hW, ← hR]; exact Vb.new _ _ _
  have SW : Hid (Src W b k a len cap zs) := by show Src _ _ _ _ _ _ _; rw [← hW]; exact s.alloc _
  have TW : Hid (Turn b w W) := by show Turn _ _ _; rw [← hW]; exact Turn.alloc _ _ _
  have LW : Hid (R < W.heap.size) := VR.out.lt
  clear s
  go_enter Try.func13, Try.ntmps13
  go_wp2_with fail
  clear hW hR
  refine (hbent_csr SW.out (by have := HK.out; omega)).mono ?_
  rintro e w2 ⟨a0, m0, k0, a1, m1, k1, a2, m2, k2, a3, m3, k3, H, rfl, hd, t2, kA, hkA, s2⟩
  have KA : Hid (kA ≤ k + 1100) := hkA
  obtain ⟨q, hq⟩ : ∃ q, w2.heap.size = q := ⟨_, rfl⟩
  obtain ⟨W2, hW2⟩ : ∃ W2, w2.alloc (.cells #[.slice a0 m0 k0, .int .i64 H.pc, .slice a1 m1 k1, .bool H.halted, .bool H.waiting, .bool H.rung, .int .i64 H.done, .slice a2 m2 k2, .slice a3 m3 k3] 26) = W2 := ⟨_, rfl⟩
  have tA : Turn b w2 W2 := by rw [← hW2]; exact Turn.alloc _ _ _
  have H2 : Hid (Hz W2 W.heap.size a0 m0 k0 a1 m1 k1 a2 m2 k2 a3 m3 k3 H) := (show Hz w2 W.heap.size a0 m0 k0 a1 m1 k1 a2 m2 k2 a3 m3 k3 H from hd).turn tA (by have := BR.out; have := LW.out; omega)
  have H0 : Hid (∀ y, a1 = some ⟨y, 0, none⟩ → m1 = 11 → y < q) := fun y e1 e2 => by
    obtain ⟨y', e', _, hy', _⟩ := (show Hz w2 W.heap.size a0 m0 k0 a1 m1 k1 a2 m2 k2 a3 m3 k3 H from hd).store e2
    rw [e1] at e'
    simp only [Option.some.injEq, Addr.mk.injEq] at e'
    obtain ⟨rfl, -⟩ := e'
    rw [← hq]; exact hy'
  have V2 : Hid (Vb W2 q #[.slice a0 m0 k0, .int .i64 H.pc, .slice a1 m1 k1, .bool H.halted, .bool H.waiting, .bool H.rung, .int .i64 H.done, .slice a2 m2 k2, .slice a3 m3 k3] 26) := by show Vb _ _ _ _; rw [← hW2, ← hq]; exact Vb.new _ _ _
  have R2 : Hid (Vb W2 R #[.slice none 0 0, .int .i64 0, .slice none 0 0, .bool false, .bool false, .bool false, .int .i64 0, .slice none 0 0, .slice none 0 0] 26) := (turn_mq tA).vb ((turn_mq t2).vb VR.out (by have := BR.out; omega)) (by have := BR.out; omega)
  have T2 : Hid (Turn b w W2) := (TW.out.trans t2).trans tA
  have S2 : Hid (Src W2 b kA a len cap zs) := by show Src _ _ _ _ _ _ _; rw [← hW2]; exact s2.alloc _
  have LQ : Hid (W.heap.size ≤ q ∧ q < W2.heap.size ∧ b < W.heap.size ∧ R < W.heap.size) := ⟨by have := t2.size; omega, V2.out.lt, by have := BR.out; have := LW.out; omega, LW.out⟩
  clear hd t2 hkA s2 tA
  go_wp2_with fail
  try rw [hW2]
  try rw [hq]
  clear hW2 hq
  refine (bent_rows S2.out (by have := KA.out; have := HK.out; omega) 6).mono ?_
  rintro e w3 ⟨vl, kB, rfl, dl, hkB, t3, s3⟩
  have L3 : Hid (Drawn8 w3 W2.heap.size vl) := dl
  have T3 : Hid (Turn b W2 w3) := t3
  have S3 : Hid (Src w3 b kB a len cap zs) := s3
  have KB : Hid (kB ≤ k + 1200) := by have := KA.out; show _ ≤ _; omega
  clear dl hkB t3 s3
  go_wp2_with fail
  refine (chance_any S3.out (by have := KB.out; have := HK.out; omega) _).mono ?_
  rintro e w4 ⟨c4, rfl, t4, s4⟩
  have L4 : Hid (Drawn8 w4 W2.heap.size vl) := L3.out.turn t4 (by have := LQ.out; omega)
  have T4 : Hid (Turn b W2 w4) := T3.out.trans t4
  have S4 : Hid (Src w4 b (kB + 1) a len cap zs) := s4
  clear t4 s4
  go_upto_if 18 with fail
  go_cut [7] from 19 to 30 (fun c wx => Drawn8 wx W2.heap.size vl ∧ Turn b W2 wx ∧ Src wx b (kB + 1) a len cap zs)
  case first =>
    cases c4
    · rcases L4.out with ⟨rs, hP, hl⟩ | ⟨g, yc, c2, rs, rfl, hP, hl⟩
      · obtain ⟨ya, yc, hv, l1, l2, hg⟩ := hP.shape
        rw [hl] at hv l1 hg
        obtain ⟨g, rfl⟩ := hg (by omega)
        subst hv
        have P4 : Hid (Prs 73 w4 W2.heap.size (.slice (some ⟨g, 0, none⟩) 8 yc) rs ∧ rs.length = 8) := ⟨hP, hl⟩
        clear hP hl hg l1 l2 L3 L4
        go_wp2_with fail
        go_loopw [7] (fun c wr => ∃ (j : Nat) (rs : List (Int × Int)), j ≤ 5 ∧ c = .int .i64 (j : Int) ∧ rs.length = 8 ∧ Prs 73 wr W2.heap.size (.slice (some ⟨g, 0, none⟩) 8 yc) rs ∧ Turn b W2 wr ∧ Src wr b (kB + 1) a len cap zs) (fun c _ => 5 - (intOf c).toNat)
        case atStart => exact ⟨0, rs, by omega, rfl, P4.out.2, P4.out.1, T4.out, S4.out⟩
        case round =>
          obtain ⟨j, qs, hj, rfl, hqs, hP, hT, hS⟩ := hrel
          have PJ : Hid (Prs 73 wr W2.heap.size (.slice (some ⟨g, 0, none⟩) 8 yc) qs) := hP
          have TJ : Hid (Turn b W2 wr) := hT
          have SJ : Hid (Src wr b (kB + 1) a len cap zs) := hS
          have LJ : Hid (qs.length = 8) := hqs
          have GB : Hid (W2.heap.size ≤ g) := (hP.lt g rfl).1
          clear hP hT hS hqs
          have e : j = 0 ∨ j = 1 ∨ j = 2 ∨ j = 3 ∨ j = 4 ∨ j = 5 := by omega
          clear hj
          rcases e with rfl | rfl | rfl | rfl | rfl | rfl
          · have c0 : wr.cell? ⟨g, 0, none⟩ = some (.int .i64 _) := (PJ.out.cell LJ.out.symm 0 (by decide)).1
            have c1 : wr.cell? ⟨g, 1, none⟩ = some (.int .i64 _) := (PJ.out.cell LJ.out.symm 0 (by decide)).2
            have f0 := PJ.out.free LJ.out.symm 0
            have f1 := PJ.out.free LJ.out.symm 1
            go_wp2_with fail
            go_roundw
            case rel =>
              refine ⟨1, qs.set 0 (0, 7), by omega, by go_num, by rw [List.length_set]; exact LJ.out, PJ.out.store LJ.out.symm 0 0 7 (by decide), turn_put (turn_put TJ.out _ _ GB.out) _ _ GB.out, src_put (src_put SJ.out _ _ ?_) _ _ ?_⟩
              all_goals (show b < g; have := GB.out; have := LQ.out; omega)
            case measure => simp [intOf]
          · have c0 : wr.cell? ⟨g, 2, none⟩ = some (.int .i64 _) := (PJ.out.cell LJ.out.symm 1 (by decide)).1
            have c1 : wr.cell? ⟨g, 3, none⟩ = some (.int .i64 _) := (PJ.out.cell LJ.out.symm 1 (by decide)).2
            have f0 := PJ.out.free LJ.out.symm 2
            have f1 := PJ.out.free LJ.out.symm 3
            go_wp2_with fail
            go_roundw
            case rel =>
              refine ⟨2, qs.set 1 (1, 7), by omega, by go_num, by rw [List.length_set]; exact LJ.out, PJ.out.store LJ.out.symm 1 1 7 (by decide), turn_put (turn_put TJ.out _ _ GB.out) _ _ GB.out, src_put (src_put SJ.out _ _ ?_) _ _ ?_⟩
              all_goals (show b < g; have := GB.out; have := LQ.out; omega)
            case measure => simp [intOf]
          · have c0 : wr.cell? ⟨g, 4, none⟩ = some (.int .i64 _) := (PJ.out.cell LJ.out.symm 2 (by decide)).1
            have c1 : wr.cell? ⟨g, 5, none⟩ = some (.int .i64 _) := (PJ.out.cell LJ.out.symm 2 (by decide)).2
            have f0 := PJ.out.free LJ.out.symm 4
            have f1 := PJ.out.free LJ.out.symm 5
            go_wp2_with fail
            go_roundw
            case rel =>
              refine ⟨3, qs.set 2 (2, 7), by omega, by go_num, by rw [List.length_set]; exact LJ.out, PJ.out.store LJ.out.symm 2 2 7 (by decide), turn_put (turn_put TJ.out _ _ GB.out) _ _ GB.out, src_put (src_put SJ.out _ _ ?_) _ _ ?_⟩
              all_goals (show b < g; have := GB.out; have := LQ.out; omega)
            case measure => simp [intOf]
          · have c0 : wr.cell? ⟨g, 6, none⟩ = some (.int .i64 _) := (PJ.out.cell LJ.out.symm 3 (by decide)).1
            have c1 : wr.cell? ⟨g, 7, none⟩ = some (.int .i64 _) := (PJ.out.cell LJ.out.symm 3 (by decide)).2
            have f0 := PJ.out.free LJ.out.symm 6
            have f1 := PJ.out.free LJ.out.symm 7
            go_wp2_with fail
            go_roundw
            case rel =>
              refine ⟨4, qs.set 3 (3, 7), by omega, by go_num, by rw [List.length_set]; exact LJ.out, PJ.out.store LJ.out.symm 3 3 7 (by decide), turn_put (turn_put TJ.out _ _ GB.out) _ _ GB.out, src_put (src_put SJ.out _ _ ?_) _ _ ?_⟩
              all_goals (show b < g; have := GB.out; have := LQ.out; omega)
            case measure => simp [intOf]
          · have c0 : wr.cell? ⟨g, 8, none⟩ = some (.int .i64 _) := (PJ.out.cell LJ.out.symm 4 (by decide)).1
            have c1 : wr.cell? ⟨g, 9, none⟩ = some (.int .i64 _) := (PJ.out.cell LJ.out.symm 4 (by decide)).2
            have f0 := PJ.out.free LJ.out.symm 8
            have f1 := PJ.out.free LJ.out.symm 9
            go_wp2_with fail
            go_roundw
            case rel =>
              refine ⟨5, qs.set 4 (4, 7), by omega, by go_num, by rw [List.length_set]; exact LJ.out, PJ.out.store LJ.out.symm 4 4 7 (by decide), turn_put (turn_put TJ.out _ _ GB.out) _ _ GB.out, src_put (src_put SJ.out _ _ ?_) _ _ ?_⟩
              all_goals (show b < g; have := GB.out; have := LQ.out; omega)
            case measure => simp [intOf]
          · go_wp2_with fail
            go_meet
            case rel => exact ⟨.inl ⟨_, PJ.out, LJ.out⟩, TJ.out, SJ.out⟩
      · have P4 : Hid (Prs 73 w4 W2.heap.size (.slice (some ⟨g, 0, none⟩) 8 yc) rs ∧ rs.length = 8) := ⟨hP, hl⟩
        clear hP hl L3 L4
        go_wp2_with fail
        go_loopw [7] (fun c wr => ∃ (j : Nat) (rs : List (Int × Int)), j ≤ 5 ∧ c = .int .i64 (j : Int) ∧ rs.length = 8 ∧ Prs 73 wr W2.heap.size (.slice (some ⟨g, 0, none⟩) 8 yc) rs ∧ Turn b W2 wr ∧ Src wr b (kB + 1) a len cap zs) (fun c _ => 5 - (intOf c).toNat)
        case atStart => exact ⟨0, rs, by omega, rfl, P4.out.2, P4.out.1, T4.out, S4.out⟩
        case round =>
          obtain ⟨j, qs, hj, rfl, hqs, hP, hT, hS⟩ := hrel
          have PJ : Hid (Prs 73 wr W2.heap.size (.slice (some ⟨g, 0, none⟩) 8 yc) qs) := hP
          have TJ : Hid (Turn b W2 wr) := hT
          have SJ : Hid (Src wr b (kB + 1) a len cap zs) := hS
          have LJ : Hid (qs.length = 8) := hqs
          have GB : Hid (W2.heap.size ≤ g) := (hP.lt g rfl).1
          clear hP hT hS hqs
          have e : j = 0 ∨ j = 1 ∨ j = 2 ∨ j = 3 ∨ j = 4 ∨ j = 5 := by omega
          clear hj
          rcases e with rfl | rfl | rfl | rfl | rfl | rfl
          · have c0 : wr.cell? ⟨g, 2, none⟩ = some (.int .i64 _) := (PJ.out.cell LJ.out.symm 1 (by decide)).1
            have c1 : wr.cell? ⟨g, 3, none⟩ = some (.int .i64 _) := (PJ.out.cell LJ.out.symm 1 (by decide)).2
            have f0 := PJ.out.free LJ.out.symm 2
            have f1 := PJ.out.free LJ.out.symm 3
            go_wp2_with fail
            go_roundw
            case rel =>
              refine ⟨1, qs.set 1 (0, 7), by omega, by go_num, by rw [List.length_set]; exact LJ.out, PJ.out.store LJ.out.symm 1 0 7 (by decide), turn_put (turn_put TJ.out _ _ GB.out) _ _ GB.out, src_put (src_put SJ.out _ _ ?_) _ _ ?_⟩
              all_goals (show b < g; have := GB.out; have := LQ.out; omega)
            case measure => simp [intOf]
          · have c0 : wr.cell? ⟨g, 4, none⟩ = some (.int .i64 _) := (PJ.out.cell LJ.out.symm 2 (by decide)).1
            have c1 : wr.cell? ⟨g, 5, none⟩ = some (.int .i64 _) := (PJ.out.cell LJ.out.symm 2 (by decide)).2
            have f0 := PJ.out.free LJ.out.symm 4
            have f1 := PJ.out.free LJ.out.symm 5
            go_wp2_with fail
            go_roundw
            case rel =>
              refine ⟨2, qs.set 2 (1, 7), by omega, by go_num, by rw [List.length_set]; exact LJ.out, PJ.out.store LJ.out.symm 2 1 7 (by decide), turn_put (turn_put TJ.out _ _ GB.out) _ _ GB.out, src_put (src_put SJ.out _ _ ?_) _ _ ?_⟩
              all_goals (show b < g; have := GB.out; have := LQ.out; omega)
            case measure => simp [intOf]
          · have c0 : wr.cell? ⟨g, 6, none⟩ = some (.int .i64 _) := (PJ.out.cell LJ.out.symm 3 (by decide)).1
            have c1 : wr.cell? ⟨g, 7, none⟩ = some (.int .i64 _) := (PJ.out.cell LJ.out.symm 3 (by decide)).2
            have f0 := PJ.out.free LJ.out.symm 6
            have f1 := PJ.out.free LJ.out.symm 7
            go_wp2_with fail
            go_roundw
            case rel =>
              refine ⟨3, qs.set 3 (2, 7), by omega, by go_num, by rw [List.length_set]; exact LJ.out, PJ.out.store LJ.out.symm 3 2 7 (by decide), turn_put (turn_put TJ.out _ _ GB.out) _ _ GB.out, src_put (src_put SJ.out _ _ ?_) _ _ ?_⟩
              all_goals (show b < g; have := GB.out; have := LQ.out; omega)
            case measure => simp [intOf]
          · have c0 : wr.cell? ⟨g, 8, none⟩ = some (.int .i64 _) := (PJ.out.cell LJ.out.symm 4 (by decide)).1
            have c1 : wr.cell? ⟨g, 9, none⟩ = some (.int .i64 _) := (PJ.out.cell LJ.out.symm 4 (by decide)).2
            have f0 := PJ.out.free LJ.out.symm 8
            have f1 := PJ.out.free LJ.out.symm 9
            go_wp2_with fail
            go_roundw
            case rel =>
              refine ⟨4, qs.set 4 (3, 7), by omega, by go_num, by rw [List.length_set]; exact LJ.out, PJ.out.store LJ.out.symm 4 3 7 (by decide), turn_put (turn_put TJ.out _ _ GB.out) _ _ GB.out, src_put (src_put SJ.out _ _ ?_) _ _ ?_⟩
              all_goals (show b < g; have := GB.out; have := LQ.out; omega)
            case measure => simp [intOf]
          · have c0 : wr.cell? ⟨g, 10, none⟩ = some (.int .i64 _) := (PJ.out.cell LJ.out.symm 5 (by decide)).1
            have c1 : wr.cell? ⟨g, 11, none⟩ = some (.int .i64 _) := (PJ.out.cell LJ.out.symm 5 (by decide)).2
            have f0 := PJ.out.free LJ.out.symm 10
            have f1 := PJ.out.free LJ.out.symm 11
            go_wp2_with fail
            go_roundw
            case rel =>
              refine ⟨5, qs.set 5 (4, 7), by omega, by go_num, by rw [List.length_set]; exact LJ.out, PJ.out.store LJ.out.symm 5 4 7 (by decide), turn_put (turn_put TJ.out _ _ GB.out) _ _ GB.out, src_put (src_put SJ.out _ _ ?_) _ _ ?_⟩
              all_goals (show b < g; have := GB.out; have := LQ.out; omega)
            case measure => simp [intOf]
          · go_wp2_with fail
            go_meet
            case rel => exact ⟨.inr ⟨_, _, _, _, rfl, PJ.out, LJ.out⟩, TJ.out, SJ.out⟩
    · go_wp2_with fail
      go_meet
      case rel => exact ⟨L4.out, T4.out, S4.out⟩
  case rest =>
    obtain ⟨hL, hT, hS⟩ := hcut
    have L5 : Hid (Drawn8 wc W2.heap.size vl) := hL
    have T5 : Hid (Turn b W2 wc) := hT
    have S5 : Hid (Src wc b (kB + 1) a len cap zs) := hS
    clear hL hT hS L3 T3 S3 L4 T4 S4
    have LC : Hid (W2.heap.size ≤ wc.heap.size) := T5.out.size
    have fn := spec_new 6 wc
    rw [show newC 6 = 0 from rfl, show newZ 6 = List.replicate 48 0 from rfl] at fn
    have hfm := field_memW
    go_wp2_with fail
    refine fn.mono ?_
    clear fn
    rintro e w6 ⟨v, rfl, n6, b6⟩
    have t6 : Turn b wc w6 := Turn.of_below b6
    obtain ⟨am, cm, rfl, l1, l2, hg⟩ := n6.shape
    obtain ⟨gm, rfl⟩ := hg (by simp)
    rw [List.length_replicate] at n6 l1 ⊢
    have M6 : Hid (Nums w6 wc.heap.size (.slice (some ⟨gm, 0, none⟩) 48 cm) (List.replicate 48 0)) := n6
    have T6 : Hid (Turn b wc w6) := t6
    have S6 : Hid (Src w6 b (kB + 1) a len cap zs) := S5.out.turn (Turn.of_below (b := wc.heap.size) b6) (Nat.le_refl _)
    have GM : Hid (wc.heap.size ≤ gm ∧ gm < w6.heap.size) := n6.lt gm rfl
    clear n6 hg t6 b6 l1 l2
    go_wp2_with fail
    refine (image_any S6.out (by have := KB.out; have := HK.out; omega) 40 (by omega) (by omega)).mono ?_
    rintro e w7 ⟨vi, xs, kC, rfl, n7, hxl, t7, s7, hkC⟩
    obtain ⟨ai, ci, rfl, l1, l2, hg⟩ := n7.shape
    have hx40 : xs.length = 40 := hxl
    rw [hx40] at n7 l1 hg ⊢
    obtain ⟨gi, rfl⟩ := hg (by omega)
    have I7 : Hid (Nums w7 w6.heap.size (.slice (some ⟨gi, 0, none⟩) 40 ci) xs) := n7
    have XL : Hid (xs.length = 40) := hx40
    have M7 : Hid (Nums w7 wc.heap.size (.slice (some ⟨gm, 0, none⟩) 48 cm) (List.replicate 48 0)) := M6.out.turn t7 (by have := LQ.out; have := LC.out; omega)
    have T7 : Hid (Turn b wc w7) := T6.out.trans t7
    have S7 : Hid (Src w7 b kC a len cap zs) := s7
    have KC : Hid (kC ≤ k + 2100) := by have := KB.out; show _ ≤ _; have e : (40 : Int).toNat = 40 := rfl; omega
    have GI : Hid (gm < gi) := by have h := (n7.lt gi rfl).1; have := GM.out; show _ < _; omega
    clear n7 hxl t7 s7 hkC hg l1 l2 hx40 M6 T6 S6
    go_wp2_with fail
    go_loopw [10] (fun c wr => ∃ (j : Nat) (ms : List Int), j ≤ 40 ∧ c = .int .i64 (j : Int) ∧ ms.length = 48 ∧ Nums wr wc.heap.size (.slice (some ⟨gm, 0, none⟩) 48 cm) ms ∧ Nums wr w6.heap.size (.slice (some ⟨gi, 0, none⟩) 40 ci) xs ∧ Turn b wc wr ∧ Src wr b kC a len cap zs) (fun c _ => 40 - (intOf c).toNat)
    case atStart => exact ⟨0, _, by omega, rfl, by simp, M7.out, I7.out, T7.out, S7.out⟩
    case round =>
      obtain ⟨j, ms, hj, rfl, hms, hM, hI, hT, hS⟩ := hrel
      have MJ : Hid (Nums wr wc.heap.size (.slice (some ⟨gm, 0, none⟩) 48 cm) ms) := hM
      have IJ : Hid (Nums wr w6.heap.size (.slice (some ⟨gi, 0, none⟩) 40 ci) xs) := hI
      have TJ : Hid (Turn b wc wr) := hT
      have SJ : Hid (Src wr b kC a len cap zs) := hS
      have LJ : Hid (ms.length = 48) := hms
      clear hM hI hT hS hms M7 I7 T7 S7
      by_cases hlt : j < 40
      · have hJ : (j : Int) < 40 := by omega
        have hJ2 : (j : Int) < 48 := by omega
        have HLT : Hid (j < 40) := hlt
        have ci := IJ.out.cell XL.out.symm j hlt
        have cj := MJ.out.cell LJ.out.symm j (by omega)
        have fj := MJ.out.free LJ.out.symm j
        generalize xs.getD j 0 = x at *
        clear hlt hj
        go_wp2_with fail
        go_roundw
        case rel =>
          refine ⟨j + 1, ms.set j x, by have := HLT.out; omega, by go_num, by rw [List.length_set]; exact LJ.out, (MJ.out.store j x).1, IJ.out.put _ _ (fun e => ?_), turn_put TJ.out _ _ GM.out.1, src_put SJ.out _ _ ?_⟩
          · have e : gi = gm := by simpa [Value.ownBlock] using e
            have := GI.out; omega
          · show b < gm; have := GM.out; have := LQ.out; have := LC.out; omega
        case measure => have := HLT.out; simp [intOf]; omega
      · have hJ : ¬ (j : Int) < 40 := by omega
        clear hlt hj IJ
        go_wp2_with fail
        refine (chance_any SJ.out (by have := KC.out; have := HK.out; omega) _).mono ?_
        rintro e w8 ⟨c8, rfl, t8, s8⟩
        have M8 : Hid (Nums w8 wc.heap.size (.slice (some ⟨gm, 0, none⟩) 48 cm) ms) := MJ.out.turn t8 (by have := LQ.out; have := LC.out; omega)
        have T8 : Hid (Turn b wc w8) := TJ.out.trans t8
        have S8 : Hid (Src w8 b (kC + 1) a len cap zs) := s8
        clear t8 s8 MJ TJ SJ
        go_upto_if 49 with fail
        go_cut [11] from 50 to 70 (fun c wx => ∃ (C : List Int) (ks : List Int) (kD : Nat), Hz wx W.heap.size a0 m0 k0 a1 m1 k1 a2 m2 k2 a3 m3 k3 { H with csr := C } ∧ Vb wx q #[.slice a0 m0 k0, .int .i64 H.pc, .slice a1 m1 k1, .bool H.halted, .bool H.waiting, .bool H.rung, .int .i64 H.done, .slice a2 m2 k2, .slice a3 m3 k3] 26 ∧ Vb wx R #[.slice none 0 0, .int .i64 0, .slice none 0 0, .bool false, .bool false, .bool false, .int .i64 0, .slice none 0 0, .slice none 0 0] 26 ∧ Drawn8 wx W2.heap.size vl ∧ ks.length = 48 ∧ Nums wx wc.heap.size (.slice (some ⟨gm, 0, none⟩) 48 cm) ks ∧ Turn b w wx ∧ Src wx b kD a len cap zs ∧ kD ≤ k + 2200)
        case first =>
          cases c8
          · go_wp2_with fail
            go_meet
            case rel =>
              have t : Turn b W2 w8 := T5.out.trans T8.out
              have hb1 := LQ.out
              exact ⟨H.csr, ms, kC + 1, H2.out.turn t (by omega), (turn_mq t).vb V2.out (by omega), (turn_mq t).vb R2.out (by have := BR.out; omega), L5.out.turn T8.out (by omega), LJ.out, M8.out, T2.out.trans t, S8.out, by have := KC.out; omega⟩
          · go_wp2_with fail
            go_loopw [11] (fun c wr => ∃ (i : Nat) (ms : List Int) (kD : Nat), i ≤ 8 ∧ c = .int .i64 (i : Int) ∧ ms.length = 48 ∧ Nums wr wc.heap.size (.slice (some ⟨gm, 0, none⟩) 48 cm) ms ∧ Turn b wc wr ∧ Src wr b kD a len cap zs ∧ kD ≤ kC + 1 + 2 * i) (fun c _ => 8 - (intOf c).toNat)
            case atStart => exact ⟨0, ms, kC + 1, by omega, rfl, LJ.out, M8.out, T8.out, S8.out, by omega⟩
            case round =>
              obtain ⟨i, ns, kD, hi, rfl, hns, hM, hT, hS, hkD⟩ := hrel
              have MJ : Hid (Nums wr wc.heap.size (.slice (some ⟨gm, 0, none⟩) 48 cm) ns) := hM
              have TJ : Hid (Turn b wc wr) := hT
              have SJ : Hid (Src wr b kD a len cap zs) := hS
              have LN : Hid (ns.length = 48 ∧ i ≤ 8 ∧ kD ≤ kC + 1 + 2 * i) := ⟨hns, hi, hkD⟩
              clear hM hT hS hns hkD M8 T8 S8
              by_cases hli : i < 8
              · have hI : (i : Int) < 8 := by omega
                have HLI : Hid (i < 8) := hli
                clear hli hi
                go_wp2_with fail
                refine (next_any SJ.out (by have := LN.out; have := KC.out; have := HK.out; omega) _).mono ?_
                rintro e w9 ⟨y1, rfl, hy1, -, t9, s9⟩
                obtain ⟨y10, y11⟩ := hy1 (by decide)
                go_wp2_with fail
                refine (next_any s9 (by have := LN.out; have := KC.out; have := HK.out; omega) _).mono ?_
                rintro e wA ⟨y2, rfl, hy2, -, tA, sA⟩
                obtain ⟨y20, y21⟩ := hy2 (by decide)
                have TA : Hid (Turn b wc wA) := (TJ.out.trans t9).trans tA
                have SA : Hid (Src wA b (kD + 1 + 1) a len cap zs) := sA
                have MA : Hid (Nums wA wc.heap.size (.slice (some ⟨gm, 0, none⟩) 48 cm) ns) := MJ.out.turn (t9.trans tA) (by have := LQ.out; have := LC.out; omega)
                have cj := MA.out.cell LN.out.1.symm (8 + i) (by have := HLI.out; omega)
                have fj := MA.out.free LN.out.1.symm (8 + i)
                have hI8 : (8 : Int) + (i : Int) < 48 := by omega
                clear t9 s9 tA sA hy1 hy2
                go_wp2_with fail
                go_roundw
                case rel =>
                  refine ⟨i + 1, ns.set (8 + i) (8 * y1 + y2), kD + 1 + 1, by have := HLI.out; omega, by go_num, by rw [List.length_set]; exact LN.out.1, (MA.out.store (8 + i) (8 * y1 + y2)).1, turn_put TA.out _ _ GM.out.1, src_put SA.out _ _ ?_, by have := LN.out; omega⟩
                  show b < gm; have := GM.out; have := LQ.out; have := LC.out; omega
                case measure => have := HLI.out; simp [intOf]; omega
              · have hI : ¬ (i : Int) < 8 := by omega
                clear hli hi
                have t : Turn b W2 wr := T5.out.trans TJ.out
                have hb1 := LQ.out
                have HJ : Hid (Hz wr W.heap.size a0 m0 k0 a1 m1 k1 a2 m2 k2 a3 m3 k3 H) := H2.out.turn t (by omega)
                have VJ : Hid (Vb wr q #[.slice a0 m0 k0, .int .i64 H.pc, .slice a1 m1 k1, .bool H.halted, .bool H.waiting, .bool H.rung, .int .i64 H.done, .slice a2 m2 k2, .slice a3 m3 k3] 26) := (turn_mq t).vb V2.out (by omega)
                have RJ : Hid (Vb wr R #[.slice none 0 0, .int .i64 0, .slice none 0 0, .bool false, .bool false, .bool false, .int .i64 0, .slice none 0 0, .slice none 0 0] 26) := (turn_mq t).vb R2.out (by have := BR.out; omega)
                have LL : Hid (Drawn8 wr W2.heap.size vl) := L5.out.turn TJ.out (by omega)
                have TT : Hid (Turn b w wr) := T2.out.trans t
                have LS : Hid (W2.heap.size ≤ wr.heap.size) := t.size
                clear t hb1
                have v2 := VJ.out.cell 2 rfl
                by_cases h11 : m1 = 11
                · obtain ⟨y, ey, yb, yl, ⟨z, cy⟩, fy, hk11, hz⟩ := HJ.out.store h11
                  subst ey h11
                  have HS : Hid (Hz (wr.setCell ⟨y, 10, none⟩ (.int .i64 2)) W.heap.size a0 m0 k0 (some ⟨y, 0, none⟩) 11 k1 a2 m2 k2 a3 m3 k3 { H with csr := H.csr.set 10 2 }) := hz
                  clear hz
                  have YB : Hid (W.heap.size ≤ y ∧ y < wr.heap.size) := ⟨yb, yl⟩
                  have YQ : Hid (y < q) := H0.out y rfl rfl
                  clear yb yl
                  go_wp2_with fail
                  go_meet
                  case rel =>
                    have pm := put_mq wr y 10 (.int .i64 2)
                    have hb1 := LQ.out
                    have hy1 := YB.out
                    have hlc := LC.out
                    have hls := LS.out
                    have hyq : y < q := YQ.out
                    exact ⟨_, ns, kD, HS.out, pm.vb VJ.out (by omega), pm.vb RJ.out (by have := BR.out; have := LW.out; omega), LL.out.mq pm (fun k e1 e2 e => by omega), LN.out.1, pm.nums MJ.out (fun k e f => by have := (MJ.out.lt k e).1; omega), turn_put TT.out _ _ (by show w.heap.size ≤ y; have := HR.out; have := LW.out; omega), src_put SJ.out _ _ (by show b < y; omega), by have := KC.out; have := LN.out; omega⟩
                · have h11 : ¬ (m1 : Int) = 11 := by omega
                  go_wp2_with fail
                  go_meet
                  case rel => exact ⟨H.csr, ns, kD, HJ.out, VJ.out, RJ.out, LL.out, LN.out.1, MJ.out, TT.out, SJ.out, by have := KC.out; have := LN.out; omega⟩
        case rest =>
          obtain ⟨C, ks, kD, hH, hV, hR', hL, hks, hM, hT, hS, hkD⟩ := hcut
          clear M8 T8 S8
          rename World => wd
          have HD : Hid (Hz wd W.heap.size a0 m0 k0 a1 m1 k1 a2 m2 k2 a3 m3 k3 { H with csr := C }) := hH
          have VD : Hid (Vb wd q #[.slice a0 m0 k0, .int .i64 H.pc, .slice a1 m1 k1, .bool H.halted, .bool H.waiting, .bool H.rung, .int .i64 H.done, .slice a2 m2 k2, .slice a3 m3 k3] 26) := hV
          have RD : Hid (Vb wd R #[.slice none 0 0, .int .i64 0, .slice none 0 0, .bool false, .bool false, .bool false, .int .i64 0, .slice none 0 0, .slice none 0 0] 26) := hR'
          have LD : Hid (Drawn8 wd W2.heap.size vl) := hL
          have MD : Hid (Nums wd wc.heap.size (.slice (some ⟨gm, 0, none⟩) 48 cm) ks) := hM
          have KL : Hid (ks.length = 48) := hks
          have TD : Hid (Turn b w wd) := hT
          have SD : Hid (Src wd b kD a len cap zs) := hS
          have KD : Hid (kD ≤ k + 2200) := hkD
          clear hH hV hR' hL hM hks hT hS hkD
          go_wp2_with fail
          refine (chance_any SD.out (by have := KD.out; have := HK.out; omega) _).mono ?_
          rintro e wE ⟨c9, rfl, t9, s9⟩
          have hb1 := LQ.out
          have HE : Hid (Hz wE W.heap.size a0 m0 k0 a1 m1 k1 a2 m2 k2 a3 m3 k3 { H with csr := C }) := HD.out.turn t9 (by omega)
          have VE : Hid (Vb wE q #[.slice a0 m0 k0, .int .i64 H.pc, .slice a1 m1 k1, .bool H.halted, .bool H.waiting, .bool H.rung, .int .i64 H.done, .slice a2 m2 k2, .slice a3 m3 k3] 26) := (turn_mq t9).vb VD.out (by omega)
          have RE : Hid (Vb wE R #[.slice none 0 0, .int .i64 0, .slice none 0 0, .bool false, .bool false, .bool false, .int .i64 0, .slice none 0 0, .slice none 0 0] 26) := (turn_mq t9).vb RD.out (by have := BR.out; omega)
          have LE : Hid (Drawn8 wE W2.heap.size vl) := LD.out.turn t9 (by omega)
          have ME : Hid (Nums wE wc.heap.size (.slice (some ⟨gm, 0, none⟩) 48 cm) ks) := MD.out.turn t9 (by have := LC.out; omega)
          have TE : Hid (Turn b w wE) := TD.out.trans t9
          have SE : Hid (Src wE b (kD + 1) a len cap zs) := s9
          clear t9 s9 HD VD RD LD MD TD SD
          clear hb1
          cases c9
          · skip
            have l0 := VE.out.cell 0 rfl
            have r0 := RE.out.cell 0 rfl
            have f0 := RE.out.free 0
            have l1 := VE.out.cell 1 rfl
            have r1 := RE.out.cell 1 rfl
            have f1 := RE.out.free 1
            have l2 := VE.out.cell 2 rfl
            have r2 := RE.out.cell 2 rfl
            have f2 := RE.out.free 2
            have l3 := VE.out.cell 3 rfl
            have r3 := RE.out.cell 3 rfl
            have f3 := RE.out.free 3
            have l4 := VE.out.cell 4 rfl
            have r4 := RE.out.cell 4 rfl
            have f4 := RE.out.free 4
            have l5 := VE.out.cell 5 rfl
            have r5 := RE.out.cell 5 rfl
            have f5 := RE.out.free 5
            have l6 := VE.out.cell 6 rfl
            have r6 := RE.out.cell 6 rfl
            have f6 := RE.out.free 6
            have l7 := VE.out.cell 7 rfl
            have r7 := RE.out.cell 7 rfl
            have f7 := RE.out.free 7
            have l8 := VE.out.cell 8 rfl
            have r8 := RE.out.cell 8 rfl
            have f8 := RE.out.free 8
            have NN : Hid (_ ∧ _) := nine RE.out (.slice a0 m0 k0) (.int .i64 H.pc) (.slice a1 m1 k1) (.bool H.halted) (.bool H.waiting) (.bool H.rung) (.int .i64 H.done) (.slice a2 m2 k2) (.slice a3 m3 k3)
            go_wp2_with fail
            clear l0 r0 f0 l1 r1 f1 l2 r2 f2 l3 r3 f3 l4 r4 f4 l5 r5 f5 l6 r6 f6 l7 r7 f7 l8 r8 f8
            generalize (((((((((wE.setCell ⟨R, 0, none⟩ (.slice a0 m0 k0)).setCell ⟨R, 1, none⟩ (.int .i64 H.pc)).setCell ⟨R, 2, none⟩ (.slice a1 m1 k1)).setCell ⟨R, 3, none⟩ (.bool H.halted)).setCell ⟨R, 4, none⟩ (.bool H.waiting)).setCell ⟨R, 5, none⟩ (.bool H.rung)).setCell ⟨R, 6, none⟩ (.int .i64 H.done)).setCell ⟨R, 7, none⟩ (.slice a2 m2 k2)).setCell ⟨R, 8, none⟩ (.slice a3 m3 k3)) = V at *
            have x0 := NN.out.1.cell 0 rfl
            have x1 := NN.out.1.cell 1 rfl
            have x2 := NN.out.1.cell 2 rfl
            have x3 := NN.out.1.cell 3 rfl
            have x4 := NN.out.1.cell 4 rfl
            have x5 := NN.out.1.cell 5 rfl
            have x6 := NN.out.1.cell 6 rfl
            have x7 := NN.out.1.cell 7 rfl
            have x8 := NN.out.1.cell 8 rfl
            have hb1 := LQ.out
            have hlc := LC.out
            have hbr := BR.out
            have hrr := HR.out
            have hlw := LW.out
            have hts := TE.out.size
            exact bodyPost_ret (v := .tuple #[.agg #[.slice a0 m0 k0, .int .i64 H.pc, .slice a1 m1 k1, .bool H.halted, .bool H.waiting, .bool H.rung, .int .i64 H.done, .slice a2 m2 k2, .slice a3 m3 k3], vl, .slice (some ⟨gm, 0, none⟩) 48 cm]) (by simp [results, Try.results13, go_sem, x0, x1, x2, x3, x4, x5, x6, x7, x8]) rfl
              ⟨_, _, _, _, _, _, _, _, _, _, _, _, { H with csr := C }, _, _, rfl, (HE.out.mq NN.out.2 (fun k e1 e2 e => by omega)).mono (by omega), (LE.out.mq NN.out.2 (fun k e1 e2 e => by omega)).mono (by omega), .inl ⟨ks, (NN.out.2.nums ME.out (fun k e f => by have := (ME.out.lt k e).1; omega)).mono (by omega), by have := KL.out; omega⟩, ⟨NN.out.2.os.trans TE.out.os, NN.out.2.tape.trans TE.out.tape, NN.out.2.output.trans TE.out.output, Nat.le_trans TE.out.size NN.out.2.size, fun x hx hn => (NN.out.2.block x (Nat.lt_of_lt_of_le hx TE.out.size) (by omega)).trans (TE.out.block x hx hn)⟩, _, by have := KD.out; have := HK.out; omega, src_mq SE.out NN.out.2 (by omega)⟩
          · go_wp2_with fail
            refine (mem_any SE.out (by have := KD.out; have := HK.out; omega)).mono ?_
            rintro e wF ⟨vm, kF, rfl, dm, hkF, tF, sF⟩
            have hb1 := LQ.out
            have HF : Hid (Hz wF W.heap.size a0 m0 k0 a1 m1 k1 a2 m2 k2 a3 m3 k3 { H with csr := C }) := HE.out.turn tF (by omega)
            have VF : Hid (Vb wF q #[.slice a0 m0 k0, .int .i64 H.pc, .slice a1 m1 k1, .bool H.halted, .bool H.waiting, .bool H.rung, .int .i64 H.done, .slice a2 m2 k2, .slice a3 m3 k3] 26) := (turn_mq tF).vb VE.out (by omega)
            have RF : Hid (Vb wF R #[.slice none 0 0, .int .i64 0, .slice none 0 0, .bool false, .bool false, .bool false, .int .i64 0, .slice none 0 0, .slice none 0 0] 26) := (turn_mq tF).vb RE.out (by have := BR.out; omega)
            have LF : Hid (Drawn8 wF W2.heap.size vl) := LE.out.turn tF (by omega)
            have MF : Hid (DrawnM wF wE.heap.size vm) := dm
            have TF : Hid (Turn b w wF) := TE.out.trans tF
            have SF : Hid (Src wF b kF a len cap zs) := sF
            have KF : Hid (kF ≤ k + 4000) := by have := KD.out; show _ ≤ _; omega
            have TE_size : Hid (w.heap.size ≤ wE.heap.size ∧ W.heap.size ≤ wE.heap.size) := ⟨TE.out.size, by have := TW.out.size; have := VE.out.lt; omega⟩
            clear dm hkF tF sF HE VE RE LE ME TE SE hb1
            have l0 := VF.out.cell 0 rfl
            have r0 := RF.out.cell 0 rfl
            have f0 := RF.out.free 0
            have l1 := VF.out.cell 1 rfl
            have r1 := RF.out.cell 1 rfl
            have f1 := RF.out.free 1
            have l2 := VF.out.cell 2 rfl
            have r2 := RF.out.cell 2 rfl
            have f2 := RF.out.free 2
            have l3 := VF.out.cell 3 rfl
            have r3 := RF.out.cell 3 rfl
            have f3 := RF.out.free 3
            have l4 := VF.out.cell 4 rfl
            have r4 := RF.out.cell 4 rfl
            have f4 := RF.out.free 4
            have l5 := VF.out.cell 5 rfl
            have r5 := RF.out.cell 5 rfl
            have f5 := RF.out.free 5
            have l6 := VF.out.cell 6 rfl
            have r6 := RF.out.cell 6 rfl
            have f6 := RF.out.free 6
            have l7 := VF.out.cell 7 rfl
            have r7 := RF.out.cell 7 rfl
            have f7 := RF.out.free 7
            have l8 := VF.out.cell 8 rfl
            have r8 := RF.out.cell 8 rfl
            have f8 := RF.out.free 8
            have NN : Hid (_ ∧ _) := nine RF.out (.slice a0 m0 k0) (.int .i64 H.pc) (.slice a1 m1 k1) (.bool H.halted) (.bool H.waiting) (.bool H.rung) (.int .i64 H.done) (.slice a2 m2 k2) (.slice a3 m3 k3)
            go_wp2_with fail
            clear l0 r0 f0 l1 r1 f1 l2 r2 f2 l3 r3 f3 l4 r4 f4 l5 r5 f5 l6 r6 f6 l7 r7 f7 l8 r8 f8
            generalize (((((((((wF.setCell ⟨R, 0, none⟩ (.slice a0 m0 k0)).setCell ⟨R, 1, none⟩ (.int .i64 H.pc)).setCell ⟨R, 2, none⟩ (.slice a1 m1 k1)).setCell ⟨R, 3, none⟩ (.bool H.halted)).setCell ⟨R, 4, none⟩ (.bool H.waiting)).setCell ⟨R, 5, none⟩ (.bool H.rung)).setCell ⟨R, 6, none⟩ (.int .i64 H.done)).setCell ⟨R, 7, none⟩ (.slice a2 m2 k2)).setCell ⟨R, 8, none⟩ (.slice a3 m3 k3)) = V at *
            have x0 := NN.out.1.cell 0 rfl
            have x1 := NN.out.1.cell 1 rfl
            have x2 := NN.out.1.cell 2 rfl
            have x3 := NN.out.1.cell 3 rfl
            have x4 := NN.out.1.cell 4 rfl
            have x5 := NN.out.1.cell 5 rfl
            have x6 := NN.out.1.cell 6 rfl
            have x7 := NN.out.1.cell 7 rfl
            have x8 := NN.out.1.cell 8 rfl
            have hb1 := LQ.out
            have hlc := LC.out
            have hbr := BR.out
            have hrr := HR.out
            have hlw := LW.out
            have hts := TF.out.size
            exact bodyPost_ret (v := .tuple #[.agg #[.slice a0 m0 k0, .int .i64 H.pc, .slice a1 m1 k1, .bool H.halted, .bool H.waiting, .bool H.rung, .int .i64 H.done, .slice a2 m2 k2, .slice a3 m3 k3], vl, vm]) (by simp [results, Try.results13, go_sem, x0, x1, x2, x3, x4, x5, x6, x7, x8]) rfl
              ⟨_, _, _, _, _, _, _, _, _, _, _, _, { H with csr := C }, _, _, rfl, (HF.out.mq NN.out.2 (fun k e1 e2 e => by omega)).mono (by omega), (LF.out.mq NN.out.2 (fun k e1 e2 e => by omega)).mono (by omega), drawnM_mq MF.out NN.out.2 (by have := TE_size.out; omega) (by have := TE_size.out; omega), ⟨NN.out.2.os.trans TF.out.os, NN.out.2.tape.trans TF.out.tape, NN.out.2.output.trans TF.out.output, Nat.le_trans TF.out.size NN.out.2.size, fun x hx hn => (NN.out.2.block x (Nat.lt_of_lt_of_le hx TF.out.size) (by omega)).trans (TF.out.block x hx hn)⟩, _, by have := KF.out; have := HK.out; omega, src_mq SF.out NN.out.2 (by omega)⟩
end Go.Proofs.Ytgjpfmcokcjegaa
