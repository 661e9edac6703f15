/- Texts of this seat, joined. -/
import Derived.Deep.RegionHeld3
import Derived.Deep.Cut
import Derived.Test.YtgjpfmcokcjegaaQ43
namespace Go.Proofs.Ytgjpfmcokcjegaa
open Go.RowKit
set_option linter.unusedVariables false
theorem Dh.newOut {w0 v v' : World} {b k : Nat} {a : Option Addr} {len cap : Nat} {zs : List Int} {R q : Nat} {r c i o o' : Value} {H : Ht} {ys : List Int} (h : Dh w0 v b k a len cap zs R q r c i o H) (n : Nums v' v.heap.size o' ys) (bl : Below v.heap.size v v') :
    Dh w0 (v'.setCell ⟨q, 8, none⟩ o') b k a len cap zs R q r c i o' { H with out := ys } := by
  have hb := h.hb; have hq := h.hq; have hR := h.hR
  have hql := h.var.lt
  have m := h.m.keep bl
  have nq : ∀ x, Own4 r c i o' x → x ≠ q := fun x e => by
    rcases e with e | e | e | e
    · exact h.nq x (.inl e)
    · exact h.nq x (.inr (.inl e))
    · exact h.nq x (.inr (.inr (.inl e)))
    · have := (n.lt x e).1; omega
  exact ⟨src_put (h.src.turn (Turn.of_below (b := v.heap.size) bl) (Nat.le_refl _)) _ _ (by show b < q; omega), ⟨m.r.put _ _ (fun e => nq q (.inl e) rfl), m.c.put _ _ (fun e => nq q (.inr (.inl e)) rfl), m.i.put _ _ (fun e => nq q (.inr (.inr (.inl e))) rfl), (n.mono (by omega)).put _ _ (fun e => nq q (.inr (.inr (.inr e))) rfl)⟩,
    ⟨h.ap.rc, h.ap.ri, h.m.r.apt n (Nat.le_refl _), h.ap.ci, h.m.c.apt n (Nat.le_refl _), h.m.i.apt n (Nat.le_refl _)⟩, (h.var.keep bl).set 8 _, (h.res.keep bl).put _ _ (by show R ≠ q; omega), turn_put (h.g.trans (Turn.of_below bl)) _ _ (by show w0.heap.size ≤ q; omega), nq, hb, hq, hR, h.r16, h.c11⟩
theorem src_mq {w w' : World} {b k R : Nat} {a : Option Addr} {len cap : Nat} {zs : List Int} (s : Src w b k a len cap zs) (m : Mq (fun x => x = R) w w') (hb : b < R) : Src w' b k a len cap zs := by
  have hh := s.here
  have hbk : ∀ x, x ≤ b → x < w.heap.size → w'.heap[x]? = w.heap[x]? := fun x hx hl => m.block x hl (by omega)
  have hcell : ∀ (p : Addr) (u : Value), p.block ≤ b → w.cell? p = some u → w'.cell? p = some u := fun p u hp hu => by
    have hl := block_of_cell hu
    unfold World.cell? at *
    rw [hbk _ hp hl]
    exact hu
  refine ⟨hcell _ _ (Nat.le_refl _) s.code, hcell _ _ (Nat.le_refl _) s.count, ?_, ?_, s.away, Nat.lt_of_lt_of_le hh m.size⟩
  · rw [World.frozen?_of_block (w := w) (hbk b (Nat.le_refl _) hh)]; exact s.free
  · rcases s.row with h0 | ⟨x, rfl, q1, q2, q3, q4, q5⟩
    · exact .inl h0
    · refine .inr ⟨x, rfl, q1, q2, q3, fun j hj => hcell _ _ ?_ (q4 j hj), q5⟩
      have hx := s.away x rfl (by omega)
      rw [src_block]
      omega
theorem three_at (w : World) (x y z : Int) (t : TypeId) : ∀ i, i < 3 → ∃ v : Int, (w.alloc (.cells #[.int .i64 x, .int .i64 y, .int .i64 z] t)).cell? ⟨w.heap.size, i, none⟩ = some (.int .i64 v) ∧ True := by
  intro i hi
  have e : i = 0 ∨ i = 1 ∨ i = 2 := by omega
  rcases e with rfl | rfl | rfl
  · exact ⟨x, cell_new rfl, trivial⟩
  · exact ⟨y, cell_new rfl, trivial⟩
  · exact ⟨z, cell_new rfl, trivial⟩
set_option maxRecDepth 20000 in
set_option maxHeartbeats 16000000 in
theorem hart_any {w : World} {b k : Nat} {a : Option Addr} {len cap : Nat} {zs : List Int} (s : Src w b k a len cap zs) (hk : k ≤ 50000) :
    Calls Try.prog 56 #[.pointer (some ⟨b, 0, none⟩)] w fun e w' => ∃ r c i o H, e = .returned (.agg #[r, .int .i64 H.pc, c, .bool H.halted, .bool H.waiting, .bool H.rung, .int .i64 H.done, i, o]) ∧ Hm w' w.heap.size r c i o H ∧ Ha r c i o ∧ H.regs.length = 16 ∧ H.csr.length = 11 ∧ Turn b w w' ∧ ∃ k', k' ≤ k + 1000 ∧ Src w' b k' a len cap zs := by
  have HK : Hid (k ≤ 50000) := hk
  have S0 : Hid (Src w b k a len cap zs) := s
  obtain ⟨R, hR⟩ : ∃ R, w.heap.size = R := ⟨_, rfl⟩
  have HR : Hid (w.heap.size = R) := hR
  have BR : Hid (b < R) := by show _ < _; rw [← hR]; exact s.here
  generalize hW : (w.alloc (.cells #[.slice none 0 0, .int .i64 0, .slice none 0 0, .bool false, .bool false, .bool false, .int .i64 0, .slice none 0 0, .slice none 0 0] 26)).alloc (.cells #[.int .i64 7, .int .i64 8] 2) = W
  have z1 : R + 1 = (w.alloc (.cells #[.slice none 0 0, .int .i64 0, .slice none 0 0, .bool false, .bool false, .bool false, .int .i64 0, .slice none 0 0, .slice none 0 0] 26)).heap.size := by rw [← hR]; simp
  have VR : Hid (Vb W R #[.slice none 0 0, .int .i64 0, .slice none 0 0, .bool false, .bool false, .bool false, .int .i64 0, .slice none 0 0, .slice none 0 0] 26) := by show Vb _ _ _ _; rw [← hW, ← hR]; exact (Vb.new _ _ _).push _
  have VL : Hid (Vb W (R + 1) #[.int .i64 7, .int .i64 8] 2) := by show Vb _ _ _ _; rw [← hW, z1]; exact Vb.new _ _ _
  have SW : Hid (Src W b k a len cap zs) := by show Src _ _ _ _ _ _ _; rw [← hW]; exact (s.alloc _).alloc _
  have TW : Hid (Turn b w W) := by show Turn _ _ _; rw [← hW]; exact (Turn.alloc _ _ _).trans (Turn.alloc _ _ _)
  clear s z1
  go_enter Try.func56, Try.ntmps56
  go_wp2_with fail
  clear hW hR
  refine (next_any SW.out (by have := HK.out; omega) _).mono ?_
  rintro e w1 ⟨v, rfl, hv, -, t1, s1⟩
  obtain ⟨hv0, hv1⟩ := hv (by decide)
  obtain ⟨n, rfl⟩ := Int.eq_ofNat_of_zero_le hv0
  have hn : n ≤ 2 := by omega
  have S1 : Hid (Src w1 b (k + 1) a len cap zs) := s1
  have T1 : Hid (Turn b w w1) := TW.out.trans t1
  have VR1 : Hid (Vb w1 R #[.slice none 0 0, .int .i64 0, .slice none 0 0, .bool false, .bool false, .bool false, .int .i64 0, .slice none 0 0, .slice none 0 0] 26) := (turn_mq t1).vb VR.out (by have := BR.out; omega)
  have VL1 : Hid (Vb w1 (R + 1) #[.int .i64 7, .int .i64 8] 2) := (turn_mq t1).vb VL.out (by have := BR.out; omega)
  have NZ : Hid (∃ ys, Nums w1 (R + 1) (.slice (some ⟨R + 1, 0, none⟩) n 2) ys ∧ newR ys = (0, newV ys)) := by
    have e : n = 0 ∨ n = 1 ∨ n = 2 := by omega
    rcases e with rfl | rfl | rfl
    · exact ⟨[], ⟨rfl, .inr ⟨R + 1, 2, _, rfl, Nat.le_refl _, VL1.out, by decide, by decide, rfl, rfl⟩⟩, newR_small (by decide) (by decide)⟩
    · exact ⟨[7], ⟨rfl, .inr ⟨R + 1, 2, _, rfl, Nat.le_refl _, VL1.out, by decide, by decide, rfl, rfl⟩⟩, newR_small (by decide) (by decide)⟩
    · exact ⟨[7, 8], ⟨rfl, .inr ⟨R + 1, 2, _, rfl, Nat.le_refl _, VL1.out, by decide, by decide, rfl, rfl⟩⟩, newR_small (by decide) (by decide)⟩
  have hI2 : (n : Int) ≤ 2 := by omega
  clear hv t1 s1
  go_wp2_with fail
  obtain ⟨ys, NY, hnew⟩ := NZ.out
  refine (s_newHart8 _ ys _ _ NY).mono ?_
  rintro e w2 ⟨r, c, i, o, rfl, m2, A2, b2⟩
  rw [hnew] at m2 ⊢
  obtain ⟨H0, hH0⟩ : ∃ H, newV ys = H := ⟨_, rfl⟩
  have L0 : Hid (H0.regs.length = 16 ∧ H0.csr.length = 11) := by rw [← hH0]; exact ⟨rfl, rfl⟩
  simp only [hH0] at m2 ⊢
  obtain ⟨a0, k0, rfl, _, _, g0⟩ := m2.r.shape
  obtain ⟨a1, k1, rfl, _, _, g1⟩ := m2.c.shape
  obtain ⟨a2, k2, rfl, _⟩ := m2.i.shape
  obtain ⟨a3, k3, rfl, _⟩ := m2.o.shape
  obtain ⟨y0, rfl⟩ := g0 (by rw [L0.out.1]; decide)
  obtain ⟨y1, rfl⟩ := g1 (by rw [L0.out.2]; decide)
  rw [L0.out.1] at m2 A2 ⊢
  rw [L0.out.2] at m2 A2 ⊢
  generalize H0.inn.length = n2 at *
  generalize H0.out.length = n3 at *
  have fh : ∀ w', (Instr.field 118 (.agg #[.int .i64 0, .slice (some ⟨y0, 0, none⟩) 16 k0, .int .i64 H0.pc, .slice (some ⟨y1, 0, none⟩) 11 k1, .bool H0.halted, .bool H0.waiting, .bool H0.rung, .int .i64 H0.done, .slice a2 n2 k2, .slice a3 n3 k3]) 1).run Try.prog w' = .ok (.agg #[.slice (some ⟨y0, 0, none⟩) 16 k0, .int .i64 H0.pc, .slice (some ⟨y1, 0, none⟩) 11 k1, .bool H0.halted, .bool H0.waiting, .bool H0.rung, .int .i64 H0.done, .slice a2 n2 k2, .slice a3 n3 k3]) w' := fun w' => field_hart _ _ _ _ _ _ _ _ _ _ w'
  have SZ : Hid (R + 2 ≤ w1.heap.size) := by have := VL1.out.lt; show _ ≤ _; omega
  obtain ⟨q, hq⟩ : ∃ q, w2.heap.size = q := ⟨_, rfl⟩
  have D0 : Hid (Dh w (w2.alloc (.cells #[.slice (some ⟨y0, 0, none⟩) 16 k0, .int .i64 H0.pc, .slice (some ⟨y1, 0, none⟩) 11 k1, .bool H0.halted, .bool H0.waiting, .bool H0.rung, .int .i64 H0.done, .slice a2 n2 k2, .slice a3 n3 k3] 26)) b (k + 1) a len cap zs R q (.slice (some ⟨y0, 0, none⟩) 16 k0) (.slice (some ⟨y1, 0, none⟩) 11 k1) (.slice a2 n2 k2) (.slice a3 n3 k3) H0) := by
    have hRR := HR.out; have hBR := BR.out; have hSZ := SZ.out; have hb2 := b2.size
    refine ⟨((S1.out.turn (Turn.of_below (b := w1.heap.size) b2) (Nat.le_refl _)).alloc _), (m2.keep (al (Below.refl _ _) _)).mono (by omega), A2, by rw [← hq]; exact Vb.new _ _ _, (VR1.out.keep b2).push _, (T1.out.trans (Turn.of_below b2)).trans (Turn.alloc _ _ _), fun x e f => by have := (m2.own x e).2; omega, hBR, by omega, by omega, L0.out.1, L0.out.2⟩
  clear m2 A2 b2 hnew NY hH0 g0 g1
  go_wp2_with fail
  generalize w2.alloc (.cells #[.slice (some ⟨y0, 0, none⟩) 16 k0, .int .i64 H0.pc, .slice (some ⟨y1, 0, none⟩) 11 k1, .bool H0.halted, .bool H0.waiting, .bool H0.rung, .int .i64 H0.done, .slice a2 n2 k2, .slice a3 n3 k3] 26) = W2 at *
  clear hq fh
  go_loopw [4] (fun kk wr => ∃ (j k' : Nat) (H : Ht), 1 ≤ j ∧ j ≤ 16 ∧ kk = .int .i64 j ∧ k' ≤ k + 1 + 20 * j ∧ Dh w wr b k' a len cap zs R q (.slice (some ⟨y0, 0, none⟩) 16 k0) (.slice (some ⟨y1, 0, none⟩) 11 k1) (.slice a2 n2 k2) (.slice a3 n3 k3) H) (fun kk _ => 16 - (intOf kk).toNat)
  case atStart => exact ⟨1, k + 1, H0, by omega, by omega, rfl, by omega, D0.out⟩
  case round =>
    obtain ⟨j, k', H, hj1, hj, rfl, hk', hD⟩ := hrel
    have DD : Hid (Dh w wr b k' a len cap zs R q (.slice (some ⟨y0, 0, none⟩) 16 k0) (.slice (some ⟨y1, 0, none⟩) 11 k1) (.slice a2 n2 k2) (.slice a3 n3 k3) H) := hD
    have KB : Hid (k' ≤ k + 1 + 20 * j ∧ 1 ≤ j ∧ j ≤ 16) := ⟨hk', hj1, hj⟩
    clear hD hk'
    by_cases hlt : j < 16
    · have hJ : (j : Int) < 16 := by omega
      have HL : Hid (j < 16) := hlt
      clear hlt hj hj1
      go_wp2_with (go_at_call 32; refine (chance_any DD.out.src (by have := KB.out; have := HK.out; omega) _).mono ?_; rintro e u1 ⟨cv, rfl, t1, s1⟩; have D1 : Hid (Dh w u1 b (k' + 1) a len cap zs R q (.slice (some ⟨y0, 0, none⟩) 16 k0) (.slice (some ⟨y1, 0, none⟩) 11 k1) (.slice a2 n2 k2) (.slice a3 n3 k3) H) := DD.out.turn t1 s1; clear t1 s1; cases cv)
      · go_roundw
        case rel => exact ⟨j + 1, _, _, by have := HL.out; omega, by have := HL.out; omega, by go_num, by have := KB.out; omega, D1.out⟩
        case measure => have := HL.out; simp [intOf]; omega
      · skip
        have DR : Hid (Dh w u1.drew b (k' + 1) a len cap zs R q (.slice (some ⟨y0, 0, none⟩) 16 k0) (.slice (some ⟨y1, 0, none⟩) 11 k1) (.slice a2 n2 k2) (.slice a3 n3 k3) H) := D1.out.turn (Turn.of_below (Below.refl _ _).drew) (D1.out.src.turn (Turn.of_below (b := u1.heap.size) (Below.refl _ _).drew) (Nat.le_refl _))
        refine wp_region_held (S := fun w' => w'.cell? ⟨q, 0, none⟩ = some (.slice (some ⟨y0, 0, none⟩) 16 k0)) (by kernel_rfl) ?_
        change wpAnyH _ _ _ _ _ _ _ _ (World.drew _)
        have SD : Hid (u1.drew.cell? ⟨q, 0, none⟩ = some (.slice (some ⟨y0, 0, none⟩) 16 k0)) := DR.out.var.cell 0 rfl
        refine wpTk (i := 0) (v := .pointer (some ⟨q, 0, none⟩)) rfl (Or.inl ⟨by rfl, fun w' hs => by go_simp⟩) SD.out ?_
        change wpAnyH _ _ _ _ _ _ _ (Act.put _ (some 18) _) _
        simp only [Act.put, zT, zZ, zS]
        refine wpTk (i := 1) (v := (.slice (some ⟨y0, 0, none⟩) 16 k0)) rfl (Or.inl ⟨by rfl, fun w' hs => by go_simp⟩) SD.out ?_
        change wpAnyH _ _ _ _ _ _ _ (Act.put _ (some 19) _) _
        simp only [Act.put, zT, zZ, zS]
        refine wpTk (i := 2) (v := .int .i64 (j : Int)) rfl (Or.inl ⟨by rfl, fun w' hs => by go_simp⟩) SD.out ?_
        change wpAnyH _ _ _ _ _ _ _ (Act.put _ (some 20) _) _
        simp only [Act.put, zT, zZ, zS]
        refine wpTk (i := 3) (v := .pointer (some ⟨b, 0, none⟩)) rfl (Or.inl ⟨by rfl, fun w' hs => by go_simp⟩) SD.out ?_
        change wpAnyH _ _ _ _ _ _ _ (Act.put _ (some 21) _) _
        simp only [Act.put, zT, zZ, zS]
        refine wpTk (i := 4) (v := .pointer (some ⟨b, 0, none⟩)) rfl (Or.inl ⟨by rfl, fun w' hs => by go_simp⟩) SD.out ?_
        change wpAnyH _ _ _ _ _ _ _ (Act.put _ (some 22) _) _
        simp only [Act.put, zT, zZ, zS]
        refine wpTk (i := 6) (v := .pointer (some ⟨b, 0, none⟩)) rfl (Or.inl ⟨by rfl, fun w' hs => by go_simp⟩) SD.out ?_
        change wpAnyH _ _ _ _ _ _ _ (Act.put _ (some 24) _) _
        simp only [Act.put, zT, zZ, zS]
        refine wpTk (i := 8) (v := .pointer (some ⟨b, 0, none⟩)) rfl (Or.inl ⟨by rfl, fun w' hs => by go_simp⟩) SD.out ?_
        change wpAnyH _ _ _ _ _ _ _ (Act.put _ (some 26) _) _
        simp only [Act.put, zT, zZ, zS]
        refine zR 5 rfl fun K hK => ?_
        rw [if_pos (by rfl)]
        go_simp
        refine (word_any DR.out.src (by have := KB.out; have := HK.out; omega)).mono ?_
        rintro e u2 ⟨x1, rfl, -, t1, s1⟩
        have D2 : Hid (Dh w u2 b (k' + 1 + 5) a len cap zs R q (.slice (some ⟨y0, 0, none⟩) 16 k0) (.slice (some ⟨y1, 0, none⟩) 11 k1) (.slice a2 n2 k2) (.slice a3 n3 k3) H) := DR.out.turn t1 s1
        clear t1 s1
        refine hK.out _ _ (D2.out.var.cell 0 rfl) (fun _ => ?_)
        clear hK K
        refine zR 7 rfl fun K hK => ?_
        rw [if_pos (by rfl)]
        go_simp
        refine (next_any D2.out.src (by have := KB.out; have := HK.out; omega) _).mono ?_
        rintro e u3 ⟨x2, rfl, -, -, t1, s1⟩
        have D3 : Hid (Dh w u3 b (k' + 1 + 5 + 1) a len cap zs R q (.slice (some ⟨y0, 0, none⟩) 16 k0) (.slice (some ⟨y1, 0, none⟩) 11 k1) (.slice a2 n2 k2) (.slice a3 n3 k3) H) := D2.out.turn t1 s1
        clear t1 s1
        refine hK.out _ _ (D3.out.var.cell 0 rfl) (fun _ => ?_)
        clear hK K
        refine zR 9 rfl fun K hK => ?_
        rw [if_pos (by rfl)]
        go_simp
        refine (next_any D3.out.src (by have := KB.out; have := HK.out; omega) _).mono ?_
        rintro e u4 ⟨x3, rfl, hx3, -, t1, s1⟩
        have D4 : Hid (Dh w u4 b (k' + 1 + 5 + 1 + 1) a len cap zs R q (.slice (some ⟨y0, 0, none⟩) 16 k0) (.slice (some ⟨y1, 0, none⟩) 11 k1) (.slice a2 n2 k2) (.slice a3 n3 k3) H) := D3.out.turn t1 s1
        clear t1 s1
        refine hK.out _ _ (D4.out.var.cell 0 rfl) (fun _ => ?_)
        clear hK K
        obtain ⟨x30, x31⟩ := hx3 (by decide)
        clear hx3
        have hw56 : IntKind.i64.wrap (56 + x3) = 56 + x3 := by rw [IntKind.wrap_i64]; omega
        refine wpTk (i := 10) (v := .int .i64 (56 + x3)) rfl (Or.inl ⟨by rfl, fun w' hs => by go_simp⟩) (D4.out.var.cell 0 rfl) ?_
        change wpAnyH _ _ _ _ _ _ _ (Act.put _ (some 28) _) _
        simp only [Act.put, zT, zZ, zS]
        refine zR 11 rfl fun K hK => ?_
        rw [if_pos (by rfl)]
        go_simp
        have D5 : Hid (Dh w (u4.alloc (.cells #[.int .i64 x1, .int .i64 x2, .int .i64 (56 + x3)] 2)) b (k' + 1 + 5 + 1 + 1) a len cap zs R q (.slice (some ⟨y0, 0, none⟩) 16 k0) (.slice (some ⟨y1, 0, none⟩) 11 k1) (.slice a2 n2 k2) (.slice a3 n3 k3) H) := D4.out.turn (Turn.alloc _ _ _) (D4.out.src.alloc _)
        refine hK.out _ _ (D5.out.var.cell 0 rfl) (fun _ => ?_)
        clear hK K
        refine zR 12 rfl fun K hK => ?_
        rw [if_pos (by rfl)]
        go_simp
        refine (pick_any D5.out.src (by have := KB.out; have := HK.out; omega) (fun _ => True) _ 3 (by decide) (by decide) (by simp) (by have := D4.out.src.here; omega) (three_at _ _ _ _ _)).mono ?_
        rintro e u6 ⟨x6, rfl, -, t1, s1⟩
        have D6 : Hid (Dh w u6 b (k' + 1 + 5 + 1 + 1 + 1) a len cap zs R q (.slice (some ⟨y0, 0, none⟩) 16 k0) (.slice (some ⟨y1, 0, none⟩) 11 k1) (.slice a2 n2 k2) (.slice a3 n3 k3) H) := D5.out.turn t1 s1
        clear t1 s1
        refine hK.out _ _ (D6.out.var.cell 0 rfl) (fun _ => ?_)
        clear hK K
        refine wpTk (i := 13) (v := .pointer (some ⟨y0, j, none⟩)) rfl (Or.inl ⟨by rfl, fun w' hs => by go_simp⟩) (D6.out.var.cell 0 rfl) ?_
        change wpAnyH _ _ _ _ _ _ _ (Act.put _ (some 31) _) _
        simp only [Act.put, zT, zZ, zS]
        have cj := D6.out.m.r.cell D6.out.r16.symm j HL.out
        have fj := D6.out.m.r.free D6.out.r16.symm j
        have D7 : Hid (Dh w (u6.setCell ⟨y0, j, none⟩ (.int .i64 x6)) b (k' + 1 + 5 + 1 + 1 + 1) a len cap zs R q (.slice (some ⟨y0, 0, none⟩) 16 k0) (.slice (some ⟨y1, 0, none⟩) 11 k1) (.slice a2 n2 k2) (.slice a3 n3 k3) { H with regs := H.regs.set j x6 }) := D6.out.reg j x6
        refine zR 14 rfl fun K hK => ?_
        rw [if_pos (by rfl)]
        go_simp
        refine hK.out _ _ (D7.out.var.cell 0 rfl) (fun _ => ?_)
        clear hK K
        refine wpAnyH_done (by kernel_rfl) ?_ _
        generalize u6.setCell ⟨y0, j, none⟩ (.int .i64 x6) = u7 at *
        clear cj fj
        go_wp2_with fail
        go_roundw
        case rel => exact ⟨j + 1, _, _, by have := HL.out; omega, by have := HL.out; omega, by go_num, by have := KB.out; omega, D7.out⟩
        case measure => have := HL.out; simp [intOf]; omega
    · have hJ : ¬ (j : Int) < 16 := by omega
      clear hj1 hlt hj
      go_wp2_with fail
      refine (next_any DD.out.src (by have := KB.out; have := HK.out; omega) _).mono ?_
      rintro e u1 ⟨x1, rfl, -, -, t1, s1⟩
      have D1 : Hid (Dh w u1 b (k' + 1) a len cap zs R q (.slice (some ⟨y0, 0, none⟩) 16 k0) (.slice (some ⟨y1, 0, none⟩) 11 k1) (.slice a2 n2 k2) (.slice a3 n3 k3) H) := DD.out.turn t1 s1
      clear t1 s1
      go_wp2_with fail
      refine (next_any D1.out.src (by have := KB.out; have := HK.out; omega) _).mono ?_
      rintro e u2 ⟨x2, rfl, -, -, t1, s1⟩
      have D2 : Hid (Dh w u2 b (k' + 1 + 1) a len cap zs R q (.slice (some ⟨y0, 0, none⟩) 16 k0) (.slice (some ⟨y1, 0, none⟩) 11 k1) (.slice a2 n2 k2) (.slice a3 n3 k3) H) := D1.out.turn t1 s1
      clear t1 s1
      go_wp2_with fail
      refine (word_any D2.out.src (by have := KB.out; have := HK.out; omega)).mono ?_
      rintro e u3 ⟨x3, rfl, -, t1, s1⟩
      have D3 : Hid (Dh w u3 b (k' + 1 + 1 + 5) a len cap zs R q (.slice (some ⟨y0, 0, none⟩) 16 k0) (.slice (some ⟨y1, 0, none⟩) 11 k1) (.slice a2 n2 k2) (.slice a3 n3 k3) H) := D2.out.turn t1 s1
      clear t1 s1
      have D4 : Hid (Dh w (u3.alloc (.cells #[.int .i64 x1, .int .i64 x2, .int .i64 x3] 2)) b (k' + 1 + 1 + 5) a len cap zs R q (.slice (some ⟨y0, 0, none⟩) 16 k0) (.slice (some ⟨y1, 0, none⟩) 11 k1) (.slice a2 n2 k2) (.slice a3 n3 k3) H) := D3.out.turn (Turn.alloc _ _ _) (D3.out.src.alloc _)
      go_wp2_with fail
      refine (pick_any D4.out.src (by have := KB.out; have := HK.out; omega) (fun _ => True) _ 3 (by decide) (by decide) (by simp) (by have := D3.out.src.here; omega) (three_at _ _ _ _ _)).mono ?_
      rintro e u5 ⟨x5, rfl, -, t1, s1⟩
      have D5 : Hid (Dh w u5 b (k' + 1 + 1 + 5 + 1) a len cap zs R q (.slice (some ⟨y0, 0, none⟩) 16 k0) (.slice (some ⟨y1, 0, none⟩) 11 k1) (.slice a2 n2 k2) (.slice a3 n3 k3) H) := D4.out.turn t1 s1
      clear t1 s1
      have c1 := D5.out.var.cell 1 rfl
      have f1 := D5.out.var.free 1
      have D6 : Hid (Dh w (u5.setCell ⟨q, 1, none⟩ (.int .i64 x5)) b (k' + 1 + 1 + 5 + 1) a len cap zs R q (.slice (some ⟨y0, 0, none⟩) 16 k0) (.slice (some ⟨y1, 0, none⟩) 11 k1) (.slice a2 n2 k2) (.slice a3 n3 k3) { H with pc := x5 }) := D5.out.fld 1 _ _ rfl rfl rfl rfl (D5.out.var.set 1 _)
      go_wp2_with fail
      generalize u5.setCell ⟨q, 1, none⟩ (.int .i64 x5) = u6 at *
      clear c1 f1
      refine (next_any D6.out.src (by have := KB.out; have := HK.out; omega) _).mono ?_
      rintro e u7 ⟨x7, rfl, -, -, t1, s1⟩
      have D7 : Hid (Dh w u7 b (k' + 1 + 1 + 5 + 1 + 1) a len cap zs R q (.slice (some ⟨y0, 0, none⟩) 16 k0) (.slice (some ⟨y1, 0, none⟩) 11 k1) (.slice a2 n2 k2) (.slice a3 n3 k3) { H with pc := x5 }) := D6.out.turn t1 s1
      clear t1 s1
      have c6 := D7.out.var.cell 6 rfl
      have f6 := D7.out.var.free 6
      have D8 : Hid (Dh w (u7.setCell ⟨q, 6, none⟩ (.int .i64 x7)) b (k' + 1 + 1 + 5 + 1 + 1) a len cap zs R q (.slice (some ⟨y0, 0, none⟩) 16 k0) (.slice (some ⟨y1, 0, none⟩) 11 k1) (.slice a2 n2 k2) (.slice a3 n3 k3) { H with pc := x5, done := x7 }) := D7.out.fld 6 _ _ rfl rfl rfl rfl (D7.out.var.set 6 _)
      go_wp2_with fail
      generalize u7.setCell ⟨q, 6, none⟩ (.int .i64 x7) = u8 at *
      generalize ({ H with pc := x5, done := x7 } : Ht) = H8 at *
      clear c6 f6
      go_loopw [5] (fun kk wr => ∃ (j k9 : Nat) (H : Ht), j ≤ 11 ∧ kk = .int .i64 j ∧ k9 ≤ k + 400 + 20 * j ∧ Dh w wr b k9 a len cap zs R q (.slice (some ⟨y0, 0, none⟩) 16 k0) (.slice (some ⟨y1, 0, none⟩) 11 k1) (.slice a2 n2 k2) (.slice a3 n3 k3) H) (fun kk _ => 11 - (intOf kk).toNat)
      case atStart => exact ⟨0, _, H8, by omega, rfl, by have := KB.out; omega, D8.out⟩
      case round =>
        clear KB DD D1 D2 D3 D4 D5 D6 D7 D8
        obtain ⟨j, k', H, hj, rfl, hk', hD⟩ := hrel
        have DD : Hid (Dh w wr b k' a len cap zs R q (.slice (some ⟨y0, 0, none⟩) 16 k0) (.slice (some ⟨y1, 0, none⟩) 11 k1) (.slice a2 n2 k2) (.slice a3 n3 k3) H) := hD
        have KB : Hid (k' ≤ k + 400 + 20 * j ∧ j ≤ 11) := ⟨hk', hj⟩
        clear hD hk'
        by_cases hlt : j < 11
        · have hJ : (j : Int) < 11 := by omega
          have HL : Hid (j < 11) := hlt
          clear hlt hj
          go_wp2_with (go_at_call 32; refine (chance_any DD.out.src (by have := KB.out; have := HK.out; omega) _).mono ?_; rintro e u1 ⟨cv, rfl, t1, s1⟩; have D1 : Hid (Dh w u1 b (k' + 1) a len cap zs R q (.slice (some ⟨y0, 0, none⟩) 16 k0) (.slice (some ⟨y1, 0, none⟩) 11 k1) (.slice a2 n2 k2) (.slice a3 n3 k3) H) := DD.out.turn t1 s1; clear t1 s1; cases cv)
          · go_roundw
            case rel => exact ⟨j + 1, _, _, by have := HL.out; omega, by go_num, by have := KB.out; omega, D1.out⟩
            case measure => have := HL.out; simp [intOf]; omega
          · skip
            refine (next_any D1.out.src (by have := KB.out; have := HK.out; omega) _).mono ?_
            rintro e u2 ⟨x2, rfl, -, -, t1, s1⟩
            have D2 : Hid (Dh w u2 b (k' + 1 + 1) a len cap zs R q (.slice (some ⟨y0, 0, none⟩) 16 k0) (.slice (some ⟨y1, 0, none⟩) 11 k1) (.slice a2 n2 k2) (.slice a3 n3 k3) H) := D1.out.turn t1 s1
            clear t1 s1
            go_wp2_with fail
            refine (next_any D2.out.src (by have := KB.out; have := HK.out; omega) _).mono ?_
            rintro e u3 ⟨x3, rfl, -, -, t1, s1⟩
            have D3 : Hid (Dh w u3 b (k' + 1 + 1 + 1) a len cap zs R q (.slice (some ⟨y0, 0, none⟩) 16 k0) (.slice (some ⟨y1, 0, none⟩) 11 k1) (.slice a2 n2 k2) (.slice a3 n3 k3) H) := D2.out.turn t1 s1
            clear t1 s1
            go_wp2_with fail
            refine (word_any D3.out.src (by have := KB.out; have := HK.out; omega)).mono ?_
            rintro e u4 ⟨x4, rfl, -, t1, s1⟩
            have D4 : Hid (Dh w u4 b (k' + 1 + 1 + 1 + 5) a len cap zs R q (.slice (some ⟨y0, 0, none⟩) 16 k0) (.slice (some ⟨y1, 0, none⟩) 11 k1) (.slice a2 n2 k2) (.slice a3 n3 k3) H) := D3.out.turn t1 s1
            clear t1 s1
            have D5 : Hid (Dh w (u4.alloc (.cells #[.int .i64 x2, .int .i64 x3, .int .i64 x4] 2)) b (k' + 1 + 1 + 1 + 5) a len cap zs R q (.slice (some ⟨y0, 0, none⟩) 16 k0) (.slice (some ⟨y1, 0, none⟩) 11 k1) (.slice a2 n2 k2) (.slice a3 n3 k3) H) := D4.out.turn (Turn.alloc _ _ _) (D4.out.src.alloc _)
            go_wp2_with fail
            refine (pick_any D5.out.src (by have := KB.out; have := HK.out; omega) (fun _ => True) _ 3 (by decide) (by decide) (by simp) (by have := D4.out.src.here; omega) (three_at _ _ _ _ _)).mono ?_
            rintro e u6 ⟨x6, rfl, -, t1, s1⟩
            have D6 : Hid (Dh w u6 b (k' + 1 + 1 + 1 + 5 + 1) a len cap zs R q (.slice (some ⟨y0, 0, none⟩) 16 k0) (.slice (some ⟨y1, 0, none⟩) 11 k1) (.slice a2 n2 k2) (.slice a3 n3 k3) H) := D5.out.turn t1 s1
            clear t1 s1
            go_wp2_with fail
            refine (s_set_any q _ _ _ _ H (j : Int) x6 (R + 1) _ D6.out.m D6.out.ap D6.out.var D6.out.nq D6.out.c11 (by omega) (by have := HL.out; omega)).mono ?_
            rintro e u7 ⟨rfl, H', s7, h1, h2⟩
            have D7 : Hid (Dh w u7 b (k' + 1 + 1 + 1 + 5 + 1) a len cap zs R q (.slice (some ⟨y0, 0, none⟩) 16 k0) (.slice (some ⟨y1, 0, none⟩) 11 k1) (.slice a2 n2 k2) (.slice a3 n3 k3) H') := D6.out.sv s7 (h1.trans D6.out.r16) h2
            clear s7 h1 h2
            go_wp2_with fail
            go_roundw
            case rel => exact ⟨j + 1, _, _, by have := HL.out; omega, by go_num, by have := KB.out; omega, D7.out⟩
            case measure => have := HL.out; simp [intOf]; omega
        · have hJ : ¬ (j : Int) < 11 := by omega
          clear hlt hj
          go_wp2_with fail
          refine (chance_any DD.out.src (by have := KB.out; have := HK.out; omega) _).mono ?_
          rintro e p1 ⟨cv1, rfl, t1, s1⟩
          have E1 : Hid (Dh w p1 b (k' + 1) a len cap zs R q (.slice (some ⟨y0, 0, none⟩) 16 k0) (.slice (some ⟨y1, 0, none⟩) 11 k1) (.slice a2 n2 k2) (.slice a3 n3 k3) H) := DD.out.turn t1 s1
          clear t1 s1
          have c := E1.out.var.cell 5 rfl
          have f := E1.out.var.free 5
          have E2 : Hid (Dh w (p1.setCell ⟨q, 5, none⟩ (.bool cv1)) b (k' + 1) a len cap zs R q (.slice (some ⟨y0, 0, none⟩) 16 k0) (.slice (some ⟨y1, 0, none⟩) 11 k1) (.slice a2 n2 k2) (.slice a3 n3 k3) { H with rung := cv1 }) := E1.out.fld 5 _ _ rfl rfl rfl rfl (E1.out.var.set 5 _)
          go_wp2_with fail
          generalize p1.setCell ⟨q, 5, none⟩ (.bool cv1) = p2 at *
          clear c f
          refine (chance_any E2.out.src (by have := KB.out; have := HK.out; omega) _).mono ?_
          rintro e p3 ⟨cv2, rfl, t1, s1⟩
          have E3 : Hid (Dh w p3 b (k' + 1 + 1) a len cap zs R q (.slice (some ⟨y0, 0, none⟩) 16 k0) (.slice (some ⟨y1, 0, none⟩) 11 k1) (.slice a2 n2 k2) (.slice a3 n3 k3) { H with rung := cv1 }) := E2.out.turn t1 s1
          clear t1 s1
          have c := E3.out.var.cell 4 rfl
          have f := E3.out.var.free 4
          have E4 : Hid (Dh w (p3.setCell ⟨q, 4, none⟩ (.bool cv2)) b (k' + 1 + 1) a len cap zs R q (.slice (some ⟨y0, 0, none⟩) 16 k0) (.slice (some ⟨y1, 0, none⟩) 11 k1) (.slice a2 n2 k2) (.slice a3 n3 k3) { H with rung := cv1, waiting := cv2 }) := E3.out.fld 4 _ _ rfl rfl rfl rfl (E3.out.var.set 4 _)
          go_wp2_with fail
          generalize p3.setCell ⟨q, 4, none⟩ (.bool cv2) = p4 at *
          clear c f
          refine (chance_any E4.out.src (by have := KB.out; have := HK.out; omega) _).mono ?_
          rintro e p5 ⟨cv3, rfl, t1, s1⟩
          have E5 : Hid (Dh w p5 b (k' + 1 + 1 + 1) a len cap zs R q (.slice (some ⟨y0, 0, none⟩) 16 k0) (.slice (some ⟨y1, 0, none⟩) 11 k1) (.slice a2 n2 k2) (.slice a3 n3 k3) { H with rung := cv1, waiting := cv2 }) := E4.out.turn t1 s1
          clear t1 s1
          have c := E5.out.var.cell 3 rfl
          have f := E5.out.var.free 3
          have E6 : Hid (Dh w (p5.setCell ⟨q, 3, none⟩ (.bool cv3)) b (k' + 1 + 1 + 1) a len cap zs R q (.slice (some ⟨y0, 0, none⟩) 16 k0) (.slice (some ⟨y1, 0, none⟩) 11 k1) (.slice a2 n2 k2) (.slice a3 n3 k3) { H with rung := cv1, waiting := cv2, halted := cv3 }) := E5.out.fld 3 _ _ rfl rfl rfl rfl (E5.out.var.set 3 _)
          go_wp2_with fail
          generalize p5.setCell ⟨q, 3, none⟩ (.bool cv3) = p6 at *
          clear c f
          generalize ({ H with rung := cv1, waiting := cv2, halted := cv3 } : Ht) = G0 at *
          refine (chance_any E6.out.src (by have := KB.out; have := HK.out; omega) _).mono ?_
          rintro e p7 ⟨cv4, rfl, t1, s1⟩
          have E7 : Hid (Dh w p7 b (k' + 1 + 1 + 1 + 1) a len cap zs R q (.slice (some ⟨y0, 0, none⟩) 16 k0) (.slice (some ⟨y1, 0, none⟩) 11 k1) (.slice a2 n2 k2) (.slice a3 n3 k3) G0) := E6.out.turn t1 s1
          clear t1 s1
          cases cv4
          · obtain ⟨G, hG⟩ : ∃ G, G0 = G := ⟨_, rfl⟩
            rw [hG] at E7
            clear hG
            have l0 := E7.out.var.cell 0 rfl
            have r0 := E7.out.res.cell 0 rfl
            have f0 := E7.out.res.free 0
            have l1 := E7.out.var.cell 1 rfl
            have r1 := E7.out.res.cell 1 rfl
            have f1 := E7.out.res.free 1
            have l2 := E7.out.var.cell 2 rfl
            have r2 := E7.out.res.cell 2 rfl
            have f2 := E7.out.res.free 2
            have l3 := E7.out.var.cell 3 rfl
            have r3 := E7.out.res.cell 3 rfl
            have f3 := E7.out.res.free 3
            have l4 := E7.out.var.cell 4 rfl
            have r4 := E7.out.res.cell 4 rfl
            have f4 := E7.out.res.free 4
            have l5 := E7.out.var.cell 5 rfl
            have r5 := E7.out.res.cell 5 rfl
            have f5 := E7.out.res.free 5
            have l6 := E7.out.var.cell 6 rfl
            have r6 := E7.out.res.cell 6 rfl
            have f6 := E7.out.res.free 6
            have l7 := E7.out.var.cell 7 rfl
            have r7 := E7.out.res.cell 7 rfl
            have f7 := E7.out.res.free 7
            have l8 := E7.out.var.cell 8 rfl
            have r8 := E7.out.res.cell 8 rfl
            have f8 := E7.out.res.free 8
            have NN : Hid (_ ∧ _) := nine E7.out.res (.slice (some ⟨y0, 0, none⟩) 16 k0) (.int .i64 G.pc) (.slice (some ⟨y1, 0, none⟩) 11 k1) (.bool G.halted) (.bool G.waiting) (.bool G.rung) (.int .i64 G.done) (.slice a2 n2 k2) (.slice a3 n3 k3)
            go_wp2_with fail
            clear l0 r0 f0 l1 r1 f1 l2 r2 f2 l3 r3 f3 l4 r4 f4 l5 r5 f5 l6 r6 f6 l7 r7 f7 l8 r8 f8
            generalize (((((((((p7.setCell ⟨R, 0, none⟩ (.slice (some ⟨y0, 0, none⟩) 16 k0)).setCell ⟨R, 1, none⟩ (.int .i64 G.pc)).setCell ⟨R, 2, none⟩ (.slice (some ⟨y1, 0, none⟩) 11 k1)).setCell ⟨R, 3, none⟩ (.bool G.halted)).setCell ⟨R, 4, none⟩ (.bool G.waiting)).setCell ⟨R, 5, none⟩ (.bool G.rung)).setCell ⟨R, 6, none⟩ (.int .i64 G.done)).setCell ⟨R, 7, none⟩ (.slice a2 n2 k2)).setCell ⟨R, 8, none⟩ (.slice a3 n3 k3)) = V at *
            have x0 := NN.out.1.cell 0 rfl
            have x1 := NN.out.1.cell 1 rfl
            have x2 := NN.out.1.cell 2 rfl
            have x3 := NN.out.1.cell 3 rfl
            have x4 := NN.out.1.cell 4 rfl
            have x5 := NN.out.1.cell 5 rfl
            have x6 := NN.out.1.cell 6 rfl
            have x7 := NN.out.1.cell 7 rfl
            have x8 := NN.out.1.cell 8 rfl
            have hb := E7.out.hb
            have hRR := E7.out.hR
            have TV : Turn b w V := ⟨NN.out.2.os.trans E7.out.g.os, NN.out.2.tape.trans E7.out.g.tape, NN.out.2.output.trans E7.out.g.output, Nat.le_trans E7.out.g.size NN.out.2.size, fun x hx hn => (NN.out.2.block x (Nat.lt_of_lt_of_le hx E7.out.g.size) (by omega)).trans (E7.out.g.block x hx hn)⟩
            have MV := NN.out.2.hm E7.out.m (fun x e f => by have := (E7.out.m.own x e).1; omega)
            exact bodyPost_ret (v := .agg #[.slice (some ⟨y0, 0, none⟩) 16 k0, .int .i64 G.pc, .slice (some ⟨y1, 0, none⟩) 11 k1, .bool G.halted, .bool G.waiting, .bool G.rung, .int .i64 G.done, .slice a2 n2 k2, .slice a3 n3 k3]) (by simp [results, Try.results56, go_sem, x0, x1, x2, x3, x4, x5, x6, x7, x8]) rfl
              ⟨_, _, _, _, G, rfl, MV.mono (by omega), E7.out.ap, E7.out.r16, E7.out.c11, TV, _, by have := KB.out; omega, src_mq E7.out.src NN.out.2 hb⟩
          · obtain ⟨ti, hi, hz0, hz1, hz2⟩ := info_parts info_i64
            go_upto_region 19 with (at_make; refine wpList_make_full _ rfl _ _ 24 rfl p7.heap.size 2 ti _ 1 Try.underlying24 hi hz0 hz1 _ _ _ _ 40 rfl rfl rfl rfl (by rw [hz2]; omega) (by unfold maxLen; omega) (Nat.le_refl _) ?_; intro p8 hown hgrow; have bl : Below p7.heap.size p7 p8 := (Below.refl _ _).grown hgrow (Nat.le_refl _) (by simp); have c8 := (E7.out.var.keep bl).cell 8 rfl; have f8 := (E7.out.var.keep bl).free 8)
            have NO : Nums p8 p7.heap.size (.slice (some ⟨p7.heap.size, 0, none⟩) 40 40) (List.replicate 40 0) := Nums.made hown (by rw [Nat.mul_one, show (Value.int .i64 0).cells = #[.int .i64 0] from rfl, toList_madeCells_one]; simp)
            obtain ⟨py, hpy⟩ : ∃ py, p7.heap.size = py := ⟨_, rfl⟩
            have E8 := E7.out.newOut NO bl
            rw [hpy] at E8
            obtain ⟨G, hG⟩ : ∃ G, ({ G0 with out := List.replicate 40 0 } : Ht) = G := ⟨_, rfl⟩
            rw [hG] at E8
            have E9 : Hid (Dh w _ b _ a len cap zs R q _ _ _ _ G) := E8
            first | rw [hpy] | skip
            clear hown hgrow c8 f8 NO hi hz0 hz1 hz2 bl E8 hG hpy
            generalize p8.setCell ⟨q, 8, none⟩ (.slice (some ⟨py, 0, none⟩) 40 40) = p9 at *
            have l0 := E9.out.var.cell 0 rfl
            have r0 := E9.out.res.cell 0 rfl
            have f0 := E9.out.res.free 0
            have l1 := E9.out.var.cell 1 rfl
            have r1 := E9.out.res.cell 1 rfl
            have f1 := E9.out.res.free 1
            have l2 := E9.out.var.cell 2 rfl
            have r2 := E9.out.res.cell 2 rfl
            have f2 := E9.out.res.free 2
            have l3 := E9.out.var.cell 3 rfl
            have r3 := E9.out.res.cell 3 rfl
            have f3 := E9.out.res.free 3
            have l4 := E9.out.var.cell 4 rfl
            have r4 := E9.out.res.cell 4 rfl
            have f4 := E9.out.res.free 4
            have l5 := E9.out.var.cell 5 rfl
            have r5 := E9.out.res.cell 5 rfl
            have f5 := E9.out.res.free 5
            have l6 := E9.out.var.cell 6 rfl
            have r6 := E9.out.res.cell 6 rfl
            have f6 := E9.out.res.free 6
            have l7 := E9.out.var.cell 7 rfl
            have r7 := E9.out.res.cell 7 rfl
            have f7 := E9.out.res.free 7
            have l8 := E9.out.var.cell 8 rfl
            have r8 := E9.out.res.cell 8 rfl
            have f8 := E9.out.res.free 8
            have NN : Hid (_ ∧ _) := nine E9.out.res (.slice (some ⟨y0, 0, none⟩) 16 k0) (.int .i64 G.pc) (.slice (some ⟨y1, 0, none⟩) 11 k1) (.bool G.halted) (.bool G.waiting) (.bool G.rung) (.int .i64 G.done) (.slice a2 n2 k2) (.slice (some ⟨py, 0, none⟩) 40 40)
            go_wp2_with fail
            clear l0 r0 f0 l1 r1 f1 l2 r2 f2 l3 r3 f3 l4 r4 f4 l5 r5 f5 l6 r6 f6 l7 r7 f7 l8 r8 f8
            generalize (((((((((p9.setCell ⟨R, 0, none⟩ (.slice (some ⟨y0, 0, none⟩) 16 k0)).setCell ⟨R, 1, none⟩ (.int .i64 G.pc)).setCell ⟨R, 2, none⟩ (.slice (some ⟨y1, 0, none⟩) 11 k1)).setCell ⟨R, 3, none⟩ (.bool G.halted)).setCell ⟨R, 4, none⟩ (.bool G.waiting)).setCell ⟨R, 5, none⟩ (.bool G.rung)).setCell ⟨R, 6, none⟩ (.int .i64 G.done)).setCell ⟨R, 7, none⟩ (.slice a2 n2 k2)).setCell ⟨R, 8, none⟩ (.slice (some ⟨py, 0, none⟩) 40 40)) = V at *
            have x0 := NN.out.1.cell 0 rfl
            have x1 := NN.out.1.cell 1 rfl
            have x2 := NN.out.1.cell 2 rfl
            have x3 := NN.out.1.cell 3 rfl
            have x4 := NN.out.1.cell 4 rfl
            have x5 := NN.out.1.cell 5 rfl
            have x6 := NN.out.1.cell 6 rfl
            have x7 := NN.out.1.cell 7 rfl
            have x8 := NN.out.1.cell 8 rfl
            have hb := E9.out.hb
            have hRR := E9.out.hR
            have TV : Turn b w V := ⟨NN.out.2.os.trans E9.out.g.os, NN.out.2.tape.trans E9.out.g.tape, NN.out.2.output.trans E9.out.g.output, Nat.le_trans E9.out.g.size NN.out.2.size, fun x hx hn => (NN.out.2.block x (Nat.lt_of_lt_of_le hx E9.out.g.size) (by omega)).trans (E9.out.g.block x hx hn)⟩
            have MV := NN.out.2.hm E9.out.m (fun x e f => by have := (E9.out.m.own x e).1; omega)
            exact bodyPost_ret (v := .agg #[.slice (some ⟨y0, 0, none⟩) 16 k0, .int .i64 G.pc, .slice (some ⟨y1, 0, none⟩) 11 k1, .bool G.halted, .bool G.waiting, .bool G.rung, .int .i64 G.done, .slice a2 n2 k2, .slice (some ⟨py, 0, none⟩) 40 40]) (by simp [results, Try.results56, go_sem, x0, x1, x2, x3, x4, x5, x6, x7, x8]) rfl
              ⟨_, _, _, _, G, rfl, MV.mono (by omega), E9.out.ap, E9.out.r16, E9.out.c11, TV, _, by have := KB.out; omega, src_mq E9.out.src NN.out.2 hb⟩
end Go.Proofs.Ytgjpfmcokcjegaa
