/- Texts of this seat, joined. -/
import Derived.Test.YtgjpfmcokcjegaaQ44
namespace Go.Proofs.Ytgjpfmcokcjegaa
open Go.RowKit
set_option linter.unusedVariables false
theorem lits_at (w : World) (l : List Int) (t : TypeId) {m : Nat} (hm : m = l.length) : ∀ i, i < m → ∃ v : Int, (w.alloc (.cells (l.map (Value.int .i64)).toArray t)).cell? ⟨w.heap.size, i, none⟩ = some (.int .i64 v) ∧ True := by
  intro i hi
  subst hm
  exact ⟨l[i], cell_new (by simp), trivial⟩
theorem lits_turn {w w' : World} {b bl m : Nat} (t : Turn b w w') (hne : bl ≠ b) (h : ∀ i, i < m → ∃ v : Int, w.cell? ⟨bl, i, none⟩ = some (.int .i64 v) ∧ True) : ∀ i, i < m → ∃ v : Int, w'.cell? ⟨bl, i, none⟩ = some (.int .i64 v) ∧ True := by
  intro i hi
  obtain ⟨v, hv, -⟩ := h i hi
  refine ⟨v, ?_, trivial⟩
  have hl : bl < w.heap.size := block_of_cell hv
  have hb := t.block bl hl hne
  unfold World.cell? at *
  show (match w'.heap[bl]? with | _ => _) = _
  rw [hb]
  exact hv
theorem Dh.csr {w0 v : World} {b k : Nat} {a : Option Addr} {len cap : Nat} {zs : List Int} {R q y kr : Nat} {r i o : Value} {H : Ht} (h : Dh w0 v b k a len cap zs R q r (.slice (some ⟨y, 0, none⟩) 11 kr) i o H) (n : Nat) (u : Int) :
    Dh w0 (v.setCell ⟨y, n, none⟩ (.int .i64 u)) b k a len cap zs R q r (.slice (some ⟨y, 0, none⟩) 11 kr) i o { H with csr := H.csr.set n u } := by
  have hy := (h.m.c.lt y rfl).1
  have hb := h.hb; have hR := h.hR
  exact ⟨src_put h.src _ _ (by show b < y; omega), ⟨h.m.r.put _ _ (apt_ne h.ap.rc.swap rfl), (h.m.c.store n u).1, h.m.i.put _ _ (apt_ne h.ap.ci rfl), h.m.o.put _ _ (apt_ne h.ap.co rfl)⟩, h.ap, h.var.put _ _ (fun e => h.nq y (.inr (.inl rfl)) e.symm), h.res.put _ _ (by show R ≠ y; omega), turn_put h.g _ _ (by show w0.heap.size ≤ y; omega), h.nq, h.hb, h.hq, h.hR, h.r16, by simpa using h.c11⟩
theorem Dh.newIn {w0 v v' : World} {b k : Nat} {a : Option Addr} {len cap : Nat} {zs : List Int} {R q : Nat} {r c i o i' : Value} {H : Ht} {ys : List Int} (h : Dh w0 v b k a len cap zs R q r c i o H) (n : Nums v' v.heap.size i' ys) (bl : Below v.heap.size v v') :
    Dh w0 (v'.setCell ⟨q, 7, none⟩ i') b k a len cap zs R q r c i' o { H with inn := ys } := by
  have hb := h.hb; have hq := h.hq; have hR := h.hR
  have hql := h.var.lt
  have m := h.m.keep bl
  have nq : ∀ x, Own4 r c i' o x → x ≠ q := fun x e => by
    rcases e with e | e | e | e
    · exact h.nq x (.inl e)
    · exact h.nq x (.inr (.inl e))
    · have := (n.lt x e).1; omega
    · exact h.nq x (.inr (.inr (.inr e)))
  exact ⟨src_put (h.src.turn (Turn.of_below (b := v.heap.size) bl) (Nat.le_refl _)) _ _ (by show b < q; omega), ⟨m.r.put _ _ (fun e => nq q (.inl e) rfl), m.c.put _ _ (fun e => nq q (.inr (.inl e)) rfl), (n.put _ _ (fun e => nq q (.inr (.inr (.inl e))) rfl)).mono (by omega), m.o.put _ _ (fun e => nq q (.inr (.inr (.inr e))) rfl)⟩,
    ⟨h.ap.rc, h.m.r.apt n (Nat.le_refl _), h.ap.ro, h.m.c.apt n (Nat.le_refl _), h.ap.co, (h.m.o.apt n (Nat.le_refl _)).swap⟩, (h.var.keep bl).set 7 _, (h.res.keep bl).put _ _ (by show R ≠ q; omega), turn_put (h.g.trans (Turn.of_below bl)) _ _ (by show w0.heap.size ≤ q; omega), nq, h.hb, h.hq, h.hR, h.r16, h.c11⟩
set_option maxRecDepth 20000 in
set_option maxHeartbeats 16000000 in
theorem hbent_csr {w : World} {b k : Nat} {a : Option Addr} {len cap : Nat} {zs : List Int} (s : Src w b k a len cap zs) (hk : k ≤ 40000) :
    Calls Try.prog 30 #[.pointer (some ⟨b, 0, none⟩)] w fun e w' => ∃ a0 m0 k0 a1 m1 k1 a2 m2 k2 a3 m3 k3 H, e = .returned (.agg #[.slice a0 m0 k0, .int .i64 H.pc, .slice a1 m1 k1, .bool H.halted, .bool H.waiting, .bool H.rung, .int .i64 H.done, .slice a2 m2 k2, .slice a3 m3 k3]) ∧ ((Hm w' w.heap.size (.slice a0 m0 k0) (.slice a1 m1 k1) (.slice a2 m2 k2) (.slice a3 m3 k3) H ∧ Ha (.slice a0 m0 k0) (.slice a1 m1 k1) (.slice a2 m2 k2) (.slice a3 m3 k3)) ∨ (m0 = 15 ∧ m1 = 11 ∧ ∃ y, a1 = some ⟨y, 0, none⟩ ∧ H.csr.length = 11 ∧ Nums w' w.heap.size (.slice (some ⟨y, 0, none⟩) 11 k1) H.csr)) ∧ Turn b w w' ∧ ∃ k', k' ≤ k + 1100 ∧ Src w' b k' a len cap zs := by
  have HK : Hid (k ≤ 40000) := hk
  obtain ⟨R, hR⟩ : ∃ R, w.heap.size = R := ⟨_, rfl⟩
  have HR : Hid (w.heap.size = R) := hR
  have BR : Hid (b < R) := by show _ < _; rw [← hR]; exact s.here
  generalize hW : w.alloc (.cells #[.slice none 0 0, .int .i64 0, .slice none 0 0, .bool false, .bool false, .bool false, .int .i64 0, .slice none 0 0, .slice none 0 0] 26) = W
  have VR : Hid (Vb W R #[.slice none 0 0, .int .i64 0, .slice none 0 0, .bool false, .bool false, .bool false, .int .i64 0, .slice none 0 0, .slice none 0 0] 26) := by show Vb _ _ _ _; rw [← hW, ← hR]; exact Vb.new _ _ _
  have SW : Hid (Src W b k a len cap zs) := by show Src _ _ _ _ _ _ _; rw [← hW]; exact s.alloc _
  have TW : Hid (Turn b w W) := by show Turn _ _ _; rw [← hW]; exact Turn.alloc _ _ _
  clear s
  go_enter Try.func30, Try.ntmps30
  go_wp2_with fail
  clear hW hR
  refine (hart_any SW.out (by have := HK.out; omega)).mono ?_
  rintro e w2 ⟨r, c, i, o, H, rfl, m2, A2, h16, h11, t2, k', hk', s2⟩
  obtain ⟨a0, k0, rfl, hk00, _, g0⟩ := m2.r.shape
  obtain ⟨a1, k1, rfl, _, _, g1⟩ := m2.c.shape
  obtain ⟨a2, k2, rfl, _⟩ := m2.i.shape
  obtain ⟨a3, k3, rfl, _⟩ := m2.o.shape
  obtain ⟨y0, rfl⟩ := g0 (by omega)
  obtain ⟨y1, rfl⟩ := g1 (by omega)
  rw [h16] at m2 A2 hk00 ⊢
  rw [h11] at m2 A2 ⊢
  generalize H.inn.length = n2 at *
  generalize H.out.length = n3 at *
  have KB : Hid (k' ≤ k + 1000) := hk'
  obtain ⟨q, hq⟩ : ∃ q, w2.heap.size = q := ⟨_, rfl⟩
  have D0 : Hid (Dh w (w2.alloc (.cells #[.slice (some ⟨y0, 0, none⟩) 16 k0, .int .i64 H.pc, .slice (some ⟨y1, 0, none⟩) 11 k1, .bool H.halted, .bool H.waiting, .bool H.rung, .int .i64 H.done, .slice a2 n2 k2, .slice a3 n3 k3] 26)) b (k') a len cap zs R q (.slice (some ⟨y0, 0, none⟩) 16 k0) (.slice (some ⟨y1, 0, none⟩) 11 k1) (.slice a2 n2 k2) (.slice a3 n3 k3) H) := by
    have hRR := HR.out; have hBR := BR.out; have hl := VR.out.lt; have ht := t2.size
    refine ⟨s2.alloc _, (m2.keep (al (Below.refl _ _) _)).mono (by omega), A2, by rw [← hq]; exact Vb.new _ _ _, ((turn_mq t2).vb VR.out (by omega)).push _, (TW.out.trans t2).trans (Turn.alloc _ _ _), fun x e f => by have := (m2.own x e).2; omega, hBR, by omega, by omega, h16, h11⟩
  have K0 : Hid (16 ≤ k0) := hk00
  clear m2 A2 h16 h11 t2 hk' s2 g0 g1
  go_wp2_with fail
  generalize w2.alloc (.cells #[.slice (some ⟨y0, 0, none⟩) 16 k0, .int .i64 H.pc, .slice (some ⟨y1, 0, none⟩) 11 k1, .bool H.halted, .bool H.waiting, .bool H.rung, .int .i64 H.done, .slice a2 n2 k2, .slice a3 n3 k3] 26) = W2 at *
  clear hq
  refine (next_any D0.out.src (by have := KB.out; have := HK.out; omega) _).mono ?_
  rintro e u1 ⟨x1, rfl, hx1, -, t1, s1⟩
  have D1 : Hid (Dh w u1 b (k' + 1) a len cap zs R q (.slice (some ⟨y0, 0, none⟩) 16 k0) (.slice (some ⟨y1, 0, none⟩) 11 k1) (.slice a2 n2 k2) (.slice a3 n3 k3) H) := D0.out.turn t1 s1
  clear t1 s1 hx1
  by_cases e0 : x1 = 0
  · subst e0
    have c := D1.out.m.r.cell D1.out.r16.symm 0 (by decide)
    have f := D1.out.m.r.free D1.out.r16.symm 0
    have v0 := D1.out.var.cell 0 rfl
    have D4 : Hid (Dh w (u1.setCell ⟨y0, 0, none⟩ (.int .i64 1)) b (k' + 1) a len cap zs R q (.slice (some ⟨y0, 0, none⟩) 16 k0) (.slice (some ⟨y1, 0, none⟩) 11 k1) (.slice a2 n2 k2) (.slice a3 n3 k3) { H with regs := H.regs.set 0 1 }) := D1.out.reg 0 1
    go_upto_region 15 with fail
    generalize u1.setCell ⟨y0, 0, none⟩ (.int .i64 1) = u4 at *
    clear c f v0
    obtain ⟨G, hG⟩ : ∃ G, ({ H with regs := H.regs.set 0 1 } : Ht) = G := ⟨_, rfl⟩
    rw [hG] at D4
    clear hG
    have l0 := D4.out.var.cell 0 rfl
    have r0 := D4.out.res.cell 0 rfl
    have f0 := D4.out.res.free 0
    have l1 := D4.out.var.cell 1 rfl
    have r1 := D4.out.res.cell 1 rfl
    have f1 := D4.out.res.free 1
    have l2 := D4.out.var.cell 2 rfl
    have r2 := D4.out.res.cell 2 rfl
    have f2 := D4.out.res.free 2
    have l3 := D4.out.var.cell 3 rfl
    have r3 := D4.out.res.cell 3 rfl
    have f3 := D4.out.res.free 3
    have l4 := D4.out.var.cell 4 rfl
    have r4 := D4.out.res.cell 4 rfl
    have f4 := D4.out.res.free 4
    have l5 := D4.out.var.cell 5 rfl
    have r5 := D4.out.res.cell 5 rfl
    have f5 := D4.out.res.free 5
    have l6 := D4.out.var.cell 6 rfl
    have r6 := D4.out.res.cell 6 rfl
    have f6 := D4.out.res.free 6
    have l7 := D4.out.var.cell 7 rfl
    have r7 := D4.out.res.cell 7 rfl
    have f7 := D4.out.res.free 7
    have l8 := D4.out.var.cell 8 rfl
    have r8 := D4.out.res.cell 8 rfl
    have f8 := D4.out.res.free 8
    have NN : Hid (_ ∧ _) := nine D4.out.res (.slice (some ⟨y0, 0, none⟩) 16 k0) (.int .i64 G.pc) (.slice (some ⟨y1, 0, none⟩) 11 k1) (.bool G.halted) (.bool G.waiting) (.bool G.rung) (.int .i64 G.done) (.slice a2 n2 k2) (.slice a3 n3 k3)
    go_wp2_with fail
    clear l0 r0 f0 l1 r1 f1 l2 r2 f2 l3 r3 f3 l4 r4 f4 l5 r5 f5 l6 r6 f6 l7 r7 f7 l8 r8 f8
    generalize (((((((((u4.setCell ⟨R, 0, none⟩ (.slice (some ⟨y0, 0, none⟩) 16 k0)).setCell ⟨R, 1, none⟩ (.int .i64 G.pc)).setCell ⟨R, 2, none⟩ (.slice (some ⟨y1, 0, none⟩) 11 k1)).setCell ⟨R, 3, none⟩ (.bool G.halted)).setCell ⟨R, 4, none⟩ (.bool G.waiting)).setCell ⟨R, 5, none⟩ (.bool G.rung)).setCell ⟨R, 6, none⟩ (.int .i64 G.done)).setCell ⟨R, 7, none⟩ (.slice a2 n2 k2)).setCell ⟨R, 8, none⟩ (.slice a3 n3 k3)) = V at *
    have x0 := NN.out.1.cell 0 rfl
    have x1 := NN.out.1.cell 1 rfl
    have x2 := NN.out.1.cell 2 rfl
    have x3 := NN.out.1.cell 3 rfl
    have x4 := NN.out.1.cell 4 rfl
    have x5 := NN.out.1.cell 5 rfl
    have x6 := NN.out.1.cell 6 rfl
    have x7 := NN.out.1.cell 7 rfl
    have x8 := NN.out.1.cell 8 rfl
    have hb := D4.out.hb
    have hRR := D4.out.hR
    have hg := D4.out.g.size
    have TV : Turn b w V := ⟨NN.out.2.os.trans D4.out.g.os, NN.out.2.tape.trans D4.out.g.tape, NN.out.2.output.trans D4.out.g.output, Nat.le_trans D4.out.g.size NN.out.2.size, fun x hx hn => (NN.out.2.block x (Nat.lt_of_lt_of_le hx D4.out.g.size) (by omega)).trans (D4.out.g.block x hx hn)⟩
    have MV := NN.out.2.hm D4.out.m (fun x e f => by have := (D4.out.m.own x e).1; omega)
    exact bodyPost_ret (v := .agg #[.slice (some ⟨y0, 0, none⟩) 16 k0, .int .i64 G.pc, .slice (some ⟨y1, 0, none⟩) 11 k1, .bool G.halted, .bool G.waiting, .bool G.rung, .int .i64 G.done, .slice a2 n2 k2, .slice a3 n3 k3]) (by simp [results, Try.results30, go_sem, x0, x1, x2, x3, x4, x5, x6, x7, x8]) rfl
      ⟨_, _, _, _, _, _, _, _, _, _, _, _, G, rfl, .inl ⟨MV.mono (by omega), D4.out.ap⟩, TV, _, by have := KB.out; omega, src_mq D4.out.src NN.out.2 hb⟩
  by_cases e1 : x1 = 1
  · subst e1
    have v0 := D1.out.var.cell 0 rfl
    have f0 := D1.out.var.free 0
    have hk0 : 16 ≤ k0 := K0.out
    have hRq := D1.out.hq
    have hbR := D1.out.hb
    have hRw := D1.out.hR
    have QV : Hid (Vb (u1.setCell ⟨q, 0, none⟩ (.slice (some ⟨y0, 1, none⟩) 15 (k0 - 1))) q #[.slice (some ⟨y0, 1, none⟩) 15 (k0 - 1), .int .i64 H.pc, .slice (some ⟨y1, 0, none⟩) 11 k1, .bool H.halted, .bool H.waiting, .bool H.rung, .int .i64 H.done, .slice a2 n2 k2, .slice a3 n3 k3] 26) := D1.out.var.set 0 _
    have QR : Hid (Vb (u1.setCell ⟨q, 0, none⟩ (.slice (some ⟨y0, 1, none⟩) 15 (k0 - 1))) R #[.slice none 0 0, .int .i64 0, .slice none 0 0, .bool false, .bool false, .bool false, .int .i64 0, .slice none 0 0, .slice none 0 0] 26) := D1.out.res.put _ _ (by show R ≠ q; omega)
    have QG : Hid (Turn b w (u1.setCell ⟨q, 0, none⟩ (.slice (some ⟨y0, 1, none⟩) 15 (k0 - 1)))) := turn_put D1.out.g _ _ (by show w.heap.size ≤ q; omega)
    have QC : Hid (Nums (u1.setCell ⟨q, 0, none⟩ (.slice (some ⟨y0, 1, none⟩) 15 (k0 - 1))) (R + 1) (.slice (some ⟨y1, 0, none⟩) 11 k1) H.csr) := D1.out.m.c.put _ _ (fun e => D1.out.nq q (.inr (.inl e)) rfl)
    have QL : Hid (H.csr.length = 11) := D1.out.c11
    have QS : Hid (Src (u1.setCell ⟨q, 0, none⟩ (.slice (some ⟨y0, 1, none⟩) 15 (k0 - 1))) b (k' + 1) a len cap zs) := src_put D1.out.src _ _ (by show b < q; omega)
    clear hRq hbR hRw
    go_upto_region 15 with fail
    generalize u1.setCell ⟨q, 0, none⟩ (.slice (some ⟨y0, 1, none⟩) 15 (k0 - 1)) = u4 at *
    clear v0 f0 hk0
    obtain ⟨G, hG⟩ : ∃ G, (H : Ht) = G := ⟨_, rfl⟩
    rw [hG] at QV QC QL
    clear hG
    have l0 := QV.out.cell 0 rfl
    have r0 := QR.out.cell 0 rfl
    have f0 := QR.out.free 0
    have l1 := QV.out.cell 1 rfl
    have r1 := QR.out.cell 1 rfl
    have f1 := QR.out.free 1
    have l2 := QV.out.cell 2 rfl
    have r2 := QR.out.cell 2 rfl
    have f2 := QR.out.free 2
    have l3 := QV.out.cell 3 rfl
    have r3 := QR.out.cell 3 rfl
    have f3 := QR.out.free 3
    have l4 := QV.out.cell 4 rfl
    have r4 := QR.out.cell 4 rfl
    have f4 := QR.out.free 4
    have l5 := QV.out.cell 5 rfl
    have r5 := QR.out.cell 5 rfl
    have f5 := QR.out.free 5
    have l6 := QV.out.cell 6 rfl
    have r6 := QR.out.cell 6 rfl
    have f6 := QR.out.free 6
    have l7 := QV.out.cell 7 rfl
    have r7 := QR.out.cell 7 rfl
    have f7 := QR.out.free 7
    have l8 := QV.out.cell 8 rfl
    have r8 := QR.out.cell 8 rfl
    have f8 := QR.out.free 8
    have NN : Hid (_ ∧ _) := nine QR.out (.slice (some ⟨y0, 1, none⟩) 15 (k0 - 1)) (.int .i64 G.pc) (.slice (some ⟨y1, 0, none⟩) 11 k1) (.bool G.halted) (.bool G.waiting) (.bool G.rung) (.int .i64 G.done) (.slice a2 n2 k2) (.slice a3 n3 k3)
    go_wp2_with fail
    clear l0 r0 f0 l1 r1 f1 l2 r2 f2 l3 r3 f3 l4 r4 f4 l5 r5 f5 l6 r6 f6 l7 r7 f7 l8 r8 f8
    generalize (((((((((u4.setCell ⟨R, 0, none⟩ (.slice (some ⟨y0, 1, none⟩) 15 (k0 - 1))).setCell ⟨R, 1, none⟩ (.int .i64 G.pc)).setCell ⟨R, 2, none⟩ (.slice (some ⟨y1, 0, none⟩) 11 k1)).setCell ⟨R, 3, none⟩ (.bool G.halted)).setCell ⟨R, 4, none⟩ (.bool G.waiting)).setCell ⟨R, 5, none⟩ (.bool G.rung)).setCell ⟨R, 6, none⟩ (.int .i64 G.done)).setCell ⟨R, 7, none⟩ (.slice a2 n2 k2)).setCell ⟨R, 8, none⟩ (.slice a3 n3 k3)) = V at *
    have x0 := NN.out.1.cell 0 rfl
    have x1 := NN.out.1.cell 1 rfl
    have x2 := NN.out.1.cell 2 rfl
    have x3 := NN.out.1.cell 3 rfl
    have x4 := NN.out.1.cell 4 rfl
    have x5 := NN.out.1.cell 5 rfl
    have x6 := NN.out.1.cell 6 rfl
    have x7 := NN.out.1.cell 7 rfl
    have x8 := NN.out.1.cell 8 rfl
    have hb := D1.out.hb
    have hRR := D1.out.hR
    have hg := QG.out.size
    have TV : Turn b w V := ⟨NN.out.2.os.trans QG.out.os, NN.out.2.tape.trans QG.out.tape, NN.out.2.output.trans QG.out.output, Nat.le_trans QG.out.size NN.out.2.size, fun x hx hn => (NN.out.2.block x (Nat.lt_of_lt_of_le hx QG.out.size) (by omega)).trans (QG.out.block x hx hn)⟩
    exact bodyPost_ret (v := .agg #[.slice (some ⟨y0, 1, none⟩) 15 (k0 - 1), .int .i64 G.pc, .slice (some ⟨y1, 0, none⟩) 11 k1, .bool G.halted, .bool G.waiting, .bool G.rung, .int .i64 G.done, .slice a2 n2 k2, .slice a3 n3 k3]) (by simp [results, Try.results30, go_sem, x0, x1, x2, x3, x4, x5, x6, x7, x8]) rfl
      ⟨_, _, _, _, _, _, _, _, _, _, _, _, G, rfl, .inr ⟨rfl, rfl, y1, rfl, QL.out, (NN.out.2.nums QC.out (fun x e f => by have := (QC.out.lt x e).1; omega)).mono (by omega)⟩, TV, _, by have := KB.out; omega, src_mq QS.out NN.out.2 hb⟩
  by_cases e2 : x1 = 2
  · subst e2
    go_upto_region 8 with fail
    have DR : Hid (Dh w u1.drew b (k' + 1) a len cap zs R q (.slice (some ⟨y0, 0, none⟩) 16 k0) (.slice (some ⟨y1, 0, none⟩) 11 k1) (.slice a2 n2 k2) (.slice a3 n3 k3) H) := D1.out.turn (Turn.of_below (Below.refl _ _).drew) (D1.out.src.turn (Turn.of_below (b := u1.heap.size) (Below.refl _ _).drew) (Nat.le_refl _))
    refine wp_region_held (S := fun w' => w'.cell? ⟨q, 2, none⟩ = some (.slice (some ⟨y1, 0, none⟩) 11 k1)) (by kernel_rfl) ?_
    change wpAnyH _ _ _ _ _ _ _ _ (World.drew _)
    generalize u1.drew = v1 at *
    have SD : Hid (v1.cell? ⟨q, 2, none⟩ = some (.slice (some ⟨y1, 0, none⟩) 11 k1)) := DR.out.var.cell 2 rfl
    refine wpTk (i := 0) (v := .pointer (some ⟨q, 2, none⟩)) rfl (Or.inl ⟨by rfl, fun w' hs => by go_simp⟩) SD.out ?_
    change wpAnyH _ _ _ _ _ _ _ (Act.put _ (some 21) _) _
    simp only [Act.put, zT, zZ, zS]
    refine wpTk (i := 1) (v := (.slice (some ⟨y1, 0, none⟩) 11 k1)) rfl (Or.inl ⟨by rfl, fun w' hs => by go_simp⟩) SD.out ?_
    change wpAnyH _ _ _ _ _ _ _ (Act.put _ (some 22) _) _
    simp only [Act.put, zT, zZ, zS]
    refine wpTk (i := 2) (v := .pointer (some ⟨b, 0, none⟩)) rfl (Or.inl ⟨by rfl, fun w' hs => by go_simp⟩) SD.out ?_
    change wpAnyH _ _ _ _ _ _ _ (Act.put _ (some 23) _) _
    simp only [Act.put, zT, zZ, zS]
    refine wpTk (i := 4) (v := .pointer (some ⟨b, 0, none⟩)) rfl (Or.inl ⟨by rfl, fun w' hs => by go_simp⟩) SD.out ?_
    change wpAnyH _ _ _ _ _ _ _ (Act.put _ (some 25) _) _
    simp only [Act.put, zT, zZ, zS]
    clear SD
    refine wpAnyH_ready (rs := [3, 5]) (by kernel_rfl) (by simp) ?_
    refine AllReadyH.cons rfl (fun K hK => ?_) (AllReadyH.cons rfl (fun K hK => ?_) AllReadyH.nil)
    · skip
      rw [if_pos (by rfl)]
      go_simp
      refine (next_any DR.out.src (by have := KB.out; have := HK.out; omega) _).mono ?_
      rintro e u2 ⟨x2, rfl, hx2, -, t1, s1⟩
      obtain ⟨x20, x21⟩ := hx2 (by decide)
      obtain ⟨n, rfl⟩ := Int.eq_ofNat_of_zero_le x20
      have HN : Hid (n < 11) := by show _ < _; omega
      have hn11 : (n : Int) < 11 := by have := HN.out; omega
      have D2 : Hid (Dh w u2 b (k' + 1 + 1) a len cap zs R q (.slice (some ⟨y0, 0, none⟩) 16 k0) (.slice (some ⟨y1, 0, none⟩) 11 k1) (.slice a2 n2 k2) (.slice a3 n3 k3) H) := DR.out.turn t1 s1
      clear t1 s1 hx2 x20 x21
      refine hK.out _ _ (D2.out.var.cell 2 rfl) (fun _ => ?_)
      clear hK K
      refine zR 5 rfl fun K hK => ?_
      rw [if_pos (by rfl)]
      go_simp
      have D3 : Hid (Dh w (u2.alloc (.cells #[.int .i64 (-1), .int .i64 4, .int .i64 9, .int .i64 4294967296] 2)) b (k' + 1 + 1) a len cap zs R q (.slice (some ⟨y0, 0, none⟩) 16 k0) (.slice (some ⟨y1, 0, none⟩) 11 k1) (.slice a2 n2 k2) (.slice a3 n3 k3) H) := D2.out.turn (Turn.alloc _ _ _) (D2.out.src.alloc _)
      refine hK.out _ _ (D3.out.var.cell 2 rfl) (fun _ => ?_)
      clear hK K
      refine zR 6 rfl fun K hK => ?_
      rw [if_pos (by rfl)]
      go_simp
      refine (pick_any D3.out.src (by have := KB.out; have := HK.out; omega) (fun _ => True) _ 4 (by decide) (by decide) (by simp) (by have := D2.out.src.here; omega) (lits_at _ [-1, 4, 9, 4294967296] _ rfl)).mono ?_
      rintro e u6 ⟨x6, rfl, -, t1, s1⟩
      have D6 : Hid (Dh w u6 b (k' + 1 + 1 + 1) a len cap zs R q (.slice (some ⟨y0, 0, none⟩) 16 k0) (.slice (some ⟨y1, 0, none⟩) 11 k1) (.slice a2 n2 k2) (.slice a3 n3 k3) H) := D3.out.turn t1 s1
      clear t1 s1
      refine hK.out _ _ (D6.out.var.cell 2 rfl) (fun _ => ?_)
      clear hK K
      refine wpTk (i := 7) (v := .pointer (some ⟨y1, n, none⟩)) rfl (Or.inl ⟨by rfl, fun w' hs => by go_simp⟩) (D6.out.var.cell 2 rfl) ?_
      change wpAnyH _ _ _ _ _ _ _ (Act.put _ (some 28) _) _
      simp only [Act.put, zT, zZ, zS]
      have cj := D6.out.m.c.cell D6.out.c11.symm n HN.out
      have fj := D6.out.m.c.free D6.out.c11.symm n
      have D7 : Hid (Dh w (u6.setCell ⟨y1, n, none⟩ (.int .i64 x6)) b (k' + 1 + 1 + 1) a len cap zs R q (.slice (some ⟨y0, 0, none⟩) 16 k0) (.slice (some ⟨y1, 0, none⟩) 11 k1) (.slice a2 n2 k2) (.slice a3 n3 k3) { H with csr := H.csr.set n x6 }) := D6.out.csr n x6
      refine zR 8 rfl fun K hK => ?_
      rw [if_pos (by rfl)]
      go_simp
      refine hK.out _ _ (D7.out.var.cell 2 rfl) (fun _ => ?_)
      clear hK K
      refine wpAnyH_done (by kernel_rfl) ?_ _
      generalize u6.setCell ⟨y1, n, none⟩ (.int .i64 x6) = u7 at *
      clear cj fj
      go_upto_region 15 with fail
      obtain ⟨G, hG⟩ : ∃ G, ({ H with csr := H.csr.set n x6 } : Ht) = G := ⟨_, rfl⟩
      rw [hG] at D7
      clear hG
      have l0 := D7.out.var.cell 0 rfl
      have r0 := D7.out.res.cell 0 rfl
      have f0 := D7.out.res.free 0
      have l1 := D7.out.var.cell 1 rfl
      have r1 := D7.out.res.cell 1 rfl
      have f1 := D7.out.res.free 1
      have l2 := D7.out.var.cell 2 rfl
      have r2 := D7.out.res.cell 2 rfl
      have f2 := D7.out.res.free 2
      have l3 := D7.out.var.cell 3 rfl
      have r3 := D7.out.res.cell 3 rfl
      have f3 := D7.out.res.free 3
      have l4 := D7.out.var.cell 4 rfl
      have r4 := D7.out.res.cell 4 rfl
      have f4 := D7.out.res.free 4
      have l5 := D7.out.var.cell 5 rfl
      have r5 := D7.out.res.cell 5 rfl
      have f5 := D7.out.res.free 5
      have l6 := D7.out.var.cell 6 rfl
      have r6 := D7.out.res.cell 6 rfl
      have f6 := D7.out.res.free 6
      have l7 := D7.out.var.cell 7 rfl
      have r7 := D7.out.res.cell 7 rfl
      have f7 := D7.out.res.free 7
      have l8 := D7.out.var.cell 8 rfl
      have r8 := D7.out.res.cell 8 rfl
      have f8 := D7.out.res.free 8
      have NN : Hid (_ ∧ _) := nine D7.out.res (.slice (some ⟨y0, 0, none⟩) 16 k0) (.int .i64 G.pc) (.slice (some ⟨y1, 0, none⟩) 11 k1) (.bool G.halted) (.bool G.waiting) (.bool G.rung) (.int .i64 G.done) (.slice a2 n2 k2) (.slice a3 n3 k3)
      go_wp2_with fail
      clear l0 r0 f0 l1 r1 f1 l2 r2 f2 l3 r3 f3 l4 r4 f4 l5 r5 f5 l6 r6 f6 l7 r7 f7 l8 r8 f8
      generalize (((((((((u7.setCell ⟨R, 0, none⟩ (.slice (some ⟨y0, 0, none⟩) 16 k0)).setCell ⟨R, 1, none⟩ (.int .i64 G.pc)).setCell ⟨R, 2, none⟩ (.slice (some ⟨y1, 0, none⟩) 11 k1)).setCell ⟨R, 3, none⟩ (.bool G.halted)).setCell ⟨R, 4, none⟩ (.bool G.waiting)).setCell ⟨R, 5, none⟩ (.bool G.rung)).setCell ⟨R, 6, none⟩ (.int .i64 G.done)).setCell ⟨R, 7, none⟩ (.slice a2 n2 k2)).setCell ⟨R, 8, none⟩ (.slice a3 n3 k3)) = V at *
      have x0 := NN.out.1.cell 0 rfl
      have x1 := NN.out.1.cell 1 rfl
      have x2 := NN.out.1.cell 2 rfl
      have x3 := NN.out.1.cell 3 rfl
      have x4 := NN.out.1.cell 4 rfl
      have x5 := NN.out.1.cell 5 rfl
      have x6 := NN.out.1.cell 6 rfl
      have x7 := NN.out.1.cell 7 rfl
      have x8 := NN.out.1.cell 8 rfl
      have hb := D7.out.hb
      have hRR := D7.out.hR
      have hg := D7.out.g.size
      have TV : Turn b w V := ⟨NN.out.2.os.trans D7.out.g.os, NN.out.2.tape.trans D7.out.g.tape, NN.out.2.output.trans D7.out.g.output, Nat.le_trans D7.out.g.size NN.out.2.size, fun x hx hn => (NN.out.2.block x (Nat.lt_of_lt_of_le hx D7.out.g.size) (by omega)).trans (D7.out.g.block x hx hn)⟩
      have MV := NN.out.2.hm D7.out.m (fun x e f => by have := (D7.out.m.own x e).1; omega)
      exact bodyPost_ret (v := .agg #[.slice (some ⟨y0, 0, none⟩) 16 k0, .int .i64 G.pc, .slice (some ⟨y1, 0, none⟩) 11 k1, .bool G.halted, .bool G.waiting, .bool G.rung, .int .i64 G.done, .slice a2 n2 k2, .slice a3 n3 k3]) (by simp [results, Try.results30, go_sem, x0, x1, x2, x3, x4, x5, x6, x7, x8]) rfl
        ⟨_, _, _, _, _, _, _, _, _, _, _, _, G, rfl, .inl ⟨MV.mono (by omega), D7.out.ap⟩, TV, _, by have := KB.out; omega, src_mq D7.out.src NN.out.2 hb⟩
    · skip
      rw [if_pos (by rfl)]
      go_simp
      have D2 : Hid (Dh w (v1.alloc (.cells #[.int .i64 (-1), .int .i64 4, .int .i64 9, .int .i64 4294967296] 2)) b (k' + 1) a len cap zs R q (.slice (some ⟨y0, 0, none⟩) 16 k0) (.slice (some ⟨y1, 0, none⟩) 11 k1) (.slice a2 n2 k2) (.slice a3 n3 k3) H) := DR.out.turn (Turn.alloc _ _ _) (DR.out.src.alloc _)
      refine hK.out _ _ (D2.out.var.cell 2 rfl) (fun _ => ?_)
      clear hK K
      refine zR 3 rfl fun K hK => ?_
      rw [if_pos (by rfl)]
      go_simp
      refine (next_any D2.out.src (by have := KB.out; have := HK.out; omega) _).mono ?_
      rintro e u2 ⟨x2, rfl, hx2, -, t1, s1⟩
      obtain ⟨x20, x21⟩ := hx2 (by decide)
      obtain ⟨n, rfl⟩ := Int.eq_ofNat_of_zero_le x20
      have HN : Hid (n < 11) := by show _ < _; omega
      have hn11 : (n : Int) < 11 := by have := HN.out; omega
      have D3 : Hid (Dh w u2 b (k' + 1 + 1) a len cap zs R q (.slice (some ⟨y0, 0, none⟩) 16 k0) (.slice (some ⟨y1, 0, none⟩) 11 k1) (.slice a2 n2 k2) (.slice a3 n3 k3) H) := D2.out.turn t1 s1
      have LF : Hid (∀ i, i < 4 → ∃ v : Int, u2.cell? ⟨v1.heap.size, i, none⟩ = some (.int .i64 v) ∧ True) := lits_turn t1 (by have := DR.out.src.here; omega) (lits_at _ [-1, 4, 9, 4294967296] _ rfl)
      have LZ : Hid (v1.heap.size < u2.heap.size) := by have := t1.size; show _ < _; simp at this; omega
      clear t1 s1 hx2 x20 x21
      refine hK.out _ _ (D3.out.var.cell 2 rfl) (fun _ => ?_)
      clear hK K
      refine zR 6 rfl fun K hK => ?_
      rw [if_pos (by rfl)]
      go_simp
      refine (pick_any D3.out.src (by have := KB.out; have := HK.out; omega) (fun _ => True) _ 4 (by decide) (by decide) LZ.out (by have := DR.out.src.here; omega) LF.out).mono ?_
      rintro e u6 ⟨x6, rfl, -, t1, s1⟩
      have D6 : Hid (Dh w u6 b (k' + 1 + 1 + 1) a len cap zs R q (.slice (some ⟨y0, 0, none⟩) 16 k0) (.slice (some ⟨y1, 0, none⟩) 11 k1) (.slice a2 n2 k2) (.slice a3 n3 k3) H) := D3.out.turn t1 s1
      clear t1 s1
      refine hK.out _ _ (D6.out.var.cell 2 rfl) (fun _ => ?_)
      clear hK K
      refine wpTk (i := 7) (v := .pointer (some ⟨y1, n, none⟩)) rfl (Or.inl ⟨by rfl, fun w' hs => by go_simp⟩) (D6.out.var.cell 2 rfl) ?_
      change wpAnyH _ _ _ _ _ _ _ (Act.put _ (some 28) _) _
      simp only [Act.put, zT, zZ, zS]
      have cj := D6.out.m.c.cell D6.out.c11.symm n HN.out
      have fj := D6.out.m.c.free D6.out.c11.symm n
      have D7 : Hid (Dh w (u6.setCell ⟨y1, n, none⟩ (.int .i64 x6)) b (k' + 1 + 1 + 1) a len cap zs R q (.slice (some ⟨y0, 0, none⟩) 16 k0) (.slice (some ⟨y1, 0, none⟩) 11 k1) (.slice a2 n2 k2) (.slice a3 n3 k3) { H with csr := H.csr.set n x6 }) := D6.out.csr n x6
      refine zR 8 rfl fun K hK => ?_
      rw [if_pos (by rfl)]
      go_simp
      refine hK.out _ _ (D7.out.var.cell 2 rfl) (fun _ => ?_)
      clear hK K
      refine wpAnyH_done (by kernel_rfl) ?_ _
      generalize u6.setCell ⟨y1, n, none⟩ (.int .i64 x6) = u7 at *
      clear cj fj
      go_upto_region 15 with fail
      obtain ⟨G, hG⟩ : ∃ G, ({ H with csr := H.csr.set n x6 } : Ht) = G := ⟨_, rfl⟩
      rw [hG] at D7
      clear hG
      have l0 := D7.out.var.cell 0 rfl
      have r0 := D7.out.res.cell 0 rfl
      have f0 := D7.out.res.free 0
      have l1 := D7.out.var.cell 1 rfl
      have r1 := D7.out.res.cell 1 rfl
      have f1 := D7.out.res.free 1
      have l2 := D7.out.var.cell 2 rfl
      have r2 := D7.out.res.cell 2 rfl
      have f2 := D7.out.res.free 2
      have l3 := D7.out.var.cell 3 rfl
      have r3 := D7.out.res.cell 3 rfl
      have f3 := D7.out.res.free 3
      have l4 := D7.out.var.cell 4 rfl
      have r4 := D7.out.res.cell 4 rfl
      have f4 := D7.out.res.free 4
      have l5 := D7.out.var.cell 5 rfl
      have r5 := D7.out.res.cell 5 rfl
      have f5 := D7.out.res.free 5
      have l6 := D7.out.var.cell 6 rfl
      have r6 := D7.out.res.cell 6 rfl
      have f6 := D7.out.res.free 6
      have l7 := D7.out.var.cell 7 rfl
      have r7 := D7.out.res.cell 7 rfl
      have f7 := D7.out.res.free 7
      have l8 := D7.out.var.cell 8 rfl
      have r8 := D7.out.res.cell 8 rfl
      have f8 := D7.out.res.free 8
      have NN : Hid (_ ∧ _) := nine D7.out.res (.slice (some ⟨y0, 0, none⟩) 16 k0) (.int .i64 G.pc) (.slice (some ⟨y1, 0, none⟩) 11 k1) (.bool G.halted) (.bool G.waiting) (.bool G.rung) (.int .i64 G.done) (.slice a2 n2 k2) (.slice a3 n3 k3)
      go_wp2_with fail
      clear l0 r0 f0 l1 r1 f1 l2 r2 f2 l3 r3 f3 l4 r4 f4 l5 r5 f5 l6 r6 f6 l7 r7 f7 l8 r8 f8
      generalize (((((((((u7.setCell ⟨R, 0, none⟩ (.slice (some ⟨y0, 0, none⟩) 16 k0)).setCell ⟨R, 1, none⟩ (.int .i64 G.pc)).setCell ⟨R, 2, none⟩ (.slice (some ⟨y1, 0, none⟩) 11 k1)).setCell ⟨R, 3, none⟩ (.bool G.halted)).setCell ⟨R, 4, none⟩ (.bool G.waiting)).setCell ⟨R, 5, none⟩ (.bool G.rung)).setCell ⟨R, 6, none⟩ (.int .i64 G.done)).setCell ⟨R, 7, none⟩ (.slice a2 n2 k2)).setCell ⟨R, 8, none⟩ (.slice a3 n3 k3)) = V at *
      have x0 := NN.out.1.cell 0 rfl
      have x1 := NN.out.1.cell 1 rfl
      have x2 := NN.out.1.cell 2 rfl
      have x3 := NN.out.1.cell 3 rfl
      have x4 := NN.out.1.cell 4 rfl
      have x5 := NN.out.1.cell 5 rfl
      have x6 := NN.out.1.cell 6 rfl
      have x7 := NN.out.1.cell 7 rfl
      have x8 := NN.out.1.cell 8 rfl
      have hb := D7.out.hb
      have hRR := D7.out.hR
      have hg := D7.out.g.size
      have TV : Turn b w V := ⟨NN.out.2.os.trans D7.out.g.os, NN.out.2.tape.trans D7.out.g.tape, NN.out.2.output.trans D7.out.g.output, Nat.le_trans D7.out.g.size NN.out.2.size, fun x hx hn => (NN.out.2.block x (Nat.lt_of_lt_of_le hx D7.out.g.size) (by omega)).trans (D7.out.g.block x hx hn)⟩
      have MV := NN.out.2.hm D7.out.m (fun x e f => by have := (D7.out.m.own x e).1; omega)
      exact bodyPost_ret (v := .agg #[.slice (some ⟨y0, 0, none⟩) 16 k0, .int .i64 G.pc, .slice (some ⟨y1, 0, none⟩) 11 k1, .bool G.halted, .bool G.waiting, .bool G.rung, .int .i64 G.done, .slice a2 n2 k2, .slice a3 n3 k3]) (by simp [results, Try.results30, go_sem, x0, x1, x2, x3, x4, x5, x6, x7, x8]) rfl
        ⟨_, _, _, _, _, _, _, _, _, _, _, _, G, rfl, .inl ⟨MV.mono (by omega), D7.out.ap⟩, TV, _, by have := KB.out; omega, src_mq D7.out.src NN.out.2 hb⟩
  by_cases e3 : x1 = 3
  · subst e3
    have D2 : Hid (Dh w (u1.alloc (.cells #[.int .i64 (-1), .int .i64 4294967296] 2)) b (k' + 1) a len cap zs R q (.slice (some ⟨y0, 0, none⟩) 16 k0) (.slice (some ⟨y1, 0, none⟩) 11 k1) (.slice a2 n2 k2) (.slice a3 n3 k3) H) := D1.out.turn (Turn.alloc _ _ _) (D1.out.src.alloc _)
    go_wp2_with fail
    refine (pick_any D2.out.src (by have := KB.out; have := HK.out; omega) (fun _ => True) _ 2 (by decide) (by decide) (by simp) (by have := D1.out.src.here; omega) (lits_at _ [-1, 4294967296] _ rfl)).mono ?_
    rintro e u3 ⟨x3, rfl, -, t1, s1⟩
    have D3 : Hid (Dh w u3 b (k' + 1 + 1) a len cap zs R q (.slice (some ⟨y0, 0, none⟩) 16 k0) (.slice (some ⟨y1, 0, none⟩) 11 k1) (.slice a2 n2 k2) (.slice a3 n3 k3) H) := D2.out.turn t1 s1
    clear t1 s1
    have c := D3.out.var.cell 1 rfl
    have f := D3.out.var.free 1
    have D4 : Hid (Dh w (u3.setCell ⟨q, 1, none⟩ (.int .i64 x3)) b (k' + 1 + 1) a len cap zs R q (.slice (some ⟨y0, 0, none⟩) 16 k0) (.slice (some ⟨y1, 0, none⟩) 11 k1) (.slice a2 n2 k2) (.slice a3 n3 k3) { H with pc := x3 }) := D3.out.fld 1 _ _ rfl rfl rfl rfl (D3.out.var.set 1 _)
    go_upto_region 15 with fail
    generalize u3.setCell ⟨q, 1, none⟩ (.int .i64 x3) = u4 at *
    clear c f
    obtain ⟨G, hG⟩ : ∃ G, ({ H with pc := x3 } : Ht) = G := ⟨_, rfl⟩
    rw [hG] at D4
    clear hG
    have l0 := D4.out.var.cell 0 rfl
    have r0 := D4.out.res.cell 0 rfl
    have f0 := D4.out.res.free 0
    have l1 := D4.out.var.cell 1 rfl
    have r1 := D4.out.res.cell 1 rfl
    have f1 := D4.out.res.free 1
    have l2 := D4.out.var.cell 2 rfl
    have r2 := D4.out.res.cell 2 rfl
    have f2 := D4.out.res.free 2
    have l3 := D4.out.var.cell 3 rfl
    have r3 := D4.out.res.cell 3 rfl
    have f3 := D4.out.res.free 3
    have l4 := D4.out.var.cell 4 rfl
    have r4 := D4.out.res.cell 4 rfl
    have f4 := D4.out.res.free 4
    have l5 := D4.out.var.cell 5 rfl
    have r5 := D4.out.res.cell 5 rfl
    have f5 := D4.out.res.free 5
    have l6 := D4.out.var.cell 6 rfl
    have r6 := D4.out.res.cell 6 rfl
    have f6 := D4.out.res.free 6
    have l7 := D4.out.var.cell 7 rfl
    have r7 := D4.out.res.cell 7 rfl
    have f7 := D4.out.res.free 7
    have l8 := D4.out.var.cell 8 rfl
    have r8 := D4.out.res.cell 8 rfl
    have f8 := D4.out.res.free 8
    have NN : Hid (_ ∧ _) := nine D4.out.res (.slice (some ⟨y0, 0, none⟩) 16 k0) (.int .i64 G.pc) (.slice (some ⟨y1, 0, none⟩) 11 k1) (.bool G.halted) (.bool G.waiting) (.bool G.rung) (.int .i64 G.done) (.slice a2 n2 k2) (.slice a3 n3 k3)
    go_wp2_with fail
    clear l0 r0 f0 l1 r1 f1 l2 r2 f2 l3 r3 f3 l4 r4 f4 l5 r5 f5 l6 r6 f6 l7 r7 f7 l8 r8 f8
    generalize (((((((((u4.setCell ⟨R, 0, none⟩ (.slice (some ⟨y0, 0, none⟩) 16 k0)).setCell ⟨R, 1, none⟩ (.int .i64 G.pc)).setCell ⟨R, 2, none⟩ (.slice (some ⟨y1, 0, none⟩) 11 k1)).setCell ⟨R, 3, none⟩ (.bool G.halted)).setCell ⟨R, 4, none⟩ (.bool G.waiting)).setCell ⟨R, 5, none⟩ (.bool G.rung)).setCell ⟨R, 6, none⟩ (.int .i64 G.done)).setCell ⟨R, 7, none⟩ (.slice a2 n2 k2)).setCell ⟨R, 8, none⟩ (.slice a3 n3 k3)) = V at *
    have x0 := NN.out.1.cell 0 rfl
    have x1 := NN.out.1.cell 1 rfl
    have x2 := NN.out.1.cell 2 rfl
    have x3 := NN.out.1.cell 3 rfl
    have x4 := NN.out.1.cell 4 rfl
    have x5 := NN.out.1.cell 5 rfl
    have x6 := NN.out.1.cell 6 rfl
    have x7 := NN.out.1.cell 7 rfl
    have x8 := NN.out.1.cell 8 rfl
    have hb := D4.out.hb
    have hRR := D4.out.hR
    have hg := D4.out.g.size
    have TV : Turn b w V := ⟨NN.out.2.os.trans D4.out.g.os, NN.out.2.tape.trans D4.out.g.tape, NN.out.2.output.trans D4.out.g.output, Nat.le_trans D4.out.g.size NN.out.2.size, fun x hx hn => (NN.out.2.block x (Nat.lt_of_lt_of_le hx D4.out.g.size) (by omega)).trans (D4.out.g.block x hx hn)⟩
    have MV := NN.out.2.hm D4.out.m (fun x e f => by have := (D4.out.m.own x e).1; omega)
    exact bodyPost_ret (v := .agg #[.slice (some ⟨y0, 0, none⟩) 16 k0, .int .i64 G.pc, .slice (some ⟨y1, 0, none⟩) 11 k1, .bool G.halted, .bool G.waiting, .bool G.rung, .int .i64 G.done, .slice a2 n2 k2, .slice a3 n3 k3]) (by simp [results, Try.results30, go_sem, x0, x1, x2, x3, x4, x5, x6, x7, x8]) rfl
      ⟨_, _, _, _, _, _, _, _, _, _, _, _, G, rfl, .inl ⟨MV.mono (by omega), D4.out.ap⟩, TV, _, by have := KB.out; omega, src_mq D4.out.src NN.out.2 hb⟩
  by_cases e4 : x1 = 4
  · subst e4
    obtain ⟨ti, hi, hz0, hz1, hz2⟩ := info_parts info_i64
    go_upto_region 15 with (at_make; refine wpList_make_full _ rfl _ _ 24 rfl u1.heap.size 2 ti _ 1 Try.underlying24 hi hz0 hz1 _ _ _ _ 41 rfl rfl rfl rfl (by rw [hz2]; omega) (by unfold maxLen; omega) (Nat.le_refl _) ?_; intro p8 hown hgrow; have bl : Below u1.heap.size u1 p8 := (Below.refl _ _).grown hgrow (Nat.le_refl _) (by simp); have c8 := (D1.out.var.keep bl).cell 7 rfl; have f8 := (D1.out.var.keep bl).free 7)
    have NO : Nums p8 u1.heap.size (.slice (some ⟨u1.heap.size, 0, none⟩) 41 41) (List.replicate 41 0) := Nums.made hown (by rw [Nat.mul_one, show (Value.int .i64 0).cells = #[.int .i64 0] from rfl, toList_madeCells_one]; simp)
    obtain ⟨py, hpy⟩ : ∃ py, u1.heap.size = py := ⟨_, rfl⟩
    have E8 := D1.out.newIn NO bl
    rw [hpy] at E8
    obtain ⟨G, hG⟩ : ∃ G, ({ H with inn := List.replicate 41 0 } : Ht) = G := ⟨_, rfl⟩
    rw [hG] at E8
    have E9 : Hid (Dh w _ b _ a len cap zs R q _ _ _ _ G) := E8
    first | rw [hpy] | skip
    clear hown hgrow c8 f8 NO hi hz0 hz1 hz2 bl E8 hG hpy
    generalize p8.setCell ⟨q, 7, none⟩ (.slice (some ⟨py, 0, none⟩) 41 41) = u4 at *
    have l0 := E9.out.var.cell 0 rfl
    have r0 := E9.out.res.cell 0 rfl
    have f0 := E9.out.res.free 0
    have l1 := E9.out.var.cell 1 rfl
    have r1 := E9.out.res.cell 1 rfl
    have f1 := E9.out.res.free 1
    have l2 := E9.out.var.cell 2 rfl
    have r2 := E9.out.res.cell 2 rfl
    have f2 := E9.out.res.free 2
    have l3 := E9.out.var.cell 3 rfl
    have r3 := E9.out.res.cell 3 rfl
    have f3 := E9.out.res.free 3
    have l4 := E9.out.var.cell 4 rfl
    have r4 := E9.out.res.cell 4 rfl
    have f4 := E9.out.res.free 4
    have l5 := E9.out.var.cell 5 rfl
    have r5 := E9.out.res.cell 5 rfl
    have f5 := E9.out.res.free 5
    have l6 := E9.out.var.cell 6 rfl
    have r6 := E9.out.res.cell 6 rfl
    have f6 := E9.out.res.free 6
    have l7 := E9.out.var.cell 7 rfl
    have r7 := E9.out.res.cell 7 rfl
    have f7 := E9.out.res.free 7
    have l8 := E9.out.var.cell 8 rfl
    have r8 := E9.out.res.cell 8 rfl
    have f8 := E9.out.res.free 8
    have NN : Hid (_ ∧ _) := nine E9.out.res (.slice (some ⟨y0, 0, none⟩) 16 k0) (.int .i64 G.pc) (.slice (some ⟨y1, 0, none⟩) 11 k1) (.bool G.halted) (.bool G.waiting) (.bool G.rung) (.int .i64 G.done) (.slice (some ⟨py, 0, none⟩) 41 41) (.slice a3 n3 k3)
    go_wp2_with fail
    clear l0 r0 f0 l1 r1 f1 l2 r2 f2 l3 r3 f3 l4 r4 f4 l5 r5 f5 l6 r6 f6 l7 r7 f7 l8 r8 f8
    generalize (((((((((u4.setCell ⟨R, 0, none⟩ (.slice (some ⟨y0, 0, none⟩) 16 k0)).setCell ⟨R, 1, none⟩ (.int .i64 G.pc)).setCell ⟨R, 2, none⟩ (.slice (some ⟨y1, 0, none⟩) 11 k1)).setCell ⟨R, 3, none⟩ (.bool G.halted)).setCell ⟨R, 4, none⟩ (.bool G.waiting)).setCell ⟨R, 5, none⟩ (.bool G.rung)).setCell ⟨R, 6, none⟩ (.int .i64 G.done)).setCell ⟨R, 7, none⟩ (.slice (some ⟨py, 0, none⟩) 41 41)).setCell ⟨R, 8, none⟩ (.slice a3 n3 k3)) = V at *
    have x0 := NN.out.1.cell 0 rfl
    have x1 := NN.out.1.cell 1 rfl
    have x2 := NN.out.1.cell 2 rfl
    have x3 := NN.out.1.cell 3 rfl
    have x4 := NN.out.1.cell 4 rfl
    have x5 := NN.out.1.cell 5 rfl
    have x6 := NN.out.1.cell 6 rfl
    have x7 := NN.out.1.cell 7 rfl
    have x8 := NN.out.1.cell 8 rfl
    have hb := E9.out.hb
    have hRR := E9.out.hR
    have hg := E9.out.g.size
    have TV : Turn b w V := ⟨NN.out.2.os.trans E9.out.g.os, NN.out.2.tape.trans E9.out.g.tape, NN.out.2.output.trans E9.out.g.output, Nat.le_trans E9.out.g.size NN.out.2.size, fun x hx hn => (NN.out.2.block x (Nat.lt_of_lt_of_le hx E9.out.g.size) (by omega)).trans (E9.out.g.block x hx hn)⟩
    have MV := NN.out.2.hm E9.out.m (fun x e f => by have := (E9.out.m.own x e).1; omega)
    exact bodyPost_ret (v := .agg #[.slice (some ⟨y0, 0, none⟩) 16 k0, .int .i64 G.pc, .slice (some ⟨y1, 0, none⟩) 11 k1, .bool G.halted, .bool G.waiting, .bool G.rung, .int .i64 G.done, .slice (some ⟨py, 0, none⟩) 41 41, .slice a3 n3 k3]) (by simp [results, Try.results30, go_sem, x0, x1, x2, x3, x4, x5, x6, x7, x8]) rfl
      ⟨_, _, _, _, _, _, _, _, _, _, _, _, G, rfl, .inl ⟨MV.mono (by omega), E9.out.ap⟩, TV, _, by have := KB.out; omega, src_mq E9.out.src NN.out.2 hb⟩
  by_cases e5 : x1 = 5
  · subst e5
    have D2 : Hid (Dh w (u1.alloc (.cells #[.int .i64 (-1), .int .i64 1000000000, .int .i64 1000000001] 2)) b (k' + 1) a len cap zs R q (.slice (some ⟨y0, 0, none⟩) 16 k0) (.slice (some ⟨y1, 0, none⟩) 11 k1) (.slice a2 n2 k2) (.slice a3 n3 k3) H) := D1.out.turn (Turn.alloc _ _ _) (D1.out.src.alloc _)
    go_wp2_with fail
    refine (pick_any D2.out.src (by have := KB.out; have := HK.out; omega) (fun _ => True) _ 3 (by decide) (by decide) (by simp) (by have := D1.out.src.here; omega) (lits_at _ [-1, 1000000000, 1000000001] _ rfl)).mono ?_
    rintro e u3 ⟨x3, rfl, -, t1, s1⟩
    have D3 : Hid (Dh w u3 b (k' + 1 + 1) a len cap zs R q (.slice (some ⟨y0, 0, none⟩) 16 k0) (.slice (some ⟨y1, 0, none⟩) 11 k1) (.slice a2 n2 k2) (.slice a3 n3 k3) H) := D2.out.turn t1 s1
    clear t1 s1
    have c := D3.out.var.cell 6 rfl
    have f := D3.out.var.free 6
    have D4 : Hid (Dh w (u3.setCell ⟨q, 6, none⟩ (.int .i64 x3)) b (k' + 1 + 1) a len cap zs R q (.slice (some ⟨y0, 0, none⟩) 16 k0) (.slice (some ⟨y1, 0, none⟩) 11 k1) (.slice a2 n2 k2) (.slice a3 n3 k3) { H with done := x3 }) := D3.out.fld 6 _ _ rfl rfl rfl rfl (D3.out.var.set 6 _)
    go_upto_region 15 with fail
    generalize u3.setCell ⟨q, 6, none⟩ (.int .i64 x3) = u4 at *
    clear c f
    obtain ⟨G, hG⟩ : ∃ G, ({ H with done := x3 } : Ht) = G := ⟨_, rfl⟩
    rw [hG] at D4
    clear hG
    have l0 := D4.out.var.cell 0 rfl
    have r0 := D4.out.res.cell 0 rfl
    have f0 := D4.out.res.free 0
    have l1 := D4.out.var.cell 1 rfl
    have r1 := D4.out.res.cell 1 rfl
    have f1 := D4.out.res.free 1
    have l2 := D4.out.var.cell 2 rfl
    have r2 := D4.out.res.cell 2 rfl
    have f2 := D4.out.res.free 2
    have l3 := D4.out.var.cell 3 rfl
    have r3 := D4.out.res.cell 3 rfl
    have f3 := D4.out.res.free 3
    have l4 := D4.out.var.cell 4 rfl
    have r4 := D4.out.res.cell 4 rfl
    have f4 := D4.out.res.free 4
    have l5 := D4.out.var.cell 5 rfl
    have r5 := D4.out.res.cell 5 rfl
    have f5 := D4.out.res.free 5
    have l6 := D4.out.var.cell 6 rfl
    have r6 := D4.out.res.cell 6 rfl
    have f6 := D4.out.res.free 6
    have l7 := D4.out.var.cell 7 rfl
    have r7 := D4.out.res.cell 7 rfl
    have f7 := D4.out.res.free 7
    have l8 := D4.out.var.cell 8 rfl
    have r8 := D4.out.res.cell 8 rfl
    have f8 := D4.out.res.free 8
    have NN : Hid (_ ∧ _) := nine D4.out.res (.slice (some ⟨y0, 0, none⟩) 16 k0) (.int .i64 G.pc) (.slice (some ⟨y1, 0, none⟩) 11 k1) (.bool G.halted) (.bool G.waiting) (.bool G.rung) (.int .i64 G.done) (.slice a2 n2 k2) (.slice a3 n3 k3)
    go_wp2_with fail
    clear l0 r0 f0 l1 r1 f1 l2 r2 f2 l3 r3 f3 l4 r4 f4 l5 r5 f5 l6 r6 f6 l7 r7 f7 l8 r8 f8
    generalize (((((((((u4.setCell ⟨R, 0, none⟩ (.slice (some ⟨y0, 0, none⟩) 16 k0)).setCell ⟨R, 1, none⟩ (.int .i64 G.pc)).setCell ⟨R, 2, none⟩ (.slice (some ⟨y1, 0, none⟩) 11 k1)).setCell ⟨R, 3, none⟩ (.bool G.halted)).setCell ⟨R, 4, none⟩ (.bool G.waiting)).setCell ⟨R, 5, none⟩ (.bool G.rung)).setCell ⟨R, 6, none⟩ (.int .i64 G.done)).setCell ⟨R, 7, none⟩ (.slice a2 n2 k2)).setCell ⟨R, 8, none⟩ (.slice a3 n3 k3)) = V at *
    have x0 := NN.out.1.cell 0 rfl
    have x1 := NN.out.1.cell 1 rfl
    have x2 := NN.out.1.cell 2 rfl
    have x3 := NN.out.1.cell 3 rfl
    have x4 := NN.out.1.cell 4 rfl
    have x5 := NN.out.1.cell 5 rfl
    have x6 := NN.out.1.cell 6 rfl
    have x7 := NN.out.1.cell 7 rfl
    have x8 := NN.out.1.cell 8 rfl
    have hb := D4.out.hb
    have hRR := D4.out.hR
    have hg := D4.out.g.size
    have TV : Turn b w V := ⟨NN.out.2.os.trans D4.out.g.os, NN.out.2.tape.trans D4.out.g.tape, NN.out.2.output.trans D4.out.g.output, Nat.le_trans D4.out.g.size NN.out.2.size, fun x hx hn => (NN.out.2.block x (Nat.lt_of_lt_of_le hx D4.out.g.size) (by omega)).trans (D4.out.g.block x hx hn)⟩
    have MV := NN.out.2.hm D4.out.m (fun x e f => by have := (D4.out.m.own x e).1; omega)
    exact bodyPost_ret (v := .agg #[.slice (some ⟨y0, 0, none⟩) 16 k0, .int .i64 G.pc, .slice (some ⟨y1, 0, none⟩) 11 k1, .bool G.halted, .bool G.waiting, .bool G.rung, .int .i64 G.done, .slice a2 n2 k2, .slice a3 n3 k3]) (by simp [results, Try.results30, go_sem, x0, x1, x2, x3, x4, x5, x6, x7, x8]) rfl
      ⟨_, _, _, _, _, _, _, _, _, _, _, _, G, rfl, .inl ⟨MV.mono (by omega), D4.out.ap⟩, TV, _, by have := KB.out; omega, src_mq D4.out.src NN.out.2 hb⟩
  go_upto_region 15 with fail
  obtain ⟨G, hG⟩ : ∃ G, (H : Ht) = G := ⟨_, rfl⟩
  rw [hG] at D1
  clear hG
  have l0 := D1.out.var.cell 0 rfl
  have r0 := D1.out.res.cell 0 rfl
  have f0 := D1.out.res.free 0
  have l1 := D1.out.var.cell 1 rfl
  have r1 := D1.out.res.cell 1 rfl
  have f1 := D1.out.res.free 1
  have l2 := D1.out.var.cell 2 rfl
  have r2 := D1.out.res.cell 2 rfl
  have f2 := D1.out.res.free 2
  have l3 := D1.out.var.cell 3 rfl
  have r3 := D1.out.res.cell 3 rfl
  have f3 := D1.out.res.free 3
  have l4 := D1.out.var.cell 4 rfl
  have r4 := D1.out.res.cell 4 rfl
  have f4 := D1.out.res.free 4
  have l5 := D1.out.var.cell 5 rfl
  have r5 := D1.out.res.cell 5 rfl
  have f5 := D1.out.res.free 5
  have l6 := D1.out.var.cell 6 rfl
  have r6 := D1.out.res.cell 6 rfl
  have f6 := D1.out.res.free 6
  have l7 := D1.out.var.cell 7 rfl
  have r7 := D1.out.res.cell 7 rfl
  have f7 := D1.out.res.free 7
  have l8 := D1.out.var.cell 8 rfl
  have r8 := D1.out.res.cell 8 rfl
  have f8 := D1.out.res.free 8
  have NN : Hid (_ ∧ _) := nine D1.out.res (.slice (some ⟨y0, 0, none⟩) 16 k0) (.int .i64 G.pc) (.slice (some ⟨y1, 0, none⟩) 11 k1) (.bool G.halted) (.bool G.waiting) (.bool G.rung) (.int .i64 G.done) (.slice a2 n2 k2) (.slice a3 n3 k3)
  go_wp2_with fail
  clear l0 r0 f0 l1 r1 f1 l2 r2 f2 l3 r3 f3 l4 r4 f4 l5 r5 f5 l6 r6 f6 l7 r7 f7 l8 r8 f8
  generalize (((((((((u1.setCell ⟨R, 0, none⟩ (.slice (some ⟨y0, 0, none⟩) 16 k0)).setCell ⟨R, 1, none⟩ (.int .i64 G.pc)).setCell ⟨R, 2, none⟩ (.slice (some ⟨y1, 0, none⟩) 11 k1)).setCell ⟨R, 3, none⟩ (.bool G.halted)).setCell ⟨R, 4, none⟩ (.bool G.waiting)).setCell ⟨R, 5, none⟩ (.bool G.rung)).setCell ⟨R, 6, none⟩ (.int .i64 G.done)).setCell ⟨R, 7, none⟩ (.slice a2 n2 k2)).setCell ⟨R, 8, none⟩ (.slice a3 n3 k3)) = V at *
  have x0 := NN.out.1.cell 0 rfl
  have x1 := NN.out.1.cell 1 rfl
  have x2 := NN.out.1.cell 2 rfl
  have x3 := NN.out.1.cell 3 rfl
  have x4 := NN.out.1.cell 4 rfl
  have x5 := NN.out.1.cell 5 rfl
  have x6 := NN.out.1.cell 6 rfl
  have x7 := NN.out.1.cell 7 rfl
  have x8 := NN.out.1.cell 8 rfl
  have hb := D1.out.hb
  have hRR := D1.out.hR
  have hg := D1.out.g.size
  have TV : Turn b w V := ⟨NN.out.2.os.trans D1.out.g.os, NN.out.2.tape.trans D1.out.g.tape, NN.out.2.output.trans D1.out.g.output, Nat.le_trans D1.out.g.size NN.out.2.size, fun x hx hn => (NN.out.2.block x (Nat.lt_of_lt_of_le hx D1.out.g.size) (by omega)).trans (D1.out.g.block x hx hn)⟩
  have MV := NN.out.2.hm D1.out.m (fun x e f => by have := (D1.out.m.own x e).1; omega)
  exact bodyPost_ret (v := .agg #[.slice (some ⟨y0, 0, none⟩) 16 k0, .int .i64 G.pc, .slice (some ⟨y1, 0, none⟩) 11 k1, .bool G.halted, .bool G.waiting, .bool G.rung, .int .i64 G.done, .slice a2 n2 k2, .slice a3 n3 k3]) (by simp [results, Try.results30, go_sem, x0, x1, x2, x3, x4, x5, x6, x7, x8]) rfl
    ⟨_, _, _, _, _, _, _, _, _, _, _, _, G, rfl, .inl ⟨MV.mono (by omega), D1.out.ap⟩, TV, _, by have := KB.out; omega, src_mq D1.out.src NN.out.2 hb⟩
end Go.Proofs.Ytgjpfmcokcjegaa
