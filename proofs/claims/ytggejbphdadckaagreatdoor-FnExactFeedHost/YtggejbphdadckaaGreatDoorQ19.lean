/- Texts of this seat, joined. -/
import Derived.Deep.RegionHeld3
import Derived.Test.YtggejbphdadckaaGreatDoorQ15
import Derived.Test.YtggejbphdadckaaGreatDoorQ18
namespace Go.Proofs.YtggejbphdadckaaGreatDoor
open Go.RowKit
set_option linter.unusedVariables false
theorem add_block (x : Addr) (i : Nat) : (x.add i).block = x.block := by unfold Addr.add; split <;> rfl
theorem Nums.ne_vb {w : World} {b m : Nat} {v : Value} {zs : List Int} {cs : Array Value} {t : TypeId} (h : Nums w b v zs) (hv : Vb w m cs t) (ht : t ≠ 2) : v.ownBlock ≠ some m := by
  obtain ⟨h1, ⟨rfl, _⟩ | ⟨g, cap, cur, rfl, hg, hr, _⟩⟩ := h
  · intro e; cases e
  · intro e
    have e : g = m := by simpa [Value.ownBlock] using e
    subst e
    unfold Vb at hv
    rw [hv] at hr
    cases hr
    exact ht rfl
theorem Rn.mq {S : Nat → Prop} {w w' : World} {a : Option Addr} {len cap : Nat} {zs : List Int} (h : Rn w a len cap zs) (m : Mq S w w') (hn : ∀ x, a = some x → x.block < w.heap.size → ¬ S x.block) : Rn w' a len cap zs := by
  rcases h with h | ⟨x, rfl, h1, h2, h3, h4⟩
  · exact .inl h
  · refine .inr ⟨x, rfl, h1, h2, h3, fun i hi => ?_⟩
    have hc := h4 i hi
    have hl : x.block < w.heap.size := by have := World.block_lt_of_cell? w (x.add i) hc; rwa [add_block] at this
    rw [← hc]
    exact World.cell?_of_block (a := x.add i) (by rw [add_block]; exact m.block x.block hl (hn x rfl hl))
theorem Rv.mq {S : Nat → Prop} {w w' : World} {v : Value} {zs : List Int} (h : Rv w v zs) (m : Mq S w w') (hn : ∀ k, v.ownBlock = some k → k < w.heap.size → ¬ S k) : Rv w' v zs := by
  obtain ⟨a, cap, rfl, h2⟩ := h
  exact ⟨a, cap, rfl, h2.mq m fun x e hl => hn x.block (by rw [e]; rfl) hl⟩
structure Hr (w : World) (r c i o : Value) (H : Ht) : Prop where
  r : Rv w r H.regs
  c : Rv w c H.csr
  i : Rv w i H.inn
  o : Rv w o H.out
theorem Hr.stay {w w' : World} {r c i o : Value} {H : Ht} (h : Hr w r c i o H) (b : Below w.heap.size w w') : Hr w' r c i o H := ⟨h.r.stay b, h.c.stay b, h.i.stay b, h.o.stay b⟩
theorem Hm.hr {w : World} {base : Nat} {r c i o : Value} {H : Ht} (h : Hm w base r c i o H) : Hr w r c i o H := ⟨h.r.rv, h.c.rv, h.i.rv, h.o.rv⟩
theorem Hr.mq {S : Nat → Prop} {w w' : World} {r c i o : Value} {H : Ht} (h : Hr w r c i o H) (m : Mq S w w') (hn : ∀ k, Own4 r c i o k → k < w.heap.size → ¬ S k) : Hr w' r c i o H :=
  ⟨h.r.mq m fun k e => hn k (.inl e), h.c.mq m fun k e => hn k (.inr (.inl e)), h.i.mq m fun k e => hn k (.inr (.inr (.inl e))), h.o.mq m fun k e => hn k (.inr (.inr (.inr e)))⟩
set_option maxHeartbeats 1000000 in
theorem eq_rn (v u : Value) (zs : List Int) (w : World) (h : Rv w v zs) (k : Rv w u zs) :
    Calls Tryz.prog 11 #[v, u] w fun e w' => e = .returned (.bool true) ∧ Below w.heap.size w w' := by
  obtain ⟨a, cap, rfl, h1⟩ := h
  obtain ⟨a', cap', rfl, k1⟩ := k
  have hl : (zs.length : Int) ≤ 9223372036854775807 := by have := h1.cap; unfold maxLen at this; omega
  have HZ : Hid (Rn w a zs.length cap zs) := h1
  have KZ : Hid (Rn w a' zs.length cap' zs) := k1
  clear h1 k1
  obtain ⟨n, hn⟩ : ∃ n, zs.length = n := ⟨_, rfl⟩
  rw [hn] at HZ KZ hl ⊢
  clear hn
  go_enter Tryz.func11, Tryz.ntmps11
  go_wp2_with fail
  go_loopw [5] (fun i wr => ∃ j : Nat, j ≤ n ∧ i = .int .i64 j ∧ Below w.heap.size w wr) (fun i _ => n - (intOf i).toNat)
  case atStart => exact ⟨0, Nat.zero_le _, rfl, Below.refl _ _⟩
  case round =>
    obtain ⟨j, hj, rfl, hB⟩ := hrel
    have HB : Hid (Below _ _ _) := hB
    by_cases hlt : j < n
    · obtain ⟨x, rfl, c1⟩ := HZ.out.at j hlt
      obtain ⟨y, rfl, c2⟩ := KZ.out.at j hlt
      have c1' := cell_keep hB c1
      have c2' := cell_keep hB c2
      have hI : (j : Int) < (n : Int) := by omega
      have HL : Hid (j < n) := hlt
      clear hB hlt c1 c2
      go_wp2_with fail
      go_quiet (fail)
      go_wp2_with fail
      go_roundw
      case rel => exact ⟨j + 1, by have := HL.out; omega, by go_num, dr HB.out _⟩
      case measure => have := HL.out; simp [intOf]; omega
    · have hI : ¬ (j : Int) < (n : Int) := by omega
      clear hB
      go_wp2_with fail
      go_ret
      exact ⟨rfl, HB.out⟩
theorem Mq.pre {S : Nat → Prop} {w w' : World} {o : Obj} (h : Mq S (w.alloc o) w') : Mq S w w' :=
  ⟨h.os, h.tape, h.output, by have := h.size; simp at this; omega, fun k hk hn => by rw [h.block k (by simp; omega) hn, Below.heap_alloc _ _ _ hk]⟩
open Go.RowKit Go.ChangeShapes Go.WideShapes Go.ChangeAt
structure Hc (w : World) (p : Addr) (r c i o : Value) (H : Ht) : Prop where
  c0 : w.cell? p = some r
  c1 : w.cell? ⟨p.block, p.off + 1, none⟩ = some (.int .i64 H.pc)
  c2 : w.cell? ⟨p.block, p.off + 2, none⟩ = some c
  c3 : w.cell? ⟨p.block, p.off + 3, none⟩ = some (.bool H.halted)
  c4 : w.cell? ⟨p.block, p.off + 4, none⟩ = some (.bool H.waiting)
  c5 : w.cell? ⟨p.block, p.off + 5, none⟩ = some (.bool H.rung)
  c6 : w.cell? ⟨p.block, p.off + 6, none⟩ = some (.int .i64 H.done)
  c7 : w.cell? ⟨p.block, p.off + 7, none⟩ = some i
  c8 : w.cell? ⟨p.block, p.off + 8, none⟩ = some o
theorem Hc.stay {w : World} {p : Addr} {r c i o : Value} {H : Ht} {w' : World} (h : Hc w p r c i o H) (b : Below w.heap.size w w') : Hc w' p r c i o H :=
  ⟨cell_keep b h.c0, cell_keep b h.c1, cell_keep b h.c2, cell_keep b h.c3, cell_keep b h.c4, cell_keep b h.c5, cell_keep b h.c6, cell_keep b h.c7, cell_keep b h.c8⟩
def IsHs (w : World) (a : Option Addr) (n c : Nat) (hs : List Ht) : Prop :=
  (a = none ∧ n = 0 ∧ c = 0 ∧ hs = []) ∨
  ∃ x, a = some x ∧ n ≤ c ∧ c ≤ maxLen ∧ hs.length = n ∧ ∀ i, i < n → ∃ (a0 a1 a2 a3 : Option Addr) (n0 k0 n1 k1 n2 k2 n3 k3 : Nat), Hc w (x.add (i * 9)) (.slice a0 n0 k0) (.slice a1 n1 k1) (.slice a2 n2 k2) (.slice a3 n3 k3) (hs.getD i voidH) ∧ Hin w a0 n0 k0 a1 n1 k1 a2 n2 k2 a3 n3 k3 (hs.getD i voidH)
theorem IsHs.stay {w w' : World} {a : Option Addr} {n c : Nat} {hs : List Ht} (h : IsHs w a n c hs) (b : Below w.heap.size w w') : IsHs w' a n c hs := by
  rcases h with h | ⟨x, h1, h2, h3, h4, h5⟩
  · exact .inl h
  · refine .inr ⟨x, h1, h2, h3, h4, fun i hi => ?_⟩
    obtain ⟨a0, a1, a2, a3, n0, k0, n1, k1, n2, k2, n3, k3, g1, g2⟩ := h5 i hi
    exact ⟨a0, a1, a2, a3, n0, k0, n1, k1, n2, k2, n3, k3, g1.stay b, g2.stay b⟩
theorem IsHs.len {w : World} {a : Option Addr} {n c : Nat} {hs : List Ht} (h : IsHs w a n c hs) : n = hs.length ∧ n ≤ 9223372036854775807 := by
  rcases h with ⟨_, h1, _, rfl⟩ | ⟨x, h1, h2, h3, h4, _⟩
  · exact ⟨by simpa using h1, by omega⟩
  · exact ⟨h4.symm, by unfold maxLen at h3; omega⟩
theorem IsHs.at {w : World} {a : Option Addr} {n c : Nat} {hs : List Ht} (h : IsHs w a n c hs) (i : Nat) (hi : i < n) : ∃ (x : Addr) (a0 a1 a2 a3 : Option Addr) (n0 k0 n1 k1 n2 k2 n3 k3 : Nat), a = some x ∧ Hc w (x.add (i * 9)) (.slice a0 n0 k0) (.slice a1 n1 k1) (.slice a2 n2 k2) (.slice a3 n3 k3) (hs.getD i voidH) ∧ Hin w a0 n0 k0 a1 n1 k1 a2 n2 k2 a3 n3 k3 (hs.getD i voidH) := by
  rcases h with ⟨_, h1, _, _⟩ | ⟨x, h1, h2, h3, h4, h5⟩
  · omega
  · obtain ⟨a0, a1, a2, a3, n0, k0, n1, k1, n2, k2, n3, k3, g⟩ := h5 i hi
    exact ⟨x, a0, a1, a2, a3, n0, k0, n1, k1, n2, k2, n3, k3, h1, g⟩
set_option maxHeartbeats 1000000 in
theorem harts_open {K : Type} {enc : TypeId × Value → K} {P : Program} {w : World} {base : Nat} {held : Bool} {t e : TypeId} {f0 f1 f2 f3 f4 f5 f6 f7 f8 : Field} {v : Value} {fuel : Nat} {x : DataW K × List MemPlace} {e0 e2 e7 e8 : TypeId}
    (ht : P.underlying t = some (.slice e)) (hs : P.underlying e = some (.struct #[f0, f1, f2, f3, f4, f5, f6, f7, f8])) (hone : Go.Deep.oneCellFields P #[f0, f1, f2, f3, f4, f5, f6, f7, f8] = true) (ce : P.cellsOf e = 9)
    (u0 : P.underlying f0.type = some (.slice e0)) (u1 : P.underlying f1.type = some (.int .i64)) (u2 : P.underlying f2.type = some (.slice e2)) (u3 : P.underlying f3.type = some .bool) (u4 : P.underlying f4.type = some .bool) (u5 : P.underlying f5.type = some .bool)
    (u6 : P.underlying f6.type = some (.int .i64)) (u7 : P.underlying f7.type = some (.slice e7)) (u8 : P.underlying f8.type = some (.slice e8))
    (i0 : P.underlying e0 = some (.int .i64)) (i2 : P.underlying e2 = some (.int .i64)) (i7 : P.underlying e7 = some (.int .i64)) (i8 : P.underlying e8 = some (.int .i64))
    (c0 : P.cellsOf e0 = 1) (c2 : P.cellsOf e2 = 1) (c7 : P.cellsOf e7 = 1) (c8 : P.cellsOf e8 = 1)
    (h : DataW.trod enc P w base (fun _ => true) held fuel t [v] = some x) : ∃ a len cap hs, v = .slice a len cap ∧ IsHs w a len cap hs := by
  rcases Go.Deep.open_slice ht h with h0 | ⟨a, len, cap, m, n, D, Pl, hv, hb, hl, hm, hmm, rfl, hx⟩
  · exact ⟨none, 0, 0, [], by simpa using h0.1, .inl ⟨rfl, rfl, rfl, rfl⟩⟩
  have hlm : len ≤ m := by rw [hmm]; split <;> omega
  have each : ∀ i, i < len → ∃ (H : Ht) (a0 a1 a2 a3 : Option Addr) (n0 k0 n1 k1 n2 k2 n3 k3 : Nat), Hc w (a.add (i * 9)) (.slice a0 n0 k0) (.slice a1 n1 k1) (.slice a2 n2 k2) (.slice a3 n3 k3) H ∧ Hin w a0 n0 k0 a1 n1 k1 a2 n2 k2 a3 n3 k3 H := by
    intro i hi
    obtain ⟨cs', h1, h2⟩ := hx i (by omega)
    rw [ce] at h1
    obtain ⟨_, hlen, hcell⟩ := World.cells?_some h1
    obtain ⟨v0, v1, v2, v3, v4, v5, v6, v7, v8, rfl⟩ := list9 (show cs'.length = 9 from hlen)
    obtain ⟨a0, a1, a2, a3, n0, k0, n1, k1, n2, k2, n3, k3, H, e, hin⟩ := hart_trod hs hone u0 u1 u2 u3 u4 u5 u6 u7 u8 i0 i2 i7 i8 c0 c2 c7 c8 h2
    simp at e
    obtain ⟨rfl, rfl, rfl, rfl, rfl, rfl, rfl, rfl, rfl⟩ := e
    exact ⟨H, a0, a1, a2, a3, n0, _, n1, _, n2, _, n3, _, ⟨hcell 0 (by simp), hcell 1 (by simp), hcell 2 (by simp), hcell 3 (by simp), hcell 4 (by simp), hcell 5 (by simp), hcell 6 (by simp), hcell 7 (by simp), hcell 8 (by simp)⟩, hin⟩
  refine ⟨some a, len, cap, (List.range len).map fun i => if h : i < len then Classical.choose (each i h) else voidH, by simpa using hv, .inr ⟨a, rfl, hl, hm, by simp, fun i hi => ?_⟩⟩
  have e : ((List.range len).map fun i => if h : i < len then Classical.choose (each i h) else voidH).getD i voidH = Classical.choose (each i hi) := by
    simp [List.getD, hi]
  rw [e]
  exact Classical.choose_spec (each i hi)
theorem hlen9 {l : List Value} (h : (Array.mk l).size = 9) : l.length = 9 := by simpa using h
structure Hst where
  pol : Plc
  mem : List Int
  harts : List Ht
  slot : Int
  left : Int
  clock : Int
structure Oi (w : World) (a0 : Option Addr) (n0 c0 : Nat) (a1 : Option Addr) (n1 c1 : Nat) (a2 : Option Addr) (n2 c2 : Nat) (a3 : Option Addr) (n3 c3 : Nat) (a4 : Option Addr) (n4 c4 : Nat) (a5 : Option Addr) (n5 c5 : Nat) (X : Hst) : Prop where
  pol : Pin w a0 n0 c0 a1 n1 c1 a2 n2 c2 a3 n3 c3 X.pol
  mem : IsRow .i64 w a4 n4 c4 X.mem
  harts : IsHs w a5 n5 c5 X.harts
theorem Oi.stay {w w' : World} {a0 a1 a2 a3 a4 a5 : Option Addr} {n0 c0 n1 c1 n2 c2 n3 c3 n4 c4 n5 c5 : Nat} {X : Hst} (h : Oi w a0 n0 c0 a1 n1 c1 a2 n2 c2 a3 n3 c3 a4 n4 c4 a5 n5 c5 X) (b : Below w.heap.size w w') : Oi w' a0 n0 c0 a1 n1 c1 a2 n2 c2 a3 n3 c3 a4 n4 c4 a5 n5 c5 X :=
  ⟨h.pol.stay b, h.mem.stay b, h.harts.stay b⟩
set_option maxRecDepth 100000 in
set_option maxHeartbeats 4000000 in
theorem host_open {K : Type} {enc : TypeId × Value → K} {w : World} {base : Nat} {held : Bool} {r : Reach} {b0 : Nat} {v : Value} {d : DataW K} {p : List MemPlace}
    (hv : Value.okWide Tryz.prog w r b0 31 v) (h : DataW.Trod enc Tryz.prog w base (fun _ => true) held 31 v d p) :
    ∃ (a0 a1 a2 a3 a4 a5 : Option Addr) (n0 c0 n1 c1 n2 c2 n3 c3 n4 c4 n5 c5 : Nat) (X : Hst), v = .agg #[.slice a0 n0 c0, .slice a1 n1 c1, .slice a2 n2 c2, .slice a3 n3 c3, .slice a4 n4 c4, .slice a5 n5 c5, .int .i64 X.slot, .int .i64 X.left, .int .i64 X.clock] ∧
      Oi w a0 n0 c0 a1 n1 c1 a2 n2 c2 a3 n3 c3 a4 n4 c4 a5 n5 c5 X := by
  obtain ⟨cs, rfl, hsz⟩ := okWide_struct Tryz.underlying31 hv
  obtain ⟨l⟩ := cs
  obtain ⟨v0, v1, v2, v3, v4, v5, v6, v7, v8, rfl⟩ := list9 (hlen9 (hsz.trans (show Tryz.prog.cellsOf 31 = 9 by kernel_rfl)))
  obtain ⟨fuel, hf⟩ := h
  obtain ⟨xs, n, _, hx, hl, hlen, hg⟩ := DataW.trod_struct Tryz.underlying31 hf
  have h6 : xs.length = 6 := by simpa using hlen
  obtain ⟨z0, z1, z2, z3, z4, z5, rfl⟩ : ∃ a b c d e f, xs = [a, b, c, d, e, f] := by
    match xs, h6 with
    | [a, b, c, d, e, f], _ => exact ⟨a, b, c, d, e, f, rfl⟩
  have G0 := hg 0 _ rfl
  have G1 := hg 1 _ rfl
  have G2 := hg 2 _ rfl
  have G3 := hg 3 _ rfl
  have G4 := hg 4 _ rfl
  have G5 := hg 5 _ rfl
  simp [Value.cells, show Tryz.prog.cellsOf 27 = 4 by kernel_rfl] at G0
  simp [Value.cells, show Tryz.prog.cellsOf 28 = 1 by kernel_rfl] at G1
  simp [Value.cells, show Tryz.prog.cellsOf 29 = 1 by kernel_rfl] at G2
  simp [Value.cells, show Tryz.prog.cellsOf 2 = 1 by kernel_rfl] at G3 G4 G5
  obtain ⟨ys, m, _, hy, hl2, hlen2, hp⟩ := DataW.trod_struct Tryz.underlying27 G0
  have h4 : ys.length = 4 := by simpa using hlen2
  obtain ⟨y0, y1, y2, y3, rfl⟩ : ∃ a b c d, ys = [a, b, c, d] := by
    match ys, h4 with
    | [a, b, c, d], _ => exact ⟨a, b, c, d, rfl⟩
  have P0 := hp 0 _ rfl
  have P1 := hp 1 _ rfl
  have P2 := hp 2 _ rfl
  have P3 := hp 3 _ rfl
  simp [show Tryz.prog.cellsOf 22 = 1 by kernel_rfl] at P0
  simp [show Tryz.prog.cellsOf 23 = 1 by kernel_rfl] at P1
  simp [show Tryz.prog.cellsOf 24 = 1 by kernel_rfl] at P2
  simp [show Tryz.prog.cellsOf 25 = 1 by kernel_rfl] at P3
  have k2 : Tryz.prog.cellsOf 2 = 1 := by kernel_rfl
  obtain ⟨a0, n0, c0, po, q0, w0⟩ := ss_open Tryz.underlying22 Tryz.underlying28 Tryz.underlying2 (by kernel_rfl) (by kernel_rfl) P0
  obtain ⟨a1, n1, c1, pl, q1, w1⟩ := lanes_open2 Tryz.underlying23 Tryz.underlying127 (by kernel_rfl) rfl rfl rfl rfl rfl Tryz.underlying2 Tryz.underlying2 Tryz.underlying2 Tryz.underlying2 Tryz.underlying2 k2 k2 k2 k2 k2 P1
  obtain ⟨a2, n2, c2, pb, q2, w2⟩ := pairs_open Tryz.underlying24 Tryz.underlying131 (by kernel_rfl) rfl rfl Tryz.underlying2 Tryz.underlying2 k2 k2 P2
  obtain ⟨a3, n3, c3, pp, q3, w3⟩ := pairs_open Tryz.underlying25 Tryz.underlying133 (by kernel_rfl) rfl rfl Tryz.underlying2 Tryz.underlying2 k2 k2 P3
  obtain ⟨a4, n4, c4, ms, e4, w4⟩ := rn_open Tryz.underlying28 Tryz.underlying2 k2 G1
  obtain ⟨a5, n5, c5, hs, e5, w5⟩ := harts_open Tryz.underlying29 Tryz.underlying78 (by kernel_rfl) (by kernel_rfl) Tryz.underlying28 Tryz.underlying2 Tryz.underlying28 Tryz.underlying4 Tryz.underlying4 Tryz.underlying4 Tryz.underlying2 Tryz.underlying28 Tryz.underlying28 Tryz.underlying2 Tryz.underlying2 Tryz.underlying2 Tryz.underlying2 k2 k2 k2 k2 G2
  obtain ⟨sl, s3, _, _⟩ := DataW.trod_int Tryz.underlying2 G3
  obtain ⟨le, s4, _, _⟩ := DataW.trod_int Tryz.underlying2 G4
  obtain ⟨cl, s5, _, _⟩ := DataW.trod_int Tryz.underlying2 G5
  simp at q0 q1 q2 q3 s3 s4 s5
  subst q0 q1 q2 q3 e4 e5 s3 s4 s5
  exact ⟨a0, a1, a2, a3, a4, a5, n0, c0, n1, c1, n2, c2, n3, c3, n4, c4, n5, c5, ⟨⟨po, pl, pb, pp⟩, ms, hs, sl, le, cl⟩, rfl, ⟨⟨w0, w1, w2, w3⟩, w4, w5⟩⟩
set_option maxRecDepth 20000 in
set_option maxHeartbeats 4000000 in
theorem eqr_hart (r c i o r' c' i' o' : Value) (H : Ht) (w : World) (h : Hr w r c i o H) (k : Hr w r' c' i' o' H) :
    Calls Tryz.prog 69 #[.agg #[r, .int .i64 H.pc, c, .bool H.halted, .bool H.waiting, .bool H.rung, .int .i64 H.done, i, o], .agg #[r', .int .i64 H.pc, c', .bool H.halted, .bool H.waiting, .bool H.rung, .int .i64 H.done, i', o']] w fun e w' => e = .returned (.bool true) ∧ Below w.heap.size w w' := by
  obtain ⟨a0, k0, rfl, _⟩ := h.r
  obtain ⟨a1, k1, rfl, _⟩ := h.c
  obtain ⟨a2, k2, rfl, _⟩ := h.i
  obtain ⟨a3, k3, rfl, _⟩ := h.o
  obtain ⟨x0, l0, rfl, _⟩ := k.r
  obtain ⟨x1, l1, rfl, _⟩ := k.c
  obtain ⟨x2, l2, rfl, _⟩ := k.i
  obtain ⟨x3, l3, rfl, _⟩ := k.o
  have HM : Hid (Hr w _ _ _ _ H) := h
  have KM : Hid (Hr w _ _ _ _ H) := k
  clear h k
  generalize H.regs.length = n0 at *
  generalize H.csr.length = n1 at *
  generalize H.inn.length = n2 at *
  generalize H.out.length = n3 at *
  generalize hW : (w.alloc (.cells #[.slice a0 n0 k0, .int .i64 H.pc, .slice a1 n1 k1, .bool H.halted, .bool H.waiting, .bool H.rung, .int .i64 H.done, .slice a2 n2 k2, .slice a3 n3 k3] 60)).alloc (.cells #[.slice x0 n0 l0, .int .i64 H.pc, .slice x1 n1 l1, .bool H.halted, .bool H.waiting, .bool H.rung, .int .i64 H.done, .slice x2 n2 l2, .slice x3 n3 l3] 60) = W
  have B0 : Hid (Below w.heap.size w W) := by show Below _ _ _; rw [← hW]; exact al (al (Below.refl _ _) _) _
  obtain ⟨s, hS⟩ : ∃ s, w.heap.size = s := ⟨_, rfl⟩
  have VA : Hid (Vb W s #[.slice a0 n0 k0, .int .i64 H.pc, .slice a1 n1 k1, .bool H.halted, .bool H.waiting, .bool H.rung, .int .i64 H.done, .slice a2 n2 k2, .slice a3 n3 k3] 60) := by
    show Vb _ _ _ _
    rw [← hW, ← hS]
    exact (Vb.new _ _ _).push _
  have VB : Hid (Vb W (s + 1) #[.slice x0 n0 l0, .int .i64 H.pc, .slice x1 n1 l1, .bool H.halted, .bool H.waiting, .bool H.rung, .int .i64 H.done, .slice x2 n2 l2, .slice x3 n3 l3] 60) := by
    show Vb _ _ _ _
    have z1 : s + 1 = (w.alloc (.cells #[.slice a0 n0 k0, .int .i64 H.pc, .slice a1 n1 k1, .bool H.halted, .bool H.waiting, .bool H.rung, .int .i64 H.done, .slice a2 n2 k2, .slice a3 n3 k3] 60)).heap.size := by rw [← hS]; simp
    rw [← hW, z1]
    exact Vb.new _ _ _
  have q0 := VA.out.cell 0 rfl
  have p0 := VB.out.cell 0 rfl
  go_enter Tryz.func69, Tryz.ntmps69
  go_wp2_with fail
  clear hW hS q0 p0
  refine (eq_rn _ _ _ _ (HM.out.stay B0.out).r (KM.out.stay B0.out).r).mono ?_
  rintro e w1 ⟨rfl, b1⟩
  have B1 : Hid (Below w.heap.size w w1) := on B0.out b1
  have VA1 : Hid (Vb w1 _ _ _) := VA.out.keep b1
  have VB1 : Hid (Vb w1 _ _ _) := VB.out.keep b1
  have q1 := VA1.out.cell 1 rfl
  have p1 := VB1.out.cell 1 rfl
  have q2 := VA1.out.cell 2 rfl
  have p2 := VB1.out.cell 2 rfl
  clear b1 VA VB B0
  go_wp2_with fail
  clear q1 p1 q2 p2
  refine (eq_rn _ _ _ _ (HM.out.stay B1.out).c (KM.out.stay B1.out).c).mono ?_
  rintro e w2 ⟨rfl, b1⟩
  have B2 : Hid (Below w.heap.size w w2) := on B1.out b1
  have VA2 : Hid (Vb w2 _ _ _) := VA1.out.keep b1
  have VB2 : Hid (Vb w2 _ _ _) := VB1.out.keep b1
  have q3 := VA2.out.cell 3 rfl
  have p3 := VB2.out.cell 3 rfl
  have q4 := VA2.out.cell 4 rfl
  have p4 := VB2.out.cell 4 rfl
  have q5 := VA2.out.cell 5 rfl
  have p5 := VB2.out.cell 5 rfl
  have q6 := VA2.out.cell 6 rfl
  have p6 := VB2.out.cell 6 rfl
  have q7 := VA2.out.cell 7 rfl
  have p7 := VB2.out.cell 7 rfl
  clear b1 VA1 VB1 B1
  go_wp2_with fail
  clear q3 p3 q4 p4 q5 p5 q6 p6 q7 p7
  refine (eq_rn _ _ _ _ (HM.out.stay B2.out).i (KM.out.stay B2.out).i).mono ?_
  rintro e w3 ⟨rfl, b1⟩
  have B3 : Hid (Below w.heap.size w w3) := on B2.out b1
  have q8 := (VA2.out.keep b1).cell 8 rfl
  have p8 := (VB2.out.keep b1).cell 8 rfl
  clear b1 VA2 VB2 B2
  go_wp2_with fail
  refine (eq_rn _ _ _ _ (HM.out.stay B3.out).o (KM.out.stay B3.out).o).mono ?_
  rintro e w4 ⟨rfl, b1⟩
  go_wp2_with fail
  go_ret
  exact ⟨rfl, on B3.out b1⟩
def SvN (n : Nat) (W : World) (q : Nat) (w' : World) : Prop := Mq (fun k => k = q) W w' ∧ w'.there q 0 n
theorem SvN.step {n : Nat} {W w w' : World} {q : Nat} (h : SvN n W q w) (hq : q < W.heap.size) (b : Below w.heap.size w w') : SvN n W q w' :=
  ⟨h.1.trans (Mq.of (below_grown b none) fun k e => by cases e), there_below h.2 (Nat.lt_of_lt_of_le hq h.1.size) b⟩
theorem SvN.set {n : Nat} {W w : World} {q : Nat} (h : SvN n W q w) (vs : List Value) : SvN n W q (w.setCells q 0 vs) := ⟨h.1.trans (mq_cells q vs w 0), World.there_setCells h.2 _ _ _⟩
def Svr (w : World) (v : Value) (oss : List (List Int)) : Prop :=
  (v = .slice none 0 0 ∧ oss = []) ∨ ∃ g cap, v = .slice (some ⟨g, 0, none⟩) oss.length cap ∧ oss.length ≤ cap ∧ cap ≤ maxLen ∧ ∀ i, i < oss.length → ∃ b l c, w.cell? ⟨g, i, none⟩ = some (.slice b l c) ∧ Rv w (.slice b l c) (oss.getD i [])
theorem Svr.keep {w w' : World} {v : Value} {oss : List (List Int)} (h : Svr w v oss) (b : Below w.heap.size w w') : Svr w' v oss := by
  rcases h with h | ⟨g, cap, h1, h2, h3, h4⟩
  · exact .inl h
  · exact .inr ⟨g, cap, h1, h2, h3, fun i hi => by obtain ⟨x, l, c, k1, k2⟩ := h4 i hi; exact ⟨x, l, c, cell_keep b k1, k2.stay b⟩⟩
theorem Svr.shape {w : World} {v : Value} {oss : List (List Int)} (h : Svr w v oss) : ∃ a cap, v = .slice a oss.length cap ∧ oss.length ≤ cap ∧ cap ≤ maxLen ∧ (0 < oss.length → ∃ g, a = some ⟨g, 0, none⟩) := by
  rcases h with ⟨rfl, rfl⟩ | ⟨g, cap, h1, h2, h3, _⟩
  · exact ⟨none, 0, rfl, Nat.le_refl _, by unfold maxLen; omega, fun h => by simp at h⟩
  · exact ⟨_, cap, h1, h2, h3, fun _ => ⟨g, rfl⟩⟩
theorem Svr.row {w : World} {g n cap : Nat} {oss : List (List Int)} (h : Svr w (.slice (some ⟨g, 0, none⟩) n cap) oss) (i : Nat) (hi : i < oss.length) : ∃ b l c, w.cell? ⟨g, i, none⟩ = some (.slice b l c) ∧ Rv w (.slice b l c) (oss.getD i []) := by
  rcases h with ⟨h, _⟩ | ⟨g', cap', h1, h2, h3, h4⟩
  · cases h
  · simp at h1
    obtain ⟨e1, e2, e3⟩ := h1
    subst e1 e2 e3
    exact h4 i hi
set_option maxRecDepth 20000 in
set_option maxHeartbeats 8000000 in
theorem eq_ssQ (v u : Value) (oss : List (List Int)) (w : World) (h : Svr w v oss) (k : Svr w u oss) :
    Calls Tryz.prog 65 #[v, u] w fun e w' => e = .returned (.bool true) ∧ Below w.heap.size w w' := by
  obtain ⟨a1, q1, hu, z1, l1, g1⟩ := h.shape
  obtain ⟨a2, q2, hv, _, l2, g2⟩ := k.shape
  subst hu hv
  obtain ⟨n, hn⟩ : ∃ n, oss.length = n := ⟨_, rfl⟩
  rw [hn] at h k g1 g2 z1 ⊢
  have HZ : Hid (Svr w (.slice a1 n q1) oss) := h
  have KZ : Hid (Svr w (.slice a2 n q2) oss) := k
  have HN : Hid (oss.length = n) := hn
  have G1 : Hid (0 < n → ∃ g, a1 = some ⟨g, 0, none⟩) := g1
  have G2 : Hid (0 < n → ∃ g, a2 = some ⟨g, 0, none⟩) := g2
  have hl : (n : Int) ≤ 9223372036854775807 := by unfold maxLen at l1; omega
  clear hn g1 g2 l1 l2 z1
  clear h k
  go_enter Tryz.func65, Tryz.ntmps65
  go_wp2_with fail
  go_loopw [5] (fun i wr => ∃ j : Nat, j ≤ n ∧ i = .int .i64 j ∧ Below w.heap.size w wr) (fun i _ => n - (intOf i).toNat)
  case atStart => exact ⟨0, Nat.zero_le _, rfl, Below.refl _ _⟩
  case round =>
    obtain ⟨j, hj, rfl, hB⟩ := hrel
    have HB : Hid (Below _ _ _) := hB
    by_cases hlt : j < n
    · obtain ⟨y1, e1⟩ := G1.out (by omega)
      obtain ⟨y2, e2⟩ := G2.out (by omega)
      subst e1 e2
      obtain ⟨x1, l1, c1, d1, m1⟩ := (HZ.out.keep hB).row j (by rw [HN.out]; exact hlt)
      obtain ⟨x2, l2, c2, d2, m2⟩ := (KZ.out.keep hB).row j (by rw [HN.out]; exact hlt)
      have M1 : Hid (Rv wr _ _) := m1
      have M2 : Hid (Rv wr _ _) := m2
      have hI : (j : Int) < (n : Int) := by omega
      have HL : Hid (j < n) := hlt
      have inh : Nonempty (BW wr) := ⟨⟨wr, Below.refl _ _⟩⟩
      have z1 := BW.cell d1
      have z2 := BW.cell d2
      have CE : ∀ p : BW wr, Calls Tryz.prog 11 #[.slice x1 l1 c1, .slice x2 l2 c2] p.w fun e w' => e = .returned (.bool true) ∧ Below p.w.heap.size p.w w' := fun p => eq_rn _ _ _ _ (M1.out.stay p.h) (M2.out.stay p.h)
      clear hB hlt m1 m2
      go_wp2_with fail
      refine region_bw (by kernel_rfl) ?_
      repeat (quiet_step ((go_at_call 11; exact calls_bw (CE _))))
      refine wpQuiet_nil ?_
      rintro _ ⟨p9, rfl⟩
      have B9 : Hid (Below w.heap.size w p9.w) := on HB.out p9.h
      go_wp2_with fail
      go_roundw
      case rel => exact ⟨j + 1, by have := HL.out; omega, by go_num, B9.out⟩
      case measure => have := HL.out; simp [intOf]; omega
    · have hI : ¬ (j : Int) < (n : Int) := by omega
      clear hB
      go_wp2_with fail
      go_ret
      exact ⟨rfl, HB.out⟩
def Hv (w : World) (v : Value) (hs : List Ht) : Prop :=
  (v = .slice none 0 0 ∧ hs = []) ∨ ∃ g cap, v = .slice (some ⟨g, 0, none⟩) hs.length cap ∧ hs.length ≤ cap ∧ cap ≤ maxLen ∧ ∀ k, k < hs.length → ∃ r c i o, Hc w ⟨g, k * 9, none⟩ r c i o (hs.getD k voidH) ∧ Hr w r c i o (hs.getD k voidH)
theorem Hv.keep {w w' : World} {v : Value} {hs : List Ht} (h : Hv w v hs) (b : Below w.heap.size w w') : Hv w' v hs := by
  rcases h with h | ⟨g, cap, h1, h2, h3, h4⟩
  · exact .inl h
  · exact .inr ⟨g, cap, h1, h2, h3, fun k hk => by obtain ⟨r, c, i, o, k1, k2⟩ := h4 k hk; exact ⟨r, c, i, o, k1.stay b, k2.stay b⟩⟩
theorem Hv.shape {w : World} {v : Value} {hs : List Ht} (h : Hv w v hs) : ∃ a cap, v = .slice a hs.length cap ∧ hs.length ≤ cap ∧ cap ≤ maxLen ∧ (0 < hs.length → ∃ g, a = some ⟨g, 0, none⟩) := by
  rcases h with ⟨rfl, rfl⟩ | ⟨g, cap, h1, h2, h3, _⟩
  · exact ⟨none, 0, rfl, Nat.le_refl _, by unfold maxLen; omega, fun h => by simp at h⟩
  · exact ⟨_, cap, h1, h2, h3, fun _ => ⟨g, rfl⟩⟩
theorem Hv.at {w : World} {g n cap : Nat} {hs : List Ht} (h : Hv w (.slice (some ⟨g, 0, none⟩) n cap) hs) (k : Nat) (hk : k < hs.length) : ∃ r c i o, Hc w ⟨g, k * 9, none⟩ r c i o (hs.getD k voidH) ∧ Hr w r c i o (hs.getD k voidH) := by
  rcases h with ⟨h, _⟩ | ⟨g', cap', h1, h2, h3, h4⟩
  · cases h
  · simp at h1
    obtain ⟨e1, e2, e3⟩ := h1
    subst e1 e2 e3
    exact h4 k hk
set_option maxRecDepth 20000 in
set_option maxHeartbeats 8000000 in
theorem eq_hartsQ (u v : Value) (hs : List Ht) (w : World) (h : Hv w u hs) (k : Hv w v hs) :
    Calls Tryz.prog 30 #[u, v] w fun e w' => e = .returned (.bool true) ∧ Below w.heap.size w w' := by
  obtain ⟨a1, q1, hu, _, l1, g1⟩ := h.shape
  obtain ⟨a2, q2, hv, _, l2, g2⟩ := k.shape
  subst hu hv
  obtain ⟨n, hn⟩ : ∃ n, hs.length = n := ⟨_, rfl⟩
  rw [hn] at h k g1 g2 ⊢
  have HH : Hid (Hv w (.slice a1 n q1) hs) := h
  have HK : Hid (Hv w (.slice a2 n q2) hs) := k
  have HN : Hid (hs.length = n) := hn
  have G1 : Hid (0 < n → ∃ g, a1 = some ⟨g, 0, none⟩) := g1
  have G2 : Hid (0 < n → ∃ g, a2 = some ⟨g, 0, none⟩) := g2
  have hmax : (n : Int) ≤ 9223372036854775807 := by have hc := h.shape; obtain ⟨_, _, _, h1, h2, _⟩ := hc; rw [hn] at h1; unfold maxLen at h2; omega
  clear h k hn g1 g2 l1 l2
  go_enter Tryz.func30, Tryz.ntmps30
  go_wp2_with fail
  go_loopw [5] (fun c wr => ∃ j : Nat, j ≤ n ∧ c = .int .i64 j ∧ Below w.heap.size w wr) (fun c _ => n - (intOf c).toNat)
  case atStart => exact ⟨0, Nat.zero_le _, rfl, Below.refl _ _⟩
  case round =>
    obtain ⟨j, hj, rfl, hB⟩ := hrel
    have HB : Hid (Below w.heap.size w wr) := hB
    by_cases hlt : j < n
    · obtain ⟨x1, e1⟩ := G1.out (by omega)
      obtain ⟨x2, e2⟩ := G2.out (by omega)
      subst e1 e2
      obtain ⟨r, c, i, o, y1, y2⟩ := (HH.out.keep hB).at j (by rw [HN.out]; exact hlt)
      obtain ⟨r', c', i', o', z1, z2⟩ := (HK.out.keep hB).at j (by rw [HN.out]; exact hlt)
      obtain ⟨H, hH⟩ : ∃ H, hs.getD j voidH = H := ⟨_, rfl⟩
      rw [hH] at y1 y2 z1 z2
      obtain ⟨xr, lr, rfl, _⟩ := y2.r
      obtain ⟨xc, lc, rfl, _⟩ := y2.c
      obtain ⟨xi, li, rfl, _⟩ := y2.i
      obtain ⟨xo, lo, rfl, _⟩ := y2.o
      obtain ⟨zr, qr, rfl, _⟩ := z2.r
      obtain ⟨zc, qc, rfl, _⟩ := z2.c
      obtain ⟨zi, qi, rfl, _⟩ := z2.i
      obtain ⟨zo, qo, rfl, _⟩ := z2.o
      have Y2 : Hid (Hr wr _ _ _ _ H) := y2
      have Z2 : Hid (Hr wr _ _ _ _ H) := z2
      generalize H.regs.length = m0 at *
      generalize H.csr.length = m1 at *
      generalize H.inn.length = mi at *
      generalize H.out.length = mo at *
      have Y1 : Hid (Hc wr ⟨x1, j * 9, none⟩ _ _ _ _ H) := y1
      have Z1 : Hid (Hc wr ⟨x2, j * 9, none⟩ _ _ _ _ H) := z1
      have hI : (j : Int) < (n : Int) := by omega
      have HL : Hid (j < n) := hlt
      clear y1 y2 z1 z2 hB hH hlt
      go_wp2_with fail
      refine wp_region_held (S := fun w' => Below wr.heap.size wr w') (by kernel_rfl) ?_
      change wpAnyH _ _ _ _ _ _ _ _ (World.drew _)
      have SD : Hid (Below wr.heap.size wr wr.drew) := (Below.refl _ _).drew
      generalize wr.drew = x0 at *
      refine wpTk (i := 0) (v := .slice (some ⟨x1, 0, none⟩) n q1) rfl (Or.inl ⟨by rfl, fun w' hs => by go_simp⟩) SD.out ?_
      change wpAnyH _ _ _ _ _ _ _ (Act.put _ (some 17) _) _
      simp only [Act.put, zT, zZ, zS]
      refine wpTk (i := 1) (v := .int .i64 (j : Int)) rfl (Or.inl ⟨by rfl, fun w' hs => by go_simp⟩) SD.out ?_
      change wpAnyH _ _ _ _ _ _ _ (Act.put _ (some 18) _) _
      simp only [Act.put, zT, zZ, zS]
      refine wpTk (i := 2) (v := .pointer (some ⟨x1, j * 9, none⟩)) rfl (Or.inl ⟨by rfl, fun w' hs => by go_simp⟩) SD.out ?_
      change wpAnyH _ _ _ _ _ _ _ (Act.put _ (some 19) _) _
      simp only [Act.put, zT, zZ, zS]
      refine wpTk (i := 3) (v := .agg #[.slice xr m0 lr, .int .i64 H.pc, .slice xc m1 lc, .bool H.halted, .bool H.waiting, .bool H.rung, .int .i64 H.done, .slice xi mi li, .slice xo mo lo]) rfl (Or.inl ⟨by rfl, fun w' hs => by have hc := Y1.out.stay hs; have y0 := hc.c0; have y1 := hc.c1; have y2 := hc.c2; have y3 := hc.c3; have y4 := hc.c4; have y5 := hc.c5; have y6 := hc.c6; have y7 := hc.c7; have y8 := hc.c8; go_simp⟩) SD.out ?_
      change wpAnyH _ _ _ _ _ _ _ (Act.put _ (some 20) _) _
      simp only [Act.put, zT, zZ, zS]
      refine wpTk (i := 4) (v := .slice (some ⟨x2, 0, none⟩) n q2) rfl (Or.inl ⟨by rfl, fun w' hs => by go_simp⟩) SD.out ?_
      change wpAnyH _ _ _ _ _ _ _ (Act.put _ (some 21) _) _
      simp only [Act.put, zT, zZ, zS]
      refine wpTk (i := 5) (v := .int .i64 (j : Int)) rfl (Or.inl ⟨by rfl, fun w' hs => by go_simp⟩) SD.out ?_
      change wpAnyH _ _ _ _ _ _ _ (Act.put _ (some 22) _) _
      simp only [Act.put, zT, zZ, zS]
      refine wpTk (i := 6) (v := .pointer (some ⟨x2, j * 9, none⟩)) rfl (Or.inl ⟨by rfl, fun w' hs => by go_simp⟩) SD.out ?_
      change wpAnyH _ _ _ _ _ _ _ (Act.put _ (some 23) _) _
      simp only [Act.put, zT, zZ, zS]
      refine wpTk (i := 7) (v := .agg #[.slice zr m0 qr, .int .i64 H.pc, .slice zc m1 qc, .bool H.halted, .bool H.waiting, .bool H.rung, .int .i64 H.done, .slice zi mi qi, .slice zo mo qo]) rfl (Or.inl ⟨by rfl, fun w' hs => by have hc := Z1.out.stay hs; have y0 := hc.c0; have y1 := hc.c1; have y2 := hc.c2; have y3 := hc.c3; have y4 := hc.c4; have y5 := hc.c5; have y6 := hc.c6; have y7 := hc.c7; have y8 := hc.c8; go_simp⟩) SD.out ?_
      change wpAnyH _ _ _ _ _ _ _ (Act.put _ (some 24) _) _
      simp only [Act.put, zT, zZ, zS]
      refine zR 8 rfl fun K hK => ?_
      rw [if_pos (by rfl)]
      go_simp
      refine (eqr_hart _ _ _ _ _ _ _ _ H _ (Y2.out.stay SD.out) (Z2.out.stay SD.out)).mono ?_
      rintro e w2 ⟨rfl, b2⟩
      have S2 : Hid (Below wr.heap.size wr w2) := on SD.out b2
      clear b2
      refine hK.out _ _ S2.out (fun _ => ?_)
      clear hK K
      refine wpTk (i := 9) (v := .bool false) rfl (Or.inl ⟨by rfl, fun w' hs => by go_simp⟩) S2.out ?_
      change wpAnyH _ _ _ _ _ _ _ (Act.put _ (some 26) _) _
      simp only [Act.put, zT, zZ, zS]
      refine wpAnyH_done (by kernel_rfl) ?_ _
      have B2 : Hid (Below w.heap.size w w2) := on HB.out S2.out
      clear SD S2 Y1 Y2 Z1 Z2
      go_wp2_with fail
      go_roundw
      case rel => exact ⟨j + 1, by have := HL.out; omega, by go_num, B2.out⟩
      case measure => have := HL.out; simp [intOf]; omega
    · have hJ : ¬ (j : Int) < (n : Int) := by omega
      clear hlt
      go_wp2_with fail
      go_ret
      exact ⟨rfl, hB⟩
structure Hq (w : World) (b : Nat) (v0 v1 v2 v3 v4 v5 : Value) (X : Hst) : Prop where
  own : Svr w v0 X.pol.own
  lanes : Ls 125 w b v1 X.pol.lanes
  bells : Prs 129 w b v2 X.pol.bells
  plan : Prs 123 w b v3 X.pol.plan
  mem : Rv w v4 X.mem
  harts : Hv w v5 X.harts
theorem Hq.keep {w w' : World} {b : Nat} {v0 v1 v2 v3 v4 v5 : Value} {X : Hst} (h : Hq w b v0 v1 v2 v3 v4 v5 X) (B : Below w.heap.size w w') : Hq w' b v0 v1 v2 v3 v4 v5 X :=
  ⟨h.own.keep B, h.lanes.keep B, h.bells.keep B, h.plan.keep B, h.mem.stay B, h.harts.keep B⟩
set_option maxRecDepth 20000 in
set_option maxHeartbeats 8000000 in
theorem eq_policyQ (v0 v1 v2 v3 u0 u1 u2 u3 : Value) (P : Plc) (b c : Nat) (w : World) (h0 : Svr w v0 P.own) (h1 : Ls 125 w b v1 P.lanes) (h2 : Prs 129 w b v2 P.bells) (h3 : Prs 123 w b v3 P.plan) (k0 : Svr w u0 P.own) (k1 : Ls 125 w c u1 P.lanes) (k2 : Prs 129 w c u2 P.bells) (k3 : Prs 123 w c u3 P.plan) :
    Calls Tryz.prog 29 #[.agg #[v0, v1, v2, v3], .agg #[u0, u1, u2, u3]] w fun e w' => e = .returned (.bool true) ∧ Below w.heap.size w w' := by
  obtain ⟨xa0, xc0, e0, _⟩ := h0.shape
  obtain ⟨xa1, xc1, e1, _⟩ := h1.shape
  obtain ⟨xa2, xc2, e2, _⟩ := h2.shape
  obtain ⟨xa3, xc3, e3, _⟩ := h3.shape
  obtain ⟨ya0, yc0, f0, _⟩ := k0.shape
  obtain ⟨ya1, yc1, f1, _⟩ := k1.shape
  obtain ⟨ya2, yc2, f2, _⟩ := k2.shape
  obtain ⟨ya3, yc3, f3, _⟩ := k3.shape
  subst e0 e1 e2 e3 f0 f1 f2 f3
  obtain ⟨n0, hn0⟩ : ∃ n, P.own.length = n := ⟨_, rfl⟩
  obtain ⟨n1, hn1⟩ : ∃ n, P.lanes.length = n := ⟨_, rfl⟩
  obtain ⟨n2, hn2⟩ : ∃ n, P.bells.length = n := ⟨_, rfl⟩
  obtain ⟨n3, hn3⟩ : ∃ n, P.plan.length = n := ⟨_, rfl⟩
  rw [hn0] at h0 k0
  rw [hn1] at h1 k1
  rw [hn2] at h2 k2
  rw [hn3] at h3 k3
  rw [hn0, hn1, hn2, hn3]
  clear hn0 hn1 hn2 hn3
  generalize hW : (w.alloc (.cells #[.slice xa0 n0 xc0, .slice xa1 n1 xc1, .slice xa2 n2 xc2, .slice xa3 n3 xc3] 37)).alloc (.cells #[.slice ya0 n0 yc0, .slice ya1 n1 yc1, .slice ya2 n2 yc2, .slice ya3 n3 yc3] 37) = W
  have B0 : Hid (Below w.heap.size w W) := by show Below _ _ _; rw [← hW]; exact al (al (Below.refl _ _) _) _
  obtain ⟨s, hS⟩ : ∃ s, w.heap.size = s := ⟨_, rfl⟩
  have z1 : s + 1 = (w.alloc (.cells #[.slice xa0 n0 xc0, .slice xa1 n1 xc1, .slice xa2 n2 xc2, .slice xa3 n3 xc3] 37)).heap.size := by rw [← hS]; simp
  have Q : Hid (Vb W s #[.slice xa0 n0 xc0, .slice xa1 n1 xc1, .slice xa2 n2 xc2, .slice xa3 n3 xc3] 37) := by show Vb _ _ _ _; rw [← hW, ← hS]; exact (Vb.new _ _ _).push _
  have K : Hid (Vb W (s + 1) #[.slice ya0 n0 yc0, .slice ya1 n1 yc1, .slice ya2 n2 yc2, .slice ya3 n3 yc3] 37) := by show Vb _ _ _ _; rw [← hW, z1]; exact Vb.new _ _ _
  have H0 : Hid (Svr W _ P.own ∧ Svr W _ P.own) := ⟨h0.keep B0.out, k0.keep B0.out⟩
  have H1 : Hid (Ls 125 W b _ P.lanes ∧ Ls 125 W c _ P.lanes) := ⟨h1.keep B0.out, k1.keep B0.out⟩
  have H2 : Hid (Prs 129 W b _ P.bells ∧ Prs 129 W c _ P.bells) := ⟨h2.keep B0.out, k2.keep B0.out⟩
  have H3 : Hid (Prs 123 W b _ P.plan ∧ Prs 123 W c _ P.plan) := ⟨h3.keep B0.out, k3.keep B0.out⟩
  clear h0 h1 h2 h3 k0 k1 k2 k3 z1
  have q0 := Q.out.cell 0 rfl
  have s0 := K.out.cell 0 rfl
  go_enter Tryz.func29, Tryz.ntmps29
  go_wp2_with fail
  clear hW hS q0 s0
  refine (eq_ssQ _ _ _ _ H0.out.1 H0.out.2).mono ?_
  rintro e w1 ⟨rfl, b1⟩
  have q1 := (Q.out.keep b1).cell 1 rfl
  have s1 := (K.out.keep b1).cell 1 rfl
  go_wp2_with fail
  clear q1 s1
  refine (eq_lanes _ _ _ _ _ _ (H1.out.1.keep b1) (H1.out.2.keep b1)).mono ?_
  rintro e w2 ⟨rfl, b2'⟩
  have b2 := on b1 b2'
  clear b1 b2'
  have q2 := (Q.out.keep b2).cell 2 rfl
  have s2 := (K.out.keep b2).cell 2 rfl
  go_wp2_with fail
  clear q2 s2
  refine (eq_bells _ _ _ _ _ _ (H2.out.1.keep b2) (H2.out.2.keep b2)).mono ?_
  rintro e w3 ⟨rfl, b3'⟩
  have b3 := on b2 b3'
  clear b2 b3'
  have q3 := (Q.out.keep b3).cell 3 rfl
  have s3 := (K.out.keep b3).cell 3 rfl
  go_wp2_with fail
  clear q3 s3
  refine (eq_slots _ _ _ _ _ _ (H3.out.1.keep b3) (H3.out.2.keep b3)).mono ?_
  rintro e w4 ⟨rfl, b4⟩
  go_wp2_with fail
  go_ret
  exact ⟨rfl, on B0.out (on b3 b4)⟩
set_option maxRecDepth 20000 in
set_option maxHeartbeats 8000000 in
theorem eq_hostQ (v0 v1 v2 v3 v4 v5 u0 u1 u2 u3 u4 u5 : Value) (X : Hst) (b b' : Nat) (w : World) (d : Hq w b v0 v1 v2 v3 v4 v5 X) (d' : Hq w b' u0 u1 u2 u3 u4 u5 X) :
    Calls Tryz.prog 10 #[.agg #[v0, v1, v2, v3, v4, v5, .int .i64 X.slot, .int .i64 X.left, .int .i64 X.clock], .agg #[u0, u1, u2, u3, u4, u5, .int .i64 X.slot, .int .i64 X.left, .int .i64 X.clock]] w fun e w' => e = .returned (.bool true) ∧ Below w.heap.size w w' := by
  obtain ⟨xa0, xc0, e0, _⟩ := d.own.shape
  obtain ⟨ya0, yc0, f0, _⟩ := d'.own.shape
  obtain ⟨xa1, xc1, e1, _⟩ := d.lanes.shape
  obtain ⟨ya1, yc1, f1, _⟩ := d'.lanes.shape
  obtain ⟨xa2, xc2, e2, _⟩ := d.bells.shape
  obtain ⟨ya2, yc2, f2, _⟩ := d'.bells.shape
  obtain ⟨xa3, xc3, e3, _⟩ := d.plan.shape
  obtain ⟨ya3, yc3, f3, _⟩ := d'.plan.shape
  obtain ⟨xa4, xc4, e4, _⟩ := d.mem
  obtain ⟨ya4, yc4, f4, _⟩ := d'.mem
  obtain ⟨xa5, xc5, e5, _⟩ := d.harts.shape
  obtain ⟨ya5, yc5, f5, _⟩ := d'.harts.shape
  subst e0 e1 e2 e3 e4 e5 f0 f1 f2 f3 f4 f5
  obtain ⟨n0, hn0⟩ : ∃ n, X.pol.own.length = n := ⟨_, rfl⟩
  obtain ⟨n1, hn1⟩ : ∃ n, X.pol.lanes.length = n := ⟨_, rfl⟩
  obtain ⟨n2, hn2⟩ : ∃ n, X.pol.bells.length = n := ⟨_, rfl⟩
  obtain ⟨n3, hn3⟩ : ∃ n, X.pol.plan.length = n := ⟨_, rfl⟩
  obtain ⟨n4, hn4⟩ : ∃ n, X.mem.length = n := ⟨_, rfl⟩
  obtain ⟨n5, hn5⟩ : ∃ n, X.harts.length = n := ⟨_, rfl⟩
  rw [hn0, hn1, hn2, hn3, hn4, hn5] at d d' ⊢
  clear hn0 hn1 hn2 hn3 hn4 hn5
  have D : Hid (Hq w b _ _ _ _ _ _ X) := d
  have D' : Hid (Hq w b' _ _ _ _ _ _ X) := d'
  clear d d'
  generalize hW : (w.alloc (.cells #[.slice xa0 n0 xc0, .slice xa1 n1 xc1, .slice xa2 n2 xc2, .slice xa3 n3 xc3, .slice xa4 n4 xc4, .slice xa5 n5 xc5, .int .i64 X.slot, .int .i64 X.left, .int .i64 X.clock] 40)).alloc (.cells #[.slice ya0 n0 yc0, .slice ya1 n1 yc1, .slice ya2 n2 yc2, .slice ya3 n3 yc3, .slice ya4 n4 yc4, .slice ya5 n5 yc5, .int .i64 X.slot, .int .i64 X.left, .int .i64 X.clock] 40) = W
  have B0 : Hid (Below w.heap.size w W) := by show Below _ _ _; rw [← hW]; exact al (al (Below.refl _ _) _) _
  obtain ⟨s, hS⟩ : ∃ s, w.heap.size = s := ⟨_, rfl⟩
  have Q : Hid (Vb W s #[.slice xa0 n0 xc0, .slice xa1 n1 xc1, .slice xa2 n2 xc2, .slice xa3 n3 xc3, .slice xa4 n4 xc4, .slice xa5 n5 xc5, .int .i64 X.slot, .int .i64 X.left, .int .i64 X.clock] 40) := by show Vb _ _ _ _; rw [← hW, ← hS]; exact (Vb.new _ _ _).push _
  have R : Hid (Vb W (s + 1) #[.slice ya0 n0 yc0, .slice ya1 n1 yc1, .slice ya2 n2 yc2, .slice ya3 n3 yc3, .slice ya4 n4 yc4, .slice ya5 n5 yc5, .int .i64 X.slot, .int .i64 X.left, .int .i64 X.clock] 40) := by
    have z1 : s + 1 = (w.alloc (.cells #[.slice xa0 n0 xc0, .slice xa1 n1 xc1, .slice xa2 n2 xc2, .slice xa3 n3 xc3, .slice xa4 n4 xc4, .slice xa5 n5 xc5, .int .i64 X.slot, .int .i64 X.left, .int .i64 X.clock] 40)).heap.size := by rw [← hS]; simp
    show Vb _ _ _ _; rw [← hW, z1]; exact Vb.new _ _ _
  have q0 := Q.out.cell 0 rfl
  have q1 := Q.out.cell 1 rfl
  have q2 := Q.out.cell 2 rfl
  have q3 := Q.out.cell 3 rfl
  have r0 := R.out.cell 0 rfl
  have r1 := R.out.cell 1 rfl
  have r2 := R.out.cell 2 rfl
  have r3 := R.out.cell 3 rfl
  have E : Hid (Hq W b _ _ _ _ _ _ X ∧ Hq W b' _ _ _ _ _ _ X) := ⟨D.out.keep B0.out, D'.out.keep B0.out⟩
  clear D D'
  go_enter Tryz.func10, Tryz.ntmps10
  go_wp2_with fail
  clear hW hS q0 r0 q1 r1 q2 r2 q3 r3
  refine (eq_policyQ _ _ _ _ _ _ _ _ X.pol _ _ _ E.out.1.own E.out.1.lanes E.out.1.bells E.out.1.plan E.out.2.own E.out.2.lanes E.out.2.bells E.out.2.plan).mono ?_
  rintro e w1 ⟨rfl, b1⟩
  have B1 : Hid (Below W.heap.size W w1) := b1
  have q4 := (Q.out.keep b1).cell 4 rfl
  have r4 := (R.out.keep b1).cell 4 rfl
  clear b1
  go_wp2_with fail
  clear q4 r4
  refine (eq_rn _ _ X.mem _ (E.out.1.mem.stay B1.out) (E.out.2.mem.stay B1.out)).mono ?_
  rintro e w2 ⟨rfl, b2⟩
  have B2 : Hid (Below W.heap.size W w2) := on B1.out b2
  have q5 := (Q.out.keep B2.out).cell 5 rfl
  have r5 := (R.out.keep B2.out).cell 5 rfl
  clear b2
  go_wp2_with fail
  clear q5 r5
  refine (eq_hartsQ _ _ X.harts _ (E.out.1.harts.keep B2.out) (E.out.2.harts.keep B2.out)).mono ?_
  rintro e w3 ⟨rfl, b3⟩
  have B3 : Hid (Below W.heap.size W w3) := on B2.out b3
  clear b3
  have q6 := (Q.out.keep B3.out).cell 6 rfl
  have q7 := (Q.out.keep B3.out).cell 7 rfl
  have q8 := (Q.out.keep B3.out).cell 8 rfl
  have r6 := (R.out.keep B3.out).cell 6 rfl
  have r7 := (R.out.keep B3.out).cell 7 rfl
  have r8 := (R.out.keep B3.out).cell 8 rfl
  go_wp2_with fail
  go_ret
  exact ⟨rfl, on B0.out B3.out⟩
set_option maxRecDepth 20000 in
set_option maxHeartbeats 8000000 in
theorem eq_hostRQ (z : Int) (v0 v1 v2 v3 v4 v5 u0 u1 u2 u3 u4 u5 : Value) (X : Hst) (b b' : Nat) (w : World) (d : Hq w b v0 v1 v2 v3 v4 v5 X) (d' : Hq w b' u0 u1 u2 u3 u4 u5 X) :
    Calls Tryz.prog 9 #[.agg #[.int .i64 z, v0, v1, v2, v3, v4, v5, .int .i64 X.slot, .int .i64 X.left, .int .i64 X.clock], .agg #[.int .i64 z, u0, u1, u2, u3, u4, u5, .int .i64 X.slot, .int .i64 X.left, .int .i64 X.clock]] w fun e w' => e = .returned (.bool true) ∧ Below w.heap.size w w' := by
  obtain ⟨xa0, xc0, e0, _⟩ := d.own.shape
  obtain ⟨ya0, yc0, f0, _⟩ := d'.own.shape
  obtain ⟨xa1, xc1, e1, _⟩ := d.lanes.shape
  obtain ⟨ya1, yc1, f1, _⟩ := d'.lanes.shape
  obtain ⟨xa2, xc2, e2, _⟩ := d.bells.shape
  obtain ⟨ya2, yc2, f2, _⟩ := d'.bells.shape
  obtain ⟨xa3, xc3, e3, _⟩ := d.plan.shape
  obtain ⟨ya3, yc3, f3, _⟩ := d'.plan.shape
  obtain ⟨xa4, xc4, e4, _⟩ := d.mem
  obtain ⟨ya4, yc4, f4, _⟩ := d'.mem
  obtain ⟨xa5, xc5, e5, _⟩ := d.harts.shape
  obtain ⟨ya5, yc5, f5, _⟩ := d'.harts.shape
  subst e0 e1 e2 e3 e4 e5 f0 f1 f2 f3 f4 f5
  obtain ⟨n0, hn0⟩ : ∃ n, X.pol.own.length = n := ⟨_, rfl⟩
  obtain ⟨n1, hn1⟩ : ∃ n, X.pol.lanes.length = n := ⟨_, rfl⟩
  obtain ⟨n2, hn2⟩ : ∃ n, X.pol.bells.length = n := ⟨_, rfl⟩
  obtain ⟨n3, hn3⟩ : ∃ n, X.pol.plan.length = n := ⟨_, rfl⟩
  obtain ⟨n4, hn4⟩ : ∃ n, X.mem.length = n := ⟨_, rfl⟩
  obtain ⟨n5, hn5⟩ : ∃ n, X.harts.length = n := ⟨_, rfl⟩
  rw [hn0, hn1, hn2, hn3, hn4, hn5] at d d' ⊢
  clear hn0 hn1 hn2 hn3 hn4 hn5
  have D : Hid (Hq w b _ _ _ _ _ _ X) := d
  have D' : Hid (Hq w b' _ _ _ _ _ _ X) := d'
  clear d d'
  generalize hW : (w.alloc (.cells #[.int .i64 z, .slice xa0 n0 xc0, .slice xa1 n1 xc1, .slice xa2 n2 xc2, .slice xa3 n3 xc3, .slice xa4 n4 xc4, .slice xa5 n5 xc5, .int .i64 X.slot, .int .i64 X.left, .int .i64 X.clock] 42)).alloc (.cells #[.int .i64 z, .slice ya0 n0 yc0, .slice ya1 n1 yc1, .slice ya2 n2 yc2, .slice ya3 n3 yc3, .slice ya4 n4 yc4, .slice ya5 n5 yc5, .int .i64 X.slot, .int .i64 X.left, .int .i64 X.clock] 42) = W
  have B0 : Hid (Below w.heap.size w W) := by show Below _ _ _; rw [← hW]; exact al (al (Below.refl _ _) _) _
  obtain ⟨s, hS⟩ : ∃ s, w.heap.size = s := ⟨_, rfl⟩
  have Q : Hid (Vb W s #[.int .i64 z, .slice xa0 n0 xc0, .slice xa1 n1 xc1, .slice xa2 n2 xc2, .slice xa3 n3 xc3, .slice xa4 n4 xc4, .slice xa5 n5 xc5, .int .i64 X.slot, .int .i64 X.left, .int .i64 X.clock] 42) := by show Vb _ _ _ _; rw [← hW, ← hS]; exact (Vb.new _ _ _).push _
  have R : Hid (Vb W (s + 1) #[.int .i64 z, .slice ya0 n0 yc0, .slice ya1 n1 yc1, .slice ya2 n2 yc2, .slice ya3 n3 yc3, .slice ya4 n4 yc4, .slice ya5 n5 yc5, .int .i64 X.slot, .int .i64 X.left, .int .i64 X.clock] 42) := by
    have z1 : s + 1 = (w.alloc (.cells #[.int .i64 z, .slice xa0 n0 xc0, .slice xa1 n1 xc1, .slice xa2 n2 xc2, .slice xa3 n3 xc3, .slice xa4 n4 xc4, .slice xa5 n5 xc5, .int .i64 X.slot, .int .i64 X.left, .int .i64 X.clock] 42)).heap.size := by rw [← hS]; simp
    show Vb _ _ _ _; rw [← hW, z1]; exact Vb.new _ _ _
  have E : Hid (Hq W b _ _ _ _ _ _ X ∧ Hq W b' _ _ _ _ _ _ X) := ⟨D.out.keep B0.out, D'.out.keep B0.out⟩
  clear D D'
  have q0 := Q.out.cell 0 rfl
  have r0 := R.out.cell 0 rfl
  have q1 := Q.out.cell 1 rfl
  have r1 := R.out.cell 1 rfl
  have q2 := Q.out.cell 2 rfl
  have r2 := R.out.cell 2 rfl
  have q3 := Q.out.cell 3 rfl
  have r3 := R.out.cell 3 rfl
  have q4 := Q.out.cell 4 rfl
  have r4 := R.out.cell 4 rfl
  have q5 := Q.out.cell 5 rfl
  have r5 := R.out.cell 5 rfl
  have q6 := Q.out.cell 6 rfl
  have r6 := R.out.cell 6 rfl
  have q7 := Q.out.cell 7 rfl
  have r7 := R.out.cell 7 rfl
  have q8 := Q.out.cell 8 rfl
  have r8 := R.out.cell 8 rfl
  have q9 := Q.out.cell 9 rfl
  have r9 := R.out.cell 9 rfl
  go_enter Tryz.func9, Tryz.ntmps9
  go_wp2_with fail
  clear hW hS q0 r0 q1 r1 q2 r2 q3 r3 q4 r4 q5 r5 q6 r6 q7 r7 q8 r8 q9 r9
  refine (eq_hostQ _ _ _ _ _ _ _ _ _ _ _ _ X _ _ _ E.out.1 E.out.2).mono ?_
  rintro e w1 ⟨rfl, b1⟩
  go_wp2_with fail
  go_ret
  exact ⟨rfl, on B0.out b1⟩
end Go.Proofs.YtggejbphdadckaaGreatDoor
