/- Texts of this seat, joined. -/
import Derived.Deep.RegionWith
import Derived.Deep.Slices
import Derived.Deep.RegionHeld3
import Derived.Deep.WholeRow
import Derived.Lib.BufferMore
import Derived.Test.YtcbcbgomafeccaaGreatDoorQ10
import Derived.Test.YtcbcbgomafeccaaGreatDoorQ12
namespace Go.Proofs.YtcbcbgomafeccaaGreatDoor
open Go.RowKit
set_option linter.unusedVariables false

theorem info_page : (Tryz.prog.info? 55).map (fun i => (i.zero, i.size, i.bytes)) = some (some (.agg #[.int .i64 0, .int .i64 0]), 2, 16) := by kernel_rfl

theorem made_pages (m : Nat) : (madeCells #[Value.int .i64 0, Value.int .i64 0] m).toList = List.replicate m (Value.int .i64 0) := by
  apply List.ext_getElem?
  intro j
  by_cases hj : j < m
  · have h : j % 2 = 0 ∨ j % 2 = 1 := by omega
    rcases h with h | h <;> simp [madeCells, hj, h]
  · simp [madeCells, hj]

theorem to_page (a b : Int) (w : World) : Calls Tryz.prog 27 #[.agg #[.int .i64 a, .int .i64 b]] w fun e w' => e = .returned (.agg #[.int .i64 a, .int .i64 b]) ∧ Below w.heap.size w w' := by
  go_enter Tryz.func27, Tryz.ntmps27
  go_wp2_with fail
  exact bodyPost_ret (v := .agg #[.int .i64 a, .int .i64 b]) (by simp [results, Tryz.results27, go_sem]) rfl ⟨rfl, al (al (al (Below.refl _ _) _) _) _⟩

set_option maxHeartbeats 1000000 in
theorem to_pages (a : Option Addr) (len cap : Nat) (rs : List (Int × Int)) (w : World) (h : IsPairs w a len cap rs) (hl : len ≤ 1048576) :
    Calls Tryz.prog 9 #[.slice a len cap] w fun e w' => ∃ g, e = .returned (.slice (some ⟨g, 0, none⟩) len len) ∧ Prs 55 w' w.heap.size (.slice (some ⟨g, 0, none⟩) len len) rs ∧ Below w.heap.size w w' := by
  obtain ⟨i, hi, hz0, hz1, hz2⟩ := info_parts info_page
  have hlen : Hid (len = rs.length) := h.len
  have HR : Hid (IsPairs w a len cap rs) := h
  clear h
  go_enter Tryz.func9, Tryz.ntmps9
  go_wp2_with (at_make; refine wpList_make_full _ rfl _ _ 33 rfl w.heap.size 55 i _ 2 Tryz.underlying33 hi hz0 hz1 _ _ _ _ len rfl rfl rfl rfl (by rw [hz2]; omega) (by unfold maxLen; omega) (Nat.le_refl _) ?_; intro w1 hown hgrow)
  have N1 : Hid (Prs 55 w1 w.heap.size (.slice (some ⟨w.heap.size, 0, none⟩) len len) (List.replicate len (0, 0))) := by
    show w1.ownsRow _ _ _ _ _ _
    rw [show (Value.agg #[.int .i64 0, .int .i64 0]).cells = #[.int .i64 0, .int .i64 0] from rfl, made_pages] at hown
    rw [flat_replicate, List.length_replicate]
    exact hown
  have B1 : Hid (Below w.heap.size w w1) := (Below.refl _ _).grown hgrow (Nat.le_refl _) (by simp)
  clear hown hgrow hi hz0 hz1 hz2
  go_wp2_with fail
  go_loopw [4] (fun c wr => ∃ j : Nat, j ≤ len ∧ c = .int .i64 j ∧ Prs 55 wr w.heap.size (.slice (some ⟨w.heap.size, 0, none⟩) len len) (rs.take j ++ List.replicate (len - j) (0, 0)) ∧ Below w.heap.size w wr) (fun c _ => len - (intOf c).toNat)
  case atStart => exact ⟨0, Nat.zero_le _, rfl, by simpa using N1.out, B1.out⟩
  case round =>
    obtain ⟨j, hj, rfl, hN, hB⟩ := hrel
    have HN : Hid (Prs _ wr _ _ _) := hN
    have HB : Hid (Below _ _ _) := hB
    have hl2 : (len : Int) ≤ 1048576 := by omega
    by_cases hlt : j < len
    · rcases HR.out with ⟨_, h1, _, _⟩ | ⟨x, rfl, h1, h2, h3, h4⟩
      · omega
      have c0 := cell_keep hB (h4 j hlt).1
      have c1 := cell_keep hB (h4 j hlt).2
      have c1 : wr.cell? ⟨(x.add (j * 2)).block, (x.add (j * 2)).off + 1, none⟩ = some (.int .i64 (rs.getD j (0, 0)).2) := by
        show wr.cell? ((x.add (j * 2)).add 1) = _
        rw [Go.Deep.add_add]; exact c1
      have hll : len = (rs.take j ++ List.replicate (len - j) ((0 : Int), (0 : Int))).length := by have := hlen.out; simp; omega
      have HLL : Hid (len = (rs.take j ++ List.replicate (len - j) ((0 : Int), (0 : Int))).length) := hll
      have q0 := (hN.cell hll j hlt).1
      have q1 := (hN.cell hll j hlt).2
      have f0 := hN.free hll (j * 2)
      have f1 := hN.free hll (j * 2 + 1)
      have hI : (j : Int) < (len : Int) := by omega
      have HL : Hid (j < len) := hlt
      have gb : w.heap.size < wr.heap.size := block_of_cell q0
      have PS : Hid ((rs.take j ++ List.replicate (len - j) ((0 : Int), (0 : Int))).set j ((rs.getD j (0, 0)).1, (rs.getD j (0, 0)).2) = rs.take (j + 1) ++ List.replicate (len - (j + 1)) (0, 0)) := pairs_set rs j len (by have := hlen.out; omega) hlen.out
      generalize (rs.getD j (0, 0)).1 = p at *
      generalize (rs.getD j (0, 0)).2 = q at *
      clear h1 h2 h3 h4 hN hB hlt hll
      go_wp2_with fail
      refine (to_page _ _ _).mono ?_
      rintro e w5 ⟨rfl, b5⟩
      have q0 := cell_keep b5 q0
      have q1 := cell_keep b5 q1
      have f0 : w5.frozen? ⟨w.heap.size, j * 2, none⟩ = false := by rw [b5.frozen (p := ⟨w.heap.size, j * 2, none⟩) gb]; exact f0
      have f1 : w5.frozen? ⟨w.heap.size, j * 2 + 1, none⟩ = false := by rw [b5.frozen (p := ⟨w.heap.size, j * 2 + 1, none⟩) gb]; exact f1
      have HN5 : Hid (Prs _ w5 _ _ _) := HN.out.keep b5
      have HB5 : Hid (Below _ w w5) := on HB.out b5
      clear b5
      go_wp2_with fail
      go_roundw
      case rel =>
        refine ⟨j + 1, by have := HL.out; omega, by go_num, ?_, ?_⟩
        · have s1 := HN5.out.store HLL.out j p q HL.out
          rw [PS.out] at s1
          exact s1
        · exact (HB5.out.setCell (by simp) _).setCell (by simp) _
      case measure => have := HL.out; simp [intOf]; omega
    · have hI : ¬ (j : Int) < (len : Int) := by omega
      obtain rfl : j = len := by omega
      clear hN hB
      go_wp2_with fail
      go_ret
      refine ⟨_, rfl, ?_, HB.out⟩
      have := HN.out
      simpa [List.take_of_length_le (Nat.le_of_eq hlen.out.symm)] using this

theorem eq_page (a b : Int) (w : World) : Calls Tryz.prog 28 #[.agg #[.int .i64 a, .int .i64 b], .agg #[.int .i64 a, .int .i64 b]] w fun e w' => e = .returned (.bool true) ∧ Below w.heap.size w w' := by
  go_enter Tryz.func28, Tryz.ntmps28
  go_wp2_with fail
  go_ret
  exact ⟨rfl, al (al (Below.refl _ _) _) _⟩

set_option maxHeartbeats 1000000 in
theorem eq_pages (v u : Value) (rs : List (Int × Int)) (b c : Nat) (w : World) (h : Prs 55 w b v rs) (k : Prs 55 w c u rs) :
    Calls Tryz.prog 14 #[v, u] w fun e w' => e = .returned (.bool true) ∧ Below w.heap.size w w' := by
  obtain ⟨a, cap, rfl, l1, l2, hg⟩ := h.shape
  obtain ⟨a', cap', rfl, m1, m2, hg'⟩ := k.shape
  have HZ : Hid (Prs _ w b _ rs) := h
  have KZ : Hid (Prs _ w c _ rs) := k
  have hl : (rs.length : Int) ≤ 9223372036854775807 := by unfold maxLen at l2; omega
  clear h k
  obtain ⟨n, hn⟩ : ∃ n, rs.length = n := ⟨_, rfl⟩
  rw [hn] at HZ KZ hl l1 m1 hg hg' ⊢
  have HN : Hid (rs.length = n) := hn
  clear hn l1 m1 l2 m2
  go_enter Tryz.func14, Tryz.ntmps14
  go_wp2_with fail
  go_loopw [5] (fun i wr => ∃ j : Nat, j ≤ n ∧ i = .int .i64 j ∧ Below w.heap.size w wr) (fun i _ => n - (intOf i).toNat)
  case atStart => exact ⟨0, Nat.zero_le _, rfl, Below.refl _ _⟩
  case round =>
    obtain ⟨j, hj, rfl, hB⟩ := hrel
    have HB : Hid (Below _ _ _) := hB
    by_cases hlt : j < n
    · obtain ⟨g, rfl⟩ := hg (by omega)
      obtain ⟨g', rfl⟩ := hg' (by omega)
      have c1 := cell_keep hB (HZ.out.cell HN.out.symm j hlt).1
      have c2 := cell_keep hB (HZ.out.cell HN.out.symm j hlt).2
      have d1 := cell_keep hB (KZ.out.cell HN.out.symm j hlt).1
      have d2 := cell_keep hB (KZ.out.cell HN.out.symm j hlt).2
      have hI : (j : Int) < (n : Int) := by omega
      have HL : Hid (j < n) := hlt
      generalize (rs.getD j (0, 0)).1 = p at *
      generalize (rs.getD j (0, 0)).2 = q at *
      clear hB hlt hg hg'
      go_wp2_with fail
      go_region_with (go_at_call 28; refine (eq_page _ _ _).mono ?_; rintro e y ⟨rfl, hb⟩; first | have BB := on HB.out hb | have BB := on HB.out.drew hb | have BB := on HB.out.drew.drew hb | have BB := on HB.out.drew.drew.drew hb)
      all_goals clear c1 c2 d1 d2
      all_goals go_wp2_with fail
      all_goals go_roundw
      all_goals first
        | (show ∃ _, _; exact ⟨j + 1, by have := HL.out; omega, by go_num, by first | exact BB | exact BB.drew⟩)
        | (have := HL.out; simp [intOf]; omega)
    · have hI : ¬ (j : Int) < (n : Int) := by omega
      clear hB
      go_wp2_with fail
      go_ret
      exact ⟨rfl, HB.out⟩
set_option maxHeartbeats 1000000 in
theorem sz_pages (a : Option Addr) (len cap : Nat) (k : Int) (w : World) (h : len ≤ 9223372036854775807) (h1 : 0 ≤ k) (h2 : k ≤ 1048576) :
    Calls Tryz.prog 6 #[.slice a len cap, .int .i64 k] w fun e w' => e = .returned (.int .i64 (if k - len < 0 then -1 else k - len)) ∧ w' = w := by
  have h3 : (len : Int) ≤ 9223372036854775807 := by omega
  by_cases hk : k - len < 0
  · rw [if_pos hk]
    go_enter Tryz.func6, Tryz.ntmps6
    go_wp2_with fail
    go_ret
    exact ⟨rfl, rfl⟩
  · rw [if_neg hk]
    go_enter Tryz.func6, Tryz.ntmps6
    go_wp2_with fail
    go_ret
    exact ⟨rfl, rfl⟩
end Go.Proofs.YtcbcbgomafeccaaGreatDoor
namespace Go.Proofs.YtcbcbgomafeccaaGreatDoor
open Go.RowKit
set_option linter.unusedVariables false

/-- From one world to another: blocks outside of S stay. -/
structure Mq (S : Nat → Prop) (w w' : World) : Prop where
  os : w'.os = w.os
  tape : w'.tape = w.tape
  output : w'.output = w.output
  size : w.heap.size ≤ w'.heap.size
  block : ∀ k, k < w.heap.size → ¬ S k → w'.heap[k]? = w.heap[k]?
theorem Mq.of {S : Nat → Prop} {w w' : World} {row : Option Nat} (g : w.grownBy w' row) (h : ∀ k, some k = row → S k) : Mq S w w' :=
  ⟨g.os, g.tape, g.output, g.size, fun k hk hn => g.block k hk fun e => hn (h k e)⟩
theorem Mq.trans {S : Nat → Prop} {a b c : World} (h : Mq S a b) (k : Mq S b c) : Mq S a c :=
  ⟨k.os.trans h.os, k.tape.trans h.tape, k.output.trans h.output, Nat.le_trans h.size k.size, fun i hi hn => (k.block i (Nat.lt_of_lt_of_le hi h.size) hn).trans (h.block i hi hn)⟩
theorem Mq.vb {S : Nat → Prop} {w w' : World} {q : Nat} {cs : Array Value} {t : TypeId} (m : Mq S w w') (h : Vb w q cs t) (hn : ¬ S q) : Vb w' q cs t := (m.block q h.lt hn).trans h
theorem Mq.nums {S : Nat → Prop} {w w' : World} {base : Nat} {v : Value} {zs : List Int} (m : Mq S w w') (h : Nums w base v zs) (hn : ∀ k, v.ownBlock = some k → ¬ S k) : Nums w' base v zs := by
  obtain ⟨h1, h2 | ⟨g, cap, cur, hv, hg, hr, rest⟩⟩ := h
  · exact ⟨h1, .inl h2⟩
  · refine ⟨h1, .inr ⟨g, cap, cur, hv, hg, ?_, rest⟩⟩
    rw [m.block g ((Array.getElem?_eq_some_iff.1 hr).1) (hn g (by rw [hv]; rfl))]
    exact hr
theorem Mq.below {S : Nat → Prop} {a w w' : World} (h : Below a.heap.size a w) (m : Mq S w w') (hn : ∀ k, S k → a.heap.size ≤ k) : Below a.heap.size a w' :=
  ⟨m.os.trans h.os, m.tape.trans h.tape, m.output.trans h.output, Nat.le_trans h.size m.size, fun k hk => (m.block k (Nat.lt_of_lt_of_le hk h.size) (fun s => by have := hn k s; omega)).trans (h.block k hk)⟩
/-- The blocks of four lists. -/
def Own4 (r c i o : Value) (k : Nat) : Prop := r.ownBlock = some k ∨ c.ownBlock = some k ∨ i.ownBlock = some k ∨ o.ownBlock = some k
theorem Mq.hm {S : Nat → Prop} {w w' : World} {base : Nat} {r c i o : Value} {H : Ht} (m : Mq S w w') (h : Hm w base r c i o H) (hn : ∀ k, Own4 r c i o k → ¬ S k) : Hm w' base r c i o H :=
  ⟨m.nums h.r fun k e => hn k (.inl e), m.nums h.c fun k e => hn k (.inr (.inl e)), m.nums h.i fun k e => hn k (.inr (.inr (.inl e))), m.nums h.o fun k e => hn k (.inr (.inr (.inr e)))⟩
theorem Hm.own {w : World} {base : Nat} {r c i o : Value} {H : Ht} (h : Hm w base r c i o H) (k : Nat) (e : Own4 r c i o k) : base ≤ k ∧ k < w.heap.size := by
  rcases e with e | e | e | e
  · exact h.r.lt k e
  · exact h.c.lt k e
  · exact h.i.lt k e
  · exact h.o.lt k e

def totH (H : Ht) : Nat := H.regs.length + H.csr.length + H.inn.length + H.out.length
def mkH (k : Int) (H : Ht) : Ht := { H with regs := marks k H.regs.length, csr := marks (k + H.regs.length) H.csr.length, inn := marks (k + H.regs.length + H.csr.length) H.inn.length, out := marks (k + H.regs.length + H.csr.length + H.inn.length) H.out.length }

set_option maxRecDepth 20000 in
set_option maxHeartbeats 4000000 in
theorem mark_hart (r c i o : Value) (H : Ht) (k : Int) (b : Nat) (w : World) (h : Hm w b r c i o H) (A : Ha r c i o) (hk : 0 ≤ k) (hz : k + totH H ≤ 4611686018427387904) :
    Calls Tryz.prog 16 #[.agg #[r, .int .i64 H.pc, c, .bool H.halted, .bool H.waiting, .bool H.rung, .int .i64 H.done, i, o], .int .i64 k] w fun e w' => e = .returned (.int .i64 (k + totH H)) ∧ Hm w' b r c i o (mkH k H) ∧ Mq (Own4 r c i o) w w' := by
  obtain ⟨a0, k0, h0, _⟩ := h.r.shape
  obtain ⟨a1, k1, h1, _⟩ := h.c.shape
  obtain ⟨a2, k2, h2, _⟩ := h.i.shape
  obtain ⟨a3, k3, h3, _⟩ := h.o.shape
  obtain ⟨n0, e0⟩ : ∃ n, H.regs.length = n := ⟨_, rfl⟩
  obtain ⟨n1, e1⟩ : ∃ n, H.csr.length = n := ⟨_, rfl⟩
  obtain ⟨n2, e2⟩ : ∃ n, H.inn.length = n := ⟨_, rfl⟩
  obtain ⟨n3, e3⟩ : ∃ n, H.out.length = n := ⟨_, rfl⟩
  have ML : Hid (H.regs.length = n0 ∧ H.csr.length = n1 ∧ H.inn.length = n2 ∧ H.out.length = n3) := ⟨e0, e1, e2, e3⟩
  have HM : Hid (Hm w b r c i o H) := h
  have HA : Hid (Ha r c i o) := A
  have HK : Hid (0 ≤ k ∧ k + (n0 : Int) + (n1 : Int) + (n2 : Int) + (n3 : Int) ≤ 4611686018427387904) := ⟨hk, by simp only [totH] at hz; omega⟩
  have HE : Hid (k + (n0 : Int) + (n1 : Int) + (n2 : Int) + (n3 : Int) = k + totH H) := by show _ = _; simp only [totH]; omega
  rw [e0] at h0
  rw [e1] at h1
  rw [e2] at h2
  rw [e3] at h3
  have F : Hid (r = .slice a0 n0 k0 ∧ c = .slice a1 n1 k1 ∧ i = .slice a2 n2 k2 ∧ o = .slice a3 n3 k3) := ⟨h0, h1, h2, h3⟩
  clear h A hk hz e0 e1 e2 e3
  rw [h0, h1, h2, h3, ← HE.out]
  rw [← h0, ← h1, ← h2, ← h3]
  subst h0 h1 h2 h3
  generalize hW : w.alloc (.cells #[.slice a0 n0 k0, .int .i64 H.pc, .slice a1 n1 k1, .bool H.halted, .bool H.waiting, .bool H.rung, .int .i64 H.done, .slice a2 n2 k2, .slice a3 n3 k3] 28) = W
  have B0 : Hid (Below w.heap.size w W) := by show Below _ _ _; rw [← hW]; exact al (Below.refl _ _) _
  obtain ⟨s, hS⟩ : ∃ s, w.heap.size = s := ⟨_, rfl⟩
  have VA : Hid (Vb W s #[.slice a0 n0 k0, .int .i64 H.pc, .slice a1 n1 k1, .bool H.halted, .bool H.waiting, .bool H.rung, .int .i64 H.done, .slice a2 n2 k2, .slice a3 n3 k3] 28) := by
    show Vb _ _ _ _
    rw [← hW, ← hS]
    exact Vb.new _ _ _
  have LT : Hid (∀ x, Own4 (.slice a0 n0 k0) (.slice a1 n1 k1) (.slice a2 n2 k2) (.slice a3 n3 k3) x → x ≠ s) := fun x e q => by have := (HM.out.own x e).2; omega
  have q0 := VA.out.cell 0 rfl
  go_enter Tryz.func16, Tryz.ntmps16
  go_wp2_with fail
  clear hW hS q0
  refine (mark_nums _ k _ _ _ (HM.out.keep B0.out).r HK.out.1 (by have := HK.out.2; have := ML.out.1; omega)).mono ?_
  rintro e w1 ⟨rfl, m1, g1⟩
  rw [ML.out.1] at m1 ⊢
  have G1 : Hid (Mq (Own4 (.slice a0 n0 k0) (.slice a1 n1 k1) (.slice a2 n2 k2) (.slice a3 n3 k3)) W w1) := Mq.of g1 fun x e => .inl e.symm
  have M1 : Hid (Nums w1 b (.slice a0 n0 k0) (marks k n0)) := m1
  have C1 : Hid (Nums w1 b (.slice a1 n1 k1) H.csr) := (HM.out.keep B0.out).c.kept g1 HA.out.rc.swap
  have I1 : Hid (Nums w1 b (.slice a2 n2 k2) H.inn) := (HM.out.keep B0.out).i.kept g1 HA.out.ri.swap
  have O1 : Hid (Nums w1 b (.slice a3 n3 k3) H.out) := (HM.out.keep B0.out).o.kept g1 HA.out.ro.swap
  have VA1 : Hid (Vb w1 _ _ _) := G1.out.vb VA.out (fun e => LT.out _ e rfl)
  have q2 := VA1.out.cell 2 rfl
  have E1 : Hid (0 ≤ k + (n0 : Int) ∧ k + (n0 : Int) + (n1 : Int) + (n2 : Int) + (n3 : Int) ≤ 4611686018427387904) := ⟨by have := HK.out.1; omega, HK.out.2⟩
  clear m1 g1
  go_wp2_with fail
  clear q2
  refine (mark_nums _ (k + n0) _ _ _ C1.out E1.out.1 (by have := E1.out.2; have := ML.out.2.1; omega)).mono ?_
  rintro e w2 ⟨rfl, m1, g1⟩
  rw [ML.out.2.1] at m1 ⊢
  have G2 : Hid (Mq (Own4 (.slice a0 n0 k0) (.slice a1 n1 k1) (.slice a2 n2 k2) (.slice a3 n3 k3)) W w2) := G1.out.trans (Mq.of g1 fun x e => .inr (.inl e.symm))
  have M2 : Hid (Nums w2 b (.slice a0 n0 k0) (marks k n0)) := M1.out.kept g1 HA.out.rc
  have C2 : Hid (Nums w2 b (.slice a1 n1 k1) (marks (k + n0) n1)) := m1
  have I2 : Hid (Nums w2 b (.slice a2 n2 k2) H.inn) := I1.out.kept g1 HA.out.ci.swap
  have O2 : Hid (Nums w2 b (.slice a3 n3 k3) H.out) := O1.out.kept g1 HA.out.co.swap
  have VA2 : Hid (Vb w2 _ _ _) := G2.out.vb VA.out (fun e => LT.out _ e rfl)
  have q2 := VA2.out.cell 7 rfl
  have E2 : Hid (0 ≤ k + (n0 : Int) + (n1 : Int) ∧ k + (n0 : Int) + (n1 : Int) + (n2 : Int) + (n3 : Int) ≤ 4611686018427387904) := ⟨by have := HK.out.1; omega, HK.out.2⟩
  clear m1 g1 M1 C1 I1 O1 VA1
  go_wp2_with fail
  clear q2
  refine (mark_nums _ (k + n0 + n1) _ _ _ I2.out E2.out.1 (by have := E2.out.2; have := ML.out.2.2.1; omega)).mono ?_
  rintro e w3 ⟨rfl, m1, g1⟩
  rw [ML.out.2.2.1] at m1 ⊢
  have G3 : Hid (Mq (Own4 (.slice a0 n0 k0) (.slice a1 n1 k1) (.slice a2 n2 k2) (.slice a3 n3 k3)) W w3) := G2.out.trans (Mq.of g1 fun x e => .inr (.inr (.inl e.symm)))
  have M3 : Hid (Nums w3 b (.slice a0 n0 k0) (marks k n0)) := M2.out.kept g1 HA.out.ri
  have C3 : Hid (Nums w3 b (.slice a1 n1 k1) (marks (k + n0) n1)) := C2.out.kept g1 HA.out.ci
  have I3 : Hid (Nums w3 b (.slice a2 n2 k2) (marks (k + n0 + n1) n2)) := m1
  have O3 : Hid (Nums w3 b (.slice a3 n3 k3) H.out) := O2.out.kept g1 HA.out.io.swap
  have VA3 : Hid (Vb w3 _ _ _) := G3.out.vb VA.out (fun e => LT.out _ e rfl)
  have q2 := VA3.out.cell 8 rfl
  have E3 : Hid (0 ≤ k + (n0 : Int) + (n1 : Int) + (n2 : Int) ∧ k + (n0 : Int) + (n1 : Int) + (n2 : Int) + (n3 : Int) ≤ 4611686018427387904) := ⟨by have := HK.out.1; omega, HK.out.2⟩
  clear m1 g1 M2 C2 I2 O2 VA2
  go_wp2_with fail
  clear q2
  refine (mark_nums _ (k + n0 + n1 + n2) _ _ _ O3.out E3.out.1 (by have := E3.out.2; have := ML.out.2.2.2; omega)).mono ?_
  rintro e w4 ⟨rfl, m1, g1⟩
  rw [ML.out.2.2.2] at m1 ⊢
  have G4 : Hid (Mq (Own4 (.slice a0 n0 k0) (.slice a1 n1 k1) (.slice a2 n2 k2) (.slice a3 n3 k3)) w w4) := ⟨(G3.out.trans (Mq.of g1 fun x e => .inr (.inr (.inr e.symm)))).os.trans B0.out.os, (G3.out.trans (Mq.of g1 fun x e => .inr (.inr (.inr e.symm)))).tape.trans B0.out.tape, (G3.out.trans (Mq.of g1 fun x e => .inr (.inr (.inr e.symm)))).output.trans B0.out.output, Nat.le_trans B0.out.size (G3.out.trans (Mq.of g1 fun x e => .inr (.inr (.inr e.symm)))).size, fun x hx hn => ((G3.out.trans (Mq.of g1 fun x e => .inr (.inr (.inr e.symm)))).block x (Nat.lt_of_lt_of_le hx B0.out.size) hn).trans (B0.out.block x hx)⟩
  have R4 : Hid (Hm w4 b (.slice a0 n0 k0) (.slice a1 n1 k1) (.slice a2 n2 k2) (.slice a3 n3 k3) (mkH k H)) := by
    refine ⟨?_, ?_, ?_, ?_⟩
    · have := M3.out.kept g1 HA.out.ro; simpa [mkH, ML.out.1] using this
    · have := C3.out.kept g1 HA.out.co; simpa [mkH, ML.out.1, ML.out.2.1] using this
    · have := I3.out.kept g1 HA.out.io; simpa [mkH, ML.out.1, ML.out.2.1, ML.out.2.2.1] using this
    · simpa [mkH, ML.out.1, ML.out.2.1, ML.out.2.2.1, ML.out.2.2.2] using m1
  clear m1 g1
  go_wp2_with fail
  go_ret
  exact ⟨rfl, R4.out, G4.out⟩

set_option maxRecDepth 20000 in
set_option maxHeartbeats 4000000 in
theorem held_hart (r c i o : Value) (H : Ht) (k : Int) (b : Nat) (w : World) (h : Hm w b r c i o (mkH k H)) (hk : 0 ≤ k) (hz : k + totH H ≤ 4611686018427387904) :
    Calls Tryz.prog 29 #[.agg #[r, .int .i64 H.pc, c, .bool H.halted, .bool H.waiting, .bool H.rung, .int .i64 H.done, i, o], .int .i64 k] w fun e w' => e = .returned (.int .i64 (k + totH H)) ∧ Below w.heap.size w w' := by
  obtain ⟨a0, k0, h0, _⟩ := h.r.shape
  obtain ⟨a1, k1, h1, _⟩ := h.c.shape
  obtain ⟨a2, k2, h2, _⟩ := h.i.shape
  obtain ⟨a3, k3, h3, _⟩ := h.o.shape
  simp only [mkH, marks_length] at h0 h1 h2 h3
  obtain ⟨n0, e0⟩ : ∃ n, H.regs.length = n := ⟨_, rfl⟩
  obtain ⟨n1, e1⟩ : ∃ n, H.csr.length = n := ⟨_, rfl⟩
  obtain ⟨n2, e2⟩ : ∃ n, H.inn.length = n := ⟨_, rfl⟩
  obtain ⟨n3, e3⟩ : ∃ n, H.out.length = n := ⟨_, rfl⟩
  rw [e0] at h0
  rw [e1] at h1
  rw [e2] at h2
  rw [e3] at h3
  have HK : Hid (0 ≤ k ∧ k + (n0 : Int) + (n1 : Int) + (n2 : Int) + (n3 : Int) ≤ 4611686018427387904) := ⟨hk, by simp only [totH] at hz; omega⟩
  have HE : Hid (k + (n0 : Int) + (n1 : Int) + (n2 : Int) + (n3 : Int) = k + totH H) := by show _ = _; simp only [totH]; omega
  have N0 : Hid (Nums w b r (marks k n0)) := by show Nums _ _ _ _; have := h.r; simpa [mkH, e0] using this
  have N1 : Hid (Nums w b c (marks (k + n0) n1)) := by show Nums _ _ _ _; have := h.c; simpa [mkH, e0, e1] using this
  have N2 : Hid (Nums w b i (marks (k + n0 + n1) n2)) := by show Nums _ _ _ _; have := h.i; simpa [mkH, e0, e1, e2] using this
  have N3 : Hid (Nums w b o (marks (k + n0 + n1 + n2) n3)) := by show Nums _ _ _ _; have := h.o; simpa [mkH, e0, e1, e2, e3] using this
  rw [← HE.out]
  clear h hk hz e0 e1 e2 e3
  subst h0 h1 h2 h3
  generalize hW : w.alloc (.cells #[.slice a0 n0 k0, .int .i64 H.pc, .slice a1 n1 k1, .bool H.halted, .bool H.waiting, .bool H.rung, .int .i64 H.done, .slice a2 n2 k2, .slice a3 n3 k3] 28) = W
  have B0 : Hid (Below w.heap.size w W) := by show Below _ _ _; rw [← hW]; exact al (Below.refl _ _) _
  obtain ⟨s, hS⟩ : ∃ s, w.heap.size = s := ⟨_, rfl⟩
  have VA : Hid (Vb W s #[.slice a0 n0 k0, .int .i64 H.pc, .slice a1 n1 k1, .bool H.halted, .bool H.waiting, .bool H.rung, .int .i64 H.done, .slice a2 n2 k2, .slice a3 n3 k3] 28) := by
    show Vb _ _ _ _
    rw [← hW, ← hS]
    exact Vb.new _ _ _
  have q0 := VA.out.cell 0 rfl
  have q2 := VA.out.cell 2 rfl
  have q7 := VA.out.cell 7 rfl
  have q8 := VA.out.cell 8 rfl
  have E0 : Hid (0 ≤ k ∧ k + (n0 : Int) ≤ 4611686018427387904) := ⟨HK.out.1, by have := HK.out.2; omega⟩
  have E1 : Hid (0 ≤ k + (n0 : Int) ∧ k + (n0 : Int) + (n1 : Int) ≤ 4611686018427387904) := ⟨by have := HK.out.1; omega, by have := HK.out.2; omega⟩
  have E2 : Hid (0 ≤ k + (n0 : Int) + (n1 : Int) ∧ k + (n0 : Int) + (n1 : Int) + (n2 : Int) ≤ 4611686018427387904) := ⟨by have := HK.out.1; omega, by have := HK.out.2; omega⟩
  have E3 : Hid (0 ≤ k + (n0 : Int) + (n1 : Int) + (n2 : Int) ∧ k + (n0 : Int) + (n1 : Int) + (n2 : Int) + (n3 : Int) ≤ 4611686018427387904) := ⟨by have := HK.out.1; omega, by have := HK.out.2; omega⟩
  have p1 : 0 ≤ k + (n0 : Int) := E1.out.1
  have p2 : 0 ≤ k + (n0 : Int) + (n1 : Int) := E2.out.1
  have p3 : 0 ≤ k + (n0 : Int) + (n1 : Int) + (n2 : Int) := E3.out.1
  have p4 : 0 ≤ k + (n0 : Int) + (n1 : Int) + (n2 : Int) + (n3 : Int) := by omega
  go_enter Tryz.func29, Tryz.ntmps29
  go_wp2_with fail
  clear hW hS
  refine (held_nums _ k n0 _ _ (N0.out.keep B0.out) E0.out.1 E0.out.2).mono ?_
  rintro e w1 ⟨rfl, rfl⟩
  go_wp2_with fail
  refine (held_nums _ (k + n0) n1 _ _ (N1.out.keep B0.out) E1.out.1 E1.out.2).mono ?_
  rintro e w1 ⟨rfl, rfl⟩
  go_wp2_with fail
  refine (held_nums _ (k + n0 + n1) n2 _ _ (N2.out.keep B0.out) E2.out.1 E2.out.2).mono ?_
  rintro e w1 ⟨rfl, rfl⟩
  go_wp2_with fail
  refine (held_nums _ (k + n0 + n1 + n2) n3 _ _ (N3.out.keep B0.out) E3.out.1 E3.out.2).mono ?_
  rintro e w1 ⟨rfl, rfl⟩
  go_wp2_with fail
  go_ret
  exact ⟨rfl, B0.out⟩
end Go.Proofs.YtcbcbgomafeccaaGreatDoor
namespace Go.Proofs.YtcbcbgomafeccaaGreatDoor
open Go.RowKit
set_option linter.unusedVariables false

theorem add_block (x : Addr) (i : Nat) : (x.add i).block = x.block := by unfold Addr.add; split <;> rfl
/-- A list lies in no block of another type. -/
theorem Nums.ne_vb {w : World} {b m : Nat} {v : Value} {zs : List Int} {cs : Array Value} {t : TypeId} (h : Nums w b v zs) (hv : Vb w m cs t) (ht : t ≠ 2) : v.ownBlock ≠ some m := by
  obtain ⟨h1, ⟨rfl, _⟩ | ⟨g, cap, cur, rfl, hg, hr, _⟩⟩ := h
  · intro e; cases e
  · intro e
    have e : g = m := by simpa [Value.ownBlock] using e
    subst e
    unfold Vb at hv
    rw [hv] at hr
    cases hr
    exact ht rfl
theorem Rn.mq {S : Nat → Prop} {w w' : World} {a : Option Addr} {len cap : Nat} {zs : List Int} (h : Rn w a len cap zs) (m : Mq S w w') (hn : ∀ x, a = some x → x.block < w.heap.size → ¬ S x.block) : Rn w' a len cap zs := by
  rcases h with h | ⟨x, rfl, h1, h2, h3, h4⟩
  · exact .inl h
  · refine .inr ⟨x, rfl, h1, h2, h3, fun i hi => ?_⟩
    have hc := h4 i hi
    have hl : x.block < w.heap.size := by have := World.block_lt_of_cell? w (x.add i) hc; rwa [add_block] at this
    rw [← hc]
    exact World.cell?_of_block (a := x.add i) (by rw [add_block]; exact m.block x.block hl (hn x rfl hl))
theorem Rv.mq {S : Nat → Prop} {w w' : World} {v : Value} {zs : List Int} (h : Rv w v zs) (m : Mq S w w') (hn : ∀ k, v.ownBlock = some k → k < w.heap.size → ¬ S k) : Rv w' v zs := by
  obtain ⟨a, cap, rfl, h2⟩ := h
  exact ⟨a, cap, rfl, h2.mq m fun x e hl => hn x.block (by rw [e]; rfl) hl⟩
/-- A machine whose four lists are read alone. -/
structure Hr (w : World) (r c i o : Value) (H : Ht) : Prop where
  r : Rv w r H.regs
  c : Rv w c H.csr
  i : Rv w i H.inn
  o : Rv w o H.out
theorem Hr.stay {w w' : World} {r c i o : Value} {H : Ht} (h : Hr w r c i o H) (b : Below w.heap.size w w') : Hr w' r c i o H := ⟨h.r.stay b, h.c.stay b, h.i.stay b, h.o.stay b⟩
theorem Hm.hr {w : World} {base : Nat} {r c i o : Value} {H : Ht} (h : Hm w base r c i o H) : Hr w r c i o H := ⟨h.r.rv, h.c.rv, h.i.rv, h.o.rv⟩
theorem Hr.mq {S : Nat → Prop} {w w' : World} {r c i o : Value} {H : Ht} (h : Hr w r c i o H) (m : Mq S w w') (hn : ∀ k, Own4 r c i o k → k < w.heap.size → ¬ S k) : Hr w' r c i o H :=
  ⟨h.r.mq m fun k e => hn k (.inl e), h.c.mq m fun k e => hn k (.inr (.inl e)), h.i.mq m fun k e => hn k (.inr (.inr (.inl e))), h.o.mq m fun k e => hn k (.inr (.inr (.inr e)))⟩

set_option maxHeartbeats 1000000 in
theorem eq_rn (v u : Value) (zs : List Int) (w : World) (h : Rv w v zs) (k : Rv w u zs) :
    Calls Tryz.prog 15 #[v, u] w fun e w' => e = .returned (.bool true) ∧ Below w.heap.size w w' := by
  obtain ⟨a, cap, rfl, h1⟩ := h
  obtain ⟨a', cap', rfl, k1⟩ := k
  have hl : (zs.length : Int) ≤ 9223372036854775807 := by have := h1.cap; unfold maxLen at this; omega
  have HZ : Hid (Rn w a zs.length cap zs) := h1
  have KZ : Hid (Rn w a' zs.length cap' zs) := k1
  clear h1 k1
  obtain ⟨n, hn⟩ : ∃ n, zs.length = n := ⟨_, rfl⟩
  rw [hn] at HZ KZ hl ⊢
  clear hn
  go_enter Tryz.func15, Tryz.ntmps15
  go_wp2_with fail
  go_loopw [5] (fun i wr => ∃ j : Nat, j ≤ n ∧ i = .int .i64 j ∧ Below w.heap.size w wr) (fun i _ => n - (intOf i).toNat)
  case atStart => exact ⟨0, Nat.zero_le _, rfl, Below.refl _ _⟩
  case round =>
    obtain ⟨j, hj, rfl, hB⟩ := hrel
    have HB : Hid (Below _ _ _) := hB
    by_cases hlt : j < n
    · obtain ⟨x, rfl, c1⟩ := HZ.out.at j hlt
      obtain ⟨y, rfl, c2⟩ := KZ.out.at j hlt
      have c1' := cell_keep hB c1
      have c2' := cell_keep hB c2
      have hI : (j : Int) < (n : Int) := by omega
      have HL : Hid (j < n) := hlt
      clear hB hlt c1 c2
      go_wp2_with fail
      go_quiet (fail)
      go_wp2_with fail
      go_roundw
      case rel => exact ⟨j + 1, by have := HL.out; omega, by go_num, dr HB.out _⟩
      case measure => have := HL.out; simp [intOf]; omega
    · have hI : ¬ (j : Int) < (n : Int) := by omega
      clear hB
      go_wp2_with fail
      go_ret
      exact ⟨rfl, HB.out⟩
end Go.Proofs.YtcbcbgomafeccaaGreatDoor
namespace Go.Proofs.YtcbcbgomafeccaaGreatDoor
open Go.RowKit
set_option linter.unusedVariables false

theorem Nums.apt {w w' : World} {base base' : Nat} {v u : Value} {zs ys : List Int} (h : Nums w base v zs) (k : Nums w' base' u ys) (hb : w.heap.size ≤ base') : Apt v u := own_ne h k hb

theorem Mq.refl (S : Nat → Prop) (w : World) : Mq S w w := ⟨rfl, rfl, rfl, Nat.le_refl _, fun _ _ _ => rfl⟩
theorem Mq.set {S : Nat → Prop} {a w : World} (m : Mq S a w) (p : Addr) (u : Value) (hp : S p.block) : Mq S a (w.setCell p u) := m.trans (Mq.of (grown_set w p u) fun k e => by cases e; exact hp)
theorem Mq.ho {S : Nat → Prop} {base : Nat} {w w' : World} (m : Mq S w w') (h : ∀ k, S k → k < base) : Ho base w w' := ⟨m.size, fun k hb hk => m.block k hk fun e => by have := h k e; omega⟩
theorem Mq.under {S : Nat → Prop} {a w w' : World} (b : Below a.heap.size a w) (m : Mq S w w') (h : ∀ k, S k → a.heap.size ≤ k) : Below a.heap.size a w' := Mq.below b m h
/-- A machine, and an answer with one, that is stored whole. -/
theorem nine {v : World} {q : Nat} {t : TypeId} {z0 z1 z2 z3 z4 z5 z6 z7 z8 : Value} (h : Vb v q #[z0, z1, z2, z3, z4, z5, z6, z7, z8] t) (u0 u1 u2 u3 u4 u5 u6 u7 u8 : Value) :
    Vb (((((((((v.setCell ⟨q, 0, none⟩ u0).setCell ⟨q, 1, none⟩ u1).setCell ⟨q, 2, none⟩ u2).setCell ⟨q, 3, none⟩ u3).setCell ⟨q, 4, none⟩ u4).setCell ⟨q, 5, none⟩ u5).setCell ⟨q, 6, none⟩ u6).setCell ⟨q, 7, none⟩ u7).setCell ⟨q, 8, none⟩ u8) q #[u0, u1, u2, u3, u4, u5, u6, u7, u8] t ∧ Mq (fun k => k = q) v (((((((((v.setCell ⟨q, 0, none⟩ u0).setCell ⟨q, 1, none⟩ u1).setCell ⟨q, 2, none⟩ u2).setCell ⟨q, 3, none⟩ u3).setCell ⟨q, 4, none⟩ u4).setCell ⟨q, 5, none⟩ u5).setCell ⟨q, 6, none⟩ u6).setCell ⟨q, 7, none⟩ u7).setCell ⟨q, 8, none⟩ u8) := by
  have h0 : Vb (v.setCell ⟨q, 0, none⟩ u0) q #[u0, z1, z2, z3, z4, z5, z6, z7, z8] t := h.set 0 u0
  have h1 : Vb ((v.setCell ⟨q, 0, none⟩ u0).setCell ⟨q, 1, none⟩ u1) q #[u0, u1, z2, z3, z4, z5, z6, z7, z8] t := h0.set 1 u1
  have h2 : Vb (((v.setCell ⟨q, 0, none⟩ u0).setCell ⟨q, 1, none⟩ u1).setCell ⟨q, 2, none⟩ u2) q #[u0, u1, u2, z3, z4, z5, z6, z7, z8] t := h1.set 2 u2
  have h3 : Vb ((((v.setCell ⟨q, 0, none⟩ u0).setCell ⟨q, 1, none⟩ u1).setCell ⟨q, 2, none⟩ u2).setCell ⟨q, 3, none⟩ u3) q #[u0, u1, u2, u3, z4, z5, z6, z7, z8] t := h2.set 3 u3
  have h4 : Vb (((((v.setCell ⟨q, 0, none⟩ u0).setCell ⟨q, 1, none⟩ u1).setCell ⟨q, 2, none⟩ u2).setCell ⟨q, 3, none⟩ u3).setCell ⟨q, 4, none⟩ u4) q #[u0, u1, u2, u3, u4, z5, z6, z7, z8] t := h3.set 4 u4
  have h5 : Vb ((((((v.setCell ⟨q, 0, none⟩ u0).setCell ⟨q, 1, none⟩ u1).setCell ⟨q, 2, none⟩ u2).setCell ⟨q, 3, none⟩ u3).setCell ⟨q, 4, none⟩ u4).setCell ⟨q, 5, none⟩ u5) q #[u0, u1, u2, u3, u4, u5, z6, z7, z8] t := h4.set 5 u5
  have h6 : Vb (((((((v.setCell ⟨q, 0, none⟩ u0).setCell ⟨q, 1, none⟩ u1).setCell ⟨q, 2, none⟩ u2).setCell ⟨q, 3, none⟩ u3).setCell ⟨q, 4, none⟩ u4).setCell ⟨q, 5, none⟩ u5).setCell ⟨q, 6, none⟩ u6) q #[u0, u1, u2, u3, u4, u5, u6, z7, z8] t := h5.set 6 u6
  have h7 : Vb ((((((((v.setCell ⟨q, 0, none⟩ u0).setCell ⟨q, 1, none⟩ u1).setCell ⟨q, 2, none⟩ u2).setCell ⟨q, 3, none⟩ u3).setCell ⟨q, 4, none⟩ u4).setCell ⟨q, 5, none⟩ u5).setCell ⟨q, 6, none⟩ u6).setCell ⟨q, 7, none⟩ u7) q #[u0, u1, u2, u3, u4, u5, u6, u7, z8] t := h6.set 7 u7
  have h8 : Vb (((((((((v.setCell ⟨q, 0, none⟩ u0).setCell ⟨q, 1, none⟩ u1).setCell ⟨q, 2, none⟩ u2).setCell ⟨q, 3, none⟩ u3).setCell ⟨q, 4, none⟩ u4).setCell ⟨q, 5, none⟩ u5).setCell ⟨q, 6, none⟩ u6).setCell ⟨q, 7, none⟩ u7).setCell ⟨q, 8, none⟩ u8) q #[u0, u1, u2, u3, u4, u5, u6, u7, u8] t := h7.set 8 u8
  exact ⟨h8, (((((((((Mq.refl (fun k => k = q) v).set ⟨q, 0, none⟩ u0 rfl).set ⟨q, 1, none⟩ u1 rfl).set ⟨q, 2, none⟩ u2 rfl).set ⟨q, 3, none⟩ u3 rfl).set ⟨q, 4, none⟩ u4 rfl).set ⟨q, 5, none⟩ u5 rfl).set ⟨q, 6, none⟩ u6 rfl).set ⟨q, 7, none⟩ u7 rfl).set ⟨q, 8, none⟩ u8 rfl⟩
/-- What toHart has under way: the machine that came in (A), the answer's place, and what is made so far (O). -/
structure Tv (w v : World) (s : Nat) (A O : Array Value) : Prop where
  A : Vb v s A 24
  R : Vb v (s + 1) #[.slice none 0 0, .int .i64 0, .slice none 0 0, .bool false, .bool false, .bool false, .int .i64 0, .slice none 0 0, .slice none 0 0] 28
  O : Vb v (s + 1 + 1) O 28
  b : Below w.heap.size w v
  s : w.heap.size = s
theorem Tv.keep {w v v' : World} {s : Nat} {A O : Array Value} (h : Tv w v s A O) (b : Below v.heap.size v v') : Tv w v' s A O := ⟨h.A.keep b, h.R.keep b, h.O.keep b, on h.b b, h.s⟩
theorem Tv.put {w v : World} {s : Nat} {A O : Array Value} (h : Tv w v s A O) (j : Nat) (u : Value) : Tv w (v.setCell ⟨s + 1 + 1, j, none⟩ u) s A (O.setIfInBounds j u) :=
  ⟨h.A.put _ _ (by show s ≠ s + 1 + 1; omega), h.R.put _ _ (by show s + 1 ≠ s + 1 + 1; omega), h.O.set j u, h.b.setCell (by have := h.s; show w.heap.size ≤ s + 1 + 1; omega) _, h.s⟩

set_option maxRecDepth 20000 in
set_option maxHeartbeats 8000000 in
theorem to_hart (a0 a1 a2 a3 : Option Addr) (n0 c0 n1 c1 n2 c2 n3 c3 : Nat) (H : Ht) (w : World) (h : Hin w a0 n0 c0 a1 n1 c1 a2 n2 c2 a3 n3 c3 H) (hs : Hs n0 n1 n2 n3) :
    Calls Tryz.prog 8 #[.agg #[.slice a0 n0 c0, .int .i64 H.pc, .slice a1 n1 c1, .bool H.halted, .bool H.waiting, .bool H.rung, .int .i64 H.done, .slice a2 n2 c2, .slice a3 n3 c3]] w fun e w' => ∃ r c i o, e = .returned (.agg #[r, .int .i64 H.pc, c, .bool H.halted, .bool H.waiting, .bool H.rung, .int .i64 H.done, i, o]) ∧
      Hm w' w.heap.size r c i o H ∧ Ha r c i o ∧ Below w.heap.size w w' := by
  have HS : Hid (Hs n0 n1 n2 n3) := hs
  have HP : Hid (Hin w a0 n0 c0 a1 n1 c1 a2 n2 c2 a3 n3 c3 H) := h
  clear h hs
  generalize hW : ((w.alloc (.cells #[.slice a0 n0 c0, .int .i64 H.pc, .slice a1 n1 c1, .bool H.halted, .bool H.waiting, .bool H.rung, .int .i64 H.done, .slice a2 n2 c2, .slice a3 n3 c3] 24)).alloc (.cells #[.slice none 0 0, .int .i64 0, .slice none 0 0, .bool false, .bool false, .bool false, .int .i64 0, .slice none 0 0, .slice none 0 0] 28)).alloc (.cells #[.slice none 0 0, .int .i64 0, .slice none 0 0, .bool false, .bool false, .bool false, .int .i64 0, .slice none 0 0, .slice none 0 0] 28) = W
  have SZ : Hid (W.heap.size = w.heap.size + 3) := by show _ = _; rw [← hW]; simp
  obtain ⟨s, hS⟩ : ∃ s, w.heap.size = s := ⟨_, rfl⟩
  have HSs : Hid (w.heap.size = s) := hS
  have T0 : Hid (Tv w W s #[.slice a0 n0 c0, .int .i64 H.pc, .slice a1 n1 c1, .bool H.halted, .bool H.waiting, .bool H.rung, .int .i64 H.done, .slice a2 n2 c2, .slice a3 n3 c3] #[.slice none 0 0, .int .i64 0, .slice none 0 0, .bool false, .bool false, .bool false, .int .i64 0, .slice none 0 0, .slice none 0 0]) := by
    have z1 : s + 1 = (w.alloc (.cells #[.slice a0 n0 c0, .int .i64 H.pc, .slice a1 n1 c1, .bool H.halted, .bool H.waiting, .bool H.rung, .int .i64 H.done, .slice a2 n2 c2, .slice a3 n3 c3] 24)).heap.size := by rw [← hS]; simp
    have z2 : s + 1 + 1 = ((w.alloc (.cells #[.slice a0 n0 c0, .int .i64 H.pc, .slice a1 n1 c1, .bool H.halted, .bool H.waiting, .bool H.rung, .int .i64 H.done, .slice a2 n2 c2, .slice a3 n3 c3] 24)).alloc (.cells #[.slice none 0 0, .int .i64 0, .slice none 0 0, .bool false, .bool false, .bool false, .int .i64 0, .slice none 0 0, .slice none 0 0] 28)).heap.size := by rw [← hS]; simp
    refine ⟨?_, ?_, ?_, by rw [← hW]; exact al (al (al (Below.refl _ _) _) _) _, hS⟩
    · rw [← hW, ← hS]; exact ((Vb.new _ _ _).push _).push _
    · rw [← hW, z1]; exact (Vb.new _ _ _).push _
    · rw [← hW, z2]; exact Vb.new _ _ _
  have q0 := T0.out.A.cell 0 rfl
  go_enter Tryz.func8, Tryz.ntmps8
  go_wp2_with fail
  clear hW hS q0
  refine (to_nums _ _ _ _ _ (HP.out.stay T0.out.b).regs HS.out.regs).mono ?_
  rintro e w1 ⟨g0, rfl, m1, b1⟩
  have M0 : Hid (Nums w1 (s + 3) (.slice (some ⟨g0, 0, none⟩) n0 n0) H.regs) := m1.mono (by have := SZ.out; have := HSs.out; omega)
  have MB0 : Hid (Nums w1 W.heap.size (.slice (some ⟨g0, 0, none⟩) n0 n0) H.regs) := m1
  have S1 := T0.out.keep b1
  have o0 := S1.O.cell 0 rfl
  have f0 := S1.O.free 0
  have o1 := S1.O.cell 1 rfl
  have f1 := S1.O.free 1
  have e1 := S1.A.cell 1 rfl
  have e2 := S1.A.cell 2 rfl
  have T1 : Hid (Tv w ((w1.setCell ⟨s + 1 + 1, 0, none⟩ (.slice (some ⟨g0, 0, none⟩) n0 n0)).setCell ⟨s + 1 + 1, 1, none⟩ (.int .i64 H.pc)) s #[.slice a0 n0 c0, .int .i64 H.pc, .slice a1 n1 c1, .bool H.halted, .bool H.waiting, .bool H.rung, .int .i64 H.done, .slice a2 n2 c2, .slice a3 n3 c3] #[.slice (some ⟨g0, 0, none⟩) n0 n0, .int .i64 H.pc, .slice none 0 0, .bool false, .bool false, .bool false, .int .i64 0, .slice none 0 0, .slice none 0 0]) := ((S1.put 0 (.slice (some ⟨g0, 0, none⟩) n0 n0)).put 1 (.int .i64 H.pc))
  have H1 : Hid (Ho (s + 3) w1 ((w1.setCell ⟨s + 1 + 1, 0, none⟩ (.slice (some ⟨g0, 0, none⟩) n0 n0)).setCell ⟨s + 1 + 1, 1, none⟩ (.int .i64 H.pc))) := (Ho.set w1 ⟨s + 1 + 1, 0, none⟩ (.slice (some ⟨g0, 0, none⟩) n0 n0) (by show s + 1 + 1 < s + 3; omega)).trans (Ho.set (w1.setCell ⟨s + 1 + 1, 0, none⟩ (.slice (some ⟨g0, 0, none⟩) n0 n0)) ⟨s + 1 + 1, 1, none⟩ (.int .i64 H.pc) (by show s + 1 + 1 < s + 3; omega))
  have Z1 : Hid (s + 3 ≤ ((w1.setCell ⟨s + 1 + 1, 0, none⟩ (.slice (some ⟨g0, 0, none⟩) n0 n0)).setCell ⟨s + 1 + 1, 1, none⟩ (.int .i64 H.pc)).heap.size) := by have := T1.out.O.lt; show _ ≤ _; omega
  have Y1 : Hid (w1.heap.size ≤ ((w1.setCell ⟨s + 1 + 1, 0, none⟩ (.slice (some ⟨g0, 0, none⟩) n0 n0)).setCell ⟨s + 1 + 1, 1, none⟩ (.int .i64 H.pc)).heap.size) := H1.out.size
  clear S1 m1 b1
  go_wp2_with fail
  generalize ((w1.setCell ⟨s + 1 + 1, 0, none⟩ (.slice (some ⟨g0, 0, none⟩) n0 n0)).setCell ⟨s + 1 + 1, 1, none⟩ (.int .i64 H.pc)) = v1 at *
  clear o0 f0 o1 f1 e1 e2
  refine (to_nums _ _ _ _ _ (HP.out.stay T1.out.b).csr HS.out.csr).mono ?_
  rintro e w2 ⟨g1, rfl, m1, b1⟩
  have M1 : Hid (Nums w2 (s + 3) (.slice (some ⟨g1, 0, none⟩) n1 n1) H.csr) := m1.mono Z1.out
  have H12 : Hid (Ho (s + 3) w1 w2) := H1.out.trans (Ho.of b1)
  have MB1 : Hid (Nums w2 v1.heap.size (.slice (some ⟨g1, 0, none⟩) n1 n1) H.csr) := m1
  have S1 := T1.out.keep b1
  have o2 := S1.O.cell 2 rfl
  have f2 := S1.O.free 2
  have o3 := S1.O.cell 3 rfl
  have f3 := S1.O.free 3
  have o4 := S1.O.cell 4 rfl
  have f4 := S1.O.free 4
  have o5 := S1.O.cell 5 rfl
  have f5 := S1.O.free 5
  have o6 := S1.O.cell 6 rfl
  have f6 := S1.O.free 6
  have e3 := S1.A.cell 3 rfl
  have e4 := S1.A.cell 4 rfl
  have e5 := S1.A.cell 5 rfl
  have e6 := S1.A.cell 6 rfl
  have e7 := S1.A.cell 7 rfl
  have T2 : Hid (Tv w (((((w2.setCell ⟨s + 1 + 1, 2, none⟩ (.slice (some ⟨g1, 0, none⟩) n1 n1)).setCell ⟨s + 1 + 1, 3, none⟩ (.bool H.halted)).setCell ⟨s + 1 + 1, 4, none⟩ (.bool H.waiting)).setCell ⟨s + 1 + 1, 5, none⟩ (.bool H.rung)).setCell ⟨s + 1 + 1, 6, none⟩ (.int .i64 H.done)) s #[.slice a0 n0 c0, .int .i64 H.pc, .slice a1 n1 c1, .bool H.halted, .bool H.waiting, .bool H.rung, .int .i64 H.done, .slice a2 n2 c2, .slice a3 n3 c3] #[.slice (some ⟨g0, 0, none⟩) n0 n0, .int .i64 H.pc, .slice (some ⟨g1, 0, none⟩) n1 n1, .bool H.halted, .bool H.waiting, .bool H.rung, .int .i64 H.done, .slice none 0 0, .slice none 0 0]) := (((((S1.put 2 (.slice (some ⟨g1, 0, none⟩) n1 n1)).put 3 (.bool H.halted)).put 4 (.bool H.waiting)).put 5 (.bool H.rung)).put 6 (.int .i64 H.done))
  have H2 : Hid (Ho (s + 3) w2 (((((w2.setCell ⟨s + 1 + 1, 2, none⟩ (.slice (some ⟨g1, 0, none⟩) n1 n1)).setCell ⟨s + 1 + 1, 3, none⟩ (.bool H.halted)).setCell ⟨s + 1 + 1, 4, none⟩ (.bool H.waiting)).setCell ⟨s + 1 + 1, 5, none⟩ (.bool H.rung)).setCell ⟨s + 1 + 1, 6, none⟩ (.int .i64 H.done))) := ((((Ho.set w2 ⟨s + 1 + 1, 2, none⟩ (.slice (some ⟨g1, 0, none⟩) n1 n1) (by show s + 1 + 1 < s + 3; omega)).trans (Ho.set (w2.setCell ⟨s + 1 + 1, 2, none⟩ (.slice (some ⟨g1, 0, none⟩) n1 n1)) ⟨s + 1 + 1, 3, none⟩ (.bool H.halted) (by show s + 1 + 1 < s + 3; omega))).trans (Ho.set ((w2.setCell ⟨s + 1 + 1, 2, none⟩ (.slice (some ⟨g1, 0, none⟩) n1 n1)).setCell ⟨s + 1 + 1, 3, none⟩ (.bool H.halted)) ⟨s + 1 + 1, 4, none⟩ (.bool H.waiting) (by show s + 1 + 1 < s + 3; omega))).trans (Ho.set (((w2.setCell ⟨s + 1 + 1, 2, none⟩ (.slice (some ⟨g1, 0, none⟩) n1 n1)).setCell ⟨s + 1 + 1, 3, none⟩ (.bool H.halted)).setCell ⟨s + 1 + 1, 4, none⟩ (.bool H.waiting)) ⟨s + 1 + 1, 5, none⟩ (.bool H.rung) (by show s + 1 + 1 < s + 3; omega))).trans (Ho.set ((((w2.setCell ⟨s + 1 + 1, 2, none⟩ (.slice (some ⟨g1, 0, none⟩) n1 n1)).setCell ⟨s + 1 + 1, 3, none⟩ (.bool H.halted)).setCell ⟨s + 1 + 1, 4, none⟩ (.bool H.waiting)).setCell ⟨s + 1 + 1, 5, none⟩ (.bool H.rung)) ⟨s + 1 + 1, 6, none⟩ (.int .i64 H.done) (by show s + 1 + 1 < s + 3; omega))
  have Z2 : Hid (s + 3 ≤ (((((w2.setCell ⟨s + 1 + 1, 2, none⟩ (.slice (some ⟨g1, 0, none⟩) n1 n1)).setCell ⟨s + 1 + 1, 3, none⟩ (.bool H.halted)).setCell ⟨s + 1 + 1, 4, none⟩ (.bool H.waiting)).setCell ⟨s + 1 + 1, 5, none⟩ (.bool H.rung)).setCell ⟨s + 1 + 1, 6, none⟩ (.int .i64 H.done)).heap.size) := by have := T2.out.O.lt; show _ ≤ _; omega
  have Y2 : Hid (w2.heap.size ≤ (((((w2.setCell ⟨s + 1 + 1, 2, none⟩ (.slice (some ⟨g1, 0, none⟩) n1 n1)).setCell ⟨s + 1 + 1, 3, none⟩ (.bool H.halted)).setCell ⟨s + 1 + 1, 4, none⟩ (.bool H.waiting)).setCell ⟨s + 1 + 1, 5, none⟩ (.bool H.rung)).setCell ⟨s + 1 + 1, 6, none⟩ (.int .i64 H.done)).heap.size) := H2.out.size
  clear S1 m1 b1
  go_wp2_with fail
  generalize (((((w2.setCell ⟨s + 1 + 1, 2, none⟩ (.slice (some ⟨g1, 0, none⟩) n1 n1)).setCell ⟨s + 1 + 1, 3, none⟩ (.bool H.halted)).setCell ⟨s + 1 + 1, 4, none⟩ (.bool H.waiting)).setCell ⟨s + 1 + 1, 5, none⟩ (.bool H.rung)).setCell ⟨s + 1 + 1, 6, none⟩ (.int .i64 H.done)) = v2 at *
  clear o2 f2 o3 f3 o4 f4 o5 f5 o6 f6 e3 e4 e5 e6 e7
  refine (to_nums _ _ _ _ _ (HP.out.stay T2.out.b).inn HS.out.inn).mono ?_
  rintro e w3 ⟨g2, rfl, m1, b1⟩
  have M2 : Hid (Nums w3 (s + 3) (.slice (some ⟨g2, 0, none⟩) n2 n2) H.inn) := m1.mono Z2.out
  have H23 : Hid (Ho (s + 3) w2 w3) := H2.out.trans (Ho.of b1)
  have MB2 : Hid (Nums w3 v2.heap.size (.slice (some ⟨g2, 0, none⟩) n2 n2) H.inn) := m1
  have S1 := T2.out.keep b1
  have o7 := S1.O.cell 7 rfl
  have f7 := S1.O.free 7
  have e8 := S1.A.cell 8 rfl
  have T3 : Hid (Tv w (w3.setCell ⟨s + 1 + 1, 7, none⟩ (.slice (some ⟨g2, 0, none⟩) n2 n2)) s #[.slice a0 n0 c0, .int .i64 H.pc, .slice a1 n1 c1, .bool H.halted, .bool H.waiting, .bool H.rung, .int .i64 H.done, .slice a2 n2 c2, .slice a3 n3 c3] #[.slice (some ⟨g0, 0, none⟩) n0 n0, .int .i64 H.pc, .slice (some ⟨g1, 0, none⟩) n1 n1, .bool H.halted, .bool H.waiting, .bool H.rung, .int .i64 H.done, .slice (some ⟨g2, 0, none⟩) n2 n2, .slice none 0 0]) := (S1.put 7 (.slice (some ⟨g2, 0, none⟩) n2 n2))
  have H3 : Hid (Ho (s + 3) w3 (w3.setCell ⟨s + 1 + 1, 7, none⟩ (.slice (some ⟨g2, 0, none⟩) n2 n2))) := Ho.set w3 ⟨s + 1 + 1, 7, none⟩ (.slice (some ⟨g2, 0, none⟩) n2 n2) (by show s + 1 + 1 < s + 3; omega)
  have Z3 : Hid (s + 3 ≤ (w3.setCell ⟨s + 1 + 1, 7, none⟩ (.slice (some ⟨g2, 0, none⟩) n2 n2)).heap.size) := by have := T3.out.O.lt; show _ ≤ _; omega
  have Y3 : Hid (w3.heap.size ≤ (w3.setCell ⟨s + 1 + 1, 7, none⟩ (.slice (some ⟨g2, 0, none⟩) n2 n2)).heap.size) := H3.out.size
  clear S1 m1 b1
  go_wp2_with fail
  generalize (w3.setCell ⟨s + 1 + 1, 7, none⟩ (.slice (some ⟨g2, 0, none⟩) n2 n2)) = v3 at *
  clear o7 f7 e8
  refine (to_nums _ _ _ _ _ (HP.out.stay T3.out.b).out HS.out.out).mono ?_
  rintro e w4 ⟨g3, rfl, m1, b1⟩
  have M3 : Hid (Nums w4 (s + 3) (.slice (some ⟨g3, 0, none⟩) n3 n3) H.out) := m1.mono Z3.out
  have H34 : Hid (Ho (s + 3) w3 w4) := H3.out.trans (Ho.of b1)
  have MB3 : Hid (Nums w4 v3.heap.size (.slice (some ⟨g3, 0, none⟩) n3 n3) H.out) := m1
  have S1 := T3.out.keep b1
  have o8 := S1.O.cell 8 rfl
  have f8 := S1.O.free 8
  have T4 : Hid (Tv w (w4.setCell ⟨s + 1 + 1, 8, none⟩ (.slice (some ⟨g3, 0, none⟩) n3 n3)) s #[.slice a0 n0 c0, .int .i64 H.pc, .slice a1 n1 c1, .bool H.halted, .bool H.waiting, .bool H.rung, .int .i64 H.done, .slice a2 n2 c2, .slice a3 n3 c3] #[.slice (some ⟨g0, 0, none⟩) n0 n0, .int .i64 H.pc, .slice (some ⟨g1, 0, none⟩) n1 n1, .bool H.halted, .bool H.waiting, .bool H.rung, .int .i64 H.done, .slice (some ⟨g2, 0, none⟩) n2 n2, .slice (some ⟨g3, 0, none⟩) n3 n3]) := (S1.put 8 (.slice (some ⟨g3, 0, none⟩) n3 n3))
  have H4 : Hid (Ho (s + 3) w4 (w4.setCell ⟨s + 1 + 1, 8, none⟩ (.slice (some ⟨g3, 0, none⟩) n3 n3))) := Ho.set w4 ⟨s + 1 + 1, 8, none⟩ (.slice (some ⟨g3, 0, none⟩) n3 n3) (by show s + 1 + 1 < s + 3; omega)
  have Z4 : Hid (s + 3 ≤ (w4.setCell ⟨s + 1 + 1, 8, none⟩ (.slice (some ⟨g3, 0, none⟩) n3 n3)).heap.size) := by have := T4.out.O.lt; show _ ≤ _; omega
  have Y4 : Hid (w4.heap.size ≤ (w4.setCell ⟨s + 1 + 1, 8, none⟩ (.slice (some ⟨g3, 0, none⟩) n3 n3)).heap.size) := H4.out.size
  clear S1 m1 b1
  have p0 := T4.out.O.cell 0 rfl
  have r0 := T4.out.R.cell 0 rfl
  have y0 := T4.out.R.free 0
  have p1 := T4.out.O.cell 1 rfl
  have r1 := T4.out.R.cell 1 rfl
  have y1 := T4.out.R.free 1
  have p2 := T4.out.O.cell 2 rfl
  have r2 := T4.out.R.cell 2 rfl
  have y2 := T4.out.R.free 2
  have p3 := T4.out.O.cell 3 rfl
  have r3 := T4.out.R.cell 3 rfl
  have y3 := T4.out.R.free 3
  have p4 := T4.out.O.cell 4 rfl
  have r4 := T4.out.R.cell 4 rfl
  have y4 := T4.out.R.free 4
  have p5 := T4.out.O.cell 5 rfl
  have r5 := T4.out.R.cell 5 rfl
  have y5 := T4.out.R.free 5
  have p6 := T4.out.O.cell 6 rfl
  have r6 := T4.out.R.cell 6 rfl
  have y6 := T4.out.R.free 6
  have p7 := T4.out.O.cell 7 rfl
  have r7 := T4.out.R.cell 7 rfl
  have y7 := T4.out.R.free 7
  have p8 := T4.out.O.cell 8 rfl
  have r8 := T4.out.R.cell 8 rfl
  have y8 := T4.out.R.free 8
  go_wp2_with fail
  generalize (w4.setCell ⟨s + 1 + 1, 8, none⟩ (.slice (some ⟨g3, 0, none⟩) n3 n3)) = v4 at *
  have NN : Hid (_ ∧ _) := nine T4.out.R (.slice (some ⟨g0, 0, none⟩) n0 n0) (.int .i64 H.pc) (.slice (some ⟨g1, 0, none⟩) n1 n1) (.bool H.halted) (.bool H.waiting) (.bool H.rung) (.int .i64 H.done) (.slice (some ⟨g2, 0, none⟩) n2 n2) (.slice (some ⟨g3, 0, none⟩) n3 n3)
  clear p0 r0 y0 p1 r1 y1 p2 r2 y2 p3 r3 y3 p4 r4 y4 p5 r5 y5 p6 r6 y6 p7 r7 y7 p8 r8 y8
  generalize (((((((((v4.setCell ⟨s + 1, 0, none⟩ (.slice (some ⟨g0, 0, none⟩) n0 n0)).setCell ⟨s + 1, 1, none⟩ (.int .i64 H.pc)).setCell ⟨s + 1, 2, none⟩ (.slice (some ⟨g1, 0, none⟩) n1 n1)).setCell ⟨s + 1, 3, none⟩ (.bool H.halted)).setCell ⟨s + 1, 4, none⟩ (.bool H.waiting)).setCell ⟨s + 1, 5, none⟩ (.bool H.rung)).setCell ⟨s + 1, 6, none⟩ (.int .i64 H.done)).setCell ⟨s + 1, 7, none⟩ (.slice (some ⟨g2, 0, none⟩) n2 n2)).setCell ⟨s + 1, 8, none⟩ (.slice (some ⟨g3, 0, none⟩) n3 n3)) = V at *
  have H5 : Hid (Ho (s + 3) w4 V) := H4.out.trans (NN.out.2.ho fun k e => by omega)
  have B5 : Hid (Below w.heap.size w V) := Mq.under T4.out.b NN.out.2 fun k e => by have := HSs.out; omega
  have A01 : Apt (.slice (some ⟨g0, 0, none⟩) n0 n0) (.slice (some ⟨g1, 0, none⟩) n1 n1) := MB0.out.apt MB1.out Y1.out
  have A02 : Apt (.slice (some ⟨g0, 0, none⟩) n0 n0) (.slice (some ⟨g2, 0, none⟩) n2 n2) := MB0.out.apt MB2.out (Nat.le_trans H12.out.size Y2.out)
  have A03 : Apt (.slice (some ⟨g0, 0, none⟩) n0 n0) (.slice (some ⟨g3, 0, none⟩) n3 n3) := MB0.out.apt MB3.out (Nat.le_trans (Nat.le_trans H12.out.size H23.out.size) Y3.out)
  have A12 : Apt (.slice (some ⟨g1, 0, none⟩) n1 n1) (.slice (some ⟨g2, 0, none⟩) n2 n2) := MB1.out.apt MB2.out Y2.out
  have A13 : Apt (.slice (some ⟨g1, 0, none⟩) n1 n1) (.slice (some ⟨g3, 0, none⟩) n3 n3) := MB1.out.apt MB3.out (Nat.le_trans H23.out.size Y3.out)
  have A23 : Apt (.slice (some ⟨g2, 0, none⟩) n2 n2) (.slice (some ⟨g3, 0, none⟩) n3 n3) := MB2.out.apt MB3.out Y3.out
  have R0 : Nums V w.heap.size (.slice (some ⟨g0, 0, none⟩) n0 n0) H.regs := (M0.out.ho (H12.out.trans (H23.out.trans (H34.out.trans H5.out)))).mono (by have := HSs.out; omega)
  have R1 : Nums V w.heap.size (.slice (some ⟨g1, 0, none⟩) n1 n1) H.csr := (M1.out.ho (H23.out.trans (H34.out.trans H5.out))).mono (by have := HSs.out; omega)
  have R2 : Nums V w.heap.size (.slice (some ⟨g2, 0, none⟩) n2 n2) H.inn := (M2.out.ho (H34.out.trans H5.out)).mono (by have := HSs.out; omega)
  have R3 : Nums V w.heap.size (.slice (some ⟨g3, 0, none⟩) n3 n3) H.out := (M3.out.ho H5.out).mono (by have := HSs.out; omega)
  have x0 := NN.out.1.cell 0 rfl
  have x1 := NN.out.1.cell 1 rfl
  have x2 := NN.out.1.cell 2 rfl
  have x3 := NN.out.1.cell 3 rfl
  have x4 := NN.out.1.cell 4 rfl
  have x5 := NN.out.1.cell 5 rfl
  have x6 := NN.out.1.cell 6 rfl
  have x7 := NN.out.1.cell 7 rfl
  have x8 := NN.out.1.cell 8 rfl
  exact bodyPost_ret (v := .agg #[.slice (some ⟨g0, 0, none⟩) n0 n0, .int .i64 H.pc, .slice (some ⟨g1, 0, none⟩) n1 n1, .bool H.halted, .bool H.waiting, .bool H.rung, .int .i64 H.done, .slice (some ⟨g2, 0, none⟩) n2 n2, .slice (some ⟨g3, 0, none⟩) n3 n3]) (by simp [results, Tryz.results8, go_sem, x0, x1, x2, x3, x4, x5, x6, x7, x8]) rfl
    ⟨_, _, _, _, rfl, ⟨R0, R1, R2, R3⟩, ⟨A01, A02, A03, A12, A13, A23⟩, B5.out⟩
end Go.Proofs.YtcbcbgomafeccaaGreatDoor
namespace Go.Proofs.YtcbcbgomafeccaaGreatDoor
open Go.RowKit
set_option linter.unusedVariables false

set_option maxRecDepth 20000 in
theorem i_clone (a : Option Addr) (n cap : Nat) (zs : List Int) (w : World) (h : Rn w a n cap zs) (hn : n ≤ 100000000) :
    Calls Tryz.prog 100 #[.slice a n cap] w fun e w' => ∃ v, e = .returned v ∧ Nums w' w.heap.size v zs ∧ Below w.heap.size w w' := by
  cases a with
  | none =>
    obtain ⟨h1, h2, h3⟩ : n = 0 ∧ cap = 0 ∧ zs = [] := by
      rcases h with ⟨_, h1, h2, h3⟩ | ⟨x, e, _⟩
      · exact ⟨h1, h2, h3⟩
      · cases e
    subst h1 h2 h3
    have hnil : ∀ W, (binOp .eql 22 (.slice none 0 0) (.slice none 0 0)).run Tryz.prog W = .ok (.bool true) W := fun W => Lib.run_eql_slice_nil_nil W _ _ Tryz.underlying22
    go_enter Tryz.func100, Tryz.ntmps100
    go_wp2_with fail
    go_ret
    exact ⟨_, rfl, Nums.nil _ _, Below.refl _ _⟩
  | some x =>
    have HR : Hid (Rn w (some x) n cap zs) := h
    have HL : Hid (n ≤ 100000000) := hn
    clear h hn
    have hnil : ∀ W, (binOp .eql 22 (.slice (some x) n cap) (.slice none 0 0)).run Tryz.prog W = .ok (.bool false) W := fun W => Lib.run_eql_slice_some_nil W _ _ _ Tryz.underlying22
    go_enter Tryz.func100, Tryz.ntmps100
    go_wp2_with (at_builtin; refine wp_appx _ rfl _ _ rfl w.heap.size _ [] rfl (nums_none _ _ (Nat.le_refl _)) x n cap zs rfl (HR.out.stay (al (Below.refl _ _) _)) (by have := HL.out; simp; omega) (by simp) ?_; intro v' w' hN' hG')
    have B : Below w.heap.size w w' := below_of_grown (al (Below.refl _ _) _) hG' (nums_none _ _ (Nat.le_refl _)) (Nat.le_refl _)
    go_wp2_with fail
    go_ret
    exact ⟨_, rfl, by simpa using hN', B⟩

/-- A number of a list. -/
def gt (zs : List Int) (j : Nat) : Int := zs.getD j 0
/-- The cells of a machine. -/
def mca (H : Ht) (i o : Value) : Array Value := #[.int .i64 (gt H.regs 0), .int .i64 (gt H.regs 1), .int .i64 (gt H.regs 2), .int .i64 (gt H.regs 3), .int .i64 (gt H.regs 4), .int .i64 (gt H.regs 5), .int .i64 (gt H.regs 6), .int .i64 (gt H.regs 7), .int .i64 (gt H.regs 8), .int .i64 (gt H.regs 9), .int .i64 (gt H.regs 10), .int .i64 (gt H.regs 11), .int .i64 (gt H.regs 12), .int .i64 (gt H.regs 13), .int .i64 (gt H.regs 14), .int .i64 (gt H.regs 15), .int .i64 H.pc, .int .i64 (gt H.csr 0), .int .i64 (gt H.csr 1), .int .i64 (gt H.csr 2), .int .i64 (gt H.csr 3), .int .i64 (gt H.csr 4), .int .i64 (gt H.csr 5), .int .i64 (gt H.csr 6), .int .i64 (gt H.csr 7), .int .i64 (gt H.csr 8), .int .i64 (gt H.csr 9), .int .i64 (gt H.csr 10), .bool H.halted, .bool H.waiting, .bool H.rung, .int .i64 H.done, i, o]
theorem mca_lit (H : Ht) (i o : Value) : #[.int .i64 (gt H.regs 0), .int .i64 (gt H.regs 1), .int .i64 (gt H.regs 2), .int .i64 (gt H.regs 3), .int .i64 (gt H.regs 4), .int .i64 (gt H.regs 5), .int .i64 (gt H.regs 6), .int .i64 (gt H.regs 7), .int .i64 (gt H.regs 8), .int .i64 (gt H.regs 9), .int .i64 (gt H.regs 10), .int .i64 (gt H.regs 11), .int .i64 (gt H.regs 12), .int .i64 (gt H.regs 13), .int .i64 (gt H.regs 14), .int .i64 (gt H.regs 15), .int .i64 H.pc, .int .i64 (gt H.csr 0), .int .i64 (gt H.csr 1), .int .i64 (gt H.csr 2), .int .i64 (gt H.csr 3), .int .i64 (gt H.csr 4), .int .i64 (gt H.csr 5), .int .i64 (gt H.csr 6), .int .i64 (gt H.csr 7), .int .i64 (gt H.csr 8), .int .i64 (gt H.csr 9), .int .i64 (gt H.csr 10), .bool H.halted, .bool H.waiting, .bool H.rung, .int .i64 H.done, i, o] = mca H i o := rfl
theorem mca_one (H : Ht) (i o : Value) (hi : i.oneCell' = true) (ho : o.oneCell' = true) : (mca H i o).all (·.oneCell') = true := by
  have h1 : ∀ z : Int, (Value.int .i64 z).oneCell' = true := fun _ => rfl
  have h2 : ∀ z : Bool, (Value.bool z).oneCell' = true := fun _ => rfl
  simp [mca, h1, h2, hi, ho]
end Go.Proofs.YtcbcbgomafeccaaGreatDoor
