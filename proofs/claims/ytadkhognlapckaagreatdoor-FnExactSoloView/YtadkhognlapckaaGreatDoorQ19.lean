/- Texts of this seat, joined. -/
import Derived.Laws.CopyOwn
import Derived.Deep.RegionLaw
import Derived.Deep.RegionWith
import Derived.Deep.Strs
import Derived.Deep.SlicePairs
import Derived.Test.YtadkhognlapckaaGreatDoorQ06
import Derived.Test.YtadkhognlapckaaGreatDoorQ14
import Derived.Test.YtadkhognlapckaaGreatDoorQ16
namespace Go.Proofs.YtadkhognlapckaaGreatDoor
open Go.RowKit
set_option linter.unusedVariables false

theorem Pags.heap {w : World} {base g p : Nat} {zs : List Int} (h : Pags w base (.slice (some ⟨g, 0, none⟩) p p) p zs) : w.heap[g]? = some (.cells (zs.map (Value.int .i64)).toArray 135 (0, 0)) := by
  obtain ⟨h1, ⟨h2, h3⟩ | ⟨g', cap, cur, hv, hb, hh, h4, h5, h6, h7⟩⟩ := h
  · simp at h2
  · simp at hv
    obtain ⟨rfl, rfl⟩ := hv
    rw [List.take_of_length_le (by simp [h6])] at h7
    rw [hh, ← h7]
theorem Pags.of_heap {w : World} {base g p : Nat} {zs : List Int} (hh : w.heap[g]? = some (.cells (zs.map (Value.int .i64)).toArray 135 (0, 0))) (hl : zs.length = p * 8) (hb : base ≤ g) (hp : p ≤ maxLen) : Pags w base (.slice (some ⟨g, 0, none⟩) p p) p zs :=
  ⟨by simpa using hl, .inr ⟨g, p, _, rfl, hb, hh, Nat.le_refl _, hp, by simpa using hl, by rw [List.take_of_length_le (by simp [hl])]⟩⟩

/-- The pages behind j rounds. -/
def cutL (zs : List Int) (p j : Nat) : List Int := zs.take (j * 8) ++ List.replicate ((p - j) * 8) 0
theorem cutL_length (zs : List Int) (p j : Nat) (hz : zs.length = p * 8) (hj : j ≤ p) : (cutL zs p j).length = p * 8 := by
  simp [cutL, hz]
  omega
def eight (zs : List Int) (j : Nat) : List Int := (zs.drop (j * 8)).take 8
theorem eight_length (zs : List Int) (p j : Nat) (hz : zs.length = p * 8) (hj : j < p) : (eight zs j).length = 8 := by
  simp [eight, hz]
  omega
theorem splice_cut (zs : List Int) (p j : Nat) (hz : zs.length = p * 8) (hj : j < p) :
    splice ((cutL zs p j).map (Value.int .i64)) (j * 8) ((eight zs j).map (Value.int .i64)) = (cutL zs p (j + 1)).map (Value.int .i64) := by
  have h8 := eight_length zs p j hz hj
  unfold splice
  rw [List.length_map, h8, ← List.map_take, ← List.map_drop, ← List.map_append, ← List.map_append]
  congr 1
  have e1 : (cutL zs p j).take (j * 8) = zs.take (j * 8) := by
    unfold cutL
    rw [List.take_append_of_le_length (by simp [hz]; omega), List.take_take, Nat.min_self]
  have e2 : (cutL zs p j).drop (j * 8 + 8) = List.replicate ((p - (j + 1)) * 8) 0 := by
    unfold cutL
    rw [List.drop_append, List.drop_of_length_le (by simp; omega), List.nil_append, List.drop_replicate]
    congr 1
    simp [hz]
    omega
  rw [e1, e2, ← List.append_assoc]
  unfold cutL eight
  rw [show (j + 1) * 8 = j * 8 + 8 by omega, List.take_add]
theorem eight_cell {w : World} {base g n cap : Nat} {zs : List Int} (h : Nums w base (.slice (some ⟨g, 0, none⟩) n cap) zs) (p j : Nat) (hz : zs.length = p * 8) (hj : j < p) (hn : n = zs.length) :
    ∀ i v, ((eight zs j).map (Value.int .i64))[i]? = some v → w.cell? ((⟨g, j * 8, none⟩ : Addr).add i) = some v := by
  intro i v hv
  have hi : i < 8 := by
    have := (List.getElem?_eq_some_iff.1 hv).1
    rw [List.length_map, eight_length zs p j hz hj] at this
    exact this
  rw [Addr.add_lit, h.cell hn (j * 8 + i) (by omega), ← hv]
  simp only [eight, List.getElem?_map, List.getElem?_take, hi, if_true, List.getElem?_drop, List.getD]
  rw [List.getElem?_eq_getElem (by omega)]
  rfl

set_option maxHeartbeats 2000000 in
theorem impl_cut (gm n cap : Nat) (zs : List Int) (b p : Nat) (w : World) (h : Nums w b (.slice (some ⟨gm, 0, none⟩) n cap) zs) (hz : zs.length = p * 8) (hp : p ≤ 24) (hp0 : 1 ≤ p) :
    Calls Tryz.prog 42 #[.slice (some ⟨gm, 0, none⟩) n cap] w fun e w' => ∃ g, e = .returned (.slice (some ⟨g, 0, none⟩) p p) ∧ Pags w' w.heap.size (.slice (some ⟨g, 0, none⟩) p p) p zs ∧ Below w.heap.size w w' := by
  obtain ⟨i, hi, hz0, hz1, hz2⟩ := info_parts info_wpage
  have HM : Hid (Nums w b _ zs) := h
  have hnn := h.len
  obtain ⟨hl1, hl2⟩ := h.lens
  unfold maxLen at hl2
  have HZ : Hid (zs.length = p * 8) := hz
  have HP : Hid (1 ≤ p ∧ p ≤ 24) := ⟨hp0, hp⟩
  obtain rfl : n = p * 8 := by omega
  have HC : Hid (p * 8 ≤ cap ∧ cap ≤ 9223372036854775807) := ⟨by omega, hl2⟩
  have hpi : (p : Int) ≤ 24 := by omega
  clear h hz hp hp0 hnn hl1 hl2
  go_enter Tryz.func42, Tryz.ntmps42
  go_wp2_with (at_make; refine wpList_make_full _ rfl _ _ 92 rfl w.heap.size 135 i _ 8 Tryz.underlying92 hi hz0 hz1 _ _ _ _ p rfl rfl (by omega) (by omega) (by have := HP.out; rw [hz2]; omega) (by have := HP.out; unfold maxLen; omega) (by simp) ?_; intro w1 hown hgrow; have b1 := (Below.refl _ _).grown hgrow (Nat.le_refl _) (by simp))
  have P1 : Hid (w1.heap[w.heap.size]? = some (.cells ((cutL zs p 0).map (Value.int .i64)).toArray 135 (0, 0))) := by
    refine Pags.heap (base := w.heap.size) (p := p) ?_
    unfold Pags
    rw [show (Value.agg (Array.replicate 8 (.int .i64 0))).cells = Array.replicate 8 (.int .i64 0) from rfl, made_replicate _ _ _ (by decide)] at hown
    simpa [cutL] using hown
  have B1 : Hid (Below w.heap.size w w1) := b1
  clear hown hgrow hi hz0 hz1 hz2 b1
  go_wp2_with fail
  go_loopw [4, 11] (fun _ c wr => ∃ j : Nat, j ≤ p ∧ c = .int .i64 j ∧ Hid (wr.heap[w.heap.size]? = some (.cells ((cutL zs p j).map (Value.int .i64)).toArray 135 (0, 0))) ∧ Below w.heap.size w wr) (fun _ c _ => p - (intOf c).toNat)
  case atStart => exact ⟨0, Nat.zero_le _, rfl, P1, B1.out⟩
  case round =>
    obtain ⟨j, hj, rfl, hH, hB⟩ := hrel
    have HB : Hid (Below _ _ _) := hB
    clear hB P1
    by_cases hlt : j < p
    · have hJ : (j : Int) < (p : Int) := by omega
      have HLT : Hid (j < p) := hlt
      have HS : Hid (∀ i v, ((eight zs j).map (Value.int .i64))[i]? = some v → wr.cell? ((⟨gm, j * 8, none⟩ : Addr).add i) = some v) := by
        intro i v hv
        exact cell_keep HB.out (eight_cell HM.out p j HZ.out hlt HZ.out.symm i v hv)
      obtain ⟨X, hX⟩ : ∃ X, X = (eight zs j).map (Value.int .i64) := ⟨_, rfl⟩
      obtain ⟨Y, hY⟩ : ∃ Y, Y = (cutL zs p j).map (Value.int .i64) := ⟨_, rfl⟩
      rw [← hX] at HS
      rw [← hY] at hH
      have XL : Hid (X.length = 8) := by show _ = _; rw [hX, List.length_map]; exact eight_length zs p j HZ.out hlt
      have YL : Hid (Y.length = p * 8) := by show _ = _; rw [hY, List.length_map]; exact cutL_length zs p j HZ.out hj
      have X1 : Hid (∀ v ∈ X, v.oneCell' = true) := by
        intro v hv
        rw [hX] at hv
        obtain ⟨z, _, rfl⟩ := List.mem_map.1 hv
        rfl
      have SP : Hid (splice Y (j * 8) X = (cutL zs p (j + 1)).map (Value.int .i64)) := by show _ = _; rw [hX, hY]; exact splice_cut zs p j HZ.out hlt
      obtain ⟨k, hk⟩ : ∃ k : Nat, j * 8 = k := ⟨_, rfl⟩
      have HK : Hid (j * 8 = k) := hk
      have hw : IntKind.i64.wrap ((j : Int) * 8) = (k : Int) := by
        rw [show (j : Int) * 8 = (k : Int) by omega]
        rw [IntKind.wrap_i64]; omega
      have hk1 : (k : Int) ≤ (p : Int) * 8 := by omega
      have hk2 : ¬ cap = k := by have := HC.out; omega
      have hk3 : Hid (k + 8 ≤ p * 8) := by show _ ≤ _; omega
      clear hX hY hlt hk
      go_wp2_with fail
      go_region_law (refine step_copy_splice rfl (.tmp 17) (.tmp 21) 28 28 rfl 2 Tryz.underlying28 (by kernel_rfl) (some ⟨w.heap.size, j * 8, none⟩) (some ⟨gm, k, none⟩) 8 8 (p * 8 - k) (cap - k) (by simp [Act.eval, Act.put]) (by simp [Act.eval, Act.put]) w.heap.size (j * 8) Y 135 hH.out X (by rw [XL.out]; have := hk3.out; exact (Nat.min_eq_right (by omega)).symm) (fun _ => ⟨rfl, _, rfl, by rw [← HK.out]; exact HS.out⟩) (by rw [XL.out, YL.out]; have := hk3.out; have := HK.out; omega) X1.out w.heap.size w (by first | exact HB.out | exact HB.out.drew | exact HB.out.drew.drew) (Nat.le_refl _) ?_; intro w4 hg4 hb4)
      have H4 : Hid (w4.heap[w.heap.size]? = some (.cells ((cutL zs p (j + 1)).map (Value.int .i64)).toArray 135 (0, 0))) := by
        show _ = _
        rw [← SP.out]
        exact hg4.out
      have B4 : Hid (Below w.heap.size w w4) := hb4
      clear hg4 hb4 SP X1 XL YL HS hH
      go_wp2_with fail
      go_roundw
      case rel => exact ⟨j + 1, by have := HLT.out; omega, by go_num, H4, B4.out⟩
      case measure => have := HLT.out; simp [intOf]; omega
    · have hJ : ¬ (j : Int) < (p : Int) := by omega
      obtain rfl : j = p := by omega
      go_wp2_with fail
      go_ret
      refine ⟨_, rfl, ?_, HB.out⟩
      have h1 := hH.out
      have e : cutL zs j j = zs := by simp [cutL, List.take_of_length_le (Nat.le_of_eq HZ.out)]
      rw [e] at h1
      exact Pags.of_heap h1 HZ.out (Nat.le_refl _) (by have := HP.out; unfold maxLen; omega)
end Go.Proofs.YtadkhognlapckaaGreatDoor
namespace Go.Proofs.YtadkhognlapckaaGreatDoor
open Go.RowKit Go.ChangeShapes Go.WideShapes Go.ChangeAt
set_option linter.unusedVariables false

theorem list11 {α : Type} {l : List α} (h : l.length = 11) : ∃ a0 a1 a2 a3 a4 a5 a6 a7 a8 a9 a10, l = [a0, a1, a2, a3, a4, a5, a6, a7, a8, a9, a10] := by
  match l, h with
  | [a0, a1, a2, a3, a4, a5, a6, a7, a8, a9, a10], _ => exact ⟨a0, a1, a2, a3, a4, a5, a6, a7, a8, a9, a10, rfl⟩
theorem hart_trod {K : Type} {enc : TypeId × Value → K} {P : Program} {w : World} {base : Nat} {held : Bool} {t : TypeId} {f0 f1 f2 f3 f4 f5 f6 f7 f8 : Field} {v0 v1 v2 v3 v4 v5 v6 v7 v8 : Value} {fuel : Nat} {x : DataW K × List MemPlace} {e0 e2 e7 e8 : TypeId}
    (hs : P.underlying t = some (.struct #[f0, f1, f2, f3, f4, f5, f6, f7, f8])) (hone : Go.Deep.oneCellFields P #[f0, f1, f2, f3, f4, f5, f6, f7, f8] = true)
    (u0 : P.underlying f0.type = some (.slice e0)) (u1 : P.underlying f1.type = some (.int .i64)) (u2 : P.underlying f2.type = some (.slice e2)) (u3 : P.underlying f3.type = some .bool) (u4 : P.underlying f4.type = some .bool) (u5 : P.underlying f5.type = some .bool)
    (u6 : P.underlying f6.type = some (.int .i64)) (u7 : P.underlying f7.type = some (.slice e7)) (u8 : P.underlying f8.type = some (.slice e8))
    (i0 : P.underlying e0 = some (.int .i64)) (i2 : P.underlying e2 = some (.int .i64)) (i7 : P.underlying e7 = some (.int .i64)) (i8 : P.underlying e8 = some (.int .i64))
    (c0 : P.cellsOf e0 = 1) (c2 : P.cellsOf e2 = 1) (c7 : P.cellsOf e7 = 1) (c8 : P.cellsOf e8 = 1)
    (hf : DataW.trod enc P w base (fun _ => true) held fuel t [v0, v1, v2, v3, v4, v5, v6, v7, v8] = some x) :
    ∃ (a0 a1 a2 a3 : Option Addr) (n0 k0 n1 k1 n2 k2 n3 k3 : Nat) (H : Ht), [v0, v1, v2, v3, v4, v5, v6, v7, v8] = [.slice a0 n0 k0, .int .i64 H.pc, .slice a1 n1 k1, .bool H.halted, .bool H.waiting, .bool H.rung, .int .i64 H.done, .slice a2 n2 k2, .slice a3 n3 k3] ∧
      Hin w a0 n0 k0 a1 n1 k1 a2 n2 k2 a3 n3 k3 H := by
  obtain ⟨xs, n, _, hx, hl, hlen, hg⟩ := DataW.trod_struct hs hf
  obtain ⟨y0, y1, y2, y3, y4, y5, y6, y7, y8, rfl⟩ := list9 (show xs.length = 9 from (by simpa using hlen))
  have g0 := hg 0 f0 rfl
  have g1 := hg 1 f1 rfl
  have g2 := hg 2 f2 rfl
  have g3 := hg 3 f3 rfl
  have g4 := hg 4 f4 rfl
  have g5 := hg 5 f5 rfl
  have g6 := hg 6 f6 rfl
  have g7 := hg 7 f7 rfl
  have g8 := hg 8 f8 rfl
  obtain ⟨o0, q0⟩ := Go.Deep.hone_of hone 0 f0 rfl
  obtain ⟨o1, q1⟩ := Go.Deep.hone_of hone 1 f1 rfl
  obtain ⟨o2, q2⟩ := Go.Deep.hone_of hone 2 f2 rfl
  obtain ⟨o3, q3⟩ := Go.Deep.hone_of hone 3 f3 rfl
  obtain ⟨o4, q4⟩ := Go.Deep.hone_of hone 4 f4 rfl
  obtain ⟨o5, q5⟩ := Go.Deep.hone_of hone 5 f5 rfl
  obtain ⟨o6, q6⟩ := Go.Deep.hone_of hone 6 f6 rfl
  obtain ⟨o7, q7⟩ := Go.Deep.hone_of hone 7 f7 rfl
  obtain ⟨o8, q8⟩ := Go.Deep.hone_of hone 8 f8 rfl
  simp [o0, q0] at g0
  simp [o1, q1] at g1
  simp [o2, q2] at g2
  simp [o3, q3] at g3
  simp [o4, q4] at g4
  simp [o5, q5] at g5
  simp [o6, q6] at g6
  simp [o7, q7] at g7
  simp [o8, q8] at g8
  obtain ⟨a0, n0, k0, z0, rfl, w0⟩ := rn_open u0 i0 c0 g0
  obtain ⟨a1, n1, k1, z1, rfl, w1⟩ := rn_open u2 i2 c2 g2
  obtain ⟨a2, n2, k2, z2, rfl, w2⟩ := rn_open u7 i7 c7 g7
  obtain ⟨a3, n3, k3, z3, rfl, w3⟩ := rn_open u8 i8 c8 g8
  obtain ⟨pc, p1, _, _⟩ := DataW.trod_int u1 g1
  obtain ⟨dn, p6, _, _⟩ := DataW.trod_int u6 g6
  obtain ⟨b3, rfl⟩ := bool_open u3 g3
  obtain ⟨b4, rfl⟩ := bool_open u4 g4
  obtain ⟨b5, rfl⟩ := bool_open u5 g5
  simp at p1 p6
  subst p1 p6
  exact ⟨a0, a1, a2, a3, n0, k0, n1, k1, n2, k2, n3, k3, ⟨z0, pc, z1, b3, b4, b5, dn, z2, z3⟩, rfl, ⟨w0, w1, w2, w3⟩⟩
/-- A list of pages that comes in. -/
theorem prs_open {K : Type} {enc : TypeId × Value → K} {P : Program} {w : World} {base : Nat} {held : Bool} {t e : TypeId} {g0 g1 : Field} {fuel : Nat} {v : Value} {x : DataW K × List MemPlace}
    (ht : P.underlying t = some (.slice e)) (he : P.underlying e = some (.struct #[g0, g1])) (hc : P.cellsOf e = 2) (o0 : g0.offset = 0) (o1 : g1.offset = 1) (k0 : P.cellsOf g0.type = 1) (k1 : P.cellsOf g1.type = 1) (i0 : P.underlying g0.type = some (.int .i64)) (i1 : P.underlying g1.type = some (.int .i64))
    (hf : DataW.trod enc P w base (fun _ => true) held fuel t [v] = some x) : ∃ a len cap rs, v = .slice a len cap ∧ IsPairs w a len cap rs := by
  rcases Go.Deep.open_slice_pairs ht he hc o0 o1 k0 k1 hf with ⟨hcs, _⟩ | ⟨x, l, c, m, n, V0, V1, D0, D1, P0, P1, hcs, _, hl, hm, hmm, _, hx⟩
  · simp at hcs
    exact ⟨none, 0, 0, [], hcs, .inl ⟨rfl, rfl, rfl, rfl⟩⟩
  · simp at hcs
    obtain ⟨rs, hr⟩ : ∃ rs, IsPairs w (some x) l c rs := by
      refine IsPairs.of V0 V1 hl hm fun j hj => ?_
      have hjm : j < m := by rw [hmm]; split <;> omega
      obtain ⟨g0, g1, g2, g3⟩ := hx j hjm
      obtain ⟨b0, y0, _, _⟩ := DataW.trod_int i0 g2
      obtain ⟨b1, y1, _, _⟩ := DataW.trod_int i1 g3
      exact ⟨g0, g1, ⟨b0, by simpa using y0⟩, ⟨b1, by simpa using y1⟩⟩
    exact ⟨some x, l, c, rs, hcs, hr⟩
theorem solo_open {K : Type} {enc : TypeId × Value → K} {P : Program} {w : World} {base : Nat} {held : Bool} {r : Reach} {b0 : Nat} {t : TypeId} {s0 s1 s2 f0 f1 f2 f3 f4 f5 f6 f7 f8 g0 g1 : Field} {v : Value} {d : DataW K} {p : List MemPlace} {e0 e2 e7 e8 ep em : TypeId}
    (ht : P.underlying t = some (.struct #[s0, s1, s2])) (hC : P.cellsOf t = 11) (q0 : s0.offset = 0) (q1 : s1.offset = 9) (q2 : s2.offset = 10) (j0 : P.cellsOf s0.type = 9) (j1 : P.cellsOf s1.type = 1) (j2 : P.cellsOf s2.type = 1)
    (hs : P.underlying s0.type = some (.struct #[f0, f1, f2, f3, f4, f5, f6, f7, f8])) (hone : Go.Deep.oneCellFields P #[f0, f1, f2, f3, f4, f5, f6, f7, f8] = true)
    (u0 : P.underlying f0.type = some (.slice e0)) (u1 : P.underlying f1.type = some (.int .i64)) (u2 : P.underlying f2.type = some (.slice e2)) (u3 : P.underlying f3.type = some .bool) (u4 : P.underlying f4.type = some .bool) (u5 : P.underlying f5.type = some .bool)
    (u6 : P.underlying f6.type = some (.int .i64)) (u7 : P.underlying f7.type = some (.slice e7)) (u8 : P.underlying f8.type = some (.slice e8))
    (i0 : P.underlying e0 = some (.int .i64)) (i2 : P.underlying e2 = some (.int .i64)) (i7 : P.underlying e7 = some (.int .i64)) (i8 : P.underlying e8 = some (.int .i64))
    (c0 : P.cellsOf e0 = 1) (c2 : P.cellsOf e2 = 1) (c7 : P.cellsOf e7 = 1) (c8 : P.cellsOf e8 = 1)
    (up : P.underlying s1.type = some (.slice ep)) (he : P.underlying ep = some (.struct #[g0, g1])) (hc : P.cellsOf ep = 2) (o0 : g0.offset = 0) (o1 : g1.offset = 1) (k0 : P.cellsOf g0.type = 1) (k1 : P.cellsOf g1.type = 1) (y0 : P.underlying g0.type = some (.int .i64)) (y1 : P.underlying g1.type = some (.int .i64))
    (um : P.underlying s2.type = some (.slice em)) (im : P.underlying em = some (.int .i64)) (cm : P.cellsOf em = 1)
    (hv : Value.okWide P w r b0 t v) (h : DataW.Trod enc P w base (fun _ => true) held t v d p) :
    ∃ (a0 a1 a2 a3 : Option Addr) (n0 k0 n1 k1 n2 k2 n3 k3 : Nat) (H : Ht) (la : Option Addr) (ln lc : Nat) (ps : List (Int × Int)) (ma : Option Addr) (mn mc : Nat) (zs : List Int), v = .agg #[.slice a0 n0 k0, .int .i64 H.pc, .slice a1 n1 k1, .bool H.halted, .bool H.waiting, .bool H.rung, .int .i64 H.done, .slice a2 n2 k2, .slice a3 n3 k3, .slice la ln lc, .slice ma mn mc] ∧
      Hin w a0 n0 k0 a1 n1 k1 a2 n2 k2 a3 n3 k3 H ∧ IsPairs w la ln lc ps ∧ IsRow .i64 w ma mn mc zs := by
  obtain ⟨cs, rfl, hsz⟩ := okWide_struct ht hv
  obtain ⟨l⟩ := cs
  obtain ⟨v0, v1, v2, v3, v4, v5, v6, v7, v8, v9, v10, rfl⟩ := list11 (show l.length = 11 from (by simpa using hsz.trans hC))
  obtain ⟨fuel, hf⟩ := h
  obtain ⟨xs, n, _, hx, hl, hlen, hg⟩ := DataW.trod_struct ht hf
  have h3 : xs.length = 3 := by simpa using hlen
  obtain ⟨z0, z1, z2, rfl⟩ : ∃ a b c, xs = [a, b, c] := by
    match xs, h3 with
    | [a, b, c], _ => exact ⟨a, b, c, rfl⟩
  have G0 := hg 0 s0 rfl
  have G1 := hg 1 s1 rfl
  have G2 := hg 2 s2 rfl
  simp [Value.cells, q0, j0] at G0
  simp [Value.cells, q1, j1] at G1
  simp [Value.cells, q2, j2] at G2
  obtain ⟨la, ln, lc, ps, rfl, hps⟩ := prs_open up he hc o0 o1 k0 k1 y0 y1 G1
  obtain ⟨a0, a1, a2, a3, n0, k0, n1, k1, n2, k2, n3, k3, H, e, hin⟩ := hart_trod hs hone u0 u1 u2 u3 u4 u5 u6 u7 u8 i0 i2 i7 i8 c0 c2 c7 c8 G0
  obtain ⟨ma, mn, mc, zs, rfl, hzs⟩ := rn_open um im cm G2
  simp at e
  obtain ⟨rfl, rfl, rfl, rfl, rfl, rfl, rfl, rfl, rfl⟩ := e
  exact ⟨a0, a1, a2, a3, n0, _, n1, _, n2, _, n3, _, H, la, ln, lc, ps, ma, mn, mc, zs, rfl, hin, hps, hzs⟩
end Go.Proofs.YtadkhognlapckaaGreatDoor
