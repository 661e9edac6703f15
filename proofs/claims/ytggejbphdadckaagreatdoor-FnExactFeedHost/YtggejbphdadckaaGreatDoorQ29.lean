/- Texts of this seat, joined. -/
import Derived.Deep.RegionWith
import Derived.Deep.Slices
import Derived.Laws.CopyOwn
import Derived.Deep.RegionLaw
import Derived.Laws.AppendOwnNone
import Derived.Deep.Cut
import Derived.Deep.WholeRow
import Derived.Deep.MidRow
import Derived.Deep.RegionHeld3
import Derived.Laws.BitsAllLaws
import Derived.Test.YtggejbphdadckaaGreatDoorQ03
import Derived.Test.YtggejbphdadckaaGreatDoorQ05
import Derived.Test.YtggejbphdadckaaGreatDoorQ06
import Derived.Test.YtggejbphdadckaaGreatDoorQ07
import Derived.Test.YtggejbphdadckaaGreatDoorQ09
import Derived.Test.YtggejbphdadckaaGreatDoorQ10
import Derived.Test.YtggejbphdadckaaGreatDoorQ11
import Derived.Test.YtggejbphdadckaaGreatDoorQ12
import Derived.Test.YtggejbphdadckaaGreatDoorQ15
import Derived.Test.YtggejbphdadckaaGreatDoorQ16
import Derived.Test.YtggejbphdadckaaGreatDoorQ18
import Derived.Test.YtggejbphdadckaaGreatDoorQ19
import Derived.Test.YtggejbphdadckaaGreatDoorQ20
import Derived.Test.YtggejbphdadckaaGreatDoorQ24
import Derived.Test.YtggejbphdadckaaGreatDoorQ28
namespace Go.Proofs.YtggejbphdadckaaGreatDoor
open Go.RowKit
set_option linter.unusedVariables false
def wholeB (ms : List Int) : Bool := decide (ms.length = 192) && decide (memV ms = 0)
theorem i_whole (v : Value) (ms : List Int) (b : Nat) (w : World) (h : Nums w b v ms) :
    Calls Tryz.prog 54 #[v, .int .i64 24] w fun e w' => e = .returned (.bool (wholeB ms)) ∧ w' = w := by
  obtain ⟨a, cap, rfl, l1, l2, hg⟩ := h.shape
  have HM : Hid (Nums w b _ ms) := h
  unfold wholeB
  have hl : (ms.length : Int) ≤ 9223372036854775807 := by unfold maxLen at l2; omega
  obtain ⟨n, hn⟩ : ∃ n, ms.length = n := ⟨_, rfl⟩
  rw [hn] at HM hl ⊢
  clear h l1 l2 hg
  by_cases h1 : n = 192
  · rw [decide_eq_true h1, Bool.true_and]
    have h1i : (n : Int) = 192 := by omega
    have HM2 : Hid (Nums w b (.slice a 192 cap) ms) := by rw [h1] at HM; exact HM
    subst h1
    clear hn h1i
    by_cases h2 : memV ms = 0
    · go_enter Tryz.func54, Tryz.ntmps54
      go_wp2_with (go_at_call 87; refine (impl_memFault _ ms b _ HM2.out).mono ?_; rintro e w ⟨rfl, rfl⟩; rw [h2])
      go_ret
      exact ⟨by first | rfl | simp [h2], rfl⟩
    · have h4 : decide (memV ms = 0) = false := decide_eq_false h2
      rw [h4]
      obtain ⟨mv, hmv⟩ : ∃ mv, memV ms = mv := ⟨_, rfl⟩
      rw [hmv] at h2
      have HMV : Hid (memV ms = mv) := hmv
      clear hmv h4
      have h5 : (mv == 0) = false := by simpa using h2
      go_enter Tryz.func54, Tryz.ntmps54
      go_wp2_with (go_at_call 87; refine (impl_memFault _ ms b _ HM2.out).mono ?_; rintro e w ⟨rfl, rfl⟩; rw [HMV.out])
      go_ret
      exact ⟨by first | rfl | simp [h5], rfl⟩
  · have h1i : ¬ (n : Int) = 192 := by omega
    rw [decide_eq_false h1, Bool.false_and]
    clear hn
    go_enter Tryz.func54, Tryz.ntmps54
    go_wp2_with fail
    go_ret
    exact ⟨by first | rfl | simp_all, rfl⟩
theorem l7_whole (v : Value) (ms : List Int) (b : Nat) (w : World) (h : Nums w b v ms) :
    Calls Tryz.prog 40 #[v] w fun e w' => e = .returned (.bool (wholeB ms)) ∧ w' = w := by
  obtain ⟨a, cap, rfl, l1, l2, hg⟩ := h.shape
  have HM : Hid (Nums w b _ ms) := h
  unfold wholeB
  have hl : (ms.length : Int) ≤ 9223372036854775807 := by unfold maxLen at l2; omega
  obtain ⟨n, hn⟩ : ∃ n, ms.length = n := ⟨_, rfl⟩
  rw [hn] at HM hl ⊢
  clear h l1 l2 hg
  by_cases h2 : memV ms = 0
  · rw [decide_eq_true h2, Bool.and_true]
    clear hn
    go_enter Tryz.func40, Tryz.ntmps40
    go_wp2_with (go_at_call 80; refine (spec_memFault _ ms b _ HM.out).mono ?_; rintro e w ⟨rfl, rfl⟩; rw [h2])
    go_ret
    exact ⟨congrArg (fun b => Ending.returned (.bool b)) (by apply Bool.eq_iff_iff.2; simp; omega), rfl⟩
  · have h4 : decide (memV ms = 0) = false := decide_eq_false h2
    rw [h4, Bool.and_false]
    obtain ⟨mv, hmv⟩ : ∃ mv, memV ms = mv := ⟨_, rfl⟩
    rw [hmv] at h2
    have HMV : Hid (memV ms = mv) := hmv
    have h5 : (mv == 0) = false := by simpa using h2
    clear hn hmv h4
    go_enter Tryz.func40, Tryz.ntmps40
    go_wp2_with (go_at_call 80; refine (spec_memFault _ ms b _ HM.out).mono ?_; rintro e w ⟨rfl, rfl⟩; rw [HMV.out])
    go_ret
    exact ⟨by first | rfl | simp [h5], rfl⟩
theorem info_page : (Tryz.prog.info? 174).map (fun i => (i.zero, i.size, i.bytes)) = some (some (.agg #[.int .i64 0, .int .i64 0]), 2, 16) := by kernel_rfl
theorem Prs.kept {e : TypeId} {w w' : World} {base : Nat} {v : Value} {rs : List (Int × Int)} {row : Option Nat} (h : Prs e w base v rs) (hg : w.grownBy w' row) (hne : v.ownBlock = none ∨ v.ownBlock ≠ row) : Prs e w' base v rs := World.ownsRow.kept h hg hne
theorem Prs.put {e : TypeId} {w : World} {base : Nat} {v : Value} {rs : List (Int × Int)} (h : Prs e w base v rs) (p : Addr) (u : Value) (hne : v.ownBlock ≠ some p.block) : Prs e (w.setCell p u) base v rs := h.kept (grown_set w p u) (.inr hne)
theorem Prs.mono {e : TypeId} {w : World} {base base' : Nat} {v : Value} {rs : List (Int × Int)} (h : Prs e w base v rs) (hb : base' ≤ base) : Prs e w base' v rs := by
  obtain ⟨h1, h2 | ⟨g, cap, cur, hv, hg, hr⟩⟩ := h
  · exact ⟨h1, .inl h2⟩
  · exact ⟨h1, .inr ⟨g, cap, cur, hv, Nat.le_trans hb hg, hr⟩⟩
theorem made_replicate (z : Value) (k m : Nat) (hk : 0 < k) : (madeCells (Array.replicate k z) m).toList = List.replicate m z := by
  apply List.ext_getElem?
  intro j
  by_cases hj : j < m
  · have : j % k < k := Nat.mod_lt _ hk
    simp [madeCells, hj, this]
  · simp [madeCells, hj]
theorem info_wpage : (Tryz.prog.info? 172).map (fun i => (i.zero, i.size, i.bytes)) = some (some (.agg (Array.replicate 8 (.int .i64 0))), 8, 64) := by kernel_rfl
theorem Pags.heap {w : World} {base g p : Nat} {zs : List Int} (h : Pags w base (.slice (some ⟨g, 0, none⟩) p p) p zs) : w.heap[g]? = some (.cells (zs.map (Value.int .i64)).toArray 172 (0, 0)) := by
  obtain ⟨h1, ⟨h2, h3⟩ | ⟨g', cap, cur, hv, hb, hh, h4, h5, h6, h7⟩⟩ := h
  · simp at h2
  · simp at hv
    obtain ⟨rfl, rfl⟩ := hv
    rw [List.take_of_length_le (by simp [h6])] at h7
    rw [hh, ← h7]
theorem Pags.of_heap {w : World} {base g p : Nat} {zs : List Int} (hh : w.heap[g]? = some (.cells (zs.map (Value.int .i64)).toArray 172 (0, 0))) (hl : zs.length = p * 8) (hb : base ≤ g) (hp : p ≤ maxLen) : Pags w base (.slice (some ⟨g, 0, none⟩) p p) p zs :=
  ⟨by simpa using hl, .inr ⟨g, p, _, rfl, hb, hh, Nat.le_refl _, hp, by simpa using hl, by rw [List.take_of_length_le (by simp [hl])]⟩⟩
def cutL (zs : List Int) (p j : Nat) : List Int := zs.take (j * 8) ++ List.replicate ((p - j) * 8) 0
theorem cutL_length (zs : List Int) (p j : Nat) (hz : zs.length = p * 8) (hj : j ≤ p) : (cutL zs p j).length = p * 8 := by
  simp [cutL, hz]
  omega
def eight (zs : List Int) (j : Nat) : List Int := (zs.drop (j * 8)).take 8
theorem eight_length (zs : List Int) (p j : Nat) (hz : zs.length = p * 8) (hj : j < p) : (eight zs j).length = 8 := by
  simp [eight, hz]
  omega
theorem splice_cut (zs : List Int) (p j : Nat) (hz : zs.length = p * 8) (hj : j < p) :
    splice ((cutL zs p j).map (Value.int .i64)) (j * 8) ((eight zs j).map (Value.int .i64)) = (cutL zs p (j + 1)).map (Value.int .i64) := by
  have h8 := eight_length zs p j hz hj
  unfold splice
  rw [List.length_map, h8, ← List.map_take, ← List.map_drop, ← List.map_append, ← List.map_append]
  congr 1
  have e1 : (cutL zs p j).take (j * 8) = zs.take (j * 8) := by
    unfold cutL
    rw [List.take_append_of_le_length (by simp [hz]; omega), List.take_take, Nat.min_self]
  have e2 : (cutL zs p j).drop (j * 8 + 8) = List.replicate ((p - (j + 1)) * 8) 0 := by
    unfold cutL
    rw [List.drop_append, List.drop_of_length_le (by simp; omega), List.nil_append, List.drop_replicate]
    congr 1
    simp [hz]
    omega
  rw [e1, e2, ← List.append_assoc]
  unfold cutL eight
  rw [show (j + 1) * 8 = j * 8 + 8 by omega, List.take_add]
theorem eight_cell {w : World} {base g n cap : Nat} {zs : List Int} (h : Nums w base (.slice (some ⟨g, 0, none⟩) n cap) zs) (p j : Nat) (hz : zs.length = p * 8) (hj : j < p) (hn : n = zs.length) :
    ∀ i v, ((eight zs j).map (Value.int .i64))[i]? = some v → w.cell? ((⟨g, j * 8, none⟩ : Addr).add i) = some v := by
  intro i v hv
  have hi : i < 8 := by
    have := (List.getElem?_eq_some_iff.1 hv).1
    rw [List.length_map, eight_length zs p j hz hj] at this
    exact this
  rw [Addr.add_lit, h.cell hn (j * 8 + i) (by omega), ← hv]
  simp only [eight, List.getElem?_map, List.getElem?_take, hi, if_true, List.getElem?_drop, List.getD]
  rw [List.getElem?_eq_getElem (by omega)]
  rfl
set_option maxHeartbeats 2000000 in
theorem impl_cut (gm n cap : Nat) (zs : List Int) (b p : Nat) (w : World) (h : Nums w b (.slice (some ⟨gm, 0, none⟩) n cap) zs) (hz : zs.length = p * 8) (hp : p ≤ 24) (hp0 : 1 ≤ p) :
    Calls Tryz.prog 93 #[.slice (some ⟨gm, 0, none⟩) n cap] w fun e w' => ∃ g, e = .returned (.slice (some ⟨g, 0, none⟩) p p) ∧ Pags w' w.heap.size (.slice (some ⟨g, 0, none⟩) p p) p zs ∧ Below w.heap.size w w' := by
  obtain ⟨i, hi, hz0, hz1, hz2⟩ := info_parts info_wpage
  have HM : Hid (Nums w b _ zs) := h
  have hnn := h.len
  obtain ⟨hl1, hl2⟩ := h.lens
  unfold maxLen at hl2
  have HZ : Hid (zs.length = p * 8) := hz
  have HP : Hid (1 ≤ p ∧ p ≤ 24) := ⟨hp0, hp⟩
  obtain rfl : n = p * 8 := by omega
  have HC : Hid (p * 8 ≤ cap ∧ cap ≤ 9223372036854775807) := ⟨by omega, hl2⟩
  have hpi : (p : Int) ≤ 24 := by omega
  clear h hz hp hp0 hnn hl1 hl2
  go_enter Tryz.func93, Tryz.ntmps93
  go_wp2_with (at_make; refine wpList_make_full _ rfl _ _ 144 rfl w.heap.size 172 i _ 8 Tryz.underlying144 hi hz0 hz1 _ _ _ _ p rfl rfl (by omega) (by omega) (by have := HP.out; rw [hz2]; omega) (by have := HP.out; unfold maxLen; omega) (by simp) ?_; intro w1 hown hgrow; have b1 := (Below.refl _ _).grown hgrow (Nat.le_refl _) (by simp))
  have P1 : Hid (w1.heap[w.heap.size]? = some (.cells ((cutL zs p 0).map (Value.int .i64)).toArray 172 (0, 0))) := by
    refine Pags.heap (base := w.heap.size) (p := p) ?_
    unfold Pags
    rw [show (Value.agg (Array.replicate 8 (.int .i64 0))).cells = Array.replicate 8 (.int .i64 0) from rfl, made_replicate _ _ _ (by decide)] at hown
    simpa [cutL] using hown
  have B1 : Hid (Below w.heap.size w w1) := b1
  clear hown hgrow hi hz0 hz1 hz2 b1
  go_wp2_with fail
  go_loopw [4, 11] (fun _ c wr => ∃ j : Nat, j ≤ p ∧ c = .int .i64 j ∧ Hid (wr.heap[w.heap.size]? = some (.cells ((cutL zs p j).map (Value.int .i64)).toArray 172 (0, 0))) ∧ Below w.heap.size w wr) (fun _ c _ => p - (intOf c).toNat)
  case atStart => exact ⟨0, Nat.zero_le _, rfl, P1, B1.out⟩
  case round =>
    obtain ⟨j, hj, rfl, hH, hB⟩ := hrel
    have HB : Hid (Below _ _ _) := hB
    clear hB P1
    by_cases hlt : j < p
    · have hJ : (j : Int) < (p : Int) := by omega
      have HLT : Hid (j < p) := hlt
      have HS : Hid (∀ i v, ((eight zs j).map (Value.int .i64))[i]? = some v → wr.cell? ((⟨gm, j * 8, none⟩ : Addr).add i) = some v) := by
        intro i v hv
        exact cell_keep HB.out (eight_cell HM.out p j HZ.out hlt HZ.out.symm i v hv)
      obtain ⟨X, hX⟩ : ∃ X, X = (eight zs j).map (Value.int .i64) := ⟨_, rfl⟩
      obtain ⟨Y, hY⟩ : ∃ Y, Y = (cutL zs p j).map (Value.int .i64) := ⟨_, rfl⟩
      rw [← hX] at HS
      rw [← hY] at hH
      have XL : Hid (X.length = 8) := by show _ = _; rw [hX, List.length_map]; exact eight_length zs p j HZ.out hlt
      have YL : Hid (Y.length = p * 8) := by show _ = _; rw [hY, List.length_map]; exact cutL_length zs p j HZ.out hj
      have X1 : Hid (∀ v ∈ X, v.oneCell' = true) := by
        intro v hv
        rw [hX] at hv
        obtain ⟨z, _, rfl⟩ := List.mem_map.1 hv
        rfl
      have SP : Hid (splice Y (j * 8) X = (cutL zs p (j + 1)).map (Value.int .i64)) := by show _ = _; rw [hX, hY]; exact splice_cut zs p j HZ.out hlt
      obtain ⟨k, hk⟩ : ∃ k : Nat, j * 8 = k := ⟨_, rfl⟩
      have HK : Hid (j * 8 = k) := hk
      have hw : IntKind.i64.wrap ((j : Int) * 8) = (k : Int) := by
        rw [show (j : Int) * 8 = (k : Int) by omega]
        rw [IntKind.wrap_i64]; omega
      have hk1 : (k : Int) ≤ (p : Int) * 8 := by omega
      have hk2 : ¬ cap = k := by have := HC.out; omega
      have hk3 : Hid (k + 8 ≤ p * 8) := by show _ ≤ _; omega
      clear hX hY hlt hk
      go_wp2_with fail
      go_region_law (refine step_copy_splice rfl (.tmp 17) (.tmp 21) 28 28 rfl 2 Tryz.underlying28 (by kernel_rfl) (some ⟨w.heap.size, j * 8, none⟩) (some ⟨gm, k, none⟩) 8 8 (p * 8 - k) (cap - k) (by simp [Act.eval, Act.put]) (by simp [Act.eval, Act.put]) w.heap.size (j * 8) Y 172 hH.out X (by rw [XL.out]; have := hk3.out; exact (Nat.min_eq_right (by omega)).symm) (fun _ => ⟨rfl, _, rfl, by rw [← HK.out]; exact HS.out⟩) (by rw [XL.out, YL.out]; have := hk3.out; have := HK.out; omega) X1.out w.heap.size w (by first | exact HB.out | exact HB.out.drew | exact HB.out.drew.drew) (Nat.le_refl _) ?_; intro w4 hg4 hb4)
      have H4 : Hid (w4.heap[w.heap.size]? = some (.cells ((cutL zs p (j + 1)).map (Value.int .i64)).toArray 172 (0, 0))) := by
        show _ = _
        rw [← SP.out]
        exact hg4.out
      have B4 : Hid (Below w.heap.size w w4) := hb4
      clear hg4 hb4 SP X1 XL YL HS hH
      go_wp2_with fail
      go_roundw
      case rel => exact ⟨j + 1, by have := HLT.out; omega, by go_num, H4, B4.out⟩
      case measure => have := HLT.out; simp [intOf]; omega
    · have hJ : ¬ (j : Int) < (p : Int) := by omega
      obtain rfl : j = p := by omega
      go_wp2_with fail
      go_ret
      refine ⟨_, rfl, ?_, HB.out⟩
      have h1 := hH.out
      have e : cutL zs j j = zs := by simp [cutL, List.take_of_length_le (Nat.le_of_eq HZ.out)]
      rw [e] at h1
      exact Pags.of_heap h1 HZ.out (Nat.le_refl _) (by have := HP.out; unfold maxLen; omega)
theorem wp_appy {ops : Array Oper} {rest : List Oper} {o : Oper} {act : Act} {Q : Exit → Act → World → Prop} (w : World) (hgd : o.guard = none) (s x : Operand)
    (ho : o.op = .call { callee := .builtin .append, args := #[s, x], argTypes := #[28, 28] }) (base : Nat) (v : Value) (zs : List Int) (hs : act.eval s = v) (hN : Nums w base v zs)
    (p : Option Addr) (m c : Nat) (ys : List Int) (hx : act.eval x = .slice p m c) (hR : Rn w p m c ys)
    (hlen : zs.length + m ≤ 1000000000) (hbase : base ≤ w.heap.size)
    (h : ∀ v' w', Nums w' base v' (zs ++ ys) → w.grownBy w' v.ownBlock → wpList Tryz.prog ops Q rest (act.put o.dst v') w') : wpList Tryz.prog ops Q (o :: rest) act w := by
  cases p with
  | some p => exact wp_appx w hgd s x ho base v zs hs hN p m c ys hx hR hlen hbase h
  | none =>
    obtain ⟨h1, h2, h3⟩ : m = 0 ∧ c = 0 ∧ ys = [] := by
      rcases hR with ⟨_, h1, h2, h3⟩ | ⟨x, e, _⟩
      · exact ⟨h1, h2, h3⟩
      · cases e
    subst h1 h2 h3
    obtain ⟨i, hi, hz0, hz1, hz2⟩ := info_parts info_i64
    exact wpList_append_own_none hgd s x 28 ho base 2 i 1 Tryz.underlying28 hi v zs.length _ hs hN hx (h v w (by rw [List.append_nil]; exact hN) (World.grownBy.refl _ _))
structure Cy (w v : World) (s : Nat) (A : Array Value) : Prop where
  A : Vb v s A 60
  R : Vb v (s + 1) #[.slice none 0 0, .int .i64 0, .slice none 0 0, .bool false, .bool false, .bool false, .int .i64 0, .slice none 0 0, .slice none 0 0] 60
  b : Below w.heap.size w v
  s : w.heap.size = s
theorem Cy.keep {w v v' : World} {s : Nat} {A : Array Value} (h : Cy w v s A) (b : Below v.heap.size v v') : Cy w v' s A := ⟨h.A.keep b, h.R.keep b, on h.b b, h.s⟩
theorem Cy.put {w v : World} {s : Nat} {A : Array Value} (h : Cy w v s A) (j : Nat) (u : Value) : Cy w (v.setCell ⟨s, j, none⟩ u) s (A.setIfInBounds j u) :=
  ⟨h.A.set j u, h.R.put _ _ (by show s + 1 ≠ s; omega), h.b.setCell (by have := h.s; show w.heap.size ≤ s; omega) _, h.s⟩
set_option maxRecDepth 20000 in
set_option maxHeartbeats 8000000 in
theorem s_copy (r c i o : Value) (H : Ht) (b : Nat) (w : World) (h : Hm w b r c i o H) (h0 : H.regs.length ≤ 1000) (h1 : H.csr.length ≤ 1000) (h2 : H.inn.length ≤ 1000) (h3 : H.out.length ≤ 1000) :
    Calls Tryz.prog 45 #[.agg #[r, .int .i64 H.pc, c, .bool H.halted, .bool H.waiting, .bool H.rung, .int .i64 H.done, i, o]] w fun e w' => ∃ r' c' i' o', e = .returned (.agg #[r', .int .i64 H.pc, c', .bool H.halted, .bool H.waiting, .bool H.rung, .int .i64 H.done, i', o']) ∧ Hm w' w.heap.size r' c' i' o' H ∧ Ha r' c' i' o' ∧ Below w.heap.size w w' := by
  have HM : Hid (Hm w b r c i o H) := h
  have HL : Hid (H.regs.length ≤ 1000 ∧ H.csr.length ≤ 1000 ∧ H.inn.length ≤ 1000 ∧ H.out.length ≤ 1000) := ⟨h0, h1, h2, h3⟩
  obtain ⟨a0, k0, rfl, _⟩ := h.r.shape
  obtain ⟨a1, k1, rfl, _⟩ := h.c.shape
  obtain ⟨a2, k2, rfl, _⟩ := h.i.shape
  obtain ⟨a3, k3, rfl, _⟩ := h.o.shape
  clear h h0 h1 h2 h3
  generalize hW : (w.alloc (.cells #[.slice a0 H.regs.length k0, .int .i64 H.pc, .slice a1 H.csr.length k1, .bool H.halted, .bool H.waiting, .bool H.rung, .int .i64 H.done, .slice a2 H.inn.length k2, .slice a3 H.out.length k3] 60)).alloc (.cells #[.slice none 0 0, .int .i64 0, .slice none 0 0, .bool false, .bool false, .bool false, .int .i64 0, .slice none 0 0, .slice none 0 0] 60) = v0
  have SZ : Hid (v0.heap.size = w.heap.size + 2) := by show _ = _; rw [← hW]; simp
  obtain ⟨s, hS⟩ : ∃ s, w.heap.size = s := ⟨_, rfl⟩
  have HSs : Hid (w.heap.size = s) := hS
  have T0 : Hid (Cy w v0 s #[.slice a0 H.regs.length k0, .int .i64 H.pc, .slice a1 H.csr.length k1, .bool H.halted, .bool H.waiting, .bool H.rung, .int .i64 H.done, .slice a2 H.inn.length k2, .slice a3 H.out.length k3]) := by
    have z1 : s + 1 = (w.alloc (.cells #[.slice a0 H.regs.length k0, .int .i64 H.pc, .slice a1 H.csr.length k1, .bool H.halted, .bool H.waiting, .bool H.rung, .int .i64 H.done, .slice a2 H.inn.length k2, .slice a3 H.out.length k3] 60)).heap.size := by rw [← hS]; simp
    refine ⟨?_, ?_, by rw [← hW]; exact al (al (Below.refl _ _) _) _, hS⟩
    · rw [← hW, ← hS]; exact (Vb.new _ _ _).push _
    · rw [← hW, z1]; exact Vb.new _ _ _
  have LO : Hid (∀ k, Own4 (.slice a0 H.regs.length k0) (.slice a1 H.csr.length k1) (.slice a2 H.inn.length k2) (.slice a3 H.out.length k3) k → k < s) := fun k e => by have := (HM.out.own k e).2; have := HSs.out; omega
  have Z0 : Hid (s + 2 ≤ v0.heap.size) := by show _ ≤ _; have := SZ.out; have := HSs.out; omega
  have q0 := T0.out.A.cell 0 rfl
  have ls := T0.out.A.lt
  go_enter Tryz.func45, Tryz.ntmps45
  go_upto_region 2 with (at_builtin; refine wp_appy _ rfl _ _ rfl v0.heap.size _ [] rfl (nums_none _ _ (Nat.le_refl _)) a0 H.regs.length k0 H.regs rfl ((HM.out.r.rn.stay T0.out.b).stay (al (Below.refl _ _) _)) (by have := HL.out.1; simp; omega) (by simp) ?_; intro x0 w1 n1 g1; have b1 : Below v0.heap.size v0 w1 := below_of_grown (al (Below.refl _ _) _) g1 (nums_none _ _ (Nat.le_refl _)) (Nat.le_refl _); rw [List.nil_append] at n1; obtain ⟨xa0, xk0, rfl, _⟩ := n1.shape; clear ls; have S1 := T0.out.keep b1; have ls := S1.A.lt; have o0 := S1.A.cell 0 rfl; have f0 := S1.A.free 0; have e2 := S1.A.cell 2 rfl; clear g1)
  have MB0 : Hid (Nums w1 v0.heap.size (.slice xa0 H.regs.length xk0) H.regs) := n1
  have M0 : Hid (Nums w1 (s + 2) (.slice xa0 H.regs.length xk0) H.regs) := n1.mono Z0.out
  have T1 : Hid (Cy w (w1.setCell ⟨s, 0, none⟩ (.slice xa0 H.regs.length xk0)) s #[.slice xa0 H.regs.length xk0, .int .i64 H.pc, .slice a1 H.csr.length k1, .bool H.halted, .bool H.waiting, .bool H.rung, .int .i64 H.done, .slice a2 H.inn.length k2, .slice a3 H.out.length k3]) := S1.put 0 (.slice xa0 H.regs.length xk0)
  have H1 : Hid (Ho (s + 2) w1 (w1.setCell ⟨s, 0, none⟩ (.slice xa0 H.regs.length xk0))) := Ho.set _ _ _ (by show s < s + 2; omega)
  have Z1 : Hid (s + 2 ≤ (w1.setCell ⟨s, 0, none⟩ (.slice xa0 H.regs.length xk0)).heap.size) := (by have := T1.out.R.lt; show _ ≤ _; omega)
  have Y1 : Hid (w1.heap.size ≤ (w1.setCell ⟨s, 0, none⟩ (.slice xa0 H.regs.length xk0)).heap.size) := H1.out.size
  generalize (w1.setCell ⟨s, 0, none⟩ (.slice xa0 H.regs.length xk0)) = v1 at *
  clear S1 n1 b1 o0 f0 e2 q0 hW hS ls
  have ls := T1.out.A.lt
  have e2 := T1.out.A.cell 2 rfl
  go_upto_region 3 with (at_builtin; refine wp_appy _ rfl _ _ rfl v1.heap.size _ [] rfl (nums_none _ _ (Nat.le_refl _)) a1 H.csr.length k1 H.csr rfl ((HM.out.c.rn.stay T1.out.b).stay (al (Below.refl _ _) _)) (by have := HL.out.2.1; simp; omega) (by simp) ?_; intro x1 w2 n1 g1; have b1 : Below v1.heap.size v1 w2 := below_of_grown (al (Below.refl _ _) _) g1 (nums_none _ _ (Nat.le_refl _)) (Nat.le_refl _); rw [List.nil_append] at n1; obtain ⟨xa1, xk1, rfl, _⟩ := n1.shape; clear ls e2; have S1 := T1.out.keep b1; have ls := S1.A.lt; have o2 := S1.A.cell 2 rfl; have f2 := S1.A.free 2; have e7 := S1.A.cell 7 rfl; clear g1)
  have MB1 : Hid (Nums w2 v1.heap.size (.slice xa1 H.csr.length xk1) H.csr) := n1
  have H12 : Hid (Ho (s + 2) w1 w2) := H1.out.trans (Ho.of b1)
  have M1 : Hid (Nums w2 (s + 2) (.slice xa1 H.csr.length xk1) H.csr) := n1.mono Z1.out
  have T2 : Hid (Cy w (w2.setCell ⟨s, 2, none⟩ (.slice xa1 H.csr.length xk1)) s #[.slice xa0 H.regs.length xk0, .int .i64 H.pc, .slice xa1 H.csr.length xk1, .bool H.halted, .bool H.waiting, .bool H.rung, .int .i64 H.done, .slice a2 H.inn.length k2, .slice a3 H.out.length k3]) := S1.put 2 (.slice xa1 H.csr.length xk1)
  have H2 : Hid (Ho (s + 2) w2 (w2.setCell ⟨s, 2, none⟩ (.slice xa1 H.csr.length xk1))) := Ho.set _ _ _ (by show s < s + 2; omega)
  have Z2 : Hid (s + 2 ≤ (w2.setCell ⟨s, 2, none⟩ (.slice xa1 H.csr.length xk1)).heap.size) := (by have := T2.out.R.lt; show _ ≤ _; omega)
  have Y2 : Hid (w2.heap.size ≤ (w2.setCell ⟨s, 2, none⟩ (.slice xa1 H.csr.length xk1)).heap.size) := H2.out.size
  generalize (w2.setCell ⟨s, 2, none⟩ (.slice xa1 H.csr.length xk1)) = v2 at *
  clear S1 n1 b1 o2 f2 e7 ls
  have ls := T2.out.A.lt
  have e7 := T2.out.A.cell 7 rfl
  go_upto_region 4 with (at_builtin; refine wp_appy _ rfl _ _ rfl v2.heap.size _ [] rfl (nums_none _ _ (Nat.le_refl _)) a2 H.inn.length k2 H.inn rfl ((HM.out.i.rn.stay T2.out.b).stay (al (Below.refl _ _) _)) (by have := HL.out.2.2.1; simp; omega) (by simp) ?_; intro x2 w3 n1 g1; have b1 : Below v2.heap.size v2 w3 := below_of_grown (al (Below.refl _ _) _) g1 (nums_none _ _ (Nat.le_refl _)) (Nat.le_refl _); rw [List.nil_append] at n1; obtain ⟨xa2, xk2, rfl, _⟩ := n1.shape; clear ls e7; have S1 := T2.out.keep b1; have ls := S1.A.lt; have o7 := S1.A.cell 7 rfl; have f7 := S1.A.free 7; have e8 := S1.A.cell 8 rfl; clear g1)
  have MB2 : Hid (Nums w3 v2.heap.size (.slice xa2 H.inn.length xk2) H.inn) := n1
  have H23 : Hid (Ho (s + 2) w2 w3) := H2.out.trans (Ho.of b1)
  have M2 : Hid (Nums w3 (s + 2) (.slice xa2 H.inn.length xk2) H.inn) := n1.mono Z2.out
  have T3 : Hid (Cy w (w3.setCell ⟨s, 7, none⟩ (.slice xa2 H.inn.length xk2)) s #[.slice xa0 H.regs.length xk0, .int .i64 H.pc, .slice xa1 H.csr.length xk1, .bool H.halted, .bool H.waiting, .bool H.rung, .int .i64 H.done, .slice xa2 H.inn.length xk2, .slice a3 H.out.length k3]) := S1.put 7 (.slice xa2 H.inn.length xk2)
  have H3 : Hid (Ho (s + 2) w3 (w3.setCell ⟨s, 7, none⟩ (.slice xa2 H.inn.length xk2))) := Ho.set _ _ _ (by show s < s + 2; omega)
  have Z3 : Hid (s + 2 ≤ (w3.setCell ⟨s, 7, none⟩ (.slice xa2 H.inn.length xk2)).heap.size) := (by have := T3.out.R.lt; show _ ≤ _; omega)
  have Y3 : Hid (w3.heap.size ≤ (w3.setCell ⟨s, 7, none⟩ (.slice xa2 H.inn.length xk2)).heap.size) := H3.out.size
  generalize (w3.setCell ⟨s, 7, none⟩ (.slice xa2 H.inn.length xk2)) = v3 at *
  clear S1 n1 b1 o7 f7 e8 ls
  have ls := T3.out.A.lt
  have e8 := T3.out.A.cell 8 rfl
  go_upto_region 5 with (at_builtin; refine wp_appy _ rfl _ _ rfl v3.heap.size _ [] rfl (nums_none _ _ (Nat.le_refl _)) a3 H.out.length k3 H.out rfl ((HM.out.o.rn.stay T3.out.b).stay (al (Below.refl _ _) _)) (by have := HL.out.2.2.2; simp; omega) (by simp) ?_; intro x3 w4 n1 g1; have b1 : Below v3.heap.size v3 w4 := below_of_grown (al (Below.refl _ _) _) g1 (nums_none _ _ (Nat.le_refl _)) (Nat.le_refl _); rw [List.nil_append] at n1; obtain ⟨xa3, xk3, rfl, _⟩ := n1.shape; clear ls e8; have S1 := T3.out.keep b1; have ls := S1.A.lt; have o8 := S1.A.cell 8 rfl; have f8 := S1.A.free 8; have r0 := S1.R.cell 0 rfl; have y0 := S1.R.free 0; have r1 := S1.R.cell 1 rfl; have y1 := S1.R.free 1; have r2 := S1.R.cell 2 rfl; have y2 := S1.R.free 2; have r3 := S1.R.cell 3 rfl; have y3 := S1.R.free 3; have r4 := S1.R.cell 4 rfl; have y4 := S1.R.free 4; have r5 := S1.R.cell 5 rfl; have y5 := S1.R.free 5; have r6 := S1.R.cell 6 rfl; have y6 := S1.R.free 6; have r7 := S1.R.cell 7 rfl; have y7 := S1.R.free 7; have r8 := S1.R.cell 8 rfl; have y8 := S1.R.free 8; have l0 := S1.A.cell 0 rfl; have l1 := S1.A.cell 1 rfl; have l2 := S1.A.cell 2 rfl; have l3 := S1.A.cell 3 rfl; have l4 := S1.A.cell 4 rfl; have l5 := S1.A.cell 5 rfl; have l6 := S1.A.cell 6 rfl; have l7 := S1.A.cell 7 rfl; clear g1)
  have MB3 : Hid (Nums w4 v3.heap.size (.slice xa3 H.out.length xk3) H.out) := n1
  have H34 : Hid (Ho (s + 2) w3 w4) := H3.out.trans (Ho.of b1)
  have M3 : Hid (Nums w4 (s + 2) (.slice xa3 H.out.length xk3) H.out) := n1.mono Z3.out
  have T4 : Hid (Cy w (w4.setCell ⟨s, 8, none⟩ (.slice xa3 H.out.length xk3)) s #[.slice xa0 H.regs.length xk0, .int .i64 H.pc, .slice xa1 H.csr.length xk1, .bool H.halted, .bool H.waiting, .bool H.rung, .int .i64 H.done, .slice xa2 H.inn.length xk2, .slice xa3 H.out.length xk3]) := S1.put 8 (.slice xa3 H.out.length xk3)
  have H4 : Hid (Ho (s + 2) w4 (w4.setCell ⟨s, 8, none⟩ (.slice xa3 H.out.length xk3))) := Ho.set _ _ _ (by show s < s + 2; omega)
  have Z4 : Hid (s + 2 ≤ (w4.setCell ⟨s, 8, none⟩ (.slice xa3 H.out.length xk3)).heap.size) := by have := T4.out.R.lt; show _ ≤ _; omega
  have Y4 : Hid (w4.heap.size ≤ (w4.setCell ⟨s, 8, none⟩ (.slice xa3 H.out.length xk3)).heap.size) := H4.out.size
  go_wp2_with fail
  have NN : Hid (_ ∧ _) := nine T4.out.R (.slice xa0 H.regs.length xk0) (.int .i64 H.pc) (.slice xa1 H.csr.length xk1) (.bool H.halted) (.bool H.waiting) (.bool H.rung) (.int .i64 H.done) (.slice xa2 H.inn.length xk2) (.slice xa3 H.out.length xk3)
  clear S1 n1 b1 o8 f8 r0 y0 r1 y1 r2 y2 r3 y3 r4 y4 r5 y5 r6 y6 r7 y7 r8 y8 l0 l1 l2 l3 l4 l5 l6 l7
  generalize ((((((((((w4.setCell ⟨s, 8, none⟩ (.slice xa3 H.out.length xk3)).setCell ⟨s + 1, 0, none⟩ (.slice xa0 H.regs.length xk0)).setCell ⟨s + 1, 1, none⟩ (.int .i64 H.pc)).setCell ⟨s + 1, 2, none⟩ (.slice xa1 H.csr.length xk1)).setCell ⟨s + 1, 3, none⟩ (.bool H.halted)).setCell ⟨s + 1, 4, none⟩ (.bool H.waiting)).setCell ⟨s + 1, 5, none⟩ (.bool H.rung)).setCell ⟨s + 1, 6, none⟩ (.int .i64 H.done)).setCell ⟨s + 1, 7, none⟩ (.slice xa2 H.inn.length xk2)).setCell ⟨s + 1, 8, none⟩ (.slice xa3 H.out.length xk3)) = V at *
  generalize (w4.setCell ⟨s, 8, none⟩ (.slice xa3 H.out.length xk3)) = v4 at *
  have H5 : Hid (Ho (s + 2) w4 V) := H4.out.trans (NN.out.2.ho fun k e => by omega)
  have B5 : Hid (Below w.heap.size w V) := Mq.under T4.out.b NN.out.2 fun k e => by have := HSs.out; omega
  have A01 := MB0.out.apt MB1.out Y1.out
  have A02 := MB0.out.apt MB2.out (Nat.le_trans H12.out.size Y2.out)
  have A03 := MB0.out.apt MB3.out (Nat.le_trans (Nat.le_trans H12.out.size H23.out.size) Y3.out)
  have A12 := MB1.out.apt MB2.out Y2.out
  have A13 := MB1.out.apt MB3.out (Nat.le_trans H23.out.size Y3.out)
  have A23 := MB2.out.apt MB3.out Y3.out
  have R0 : Nums V w.heap.size (.slice xa0 H.regs.length xk0) H.regs := (M0.out.ho (H12.out.trans (H23.out.trans (H34.out.trans H5.out)))).mono (by have := HSs.out; omega)
  have R1 : Nums V w.heap.size (.slice xa1 H.csr.length xk1) H.csr := (M1.out.ho (H23.out.trans (H34.out.trans H5.out))).mono (by have := HSs.out; omega)
  have R2 : Nums V w.heap.size (.slice xa2 H.inn.length xk2) H.inn := (M2.out.ho (H34.out.trans H5.out)).mono (by have := HSs.out; omega)
  have R3 : Nums V w.heap.size (.slice xa3 H.out.length xk3) H.out := (M3.out.ho H5.out).mono (by have := HSs.out; omega)
  have x0 := NN.out.1.cell 0 rfl
  have x1 := NN.out.1.cell 1 rfl
  have x2 := NN.out.1.cell 2 rfl
  have x3 := NN.out.1.cell 3 rfl
  have x4 := NN.out.1.cell 4 rfl
  have x5 := NN.out.1.cell 5 rfl
  have x6 := NN.out.1.cell 6 rfl
  have x7 := NN.out.1.cell 7 rfl
  have x8 := NN.out.1.cell 8 rfl
  exact bodyPost_ret (v := .agg #[.slice xa0 H.regs.length xk0, .int .i64 H.pc, .slice xa1 H.csr.length xk1, .bool H.halted, .bool H.waiting, .bool H.rung, .int .i64 H.done, .slice xa2 H.inn.length xk2, .slice xa3 H.out.length xk3]) (by simp [results, Tryz.results45, go_sem, x0, x1, x2, x3, x4, x5, x6, x7, x8]) rfl
    ⟨_, _, _, _, rfl, ⟨R0, R1, R2, R3⟩, ⟨A01, A02, A03, A12, A13, A23⟩, B5.out⟩
set_option maxHeartbeats 2000000 in
theorem sz_hartO (kk : Int) (a0 a1 a2 a3 : Option Addr) (n0 c0 n1 c1 n2 c2 n3 c3 : Nat) (H : Ht) (w : World) (h : Hin w a0 n0 c0 a1 n1 c1 a2 n2 c2 a3 n3 c3 H) (q1 : 0 ≤ kk) (q2 : kk ≤ 1048576) :
    Calls Tryz.prog 38 #[.agg #[.slice a0 n0 c0, .int .i64 H.pc, .slice a1 n1 c1, .bool H.halted, .bool H.waiting, .bool H.rung, .int .i64 H.done, .slice a2 n2 c2, .slice a3 n3 c3], .int .i64 kk] w fun e w' => (∃ r : Int, e = .returned (.int .i64 r) ∧ r ≤ 1048576 ∧ (0 ≤ r → Hs n0 n1 n2 n3)) ∧ Below w.heap.size w w' := by
  have L0 : Hid (n0 ≤ 9223372036854775807) := h.regs.ln.2
  have L1 : Hid (n1 ≤ 9223372036854775807) := h.csr.ln.2
  have L2 : Hid (n2 ≤ 9223372036854775807) := h.inn.ln.2
  have L3 : Hid (n3 ≤ 9223372036854775807) := h.out.ln.2
  have KK : Hid (0 ≤ kk ∧ kk ≤ 1048576) := ⟨q1, q2⟩
  clear h
  by_cases h0 : kk - n0 < 0
  · have H0 : Hid (kk - n0 < 0) := h0
    go_enter Tryz.func38, Tryz.ntmps38
    go_wp2_with fail
    refine (szn _ _ _ _ _ L0.out KK.out.1 KK.out.2).mono ?_
    rintro e w2 ⟨rfl, rfl⟩
    rw [if_pos H0.out]
    go_wp2_with fail
    go_ret
    exact ⟨⟨-1, rfl, by omega, fun h => by omega⟩, al (Below.refl _ _) _⟩
  have H0 : Hid (¬ kk - n0 < 0) := h0
  obtain ⟨r0, hr0⟩ : ∃ r0 : Int, kk - n0 = r0 := ⟨_, rfl⟩
  have E0 : Hid (0 ≤ r0 ∧ r0 ≤ 1048576) := ⟨by omega, by omega⟩
  have e0 : 0 ≤ r0 := E0.out.1
  have K0 : Hid (kk - n0 = r0) := hr0
  by_cases h1 : r0 - n1 < 0
  · have H1 : Hid (r0 - n1 < 0) := h1
    clear hr0 h0
    go_enter Tryz.func38, Tryz.ntmps38
    go_wp2_with fail
    refine (szn _ _ _ _ _ L0.out KK.out.1 KK.out.2).mono ?_
    rintro e w2 ⟨rfl, rfl⟩
    rw [if_neg (by have := H0.out; omega), K0.out]
    go_wp2_with fail
    refine (szn _ _ _ _ _ L1.out E0.out.1 E0.out.2).mono ?_
    rintro e w2 ⟨rfl, rfl⟩
    rw [if_pos H1.out]
    go_wp2_with fail
    go_ret
    exact ⟨⟨-1, rfl, by omega, fun h => by omega⟩, al (Below.refl _ _) _⟩
  have H1 : Hid (¬ r0 - n1 < 0) := h1
  obtain ⟨r1, hr1⟩ : ∃ r1 : Int, r0 - n1 = r1 := ⟨_, rfl⟩
  have E1 : Hid (0 ≤ r1 ∧ r1 ≤ 1048576) := ⟨by omega, by omega⟩
  have e1 : 0 ≤ r1 := E1.out.1
  have K1 : Hid (r0 - n1 = r1) := hr1
  by_cases h2 : r1 - n2 < 0
  · have H2 : Hid (r1 - n2 < 0) := h2
    clear hr0 h0 hr1 h1
    go_enter Tryz.func38, Tryz.ntmps38
    go_wp2_with fail
    refine (szn _ _ _ _ _ L0.out KK.out.1 KK.out.2).mono ?_
    rintro e w2 ⟨rfl, rfl⟩
    rw [if_neg (by have := H0.out; omega), K0.out]
    go_wp2_with fail
    refine (szn _ _ _ _ _ L1.out E0.out.1 E0.out.2).mono ?_
    rintro e w2 ⟨rfl, rfl⟩
    rw [if_neg (by have := H1.out; omega), K1.out]
    go_wp2_with fail
    refine (szn _ _ _ _ _ L2.out E1.out.1 E1.out.2).mono ?_
    rintro e w2 ⟨rfl, rfl⟩
    rw [if_pos H2.out]
    go_wp2_with fail
    go_ret
    exact ⟨⟨-1, rfl, by omega, fun h => by omega⟩, al (Below.refl _ _) _⟩
  have H2 : Hid (¬ r1 - n2 < 0) := h2
  obtain ⟨r2, hr2⟩ : ∃ r2 : Int, r1 - n2 = r2 := ⟨_, rfl⟩
  have E2 : Hid (0 ≤ r2 ∧ r2 ≤ 1048576) := ⟨by omega, by omega⟩
  have e2 : 0 ≤ r2 := E2.out.1
  have K2 : Hid (r1 - n2 = r2) := hr2
  by_cases h3 : r2 - n3 < 0
  · have H3 : Hid (r2 - n3 < 0) := h3
    clear hr0 h0 hr1 h1 hr2 h2
    go_enter Tryz.func38, Tryz.ntmps38
    go_wp2_with fail
    refine (szn _ _ _ _ _ L0.out KK.out.1 KK.out.2).mono ?_
    rintro e w2 ⟨rfl, rfl⟩
    rw [if_neg (by have := H0.out; omega), K0.out]
    go_wp2_with fail
    refine (szn _ _ _ _ _ L1.out E0.out.1 E0.out.2).mono ?_
    rintro e w2 ⟨rfl, rfl⟩
    rw [if_neg (by have := H1.out; omega), K1.out]
    go_wp2_with fail
    refine (szn _ _ _ _ _ L2.out E1.out.1 E1.out.2).mono ?_
    rintro e w2 ⟨rfl, rfl⟩
    rw [if_neg (by have := H2.out; omega), K2.out]
    go_wp2_with fail
    refine (szn _ _ _ _ _ L3.out E2.out.1 E2.out.2).mono ?_
    rintro e w2 ⟨rfl, rfl⟩
    rw [if_pos H3.out]
    go_wp2_with fail
    go_ret
    exact ⟨⟨-1, rfl, by omega, fun h => by omega⟩, al (Below.refl _ _) _⟩
  have H3 : Hid (¬ r2 - n3 < 0) := h3
  obtain ⟨r3, hr3⟩ : ∃ r3 : Int, r2 - n3 = r3 := ⟨_, rfl⟩
  have E3 : Hid (0 ≤ r3 ∧ r3 ≤ 1048576) := ⟨by omega, by omega⟩
  have e3 : 0 ≤ r3 := E3.out.1
  have K3 : Hid (r2 - n3 = r3) := hr3
  have SM : Hid (Hs n0 n1 n2 n3) := ⟨by omega, by omega, by omega, by omega⟩
  clear hr0 h0 hr1 h1 hr2 h2 hr3 h3
  go_enter Tryz.func38, Tryz.ntmps38
  go_wp2_with fail
  refine (szn _ _ _ _ _ L0.out KK.out.1 KK.out.2).mono ?_
  rintro e w2 ⟨rfl, rfl⟩
  rw [if_neg (by have := H0.out; omega), K0.out]
  go_wp2_with fail
  refine (szn _ _ _ _ _ L1.out E0.out.1 E0.out.2).mono ?_
  rintro e w2 ⟨rfl, rfl⟩
  rw [if_neg (by have := H1.out; omega), K1.out]
  go_wp2_with fail
  refine (szn _ _ _ _ _ L2.out E1.out.1 E1.out.2).mono ?_
  rintro e w2 ⟨rfl, rfl⟩
  rw [if_neg (by have := H2.out; omega), K2.out]
  go_wp2_with fail
  refine (szn _ _ _ _ _ L3.out E2.out.1 E2.out.2).mono ?_
  rintro e w2 ⟨rfl, rfl⟩
  rw [if_neg (by have := H3.out; omega), K3.out]
  go_wp2_with fail
  go_ret
  exact ⟨⟨_, rfl, E3.out.2, fun _ => SM.out⟩, al (Below.refl _ _) _⟩
def Hsm (H : Ht) : Prop := Hs H.regs.length H.csr.length H.inn.length H.out.length
theorem Hin.lens {w : World} {a0 : Option Addr} {n0 c0 : Nat} {a1 : Option Addr} {n1 c1 : Nat} {a2 : Option Addr} {n2 c2 : Nat} {a3 : Option Addr} {n3 c3 : Nat} {H : Ht} (h : Hin w a0 n0 c0 a1 n1 c1 a2 n2 c2 a3 n3 c3 H) : n0 = H.regs.length ∧ n1 = H.csr.length ∧ n2 = H.inn.length ∧ n3 = H.out.length :=
  ⟨h.regs.lens.1, h.csr.lens.1, h.inn.lens.1, h.out.lens.1⟩
set_option maxRecDepth 20000 in
set_option maxHeartbeats 4000000 in
theorem sz_harts (a : Option Addr) (n c : Nat) (k : Int) (hs : List Ht) (w : World) (h : IsHs w a n c hs) (h1 : 0 ≤ k) (h2 : k ≤ 1048576) :
    Calls Tryz.prog 18 #[.slice a n c, .int .i64 k] w fun e w' => (∃ r : Int, e = .returned (.int .i64 r) ∧ r ≤ 1048576 ∧ (0 ≤ r → n ≤ 1048576 ∧ ∀ i, i < n → Hsm (hs.getD i voidH))) ∧ Below w.heap.size w w' := by
  have HR : Hid (IsHs w a n c hs) := h
  have hmax : (n : Int) ≤ 9223372036854775807 := by have := h.len.2; omega
  clear h
  by_cases hk : k - n < 0
  · go_enter Tryz.func18, Tryz.ntmps18
    go_wp2_with fail
    go_ret
    exact ⟨⟨-1, rfl, by omega, fun h => by omega⟩, Below.refl _ _⟩
  have HN : Hid (n ≤ 1048576) := by show _ ≤ _; omega
  have hb0 : 0 ≤ k - n := by omega
  have hb1 : k - n ≤ 1048576 := by omega
  go_enter Tryz.func18, Tryz.ntmps18
  go_wp2_with fail
  generalize k - (n : Int) = r0 at *
  clear hk h1 h2
  go_loopw [1, 5] (fun u c wr => ∃ (j : Nat) (r : Int), j ≤ n ∧ c = .int .i64 j ∧ u = .int .i64 r ∧ 0 ≤ r ∧ r ≤ 1048576 ∧ Hid (∀ i, i < j → Hsm (hs.getD i voidH)) ∧ Below w.heap.size w wr) (fun _ c _ => n - (intOf c).toNat)
  case atStart => exact ⟨0, r0, Nat.zero_le _, rfl, rfl, hb0, hb1, fun i hi => absurd hi (Nat.not_lt_zero _), Below.refl _ _⟩
  case round =>
    obtain ⟨j, r, hj, rfl, rfl, hr0, hr1, hI, hB⟩ := hrel
    by_cases hlt : j < n
    · obtain ⟨x, a0, a1, a2, a3, n0, k0, n1, k1, n2, k2, n3, k3, rfl, k1', k2'⟩ := (HR.out.stay hB).at j hlt
      have HI2 : Hid (Hin wr a0 n0 k0 a1 n1 k1 a2 n2 k2 a3 n3 k3 (hs.getD j voidH)) := k2'
      obtain ⟨H, hH⟩ : ∃ H, hs.getD j voidH = H := ⟨_, rfl⟩
      rw [hH] at k1' HI2
      have HH : Hid (hs.getD j voidH = H) := hH
      have y0 := k1'.c0
      have y1 := k1'.c1
      have y2 := k1'.c2
      have y3 := k1'.c3
      have y4 := k1'.c4
      have y5 := k1'.c5
      have y6 := k1'.c6
      have y7 := k1'.c7
      have y8 := k1'.c8
      have HB : Hid (Below w.heap.size w wr) := hB
      have hJ : (j : Int) < (n : Int) := by omega
      have HLT : Hid (j < n) := hlt
      have HR1 : Hid (0 ≤ r ∧ r ≤ 1048576) := ⟨hr0, hr1⟩
      clear k1' k2' hlt hB hH
      go_wp2_with fail
      refine (sz_hartO _ _ _ _ _ _ _ _ _ _ _ _ _ H _ HI2.out HR1.out.1 HR1.out.2).mono ?_
      rintro e w2 ⟨⟨r2, rfl, hr2, hs2⟩, b2⟩
      have B2 : Hid (Below w.heap.size w w2) := on HB.out b2
      clear b2 y0 y1 y2 y3 y4 y5 y6 y7 y8
      by_cases hz : r2 < 0
      · go_wp2_with fail
        go_ret
        exact ⟨⟨-1, rfl, by omega, fun h => by omega⟩, B2.out⟩
      · have HS2 : Hid (Hsm H) := by
          have e := HI2.out.lens
          have t := hs2 (by omega)
          show Hsm H
          unfold Hsm
          rw [← e.1, ← e.2.1, ← e.2.2.1, ← e.2.2.2]
          exact t
        have z0 : 0 ≤ r2 := by omega
        have R2 : Hid (0 ≤ r2 ∧ r2 ≤ 1048576) := ⟨by omega, hr2⟩
        clear hs2 hr2
        go_wp2_with fail
        go_roundw
        case rel =>
          refine ⟨j + 1, r2, by have := HLT.out; omega, by go_num, rfl, R2.out.1, R2.out.2, fun i hi => ?_, B2.out⟩
          rcases Nat.lt_or_ge i j with h | h
          · exact hI.out i h
          · obtain rfl : i = j := by omega
            rw [HH.out]
            exact HS2.out
        case measure => have := HLT.out; simp [intOf]; omega
    · have hJ : ¬ (j : Int) < (n : Int) := by omega
      have HJ : Hid (j = n) := by show _ = _; omega
      clear hlt
      go_wp2_with fail
      go_ret
      exact ⟨⟨r, rfl, hr1, fun _ => ⟨HN.out, fun i hi => hI.out i (by have := HJ.out; omega)⟩⟩, hB⟩
theorem thereB {w w' : World} {q o n : Nat} (h : w.there q o n) (hq : q < w.heap.size) (b : Below w.heap.size w w') : w'.there q o n := fun j hj => by
  obtain ⟨h1, h2⟩ := h j hj
  refine ⟨?_, ?_⟩
  · rw [b.cell (p := ⟨q, o + j, none⟩) hq]; exact h1
  · rw [b.frozen (p := ⟨q, o + j, none⟩) hq]; exact h2
theorem mqC (q : Nat) : ∀ (vs : List Value) (w : World) (o : Nat), Mq (fun k => k = q) w (w.setCells q o vs)
  | [], w, o => Mq.refl _ _
  | v :: vs, w, o => ((Mq.refl (fun k => k = q) w).set ⟨q, o, none⟩ v rfl).trans (mqC q vs _ (o + 1))
def Hl (w : World) (base : Nat) (v : Value) (hs : List Ht) : Prop :=
  (v = .slice none 0 0 ∧ hs = []) ∨
  ∃ g cap, v = .slice (some ⟨g, 0, none⟩) hs.length cap ∧ hs.length ≤ cap ∧ cap ≤ maxLen ∧ base ≤ g ∧ ∀ k, k < hs.length → ∃ r c i o, Hc w ⟨g, k * 9, none⟩ r c i o (hs.getD k voidH) ∧ Hm w base r c i o (hs.getD k voidH) ∧ Ha r c i o
theorem Hl.keep {w w' : World} {base : Nat} {v : Value} {hs : List Ht} (h : Hl w base v hs) (b : Below w.heap.size w w') : Hl w' base v hs := by
  rcases h with h | ⟨g, cap, h1, h2, h3, h4, h5⟩
  · exact .inl h
  · refine .inr ⟨g, cap, h1, h2, h3, h4, fun k hk => ?_⟩
    obtain ⟨r, c, i, o, g1, g2, g3⟩ := h5 k hk
    exact ⟨r, c, i, o, g1.stay b, g2.keep b, g3⟩
theorem Hl.mono {w : World} {base base' : Nat} {v : Value} {hs : List Ht} (h : Hl w base v hs) (hb : base' ≤ base) : Hl w base' v hs := by
  rcases h with h | ⟨g, cap, h1, h2, h3, h4, h5⟩
  · exact .inl h
  · refine .inr ⟨g, cap, h1, h2, h3, Nat.le_trans hb h4, fun k hk => ?_⟩
    obtain ⟨r, c, i, o, g1, g2, g3⟩ := h5 k hk
    exact ⟨r, c, i, o, g1, g2.mono hb, g3⟩
theorem Hl.shape {w : World} {base : Nat} {v : Value} {hs : List Ht} (h : Hl w base v hs) : ∃ a cap, v = .slice a hs.length cap ∧ hs.length ≤ cap ∧ cap ≤ maxLen ∧ (0 < hs.length → ∃ g, a = some ⟨g, 0, none⟩) := by
  rcases h with ⟨rfl, rfl⟩ | ⟨g, cap, h1, h2, h3, _⟩
  · exact ⟨none, 0, rfl, Nat.le_refl _, by unfold maxLen; omega, fun h => by simp at h⟩
  · exact ⟨_, cap, h1, h2, h3, fun _ => ⟨g, rfl⟩⟩
theorem Hl.at {w : World} {base : Nat} {g n cap : Nat} {hs : List Ht} (h : Hl w base (.slice (some ⟨g, 0, none⟩) n cap) hs) (k : Nat) (hk : k < hs.length) : ∃ r c i o, Hc w ⟨g, k * 9, none⟩ r c i o (hs.getD k voidH) ∧ Hm w base r c i o (hs.getD k voidH) ∧ Ha r c i o := by
  rcases h with ⟨h, _⟩ | ⟨g', cap', h1, h2, h3, h4, h5⟩
  · cases h
  · simp at h1
    obtain ⟨rfl, _⟩ := h1
    exact h5 k hk
theorem info_hart : (Tryz.prog.info? 60).map (fun i => (i.zero, i.size, i.bytes)) = some (some (.agg #[.slice none 0 0, .int .i64 0, .slice none 0 0, .bool false, .bool false, .bool false, .int .i64 0, .slice none 0 0, .slice none 0 0]), 9, 120) := by kernel_rfl
theorem Hc.put {w : World} {p : Addr} {r c i o : Value} {H : Ht} {g off : Nat} {vs : List Value} (h : Hc w p r c i o H) (hs : p.spot = none) (hn : p.block = g → p.off + 9 ≤ off ∨ off + vs.length ≤ p.off) : Hc (w.setCells g off vs) p r c i o H := by
  have k : ∀ (q : Addr), q.block = p.block → p.off ≤ q.off → q.off < p.off + 9 → (w.setCells g off vs).cell? q = w.cell? q := fun q hq h1 h2 => World.cell?_setCells_out _ _ _ _ _ fun e _ => by have := hn (hq.symm.trans e); omega
  exact ⟨(k p rfl (Nat.le_refl _) (by omega)).trans h.c0, (k ⟨p.block, p.off + 1, none⟩ rfl (Nat.le_add_right _ _) (Nat.add_lt_add_left (by decide) _)).trans h.c1, (k ⟨p.block, p.off + 2, none⟩ rfl (Nat.le_add_right _ _) (Nat.add_lt_add_left (by decide) _)).trans h.c2, (k ⟨p.block, p.off + 3, none⟩ rfl (Nat.le_add_right _ _) (Nat.add_lt_add_left (by decide) _)).trans h.c3, (k ⟨p.block, p.off + 4, none⟩ rfl (Nat.le_add_right _ _) (Nat.add_lt_add_left (by decide) _)).trans h.c4, (k ⟨p.block, p.off + 5, none⟩ rfl (Nat.le_add_right _ _) (Nat.add_lt_add_left (by decide) _)).trans h.c5, (k ⟨p.block, p.off + 6, none⟩ rfl (Nat.le_add_right _ _) (Nat.add_lt_add_left (by decide) _)).trans h.c6, (k ⟨p.block, p.off + 7, none⟩ rfl (Nat.le_add_right _ _) (Nat.add_lt_add_left (by decide) _)).trans h.c7, (k ⟨p.block, p.off + 8, none⟩ rfl (Nat.le_add_right _ _) (Nat.add_lt_add_left (by decide) _)).trans h.c8⟩
theorem Hc.new {w : World} {g off : Nat} {r c i o : Value} {H : Ht} (ht : w.there g off 9) : Hc (w.setCells g off [r, .int .i64 H.pc, c, .bool H.halted, .bool H.waiting, .bool H.rung, .int .i64 H.done, i, o]) ⟨g, off, none⟩ r c i o H := by
  have k := World.rangeAt_setCells_same w g off [r, .int .i64 H.pc, c, .bool H.halted, .bool H.waiting, .bool H.rung, .int .i64 H.done, i, o] ht
  exact ⟨k 0 _ rfl, k 1 _ rfl, k 2 _ rfl, k 3 _ rfl, k 4 _ rfl, k 5 _ rfl, k 6 _ rfl, k 7 _ rfl, k 8 _ rfl⟩
set_option maxRecDepth 20000 in
set_option maxHeartbeats 4000000 in
theorem to_hartsT (a : Option Addr) (len cap : Nat) (hs : List Ht) (w : World) (h : IsHs w a len cap hs) (hl : len ≤ 1048576) (hS : ∀ i, i < len → Hsm (hs.getD i voidH)) :
    Calls Tryz.prog 24 #[.slice a len cap] w fun e w' => ∃ g, e = .returned (.slice (some ⟨g, 0, none⟩) len len) ∧ Hl w' w.heap.size (.slice (some ⟨g, 0, none⟩) len len) hs ∧ Below w.heap.size w w' ∧ w'.there g 0 (len * 9) ∧ g < w'.heap.size := by
  obtain ⟨i, hi, hz0, hz1, hz2⟩ := info_parts info_hart
  have hlen : Hid (len = hs.length) := h.len.1
  have HR : Hid (IsHs w a len cap hs) := h
  have HSS : Hid (∀ i, i < len → Hsm (hs.getD i voidH)) := hS
  have HSM : Hid (len ≤ 1048576) := hl
  clear h hS
  go_enter Tryz.func24, Tryz.ntmps24
  go_wp2_with (at_make; refine wpList_make_full _ rfl _ _ 38 rfl w.heap.size 60 i _ 9 Tryz.underlying38 hi hz0 hz1 _ _ _ _ len rfl rfl rfl rfl (by rw [hz2]; omega) (by unfold maxLen; omega) (Nat.le_refl _) ?_; intro w1 hown hgrow)
  obtain ⟨g, hg⟩ : ∃ g, w.heap.size = g := ⟨_, rfl⟩
  have HG : Hid (w.heap.size = g) := hg
  have T1 : Hid (w1.there g 0 (len * 9)) := by
    show w1.there _ _ _
    rw [← hg]
    intro k hk
    have hl := hown.1
    rw [Nat.zero_add]
    refine ⟨?_, World.ownsRow.frozenAt hown k⟩
    rw [World.ownsRow.cellAt hown k (by omega), List.getElem?_eq_getElem (by omega)]
    rfl
  have B1 : Hid (Below w.heap.size w w1) := (Below.refl _ _).grown hgrow (Nat.le_refl _) (by simp)
  have G1 : Hid (g < w1.heap.size) := by
    have := (World.ownsRow.lt hown w.heap.size rfl).2
    show _ < _
    rw [← hg]
    exact this
  clear hown hgrow hi hz0 hz1 hz2
  rw [hg]
  clear hg
  go_wp2_with fail
  go_loopw [4] (fun c wr => ∃ (j : Nat), j ≤ len ∧ c = .int .i64 j ∧ wr.there g 0 (len * 9) ∧ Below w.heap.size w wr ∧ g < wr.heap.size ∧
    (∀ k, k < j → ∃ r c i o, Hc wr ⟨g, k * 9, none⟩ r c i o (hs.getD k voidH) ∧ Hm wr (g + 1) r c i o (hs.getD k voidH) ∧ Ha r c i o)) (fun c _ => len - (intOf c).toNat)
  case atStart => exact ⟨0, Nat.zero_le _, rfl, T1.out, B1.out, G1.out, fun i hi => absurd hi (Nat.not_lt_zero _)⟩
  case round =>
    obtain ⟨j, hj, rfl, hT, hB, hG, hV⟩ := hrel
    have HT : Hid (wr.there g 0 (len * 9)) := hT
    have HB : Hid (Below w.heap.size w wr) := hB
    have HGL : Hid (g < wr.heap.size) := hG
    have HV : Hid (∀ k, k < j → ∃ r c i o, Hc wr ⟨g, k * 9, none⟩ r c i o (hs.getD k voidH) ∧ Hm wr (g + 1) r c i o (hs.getD k voidH) ∧ Ha r c i o) := hV
    have hl2 : (len : Int) ≤ 1048576 := by have := HSM.out; omega
    by_cases hlt : j < len
    · obtain ⟨x, a0, a1, a2, a3, n0, k0, n1, k1, n2, k2, n3, k3, rfl, k1', k2'⟩ := (HR.out.stay hB).at j hlt
      obtain ⟨H, hH⟩ : ∃ H, hs.getD j voidH = H := ⟨_, rfl⟩
      rw [hH] at k1' k2'
      have HI2 : Hid (Hin wr a0 n0 k0 a1 n1 k1 a2 n2 k2 a3 n3 k3 H) := k2'
      have HS2 : Hid (Hs n0 n1 n2 n3) := by
        have e := k2'.lens
        have t := HSS.out j hlt
        rw [hH] at t
        unfold Hsm at t
        rw [← e.1, ← e.2.1, ← e.2.2.1, ← e.2.2.2] at t
        exact t
      have HH : Hid (hs.getD j voidH = H) := hH
      have y0 := k1'.c0
      have y1 := k1'.c1
      have y2 := k1'.c2
      have y3 := k1'.c3
      have y4 := k1'.c4
      have y5 := k1'.c5
      have y6 := k1'.c6
      have y7 := k1'.c7
      have y8 := k1'.c8
      have hI : (j : Int) < (len : Int) := by omega
      have HL : Hid (j < len) := hlt
      clear k1' k2' hlt hB hH hT hG hV
      go_wp2_with fail
      refine (to_hart _ _ _ _ _ _ _ _ _ _ _ _ H _ HI2.out HS2.out).mono ?_
      rintro e w2 ⟨r, c, i, o, rfl, m2, A2, b2⟩
      have M2 : Hid (Hm w2 (g + 1) r c i o H) := m2.mono (by have := HGL.out; omega)
      have HA2 : Hid (Ha r c i o) := A2
      have T2 : Hid (w2.there g 0 (len * 9)) := thereB HT.out HGL.out b2
      have B2 : Hid (Below w.heap.size w w2) := on HB.out b2
      have V2 : Hid (∀ k, k < j → ∃ r c i o, Hc w2 ⟨g, k * 9, none⟩ r c i o (hs.getD k voidH) ∧ Hm w2 (g + 1) r c i o (hs.getD k voidH) ∧ Ha r c i o) := fun k hk => by
        obtain ⟨r, c, i, o, g1, g2, g3⟩ := HV.out k hk
        exact ⟨r, c, i, o, g1.stay b2, g2.keep b2, g3⟩
      have S2 : Hid (wr.heap.size ≤ w2.heap.size) := b2.size
      obtain ⟨xr, lr, rfl, _⟩ := m2.r.shape
      obtain ⟨xc, lc, rfl, _⟩ := m2.c.shape
      obtain ⟨xi, li, rfl, _⟩ := m2.i.shape
      obtain ⟨xo, lo, rfl, _⟩ := m2.o.shape
      generalize hn0 : H.regs.length = m0 at *
      generalize hn1 : H.csr.length = m1 at *
      generalize hn2 : H.inn.length = mi at *
      generalize hn3 : H.out.length = mo at *
      clear m2 A2 b2 y0 y1 y2 y3 y4 y5 y6 y7 y8 hn0 hn1 hn2 hn3
      have T9 : Hid (w2.there g (j * 9) 9) := fun k hk => by
        have := T2.out (j * 9 + k) (by have := HL.out; omega)
        rwa [Nat.zero_add] at this
      have FIN : Hid ((w2.setCells g (j * 9) [.slice xr m0 lr, .int .i64 H.pc, .slice xc m1 lc, .bool H.halted, .bool H.waiting, .bool H.rung, .int .i64 H.done, .slice xi mi li, .slice xo mo lo]).there g 0 (len * 9) ∧ Below w.heap.size w (w2.setCells g (j * 9) [.slice xr m0 lr, .int .i64 H.pc, .slice xc m1 lc, .bool H.halted, .bool H.waiting, .bool H.rung, .int .i64 H.done, .slice xi mi li, .slice xo mo lo]) ∧ g < (w2.setCells g (j * 9) [.slice xr m0 lr, .int .i64 H.pc, .slice xc m1 lc, .bool H.halted, .bool H.waiting, .bool H.rung, .int .i64 H.done, .slice xi mi li, .slice xo mo lo]).heap.size ∧ ∀ k, k < j + 1 → ∃ r c i o, Hc (w2.setCells g (j * 9) [.slice xr m0 lr, .int .i64 H.pc, .slice xc m1 lc, .bool H.halted, .bool H.waiting, .bool H.rung, .int .i64 H.done, .slice xi mi li, .slice xo mo lo]) ⟨g, k * 9, none⟩ r c i o (hs.getD k voidH) ∧ Hm (w2.setCells g (j * 9) [.slice xr m0 lr, .int .i64 H.pc, .slice xc m1 lc, .bool H.halted, .bool H.waiting, .bool H.rung, .int .i64 H.done, .slice xi mi li, .slice xo mo lo]) (g + 1) r c i o (hs.getD k voidH) ∧ Ha r c i o) := by
        have MQ := mqC g [.slice xr m0 lr, .int .i64 H.pc, .slice xc m1 lc, .bool H.halted, .bool H.waiting, .bool H.rung, .int .i64 H.done, .slice xi mi li, .slice xo mo lo] w2 (j * 9)
        refine ⟨World.there_setCells T2.out _ _ _, Mq.under B2.out MQ fun k e => by have := HG.out; omega, Nat.lt_of_lt_of_le (Nat.lt_of_lt_of_le HGL.out S2.out) MQ.size, fun k hk => ?_⟩
        rcases Nat.lt_or_ge k j with h | h
        · obtain ⟨r, c, i, o, g1, g2, g3⟩ := V2.out k h
          exact ⟨r, c, i, o, g1.put rfl (fun _ => .inl (show k * 9 + 9 ≤ j * 9 by omega)), MQ.hm g2 (fun q e f => by have := g2.own q e; have : q = g := f; omega), g3⟩
        · obtain rfl : k = j := by omega
          refine ⟨_, _, _, _, ?_, ?_, HA2.out⟩
          · rw [HH.out]; exact Hc.new T9.out
          · rw [HH.out]; exact MQ.hm M2.out (fun q e f => by have := M2.out.own q e; have : q = g := f; omega)
      obtain ⟨v0, p0⟩ : ∃ v, w2.cell? ⟨g, j * 9, none⟩ = some v := Option.isSome_iff_exists.1 (T9.out 0 (by decide)).1
      have f0 : w2.frozen? ⟨g, j * 9, none⟩ = false := (T9.out 0 (by decide)).2
      obtain ⟨v1, p1⟩ : ∃ v, w2.cell? ⟨g, j * 9 + 1, none⟩ = some v := Option.isSome_iff_exists.1 (T9.out 1 (by decide)).1
      have f1 : w2.frozen? ⟨g, j * 9 + 1, none⟩ = false := (T9.out 1 (by decide)).2
      obtain ⟨v2, p2⟩ : ∃ v, w2.cell? ⟨g, j * 9 + 2, none⟩ = some v := Option.isSome_iff_exists.1 (T9.out 2 (by decide)).1
      have f2 : w2.frozen? ⟨g, j * 9 + 2, none⟩ = false := (T9.out 2 (by decide)).2
      obtain ⟨v3, p3⟩ : ∃ v, w2.cell? ⟨g, j * 9 + 3, none⟩ = some v := Option.isSome_iff_exists.1 (T9.out 3 (by decide)).1
      have f3 : w2.frozen? ⟨g, j * 9 + 3, none⟩ = false := (T9.out 3 (by decide)).2
      obtain ⟨v4, p4⟩ : ∃ v, w2.cell? ⟨g, j * 9 + 4, none⟩ = some v := Option.isSome_iff_exists.1 (T9.out 4 (by decide)).1
      have f4 : w2.frozen? ⟨g, j * 9 + 4, none⟩ = false := (T9.out 4 (by decide)).2
      obtain ⟨v5, p5⟩ : ∃ v, w2.cell? ⟨g, j * 9 + 5, none⟩ = some v := Option.isSome_iff_exists.1 (T9.out 5 (by decide)).1
      have f5 : w2.frozen? ⟨g, j * 9 + 5, none⟩ = false := (T9.out 5 (by decide)).2
      obtain ⟨v6, p6⟩ : ∃ v, w2.cell? ⟨g, j * 9 + 6, none⟩ = some v := Option.isSome_iff_exists.1 (T9.out 6 (by decide)).1
      have f6 : w2.frozen? ⟨g, j * 9 + 6, none⟩ = false := (T9.out 6 (by decide)).2
      obtain ⟨v7, p7⟩ : ∃ v, w2.cell? ⟨g, j * 9 + 7, none⟩ = some v := Option.isSome_iff_exists.1 (T9.out 7 (by decide)).1
      have f7 : w2.frozen? ⟨g, j * 9 + 7, none⟩ = false := (T9.out 7 (by decide)).2
      obtain ⟨v8, p8⟩ : ∃ v, w2.cell? ⟨g, j * 9 + 8, none⟩ = some v := Option.isSome_iff_exists.1 (T9.out 8 (by decide)).1
      have f8 : w2.frozen? ⟨g, j * 9 + 8, none⟩ = false := (T9.out 8 (by decide)).2
      have gl : g < w2.heap.size := Nat.lt_of_lt_of_le HGL.out S2.out
      go_wp2_with fail
      go_roundw
      case rel => exact ⟨j + 1, by have := HL.out; omega, by go_num, FIN.out⟩
      case measure => have := HL.out; simp [intOf]; omega
    · have hJ : ¬ (j : Int) < (len : Int) := by omega
      have HJ : Hid (j = len) := by show _ = _; omega
      clear hlt hT hG
      go_wp2_with fail
      go_ret
      refine ⟨g, rfl, .inr ⟨g, len, by rw [← hlen.out], by have := hlen.out; omega, by have := HSM.out; unfold maxLen; omega, Nat.le_of_eq HG.out, fun k hk => ?_⟩, hB, HT.out, HGL.out⟩
      obtain ⟨r, c, i, o, g1, g2, g3⟩ := hV k (by have := HJ.out; have := hlen.out; omega)
      exact ⟨r, c, i, o, g1, g2.mono (by have := HG.out; omega), g3⟩
set_option maxRecDepth 20000 in
set_option maxHeartbeats 4000000 in
theorem eq_harts (u v : Value) (hs : List Ht) (b b' : Nat) (w : World) (h : Hl w b u hs) (k : Hl w b' v hs) :
    Calls Tryz.prog 30 #[u, v] w fun e w' => e = .returned (.bool true) ∧ Below w.heap.size w w' := by
  obtain ⟨a1, q1, hu, _, l1, g1⟩ := h.shape
  obtain ⟨a2, q2, hv, _, l2, g2⟩ := k.shape
  subst hu hv
  obtain ⟨n, hn⟩ : ∃ n, hs.length = n := ⟨_, rfl⟩
  rw [hn] at h k g1 g2 ⊢
  have HH : Hid (Hl w b (.slice a1 n q1) hs) := h
  have HK : Hid (Hl w b' (.slice a2 n q2) hs) := k
  have HN : Hid (hs.length = n) := hn
  have G1 : Hid (0 < n → ∃ g, a1 = some ⟨g, 0, none⟩) := g1
  have G2 : Hid (0 < n → ∃ g, a2 = some ⟨g, 0, none⟩) := g2
  have hmax : (n : Int) ≤ 9223372036854775807 := by have hc := h.shape; obtain ⟨_, _, _, h1, h2, _⟩ := hc; rw [hn] at h1; unfold maxLen at h2; omega
  clear h k hn g1 g2 l1 l2
  go_enter Tryz.func30, Tryz.ntmps30
  go_wp2_with fail
  go_loopw [5] (fun c wr => ∃ j : Nat, j ≤ n ∧ c = .int .i64 j ∧ Below w.heap.size w wr) (fun c _ => n - (intOf c).toNat)
  case atStart => exact ⟨0, Nat.zero_le _, rfl, Below.refl _ _⟩
  case round =>
    obtain ⟨j, hj, rfl, hB⟩ := hrel
    have HB : Hid (Below w.heap.size w wr) := hB
    by_cases hlt : j < n
    · obtain ⟨x1, e1⟩ := G1.out (by omega)
      obtain ⟨x2, e2⟩ := G2.out (by omega)
      subst e1 e2
      obtain ⟨r, c, i, o, y1, y2, _⟩ := (HH.out.keep hB).at j (by rw [HN.out]; exact hlt)
      obtain ⟨r', c', i', o', z1, z2, _⟩ := (HK.out.keep hB).at j (by rw [HN.out]; exact hlt)
      obtain ⟨H, hH⟩ : ∃ H, hs.getD j voidH = H := ⟨_, rfl⟩
      rw [hH] at y1 y2 z1 z2
      obtain ⟨xr, lr, rfl, _⟩ := y2.r.shape
      obtain ⟨xc, lc, rfl, _⟩ := y2.c.shape
      obtain ⟨xi, li, rfl, _⟩ := y2.i.shape
      obtain ⟨xo, lo, rfl, _⟩ := y2.o.shape
      obtain ⟨zr, qr, rfl, _⟩ := z2.r.shape
      obtain ⟨zc, qc, rfl, _⟩ := z2.c.shape
      obtain ⟨zi, qi, rfl, _⟩ := z2.i.shape
      obtain ⟨zo, qo, rfl, _⟩ := z2.o.shape
      have Y2 : Hid (Hm wr b _ _ _ _ H) := y2
      have Z2 : Hid (Hm wr b' _ _ _ _ H) := z2
      generalize H.regs.length = m0 at *
      generalize H.csr.length = m1 at *
      generalize H.inn.length = mi at *
      generalize H.out.length = mo at *
      have Y1 : Hid (Hc wr ⟨x1, j * 9, none⟩ _ _ _ _ H) := y1
      have Z1 : Hid (Hc wr ⟨x2, j * 9, none⟩ _ _ _ _ H) := z1
      have hI : (j : Int) < (n : Int) := by omega
      have HL : Hid (j < n) := hlt
      clear y1 y2 z1 z2 hB hH hlt
      go_wp2_with fail
      refine wp_region_held (S := fun w' => Below wr.heap.size wr w') (by kernel_rfl) ?_
      change wpAnyH _ _ _ _ _ _ _ _ (World.drew _)
      have SD : Hid (Below wr.heap.size wr wr.drew) := (Below.refl _ _).drew
      generalize wr.drew = x0 at *
      refine wpTk (i := 0) (v := .slice (some ⟨x1, 0, none⟩) n q1) rfl (Or.inl ⟨by rfl, fun w' hs => by go_simp⟩) SD.out ?_
      change wpAnyH _ _ _ _ _ _ _ (Act.put _ (some 17) _) _
      simp only [Act.put, zT, zZ, zS]
      refine wpTk (i := 1) (v := .int .i64 (j : Int)) rfl (Or.inl ⟨by rfl, fun w' hs => by go_simp⟩) SD.out ?_
      change wpAnyH _ _ _ _ _ _ _ (Act.put _ (some 18) _) _
      simp only [Act.put, zT, zZ, zS]
      refine wpTk (i := 2) (v := .pointer (some ⟨x1, j * 9, none⟩)) rfl (Or.inl ⟨by rfl, fun w' hs => by go_simp⟩) SD.out ?_
      change wpAnyH _ _ _ _ _ _ _ (Act.put _ (some 19) _) _
      simp only [Act.put, zT, zZ, zS]
      refine wpTk (i := 3) (v := .agg #[.slice xr m0 lr, .int .i64 H.pc, .slice xc m1 lc, .bool H.halted, .bool H.waiting, .bool H.rung, .int .i64 H.done, .slice xi mi li, .slice xo mo lo]) rfl (Or.inl ⟨by rfl, fun w' hs => by have hc := Y1.out.stay hs; have y0 := hc.c0; have y1 := hc.c1; have y2 := hc.c2; have y3 := hc.c3; have y4 := hc.c4; have y5 := hc.c5; have y6 := hc.c6; have y7 := hc.c7; have y8 := hc.c8; go_simp⟩) SD.out ?_
      change wpAnyH _ _ _ _ _ _ _ (Act.put _ (some 20) _) _
      simp only [Act.put, zT, zZ, zS]
      refine wpTk (i := 4) (v := .slice (some ⟨x2, 0, none⟩) n q2) rfl (Or.inl ⟨by rfl, fun w' hs => by go_simp⟩) SD.out ?_
      change wpAnyH _ _ _ _ _ _ _ (Act.put _ (some 21) _) _
      simp only [Act.put, zT, zZ, zS]
      refine wpTk (i := 5) (v := .int .i64 (j : Int)) rfl (Or.inl ⟨by rfl, fun w' hs => by go_simp⟩) SD.out ?_
      change wpAnyH _ _ _ _ _ _ _ (Act.put _ (some 22) _) _
      simp only [Act.put, zT, zZ, zS]
      refine wpTk (i := 6) (v := .pointer (some ⟨x2, j * 9, none⟩)) rfl (Or.inl ⟨by rfl, fun w' hs => by go_simp⟩) SD.out ?_
      change wpAnyH _ _ _ _ _ _ _ (Act.put _ (some 23) _) _
      simp only [Act.put, zT, zZ, zS]
      refine wpTk (i := 7) (v := .agg #[.slice zr m0 qr, .int .i64 H.pc, .slice zc m1 qc, .bool H.halted, .bool H.waiting, .bool H.rung, .int .i64 H.done, .slice zi mi qi, .slice zo mo qo]) rfl (Or.inl ⟨by rfl, fun w' hs => by have hc := Z1.out.stay hs; have y0 := hc.c0; have y1 := hc.c1; have y2 := hc.c2; have y3 := hc.c3; have y4 := hc.c4; have y5 := hc.c5; have y6 := hc.c6; have y7 := hc.c7; have y8 := hc.c8; go_simp⟩) SD.out ?_
      change wpAnyH _ _ _ _ _ _ _ (Act.put _ (some 24) _) _
      simp only [Act.put, zT, zZ, zS]
      refine zR 8 rfl fun K hK => ?_
      rw [if_pos (by rfl)]
      go_simp
      refine (eq_hart _ _ _ _ _ _ _ _ H b b' _ (Y2.out.keep SD.out) (Z2.out.keep SD.out)).mono ?_
      rintro e w2 ⟨rfl, b2⟩
      have S2 : Hid (Below wr.heap.size wr w2) := on SD.out b2
      clear b2
      refine hK.out _ _ S2.out (fun _ => ?_)
      clear hK K
      refine wpTk (i := 9) (v := .bool false) rfl (Or.inl ⟨by rfl, fun w' hs => by go_simp⟩) S2.out ?_
      change wpAnyH _ _ _ _ _ _ _ (Act.put _ (some 26) _) _
      simp only [Act.put, zT, zZ, zS]
      refine wpAnyH_done (by kernel_rfl) ?_ _
      have B2 : Hid (Below w.heap.size w w2) := on HB.out S2.out
      clear SD S2 Y1 Y2 Z1 Z2
      go_wp2_with fail
      go_roundw
      case rel => exact ⟨j + 1, by have := HL.out; omega, by go_num, B2.out⟩
      case measure => have := HL.out; simp [intOf]; omega
    · have hJ : ¬ (j : Int) < (n : Int) := by omega
      clear hlt
      go_wp2_with fail
      go_ret
      exact ⟨rfl, hB⟩
theorem row_ho {e sz n base : Nat} {v : Value} {w w' : World} {xs : List Value} (h : w.ownsRow base e sz v n xs) (H : Ho base w w') : w'.ownsRow base e sz v n xs := by
  obtain ⟨h1, h2 | ⟨g, cap, cur, hv, hg, hr, rest⟩⟩ := h
  · exact ⟨h1, .inl h2⟩
  · refine ⟨h1, .inr ⟨g, cap, cur, hv, hg, ?_, rest⟩⟩
    rw [H.block g hg ((Array.getElem?_eq_some_iff.1 hr).1)]
    exact hr
theorem SSo.ho {w w' : World} {base g n : Nat} {oss : List (List Int)} (h : SSo w base g n oss) (H : Ho base w w') : SSo w' base g n oss :=
  ⟨h.len, h.small, h.low, fun i hi => by
    obtain ⟨x, l, c, k1, k2⟩ := h.row i hi
    refine ⟨x, l, c, ?_, k2.ho H⟩
    rw [← k1]
    unfold World.cell?
    rw [show w'.heap[(⟨g, i, none⟩ : Addr).block]? = w.heap[(⟨g, i, none⟩ : Addr).block]? from H.block g h.low (block_of_cell k1)]⟩
theorem Mde.ho {w w' : World} {base g0 g1 g2 g3 n0 n1 n2 n3 : Nat} {P : Plc} (h : Mde w base g0 g1 g2 g3 n0 n1 n2 n3 P) (H : Ho base w w') : Mde w' base g0 g1 g2 g3 n0 n1 n2 n3 P :=
  ⟨h.own.ho H, row_ho h.lanes H, row_ho h.bells H, row_ho h.plan H⟩
theorem Mde.mono {w : World} {base base' g0 g1 g2 g3 n0 n1 n2 n3 : Nat} {P : Plc} (h : Mde w base g0 g1 g2 g3 n0 n1 n2 n3 P) (hb : base' ≤ base) : Mde w base' g0 g1 g2 g3 n0 n1 n2 n3 P :=
  ⟨h.own.mono hb, h.lanes.mono hb, h.bells.mono' hb, h.plan.mono' hb⟩
theorem hoSets (w : World) (q lim : Nat) (hq : q < lim) {i0 i1 i2 i3 : Nat} (u0 u1 u2 u3 : Value) : Ho lim w ((((w.setCell ⟨q, i0, none⟩ u0).setCell ⟨q, i1, none⟩ u1).setCell ⟨q, i2, none⟩ u2).setCell ⟨q, i3, none⟩ u3) :=
  (((Ho.set w ⟨q, i0, none⟩ u0 hq).trans (Ho.set _ ⟨q, i1, none⟩ u1 hq)).trans (Ho.set _ ⟨q, i2, none⟩ u2 hq)).trans (Ho.set _ ⟨q, i3, none⟩ u3 hq)
theorem Hl.ho {w w' : World} {base : Nat} {v : Value} {hs : List Ht} (h : Hl w base v hs) (k : Ho base w w') : Hl w' base v hs := by
  rcases h with h | ⟨g, cap, h1, h2, h3, h4, h5⟩
  · exact .inl h
  · refine .inr ⟨g, cap, h1, h2, h3, h4, fun j hj => ?_⟩
    obtain ⟨r, c, i, o, g1, g2, g3⟩ := h5 j hj
    have e : w'.heap[g]? = w.heap[g]? := k.block g h4 (block_of_cell g1.c0)
    have ce : ∀ q : Addr, q.block = g → w'.cell? q = w.cell? q := fun q hq => by
      unfold World.cell?
      rw [hq, e]
    exact ⟨r, c, i, o, ⟨(ce _ rfl).trans g1.c0, (ce _ rfl).trans g1.c1, (ce _ rfl).trans g1.c2, (ce _ rfl).trans g1.c3, (ce _ rfl).trans g1.c4, (ce _ rfl).trans g1.c5, (ce _ rfl).trans g1.c6, (ce _ rfl).trans g1.c7, (ce _ rfl).trans g1.c8⟩, g2.ho k, g3⟩
structure Osm (n0 n1 n2 n3 n4 n5 : Nat) (X : Hst) : Prop where
  pol : Small n0 n1 n2 n3 X.pol
  mem : n4 ≤ 1048576
  len : n5 ≤ 1048576
  each : ∀ i, i < n5 → Hsm (X.harts.getD i voidH)
theorem thereH {w w' : World} {q o n lo : Nat} (h : w.there q o n) (hq : lo ≤ q) (hl : q < w.heap.size) (H : Ho lo w w') : w'.there q o n := fun j hj => by
  have e := H.block q hq hl
  have t := h j hj
  unfold World.cell? World.frozen? at *
  rw [e]
  exact t
set_option maxHeartbeats 2000000 in
theorem sz_host (a0 a1 a2 a3 a4 a5 : Option Addr) (n0 c0 n1 c1 n2 c2 n3 c3 n4 c4 n5 c5 : Nat) (X : Hst) (w : World) (h : Oi w a0 n0 c0 a1 n1 c1 a2 n2 c2 a3 n3 c3 a4 n4 c4 a5 n5 c5 X) :
    Calls Tryz.prog 4 #[.agg #[.slice a0 n0 c0, .slice a1 n1 c1, .slice a2 n2 c2, .slice a3 n3 c3, .slice a4 n4 c4, .slice a5 n5 c5, .int .i64 X.slot, .int .i64 X.left, .int .i64 X.clock], .int .i64 1048576] w fun e w' => (∃ r : Int, e = .returned (.int .i64 r) ∧ r ≤ 1048576 ∧ (0 ≤ r → Osm n0 n1 n2 n3 n4 n5 X)) ∧ Below w.heap.size w w' := by
  generalize hW : w.alloc (.cells #[.slice a0 n0 c0, .slice a1 n1 c1, .slice a2 n2 c2, .slice a3 n3 c3, .slice a4 n4 c4, .slice a5 n5 c5, .int .i64 X.slot, .int .i64 X.left, .int .i64 X.clock] 31) = W
  have B0 : Hid (Below w.heap.size w W) := by show Below _ _ _; rw [← hW]; exact al (Below.refl _ _) _
  obtain ⟨s, hS⟩ : ∃ s, w.heap.size = s := ⟨_, rfl⟩
  have Q : Hid (Vb W s #[.slice a0 n0 c0, .slice a1 n1 c1, .slice a2 n2 c2, .slice a3 n3 c3, .slice a4 n4 c4, .slice a5 n5 c5, .int .i64 X.slot, .int .i64 X.left, .int .i64 X.clock] 31) := by show Vb _ _ _ _; rw [← hW, ← hS]; exact Vb.new _ _ _
  have HP : Hid (Oi W a0 n0 c0 a1 n1 c1 a2 n2 c2 a3 n3 c3 a4 n4 c4 a5 n5 c5 X) := h.stay B0.out
  have L4 : Hid (n4 ≤ 9223372036854775807) := h.mem.lens.2
  clear h
  have q0 := Q.out.cell 0 rfl
  have q1 := Q.out.cell 1 rfl
  have q2 := Q.out.cell 2 rfl
  have q3 := Q.out.cell 3 rfl
  go_enter Tryz.func4, Tryz.ntmps4
  go_wp2_with fail
  clear hW hS q0 q1 q2 q3
  refine (sz_policy _ _ _ _ _ _ _ _ _ _ _ _ X.pol _ HP.out.pol).mono ?_
  rintro e w1 ⟨⟨r, rfl, hr, hs⟩, b1⟩
  by_cases hneg : r < 0
  · go_wp2_with fail
    go_ret
    exact ⟨⟨-1, rfl, by omega, fun h => by omega⟩, on B0.out b1⟩
  have SM : Hid (Small n0 n1 n2 n3 X.pol) := hs (by omega)
  have R1 : Hid (0 ≤ r ∧ r ≤ 1048576) := ⟨by omega, hr⟩
  have q4 := cell_keep b1 (Q.out.cell 4 rfl)
  have B1 : Hid (Below W.heap.size W w1) := b1
  clear hs b1 hr
  by_cases h4 : r - n4 < 0
  · have H4 : Hid (r - n4 < 0) := h4
    go_wp2_with fail
    refine (szn _ _ _ _ _ L4.out R1.out.1 R1.out.2).mono ?_
    rintro e w2 ⟨rfl, rfl⟩
    rw [if_pos H4.out]
    go_wp2_with fail
    go_ret
    exact ⟨⟨-1, rfl, by omega, fun h => by omega⟩, on B0.out B1.out⟩
  have H4 : Hid (¬ r - n4 < 0) := h4
  obtain ⟨r4, hr4⟩ : ∃ r4 : Int, r - n4 = r4 := ⟨_, rfl⟩
  have K4 : Hid (r - n4 = r4) := hr4
  have R4 : Hid (0 ≤ r4 ∧ r4 ≤ 1048576 ∧ n4 ≤ 1048576) := ⟨by omega, by have := R1.out; omega, by have := R1.out; omega⟩
  have e4 : 0 ≤ r4 := R4.out.1
  have q5 := cell_keep B1.out (Q.out.cell 5 rfl)
  clear h4 hr4
  go_wp2_with fail
  refine (szn _ _ _ _ _ L4.out R1.out.1 R1.out.2).mono ?_
  rintro e w2 ⟨rfl, rfl⟩
  rw [if_neg (by have := H4.out; omega), K4.out]
  go_wp2_with fail
  refine (sz_harts _ _ _ _ X.harts _ (HP.out.harts.stay B1.out) R4.out.1 R4.out.2.1).mono ?_
  rintro e w3 ⟨⟨r5, rfl, hr5, hs5⟩, b3⟩
  have B3 : Hid (Below w.heap.size w w3) := on B0.out (on B1.out b3)
  clear b3 q4 q5
  by_cases h5 : r5 < 0
  · go_wp2_with fail
    go_ret
    exact ⟨⟨-1, rfl, by omega, fun h => by omega⟩, B3.out⟩
  have F5 : Hid (Osm n0 n1 n2 n3 n4 n5 X) := ⟨SM.out, R4.out.2.2, (hs5 (by omega)).1, (hs5 (by omega)).2⟩
  have R5 : Hid (r5 ≤ 1048576) := hr5
  have e5 : 0 ≤ r5 := by omega
  clear hs5 hr5
  go_wp2_with fail
  go_ret
  exact ⟨⟨_, rfl, R5.out, fun _ => F5.out⟩, B3.out⟩
structure Od (w : World) (base g0 g1 g2 g3 n0 n1 n2 n3 : Nat) (m h : Value) (X : Hst) : Prop where
  pol : Mde w base g0 g1 g2 g3 n0 n1 n2 n3 X.pol
  mem : Nums w base m X.mem
  harts : Hl w base h X.harts
theorem Od.keep {w w' : World} {base g0 g1 g2 g3 n0 n1 n2 n3 : Nat} {m h : Value} {X : Hst} (d : Od w base g0 g1 g2 g3 n0 n1 n2 n3 m h X) (b : Below w.heap.size w w') : Od w' base g0 g1 g2 g3 n0 n1 n2 n3 m h X :=
  ⟨d.pol.keep b, d.mem.keep b, d.harts.keep b⟩
structure Th (w v : World) (s : Nat) (cs os : Array Value) : Prop where
  A : Vb v s cs 31
  R : Vb v (s + 1) #[.slice none 0 0, .slice none 0 0, .slice none 0 0, .slice none 0 0, .slice none 0 0, .slice none 0 0, .int .i64 0, .int .i64 0, .int .i64 0] 40
  O : Vb v (s + 1 + 1) os 40
  b : Below w.heap.size w v
  z : w.heap.size = s
theorem Th.keep {w v v' : World} {s : Nat} {cs os : Array Value} (h : Th w v s cs os) (k : Below v.heap.size v v') : Th w v' s cs os := ⟨h.A.keep k, h.R.keep k, h.O.keep k, on h.b k, h.z⟩
theorem Th.put {w v : World} {s : Nat} {cs os : Array Value} (h : Th w v s cs os) (i : Nat) (u : Value) : Th w (v.setCell ⟨s + 1 + 1, i, none⟩ u) s cs (os.setIfInBounds i u) :=
  ⟨h.A.put _ _ (show s ≠ s + 1 + 1 by omega), h.R.put _ _ (show s + 1 ≠ s + 1 + 1 by omega), h.O.set i u, h.b.setCell (by have := h.z; show w.heap.size ≤ s + 1 + 1; omega) _, h.z⟩
set_option maxRecDepth 20000 in
set_option maxHeartbeats 4000000 in
theorem to_hostT (a0 a1 a2 a3 a4 a5 : Option Addr) (n0 c0 n1 c1 n2 c2 n3 c3 n4 c4 n5 c5 : Nat) (X : Hst) (w : World) (h : Oi w a0 n0 c0 a1 n1 c1 a2 n2 c2 a3 n3 c3 a4 n4 c4 a5 n5 c5 X) (hs : Osm n0 n1 n2 n3 n4 n5 X) :
    Calls Tryz.prog 6 #[.agg #[.slice a0 n0 c0, .slice a1 n1 c1, .slice a2 n2 c2, .slice a3 n3 c3, .slice a4 n4 c4, .slice a5 n5 c5, .int .i64 X.slot, .int .i64 X.left, .int .i64 X.clock]] w fun e w' => ∃ g0 g1 g2 g3 g4 g5, e = .returned (.agg #[.slice (some ⟨g0, 0, none⟩) n0 n0, .slice (some ⟨g1, 0, none⟩) n1 n1, .slice (some ⟨g2, 0, none⟩) n2 n2, .slice (some ⟨g3, 0, none⟩) n3 n3, .slice (some ⟨g4, 0, none⟩) n4 n4, .slice (some ⟨g5, 0, none⟩) n5 n5, .int .i64 X.slot, .int .i64 X.left, .int .i64 X.clock]) ∧ Od w' w.heap.size g0 g1 g2 g3 n0 n1 n2 n3 (.slice (some ⟨g4, 0, none⟩) n4 n4) (.slice (some ⟨g5, 0, none⟩) n5 n5) X ∧ Below w.heap.size w w' ∧ w'.there g5 0 (n5 * 9) ∧ w.heap.size ≤ g5 ∧ g5 < w'.heap.size := by
  have HS : Hid (Osm n0 n1 n2 n3 n4 n5 X) := hs
  have HP : Hid (Oi w a0 n0 c0 a1 n1 c1 a2 n2 c2 a3 n3 c3 a4 n4 c4 a5 n5 c5 X) := h
  clear h hs
  generalize hW : ((w.alloc (.cells #[.slice a0 n0 c0, .slice a1 n1 c1, .slice a2 n2 c2, .slice a3 n3 c3, .slice a4 n4 c4, .slice a5 n5 c5, .int .i64 X.slot, .int .i64 X.left, .int .i64 X.clock] 31)).alloc (.cells #[.slice none 0 0, .slice none 0 0, .slice none 0 0, .slice none 0 0, .slice none 0 0, .slice none 0 0, .int .i64 0, .int .i64 0, .int .i64 0] 40)).alloc (.cells #[.slice none 0 0, .slice none 0 0, .slice none 0 0, .slice none 0 0, .slice none 0 0, .slice none 0 0, .int .i64 0, .int .i64 0, .int .i64 0] 40) = W
  obtain ⟨s, hS⟩ : ∃ s, w.heap.size = s := ⟨_, rfl⟩
  have HSs : Hid (w.heap.size = s) := hS
  have SZ : Hid (W.heap.size = s + 3) := by show _ = _; rw [← hW, ← hS]; simp
  have T0 : Hid (Th w W s #[.slice a0 n0 c0, .slice a1 n1 c1, .slice a2 n2 c2, .slice a3 n3 c3, .slice a4 n4 c4, .slice a5 n5 c5, .int .i64 X.slot, .int .i64 X.left, .int .i64 X.clock] #[.slice none 0 0, .slice none 0 0, .slice none 0 0, .slice none 0 0, .slice none 0 0, .slice none 0 0, .int .i64 0, .int .i64 0, .int .i64 0]) := by
    have z1 : s + 1 = (w.alloc (.cells #[.slice a0 n0 c0, .slice a1 n1 c1, .slice a2 n2 c2, .slice a3 n3 c3, .slice a4 n4 c4, .slice a5 n5 c5, .int .i64 X.slot, .int .i64 X.left, .int .i64 X.clock] 31)).heap.size := by rw [← hS]; simp
    have z2 : s + 1 + 1 = ((w.alloc (.cells #[.slice a0 n0 c0, .slice a1 n1 c1, .slice a2 n2 c2, .slice a3 n3 c3, .slice a4 n4 c4, .slice a5 n5 c5, .int .i64 X.slot, .int .i64 X.left, .int .i64 X.clock] 31)).alloc (.cells #[.slice none 0 0, .slice none 0 0, .slice none 0 0, .slice none 0 0, .slice none 0 0, .slice none 0 0, .int .i64 0, .int .i64 0, .int .i64 0] 40)).heap.size := by rw [← hS]; simp
    refine ⟨?_, ?_, ?_, by rw [← hW]; exact al (al (al (Below.refl _ _) _) _) _, hS⟩
    · rw [← hW, ← hS]; exact ((Vb.new _ _ _).push _).push _
    · rw [← hW, z1]; exact (Vb.new _ _ _).push _
    · rw [← hW, z2]; exact Vb.new _ _ _
  have q0 := T0.out.A.cell 0 rfl
  have q1 := T0.out.A.cell 1 rfl
  have q2 := T0.out.A.cell 2 rfl
  have q3 := T0.out.A.cell 3 rfl
  go_enter Tryz.func6, Tryz.ntmps6
  go_wp2_with fail
  clear hW hS q0 q1 q2 q3
  refine (to_policy _ _ _ _ _ _ _ _ _ _ _ _ X.pol _ (HP.out.stay T0.out.b).pol HS.out.pol).mono ?_
  rintro e w1 ⟨g0, g1, g2, g3, rfl, m1, b1⟩
  have M1 : Hid (Mde w1 (s + 3) g0 g1 g2 g3 n0 n1 n2 n3 X.pol) := by rw [SZ.out] at m1; exact m1
  have S1 := T0.out.keep b1
  have o0 := S1.O.cell 0 rfl
  have o1 := S1.O.cell 1 rfl
  have o2 := S1.O.cell 2 rfl
  have o3 := S1.O.cell 3 rfl
  have f0 := S1.O.free 0
  have f1 := S1.O.free 1
  have f2 := S1.O.free 2
  have f3 := S1.O.free 3
  have e4 := S1.A.cell 4 rfl
  have T1 : Hid (Th w ((((w1.setCell ⟨s + 1 + 1, 0, none⟩ (.slice (some ⟨g0, 0, none⟩) n0 n0)).setCell ⟨s + 1 + 1, 1, none⟩ (.slice (some ⟨g1, 0, none⟩) n1 n1)).setCell ⟨s + 1 + 1, 2, none⟩ (.slice (some ⟨g2, 0, none⟩) n2 n2)).setCell ⟨s + 1 + 1, 3, none⟩ (.slice (some ⟨g3, 0, none⟩) n3 n3)) s #[.slice a0 n0 c0, .slice a1 n1 c1, .slice a2 n2 c2, .slice a3 n3 c3, .slice a4 n4 c4, .slice a5 n5 c5, .int .i64 X.slot, .int .i64 X.left, .int .i64 X.clock] #[.slice (some ⟨g0, 0, none⟩) n0 n0, .slice (some ⟨g1, 0, none⟩) n1 n1, .slice (some ⟨g2, 0, none⟩) n2 n2, .slice (some ⟨g3, 0, none⟩) n3 n3, .slice none 0 0, .slice none 0 0, .int .i64 0, .int .i64 0, .int .i64 0]) := (((S1.put 0 _).put 1 _).put 2 _).put 3 _
  have H1 : Hid (Ho (s + 3) w1 ((((w1.setCell ⟨s + 1 + 1, 0, none⟩ (.slice (some ⟨g0, 0, none⟩) n0 n0)).setCell ⟨s + 1 + 1, 1, none⟩ (.slice (some ⟨g1, 0, none⟩) n1 n1)).setCell ⟨s + 1 + 1, 2, none⟩ (.slice (some ⟨g2, 0, none⟩) n2 n2)).setCell ⟨s + 1 + 1, 3, none⟩ (.slice (some ⟨g3, 0, none⟩) n3 n3))) := hoSets w1 (s + 1 + 1) (s + 3) (by omega) _ _ _ _
  clear S1 m1 b1
  go_wp2_with fail
  generalize ((((w1.setCell ⟨s + 1 + 1, 0, none⟩ (.slice (some ⟨g0, 0, none⟩) n0 n0)).setCell ⟨s + 1 + 1, 1, none⟩ (.slice (some ⟨g1, 0, none⟩) n1 n1)).setCell ⟨s + 1 + 1, 2, none⟩ (.slice (some ⟨g2, 0, none⟩) n2 n2)).setCell ⟨s + 1 + 1, 3, none⟩ (.slice (some ⟨g3, 0, none⟩) n3 n3)) = v1 at *
  clear o0 f0 o1 f1 o2 f2 o3 f3 e4
  refine (to_nums _ _ _ _ _ (HP.out.stay T1.out.b).mem HS.out.mem).mono ?_
  rintro e w2 ⟨g4, rfl, m2, b2⟩
  have Z1 : Hid (s + 3 ≤ v1.heap.size) := by have := T1.out.O.lt; show _ ≤ _; omega
  have M2 : Hid (Nums w2 (s + 3) (.slice (some ⟨g4, 0, none⟩) n4 n4) X.mem) := m2.mono Z1.out
  have H12 : Hid (Ho (s + 3) w1 w2) := H1.out.trans (Ho.of b2)
  have S1 := T1.out.keep b2
  have o4 := S1.O.cell 4 rfl
  have f4 := S1.O.free 4
  have e5 := S1.A.cell 5 rfl
  have T2 : Hid (Th w (w2.setCell ⟨s + 1 + 1, 4, none⟩ (.slice (some ⟨g4, 0, none⟩) n4 n4)) s #[.slice a0 n0 c0, .slice a1 n1 c1, .slice a2 n2 c2, .slice a3 n3 c3, .slice a4 n4 c4, .slice a5 n5 c5, .int .i64 X.slot, .int .i64 X.left, .int .i64 X.clock] #[.slice (some ⟨g0, 0, none⟩) n0 n0, .slice (some ⟨g1, 0, none⟩) n1 n1, .slice (some ⟨g2, 0, none⟩) n2 n2, .slice (some ⟨g3, 0, none⟩) n3 n3, .slice (some ⟨g4, 0, none⟩) n4 n4, .slice none 0 0, .int .i64 0, .int .i64 0, .int .i64 0]) := S1.put 4 _
  have H2 : Hid (Ho (s + 3) w2 (w2.setCell ⟨s + 1 + 1, 4, none⟩ (.slice (some ⟨g4, 0, none⟩) n4 n4))) := Ho.set _ _ _ (by show s + 1 + 1 < s + 3; omega)
  clear S1 m2 b2
  go_wp2_with fail
  generalize (w2.setCell ⟨s + 1 + 1, 4, none⟩ (.slice (some ⟨g4, 0, none⟩) n4 n4)) = v2 at *
  clear o4 f4 e5
  refine (to_hartsT _ _ _ X.harts _ (HP.out.stay T2.out.b).harts HS.out.len HS.out.each).mono ?_
  rintro e w3 ⟨g5, rfl, m3, b3, th3, gl3⟩
  have TH : Hid (w3.there g5 0 (n5 * 9) ∧ g5 < w3.heap.size) := ⟨th3, gl3⟩
  clear th3 gl3
  have Z2 : Hid (s + 3 ≤ v2.heap.size) := by have := T2.out.O.lt; show _ ≤ _; omega
  have M3 : Hid (Hl w3 (s + 3) (.slice (some ⟨g5, 0, none⟩) n5 n5) X.harts) := m3.mono Z2.out
  have H23 : Hid (Ho (s + 3) w2 w3) := H2.out.trans (Ho.of b3)
  have G5 : Hid (s + 3 ≤ g5) := by
    rcases M3.out with h | ⟨g, cap, h1, _, _, h4, _⟩
    · cases h.1
    · cases h1; exact h4
  have S1 := T2.out.keep b3
  have o0 := S1.O.cell 0 rfl
  have o1 := S1.O.cell 1 rfl
  have o2 := S1.O.cell 2 rfl
  have o3 := S1.O.cell 3 rfl
  have o4 := S1.O.cell 4 rfl
  have o5 := S1.O.cell 5 rfl
  have o6 := S1.O.cell 6 rfl
  have o7 := S1.O.cell 7 rfl
  have o8 := S1.O.cell 8 rfl
  have f5 := S1.O.free 5
  have f6 := S1.O.free 6
  have f7 := S1.O.free 7
  have f8 := S1.O.free 8
  have e6 := S1.A.cell 6 rfl
  have e7 := S1.A.cell 7 rfl
  have e8 := S1.A.cell 8 rfl
  have r0 := S1.R.cell 0 rfl
  have r1 := S1.R.cell 1 rfl
  have r2 := S1.R.cell 2 rfl
  have r3 := S1.R.cell 3 rfl
  have r4 := S1.R.cell 4 rfl
  have r5 := S1.R.cell 5 rfl
  have r6 := S1.R.cell 6 rfl
  have r7 := S1.R.cell 7 rfl
  have r8 := S1.R.cell 8 rfl
  have y0 := S1.R.free 0
  have y1 := S1.R.free 1
  have y2 := S1.R.free 2
  have y3 := S1.R.free 3
  have y4 := S1.R.free 4
  have y5 := S1.R.free 5
  have y6 := S1.R.free 6
  have y7 := S1.R.free 7
  have y8 := S1.R.free 8
  have T3 : Hid (Th w ((((w3.setCell ⟨s + 1 + 1, 5, none⟩ (.slice (some ⟨g5, 0, none⟩) n5 n5)).setCell ⟨s + 1 + 1, 6, none⟩ (.int .i64 X.slot)).setCell ⟨s + 1 + 1, 7, none⟩ (.int .i64 X.left)).setCell ⟨s + 1 + 1, 8, none⟩ (.int .i64 X.clock)) s #[.slice a0 n0 c0, .slice a1 n1 c1, .slice a2 n2 c2, .slice a3 n3 c3, .slice a4 n4 c4, .slice a5 n5 c5, .int .i64 X.slot, .int .i64 X.left, .int .i64 X.clock] #[.slice (some ⟨g0, 0, none⟩) n0 n0, .slice (some ⟨g1, 0, none⟩) n1 n1, .slice (some ⟨g2, 0, none⟩) n2 n2, .slice (some ⟨g3, 0, none⟩) n3 n3, .slice (some ⟨g4, 0, none⟩) n4 n4, .slice (some ⟨g5, 0, none⟩) n5 n5, .int .i64 X.slot, .int .i64 X.left, .int .i64 X.clock]) := (((S1.put 5 _).put 6 _).put 7 _).put 8 _
  have H3 : Hid (Ho (s + 3) w3 ((((w3.setCell ⟨s + 1 + 1, 5, none⟩ (.slice (some ⟨g5, 0, none⟩) n5 n5)).setCell ⟨s + 1 + 1, 6, none⟩ (.int .i64 X.slot)).setCell ⟨s + 1 + 1, 7, none⟩ (.int .i64 X.left)).setCell ⟨s + 1 + 1, 8, none⟩ (.int .i64 X.clock))) := hoSets w3 (s + 1 + 1) (s + 3) (by omega) _ _ _ _
  have NN : Hid (_ ∧ _) := nine T3.out.R (.slice (some ⟨g0, 0, none⟩) n0 n0) (.slice (some ⟨g1, 0, none⟩) n1 n1) (.slice (some ⟨g2, 0, none⟩) n2 n2) (.slice (some ⟨g3, 0, none⟩) n3 n3) (.slice (some ⟨g4, 0, none⟩) n4 n4) (.slice (some ⟨g5, 0, none⟩) n5 n5) (.int .i64 X.slot) (.int .i64 X.left) (.int .i64 X.clock)
  clear S1 m3 b3
  go_wp2_with fail
  clear o0 r0 y0 o1 r1 y1 o2 r2 y2 o3 r3 y3 o4 r4 y4 o5 r5 y5 o6 r6 y6 o7 r7 y7 o8 r8 y8 f5 f6 f7 f8 e6 e7 e8
  generalize ((((((((((((((w3.setCell ⟨s + 1 + 1, 5, none⟩ (.slice (some ⟨g5, 0, none⟩) n5 n5)).setCell ⟨s + 1 + 1, 6, none⟩ (.int .i64 X.slot)).setCell ⟨s + 1 + 1, 7, none⟩ (.int .i64 X.left)).setCell ⟨s + 1 + 1, 8, none⟩ (.int .i64 X.clock)).setCell ⟨s + 1, 0, none⟩ (.slice (some ⟨g0, 0, none⟩) n0 n0)).setCell ⟨s + 1, 1, none⟩ (.slice (some ⟨g1, 0, none⟩) n1 n1)).setCell ⟨s + 1, 2, none⟩ (.slice (some ⟨g2, 0, none⟩) n2 n2)).setCell ⟨s + 1, 3, none⟩ (.slice (some ⟨g3, 0, none⟩) n3 n3)).setCell ⟨s + 1, 4, none⟩ (.slice (some ⟨g4, 0, none⟩) n4 n4)).setCell ⟨s + 1, 5, none⟩ (.slice (some ⟨g5, 0, none⟩) n5 n5)).setCell ⟨s + 1, 6, none⟩ (.int .i64 X.slot)).setCell ⟨s + 1, 7, none⟩ (.int .i64 X.left)).setCell ⟨s + 1, 8, none⟩ (.int .i64 X.clock))) = V at *
  generalize ((((w3.setCell ⟨s + 1 + 1, 5, none⟩ (.slice (some ⟨g5, 0, none⟩) n5 n5)).setCell ⟨s + 1 + 1, 6, none⟩ (.int .i64 X.slot)).setCell ⟨s + 1 + 1, 7, none⟩ (.int .i64 X.left)).setCell ⟨s + 1 + 1, 8, none⟩ (.int .i64 X.clock)) = v3 at *
  have H4 : Hid (Ho (s + 3) w3 V) := H3.out.trans (NN.out.2.ho fun k e => by omega)
  have B4 : Hid (Below w.heap.size w V) := Mq.under T3.out.b NN.out.2 fun k e => by have := HSs.out; omega
  have x0 := NN.out.1.cell 0 rfl
  have x1 := NN.out.1.cell 1 rfl
  have x2 := NN.out.1.cell 2 rfl
  have x3 := NN.out.1.cell 3 rfl
  have x4 := NN.out.1.cell 4 rfl
  have x5 := NN.out.1.cell 5 rfl
  have x6 := NN.out.1.cell 6 rfl
  have x7 := NN.out.1.cell 7 rfl
  have x8 := NN.out.1.cell 8 rfl
  have HD : Od V w.heap.size g0 g1 g2 g3 n0 n1 n2 n3 (.slice (some ⟨g4, 0, none⟩) n4 n4) (.slice (some ⟨g5, 0, none⟩) n5 n5) X := by
    have L : w.heap.size ≤ s + 3 := by have := HSs.out; omega
    exact ⟨(M1.out.ho (H12.out.trans (H23.out.trans H4.out))).mono L, (M2.out.ho (H23.out.trans H4.out)).mono L, (M3.out.ho H4.out).mono L⟩
  exact bodyPost_ret (v := .agg #[.slice (some ⟨g0, 0, none⟩) n0 n0, .slice (some ⟨g1, 0, none⟩) n1 n1, .slice (some ⟨g2, 0, none⟩) n2 n2, .slice (some ⟨g3, 0, none⟩) n3 n3, .slice (some ⟨g4, 0, none⟩) n4 n4, .slice (some ⟨g5, 0, none⟩) n5 n5, .int .i64 X.slot, .int .i64 X.left, .int .i64 X.clock]) (by simp [results, Tryz.results6, go_sem, x0, x1, x2, x3, x4, x5, x6, x7, x8]) rfl ⟨_, _, _, _, _, _, rfl, HD, B4.out, thereH TH.out.1 G5.out TH.out.2 H4.out, by have := G5.out; have := HSs.out; omega, Nat.lt_of_lt_of_le TH.out.2 H4.out.size⟩
theorem to_host (a0 a1 a2 a3 a4 a5 : Option Addr) (n0 c0 n1 c1 n2 c2 n3 c3 n4 c4 n5 c5 : Nat) (X : Hst) (w : World) (h : Oi w a0 n0 c0 a1 n1 c1 a2 n2 c2 a3 n3 c3 a4 n4 c4 a5 n5 c5 X) (hs : Osm n0 n1 n2 n3 n4 n5 X) :
    Calls Tryz.prog 6 #[.agg #[.slice a0 n0 c0, .slice a1 n1 c1, .slice a2 n2 c2, .slice a3 n3 c3, .slice a4 n4 c4, .slice a5 n5 c5, .int .i64 X.slot, .int .i64 X.left, .int .i64 X.clock]] w fun e w' => ∃ g0 g1 g2 g3 g4 g5, e = .returned (.agg #[.slice (some ⟨g0, 0, none⟩) n0 n0, .slice (some ⟨g1, 0, none⟩) n1 n1, .slice (some ⟨g2, 0, none⟩) n2 n2, .slice (some ⟨g3, 0, none⟩) n3 n3, .slice (some ⟨g4, 0, none⟩) n4 n4, .slice (some ⟨g5, 0, none⟩) n5 n5, .int .i64 X.slot, .int .i64 X.left, .int .i64 X.clock]) ∧ Od w' w.heap.size g0 g1 g2 g3 n0 n1 n2 n3 (.slice (some ⟨g4, 0, none⟩) n4 n4) (.slice (some ⟨g5, 0, none⟩) n5 n5) X ∧ Below w.heap.size w w' :=
  (to_hostT a0 a1 a2 a3 a4 a5 n0 c0 n1 c1 n2 c2 n3 c3 n4 c4 n5 c5 X w h hs).mono fun e w' ⟨g0, g1, g2, g3, g4, g5, h1, h2, h3, _⟩ => ⟨g0, g1, g2, g3, g4, g5, h1, h2, h3⟩
theorem Mq.dr {S : Nat → Prop} {a w : World} (m : Mq S a w) : Mq S a w.drew := ⟨m.os, m.tape, m.output, m.size, m.block⟩
structure Sv (w u : World) (b q : Nat) (r c i o : Value) (H : Ht) : Prop where
  m : Hm u b r c i o H
  v : Vb u q #[r, .int .i64 H.pc, c, .bool H.halted, .bool H.waiting, .bool H.rung, .int .i64 H.done, i, o] 60
  g : Mq (fun j => j = q ∨ c.ownBlock = some j) w u
theorem Sv.dr {w v : World} {b q : Nat} {r c i o : Value} {H : Ht} (h : Sv w v b q r c i o H) : Sv w v.drew b q r c i o H :=
  ⟨h.m.keep (Below.refl _ _).drew, h.v, h.g.dr⟩
theorem apt_ne {a c : Value} {y : Nat} (h : Apt c a) (hc : c.ownBlock = some y) : a.ownBlock ≠ some y := by
  rcases h with h | h
  · rw [hc] at h; cases h
  · intro e; exact h (hc.trans e.symm)
theorem Sv.csr {w v : World} {b q y k : Nat} {r i o : Value} {H : Ht} (h : Sv w v b q r (.slice (some ⟨y, 0, none⟩) 11 k) i o H) (A : Ha r (.slice (some ⟨y, 0, none⟩) 11 k) i o) (hq : q ≠ y) (n : Nat) (u : Int) :
    Sv w (v.setCell ⟨y, n, none⟩ (.int .i64 u)) b q r (.slice (some ⟨y, 0, none⟩) 11 k) i o { H with csr := H.csr.set n u } :=
  ⟨⟨h.m.r.put _ _ (apt_ne A.rc.swap rfl), (h.m.c.store n u).1, h.m.i.put _ _ (apt_ne A.ci rfl), h.m.o.put _ _ (apt_ne A.co rfl)⟩, h.v.put _ _ hq, h.g.set _ _ (.inr rfl)⟩
theorem Sv.fld {w v : World} {b q : Nat} {r c i o : Value} {H : Ht} (h : Sv w v b q r c i o H) (hq : ∀ k, Own4 r c i o k → k ≠ q) (j : Nat) (u : Value) :
    Nums (v.setCell ⟨q, j, none⟩ u) b r H.regs ∧ Nums (v.setCell ⟨q, j, none⟩ u) b c H.csr ∧ Nums (v.setCell ⟨q, j, none⟩ u) b i H.inn ∧ Nums (v.setCell ⟨q, j, none⟩ u) b o H.out ∧ Mq (fun j => j = q ∨ c.ownBlock = some j) w (v.setCell ⟨q, j, none⟩ u) :=
  ⟨h.m.r.put _ _ (fun e => hq q (.inl e) rfl), h.m.c.put _ _ (fun e => hq q (.inr (.inl e)) rfl), h.m.i.put _ _ (fun e => hq q (.inr (.inr (.inl e))) rfl), h.m.o.put _ _ (fun e => hq q (.inr (.inr (.inr e))) rfl), h.g.set _ _ (.inl rfl)⟩
theorem Sv.pc {w v : World} {b q : Nat} {r c i o : Value} {H : Ht} (h : Sv w v b q r c i o H) (hq : ∀ k, Own4 r c i o k → k ≠ q) (u : Int) : Sv w (v.setCell ⟨q, 1, none⟩ (.int .i64 u)) b q r c i o { H with pc := u } := by
  obtain ⟨h1, h2, h3, h4, h5⟩ := h.fld hq 1 (.int .i64 u)
  exact ⟨⟨h1, h2, h3, h4⟩, h.v.set 1 _, h5⟩
theorem Sv.rung {w v : World} {b q : Nat} {r c i o : Value} {H : Ht} (h : Sv w v b q r c i o H) (hq : ∀ k, Own4 r c i o k → k ≠ q) (u : Bool) : Sv w (v.setCell ⟨q, 5, none⟩ (.bool u)) b q r c i o { H with rung := u } := by
  obtain ⟨h1, h2, h3, h4, h5⟩ := h.fld hq 5 (.bool u)
  exact ⟨⟨h1, h2, h3, h4⟩, h.v.set 5 _, h5⟩
def mcr (H : Ht) (i o l p : Value) (ca ri : Int) : Array Value := #[.int .i64 (gt H.regs 0), .int .i64 (gt H.regs 1), .int .i64 (gt H.regs 2), .int .i64 (gt H.regs 3), .int .i64 (gt H.regs 4), .int .i64 (gt H.regs 5), .int .i64 (gt H.regs 6), .int .i64 (gt H.regs 7), .int .i64 (gt H.regs 8), .int .i64 (gt H.regs 9), .int .i64 (gt H.regs 10), .int .i64 (gt H.regs 11), .int .i64 (gt H.regs 12), .int .i64 (gt H.regs 13), .int .i64 (gt H.regs 14), .int .i64 (gt H.regs 15), .int .i64 H.pc, .int .i64 (gt H.csr 0), .int .i64 (gt H.csr 1), .int .i64 (gt H.csr 2), .int .i64 (gt H.csr 3), .int .i64 (gt H.csr 4), .int .i64 (gt H.csr 5), .int .i64 (gt H.csr 6), .int .i64 (gt H.csr 7), .int .i64 (gt H.csr 8), .int .i64 (gt H.csr 9), .int .i64 (gt H.csr 10), .bool H.halted, .bool H.waiting, .bool H.rung, .int .i64 H.done, i, o, l, p, .int .i64 ca, .int .i64 ri]
def mrz : Array Value := #[.int .i64 0, .int .i64 0, .int .i64 0, .int .i64 0, .int .i64 0, .int .i64 0, .int .i64 0, .int .i64 0, .int .i64 0, .int .i64 0, .int .i64 0, .int .i64 0, .int .i64 0, .int .i64 0, .int .i64 0, .int .i64 0, .int .i64 0, .int .i64 0, .int .i64 0, .int .i64 0, .int .i64 0, .int .i64 0, .int .i64 0, .int .i64 0, .int .i64 0, .int .i64 0, .int .i64 0, .int .i64 0, .bool false, .bool false, .bool false, .int .i64 0, .slice none 0 0, .slice none 0 0, .slice none 0 0, .slice none 0 0, .int .i64 0, .int .i64 0]
theorem mcr_one (H : Ht) (i o l p : Value) (ca ri : Int) (hi : i.oneCell' = true) (ho : o.oneCell' = true) (hl : l.oneCell' = true) (hp : p.oneCell' = true) : (mcr H i o l p ca ri).all (·.oneCell') = true := by
  have h1 : ∀ z : Int, (Value.int .i64 z).oneCell' = true := fun _ => rfl
  have h2 : ∀ z : Bool, (Value.bool z).oneCell' = true := fun _ => rfl
  simp [mcr, h1, h2, hi, ho, hl, hp]
theorem mrz_there {w : World} {q : Nat} {t : TypeId} {cs : Array Value} (h : Vb w q cs t) : w.there q 0 cs.size := fun j hj => by
  rw [Nat.zero_add]
  exact ⟨by rw [h.cell j (Array.getElem?_eq_getElem hj)]; rfl, h.free _⟩
theorem wp_build {op : Oper} {a : Act} {w : World} {K : Act → World → Prop} {Q : Exit → Act → World → Prop} (t : TypeId) (parts : Array (Nat × Operand)) (ho : op.op = .build t parts) (cells : Array Value) (hb : Tryz.prog.built t (parts.map fun (i, x) => (i, a.eval x)).toList = some cells)
    (h : K (a.put op.dst (.agg cells)) w) : op.wp Tryz.prog a w K Q := by
  unfold Oper.wp execOp
  simp only [ho, Sem.run_bind, run_build (P := Tryz.prog) w t _ cells hb, Sem.run_pure, Result.andThen_ok]
  exact h
def Sr (W : World) (q : Nat) (w' : World) : Prop := Mq (fun k => k = q) W w' ∧ w'.there q 0 38
theorem Sr.step {W w w' : World} {q : Nat} (h : Sr W q w) (hq : q < W.heap.size) (b : Below w.heap.size w w') : Sr W q w' :=
  ⟨h.1.trans (Mq.of (below_grown b none) fun k e => by cases e), there_below h.2 (Nat.lt_of_lt_of_le hq h.1.size) b⟩
theorem Sr.set {W w : World} {q : Nat} (h : Sr W q w) (vs : List Value) : Sr W q (w.setCells q 0 vs) := ⟨h.1.trans (mq_cells q vs w 0), World.there_setCells h.2 _ _ _⟩
set_option maxRecDepth 20000 in
set_option maxHeartbeats 8000000 in
theorem i_runnerOver (r c i o : Value) (H : Ht) (la : Option Addr) (ln lc : Nat) (pa : Option Addr) (pn pk : Nat) (b : Nat) (w : World) (h : Hm w b r c i o H) (hk : Hok H) :
    Calls Tryz.prog 94 #[.agg #[r, .int .i64 H.pc, c, .bool H.halted, .bool H.waiting, .bool H.rung, .int .i64 H.done, i, o], .slice la ln lc, .slice pa pn pk] w fun e w' => ∃ i' o', e = .returned (.agg (mcr H i' o' (.slice la ln lc) (.slice pa pn pk) (-1) (-1))) ∧ Nums w' w.heap.size i' H.inn ∧ Nums w' w.heap.size o' H.out ∧ Apt i' o' ∧ Below w.heap.size w w' ∧ ∃ bo, w.heap.size ≤ bo ∧ bo ≤ w'.heap.size ∧ Nums w' bo o' H.out ∧ (∀ k, i'.ownBlock = some k → k < bo) := by
  have HM : Hid (Hm w b r c i o H) := h
  have K : Hid (Hok H) := hk
  obtain ⟨a0, k0, rfl, _⟩ := h.r.shape
  obtain ⟨a1, k1, rfl, _⟩ := h.c.shape
  obtain ⟨a2, k2, rfl, _⟩ := h.i.shape
  obtain ⟨a3, k3, rfl, _⟩ := h.o.shape
  clear h hk
  generalize hW : (w.alloc (.cells #[.slice a0 H.regs.length k0, .int .i64 H.pc, .slice a1 H.csr.length k1, .bool H.halted, .bool H.waiting, .bool H.rung, .int .i64 H.done, .slice a2 H.inn.length k2, .slice a3 H.out.length k3] 60)).alloc (.cells #[.int .i64 0, .int .i64 0, .int .i64 0, .int .i64 0, .int .i64 0, .int .i64 0, .int .i64 0, .int .i64 0, .int .i64 0, .int .i64 0, .int .i64 0, .int .i64 0, .int .i64 0, .int .i64 0, .int .i64 0, .int .i64 0, .int .i64 0, .int .i64 0, .int .i64 0, .int .i64 0, .int .i64 0, .int .i64 0, .int .i64 0, .int .i64 0, .int .i64 0, .int .i64 0, .int .i64 0, .int .i64 0, .bool false, .bool false, .bool false, .int .i64 0, .slice none 0 0, .slice none 0 0, .slice none 0 0, .slice none 0 0, .int .i64 0, .int .i64 0] 152) = W
  have B0 : Hid (Below w.heap.size w W) := by show Below _ _ _; rw [← hW]; exact al (al (Below.refl _ _) _) _
  obtain ⟨s, hS⟩ : ∃ s, w.heap.size = s := ⟨_, rfl⟩
  have HS : Hid (w.heap.size = s) := hS
  have VA : Hid (Vb W s #[.slice a0 H.regs.length k0, .int .i64 H.pc, .slice a1 H.csr.length k1, .bool H.halted, .bool H.waiting, .bool H.rung, .int .i64 H.done, .slice a2 H.inn.length k2, .slice a3 H.out.length k3] 60) := by
    show Vb _ _ _ _; rw [← hW, ← hS]; exact (Vb.new _ _ _).push _
  have VR : Hid (Vb W (s + 1) mrz 152) := by
    have z1 : s + 1 = (w.alloc (.cells #[.slice a0 H.regs.length k0, .int .i64 H.pc, .slice a1 H.csr.length k1, .bool H.halted, .bool H.waiting, .bool H.rung, .int .i64 H.done, .slice a2 H.inn.length k2, .slice a3 H.out.length k3] 60)).heap.size := by rw [← hS]; simp
    show Vb _ _ _ _; rw [← hW, z1]; exact Vb.new _ _ _
  have LW : Hid (s + 2 ≤ W.heap.size) := by show _ ≤ _; rw [← hW, ← hS]; simp
  have q0 := VA.out.cell 0 rfl
  have q1 := VA.out.cell 1 rfl
  have q2 := VA.out.cell 2 rfl
  have q3 := VA.out.cell 3 rfl
  have q4 := VA.out.cell 4 rfl
  have q5 := VA.out.cell 5 rfl
  have q6 := VA.out.cell 6 rfl
  have q7 := VA.out.cell 7 rfl
  have q8 := VA.out.cell 8 rfl
  go_enter Tryz.func94, Tryz.ntmps94
  go_wp2_with fail
  clear hW hS q0 q1 q2 q3 q4 q5 q6 q7 q8
  refine (i_machineX _ _ _ _ H _ _ (HM.out.keep B0.out) K.out.r16 K.out.c11 (by have := K.out.i40; omega) (by have := K.out.o40; omega)).mono ?_
  rintro e w2 ⟨i2, o2, rfl, mi, mo, ap, b2, bo, bo1, bo2, bo3, bo4⟩
  have BO : Hid (W.heap.size ≤ bo ∧ bo ≤ w2.heap.size) := ⟨bo1, bo2⟩
  have BO4 : Hid (∀ k, i2.ownBlock = some k → k < bo) := bo4
  have BO3 : Hid (Nums w2 bo o2 H.out) := bo3
  have MI : Hid (Nums w2 W.heap.size i2 H.inn) := mi
  have MO : Hid (Nums w2 W.heap.size o2 H.out) := mo
  have AP : Hid (Apt i2 o2) := ap
  have B2 : Hid (Below w.heap.size w w2) := on B0.out b2
  have VR2 : Hid (Vb w2 (s + 1) mrz 152) := VR.out.keep b2
  obtain ⟨xa, xk, rfl, _⟩ := mi.shape
  obtain ⟨ya, yk, rfl, _⟩ := mo.shape
  generalize hxn : H.inn.length = xn at *
  generalize hyn : H.out.length = yn at *
  clear mi mo ap b2 hxn hyn VR VA bo1 bo2 bo3 bo4
  have L2 : Hid (s + 1 < w2.heap.size) := VR2.out.lt
  generalize hX : mcr H (.slice xa xn xk) (.slice ya yn yk) (.slice la ln lc) (.slice pa pn pk) (-1) (-1) = X at *
  have hsz : X.size = 38 := by rw [← hX]; rfl
  have XO : Hid (X.all (·.oneCell') = true) := by show _ = _; rw [← hX]; exact mcr_one _ _ _ _ _ _ _ rfl rfl rfl rfl
  have HX : Hid (mcr H (.slice xa xn xk) (.slice ya yn yk) (.slice la ln lc) (.slice pa pn pk) (-1) (-1) = X) := hX
  clear hX
  go_simp
  go_step
  go_step
  go_step
  go_step
  go_step
  go_step
  go_step
  go_step
  refine wp_build _ _ rfl X (by rw [← HX.out]; kernel_rfl) ?_
  simp only [Act.put, zT, zZ, zS]
  go_step
  go_step
  have TH : w2.there (s + 1) 0 X.size := by
    have t := mrz_there VR2.out
    rw [hsz]
    exact t
  refine wp_store_mid 152 (.tmp 6) (.tmp 11) rfl (s + 1) 0 X rfl rfl TH (by rw [hsz]; kernel_rfl) XO.out ?_
  simp only [Act.put]
  have M4 := mq_cells (s + 1) X.toList w2 0
  have B4 : Below w.heap.size w (w2.setCells (s + 1) 0 X.toList) := Mq.under B2.out M4 fun k e => by have := HS.out; omega
  have O4 : Ho W.heap.size w2 (w2.setCells (s + 1) 0 X.toList) := M4.ho fun k e => by have := LW.out; omega
  have R4 : (w2.setCells (s + 1) 0 X.toList).rangeAt (s + 1) 0 X.toList := World.rangeAt_setCells_same _ _ _ _ (by simpa using TH)
  generalize w2.setCells (s + 1) 0 X.toList = w4 at *
  have LD := run_loadVar_mid (P := Tryz.prog) w4 (s + 1) 0 152 X.toList _ R4 Tryz.underlying152 rfl (by rw [Array.length_toList, hsz]; kernel_rfl)
  go_wp2_with fail
  exact bodyPost_ret (v := .agg X) (by simp [results, Tryz.results94, asAddr]; rw [LD]) rfl ⟨_, _, by rw [HX.out], (MI.out.ho O4).mono B0.out.size, (MO.out.ho O4).mono B0.out.size, AP.out, B4, bo, Nat.le_trans B0.out.size BO.out.1, Nat.le_trans BO.out.2 O4.size, BO3.out.ho ⟨O4.size, fun k hb hk => O4.block k (Nat.le_trans BO.out.1 hb) hk⟩, BO4.out⟩
def feedV (H : Ht) (ys : List Int) : Ht := { H with inn := H.inn ++ ys }
def feedR (H : Ht) (ys : List Int) : Int × Ht := if hfV H = 0 then (if ys.all isW = true then (if H.inn.length + ys.length ≤ 40 then (0, feedV H ys) else (2, voidH)) else (3, voidH)) else (hfV H, voidH)
theorem feedV_lens {H : Ht} (K : Hok H) {ys : List Int} (h : H.inn.length + ys.length ≤ 40) : (feedV H ys).regs.length = 16 ∧ (feedV H ys).csr.length = 11 ∧ (feedV H ys).inn.length ≤ 1000 ∧ (feedV H ys).out.length ≤ 1000 := by
  have := K.o40
  refine ⟨K.r16, K.c11, ?_, by show H.out.length ≤ 1000; omega⟩
  show (H.inn ++ ys).length ≤ 1000
  rw [List.length_append]; omega
theorem feedR_tot (H : Ht) (ys : List Int) : totH (feedR H ys).2 ≤ 4000 := by
  unfold feedR
  split
  next h =>
    have K := hok_of h
    have := K.r16; have := K.c11; have := K.i40; have := K.o40
    split
    · split
      · simp only [totH, feedV, List.length_append]; omega
      · simp [totH, voidH]
    · simp [totH, voidH]
  next => simp [totH, voidH]
structure Sd (w u : World) (b q : Nat) (r c o i' o' : Value) (G : Ht) : Prop where
  v : Vb u q #[r, .int .i64 G.pc, c, .bool G.halted, .bool G.waiting, .bool G.rung, .int .i64 G.done, i', o'] 60
  m : Hr u r c i' o' G
  n : ∀ k, Own4 r c i' o' k → b ≤ k ∧ k < u.heap.size
  g : Mq (fun j => j = q ∨ c.ownBlock = some j ∨ o.ownBlock = some j) w u
theorem Sd.same {w w' : World} {b q : Nat} {r c i o : Value} {H : Ht} (h : Hm w b r c i o H) (hv : Vb w q #[r, .int .i64 H.pc, c, .bool H.halted, .bool H.waiting, .bool H.rung, .int .i64 H.done, i, o] 60) (B : Below w.heap.size w w') : Sd w w' b q r c o i o H :=
  ⟨hv.keep B, h.hr.stay B, fun k e => by have := h.own k e; have := B.size; omega, Mq.of (below_grown B none) fun k e => by cases e⟩
theorem Sd.of {w w' : World} {b q : Nat} {r c i o o' : Value} {G : Ht} (h : Hm w' b r c i o' G) (hv : Vb w' q #[r, .int .i64 G.pc, c, .bool G.halted, .bool G.waiting, .bool G.rung, .int .i64 G.done, i, o'] 60) (g : Mq (fun j => j = q ∨ c.ownBlock = some j ∨ o.ownBlock = some j) w w') : Sd w w' b q r c o i o' G :=
  ⟨hv, h.hr, fun k e => h.own k e, g⟩
theorem Mq.more {S T : Nat → Prop} {w w' : World} (m : Mq S w w') (h : ∀ k, S k → T k) : Mq T w w' := ⟨m.os, m.tape, m.output, m.size, fun k hk hn => m.block k hk fun e => hn (h k e)⟩
set_option maxRecDepth 20000 in
set_option maxHeartbeats 4000000 in
theorem i_queue_full (m j : Nat) (v : Value) (zs : List Int) (a : Option Addr) (n c : Nat) (b : Nat) (w : World) (hj : w.cell? ⟨m, j, none⟩ = some v) (hN : Nums w b v zs) (hz : zs.length ≤ 40) (hn : n ≤ 100000000) (hf : ¬ zs.length + n ≤ 40) :
    Calls Tryz.prog 92 #[.pointer (some ⟨m, j, none⟩), .slice a n c] w fun e w' => e = .returned (.bool false) ∧ w' = w := by
  obtain ⟨x, cap, rfl, _⟩ := hN.shape
  clear hN
  generalize zs.length = l at *
  have h1 : (l : Int) ≤ 40 := by omega
  have h2 : (40 : Int) - (l : Int) < (n : Int) := by omega
  have h3 : (n : Int) ≤ 100000000 := by omega
  clear hz hn hf
  go_enter Tryz.func92, Tryz.ntmps92
  go_wp2_with fail
  go_ret
  exact ⟨rfl, rfl⟩
set_option maxRecDepth 20000 in
set_option maxHeartbeats 4000000 in
theorem i_queue (m j : Nat) (cs : Array Value) (t : TypeId) (v : Value) (zs : List Int) (a : Option Addr) (n c : Nat) (ys : List Int) (b : Nat) (w : World) (hv : Vb w m cs t) (hj : cs[j]? = some v) (hN : Nums w b v zs) (ht : t ≠ 2) (hR : Rn w a n c ys) (hf : zs.length + n ≤ 40) (hb : b ≤ w.heap.size) :
    Calls Tryz.prog 92 #[.pointer (some ⟨m, j, none⟩), .slice a n c] w fun e w' => e = .returned (.bool true) ∧ ∃ v', Nums w' b v' (zs ++ ys) ∧ Vb w' m (cs.setIfInBounds j v') t ∧ Mq (fun k => k = m ∨ v.ownBlock = some k) w w' := by
  obtain ⟨x, cap, rfl, _⟩ := hN.shape
  obtain ⟨l, hl⟩ : ∃ l, zs.length = l := ⟨_, rfl⟩
  rw [hl] at hN hj hf ⊢
  have HL : Hid (zs.length = l) := hl
  have HF : Hid (l + n ≤ 40) := hf
  have HN : Hid (Nums w b (.slice x l cap) zs) := hN
  have HV : Hid (Vb w m cs t) := hv
  have HT : Hid (t ≠ 2) := ht
  have HR : Hid (Rn w a n c ys) := hR
  have HB : Hid (b ≤ w.heap.size) := hb
  have h1 : (l : Int) ≤ 40 := by omega
  have h2 : ¬ (40 : Int) - (l : Int) < (n : Int) := by omega
  have h3 : (n : Int) ≤ 100000000 := by omega
  have c0 : w.cell? ⟨m, j, none⟩ = some (.slice x l cap) := hv.cell j hj
  have f0 := hv.free j
  clear hl hf hN hv ht hR hb hj
  have HC : Hid (∃ u, cs[j]? = some u) := by
    show ∃ u, _
    have : w.cell? ⟨m, j, none⟩ = some (.slice x l cap) := c0
    have hv := HV.out
    unfold Vb at hv
    simp [World.cell?, hv] at this
    exact ⟨_, this⟩
  obtain ⟨u, hu⟩ := HC.out
  have HU : Hid (cs[j]? = some u) := hu
  clear hu HC
  go_enter Tryz.func92, Tryz.ntmps92
  go_wp2_with (at_builtin; refine wp_appy _ rfl _ _ rfl b _ zs rfl HN.out a n c ys rfl HR.out (by have := HL.out; have := HF.out; omega) HB.out ?_; intro v' w' hN' hG'; obtain ⟨y, cap', hv', _⟩ := hN'.shape; obtain ⟨L, hL⟩ : ∃ L, (zs ++ ys).length = L := ⟨_, rfl⟩; rw [hL] at hv'; clear hL; subst hv'; have N1 : Hid (Nums w' b (.slice y L cap') (zs ++ ys)) := hN'; have G1 : Hid (w.grownBy w' (Value.slice x l cap).ownBlock) := hG'; have V1 : Hid (Vb w' m cs t) := HV.out.gr hG' fun e => HN.out.ne_vb HV.out HT.out e.symm; clear hN' hG' c0 f0; have c1 := V1.out.cell j HU.out; have f1 := V1.out.free j)
  go_ret
  refine ⟨rfl, _, ?_, V1.out.set j _, ?_⟩
  · exact N1.out.put ⟨m, j, none⟩ _ (N1.out.ne_vb V1.out HT.out)
  · exact (Mq.of G1.out fun k e => .inr e.symm).set ⟨m, j, none⟩ _ (.inl rfl)
structure Si (w u : World) (m : Nat) (i o i' o' : Value) (G : Ht) : Prop where
  v : Vb u m (mca G i' o') 107
  ri : Rv u i' G.inn
  ro : Rv u o' G.out
  g : Mq (fun j => j = m ∨ i.ownBlock = some j ∨ o.ownBlock = some j) w u
theorem Si.same {w : World} {b m : Nat} {i o : Value} {H : Ht} (hv : Vb w m (mca H i o) 107) (hi : Nums w b i H.inn) (ho : Nums w b o H.out) : Si w w m i o i o H := ⟨hv, hi.rv, ho.rv, Mq.refl _ _⟩
theorem Si.set {w w' : World} {b m : Nat} {i o : Value} {H G : Ht} (hv : Vb w m (mca H i o) 107) (hi : Nums w b i H.inn) (ho : Nums w b o H.out) (hv' : Vb w' m (mca G i o) 107) (hm : Mq (fun j => j = m) w w') (e1 : G.inn = H.inn) (e2 : G.out = H.out) : Si w w' m i o i o G :=
  ⟨hv', by rw [e1]; exact (hm.nums hi fun k e f => hi.ne_vb (t := 107) hv (by decide) (by rw [e, f])).rv, by rw [e2]; exact (hm.nums ho fun k e f => ho.ne_vb (t := 107) hv (by decide) (by rw [e, f])).rv, ⟨hm.os, hm.tape, hm.output, hm.size, fun k hk hn => hm.block k hk fun e => hn (.inl e)⟩⟩
theorem Si.pre {w u : World} {x : Obj} {m : Nat} {i o i' o' : Value} {G : Ht} (h : Si (w.alloc x) u m i o i' o' G) : Si w u m i o i' o' G := ⟨h.v, h.ri, h.ro, Mq.pre h.g⟩
set_option maxRecDepth 20000 in
set_option maxHeartbeats 4000000 in
theorem i_feed (m : Nat) (i o : Value) (H : Ht) (a : Option Addr) (n c : Nat) (ys : List Int) (b : Nat) (w : World) (hv : Vb w m (mca H i o) 107) (hi : Nums w b i H.inn) (ho : Nums w b o H.out) (ap : Apt i o) (hR : Rn w a n c ys) (hf : H.inn.length + n ≤ 40) (hb : b ≤ w.heap.size) :
    Calls Tryz.prog 61 #[.pointer (some ⟨m, 0, none⟩), .slice a n c] w fun e w' => e = .returned (.bool true) ∧ ∃ i' o', Si w w' m i o i' o' { H with inn := H.inn ++ ys } := by
  have HV : Hid (Vb w m (mca H i o) 107) := hv
  have HI : Hid (Nums w b i H.inn) := hi
  have HO : Hid (Nums w b o H.out) := ho
  have HA : Hid (Apt i o) := ap
  have HF : Hid (Rn w a n c ys ∧ H.inn.length + n ≤ 40 ∧ b ≤ w.heap.size) := ⟨hR, hf, hb⟩
  clear hv hi ho ap hR hf hb
  go_enter Tryz.func61, Tryz.ntmps61
  go_wp2_with fail
  refine (i_queue m 32 (mca H i o) _ i H.inn a n c ys b _ HV.out rfl HI.out (by decide) HF.out.1 HF.out.2.1 HF.out.2.2).mono ?_
  rintro e w1 ⟨rfl, i1, n1, v1, m1⟩
  have N1 : Hid (Nums w1 b i1 (H.inn ++ ys)) := n1
  have V1 : Hid (Vb w1 m (mca { H with inn := H.inn ++ ys } i1 o) 107) := v1
  have M1 : Hid (Mq (fun k => k = m ∨ i.ownBlock = some k) w w1) := m1
  clear n1 v1 m1
  go_wp2_with fail
  go_ret
  refine ⟨rfl, i1, o, V1.out, N1.out.rv, (M1.out.nums HO.out fun k e f => ?_).rv, ⟨M1.out.os, M1.out.tape, M1.out.output, M1.out.size, fun k hk hn => M1.out.block k hk fun e => hn (e.elim .inl fun e => .inr (.inl e))⟩⟩
  rcases f with f | f
  · exact HO.out.ne_vb (t := 107) HV.out (by decide) (by rw [e, f])
  · rcases HA.out.swap with h | h
    · rw [h] at e; cases e
    · exact h (e.trans f.symm)
set_option maxRecDepth 20000 in
set_option maxHeartbeats 4000000 in
theorem i_feed_full (m : Nat) (i o : Value) (H : Ht) (a : Option Addr) (n c : Nat) (b : Nat) (w : World) (hv : Vb w m (mca H i o) 107) (hi : Nums w b i H.inn) (hz : H.inn.length ≤ 40) (hn : n ≤ 100000000) (hf : ¬ H.inn.length + n ≤ 40) :
    Calls Tryz.prog 61 #[.pointer (some ⟨m, 0, none⟩), .slice a n c] w fun e w' => e = .returned (.bool false) ∧ w' = w := by
  have HV : Hid (Vb w m (mca H i o) 107) := hv
  have HI : Hid (Nums w b i H.inn) := hi
  have HF : Hid (H.inn.length ≤ 40 ∧ n ≤ 100000000 ∧ ¬ H.inn.length + n ≤ 40) := ⟨hz, hn, hf⟩
  clear hv hi hz hn hf
  go_enter Tryz.func61, Tryz.ntmps61
  go_wp2_with fail
  refine (i_queue_full m 32 i H.inn a n c b _ (HV.out.cell 32 rfl) HI.out HF.out.1 HF.out.2.1 HF.out.2.2).mono ?_
  rintro e w1 ⟨rfl, rfl⟩
  go_wp2_with fail
  go_ret
  exact ⟨rfl, rfl⟩
set_option maxRecDepth 20000 in
set_option maxHeartbeats 8000000 in
theorem i_feedHart (r c i o : Value) (H : Ht) (ya : Option Addr) (yn yc : Nat) (ys : List Int) (b : Nat) (w : World) (h : Hm w b r c i o H) (hy : Rn w ya yn yc ys) (hyn : yn ≤ 1048576) :
    Calls Tryz.prog 27 #[.agg #[r, .int .i64 H.pc, c, .bool H.halted, .bool H.waiting, .bool H.rung, .int .i64 H.done, i, o], .slice ya yn yc] w fun e w' => ∃ r' c' i' o', e = .returned (.agg #[.int .i64 (feedR H ys).1, r', .int .i64 (feedR H ys).2.pc, c', .bool (feedR H ys).2.halted, .bool (feedR H ys).2.waiting, .bool (feedR H ys).2.rung, .int .i64 (feedR H ys).2.done, i', o']) ∧ Hm w' w.heap.size r' c' i' o' (feedR H ys).2 ∧ Ha r' c' i' o' ∧ Below w.heap.size w w' := by
  have HM : Hid (Hm w b r c i o H) := h
  obtain ⟨a0, k0, rfl, _⟩ := h.r.shape
  obtain ⟨a1, k1, rfl, _⟩ := h.c.shape
  obtain ⟨a2, k2, rfl, _⟩ := h.i.shape
  obtain ⟨a3, k3, rfl, _⟩ := h.o.shape
  clear h
  have HY : Hid (Rn w ya yn yc ys) := hy
  have HYN : Hid (yn ≤ 1048576) := hyn
  have HYL : Hid (yn = ys.length) := hy.len
  clear hy hyn
  generalize hW : (w.alloc (.cells #[.slice a0 H.regs.length k0, .int .i64 H.pc, .slice a1 H.csr.length k1, .bool H.halted, .bool H.waiting, .bool H.rung, .int .i64 H.done, .slice a2 H.inn.length k2, .slice a3 H.out.length k3] 60)).alloc (.cells #[.int .i64 0, .slice none 0 0, .int .i64 0, .slice none 0 0, .bool false, .bool false, .bool false, .int .i64 0, .slice none 0 0, .slice none 0 0] 62) = W
  have B0 : Hid (Below w.heap.size w W) := by show Below _ _ _; rw [← hW]; exact al (al (Below.refl _ _) _) _
  obtain ⟨s, hS⟩ : ∃ s, w.heap.size = s := ⟨_, rfl⟩
  have HS : Hid (w.heap.size = s) := hS
  have VA : Hid (Vb W s #[.slice a0 H.regs.length k0, .int .i64 H.pc, .slice a1 H.csr.length k1, .bool H.halted, .bool H.waiting, .bool H.rung, .int .i64 H.done, .slice a2 H.inn.length k2, .slice a3 H.out.length k3] 60) := by
    show Vb _ _ _ _; rw [← hW, ← hS]; exact (Vb.new _ _ _).push _
  have VR : Hid (Vb W (s + 1) #[.int .i64 0, .slice none 0 0, .int .i64 0, .slice none 0 0, .bool false, .bool false, .bool false, .int .i64 0, .slice none 0 0, .slice none 0 0] 62) := by
    have z1 : s + 1 = (w.alloc (.cells #[.slice a0 H.regs.length k0, .int .i64 H.pc, .slice a1 H.csr.length k1, .bool H.halted, .bool H.waiting, .bool H.rung, .int .i64 H.done, .slice a2 H.inn.length k2, .slice a3 H.out.length k3] 60)).heap.size := by rw [← hS]; simp
    show Vb _ _ _ _; rw [← hW, z1]; exact Vb.new _ _ _
  have q0 := VA.out.cell 0 rfl
  have q1 := VA.out.cell 1 rfl
  have q2 := VA.out.cell 2 rfl
  have q3 := VA.out.cell 3 rfl
  have q4 := VA.out.cell 4 rfl
  have q5 := VA.out.cell 5 rfl
  have q6 := VA.out.cell 6 rfl
  have q7 := VA.out.cell 7 rfl
  have q8 := VA.out.cell 8 rfl
  go_enter Tryz.func27, Tryz.ntmps27
  go_wp2_with fail
  clear hW hS q0 q1 q2 q3 q4 q5 q6 q7 q8
  refine (i_fault _ _ _ _ H _ _ (HM.out.keep B0.out)).mono ?_
  rintro e w1 ⟨rfl, b1⟩
  have B1 : Hid (Below w.heap.size w w1) := on B0.out b1
  have VA1 : Hid (Vb w1 s #[.slice a0 H.regs.length k0, .int .i64 H.pc, .slice a1 H.csr.length k1, .bool H.halted, .bool H.waiting, .bool H.rung, .int .i64 H.done, .slice a2 H.inn.length k2, .slice a3 H.out.length k3] 60) := VA.out.keep b1
  have VR1 : Hid (Vb w1 (s + 1) #[.int .i64 0, .slice none 0 0, .int .i64 0, .slice none 0 0, .bool false, .bool false, .bool false, .int .i64 0, .slice none 0 0, .slice none 0 0] 62) := VR.out.keep b1
  have M1 : Hid (Hm w1 b _ _ _ _ H) := HM.out.keep B1.out
  clear b1 VA VR
  by_cases hf : hfV H = 0
  case neg =>
    have E0 : Hid ((feedR H ys).1 = hfV H) := by show _ = _; simp only [feedR, if_neg hf]
    have E1 : Hid ((feedR H ys).2 = voidH) := by show _ = _; simp only [feedR, if_neg hf]
    generalize hfV H = f at *
    have HE1 : Hid ((feedR H ys).1 = f) := by show _ = _; first | exact E0.out | exact E1.out
    have HE2 : Hid ((feedR H ys).2 = voidH) := by show _ = _; first | exact E0.out | exact E1.out
    have p0 := VR1.out.cell 0 rfl
    have f0 := VR1.out.free 0
    have p1 := VR1.out.cell 1 rfl
    have f1 := VR1.out.free 1
    have p2 := VR1.out.cell 2 rfl
    have f2 := VR1.out.free 2
    have p3 := VR1.out.cell 3 rfl
    have f3 := VR1.out.free 3
    have p4 := VR1.out.cell 4 rfl
    have f4 := VR1.out.free 4
    have p5 := VR1.out.cell 5 rfl
    have f5 := VR1.out.free 5
    have p6 := VR1.out.cell 6 rfl
    have f6 := VR1.out.free 6
    have p7 := VR1.out.cell 7 rfl
    have f7 := VR1.out.free 7
    have p8 := VR1.out.cell 8 rfl
    have f8 := VR1.out.free 8
    have p9 := VR1.out.cell 9 rfl
    have f9 := VR1.out.free 9
    go_wp2_with fail
    have NN : Hid (_ ∧ _) := ten VR1.out (.int .i64 f) (.slice none 0 0) (.int .i64 0) (.slice none 0 0) (.bool false) (.bool false) (.bool false) (.int .i64 0) (.slice none 0 0) (.slice none 0 0)
    clear p0 f0 p1 f1 p2 f2 p3 f3 p4 f4 p5 f5 p6 f6 p7 f7 p8 f8 p9 f9
    generalize ((((((((((w1.setCell ⟨s + 1, 0, none⟩ (.int .i64 f)).setCell ⟨s + 1, 1, none⟩ (.slice none 0 0)).setCell ⟨s + 1, 2, none⟩ (.int .i64 0)).setCell ⟨s + 1, 3, none⟩ (.slice none 0 0)).setCell ⟨s + 1, 4, none⟩ (.bool false)).setCell ⟨s + 1, 5, none⟩ (.bool false)).setCell ⟨s + 1, 6, none⟩ (.bool false)).setCell ⟨s + 1, 7, none⟩ (.int .i64 0)).setCell ⟨s + 1, 8, none⟩ (.slice none 0 0)).setCell ⟨s + 1, 9, none⟩ (.slice none 0 0)) = V at *
    have x0 := NN.out.1.cell 0 rfl
    have x1 := NN.out.1.cell 1 rfl
    have x2 := NN.out.1.cell 2 rfl
    have x3 := NN.out.1.cell 3 rfl
    have x4 := NN.out.1.cell 4 rfl
    have x5 := NN.out.1.cell 5 rfl
    have x6 := NN.out.1.cell 6 rfl
    have x7 := NN.out.1.cell 7 rfl
    have x8 := NN.out.1.cell 8 rfl
    have x9 := NN.out.1.cell 9 rfl
    have BV : Below w.heap.size w V := Mq.under B1.out NN.out.2 fun k e => by have := HS.out; omega
    have MV := NN.out.2
    refine bodyPost_ret (v := .agg #[.int .i64 f, .slice none 0 0, .int .i64 0, .slice none 0 0, .bool false, .bool false, .bool false, .int .i64 0, .slice none 0 0, .slice none 0 0]) (by simp [results, Tryz.results27, go_sem, x0, x1, x2, x3, x4, x5, x6, x7, x8, x9]) rfl ?_
    rw [HE1.out, HE2.out]
    exact ⟨_, _, _, _, rfl, void_hm _ _, void_ha, BV⟩
  have K : Hid (Hok H) := hok_of hf
  have HF : Hid (hfV H = 0) := hf
  rw [hf]
  cases ha : ys.all isW
  case false =>
    have HE1 : Hid ((feedR H ys).1 = 3) := by show _ = _; simp [feedR, hf, ha]
    have HE2 : Hid ((feedR H ys).2 = voidH) := by show _ = _; simp [feedR, hf, ha]
    have p0 := VR1.out.cell 0 rfl
    have f0 := VR1.out.free 0
    have p1 := VR1.out.cell 1 rfl
    have f1 := VR1.out.free 1
    have p2 := VR1.out.cell 2 rfl
    have f2 := VR1.out.free 2
    have p3 := VR1.out.cell 3 rfl
    have f3 := VR1.out.free 3
    have p4 := VR1.out.cell 4 rfl
    have f4 := VR1.out.free 4
    have p5 := VR1.out.cell 5 rfl
    have f5 := VR1.out.free 5
    have p6 := VR1.out.cell 6 rfl
    have f6 := VR1.out.free 6
    have p7 := VR1.out.cell 7 rfl
    have f7 := VR1.out.free 7
    have p8 := VR1.out.cell 8 rfl
    have f8 := VR1.out.free 8
    have p9 := VR1.out.cell 9 rfl
    have f9 := VR1.out.free 9
    go_wp2_with (go_at_call 59; refine (i_words _ _ _ ys _ (HY.out.stay B1.out)).mono ?_; rintro e y ⟨rfl, hy⟩; rw [hy]; clear hy y; rw [ha])
    have NN : Hid (_ ∧ _) := ten VR1.out (.int .i64 3) (.slice none 0 0) (.int .i64 0) (.slice none 0 0) (.bool false) (.bool false) (.bool false) (.int .i64 0) (.slice none 0 0) (.slice none 0 0)
    clear p0 f0 p1 f1 p2 f2 p3 f3 p4 f4 p5 f5 p6 f6 p7 f7 p8 f8 p9 f9
    generalize ((((((((((w1.setCell ⟨s + 1, 0, none⟩ (.int .i64 3)).setCell ⟨s + 1, 1, none⟩ (.slice none 0 0)).setCell ⟨s + 1, 2, none⟩ (.int .i64 0)).setCell ⟨s + 1, 3, none⟩ (.slice none 0 0)).setCell ⟨s + 1, 4, none⟩ (.bool false)).setCell ⟨s + 1, 5, none⟩ (.bool false)).setCell ⟨s + 1, 6, none⟩ (.bool false)).setCell ⟨s + 1, 7, none⟩ (.int .i64 0)).setCell ⟨s + 1, 8, none⟩ (.slice none 0 0)).setCell ⟨s + 1, 9, none⟩ (.slice none 0 0)) = V at *
    have x0 := NN.out.1.cell 0 rfl
    have x1 := NN.out.1.cell 1 rfl
    have x2 := NN.out.1.cell 2 rfl
    have x3 := NN.out.1.cell 3 rfl
    have x4 := NN.out.1.cell 4 rfl
    have x5 := NN.out.1.cell 5 rfl
    have x6 := NN.out.1.cell 6 rfl
    have x7 := NN.out.1.cell 7 rfl
    have x8 := NN.out.1.cell 8 rfl
    have x9 := NN.out.1.cell 9 rfl
    have BV : Below w.heap.size w V := Mq.under B1.out NN.out.2 fun k e => by have := HS.out; omega
    have MV := NN.out.2
    refine bodyPost_ret (v := .agg #[.int .i64 3, .slice none 0 0, .int .i64 0, .slice none 0 0, .bool false, .bool false, .bool false, .int .i64 0, .slice none 0 0, .slice none 0 0]) (by simp [results, Tryz.results27, go_sem, x0, x1, x2, x3, x4, x5, x6, x7, x8, x9]) rfl ?_
    rw [HE1.out, HE2.out]
    exact ⟨_, _, _, _, rfl, void_hm _ _, void_ha, BV⟩
  have q0 := VA1.out.cell 0 rfl
  have q1 := VA1.out.cell 1 rfl
  have q2 := VA1.out.cell 2 rfl
  have q3 := VA1.out.cell 3 rfl
  have q4 := VA1.out.cell 4 rfl
  have q5 := VA1.out.cell 5 rfl
  have q6 := VA1.out.cell 6 rfl
  have q7 := VA1.out.cell 7 rfl
  have q8 := VA1.out.cell 8 rfl
  go_wp2_with (go_at_call 59; refine (i_words _ _ _ ys _ (HY.out.stay B1.out)).mono ?_; rintro e y ⟨rfl, hy⟩; rw [hy]; clear hy y; rw [ha])
  clear q0 q1 q2 q3 q4 q5 q6 q7 q8
  refine (i_machine _ _ _ _ H _ _ M1.out K.out.r16 K.out.c11 (by have := K.out.i40; omega) (by have := K.out.o40; omega)).mono ?_
  rintro e w2 ⟨i2, o2, rfl, mi, mo, ap, b2⟩
  obtain ⟨xa, xk, rfl, _⟩ := mi.shape
  obtain ⟨ya', yk, rfl, _⟩ := mo.shape
  generalize hxn : H.inn.length = xn at *
  generalize hyn : H.out.length = yn' at *
  have hst := mca_store H xa xn xk ya' yn' yk w2
  have hsz := mca_size H (.slice xa xn xk) (.slice ya' yn' yk)
  have MI : Hid (Nums w2 w1.heap.size (.slice xa xn xk) H.inn) := mi
  have MO : Hid (Nums w2 w1.heap.size (.slice ya' yn' yk) H.out) := mo
  have AP : Hid (Apt (.slice xa xn xk) (.slice ya' yn' yk)) := ap
  have B2 : Hid (Below w.heap.size w w2) := on B1.out b2
  have VR2 : Hid (Vb w2 (s + 1) #[.int .i64 0, .slice none 0 0, .int .i64 0, .slice none 0 0, .bool false, .bool false, .bool false, .int .i64 0, .slice none 0 0, .slice none 0 0] 62) := VR1.out.keep b2
  have LB : Hid (w1.heap.size ≤ w2.heap.size ∧ s + 1 < w1.heap.size) := ⟨b2.size, VR1.out.lt⟩
  have XN : Hid (H.inn.length = xn) := hxn
  clear mi mo ap b2 hxn hyn
  go_wp2_with fail
  generalize hW3 : w2.alloc (.cells (mca H (.slice xa xn xk) (.slice ya' yn' yk)) 107) = W3
  obtain ⟨m, hm'⟩ : ∃ m, w2.heap.size = m := ⟨_, rfl⟩
  have HMm : Hid (w2.heap.size = m) := hm'
  rw [hm']
  have V3 : Hid (Vb W3 m (mca H (.slice xa xn xk) (.slice ya' yn' yk)) 107) := by show Vb _ _ _ _; rw [← hW3, ← hm']; exact Vb.new _ _ _
  have B3 : Hid (Below w.heap.size w W3) := by show Below _ _ _; rw [← hW3]; exact al B2.out _
  have VR3 : Hid (Vb W3 (s + 1) #[.int .i64 0, .slice none 0 0, .int .i64 0, .slice none 0 0, .bool false, .bool false, .bool false, .int .i64 0, .slice none 0 0, .slice none 0 0] 62) := by show Vb _ _ _ _; rw [← hW3]; exact VR2.out.push _
  have MI3 : Hid (Nums W3 w1.heap.size (.slice xa xn xk) H.inn) := by show Nums _ _ _ _; rw [← hW3]; exact MI.out.keep (al (Below.refl _ _) _)
  have MO3 : Hid (Nums W3 w1.heap.size (.slice ya' yn' yk) H.out) := by show Nums _ _ _ _; rw [← hW3]; exact MO.out.keep (al (Below.refl _ _) _)
  have LW : Hid (w1.heap.size ≤ W3.heap.size) := by show _ ≤ _; rw [← hW3]; have := LB.out.1; simp; omega
  clear hst hsz hW3 hm'
  by_cases hm : H.inn.length + ys.length ≤ 40
  case neg =>
    refine (i_feed_full _ _ _ H _ _ _ _ _ V3.out MI3.out K.out.i40 (by have := HYN.out; omega) (by have := HYL.out; omega)).mono ?_
    rintro e w4 ⟨rfl, hw4⟩
    rw [hw4]
    have HE1 : Hid ((feedR H ys).1 = 2) := by show _ = _; simp [feedR, hf, ha, hm]
    have HE2 : Hid ((feedR H ys).2 = voidH) := by show _ = _; simp [feedR, hf, ha, hm]
    have p0 := VR3.out.cell 0 rfl
    have f0 := VR3.out.free 0
    have p1 := VR3.out.cell 1 rfl
    have f1 := VR3.out.free 1
    have p2 := VR3.out.cell 2 rfl
    have f2 := VR3.out.free 2
    have p3 := VR3.out.cell 3 rfl
    have f3 := VR3.out.free 3
    have p4 := VR3.out.cell 4 rfl
    have f4 := VR3.out.free 4
    have p5 := VR3.out.cell 5 rfl
    have f5 := VR3.out.free 5
    have p6 := VR3.out.cell 6 rfl
    have f6 := VR3.out.free 6
    have p7 := VR3.out.cell 7 rfl
    have f7 := VR3.out.free 7
    have p8 := VR3.out.cell 8 rfl
    have f8 := VR3.out.free 8
    have p9 := VR3.out.cell 9 rfl
    have f9 := VR3.out.free 9
    go_wp2_with fail
    have NN : Hid (_ ∧ _) := ten VR3.out (.int .i64 2) (.slice none 0 0) (.int .i64 0) (.slice none 0 0) (.bool false) (.bool false) (.bool false) (.int .i64 0) (.slice none 0 0) (.slice none 0 0)
    clear p0 f0 p1 f1 p2 f2 p3 f3 p4 f4 p5 f5 p6 f6 p7 f7 p8 f8 p9 f9
    generalize ((((((((((W3.setCell ⟨s + 1, 0, none⟩ (.int .i64 2)).setCell ⟨s + 1, 1, none⟩ (.slice none 0 0)).setCell ⟨s + 1, 2, none⟩ (.int .i64 0)).setCell ⟨s + 1, 3, none⟩ (.slice none 0 0)).setCell ⟨s + 1, 4, none⟩ (.bool false)).setCell ⟨s + 1, 5, none⟩ (.bool false)).setCell ⟨s + 1, 6, none⟩ (.bool false)).setCell ⟨s + 1, 7, none⟩ (.int .i64 0)).setCell ⟨s + 1, 8, none⟩ (.slice none 0 0)).setCell ⟨s + 1, 9, none⟩ (.slice none 0 0)) = V at *
    have x0 := NN.out.1.cell 0 rfl
    have x1 := NN.out.1.cell 1 rfl
    have x2 := NN.out.1.cell 2 rfl
    have x3 := NN.out.1.cell 3 rfl
    have x4 := NN.out.1.cell 4 rfl
    have x5 := NN.out.1.cell 5 rfl
    have x6 := NN.out.1.cell 6 rfl
    have x7 := NN.out.1.cell 7 rfl
    have x8 := NN.out.1.cell 8 rfl
    have x9 := NN.out.1.cell 9 rfl
    have BV : Below w.heap.size w V := Mq.under B3.out NN.out.2 fun k e => by have := HS.out; omega
    have MV := NN.out.2
    refine bodyPost_ret (v := .agg #[.int .i64 2, .slice none 0 0, .int .i64 0, .slice none 0 0, .bool false, .bool false, .bool false, .int .i64 0, .slice none 0 0, .slice none 0 0]) (by simp [results, Tryz.results27, go_sem, x0, x1, x2, x3, x4, x5, x6, x7, x8, x9]) rfl ?_
    rw [HE1.out, HE2.out]
    exact ⟨_, _, _, _, rfl, void_hm _ _, void_ha, BV⟩
  have HE1 : Hid ((feedR H ys).1 = 0) := by show _ = _; simp [feedR, hf, ha, hm]
  have HE2 : Hid ((feedR H ys).2 = feedV H ys) := by show _ = _; simp [feedR, hf, ha, hm]
  refine (i_feed _ _ _ H _ _ _ ys _ _ V3.out MI3.out MO3.out AP.out (HY.out.stay B3.out) (by have := HYL.out; omega) LW.out).mono ?_
  rintro e w4 ⟨rfl, i4, o4, s4'⟩
  have s4 : Si W3 w4 m _ _ i4 o4 (feedV H ys) := s4'
  clear s4'
  obtain ⟨G, hG⟩ : ∃ G, feedV H ys = G := ⟨_, rfl⟩
  rw [hG] at s4
  have HG : Hid (feedV H ys = G) := hG
  have HEG : Hid ((feedR H ys).2 = G) := HE2.out.trans hG
  have S4 : Hid (Si W3 w4 m (.slice xa xn xk) (.slice ya' yn' yk) _ _ G) := s4
  have VR4 : Hid (Vb w4 (s + 1) #[.int .i64 0, .slice none 0 0, .int .i64 0, .slice none 0 0, .bool false, .bool false, .bool false, .int .i64 0, .slice none 0 0, .slice none 0 0] 62) := S4.out.g.vb VR3.out fun e => by
    have := LB.out.2; have := LB.out.1; have := HMm.out
    rcases e with e | e | e
    · omega
    · have := (MI.out.lt _ e).1; omega
    · have := (MO.out.lt _ e).1; omega
  have B4 : Hid (Below w.heap.size w w4) := Mq.under B3.out S4.out.g fun k e => by
    have := B1.out.size; have := LB.out.1; have := HMm.out
    rcases e with e | e | e
    · omega
    · have := (MI.out.lt _ e).1; omega
    · have := (MO.out.lt _ e).1; omega
  have LG : Hid (G.regs.length = 16 ∧ G.csr.length = 11 ∧ G.inn.length ≤ 1000 ∧ G.out.length ≤ 1000) := by
    rw [← HG.out]
    exact feedV_lens K.out hm
  clear s4 hG
  go_wp2_with fail
  refine (i_hartr m _ _ G _ S4.out.v S4.out.ri S4.out.ro LG.out.1 LG.out.2.1 LG.out.2.2.1 LG.out.2.2.2).mono ?_
  rintro e w5 ⟨r5, c5, i5, o5, rfl, m5, A5, b5⟩
  obtain ⟨ja0, jk0, rfl, _⟩ := m5.r.shape
  obtain ⟨ja1, jk1, rfl, _⟩ := m5.c.shape
  obtain ⟨ja2, jk2, rfl, _⟩ := m5.i.shape
  obtain ⟨ja3, jk3, rfl, _⟩ := m5.o.shape
  generalize G.regs.length = g0 at *
  generalize G.csr.length = g1 at *
  generalize G.inn.length = g2 at *
  generalize G.out.length = g3 at *
  have M5 : Hid (Hm w5 w4.heap.size (.slice ja0 g0 jk0) (.slice ja1 g1 jk1) (.slice ja2 g2 jk2) (.slice ja3 g3 jk3) G) := m5
  have HA5 : Hid (Ha (.slice ja0 g0 jk0) (.slice ja1 g1 jk1) (.slice ja2 g2 jk2) (.slice ja3 g3 jk3)) := A5
  have B5 : Hid (Below w.heap.size w w5) := on B4.out b5
  have VR5 : Hid (Vb w5 (s + 1) #[.int .i64 0, .slice none 0 0, .int .i64 0, .slice none 0 0, .bool false, .bool false, .bool false, .int .i64 0, .slice none 0 0, .slice none 0 0] 62) := VR4.out.keep b5
  have LQ : Hid (s + 1 < w4.heap.size) := VR4.out.lt
  clear m5 A5 b5
  have p0 := VR5.out.cell 0 rfl
  have f0 := VR5.out.free 0
  have p1 := VR5.out.cell 1 rfl
  have f1 := VR5.out.free 1
  have p2 := VR5.out.cell 2 rfl
  have f2 := VR5.out.free 2
  have p3 := VR5.out.cell 3 rfl
  have f3 := VR5.out.free 3
  have p4 := VR5.out.cell 4 rfl
  have f4 := VR5.out.free 4
  have p5 := VR5.out.cell 5 rfl
  have f5 := VR5.out.free 5
  have p6 := VR5.out.cell 6 rfl
  have f6 := VR5.out.free 6
  have p7 := VR5.out.cell 7 rfl
  have f7 := VR5.out.free 7
  have p8 := VR5.out.cell 8 rfl
  have f8 := VR5.out.free 8
  have p9 := VR5.out.cell 9 rfl
  have f9 := VR5.out.free 9
  go_wp2_with fail
  have NN : Hid (_ ∧ _) := ten VR5.out (.int .i64 0) (.slice ja0 g0 jk0) (.int .i64 G.pc) (.slice ja1 g1 jk1) (.bool G.halted) (.bool G.waiting) (.bool G.rung) (.int .i64 G.done) (.slice ja2 g2 jk2) (.slice ja3 g3 jk3)
  clear p0 f0 p1 f1 p2 f2 p3 f3 p4 f4 p5 f5 p6 f6 p7 f7 p8 f8 p9 f9
  generalize ((((((((((w5.setCell ⟨s + 1, 0, none⟩ (.int .i64 0)).setCell ⟨s + 1, 1, none⟩ (.slice ja0 g0 jk0)).setCell ⟨s + 1, 2, none⟩ (.int .i64 G.pc)).setCell ⟨s + 1, 3, none⟩ (.slice ja1 g1 jk1)).setCell ⟨s + 1, 4, none⟩ (.bool G.halted)).setCell ⟨s + 1, 5, none⟩ (.bool G.waiting)).setCell ⟨s + 1, 6, none⟩ (.bool G.rung)).setCell ⟨s + 1, 7, none⟩ (.int .i64 G.done)).setCell ⟨s + 1, 8, none⟩ (.slice ja2 g2 jk2)).setCell ⟨s + 1, 9, none⟩ (.slice ja3 g3 jk3)) = V at *
  have x0 := NN.out.1.cell 0 rfl
  have x1 := NN.out.1.cell 1 rfl
  have x2 := NN.out.1.cell 2 rfl
  have x3 := NN.out.1.cell 3 rfl
  have x4 := NN.out.1.cell 4 rfl
  have x5 := NN.out.1.cell 5 rfl
  have x6 := NN.out.1.cell 6 rfl
  have x7 := NN.out.1.cell 7 rfl
  have x8 := NN.out.1.cell 8 rfl
  have x9 := NN.out.1.cell 9 rfl
  have BV : Below w.heap.size w V := Mq.under B5.out NN.out.2 fun k e => by have := HS.out; omega
  have MV := NN.out.2
  refine bodyPost_ret (v := .agg #[.int .i64 0, .slice ja0 g0 jk0, .int .i64 G.pc, .slice ja1 g1 jk1, .bool G.halted, .bool G.waiting, .bool G.rung, .int .i64 G.done, .slice ja2 g2 jk2, .slice ja3 g3 jk3]) (by simp [results, Tryz.results27, go_sem, x0, x1, x2, x3, x4, x5, x6, x7, x8, x9]) rfl ?_
  rw [HE1.out, HEG.out]
  exact ⟨_, _, _, _, rfl, ((MV.hm M5.out fun k e f => by have := (M5.out.own k e).1; have := LQ.out; omega).mono B4.out.size), HA5.out, BV⟩
set_option maxRecDepth 20000 in
set_option maxHeartbeats 8000000 in
theorem s_feedHart (r c i o : Value) (H : Ht) (ya : Option Addr) (yn yc : Nat) (ys : List Int) (b : Nat) (w : World) (h : Hm w b r c i o H) (hy : Rn w ya yn yc ys) (hyn : yn ≤ 1048576) :
    Calls Tryz.prog 21 #[.agg #[r, .int .i64 H.pc, c, .bool H.halted, .bool H.waiting, .bool H.rung, .int .i64 H.done, i, o], .slice ya yn yc] w fun e w' => ∃ r' c' i' o', e = .returned (.agg #[.int .i64 (feedR H ys).1, r', .int .i64 (feedR H ys).2.pc, c', .bool (feedR H ys).2.halted, .bool (feedR H ys).2.waiting, .bool (feedR H ys).2.rung, .int .i64 (feedR H ys).2.done, i', o']) ∧ Hm w' w.heap.size r' c' i' o' (feedR H ys).2 ∧ Below w.heap.size w w' := by
  have HM : Hid (Hm w b r c i o H) := h
  obtain ⟨a0, k0, rfl, _⟩ := h.r.shape
  obtain ⟨a1, k1, rfl, _⟩ := h.c.shape
  obtain ⟨a2, k2, rfl, _⟩ := h.i.shape
  obtain ⟨a3, k3, rfl, _⟩ := h.o.shape
  clear h
  have HY : Hid (Rn w ya yn yc ys) := hy
  have HYN : Hid (yn ≤ 1048576) := hyn
  have HYL : Hid (yn = ys.length) := hy.len
  clear hy hyn
  generalize hW : (w.alloc (.cells #[.slice a0 H.regs.length k0, .int .i64 H.pc, .slice a1 H.csr.length k1, .bool H.halted, .bool H.waiting, .bool H.rung, .int .i64 H.done, .slice a2 H.inn.length k2, .slice a3 H.out.length k3] 60)).alloc (.cells #[.int .i64 0, .slice none 0 0, .int .i64 0, .slice none 0 0, .bool false, .bool false, .bool false, .int .i64 0, .slice none 0 0, .slice none 0 0] 62) = W
  have B0 : Hid (Below w.heap.size w W) := by show Below _ _ _; rw [← hW]; exact al (al (Below.refl _ _) _) _
  obtain ⟨s, hS⟩ : ∃ s, w.heap.size = s := ⟨_, rfl⟩
  have HS : Hid (w.heap.size = s) := hS
  have VA : Hid (Vb W s #[.slice a0 H.regs.length k0, .int .i64 H.pc, .slice a1 H.csr.length k1, .bool H.halted, .bool H.waiting, .bool H.rung, .int .i64 H.done, .slice a2 H.inn.length k2, .slice a3 H.out.length k3] 60) := by
    show Vb _ _ _ _; rw [← hW, ← hS]; exact (Vb.new _ _ _).push _
  have VR : Hid (Vb W (s + 1) #[.int .i64 0, .slice none 0 0, .int .i64 0, .slice none 0 0, .bool false, .bool false, .bool false, .int .i64 0, .slice none 0 0, .slice none 0 0] 62) := by
    have z1 : s + 1 = (w.alloc (.cells #[.slice a0 H.regs.length k0, .int .i64 H.pc, .slice a1 H.csr.length k1, .bool H.halted, .bool H.waiting, .bool H.rung, .int .i64 H.done, .slice a2 H.inn.length k2, .slice a3 H.out.length k3] 60)).heap.size := by rw [← hS]; simp
    show Vb _ _ _ _; rw [← hW, z1]; exact Vb.new _ _ _
  have q0 := VA.out.cell 0 rfl
  have q1 := VA.out.cell 1 rfl
  have q2 := VA.out.cell 2 rfl
  have q3 := VA.out.cell 3 rfl
  have q4 := VA.out.cell 4 rfl
  have q5 := VA.out.cell 5 rfl
  have q6 := VA.out.cell 6 rfl
  have q7 := VA.out.cell 7 rfl
  have q8 := VA.out.cell 8 rfl
  go_enter Tryz.func21, Tryz.ntmps21
  go_wp2_with fail
  clear hW hS q0 q1 q2 q3 q4 q5 q6 q7 q8
  refine (s_fault _ _ _ _ _ H _ _ (HM.out.keep B0.out) VA.out).mono ?_
  rintro e w1 ⟨rfl, hw1⟩
  have b1 : Below W.heap.size W w1 := by rw [hw1]; exact Below.refl _ _
  clear hw1
  have B1 : Hid (Below w.heap.size w w1) := on B0.out b1
  have VA1 : Hid (Vb w1 s #[.slice a0 H.regs.length k0, .int .i64 H.pc, .slice a1 H.csr.length k1, .bool H.halted, .bool H.waiting, .bool H.rung, .int .i64 H.done, .slice a2 H.inn.length k2, .slice a3 H.out.length k3] 60) := VA.out.keep b1
  have VR1 : Hid (Vb w1 (s + 1) #[.int .i64 0, .slice none 0 0, .int .i64 0, .slice none 0 0, .bool false, .bool false, .bool false, .int .i64 0, .slice none 0 0, .slice none 0 0] 62) := VR.out.keep b1
  have M1 : Hid (Hm w1 b _ _ _ _ H) := HM.out.keep B1.out
  clear b1 VA VR
  by_cases hf : hfV H = 0
  case neg =>
    have E0 : Hid ((feedR H ys).1 = hfV H) := by show _ = _; simp only [feedR, if_neg hf]
    have E1 : Hid ((feedR H ys).2 = voidH) := by show _ = _; simp only [feedR, if_neg hf]
    generalize hfV H = f at *
    have HE1 : Hid ((feedR H ys).1 = f) := by show _ = _; first | exact E0.out | exact E1.out
    have HE2 : Hid ((feedR H ys).2 = voidH) := by show _ = _; first | exact E0.out | exact E1.out
    have p0 := VR1.out.cell 0 rfl
    have f0 := VR1.out.free 0
    have p1 := VR1.out.cell 1 rfl
    have f1 := VR1.out.free 1
    have p2 := VR1.out.cell 2 rfl
    have f2 := VR1.out.free 2
    have p3 := VR1.out.cell 3 rfl
    have f3 := VR1.out.free 3
    have p4 := VR1.out.cell 4 rfl
    have f4 := VR1.out.free 4
    have p5 := VR1.out.cell 5 rfl
    have f5 := VR1.out.free 5
    have p6 := VR1.out.cell 6 rfl
    have f6 := VR1.out.free 6
    have p7 := VR1.out.cell 7 rfl
    have f7 := VR1.out.free 7
    have p8 := VR1.out.cell 8 rfl
    have f8 := VR1.out.free 8
    have p9 := VR1.out.cell 9 rfl
    have f9 := VR1.out.free 9
    go_wp2_with fail
    have NN : Hid (_ ∧ _) := ten VR1.out (.int .i64 f) (.slice none 0 0) (.int .i64 0) (.slice none 0 0) (.bool false) (.bool false) (.bool false) (.int .i64 0) (.slice none 0 0) (.slice none 0 0)
    clear p0 f0 p1 f1 p2 f2 p3 f3 p4 f4 p5 f5 p6 f6 p7 f7 p8 f8 p9 f9
    generalize ((((((((((w1.setCell ⟨s + 1, 0, none⟩ (.int .i64 f)).setCell ⟨s + 1, 1, none⟩ (.slice none 0 0)).setCell ⟨s + 1, 2, none⟩ (.int .i64 0)).setCell ⟨s + 1, 3, none⟩ (.slice none 0 0)).setCell ⟨s + 1, 4, none⟩ (.bool false)).setCell ⟨s + 1, 5, none⟩ (.bool false)).setCell ⟨s + 1, 6, none⟩ (.bool false)).setCell ⟨s + 1, 7, none⟩ (.int .i64 0)).setCell ⟨s + 1, 8, none⟩ (.slice none 0 0)).setCell ⟨s + 1, 9, none⟩ (.slice none 0 0)) = V at *
    have x0 := NN.out.1.cell 0 rfl
    have x1 := NN.out.1.cell 1 rfl
    have x2 := NN.out.1.cell 2 rfl
    have x3 := NN.out.1.cell 3 rfl
    have x4 := NN.out.1.cell 4 rfl
    have x5 := NN.out.1.cell 5 rfl
    have x6 := NN.out.1.cell 6 rfl
    have x7 := NN.out.1.cell 7 rfl
    have x8 := NN.out.1.cell 8 rfl
    have x9 := NN.out.1.cell 9 rfl
    have BV : Below w.heap.size w V := Mq.under B1.out NN.out.2 fun k e => by have := HS.out; omega
    have MV := NN.out.2
    refine bodyPost_ret (v := .agg #[.int .i64 f, .slice none 0 0, .int .i64 0, .slice none 0 0, .bool false, .bool false, .bool false, .int .i64 0, .slice none 0 0, .slice none 0 0]) (by simp [results, Tryz.results21, go_sem, x0, x1, x2, x3, x4, x5, x6, x7, x8, x9]) rfl ?_
    rw [HE1.out, HE2.out]
    exact ⟨_, _, _, _, rfl, void_hm _ _, BV⟩
  have K : Hid (Hok H) := hok_of hf
  have HF : Hid (hfV H = 0) := hf
  rw [hf]
  cases ha : ys.all isW
  case false =>
    have HE1 : Hid ((feedR H ys).1 = 3) := by show _ = _; simp [feedR, hf, ha]
    have HE2 : Hid ((feedR H ys).2 = voidH) := by show _ = _; simp [feedR, hf, ha]
    have p0 := VR1.out.cell 0 rfl
    have f0 := VR1.out.free 0
    have p1 := VR1.out.cell 1 rfl
    have f1 := VR1.out.free 1
    have p2 := VR1.out.cell 2 rfl
    have f2 := VR1.out.free 2
    have p3 := VR1.out.cell 3 rfl
    have f3 := VR1.out.free 3
    have p4 := VR1.out.cell 4 rfl
    have f4 := VR1.out.free 4
    have p5 := VR1.out.cell 5 rfl
    have f5 := VR1.out.free 5
    have p6 := VR1.out.cell 6 rfl
    have f6 := VR1.out.free 6
    have p7 := VR1.out.cell 7 rfl
    have f7 := VR1.out.free 7
    have p8 := VR1.out.cell 8 rfl
    have f8 := VR1.out.free 8
    have p9 := VR1.out.cell 9 rfl
    have f9 := VR1.out.free 9
    go_wp2_with (go_at_call 44; refine (s_words _ _ _ ys _ (HY.out.stay B1.out)).mono ?_; rintro e y ⟨rfl, hy⟩; rw [hy]; clear hy y; rw [ha])
    have NN : Hid (_ ∧ _) := ten VR1.out (.int .i64 3) (.slice none 0 0) (.int .i64 0) (.slice none 0 0) (.bool false) (.bool false) (.bool false) (.int .i64 0) (.slice none 0 0) (.slice none 0 0)
    clear p0 f0 p1 f1 p2 f2 p3 f3 p4 f4 p5 f5 p6 f6 p7 f7 p8 f8 p9 f9
    generalize ((((((((((w1.setCell ⟨s + 1, 0, none⟩ (.int .i64 3)).setCell ⟨s + 1, 1, none⟩ (.slice none 0 0)).setCell ⟨s + 1, 2, none⟩ (.int .i64 0)).setCell ⟨s + 1, 3, none⟩ (.slice none 0 0)).setCell ⟨s + 1, 4, none⟩ (.bool false)).setCell ⟨s + 1, 5, none⟩ (.bool false)).setCell ⟨s + 1, 6, none⟩ (.bool false)).setCell ⟨s + 1, 7, none⟩ (.int .i64 0)).setCell ⟨s + 1, 8, none⟩ (.slice none 0 0)).setCell ⟨s + 1, 9, none⟩ (.slice none 0 0)) = V at *
    have x0 := NN.out.1.cell 0 rfl
    have x1 := NN.out.1.cell 1 rfl
    have x2 := NN.out.1.cell 2 rfl
    have x3 := NN.out.1.cell 3 rfl
    have x4 := NN.out.1.cell 4 rfl
    have x5 := NN.out.1.cell 5 rfl
    have x6 := NN.out.1.cell 6 rfl
    have x7 := NN.out.1.cell 7 rfl
    have x8 := NN.out.1.cell 8 rfl
    have x9 := NN.out.1.cell 9 rfl
    have BV : Below w.heap.size w V := Mq.under B1.out NN.out.2 fun k e => by have := HS.out; omega
    have MV := NN.out.2
    refine bodyPost_ret (v := .agg #[.int .i64 3, .slice none 0 0, .int .i64 0, .slice none 0 0, .bool false, .bool false, .bool false, .int .i64 0, .slice none 0 0, .slice none 0 0]) (by simp [results, Tryz.results21, go_sem, x0, x1, x2, x3, x4, x5, x6, x7, x8, x9]) rfl ?_
    rw [HE1.out, HE2.out]
    exact ⟨_, _, _, _, rfl, void_hm _ _, BV⟩
  by_cases hm : H.inn.length + ys.length ≤ 40
  case neg =>
    have h1 : (40 : Int) < (H.inn.length : Int) + (yn : Int) := by have := HYL.out; omega
    have h2 : (H.inn.length : Int) ≤ 40 := by have := K.out.i40; omega
    have h3 : (yn : Int) ≤ 1048576 := by have := HYN.out; omega
    have q7 := VA1.out.cell 7 rfl
    have HE1 : Hid ((feedR H ys).1 = 2) := by show _ = _; simp [feedR, hf, ha, hm]
    have HE2 : Hid ((feedR H ys).2 = voidH) := by show _ = _; simp [feedR, hf, ha, hm]
    have p0 := VR1.out.cell 0 rfl
    have f0 := VR1.out.free 0
    have p1 := VR1.out.cell 1 rfl
    have f1 := VR1.out.free 1
    have p2 := VR1.out.cell 2 rfl
    have f2 := VR1.out.free 2
    have p3 := VR1.out.cell 3 rfl
    have f3 := VR1.out.free 3
    have p4 := VR1.out.cell 4 rfl
    have f4 := VR1.out.free 4
    have p5 := VR1.out.cell 5 rfl
    have f5 := VR1.out.free 5
    have p6 := VR1.out.cell 6 rfl
    have f6 := VR1.out.free 6
    have p7 := VR1.out.cell 7 rfl
    have f7 := VR1.out.free 7
    have p8 := VR1.out.cell 8 rfl
    have f8 := VR1.out.free 8
    have p9 := VR1.out.cell 9 rfl
    have f9 := VR1.out.free 9
    go_wp2_with (go_at_call 44; refine (s_words _ _ _ ys _ (HY.out.stay B1.out)).mono ?_; rintro e y ⟨rfl, hy⟩; rw [hy]; clear hy y; rw [ha])
    have NN : Hid (_ ∧ _) := ten VR1.out (.int .i64 2) (.slice none 0 0) (.int .i64 0) (.slice none 0 0) (.bool false) (.bool false) (.bool false) (.int .i64 0) (.slice none 0 0) (.slice none 0 0)
    clear p0 f0 p1 f1 p2 f2 p3 f3 p4 f4 p5 f5 p6 f6 p7 f7 p8 f8 p9 f9
    generalize ((((((((((w1.setCell ⟨s + 1, 0, none⟩ (.int .i64 2)).setCell ⟨s + 1, 1, none⟩ (.slice none 0 0)).setCell ⟨s + 1, 2, none⟩ (.int .i64 0)).setCell ⟨s + 1, 3, none⟩ (.slice none 0 0)).setCell ⟨s + 1, 4, none⟩ (.bool false)).setCell ⟨s + 1, 5, none⟩ (.bool false)).setCell ⟨s + 1, 6, none⟩ (.bool false)).setCell ⟨s + 1, 7, none⟩ (.int .i64 0)).setCell ⟨s + 1, 8, none⟩ (.slice none 0 0)).setCell ⟨s + 1, 9, none⟩ (.slice none 0 0)) = V at *
    have x0 := NN.out.1.cell 0 rfl
    have x1 := NN.out.1.cell 1 rfl
    have x2 := NN.out.1.cell 2 rfl
    have x3 := NN.out.1.cell 3 rfl
    have x4 := NN.out.1.cell 4 rfl
    have x5 := NN.out.1.cell 5 rfl
    have x6 := NN.out.1.cell 6 rfl
    have x7 := NN.out.1.cell 7 rfl
    have x8 := NN.out.1.cell 8 rfl
    have x9 := NN.out.1.cell 9 rfl
    have BV : Below w.heap.size w V := Mq.under B1.out NN.out.2 fun k e => by have := HS.out; omega
    have MV := NN.out.2
    refine bodyPost_ret (v := .agg #[.int .i64 2, .slice none 0 0, .int .i64 0, .slice none 0 0, .bool false, .bool false, .bool false, .int .i64 0, .slice none 0 0, .slice none 0 0]) (by simp [results, Tryz.results21, go_sem, x0, x1, x2, x3, x4, x5, x6, x7, x8, x9]) rfl ?_
    rw [HE1.out, HE2.out]
    exact ⟨_, _, _, _, rfl, void_hm _ _, BV⟩
  have h1 : ¬ (40 : Int) < (H.inn.length : Int) + (yn : Int) := by have := HYL.out; omega
  have h2 : (H.inn.length : Int) ≤ 40 := by have := K.out.i40; omega
  have h3 : (yn : Int) ≤ 1048576 := by have := HYN.out; omega
  have HE1 : Hid ((feedR H ys).1 = 0) := by show _ = _; simp [feedR, hf, ha, hm]
  have HE2 : Hid ((feedR H ys).2 = feedV H ys) := by show _ = _; simp [feedR, hf, ha, hm]
  have q0 := VA1.out.cell 0 rfl
  have q1 := VA1.out.cell 1 rfl
  have q2 := VA1.out.cell 2 rfl
  have q3 := VA1.out.cell 3 rfl
  have q4 := VA1.out.cell 4 rfl
  have q5 := VA1.out.cell 5 rfl
  have q6 := VA1.out.cell 6 rfl
  have q7 := VA1.out.cell 7 rfl
  have q8 := VA1.out.cell 8 rfl
  go_wp2_with (go_at_call 44; refine (s_words _ _ _ ys _ (HY.out.stay B1.out)).mono ?_; rintro e y ⟨rfl, hy⟩; rw [hy]; clear hy y; rw [ha])
  clear q0 q1 q2 q3 q4 q5 q6 q7 q8 h1 h2 h3
  refine (s_copy _ _ _ _ H _ _ M1.out (by have := K.out.r16; omega) (by have := K.out.c11; omega) (by have := K.out.i40; omega) (by have := K.out.o40; omega)).mono ?_
  rintro e w2 ⟨r2, c2, i2, o2, rfl, m2, A2', b2⟩
  obtain ⟨xa0, xk0, rfl, _⟩ := m2.r.shape
  obtain ⟨xa1, xk1, rfl, _⟩ := m2.c.shape
  obtain ⟨xa2, xk2, rfl, _⟩ := m2.i.shape
  obtain ⟨xa3, xk3, rfl, _⟩ := m2.o.shape
  have A2 : Hid (Ha (.slice xa0 H.regs.length xk0) (.slice xa1 H.csr.length xk1) (.slice xa2 H.inn.length xk2) (.slice xa3 H.out.length xk3)) := A2'
  have M2 : Hid (Hm w2 w1.heap.size (.slice xa0 H.regs.length xk0) (.slice xa1 H.csr.length xk1) (.slice xa2 H.inn.length xk2) (.slice xa3 H.out.length xk3) H) := m2
  have B2 : Hid (Below w.heap.size w w2) := on B1.out b2
  have VR2 : Hid (Vb w2 (s + 1) #[.int .i64 0, .slice none 0 0, .int .i64 0, .slice none 0 0, .bool false, .bool false, .bool false, .int .i64 0, .slice none 0 0, .slice none 0 0] 62) := VR1.out.keep b2
  have LQ : Hid (s + 1 < w1.heap.size) := VR1.out.lt
  have LB : Hid (w1.heap.size ≤ w2.heap.size) := b2.size
  clear m2 A2' b2
  go_upto_region 9 with fail
  generalize hW3 : (w2.alloc (.cells #[.slice xa0 H.regs.length xk0, .int .i64 H.pc, .slice xa1 H.csr.length xk1, .bool H.halted, .bool H.waiting, .bool H.rung, .int .i64 H.done, .slice xa2 H.inn.length xk2, .slice xa3 H.out.length xk3] 60)) = W3
  obtain ⟨q, hq⟩ : ∃ q, w2.heap.size = q := ⟨_, rfl⟩
  have HQ : Hid (w2.heap.size = q) := hq
  rw [hq]
  have V3 : Hid (Vb W3 q #[.slice xa0 H.regs.length xk0, .int .i64 H.pc, .slice xa1 H.csr.length xk1, .bool H.halted, .bool H.waiting, .bool H.rung, .int .i64 H.done, .slice xa2 H.inn.length xk2, .slice xa3 H.out.length xk3] 60) := by show Vb _ _ _ _; rw [← hW3, ← hq]; exact Vb.new _ _ _
  have B3 : Hid (Below w.heap.size w W3) := by show Below _ _ _; rw [← hW3]; exact al B2.out _
  have VR3 : Hid (Vb W3 (s + 1) #[.int .i64 0, .slice none 0 0, .int .i64 0, .slice none 0 0, .bool false, .bool false, .bool false, .int .i64 0, .slice none 0 0, .slice none 0 0] 62) := by show Vb _ _ _ _; rw [← hW3]; exact VR2.out.push _
  have M3 : Hid (Hm W3 w1.heap.size (.slice xa0 H.regs.length xk0) (.slice xa1 H.csr.length xk1) (.slice xa2 H.inn.length xk2) (.slice xa3 H.out.length xk3) H) := by show Hm _ _ _ _ _ _ _; rw [← hW3]; exact M2.out.keep (al (Below.refl _ _) _)
  have NQ : Hid (∀ k, Own4 (.slice xa0 H.regs.length xk0) (.slice xa1 H.csr.length xk1) (.slice xa2 H.inn.length xk2) (.slice xa3 H.out.length xk3) k → k ≠ q) := fun k e f => by have := (M2.out.own k e).2; have := HQ.out; omega
  have LW : Hid (w1.heap.size ≤ W3.heap.size) := by show _ ≤ _; rw [← hW3]; have := LB.out; simp; omega
  clear hW3 hq
  have c7 : W3.cell? ⟨q, 7, none⟩ = some (.slice xa2 H.inn.length xk2) := V3.out.cell 7 rfl
  obtain ⟨l, hl⟩ : ∃ l, H.inn.length = l := ⟨_, rfl⟩
  have HL : Hid (H.inn.length = l) := hl
  rw [hl] at c7 V3 M3 NQ M2 A2 ⊢
  clear hl
  go_upto_region 10 with (at_builtin; refine wp_appy _ rfl _ _ rfl w1.heap.size _ H.inn rfl M3.out.i ya yn yc ys rfl (HY.out.stay B3.out) (by have := K.out.i40; have := HYN.out; omega) LW.out ?_; intro v' w' hN' hG'; obtain ⟨y, cap', hv', _⟩ := hN'.shape; obtain ⟨Ln, hLn⟩ : ∃ Ln, (H.inn ++ ys).length = Ln := ⟨_, rfl⟩; rw [hLn] at hv'; clear hLn; subst hv'; have N4 : Hid (Nums w' w1.heap.size (.slice y Ln cap') (H.inn ++ ys)) := hN'; have G4 : Hid (W3.grownBy w' (Value.slice xa2 l xk2).ownBlock) := hG'; have V4 : Hid (Vb w' q _ 60) := V3.out.gr hG' (fun e => NQ.out q (.inr (.inr (.inl e.symm))) rfl); clear hN' hG' c7; have c1 : w'.cell? ⟨q, 7, none⟩ = some (.slice xa2 l xk2) := V4.out.cell 7 rfl; have f1 := V4.out.free 7)
  have M5 : Hid (Hm (w'.setCell ⟨q, 7, none⟩ (.slice y Ln cap')) w1.heap.size (.slice xa0 H.regs.length xk0) (.slice xa1 H.csr.length xk1) (.slice y Ln cap') (.slice xa3 H.out.length xk3) (feedV H ys)) :=
    ⟨(M3.out.r.kept G4.out A2.out.ri).put ⟨q, 7, none⟩ _ (fun e => NQ.out _ (.inl e) rfl), (M3.out.c.kept G4.out A2.out.ci).put ⟨q, 7, none⟩ _ (fun e => NQ.out _ (.inr (.inl e)) rfl),
      N4.out.put ⟨q, 7, none⟩ _ (N4.out.ne_vb (t := 60) V4.out (by decide)), (M3.out.o.kept G4.out A2.out.io.swap).put ⟨q, 7, none⟩ _ (fun e => NQ.out _ (.inr (.inr (.inr e))) rfl)⟩
  have V5 : Hid (Vb (w'.setCell ⟨q, 7, none⟩ (.slice y Ln cap')) q #[.slice xa0 H.regs.length xk0, .int .i64 (feedV H ys).pc, .slice xa1 H.csr.length xk1, .bool (feedV H ys).halted, .bool (feedV H ys).waiting, .bool (feedV H ys).rung, .int .i64 (feedV H ys).done, .slice y Ln cap', .slice xa3 H.out.length xk3] 60) := V4.out.set 7 _
  have G5 : Hid (Mq (fun j => j = q ∨ (Value.slice xa2 l xk2).ownBlock = some j) W3 (w'.setCell ⟨q, 7, none⟩ (.slice y Ln cap'))) := (Mq.of G4.out fun k e => .inr e.symm).set ⟨q, 7, none⟩ _ (.inl rfl)
  clear c1 f1 V4 N4 G4
  generalize w'.setCell ⟨q, 7, none⟩ (.slice y Ln cap') = w4 at *
  obtain ⟨G, hG⟩ : ∃ G, feedV H ys = G := ⟨_, rfl⟩
  rw [hG] at M5 V5
  have HEG : Hid ((feedR H ys).2 = G) := HE2.out.trans hG
  have VR4 : Hid (Vb w4 (s + 1) #[.int .i64 0, .slice none 0 0, .int .i64 0, .slice none 0 0, .bool false, .bool false, .bool false, .int .i64 0, .slice none 0 0, .slice none 0 0] 62) := G5.out.vb VR3.out fun e => by
    have := LQ.out
    rcases e with e | e
    · have := VR2.out.lt; have := HQ.out; omega
    · have := (M2.out.own _ (.inr (.inr (.inl e)))).1; omega
  have B4 : Hid (Below w.heap.size w w4) := Mq.under B3.out G5.out fun k e => by
    have := B1.out.size; have := B2.out.size
    rcases e with e | e
    · have := HQ.out; omega
    · have := (M2.out.own _ (.inr (.inr (.inl e)))).1; omega
  clear hG
  generalize H.regs.length = g0 at *
  generalize H.csr.length = g1 at *
  generalize H.out.length = g3 at *
  have q0 := V5.out.cell 0 rfl
  have q1 := V5.out.cell 1 rfl
  have q2 := V5.out.cell 2 rfl
  have q3 := V5.out.cell 3 rfl
  have q4 := V5.out.cell 4 rfl
  have q5 := V5.out.cell 5 rfl
  have q6 := V5.out.cell 6 rfl
  have q7 := V5.out.cell 7 rfl
  have q8 := V5.out.cell 8 rfl
  have p0 := VR4.out.cell 0 rfl
  have f0 := VR4.out.free 0
  have p1 := VR4.out.cell 1 rfl
  have f1 := VR4.out.free 1
  have p2 := VR4.out.cell 2 rfl
  have f2 := VR4.out.free 2
  have p3 := VR4.out.cell 3 rfl
  have f3 := VR4.out.free 3
  have p4 := VR4.out.cell 4 rfl
  have f4 := VR4.out.free 4
  have p5 := VR4.out.cell 5 rfl
  have f5 := VR4.out.free 5
  have p6 := VR4.out.cell 6 rfl
  have f6 := VR4.out.free 6
  have p7 := VR4.out.cell 7 rfl
  have f7 := VR4.out.free 7
  have p8 := VR4.out.cell 8 rfl
  have f8 := VR4.out.free 8
  have p9 := VR4.out.cell 9 rfl
  have f9 := VR4.out.free 9
  go_wp2_with fail
  clear q0 q1 q2 q3 q4 q5 q6 q7 q8
  have NN : Hid (_ ∧ _) := ten VR4.out (.int .i64 0) (.slice xa0 g0 xk0) (.int .i64 G.pc) (.slice xa1 g1 xk1) (.bool G.halted) (.bool G.waiting) (.bool G.rung) (.int .i64 G.done) (.slice y Ln cap') (.slice xa3 g3 xk3)
  clear p0 f0 p1 f1 p2 f2 p3 f3 p4 f4 p5 f5 p6 f6 p7 f7 p8 f8 p9 f9
  generalize ((((((((((w4.setCell ⟨s + 1, 0, none⟩ (.int .i64 0)).setCell ⟨s + 1, 1, none⟩ (.slice xa0 g0 xk0)).setCell ⟨s + 1, 2, none⟩ (.int .i64 G.pc)).setCell ⟨s + 1, 3, none⟩ (.slice xa1 g1 xk1)).setCell ⟨s + 1, 4, none⟩ (.bool G.halted)).setCell ⟨s + 1, 5, none⟩ (.bool G.waiting)).setCell ⟨s + 1, 6, none⟩ (.bool G.rung)).setCell ⟨s + 1, 7, none⟩ (.int .i64 G.done)).setCell ⟨s + 1, 8, none⟩ (.slice y Ln cap')).setCell ⟨s + 1, 9, none⟩ (.slice xa3 g3 xk3)) = V at *
  have x0 := NN.out.1.cell 0 rfl
  have x1 := NN.out.1.cell 1 rfl
  have x2 := NN.out.1.cell 2 rfl
  have x3 := NN.out.1.cell 3 rfl
  have x4 := NN.out.1.cell 4 rfl
  have x5 := NN.out.1.cell 5 rfl
  have x6 := NN.out.1.cell 6 rfl
  have x7 := NN.out.1.cell 7 rfl
  have x8 := NN.out.1.cell 8 rfl
  have x9 := NN.out.1.cell 9 rfl
  have BV : Below w.heap.size w V := Mq.under B4.out NN.out.2 fun k e => by have := HS.out; omega
  have MV := NN.out.2
  refine bodyPost_ret (v := .agg #[.int .i64 0, .slice xa0 g0 xk0, .int .i64 G.pc, .slice xa1 g1 xk1, .bool G.halted, .bool G.waiting, .bool G.rung, .int .i64 G.done, .slice y Ln cap', .slice xa3 g3 xk3]) (by simp [results, Tryz.results21, go_sem, x0, x1, x2, x3, x4, x5, x6, x7, x8, x9]) rfl ?_
  rw [HE1.out, HEG.out]
  exact ⟨_, _, _, _, rfl, ((MV.hm M5.out fun k e f => by have := (M5.out.own k e).1; have := LQ.out; omega).mono B1.out.size), BV⟩
end Go.Proofs.YtggejbphdadckaaGreatDoor
