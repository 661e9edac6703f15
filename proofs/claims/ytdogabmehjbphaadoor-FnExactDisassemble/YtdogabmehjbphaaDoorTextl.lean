/- The program's text of an instruction: the loop over the numbers that are told. -/
import Derived.Test.YtdogabmehjbphaaDoorTexti
namespace Go.Proofs.YtdogabmehjbphaaDoor
open Go.RowKit
set_option linter.unusedVariables false

def tcells (vals : List Nat) : Array Value := (vals.map fun v : Nat => Value.int .i64 v).toArray
def parts (t0 : ByteArray) (vals : List Nat) (j : Nat) : List Value := (t0 :: (vals.take j).map decB).map Value.string

theorem parts_succ (t0 : ByteArray) (vals : List Nat) (j : Nat) (h : j < vals.length) : parts t0 vals j ++ [.string (decB (vals.getD j 0))] = parts t0 vals (j + 1) := by
  show ((t0 :: (vals.take j).map decB).map Value.string) ++ [.string (decB (vals.getD j 0))] = (t0 :: (vals.take (j + 1)).map decB).map Value.string
  rw [List.take_add_one, List.getElem?_eq_getElem h, List.getD, List.getElem?_eq_getElem h]
  simp only [List.cons_append, List.map_append, List.map_cons, List.map_nil, Option.toList_some, Option.getD_some]
theorem tcell {w : World} {b : Nat} {t : TypeId} {vals : List Nat} (hh : w.heap[b]? = some (.cells (tcells vals) t (0, 0))) (j : Nat) (h : j < vals.length) : w.cell? ⟨b, j, none⟩ = some (.int .i64 (vals.getD j 0 : Nat)) := by
  simp [World.cell?, hh, tcells, List.getElem?_eq_getElem h, List.getD]
theorem owns_ne {w : World} {base n b : Nat} {v : Value} {xs : List Value} {tc : Array Value} (h : w.ownsRow base 9 1 v n xs) (hh : w.heap[b]? = some (.cells tc 2 (0, 0))) : some b ≠ v.ownBlock := by
  intro e
  rcases h with ⟨_, ⟨rfl, _⟩ | ⟨g, cap, cur, rfl, _, hg, _⟩⟩
  · simp [Value.ownBlock] at e
  · simp [Value.ownBlock] at e
    subst e
    rw [hg] at hh
    simp at hh
theorem grown_below {w w' : World} (h : Below w.heap.size w w') (row : Option Nat) : w.grownBy w' row := ⟨h.os, h.tape, h.output, h.size, fun k hk _ => h.block k hk⟩
theorem owns_keep {w w' : World} {base n : Nat} {e : TypeId} {v : Value} {xs : List Value} (h : w.ownsRow base e 1 v n xs) (hb : Below w.heap.size w w') : w'.ownsRow base e 1 v n xs := by
  refine h.kept (grown_below hb none) ?_
  cases v.ownBlock <;> simp

theorem rel_step {W wr w5 w6 : World} {P0 Tb j : Nat} {v v' : Value} {t0 : ByteArray} {vals : List Nat} {o : Obj} (hj : j < vals.length)
    (hown : wr.ownsRow P0 9 1 v (1 + j) (parts t0 vals j)) (hT : wr.heap[Tb]? = some (.cells (tcells vals) 2 (0, 0))) (hB : Below P0 W wr) (hP : P0 ≤ wr.heap.size) (b5 : Below wr.heap.size wr w5)
    (hown6 : w6.ownsRow P0 9 1 v' (1 + j + 1) (parts t0 vals j ++ [.string (decB (vals.getD j 0))])) (hg : (w5.alloc o).grownBy w6 v.ownBlock) :
    w6.ownsRow P0 9 1 v' (1 + (j + 1)) (parts t0 vals (j + 1)) ∧ w6.heap[Tb]? = some (.cells (tcells vals) 2 (0, 0)) ∧ Below P0 W w6 := by
  have hTl : Tb < wr.heap.size := by
    apply Classical.byContradiction
    intro hn
    have : wr.heap[Tb]? = none := by simp; omega
    rw [this] at hT; cases hT
  refine ⟨by rw [← parts_succ t0 vals j hj]; exact hown6, ?_, ?_⟩
  · rw [hg.block Tb (by have := b5.size; simp; omega) (owns_ne hown hT), Below.heap_alloc _ _ _ (by have := b5.size; omega), b5.block Tb hTl]
    exact hT
  · refine ((hB.trans (b5.mono hP)).alloc (by have := b5.size; omega) o).grown hg (by have := b5.size; simp; omega) ?_
    intro k hk
    exact (hown.lt k hk).1

set_option maxRecDepth 10000 in
set_option maxHeartbeats 4000000 in
theorem impl_text_some (k d a i : Nat) (vals : List Nat) (hv : ∀ n ∈ vals, n < 4294967296) (hn3 : vals.length ≤ 3) (t0 : ByteArray) (w : World) (htab : Lib.TabIs Tryd.prog w "internal/strconv.uint64pow10" .u64 Lib.pow10Tab)
    (hf : ∀ w : World, Calls Tryd.prog 32 #[.agg #[.int .i64 k, .int .i64 d, .int .i64 a, .int .i64 i]] w fun e w' => e = .returned (.int .i64 0) ∧ Below w.heap.size w w')
    (hO : ∀ w : World, Calls Tryd.prog 33 #[.int .i64 k] w fun e w' => e = .returned (.agg #[.int .i64 0, .string t0]) ∧ Below w.heap.size w w')
    (hT : ∀ w : World, Calls Tryd.prog 34 #[.agg #[.int .i64 k, .int .i64 d, .int .i64 a, .int .i64 i]] w fun e w' => e = .returned (.slice (some ⟨w.heap.size + 1, 0, none⟩) vals.length vals.length) ∧ w' = (w.alloc (.cells #[.int .i64 k, .int .i64 d, .int .i64 a, .int .i64 i] 31)).alloc (.cells (tcells vals) 2))
    (hJ : (Lib.join ((t0 :: vals.map decB).map (·.data.toList)) [32]).length ≤ 140737488355328) :
    Calls Tryd.prog 27 #[.agg #[.int .i64 k, .int .i64 d, .int .i64 a, .int .i64 i]] w fun e w' => e = .returned (.agg #[.int .i64 0, .string ⟨(Lib.join ((t0 :: vals.map decB).map (·.data.toList)) [32]).toArray⟩]) ∧ Below w.heap.size w w' := by
  have hfield := field_text
  have HV : Hid (∀ n ∈ vals, n < 4294967296) := hv
  have HJ : Hid (_ ≤ 140737488355328) := hJ
  have HT : Hid (Lib.TabIs Tryd.prog w "internal/strconv.uint64pow10" .u64 Lib.pow10Tab) := htab
  clear hv hJ htab
  generalize hs : (⟨(Lib.join ((t0 :: vals.map decB).map (·.data.toList)) [32]).toArray⟩ : ByteArray) = res
  have HS : Hid (_ = res) := hs
  clear hs
  go_enter Tryd.func27, Tryd.ntmps27
  go_wp2_with fail
  refine (hf _).mono ?_
  rintro e w1 ⟨rfl, b1⟩
  obtain ⟨c1, z1⟩ := bcell b1
  go_wp2_with fail
  refine (hO _).mono ?_
  rintro e w2 ⟨rfl, b2⟩
  have b12 := on b1 b2
  clear c1 z1
  obtain ⟨c1, z1⟩ := bcell b12
  have s2 : w.heap.size + 2 ≤ w2.heap.size := by have := b12.size; simp at this; omega
  have s3 : w.heap.size < w2.heap.size := by omega
  have s4 : w.heap.size + 1 < w2.heap.size := by omega
  go_wp2_with fail
  refine (hT _).mono ?_
  rintro e w3 ⟨rfl, rfl⟩
  go_wp2_with fail
  have B0 : Hid (Below w.heap.size w w2) := on (al (al (Below.refl _ _) _) _) b12
  have K0 : Hid (w2.cell? ⟨w.heap.size + 1, 0, none⟩ = some (.int .i64 0)) := cell_keep b12 (by simp)
  have K1 : Hid (w2.cell? ⟨w.heap.size + 1, 1, none⟩ = some (.string ⟨#[]⟩)) := cell_keep b12 (by simp)
  have F0 : Hid (w2.frozen? ⟨w.heap.size + 1, 0, none⟩ = false) := by show _ = _; rw [z1 _ _ (by simp)]; simp
  have F1 : Hid (w2.frozen? ⟨w.heap.size + 1, 1, none⟩ = false) := by show _ = _; rw [z1 _ _ (by simp)]; simp
  clear c1 z1 b1 b2 b12 hf hO hT
  go_loopw [4, 21] (fun v c wr => ∃ j : Nat, j ≤ vals.length ∧ c = .int .i64 j ∧ wr.ownsRow w2.heap.size 9 1 v (1 + j) (parts t0 vals j) ∧ wr.heap[w2.heap.size + 2]? = some (.cells (tcells vals) 2 (0, 0)) ∧ Below w2.heap.size w2 wr)
    (fun _ c _ => vals.length - (intOf c).toNat)
  case atStart =>
    refine ⟨0, Nat.zero_le _, rfl, ?_, ?_, al (al (al (Below.refl _ _) _) _) _⟩
    · refine ⟨rfl, .inr ⟨w2.heap.size, 1, #[.string t0], rfl, Nat.le_refl _, ?_, Nat.le_refl _, by decide, rfl, rfl⟩⟩
      rw [Below.heap_alloc _ _ _ (by simp; omega), Below.heap_alloc _ _ _ (by simp)]
      exact heap_alloc_last w2 _
    · have hz := heap_alloc_last ((w2.alloc (.cells #[.string t0] 9)).alloc (.cells #[.int .i64 k, .int .i64 d, .int .i64 a, .int .i64 i] 31)) (.cells (tcells vals) 2)
      rw [World.size_alloc, World.size_alloc] at hz
      exact hz
  case round =>
    obtain ⟨j, hj, rfl, hown, hTb, hB⟩ := hrel
    by_cases hlt : j < vals.length
    · have hcell := tcell hTb j hlt
      have hI : (j : Int) < (vals.length : Int) := by omega
      have hlt' : vals.getD j 0 < 4294967296 := HV.out _ (by rw [List.getD, List.getElem?_eq_getElem hlt]; exact List.getElem_mem hlt)
      have hF := fun w' h => impl_format (vals.getD j 0) hlt' w' h
      clear hlt'
      have hTab : Hid (Lib.TabIs Tryd.prog wr "internal/strconv.uint64pow10" .u64 Lib.pow10Tab) := Lib.tabBelow_of_tabIs HT.out _ (B0.out.trans (hB.mono (by have := B0.out.size; omega)))
      obtain ⟨nj, hnj⟩ : ∃ nj, vals.getD j 0 = nj := ⟨_, rfl⟩
      rw [hnj] at hcell hF
      have HN : Hid (vals.getD j 0 = nj) := hnj
      have HL : Hid (j < vals.length) := hlt
      have HO : Hid _ := hown
      have HTb : Hid _ := hTb
      have HB : Hid _ := hB
      have H1 : Hid (1 + j ≤ 1000) := by show _ ≤ _; omega
      have hj3 : (j : Int) ≤ 3 := by omega
      clear hown hTb hB hlt hnj hn3 hj
      go_wp2_with fail
      refine (hF _ hTab.out).mono ?_
      rintro e w5 ⟨rfl, b5⟩
      have HO5 : Hid _ := (owns_keep HO.out b5).alloc (.cells #[.string (decB nj)] 9)
      have H2 : Hid (w2.heap.size ≤ (w5.alloc (.cells #[.string (decB nj)] 9)).heap.size) := by show _ ≤ _; have := HB.out.size; have := b5.size; simp; omega
      go_wp2_with (at_builtin; refine wp_pushS _ rfl _ _ rfl w2.heap.size _ (1 + j) _ rfl HO5.out w5.heap.size (decB nj) rfl (cell_new rfl) H1.out H2.out ?_; intro v' w6 hown6 hgrow)
      have R : Hid _ := rel_step HL.out HO.out HTb.out HB.out HB.out.size b5 (by rw [HN.out]; exact hown6) hgrow
      clear hown6 hgrow HO5 H2 b5 hcell hF hTab
      go_wp2_with fail
      go_roundw
      case rel => exact ⟨j + 1, by have := HL.out; omega, by go_num, R.out.1, R.out.2.1, R.out.2.2⟩
      case measure => have h := HL.out; simp [intOf]; omega
    · have hI : ¬ (j : Int) < (vals.length : Int) := by omega
      obtain rfl : vals.length = j := by omega
      have h9 : (t0 :: vals.map decB).length = 1 + vals.length := by simp; omega
      rcases hown with ⟨hl, ⟨_, h0⟩ | ⟨g, cap, cur, rfl, hg1, hg2, hg3, hg4, hg5, hg6⟩⟩
      · omega
      have hbk : g < wr.heap.size := by
        apply Classical.byContradiction
        intro hn
        have : wr.heap[g]? = none := by simp; omega
        rw [this] at hg2; cases hg2
      have hcells : ∀ (m : Nat) x, (t0 :: vals.map decB)[m]? = some x → wr.cell? ⟨g, 0 + m, none⟩ = some (.string x) := by
        intro m x hx
        have hm : m < 1 + vals.length := by rw [← h9]; exact (List.getElem?_eq_some_iff.1 hx).1
        have e : cur[m]? = some (.string x) := by
          have h2 : (cur.toList.take ((1 + vals.length) * 1))[m]? = (parts t0 vals vals.length)[m]? := by rw [hg6]
          rw [Nat.mul_one, List.getElem?_take, if_pos hm, Array.getElem?_toList] at h2
          rw [h2]
          show ((t0 :: (vals.take vals.length).map decB).map Value.string)[m]? = _
          rw [List.take_length, List.getElem?_map, hx]
          rfl
        simp [World.cell?, hg2, e]
      have hJoin := Tryd.strings_Join g 0 cap (t0 :: vals.map decB) ⟨#[32]⟩ wr hcells hbk (by rw [h9]; omega) (by rw [h9]; exact hg3) HJ.out
      rw [h9] at hJoin
      have HS' : (⟨(Lib.join ((t0 :: vals.map decB).map (·.data.toList)) (⟨#[32]⟩ : ByteArray).data.toList).toArray⟩ : ByteArray) = res := HS.out
      rw [HS'] at hJoin
      clear HS' h9 hcells hbk hg1 hg2 hg3 hg4 hg5 hg6 hl hTb
      have k0 : wr.cell? ⟨w.heap.size + 1, 0, none⟩ = some (.int .i64 0) := by rw [hB.cell (by simpa using s4)]; exact K0.out
      have k1 : wr.cell? ⟨w.heap.size + 1, 1, none⟩ = some (.string ⟨#[]⟩) := by rw [hB.cell (by simpa using s4)]; exact K1.out
      have f0 : wr.frozen? ⟨w.heap.size + 1, 0, none⟩ = false := by rw [hB.frozen (by simpa using s4)]; exact F0.out
      have f1 : wr.frozen? ⟨w.heap.size + 1, 1, none⟩ = false := by rw [hB.frozen (by simpa using s4)]; exact F1.out
      go_wp2_with fail
      refine hJoin.mono ?_
      rintro e w7 ⟨rfl, b7⟩
      have m0 := cell_keep b7 k0
      have m1 := cell_keep b7 k1
      have n0 : w7.frozen? ⟨w.heap.size + 1, 0, none⟩ = false := by rw [b7.frozen (block_of_cell k0)]; exact f0
      have n1 : w7.frozen? ⟨w.heap.size + 1, 1, none⟩ = false := by rw [b7.frozen (block_of_cell k1)]; exact f1
      clear k0 k1 f0 f1 hJoin
      go_wp2_with fail
      exact bodyPost_ret (v := .agg #[.int .i64 0, .string res]) (by simp [results, Tryd.results27, go_sem, m0, m1]) rfl ⟨rfl, ((on (B0.out.trans (hB.mono (by have := B0.out.size; omega))) b7).setCell (by simp) _).setCell (by simp) _⟩
end Go.Proofs.YtdogabmehjbphaaDoor
