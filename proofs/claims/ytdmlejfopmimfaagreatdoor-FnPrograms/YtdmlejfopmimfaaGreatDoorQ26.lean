/- Texts of this seat, joined. -/
import Derived.Test.YtdmlejfopmimfaaGreatDoorShelf
import Derived.Lib.AppendIntMem
import Derived.Test.YtdmlejfopmimfaaGreatDoorQ09
import Derived.Test.YtdmlejfopmimfaaGreatDoorQ20
import Derived.Test.YtdmlejfopmimfaaGreatDoorQ22
import Derived.Test.YtdmlejfopmimfaaGreatDoorQ23
namespace Go.Proofs.YtdmlejfopmimfaaGreatDoor
open Go.RowKit
set_option linter.unusedVariables false

def tcells (vals : List Nat) : Array Value := (vals.map fun v : Nat => Value.int .i64 v).toArray
def parts (t0 : ByteArray) (vals : List Nat) (j : Nat) : List Value := (t0 :: (vals.take j).map decB).map Value.string

theorem parts_succ (t0 : ByteArray) (vals : List Nat) (j : Nat) (h : j < vals.length) : parts t0 vals j ++ [.string (decB (vals.getD j 0))] = parts t0 vals (j + 1) := by
  show ((t0 :: (vals.take j).map decB).map Value.string) ++ [.string (decB (vals.getD j 0))] = (t0 :: (vals.take (j + 1)).map decB).map Value.string
  rw [List.take_add_one, List.getElem?_eq_getElem h, List.getD, List.getElem?_eq_getElem h]
  simp only [List.cons_append, List.map_append, List.map_cons, List.map_nil, Option.toList_some, Option.getD_some]
theorem tcell {w : World} {b : Nat} {t : TypeId} {vals : List Nat} (hh : w.heap[b]? = some (.cells (tcells vals) t (0, 0))) (j : Nat) (h : j < vals.length) : w.cell? ⟨b, j, none⟩ = some (.int .i64 (vals.getD j 0 : Nat)) := by
  simp [World.cell?, hh, tcells, List.getElem?_eq_getElem h, List.getD]
theorem owns_ne {w : World} {base n b : Nat} {v : Value} {xs : List Value} {tc : Array Value} (h : w.ownsRow base 9 1 v n xs) (hh : w.heap[b]? = some (.cells tc 2 (0, 0))) : some b ≠ v.ownBlock := by
  intro e
  rcases h with ⟨_, ⟨rfl, _⟩ | ⟨g, cap, cur, rfl, _, hg, _⟩⟩
  · simp [Value.ownBlock] at e
  · simp [Value.ownBlock] at e
    subst e
    rw [hg] at hh
    simp at hh
theorem grown_below {w w' : World} (h : Below w.heap.size w w') (row : Option Nat) : w.grownBy w' row := ⟨h.os, h.tape, h.output, h.size, fun k hk _ => h.block k hk⟩
theorem owns_keep {w w' : World} {base n : Nat} {e : TypeId} {v : Value} {xs : List Value} (h : w.ownsRow base e 1 v n xs) (hb : Below w.heap.size w w') : w'.ownsRow base e 1 v n xs := by
  refine h.kept (grown_below hb none) ?_
  cases v.ownBlock <;> simp

theorem rel_step {W wr w5 w6 : World} {P0 Tb j : Nat} {v v' : Value} {t0 : ByteArray} {vals : List Nat} {o : Obj} (hj : j < vals.length)
    (hown : wr.ownsRow P0 9 1 v (1 + j) (parts t0 vals j)) (hT : wr.heap[Tb]? = some (.cells (tcells vals) 2 (0, 0))) (hB : Below P0 W wr) (hP : P0 ≤ wr.heap.size) (b5 : Below wr.heap.size wr w5)
    (hown6 : w6.ownsRow P0 9 1 v' (1 + j + 1) (parts t0 vals j ++ [.string (decB (vals.getD j 0))])) (hg : (w5.alloc o).grownBy w6 v.ownBlock) :
    w6.ownsRow P0 9 1 v' (1 + (j + 1)) (parts t0 vals (j + 1)) ∧ w6.heap[Tb]? = some (.cells (tcells vals) 2 (0, 0)) ∧ Below P0 W w6 := by
  have hTl : Tb < wr.heap.size := by
    apply Classical.byContradiction
    intro hn
    have : wr.heap[Tb]? = none := by simp; omega
    rw [this] at hT; cases hT
  refine ⟨by rw [← parts_succ t0 vals j hj]; exact hown6, ?_, ?_⟩
  · rw [hg.block Tb (by have := b5.size; simp; omega) (owns_ne hown hT), Below.heap_alloc _ _ _ (by have := b5.size; omega), b5.block Tb hTl]
    exact hT
  · refine ((hB.trans (b5.mono hP)).alloc (by have := b5.size; omega) o).grown hg (by have := b5.size; simp; omega) ?_
    intro k hk
    exact (hown.lt k hk).1

set_option maxRecDepth 10000 in
set_option maxHeartbeats 4000000 in
theorem impl_text_some (k d a i : Nat) (vals : List Nat) (hv : ∀ n ∈ vals, n < 4294967296) (hn3 : vals.length ≤ 3) (t0 : ByteArray) (w : World) (htab : Lib.TabIs Tryz.prog w "internal/strconv.uint64pow10" .u64 Lib.pow10Tab)
    (hf : ∀ w : World, Calls Tryz.prog 67 #[.agg #[.int .i64 k, .int .i64 d, .int .i64 a, .int .i64 i]] w fun e w' => e = .returned (.int .i64 0) ∧ Below w.heap.size w w')
    (hO : ∀ w : World, Calls Tryz.prog 68 #[.int .i64 k] w fun e w' => e = .returned (.agg #[.int .i64 0, .string t0]) ∧ Below w.heap.size w w')
    (hT : ∀ w : World, Calls Tryz.prog 50 #[.agg #[.int .i64 k, .int .i64 d, .int .i64 a, .int .i64 i]] w fun e w' => e = .returned (.slice (some ⟨w.heap.size + 1, 0, none⟩) vals.length vals.length) ∧ w' = (w.alloc (.cells #[.int .i64 k, .int .i64 d, .int .i64 a, .int .i64 i] 72)).alloc (.cells (tcells vals) 2))
    (hJ : (Lib.join ((t0 :: vals.map decB).map (·.data.toList)) [32]).length ≤ 140737488355328) :
    Calls Tryz.prog 41 #[.agg #[.int .i64 k, .int .i64 d, .int .i64 a, .int .i64 i]] w fun e w' => e = .returned (.agg #[.int .i64 0, .string ⟨(Lib.join ((t0 :: vals.map decB).map (·.data.toList)) [32]).toArray⟩]) ∧ Below w.heap.size w w' := by
  have hfield := field_text
  have HV : Hid (∀ n ∈ vals, n < 4294967296) := hv
  have HJ : Hid (_ ≤ 140737488355328) := hJ
  have HT : Hid (Lib.TabIs Tryz.prog w "internal/strconv.uint64pow10" .u64 Lib.pow10Tab) := htab
  clear hv hJ htab
  generalize hs : (⟨(Lib.join ((t0 :: vals.map decB).map (·.data.toList)) [32]).toArray⟩ : ByteArray) = res
  have HS : Hid (_ = res) := hs
  clear hs
  go_enter Tryz.func41, Tryz.ntmps41
  go_wp2_with fail
  refine (hf _).mono ?_
  rintro e w1 ⟨rfl, b1⟩
  obtain ⟨c1, z1⟩ := bcell b1
  go_wp2_with fail
  refine (hO _).mono ?_
  rintro e w2 ⟨rfl, b2⟩
  have b12 := on b1 b2
  clear c1 z1
  obtain ⟨c1, z1⟩ := bcell b12
  have s2 : w.heap.size + 2 ≤ w2.heap.size := by have := b12.size; simp at this; omega
  have s3 : w.heap.size < w2.heap.size := by omega
  have s4 : w.heap.size + 1 < w2.heap.size := by omega
  go_wp2_with fail
  refine (hT _).mono ?_
  rintro e w3 ⟨rfl, rfl⟩
  go_wp2_with fail
  have B0 : Hid (Below w.heap.size w w2) := on (al (al (Below.refl _ _) _) _) b12
  have K0 : Hid (w2.cell? ⟨w.heap.size + 1, 0, none⟩ = some (.int .i64 0)) := cell_keep b12 (by simp)
  have K1 : Hid (w2.cell? ⟨w.heap.size + 1, 1, none⟩ = some (.string ⟨#[]⟩)) := cell_keep b12 (by simp)
  have F0 : Hid (w2.frozen? ⟨w.heap.size + 1, 0, none⟩ = false) := by show _ = _; rw [z1 _ _ (by simp)]; simp
  have F1 : Hid (w2.frozen? ⟨w.heap.size + 1, 1, none⟩ = false) := by show _ = _; rw [z1 _ _ (by simp)]; simp
  clear c1 z1 b1 b2 b12 hf hO hT
  go_loopw [4, 21] (fun v c wr => ∃ j : Nat, j ≤ vals.length ∧ c = .int .i64 j ∧ wr.ownsRow w2.heap.size 9 1 v (1 + j) (parts t0 vals j) ∧ wr.heap[w2.heap.size + 2]? = some (.cells (tcells vals) 2 (0, 0)) ∧ Below w2.heap.size w2 wr)
    (fun _ c _ => vals.length - (intOf c).toNat)
  case atStart =>
    refine ⟨0, Nat.zero_le _, rfl, ?_, ?_, al (al (al (Below.refl _ _) _) _) _⟩
    · refine ⟨rfl, .inr ⟨w2.heap.size, 1, #[.string t0], rfl, Nat.le_refl _, ?_, Nat.le_refl _, by decide, rfl, rfl⟩⟩
      rw [Below.heap_alloc _ _ _ (by simp; omega), Below.heap_alloc _ _ _ (by simp)]
      exact heap_alloc_last w2 _
    · have hz := heap_alloc_last ((w2.alloc (.cells #[.string t0] 9)).alloc (.cells #[.int .i64 k, .int .i64 d, .int .i64 a, .int .i64 i] 72)) (.cells (tcells vals) 2)
      rw [World.size_alloc, World.size_alloc] at hz
      exact hz
  case round =>
    obtain ⟨j, hj, rfl, hown, hTb, hB⟩ := hrel
    by_cases hlt : j < vals.length
    · have hcell := tcell hTb j hlt
      have hI : (j : Int) < (vals.length : Int) := by omega
      have hlt' : vals.getD j 0 < 4294967296 := HV.out _ (by rw [List.getD, List.getElem?_eq_getElem hlt]; exact List.getElem_mem hlt)
      have hF := fun w' h => impl_format (vals.getD j 0) hlt' w' h
      clear hlt'
      have hTab : Hid (Lib.TabIs Tryz.prog wr "internal/strconv.uint64pow10" .u64 Lib.pow10Tab) := Lib.tabBelow_of_tabIs HT.out _ (B0.out.trans (hB.mono (by have := B0.out.size; omega)))
      obtain ⟨nj, hnj⟩ : ∃ nj, vals.getD j 0 = nj := ⟨_, rfl⟩
      rw [hnj] at hcell hF
      have HN : Hid (vals.getD j 0 = nj) := hnj
      have HL : Hid (j < vals.length) := hlt
      have HO : Hid _ := hown
      have HTb : Hid _ := hTb
      have HB : Hid _ := hB
      have H1 : Hid (1 + j ≤ 1000) := by show _ ≤ _; omega
      have hj3 : (j : Int) ≤ 3 := by omega
      clear hown hTb hB hlt hnj hn3 hj
      go_wp2_with fail
      refine (hF _ hTab.out).mono ?_
      rintro e w5 ⟨rfl, b5⟩
      have HO5 : Hid _ := (owns_keep HO.out b5).alloc (.cells #[.string (decB nj)] 9)
      have H2 : Hid (w2.heap.size ≤ (w5.alloc (.cells #[.string (decB nj)] 9)).heap.size) := by show _ ≤ _; have := HB.out.size; have := b5.size; simp; omega
      go_wp2_with (at_builtin; refine wp_pushS _ rfl _ _ rfl w2.heap.size _ (1 + j) _ rfl HO5.out w5.heap.size (decB nj) rfl (cell_new rfl) H1.out H2.out ?_; intro v' w6 hown6 hgrow)
      have R : Hid _ := rel_step HL.out HO.out HTb.out HB.out HB.out.size b5 (by rw [HN.out]; exact hown6) hgrow
      clear hown6 hgrow HO5 H2 b5 hcell hF hTab
      go_wp2_with fail
      go_roundw
      case rel => exact ⟨j + 1, by have := HL.out; omega, by go_num, R.out.1, R.out.2.1, R.out.2.2⟩
      case measure => have h := HL.out; simp [intOf]; omega
    · have hI : ¬ (j : Int) < (vals.length : Int) := by omega
      obtain rfl : vals.length = j := by omega
      have h9 : (t0 :: vals.map decB).length = 1 + vals.length := by simp; omega
      rcases hown with ⟨hl, ⟨_, h0⟩ | ⟨g, cap, cur, rfl, hg1, hg2, hg3, hg4, hg5, hg6⟩⟩
      · omega
      have hbk : g < wr.heap.size := by
        apply Classical.byContradiction
        intro hn
        have : wr.heap[g]? = none := by simp; omega
        rw [this] at hg2; cases hg2
      have hcells : ∀ (m : Nat) x, (t0 :: vals.map decB)[m]? = some x → wr.cell? ⟨g, 0 + m, none⟩ = some (.string x) := by
        intro m x hx
        have hm : m < 1 + vals.length := by rw [← h9]; exact (List.getElem?_eq_some_iff.1 hx).1
        have e : cur[m]? = some (.string x) := by
          have h2 : (cur.toList.take ((1 + vals.length) * 1))[m]? = (parts t0 vals vals.length)[m]? := by rw [hg6]
          rw [Nat.mul_one, List.getElem?_take, if_pos hm, Array.getElem?_toList] at h2
          rw [h2]
          show ((t0 :: (vals.take vals.length).map decB).map Value.string)[m]? = _
          rw [List.take_length, List.getElem?_map, hx]
          rfl
        simp [World.cell?, hg2, e]
      have hJoin := Tryz.strings_Join g 0 cap (t0 :: vals.map decB) ⟨#[32]⟩ wr hcells hbk (by rw [h9]; omega) (by rw [h9]; exact hg3) HJ.out
      rw [h9] at hJoin
      have HS' : (⟨(Lib.join ((t0 :: vals.map decB).map (·.data.toList)) (⟨#[32]⟩ : ByteArray).data.toList).toArray⟩ : ByteArray) = res := HS.out
      rw [HS'] at hJoin
      clear HS' h9 hcells hbk hg1 hg2 hg3 hg4 hg5 hg6 hl hTb
      have k0 : wr.cell? ⟨w.heap.size + 1, 0, none⟩ = some (.int .i64 0) := by rw [hB.cell (by simpa using s4)]; exact K0.out
      have k1 : wr.cell? ⟨w.heap.size + 1, 1, none⟩ = some (.string ⟨#[]⟩) := by rw [hB.cell (by simpa using s4)]; exact K1.out
      have f0 : wr.frozen? ⟨w.heap.size + 1, 0, none⟩ = false := by rw [hB.frozen (by simpa using s4)]; exact F0.out
      have f1 : wr.frozen? ⟨w.heap.size + 1, 1, none⟩ = false := by rw [hB.frozen (by simpa using s4)]; exact F1.out
      go_wp2_with fail
      refine hJoin.mono ?_
      rintro e w7 ⟨rfl, b7⟩
      have m0 := cell_keep b7 k0
      have m1 := cell_keep b7 k1
      have n0 : w7.frozen? ⟨w.heap.size + 1, 0, none⟩ = false := by rw [b7.frozen (block_of_cell k0)]; exact f0
      have n1 : w7.frozen? ⟨w.heap.size + 1, 1, none⟩ = false := by rw [b7.frozen (block_of_cell k1)]; exact f1
      clear k0 k1 f0 f1 hJoin
      go_wp2_with fail
      exact bodyPost_ret (v := .agg #[.int .i64 0, .string res]) (by simp [results, Tryz.results41, go_sem, m0, m1]) rfl ⟨rfl, ((on (B0.out.trans (hB.mono (by have := B0.out.size; omega))) b7).setCell (by simp) _).setCell (by simp) _⟩
end Go.Proofs.YtdmlejfopmimfaaGreatDoor
namespace Go.Proofs.YtdmlejfopmimfaaGreatDoor
open Go.RowKit
set_option linter.unusedVariables false

set_option maxRecDepth 10000 in
set_option maxHeartbeats 4000000 in
theorem impl_text_none (k d a i : Nat) (t0 : ByteArray) (s0 : t0.size ≤ 5) (w : World)
    (hf : ∀ w : World, Calls Tryz.prog 67 #[.agg #[.int .i64 k, .int .i64 d, .int .i64 a, .int .i64 i]] w fun e w' => e = .returned (.int .i64 0) ∧ Below w.heap.size w w')
    (hO : ∀ w : World, Calls Tryz.prog 68 #[.int .i64 k] w fun e w' => e = .returned (.agg #[.int .i64 0, .string t0]) ∧ Below w.heap.size w w')
    (hT : ∀ w : World, Calls Tryz.prog 50 #[.agg #[.int .i64 k, .int .i64 d, .int .i64 a, .int .i64 i]] w fun e w' => e = .returned (.slice none 0 0) ∧ Below w.heap.size w w') :
    Calls Tryz.prog 41 #[.agg #[.int .i64 k, .int .i64 d, .int .i64 a, .int .i64 i]] w fun e w' => e = .returned (.agg #[.int .i64 0, .string t0]) ∧ Below w.heap.size w w' := by
  have hfield := field_text
  have S0 : Hid (t0.size ≤ 5) := s0
  clear s0
  go_enter Tryz.func41, Tryz.ntmps41
  go_wp2_with fail
  refine (hf _).mono ?_
  rintro e w1 ⟨rfl, b1⟩
  obtain ⟨c1, z1⟩ := bcell b1
  go_wp2_with fail
  refine (hO _).mono ?_
  rintro e w2 ⟨rfl, b2⟩
  have b12 := on b1 b2
  clear c1 z1
  obtain ⟨c1, z1⟩ := bcell b12
  have s2 : w.heap.size + 2 ≤ w2.heap.size := by have := b12.size; simp at this; omega
  have s3 : w.heap.size < w2.heap.size := by omega
  have s4 : w.heap.size + 1 < w2.heap.size := by omega
  go_wp2_with fail
  refine (hT _).mono ?_
  rintro e w3 ⟨rfl, b3⟩
  have b13 := on (al b12 _) b3
  clear c1 z1
  obtain ⟨c1, z1⟩ := bcell b13
  go_wp2_with fail
  have B0 : Hid (Below w.heap.size w w3) := on (al (al (Below.refl _ _) _) _) b13
  have P0 : Hid (w3.cell? ⟨w2.heap.size, 0, none⟩ = some (.string t0)) := cell_keep b3 (cell_new rfl)
  have K0 : Hid (w3.cell? ⟨w.heap.size + 1, 0, none⟩ = some (.int .i64 0)) := cell_keep b13 (by simp)
  have K1 : Hid (w3.cell? ⟨w.heap.size + 1, 1, none⟩ = some (.string ⟨#[]⟩)) := cell_keep b13 (by simp)
  have F0 : Hid (w3.frozen? ⟨w.heap.size + 1, 0, none⟩ = false) := by show _ = _; rw [z1 _ _ (by simp)]; simp
  have F1 : Hid (w3.frozen? ⟨w.heap.size + 1, 1, none⟩ = false) := by show _ = _; rw [z1 _ _ (by simp)]; simp
  clear c1 z1 b1 b2 b12 b3 b13 hf hO hT
  go_loopw [4, 21] (fun v c wr => c = .int .i64 0 ∧ v = .slice (some ⟨w2.heap.size, 0, none⟩) 1 1 ∧ wr = w3)
    (fun _ _ _ => 0)
  case atStart => exact ⟨rfl, rfl, rfl⟩
  case round =>
    obtain ⟨rfl, rfl, rfl⟩ := hrel
    have hbk := block_of_cell P0.out
    have hJoin := Tryz.strings_Join w2.heap.size 0 1 [t0] ⟨#[32]⟩ wr (by
      intro m x hx
      have hm : m = 0 := by have := (List.getElem?_eq_some_iff.1 hx).1; simpa using this
      subst hm
      obtain rfl : t0 = x := by simpa using hx
      exact P0.out) hbk (by simp) (by simp) (by simp only [List.map_cons, List.map_nil]; rw [Lib.join_one, Array.length_toList]; exact Nat.le_trans S0.out (by decide))
    have e1 : (⟨(Lib.join ([t0].map (·.data.toList)) (⟨#[32]⟩ : ByteArray).data.toList).toArray⟩ : ByteArray) = t0 := by simp only [List.map_cons, List.map_nil]; rw [Lib.join_one]
    rw [e1] at hJoin
    clear e1
    have k0 := K0.out
    have k1 := K1.out
    have f0 := F0.out
    have f1 := F1.out
    go_wp2_with fail
    refine hJoin.mono ?_
    rintro e w7 ⟨rfl, b7⟩
    have m0 := cell_keep b7 k0
    have m1 := cell_keep b7 k1
    have n0 : w7.frozen? ⟨w.heap.size + 1, 0, none⟩ = false := by rw [b7.frozen (block_of_cell k0)]; exact f0
    have n1 : w7.frozen? ⟨w.heap.size + 1, 1, none⟩ = false := by rw [b7.frozen (block_of_cell k1)]; exact f1
    clear k0 k1 f0 f1 hJoin
    go_wp2_with fail
    exact bodyPost_ret (v := .agg #[.int .i64 0, .string t0]) (by simp [results, Tryz.results41, go_sem, m0, m1]) rfl ⟨rfl, ((on B0.out b7).setCell (by simp) _).setCell (by simp) _⟩
end Go.Proofs.YtdmlejfopmimfaaGreatDoor
namespace Go.Proofs.YtdmlejfopmimfaaGreatDoor
open Go.RowKit
set_option linter.unusedVariables false

/-- A text, by its bytes. -/
def bs (l : List UInt8) : ByteArray := ⟨l.toArray⟩
theorem bs_size (l : List UInt8) : (bs l).size = l.length := size_mk l
theorem bs_app (l m : List UInt8) : bs (l ++ m) = bs l ++ bs m := by
  apply ByteArray.ext
  simp [bs, ByteArray.data_append]
/-- Numbers, each with a blank ahead. -/
def nsW (zs : List Int) : List UInt8 := zs.flatMap fun z => 32 :: Lib.decDigits z.toNat
def nlW (wd : List UInt8) (zs : List Int) : List UInt8 := wd ++ nsW zs ++ [10]
theorem ns_next (zs : List Int) (j : Nat) (h : j < zs.length) : nsW (zs.take (j + 1)) = nsW (zs.take j) ++ (32 :: Lib.decDigits (zs.getD j 0).toNat) := by
  rw [List.take_add_one, List.getElem?_eq_getElem h, List.getD_eq_getElem?_getD, List.getElem?_eq_getElem h]
  simp only [nsW, Option.toList, Option.getD, List.flatMap_append, List.flatMap_cons, List.flatMap_nil, List.append_nil]
theorem dec_len10 {z : Int} (h0 : 0 ≤ z) (h1 : z ≤ 4294967295) : (Lib.decDigits z.toNat).length ≤ 10 := dec_len z.toNat 9 (by omega)
theorem ns_len {zs : List Int} (h : zs.all isW = true) : (nsW zs).length ≤ 11 * zs.length := by
  induction zs with
  | nil => simp [nsW]
  | cons x t ih =>
    simp only [List.all_cons, Bool.and_eq_true] at h
    have h1 := isW_iff.1 h.1
    have h2 := dec_len10 h1.1 h1.2
    have h3 := ih h.2
    simp only [nsW, List.flatMap_cons, List.length_append, List.length_cons] at *
    omega
theorem all_takenT {zs : List Int} (h : zs.all isW = true) (j : Nat) : (zs.take j).all isW = true := by
  rw [List.all_eq_true] at h ⊢
  exact fun x hx => h x (List.mem_of_mem_take hx)
theorem nl_len {wd : List UInt8} {zs : List Int} (h : zs.all isW = true) (hn : zs.length ≤ 40) (hl : wd.length ≤ 10) : (nlW wd zs).length ≤ 500 := by
  have := ns_len h
  simp only [nlW, List.length_append, List.length_cons, List.length_nil]
  omega
theorem i_formatT (z : Int) (h0 : 0 ≤ z) (h1 : z ≤ 4294967295) (w : World) (ht : Lib.TabIs Tryz.prog w "internal/strconv.uint64pow10" .u64 Lib.pow10Tab) :
    Calls Tryz.prog 69 #[.int .i64 z, .int .i64 10] w fun e w' => e = .returned (.string (bs (Lib.decDigits z.toNat))) ∧ Below w.heap.size w w' := by
  refine (Tryz.strconv_FormatInt_10 z (by omega) (by omega) w ht).mono ?_
  rintro e w' ⟨rfl, k, os, rfl⟩
  exact ⟨by rw [Lib.itoa, if_neg (by omega)]; rfl, Lib.below_grow _ w (Nat.le_refl _) k os⟩
theorem isb_keepS {w w' : World} {T e : TypeId} {B b : Nat} {bs : List Value} (h : Lib.IsBuilder T e B b bs w) (k : Below w.heap.size w w') : Lib.IsBuilder T e B b bs w' := h.imp (bd_keep · k) (bd_keep · k)
set_option maxRecDepth 20000 in
set_option maxHeartbeats 8000000 in
theorem i_wordNums (wd : List UInt8) (a : Option Addr) (n c : Nat) (zs : List Int) (w : World) (hR : Rn w a n c zs) (hw : zs.all isW = true) (hn : n ≤ 1048576) (hl : wd.length ≤ 10) (ht : Lib.TabIs Tryz.prog w "internal/strconv.uint64pow10" .u64 Lib.pow10Tab) :
    Calls Tryz.prog 66 #[.string (bs wd), .slice a n c] w fun e w' => e = .returned (.string (bs (wd ++ nsW zs))) ∧ Below w.heap.size w w' := by
  obtain ⟨V, hV⟩ : ∃ V, bs (wd ++ nsW zs) = V := ⟨_, rfl⟩
  rw [hV]
  have HV : Hid (bs (wd ++ nsW zs) = V) := hV
  clear hV
  have HR : Hid (Rn w a n c zs) := hR
  have HW : Hid (zs.all isW = true) := hw
  have HT : Hid (Lib.TabIs Tryz.prog w "internal/strconv.uint64pow10" .u64 Lib.pow10Tab) := ht
  have HN : Hid (n = zs.length) := hR.len
  have HN4 : Hid (n ≤ 1048576 ∧ wd.length ≤ 10) := ⟨hn, hl⟩
  have hI : (n : Int) ≤ 1048576 := by omega
  clear hR hw ht hn hl
  obtain ⟨B, hB⟩ : ∃ B, w.heap.size = B := ⟨_, rfl⟩
  have HB : Hid (w.heap.size = B) := hB
  have I0 : Hid (Lib.IsBuilder 44 5 B B [] (w.alloc (.cells #[.pointer none, .slice none 0 0] 44))) :=
    .inl ⟨Nat.le_refl _, .slice none 0 0, by rw [← hB]; exact heap_alloc_new w _, World.ownsRow_nil _ _ _ _, by intro e; cases e⟩
  have W0 : Hid (Below B w (w.alloc (.cells #[.pointer none, .slice none 0 0] 44))) := by show Below _ _ _; rw [← hB]; exact al (Below.refl _ _) _
  have FS : Hid (∀ u, Lib.IsBuilder 44 5 B B [] u → Below B w u → Calls Tryz.prog 19 #[.pointer (some ⟨B, 0, none⟩), .string (bs wd)] u fun e w' => e = .returned (.tuple #[.int .i64 (bs wd).size, .nilIface]) ∧ Lib.BuilderAt 44 5 B B (.pointer (some ⟨B, 0, none⟩)) ([] ++ Lib.strCells (bs wd)) w' ∧ Below B u w') := fun u hu hb => bd_string B B [] (bs wd) u hu (by rw [bs_size]; have := HN4.out.2; simp; omega) (by have := hb.size; have := HB.out; omega)
  obtain ⟨wb, hwb⟩ : ∃ wb, bs wd = wb := ⟨_, rfl⟩
  have HWB : Hid (bs wd = wb) := hwb
  rw [hwb] at FS ⊢
  clear hwb
  go_enter Tryz.func66, Tryz.ntmps66
  go_wp2_with fail
  clear hB
  generalize w.alloc (.cells #[.pointer none, .slice none 0 0] 44) = W at *
  refine (FS.out W I0.out W0.out).mono ?_
  rintro e w1 ⟨rfl, k1, b1⟩
  have I1 : Hid (Lib.IsBuilder 44 5 B B (Lib.byteCells (wd ++ nsW (zs.take 0))) w1) := by
    show Lib.IsBuilder _ _ _ _ _ _
    rw [List.take_zero, show nsW [] = [] from rfl, List.append_nil]
    rw [← HWB.out] at k1
    exact .inr k1
  have B1 : Hid (Below B w w1) := W0.out.trans b1
  clear k1 b1 FS I0 W0
  go_wp2_with fail
  go_loopw [7, 12] (fun _ i wr => ∃ j : Nat, j ≤ n ∧ i = .int .i64 j ∧ Lib.IsBuilder 44 5 B B (Lib.byteCells (wd ++ nsW (zs.take j))) wr ∧ Below B w wr) (fun _ i _ => n - (intOf i).toNat)
  case atStart => exact ⟨0, Nat.zero_le _, rfl, I1.out, B1.out⟩
  case round =>
    clear I1 B1
    obtain ⟨j, hj, rfl, hI1, hB1⟩ := hrel
    have I1 : Hid (Lib.IsBuilder 44 5 B B (Lib.byteCells (wd ++ nsW (zs.take j))) wr) := hI1
    have B1 : Hid (Below B w wr) := hB1
    have kb : Below w.heap.size w wr := by rw [HB.out]; exact hB1
    have KB : Hid (Below w.heap.size w wr) := kb
    have LB : Hid (B ≤ wr.heap.size) := by show _ ≤ _; have := hB1.size; have := HB.out; omega
    have LL : Hid ((wd ++ nsW (zs.take j)).length ≤ 20000000) := by
      show _ ≤ _
      have h1 := ns_len (all_takenT HW.out j)
      have h2 : (zs.take j).length ≤ j := by rw [List.length_take]; omega
      have h3 := HN4.out
      rw [List.length_append]
      omega
    clear hI1 hB1
    by_cases hlt : j < n
    · have hJ : (j : Int) < (n : Int) := by omega
      have HL : Hid (j < n) := hlt
      obtain ⟨x, rfl, cx⟩ := (HR.out.stay kb).at j hlt
      have NX : Hid (_ = _) := ns_next zs j (by have := HN.out; omega)
      obtain ⟨z, hz⟩ : ∃ z, zs.getD j 0 = z := ⟨_, rfl⟩
      have ZB : Hid (0 ≤ z ∧ z ≤ 4294967295) := by rw [← hz]; exact all_at HW.out j
      rw [hz] at cx NX
      obtain ⟨D, hD⟩ : ∃ D, Lib.decDigits z.toNat = D := ⟨_, rfl⟩
      have DL : Hid (D.length ≤ 10) := by show _ ≤ _; rw [← hD]; exact dec_len10 ZB.out.1 ZB.out.2
      have FM : Hid (∀ u, Below w.heap.size w u → Calls Tryz.prog 69 #[.int .i64 z, .int .i64 10] u fun e w' => e = .returned (.string (bs D)) ∧ Below u.heap.size u w') := fun u hu => by
        have := i_formatT z ZB.out.1 ZB.out.2 u (Lib.tabBelow_of_tabIs HT.out _ hu)
        rwa [hD] at this
      rw [hD] at NX
      obtain ⟨L, hL⟩ : ∃ L, wd ++ nsW (zs.take j) = L := ⟨_, rfl⟩
      have EN : Hid (wd ++ nsW (zs.take (j + 1)) = L ++ [32] ++ D) := by
        show _ = _
        rw [NX.out, ← List.append_assoc, hL, List.append_assoc]
        rfl
      rw [hL] at LL I1
      clear hlt hj hz hD hL kb NX
      go_wp2_with fail
      clear cx
      refine (bd_byte B B _ 32 wr I1.out (by rw [Lib.byteCells_length]; have := LL.out; omega) LB.out).mono ?_
      rintro e w2 ⟨rfl, k2, b2⟩
      have K2 : Hid (Lib.IsBuilder 44 5 B B (Lib.byteCells (L ++ [32])) w2) := by
        show Lib.IsBuilder _ _ _ _ _ _
        rw [Lib.byteCells_append]
        exact .inr k2
      have B2 : Hid (Below B w w2) := B1.out.trans b2
      have KB2 : Hid (Below w.heap.size w w2) := by show Below _ _ _; rw [HB.out]; exact B2.out
      clear k2 b2
      go_wp2_with fail
      refine (FM.out w2 KB2.out).mono ?_
      rintro e w3 ⟨rfl, b3⟩
      have K3 : Hid (Lib.IsBuilder 44 5 B B (Lib.byteCells (L ++ [32])) w3) := isb_keepS K2.out b3
      have B3 : Hid (Below B w w3) := B2.out.trans (b3.mono (by have := B2.out.size; have := HB.out; omega))
      clear b3
      go_wp2_with fail
      refine (bd_string B B _ (bs D) w3 K3.out (by rw [Lib.byteCells_length, bs_size, List.length_append]; have := LL.out; have := DL.out; simp; omega) (by have := B3.out.size; have := HB.out; omega)).mono ?_
      rintro e w4 ⟨rfl, k4, b4⟩
      have K4 : Hid (Lib.IsBuilder 44 5 B B (Lib.byteCells (wd ++ nsW (zs.take (j + 1)))) w4) := by
        show Lib.IsBuilder _ _ _ _ _ _
        rw [EN.out, Lib.byteCells_append]
        exact .inr k4
      have B4 : Hid (Below B w w4) := B3.out.trans b4
      clear k4 b4
      go_wp2_with fail
      go_roundw
      case rel => exact ⟨j + 1, by have := HL.out; omega, by go_num, K4.out, B4.out⟩
      case measure => have := HL.out; simp [intOf]; omega
    · have hJ : ¬ (j : Int) < (n : Int) := by omega
      have EJ : Hid (zs.take j = zs) := by show _ = _; exact List.take_of_length_le (by have := HN.out; omega)
      rw [EJ.out] at LL I1
      have EN : Hid ((⟨(wd ++ nsW zs).toArray⟩ : ByteArray) = V) := by show _ = _; rw [← HV.out]; rfl
      clear hlt hj kb
      go_wp2_with fail
      refine (Tryz.Builder_String_any B B (wd ++ nsW zs) _ I1.out LB.out).mono ?_
      rintro e w4 ⟨rfl, b4⟩
      have B4 : Hid (Below w.heap.size w w4) := by show Below _ _ _; rw [HB.out]; exact B1.out.trans b4
      rw [EN.out]
      clear b4
      go_wp2_with fail
      go_ret
      exact ⟨rfl, B4.out⟩
theorem wn_len {wd : List UInt8} {zs : List Int} {n : Nat} (h : zs.all isW = true) (hz : n = zs.length) (hn : n ≤ 1048576) (hl : wd.length ≤ 10) : (wd ++ nsW zs).length ≤ 20000000 := by
  have := ns_len h
  rw [List.length_append]
  omega
set_option maxHeartbeats 2000000 in
theorem i_numbersB (wd : List UInt8) (a : Option Addr) (n c : Nat) (zs : List Int) (w : World) (hR : Rn w a n c zs) (hw : zs.all isW = true) (hn : n ≤ 1048576) (hl : wd.length ≤ 10) (ht : Lib.TabIs Tryz.prog w "internal/strconv.uint64pow10" .u64 Lib.pow10Tab) :
    Calls Tryz.prog 40 #[.string (bs wd), .slice a n c] w fun e w' => e = .returned (.string (bs (nlW wd zs))) ∧ Below w.heap.size w w' := by
  have LL := wn_len hw hR.len hn hl
  have FM := i_wordNums wd a n c zs w hR hw hn hl ht
  have EN : Hid (bs (wd ++ nsW zs) ++ ⟨#[10]⟩ = bs (nlW wd zs)) := by show _ = _; rw [nlW, bs_app]; rfl
  have z1 : ¬ 9223372036854775807 < (bs (wd ++ nsW zs)).size + 1 := by rw [bs_size]; omega
  have z2 : ¬ 9223372036854775807 ≤ (bs (wd ++ nsW zs)).size := by rw [bs_size]; omega
  clear LL hR hw hn hl ht
  generalize bs (wd ++ nsW zs) = S at *
  generalize bs (nlW wd zs) = V at *
  generalize bs wd = wb at *
  go_enter Tryz.func40, Tryz.ntmps40
  go_wp2_with (go_at_call 66; refine FM.mono ?_; clear FM; rintro e w1 ⟨rfl, b1⟩)
  go_ret
  exact ⟨by rw [← EN.out]; rfl, b1⟩
theorem i_numbers (wd : List UInt8) (a : Option Addr) (n c : Nat) (zs : List Int) (w : World) (hR : Rn w a n c zs) (hw : zs.all isW = true) (hn : n ≤ 40) (hl : wd.length ≤ 10) (ht : Lib.TabIs Tryz.prog w "internal/strconv.uint64pow10" .u64 Lib.pow10Tab) :
    Calls Tryz.prog 40 #[.string (bs wd), .slice a n c] w fun e w' => e = .returned (.string (bs (nlW wd zs))) ∧ Below w.heap.size w w' := i_numbersB wd a n c zs w hR hw (by omega) hl ht
theorem s_digits (z : Int) (h0 : 0 ≤ z) (h1 : z ≤ 4294967295) (w : World) : Calls Tryz.prog 42 #[.int .i64 z] w fun e w' => e = .returned (.string (bs (Lib.decDigits z.toNat))) ∧ Below w.heap.size w w' := by
  have t := spec_digits z.toNat (by omega) w
  rw [show ((z.toNat : Nat) : Int) = z by omega] at t
  exact t
set_option maxRecDepth 20000 in
set_option maxHeartbeats 8000000 in
theorem s_lineB (wd : List UInt8) (a : Option Addr) (n c : Nat) (zs : List Int) (w : World) (hR : Rn w a n c zs) (hw : zs.all isW = true) (hn : n ≤ 1048576) (hl : wd.length ≤ 10) :
    Calls Tryz.prog 33 #[.string (bs wd), .slice a n c] w fun e w' => e = .returned (.string (bs (nlW wd zs))) ∧ Below w.heap.size w w' := by
  obtain ⟨V, hV⟩ : ∃ V, bs (nlW wd zs) = V := ⟨_, rfl⟩
  rw [hV]
  have HV : Hid (bs (nlW wd zs) = V) := hV
  clear hV
  have HR : Hid (Rn w a n c zs) := hR
  have HW : Hid (zs.all isW = true) := hw
  have HN : Hid (n = zs.length) := hR.len
  have HN4 : Hid (n ≤ 1048576 ∧ wd.length ≤ 10) := ⟨hn, hl⟩
  have hI : (n : Int) ≤ 1048576 := by omega
  clear hR hw hn hl
  go_enter Tryz.func33, Tryz.ntmps33
  go_wp2_with fail
  go_loopw [0, 5] (fun u i wr => ∃ j : Nat, j ≤ n ∧ i = .int .i64 j ∧ u = .string (bs (wd ++ nsW (zs.take j))) ∧ Below w.heap.size w wr) (fun _ i _ => n - (intOf i).toNat)
  case atStart => exact ⟨0, Nat.zero_le _, rfl, by simp [nsW], Below.refl _ _⟩
  case round =>
    obtain ⟨j, hj, rfl, rfl, hB⟩ := hrel
    have HB : Hid (Below w.heap.size w wr) := hB
    have LL : Hid ((wd ++ nsW (zs.take j)).length ≤ 20000000) := by
      show _ ≤ _
      have h1 := ns_len (all_takenT HW.out j)
      have h2 : (zs.take j).length ≤ j := by rw [List.length_take]; omega
      have h3 := HN4.out
      rw [List.length_append]
      omega
    by_cases hlt : j < n
    · have hJ : (j : Int) < (n : Int) := by omega
      have HL : Hid (j < n) := hlt
      obtain ⟨x, rfl, cx⟩ := (HR.out.stay hB).at j hlt
      have NX : Hid (_ = _) := ns_next zs j (by have := HN.out; omega)
      obtain ⟨z, hz⟩ : ∃ z, zs.getD j 0 = z := ⟨_, rfl⟩
      have ZB : Hid (0 ≤ z ∧ z ≤ 4294967295) := by rw [← hz]; exact all_at HW.out j
      rw [hz] at cx NX
      obtain ⟨D, hD⟩ : ∃ D, Lib.decDigits z.toNat = D := ⟨_, rfl⟩
      have DL : Hid (D.length ≤ 10) := by show _ ≤ _; rw [← hD]; exact dec_len10 ZB.out.1 ZB.out.2
      have FM := s_digits z ZB.out.1 ZB.out.2 wr
      rw [hD] at FM NX
      obtain ⟨L, hL⟩ : ∃ L, wd ++ nsW (zs.take j) = L := ⟨_, rfl⟩
      have EN : Hid (bs (wd ++ nsW (zs.take (j + 1))) = (bs L ++ ⟨#[32]⟩) ++ bs D) := by
        show _ = _
        rw [NX.out, ← List.append_assoc, hL, show (⟨#[32]⟩ : ByteArray) = bs [32] from rfl, ← bs_app, ← bs_app, List.append_assoc]
        rfl
      rw [hL] at LL ⊢
      have z1 : ¬ 9223372036854775807 < (bs L).size + 1 := by rw [bs_size]; have := LL.out; omega
      have z0 : ¬ 9223372036854775807 ≤ (bs L).size := by rw [bs_size]; have := LL.out; omega
      have z2 : ¬ 9223372036854775807 < (bs L ++ (⟨#[32]⟩ : ByteArray)).size + (bs D).size := by rw [show (⟨#[32]⟩ : ByteArray) = bs [32] from rfl, ← bs_app, bs_size, bs_size]; have := DL.out; have := LL.out; simp; omega
      have z3 : ¬ 9223372036854775807 < (bs L).size + 1 + (bs D).size := by rw [bs_size, bs_size]; have := DL.out; have := LL.out; omega
      clear hlt hj hz hD hL hB
      go_wp2_with (go_at_call 42; refine FM.mono ?_; clear FM; rintro e w1 ⟨rfl, b1⟩)
      go_roundw
      case rel => exact ⟨j + 1, by have := HL.out; omega, by go_num, by rw [EN.out], on HB.out b1⟩
      case measure => have := HL.out; simp [intOf]; omega
    · have hJ : ¬ (j : Int) < (n : Int) := by omega
      have EJ : Hid (zs.take j = zs) := by show _ = _; exact List.take_of_length_le (by have := HN.out; omega)
      rw [EJ.out] at LL ⊢
      have EN : Hid (bs (wd ++ nsW zs) ++ ⟨#[10]⟩ = V) := by show _ = _; rw [← HV.out, nlW, bs_app]; rfl
      have z1 : ¬ 9223372036854775807 < (bs (wd ++ nsW zs)).size + 1 := by rw [bs_size]; have := LL.out; omega
      have z2 : ¬ 9223372036854775807 ≤ (bs (wd ++ nsW zs)).size := by rw [bs_size]; have := LL.out; omega
      clear hlt hj
      generalize bs (wd ++ nsW zs) = S at *
      go_wp2_with fail
      go_ret
      exact ⟨by rw [← EN.out]; rfl, hB⟩
theorem s_line (wd : List UInt8) (a : Option Addr) (n c : Nat) (zs : List Int) (w : World) (hR : Rn w a n c zs) (hw : zs.all isW = true) (hn : n ≤ 40) (hl : wd.length ≤ 10) :
    Calls Tryz.prog 33 #[.string (bs wd), .slice a n c] w fun e w' => e = .returned (.string (bs (nlW wd zs))) ∧ Below w.heap.size w w' := s_lineB wd a n c zs w hR hw (by omega) hl
end Go.Proofs.YtdmlejfopmimfaaGreatDoor
namespace Go.Proofs.YtdmlejfopmimfaaGreatDoor
open Go.RowKit
set_option linter.unusedVariables false

theorem spec_insText_in (k d a i : Nat) (w : World) (h : insC k d a i = 0) :
    Calls Tryz.prog 32 #[.agg #[.int .i64 k, .int .i64 d, .int .i64 a, .int .i64 i]] w fun e w' => e = .returned (.agg #[.int .i64 0, .string (insT k d a i)]) ∧ Below w.heap.size w w' := by
  have hr := insC_bounds h
  have hf := fun w => spec_insFault k d a i w
  rw [h] at hf
  have hb := fun w => spec_bare k w ⟨hr.1, hr.2.1⟩
  have i1 : (0 : Int) ≤ (k : Int) := by omega
  have i2 : (k : Int) < 27 := by omega
  have i4 : k < 27 := by omega
  have hD := fun w => spec_digits d (by omega) w
  have hA := fun w => spec_digits a (by omega) w
  have hI := fun w => spec_digits i (by omega) w
  have s0 := nm_len k i4
  have s1 := decB_len d (by omega)
  have s2 := decB_len a (by omega)
  have s3 := decB_len i (by omega)
  have hn : ∀ w : World, Calls Tryz.prog 63 #[] w fun e w' => e = .returned (.slice (some ⟨w.heap.size, 0, none⟩) 27 27) ∧ Below w.heap.size w w' ∧ w'.cell? ⟨w.heap.size, k, none⟩ = some (.string (nm k)) := fun w => (spec_names w).mono fun e w' ⟨h1, h2, h3⟩ => ⟨h1, h2, h3 k i4⟩
  unfold insT told
  rcases bare_cases k with ⟨e1, e2, e3⟩ | ⟨e1, e2, e3⟩ | ⟨e1, e2, e3⟩ | ⟨e1, e2, e3⟩
  all_goals
    simp only [e1, e2, e3] at hb
    simp only [e1, e2, e3, if_true, if_false, Bool.false_eq_true]
  · exact spec_text_fff k d a i (nm k) (decB d) (decB a) (decB i) s0 s1 s2 s3 w i1 i2 hf hb hn hD hA hI
  · exact spec_text_ftf k d a i (nm k) (decB d) (decB a) (decB i) s0 s1 s2 s3 w i1 i2 hf hb hn hD hA hI
  · exact spec_text_tff k d a i (nm k) (decB d) (decB a) (decB i) s0 s1 s2 s3 w i1 i2 hf hb hn hD hA hI
  · exact spec_text_ttt k d a i (nm k) (decB d) (decB a) (decB i) s0 s1 s2 s3 w i1 i2 hf hb hn hD hA hI

theorem join3 (t0 x y z : ByteArray) : (⟨(Lib.join ([t0, x, y, z].map (·.data.toList)) [32]).toArray⟩ : ByteArray) = t0 ++ ⟨#[32]⟩ ++ x ++ ⟨#[32]⟩ ++ y ++ ⟨#[32]⟩ ++ z := by
  apply ByteArray.ext
  apply Array.toList_inj.1
  simp [Lib.join_cons, Lib.joinTail, ByteArray.data_append]
theorem join2 (t0 x y : ByteArray) : (⟨(Lib.join ([t0, x, y].map (·.data.toList)) [32]).toArray⟩ : ByteArray) = t0 ++ ⟨#[32]⟩ ++ x ++ ⟨#[32]⟩ ++ y := by
  apply ByteArray.ext
  apply Array.toList_inj.1
  simp [Lib.join_cons, Lib.joinTail, ByteArray.data_append]
theorem join_len (xs : List ByteArray) (h : ∀ x ∈ xs, x.size ≤ 5) (hl : xs.length ≤ 4) : (Lib.join (xs.map (·.data.toList)) [32]).length ≤ 140737488355328 := by
  match xs, h, hl with
  | [], _, _ => simp [Lib.join_nil]
  | [a], h, _ => have := h a (by simp); simp [Lib.join_cons, Lib.joinTail]; omega
  | [a, b], h, _ => have := h a (by simp); have := h b (by simp); simp [Lib.join_cons, Lib.joinTail]; omega
  | [a, b, c], h, _ => have := h a (by simp); have := h b (by simp); have := h c (by simp); simp [Lib.join_cons, Lib.joinTail]; omega
  | [a, b, c, d], h, _ => have := h a (by simp); have := h b (by simp); have := h c (by simp); have := h d (by simp); simp [Lib.join_cons, Lib.joinTail]; omega
  | a :: b :: c :: d :: e :: r, _, hl => simp at hl

theorem impl_insText_in (k d a i : Nat) (w : World) (h : insC k d a i = 0) (htab : Lib.TabIs Tryz.prog w "internal/strconv.uint64pow10" .u64 Lib.pow10Tab) :
    Calls Tryz.prog 41 #[.agg #[.int .i64 k, .int .i64 d, .int .i64 a, .int .i64 i]] w fun e w' => e = .returned (.agg #[.int .i64 0, .string (insT k d a i)]) ∧ Below w.heap.size w w' := by
  have hr := insC_bounds h
  have hf := fun w => impl_insFault k d a i w
  rw [h] at hf
  have hO := fun w => impl_opName_in k (by omega) (by omega) w
  have s0 := nm_len k (by omega)
  have s1 := decB_len d (by omega)
  have s2 := decB_len a (by omega)
  have s3 := decB_len i (by omega)
  by_cases c1 : (k : Int) = 13 ∨ (k : Int) = 19 ∨ (k : Int) = 21
  · have eD : bareD k = false := decide_eq_false (by omega)
    have eA : bareA k = true := decide_eq_true (by omega)
    have eI : bareI k = false := decide_eq_false (by omega)
    have hx := impl_text_some k d a i [d, i] (by simp; omega) (by simp) (nm k) w htab hf hO (fun w => impl_told_di k d a i w c1) (join_len _ (by simp [s0, s1, s3]) (by simp))
    simp only [List.map_cons, List.map_nil] at hx
    rw [show insT k d a i = nm k ++ ⟨#[32]⟩ ++ decB d ++ ⟨#[32]⟩ ++ decB i by simp [insT, told, eD, eA, eI], ← join2]
    exact hx
  by_cases c2 : (k : Int) = 22
  · have eD : bareD k = true := decide_eq_true (by omega)
    have eA : bareA k = false := decide_eq_false (by omega)
    have eI : bareI k = false := decide_eq_false (by omega)
    have hx := impl_text_some k d a i [a, i] (by simp; omega) (by simp) (nm k) w htab hf hO (fun w => by rw [c2]; exact impl_told_ai d a i w) (join_len _ (by simp [s0, s2, s3]) (by simp))
    simp only [List.map_cons, List.map_nil] at hx
    rw [show insT k d a i = nm k ++ ⟨#[32]⟩ ++ decB a ++ ⟨#[32]⟩ ++ decB i by simp [insT, told, eD, eA, eI], ← join2]
    exact hx
  by_cases c3 : 23 ≤ (k : Int)
  · have eD : bareD k = true := decide_eq_true (by omega)
    have eA : bareA k = true := decide_eq_true (by omega)
    have eI : bareI k = true := decide_eq_true (by omega)
    have hx := impl_text_none k d a i (nm k) s0 w hf hO (fun w => impl_told_none k d a i w (by omega))
    rw [show insT k d a i = nm k by simp [insT, told, eD, eA, eI]]
    exact hx
  · have eD : bareD k = false := decide_eq_false (by omega)
    have eA : bareA k = false := decide_eq_false (by omega)
    have eI : bareI k = false := decide_eq_false (by omega)
    have hx := impl_text_some k d a i [d, a, i] (by simp; omega) (by simp) (nm k) w htab hf hO (fun w => impl_told_dai k d a i w (by omega) (by omega)) (join_len _ (by simp [s0, s1, s2, s3]) (by simp))
    simp only [List.map_cons, List.map_nil] at hx
    rw [show insT k d a i = nm k ++ ⟨#[32]⟩ ++ decB d ++ ⟨#[32]⟩ ++ decB a ++ ⟨#[32]⟩ ++ decB i by simp [insT, told, eD, eA, eI], ← join3]
    exact hx

/-- What InsText answers. -/
def insS (op d a imm : Int) : ByteArray := if insC op d a imm = 0 then insT op.toNat d.toNat a.toNat imm.toNat else ⟨#[]⟩
set_option maxHeartbeats 1000000 in
theorem spec_insText (op d a imm : Int) (w : World) :
    Calls Tryz.prog 32 #[.agg #[.int .i64 op, .int .i64 d, .int .i64 a, .int .i64 imm]] w fun e w' => e = .returned (.agg #[.int .i64 (insC op d a imm), .string (insS op d a imm)]) ∧ Below w.heap.size w w' := by
  by_cases h : insC op d a imm = 0
  · have hr := insC_bounds h
    obtain ⟨k, rfl⟩ : ∃ k : Nat, op = k := ⟨op.toNat, by omega⟩
    obtain ⟨x, rfl⟩ : ∃ k : Nat, d = k := ⟨d.toNat, by omega⟩
    obtain ⟨y, rfl⟩ : ∃ k : Nat, a = k := ⟨a.toNat, by omega⟩
    obtain ⟨z, rfl⟩ : ∃ k : Nat, imm = k := ⟨imm.toNat, by omega⟩
    rw [insS, if_pos h, h]
    exact spec_insText_in k x y z w h
  · rw [insS, if_neg h]
    have hf := fun w => spec_insFault op d a imm w
    have g : (insC op d a imm == 0) = false := beq_eq_false_iff_ne.2 h
    clear h
    generalize insC op d a imm = c at *
    go_enter Tryz.func32, Tryz.ntmps32
    go_wp2_with (go_at_call 62; refine (hf _).mono ?_; rintro e w1 ⟨rfl, hb⟩; obtain ⟨hc, hz⟩ := bcell hb)
    exact bodyPost_ret (v := .agg #[.int .i64 c, .string ⟨#[]⟩]) (by simp [results, Tryz.results32, go_sem, hc]) rfl ⟨rfl, ((on (al (al (Below.refl _ _) _) _) hb).setCell (by simp) _).setCell (by simp) _⟩

set_option maxHeartbeats 1000000 in
theorem impl_insText (op d a imm : Int) (w : World) (htab : Lib.TabIs Tryz.prog w "internal/strconv.uint64pow10" .u64 Lib.pow10Tab) :
    Calls Tryz.prog 41 #[.agg #[.int .i64 op, .int .i64 d, .int .i64 a, .int .i64 imm]] w fun e w' => e = .returned (.agg #[.int .i64 (insC op d a imm), .string (insS op d a imm)]) ∧ Below w.heap.size w w' := by
  by_cases h : insC op d a imm = 0
  · have hr := insC_bounds h
    obtain ⟨k, rfl⟩ : ∃ k : Nat, op = k := ⟨op.toNat, by omega⟩
    obtain ⟨x, rfl⟩ : ∃ k : Nat, d = k := ⟨d.toNat, by omega⟩
    obtain ⟨y, rfl⟩ : ∃ k : Nat, a = k := ⟨a.toNat, by omega⟩
    obtain ⟨z, rfl⟩ : ∃ k : Nat, imm = k := ⟨imm.toNat, by omega⟩
    rw [insS, if_pos h, h]
    exact impl_insText_in k x y z w h htab
  · rw [insS, if_neg h]
    have hf := fun w => impl_insFault op d a imm w
    have g : (insC op d a imm == 0) = false := beq_eq_false_iff_ne.2 h
    clear h htab
    generalize insC op d a imm = c at *
    go_enter Tryz.func41, Tryz.ntmps41
    go_wp2_with (go_at_call 67; refine (hf _).mono ?_; rintro e w1 ⟨rfl, hb⟩; obtain ⟨hc, hz⟩ := bcell hb)
    exact bodyPost_ret (v := .agg #[.int .i64 c, .string ⟨#[]⟩]) (by simp [results, Tryz.results41, go_sem, hc]) rfl ⟨rfl, ((on (al (al (Below.refl _ _) _) _) hb).setCell (by simp) _).setCell (by simp) _⟩
end Go.Proofs.YtdmlejfopmimfaaGreatDoor
