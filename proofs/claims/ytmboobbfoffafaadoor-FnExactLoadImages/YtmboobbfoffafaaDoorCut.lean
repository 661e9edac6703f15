/- A memory is cut into pages. -/
import Derived.Test.YtmboobbfoffafaaDoorNew
import Derived.Laws.CopyOwn
import Derived.Deep.RegionLaw
import Derived.Deep.RegionWith
namespace Go.Proofs.YtmboobbfoffafaaDoor
open Go.RowKit
set_option linter.unusedVariables false

theorem Pags.heap {w : World} {base g p : Nat} {zs : List Int} (h : Pags w base (.slice (some ⟨g, 0, none⟩) p p) p zs) : w.heap[g]? = some (.cells (zs.map (Value.int .i64)).toArray 97 (0, 0)) := by
  obtain ⟨h1, ⟨h2, h3⟩ | ⟨g', cap, cur, hv, hb, hh, h4, h5, h6, h7⟩⟩ := h
  · simp at h2
  · simp at hv
    obtain ⟨rfl, rfl⟩ := hv
    rw [List.take_of_length_le (by simp [h6])] at h7
    rw [hh, ← h7]
theorem Pags.of_heap {w : World} {base g p : Nat} {zs : List Int} (hh : w.heap[g]? = some (.cells (zs.map (Value.int .i64)).toArray 97 (0, 0))) (hl : zs.length = p * 8) (hb : base ≤ g) (hp : p ≤ maxLen) : Pags w base (.slice (some ⟨g, 0, none⟩) p p) p zs :=
  ⟨by simpa using hl, .inr ⟨g, p, _, rfl, hb, hh, Nat.le_refl _, hp, by simpa using hl, by rw [List.take_of_length_le (by simp [hl])]⟩⟩

/-- The pages behind j rounds. -/
def cutL (zs : List Int) (p j : Nat) : List Int := zs.take (j * 8) ++ List.replicate ((p - j) * 8) 0
theorem cutL_length (zs : List Int) (p j : Nat) (hz : zs.length = p * 8) (hj : j ≤ p) : (cutL zs p j).length = p * 8 := by
  simp [cutL, hz]
  omega
def eight (zs : List Int) (j : Nat) : List Int := (zs.drop (j * 8)).take 8
theorem eight_length (zs : List Int) (p j : Nat) (hz : zs.length = p * 8) (hj : j < p) : (eight zs j).length = 8 := by
  simp [eight, hz]
  omega
theorem splice_cut (zs : List Int) (p j : Nat) (hz : zs.length = p * 8) (hj : j < p) :
    splice ((cutL zs p j).map (Value.int .i64)) (j * 8) ((eight zs j).map (Value.int .i64)) = (cutL zs p (j + 1)).map (Value.int .i64) := by
  have h8 := eight_length zs p j hz hj
  unfold splice
  rw [List.length_map, h8, ← List.map_take, ← List.map_drop, ← List.map_append, ← List.map_append]
  congr 1
  have e1 : (cutL zs p j).take (j * 8) = zs.take (j * 8) := by
    unfold cutL
    rw [List.take_append_of_le_length (by simp [hz]; omega), List.take_take, Nat.min_self]
  have e2 : (cutL zs p j).drop (j * 8 + 8) = List.replicate ((p - (j + 1)) * 8) 0 := by
    unfold cutL
    rw [List.drop_append, List.drop_of_length_le (by simp; omega), List.nil_append, List.drop_replicate]
    congr 1
    simp [hz]
    omega
  rw [e1, e2, ← List.append_assoc]
  unfold cutL eight
  rw [show (j + 1) * 8 = j * 8 + 8 by omega, List.take_add]
theorem eight_cell {w : World} {base g n cap : Nat} {zs : List Int} (h : Nums w base (.slice (some ⟨g, 0, none⟩) n cap) zs) (p j : Nat) (hz : zs.length = p * 8) (hj : j < p) (hn : n = zs.length) :
    ∀ i v, ((eight zs j).map (Value.int .i64))[i]? = some v → w.cell? ((⟨g, j * 8, none⟩ : Addr).add i) = some v := by
  intro i v hv
  have hi : i < 8 := by
    have := (List.getElem?_eq_some_iff.1 hv).1
    rw [List.length_map, eight_length zs p j hz hj] at this
    exact this
  rw [Addr.add_lit, h.cell hn (j * 8 + i) (by omega), ← hv]
  simp only [eight, List.getElem?_map, List.getElem?_take, hi, if_true, List.getElem?_drop, List.getD]
  rw [List.getElem?_eq_getElem (by omega)]
  rfl

end Go.Proofs.YtmboobbfoffafaaDoor
