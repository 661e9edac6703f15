/- What FeedSolo answers. -/
import Derived.Test.YtijajemalokgjaaSww
import Derived.Test.YtijajemalokgjaaHwo
namespace Go.Proofs.Ytijajemalokgjaa
open Go.RowKit
set_option linter.unusedVariables false

def fsC (H : Ht) (ps : List (Int × Int)) (zs : List Int) (pg : Int) (ws : List Int) : Int := if swC H ps zs pg = 0 then (if ws.length = 8 ∧ ws.all isW = true then 0 else 1) else swC H ps zs pg
def fzL (zs : List Int) (p : Nat) (ws : List Int) (j : Nat) : List Int := zs.take (p * 8) ++ (ws.take j ++ zs.drop (p * 8 + j))
def fsH (H : Ht) (ps : List (Int × Int)) (zs : List Int) (pg : Int) (ws : List Int) : Ht := if fsC H ps zs pg ws = 0 then H else voidH
def fsP (H : Ht) (ps : List (Int × Int)) (zs : List Int) (pg : Int) (ws : List Int) : List (Int × Int) := if fsC H ps zs pg ws = 0 then ps else []
def fsZ (H : Ht) (ps : List (Int × Int)) (zs : List Int) (pg : Int) (ws : List Int) : List Int := if fsC H ps zs pg ws = 0 then fzL zs pg.toNat ws 8 else []
theorem fs_not (H : Ht) (ps : List (Int × Int)) (zs : List Int) (pg : Int) (ws : List Int) (h : fsC H ps zs pg ws ≠ 0) : fsH H ps zs pg ws = voidH ∧ fsP H ps zs pg ws = [] ∧ fsZ H ps zs pg ws = [] :=
  ⟨by rw [fsH, if_neg h], by rw [fsP, if_neg h], by rw [fsZ, if_neg h]⟩
theorem fs_yes (H : Ht) (ps : List (Int × Int)) (zs : List Int) (pg : Int) (ws : List Int) (h : fsC H ps zs pg ws = 0) : fsH H ps zs pg ws = H ∧ fsP H ps zs pg ws = ps ∧ fsZ H ps zs pg ws = fzL zs pg.toNat ws 8 :=
  ⟨by rw [fsH, if_pos h], by rw [fsP, if_pos h], by rw [fsZ, if_pos h]⟩
theorem fz_zero (zs : List Int) (p : Nat) (ws : List Int) : fzL zs p ws 0 = zs := by simp [fzL]
theorem fz_len (zs : List Int) (p : Nat) (ws : List Int) (j : Nat) (hz : zs.length = 64) (hp : p ≤ 7) (hw : ws.length = 8) (hj : j ≤ 8) : (fzL zs p ws j).length = 64 := by
  simp [fzL]
  omega
theorem fz_succ (zs : List Int) (p : Nat) (ws : List Int) (j : Nat) (hz : zs.length = 64) (hp : p ≤ 7) (hw : ws.length = 8) (hj : j < 8) : fzL zs p ws (j + 1) = (fzL zs p ws j).set (p * 8 + j) (ws.getD j 0) := by
  apply List.ext_getElem?
  intro i
  unfold fzL
  rw [List.getElem?_set]
  simp only [List.getElem?_append, List.length_append, List.length_take, List.length_drop, List.getElem?_take, List.getElem?_drop]
  have a1 : min (p * 8) zs.length = p * 8 := by omega
  have a2 : min (j + 1) ws.length = j + 1 := by omega
  have a3 : min j ws.length = j := by omega
  rw [a1, a2, a3]
  by_cases h1 : i < p * 8
  · have n : ¬ (p * 8 + j = i) := by omega
    simp only [if_pos h1, if_neg n]
  · by_cases h2 : p * 8 + j = i
    · subst h2
      have e : p * 8 + j - p * 8 = j := by omega
      have l : p * 8 + j < p * 8 + (j + (zs.length - (p * 8 + j))) := by omega
      have jj : j < j + 1 := by omega
      have jw : j < ws.length := by omega
      simp only [if_neg h1, e, if_pos jj, if_pos l, if_true]
      simp [List.getD, jw]
    · by_cases h3 : i - p * 8 < j
      · have h4 : i - p * 8 < j + 1 := by omega
        simp only [if_neg h1, if_neg h2, if_pos h3, if_pos h4]
      · have h4 : ¬ i - p * 8 < j + 1 := by omega
        simp only [if_neg h1, if_neg h2, if_neg h3, if_neg h4]
        congr 1
        omega
theorem sm_voidF (w : World) (base : Nat) : Sm w base (.slice none 0 0) (.slice none 0 0) (.slice none 0 0) (.slice none 0 0) (.slice none 0 0) (.slice none 0 0) voidH [] [] :=
  ⟨⟨Nums.nil _ _, Nums.nil _ _, Nums.nil _ _, Nums.nil _ _⟩, ⟨.inl rfl, .inl rfl, .inl rfl, .inl rfl, .inl rfl, .inl rfl⟩, Prs.nil _ _ _, Nums.nil _ _, .inl rfl, .inl rfl, .inl rfl, .inl rfl⟩
theorem fs_sol (H : Ht) (ps : List (Int × Int)) (zs : List Int) (h : sfV H ps zs = 0) : Hok H ∧ zs.length = 64 ∧ ps.length = 8 := by
  unfold sfV at h
  split at h
  · rename_i h1
    split at h
    · rename_i h2
      split at h
      · rename_i h3
        obtain ⟨_, _, hl, ho⟩ := pgsV_zero h2
        unfold wholeS at h3
        simp at h3
        exact ⟨hok_of h1, h3.1, hl⟩
      · cases h
    · rename_i h2
      exact absurd h h2
  · rename_i h1
    exact absurd h h1
theorem twelveF {v : World} {q : Nat} {t : TypeId} {z0 z1 z2 z3 z4 z5 z6 z7 z8 z9 z10 z11 : Value} (h : Vb v q #[z0, z1, z2, z3, z4, z5, z6, z7, z8, z9, z10, z11] t) (u0 u1 u2 u3 u4 u5 u6 u7 u8 u9 u10 u11 : Value) :
    Vb ((((((((((((v.setCell ⟨q, 0, none⟩ u0).setCell ⟨q, 1, none⟩ u1).setCell ⟨q, 2, none⟩ u2).setCell ⟨q, 3, none⟩ u3).setCell ⟨q, 4, none⟩ u4).setCell ⟨q, 5, none⟩ u5).setCell ⟨q, 6, none⟩ u6).setCell ⟨q, 7, none⟩ u7).setCell ⟨q, 8, none⟩ u8).setCell ⟨q, 9, none⟩ u9).setCell ⟨q, 10, none⟩ u10).setCell ⟨q, 11, none⟩ u11) q #[u0, u1, u2, u3, u4, u5, u6, u7, u8, u9, u10, u11] t ∧ Mq (fun k => k = q) v ((((((((((((v.setCell ⟨q, 0, none⟩ u0).setCell ⟨q, 1, none⟩ u1).setCell ⟨q, 2, none⟩ u2).setCell ⟨q, 3, none⟩ u3).setCell ⟨q, 4, none⟩ u4).setCell ⟨q, 5, none⟩ u5).setCell ⟨q, 6, none⟩ u6).setCell ⟨q, 7, none⟩ u7).setCell ⟨q, 8, none⟩ u8).setCell ⟨q, 9, none⟩ u9).setCell ⟨q, 10, none⟩ u10).setCell ⟨q, 11, none⟩ u11) := by
  have h0 : Vb (v.setCell ⟨q, 0, none⟩ u0) q #[u0, z1, z2, z3, z4, z5, z6, z7, z8, z9, z10, z11] t := h.set 0 u0
  have h1 : Vb ((v.setCell ⟨q, 0, none⟩ u0).setCell ⟨q, 1, none⟩ u1) q #[u0, u1, z2, z3, z4, z5, z6, z7, z8, z9, z10, z11] t := h0.set 1 u1
  have h2 : Vb (((v.setCell ⟨q, 0, none⟩ u0).setCell ⟨q, 1, none⟩ u1).setCell ⟨q, 2, none⟩ u2) q #[u0, u1, u2, z3, z4, z5, z6, z7, z8, z9, z10, z11] t := h1.set 2 u2
  have h3 : Vb ((((v.setCell ⟨q, 0, none⟩ u0).setCell ⟨q, 1, none⟩ u1).setCell ⟨q, 2, none⟩ u2).setCell ⟨q, 3, none⟩ u3) q #[u0, u1, u2, u3, z4, z5, z6, z7, z8, z9, z10, z11] t := h2.set 3 u3
  have h4 : Vb (((((v.setCell ⟨q, 0, none⟩ u0).setCell ⟨q, 1, none⟩ u1).setCell ⟨q, 2, none⟩ u2).setCell ⟨q, 3, none⟩ u3).setCell ⟨q, 4, none⟩ u4) q #[u0, u1, u2, u3, u4, z5, z6, z7, z8, z9, z10, z11] t := h3.set 4 u4
  have h5 : Vb ((((((v.setCell ⟨q, 0, none⟩ u0).setCell ⟨q, 1, none⟩ u1).setCell ⟨q, 2, none⟩ u2).setCell ⟨q, 3, none⟩ u3).setCell ⟨q, 4, none⟩ u4).setCell ⟨q, 5, none⟩ u5) q #[u0, u1, u2, u3, u4, u5, z6, z7, z8, z9, z10, z11] t := h4.set 5 u5
  have h6 : Vb (((((((v.setCell ⟨q, 0, none⟩ u0).setCell ⟨q, 1, none⟩ u1).setCell ⟨q, 2, none⟩ u2).setCell ⟨q, 3, none⟩ u3).setCell ⟨q, 4, none⟩ u4).setCell ⟨q, 5, none⟩ u5).setCell ⟨q, 6, none⟩ u6) q #[u0, u1, u2, u3, u4, u5, u6, z7, z8, z9, z10, z11] t := h5.set 6 u6
  have h7 : Vb ((((((((v.setCell ⟨q, 0, none⟩ u0).setCell ⟨q, 1, none⟩ u1).setCell ⟨q, 2, none⟩ u2).setCell ⟨q, 3, none⟩ u3).setCell ⟨q, 4, none⟩ u4).setCell ⟨q, 5, none⟩ u5).setCell ⟨q, 6, none⟩ u6).setCell ⟨q, 7, none⟩ u7) q #[u0, u1, u2, u3, u4, u5, u6, u7, z8, z9, z10, z11] t := h6.set 7 u7
  have h8 : Vb (((((((((v.setCell ⟨q, 0, none⟩ u0).setCell ⟨q, 1, none⟩ u1).setCell ⟨q, 2, none⟩ u2).setCell ⟨q, 3, none⟩ u3).setCell ⟨q, 4, none⟩ u4).setCell ⟨q, 5, none⟩ u5).setCell ⟨q, 6, none⟩ u6).setCell ⟨q, 7, none⟩ u7).setCell ⟨q, 8, none⟩ u8) q #[u0, u1, u2, u3, u4, u5, u6, u7, u8, z9, z10, z11] t := h7.set 8 u8
  have h9 : Vb ((((((((((v.setCell ⟨q, 0, none⟩ u0).setCell ⟨q, 1, none⟩ u1).setCell ⟨q, 2, none⟩ u2).setCell ⟨q, 3, none⟩ u3).setCell ⟨q, 4, none⟩ u4).setCell ⟨q, 5, none⟩ u5).setCell ⟨q, 6, none⟩ u6).setCell ⟨q, 7, none⟩ u7).setCell ⟨q, 8, none⟩ u8).setCell ⟨q, 9, none⟩ u9) q #[u0, u1, u2, u3, u4, u5, u6, u7, u8, u9, z10, z11] t := h8.set 9 u9
  have h10 : Vb (((((((((((v.setCell ⟨q, 0, none⟩ u0).setCell ⟨q, 1, none⟩ u1).setCell ⟨q, 2, none⟩ u2).setCell ⟨q, 3, none⟩ u3).setCell ⟨q, 4, none⟩ u4).setCell ⟨q, 5, none⟩ u5).setCell ⟨q, 6, none⟩ u6).setCell ⟨q, 7, none⟩ u7).setCell ⟨q, 8, none⟩ u8).setCell ⟨q, 9, none⟩ u9).setCell ⟨q, 10, none⟩ u10) q #[u0, u1, u2, u3, u4, u5, u6, u7, u8, u9, u10, z11] t := h9.set 10 u10
  have h11 : Vb ((((((((((((v.setCell ⟨q, 0, none⟩ u0).setCell ⟨q, 1, none⟩ u1).setCell ⟨q, 2, none⟩ u2).setCell ⟨q, 3, none⟩ u3).setCell ⟨q, 4, none⟩ u4).setCell ⟨q, 5, none⟩ u5).setCell ⟨q, 6, none⟩ u6).setCell ⟨q, 7, none⟩ u7).setCell ⟨q, 8, none⟩ u8).setCell ⟨q, 9, none⟩ u9).setCell ⟨q, 10, none⟩ u10).setCell ⟨q, 11, none⟩ u11) q #[u0, u1, u2, u3, u4, u5, u6, u7, u8, u9, u10, u11] t := h10.set 11 u11
  exact ⟨h11, (((((((((((((Mq.refl (fun k => k = q) v).set ⟨q, 0, none⟩ u0 rfl).set ⟨q, 1, none⟩ u1 rfl).set ⟨q, 2, none⟩ u2 rfl).set ⟨q, 3, none⟩ u3 rfl).set ⟨q, 4, none⟩ u4 rfl).set ⟨q, 5, none⟩ u5 rfl).set ⟨q, 6, none⟩ u6 rfl).set ⟨q, 7, none⟩ u7 rfl).set ⟨q, 8, none⟩ u8 rfl).set ⟨q, 9, none⟩ u9 rfl).set ⟨q, 10, none⟩ u10 rfl).set ⟨q, 11, none⟩ u11 rfl)⟩
end Go.Proofs.Ytijajemalokgjaa
