/- Texts of this seat, joined. -/
import Derived.Test.YtilbandlachdbaaGreatDoorQ39
import Derived.Test.YtilbandlachdbaaGreatDoorQ40
import Derived.Test.YtilbandlachdbaaGreatDoorQ46
import Derived.Test.YtilbandlachdbaaGreatDoorQ47
import Derived.Test.YtilbandlachdbaaGreatDoorQ48
namespace Go.Proofs.YtilbandlachdbaaGreatDoor
open Go.RowKit
set_option linter.unusedVariables false

def upL (n : Nat) : List Int := (List.range n).map fun k : Nat => (k : Int)
theorem up_succ (n : Nat) : upL (n + 1) = upL n ++ [(n : Int)] := by simp [upL, List.range_succ]
theorem up_len (n : Nat) : (upL n).length = n := by simp [upL]
theorem up_in (n : Nat) : ∀ x ∈ upL n, 0 ≤ x ∧ x < n := by
  intro x hx
  simp only [upL, List.mem_map, List.mem_range] at hx
  obtain ⟨k, hk, rfl⟩ := hx
  omega
def svC (P : Plc) (g : Int) (H : Ht) (ps : List (Int × Int)) (zs : List Int) : Int := if askV P g = 0 then sfV H ps zs else askV P g
def svH (P : Plc) (g : Int) (H : Ht) (ps : List (Int × Int)) (zs : List Int) : Ht := if svC P g H ps zs = 0 then H else voidH
def svO (P : Plc) (g : Int) (H : Ht) (ps : List (Int × Int)) (zs : List Int) : List Int := if svC P g H ps zs = 0 then wordsL zs (upL (P.own.getD g.toNat []).length) else []
def svG (P : Plc) (g : Int) (H : Ht) (ps : List (Int × Int)) (zs : List Int) : List Int := if svC P g H ps zs = 0 then wordsL zs (gvL false g P.lanes) else []
theorem sv_not (P : Plc) (g : Int) (H : Ht) (ps : List (Int × Int)) (zs : List Int) (h : svC P g H ps zs ≠ 0) : svH P g H ps zs = voidH ∧ svO P g H ps zs = [] ∧ svG P g H ps zs = [] :=
  ⟨by rw [svH, if_neg h], by rw [svO, if_neg h], by rw [svG, if_neg h]⟩
theorem sv_yes (P : Plc) (g : Int) (H : Ht) (ps : List (Int × Int)) (zs : List Int) (h : svC P g H ps zs = 0) : svH P g H ps zs = H ∧ svO P g H ps zs = wordsL zs (upL (P.own.getD g.toNat []).length) ∧ svG P g H ps zs = wordsL zs (gvL false g P.lanes) :=
  ⟨by rw [svH, if_pos h], by rw [svO, if_pos h], by rw [svG, if_pos h]⟩
theorem vm_void (w : World) (base : Nat) : Vm w base (.slice none 0 0) (.slice none 0 0) (.slice none 0 0) (.slice none 0 0) (.slice none 0 0) (.slice none 0 0) voidH [] [] :=
  ⟨⟨Nums.nil _ _, Nums.nil _ _, Nums.nil _ _, Nums.nil _ _⟩, ⟨.inl rfl, .inl rfl, .inl rfl, .inl rfl, .inl rfl, .inl rfl⟩, Nums.nil _ _, Nums.nil _ _, .inl rfl, .inl rfl, .inl rfl, .inl rfl, .inl rfl, .inl rfl, .inl rfl, .inl rfl, .inl rfl⟩
theorem sv_some {w : World} {base n cap : Nat} {a : Option Addr} {zs : List Int} (h : Nums w base (.slice a n cap) zs) (hz : 0 < zs.length) : ∃ gm, a = some ⟨gm, 0, none⟩ := by
  obtain ⟨a', cap', e, _, _, hg⟩ := h.shape
  cases e
  exact hg hz
theorem gv_in (g : Int) (ls : List Ln) (h : ∀ l ∈ ls, LnOk l) : ∀ x ∈ gvL false g ls, 0 ≤ x ∧ x < 8 := by
  intro x hx
  unfold gvL at hx
  rw [List.mem_flatMap] at hx
  obtain ⟨l, hl, hx⟩ := hx
  split at hx
  · have := (h l hl).2.1
    simp only [List.mem_singleton] at hx
    subst hx
    show 0 ≤ l.af ∧ l.af < 8
    omega
  · cases hx
theorem sv_pol (P : Plc) (g : Nat) (h : askV P (g : Int) = 0) : g < P.own.length ∧ (1 ≤ (P.own.getD g []).length ∧ (P.own.getD g []).length ≤ 5) ∧ P.lanes.length ≤ 4 ∧ (∀ x ∈ gvL false (g : Int) P.lanes, 0 ≤ x ∧ x < 8) ∧ (gvL false (g : Int) P.lanes).length ≤ 4 := by
  have hp := ask_pf P _ h
  have hg := ask_guest P _ h
  have hb := pf_parts P hp
  have ho := pf_own P hp g (by omega)
  refine ⟨by omega, ⟨ho.1, ho.2.1⟩, hb.2.2.2.2.1, gv_in _ _ (lanes_ok P.own P.lanes [] hb.2.2.1).1.1, ?_⟩
  have := gv_len false (g : Int) P.lanes
  have := hb.2.2.2.2.1
  omega
theorem sv_sol (H : Ht) (ps : List (Int × Int)) (zs : List Int) (h : sfV H ps zs = 0) : Hok H ∧ zs.length = 64 := by
  unfold sfV at h
  split at h
  · rename_i h1
    split at h
    · split at h
      · rename_i h3
        unfold wholeS at h3
        simp at h3
        exact ⟨hok_of h1, h3.1⟩
      · cases h
    · rename_i h2
      exact absurd h h2
  · rename_i h1
    exact absurd h h1
theorem twelveV {v : World} {q : Nat} {t : TypeId} {z0 z1 z2 z3 z4 z5 z6 z7 z8 z9 z10 z11 : Value} (h : Vb v q #[z0, z1, z2, z3, z4, z5, z6, z7, z8, z9, z10, z11] t) (u0 u1 u2 u3 u4 u5 u6 u7 u8 u9 u10 u11 : Value) :
    Vb ((((((((((((v.setCell ⟨q, 0, none⟩ u0).setCell ⟨q, 1, none⟩ u1).setCell ⟨q, 2, none⟩ u2).setCell ⟨q, 3, none⟩ u3).setCell ⟨q, 4, none⟩ u4).setCell ⟨q, 5, none⟩ u5).setCell ⟨q, 6, none⟩ u6).setCell ⟨q, 7, none⟩ u7).setCell ⟨q, 8, none⟩ u8).setCell ⟨q, 9, none⟩ u9).setCell ⟨q, 10, none⟩ u10).setCell ⟨q, 11, none⟩ u11) q #[u0, u1, u2, u3, u4, u5, u6, u7, u8, u9, u10, u11] t ∧ Mq (fun k => k = q) v ((((((((((((v.setCell ⟨q, 0, none⟩ u0).setCell ⟨q, 1, none⟩ u1).setCell ⟨q, 2, none⟩ u2).setCell ⟨q, 3, none⟩ u3).setCell ⟨q, 4, none⟩ u4).setCell ⟨q, 5, none⟩ u5).setCell ⟨q, 6, none⟩ u6).setCell ⟨q, 7, none⟩ u7).setCell ⟨q, 8, none⟩ u8).setCell ⟨q, 9, none⟩ u9).setCell ⟨q, 10, none⟩ u10).setCell ⟨q, 11, none⟩ u11) := by
  have h0 : Vb (v.setCell ⟨q, 0, none⟩ u0) q #[u0, z1, z2, z3, z4, z5, z6, z7, z8, z9, z10, z11] t := h.set 0 u0
  have h1 : Vb ((v.setCell ⟨q, 0, none⟩ u0).setCell ⟨q, 1, none⟩ u1) q #[u0, u1, z2, z3, z4, z5, z6, z7, z8, z9, z10, z11] t := h0.set 1 u1
  have h2 : Vb (((v.setCell ⟨q, 0, none⟩ u0).setCell ⟨q, 1, none⟩ u1).setCell ⟨q, 2, none⟩ u2) q #[u0, u1, u2, z3, z4, z5, z6, z7, z8, z9, z10, z11] t := h1.set 2 u2
  have h3 : Vb ((((v.setCell ⟨q, 0, none⟩ u0).setCell ⟨q, 1, none⟩ u1).setCell ⟨q, 2, none⟩ u2).setCell ⟨q, 3, none⟩ u3) q #[u0, u1, u2, u3, z4, z5, z6, z7, z8, z9, z10, z11] t := h2.set 3 u3
  have h4 : Vb (((((v.setCell ⟨q, 0, none⟩ u0).setCell ⟨q, 1, none⟩ u1).setCell ⟨q, 2, none⟩ u2).setCell ⟨q, 3, none⟩ u3).setCell ⟨q, 4, none⟩ u4) q #[u0, u1, u2, u3, u4, z5, z6, z7, z8, z9, z10, z11] t := h3.set 4 u4
  have h5 : Vb ((((((v.setCell ⟨q, 0, none⟩ u0).setCell ⟨q, 1, none⟩ u1).setCell ⟨q, 2, none⟩ u2).setCell ⟨q, 3, none⟩ u3).setCell ⟨q, 4, none⟩ u4).setCell ⟨q, 5, none⟩ u5) q #[u0, u1, u2, u3, u4, u5, z6, z7, z8, z9, z10, z11] t := h4.set 5 u5
  have h6 : Vb (((((((v.setCell ⟨q, 0, none⟩ u0).setCell ⟨q, 1, none⟩ u1).setCell ⟨q, 2, none⟩ u2).setCell ⟨q, 3, none⟩ u3).setCell ⟨q, 4, none⟩ u4).setCell ⟨q, 5, none⟩ u5).setCell ⟨q, 6, none⟩ u6) q #[u0, u1, u2, u3, u4, u5, u6, z7, z8, z9, z10, z11] t := h5.set 6 u6
  have h7 : Vb ((((((((v.setCell ⟨q, 0, none⟩ u0).setCell ⟨q, 1, none⟩ u1).setCell ⟨q, 2, none⟩ u2).setCell ⟨q, 3, none⟩ u3).setCell ⟨q, 4, none⟩ u4).setCell ⟨q, 5, none⟩ u5).setCell ⟨q, 6, none⟩ u6).setCell ⟨q, 7, none⟩ u7) q #[u0, u1, u2, u3, u4, u5, u6, u7, z8, z9, z10, z11] t := h6.set 7 u7
  have h8 : Vb (((((((((v.setCell ⟨q, 0, none⟩ u0).setCell ⟨q, 1, none⟩ u1).setCell ⟨q, 2, none⟩ u2).setCell ⟨q, 3, none⟩ u3).setCell ⟨q, 4, none⟩ u4).setCell ⟨q, 5, none⟩ u5).setCell ⟨q, 6, none⟩ u6).setCell ⟨q, 7, none⟩ u7).setCell ⟨q, 8, none⟩ u8) q #[u0, u1, u2, u3, u4, u5, u6, u7, u8, z9, z10, z11] t := h7.set 8 u8
  have h9 : Vb ((((((((((v.setCell ⟨q, 0, none⟩ u0).setCell ⟨q, 1, none⟩ u1).setCell ⟨q, 2, none⟩ u2).setCell ⟨q, 3, none⟩ u3).setCell ⟨q, 4, none⟩ u4).setCell ⟨q, 5, none⟩ u5).setCell ⟨q, 6, none⟩ u6).setCell ⟨q, 7, none⟩ u7).setCell ⟨q, 8, none⟩ u8).setCell ⟨q, 9, none⟩ u9) q #[u0, u1, u2, u3, u4, u5, u6, u7, u8, u9, z10, z11] t := h8.set 9 u9
  have h10 : Vb (((((((((((v.setCell ⟨q, 0, none⟩ u0).setCell ⟨q, 1, none⟩ u1).setCell ⟨q, 2, none⟩ u2).setCell ⟨q, 3, none⟩ u3).setCell ⟨q, 4, none⟩ u4).setCell ⟨q, 5, none⟩ u5).setCell ⟨q, 6, none⟩ u6).setCell ⟨q, 7, none⟩ u7).setCell ⟨q, 8, none⟩ u8).setCell ⟨q, 9, none⟩ u9).setCell ⟨q, 10, none⟩ u10) q #[u0, u1, u2, u3, u4, u5, u6, u7, u8, u9, u10, z11] t := h9.set 10 u10
  have h11 : Vb ((((((((((((v.setCell ⟨q, 0, none⟩ u0).setCell ⟨q, 1, none⟩ u1).setCell ⟨q, 2, none⟩ u2).setCell ⟨q, 3, none⟩ u3).setCell ⟨q, 4, none⟩ u4).setCell ⟨q, 5, none⟩ u5).setCell ⟨q, 6, none⟩ u6).setCell ⟨q, 7, none⟩ u7).setCell ⟨q, 8, none⟩ u8).setCell ⟨q, 9, none⟩ u9).setCell ⟨q, 10, none⟩ u10).setCell ⟨q, 11, none⟩ u11) q #[u0, u1, u2, u3, u4, u5, u6, u7, u8, u9, u10, u11] t := h10.set 11 u11
  exact ⟨h11, (((((((((((((Mq.refl (fun k => k = q) v).set ⟨q, 0, none⟩ u0 rfl).set ⟨q, 1, none⟩ u1 rfl).set ⟨q, 2, none⟩ u2 rfl).set ⟨q, 3, none⟩ u3 rfl).set ⟨q, 4, none⟩ u4 rfl).set ⟨q, 5, none⟩ u5 rfl).set ⟨q, 6, none⟩ u6 rfl).set ⟨q, 7, none⟩ u7 rfl).set ⟨q, 8, none⟩ u8 rfl).set ⟨q, 9, none⟩ u9 rfl).set ⟨q, 10, none⟩ u10 rfl).set ⟨q, 11, none⟩ u11 rfl)⟩

end Go.Proofs.YtilbandlachdbaaGreatDoor
