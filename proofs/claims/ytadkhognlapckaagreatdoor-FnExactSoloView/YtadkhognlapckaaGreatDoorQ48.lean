/- Texts of this seat, joined. -/
import Derived.Test.YtadkhognlapckaaGreatDoorQ37
import Derived.Test.YtadkhognlapckaaGreatDoorQ45
import Derived.Test.YtadkhognlapckaaGreatDoorQ46
import Derived.Test.YtadkhognlapckaaGreatDoorQ47
namespace Go.Proofs.YtadkhognlapckaaGreatDoor
open Go.RowKit
set_option linter.unusedVariables false

def upL (n : Nat) : List Int := (List.range n).map fun k : Nat => (k : Int)
theorem up_succ (n : Nat) : upL (n + 1) = upL n ++ [(n : Int)] := by simp [upL, List.range_succ]
theorem up_len (n : Nat) : (upL n).length = n := by simp [upL]
theorem up_in (n : Nat) : ∀ x ∈ upL n, 0 ≤ x ∧ x < n := by
  intro x hx
  simp only [upL, List.mem_map, List.mem_range] at hx
  obtain ⟨k, hk, rfl⟩ := hx
  omega
def svC (P : Plc) (g : Int) (H : Ht) (ps : List (Int × Int)) (zs : List Int) : Int := if askV P g = 0 then sfV H ps zs else askV P g
def svH (P : Plc) (g : Int) (H : Ht) (ps : List (Int × Int)) (zs : List Int) : Ht := if svC P g H ps zs = 0 then H else voidH
def svO (P : Plc) (g : Int) (H : Ht) (ps : List (Int × Int)) (zs : List Int) : List Int := if svC P g H ps zs = 0 then wordsL zs (upL (P.own.getD g.toNat []).length) else []
def svG (P : Plc) (g : Int) (H : Ht) (ps : List (Int × Int)) (zs : List Int) : List Int := if svC P g H ps zs = 0 then wordsL zs (gvL false g P.lanes) else []
theorem sv_not (P : Plc) (g : Int) (H : Ht) (ps : List (Int × Int)) (zs : List Int) (h : svC P g H ps zs ≠ 0) : svH P g H ps zs = voidH ∧ svO P g H ps zs = [] ∧ svG P g H ps zs = [] :=
  ⟨by rw [svH, if_neg h], by rw [svO, if_neg h], by rw [svG, if_neg h]⟩
theorem sv_yes (P : Plc) (g : Int) (H : Ht) (ps : List (Int × Int)) (zs : List Int) (h : svC P g H ps zs = 0) : svH P g H ps zs = H ∧ svO P g H ps zs = wordsL zs (upL (P.own.getD g.toNat []).length) ∧ svG P g H ps zs = wordsL zs (gvL false g P.lanes) :=
  ⟨by rw [svH, if_pos h], by rw [svO, if_pos h], by rw [svG, if_pos h]⟩
theorem gv_in (g : Int) (ls : List Ln) (h : ∀ l ∈ ls, LnOk l) : ∀ x ∈ gvL false g ls, 0 ≤ x ∧ x < 8 := by
  intro x hx
  unfold gvL at hx
  rw [List.mem_flatMap] at hx
  obtain ⟨l, hl, hx⟩ := hx
  split at hx
  · have := (h l hl).2.1
    simp only [List.mem_singleton] at hx
    subst hx
    show 0 ≤ l.af ∧ l.af < 8
    omega
  · cases hx
theorem sv_pol (P : Plc) (g : Nat) (h : askV P (g : Int) = 0) : g < P.own.length ∧ (1 ≤ (P.own.getD g []).length ∧ (P.own.getD g []).length ≤ 5) ∧ P.lanes.length ≤ 4 ∧ (∀ x ∈ gvL false (g : Int) P.lanes, 0 ≤ x ∧ x < 8) ∧ (gvL false (g : Int) P.lanes).length ≤ 4 := by
  have hp := ask_pf P _ h
  have hg := ask_guest P _ h
  have hb := pf_parts P hp
  have ho := pf_own P hp g (by omega)
  refine ⟨by omega, ⟨ho.1, ho.2.1⟩, hb.2.2.2.2.1, gv_in _ _ (lanes_ok P.own P.lanes [] hb.2.2.1).1.1, ?_⟩
  have := gv_len false (g : Int) P.lanes
  have := hb.2.2.2.2.1
  omega
theorem sv_sol (H : Ht) (ps : List (Int × Int)) (zs : List Int) (h : sfV H ps zs = 0) : Hok H ∧ zs.length = 64 := by
  unfold sfV at h
  split at h
  · rename_i h1
    split at h
    · split at h
      · rename_i h3
        unfold wholeS at h3
        simp at h3
        exact ⟨hok_of h1, h3.1⟩
      · cases h
    · rename_i h2
      exact absurd h h2
  · rename_i h1
    exact absurd h h1
end Go.Proofs.YtadkhognlapckaaGreatDoor
