/- Texts of this seat, joined. -/
import Derived.Test.YtadkhognlapckaaGreatDoorQ30
import Derived.Test.YtadkhognlapckaaGreatDoorQ37
import Derived.Test.YtadkhognlapckaaGreatDoorQ39
import Derived.Test.YtadkhognlapckaaGreatDoorQ45
import Derived.Test.YtadkhognlapckaaGreatDoorQ48
namespace Go.Proofs.YtadkhognlapckaaGreatDoor
open Go.RowKit
set_option linter.unusedVariables false

theorem sm_mkv {lo hi : Nat} {w w' : World} {base : Nat} {r c i o l m : Value} {H : Ht} {ps : List (Int × Int)} {zs : List Int} (s : Sm w base r c i o l m H ps zs) (g : Mk lo hi w w') (hn : ∀ k, OwnS r c i o l m k → k < lo ∨ hi ≤ k) : Sm w' base r c i o l m H ps zs :=
  ⟨⟨g.row s.h.r fun k e => hn k (.inl (.inl e)), g.row s.h.c fun k e => hn k (.inl (.inr (.inl e))), g.row s.h.i fun k e => hn k (.inl (.inr (.inr (.inl e)))), g.row s.h.o fun k e => hn k (.inl (.inr (.inr (.inr e))))⟩, s.a, g.row s.pl fun k e => hn k (.inr (.inl e)), g.row s.mm fun k e => hn k (.inr (.inr e)), s.rm, s.cm, s.im, s.om⟩
theorem sm_own {w : World} {base : Nat} {r c i o l m : Value} {H : Ht} {ps : List (Int × Int)} {zs : List Int} (s : Sm w base r c i o l m H ps zs) (k : Nat) (e : OwnS r c i o l m k) : base ≤ k ∧ k < w.heap.size := by
  rcases e with e | e | e
  · exact s.h.own k e
  · exact s.pl.lt k e
  · exact s.mm.lt k e
theorem sv_small (P : Plc) (gu : Int) (H : Ht) (ps : List (Int × Int)) (zs : List Int) : totV (svH P gu H ps zs) (svO P gu H ps zs) (svG P gu H ps zs) ≤ 2000 := by
  by_cases hc : svC P gu H ps zs = 0
  · have hu := sv_yes P gu H ps zs hc
    rw [hu.1, hu.2.1, hu.2.2]
    by_cases ha : askV P gu = 0
    · have hs : sfV H ps zs = 0 := by rw [svC, if_pos ha] at hc; exact hc
      obtain ⟨g, rfl⟩ := Int.eq_ofNat_of_zero_le (ask_guest P gu ha).1
      have h1 := sv_pol P g ha
      have h2 := sv_sol H ps zs hs
      have h3 := wordsL_le zs (upL (P.own.getD g []).length)
      have h4 := wordsL_le zs (gvL false (g : Int) P.lanes)
      rw [up_len] at h3
      rw [Int.toNat_natCast]
      have := h2.1.r16
      have := h2.1.c11
      have := h2.1.i40
      have := h2.1.o40
      unfold totV totH
      omega
    · rw [svC, if_neg ha] at hc
      exact absurd hc ha
  · have hu := sv_not P gu H ps zs hc
    rw [hu.1, hu.2.1, hu.2.2]
    simp [totV, totH, voidH]
end Go.Proofs.YtadkhognlapckaaGreatDoor
