/- Free pages: the program and the model. -/
import Derived.Test.YtmboobbfoffafaaDoorFrl
import Derived.Test.YtmboobbfoffafaaDoorPfv
namespace Go.Proofs.YtmboobbfoffafaaDoor
open Go.RowKit
set_option linter.unusedVariables false

theorem pgs_clo (l : Ln) (gp : Nat) (pg : Int) (w : World) (hgp : w.cell? ⟨gp, 0, none⟩ = some (.int .i64 pg)) :
    Calls Tryd.prog 67 #[.agg #[.int .i64 l.fr, .int .i64 l.dst, .int .i64 l.pg, .int .i64 l.af, .int .i64 l.tt], .pointer (some ⟨gp, 0, none⟩)] w fun e w' => e = .returned (.bool (decide (l.pg = pg))) ∧ Below w.heap.size w w' := by
  obtain ⟨a, b, c, d, z⟩ := l
  have bgp : gp < w.heap.size := block_of_cell hgp
  simp only
  by_cases h1 : c = pg <;>
    (go_enter Tryd.func67, Tryd.ntmps67
     go_wp2_with fail
     go_ret
     exact ⟨by simp [*], by first | exact al (Below.refl _ _) _ | (simp [*]; exact al (Below.refl _ _) _)⟩)

set_option maxHeartbeats 1000000 in
theorem pgs_idx (a : Option Addr) (n c : Nat) (gp : Nat) (pg : Int) (rs : List Ln) (w : World) (h : IsLanes w a n c rs) (hgp : w.cell? ⟨gp, 0, none⟩ = some (.int .i64 pg)) :
    Calls Tryd.prog 81 #[.slice a n c, .func (.func 67) #[] #[.pointer (some ⟨gp, 0, none⟩)]] w fun e w' => (∃ v : Int, e = .returned (.int .i64 v) ∧ Hid (0 ≤ v ↔ rs.any (fun l => decide (l.pg = pg)) = true)) ∧ Below w.heap.size w w' := by
  have HL : Hid (n = rs.length) := h.len
  have HO : Hid (IsLanes w a n c rs) := h
  have Hgp : Hid (w.cell? ⟨gp, 0, none⟩ = some (.int .i64 pg)) := hgp
  have hmax : (n : Int) ≤ 9223372036854775807 := by have := h.cap; unfold maxLen at this; omega
  clear h hgp
  go_enter Tryd.func81, Tryd.ntmps81
  go_wp2_with fail
  go_loopw [8] (fun c wq => ∃ j : Nat, j ≤ n ∧ c = .int .i64 j ∧ Below w.heap.size w wq ∧ Hid (rs.any (fun l => decide (l.pg = pg)) = (rs.drop j).any (fun l => decide (l.pg = pg)))) (fun c _ => n - (intOf c).toNat)
  case atStart => exact ⟨0, Nat.zero_le _, rfl, Below.refl _ _, by show _ = _; simp⟩
  case round =>
    obtain ⟨j, hj, rfl, hB, hI⟩ := hrel
    have HB : Hid (Below _ w wr) := hB
    by_cases hlt : j < n
    · obtain ⟨x, rfl, k0, k1, k2, k3, k4⟩ := (HO.out.stay hB).at j hlt
      have hJ : (j : Int) < (n : Int) := by omega
      have HLT : Hid (j < n) := hlt
      have ST : Hid (_ = _) := any_step lz rs (fun l => decide (l.pg = pg)) j (by have := HL.out; omega)
      obtain ⟨O, hO⟩ : ∃ O, rs.getD j lz = O := ⟨_, rfl⟩
      rw [hO] at k0 k1 k2 k3 k4 ST
      clear hO hlt hB
      have CL := fun w1 (b1 : Below w.heap.size w w1) => pgs_clo O _ _ w1 (cell_keep b1 Hgp.out)
      have hPO : Hid (∀ q : Bool, q = (decide (O.pg = pg)) → (rs.drop j).any (fun l => decide (l.pg = pg)) = (q || (rs.drop (j + 1)).any (fun l => decide (l.pg = pg)))) := fun q hq => by rw [ST.out, hq]
      generalize hp : (decide (O.pg = pg)) = pv at *
      cases pv
      · have S2 : Hid ((rs.drop j).any (fun l => decide (l.pg = pg)) = (rs.drop (j + 1)).any (fun l => decide (l.pg = pg))) := by show _ = _; rw [hPO.out false rfl]; rfl
        clear hp ST hPO
        go_wp2_with (go_at_call 67; refine (CL _ HB.out).mono ?_; rintro e w2 ⟨rfl, b2⟩; have B2 : Hid (Below _ w w2) := on HB.out b2; clear b2 CL)
        go_roundw
        case rel => exact ⟨j + 1, by have := HLT.out; omega, by go_num, B2.out, by show _ = _; rw [hI.out, S2.out]⟩
        case measure => have := HLT.out; simp [intOf]; omega
      · have S2 : Hid ((rs.drop j).any (fun l => decide (l.pg = pg)) = true) := by show _ = _; rw [hPO.out true rfl]; rfl
        clear hp ST hPO
        go_wp2_with (go_at_call 67; refine (CL _ HB.out).mono ?_; rintro e w2 ⟨rfl, b2⟩; have B2 : Hid (Below _ w w2) := on HB.out b2; clear b2 CL)
        go_ret
        exact ⟨⟨_, rfl, show _ ↔ _ from ⟨fun _ => by rw [hI.out, S2.out], fun _ => by omega⟩⟩, B2.out⟩
    · have hJ : ¬ (j : Int) < (n : Int) := by omega
      have HJ : Hid (j = n) := by show _ = _; omega
      clear hlt hB
      go_wp2_with fail
      go_ret
      have F := hI.out
      rw [List.drop_of_length_le (by have := HL.out; have := HJ.out; omega)] at F
      have G : (0 ≤ (-1 : Int) ↔ rs.any (fun l => decide (l.pg = pg)) = true) := by rw [F]; simp
      exact ⟨⟨_, rfl, by first | exact G | (simp only [List.any_eq_true, decide_eq_true_eq] at G; exact G)⟩, HB.out⟩
theorem pgs_has (a : Option Addr) (n c : Nat) (gp : Nat) (pg : Int) (rs : List Ln) (w : World) (h : IsLanes w a n c rs) (hgp : w.cell? ⟨gp, 0, none⟩ = some (.int .i64 pg)) :
    Calls Tryd.prog 66 #[.slice a n c, .func (.func 67) #[] #[.pointer (some ⟨gp, 0, none⟩)]] w fun e w' => e = .returned (.bool (rs.any (fun l => decide (l.pg = pg)))) ∧ Below w.heap.size w w' := by
  have HR : Hid (IsLanes w a n c rs) := h
  have Hgp : Hid (w.cell? ⟨gp, 0, none⟩ = some (.int .i64 pg)) := hgp
  clear h hgp
  go_enter Tryd.func66, Tryd.ntmps66
  go_wp2_with (go_at_call 81; refine (pgs_idx _ _ _ _ _ _ _ HR.out Hgp.out).mono ?_; rintro e w1 ⟨⟨v, rfl, hv⟩, b1⟩)
  go_ret
  refine ⟨congrArg (fun b => Ending.returned (.bool b)) (by have h := hv.out; apply Bool.eq_iff_iff.2; simp only [decide_eq_true_eq]; exact h), b1⟩

theorem i_lanePg (a0 a1 a2 a3 : Option Addr) (n0 c0 n1 c1 n2 c2 n3 c3 : Nat) (P : Plc) (pg : Int) (w : World) (h : Pl w a0 n0 c0 a1 n1 c1 a2 n2 c2 a3 n3 c3 P) :
    Calls Tryd.prog 48 #[.agg #[.slice a0 n0 c0, .slice a1 n1 c1, .slice a2 n2 c2, .slice a3 n3 c3], .int .i64 pg] w fun e w' => e = .returned (.bool (laneHas P.lanes pg)) ∧ Below w.heap.size w w' := by
  generalize hW : (w.alloc (.cells #[.slice a0 n0 c0, .slice a1 n1 c1, .slice a2 n2 c2, .slice a3 n3 c3] 38)).alloc (.cells #[.int .i64 pg] 2) = W
  have B0 : Hid (Below w.heap.size w W) := by show Below _ _ _; rw [← hW]; exact al (al (Below.refl _ _) _) _
  obtain ⟨s, hS⟩ : ∃ s, w.heap.size = s := ⟨_, rfl⟩
  have q1 : W.cell? ⟨s, 1, none⟩ = some (.slice a1 n1 c1) := by rw [← hW, ← hS]; exact cell_push _ (cell_new rfl)
  have z1 : s + 1 = (w.alloc (.cells #[.slice a0 n0 c0, .slice a1 n1 c1, .slice a2 n2 c2, .slice a3 n3 c3] 38)).heap.size := by rw [← hS]; simp
  have qf : W.cell? ⟨s + 1, 0, none⟩ = some (.int .i64 pg) := by rw [← hW, z1]; exact cell_new rfl
  have QF : Hid (W.cell? ⟨s + 1, 0, none⟩ = some (.int .i64 pg)) := qf
  have HP : Hid (IsLanes W a1 n1 c1 P.lanes) := h.lanes.stay B0.out
  clear h z1 qf
  go_enter Tryd.func48, Tryd.ntmps48
  go_wp2_with fail
  clear hW hS
  refine (pgs_has _ _ _ _ _ _ _ HP.out QF.out).mono ?_
  rintro e w2 ⟨rfl, b2⟩
  have B2 : Hid (Below w.heap.size w w2) := on B0.out b2
  have E : Hid ((P.lanes.any fun l => decide (l.pg = pg)) = laneHas P.lanes pg) := rfl
  rw [E.out]
  clear b2
  go_wp2_with fail
  go_ret
  exact ⟨rfl, B2.out⟩

theorem freeUp_yes (P : Plc) (j : Nat) (h1 : ownerFrom 0 P.own j = -1) (h2 : laneHas P.lanes j = false) : freeUp P (j + 1) = freeUp P j ++ [(j : Int)] := by
  rw [freeUp, isFree, h1, h2]; simp
theorem freeUp_no1 (P : Plc) (j : Nat) (h1 : ¬ ownerFrom 0 P.own j = -1) : freeUp P (j + 1) = freeUp P j := by
  rw [freeUp, isFree, decide_eq_false h1]; simp
theorem freeUp_no2 (P : Plc) (j : Nat) (h2 : laneHas P.lanes j = true) : freeUp P (j + 1) = freeUp P j := by
  rw [freeUp, isFree, h2]; simp

/-- What one round leaves: the list that grew stands in the answer under way. -/
structure GrewJ (w : World) (O : Nat) (z : Value) (L : List Int) (w' : World) : Prop where
  prs : Nums w' (O + 1) z L
  o0 : w'.cell? ⟨O, 0, none⟩ = some (.int .i64 0)
  o1 : w'.cell? ⟨O, 1, none⟩ = some z
  g1 : w'.frozen? ⟨O, 1, none⟩ = false
  below : Below w.heap.size w w'
theorem GrewJ.keep {w w1 w2 : World} {O : Nat} {z : Value} {L : List Int} (h : GrewJ w O z L w1) (b : Below w1.heap.size w1 w2) : GrewJ w O z L w2 := by
  have s1 : O < w1.heap.size := block_of_cell h.o0
  exact ⟨h.prs.keep b, cell_keep b h.o0, cell_keep b h.o1, by rw [b.frozen (p := ⟨O, 1, none⟩) s1]; exact h.g1, on h.below b⟩
theorem GrewJ.grown {w w1 w2 : World} {O : Nat} {z z' : Value} {L : List Int} {r : Int} (h : GrewJ w O z L w1) (hp : Nums w2 (O + 1) z' (L ++ [r])) (g : w1.grownBy w2 z.ownBlock) (hS : w.heap.size ≤ O) :
    GrewJ w O z' (L ++ [r]) (w2.setCell ⟨O, 1, none⟩ z') ∧ w2.cell? ⟨O, 1, none⟩ = some z ∧ w2.frozen? ⟨O, 1, none⟩ = false := by
  have s1 : O < w1.heap.size := block_of_cell h.o0
  have n1 : some O ≠ z.ownBlock := own_not h.prs _ (.inl (by omega))
  have o0 := cell_grown g h.o0 n1
  have o1 := cell_grown g h.o1 n1
  have g1 : w2.frozen? ⟨O, 1, none⟩ = false := by rw [frozen_grownI (p := ⟨O, 1, none⟩) g s1 n1]; exact h.g1
  have b2 : Below w.heap.size w w2 := h.below.grown g h.below.size (fun k hk => by have := (h.prs.lt k hk).1; omega)
  refine ⟨⟨hp.put _ _ (fun e => own_not hp O (.inl (by omega)) e.symm), by rw [World.cell?_setCell_other _ _ _ _ (by intro e; cases e)]; exact o0, by rw [World.cell?_setCell_same _ _ _ o1], by rw [World.frozen?_setCell]; exact g1, b2.setCell hS _⟩, o1, g1⟩
end Go.Proofs.YtmboobbfoffafaaDoor
