/- Texts of this seat, joined. -/
import Derived.Deep.RegionWith
import Derived.Test.YtdhdfopkcpkbeaaGreatDoorQ07
import Derived.Test.YtdhdfopkcpkbeaaGreatDoorQ22
import Derived.Test.YtdhdfopkcpkbeaaGreatDoorQ23
import Derived.Test.YtdhdfopkcpkbeaaGreatDoorQ24
import Derived.Test.YtdhdfopkcpkbeaaGreatDoorQ25
import Derived.Test.YtdhdfopkcpkbeaaGreatDoorQ37
import Derived.Test.YtdhdfopkcpkbeaaGreatDoorQ38
import Derived.Test.YtdhdfopkcpkbeaaGreatDoorQ39
import Derived.Test.YtdhdfopkcpkbeaaGreatDoorQ40
namespace Go.Proofs.YtdhdfopkcpkbeaaGreatDoor
open Go.RowKit
set_option linter.unusedVariables false

theorem dup_app (seen a b : List Int) : dupF seen (a ++ b) = (dupF seen a || dupF (seen ++ a) b) := by
  induction a generalizing seen with
  | nil => simp [dupF]
  | cons z t ih =>
    rw [List.cons_append, dupF, dupF]
    by_cases hz : z ∈ seen
    · rw [if_pos hz, if_pos hz]; rfl
    · rw [if_neg hz, if_neg hz, ih]
      simp
theorem dup_seen (seen a : List Int) (h : dupF seen a = false) : ∀ x ∈ a, x ∉ seen := by
  induction a generalizing seen with
  | nil => intro x hx; cases hx
  | cons z t ih =>
    rw [dupF] at h
    split at h
    · cases h
    · rename_i hz
      intro x hx
      rcases List.mem_cons.1 hx with rfl | hx
      · exact hz
      · exact fun k => ih _ h x hx (List.mem_append.2 (.inl k))
theorem owner_at (own : List (List Int)) : ∀ (seen : List Int) (i : Int) (g : Nat) (x : Int), dupF seen own.flatten = false → g < own.length → x ∈ own.getD g [] → ownerFrom i own x = i + g := by
  induction own with
  | nil => intro seen i g x _ hg; simp at hg
  | cons o t ih =>
    intro seen i g x hd hg hx
    rw [List.flatten_cons, dup_app] at hd
    simp only [Bool.or_eq_false_iff] at hd
    cases g with
    | zero =>
      have hx' : x ∈ o := by simpa using hx
      rw [ownerFrom, if_pos hx']
      omega
    | succ g =>
      have hx' : x ∈ t.getD g [] := by simpa using hx
      have hg' : g < t.length := by simpa using hg
      have hf : x ∈ t.flatten := by
        rw [List.getD, List.getElem?_eq_getElem hg'] at hx'
        exact List.mem_flatten.2 ⟨_, List.getElem_mem hg', by simpa using hx'⟩
      have hn : x ∉ o := fun k => dup_seen _ _ hd.2 x hf (List.mem_append.2 (.inr k))
      rw [ownerFrom, if_neg hn, ih _ (i + 1) g x hd.2 hg' hx']
      omega
/-- An owned page has its owner. -/
theorem pf_owner (P : Plc) (h : pfV P = 0) (g : Nat) (hg : g < P.own.length) (x : Int) (hx : x ∈ P.own.getD g []) : ownerFrom 0 P.own x = g := by
  have h2 := (or_zero (or_zero h).1).2
  unfold g2V at h2
  split at h2
  · cases h2
  · rename_i hd
    have := owner_at P.own [] 0 g x (by simpa using hd) hg hx
    omega
end Go.Proofs.YtdhdfopkcpkbeaaGreatDoor
namespace Go.Proofs.YtdhdfopkcpkbeaaGreatDoor
open Go.RowKit
set_option linter.unusedVariables false

theorem pgs_clo (l : Ln) (gp : Nat) (pg : Int) (w : World) (hgp : w.cell? ⟨gp, 0, none⟩ = some (.int .i64 pg)) :
    Calls Tryz.prog 64 #[.agg #[.int .i64 l.fr, .int .i64 l.dst, .int .i64 l.pg, .int .i64 l.af, .int .i64 l.tt], .pointer (some ⟨gp, 0, none⟩)] w fun e w' => e = .returned (.bool (decide (l.pg = pg))) ∧ Below w.heap.size w w' := by
  obtain ⟨a, b, c, d, z⟩ := l
  have bgp : gp < w.heap.size := block_of_cell hgp
  simp only
  by_cases h1 : c = pg <;>
    (go_enter Tryz.func64, Tryz.ntmps64
     go_wp2_with fail
     go_ret
     exact ⟨by simp [*], by first | exact al (Below.refl _ _) _ | (simp [*]; exact al (Below.refl _ _) _)⟩)

set_option maxHeartbeats 1000000 in
theorem pgs_idx (a : Option Addr) (n c : Nat) (gp : Nat) (pg : Int) (rs : List Ln) (w : World) (h : IsLanes w a n c rs) (hgp : w.cell? ⟨gp, 0, none⟩ = some (.int .i64 pg)) :
    Calls Tryz.prog 86 #[.slice a n c, .func (.func 64) #[] #[.pointer (some ⟨gp, 0, none⟩)]] w fun e w' => (∃ v : Int, e = .returned (.int .i64 v) ∧ Hid (0 ≤ v ↔ rs.any (fun l => decide (l.pg = pg)) = true)) ∧ Below w.heap.size w w' := by
  have HL : Hid (n = rs.length) := h.len
  have HO : Hid (IsLanes w a n c rs) := h
  have Hgp : Hid (w.cell? ⟨gp, 0, none⟩ = some (.int .i64 pg)) := hgp
  have hmax : (n : Int) ≤ 9223372036854775807 := by have := h.cap; unfold maxLen at this; omega
  clear h hgp
  go_enter Tryz.func86, Tryz.ntmps86
  go_wp2_with fail
  go_loopw [8] (fun c wq => ∃ j : Nat, j ≤ n ∧ c = .int .i64 j ∧ Below w.heap.size w wq ∧ Hid (rs.any (fun l => decide (l.pg = pg)) = (rs.drop j).any (fun l => decide (l.pg = pg)))) (fun c _ => n - (intOf c).toNat)
  case atStart => exact ⟨0, Nat.zero_le _, rfl, Below.refl _ _, by show _ = _; simp⟩
  case round =>
    obtain ⟨j, hj, rfl, hB, hI⟩ := hrel
    have HB : Hid (Below _ w wr) := hB
    by_cases hlt : j < n
    · obtain ⟨x, rfl, k0, k1, k2, k3, k4⟩ := (HO.out.stay hB).at j hlt
      have hJ : (j : Int) < (n : Int) := by omega
      have HLT : Hid (j < n) := hlt
      have ST : Hid (_ = _) := any_step lz rs (fun l => decide (l.pg = pg)) j (by have := HL.out; omega)
      obtain ⟨O, hO⟩ : ∃ O, rs.getD j lz = O := ⟨_, rfl⟩
      rw [hO] at k0 k1 k2 k3 k4 ST
      clear hO hlt hB
      have CL := fun w1 (b1 : Below w.heap.size w w1) => pgs_clo O _ _ w1 (cell_keep b1 Hgp.out)
      have hPO : Hid (∀ q : Bool, q = (decide (O.pg = pg)) → (rs.drop j).any (fun l => decide (l.pg = pg)) = (q || (rs.drop (j + 1)).any (fun l => decide (l.pg = pg)))) := fun q hq => by rw [ST.out, hq]
      generalize hp : (decide (O.pg = pg)) = pv at *
      cases pv
      · have S2 : Hid ((rs.drop j).any (fun l => decide (l.pg = pg)) = (rs.drop (j + 1)).any (fun l => decide (l.pg = pg))) := by show _ = _; rw [hPO.out false rfl]; rfl
        clear hp ST hPO
        go_wp2_with (go_at_call 64; refine (CL _ HB.out).mono ?_; rintro e w2 ⟨rfl, b2⟩; have B2 : Hid (Below _ w w2) := on HB.out b2; clear b2 CL)
        go_roundw
        case rel => exact ⟨j + 1, by have := HLT.out; omega, by go_num, B2.out, by show _ = _; rw [hI.out, S2.out]⟩
        case measure => have := HLT.out; simp [intOf]; omega
      · have S2 : Hid ((rs.drop j).any (fun l => decide (l.pg = pg)) = true) := by show _ = _; rw [hPO.out true rfl]; rfl
        clear hp ST hPO
        go_wp2_with (go_at_call 64; refine (CL _ HB.out).mono ?_; rintro e w2 ⟨rfl, b2⟩; have B2 : Hid (Below _ w w2) := on HB.out b2; clear b2 CL)
        go_ret
        exact ⟨⟨_, rfl, show _ ↔ _ from ⟨fun _ => by rw [hI.out, S2.out], fun _ => by omega⟩⟩, B2.out⟩
    · have hJ : ¬ (j : Int) < (n : Int) := by omega
      have HJ : Hid (j = n) := by show _ = _; omega
      clear hlt hB
      go_wp2_with fail
      go_ret
      have F := hI.out
      rw [List.drop_of_length_le (by have := HL.out; have := HJ.out; omega)] at F
      have G : (0 ≤ (-1 : Int) ↔ rs.any (fun l => decide (l.pg = pg)) = true) := by rw [F]; simp
      exact ⟨⟨_, rfl, by first | exact G | (simp only [List.any_eq_true, decide_eq_true_eq] at G; exact G)⟩, HB.out⟩
theorem pgs_has (a : Option Addr) (n c : Nat) (gp : Nat) (pg : Int) (rs : List Ln) (w : World) (h : IsLanes w a n c rs) (hgp : w.cell? ⟨gp, 0, none⟩ = some (.int .i64 pg)) :
    Calls Tryz.prog 63 #[.slice a n c, .func (.func 64) #[] #[.pointer (some ⟨gp, 0, none⟩)]] w fun e w' => e = .returned (.bool (rs.any (fun l => decide (l.pg = pg)))) ∧ Below w.heap.size w w' := by
  have HR : Hid (IsLanes w a n c rs) := h
  have Hgp : Hid (w.cell? ⟨gp, 0, none⟩ = some (.int .i64 pg)) := hgp
  clear h hgp
  go_enter Tryz.func63, Tryz.ntmps63
  go_wp2_with (go_at_call 86; refine (pgs_idx _ _ _ _ _ _ _ HR.out Hgp.out).mono ?_; rintro e w1 ⟨⟨v, rfl, hv⟩, b1⟩)
  go_ret
  refine ⟨congrArg (fun b => Ending.returned (.bool b)) (by have h := hv.out; apply Bool.eq_iff_iff.2; simp only [decide_eq_true_eq]; exact h), b1⟩

theorem i_lanePg (a0 a1 a2 a3 : Option Addr) (n0 c0 n1 c1 n2 c2 n3 c3 : Nat) (P : Plc) (pg : Int) (w : World) (h : Pl w a0 n0 c0 a1 n1 c1 a2 n2 c2 a3 n3 c3 P) :
    Calls Tryz.prog 37 #[.agg #[.slice a0 n0 c0, .slice a1 n1 c1, .slice a2 n2 c2, .slice a3 n3 c3], .int .i64 pg] w fun e w' => e = .returned (.bool (laneHas P.lanes pg)) ∧ Below w.heap.size w w' := by
  generalize hW : (w.alloc (.cells #[.slice a0 n0 c0, .slice a1 n1 c1, .slice a2 n2 c2, .slice a3 n3 c3] 29)).alloc (.cells #[.int .i64 pg] 2) = W
  have B0 : Hid (Below w.heap.size w W) := by show Below _ _ _; rw [← hW]; exact al (al (Below.refl _ _) _) _
  obtain ⟨s, hS⟩ : ∃ s, w.heap.size = s := ⟨_, rfl⟩
  have q1 : W.cell? ⟨s, 1, none⟩ = some (.slice a1 n1 c1) := by rw [← hW, ← hS]; exact cell_push _ (cell_new rfl)
  have z1 : s + 1 = (w.alloc (.cells #[.slice a0 n0 c0, .slice a1 n1 c1, .slice a2 n2 c2, .slice a3 n3 c3] 29)).heap.size := by rw [← hS]; simp
  have qf : W.cell? ⟨s + 1, 0, none⟩ = some (.int .i64 pg) := by rw [← hW, z1]; exact cell_new rfl
  have QF : Hid (W.cell? ⟨s + 1, 0, none⟩ = some (.int .i64 pg)) := qf
  have HP : Hid (IsLanes W a1 n1 c1 P.lanes) := h.lanes.stay B0.out
  clear h z1 qf
  go_enter Tryz.func37, Tryz.ntmps37
  go_wp2_with fail
  clear hW hS
  refine (pgs_has _ _ _ _ _ _ _ HP.out QF.out).mono ?_
  rintro e w2 ⟨rfl, b2⟩
  have B2 : Hid (Below w.heap.size w w2) := on B0.out b2
  have E : Hid ((P.lanes.any fun l => decide (l.pg = pg)) = laneHas P.lanes pg) := rfl
  rw [E.out]
  clear b2
  go_wp2_with fail
  go_ret
  exact ⟨rfl, B2.out⟩

theorem freeUp_yes (P : Plc) (j : Nat) (h1 : ownerFrom 0 P.own j = -1) (h2 : laneHas P.lanes j = false) : freeUp P (j + 1) = freeUp P j ++ [(j : Int)] := by
  rw [freeUp, isFree, h1, h2]; simp
theorem freeUp_no1 (P : Plc) (j : Nat) (h1 : ¬ ownerFrom 0 P.own j = -1) : freeUp P (j + 1) = freeUp P j := by
  rw [freeUp, isFree, decide_eq_false h1]; simp
theorem freeUp_no2 (P : Plc) (j : Nat) (h2 : laneHas P.lanes j = true) : freeUp P (j + 1) = freeUp P j := by
  rw [freeUp, isFree, h2]; simp

/-- What one round leaves: the list that grew stands in the answer under way. -/
structure GrewJ (w : World) (O : Nat) (z : Value) (L : List Int) (w' : World) : Prop where
  prs : Nums w' (O + 1) z L
  o0 : w'.cell? ⟨O, 0, none⟩ = some (.int .i64 0)
  o1 : w'.cell? ⟨O, 1, none⟩ = some z
  g1 : w'.frozen? ⟨O, 1, none⟩ = false
  below : Below w.heap.size w w'
theorem GrewJ.keep {w w1 w2 : World} {O : Nat} {z : Value} {L : List Int} (h : GrewJ w O z L w1) (b : Below w1.heap.size w1 w2) : GrewJ w O z L w2 := by
  have s1 : O < w1.heap.size := block_of_cell h.o0
  exact ⟨h.prs.keep b, cell_keep b h.o0, cell_keep b h.o1, by rw [b.frozen (p := ⟨O, 1, none⟩) s1]; exact h.g1, on h.below b⟩
theorem GrewJ.grown {w w1 w2 : World} {O : Nat} {z z' : Value} {L : List Int} {r : Int} (h : GrewJ w O z L w1) (hp : Nums w2 (O + 1) z' (L ++ [r])) (g : w1.grownBy w2 z.ownBlock) (hS : w.heap.size ≤ O) :
    GrewJ w O z' (L ++ [r]) (w2.setCell ⟨O, 1, none⟩ z') ∧ w2.cell? ⟨O, 1, none⟩ = some z ∧ w2.frozen? ⟨O, 1, none⟩ = false := by
  have s1 : O < w1.heap.size := block_of_cell h.o0
  have n1 : some O ≠ z.ownBlock := own_not h.prs _ (.inl (by omega))
  have o0 := cell_grown g h.o0 n1
  have o1 := cell_grown g h.o1 n1
  have g1 : w2.frozen? ⟨O, 1, none⟩ = false := by rw [frozen_grownI (p := ⟨O, 1, none⟩) g s1 n1]; exact h.g1
  have b2 : Below w.heap.size w w2 := h.below.grown g h.below.size (fun k hk => by have := (h.prs.lt k hk).1; omega)
  refine ⟨⟨hp.put _ _ (fun e => own_not hp O (.inl (by omega)) e.symm), by rw [World.cell?_setCell_other _ _ _ _ (by intro e; cases e)]; exact o0, by rw [World.cell?_setCell_same _ _ _ o1], by rw [World.frozen?_setCell]; exact g1, b2.setCell hS _⟩, o1, g1⟩
end Go.Proofs.YtdhdfopkcpkbeaaGreatDoor
namespace Go.Proofs.YtdhdfopkcpkbeaaGreatDoor
open Go.RowKit
set_option linter.unusedVariables false

theorem pageV_own (ow : List Int) (ls : List Ln) (g : Int) (k : Nat) (h : k < ow.length) : pageV ow ls g k = (ow.getD k 0, 7) := by rw [pageV, if_pos h]
theorem pageV_not (ow : List Int) (ls : List Ln) (g : Int) (k : Nat) (h : ¬ k < ow.length) : pageV ow ls g k = firstM g k ls := by rw [pageV, if_neg h]
theorem match_one (g k : Int) (l : Ln) (h1 : l.fr = g) (h2 : l.af = k) : matchL g k l = some (l.pg, 3) := by unfold matchL; rw [if_pos ⟨h1, h2⟩]
theorem match_other (g k : Int) (l : Ln) (h : ¬ (l.fr = g ∧ l.af = k)) (h1 : l.dst = g) (h2 : l.tt = k) : matchL g k l = some (l.pg, 1) := by unfold matchL; rw [if_neg h, if_pos ⟨h1, h2⟩]
theorem match_none (g k : Int) (l : Ln) (h : ¬ (l.fr = g ∧ l.af = k)) (h1 : ¬ (l.dst = g ∧ l.tt = k)) : matchL g k l = none := by unfold matchL; rw [if_neg h, if_neg h1]

theorem res_alloc {w : World} {s : Nat} (a b : Value) (o : Obj) (h : Rs w s) : (((w.setCell ⟨s + 1, 0, none⟩ a).setCell ⟨s + 1, 1, none⟩ b).alloc o).cell? ⟨s + 1, 0, none⟩ = some a ∧ (((w.setCell ⟨s + 1, 0, none⟩ a).setCell ⟨s + 1, 1, none⟩ b).alloc o).cell? ⟨s + 1, 1, none⟩ = some b := by
  have h0 : (w.setCell ⟨s + 1, 0, none⟩ a).cell? ⟨s + 1, 0, none⟩ = some a := World.cell?_setCell_same _ _ _ h.1
  have h1 : (w.setCell ⟨s + 1, 0, none⟩ a).cell? ⟨s + 1, 1, none⟩ = some (.int .i64 0) := by rw [World.cell?_setCell_other _ _ _ _ (by intro e; cases e)]; exact h.2.1
  refine ⟨cell_push o ?_, cell_push o (World.cell?_setCell_same _ _ _ h1)⟩
  rw [World.cell?_setCell_other _ _ _ _ (by intro e; cases e)]
  exact h0

set_option maxRecDepth 20000 in
set_option maxHeartbeats 4000000 in
theorem i_pageAt (a0 a1 a2 a3 : Option Addr) (n0 c0 n1 c1 n2 c2 n3 c3 : Nat) (P : Plc) (g k : Nat) (w : World) (h : Pl w a0 n0 c0 a1 n1 c1 a2 n2 c2 a3 n3 c3 P) (hg : g < P.own.length) (hk : k < 8) :
    Calls Tryz.prog 45 #[.agg #[.slice a0 n0 c0, .slice a1 n1 c1, .slice a2 n2 c2, .slice a3 n3 c3], .int .i64 (g : Int), .int .i64 (k : Int)] w fun e w' => e = .returned (.agg #[.int .i64 (pageV (P.own.getD g []) P.lanes (g : Int) k).1, .int .i64 (pageV (P.own.getD g []) P.lanes (g : Int) k).2]) ∧ Below w.heap.size w w' := by
  generalize hW : ((w.alloc (.cells #[.slice a0 n0 c0, .slice a1 n1 c1, .slice a2 n2 c2, .slice a3 n3 c3] 29))).alloc (.cells #[.int .i64 0, .int .i64 0] 96) = W
  have B0 : Hid (Below w.heap.size w W) := by show Below _ _ _; rw [← hW]; exact al (al (Below.refl _ _) _) _
  obtain ⟨s, hS⟩ : ∃ s, w.heap.size = s := ⟨_, rfl⟩
  have HSs : Hid (w.heap.size = s) := hS
  have Q : Hid (W.cell? ⟨s, 0, none⟩ = some (.slice a0 n0 c0) ∧ W.cell? ⟨s, 1, none⟩ = some (.slice a1 n1 c1)) := by
    show _ ∧ _
    rw [← hW, ← hS]
    exact ⟨cell_push _ (cell_new rfl), cell_push _ (cell_new rfl)⟩
  have R : Hid (Rs W s) := by
    have z1 : s + 1 = ((w.alloc (.cells #[.slice a0 n0 c0, .slice a1 n1 c1, .slice a2 n2 c2, .slice a3 n3 c3] 29))).heap.size := by rw [← hS]; simp
    show Rs W s
    unfold Rs
    rw [← hW, z1]
    exact ⟨cell_new rfl, cell_new rfl, fz_new _ _ _ _, fz_new _ _ _ _, by simp⟩
  have HP : Hid (Pl W a0 n0 c0 a1 n1 c1 a2 n2 c2 a3 n3 c3 P) := h.stay B0.out
  have hgn : g < n0 := by have := h.own.len; omega
  have hgI : (g : Int) < (n0 : Int) := by omega
  have hn0 : (n0 : Int) ≤ 9223372036854775807 := by have := h.own.cap; unfold maxLen at this; omega
  have hmax1 : (n1 : Int) ≤ 9223372036854775807 := by have := h.lanes.cap; unfold maxLen at this; omega
  have HL1 : Hid (n1 = P.lanes.length) := h.lanes.len
  obtain ⟨x, b, l, c, rfl, k1, k2⟩ := HP.out.own.at g hgn
  have K1 : Hid (W.cell? (x.add g) = some (.slice b l c)) := k1
  have HN : Hid (IsNs W b l c (P.own.getD g [])) := k2
  have HNL : Hid (l = (P.own.getD g []).length) := k2.len
  have hl1 : (l : Int) ≤ 9223372036854775807 := by have := k2.cap; unfold maxLen at this; omega
  have hkI : (k : Int) < 8 := by omega
  clear h hg k2
  have q0 := Q.out.1
  have q1 := Q.out.2
  by_cases hkl : k < l
  · rcases HN.out with ⟨_, h1, _, _⟩ | ⟨y, rfl, h1, h2, h3, h4⟩
    · omega
    have d0 := h4 k hkl
    have hkL : (k : Int) < (l : Int) := by omega
    have PV : Hid (pageV (P.own.getD g []) P.lanes (g : Int) k = ((P.own.getD g []).getD k 0, 7)) := pageV_own _ _ _ _ (by have := HNL.out; omega)
    obtain ⟨r0, r1, f0, f1, lt⟩ := R.out
    generalize (P.own.getD g []).getD k 0 = zz at *
    clear h1 h2 h3 h4 hkl
    go_enter Tryz.func45, Tryz.ntmps45
    go_wp2_with fail
    clear hW hS
    exact bodyPost_ret (v := .agg #[.int .i64 zz, .int .i64 7]) (by simp [results, Tryz.results45, go_sem, r0, r1]) rfl ⟨by rw [PV.out], (B0.out.setCell (by have := HSs.out; show w.heap.size ≤ s + 1; omega) _).setCell (by have := HSs.out; show w.heap.size ≤ s + 1; omega) _⟩
  have hkL : ¬ (k : Int) < (l : Int) := by omega
  have PV : Hid (pageV (P.own.getD g []) P.lanes (g : Int) k = firstM (g : Int) (k : Int) P.lanes) := pageV_not _ _ _ _ (by have := HNL.out; omega)
  clear hkl
  go_enter Tryz.func45, Tryz.ntmps45
  go_wp2_with fail
  clear hW hS q0 q1 k1
  go_loopw [9, 27] (fun _ c wr => ∃ i : Nat, i ≤ n1 ∧ c = .int .i64 i ∧ Below W.heap.size W wr ∧ Hid (firstM (g : Int) (k : Int) P.lanes = firstM (g : Int) (k : Int) (P.lanes.drop i))) (fun _ c _ => n1 - (intOf c).toNat)
  case atStart => exact ⟨0, Nat.zero_le _, rfl, Below.refl _ _, by show _ = _; simp⟩
  case round =>
    obtain ⟨i, hi, rfl, hB, hI⟩ := hrel
    have HB : Hid (Below _ W wr) := hB
    have RK : Hid (Rs wr s) := R.out.keep hB
    obtain ⟨r0, r1, f0, f1, lt⟩ := R.out.keep hB
    by_cases hlt : i < n1
    · obtain ⟨xl, rfl, k0, k1, k2, k3, k4⟩ := (HP.out.lanes.stay hB).at i hlt
      have hJ : (i : Int) < (n1 : Int) := by omega
      have HLT : Hid (i < n1) := hlt
      have ST : Hid (_ = _) := firstM_step (g : Int) (k : Int) P.lanes i (by have := HL1.out; omega)
      obtain ⟨O, hO⟩ : ∃ O, P.lanes.getD i lz = O := ⟨_, rfl⟩
      rw [hO] at k0 k1 k2 k3 k4 ST
      clear hO hlt hB
      by_cases e1 : O.fr = (g : Int) ∧ O.af = (k : Int)
      · have S2 : Hid (firstM (g : Int) (k : Int) P.lanes = (O.pg, 3)) := by show _ = _; rw [hI.out, ST.out, match_one _ _ _ e1.1 e1.2]
        obtain ⟨e1, e2⟩ := e1
        obtain ⟨ofr, odst, opg, oaf, ott⟩ := O
        simp only at k0 k1 k2 k3 k4 e1 e2 S2
        subst e1 e2
        clear ST
        go_wp2_with fail
        exact bodyPost_ret (v := .agg #[.int .i64 opg, .int .i64 3]) (by simp [results, Tryz.results45, go_sem, res_alloc _ _ _ RK.out]) rfl ⟨by rw [PV.out, S2.out], al (((on B0.out HB.out).setCell (by have := HSs.out; show w.heap.size ≤ s + 1; omega) _).setCell (by have := HSs.out; show w.heap.size ≤ s + 1; omega) _) _⟩
      by_cases e2 : O.dst = (g : Int) ∧ O.tt = (k : Int)
      · have S2 : Hid (firstM (g : Int) (k : Int) P.lanes = (O.pg, 1)) := by show _ = _; rw [hI.out, ST.out, match_other _ _ _ e1 e2.1 e2.2]
        obtain ⟨e3, e4⟩ := e2
        obtain ⟨ofr, odst, opg, oaf, ott⟩ := O
        simp only at k0 k1 k2 k3 k4 e1 e3 e4 S2
        subst e3 e4
        clear ST
        by_cases e5 : ofr = (g : Int)
        · have e6 : ¬ oaf = (k : Int) := fun e => e1 ⟨e5, e⟩
          clear e1
          go_wp2_with fail
          exact bodyPost_ret (v := .agg #[.int .i64 opg, .int .i64 1]) (by simp [results, Tryz.results45, go_sem, res_alloc _ _ _ RK.out]) rfl ⟨by rw [PV.out, S2.out], al (((on B0.out HB.out).setCell (by have := HSs.out; show w.heap.size ≤ s + 1; omega) _).setCell (by have := HSs.out; show w.heap.size ≤ s + 1; omega) _) _⟩
        · clear e1
          go_wp2_with fail
          exact bodyPost_ret (v := .agg #[.int .i64 opg, .int .i64 1]) (by simp [results, Tryz.results45, go_sem, res_alloc _ _ _ RK.out]) rfl ⟨by rw [PV.out, S2.out], al (((on B0.out HB.out).setCell (by have := HSs.out; show w.heap.size ≤ s + 1; omega) _).setCell (by have := HSs.out; show w.heap.size ≤ s + 1; omega) _) _⟩
      have S2 : Hid (firstM (g : Int) (k : Int) P.lanes = firstM (g : Int) (k : Int) (P.lanes.drop (i + 1))) := by show _ = _; rw [hI.out, ST.out, match_none _ _ _ e1 e2]
      have BA := al HB.out (.cells #[.int .i64 O.fr, .int .i64 O.dst, .int .i64 O.pg, .int .i64 O.af, .int .i64 O.tt] 83)
      have BH : Hid (Below W.heap.size W _) := BA
      clear ST BA
      by_cases e5 : O.fr = (g : Int)
      · have e6 : ¬ O.af = (k : Int) := fun e => e1 ⟨e5, e⟩
        clear e1
        by_cases e7 : O.dst = (g : Int)
        · have e8 : ¬ O.tt = (k : Int) := fun e => e2 ⟨e7, e⟩
          clear e2
          go_wp2_with fail
          go_roundw
          case rel => exact ⟨i + 1, by have := HLT.out; omega, by go_num, by first | exact BH.out | (simp only [e5, e7]; exact al HB.out _) | exact al HB.out _, S2⟩
          case measure => have := HLT.out; simp [intOf]; omega
        · clear e2
          go_wp2_with fail
          go_roundw
          case rel => exact ⟨i + 1, by have := HLT.out; omega, by go_num, by first | exact BH.out | exact al HB.out _, S2⟩
          case measure => have := HLT.out; simp [intOf]; omega
      · clear e1
        by_cases e7 : O.dst = (g : Int)
        · have e8 : ¬ O.tt = (k : Int) := fun e => e2 ⟨e7, e⟩
          clear e2
          go_wp2_with fail
          go_roundw
          case rel => exact ⟨i + 1, by have := HLT.out; omega, by go_num, by first | exact BH.out | exact al HB.out _, S2⟩
          case measure => have := HLT.out; simp [intOf]; omega
        · clear e2
          go_wp2_with fail
          go_roundw
          case rel => exact ⟨i + 1, by have := HLT.out; omega, by go_num, by first | exact BH.out | exact al HB.out _, S2⟩
          case measure => have := HLT.out; simp [intOf]; omega
    · have hJ : ¬ (i : Int) < (n1 : Int) := by omega
      have HJ : Hid (i = n1) := by show _ = _; omega
      have S2 : Hid (firstM (g : Int) (k : Int) P.lanes = (-1, 0)) := by show _ = _; rw [hI.out, List.drop_of_length_le (by have := HL1.out; have := HJ.out; omega)]; rfl
      clear hlt hB
      go_wp2_with fail
      exact bodyPost_ret (v := .agg #[.int .i64 (-1), .int .i64 0]) (by simp [results, Tryz.results45, go_sem, r0, r1]) rfl ⟨by have e := PV.out; rw [S2.out] at e; first | rw [e] | (simp only [List.getD_eq_getElem?_getD] at e; rw [e]), ((on B0.out HB.out).setCell (by have := HSs.out; show w.heap.size ≤ s + 1; omega) _).setCell (by have := HSs.out; show w.heap.size ≤ s + 1; omega) _⟩

set_option maxRecDepth 20000 in
set_option maxHeartbeats 4000000 in
theorem i_pages0 (a0 a1 a2 a3 : Option Addr) (n0 c0 n1 c1 n2 c2 n3 c3 : Nat) (P : Plc) (gu : Int) (w : World) (h : Pl w a0 n0 c0 a1 n1 c1 a2 n2 c2 a3 n3 c3 P) (hgu : 0 ≤ gu ∧ gu < P.own.length) :
    Calls Tryz.prog 23 #[.agg #[.slice a0 n0 c0, .slice a1 n1 c1, .slice a2 n2 c2, .slice a3 n3 c3], .int .i64 gu] w fun e w' => ∃ v, e = .returned v ∧ Prs 96 w' w.heap.size v (pforL (P.own.getD gu.toNat []) P.lanes gu 8) ∧ Below w.heap.size w w' := by
  obtain ⟨g, rfl⟩ := Int.eq_ofNat_of_zero_le hgu.1
  have HGN : Hid (g < P.own.length) := by have := hgu.2; show _ < _; omega
  rw [Int.toNat_natCast]
  generalize hW : (w.alloc (.cells #[.slice a0 n0 c0, .slice a1 n1 c1, .slice a2 n2 c2, .slice a3 n3 c3] 29)) = W
  have B0 : Hid (Below w.heap.size w W) := by show Below _ _ _; rw [← hW]; exact al (Below.refl _ _) _
  obtain ⟨s, hS⟩ : ∃ s, w.heap.size = s := ⟨_, rfl⟩
  have Q : Hid (W.cell? ⟨s, 0, none⟩ = some (.slice a0 n0 c0) ∧ W.cell? ⟨s, 1, none⟩ = some (.slice a1 n1 c1) ∧ W.cell? ⟨s, 2, none⟩ = some (.slice a2 n2 c2) ∧ W.cell? ⟨s, 3, none⟩ = some (.slice a3 n3 c3)) := by
    show _ ∧ _
    rw [← hW, ← hS]
    exact ⟨cell_new rfl, cell_new rfl, cell_new rfl, cell_new rfl⟩
  have HP : Hid (Pl W a0 n0 c0 a1 n1 c1 a2 n2 c2 a3 n3 c3 P) := h.stay B0.out
  clear h hgu
  have SU := fun j => pforL_succ (P.own.getD g []) P.lanes (g : Int) j
  have LN := fun j => pforL_len (P.own.getD g []) P.lanes (g : Int) j
  have PA := fun j (hj : j < 8) w1 (b1 : Below W.heap.size W w1) => i_pageAt _ _ _ _ _ _ _ _ _ _ _ _ P g j w1 (HP.out.stay b1) HGN.out hj
  generalize hD : pforL (P.own.getD g []) P.lanes (g : Int) = D at *
  generalize hE : pageV (P.own.getD g []) P.lanes (g : Int) = E at *
  have D0 : Hid (D 0 = []) := by show _ = _; rw [← hD]; rfl
  clear hD hE
  have SUH : Hid (∀ j, D (j + 1) = D j ++ [((E j).1, (E j).2)]) := SU
  have LNH : Hid (∀ j, (D j).length = j) := LN
  clear SU LN
  go_enter Tryz.func23, Tryz.ntmps23
  go_wp2_with fail
  clear hW hS
  go_loopw [5, 6, 7] (fun v _ c wr => ∃ j : Nat, j ≤ 8 ∧ c = .int .i64 j ∧ Prs 96 wr W.heap.size v (D j) ∧ Below W.heap.size W wr) (fun _ _ c _ => 8 - (intOf c).toNat)
  case atStart => exact ⟨0, Nat.zero_le _, rfl, by rw [D0.out]; exact Prs.nil _ _ _, Below.refl _ _⟩
  case round =>
    obtain ⟨j, hj, rfl, hN, hB⟩ := hrel
    have HN : Hid (Prs _ wr _ _ (D j)) := hN
    have HB : Hid (Below _ W wr) := hB
    obtain ⟨ya, yc, hz, _, _, _⟩ := hN.shape
    generalize (D j).length = un at hz
    subst hz
    by_cases hlt : j < 8
    · have hJ : (j : Int) < 8 := by omega
      have HLT : Hid (j < 8) := hlt
      have q0 := cell_keep hB Q.out.1
      have q1 := cell_keep hB Q.out.2.1
      have q2 := cell_keep hB Q.out.2.2.1
      have q3 := cell_keep hB Q.out.2.2.2
      have PJ := PA j hlt wr hB
      have S2 : Hid (D (j + 1) = D j ++ [((E j).1, (E j).2)]) := SUH.out j
      generalize (E j).1 = p1 at *
      generalize (E j).2 = p2 at *
      clear hN hB hlt PA
      go_wp2_with fail
      refine PJ.mono ?_
      rintro e w2 ⟨rfl, b2⟩
      have B2 : Hid (Below _ W w2) := on HB.out b2
      have N2 : Hid (Prs _ w2 _ _ (D j)) := HN.out.keep b2
      have SZ : Hid (W.heap.size ≤ w2.heap.size) := (on HB.out b2).size
      clear b2 PJ q0 q1 q2 q3
      go_wp2_with (at_builtin; refine wp_pair 47 96 Tryz.underlying47 info_page _ rfl _ _ rfl W.heap.size _ _ rfl (N2.out.keep (al (Below.refl _ _) _)) w2.heap.size p1 p2 rfl (cell_new rfl) (cell_new rfl) (by rw [LNH.out]; have := HLT.out; omega) (by have := SZ.out; simp; omega) ?_; intro v' w' hN' hG')
      have N' : Hid (Prs _ w' _ v' _) := hN'
      have B' : Hid (Below W.heap.size W w') := (al B2.out _).grown hG' (by have := SZ.out; simp; omega) (fun k hk => (N2.out.lt k hk).1)
      clear hN' hG'
      go_wp2_with fail
      go_roundw
      case rel => exact ⟨j + 1, by have := HLT.out; omega, by go_num, by rw [S2.out]; exact N'.out, B'.out⟩
      case measure => have := HLT.out; simp [intOf]; omega
    · have hJ : ¬ (j : Int) < 8 := by omega
      obtain rfl : j = 8 := by omega
      clear hN hB hlt PA
      go_wp2_with fail
      go_ret
      exact ⟨_, rfl, HN.out.mono B0.out.size, on B0.out HB.out⟩

end Go.Proofs.YtdhdfopkcpkbeaaGreatDoor
namespace Go.Proofs.YtdhdfopkcpkbeaaGreatDoor
open Go.RowKit
set_option linter.unusedVariables false

theorem wordsL_len (ms : List Int) (hm : ms.length = 192) : ∀ ps : List Int, (∀ x ∈ ps, 0 ≤ x ∧ x ≤ 23) → (wordsL ms ps).length = ps.length * 8
  | [], _ => by simp [wordsL]
  | p :: t, h => by
    have h1 := wordsL_len ms hm t (fun x hx => h x (List.mem_cons_of_mem _ hx))
    have h2 := h p (by simp)
    rw [wordsL, List.length_append, h1, eight_length ms 24 p.toNat (by omega) (by omega), List.length_cons]
    omega
def wordsC (P : Plc) (ms : List Int) (g : Int) : Int := if askV P g = 0 then (if wholeB ms = true then 0 else 1) else askV P g
def wordsZ (P : Plc) (ms : List Int) (g : Int) : List Int := if wordsC P ms g = 0 then wordsL ms (P.own.getD g.toNat []) else []
end Go.Proofs.YtdhdfopkcpkbeaaGreatDoor
namespace Go.Proofs.YtdhdfopkcpkbeaaGreatDoor
open Go.RowKit
set_option linter.unusedVariables false

theorem spec_wrap7 (n : Int) (w : World) : Calls Tryz.prog 54 #[.int .i64 n] w fun e w' => e = .returned (.int .i64 (wd n)) ∧ w' = w := by
  go_enter Tryz.func54, Tryz.ntmps54
  go_wp2
  go_ret
  exact ⟨rfl, rfl⟩

/-- One word of an image, laid into a memory. -/
def putW (ow img m : List Int) (i : Nat) : List Int := m.set ((ow.getD (i / 8) 0).toNat * 8 + i % 8) (wd (img.getD i 0))
def layM (ow img m : List Int) : Nat → List Int
  | 0 => m
  | i + 1 => putW ow img (layM ow img m i) i
theorem layM_len (ow img m : List Int) : ∀ i, (layM ow img m i).length = m.length
  | 0 => rfl
  | i + 1 => by rw [layM, putW, List.length_set, layM_len ow img m i]
/-- The first g images laid into a memory. -/
def allM (own iss : List (List Int)) (m : List Int) : Nat → List Int
  | 0 => m
  | g + 1 => layM (own.getD g []) (iss.getD g []) (allM own iss m g) (iss.getD g []).length
theorem allM_len (own iss : List (List Int)) (m : List Int) : ∀ g, (allM own iss m g).length = m.length
  | 0 => rfl
  | g + 1 => by rw [allM, layM_len, allM_len own iss m g]
def badAt (own iss : List (List Int)) (j : Nat) : Bool := decide ((own.getD j []).length * 8 < (iss.getD j []).length)
def sizesV (own iss : List (List Int)) : Nat → Int
  | 0 => 0
  | j + 1 => if sizesV own iss j = 0 then (if badAt own iss j = true then 8 else 0) else 8
theorem sizes_bad (own iss : List (List Int)) (j : Nat) (h : badAt own iss j = true) : ∀ n, j < n → sizesV own iss n = 8
  | 0, hn => absurd hn (Nat.not_lt_zero _)
  | n + 1, hn => by
    rw [sizesV]
    by_cases e : j = n
    · subst e
      rw [if_pos h]
      split <;> rfl
    · rw [sizes_bad own iss j h n (by omega)]
      rfl
theorem sizes_good (own iss : List (List Int)) : ∀ n, (∀ j, j < n → badAt own iss j = false) → sizesV own iss n = 0
  | 0, _ => rfl
  | n + 1, h => by
    rw [sizesV, sizes_good own iss n (fun j hj => h j (by omega)), if_pos rfl, h n (by omega)]
    rfl
theorem sizes_all (own iss : List (List Int)) : ∀ n, sizesV own iss n = 0 → ∀ j, j < n → badAt own iss j = false := by
  intro n h j hj
  cases hb : badAt own iss j with
  | false => rfl
  | true => rw [sizes_bad own iss j hb n hj] at h; cases h
def imgC (own iss : List (List Int)) : Int := if iss.length = own.length then sizesV own iss iss.length else 2
def loadC (P : Plc) (iss : List (List Int)) : Int := if pfV P = 0 then imgC P.own iss else pfV P
def loadZ (P : Plc) (iss : List (List Int)) : List Int := if loadC P iss = 0 then allM P.own iss (List.replicate 192 0) iss.length else []
theorem splice_nil (M : List Int) (b : Nat) : splice M b [] = M := by simp [splice]
theorem splice_set (M : List Int) (b : Nat) (x : Int) (xs : List Int) (y : Int) (h : b + (xs.length + 1) ≤ M.length) : (splice M b (x :: xs)).set b y = splice (M.set b y) (b + 1) xs := by
  unfold splice
  rw [List.set_append_right _ _ (by simp; omega), List.length_take, Nat.min_eq_left (by omega), Nat.sub_self, List.cons_append, List.set_cons_zero]
  have h1 : (M.set b y).take (b + 1) = M.take b ++ [y] := by
    rw [List.take_succ_eq_append_getElem (by simp; omega), List.take_set_of_le (Nat.le_refl _), List.getElem_set_self]
  have h2 : (M.set b y).drop (b + 1 + xs.length) = M.drop (b + (x :: xs).length) := by
    rw [List.drop_set_of_lt (by omega)]
    congr 1
    simp
    omega
  rw [h1, h2, List.append_assoc]
  rfl
theorem splice_get (M : List Int) (b : Nat) (x : Int) (xs : List Int) (h : b ≤ M.length) : (splice M b (x :: xs)).getD b 0 = x := by
  unfold splice
  rw [List.getD, List.getElem?_append_right (by rw [List.length_take]; omega), List.length_take, Nat.min_eq_left h, Nat.sub_self]
  rfl
theorem splice_map (M : List Int) (b : Nat) (xs : List Int) : splice (M.map (Value.int .i64)) b (xs.map (Value.int .i64)) = (splice M b xs).map (Value.int .i64) := by
  unfold splice
  rw [List.map_append, List.map_append, List.map_take, List.map_drop, List.length_map]
theorem splice_lenI (M : List Int) (b : Nat) (xs : List Int) (h : b + xs.length ≤ M.length) : (splice M b xs).length = M.length := by
  simp [splice]
  omega
theorem Pags.store {w : World} {base g n cap : Nat} {zs : List Int} (h : Pags w base (.slice (some ⟨g, 0, none⟩) n cap) n zs) (j : Nat) (x : Int) :
    Pags (w.setCell ⟨g, j, none⟩ (.int .i64 x)) base (.slice (some ⟨g, 0, none⟩) n cap) n (zs.set j x) := by
  have h1 := (World.ownsRow.stored h j (.int .i64 x)).1
  unfold Pags
  rw [List.map_set]
  exact h1
theorem Pags.free {w : World} {base g n cap : Nat} {zs : List Int} (h : Pags w base (.slice (some ⟨g, 0, none⟩) n cap) n zs) (i : Nat) : w.frozen? ⟨g, i, none⟩ = false := World.ownsRow.frozenAt h i
/-- A slice of numbers, cut from the front. -/
theorem IsNs.cut {w : World} {a : Option Addr} {n c : Nat} {zs : List Int} (h : IsNs w a n c zs) (k : Nat) (hk : k ≤ n) : ∀ x, a = some x → IsNs w (if c = k then some x else some (x.add k)) (n - k) (c - k) (zs.drop k) := by
  rintro x rfl
  rcases h with ⟨e, _⟩ | ⟨y, e, h1, h2, h3, h4⟩
  · cases e
  · cases e
    by_cases hc : c = k
    · rw [if_pos hc]
      exact .inr ⟨x, rfl, by omega, by omega, by simp; omega, fun i hi => by omega⟩
    · rw [if_neg hc]
      refine .inr ⟨x.add k, rfl, by omega, by omega, by simp; omega, fun i hi => ?_⟩
      rw [Go.Deep.add_add, h4 (k + i) (by omega)]
      simp [List.getD]
end Go.Proofs.YtdhdfopkcpkbeaaGreatDoor
namespace Go.Proofs.YtdhdfopkcpkbeaaGreatDoor
open Go.RowKit
set_option linter.unusedVariables false

set_option maxRecDepth 20000 in
set_option maxHeartbeats 8000000 in
theorem i_layImage (g b : Nat) (zs : List Int) (ap : Option Addr) (lp cp : Nat) (ow : List Int) (ai : Option Addr) (li ci : Nat) (img : List Int) (u w : World)
    (h : Pags w b (.slice (some ⟨g, 0, none⟩) 24 24) 24 zs) (hu : Below u.heap.size u w) (hub : u.heap.size ≤ b) (hp : IsNs u ap lp cp ow) (hi : IsNs u ai li ci img) (hr : ∀ x ∈ ow, 0 ≤ x ∧ x ≤ 23) (hl : ow.length ≤ 5) :
    Calls Tryz.prog 21 #[.slice (some ⟨g, 0, none⟩) 24 24, .slice ap lp cp, .slice ai li ci] w fun e w' => e = .returned (.tuple #[]) ∧ Pags w' b (.slice (some ⟨g, 0, none⟩) 24 24) 24 (layM ow img zs (min (8 * ow.length) img.length)) ∧ Below u.heap.size u w' := by
  have HZ : Hid (Pags w b (.slice (some ⟨g, 0, none⟩) 24 24) 24 zs) := h
  have HZL : Hid (zs.length = 192) := h.len
  have HGB : Hid (b ≤ g) := (h.lt g rfl).1
  have HUB : Hid (u.heap.size ≤ b) := hub
  have HU : Hid (Below u.heap.size u w) := hu
  have HP : Hid (IsNs u ap lp cp ow) := hp
  have HI : Hid (IsNs u ai li ci img) := hi
  have HR : Hid (∀ x ∈ ow, 0 ≤ x ∧ x ≤ 23) := hr
  have HLP : Hid (lp = ow.length ∧ lp ≤ 5) := ⟨hp.len, by have := hp.len; omega⟩
  have hlpI : (lp : Int) ≤ 5 := by have := HLP.out; omega
  have ML : Hid (∀ i, (layM ow img zs i).length = 192) := fun i => by rw [layM_len]; exact h.len
  have MS : Hid (∀ i, layM ow img zs (i + 1) = (layM ow img zs i).set ((ow.getD (i / 8) 0).toNat * 8 + i % 8) (wd (img.getD i 0))) := fun _ => rfl
  have M0 : Hid (layM ow img zs 0 = zs) := rfl
  generalize layM ow img zs = M at *
  clear h hu hub hp hi hr hl
  go_enter Tryz.func21, Tryz.ntmps21
  go_wp2_with fail
  go_loopw [2, 7, 8, 9, 12] (fun v _ _ _ c wr => ∃ j : Nat, j ≤ lp ∧ c = .int .i64 j ∧ (∃ a' n' c', v = .slice a' n' c' ∧ IsNs u a' n' c' (img.drop (8 * j))) ∧ Pags wr b (.slice (some ⟨g, 0, none⟩) 24 24) 24 (M (min (8 * j) img.length)) ∧ Below u.heap.size u wr) (fun _ _ _ _ c _ => lp - (intOf c).toNat)
  case atStart => exact ⟨0, Nat.zero_le _, rfl, ⟨_, _, _, rfl, HI.out⟩, by rw [Nat.mul_zero, Nat.zero_min, M0.out]; exact HZ.out, HU.out⟩
  case round =>
    obtain ⟨j, hj, rfl, ⟨a', n', c', rfl, hIm⟩, hN, hB⟩ := hrel
    have HIM : Hid (IsNs u a' n' c' (img.drop (8 * j))) := hIm
    have HN : Hid (Pags wr b _ 24 (M (min (8 * j) img.length))) := hN
    have HB : Hid (Below _ u wr) := hB
    by_cases hlt : j < lp
    · rcases HP.out.stay hB with ⟨_, e1, _, _⟩ | ⟨y, rfl, e1, e2, e3, e4⟩
      · omega
      have d0 := e4 j hlt
      have hJ : (j : Int) < (lp : Int) := by omega
      have HLT : Hid (j < lp) := hlt
      have hin := HR.out _ (getD_mem ow 0 j (by have := HLP.out; omega))
      obtain ⟨z, hz⟩ : ∃ z, ow.getD j 0 = z := ⟨_, rfl⟩
      rw [hz] at d0 hin
      obtain ⟨p, rfl⟩ := Int.eq_ofNat_of_zero_le hin.1
      have HPJ : Hid (ow.getD j 0 = (p : Int)) := hz
      have hp24 : (p : Int) < 24 := by omega
      have HPN : Hid (p < 24) := by show _ < _; omega
      obtain ⟨xs, hxs⟩ : ∃ xs, (img.drop (8 * j)).take 8 = xs := ⟨_, rfl⟩
      obtain ⟨sz, hsz⟩ : ∃ sz, xs.length = sz := ⟨_, rfl⟩
      have HNL : Hid (n' = (img.drop (8 * j)).length ∧ n' = img.length - 8 * j ∧ n' ≤ c' ∧ c' ≤ 9223372036854775807) := ⟨hIm.len, by have := hIm.len; rw [List.length_drop] at this; exact this, hIm.cap.1, by have := hIm.cap.2; unfold maxLen at this; exact this⟩
      have HSZ : Hid (sz = min 8 n' ∧ sz = min 8 (img.length - 8 * j)) := by
        have h1 := HNL.out
        rw [← hxs, List.length_take] at hsz
        constructor
        · rw [h1.1]; exact hsz.symm
        · rw [List.length_drop] at hsz; exact hsz.symm
      have HXS : Hid ((img.drop (8 * j)).take 8 = xs) := hxs
      have HXL : Hid (xs.length = sz) := hsz
      have HS : Hid (0 < sz → min (8 * j) img.length = 8 * j) := fun h => by have := HSZ.out.2; omega
      have HS2 : Hid (min (8 * j) img.length + sz = min (8 * (j + 1)) img.length) := by show _ = _; have := HSZ.out.2; omega
      have HXG : Hid (∀ k, k < sz → xs.drop k = img.getD (8 * j + k) 0 :: xs.drop (k + 1)) := fun k hk => by
        have hk2 : k < xs.length := by rw [HXL.out]; exact hk
        rw [List.drop_eq_getElem_cons hk2]
        congr 1
        have hlen := HXL.out
        subst hxs
        simp [List.getD] at hk2 ⊢
        rw [List.getElem?_eq_getElem (by omega)]
        rfl
      generalize min (8 * j) img.length = s0 at *
      have MLs := ML.out s0
      have hh := hN.heap
      have hNN : Hid (sz ≤ 8) := by show _ ≤ _; have := HSZ.out.1; omega
      have CP : Hid (0 < (xs.map (Value.int .i64)).length → some (⟨g, p * 8, none⟩ : Addr) = some ⟨g, p * 8, none⟩ ∧ ∃ ad, a' = some ad ∧ ∀ i v, (xs.map (Value.int .i64))[i]? = some v → wr.cell? (ad.add i) = some v) := fun h0 => by
        refine ⟨rfl, ?_⟩
        rw [List.length_map, HXL.out] at h0
        rcases HIM.out.stay HB.out with ⟨_, k1, _, _⟩ | ⟨x, rfl, k1, k2, k3, k4⟩
        · have := HSZ.out.1; omega
        · refine ⟨x, rfl, fun i v hv => ?_⟩
          have hi8 : i < xs.length := by have := (List.getElem?_eq_some_iff.1 hv).1; simpa using this
          have hil : i < n' := by rw [HXL.out] at hi8; have := HSZ.out.1; omega
          rw [k4 i hil, ← hv, List.getElem?_map, List.getElem?_eq_getElem hi8]
          have : (img.drop (8 * j)).getD i 0 = xs[i] := by
            have h8 : i < 8 := by rw [HXL.out] at hi8; have := hNN.out; omega
            have hd : i < (img.drop (8 * j)).length := by have := HNL.out.1; omega
            subst hxs
            rw [List.getD, List.getElem?_eq_getElem hd, List.getElem_take]
            rfl
          rw [this]
          rfl
      obtain ⟨X, hX⟩ : ∃ X, X = xs.map (Value.int .i64) := ⟨_, rfl⟩
      obtain ⟨Y, hY⟩ : ∃ Y, Y = (M s0).map (Value.int .i64) := ⟨_, rfl⟩
      rw [← hX] at CP
      rw [← hY] at hh
      have HH : Hid (wr.heap[g]? = some (.cells Y.toArray 94 (0, 0))) := hh
      have XL : Hid (X.length = sz) := by show _ = _; rw [hX, List.length_map]; exact HXL.out
      have YL : Hid (Y.length = 192) := by show _ = _; rw [hY, List.length_map]; exact MLs
      have X1 : Hid (∀ v ∈ X, v.oneCell' = true) := by
        intro v hv
        rw [hX] at hv
        obtain ⟨z, _, rfl⟩ := List.mem_map.1 hv
        rfl
      have SP : Hid (splice Y (p * 8) X = (splice (M s0) (p * 8) xs).map (Value.int .i64)) := by show _ = _; rw [hX, hY, splice_map]
      clear hX hY hh MLs hxs hsz hin hz e1 e2 e3 e4 hlt hN hB hIm
      go_wp2_with (refine wpList_copy_splice rfl (.tmp 19) (.tmp 20) 32 32 rfl 2 Tryz.underlying32 (by kernel_rfl) (some ⟨g, p * 8, none⟩) a' 8 8 n' c' (by simp [Act.eval]) (by simp [Act.eval]) g (p * 8) Y 94 HH.out X (by rw [XL.out]; have := HSZ.out.1; show sz = min n' 8; omega) CP.out (by rw [XL.out, YL.out]; have := hNN.out; have := HPN.out; omega) X1.out u.heap.size u HB.out (by have := HUB.out; have := HGB.out; omega) ?_; intro w2 hg2 hb2; rw [XL.out])
      have P2 : Hid (Pags w2 b (.slice (some ⟨g, 0, none⟩) 24 24) 24 (splice (M s0) (p * 8) xs)) := by
        have h1 := hg2.out
        rw [SP.out] at h1
        exact Pags.of_heap h1 (by rw [splice_lenI _ _ _ (by rw [HXL.out, ML.out]; have := hNN.out; have := HPN.out; omega), ML.out]) HGB.out (by unfold maxLen; omega)
      have B2 : Hid (Below u.heap.size u w2) := hb2
      have hszI : (sz : Int) ≤ 8 := by have := hNN.out; omega
      clear hg2 hb2 SP X1 XL YL CP HH d0
      go_wp2_with fail
      go_loopw [9, 23] (fun _ c wq => ∃ k : Nat, k ≤ sz ∧ c = .int .i64 k ∧ Pags wq b (.slice (some ⟨g, 0, none⟩) 24 24) 24 (splice (M (s0 + k)) (p * 8 + k) (xs.drop k)) ∧ Below u.heap.size u wq) (fun _ c _ => sz - (intOf c).toNat)
      case atStart => exact ⟨0, Nat.zero_le _, rfl, P2.out, B2.out⟩
      case round =>
        obtain ⟨k, hk, rfl, hN, hB⟩ := hrel
        have HNk : Hid (Pags wr b _ 24 _) := hN
        have HBk : Hid (Below _ u wr) := hB
        by_cases hks : k < sz
        · have HK : Hid (k < sz) := hks
          have hK : (k : Int) < (sz : Int) := by omega
          have hK8 : (k : Int) < 8 := by omega
          have E0 := HS.out (by omega)
          have XD := HXG.out k hks
          have MS2 : Hid (M (s0 + (k + 1)) = (M (s0 + k)).set (p * 8 + k) (wd (img.getD (8 * j + k) 0))) := by
            show _ = _
            have h1 := MS.out (s0 + k)
            have hk8 : k < 8 := by omega
            rw [E0] at h1
            rw [show (8 * j + k) / 8 = j by omega, show (8 * j + k) % 8 = k by omega, HPJ.out, Int.toNat_natCast] at h1
            rw [← Nat.add_assoc, E0]
            exact h1
          rw [XD] at hN
          have LB : p * 8 + k + ((xs.drop (k + 1)).length + 1) ≤ (M (s0 + k)).length := by
            rw [ML.out, List.length_drop, HXL.out]
            have := hNN.out
            have := HPN.out
            omega
          have c0 := hN.cell (p * 8 + k) (by have := HPN.out; omega)
          rw [splice_get _ _ _ _ (by omega)] at c0
          have f0 := hN.free (p * 8 + k)
          have NXT : Hid (Pags (wr.setCell ⟨g, p * 8 + k, none⟩ (.int .i64 (wd (img.getD (8 * j + k) 0)))) b (.slice (some ⟨g, 0, none⟩) 24 24) 24 (splice (M (s0 + (k + 1))) (p * 8 + (k + 1)) (xs.drop (k + 1)))) := by
            have h1 := hN.store (p * 8 + k) (wd (img.getD (8 * j + k) 0))
            rw [splice_set _ _ _ _ _ LB, ← MS2.out] at h1
            exact h1
          have BXT : Hid (Below u.heap.size u (wr.setCell ⟨g, p * 8 + k, none⟩ (.int .i64 (wd (img.getD (8 * j + k) 0))))) := HBk.out.setCell (by have := HUB.out; have := HGB.out; show u.heap.size ≤ g; omega) _
          have NXD : Hid (Pags (wr.drew.setCell ⟨g, p * 8 + k, none⟩ (.int .i64 (wd (img.getD (8 * j + k) 0)))) b (.slice (some ⟨g, 0, none⟩) 24 24) 24 (splice (M (s0 + (k + 1))) (p * 8 + (k + 1)) (xs.drop (k + 1)))) := NXT.out
          have BXD : Hid (Below u.heap.size u (wr.drew.setCell ⟨g, p * 8 + k, none⟩ (.int .i64 (wd (img.getD (8 * j + k) 0))))) := ⟨BXT.out.os, BXT.out.tape, BXT.out.output, BXT.out.size, BXT.out.block⟩
          generalize img.getD (8 * j + k) 0 = xv at *
          clear hN hB hks XD E0 LB MS2
          go_wp2_with fail
          go_region_with (go_at_call 12; refine (impl_wrap _ _).mono ?_; rintro e w9 ⟨rfl, hw9⟩; subst hw9)
          all_goals go_wp2_with fail
          all_goals go_roundw
          all_goals first
            | exact ⟨k + 1, by have := HK.out; omega, by go_num, by first | exact NXD.out | exact NXT.out, by first | exact BXD.out | exact BXT.out⟩
            | (have := HK.out; simp [intOf]; omega)
        · have hK : ¬ (k : Int) < (sz : Int) := by omega
          have HKS : Hid (k = sz) := by show _ = _; omega
          have NE : Hid (Pags wr b (.slice (some ⟨g, 0, none⟩) 24 24) 24 (M (min (8 * (j + 1)) img.length))) := by
            have h1 := HNk.out
            rw [HKS.out, List.drop_of_length_le (by rw [HXL.out]; exact Nat.le_refl _), splice_nil, HS2.out] at h1
            exact h1
          have HSN : Hid (sz ≤ n') := by show _ ≤ _; have := HSZ.out.1; omega
          have DD : Hid (sz < n' → img.drop (8 * (j + 1)) = (img.drop (8 * j)).drop sz) := fun hlt => by
            have := HSZ.out.1
            rw [List.drop_drop]
            congr 1
            omega
          have DE : Hid (sz = n' → img.drop (8 * (j + 1)) = (img.drop (8 * j)).drop sz) := fun he => by
            have h1 := HNL.out
            have := HSZ.out.1
            rw [List.drop_of_length_le (by omega), List.drop_of_length_le (by rw [List.length_drop]; omega)]
          have DA : Hid (img.drop (8 * (j + 1)) = (img.drop (8 * j)).drop sz) := by
            rcases Nat.lt_or_ge sz n' with h | h
            · exact DD.out h
            · exact DE.out (by have := HSN.out; omega)
          have hsn : (sz : Int) ≤ (n' : Int) := by have := HSN.out; omega
          have hnc : (n' : Int) ≤ (c' : Int) := by have := HNL.out; omega
          have hcm : (c' : Int) ≤ 9223372036854775807 := by have := HNL.out; omega
          cases a' with
          | none =>
            have hz0 : n' = 0 ∧ c' = 0 ∧ sz = 0 := by
              rcases HIM.out with ⟨_, k1, k2, _⟩ | ⟨x, e, _⟩
              · exact ⟨k1, k2, by have := HSN.out; omega⟩
              · cases e
            have HIN : Hid (IsNs u none 0 0 (img.drop (8 * (j + 1)))) := by
              show IsNs _ _ _ _ _
              rw [DA.out, hz0.2.2, List.drop_zero]
              have := HIM.out
              rw [hz0.1, hz0.2.1] at this
              exact this
            obtain ⟨rfl, rfl, rfl⟩ := hz0
            clear hN hB hks
            go_wp2_with fail
            go_roundw
            case rel => exact ⟨j + 1, by have := HLT.out; omega, by go_num, ⟨_, _, _, rfl, HIN.out⟩, NE.out, HBk.out⟩
            case measure => have := HLT.out; simp [intOf]; omega
          | some x =>
            have HIN : Hid (IsNs u (if c' = sz then some x else some (x.add sz)) (n' - sz) (c' - sz) (img.drop (8 * (j + 1)))) := by
              show IsNs _ _ _ _ _
              rw [DA.out]
              exact HIM.out.cut sz HSN.out x rfl
            have hsc : sz ≤ n' := HSN.out
            clear hN hB hks
            by_cases hce : c' = sz
            · rw [if_pos hce] at HIN
              go_wp2_with fail
              go_roundw
              case rel => exact ⟨j + 1, by have := HLT.out; omega, by go_num, ⟨_, _, _, rfl, by first | exact HIN.out | (simp [hce] at *; exact HIN.out)⟩, NE.out, HBk.out⟩
              case measure => have := HLT.out; simp [intOf]; omega
            · rw [if_neg hce] at HIN
              go_wp2_with fail
              go_roundw
              case rel => exact ⟨j + 1, by have := HLT.out; omega, by go_num, ⟨_, _, _, rfl, by first | exact HIN.out | (simp [hce] at *; exact HIN.out)⟩, NE.out, HBk.out⟩
              case measure => have := HLT.out; simp [intOf]; omega
    · have hJ : ¬ (j : Int) < (lp : Int) := by omega
      have HJ : Hid (j = ow.length) := by show _ = _; have := HLP.out; omega
      clear hlt hN hB hIm
      go_wp2_with fail
      refine bodyPost_end (v := .tuple #[]) (by simp [results, Tryz.results21]) rfl ⟨rfl, ?_, HB.out⟩
      rw [← HJ.out]
      exact HN.out
end Go.Proofs.YtdhdfopkcpkbeaaGreatDoor
namespace Go.Proofs.YtdhdfopkcpkbeaaGreatDoor
open Go.RowKit
set_option linter.unusedVariables false

/-- Maps, wherever they lie. -/
def SpX (w : World) (base : Nat) (v : Value) (n : Nat) (L : Nat → List (Int × Int)) : Prop := ∃ B C, Sp w base v n B C L
theorem SpX.shape {w : World} {base n : Nat} {v : Value} {L : Nat → List (Int × Int)} (h : SpX w base v n L) : ∃ a cap, v = .slice a n cap ∧ n ≤ cap ∧ cap ≤ maxLen ∧ (0 < n → ∃ g, a = some ⟨g, 0, none⟩) := by obtain ⟨B, C, h⟩ := h; exact h.shape
def mapsN (P : Plc) : Nat := if pfV P = 0 then P.own.length else 0
def mapsL (P : Plc) (g : Nat) : List (Int × Int) := pforL (P.own.getD g []) P.lanes (g : Int) 8
end Go.Proofs.YtdhdfopkcpkbeaaGreatDoor
namespace Go.Proofs.YtdhdfopkcpkbeaaGreatDoor
open Go.RowKit
set_option linter.unusedVariables false

theorem firstM_cases (g k : Int) (ls : List Ln) : firstM g k ls = (-1, 0) ∨ ∃ l ∈ ls, matchL g k l = some (firstM g k ls) := by
  induction ls with
  | nil => exact .inl rfl
  | cons a t ih =>
    cases e : matchL g k a with
    | some x =>
      have h : firstM g k (a :: t) = x := by show (match matchL g k a with | some x => x | none => firstM g k t) = x; rw [e]
      exact .inr ⟨a, by simp, by rw [h]; exact e⟩
    | none =>
      have h : firstM g k (a :: t) = firstM g k t := by show (match matchL g k a with | some x => x | none => firstM g k t) = _; rw [e]
      rw [h]
      rcases ih with h | ⟨l, hl, h⟩
      · exact .inl h
      · exact .inr ⟨l, List.mem_cons_of_mem _ hl, h⟩
/-- Where a page of a guest leads. -/
theorem map_ent {P : Plc} {g : Nat} {e : Int × Int} (h : e ∈ mapsL P g) : (e.1 ∈ P.own.getD g [] ∧ e.2 = 7) ∨ (∃ l ∈ P.lanes, l.fr = g ∧ e = (l.pg, 3)) ∨ (∃ l ∈ P.lanes, l.dst = g ∧ e = (l.pg, 1)) ∨ e = (-1, 0) := by
  unfold mapsL pforL at h
  rw [List.mem_map] at h
  obtain ⟨k, _, rfl⟩ := h
  unfold pageV
  by_cases hk : k < (P.own.getD g []).length
  · rw [if_pos hk]
    refine .inl ⟨?_, rfl⟩
    exact getD_mem _ 0 k hk
  · rw [if_neg hk]
    rcases firstM_cases g k P.lanes with h | ⟨l, hl, h⟩
    · exact .inr (.inr (.inr h))
    · unfold matchL at h
      split at h
      · rename_i h1; exact .inr (.inl ⟨l, hl, h1.1, (Option.some.inj h).symm⟩)
      · split at h
        · rename_i h1; exact .inr (.inr (.inl ⟨l, hl, h1.1, (Option.some.inj h).symm⟩))
        · cases h
theorem ln_own {own : List (List Int)} {ahead : List Ln} {l : Ln} (h : laneV own ahead l = 0) : (0 ≤ l.pg ∧ l.pg ≤ 23) ∧ ownerFrom 0 own l.pg < 0 ∧ ∀ o ∈ ahead, o.pg ≠ l.pg := by
  rw [laneV] at h
  split at h
  · split at h
    · cases h
    · rename_i h2
      simp only [not_or, Bool.not_eq_false] at h2
      split at h
      · cases h
      · rename_i h3
        split at h
        · cases h
        · rename_i h4
          refine ⟨by simpa [pgOk] using h2.1, by omega, fun o ho e => ?_⟩
          simp only [List.any_eq_true, not_exists, not_and, Bool.not_eq_true] at h4
          have := h4 o ho
          unfold meetV at this
          simp [e] at this
  · rename_i h1; exact absurd h h1
theorem lns_own (own : List (List Int)) : ∀ (ls ahead : List Ln), lanesV own ahead ls = 0 → (∀ l ∈ ls, (0 ≤ l.pg ∧ l.pg ≤ 23) ∧ ownerFrom 0 own l.pg < 0 ∧ ∀ o ∈ ahead, o.pg ≠ l.pg) ∧ ls.Pairwise (fun a b => a.pg ≠ b.pg) := by
  intro ls
  induction ls with
  | nil => intro ahead _; exact ⟨fun l hl => (by cases hl), List.Pairwise.nil⟩
  | cons a t ih =>
    intro ahead h
    rw [lanesV] at h
    split at h
    · rename_i h1
      have k := ln_own h1
      obtain ⟨i1, i2⟩ := ih _ h
      refine ⟨fun l hl => ?_, List.pairwise_cons.2 ⟨fun l hl => (i1 l hl).2.2 a (by simp), i2⟩⟩
      rcases List.mem_cons.1 hl with rfl | hl
      · exact k
      · exact ⟨(i1 l hl).1, (i1 l hl).2.1, fun o ho => (i1 l hl).2.2 o (List.mem_append_left _ ho)⟩
    · rename_i h1; exact absurd h h1
theorem pw_inj {ls : List Ln} (h : ls.Pairwise (fun a b => a.pg ≠ b.pg)) : ∀ a ∈ ls, ∀ b ∈ ls, a.pg = b.pg → a = b := by
  induction ls with
  | nil => intro a ha; cases ha
  | cons x t ih =>
    rw [List.pairwise_cons] at h
    intro a ha b hb e
    rcases List.mem_cons.1 ha with ea | ha
    · rcases List.mem_cons.1 hb with eb | hb
      · rw [ea, eb]
      · exact absurd (by rw [← ea]; exact e) (h.1 b hb)
    · rcases List.mem_cons.1 hb with eb | hb
      · exact absurd (by rw [← eb]; exact e.symm) (h.1 a ha)
      · exact ih h.2 a ha b hb e
/-- What a right policy says of its lanes' pages. -/
structure Lf (P : Plc) : Prop where
  pg : ∀ l ∈ P.lanes, 0 ≤ l.pg ∧ l.pg ≤ 23
  free : ∀ l ∈ P.lanes, ownerFrom 0 P.own l.pg < 0
  inj : ∀ a ∈ P.lanes, ∀ b ∈ P.lanes, a.pg = b.pg → a = b
  own : ∀ (g : Nat) (x : Int), x ∈ P.own.getD g [] → ownerFrom 0 P.own x = g ∧ 0 ≤ x ∧ x ≤ 23
theorem pf_lf {P : Plc} (h : pfV P = 0) : Lf P := by
  obtain ⟨h1, h2⟩ := lns_own _ _ _ (pf_parts P h).2.2.1
  refine ⟨fun l hl => (h1 l hl).1, fun l hl => (h1 l hl).2.1, pw_inj h2, fun g x hx => ?_⟩
  have hg : g < P.own.length := by
    by_cases e : g < P.own.length
    · exact e
    · rw [List.getD, List.getElem?_eq_none (by omega)] at hx; cases hx
  exact ⟨pf_owner P h g hg x hx, (pf_own P h g hg).2.2 x hx⟩
theorem map_ok {P : Plc} (h : pfV P = 0) (g : Nat) : ∀ e ∈ mapsL P g, pgC 24 e.1 e.2 = 0 ∧ 0 ≤ e.2 ∧ e.2 ≤ 7 := by
  intro e he
  have L := pf_lf h
  rcases map_ent he with ⟨h1, h2⟩ | ⟨l, hl, h1, rfl⟩ | ⟨l, hl, h1, rfl⟩ | rfl
  · have := L.own g _ h1
    rw [h2]
    exact ⟨pgC_ok (by omega) (by omega), by decide, by decide⟩
  · have := L.pg l hl
    exact ⟨pgC_ok (by show _ ∧ _; omega) (by show ¬ (l.pg = -1 ∧ _); omega), by show (0 : Int) ≤ _; omega, by show _ ≤ (7 : Int); omega⟩
  · have := L.pg l hl
    exact ⟨pgC_ok (by show _ ∧ _; omega) (by show ¬ (l.pg = -1 ∧ _); omega), by show (0 : Int) ≤ _; omega, by show _ ≤ (7 : Int); omega⟩
  · exact ⟨rfl, by decide, by decide⟩
theorem map_pgs {P : Plc} (h : pfV P = 0) (g : Nat) : pgsV (mapsL P g) 24 = 0 := by
  have hl : (mapsL P g).length = 8 := pforL_len _ _ _ _
  refine pgsV_ok (by decide) (by decide) hl fun i hi => ?_
  have : (mapsL P g).getD i (0, 0) ∈ mapsL P g := by
    rw [List.getD, List.getElem?_eq_getElem (by omega)]
    exact List.getElem_mem _
  exact (map_ok h g _ this).1
theorem or_two : ∀ a b : Fin 8, bits BinOp.and .i64 (bits BinOp.or .i64 (a.val : Int) (b.val : Int)) 2 ≠ 0 → bits BinOp.and .i64 (a.val : Int) 2 ≠ 0 ∨ bits BinOp.and .i64 (b.val : Int) 2 ≠ 0 := by decide
theorem or_in : ∀ a b : Fin 8, 0 ≤ bits BinOp.or .i64 (a.val : Int) (b.val : Int) ∧ bits BinOp.or .i64 (a.val : Int) (b.val : Int) ≤ 7 := by decide
theorem fin8 {a : Int} (h : 0 ≤ a ∧ a ≤ 7) : ∃ x : Fin 8, (x.val : Int) = a := ⟨⟨a.toNat, by omega⟩, by show ((a.toNat : Nat) : Int) = a; omega⟩
/-- A list that may write to a page has an entry that may. -/
theorem knd_wr {rs : List (Int × Int)} {to : Int} (hk : ∀ e ∈ rs, 0 ≤ e.2 ∧ e.2 ≤ 7) (h : bits BinOp.and .i64 (kndV rs to) 2 ≠ 0) : ∃ e ∈ rs, e.1 = to ∧ bits BinOp.and .i64 e.2 2 ≠ 0 := by
  have : ∀ (l : List (Int × Int)) (k : Int), (∀ e ∈ l, 0 ≤ e.2 ∧ e.2 ≤ 7) → 0 ≤ k ∧ k ≤ 7 → bits BinOp.and .i64 (l.foldl (fun k r => if r.1 = to then bits BinOp.or .i64 k r.2 else k) k) 2 ≠ 0 → bits BinOp.and .i64 k 2 ≠ 0 ∨ ∃ e ∈ l, e.1 = to ∧ bits BinOp.and .i64 e.2 2 ≠ 0 := by
    intro l
    induction l with
    | nil => intro k _ _ h; exact .inl h
    | cons r t ih =>
      intro k hl hk h
      rw [List.foldl_cons] at h
      by_cases e : r.1 = to
      · rw [if_pos e] at h
        obtain ⟨a, rfl⟩ := fin8 hk
        obtain ⟨b, hb⟩ := fin8 (hl r (by simp))
        rw [← hb] at h
        rcases ih _ (fun e he => hl e (List.mem_cons_of_mem _ he)) (or_in a b) h with h | ⟨e', he, h⟩
        · rcases or_two a b h with h | h
          · exact .inl h
          · exact .inr ⟨r, by simp, e, by rw [← hb]; exact h⟩
        · exact .inr ⟨e', List.mem_cons_of_mem _ he, h⟩
      · rw [if_neg e] at h
        rcases ih _ (fun e he => hl e (List.mem_cons_of_mem _ he)) hk h with h | ⟨e', he, h⟩
        · exact .inl h
        · exact .inr ⟨e', List.mem_cons_of_mem _ he, h⟩
  rcases this rs 0 hk (by decide) h with h | h
  · exact absurd (by decide) h
  · exact h
/-- May a list write to a page? -/
def wrR (rs : List (Int × Int)) (to : Int) : Bool := bits BinOp.and .i64 (kndV rs to) 2 != 0
def laneOf (ls : List Ln) (f t x : Int) : Bool := ls.any fun l => decide (l.fr = f) && (decide (l.dst = t) && decide (l.pg = x))
theorem map_lead {P : Plc} (h : pfV P = 0) (g : Nat) (x : Int) (hx : 0 ≤ x) (hl : ledB (mapsL P g) x = true) : ownerFrom 0 P.own x = -1 ∨ ownerFrom 0 P.own x = g := by
  have L := pf_lf h
  unfold ledB at hl
  rw [List.any_eq_true] at hl
  obtain ⟨e, he, h1⟩ := hl
  have h1 : e.1 = x := of_decide_eq_true h1
  subst h1
  rcases map_ent he with ⟨h1, h2⟩ | ⟨l, hl, h1, rfl⟩ | ⟨l, hl, h1, rfl⟩ | rfl
  · exact .inr (L.own g _ h1).1
  · have := L.free l hl
    rcases owner_range P.own l.pg 0 (by decide) with h | h
    · exact .inl h
    · exact absurd h.1 (by show ¬ _; omega)
  · have := L.free l hl
    rcases owner_range P.own l.pg 0 (by decide) with h | h
    · exact .inl h
    · exact absurd h.1 (by show ¬ _; omega)
  · exact absurd hx (by decide)
theorem two_seven : bits BinOp.and .i64 1 2 = 0 := by decide
theorem two_zero : bits BinOp.and .i64 0 2 = 0 := by decide
theorem map_write {P : Plc} (h : pfV P = 0) {g : Nat} {x : Int} (hw : wrR (mapsL P g) x = true) : x ∈ P.own.getD g [] ∨ ∃ l ∈ P.lanes, l.fr = g ∧ l.pg = x := by
  have hw : bits BinOp.and .i64 (kndV (mapsL P g) x) 2 ≠ 0 := by simpa [wrR] using hw
  obtain ⟨e, he, h1, h2⟩ := knd_wr (fun e he => (map_ok h g e he).2) hw
  subst h1
  rcases map_ent he with ⟨h1, _⟩ | ⟨l, hl, h1, rfl⟩ | ⟨l, hl, h1, rfl⟩ | rfl
  · exact .inl h1
  · exact .inr ⟨l, hl, h1, rfl⟩
  · exact absurd two_seven h2
  · exact absurd two_zero h2
/-- Of two guests of a right policy one gives the other nothing but by lanes. -/
theorem map_give {P : Plc} (h : pfV P = 0) {g t : Nat} (hne : g ≠ t) {x : Int} (hx : x ∈ wrZ (mapsL P g) (mapsL P t)) (hw : wrR (mapsL P g) x = true) : wrR (mapsL P t) x = false ∧ laneOf P.lanes g t x = true := by
  have L := pf_lf h
  obtain ⟨hb, h0, _⟩ := wrZ_mem hx
  unfold wrB at hb
  simp only [Bool.and_eq_true] at hb
  have hl := hb.1.2
  unfold ledB at hl
  rw [List.any_eq_true] at hl
  obtain ⟨e, he, h1⟩ := hl
  have h1 : e.1 = x := of_decide_eq_true h1
  subst h1
  rcases map_write h hw with hg | ⟨l, hl, hf, hp⟩
  · have o1 := (L.own g _ hg).1
    rcases map_ent he with ⟨h1, h2⟩ | ⟨l, hl, h1, rfl⟩ | ⟨l, hl, h1, rfl⟩ | rfl
    · have o2 := (L.own t _ h1).1
      exact absurd (o1.symm.trans o2) (by omega)
    · have := L.free l hl
      exact absurd o1 (by show ¬ ownerFrom 0 P.own l.pg = _; omega)
    · have := L.free l hl
      exact absurd o1 (by show ¬ ownerFrom 0 P.own l.pg = _; omega)
    · exact absurd h0 (by decide)
  · have fr := L.free l hl
    rw [hp] at fr
    constructor
    · cases hw2 : wrR (mapsL P t) e.1 with
      | false => rfl
      | true =>
        rcases map_write h hw2 with ht | ⟨l2, hl2, hf2, hp2⟩
        · have := (L.own t _ ht).1
          omega
        · have := L.inj l hl l2 hl2 (by rw [hp, hp2])
          subst this
          omega
    · rcases map_ent he with ⟨h1, h2⟩ | ⟨l2, hl2, h1, h2⟩ | ⟨l2, hl2, h1, h2⟩ | h2
      · have := (L.own t _ h1).1
        omega
      · have e2 : e.1 = l2.pg := by rw [h2]
        have := L.inj l hl l2 hl2 (by rw [hp, e2])
        subst this
        omega
      · have e2 : e.1 = l2.pg := by rw [h2]
        have := L.inj l hl l2 hl2 (by rw [hp, e2])
        subst this
        unfold laneOf
        rw [List.any_eq_true]
        exact ⟨l, hl, by simp [hf, h1, hp]⟩
      · rw [h2] at h0
        exact absurd h0 (by decide)
end Go.Proofs.YtdhdfopkcpkbeaaGreatDoor
