/- Texts of this seat, joined. -/
import Derived.Deep.CutRange
import Derived.Laws.ByValue
import Derived.Test.YthebikoahfcdaaaGreatDoorQ05
import Derived.Test.YthebikoahfcdaaaGreatDoorQ17
import Derived.Test.YthebikoahfcdaaaGreatDoorQ37
namespace Go.Proofs.YthebikoahfcdaaaGreatDoor
open Go.RowKit
set_option linter.unusedVariables false

theorem pf_parts (P : Plc) (h : pfV P = 0) : P.own.length ≤ 3 ∧ guestsV P.own = 0 ∧ lanesV P.own [] P.lanes = 0 ∧ bellsV P.own.length [] P.bells = 0 ∧ P.lanes.length ≤ 4 ∧ P.bells.length ≤ 4 ∧ 1 ≤ P.own.length := by
  have h1 := (or_zero h).1
  have h2 := (or_zero (or_zero h).2).1
  have h3 := (or_zero (or_zero h).2).2
  have h4 := (or_zero h1).1
  have h5 := (or_zero h2).1
  have h6 := (or_zero h2).2
  have h7 := (or_zero h3).1
  unfold g1V at h4
  split at h4
  · cases h4
  · rename_i k1
    unfold g3V at h5
    split at h5
    · cases h5
    · rename_i k2
      exact ⟨by omega, h4, h6, h7, by omega, by omega, by omega⟩
theorem isG_iff (n : Nat) (g : Int) : isG n g = true ↔ (0 ≤ g ∧ g < n) := by
  unfold isG
  simp
  omega
/-- What one round leaves: the list of numbers that grew stands in the answer under way (block O), the answer's place (block R) is as it was. -/
structure GrewI (w : World) (R O : Nat) (z : Value) (L : List Int) (w' : World) : Prop where
  prs : Nums w' (O + 1) z L
  r0 : w'.cell? ⟨R, 0, none⟩ = some (.int .i64 0)
  r1 : w'.cell? ⟨R, 1, none⟩ = some (.slice none 0 0)
  f0 : w'.frozen? ⟨R, 0, none⟩ = false
  f1 : w'.frozen? ⟨R, 1, none⟩ = false
  o0 : w'.cell? ⟨O, 0, none⟩ = some (.int .i64 0)
  o1 : w'.cell? ⟨O, 1, none⟩ = some z
  g1 : w'.frozen? ⟨O, 1, none⟩ = false
  lt : R < O
  below : Below w.heap.size w w'
theorem frozen_grownI {w w' : World} {row : Option Nat} {p : Addr} (g : w.grownBy w' row) (hp : p.block < w.heap.size) (hne : some p.block ≠ row) : w'.frozen? p = w.frozen? p :=
  World.frozen?_of_block (w := w) (g.block p.block hp hne)
theorem GrewI.keep {w w1 w2 : World} {R O : Nat} {z : Value} {L : List Int} (h : GrewI w R O z L w1) (b : Below w1.heap.size w1 w2) : GrewI w R O z L w2 := by
  have s1 : O < w1.heap.size := block_of_cell h.o0
  have s0 : R < w1.heap.size := block_of_cell h.r0
  exact ⟨h.prs.keep b, cell_keep b h.r0, cell_keep b h.r1, by rw [b.frozen (p := ⟨R, 0, none⟩) s0]; exact h.f0, by rw [b.frozen (p := ⟨R, 1, none⟩) s0]; exact h.f1,
    cell_keep b h.o0, cell_keep b h.o1, by rw [b.frozen (p := ⟨O, 1, none⟩) s1]; exact h.g1, h.lt, on h.below b⟩
theorem GrewI.grown {w w1 w2 : World} {R O : Nat} {z z' : Value} {L : List Int} {r : Int} (h : GrewI w R O z L w1) (hp : Nums w2 (O + 1) z' (L ++ [r])) (g : w1.grownBy w2 z.ownBlock) (hS : w.heap.size ≤ R) :
    GrewI w R O z' (L ++ [r]) (w2.setCell ⟨O, 1, none⟩ z') ∧ w2.cell? ⟨O, 1, none⟩ = some z ∧ w2.frozen? ⟨O, 1, none⟩ = false := by
  have s1 : O < w1.heap.size := block_of_cell h.o0
  have s0 : R < w1.heap.size := block_of_cell h.r0
  have hlt := h.lt
  have n0 : some R ≠ z.ownBlock := own_not h.prs _ (.inl (by omega))
  have n1 : some O ≠ z.ownBlock := own_not h.prs _ (.inl (by omega))
  have r0 := cell_grown g h.r0 n0
  have r1 := cell_grown g h.r1 n0
  have o0 := cell_grown g h.o0 n1
  have o1 := cell_grown g h.o1 n1
  have f0 : w2.frozen? ⟨R, 0, none⟩ = false := by rw [frozen_grownI (p := ⟨R, 0, none⟩) g s0 n0]; exact h.f0
  have f1 : w2.frozen? ⟨R, 1, none⟩ = false := by rw [frozen_grownI (p := ⟨R, 1, none⟩) g s0 n0]; exact h.f1
  have g1 : w2.frozen? ⟨O, 1, none⟩ = false := by rw [frozen_grownI (p := ⟨O, 1, none⟩) g s1 n1]; exact h.g1
  have b2 : Below w.heap.size w w2 := h.below.grown g h.below.size (fun k hk => by have := (h.prs.lt k hk).1; omega)
  have ne : ∀ i, (⟨O, 1, none⟩ : Addr) ≠ ⟨R, i, none⟩ := fun i e => by have := congrArg Addr.block e; simp at this; omega
  refine ⟨⟨hp.put _ _ (fun e => own_not hp O (.inl (by omega)) e.symm), by rw [World.cell?_setCell_other _ _ _ _ (ne 0)]; exact r0, by rw [World.cell?_setCell_other _ _ _ _ (ne 1)]; exact r1, by rw [World.frozen?_setCell]; exact f0, by rw [World.frozen?_setCell]; exact f1, by rw [World.cell?_setCell_other _ _ _ _ (by intro e; cases e)]; exact o0, by rw [World.cell?_setCell_same _ _ _ o1], by rw [World.frozen?_setCell]; exact g1, hlt, b2.setCell (by show w.heap.size ≤ O; omega) _⟩, o1, g1⟩
/-- The answer's place (a code and a list), still empty. -/
def RsI (w : World) (s : Nat) : Prop := w.cell? ⟨s + 1, 0, none⟩ = some (.int .i64 0) ∧ w.cell? ⟨s + 1, 1, none⟩ = some (.slice none 0 0) ∧ w.frozen? ⟨s + 1, 0, none⟩ = false ∧ w.frozen? ⟨s + 1, 1, none⟩ = false ∧ s + 1 < w.heap.size
theorem RsI.keep {w w' : World} {s : Nat} (h : RsI w s) (b : Below w.heap.size w w') : RsI w' s :=
  ⟨cell_keep b h.1, cell_keep b h.2.1, by rw [b.frozen (p := ⟨s + 1, 0, none⟩) h.2.2.2.2]; exact h.2.2.1, by rw [b.frozen (p := ⟨s + 1, 1, none⟩) h.2.2.2.2]; exact h.2.2.2.1, Nat.lt_of_lt_of_le h.2.2.2.2 b.size⟩

end Go.Proofs.YthebikoahfcdaaaGreatDoor
namespace Go.Proofs.YthebikoahfcdaaaGreatDoor
open Go.RowKit
set_option linter.unusedVariables false

/-- The pages of lanes from a guest: the host's numbers, or the guest's. -/
def gvS (pg : Bool) (l : Ln) : Int := if pg then l.pg else l.af
def gvL (pg : Bool) (g : Int) (ls : List Ln) : List Int := ls.flatMap fun l => if l.fr = g then [gvS pg l] else []
theorem gv_take (pg : Bool) (g : Int) (ls : List Ln) (j : Nat) (h : j < ls.length) : gvL pg g (ls.take (j + 1)) = gvL pg g (ls.take j) ++ (if (ls.getD j lz).fr = g then [gvS pg (ls.getD j lz)] else []) := by
  unfold gvL
  rw [take_succ_getD ls lz j h, List.flatMap_append]
  simp
theorem gv_len (pg : Bool) (g : Int) (ls : List Ln) : (gvL pg g ls).length ≤ ls.length := by
  induction ls with
  | nil => simp [gvL]
  | cons l t ih =>
    unfold gvL at *
    rw [List.flatMap_cons, List.length_append, List.length_cons]
    split <;> simp only [List.length_cons, List.length_nil] <;> omega
theorem i_cloV (L : Ln) (w : World) : Calls Tryz.prog 61 #[.agg #[.int .i64 L.fr, .int .i64 L.dst, .int .i64 L.pg, .int .i64 L.af, .int .i64 L.tt]] w fun e w' => e = .returned (.int .i64 L.pg) ∧ Below w.heap.size w w' := by
  go_enter Tryz.func61, Tryz.ntmps61
  go_wp2_with fail
  go_ret
  exact ⟨rfl, al (Below.refl _ _) _⟩
set_option maxRecDepth 20000 in
set_option maxHeartbeats 8000000 in
theorem i_givenV (a0 a1 a2 a3 : Option Addr) (n0 c0 n1 c1 n2 c2 n3 c3 : Nat) (P : Plc) (gu : Int) (w : World) (h : Pl w a0 n0 c0 a1 n1 c1 a2 n2 c2 a3 n3 c3 P) (hl : P.lanes.length ≤ 100) :
    Calls Tryz.prog 60 #[.agg #[.slice a0 n0 c0, .slice a1 n1 c1, .slice a2 n2 c2, .slice a3 n3 c3], .int .i64 gu, .func (.func 61) #[] #[]] w fun e w' => ∃ v, e = .returned v ∧ Nums w' w.heap.size v (gvL true gu P.lanes) ∧ Below w.heap.size w w' := by
  generalize hW : w.alloc (.cells #[.slice a0 n0 c0, .slice a1 n1 c1, .slice a2 n2 c2, .slice a3 n3 c3] 44) = W
  have B0 : Hid (Below w.heap.size w W) := by show Below _ _ _; rw [← hW]; exact al (Below.refl _ _) _
  obtain ⟨s, hS⟩ : ∃ s, w.heap.size = s := ⟨_, rfl⟩
  have Q : Hid (Vb W s #[.slice a0 n0 c0, .slice a1 n1 c1, .slice a2 n2 c2, .slice a3 n3 c3] 44) := by show Vb _ _ _ _; rw [← hW, ← hS]; exact Vb.new _ _ _
  have HP : Hid (Pl W a0 n0 c0 a1 n1 c1 a2 n2 c2 a3 n3 c3 P) := h.stay B0.out
  have HL : Hid (n1 = P.lanes.length ∧ n1 ≤ 100) := ⟨h.lanes.len, by have := h.lanes.len; omega⟩
  have hnI : (n1 : Int) ≤ 100 := by have := HL.out; omega
  clear h hl
  have q1 := Q.out.cell 1 rfl
  go_enter Tryz.func60, Tryz.ntmps60
  go_wp2_with fail
  clear hW hS q1
  go_loopw [7, 9, 13] (fun y _ c wr => ∃ j : Nat, j ≤ n1 ∧ c = .int .i64 j ∧ Nums wr W.heap.size y (gvL true gu (P.lanes.take j)) ∧ Below W.heap.size W wr) (fun _ _ c _ => n1 - (intOf c).toNat)
  case atStart => exact ⟨0, Nat.zero_le _, rfl, Nums.nil _ _, Below.refl _ _⟩
  case round =>
    obtain ⟨j, hj, rfl, hN, hB⟩ := hrel
    have HN : Hid (Nums wr W.heap.size _ (gvL true gu (P.lanes.take j))) := hN
    have HB : Hid (Below W.heap.size W wr) := hB
    obtain ⟨ya, yc, hy, _, _, _⟩ := hN.shape
    have HLN : Hid ((gvL true gu (P.lanes.take j)).length ≤ 100) := by show _ ≤ _; have := gv_len true gu (P.lanes.take j); rw [List.length_take] at this; have := HL.out; omega
    obtain ⟨un, hun⟩ : ∃ un, (gvL true gu (P.lanes.take j)).length = un := ⟨_, rfl⟩
    rw [hun] at hy
    subst hy
    clear hN hun
    by_cases hlt : j < n1
    · obtain ⟨x, rfl, k0, k1, k2, k3, k4⟩ := (HP.out.lanes.stay hB).at j hlt
      have hJ : (j : Int) < (n1 : Int) := by omega
      have HLT : Hid (j < n1) := hlt
      have TK : Hid (_ = _) := gv_take true gu P.lanes j (by have := HL.out; omega)
      obtain ⟨L, hL⟩ : ∃ L, P.lanes.getD j lz = L := ⟨_, rfl⟩
      rw [hL] at k0 k1 k2 k3 k4 TK
      have SZ : Hid (W.heap.size ≤ wr.heap.size) := hB.size
      clear hL hlt hB
      by_cases he : L.fr = gu
      · have S2 : Hid (gvL true gu (P.lanes.take (j + 1)) = gvL true gu (P.lanes.take j) ++ [gvS true L]) := by show _ = _; rw [TK.out, if_pos he]
        clear TK
        subst he
        go_upto_region 5 with fail
        generalize hW2 : wr.alloc (.cells #[.int .i64 L.fr, .int .i64 L.dst, .int .i64 L.pg, .int .i64 L.af, .int .i64 L.tt] 115) = W2
        have V2 : Hid (Vb W2 wr.heap.size #[.int .i64 L.fr, .int .i64 L.dst, .int .i64 L.pg, .int .i64 L.af, .int .i64 L.tt] 115) := by show Vb _ _ _ _; rw [← hW2]; exact Vb.new _ _ _
        have B2 : Hid (Below W.heap.size W W2) := by show Below _ _ _; rw [← hW2]; exact al HB.out _
        have N2 : Hid (Nums W2 W.heap.size (.slice ya un yc) (gvL true L.fr (P.lanes.take j))) := by show Nums _ _ _ _; rw [← hW2]; exact HN.out.keep (al (Below.refl _ _) _)
        clear hW2 k0 k1 k2 k3 k4
        generalize wr.heap.size = bx at *
        have v0 := V2.out.cell 0 rfl
        have v1 := V2.out.cell 1 rfl
        have v2 := V2.out.cell 2 rfl
        have v3 := V2.out.cell 3 rfl
        have v4 := V2.out.cell 4 rfl
        go_wp2_with fail
        refine (i_cloV L W2).mono ?_
        rintro e w3 ⟨rfl, b3⟩
        have B3 : Hid (Below W.heap.size W w3) := on B2.out b3
        have N3 : Hid (Nums w3 W.heap.size (.slice ya un yc) (gvL true L.fr (P.lanes.take j))) := N2.out.keep b3
        have Z3 : Hid (W.heap.size ≤ w3.heap.size) := (on B2.out b3).size
        clear b3 v0 v1 v2 v3 v4
        have S3 : Hid (gvL true L.fr (P.lanes.take (j + 1)) = gvL true L.fr (P.lanes.take j) ++ [L.pg]) := S2.out
        clear S2
        generalize L.pg = z at *
        go_wp2_with (at_builtin; refine wp_appn _ rfl _ _ rfl W.heap.size _ _ rfl (N3.out.keep (al (Below.refl _ _) _)) w3.heap.size 1 1 [z] rfl rfl (one_at (cell_new rfl)) (by have := HLN.out; omega) (by have := Z3.out; simp; omega) ?_; intro v' w' hN' hG')
        have N' : Hid (Nums w' W.heap.size v' (gvL true L.fr (P.lanes.take j) ++ [z])) := hN'
        have B' : Hid (Below W.heap.size W w') := (al B3.out _).grown hG' (by have := Z3.out; simp; omega) (fun k hk => (N3.out.lt k hk).1)
        clear hN' hG'
        go_wp2_with fail
        go_roundw
        case rel => exact ⟨j + 1, by have := HLT.out; omega, by go_num, by rw [S3.out]; exact N'.out, B'.out⟩
        case measure => have := HLT.out; simp [intOf]; omega
      · have S2 : Hid (gvL true gu (P.lanes.take (j + 1)) = gvL true gu (P.lanes.take j)) := by show _ = _; rw [TK.out, if_neg he]; simp
        clear TK
        go_wp2_with fail
        go_roundw
        case rel => exact ⟨j + 1, by have := HLT.out; omega, by go_num, by rw [S2.out]; exact HN.out.keep (al (Below.refl _ _) _), al HB.out _⟩
        case measure => have := HLT.out; simp [intOf]; omega
    · have hJ : ¬ (j : Int) < (n1 : Int) := by omega
      have ET : Hid (gvL true gu (P.lanes.take j) = gvL true gu P.lanes) := by show _ = _; rw [List.take_of_length_le (by have := HL.out; omega)]
      clear hlt hB
      go_wp2_with fail
      go_ret
      exact ⟨_, rfl, by rw [← ET.out]; exact HN.out.mono B0.out.size, on B0.out HB.out⟩
set_option maxRecDepth 20000 in
set_option maxHeartbeats 8000000 in
theorem s_gives (pg : Bool) (q : Nat) (gu : Int) (P : Plc) (w : World) (h : PolAt w q P) (hl : P.lanes.length ≤ 100) :
    Calls Tryz.prog 48 #[.pointer (some ⟨q, 0, none⟩), .int .i64 gu, .bool pg] w fun e w' => ∃ v, e = .returned v ∧ Nums w' w.heap.size v (gvL pg gu P.lanes) ∧ Below w.heap.size w w' := by
  obtain ⟨a0, n0, c0, a1, n1, c1, a2, n2, c2, a3, n3, c3, h0, h1, h2, h3, h4⟩ := h
  have HO : Hid (IsLanes w a1 n1 c1 P.lanes) := h4.lanes
  have H1 : Hid (w.cell? ⟨q, 1, none⟩ = some (.slice a1 n1 c1)) := h1
  have HL : Hid (n1 = P.lanes.length ∧ n1 ≤ 100) := ⟨h4.lanes.len, by have := h4.lanes.len; omega⟩
  have hnI : (n1 : Int) ≤ 100 := by have := HL.out; omega
  clear h0 h1 h2 h3 h4 hl
  go_enter Tryz.func48, Tryz.ntmps48
  go_wp2_with fail
  go_loopw [7, 8] (fun y c wr => ∃ j : Nat, j ≤ n1 ∧ c = .int .i64 j ∧ Nums wr w.heap.size y (gvL pg gu (P.lanes.take j)) ∧ Below w.heap.size w wr) (fun _ c _ => n1 - (intOf c).toNat)
  case atStart => exact ⟨0, Nat.zero_le _, rfl, World.ownsRow_lit w #[] 0 (Nat.le_refl _) (by decide) rfl, al (Below.refl _ _) _⟩
  case round =>
    obtain ⟨j, hj, rfl, hN, hB⟩ := hrel
    have HN : Hid (Nums wr w.heap.size _ (gvL pg gu (P.lanes.take j))) := hN
    have HB : Hid (Below w.heap.size w wr) := hB
    obtain ⟨ya, yc, hy, _, _, _⟩ := hN.shape
    have HLN : Hid ((gvL pg gu (P.lanes.take j)).length ≤ 100) := by show _ ≤ _; have := gv_len pg gu (P.lanes.take j); rw [List.length_take] at this; have := HL.out; omega
    obtain ⟨un, hun⟩ : ∃ un, (gvL pg gu (P.lanes.take j)).length = un := ⟨_, rfl⟩
    rw [hun] at hy
    subst hy
    have q1 := cell_keep hB H1.out
    clear hN hun
    by_cases hlt : j < n1
    · obtain ⟨x, rfl, k0, k1, k2, k3, k4⟩ := (HO.out.stay hB).at j hlt
      have hJ : (j : Int) < (n1 : Int) := by omega
      have HLT : Hid (j < n1) := hlt
      have TK : Hid (_ = _) := gv_take pg gu P.lanes j (by have := HL.out; omega)
      obtain ⟨L, hL⟩ : ∃ L, P.lanes.getD j lz = L := ⟨_, rfl⟩
      rw [hL] at k0 k1 k2 k3 k4 TK
      have SZ : Hid (w.heap.size ≤ wr.heap.size) := hB.size
      clear hL hlt hB
      by_cases he : L.fr = gu
      · have S2 : Hid (gvL pg gu (P.lanes.take (j + 1)) = gvL pg gu (P.lanes.take j) ++ [gvS pg L]) := by show _ = _; rw [TK.out, if_pos he]
        have he2 : (L.fr != gu) = false := by simp [he]
        clear TK
        cases pg
        · have S3 : Hid (gvL false gu (P.lanes.take (j + 1)) = gvL false gu (P.lanes.take j) ++ [L.af]) := S2.out
          go_wp2_with (at_builtin; refine wp_appn _ rfl _ _ rfl w.heap.size _ _ rfl (HN.out.keep (al (Below.refl _ _) _)) wr.heap.size 1 1 [L.af] rfl rfl (one_at (cell_new rfl)) (by have := HLN.out; omega) (by have := SZ.out; simp; omega) ?_; intro v' w' hN' hG')
          have N' : Hid (Nums w' w.heap.size v' (gvL false gu (P.lanes.take j) ++ [L.af])) := hN'
          have B' : Hid (Below w.heap.size w w') := (al HB.out _).grown hG' (by have := SZ.out; simp; omega) (fun k hk => (HN.out.lt k hk).1)
          clear hN' hG'
          go_wp2_with fail
          go_roundw
          case rel => exact ⟨j + 1, by have := HLT.out; omega, by go_num, by rw [S3.out]; exact N'.out, B'.out⟩
          case measure => have := HLT.out; simp [intOf]; omega
        · have S3 : Hid (gvL true gu (P.lanes.take (j + 1)) = gvL true gu (P.lanes.take j) ++ [L.pg]) := S2.out
          go_wp2_with (at_builtin; refine wp_appn _ rfl _ _ rfl w.heap.size _ _ rfl (HN.out.keep (al (Below.refl _ _) _)) wr.heap.size 1 1 [L.pg] rfl rfl (one_at (cell_new rfl)) (by have := HLN.out; omega) (by have := SZ.out; simp; omega) ?_; intro v' w' hN' hG')
          have N' : Hid (Nums w' w.heap.size v' (gvL true gu (P.lanes.take j) ++ [L.pg])) := hN'
          have B' : Hid (Below w.heap.size w w') := (al HB.out _).grown hG' (by have := SZ.out; simp; omega) (fun k hk => (HN.out.lt k hk).1)
          clear hN' hG'
          go_wp2_with fail
          go_roundw
          case rel => exact ⟨j + 1, by have := HLT.out; omega, by go_num, by rw [S3.out]; exact N'.out, B'.out⟩
          case measure => have := HLT.out; simp [intOf]; omega
      · have S2 : Hid (gvL pg gu (P.lanes.take (j + 1)) = gvL pg gu (P.lanes.take j)) := by show _ = _; rw [TK.out, if_neg he]; simp
        have he2 : (L.fr != gu) = true := by simp [he]
        clear TK
        go_wp2_with fail
        go_roundw
        case rel => exact ⟨j + 1, by have := HLT.out; omega, by go_num, by rw [S2.out]; exact HN.out, HB.out⟩
        case measure => have := HLT.out; simp [intOf]; omega
    · have hJ : ¬ (j : Int) < (n1 : Int) := by omega
      have ET : Hid (gvL pg gu (P.lanes.take j) = gvL pg gu P.lanes) := by show _ = _; rw [List.take_of_length_le (by have := HL.out; omega)]
      clear hlt hB
      go_wp2_with fail
      go_ret
      exact ⟨_, rfl, by rw [← ET.out]; exact HN.out, HB.out⟩
end Go.Proofs.YthebikoahfcdaaaGreatDoor
