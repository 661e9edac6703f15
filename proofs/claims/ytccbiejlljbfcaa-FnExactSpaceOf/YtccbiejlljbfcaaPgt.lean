/- PagesFrom by the program; append of a pair as a step of a region. -/
import Derived.Test.YtccbiejlljbfcaaPge
import Derived.Deep.RegionLaw
namespace Go.Proofs.Ytccbiejlljbfcaa
open Go.RowKit
set_option linter.unusedVariables false

/-- append of one pair to a slice of the call's own, as a step of a region. -/
theorem step_pair {ops : Array Oper} {o : Oper} {act : Act} {w : World} {K : Act → World → Prop} {Q : Exit → Act → World → Prop} {E : Prop} (t e : TypeId) (he : Try.prog.underlying t = some (.slice e)) (hinfo : (Try.prog.info? e).map (fun i => (i.zero, i.size, i.bytes)) = some (some (.agg #[.int .i64 0, .int .i64 0]), 2, 16))
    (hgd : o.guard = none) (s x : Operand)
    (ho : o.op = .call { callee := .builtin .append, args := #[s, x], argTypes := #[t, t] }) (base : Nat) (v : Value) (rs : List (Int × Int)) (hs : act.eval s = v) (hN : Prs e w base v rs)
    (B : Nat) (a b : Int) (hx : act.eval x = .slice (some ⟨B, 0, none⟩) 1 1) (h0 : w.cell? ⟨B, 0, none⟩ = some (.int .i64 a)) (h1 : w.cell? ⟨B, 1, none⟩ = some (.int .i64 b))
    (hlen : rs.length ≤ 1000000000) (hbase : base ≤ w.heap.size)
    (h : ∀ v' w', Hid (Prs e w' base v' (rs ++ [(a, b)])) → w.grownBy w' v.ownBlock → K (act.put o.dst v') w') :
    if Region.wanted o (yielded ops act.tmps) = true then Oper.wp Try.prog o act w K Q else E := by
  have hw : Region.wanted o (yielded ops act.tmps) = true := by simp [Region.wanted, hgd]
  rw [if_pos hw]
  obtain ⟨i, hi, hz0, hz1, hz2⟩ := info_parts hinfo
  refine wp_append_own w s x t ho base e i _ 2 16 he hi hz0 hz1 hz2 rfl (by decide) v rs.length _ hs hN ⟨B, 0, none⟩ 1 1 (flat [(a, b)]) hx rfl ?_ (flat_one _) (by unfold maxLen; omega) (by omega) hbase ?_
  · intro j u hj
    rw [Addr.add_lit, Nat.zero_add]
    match j, hj with
    | 0, hj => rw [h0]; exact hj
    | 1, hj => rw [h1]; exact hj
    | j + 2, hj => simp [flat] at hj
  · intro v' w' hown hgrow _
    refine h v' w' ?_ hgrow
    show Prs e w' base v' (rs ++ [(a, b)])
    unfold Prs
    rw [List.length_append, flat_append]
    exact hown

theorem cell_new2 {w : World} {a : Obj} {cs : Array Value} {t : TypeId} {i : Nat} {v : Value} (h : cs[i]? = some v) : ((w.alloc a).alloc (.cells cs t)).cell? ⟨w.heap.size + 1, i, none⟩ = some v := by
  have := cell_new (w := w.alloc a) (cs := cs) (t := t) (i := i) h
  rwa [World.size_alloc] at this

theorem frozen_grown {w w' : World} {row : Option Nat} {p : Addr} (g : w.grownBy w' row) (hp : p.block < w.heap.size) (hne : some p.block ≠ row) : w'.frozen? p = w.frozen? p :=
  World.frozen?_of_block (w := w) (g.block p.block hp hne)

def fromC (zs : List Int) : Int := if zs.length = 8 then (if zs.all isW then 0 else 3) else 1
def fromP (zs : List Int) : List (Int × Int) := if zs.length = 8 then (if zs.all isW then zs.map entP else []) else []
theorem from_take (zs : List Int) (j : Nat) (h : j < zs.length) : (zs.take (j + 1)).map entP = (zs.take j).map entP ++ [((entP (zs.getD j 0)).1, (entP (zs.getD j 0)).2)] := by
  rw [List.take_succ_eq_append_getElem h, List.map_append, List.getD, List.getElem?_eq_getElem h]
  rfl

set_option maxHeartbeats 2000000 in
theorem impl_from (v : Value) (zs : List Int) (b : Nat) (w : World) (h : Nums w b v zs) (hm : zs.length ≤ 1048576) :
    Calls Try.prog 57 #[v] w fun e w' => ∃ u, e = .returned (.agg #[.int .i64 (fromC zs), u]) ∧ Prs 64 w' w.heap.size u (fromP zs) ∧ Below w.heap.size w w' := by
  obtain ⟨a, cap, rfl, l1, l2, hg⟩ := h.shape
  by_cases hl : zs.length = 8
  case neg =>
    have e1 : fromC zs = 1 := if_neg hl
    have e2 : fromP zs = [] := if_neg hl
    rw [e1, e2]
    have g1 : ((zs.length : Int) != 8) = true := by simp; omega
    generalize zs.length = n at *
    clear h e1 e2 hl hg
    have hi : (n : Int) ≤ 1048576 := by omega
    go_enter Try.func57, Try.ntmps57
    go_wp2_with fail
    exact bodyPost_ret (v := .agg #[.int .i64 1, .slice none 0 0]) (by simp [results, Try.results57, go_sem]) rfl ⟨_, rfl, Prs.nil _ _ _, al (Below.refl _ _) _⟩
  rw [hl] at hg ⊢
  obtain ⟨g, rfl⟩ := hg (by omega)
  have HZ : Hid (Nums w b (.slice (some ⟨g, 0, none⟩) 8 cap) zs) := by show Nums _ _ _ _; rw [← hl]; exact h
  have HN : Hid (zs.length = 8) := hl
  have HC : Hid (fromC zs = if zs.all isW then 0 else 3) := if_pos hl
  have HP : Hid (fromP zs = if zs.all isW then zs.map entP else []) := if_pos hl
  generalize fromC zs = cz at *
  generalize fromP zs = pz at *
  clear h hl l1 l2 hg hm
  go_enter Try.func57, Try.ntmps57
  go_wp2_with fail
  go_loopw [3, 5, 6, 13] (fun u _ _ c wr => ∃ j : Nat, j ≤ 8 ∧ c = .int .i64 j ∧ (zs.take j).all isW = true ∧ Prs 64 wr (w.heap.size + 1) u ((zs.take j).map entP) ∧ wr.cell? ⟨w.heap.size, 0, none⟩ = some (.int .i64 0) ∧ wr.cell? ⟨w.heap.size, 1, none⟩ = some (.slice none 0 0) ∧ wr.frozen? ⟨w.heap.size, 0, none⟩ = false ∧ wr.frozen? ⟨w.heap.size, 1, none⟩ = false ∧ Below w.heap.size w wr) (fun _ _ _ c _ => 8 - (intOf c).toNat)
  case atStart => exact ⟨0, Nat.zero_le _, rfl, rfl, Prs.nil _ _ _, by simp, by simp, by simp, by simp, al (Below.refl _ _) _⟩
  case round =>
    obtain ⟨j, hj, rfl, hA, hP, r0, r1, f0, f1, hB⟩ := hrel
    have PB : Hid (Prs 64 wr (w.heap.size + 1) _ ((zs.take j).map entP)) := hP
    have HB : Hid (Below w.heap.size w wr) := hB
    have HA : Hid ((zs.take j).all isW = true) := hA
    have s0 : w.heap.size < wr.heap.size := block_of_cell r0
    obtain ⟨ua, uc, rfl, _, _, _⟩ := hP.shape
    have HLN : Hid (((zs.take j).map entP).length ≤ 8 ∧ ((zs.take j).map entP).length ≤ 8) := ⟨by simp; omega, by simp; omega⟩
    generalize hun : ((zs.take j).map entP).length = un at *
    clear hP
    by_cases hlt : j < 8
    · have c1 := cell_keep hB (HZ.out.cell HN.out.symm j hlt)
      have gb : g < wr.heap.size := block_of_cell c1
      have hI : (j : Int) < 8 := by omega
      have HL : Hid (j < 8) := hlt
      have hE := fun w => impl_entryOf (zs.getD j 0) w
      have HT := all_take zs j (by have := HN.out; omega)
      rw [hA] at HT
      have HX := all_not zs j (by have := HN.out; omega)
      have HM := from_take zs j (by have := HN.out; omega)
      cases hw : isW (zs.getD j 0)
      · rw [show entC (zs.getD j 0) = 3 by rw [entC, hw]; rfl, show entE (zs.getD j 0) = (0, 0) by rw [entE, hw]; rfl] at hE
        have HXX : Hid (cz = 3 ∧ pz = []) := ⟨by rw [HC.out, HX hw]; rfl, by rw [HP.out, HX hw]; rfl⟩
        generalize zs.getD j 0 = z at *
        clear hB hlt hA HT HX HM hw
        go_wp2_with fail
        refine (hE _).mono ?_
        rintro e w5 ⟨rfl, b5⟩
        have r0 := cell_keep b5 r0
        have r1 := cell_keep b5 r1
        have f0 : w5.frozen? ⟨w.heap.size, 0, none⟩ = false := by rw [b5.frozen (p := ⟨w.heap.size, 0, none⟩) s0]; exact f0
        have f1 : w5.frozen? ⟨w.heap.size, 1, none⟩ = false := by rw [b5.frozen (p := ⟨w.heap.size, 1, none⟩) s0]; exact f1
        have B5 : Hid (Below w.heap.size w w5) := on HB.out b5
        have s5 : w.heap.size < w5.heap.size := block_of_cell r0
        clear b5
        go_wp2_with fail
        exact bodyPost_ret (v := .agg #[.int .i64 3, .slice none 0 0]) (by simp [results, Try.results57, go_sem, r0, r1, s5]) rfl ⟨_, by rw [HXX.out.1], by rw [HXX.out.2]; exact Prs.nil _ _ _, al ((B5.out.setCell (by simp) _).setCell (by simp) _) _⟩
      · rw [show entC (zs.getD j 0) = 0 by rw [entC, hw]; rfl, show entE (zs.getD j 0) = entP (zs.getD j 0) by rw [entE, hw]; rfl] at hE
        rw [hw] at HT
        have HTT : Hid ((zs.take (j + 1)).all isW = true) := HT
        have HMM : Hid ((zs.take (j + 1)).map entP = (zs.take j).map entP ++ [((entP (zs.getD j 0)).1, (entP (zs.getD j 0)).2)]) := HM
        generalize (entP (zs.getD j 0)).1 = p at *
        generalize (entP (zs.getD j 0)).2 = q at *
        generalize zs.getD j 0 = z at *
        clear hB hlt hA HT HX HM hw
        go_wp2_with fail
        refine (hE _).mono ?_
        rintro e w5 ⟨rfl, b5⟩
        have r0 := cell_keep b5 r0
        have r1 := cell_keep b5 r1
        have f0 : w5.frozen? ⟨w.heap.size, 0, none⟩ = false := by rw [b5.frozen (p := ⟨w.heap.size, 0, none⟩) s0]; exact f0
        have f1 : w5.frozen? ⟨w.heap.size, 1, none⟩ = false := by rw [b5.frozen (p := ⟨w.heap.size, 1, none⟩) s0]; exact f1
        have B5 : Hid (Below w.heap.size w w5) := on HB.out b5
        have P5 : Hid (Prs 64 w5 (w.heap.size + 1) (.slice ua un uc) ((zs.take j).map entP)) := PB.out.keep b5
        have s5 : w.heap.size < w5.heap.size := block_of_cell r0
        have S5 : Hid (w.heap.size < w5.heap.size) := s5
        clear b5 hE
        go_wp2_with (at_builtin; refine wp_pair 28 64 Try.underlying28 info_page _ rfl _ _ rfl (w.heap.size + 1) _ _ rfl (P5.out.keep (al (al (Below.refl _ _) _) _)) _ p q rfl (cell_new2 rfl) (cell_new2 rfl) (by rw [hun]; have := HLN.out; omega) (by have := S5.out; simp; omega) ?_; intro v' w' hP' hG')
        have PP : Hid (Prs 64 w' (w.heap.size + 1) v' _) := hP'
        have BP : Hid (Below w.heap.size w w') := (al (al B5.out _) _).grown hG' (by have := S5.out; simp; omega) (fun k hk => by have := (P5.out.lt k hk).1; omega)
        have hne : some w.heap.size ≠ (Value.slice ua un uc).ownBlock := pown_not P5.out _ (.inl (by omega))
        have r0 := cell_grown hG' (cell_push _ (cell_push _ r0)) hne
        have r1 := cell_grown hG' (cell_push _ (cell_push _ r1)) hne
        have f0 : w'.frozen? ⟨w.heap.size, 0, none⟩ = false := by rw [frozen_grown (p := ⟨w.heap.size, 0, none⟩) hG' (by simp; omega) hne, (al (al (Below.refl w5.heap.size w5) _) _).frozen (p := ⟨w.heap.size, 0, none⟩) s5]; exact f0
        have f1 : w'.frozen? ⟨w.heap.size, 1, none⟩ = false := by rw [frozen_grown (p := ⟨w.heap.size, 1, none⟩) hG' (by simp; omega) hne, (al (al (Below.refl w5.heap.size w5) _) _).frozen (p := ⟨w.heap.size, 1, none⟩) s5]; exact f1
        clear hP' hG' hne
        go_wp2_with fail
        go_roundw
        case rel => exact ⟨j + 1, by have := HL.out; omega, by go_num, HTT.out, by rw [HMM.out]; exact PP.out, r0, r1, f0, f1, BP.out⟩
        case measure => have := HL.out; simp [intOf]; omega
    · have hI : ¬ (j : Int) < 8 := by omega
      obtain rfl : j = 8 := by omega
      have hz8 : zs.take 8 = zs := List.take_of_length_le (Nat.le_of_eq HN.out)
      rw [hz8] at PB HA
      have HXX : Hid (cz = 0 ∧ pz = zs.map entP) := ⟨by rw [HC.out, HA.out]; rfl, by rw [HP.out, HA.out]; rfl⟩
      have hv : Hid (some w.heap.size ≠ (Value.slice ua un uc).ownBlock) := pown_not PB.out _ (.inl (by omega))
      clear hB hA
      go_wp2_with fail
      exact bodyPost_ret (v := .agg #[.int .i64 0, .slice ua un uc]) (by simp [results, Try.results57, go_sem, r0, r1]) rfl ⟨_, by rw [HXX.out.1], by rw [HXX.out.2]; exact ((PB.out.put _ _ (fun e => hv.out e.symm)).put _ _ (fun e => hv.out e.symm)).mono (by omega), (HB.out.setCell (by simp) _).setCell (by simp) _⟩
end Go.Proofs.Ytccbiejlljbfcaa
