/- A number is put into a rising list, by the model. -/
import Derived.Test.YtddeaibkdpomlaaGreatDoorMemr
import Derived.Laws.AppendOwn
import Derived.Laws.AppendOwnNone
import Derived.Deep.RegionLaw
namespace Go.Proofs.YtddeaibkdpomlaaGreatDoor
open Go.RowKit
set_option linter.unusedVariables false

/-- append of numbers to a slice of the call's own, as a step of a region. -/
theorem step_append {ops : Array Oper} {o : Oper} {act : Act} {w : World} {K : Act → World → Prop} {Q : Exit → Act → World → Prop} {E : Prop} (hgd : o.guard = none) (s x : Operand)
    (ho : o.op = .call { callee := .builtin .append, args := #[s, x], argTypes := #[32, 32] }) (base : Nat) (v : Value) (zs : List Int) (hs : act.eval s = v) (hN : Nums w base v zs)
    (ao : Option Addr) (m c : Nat) (ys : List Int) (hx : act.eval x = .slice ao m c) (hy : ys.length = m) (hnone : ao = none → m = 0 ∧ c = 0) (hc : ∀ ad, ao = some ad → ∀ i, i < m → w.cell? (ad.add i) = some (.int .i64 (ys.getD i 0)))
    (hlen : zs.length + m ≤ 1000000000) (B : Nat) (w0 : World) (hb : Below B w0 w) (hB : B ≤ base) (hbase : base ≤ w.heap.size)
    (h : ∀ v' w', Hid (Nums w' base v' (zs ++ ys)) → w.grownBy w' v.ownBlock → Below B w0 w' → K (act.put o.dst v') w') :
    if Region.wanted o (yielded ops act.tmps) = true then Oper.wp Tryz.prog o act w K Q else E := by
  have hw : Region.wanted o (yielded ops act.tmps) = true := by simp [Region.wanted, hgd]
  rw [if_pos hw]
  obtain ⟨i, hi, hz0, hz1, hz2⟩ := info_parts info_i64
  cases ao with
  | none =>
    obtain ⟨rfl, rfl⟩ := hnone rfl
    obtain rfl : ys = [] := List.eq_nil_of_length_eq_zero hy
    have hrun := run_append_owned_none (P := Tryz.prog) (w := w) base 32 o.type 2 i 1 Tryz.underlying32 hi v zs.length _ hN
    unfold Oper.wp
    simp [execOp, ho, resolve, invoke, builtin, hs, hx, hrun, Result.andThen]
    exact h v w (show Nums _ _ _ _ by rw [List.append_nil]; exact hN) (World.grownBy.refl _ _) hb
  | some ad =>
    refine wp_append_own w s x 32 ho base 2 i _ 1 8 Tryz.underlying32 hi hz0 hz1 hz2 rfl (by decide) v zs.length _ hs hN ad m c (ys.map (Value.int .i64)) hx (by simpa using hy) ?_ ?_ (by unfold maxLen; omega) (by omega) hbase ?_
    · intro j u hj
      have hjl : j < ys.length := by have := (List.getElem?_eq_some_iff.1 hj).1; simpa using this
      rw [List.getElem?_map, List.getElem?_eq_getElem hjl] at hj
      have := hc ad rfl j (by omega)
      rw [List.getD, List.getElem?_eq_getElem hjl] at this
      rw [this]
      exact hj
    · intro u hu
      obtain ⟨z, _, rfl⟩ := List.mem_map.1 hu
      rfl
    · intro v' w' hown hgrow _
      refine h v' w' ?_ hgrow (hb.grown hgrow (Nat.le_trans hB hbase) (fun k hk => Nat.le_trans hB (hN.lt k hk).1))
      show Nums _ _ _ _
      unfold Nums
      rw [List.length_append, hy, List.map_append]
      exact hown

theorem Nums.empty' (w : World) (base g : Nat) (h : w.heap[g]? = some (.cells #[] 2 (0, 0))) (hb : base ≤ g) : Nums w base (.slice (some ⟨g, 0, none⟩) 0 0) [] :=
  ⟨rfl, .inr ⟨g, 0, #[], rfl, hb, h, Nat.le_refl _, by decide, rfl, rfl⟩⟩

theorem heap_second (w : World) (a b : Obj) : ((w.alloc a).alloc b).heap[w.heap.size]? = some a := by
  rw [Below.heap_alloc _ _ _ (by simp)]
  exact heap_alloc_new w a
theorem heap_third (w : World) (a b : Obj) : ((w.alloc a).alloc b).heap[w.heap.size + 1]? = some b := by
  have := heap_alloc_new (w.alloc a) b
  rwa [World.size_alloc] at this
theorem cell_third (w : World) (a : Obj) (x : Value) (t : TypeId) : ((w.alloc a).alloc (.cells #[x] t)).cell? ⟨w.heap.size + 1, 0, none⟩ = some x := by
  have := cell_new (w := w.alloc a) (cs := #[x]) (t := t) (i := 0) (v := x) rfl
  rwa [World.size_alloc] at this
theorem one_cell {w : World} {g : Nat} {v : Int} (h : w.cell? ⟨g, 0, none⟩ = some (.int .i64 v)) : ∀ ad, some (⟨g, 0, none⟩ : Addr) = some ad → ∀ i, i < 1 → w.cell? (ad.add i) = some (.int .i64 (([v] : List Int).getD i 0)) := by
  intro ad had i hi
  obtain rfl := Option.some.inj had
  obtain rfl : i = 0 := by omega
  exact h
theorem rise_pre {w : World} {b g n cap i : Nat} {zs : List Int} (h : Nums w b (.slice (some ⟨g, 0, none⟩) n cap) zs) (hn : n = zs.length) (hi : i ≤ n) :
    ∀ wz, Below w.heap.size w wz → ∀ ad, some (⟨g, 0, none⟩ : Addr) = some ad → ∀ k, k < i → wz.cell? (ad.add k) = some (.int .i64 ((zs.take i).getD k 0)) := by
  intro wz hb ad had k hk
  obtain rfl := Option.some.inj had
  rw [Addr.add_lit, Nat.zero_add, cell_keep hb (h.cell hn k (by omega))]
  simp [List.getD, hk]
theorem rise_post {w : World} {b g n cap i : Nat} {zs : List Int} (h : Nums w b (.slice (some ⟨g, 0, none⟩) n cap) zs) (hn : n = zs.length) (hi : i ≤ n) :
    ∀ wz, Below w.heap.size w wz → ∀ ad, some (⟨g, i, none⟩ : Addr) = some ad → ∀ k, k < n - i → wz.cell? (ad.add k) = some (.int .i64 ((zs.drop i).getD k 0)) := by
  intro wz hb ad had k hk
  obtain rfl := Option.some.inj had
  rw [Addr.add_lit, cell_keep hb (h.cell hn (i + k) (by omega))]
  simp [List.getD]

/-- Where v goes in. -/
def riseL (zs : List Int) (v : Int) (j : Nat) : List Int := zs.take j ++ [v] ++ zs.drop j

set_option maxHeartbeats 4000000 in
theorem rise_row (g n cap : Nat) (zs : List Int) (v : Int) (b j : Nat) (w : World) (h : Nums w b (.slice (some ⟨g, 0, none⟩) n cap) zs) (hn : n ≤ 1000) (hj : j ≤ n) (hlt : ∀ i, i < j → zs.getD i 0 < v) (hgt : j < n → v < zs.getD j 0) :
    Calls Tryz.prog 33 #[.slice (some ⟨g, 0, none⟩) n cap, .int .i64 v] w fun e w' => ∃ u, e = .returned u ∧ Nums w' w.heap.size u (riseL zs v j) ∧ Below w.heap.size w w' := by
  have HZ : Hid (Nums w b _ zs) := h
  have HN : Hid (n = zs.length) := h.len
  obtain ⟨l1, l2⟩ := h.lens
  unfold maxLen at l2
  have HLT : Hid (∀ i, i < j → zs.getD i 0 < v) := hlt
  have HGT : Hid (j < n → v < zs.getD j 0) := hgt
  have hni : (n : Int) ≤ 1000 := by omega
  clear h hlt hgt
  go_enter Tryz.func33, Tryz.ntmps33
  go_wp2_with fail
  go_loop [5] (fun c => ∃ i : Nat, i ≤ j ∧ c = .int .i64 i) (fun c => j - (intOf c).toNat)
  case atStart => exact ⟨0, Nat.zero_le _, rfl⟩
  case round =>
    obtain ⟨i, hi, rfl⟩ := hrel
    by_cases hij : i < j
    · have c1 := HZ.out.cell HN.out i (by omega)
      have hz := HLT.out i hij
      have hI : (i : Int) < (n : Int) := by omega
      generalize zs.getD i 0 = z at *
      have HIJ : Hid (i < j) := hij
      clear hij
      go_wp2_with fail
      go_round
      case rel => exact ⟨i + 1, by have := HIJ.out; omega, by go_num⟩
      case measure => have := HIJ.out; simp [intOf]; omega
    · obtain rfl : i = j := by omega
      clear hij hi
      by_cases hin : i < n
      · have c1 := HZ.out.cell HN.out i hin
        have hz := HGT.out hin
        have hI : (i : Int) < (n : Int) := by omega
        generalize zs.getD i 0 = z at *
        have hz1 : ¬ z < v := by omega
        have hz2 : (z == v) = false := by simp; omega
        have hic : (i : Int) ≤ (cap : Int) := by omega
        have hci : ¬ cap = i := by omega
        have hX1 : Hid (∀ wz, Below w.heap.size w wz → ∀ ad, some (⟨g, 0, none⟩ : Addr) = some ad → ∀ k, k < i → wz.cell? (ad.add k) = some (.int .i64 ((zs.take i).getD k 0))) := rise_pre HZ.out HN.out hj
        have hX2 : Hid (∀ wz, Below w.heap.size w wz → ∀ ad, some (⟨g, i, none⟩ : Addr) = some ad → ∀ k, k < n - i → wz.cell? (ad.add k) = some (.int .i64 ((zs.drop i).getD k 0))) := rise_post HZ.out HN.out hj
        have HL : Hid (zs.length ≤ 1000 ∧ (zs.take i).length = i ∧ (zs.drop i).length = n - i) := ⟨by have := HN.out; omega, by have := HN.out; simp; omega, by have := HN.out; simp; omega⟩
        go_wp2_with fail
        clear hz hz1 hz2 c1
        go_region_law (first
          | (refine step_append rfl (.tmp 33) (.tmp 36) rfl w.heap.size (.slice (some ⟨w.heap.size, 0, none⟩) 0 0) [] (by simp [Act.eval]) (Nums.empty' _ _ _ (by first | exact heap_alloc_new _ _ | exact heap_second _ _ _) (Nat.le_refl _)) (some ⟨g, 0, none⟩) i cap (zs.take i) (by simp [Act.eval]) HL.out.2.1 (by simp) (hX1.out _ (by first | exact al (Below.refl _ _).drew _ | exact al (al (Below.refl _ _).drew _) _)) (by have := HL.out; simp; omega) w.heap.size w (by first | exact al (Below.refl _ _).drew _ | exact al (al (Below.refl _ _).drew _) _) (Nat.le_refl _) (by simp <;> omega) ?_; intro v1 w1 N1 G1 B1)
          | (refine step_append rfl (.tmp 33) (.tmp 36) rfl w.heap.size (.slice (some ⟨w.heap.size + 1, 0, none⟩) 0 0) [] (by simp [Act.eval]) (Nums.empty' _ _ _ (by exact heap_third _ _ _) (by simp)) (some ⟨g, 0, none⟩) i cap (zs.take i) (by simp [Act.eval]) HL.out.2.1 (by simp) (hX1.out _ (by first | exact al (Below.refl _ _).drew _ | exact al (al (Below.refl _ _).drew _) _)) (by have := HL.out; simp; omega) w.heap.size w (by first | exact al (Below.refl _ _).drew _ | exact al (al (Below.refl _ _).drew _) _) (Nat.le_refl _) (by simp <;> omega) ?_; intro v1 w1 N1 G1 B1)
          | (refine step_append rfl (.tmp 37) (.tmp 39) rfl w.heap.size v1 _ (by simp [Act.eval]) (N1.out.keep (al (Below.refl _ _) _)) (some ⟨w1.heap.size, 0, none⟩) 1 1 [v] (by simp [Act.eval]) rfl (by simp) (one_cell (cell_new rfl)) (by have := HL.out; simp; omega) w.heap.size w (al B1 _) (Nat.le_refl _) (by have := B1.size; simp; omega) ?_; intro v2 w2 N2 G2 B2)
          | (refine step_append rfl (.tmp 37) (.tmp 39) rfl w.heap.size v1 _ (by simp [Act.eval]) N1.out (some ⟨w.heap.size + 1, 0, none⟩) 1 1 [v] (by simp [Act.eval]) rfl (by simp) (one_cell (cell_grown G1 (cell_third _ _ _ _) (by simp [Value.ownBlock]))) (by have := HL.out; simp; omega) w.heap.size w B1 (Nat.le_refl _) B1.size ?_; intro v2 w2 N2 G2 B2)
          | (refine step_append rfl (.tmp 37) (.tmp 39) rfl w.heap.size v1 _ (by simp [Act.eval]) N1.out (some ⟨w.heap.size, 0, none⟩) 1 1 [v] (by simp [Act.eval]) rfl (by simp) (one_cell (cell_grown G1 (cell_push _ (cell_new rfl)) (by simp [Value.ownBlock]))) (by have := HL.out; simp; omega) w.heap.size w B1 (Nat.le_refl _) B1.size ?_; intro v2 w2 N2 G2 B2)
          | (refine step_append rfl (.tmp 40) (.tmp 43) rfl w.heap.size v2 _ (by simp [Act.eval]) N2.out (some ⟨g, i, none⟩) (n - i) (cap - i) (zs.drop i) (by simp [Act.eval]) HL.out.2.2 (by simp) (hX2.out _ B2) (by have := HL.out; simp; omega) w.heap.size w B2 (Nat.le_refl _) B2.size ?_; intro v3 w3 N3 G3 B3))
        all_goals have NN : Hid (Nums w3 w.heap.size v3 (riseL zs v i)) := by exact N3.out
        all_goals have BB : Hid (Below w.heap.size w w3) := B3
        all_goals clear N1 G1 B1 N2 G2 B2 N3 G3 B3
        all_goals go_wp2_with fail
        all_goals go_ret
        all_goals exact ⟨_, rfl, NN.out, BB.out⟩
      · have hI : ¬ (i : Int) < (n : Int) := by omega
        obtain rfl : i = n := by omega
        have hX1 : Hid (∀ wz, Below w.heap.size w wz → ∀ ad, some (⟨g, 0, none⟩ : Addr) = some ad → ∀ k, k < i → wz.cell? (ad.add k) = some (.int .i64 ((zs.take i).getD k 0))) := rise_pre HZ.out HN.out (Nat.le_refl _)
        have HL : Hid (zs.length ≤ 1000 ∧ (zs.take i).length = i ∧ zs.drop i = []) := ⟨by have := HN.out; omega, by have := HN.out; simp; omega, by have := HN.out; simp; omega⟩
        by_cases hci : cap = i
        · subst hci
          have hic : (cap : Int) ≤ (cap : Int) := by omega
          go_wp2_with fail
          go_region_law (first
          | (refine step_append rfl (.tmp 33) (.tmp 36) rfl w.heap.size (.slice (some ⟨w.heap.size, 0, none⟩) 0 0) [] (by simp [Act.eval]) (Nums.empty' _ _ _ (by first | exact heap_alloc_new _ _ | exact heap_second _ _ _) (Nat.le_refl _)) (some ⟨g, 0, none⟩) cap cap (zs.take cap) (by simp [Act.eval]) HL.out.2.1 (by simp) (hX1.out _ (by first | exact al (Below.refl _ _).drew _ | exact al (al (Below.refl _ _).drew _) _)) (by have := HL.out; simp; omega) w.heap.size w (by first | exact al (Below.refl _ _).drew _ | exact al (al (Below.refl _ _).drew _) _) (Nat.le_refl _) (by simp <;> omega) ?_; intro v1 w1 N1 G1 B1)
          | (refine step_append rfl (.tmp 33) (.tmp 36) rfl w.heap.size (.slice (some ⟨w.heap.size + 1, 0, none⟩) 0 0) [] (by simp [Act.eval]) (Nums.empty' _ _ _ (by exact heap_third _ _ _) (by simp)) (some ⟨g, 0, none⟩) cap cap (zs.take cap) (by simp [Act.eval]) HL.out.2.1 (by simp) (hX1.out _ (by first | exact al (Below.refl _ _).drew _ | exact al (al (Below.refl _ _).drew _) _)) (by have := HL.out; simp; omega) w.heap.size w (by first | exact al (Below.refl _ _).drew _ | exact al (al (Below.refl _ _).drew _) _) (Nat.le_refl _) (by simp <;> omega) ?_; intro v1 w1 N1 G1 B1)
          | (refine step_append rfl (.tmp 37) (.tmp 39) rfl w.heap.size v1 _ (by simp [Act.eval]) (N1.out.keep (al (Below.refl _ _) _)) (some ⟨w1.heap.size, 0, none⟩) 1 1 [v] (by simp [Act.eval]) rfl (by simp) (one_cell (cell_new rfl)) (by have := HL.out; simp; omega) w.heap.size w (al B1 _) (Nat.le_refl _) (by have := B1.size; simp; omega) ?_; intro v2 w2 N2 G2 B2)
          | (refine step_append rfl (.tmp 37) (.tmp 39) rfl w.heap.size v1 _ (by simp [Act.eval]) N1.out (some ⟨w.heap.size + 1, 0, none⟩) 1 1 [v] (by simp [Act.eval]) rfl (by simp) (one_cell (cell_grown G1 (cell_third _ _ _ _) (by simp [Value.ownBlock]))) (by have := HL.out; simp; omega) w.heap.size w B1 (Nat.le_refl _) B1.size ?_; intro v2 w2 N2 G2 B2)
          | (refine step_append rfl (.tmp 37) (.tmp 39) rfl w.heap.size v1 _ (by simp [Act.eval]) N1.out (some ⟨w.heap.size, 0, none⟩) 1 1 [v] (by simp [Act.eval]) rfl (by simp) (one_cell (cell_grown G1 (cell_push _ (cell_new rfl)) (by simp [Value.ownBlock]))) (by have := HL.out; simp; omega) w.heap.size w B1 (Nat.le_refl _) B1.size ?_; intro v2 w2 N2 G2 B2)
          | (refine step_append rfl (.tmp 40) (.tmp 43) rfl w.heap.size v2 _ (by simp [Act.eval]) N2.out (some ⟨g, 0, none⟩) 0 0 [] (by simp [Act.eval]) rfl (by simp) (fun _ _ k hk => absurd hk (Nat.not_lt_zero k)) (by have := HL.out; simp; omega) w.heap.size w B2 (Nat.le_refl _) B2.size ?_; intro v3 w3 N3 G3 B3))
          all_goals have NN : Hid (Nums w3 w.heap.size v3 (riseL zs v cap)) := by have := N3.out; unfold riseL; rw [HL.out.2.2]; exact this
          all_goals have BB : Hid (Below w.heap.size w w3) := B3
          all_goals clear N1 G1 B1 N2 G2 B2 N3 G3 B3
          all_goals go_wp2_with fail
          all_goals go_ret
          all_goals exact ⟨_, rfl, NN.out, BB.out⟩
        · have hic : (i : Int) ≤ (cap : Int) := by omega
          go_wp2_with fail
          go_region_law (first
          | (refine step_append rfl (.tmp 33) (.tmp 36) rfl w.heap.size (.slice (some ⟨w.heap.size, 0, none⟩) 0 0) [] (by simp [Act.eval]) (Nums.empty' _ _ _ (by first | exact heap_alloc_new _ _ | exact heap_second _ _ _) (Nat.le_refl _)) (some ⟨g, 0, none⟩) i cap (zs.take i) (by simp [Act.eval]) HL.out.2.1 (by simp) (hX1.out _ (by first | exact al (Below.refl _ _).drew _ | exact al (al (Below.refl _ _).drew _) _)) (by have := HL.out; simp; omega) w.heap.size w (by first | exact al (Below.refl _ _).drew _ | exact al (al (Below.refl _ _).drew _) _) (Nat.le_refl _) (by simp <;> omega) ?_; intro v1 w1 N1 G1 B1)
          | (refine step_append rfl (.tmp 33) (.tmp 36) rfl w.heap.size (.slice (some ⟨w.heap.size + 1, 0, none⟩) 0 0) [] (by simp [Act.eval]) (Nums.empty' _ _ _ (by exact heap_third _ _ _) (by simp)) (some ⟨g, 0, none⟩) i cap (zs.take i) (by simp [Act.eval]) HL.out.2.1 (by simp) (hX1.out _ (by first | exact al (Below.refl _ _).drew _ | exact al (al (Below.refl _ _).drew _) _)) (by have := HL.out; simp; omega) w.heap.size w (by first | exact al (Below.refl _ _).drew _ | exact al (al (Below.refl _ _).drew _) _) (Nat.le_refl _) (by simp <;> omega) ?_; intro v1 w1 N1 G1 B1)
          | (refine step_append rfl (.tmp 37) (.tmp 39) rfl w.heap.size v1 _ (by simp [Act.eval]) (N1.out.keep (al (Below.refl _ _) _)) (some ⟨w1.heap.size, 0, none⟩) 1 1 [v] (by simp [Act.eval]) rfl (by simp) (one_cell (cell_new rfl)) (by have := HL.out; simp; omega) w.heap.size w (al B1 _) (Nat.le_refl _) (by have := B1.size; simp; omega) ?_; intro v2 w2 N2 G2 B2)
          | (refine step_append rfl (.tmp 37) (.tmp 39) rfl w.heap.size v1 _ (by simp [Act.eval]) N1.out (some ⟨w.heap.size + 1, 0, none⟩) 1 1 [v] (by simp [Act.eval]) rfl (by simp) (one_cell (cell_grown G1 (cell_third _ _ _ _) (by simp [Value.ownBlock]))) (by have := HL.out; simp; omega) w.heap.size w B1 (Nat.le_refl _) B1.size ?_; intro v2 w2 N2 G2 B2)
          | (refine step_append rfl (.tmp 37) (.tmp 39) rfl w.heap.size v1 _ (by simp [Act.eval]) N1.out (some ⟨w.heap.size, 0, none⟩) 1 1 [v] (by simp [Act.eval]) rfl (by simp) (one_cell (cell_grown G1 (cell_push _ (cell_new rfl)) (by simp [Value.ownBlock]))) (by have := HL.out; simp; omega) w.heap.size w B1 (Nat.le_refl _) B1.size ?_; intro v2 w2 N2 G2 B2)
          | (refine step_append rfl (.tmp 40) (.tmp 43) rfl w.heap.size v2 _ (by simp [Act.eval]) N2.out (some ⟨g, i, none⟩) 0 (cap - i) [] (by simp [Act.eval]) rfl (by simp) (fun _ _ k hk => absurd hk (Nat.not_lt_zero k)) (by have := HL.out; simp; omega) w.heap.size w B2 (Nat.le_refl _) B2.size ?_; intro v3 w3 N3 G3 B3))
          all_goals have NN : Hid (Nums w3 w.heap.size v3 (riseL zs v i)) := by have := N3.out; unfold riseL; rw [HL.out.2.2]; exact this
          all_goals have BB : Hid (Below w.heap.size w w3) := B3
          all_goals clear N1 G1 B1 N2 G2 B2 N3 G3 B3
          all_goals go_wp2_with fail
          all_goals go_ret
          all_goals exact ⟨_, rfl, NN.out, BB.out⟩

set_option maxHeartbeats 2000000 in
theorem rise_nil (v : Int) (w : World) :
    Calls Tryz.prog 33 #[.slice none 0 0, .int .i64 v] w fun e w' => ∃ u, e = .returned u ∧ Nums w' w.heap.size u [v] ∧ Below w.heap.size w w' := by
  go_enter Tryz.func33, Tryz.ntmps33
  go_wp2_with fail
  go_loop [5] (fun c => c = .int .i64 0) (fun _ => 0)
  case atStart => rfl
  case round =>
    subst hrel
    go_wp2_with fail
    go_region_law (first
      | (refine step_append rfl (.tmp 33) (.tmp 36) rfl w.heap.size (.slice (some ⟨w.heap.size, 0, none⟩) 0 0) [] (by simp [Act.eval]) (Nums.empty' _ _ _ (by first | exact heap_alloc_new _ _ | exact heap_second _ _ _) (Nat.le_refl _)) none 0 0 [] (by simp [Act.eval]) rfl (by simp) (fun _ h => nomatch h) (by simp) w.heap.size w (by first | exact al (Below.refl _ _).drew _ | exact al (al (Below.refl _ _).drew _) _) (Nat.le_refl _) (by simp <;> omega) ?_; intro v1 w1 N1 G1 B1)
      | (refine step_append rfl (.tmp 33) (.tmp 36) rfl w.heap.size (.slice (some ⟨w.heap.size + 1, 0, none⟩) 0 0) [] (by simp [Act.eval]) (Nums.empty' _ _ _ (by exact heap_third _ _ _) (by simp)) none 0 0 [] (by simp [Act.eval]) rfl (by simp) (fun _ h => nomatch h) (by simp) w.heap.size w (by first | exact al (Below.refl _ _).drew _ | exact al (al (Below.refl _ _).drew _) _) (Nat.le_refl _) (by simp <;> omega) ?_; intro v1 w1 N1 G1 B1)
      | (refine step_append rfl (.tmp 37) (.tmp 39) rfl w.heap.size v1 _ (by simp [Act.eval]) (N1.out.keep (al (Below.refl _ _) _)) (some ⟨w1.heap.size, 0, none⟩) 1 1 [v] (by simp [Act.eval]) rfl (by simp) (one_cell (cell_new rfl)) (by simp) w.heap.size w (al B1 _) (Nat.le_refl _) (by have := B1.size; simp; omega) ?_; intro v2 w2 N2 G2 B2)
      | (refine step_append rfl (.tmp 37) (.tmp 39) rfl w.heap.size v1 _ (by simp [Act.eval]) N1.out (some ⟨w.heap.size + 1, 0, none⟩) 1 1 [v] (by simp [Act.eval]) rfl (by simp) (one_cell (cell_grown G1 (cell_third _ _ _ _) (by simp [Value.ownBlock]))) (by simp) w.heap.size w B1 (Nat.le_refl _) B1.size ?_; intro v2 w2 N2 G2 B2)
      | (refine step_append rfl (.tmp 37) (.tmp 39) rfl w.heap.size v1 _ (by simp [Act.eval]) N1.out (some ⟨w.heap.size, 0, none⟩) 1 1 [v] (by simp [Act.eval]) rfl (by simp) (one_cell (cell_grown G1 (cell_push _ (cell_new rfl)) (by simp [Value.ownBlock]))) (by simp) w.heap.size w B1 (Nat.le_refl _) B1.size ?_; intro v2 w2 N2 G2 B2)
      | (refine step_append rfl (.tmp 40) (.tmp 43) rfl w.heap.size v2 _ (by simp [Act.eval]) N2.out none 0 0 [] (by simp [Act.eval]) rfl (by simp) (fun _ h => nomatch h) (by simp) w.heap.size w B2 (Nat.le_refl _) B2.size ?_; intro v3 w3 N3 G3 B3))
    all_goals have NN : Hid (Nums w3 w.heap.size v3 [v]) := N3.out
    all_goals have BB : Hid (Below w.heap.size w w3) := B3
    all_goals clear N1 G1 B1 N2 G2 B2 N3 G3 B3
    all_goals go_wp2_with fail
    all_goals go_ret
    all_goals exact ⟨_, rfl, NN.out, BB.out⟩

set_option maxHeartbeats 2000000 in
theorem rise_same (g n cap : Nat) (zs : List Int) (v : Int) (b j : Nat) (w : World) (h : Nums w b (.slice (some ⟨g, 0, none⟩) n cap) zs) (hn : n ≤ 1000) (hj : j < n) (hlt : ∀ i, i < j → zs.getD i 0 < v) (heq : zs.getD j 0 = v) :
    Calls Tryz.prog 33 #[.slice (some ⟨g, 0, none⟩) n cap, .int .i64 v] w fun e w' => e = .returned (.slice (some ⟨g, 0, none⟩) n cap) ∧ w' = w := by
  have HZ : Hid (Nums w b _ zs) := h
  have HN : Hid (n = zs.length) := h.len
  have HLT : Hid (∀ i, i < j → zs.getD i 0 < v) := hlt
  have HEQ : Hid (zs.getD j 0 = v) := heq
  have hni : (n : Int) ≤ 1000 := by omega
  clear h hlt heq
  go_enter Tryz.func33, Tryz.ntmps33
  go_wp2_with fail
  go_loop [5] (fun c => ∃ i : Nat, i ≤ j ∧ c = .int .i64 i) (fun c => j - (intOf c).toNat)
  case atStart => exact ⟨0, Nat.zero_le _, rfl⟩
  case round =>
    obtain ⟨i, hi, rfl⟩ := hrel
    have hI : (i : Int) < (n : Int) := by omega
    by_cases hij : i < j
    · have c1 := HZ.out.cell HN.out i (by omega)
      have hz := HLT.out i hij
      generalize zs.getD i 0 = z at *
      have HIJ : Hid (i < j) := hij
      clear hij
      go_wp2_with fail
      go_round
      case rel => exact ⟨i + 1, by have := HIJ.out; omega, by go_num⟩
      case measure => have := HIJ.out; simp [intOf]; omega
    · obtain rfl : i = j := by omega
      have c1 := HZ.out.cell HN.out i hj
      rw [HEQ.out] at c1
      go_wp2_with fail
      go_ret
      exact ⟨rfl, rfl⟩
end Go.Proofs.YtddeaibkdpomlaaGreatDoor
