/- Texts of this seat, joined. -/
import Derived.Test.YtkfcofjmjbkekaaGreatDoorQ02
import Derived.Test.YtkfcofjmjbkekaaGreatDoorQ08
import Derived.Test.YtkfcofjmjbkekaaGreatDoorQ42
namespace Go.Proofs.YtkfcofjmjbkekaaGreatDoor
open Go.RowKit
set_option linter.unusedVariables false

theorem spl_count (c : UInt8) : ∀ (n : Nat) (l : Wb), l.length < n → (spl c l []).length = Lib.countFrom [c] n l + 1 := by
  intro n
  induction n with
  | zero => intro l h; omega
  | succ n ih =>
    intro l h
    rw [spl_bef, Lib.countFrom, index_bef]
    by_cases hm : c ∈ l
    · have e : (((befP c l).length : Int) == -1) = false := by rw [beq_eq_false_iff_ne]; omega
      have hd : l.drop ((befP c l).length + [c].length) = aftP c l := rfl
      rw [if_pos hm, if_pos hm, e, Int.toNat_natCast, hd, List.length_cons, ih _ (by have := aft_short c l hm; omega)]
      simp only [Bool.false_eq_true, if_false]
      omega
    · rw [if_neg hm, if_neg hm]
      rfl
/-- strings.Split at one byte: the pieces, in a block of their own. -/
theorem i_split (l : Wb) (c : UInt8) (hl : l.length ≤ 1048576) (w : World) (g : Gp w) : Calls Tryz.prog 50 #[.string (bq l), .string ⟨#[c]⟩] w fun e w' =>
    e = .returned (.slice (some ⟨w.heap.size, 0, none⟩) (spl c l []).length (spl c l []).length) ∧ (∀ i, i < (spl c l []).length → w'.cell? ⟨w.heap.size, i, none⟩ = some (.string (bq ((spl c l []).getD i [])))) ∧ Below w.heap.size w w' := by
  obtain ⟨m, hm⟩ := g.ml
  refine (Tryz.strings_Split (bq l) ⟨#[c]⟩ m w (by rw [bq_size]; omega) hm (by show 1 ≤ 1; omega)).mono ?_
  rintro e w' ⟨rfl, rfl⟩
  have hc : Lib.countB (bq l) ⟨#[c]⟩ + 1 = (spl c l []).length := (spl_count c _ l (Nat.lt_succ_self _)).symm
  have hd : (Lib.splitB ⟨#[c]⟩ 0 (Lib.countB (bq l) ⟨#[c]⟩) (bq l)).map (·.data.toList) = spl c l [] := by rw [Lib.splitB_data]; exact split_spl c l
  have hlen : (Lib.splitB ⟨#[c]⟩ 0 (Lib.countB (bq l) ⟨#[c]⟩) (bq l)).length = (spl c l []).length := by rw [← hd, List.length_map]
  rw [hc]
  refine ⟨rfl, fun i hi => cell_new ?_, al (Below.refl _ _) _⟩
  rw [List.getElem?_toArray, List.getElem?_map, List.getElem?_eq_getElem (by omega)]
  show some (Value.string _) = _
  congr 2
  rw [List.getD, ← hd, List.getElem?_map, List.getElem?_eq_getElem (by omega)]
  rfl
theorem one_atP {w : World} {g : Nat} {z : Int} (h : w.cell? ⟨g, 0, none⟩ = some (.int .i64 z)) : ∀ i, i < 1 → w.cell? ⟨g, i, none⟩ = some (.int .i64 (([z] : List Int).getD i 0)) := fun i hi => by
  obtain rfl : i = 0 := by omega
  exact h
def lnQ (w w' : World) (r : Option (Nat × List Int)) (e : Ending) : Prop := match r with
  | some (k, zs) => ∃ v, e = .returned (.tuple #[.int .i64 (k : Int), v, .nilIface]) ∧ Nums w' w.heap.size v zs
  | none => e = .returned (.tuple #[.int .i64 0, .slice none 0 0, .iface 81 (.agg #[.int .i64 5])])
theorem spl_short (c : UInt8) : ∀ (l cur : Wb), ∀ x ∈ spl c l cur, x.length ≤ cur.length + l.length := by
  intro l
  induction l with
  | nil => intro cur x hx; rw [spl] at hx; rw [List.mem_singleton] at hx; subst hx; omega
  | cons y r ih =>
    intro cur x hx
    rw [spl_consP] at hx
    split at hx
    · rcases List.mem_cons.1 hx with rfl | hx
      · omega
      · have := ih [] x hx
        simp at this ⊢
        omega
    · have := ih _ x hx
      simp at this ⊢
      omega
theorem spl_many (c : UInt8) : ∀ (l cur : Wb), (spl c l cur).length ≤ l.length + 1 := by
  intro l
  induction l with
  | nil => intro cur; rw [spl]; simp
  | cons y r ih =>
    intro cur
    rw [spl_consP]
    split
    · have := ih []; simp; omega
    · have := ih (cur ++ [y]); simp; omega
set_option maxRecDepth 20000 in
set_option maxHeartbeats 8000000 in
theorem i_readLine (l : Wb) (hl : l.length ≤ 1000) (w : World) (g : Gp w) : Calls Tryz.prog 33 #[.string (bq l)] w fun e w' => lnQ w w' (lnO l) e ∧ Below w.heap.size w w' := by
  have SPL := i_split l 32 (by omega) w g
  have hmany := spl_many 32 l []
  have hshort := spl_short 32 l []
  obtain ⟨R, hR⟩ : ∃ R, lnO l = R := ⟨_, rfl⟩
  have HR : Hid (lnO l = R) := hR
  unfold lnO at hR
  have hne := spl_ne 32 l []
  obtain ⟨ss, hs⟩ : ∃ ss, spl 32 l [] = ss := ⟨_, rfl⟩
  rw [hs] at SPL hmany hshort hne hR
  obtain ⟨x0, xs, rfl⟩ := List.exists_cons_of_ne_nil hne
  have HRR : Hid ((match fmP x0 xs.length, nsP xs with | some k, some zs => some (k, zs) | _, _ => none) = R) := hR
  rw [HR.out]
  have G : Hid (Gp w) := g
  have X0 : Hid (x0.length ≤ 1048576) := by have := hshort x0 (by simp); rw [List.length_nil, Nat.zero_add] at this; show _ ≤ _; omega
  have XS : Hid (∀ i, i < xs.length → (xs.getD i []).length ≤ 1048576) := fun i hi => by
    have := hshort (xs.getD i []) (by rw [List.getD, List.getElem?_eq_getElem hi]; exact List.mem_cons_of_mem _ (List.getElem_mem hi))
    rw [List.length_nil, Nat.zero_add] at this
    omega
  obtain ⟨n, hn⟩ : ∃ n, xs.length = n := ⟨_, rfl⟩
  have HN : Hid (xs.length = n ∧ n ≤ 1000) := ⟨hn, by simp at hmany; omega⟩
  have hnI : (n : Int) ≤ 1000 := by have := HN.out; omega
  have FRM := fun w2 (b : Below w.heap.size w w2) => i_readForm x0 X0.out n (by have := HN.out; omega) w2 (g.keep b)
  rw [hn] at HRR
  rw [List.length_cons, hn] at SPL
  clear hne hs hR hshort hmany hl HR g hn
  generalize bq l = S at *
  go_enter Tryz.func33, Tryz.ntmps33
  go_wp2_with fail
  refine SPL.mono ?_
  clear SPL
  rintro e w1 ⟨rfl, hc, b1⟩
  have HC : Hid (∀ i, i < n → w1.cell? ⟨w.heap.size, 1 + i, none⟩ = some (.string (bq (xs.getD i [])))) := fun i hi => by
    have := hc (1 + i) (by omega)
    rw [this, Nat.add_comm, List.getD_cons_succ]
  have c0 : w1.cell? ⟨w.heap.size, 0, none⟩ = some (.string (bq x0)) := hc 0 (by omega)
  have B1 : Hid (Below w.heap.size w w1) := b1
  clear hc b1
  go_wp2_with fail
  refine (FRM _ B1.out).mono ?_
  clear FRM
  rintro e w2 ⟨rfl, b2⟩
  have B2 : Hid (Below w1.heap.size w1 w2) := b2
  clear b2 c0
  cases hf : fmP x0 n with
  | none =>
    have e : R = none := by have := HRR.out; rw [hf] at this; exact this.symm
    subst e
    rw [show fmE none = .tuple #[.int .i64 0, .iface 81 (.agg #[.int .i64 5])] from rfl]
    clear hf
    go_wp2_with fail
    go_ret3
    exact ⟨rfl, on B1.out B2.out⟩
  | some k =>
    have HK : Hid (R = match nsP xs with | some zs => some (k, zs) | none => none) := by
      have := HRR.out
      rw [hf] at this
      show _ = _
      rw [← this]
      cases nsP xs <;> rfl
    rw [show fmE (some k) = .tuple #[.int .i64 (k : Int), .nilIface] from rfl]
    have hn0 : ¬ n = 0 := by have := fm_lt hf; omega
    clear hf HRR
    go_wp2_with fail
    go_loopw [2, 3, 28] (fun f v i wr => ∃ (j : Nat) (zs : List Int), f = .int .i64 (k : Int) ∧ j ≤ n ∧ i = .int .i64 (j : Int) ∧ nsP (xs.take j) = some zs ∧ Nums wr w1.heap.size v zs ∧ Below w1.heap.size w1 wr) (fun _ _ i _ => n - (intOf i).toNat)
    case atStart => exact ⟨0, [], rfl, Nat.zero_le _, rfl, rfl, Nums.nil _ _, B2.out⟩
    case round =>
      obtain ⟨j, zs, rfl, hj, rfl, hz, hN, hB⟩ := hrel
      have HZ : Hid (nsP (xs.take j) = some zs) := hz
      have NU : Hid (Nums wr w1.heap.size _ zs) := hN
      have BB : Hid (Below w1.heap.size w1 wr) := hB
      clear hz hN hB
      by_cases hlt : j < n
      · have HJ : Hid (j < n) := hlt
        have hJ : (j : Int) < (n : Int) := by omega
        have cj := cell_keep BB.out (HC.out j hlt)
        have RN := i_readNumber (xs.getD j []) (XS.out j (by have := HN.out; omega))
        have HT := ns_take xs j zs (by have := HN.out; omega) HZ.out
        have HTB := ns_bad xs j (by have := HN.out; omega)
        obtain ⟨y, hy⟩ : ∃ y, xs.getD j [] = y := ⟨_, rfl⟩
        rw [hy] at cj RN HT HTB
        have GW : Hid (Gp wr) := (G.out.keep B1.out).keep BB.out
        cases hn : nmP y with
        | none =>
          have e : R = none := by have := HK.out; rw [HTB hn] at this; exact this
          subst e
          rw [show nmE (nmP y) = .tuple #[.int .i64 0, .iface 81 (.agg #[.int .i64 5])] by rw [hn]; rfl] at RN
          clear HT HTB hn hy hlt hj
          go_wp2_with (go_at_call 52; refine (RN _ GW.out).mono ?_; rintro e w3 ⟨rfl, b3⟩)
          go_ret3
          exact ⟨rfl, on B1.out (on BB.out b3)⟩
        | some z =>
          rw [show nmE (nmP y) = .tuple #[.int .i64 z, .nilIface] by rw [hn]; rfl] at RN
          have HT2 : Hid (nsP (xs.take (j + 1)) = some (zs ++ [z])) := by show _ = _; rw [HT, hn]
          have ZL : Hid (zs.length ≤ 1000) := by have := nsP_len _ _ HZ.out; rw [List.length_take] at this; have := HN.out; show _ ≤ _; omega
          clear HT HTB hn hy hlt hj
          go_wp2_with (first
            | (go_at_call 52; refine (RN _ GW.out).mono ?_; rintro e w3 ⟨rfl, b3⟩; have B3 : Hid (Below wr.heap.size wr w3) := b3; clear b3)
            | (at_builtin; refine wp_appn _ rfl _ _ rfl w1.heap.size _ zs rfl ((NU.out.keep B3.out).keep (al (Below.refl _ _) _)) w3.heap.size 1 1 [z] rfl rfl (one_atP (cell_new rfl)) (by have := ZL.out; omega) (by have := (on BB.out B3.out).size; simp; omega) ?_; intro v' w' hN' hG'; have NN : Hid (Nums w' w1.heap.size v' (zs ++ [z])) := hN'; have BN : Hid (Below w1.heap.size w1 w') := below_of_grown (al (on BB.out B3.out) _) hG' ((NU.out.keep B3.out).keep (al (Below.refl _ _) _)) (Nat.le_refl _); clear hN' hG'))
          go_roundw
          case rel => exact ⟨j + 1, zs ++ [z], rfl, by have := HJ.out; omega, by go_num, HT2.out, NN.out, BN.out⟩
          case measure => have := HJ.out; simp [intOf]; omega
      · have hJ : ¬ (j : Int) < (n : Int) := by omega
        obtain rfl : j = n := by omega
        have e : R = some (k, zs) := by have := HK.out; rw [← HN.out.1, List.take_length] at HZ; rw [HZ.out] at this; exact this
        subst e
        go_wp2_with fail
        go_ret3
        exact ⟨⟨_, rfl, owns_mono NU.out B1.out.size⟩, on B1.out BB.out⟩
end Go.Proofs.YtkfcofjmjbkekaaGreatDoor
