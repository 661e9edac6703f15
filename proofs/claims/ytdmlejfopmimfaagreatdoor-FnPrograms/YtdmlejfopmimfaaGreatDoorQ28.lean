/- Texts of this seat, joined. -/
import Derived.Maps.AppendAt
import Derived.Test.YtdmlejfopmimfaaGreatDoorQ25
namespace Go.Proofs.YtdmlejfopmimfaaGreatDoor
open Go.RowKit
set_option linter.unusedVariables false

/-- A slice of strings that is read alone. -/
def Rs (w : World) (a : Option Addr) (n cap : Nat) (ss : List Wb) : Prop :=
  (a = none ∧ n = 0 ∧ cap = 0 ∧ ss = []) ∨ ∃ x, a = some x ∧ n ≤ cap ∧ cap ≤ maxLen ∧ ss.length = n ∧ ∀ i, i < n → w.cell? (x.add i) = some (.string (bq (ss.getD i [])))
theorem Rs.len {w : World} {a : Option Addr} {n cap : Nat} {ss : List Wb} (h : Rs w a n cap ss) : n = ss.length := by
  rcases h with ⟨_, h, _, rfl⟩ | ⟨x, _, _, _, h, _⟩
  · exact h
  · exact h.symm
theorem Rs.stay {w w' : World} {a : Option Addr} {n cap : Nat} {ss : List Wb} (h : Rs w a n cap ss) (b : Below w.heap.size w w') : Rs w' a n cap ss := by
  rcases h with h | ⟨x, rfl, h1, h2, h3, h4⟩
  · exact .inl h
  · exact .inr ⟨x, rfl, h1, h2, h3, fun i hi => cell_keep b (h4 i hi)⟩
theorem Rs.at {w : World} {a : Option Addr} {n cap : Nat} {ss : List Wb} (h : Rs w a n cap ss) (i : Nat) (hi : i < n) : ∃ x, a = some x ∧ w.cell? (x.add i) = some (.string (bq (ss.getD i []))) := by
  rcases h with ⟨_, h, _⟩ | ⟨x, h1, _, _, _, h4⟩
  · omega
  · exact ⟨x, h1, h4 i hi⟩
theorem Rs.cut {w : World} {a : Option Addr} {n cap : Nat} {ss : List Wb} (h : Rs w a n cap ss) (k : Nat) (hk : k ≤ n) : Rs w a k cap (ss.take k) := by
  rcases h with ⟨h1, h2, h3, rfl⟩ | ⟨x, rfl, h1, h2, h3, h4⟩
  · exact .inl ⟨h1, by omega, h3, by simp⟩
  · refine .inr ⟨x, rfl, by omega, h2, by simp; omega, fun i hi => ?_⟩
    rw [h4 i (by omega)]
    simp [List.getD, hi]
theorem add_plainL (g i : Nat) : (⟨g, 0, none⟩ : Addr).add i = ⟨g, i, none⟩ := by
  unfold Addr.add
  split
  · rename_i h; subst h; rfl
  · simp
theorem Os.rs {w : World} {base n cap : Nat} {a : Option Addr} {ss : List Wb} (h : Os w base (.slice a n cap) ss) : Rs w a n cap ss := by
  have h0 := h
  obtain ⟨a', c', e, e1, e2, e3, e4⟩ := h.shape
  cases e
  cases a with
  | none =>
    have := e3 rfl
    subst this
    obtain ⟨_, ⟨e, _⟩ | ⟨g, cap', cur, e, _⟩⟩ := h0
    · cases e; exact .inl ⟨rfl, rfl, rfl, rfl⟩
    · cases e
  | some x =>
    obtain ⟨g, rfl⟩ := e4 x rfl
    refine .inr ⟨_, rfl, e1, e2, rfl, fun i hi => ?_⟩
    have hc := World.ownsRow.cellAt h0 i (by omega)
    rw [add_plainL, hc]
    simp [strs, List.getD, List.getElem?_eq_getElem hi]
theorem dropE_eq (p : List Wb) (h : p ≠ []) : dropE p = if p.getD (p.length - 1) [] = [] then p.take (p.length - 1) else p := by
  unfold dropE
  have e : p.getLast? = some (p.getD (p.length - 1) []) := by
    rw [List.getLast?_eq_getElem?, List.getD]
    have : p.length - 1 < p.length := by have := List.length_pos_iff.2 h; omega
    rw [List.getElem?_eq_getElem this]
    rfl
  rw [e, List.dropLast_eq_take]
  by_cases h1 : p.getD (p.length - 1) [] = []
  · rw [if_pos (by rw [h1]), if_pos h1]
  · rw [if_neg (fun x => h1 (Option.some.inj x)), if_neg h1]
theorem spl_len (sep : UInt8) (r cur : Wb) : (spl sep r cur).length ≤ r.length + 1 := by
  induction r generalizing cur with
  | nil => simp [spl]
  | cons c r ih =>
    unfold spl
    split
    · have := ih []; simp; omega
    · have := ih (cur ++ [c]); simp; omega

set_option maxHeartbeats 4000000 in
theorem s_lines (l : Wb) (w : World) (hl : l.length ≤ 1048576) :
    Calls Tryz.prog 27 #[.string (bq l)] w fun e w' => ∃ a n c, e = .returned (.slice a n c) ∧ Rs w' a n c (linesM l) ∧ Below w.heap.size w w' := by
  have hc := fun w => s_cut l 10 w hl
  rw [show ((10 : UInt8).toNat : Int) = 10 from rfl] at hc
  have hne := spl_ne 10 l []
  have hsl := spl_len 10 l []
  have LM : Hid (linesM l = dropE (spl 10 l [])) := rfl
  generalize linesM l = M at *
  generalize spl 10 l [] = P at *
  have DE := dropE_eq P hne
  have hpos := List.length_pos_iff.2 hne
  obtain ⟨n, hn⟩ : ∃ n, P.length = n + 1 := ⟨P.length - 1, by omega⟩
  rw [hn] at DE
  rw [show n + 1 - 1 = n by omega] at DE
  have DEH : Hid (_ = _) := DE
  have HN : Hid (P.length = n + 1 ∧ n ≤ 1048576) := ⟨hn, by omega⟩
  clear hne hsl DE hpos hl
  go_enter Tryz.func27, Tryz.ntmps27
  go_wp2_with fail
  refine (hc _).mono ?_
  rintro e w1 ⟨v, rfl, h1, b1⟩
  obtain ⟨a, cap, rfl, _⟩ := h1.shape
  rw [hn] at h1 ⊢
  have R1 : Hid (Rs w1 a (n + 1) cap P) := h1.rs
  obtain ⟨x, rfl, cx⟩ := R1.out.at n (by omega)
  have hcap : Hid (n + 1 ≤ cap ∧ cap ≤ maxLen) := by
    rcases R1.out with ⟨e, _⟩ | ⟨y, _, k1, k2, _⟩
    · cases e
    · exact ⟨k1, k2⟩
  have B1 : Hid (Below w.heap.size w w1) := b1
  have hnI : (n : Int) ≤ 1048576 := by have := HN.out; omega
  have hcI : (n : Int) + 1 ≤ (cap : Int) := by have := hcap.out; omega
  obtain ⟨z, hz⟩ : ∃ z, P.getD n [] = z := ⟨_, rfl⟩
  rw [hz] at cx DEH
  have BT := bq_toList z
  clear hn h1 b1 hc hz
  by_cases he : z = []
  · have HE : Hid (dropE P = P.take n) := by show _ = _; rw [DEH.out, if_pos he]
    have RT : Hid (Rs w1 (some x) n cap (P.take n)) := R1.out.cut n (by omega)
    subst he
    go_wp2_with fail
    go_ret
    exact ⟨_, _, _, rfl, by rw [LM.out, HE.out]; exact RT.out, B1.out⟩
  · have HE : Hid (dropE P = P) := by show _ = _; rw [DEH.out, if_neg he]
    have hie : z.isEmpty = false := by cases z; exact absurd rfl he; rfl
    go_wp2_with fail
    go_ret
    exact ⟨_, _, _, rfl, by rw [LM.out, HE.out]; exact R1.out, B1.out⟩
theorem wp_pushLA {ops : Array Oper} {rest : List Oper} {o : Oper} {act : Act} {Q : Exit → Act → World → Prop} (w : World) (hgd : o.guard = none) (s x : Operand)
    (ho : o.op = .call { callee := .builtin .append, args := #[s, x], argTypes := #[59, 59] }) (base : Nat) (v : Value) (ss : List Wb)
    (hs : act.eval s = v) (hown : Os w base v ss) (g : Nat) (t : Wb) (hx : act.eval x = .slice (some ⟨g, 0, none⟩) 1 1) (hg : w.cell? ⟨g, 0, none⟩ = some (.string (bq t)))
    (hn : ss.length ≤ 2000000) (hbase : base ≤ w.heap.size)
    (h : ∀ v' w', Os w' base v' (ss ++ [t]) → w.grownBy w' v.ownBlock → (v'.ownBlock = v.ownBlock ∨ v'.ownBlock = some w.heap.size) → wpList Tryz.prog ops Q rest (act.put o.dst v') w') :
    wpList Tryz.prog ops Q (o :: rest) act w := by
  obtain ⟨i, hi, hz0, hz1, hz2⟩ := info_parts info_strL
  refine wpList_append_own_at w hgd s x 59 ho base 9 i _ 1 16 Tryz.underlying59 hi hz0 hz1 hz2 rfl (by decide) v ss.length (strs ss) hs hown ⟨g, 0, none⟩ 1 1 [.string (bq t)] hx rfl ?_ ?_ (by unfold maxLen; omega) (by omega) hbase ?_
  · intro j u hj
    have hj0 : j = 0 := by
      have := (List.getElem?_eq_some_iff.1 hj).1
      simpa using this
    subst hj0
    have hu : Value.string (bq t) = u := by simpa using hj
    subst hu
    exact hg
  · intro u hu
    simp at hu
    subst hu
    rfl
  · intro v' w' h1 h2 _ h4
    refine h v' w' ?_ h2 h4
    unfold Os
    rw [List.length_append, strs_app]
    exact h1
theorem filt_next (f : Wb → Bool) (P : List Wb) (j : Nat) (h : j < P.length) : (P.take (j + 1)).filter f = (P.take j).filter f ++ (if f (P.getD j []) then [P.getD j []] else []) := by
  rw [List.take_add_one, List.getElem?_eq_getElem h, List.filter_append]
  simp [List.getD, List.getElem?_eq_getElem h, List.filter_cons]
theorem filt_len (f : Wb → Bool) (P : List Wb) (j : Nat) : ((P.take j).filter f).length ≤ j := by
  have h1 := List.length_filter_le f (P.take j)
  have h2 : (P.take j).length ≤ j := by rw [List.length_take]; omega
  omega

set_option maxHeartbeats 4000000 in
theorem s_wordsL (l : Wb) (w : World) (hl : l.length ≤ 1048576) :
    Calls Tryz.prog 28 #[.string (bq l)] w fun e w' => ∃ v, e = .returned v ∧ Os w' w.heap.size v (wordsM l) ∧ Below w.heap.size w w' := by
  have hc := fun w => s_cut l 32 w hl
  rw [show ((32 : UInt8).toNat : Int) = 32 from rfl] at hc
  have hsl := spl_len 32 l []
  have LM : Hid (wordsM l = (spl 32 l []).filter neB) := rfl
  generalize wordsM l = M at *
  generalize spl 32 l [] = P at *
  obtain ⟨n, hn⟩ : ∃ n, P.length = n := ⟨_, rfl⟩
  have HN : Hid (P.length = n ∧ n ≤ 1048577) := ⟨hn, by omega⟩
  have hnI : (n : Int) ≤ 1048577 := by omega
  have E0 : Hid (Os (w.alloc (.cells #[] 9)) w.heap.size (.slice (some ⟨w.heap.size, 0, none⟩) 0 0) []) := Os.empty w _ (Nat.le_refl _)
  have B0 : Hid (Below w.heap.size w (w.alloc (.cells #[] 9))) := al (Below.refl _ _) _
  clear hsl hl
  go_enter Tryz.func28, Tryz.ntmps28
  go_wp2_with fail
  refine (hc _).mono ?_
  rintro e w1 ⟨v, rfl, h1, b1⟩
  have B1 : Hid (Below w.heap.size w w1) := on B0.out b1
  have O1 : Hid (Os w1 w.heap.size (.slice (some ⟨w.heap.size, 0, none⟩) 0 0) []) := E0.out.keep b1
  have h2 : Os w1 (w.heap.size + 1) v P := by have h := h1; rw [World.size_alloc] at h; exact h
  obtain ⟨a, cap, rfl, _⟩ := h2.shape
  rw [hn] at h2 ⊢
  have R1 : Hid (Rs w1 a n cap P) := h2.rs
  have HV : Hid (Os w1 (w.heap.size + 1) (.slice a n cap) P) := h2
  clear hn h1 b1 hc h2 E0 B0
  go_wp2_with fail
  go_loopw [3, 5] (fun u i wr => ∃ j : Nat, j ≤ n ∧ i = .int .i64 j ∧ Os wr w.heap.size u ((P.take j).filter neB) ∧ Os wr (w.heap.size + 1) (.slice a n cap) P ∧ Below w.heap.size w wr ∧ Hid ((Value.slice a n cap).ownBlock = none ∨ (Value.slice a n cap).ownBlock ≠ u.ownBlock)) (fun _ i _ => n - (intOf i).toNat)
  case atStart =>
    refine ⟨0, Nat.zero_le _, rfl, O1.out, HV.out, B1.out, ?_⟩
    show _ ∨ _
    cases e : (Value.slice a n cap).ownBlock with
    | none => exact .inl rfl
    | some k =>
      refine .inr fun e2 => ?_
      have := (HV.out.lt k e).1
      simp [Value.ownBlock] at e2
      omega
  case round =>
    obtain ⟨j, hj, rfl, hO, hV, hB, hD⟩ := hrel
    by_cases hlt : j < n
    · have hJ : (j : Int) < (n : Int) := by omega
      have HL : Hid (j < n) := hlt
      obtain ⟨x, rfl, cx⟩ := hV.rs.at j hlt
      have FN : Hid ((P.take (j + 1)).filter neB = (P.take j).filter neB ++ (if neB (P.getD j []) then [P.getD j []] else [])) := filt_next neB P j (by have := HN.out; omega)
      have FL : Hid (((P.take j).filter neB).length ≤ j) := filt_len neB P j
      obtain ⟨z, hz⟩ : ∃ z, P.getD j [] = z := ⟨_, rfl⟩
      rw [hz] at cx FN
      have BT := bq_toList z
      obtain ⟨F, hF⟩ : ∃ F, (P.take j).filter neB = F := ⟨_, rfl⟩
      rw [hF] at FN FL hO
      obtain ⟨au, cu, rfl, _⟩ := hO.shape
      obtain ⟨lu, hlu⟩ : ∃ lu, F.length = lu := ⟨_, rfl⟩
      rw [hlu] at hO hD ⊢
      have HO : Hid (Os wr w.heap.size (.slice au lu cu) F) := hO
      have HVj : Hid (Os wr (w.heap.size + 1) (.slice (some x) n cap) P) := hV
      have HB : Hid (Below w.heap.size w wr) := hB
      have FLL : Hid (F.length ≤ j) := FL.out
      clear hO hV hB hz hF hlu FL hlt
      by_cases he : z = []
      · subst he
        have FE : Hid ((P.take (j + 1)).filter neB = F) := by show _ = _; rw [FN.out]; simp [neB]
        go_wp2_with fail
        go_roundw
        case rel => exact ⟨j + 1, by have := HL.out; omega, by go_num, by rw [FE.out]; exact HO.out, HVj.out, HB.out, hD⟩
        case measure => have := HL.out; simp [intOf] <;> omega
      · have hie : z.isEmpty = false := by cases z; exact absurd rfl he; rfl
        have FE : Hid ((P.take (j + 1)).filter neB = F ++ [z]) := by show _ = _; rw [FN.out]; simp [neB, hie]
        go_upto_region 5 with (at_builtin; refine wp_pushLA _ rfl _ _ rfl w.heap.size _ F rfl (HO.out.keep (al (Below.refl _ _) _)) _ z rfl (cell_new rfl) (by have := HN.out; have := HL.out; have := FLL.out; omega) (by have := HB.out.size; simp <;> omega) ?_; intro u2 w2 hW2 hG2 hA2)
        have W2 : Hid (Os w2 w.heap.size u2 (F ++ [z])) := hW2
        have V2 : Hid (Os w2 (w.heap.size + 1) (.slice (some x) n cap) P) := (HVj.out.keep (al (Below.refl _ _) _)).kept hG2 hD.out
        have B2 : Hid (Below w.heap.size w w2) := (al HB.out _).grown hG2 (by have := HB.out.size; simp <;> omega) (fun k e => (HO.out.lt k e).1)
        have D2 : Hid ((Value.slice (some x) n cap).ownBlock = none ∨ (Value.slice (some x) n cap).ownBlock ≠ u2.ownBlock) := by
          rcases hA2 with e | e
          · rw [e]; exact hD.out
          · cases e3 : (Value.slice (some x) n cap).ownBlock with
            | none => exact .inl rfl
            | some k =>
              refine .inr fun e2 => ?_
              rw [e] at e2
              have := (HVj.out.lt k e3).2
              have h5 := Option.some.inj e2
              rw [World.size_alloc] at h5
              omega
        clear hW2 hG2 hA2 hD
        go_wp2_with fail
        go_roundw
        case rel => exact ⟨j + 1, by have := HL.out; omega, by go_num, by rw [FE.out]; exact W2.out, V2.out, B2.out, D2⟩
        case measure => have := HL.out; simp [intOf] <;> omega
    · have hJ : ¬ (j : Int) < (n : Int) := by omega
      have EJ : Hid ((P.take j).filter neB = M) := by show _ = _; rw [LM.out, List.take_of_length_le (by have := HN.out; omega)]
      have HO : Hid (Os wr w.heap.size _ ((P.take j).filter neB)) := hO
      clear hO
      go_wp2_with fail
      go_ret
      exact ⟨_, rfl, by rw [← EJ.out]; exact HO.out, hB⟩
end Go.Proofs.YtdmlejfopmimfaaGreatDoor
