/- Texts of this seat, joined. -/
import Derived.Test.YtimcoobhakfnaaaGreatDoorQ09
import Derived.Test.YtimcoobhakfnaaaGreatDoorQ10
import Derived.Test.YtimcoobhakfnaaaGreatDoorQ12
namespace Go.Proofs.YtimcoobhakfnaaaGreatDoor
open Go.RowKit
set_option linter.unusedVariables false

theorem ret_b {a b : Bool} (h : a = b) : Ending.returned (.bool a) = .returned (.bool b) := by rw [h]

set_option maxHeartbeats 1000000 in
theorem i_words (a : Option Addr) (n cap : Nat) (zs : List Int) (w : World) (h : Rn w a n cap zs) :
    Calls Tryz.prog 74 #[.slice a n cap] w fun e w' => e = .returned (.bool (zs.all isW)) ∧ w' = w := by
  have HN : Hid (n = zs.length) := h.len
  have HZ : Hid (Rn w a n cap zs) := h
  have hl : (n : Int) ≤ 9223372036854775807 := by have := h.cap; unfold maxLen at this; omega
  clear h
  go_enter Tryz.func74, Tryz.ntmps74
  go_wp2_with fail
  go_loop [4, 7] (fun _ i => ∃ j : Nat, j ≤ n ∧ i = .int .i64 j ∧ Hid ((zs.take j).all isW = true)) (fun _ i => n - (intOf i).toNat)
  case atStart => exact ⟨0, Nat.zero_le _, rfl, rfl⟩
  case round =>
    obtain ⟨j, hj, rfl, hA⟩ := hrel
    by_cases hlt : j < n
    · obtain ⟨x, rfl, c1⟩ := HZ.out.at j hlt
      have hJ : (j : Int) < (n : Int) := by omega
      have HL : Hid (j < zs.length) := by show _ < _; have := HN.out; omega
      obtain ⟨z, hz⟩ : ∃ z, zs.getD j 0 = z := ⟨_, rfl⟩
      rw [hz] at c1
      have HZZ : Hid (zs.getD j 0 = z) := hz
      clear hz hlt
      cases hw : isW z
      · have HW : Hid (isW z = false) := hw
        go_wp2_with (go_at_call 101; refine (impl_isWord _ _).mono ?_; rintro e x ⟨rfl, rfl⟩; rw [hw])
        go_ret
        exact ⟨ret_b (all_not zs j HL.out (by rw [HZZ.out]; exact HW.out)).symm, rfl⟩
      · have HW : Hid (isW z = true) := hw
        go_wp2_with (go_at_call 101; refine (impl_isWord _ _).mono ?_; rintro e x ⟨rfl, rfl⟩; rw [hw])
        go_round
        case rel => exact ⟨j + 1, by have := HL.out; have := HN.out; omega, by go_num, by show _ = _; rw [all_take zs j HL.out, hA.out, HZZ.out, HW.out]; rfl⟩
        case measure => have := HL.out; have := HN.out; simp [intOf]; omega
    · have hJ : ¬ (j : Int) < (n : Int) := by omega
      obtain rfl : j = n := by omega
      go_wp2_with fail
      go_ret
      exact ⟨ret_b (by have := hA.out; rw [List.take_of_length_le (Nat.le_of_eq HN.out.symm)] at this; exact this.symm), rfl⟩

theorem s_word (z : Int) (w : World) : Calls Tryz.prog 59 #[.int .i64 z] w fun e w' => e = .returned (.bool (isW z)) ∧ w' = w := by
  have hw : (decide (0 ≤ z) && decide (z ≤ 4294967295)) = isW z := rfl
  go_enter Tryz.func59, Tryz.ntmps59
  go_wp2_with (go_at_call 17; refine (spec_in _ _ _ _).mono ?_; rintro e x ⟨rfl, rfl⟩; rw [hw])
  go_ret
  exact ⟨rfl, rfl⟩

set_option maxHeartbeats 1000000 in
theorem s_words (a : Option Addr) (n cap : Nat) (zs : List Int) (w : World) (h : Rn w a n cap zs) :
    Calls Tryz.prog 58 #[.slice a n cap] w fun e w' => e = .returned (.bool (zs.all isW)) ∧ w' = w := by
  have HN : Hid (n = zs.length) := h.len
  have HZ : Hid (Rn w a n cap zs) := h
  have hl : (n : Int) ≤ 9223372036854775807 := by have := h.cap; unfold maxLen at this; omega
  clear h
  go_enter Tryz.func58, Tryz.ntmps58
  go_wp2_with fail
  go_loop [3] (fun i => ∃ j : Nat, j ≤ n ∧ i = .int .i64 j ∧ Hid ((zs.take j).all isW = true)) (fun i => n - (intOf i).toNat)
  case atStart => exact ⟨0, Nat.zero_le _, rfl, rfl⟩
  case round =>
    obtain ⟨j, hj, rfl, hA⟩ := hrel
    by_cases hlt : j < n
    · obtain ⟨x, rfl, c1⟩ := HZ.out.at j hlt
      have hJ : (j : Int) < (n : Int) := by omega
      have HL : Hid (j < zs.length) := by show _ < _; have := HN.out; omega
      obtain ⟨z, hz⟩ : ∃ z, zs.getD j 0 = z := ⟨_, rfl⟩
      rw [hz] at c1
      have HZZ : Hid (zs.getD j 0 = z) := hz
      clear hz hlt
      cases hw : isW z
      · have HW : Hid (isW z = false) := hw
        go_wp2_with (go_at_call 59; refine (s_word _ _).mono ?_; rintro e x ⟨rfl, rfl⟩; rw [hw])
        go_ret
        exact ⟨ret_b (all_not zs j HL.out (by rw [HZZ.out]; exact HW.out)).symm, rfl⟩
      · have HW : Hid (isW z = true) := hw
        go_wp2_with (go_at_call 59; refine (s_word _ _).mono ?_; rintro e x ⟨rfl, rfl⟩; rw [hw])
        go_round
        case rel => exact ⟨j + 1, by have := HL.out; have := HN.out; omega, by go_num, by show _ = _; rw [all_take zs j HL.out, hA.out, HZZ.out, HW.out]; rfl⟩
        case measure => have := HL.out; have := HN.out; simp [intOf]; omega
    · have hJ : ¬ (j : Int) < (n : Int) := by omega
      obtain rfl : j = n := by omega
      go_wp2_with fail
      go_ret
      exact ⟨ret_b (by have := hA.out; rw [List.take_of_length_le (Nat.le_of_eq HN.out.symm)] at this; exact this.symm), rfl⟩

theorem stand_tmod (z m : Int) (h : 0 ≤ z) : z.tmod m = z % m := Int.tmod_eq_emod_of_nonneg h
theorem i_stand (k z : Int) (w : World) (hz : 0 ≤ z) (hz2 : z ≤ 4294967295) :
    Calls Tryz.prog 102 #[.int .i64 k, .int .i64 z] w fun e w' => e = .returned (.int .i64 (standV k z)) ∧ w' = w := by
  have t4 := stand_tmod z 4 hz
  have t8 := stand_tmod z 8 hz
  by_cases h0 : k = 0
  · subst h0
    go_enter Tryz.func102, Tryz.ntmps102
    go_wp2_with fail
    go_ret
    exact ⟨by simp [standV], rfl⟩
  by_cases h7 : k = 7
  · subst h7
    go_enter Tryz.func102, Tryz.ntmps102
    go_wp2_with fail
    go_ret
    exact ⟨by simp [standV], rfl⟩
  by_cases h10 : k = 10
  · subst h10
    by_cases h8 : 8 < z
    · go_enter Tryz.func102, Tryz.ntmps102
      go_wp2_with fail
      go_ret
      exact ⟨by simp [standV, h8], rfl⟩
    · go_enter Tryz.func102, Tryz.ntmps102
      go_wp2_with fail
      go_ret
      exact ⟨ret_i (by unfold standV; rw [if_neg (by decide), if_neg (by decide), if_pos rfl, if_neg (by omega)]), rfl⟩
  by_cases h6 : k = 6
  · subst h6
    go_enter Tryz.func102, Tryz.ntmps102
    go_wp2_with fail
    go_ret
    exact ⟨by simp [standV], rfl⟩
  by_cases h8 : k = 8
  · subst h8
    go_enter Tryz.func102, Tryz.ntmps102
    go_wp2_with fail
    go_ret
    exact ⟨by simp [standV], rfl⟩
  have hv : standV k z = z := by simp [standV, h0, h7, h10, h6, h8]
  rw [hv]
  clear hv
  go_enter Tryz.func102, Tryz.ntmps102
  go_wp2_with fail
  go_ret
  exact ⟨rfl, rfl⟩

set_option maxHeartbeats 1000000 in
theorem i_allStand (x : Addr) (cap : Nat) (zs : List Int) (w : World) (h : Rn w (some x) 11 cap zs) (hw : zs.all isW = true) :
    Calls Tryz.prog 75 #[.slice (some x) 11 cap] w fun e w' => e = .returned (.bool (standC zs)) ∧ w' = w := by
  have HN : Hid (zs.length = 11) := h.len.symm
  have HZ : Hid (Rn w (some x) 11 cap zs) := h
  have HW : Hid (zs.all isW = true) := hw
  have HC : Hid ((∀ k : Nat, k < 11 → standV k (zs.getD k 0) = zs.getD k 0) ↔ standC zs = true) := stand_all hw h.len.symm
  clear h hw
  go_enter Tryz.func75, Tryz.ntmps75
  go_wp2_with fail
  go_loop [3, 4, 7] (fun _ _ i => ∃ j : Nat, j ≤ 11 ∧ i = .int .i64 j ∧ Hid (∀ k : Nat, k < j → standV k (zs.getD k 0) = zs.getD k 0)) (fun _ _ i => 11 - (intOf i).toNat)
  case atStart => exact ⟨0, Nat.zero_le _, rfl, fun k hk => absurd hk (Nat.not_lt_zero _)⟩
  case round =>
    obtain ⟨j, hj, rfl, hA⟩ := hrel
    by_cases hlt : j < 11
    · obtain ⟨x', e, c1⟩ := HZ.out.at j hlt
      cases e
      have hJ : (j : Int) < 11 := by omega
      have HL : Hid (j < 11) := hlt
      have ha := all_at HW.out j
      obtain ⟨z, hz⟩ : ∃ z, zs.getD j 0 = z := ⟨_, rfl⟩
      rw [hz] at c1 ha
      have HA : Hid (0 ≤ z ∧ z ≤ 4294967295) := ha
      have HZZ : Hid (zs.getD j 0 = z) := hz
      obtain ⟨u, hu⟩ : ∃ u, standV (j : Int) z = u := ⟨_, rfl⟩
      have HU : Hid (standV (j : Int) z = u) := hu
      clear hz hlt ha hu
      by_cases hs : u = z
      · have HS : Hid (u = z) := hs
        subst hs
        go_wp2_with (go_at_call 102; refine (i_stand _ _ _ HA.out.1 HA.out.2).mono ?_; rintro e x ⟨rfl, rfl⟩; rw [HU.out])
        go_round
        case rel => exact ⟨j + 1, by have := HL.out; omega, by go_num, fun k hk => by
          by_cases e : k = j
          · subst e; rw [HZZ.out]; exact HU.out
          · exact hA.out k (by omega)⟩
        case measure => have := HL.out; simp [intOf]; omega
      · have HS : Hid (¬ u = z) := hs
        go_wp2_with (go_at_call 102; refine (i_stand _ _ _ HA.out.1 HA.out.2).mono ?_; rintro e x ⟨rfl, rfl⟩; rw [HU.out])
        go_ret
        refine ⟨?_, rfl⟩
        cases hc : standC zs
        · rfl
        · exact absurd (HU.out.symm.trans (by have := HC.out.2 hc j HL.out; rw [HZZ.out] at this; exact this)) HS.out
    · have hJ : ¬ (j : Int) < 11 := by omega
      obtain rfl : j = 11 := by omega
      go_wp2_with fail
      go_ret
      exact ⟨ret_b (HC.out.1 hA.out).symm, rfl⟩
end Go.Proofs.YtimcoobhakfnaaaGreatDoor
namespace Go.Proofs.YtimcoobhakfnaaaGreatDoor
open Go.RowKit
set_option linter.unusedVariables false

theorem hf_form {H : Ht} (h : ¬ (H.regs.length = 16 ∧ H.csr.length = 11 ∧ H.regs.getD 0 0 = 0)) : hfV H = 1 := by
  have : H.form = false := by
    cases hf : H.form
    · rfl
    · simp only [Ht.form, Bool.and_eq_true, decide_eq_true_eq] at hf
      exact absurd ⟨hf.1.1, hf.1.2, hf.2⟩ h
  simp [hfV, this]
theorem hf_words {H : Ht} (h : H.regs.length = 16 ∧ H.csr.length = 11 ∧ H.regs.getD 0 0 = 0) (k : H.words = false) : hfV H = 3 := by
  have : H.form = true := by simp only [Ht.form, Bool.and_eq_true, decide_eq_true_eq]; exact ⟨⟨h.1, h.2.1⟩, h.2.2⟩
  simp [hfV, this, k]
theorem hf_few {H : Ht} (h : H.regs.length = 16 ∧ H.csr.length = 11 ∧ H.regs.getD 0 0 = 0) (k : H.words = true) (m : ¬ (H.inn.length ≤ 40 ∧ H.out.length ≤ 40)) : hfV H = 2 := by
  have h1 : H.form = true := by simp only [Ht.form, Bool.and_eq_true, decide_eq_true_eq]; exact ⟨⟨h.1, h.2.1⟩, h.2.2⟩
  have h2 : H.few = false := by
    cases hf : H.few
    · rfl
    · simp only [Ht.few, Bool.and_eq_true, decide_eq_true_eq] at hf
      exact absurd hf m
  simp [hfV, h1, k, h2]
theorem hf_nice {H : Ht} (h : H.regs.length = 16 ∧ H.csr.length = 11 ∧ H.regs.getD 0 0 = 0) (k : H.words = true) (m : H.inn.length ≤ 40 ∧ H.out.length ≤ 40) (d : ¬ (0 ≤ H.done ∧ H.done ≤ 1000000000)) : hfV H = 3 := by
  have h1 : H.form = true := by simp only [Ht.form, Bool.and_eq_true, decide_eq_true_eq]; exact ⟨⟨h.1, h.2.1⟩, h.2.2⟩
  have h2 : H.few = true := by simp only [Ht.few, Bool.and_eq_true, decide_eq_true_eq]; exact m
  have h3 : H.nice = false := by
    cases hf : H.nice
    · rfl
    · simp only [Ht.nice, Bool.and_eq_true, decide_eq_true_eq] at hf
      exact absurd hf d
  simp [hfV, h1, k, h2, h3]
theorem hf_stand {H : Ht} (h : H.regs.length = 16 ∧ H.csr.length = 11 ∧ H.regs.getD 0 0 = 0) (k : H.words = true) (m : H.inn.length ≤ 40 ∧ H.out.length ≤ 40) (d : 0 ≤ H.done ∧ H.done ≤ 1000000000) : hfV H = if standC H.csr then 0 else 1 := by
  have h1 : H.form = true := by simp only [Ht.form, Bool.and_eq_true, decide_eq_true_eq]; exact ⟨⟨h.1, h.2.1⟩, h.2.2⟩
  have h2 : H.few = true := by simp only [Ht.few, Bool.and_eq_true, decide_eq_true_eq]; exact m
  have h3 : H.nice = true := by simp only [Ht.nice, Bool.and_eq_true, decide_eq_true_eq]; exact d
  simp [hfV, h1, k, h2, h3]
end Go.Proofs.YtimcoobhakfnaaaGreatDoor
namespace Go.Proofs.YtimcoobhakfnaaaGreatDoor
open Go.RowKit
set_option linter.unusedVariables false

theorem add_block (x : Addr) (i : Nat) : (x.add i).block = x.block := by unfold Addr.add; split <;> rfl
/-- A list lies in no block of another type. -/
theorem Nums.ne_vb {w : World} {b m : Nat} {v : Value} {zs : List Int} {cs : Array Value} {t : TypeId} (h : Nums w b v zs) (hv : Vb w m cs t) (ht : t ≠ 2) : v.ownBlock ≠ some m := by
  obtain ⟨h1, ⟨rfl, _⟩ | ⟨g, cap, cur, rfl, hg, hr, _⟩⟩ := h
  · intro e; cases e
  · intro e
    have e : g = m := by simpa [Value.ownBlock] using e
    subst e
    unfold Vb at hv
    rw [hv] at hr
    cases hr
    exact ht rfl
theorem Rn.mq {S : Nat → Prop} {w w' : World} {a : Option Addr} {len cap : Nat} {zs : List Int} (h : Rn w a len cap zs) (m : Mq S w w') (hn : ∀ x, a = some x → x.block < w.heap.size → ¬ S x.block) : Rn w' a len cap zs := by
  rcases h with h | ⟨x, rfl, h1, h2, h3, h4⟩
  · exact .inl h
  · refine .inr ⟨x, rfl, h1, h2, h3, fun i hi => ?_⟩
    have hc := h4 i hi
    have hl : x.block < w.heap.size := by have := World.block_lt_of_cell? w (x.add i) hc; rwa [add_block] at this
    rw [← hc]
    exact World.cell?_of_block (a := x.add i) (by rw [add_block]; exact m.block x.block hl (hn x rfl hl))
theorem Rv.mq {S : Nat → Prop} {w w' : World} {v : Value} {zs : List Int} (h : Rv w v zs) (m : Mq S w w') (hn : ∀ k, v.ownBlock = some k → k < w.heap.size → ¬ S k) : Rv w' v zs := by
  obtain ⟨a, cap, rfl, h2⟩ := h
  exact ⟨a, cap, rfl, h2.mq m fun x e hl => hn x.block (by rw [e]; rfl) hl⟩
/-- A machine whose four lists are read alone. -/
structure Hr (w : World) (r c i o : Value) (H : Ht) : Prop where
  r : Rv w r H.regs
  c : Rv w c H.csr
  i : Rv w i H.inn
  o : Rv w o H.out
theorem Hr.stay {w w' : World} {r c i o : Value} {H : Ht} (h : Hr w r c i o H) (b : Below w.heap.size w w') : Hr w' r c i o H := ⟨h.r.stay b, h.c.stay b, h.i.stay b, h.o.stay b⟩
theorem Hm.hr {w : World} {base : Nat} {r c i o : Value} {H : Ht} (h : Hm w base r c i o H) : Hr w r c i o H := ⟨h.r.rv, h.c.rv, h.i.rv, h.o.rv⟩
theorem Hr.mq {S : Nat → Prop} {w w' : World} {r c i o : Value} {H : Ht} (h : Hr w r c i o H) (m : Mq S w w') (hn : ∀ k, Own4 r c i o k → k < w.heap.size → ¬ S k) : Hr w' r c i o H :=
  ⟨h.r.mq m fun k e => hn k (.inl e), h.c.mq m fun k e => hn k (.inr (.inl e)), h.i.mq m fun k e => hn k (.inr (.inr (.inl e))), h.o.mq m fun k e => hn k (.inr (.inr (.inr e)))⟩

set_option maxHeartbeats 1000000 in
theorem eq_rn (v u : Value) (zs : List Int) (w : World) (h : Rv w v zs) (k : Rv w u zs) :
    Calls Tryz.prog 29 #[v, u] w fun e w' => e = .returned (.bool true) ∧ Below w.heap.size w w' := by
  obtain ⟨a, cap, rfl, h1⟩ := h
  obtain ⟨a', cap', rfl, k1⟩ := k
  have hl : (zs.length : Int) ≤ 9223372036854775807 := by have := h1.cap; unfold maxLen at this; omega
  have HZ : Hid (Rn w a zs.length cap zs) := h1
  have KZ : Hid (Rn w a' zs.length cap' zs) := k1
  clear h1 k1
  obtain ⟨n, hn⟩ : ∃ n, zs.length = n := ⟨_, rfl⟩
  rw [hn] at HZ KZ hl ⊢
  clear hn
  go_enter Tryz.func29, Tryz.ntmps29
  go_wp2_with fail
  go_loopw [5] (fun i wr => ∃ j : Nat, j ≤ n ∧ i = .int .i64 j ∧ Below w.heap.size w wr) (fun i _ => n - (intOf i).toNat)
  case atStart => exact ⟨0, Nat.zero_le _, rfl, Below.refl _ _⟩
  case round =>
    obtain ⟨j, hj, rfl, hB⟩ := hrel
    have HB : Hid (Below _ _ _) := hB
    by_cases hlt : j < n
    · obtain ⟨x, rfl, c1⟩ := HZ.out.at j hlt
      obtain ⟨y, rfl, c2⟩ := KZ.out.at j hlt
      have c1' := cell_keep hB c1
      have c2' := cell_keep hB c2
      have hI : (j : Int) < (n : Int) := by omega
      have HL : Hid (j < n) := hlt
      clear hB hlt c1 c2
      go_wp2_with fail
      go_quiet (fail)
      go_wp2_with fail
      go_roundw
      case rel => exact ⟨j + 1, by have := HL.out; omega, by go_num, dr HB.out _⟩
      case measure => have := HL.out; simp [intOf]; omega
    · have hI : ¬ (j : Int) < (n : Int) := by omega
      clear hB
      go_wp2_with fail
      go_ret
      exact ⟨rfl, HB.out⟩
end Go.Proofs.YtimcoobhakfnaaaGreatDoor
