/- Texts of this seat, joined. -/
import Derived.Laws.AppendOwn
import Derived.Test.YtggejbphdadckaaGreatDoorQ01
import Derived.Test.YtggejbphdadckaaGreatDoorQ03
namespace Go.Proofs.YtggejbphdadckaaGreatDoor
open Go.RowKit
set_option linter.unusedVariables false

theorem cell_grown {w w' : World} {row : Option Nat} {p : Addr} {v : Value} (g : w.grownBy w' row) (h : w.cell? p = some v) (hne : some p.block ≠ row) : w'.cell? p = some v := by
  rw [← h]
  exact World.cell?_of_block (w := w) (g.block p.block (block_of_cell h) hne)
theorem below_of_grown {a w w' : World} {v : Value} {base : Nat} {zs : List Int} (h : Below a.heap.size a w) (g : w.grownBy w' v.ownBlock) (n : Nums w base v zs) (hb : a.heap.size ≤ base) : Below a.heap.size a w' :=
  h.grown g h.size (fun k hk => Nat.le_trans hb (n.lt k hk).1)
theorem own_ne {w w' : World} {base base' : Nat} {v u : Value} {zs ys : List Int} (h : Nums w base v zs) (k : Nums w' base' u ys) (hb : w.heap.size ≤ base') : v.ownBlock = none ∨ v.ownBlock ≠ u.ownBlock := by
  cases e : v.ownBlock with
  | none => exact .inl rfl
  | some x =>
    refine .inr fun e2 => ?_
    have h1 := (h.lt x e).2
    have h2 := (k.lt x e2.symm).1
    omega
theorem own_not {w : World} {base : Nat} {v : Value} {zs : List Int} (h : Nums w base v zs) (x : Nat) (hx : x < base ∨ w.heap.size ≤ x) : some x ≠ v.ownBlock := by
  intro e
  have := h.lt x e.symm
  omega
end Go.Proofs.YtggejbphdadckaaGreatDoor
namespace Go.Proofs.YtggejbphdadckaaGreatDoor
open Go.RowKit
set_option linter.unusedVariables false

def isW (z : Int) : Bool := decide (0 ≤ z) && decide (z ≤ 4294967295)
def formB (n : Nat) : Bool := decide (n % 8 = 0 ∧ 8 ≤ n ∧ n ≤ 192)
def memV (zs : List Int) : Int := if formB zs.length then (if zs.all isW then 0 else 3) else 1

theorem isW_wd (z : Int) : (wd z == z) = isW z := by
  have h := wd_in z
  rw [Bool.eq_iff_iff]
  simp only [isW, beq_iff_eq, Bool.and_eq_true, decide_eq_true_eq]
  constructor
  · intro e
    rw [e] at h
    omega
  · intro e
    unfold wd
    omega
theorem all_take (zs : List Int) (j : Nat) (h : j < zs.length) : (zs.take (j + 1)).all isW = ((zs.take j).all isW && isW (zs.getD j 0)) := by
  rw [List.take_succ_eq_append_getElem h, List.all_append, List.getD, List.getElem?_eq_getElem h]
  simp
theorem all_not (zs : List Int) (j : Nat) (h : j < zs.length) (hz : isW (zs.getD j 0) = false) : zs.all isW = false := by
  rw [List.getD, List.getElem?_eq_getElem h] at hz
  rw [List.all_eq_false]
  exact ⟨_, List.getElem_mem h, by simpa using hz⟩

theorem impl_isWord (z : Int) (w : World) : Calls Tryz.prog 90 #[.int .i64 z] w fun e w' => e = .returned (.bool (isW z)) ∧ w' = w := by
  rw [← isW_wd]
  go_enter Tryz.func90, Tryz.ntmps90
  go_wp2_with (go_at_call 117; refine (impl_wrap _ _).mono ?_; rintro e x ⟨rfl, rfl⟩)
  go_ret
  exact ⟨rfl, rfl⟩

theorem spec_in (z a b : Int) (w : World) : Calls Tryz.prog 42 #[.int .i64 z, .int .i64 a, .int .i64 b] w fun e w' => e = .returned (.bool (decide (a ≤ z) && decide (z ≤ b))) ∧ w' = w := by
  by_cases h : a ≤ z
  · go_enter Tryz.func42, Tryz.ntmps42
    go_wp2
    go_ret
    exact ⟨by simp [h], rfl⟩
  · go_enter Tryz.func42, Tryz.ntmps42
    go_wp2
    go_ret
    exact ⟨by simp; omega, rfl⟩

theorem ret_i {a b : Int} (h : a = b) : Ending.returned (.int .i64 a) = .returned (.int .i64 b) := by rw [h]
theorem memV_form {zs : List Int} {n : Nat} (hn : zs.length = n) (h : formB n = false) : memV zs = 1 := by simp [memV, hn, h]
theorem memV_not {zs : List Int} {n : Nat} (hn : zs.length = n) (h : formB n = true) (ha : zs.all isW = false) : memV zs = 3 := by simp [memV, hn, h, ha]
theorem memV_ok {zs : List Int} {n : Nat} (hn : zs.length = n) (h : formB n = true) (ha : zs.all isW = true) : memV zs = 0 := by simp [memV, hn, h, ha]

set_option maxHeartbeats 1000000 in
theorem spec_memFault (v : Value) (zs : List Int) (b : Nat) (w : World) (h : Nums w b v zs) :
    Calls Tryz.prog 80 #[v] w fun e w' => e = .returned (.int .i64 (memV zs)) ∧ w' = w := by
  obtain ⟨a, cap, rfl, l1, l2, hg⟩ := h.shape
  have HZ : Hid (Nums w b _ zs) := h
  clear h
  obtain ⟨n, hn⟩ : ∃ n, zs.length = n := ⟨_, rfl⟩
  rw [hn] at HZ l1 hg ⊢
  have HN : Hid (zs.length = n) := hn
  have hl : (n : Int) ≤ 9223372036854775807 := by unfold maxLen at l2; omega
  clear hn l1 l2
  by_cases h1 : n % 8 = 0
  case neg =>
    have hf : Hid (formB n = false) := by show _ = _; simp [formB, h1]
    have hI : ¬ (n : Int) % 8 = 0 := by omega
    clear h1
    go_enter Tryz.func80, Tryz.ntmps80
    go_wp2_with fail
    go_ret
    exact ⟨ret_i (memV_form HN.out hf.out).symm, rfl⟩
  have hI1 : (n : Int) % 8 = 0 := by omega
  by_cases h2 : 8 ≤ n
  case neg =>
    have hf : Hid (formB n = false) := by show _ = _; simp [formB, h2]
    have hI : (n : Int) < 8 := by omega
    clear h1 h2
    go_enter Tryz.func80, Tryz.ntmps80
    go_wp2_with fail
    go_ret
    exact ⟨ret_i (memV_form HN.out hf.out).symm, rfl⟩
  have hI2 : ¬ (n : Int) < 8 := by omega
  by_cases h3 : n ≤ 192
  case neg =>
    have hf : Hid (formB n = false) := by show _ = _; simp [formB, h3]
    have hI : (192 : Int) < (n : Int) := by omega
    clear h1 h2 h3
    go_enter Tryz.func80, Tryz.ntmps80
    go_wp2_with fail
    go_ret
    exact ⟨ret_i (memV_form HN.out hf.out).symm, rfl⟩
  have hf : Hid (formB n = true) := by show _ = _; simp [formB, h1, h2, h3]
  have hI : ¬ (192 : Int) < (n : Int) := by omega
  obtain ⟨g, rfl⟩ := hg (by omega)
  clear h1 h2 h3 hg
  go_enter Tryz.func80, Tryz.ntmps80
  go_wp2_with fail
  go_loop [3] (fun i => ∃ j : Nat, j ≤ n ∧ i = .int .i64 j ∧ Hid ((zs.take j).all isW = true)) (fun i => n - (intOf i).toNat)
  case atStart => exact ⟨0, Nat.zero_le _, rfl, rfl⟩
  case round =>
    obtain ⟨j, hj, rfl, hA⟩ := hrel
    by_cases hlt : j < n
    · have c1 := HZ.out.cell HN.out.symm j hlt
      have hJ : (j : Int) < (n : Int) := by omega
      have HL : Hid (j < zs.length) := by show _ < _; have := HN.out; omega
      obtain ⟨z, hz⟩ : ∃ z, zs.getD j 0 = z := ⟨_, rfl⟩
      rw [hz] at c1
      have HZZ : Hid (zs.getD j 0 = z) := hz
      clear hz hlt
      by_cases hw : (decide (0 ≤ z) && decide (z ≤ 4294967295)) = true
      · have HW : Hid (isW z = true) := hw
        go_wp2_with (go_at_call 42; refine (spec_in _ _ _ _).mono ?_; rintro e x ⟨rfl, rfl⟩; rw [hw])
        go_round
        case rel => exact ⟨j + 1, by have := HL.out; have := HN.out; omega, by go_num, by show _ = _; rw [all_take zs j HL.out, hA.out, HZZ.out, HW.out]; rfl⟩
        case measure => have := HL.out; have := HN.out; simp [intOf]; omega
      · rw [Bool.not_eq_true] at hw
        have HW : Hid (isW z = false) := hw
        go_wp2_with (go_at_call 42; refine (spec_in _ _ _ _).mono ?_; rintro e x ⟨rfl, rfl⟩; rw [hw])
        go_ret
        exact ⟨ret_i (memV_not HN.out hf.out (all_not zs j HL.out (by rw [HZZ.out]; exact HW.out))).symm, rfl⟩
    · have hJ : ¬ (j : Int) < (n : Int) := by omega
      obtain rfl : j = n := by omega
      go_wp2_with fail
      go_ret
      exact ⟨ret_i (memV_ok HN.out hf.out (by have := hA.out; rwa [List.take_of_length_le (Nat.le_of_eq HN.out)] at this)).symm, rfl⟩

set_option maxHeartbeats 1000000 in
theorem impl_memFault (v : Value) (zs : List Int) (b : Nat) (w : World) (h : Nums w b v zs) :
    Calls Tryz.prog 87 #[v] w fun e w' => e = .returned (.int .i64 (memV zs)) ∧ w' = w := by
  obtain ⟨a, cap, rfl, l1, l2, hg⟩ := h.shape
  have HZ : Hid (Nums w b _ zs) := h
  clear h
  obtain ⟨n, hn⟩ : ∃ n, zs.length = n := ⟨_, rfl⟩
  rw [hn] at HZ l1 hg ⊢
  have HN : Hid (zs.length = n) := hn
  have hl : (n : Int) ≤ 9223372036854775807 := by unfold maxLen at l2; omega
  clear hn l1 l2
  by_cases h2 : 1 ≤ n
  case neg =>
    have hf : Hid (formB n = false) := by show _ = _; simp [formB]; omega
    obtain rfl : n = 0 := by omega
    clear h2
    go_enter Tryz.func87, Tryz.ntmps87
    go_wp2_with fail
    go_ret
    exact ⟨ret_i (memV_form HN.out hf.out).symm, rfl⟩
  have hI2 : ¬ (n : Int) = 0 := by omega
  by_cases h3 : n ≤ 192
  case neg =>
    have hf : Hid (formB n = false) := by show _ = _; simp [formB, h3]
    have hI : (192 : Int) < (n : Int) := by omega
    clear h2 h3
    go_enter Tryz.func87, Tryz.ntmps87
    go_wp2_with fail
    go_ret
    exact ⟨ret_i (memV_form HN.out hf.out).symm, rfl⟩
  have hI : ¬ (192 : Int) < (n : Int) := by omega
  by_cases h1 : n % 8 = 0
  case neg =>
    have hf : Hid (formB n = false) := by show _ = _; simp [formB, h1]
    have hI8 : (((n : Int) % 8) != 0) = true := by simp; omega
    clear h1 h2 h3
    go_enter Tryz.func87, Tryz.ntmps87
    go_wp2_with fail
    go_ret
    exact ⟨ret_i (memV_form HN.out hf.out).symm, rfl⟩
  have hI1 : (n : Int) % 8 = 0 := by omega
  have hf : Hid (formB n = true) := by show _ = _; simp [formB, h1, h3]; omega
  obtain ⟨g, rfl⟩ := hg (by omega)
  clear h1 h2 h3 hg
  go_enter Tryz.func87, Tryz.ntmps87
  go_wp2_with fail
  go_loop [4, 21] (fun _ i => ∃ j : Nat, j ≤ n ∧ i = .int .i64 j ∧ Hid ((zs.take j).all isW = true)) (fun _ i => n - (intOf i).toNat)
  case atStart => exact ⟨0, Nat.zero_le _, rfl, rfl⟩
  case round =>
    obtain ⟨j, hj, rfl, hA⟩ := hrel
    by_cases hlt : j < n
    · have c1 := HZ.out.cell HN.out.symm j hlt
      have hJ : (j : Int) < (n : Int) := by omega
      have HL : Hid (j < zs.length) := by show _ < _; have := HN.out; omega
      obtain ⟨z, hz⟩ : ∃ z, zs.getD j 0 = z := ⟨_, rfl⟩
      rw [hz] at c1
      have HZZ : Hid (zs.getD j 0 = z) := hz
      clear hz hlt
      cases hw : isW z
      · have HW : Hid (isW z = false) := hw
        go_wp2_with (go_at_call 90; refine (impl_isWord _ _).mono ?_; rintro e x ⟨rfl, rfl⟩; rw [hw])
        go_ret
        exact ⟨ret_i (memV_not HN.out hf.out (all_not zs j HL.out (by rw [HZZ.out]; exact HW.out))).symm, rfl⟩
      · have HW : Hid (isW z = true) := hw
        go_wp2_with (go_at_call 90; refine (impl_isWord _ _).mono ?_; rintro e x ⟨rfl, rfl⟩; rw [hw])
        go_round
        case rel => exact ⟨j + 1, by have := HL.out; have := HN.out; omega, by go_num, by show _ = _; rw [all_take zs j HL.out, hA.out, HZZ.out, HW.out]; rfl⟩
        case measure => have := HL.out; have := HN.out; simp [intOf]; omega
    · have hJ : ¬ (j : Int) < (n : Int) := by omega
      obtain rfl : j = n := by omega
      go_wp2_with fail
      go_ret
      exact ⟨ret_i (memV_ok HN.out hf.out (by have := hA.out; rwa [List.take_of_length_le (Nat.le_of_eq HN.out)] at this)).symm, rfl⟩
end Go.Proofs.YtggejbphdadckaaGreatDoor
namespace Go.Proofs.YtggejbphdadckaaGreatDoor
open Go.RowKit
set_option linter.unusedVariables false

/-- A slice of numbers, read alone. -/
def Rn (w : World) (a : Option Addr) (len cap : Nat) (zs : List Int) : Prop :=
  (a = none ∧ len = 0 ∧ cap = 0 ∧ zs = []) ∨
  ∃ x, a = some x ∧ len ≤ cap ∧ cap ≤ maxLen ∧ zs.length = len ∧ ∀ i, i < len → w.cell? (x.add i) = some (.int .i64 (zs.getD i 0))
theorem Rn.stay {w w' : World} {a : Option Addr} {len cap : Nat} {zs : List Int} (h : Rn w a len cap zs) (b : Below w.heap.size w w') : Rn w' a len cap zs := by
  rcases h with h | ⟨x, rfl, h1, h2, h3, h4⟩
  · exact .inl h
  · exact .inr ⟨x, rfl, h1, h2, h3, fun i hi => cell_keep b (h4 i hi)⟩
theorem Rn.len {w : World} {a : Option Addr} {len cap : Nat} {zs : List Int} (h : Rn w a len cap zs) : len = zs.length := by
  rcases h with ⟨_, h1, _, rfl⟩ | ⟨x, _, _, _, h1, _⟩
  · simpa using h1
  · exact h1.symm
theorem Rn.cap {w : World} {a : Option Addr} {len cap : Nat} {zs : List Int} (h : Rn w a len cap zs) : len ≤ cap ∧ cap ≤ maxLen := by
  rcases h with ⟨_, h1, h2, _⟩ | ⟨x, _, h1, h2, _⟩
  · subst h1 h2; exact ⟨Nat.le_refl _, Nat.zero_le _⟩
  · exact ⟨h1, h2⟩
theorem Rn.at {w : World} {a : Option Addr} {len cap : Nat} {zs : List Int} (h : Rn w a len cap zs) (i : Nat) (hi : i < len) : ∃ x, a = some x ∧ w.cell? (x.add i) = some (.int .i64 (zs.getD i 0)) := by
  rcases h with ⟨_, h1, _, _⟩ | ⟨x, rfl, _, _, _, h4⟩
  · omega
  · exact ⟨x, rfl, h4 i hi⟩
theorem IsRow.rn {w : World} {a : Option Addr} {len cap : Nat} {zs : List Int} (h : IsRow .i64 w a len cap zs) : Rn w a len cap zs := by
  rcases h with h | ⟨x, h0, h1, h2, h3, h4, _⟩
  · exact .inl h
  · exact .inr ⟨x, h0, h1, h2, h3, h4⟩
theorem Nums.rn {w : World} {base n cap : Nat} {a : Option Addr} {zs : List Int} (h : Nums w base (.slice a n cap) zs) : Rn w a n cap zs := by
  obtain ⟨a', cap', hv, l1, l2, hg⟩ := h.shape
  cases hv
  by_cases hz : 0 < zs.length
  · obtain ⟨g, rfl⟩ := hg hz
    refine .inr ⟨_, rfl, l1, l2, rfl, fun i hi => ?_⟩
    have := h.cell rfl i hi
    simpa [Addr.add_lit] using this
  · have h0 : zs = [] := by cases zs with
      | nil => rfl
      | cons x t => exact absurd (Nat.succ_pos _) hz
    subst h0
    cases a with
    | none =>
      obtain ⟨h1, ⟨hq, h3⟩ | ⟨g, cap, cur, hq, _⟩⟩ := h
      · cases hq; exact .inl ⟨rfl, rfl, rfl, rfl⟩
      · cases hq
    | some x => exact .inr ⟨x, rfl, l1, l2, rfl, fun i hi => absurd hi (Nat.not_lt_zero _)⟩
/-- A slice as a value, read alone. -/
def Rv (w : World) (v : Value) (zs : List Int) : Prop := ∃ a cap, v = .slice a zs.length cap ∧ Rn w a zs.length cap zs
theorem Rv.stay {w w' : World} {v : Value} {zs : List Int} (h : Rv w v zs) (b : Below w.heap.size w w') : Rv w' v zs := by
  obtain ⟨a, cap, h1, h2⟩ := h
  exact ⟨a, cap, h1, h2.stay b⟩
theorem Nums.rv {w : World} {base : Nat} {v : Value} {zs : List Int} (h : Nums w base v zs) : Rv w v zs := by
  obtain ⟨a, cap, rfl, _⟩ := h.shape
  exact ⟨a, cap, rfl, h.rn⟩
theorem Rn.rv {w : World} {a : Option Addr} {len cap : Nat} {zs : List Int} (h : Rn w a len cap zs) : Rv w (.slice a len cap) zs := by
  have := h.len
  subst this
  exact ⟨a, cap, rfl, h⟩

theorem szn (a : Option Addr) (len cap : Nat) (k : Int) (w : World) (h : len ≤ 9223372036854775807) (h1 : 0 ≤ k) (h2 : k ≤ 1048576) :
    Calls Tryz.prog 17 #[.slice a len cap, .int .i64 k] w fun e w' => e = .returned (.int .i64 (if k - len < 0 then -1 else k - len)) ∧ w' = w := by
  have h3 : (len : Int) ≤ 9223372036854775807 := by omega
  by_cases hk : k - len < 0
  · rw [if_pos hk]
    go_enter Tryz.func17, Tryz.ntmps17
    go_wp2_with fail
    go_ret
    exact ⟨rfl, rfl⟩
  · rw [if_neg hk]
    go_enter Tryz.func17, Tryz.ntmps17
    go_wp2_with fail
    go_ret
    exact ⟨rfl, rfl⟩
theorem IsRow.ln {k : IntKind} {w : World} {a : Option Addr} {len cap : Nat} {zs : List Int} (h : IsRow k w a len cap zs) : len = zs.length ∧ len ≤ 9223372036854775807 := by
  rcases h with ⟨_, h1, _, rfl⟩ | ⟨x, _, h1, h2, h3, _⟩
  · exact ⟨by simpa using h1, by omega⟩
  · exact ⟨h3.symm, by unfold maxLen at h2; omega⟩

/-- append of numbers that lie anywhere to a slice of the call's own. -/
theorem wp_appx {ops : Array Oper} {rest : List Oper} {o : Oper} {act : Act} {Q : Exit → Act → World → Prop} (w : World) (hgd : o.guard = none) (s x : Operand)
    (ho : o.op = .call { callee := .builtin .append, args := #[s, x], argTypes := #[28, 28] }) (base : Nat) (v : Value) (zs : List Int) (hs : act.eval s = v) (hN : Nums w base v zs)
    (p : Addr) (m c : Nat) (ys : List Int) (hx : act.eval x = .slice (some p) m c) (hR : Rn w (some p) m c ys)
    (hlen : zs.length + m ≤ 1000000000) (hbase : base ≤ w.heap.size)
    (h : ∀ v' w', Nums w' base v' (zs ++ ys) → w.grownBy w' v.ownBlock → wpList Tryz.prog ops Q rest (act.put o.dst v') w') : wpList Tryz.prog ops Q (o :: rest) act w := by
  have hy : ys.length = m := hR.len.symm
  have hc : ∀ i, i < m → w.cell? (p.add i) = some (.int .i64 (ys.getD i 0)) := by
    intro i hi
    obtain ⟨x, e, h⟩ := hR.at i hi
    cases e
    exact h
  obtain ⟨i, hi, hz0, hz1, hz2⟩ := info_parts info_i64
  refine wpList_append_own w hgd s x 28 ho base 2 i _ 1 8 Tryz.underlying28 hi hz0 hz1 hz2 rfl (by decide) v zs.length _ hs hN p m c (ys.map (Value.int .i64)) hx (by simpa using hy) ?_ ?_ (by unfold maxLen; omega) (by omega) hbase ?_
  · intro j u hj
    have hjl : j < ys.length := by have := (List.getElem?_eq_some_iff.1 hj).1; simpa using this
    rw [List.getElem?_map, List.getElem?_eq_getElem hjl] at hj
    have := hc j (by omega)
    rw [List.getD, List.getElem?_eq_getElem hjl] at this
    rw [this]
    exact hj
  · intro u hu
    obtain ⟨z, _, rfl⟩ := List.mem_map.1 hu
    rfl
  · intro v' w' hown hgrow _
    refine h v' w' ?_ hgrow
    unfold Nums
    rw [List.length_append, hy, List.map_append]
    exact hown
theorem nums_none (w : World) (base : Nat) (hb : base ≤ w.heap.size) : Nums (w.alloc (.cells #[] 2)) base (.slice (some ⟨w.heap.size, 0, none⟩) 0 0) [] :=
  World.ownsRow_lit w #[] 0 hb (by decide) rfl

/-- A block of cells of a type. -/
def Vb (w : World) (q : Nat) (cs : Array Value) (t : TypeId) : Prop := w.heap[q]? = some (.cells cs t (0, 0))
theorem Vb.cell {w : World} {q : Nat} {cs : Array Value} {t : TypeId} (h : Vb w q cs t) (i : Nat) {v : Value} (hi : cs[i]? = some v) : w.cell? ⟨q, i, none⟩ = some v := by
  unfold Vb at h
  simp [World.cell?, h, hi]
theorem Vb.free {w : World} {q : Nat} {cs : Array Value} {t : TypeId} (h : Vb w q cs t) (i : Nat) : w.frozen? ⟨q, i, none⟩ = false := by
  unfold Vb at h
  simp [World.frozen?, h]
theorem Vb.lt {w : World} {q : Nat} {cs : Array Value} {t : TypeId} (h : Vb w q cs t) : q < w.heap.size := by
  rcases Nat.lt_or_ge q w.heap.size with h1 | h1
  · exact h1
  · unfold Vb at h
    rw [Array.getElem?_eq_none h1] at h
    cases h
theorem Vb.new (w : World) (cs : Array Value) (t : TypeId) : Vb (w.alloc (.cells cs t)) w.heap.size cs t := heap_alloc_new w _
theorem Vb.gr {w w' : World} {q : Nat} {cs : Array Value} {t : TypeId} {row : Option Nat} (h : Vb w q cs t) (g : w.grownBy w' row) (hn : some q ≠ row) : Vb w' q cs t := (g.block q h.lt hn).trans h
theorem Vb.keep {w w' : World} {q : Nat} {cs : Array Value} {t : TypeId} (h : Vb w q cs t) (b : Below w.heap.size w w') : Vb w' q cs t := (b.block q h.lt).trans h
theorem Vb.put {w : World} {q : Nat} {cs : Array Value} {t : TypeId} (h : Vb w q cs t) (p : Addr) (u : Value) (hp : q ≠ p.block) : Vb (w.setCell p u) q cs t := (heap_setCell_other w p q u hp).trans h
theorem Vb.set {w : World} {q : Nat} {cs : Array Value} {t : TypeId} (h : Vb w q cs t) (i : Nat) (u : Value) : Vb (w.setCell ⟨q, i, none⟩ u) q (cs.setIfInBounds i u) t := heap_setCell_same w q i cs t u h
theorem Vb.push {w : World} {q : Nat} {cs : Array Value} {t : TypeId} (h : Vb w q cs t) (o : Obj) : Vb (w.alloc o) q cs t := h.keep (al (Below.refl _ _) o)

/-- From one world to another: blocks from base on stay. -/
structure Ho (base : Nat) (w w' : World) : Prop where
  size : w.heap.size ≤ w'.heap.size
  block : ∀ k, base ≤ k → k < w.heap.size → w'.heap[k]? = w.heap[k]?
theorem Ho.refl (base : Nat) (w : World) : Ho base w w := ⟨Nat.le_refl _, fun _ _ _ => rfl⟩
theorem Ho.trans {base : Nat} {a b c : World} (h : Ho base a b) (k : Ho base b c) : Ho base a c :=
  ⟨Nat.le_trans h.size k.size, fun i hb hi => (k.block i hb (Nat.lt_of_lt_of_le hi h.size)).trans (h.block i hb hi)⟩
theorem Ho.of {base : Nat} {w w' : World} (h : Below w.heap.size w w') : Ho base w w' := ⟨h.size, fun k _ hk => h.block k hk⟩
theorem Ho.set {base : Nat} (w : World) (p : Addr) (u : Value) (h : p.block < base) : Ho base w (w.setCell p u) :=
  ⟨(grown_set w p u).size, fun k hb hk => (grown_set w p u).block k hk (fun e => by cases e; omega)⟩
theorem Nums.ho {base : Nat} {v : Value} {w w' : World} {zs : List Int} (h : Nums w base v zs) (H : Ho base w w') : Nums w' base v zs := by
  obtain ⟨h1, h2 | ⟨g, cap, cur, hv, hg, hr, rest⟩⟩ := h
  · exact ⟨h1, .inl h2⟩
  · refine ⟨h1, .inr ⟨g, cap, cur, hv, hg, ?_, rest⟩⟩
    rw [H.block g hg ((Array.getElem?_eq_some_iff.1 hr).1)]
    exact hr
end Go.Proofs.YtggejbphdadckaaGreatDoor
namespace Go.Proofs.YtggejbphdadckaaGreatDoor
open Go.RowKit
set_option linter.unusedVariables false

structure Ht where
  regs : List Int
  pc : Int
  csr : List Int
  halted : Bool
  waiting : Bool
  rung : Bool
  done : Int
  inn : List Int
  out : List Int

def Ht.form (H : Ht) : Bool := decide (H.regs.length = 16) && decide (H.csr.length = 11) && decide (H.regs.getD 0 0 = 0)
def Ht.words (H : Ht) : Bool := H.regs.all isW && isW H.pc && H.csr.all isW && H.inn.all isW && H.out.all isW
def Ht.few (H : Ht) : Bool := decide (H.inn.length ≤ 40) && decide (H.out.length ≤ 40)
def Ht.nice (H : Ht) : Bool := decide (0 ≤ H.done) && decide (H.done ≤ 1000000000)
def standC (zs : List Int) : Bool := decide (zs.getD 0 0 ≤ 3) && decide (zs.getD 7 0 ≤ 7) && decide (zs.getD 10 0 ≤ 8) && decide (zs.getD 6 0 = 0) && decide (zs.getD 8 0 = 0)
def hfV (H : Ht) : Int := if H.form then (if H.words then (if H.few then (if H.nice then (if standC H.csr then 0 else 1) else 3) else 2) else 3) else 1

def standV (k w : Int) : Int := if k = 0 then w % 4 else if k = 7 then w % 8 else if k = 10 then (if 8 < w then 0 else w) else if k = 6 then 0 else if k = 8 then 0 else w

/-- A machine without a fault. -/
structure Hok (H : Ht) : Prop where
  r16 : H.regs.length = 16
  c11 : H.csr.length = 11
  r0 : H.regs.getD 0 0 = 0
  rw : H.regs.all isW = true
  pw : isW H.pc = true
  cw : H.csr.all isW = true
  iw : H.inn.all isW = true
  ow : H.out.all isW = true
  i40 : H.inn.length ≤ 40
  o40 : H.out.length ≤ 40
  d0 : 0 ≤ H.done
  d9 : H.done ≤ 1000000000
  st : standC H.csr = true
theorem hok_of {H : Ht} (h : hfV H = 0) : Hok H := by
  unfold hfV at h
  split at h
  next h1 =>
    split at h
    next h2 =>
      split at h
      next h3 =>
        split at h
        next h4 =>
          split at h
          next h5 =>
            simp only [Ht.form, Ht.words, Ht.few, Ht.nice, Bool.and_eq_true, decide_eq_true_eq] at h1 h2 h3 h4
            exact ⟨h1.1.1, h1.1.2, h1.2, h2.1.1.1.1, h2.1.1.1.2, h2.1.1.2, h2.1.2, h2.2, h3.1, h3.2, h4.1, h4.2, h5⟩
          next => exact absurd h (by decide)
        next => exact absurd h (by decide)
      next => exact absurd h (by decide)
    next => exact absurd h (by decide)
  next => exact absurd h (by decide)
theorem isW_iff {z : Int} : isW z = true ↔ 0 ≤ z ∧ z ≤ 4294967295 := by simp [isW]
theorem all_at {zs : List Int} (h : zs.all isW = true) (i : Nat) : 0 ≤ zs.getD i 0 ∧ zs.getD i 0 ≤ 4294967295 := by
  by_cases hi : i < zs.length
  · have := List.all_eq_true.1 h _ (List.getElem_mem hi)
    rw [List.getD, List.getElem?_eq_getElem hi]
    exact isW_iff.1 this
  · rw [List.getD, List.getElem?_eq_none (by omega)]
    exact ⟨by decide, by decide⟩

theorem stand_all {zs : List Int} (h : zs.all isW = true) (hl : zs.length = 11) : (∀ k : Nat, k < 11 → standV k (zs.getD k 0) = zs.getD k 0) ↔ standC zs = true := by
  have w0 := all_at h 0
  have w7 := all_at h 7
  have w10 := all_at h 10
  simp only [standC, Bool.and_eq_true, decide_eq_true_eq]
  constructor
  · intro k
    have k0 := k 0 (by omega)
    have k7 := k 7 (by omega)
    have k10 := k 10 (by omega)
    have k6 := k 6 (by omega)
    have k8 := k 8 (by omega)
    clear k
    generalize zs.getD 0 0 = z0 at *
    generalize zs.getD 7 0 = z7 at *
    generalize zs.getD 10 0 = z10 at *
    generalize zs.getD 6 0 = z6 at *
    generalize zs.getD 8 0 = z8 at *
    simp [standV] at k0 k7 k10 k6 k8
    refine ⟨⟨⟨⟨by omega, by omega⟩, ?_⟩, by omega⟩, by omega⟩
    by_cases h8 : 8 < z10
    · have := k10 h8
      omega
    · omega
  · rintro ⟨⟨⟨⟨a, b⟩, c⟩, d⟩, e⟩ k hk
    unfold standV
    split
    · rename_i h0
      obtain rfl : k = 0 := by omega
      omega
    split
    · rename_i h0
      obtain rfl : k = 7 := by omega
      omega
    split
    · rename_i h0
      obtain rfl : k = 10 := by omega
      rw [if_neg (by omega)]
    split
    · rename_i h0
      obtain rfl : k = 6 := by omega
      omega
    split
    · rename_i h0
      obtain rfl : k = 8 := by omega
      omega
    rfl

def newV (input : List Int) : Ht := ⟨List.replicate 16 0, 0, List.replicate 11 0, false, false, false, 0, input, []⟩
def voidH : Ht := ⟨[], 0, [], false, false, false, 0, [], []⟩
end Go.Proofs.YtggejbphdadckaaGreatDoor
