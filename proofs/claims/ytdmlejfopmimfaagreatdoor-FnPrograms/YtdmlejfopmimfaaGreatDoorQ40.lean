/- Texts of this seat, joined. -/
import Derived.Laws.AppendOwn
import Derived.Test.YtdmlejfopmimfaaGreatDoorQ15
import Derived.Test.YtdmlejfopmimfaaGreatDoorQ16
import Derived.Test.YtdmlejfopmimfaaGreatDoorQ39
namespace Go.Proofs.YtdmlejfopmimfaaGreatDoor
open Go.RowKit
set_option linter.unusedVariables false

theorem wp_appA {ops : Array Oper} {rest : List Oper} {o : Oper} {act : Act} {Q : Exit → Act → World → Prop} (w : World) (hgd : o.guard = none) (s x : Operand)
    (ho : o.op = .call { callee := .builtin .append, args := #[s, x], argTypes := #[24, 24] }) (base : Nat) (v : Value) (zs : List Int) (hs : act.eval s = v) (hN : Nums w base v zs)
    (B m c : Nat) (ys : List Int) (hx : act.eval x = .slice (some ⟨B, 0, none⟩) m c) (hy : ys.length = m) (hc : ∀ i, i < m → w.cell? ⟨B, i, none⟩ = some (.int .i64 (ys.getD i 0)))
    (hlen : zs.length + m ≤ 1000000000) (hbase : base ≤ w.heap.size)
    (h : ∀ v' w', Nums w' base v' (zs ++ ys) → w.grownBy w' v.ownBlock → wpList Tryz.prog ops Q rest (act.put o.dst v') w') : wpList Tryz.prog ops Q (o :: rest) act w := by
  obtain ⟨i, hi, hz0, hz1, hz2⟩ := info_parts info_i64
  refine wpList_append_own w hgd s x 24 ho base 2 i _ 1 8 Tryz.underlying24 hi hz0 hz1 hz2 rfl (by decide) v zs.length _ hs hN ⟨B, 0, none⟩ m c (ys.map (Value.int .i64)) hx (by simpa using hy) ?_ ?_ (by unfold maxLen; omega) (by omega) hbase ?_
  · intro j u hj
    have hjl : j < ys.length := by have := (List.getElem?_eq_some_iff.1 hj).1; simpa using this
    rw [List.getElem?_map, List.getElem?_eq_getElem hjl] at hj
    have := hc j (by omega)
    rw [List.getD, List.getElem?_eq_getElem hjl] at this
    rw [show (⟨B, 0, none⟩ : Addr).add j = ⟨B, j, none⟩ by rw [Addr.add_lit]; simp, this]
    exact hj
  · intro u hu
    obtain ⟨z, _, rfl⟩ := List.mem_map.1 hu
    rfl
  · intro v' w' hown hgrow _
    refine h v' w' ?_ hgrow
    unfold Nums
    rw [List.length_append, hy, List.map_append]
    exact hown

theorem nums_emptyA (w : World) (base : Nat) (hb : base ≤ w.heap.size) : Nums (w.alloc (.cells #[] 2)) base (.slice (some ⟨w.heap.size, 0, none⟩) 0 0) [] :=
  World.ownsRow_lit w #[] 0 hb (by decide) rfl
theorem one_atA {w : World} {g : Nat} {z : Int} (h : w.cell? ⟨g, 0, none⟩ = some (.int .i64 z)) : ∀ i, i < 1 → w.cell? ⟨g, i, none⟩ = some (.int .i64 (([z] : List Int).getD i 0)) := by
  intro i hi
  obtain rfl : i = 0 := by omega
  exact h

theorem pair2 {u : World} {q : Nat} {x y : Value} {t : TypeId} (h : Vq u q #[x, y] t) (a b : Value) : Vq ((u.setCell ⟨q, 0, none⟩ a).setCell ⟨q, 1, none⟩ b) q #[a, b] t :=
  heap_setCell_same _ q 1 _ _ _ (heap_setCell_same _ q 0 _ _ _ h)
theorem below2 {B q : Nat} {u w : World} (h : Below B u w) (hq : B ≤ q) (a b : Value) : Below B u ((w.setCell ⟨q, 0, none⟩ a).setCell ⟨q, 1, none⟩ b) := (h.setCell hq _).setCell hq _
def digS (n : Nat) (c : UInt8) : Nat := n * 10 + (c.toNat - 48)
/-- What digits tell. -/
def dvl (l : Wb) : Nat := l.foldl digS 0
theorem dvl_next (l : Wb) (j : Nat) (h : j < l.length) : dvl (l.take (j + 1)) = dvl (l.take j) * 10 + ((l.getD j 0).toNat - 48) := by
  rw [dvl, List.take_succ_eq_append_getElem h, List.foldl_append, List.getD, List.getElem?_eq_getElem h]
  rfl
theorem dvl_lt : ∀ (l : Wb) (n : Nat), l.all (withinB 48 57) = true → l.foldl digS n < (n + 1) * 10 ^ l.length
  | [], n, _ => by simp
  | c :: r, n, h => by
    simp only [List.all_cons, Bool.and_eq_true] at h
    have hc : c.toNat ≤ 57 := by have := h.1; unfold withinB at this; simp at this; exact this.2
    have ih := dvl_lt r (digS n c) h.2
    rw [List.foldl_cons, List.length_cons, Nat.pow_succ]
    refine Nat.lt_of_lt_of_le ih ?_
    have : digS n c + 1 ≤ (n + 1) * 10 := by unfold digS; omega
    calc (digS n c + 1) * 10 ^ r.length ≤ ((n + 1) * 10) * 10 ^ r.length := Nat.mul_le_mul_right _ this
      _ = (n + 1) * (10 ^ r.length * 10) := by rw [Nat.mul_assoc, Nat.mul_comm 10]
theorem dvl_small (l : Wb) (h : l.all (withinB 48 57) = true) (hl : l.length ≤ 10) : dvl l < 10000000000 := by
  have h1 := dvl_lt l 0 h
  have h2 : 10 ^ l.length ≤ 10 ^ 10 := Nat.pow_le_pow_right (by decide) hl
  unfold dvl
  omega
def numO (l : Wb) : Option Nat := if l.length ≤ 10 ∧ allW 48 57 l = true then some (dvl l) else none
theorem numO_lt {l : Wb} {n : Nat} (h : numO l = some n) : n < 10000000000 := by
  unfold numO at h
  split at h
  · rename_i hc
    have ha := hc.2
    unfold allW at ha
    simp only [Bool.and_eq_true] at ha
    cases h
    exact dvl_small l ha.1 hc.1
  · cases h
theorem numO_sign {x : Wb} (h : x.getD 0 0 = 64) : numO x = none := by
  unfold numO
  rw [if_neg]
  rintro ⟨_, ha⟩
  unfold allW at ha
  cases x with
  | nil => simp at ha
  | cons c r =>
    have hc : c = 64 := by simpa using h
    subst hc
    simp [withinB] at ha
def wayO (here : Nat) : Option Nat → Int × Int
  | some p => (0, ((p : Int) - here) % 65536)
  | none => (4, 0)
def argP : Option Nat → Int × Int → Int × Int
  | some n, _ => (0, n)
  | none, d => d
/-- Is a last word the way to a label? -/
def wayB (far last : Bool) (x : Wb) : Bool := last && far && decide (x.getD 0 0 = 64)
/-- A number that is told, or a way to a label: its code, its value. -/
def argO (ls : List Lbl) (here : Nat) (far last : Bool) (x : Wb) : Int × Int :=
  argP (numO x) (if (wayB far last x && nameB (x.drop 1)) = true then wayO here (findL ls (x.drop 1)) else (5, 0))
theorem argO_way {ls : List Lbl} {here : Nat} {far last : Bool} {x : Wb} (h : wayB far last x = true) : argO ls here far last x = if nameB (x.drop 1) = true then wayO here (findL ls (x.drop 1)) else (5, 0) := by
  have h0 : x.getD 0 0 = 64 := by
    unfold wayB at h
    simp only [Bool.and_eq_true, decide_eq_true_eq] at h
    exact h.2
  rw [argO, numO_sign h0, h]
  simp [argP]
theorem argO_num {ls : List Lbl} {here : Nat} {far last : Bool} {x : Wb} (h : wayB far last x = false) : argO ls here far last x = argP (numO x) (5, 0) := by
  rw [argO, h]
  simp
def argsA (ls : List Lbl) (here : Nat) (far : Bool) : List Wb → List Int → Int × List Int
  | [], acc => (0, acc)
  | x :: r, acc => if (argO ls here far r.isEmpty x).1 = 0 then argsA ls here far r (acc ++ [(argO ls here far r.isEmpty x).2]) else ((argO ls here far r.isEmpty x).1, [])
theorem argsA_at (ls : List Lbl) (here : Nat) (far : Bool) (tl : List Wb) (j : Nat) (acc : List Int) (h : j < tl.length) : argsA ls here far (tl.drop j) acc =
    if (argO ls here far (decide (j + 1 = tl.length)) (tl.getD j [])).1 = 0 then argsA ls here far (tl.drop (j + 1)) (acc ++ [(argO ls here far (decide (j + 1 = tl.length)) (tl.getD j [])).2]) else ((argO ls here far (decide (j + 1 = tl.length)) (tl.getD j [])).1, []) := by
  have e : tl.getD j [] = tl[j] := by simp [List.getD, List.getElem?_eq_getElem h]
  have e2 : (tl.drop (j + 1)).isEmpty = decide (j + 1 = tl.length) := by
    rw [Bool.eq_iff_iff, List.isEmpty_iff, List.drop_eq_nil_iff, decide_eq_true_eq]
    omega
  rw [e, List.drop_eq_getElem_cons h, argsA, e2]
theorem argsA_len (ls : List Lbl) (here : Nat) (far : Bool) : ∀ (tl : List Wb) (acc : List Int), (argsA ls here far tl acc).1 = 0 → (argsA ls here far tl acc).2.length = acc.length + tl.length
  | [], acc, _ => rfl
  | x :: r, acc, h => by
    rw [argsA] at h ⊢
    split at h
    · rename_i h0
      rw [if_pos h0]
      have := argsA_len ls here far r _ h
      rw [this]
      simp
      omega
    · rename_i h0
      exact absurd h h0
def farB (op : Nat) : Bool := decide (16 ≤ op) && decide (op ≤ 19)
/-- So many numbers does an op want. -/
def wantN (op : Nat) : Nat := (if bareD op then 0 else 1) + (if bareA op then 0 else 1) + (if bareI op then 0 else 1)
def arD (op : Nat) (z : List Int) : Int := if bareD op then 0 else z.getD 0 0
def arA (op : Nat) (z : List Int) : Int := if bareA op then 0 else z.getD (if bareD op then 0 else 1) 0
def arI (op : Nat) (z : List Int) : Int := if bareI op then 0 else z.getD ((if bareD op then 0 else 1) + (if bareA op then 0 else 1)) 0
def wordW : Wb := [119, 111, 114, 100]
def plainO : Option Nat → Int × Int
  | some n => if n ≤ 4294967295 then (0, (n : Int)) else (3, 0)
  | none => (5, 0)
def plainV (tl : List Wb) : Int × Int := if tl.length = 1 then plainO (numO (tl.getD 0 [])) else (5, 0)
def insL (op : Nat) (z : List Int) : Int × Int := (insC op (arD op z) (arA op z) (arI op z), encV op (arD op z) (arA op z) (arI op z))
def codeO (op : Nat) (a : Int × List Int) : Int × Int := if a.1 = 0 then insL op a.2 else (a.1, 0)
def lineO (ls : List Lbl) (here : Nat) (tl : List Wb) : Option Nat → Int × Int
  | none => (5, 0)
  | some op => if tl.length = wantN op then codeO op (argsA ls here (farB op) tl []) else (5, 0)
/-- The word of a line: its code, its value. -/
def lineV (ls : List Lbl) (here : Nat) (ws : List Wb) : Int × Int :=
  if ws.getD 0 [] = wordW then plainV (ws.drop 1) else lineO ls here (ws.drop 1) (opnF (bq (ws.getD 0 [])) 26 1)
def asmR (ls : List Lbl) : List (List Wb) → Nat → List Int → Int × Nat × List Int
  | [], _, acc => (0, 0, acc)
  | ws :: r, k, acc => if imgB ws = true then (if (lineV ls acc.length ws).1 = 0 then asmR ls r (k + 1) (acc ++ [(lineV ls acc.length ws).2]) else ((lineV ls acc.length ws).1, k, [])) else asmR ls r (k + 1) acc
def asmV (tx : Wb) : Int × Nat × List Int := if (labV tx).1 = 0 then asmR (labV tx).2.2 (cutT tx) 0 [] else ((labV tx).1, (labV tx).2.1, [])
theorem asmR_at (ls : List Lbl) (W : List (List Wb)) (j k : Nat) (acc : List Int) (h : j < W.length) : asmR ls (W.drop j) k acc =
    if imgB (W.getD j []) = true then (if (lineV ls acc.length (W.getD j [])).1 = 0 then asmR ls (W.drop (j + 1)) (k + 1) (acc ++ [(lineV ls acc.length (W.getD j [])).2]) else ((lineV ls acc.length (W.getD j [])).1, k, [])) else asmR ls (W.drop (j + 1)) (k + 1) acc := by
  have e : W.getD j [] = W[j] := by simp [List.getD, List.getElem?_eq_getElem h]
  rw [e, List.drop_eq_getElem_cons h, asmR]
theorem asmR_len (ls : List Lbl) : ∀ (W : List (List Wb)) (k : Nat) (acc : List Int), (asmR ls W k acc).2.2.length ≤ acc.length + W.length
  | [], k, acc => by simp [asmR]
  | ws :: r, k, acc => by
    have h1 := asmR_len ls r (k + 1) (acc ++ [(lineV ls acc.length ws).2])
    have h2 := asmR_len ls r (k + 1) acc
    rw [asmR]
    split
    · split
      · simp at h1 ⊢; omega
      · simp
    · simp at h2 ⊢; omega
/-- Labels lie no further than there are lines. -/
theorem labR_place : ∀ (W : List (List Wb)) (k p : Nat) (acc : List Lbl) (M : Nat), p + W.length ≤ M → (∀ e ∈ acc, e.2 ≤ M) → ∀ e ∈ (labR W k p acc).2.2, e.2 ≤ M
  | [], k, p, acc, M, _, h => h
  | ws :: r, k, p, acc, M, hM, h => by
    rw [List.length_cons] at hM
    rw [labR]
    split
    · split
      · split
        · refine labR_place r (k + 1) p _ M (by omega) ?_
          intro e he
          rcases List.mem_append.1 he with he | he
          · exact h e he
          · obtain rfl := List.mem_singleton.1 he
            show p ≤ M
            omega
        · intro e he; cases he
      · intro e he; cases he
    · refine labR_place r (k + 1) _ acc M ?_ h
      split <;> omega
theorem findL_le {ls : List Lbl} {M : Nat} (h : ∀ e ∈ ls, e.2 ≤ M) {x : Wb} {p : Nat} (hf : findL ls x = some p) : p ≤ M := by
  induction ls with
  | nil => cases hf
  | cons e r ih =>
    rw [findL] at hf
    split at hf
    · cases hf
      exact h e (by simp)
    · exact ih (fun y hy => h y (by simp [hy])) hf
theorem labV_place (tx : Wb) {x : Wb} {p : Nat} (hf : findL (labV tx).2.2 x = some p) : p ≤ 80 := by
  unfold labV at hf
  split at hf
  · cases hf
  · rename_i hc
    refine findL_le (labR_place (cutT tx) 0 0 [] 80 ?_ (by simp)) hf
    rw [cutT_len]
    omega
end Go.Proofs.YtdmlejfopmimfaaGreatDoor
