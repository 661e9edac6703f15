/- Texts of this seat, joined. -/
import Derived.Maps.OwnSet
import Derived.Maps.Views
import Derived.Maps.Range
import Derived.Lib.Strings
import Derived.Lib.BufferWrite
import Derived.Lib.UnsafeStr
import Derived.Laws.MakeOwn
import Derived.Test.YtdmlejfopmimfaaGreatDoorQ32
namespace Go.Proofs.YtdmlejfopmimfaaGreatDoor
open Go.RowKit
open Go.Maps (Keyed)
set_option linter.unusedVariables false

theorem str_law : Keyed Tryz.prog 9 := Maps.string_keyed Tryz.underlying9
theorem str_key (x : Wb) (h : x.length ≤ 1048576) : keyOf Tryz.prog 9 (.string (bq x)) = some (.string x) := by
  rw [WideMaps.keyOf_string_mk Tryz.underlying9 (by rw [bq_size]; unfold maxLen; omega)]
  rfl
theorem zero_int (w : World) : (zeroValue 2).run Tryz.prog w = .ok (.int .i64 0) w := by kernel_rfl
def heldS (v : Value) : Option (DataW Value × List MemPlace) := some (.held v, [])
def lkI : Option Nat → Int
  | some k => k
  | none => 0
theorem findL_app (ls : List Lbl) (x y : Wb) (k : Nat) : findL (ls ++ [(x, k)]) y = match findL ls y with
    | some j => some j
    | none => if x = y then some k else none := by
  induction ls with
  | nil => simp [findL]
  | cons p r ih =>
    rw [List.cons_append, findL, findL]
    by_cases h : p.1 = y
    · simp [h]
    · rw [if_neg h, if_neg h, ih]
/-- Block mb is the program's map, and it says the labels ls. -/
def Sm (w : World) (mb n : Nat) (ls : List Lbl) : Prop :=
  ∃ D : DataW Value, w.ownsMap Tryz.prog 9 heldS mb n D ∧ (∀ x : Wb, x.length ≤ 1048576 → Maps.has D (.string x) = (findL ls x).isSome) ∧ (∀ (x : Wb) (k : Nat), x.length ≤ 1048576 → findL ls x = some k → ∀ zd, D.atKey (.string x) zd = .held (.int .i64 k))
theorem Sm.lt {w : World} {mb n : Nat} {ls : List Lbl} (h : Sm w mb n ls) : mb < w.heap.size := by
  obtain ⟨D, h1, _⟩ := h
  exact h1.lt
theorem Sm.kept {w w' : World} {mb n : Nat} {ls : List Lbl} {row : Option Nat} (h : Sm w mb n ls) (hg : w.grownBy w' row) (hne : some mb ≠ row) : Sm w' mb n ls := by
  obtain ⟨D, h1, h2⟩ := h
  exact ⟨D, h1.kept hg hne, h2⟩
theorem Sm.keep {w w' : World} {mb n : Nat} {ls : List Lbl} (h : Sm w mb n ls) (hb : Below w.heap.size w w') : Sm w' mb n ls := h.kept (below_grownL hb none) (by simp)
theorem Sm.put {w : World} {mb n : Nat} {ls : List Lbl} (h : Sm w mb n ls) {a : Addr} (ha : mb ≠ a.block) (u : Value) : Sm (w.setCell a u) mb n ls := by
  obtain ⟨D, h1, h2⟩ := h
  exact ⟨D, h1.setCell ha u, h2⟩
theorem Sm.apartB {w : World} {mb n : Nat} {ls : List Lbl} (h : Sm w mb n ls) {a : Addr} {v : Value} (hc : w.cell? a = some v) : mb ≠ a.block := by
  obtain ⟨D, ⟨es, clock, hb, _⟩, _⟩ := h
  intro e
  subst e
  simp [World.cell?, hb] at hc
theorem Sm.drew {w : World} {mb n : Nat} {ls : List Lbl} (h : Sm w mb n ls) : Sm w.drew mb n ls := by
  obtain ⟨D, h1, h2⟩ := h
  exact ⟨D, h1.drew, h2⟩
theorem Sm.made (w : World) : Sm (w.alloc (.map #[] 0)) w.heap.size 0 [] :=
  ⟨_, World.ownsMap_made w _ _ _, fun _ _ => rfl, fun _ _ _ h => by cases h⟩
theorem Sm.lookOk {w : World} {mb n : Nat} {ls : List Lbl} (h : Sm w mb n ls) (x : Wb) (hx : x.length ≤ 1048576) :
    (Instr.lookup 54 (.map (some mb)) (.string (bq x)) true).run Tryz.prog w = .ok (.tuple #[.int .i64 (lkI (findL ls x)), .bool (findL ls x).isSome]) w := by
  obtain ⟨D, h1, h2, h3⟩ := h
  obtain ⟨v, ps, hrun, hv⟩ := h1.look_ok str_law Tryz.underlying54 (zero_int w) rfl (str_key x hx)
  rw [hrun, h2 x hx]
  cases hf : findL ls x with
  | none =>
    have hn := h2 x hx
    rw [hf] at hn
    rw [Maps.atKey_of_not_has hn] at hv
    simp [heldS] at hv
    rw [hv.1]
    rfl
  | some k =>
    rw [h3 x k hx hf] at hv
    simp [heldS] at hv
    rw [hv.1]
    rfl
theorem Sm.store {w : World} {mb n : Nat} {ls : List Lbl} (h : Sm w mb n ls) (hn : n < 1000000) (x : Wb) (hx : x.length ≤ 1048576) (k : Nat) (hf : findL ls x = none) :
    ∃ w', (Instr.mapUpdate 54 (.map (some mb)) (.string (bq x)) (.int .i64 k)).run Tryz.prog w = .ok () w' ∧ Sm w' mb (n + 1) (ls ++ [(x, k)]) ∧ w.grownBy w' (some mb) := by
  obtain ⟨D, h1, h2, h3⟩ := h
  obtain ⟨w', hrun, ho, hg⟩ := h1.update str_law Tryz.underlying54 (by unfold maxLen; omega) (str_key x hx) (val := .int .i64 k) rfl
  have hk := str_law.key (str_key x hx)
  refine ⟨w', hrun, ⟨_, ho, ?_, ?_⟩, hg⟩
  · intro y hy
    rw [findL_app]
    by_cases he : x = y
    · subst he
      rw [Maps.has_put_same h1.isMap hk, hf]
      simp
    · rw [Maps.has_put_other (fun e => he (by cases e; rfl)), h2 y hy]
      cases findL ls y <;> simp [he]
  · intro y j hy hfy zd
    rw [findL_app] at hfy
    by_cases he : x = y
    · subst he
      rw [hf] at hfy
      simp at hfy
      subst hfy
      rw [Maps.atKey_put_same h1.isMap hk]
    · rw [Maps.atKey_put_other (fun e => he (by cases e; rfl))]
      refine h3 y j hy ?_ zd
      cases hq : findL ls y with
      | none => rw [hq] at hfy; simp [he] at hfy
      | some i => rw [hq] at hfy; exact hfy
theorem info_byteL : (Tryz.prog.info? 5).map (fun i => (i.zero, i.size, i.bytes)) = some (some (.int .u8 0), 1, 1) := by kernel_rfl
set_option maxRecDepth 20000 in
set_option maxHeartbeats 4000000 in
theorem l_clone (s : ByteArray) (w : World) (hlim : s.size ≤ 1048576) :
    Calls Tryz.prog 72 #[.string s] w fun e w' => e = .returned (.string s) ∧ Below w.heap.size w w' := by
  by_cases h0 : s.size = 0
  · have hs : s = ⟨#[]⟩ := by
      apply ByteArray.ext
      exact Array.eq_empty_of_size_eq_zero h0
    subst hs
    go_enter Tryz.func72, Tryz.ntmps72
    go_wp2
    go_ret
    exact ⟨rfl, Below.refl _ _⟩
  · obtain ⟨i0, hi, hz0, hz1, hz2⟩ := info_parts info_byteL
    have hinfo : (Tryz.prog.info? 5).map (·.size) = some 1 := by rw [hi]; simp [hz1]
    have hco : Tryz.prog.cellsOf 5 = 1 := by simp [Program.cellsOf, hi, hz1]
    obtain ⟨M, hM⟩ : ∃ M, M = madeCells (Value.int .u8 0).cells (((s.size : Nat) : Int).toNat * i0.size) := ⟨_, rfl⟩
    have hMs : M.size = s.size := by rw [hM, size_madeCells, hz1]; simp
    have hmk : ∀ W : World, (Instr.makeSlice 22 (.int .i64 (s.size : Int)) (.int .i64 (s.size : Int))).run Tryz.prog W = .ok (.slice (some ⟨W.heap.size, 0, none⟩) s.size s.size) (W.alloc (.cells M 5)) := fun W => by
      have h := run_make (P := Tryz.prog) W 22 5 i0 (.int .u8 0) Tryz.underlying22 hi hz0 .i64 .i64 (s.size : Int) (s.size : Int) (by omega) (by omega) (by rw [hz2]; omega) (by omega)
      rw [← hM] at h
      simpa using h
    clear hM
    have hcp := Lib.run_copy_row_string (P := Tryz.prog) (w.alloc (.cells M 5)) 22 9 3 5 w.heap.size 0 s.size s.size s M 5 Tryz.underlying22 hinfo (heap_alloc_new w _) (Nat.le_refl _) (by omega)
    obtain ⟨Y, hY⟩ : ∃ Y, Y = (M.toList.take 0 ++ Lib.byteCells s.data.toList ++ M.toList.drop (0 + s.size)).toArray := ⟨_, rfl⟩
    rw [← hY] at hcp
    have hYl : Y.toList = Lib.byteCells s.data.toList := by
      rw [hY, List.toList_toArray, List.take_zero, List.nil_append, List.drop_of_length_le (by rw [Array.length_toList]; omega), List.append_nil]
    have hYs : Y.size = s.size := by rw [← Array.length_toList, hYl, Lib.byteCells_length, ← Lib.size_eq]
    have hgY : ((w.alloc (.cells M 5)).setRow w.heap.size Y).heap[w.heap.size]? = some (.cells Y 5 (0, 0)) := setRow_heap _ _ M _ 5 (0, 0) (heap_alloc_new w _)
    have hne : s.data.toList ≠ [] := fun e => h0 (by rw [Lib.size_eq, e]; rfl)
    have hUS := Lib.run_unsafeString_row (P := Tryz.prog) ((w.alloc (.cells M 5)).setRow w.heap.size Y) 85 3 9 5 Tryz.underlying85 hco w.heap.size Y.size (by unfold World.shape?; rw [hgY]) s.data.toList hne (by rw [← Lib.size_eq]; omega) (by rw [← Lib.size_eq]; omega)
      (fun j x hx => Lib.cells_of_row hgY Y.size j _ (by rw [List.take_of_length_le (by rw [Array.length_toList]; exact Nat.le_refl _), hYl]; simp [Lib.byteCells, hx]))
    rw [← Lib.size_eq] at hUS
    clear hY
    go_enter Tryz.func72, Tryz.ntmps72
    go_wp2
    go_ret
    have hb1 : Below w.heap.size w (w.alloc (.cells M 5)) := (Below.refl _ w).alloc (Nat.le_refl _) _
    have hb2 : Below w.heap.size (w.alloc (.cells M 5)) ((w.alloc (.cells M 5)).setRow w.heap.size Y) := ⟨rfl, rfl, rfl, by simp, fun k hk => setRow_other _ _ _ _ (by omega)⟩
    exact ⟨rfl, Lib.below_freeze (hb1.trans hb2) (p := ⟨w.heap.size, 0, none⟩) (Nat.le_refl _) _⟩
theorem i_clone (x : Wb) (w : World) (hx : x.length ≤ 1048576) :
    Calls Tryz.prog 47 #[.string (bq x)] w fun e w' => e = .returned (.string (bq x)) ∧ Below w.heap.size w w' := by
  have hc := l_clone (bq x) w (by rw [bq_size]; exact hx)
  go_enter Tryz.func47, Tryz.ntmps47
  go_wp2_with (go_at_call 72; refine hc.mono ?_; rintro e w1 ⟨rfl, b1⟩)
  go_ret
  exact ⟨rfl, b1⟩
/-- The fault of a label's line, behind the labels so far. -/
def lfV (ls : List Lbl) (ws : List Wb) : Int := if ws.length = 2 ∧ nameB (ws.getD 1 []) = true then (if findL ls (ws.getD 1 []) = none then 0 else 6) else 5
set_option maxHeartbeats 2000000 in
theorem i_labFault (v0 v1 : Value) (mb n : Nat) (a : Option Addr) (m c : Nat) (ws : List Wb) (ls : List Lbl) (w : World) (hS : Sm w mb n ls) (hR : Rs w a m c ws) (hg : ∀ y, a = some y → ∃ g, y = ⟨g, 0, none⟩) (hm : m ≤ 1048576) (hx : ∀ i, i < ws.length → (ws.getD i []).length ≤ 1048576) :
    Calls Tryz.prog 46 #[.agg #[v0, v1, .map (some mb)], .slice a m c] w fun e w' => e = .returned (.int .i64 (lfV ls ws)) ∧ Below w.heap.size w w' := by
  have hl := hR.len
  have hmI : (m : Int) ≤ 1048576 := by omega
  by_cases h2 : m = 2
  case neg =>
    have hV : lfV ls ws = 5 := by rw [lfV, if_neg (fun h => h2 (by omega))]
    have h2I : ¬ (m : Int) = 2 := by omega
    rw [hV]
    clear hS hR hx hl hV
    go_enter Tryz.func46, Tryz.ntmps46
    go_wp2_with fail
    go_ret
    exact ⟨rfl, al (Below.refl _ _) _⟩
  subst h2
  obtain ⟨x, rfl, cx⟩ := hR.at 1 (by omega)
  obtain ⟨g, rfl⟩ := hg x rfl
  have hy := hx 1 (by omega)
  obtain ⟨y, hyy⟩ : ∃ y, ws.getD 1 [] = y := ⟨_, rfl⟩
  have HV : Hid (lfV ls ws = if nameB y = true then (if findL ls y = none then 0 else 6) else 5) := by
    show _ = _
    rw [lfV, hyy]
    simp [← hl]
  rw [hyy] at cx hy
  rw [add_plainL] at cx
  rw [HV.out]
  clear hR hx hl hyy HV hmI hg
  have hN := fun w => i_name y w hy
  generalize hW : w.alloc (.cells #[v0, v1, .map (some mb)] 56) = W
  have B0 : Hid (Below w.heap.size w W) := by show Below _ _ _; rw [← hW]; exact al (Below.refl _ _) _
  obtain ⟨s, hs⟩ : ∃ s, w.heap.size = s := ⟨_, rfl⟩
  have Q : Vq W s #[v0, v1, .map (some mb)] 56 := by rw [← hW, ← hs]; exact Vq.new _ _ _
  have q2 := Q.cell 2 rfl
  have cw := cell_keep B0.out cx
  cases hn : nameB y
  · rw [hn] at hN
    rw [if_neg Bool.false_ne_true]
    clear cx Q
    go_enter Tryz.func46, Tryz.ntmps46
    go_wp2_with (go_at_call 71; refine (hN _).mono ?_; rintro e x ⟨rfl, rfl⟩)
    go_ret
    exact ⟨rfl, B0.out⟩
  · rw [hn] at hN
    rw [if_pos rfl]
    have hLk := (hS.keep B0.out).drew.lookOk y hy
    clear hn hS cx Q
    cases hf : findL ls y with
    | none =>
      rw [hf] at hLk
      rw [if_pos rfl]
      have hLk : (Instr.lookup 54 (.map (some mb)) (.string (bq y)) true).run Tryz.prog W.drew = .ok (.tuple #[.int .i64 0, .bool false]) W.drew := hLk
      clear hf
      go_enter Tryz.func46, Tryz.ntmps46
      go_wp2_with (go_at_call 71; refine (hN _).mono ?_; rintro e x ⟨rfl, rfl⟩)
      go_region
      all_goals
        go_wp2_with fail
        go_ret
        exact ⟨rfl, B0.out.drew⟩
    | some k =>
      rw [hf] at hLk
      rw [if_neg (by simp)]
      have hLk : (Instr.lookup 54 (.map (some mb)) (.string (bq y)) true).run Tryz.prog W.drew = .ok (.tuple #[.int .i64 k, .bool true]) W.drew := hLk
      clear hf
      go_enter Tryz.func46, Tryz.ntmps46
      go_wp2_with (go_at_call 71; refine (hN _).mono ?_; rintro e x ⟨rfl, rfl⟩)
      go_region
      all_goals
        go_wp2_with fail
        go_ret
        exact ⟨rfl, B0.out.drew⟩
end Go.Proofs.YtdmlejfopmimfaaGreatDoor
