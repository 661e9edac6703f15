/- Texts of this seat, joined. -/
import Derived.BigQuiet
import Derived.Test.YtdmlejfopmimfaaGreatDoorQ41
namespace Go.Proofs.YtdmlejfopmimfaaGreatDoor
open Go.RowKit
set_option linter.unusedVariables false

def wayV (ls : List Lbl) (here : Nat) (x : Wb) : Int × Int := if nameB x = true then wayO here (findL ls x) else (5, 0)
set_option maxRecDepth 20000 in
set_option maxHeartbeats 2000000 in
theorem i_wayTo (a0 a1 : Option Addr) (l0 c0 l1 c1 mb n : Nat) (x : Wb) (here : Nat) (ls : List Lbl) (w : World) (hS : Sm w mb n ls) (hx : x.length ≤ 1048576) (hh : here ≤ 1000000) (hP : ∀ p, findL ls x = some p → p ≤ 1000000) :
    Calls Tryz.prog 76 #[.agg #[.slice a0 l0 c0, .slice a1 l1 c1, .map (some mb)], .string (bq x), .int .i64 here] w fun e w' => e = .returned (.agg #[.int .i64 (wayV ls here x).1, .int .i64 (wayV ls here x).2]) ∧ Below w.heap.size w w' := by
  have hN := fun w => i_name x w hx
  obtain ⟨s, hs⟩ : ∃ s, w.heap.size = s := ⟨_, rfl⟩
  generalize hW : (w.alloc (.cells #[.slice a0 l0 c0, .slice a1 l1 c1, .map (some mb)] 56)).alloc (.cells #[.int .i64 0, .int .i64 0] 62) = W
  have B0 : Hid (Below w.heap.size w W) := by show Below _ _ _; rw [← hW]; exact al (al (Below.refl _ _) _) _
  have Q : Vq W s #[.slice a0 l0 c0, .slice a1 l1 c1, .map (some mb)] 56 := by rw [← hW, ← hs]; exact (Vq.new _ _ _).keep (al (Below.refl _ _) _)
  have R : Hid (Vq W (s + 1) #[.int .i64 0, .int .i64 0] 62) := by
    show Vq _ _ _ _
    rw [← hW, show s + 1 = (w.alloc (.cells #[.slice a0 l0 c0, .slice a1 l1 c1, .map (some mb)] 56)).heap.size by rw [← hs]; simp]
    exact Vq.new _ _ _
  have hLk := (hS.keep B0.out).lookOk x hx
  have HSS : Hid (w.heap.size = s) := hs
  have q2 := Q.cell 2 rfl
  have k0 := R.out.cell 0 rfl
  have k1 := R.out.cell 1 rfl
  have f0 := R.out.free 0
  have f1 := R.out.free 1
  have ls1 := R.out.lt
  clear hS Q
  cases hn : nameB x
  · rw [hn] at hN
    have e : wayV ls here x = (5, 0) := by unfold wayV; rw [hn, if_neg Bool.false_ne_true]
    rw [e]
    clear hLk hn e hP
    have NN : Hid (Vq _ (s + 1) #[.int .i64 5, .int .i64 0] 62) := pair2 R.out (.int .i64 5) (.int .i64 0)
    have BN : Hid (Below w.heap.size w _) := below2 B0.out (show w.heap.size ≤ s + 1 by have := HSS.out; omega) (.int .i64 5) (.int .i64 0)
    generalize bq x = X at *
    go_enter Tryz.func76, Tryz.ntmps76
    go_wp2_with (go_at_call 71; refine (hN _).mono ?_; rintro e y ⟨rfl, rfl⟩)
    generalize World.setCell _ ⟨s + 1, 1, none⟩ (.int .i64 0) = V at *
    have x0 := NN.out.cell 0 rfl
    have x1 := NN.out.cell 1 rfl
    exact bodyPost_ret (v := .agg #[.int .i64 5, .int .i64 0]) (by simp [results, Tryz.results76, go_sem, x0, x1]) rfl ⟨rfl, BN.out⟩
  · rw [hn] at hN
    have e : wayV ls here x = wayO here (findL ls x) := by unfold wayV; rw [hn, if_pos rfl]
    rw [e]
    clear hn e
    cases hf : findL ls x with
    | none =>
      rw [hf] at hLk
      replace hLk : (Instr.lookup 54 (.map (some mb)) (.string (bq x)) true).run Tryz.prog W = .ok (.tuple #[.int .i64 0, .bool false]) W := hLk
      have NN : Hid (Vq _ (s + 1) #[.int .i64 4, .int .i64 0] 62) := pair2 R.out (.int .i64 4) (.int .i64 0)
      have BN : Hid (Below w.heap.size w _) := below2 B0.out (show w.heap.size ≤ s + 1 by have := HSS.out; omega) (.int .i64 4) (.int .i64 0)
      clear hf hP
      generalize bq x = X at *
      go_enter Tryz.func76, Tryz.ntmps76
      go_wp2_with (go_at_call 71; refine (hN _).mono ?_; rintro e y ⟨rfl, rfl⟩)
      generalize World.setCell _ ⟨s + 1, 1, none⟩ (.int .i64 0) = V at *
      have x0 := NN.out.cell 0 rfl
      have x1 := NN.out.cell 1 rfl
      exact bodyPost_ret (v := .agg #[.int .i64 4, .int .i64 0]) (by simp [results, Tryz.results76, go_sem, x0, x1]) rfl ⟨rfl, BN.out⟩
    | some p =>
      have hp := hP p hf
      rw [hf] at hLk
      replace hLk : (Instr.lookup 54 (.map (some mb)) (.string (bq x)) true).run Tryz.prog W = .ok (.tuple #[.int .i64 p, .bool true]) W := hLk
      have hpI : (p : Int) ≤ 1000000 := by omega
      have hhI : (here : Int) ≤ 1000000 := by omega
      have ha := and65535 ((p : Int) - here)
      obtain ⟨z, hz⟩ : ∃ z, ((p : Int) - here) % 65536 = z := ⟨_, rfl⟩
      have e2 : wayO here (some p) = (0, z) := by rw [wayO, hz]
      rw [e2]
      rw [hz] at ha
      have NN : Hid (Vq _ (s + 1) #[.int .i64 0, .int .i64 z] 62) := pair2 R.out (.int .i64 0) (.int .i64 z)
      have BN : Hid (Below w.heap.size w _) := below2 B0.out (show w.heap.size ≤ s + 1 by have := HSS.out; omega) (.int .i64 0) (.int .i64 z)
      clear hf hP e2 hp hz
      generalize bq x = X at *
      go_enter Tryz.func76, Tryz.ntmps76
      go_wp2_with (go_at_call 71; refine (hN _).mono ?_; rintro e y ⟨rfl, rfl⟩)
      generalize World.setCell _ ⟨s + 1, 1, none⟩ (.int .i64 z) = V at *
      have x0 := NN.out.cell 0 rfl
      have x1 := NN.out.cell 1 rfl
      exact bodyPost_ret (v := .agg #[.int .i64 0, .int .i64 z]) (by simp [results, Tryz.results76, go_sem, x0, x1]) rfl ⟨rfl, BN.out⟩
/-- So many numbers has what an op tells. -/
theorem want_cases (op : Nat) (h1 : 1 ≤ op) (h2 : op ≤ 26) : (wantN op = 2 ∧ bareD op = false ∧ bareA op = true ∧ bareI op = false ∧ (op = 13 ∨ op = 19 ∨ op = 21)) ∨ (wantN op = 2 ∧ bareD op = true ∧ bareA op = false ∧ bareI op = false ∧ op = 22) ∨ (wantN op = 0 ∧ bareD op = true ∧ bareA op = true ∧ bareI op = true ∧ (op = 23 ∨ op = 24 ∨ op = 25 ∨ op = 26)) ∨ (wantN op = 3 ∧ bareD op = false ∧ bareA op = false ∧ bareI op = false ∧ op ≠ 13 ∧ op ≠ 19 ∧ op ≠ 21 ∧ op < 22) := by
  have d : ∀ k : Fin 27, 1 ≤ k.val → (wantN k.val = 2 ∧ bareD k.val = false ∧ bareA k.val = true ∧ bareI k.val = false ∧ (k.val = 13 ∨ k.val = 19 ∨ k.val = 21)) ∨ (wantN k.val = 2 ∧ bareD k.val = true ∧ bareA k.val = false ∧ bareI k.val = false ∧ k.val = 22) ∨ (wantN k.val = 0 ∧ bareD k.val = true ∧ bareA k.val = true ∧ bareI k.val = true ∧ (k.val = 23 ∨ k.val = 24 ∨ k.val = 25 ∨ k.val = 26)) ∨ (wantN k.val = 3 ∧ bareD k.val = false ∧ bareA k.val = false ∧ bareI k.val = false ∧ k.val ≠ 13 ∧ k.val ≠ 19 ∧ k.val ≠ 21 ∧ k.val < 22) := by decide
  exact d ⟨op, by omega⟩ h1
set_option maxRecDepth 20000 in
set_option maxHeartbeats 2000000 in
theorem i_told (op : Nat) (w : World) (h1 : 1 ≤ op) (h2 : op ≤ 26) :
    Calls Tryz.prog 50 #[.agg #[.int .i64 op, .int .i64 0, .int .i64 0, .int .i64 0]] w fun e w' => ∃ a c, e = .returned (.slice a (wantN op) c) ∧ Below w.heap.size w w' := by
  rcases want_cases op h1 h2 with ⟨hw, _, _, _, h⟩ | ⟨hw, _, _, _, h⟩ | ⟨hw, _, _, _, h⟩ | ⟨hw, _, _, _, h3, h4, h5, h6⟩
  · rw [hw]
    rcases h with rfl | rfl | rfl
    all_goals
      go_enter Tryz.func50, Tryz.ntmps50
      go_wp2_with fail
      go_ret
      exact ⟨_, _, rfl, al (al (Below.refl _ _) _) _⟩
  · rw [hw]
    subst h
    go_enter Tryz.func50, Tryz.ntmps50
    go_wp2_with fail
    go_ret
    exact ⟨_, _, rfl, al (al (Below.refl _ _) _) _⟩
  · rw [hw]
    rcases h with rfl | rfl | rfl | rfl
    all_goals
      go_enter Tryz.func50, Tryz.ntmps50
      go_wp2_with fail
      go_ret
      exact ⟨_, _, rfl, al (Below.refl _ _) _⟩
  · rw [hw]
    have e1 : ¬ (op : Int) = 13 := by omega
    have e2 : ¬ (op : Int) = 19 := by omega
    have e3 : ¬ (op : Int) = 21 := by omega
    have e4 : ¬ (op : Int) = 22 := by omega
    have e5 : ¬ (op : Int) = 23 := by omega
    have e6 : ¬ (op : Int) = 24 := by omega
    have e7 : ¬ (op : Int) = 25 := by omega
    have e8 : ¬ (op : Int) = 26 := by omega
    clear h1 h2 hw h3 h4 h5 h6
    go_enter Tryz.func50, Tryz.ntmps50
    go_wp2_with fail
    go_ret
    exact ⟨_, _, rfl, al (al (Below.refl _ _) _) _⟩
end Go.Proofs.YtdmlejfopmimfaaGreatDoor
