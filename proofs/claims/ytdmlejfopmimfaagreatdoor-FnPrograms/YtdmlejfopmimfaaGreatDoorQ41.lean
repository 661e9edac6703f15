/- Texts of this seat, joined. -/
import Derived.Test.YtdmlejfopmimfaaGreatDoorQ15
import Derived.Test.YtdmlejfopmimfaaGreatDoorQ18
import Derived.Test.YtdmlejfopmimfaaGreatDoorQ40
namespace Go.Proofs.YtdmlejfopmimfaaGreatDoor
open Go.RowKit
set_option linter.unusedVariables false

set_option maxRecDepth 20000 in
set_option maxHeartbeats 1000000 in
theorem i_isNum (l : Wb) (w : World) (hl : l.length ≤ 1048576) :
    Calls Tryz.prog 88 #[.string (bq l), .int .i64 10] w fun e w' => e = .returned (.bool (decide (l.length ≤ 10) && allW 48 57 l)) ∧ w' = w := by
  have hi := fun w => i_within l 48 57 (by decide) (by decide) hl w
  have hz : (bq l).size = l.length := bq_size l
  obtain ⟨n, hn⟩ : ∃ n, l.length = n := ⟨_, rfl⟩
  rw [hn] at hz hl ⊢
  have hnI : (n : Int) ≤ 1048576 := by omega
  generalize bq l = S at *
  generalize allW 48 57 l = b at *
  clear hn
  by_cases h : n ≤ 10
  · have hI : (n : Int) ≤ 10 := by omega
    rw [decide_eq_true h]
    go_enter Tryz.func88, Tryz.ntmps88
    go_wp2_with (go_at_call 87; refine (hi _).mono ?_; rintro e x ⟨rfl, rfl⟩)
    go_ret
    exact ⟨by simp, rfl⟩
  · have hI : ¬ (n : Int) ≤ 10 := by omega
    rw [decide_eq_false h]
    go_enter Tryz.func88, Tryz.ntmps88
    go_wp2_with (go_at_call 87; refine (hi _).mono ?_; rintro e x ⟨rfl, rfl⟩)
    go_ret
    exact ⟨by simp, rfl⟩
def numC (l : Wb) : Int := match numO l with | some _ => 0 | none => 5
def numX (l : Wb) : Int := match numO l with | some n => n | none => 0
set_option maxRecDepth 20000 in
set_option maxHeartbeats 2000000 in
theorem i_digits (l : Wb) (w : World) (hl : l.length ≤ 1048576) :
    Calls Tryz.prog 73 #[.string (bq l), .int .i64 10] w fun e w' => e = .returned (.agg #[.int .i64 (numC l), .int .i64 (numX l)]) ∧ Below w.heap.size w w' := by
  have hi := fun w => i_isNum l w hl
  have hz : (bq l).size = l.length := bq_size l
  by_cases hb : l.length ≤ 10 ∧ allW 48 57 l = true
  case neg =>
    have e0 : numO l = none := by unfold numO; rw [if_neg hb]
    have e1 : numC l = 5 := by simp [numC, e0]
    have e2 : numX l = 0 := by simp [numX, e0]
    have eb : (decide (l.length ≤ 10) && allW 48 57 l) = false := by
      rw [Bool.eq_false_iff]
      intro h
      simp only [Bool.and_eq_true, decide_eq_true_eq] at h
      exact hb h
    rw [e1, e2]
    rw [eb] at hi
    clear e0 e1 e2 eb hb
    generalize bq l = S at *
    go_enter Tryz.func73, Tryz.ntmps73
    go_wp2_with (go_at_call 88; refine (hi _).mono ?_; rintro e x ⟨rfl, rfl⟩)
    exact bodyPost_ret (v := .agg #[.int .i64 5, .int .i64 0]) (by simp [results, Tryz.results73, go_sem]) rfl ⟨rfl, al (Below.refl _ _) _⟩
  have e0 : numO l = some (dvl l) := by unfold numO; rw [if_pos hb]
  have e1 : numC l = 0 := by simp [numC, e0]
  have e2 : numX l = dvl l := by simp [numX, e0]
  have eb : (decide (l.length ≤ 10) && allW 48 57 l) = true := by
    simp only [Bool.and_eq_true, decide_eq_true_eq]
    exact hb
  have HA : Hid (l.all (withinB 48 57) = true) := by
    have h := hb.2
    unfold allW at h
    simp only [Bool.and_eq_true] at h
    exact h.1
  rw [e1, e2]
  rw [eb] at hi
  obtain ⟨V, hV⟩ : ∃ V, dvl l = V := ⟨_, rfl⟩
  have HV : Hid (dvl l = V) := hV
  rw [hV]
  obtain ⟨n, hn⟩ : ∃ n, l.length = n := ⟨_, rfl⟩
  have HN : Hid (l.length = n ∧ n ≤ 10) := ⟨hn, by omega⟩
  rw [hn] at hz
  have hnI : (n : Int) ≤ 10 := by omega
  have GT : Hid (∀ j (h : j < (bq l).size), (bq l)[j]'h = l.getD j 0) := bq_get l
  clear e0 e1 e2 eb hb hV hn hl
  generalize bq l = S at *
  go_enter Tryz.func73, Tryz.ntmps73
  go_wp2_with (go_at_call 88; refine (hi _).mono ?_; rintro e x ⟨rfl, rfl⟩)
  go_loop [5, 14] (fun d i => ∃ j : Nat, j ≤ n ∧ i = .int .i64 j ∧ d = .int .i64 (dvl (l.take j) : Nat)) (fun _ i => n - (intOf i).toNat)
  case atStart => exact ⟨0, Nat.zero_le _, rfl, rfl⟩
  case round =>
    obtain ⟨j, hj, rfl, rfl⟩ := hrel
    by_cases hlt : j < n
    · have hJ : (j : Int) < (n : Int) := by omega
      have HL : Hid (j < n) := hlt
      have hg := GT.out j (by omega)
      have NX : Hid (_ = _) := dvl_next l j (by have := HN.out; omega)
      have HD := dvl_small (l.take j) (by rw [List.all_eq_true]; exact fun x hx => (List.all_eq_true.1 HA.out) x (List.mem_of_mem_take hx)) (by rw [List.length_take]; have := HN.out; omega)
      have HC := List.all_eq_true.1 HA.out (l.getD j 0) (by rw [List.getD, List.getElem?_eq_getElem (show j < l.length by have := HN.out; omega)]; exact List.getElem_mem _)
      obtain ⟨c, hc⟩ : ∃ c, l.getD j 0 = c := ⟨_, rfl⟩
      obtain ⟨d, hd⟩ : ∃ d, dvl (l.take j) = d := ⟨_, rfl⟩
      rw [hc] at hg NX HC
      rw [hd] at NX HD ⊢
      have hc1 : 48 ≤ c.toNat := by unfold withinB at HC; simp at HC; exact HC.1
      have hc2 : c.toNat ≤ 57 := by unfold withinB at HC; simp at HC; exact HC.2
      have hd1 : (d : Int) ≤ 10000000000 := by omega
      have hcI1 : (48 : Int) ≤ (c.toNat : Int) := by omega
      have hcI2 : (c.toNat : Int) ≤ 57 := by omega
      clear hc hd hj HC HD
      go_wp2_with fail
      go_round
      case rel => exact ⟨j + 1, by have := HL.out; omega, by go_num, by rw [NX.out]; go_num⟩
      case measure => have := HL.out; simp [intOf]; omega
    · have hJ : ¬ (j : Int) < (n : Int) := by omega
      obtain rfl : j = n := by omega
      have EV : dvl (l.take j) = V := by rw [List.take_of_length_le (Nat.le_of_eq HN.out.1)]; exact HV.out
      rw [EV]
      go_wp2_with fail
      exact bodyPost_ret (v := .agg #[.int .i64 0, .int .i64 V]) (by simp [results, Tryz.results73, go_sem]) rfl ⟨rfl, al (Below.refl _ _) _⟩
set_option maxRecDepth 20000 in
set_option maxHeartbeats 2000000 in
theorem i_plain (a : Option Addr) (n c : Nat) (tl : List Wb) (w : World) (h : Rs w a n c tl) (hg : ∀ y, a = some y → ∃ g o, y = ⟨g, o, none⟩) (hn : n ≤ 1048576) (hx : ∀ i, i < tl.length → (tl.getD i []).length ≤ 1048576) :
    Calls Tryz.prog 48 #[.slice a n c] w fun e w' => e = .returned (.agg #[.int .i64 (plainV tl).1, .int .i64 (plainV tl).2]) ∧ Below w.heap.size w w' := by
  have hl := h.len
  have hnI : (n : Int) ≤ 1048576 := by omega
  by_cases h1 : n = 1
  case neg =>
    have e : plainV tl = (5, 0) := by unfold plainV; rw [if_neg (by omega)]
    have hI : ¬ (n : Int) = 1 := by omega
    rw [e]
    clear h hg hx e hl
    go_enter Tryz.func48, Tryz.ntmps48
    go_wp2_with fail
    exact bodyPost_ret (v := .agg #[.int .i64 5, .int .i64 0]) (by simp [results, Tryz.results48, go_sem]) rfl ⟨rfl, al (Below.refl _ _) _⟩
  subst h1
  obtain ⟨x, rfl, cx⟩ := h.at 0 (by omega)
  obtain ⟨g, o, rfl⟩ := hg x rfl
  have hy := hx 0 (by omega)
  obtain ⟨y, hyy⟩ : ∃ y, tl.getD 0 [] = y := ⟨_, rfl⟩
  have e : plainV tl = plainO (numO y) := by unfold plainV; rw [if_pos hl.symm, hyy]
  rw [hyy] at cx hy
  have cx : w.cell? ⟨g, o, none⟩ = some (.string (bq y)) := by simpa [Addr.add_lit] using cx
  rw [e]
  have gl := block_of_cell cx
  have gl : g < w.heap.size := gl
  have cw : (w.alloc (.cells #[.int .i64 0, .int .i64 0] 62)).cell? ⟨g, o, none⟩ = some (.string (bq y)) := cell_push _ cx
  have FD := fun w => i_digits y w hy
  unfold numC numX at FD
  clear e h hg hx hl hyy hnI
  cases hq : numO y with
  | none =>
    rw [hq] at FD
    simp only [plainO] at FD ⊢
    go_enter Tryz.func48, Tryz.ntmps48
    go_wp2_with fail
    refine (FD _).mono ?_
    rintro e w2 ⟨rfl, b2⟩
    obtain ⟨g1, g2, hs⟩ := res_stay b2
    have k0 := g1 0 (.int .i64 0) rfl
    have k1 := g1 1 (.int .i64 0) rfl
    have f0 := g2 0
    have f1 := g2 1
    clear g1 g2
    have V2 : Hid (Vq w2 w.heap.size #[.int .i64 0, .int .i64 0] 62) := (Vq.new _ _ _).keep b2
    have NN : Hid (Vq (World.alloc _ (.cells #[.int .i64 5, .int .i64 0] 62)) w.heap.size #[.int .i64 5, .int .i64 0] 62) := (pair2 V2.out (.int .i64 5) (.int .i64 0)).keep (al (Below.refl _ _) _)
    have BN : Hid (Below w.heap.size w (World.alloc _ (.cells #[.int .i64 5, .int .i64 0] 62))) := al (below2 (on (al (Below.refl _ _) _) b2) (Nat.le_refl _) (.int .i64 5) (.int .i64 0)) _
    go_wp2_with fail
    generalize World.alloc _ (.cells #[.int .i64 5, .int .i64 0] 62) = V at *
    have x0 := NN.out.cell 0 rfl
    have x1 := NN.out.cell 1 rfl
    exact bodyPost_ret (v := .agg #[.int .i64 5, .int .i64 0]) (by simp [results, Tryz.results48, go_sem, x0, x1]) rfl ⟨rfl, BN.out⟩
  | some n =>
    have hn10 := numO_lt hq
    rw [hq] at FD
    simp only [plainO] at FD ⊢
    by_cases hle : n ≤ 4294967295
    · have HW : isW (n : Int) = true := by unfold isW; simp; omega
      have FW := fun w => impl_isWord (n : Int) w
      rw [HW] at FW
      rw [if_pos hle]
      go_enter Tryz.func48, Tryz.ntmps48
      go_wp2_with fail
      refine (FD _).mono ?_
      rintro e w2 ⟨rfl, b2⟩
      obtain ⟨g1, g2, hs⟩ := res_stay b2
      have k0 := g1 0 (.int .i64 0) rfl
      have k1 := g1 1 (.int .i64 0) rfl
      have f0 := g2 0
      have f1 := g2 1
      clear g1 g2
      have V2 : Hid (Vq w2 w.heap.size #[.int .i64 0, .int .i64 0] 62) := (Vq.new _ _ _).keep b2
      have NN : Hid (Vq (World.alloc _ (.cells #[.int .i64 0, .int .i64 n] 62)) w.heap.size #[.int .i64 0, .int .i64 n] 62) := (pair2 V2.out (.int .i64 0) (.int .i64 n)).keep (al (Below.refl _ _) _)
      have BN : Hid (Below w.heap.size w (World.alloc _ (.cells #[.int .i64 0, .int .i64 n] 62))) := al (below2 (on (al (Below.refl _ _) _) b2) (Nat.le_refl _) (.int .i64 0) (.int .i64 n)) _
      go_wp2_with (go_at_call 37; refine (FW _).mono ?_; rintro e x ⟨rfl, rfl⟩)
      generalize World.alloc _ (.cells #[.int .i64 0, .int .i64 n] 62) = V at *
      have x0 := NN.out.cell 0 rfl
      have x1 := NN.out.cell 1 rfl
      exact bodyPost_ret (v := .agg #[.int .i64 0, .int .i64 n]) (by simp [results, Tryz.results48, go_sem, x0, x1]) rfl ⟨rfl, BN.out⟩
    · have HW : isW (n : Int) = false := by unfold isW; simp; omega
      have FW := fun w => impl_isWord (n : Int) w
      rw [HW] at FW
      rw [if_neg hle]
      go_enter Tryz.func48, Tryz.ntmps48
      go_wp2_with fail
      refine (FD _).mono ?_
      rintro e w2 ⟨rfl, b2⟩
      obtain ⟨g1, g2, hs⟩ := res_stay b2
      have k0 := g1 0 (.int .i64 0) rfl
      have k1 := g1 1 (.int .i64 0) rfl
      have f0 := g2 0
      have f1 := g2 1
      clear g1 g2
      have V2 : Hid (Vq w2 w.heap.size #[.int .i64 0, .int .i64 0] 62) := (Vq.new _ _ _).keep b2
      have NN : Hid (Vq (World.alloc _ (.cells #[.int .i64 0, .int .i64 n] 62)) w.heap.size #[.int .i64 3, .int .i64 0] 62) := (pair2 V2.out (.int .i64 3) (.int .i64 0)).keep (al (Below.refl _ _) _)
      have BN : Hid (Below w.heap.size w (World.alloc _ (.cells #[.int .i64 0, .int .i64 n] 62))) := al (below2 (on (al (Below.refl _ _) _) b2) (Nat.le_refl _) (.int .i64 3) (.int .i64 0)) _
      go_wp2_with (go_at_call 37; refine (FW _).mono ?_; rintro e x ⟨rfl, rfl⟩)
      generalize World.alloc _ (.cells #[.int .i64 0, .int .i64 n] 62) = V at *
      have x0 := NN.out.cell 0 rfl
      have x1 := NN.out.cell 1 rfl
      exact bodyPost_ret (v := .agg #[.int .i64 3, .int .i64 0]) (by simp [results, Tryz.results48, go_sem, x0, x1]) rfl ⟨rfl, BN.out⟩
/-- The sign of a way. -/
def signB (x : Wb) : Bool := decide (x.getD 0 0 = 64)
theorem sign_eq (x : Wb) (h : x ≠ []) : (((bq x).extract 0 1).toList == [64]) = signB x := by
  cases x with
  | nil => exact absurd rfl h
  | cons c r =>
    rw [bq_cut, bq_toList]
    simp [seg, signB, List.getD]
    rw [Bool.eq_iff_iff]
    simp
theorem cut_tail (x : Wb) : (bq x).extract 1 x.length = bq (x.drop 1) := by
  rw [bq_cut]
  congr 1
  unfold seg
  exact List.take_of_length_le (by simp)
set_option maxRecDepth 20000 in
set_option maxHeartbeats 1000000 in
theorem l_hasPrefix (x : Wb) (w : World) (hx : x ≠ []) (hl : x.length ≤ 1048576) :
    Calls Tryz.prog 89 #[.string (bq x), .string ⟨#[64]⟩] w fun e w' => e = .returned (.bool (signB x)) ∧ w' = w := by
  have hz : (bq x).size = x.length := bq_size x
  have he := sign_eq x hx
  have h1 : 1 ≤ x.length := by cases x with | nil => exact absurd rfl hx | cons c r => simp
  generalize signB x = b at *
  generalize x.length = n at *
  have hI : (1 : Int) ≤ (n : Int) := by omega
  have hI2 : (n : Int) ≤ 1048576 := by omega
  generalize bq x = S at *
  go_enter Tryz.func89, Tryz.ntmps89
  go_wp2_with fail
  go_ret
  exact ⟨by first | rfl | (rw [he]; rfl) | simp, rfl⟩
theorem i_hasPrefix (x : Wb) (w : World) (hx : x ≠ []) (hl : x.length ≤ 1048576) :
    Calls Tryz.prog 75 #[.string (bq x), .string ⟨#[64]⟩] w fun e w' => e = .returned (.bool (signB x)) ∧ w' = w := by
  have hc := fun w => l_hasPrefix x w hx hl
  go_enter Tryz.func75, Tryz.ntmps75
  go_wp2_with (go_at_call 89; refine (hc _).mono ?_; rintro e y ⟨rfl, rfl⟩)
  go_ret
  exact ⟨rfl, rfl⟩
set_option maxRecDepth 20000 in
set_option maxHeartbeats 1000000 in
theorem l_trim (x : Wb) (w : World) (hx : x ≠ []) (hl : x.length ≤ 1048576) (hs : signB x = true) :
    Calls Tryz.prog 90 #[.string (bq x), .string ⟨#[64]⟩] w fun e w' => e = .returned (.string (bq (x.drop 1))) ∧ w' = w := by
  have hc := fun w => l_hasPrefix x w hx hl
  rw [hs] at hc
  have hz : (bq x).size = x.length := bq_size x
  have ht := cut_tail x
  have h1 : 1 ≤ x.length := by cases x with | nil => exact absurd rfl hx | cons c r => simp
  generalize bq (x.drop 1) = T at *
  generalize x.length = n at *
  have hI : (1 : Int) ≤ (n : Int) := by omega
  have hI2 : (n : Int) ≤ 1048576 := by omega
  generalize bq x = S at *
  go_enter Tryz.func90, Tryz.ntmps90
  go_wp2_with (go_at_call 89; refine (hc _).mono ?_; rintro e y ⟨rfl, rfl⟩)
  go_ret
  exact ⟨by rw [← ht]; rfl, rfl⟩
theorem i_trim (x : Wb) (w : World) (hx : x ≠ []) (hl : x.length ≤ 1048576) (hs : signB x = true) :
    Calls Tryz.prog 77 #[.string (bq x), .string ⟨#[64]⟩] w fun e w' => e = .returned (.string (bq (x.drop 1))) ∧ w' = w := by
  have hc := fun w => l_trim x w hx hl hs
  generalize bq (x.drop 1) = T at *
  generalize bq x = S at *
  go_enter Tryz.func77, Tryz.ntmps77
  go_wp2_with (go_at_call 90; refine (hc _).mono ?_; rintro e y ⟨rfl, rfl⟩)
  go_ret
  exact ⟨rfl, rfl⟩
theorem i_goes (op : Nat) (w : World) (h : op ≤ 26) : Calls Tryz.prog 74 #[.int .i64 op] w fun e w' => e = .returned (.bool (farB op)) ∧ w' = w := by
  unfold farB
  by_cases h1 : 16 ≤ op
  · have hI : (16 : Int) ≤ (op : Int) := by omega
    go_enter Tryz.func74, Tryz.ntmps74
    go_wp2_with fail
    go_ret
    exact ⟨by simp only [decide_eq_true h1, Bool.true_and]; congr 2; first | rfl | (simp; omega), rfl⟩
  · have hI : ¬ (16 : Int) ≤ (op : Int) := by omega
    go_enter Tryz.func74, Tryz.ntmps74
    go_wp2_with fail
    go_ret
    exact ⟨by rfl, rfl⟩
end Go.Proofs.YtdmlejfopmimfaaGreatDoor
