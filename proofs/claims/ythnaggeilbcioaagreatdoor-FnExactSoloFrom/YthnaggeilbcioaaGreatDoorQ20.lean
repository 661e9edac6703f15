/- Texts of this seat, joined. -/
import Derived.Test.YthnaggeilbcioaaGreatDoorQ12
import Derived.Test.YthnaggeilbcioaaGreatDoorQ16
namespace Go.Proofs.YthnaggeilbcioaaGreatDoor
open Go.RowKit
set_option linter.unusedVariables false

theorem code_nil (w : World) : Calls Tryz.prog 97 #[.nilIface] w fun e w' => e = .returned (.int .i64 0) ∧ Below w.heap.size w w' := by
  go_enter Tryz.func97, Tryz.ntmps97
  go_wp2_with (go_at_call 112; refine (as_nil _ _).mono ?_; rintro e w' ⟨rfl, rfl⟩)
  go_ret
  exact ⟨rfl, al (Below.refl _ _) _⟩
set_option maxHeartbeats 1000000 in
theorem code_hit (c : Int) (w : World) (hg : w.cell? ⟨0, 0, none⟩ = some (.iface 206 (.agg #[.pointer (some ⟨1, 165, none⟩)]))) :
    Calls Tryz.prog 97 #[.iface 181 (.agg #[.int .i64 c])] w fun e w' => e = .returned (.int .i64 c) ∧ Below w.heap.size w w' := by
  have hgA : Hid (_ = _) := cell_push (.cells #[.int .i64 0] 181) hg
  have htA : Hid ((w.alloc (.cells #[.int .i64 0] 181)).cell? ⟨w.heap.size, 0, none⟩ = some (.int .i64 0)) := cell_new rfl
  have hfA : Hid ((w.alloc (.cells #[.int .i64 0] 181)).frozen? ⟨w.heap.size, 0, none⟩ = false) := by show _ = _; simp
  clear hg
  have AS : Calls Tryz.prog 112 #[.iface 181 (.agg #[.int .i64 c]), .iface 183 (.pointer (some ⟨w.heap.size, 0, none⟩))] (w.alloc (.cells #[.int .i64 0] 181)) fun e w' => e = .returned (.bool true) ∧ w'.cell? ⟨w.heap.size, 0, none⟩ = some (.int .i64 c) ∧ Below w.heap.size w w' := (as_hit c ⟨w.heap.size, 0, none⟩ (.int .i64 0) (w.alloc (.cells #[.int .i64 0] 181)) hgA.out htA.out hfA.out).mono (by
    rintro e w' ⟨h1, w1, b1, rfl⟩
    exact ⟨h1, World.cell?_setCell_same _ _ _ (cell_keep b1 htA.out), (on (al (Below.refl _ _) _) b1).setCell (by simp) _⟩)
  go_enter Tryz.func97, Tryz.ntmps97
  go_wp2_with (go_at_call 112; refine AS.mono ?_; rintro e w' ⟨rfl, k1, B1⟩)
  go_ret
  exact ⟨rfl, B1⟩
end Go.Proofs.YthnaggeilbcioaaGreatDoor
namespace Go.Proofs.YthnaggeilbcioaaGreatDoor
open Go.RowKit
set_option linter.unusedVariables false

theorem hf_form {H : Ht} (h : ¬ (H.regs.length = 16 ∧ H.csr.length = 11 ∧ H.regs.getD 0 0 = 0)) : hfV H = 1 := by
  have : H.form = false := by
    cases hf : H.form
    · rfl
    · simp only [Ht.form, Bool.and_eq_true, decide_eq_true_eq] at hf
      exact absurd ⟨hf.1.1, hf.1.2, hf.2⟩ h
  simp [hfV, this]
theorem hf_words {H : Ht} (h : H.regs.length = 16 ∧ H.csr.length = 11 ∧ H.regs.getD 0 0 = 0) (k : H.words = false) : hfV H = 3 := by
  have : H.form = true := by simp only [Ht.form, Bool.and_eq_true, decide_eq_true_eq]; exact ⟨⟨h.1, h.2.1⟩, h.2.2⟩
  simp [hfV, this, k]
theorem hf_few {H : Ht} (h : H.regs.length = 16 ∧ H.csr.length = 11 ∧ H.regs.getD 0 0 = 0) (k : H.words = true) (m : ¬ (H.inn.length ≤ 40 ∧ H.out.length ≤ 40)) : hfV H = 2 := by
  have h1 : H.form = true := by simp only [Ht.form, Bool.and_eq_true, decide_eq_true_eq]; exact ⟨⟨h.1, h.2.1⟩, h.2.2⟩
  have h2 : H.few = false := by
    cases hf : H.few
    · rfl
    · simp only [Ht.few, Bool.and_eq_true, decide_eq_true_eq] at hf
      exact absurd hf m
  simp [hfV, h1, k, h2]
theorem hf_nice {H : Ht} (h : H.regs.length = 16 ∧ H.csr.length = 11 ∧ H.regs.getD 0 0 = 0) (k : H.words = true) (m : H.inn.length ≤ 40 ∧ H.out.length ≤ 40) (d : ¬ (0 ≤ H.done ∧ H.done ≤ 1000000000)) : hfV H = 3 := by
  have h1 : H.form = true := by simp only [Ht.form, Bool.and_eq_true, decide_eq_true_eq]; exact ⟨⟨h.1, h.2.1⟩, h.2.2⟩
  have h2 : H.few = true := by simp only [Ht.few, Bool.and_eq_true, decide_eq_true_eq]; exact m
  have h3 : H.nice = false := by
    cases hf : H.nice
    · rfl
    · simp only [Ht.nice, Bool.and_eq_true, decide_eq_true_eq] at hf
      exact absurd hf d
  simp [hfV, h1, k, h2, h3]
theorem hf_stand {H : Ht} (h : H.regs.length = 16 ∧ H.csr.length = 11 ∧ H.regs.getD 0 0 = 0) (k : H.words = true) (m : H.inn.length ≤ 40 ∧ H.out.length ≤ 40) (d : 0 ≤ H.done ∧ H.done ≤ 1000000000) : hfV H = if standC H.csr then 0 else 1 := by
  have h1 : H.form = true := by simp only [Ht.form, Bool.and_eq_true, decide_eq_true_eq]; exact ⟨⟨h.1, h.2.1⟩, h.2.2⟩
  have h2 : H.few = true := by simp only [Ht.few, Bool.and_eq_true, decide_eq_true_eq]; exact m
  have h3 : H.nice = true := by simp only [Ht.nice, Bool.and_eq_true, decide_eq_true_eq]; exact d
  simp [hfV, h1, k, h2, h3]
end Go.Proofs.YthnaggeilbcioaaGreatDoor
