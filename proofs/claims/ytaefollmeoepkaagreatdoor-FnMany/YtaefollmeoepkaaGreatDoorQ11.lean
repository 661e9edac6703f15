/- Texts of this seat, joined. -/
import Derived.Test.YtaefollmeoepkaaGreatDoorQ09
import Derived.Test.YtaefollmeoepkaaGreatDoorQ10
namespace Go.Proofs.YtaefollmeoepkaaGreatDoor
open Go.RowKit
set_option linter.unusedVariables false
structure Hm (w : World) (base : Nat) (r c i o : Value) (H : Ht) : Prop where
  r : Nums w base r H.regs
  c : Nums w base c H.csr
  i : Nums w base i H.inn
  o : Nums w base o H.out
theorem Hm.keep {w w' : World} {base : Nat} {r c i o : Value} {H : Ht} (h : Hm w base r c i o H) (b : Below w.heap.size w w') : Hm w' base r c i o H := ⟨h.r.keep b, h.c.keep b, h.i.keep b, h.o.keep b⟩
theorem Hm.mono {w : World} {base base' : Nat} {r c i o : Value} {H : Ht} (h : Hm w base r c i o H) (hb : base' ≤ base) : Hm w base' r c i o H := ⟨h.r.mono hb, h.c.mono hb, h.i.mono hb, h.o.mono hb⟩
theorem Hm.ho {w w' : World} {base : Nat} {r c i o : Value} {H : Ht} (h : Hm w base r c i o H) (k : Ho base w w') : Hm w' base r c i o H := ⟨h.r.ho k, h.c.ho k, h.i.ho k, h.o.ho k⟩
def Apt (a b : Value) : Prop := a.ownBlock = none ∨ a.ownBlock ≠ b.ownBlock
structure Ha (r c i o : Value) : Prop where
  rc : Apt r c
  ri : Apt r i
  ro : Apt r o
  ci : Apt c i
  co : Apt c o
  io : Apt i o
theorem Apt.swap {a b : Value} (h : Apt a b) : Apt b a := by
  rcases h with h | h
  · by_cases hb : b.ownBlock = none
    · exact .inl hb
    · exact .inr (by rw [h]; exact hb)
  · exact .inr (Ne.symm h)
theorem hf_form {H : Ht} (h : ¬ (H.regs.length = 16 ∧ H.csr.length = 11 ∧ H.regs.getD 0 0 = 0)) : hfV H = 1 := by
  have : H.form = false := by
    cases hf : H.form
    · rfl
    · simp only [Ht.form, Bool.and_eq_true, decide_eq_true_eq] at hf
      exact absurd ⟨hf.1.1, hf.1.2, hf.2⟩ h
  simp [hfV, this]
theorem hf_words {H : Ht} (h : H.regs.length = 16 ∧ H.csr.length = 11 ∧ H.regs.getD 0 0 = 0) (k : H.words = false) : hfV H = 3 := by
  have : H.form = true := by simp only [Ht.form, Bool.and_eq_true, decide_eq_true_eq]; exact ⟨⟨h.1, h.2.1⟩, h.2.2⟩
  simp [hfV, this, k]
theorem hf_few {H : Ht} (h : H.regs.length = 16 ∧ H.csr.length = 11 ∧ H.regs.getD 0 0 = 0) (k : H.words = true) (m : ¬ (H.inn.length ≤ 40 ∧ H.out.length ≤ 40)) : hfV H = 2 := by
  have h1 : H.form = true := by simp only [Ht.form, Bool.and_eq_true, decide_eq_true_eq]; exact ⟨⟨h.1, h.2.1⟩, h.2.2⟩
  have h2 : H.few = false := by
    cases hf : H.few
    · rfl
    · simp only [Ht.few, Bool.and_eq_true, decide_eq_true_eq] at hf
      exact absurd hf m
  simp [hfV, h1, k, h2]
theorem hf_nice {H : Ht} (h : H.regs.length = 16 ∧ H.csr.length = 11 ∧ H.regs.getD 0 0 = 0) (k : H.words = true) (m : H.inn.length ≤ 40 ∧ H.out.length ≤ 40) (d : ¬ (0 ≤ H.done ∧ H.done ≤ 1000000000)) : hfV H = 3 := by
  have h1 : H.form = true := by simp only [Ht.form, Bool.and_eq_true, decide_eq_true_eq]; exact ⟨⟨h.1, h.2.1⟩, h.2.2⟩
  have h2 : H.few = true := by simp only [Ht.few, Bool.and_eq_true, decide_eq_true_eq]; exact m
  have h3 : H.nice = false := by
    cases hf : H.nice
    · rfl
    · simp only [Ht.nice, Bool.and_eq_true, decide_eq_true_eq] at hf
      exact absurd hf d
  simp [hfV, h1, k, h2, h3]
theorem hf_stand {H : Ht} (h : H.regs.length = 16 ∧ H.csr.length = 11 ∧ H.regs.getD 0 0 = 0) (k : H.words = true) (m : H.inn.length ≤ 40 ∧ H.out.length ≤ 40) (d : 0 ≤ H.done ∧ H.done ≤ 1000000000) : hfV H = if standC H.csr then 0 else 1 := by
  have h1 : H.form = true := by simp only [Ht.form, Bool.and_eq_true, decide_eq_true_eq]; exact ⟨⟨h.1, h.2.1⟩, h.2.2⟩
  have h2 : H.few = true := by simp only [Ht.few, Bool.and_eq_true, decide_eq_true_eq]; exact m
  have h3 : H.nice = true := by simp only [Ht.nice, Bool.and_eq_true, decide_eq_true_eq]; exact d
  simp [hfV, h1, k, h2, h3]
end Go.Proofs.YtaefollmeoepkaaGreatDoor
