/- The device page, the program's: what is taken, read, queued, told and fed. -/
import Derived.Test.YteaccakodaidpaaHdv
import Derived.Test.YteaccakodaidpaaHha
namespace Go.Proofs.Yteaccakodaidpaa
open Go.RowKit
set_option linter.unusedVariables false

theorem i_isDevice (k : Int) (w : World) : Calls Try.prog 64 #[.int .i64 k] w fun e w' => e = .returned (.bool (decide (0 ≤ k) && decide (k ≤ 7))) ∧ w' = w := by
  by_cases h : 0 ≤ k
  · go_enter Try.func64, Try.ntmps64
    go_wp2_with fail
    go_ret
    exact ⟨by simp [h], rfl⟩
  · go_enter Try.func64, Try.ntmps64
    go_wp2_with fail
    go_ret
    exact ⟨by simp; omega, rfl⟩

set_option maxRecDepth 20000 in
set_option maxHeartbeats 4000000 in
theorem i_take (m : Nat) (i o : Value) (H : Ht) (b : Nat) (w : World) (hv : Vb w m (mca H i o) 103) (hi : Nums w b i H.inn) :
    Calls Try.prog 88 #[.pointer (some ⟨m, 0, none⟩)] w fun e w' => e = .returned (.int .i64 (H.inn.headD 0)) ∧ ∃ i', Vb w' m (mca { H with inn := H.inn.tail } i' o) 103 ∧ Rv w' i' H.inn.tail ∧ Mq (fun j => j = m) w w' := by
  obtain ⟨a, cap, rfl, l1, l2, hg⟩ := hi.shape
  obtain ⟨n, hn⟩ : ∃ n, H.inn.length = n := ⟨_, rfl⟩
  rw [hn] at hv hi l1 hg
  have HN : Hid (H.inn.length = n) := hn
  have HV : Hid (Vb w m (mca H (.slice a n cap) o) 103) := hv
  have HI : Hid (Nums w b (.slice a n cap) H.inn) := hi
  have c32 : w.cell? ⟨m, 32, none⟩ = some (.slice a n cap) := hv.cell 32 rfl
  have f32 := hv.free 32
  clear hv hi hn
  by_cases h0 : n = 0
  · subst h0
    have e0 : H.inn = [] := List.eq_nil_of_length_eq_zero HN.out
    have E0 : Hid (H.inn = []) := e0
    clear e0
    clear hg
    go_enter Try.func88, Try.ntmps88
    go_wp2_with fail
    go_ret
    refine ⟨by rw [E0.out]; rfl, .slice a 0 cap, HV.out, ?_, Mq.refl _ _⟩
    have := HI.out.rv
    rw [E0.out] at this ⊢
    exact this
  · obtain ⟨g, rfl⟩ := hg (by have := HN.out; omega)
    have c0 : w.cell? ⟨g, 0, none⟩ = some (.int .i64 (H.inn.getD 0 0)) := HI.out.cell HN.out.symm 0 (by omega)
    have hI : ¬ (n : Int) = 0 := by omega
    have hI0 : ((n : Int) == 0) = false := by simpa using hI
    have hI1 : (1 : Int) ≤ (n : Int) := by omega
    have hI2 : 0 < n := by omega
    have hI3 : 1 ≤ n := by omega
    have H0 : Hid (0 < n) := hI2
    clear h0
    go_enter Try.func88, Try.ntmps88
    go_wp2_with fail
    · go_ret
      refine ⟨by rw [← head_get2]; rfl, _, HV.out.set 32 _, rv_tail1 (HI.out.put ⟨m, 32, none⟩ (.slice (some ⟨g, 0, none⟩) (n - 1) 0) (HI.out.ne_vb (t := 103) HV.out (by decide))) H0.out (by assumption), (Mq.refl _ _).set ⟨m, 32, none⟩ _ rfl⟩
    · go_ret
      refine ⟨by rw [← head_get2]; rfl, _, HV.out.set 32 _, rv_tail (HI.out.put ⟨m, 32, none⟩ (.slice (some ⟨g, 1, none⟩) (n - 1) (cap - 1)) (HI.out.ne_vb (t := 103) HV.out (by decide))) H0.out, (Mq.refl _ _).set ⟨m, 32, none⟩ _ rfl⟩
end Go.Proofs.Yteaccakodaidpaa
