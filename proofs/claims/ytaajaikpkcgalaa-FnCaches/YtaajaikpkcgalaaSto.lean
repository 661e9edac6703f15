/- The program's store of hits: a hit's fault, its key, and a hit filled in where there is room. -/
import Derived.Test.YtaajaikpkcgalaaMps
import Derived.Test.YtaajaikpkcgalaaQhp
import Derived.RegionTactic
import Derived.Deep.RegionWith
import Derived.Deep.QuietTactic
import Derived.BigQuiet
namespace Go.Proofs.Ytaajaikpkcgalaa
open Go.RowKit
set_option linter.unusedVariables false

def okQ (q : Qd) : Bool := decide (0 ≤ q.tag ∧ q.tag ≤ 9 ∧ 0 ≤ q.page ∧ q.page ≤ 7 ∧ 0 ≤ q.to ∧ q.to ≤ 23 ∧ 1 ≤ q.kinds ∧ q.kinds ≤ 7)
def hfV (q : Qd) : Int := if okQ q then 0 else 3
theorem okQ_iff {q : Qd} : okQ q = true ↔ (0 ≤ q.tag ∧ q.tag ≤ 9 ∧ 0 ≤ q.page ∧ q.page ≤ 7 ∧ 0 ≤ q.to ∧ q.to ≤ 23 ∧ 1 ≤ q.kinds ∧ q.kinds ≤ 7) := by simp [okQ]
def tagB (t : Int) : Bool := decide (0 ≤ t ∧ t ≤ 9)

theorem impl_isTag (t : Int) (w : World) : Calls Try.prog 27 #[.int .i64 t] w fun e w' => e = .returned (.bool (tagB t)) ∧ w' = w := by
  by_cases h0 : 0 ≤ t
  · by_cases h1 : t ≤ 9
    · have e : tagB t = true := by simp [tagB]; omega
      rw [e]
      clear e
      go_enter Try.func27, Try.ntmps27
      go_wp2_with fail
      go_ret
      exact ⟨rfl, rfl⟩
    · have e : tagB t = false := by simp [tagB]; omega
      rw [e]
      clear e
      go_enter Try.func27, Try.ntmps27
      go_wp2_with fail
      go_ret
      exact ⟨rfl, rfl⟩
  · have e : tagB t = false := by simp [tagB]; omega
    rw [e]
    clear e
    go_enter Try.func27, Try.ntmps27
    go_wp2_with fail
    go_ret
    exact ⟨rfl, rfl⟩

set_option maxHeartbeats 1000000 in
theorem impl_hitFault (q : Qd) (w : World) : Calls Try.prog 40 #[q.val] w fun e w' => e = .returned (.int .i64 (hfV q)) ∧ Below w.heap.size w w' := by
  obtain ⟨t, p, o, k⟩ := q
  unfold Qd.val
  simp only
  cases ht : tagB t
  · have e : hfV ⟨t, p, o, k⟩ = 3 := by
      have hx : ¬ (0 ≤ t ∧ t ≤ 9) := by simpa [tagB] using ht
      have : okQ ⟨t, p, o, k⟩ = false := by simp [okQ]; omega
      simp [hfV, this]
    rw [e]
    clear e
    go_enter Try.func40, Try.ntmps40
    go_wp2_with (go_at_call 27; refine (impl_isTag _ _).mono ?_; rintro e w1 ⟨rfl, rfl⟩; rw [ht])
    go_ret
    exact ⟨rfl, al (Below.refl _ _) _⟩
  have hx : 0 ≤ t ∧ t ≤ 9 := by simpa [tagB] using ht
  by_cases c1 : p < 0
  · have e : hfV ⟨t, p, o, k⟩ = 3 := by
      have : okQ ⟨t, p, o, k⟩ = false := by simp [okQ]; omega
      simp [hfV, this]
    rw [e]
    clear e hx
    go_enter Try.func40, Try.ntmps40
    go_wp2_with (go_at_call 27; refine (impl_isTag _ _).mono ?_; rintro e w1 ⟨rfl, rfl⟩; rw [ht])
    go_ret
    exact ⟨rfl, al (Below.refl _ _) _⟩
  by_cases c2 : 8 ≤ p
  · have e : hfV ⟨t, p, o, k⟩ = 3 := by
      have : okQ ⟨t, p, o, k⟩ = false := by simp [okQ]; omega
      simp [hfV, this]
    rw [e]
    clear e hx
    go_enter Try.func40, Try.ntmps40
    go_wp2_with (go_at_call 27; refine (impl_isTag _ _).mono ?_; rintro e w1 ⟨rfl, rfl⟩; rw [ht])
    go_ret
    exact ⟨rfl, al (Below.refl _ _) _⟩
  by_cases c3 : o < 0
  · have e : hfV ⟨t, p, o, k⟩ = 3 := by
      have : okQ ⟨t, p, o, k⟩ = false := by simp [okQ]; omega
      simp [hfV, this]
    rw [e]
    clear e hx
    go_enter Try.func40, Try.ntmps40
    go_wp2_with (go_at_call 27; refine (impl_isTag _ _).mono ?_; rintro e w1 ⟨rfl, rfl⟩; rw [ht])
    go_ret
    exact ⟨rfl, al (Below.refl _ _) _⟩
  by_cases c4 : 24 ≤ o
  · have e : hfV ⟨t, p, o, k⟩ = 3 := by
      have : okQ ⟨t, p, o, k⟩ = false := by simp [okQ]; omega
      simp [hfV, this]
    rw [e]
    clear e hx
    go_enter Try.func40, Try.ntmps40
    go_wp2_with (go_at_call 27; refine (impl_isTag _ _).mono ?_; rintro e w1 ⟨rfl, rfl⟩; rw [ht])
    go_ret
    exact ⟨rfl, al (Below.refl _ _) _⟩
  by_cases c5 : k < 1
  · have e : hfV ⟨t, p, o, k⟩ = 3 := by
      have : okQ ⟨t, p, o, k⟩ = false := by simp [okQ]; omega
      simp [hfV, this]
    rw [e]
    clear e hx
    go_enter Try.func40, Try.ntmps40
    go_wp2_with (go_at_call 27; refine (impl_isTag _ _).mono ?_; rintro e w1 ⟨rfl, rfl⟩; rw [ht])
    go_ret
    exact ⟨rfl, al (Below.refl _ _) _⟩
  by_cases c6 : 7 < k
  · have e : hfV ⟨t, p, o, k⟩ = 3 := by
      have : okQ ⟨t, p, o, k⟩ = false := by simp [okQ]; omega
      simp [hfV, this]
    rw [e]
    clear e hx
    go_enter Try.func40, Try.ntmps40
    go_wp2_with (go_at_call 27; refine (impl_isTag _ _).mono ?_; rintro e w1 ⟨rfl, rfl⟩; rw [ht])
    go_ret
    exact ⟨rfl, al (Below.refl _ _) _⟩
  have e : hfV ⟨t, p, o, k⟩ = 0 := by
    have : okQ ⟨t, p, o, k⟩ = true := by simp [okQ]; omega
    simp [hfV, this]
  rw [e]
  clear e hx
  go_enter Try.func40, Try.ntmps40
  go_wp2_with (go_at_call 27; refine (impl_isTag _ _).mono ?_; rintro e w1 ⟨rfl, rfl⟩; rw [ht])
  go_ret
  exact ⟨rfl, al (Below.refl _ _) _⟩

theorem impl_keyOf (q : Qd) (w : World) : Calls Try.prog 41 #[q.val] w fun e w' => e = .returned (.agg #[.int .i64 q.tag, .int .i64 q.page]) ∧ Below w.heap.size w w' := by
  obtain ⟨t, p, o, k⟩ := q
  unfold Qd.val
  simp only
  go_enter Try.func41, Try.ntmps41
  go_wp2_with fail
  exact bodyPost_ret (v := .agg #[.int .i64 t, .int .i64 p]) (by simp [results, Try.results41, go_sem]) rfl ⟨rfl, by first | exact al (al (Below.refl _ _) _) _ | exact ((al (al (Below.refl _ _) _) _).setCell (by simp) _).setCell (by simp) _⟩

/-- The store: its two cells, and the map that the first of them leads to. -/
structure St (w : World) (base sb mb n : Nat) (s : List (Int × Qd)) (nx : Int) : Prop where
  hm : Hm w mb n s
  c0 : w.cell? ⟨sb, 0, none⟩ = some (.map (some mb))
  c1 : w.cell? ⟨sb, 1, none⟩ = some (.int .i64 nx)
  f1 : w.frozen? ⟨sb, 1, none⟩ = false
  b1 : base ≤ sb
  b2 : base ≤ mb

theorem St.keep {w w' : World} {base sb mb n : Nat} {s : List (Int × Qd)} {nx : Int} (h : St w base sb mb n s nx) (hb : Below w.heap.size w w') : St w' base sb mb n s nx :=
  ⟨h.hm.keep hb, cell_keep hb h.c0, cell_keep hb h.c1, by rw [hb.frozen (p := ⟨sb, 1, none⟩) (block_of_cell h.c1)]; exact h.f1, h.b1, h.b2⟩
end Go.Proofs.Ytaajaikpkcgalaa
