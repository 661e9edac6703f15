/- Texts of this seat, joined. -/
import Derived.Test.YtdhdfopkcpkbeaaGreatDoorQ07
import Derived.Test.YtdhdfopkcpkbeaaGreatDoorQ24
import Derived.Test.YtdhdfopkcpkbeaaGreatDoorQ32
namespace Go.Proofs.YtdhdfopkcpkbeaaGreatDoor
open Go.RowKit
set_option linter.unusedVariables false

/-- The kinds for which a list leads to a page; whether it leads there. -/
def kndV (rs : List (Int × Int)) (to : Int) : Int := rs.foldl (fun k r => if r.1 = to then bits BinOp.or .i64 k r.2 else k) 0
def ledB (rs : List (Int × Int)) (to : Int) : Bool := rs.any fun r => decide (r.1 = to)
theorem knd_take (rs : List (Int × Int)) (to : Int) (j : Nat) (h : j < rs.length) : kndV (rs.take (j + 1)) to = if (rs.getD j (0, 0)).1 = to then bits BinOp.or .i64 (kndV (rs.take j) to) (rs.getD j (0, 0)).2 else kndV (rs.take j) to := by
  unfold kndV
  rw [List.take_succ_eq_append_getElem h, List.foldl_append, List.getD, List.getElem?_eq_getElem h]
  rfl
theorem led_take (rs : List (Int × Int)) (to : Int) (j : Nat) (h : j < rs.length) : ledB (rs.take (j + 1)) to = (ledB (rs.take j) to || decide ((rs.getD j (0, 0)).1 = to)) := by
  unfold ledB
  rw [List.take_succ_eq_append_getElem h, List.any_append, List.getD, List.getElem?_eq_getElem h]
  simp
theorem knd_none {rs : List (Int × Int)} {to : Int} (h : ledB rs to = false) : kndV rs to = 0 := by
  unfold ledB at h
  rw [List.any_eq_false] at h
  unfold kndV
  have : ∀ (l : List (Int × Int)) (k : Int), (∀ r ∈ l, ¬ decide (r.1 = to) = true) → l.foldl (fun k r => if r.1 = to then bits BinOp.or .i64 k r.2 else k) k = k := by
    intro l
    induction l with
    | nil => intro k _; rfl
    | cons r t ih =>
      intro k hk
      have hr : ¬ r.1 = to := by simpa using hk r List.mem_cons_self
      rw [List.foldl_cons, if_neg hr]
      exact ih k fun x hx => hk x (List.mem_cons_of_mem _ hx)
  exact this rs 0 h

set_option maxHeartbeats 1000000 in
theorem impl_leads (v : Value) (rs : List (Int × Int)) (to : Int) (b : Nat) (w : World) (h : Prs 96 w b v rs) (hm : rs.length ≤ 1048576) :
    Calls Tryz.prog 47 #[v, .int .i64 to] w fun e w' => e = .returned (.tuple #[.int .i64 (kndV rs to), .bool (ledB rs to)]) ∧ Below w.heap.size w w' := by
  obtain ⟨a, cap, rfl, l1, l2, hg⟩ := h.shape
  have HZ : Hid (Prs 96 w b _ rs) := h
  clear h
  obtain ⟨n, hn⟩ : ∃ n, rs.length = n := ⟨_, rfl⟩
  rw [hn] at HZ l1 hg hm ⊢
  have HN : Hid (rs.length = n) := hn
  have hI0 : (n : Int) ≤ 1048576 := by omega
  clear hn l1 l2 hm
  go_enter Tryz.func47, Tryz.ntmps47
  go_wp2_with fail
  go_loopw [4, 5, 7, 10] (fun q o _ c wr => ∃ j : Nat, j ≤ n ∧ c = .int .i64 j ∧ q = .int .i64 (kndV (rs.take j) to) ∧ o = .bool (ledB (rs.take j) to) ∧ Below w.heap.size w wr) (fun _ _ _ c _ => n - (intOf c).toNat)
  case atStart => exact ⟨0, Nat.zero_le _, rfl, rfl, rfl, Below.refl _ _⟩
  case round =>
    obtain ⟨j, hj, rfl, rfl, rfl, hB⟩ := hrel
    have HB : Hid (Below w.heap.size w wr) := hB
    by_cases hlt : j < n
    · obtain ⟨g, rfl⟩ := hg (by omega)
      have c1 := cell_keep hB (HZ.out.cell HN.out.symm j hlt).1
      have c2 := cell_keep hB (HZ.out.cell HN.out.symm j hlt).2
      have gb : g < wr.heap.size := block_of_cell c1
      have hI : (j : Int) < (n : Int) := by omega
      have HL : Hid (j < n) := hlt
      have HK : Hid (_ = _) := knd_take rs to j (by have := HN.out; omega)
      have HD : Hid (_ = _) := led_take rs to j (by have := HN.out; omega)
      generalize (rs.getD j (0, 0)).1 = p at *
      generalize (rs.getD j (0, 0)).2 = q at *
      generalize kndV (rs.take j) to = kk at *
      generalize ledB (rs.take j) to = dd at *
      clear hB hlt hg
      by_cases hp : p = to
      · subst hp
        go_wp2_with fail
        go_roundw
        case rel => exact ⟨j + 1, by have := HL.out; omega, by go_num, by rw [HK.out, if_pos rfl], by rw [HD.out]; simp, al HB.out _⟩
        case measure => have := HL.out; simp [intOf]; omega
      · have hp2 : (p == to) = false := beq_eq_false_iff_ne.2 hp
        have HPN : Hid (¬ p = to) := hp
        clear hp
        go_wp2_with fail
        go_roundw
        case rel => exact ⟨j + 1, by have := HL.out; omega, by go_num, by rw [HK.out, if_neg HPN.out], by rw [HD.out]; simp [HPN.out], al HB.out _⟩
        case measure => have := HL.out; simp [intOf]; omega
    · have hI : ¬ (j : Int) < (n : Int) := by omega
      obtain rfl : j = n := by omega
      have ht : rs.take j = rs := List.take_of_length_le (Nat.le_of_eq HN.out)
      rw [ht]
      clear hB
      go_wp2_with fail
      go_ret2
      exact ⟨rfl, HB.out⟩

end Go.Proofs.YtdhdfopkcpkbeaaGreatDoor
