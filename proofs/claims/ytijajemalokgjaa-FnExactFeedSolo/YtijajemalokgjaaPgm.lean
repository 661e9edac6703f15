/- Slices of pages and answers that hold them: compared, marked and held. -/
import Derived.Test.YtijajemalokgjaaPgp
import Derived.Test.YtijajemalokgjaaMemr
namespace Go.Proofs.Ytijajemalokgjaa
open Go.RowKit
set_option linter.unusedVariables false

/-- The pairs that marking leaves: k, k + 1; k + 2, k + 3; and so on. -/
def pmarks (k : Int) (n : Nat) : List (Int × Int) := (List.range n).map fun (i : Nat) => (k + (2 * i : Nat), k + (2 * i + 1 : Nat))
theorem pmarks_length (k : Int) (n : Nat) : (pmarks k n).length = n := by simp [pmarks]
theorem pmarks_getD (k : Int) (n i : Nat) (h : i < n) : (pmarks k n).getD i (0, 0) = (k + (2 * i : Nat), k + (2 * i + 1 : Nat)) := by
  simp [pmarks, List.getD, h]
theorem pmarks_set (k : Int) (rs : List (Int × Int)) (j : Nat) (h : j < rs.length) : (pmarks k j ++ rs.drop j).set j (k + (2 * j : Nat), k + (2 * j + 1 : Nat)) = pmarks k (j + 1) ++ rs.drop (j + 1) := by
  rw [List.drop_eq_getElem_cons h, List.set_append_right _ _ (by simp [pmarks]), pmarks_length, Nat.sub_self, List.set_cons_zero]
  simp [pmarks, List.range_succ]

theorem Prs.kept {e : TypeId} {w w' : World} {base : Nat} {v : Value} {rs : List (Int × Int)} {row : Option Nat} (h : Prs e w base v rs) (hg : w.grownBy w' row) (hne : v.ownBlock = none ∨ v.ownBlock ≠ row) : Prs e w' base v rs := World.ownsRow.kept h hg hne
theorem Prs.put {e : TypeId} {w : World} {base : Nat} {v : Value} {rs : List (Int × Int)} (h : Prs e w base v rs) (p : Addr) (u : Value) (hne : v.ownBlock ≠ some p.block) : Prs e (w.setCell p u) base v rs := h.kept (grown_set w p u) (.inr hne)
theorem Prs.mono {e : TypeId} {w : World} {base base' : Nat} {v : Value} {rs : List (Int × Int)} (h : Prs e w base v rs) (hb : base' ≤ base) : Prs e w base' v rs := by
  obtain ⟨h1, h2 | ⟨g, cap, cur, hv, hg, hr⟩⟩ := h
  · exact ⟨h1, .inl h2⟩
  · exact ⟨h1, .inr ⟨g, cap, cur, hv, Nat.le_trans hb hg, hr⟩⟩
theorem pbelow_of_grown {e : TypeId} {a w w' : World} {v : Value} {base : Nat} {rs : List (Int × Int)} (h : Below a.heap.size a w) (g : w.grownBy w' v.ownBlock) (n : Prs e w base v rs) (hb : a.heap.size ≤ base) : Below a.heap.size a w' :=
  h.grown g h.size (fun k hk => Nat.le_trans hb (n.lt k hk).1)
theorem pown_ne {e e' : TypeId} {w w' : World} {base base' : Nat} {v u : Value} {zs ys : List (Int × Int)} (h : Prs e w base v zs) (k : Prs e' w' base' u ys) (hb : w.heap.size ≤ base') : v.ownBlock = none ∨ v.ownBlock ≠ u.ownBlock := by
  cases e : v.ownBlock with
  | none => exact .inl rfl
  | some x =>
    refine .inr fun e2 => ?_
    have h1 := (h.lt x e).2
    have h2 := (k.lt x e2.symm).1
    omega
theorem pown_not {e : TypeId} {w : World} {base : Nat} {v : Value} {zs : List (Int × Int)} (h : Prs e w base v zs) (x : Nat) (hx : x < base ∨ w.heap.size ≤ x) : some x ≠ v.ownBlock := by
  intro e
  have := h.lt x e.symm
  omega

set_option maxHeartbeats 1000000 in
theorem mark_pages (v : Value) (k : Int) (rs : List (Int × Int)) (b : Nat) (w : World) (h : Prs 74 w b v rs) (hk : 0 ≤ k) (hz : k + (2 * rs.length : Nat) ≤ 4611686018427387904) :
    Calls Try.prog 35 #[v, .int .i64 k] w fun e w' => e = .returned (.int .i64 (k + (2 * rs.length : Nat))) ∧ Prs 74 w' b v (pmarks k rs.length) ∧ w.grownBy w' v.ownBlock := by
  obtain ⟨a, cap, rfl, l1, l2, hg⟩ := h.shape
  have HZ : Hid (Prs _ w b _ rs) := h
  clear h
  obtain ⟨n, hn⟩ : ∃ n, rs.length = n := ⟨_, rfl⟩
  rw [hn] at HZ l1 hz hg ⊢
  have HN : Hid (rs.length = n) := hn
  clear hn l1 l2
  go_enter Try.func35, Try.ntmps35
  go_wp2_with fail
  go_loopw [1, 5] (fun q i wr => ∃ j : Nat, j ≤ n ∧ i = .int .i64 j ∧ q = .int .i64 (k + (2 * j : Nat)) ∧ Prs 74 wr b (.slice a n cap) (pmarks k j ++ rs.drop j) ∧ w.grownBy wr (Value.slice a n cap).ownBlock) (fun _ i _ => n - (intOf i).toNat)
  case atStart => exact ⟨0, Nat.zero_le _, rfl, by simp, by simpa [pmarks] using HZ.out, World.grownBy.refl _ _⟩
  case round =>
    obtain ⟨j, hj, rfl, rfl, hN, hG⟩ := hrel
    have N0 : Hid (Prs _ wr _ _ _) := hN
    have G0 : Hid (World.grownBy _ _ _) := hG
    by_cases hlt : j < n
    · obtain ⟨g, rfl⟩ := hg (by omega)
      have hll : n = (pmarks k j ++ rs.drop j).length := by have := HN.out; simp [pmarks]; omega
      have HLL : Hid (n = (pmarks k j ++ rs.drop j).length) := hll
      have c1 := (hN.cell hll j hlt).1
      have c2 := (hN.cell hll j hlt).2
      have f1 := hN.free hll (j * 2)
      have f2 := hN.free hll (j * 2 + 1)
      have hI : (j : Int) < (n : Int) := by omega
      have HL : Hid (j < n) := hlt
      have HK2 : Hid (k + ((2 * j : Nat) : Int) + 1 = k + ((2 * j + 1 : Nat) : Int) ∧ k + ((2 * j + 1 : Nat) : Int) + 1 = k + ((2 * (j + 1) : Nat) : Int)) := ⟨by omega, by omega⟩
      have hb0 : 0 ≤ k + ((2 * j : Nat) : Int) := by omega
      have hb1 : k + ((2 * j : Nat) : Int) ≤ 4611686018427387904 := by omega
      generalize ((pmarks k j ++ rs.drop j).getD j (0, 0)).1 = p at *
      generalize ((pmarks k j ++ rs.drop j).getD j (0, 0)).2 = q at *
      generalize hkk : k + ((2 * j : Nat) : Int) = kk at *
      have HKK : Hid (k + ((2 * j : Nat) : Int) = kk) := hkk
      clear hN hG hlt hg hll hkk
      go_wp2_with fail
      go_roundw
      case rel =>
        have s1 := N0.out.store HLL.out j kk (kk + 1) HL.out
        have s2 := grown_trans (grown_set wr ⟨g, j * 2, none⟩ (.int .i64 kk)) (grown_set _ ⟨g, j * 2 + 1, none⟩ (.int .i64 (kk + 1)))
        refine ⟨j + 1, by have := HL.out; omega, by go_num, by rw [← HK2.out.2, ← HK2.out.1], ?_, grown_trans G0.out s2⟩
        rw [HK2.out.1, ← HKK.out, pmarks_set k rs j (by have := HL.out; have := HN.out; omega)] at s1
        have e : k + ((2 * j : Nat) : Int) + 1 = k + ((2 * j + 1 : Nat) : Int) := by omega
        rw [← HKK.out, e]
        exact s1
      case measure => have := HL.out; simp [intOf]; omega
    · have hI : ¬ (j : Int) < (n : Int) := by omega
      obtain rfl : j = n := by omega
      clear hN hG
      go_wp2_with fail
      go_ret
      refine ⟨rfl, ?_, G0.out⟩
      have := N0.out
      rwa [List.drop_of_length_le (Nat.le_of_eq HN.out), List.append_nil] at this

set_option maxHeartbeats 1000000 in
theorem held_pages (v : Value) (k : Int) (n : Nat) (b : Nat) (w : World) (h : Prs 74 w b v (pmarks k n)) (hk : 0 ≤ k) (hz : k + (2 * n : Nat) ≤ 4611686018427387904) :
    Calls Try.prog 61 #[v, .int .i64 k] w fun e w' => e = .returned (.int .i64 (k + (2 * n : Nat))) ∧ w' = w := by
  obtain ⟨a, cap, rfl, l1, l2, hg⟩ := h.shape
  have HZ : Hid (Prs _ w b _ (pmarks k n)) := h
  clear h
  rw [pmarks_length] at HZ hg l1 ⊢
  clear l1 l2
  go_enter Try.func61, Try.ntmps61
  go_wp2_with fail
  go_loop [1, 5] (fun q i => ∃ j : Nat, j ≤ n ∧ i = .int .i64 j ∧ q = .int .i64 (k + (2 * j : Nat))) (fun _ i => n - (intOf i).toNat)
  case atStart => exact ⟨0, Nat.zero_le _, rfl, by simp⟩
  case round =>
    obtain ⟨j, hj, rfl, rfl⟩ := hrel
    by_cases hlt : j < n
    · obtain ⟨g, rfl⟩ := hg (by omega)
      have c1 := (HZ.out.cell (pmarks_length k n).symm j hlt).1
      have c2 := (HZ.out.cell (pmarks_length k n).symm j hlt).2
      rw [pmarks_getD k n j hlt] at c1 c2
      have hI : (j : Int) < (n : Int) := by omega
      have HL : Hid (j < n) := hlt
      have HK2 : Hid (k + ((2 * j : Nat) : Int) + 1 = k + ((2 * j + 1 : Nat) : Int) ∧ k + ((2 * j + 1 : Nat) : Int) + 1 = k + ((2 * (j + 1) : Nat) : Int)) := ⟨by omega, by omega⟩
      have hb0 : 0 ≤ k + ((2 * j : Nat) : Int) := by omega
      have hb1 : k + ((2 * j : Nat) : Int) ≤ 4611686018427387904 := by omega
      simp only at c1 c2
      rw [← HK2.out.1] at c2
      generalize hkk : k + ((2 * j : Nat) : Int) = kk at *
      have HKK : Hid (k + ((2 * j : Nat) : Int) = kk) := hkk
      clear hlt hg hkk
      go_wp2_with fail
      go_round
      case rel => exact ⟨j + 1, by have := HL.out; omega, by go_num, by rw [← HK2.out.2, ← HK2.out.1]⟩
      case measure => have := HL.out; simp [intOf]; omega
    · have hI : ¬ (j : Int) < (n : Int) := by omega
      obtain rfl : j = n := by omega
      go_wp2_with fail
      go_ret
      exact ⟨rfl, rfl⟩

end Go.Proofs.Ytijajemalokgjaa
