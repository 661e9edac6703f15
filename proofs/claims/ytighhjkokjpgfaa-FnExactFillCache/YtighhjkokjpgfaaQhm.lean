/- Slices of hits and answers that hold them: marked, held and compared. -/
import Derived.Test.YtighhjkokjpgfaaQhp
import Derived.Test.YtighhjkokjpgfaaMemr
import Derived.Test.YtighhjkokjpgfaaPgm
namespace Go.Proofs.Ytighhjkokjpgfaa
open Go.RowKit
set_option linter.unusedVariables false

/-- The hits that marking leaves: k .. k + 3; k + 4 .. k + 7; and so on. -/
def qmark (k : Int) : Qd := ⟨k, k + 1, k + 2, k + 3⟩
def qmarks (k : Int) (n : Nat) : List Qd := (List.range n).map fun (i : Nat) => qmark (k + (4 * i : Nat))
theorem qmarks_length (k : Int) (n : Nat) : (qmarks k n).length = n := by simp [qmarks]
theorem qmarks_getD (k : Int) (n i : Nat) (h : i < n) : (qmarks k n).getD i qz = qmark (k + (4 * i : Nat)) := by
  simp [qmarks, List.getD, h]
theorem qmarks_set (k : Int) (rs : List Qd) (j : Nat) (h : j < rs.length) : (qmarks k j ++ rs.drop j).set j (qmark (k + (4 * j : Nat))) = qmarks k (j + 1) ++ rs.drop (j + 1) := by
  rw [List.drop_eq_getElem_cons h, List.set_append_right _ _ (by simp [qmarks]), qmarks_length, Nat.sub_self, List.set_cons_zero]
  simp [qmarks, List.range_succ]

theorem Qs.kept {e : TypeId} {w w' : World} {base : Nat} {v : Value} {rs : List Qd} {row : Option Nat} (h : Qs e w base v rs) (hg : w.grownBy w' row) (hne : v.ownBlock = none ∨ v.ownBlock ≠ row) : Qs e w' base v rs := World.ownsRow.kept h hg hne
theorem Qs.put {e : TypeId} {w : World} {base : Nat} {v : Value} {rs : List Qd} (h : Qs e w base v rs) (p : Addr) (u : Value) (hne : v.ownBlock ≠ some p.block) : Qs e (w.setCell p u) base v rs := h.kept (grown_set w p u) (.inr hne)
theorem Qs.mono {e : TypeId} {w : World} {base base' : Nat} {v : Value} {rs : List Qd} (h : Qs e w base v rs) (hb : base' ≤ base) : Qs e w base' v rs := by
  obtain ⟨h1, h2 | ⟨g, cap, cur, hv, hg, hr⟩⟩ := h
  · exact ⟨h1, .inl h2⟩
  · exact ⟨h1, .inr ⟨g, cap, cur, hv, Nat.le_trans hb hg, hr⟩⟩
theorem qbelow_of_grown {e : TypeId} {a w w' : World} {v : Value} {base : Nat} {rs : List Qd} (h : Below a.heap.size a w) (g : w.grownBy w' v.ownBlock) (n : Qs e w base v rs) (hb : a.heap.size ≤ base) : Below a.heap.size a w' :=
  h.grown g h.size (fun k hk => Nat.le_trans hb (n.lt k hk).1)
theorem qown_ne {e e' : TypeId} {w w' : World} {base base' : Nat} {v u : Value} {zs ys : List Qd} (h : Qs e w base v zs) (k : Qs e' w' base' u ys) (hb : w.heap.size ≤ base') : v.ownBlock = none ∨ v.ownBlock ≠ u.ownBlock := by
  cases e : v.ownBlock with
  | none => exact .inl rfl
  | some x =>
    refine .inr fun e2 => ?_
    have h1 := (h.lt x e).2
    have h2 := (k.lt x e2.symm).1
    omega
theorem qown_not {e : TypeId} {w : World} {base : Nat} {v : Value} {zs : List Qd} (h : Qs e w base v zs) (x : Nat) (hx : x < base ∨ w.heap.size ≤ x) : some x ≠ v.ownBlock := by
  intro e
  have := h.lt x e.symm
  omega

set_option maxHeartbeats 1000000 in
theorem mark_hits (v : Value) (k : Int) (rs : List Qd) (b : Nat) (w : World) (h : Qs 45 w b v rs) (hk : 0 ≤ k) (hz : k + (4 * rs.length : Nat) ≤ 4611686018427387904) :
    Calls Try.prog 56 #[v, .int .i64 k] w fun e w' => e = .returned (.int .i64 (k + (4 * rs.length : Nat))) ∧ Qs 45 w' b v (qmarks k rs.length) ∧ w.grownBy w' v.ownBlock := by
  obtain ⟨a, cap, rfl, l1, l2, hg⟩ := h.shape
  have HZ : Hid (Qs _ w b _ rs) := h
  clear h
  obtain ⟨n, hn⟩ : ∃ n, rs.length = n := ⟨_, rfl⟩
  rw [hn] at HZ l1 hz hg ⊢
  have HN : Hid (rs.length = n) := hn
  clear hn l1 l2
  go_enter Try.func56, Try.ntmps56
  go_wp2_with fail
  go_loopw [1, 5] (fun q i wr => ∃ j : Nat, j ≤ n ∧ i = .int .i64 j ∧ q = .int .i64 (k + (4 * j : Nat)) ∧ Qs 45 wr b (.slice a n cap) (qmarks k j ++ rs.drop j) ∧ w.grownBy wr (Value.slice a n cap).ownBlock) (fun _ i _ => n - (intOf i).toNat)
  case atStart => exact ⟨0, Nat.zero_le _, rfl, by simp, by simpa [qmarks] using HZ.out, World.grownBy.refl _ _⟩
  case round =>
    obtain ⟨j, hj, rfl, rfl, hN, hG⟩ := hrel
    have N0 : Hid (Qs _ wr _ _ _) := hN
    have G0 : Hid (World.grownBy _ _ _) := hG
    by_cases hlt : j < n
    · obtain ⟨g, rfl⟩ := hg (by omega)
      have hll : n = (qmarks k j ++ rs.drop j).length := by have := HN.out; simp [qmarks]; omega
      have HLL : Hid (n = (qmarks k j ++ rs.drop j).length) := hll
      obtain ⟨c0, c1, c2, c3⟩ := hN.cell hll j hlt
      have f0 := hN.free hll (j * 4)
      have f1 := hN.free hll (j * 4 + 1)
      have f2 := hN.free hll (j * 4 + 2)
      have f3 := hN.free hll (j * 4 + 3)
      have hI : (j : Int) < (n : Int) := by omega
      have HL : Hid (j < n) := hlt
      have HK2 : Hid (k + ((4 * j : Nat) : Int) + 1 + 1 + 1 + 1 = k + ((4 * (j + 1) : Nat) : Int)) := by show _ = _; omega
      have hb0 : 0 ≤ k + ((4 * j : Nat) : Int) := by omega
      have hb1 : k + ((4 * j : Nat) : Int) ≤ 4611686018427387904 := by omega
      generalize ((qmarks k j ++ rs.drop j).getD j qz).tag = a0 at *
      generalize ((qmarks k j ++ rs.drop j).getD j qz).page = a1 at *
      generalize ((qmarks k j ++ rs.drop j).getD j qz).to = a2 at *
      generalize ((qmarks k j ++ rs.drop j).getD j qz).kinds = a3 at *
      generalize hkk : k + ((4 * j : Nat) : Int) = kk at *
      have HKK : Hid (k + ((4 * j : Nat) : Int) = kk) := hkk
      clear hN hG hlt hg hll hkk
      go_wp2_with fail
      go_roundw
      case rel =>
        have s1 := N0.out.store HLL.out j (qmark kk) HL.out
        have s2 := grown_trans (grown_trans (grown_trans (grown_set wr ⟨g, j * 4, none⟩ (.int .i64 kk)) (grown_set _ ⟨g, j * 4 + 1, none⟩ (.int .i64 (kk + 1)))) (grown_set _ ⟨g, j * 4 + 2, none⟩ (.int .i64 (kk + 2)))) (grown_set _ ⟨g, j * 4 + 3, none⟩ (.int .i64 (kk + 3)))
        have e2 : kk + 1 + 1 = kk + 2 := by omega
        have e3 : kk + 2 + 1 = kk + 3 := by omega
        refine ⟨j + 1, by have := HL.out; omega, by go_num, by rw [← HK2.out], ?_, ?_⟩
        · rw [← HKK.out, qmarks_set k rs j (by have := HL.out; have := HN.out; omega), HKK.out] at s1
          rw [e2, e3]
          exact s1
        · rw [e2, e3]
          exact grown_trans G0.out s2
      case measure => have := HL.out; simp [intOf]; omega
    · have hI : ¬ (j : Int) < (n : Int) := by omega
      obtain rfl : j = n := by omega
      clear hN hG
      go_wp2_with fail
      go_ret
      refine ⟨rfl, ?_, G0.out⟩
      have := N0.out
      rwa [List.drop_of_length_le (Nat.le_of_eq HN.out), List.append_nil] at this

set_option maxHeartbeats 1000000 in
theorem held_hits (v : Value) (k : Int) (n : Nat) (b : Nat) (w : World) (h : Qs 45 w b v (qmarks k n)) (hk : 0 ≤ k) (hz : k + (4 * n : Nat) ≤ 4611686018427387904) :
    Calls Try.prog 103 #[v, .int .i64 k] w fun e w' => e = .returned (.int .i64 (k + (4 * n : Nat))) ∧ w' = w := by
  obtain ⟨a, cap, rfl, l1, l2, hg⟩ := h.shape
  have HZ : Hid (Qs _ w b _ (qmarks k n)) := h
  clear h
  rw [qmarks_length] at HZ hg l1 ⊢
  clear l1 l2
  go_enter Try.func103, Try.ntmps103
  go_wp2_with fail
  go_loop [1, 5] (fun q i => ∃ j : Nat, j ≤ n ∧ i = .int .i64 j ∧ q = .int .i64 (k + (4 * j : Nat))) (fun _ i => n - (intOf i).toNat)
  case atStart => exact ⟨0, Nat.zero_le _, rfl, by simp⟩
  case round =>
    obtain ⟨j, hj, rfl, rfl⟩ := hrel
    by_cases hlt : j < n
    · obtain ⟨g, rfl⟩ := hg (by omega)
      obtain ⟨c0, c1, c2, c3⟩ := HZ.out.cell (qmarks_length k n).symm j hlt
      rw [qmarks_getD k n j hlt] at c0 c1 c2 c3
      have hI : (j : Int) < (n : Int) := by omega
      have HL : Hid (j < n) := hlt
      have HK2 : Hid (k + ((4 * j : Nat) : Int) + 1 + 1 + 1 + 1 = k + ((4 * (j + 1) : Nat) : Int)) := by show _ = _; omega
      have hb0 : 0 ≤ k + ((4 * j : Nat) : Int) := by omega
      have hb1 : k + ((4 * j : Nat) : Int) ≤ 4611686018427387904 := by omega
      simp only [qmark] at c0 c1 c2 c3
      generalize hkk : k + ((4 * j : Nat) : Int) = kk at *
      have e2 : kk + 2 = kk + 1 + 1 := by omega
      have e3 : kk + 3 = kk + 1 + 1 + 1 := by omega
      rw [e2] at c2
      rw [e3] at c3
      clear e2 e3
      have HKK : Hid (k + ((4 * j : Nat) : Int) = kk) := hkk
      clear hlt hg hkk
      go_wp2_with fail
      go_round
      case rel => exact ⟨j + 1, by have := HL.out; omega, by go_num, by rw [← HK2.out]⟩
      case measure => have := HL.out; simp [intOf]; omega
    · have hI : ¬ (j : Int) < (n : Int) := by omega
      obtain rfl : j = n := by omega
      go_wp2_with fail
      go_ret
      exact ⟨rfl, rfl⟩

theorem eq_cacheR (c x : Int) (f : Bool) (v u : Value) (zs : List Qd) (b b' : Nat) (w : World) (h : Qs 45 w b v zs) (k : Qs 45 w b' u zs) :
    Calls Try.prog 55 #[.agg #[.int .i64 c, .int .i64 x, .bool f, v], .agg #[.int .i64 c, .int .i64 x, .bool f, u]] w fun e w' => e = .returned (.bool true) ∧ Below w.heap.size w w' := by
  obtain ⟨a, cap, rfl, _, _, _⟩ := h.shape
  obtain ⟨a', cap', rfl, _, _, _⟩ := k.shape
  have H : Hid (Qs _ w b _ zs) := h
  have K : Hid (Qs _ w b' _ zs) := k
  clear h k
  cases f
  all_goals
    go_enter Try.func55, Try.ntmps55
    go_wp2_with fail
    refine (eq_hits _ _ _ _ _ _ (H.out.keep (al (al (Below.refl _ _) _) _)) (K.out.keep (al (al (Below.refl _ _) _) _))).mono ?_
    rintro e w1 ⟨rfl, b1⟩
    go_wp2_with fail
    go_ret
    exact ⟨rfl, on (al (al (Below.refl _ _) _) _) b1⟩

theorem mark_cacheR (c x : Int) (f : Bool) (v : Value) (zs : List Qd) (k : Int) (b : Nat) (w : World) (h : Qs 45 w b v zs) (hk : 0 ≤ k) (hz : k + (4 * zs.length : Nat) ≤ 4611686018427387904) :
    Calls Try.prog 57 #[.agg #[.int .i64 c, .int .i64 x, .bool f, v], .int .i64 k] w fun e w' => e = .returned (.int .i64 (k + (4 * zs.length : Nat))) ∧ Qs 45 w' b v (qmarks k zs.length) ∧ w.grownBy w' v.ownBlock := by
  obtain ⟨a, cap, rfl, _, _, _⟩ := h.shape
  have H : Hid (Qs _ w b _ zs) := h
  have HZ : Hid (0 ≤ k ∧ k + (4 * zs.length : Nat) ≤ 4611686018427387904) := ⟨hk, hz⟩
  clear h hk hz
  go_enter Try.func57, Try.ntmps57
  go_wp2_with fail
  refine (mark_hits _ _ _ _ _ (H.out.keep (al (Below.refl _ _) _)) HZ.out.1 HZ.out.2).mono ?_
  rintro e w1 ⟨rfl, n1, g1⟩
  have N1 : Hid (Qs _ w1 b _ _) := n1
  have G1 : Hid (World.grownBy _ _ _) := grown_pre g1
  clear n1 g1
  go_wp2_with fail
  go_ret
  exact ⟨rfl, N1.out, G1.out⟩

theorem held_cacheR (c x : Int) (f : Bool) (v : Value) (k : Int) (n : Nat) (b : Nat) (w : World) (h : Qs 45 w b v (qmarks k n)) (hk : 0 ≤ k) (hz : k + (4 * n : Nat) ≤ 4611686018427387904) :
    Calls Try.prog 58 #[.agg #[.int .i64 c, .int .i64 x, .bool f, v], .int .i64 k] w fun e w' => e = .returned (.int .i64 (k + (4 * n : Nat))) ∧ Below w.heap.size w w' := by
  obtain ⟨a, cap, rfl, _, _, _⟩ := h.shape
  have H : Hid (Qs _ w b _ (qmarks k n)) := h
  have HZ : Hid (0 ≤ k ∧ k + (4 * n : Nat) ≤ 4611686018427387904) := ⟨hk, hz⟩
  clear h
  go_enter Try.func58, Try.ntmps58
  go_wp2_with fail
  refine (held_hits _ _ n _ _ (H.out.keep (al (Below.refl _ _) _)) HZ.out.1 HZ.out.2).mono ?_
  rintro e w1 ⟨rfl, rfl⟩
  go_wp2_with fail
  go_ret
  exact ⟨rfl, al (Below.refl _ _) _⟩
end Go.Proofs.Ytighhjkokjpgfaa
