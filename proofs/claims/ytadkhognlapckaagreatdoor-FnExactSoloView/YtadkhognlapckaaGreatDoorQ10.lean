/- Texts of this seat, joined. -/
import Derived.Laws.AppendOwn
import Derived.Laws.AppendOwnNone
import Derived.Deep.RegionLaw
import Derived.Test.YtadkhognlapckaaGreatDoorQ05
import Derived.Test.YtadkhognlapckaaGreatDoorQ08
namespace Go.Proofs.YtadkhognlapckaaGreatDoor
open Go.RowKit
set_option linter.unusedVariables false

/-- append of numbers to a slice of the call's own, as a step of a region. -/
theorem step_append {ops : Array Oper} {o : Oper} {act : Act} {w : World} {K : Act → World → Prop} {Q : Exit → Act → World → Prop} {E : Prop} (hgd : o.guard = none) (s x : Operand)
    (ho : o.op = .call { callee := .builtin .append, args := #[s, x], argTypes := #[28, 28] }) (base : Nat) (v : Value) (zs : List Int) (hs : act.eval s = v) (hN : Nums w base v zs)
    (ao : Option Addr) (m c : Nat) (ys : List Int) (hx : act.eval x = .slice ao m c) (hy : ys.length = m) (hnone : ao = none → m = 0 ∧ c = 0) (hc : ∀ ad, ao = some ad → ∀ i, i < m → w.cell? (ad.add i) = some (.int .i64 (ys.getD i 0)))
    (hlen : zs.length + m ≤ 1000000000) (B : Nat) (w0 : World) (hb : Below B w0 w) (hB : B ≤ base) (hbase : base ≤ w.heap.size)
    (h : ∀ v' w', Hid (Nums w' base v' (zs ++ ys)) → w.grownBy w' v.ownBlock → Below B w0 w' → K (act.put o.dst v') w') :
    if Region.wanted o (yielded ops act.tmps) = true then Oper.wp Tryz.prog o act w K Q else E := by
  have hw : Region.wanted o (yielded ops act.tmps) = true := by simp [Region.wanted, hgd]
  rw [if_pos hw]
  obtain ⟨i, hi, hz0, hz1, hz2⟩ := info_parts info_i64
  cases ao with
  | none =>
    obtain ⟨rfl, rfl⟩ := hnone rfl
    obtain rfl : ys = [] := List.eq_nil_of_length_eq_zero hy
    have hrun := run_append_owned_none (P := Tryz.prog) (w := w) base 28 o.type 2 i 1 Tryz.underlying28 hi v zs.length _ hN
    unfold Oper.wp
    simp [execOp, ho, resolve, invoke, builtin, hs, hx, hrun, Result.andThen]
    exact h v w (show Nums _ _ _ _ by rw [List.append_nil]; exact hN) (World.grownBy.refl _ _) hb
  | some ad =>
    refine wp_append_own w s x 28 ho base 2 i _ 1 8 Tryz.underlying28 hi hz0 hz1 hz2 rfl (by decide) v zs.length _ hs hN ad m c (ys.map (Value.int .i64)) hx (by simpa using hy) ?_ ?_ (by unfold maxLen; omega) (by omega) hbase ?_
    · intro j u hj
      have hjl : j < ys.length := by have := (List.getElem?_eq_some_iff.1 hj).1; simpa using this
      rw [List.getElem?_map, List.getElem?_eq_getElem hjl] at hj
      have := hc ad rfl j (by omega)
      rw [List.getD, List.getElem?_eq_getElem hjl] at this
      rw [this]
      exact hj
    · intro u hu
      obtain ⟨z, _, rfl⟩ := List.mem_map.1 hu
      rfl
    · intro v' w' hown hgrow _
      refine h v' w' ?_ hgrow (hb.grown hgrow (Nat.le_trans hB hbase) (fun k hk => Nat.le_trans hB (hN.lt k hk).1))
      show Nums _ _ _ _
      unfold Nums
      rw [List.length_append, hy, List.map_append]
      exact hown

end Go.Proofs.YtadkhognlapckaaGreatDoor
namespace Go.Proofs.YtadkhognlapckaaGreatDoor
open Go.RowKit
set_option linter.unusedVariables false

/-- The pairs that marking leaves: k, k + 1; k + 2, k + 3; and so on. -/
def pmarks (k : Int) (n : Nat) : List (Int × Int) := (List.range n).map fun (i : Nat) => (k + (2 * i : Nat), k + (2 * i + 1 : Nat))
theorem pmarks_length (k : Int) (n : Nat) : (pmarks k n).length = n := by simp [pmarks]
theorem pmarks_set (k : Int) (rs : List (Int × Int)) (j : Nat) (h : j < rs.length) : (pmarks k j ++ rs.drop j).set j (k + (2 * j : Nat), k + (2 * j + 1 : Nat)) = pmarks k (j + 1) ++ rs.drop (j + 1) := by
  rw [List.drop_eq_getElem_cons h, List.set_append_right _ _ (by simp [pmarks]), pmarks_length, Nat.sub_self, List.set_cons_zero]
  simp [pmarks, List.range_succ]

theorem Prs.kept {e : TypeId} {w w' : World} {base : Nat} {v : Value} {rs : List (Int × Int)} {row : Option Nat} (h : Prs e w base v rs) (hg : w.grownBy w' row) (hne : v.ownBlock = none ∨ v.ownBlock ≠ row) : Prs e w' base v rs := World.ownsRow.kept h hg hne
theorem Prs.put {e : TypeId} {w : World} {base : Nat} {v : Value} {rs : List (Int × Int)} (h : Prs e w base v rs) (p : Addr) (u : Value) (hne : v.ownBlock ≠ some p.block) : Prs e (w.setCell p u) base v rs := h.kept (grown_set w p u) (.inr hne)
theorem Prs.mono {e : TypeId} {w : World} {base base' : Nat} {v : Value} {rs : List (Int × Int)} (h : Prs e w base v rs) (hb : base' ≤ base) : Prs e w base' v rs := by
  obtain ⟨h1, h2 | ⟨g, cap, cur, hv, hg, hr⟩⟩ := h
  · exact ⟨h1, .inl h2⟩
  · exact ⟨h1, .inr ⟨g, cap, cur, hv, Nat.le_trans hb hg, hr⟩⟩
set_option maxHeartbeats 1000000 in
theorem mark_pages (v : Value) (k : Int) (rs : List (Int × Int)) (b : Nat) (w : World) (h : Prs 125 w b v rs) (hk : 0 ≤ k) (hz : k + (2 * rs.length : Nat) ≤ 4611686018427387904) :
    Calls Tryz.prog 56 #[v, .int .i64 k] w fun e w' => e = .returned (.int .i64 (k + (2 * rs.length : Nat))) ∧ Prs 125 w' b v (pmarks k rs.length) ∧ w.grownBy w' v.ownBlock := by
  obtain ⟨a, cap, rfl, l1, l2, hg⟩ := h.shape
  have HZ : Hid (Prs _ w b _ rs) := h
  clear h
  obtain ⟨n, hn⟩ : ∃ n, rs.length = n := ⟨_, rfl⟩
  rw [hn] at HZ l1 hz hg ⊢
  have HN : Hid (rs.length = n) := hn
  clear hn l1 l2
  go_enter Tryz.func56, Tryz.ntmps56
  go_wp2_with fail
  go_loopw [1, 5] (fun q i wr => ∃ j : Nat, j ≤ n ∧ i = .int .i64 j ∧ q = .int .i64 (k + (2 * j : Nat)) ∧ Prs 125 wr b (.slice a n cap) (pmarks k j ++ rs.drop j) ∧ w.grownBy wr (Value.slice a n cap).ownBlock) (fun _ i _ => n - (intOf i).toNat)
  case atStart => exact ⟨0, Nat.zero_le _, rfl, by simp, by simpa [pmarks] using HZ.out, World.grownBy.refl _ _⟩
  case round =>
    obtain ⟨j, hj, rfl, rfl, hN, hG⟩ := hrel
    have N0 : Hid (Prs _ wr _ _ _) := hN
    have G0 : Hid (World.grownBy _ _ _) := hG
    by_cases hlt : j < n
    · obtain ⟨g, rfl⟩ := hg (by omega)
      have hll : n = (pmarks k j ++ rs.drop j).length := by have := HN.out; simp [pmarks]; omega
      have HLL : Hid (n = (pmarks k j ++ rs.drop j).length) := hll
      have c1 := (hN.cell hll j hlt).1
      have c2 := (hN.cell hll j hlt).2
      have f1 := hN.free hll (j * 2)
      have f2 := hN.free hll (j * 2 + 1)
      have hI : (j : Int) < (n : Int) := by omega
      have HL : Hid (j < n) := hlt
      have HK2 : Hid (k + ((2 * j : Nat) : Int) + 1 = k + ((2 * j + 1 : Nat) : Int) ∧ k + ((2 * j + 1 : Nat) : Int) + 1 = k + ((2 * (j + 1) : Nat) : Int)) := ⟨by omega, by omega⟩
      have hb0 : 0 ≤ k + ((2 * j : Nat) : Int) := by omega
      have hb1 : k + ((2 * j : Nat) : Int) ≤ 4611686018427387904 := by omega
      generalize ((pmarks k j ++ rs.drop j).getD j (0, 0)).1 = p at *
      generalize ((pmarks k j ++ rs.drop j).getD j (0, 0)).2 = q at *
      generalize hkk : k + ((2 * j : Nat) : Int) = kk at *
      have HKK : Hid (k + ((2 * j : Nat) : Int) = kk) := hkk
      clear hN hG hlt hg hll hkk
      go_wp2_with fail
      go_roundw
      case rel =>
        have s1 := N0.out.store HLL.out j kk (kk + 1) HL.out
        have s2 := grown_trans (grown_set wr ⟨g, j * 2, none⟩ (.int .i64 kk)) (grown_set _ ⟨g, j * 2 + 1, none⟩ (.int .i64 (kk + 1)))
        refine ⟨j + 1, by have := HL.out; omega, by go_num, by rw [← HK2.out.2, ← HK2.out.1], ?_, grown_trans G0.out s2⟩
        rw [HK2.out.1, ← HKK.out, pmarks_set k rs j (by have := HL.out; have := HN.out; omega)] at s1
        have e : k + ((2 * j : Nat) : Int) + 1 = k + ((2 * j + 1 : Nat) : Int) := by omega
        rw [← HKK.out, e]
        exact s1
      case measure => have := HL.out; simp [intOf]; omega
    · have hI : ¬ (j : Int) < (n : Int) := by omega
      obtain rfl : j = n := by omega
      clear hN hG
      go_wp2_with fail
      go_ret
      refine ⟨rfl, ?_, G0.out⟩
      have := N0.out
      rwa [List.drop_of_length_le (Nat.le_of_eq HN.out), List.append_nil] at this

end Go.Proofs.YtadkhognlapckaaGreatDoor
