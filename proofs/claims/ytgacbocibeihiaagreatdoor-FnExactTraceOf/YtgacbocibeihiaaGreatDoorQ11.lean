/- Texts of this seat, joined. -/
import Derived.Laws.AppendOwn
import Derived.Laws.AppendOwnNone
import Derived.Deep.RegionLaw
import Derived.Test.YtgacbocibeihiaaGreatDoorQ07
namespace Go.Proofs.YtgacbocibeihiaaGreatDoor
open Go.RowKit
set_option linter.unusedVariables false

/-- append of numbers to a slice of the call's own, as a step of a region. -/
theorem step_append {ops : Array Oper} {o : Oper} {act : Act} {w : World} {K : Act → World → Prop} {Q : Exit → Act → World → Prop} {E : Prop} (hgd : o.guard = none) (s x : Operand)
    (ho : o.op = .call { callee := .builtin .append, args := #[s, x], argTypes := #[28, 28] }) (base : Nat) (v : Value) (zs : List Int) (hs : act.eval s = v) (hN : Nums w base v zs)
    (ao : Option Addr) (m c : Nat) (ys : List Int) (hx : act.eval x = .slice ao m c) (hy : ys.length = m) (hnone : ao = none → m = 0 ∧ c = 0) (hc : ∀ ad, ao = some ad → ∀ i, i < m → w.cell? (ad.add i) = some (.int .i64 (ys.getD i 0)))
    (hlen : zs.length + m ≤ 1000000000) (B : Nat) (w0 : World) (hb : Below B w0 w) (hB : B ≤ base) (hbase : base ≤ w.heap.size)
    (h : ∀ v' w', Hid (Nums w' base v' (zs ++ ys)) → w.grownBy w' v.ownBlock → Below B w0 w' → K (act.put o.dst v') w') :
    if Region.wanted o (yielded ops act.tmps) = true then Oper.wp Tryz.prog o act w K Q else E := by
  have hw : Region.wanted o (yielded ops act.tmps) = true := by simp [Region.wanted, hgd]
  rw [if_pos hw]
  obtain ⟨i, hi, hz0, hz1, hz2⟩ := info_parts info_i64
  cases ao with
  | none =>
    obtain ⟨rfl, rfl⟩ := hnone rfl
    obtain rfl : ys = [] := List.eq_nil_of_length_eq_zero hy
    have hrun := run_append_owned_none (P := Tryz.prog) (w := w) base 28 o.type 2 i 1 Tryz.underlying28 hi v zs.length _ hN
    unfold Oper.wp
    simp [execOp, ho, resolve, invoke, builtin, hs, hx, hrun, Result.andThen]
    exact h v w (show Nums _ _ _ _ by rw [List.append_nil]; exact hN) (World.grownBy.refl _ _) hb
  | some ad =>
    refine wp_append_own w s x 28 ho base 2 i _ 1 8 Tryz.underlying28 hi hz0 hz1 hz2 rfl (by decide) v zs.length _ hs hN ad m c (ys.map (Value.int .i64)) hx (by simpa using hy) ?_ ?_ (by unfold maxLen; omega) (by omega) hbase ?_
    · intro j u hj
      have hjl : j < ys.length := by have := (List.getElem?_eq_some_iff.1 hj).1; simpa using this
      rw [List.getElem?_map, List.getElem?_eq_getElem hjl] at hj
      have := hc ad rfl j (by omega)
      rw [List.getD, List.getElem?_eq_getElem hjl] at this
      rw [this]
      exact hj
    · intro u hu
      obtain ⟨z, _, rfl⟩ := List.mem_map.1 hu
      rfl
    · intro v' w' hown hgrow _
      refine h v' w' ?_ hgrow (hb.grown hgrow (Nat.le_trans hB hbase) (fun k hk => Nat.le_trans hB (hN.lt k hk).1))
      show Nums _ _ _ _
      unfold Nums
      rw [List.length_append, hy, List.map_append]
      exact hown

end Go.Proofs.YtgacbocibeihiaaGreatDoor
