/- Texts of this seat, joined. -/
import Derived.Laws.AppendOwn
import Derived.Deep.QuietTactic
import Derived.Test.YtdhdfopkcpkbeaaGreatDoorQ07
import Derived.Test.YtdhdfopkcpkbeaaGreatDoorQ12
namespace Go.Proofs.YtdhdfopkcpkbeaaGreatDoor
open Go.RowKit
set_option linter.unusedVariables false

theorem wp_appn {ops : Array Oper} {rest : List Oper} {o : Oper} {act : Act} {Q : Exit → Act → World → Prop} (w : World) (hgd : o.guard = none) (s x : Operand)
    (ho : o.op = .call { callee := .builtin .append, args := #[s, x], argTypes := #[32, 32] }) (base : Nat) (v : Value) (zs : List Int) (hs : act.eval s = v) (hN : Nums w base v zs)
    (B m c : Nat) (ys : List Int) (hx : act.eval x = .slice (some ⟨B, 0, none⟩) m c) (hy : ys.length = m) (hc : ∀ i, i < m → w.cell? ⟨B, i, none⟩ = some (.int .i64 (ys.getD i 0)))
    (hlen : zs.length + m ≤ 1000000000) (hbase : base ≤ w.heap.size)
    (h : ∀ v' w', Nums w' base v' (zs ++ ys) → w.grownBy w' v.ownBlock → wpList Tryz.prog ops Q rest (act.put o.dst v') w') : wpList Tryz.prog ops Q (o :: rest) act w := by
  obtain ⟨i, hi, hz0, hz1, hz2⟩ := info_parts info_i64
  refine wpList_append_own w hgd s x 32 ho base 2 i _ 1 8 Tryz.underlying32 hi hz0 hz1 hz2 rfl (by decide) v zs.length _ hs hN ⟨B, 0, none⟩ m c (ys.map (Value.int .i64)) hx (by simpa using hy) ?_ ?_ (by unfold maxLen; omega) (by omega) hbase ?_
  · intro j u hj
    have hjl : j < ys.length := by have := (List.getElem?_eq_some_iff.1 hj).1; simpa using this
    rw [List.getElem?_map, List.getElem?_eq_getElem hjl] at hj
    have := hc j (by omega)
    rw [List.getD, List.getElem?_eq_getElem hjl] at this
    rw [show (⟨B, 0, none⟩ : Addr).add j = ⟨B, j, none⟩ by rw [Addr.add_lit]; simp, this]
    exact hj
  · intro u hu
    obtain ⟨z, _, rfl⟩ := List.mem_map.1 hu
    rfl
  · intro v' w' hown hgrow _
    refine h v' w' ?_ hgrow
    unfold Nums
    rw [List.length_append, hy, List.map_append]
    exact hown

theorem nums_empty (w : World) (base : Nat) (hb : base ≤ w.heap.size) : Nums (w.alloc (.cells #[] 2)) base (.slice (some ⟨w.heap.size, 0, none⟩) 0 0) [] :=
  World.ownsRow_lit w #[] 0 hb (by decide) rfl
theorem one_at {w : World} {g : Nat} {z : Int} (h : w.cell? ⟨g, 0, none⟩ = some (.int .i64 z)) : ∀ i, i < 1 → w.cell? ⟨g, i, none⟩ = some (.int .i64 (([z] : List Int).getD i 0)) := by
  intro i hi
  obtain rfl : i = 0 := by omega
  exact h
end Go.Proofs.YtdhdfopkcpkbeaaGreatDoor
namespace Go.Proofs.YtdhdfopkcpkbeaaGreatDoor
open Go.RowKit
set_option linter.unusedVariables false

/-- A world that keeps what was there in W. -/
structure BW (W : World) where
  w : World
  h : Below W.heap.size W w

theorem region_bw {id : Nat} {Q : Exit → Act → World → Prop} {a : Act} {W : World} {l : List Oper} (hB : Region.lexB .any l.toArray = true)
    (h : wpQuiet Tryz.prog l.toArray (fun w' => ∃ p : BW W, w' = p.w) (fun a' => ∀ w', (∃ p : BW W, w' = p.w) → Q .normal a' w') l a) : (Code.region id l.toArray true).wp Tryz.prog Q a W :=
  wp_region_quiet (C := fun w' => ∃ p : BW W, w' = p.w) (by kernel_rfl) hB ⟨⟨{ W with drawn := W.drawn + 1 }, (Below.refl _ _).drew⟩, rfl⟩ (by simpa using h)
theorem calls_bw {f : FuncId} {args : Array Value} {W : World} {p : BW W} {v : Value}
    (h : Calls Tryz.prog f args p.w fun e w' => e = .returned v ∧ Below p.w.heap.size p.w w') : Calls Tryz.prog f args p.w fun e w'' => e = .returned v ∧ ∃ q : BW W, w'' = q.w :=
  h.mono fun _ w' ⟨he, hb⟩ => ⟨he, ⟨w', on p.h hb⟩, rfl⟩
theorem BW.cell {W : World} {a : Addr} {v : Value} (h : W.cell? a = some v) (p : BW W) : p.w.cell? a = some v := cell_keep p.h h
end Go.Proofs.YtdhdfopkcpkbeaaGreatDoor
