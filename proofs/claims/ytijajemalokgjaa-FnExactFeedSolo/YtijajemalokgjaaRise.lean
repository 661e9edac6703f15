/- A number is put into a rising list, by the model. -/
import Derived.Test.YtijajemalokgjaaMemr
import Derived.Laws.AppendOwn
import Derived.Laws.AppendOwnNone
import Derived.Deep.RegionLaw
namespace Go.Proofs.Ytijajemalokgjaa
open Go.RowKit
set_option linter.unusedVariables false

/-- append of numbers to a slice of the call's own, as a step of a region. -/
theorem step_append {ops : Array Oper} {o : Oper} {act : Act} {w : World} {K : Act → World → Prop} {Q : Exit → Act → World → Prop} {E : Prop} (hgd : o.guard = none) (s x : Operand)
    (ho : o.op = .call { callee := .builtin .append, args := #[s, x], argTypes := #[22, 22] }) (base : Nat) (v : Value) (zs : List Int) (hs : act.eval s = v) (hN : Nums w base v zs)
    (ao : Option Addr) (m c : Nat) (ys : List Int) (hx : act.eval x = .slice ao m c) (hy : ys.length = m) (hnone : ao = none → m = 0 ∧ c = 0) (hc : ∀ ad, ao = some ad → ∀ i, i < m → w.cell? (ad.add i) = some (.int .i64 (ys.getD i 0)))
    (hlen : zs.length + m ≤ 1000000000) (B : Nat) (w0 : World) (hb : Below B w0 w) (hB : B ≤ base) (hbase : base ≤ w.heap.size)
    (h : ∀ v' w', Hid (Nums w' base v' (zs ++ ys)) → w.grownBy w' v.ownBlock → Below B w0 w' → K (act.put o.dst v') w') :
    if Region.wanted o (yielded ops act.tmps) = true then Oper.wp Try.prog o act w K Q else E := by
  have hw : Region.wanted o (yielded ops act.tmps) = true := by simp [Region.wanted, hgd]
  rw [if_pos hw]
  obtain ⟨i, hi, hz0, hz1, hz2⟩ := info_parts info_i64
  cases ao with
  | none =>
    obtain ⟨rfl, rfl⟩ := hnone rfl
    obtain rfl : ys = [] := List.eq_nil_of_length_eq_zero hy
    have hrun := run_append_owned_none (P := Try.prog) (w := w) base 22 o.type 2 i 1 Try.underlying22 hi v zs.length _ hN
    unfold Oper.wp
    simp [execOp, ho, resolve, invoke, builtin, hs, hx, hrun, Result.andThen]
    exact h v w (show Nums _ _ _ _ by rw [List.append_nil]; exact hN) (World.grownBy.refl _ _) hb
  | some ad =>
    refine wp_append_own w s x 22 ho base 2 i _ 1 8 Try.underlying22 hi hz0 hz1 hz2 rfl (by decide) v zs.length _ hs hN ad m c (ys.map (Value.int .i64)) hx (by simpa using hy) ?_ ?_ (by unfold maxLen; omega) (by omega) hbase ?_
    · intro j u hj
      have hjl : j < ys.length := by have := (List.getElem?_eq_some_iff.1 hj).1; simpa using this
      rw [List.getElem?_map, List.getElem?_eq_getElem hjl] at hj
      have := hc ad rfl j (by omega)
      rw [List.getD, List.getElem?_eq_getElem hjl] at this
      rw [this]
      exact hj
    · intro u hu
      obtain ⟨z, _, rfl⟩ := List.mem_map.1 hu
      rfl
    · intro v' w' hown hgrow _
      refine h v' w' ?_ hgrow (hb.grown hgrow (Nat.le_trans hB hbase) (fun k hk => Nat.le_trans hB (hN.lt k hk).1))
      show Nums _ _ _ _
      unfold Nums
      rw [List.length_append, hy, List.map_append]
      exact hown

theorem Nums.empty' (w : World) (base g : Nat) (h : w.heap[g]? = some (.cells #[] 2 (0, 0))) (hb : base ≤ g) : Nums w base (.slice (some ⟨g, 0, none⟩) 0 0) [] :=
  ⟨rfl, .inr ⟨g, 0, #[], rfl, hb, h, Nat.le_refl _, by decide, rfl, rfl⟩⟩

theorem heap_second (w : World) (a b : Obj) : ((w.alloc a).alloc b).heap[w.heap.size]? = some a := by
  rw [Below.heap_alloc _ _ _ (by simp)]
  exact heap_alloc_new w a
theorem heap_third (w : World) (a b : Obj) : ((w.alloc a).alloc b).heap[w.heap.size + 1]? = some b := by
  have := heap_alloc_new (w.alloc a) b
  rwa [World.size_alloc] at this
theorem cell_third (w : World) (a : Obj) (x : Value) (t : TypeId) : ((w.alloc a).alloc (.cells #[x] t)).cell? ⟨w.heap.size + 1, 0, none⟩ = some x := by
  have := cell_new (w := w.alloc a) (cs := #[x]) (t := t) (i := 0) (v := x) rfl
  rwa [World.size_alloc] at this
theorem one_cell {w : World} {g : Nat} {v : Int} (h : w.cell? ⟨g, 0, none⟩ = some (.int .i64 v)) : ∀ ad, some (⟨g, 0, none⟩ : Addr) = some ad → ∀ i, i < 1 → w.cell? (ad.add i) = some (.int .i64 (([v] : List Int).getD i 0)) := by
  intro ad had i hi
  obtain rfl := Option.some.inj had
  obtain rfl : i = 0 := by omega
  exact h
theorem rise_pre {w : World} {b g n cap i : Nat} {zs : List Int} (h : Nums w b (.slice (some ⟨g, 0, none⟩) n cap) zs) (hn : n = zs.length) (hi : i ≤ n) :
    ∀ wz, Below w.heap.size w wz → ∀ ad, some (⟨g, 0, none⟩ : Addr) = some ad → ∀ k, k < i → wz.cell? (ad.add k) = some (.int .i64 ((zs.take i).getD k 0)) := by
  intro wz hb ad had k hk
  obtain rfl := Option.some.inj had
  rw [Addr.add_lit, Nat.zero_add, cell_keep hb (h.cell hn k (by omega))]
  simp [List.getD, hk]
theorem rise_post {w : World} {b g n cap i : Nat} {zs : List Int} (h : Nums w b (.slice (some ⟨g, 0, none⟩) n cap) zs) (hn : n = zs.length) (hi : i ≤ n) :
    ∀ wz, Below w.heap.size w wz → ∀ ad, some (⟨g, i, none⟩ : Addr) = some ad → ∀ k, k < n - i → wz.cell? (ad.add k) = some (.int .i64 ((zs.drop i).getD k 0)) := by
  intro wz hb ad had k hk
  obtain rfl := Option.some.inj had
  rw [Addr.add_lit, cell_keep hb (h.cell hn (i + k) (by omega))]
  simp [List.getD]

/-- Where v goes in. -/
def riseL (zs : List Int) (v : Int) (j : Nat) : List Int := zs.take j ++ [v] ++ zs.drop j

end Go.Proofs.Ytijajemalokgjaa
