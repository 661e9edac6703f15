/- A byte put ahead of the bytes that came in: the new slice is a row of bytes, and nothing that was there has turned. -/
import Derived.Test.YtpdeecmbfmhhbaaWide
import Derived.OwnWalk
import Derived.Deep.AppendSrc
namespace Go.Proofs.Ytpdeecmbfmhhbaa
open Go.RowKit

theorem info_u8 : (Try.prog.info? 5).map (fun i => (i.zero, i.size, i.bytes)) = some (some (.int .u8 0), 1, 1) := by kernel_rfl

theorem heap_new (w : World) (o : Obj) : (w.alloc o).heap[w.heap.size]? = some o := by
  show (w.heap.push o)[w.heap.size]? = _
  rw [Array.getElem?_push, if_pos rfl]

theorem isRow_owned {w : World} {base : Nat} {v : Value} {n : Nat} {zs : List Int} (h : w.ownsRow base 5 1 v n (zs.map fun z => .int .u8 z)) (hz : ∀ z ∈ zs, (Lit.int .u8 z).wf = true) :
    ∃ a len cap, v = .slice a len cap ∧ IsRow .u8 w a len cap zs := by
  obtain ⟨h0, h1 | ⟨g, cap, cur, rfl, hb, hh, hn, hc, hs, ht⟩⟩ := h
  · obtain ⟨rfl, rfl⟩ := h1
    exact ⟨none, 0, 0, rfl, .inl ⟨rfl, rfl, rfl, by simpa using h0⟩⟩
  · have hlen : zs.length = n := by simpa using h0
    refine ⟨_, _, _, rfl, .inr ⟨_, rfl, hn, hc, hlen, fun i hi => ?_, hz⟩⟩
    rw [add_plain]
    have e : cur[i]? = some (.int .u8 (zs.getD i 0)) := by
      have h2 : (cur.toList.take (n * 1))[i]? = (zs.map fun z => Value.int .u8 z)[i]? := by rw [ht]
      rw [Nat.mul_one, List.getElem?_take, if_pos hi, Array.getElem?_toList] at h2
      rw [h2, List.getElem?_map, List.getD, List.getElem?_eq_getElem (by omega)]
      rfl
    simp [World.cell?, hh, e]

theorem wp_prepend {ops : Array Oper} {rest : List Oper} {o : Oper} {act : Act} {Q : Exit → Act → World → Prop} (w : World) (hgd : o.guard = none) (s x : Operand)
    (ho : o.op = .call { callee := .builtin .append, args := #[s, x], argTypes := #[22, 22] }) (g : Nat) (c : Int) (hwf : (Lit.int .u8 c).wf = true)
    (hs : act.eval s = .slice (some ⟨g, 0, none⟩) 1 1) (hg : w.heap[g]? = some (.cells #[.int .u8 c] 5 (0, 0)))
    (a : Option Addr) (len cap : Nat) (zs : List Int) (hx : act.eval x = .slice a len cap) (hr : IsRow .u8 w a len cap zs) (hlen : len ≤ 1048576)
    (h : ∀ a' len' cap' zs' w', IsRow .u8 w' a' len' cap' zs' → Below g w w' → wpList Try.prog ops Q rest (act.put o.dst (.slice a' len' cap')) w') :
    wpList Try.prog ops Q (o :: rest) act w := by
  obtain ⟨i, hi, hz0, hz1, hz2⟩ := info_parts info_u8
  have hgs : g < w.heap.size := by
    apply Classical.byContradiction
    intro hn
    have hz : w.heap[g]? = none := by simp; omega
    rw [hz] at hg; cases hg
  have hown : w.ownsRow g 5 1 (.slice (some ⟨g, 0, none⟩) 1 1) 1 ([c].map fun z => .int .u8 z) :=
    ⟨rfl, .inr ⟨g, 1, _, rfl, Nat.le_refl _, hg, Nat.le_refl _, by decide, rfl, rfl⟩⟩
  rcases hr with ⟨rfl, rfl, rfl, rfl⟩ | ⟨ad, rfl, h1, h2, h3, h4, h5⟩
  · refine wpList_plain hgd fun K hK => ?_
    have hrun := run_append_room_src (P := Try.prog) w 22 22 o.type 5 i Try.underlying22 hi g 0 1 1 (.slice none 0 0) 0 [] (Go.Src.ofNil w Try.underlying22 0) (by omega) (fun j hj => by simp at hj) (fun j hj => by simp at hj)
    unfold Oper.wp
    simp [execOp, ho, resolve, invoke, builtin, hs, hx, hrun, Result.andThen]
    obtain ⟨a', len', cap', hv, hrow⟩ := isRow_owned hown (by simpa using hwf)
    refine hK _ _ ?_
    have e : (Value.slice (some ⟨g, 0, none⟩) 1 1) = .slice a' len' cap' := hv
    rw [e]
    exact h _ _ _ _ _ hrow (Below.refl _ _)
  · refine wpList_append_own w hgd s x 22 ho g 5 i _ 1 1 Try.underlying22 hi hz0 hz1 hz2 rfl (by decide) _ 1 _ hs hown ad len cap (zs.map fun z => .int .u8 z) hx (by simpa using h3) ?_ ?_ (by unfold maxLen; omega) (by omega) (by omega) ?_
    · intro j u hj
      rw [List.getElem?_map] at hj
      have hjl : j < len := by
        apply Classical.byContradiction
        intro hn
        rw [List.getElem?_eq_none (by omega)] at hj
        cases hj
      rw [h4 j hjl]
      rw [List.getElem?_eq_getElem (by omega)] at hj
      rw [List.getD, List.getElem?_eq_getElem (by omega)]
      exact hj
    · intro u hu
      obtain ⟨z, _, rfl⟩ := List.mem_map.1 hu
      rfl
    · intro v' w' hown' hgrow _
      have e : ([c].map fun z => Value.int .u8 z) ++ (zs.map fun z => .int .u8 z) = (c :: zs).map fun z => .int .u8 z := rfl
      rw [e] at hown'
      obtain ⟨a', len', cap', rfl, hrow⟩ := isRow_owned hown' (by
        intro z hz
        rcases List.mem_cons.1 hz with rfl | hz
        · exact hwf
        · exact h5 z hz)
      exact h _ _ _ _ _ hrow ((Below.refl _ _).grown hgrow (by omega) (by intro k hk; simp [Value.ownBlock] at hk; omega))
end Go.Proofs.Ytpdeecmbfmhhbaa
