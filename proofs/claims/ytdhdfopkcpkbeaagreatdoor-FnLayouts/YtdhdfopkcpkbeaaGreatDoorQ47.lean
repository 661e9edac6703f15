/- Texts of this seat, joined. -/
import Derived.Test.YtdhdfopkcpkbeaaGreatDoorQ05
import Derived.Test.YtdhdfopkcpkbeaaGreatDoorQ46
namespace Go.Proofs.YtdhdfopkcpkbeaaGreatDoor
open Go.RowKit
set_option linter.unusedVariables false

/-- Numbers laid for a choice. -/
def Ld (u : World) (b g m : Nat) : Prop := g ≠ b ∧ g < u.heap.size ∧ ∀ i, i < m → ∃ v : Int, u.cell? ⟨g, i, none⟩ = some (.int .i64 v) ∧ True
theorem Ld.keep {u u' : World} {b g m : Nat} (h : Ld u b g m) (B : Below u.heap.size u u') : Ld u' b g m := ⟨h.1, Nat.lt_of_lt_of_le h.2.1 B.size, fun i hi => by obtain ⟨v, k, _⟩ := h.2.2 i hi; exact ⟨v, cell_keep B k, trivial⟩⟩
theorem Ld.turn {u u' : World} {b g m : Nat} (h : Ld u b g m) (t : Turn b u u') : Ld u' b g m := ⟨h.1, Nat.lt_of_lt_of_le h.2.1 t.size, laid_turn h.2.2 t h.1⟩
theorem step_ln1 {ops : Array Oper} {o : Oper} {act : Act} {w : World} {K : Act → World → Prop} {Q : Exit → Act → World → Prop} {E : Prop} (hgd : o.guard = none) (s x : Operand)
    (ho : o.op = .call { callee := .builtin .append, args := #[s, x], argTypes := #[25, 25] }) (base : Nat) (v : Value) (rs : List Ln) (hs : act.eval s = v) (hN : Ls 83 w base v rs)
    (B : Nat) (r : Ln) (hx : act.eval x = .slice (some ⟨B, 0, none⟩) 1 1) (h0 : w.cell? ⟨B, 0, none⟩ = some (.int .i64 r.fr)) (h1 : w.cell? ⟨B, 1, none⟩ = some (.int .i64 r.dst)) (h2 : w.cell? ⟨B, 2, none⟩ = some (.int .i64 r.pg)) (h3 : w.cell? ⟨B, 3, none⟩ = some (.int .i64 r.af)) (h4 : w.cell? ⟨B, 4, none⟩ = some (.int .i64 r.tt))
    (hlen : rs.length ≤ 1000000) (hbase : base ≤ w.heap.size)
    (h : ∀ v' w', Hid (Ls 83 w' base v' (rs ++ [r])) → w.grownBy w' v.ownBlock → K (act.put o.dst v') w') :
    if Region.wanted o (yielded ops act.tmps) = true then Oper.wp Tryz.prog o act w K Q else E := by
  have hw : Region.wanted o (yielded ops act.tmps) = true := by simp [Region.wanted, hgd]
  rw [if_pos hw]
  obtain ⟨i, hi, hz0, hz1, hz2⟩ := info_parts info_lane
  refine wp_append_own w s x 25 ho base 83 i _ 5 40 Tryz.underlying25 hi hz0 hz1 hz2 rfl (by decide) v rs.length _ hs hN ⟨B, 0, none⟩ 1 1 (flat5 [r]) hx rfl ?_ (flat5_one _) (by unfold maxLen; omega) (by omega) hbase ?_
  · intro j u hj
    rw [Addr.add_lit, Nat.zero_add]
    match j, hj with
    | 0, hj => rw [h0]; exact hj
    | 1, hj => rw [h1]; exact hj
    | 2, hj => rw [h2]; exact hj
    | 3, hj => rw [h3]; exact hj
    | 4, hj => rw [h4]; exact hj
    | j + 5, hj => simp [flat5] at hj
  · intro v' w' hown hgrow _
    refine h v' w' ?_ hgrow
    show Ls 83 w' base v' (rs ++ [r])
    unfold Ls
    rw [List.length_append, flat5_append]
    exact hown
theorem Pq.lanedP {w wr w' : World} {b kk q : Nat} {a : Option Addr} {len cap : Nat} {zs : List Int} {v0 v1 v2 v3 v' : Value} {P : Plc} {rs : List Ln} (h : Pq w wr b kk q a len cap zs v0 v1 v2 v3 P) (hb : b < w.heap.size) (k : Ls 83 w' w.heap.size v' rs) (g : wr.grownBy w' v1.ownBlock) :
    Bk w' q #[v0, v1, v2, v3] 29 ∧ Pq w (w'.setCell ⟨q, 1, none⟩ v') b kk q a len cap zs v0 v' v2 v3 ⟨P.own, rs, P.bells, P.plan⟩ := by
  have r := Pq.grown (P' := P) (u0 := v1) (u1 := v1) (u2 := v1) (u3 := v1) h hb h.dv.lanes (by decide) g
  obtain ⟨xs, o1, o2, o3⟩ := h.dv.own
  exact ⟨r.2.2.2, Pq.mk' hb h.hq r ⟨⟨xs, o1, World.ownsRow.kept o2 g (own_types o2 h.dv.lanes (by decide)), fun i hi => (o3 i hi).kept g (own_types (o3 i hi) h.dv.lanes (by decide))⟩, k, World.ownsRow.kept h.dv.bells g (own_types h.dv.bells h.dv.lanes (by decide)), World.ownsRow.kept h.dv.plan g (own_types h.dv.plan h.dv.lanes (by decide))⟩ rfl⟩
end Go.Proofs.YtdhdfopkcpkbeaaGreatDoor
