/- Texts of this seat, joined. -/
import Derived.Deep.RegionLaw
import Derived.Test.YtbegbphbcjoglaaGreatDoorQ04
import Derived.Test.YtbegbphbcjoglaaGreatDoorQ07
import Derived.Test.YtbegbphbcjoglaaGreatDoorQ11
import Derived.Test.YtbegbphbcjoglaaGreatDoorQ12
import Derived.Test.YtbegbphbcjoglaaGreatDoorQ14
import Derived.Test.YtbegbphbcjoglaaGreatDoorQ21
namespace Go.Proofs.YtbegbphbcjoglaaGreatDoor
open Go.RowKit
set_option linter.unusedVariables false

theorem getD_mem {α : Type} (zs : List α) (d : α) (k : Nat) (h : k < zs.length) : zs.getD k d ∈ zs := by
  rw [List.getD, List.getElem?_eq_getElem h]
  exact List.getElem_mem h
theorem Pags.nil (w : World) (base : Nat) : Pags w base (.slice none 0 0) 0 [] := World.ownsRow_nil w base _ _
theorem nums_empty (w : World) (base : Nat) (hb : base ≤ w.heap.size) : Nums (w.alloc (.cells #[] 2)) base (.slice (some ⟨w.heap.size, 0, none⟩) 0 0) [] :=
  World.ownsRow_lit w #[] 0 hb (by decide) rfl
theorem Pags.shape {w : World} {base n : Nat} {v : Value} {zs : List Int} (h : Pags w base v n zs) : ∃ a cap, v = .slice a n cap ∧ n ≤ cap ∧ cap ≤ maxLen ∧ (0 < n → ∃ g, a = some ⟨g, 0, none⟩) := by
  have h' := h
  obtain ⟨h1, ⟨rfl, h3⟩ | ⟨g, cap, cur, rfl, _, _, h4, h5, _⟩⟩ := h'
  · exact ⟨none, 0, by rw [h3], by omega, by unfold maxLen; omega, fun hz => by omega⟩
  · exact ⟨_, _, rfl, h4, h5, fun _ => ⟨g, rfl⟩⟩
theorem Pags.inb {w : World} {base n : Nat} {v : Value} {zs : List Int} (h : Pags w base v n zs) : ∀ k, v.ownBlock = some k → base ≤ k ∧ k < w.heap.size := World.ownsRow.lt h
theorem eight_list (zs : List Int) (p : Nat) (h : p * 8 + 8 ≤ zs.length) : eight zs p = [zs.getD (p * 8) 0, zs.getD (p * 8 + 1) 0, zs.getD (p * 8 + 2) 0, zs.getD (p * 8 + 3) 0, zs.getD (p * 8 + 4) 0, zs.getD (p * 8 + 5) 0, zs.getD (p * 8 + 6) 0, zs.getD (p * 8 + 7) 0] := by
  have h1 := take_eight zs (p * 8) h
  rw [List.take_add] at h1
  exact List.append_cancel_left h1
/-- append of one page to a slice of pages of the call's own. -/
theorem wp_pag {ops : Array Oper} {rest : List Oper} {o : Oper} {act : Act} {Q : Exit → Act → World → Prop} (w : World) (hgd : o.guard = none) (s x : Operand)
    (ho : o.op = .call { callee := .builtin .append, args := #[s, x], argTypes := #[123, 123] }) (base : Nat) (v : Value) (n : Nat) (zs : List Int) (hs : act.eval s = v) (hN : Pags w base v n zs)
    (B : Nat) (ys : List Int) (hy : ys.length = 8) (hx : act.eval x = .slice (some ⟨B, 0, none⟩) 1 1) (hc : ∀ i, i < 8 → w.cell? ⟨B, i, none⟩ = some (.int .i64 (ys.getD i 0)))
    (hlen : n ≤ 1000) (hbase : base ≤ w.heap.size)
    (h : ∀ v' w', Pags w' base v' (n + 1) (zs ++ ys) → w.grownBy w' v.ownBlock → wpList Tryz.prog ops Q rest (act.put o.dst v') w') : wpList Tryz.prog ops Q (o :: rest) act w := by
  obtain ⟨i, hi, hz0, hz1, hz2⟩ := info_parts info_wpage
  refine wpList_append_own w hgd s x 123 ho base 82 i _ 8 64 Tryz.underlying123 hi hz0 hz1 hz2 rfl (by decide) v n _ hs hN ⟨B, 0, none⟩ 1 1 (ys.map (Value.int .i64)) hx (by simpa using hy) ?_ ?_ (by unfold maxLen; omega) (by omega) hbase ?_
  · intro j u hj
    have hjl : j < ys.length := by have := (List.getElem?_eq_some_iff.1 hj).1; simpa using this
    rw [List.getElem?_map, List.getElem?_eq_getElem hjl] at hj
    have := hc j (by omega)
    rw [List.getD, List.getElem?_eq_getElem hjl] at this
    rw [show (⟨B, 0, none⟩ : Addr).add j = ⟨B, j, none⟩ by rw [Addr.add_lit]; simp, this]
    exact hj
  · intro u hu
    obtain ⟨z, _, rfl⟩ := List.mem_map.1 hu
    rfl
  · intro v' w' hown hgrow _
    refine h v' w' ?_ hgrow
    unfold Pags
    rw [List.map_append]
    exact hown
end Go.Proofs.YtbegbphbcjoglaaGreatDoor
namespace Go.Proofs.YtbegbphbcjoglaaGreatDoor
open Go.RowKit
set_option linter.unusedVariables false

theorem add_block (x : Addr) (i : Nat) : (x.add i).block = x.block := by unfold Addr.add; split <;> rfl
theorem Rn.mq {S : Nat → Prop} {w w' : World} {a : Option Addr} {len cap : Nat} {zs : List Int} (h : Rn w a len cap zs) (m : Mq S w w') (hn : ∀ x, a = some x → x.block < w.heap.size → ¬ S x.block) : Rn w' a len cap zs := by
  rcases h with h | ⟨x, rfl, h1, h2, h3, h4⟩
  · exact .inl h
  · refine .inr ⟨x, rfl, h1, h2, h3, fun i hi => ?_⟩
    have hc := h4 i hi
    have hl : x.block < w.heap.size := by have := World.block_lt_of_cell? w (x.add i) hc; rwa [add_block] at this
    rw [← hc]
    exact World.cell?_of_block (a := x.add i) (by rw [add_block]; exact m.block x.block hl (hn x rfl hl))
theorem Rv.mq {S : Nat → Prop} {w w' : World} {v : Value} {zs : List Int} (h : Rv w v zs) (m : Mq S w w') (hn : ∀ k, v.ownBlock = some k → k < w.heap.size → ¬ S k) : Rv w' v zs := by
  obtain ⟨a, cap, rfl, h2⟩ := h
  exact ⟨a, cap, rfl, h2.mq m fun x e hl => hn x.block (by rw [e]; rfl) hl⟩
/-- A machine whose four lists are read alone. -/
structure Hr (w : World) (r c i o : Value) (H : Ht) : Prop where
  r : Rv w r H.regs
  c : Rv w c H.csr
  i : Rv w i H.inn
  o : Rv w o H.out
theorem Hr.stay {w w' : World} {r c i o : Value} {H : Ht} (h : Hr w r c i o H) (b : Below w.heap.size w w') : Hr w' r c i o H := ⟨h.r.stay b, h.c.stay b, h.i.stay b, h.o.stay b⟩
theorem Hm.hr {w : World} {base : Nat} {r c i o : Value} {H : Ht} (h : Hm w base r c i o H) : Hr w r c i o H := ⟨h.r.rv, h.c.rv, h.i.rv, h.o.rv⟩
theorem Hr.mq {S : Nat → Prop} {w w' : World} {r c i o : Value} {H : Ht} (h : Hr w r c i o H) (m : Mq S w w') (hn : ∀ k, Own4 r c i o k → k < w.heap.size → ¬ S k) : Hr w' r c i o H :=
  ⟨h.r.mq m fun k e => hn k (.inl e), h.c.mq m fun k e => hn k (.inr (.inl e)), h.i.mq m fun k e => hn k (.inr (.inr (.inl e))), h.o.mq m fun k e => hn k (.inr (.inr (.inr e)))⟩

set_option maxHeartbeats 1000000 in
theorem eq_rn (v u : Value) (zs : List Int) (w : World) (h : Rv w v zs) (k : Rv w u zs) :
    Calls Tryz.prog 11 #[v, u] w fun e w' => e = .returned (.bool true) ∧ Below w.heap.size w w' := by
  obtain ⟨a, cap, rfl, h1⟩ := h
  obtain ⟨a', cap', rfl, k1⟩ := k
  have hl : (zs.length : Int) ≤ 9223372036854775807 := by have := h1.cap; unfold maxLen at this; omega
  have HZ : Hid (Rn w a zs.length cap zs) := h1
  have KZ : Hid (Rn w a' zs.length cap' zs) := k1
  clear h1 k1
  obtain ⟨n, hn⟩ : ∃ n, zs.length = n := ⟨_, rfl⟩
  rw [hn] at HZ KZ hl ⊢
  clear hn
  go_enter Tryz.func11, Tryz.ntmps11
  go_wp2_with fail
  go_loopw [5] (fun i wr => ∃ j : Nat, j ≤ n ∧ i = .int .i64 j ∧ Below w.heap.size w wr) (fun i _ => n - (intOf i).toNat)
  case atStart => exact ⟨0, Nat.zero_le _, rfl, Below.refl _ _⟩
  case round =>
    obtain ⟨j, hj, rfl, hB⟩ := hrel
    have HB : Hid (Below _ _ _) := hB
    by_cases hlt : j < n
    · obtain ⟨x, rfl, c1⟩ := HZ.out.at j hlt
      obtain ⟨y, rfl, c2⟩ := KZ.out.at j hlt
      have c1' := cell_keep hB c1
      have c2' := cell_keep hB c2
      have hI : (j : Int) < (n : Int) := by omega
      have HL : Hid (j < n) := hlt
      clear hB hlt c1 c2
      go_wp2_with fail
      go_quiet (fail)
      go_wp2_with fail
      go_roundw
      case rel => exact ⟨j + 1, by have := HL.out; omega, by go_num, dr HB.out _⟩
      case measure => have := HL.out; simp [intOf]; omega
    · have hI : ¬ (j : Int) < (n : Int) := by omega
      clear hB
      go_wp2_with fail
      go_ret
      exact ⟨rfl, HB.out⟩
end Go.Proofs.YtbegbphbcjoglaaGreatDoor
