/- Texts of this seat, joined. -/
import Derived.Test.YtimcoobhakfnaaaGreatDoorQ39
namespace Go.Proofs.YtimcoobhakfnaaaGreatDoor
open Go.RowKit
set_option linter.unusedVariables false

def brV (t : Bool) (x y : Int) : Int := if t then x else y
theorem r_brV {w : World} {base q : Nat} {i o : Value} {pg pc : Nat} {ps : List (Int × Int)} {g p : Nat} {zs : List Int} {X : Nat → Prop} {H : Ht} {ca ri : Int} (R : Rw w base q i o pg pc ps g p zs H ca ri X) (t : Bool) (f n : Int) :
    Calls Tryz.prog 112 #[.pointer (some ⟨q, 0, none⟩), .bool t, .int .i64 f, .int .i64 n] w fun e w' => e = .returned (.int .i64 (brV t (addV H.pc f) n)) ∧ Below w.heap.size w w' := r_branch R t f n
set_option maxRecDepth 20000 in
set_option maxHeartbeats 4000000 in
theorem do_ifSame {w : World} {base q : Nat} {i o : Value} {pg pc : Nat} {ps : List (Int × Int)} {g p : Nat} {zs : List Int} {X : Nat → Prop} {H : Ht} {ca ri : Int} (R : Rw w base q i o pg pc ps g p zs H ca ri X) (op : Int) (d a : Nat) (im : Int) (hd : d < 16) (ha : a < 16) :
    Calls Tryz.prog 85 #[.pointer (some ⟨q, 0, none⟩), .iface 156 (.agg #[.int .i64 op, .int .i64 (d : Int), .int .i64 (a : Int), .int .i64 im])] w fun e w' => e = .returned (.int .i64 (brV (gt H.regs d == gt H.regs a) (addV H.pc (offV im)) (addV H.pc 1))) ∧ Rw w' base q i o pg pc ps g p zs H ca ri X ∧ Below base w w' := by
  have HR : Hid (Rw w base q i o pg pc ps g p zs H ca ri X) := R
  have c16 : w.cell? ⟨q, 16, none⟩ = some (.int .i64 H.pc) := R.v.cell 16 rfl
  have hm := meth_ifSame (.int .i64 op) (.int .i64 (d : Int)) (.int .i64 (a : Int)) (.int .i64 im)
  have as_reckons : ∀ w, (Instr.typeAssert (.iface 156 (.agg #[.int .i64 op, .int .i64 (d : Int), .int .i64 (a : Int), .int .i64 im])) 124 151 true).run Tryz.prog w = .ok (.tuple #[.agg #[.int .i64 0, .int .i64 0, .int .i64 0, .int .i64 0], .bool false]) w := fun w => by kernel_rfl
  have as_adds : ∀ w, (Instr.typeAssert (.iface 156 (.agg #[.int .i64 op, .int .i64 (d : Int), .int .i64 (a : Int), .int .i64 im])) 124 152 true).run Tryz.prog w = .ok (.tuple #[.agg #[.int .i64 0, .int .i64 0, .int .i64 0, .int .i64 0], .bool false]) w := fun w => by kernel_rfl
  have as_lifts : ∀ w, (Instr.typeAssert (.iface 156 (.agg #[.int .i64 op, .int .i64 (d : Int), .int .i64 (a : Int), .int .i64 im])) 124 153 true).run Tryz.prog w = .ok (.tuple #[.agg #[.int .i64 0, .int .i64 0, .int .i64 0, .int .i64 0], .bool false]) w := fun w => by kernel_rfl
  have as_loads : ∀ w, (Instr.typeAssert (.iface 156 (.agg #[.int .i64 op, .int .i64 (d : Int), .int .i64 (a : Int), .int .i64 im])) 124 154 true).run Tryz.prog w = .ok (.tuple #[.agg #[.int .i64 0, .int .i64 0, .int .i64 0, .int .i64 0], .bool false]) w := fun w => by kernel_rfl
  have as_stores : ∀ w, (Instr.typeAssert (.iface 156 (.agg #[.int .i64 op, .int .i64 (d : Int), .int .i64 (a : Int), .int .i64 im])) 124 155 true).run Tryz.prog w = .ok (.tuple #[.agg #[.int .i64 0, .int .i64 0, .int .i64 0, .int .i64 0], .bool false]) w := fun w => by kernel_rfl
  have as_ifSame : ∀ w, (Instr.typeAssert (.iface 156 (.agg #[.int .i64 op, .int .i64 (d : Int), .int .i64 (a : Int), .int .i64 im])) 124 156 true).run Tryz.prog w = .ok (.tuple #[.agg #[.int .i64 op, .int .i64 (d : Int), .int .i64 (a : Int), .int .i64 im], .bool true]) w := fun w => by kernel_rfl
  have Rd : Hid (d < 16) := hd
  have Id : Hid ((d : Int) < 16) := by show _ < _; omega
  have Ra : Hid (a < 16) := ha
  have Ia : Hid ((a : Int) < 16) := by show _ < _; omega
  clear R
  go_enter Tryz.func85, Tryz.ntmps85
  go_wp2_with (go_at_call 107; refine (impl_add _ _ _).mono ?_; rintro e y ⟨rfl, hy⟩; rw [hy]; clear hy y)
  refine (i_off _ _ _ im w).mono ?_
  rintro e w1 ⟨rfl, b1⟩
  clear hm c16
  go_upto_region 20 with fail
  clear as_reckons as_adds as_lifts as_loads as_stores as_ifSame
  generalize hW : w1.alloc (.cells #[.int .i64 op, .int .i64 (d : Int), .int .i64 (a : Int), .int .i64 im] 156) = W1
  obtain ⟨n, hn⟩ : ∃ n, w1.heap.size = n := ⟨_, rfl⟩
  rw [hn]
  have VN : Hid (Vb W1 n #[.int .i64 op, .int .i64 (d : Int), .int .i64 (a : Int), .int .i64 im] 156) := by show Vb _ _ _ _; rw [← hW, ← hn]; exact Vb.new _ _ _
  have bb : Below w.heap.size w W1 := by rw [← hW]; exact al b1 _
  have R1 : Hid (Rw W1 base q i o pg pc ps g p zs H ca ri X) := HR.out.keep bb
  have B1 : Hid (Below base w W1) := bless bb HR.out.size
  have QN : Hid (n ≠ q ∧ n ≠ g ∧ ∀ k, o.ownBlock = some k → n ≠ k) := by
    have hs : w.heap.size ≤ n := by rw [← hn]; exact b1.size
    obtain ⟨bo, _, _, ho, _⟩ := HR.out.ho
    exact ⟨by have := HR.out.v.lt; omega, by have := (World.ownsRow.lt HR.out.pgs g rfl).2; omega, fun k e => by have := (ho.lt k e).2; omega⟩
  clear hW hn b1 bb
  have S0 : Hid (Vb W1.drew n #[.int .i64 op, .int .i64 (d : Int), .int .i64 (a : Int), .int .i64 im] 156 ∧ W1.drew.cell? ⟨q, d, none⟩ = some (.int .i64 (gt H.regs d)) ∧ W1.drew.cell? ⟨q, a, none⟩ = some (.int .i64 (gt H.regs a))) := ⟨VN.out, (R1.out.v.cell d (mcr_reg_at _ _ _ _ _ _ _ d Rd.out) : W1.cell? ⟨q, d, none⟩ = _), (R1.out.v.cell a (mcr_reg_at _ _ _ _ _ _ _ a Ra.out) : W1.cell? ⟨q, a, none⟩ = _)⟩
  have R0 : Hid (Rw W1.drew base q i o pg pc ps g p zs H ca ri X) := R1.out.keep (Below.refl _ _).drew
  have B0 : Hid (Below base w W1.drew) := B1.out.drew
  refine wp_region_held (S := fun w' => Vb w' n #[.int .i64 op, .int .i64 (d : Int), .int .i64 (a : Int), .int .i64 im] 156 ∧ w'.cell? ⟨q, d, none⟩ = some (.int .i64 (gt H.regs d)) ∧ w'.cell? ⟨q, a, none⟩ = some (.int .i64 (gt H.regs a))) (by kernel_rfl) ?_
  change wpAnyH _ _ _ _ _ _ _ _ (World.drew _)
  generalize W1.drew = x0 at *
  refine tk (i := 0) (v := .pointer (some ⟨q, 0, none⟩)) rfl (Or.inl ⟨by rfl, fun w' hs => by go_simp⟩) S0.out ?_
  change wpAnyH _ _ _ _ _ _ _ (Act.put _ (some 163) _) _
  simp only [Act.put, List.setIfInBounds_toArray, List.set_cons_zero, List.set_cons_succ]
  refine tk (i := 1) (v := .pointer (some ⟨q, 0, none⟩)) rfl (Or.inl ⟨by rfl, fun w' hs => by go_simp⟩) S0.out ?_
  change wpAnyH _ _ _ _ _ _ _ (Act.put _ (some 164) _) _
  simp only [Act.put, List.setIfInBounds_toArray, List.set_cons_zero, List.set_cons_succ]
  refine tk (i := 2) (v := .pointer (some ⟨n, 0, none⟩)) rfl (Or.inl ⟨by rfl, fun w' hs => by go_simp⟩) S0.out ?_
  change wpAnyH _ _ _ _ _ _ _ (Act.put _ (some 165) _) _
  simp only [Act.put, List.setIfInBounds_toArray, List.set_cons_zero, List.set_cons_succ]
  refine tk (i := 3) (v := .pointer (some ⟨n, 0, none⟩)) rfl (Or.inl ⟨by rfl, fun w' hs => by go_simp⟩) S0.out ?_
  change wpAnyH _ _ _ _ _ _ _ (Act.put _ (some 166) _) _
  simp only [Act.put, List.setIfInBounds_toArray, List.set_cons_zero, List.set_cons_succ]
  refine tk (i := 4) (v := .pointer (some ⟨n, 1, none⟩)) rfl (Or.inl ⟨by rfl, fun w' hs => by go_simp⟩) S0.out ?_
  change wpAnyH _ _ _ _ _ _ _ (Act.put _ (some 167) _) _
  simp only [Act.put, List.setIfInBounds_toArray, List.set_cons_zero, List.set_cons_succ]
  refine tk (i := 5) (v := .int .i64 (d : Int)) rfl (Or.inl ⟨by rfl, fun w' hs => by have hc := (hs.1.cell 1 rfl : w'.cell? ⟨n, 1, none⟩ = some (.int .i64 (d : Int))); go_simp⟩) S0.out ?_
  change wpAnyH _ _ _ _ _ _ _ (Act.put _ (some 168) _) _
  simp only [Act.put, List.setIfInBounds_toArray, List.set_cons_zero, List.set_cons_succ]
  refine tk (i := 6) (v := .pointer (some ⟨q, 0, none⟩)) rfl (Or.inl ⟨by rfl, fun w' hs => by go_simp⟩) S0.out ?_
  change wpAnyH _ _ _ _ _ _ _ (Act.put _ (some 169) _) _
  simp only [Act.put, List.setIfInBounds_toArray, List.set_cons_zero, List.set_cons_succ]
  refine tk (i := 7) (v := .pointer (some ⟨q, 0, none⟩)) rfl (Or.inl ⟨by rfl, fun w' hs => by go_simp⟩) S0.out ?_
  change wpAnyH _ _ _ _ _ _ _ (Act.put _ (some 170) _) _
  simp only [Act.put, List.setIfInBounds_toArray, List.set_cons_zero, List.set_cons_succ]
  refine tk (i := 8) (v := .pointer (some ⟨q, 0, none⟩)) rfl (Or.inl ⟨by rfl, fun w' hs => by go_simp⟩) S0.out ?_
  change wpAnyH _ _ _ _ _ _ _ (Act.put _ (some 171) _) _
  simp only [Act.put, List.setIfInBounds_toArray, List.set_cons_zero, List.set_cons_succ]
  refine tk (i := 9) (v := .pointer (some ⟨q, 0, none⟩)) rfl (Or.inl ⟨by rfl, fun w' hs => by go_simp⟩) S0.out ?_
  change wpAnyH _ _ _ _ _ _ _ (Act.put _ (some 172) _) _
  simp only [Act.put, List.setIfInBounds_toArray, List.set_cons_zero, List.set_cons_succ]
  refine tk (i := 10) (v := .pointer (some ⟨q, d, none⟩)) rfl (Or.inl ⟨by rfl, fun w' hs => by have h1 := Id.out; have h2 := Rd.out; go_simp⟩) S0.out ?_
  change wpAnyH _ _ _ _ _ _ _ (Act.put _ (some 173) _) _
  simp only [Act.put, List.setIfInBounds_toArray, List.set_cons_zero, List.set_cons_succ]
  refine tk (i := 11) (v := .int .i64 (gt H.regs d)) rfl (Or.inl ⟨by rfl, fun w' hs => by have hc := hs.2.1; go_simp⟩) S0.out ?_
  change wpAnyH _ _ _ _ _ _ _ (Act.put _ (some 174) _) _
  simp only [Act.put, List.setIfInBounds_toArray, List.set_cons_zero, List.set_cons_succ]
  refine tk (i := 12) (v := .pointer (some ⟨q, 0, none⟩)) rfl (Or.inl ⟨by rfl, fun w' hs => by go_simp⟩) S0.out ?_
  change wpAnyH _ _ _ _ _ _ _ (Act.put _ (some 175) _) _
  simp only [Act.put, List.setIfInBounds_toArray, List.set_cons_zero, List.set_cons_succ]
  refine tk (i := 13) (v := .pointer (some ⟨n, 0, none⟩)) rfl (Or.inl ⟨by rfl, fun w' hs => by go_simp⟩) S0.out ?_
  change wpAnyH _ _ _ _ _ _ _ (Act.put _ (some 176) _) _
  simp only [Act.put, List.setIfInBounds_toArray, List.set_cons_zero, List.set_cons_succ]
  refine tk (i := 14) (v := .pointer (some ⟨n, 0, none⟩)) rfl (Or.inl ⟨by rfl, fun w' hs => by go_simp⟩) S0.out ?_
  change wpAnyH _ _ _ _ _ _ _ (Act.put _ (some 177) _) _
  simp only [Act.put, List.setIfInBounds_toArray, List.set_cons_zero, List.set_cons_succ]
  refine tk (i := 15) (v := .pointer (some ⟨n, 2, none⟩)) rfl (Or.inl ⟨by rfl, fun w' hs => by go_simp⟩) S0.out ?_
  change wpAnyH _ _ _ _ _ _ _ (Act.put _ (some 178) _) _
  simp only [Act.put, List.setIfInBounds_toArray, List.set_cons_zero, List.set_cons_succ]
  refine tk (i := 16) (v := .int .i64 (a : Int)) rfl (Or.inl ⟨by rfl, fun w' hs => by have hc := (hs.1.cell 2 rfl : w'.cell? ⟨n, 2, none⟩ = some (.int .i64 (a : Int))); go_simp⟩) S0.out ?_
  change wpAnyH _ _ _ _ _ _ _ (Act.put _ (some 179) _) _
  simp only [Act.put, List.setIfInBounds_toArray, List.set_cons_zero, List.set_cons_succ]
  refine tk (i := 17) (v := .pointer (some ⟨q, 0, none⟩)) rfl (Or.inl ⟨by rfl, fun w' hs => by go_simp⟩) S0.out ?_
  change wpAnyH _ _ _ _ _ _ _ (Act.put _ (some 180) _) _
  simp only [Act.put, List.setIfInBounds_toArray, List.set_cons_zero, List.set_cons_succ]
  refine tk (i := 18) (v := .pointer (some ⟨q, 0, none⟩)) rfl (Or.inl ⟨by rfl, fun w' hs => by go_simp⟩) S0.out ?_
  change wpAnyH _ _ _ _ _ _ _ (Act.put _ (some 181) _) _
  simp only [Act.put, List.setIfInBounds_toArray, List.set_cons_zero, List.set_cons_succ]
  refine tk (i := 19) (v := .pointer (some ⟨q, 0, none⟩)) rfl (Or.inl ⟨by rfl, fun w' hs => by go_simp⟩) S0.out ?_
  change wpAnyH _ _ _ _ _ _ _ (Act.put _ (some 182) _) _
  simp only [Act.put, List.setIfInBounds_toArray, List.set_cons_zero, List.set_cons_succ]
  refine tk (i := 20) (v := .pointer (some ⟨q, 0, none⟩)) rfl (Or.inl ⟨by rfl, fun w' hs => by go_simp⟩) S0.out ?_
  change wpAnyH _ _ _ _ _ _ _ (Act.put _ (some 183) _) _
  simp only [Act.put, List.setIfInBounds_toArray, List.set_cons_zero, List.set_cons_succ]
  refine tk (i := 21) (v := .pointer (some ⟨q, a, none⟩)) rfl (Or.inl ⟨by rfl, fun w' hs => by have h1 := Ia.out; have h2 := Ra.out; go_simp⟩) S0.out ?_
  change wpAnyH _ _ _ _ _ _ _ (Act.put _ (some 184) _) _
  simp only [Act.put, List.setIfInBounds_toArray, List.set_cons_zero, List.set_cons_succ]
  refine tk (i := 22) (v := .int .i64 (gt H.regs a)) rfl (Or.inl ⟨by rfl, fun w' hs => by have hc := hs.2.2; go_simp⟩) S0.out ?_
  change wpAnyH _ _ _ _ _ _ _ (Act.put _ (some 185) _) _
  simp only [Act.put, List.setIfInBounds_toArray, List.set_cons_zero, List.set_cons_succ]
  refine tk (i := 23) (v := .bool (gt H.regs d == gt H.regs a)) rfl (Or.inl ⟨by rfl, fun w' hs => by go_simp⟩) S0.out ?_
  change wpAnyH _ _ _ _ _ _ _ (Act.put _ (some 186) _) _
  simp only [Act.put, List.setIfInBounds_toArray, List.set_cons_zero, List.set_cons_succ]
  refine tk (i := 24) (v := .int .i64 (offV im)) rfl (Or.inl ⟨by rfl, fun w' hs => by go_simp⟩) S0.out ?_
  change wpAnyH _ _ _ _ _ _ _ (Act.put _ (some 187) _) _
  simp only [Act.put, List.setIfInBounds_toArray, List.set_cons_zero, List.set_cons_succ]
  refine tk (i := 25) (v := .int .i64 (addV H.pc 1)) rfl (Or.inl ⟨by rfl, fun w' hs => by go_simp⟩) S0.out ?_
  change wpAnyH _ _ _ _ _ _ _ (Act.put _ (some 188) _) _
  simp only [Act.put, List.setIfInBounds_toArray, List.set_cons_zero, List.set_cons_succ]
  refine wpAnyH_ready (rs := [26]) (by kernel_rfl) (by simp) ?_
  refine AllReadyH.cons rfl (fun K hK => ?_) AllReadyH.nil
  rw [if_pos (by rfl)]
  go_simp
  refine (r_brV R0.out (gt H.regs d == gt H.regs a) (offV im) (addV H.pc 1)).mono ?_
  rintro e x1 ⟨rfl, b2⟩
  have R1 : Hid (Rw x1 base q i o pg pc ps g p zs H ca ri X) := R0.out.keep b2
  have B1 : Hid (Below base w x1) := B0.out.trans (bless b2 R0.out.size)
  have S1 : Hid (Vb x1 n #[.int .i64 op, .int .i64 (d : Int), .int .i64 (a : Int), .int .i64 im] 156 ∧ x1.cell? ⟨q, d, none⟩ = some (.int .i64 (gt H.regs d)) ∧ x1.cell? ⟨q, a, none⟩ = some (.int .i64 (gt H.regs a))) := ⟨S0.out.1.keep b2, cell_keep b2 S0.out.2.1, cell_keep b2 S0.out.2.2⟩
  clear b2
  refine hK.out _ _ S1.out (fun _ => ?_)
  clear hK K
  refine tk (i := 27) (v := .int .i64 (brV (gt H.regs d == gt H.regs a) (addV H.pc (offV im)) (addV H.pc 1))) rfl (Or.inl ⟨by rfl, fun w' hs => by go_simp⟩) S1.out ?_
  change wpAnyH _ _ _ _ _ _ _ (Act.put _ (some 4) _) _
  simp only [Act.put, List.setIfInBounds_toArray, List.set_cons_zero, List.set_cons_succ]
  refine wpAnyH_done (by kernel_rfl) ?_ _
  go_wp2_with fail
  go_ret
  exact ⟨rfl, R1.out, B1.out⟩
set_option maxRecDepth 20000 in
set_option maxHeartbeats 4000000 in
theorem do_ifOther {w : World} {base q : Nat} {i o : Value} {pg pc : Nat} {ps : List (Int × Int)} {g p : Nat} {zs : List Int} {X : Nat → Prop} {H : Ht} {ca ri : Int} (R : Rw w base q i o pg pc ps g p zs H ca ri X) (op : Int) (d a : Nat) (im : Int) (hd : d < 16) (ha : a < 16) :
    Calls Tryz.prog 85 #[.pointer (some ⟨q, 0, none⟩), .iface 158 (.agg #[.int .i64 op, .int .i64 (d : Int), .int .i64 (a : Int), .int .i64 im])] w fun e w' => e = .returned (.int .i64 (brV (gt H.regs d != gt H.regs a) (addV H.pc (offV im)) (addV H.pc 1))) ∧ Rw w' base q i o pg pc ps g p zs H ca ri X ∧ Below base w w' := by
  have HR : Hid (Rw w base q i o pg pc ps g p zs H ca ri X) := R
  have c16 : w.cell? ⟨q, 16, none⟩ = some (.int .i64 H.pc) := R.v.cell 16 rfl
  have hm := meth_ifOther (.int .i64 op) (.int .i64 (d : Int)) (.int .i64 (a : Int)) (.int .i64 im)
  have as_reckons : ∀ w, (Instr.typeAssert (.iface 158 (.agg #[.int .i64 op, .int .i64 (d : Int), .int .i64 (a : Int), .int .i64 im])) 124 151 true).run Tryz.prog w = .ok (.tuple #[.agg #[.int .i64 0, .int .i64 0, .int .i64 0, .int .i64 0], .bool false]) w := fun w => by kernel_rfl
  have as_adds : ∀ w, (Instr.typeAssert (.iface 158 (.agg #[.int .i64 op, .int .i64 (d : Int), .int .i64 (a : Int), .int .i64 im])) 124 152 true).run Tryz.prog w = .ok (.tuple #[.agg #[.int .i64 0, .int .i64 0, .int .i64 0, .int .i64 0], .bool false]) w := fun w => by kernel_rfl
  have as_lifts : ∀ w, (Instr.typeAssert (.iface 158 (.agg #[.int .i64 op, .int .i64 (d : Int), .int .i64 (a : Int), .int .i64 im])) 124 153 true).run Tryz.prog w = .ok (.tuple #[.agg #[.int .i64 0, .int .i64 0, .int .i64 0, .int .i64 0], .bool false]) w := fun w => by kernel_rfl
  have as_loads : ∀ w, (Instr.typeAssert (.iface 158 (.agg #[.int .i64 op, .int .i64 (d : Int), .int .i64 (a : Int), .int .i64 im])) 124 154 true).run Tryz.prog w = .ok (.tuple #[.agg #[.int .i64 0, .int .i64 0, .int .i64 0, .int .i64 0], .bool false]) w := fun w => by kernel_rfl
  have as_stores : ∀ w, (Instr.typeAssert (.iface 158 (.agg #[.int .i64 op, .int .i64 (d : Int), .int .i64 (a : Int), .int .i64 im])) 124 155 true).run Tryz.prog w = .ok (.tuple #[.agg #[.int .i64 0, .int .i64 0, .int .i64 0, .int .i64 0], .bool false]) w := fun w => by kernel_rfl
  have as_ifSame : ∀ w, (Instr.typeAssert (.iface 158 (.agg #[.int .i64 op, .int .i64 (d : Int), .int .i64 (a : Int), .int .i64 im])) 124 156 true).run Tryz.prog w = .ok (.tuple #[.agg #[.int .i64 0, .int .i64 0, .int .i64 0, .int .i64 0], .bool false]) w := fun w => by kernel_rfl
  have as_ifOther : ∀ w, (Instr.typeAssert (.iface 158 (.agg #[.int .i64 op, .int .i64 (d : Int), .int .i64 (a : Int), .int .i64 im])) 124 158 true).run Tryz.prog w = .ok (.tuple #[.agg #[.int .i64 op, .int .i64 (d : Int), .int .i64 (a : Int), .int .i64 im], .bool true]) w := fun w => by kernel_rfl
  have Rd : Hid (d < 16) := hd
  have Id : Hid ((d : Int) < 16) := by show _ < _; omega
  have Ra : Hid (a < 16) := ha
  have Ia : Hid ((a : Int) < 16) := by show _ < _; omega
  clear R
  go_enter Tryz.func85, Tryz.ntmps85
  go_wp2_with (go_at_call 107; refine (impl_add _ _ _).mono ?_; rintro e y ⟨rfl, hy⟩; rw [hy]; clear hy y)
  refine (i_off _ _ _ im w).mono ?_
  rintro e w1 ⟨rfl, b1⟩
  clear hm c16
  go_upto_region 23 with fail
  clear as_reckons as_adds as_lifts as_loads as_stores as_ifSame as_ifOther
  generalize hW : w1.alloc (.cells #[.int .i64 op, .int .i64 (d : Int), .int .i64 (a : Int), .int .i64 im] 158) = W1
  obtain ⟨n, hn⟩ : ∃ n, w1.heap.size = n := ⟨_, rfl⟩
  rw [hn]
  have VN : Hid (Vb W1 n #[.int .i64 op, .int .i64 (d : Int), .int .i64 (a : Int), .int .i64 im] 158) := by show Vb _ _ _ _; rw [← hW, ← hn]; exact Vb.new _ _ _
  have bb : Below w.heap.size w W1 := by rw [← hW]; exact al b1 _
  have R1 : Hid (Rw W1 base q i o pg pc ps g p zs H ca ri X) := HR.out.keep bb
  have B1 : Hid (Below base w W1) := bless bb HR.out.size
  have QN : Hid (n ≠ q ∧ n ≠ g ∧ ∀ k, o.ownBlock = some k → n ≠ k) := by
    have hs : w.heap.size ≤ n := by rw [← hn]; exact b1.size
    obtain ⟨bo, _, _, ho, _⟩ := HR.out.ho
    exact ⟨by have := HR.out.v.lt; omega, by have := (World.ownsRow.lt HR.out.pgs g rfl).2; omega, fun k e => by have := (ho.lt k e).2; omega⟩
  clear hW hn b1 bb
  have S0 : Hid (Vb W1.drew n #[.int .i64 op, .int .i64 (d : Int), .int .i64 (a : Int), .int .i64 im] 158 ∧ W1.drew.cell? ⟨q, d, none⟩ = some (.int .i64 (gt H.regs d)) ∧ W1.drew.cell? ⟨q, a, none⟩ = some (.int .i64 (gt H.regs a))) := ⟨VN.out, (R1.out.v.cell d (mcr_reg_at _ _ _ _ _ _ _ d Rd.out) : W1.cell? ⟨q, d, none⟩ = _), (R1.out.v.cell a (mcr_reg_at _ _ _ _ _ _ _ a Ra.out) : W1.cell? ⟨q, a, none⟩ = _)⟩
  have R0 : Hid (Rw W1.drew base q i o pg pc ps g p zs H ca ri X) := R1.out.keep (Below.refl _ _).drew
  have B0 : Hid (Below base w W1.drew) := B1.out.drew
  refine wp_region_held (S := fun w' => Vb w' n #[.int .i64 op, .int .i64 (d : Int), .int .i64 (a : Int), .int .i64 im] 158 ∧ w'.cell? ⟨q, d, none⟩ = some (.int .i64 (gt H.regs d)) ∧ w'.cell? ⟨q, a, none⟩ = some (.int .i64 (gt H.regs a))) (by kernel_rfl) ?_
  change wpAnyH _ _ _ _ _ _ _ _ (World.drew _)
  generalize W1.drew = x0 at *
  refine tk (i := 0) (v := .pointer (some ⟨q, 0, none⟩)) rfl (Or.inl ⟨by rfl, fun w' hs => by go_simp⟩) S0.out ?_
  change wpAnyH _ _ _ _ _ _ _ (Act.put _ (some 193) _) _
  simp only [Act.put, List.setIfInBounds_toArray, List.set_cons_zero, List.set_cons_succ]
  refine tk (i := 1) (v := .pointer (some ⟨q, 0, none⟩)) rfl (Or.inl ⟨by rfl, fun w' hs => by go_simp⟩) S0.out ?_
  change wpAnyH _ _ _ _ _ _ _ (Act.put _ (some 194) _) _
  simp only [Act.put, List.setIfInBounds_toArray, List.set_cons_zero, List.set_cons_succ]
  refine tk (i := 2) (v := .pointer (some ⟨n, 0, none⟩)) rfl (Or.inl ⟨by rfl, fun w' hs => by go_simp⟩) S0.out ?_
  change wpAnyH _ _ _ _ _ _ _ (Act.put _ (some 195) _) _
  simp only [Act.put, List.setIfInBounds_toArray, List.set_cons_zero, List.set_cons_succ]
  refine tk (i := 3) (v := .pointer (some ⟨n, 0, none⟩)) rfl (Or.inl ⟨by rfl, fun w' hs => by go_simp⟩) S0.out ?_
  change wpAnyH _ _ _ _ _ _ _ (Act.put _ (some 196) _) _
  simp only [Act.put, List.setIfInBounds_toArray, List.set_cons_zero, List.set_cons_succ]
  refine tk (i := 4) (v := .pointer (some ⟨n, 1, none⟩)) rfl (Or.inl ⟨by rfl, fun w' hs => by go_simp⟩) S0.out ?_
  change wpAnyH _ _ _ _ _ _ _ (Act.put _ (some 197) _) _
  simp only [Act.put, List.setIfInBounds_toArray, List.set_cons_zero, List.set_cons_succ]
  refine tk (i := 5) (v := .int .i64 (d : Int)) rfl (Or.inl ⟨by rfl, fun w' hs => by have hc := (hs.1.cell 1 rfl : w'.cell? ⟨n, 1, none⟩ = some (.int .i64 (d : Int))); go_simp⟩) S0.out ?_
  change wpAnyH _ _ _ _ _ _ _ (Act.put _ (some 198) _) _
  simp only [Act.put, List.setIfInBounds_toArray, List.set_cons_zero, List.set_cons_succ]
  refine tk (i := 6) (v := .pointer (some ⟨q, 0, none⟩)) rfl (Or.inl ⟨by rfl, fun w' hs => by go_simp⟩) S0.out ?_
  change wpAnyH _ _ _ _ _ _ _ (Act.put _ (some 199) _) _
  simp only [Act.put, List.setIfInBounds_toArray, List.set_cons_zero, List.set_cons_succ]
  refine tk (i := 7) (v := .pointer (some ⟨q, 0, none⟩)) rfl (Or.inl ⟨by rfl, fun w' hs => by go_simp⟩) S0.out ?_
  change wpAnyH _ _ _ _ _ _ _ (Act.put _ (some 200) _) _
  simp only [Act.put, List.setIfInBounds_toArray, List.set_cons_zero, List.set_cons_succ]
  refine tk (i := 8) (v := .pointer (some ⟨q, 0, none⟩)) rfl (Or.inl ⟨by rfl, fun w' hs => by go_simp⟩) S0.out ?_
  change wpAnyH _ _ _ _ _ _ _ (Act.put _ (some 201) _) _
  simp only [Act.put, List.setIfInBounds_toArray, List.set_cons_zero, List.set_cons_succ]
  refine tk (i := 9) (v := .pointer (some ⟨q, 0, none⟩)) rfl (Or.inl ⟨by rfl, fun w' hs => by go_simp⟩) S0.out ?_
  change wpAnyH _ _ _ _ _ _ _ (Act.put _ (some 202) _) _
  simp only [Act.put, List.setIfInBounds_toArray, List.set_cons_zero, List.set_cons_succ]
  refine tk (i := 10) (v := .pointer (some ⟨q, d, none⟩)) rfl (Or.inl ⟨by rfl, fun w' hs => by have h1 := Id.out; have h2 := Rd.out; go_simp⟩) S0.out ?_
  change wpAnyH _ _ _ _ _ _ _ (Act.put _ (some 203) _) _
  simp only [Act.put, List.setIfInBounds_toArray, List.set_cons_zero, List.set_cons_succ]
  refine tk (i := 11) (v := .int .i64 (gt H.regs d)) rfl (Or.inl ⟨by rfl, fun w' hs => by have hc := hs.2.1; go_simp⟩) S0.out ?_
  change wpAnyH _ _ _ _ _ _ _ (Act.put _ (some 204) _) _
  simp only [Act.put, List.setIfInBounds_toArray, List.set_cons_zero, List.set_cons_succ]
  refine tk (i := 12) (v := .pointer (some ⟨q, 0, none⟩)) rfl (Or.inl ⟨by rfl, fun w' hs => by go_simp⟩) S0.out ?_
  change wpAnyH _ _ _ _ _ _ _ (Act.put _ (some 205) _) _
  simp only [Act.put, List.setIfInBounds_toArray, List.set_cons_zero, List.set_cons_succ]
  refine tk (i := 13) (v := .pointer (some ⟨n, 0, none⟩)) rfl (Or.inl ⟨by rfl, fun w' hs => by go_simp⟩) S0.out ?_
  change wpAnyH _ _ _ _ _ _ _ (Act.put _ (some 206) _) _
  simp only [Act.put, List.setIfInBounds_toArray, List.set_cons_zero, List.set_cons_succ]
  refine tk (i := 14) (v := .pointer (some ⟨n, 0, none⟩)) rfl (Or.inl ⟨by rfl, fun w' hs => by go_simp⟩) S0.out ?_
  change wpAnyH _ _ _ _ _ _ _ (Act.put _ (some 207) _) _
  simp only [Act.put, List.setIfInBounds_toArray, List.set_cons_zero, List.set_cons_succ]
  refine tk (i := 15) (v := .pointer (some ⟨n, 2, none⟩)) rfl (Or.inl ⟨by rfl, fun w' hs => by go_simp⟩) S0.out ?_
  change wpAnyH _ _ _ _ _ _ _ (Act.put _ (some 208) _) _
  simp only [Act.put, List.setIfInBounds_toArray, List.set_cons_zero, List.set_cons_succ]
  refine tk (i := 16) (v := .int .i64 (a : Int)) rfl (Or.inl ⟨by rfl, fun w' hs => by have hc := (hs.1.cell 2 rfl : w'.cell? ⟨n, 2, none⟩ = some (.int .i64 (a : Int))); go_simp⟩) S0.out ?_
  change wpAnyH _ _ _ _ _ _ _ (Act.put _ (some 209) _) _
  simp only [Act.put, List.setIfInBounds_toArray, List.set_cons_zero, List.set_cons_succ]
  refine tk (i := 17) (v := .pointer (some ⟨q, 0, none⟩)) rfl (Or.inl ⟨by rfl, fun w' hs => by go_simp⟩) S0.out ?_
  change wpAnyH _ _ _ _ _ _ _ (Act.put _ (some 210) _) _
  simp only [Act.put, List.setIfInBounds_toArray, List.set_cons_zero, List.set_cons_succ]
  refine tk (i := 18) (v := .pointer (some ⟨q, 0, none⟩)) rfl (Or.inl ⟨by rfl, fun w' hs => by go_simp⟩) S0.out ?_
  change wpAnyH _ _ _ _ _ _ _ (Act.put _ (some 211) _) _
  simp only [Act.put, List.setIfInBounds_toArray, List.set_cons_zero, List.set_cons_succ]
  refine tk (i := 19) (v := .pointer (some ⟨q, 0, none⟩)) rfl (Or.inl ⟨by rfl, fun w' hs => by go_simp⟩) S0.out ?_
  change wpAnyH _ _ _ _ _ _ _ (Act.put _ (some 212) _) _
  simp only [Act.put, List.setIfInBounds_toArray, List.set_cons_zero, List.set_cons_succ]
  refine tk (i := 20) (v := .pointer (some ⟨q, 0, none⟩)) rfl (Or.inl ⟨by rfl, fun w' hs => by go_simp⟩) S0.out ?_
  change wpAnyH _ _ _ _ _ _ _ (Act.put _ (some 213) _) _
  simp only [Act.put, List.setIfInBounds_toArray, List.set_cons_zero, List.set_cons_succ]
  refine tk (i := 21) (v := .pointer (some ⟨q, a, none⟩)) rfl (Or.inl ⟨by rfl, fun w' hs => by have h1 := Ia.out; have h2 := Ra.out; go_simp⟩) S0.out ?_
  change wpAnyH _ _ _ _ _ _ _ (Act.put _ (some 214) _) _
  simp only [Act.put, List.setIfInBounds_toArray, List.set_cons_zero, List.set_cons_succ]
  refine tk (i := 22) (v := .int .i64 (gt H.regs a)) rfl (Or.inl ⟨by rfl, fun w' hs => by have hc := hs.2.2; go_simp⟩) S0.out ?_
  change wpAnyH _ _ _ _ _ _ _ (Act.put _ (some 215) _) _
  simp only [Act.put, List.setIfInBounds_toArray, List.set_cons_zero, List.set_cons_succ]
  refine tk (i := 23) (v := .bool (gt H.regs d != gt H.regs a)) rfl (Or.inl ⟨by rfl, fun w' hs => by go_simp⟩) S0.out ?_
  change wpAnyH _ _ _ _ _ _ _ (Act.put _ (some 216) _) _
  simp only [Act.put, List.setIfInBounds_toArray, List.set_cons_zero, List.set_cons_succ]
  refine tk (i := 24) (v := .int .i64 (offV im)) rfl (Or.inl ⟨by rfl, fun w' hs => by go_simp⟩) S0.out ?_
  change wpAnyH _ _ _ _ _ _ _ (Act.put _ (some 217) _) _
  simp only [Act.put, List.setIfInBounds_toArray, List.set_cons_zero, List.set_cons_succ]
  refine tk (i := 25) (v := .int .i64 (addV H.pc 1)) rfl (Or.inl ⟨by rfl, fun w' hs => by go_simp⟩) S0.out ?_
  change wpAnyH _ _ _ _ _ _ _ (Act.put _ (some 218) _) _
  simp only [Act.put, List.setIfInBounds_toArray, List.set_cons_zero, List.set_cons_succ]
  refine wpAnyH_ready (rs := [26]) (by kernel_rfl) (by simp) ?_
  refine AllReadyH.cons rfl (fun K hK => ?_) AllReadyH.nil
  rw [if_pos (by rfl)]
  go_simp
  refine (r_brV R0.out (gt H.regs d != gt H.regs a) (offV im) (addV H.pc 1)).mono ?_
  rintro e x1 ⟨rfl, b2⟩
  have R1 : Hid (Rw x1 base q i o pg pc ps g p zs H ca ri X) := R0.out.keep b2
  have B1 : Hid (Below base w x1) := B0.out.trans (bless b2 R0.out.size)
  have S1 : Hid (Vb x1 n #[.int .i64 op, .int .i64 (d : Int), .int .i64 (a : Int), .int .i64 im] 158 ∧ x1.cell? ⟨q, d, none⟩ = some (.int .i64 (gt H.regs d)) ∧ x1.cell? ⟨q, a, none⟩ = some (.int .i64 (gt H.regs a))) := ⟨S0.out.1.keep b2, cell_keep b2 S0.out.2.1, cell_keep b2 S0.out.2.2⟩
  clear b2
  refine hK.out _ _ S1.out (fun _ => ?_)
  clear hK K
  refine tk (i := 27) (v := .int .i64 (brV (gt H.regs d != gt H.regs a) (addV H.pc (offV im)) (addV H.pc 1))) rfl (Or.inl ⟨by rfl, fun w' hs => by go_simp⟩) S1.out ?_
  change wpAnyH _ _ _ _ _ _ _ (Act.put _ (some 4) _) _
  simp only [Act.put, List.setIfInBounds_toArray, List.set_cons_zero, List.set_cons_succ]
  refine wpAnyH_done (by kernel_rfl) ?_ _
  go_wp2_with fail
  go_ret
  exact ⟨rfl, R1.out, B1.out⟩
set_option maxRecDepth 20000 in
set_option maxHeartbeats 4000000 in
theorem do_ifLess {w : World} {base q : Nat} {i o : Value} {pg pc : Nat} {ps : List (Int × Int)} {g p : Nat} {zs : List Int} {X : Nat → Prop} {H : Ht} {ca ri : Int} (R : Rw w base q i o pg pc ps g p zs H ca ri X) (op : Int) (d a : Nat) (im : Int) (hd : d < 16) (ha : a < 16) :
    Calls Tryz.prog 85 #[.pointer (some ⟨q, 0, none⟩), .iface 159 (.agg #[.int .i64 op, .int .i64 (d : Int), .int .i64 (a : Int), .int .i64 im])] w fun e w' => e = .returned (.int .i64 (brV (decide (sgn (gt H.regs d) < sgn (gt H.regs a))) (addV H.pc (offV im)) (addV H.pc 1))) ∧ Rw w' base q i o pg pc ps g p zs H ca ri X ∧ Below base w w' := by
  have HR : Hid (Rw w base q i o pg pc ps g p zs H ca ri X) := R
  have c16 : w.cell? ⟨q, 16, none⟩ = some (.int .i64 H.pc) := R.v.cell 16 rfl
  have hm := meth_ifLess (.int .i64 op) (.int .i64 (d : Int)) (.int .i64 (a : Int)) (.int .i64 im)
  have as_reckons : ∀ w, (Instr.typeAssert (.iface 159 (.agg #[.int .i64 op, .int .i64 (d : Int), .int .i64 (a : Int), .int .i64 im])) 124 151 true).run Tryz.prog w = .ok (.tuple #[.agg #[.int .i64 0, .int .i64 0, .int .i64 0, .int .i64 0], .bool false]) w := fun w => by kernel_rfl
  have as_adds : ∀ w, (Instr.typeAssert (.iface 159 (.agg #[.int .i64 op, .int .i64 (d : Int), .int .i64 (a : Int), .int .i64 im])) 124 152 true).run Tryz.prog w = .ok (.tuple #[.agg #[.int .i64 0, .int .i64 0, .int .i64 0, .int .i64 0], .bool false]) w := fun w => by kernel_rfl
  have as_lifts : ∀ w, (Instr.typeAssert (.iface 159 (.agg #[.int .i64 op, .int .i64 (d : Int), .int .i64 (a : Int), .int .i64 im])) 124 153 true).run Tryz.prog w = .ok (.tuple #[.agg #[.int .i64 0, .int .i64 0, .int .i64 0, .int .i64 0], .bool false]) w := fun w => by kernel_rfl
  have as_loads : ∀ w, (Instr.typeAssert (.iface 159 (.agg #[.int .i64 op, .int .i64 (d : Int), .int .i64 (a : Int), .int .i64 im])) 124 154 true).run Tryz.prog w = .ok (.tuple #[.agg #[.int .i64 0, .int .i64 0, .int .i64 0, .int .i64 0], .bool false]) w := fun w => by kernel_rfl
  have as_stores : ∀ w, (Instr.typeAssert (.iface 159 (.agg #[.int .i64 op, .int .i64 (d : Int), .int .i64 (a : Int), .int .i64 im])) 124 155 true).run Tryz.prog w = .ok (.tuple #[.agg #[.int .i64 0, .int .i64 0, .int .i64 0, .int .i64 0], .bool false]) w := fun w => by kernel_rfl
  have as_ifSame : ∀ w, (Instr.typeAssert (.iface 159 (.agg #[.int .i64 op, .int .i64 (d : Int), .int .i64 (a : Int), .int .i64 im])) 124 156 true).run Tryz.prog w = .ok (.tuple #[.agg #[.int .i64 0, .int .i64 0, .int .i64 0, .int .i64 0], .bool false]) w := fun w => by kernel_rfl
  have as_ifOther : ∀ w, (Instr.typeAssert (.iface 159 (.agg #[.int .i64 op, .int .i64 (d : Int), .int .i64 (a : Int), .int .i64 im])) 124 158 true).run Tryz.prog w = .ok (.tuple #[.agg #[.int .i64 0, .int .i64 0, .int .i64 0, .int .i64 0], .bool false]) w := fun w => by kernel_rfl
  have as_ifLess : ∀ w, (Instr.typeAssert (.iface 159 (.agg #[.int .i64 op, .int .i64 (d : Int), .int .i64 (a : Int), .int .i64 im])) 124 159 true).run Tryz.prog w = .ok (.tuple #[.agg #[.int .i64 op, .int .i64 (d : Int), .int .i64 (a : Int), .int .i64 im], .bool true]) w := fun w => by kernel_rfl
  have Rd : Hid (d < 16) := hd
  have Id : Hid ((d : Int) < 16) := by show _ < _; omega
  have Ra : Hid (a < 16) := ha
  have Ia : Hid ((a : Int) < 16) := by show _ < _; omega
  clear R
  go_enter Tryz.func85, Tryz.ntmps85
  go_wp2_with (go_at_call 107; refine (impl_add _ _ _).mono ?_; rintro e y ⟨rfl, hy⟩; rw [hy]; clear hy y)
  refine (i_off _ _ _ im w).mono ?_
  rintro e w1 ⟨rfl, b1⟩
  clear hm c16
  go_upto_region 26 with fail
  clear as_reckons as_adds as_lifts as_loads as_stores as_ifSame as_ifOther as_ifLess
  generalize hW : w1.alloc (.cells #[.int .i64 op, .int .i64 (d : Int), .int .i64 (a : Int), .int .i64 im] 159) = W1
  obtain ⟨n, hn⟩ : ∃ n, w1.heap.size = n := ⟨_, rfl⟩
  rw [hn]
  have VN : Hid (Vb W1 n #[.int .i64 op, .int .i64 (d : Int), .int .i64 (a : Int), .int .i64 im] 159) := by show Vb _ _ _ _; rw [← hW, ← hn]; exact Vb.new _ _ _
  have bb : Below w.heap.size w W1 := by rw [← hW]; exact al b1 _
  have R1 : Hid (Rw W1 base q i o pg pc ps g p zs H ca ri X) := HR.out.keep bb
  have B1 : Hid (Below base w W1) := bless bb HR.out.size
  have QN : Hid (n ≠ q ∧ n ≠ g ∧ ∀ k, o.ownBlock = some k → n ≠ k) := by
    have hs : w.heap.size ≤ n := by rw [← hn]; exact b1.size
    obtain ⟨bo, _, _, ho, _⟩ := HR.out.ho
    exact ⟨by have := HR.out.v.lt; omega, by have := (World.ownsRow.lt HR.out.pgs g rfl).2; omega, fun k e => by have := (ho.lt k e).2; omega⟩
  clear hW hn b1 bb
  have S0 : Hid (Vb W1.drew n #[.int .i64 op, .int .i64 (d : Int), .int .i64 (a : Int), .int .i64 im] 159 ∧ W1.drew.cell? ⟨q, d, none⟩ = some (.int .i64 (gt H.regs d)) ∧ W1.drew.cell? ⟨q, a, none⟩ = some (.int .i64 (gt H.regs a))) := ⟨VN.out, (R1.out.v.cell d (mcr_reg_at _ _ _ _ _ _ _ d Rd.out) : W1.cell? ⟨q, d, none⟩ = _), (R1.out.v.cell a (mcr_reg_at _ _ _ _ _ _ _ a Ra.out) : W1.cell? ⟨q, a, none⟩ = _)⟩
  have R0 : Hid (Rw W1.drew base q i o pg pc ps g p zs H ca ri X) := R1.out.keep (Below.refl _ _).drew
  have B0 : Hid (Below base w W1.drew) := B1.out.drew
  refine wp_region_held (S := fun w' => Vb w' n #[.int .i64 op, .int .i64 (d : Int), .int .i64 (a : Int), .int .i64 im] 159 ∧ w'.cell? ⟨q, d, none⟩ = some (.int .i64 (gt H.regs d)) ∧ w'.cell? ⟨q, a, none⟩ = some (.int .i64 (gt H.regs a))) (by kernel_rfl) ?_
  change wpAnyH _ _ _ _ _ _ _ _ (World.drew _)
  generalize W1.drew = x0 at *
  refine tk (i := 0) (v := .pointer (some ⟨q, 0, none⟩)) rfl (Or.inl ⟨by rfl, fun w' hs => by go_simp⟩) S0.out ?_
  change wpAnyH _ _ _ _ _ _ _ (Act.put _ (some 223) _) _
  simp only [Act.put, List.setIfInBounds_toArray, List.set_cons_zero, List.set_cons_succ]
  refine tk (i := 1) (v := .pointer (some ⟨q, 0, none⟩)) rfl (Or.inl ⟨by rfl, fun w' hs => by go_simp⟩) S0.out ?_
  change wpAnyH _ _ _ _ _ _ _ (Act.put _ (some 224) _) _
  simp only [Act.put, List.setIfInBounds_toArray, List.set_cons_zero, List.set_cons_succ]
  refine tk (i := 2) (v := .pointer (some ⟨n, 0, none⟩)) rfl (Or.inl ⟨by rfl, fun w' hs => by go_simp⟩) S0.out ?_
  change wpAnyH _ _ _ _ _ _ _ (Act.put _ (some 225) _) _
  simp only [Act.put, List.setIfInBounds_toArray, List.set_cons_zero, List.set_cons_succ]
  refine tk (i := 3) (v := .pointer (some ⟨n, 0, none⟩)) rfl (Or.inl ⟨by rfl, fun w' hs => by go_simp⟩) S0.out ?_
  change wpAnyH _ _ _ _ _ _ _ (Act.put _ (some 226) _) _
  simp only [Act.put, List.setIfInBounds_toArray, List.set_cons_zero, List.set_cons_succ]
  refine tk (i := 4) (v := .pointer (some ⟨n, 1, none⟩)) rfl (Or.inl ⟨by rfl, fun w' hs => by go_simp⟩) S0.out ?_
  change wpAnyH _ _ _ _ _ _ _ (Act.put _ (some 227) _) _
  simp only [Act.put, List.setIfInBounds_toArray, List.set_cons_zero, List.set_cons_succ]
  refine tk (i := 5) (v := .int .i64 (d : Int)) rfl (Or.inl ⟨by rfl, fun w' hs => by have hc := (hs.1.cell 1 rfl : w'.cell? ⟨n, 1, none⟩ = some (.int .i64 (d : Int))); go_simp⟩) S0.out ?_
  change wpAnyH _ _ _ _ _ _ _ (Act.put _ (some 228) _) _
  simp only [Act.put, List.setIfInBounds_toArray, List.set_cons_zero, List.set_cons_succ]
  refine tk (i := 6) (v := .pointer (some ⟨q, 0, none⟩)) rfl (Or.inl ⟨by rfl, fun w' hs => by go_simp⟩) S0.out ?_
  change wpAnyH _ _ _ _ _ _ _ (Act.put _ (some 229) _) _
  simp only [Act.put, List.setIfInBounds_toArray, List.set_cons_zero, List.set_cons_succ]
  refine tk (i := 7) (v := .pointer (some ⟨q, 0, none⟩)) rfl (Or.inl ⟨by rfl, fun w' hs => by go_simp⟩) S0.out ?_
  change wpAnyH _ _ _ _ _ _ _ (Act.put _ (some 230) _) _
  simp only [Act.put, List.setIfInBounds_toArray, List.set_cons_zero, List.set_cons_succ]
  refine tk (i := 8) (v := .pointer (some ⟨q, 0, none⟩)) rfl (Or.inl ⟨by rfl, fun w' hs => by go_simp⟩) S0.out ?_
  change wpAnyH _ _ _ _ _ _ _ (Act.put _ (some 231) _) _
  simp only [Act.put, List.setIfInBounds_toArray, List.set_cons_zero, List.set_cons_succ]
  refine tk (i := 9) (v := .pointer (some ⟨q, 0, none⟩)) rfl (Or.inl ⟨by rfl, fun w' hs => by go_simp⟩) S0.out ?_
  change wpAnyH _ _ _ _ _ _ _ (Act.put _ (some 232) _) _
  simp only [Act.put, List.setIfInBounds_toArray, List.set_cons_zero, List.set_cons_succ]
  refine tk (i := 10) (v := .pointer (some ⟨q, d, none⟩)) rfl (Or.inl ⟨by rfl, fun w' hs => by have h1 := Id.out; have h2 := Rd.out; go_simp⟩) S0.out ?_
  change wpAnyH _ _ _ _ _ _ _ (Act.put _ (some 233) _) _
  simp only [Act.put, List.setIfInBounds_toArray, List.set_cons_zero, List.set_cons_succ]
  refine tk (i := 11) (v := .int .i64 (gt H.regs d)) rfl (Or.inl ⟨by rfl, fun w' hs => by have hc := hs.2.1; go_simp⟩) S0.out ?_
  change wpAnyH _ _ _ _ _ _ _ (Act.put _ (some 234) _) _
  simp only [Act.put, List.setIfInBounds_toArray, List.set_cons_zero, List.set_cons_succ]
  refine tk (i := 13) (v := .pointer (some ⟨q, 0, none⟩)) rfl (Or.inl ⟨by rfl, fun w' hs => by go_simp⟩) S0.out ?_
  change wpAnyH _ _ _ _ _ _ _ (Act.put _ (some 236) _) _
  simp only [Act.put, List.setIfInBounds_toArray, List.set_cons_zero, List.set_cons_succ]
  refine tk (i := 14) (v := .pointer (some ⟨n, 0, none⟩)) rfl (Or.inl ⟨by rfl, fun w' hs => by go_simp⟩) S0.out ?_
  change wpAnyH _ _ _ _ _ _ _ (Act.put _ (some 237) _) _
  simp only [Act.put, List.setIfInBounds_toArray, List.set_cons_zero, List.set_cons_succ]
  refine tk (i := 15) (v := .pointer (some ⟨n, 0, none⟩)) rfl (Or.inl ⟨by rfl, fun w' hs => by go_simp⟩) S0.out ?_
  change wpAnyH _ _ _ _ _ _ _ (Act.put _ (some 238) _) _
  simp only [Act.put, List.setIfInBounds_toArray, List.set_cons_zero, List.set_cons_succ]
  refine tk (i := 16) (v := .pointer (some ⟨n, 2, none⟩)) rfl (Or.inl ⟨by rfl, fun w' hs => by go_simp⟩) S0.out ?_
  change wpAnyH _ _ _ _ _ _ _ (Act.put _ (some 239) _) _
  simp only [Act.put, List.setIfInBounds_toArray, List.set_cons_zero, List.set_cons_succ]
  refine tk (i := 17) (v := .int .i64 (a : Int)) rfl (Or.inl ⟨by rfl, fun w' hs => by have hc := (hs.1.cell 2 rfl : w'.cell? ⟨n, 2, none⟩ = some (.int .i64 (a : Int))); go_simp⟩) S0.out ?_
  change wpAnyH _ _ _ _ _ _ _ (Act.put _ (some 240) _) _
  simp only [Act.put, List.setIfInBounds_toArray, List.set_cons_zero, List.set_cons_succ]
  refine tk (i := 18) (v := .pointer (some ⟨q, 0, none⟩)) rfl (Or.inl ⟨by rfl, fun w' hs => by go_simp⟩) S0.out ?_
  change wpAnyH _ _ _ _ _ _ _ (Act.put _ (some 241) _) _
  simp only [Act.put, List.setIfInBounds_toArray, List.set_cons_zero, List.set_cons_succ]
  refine tk (i := 19) (v := .pointer (some ⟨q, 0, none⟩)) rfl (Or.inl ⟨by rfl, fun w' hs => by go_simp⟩) S0.out ?_
  change wpAnyH _ _ _ _ _ _ _ (Act.put _ (some 242) _) _
  simp only [Act.put, List.setIfInBounds_toArray, List.set_cons_zero, List.set_cons_succ]
  refine tk (i := 20) (v := .pointer (some ⟨q, 0, none⟩)) rfl (Or.inl ⟨by rfl, fun w' hs => by go_simp⟩) S0.out ?_
  change wpAnyH _ _ _ _ _ _ _ (Act.put _ (some 243) _) _
  simp only [Act.put, List.setIfInBounds_toArray, List.set_cons_zero, List.set_cons_succ]
  refine tk (i := 21) (v := .pointer (some ⟨q, 0, none⟩)) rfl (Or.inl ⟨by rfl, fun w' hs => by go_simp⟩) S0.out ?_
  change wpAnyH _ _ _ _ _ _ _ (Act.put _ (some 244) _) _
  simp only [Act.put, List.setIfInBounds_toArray, List.set_cons_zero, List.set_cons_succ]
  refine tk (i := 22) (v := .pointer (some ⟨q, a, none⟩)) rfl (Or.inl ⟨by rfl, fun w' hs => by have h1 := Ia.out; have h2 := Ra.out; go_simp⟩) S0.out ?_
  change wpAnyH _ _ _ _ _ _ _ (Act.put _ (some 245) _) _
  simp only [Act.put, List.setIfInBounds_toArray, List.set_cons_zero, List.set_cons_succ]
  refine tk (i := 23) (v := .int .i64 (gt H.regs a)) rfl (Or.inl ⟨by rfl, fun w' hs => by have hc := hs.2.2; go_simp⟩) S0.out ?_
  change wpAnyH _ _ _ _ _ _ _ (Act.put _ (some 246) _) _
  simp only [Act.put, List.setIfInBounds_toArray, List.set_cons_zero, List.set_cons_succ]
  refine tk (i := 26) (v := .int .i64 (offV im)) rfl (Or.inl ⟨by rfl, fun w' hs => by go_simp⟩) S0.out ?_
  change wpAnyH _ _ _ _ _ _ _ (Act.put _ (some 249) _) _
  simp only [Act.put, List.setIfInBounds_toArray, List.set_cons_zero, List.set_cons_succ]
  refine tk (i := 27) (v := .int .i64 (addV H.pc 1)) rfl (Or.inl ⟨by rfl, fun w' hs => by go_simp⟩) S0.out ?_
  change wpAnyH _ _ _ _ _ _ _ (Act.put _ (some 250) _) _
  simp only [Act.put, List.setIfInBounds_toArray, List.set_cons_zero, List.set_cons_succ]
  refine wpAnyH_ready (rs := [12]) (by kernel_rfl) (by simp) ?_
  refine AllReadyH.cons rfl (fun K hK => ?_) AllReadyH.nil
  rw [if_pos (by rfl)]
  go_simp
  refine (impl_signed _ _).mono ?_
  rintro e y ⟨rfl, hy⟩
  rw [hy]
  clear hy y
  refine hK.out _ _ S0.out (fun _ => ?_)
  clear hK K
  refine wpAnyH_ready (rs := [24]) (by kernel_rfl) (by simp) ?_
  refine AllReadyH.cons rfl (fun K hK => ?_) AllReadyH.nil
  rw [if_pos (by rfl)]
  go_simp
  refine (impl_signed _ _).mono ?_
  rintro e y ⟨rfl, hy⟩
  rw [hy]
  clear hy y
  refine hK.out _ _ S0.out (fun _ => ?_)
  clear hK K
  refine tk (i := 25) (v := .bool (decide (sgn (gt H.regs d) < sgn (gt H.regs a)))) rfl (Or.inl ⟨by rfl, fun w' hs => by go_simp⟩) S0.out ?_
  change wpAnyH _ _ _ _ _ _ _ (Act.put _ (some 248) _) _
  simp only [Act.put, List.setIfInBounds_toArray, List.set_cons_zero, List.set_cons_succ]
  refine wpAnyH_ready (rs := [28]) (by kernel_rfl) (by simp) ?_
  refine AllReadyH.cons rfl (fun K hK => ?_) AllReadyH.nil
  rw [if_pos (by rfl)]
  go_simp
  refine (r_brV R0.out (decide (sgn (gt H.regs d) < sgn (gt H.regs a))) (offV im) (addV H.pc 1)).mono ?_
  rintro e x1 ⟨rfl, b2⟩
  have R1 : Hid (Rw x1 base q i o pg pc ps g p zs H ca ri X) := R0.out.keep b2
  have B1 : Hid (Below base w x1) := B0.out.trans (bless b2 R0.out.size)
  have S1 : Hid (Vb x1 n #[.int .i64 op, .int .i64 (d : Int), .int .i64 (a : Int), .int .i64 im] 159 ∧ x1.cell? ⟨q, d, none⟩ = some (.int .i64 (gt H.regs d)) ∧ x1.cell? ⟨q, a, none⟩ = some (.int .i64 (gt H.regs a))) := ⟨S0.out.1.keep b2, cell_keep b2 S0.out.2.1, cell_keep b2 S0.out.2.2⟩
  clear b2
  refine hK.out _ _ S1.out (fun _ => ?_)
  clear hK K
  refine tk (i := 29) (v := .int .i64 (brV (decide (sgn (gt H.regs d) < sgn (gt H.regs a))) (addV H.pc (offV im)) (addV H.pc 1))) rfl (Or.inl ⟨by rfl, fun w' hs => by go_simp⟩) S1.out ?_
  change wpAnyH _ _ _ _ _ _ _ (Act.put _ (some 4) _) _
  simp only [Act.put, List.setIfInBounds_toArray, List.set_cons_zero, List.set_cons_succ]
  refine wpAnyH_done (by kernel_rfl) ?_ _
  go_wp2_with fail
  go_ret
  exact ⟨rfl, R1.out, B1.out⟩
set_option maxRecDepth 20000 in
set_option maxHeartbeats 4000000 in
theorem do_jumpsBy {w : World} {base q : Nat} {i o : Value} {pg pc : Nat} {ps : List (Int × Int)} {g p : Nat} {zs : List Int} {X : Nat → Prop} {H : Ht} {ca ri : Int} (R : Rw w base q i o pg pc ps g p zs H ca ri X) (op : Int) (d a : Nat) (im : Int) (hd : d < 16) (ha : a < 16) :
    Calls Tryz.prog 85 #[.pointer (some ⟨q, 0, none⟩), .iface 161 (.agg #[.int .i64 op, .int .i64 (d : Int), .int .i64 (a : Int), .int .i64 im])] w fun e w' => e = .returned (.int .i64 (addV (gt H.regs a) (offV im))) ∧ Rw w' base q i o pg pc ps g p zs (putV H d (addV H.pc 1)) ca ri X ∧ Below base w w' := by
  have HR : Hid (Rw w base q i o pg pc ps g p zs H ca ri X) := R
  have c16 : w.cell? ⟨q, 16, none⟩ = some (.int .i64 H.pc) := R.v.cell 16 rfl
  have hm := meth_jumpsBy (.int .i64 op) (.int .i64 (d : Int)) (.int .i64 (a : Int)) (.int .i64 im)
  have as_reckons : ∀ w, (Instr.typeAssert (.iface 161 (.agg #[.int .i64 op, .int .i64 (d : Int), .int .i64 (a : Int), .int .i64 im])) 124 151 true).run Tryz.prog w = .ok (.tuple #[.agg #[.int .i64 0, .int .i64 0, .int .i64 0, .int .i64 0], .bool false]) w := fun w => by kernel_rfl
  have as_adds : ∀ w, (Instr.typeAssert (.iface 161 (.agg #[.int .i64 op, .int .i64 (d : Int), .int .i64 (a : Int), .int .i64 im])) 124 152 true).run Tryz.prog w = .ok (.tuple #[.agg #[.int .i64 0, .int .i64 0, .int .i64 0, .int .i64 0], .bool false]) w := fun w => by kernel_rfl
  have as_lifts : ∀ w, (Instr.typeAssert (.iface 161 (.agg #[.int .i64 op, .int .i64 (d : Int), .int .i64 (a : Int), .int .i64 im])) 124 153 true).run Tryz.prog w = .ok (.tuple #[.agg #[.int .i64 0, .int .i64 0, .int .i64 0, .int .i64 0], .bool false]) w := fun w => by kernel_rfl
  have as_loads : ∀ w, (Instr.typeAssert (.iface 161 (.agg #[.int .i64 op, .int .i64 (d : Int), .int .i64 (a : Int), .int .i64 im])) 124 154 true).run Tryz.prog w = .ok (.tuple #[.agg #[.int .i64 0, .int .i64 0, .int .i64 0, .int .i64 0], .bool false]) w := fun w => by kernel_rfl
  have as_stores : ∀ w, (Instr.typeAssert (.iface 161 (.agg #[.int .i64 op, .int .i64 (d : Int), .int .i64 (a : Int), .int .i64 im])) 124 155 true).run Tryz.prog w = .ok (.tuple #[.agg #[.int .i64 0, .int .i64 0, .int .i64 0, .int .i64 0], .bool false]) w := fun w => by kernel_rfl
  have as_ifSame : ∀ w, (Instr.typeAssert (.iface 161 (.agg #[.int .i64 op, .int .i64 (d : Int), .int .i64 (a : Int), .int .i64 im])) 124 156 true).run Tryz.prog w = .ok (.tuple #[.agg #[.int .i64 0, .int .i64 0, .int .i64 0, .int .i64 0], .bool false]) w := fun w => by kernel_rfl
  have as_ifOther : ∀ w, (Instr.typeAssert (.iface 161 (.agg #[.int .i64 op, .int .i64 (d : Int), .int .i64 (a : Int), .int .i64 im])) 124 158 true).run Tryz.prog w = .ok (.tuple #[.agg #[.int .i64 0, .int .i64 0, .int .i64 0, .int .i64 0], .bool false]) w := fun w => by kernel_rfl
  have as_ifLess : ∀ w, (Instr.typeAssert (.iface 161 (.agg #[.int .i64 op, .int .i64 (d : Int), .int .i64 (a : Int), .int .i64 im])) 124 159 true).run Tryz.prog w = .ok (.tuple #[.agg #[.int .i64 0, .int .i64 0, .int .i64 0, .int .i64 0], .bool false]) w := fun w => by kernel_rfl
  have as_jumps : ∀ w, (Instr.typeAssert (.iface 161 (.agg #[.int .i64 op, .int .i64 (d : Int), .int .i64 (a : Int), .int .i64 im])) 124 160 true).run Tryz.prog w = .ok (.tuple #[.agg #[.int .i64 0, .int .i64 0, .int .i64 0, .int .i64 0], .bool false]) w := fun w => by kernel_rfl
  have as_jumpsBy : ∀ w, (Instr.typeAssert (.iface 161 (.agg #[.int .i64 op, .int .i64 (d : Int), .int .i64 (a : Int), .int .i64 im])) 124 161 true).run Tryz.prog w = .ok (.tuple #[.agg #[.int .i64 op, .int .i64 (d : Int), .int .i64 (a : Int), .int .i64 im], .bool true]) w := fun w => by kernel_rfl
  have Rd : Hid (d < 16) := hd
  have Id : Hid ((d : Int) < 16) := by show _ < _; omega
  have Ra : Hid (a < 16) := ha
  have Ia : Hid ((a : Int) < 16) := by show _ < _; omega
  clear R
  go_enter Tryz.func85, Tryz.ntmps85
  go_wp2_with (go_at_call 107; refine (impl_add _ _ _).mono ?_; rintro e y ⟨rfl, hy⟩; rw [hy]; clear hy y)
  refine (i_off _ _ _ im w).mono ?_
  rintro e w1 ⟨rfl, b1⟩
  clear hm c16
  go_upto_region 33 with fail
  clear as_reckons as_adds as_lifts as_loads as_stores as_ifSame as_ifOther as_ifLess as_jumps as_jumpsBy
  generalize hW : w1.alloc (.cells #[.int .i64 op, .int .i64 (d : Int), .int .i64 (a : Int), .int .i64 im] 161) = W1
  obtain ⟨n, hn⟩ : ∃ n, w1.heap.size = n := ⟨_, rfl⟩
  rw [hn]
  have VN : Hid (Vb W1 n #[.int .i64 op, .int .i64 (d : Int), .int .i64 (a : Int), .int .i64 im] 161) := by show Vb _ _ _ _; rw [← hW, ← hn]; exact Vb.new _ _ _
  have bb : Below w.heap.size w W1 := by rw [← hW]; exact al b1 _
  have R1 : Hid (Rw W1 base q i o pg pc ps g p zs H ca ri X) := HR.out.keep bb
  have B1 : Hid (Below base w W1) := bless bb HR.out.size
  have QN : Hid (n ≠ q ∧ n ≠ g ∧ ∀ k, o.ownBlock = some k → n ≠ k) := by
    have hs : w.heap.size ≤ n := by rw [← hn]; exact b1.size
    obtain ⟨bo, _, _, ho, _⟩ := HR.out.ho
    exact ⟨by have := HR.out.v.lt; omega, by have := (World.ownsRow.lt HR.out.pgs g rfl).2; omega, fun k e => by have := (ho.lt k e).2; omega⟩
  clear hW hn b1 bb
  have S0 : Hid (Vb W1.drew n #[.int .i64 op, .int .i64 (d : Int), .int .i64 (a : Int), .int .i64 im] 161 ∧ W1.drew.cell? ⟨q, a, none⟩ = some (.int .i64 (gt H.regs a))) := ⟨VN.out, (R1.out.v.cell a (mcr_reg_at _ _ _ _ _ _ _ a Ra.out) : W1.cell? ⟨q, a, none⟩ = _)⟩
  have R0 : Hid (Rw W1.drew base q i o pg pc ps g p zs H ca ri X) := R1.out.keep (Below.refl _ _).drew
  have B0 : Hid (Below base w W1.drew) := B1.out.drew
  refine wp_region_held (S := fun w' => Vb w' n #[.int .i64 op, .int .i64 (d : Int), .int .i64 (a : Int), .int .i64 im] 161 ∧ w'.cell? ⟨q, a, none⟩ = some (.int .i64 (gt H.regs a))) (by kernel_rfl) ?_
  change wpAnyH _ _ _ _ _ _ _ _ (World.drew _)
  generalize W1.drew = x0 at *
  refine tk (i := 0) (v := .pointer (some ⟨q, 0, none⟩)) rfl (Or.inl ⟨by rfl, fun w' hs => by go_simp⟩) S0.out ?_
  change wpAnyH _ _ _ _ _ _ _ (Act.put _ (some 273) _) _
  simp only [Act.put, List.setIfInBounds_toArray, List.set_cons_zero, List.set_cons_succ]
  refine tk (i := 1) (v := .pointer (some ⟨n, 0, none⟩)) rfl (Or.inl ⟨by rfl, fun w' hs => by go_simp⟩) S0.out ?_
  change wpAnyH _ _ _ _ _ _ _ (Act.put _ (some 274) _) _
  simp only [Act.put, List.setIfInBounds_toArray, List.set_cons_zero, List.set_cons_succ]
  refine tk (i := 2) (v := .pointer (some ⟨n, 0, none⟩)) rfl (Or.inl ⟨by rfl, fun w' hs => by go_simp⟩) S0.out ?_
  change wpAnyH _ _ _ _ _ _ _ (Act.put _ (some 275) _) _
  simp only [Act.put, List.setIfInBounds_toArray, List.set_cons_zero, List.set_cons_succ]
  refine tk (i := 3) (v := .pointer (some ⟨n, 2, none⟩)) rfl (Or.inl ⟨by rfl, fun w' hs => by go_simp⟩) S0.out ?_
  change wpAnyH _ _ _ _ _ _ _ (Act.put _ (some 276) _) _
  simp only [Act.put, List.setIfInBounds_toArray, List.set_cons_zero, List.set_cons_succ]
  refine tk (i := 4) (v := .int .i64 (a : Int)) rfl (Or.inl ⟨by rfl, fun w' hs => by have hc := (hs.1.cell 2 rfl : w'.cell? ⟨n, 2, none⟩ = some (.int .i64 (a : Int))); go_simp⟩) S0.out ?_
  change wpAnyH _ _ _ _ _ _ _ (Act.put _ (some 277) _) _
  simp only [Act.put, List.setIfInBounds_toArray, List.set_cons_zero, List.set_cons_succ]
  refine tk (i := 5) (v := .pointer (some ⟨q, 0, none⟩)) rfl (Or.inl ⟨by rfl, fun w' hs => by go_simp⟩) S0.out ?_
  change wpAnyH _ _ _ _ _ _ _ (Act.put _ (some 278) _) _
  simp only [Act.put, List.setIfInBounds_toArray, List.set_cons_zero, List.set_cons_succ]
  refine tk (i := 6) (v := .pointer (some ⟨q, 0, none⟩)) rfl (Or.inl ⟨by rfl, fun w' hs => by go_simp⟩) S0.out ?_
  change wpAnyH _ _ _ _ _ _ _ (Act.put _ (some 279) _) _
  simp only [Act.put, List.setIfInBounds_toArray, List.set_cons_zero, List.set_cons_succ]
  refine tk (i := 7) (v := .pointer (some ⟨q, 0, none⟩)) rfl (Or.inl ⟨by rfl, fun w' hs => by go_simp⟩) S0.out ?_
  change wpAnyH _ _ _ _ _ _ _ (Act.put _ (some 280) _) _
  simp only [Act.put, List.setIfInBounds_toArray, List.set_cons_zero, List.set_cons_succ]
  refine tk (i := 8) (v := .pointer (some ⟨q, 0, none⟩)) rfl (Or.inl ⟨by rfl, fun w' hs => by go_simp⟩) S0.out ?_
  change wpAnyH _ _ _ _ _ _ _ (Act.put _ (some 281) _) _
  simp only [Act.put, List.setIfInBounds_toArray, List.set_cons_zero, List.set_cons_succ]
  refine tk (i := 9) (v := .pointer (some ⟨q, a, none⟩)) rfl (Or.inl ⟨by rfl, fun w' hs => by have h1 := Ia.out; have h2 := Ra.out; go_simp⟩) S0.out ?_
  change wpAnyH _ _ _ _ _ _ _ (Act.put _ (some 282) _) _
  simp only [Act.put, List.setIfInBounds_toArray, List.set_cons_zero, List.set_cons_succ]
  refine tk (i := 10) (v := .int .i64 (gt H.regs a)) rfl (Or.inl ⟨by rfl, fun w' hs => by have hc := hs.2; go_simp⟩) S0.out ?_
  change wpAnyH _ _ _ _ _ _ _ (Act.put _ (some 283) _) _
  simp only [Act.put, List.setIfInBounds_toArray, List.set_cons_zero, List.set_cons_succ]
  refine tk (i := 11) (v := .int .i64 (offV im)) rfl (Or.inl ⟨by rfl, fun w' hs => by go_simp⟩) S0.out ?_
  change wpAnyH _ _ _ _ _ _ _ (Act.put _ (some 284) _) _
  simp only [Act.put, List.setIfInBounds_toArray, List.set_cons_zero, List.set_cons_succ]
  refine wpAnyH_ready (rs := [12]) (by kernel_rfl) (by simp) ?_
  refine AllReadyH.cons rfl (fun K hK => ?_) AllReadyH.nil
  rw [if_pos (by rfl)]
  go_simp
  refine (impl_add _ _ _).mono ?_
  rintro e y ⟨rfl, hy⟩
  rw [hy]
  clear hy y
  refine hK.out _ _ S0.out (fun _ => ?_)
  clear hK K
  refine tk (i := 13) (v := .int .i64 (addV (gt H.regs a) (offV im))) rfl (Or.inl ⟨by rfl, fun w' hs => by go_simp⟩) S0.out ?_
  change wpAnyH _ _ _ _ _ _ _ (Act.put _ (some 17) _) _
  simp only [Act.put, List.setIfInBounds_toArray, List.set_cons_zero, List.set_cons_succ]
  refine wpAnyH_done (by kernel_rfl) ?_ _
  have n1 : x0.cell? ⟨n, 1, none⟩ = some (.int .i64 (d : Int)) := S0.out.1.cell 1 rfl
  go_wp2_with fail
  refine (r_put R0.out (d : Int) (addV H.pc 1) (by omega) (by have := Rd.out; omega) (add_word _ _)).mono ?_
  rintro e w2 ⟨rfl, ⟨r2, b2⟩, m2⟩
  have R2 : Hid (Rw w2 base q i o pg pc ps g p zs (putV H d (addV H.pc 1)) ca ri X) := r2
  have B2 : Hid (Below base w w2) := B0.out.trans b2
  clear r2 b2 m2 n1
  go_wp2_with fail
  go_ret
  exact ⟨rfl, R2.out, B2.out⟩
end Go.Proofs.YtimcoobhakfnaaaGreatDoor
