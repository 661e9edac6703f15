/- Texts of this seat, joined. -/
import Derived.Lib.SmallJoins
import Derived.Test.YtggejbphdadckaaGreatDoorQ08
import Derived.Test.YtggejbphdadckaaGreatDoorQ09
namespace Go.Proofs.YtggejbphdadckaaGreatDoor
open Go.RowKit Go.ChangeShapes Go.WideShapes Go.ChangeAt
set_option linter.unusedVariables false
theorem list9 {α : Type} {l : List α} (h : l.length = 9) : ∃ a0 a1 a2 a3 a4 a5 a6 a7 a8, l = [a0, a1, a2, a3, a4, a5, a6, a7, a8] := by
  match l, h with
  | [a0, a1, a2, a3, a4, a5, a6, a7, a8], _ => exact ⟨a0, a1, a2, a3, a4, a5, a6, a7, a8, rfl⟩
theorem rn_open {H : Type} {enc : TypeId × Value → H} {P : Program} {w : World} {base : Nat} {held : Bool} {t e : TypeId} {fuel : Nat} {v : Value} {x : DataW H × List MemPlace}
    (ht : P.underlying t = some (.slice e)) (he : P.underlying e = some (.int .i64)) (ce : P.cellsOf e = 1)
    (h : DataW.trod enc P w base (fun _ => true) held fuel t [v] = some x) : ∃ a len cap zs, v = .slice a len cap ∧ IsRow .i64 w a len cap zs := by
  rcases open_ints ht he ce h with ⟨hcs, _⟩ | ⟨y, l, c, zs, hcs, _, hl, hm, hz, _, hcell, hwz⟩
  · simp at hcs
    exact ⟨none, 0, 0, [], hcs, .inl ⟨rfl, rfl, rfl, rfl⟩⟩
  · simp at hcs
    exact ⟨some y, l, c, _, hcs, IsRow.of_all hl hm (by simpa using hz) hcell hwz⟩
theorem bool_open {H : Type} {enc : TypeId × Value → H} {P : Program} {w : World} {base : Nat} {spare : Nat → Bool} {held : Bool} {t : TypeId} {fuel : Nat} {v : Value} {x : DataW H × List MemPlace}
    (ht : P.underlying t = some .bool) (h : DataW.trod enc P w base spare held fuel t [v] = some x) : ∃ b, v = .bool b := by
  obtain ⟨b, q, _⟩ := DataW.trod_bool ht h
  exact ⟨b, by simpa using q⟩
structure Hin (w : World) (a0 : Option Addr) (n0 c0 : Nat) (a1 : Option Addr) (n1 c1 : Nat) (a2 : Option Addr) (n2 c2 : Nat) (a3 : Option Addr) (n3 c3 : Nat) (H : Ht) : Prop where
  regs : IsRow .i64 w a0 n0 c0 H.regs
  csr : IsRow .i64 w a1 n1 c1 H.csr
  inn : IsRow .i64 w a2 n2 c2 H.inn
  out : IsRow .i64 w a3 n3 c3 H.out
theorem Hin.stay {w w' : World} {a0 a1 a2 a3 : Option Addr} {n0 c0 n1 c1 n2 c2 n3 c3 : Nat} {H : Ht} (h : Hin w a0 n0 c0 a1 n1 c1 a2 n2 c2 a3 n3 c3 H) (b : Below w.heap.size w w') : Hin w' a0 n0 c0 a1 n1 c1 a2 n2 c2 a3 n3 c3 H :=
  ⟨h.regs.stay b, h.csr.stay b, h.inn.stay b, h.out.stay b⟩
open Go.RowKit
structure Hs (n0 n1 n2 n3 : Nat) : Prop where
  regs : n0 ≤ 1048576
  csr : n1 ≤ 1048576
  inn : n2 ≤ 1048576
  out : n3 ≤ 1048576
structure Hm (w : World) (base : Nat) (r c i o : Value) (H : Ht) : Prop where
  r : Nums w base r H.regs
  c : Nums w base c H.csr
  i : Nums w base i H.inn
  o : Nums w base o H.out
theorem Hm.keep {w w' : World} {base : Nat} {r c i o : Value} {H : Ht} (h : Hm w base r c i o H) (b : Below w.heap.size w w') : Hm w' base r c i o H := ⟨h.r.keep b, h.c.keep b, h.i.keep b, h.o.keep b⟩
theorem Hm.mono {w : World} {base base' : Nat} {r c i o : Value} {H : Ht} (h : Hm w base r c i o H) (hb : base' ≤ base) : Hm w base' r c i o H := ⟨h.r.mono hb, h.c.mono hb, h.i.mono hb, h.o.mono hb⟩
theorem Hm.ho {w w' : World} {base : Nat} {r c i o : Value} {H : Ht} (h : Hm w base r c i o H) (k : Ho base w w') : Hm w' base r c i o H := ⟨h.r.ho k, h.c.ho k, h.i.ho k, h.o.ho k⟩
def Apt (a b : Value) : Prop := a.ownBlock = none ∨ a.ownBlock ≠ b.ownBlock
structure Ha (r c i o : Value) : Prop where
  rc : Apt r c
  ri : Apt r i
  ro : Apt r o
  ci : Apt c i
  co : Apt c o
  io : Apt i o
theorem Apt.swap {a b : Value} (h : Apt a b) : Apt b a := by
  rcases h with h | h
  · by_cases hb : b.ownBlock = none
    · exact .inl hb
    · exact .inr (by rw [h]; exact hb)
  · exact .inr (Ne.symm h)
set_option maxRecDepth 20000 in
set_option maxHeartbeats 4000000 in
theorem eq_hart (r c i o r' c' i' o' : Value) (H : Ht) (b b' : Nat) (w : World) (h : Hm w b r c i o H) (k : Hm w b' r' c' i' o' H) :
    Calls Tryz.prog 69 #[.agg #[r, .int .i64 H.pc, c, .bool H.halted, .bool H.waiting, .bool H.rung, .int .i64 H.done, i, o], .agg #[r', .int .i64 H.pc, c', .bool H.halted, .bool H.waiting, .bool H.rung, .int .i64 H.done, i', o']] w fun e w' => e = .returned (.bool true) ∧ Below w.heap.size w w' := by
  obtain ⟨a0, k0, rfl, _⟩ := h.r.shape
  obtain ⟨a1, k1, rfl, _⟩ := h.c.shape
  obtain ⟨a2, k2, rfl, _⟩ := h.i.shape
  obtain ⟨a3, k3, rfl, _⟩ := h.o.shape
  obtain ⟨x0, l0, rfl, _⟩ := k.r.shape
  obtain ⟨x1, l1, rfl, _⟩ := k.c.shape
  obtain ⟨x2, l2, rfl, _⟩ := k.i.shape
  obtain ⟨x3, l3, rfl, _⟩ := k.o.shape
  have HM : Hid (Hm w b _ _ _ _ H) := h
  have KM : Hid (Hm w b' _ _ _ _ H) := k
  clear h k
  generalize H.regs.length = n0 at *
  generalize H.csr.length = n1 at *
  generalize H.inn.length = n2 at *
  generalize H.out.length = n3 at *
  generalize hW : (w.alloc (.cells #[.slice a0 n0 k0, .int .i64 H.pc, .slice a1 n1 k1, .bool H.halted, .bool H.waiting, .bool H.rung, .int .i64 H.done, .slice a2 n2 k2, .slice a3 n3 k3] 60)).alloc (.cells #[.slice x0 n0 l0, .int .i64 H.pc, .slice x1 n1 l1, .bool H.halted, .bool H.waiting, .bool H.rung, .int .i64 H.done, .slice x2 n2 l2, .slice x3 n3 l3] 60) = W
  have B0 : Hid (Below w.heap.size w W) := by show Below _ _ _; rw [← hW]; exact al (al (Below.refl _ _) _) _
  obtain ⟨s, hS⟩ : ∃ s, w.heap.size = s := ⟨_, rfl⟩
  have VA : Hid (Vb W s #[.slice a0 n0 k0, .int .i64 H.pc, .slice a1 n1 k1, .bool H.halted, .bool H.waiting, .bool H.rung, .int .i64 H.done, .slice a2 n2 k2, .slice a3 n3 k3] 60) := by
    show Vb _ _ _ _
    rw [← hW, ← hS]
    exact (Vb.new _ _ _).push _
  have VB : Hid (Vb W (s + 1) #[.slice x0 n0 l0, .int .i64 H.pc, .slice x1 n1 l1, .bool H.halted, .bool H.waiting, .bool H.rung, .int .i64 H.done, .slice x2 n2 l2, .slice x3 n3 l3] 60) := by
    show Vb _ _ _ _
    have z1 : s + 1 = (w.alloc (.cells #[.slice a0 n0 k0, .int .i64 H.pc, .slice a1 n1 k1, .bool H.halted, .bool H.waiting, .bool H.rung, .int .i64 H.done, .slice a2 n2 k2, .slice a3 n3 k3] 60)).heap.size := by rw [← hS]; simp
    rw [← hW, z1]
    exact Vb.new _ _ _
  have q0 := VA.out.cell 0 rfl
  have p0 := VB.out.cell 0 rfl
  go_enter Tryz.func69, Tryz.ntmps69
  go_wp2_with fail
  clear hW hS q0 p0
  refine (eq_nums _ _ _ _ _ _ (HM.out.keep B0.out).r (KM.out.keep B0.out).r).mono ?_
  rintro e w1 ⟨rfl, b1⟩
  have B1 : Hid (Below w.heap.size w w1) := on B0.out b1
  have VA1 : Hid (Vb w1 _ _ _) := VA.out.keep b1
  have VB1 : Hid (Vb w1 _ _ _) := VB.out.keep b1
  have q1 := VA1.out.cell 1 rfl
  have p1 := VB1.out.cell 1 rfl
  have q2 := VA1.out.cell 2 rfl
  have p2 := VB1.out.cell 2 rfl
  clear b1 VA VB B0
  go_wp2_with fail
  clear q1 p1 q2 p2
  refine (eq_nums _ _ _ _ _ _ (HM.out.keep B1.out).c (KM.out.keep B1.out).c).mono ?_
  rintro e w2 ⟨rfl, b1⟩
  have B2 : Hid (Below w.heap.size w w2) := on B1.out b1
  have VA2 : Hid (Vb w2 _ _ _) := VA1.out.keep b1
  have VB2 : Hid (Vb w2 _ _ _) := VB1.out.keep b1
  have q3 := VA2.out.cell 3 rfl
  have p3 := VB2.out.cell 3 rfl
  have q4 := VA2.out.cell 4 rfl
  have p4 := VB2.out.cell 4 rfl
  have q5 := VA2.out.cell 5 rfl
  have p5 := VB2.out.cell 5 rfl
  have q6 := VA2.out.cell 6 rfl
  have p6 := VB2.out.cell 6 rfl
  have q7 := VA2.out.cell 7 rfl
  have p7 := VB2.out.cell 7 rfl
  clear b1 VA1 VB1 B1
  go_wp2_with fail
  clear q3 p3 q4 p4 q5 p5 q6 p6 q7 p7
  refine (eq_nums _ _ _ _ _ _ (HM.out.keep B2.out).i (KM.out.keep B2.out).i).mono ?_
  rintro e w3 ⟨rfl, b1⟩
  have B3 : Hid (Below w.heap.size w w3) := on B2.out b1
  have q8 := (VA2.out.keep b1).cell 8 rfl
  have p8 := (VB2.out.keep b1).cell 8 rfl
  clear b1 VA2 VB2 B2
  go_wp2_with fail
  refine (eq_nums _ _ _ _ _ _ (HM.out.keep B3.out).o (KM.out.keep B3.out).o).mono ?_
  rintro e w4 ⟨rfl, b1⟩
  go_wp2_with fail
  go_ret
  exact ⟨rfl, on B3.out b1⟩
end Go.Proofs.YtggejbphdadckaaGreatDoor
