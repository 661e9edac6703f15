/- The words of a machine's Out as lines, of both. -/
import Derived.Test.YteaccakodaidpaaDoorBui
import Derived.Test.YteaccakodaidpaaDoorDigits
import Derived.Test.YteaccakodaidpaaDoorHfi
import Derived.Test.YteaccakodaidpaaDoorHfs
import Derived.Test.YteaccakodaidpaaDoorHto
import Derived.Lib.AppendIntMem
namespace Go.Proofs.YteaccakodaidpaaDoor
open Go.RowKit
set_option linter.unusedVariables false

def lineW (z : Int) : List UInt8 := Lib.decDigits z.toNat ++ [10]
def linesW (zs : List Int) : List UInt8 := zs.flatMap lineW
theorem lines_next (zs : List Int) (j : Nat) (h : j < zs.length) : linesW (zs.take (j + 1)) = linesW (zs.take j) ++ lineW (zs.getD j 0) := by
  rw [List.take_add_one, List.getElem?_eq_getElem h, List.getD_eq_getElem?_getD, List.getElem?_eq_getElem h]
  simp only [linesW, Option.toList, Option.getD, List.flatMap_append, List.flatMap_cons, List.flatMap_nil, List.append_nil]
theorem line_len {z : Int} (h0 : 0 ≤ z) (h1 : z ≤ 4294967295) : (lineW z).length ≤ 11 := by
  have := dec_len z.toNat 9 (by omega)
  simp only [lineW, List.length_append, List.length_cons, List.length_nil]
  omega
theorem lines_len {zs : List Int} (h : zs.all isW = true) : (linesW zs).length ≤ 11 * zs.length := by
  induction zs with
  | nil => simp [linesW]
  | cons x t ih =>
    simp only [List.all_cons, Bool.and_eq_true] at h
    have h1 := isW_iff.1 h.1
    have := line_len h1.1 h1.2
    have := ih h.2
    simp only [linesW, List.flatMap_cons, List.length_append, List.length_cons] at *
    omega
theorem all_taken {zs : List Int} (h : zs.all isW = true) (j : Nat) : (zs.take j).all isW = true := by
  rw [List.all_eq_true] at h ⊢
  exact fun x hx => h x (List.mem_of_mem_take hx)
def outR (H : Ht) : Int × List UInt8 := if hfV H = 0 then (0, linesW H.out) else (hfV H, [])
theorem isb_keep {w w' : World} {T e : TypeId} {B b : Nat} {bs : List Value} (h : Lib.IsBuilder T e B b bs w) (k : Below w.heap.size w w') : Lib.IsBuilder T e B b bs w' := h.imp (bd_keep · k) (bd_keep · k)
theorem i_format (z : Int) (h0 : 0 ≤ z) (h1 : z ≤ 4294967295) (w : World) (ht : Lib.TabIs Tryd.prog w "internal/strconv.uint64pow10" .u64 Lib.pow10Tab) :
    Calls Tryd.prog 53 #[.int .i64 z, .int .i64 10] w fun e w' => e = .returned (.string ⟨(Lib.decDigits z.toNat).toArray⟩) ∧ Below w.heap.size w w' := by
  refine (Tryd.strconv_FormatInt_10 z (by omega) (by omega) w ht).mono ?_
  rintro e w' ⟨rfl, k, os, rfl⟩
  exact ⟨by rw [Lib.itoa, if_neg (by omega)], Lib.below_grow _ w (Nat.le_refl _) k os⟩
theorem two' {v : World} {q : Nat} {t : TypeId} {z0 z1 : Value} (h : Vb v q #[z0, z1] t) (u0 u1 : Value) :
    Vb ((v.setCell ⟨q, 0, none⟩ u0).setCell ⟨q, 1, none⟩ u1) q #[u0, u1] t ∧ Mq (fun k => k = q) v ((v.setCell ⟨q, 0, none⟩ u0).setCell ⟨q, 1, none⟩ u1) := by
  have h0 : Vb (v.setCell ⟨q, 0, none⟩ u0) q #[u0, z1] t := h.set 0 u0
  exact ⟨h0.set 1 u1, ((Mq.refl (fun k => k = q) v).set ⟨q, 0, none⟩ u0 rfl).set ⟨q, 1, none⟩ u1 rfl⟩
theorem eq_textRes (a : Int) (s : ByteArray) (w : World) :
    Calls Tryd.prog 18 #[.agg #[.int .i64 a, .string s], .agg #[.int .i64 a, .string s]] w fun e w' => e = .returned (.bool true) ∧ Below w.heap.size w w' := by
  go_enter Tryd.func18, Tryd.ntmps18
  go_wp2_with fail
  go_ret
  exact ⟨rfl, al (al (Below.refl _ _) _) _⟩

set_option maxRecDepth 20000 in
set_option maxHeartbeats 4000000 in
theorem i_lines (a : Option Addr) (n c : Nat) (zs : List Int) (w : World) (hR : Rn w a n c zs) (hw : zs.all isW = true) (hn : n ≤ 40) (ht : Lib.TabIs Tryd.prog w "internal/strconv.uint64pow10" .u64 Lib.pow10Tab) :
    Calls Tryd.prog 43 #[.slice a n c] w fun e w' => e = .returned (.string ⟨(linesW zs).toArray⟩) ∧ Below w.heap.size w w' := by
  have HR : Hid (Rn w a n c zs) := hR
  have HW : Hid (zs.all isW = true) := hw
  have HT : Hid (Lib.TabIs Tryd.prog w "internal/strconv.uint64pow10" .u64 Lib.pow10Tab) := ht
  have HN : Hid (n = zs.length) := hR.len
  have hI : (n : Int) ≤ 40 := by omega
  have HN4 : Hid (n ≤ 40) := hn
  obtain ⟨B, hB⟩ : ∃ B, w.heap.size = B := ⟨_, rfl⟩
  have HB : Hid (w.heap.size = B) := hB
  have I0 : Hid (Lib.IsBuilder 87 5 B B (Lib.byteCells (linesW (zs.take 0))) (w.alloc (.cells #[.pointer none, .slice none 0 0] 87))) :=
    .inl ⟨Nat.le_refl _, .slice none 0 0, by rw [← hB]; exact heap_alloc_new w _, World.ownsRow_nil _ _ _ _, by intro e; cases e⟩
  have W0 : Hid (Below B w (w.alloc (.cells #[.pointer none, .slice none 0 0] 87))) := by show Below _ _ _; rw [← hB]; exact al (Below.refl _ _) _
  clear hR hw ht hn
  go_enter Tryd.func43, Tryd.ntmps43
  go_wp2_with fail
  generalize w.alloc (.cells #[.pointer none, .slice none 0 0] 87) = W at *
  clear hB
  go_loopw [8] (fun i wr => ∃ j : Nat, j ≤ n ∧ i = .int .i64 j ∧ Lib.IsBuilder 87 5 B B (Lib.byteCells (linesW (zs.take j))) wr ∧ Below B w wr) (fun i _ => n - (intOf i).toNat)
  case atStart => exact ⟨0, Nat.zero_le _, rfl, I0.out, W0.out⟩
  case round =>
    obtain ⟨j, hj, rfl, hI1, hB1⟩ := hrel
    have I1 : Hid (Lib.IsBuilder 87 5 B B (Lib.byteCells (linesW (zs.take j))) wr) := hI1
    have B1 : Hid (Below B w wr) := hB1
    have LB : Hid (B ≤ wr.heap.size) := by show _ ≤ _; have := hB1.size; have := HB.out; omega
    clear hI1 hB1
    by_cases hlt : j < n
    · have hJ : (j : Int) < (n : Int) := by omega
      have HL : Hid (j < n) := hlt
      obtain ⟨x, rfl, cx⟩ := (HR.out.stay (by have := B1.out; rw [HB.out]; exact this)).at j hlt
      obtain ⟨z, hz⟩ : ∃ z, zs.getD j 0 = z := ⟨_, rfl⟩
      have ZB : Hid (0 ≤ z ∧ z ≤ 4294967295) := by rw [← hz]; exact all_at HW.out j
      have HZ : Hid (zs.getD j 0 = z) := hz
      rw [hz] at cx
      have ll : Hid ((linesW (zs.take j)).length ≤ 440) := by
        show _ ≤ _
        have h1 := lines_len (all_taken HW.out j)
        have h2 : (zs.take j).length = j := by rw [List.length_take]; have := HN.out; omega
        have h3 := HN4.out
        have h4 := HL.out
        rw [h2] at h1
        omega
      clear hlt hj hz
      go_wp2_with fail
      clear cx
      refine (i_format z ZB.out.1 ZB.out.2 _ (Lib.tabBelow_of_tabIs HT.out _ (by have := B1.out; rw [HB.out]; exact this))).mono ?_
      rintro e w1 ⟨rfl, b1⟩
      have I2 : Hid (Lib.IsBuilder 87 5 B B (Lib.byteCells (linesW (zs.take j))) w1) := isb_keep I1.out b1
      have B2 : Hid (Below B w w1) := B1.out.trans (b1.mono LB.out)
      have dl : Hid ((Lib.decDigits z.toNat).length ≤ 10) := by show _ ≤ _; have := line_len ZB.out.1 ZB.out.2; simp only [lineW, List.length_append, List.length_cons, List.length_nil] at this; omega
      clear b1
      go_wp2_with fail
      refine (bd_string B B _ ⟨(Lib.decDigits z.toNat).toArray⟩ w1 I2.out (by rw [Lib.byteCells_length, size_mk]; have := ll.out; have := dl.out; omega) (by have := B2.out.size; have := HB.out; omega)).mono ?_
      rintro e w2 ⟨rfl, k2, b2⟩
      have K2 : Hid (Lib.IsBuilder 87 5 B B (Lib.byteCells (linesW (zs.take j) ++ Lib.decDigits z.toNat)) w2) := by
        show Lib.IsBuilder _ _ _ _ _ _
        rw [Lib.byteCells_append]
        exact .inr k2
      have B3 : Hid (Below B w w2) := B2.out.trans b2
      clear k2 b2
      go_wp2_with fail
      refine (bd_byte B B _ 10 w2 K2.out (by rw [Lib.byteCells_length, List.length_append]; have := ll.out; have := dl.out; omega) (by have := B3.out.size; have := HB.out; omega)).mono ?_
      rintro e w3 ⟨rfl, k3, b3⟩
      have K3 : Hid (Lib.IsBuilder 87 5 B B (Lib.byteCells (linesW (zs.take (j + 1)))) w3) := by
        show Lib.IsBuilder _ _ _ _ _ _
        rw [lines_next zs j (by have := HL.out; have := HN.out; omega), HZ.out]
        have e : Lib.byteCells (linesW (zs.take j) ++ lineW z) = Lib.byteCells (linesW (zs.take j) ++ Lib.decDigits z.toNat) ++ [.int .u8 10] := by
          simp only [lineW, ← List.append_assoc]
          rw [Lib.byteCells_append _ [10]]
          rfl
        rw [e]
        exact .inr k3
      have B4 : Hid (Below B w w3) := B3.out.trans b3
      clear k3 b3
      go_wp2_with fail
      go_roundw
      case rel => exact ⟨j + 1, by have := HL.out; omega, by go_num, K3.out, B4.out⟩
      case measure => have := HL.out; simp [intOf]; omega
    · have hJ : ¬ (j : Int) < (n : Int) := by omega
      have EJ : Hid (zs.take j = zs) := by show _ = _; exact List.take_of_length_le (by have := HN.out; omega)
      clear hlt hj
      go_wp2_with fail
      refine (Tryd.Builder_String_any B B (linesW (zs.take j)) _ I1.out LB.out).mono ?_
      rintro e w1 ⟨rfl, b1⟩
      have B2 : Hid (Below B w w1) := B1.out.trans b1
      clear b1
      go_wp2_with fail
      go_ret
      exact ⟨by rw [EJ.out]; rfl, by have := B2.out; rw [HB.out]; exact this⟩

set_option maxRecDepth 20000 in
set_option maxHeartbeats 8000000 in
theorem i_outText (r c i o : Value) (H : Ht) (b : Nat) (w : World) (h : Hm w b r c i o H) (tb : Lib.TabIs Tryd.prog w "internal/strconv.uint64pow10" .u64 Lib.pow10Tab) :
    Calls Tryd.prog 17 #[.agg #[r, .int .i64 H.pc, c, .bool H.halted, .bool H.waiting, .bool H.rung, .int .i64 H.done, i, o]] w fun e w' => e = .returned (.agg #[.int .i64 (outR H).1, .string ⟨(outR H).2.toArray⟩]) ∧ Below w.heap.size w w' := by
  have HM : Hid (Hm w b r c i o H) := h
  obtain ⟨a0, k0, rfl, _⟩ := h.r.shape
  obtain ⟨a1, k1, rfl, _⟩ := h.c.shape
  obtain ⟨a2, k2, rfl, _⟩ := h.i.shape
  obtain ⟨a3, k3, rfl, _⟩ := h.o.shape
  have TB : Hid (Lib.TabIs Tryd.prog w "internal/strconv.uint64pow10" .u64 Lib.pow10Tab) := tb
  clear h tb
  generalize hW : (w.alloc (.cells #[.slice a0 H.regs.length k0, .int .i64 H.pc, .slice a1 H.csr.length k1, .bool H.halted, .bool H.waiting, .bool H.rung, .int .i64 H.done, .slice a2 H.inn.length k2, .slice a3 H.out.length k3] 26)).alloc (.cells #[.int .i64 0, .string ⟨#[]⟩] 42) = W
  have B0 : Hid (Below w.heap.size w W) := by show Below _ _ _; rw [← hW]; exact al (al (Below.refl _ _) _) _
  obtain ⟨s, hS⟩ : ∃ s, w.heap.size = s := ⟨_, rfl⟩
  have HS : Hid (w.heap.size = s) := hS
  have VA : Hid (Vb W s #[.slice a0 H.regs.length k0, .int .i64 H.pc, .slice a1 H.csr.length k1, .bool H.halted, .bool H.waiting, .bool H.rung, .int .i64 H.done, .slice a2 H.inn.length k2, .slice a3 H.out.length k3] 26) := by
    show Vb _ _ _ _; rw [← hW, ← hS]; exact (Vb.new _ _ _).push _
  have VR : Hid (Vb W (s + 1) #[.int .i64 0, .string ⟨#[]⟩] 42) := by
    have z1 : s + 1 = (w.alloc (.cells #[.slice a0 H.regs.length k0, .int .i64 H.pc, .slice a1 H.csr.length k1, .bool H.halted, .bool H.waiting, .bool H.rung, .int .i64 H.done, .slice a2 H.inn.length k2, .slice a3 H.out.length k3] 26)).heap.size := by rw [← hS]; simp
    show Vb _ _ _ _; rw [← hW, z1]; exact Vb.new _ _ _
  have q0 := VA.out.cell 0 rfl
  have q1 := VA.out.cell 1 rfl
  have q2 := VA.out.cell 2 rfl
  have q3 := VA.out.cell 3 rfl
  have q4 := VA.out.cell 4 rfl
  have q5 := VA.out.cell 5 rfl
  have q6 := VA.out.cell 6 rfl
  have q7 := VA.out.cell 7 rfl
  have q8 := VA.out.cell 8 rfl
  go_enter Tryd.func17, Tryd.ntmps17
  go_wp2_with fail
  clear hW hS q0 q1 q2 q3 q4 q5 q6 q7 q8
  refine (i_fault _ _ _ _ H _ _ (HM.out.keep B0.out)).mono ?_
  rintro e w1 ⟨rfl, b1⟩
  have B1 : Hid (Below w.heap.size w w1) := on B0.out b1
  have VA1 : Hid (Vb w1 s #[.slice a0 H.regs.length k0, .int .i64 H.pc, .slice a1 H.csr.length k1, .bool H.halted, .bool H.waiting, .bool H.rung, .int .i64 H.done, .slice a2 H.inn.length k2, .slice a3 H.out.length k3] 26) := VA.out.keep b1
  have VR1 : Hid (Vb w1 (s + 1) #[.int .i64 0, .string ⟨#[]⟩] 42) := VR.out.keep b1
  have M1 : Hid (Hm w1 b _ _ _ _ H) := HM.out.keep B1.out
  clear b1 VA VR
  by_cases hf : hfV H = 0
  case neg =>
    have HE1 : Hid ((outR H).1 = hfV H) := by show _ = _; simp only [outR, if_neg hf]
    have HE2 : Hid ((outR H).2 = []) := by show _ = _; simp only [outR, if_neg hf]
    generalize hfV H = f at *
    have p0 := VR1.out.cell 0 rfl
    have f0 := VR1.out.free 0
    have p1 := VR1.out.cell 1 rfl
    have f1 := VR1.out.free 1
    go_wp2_with fail
    have NN : Hid (_ ∧ _) := two' VR1.out (.int .i64 f) (.string ⟨#[]⟩)
    clear p0 f0 p1 f1
    generalize ((w1.setCell ⟨s + 1, 0, none⟩ (.int .i64 f)).setCell ⟨s + 1, 1, none⟩ (.string ⟨#[]⟩)) = V at *
    have x0 := NN.out.1.cell 0 rfl
    have x1 := NN.out.1.cell 1 rfl
    exact bodyPost_ret (v := .agg #[.int .i64 f, .string ⟨#[]⟩]) (by simp [results, Tryd.results17, go_sem, x0, x1]) rfl
      ⟨by rw [HE1.out, HE2.out], Mq.under B1.out NN.out.2 fun k e => by have := HS.out; omega⟩
  have K : Hid (Hok H) := hok_of hf
  have HF : Hid (hfV H = 0) := hf
  rw [hf]
  have HE1 : Hid ((outR H).1 = 0) := by show _ = _; simp [outR, hf]
  have HE2 : Hid ((outR H).2 = linesW H.out) := by show _ = _; simp [outR, hf]
  have q8 := VA1.out.cell 8 rfl
  go_wp2_with fail
  clear q8
  refine (i_lines _ _ _ H.out _ M1.out.o.rn K.out.ow K.out.o40 (Lib.tabBelow_of_tabIs TB.out _ B1.out)).mono ?_
  rintro e w2 ⟨rfl, b2⟩
  obtain ⟨l, hl⟩ : ∃ l, linesW H.out = l := ⟨_, rfl⟩
  rw [hl]
  have HE2 : Hid ((outR H).2 = l) := HE2.out.trans hl
  have B2 : Hid (Below w.heap.size w w2) := on B1.out b2
  have VR2 : Hid (Vb w2 (s + 1) #[.int .i64 0, .string ⟨#[]⟩] 42) := VR1.out.keep b2
  clear b2 hl
  have p0 := VR2.out.cell 0 rfl
  have f0 := VR2.out.free 0
  have p1 := VR2.out.cell 1 rfl
  have f1 := VR2.out.free 1
  go_wp2_with fail
  have NN : Hid (_ ∧ _) := two' VR2.out (.int .i64 0) (.string ⟨l.toArray⟩)
  clear p0 f0 p1 f1
  generalize ((w2.setCell ⟨s + 1, 0, none⟩ (.int .i64 0)).setCell ⟨s + 1, 1, none⟩ (.string ⟨l.toArray⟩)) = V at *
  have x0 := NN.out.1.cell 0 rfl
  have x1 := NN.out.1.cell 1 rfl
  exact bodyPost_ret (v := .agg #[.int .i64 0, .string ⟨l.toArray⟩]) (by simp [results, Tryd.results17, go_sem, x0, x1]) rfl
    ⟨by rw [HE1.out, HE2.out], Mq.under B2.out NN.out.2 fun k e => by have := HS.out; omega⟩

set_option maxRecDepth 20000 in
set_option maxHeartbeats 8000000 in
theorem s_outText (r c i o : Value) (H : Ht) (b : Nat) (w : World) (h : Hm w b r c i o H) :
    Calls Tryd.prog 15 #[.agg #[r, .int .i64 H.pc, c, .bool H.halted, .bool H.waiting, .bool H.rung, .int .i64 H.done, i, o]] w fun e w' => e = .returned (.agg #[.int .i64 (outR H).1, .string ⟨(outR H).2.toArray⟩]) ∧ Below w.heap.size w w' := by
  have HM : Hid (Hm w b r c i o H) := h
  obtain ⟨a0, k0, rfl, _⟩ := h.r.shape
  obtain ⟨a1, k1, rfl, _⟩ := h.c.shape
  obtain ⟨a2, k2, rfl, _⟩ := h.i.shape
  obtain ⟨a3, k3, rfl, _⟩ := h.o.shape
  clear h
  generalize hW : (w.alloc (.cells #[.slice a0 H.regs.length k0, .int .i64 H.pc, .slice a1 H.csr.length k1, .bool H.halted, .bool H.waiting, .bool H.rung, .int .i64 H.done, .slice a2 H.inn.length k2, .slice a3 H.out.length k3] 26)).alloc (.cells #[.int .i64 0, .string ⟨#[]⟩] 42) = W
  have B0 : Hid (Below w.heap.size w W) := by show Below _ _ _; rw [← hW]; exact al (al (Below.refl _ _) _) _
  obtain ⟨s, hS⟩ : ∃ s, w.heap.size = s := ⟨_, rfl⟩
  have HS : Hid (w.heap.size = s) := hS
  have VA : Hid (Vb W s #[.slice a0 H.regs.length k0, .int .i64 H.pc, .slice a1 H.csr.length k1, .bool H.halted, .bool H.waiting, .bool H.rung, .int .i64 H.done, .slice a2 H.inn.length k2, .slice a3 H.out.length k3] 26) := by
    show Vb _ _ _ _; rw [← hW, ← hS]; exact (Vb.new _ _ _).push _
  have VR : Hid (Vb W (s + 1) #[.int .i64 0, .string ⟨#[]⟩] 42) := by
    have z1 : s + 1 = (w.alloc (.cells #[.slice a0 H.regs.length k0, .int .i64 H.pc, .slice a1 H.csr.length k1, .bool H.halted, .bool H.waiting, .bool H.rung, .int .i64 H.done, .slice a2 H.inn.length k2, .slice a3 H.out.length k3] 26)).heap.size := by rw [← hS]; simp
    show Vb _ _ _ _; rw [← hW, z1]; exact Vb.new _ _ _
  have q0 := VA.out.cell 0 rfl
  have q1 := VA.out.cell 1 rfl
  have q2 := VA.out.cell 2 rfl
  have q3 := VA.out.cell 3 rfl
  have q4 := VA.out.cell 4 rfl
  have q5 := VA.out.cell 5 rfl
  have q6 := VA.out.cell 6 rfl
  have q7 := VA.out.cell 7 rfl
  have q8 := VA.out.cell 8 rfl
  go_enter Tryd.func15, Tryd.ntmps15
  go_wp2_with fail
  clear hW hS q0 q1 q2 q3 q4 q5 q6 q7 q8
  refine (s_fault _ _ _ _ _ H _ _ (HM.out.keep B0.out) VA.out).mono ?_
  rintro e w1 ⟨rfl, hw1⟩
  have b1 : Below W.heap.size W w1 := by rw [hw1]; exact Below.refl _ _
  clear hw1
  have B1 : Hid (Below w.heap.size w w1) := on B0.out b1
  have VA1 : Hid (Vb w1 s #[.slice a0 H.regs.length k0, .int .i64 H.pc, .slice a1 H.csr.length k1, .bool H.halted, .bool H.waiting, .bool H.rung, .int .i64 H.done, .slice a2 H.inn.length k2, .slice a3 H.out.length k3] 26) := VA.out.keep b1
  have VR1 : Hid (Vb w1 (s + 1) #[.int .i64 0, .string ⟨#[]⟩] 42) := VR.out.keep b1
  have M1 : Hid (Hm w1 b _ _ _ _ H) := HM.out.keep B1.out
  clear b1 VA VR
  by_cases hf : hfV H = 0
  case neg =>
    have HE1 : Hid ((outR H).1 = hfV H) := by show _ = _; simp only [outR, if_neg hf]
    have HE2 : Hid ((outR H).2 = []) := by show _ = _; simp only [outR, if_neg hf]
    generalize hfV H = f at *
    have p0 := VR1.out.cell 0 rfl
    have f0 := VR1.out.free 0
    have p1 := VR1.out.cell 1 rfl
    have f1 := VR1.out.free 1
    go_wp2_with fail
    have NN : Hid (_ ∧ _) := two' VR1.out (.int .i64 f) (.string ⟨#[]⟩)
    clear p0 f0 p1 f1
    generalize ((w1.setCell ⟨s + 1, 0, none⟩ (.int .i64 f)).setCell ⟨s + 1, 1, none⟩ (.string ⟨#[]⟩)) = V at *
    have x0 := NN.out.1.cell 0 rfl
    have x1 := NN.out.1.cell 1 rfl
    exact bodyPost_ret (v := .agg #[.int .i64 f, .string ⟨#[]⟩]) (by simp [results, Tryd.results15, go_sem, x0, x1]) rfl
      ⟨by rw [HE1.out, HE2.out], Mq.under B1.out NN.out.2 fun k e => by have := HS.out; omega⟩
  have K : Hid (Hok H) := hok_of hf
  have HF : Hid (hfV H = 0) := hf
  rw [hf]
  have HE1 : Hid ((outR H).1 = 0) := by show _ = _; simp [outR, hf]
  have HE2 : Hid ((outR H).2 = linesW H.out) := by show _ = _; simp [outR, hf]
  obtain ⟨n, hn⟩ : ∃ n, H.out.length = n := ⟨_, rfl⟩
  have HN : Hid (H.out.length = n) := hn
  have hI : (n : Int) ≤ 40 := by have := K.out.o40; omega
  have MO : Hid (Nums w1 b (.slice a3 n k3) H.out) := by show Nums _ _ _ _; rw [← hn]; exact M1.out.o
  have c8 : Hid (w1.cell? ⟨s, 8, none⟩ = some (.slice a3 n k3)) := by show _ = _; rw [← hn]; exact VA1.out.cell 8 rfl
  clear hn
  go_wp2_with fail
  go_loopw [4, 5] (fun o i wr => ∃ j : Nat, j ≤ n ∧ i = .int .i64 j ∧ o = .string ⟨(linesW (H.out.take j)).toArray⟩ ∧ Below w1.heap.size w1 wr) (fun _ i _ => n - (intOf i).toNat)
  case atStart => exact ⟨0, Nat.zero_le _, rfl, rfl, Below.refl _ _⟩
  case round =>
    obtain ⟨j, hj, rfl, rfl, hB⟩ := hrel
    have HB : Hid (Below w1.heap.size w1 wr) := hB
    have d8 := cell_keep hB c8.out
    clear hB
    by_cases hlt : j < n
    · have hJ : (j : Int) < (n : Int) := by omega
      have HL : Hid (j < n) := hlt
      obtain ⟨x, rfl, cx⟩ := (MO.out.rn.stay HB.out).at j hlt
      obtain ⟨z, hz⟩ : ∃ z, H.out.getD j 0 = z := ⟨_, rfl⟩
      have ZB : Hid (0 ≤ z ∧ z ≤ 4294967295) := by rw [← hz]; exact all_at K.out.ow j
      have HZ : Hid (H.out.getD j 0 = z) := hz
      rw [hz] at cx
      obtain ⟨m, rfl⟩ : ∃ m : Nat, z = m := ⟨z.toNat, by have := ZB.out; omega⟩
      have MB : Hid (m < 4294967296) := by show _ < _; have := ZB.out; omega
      have EQ : Hid ((⟨(linesW (H.out.take j)).toArray⟩ ++ ⟨(Lib.decDigits m).toArray⟩ : ByteArray) ++ ⟨#[10]⟩ = ⟨(linesW (H.out.take (j + 1))).toArray⟩) := by
        show _ = _
        rw [lines_next H.out j (by have := HL.out; have := HN.out; omega), HZ.out]
        apply ByteArray.ext
        simp [ByteArray.data_append, lineW]
      have ll : Hid ((linesW (H.out.take j)).length ≤ 440) := by
        show _ ≤ _
        have h1 := lines_len (all_taken K.out.ow j)
        have h2 : (H.out.take j).length = j := by rw [List.length_take]; have := HN.out; omega
        have h3 := K.out.o40
        have h4 := HL.out
        have h5 := HN.out
        rw [h2] at h1
        omega
      have dl : Hid ((Lib.decDigits m).length ≤ 10) := dec_len m 9 (by have := MB.out; omega)
      clear hlt hj hz
      obtain ⟨sa, hsa⟩ : ∃ sa : ByteArray, ⟨(linesW (H.out.take j)).toArray⟩ = sa := ⟨_, rfl⟩
      obtain ⟨sd, hsd⟩ : ∃ sd : ByteArray, ⟨(Lib.decDigits m).toArray⟩ = sd := ⟨_, rfl⟩
      have HSD : Hid ((⟨(Lib.decDigits m).toArray⟩ : ByteArray) = sd) := hsd
      have za : sa.size ≤ 440 := by rw [← hsa, size_mk]; exact ll.out
      have zd : sd.size ≤ 10 := by rw [← hsd, size_mk]; exact dl.out
      rw [hsa, hsd] at EQ
      rw [hsa]
      have z1 : ¬ 9223372036854775807 < sa.size + sd.size := by omega
      have z2 : ¬ 9223372036854775807 < sa.size + sd.size + 1 := by omega
      have z3 : ¬ 9223372036854775807 ≤ sa.size + sd.size := by omega
      clear za zd hsa hsd
      go_wp2_with fail
      clear cx d8
      refine (spec_digits m MB.out _).mono ?_
      rintro e w2 ⟨rfl, b2⟩
      rw [HSD.out]
      have B2 : Hid (Below w1.heap.size w1 w2) := on HB.out b2
      clear b2
      go_wp2_with fail
      go_roundw
      case rel => exact ⟨j + 1, by have := HL.out; omega, by go_num, by rw [← EQ.out], B2.out⟩
      case measure => have := HL.out; simp [intOf]; omega
    · have hJ : ¬ (j : Int) < (n : Int) := by omega
      have EJ : H.out.take j = H.out := List.take_of_length_le (by have := HN.out; omega)
      rw [EJ]
      obtain ⟨l, hl⟩ : ∃ l, linesW H.out = l := ⟨_, rfl⟩
      rw [hl]
      have HE2 : Hid ((outR H).2 = l) := HE2.out.trans hl
      have B2 : Hid (Below w.heap.size w wr) := on B1.out HB.out
      have VR2 : Hid (Vb wr (s + 1) #[.int .i64 0, .string ⟨#[]⟩] 42) := VR1.out.keep HB.out
      clear hlt hj hl EJ
      have p0 := VR2.out.cell 0 rfl
      have f0 := VR2.out.free 0
      have p1 := VR2.out.cell 1 rfl
      have f1 := VR2.out.free 1
      go_wp2_with fail
      have NN : Hid (_ ∧ _) := two' VR2.out (.int .i64 0) (.string ⟨l.toArray⟩)
      clear p0 f0 p1 f1
      generalize ((wr.setCell ⟨s + 1, 0, none⟩ (.int .i64 0)).setCell ⟨s + 1, 1, none⟩ (.string ⟨l.toArray⟩)) = V at *
      have x0 := NN.out.1.cell 0 rfl
      have x1 := NN.out.1.cell 1 rfl
      exact bodyPost_ret (v := .agg #[.int .i64 0, .string ⟨l.toArray⟩]) (by simp [results, Tryd.results15, go_sem, x0, x1]) rfl
        ⟨by rw [HE1.out, HE2.out], Mq.under B2.out NN.out.2 fun k e => by have := HS.out; omega⟩
end Go.Proofs.YteaccakodaidpaaDoor
