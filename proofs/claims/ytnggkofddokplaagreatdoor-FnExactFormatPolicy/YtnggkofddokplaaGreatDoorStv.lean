/- Texts of machines: values, and lines of numbers by both. -/
import Derived.Test.YtnggkofddokplaaGreatDoorDigits
import Derived.Test.YtnggkofddokplaaGreatDoorShelf
import Derived.Test.YtnggkofddokplaaGreatDoorBui
import Derived.Test.YtnggkofddokplaaGreatDoorHnm
import Derived.Test.YtnggkofddokplaaGreatDoorHwo
import Derived.Lib.AppendIntMem
namespace Go.Proofs.YtnggkofddokplaaGreatDoor
open Go.RowKit
set_option linter.unusedVariables false

/-- A text, by its bytes. -/
def bs (l : List UInt8) : ByteArray := ⟨l.toArray⟩
theorem bs_size (l : List UInt8) : (bs l).size = l.length := size_mk l
theorem bs_app (l m : List UInt8) : bs (l ++ m) = bs l ++ bs m := by
  apply ByteArray.ext
  simp [bs, ByteArray.data_append]
theorem bs_lit (l : List UInt8) (a : Array UInt8) (h : l.toArray = a) : (⟨a⟩ : ByteArray) = bs l := by rw [bs, h]
/-- Numbers, each with a blank ahead. -/
def nsW (zs : List Int) : List UInt8 := zs.flatMap fun z => 32 :: Lib.decDigits z.toNat
def nlW (wd : List UInt8) (zs : List Int) : List UInt8 := wd ++ nsW zs ++ [10]
theorem ns_next (zs : List Int) (j : Nat) (h : j < zs.length) : nsW (zs.take (j + 1)) = nsW (zs.take j) ++ (32 :: Lib.decDigits (zs.getD j 0).toNat) := by
  rw [List.take_add_one, List.getElem?_eq_getElem h, List.getD_eq_getElem?_getD, List.getElem?_eq_getElem h]
  simp only [nsW, Option.toList, Option.getD, List.flatMap_append, List.flatMap_cons, List.flatMap_nil, List.append_nil]
theorem dec_len10 {z : Int} (h0 : 0 ≤ z) (h1 : z ≤ 4294967295) : (Lib.decDigits z.toNat).length ≤ 10 := dec_len z.toNat 9 (by omega)
theorem ns_len {zs : List Int} (h : zs.all isW = true) : (nsW zs).length ≤ 11 * zs.length := by
  induction zs with
  | nil => simp [nsW]
  | cons x t ih =>
    simp only [List.all_cons, Bool.and_eq_true] at h
    have h1 := isW_iff.1 h.1
    have h2 := dec_len10 h1.1 h1.2
    have h3 := ih h.2
    simp only [nsW, List.flatMap_cons, List.length_append, List.length_cons] at *
    omega
theorem all_takenT {zs : List Int} (h : zs.all isW = true) (j : Nat) : (zs.take j).all isW = true := by
  rw [List.all_eq_true] at h ⊢
  exact fun x hx => h x (List.mem_of_mem_take hx)
theorem nl_len {wd : List UInt8} {zs : List Int} (h : zs.all isW = true) (hn : zs.length ≤ 40) (hl : wd.length ≤ 10) : (nlW wd zs).length ≤ 500 := by
  have := ns_len h
  simp only [nlW, List.length_append, List.length_cons, List.length_nil]
  omega
theorem i_formatT (z : Int) (h0 : 0 ≤ z) (h1 : z ≤ 4294967295) (w : World) (ht : Lib.TabIs Tryz.prog w "internal/strconv.uint64pow10" .u64 Lib.pow10Tab) :
    Calls Tryz.prog 73 #[.int .i64 z, .int .i64 10] w fun e w' => e = .returned (.string (bs (Lib.decDigits z.toNat))) ∧ Below w.heap.size w w' := by
  refine (Tryz.strconv_FormatInt_10 z (by omega) (by omega) w ht).mono ?_
  rintro e w' ⟨rfl, k, os, rfl⟩
  exact ⟨by rw [Lib.itoa, if_neg (by omega)]; rfl, Lib.below_grow _ w (Nat.le_refl _) k os⟩
theorem isb_keepS {w w' : World} {T e : TypeId} {B b : Nat} {bs : List Value} (h : Lib.IsBuilder T e B b bs w) (k : Below w.heap.size w w') : Lib.IsBuilder T e B b bs w' := h.imp (bd_keep · k) (bd_keep · k)
set_option maxRecDepth 20000 in
set_option maxHeartbeats 8000000 in
theorem i_wordNums (wd : List UInt8) (a : Option Addr) (n c : Nat) (zs : List Int) (w : World) (hR : Rn w a n c zs) (hw : zs.all isW = true) (hn : n ≤ 1048576) (hl : wd.length ≤ 10) (ht : Lib.TabIs Tryz.prog w "internal/strconv.uint64pow10" .u64 Lib.pow10Tab) :
    Calls Tryz.prog 60 #[.string (bs wd), .slice a n c] w fun e w' => e = .returned (.string (bs (wd ++ nsW zs))) ∧ Below w.heap.size w w' := by
  obtain ⟨V, hV⟩ : ∃ V, bs (wd ++ nsW zs) = V := ⟨_, rfl⟩
  rw [hV]
  have HV : Hid (bs (wd ++ nsW zs) = V) := hV
  clear hV
  have HR : Hid (Rn w a n c zs) := hR
  have HW : Hid (zs.all isW = true) := hw
  have HT : Hid (Lib.TabIs Tryz.prog w "internal/strconv.uint64pow10" .u64 Lib.pow10Tab) := ht
  have HN : Hid (n = zs.length) := hR.len
  have HN4 : Hid (n ≤ 1048576 ∧ wd.length ≤ 10) := ⟨hn, hl⟩
  have hI : (n : Int) ≤ 1048576 := by omega
  clear hR hw ht hn hl
  obtain ⟨B, hB⟩ : ∃ B, w.heap.size = B := ⟨_, rfl⟩
  have HB : Hid (w.heap.size = B) := hB
  have I0 : Hid (Lib.IsBuilder 56 5 B B [] (w.alloc (.cells #[.pointer none, .slice none 0 0] 56))) :=
    .inl ⟨Nat.le_refl _, .slice none 0 0, by rw [← hB]; exact heap_alloc_new w _, World.ownsRow_nil _ _ _ _, by intro e; cases e⟩
  have W0 : Hid (Below B w (w.alloc (.cells #[.pointer none, .slice none 0 0] 56))) := by show Below _ _ _; rw [← hB]; exact al (Below.refl _ _) _
  have FS : Hid (∀ u, Lib.IsBuilder 56 5 B B [] u → Below B w u → Calls Tryz.prog 21 #[.pointer (some ⟨B, 0, none⟩), .string (bs wd)] u fun e w' => e = .returned (.tuple #[.int .i64 (bs wd).size, .nilIface]) ∧ Lib.BuilderAt 56 5 B B (.pointer (some ⟨B, 0, none⟩)) ([] ++ Lib.strCells (bs wd)) w' ∧ Below B u w') := fun u hu hb => bd_string B B [] (bs wd) u hu (by rw [bs_size]; have := HN4.out.2; simp; omega) (by have := hb.size; have := HB.out; omega)
  obtain ⟨wb, hwb⟩ : ∃ wb, bs wd = wb := ⟨_, rfl⟩
  have HWB : Hid (bs wd = wb) := hwb
  rw [hwb] at FS ⊢
  clear hwb
  go_enter Tryz.func60, Tryz.ntmps60
  go_wp2_with fail
  clear hB
  generalize w.alloc (.cells #[.pointer none, .slice none 0 0] 56) = W at *
  refine (FS.out W I0.out W0.out).mono ?_
  rintro e w1 ⟨rfl, k1, b1⟩
  have I1 : Hid (Lib.IsBuilder 56 5 B B (Lib.byteCells (wd ++ nsW (zs.take 0))) w1) := by
    show Lib.IsBuilder _ _ _ _ _ _
    rw [List.take_zero, show nsW [] = [] from rfl, List.append_nil]
    rw [← HWB.out] at k1
    exact .inr k1
  have B1 : Hid (Below B w w1) := W0.out.trans b1
  clear k1 b1 FS I0 W0
  go_wp2_with fail
  go_loopw [7, 12] (fun _ i wr => ∃ j : Nat, j ≤ n ∧ i = .int .i64 j ∧ Lib.IsBuilder 56 5 B B (Lib.byteCells (wd ++ nsW (zs.take j))) wr ∧ Below B w wr) (fun _ i _ => n - (intOf i).toNat)
  case atStart => exact ⟨0, Nat.zero_le _, rfl, I1.out, B1.out⟩
  case round =>
    clear I1 B1
    obtain ⟨j, hj, rfl, hI1, hB1⟩ := hrel
    have I1 : Hid (Lib.IsBuilder 56 5 B B (Lib.byteCells (wd ++ nsW (zs.take j))) wr) := hI1
    have B1 : Hid (Below B w wr) := hB1
    have kb : Below w.heap.size w wr := by rw [HB.out]; exact hB1
    have KB : Hid (Below w.heap.size w wr) := kb
    have LB : Hid (B ≤ wr.heap.size) := by show _ ≤ _; have := hB1.size; have := HB.out; omega
    have LL : Hid ((wd ++ nsW (zs.take j)).length ≤ 20000000) := by
      show _ ≤ _
      have h1 := ns_len (all_takenT HW.out j)
      have h2 : (zs.take j).length ≤ j := by rw [List.length_take]; omega
      have h3 := HN4.out
      rw [List.length_append]
      omega
    clear hI1 hB1
    by_cases hlt : j < n
    · have hJ : (j : Int) < (n : Int) := by omega
      have HL : Hid (j < n) := hlt
      obtain ⟨x, rfl, cx⟩ := (HR.out.stay kb).at j hlt
      have NX : Hid (_ = _) := ns_next zs j (by have := HN.out; omega)
      obtain ⟨z, hz⟩ : ∃ z, zs.getD j 0 = z := ⟨_, rfl⟩
      have ZB : Hid (0 ≤ z ∧ z ≤ 4294967295) := by rw [← hz]; exact all_at HW.out j
      rw [hz] at cx NX
      obtain ⟨D, hD⟩ : ∃ D, Lib.decDigits z.toNat = D := ⟨_, rfl⟩
      have DL : Hid (D.length ≤ 10) := by show _ ≤ _; rw [← hD]; exact dec_len10 ZB.out.1 ZB.out.2
      have FM : Hid (∀ u, Below w.heap.size w u → Calls Tryz.prog 73 #[.int .i64 z, .int .i64 10] u fun e w' => e = .returned (.string (bs D)) ∧ Below u.heap.size u w') := fun u hu => by
        have := i_formatT z ZB.out.1 ZB.out.2 u (Lib.tabBelow_of_tabIs HT.out _ hu)
        rwa [hD] at this
      rw [hD] at NX
      obtain ⟨L, hL⟩ : ∃ L, wd ++ nsW (zs.take j) = L := ⟨_, rfl⟩
      have EN : Hid (wd ++ nsW (zs.take (j + 1)) = L ++ [32] ++ D) := by
        show _ = _
        rw [NX.out, ← List.append_assoc, hL, List.append_assoc]
        rfl
      rw [hL] at LL I1
      clear hlt hj hz hD hL kb NX
      go_wp2_with fail
      clear cx
      refine (bd_byte B B _ 32 wr I1.out (by rw [Lib.byteCells_length]; have := LL.out; omega) LB.out).mono ?_
      rintro e w2 ⟨rfl, k2, b2⟩
      have K2 : Hid (Lib.IsBuilder 56 5 B B (Lib.byteCells (L ++ [32])) w2) := by
        show Lib.IsBuilder _ _ _ _ _ _
        rw [Lib.byteCells_append]
        exact .inr k2
      have B2 : Hid (Below B w w2) := B1.out.trans b2
      have KB2 : Hid (Below w.heap.size w w2) := by show Below _ _ _; rw [HB.out]; exact B2.out
      clear k2 b2
      go_wp2_with fail
      refine (FM.out w2 KB2.out).mono ?_
      rintro e w3 ⟨rfl, b3⟩
      have K3 : Hid (Lib.IsBuilder 56 5 B B (Lib.byteCells (L ++ [32])) w3) := isb_keepS K2.out b3
      have B3 : Hid (Below B w w3) := B2.out.trans (b3.mono (by have := B2.out.size; have := HB.out; omega))
      clear b3
      go_wp2_with fail
      refine (bd_string B B _ (bs D) w3 K3.out (by rw [Lib.byteCells_length, bs_size, List.length_append]; have := LL.out; have := DL.out; simp; omega) (by have := B3.out.size; have := HB.out; omega)).mono ?_
      rintro e w4 ⟨rfl, k4, b4⟩
      have K4 : Hid (Lib.IsBuilder 56 5 B B (Lib.byteCells (wd ++ nsW (zs.take (j + 1)))) w4) := by
        show Lib.IsBuilder _ _ _ _ _ _
        rw [EN.out, Lib.byteCells_append]
        exact .inr k4
      have B4 : Hid (Below B w w4) := B3.out.trans b4
      clear k4 b4
      go_wp2_with fail
      go_roundw
      case rel => exact ⟨j + 1, by have := HL.out; omega, by go_num, K4.out, B4.out⟩
      case measure => have := HL.out; simp [intOf]; omega
    · have hJ : ¬ (j : Int) < (n : Int) := by omega
      have EJ : Hid (zs.take j = zs) := by show _ = _; exact List.take_of_length_le (by have := HN.out; omega)
      rw [EJ.out] at LL I1
      have EN : Hid ((⟨(wd ++ nsW zs).toArray⟩ : ByteArray) = V) := by show _ = _; rw [← HV.out]; rfl
      clear hlt hj kb
      go_wp2_with fail
      refine (Tryz.Builder_String_any B B (wd ++ nsW zs) _ I1.out LB.out).mono ?_
      rintro e w4 ⟨rfl, b4⟩
      have B4 : Hid (Below w.heap.size w w4) := by show Below _ _ _; rw [HB.out]; exact B1.out.trans b4
      rw [EN.out]
      clear b4
      go_wp2_with fail
      go_ret
      exact ⟨rfl, B4.out⟩
theorem wn_len {wd : List UInt8} {zs : List Int} {n : Nat} (h : zs.all isW = true) (hz : n = zs.length) (hn : n ≤ 1048576) (hl : wd.length ≤ 10) : (wd ++ nsW zs).length ≤ 20000000 := by
  have := ns_len h
  rw [List.length_append]
  omega
set_option maxHeartbeats 2000000 in
theorem i_numbersB (wd : List UInt8) (a : Option Addr) (n c : Nat) (zs : List Int) (w : World) (hR : Rn w a n c zs) (hw : zs.all isW = true) (hn : n ≤ 1048576) (hl : wd.length ≤ 10) (ht : Lib.TabIs Tryz.prog w "internal/strconv.uint64pow10" .u64 Lib.pow10Tab) :
    Calls Tryz.prog 40 #[.string (bs wd), .slice a n c] w fun e w' => e = .returned (.string (bs (nlW wd zs))) ∧ Below w.heap.size w w' := by
  have LL := wn_len hw hR.len hn hl
  have FM := i_wordNums wd a n c zs w hR hw hn hl ht
  have EN : Hid (bs (wd ++ nsW zs) ++ ⟨#[10]⟩ = bs (nlW wd zs)) := by show _ = _; rw [nlW, bs_app]; rfl
  have z1 : ¬ 9223372036854775807 < (bs (wd ++ nsW zs)).size + 1 := by rw [bs_size]; omega
  have z2 : ¬ 9223372036854775807 ≤ (bs (wd ++ nsW zs)).size := by rw [bs_size]; omega
  clear LL hR hw hn hl ht
  generalize bs (wd ++ nsW zs) = S at *
  generalize bs (nlW wd zs) = V at *
  generalize bs wd = wb at *
  go_enter Tryz.func40, Tryz.ntmps40
  go_wp2_with (go_at_call 60; refine FM.mono ?_; clear FM; rintro e w1 ⟨rfl, b1⟩)
  go_ret
  exact ⟨by rw [← EN.out]; rfl, b1⟩
theorem i_numbers (wd : List UInt8) (a : Option Addr) (n c : Nat) (zs : List Int) (w : World) (hR : Rn w a n c zs) (hw : zs.all isW = true) (hn : n ≤ 40) (hl : wd.length ≤ 10) (ht : Lib.TabIs Tryz.prog w "internal/strconv.uint64pow10" .u64 Lib.pow10Tab) :
    Calls Tryz.prog 40 #[.string (bs wd), .slice a n c] w fun e w' => e = .returned (.string (bs (nlW wd zs))) ∧ Below w.heap.size w w' := i_numbersB wd a n c zs w hR hw (by omega) hl ht
theorem s_digits (z : Int) (h0 : 0 ≤ z) (h1 : z ≤ 4294967295) (w : World) : Calls Tryz.prog 51 #[.int .i64 z] w fun e w' => e = .returned (.string (bs (Lib.decDigits z.toNat))) ∧ Below w.heap.size w w' := by
  have t := spec_digits z.toNat (by omega) w
  rw [show ((z.toNat : Nat) : Int) = z by omega] at t
  exact t
set_option maxRecDepth 20000 in
set_option maxHeartbeats 8000000 in
theorem s_lineB (wd : List UInt8) (a : Option Addr) (n c : Nat) (zs : List Int) (w : World) (hR : Rn w a n c zs) (hw : zs.all isW = true) (hn : n ≤ 1048576) (hl : wd.length ≤ 10) :
    Calls Tryz.prog 32 #[.string (bs wd), .slice a n c] w fun e w' => e = .returned (.string (bs (nlW wd zs))) ∧ Below w.heap.size w w' := by
  obtain ⟨V, hV⟩ : ∃ V, bs (nlW wd zs) = V := ⟨_, rfl⟩
  rw [hV]
  have HV : Hid (bs (nlW wd zs) = V) := hV
  clear hV
  have HR : Hid (Rn w a n c zs) := hR
  have HW : Hid (zs.all isW = true) := hw
  have HN : Hid (n = zs.length) := hR.len
  have HN4 : Hid (n ≤ 1048576 ∧ wd.length ≤ 10) := ⟨hn, hl⟩
  have hI : (n : Int) ≤ 1048576 := by omega
  clear hR hw hn hl
  go_enter Tryz.func32, Tryz.ntmps32
  go_wp2_with fail
  go_loopw [0, 5] (fun u i wr => ∃ j : Nat, j ≤ n ∧ i = .int .i64 j ∧ u = .string (bs (wd ++ nsW (zs.take j))) ∧ Below w.heap.size w wr) (fun _ i _ => n - (intOf i).toNat)
  case atStart => exact ⟨0, Nat.zero_le _, rfl, by simp [nsW], Below.refl _ _⟩
  case round =>
    obtain ⟨j, hj, rfl, rfl, hB⟩ := hrel
    have HB : Hid (Below w.heap.size w wr) := hB
    have LL : Hid ((wd ++ nsW (zs.take j)).length ≤ 20000000) := by
      show _ ≤ _
      have h1 := ns_len (all_takenT HW.out j)
      have h2 : (zs.take j).length ≤ j := by rw [List.length_take]; omega
      have h3 := HN4.out
      rw [List.length_append]
      omega
    by_cases hlt : j < n
    · have hJ : (j : Int) < (n : Int) := by omega
      have HL : Hid (j < n) := hlt
      obtain ⟨x, rfl, cx⟩ := (HR.out.stay hB).at j hlt
      have NX : Hid (_ = _) := ns_next zs j (by have := HN.out; omega)
      obtain ⟨z, hz⟩ : ∃ z, zs.getD j 0 = z := ⟨_, rfl⟩
      have ZB : Hid (0 ≤ z ∧ z ≤ 4294967295) := by rw [← hz]; exact all_at HW.out j
      rw [hz] at cx NX
      obtain ⟨D, hD⟩ : ∃ D, Lib.decDigits z.toNat = D := ⟨_, rfl⟩
      have DL : Hid (D.length ≤ 10) := by show _ ≤ _; rw [← hD]; exact dec_len10 ZB.out.1 ZB.out.2
      have FM := s_digits z ZB.out.1 ZB.out.2 wr
      rw [hD] at FM NX
      obtain ⟨L, hL⟩ : ∃ L, wd ++ nsW (zs.take j) = L := ⟨_, rfl⟩
      have EN : Hid (bs (wd ++ nsW (zs.take (j + 1))) = (bs L ++ ⟨#[32]⟩) ++ bs D) := by
        show _ = _
        rw [NX.out, ← List.append_assoc, hL, show (⟨#[32]⟩ : ByteArray) = bs [32] from rfl, ← bs_app, ← bs_app, List.append_assoc]
        rfl
      rw [hL] at LL ⊢
      have z1 : ¬ 9223372036854775807 < (bs L).size + 1 := by rw [bs_size]; have := LL.out; omega
      have z0 : ¬ 9223372036854775807 ≤ (bs L).size := by rw [bs_size]; have := LL.out; omega
      have z2 : ¬ 9223372036854775807 < (bs L ++ (⟨#[32]⟩ : ByteArray)).size + (bs D).size := by rw [show (⟨#[32]⟩ : ByteArray) = bs [32] from rfl, ← bs_app, bs_size, bs_size]; have := DL.out; have := LL.out; simp; omega
      have z3 : ¬ 9223372036854775807 < (bs L).size + 1 + (bs D).size := by rw [bs_size, bs_size]; have := DL.out; have := LL.out; omega
      clear hlt hj hz hD hL hB
      go_wp2_with (go_at_call 51; refine FM.mono ?_; clear FM; rintro e w1 ⟨rfl, b1⟩)
      go_roundw
      case rel => exact ⟨j + 1, by have := HL.out; omega, by go_num, by rw [EN.out], on HB.out b1⟩
      case measure => have := HL.out; simp [intOf]; omega
    · have hJ : ¬ (j : Int) < (n : Int) := by omega
      have EJ : Hid (zs.take j = zs) := by show _ = _; exact List.take_of_length_le (by have := HN.out; omega)
      rw [EJ.out] at LL ⊢
      have EN : Hid (bs (wd ++ nsW zs) ++ ⟨#[10]⟩ = V) := by show _ = _; rw [← HV.out, nlW, bs_app]; rfl
      have z1 : ¬ 9223372036854775807 < (bs (wd ++ nsW zs)).size + 1 := by rw [bs_size]; have := LL.out; omega
      have z2 : ¬ 9223372036854775807 ≤ (bs (wd ++ nsW zs)).size := by rw [bs_size]; have := LL.out; omega
      clear hlt hj
      generalize bs (wd ++ nsW zs) = S at *
      go_wp2_with fail
      go_ret
      exact ⟨by rw [← EN.out]; rfl, hB⟩
theorem s_line (wd : List UInt8) (a : Option Addr) (n c : Nat) (zs : List Int) (w : World) (hR : Rn w a n c zs) (hw : zs.all isW = true) (hn : n ≤ 40) (hl : wd.length ≤ 10) :
    Calls Tryz.prog 32 #[.string (bs wd), .slice a n c] w fun e w' => e = .returned (.string (bs (nlW wd zs))) ∧ Below w.heap.size w w' := s_lineB wd a n c zs w hR hw (by omega) hl
end Go.Proofs.YtnggkofddokplaaGreatDoor
