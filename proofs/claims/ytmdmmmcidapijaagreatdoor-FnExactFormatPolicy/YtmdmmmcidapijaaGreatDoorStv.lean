/- Texts of machines: values, and lines of numbers by both. -/
import Derived.Test.YtmdmmmcidapijaaGreatDoorDigits
import Derived.Test.YtmdmmmcidapijaaGreatDoorShelf
import Derived.Test.YtmdmmmcidapijaaGreatDoorHnm
import Derived.Test.YtmdmmmcidapijaaGreatDoorHwo
import Derived.Lib.AppendIntMem
namespace Go.Proofs.YtmdmmmcidapijaaGreatDoor
open Go.RowKit
set_option linter.unusedVariables false

/-- A text, by its bytes. -/
def bs (l : List UInt8) : ByteArray := ⟨l.toArray⟩
theorem bs_size (l : List UInt8) : (bs l).size = l.length := size_mk l
theorem bs_app (l m : List UInt8) : bs (l ++ m) = bs l ++ bs m := by
  apply ByteArray.ext
  simp [bs, ByteArray.data_append]
theorem bs_lit (l : List UInt8) (a : Array UInt8) (h : l.toArray = a) : (⟨a⟩ : ByteArray) = bs l := by rw [bs, h]
/-- Numbers, each with a blank ahead. -/
def nsW (zs : List Int) : List UInt8 := zs.flatMap fun z => 32 :: Lib.decDigits z.toNat
def nlW (wd : List UInt8) (zs : List Int) : List UInt8 := wd ++ nsW zs ++ [10]
theorem ns_next (zs : List Int) (j : Nat) (h : j < zs.length) : nsW (zs.take (j + 1)) = nsW (zs.take j) ++ (32 :: Lib.decDigits (zs.getD j 0).toNat) := by
  rw [List.take_add_one, List.getElem?_eq_getElem h, List.getD_eq_getElem?_getD, List.getElem?_eq_getElem h]
  simp only [nsW, Option.toList, Option.getD, List.flatMap_append, List.flatMap_cons, List.flatMap_nil, List.append_nil]
theorem dec_len10 {z : Int} (h0 : 0 ≤ z) (h1 : z ≤ 4294967295) : (Lib.decDigits z.toNat).length ≤ 10 := dec_len z.toNat 9 (by omega)
theorem ns_len {zs : List Int} (h : zs.all isW = true) : (nsW zs).length ≤ 11 * zs.length := by
  induction zs with
  | nil => simp [nsW]
  | cons x t ih =>
    simp only [List.all_cons, Bool.and_eq_true] at h
    have h1 := isW_iff.1 h.1
    have h2 := dec_len10 h1.1 h1.2
    have h3 := ih h.2
    simp only [nsW, List.flatMap_cons, List.length_append, List.length_cons] at *
    omega
theorem all_takenT {zs : List Int} (h : zs.all isW = true) (j : Nat) : (zs.take j).all isW = true := by
  rw [List.all_eq_true] at h ⊢
  exact fun x hx => h x (List.mem_of_mem_take hx)
theorem nl_len {wd : List UInt8} {zs : List Int} (h : zs.all isW = true) (hn : zs.length ≤ 40) (hl : wd.length ≤ 10) : (nlW wd zs).length ≤ 500 := by
  have := ns_len h
  simp only [nlW, List.length_append, List.length_cons, List.length_nil]
  omega
theorem i_formatT (z : Int) (h0 : 0 ≤ z) (h1 : z ≤ 4294967295) (w : World) (ht : Lib.TabIs Tryz.prog w "internal/strconv.uint64pow10" .u64 Lib.pow10Tab) :
    Calls Tryz.prog 60 #[.int .i64 z, .int .i64 10] w fun e w' => e = .returned (.string (bs (Lib.decDigits z.toNat))) ∧ Below w.heap.size w w' := by
  refine (Tryz.strconv_FormatInt_10 z (by omega) (by omega) w ht).mono ?_
  rintro e w' ⟨rfl, k, os, rfl⟩
  exact ⟨by rw [Lib.itoa, if_neg (by omega)]; rfl, Lib.below_grow _ w (Nat.le_refl _) k os⟩
set_option maxRecDepth 20000 in
set_option maxHeartbeats 8000000 in
theorem i_numbers (wd : List UInt8) (a : Option Addr) (n c : Nat) (zs : List Int) (w : World) (hR : Rn w a n c zs) (hw : zs.all isW = true) (hn : n ≤ 40) (hl : wd.length ≤ 10) (ht : Lib.TabIs Tryz.prog w "internal/strconv.uint64pow10" .u64 Lib.pow10Tab) :
    Calls Tryz.prog 40 #[.string (bs wd), .slice a n c] w fun e w' => e = .returned (.string (bs (nlW wd zs))) ∧ Below w.heap.size w w' := by
  obtain ⟨V, hV⟩ : ∃ V, bs (nlW wd zs) = V := ⟨_, rfl⟩
  rw [hV]
  have HV : Hid (bs (nlW wd zs) = V) := hV
  clear hV
  have HR : Hid (Rn w a n c zs) := hR
  have HW : Hid (zs.all isW = true) := hw
  have HT : Hid (Lib.TabIs Tryz.prog w "internal/strconv.uint64pow10" .u64 Lib.pow10Tab) := ht
  have HN : Hid (n = zs.length) := hR.len
  have HN4 : Hid (n ≤ 40 ∧ wd.length ≤ 10) := ⟨hn, hl⟩
  have hI : (n : Int) ≤ 40 := by omega
  clear hR hw ht hn hl
  go_enter Tryz.func40, Tryz.ntmps40
  go_wp2_with fail
  go_loopw [5, 11] (fun u i wr => ∃ j : Nat, j ≤ n ∧ i = .int .i64 j ∧ u = .string (bs (wd ++ nsW (zs.take j))) ∧ Below w.heap.size w wr) (fun _ i _ => n - (intOf i).toNat)
  case atStart => exact ⟨0, Nat.zero_le _, rfl, by simp [nsW], Below.refl _ _⟩
  case round =>
    obtain ⟨j, hj, rfl, rfl, hB⟩ := hrel
    have HB : Hid (Below w.heap.size w wr) := hB
    have LL : Hid ((wd ++ nsW (zs.take j)).length ≤ 450) := by
      show _ ≤ _
      have h1 := ns_len (all_takenT HW.out j)
      have h2 : (zs.take j).length ≤ j := by rw [List.length_take]; omega
      have h3 := HN4.out
      rw [List.length_append]
      omega
    by_cases hlt : j < n
    · have hJ : (j : Int) < (n : Int) := by omega
      have HL : Hid (j < n) := hlt
      obtain ⟨x, rfl, cx⟩ := (HR.out.stay hB).at j hlt
      have NX : Hid (_ = _) := ns_next zs j (by have := HN.out; omega)
      obtain ⟨z, hz⟩ : ∃ z, zs.getD j 0 = z := ⟨_, rfl⟩
      have ZB : Hid (0 ≤ z ∧ z ≤ 4294967295) := by rw [← hz]; exact all_at HW.out j
      rw [hz] at cx NX
      obtain ⟨D, hD⟩ : ∃ D, Lib.decDigits z.toNat = D := ⟨_, rfl⟩
      have DL : Hid (D.length ≤ 10) := by show _ ≤ _; rw [← hD]; exact dec_len10 ZB.out.1 ZB.out.2
      have FM := i_formatT z ZB.out.1 ZB.out.2 wr (Lib.tabBelow_of_tabIs HT.out _ hB)
      rw [hD] at FM NX
      obtain ⟨L, hL⟩ : ∃ L, wd ++ nsW (zs.take j) = L := ⟨_, rfl⟩
      have EN : Hid (bs (wd ++ nsW (zs.take (j + 1))) = bs L ++ (⟨#[32]⟩ ++ bs D)) := by
        show _ = _
        rw [NX.out, ← List.append_assoc, hL, show (⟨#[32]⟩ : ByteArray) = bs [32] from rfl, ← bs_app, ← bs_app]
        rfl
      rw [hL] at LL ⊢
      have z1 : ¬ 9223372036854775807 < (⟨#[32]⟩ : ByteArray).size + (bs D).size := by rw [show (⟨#[32]⟩ : ByteArray) = bs [32] from rfl, bs_size, bs_size]; have := DL.out; simp; omega
      have z2 : ¬ 9223372036854775807 < (bs L).size + ((⟨#[32]⟩ : ByteArray) ++ bs D).size := by rw [show (⟨#[32]⟩ : ByteArray) = bs [32] from rfl, ← bs_app, bs_size, bs_size]; have := DL.out; have := LL.out; simp; omega
      have z3 : ¬ 9223372036854775807 < (bs L).size + (1 + (bs D).size) := by rw [bs_size, bs_size]; have := DL.out; have := LL.out; omega
      have z4 : ¬ 9223372036854775807 < 1 + (bs D).size := by rw [bs_size]; have := DL.out; omega
      clear hlt hj hz hD hL hB
      go_wp2_with (go_at_call 60; refine FM.mono ?_; clear FM; rintro e w1 ⟨rfl, b1⟩)
      go_roundw
      case rel => exact ⟨j + 1, by have := HL.out; omega, by go_num, by rw [EN.out], on HB.out b1⟩
      case measure => have := HL.out; simp [intOf]; omega
    · have hJ : ¬ (j : Int) < (n : Int) := by omega
      have EJ : Hid (zs.take j = zs) := by show _ = _; exact List.take_of_length_le (by have := HN.out; omega)
      rw [EJ.out] at LL ⊢
      have EN : Hid (bs (wd ++ nsW zs) ++ ⟨#[10]⟩ = V) := by show _ = _; rw [← HV.out, nlW, bs_app]; rfl
      have z1 : ¬ 9223372036854775807 < (bs (wd ++ nsW zs)).size + 1 := by rw [bs_size]; have := LL.out; omega
      have z2 : ¬ 9223372036854775807 ≤ (bs (wd ++ nsW zs)).size := by rw [bs_size]; have := LL.out; omega
      clear hlt hj
      generalize bs (wd ++ nsW zs) = S at *
      go_wp2_with fail
      go_ret
      exact ⟨by rw [← EN.out]; rfl, hB⟩
theorem s_digits (z : Int) (h0 : 0 ≤ z) (h1 : z ≤ 4294967295) (w : World) : Calls Tryz.prog 51 #[.int .i64 z] w fun e w' => e = .returned (.string (bs (Lib.decDigits z.toNat))) ∧ Below w.heap.size w w' := by
  have t := spec_digits z.toNat (by omega) w
  rw [show ((z.toNat : Nat) : Int) = z by omega] at t
  exact t
set_option maxRecDepth 20000 in
set_option maxHeartbeats 8000000 in
theorem s_line (wd : List UInt8) (a : Option Addr) (n c : Nat) (zs : List Int) (w : World) (hR : Rn w a n c zs) (hw : zs.all isW = true) (hn : n ≤ 40) (hl : wd.length ≤ 10) :
    Calls Tryz.prog 32 #[.string (bs wd), .slice a n c] w fun e w' => e = .returned (.string (bs (nlW wd zs))) ∧ Below w.heap.size w w' := by
  obtain ⟨V, hV⟩ : ∃ V, bs (nlW wd zs) = V := ⟨_, rfl⟩
  rw [hV]
  have HV : Hid (bs (nlW wd zs) = V) := hV
  clear hV
  have HR : Hid (Rn w a n c zs) := hR
  have HW : Hid (zs.all isW = true) := hw
  have HN : Hid (n = zs.length) := hR.len
  have HN4 : Hid (n ≤ 40 ∧ wd.length ≤ 10) := ⟨hn, hl⟩
  have hI : (n : Int) ≤ 40 := by omega
  clear hR hw hn hl
  go_enter Tryz.func32, Tryz.ntmps32
  go_wp2_with fail
  go_loopw [0, 5] (fun u i wr => ∃ j : Nat, j ≤ n ∧ i = .int .i64 j ∧ u = .string (bs (wd ++ nsW (zs.take j))) ∧ Below w.heap.size w wr) (fun _ i _ => n - (intOf i).toNat)
  case atStart => exact ⟨0, Nat.zero_le _, rfl, by simp [nsW], Below.refl _ _⟩
  case round =>
    obtain ⟨j, hj, rfl, rfl, hB⟩ := hrel
    have HB : Hid (Below w.heap.size w wr) := hB
    have LL : Hid ((wd ++ nsW (zs.take j)).length ≤ 450) := by
      show _ ≤ _
      have h1 := ns_len (all_takenT HW.out j)
      have h2 : (zs.take j).length ≤ j := by rw [List.length_take]; omega
      have h3 := HN4.out
      rw [List.length_append]
      omega
    by_cases hlt : j < n
    · have hJ : (j : Int) < (n : Int) := by omega
      have HL : Hid (j < n) := hlt
      obtain ⟨x, rfl, cx⟩ := (HR.out.stay hB).at j hlt
      have NX : Hid (_ = _) := ns_next zs j (by have := HN.out; omega)
      obtain ⟨z, hz⟩ : ∃ z, zs.getD j 0 = z := ⟨_, rfl⟩
      have ZB : Hid (0 ≤ z ∧ z ≤ 4294967295) := by rw [← hz]; exact all_at HW.out j
      rw [hz] at cx NX
      obtain ⟨D, hD⟩ : ∃ D, Lib.decDigits z.toNat = D := ⟨_, rfl⟩
      have DL : Hid (D.length ≤ 10) := by show _ ≤ _; rw [← hD]; exact dec_len10 ZB.out.1 ZB.out.2
      have FM := s_digits z ZB.out.1 ZB.out.2 wr
      rw [hD] at FM NX
      obtain ⟨L, hL⟩ : ∃ L, wd ++ nsW (zs.take j) = L := ⟨_, rfl⟩
      have EN : Hid (bs (wd ++ nsW (zs.take (j + 1))) = (bs L ++ ⟨#[32]⟩) ++ bs D) := by
        show _ = _
        rw [NX.out, ← List.append_assoc, hL, show (⟨#[32]⟩ : ByteArray) = bs [32] from rfl, ← bs_app, ← bs_app, List.append_assoc]
        rfl
      rw [hL] at LL ⊢
      have z1 : ¬ 9223372036854775807 < (bs L).size + 1 := by rw [bs_size]; have := LL.out; omega
      have z0 : ¬ 9223372036854775807 ≤ (bs L).size := by rw [bs_size]; have := LL.out; omega
      have z2 : ¬ 9223372036854775807 < (bs L ++ (⟨#[32]⟩ : ByteArray)).size + (bs D).size := by rw [show (⟨#[32]⟩ : ByteArray) = bs [32] from rfl, ← bs_app, bs_size, bs_size]; have := DL.out; have := LL.out; simp; omega
      have z3 : ¬ 9223372036854775807 < (bs L).size + 1 + (bs D).size := by rw [bs_size, bs_size]; have := DL.out; have := LL.out; omega
      clear hlt hj hz hD hL hB
      go_wp2_with (go_at_call 51; refine FM.mono ?_; clear FM; rintro e w1 ⟨rfl, b1⟩)
      go_roundw
      case rel => exact ⟨j + 1, by have := HL.out; omega, by go_num, by rw [EN.out], on HB.out b1⟩
      case measure => have := HL.out; simp [intOf]; omega
    · have hJ : ¬ (j : Int) < (n : Int) := by omega
      have EJ : Hid (zs.take j = zs) := by show _ = _; exact List.take_of_length_le (by have := HN.out; omega)
      rw [EJ.out] at LL ⊢
      have EN : Hid (bs (wd ++ nsW zs) ++ ⟨#[10]⟩ = V) := by show _ = _; rw [← HV.out, nlW, bs_app]; rfl
      have z1 : ¬ 9223372036854775807 < (bs (wd ++ nsW zs)).size + 1 := by rw [bs_size]; have := LL.out; omega
      have z2 : ¬ 9223372036854775807 ≤ (bs (wd ++ nsW zs)).size := by rw [bs_size]; have := LL.out; omega
      clear hlt hj
      generalize bs (wd ++ nsW zs) = S at *
      go_wp2_with fail
      go_ret
      exact ⟨by rw [← EN.out]; rfl, hB⟩
end Go.Proofs.YtmdmmmcidapijaaGreatDoor
