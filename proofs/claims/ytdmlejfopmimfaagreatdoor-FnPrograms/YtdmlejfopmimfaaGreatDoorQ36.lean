/- Texts of this seat, joined. -/
import Derived.Test.YtdmlejfopmimfaaGreatDoorQ16
import Derived.Test.YtdmlejfopmimfaaGreatDoorQ27
import Derived.Test.YtdmlejfopmimfaaGreatDoorQ33
namespace Go.Proofs.YtdmlejfopmimfaaGreatDoor
open Go.RowKit
set_option linter.unusedVariables false

theorem size_appS (x y : ByteArray) : (x ++ y).size = x.size + y.size := by simp
theorem size_lit1 : (⟨#[10]⟩ : ByteArray).size = 1 := rfl
theorem size_lit6 : (⟨#[108, 97, 98, 101, 108, 32]⟩ : ByteArray).size = 6 := rfl
theorem size_lit5 : (⟨#[119, 111, 114, 100, 32]⟩ : ByteArray).size = 5 := rfl
theorem dec_tenS (n : Nat) (h : n < 4294967296) : (Lib.decDigits n).length ≤ 10 := Nat.le_trans (dec_len n 9 (by omega)) (by omega)
set_option maxRecDepth 20000 in
set_option maxHeartbeats 16000000 in
theorem source14 {w : World} {b k : Nat} {a : Option Addr} {len cap : Nat} {zs : List Int} (s : Src w b k a len cap zs) (hk : k ≤ 20000) :
    Calls Tryz.prog 22 #[.pointer (some ⟨b, 0, none⟩)] w fun e w' => ∃ T : ByteArray, e = .returned (.string T) ∧ T.size ≤ 1000 ∧ Turn b w w' := by
  have HH : Hid (b < w.heap.size) := s.here
  have ft := field_text
  go_enter Tryz.func22, Tryz.ntmps22
  go_wp2_with fail
  refine (next_any s (by omega) _).mono ?_
  rintro e w1 ⟨v1, rfl, h1, -, t1, s1⟩
  obtain ⟨l1, u1⟩ := h1 (by omega)
  obtain ⟨n, rfl⟩ : ∃ n : Nat, v1 = n := ⟨v1.toNat, by omega⟩
  have T1 : Hid (Turn b w w1) := t1
  have S1 : Hid (Src w1 b (k + 1) a len cap zs) := s1
  have HN : Hid (n ≤ 8 ∧ k ≤ 20000) := ⟨by omega, hk⟩
  clear h1 l1 u1 t1 s1 s hk
  go_wp2_with fail
  go_loopw [3, 4] (fun o c wr => ∃ (j k' : Nat) (T : ByteArray), j ≤ n ∧ c = .int .i64 j ∧ o = .string T ∧ T.size + 60 * j ≤ 60 * n ∧ k' + 20 * j ≤ k + 1 + 20 * n ∧ Turn b w wr ∧ Src wr b k' a len cap zs) (fun _ c _ => (intOf c).toNat)
  case atStart => exact ⟨n, k + 1, ⟨#[]⟩, Nat.le_refl _, rfl, rfl, by show 0 + _ ≤ _; omega, Nat.le_refl _, T1.out, S1.out⟩
  case round =>
    obtain ⟨j, k', T, hj, rfl, rfl, hT, hk', hTu, hS⟩ := hrel
    have HX : Hid (j ≤ n ∧ T.size + 60 * j ≤ 60 * n ∧ k' + 20 * j ≤ k + 1 + 20 * n) := ⟨hj, hT, hk'⟩
    have TJ : Hid (Turn b w wr) := hTu
    have SJ : Hid (Src wr b k' a len cap zs) := hS
    have hT1 : T.size ≤ 480 := by have := HN.out; omega
    clear hTu hS T1 S1 hT hk'
    by_cases hlt : 0 < j
    · have hJ : 0 < (j : Int) := by omega
      have hJ2 : (j : Int) ≤ 8 := by have := HX.out; have := HN.out; omega
      have HLT : Hid (0 < j) := hlt
      clear hlt hj
      go_wp2_with fail
      refine (next_any SJ.out (by have := HX.out; have := HN.out; omega) _).mono ?_
      rintro e w2 ⟨v2, rfl, h2, -, t2, s2⟩
      obtain ⟨l2, u2⟩ := h2 (by omega)
      have T2 : Hid (Turn b w w2) := TJ.out.trans t2
      have S2 : Hid (Src w2 b (k' + 1) a len cap zs) := s2
      clear h2 t2 s2 TJ SJ
      have hb2 := S2.out.here
      have hv : v2 = 0 ∨ v2 = 1 ∨ v2 = 2 ∨ v2 = 3 ∨ 4 ≤ v2 := by omega
      rcases hv with rfl | rfl | rfl | rfl | h4
      · go_wp2_with fail
        refine (next_any (S2.out.alloc _) (by have := HX.out; have := HN.out; omega) _).mono ?_
        rintro e w3 ⟨v3, rfl, h3, -, t3, s3⟩
        obtain ⟨l3, u3⟩ := h3 (by omega)
        have V3 : Vb w3 w2.heap.size #[.string ⟨#[108, 111, 111, 112]⟩, .string ⟨#[101, 110, 100]⟩, .string ⟨#[120]⟩] 9 := (Vb.new _ _ _).turn t3 (by omega)
        obtain ⟨X, hX, hXs⟩ : ∃ X : ByteArray, w3.cell? ⟨w2.heap.size, v3.toNat, none⟩ = some (.string X) ∧ X.size ≤ 20 := by
          have hv3 : v3 = 0 ∨ v3 = 1 ∨ v3 = 2 := by omega
          rcases hv3 with rfl | rfl | rfl
          · exact ⟨_, V3.cell 0 rfl, by decide⟩
          · exact ⟨_, V3.cell 1 rfl, by decide⟩
          · exact ⟨_, V3.cell 2 rfl, by decide⟩
        have z0 : ¬ 9223372036854775807 < T.size + 6 := by omega
        have z1 : ¬ 9223372036854775807 < T.size + 6 + X.size := by omega
        have z2 : ¬ 9223372036854775807 ≤ T.size + 6 + X.size := by omega
        have T3 : Hid (Turn b w w3) := (T2.out.trans (Turn.alloc b _ _)).trans t3
        have S3 : Hid (Src w3 b (k' + 1 + 1) a len cap zs) := s3
        clear h3 t3 s3 V3 S2 T2 hb2
        go_wp2_with fail
        clear hX z1 z2
        go_roundw
        case rel => exact ⟨j - 1, k' + 1 + 1, T ++ ⟨#[108, 97, 98, 101, 108, 32]⟩ ++ X ++ ⟨#[10]⟩, by have := HX.out; omega, by have := HLT.out; rw [show ((j - 1 : Nat) : Int) = (j : Int) - 1 by omega], rfl, by have := HX.out; have := HLT.out; rw [size_appS, size_appS, size_appS]; simp only [size_lit1, size_lit6]; omega, by have := HX.out; have := HLT.out; omega, T3.out, S3.out⟩
        case measure => have := HLT.out; show ((j : Int) - 1).toNat < ((j : Int)).toNat; omega
      · go_wp2_with fail
        refine (next_any (S2.out.alloc _) (by have := HX.out; have := HN.out; omega) _).mono ?_
        rintro e w3 ⟨v3, rfl, h3, -, t3, s3⟩
        obtain ⟨l3, u3⟩ := h3 (by omega)
        have V3 : Vb w3 w2.heap.size #[.string ⟨#[106, 117, 109, 112, 32, 48, 32, 64, 108, 111, 111, 112]⟩, .string ⟨#[101, 113, 32, 49, 32, 50, 32, 64, 101, 110, 100]⟩, .string ⟨#[110, 101, 32, 49, 32, 48, 32, 64, 120]⟩, .string ⟨#[108, 116, 32, 49, 32, 50, 32, 64, 108, 111, 111, 112]⟩] 9 := (Vb.new _ _ _).turn t3 (by omega)
        obtain ⟨X, hX, hXs⟩ : ∃ X : ByteArray, w3.cell? ⟨w2.heap.size, v3.toNat, none⟩ = some (.string X) ∧ X.size ≤ 20 := by
          have hv3 : v3 = 0 ∨ v3 = 1 ∨ v3 = 2 ∨ v3 = 3 := by omega
          rcases hv3 with rfl | rfl | rfl | rfl
          · exact ⟨_, V3.cell 0 rfl, by decide⟩
          · exact ⟨_, V3.cell 1 rfl, by decide⟩
          · exact ⟨_, V3.cell 2 rfl, by decide⟩
          · exact ⟨_, V3.cell 3 rfl, by decide⟩
        have z1 : ¬ 9223372036854775807 < T.size + X.size := by omega
        have z2 : ¬ 9223372036854775807 ≤ T.size + X.size := by omega
        have T3 : Hid (Turn b w w3) := (T2.out.trans (Turn.alloc b _ _)).trans t3
        have S3 : Hid (Src w3 b (k' + 1 + 1) a len cap zs) := s3
        clear h3 t3 s3 V3 S2 T2 hb2
        go_wp2_with fail
        clear hX z1 z2
        go_roundw
        case rel => exact ⟨j - 1, k' + 1 + 1, T ++ X ++ ⟨#[10]⟩, by have := HX.out; omega, by have := HLT.out; rw [show ((j - 1 : Nat) : Int) = (j : Int) - 1 by omega], rfl, by have := HX.out; have := HLT.out; rw [size_appS, size_appS]; simp only [size_lit1]; omega, by have := HX.out; have := HLT.out; omega, T3.out, S3.out⟩
        case measure => have := HLT.out; show ((j : Int) - 1).toNat < ((j : Int)).toNat; omega
      · go_wp2_with fail
        refine (word_any S2.out (by have := HX.out; have := HN.out; omega)).mono ?_
        rintro e w3 ⟨v3, rfl, h3, t3, s3⟩
        obtain ⟨m, rfl⟩ : ∃ m : Nat, v3 = m := ⟨v3.toNat, by have := h3.1; omega⟩
        have hm : m < 4294967296 := by have := h3.2; omega
        have T3 : Hid (Turn b w w3) := T2.out.trans t3
        have S3 : Hid (Src w3 b (k' + 1 + 5) a len cap zs) := s3
        clear h3 t3 s3 S2 T2
        go_wp2_with fail
        refine (spec_digits m hm w3).mono ?_
        rintro e w4 ⟨rfl, b4⟩
        have hd := dec_tenS m hm
        obtain ⟨X, hX⟩ : ∃ X : ByteArray, X = ⟨(Lib.decDigits m).toArray⟩ := ⟨_, rfl⟩
        have hXs : X.size ≤ 10 := by rw [hX, size_mk]; exact hd
        rw [← hX]
        have T4 : Hid (Turn b w w4) := T3.out.trans (Turn.of_below b4)
        have S4 : Hid (Src w4 b (k' + 1 + 5) a len cap zs) := S3.out.stay b4
        have z0 : ¬ 9223372036854775807 < T.size + 5 := by omega
        have z1 : ¬ 9223372036854775807 < T.size + 5 + X.size := by omega
        have z2 : ¬ 9223372036854775807 ≤ T.size + 5 + X.size := by omega
        clear hX hd b4 T3 S3 hm
        go_wp2_with fail
        clear z0 z1 z2
        go_roundw
        case rel => exact ⟨j - 1, k' + 1 + 5, T ++ ⟨#[119, 111, 114, 100, 32]⟩ ++ X ++ ⟨#[10]⟩, by have := HX.out; omega, by have := HLT.out; rw [show ((j - 1 : Nat) : Int) = (j : Int) - 1 by omega], rfl, by have := HX.out; have := HLT.out; rw [size_appS, size_appS, size_appS]; simp only [size_lit1, size_lit5]; omega, by have := HX.out; have := HLT.out; omega, T4.out, S4.out⟩
        case measure => have := HLT.out; show ((j : Int) - 1).toNat < ((j : Int)).toNat; omega
      · go_wp2_with fail
        refine (next_any (S2.out.alloc _) (by have := HX.out; have := HN.out; omega) _).mono ?_
        rintro e w3 ⟨v3, rfl, h3, -, t3, s3⟩
        obtain ⟨l3, u3⟩ := h3 (by omega)
        have V3 : Vb w3 w2.heap.size #[.string ⟨#[]⟩, .string ⟨#[32, 32]⟩, .string ⟨#[119, 105, 110, 107]⟩, .string ⟨#[97, 100, 100, 32, 49, 32, 50]⟩, .string ⟨#[108, 97, 98, 101, 108, 32, 65]⟩, .string ⟨#[108, 97, 98, 101, 108, 32, 120, 32, 121]⟩, .string ⟨#[119, 111, 114, 100, 32, 52, 50, 57, 52, 57, 54, 55, 50, 57, 54]⟩, .string ⟨#[97, 100, 100, 32, 49, 54, 32, 48, 32, 48]⟩, .string ⟨#[97, 100, 100, 105, 32, 49, 32, 50, 32, 64, 120]⟩, .string ⟨#[106, 117, 109, 112, 32, 48, 32, 64, 110, 111, 110, 101]⟩, .string ⟨#[119, 111, 114, 100, 32, 64, 120]⟩, .string ⟨#[104, 97, 108, 116, 32, 49]⟩, .string ⟨#[119, 111, 114, 100, 32, 49, 50, 51, 52, 53, 54, 55, 56, 57, 48, 49]⟩] 9 := (Vb.new _ _ _).turn t3 (by omega)
        obtain ⟨X, hX, hXs⟩ : ∃ X : ByteArray, w3.cell? ⟨w2.heap.size, v3.toNat, none⟩ = some (.string X) ∧ X.size ≤ 20 := by
          have hv3 : v3 = 0 ∨ v3 = 1 ∨ v3 = 2 ∨ v3 = 3 ∨ v3 = 4 ∨ v3 = 5 ∨ v3 = 6 ∨ v3 = 7 ∨ v3 = 8 ∨ v3 = 9 ∨ v3 = 10 ∨ v3 = 11 ∨ v3 = 12 := by omega
          rcases hv3 with rfl | rfl | rfl | rfl | rfl | rfl | rfl | rfl | rfl | rfl | rfl | rfl | rfl
          · exact ⟨_, V3.cell 0 rfl, by decide⟩
          · exact ⟨_, V3.cell 1 rfl, by decide⟩
          · exact ⟨_, V3.cell 2 rfl, by decide⟩
          · exact ⟨_, V3.cell 3 rfl, by decide⟩
          · exact ⟨_, V3.cell 4 rfl, by decide⟩
          · exact ⟨_, V3.cell 5 rfl, by decide⟩
          · exact ⟨_, V3.cell 6 rfl, by decide⟩
          · exact ⟨_, V3.cell 7 rfl, by decide⟩
          · exact ⟨_, V3.cell 8 rfl, by decide⟩
          · exact ⟨_, V3.cell 9 rfl, by decide⟩
          · exact ⟨_, V3.cell 10 rfl, by decide⟩
          · exact ⟨_, V3.cell 11 rfl, by decide⟩
          · exact ⟨_, V3.cell 12 rfl, by decide⟩
        have z1 : ¬ 9223372036854775807 < T.size + X.size := by omega
        have z2 : ¬ 9223372036854775807 ≤ T.size + X.size := by omega
        have T3 : Hid (Turn b w w3) := (T2.out.trans (Turn.alloc b _ _)).trans t3
        have S3 : Hid (Src w3 b (k' + 1 + 1) a len cap zs) := s3
        clear h3 t3 s3 V3 S2 T2 hb2
        go_wp2_with fail
        clear hX z1 z2
        go_roundw
        case rel => exact ⟨j - 1, k' + 1 + 1, T ++ X ++ ⟨#[10]⟩, by have := HX.out; omega, by have := HLT.out; rw [show ((j - 1 : Nat) : Int) = (j : Int) - 1 by omega], rfl, by have := HX.out; have := HLT.out; rw [size_appS, size_appS]; simp only [size_lit1]; omega, by have := HX.out; have := HLT.out; omega, T3.out, S3.out⟩
        case measure => have := HLT.out; show ((j : Int) - 1).toNat < ((j : Int)).toNat; omega
      · have d0 : ¬ v2 = 0 := by omega
        have d1 : ¬ v2 = 1 := by omega
        have d2 : ¬ v2 = 2 := by omega
        have d3 : ¬ v2 = 3 := by omega
        go_wp2_with fail
        refine (ins_any S2.out (by have := HX.out; have := HN.out; omega)).mono ?_
        rintro e w3 ⟨o3, d3', x3, i3, rfl, -, -, -, -, t3, s3⟩
        have T3 : Hid (Turn b w w3) := T2.out.trans t3
        have S3 : Hid (Src w3 b (k' + 1 + 7) a len cap zs) := s3
        clear t3 s3 S2 T2 d0 d1 d2 d3
        go_wp2_with fail
        refine (spec_insText o3 d3' x3 i3 w3).mono ?_
        rintro e w4 ⟨rfl, b4⟩
        have hXs := insS_len o3 d3' x3 i3
        generalize insS o3 d3' x3 i3 = X at *
        generalize insC o3 d3' x3 i3 = C
        have T4 : Hid (Turn b w w4) := T3.out.trans (Turn.of_below b4)
        have S4 : Hid (Src w4 b (k' + 1 + 7) a len cap zs) := S3.out.stay b4
        have z1 : ¬ 9223372036854775807 < T.size + X.size := by omega
        have z2 : ¬ 9223372036854775807 ≤ T.size + X.size := by omega
        clear b4 T3 S3
        go_wp2_with fail
        clear z1 z2
        go_roundw
        case rel => exact ⟨j - 1, k' + 1 + 7, T ++ X ++ ⟨#[10]⟩, by have := HX.out; omega, by have := HLT.out; rw [show ((j - 1 : Nat) : Int) = (j : Int) - 1 by omega], rfl, by have := HX.out; have := HLT.out; rw [size_appS, size_appS]; simp only [size_lit1]; omega, by have := HX.out; have := HLT.out; omega, T4.out, S4.out⟩
        case measure => have := HLT.out; show ((j : Int) - 1).toNat < ((j : Int)).toNat; omega
    · have hI : ¬ 0 < (j : Int) := by omega
      obtain rfl : j = 0 := by omega
      clear hlt hj hI
      by_cases he : T = ⟨#[]⟩
      · subst he
        go_wp2_with fail
        go_ret
        exact ⟨_, rfl, by decide, TJ.out⟩
      · have hne : (T.toList == []) = false := by
          have := ne_bytes he
          have e0 : (⟨#[]⟩ : ByteArray).toList = [] := by rw [ByteArray.toList_eq]
          rwa [e0] at this
        go_wp2_with fail
        refine (chance_any SJ.out (by have := HX.out; have := HN.out; omega) _).mono ?_
        rintro e w2 ⟨c2, rfl, t2, -⟩
        have T2 : Hid (Turn b w w2) := TJ.out.trans t2
        clear t2 SJ
        have hpos : 0 < T.size := by
          apply Classical.byContradiction
          intro h0
          apply he
          apply ByteArray.ext
          exact Array.eq_empty_of_size_eq_zero (by have : T.data.size = T.size := rfl; omega)
        cases c2
        · go_wp2_with fail
          go_ret
          exact ⟨_, rfl, by omega, T2.out⟩
        · have hmI : (T.size : Int) ≤ 1000 := by omega
          have hpI : 1 ≤ (T.size : Int) := by omega
          go_wp2_with fail
          go_ret
          refine ⟨_, rfl, ?_, T2.out⟩
          simp
          omega
theorem dsT_len (zs : List Int) : (dsT zs).length ≤ 40000 := by
  unfold dsT
  split
  · rename_i h
    unfold dsC at h
    split at h
    · cases h
    · split at h
      · cases h
      · rename_i h1 h2
        have := dsW_len (zs := zs) (by simpa using h2)
        omega
  · simp
set_option maxRecDepth 20000 in
set_option maxHeartbeats 8000000 in
theorem drawAsm_any {w : World} {a : Option Addr} {len cap : Nat} {zs : List Int} (hr : IsRow .u8 w a len cap zs) :
    Calls Tryz.prog 7 #[.slice a len cap] w fun e w' => ∃ T : ByteArray, e = .returned (.string T) ∧ T.size ≤ 40000 ∧ Below w.heap.size w w' := by
  have HR : Hid (IsRow .u8 w a len cap zs) := hr
  have ft := field_text
  clear hr
  go_enter Tryz.func7, Tryz.ntmps7
  go_wp2_with fail
  refine (source_any HR.out).mono ?_
  rintro e w1 ⟨rfl, b1, s1⟩
  obtain ⟨b, hb⟩ : ∃ b, w.heap.size = b := ⟨_, rfl⟩
  have HB : Hid (w.heap.size = b) := hb
  have B1 : Hid (Below w.heap.size w w1) := b1
  rw [hb] at s1 ⊢
  clear hb b1
  go_wp2_with fail
  refine (chance_any s1 (by omega) _).mono ?_
  rintro e w2 ⟨c2, rfl, t2, s2⟩
  have B2 : Hid (Below w.heap.size w w2) := B1.out.trans (t2.below (by rw [HB.out]; exact Nat.le_refl _) (B1.out.size))
  clear t2 s1 B1
  cases c2
  · go_wp2_with fail
    refine (source14 s2 (by omega)).mono ?_
    rintro e w3 ⟨T, rfl, hT, t3⟩
    have B3 : Hid (Below w.heap.size w w3) := B2.out.trans (t3.below (by rw [HB.out]; exact Nat.le_refl _) (B2.out.size))
    clear t3 s2
    go_wp2_with fail
    go_ret
    exact ⟨_, rfl, by omega, B3.out⟩
  · go_wp2_with fail
    refine (next_any s2 (by omega) _).mono ?_
    rintro e w3 ⟨v3, rfl, h3, -, t3, s3⟩
    obtain ⟨l3, u3⟩ := h3 (by omega)
    have B3 : Hid (Below w.heap.size w w3) := B2.out.trans (t3.below (by rw [HB.out]; exact Nat.le_refl _) (B2.out.size))
    clear h3 t3 s2 B2
    go_wp2_with fail
    refine (image_any s3 (by omega) v3 (by omega) (by omega)).mono ?_
    rintro e w4 ⟨v4, xs, k4, rfl, n4, e4, t4, s4, hk4⟩
    have B4 : Hid (Below w.heap.size w w4) := B3.out.trans (t4.below (by rw [HB.out]; exact Nat.le_refl _) (B3.out.size))
    have N4 : Hid (Nums w4 _ v4 xs) := n4
    obtain ⟨av, cv, rfl, _, _, _⟩ := n4.shape
    clear t4 s3 s4 hk4 e4 B3 n4
    go_wp2_with fail
    refine (s_dis _ xs _ _ N4.out).mono ?_
    rintro e w5 ⟨rfl, b5⟩
    have B5 : Hid (Below w.heap.size w w5) := on B4.out b5
    have hl := dsT_len xs
    have hs : (bs (dsT xs)).size = (dsT xs).length := by simp [bs, ByteArray.size]
    generalize bs (dsT xs) = X at *
    generalize dsC xs = C
    clear b5 B4
    go_wp2_with fail
    go_ret
    exact ⟨_, rfl, by omega, B5.out⟩
end Go.Proofs.YtdmlejfopmimfaaGreatDoor
