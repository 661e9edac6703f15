/- Texts of this seat, joined. -/
import Derived.Test.YtdmlejfopmimfaaGreatDoorQ04
import Derived.Test.YtdmlejfopmimfaaGreatDoorQ31
namespace Go.Proofs.YtdmlejfopmimfaaGreatDoor
open Go.RowKit
set_option linter.unusedVariables false

set_option maxHeartbeats 1000000 in
theorem i_dis_many (a : Option Addr) (n c : Nat) (w : World) (h : 80 < n) :
    Calls Tryz.prog 6 #[.slice a n c] w fun e w' => e = .returned (.agg #[.int .i64 2, .string ⟨#[]⟩]) ∧ Below w.heap.size w w' := by
  have hI : (80 : Int) < (n : Int) := by omega
  clear h
  go_enter Tryz.func6, Tryz.ntmps6
  go_wp2_with fail
  exact bodyPost_ret (v := .agg #[.int .i64 2, .string ⟨#[]⟩]) (by simp [results, Tryz.results6, go_sem]) rfl ⟨rfl, al (Below.refl _ _) _⟩
set_option maxHeartbeats 1000000 in
theorem i_dis_bad (a : Option Addr) (n c : Nat) (zs : List Int) (w : World) (hR : Rn w a n c zs) (h : n ≤ 80) (hw : zs.all isW = false) :
    Calls Tryz.prog 6 #[.slice a n c] w fun e w' => e = .returned (.agg #[.int .i64 3, .string ⟨#[]⟩]) ∧ Below w.heap.size w w' := by
  have hI : (n : Int) ≤ 80 := by omega
  have HR : Hid (Rn w a n c zs) := hR
  have hq : ∀ w, Rn w a n c zs → Calls Tryz.prog 18 #[.slice a n c] w fun e w' => e = .returned (.bool false) ∧ w' = w := fun w h => by have := i_words a n c zs w h; rw [hw] at this; exact this
  clear h hR hw
  go_enter Tryz.func6, Tryz.ntmps6
  go_wp2_with (go_at_call 18; refine (hq _ (HR.out.stay (al (Below.refl _ _) _))).mono ?_; rintro e x ⟨rfl, rfl⟩)
  exact bodyPost_ret (v := .agg #[.int .i64 3, .string ⟨#[]⟩]) (by simp [results, Tryz.results6, go_sem]) rfl ⟨rfl, al (Below.refl _ _) _⟩
set_option maxRecDepth 20000 in
set_option maxHeartbeats 4000000 in
theorem i_dis_good (a : Option Addr) (n c : Nat) (zs : List Int) (w : World) (hR : Rn w a n c zs) (hn : n ≤ 80) (hw : zs.all isW = true) (ht : Lib.TabIs Tryz.prog w "internal/strconv.uint64pow10" .u64 Lib.pow10Tab) :
    Calls Tryz.prog 6 #[.slice a n c] w fun e w' => e = .returned (.agg #[.int .i64 0, .string (bs (dsW zs))]) ∧ Below w.heap.size w w' := by
  have HR : Hid (Rn w a n c zs) := hR
  have HW : Hid (zs.all isW = true) := hw
  have HT : Hid (Lib.TabIs Tryz.prog w "internal/strconv.uint64pow10" .u64 Lib.pow10Tab) := ht
  have HN : Hid (n = zs.length) := hR.len
  have hI : (n : Int) ≤ 80 := by omega
  have HN4 : Hid (n ≤ 80) := hn
  have hq : ∀ w, Rn w a n c zs → Calls Tryz.prog 18 #[.slice a n c] w fun e w' => e = .returned (.bool true) ∧ w' = w := fun w h => by have := i_words a n c zs w h; rw [hw] at this; exact this
  obtain ⟨B, hB⟩ : ∃ B, w.heap.size + 1 = B := ⟨_, rfl⟩
  have HB : Hid (w.heap.size + 1 = B) := hB
  have I0 : Hid (Lib.IsBuilder 44 5 B B (Lib.byteCells (dsW (zs.take 0))) ((w.alloc (.cells #[.int .i64 0, .string ⟨#[]⟩] 27)).alloc (.cells #[.pointer none, .slice none 0 0] 44))) := by
    refine .inl ⟨Nat.le_refl _, .slice none 0 0, ?_, World.ownsRow_nil _ _ _ _, by intro e; cases e⟩
    rw [← hB, show w.heap.size + 1 = (w.alloc (.cells #[.int .i64 0, .string ⟨#[]⟩] 27)).heap.size by simp]; exact heap_alloc_new _ _
  have W0 : Hid (Below w.heap.size w ((w.alloc (.cells #[.int .i64 0, .string ⟨#[]⟩] 27)).alloc (.cells #[.pointer none, .slice none 0 0] 44))) := al (al (Below.refl _ _) _) _
  have V0 : Hid (Vb ((w.alloc (.cells #[.int .i64 0, .string ⟨#[]⟩] 27)).alloc (.cells #[.pointer none, .slice none 0 0] 44)) w.heap.size #[.int .i64 0, .string ⟨#[]⟩] 27) := (Vb.new _ _ _).push _
  have S0 : Hid (B ≤ ((w.alloc (.cells #[.int .i64 0, .string ⟨#[]⟩] 27)).alloc (.cells #[.pointer none, .slice none 0 0] 44)).heap.size) := by show _ ≤ _; rw [← hB]; simp
  clear hR hw ht hn
  go_enter Tryz.func6, Tryz.ntmps6
  go_wp2_with (go_at_call 18; refine (hq _ (HR.out.stay (al (Below.refl _ _) _))).mono ?_; rintro e x ⟨rfl, rfl⟩)
  generalize (w.alloc (.cells #[.int .i64 0, .string ⟨#[]⟩] 27)).alloc (.cells #[.pointer none, .slice none 0 0] 44) = W at *
  clear hB
  go_loopw [5, 16] (fun _ i wr => ∃ j : Nat, j ≤ n ∧ i = .int .i64 j ∧ Lib.IsBuilder 44 5 B B (Lib.byteCells (dsW (zs.take j))) wr ∧ Below B W wr) (fun _ i _ => n - (intOf i).toNat)
  case atStart => exact ⟨0, Nat.zero_le _, rfl, I0.out, Below.refl _ _⟩
  case round =>
    obtain ⟨j, hj, rfl, hI1, hB1⟩ := hrel
    have I1 : Hid (Lib.IsBuilder 44 5 B B (Lib.byteCells (dsW (zs.take j))) wr) := hI1
    have B1 : Hid (Below B W wr) := hB1
    have Bw : Hid (Below w.heap.size w wr) := W0.out.trans (hB1.mono (by have := HB.out; omega))
    have LB : Hid (B ≤ wr.heap.size) := by show _ ≤ _; have := hB1.size; have := S0.out; omega
    clear hI1 hB1
    by_cases hlt : j < n
    · have hJ : (j : Int) < (n : Int) := by omega
      have HL : Hid (j < n) := hlt
      obtain ⟨x, rfl, cx⟩ := (HR.out.stay Bw.out).at j hlt
      obtain ⟨z, hz⟩ : ∃ z, zs.getD j 0 = z := ⟨_, rfl⟩
      have ZB : Hid (0 ≤ z ∧ z ≤ 4294967295) := by rw [← hz]; exact all_at HW.out j
      have HZ : Hid (zs.getD j 0 = z) := hz
      rw [hz] at cx
      have ZW : Hid (isW z = true) := by show _ = _; have := ZB.out; simp [isW]; omega
      have ll : Hid ((dsW (zs.take j)).length ≤ 40000) := by
        show _ ≤ _
        have h1 := dsW_len (all_takenT HW.out j)
        have h2 : (zs.take j).length = j := by rw [List.length_take]; have := HN.out; omega
        have h3 := HN4.out
        have h4 := HL.out
        rw [h2] at h1
        omega
      clear hlt hj hz
      go_wp2_with fail
      clear cx
      refine (i_lineOf z _ ZW.out (Lib.tabBelow_of_tabIs HT.out _ Bw.out)).mono ?_
      rintro e w1 ⟨rfl, b1⟩
      have I2 : Hid (Lib.IsBuilder 44 5 B B (Lib.byteCells (dsW (zs.take j))) w1) := isb_keepS I1.out b1
      have B2 : Hid (Below B W w1) := B1.out.trans (b1.mono LB.out)
      have LB1 : Hid (B ≤ w1.heap.size) := by show _ ≤ _; have := b1.size; have := LB.out; omega
      have dl : Hid ((dsL z).length ≤ 500) := dsL_len z ZW.out
      clear b1
      go_wp2_with fail
      refine (bd_string B B _ (bs (dsL z)) w1 I2.out (by rw [Lib.byteCells_length, bs_size]; have := ll.out; have := dl.out; omega) LB1.out).mono ?_
      rintro e w2 ⟨rfl, k2, b2⟩
      have K2 : Hid (Lib.IsBuilder 44 5 B B (Lib.byteCells (dsW (zs.take (j + 1)))) w2) := by
        show Lib.IsBuilder _ _ _ _ _ _
        rw [ds_next zs j (by have := HL.out; have := HN.out; omega), HZ.out, Lib.byteCells_append]
        exact .inr k2
      have B3 : Hid (Below B W w2) := B2.out.trans b2
      clear k2 b2
      go_wp2_with fail
      go_roundw
      case rel => exact ⟨j + 1, by have := HL.out; omega, by go_num, K2.out, B3.out⟩
      case measure => have := HL.out; simp [intOf]; omega
    · have hJ : ¬ (j : Int) < (n : Int) := by omega
      have EJ : Hid (zs.take j = zs) := by show _ = _; exact List.take_of_length_le (by have := HN.out; omega)
      clear hlt hj
      go_wp2_with fail
      refine (Tryz.Builder_String_any B B (dsW (zs.take j)) _ I1.out LB.out).mono ?_
      rintro e w1 ⟨rfl, b1⟩
      have B2 : Hid (Below B W w1) := B1.out.trans b1
      have V1 : Hid (Vb w1 w.heap.size #[.int .i64 0, .string ⟨#[]⟩] 27) := (B2.out.block w.heap.size (by have := HB.out; omega)).trans V0.out
      have E1 : Hid ((⟨(dsW (zs.take j)).toArray⟩ : ByteArray) = bs (dsW zs)) := by show _ = _; rw [EJ.out]; rfl
      have B3 : Hid (Below w.heap.size w w1) := W0.out.trans (B2.out.mono (by have := HB.out; omega))
      have k0 := V1.out.cell 0 rfl
      have k1 := V1.out.cell 1 rfl
      have f0 := V1.out.free 0
      have f1 := V1.out.free 1
      have ls := V1.out.lt
      clear b1
      generalize (⟨(dsW (zs.take j)).toArray⟩ : ByteArray) = T at *
      go_wp2_with fail
      exact bodyPost_ret (v := .agg #[.int .i64 0, .string T]) (by simp [results, Tryz.results6, go_sem, k0, k1]) rfl ⟨by rw [E1.out], (B3.out.setCell (by simp) _).setCell (by simp) _⟩
set_option maxHeartbeats 1000000 in
theorem s_dis_many (a : Option Addr) (n c : Nat) (w : World) (h : 80 < n) :
    Calls Tryz.prog 11 #[.slice a n c] w fun e w' => e = .returned (.agg #[.int .i64 2, .string ⟨#[]⟩]) ∧ Below w.heap.size w w' := by
  have hI : (80 : Int) < (n : Int) := by omega
  clear h
  go_enter Tryz.func11, Tryz.ntmps11
  go_wp2_with fail
  exact bodyPost_ret (v := .agg #[.int .i64 2, .string ⟨#[]⟩]) (by simp [results, Tryz.results11, go_sem]) rfl ⟨rfl, al (Below.refl _ _) _⟩
set_option maxHeartbeats 1000000 in
theorem s_dis_bad (a : Option Addr) (n c : Nat) (zs : List Int) (w : World) (hR : Rn w a n c zs) (h : n ≤ 80) (hw : zs.all isW = false) :
    Calls Tryz.prog 11 #[.slice a n c] w fun e w' => e = .returned (.agg #[.int .i64 3, .string ⟨#[]⟩]) ∧ Below w.heap.size w w' := by
  have hI : (n : Int) ≤ 80 := by omega
  have HR : Hid (Rn w a n c zs) := hR
  have hq : ∀ w, Rn w a n c zs → Calls Tryz.prog 30 #[.slice a n c] w fun e w' => e = .returned (.bool false) ∧ w' = w := fun w h => by have := s_words a n c zs w h; rw [hw] at this; exact this
  clear h hR hw
  go_enter Tryz.func11, Tryz.ntmps11
  go_wp2_with (go_at_call 30; refine (hq _ (HR.out.stay (al (Below.refl _ _) _))).mono ?_; rintro e x ⟨rfl, rfl⟩)
  exact bodyPost_ret (v := .agg #[.int .i64 3, .string ⟨#[]⟩]) (by simp [results, Tryz.results11, go_sem]) rfl ⟨rfl, al (Below.refl _ _) _⟩
set_option maxRecDepth 20000 in
set_option maxHeartbeats 4000000 in
theorem s_dis_good (a : Option Addr) (n c : Nat) (zs : List Int) (w : World) (hR : Rn w a n c zs) (hn : n ≤ 80) (hw : zs.all isW = true) :
    Calls Tryz.prog 11 #[.slice a n c] w fun e w' => e = .returned (.agg #[.int .i64 0, .string (bs (dsW zs))]) ∧ Below w.heap.size w w' := by
  have HR : Hid (Rn w a n c zs) := hR
  have HW : Hid (zs.all isW = true) := hw
  have HN : Hid (n = zs.length) := hR.len
  have hI : (n : Int) ≤ 80 := by omega
  have HN4 : Hid (n ≤ 80) := hn
  have hq : ∀ w, Rn w a n c zs → Calls Tryz.prog 30 #[.slice a n c] w fun e w' => e = .returned (.bool true) ∧ w' = w := fun w h => by have := s_words a n c zs w h; rw [hw] at this; exact this
  have W0 : Hid (Below w.heap.size w (w.alloc (.cells #[.int .i64 0, .string ⟨#[]⟩] 27))) := al (Below.refl _ _) _
  have V0 : Hid (Vb (w.alloc (.cells #[.int .i64 0, .string ⟨#[]⟩] 27)) w.heap.size #[.int .i64 0, .string ⟨#[]⟩] 27) := Vb.new _ _ _
  obtain ⟨V, hV⟩ : ∃ V, bs (dsW zs) = V := ⟨_, rfl⟩
  rw [hV]
  have HV : Hid (bs (dsW zs) = V) := hV
  have ft := field_text
  clear hR hw hn hV
  go_enter Tryz.func11, Tryz.ntmps11
  go_wp2_with (go_at_call 30; refine (hq _ (HR.out.stay (al (Below.refl _ _) _))).mono ?_; rintro e x ⟨rfl, rfl⟩)
  generalize w.alloc (.cells #[.int .i64 0, .string ⟨#[]⟩] 27) = W at *
  go_loopw [3, 4, 5, 6, 21] (fun u i _ _ _ wr => ∃ j : Nat, j ≤ n ∧ i = .int .i64 j ∧ u = .string (bs (dsW (zs.take j))) ∧ Below W.heap.size W wr) (fun _ i _ _ _ _ => n - (intOf i).toNat)
  case atStart => exact ⟨0, Nat.zero_le _, rfl, rfl, Below.refl _ _⟩
  case round =>
    obtain ⟨j, hj, rfl, rfl, hB1⟩ := hrel
    have B1 : Hid (Below W.heap.size W wr) := hB1
    have Bw : Hid (Below w.heap.size w wr) := on W0.out hB1
    clear hB1
    by_cases hlt : j < n
    · have hJ : (j : Int) < (n : Int) := by omega
      have HL : Hid (j < n) := hlt
      have NX : Hid (bs (dsW (zs.take (j + 1))) = bs (dsW (zs.take j)) ++ bs (dsL (zs.getD j 0))) := by show _ = _; rw [ds_next zs j (by have := HN.out; omega), bs_app]
      obtain ⟨x, rfl, cx⟩ := (HR.out.stay Bw.out).at j hlt
      obtain ⟨z, hz⟩ : ∃ z, zs.getD j 0 = z := ⟨_, rfl⟩
      have ZB : Hid (0 ≤ z ∧ z ≤ 4294967295) := by rw [← hz]; exact all_at HW.out j
      rw [hz] at cx NX
      have CX : Hid (wr.cell? (x.add j) = some (.int .i64 z)) := cx
      have ZW : Hid (isW z = true) := by show _ = _; have := ZB.out; simp [isW]; omega
      have ll : Hid ((dsW (zs.take j)).length ≤ 40000) := by
        show _ ≤ _
        have h1 := dsW_len (all_takenT HW.out j)
        have h2 : (zs.take j).length = j := by rw [List.length_take]; have := HN.out; omega
        have h3 := HN4.out
        have h4 := HL.out
        rw [h2] at h1
        omega
      obtain ⟨S, hS⟩ : ∃ S, bs (dsW (zs.take j)) = S := ⟨_, rfl⟩
      have SL : Hid (S.size ≤ 40000) := by show _ ≤ _; rw [← hS, bs_size]; exact ll.out
      rw [hS] at NX ⊢
      have hd := fun w => spec_l2Decode z w
      rw [if_pos ZB.out, and15, and15, and65535] at hd
      by_cases h0 : decF z = 0
      · have e1 : insB z ++ ⟨#[10]⟩ = bs (dsL z) := by rw [dsL, if_pos h0, bs_snoc]
        have hsz : (insB z).size ≤ 23 := insS_len (z / 16777216) (z / 1048576 % 16) (z / 65536 % 16) (z % 65536)
        rw [← e1] at NX
        have hi := fun w => spec_insText (z / 16777216) (z / 1048576 % 16) (z / 65536 % 16) (z % 65536) w
        rw [show insC (z / 16777216) (z / 1048576 % 16) (z / 65536 % 16) (z % 65536) = 0 from h0] at hi
        have hi2 : ∀ w, Calls Tryz.prog 32 #[.agg #[.int .i64 (z / 16777216), .int .i64 (z / 1048576 % 16), .int .i64 (z / 65536 % 16), .int .i64 (z % 65536)]] w fun e w' => e = .returned (.agg #[.int .i64 0, .string (insB z)]) ∧ Below w.heap.size w w' := hi
        rw [h0] at hd
        have hd2 : ∀ w, Calls Tryz.prog 31 #[.int .i64 z] w fun e w' => e = .returned (.tuple #[.agg #[.int .i64 (z / 16777216), .int .i64 (z / 1048576 % 16), .int .i64 (z / 65536 % 16), .int .i64 (z % 65536)], .bool true]) ∧ Below w.heap.size w w' := hd
        clear hd hi h0 e1 hlt hj hz hS ZB ZW
        generalize z / 16777216 = p at *
        generalize z / 1048576 % 16 = q at *
        generalize z / 65536 % 16 = r at *
        generalize z % 65536 = s at *
        generalize insB z = T at *
        have z1 : ¬ 9223372036854775807 < S.size + T.size := by have := SL.out; omega
        have z2 : ¬ 9223372036854775807 < S.size + T.size + 1 := by have := SL.out; omega
        have z3 : ¬ 9223372036854775807 ≤ S.size + T.size := by have := SL.out; omega
        go_wp2_with (first
          | (go_at_call 31; refine (hd2 _).mono ?_; rintro e w1 ⟨rfl, b1⟩)
          | (go_at_call 32; refine (hi2 _).mono ?_; rintro e w2 ⟨rfl, b2⟩))
        go_roundw
        case rel => exact ⟨j + 1, by have := HL.out; omega, by go_num, by rw [NX.out, ByteArray.append_assoc], on B1.out (on (al b1 _) b2)⟩
        case measure => have := HL.out; simp [intOf]; omega
      · have e1 : bs (nlW [119, 111, 114, 100] [z]) = bs (dsL z) := by rw [dsL, if_neg h0]
        have hsz : (bs (dsL z)).size ≤ 500 := by rw [bs_size]; exact dsL_len z ZW.out
        have hq2 : ∀ (g : Nat) (W : World), W.cell? ⟨g, 0, none⟩ = some (.int .i64 z) → _ := fun g W hc => s_line [119, 111, 114, 100] (some ⟨g, 0, none⟩) 1 1 [z] W (Rn.one hc) (by simp [ZW.out]) (by decide) (by decide)
        rw [e1] at hq2
        rw [show bs [119, 111, 114, 100] = ⟨#[119, 111, 114, 100]⟩ from rfl] at hq2
        rw [show (decF z == 0) = false from beq_eq_false_iff_ne.2 h0] at hd
        clear h0 e1 hlt hj hz hS ZB ZW
        generalize z / 16777216 = p at *
        generalize z / 1048576 % 16 = q at *
        generalize z / 65536 % 16 = r at *
        generalize z % 65536 = s at *
        generalize bs (dsL z) = T at *
        have z1 : ¬ 9223372036854775807 < S.size + T.size := by have := SL.out; omega
        go_wp2_with (first
          | (go_at_call 31; refine (hd _).mono ?_; rintro e w1 ⟨rfl, b1⟩; have cx := cell_keep (al b1 (.cells #[.int .i64 p, .int .i64 q, .int .i64 r, .int .i64 s] 72)) CX.out)
          | (go_at_call 33; refine (hq2 _ _ (by simp)).mono ?_; rintro e w2 ⟨rfl, b2⟩))
        go_roundw
        case rel => exact ⟨j + 1, by have := HL.out; omega, by go_num, by rw [NX.out], on B1.out (on (al (al b1 _) _) b2)⟩
        case measure => have := HL.out; simp [intOf]; omega
    · have hJ : ¬ (j : Int) < (n : Int) := by omega
      have EJ : Hid (zs.take j = zs) := by show _ = _; exact List.take_of_length_le (by have := HN.out; omega)
      have V1 : Hid (Vb wr w.heap.size #[.int .i64 0, .string ⟨#[]⟩] 27) := V0.out.keep B1.out
      rw [EJ.out, HV.out]
      have k0 := V1.out.cell 0 rfl
      have k1 := V1.out.cell 1 rfl
      have f0 := V1.out.free 0
      have f1 := V1.out.free 1
      have ls := V1.out.lt
      clear hlt hj
      go_wp2_with fail
      exact bodyPost_ret (v := .agg #[.int .i64 0, .string V]) (by simp [results, Tryz.results11, go_sem, k0, k1]) rfl ⟨rfl, (Bw.out.setCell (by simp) _).setCell (by simp) _⟩
theorem ds_cases (zs : List Int) : (80 < zs.length ∧ dsC zs = 2 ∧ dsT zs = []) ∨ (zs.length ≤ 80 ∧ zs.all isW = false ∧ dsC zs = 3 ∧ dsT zs = []) ∨ (zs.length ≤ 80 ∧ zs.all isW = true ∧ dsC zs = 0 ∧ dsT zs = dsW zs) := by
  by_cases h : 80 < zs.length
  · have e : dsC zs = 2 := by rw [dsC, if_pos h]
    exact .inl ⟨h, e, by rw [dsT, e]; rfl⟩
  · cases hw : zs.all isW
    · have e : dsC zs = 3 := by rw [dsC, if_neg h, if_pos hw]
      exact .inr (.inl ⟨by omega, rfl, e, by rw [dsT, e]; rfl⟩)
    · have e : dsC zs = 0 := by rw [dsC, if_neg h, if_neg (by rw [hw]; decide)]
      exact .inr (.inr ⟨by omega, rfl, e, by rw [dsT, if_pos e]⟩)
theorem i_dis (v : Value) (zs : List Int) (b : Nat) (w : World) (h : Nums w b v zs) (ht : Lib.TabIs Tryz.prog w "internal/strconv.uint64pow10" .u64 Lib.pow10Tab) :
    Calls Tryz.prog 6 #[v] w fun e w' => e = .returned (.agg #[.int .i64 (dsC zs), .string (bs (dsT zs))]) ∧ Below w.heap.size w w' := by
  obtain ⟨a, cap, rfl, _, _, _⟩ := h.shape
  rcases ds_cases zs with ⟨h1, e1, e2⟩ | ⟨h1, h2, e1, e2⟩ | ⟨h1, h2, e1, e2⟩
  · rw [e1, e2]; exact i_dis_many a _ cap w h1
  · rw [e1, e2]; exact i_dis_bad a _ cap zs w h.rn h1 h2
  · rw [e1, e2]; exact i_dis_good a _ cap zs w h.rn h1 h2 ht
theorem s_dis (v : Value) (zs : List Int) (b : Nat) (w : World) (h : Nums w b v zs) :
    Calls Tryz.prog 11 #[v] w fun e w' => e = .returned (.agg #[.int .i64 (dsC zs), .string (bs (dsT zs))]) ∧ Below w.heap.size w w' := by
  obtain ⟨a, cap, rfl, _, _, _⟩ := h.shape
  rcases ds_cases zs with ⟨h1, e1, e2⟩ | ⟨h1, h2, e1, e2⟩ | ⟨h1, h2, e1, e2⟩
  · rw [e1, e2]; exact s_dis_many a _ cap w h1
  · rw [e1, e2]; exact s_dis_bad a _ cap zs w h.rn h1 h2
  · rw [e1, e2]; exact s_dis_good a _ cap zs w h.rn h1 h2
end Go.Proofs.YtdmlejfopmimfaaGreatDoor
