/- Texts of this seat, joined. -/
import Derived.Test.YtdmlejfopmimfaaGreatDoorQ04
import Derived.Test.YtdmlejfopmimfaaGreatDoorQ18
import Derived.Test.YtdmlejfopmimfaaGreatDoorQ26
namespace Go.Proofs.YtdmlejfopmimfaaGreatDoor
open Go.RowKit
set_option linter.unusedVariables false

/-- The line of a word. -/
def insB (z : Int) : ByteArray := insS (z / 16777216) (z / 1048576 % 16) (z / 65536 % 16) (z % 65536)
def dsL (z : Int) : List UInt8 := if decF z = 0 then (insB z).data.toList ++ [10] else nlW [119, 111, 114, 100] [z]
def dsW (zs : List Int) : List UInt8 := zs.flatMap dsL
def dsC (zs : List Int) : Int := if 80 < zs.length then 2 else if zs.all isW = false then 3 else 0
def dsT (zs : List Int) : List UInt8 := if dsC zs = 0 then dsW zs else []
theorem ds_next (zs : List Int) (j : Nat) (h : j < zs.length) : dsW (zs.take (j + 1)) = dsW (zs.take j) ++ dsL (zs.getD j 0) := by
  unfold dsW
  rw [List.take_add_one, List.flatMap_append, List.getElem?_eq_getElem h]
  simp [List.getD, List.getElem?_eq_getElem h]
theorem told_len (s : ByteArray) (b : Bool) (t : ByteArray) (n m : Nat) (hs : s.size ≤ n) (ht : t.size ≤ m) : (told s b t).size ≤ n + 1 + m := by
  unfold told
  cases b
  · simp only [Bool.false_eq_true, if_false, ByteArray.size_append]
    have : (⟨#[32]⟩ : ByteArray).size = 1 := rfl
    omega
  · simp only [if_true]; omega
theorem insS_len (op d a imm : Int) : (insS op d a imm).size ≤ 23 := by
  unfold insS
  by_cases h : insC op d a imm = 0
  · rw [if_pos h]
    have hb := insC_bounds h
    unfold insT
    have h1 := told_len _ (bareD op.toNat) _ 5 5 (nm_len op.toNat (by omega)) (decB_len d.toNat (by omega))
    have h2 := told_len _ (bareA op.toNat) _ 11 5 h1 (decB_len a.toNat (by omega))
    exact told_len _ (bareI op.toNat) _ 17 5 h2 (decB_len imm.toNat (by omega))
  · rw [if_neg h]; decide
theorem dsL_len (z : Int) (h : isW z = true) : (dsL z).length ≤ 500 := by
  unfold dsL
  by_cases h0 : decF z = 0
  · rw [if_pos h0]
    have := insS_len (z / 16777216) (z / 1048576 % 16) (z / 65536 % 16) (z % 65536)
    have e : (insB z).data.toList.length = (insB z).size := Array.length_toList
    rw [List.length_append, e]
    show (insS _ _ _ _).size + 1 ≤ 500
    omega
  · rw [if_neg h0]
    exact nl_len (by simp [h]) (by simp) (by simp)
theorem dsW_len {zs : List Int} (h : zs.all isW = true) : (dsW zs).length ≤ 500 * zs.length := by
  unfold dsW
  induction zs with
  | nil => simp
  | cons z zs ih =>
    simp only [List.all_cons, Bool.and_eq_true] at h
    have := dsL_len z h.1
    have := ih h.2
    simp only [List.flatMap_cons, List.length_append, List.length_cons]
    omega
theorem Rn.one {w : World} {g : Nat} {z : Int} (h : w.cell? ⟨g, 0, none⟩ = some (.int .i64 z)) : Rn w (some ⟨g, 0, none⟩) 1 1 [z] := by
  refine .inr ⟨_, rfl, Nat.le_refl _, by unfold maxLen; decide, rfl, fun i hi => ?_⟩
  obtain rfl : i = 0 := by omega
  exact h
theorem bs_snoc (s : ByteArray) (D : UInt8) : bs (s.data.toList ++ [D]) = s ++ ⟨#[D]⟩ := by
  rw [bs, bytes_snoc]

set_option maxHeartbeats 1000000 in
theorem i_lineOf (z : Int) (w : World) (h : isW z = true) (ht : Lib.TabIs Tryz.prog w "internal/strconv.uint64pow10" .u64 Lib.pow10Tab) :
    Calls Tryz.prog 20 #[.int .i64 z] w fun e w' => e = .returned (.string (bs (dsL z))) ∧ Below w.heap.size w w' := by
  have hd := fun w => impl_decode z w
  have HT : Hid (Lib.TabIs Tryz.prog w "internal/strconv.uint64pow10" .u64 Lib.pow10Tab) := ht
  obtain ⟨V, hV⟩ : ∃ V, bs (dsL z) = V := ⟨_, rfl⟩
  rw [hV]
  by_cases h0 : decF z = 0
  · have e1 : insB z ++ ⟨#[10]⟩ = V := by rw [← hV, dsL, if_pos h0, bs_snoc]
    have hsz := insS_len (z / 16777216) (z / 1048576 % 16) (z / 65536 % 16) (z % 65536)
    have z1 : ¬ 9223372036854775807 < (insB z).size + 1 := by show ¬ _ < (insS _ _ _ _).size + 1; omega
    have z2 : ¬ 9223372036854775807 ≤ (insB z).size := by show ¬ _ ≤ (insS _ _ _ _).size; omega
    have hi := fun w ht => impl_insText (z / 16777216) (z / 1048576 % 16) (z / 65536 % 16) (z % 65536) w ht
    simp only [decV, if_pos h0] at hd
    rw [show insC (z / 16777216) (z / 1048576 % 16) (z / 65536 % 16) (z % 65536) = 0 from h0] at hi
    have hi2 : ∀ w, Lib.TabIs Tryz.prog w "internal/strconv.uint64pow10" .u64 Lib.pow10Tab → Calls Tryz.prog 41 #[.agg #[.int .i64 (z / 16777216), .int .i64 (z / 1048576 % 16), .int .i64 (z / 65536 % 16), .int .i64 (z % 65536)]] w fun e w' => e = .returned (.agg #[.int .i64 0, .string (insB z)]) ∧ Below w.heap.size w w' := hi
    have E1 : Hid (insB z ++ ⟨#[10]⟩ = V) := e1
    have ft := field_text
    clear h0 hV hsz hi ht h e1
    generalize z / 16777216 = p at *
    generalize z / 1048576 % 16 = q at *
    generalize z / 65536 % 16 = r at *
    generalize z % 65536 = s at *
    generalize insB z = T at *
    go_enter Tryz.func20, Tryz.ntmps20
    go_wp2_with (first
      | (go_at_call 39; refine (hd _).mono ?_; rintro e w1 ⟨rfl, b1⟩)
      | (go_at_call 41; refine (hi2 _ (Lib.tabBelow_of_tabIs HT.out _ (al b1 _))).mono ?_; rintro e w2 ⟨rfl, b2⟩))
    go_ret
    exact ⟨by rw [← E1.out]; rfl, on (al b1 _) b2⟩
  · have hq : ∀ (g : Nat) (W : World), W.cell? ⟨g, 0, none⟩ = some (.int .i64 z) → Lib.TabIs Tryz.prog W "internal/strconv.uint64pow10" .u64 Lib.pow10Tab → _ := fun g W hc ht => i_numbers [119, 111, 114, 100] (some ⟨g, 0, none⟩) 1 1 [z] W (Rn.one hc) (by simp [h]) (by decide) (by decide) ht
    simp only [decV, if_neg h0] at hd
    have e1 : bs (nlW [119, 111, 114, 100] [z]) = V := by rw [← hV, dsL, if_neg h0]
    rw [e1] at hq
    rw [show bs [119, 111, 114, 100] = ⟨#[119, 111, 114, 100]⟩ from rfl] at hq
    clear h0 hV ht h e1
    go_enter Tryz.func20, Tryz.ntmps20
    go_wp2_with (first
      | (go_at_call 39; refine (hd _).mono ?_; rintro e w1 ⟨rfl, b1⟩)
      | (go_at_call 40; refine (hq _ _ (by simp) (Lib.tabBelow_of_tabIs HT.out _ (al (al b1 _) _))).mono ?_; rintro e w2 ⟨rfl, b2⟩))
    go_ret
    exact ⟨rfl, on (al (al b1 _) _) b2⟩
end Go.Proofs.YtdmlejfopmimfaaGreatDoor
