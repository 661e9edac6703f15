/- The library's sort, at a few numbers. -/
import Derived.Test.YtnhebeehpkecfaaGreatDoorRcv
import Derived.Test.YtnhebeehpkecfaaGreatDoorBwq
import Derived.Deep.RegionWith
import Derived.Deep.QuietTactic
import Derived.BigQuiet
namespace Go.Proofs.YtnhebeehpkecfaaGreatDoor
open Go.RowKit
set_option linter.unusedVariables false

theorem less_nan (x : Int) (w : World) : Calls Tryz.prog 113 #[.int .i64 x] w fun e w' => e = .returned (.bool false) ∧ w' = w := by
  go_enter Tryz.func113, Tryz.ntmps113
  go_wp2_with fail
  go_ret
  exact ⟨by first | rfl | simp, rfl⟩
theorem less_int (x y : Int) (w : World) : Calls Tryz.prog 92 #[.int .i64 x, .int .i64 y] w fun e w' => e = .returned (.bool (decide (x < y))) ∧ w' = w := by
  go_enter Tryz.func92, Tryz.ntmps92
  go_wp2_with (go_at_call 113; refine (less_nan _ _).mono ?_; rintro e w ⟨rfl, rfl⟩)
  go_ret
  exact ⟨by first | rfl | simp, rfl⟩

theorem grown_dr {w w' : World} {r : Option Nat} (h : w.grownBy w' r) (n : Nat) : w.grownBy (w'.drewN n) r := ⟨h.os, h.tape, h.output, h.size, h.block⟩
theorem grown_as {w a b : World} {r : Option Nat} (h : w.grownBy a r) (h1 : b.os = a.os) (h2 : b.tape = a.tape) (h3 : b.output = a.output) (h4 : b.heap = a.heap) : w.grownBy b r :=
  ⟨h1.trans h.os, h2.trans h.tape, h3.trans h.output, by rw [h4]; exact h.size, fun k hk hn => by rw [h4]; exact h.block k hk hn⟩
theorem ins_up (S : List Int) (x : Int) (j : Nat) (h : Up S) (h1 : ∀ y ∈ S.drop j, x < y) (h2 : ∀ y ∈ S.take j, y < x) : Up (S.take j ++ x :: S.drop j) := by
  unfold Up at *
  rw [List.pairwise_append, List.pairwise_cons]
  refine ⟨h.sublist (List.take_sublist _ _), ⟨h1, h.sublist (List.drop_sublist _ _)⟩, fun a ha b hb => ?_⟩
  rcases List.mem_cons.1 hb with rfl | hb
  · exact h2 a ha
  · have := h2 a ha; have := h1 b hb; omega
theorem ins_mem (S : List Int) (x y : Int) (j : Nat) : y ∈ S.take j ++ x :: S.drop j ↔ (y = x ∨ y ∈ S) := by
  rw [List.mem_append, List.mem_cons]
  have e : y ∈ S ↔ (y ∈ S.take j ∨ y ∈ S.drop j) := by rw [← List.mem_append, List.take_append_drop]
  rw [e]
  constructor
  · rintro (h | h | h)
    · exact .inr (.inl h)
    · exact .inl h
    · exact .inr (.inr h)
  · rintro (h | h | h)
    · exact .inr (.inl h)
    · exact .inl h
    · exact .inr (.inr h)
theorem ins_get (S T : List Int) (x : Int) (k : Nat) (h : k < S.length) : (S.take (k + 1) ++ x :: S.drop (k + 1) ++ T).getD (k + 1) 0 = x ∧ (S.take (k + 1) ++ x :: S.drop (k + 1) ++ T).getD k 0 = S.getD k 0 := by
  constructor
  · rw [List.append_assoc, List.getD, List.getElem?_append_right (by rw [List.length_take]; omega), List.length_take, show k + 1 - min (k + 1) S.length = 0 by omega]
    rfl
  · rw [List.append_assoc, List.getD, List.getElem?_append_left (by rw [List.length_take]; omega), List.getElem?_take_of_lt (by omega)]
    rfl
theorem ins_swap (S T : List Int) (x : Int) (k : Nat) (h : k < S.length) : ((S.take (k + 1) ++ x :: S.drop (k + 1) ++ T).set (k + 1) (S.getD k 0)).set k x = S.take k ++ x :: S.drop k ++ T := by
  have e1 : S.take (k + 1) = S.take k ++ [S.getD k 0] := take_succ_getD S 0 k h
  have e2 : S.drop k = S.getD k 0 :: S.drop (k + 1) := drop_cons_getD S 0 k h
  have l1 : (S.take k).length = k := by rw [List.length_take]; omega
  rw [e1, e2]
  generalize S.take k = A at *
  generalize S.drop (k + 1) = B at *
  generalize S.getD k 0 = y at *
  subst l1
  rw [List.append_assoc, List.append_assoc, List.set_append_right _ _ (by omega), List.set_append_right _ _ (by omega)]
  simp
theorem ins_swap2 (S T : List Int) (x : Int) (k : Nat) (h : k < S.length) : ((S.take (k + 1) ++ x :: S.drop (k + 1) ++ T).set k x).set (k + 1) (S.getD k 0) = S.take k ++ x :: S.drop k ++ T := by
  rw [List.set_comm _ _ (by omega)]
  exact ins_swap S T x k h
theorem nodup_out (zs S : List Int) (i : Nat) (hd : zs.Nodup) (hi : i < zs.length) (hm : ∀ x, x ∈ S ↔ x ∈ zs.take i) : zs.getD i 0 ∉ S := by
  intro hx
  have h1 := (hm _).1 hx
  have h2 : zs = zs.take i ++ zs.getD i 0 :: zs.drop (i + 1) := by
    rw [← drop_cons_getD zs 0 i hi, List.take_append_drop]
  rw [h2] at hd
  exact (List.nodup_append.1 hd).2.2 _ h1 (zs.getD i 0) (List.mem_cons_self ..) rfl

set_option maxRecDepth 20000 in
set_option maxHeartbeats 4000000 in
theorem ins_sort (g n cap b : Nat) (zs : List Int) (w : World) (h : Nums w b (.slice (some ⟨g, 0, none⟩) n cap) zs) (hn : n ≤ 12) (hn1 : 1 ≤ n) (hd : zs.Nodup) :
    Calls Tryz.prog 86 #[.slice (some ⟨g, 0, none⟩) n cap, .int .i64 0, .int .i64 (n : Int)] w fun e w' => e = .returned (.tuple #[]) ∧ ∃ ys, Nums w' b (.slice (some ⟨g, 0, none⟩) n cap) ys ∧ Up ys ∧ (∀ x, x ∈ ys ↔ x ∈ zs) ∧ w.grownBy w' (some g) := by
  have HZ : Hid (Nums w b (.slice (some ⟨g, 0, none⟩) n cap) zs) := h
  have HL : Hid (n = zs.length ∧ 1 ≤ n ∧ n ≤ 12) := ⟨h.len, hn1, hn⟩
  have HD : Hid zs.Nodup := hd
  have hni : (n : Int) ≤ 12 := by omega
  clear h hn hn1 hd
  go_enter Tryz.func86, Tryz.ntmps86
  go_wp2_with fail
  go_loopw [6, 7] (fun c _ wr => ∃ (i : Nat) (S : List Int), 1 ≤ i ∧ i ≤ n ∧ c = .int .i64 i ∧ Nums wr b (.slice (some ⟨g, 0, none⟩) n cap) (S ++ zs.drop i) ∧ Hid (S.length = i ∧ Up S ∧ ∀ x, x ∈ S ↔ x ∈ zs.take i) ∧ w.grownBy wr (some g)) (fun c _ _ => n - (intOf c).toNat)
  case atStart =>
    refine ⟨1, zs.take 1, Nat.le_refl _, HL.out.2.1, rfl, by rw [List.take_append_drop]; exact HZ.out, ⟨by rw [List.length_take]; have := HL.out; omega, ?_, fun _ => Iff.rfl⟩, World.grownBy.refl _ _⟩
    have := HL.out
    cases hz : zs with
    | nil => rw [hz] at this; simp at this; omega
    | cons x t => simp [Up]
  case round =>
    obtain ⟨i, S, hi1, hin, rfl, hN, hS, hG⟩ := hrel
    have HN : Hid (Nums wr b _ _) := hN
    have HG : Hid (w.grownBy wr (some g)) := hG
    by_cases hlt : i < n
    · have hI : (i : Int) < (n : Int) := by omega
      have HI : Hid (i < n ∧ 1 ≤ i) := ⟨hlt, hi1⟩
      have HX : Hid (zs.getD i 0 ∉ S) := nodup_out zs S i HD.out (by have := HL.out; omega) hS.out.2.2
      have ED : Hid (zs.drop i = zs.getD i 0 :: zs.drop (i + 1)) := drop_cons_getD zs 0 i (by have := HL.out; omega)
      have EM : Hid (∀ y, y ∈ zs.take (i + 1) ↔ (y = zs.getD i 0 ∨ y ∈ zs.take i)) := fun y => by
        rw [take_succ_getD zs 0 i (by have := HL.out; omega), List.mem_append, List.mem_singleton]
        exact or_comm
      obtain ⟨T, hT⟩ : ∃ T, zs.drop (i + 1) = T := ⟨_, rfl⟩
      have HT : Hid (zs.drop (i + 1) = T) := hT
      generalize zs.getD i 0 = x at *
      have N0 : Hid (Nums wr b (.slice (some ⟨g, 0, none⟩) n cap) (S.take i ++ x :: S.drop i ++ T)) := by
        have h1 := HN.out
        rw [ED.out, HT.out] at h1
        rw [List.take_of_length_le (by have := hS.out.1; omega), List.drop_of_length_le (by have := hS.out.1; omega), List.append_assoc]
        exact h1
      clear hN hG hlt hT HN
      go_wp2_with fail
      go_loopw [7] (fun c wq => ∃ j : Nat, j ≤ i ∧ c = .int .i64 j ∧ Nums wq b (.slice (some ⟨g, 0, none⟩) n cap) (S.take j ++ x :: S.drop j ++ T) ∧ Hid (∀ y ∈ S.drop j, x < y) ∧ w.grownBy wq (some g)) (fun c _ => (intOf c).toNat)
      case atStart =>
        have hd0 : S.drop i = [] := List.drop_of_length_le (by have := hS.out.1; omega)
        exact ⟨i, Nat.le_refl _, rfl, N0.out, (show ∀ y ∈ S.drop i, x < y by rw [hd0]; intro y hy; cases hy), HG.out⟩
      case round =>
        clear HG N0
        obtain ⟨j, hj, rfl, hN, hY, hG⟩ := hrel
        have HN : Hid (Nums wr b _ _) := hN
        have HG : Hid (w.grownBy wr (some g)) := hG
        have FIN : Hid ((∀ y ∈ S.take j, y < x) → ∃ S', S'.length = i + 1 ∧ Up S' ∧ (∀ y, y ∈ S' ↔ y ∈ zs.take (i + 1)) ∧ Nums wr b (.slice (some ⟨g, 0, none⟩) n cap) (S' ++ zs.drop (i + 1))) := fun hlow =>
          ⟨S.take j ++ x :: S.drop j, by have := hS.out.1; simp; omega, ins_up S x j hS.out.2.1 hY.out hlow, fun y => by rw [ins_mem, EM.out, hS.out.2.2], by rw [HT.out]; exact hN⟩
        cases j with
        | zero =>
          obtain ⟨S', e1, e2, e3, e4⟩ := FIN.out (fun y hy => by simp at hy)
          have NE : Hid (Nums wr b (.slice (some ⟨g, 0, none⟩) n cap) (S' ++ zs.drop (i + 1))) := e4
          have SE : Hid (S'.length = i + 1 ∧ Up S' ∧ ∀ y, y ∈ S' ↔ y ∈ zs.take (i + 1)) := ⟨e1, e2, e3⟩
          clear hN hG e1 e2 e3 e4 FIN
          go_wp2_with fail
          go_quiet (fail)
          go_wp2_with fail
          go_roundw
          case rel => exact ⟨i + 1, S', by omega, by have := HI.out; omega, by go_num, NE.out, SE, grown_dr HG.out _⟩
          case measure => have := HI.out; simp [intOf]; omega
        | succ k =>
          have hkS : k < S.length := by have := hS.out.1; omega
          have hll : n = (S.take (k + 1) ++ x :: S.drop (k + 1) ++ T).length := hN.len
          have gg := ins_get S T x k hkS
          have c1 := hN.cell hll (k + 1) (by have := HI.out; omega)
          have c0 := hN.cell hll k (by have := HI.out; omega)
          rw [gg.1] at c1
          rw [gg.2] at c0
          have f1 := hN.free hll (k + 1)
          have f0 := hN.free hll k
          have NX : Hid (Nums ((wr.setCell ⟨g, k + 1, none⟩ (.int .i64 (S.getD k 0))).setCell ⟨g, k, none⟩ (.int .i64 x)) b (.slice (some ⟨g, 0, none⟩) n cap) (S.take k ++ x :: S.drop k ++ T)) := by
            have h1 := (hN.store (k + 1) (S.getD k 0)).1
            have h2 := (h1.store k x).1
            rw [ins_swap S T x k hkS] at h2
            exact h2
          have NX2 : Hid (Nums ((wr.setCell ⟨g, k, none⟩ (.int .i64 x)).setCell ⟨g, k + 1, none⟩ (.int .i64 (S.getD k 0))) b (.slice (some ⟨g, 0, none⟩) n cap) (S.take k ++ x :: S.drop k ++ T)) := by
            have h1 := (hN.store k x).1
            have h2 := (h1.store (k + 1) (S.getD k 0)).1
            rw [ins_swap2 S T x k hkS] at h2
            exact h2
          have GX : Hid (w.grownBy ((wr.setCell ⟨g, k + 1, none⟩ (.int .i64 (S.getD k 0))).setCell ⟨g, k, none⟩ (.int .i64 x)) (some g)) := grown_trans HG.out (grown_trans (grown_set wr ⟨g, k + 1, none⟩ _) (grown_set _ ⟨g, k, none⟩ _))
          have GX2 : Hid (w.grownBy ((wr.setCell ⟨g, k, none⟩ (.int .i64 x)).setCell ⟨g, k + 1, none⟩ (.int .i64 (S.getD k 0))) (some g)) := grown_trans HG.out (grown_trans (grown_set wr ⟨g, k, none⟩ _) (grown_set _ ⟨g, k + 1, none⟩ _))
          have YK : Hid (x < S.getD k 0 → ∀ y ∈ S.drop k, x < y) := fun hlt y hy => by
            rw [drop_cons_getD S 0 k hkS] at hy
            rcases List.mem_cons.1 hy with e | hy
            · rw [e]; exact hlt
            · exact hY.out y hy
          have LOW : Hid (¬ x < S.getD k 0 → ∀ y ∈ S.take (k + 1), y < x) := fun hlt y hy => by
            have hne : S.getD k 0 ≠ x := fun e => HX.out (by rw [← e]; exact getD_mem S 0 k hkS)
            have hu := hS.out.2.1
            rw [take_succ_getD S 0 k hkS, List.mem_append, List.mem_singleton] at hy
            rcases hy with hy | hy
            · have h3 : S = S.take k ++ S.getD k 0 :: S.drop (k + 1) := by rw [← drop_cons_getD S 0 k hkS, List.take_append_drop]
              unfold Up at hu
              rw [h3, List.pairwise_append] at hu
              have h4 := hu.2.2 y hy _ (List.mem_cons_self ..)
              have h5 : S.getD k 0 < x := by omega
              omega
            · omega
          generalize S.getD k 0 = yv at *
          have hw : IntKind.i64.wrap (((k + 1 : Nat) : Int) - 1) = (k : Int) := by rw [IntKind.wrap_i64]; omega
          have hgt : (0 : Int) < ((k + 1 : Nat) : Int) := by omega
          have hkn : ((k + 1 : Nat) : Int) < (n : Int) := by have := HI.out; omega
          have hkn0 : (k : Int) < (n : Int) := by have := HI.out; omega
          have HKI : Hid (k + 1 ≤ i) := hj
          clear hN hG hll gg hkS
          by_cases hxy : x < yv
          · have YY : Hid (∀ y ∈ S.drop k, x < y) := YK.out hxy
            clear FIN
            go_wp2_with fail
            go_quiet ((go_at_call 92; exact Calls.quiet_of_same (less_int _ _ _)))
            go_wp2_with fail
            go_region
            all_goals go_wp2_with fail
            all_goals go_roundw
            all_goals first
              | exact ⟨k, by have := HKI.out; omega, by go_num, by first | exact NX.out | exact NX2.out, YY, by first | exact GX.out | exact GX2.out | exact grown_as GX.out rfl rfl rfl rfl | exact grown_as GX2.out rfl rfl rfl rfl⟩
              | (have := HKI.out; simp [intOf] <;> omega)
          · obtain ⟨S', e1, e2, e3, e4⟩ := FIN.out (LOW.out hxy)
            have NE : Hid (Nums wr b (.slice (some ⟨g, 0, none⟩) n cap) (S' ++ zs.drop (i + 1))) := e4
            have SE : Hid (S'.length = i + 1 ∧ Up S' ∧ ∀ y, y ∈ S' ↔ y ∈ zs.take (i + 1)) := ⟨e1, e2, e3⟩
            clear e1 e2 e3 e4 FIN
            go_wp2_with fail
            go_quiet ((go_at_call 92; exact Calls.quiet_of_same (less_int _ _ _)))
            go_wp2_with fail
            go_roundw
            case rel => exact ⟨i + 1, S', by omega, by have := HI.out; omega, by go_num, NE.out, SE, grown_dr HG.out _⟩
            case measure => have := HI.out; simp [intOf]; omega
    · have hI : ¬ (i : Int) < (n : Int) := by omega
      have HE : Hid (i = zs.length) := by show _ = _; have := HL.out; omega
      clear hN hG hlt
      go_wp2_with fail
      refine bodyPost_end (v := .tuple #[]) (by simp [results, Tryz.results86]) rfl ⟨rfl, S, ?_, hS.out.2.1, fun x => by rw [hS.out.2.2, HE.out, List.take_length], HG.out⟩
      have := HN.out
      rwa [HE.out, List.drop_length, List.append_nil] at this
end Go.Proofs.YtnhebeehpkecfaaGreatDoor
