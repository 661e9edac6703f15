/- Texts of this seat, joined. -/
import Derived.WalkKit
import Derived.LaidEql
import Derived.Stop.Asserts
import Derived.RowKitTokens
import Derived.Deep.QuietTactic
import Derived.Test.YthnaggeilbcioaaGreatDoorQ09
import Derived.Test.YthnaggeilbcioaaGreatDoorQ10
namespace Go.Proofs.YthnaggeilbcioaaGreatDoor
open Go.RowKit
set_option linter.unusedVariables false

theorem ret_b {a b : Bool} (h : a = b) : Ending.returned (.bool a) = .returned (.bool b) := by rw [h]

set_option maxHeartbeats 1000000 in
theorem i_words (a : Option Addr) (n cap : Nat) (zs : List Int) (w : World) (h : Rn w a n cap zs) :
    Calls Tryz.prog 100 #[.slice a n cap] w fun e w' => e = .returned (.bool (zs.all isW)) ∧ w' = w := by
  have HN : Hid (n = zs.length) := h.len
  have HZ : Hid (Rn w a n cap zs) := h
  have hl : (n : Int) ≤ 9223372036854775807 := by have := h.cap; unfold maxLen at this; omega
  clear h
  go_enter Tryz.func100, Tryz.ntmps100
  go_wp2_with fail
  go_loop [4, 7] (fun _ i => ∃ j : Nat, j ≤ n ∧ i = .int .i64 j ∧ Hid ((zs.take j).all isW = true)) (fun _ i => n - (intOf i).toNat)
  case atStart => exact ⟨0, Nat.zero_le _, rfl, rfl⟩
  case round =>
    obtain ⟨j, hj, rfl, hA⟩ := hrel
    by_cases hlt : j < n
    · obtain ⟨x, rfl, c1⟩ := HZ.out.at j hlt
      have hJ : (j : Int) < (n : Int) := by omega
      have HL : Hid (j < zs.length) := by show _ < _; have := HN.out; omega
      obtain ⟨z, hz⟩ : ∃ z, zs.getD j 0 = z := ⟨_, rfl⟩
      rw [hz] at c1
      have HZZ : Hid (zs.getD j 0 = z) := hz
      clear hz hlt
      cases hw : isW z
      · have HW : Hid (isW z = false) := hw
        go_wp2_with (go_at_call 119; refine (impl_isWord _ _).mono ?_; rintro e x ⟨rfl, rfl⟩; rw [hw])
        go_ret
        exact ⟨ret_b (all_not zs j HL.out (by rw [HZZ.out]; exact HW.out)).symm, rfl⟩
      · have HW : Hid (isW z = true) := hw
        go_wp2_with (go_at_call 119; refine (impl_isWord _ _).mono ?_; rintro e x ⟨rfl, rfl⟩; rw [hw])
        go_round
        case rel => exact ⟨j + 1, by have := HL.out; have := HN.out; omega, by go_num, by show _ = _; rw [all_take zs j HL.out, hA.out, HZZ.out, HW.out]; rfl⟩
        case measure => have := HL.out; have := HN.out; simp [intOf]; omega
    · have hJ : ¬ (j : Int) < (n : Int) := by omega
      obtain rfl : j = n := by omega
      go_wp2_with fail
      go_ret
      exact ⟨ret_b (by have := hA.out; rw [List.take_of_length_le (Nat.le_of_eq HN.out.symm)] at this; exact this.symm), rfl⟩

theorem s_word (z : Int) (w : World) : Calls Tryz.prog 92 #[.int .i64 z] w fun e w' => e = .returned (.bool (isW z)) ∧ w' = w := by
  have hw : (decide (0 ≤ z) && decide (z ≤ 4294967295)) = isW z := rfl
  go_enter Tryz.func92, Tryz.ntmps92
  go_wp2_with (go_at_call 46; refine (spec_in _ _ _ _).mono ?_; rintro e x ⟨rfl, rfl⟩; rw [hw])
  go_ret
  exact ⟨rfl, rfl⟩

set_option maxHeartbeats 1000000 in
theorem s_words (a : Option Addr) (n cap : Nat) (zs : List Int) (w : World) (h : Rn w a n cap zs) :
    Calls Tryz.prog 91 #[.slice a n cap] w fun e w' => e = .returned (.bool (zs.all isW)) ∧ w' = w := by
  have HN : Hid (n = zs.length) := h.len
  have HZ : Hid (Rn w a n cap zs) := h
  have hl : (n : Int) ≤ 9223372036854775807 := by have := h.cap; unfold maxLen at this; omega
  clear h
  go_enter Tryz.func91, Tryz.ntmps91
  go_wp2_with fail
  go_loop [3] (fun i => ∃ j : Nat, j ≤ n ∧ i = .int .i64 j ∧ Hid ((zs.take j).all isW = true)) (fun i => n - (intOf i).toNat)
  case atStart => exact ⟨0, Nat.zero_le _, rfl, rfl⟩
  case round =>
    obtain ⟨j, hj, rfl, hA⟩ := hrel
    by_cases hlt : j < n
    · obtain ⟨x, rfl, c1⟩ := HZ.out.at j hlt
      have hJ : (j : Int) < (n : Int) := by omega
      have HL : Hid (j < zs.length) := by show _ < _; have := HN.out; omega
      obtain ⟨z, hz⟩ : ∃ z, zs.getD j 0 = z := ⟨_, rfl⟩
      rw [hz] at c1
      have HZZ : Hid (zs.getD j 0 = z) := hz
      clear hz hlt
      cases hw : isW z
      · have HW : Hid (isW z = false) := hw
        go_wp2_with (go_at_call 92; refine (s_word _ _).mono ?_; rintro e x ⟨rfl, rfl⟩; rw [hw])
        go_ret
        exact ⟨ret_b (all_not zs j HL.out (by rw [HZZ.out]; exact HW.out)).symm, rfl⟩
      · have HW : Hid (isW z = true) := hw
        go_wp2_with (go_at_call 92; refine (s_word _ _).mono ?_; rintro e x ⟨rfl, rfl⟩; rw [hw])
        go_round
        case rel => exact ⟨j + 1, by have := HL.out; have := HN.out; omega, by go_num, by show _ = _; rw [all_take zs j HL.out, hA.out, HZZ.out, HW.out]; rfl⟩
        case measure => have := HL.out; have := HN.out; simp [intOf]; omega
    · have hJ : ¬ (j : Int) < (n : Int) := by omega
      obtain rfl : j = n := by omega
      go_wp2_with fail
      go_ret
      exact ⟨ret_b (by have := hA.out; rw [List.take_of_length_le (Nat.le_of_eq HN.out.symm)] at this; exact this.symm), rfl⟩

theorem stand_tmod (z m : Int) (h : 0 ≤ z) : z.tmod m = z % m := Int.tmod_eq_emod_of_nonneg h
theorem i_stand (k z : Int) (w : World) (hz : 0 ≤ z) (hz2 : z ≤ 4294967295) :
    Calls Tryz.prog 120 #[.int .i64 k, .int .i64 z] w fun e w' => e = .returned (.int .i64 (standV k z)) ∧ w' = w := by
  have t4 := stand_tmod z 4 hz
  have t8 := stand_tmod z 8 hz
  by_cases h0 : k = 0
  · subst h0
    go_enter Tryz.func120, Tryz.ntmps120
    go_wp2_with fail
    go_ret
    exact ⟨by simp [standV], rfl⟩
  by_cases h7 : k = 7
  · subst h7
    go_enter Tryz.func120, Tryz.ntmps120
    go_wp2_with fail
    go_ret
    exact ⟨by simp [standV], rfl⟩
  by_cases h10 : k = 10
  · subst h10
    by_cases h8 : 8 < z
    · go_enter Tryz.func120, Tryz.ntmps120
      go_wp2_with fail
      go_ret
      exact ⟨by simp [standV, h8], rfl⟩
    · go_enter Tryz.func120, Tryz.ntmps120
      go_wp2_with fail
      go_ret
      exact ⟨ret_i (by unfold standV; rw [if_neg (by decide), if_neg (by decide), if_pos rfl, if_neg (by omega)]), rfl⟩
  by_cases h6 : k = 6
  · subst h6
    go_enter Tryz.func120, Tryz.ntmps120
    go_wp2_with fail
    go_ret
    exact ⟨by simp [standV], rfl⟩
  by_cases h8 : k = 8
  · subst h8
    go_enter Tryz.func120, Tryz.ntmps120
    go_wp2_with fail
    go_ret
    exact ⟨by simp [standV], rfl⟩
  have hv : standV k z = z := by simp [standV, h0, h7, h10, h6, h8]
  rw [hv]
  clear hv
  go_enter Tryz.func120, Tryz.ntmps120
  go_wp2_with fail
  go_ret
  exact ⟨rfl, rfl⟩

set_option maxHeartbeats 1000000 in
theorem i_allStand (x : Addr) (cap : Nat) (zs : List Int) (w : World) (h : Rn w (some x) 11 cap zs) (hw : zs.all isW = true) :
    Calls Tryz.prog 101 #[.slice (some x) 11 cap] w fun e w' => e = .returned (.bool (standC zs)) ∧ w' = w := by
  have HN : Hid (zs.length = 11) := h.len.symm
  have HZ : Hid (Rn w (some x) 11 cap zs) := h
  have HW : Hid (zs.all isW = true) := hw
  have HC : Hid ((∀ k : Nat, k < 11 → standV k (zs.getD k 0) = zs.getD k 0) ↔ standC zs = true) := stand_all hw h.len.symm
  clear h hw
  go_enter Tryz.func101, Tryz.ntmps101
  go_wp2_with fail
  go_loop [3, 4, 7] (fun _ _ i => ∃ j : Nat, j ≤ 11 ∧ i = .int .i64 j ∧ Hid (∀ k : Nat, k < j → standV k (zs.getD k 0) = zs.getD k 0)) (fun _ _ i => 11 - (intOf i).toNat)
  case atStart => exact ⟨0, Nat.zero_le _, rfl, fun k hk => absurd hk (Nat.not_lt_zero _)⟩
  case round =>
    obtain ⟨j, hj, rfl, hA⟩ := hrel
    by_cases hlt : j < 11
    · obtain ⟨x', e, c1⟩ := HZ.out.at j hlt
      cases e
      have hJ : (j : Int) < 11 := by omega
      have HL : Hid (j < 11) := hlt
      have ha := all_at HW.out j
      obtain ⟨z, hz⟩ : ∃ z, zs.getD j 0 = z := ⟨_, rfl⟩
      rw [hz] at c1 ha
      have HA : Hid (0 ≤ z ∧ z ≤ 4294967295) := ha
      have HZZ : Hid (zs.getD j 0 = z) := hz
      obtain ⟨u, hu⟩ : ∃ u, standV (j : Int) z = u := ⟨_, rfl⟩
      have HU : Hid (standV (j : Int) z = u) := hu
      clear hz hlt ha hu
      by_cases hs : u = z
      · have HS : Hid (u = z) := hs
        subst hs
        go_wp2_with (go_at_call 120; refine (i_stand _ _ _ HA.out.1 HA.out.2).mono ?_; rintro e x ⟨rfl, rfl⟩; rw [HU.out])
        go_round
        case rel => exact ⟨j + 1, by have := HL.out; omega, by go_num, fun k hk => by
          by_cases e : k = j
          · subst e; rw [HZZ.out]; exact HU.out
          · exact hA.out k (by omega)⟩
        case measure => have := HL.out; simp [intOf]; omega
      · have HS : Hid (¬ u = z) := hs
        go_wp2_with (go_at_call 120; refine (i_stand _ _ _ HA.out.1 HA.out.2).mono ?_; rintro e x ⟨rfl, rfl⟩; rw [HU.out])
        go_ret
        refine ⟨?_, rfl⟩
        cases hc : standC zs
        · rfl
        · exact absurd (HU.out.symm.trans (by have := HC.out.2 hc j HL.out; rw [HZZ.out] at this; exact this)) HS.out
    · have hJ : ¬ (j : Int) < 11 := by omega
      obtain rfl : j = 11 := by omega
      go_wp2_with fail
      go_ret
      exact ⟨ret_b (HC.out.1 hA.out).symm, rfl⟩
end Go.Proofs.YthnaggeilbcioaaGreatDoor
namespace Go.Proofs.YthnaggeilbcioaaGreatDoor
open Go.RowKit Go.Extern.Stop Go.Stop Go.Extern
set_option linter.unusedVariables false

theorem as_nil (t : Value) (w : World) : Calls Tryz.prog 112 #[.nilIface, t] w fun e w' => e = .returned (.bool false) ∧ w' = w := by
  go_enter Tryz.func112, Tryz.ntmps112
  go_wp2
  go_ret
  exact ⟨rfl, rfl⟩

theorem as_valueT (t : Addr) (w : World) : (ReflectliteValue.unpack (.iface 183 (.pointer (some t)))).run Tryz.prog w
    = .ok (.agg #[.pointer (some ⟨1, 183, none⟩), .pointer (some ⟨w.heap.size, 0, none⟩), .int .u64 150]) (w.alloc (.cells #[.pointer (some t)] 183)) := by kernel_rfl
theorem as_typeT (a : Addr) (w : World) : (ReflectliteValue.methodAny (ReflectliteValue.valueError "reflectlite.Value.Type" 0) (fun t _ _ _ => ReflectliteType.toType t) #[.agg #[.pointer (some ⟨1, 183, none⟩), .pointer (some a), .int .u64 150]]).run Tryz.prog w
    = .ok (.iface 206 (.agg #[.pointer (some ⟨1, 183, none⟩)])) w := by kernel_rfl
theorem as_mKind (h : Value) (w : World) : (Go.method 354 206 (.agg #[h]) "Kind").run Tryz.prog w = .ok (156, h) w := by kernel_rfl
theorem as_mElem (h : Value) (w : World) : (Go.method 354 206 (.agg #[h]) "Elem").run Tryz.prog w = .ok (167, .agg #[h]) w := by kernel_rfl
theorem as_mImpl (h : Value) (w : World) : (Go.method 354 206 (.agg #[h]) "Implements").run Tryz.prog w = .ok (168, .agg #[h]) w := by kernel_rfl
theorem as_mAssign (h : Value) (w : World) : (Go.method 354 206 (.agg #[h]) "AssignableTo").run Tryz.prog w = .ok (165, .agg #[h]) w := by kernel_rfl
theorem as_kindT (w : World) : ((ReflectliteType.abiMethod fun t => (fun a : Nat => Value.int IntKind.u8 (a : Int)) <$> Rtype.kind t) #[.pointer (some ⟨1, 183, none⟩)]).run Tryz.prog w = .ok (.int .u8 22) w := by kernel_rfl
theorem as_kindE (w : World) : ((ReflectliteType.abiMethod fun t => (fun a : Nat => Value.int IntKind.u8 (a : Int)) <$> Rtype.kind t) #[.pointer (some ⟨1, 181, none⟩)]).run Tryz.prog w = .ok (.int .u8 25) w := by kernel_rfl
theorem as_elemT (w : World) : (ReflectliteType.method ReflectliteType.elem #[.agg #[.pointer (some ⟨1, 183, none⟩)]]).run Tryz.prog w = .ok (.iface 206 (.agg #[.pointer (some ⟨1, 181, none⟩)])) w := by kernel_rfl
theorem as_implE (w : World) : (ReflectliteType.relation "Implements" ReflectliteType.implements_ #[.agg #[.pointer (some ⟨1, 181, none⟩)], .iface 206 (.agg #[.pointer (some ⟨1, 165, none⟩)])]).run Tryz.prog w = .ok (.bool true) w := by kernel_rfl
theorem as_typeOfE (v : Value) (w : World) : (ReflectliteType.typeOf #[.iface 181 v]).run Tryz.prog w = .ok (.iface 206 (.agg #[.pointer (some ⟨1, 181, none⟩)])) w := by kernel_rfl
theorem as_assignE (w : World) : (ReflectliteType.relation "AssignableTo" ReflectliteType.assignableTo #[.agg #[.pointer (some ⟨1, 181, none⟩)], .iface 206 (.agg #[.pointer (some ⟨1, 181, none⟩)])]).run Tryz.prog w = .ok (.bool true) w := by kernel_rfl
theorem as_valueE (c : Int) (w : World) : (ReflectliteValue.unpack (.iface 181 (.agg #[.int .i64 c]))).run Tryz.prog w
    = .ok (.agg #[.pointer (some ⟨1, 181, none⟩), .pointer (some ⟨w.heap.size, 0, none⟩), .int .u64 153]) (w.alloc (.cells #[.int .i64 c] 181)) := by kernel_rfl

theorem as_rlm (z : Sem Value) (f : TypeId → Addr → Nat → Nat → Sem Value) (v : Value) :
    ReflectliteValue.method z f #[v] = (do match ← ReflectliteValue.parts v with | none => z | some (t, a, fl) => f t a fl (fl % 32)) := rfl
theorem as_partsT (a : Addr) (w : World) : (ReflectliteValue.parts (.agg #[.pointer (some ⟨1, 183, none⟩), .pointer (some a), .int .u64 150])).run Tryz.prog w = .ok (some (183, a, 150)) w := by kernel_rfl
theorem as_isNilT (a p : Addr) (W : World) (ha : W.cell? a = some (.pointer (some p))) :
    (ReflectliteValue.method (ReflectliteValue.valueError "reflectlite.Value.IsNil" 0) ReflectliteValue.isNil #[.agg #[.pointer (some ⟨1, 183, none⟩), .pointer (some a), .int .u64 150]]).run Tryz.prog W = .ok (.bool false) W := by
  rw [as_rlm]
  simp only [Sem.run_bind, as_partsT, Result.andThen]
  simp [ReflectliteValue.isNil, loadVar, isAgg, underlying, Tryz.underlying183, ha, Result.andThen]
theorem as_elemOfT (w : World) : (Rtype.elem? 183).run Tryz.prog w = .ok (some 181) w := by kernel_rfl
theorem as_mkE (p : Addr) (w : World) : (ReflectliteValue.mk 181 p ReflectliteValue.flagAddr).run Tryz.prog w = .ok (.agg #[.pointer (some ⟨1, 181, none⟩), .pointer (some p), .int .u64 409]) w := by kernel_rfl
theorem as_elemV (a p : Addr) (W : World) (ha : W.cell? a = some (.pointer (some p))) :
    (ReflectliteValue.method (ReflectliteValue.valueError "reflectlite.Value.Elem" 0) ReflectliteValue.elem #[.agg #[.pointer (some ⟨1, 183, none⟩), .pointer (some a), .int .u64 150]]).run Tryz.prog W
      = .ok (.agg #[.pointer (some ⟨1, 181, none⟩), .pointer (some p), .int .u64 409]) W := by
  rw [as_rlm]
  simp only [Sem.run_bind, as_partsT, Result.andThen]
  simp [ReflectliteValue.elem, loadVar, isAgg, underlying, Tryz.underlying183, ha, Result.andThen, as_elemOfT, as_mkE]
theorem as_rls (v x : Value) : ReflectliteValue.set #[v, x] = (do
    let (some (dst, a, fl), some (src, b, _)) := (← ReflectliteValue.parts v, ← ReflectliteValue.parts x)
      | unsupported (.noEntry "extern/(internal/reflectlite.Value).Set.zeroValue")
    if fl / ReflectliteValue.flagAddr % 2 == 0 then unsupported (.noEntry "extern/(internal/reflectlite.Value).Set.unaddressable")
    let val ← loadVar src b
    if ← Rtype.directlyAssignable dst src then storeVar dst a val
    else if ← Rtype.implements dst src then
      if (← Rtype.kind src) == 20 then
        match val with
        | .nilIface => unsupported (.noEntry "extern/reflectlite: a nil value of one interface type handed on as a value of another")
        | _ => storeVar dst a val
      else storeVar dst a (.iface src val)
    else panicString ("reflectlite.Set: value of type " ++ (← Rtype.spelt src) ++ " is not assignable to type " ++ (← Rtype.spelt dst))
    pure (.tuple #[])) := rfl
theorem as_partsEa (a : Addr) (w : World) : (ReflectliteValue.parts (.agg #[.pointer (some ⟨1, 181, none⟩), .pointer (some a), .int .u64 409])).run Tryz.prog w = .ok (some (181, a, 409)) w := by kernel_rfl
theorem as_partsE (a : Addr) (w : World) : (ReflectliteValue.parts (.agg #[.pointer (some ⟨1, 181, none⟩), .pointer (some a), .int .u64 153])).run Tryz.prog w = .ok (some (181, a, 153)) w := by kernel_rfl
theorem as_direct (w : World) : (Rtype.directlyAssignable 181 181).run Tryz.prog w = .ok true w := by kernel_rfl
theorem as_loadE (b : Addr) (c : Int) (W : World) (hb : W.cell? b = some (.int .i64 c)) : (loadVar 181 b).run Tryz.prog W = .ok (.agg #[.int .i64 c]) W := by
  have e : b.add 0 = b := by cases b; rfl
  simp [loadVar, isAgg, underlying, Tryz.underlying181, Result.andThen, loadCells, loadCellsFrom, e, hb]
theorem as_setE (ta b : Addr) (c : Int) (old : Value) (W : World) (hb : W.cell? b = some (.int .i64 c)) (ht : W.cell? ta = some old) (hf : W.frozen? ta = false) :
    (ReflectliteValue.set #[.agg #[.pointer (some ⟨1, 181, none⟩), .pointer (some ta), .int .u64 409], .agg #[.pointer (some ⟨1, 181, none⟩), .pointer (some b), .int .u64 153]]).run Tryz.prog W
      = .ok (.tuple #[]) (W.setCell ta (.int .i64 c)) := by
  have e : ta.add 0 = ta := by cases ta; rfl
  rw [as_rls]
  simp only [Sem.run_bind, as_partsEa, as_partsE, Result.andThen]
  simp [ReflectliteValue.flagAddr, as_loadE b c W hb, Result.andThen, as_direct, storeVar, Value.cells, storeCells, e]
  rw [run_store Tryz.prog W ta _ _ (by rfl)]
  simp [ht, hf]

set_option maxHeartbeats 4000000 in
theorem as_hit (c : Int) (t : Addr) (old : Value) (w : World) (hg : w.cell? ⟨0, 0, none⟩ = some (.iface 206 (.agg #[.pointer (some ⟨1, 165, none⟩)]))) (ht0 : w.cell? t = some old) (hf0 : w.frozen? t = false) :
    Calls Tryz.prog 112 #[.iface 181 (.agg #[.int .i64 c]), .iface 183 (.pointer (some t))] w fun ev w' => ev = .returned (.bool true) ∧ ∃ w1, Below w.heap.size w w1 ∧ w' = w1.setCell t (.int .i64 c) := by
  have h6 := @run_callFunc_extern Tryz.prog 121 _ (fun args => ReflectliteValue.unpack (args.getD 0 (.tuple #[]))) Tryz.func121 (by kernel_rfl) (by kernel_rfl) (by kernel_rfl) (by kernel_rfl)
  have h7 := @run_callFunc_extern Tryz.prog 122 _ (ReflectliteValue.methodAny (ReflectliteValue.valueError "reflectlite.Value.Type" 0) (fun t _ _ _ => ReflectliteType.toType t)) Tryz.func122 (by kernel_rfl) (by kernel_rfl) (by kernel_rfl) (by kernel_rfl)
  have h8 := @run_callFunc_extern Tryz.prog 123 _ (ReflectliteValue.method (ReflectliteValue.valueError "reflectlite.Value.IsNil" 0) ReflectliteValue.isNil) Tryz.func123 (by kernel_rfl) (by kernel_rfl) (by kernel_rfl) (by kernel_rfl)
  have h27 := @run_callFunc_extern Tryz.prog 156 _ (ReflectliteType.abiMethod fun t => do pure (.int .u8 (← Rtype.kind t))) Tryz.func156 (by kernel_rfl) (by kernel_rfl) (by kernel_rfl) (by kernel_rfl)
  have h37 := @run_callFunc_extern Tryz.prog 167 _ (ReflectliteType.method ReflectliteType.elem) Tryz.func167 (by kernel_rfl) (by kernel_rfl) (by kernel_rfl) (by kernel_rfl)
  have h38 := @run_callFunc_extern Tryz.prog 168 _ (ReflectliteType.relation "Implements" ReflectliteType.implements_) Tryz.func168 (by kernel_rfl) (by kernel_rfl) (by kernel_rfl) (by kernel_rfl)
  have h10 := @run_callFunc_extern Tryz.prog 132 _ ReflectliteType.typeOf Tryz.func132 (by kernel_rfl) (by kernel_rfl) (by kernel_rfl) (by kernel_rfl)
  have h35 := @run_callFunc_extern Tryz.prog 165 _ (ReflectliteType.relation "AssignableTo" ReflectliteType.assignableTo) Tryz.func165 (by kernel_rfl) (by kernel_rfl) (by kernel_rfl) (by kernel_rfl)
  have h11 := @run_callFunc_extern Tryz.prog 133 _ (ReflectliteValue.method (ReflectliteValue.valueError "reflectlite.Value.Elem" 0) ReflectliteValue.elem) Tryz.func133 (by kernel_rfl) (by kernel_rfl) (by kernel_rfl) (by kernel_rfl)
  have h12 := @run_callFunc_extern Tryz.prog 134 _ ReflectliteValue.set Tryz.func134 (by kernel_rfl) (by kernel_rfl) (by kernel_rfl) (by kernel_rfl)
  have tO := as_typeOfE
  have mA := as_mAssign
  have aE := as_assignE
  have vE := as_valueE
  have f6 := as_valueT
  have f7 := as_typeT
  have mK := as_mKind
  have mE := as_mElem
  have mI := as_mImpl
  have kT := as_kindT
  have kE := as_kindE
  have eT := as_elemT
  have iE := as_implE
  have hlt : 0 < w.heap.size := block_of_cell hg
  have htl : t.block < w.heap.size := block_of_cell ht0
  have n8 := as_isNilT ⟨w.heap.size, 0, none⟩ t ((w.alloc (.cells #[.pointer (some t)] 183)).alloc (.cells #[.pointer (some ⟨1, 183, none⟩), .pointer (some ⟨w.heap.size, 0, none⟩), .int .u64 150] 189)) (by simp)
  have hg2 : ((w.alloc (.cells #[.pointer (some t)] 183)).alloc (.cells #[.pointer (some ⟨1, 183, none⟩), .pointer (some ⟨w.heap.size, 0, none⟩), .int .u64 150] 189)).cell? ⟨0, 0, none⟩ = some (.iface 206 (.agg #[.pointer (some ⟨1, 165, none⟩)])) := cell_push _ (cell_push _ hg)
  have el := as_elemV ⟨w.heap.size, 0, none⟩ t (((w.alloc (.cells #[.pointer (some t)] 183)).alloc (.cells #[.pointer (some ⟨1, 183, none⟩), .pointer (some ⟨w.heap.size, 0, none⟩), .int .u64 150] 189)).alloc (.cells #[.pointer (some ⟨1, 183, none⟩), .pointer (some ⟨w.heap.size, 0, none⟩), .int .u64 150] 189)) (by rw [World.cell?_alloc_lt _ _ ⟨w.heap.size, 0, none⟩ (by simp; omega)]; simp)
  have st := as_setE t ⟨w.heap.size + 1 + 1 + 1, 0, none⟩ c old ((((w.alloc (.cells #[.pointer (some t)] 183)).alloc (.cells #[.pointer (some ⟨1, 183, none⟩), .pointer (some ⟨w.heap.size, 0, none⟩), .int .u64 150] 189)).alloc (.cells #[.pointer (some ⟨1, 183, none⟩), .pointer (some ⟨w.heap.size, 0, none⟩), .int .u64 150] 189)).alloc (.cells #[.int .i64 c] 181))
    (by rw [World.cell?_alloc_at _ _ _ _ (by simp)]; rfl)
    (cell_push _ (cell_push _ (cell_push _ (cell_push _ ht0))))
    (by rw [World.frozen?_alloc_old _ _ t (by simp; omega), World.frozen?_alloc_old _ _ t (by simp; omega), World.frozen?_alloc_old _ _ t (by simp; omega), World.frozen?_alloc_old _ _ t (Nat.ne_of_lt htl)]; exact hf0)
  go_enter Tryz.func112, Tryz.ntmps112
  go_wp2
  refine wp_loop_rounds 1 ?_
  rw [rounds_succ]
  go_wp2
  go_ret
  exact ⟨rfl, _, al (al (al (al (Below.refl _ _) _) _) _) _, rfl⟩

end Go.Proofs.YthnaggeilbcioaaGreatDoor
namespace Go.Proofs.YthnaggeilbcioaaGreatDoor
open Go.RowKit
set_option linter.unusedVariables false

/-- A world that keeps what was there in W. -/
structure BW (W : World) where
  w : World
  h : Below W.heap.size W w

theorem region_bw {id : Nat} {Q : Exit → Act → World → Prop} {a : Act} {W : World} {l : List Oper} (hB : Region.lexB .any l.toArray = true)
    (h : wpQuiet Tryz.prog l.toArray (fun w' => ∃ p : BW W, w' = p.w) (fun a' => ∀ w', (∃ p : BW W, w' = p.w) → Q .normal a' w') l a) : (Code.region id l.toArray true).wp Tryz.prog Q a W :=
  wp_region_quiet (C := fun w' => ∃ p : BW W, w' = p.w) (by kernel_rfl) hB ⟨⟨{ W with drawn := W.drawn + 1 }, (Below.refl _ _).drew⟩, rfl⟩ (by simpa using h)
theorem calls_bw {f : FuncId} {args : Array Value} {W : World} {p : BW W} {v : Value}
    (h : Calls Tryz.prog f args p.w fun e w' => e = .returned v ∧ Below p.w.heap.size p.w w') : Calls Tryz.prog f args p.w fun e w'' => e = .returned v ∧ ∃ q : BW W, w'' = q.w :=
  h.mono fun _ w' ⟨he, hb⟩ => ⟨he, ⟨w', on p.h hb⟩, rfl⟩
theorem BW.cell {W : World} {a : Addr} {v : Value} (h : W.cell? a = some v) (p : BW W) : p.w.cell? a = some v := cell_keep p.h h
end Go.Proofs.YthnaggeilbcioaaGreatDoor
