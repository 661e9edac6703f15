/- Texts of this seat, joined. -/
import Derived.Deep.RegionWith
import Derived.Deep.Cut
import Derived.Deep.CutRange
import Derived.Test.YtgacbocibeihiaaGreatDoorQ21
import Derived.Test.YtgacbocibeihiaaGreatDoorQ47
namespace Go.Proofs.YtgacbocibeihiaaGreatDoor
open Go.RowKit
set_option linter.unusedVariables false

set_option maxRecDepth 20000 in
set_option maxHeartbeats 8000000 in
theorem i_pass (q j : Nat) (l c : Int) (x : Addr) (n cap : Nat) (rs : List (Int × Int)) (w0 w : World) (hv : Vb w q #[.int .i64 (j : Int), .int .i64 l, .int .i64 c] 67) (b0 : Below w0.heap.size w0 w) (hq : w0.heap.size ≤ q) (hp : IsPairs w0 (some x) n cap rs) (hj : j < n) (h8 : n ≤ 8) (hl : 1 ≤ l ∧ l ≤ 50) (hc : 0 ≤ c ∧ c ≤ 2000000) :
    Calls Tryz.prog 25 #[.pointer (some ⟨q, 0, none⟩), .slice (some x) n cap] w fun e w' => e = .returned (.tuple #[]) ∧ Vb w' q #[.int .i64 (if l - 1 = 0 then ((j : Int) + 1) % n else (j : Int)), .int .i64 (if l - 1 = 0 then (rs.getD (((j : Int) + 1) % n).toNat (0, 0)).2 else l - 1), .int .i64 (c + 1)] 67 ∧ Mq (fun k => k = q) w w' := by
  have HV : Hid (Vb w q #[.int .i64 (j : Int), .int .i64 l, .int .i64 c] 67) := hv
  have v0 : w.cell? ⟨q, 0, none⟩ = some (.int .i64 (j : Int)) := hv.cell 0 rfl
  have v1 : w.cell? ⟨q, 1, none⟩ = some (.int .i64 l) := hv.cell 1 rfl
  have v2 : w.cell? ⟨q, 2, none⟩ = some (.int .i64 c) := hv.cell 2 rfl
  have f0 := hv.free 0
  have f1 := hv.free 1
  have f2 := hv.free 2
  have lt := hv.lt
  have c0 := hc.1
  have c1 := hc.2
  have l0 := hl.1
  have l1 := hl.2
  by_cases h1 : l - 1 = 0
  · obtain rfl : l = 1 := by omega
    rw [if_pos (by decide), if_pos (by decide)]
    have hm0 : 0 ≤ ((j : Int) + 1) % (n : Int) := Int.emod_nonneg _ (by omega)
    have hm1 : ((j : Int) + 1) % (n : Int) < (n : Int) := Int.emod_lt_of_pos _ (by omega)
    have tm : ((j : Int) + 1).tmod (n : Int) = ((j : Int) + 1) % (n : Int) := Int.tmod_eq_emod_of_nonneg (by omega)
    obtain ⟨i, hi⟩ := Int.eq_ofNat_of_zero_le hm0
    rw [hi] at tm hm0 hm1 ⊢
    rw [Int.toNat_natCast]
    have iN : i < n := by omega
    have n8 : (n : Int) ≤ 8 := by omega
    have n0 : ¬ (n : Int) = 0 := by omega
    have j8 : (j : Int) < 8 := by omega
    have HPP : Hid (IsPairs w0 (some x) n cap rs) := hp
    obtain ⟨x', hx', _, k1⟩ := hp.at i iN
    rw [← Option.some.inj hx'] at k1
    have K1 : Hid (∀ u, Below w0.heap.size w0 u → u.cell? ⟨(x.add (i * 2)).block, (x.add (i * 2)).off + 1, none⟩ = some (.int .i64 (rs.getD i (0, 0)).2)) := fun u hu => cell_keep hu k1
    obtain ⟨z, hz⟩ : ∃ z, (rs.getD i (0, 0)).2 = z := ⟨_, rfl⟩
    rw [hz] at K1 ⊢
    have B0 : Hid (Below w0.heap.size w0 w) := b0
    have HQ : Hid (w0.heap.size ≤ q) := hq
    clear hx' k1 hz hi hc hl h1 hp hv b0 hq
    have wr1 : IntKind.i64.wrap (c + 1) = c + 1 := by rw [IntKind.wrap_i64]; omega
    have wr2 : IntKind.i64.wrap ((j : Int) + 1) = (j : Int) + 1 := by rw [IntKind.wrap_i64]; omega
    go_enter Tryz.func25, Tryz.ntmps25
    go_upto_region 4 with fail
    generalize hU : ((w.setCell ⟨q, 2, none⟩ (.int .i64 (c + 1))).setCell ⟨q, 1, none⟩ (.int .i64 0)).setCell ⟨q, 0, none⟩ (.int .i64 (i : Int)) = U
    have VU : Hid (Vb U q #[.int .i64 (i : Int), .int .i64 0, .int .i64 (c + 1)] 67) := by
      show Vb _ _ _ _
      rw [← hU]
      exact ((HV.out.set 2 (.int .i64 (c + 1))).set 1 (.int .i64 0)).set 0 (.int .i64 (i : Int))
    have MU : Hid (Mq (fun k => k = q) w U) := by
      show Mq _ _ _
      rw [← hU]
      exact (((Mq.refl (fun k => k = q) w).set ⟨q, 2, none⟩ _ rfl).set ⟨q, 1, none⟩ _ rfl).set ⟨q, 0, none⟩ _ rfl
    have k1 := K1.out U (Mq.under B0.out MU.out fun k e => by have := HQ.out; omega)
    clear hU v0 v1 v2 f0 f1 f2 lt
    have v0 : U.cell? ⟨q, 0, none⟩ = some (.int .i64 (i : Int)) := VU.out.cell 0 rfl
    have v1 : U.cell? ⟨q, 1, none⟩ = some (.int .i64 0) := VU.out.cell 1 rfl
    have f1 := VU.out.free 1
    have lt := VU.out.lt
    go_wp2_with fail
    exact bodyPost_end (results_none rfl _ _ _) rfl ⟨rfl, VU.out.set 1 (.int .i64 z), MU.out.set ⟨q, 1, none⟩ _ rfl⟩
  · rw [if_neg h1, if_neg h1]
    have h2 : ¬ l = 1 := by omega
    have wr1 : IntKind.i64.wrap (c + 1) = c + 1 := by rw [IntKind.wrap_i64]; omega
    have wr2 : IntKind.i64.wrap (l - 1) = l - 1 := by rw [IntKind.wrap_i64]; omega
    have h3 : (l - 1 == 0) = false := by simp [h1]
    clear hc hl hp hv b0 hq h2
    go_enter Tryz.func25, Tryz.ntmps25
    go_wp2_with fail
    exact bodyPost_end (results_none rfl _ _ _) rfl ⟨rfl, (HV.out.set 2 (.int .i64 (c + 1))).set 1 (.int .i64 (l - 1)), ((Mq.refl (fun k => k = q) w).set ⟨q, 2, none⟩ _ rfl).set ⟨q, 1, none⟩ _ rfl⟩
def wfV (k n : Int) : Int := if 0 ≤ n ∧ n ≤ 200 ∧ k + n ≤ 1000000 then 0 else 3
set_option maxRecDepth 20000 in
set_option maxHeartbeats 8000000 in
theorem i_watch1 (a0 a1 a2 a3 : Option Addr) (n0 c0 n1 c1 n2 c2 n3 c3 : Nat) (am : Option Addr) (lm cm : Nat) (ah : Option Addr) (lh ch : Nat) (X : Hst) (n : Int) (g : Nat) (w : World) (hv : Vb w g #[.slice a0 n0 c0, .slice a1 n1 c1, .slice a2 n2 c2, .slice a3 n3 c3, .slice am lm cm, .slice ah lh ch, .int .i64 X.slot, .int .i64 X.left, .int .i64 X.clock] 43) (hk : 0 ≤ X.clock ∧ X.clock ≤ 1000000) :
    Calls Tryz.prog 23 #[.int .i64 n, .slice (some ⟨g, 0, none⟩) 1 1] w fun e w' => e = .returned (.int .i64 (wfV X.clock n)) ∧ Below w.heap.size w w' := by
  unfold wfV
  by_cases hneg : n < 0
  · rw [if_neg (by omega)]
    go_enter Tryz.func23, Tryz.ntmps23
    go_wp2_with fail
    go_ret
    exact ⟨rfl, Below.refl _ _⟩
  by_cases hbig : 200 < n
  · rw [if_neg (by omega)]
    go_enter Tryz.func23, Tryz.ntmps23
    go_wp2_with fail
    go_ret
    exact ⟨rfl, Below.refl _ _⟩
  obtain ⟨ck, hck⟩ : ∃ k, X.clock = k := ⟨_, rfl⟩
  have HV : Hid (Vb w g #[.slice a0 n0 c0, .slice a1 n1 c1, .slice a2 n2 c2, .slice a3 n3 c3, .slice am lm cm, .slice ah lh ch, .int .i64 X.slot, .int .i64 X.left, .int .i64 X.clock] 43) := hv
  rw [hck] at hv HV hk ⊢
  have wr1 : IntKind.i64.wrap (1000000 - n) = 1000000 - n := by rw [IntKind.wrap_i64]; omega
  by_cases hcl : 1000000 - n < ck
  · rw [if_neg (by omega)]
    clear hv hck hk
    go_enter Tryz.func23, Tryz.ntmps23
    go_wp2_with fail
    go_loopw [6, 15] (fun _ c wr => c = .int .i64 0 ∧ Below w.heap.size w wr) (fun _ _ _ => 0)
    case atStart => exact ⟨rfl, Below.refl _ _⟩
    case round =>
      obtain ⟨rfl, hB⟩ := hrel
      have BB : Hid (Below w.heap.size w wr) := hB
      have VV := HV.out.keep hB
      have v0 := VV.cell 0 rfl
      have v1 := VV.cell 1 rfl
      have v2 := VV.cell 2 rfl
      have v3 := VV.cell 3 rfl
      have v4 := VV.cell 4 rfl
      have v5 := VV.cell 5 rfl
      have v6 := VV.cell 6 rfl
      have v7 := VV.cell 7 rfl
      have v8 := VV.cell 8 rfl
      clear VV hB
      go_wp2_with fail
      go_ret
      exact ⟨rfl, al BB.out _⟩
  · rw [if_pos (by omega)]
    have hcl2 : ¬ 1000000 - n < ck := hcl
    clear hv hck hk
    go_enter Tryz.func23, Tryz.ntmps23
    go_wp2_with fail
    go_loopw [6, 15] (fun _ c wr => ∃ j : Nat, j ≤ 1 ∧ c = .int .i64 (j : Int) ∧ Below w.heap.size w wr) (fun _ c _ => 1 - (intOf c).toNat)
    case atStart => exact ⟨0, by decide, rfl, Below.refl _ _⟩
    case round =>
      obtain ⟨j, hj, rfl, hB⟩ := hrel
      have BB : Hid (Below w.heap.size w wr) := hB
      by_cases h1 : j = 0
      · subst h1
        have VV := HV.out.keep hB
        have v0 := VV.cell 0 rfl
        have v1 := VV.cell 1 rfl
        have v2 := VV.cell 2 rfl
        have v3 := VV.cell 3 rfl
        have v4 := VV.cell 4 rfl
        have v5 := VV.cell 5 rfl
        have v6 := VV.cell 6 rfl
        have v7 := VV.cell 7 rfl
        have v8 := VV.cell 8 rfl
        clear VV hB hj
        go_wp2_with fail
        go_roundw
        case rel => exact ⟨1, by decide, rfl, al BB.out _⟩
        case measure => simp [intOf]
      · obtain rfl : j = 1 := by omega
        clear h1 hB hj
        go_wp2_with fail
        go_ret
        exact ⟨rfl, BB.out⟩
end Go.Proofs.YtgacbocibeihiaaGreatDoor
