/- Texts of this seat, joined. -/
import Derived.Test.YtkaehdlgimodjaaGreatDoorQ12
namespace Go.Proofs.YtkaehdlgimodjaaGreatDoor
open Go.RowKit
set_option linter.unusedVariables false

def dgS (h z : Int) : Int := (h * 131 + z + 1) % 1000000007
def dgF (zs : List Int) : Int := zs.foldl dgS 5
def dgC (zs : List Int) : Int := memV zs
def dgX (zs : List Int) : Int := if memV zs = 0 then dgF zs else 0
theorem dg_next (zs : List Int) (j : Nat) (h : j < zs.length) : dgF (zs.take (j + 1)) = dgS (dgF (zs.take j)) (zs.getD j 0) := by
  rw [List.take_succ_eq_append_getElem h, dgF, List.foldl_append, List.getD, List.getElem?_eq_getElem h]
  rfl
theorem dgS_in (h z : Int) : 0 ≤ dgS h z ∧ dgS h z < 1000000007 := by
  unfold dgS
  omega
theorem dg_in (zs : List Int) : 0 ≤ dgF zs ∧ dgF zs < 1000000007 := by
  rcases List.eq_nil_or_concat zs with rfl | ⟨t, x, rfl⟩
  · decide
  · rw [List.concat_eq_append, dgF, List.foldl_append]
    exact dgS_in _ _

set_option maxHeartbeats 1000000 in
theorem i_digest (v : Value) (zs : List Int) (b : Nat) (w : World) (h : Nums w b v zs) :
    Calls Tryz.prog 22 #[v] w fun e w' => e = .returned (.agg #[.int .i64 (dgC zs), .int .i64 (dgX zs)]) ∧ Below w.heap.size w w' := by
  have HZ : Hid (Nums w b v zs) := h
  obtain ⟨a, cap, hv, l1, l2, hg⟩ := h.shape
  clear h
  have hmf := fun w b h => impl_memFault v zs b w h
  by_cases hm : memV zs = 0
  · obtain ⟨_, n1, n2, n3⟩ := memV_len hm
    obtain ⟨g, rfl⟩ := hg (by omega)
    subst hv
    rw [hm] at hmf
    have hL : (zs.length : Int) ≤ 1048576 := by omega
    have e1 : dgC zs = 0 := by simp [dgC, hm]
    have e2 : dgX zs = dgF zs := by simp [dgX, hm]
    rw [e1, e2]
    have HA : Hid (zs.all isW = true) := n3
    obtain ⟨n, hn⟩ : ∃ n, zs.length = n := ⟨_, rfl⟩
    have HN : Hid (zs.length = n) := hn
    obtain ⟨V, hV⟩ : ∃ V, dgF zs = V := ⟨_, rfl⟩
    have HV : Hid (dgF zs = V) := hV
    rw [hn] at HZ hL hmf ⊢
    rw [hV]
    clear e1 e2 hm n3 n1 n2 l1 l2 hg hn hV
    go_enter Tryz.func22, Tryz.ntmps22
    go_wp2_with (go_at_call 52; refine (hmf _ b (HZ.out.keep (al (Below.refl _ _) _))).mono ?_; rintro e x ⟨rfl, rfl⟩)
    have B0 : Hid (Below w.heap.size w (w.alloc (.cells #[.int .i64 0, .int .i64 0] 57))) := al (Below.refl _ _) _
    go_loop [4, 15] (fun h i => ∃ j : Nat, j ≤ n ∧ i = .int .i64 j ∧ h = .int .i64 (dgF (zs.take j))) (fun _ i => n - (intOf i).toNat)
    case atStart => exact ⟨0, Nat.zero_le _, rfl, rfl⟩
    case round =>
      obtain ⟨j, hj, rfl, rfl⟩ := hrel
      by_cases hlt : j < n
      · have c1 := (HZ.out.keep B0.out).cell HN.out.symm j hlt
        have hJ : (j : Int) < (n : Int) := by omega
        have HL : Hid (j < zs.length) := by show _ < _; have := HN.out; omega
        obtain ⟨q1, q2⟩ := all_getD HA.out j HL.out
        have NX : Hid (_ = _) := dg_next zs j HL.out
        obtain ⟨p1, p2⟩ := dg_in (zs.take j)
        obtain ⟨z, hz⟩ : ∃ z, zs.getD j 0 = z := ⟨_, rfl⟩
        obtain ⟨d, hd⟩ : ∃ d, dgF (zs.take j) = d := ⟨_, rfl⟩
        rw [hz] at c1 q1 q2 NX
        rw [hd] at p1 p2 NX ⊢
        clear hz hd hlt
        go_wp2_with fail
        go_round
        case rel => exact ⟨j + 1, by have := HL.out; have := HN.out; omega, by go_num, by rw [NX.out]; rfl⟩
        case measure => have := HL.out; have := HN.out; simp [intOf]; omega
      · have hJ : ¬ (j : Int) < (n : Int) := by omega
        obtain rfl : j = n := by omega
        have EV : dgF (zs.take j) = V := by rw [List.take_of_length_le (Nat.le_of_eq HN.out)]; exact HV.out
        rw [EV]
        go_wp2_with fail
        exact bodyPost_ret (v := .agg #[.int .i64 0, .int .i64 V]) (by simp [results, Tryz.results22, go_sem]) rfl ⟨rfl, al (Below.refl _ _) _⟩
  · have e1 : dgC zs = memV zs := rfl
    have e2 : dgX zs = 0 := by simp [dgX, hm]
    rw [e1, e2]
    generalize memV zs = f at *
    have hf : (f != 0) = true := by simpa using hm
    clear e1 e2 hm
    subst hv
    generalize zs.length = n at *
    go_enter Tryz.func22, Tryz.ntmps22
    go_wp2_with (first
      | (go_at_call 52; refine (hmf _ b (HZ.out.keep (al (Below.refl _ _) _))).mono ?_; rintro e x ⟨rfl, rfl⟩))
    exact bodyPost_ret (v := .agg #[.int .i64 f, .int .i64 0]) (by simp [results, Tryz.results22, go_sem]) rfl ⟨rfl, al (Below.refl _ _) _⟩
set_option maxHeartbeats 1000000 in
theorem s_digest (v : Value) (zs : List Int) (b : Nat) (w : World) (h : Nums w b v zs) :
    Calls Tryz.prog 15 #[v] w fun e w' => e = .returned (.agg #[.int .i64 (dgC zs), .int .i64 (dgX zs)]) ∧ Below w.heap.size w w' := by
  have HZ : Hid (Nums w b v zs) := h
  obtain ⟨a, cap, hv, l1, l2, hg⟩ := h.shape
  clear h
  have hmf := fun w b h => spec_memFault v zs b w h
  by_cases hm : memV zs = 0
  · obtain ⟨_, n1, n2, n3⟩ := memV_len hm
    obtain ⟨g, rfl⟩ := hg (by omega)
    subst hv
    rw [hm] at hmf
    have hL : (zs.length : Int) ≤ 1048576 := by omega
    have e1 : dgC zs = 0 := by simp [dgC, hm]
    have e2 : dgX zs = dgF zs := by simp [dgX, hm]
    rw [e1, e2]
    have HA : Hid (zs.all isW = true) := n3
    obtain ⟨n, hn⟩ : ∃ n, zs.length = n := ⟨_, rfl⟩
    have HN : Hid (zs.length = n) := hn
    obtain ⟨V, hV⟩ : ∃ V, dgF zs = V := ⟨_, rfl⟩
    have HV : Hid (dgF zs = V) := hV
    rw [hn] at HZ hL hmf ⊢
    rw [hV]
    clear e1 e2 hm n3 n1 n2 l1 l2 hg hn hV
    go_enter Tryz.func15, Tryz.ntmps15
    go_wp2_with (go_at_call 38; refine (hmf _ b (HZ.out.keep (al (Below.refl _ _) _))).mono ?_; rintro e x ⟨rfl, rfl⟩)
    have B0 : Hid (Below w.heap.size w (w.alloc (.cells #[.int .i64 0, .int .i64 0] 57))) := al (Below.refl _ _) _
    go_loop [4, 5] (fun h i => ∃ j : Nat, j ≤ n ∧ i = .int .i64 j ∧ h = .int .i64 (dgF (zs.take j))) (fun _ i => n - (intOf i).toNat)
    case atStart => exact ⟨0, Nat.zero_le _, rfl, rfl⟩
    case round =>
      obtain ⟨j, hj, rfl, rfl⟩ := hrel
      by_cases hlt : j < n
      · have c1 := (HZ.out.keep B0.out).cell HN.out.symm j hlt
        have hJ : (j : Int) < (n : Int) := by omega
        have HL : Hid (j < zs.length) := by show _ < _; have := HN.out; omega
        obtain ⟨q1, q2⟩ := all_getD HA.out j HL.out
        have NX : Hid (_ = _) := dg_next zs j HL.out
        obtain ⟨p1, p2⟩ := dg_in (zs.take j)
        obtain ⟨z, hz⟩ : ∃ z, zs.getD j 0 = z := ⟨_, rfl⟩
        obtain ⟨d, hd⟩ : ∃ d, dgF (zs.take j) = d := ⟨_, rfl⟩
        rw [hz] at c1 q1 q2 NX
        rw [hd] at p1 p2 NX ⊢
        clear hz hd hlt
        go_wp2_with fail
        go_round
        case rel => exact ⟨j + 1, by have := HL.out; have := HN.out; omega, by go_num, by rw [NX.out]; rfl⟩
        case measure => have := HL.out; have := HN.out; simp [intOf]; omega
      · have hJ : ¬ (j : Int) < (n : Int) := by omega
        obtain rfl : j = n := by omega
        have EV : dgF (zs.take j) = V := by rw [List.take_of_length_le (Nat.le_of_eq HN.out)]; exact HV.out
        rw [EV]
        go_wp2_with fail
        exact bodyPost_ret (v := .agg #[.int .i64 0, .int .i64 V]) (by simp [results, Tryz.results15, go_sem]) rfl ⟨rfl, al (Below.refl _ _) _⟩
  · have e1 : dgC zs = memV zs := rfl
    have e2 : dgX zs = 0 := by simp [dgX, hm]
    rw [e1, e2]
    generalize memV zs = f at *
    have hf : (f != 0) = true := by simpa using hm
    clear e1 e2 hm
    subst hv
    generalize zs.length = n at *
    go_enter Tryz.func15, Tryz.ntmps15
    go_wp2_with (first
      | (go_at_call 38; refine (hmf _ b (HZ.out.keep (al (Below.refl _ _) _))).mono ?_; rintro e x ⟨rfl, rfl⟩))
    exact bodyPost_ret (v := .agg #[.int .i64 f, .int .i64 0]) (by simp [results, Tryz.results15, go_sem]) rfl ⟨rfl, al (Below.refl _ _) _⟩
end Go.Proofs.YtkaehdlgimodjaaGreatDoor
