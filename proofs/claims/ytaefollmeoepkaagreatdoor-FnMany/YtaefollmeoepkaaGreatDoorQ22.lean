/- Texts of this seat, joined. -/
import Derived.Deep.RegionWith
import Derived.Deep.RegionLaw
import Derived.Deep.Cut
import Derived.Deep.CutRange
import Derived.Test.YtaefollmeoepkaaGreatDoorQ03
import Derived.Test.YtaefollmeoepkaaGreatDoorQ08
import Derived.Test.YtaefollmeoepkaaGreatDoorQ13
import Derived.Test.YtaefollmeoepkaaGreatDoorQ15
import Derived.Test.YtaefollmeoepkaaGreatDoorQ17
import Derived.Test.YtaefollmeoepkaaGreatDoorQ20
namespace Go.Proofs.YtaefollmeoepkaaGreatDoor
open Go.RowKit
def encV (op d a imm : Int) : Int := if insC op d a imm = 0 then op * 16777216 + d * 1048576 + a * 65536 + imm else 0
theorem insC_bounds {op d a imm : Int} (h : insC op d a imm = 0) : 1 ≤ op ∧ op ≤ 26 ∧ 0 ≤ d ∧ d ≤ 15 ∧ 0 ≤ a ∧ a ≤ 15 ∧ 0 ≤ imm ∧ imm ≤ 65535 := by
  by_cases g : 1 ≤ op ∧ op ≤ 26 ∧ 0 ≤ d ∧ d ≤ 15 ∧ 0 ≤ a ∧ a ≤ 15 ∧ 0 ≤ imm ∧ imm ≤ 65535
  · exact g
  · rw [insC_3 g] at h; omega
theorem w64 (n : Int) (h : -9223372036854775808 ≤ n ∧ n ≤ 9223372036854775807) : wrap64 n = n := by unfold wrap64; omega
theorem enc_wrap {op d a imm : Int} (h : 1 ≤ op ∧ op ≤ 26 ∧ 0 ≤ d ∧ d ≤ 15 ∧ 0 ≤ a ∧ a ≤ 15 ∧ 0 ≤ imm ∧ imm ≤ 65535) :
    wrap64 (wrap64 (wrap64 (wrap64 (op * 16777216) + wrap64 (d * 1048576)) + wrap64 (a * 65536)) + imm) = op * 16777216 + d * 1048576 + a * 65536 + imm := by
  rw [w64 (op * 16777216) (by omega), w64 (d * 1048576) (by omega), w64 (a * 65536) (by omega), w64 (op * 16777216 + d * 1048576) (by omega), w64 (op * 16777216 + d * 1048576 + a * 65536) (by omega), w64 _ (by omega)]
set_option maxHeartbeats 2000000 in
theorem impl_encode (op d a imm : Int) (w : World) :
    Calls Tryz.prog 84 #[.agg #[.int .i64 op, .int .i64 d, .int .i64 a, .int .i64 imm]] w fun e w' => e = .returned (.agg #[.int .i64 (insC op d a imm), .int .i64 (encV op d a imm)]) ∧ Below w.heap.size w w' := by
  have hf := fun w => impl_insFault op d a imm w
  by_cases h : insC op d a imm = 0
  · have e : encV op d a imm = op * 16777216 + d * 1048576 + a * 65536 + imm := if_pos h
    have ew := enc_wrap (insC_bounds h)
    rw [e]
    clear e
    generalize insC op d a imm = c at *
    subst h
    generalize op * 16777216 + d * 1048576 + a * 65536 + imm = v at *
    go_enter Tryz.func84, Tryz.ntmps84
    go_wp2_with (go_at_call 125; refine (hf _).mono ?_; rintro e w1 ⟨rfl, hb⟩; obtain ⟨hc, hz⟩ := bcell hb)
    exact bodyPost_ret (v := .agg #[.int .i64 0, .int .i64 v]) (by simp [results, Tryz.results84, go_sem, hc, ew]) rfl ⟨rfl, (((((Below.refl _ _).alloc (Nat.le_refl _) _).alloc (by simp) _).trans (hb.mono (by simp; omega))).setCell (by simp) _).setCell (by simp) _⟩
  · have g : (insC op d a imm == 0) = false := beq_eq_false_iff_ne.2 h
    have e : encV op d a imm = 0 := if_neg h
    rw [e]
    clear e h
    generalize insC op d a imm = c at *
    go_enter Tryz.func84, Tryz.ntmps84
    go_wp2_with (go_at_call 125; refine (hf _).mono ?_; rintro e w1 ⟨rfl, hb⟩; obtain ⟨hc, hz⟩ := bcell hb)
    exact bodyPost_ret (v := .agg #[.int .i64 c, .int .i64 0]) (by simp [results, Tryz.results84, go_sem, hc]) rfl ⟨rfl, (((((Below.refl _ _).alloc (Nat.le_refl _) _).alloc (by simp) _).trans (hb.mono (by simp; omega))).setCell (by simp) _).setCell (by simp) _⟩
set_option maxHeartbeats 2000000 in
theorem spec_encode (op d a imm : Int) (w : World) :
    Calls Tryz.prog 93 #[.agg #[.int .i64 op, .int .i64 d, .int .i64 a, .int .i64 imm]] w fun e w' => e = .returned (.agg #[.int .i64 (insC op d a imm), .int .i64 (encV op d a imm)]) ∧ Below w.heap.size w w' := by
  have hf := fun w => spec_insFault op d a imm w
  by_cases h : insC op d a imm = 0
  · have e : encV op d a imm = op * 16777216 + d * 1048576 + a * 65536 + imm := if_pos h
    have ew := enc_wrap (insC_bounds h)
    rw [e]
    clear e
    generalize insC op d a imm = c at *
    subst h
    generalize op * 16777216 + d * 1048576 + a * 65536 + imm = v at *
    go_enter Tryz.func93, Tryz.ntmps93
    go_wp2_with (go_at_call 99; refine (hf _).mono ?_; rintro e w1 ⟨rfl, hb⟩; obtain ⟨hc, hz⟩ := bcell hb)
    exact bodyPost_ret (v := .agg #[.int .i64 0, .int .i64 v]) (by simp [results, Tryz.results93, go_sem, hc, ew]) rfl ⟨rfl, (((((Below.refl _ _).alloc (Nat.le_refl _) _).alloc (by simp) _).trans (hb.mono (by simp; omega))).setCell (by simp) _).setCell (by simp) _⟩
  · have g : (insC op d a imm == 0) = false := beq_eq_false_iff_ne.2 h
    have e : encV op d a imm = 0 := if_neg h
    rw [e]
    clear e h
    generalize insC op d a imm = c at *
    go_enter Tryz.func93, Tryz.ntmps93
    go_wp2_with (go_at_call 99; refine (hf _).mono ?_; rintro e w1 ⟨rfl, hb⟩; obtain ⟨hc, hz⟩ := bcell hb)
    exact bodyPost_ret (v := .agg #[.int .i64 c, .int .i64 0]) (by simp [results, Tryz.results93, go_sem, hc]) rfl ⟨rfl, (((((Below.refl _ _).alloc (Nat.le_refl _) _).alloc (by simp) _).trans (hb.mono (by simp; omega))).setCell (by simp) _).setCell (by simp) _⟩
theorem and15 (x : Int) : bits BinOp.and .i64 x 15 = x % 16 := by
  have h1 : (BitVec.ofInt 64 x).toNat = (x % 2 ^ 64).toNat := BitVec.toNat_ofInt ..
  have h2 : (BitVec.ofInt 64 15).toNat = 2 ^ 4 - 1 := by decide
  show IntKind.i64.wrap ((BitVec.ofInt 64 x &&& BitVec.ofInt 64 15).toNat : Int) = _
  rw [BitVec.toNat_and, h1, h2, Nat.and_two_pow_sub_one_eq_mod, IntKind.wrap_i64]
  omega
theorem and65535 (x : Int) : bits BinOp.and .i64 x 65535 = x % 65536 := by
  have h1 : (BitVec.ofInt 64 x).toNat = (x % 2 ^ 64).toNat := BitVec.toNat_ofInt ..
  have h2 : (BitVec.ofInt 64 65535).toNat = 2 ^ 16 - 1 := by decide
  show IntKind.i64.wrap ((BitVec.ofInt 64 x &&& BitVec.ofInt 64 65535).toNat : Int) = _
  rw [BitVec.toNat_and, h1, h2, Nat.and_two_pow_sub_one_eq_mod, IntKind.wrap_i64]
  omega
def decF (v : Int) : Int := insC (v / 16777216) (v / 1048576 % 16) (v / 65536 % 16) (v % 65536)
theorem dec_back {v : Int} (h : decF v = 0) : encV (v / 16777216) (v / 1048576 % 16) (v / 65536 % 16) (v % 65536) = v := by
  have h' := h
  unfold decF at h'
  rw [encV, if_pos h']
  omega
def decV (v : Int) : Value := if decF v = 0 then .agg #[.int .i64 0, .int .i64 (v / 16777216), .int .i64 (v / 1048576 % 16), .int .i64 (v / 65536 % 16), .int .i64 (v % 65536)] else .agg #[.int .i64 5, .int .i64 0, .int .i64 0, .int .i64 0, .int .i64 0]
set_option maxHeartbeats 1000000 in
theorem impl_decode (v : Int) (w : World) :
    Calls Tryz.prog 40 #[.int .i64 v] w fun e w' => e = .returned (decV v) ∧ Below w.heap.size w w' := by
  have he := fun w => impl_encode (v / 16777216) (v / 1048576 % 16) (v / 65536 % 16) (v % 65536) w
  by_cases h : decF v = 0
  · rw [decV, if_pos h]
    rw [show insC (v / 16777216) (v / 1048576 % 16) (v / 65536 % 16) (v % 65536) = 0 from h, dec_back h] at he
    clear h
    rw [← and15 (v / 1048576), ← and15 (v / 65536), ← and65535 v] at *
    go_enter Tryz.func40, Tryz.ntmps40
    go_wp2_with (go_at_call 84; refine (he _).mono ?_; rintro e w1 ⟨rfl, hb⟩; obtain ⟨hc, hz⟩ := bcell hb)
    have k0 := cell_keep hb (cell_push _ (cell_new (i := 0) rfl))
    have k1 := cell_keep hb (cell_push _ (cell_new (i := 1) rfl))
    have k2 := cell_keep hb (cell_push _ (cell_new (i := 2) rfl))
    have k3 := cell_keep hb (cell_push _ (cell_new (i := 3) rfl))
    have k4 := cell_keep hb (cell_push _ (cell_new (i := 4) rfl))
    clear hc hz
    exact bodyPost_ret (v := .agg #[.int .i64 0, .int .i64 (v / 16777216), .int .i64 (bits BinOp.and .i64 (v / 1048576) 15), .int .i64 (bits BinOp.and .i64 (v / 65536) 15), .int .i64 (bits BinOp.and .i64 v 65535)]) (by simp [results, Tryz.results40, go_sem, k0, k1, k2, k3, k4]) rfl ⟨rfl, ((((((((Below.refl _ _).alloc (Nat.le_refl _) _).alloc (by simp) _).trans (hb.mono (by simp; omega))).setCell (by simp) _).setCell (by simp) _).setCell (by simp) _).setCell (by simp) _).setCell (by simp) _⟩
  · rw [decV, if_neg h]
    have g : (decF v == 0) = false := beq_eq_false_iff_ne.2 h
    rw [show insC (v / 16777216) (v / 1048576 % 16) (v / 65536 % 16) (v % 65536) = decF v from rfl] at he
    clear h
    rw [← and15 (v / 1048576), ← and15 (v / 65536), ← and65535 v] at he
    generalize decF v = c at *
    go_enter Tryz.func40, Tryz.ntmps40
    go_wp2_with (go_at_call 84; refine (he _).mono ?_; rintro e w1 ⟨rfl, hb⟩; obtain ⟨hc, hz⟩ := bcell hb)
    have k0 := cell_keep hb (cell_push _ (cell_new (i := 0) rfl))
    have k1 := cell_keep hb (cell_push _ (cell_new (i := 1) rfl))
    have k2 := cell_keep hb (cell_push _ (cell_new (i := 2) rfl))
    have k3 := cell_keep hb (cell_push _ (cell_new (i := 3) rfl))
    have k4 := cell_keep hb (cell_push _ (cell_new (i := 4) rfl))
    clear hc hz
    exact bodyPost_ret (v := .agg #[.int .i64 5, .int .i64 0, .int .i64 0, .int .i64 0, .int .i64 0]) (by simp [results, Tryz.results40, go_sem, k0, k1, k2, k3, k4]) rfl ⟨rfl, ((((((((Below.refl _ _).alloc (Nat.le_refl _) _).alloc (by simp) _).trans (hb.mono (by simp; omega))).setCell (by simp) _).setCell (by simp) _).setCell (by simp) _).setCell (by simp) _).setCell (by simp) _⟩
set_option linter.unusedVariables false
theorem cell_new2 {w : World} {a : Obj} {cs : Array Value} {t : TypeId} {i : Nat} {v : Value} (h : cs[i]? = some v) : ((w.alloc a).alloc (.cells cs t)).cell? ⟨w.heap.size + 1, i, none⟩ = some v := by
  have := cell_new (w := w.alloc a) (cs := cs) (t := t) (i := i) h
  rwa [World.size_alloc] at this
theorem frozen_grown {w w' : World} {row : Option Nat} {p : Addr} (g : w.grownBy w' row) (hp : p.block < w.heap.size) (hne : some p.block ≠ row) : w'.frozen? p = w.frozen? p :=
  World.frozen?_of_block (w := w) (g.block p.block hp hne)
def fromC (zs : List Int) : Int := if zs.length = 8 then (if zs.all isW then 0 else 3) else 1
def fromP (zs : List Int) : List (Int × Int) := if zs.length = 8 then (if zs.all isW then zs.map entP else []) else []
theorem from_take (zs : List Int) (j : Nat) (h : j < zs.length) : (zs.take (j + 1)).map entP = (zs.take j).map entP ++ [((entP (zs.getD j 0)).1, (entP (zs.getD j 0)).2)] := by
  rw [List.take_succ_eq_append_getElem h, List.map_append, List.getD, List.getElem?_eq_getElem h]
  rfl
def kindB (k : Int) : Bool := decide (k = 1 ∨ k = 2 ∨ k = 4)
def kindV (k : Int) : Int := if k = 1 then 7 else if k = 2 then 8 else if k = 4 then 9 else 0
theorem kind_cases {k : Int} (h : kindB k = true) : k = 1 ∨ k = 2 ∨ k = 4 := of_decide_eq_true h
theorem kind_not {k : Int} (h : kindB k = false) : (k == 1) = false ∧ (k == 2) = false ∧ (k == 4) = false := by
  have := of_decide_eq_false h
  simp
  omega
theorem band_zero (k : Int) : bits BinOp.and .i64 0 k = 0 := by
  show IntKind.i64.wrap ((BitVec.ofInt 64 0 &&& BitVec.ofInt 64 k).toNat : Int) = 0
  rw [BitVec.toNat_and]
  simp [IntKind.wrap_i64]
theorem impl_kind (k : Int) (w : World) : Calls Tryz.prog 46 #[.int .i64 k] w fun e w' => e = .returned (.tuple #[.int .i64 (kindV k), .bool (kindB k)]) ∧ w' = w := by
  cases h : kindB k
  · obtain ⟨h1, h2, h4⟩ := kind_not h
    have hv : kindV k = 0 := by simp at h1 h2 h4; simp [kindV, h1, h2, h4]
    rw [hv]
    clear hv h
    go_enter Tryz.func46, Tryz.ntmps46
    go_wp2_with fail
    go_ret2
    exact ⟨rfl, rfl⟩
  · rcases kind_cases h with rfl | rfl | rfl
    all_goals
      go_enter Tryz.func46, Tryz.ntmps46
      go_wp2_with fail
      go_ret2
      exact ⟨rfl, rfl⟩
def goesB (rs : List (Int × Int)) (at_ k : Int) : Bool := decide (0 ≤ at_) && decide (at_ ≤ 63) && !(bits BinOp.and .i64 (rs.getD (at_ / 8).toNat (0, 0)).2 k == 0)
def goesTo (rs : List (Int × Int)) (at_ : Int) : Int := (rs.getD (at_ / 8).toNat (0, 0)).1 * 8 + at_ % 8
def wkC (rs : List (Int × Int)) (at_ k : Int) : Int := if kindB k then (if goesB rs at_ k then 0 else kindV k) else 3
def wkV (rs : List (Int × Int)) (at_ k : Int) : Int := if kindB k then (if goesB rs at_ k then goesTo rs at_ else 0) else 0
theorem okTo_at {rs : List (Int × Int)} {t : Int} (h : okTo t rs 8) {x : Int} (h0 : 0 ≤ x) (h1 : x ≤ 63) : pgC t (rs.getD (x / 8).toNat (0, 0)).1 (rs.getD (x / 8).toNat (0, 0)).2 = 0 := h _ (by omega)
theorem goes_in {rs : List (Int × Int)} {t : Int} (h : okTo t rs 8) {x k : Int} (hg : goesB rs x k = true) : 0 ≤ x ∧ x ≤ 63 ∧ 0 ≤ (rs.getD (x / 8).toNat (0, 0)).1 ∧ (rs.getD (x / 8).toNat (0, 0)).1 ≤ t - 1 := by
  unfold goesB at hg
  simp only [Bool.and_eq_true, decide_eq_true_eq, Bool.not_eq_true', beq_eq_false_iff_ne] at hg
  obtain ⟨⟨h0, h1⟩, h2⟩ := hg
  have hz := pgC_zero (okTo_at h h0 h1)
  refine ⟨h0, h1, ?_, hz.2.1⟩
  apply Classical.byContradiction
  intro hn
  have : (rs.getD (x / 8).toNat (0, 0)).2 = 0 := hz.2.2.2.2 (by omega)
  rw [this, band_zero] at h2
  exact h2 rfl
def atB (x : Int) : Bool := decide (0 ≤ x) && decide (x ≤ 63)
def atN (x : Int) : Int := if atB x then x / 8 else 0
theorem impl_pageOf (x : Int) (w : World) : Calls Tryz.prog 123 #[.int .i64 x] w fun e w' => e = .returned (.tuple #[.int .i64 (atN x), .bool (atB x)]) ∧ w' = w := by
  by_cases h1 : x < 0
  · have e1 : atB x = false := by simp [atB]; omega
    rw [atN, e1]
    clear e1
    go_enter Tryz.func123, Tryz.ntmps123
    go_wp2_with fail
    go_ret2
    exact ⟨rfl, rfl⟩
  by_cases h2 : 64 ≤ x
  · have e1 : atB x = false := by simp [atB]; omega
    rw [atN, e1]
    clear e1
    go_enter Tryz.func123, Tryz.ntmps123
    go_wp2_with fail
    go_ret2
    exact ⟨rfl, rfl⟩
  have e1 : atB x = true := by simp [atB]; omega
  have h3 : 0 ≤ x := by omega
  have h4 : x < 64 := by omega
  rw [atN, e1, if_pos rfl]
  clear e1 h1 h2
  go_enter Tryz.func123, Tryz.ntmps123
  go_wp2_with fail
  go_ret2
  exact ⟨rfl, rfl⟩
def wpgC (q k : Int) : Int := if kindB k then (if bits BinOp.and .i64 q k == 0 then kindV k else 0) else 3
def wpgV (p q x k : Int) : Int := if kindB k then (if bits BinOp.and .i64 q k == 0 then 0 else p * 8 + x % 8) else 0
set_option maxHeartbeats 1000000 in
theorem impl_walkPage (p q x k : Int) (w : World) (h : (bits BinOp.and .i64 q k == 0) = false → 0 ≤ p ∧ p ≤ 23 ∧ 0 ≤ x ∧ x ≤ 63) :
    Calls Tryz.prog 124 #[.agg #[.int .i64 p, .int .i64 q], .int .i64 x, .int .i64 k] w fun e w' => e = .returned (.agg #[.int .i64 (wpgC q k), .int .i64 (wpgV p q x k)]) ∧ Below w.heap.size w w' := by
  cases hk : kindB k
  · have e1 : wpgC q k = 3 := by simp [wpgC, hk]
    have e2 : wpgV p q x k = 0 := by simp [wpgV, hk]
    rw [e1, e2]
    clear e1 e2 h
    go_enter Tryz.func124, Tryz.ntmps124
    go_wp2_with (go_at_call 46; refine (impl_kind _ _).mono ?_; rintro e w1 ⟨rfl, rfl⟩; rw [hk])
    exact bodyPost_ret (v := .agg #[.int .i64 3, .int .i64 0]) (by simp [results, Tryz.results124, go_sem]) rfl ⟨rfl, al (al (Below.refl _ _) _) _⟩
  generalize hkv : kindV k = kv at *
  have HKV : Hid (kindV k = kv) := hkv
  cases hq : (bits BinOp.and .i64 q k == 0)
  · obtain ⟨p1, p2, h3, h4⟩ := h hq
    have e1 : wpgC q k = 0 := by unfold wpgC; rw [hk, hq]; rfl
    have e2 : wpgV p q x k = p * 8 + x % 8 := by unfold wpgV; rw [hk, hq]; rfl
    rw [e1, e2]
    clear e1 e2 hkv h
    go_enter Tryz.func124, Tryz.ntmps124
    go_wp2_with (go_at_call 46; refine (impl_kind _ _).mono ?_; rintro e w1 ⟨rfl, rfl⟩; rw [hk, HKV.out])
    exact bodyPost_ret (v := .agg #[.int .i64 0, .int .i64 (p * 8 + x % 8)]) (by simp [results, Tryz.results124, go_sem]) rfl ⟨rfl, al (al (Below.refl _ _) _) _⟩
  · have e1 : wpgC q k = kv := by unfold wpgC; rw [hk, hq, hkv]; rfl
    have e2 : wpgV p q x k = 0 := by unfold wpgV; rw [hk, hq]; rfl
    rw [e1, e2]
    clear e1 e2 hkv h
    go_enter Tryz.func124, Tryz.ntmps124
    go_wp2_with (go_at_call 46; refine (impl_kind _ _).mono ?_; rintro e w1 ⟨rfl, rfl⟩; rw [hk, HKV.out])
    exact bodyPost_ret (v := .agg #[.int .i64 kv, .int .i64 0]) (by simp [results, Tryz.results124, go_sem]) rfl ⟨rfl, al (al (Below.refl _ _) _) _⟩
set_option maxHeartbeats 1000000 in
theorem impl_walk (v : Value) (rs : List (Int × Int)) (x k : Int) (b : Nat) (w : World) (h : Prs 36 w b v rs) (hl : rs.length = 8) (ho : okTo 24 rs 8) :
    Calls Tryz.prog 82 #[v, .int .i64 x, .int .i64 k] w fun e w' => e = .returned (.agg #[.int .i64 (wkC rs x k), .int .i64 (wkV rs x k)]) ∧ Below w.heap.size w w' := by
  obtain ⟨a, cap, rfl, l1, l2, hg⟩ := h.shape
  obtain ⟨g, rfl⟩ := hg (by omega)
  rw [hl]
  have HZ : Hid (Prs 36 w b (.slice (some ⟨g, 0, none⟩) 8 cap) rs) := by show Prs 36 _ _ _ _; rw [← hl]; exact h
  have HL : Hid (rs.length = 8) := hl
  clear l1 l2 hg h hl
  cases hb : atB x
  · have hgo : goesB rs x k = false := by unfold goesB; unfold atB at hb; rw [hb]; rfl
    have e1 : wkC rs x k = wpgC 0 k := by unfold wkC wpgC; rw [hgo, band_zero]; rfl
    have e2 : wkV rs x k = wpgV (-1) 0 x k := by unfold wkV wpgV; rw [hgo, band_zero]; rfl
    rw [e1, e2]
    have hW := fun u => impl_walkPage (-1) 0 x k u (fun hh => by rw [band_zero] at hh; exact absurd hh (by decide))
    generalize wpgC 0 k = c at *
    generalize wpgV (-1) 0 x k = y at *
    clear e1 e2 hgo
    go_enter Tryz.func82, Tryz.ntmps82
    go_wp2_with (first | (go_at_call 123; refine (impl_pageOf _ _).mono ?_; rintro e w1 ⟨rfl, rfl⟩; rw [hb]) | (go_at_call 124; refine (hW _).mono ?_; rintro e w1 ⟨rfl, b1⟩; have k0 := cell_keep b1 (cell_new (i := 0) rfl); have k1 := cell_keep b1 (cell_new (i := 1) rfl); have z0 : w1.frozen? ⟨w.heap.size, 0, none⟩ = false := (by rw [(bcell b1).2 _ _ (by simp)]; simp); have z1 : w1.frozen? ⟨w.heap.size, 1, none⟩ = false := (by rw [(bcell b1).2 _ _ (by simp)]; simp); have B1 : Hid (Below w.heap.size w w1) := on (al (Below.refl _ _) _) b1; clear b1))
    exact bodyPost_ret (v := .agg #[.int .i64 c, .int .i64 y]) (by simp [results, Tryz.results82, go_sem, k0, k1]) rfl ⟨rfl, (B1.out.setCell (by simp) _).setCell (by simp) _⟩
  have hb2 := hb
  simp only [atB, Bool.and_eq_true, decide_eq_true_eq] at hb2
  obtain ⟨h3, h4⟩ := hb2
  have hz := pgC_zero (okTo_at ho h3 h4)
  have c1 := (HZ.out.cell HL.out.symm (x / 8).toNat (by omega)).1
  have c2 := (HZ.out.cell HL.out.symm (x / 8).toNat (by omega)).2
  have gb : g < w.heap.size := block_of_cell c1
  have q0 : 0 ≤ x / 8 := by omega
  have q1 : x / 8 < 8 := by omega
  have hgo : goesB rs x k = !(bits BinOp.and .i64 (rs.getD (x / 8).toNat (0, 0)).2 k == 0) := by unfold goesB; simp [h3, h4]
  have e1 : wkC rs x k = wpgC (rs.getD (x / 8).toNat (0, 0)).2 k := by
    unfold wkC wpgC; rw [hgo]
    cases kindB k <;> cases (bits BinOp.and .i64 (rs.getD (x / 8).toNat (0, 0)).2 k == 0) <;> rfl
  have e2 : wkV rs x k = wpgV (rs.getD (x / 8).toNat (0, 0)).1 (rs.getD (x / 8).toNat (0, 0)).2 x k := by
    unfold wkV wpgV goesTo; rw [hgo]
    cases kindB k <;> cases (bits BinOp.and .i64 (rs.getD (x / 8).toNat (0, 0)).2 k == 0) <;> rfl
  rw [e1, e2]
  have en : atN x = x / 8 := by rw [atN, hb]; rfl
  clear e1 e2 hgo
  generalize (rs.getD (x / 8).toNat (0, 0)).1 = p at *
  generalize (rs.getD (x / 8).toNat (0, 0)).2 = q at *
  obtain ⟨p1, p2, p3, p4, p5⟩ := hz
  have hW := fun u => impl_walkPage p q x k u (fun hh => ⟨(by
    apply Classical.byContradiction
    intro hn
    rw [p5 (by omega), band_zero] at hh
    exact absurd hh (by decide)), by omega, h3, h4⟩)
  generalize wpgC q k = c at *
  generalize wpgV p q x k = y at *
  clear p1 p2 p3 p4 p5
  go_enter Tryz.func82, Tryz.ntmps82
  go_wp2_with (first | (go_at_call 123; refine (impl_pageOf _ _).mono ?_; rintro e w1 ⟨rfl, rfl⟩; rw [hb, en]) | (go_at_call 124; refine (hW _).mono ?_; rintro e w1 ⟨rfl, b1⟩; have k0 := cell_keep b1 (cell_new (i := 0) rfl); have k1 := cell_keep b1 (cell_new (i := 1) rfl); have z0 : w1.frozen? ⟨w.heap.size, 0, none⟩ = false := (by rw [(bcell b1).2 _ _ (by simp)]; simp); have z1 : w1.frozen? ⟨w.heap.size, 1, none⟩ = false := (by rw [(bcell b1).2 _ _ (by simp)]; simp); have B1 : Hid (Below w.heap.size w w1) := on (al (Below.refl _ _) _) b1; clear b1))
  exact bodyPost_ret (v := .agg #[.int .i64 c, .int .i64 y]) (by simp [results, Tryz.results82, go_sem, k0, k1]) rfl ⟨rfl, (B1.out.setCell (by simp) _).setCell (by simp) _⟩
set_option maxHeartbeats 2000000 in
theorem impl_fromR (g o cap : Nat) (zs : List Int) (w : World) (hl : zs.length = 8) (h : ∀ j, j < 8 → w.cell? ⟨g, o + j, none⟩ = some (.int .i64 (zs.getD j 0))) :
    Calls Tryz.prog 122 #[.slice (some ⟨g, o, none⟩) 8 cap] w fun e w' => ∃ u, e = .returned (.agg #[.int .i64 (fromC zs), u]) ∧ Prs 36 w' w.heap.size u (fromP zs) ∧ Below w.heap.size w w' := by
  have HZ : Hid (∀ j, j < 8 → w.cell? ⟨g, o + j, none⟩ = some (.int .i64 (zs.getD j 0))) := h
  have HN : Hid (zs.length = 8) := hl
  have HC : Hid (fromC zs = if zs.all isW then 0 else 3) := if_pos hl
  have HP : Hid (fromP zs = if zs.all isW then zs.map entP else []) := if_pos hl
  generalize fromC zs = cz at *
  generalize fromP zs = pz at *
  clear h hl
  go_enter Tryz.func122, Tryz.ntmps122
  go_wp2_with fail
  go_loopw [3, 5, 6, 13] (fun u _ _ c wr => ∃ j : Nat, j ≤ 8 ∧ c = .int .i64 j ∧ (zs.take j).all isW = true ∧ Prs 36 wr (w.heap.size + 1) u ((zs.take j).map entP) ∧ wr.cell? ⟨w.heap.size, 0, none⟩ = some (.int .i64 0) ∧ wr.cell? ⟨w.heap.size, 1, none⟩ = some (.slice none 0 0) ∧ wr.frozen? ⟨w.heap.size, 0, none⟩ = false ∧ wr.frozen? ⟨w.heap.size, 1, none⟩ = false ∧ Below w.heap.size w wr) (fun _ _ _ c _ => 8 - (intOf c).toNat)
  case atStart => exact ⟨0, Nat.zero_le _, rfl, rfl, Prs.nil _ _ _, by simp, by simp, by simp, by simp, al (Below.refl _ _) _⟩
  case round =>
    obtain ⟨j, hj, rfl, hA, hP, r0, r1, f0, f1, hB⟩ := hrel
    have PB : Hid (Prs 36 wr (w.heap.size + 1) _ ((zs.take j).map entP)) := hP
    have HB : Hid (Below w.heap.size w wr) := hB
    have HA : Hid ((zs.take j).all isW = true) := hA
    have s0 : w.heap.size < wr.heap.size := block_of_cell r0
    obtain ⟨ua, uc, rfl, _, _, _⟩ := hP.shape
    have HLN : Hid (((zs.take j).map entP).length ≤ 8 ∧ ((zs.take j).map entP).length ≤ 8) := ⟨by simp; omega, by simp; omega⟩
    generalize hun : ((zs.take j).map entP).length = un at *
    clear hP
    by_cases hlt : j < 8
    · have c1 := cell_keep hB (HZ.out j hlt)
      have gb : g < wr.heap.size := block_of_cell c1
      have hI : (j : Int) < 8 := by omega
      have HL : Hid (j < 8) := hlt
      have hE := fun w => impl_entryOf (zs.getD j 0) w
      have HT := all_take zs j (by have := HN.out; omega)
      rw [hA] at HT
      have HX := all_not zs j (by have := HN.out; omega)
      have HM := from_take zs j (by have := HN.out; omega)
      cases hw : isW (zs.getD j 0)
      · rw [show entC (zs.getD j 0) = 3 by rw [entC, hw]; rfl, show entE (zs.getD j 0) = (0, 0) by rw [entE, hw]; rfl] at hE
        have HXX : Hid (cz = 3 ∧ pz = []) := ⟨by rw [HC.out, HX hw]; rfl, by rw [HP.out, HX hw]; rfl⟩
        generalize zs.getD j 0 = z at *
        clear hB hlt hA HT HX HM hw
        go_wp2_with fail
        refine (hE _).mono ?_
        rintro e w5 ⟨rfl, b5⟩
        have r0 := cell_keep b5 r0
        have r1 := cell_keep b5 r1
        have f0 : w5.frozen? ⟨w.heap.size, 0, none⟩ = false := by rw [b5.frozen (p := ⟨w.heap.size, 0, none⟩) s0]; exact f0
        have f1 : w5.frozen? ⟨w.heap.size, 1, none⟩ = false := by rw [b5.frozen (p := ⟨w.heap.size, 1, none⟩) s0]; exact f1
        have B5 : Hid (Below w.heap.size w w5) := on HB.out b5
        have s5 : w.heap.size < w5.heap.size := block_of_cell r0
        clear b5
        go_wp2_with fail
        exact bodyPost_ret (v := .agg #[.int .i64 3, .slice none 0 0]) (by simp [results, Tryz.results122, go_sem, r0, r1, s5]) rfl ⟨_, by rw [HXX.out.1], by rw [HXX.out.2]; exact Prs.nil _ _ _, al ((B5.out.setCell (by simp) _).setCell (by simp) _) _⟩
      · rw [show entC (zs.getD j 0) = 0 by rw [entC, hw]; rfl, show entE (zs.getD j 0) = entP (zs.getD j 0) by rw [entE, hw]; rfl] at hE
        rw [hw] at HT
        have HTT : Hid ((zs.take (j + 1)).all isW = true) := HT
        have HMM : Hid ((zs.take (j + 1)).map entP = (zs.take j).map entP ++ [((entP (zs.getD j 0)).1, (entP (zs.getD j 0)).2)]) := HM
        generalize (entP (zs.getD j 0)).1 = p at *
        generalize (entP (zs.getD j 0)).2 = q at *
        generalize zs.getD j 0 = z at *
        clear hB hlt hA HT HX HM hw
        go_wp2_with fail
        refine (hE _).mono ?_
        rintro e w5 ⟨rfl, b5⟩
        have r0 := cell_keep b5 r0
        have r1 := cell_keep b5 r1
        have f0 : w5.frozen? ⟨w.heap.size, 0, none⟩ = false := by rw [b5.frozen (p := ⟨w.heap.size, 0, none⟩) s0]; exact f0
        have f1 : w5.frozen? ⟨w.heap.size, 1, none⟩ = false := by rw [b5.frozen (p := ⟨w.heap.size, 1, none⟩) s0]; exact f1
        have B5 : Hid (Below w.heap.size w w5) := on HB.out b5
        have P5 : Hid (Prs 36 w5 (w.heap.size + 1) (.slice ua un uc) ((zs.take j).map entP)) := PB.out.keep b5
        have s5 : w.heap.size < w5.heap.size := block_of_cell r0
        have S5 : Hid (w.heap.size < w5.heap.size) := s5
        clear b5 hE
        go_wp2_with (at_builtin; refine wp_pair 27 36 Tryz.underlying27 info_page _ rfl _ _ rfl (w.heap.size + 1) _ _ rfl (P5.out.keep (al (al (Below.refl _ _) _) _)) _ p q rfl (cell_new2 rfl) (cell_new2 rfl) (by rw [hun]; have := HLN.out; omega) (by have := S5.out; simp; omega) ?_; intro v' w' hP' hG')
        have PP : Hid (Prs 36 w' (w.heap.size + 1) v' _) := hP'
        have BP : Hid (Below w.heap.size w w') := (al (al B5.out _) _).grown hG' (by have := S5.out; simp; omega) (fun k hk => by have := (P5.out.lt k hk).1; omega)
        have hne : some w.heap.size ≠ (Value.slice ua un uc).ownBlock := pown_not P5.out _ (.inl (by omega))
        have r0 := cell_grown hG' (cell_push _ (cell_push _ r0)) hne
        have r1 := cell_grown hG' (cell_push _ (cell_push _ r1)) hne
        have f0 : w'.frozen? ⟨w.heap.size, 0, none⟩ = false := by rw [frozen_grown (p := ⟨w.heap.size, 0, none⟩) hG' (by simp; omega) hne, (al (al (Below.refl w5.heap.size w5) _) _).frozen (p := ⟨w.heap.size, 0, none⟩) s5]; exact f0
        have f1 : w'.frozen? ⟨w.heap.size, 1, none⟩ = false := by rw [frozen_grown (p := ⟨w.heap.size, 1, none⟩) hG' (by simp; omega) hne, (al (al (Below.refl w5.heap.size w5) _) _).frozen (p := ⟨w.heap.size, 1, none⟩) s5]; exact f1
        clear hP' hG' hne
        go_wp2_with fail
        go_roundw
        case rel => exact ⟨j + 1, by have := HL.out; omega, by go_num, HTT.out, by rw [HMM.out]; exact PP.out, r0, r1, f0, f1, BP.out⟩
        case measure => have := HL.out; simp [intOf]; omega
    · have hI : ¬ (j : Int) < 8 := by omega
      obtain rfl : j = 8 := by omega
      have hz8 : zs.take 8 = zs := List.take_of_length_le (Nat.le_of_eq HN.out)
      rw [hz8] at PB HA
      have HXX : Hid (cz = 0 ∧ pz = zs.map entP) := ⟨by rw [HC.out, HA.out]; rfl, by rw [HP.out, HA.out]; rfl⟩
      have hv : Hid (some w.heap.size ≠ (Value.slice ua un uc).ownBlock) := pown_not PB.out _ (.inl (by omega))
      clear hB hA
      go_wp2_with fail
      exact bodyPost_ret (v := .agg #[.int .i64 0, .slice ua un uc]) (by simp [results, Tryz.results122, go_sem, r0, r1]) rfl ⟨_, by rw [HXX.out.1], by rw [HXX.out.2]; exact ((PB.out.put _ _ (fun e => hv.out e.symm)).put _ _ (fun e => hv.out e.symm)).mono (by omega), (HB.out.setCell (by simp) _).setCell (by simp) _⟩
def beyB (ps : List (Int × Int)) (n : Nat) : Bool := ps.any fun p => decide (((n / 8 : Nat) : Int) ≤ p.1)
def seenC (H : Ht) (ps : List (Int × Int)) (zs : List Int) : Int := if hfV H = 0 then (if pgsV ps 24 = 0 then (if memV zs = 0 then (if beyB ps zs.length then 1 else 0) else 1) else pgsV ps 24) else hfV H
def tabV (H : Ht) : Int := H.csr.getD 10 0
def tpg (H : Ht) (ps : List (Int × Int)) : Int × Int := ps.getD (tabV H - 1).toNat (0, 0)
def strL : List (Int × Int) := [(0, 7), (1, 7), (2, 7), (3, 7), (4, 7), (5, 7), (6, 7), (7, 7)]
def noB (H : Ht) (ps : List (Int × Int)) : Bool := decide (tabV H = 8) || (bits BinOp.and .i64 (tpg H ps).2 1 == 0)
def spC (H : Ht) (ps : List (Int × Int)) : Int := if tabV H = 0 then 0 else if noB H ps then 7 else 0
def spP (H : Ht) (ps : List (Int × Int)) (zs : List Int) : List (Int × Int) := if tabV H = 0 then strL else if noB H ps then [] else (eight zs (tpg H ps).1.toNat).map entP
def behC (ps : List (Int × Int)) (y k : Int) : Int := if y / 8 = 7 then (if k = 4 then 9 else 0) else wkC ps y k
def behV (ps : List (Int × Int)) (y k : Int) : Int := if y / 8 = 7 then (if k = 4 then 0 else 1000 + y % 8) else wkV ps y k
def plC (H : Ht) (ps : List (Int × Int)) (zs : List Int) (x k : Int) : Int := if spC H ps = 0 then (if wkC (spP H ps zs) x k = 0 then behC ps (wkV (spP H ps zs) x k) k else wkC (spP H ps zs) x k) else spC H ps
def plV (H : Ht) (ps : List (Int × Int)) (zs : List Int) (x k : Int) : Int := if spC H ps = 0 then (if wkC (spP H ps zs) x k = 0 then behV ps (wkV (spP H ps zs) x k) k else 0) else 0
structure Sn (H : Ht) (ps : List (Int × Int)) (zs : List Int) (p : Nat) : Prop where
  hok : Hok H
  l8 : ps.length = 8
  ok : okTo 24 ps 8
  zl : zs.length = p * 8
  p1 : 1 ≤ p
  p24 : p ≤ 24
  zw : zs.all isW = true
  tl : ∀ j, j < 8 → (ps.getD j (0, 0)).1 < p
  t0 : 0 ≤ tabV H
  t8 : tabV H ≤ 8
theorem seen_ok {H : Ht} {ps : List (Int × Int)} {zs : List Int} (h : seenC H ps zs = 0) : ∃ p, Sn H ps zs p := by
  unfold seenC at h
  split at h
  · rename_i h1
    split at h
    · rename_i h2
      split at h
      · rename_i h3
        split at h
        · exact absurd h (by decide)
        · rename_i h4
          obtain ⟨_, _, hl, ho⟩ := pgsV_zero h2
          have hk := hok_of h1
          unfold memV at h3
          split at h3
          · rename_i hf
            split at h3
            · rename_i hw
              unfold formB at hf
              have hf := of_decide_eq_true hf
              have ht := hk.st
              unfold standC at ht
              simp at ht
              refine ⟨zs.length / 8, hk, hl, ho, by omega, by omega, by omega, hw, fun j hj => ?_, (all_at hk.cw 10).1, by unfold tabV; simp; omega⟩
              have hb : beyB ps zs.length = false := by simpa using h4
              unfold beyB at hb
              rw [List.any_eq_false] at hb
              have := hb (ps.getD j (0, 0)) (by rw [List.getD, List.getElem?_eq_getElem (by omega)]; exact List.getElem_mem _)
              simp at this
              simpa using this
            · exact absurd h3 (by decide)
          · exact absurd h3 (by decide)
      · exact absurd h (by decide)
    · rename_i h2; exact absurd h h2
  · rename_i h1; exact absurd h h1
theorem okTo_up {ps : List (Int × Int)} {n : Nat} (h : okTo 8 ps n) : okTo 24 ps n := fun i hi => by
  have := pgC_zero (h i hi)
  exact pgC_ok ⟨by omega, by omega, by omega, by omega⟩ (fun e => e.2 (this.2.2.2.2 e.1))
theorem okTo_str : okTo 8 strL 8 := fun i hi => by
  have e : i = 0 ∨ i = 1 ∨ i = 2 ∨ i = 3 ∨ i = 4 ∨ i = 5 ∨ i = 6 ∨ i = 7 := by omega
  rcases e with rfl | rfl | rfl | rfl | rfl | rfl | rfl | rfl <;> rfl
theorem okTo_ent {zs : List Int} (hl : zs.length = 8) (hw : zs.all isW = true) : okTo 8 (zs.map entP) 8 := fun i hi => by
  have hm := List.all_eq_true.1 hw _ (List.getElem_mem (l := zs) (n := i) (by omega))
  obtain ⟨h0, h1⟩ := isW_true hm
  rw [List.getD, List.getElem?_map, List.getElem?_eq_getElem (by omega)]
  simp only [Option.map_some, Option.getD_some]
  unfold entP
  split
  · rfl
  · rename_i h
    exact pgC_ok ⟨by simp; omega, by simp; omega, by simp; omega, by simp; omega⟩ (by simp; omega)
theorem all_eight {zs : List Int} (h : zs.all isW = true) (j : Nat) : (eight zs j).all isW = true := by
  rw [List.all_eq_true] at h ⊢
  intro x hx
  exact h x (List.mem_of_mem_drop (List.mem_of_mem_take hx))
theorem tpg_in {H : Ht} {ps : List (Int × Int)} {zs : List Int} {p : Nat} (s : Sn H ps zs p) (hz : ¬ tabV H = 0) : pgC 24 (tpg H ps).1 (tpg H ps).2 = 0 ∧ (tpg H ps).1 < p := by
  have h0 := s.t0
  have h8 := s.t8
  have hj : (tabV H - 1).toNat < 8 := by omega
  exact ⟨s.ok _ hj, s.tl _ hj⟩
theorem tpg_to {H : Ht} {ps : List (Int × Int)} {zs : List Int} {p : Nat} (s : Sn H ps zs p) (hz : ¬ tabV H = 0) (hn : noB H ps = false) : ∃ q : Nat, q < p ∧ (tpg H ps).1 = (q : Int) := by
  obtain ⟨h1, h2⟩ := tpg_in s hz
  have h3 := pgC_zero h1
  have h4 : (tpg H ps).1 ≠ -1 := by
    intro e
    have := h3.2.2.2.2 e
    unfold noB at hn
    rw [this, band_zero] at hn
    simp at hn
  exact ⟨(tpg H ps).1.toNat, by omega, by omega⟩
theorem sp_ok {H : Ht} {ps : List (Int × Int)} {zs : List Int} {p : Nat} (s : Sn H ps zs p) (h : spC H ps = 0) : (spP H ps zs).length = 8 ∧ okTo 8 (spP H ps zs) 8 := by
  by_cases ht : tabV H = 0
  · have e : spP H ps zs = strL := if_pos ht
    rw [e]
    exact ⟨rfl, okTo_str⟩
  · unfold spC at h
    rw [if_neg ht] at h
    cases hn : noB H ps
    · obtain ⟨q, hq, e1⟩ := tpg_to s ht hn
      have e : spP H ps zs = (eight zs q).map entP := by
        unfold spP
        rw [if_neg ht, hn, e1]
        simp
      rw [e]
      have l := eight_length zs p q s.zl hq
      exact ⟨by simp [l], okTo_ent l (all_eight s.zw q)⟩
    · rw [hn] at h
      exact absurd h (by decide)
theorem sp_goes {rs : List (Int × Int)} {x k : Int} (ho : okTo 8 rs 8) (hk : kindB k = true) (h : wkC rs x k = 0) : goesB rs x k = true ∧ wkV rs x k = goesTo rs x ∧ 0 ≤ wkV rs x k ∧ wkV rs x k ≤ 63 := by
  have hg : goesB rs x k = true := by
    cases hg : goesB rs x k
    · unfold wkC at h
      rw [hk, hg] at h
      exact absurd h (by rcases kind_cases hk with rfl | rfl | rfl <;> decide)
    · rfl
  have e : wkV rs x k = goesTo rs x := by simp [wkV, hk, hg]
  obtain ⟨h0, h1, h2, h3⟩ := goes_in ho hg
  refine ⟨hg, e, ?_, ?_⟩ <;> rw [e] <;> unfold goesTo <;> omega
theorem bey_take (ps : List (Int × Int)) (n j : Nat) (h : j < ps.length) : beyB (ps.take (j + 1)) n = (beyB (ps.take j) n || decide (((n / 8 : Nat) : Int) ≤ (ps.getD j (0, 0)).1)) := by
  unfold beyB
  rw [List.take_succ_eq_append_getElem h, List.any_append, List.getD, List.getElem?_eq_getElem h]
  simp
theorem bey_here {ps : List (Int × Int)} {n j : Nat} (h : j < ps.length) (hb : ((n / 8 : Nat) : Int) ≤ (ps.getD j (0, 0)).1) : beyB ps n = true := by
  unfold beyB
  rw [List.any_eq_true]
  refine ⟨ps.getD j (0, 0), ?_, by simpa using hb⟩
  rw [List.getD, List.getElem?_eq_getElem h]
  exact List.getElem_mem _
set_option maxHeartbeats 2000000 in
theorem i_beyond (g pc : Nat) (ps : List (Int × Int)) (b p : Nat) (ma : Option Addr) (mc : Nat) (w : World) (h : Prs 36 w b (.slice (some ⟨g, 0, none⟩) 8 pc) ps) (hl : ps.length = 8) (hp : p ≤ 24) :
    Calls Tryz.prog 68 #[.slice (some ⟨g, 0, none⟩) 8 pc, .slice ma (p * 8) mc] w fun e w' => e = .returned (.bool (beyB ps (p * 8))) ∧ Below w.heap.size w w' := by
  have HP : Hid (Prs 36 w b (.slice (some ⟨g, 0, none⟩) 8 pc) ps) := h
  have HL : Hid (ps.length = 8) := hl
  have hpi : (p : Int) ≤ 24 := by omega
  have hdi : p * 8 / 8 = p := by omega
  have HD : Hid (p * 8 / 8 = p) := hdi
  clear h hl hdi hp
  go_enter Tryz.func68, Tryz.ntmps68
  go_wp2_with fail
  go_loopw [6, 9] (fun _ c wr => ∃ j : Nat, j ≤ 8 ∧ c = .int .i64 j ∧ beyB (ps.take j) (p * 8) = false ∧ Below w.heap.size w wr) (fun _ c _ => 8 - (intOf c).toNat)
  case atStart => exact ⟨0, Nat.zero_le _, rfl, rfl, Below.refl _ _⟩
  case round =>
    obtain ⟨j, hj, rfl, hA, hB⟩ := hrel
    have HB : Hid (Below w.heap.size w wr) := hB
    have HA : Hid (beyB (ps.take j) (p * 8) = false) := hA
    clear hA
    by_cases hlt : j < 8
    · have c0 := cell_keep hB (HP.out.cell HL.out.symm j hlt).1
      have c1 := cell_keep hB (HP.out.cell HL.out.symm j hlt).2
      have gb : g < wr.heap.size := block_of_cell c0
      have hI : (j : Int) < 8 := by omega
      have HLT : Hid (j < 8) := hlt
      have HT := bey_take ps (p * 8) j (by have := HL.out; omega)
      rw [HA.out] at HT
      have HE := bey_here (ps := ps) (n := p * 8) (j := j) (by have := HL.out; omega)
      rw [HD.out] at HT HE
      generalize (ps.getD j (0, 0)).1 = x at *
      generalize (ps.getD j (0, 0)).2 = y at *
      have HTT : Hid (beyB (ps.take (j + 1)) (p * 8) = (false || decide ((p : Int) ≤ x))) := HT
      have HEE : Hid ((p : Int) ≤ x → beyB ps (p * 8) = true) := HE
      clear HT HE hB hlt
      by_cases hx : (p : Int) ≤ x
      · go_wp2_with fail
        go_ret
        exact ⟨by rw [HEE.out hx]; rfl, al HB.out _⟩
      · have hx2 : x < (p : Int) := by omega
        go_wp2_with fail
        go_roundw
        case rel => exact ⟨j + 1, by have := HLT.out; omega, by go_num, by rw [HTT.out]; simpa using hx2, al HB.out _⟩
        case measure => have := HLT.out; simp [intOf]; omega
    · have hI : ¬ (j : Int) < 8 := by omega
      obtain rfl : j = 8 := by omega
      have HE : Hid (beyB ps (p * 8) = false) := by
        have := HA.out
        rw [List.take_of_length_le (Nat.le_of_eq HL.out)] at this
        exact this
      clear hB
      go_wp2_with fail
      go_ret
      exact ⟨by rw [HE.out]; rfl, HB.out⟩
set_option maxRecDepth 20000 in
set_option maxHeartbeats 4000000 in
theorem i_seen (r c i o : Value) (H : Ht) (pa : Option Addr) (pn pc : Nat) (ps : List (Int × Int)) (ma : Option Addr) (mn mc : Nat) (zs : List Int) (b : Nat) (w : World) (h : Hm w b r c i o H) (hP : Prs 36 w b (.slice pa pn pc) ps) (hl : ps.length ≤ 1048576) (hM : Nums w b (.slice ma mn mc) zs) (hm : zs.length ≤ 1048576) :
    Calls Tryz.prog 34 #[.agg #[r, .int .i64 H.pc, c, .bool H.halted, .bool H.waiting, .bool H.rung, .int .i64 H.done, i, o], .slice pa pn pc, .slice ma mn mc] w fun e w' => e = .returned (.int .i64 (seenC H ps zs)) ∧ Below w.heap.size w w' := by
  have HM : Hid (Hm w b r c i o H) := h
  have HP : Hid (Prs 36 w b (.slice pa pn pc) ps) := hP
  have HZ : Hid (Nums w b (.slice ma mn mc) zs) := hM
  have HL : Hid (ps.length ≤ 1048576 ∧ zs.length ≤ 1048576) := ⟨hl, hm⟩
  have HN : Hid (mn = zs.length ∧ pn = ps.length) := by
    refine ⟨hM.len, ?_⟩
    obtain ⟨a, cap, hv, _⟩ := hP.shape
    cases hv
    rfl
  obtain ⟨a0, k0, rfl, _⟩ := h.r.shape
  obtain ⟨a1, k1, rfl, _⟩ := h.c.shape
  obtain ⟨a2, k2, rfl, _⟩ := h.i.shape
  obtain ⟨a3, k3, rfl, _⟩ := h.o.shape
  clear h hP hM hl hm
  generalize hW : w.alloc (.cells #[.slice a0 H.regs.length k0, .int .i64 H.pc, .slice a1 H.csr.length k1, .bool H.halted, .bool H.waiting, .bool H.rung, .int .i64 H.done, .slice a2 H.inn.length k2, .slice a3 H.out.length k3] 26) = W
  have B0 : Hid (Below w.heap.size w W) := by show Below _ _ _; rw [← hW]; exact al (Below.refl _ _) _
  obtain ⟨s, hS⟩ : ∃ s, w.heap.size = s := ⟨_, rfl⟩
  have VA : Hid (Vb W s #[.slice a0 H.regs.length k0, .int .i64 H.pc, .slice a1 H.csr.length k1, .bool H.halted, .bool H.waiting, .bool H.rung, .int .i64 H.done, .slice a2 H.inn.length k2, .slice a3 H.out.length k3] 26) := by
    show Vb _ _ _ _; rw [← hW, ← hS]; exact Vb.new _ _ _
  have q0 := VA.out.cell 0 rfl
  have q1 := VA.out.cell 1 rfl
  have q2 := VA.out.cell 2 rfl
  have q3 := VA.out.cell 3 rfl
  have q4 := VA.out.cell 4 rfl
  have q5 := VA.out.cell 5 rfl
  have q6 := VA.out.cell 6 rfl
  have q7 := VA.out.cell 7 rfl
  have q8 := VA.out.cell 8 rfl
  go_enter Tryz.func34, Tryz.ntmps34
  go_wp2_with fail
  clear hW hS q0 q1 q2 q3 q4 q5 q6 q7 q8
  refine (i_fault _ _ _ _ H _ _ (HM.out.keep B0.out)).mono ?_
  rintro e w1 ⟨rfl, b1⟩
  have B1 : Hid (Below w.heap.size w w1) := on B0.out b1
  clear b1 VA B0
  by_cases hf : hfV H = 0
  case neg =>
    have HE : Hid (seenC H ps zs = hfV H) := if_neg hf
    generalize hfV H = f at *
    go_wp2_with fail
    go_ret
    exact ⟨by rw [HE.out]; rfl, B1.out⟩
  have E1 : seenC H ps zs = if pgsV ps 24 = 0 then (if memV zs = 0 then (if beyB ps zs.length then 1 else 0) else 1) else pgsV ps 24 := if_pos hf
  rw [hf]
  clear hf
  go_wp2_with fail
  refine (impl_fault _ ps 24 b w1 (HP.out.keep B1.out) HL.out.1).mono ?_
  rintro e w2 ⟨rfl, b2⟩
  have B2 : Hid (Below w.heap.size w w2) := on B1.out b2
  clear b2
  by_cases hp : pgsV ps 24 = 0
  case neg =>
    have HE : Hid (seenC H ps zs = pgsV ps 24) := by show _ = _; rw [E1, if_neg hp]
    clear E1
    generalize pgsV ps 24 = f at *
    go_wp2_with fail
    go_ret
    exact ⟨by rw [HE.out]; rfl, B2.out⟩
  rw [if_pos hp] at E1
  obtain ⟨_, _, hl8, _⟩ := pgsV_zero hp
  rw [hp]
  clear hp
  go_wp2_with fail
  refine (impl_memFault _ zs b w2 (HZ.out.keep B2.out)).mono ?_
  rintro e w3 ⟨rfl, hw3⟩
  rw [hw3]
  clear hw3 w3
  by_cases hz : memV zs = 0
  case neg =>
    have HE : Hid (seenC H ps zs = 1) := by show _ = _; rw [E1, if_neg hz]
    clear E1 hl8
    generalize memV zs = f at *
    go_wp2_with fail
    go_ret
    exact ⟨by rw [HE.out]; rfl, B2.out⟩
  rw [if_pos hz] at E1
  have hz8 : ∃ p, zs.length = p * 8 ∧ p ≤ 24 := by
    unfold memV at hz
    split at hz
    · rename_i hf
      unfold formB at hf
      have hf := of_decide_eq_true hf
      exact ⟨zs.length / 8, by omega, by omega⟩
    · exact absurd hz (by decide)
  obtain ⟨p, hzp, hp24⟩ := hz8
  rw [hz]
  obtain ⟨hn1, hn2⟩ := HN.out
  obtain rfl : mn = p * 8 := by omega
  obtain rfl : pn = 8 := by omega
  obtain ⟨pa', pc', hv, -, -, hg⟩ := HP.out.shape
  obtain ⟨g, hg⟩ := hg (by omega)
  simp only [Value.slice.injEq] at hv
  obtain ⟨hv1, -, -⟩ := hv
  rw [hg] at hv1
  subst hv1
  clear hg
  rw [hzp] at E1
  have HE1 : Hid (seenC H ps zs = if beyB ps (p * 8) then 1 else 0) := E1
  have HL8 : Hid (ps.length = 8) := hl8
  clear hz hn1 hn2 E1 hl8 hzp
  go_wp2_with fail
  refine (i_beyond g pc ps b p ma mc w2 (HP.out.keep B2.out) HL8.out hp24).mono ?_
  rintro e w4 ⟨rfl, b4⟩
  have B4 : Hid (Below w.heap.size w w4) := on B2.out b4
  clear b4
  cases hb : beyB ps (p * 8)
  · have HE : Hid (seenC H ps zs = 0) := by show _ = _; rw [HE1.out, hb]; rfl
    clear hb
    go_wp2_with fail
    go_ret
    exact ⟨by rw [HE.out]; rfl, B4.out⟩
  · have HE : Hid (seenC H ps zs = 1) := by show _ = _; rw [HE1.out, hb]; rfl
    clear hb
    go_wp2_with fail
    go_ret
    exact ⟨by rw [HE.out]; rfl, B4.out⟩
def mcr (H : Ht) (i o l p : Value) (ca ri : Int) : Array Value := #[.int .i64 (gt H.regs 0), .int .i64 (gt H.regs 1), .int .i64 (gt H.regs 2), .int .i64 (gt H.regs 3), .int .i64 (gt H.regs 4), .int .i64 (gt H.regs 5), .int .i64 (gt H.regs 6), .int .i64 (gt H.regs 7), .int .i64 (gt H.regs 8), .int .i64 (gt H.regs 9), .int .i64 (gt H.regs 10), .int .i64 (gt H.regs 11), .int .i64 (gt H.regs 12), .int .i64 (gt H.regs 13), .int .i64 (gt H.regs 14), .int .i64 (gt H.regs 15), .int .i64 H.pc, .int .i64 (gt H.csr 0), .int .i64 (gt H.csr 1), .int .i64 (gt H.csr 2), .int .i64 (gt H.csr 3), .int .i64 (gt H.csr 4), .int .i64 (gt H.csr 5), .int .i64 (gt H.csr 6), .int .i64 (gt H.csr 7), .int .i64 (gt H.csr 8), .int .i64 (gt H.csr 9), .int .i64 (gt H.csr 10), .bool H.halted, .bool H.waiting, .bool H.rung, .int .i64 H.done, i, o, l, p, .int .i64 ca, .int .i64 ri]
theorem mcr_size (H : Ht) (i o l p : Value) (ca ri : Int) : (mcr H i o l p ca ri).size = 38 := rfl
def mrz : Array Value := #[.int .i64 0, .int .i64 0, .int .i64 0, .int .i64 0, .int .i64 0, .int .i64 0, .int .i64 0, .int .i64 0, .int .i64 0, .int .i64 0, .int .i64 0, .int .i64 0, .int .i64 0, .int .i64 0, .int .i64 0, .int .i64 0, .int .i64 0, .int .i64 0, .int .i64 0, .int .i64 0, .int .i64 0, .int .i64 0, .int .i64 0, .int .i64 0, .int .i64 0, .int .i64 0, .int .i64 0, .int .i64 0, .bool false, .bool false, .bool false, .int .i64 0, .slice none 0 0, .slice none 0 0, .slice none 0 0, .slice none 0 0, .int .i64 0, .int .i64 0]
theorem mcr_one (H : Ht) (i o l p : Value) (ca ri : Int) (hi : i.oneCell' = true) (ho : o.oneCell' = true) (hl : l.oneCell' = true) (hp : p.oneCell' = true) : (mcr H i o l p ca ri).all (·.oneCell') = true := by
  have h1 : ∀ z : Int, (Value.int .i64 z).oneCell' = true := fun _ => rfl
  have h2 : ∀ z : Bool, (Value.bool z).oneCell' = true := fun _ => rfl
  simp [mcr, h1, h2, hi, ho, hl, hp]
theorem mrz_there {w : World} {q : Nat} {t : TypeId} {cs : Array Value} (h : Vb w q cs t) : w.there q 0 cs.size := fun j hj => by
  rw [Nat.zero_add]
  exact ⟨by rw [h.cell j (Array.getElem?_eq_getElem hj)]; rfl, h.free _⟩
theorem wp_build {op : Oper} {a : Act} {w : World} {K : Act → World → Prop} {Q : Exit → Act → World → Prop} (t : TypeId) (parts : Array (Nat × Operand)) (ho : op.op = .build t parts) (cells : Array Value) (hb : Tryz.prog.built t (parts.map fun (i, x) => (i, a.eval x)).toList = some cells)
    (h : K (a.put op.dst (.agg cells)) w) : op.wp Tryz.prog a w K Q := by
  unfold Oper.wp execOp
  simp only [ho, Sem.run_bind, run_build (P := Tryz.prog) w t _ cells hb, Sem.run_pure, Result.andThen_ok]
  exact h
def Sr (W : World) (q : Nat) (w' : World) : Prop := Mq (fun k => k = q) W w' ∧ w'.there q 0 38
theorem Sr.step {W w w' : World} {q : Nat} (h : Sr W q w) (hq : q < W.heap.size) (b : Below w.heap.size w w') : Sr W q w' :=
  ⟨h.1.trans (Mq.of (below_grown b none) fun k e => by cases e), there_below h.2 (Nat.lt_of_lt_of_le hq h.1.size) b⟩
theorem Sr.set {W w : World} {q : Nat} (h : Sr W q w) (vs : List Value) : Sr W q (w.setCells q 0 vs) := ⟨h.1.trans (mq_cells q vs w 0), World.there_setCells h.2 _ _ _⟩
set_option maxRecDepth 20000 in
set_option maxHeartbeats 8000000 in
theorem i_runnerOver (r c i o : Value) (H : Ht) (la : Option Addr) (ln lc : Nat) (pa : Option Addr) (pn pk : Nat) (b : Nat) (w : World) (h : Hm w b r c i o H) (hk : Hok H) :
    Calls Tryz.prog 69 #[.agg #[r, .int .i64 H.pc, c, .bool H.halted, .bool H.waiting, .bool H.rung, .int .i64 H.done, i, o], .slice la ln lc, .slice pa pn pk] w fun e w' => ∃ i' o', e = .returned (.agg (mcr H i' o' (.slice la ln lc) (.slice pa pn pk) (-1) (-1))) ∧ Nums w' w.heap.size i' H.inn ∧ Nums w' w.heap.size o' H.out ∧ Apt i' o' ∧ Below w.heap.size w w' ∧ ∃ bo, w.heap.size ≤ bo ∧ bo ≤ w'.heap.size ∧ Nums w' bo o' H.out ∧ (∀ k, i'.ownBlock = some k → k < bo) := by
  have HM : Hid (Hm w b r c i o H) := h
  have K : Hid (Hok H) := hk
  obtain ⟨a0, k0, rfl, _⟩ := h.r.shape
  obtain ⟨a1, k1, rfl, _⟩ := h.c.shape
  obtain ⟨a2, k2, rfl, _⟩ := h.i.shape
  obtain ⟨a3, k3, rfl, _⟩ := h.o.shape
  clear h hk
  generalize hW : (w.alloc (.cells #[.slice a0 H.regs.length k0, .int .i64 H.pc, .slice a1 H.csr.length k1, .bool H.halted, .bool H.waiting, .bool H.rung, .int .i64 H.done, .slice a2 H.inn.length k2, .slice a3 H.out.length k3] 26)).alloc (.cells #[.int .i64 0, .int .i64 0, .int .i64 0, .int .i64 0, .int .i64 0, .int .i64 0, .int .i64 0, .int .i64 0, .int .i64 0, .int .i64 0, .int .i64 0, .int .i64 0, .int .i64 0, .int .i64 0, .int .i64 0, .int .i64 0, .int .i64 0, .int .i64 0, .int .i64 0, .int .i64 0, .int .i64 0, .int .i64 0, .int .i64 0, .int .i64 0, .int .i64 0, .int .i64 0, .int .i64 0, .int .i64 0, .bool false, .bool false, .bool false, .int .i64 0, .slice none 0 0, .slice none 0 0, .slice none 0 0, .slice none 0 0, .int .i64 0, .int .i64 0] 78) = W
  have B0 : Hid (Below w.heap.size w W) := by show Below _ _ _; rw [← hW]; exact al (al (Below.refl _ _) _) _
  obtain ⟨s, hS⟩ : ∃ s, w.heap.size = s := ⟨_, rfl⟩
  have HS : Hid (w.heap.size = s) := hS
  have VA : Hid (Vb W s #[.slice a0 H.regs.length k0, .int .i64 H.pc, .slice a1 H.csr.length k1, .bool H.halted, .bool H.waiting, .bool H.rung, .int .i64 H.done, .slice a2 H.inn.length k2, .slice a3 H.out.length k3] 26) := by
    show Vb _ _ _ _; rw [← hW, ← hS]; exact (Vb.new _ _ _).push _
  have VR : Hid (Vb W (s + 1) mrz 78) := by
    have z1 : s + 1 = (w.alloc (.cells #[.slice a0 H.regs.length k0, .int .i64 H.pc, .slice a1 H.csr.length k1, .bool H.halted, .bool H.waiting, .bool H.rung, .int .i64 H.done, .slice a2 H.inn.length k2, .slice a3 H.out.length k3] 26)).heap.size := by rw [← hS]; simp
    show Vb _ _ _ _; rw [← hW, z1]; exact Vb.new _ _ _
  have LW : Hid (s + 2 ≤ W.heap.size) := by show _ ≤ _; rw [← hW, ← hS]; simp
  have q0 := VA.out.cell 0 rfl
  have q1 := VA.out.cell 1 rfl
  have q2 := VA.out.cell 2 rfl
  have q3 := VA.out.cell 3 rfl
  have q4 := VA.out.cell 4 rfl
  have q5 := VA.out.cell 5 rfl
  have q6 := VA.out.cell 6 rfl
  have q7 := VA.out.cell 7 rfl
  have q8 := VA.out.cell 8 rfl
  go_enter Tryz.func69, Tryz.ntmps69
  go_wp2_with fail
  clear hW hS q0 q1 q2 q3 q4 q5 q6 q7 q8
  refine (i_machineX _ _ _ _ H _ _ (HM.out.keep B0.out) K.out.r16 K.out.c11 (by have := K.out.i40; omega) (by have := K.out.o40; omega)).mono ?_
  rintro e w2 ⟨i2, o2, rfl, mi, mo, ap, b2, bo, bo1, bo2, bo3, bo4⟩
  have BO : Hid (W.heap.size ≤ bo ∧ bo ≤ w2.heap.size) := ⟨bo1, bo2⟩
  have BO4 : Hid (∀ k, i2.ownBlock = some k → k < bo) := bo4
  have BO3 : Hid (Nums w2 bo o2 H.out) := bo3
  have MI : Hid (Nums w2 W.heap.size i2 H.inn) := mi
  have MO : Hid (Nums w2 W.heap.size o2 H.out) := mo
  have AP : Hid (Apt i2 o2) := ap
  have B2 : Hid (Below w.heap.size w w2) := on B0.out b2
  have VR2 : Hid (Vb w2 (s + 1) mrz 78) := VR.out.keep b2
  obtain ⟨xa, xk, rfl, _⟩ := mi.shape
  obtain ⟨ya, yk, rfl, _⟩ := mo.shape
  generalize hxn : H.inn.length = xn at *
  generalize hyn : H.out.length = yn at *
  clear mi mo ap b2 hxn hyn VR VA bo1 bo2 bo3 bo4
  have L2 : Hid (s + 1 < w2.heap.size) := VR2.out.lt
  generalize hX : mcr H (.slice xa xn xk) (.slice ya yn yk) (.slice la ln lc) (.slice pa pn pk) (-1) (-1) = X at *
  have hsz : X.size = 38 := by rw [← hX]; rfl
  have XO : Hid (X.all (·.oneCell') = true) := by show _ = _; rw [← hX]; exact mcr_one _ _ _ _ _ _ _ rfl rfl rfl rfl
  have HX : Hid (mcr H (.slice xa xn xk) (.slice ya yn yk) (.slice la ln lc) (.slice pa pn pk) (-1) (-1) = X) := hX
  clear hX
  go_simp
  go_step
  go_step
  go_step
  go_step
  go_step
  go_step
  go_step
  go_step
  refine wp_build _ _ rfl X (by rw [← HX.out]; kernel_rfl) ?_
  simp only [Act.put, zT, zZ, zS]
  go_step
  go_step
  have TH : w2.there (s + 1) 0 X.size := by
    have t := mrz_there VR2.out
    rw [hsz]
    exact t
  refine wp_store_mid 78 (.tmp 6) (.tmp 11) rfl (s + 1) 0 X rfl rfl TH (by rw [hsz]; kernel_rfl) XO.out ?_
  simp only [Act.put]
  have M4 := mq_cells (s + 1) X.toList w2 0
  have B4 : Below w.heap.size w (w2.setCells (s + 1) 0 X.toList) := Mq.under B2.out M4 fun k e => by have := HS.out; omega
  have O4 : Ho W.heap.size w2 (w2.setCells (s + 1) 0 X.toList) := M4.ho fun k e => by have := LW.out; omega
  have R4 : (w2.setCells (s + 1) 0 X.toList).rangeAt (s + 1) 0 X.toList := World.rangeAt_setCells_same _ _ _ _ (by simpa using TH)
  generalize w2.setCells (s + 1) 0 X.toList = w4 at *
  have LD := run_loadVar_mid (P := Tryz.prog) w4 (s + 1) 0 78 X.toList _ R4 Tryz.underlying78 rfl (by rw [Array.length_toList, hsz]; kernel_rfl)
  go_wp2_with fail
  exact bodyPost_ret (v := .agg X) (by simp [results, Tryz.results69, asAddr]; rw [LD]) rfl ⟨_, _, by rw [HX.out], (MI.out.ho O4).mono B0.out.size, (MO.out.ho O4).mono B0.out.size, AP.out, B4, bo, Nat.le_trans B0.out.size BO.out.1, Nat.le_trans BO.out.2 O4.size, BO3.out.ho ⟨O4.size, fun k hb hk => O4.block k (Nat.le_trans BO.out.1 hb) hk⟩, BO4.out⟩
set_option maxRecDepth 20000 in
set_option maxHeartbeats 8000000 in
theorem i_runnerX (r c i o : Value) (H : Ht) (la : Option Addr) (ln lc : Nat) (gm n cap : Nat) (zs : List Int) (b p : Nat) (w : World) (h : Hm w b r c i o H) (hk : Hok H) (hM : Nums w b (.slice (some ⟨gm, 0, none⟩) n cap) zs) (hz : zs.length = p * 8) (hp : p ≤ 24) (hp0 : 1 ≤ p) :
    Calls Tryz.prog 35 #[.agg #[r, .int .i64 H.pc, c, .bool H.halted, .bool H.waiting, .bool H.rung, .int .i64 H.done, i, o], .slice la ln lc, .slice (some ⟨gm, 0, none⟩) n cap] w fun e w' => ∃ i' o' g, e = .returned (.agg (mcr H i' o' (.slice la ln lc) (.slice (some ⟨g, 0, none⟩) p p) (-1) (-1))) ∧ Nums w' w.heap.size i' H.inn ∧ Nums w' w.heap.size o' H.out ∧ Apt i' o' ∧ Pags w' w.heap.size (.slice (some ⟨g, 0, none⟩) p p) p zs ∧ Below w.heap.size w w' ∧ ∃ bo, w.heap.size ≤ bo ∧ bo ≤ w'.heap.size ∧ Nums w' bo o' H.out ∧ (∀ k, i'.ownBlock = some k → k < bo ∧ k ≠ g) := by
  have HM : Hid (Hm w b r c i o H) := h
  have K0 : Hid (Hok H) := hk
  have HZ : Hid (Nums w b (.slice (some ⟨gm, 0, none⟩) n cap) zs) := hM
  have HP : Hid (zs.length = p * 8 ∧ p ≤ 24 ∧ 1 ≤ p) := ⟨hz, hp, hp0⟩
  obtain ⟨a0, k0, rfl, _⟩ := h.r.shape
  obtain ⟨a1, k1, rfl, _⟩ := h.c.shape
  obtain ⟨a2, k2, rfl, _⟩ := h.i.shape
  obtain ⟨a3, k3, rfl, _⟩ := h.o.shape
  clear h hk hM hz hp hp0
  generalize hW : (w.alloc (.cells #[.slice a0 H.regs.length k0, .int .i64 H.pc, .slice a1 H.csr.length k1, .bool H.halted, .bool H.waiting, .bool H.rung, .int .i64 H.done, .slice a2 H.inn.length k2, .slice a3 H.out.length k3] 26)).alloc (.cells #[.int .i64 0, .int .i64 0, .int .i64 0, .int .i64 0, .int .i64 0, .int .i64 0, .int .i64 0, .int .i64 0, .int .i64 0, .int .i64 0, .int .i64 0, .int .i64 0, .int .i64 0, .int .i64 0, .int .i64 0, .int .i64 0, .int .i64 0, .int .i64 0, .int .i64 0, .int .i64 0, .int .i64 0, .int .i64 0, .int .i64 0, .int .i64 0, .int .i64 0, .int .i64 0, .int .i64 0, .int .i64 0, .bool false, .bool false, .bool false, .int .i64 0, .slice none 0 0, .slice none 0 0, .slice none 0 0, .slice none 0 0, .int .i64 0, .int .i64 0] 78) = W
  have B0 : Hid (Below w.heap.size w W) := by show Below _ _ _; rw [← hW]; exact al (al (Below.refl _ _) _) _
  obtain ⟨s, hS⟩ : ∃ s, w.heap.size = s := ⟨_, rfl⟩
  have HS : Hid (w.heap.size = s) := hS
  have VA : Hid (Vb W s #[.slice a0 H.regs.length k0, .int .i64 H.pc, .slice a1 H.csr.length k1, .bool H.halted, .bool H.waiting, .bool H.rung, .int .i64 H.done, .slice a2 H.inn.length k2, .slice a3 H.out.length k3] 26) := by
    show Vb _ _ _ _; rw [← hW, ← hS]; exact (Vb.new _ _ _).push _
  have VR : Hid (Vb W (s + 1) mrz 78) := by
    have z1 : s + 1 = (w.alloc (.cells #[.slice a0 H.regs.length k0, .int .i64 H.pc, .slice a1 H.csr.length k1, .bool H.halted, .bool H.waiting, .bool H.rung, .int .i64 H.done, .slice a2 H.inn.length k2, .slice a3 H.out.length k3] 26)).heap.size := by rw [← hS]; simp
    show Vb _ _ _ _; rw [← hW, z1]; exact Vb.new _ _ _
  have LW : Hid (s + 2 ≤ W.heap.size) := by show _ ≤ _; rw [← hW, ← hS]; simp
  have LT : Hid (s + 1 < W.heap.size) := VR.out.lt
  have S0 : Hid (Sr W (s + 1) W) := ⟨Mq.refl _ _, mrz_there VR.out⟩
  have VS : Hid (∀ w', Sr W (s + 1) w' → Vb w' s #[.slice a0 H.regs.length k0, .int .i64 H.pc, .slice a1 H.csr.length k1, .bool H.halted, .bool H.waiting, .bool H.rung, .int .i64 H.done, .slice a2 H.inn.length k2, .slice a3 H.out.length k3] 26) := fun w' hs => hs.1.vb VA.out (by omega)
  go_enter Tryz.func35, Tryz.ntmps35
  go_wp2_with fail
  clear hW hS
  have SD : Hid (Sr W (s + 1) W.drew) := S0.out.step LT.out (Below.refl _ _).drew
  have BD : Hid (Below w.heap.size w W.drew) := B0.out.drew
  refine wp_region_held (S := fun w' => Sr W (s + 1) w') (by kernel_rfl) ?_
  change wpAnyH _ _ _ _ _ _ _ _ (World.drew _)
  generalize W.drew = x0 at *
  refine wpTk (i := 0) (v := .agg #[.slice a0 H.regs.length k0, .int .i64 H.pc, .slice a1 H.csr.length k1, .bool H.halted, .bool H.waiting, .bool H.rung, .int .i64 H.done, .slice a2 H.inn.length k2, .slice a3 H.out.length k3]) rfl (Or.inl ⟨by rfl, fun w' hs => by have hs := VS.out w' hs; have y0 := hs.cell 0 rfl; have y1 := hs.cell 1 rfl; have y2 := hs.cell 2 rfl; have y3 := hs.cell 3 rfl; have y4 := hs.cell 4 rfl; have y5 := hs.cell 5 rfl; have y6 := hs.cell 6 rfl; have y7 := hs.cell 7 rfl; have y8 := hs.cell 8 rfl; go_simp⟩) SD.out ?_
  change wpAnyH _ _ _ _ _ _ _ (Act.put _ (some 7) _) _
  simp only [Act.put, zT, zZ, zS]
  refine wpTk (i := 1) (v := .slice la ln lc) rfl (Or.inl ⟨by rfl, fun w' hs => by go_simp⟩) SD.out ?_
  change wpAnyH _ _ _ _ _ _ _ (Act.put _ (some 8) _) _
  simp only [Act.put, zT, zZ, zS]
  refine wpTk (i := 2) (v := .slice (some ⟨gm, 0, none⟩) n cap) rfl (Or.inl ⟨by rfl, fun w' hs => by go_simp⟩) SD.out ?_
  change wpAnyH _ _ _ _ _ _ _ (Act.put _ (some 9) _) _
  simp only [Act.put, zT, zZ, zS]
  refine zR 3 rfl fun K hK => ?_
  rw [if_pos (by rfl)]
  go_simp
  refine (impl_cut gm n cap zs b p x0 (HZ.out.keep BD.out) HP.out.1 HP.out.2.1 HP.out.2.2).mono ?_
  rintro e w1 ⟨g, rfl, pg, b1⟩
  have PG : Hid (Pags w1 x0.heap.size (.slice (some ⟨g, 0, none⟩) p p) p zs) := pg
  have B1 : Hid (Below w.heap.size w w1) := on BD.out b1
  have S1 : Hid (Sr W (s + 1) w1) := SD.out.step LT.out b1
  have LG : Hid (W.heap.size ≤ g ∧ g < w1.heap.size) := ⟨Nat.le_trans SD.out.1.size (World.ownsRow.lt pg g rfl).1, (World.ownsRow.lt pg g rfl).2⟩
  clear pg b1
  refine hK.out _ _ S1.out (fun _ => ?_)
  clear hK K
  refine zR 4 rfl fun K hK => ?_
  rw [if_pos (by rfl)]
  go_simp
  refine (i_runnerOver _ _ _ _ H la ln lc (some ⟨g, 0, none⟩) p p b w1 (HM.out.keep B1.out) K0.out).mono ?_
  rintro e w2 ⟨i2, o2, rfl, mi, mo, ap, b2, bo, bo1, bo2, bo3, bo4⟩
  have BO : Hid (w1.heap.size ≤ bo ∧ bo ≤ w2.heap.size) := ⟨bo1, bo2⟩
  have BO4 : Hid (∀ k, i2.ownBlock = some k → k < bo) := bo4
  have BO3 : Hid (Nums w2 bo o2 H.out) := bo3
  have MI : Hid (Nums w2 w1.heap.size i2 H.inn) := mi
  have MO : Hid (Nums w2 w1.heap.size o2 H.out) := mo
  have AP : Hid (Apt i2 o2) := ap
  have S2 : Hid (Sr W (s + 1) w2) := S1.out.step LT.out b2
  have PG2 : Hid (Pags w2 x0.heap.size (.slice (some ⟨g, 0, none⟩) p p) p zs) := by
    have hh := PG.out.heap
    rw [← b2.block g LG.out.2] at hh
    exact Pags.of_heap hh HP.out.1 (by have := (World.ownsRow.lt PG.out g rfl).1; exact this) (by have := HP.out.2.1; unfold maxLen; omega)
  obtain ⟨xa, xk, rfl, _⟩ := mi.shape
  obtain ⟨ya, yk, rfl, _⟩ := mo.shape
  generalize hxn : H.inn.length = xn at *
  generalize hyn : H.out.length = yn at *
  clear mi mo ap b2 bo1 bo2 bo3 bo4 hxn hyn
  refine hK.out _ _ S2.out (fun _ => ?_)
  clear hK K
  generalize hX : mcr H (.slice xa xn xk) (.slice ya yn yk) (.slice la ln lc) (.slice (some ⟨g, 0, none⟩) p p) (-1) (-1) = X at *
  have hsz : X.size = 38 := by rw [← hX]; rfl
  have XO : Hid (X.all (·.oneCell') = true) := by show _ = _; rw [← hX]; exact mcr_one _ _ _ _ _ _ _ rfl rfl rfl rfl
  have HX : Hid (mcr H (.slice xa xn xk) (.slice ya yn yk) (.slice la ln lc) (.slice (some ⟨g, 0, none⟩) p p) (-1) (-1) = X) := hX
  clear hX
  refine zR 5 rfl fun K hK => ?_
  rw [if_pos (by rfl)]
  refine wp_store_mid 78 (.tmp 6) (.tmp 11) rfl (s + 1) 0 X rfl rfl (by rw [hsz]; exact S2.out.2) (by rw [hsz]; kernel_rfl) XO.out ?_
  change K (Act.put _ none undef) _
  simp only [Act.put]
  have S3 : Hid (Sr W (s + 1) (w2.setCells (s + 1) 0 X.toList)) := S2.out.set _
  have R3 : Hid ((w2.setCells (s + 1) 0 X.toList).rangeAt (s + 1) 0 X.toList) := World.rangeAt_setCells_same _ _ _ _ (by have t := S2.out.2; rw [Array.length_toList, hsz]; exact t)
  have M3 : Hid (Mq (fun k => k = s + 1) w2 (w2.setCells (s + 1) 0 X.toList)) := mq_cells (s + 1) _ w2 0
  have O3 : Hid (Ho W.heap.size w2 (w2.setCells (s + 1) 0 X.toList)) := M3.out.ho fun k e => by have := LT.out; omega
  generalize w2.setCells (s + 1) 0 X.toList = w3 at *
  refine hK.out _ _ S3.out (fun _ => ?_)
  clear hK K
  refine wpAnyH_done (by kernel_rfl) ?_ _
  have z1 : W.heap.size ≤ w1.heap.size := S1.out.1.size
  have z2 : w.heap.size ≤ W.heap.size := B0.out.size
  have X3 : Nums w3 W.heap.size (.slice xa xn xk) H.inn := (MI.out.mono z1).ho O3.out
  have Y3 : Nums w3 W.heap.size (.slice ya yn yk) H.out := (MO.out.mono z1).ho O3.out
  have PG3 : Pags w3 w.heap.size (.slice (some ⟨g, 0, none⟩) p p) p zs := by
    have hh := PG2.out.heap
    rw [← M3.out.block g (World.ownsRow.lt PG2.out g rfl).2 (by have := LG.out.1; have := LT.out; omega)] at hh
    exact Pags.of_heap hh HP.out.1 (by have := LG.out.1; omega) (by have := HP.out.2.1; unfold maxLen; omega)
  have B3 : Below w.heap.size w w3 := Mq.under B0.out S3.out.1 fun k e => by have := HS.out; omega
  have LD := run_loadVar_mid (P := Tryz.prog) w3 (s + 1) 0 78 X.toList _ R3.out Tryz.underlying78 rfl (by rw [Array.length_toList, hsz]; kernel_rfl)
  go_wp2_with fail
  exact bodyPost_ret (v := .agg X) (by simp [results, Tryz.results35, asAddr]; rw [LD]) rfl ⟨_, _, _, by rw [HX.out], X3.mono z2, Y3.mono z2, AP.out, PG3, B3, bo, by have := BO.out.1; omega, Nat.le_trans BO.out.2 O3.out.size, BO3.out.ho ⟨O3.out.size, fun k hb hk => O3.out.block k (by have := BO.out.1; omega) hk⟩, fun k e => ⟨BO4.out k e, by have := (MI.out.lt k e).1; have := LG.out.2; omega⟩⟩
theorem twoX {v : World} {q : Nat} {t : TypeId} {z0 z1 : Value} (h : Vb v q #[z0, z1] t) (u0 u1 : Value) :
    Vb ((v.setCell ⟨q, 0, none⟩ u0).setCell ⟨q, 1, none⟩ u1) q #[u0, u1] t ∧ Mq (fun k => k = q) v ((v.setCell ⟨q, 0, none⟩ u0).setCell ⟨q, 1, none⟩ u1) := by
  have h0 : Vb (v.setCell ⟨q, 0, none⟩ u0) q #[u0, z1] t := h.set 0 u0
  exact ⟨h0.set 1 u1, ((Mq.refl (fun k => k = q) v).set ⟨q, 0, none⟩ u0 rfl).set ⟨q, 1, none⟩ u1 rfl⟩
theorem Mq.prs {S : Nat → Prop} {w w' : World} {base : Nat} {e : TypeId} {v : Value} {rs : List (Int × Int)} (m : Mq S w w') (h : Prs e w base v rs) (hn : ∀ k, v.ownBlock = some k → ¬ S k) : Prs e w' base v rs := by
  obtain ⟨h1, h2 | ⟨g, cap, cur, hv, hg, hr, rest⟩⟩ := h
  · exact ⟨h1, .inl h2⟩
  · refine ⟨h1, .inr ⟨g, cap, cur, hv, hg, ?_, rest⟩⟩
    rw [m.block g ((Array.getElem?_eq_some_iff.1 hr).1) (hn g (by rw [hv]; rfl))]
    exact hr
theorem str_take (j : Nat) (h : j < 8) : strL.take (j + 1) = strL.take j ++ [((j : Int), 7)] := by
  have e : j = 0 ∨ j = 1 ∨ j = 2 ∨ j = 3 ∨ j = 4 ∨ j = 5 ∨ j = 6 ∨ j = 7 := by omega
  rcases e with rfl | rfl | rfl | rfl | rfl | rfl | rfl | rfl <;> rfl
set_option maxHeartbeats 2000000 in
theorem i_straight (w : World) : Calls Tryz.prog 121 #[] w fun e w' => ∃ u, e = .returned u ∧ Prs 36 w' w.heap.size u strL ∧ Below w.heap.size w w' := by
  go_enter Tryz.func121, Tryz.ntmps121
  go_wp2_with fail
  go_loopw [1, 2, 3] (fun u _ c wr => ∃ j : Nat, j ≤ 8 ∧ c = .int .i64 j ∧ Prs 36 wr w.heap.size u (strL.take j) ∧ Below w.heap.size w wr) (fun _ _ c _ => 8 - (intOf c).toNat)
  case atStart => exact ⟨0, Nat.zero_le _, rfl, Prs.nil _ _ _, Below.refl _ _⟩
  case round =>
    obtain ⟨j, hj, rfl, hP, hB⟩ := hrel
    have PB : Hid (Prs 36 wr w.heap.size _ (strL.take j)) := hP
    have HB : Hid (Below w.heap.size w wr) := hB
    obtain ⟨ua, uc, rfl, _, _, _⟩ := hP.shape
    have HLN : Hid ((strL.take j).length ≤ 8) := by show _ ≤ _; simp; omega
    generalize hun : (strL.take j).length = un at *
    clear hP hB
    by_cases hlt : j < 8
    · have hI : (j : Int) < 8 := by omega
      have HL : Hid (j < 8) := hlt
      have HT : Hid (strL.take (j + 1) = strL.take j ++ [((j : Int), 7)]) := str_take j hlt
      clear hlt
      go_wp2_with fail
      refine (impl_pageFor (j : Int) 7 wr).mono ?_
      rintro e w5 ⟨rfl, b5⟩
      have e1 : (forP (j : Int) 7).1 = j := rfl
      have e2 : (forP (j : Int) 7).2 = 7 := rfl
      rw [e1, e2]
      have B5 : Hid (Below w.heap.size w w5) := on HB.out b5
      have P5 : Hid (Prs 36 w5 w.heap.size (.slice ua un uc) (strL.take j)) := PB.out.keep b5
      clear b5 e1 e2
      go_wp2_with (at_builtin; refine wp_pair 27 36 Tryz.underlying27 info_page _ rfl _ _ rfl w.heap.size _ _ rfl (P5.out.keep (al (Below.refl _ _) _)) _ (j : Int) 7 rfl (cell_new rfl) (cell_new rfl) (by rw [hun]; have := HLN.out; omega) (by have := B5.out.size; simp; omega) ?_; intro v' w' hP' hG')
      have BP : Hid (Below w.heap.size w w') := (al B5.out _).grown hG' (by have := B5.out.size; simp; omega) (fun k hk => by have := (P5.out.lt k hk).1; omega)
      have PP : Hid (Prs 36 w' w.heap.size v' (strL.take (j + 1))) := by show Prs _ _ _ _ _; rw [HT.out]; exact hP'
      clear hP' hG'
      go_wp2_with fail
      go_roundw
      case rel => exact ⟨j + 1, by have := HL.out; omega, by go_num, PP.out, BP.out⟩
      case measure => have := HL.out; simp [intOf]; omega
    · have hI : ¬ (j : Int) < 8 := by omega
      obtain rfl : j = 8 := by omega
      go_wp2_with fail
      go_ret
      exact ⟨_, rfl, PB.out, HB.out⟩
theorem eight_at {zs : List Int} {p k : Nat} (hz : zs.length = p * 8) (hk : k < p) {w : World} {base g : Nat} (h : Pags w base (.slice (some ⟨g, 0, none⟩) p p) p zs) : w.rangeAt g (k * 8) [.int .i64 ((eight zs k).getD 0 0), .int .i64 ((eight zs k).getD 1 0), .int .i64 ((eight zs k).getD 2 0), .int .i64 ((eight zs k).getD 3 0), .int .i64 ((eight zs k).getD 4 0), .int .i64 ((eight zs k).getD 5 0), .int .i64 ((eight zs k).getD 6 0), .int .i64 ((eight zs k).getD 7 0)] := fun j v hv => by
  have hj : j < 8 := by have := (List.getElem?_eq_some_iff.1 hv).1; simpa using this
  rw [h.cell (k * 8 + j) (by omega)]
  have e : zs.getD (k * 8 + j) 0 = (eight zs k).getD j 0 := by
    simp only [eight, List.getD, List.getElem?_take, hj, if_true, List.getElem?_drop]
  rw [e]
  have ej : j = 0 ∨ j = 1 ∨ j = 2 ∨ j = 3 ∨ j = 4 ∨ j = 5 ∨ j = 6 ∨ j = 7 := by omega
  rcases ej with rfl | rfl | rfl | rfl | rfl | rfl | rfl | rfl <;> (cases hv; rfl)
theorem lit8 {zs : List Int} (j : Nat) (hj : j < 8) : (#[.int .i64 (zs.getD 0 0), .int .i64 (zs.getD 1 0), .int .i64 (zs.getD 2 0), .int .i64 (zs.getD 3 0), .int .i64 (zs.getD 4 0), .int .i64 (zs.getD 5 0), .int .i64 (zs.getD 6 0), .int .i64 (zs.getD 7 0)] : Array Value)[j]? = some (.int .i64 (zs.getD j 0)) := by
  have ej : j = 0 ∨ j = 1 ∨ j = 2 ∨ j = 3 ∨ j = 4 ∨ j = 5 ∨ j = 6 ∨ j = 7 := by omega
  rcases ej with rfl | rfl | rfl | rfl | rfl | rfl | rfl | rfl <;> rfl
theorem there8 {w : World} {q : Nat} {t : TypeId} (h : Vb w q #[.int .i64 0, .int .i64 0, .int .i64 0, .int .i64 0, .int .i64 0, .int .i64 0, .int .i64 0, .int .i64 0] t) : w.there q 0 8 := mrz_there h
set_option maxRecDepth 20000 in
set_option maxHeartbeats 8000000 in
theorem i_space (q : Nat) (i o : Value) (H : Ht) (pg pc : Nat) (ps : List (Int × Int)) (g p : Nat) (zs : List Int) (ca ri : Int) (b : Nat) (w : World) (hv : Vb w q (mcr H i o (.slice (some ⟨pg, 0, none⟩) 8 pc) (.slice (some ⟨g, 0, none⟩) p p) ca ri) 78) (hP : Prs 36 w b (.slice (some ⟨pg, 0, none⟩) 8 pc) ps) (hG : Pags w b (.slice (some ⟨g, 0, none⟩) p p) p zs) (sn : Sn H ps zs p) :
    Calls Tryz.prog 80 #[.pointer (some ⟨q, 0, none⟩)] w fun e w' => ∃ u, e = .returned (.agg #[.int .i64 (spC H ps), u]) ∧ Prs 36 w' w.heap.size u (spP H ps zs) ∧ Below w.heap.size w w' := by
  have SN : Hid (Sn H ps zs p) := sn
  have HV : Hid (Vb w q (mcr H i o (.slice (some ⟨pg, 0, none⟩) 8 pc) (.slice (some ⟨g, 0, none⟩) p p) ca ri) 78) := hv
  have HP : Hid (Prs 36 w b (.slice (some ⟨pg, 0, none⟩) 8 pc) ps) := hP
  have HG : Hid (Pags w b (.slice (some ⟨g, 0, none⟩) p p) p zs) := hG
  clear sn hv hP hG
  generalize hW : w.alloc (.cells #[.int .i64 0, .slice none 0 0] 127) = W
  have B0 : Hid (Below w.heap.size w W) := by show Below _ _ _; rw [← hW]; exact al (Below.refl _ _) _
  obtain ⟨s, hS⟩ : ∃ s, w.heap.size = s := ⟨_, rfl⟩
  have HS : Hid (w.heap.size = s) := hS
  have VR : Hid (Vb W s #[.int .i64 0, .slice none 0 0] 127) := by show Vb _ _ _ _; rw [← hW, ← hS]; exact Vb.new _ _ _
  have V0 : Hid (Vb W q (mcr H i o (.slice (some ⟨pg, 0, none⟩) 8 pc) (.slice (some ⟨g, 0, none⟩) p p) ca ri) 78) := HV.out.keep B0.out
  obtain ⟨T, hT⟩ : ∃ T, tabV H = T := ⟨_, rfl⟩
  have HT : Hid (tabV H = T) := hT
  have c27 : W.cell? ⟨q, 27, none⟩ = some (.int .i64 T) := by rw [← hT]; exact V0.out.cell 27 rfl
  have c34 : W.cell? ⟨q, 34, none⟩ = some (.slice (some ⟨pg, 0, none⟩) 8 pc) := V0.out.cell 34 rfl
  have hT0 : 0 ≤ T := by rw [← hT]; exact SN.out.t0
  have hT8 : T ≤ 8 := by rw [← hT]; exact SN.out.t8
  clear hT
  go_enter Tryz.func80, Tryz.ntmps80
  by_cases ht : T = 0
  · subst ht
    have E1 : Hid (spC H ps = 0 ∧ spP H ps zs = strL) := ⟨if_pos HT.out, if_pos HT.out⟩
    go_wp2_with fail
    clear hW hS
    refine (i_straight W).mono ?_
    rintro e w1 ⟨u, rfl, pu, b1⟩
    obtain ⟨ua, uc, rfl, _⟩ := pu.shape
    have PU : Hid (Prs 36 w1 W.heap.size (.slice ua strL.length uc) strL) := pu
    have B1 : Hid (Below w.heap.size w w1) := on B0.out b1
    have VR1 : Hid (Vb w1 s #[.int .i64 0, .slice none 0 0] 127) := VR.out.keep b1
    have LS : Hid (s < W.heap.size) := VR.out.lt
    have p0 := VR1.out.cell 0 rfl
    have f0 := VR1.out.free 0
    have p1 := VR1.out.cell 1 rfl
    have f1 := VR1.out.free 1
    clear pu b1
    go_wp2_with fail
    have NN : Hid (_ ∧ _) := twoX VR1.out (.int .i64 0) (.slice ua strL.length uc)
    have P2 : Hid (Prs 36 ((w1.setCell ⟨s, 0, none⟩ (.int .i64 0)).setCell ⟨s, 1, none⟩ (.slice ua strL.length uc)) W.heap.size (.slice ua strL.length uc) strL) := NN.out.2.prs PU.out fun k e f => by have := (PU.out.lt k e).1; have := LS.out; omega
    clear p0 f0 p1 f1
    generalize ((w1.setCell ⟨s, 0, none⟩ (.int .i64 0)).setCell ⟨s, 1, none⟩ (.slice ua strL.length uc)) = V at *
    have x0 := NN.out.1.cell 0 rfl
    have x1 := NN.out.1.cell 1 rfl
    exact bodyPost_ret (v := .agg #[.int .i64 0, .slice ua strL.length uc]) (by simp [results, Tryz.results80, go_sem, x0, x1]) rfl
      ⟨_, by rw [E1.out.1], by rw [E1.out.2]; exact P2.out.mono B0.out.size, Mq.under B1.out NN.out.2 fun k e => by have := HS.out; omega⟩
  obtain ⟨j, hj⟩ : ∃ j : Nat, T - 1 = (j : Int) := ⟨(T - 1).toNat, by omega⟩
  have hj7 : j < 8 := by omega
  have HJ : Hid (j < 8) := hj7
  have hji : (j : Int) < 8 := by omega
  have TZ : Hid (¬ tabV H = 0) := by show ¬ _; rw [HT.out]; exact ht
  have TP : Hid (tpg H ps = ps.getD j (0, 0)) := by
    show _ = _
    unfold tpg
    rw [HT.out, hj]
    rfl
  have d0 := cell_keep B0.out (HP.out.cell SN.out.l8.symm j hj7).1
  have d1 := cell_keep B0.out (HP.out.cell SN.out.l8.symm j hj7).2
  rw [← TP.out] at d0 d1
  obtain ⟨x, hx⟩ : ∃ x, (tpg H ps).1 = x := ⟨_, rfl⟩
  obtain ⟨y, hy⟩ : ∃ y, (tpg H ps).2 = y := ⟨_, rfl⟩
  have HX : Hid ((tpg H ps).1 = x) := hx
  have HY : Hid ((tpg H ps).2 = y) := hy
  rw [hx] at d0
  rw [hy] at d1
  have gb : pg < W.heap.size := block_of_cell d0
  have ht1 : (T == 0) = false := by simpa using ht
  have NB : Hid (noB H ps = (decide (T = 8) || (bits BinOp.and .i64 y 1 == 0))) := by show _ = _; unfold noB; rw [HT.out, HY.out]
  have SC : Hid (spC H ps = if noB H ps then 7 else 0) := if_neg TZ.out
  have SP : Hid (spP H ps zs = if noB H ps then [] else (eight zs x.toNat).map entP) := by show _ = _; rw [← HX.out]; exact if_neg TZ.out
  clear hx hy ht hj7
  go_upto_region 5 with fail
  generalize hW1 : W.alloc (.cells #[.int .i64 x, .int .i64 y] 36) = W1
  obtain ⟨n, hn⟩ : ∃ n, W.heap.size = n := ⟨_, rfl⟩
  rw [hn]
  have VN : Hid (Vb W1 n #[.int .i64 x, .int .i64 y] 36) := by show Vb _ _ _ _; rw [← hW1, ← hn]; exact Vb.new _ _ _
  have b1 : Below W.heap.size W W1 := by rw [← hW1]; exact al (Below.refl _ _) _
  have B1 : Hid (Below w.heap.size w W1) := on B0.out b1
  have VR1 : Hid (Vb W1 s #[.int .i64 0, .slice none 0 0] 127) := VR.out.keep b1
  have V1 : Hid (Vb W1 q (mcr H i o (.slice (some ⟨pg, 0, none⟩) 8 pc) (.slice (some ⟨g, 0, none⟩) p p) ca ri) 78) := V0.out.keep b1
  have G1 : Hid (Pags W1 b (.slice (some ⟨g, 0, none⟩) p p) p zs) := HG.out.keep B1.out
  clear hW hS hW1 hn b1 d0 d1 gb c27 c34 VR V0
  have n0 := VN.out.cell 0 rfl
  have n1 := VN.out.cell 1 rfl
  cases hnb : noB H ps
  case true =>
    have E1 : Hid (spC H ps = 7 ∧ spP H ps zs = []) := ⟨by rw [SC.out, hnb]; rfl, by rw [SP.out, hnb]; rfl⟩
    have p0 := VR1.out.cell 0 rfl
    have f0 := VR1.out.free 0
    have p1 := VR1.out.cell 1 rfl
    have f1 := VR1.out.free 1
    have NB2 := NB.out
    rw [hnb] at NB2
    have FIN : ∀ V, Vb V s #[.int .i64 7, .slice none 0 0] 127 → Below w.heap.size w V → (∃ u, Ending.returned (Value.agg #[.int .i64 7, .slice none 0 0]) = .returned (.agg #[.int .i64 (spC H ps), u]) ∧ Prs 36 V w.heap.size u (spP H ps zs) ∧ Below w.heap.size w V) := fun V _ hB => ⟨_, by rw [E1.out.1], by rw [E1.out.2]; exact Prs.nil _ _ _, hB⟩
    have FF : Hid (∀ V, Vb V s #[.int .i64 7, .slice none 0 0] 127 → Below w.heap.size w V → (∃ u, Ending.returned (Value.agg #[.int .i64 7, .slice none 0 0]) = .returned (.agg #[.int .i64 (spC H ps), u]) ∧ Prs 36 V w.heap.size u (spP H ps zs) ∧ Below w.heap.size w V)) := FIN
    clear FIN
    by_cases h7 : j = 7
    · subst h7
      clear hnb NB2
      go_wp2_with fail
      have NN : Hid (_ ∧ _) := twoX VR1.out (.int .i64 7) (.slice none 0 0)
      clear p0 f0 p1 f1 n0 n1
      generalize ((W1.setCell ⟨s, 0, none⟩ (.int .i64 7)).setCell ⟨s, 1, none⟩ (.slice none 0 0)) = V at *
      have x0 := NN.out.1.cell 0 rfl
      have x1 := NN.out.1.cell 1 rfl
      exact bodyPost_ret (v := .agg #[.int .i64 7, .slice none 0 0]) (by simp [results, Tryz.results80, go_sem, x0, x1]) rfl
        (FF.out _ NN.out.1 (Mq.under B1.out NN.out.2 fun k e => by have := HS.out; omega))
    · have h7b : ((j : Int) == 7) = false := by simp; omega
      have hb0 : (bits BinOp.and .i64 y 1 == 0) = true := by
        have : decide (T = 8) = false := by simp; omega
        rw [this] at NB2
        exact NB2.symm
      clear hnb NB2
      go_wp2_with fail
      have NN : Hid (_ ∧ _) := twoX VR1.out (.int .i64 7) (.slice none 0 0)
      clear p0 f0 p1 f1 n0 n1
      generalize ((W1.setCell ⟨s, 0, none⟩ (.int .i64 7)).setCell ⟨s, 1, none⟩ (.slice none 0 0)) = V at *
      have x0 := NN.out.1.cell 0 rfl
      have x1 := NN.out.1.cell 1 rfl
      exact bodyPost_ret (v := .agg #[.int .i64 7, .slice none 0 0]) (by simp [results, Tryz.results80, go_sem, x0, x1]) rfl
        (FF.out _ NN.out.1 (Mq.under B1.out NN.out.2 fun k e => by have := HS.out; omega))
  obtain ⟨k, hkp, hxk⟩ := tpg_to SN.out TZ.out hnb
  obtain rfl : x = (k : Int) := HX.out.symm.trans hxk
  have E1 : Hid (spC H ps = 0 ∧ spP H ps zs = (eight zs k).map entP) := ⟨by rw [SC.out, hnb]; rfl, by rw [SP.out, hnb]; rfl⟩
  have NB2 := NB.out
  rw [hnb] at NB2
  have NB3 : decide (T = 8) = false ∧ (bits BinOp.and .i64 y 1 == 0) = false := by
    have := NB2.symm
    simpa using this
  have h7b : ((j : Int) == 7) = false := by have := NB3.1; simp at this; simp; omega
  have hb0 : (bits BinOp.and .i64 y 1 == 0) = false := NB3.2
  have KP : Hid (((k : Int) < (p : Int)) ∧ k < p) := ⟨by omega, hkp⟩
  have L8 : Hid ((eight zs k).length = 8) := eight_length zs p k SN.out.zl hkp
  have AW : Hid ((eight zs k).all isW = true) := all_eight SN.out.zw k
  clear hnb NB2 NB3 hxk hkp
  go_upto_region 7 with fail
  clear n0 n1
  have D7 : Hid (Below W1.heap.size W1 W1.drew) := (Below.refl _ _).drew
  have cq : Hid (∀ w', Below W1.heap.size W1 w' → w'.cell? ⟨q, 35, none⟩ = some (.slice (some ⟨g, 0, none⟩) p p)) := fun w' hs => (V1.out.keep hs).cell 35 rfl
  have cn : Hid (∀ w', Below W1.heap.size W1 w' → w'.cell? ⟨n, 0, none⟩ = some (.int .i64 (k : Int))) := fun w' hs => (VN.out.keep hs).cell 0 rfl
  have RG : Hid (∀ w', Below W1.heap.size W1 w' → w'.rangeAt g (k * 8) [.int .i64 ((eight zs k).getD 0 0), .int .i64 ((eight zs k).getD 1 0), .int .i64 ((eight zs k).getD 2 0), .int .i64 ((eight zs k).getD 3 0), .int .i64 ((eight zs k).getD 4 0), .int .i64 ((eight zs k).getD 5 0), .int .i64 ((eight zs k).getD 6 0), .int .i64 ((eight zs k).getD 7 0)]) := fun w' hs => eight_at SN.out.zl KP.out.2 (G1.out.keep hs)
  refine wp_region_held (S := fun w' => Below W1.heap.size W1 w') (by kernel_rfl) ?_
  change wpAnyH _ _ _ _ _ _ _ _ (World.drew _)
  generalize W1.drew = d7 at *
  refine wpTk (i := 0) (v := .pointer (some ⟨q, 0, none⟩)) rfl (Or.inl ⟨by rfl, fun w' hs => by go_simp⟩) D7.out ?_
  change wpAnyH _ _ _ _ _ _ _ (Act.put _ (some 40) _) _
  simp only [Act.put, zT, zZ, zS]
  refine wpTk (i := 1) (v := .pointer (some ⟨q, 0, none⟩)) rfl (Or.inl ⟨by rfl, fun w' hs => by go_simp⟩) D7.out ?_
  change wpAnyH _ _ _ _ _ _ _ (Act.put _ (some 41) _) _
  simp only [Act.put, zT, zZ, zS]
  refine wpTk (i := 2) (v := .pointer (some ⟨q, 35, none⟩)) rfl (Or.inl ⟨by rfl, fun w' hs => by go_simp⟩) D7.out ?_
  change wpAnyH _ _ _ _ _ _ _ (Act.put _ (some 42) _) _
  simp only [Act.put, zT, zZ, zS]
  refine wpTk (i := 3) (v := .slice (some ⟨g, 0, none⟩) p p) rfl (Or.inl ⟨by rfl, fun w' hs => by have hc := cq.out w' hs; go_simp⟩) D7.out ?_
  change wpAnyH _ _ _ _ _ _ _ (Act.put _ (some 43) _) _
  simp only [Act.put, zT, zZ, zS]
  refine wpTk (i := 4) (v := .pointer (some ⟨n, 0, none⟩)) rfl (Or.inl ⟨by rfl, fun w' hs => by go_simp⟩) D7.out ?_
  change wpAnyH _ _ _ _ _ _ _ (Act.put _ (some 44) _) _
  simp only [Act.put, zT, zZ, zS]
  refine wpTk (i := 5) (v := .int .i64 (k : Int)) rfl (Or.inl ⟨by rfl, fun w' hs => by have hc := cn.out w' hs; go_simp⟩) D7.out ?_
  change wpAnyH _ _ _ _ _ _ _ (Act.put _ (some 45) _) _
  simp only [Act.put, zT, zZ, zS]
  refine wpTk (i := 6) (v := .pointer (some ⟨g, k * 8, none⟩)) rfl (Or.inl ⟨by rfl, fun w' hs => by have h1 := KP.out.1; have h2 := KP.out.2; go_simp⟩) D7.out ?_
  change wpAnyH _ _ _ _ _ _ _ (Act.put _ (some 46) _) _
  simp only [Act.put, zT, zZ, zS]
  refine wpTk (i := 7) (v := .agg #[.int .i64 ((eight zs k).getD 0 0), .int .i64 ((eight zs k).getD 1 0), .int .i64 ((eight zs k).getD 2 0), .int .i64 ((eight zs k).getD 3 0), .int .i64 ((eight zs k).getD 4 0), .int .i64 ((eight zs k).getD 5 0), .int .i64 ((eight zs k).getD 6 0), .int .i64 ((eight zs k).getD 7 0)]) rfl (yieldsIf_load_mid (by rfl) 133 (.tmp 46) rfl g (k * 8) rfl [.int .i64 ((eight zs k).getD 0 0), .int .i64 ((eight zs k).getD 1 0), .int .i64 ((eight zs k).getD 2 0), .int .i64 ((eight zs k).getD 3 0), .int .i64 ((eight zs k).getD 4 0), .int .i64 ((eight zs k).getD 5 0), .int .i64 ((eight zs k).getD 6 0), .int .i64 ((eight zs k).getD 7 0)] _ RG.out Tryz.underlying133 rfl (by kernel_rfl)) D7.out ?_
  change wpAnyH _ _ _ _ _ _ _ (Act.put _ (some 47) _) _
  simp only [Act.put, zT, zZ, zS]
  refine zR 8 rfl fun K hK => ?_
  rw [if_pos (by rfl)]
  go_simp
  obtain ⟨m, hm⟩ : ∃ m, d7.heap.size = m := ⟨_, rfl⟩
  have VM0 : Hid (Vb (d7.alloc (.cells #[.int .i64 0, .int .i64 0, .int .i64 0, .int .i64 0, .int .i64 0, .int .i64 0, .int .i64 0, .int .i64 0] 133)) m #[.int .i64 0, .int .i64 0, .int .i64 0, .int .i64 0, .int .i64 0, .int .i64 0, .int .i64 0, .int .i64 0] 133) := by show Vb _ _ _ _; rw [← hm]; exact Vb.new _ _ _
  have D8 : Hid (Below W1.heap.size W1 (d7.alloc (.cells #[.int .i64 0, .int .i64 0, .int .i64 0, .int .i64 0, .int .i64 0, .int .i64 0, .int .i64 0, .int .i64 0] 133))) := al D7.out _
  have MU : Hid (W1.heap.size ≤ m) := by show _ ≤ _; rw [← hm]; exact D7.out.size
  rw [hm]
  generalize d7.alloc (.cells #[.int .i64 0, .int .i64 0, .int .i64 0, .int .i64 0, .int .i64 0, .int .i64 0, .int .i64 0, .int .i64 0] 133) = d8 at *
  clear hm
  refine hK.out _ _ D8.out (fun _ => ?_)
  clear hK K
  refine zR 9 rfl fun K hK => ?_
  rw [if_pos (by rfl)]
  refine wp_store_mid 133 (.tmp 5) (.tmp 47) rfl m 0 #[.int .i64 ((eight zs k).getD 0 0), .int .i64 ((eight zs k).getD 1 0), .int .i64 ((eight zs k).getD 2 0), .int .i64 ((eight zs k).getD 3 0), .int .i64 ((eight zs k).getD 4 0), .int .i64 ((eight zs k).getD 5 0), .int .i64 ((eight zs k).getD 6 0), .int .i64 ((eight zs k).getD 7 0)] rfl rfl (there8 VM0.out) (by kernel_rfl) (by simp [Value.oneCell']) ?_
  change K (Act.put _ none undef) _
  simp only [Act.put]
  have M9 := mq_cells m [.int .i64 ((eight zs k).getD 0 0), .int .i64 ((eight zs k).getD 1 0), .int .i64 ((eight zs k).getD 2 0), .int .i64 ((eight zs k).getD 3 0), .int .i64 ((eight zs k).getD 4 0), .int .i64 ((eight zs k).getD 5 0), .int .i64 ((eight zs k).getD 6 0), .int .i64 ((eight zs k).getD 7 0)] d8 0
  have D9 : Hid (Below W1.heap.size W1 (d8.setCells m 0 [.int .i64 ((eight zs k).getD 0 0), .int .i64 ((eight zs k).getD 1 0), .int .i64 ((eight zs k).getD 2 0), .int .i64 ((eight zs k).getD 3 0), .int .i64 ((eight zs k).getD 4 0), .int .i64 ((eight zs k).getD 5 0), .int .i64 ((eight zs k).getD 6 0), .int .i64 ((eight zs k).getD 7 0)])) := Mq.under D8.out M9 fun k e => by have := MU.out; omega
  have R9 : Hid ((d8.setCells m 0 [.int .i64 ((eight zs k).getD 0 0), .int .i64 ((eight zs k).getD 1 0), .int .i64 ((eight zs k).getD 2 0), .int .i64 ((eight zs k).getD 3 0), .int .i64 ((eight zs k).getD 4 0), .int .i64 ((eight zs k).getD 5 0), .int .i64 ((eight zs k).getD 6 0), .int .i64 ((eight zs k).getD 7 0)]).rangeAt m 0 [.int .i64 ((eight zs k).getD 0 0), .int .i64 ((eight zs k).getD 1 0), .int .i64 ((eight zs k).getD 2 0), .int .i64 ((eight zs k).getD 3 0), .int .i64 ((eight zs k).getD 4 0), .int .i64 ((eight zs k).getD 5 0), .int .i64 ((eight zs k).getD 6 0), .int .i64 ((eight zs k).getD 7 0)]) := World.rangeAt_setCells_same _ _ _ _ (there8 VM0.out)
  generalize d8.setCells m 0 [.int .i64 ((eight zs k).getD 0 0), .int .i64 ((eight zs k).getD 1 0), .int .i64 ((eight zs k).getD 2 0), .int .i64 ((eight zs k).getD 3 0), .int .i64 ((eight zs k).getD 4 0), .int .i64 ((eight zs k).getD 5 0), .int .i64 ((eight zs k).getD 6 0), .int .i64 ((eight zs k).getD 7 0)] = d9 at *
  refine hK.out _ _ D9.out (fun _ => ?_)
  clear hK K M9
  refine wpAnyH_done (by kernel_rfl) ?_ _
  have mb : m < d9.heap.size := block_of_cell (R9.out 0 _ rfl)
  go_wp2_with fail
  refine (impl_fromR m 0 8 (eight zs k) d9 L8.out (fun j hj => by have t := R9.out j _ (by simpa using lit8 (zs := eight zs k) j hj); simpa using t)).mono ?_
  rintro e w1 ⟨u, rfl, pu, b2⟩
  have e1 : fromC (eight zs k) = 0 := by unfold fromC; rw [if_pos L8.out, AW.out]; rfl
  have e2 : fromP (eight zs k) = (eight zs k).map entP := by unfold fromP; rw [if_pos L8.out, AW.out]; rfl
  rw [e1]
  rw [e2] at pu
  clear e1 e2
  obtain ⟨ua, uc, rfl, _⟩ := pu.shape
  obtain ⟨ul, hul⟩ : ∃ ul, ((eight zs k).map entP).length = ul := ⟨_, rfl⟩
  rw [hul] at pu ⊢
  have PU : Hid (Prs 36 w1 d9.heap.size (.slice ua ul uc) ((eight zs k).map entP)) := pu
  have BX : Hid (Below W1.heap.size W1 w1) := on D9.out b2
  have B2 : Hid (Below w.heap.size w w1) := on B1.out BX.out
  have VR2 : Hid (Vb w1 s #[.int .i64 0, .slice none 0 0] 127) := VR1.out.keep BX.out
  have LS : Hid (s < d9.heap.size) := Nat.lt_of_lt_of_le VR1.out.lt D9.out.size
  have LW : Hid (w.heap.size ≤ d9.heap.size) := Nat.le_trans B1.out.size D9.out.size
  clear pu b2 hul mb
  have p0 := VR2.out.cell 0 rfl
  have f0 := VR2.out.free 0
  have p1 := VR2.out.cell 1 rfl
  have f1 := VR2.out.free 1
  go_wp2_with fail
  have NN : Hid (_ ∧ _) := twoX VR2.out (.int .i64 0) (.slice ua ul uc)
  have P2 : Hid (Prs 36 ((w1.setCell ⟨s, 0, none⟩ (.int .i64 0)).setCell ⟨s, 1, none⟩ (.slice ua ul uc)) d9.heap.size (.slice ua ul uc) ((eight zs k).map entP)) := NN.out.2.prs PU.out fun k e f => by have := (PU.out.lt k e).1; have := LS.out; omega
  clear p0 f0 p1 f1
  generalize ((w1.setCell ⟨s, 0, none⟩ (.int .i64 0)).setCell ⟨s, 1, none⟩ (.slice ua ul uc)) = V at *
  have x0 := NN.out.1.cell 0 rfl
  have x1 := NN.out.1.cell 1 rfl
  exact bodyPost_ret (v := .agg #[.int .i64 0, .slice ua ul uc]) (by simp [results, Tryz.results80, go_sem, x0, x1]) rfl
    ⟨_, by rw [E1.out.1], by rw [E1.out.2]; exact P2.out.mono LW.out, Mq.under B2.out NN.out.2 fun k e => by have := HS.out; omega⟩
set_option maxHeartbeats 4000000 in
theorem i_through2 (x k : Int) (S q : Nat) (v : Value) (c0 y0 c1 y1 C Y : Int) (w : World) (hS : S < w.heap.size)
    (hf0 : w.cell? ⟨S, 0, none⟩ = some (.func (.func 82) #[v] #[])) (hf1 : w.cell? ⟨S, 1, none⟩ = some (.func (.func 83) #[.pointer (some ⟨q, 0, none⟩)] #[]))
    (h0 : ∀ u, Below w.heap.size w u → Calls Tryz.prog 82 #[v, .int .i64 x, .int .i64 k] u fun e w' => e = .returned (.agg #[.int .i64 c0, .int .i64 y0]) ∧ Below u.heap.size u w')
    (h1 : c0 = 0 → ∀ u, Below w.heap.size w u → Calls Tryz.prog 83 #[.pointer (some ⟨q, 0, none⟩), .int .i64 y0, .int .i64 k] u fun e w' => e = .returned (.agg #[.int .i64 c1, .int .i64 y1]) ∧ Below u.heap.size u w') (hr : (c0 = 0 → C = c1 ∧ Y = y1) ∧ (¬ c0 = 0 → C = c0 ∧ Y = y0)) :
    Calls Tryz.prog 81 #[.int .i64 x, .int .i64 k, .slice (some ⟨S, 0, none⟩) 2 2] w fun e w' => e = .returned (.agg #[.int .i64 C, .int .i64 Y]) ∧ Below w.heap.size w w' := by
  have F0 : Hid (w.cell? ⟨S, 0, none⟩ = some (.func (.func 82) #[v] #[])) := hf0
  have F1 : Hid (w.cell? ⟨S, 1, none⟩ = some (.func (.func 83) #[.pointer (some ⟨q, 0, none⟩)] #[])) := hf1
  have H1 : Hid (c0 = 0 → ∀ u, Below w.heap.size w u → Calls Tryz.prog 83 #[.pointer (some ⟨q, 0, none⟩), .int .i64 y0, .int .i64 k] u fun e w' => e = .returned (.agg #[.int .i64 c1, .int .i64 y1]) ∧ Below u.heap.size u w') := h1
  have HR : Hid ((c0 = 0 → C = c1 ∧ Y = y1) ∧ (¬ c0 = 0 → C = c0 ∧ Y = y0)) := hr
  clear hf0 hf1 h1 hr
  go_enter Tryz.func81, Tryz.ntmps81
  go_wp2_with fail
  go_loopw [9, 14] (fun _ c wr => ∃ (j : Nat) (y : Int), j ≤ 2 ∧ c = .int .i64 j ∧ ((j = 0 ∧ y = x) ∨ (j = 1 ∧ y = y0 ∧ c0 = 0) ∨ (j = 2 ∧ y = y1 ∧ c0 = 0 ∧ c1 = 0)) ∧ Below w.heap.size w wr ∧ wr.cell? ⟨w.heap.size, 0, none⟩ = some (.int .i64 0) ∧ wr.cell? ⟨w.heap.size, 1, none⟩ = some (.int .i64 0) ∧ wr.frozen? ⟨w.heap.size, 0, none⟩ = false ∧ wr.frozen? ⟨w.heap.size, 1, none⟩ = false
    ∧ wr.cell? ⟨w.heap.size + 1, 0, none⟩ = some (.int .i64 0) ∧ wr.cell? ⟨w.heap.size + 1, 1, none⟩ = some (.int .i64 y) ∧ wr.frozen? ⟨w.heap.size + 1, 0, none⟩ = false ∧ wr.frozen? ⟨w.heap.size + 1, 1, none⟩ = false) (fun _ c _ => 2 - (intOf c).toNat)
  case atStart => exact ⟨0, x, Nat.zero_le _, rfl, .inl ⟨rfl, rfl⟩, al (al (Below.refl _ _) _) _, by simp, by simp, by simp, by simp, by simp, by simp, by simp, by simp⟩
  case round =>
    obtain ⟨j, y, hj, rfl, hT, hB, r0, r1, f0, f1, p0, p1, g0, g1⟩ := hrel
    have HB : Hid (Below w.heap.size w wr) := hB
    have s1 : w.heap.size + 1 < wr.heap.size := block_of_cell p0
    have s0 : w.heap.size < wr.heap.size := by omega
    have Sw : S < wr.heap.size := by omega
    rcases hT with ⟨rfl, rfl⟩ | ⟨rfl, rfl, hz⟩ | ⟨rfl, rfl, hz0, hz1⟩
    · have c1' := cell_keep hB F0.out
      clear hB hj
      by_cases hcc : c0 = 0
      · have HC0 : Hid (c0 = 0) := hcc
        have hcb : (c0 != 0) = false := by simpa using hcc
        clear hcc
        go_wp2_with (go_at_call 82; refine (h0 _ HB.out).mono ?_; rintro e w5 ⟨rfl, b5⟩; have r0 := cell_keep b5 r0; have r1 := cell_keep b5 r1; have p0 := cell_keep b5 p0; have p1 := cell_keep b5 p1; have B5 : Hid (Below w.heap.size w w5) := on HB.out b5; have f0 : w5.frozen? ⟨w.heap.size, 0, none⟩ = false := (by rw [b5.frozen (p := ⟨w.heap.size, 0, none⟩) s0]; exact f0); have f1 : w5.frozen? ⟨w.heap.size, 1, none⟩ = false := (by rw [b5.frozen (p := ⟨w.heap.size, 1, none⟩) s0]; exact f1); have g0 : w5.frozen? ⟨w.heap.size + 1, 0, none⟩ = false := (by rw [b5.frozen (p := ⟨w.heap.size + 1, 0, none⟩) s1]; exact g0); have g1 : w5.frozen? ⟨w.heap.size + 1, 1, none⟩ = false := (by rw [b5.frozen (p := ⟨w.heap.size + 1, 1, none⟩) s1]; exact g1))
        go_roundw
        case rel => exact ⟨1, y0, by omega, by go_num, .inr (.inl ⟨rfl, rfl, HC0.out⟩), (B5.out.setCell (by simp) _).setCell (by simp) _, by simp [go_sem, r0], by simp [go_sem, r1], by rw [World.frozen?_setCell, World.frozen?_setCell]; exact f0, by rw [World.frozen?_setCell, World.frozen?_setCell]; exact f1, by rw [← HC0.out]; simp [go_sem, p0], by simp [go_sem, p1], by rw [World.frozen?_setCell, World.frozen?_setCell]; exact g0, by rw [World.frozen?_setCell, World.frozen?_setCell]; exact g1⟩
        case measure => simp [intOf]
      · have hc2 : (c0 != 0) = true := by simpa using hcc
        have HCC : Hid (¬ c0 = 0) := hcc
        clear hcc
        go_wp2_with (go_at_call 82; refine (h0 _ HB.out).mono ?_; rintro e w5 ⟨rfl, b5⟩; have r0 := cell_keep b5 r0; have r1 := cell_keep b5 r1; have p0 := cell_keep b5 p0; have p1 := cell_keep b5 p1; have B5 : Hid (Below w.heap.size w w5) := on HB.out b5; have f0 : w5.frozen? ⟨w.heap.size, 0, none⟩ = false := (by rw [b5.frozen (p := ⟨w.heap.size, 0, none⟩) s0]; exact f0); have f1 : w5.frozen? ⟨w.heap.size, 1, none⟩ = false := (by rw [b5.frozen (p := ⟨w.heap.size, 1, none⟩) s0]; exact f1); have g0 : w5.frozen? ⟨w.heap.size + 1, 0, none⟩ = false := (by rw [b5.frozen (p := ⟨w.heap.size + 1, 0, none⟩) s1]; exact g0); have g1 : w5.frozen? ⟨w.heap.size + 1, 1, none⟩ = false := (by rw [b5.frozen (p := ⟨w.heap.size + 1, 1, none⟩) s1]; exact g1))
        exact bodyPost_ret (v := .agg #[.int .i64 c0, .int .i64 y0]) (by simp [results, Tryz.results81, go_sem, r0, r1]) rfl ⟨by rw [(HR.out.2 HCC.out).1, (HR.out.2 HCC.out).2], (((B5.out.setCell (by simp) _).setCell (by simp) _).setCell (by simp) _).setCell (by simp) _⟩
    · have c1' := cell_keep hB F1.out
      have hW := H1.out hz
      have HZ : Hid (c0 = 0) := hz
      clear hB hj hz
      by_cases hcc : c1 = 0
      · have HC0 : Hid (c1 = 0) := hcc
        have hcb : (c1 != 0) = false := by simpa using hcc
        clear hcc
        go_wp2_with (go_at_call 83; refine (hW _ HB.out).mono ?_; rintro e w5 ⟨rfl, b5⟩; have r0 := cell_keep b5 r0; have r1 := cell_keep b5 r1; have p0 := cell_keep b5 p0; have p1 := cell_keep b5 p1; have B5 : Hid (Below w.heap.size w w5) := on HB.out b5; have f0 : w5.frozen? ⟨w.heap.size, 0, none⟩ = false := (by rw [b5.frozen (p := ⟨w.heap.size, 0, none⟩) s0]; exact f0); have f1 : w5.frozen? ⟨w.heap.size, 1, none⟩ = false := (by rw [b5.frozen (p := ⟨w.heap.size, 1, none⟩) s0]; exact f1); have g0 : w5.frozen? ⟨w.heap.size + 1, 0, none⟩ = false := (by rw [b5.frozen (p := ⟨w.heap.size + 1, 0, none⟩) s1]; exact g0); have g1 : w5.frozen? ⟨w.heap.size + 1, 1, none⟩ = false := (by rw [b5.frozen (p := ⟨w.heap.size + 1, 1, none⟩) s1]; exact g1))
        go_roundw
        case rel => exact ⟨2, y1, by omega, by go_num, .inr (.inr ⟨rfl, rfl, HZ.out, HC0.out⟩), (B5.out.setCell (by simp) _).setCell (by simp) _, by simp [go_sem, r0], by simp [go_sem, r1], by rw [World.frozen?_setCell, World.frozen?_setCell]; exact f0, by rw [World.frozen?_setCell, World.frozen?_setCell]; exact f1, by rw [← HC0.out]; simp [go_sem, p0], by simp [go_sem, p1], by rw [World.frozen?_setCell, World.frozen?_setCell]; exact g0, by rw [World.frozen?_setCell, World.frozen?_setCell]; exact g1⟩
        case measure => simp [intOf]
      · have hc2 : (c1 != 0) = true := by simpa using hcc
        have HCC : Hid (¬ c1 = 0) := hcc
        clear hcc
        go_wp2_with (go_at_call 83; refine (hW _ HB.out).mono ?_; rintro e w5 ⟨rfl, b5⟩; have r0 := cell_keep b5 r0; have r1 := cell_keep b5 r1; have p0 := cell_keep b5 p0; have p1 := cell_keep b5 p1; have B5 : Hid (Below w.heap.size w w5) := on HB.out b5; have f0 : w5.frozen? ⟨w.heap.size, 0, none⟩ = false := (by rw [b5.frozen (p := ⟨w.heap.size, 0, none⟩) s0]; exact f0); have f1 : w5.frozen? ⟨w.heap.size, 1, none⟩ = false := (by rw [b5.frozen (p := ⟨w.heap.size, 1, none⟩) s0]; exact f1); have g0 : w5.frozen? ⟨w.heap.size + 1, 0, none⟩ = false := (by rw [b5.frozen (p := ⟨w.heap.size + 1, 0, none⟩) s1]; exact g0); have g1 : w5.frozen? ⟨w.heap.size + 1, 1, none⟩ = false := (by rw [b5.frozen (p := ⟨w.heap.size + 1, 1, none⟩) s1]; exact g1))
        exact bodyPost_ret (v := .agg #[.int .i64 c1, .int .i64 y1]) (by simp [results, Tryz.results81, go_sem, r0, r1]) rfl ⟨by rw [(HR.out.1 HZ.out).1, (HR.out.1 HZ.out).2], (((B5.out.setCell (by simp) _).setCell (by simp) _).setCell (by simp) _).setCell (by simp) _⟩
    · have HZ : Hid (c0 = 0 ∧ c1 = 0) := ⟨hz0, hz1⟩
      clear hB hj hz0 hz1
      go_wp2_with fail
      exact bodyPost_ret (v := .agg #[.int .i64 0, .int .i64 y]) (by simp [results, Tryz.results81, go_sem, r0, r1]) rfl ⟨by rw [(HR.out.1 HZ.out.1).1, (HR.out.1 HZ.out.1).2, HZ.out.2], (HB.out.setCell (by simp) _).setCell (by simp) _⟩
end Go.Proofs.YtaefollmeoepkaaGreatDoor
