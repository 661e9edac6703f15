/- Texts of this seat, joined. -/
import Derived.Test.YtgjpfmcokcjegaaQ28
import Derived.Test.YtgjpfmcokcjegaaQ32
import Derived.Test.YtgjpfmcokcjegaaQ35
import Derived.Test.YtgjpfmcokcjegaaQ42
import Derived.Test.YtgjpfmcokcjegaaQ48
import Derived.Test.YtgjpfmcokcjegaaQ49
namespace Go.Proofs.Ytgjpfmcokcjegaa
open Go.RowKit
set_option linter.unusedVariables false
def Sees (w : World) (a0 : Option Addr) (m0 k0 : Nat) (a1 : Option Addr) (m1 k1 : Nat) (a2 : Option Addr) (m2 k2 : Nat) (a3 : Option Addr) (m3 k3 : Nat) (H : Ht) (la : Option Addr) (ln lk : Nat) (ma : Option Addr) (mn mk : Nat) (c : Int) : Prop :=
  (∀ w1, Below w.heap.size w w1 → Calls Try.prog 16 #[.agg #[.slice a0 m0 k0, .int .i64 H.pc, .slice a1 m1 k1, .bool H.halted, .bool H.waiting, .bool H.rung, .int .i64 H.done, .slice a2 m2 k2, .slice a3 m3 k3], .slice la ln lk, .slice ma mn mk] w1 fun e w' => e = .returned (.int .i64 c) ∧ Below w1.heap.size w1 w') ∧
  ∀ w1 q, Below w.heap.size w w1 → Vb w1 q #[.slice a0 m0 k0, .int .i64 H.pc, .slice a1 m1 k1, .bool H.halted, .bool H.waiting, .bool H.rung, .int .i64 H.done, .slice a2 m2 k2, .slice a3 m3 k3] 26 → Calls Try.prog 21 #[.pointer (some ⟨q, 0, none⟩), .slice la ln lk, .slice ma mn mk] w1 fun e w' => e = .returned (.int .i64 c) ∧ Below w1.heap.size w1 w'
set_option maxRecDepth 20000 in
set_option maxHeartbeats 4000000 in
theorem seen_bad (a0 : Option Addr) (m0 k0 : Nat) (a1 : Option Addr) (m1 k1 : Nat) (a2 : Option Addr) (m2 k2 : Nat) (a3 : Option Addr) (m3 k3 : Nat) (H : Ht) (la : Option Addr) (ln lk : Nat) (ma : Option Addr) (mn mk : Nat) (c1 c2 : Int) (w : World)
    (hH : ∀ w1, Below w.heap.size w w1 → Calls Try.prog 38 #[.agg #[.slice a0 m0 k0, .int .i64 H.pc, .slice a1 m1 k1, .bool H.halted, .bool H.waiting, .bool H.rung, .int .i64 H.done, .slice a2 m2 k2, .slice a3 m3 k3]] w1 fun e w' => e = .returned (.int .i64 c1) ∧ Below w1.heap.size w1 w')
    (hL : c1 = 0 → Flt w (.slice la ln lk) 24 c2)
    (hM : c1 = 0 → c2 = 0 → ∀ w1, Below w.heap.size w w1 → Calls Try.prog 39 #[.slice ma mn mk] w1 fun e w' => e = .returned (.int .i64 1) ∧ w' = w1) :
    Calls Try.prog 16 #[.agg #[.slice a0 m0 k0, .int .i64 H.pc, .slice a1 m1 k1, .bool H.halted, .bool H.waiting, .bool H.rung, .int .i64 H.done, .slice a2 m2 k2, .slice a3 m3 k3], .slice la ln lk, .slice ma mn mk] w fun e w' => e = .returned (.int .i64 (if c1 = 0 then (if c2 = 0 then 1 else c2) else c1)) ∧ Below w.heap.size w w' := by
  have HH : Hid (_ ∧ _ ∧ _) := ⟨hH, hL, hM⟩
  clear hH hL hM
  obtain ⟨c, hc⟩ : ∃ c, (if c1 = 0 then (if c2 = 0 then 1 else c2) else c1) = c := ⟨_, rfl⟩
  rw [hc]
  have HC : Hid ((if c1 = 0 then (if c2 = 0 then 1 else c2) else c1) = c) := hc
  clear hc
  generalize hW : w.alloc (.cells #[.slice a0 m0 k0, .int .i64 H.pc, .slice a1 m1 k1, .bool H.halted, .bool H.waiting, .bool H.rung, .int .i64 H.done, .slice a2 m2 k2, .slice a3 m3 k3] 26) = W
  have B0 : Hid (Below w.heap.size w W) := by show Below _ _ _; rw [← hW]; exact al (Below.refl _ _) _
  obtain ⟨s, hS⟩ : ∃ s, w.heap.size = s := ⟨_, rfl⟩
  have VA : Hid (Vb W s #[.slice a0 m0 k0, .int .i64 H.pc, .slice a1 m1 k1, .bool H.halted, .bool H.waiting, .bool H.rung, .int .i64 H.done, .slice a2 m2 k2, .slice a3 m3 k3] 26) := by show Vb _ _ _ _; rw [← hW, ← hS]; exact Vb.new _ _ _
  have q0 := VA.out.cell 0 rfl
  have q1 := VA.out.cell 1 rfl
  have q2 := VA.out.cell 2 rfl
  have q3 := VA.out.cell 3 rfl
  have q4 := VA.out.cell 4 rfl
  have q5 := VA.out.cell 5 rfl
  have q6 := VA.out.cell 6 rfl
  have q7 := VA.out.cell 7 rfl
  have q8 := VA.out.cell 8 rfl
  go_enter Try.func16, Try.ntmps16
  go_wp2_with fail
  clear hW hS q0 q1 q2 q3 q4 q5 q6 q7 q8
  refine (HH.out.1 W B0.out).mono ?_
  rintro e w1 ⟨rfl, b1⟩
  have B1 : Hid (Below w.heap.size w w1) := on B0.out b1
  clear b1 VA B0
  by_cases h1 : c1 = 0
  case neg =>
    rw [if_neg h1] at HC
    have h1' : (c1 != 0) = true := by simpa using h1
    clear h1
    go_wp2_with fail
    go_ret
    exact ⟨by rw [← HC.out]; rfl, B1.out⟩
  rw [if_pos h1] at HC
  have HL := HH.out.2.1 h1
  have HMM : Hid (c2 = 0 → ∀ w1, Below w.heap.size w w1 → _) := HH.out.2.2 h1
  subst h1
  clear HH
  have HL : Hid (Flt w (.slice la ln lk) 24 c2) := HL
  go_wp2_with fail
  refine (HL.out.1 w1 B1.out).mono ?_
  rintro e w2 ⟨rfl, b2⟩
  have B2 : Hid (Below w.heap.size w w2) := on B1.out b2
  clear b2 B1
  by_cases h2 : c2 = 0
  case neg =>
    rw [if_neg h2] at HC
    have h2' : (c2 != 0) = true := by simpa using h2
    clear h2
    go_wp2_with fail
    go_ret
    exact ⟨by rw [← HC.out]; rfl, B2.out⟩
  rw [if_pos h2] at HC
  have HM : Hid (∀ w1, Below w.heap.size w w1 → _) := HMM.out h2
  subst h2
  clear HMM HL
  go_wp2_with fail
  refine (HM.out w2 B2.out).mono ?_
  rintro e w3 ⟨rfl, hw3⟩
  rw [hw3]
  clear hw3 w3
  go_wp2_with fail
  go_ret
  exact ⟨by rw [← HC.out]; rfl, B2.out⟩
set_option maxRecDepth 20000 in
set_option maxHeartbeats 4000000 in
theorem asked_bad (a0 : Option Addr) (m0 k0 : Nat) (a1 : Option Addr) (m1 k1 : Nat) (a2 : Option Addr) (m2 k2 : Nat) (a3 : Option Addr) (m3 k3 : Nat) (H : Ht) (la : Option Addr) (ln lk : Nat) (ma : Option Addr) (mn mk : Nat) (c1 c2 : Int) (q : Nat) (w : World)
    (hH : Calls Try.prog 46 #[.pointer (some ⟨q, 0, none⟩)] w fun e w' => e = .returned (.int .i64 c1) ∧ Below w.heap.size w w')
    (hL : c1 = 0 → Flt w (.slice la ln lk) 24 c2)
    (hM : c1 = 0 → c2 = 0 → ∀ w1, Below w.heap.size w w1 → Calls Try.prog 48 #[.slice ma mn mk] w1 fun e w' => e = .returned (.int .i64 1) ∧ w' = w1) :
    Calls Try.prog 21 #[.pointer (some ⟨q, 0, none⟩), .slice la ln lk, .slice ma mn mk] w fun e w' => e = .returned (.int .i64 (if c1 = 0 then (if c2 = 0 then 1 else c2) else c1)) ∧ Below w.heap.size w w' := by
  have HH : Hid (_ ∧ _ ∧ _) := ⟨hH, hL, hM⟩
  clear hH hL hM
  obtain ⟨c, hc⟩ : ∃ c, (if c1 = 0 then (if c2 = 0 then 1 else c2) else c1) = c := ⟨_, rfl⟩
  rw [hc]
  have HC : Hid ((if c1 = 0 then (if c2 = 0 then 1 else c2) else c1) = c) := hc
  clear hc
  go_enter Try.func21, Try.ntmps21
  go_wp2_with fail
  refine HH.out.1.mono ?_
  rintro e w1 ⟨rfl, b1⟩
  have B1 : Hid (Below w.heap.size w w1) := b1
  clear b1
  by_cases h1 : c1 = 0
  case neg =>
    rw [if_neg h1] at HC
    have h1' : (c1 != 0) = true := by simpa using h1
    clear h1
    go_wp2_with fail
    go_ret
    exact ⟨by rw [← HC.out]; rfl, B1.out⟩
  rw [if_pos h1] at HC
  have HL := HH.out.2.1 h1
  have HMM : Hid (c2 = 0 → ∀ w1, Below w.heap.size w w1 → _) := HH.out.2.2 h1
  subst h1
  clear HH
  have HL : Hid (Flt w (.slice la ln lk) 24 c2) := HL
  go_wp2_with fail
  refine (HL.out.2 w1 B1.out).mono ?_
  rintro e w2 ⟨rfl, hw2⟩
  rw [hw2]
  clear hw2 w2
  by_cases h2 : c2 = 0
  case neg =>
    rw [if_neg h2] at HC
    have h2' : (c2 != 0) = true := by simpa using h2
    clear h2
    go_wp2_with fail
    go_ret
    exact ⟨by rw [← HC.out]; rfl, B1.out⟩
  rw [if_pos h2] at HC
  have HM : Hid (∀ w1, Below w.heap.size w w1 → _) := HMM.out h2
  subst h2
  clear HMM HL
  go_wp2_with fail
  refine (HM.out w1 B1.out).mono ?_
  rintro e w3 ⟨rfl, hw3⟩
  rw [hw3]
  clear hw3 w3
  go_wp2_with fail
  go_ret
  exact ⟨by rw [← HC.out]; rfl, B1.out⟩
theorem Flt.later {w w' : World} {v : Value} {top c : Int} (h : Flt w v top c) (b : Below w.heap.size w w') : Flt w' v top c := ⟨fun w1 k => h.1 w1 (on b k), fun w1 k => h.2 w1 (on b k)⟩
theorem drawn8_flt {w : World} {base : Nat} {v : Value} (h : Drawn8 w base v) : ∃ c, Flt w v 24 c ∧ (c = 1 ∨ ∃ rs, Prs 73 w base v rs ∧ rs.length = 8 ∧ c = pgsV rs 24) := by
  rcases h with ⟨rs, h, hl⟩ | ⟨g, yc, c2, rs, rfl, _⟩
  · exact ⟨_, Flt.good h hl 24, .inr ⟨rs, h, hl, rfl⟩⟩
  · exact ⟨1, Flt.bad _ _ 24 (by decide) (by decide), .inl rfl⟩
theorem sees_any {w : World} {base : Nat} {a0 : Option Addr} {m0 k0 : Nat} {a1 : Option Addr} {m1 k1 : Nat} {a2 : Option Addr} {m2 k2 : Nat} {a3 : Option Addr} {m3 k3 : Nat} {H : Ht} {la : Option Addr} {ln lk : Nat} {ma : Option Addr} {mn mk : Nat} (hz : Hz w base a0 m0 k0 a1 m1 k1 a2 m2 k2 a3 m3 k3 H) (hl : Drawn8 w base (.slice la ln lk)) (hm : DrawnM w base (.slice ma mn mk)) :
    (∃ ps zs, Hm w base (.slice a0 m0 k0) (.slice a1 m1 k1) (.slice a2 m2 k2) (.slice a3 m3 k3) H ∧ Prs 73 w base (.slice la ln lk) ps ∧ ps.length = 8 ∧ Nums w base (.slice ma mn mk) zs ∧ zs.length ≤ 200) ∨ ∃ c, c ≠ 0 ∧ Sees w a0 m0 k0 a1 m1 k1 a2 m2 k2 a3 m3 k3 H la ln lk ma mn mk c := by
  rcases hz with ⟨hH, -⟩ | ⟨h15, -⟩
  case inr =>
    subst h15
    refine .inr ⟨1, by decide, fun w1 b => ?_, fun w1 q b hv => ?_⟩
    · have := seen_bad a0 15 k0 a1 m1 k1 a2 m2 k2 a3 m3 k3 H la ln lk ma mn mk 1 0 w1 (fun w2 _ => i_fault15 _ _ _ _ _ _ _ _ _ _ _ _ _) (fun h => absurd h (by decide)) (fun h => absurd h (by decide))
      exact this
    · have := asked_bad a0 15 k0 a1 m1 k1 a2 m2 k2 a3 m3 k3 H la ln lk ma mn mk 1 0 q w1 (s_fault15 q _ _ _ _ _ _ _ _ _ _ _ _ _ hv) (fun h => absurd h (by decide)) (fun h => absurd h (by decide))
      exact this
  obtain ⟨c2, hF, h2⟩ := drawn8_flt hl
  have hcase : (∃ zs, Nums w base (.slice ma mn mk) zs ∧ zs.length ≤ 200) ∨ (mn ≤ 200 ∧ formB mn = false) := by
    rcases hm with h | ⟨a, n, cap, hv, h1, h2⟩
    · exact .inl h
    · cases hv; exact .inr ⟨h1, h2⟩
  have iH : ∀ w1, Below w.heap.size w w1 → Calls Try.prog 38 #[.agg #[.slice a0 m0 k0, .int .i64 H.pc, .slice a1 m1 k1, .bool H.halted, .bool H.waiting, .bool H.rung, .int .i64 H.done, .slice a2 m2 k2, .slice a3 m3 k3]] w1 fun e w' => e = .returned (.int .i64 (hfV H)) ∧ Below w1.heap.size w1 w' := fun w1 b => i_fault _ _ _ _ H _ _ (hH.keep b)
  have sH : ∀ w1 q, Below w.heap.size w w1 → Vb w1 q #[.slice a0 m0 k0, .int .i64 H.pc, .slice a1 m1 k1, .bool H.halted, .bool H.waiting, .bool H.rung, .int .i64 H.done, .slice a2 m2 k2, .slice a3 m3 k3] 26 → Calls Try.prog 46 #[.pointer (some ⟨q, 0, none⟩)] w1 fun e w' => e = .returned (.int .i64 (hfV H)) ∧ Below w1.heap.size w1 w' := fun w1 q b hv => (s_fault q _ _ _ _ H _ _ (hH.keep b) hv).mono (by rintro e w' ⟨rfl, h⟩; exact ⟨rfl, by rw [h]; exact Below.refl _ _⟩)
  by_cases hf : hfV H = 0
  case neg =>
    refine .inr ⟨hfV H, hf, fun w1 b => ?_, fun w1 q b hv => ?_⟩
    · have := seen_bad a0 m0 k0 a1 m1 k1 a2 m2 k2 a3 m3 k3 H la ln lk ma mn mk (hfV H) 0 w1 (fun w2 b2 => iH w2 (on b b2)) (fun h => absurd h hf) (fun h => absurd h hf)
      rw [if_neg hf] at this; exact this
    · have := asked_bad a0 m0 k0 a1 m1 k1 a2 m2 k2 a3 m3 k3 H la ln lk ma mn mk (hfV H) 0 q w1 (sH w1 q b hv) (fun h => absurd h hf) (fun h => absurd h hf)
      rw [if_neg hf] at this; exact this
  rw [hf] at iH sH
  by_cases hc2 : c2 = 0
  case neg =>
    refine .inr ⟨c2, hc2, fun w1 b => ?_, fun w1 q b hv => ?_⟩
    · have := seen_bad a0 m0 k0 a1 m1 k1 a2 m2 k2 a3 m3 k3 H la ln lk ma mn mk 0 c2 w1 (fun w2 b2 => iH w2 (on b b2)) (fun _ => hF.later b) (fun _ h => absurd h hc2)
      rw [if_pos rfl, if_neg hc2] at this; exact this
    · have := asked_bad a0 m0 k0 a1 m1 k1 a2 m2 k2 a3 m3 k3 H la ln lk ma mn mk 0 c2 q w1 (sH w1 q b hv) (fun _ => hF.later b) (fun _ h => absurd h hc2)
      rw [if_pos rfl, if_neg hc2] at this; exact this
  obtain ⟨ps, hP, hp8, -⟩ := h2.resolve_left (fun e => by rw [hc2] at e; exact absurd e (by decide))
  rcases hcase with ⟨zs, hN, hn⟩ | ⟨h1, hf2⟩
  · exact .inl ⟨ps, zs, hH, hP, hp8, hN, hn⟩
  · subst hc2
    refine .inr ⟨1, by decide, fun w1 b => ?_, fun w1 q b hv => ?_⟩
    · have := seen_bad a0 m0 k0 a1 m1 k1 a2 m2 k2 a3 m3 k3 H la ln lk ma mn mk 0 0 w1 (fun w2 b2 => iH w2 (on b b2)) (fun _ => hF.later b) (fun _ _ w2 _ => impl_memBad ma mn mk w2 h1 hf2)
      exact this
    · have := asked_bad a0 m0 k0 a1 m1 k1 a2 m2 k2 a3 m3 k3 H la ln lk ma mn mk 0 0 q w1 (sH w1 q b hv) (fun _ => hF.later b) (fun _ _ w2 _ => spec_memBad ma mn mk w2 h1 hf2)
      exact this
set_option maxRecDepth 20000 in
set_option maxHeartbeats 4000000 in
theorem ib_place (a0 : Option Addr) (m0 k0 : Nat) (a1 : Option Addr) (m1 k1 : Nat) (a2 : Option Addr) (m2 k2 : Nat) (a3 : Option Addr) (m3 k3 : Nat) (H : Ht) (la : Option Addr) (ln lk : Nat) (ma : Option Addr) (mn mk : Nat) (c : Int) (x : Int) (k : Int) (w : World) (hs : Sees w a0 m0 k0 a1 m1 k1 a2 m2 k2 a3 m3 k3 H la ln lk ma mn mk c) (hc : c ≠ 0) :
    Calls Try.prog 6 #[.agg #[.slice a0 m0 k0, .int .i64 H.pc, .slice a1 m1 k1, .bool H.halted, .bool H.waiting, .bool H.rung, .int .i64 H.done, .slice a2 m2 k2, .slice a3 m3 k3], .slice la ln lk, .slice ma mn mk, .int .i64 x, .int .i64 k] w fun e w' => e = .returned (.agg #[.int .i64 c, .int .i64 0]) ∧ Below w.heap.size w w' := by
  have SS : Hid (Sees w a0 m0 k0 a1 m1 k1 a2 m2 k2 a3 m3 k3 H la ln lk ma mn mk c) := hs
  have hc2 : (c != 0) = true := by simpa using hc
  clear hs hc
  generalize hW : (w.alloc (.cells #[.slice a0 m0 k0, .int .i64 H.pc, .slice a1 m1 k1, .bool H.halted, .bool H.waiting, .bool H.rung, .int .i64 H.done, .slice a2 m2 k2, .slice a3 m3 k3] 26)).alloc (.cells #[.int .i64 0, .int .i64 0] 31) = W
  have B0 : Hid (Below w.heap.size w W) := by show Below _ _ _; rw [← hW]; exact al (al (Below.refl _ _) _) _
  obtain ⟨s, hS⟩ : ∃ s, w.heap.size = s := ⟨_, rfl⟩
  have HS : Hid (w.heap.size = s) := hS
  have VA : Hid (Vb W s #[.slice a0 m0 k0, .int .i64 H.pc, .slice a1 m1 k1, .bool H.halted, .bool H.waiting, .bool H.rung, .int .i64 H.done, .slice a2 m2 k2, .slice a3 m3 k3] 26) := by
    show Vb _ _ _ _; rw [← hW, ← hS]; exact (Vb.new _ _ _).push _
  have VR : Hid (Vb W (s + 1) #[.int .i64 0, .int .i64 0] 31) := by
    have z1 : s + 1 = (w.alloc (.cells #[.slice a0 m0 k0, .int .i64 H.pc, .slice a1 m1 k1, .bool H.halted, .bool H.waiting, .bool H.rung, .int .i64 H.done, .slice a2 m2 k2, .slice a3 m3 k3] 26)).heap.size := by rw [← hS]; simp
    show Vb _ _ _ _; rw [← hW, z1]; exact Vb.new _ _ _
  have q0 := VA.out.cell 0 rfl
  have q1 := VA.out.cell 1 rfl
  have q2 := VA.out.cell 2 rfl
  have q3 := VA.out.cell 3 rfl
  have q4 := VA.out.cell 4 rfl
  have q5 := VA.out.cell 5 rfl
  have q6 := VA.out.cell 6 rfl
  have q7 := VA.out.cell 7 rfl
  have q8 := VA.out.cell 8 rfl
  go_enter Try.func6, Try.ntmps6
  go_wp2_with fail
  clear hW hS q0 q1 q2 q3 q4 q5 q6 q7 q8
  refine (SS.out.1 W B0.out).mono ?_
  rintro e w1 ⟨rfl, b1⟩
  have B1 : Hid (Below w.heap.size w w1) := on B0.out b1
  have VR1 : Hid (Vb w1 (s + 1) #[.int .i64 0, .int .i64 0] 31) := VR.out.keep b1
  clear b1 VA VR
  have p0 := VR1.out.cell 0 rfl
  have p1 := VR1.out.cell 1 rfl
  have f0 := VR1.out.free 0
  have f1 := VR1.out.free 1
  go_wp2_with fail
  have NN : Hid (_ ∧ _) := twoX VR1.out (.int .i64 c) (.int .i64 0)
  clear p0 f0 p1 f1
  generalize ((w1.setCell ⟨s + 1, 0, none⟩ (.int .i64 c)).setCell ⟨s + 1, 1, none⟩ (.int .i64 0)) = V at *
  have x0 := NN.out.1.cell 0 rfl
  have x1 := NN.out.1.cell 1 rfl
  exact bodyPost_ret (v := .agg #[.int .i64 c, .int .i64 0]) (by simp [results, Try.results6, go_sem, x0, x1]) rfl
    ⟨rfl, Mq.under B1.out NN.out.2 fun k e => by have := HS.out; omega⟩
set_option maxRecDepth 20000 in
set_option maxHeartbeats 4000000 in
theorem sb_place (a0 : Option Addr) (m0 k0 : Nat) (a1 : Option Addr) (m1 k1 : Nat) (a2 : Option Addr) (m2 k2 : Nat) (a3 : Option Addr) (m3 k3 : Nat) (H : Ht) (la : Option Addr) (ln lk : Nat) (ma : Option Addr) (mn mk : Nat) (c : Int) (x : Int) (k : Int) (w : World) (hs : Sees w a0 m0 k0 a1 m1 k1 a2 m2 k2 a3 m3 k3 H la ln lk ma mn mk c) (hc : c ≠ 0) :
    Calls Try.prog 9 #[.agg #[.slice a0 m0 k0, .int .i64 H.pc, .slice a1 m1 k1, .bool H.halted, .bool H.waiting, .bool H.rung, .int .i64 H.done, .slice a2 m2 k2, .slice a3 m3 k3], .slice la ln lk, .slice ma mn mk, .int .i64 x, .int .i64 k] w fun e w' => e = .returned (.agg #[.int .i64 c, .int .i64 0]) ∧ Below w.heap.size w w' := by
  have SS : Hid (Sees w a0 m0 k0 a1 m1 k1 a2 m2 k2 a3 m3 k3 H la ln lk ma mn mk c) := hs
  have hc2 : (c != 0) = true := by simpa using hc
  clear hs hc
  generalize hW : (w.alloc (.cells #[.slice a0 m0 k0, .int .i64 H.pc, .slice a1 m1 k1, .bool H.halted, .bool H.waiting, .bool H.rung, .int .i64 H.done, .slice a2 m2 k2, .slice a3 m3 k3] 26)).alloc (.cells #[.int .i64 0, .int .i64 0] 31) = W
  have B0 : Hid (Below w.heap.size w W) := by show Below _ _ _; rw [← hW]; exact al (al (Below.refl _ _) _) _
  obtain ⟨s, hS⟩ : ∃ s, w.heap.size = s := ⟨_, rfl⟩
  have HS : Hid (w.heap.size = s) := hS
  have VA : Hid (Vb W s #[.slice a0 m0 k0, .int .i64 H.pc, .slice a1 m1 k1, .bool H.halted, .bool H.waiting, .bool H.rung, .int .i64 H.done, .slice a2 m2 k2, .slice a3 m3 k3] 26) := by
    show Vb _ _ _ _; rw [← hW, ← hS]; exact (Vb.new _ _ _).push _
  have VR : Hid (Vb W (s + 1) #[.int .i64 0, .int .i64 0] 31) := by
    have z1 : s + 1 = (w.alloc (.cells #[.slice a0 m0 k0, .int .i64 H.pc, .slice a1 m1 k1, .bool H.halted, .bool H.waiting, .bool H.rung, .int .i64 H.done, .slice a2 m2 k2, .slice a3 m3 k3] 26)).heap.size := by rw [← hS]; simp
    show Vb _ _ _ _; rw [← hW, z1]; exact Vb.new _ _ _
  go_enter Try.func9, Try.ntmps9
  go_wp2_with fail
  clear hW hS
  refine (SS.out.2 W s B0.out VA.out).mono ?_
  rintro e w1 ⟨rfl, b1⟩
  have B1 : Hid (Below w.heap.size w w1) := on B0.out b1
  have VR1 : Hid (Vb w1 (s + 1) #[.int .i64 0, .int .i64 0] 31) := VR.out.keep b1
  clear b1 VA VR
  have p0 := VR1.out.cell 0 rfl
  have p1 := VR1.out.cell 1 rfl
  have f0 := VR1.out.free 0
  have f1 := VR1.out.free 1
  go_wp2_with fail
  have NN : Hid (_ ∧ _) := twoX VR1.out (.int .i64 c) (.int .i64 0)
  clear p0 f0 p1 f1
  generalize ((w1.setCell ⟨s + 1, 0, none⟩ (.int .i64 c)).setCell ⟨s + 1, 1, none⟩ (.int .i64 0)) = V at *
  have x0 := NN.out.1.cell 0 rfl
  have x1 := NN.out.1.cell 1 rfl
  exact bodyPost_ret (v := .agg #[.int .i64 c, .int .i64 0]) (by simp [results, Try.results9, go_sem, x0, x1]) rfl
    ⟨rfl, Mq.under B1.out NN.out.2 fun k e => by have := HS.out; omega⟩
set_option maxRecDepth 20000 in
set_option maxHeartbeats 4000000 in
theorem ib_space (a0 : Option Addr) (m0 k0 : Nat) (a1 : Option Addr) (m1 k1 : Nat) (a2 : Option Addr) (m2 k2 : Nat) (a3 : Option Addr) (m3 k3 : Nat) (H : Ht) (la : Option Addr) (ln lk : Nat) (ma : Option Addr) (mn mk : Nat) (c : Int) (w : World) (hs : Sees w a0 m0 k0 a1 m1 k1 a2 m2 k2 a3 m3 k3 H la ln lk ma mn mk c) (hc : c ≠ 0) :
    Calls Try.prog 7 #[.agg #[.slice a0 m0 k0, .int .i64 H.pc, .slice a1 m1 k1, .bool H.halted, .bool H.waiting, .bool H.rung, .int .i64 H.done, .slice a2 m2 k2, .slice a3 m3 k3], .slice la ln lk, .slice ma mn mk] w fun e w' => e = .returned (.agg #[.int .i64 c, .slice none 0 0]) ∧ Below w.heap.size w w' := by
  have SS : Hid (Sees w a0 m0 k0 a1 m1 k1 a2 m2 k2 a3 m3 k3 H la ln lk ma mn mk c) := hs
  have hc2 : (c != 0) = true := by simpa using hc
  clear hs hc
  generalize hW : (w.alloc (.cells #[.slice a0 m0 k0, .int .i64 H.pc, .slice a1 m1 k1, .bool H.halted, .bool H.waiting, .bool H.rung, .int .i64 H.done, .slice a2 m2 k2, .slice a3 m3 k3] 26)).alloc (.cells #[.int .i64 0, .slice none 0 0] 34) = W
  have B0 : Hid (Below w.heap.size w W) := by show Below _ _ _; rw [← hW]; exact al (al (Below.refl _ _) _) _
  obtain ⟨s, hS⟩ : ∃ s, w.heap.size = s := ⟨_, rfl⟩
  have HS : Hid (w.heap.size = s) := hS
  have VA : Hid (Vb W s #[.slice a0 m0 k0, .int .i64 H.pc, .slice a1 m1 k1, .bool H.halted, .bool H.waiting, .bool H.rung, .int .i64 H.done, .slice a2 m2 k2, .slice a3 m3 k3] 26) := by
    show Vb _ _ _ _; rw [← hW, ← hS]; exact (Vb.new _ _ _).push _
  have VR : Hid (Vb W (s + 1) #[.int .i64 0, .slice none 0 0] 34) := by
    have z1 : s + 1 = (w.alloc (.cells #[.slice a0 m0 k0, .int .i64 H.pc, .slice a1 m1 k1, .bool H.halted, .bool H.waiting, .bool H.rung, .int .i64 H.done, .slice a2 m2 k2, .slice a3 m3 k3] 26)).heap.size := by rw [← hS]; simp
    show Vb _ _ _ _; rw [← hW, z1]; exact Vb.new _ _ _
  have q0 := VA.out.cell 0 rfl
  have q1 := VA.out.cell 1 rfl
  have q2 := VA.out.cell 2 rfl
  have q3 := VA.out.cell 3 rfl
  have q4 := VA.out.cell 4 rfl
  have q5 := VA.out.cell 5 rfl
  have q6 := VA.out.cell 6 rfl
  have q7 := VA.out.cell 7 rfl
  have q8 := VA.out.cell 8 rfl
  go_enter Try.func7, Try.ntmps7
  go_wp2_with fail
  clear hW hS q0 q1 q2 q3 q4 q5 q6 q7 q8
  refine (SS.out.1 W B0.out).mono ?_
  rintro e w1 ⟨rfl, b1⟩
  have B1 : Hid (Below w.heap.size w w1) := on B0.out b1
  have VR1 : Hid (Vb w1 (s + 1) #[.int .i64 0, .slice none 0 0] 34) := VR.out.keep b1
  clear b1 VA VR
  have p0 := VR1.out.cell 0 rfl
  have p1 := VR1.out.cell 1 rfl
  have f0 := VR1.out.free 0
  have f1 := VR1.out.free 1
  go_wp2_with fail
  have NN : Hid (_ ∧ _) := twoX VR1.out (.int .i64 c) (.slice none 0 0)
  clear p0 f0 p1 f1
  generalize ((w1.setCell ⟨s + 1, 0, none⟩ (.int .i64 c)).setCell ⟨s + 1, 1, none⟩ (.slice none 0 0)) = V at *
  have x0 := NN.out.1.cell 0 rfl
  have x1 := NN.out.1.cell 1 rfl
  exact bodyPost_ret (v := .agg #[.int .i64 c, .slice none 0 0]) (by simp [results, Try.results7, go_sem, x0, x1]) rfl
    ⟨rfl, Mq.under B1.out NN.out.2 fun k e => by have := HS.out; omega⟩
set_option maxRecDepth 20000 in
set_option maxHeartbeats 4000000 in
theorem sb_space (a0 : Option Addr) (m0 k0 : Nat) (a1 : Option Addr) (m1 k1 : Nat) (a2 : Option Addr) (m2 k2 : Nat) (a3 : Option Addr) (m3 k3 : Nat) (H : Ht) (la : Option Addr) (ln lk : Nat) (ma : Option Addr) (mn mk : Nat) (c : Int) (w : World) (hs : Sees w a0 m0 k0 a1 m1 k1 a2 m2 k2 a3 m3 k3 H la ln lk ma mn mk c) (hc : c ≠ 0) :
    Calls Try.prog 8 #[.agg #[.slice a0 m0 k0, .int .i64 H.pc, .slice a1 m1 k1, .bool H.halted, .bool H.waiting, .bool H.rung, .int .i64 H.done, .slice a2 m2 k2, .slice a3 m3 k3], .slice la ln lk, .slice ma mn mk] w fun e w' => e = .returned (.agg #[.int .i64 c, .slice none 0 0]) ∧ Below w.heap.size w w' := by
  have SS : Hid (Sees w a0 m0 k0 a1 m1 k1 a2 m2 k2 a3 m3 k3 H la ln lk ma mn mk c) := hs
  have hc2 : (c != 0) = true := by simpa using hc
  clear hs hc
  generalize hW : (w.alloc (.cells #[.slice a0 m0 k0, .int .i64 H.pc, .slice a1 m1 k1, .bool H.halted, .bool H.waiting, .bool H.rung, .int .i64 H.done, .slice a2 m2 k2, .slice a3 m3 k3] 26)).alloc (.cells #[.int .i64 0, .slice none 0 0] 34) = W
  have B0 : Hid (Below w.heap.size w W) := by show Below _ _ _; rw [← hW]; exact al (al (Below.refl _ _) _) _
  obtain ⟨s, hS⟩ : ∃ s, w.heap.size = s := ⟨_, rfl⟩
  have HS : Hid (w.heap.size = s) := hS
  have VA : Hid (Vb W s #[.slice a0 m0 k0, .int .i64 H.pc, .slice a1 m1 k1, .bool H.halted, .bool H.waiting, .bool H.rung, .int .i64 H.done, .slice a2 m2 k2, .slice a3 m3 k3] 26) := by
    show Vb _ _ _ _; rw [← hW, ← hS]; exact (Vb.new _ _ _).push _
  have VR : Hid (Vb W (s + 1) #[.int .i64 0, .slice none 0 0] 34) := by
    have z1 : s + 1 = (w.alloc (.cells #[.slice a0 m0 k0, .int .i64 H.pc, .slice a1 m1 k1, .bool H.halted, .bool H.waiting, .bool H.rung, .int .i64 H.done, .slice a2 m2 k2, .slice a3 m3 k3] 26)).heap.size := by rw [← hS]; simp
    show Vb _ _ _ _; rw [← hW, z1]; exact Vb.new _ _ _
  go_enter Try.func8, Try.ntmps8
  go_wp2_with fail
  clear hW hS
  refine (SS.out.2 W s B0.out VA.out).mono ?_
  rintro e w1 ⟨rfl, b1⟩
  have B1 : Hid (Below w.heap.size w w1) := on B0.out b1
  have VR1 : Hid (Vb w1 (s + 1) #[.int .i64 0, .slice none 0 0] 34) := VR.out.keep b1
  clear b1 VA VR
  have p0 := VR1.out.cell 0 rfl
  have p1 := VR1.out.cell 1 rfl
  have f0 := VR1.out.free 0
  have f1 := VR1.out.free 1
  go_wp2_with fail
  have NN : Hid (_ ∧ _) := twoX VR1.out (.int .i64 c) (.slice none 0 0)
  clear p0 f0 p1 f1
  generalize ((w1.setCell ⟨s + 1, 0, none⟩ (.int .i64 c)).setCell ⟨s + 1, 1, none⟩ (.slice none 0 0)) = V at *
  have x0 := NN.out.1.cell 0 rfl
  have x1 := NN.out.1.cell 1 rfl
  exact bodyPost_ret (v := .agg #[.int .i64 c, .slice none 0 0]) (by simp [results, Try.results8, go_sem, x0, x1]) rfl
    ⟨rfl, Mq.under B1.out NN.out.2 fun k e => by have := HS.out; omega⟩
end Go.Proofs.Ytgjpfmcokcjegaa
