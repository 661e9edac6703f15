/- Texts of this seat, joined. -/
import Derived.Test.YtggejbphdadckaaGreatDoorQ33
namespace Go.Proofs.YtggejbphdadckaaGreatDoor
open Go.RowKit
set_option linter.unusedVariables false
def Hd (w : World) (p : Addr) (l : Nat × Nat) : Prop := ∃ a c, w.cell? p = some (.slice a l.2 c) ∧ (0 < l.2 → a = some ⟨l.1, 0, none⟩)
theorem Hd.keep {w w' : World} {p : Addr} {l : Nat × Nat} (h : Hd w p l) (b : Below w.heap.size w w') : Hd w' p l := by
  obtain ⟨a, c, k1, k2⟩ := h; exact ⟨a, c, cell_keep b k1, k2⟩
theorem Lxm.hd {w w' : World} {p : Addr} {l : Nat × Nat} {L : List (Addr × Bool)} {k : Int} (h : Lxm w p l) (m : Mx L k w w') (hv : Av L p) : Hd w' p l := by
  obtain ⟨a, c, k1, k2⟩ := h; exact ⟨a, c, m.out _ _ k1 hv, k2.at⟩
structure Mzm (w : World) (g j : Nat) (S : Hsx) : Prop where
  c0 : Hd w ⟨g, j * 9, none⟩ S.r
  c2 : Hd w ⟨g, j * 9 + 2, none⟩ S.c
  c7 : Hd w ⟨g, j * 9 + 7, none⟩ S.i
  c8 : Hd w ⟨g, j * 9 + 8, none⟩ S.o
  small : ∀ l ∈ S.all, l.2 ≤ 1048576
theorem Mzm.keep {w w' : World} {g j : Nat} {S : Hsx} (h : Mzm w g j S) (b : Below w.heap.size w w') : Mzm w' g j S := ⟨h.c0.keep b, h.c2.keep b, h.c7.keep b, h.c8.keep b, h.small⟩
theorem tN_hx {g n : Nat} {S : Nat → Hsx} {k : Int} {w : World} (h : Hx (tN g S n) k w) {j : Nat} (hj : j < n) : Hx (hN g j (S j)) (k + (tN g S j).length) w := by
  induction n with
  | zero => omega
  | succ n ih =>
    by_cases e : j = n
    · subst e; exact Hx.right (L := tN g S j) h
    · exact ih (Hx.left (M := hN g n (S n)) h) (by omega)
theorem hx_one {p : Addr} {b : Bool} {k : Int} {w : World} (h : Hx [(p, b)] k w) : w.cell? p = some (mkV b k) := by
  have := h 0 _ rfl; simpa using this
set_option maxHeartbeats 4000000 in
set_option maxRecDepth 8000 in
theorem hx_harts (a : Option Addr) (g n c : Nat) (S : Nat → Hsx) (k : Int) (w : World) (h : ∀ j, j < n → Mzm w g j (S j)) (hx : Hx (tN g S n) k w) (ha : 0 < n → a = some ⟨g, 0, none⟩) (hn : n ≤ 1048576) (hk : 0 ≤ k) (hz : k ≤ 2000000000000) :
    Calls Tryz.prog 76 #[.slice a n c, .int .i64 k] w fun e w' => e = .returned (.int .i64 (k + (tN g S n).length)) ∧ w' = w := by
  have HT : Hid (∀ j, j < n → Mzm w g j (S j)) := h
  have HX : Hid (Hx (tN g S n) k w) := hx
  have HA : Hid (0 < n → a = some ⟨g, 0, none⟩) := ha
  have NK : Hid (n ≤ 1048576 ∧ 0 ≤ k ∧ k ≤ 2000000000000) := ⟨hn, hk, hz⟩
  have hn' : (n : Int) ≤ 1048576 := by omega
  clear h hx ha hn hz
  go_enter Tryz.func76, Tryz.ntmps76
  go_wp2_with fail
  clear hk
  go_loop [1, 5] (fun q i => ∃ (j : Nat) (kk : Int), j ≤ n ∧ i = .int .i64 j ∧ q = .int .i64 kk ∧ 0 ≤ kk ∧ kk ≤ k + 5000000 * j ∧ kk = k + (tN g S j).length) (fun _ i => n - (intOf i).toNat)
  case atStart => exact ⟨0, k, Nat.zero_le _, rfl, rfl, NK.out.2.1, by omega, by simp [tN]⟩
  case round =>
    obtain ⟨j, kk, hj, rfl, rfl, hp, hq, hl⟩ := hrel
    have KL : Hid (kk = k + (tN g S j).length) := hl
    have KQ : Hid (0 ≤ kk ∧ kk ≤ k + 5000000 * j) := ⟨hp, hq⟩
    by_cases hlt : j < n
    · obtain rfl := HA.out (by omega)
      have HL : Hid (j < n) := hlt
      have hI : (j : Int) < (n : Int) := by omega
      have T0 : Hid (Mzm w g j (S j)) := HT.out j hlt
      have X0 : Hid (Hx (hN g j (S j)) kk w) := by show Hx _ _ _; rw [hl]; exact tN_hx HX.out hlt
      have KB : Hid (0 ≤ kk ∧ kk ≤ 8000000000000) := ⟨hp, by have := NK.out; omega⟩
      obtain ⟨s, hs⟩ : ∃ s, S j = s := ⟨_, rfl⟩
      rw [hs] at T0 X0
      have HS : Hid (S j = s) := hs
      obtain ⟨⟨gr, m0⟩, ⟨gc, m2⟩, ⟨gi, m7⟩, ⟨go, m8⟩⟩ := s
      have SM : Hid (m0 ≤ 1048576 ∧ m2 ≤ 1048576 ∧ m7 ≤ 1048576 ∧ m8 ≤ 1048576) := ⟨T0.out.small (gr, m0) (by simp [Hsx.all]), T0.out.small (gc, m2) (by simp [Hsx.all]), T0.out.small (gi, m7) (by simp [Hsx.all]), T0.out.small (go, m8) (by simp [Hsx.all])⟩
      clear hlt hp hq hl hs
      obtain ⟨a0, k0', c0, e0⟩ := T0.out.c0
      obtain ⟨a2, k2', c2, e2⟩ := T0.out.c2
      obtain ⟨a7, k7', c7, e7⟩ := T0.out.c7
      obtain ⟨a8, k8', c8, e8⟩ := T0.out.c8
      obtain ⟨k1, hk1⟩ : ∃ k1, kk + (m0 : Int) = k1 := ⟨_, rfl⟩
      obtain ⟨k2, hk2⟩ : ∃ k2, k1 + 1 + (m2 : Int) = k2 := ⟨_, rfl⟩
      obtain ⟨k3, hk3⟩ : ∃ k3, k2 + 1 + 1 + 1 + 1 + (m7 : Int) = k3 := ⟨_, rfl⟩
      obtain ⟨k4, hk4⟩ : ∃ k4, k3 + (m8 : Int) = k4 := ⟨_, rfl⟩
      have KK : Hid (kk + (m0 : Int) = k1 ∧ k1 + 1 + (m2 : Int) = k2 ∧ k2 + 1 + 1 + 1 + 1 + (m7 : Int) = k3 ∧ k3 + (m8 : Int) = k4) := ⟨hk1, hk2, hk3, hk4⟩
      have xd := X0.out.left.left
      have xc := xd.left.left.left.left
      have Y0 : Hid (Hx (cN gr m0) kk w) := xc.left.left
      have c1 : w.cell? ⟨g, j * 9 + 1, none⟩ = some (.int .i64 k1) := by
        have := hx_one xc.left.right; rw [cN_len] at this; rw [← hk1]; exact this
      have Y2 : Hid (Hx (cN gc m2) (k1 + 1) w) := by
        have := xc.right; simp only [hN1, List.length_append, List.length_singleton, cN_len] at this
        rw [show kk + ((m0 + 1 : Nat) : Int) = k1 + 1 by omega] at this; exact this
      have c3 : w.cell? ⟨g, j * 9 + 3, none⟩ = some (.bool (k2 % 3 == 0)) := by
        have := hx_one xd.left.left.left.right; simp only [hN1, List.length_append, List.length_singleton, cN_len] at this
        rw [show kk + ((m0 + 1 + m2 : Nat) : Int) = k2 by omega] at this; exact this
      have c4 : w.cell? ⟨g, j * 9 + 4, none⟩ = some (.bool ((k2 + 1) % 3 == 0)) := by
        have := hx_one xd.left.left.right; simp only [hN1, List.length_append, List.length_singleton, cN_len] at this
        rw [show kk + ((m0 + 1 + m2 + 1 : Nat) : Int) = k2 + 1 by omega] at this; exact this
      have c5 : w.cell? ⟨g, j * 9 + 5, none⟩ = some (.bool ((k2 + 1 + 1) % 3 == 0)) := by
        have := hx_one xd.left.right; simp only [hN1, List.length_append, List.length_singleton, cN_len] at this
        rw [show kk + ((m0 + 1 + m2 + 1 + 1 : Nat) : Int) = k2 + 1 + 1 by omega] at this; exact this
      have c6 : w.cell? ⟨g, j * 9 + 6, none⟩ = some (.int .i64 (k2 + 1 + 1 + 1)) := by
        have := hx_one xd.right; simp only [hN1, List.length_append, List.length_singleton, cN_len] at this
        rw [show kk + ((m0 + 1 + m2 + 1 + 1 + 1 : Nat) : Int) = k2 + 1 + 1 + 1 by omega] at this; exact this
      have Y7 : Hid (Hx (cN gi m7) (k2 + 1 + 1 + 1 + 1) w) := by
        have := X0.out.left.right; simp only [hN2, hN1, List.length_append, List.length_singleton, cN_len] at this
        rw [show kk + ((m0 + 1 + m2 + 1 + 1 + 1 + 1 : Nat) : Int) = k2 + 1 + 1 + 1 + 1 by omega] at this; exact this
      have Y8 : Hid (Hx (cN go m8) k3 w) := by
        have := X0.out.right; simp only [hN2, hN1, List.length_append, List.length_singleton, cN_len] at this
        rw [show kk + ((m0 + 1 + m2 + 1 + 1 + 1 + 1 + m7 : Nat) : Int) = k3 by omega] at this; exact this
      have EE : Hid ((0 < m0 → a0 = some ⟨gr, 0, none⟩) ∧ (0 < m2 → a2 = some ⟨gc, 0, none⟩) ∧ (0 < m7 → a7 = some ⟨gi, 0, none⟩) ∧ (0 < m8 → a8 = some ⟨go, 0, none⟩)) := ⟨e0, e2, e7, e8⟩
      have K5 : Hid (k4 = k + (tN g S (j + 1)).length) := by
        show k4 = k + ((tN g S j ++ hN g j (S j)).length : Int)
        have := KL.out
        rw [HS.out]
        simp only [hN, hN2, hN1, List.length_append, List.length_singleton, cN_len]
        omega
      have p0 : 0 ≤ kk := KB.out.1
      have p1 : 0 ≤ k1 := by have := KB.out; omega
      have p2 : 0 ≤ k2 := by omega
      have p3 : 0 ≤ k3 := by omega
      have p4 : 0 ≤ k4 := by omega
      have K4 : Hid (0 ≤ k4 ∧ k4 ≤ k + 5000000 * ((j + 1 : Nat) : Int)) := ⟨p4, by have := SM.out; have := KQ.out; omega⟩
      have q4 : k4 ≤ 4000000000000000 := by have := SM.out; have := KB.out; omega
      have q3 : k3 ≤ 4000000000000000 := by omega
      have q2 : k2 ≤ 4000000000000000 := by omega
      have q1 : k1 ≤ 4000000000000000 := by omega
      clear e0 e2 e7 e8 hk1 hk2 hk3 hk4 xd xc
      go_wp2_with fail
      refine (hx_nums _ _ _ gr _ _ Y0.out EE.out.1 p0 (by have := KK.out; omega)).mono ?_
      rintro e v ⟨rfl, rfl⟩
      rw [KK.out.1]
      go_wp2_with fail
      refine (hx_nums _ _ _ gc _ _ Y2.out EE.out.2.1 (by omega) (by have := KK.out; omega)).mono ?_
      rintro e v ⟨rfl, rfl⟩
      rw [KK.out.2.1]
      go_wp2_with fail
      refine (hx_nums _ _ _ gi _ _ Y7.out EE.out.2.2.1 (by omega) (by have := KK.out; omega)).mono ?_
      rintro e v ⟨rfl, rfl⟩
      rw [KK.out.2.2.1]
      go_wp2_with fail
      refine (hx_nums _ _ _ go _ _ Y8.out EE.out.2.2.2 (by omega) (by have := KK.out; omega)).mono ?_
      rintro e v ⟨rfl, rfl⟩
      rw [KK.out.2.2.2]
      clear c0 c1 c2 c3 c4 c5 c6 c7 c8
      go_wp2_with fail
      go_round
      case rel => exact ⟨j + 1, k4, by have := HL.out; omega, by go_num, rfl, K4.out.1, K4.out.2, K5.out⟩
      case measure => have := HL.out; simp [intOf]; omega
    · have hI : ¬ (j : Int) < (n : Int) := by omega
      obtain rfl : j = n := by omega
      clear hp hq hl
      go_wp2_with fail
      go_ret
      exact ⟨by rw [KL.out]; rfl, rfl⟩
end Go.Proofs.YtggejbphdadckaaGreatDoor
