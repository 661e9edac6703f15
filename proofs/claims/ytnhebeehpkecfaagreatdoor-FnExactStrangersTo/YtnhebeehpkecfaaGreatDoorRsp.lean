/- slices.Sort at a few numbers. -/
import Derived.Test.YtnhebeehpkecfaaGreatDoorRso
namespace Go.Proofs.YtnhebeehpkecfaaGreatDoor
open Go.RowKit
set_option linter.unusedVariables false

set_option maxRecDepth 20000 in
set_option maxHeartbeats 4000000 in
theorem pdq_sort (g n cap b : Nat) (lim : Int) (zs : List Int) (w : World) (h : Nums w b (.slice (some ⟨g, 0, none⟩) n cap) zs) (hn : n ≤ 12) (hn1 : 1 ≤ n) (hd : zs.Nodup) :
    Calls Tryz.prog 71 #[.slice (some ⟨g, 0, none⟩) n cap, .int .i64 0, .int .i64 (n : Int), .int .i64 lim] w fun e w' => e = .returned (.tuple #[]) ∧ ∃ ys, Nums w' b (.slice (some ⟨g, 0, none⟩) n cap) ys ∧ Up ys ∧ (∀ x, x ∈ ys ↔ x ∈ zs) ∧ w.grownBy w' (some g) := by
  have CS := ins_sort g n cap b zs w h hn hn1 hd
  have hni : (n : Int) ≤ 12 := by omega
  clear h hn hn1 hd
  go_enter Tryz.func71, Tryz.ntmps71
  go_wp2_with fail
  go_loopw [1, 2] (fun a b wr => a = .int .i64 0 ∧ b = .int .i64 (n : Int) ∧ wr = w) (fun _ _ _ => 0)
  case atStart => exact ⟨rfl, rfl, rfl⟩
  case round =>
    obtain ⟨rfl, rfl, rfl⟩ := hrel
    go_wp2_with fail
    refine CS.mono ?_
    rintro e w2 ⟨rfl, ys, h1, h2, h3, h4⟩
    have HH : Hid (∃ ys, Nums w2 b (.slice (some ⟨g, 0, none⟩) n cap) ys ∧ Up ys ∧ (∀ x, x ∈ ys ↔ x ∈ zs) ∧ wr.grownBy w2 (some g)) := ⟨ys, h1, h2, h3, h4⟩
    clear CS h1 h2 h3 h4
    go_wp2_with fail
    exact bodyPost_ret (v := .tuple #[]) (by simp [results, Tryz.results71]) rfl ⟨rfl, HH.out⟩

set_option maxRecDepth 20000 in
set_option maxHeartbeats 4000000 in
theorem bits_len64 (n : Nat) (w : World) (hn : n ≤ 3) : Calls Tryz.prog 96 #[.int .u64 (n : Int)] w fun e w' => (∃ v : Int, e = .returned (.int .i64 v)) ∧ w' = w := by
  have : n = 0 ∨ n = 1 ∨ n = 2 ∨ n = 3 := by omega
  rcases this with rfl | rfl | rfl | rfl <;>
    (go_enter Tryz.func96, Tryz.ntmps96
     go_wp2_with fail
     go_ret
     exact ⟨⟨_, rfl⟩, rfl⟩)
theorem bits_len (n : Nat) (w : World) (hn : n ≤ 3) : Calls Tryz.prog 72 #[.int .u64 (n : Int)] w fun e w' => (∃ v : Int, e = .returned (.int .i64 v)) ∧ w' = w := by
  have CL := fun w => bits_len64 n w hn
  have hn3 : (n : Int) ≤ 3 := by omega
  clear hn
  go_enter Tryz.func72, Tryz.ntmps72
  go_wp2_with (go_at_call 96; refine (CL _).mono ?_; rintro e w ⟨⟨v, rfl⟩, rfl⟩)
  go_ret
  exact ⟨⟨_, rfl⟩, rfl⟩
set_option maxRecDepth 20000 in
theorem ins_sort0 (a : Option Addr) (cap : Nat) (w : World) :
    Calls Tryz.prog 86 #[.slice a 0 cap, .int .i64 0, .int .i64 0] w fun e w' => e = .returned (.tuple #[]) ∧ w' = w := by
  go_enter Tryz.func86, Tryz.ntmps86
  go_wp2_with fail
  go_loop [6] (fun c => c = .int .i64 1) (fun _ => 0)
  case atStart => rfl
  case round =>
    subst hrel
    go_wp2_with fail
    exact bodyPost_end (v := .tuple #[]) (by simp [results, Tryz.results86]) rfl ⟨rfl, rfl⟩
set_option maxRecDepth 20000 in
set_option maxHeartbeats 4000000 in
theorem pdq_sort0 (a : Option Addr) (cap : Nat) (lim : Int) (w : World) :
    Calls Tryz.prog 71 #[.slice a 0 cap, .int .i64 0, .int .i64 0, .int .i64 lim] w fun e w' => e = .returned (.tuple #[]) ∧ w' = w := by
  have CS := ins_sort0 a cap w
  go_enter Tryz.func71, Tryz.ntmps71
  go_wp2_with fail
  go_loopw [1, 2] (fun a b wr => a = .int .i64 0 ∧ b = .int .i64 0 ∧ wr = w) (fun _ _ _ => 0)
  case atStart => exact ⟨rfl, rfl, rfl⟩
  case round =>
    obtain ⟨rfl, rfl, rfl⟩ := hrel
    go_wp2_with fail
    refine CS.mono ?_
    rintro e wr ⟨rfl, rfl⟩
    clear CS
    go_wp2_with fail
    exact bodyPost_ret (v := .tuple #[]) (by simp [results, Tryz.results71]) rfl ⟨rfl, rfl⟩
/-- slices.Sort of at most three numbers, all different. -/
theorem sort_few (v : Value) (zs : List Int) (b : Nat) (w : World) (h : Nums w b v zs) (hl : zs.length ≤ 3) (hd : zs.Nodup) :
    Calls Tryz.prog 62 #[v] w fun e w' => e = .returned (.tuple #[]) ∧ ∃ ys, Nums w' b v ys ∧ Up ys ∧ (∀ x, x ∈ ys ↔ x ∈ zs) ∧ w.grownBy w' v.ownBlock := by
  obtain ⟨a, cap, rfl, l1, l2, hg⟩ := h.shape
  by_cases hz : zs.length = 0
  · have CP := fun lim => pdq_sort0 a cap lim w
    have CB := bits_len 0 w (by omega)
    have he : zs = [] := List.eq_nil_of_length_eq_zero hz
    subst he
    have HN : Hid (Nums w b (.slice a 0 cap) []) := h
    clear h hl hd hg l1 l2
    go_enter Tryz.func62, Tryz.ntmps62
    go_wp2_with (first | (go_at_call 72; refine CB.mono ?_; rintro e w ⟨⟨v, rfl⟩, rfl⟩) | (go_at_call 71; refine (CP _).mono ?_; rintro e w ⟨rfl, rfl⟩))
    exact bodyPost_end (v := .tuple #[]) (by simp [results, Tryz.results62]) rfl ⟨rfl, [], HN.out, List.Pairwise.nil, fun _ => Iff.rfl, World.grownBy.refl _ _⟩
  · obtain ⟨g, rfl⟩ := hg (by omega)
    obtain ⟨n, hn⟩ : ∃ n, zs.length = n := ⟨_, rfl⟩
    rw [hn] at h hl hz ⊢
    have CP := fun lim => pdq_sort g n cap b lim zs w h (by omega) (by omega) hd
    have CB := bits_len n w hl
    have hnI : (n : Int) ≤ 3 := by omega
    clear h hl hd hg l1 l2 hn hz
    go_enter Tryz.func62, Tryz.ntmps62
    go_wp2_with (go_at_call 72; refine CB.mono ?_; rintro e w ⟨⟨v, rfl⟩, rfl⟩)
    refine (CP _).mono ?_
    rintro e w2 ⟨rfl, ys, h1, h2, h3, h4⟩
    have HH : Hid (∃ ys, Nums w2 b (.slice (some ⟨g, 0, none⟩) n cap) ys ∧ Up ys ∧ (∀ x, x ∈ ys ↔ x ∈ zs) ∧ w.grownBy w2 (some g)) := ⟨ys, h1, h2, h3, h4⟩
    clear CP h1 h2 h3 h4
    go_wp2_with fail
    exact bodyPost_end (v := .tuple #[]) (by simp [results, Tryz.results62]) rfl ⟨rfl, HH.out⟩
end Go.Proofs.YtnhebeehpkecfaaGreatDoor
