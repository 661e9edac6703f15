/- Texts of this seat, joined. -/
import Derived.Deep.WholeRow
import Derived.Deep.Cut
import Derived.Test.YtdmlejfopmimfaaGreatDoorQ03
import Derived.Test.YtdmlejfopmimfaaGreatDoorQ08
namespace Go.Proofs.YtdmlejfopmimfaaGreatDoor
open Go.RowKit

set_option maxHeartbeats 4000000 in
theorem spec_insFault_in (op d a imm : Int) (w : World) (h : 1 ≤ op ∧ op ≤ 26 ∧ 0 ≤ d ∧ d ≤ 15 ∧ 0 ≤ a ∧ a ≤ 15 ∧ 0 ≤ imm ∧ imm ≤ 65535) :
    Calls Tryz.prog 62 #[.agg #[.int .i64 op, .int .i64 d, .int .i64 a, .int .i64 imm]] w fun e w' => e = .returned (.int .i64 (insC op d a imm)) ∧ Below w.heap.size w w' := by
  have hi : Hid (_ ↔ _) := insC_zero h
  have h3 : Hid (insC op d a imm = 0 ∨ insC op d a imm = 1) := by rw [insC, if_pos h]; show _ ∨ _; split <;> simp
  have hh : Hid _ := h
  have hcl := op_class (op := op) ⟨h.1, h.2.1⟩
  have i1 : inB op 1 26 = true := inB_true (by omega)
  have i2 : inB d 0 15 = true := inB_true (by omega)
  have i3 : inB a 0 15 = true := inB_true (by omega)
  have i4 : inB imm 0 65535 = true := inB_true (by omega)
  have hb := fun w => spec_bare op w ⟨h.1, h.2.1⟩
  clear h
  generalize insC op d a imm = c at *
  obtain ⟨x, hx⟩ : ∃ x, bareD op = x := ⟨_, rfl⟩
  obtain ⟨y, hy⟩ : ∃ y, bareA op = y := ⟨_, rfl⟩
  obtain ⟨z, hz⟩ : ∃ z, bareI op = z := ⟨_, rfl⟩
  rw [hx, hy, hz] at hb
  rcases hcl with rfl | rfl | rfl | rfl | rfl | rfl | rfl | rfl | ⟨g1, g2, g3, g4, g5, g6, g7, g8, g9⟩
  rotate_right 1
  · obtain rfl : false = x := by rw [← hx]; exact (decide_eq_false (by have g9 := g9.out; omega)).symm
    obtain rfl : false = y := by rw [← hy]; exact (decide_eq_false (by have g9 := g9.out; omega)).symm
    obtain rfl : false = z := by rw [← hz]; exact (decide_eq_false (by have g9 := g9.out; omega)).symm
    clear hx hy hz
    go_enter Tryz.func62, Tryz.ntmps62
    go_wp2_with (first | (go_at_call 59; refine (hb _).mono ?_; rintro e w1 ⟨rfl, rfl⟩) | (go_at_call 61; refine (spec_inI _ _ _ _).mono ?_; rintro e w1 ⟨rfl, rfl⟩))
    all_goals go_ret
    all_goals refine ⟨congrArg (fun b => Ending.returned (Value.int .i64 b)) ?_, ((Below.refl _ _).alloc (Nat.le_refl _) _)⟩
    all_goals have hi := hi.out
    all_goals have hh := hh.out
    all_goals have h3 := h3.out
    all_goals have g9 := g9.out
    all_goals omega
  all_goals
    obtain rfl : _ = x := hx
    obtain rfl : _ = y := hy
    obtain rfl : _ = z := hz
  all_goals
    go_enter Tryz.func62, Tryz.ntmps62
    go_wp2_with (first | (go_at_call 59; refine (hb _).mono ?_; rintro e w1 ⟨rfl, rfl⟩) | (go_at_call 61; refine (spec_inI _ _ _ _).mono ?_; rintro e w1 ⟨rfl, rfl⟩))
  all_goals go_ret
  all_goals refine ⟨congrArg (fun b => Ending.returned (Value.int .i64 b)) ?_, ((Below.refl _ _).alloc (Nat.le_refl _) _)⟩
  all_goals have hi := hi.out
  all_goals have hh := hh.out
  all_goals have h3 := h3.out
  all_goals first | omega | (simp at hi; omega) | skip

set_option maxHeartbeats 4000000 in
theorem spec_insFault (op d a imm : Int) (w : World) :
    Calls Tryz.prog 62 #[.agg #[.int .i64 op, .int .i64 d, .int .i64 a, .int .i64 imm]] w fun e w' => e = .returned (.int .i64 (insC op d a imm)) ∧ Below w.heap.size w w' := by
  by_cases h : 1 ≤ op ∧ op ≤ 26 ∧ 0 ≤ d ∧ d ≤ 15 ∧ 0 ≤ a ∧ a ≤ 15 ∧ 0 ≤ imm ∧ imm ≤ 65535
  · exact spec_insFault_in op d a imm w h
  · rw [insC_3 h]
    have hcl : inB op 1 26 = false ∨ inB op 1 26 = true ∧ (inB d 0 15 = false ∨ inB d 0 15 = true ∧ (inB a 0 15 = false ∨ inB a 0 15 = true ∧ inB imm 0 65535 = false)) := by
      simp only [inB, decide_eq_true_eq, decide_eq_false_iff_not]
      omega
    clear h
    rcases hcl with i1 | ⟨i1, i2 | ⟨i2, i3 | ⟨i3, i4⟩⟩⟩
    all_goals
      go_enter Tryz.func62, Tryz.ntmps62
      go_wp2_with (go_at_call 61; refine (spec_inI _ _ _ _).mono ?_; rintro e w1 ⟨rfl, rfl⟩)
    all_goals go_ret
    all_goals exact ⟨rfl, ((Below.refl _ _).alloc (Nat.le_refl _) _)⟩
end Go.Proofs.YtdmlejfopmimfaaGreatDoor
namespace Go.Proofs.YtdmlejfopmimfaaGreatDoor
open Go.RowKit

/-- The names, in order. -/
def nms : List ByteArray := [⟨#[]⟩, ⟨#[97, 100, 100]⟩, ⟨#[115, 117, 98]⟩, ⟨#[109, 117, 108]⟩, ⟨#[100, 105, 118]⟩, ⟨#[114, 101, 109]⟩, ⟨#[97, 110, 100]⟩, ⟨#[111, 114]⟩, ⟨#[120, 111, 114]⟩, ⟨#[108, 101, 102, 116]⟩, ⟨#[114, 105, 103, 104, 116]⟩, ⟨#[108, 101, 115, 115]⟩, ⟨#[97, 100, 100, 105]⟩, ⟨#[104, 105, 103, 104]⟩, ⟨#[108, 111, 97, 100]⟩, ⟨#[115, 116, 111, 114, 101]⟩, ⟨#[101, 113]⟩, ⟨#[110, 101]⟩, ⟨#[108, 116]⟩, ⟨#[106, 117, 109, 112]⟩, ⟨#[106, 117, 109, 112, 114]⟩, ⟨#[103, 101, 116]⟩, ⟨#[115, 101, 116]⟩, ⟨#[99, 97, 108, 108]⟩, ⟨#[98, 97, 99, 107]⟩, ⟨#[119, 97, 105, 116]⟩, ⟨#[104, 97, 108, 116]⟩]
def nm (k : Nat) : ByteArray := nms.getD k ⟨#[]⟩
/-- The table of names, as it lies in memory. -/
def nmA : Array Value := #[.string ⟨#[]⟩, .string ⟨#[97, 100, 100]⟩, .string ⟨#[115, 117, 98]⟩, .string ⟨#[109, 117, 108]⟩, .string ⟨#[100, 105, 118]⟩, .string ⟨#[114, 101, 109]⟩, .string ⟨#[97, 110, 100]⟩, .string ⟨#[111, 114]⟩, .string ⟨#[120, 111, 114]⟩, .string ⟨#[108, 101, 102, 116]⟩, .string ⟨#[114, 105, 103, 104, 116]⟩, .string ⟨#[108, 101, 115, 115]⟩, .string ⟨#[97, 100, 100, 105]⟩, .string ⟨#[104, 105, 103, 104]⟩, .string ⟨#[108, 111, 97, 100]⟩, .string ⟨#[115, 116, 111, 114, 101]⟩, .string ⟨#[101, 113]⟩, .string ⟨#[110, 101]⟩, .string ⟨#[108, 116]⟩, .string ⟨#[106, 117, 109, 112]⟩, .string ⟨#[106, 117, 109, 112, 114]⟩, .string ⟨#[103, 101, 116]⟩, .string ⟨#[115, 101, 116]⟩, .string ⟨#[99, 97, 108, 108]⟩, .string ⟨#[98, 97, 99, 107]⟩, .string ⟨#[119, 97, 105, 116]⟩, .string ⟨#[104, 97, 108, 116]⟩]
theorem nm_at (k : Nat) (h : k < 27) : nmA[k]? = some (.string (nm k)) := by
  match k, h with
  | 0, _ => rfl
  | 1, _ => rfl
  | 2, _ => rfl
  | 3, _ => rfl
  | 4, _ => rfl
  | 5, _ => rfl
  | 6, _ => rfl
  | 7, _ => rfl
  | 8, _ => rfl
  | 9, _ => rfl
  | 10, _ => rfl
  | 11, _ => rfl
  | 12, _ => rfl
  | 13, _ => rfl
  | 14, _ => rfl
  | 15, _ => rfl
  | 16, _ => rfl
  | 17, _ => rfl
  | 18, _ => rfl
  | 19, _ => rfl
  | 20, _ => rfl
  | 21, _ => rfl
  | 22, _ => rfl
  | 23, _ => rfl
  | 24, _ => rfl
  | 25, _ => rfl
  | 26, _ => rfl
  | k + 27, h => exact absurd h (by omega)

theorem nm_lit : (#[.string ⟨#[]⟩, .string ⟨#[97, 100, 100]⟩, .string ⟨#[115, 117, 98]⟩, .string ⟨#[109, 117, 108]⟩, .string ⟨#[100, 105, 118]⟩, .string ⟨#[114, 101, 109]⟩, .string ⟨#[97, 110, 100]⟩, .string ⟨#[111, 114]⟩, .string ⟨#[120, 111, 114]⟩, .string ⟨#[108, 101, 102, 116]⟩, .string ⟨#[114, 105, 103, 104, 116]⟩, .string ⟨#[108, 101, 115, 115]⟩, .string ⟨#[97, 100, 100, 105]⟩, .string ⟨#[104, 105, 103, 104]⟩, .string ⟨#[108, 111, 97, 100]⟩, .string ⟨#[115, 116, 111, 114, 101]⟩, .string ⟨#[101, 113]⟩, .string ⟨#[110, 101]⟩, .string ⟨#[108, 116]⟩, .string ⟨#[106, 117, 109, 112]⟩, .string ⟨#[106, 117, 109, 112, 114]⟩, .string ⟨#[103, 101, 116]⟩, .string ⟨#[115, 101, 116]⟩, .string ⟨#[99, 97, 108, 108]⟩, .string ⟨#[98, 97, 99, 107]⟩, .string ⟨#[119, 97, 105, 116]⟩, .string ⟨#[104, 97, 108, 116]⟩] : Array Value) = nmA := rfl
theorem nm_size : nmA.size = 27 := rfl
theorem nm_store (w : World) : (storeCells ⟨w.heap.size + 1, 0, none⟩ nmA.toList 0).run Tryz.prog ((w.alloc (.cells #[.int .i64 0, .string ⟨#[]⟩] 27)).alloc (.cells #[.string ⟨#[]⟩, .string ⟨#[]⟩, .string ⟨#[]⟩, .string ⟨#[]⟩, .string ⟨#[]⟩, .string ⟨#[]⟩, .string ⟨#[]⟩, .string ⟨#[]⟩, .string ⟨#[]⟩, .string ⟨#[]⟩, .string ⟨#[]⟩, .string ⟨#[]⟩, .string ⟨#[]⟩, .string ⟨#[]⟩, .string ⟨#[]⟩, .string ⟨#[]⟩, .string ⟨#[]⟩, .string ⟨#[]⟩, .string ⟨#[]⟩, .string ⟨#[]⟩, .string ⟨#[]⟩, .string ⟨#[]⟩, .string ⟨#[]⟩, .string ⟨#[]⟩, .string ⟨#[]⟩, .string ⟨#[]⟩, .string ⟨#[]⟩] 123))
    = .ok () ((w.alloc (.cells #[.int .i64 0, .string ⟨#[]⟩] 27)).alloc (.cells nmA 123)) := by
  have := run_storeCells_new (P := Tryz.prog) (w.alloc (.cells #[.int .i64 0, .string ⟨#[]⟩] 27)) 123 #[.string ⟨#[]⟩, .string ⟨#[]⟩, .string ⟨#[]⟩, .string ⟨#[]⟩, .string ⟨#[]⟩, .string ⟨#[]⟩, .string ⟨#[]⟩, .string ⟨#[]⟩, .string ⟨#[]⟩, .string ⟨#[]⟩, .string ⟨#[]⟩, .string ⟨#[]⟩, .string ⟨#[]⟩, .string ⟨#[]⟩, .string ⟨#[]⟩, .string ⟨#[]⟩, .string ⟨#[]⟩, .string ⟨#[]⟩, .string ⟨#[]⟩, .string ⟨#[]⟩, .string ⟨#[]⟩, .string ⟨#[]⟩, .string ⟨#[]⟩, .string ⟨#[]⟩, .string ⟨#[]⟩, .string ⟨#[]⟩, .string ⟨#[]⟩] nmA (by kernel_rfl) (by decide) (by kernel_rfl)
  rw [World.size_alloc] at this
  exact this

set_option maxHeartbeats 1000000 in
theorem impl_opName_in (k : Nat) (h1 : 1 ≤ k) (h2 : k ≤ 26) (w : World) :
    Calls Tryz.prog 68 #[.int .i64 k] w fun e w' => e = .returned (.agg #[.int .i64 0, .string (nm k)]) ∧ Below w.heap.size w w' := by
  have hk := nm_at k (by omega)
  have i1 : (1 : Int) ≤ (k : Int) := by omega
  have i2 : (k : Int) ≤ 26 := by omega
  have hs := nm_store w
  have hz := nm_size
  go_enter Tryz.func68, Tryz.ntmps68
  go_upto_region 3 with go_in
  go_step
  go_step
  go_step
  rw [nm_lit]
  go_wp2
  exact bodyPost_ret (v := .agg #[.int .i64 0, .string (nm k)]) (by simp [results, Tryz.results68, go_sem]) rfl ⟨rfl, al (al (Below.refl _ _) _) _⟩

theorem spec_names (w : World) : Calls Tryz.prog 63 #[] w fun e w' => e = .returned (.slice (some ⟨w.heap.size, 0, none⟩) 27 27) ∧ Below w.heap.size w w' ∧ ∀ k, k < 27 → w'.cell? ⟨w.heap.size, k, none⟩ = some (.string (nm k)) := by
  go_enter Tryz.func63, Tryz.ntmps63
  go_wp2
  go_ret
  rw [nm_lit]
  exact ⟨rfl, al (Below.refl _ _) _, fun k hk => cell_new (nm_at k hk)⟩

end Go.Proofs.YtdmlejfopmimfaaGreatDoor
