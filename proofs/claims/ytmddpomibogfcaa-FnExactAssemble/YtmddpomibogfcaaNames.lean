/- Chapter 2's names of ops, of the program and of the model. -/
import Derived.Test.YtmddpomibogfcaaIsb
import Derived.Test.YtmddpomibogfcaaCells
import Derived.Deep.WholeRow
import Derived.Deep.Cut
namespace Go.Proofs.Ytmddpomibogfcaa
open Go.RowKit

/-- The names, in order. -/
def nms : List ByteArray := [⟨#[]⟩, ⟨#[97, 100, 100]⟩, ⟨#[115, 117, 98]⟩, ⟨#[109, 117, 108]⟩, ⟨#[100, 105, 118]⟩, ⟨#[114, 101, 109]⟩, ⟨#[97, 110, 100]⟩, ⟨#[111, 114]⟩, ⟨#[120, 111, 114]⟩, ⟨#[108, 101, 102, 116]⟩, ⟨#[114, 105, 103, 104, 116]⟩, ⟨#[108, 101, 115, 115]⟩, ⟨#[97, 100, 100, 105]⟩, ⟨#[104, 105, 103, 104]⟩, ⟨#[108, 111, 97, 100]⟩, ⟨#[115, 116, 111, 114, 101]⟩, ⟨#[101, 113]⟩, ⟨#[110, 101]⟩, ⟨#[108, 116]⟩, ⟨#[106, 117, 109, 112]⟩, ⟨#[106, 117, 109, 112, 114]⟩, ⟨#[103, 101, 116]⟩, ⟨#[115, 101, 116]⟩, ⟨#[99, 97, 108, 108]⟩, ⟨#[98, 97, 99, 107]⟩, ⟨#[119, 97, 105, 116]⟩, ⟨#[104, 97, 108, 116]⟩]
def nm (k : Nat) : ByteArray := nms.getD k ⟨#[]⟩
/-- The table of names, as it lies in memory. -/
def nmA : Array Value := #[.string ⟨#[]⟩, .string ⟨#[97, 100, 100]⟩, .string ⟨#[115, 117, 98]⟩, .string ⟨#[109, 117, 108]⟩, .string ⟨#[100, 105, 118]⟩, .string ⟨#[114, 101, 109]⟩, .string ⟨#[97, 110, 100]⟩, .string ⟨#[111, 114]⟩, .string ⟨#[120, 111, 114]⟩, .string ⟨#[108, 101, 102, 116]⟩, .string ⟨#[114, 105, 103, 104, 116]⟩, .string ⟨#[108, 101, 115, 115]⟩, .string ⟨#[97, 100, 100, 105]⟩, .string ⟨#[104, 105, 103, 104]⟩, .string ⟨#[108, 111, 97, 100]⟩, .string ⟨#[115, 116, 111, 114, 101]⟩, .string ⟨#[101, 113]⟩, .string ⟨#[110, 101]⟩, .string ⟨#[108, 116]⟩, .string ⟨#[106, 117, 109, 112]⟩, .string ⟨#[106, 117, 109, 112, 114]⟩, .string ⟨#[103, 101, 116]⟩, .string ⟨#[115, 101, 116]⟩, .string ⟨#[99, 97, 108, 108]⟩, .string ⟨#[98, 97, 99, 107]⟩, .string ⟨#[119, 97, 105, 116]⟩, .string ⟨#[104, 97, 108, 116]⟩]
theorem nm_at (k : Nat) (h : k < 27) : nmA[k]? = some (.string (nm k)) := by
  match k, h with
  | 0, _ => rfl
  | 1, _ => rfl
  | 2, _ => rfl
  | 3, _ => rfl
  | 4, _ => rfl
  | 5, _ => rfl
  | 6, _ => rfl
  | 7, _ => rfl
  | 8, _ => rfl
  | 9, _ => rfl
  | 10, _ => rfl
  | 11, _ => rfl
  | 12, _ => rfl
  | 13, _ => rfl
  | 14, _ => rfl
  | 15, _ => rfl
  | 16, _ => rfl
  | 17, _ => rfl
  | 18, _ => rfl
  | 19, _ => rfl
  | 20, _ => rfl
  | 21, _ => rfl
  | 22, _ => rfl
  | 23, _ => rfl
  | 24, _ => rfl
  | 25, _ => rfl
  | 26, _ => rfl
  | k + 27, h => exact absurd h (by omega)

theorem nm_lit : (#[.string ⟨#[]⟩, .string ⟨#[97, 100, 100]⟩, .string ⟨#[115, 117, 98]⟩, .string ⟨#[109, 117, 108]⟩, .string ⟨#[100, 105, 118]⟩, .string ⟨#[114, 101, 109]⟩, .string ⟨#[97, 110, 100]⟩, .string ⟨#[111, 114]⟩, .string ⟨#[120, 111, 114]⟩, .string ⟨#[108, 101, 102, 116]⟩, .string ⟨#[114, 105, 103, 104, 116]⟩, .string ⟨#[108, 101, 115, 115]⟩, .string ⟨#[97, 100, 100, 105]⟩, .string ⟨#[104, 105, 103, 104]⟩, .string ⟨#[108, 111, 97, 100]⟩, .string ⟨#[115, 116, 111, 114, 101]⟩, .string ⟨#[101, 113]⟩, .string ⟨#[110, 101]⟩, .string ⟨#[108, 116]⟩, .string ⟨#[106, 117, 109, 112]⟩, .string ⟨#[106, 117, 109, 112, 114]⟩, .string ⟨#[103, 101, 116]⟩, .string ⟨#[115, 101, 116]⟩, .string ⟨#[99, 97, 108, 108]⟩, .string ⟨#[98, 97, 99, 107]⟩, .string ⟨#[119, 97, 105, 116]⟩, .string ⟨#[104, 97, 108, 116]⟩] : Array Value) = nmA := rfl
theorem nm_size : nmA.size = 27 := rfl
theorem nm_store (w : World) : (storeCells ⟨w.heap.size + 1, 0, none⟩ nmA.toList 0).run Try.prog ((w.alloc (.cells #[.int .i64 0, .string ⟨#[]⟩] 76)).alloc (.cells #[.string ⟨#[]⟩, .string ⟨#[]⟩, .string ⟨#[]⟩, .string ⟨#[]⟩, .string ⟨#[]⟩, .string ⟨#[]⟩, .string ⟨#[]⟩, .string ⟨#[]⟩, .string ⟨#[]⟩, .string ⟨#[]⟩, .string ⟨#[]⟩, .string ⟨#[]⟩, .string ⟨#[]⟩, .string ⟨#[]⟩, .string ⟨#[]⟩, .string ⟨#[]⟩, .string ⟨#[]⟩, .string ⟨#[]⟩, .string ⟨#[]⟩, .string ⟨#[]⟩, .string ⟨#[]⟩, .string ⟨#[]⟩, .string ⟨#[]⟩, .string ⟨#[]⟩, .string ⟨#[]⟩, .string ⟨#[]⟩, .string ⟨#[]⟩] 87))
    = .ok () ((w.alloc (.cells #[.int .i64 0, .string ⟨#[]⟩] 76)).alloc (.cells nmA 87)) := by
  have := run_storeCells_new (P := Try.prog) (w.alloc (.cells #[.int .i64 0, .string ⟨#[]⟩] 76)) 87 #[.string ⟨#[]⟩, .string ⟨#[]⟩, .string ⟨#[]⟩, .string ⟨#[]⟩, .string ⟨#[]⟩, .string ⟨#[]⟩, .string ⟨#[]⟩, .string ⟨#[]⟩, .string ⟨#[]⟩, .string ⟨#[]⟩, .string ⟨#[]⟩, .string ⟨#[]⟩, .string ⟨#[]⟩, .string ⟨#[]⟩, .string ⟨#[]⟩, .string ⟨#[]⟩, .string ⟨#[]⟩, .string ⟨#[]⟩, .string ⟨#[]⟩, .string ⟨#[]⟩, .string ⟨#[]⟩, .string ⟨#[]⟩, .string ⟨#[]⟩, .string ⟨#[]⟩, .string ⟨#[]⟩, .string ⟨#[]⟩, .string ⟨#[]⟩] nmA (by kernel_rfl) (by decide) (by kernel_rfl)
  rw [World.size_alloc] at this
  exact this

set_option maxHeartbeats 1000000 in
theorem impl_opName_in (k : Nat) (h1 : 1 ≤ k) (h2 : k ≤ 26) (w : World) :
    Calls Try.prog 44 #[.int .i64 k] w fun e w' => e = .returned (.agg #[.int .i64 0, .string (nm k)]) ∧ Below w.heap.size w w' := by
  have hk := nm_at k (by omega)
  have i1 : (1 : Int) ≤ (k : Int) := by omega
  have i2 : (k : Int) ≤ 26 := by omega
  have hs := nm_store w
  have hz := nm_size
  go_enter Try.func44, Try.ntmps44
  go_upto_region 3 with go_in
  go_step
  go_step
  go_step
  rw [nm_lit]
  go_wp2
  exact bodyPost_ret (v := .agg #[.int .i64 0, .string (nm k)]) (by simp [results, Try.results44, go_sem]) rfl ⟨rfl, al (al (Below.refl _ _) _) _⟩

/-- What OpName answers. -/
def opnV (op : Int) : Value := if 1 ≤ op ∧ op ≤ 26 then .agg #[.int .i64 0, .string (nm op.toNat)] else .agg #[.int .i64 3, .string ⟨#[]⟩]
theorem impl_opName (op : Int) (w : World) :
    Calls Try.prog 44 #[.int .i64 op] w fun e w' => e = .returned (opnV op) ∧ Below w.heap.size w w' := by
  by_cases h : 1 ≤ op ∧ op ≤ 26
  · obtain ⟨k, rfl⟩ : ∃ k : Nat, op = k := ⟨op.toNat, by omega⟩
    rw [opnV, if_pos h, Int.toNat_natCast]
    exact impl_opName_in k (by omega) (by omega) w
  · rw [opnV, if_neg h]
    have h' : op < 1 ∨ 1 ≤ op ∧ 26 < op := by omega
    clear h
    have hd : decide (1 ≤ op) = false ∨ 1 ≤ op ∧ decide (op ≤ 26) = false := by
      rcases h' with h | h
      · exact .inl (decide_eq_false (by omega))
      · exact .inr ⟨h.1, decide_eq_false (by omega)⟩
    clear h'
    rcases hd with h | ⟨h1, h2⟩
    all_goals
      go_enter Try.func44, Try.ntmps44
      go_wp2
      exact bodyPost_ret (v := .agg #[.int .i64 3, .string ⟨#[]⟩]) (by simp [results, Try.results44, go_sem]) rfl ⟨rfl, al (Below.refl _ _) _⟩

theorem spec_names (w : World) : Calls Try.prog 38 #[] w fun e w' => e = .returned (.slice (some ⟨w.heap.size, 0, none⟩) 27 27) ∧ Below w.heap.size w w' ∧ ∀ k, k < 27 → w'.cell? ⟨w.heap.size, k, none⟩ = some (.string (nm k)) := by
  go_enter Try.func38, Try.ntmps38
  go_wp2
  go_ret
  rw [nm_lit]
  exact ⟨rfl, al (Below.refl _ _) _, fun k hk => cell_new (nm_at k hk)⟩

end Go.Proofs.Ytmddpomibogfcaa
