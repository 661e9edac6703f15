/- Texts of this seat, joined. -/
import Derived.Deep.QuietTactic
import Derived.BigQuiet
import Derived.Test.YtdhdfopkcpkbeaaGreatDoorQ01
namespace Go.Proofs.YtdhdfopkcpkbeaaGreatDoor
open Go.RowKit

/-- Of all blocks that were there, only block b may have turned. -/
structure Turn (b : Nat) (w w' : World) : Prop where
  os : w'.os = w.os
  tape : w'.tape = w.tape
  output : w'.output = w.output
  size : w.heap.size ≤ w'.heap.size
  block : ∀ k, k < w.heap.size → k ≠ b → w'.heap[k]? = w.heap[k]?

theorem Turn.refl (b : Nat) (w : World) : Turn b w w := ⟨rfl, rfl, rfl, Nat.le_refl _, fun _ _ _ => rfl⟩
theorem Turn.trans {b : Nat} {x y z : World} (h : Turn b x y) (k : Turn b y z) : Turn b x z :=
  ⟨k.os.trans h.os, k.tape.trans h.tape, k.output.trans h.output, Nat.le_trans h.size k.size, fun i hi hb => (k.block i (Nat.lt_of_lt_of_le hi h.size) hb).trans (h.block i hi hb)⟩
theorem Turn.below {b B : Nat} {w w' : World} (h : Turn b w w') (h1 : B ≤ b) (h2 : B ≤ w.heap.size) : Below B w w' :=
  ⟨h.os, h.tape, h.output, h.size, fun k hk => h.block k (by omega) (by omega)⟩
theorem Turn.of_below {b : Nat} {w w' : World} (h : Below w.heap.size w w') : Turn b w w' :=
  ⟨h.os, h.tape, h.output, h.size, fun k hk _ => h.block k hk⟩
theorem Turn.alloc (b : Nat) (w : World) (o : Obj) : Turn b w (w.alloc o) := Turn.of_below ((Below.refl _ _).alloc (Nat.le_refl _) o)
theorem Turn.set (b o : Nat) (w : World) (v : Value) (nq : Nat) : Turn b w ((w.setCell ⟨b, o, none⟩ v).drewN nq) :=
  ⟨rfl, rfl, rfl, by simp [World.setCell, World.drewN], fun k _ hk => Below.heap_setCell w ⟨b, o, none⟩ v k hk⟩
theorem Turn.cell {b : Nat} {w w' : World} (h : Turn b w w') {p : Addr} (hp : p.block < w.heap.size) (hb : p.block ≠ b) : w'.cell? p = w.cell? p :=
  World.cell?_of_block (w := w) (h.block p.block hp hb)
theorem Turn.frozen {b : Nat} {w w' : World} (h : Turn b w w') {p : Addr} (hp : p.block < w.heap.size) (hb : p.block ≠ b) : w'.frozen? p = w.frozen? p :=
  World.frozen?_of_block (w := w) (h.block p.block hp hb)

theorem tmod_in {x n : Int} (hx : 0 ≤ x) (hn : 1 ≤ n) : 0 ≤ x.tmod n ∧ x.tmod n < n := by
  rw [Int.tmod_eq_emod_of_nonneg hx]
  exact ⟨Int.emod_nonneg _ (by omega), Int.emod_lt_of_pos _ (by omega)⟩
theorem wrap64_id {n : Int} (h : -9223372036854775808 ≤ n ∧ n ≤ 9223372036854775807) : wrap64 n = n := by unfold wrap64; omega
theorem quot_in {k len : Int} (hk : 0 ≤ k ∧ k ≤ 100000) (hl : 1 ≤ len) : 0 ≤ k / len ∧ k / len ≤ 100000 :=
  ⟨Int.ediv_nonneg hk.1 (by omega), Int.le_trans (Int.ediv_le_self _ hk.1) hk.2⟩
theorem next_val {z k len : Int} (hz : 0 ≤ z ∧ z ≤ 255) (hk : 0 ≤ k ∧ k ≤ 100000) (hl : 1 ≤ len) :
    0 ≤ wrap64 (wrap64 z + wrap64 (wrap64 (k / len) * 37)) ∧ wrap64 (wrap64 z + wrap64 (wrap64 (k / len) * 37)) ≤ 3700255 := by
  have h := quot_in hk hl
  generalize k / len = q at h
  rw [wrap64_id (n := z) (by omega), wrap64_id (n := q) (by omega), wrap64_id (n := q * 37) (by omega), wrap64_id (by omega)]
  omega
theorem next_val2 {v z k : Int} (hv : 0 ≤ v ∧ v ≤ 3700255) (hz : 0 ≤ z ∧ z ≤ 255) (hk : 0 ≤ k ∧ k ≤ 100000) :
    0 ≤ wrap64 (wrap64 (wrap64 (v * 251) + wrap64 (wrap64 z * 13)) + k) := by
  rw [wrap64_id (n := z) (by omega), wrap64_id (n := v * 251) (by omega), wrap64_id (n := z * 13) (by omega), wrap64_id (n := v * 251 + z * 13) (by omega), wrap64_id (by omega)]
  omega

/-- A number below 1 is asked for. -/
theorem next_none (b : Nat) (k : Nat) (n : Int) (w : World) (hk : k ≤ 100000) (hn : n < 1)
    (h1 : w.cell? ⟨b, 1, none⟩ = some (.int .i64 k)) (hfz : w.frozen? ⟨b, 1, none⟩ = false) :
    Calls Tryz.prog 18 #[.pointer (some ⟨b, 0, none⟩), .int .i64 n] w fun e w' => ∃ v : Int, e = .returned (.int .i64 v) ∧ v = 0 ∧ ∃ nq : Nat, w' = (w.setCell ⟨b, 1, none⟩ (.int .i64 (k + 1))).drewN nq := by
  go_enter Tryz.func18, Tryz.ntmps18
  go_wp2
  go_ret
  exact ⟨0, rfl, rfl, 0, rfl⟩

/-- There are no bytes. -/
theorem next_nil (b : Nat) (a : Option Addr) (cap : Nat) (k : Nat) (n : Int) (w : World) (hk : k ≤ 100000) (hn : 1 ≤ n)
    (h0 : w.cell? ⟨b, 0, none⟩ = some (.slice a 0 cap))
    (h1 : w.cell? ⟨b, 1, none⟩ = some (.int .i64 k)) (hfz : w.frozen? ⟨b, 1, none⟩ = false) :
    Calls Tryz.prog 18 #[.pointer (some ⟨b, 0, none⟩), .int .i64 n] w fun e w' => ∃ v : Int, e = .returned (.int .i64 v) ∧ (0 ≤ v ∧ v < n) ∧ ∃ nq : Nat, w' = (w.setCell ⟨b, 1, none⟩ (.int .i64 (k + 1))).drewN nq := by
  have g1 : ¬ n < 1 := by omega
  have g2 : ¬ n = 0 := by omega
  go_enter Tryz.func18, Tryz.ntmps18
  go_wp2
  go_ret
  exact ⟨_, rfl, ⟨Int.emod_nonneg _ (by omega), Int.emod_lt_of_pos _ (by omega)⟩, 0, rfl⟩

set_option maxHeartbeats 400000 in
theorem next_row (b bx off len cap : Nat) (k : Nat) (n : Int) (w : World) (zs : List Int)
    (hk : k ≤ 100000) (hn : 1 ≤ n) (hl : 0 < len) (hl2 : len ≤ maxLen)
    (hb : bx < b)
    (h0 : w.cell? ⟨b, 0, none⟩ = some (.slice (some ⟨bx, off, none⟩) len cap))
    (h1 : w.cell? ⟨b, 1, none⟩ = some (.int .i64 k))
    (hfz : w.frozen? ⟨b, 1, none⟩ = false)
    (hc : ∀ i, i < len → w.cell? ⟨bx, off + i, none⟩ = some (.int .u8 (zs.getD i 0)))
    (hz : ∀ i : Nat, 0 ≤ zs[i]?.getD 0 ∧ zs[i]?.getD 0 ≤ 255) :
    Calls Tryz.prog 18 #[.pointer (some ⟨b, 0, none⟩), .int .i64 n] w fun e w' => ∃ v : Int, e = .returned (.int .i64 v) ∧ (0 ≤ v ∧ v < n) ∧ ∃ nq : Nat, w' = (w.setCell ⟨b, 1, none⟩ (.int .i64 (k + 1))).drewN nq := by
  unfold maxLen at hl2
  have hl3 : (0 : Int) < (len : Int) := by omega
  have hne : ((len : Int) == 0) = false := by simp; omega
  have g1 : ¬ n < 1 := by omega
  have e1 : (0 : Int) ≤ (k : Int) % (len : Int) := Int.emod_nonneg _ (by omega)
  have e2 : (k : Int) % (len : Int) < (len : Int) := Int.emod_lt_of_pos _ hl3
  have e3 : (0 : Int) ≤ ((k : Int) + 1) % (len : Int) := Int.emod_nonneg _ (by omega)
  have e4 : ((k : Int) + 1) % (len : Int) < (len : Int) := Int.emod_lt_of_pos _ hl3
  have hcx := hc (k % len) (Nat.mod_lt _ hl)
  have hcy := hc ((k + 1) % len) (Nat.mod_lt _ hl)
  have HZ : Hid (∀ i : Nat, 0 ≤ zs[i]?.getD 0 ∧ zs[i]?.getD 0 ≤ 255) := hz
  clear hz hc
  by_cases g2 : n ≤ 200
  · have g3 : ¬ 200 < n := by omega
    go_enter Tryz.func18, Tryz.ntmps18
    go_wp2_with fail
    go_quiet (fail)
    go_wp2
    go_ret
    exact ⟨_, rfl, tmod_in (next_val (HZ.out _) (by omega) (by omega)).1 hn, _, rfl⟩
  · have g3 : 200 < n := by omega
    go_enter Tryz.func18, Tryz.ntmps18
    go_wp2_with fail
    go_quiet (fail)
    go_wp2_with fail
    go_quiet (fail)
    go_wp2
    go_ret
    exact ⟨_, rfl, tmod_in (next_val2 (next_val (HZ.out _) (by omega) (by omega)) (HZ.out _) (by omega)) hn, _, rfl⟩
end Go.Proofs.YtdhdfopkcpkbeaaGreatDoor
