/- Texts of this seat, joined. -/
import Derived.Test.YtpjaiebdpgggkaaGreatDoorQ34
namespace Go.Proofs.YtpjaiebdpgggkaaGreatDoor
open Go.RowKit
set_option linter.unusedVariables false

theorem mcr_store (H : Ht) (xa : Option Addr) (xn xk : Nat) (ya : Option Addr) (yn yk : Nat) (la : Option Addr) (ln lk : Nat) (pa : Option Addr) (pn pk : Nat) (ca ri : Int) (w : World) : (storeCells ⟨w.heap.size, 0, none⟩ (mcr H (.slice xa xn xk) (.slice ya yn yk) (.slice la ln lk) (.slice pa pn pk) ca ri).toList 0).run Tryz.prog (w.alloc (.cells #[.int .i64 0, .int .i64 0, .int .i64 0, .int .i64 0, .int .i64 0, .int .i64 0, .int .i64 0, .int .i64 0, .int .i64 0, .int .i64 0, .int .i64 0, .int .i64 0, .int .i64 0, .int .i64 0, .int .i64 0, .int .i64 0, .int .i64 0, .int .i64 0, .int .i64 0, .int .i64 0, .int .i64 0, .int .i64 0, .int .i64 0, .int .i64 0, .int .i64 0, .int .i64 0, .int .i64 0, .int .i64 0, .bool false, .bool false, .bool false, .int .i64 0, .slice none 0 0, .slice none 0 0, .slice none 0 0, .slice none 0 0, .int .i64 0, .int .i64 0] 70)) = .ok () (w.alloc (.cells (mcr H (.slice xa xn xk) (.slice ya yn yk) (.slice la ln lk) (.slice pa pn pk) ca ri) 70)) :=
  run_storeCells_new (P := Tryz.prog) w 70 #[.int .i64 0, .int .i64 0, .int .i64 0, .int .i64 0, .int .i64 0, .int .i64 0, .int .i64 0, .int .i64 0, .int .i64 0, .int .i64 0, .int .i64 0, .int .i64 0, .int .i64 0, .int .i64 0, .int .i64 0, .int .i64 0, .int .i64 0, .int .i64 0, .int .i64 0, .int .i64 0, .int .i64 0, .int .i64 0, .int .i64 0, .int .i64 0, .int .i64 0, .int .i64 0, .int .i64 0, .int .i64 0, .bool false, .bool false, .bool false, .int .i64 0, .slice none 0 0, .slice none 0 0, .slice none 0 0, .slice none 0 0, .int .i64 0, .int .i64 0] (mcr H (.slice xa xn xk) (.slice ya yn yk) (.slice la ln lk) (.slice pa pn pk) ca ri) (by kernel_rfl) rfl (mcr_one H (.slice xa xn xk) (.slice ya yn yk) (.slice la ln lk) (.slice pa pn pk) ca ri rfl rfl rfl rfl)
theorem Pags.mono {w : World} {base base' : Nat} {v : Value} {n : Nat} {zs : List Int} (h : Pags w base v n zs) (hb : base' ≤ base) : Pags w base' v n zs := by
  obtain ⟨h1, h2 | ⟨g, cap, cur, hv, hg, rest⟩⟩ := h
  · exact ⟨h1, .inl h2⟩
  · exact ⟨h1, .inr ⟨g, cap, cur, hv, Nat.le_trans hb hg, rest⟩⟩
end Go.Proofs.YtpjaiebdpgggkaaGreatDoor
