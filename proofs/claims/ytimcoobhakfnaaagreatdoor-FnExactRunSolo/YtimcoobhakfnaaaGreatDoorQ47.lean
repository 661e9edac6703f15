/- Texts of this seat, joined. -/
import Derived.Test.YtimcoobhakfnaaaGreatDoorQ17
import Derived.Test.YtimcoobhakfnaaaGreatDoorQ24
import Derived.Test.YtimcoobhakfnaaaGreatDoorQ34
import Derived.Test.YtimcoobhakfnaaaGreatDoorQ45
namespace Go.Proofs.YtimcoobhakfnaaaGreatDoor
open Go.RowKit
set_option linter.unusedVariables false

set_option maxRecDepth 20000 in
set_option maxHeartbeats 8000000 in
theorem z_fall {w : World} {B : Bp} {i o : Value} {zs : List Int} {H : Ht} {ri fa : Int} (R : Bs w B i o zs H ri fa) (K : Hok H) (k x : Int) :
    Calls Tryz.prog 40 #[.pointer (some ⟨B.q, 0, none⟩), .int .i64 k, .int .i64 x] w fun e w' => e = .returned (.tuple #[]) ∧ Bs w' B i o zs (trapV H k x) ri k ∧ Below B.base w w' := by
  have HR : Hid (Bs w B i o zs H ri fa) := R
  have HK : Hid (Hok H) := K
  clear R K
  go_enter Tryz.func40, Tryz.ntmps40
  go_wp2_with fail
  refine (z_trap HR.out HK.out k x).mono ?_
  rintro e w1 ⟨rfl, s1, t1⟩
  have S1 : Hid (Bs w1 B i o zs (trapV H k x) ri fa ∧ Below B.base w w1) := ⟨s1, t1⟩
  clear s1 t1
  have c12 : w1.cell? ⟨B.q, 12, none⟩ = some (.int .i64 fa) := S1.out.1.v.cell 12 rfl
  have f12 := S1.out.1.v.free 12
  go_wp2_with fail
  go_end0
  have U := S1.out.1.fld (G := trapV H k x) (ri' := ri) (fa' := k) 12 (.int .i64 k) rfl rfl rfl rfl rfl
  exact ⟨rfl, U.1, S1.out.2.trans U.2⟩
set_option maxRecDepth 20000 in
set_option maxHeartbeats 8000000 in
theorem z_put {w : World} {B : Bp} {i o : Value} {zs : List Int} {H : Ht} {ri fa : Int} (R : Bs w B i o zs H ri fa) (d : Nat) (hd : d < 16) (x : Int) :
    Calls Tryz.prog 67 #[.pointer (some ⟨B.q, 0, none⟩), .int .i64 (d : Int), .int .i64 x] w fun e w' => e = .returned (.tuple #[]) ∧ (Bs w' B i o zs (putV H d x) ri fa ∧ Below B.base w w') ∧ Mq (fun j => j = B.rg) w w' := by
  have HR : Hid (Bs w B i o zs H ri fa) := R
  have c3 : w.cell? ⟨B.q, 3, none⟩ = some (.slice (some ⟨B.rg, 0, none⟩) 16 B.rk) := R.v.cell 3 rfl
  have cd : w.cell? ⟨B.rg, d, none⟩ = some (.int .i64 (gt H.regs d)) := R.hr.cell R.hr.len d hd
  have fd : w.frozen? ⟨B.rg, d, none⟩ = false := R.hr.free R.hr.len d
  have hdI : (d : Int) < 16 := by omega
  clear R
  by_cases hz : d = 0
  · have E : Hid (putV H (d : Int) x = H) := by show _ = _; simp [putV, hz]
    have hzI : (d : Int) = 0 := by omega
    go_enter Tryz.func67, Tryz.ntmps67
    go_wp2_with fail
    go_end0
    exact ⟨rfl, ⟨by rw [E.out]; exact HR.out, Below.refl _ _⟩, Mq.refl _ _⟩
  · have hzI : ¬ (d : Int) = 0 := by omega
    have E : Hid (putV H (d : Int) x = { H with regs := H.regs.set d x }) := by show _ = _; simp [putV, hz]
    go_enter Tryz.func67, Tryz.ntmps67
    go_wp2_with fail
    go_end0
    exact ⟨rfl, ⟨by rw [E.out]; exact (HR.out.reg d x).1, (HR.out.reg d x).2⟩, (Mq.refl _ _).set ⟨B.rg, d, none⟩ _ rfl⟩
theorem z_space {w : World} {B : Bp} {i o : Value} {zs : List Int} {H : Ht} {ri fa : Int} (R : Bs w B i o zs H ri fa) (sn : Sn H B.ps zs B.p) (x k : Int) (hk : kindB k = true) :
    Calls Tryz.prog 42 #[.pointer (some ⟨B.q, 0, none⟩), .int .i64 x, .int .i64 k] w fun e w' => e = .returned (.tuple #[.int .i64 (plV H B.ps zs x k), .int .i64 (plC H B.ps zs x k)]) ∧ Below w.heap.size w w' :=
  s_place B.q _ _ i o H B.pg B.pc B.ps B.gm B.p B.mc zs ri fa 0 w R.v (R.hc.mono (Nat.zero_le _)) R.ls (R.hm.mono (Nat.zero_le _)) sn x k hk
theorem wrap16_two (a : Int) : IntKind.i16.wrap (IntKind.u16.wrap a) = IntKind.i16.wrap a := by simp [IntKind.wrap, IntKind.bits, IntKind.signed]
theorem z_off (im : Int) (w : World) : Calls Tryz.prog 66 #[.int .i64 im] w fun e w' => e = .returned (.int .i64 (offV im)) ∧ w' = w := by
  have h := wrap16_two im
  go_enter Tryz.func66, Tryz.ntmps66
  go_wp2
  all_goals go_ret
  all_goals exact ⟨rfl, rfl⟩
def tkV (H : Ht) (op : Int) (d a : Nat) : Bool := if op = 16 then gt H.regs d == gt H.regs a else if op = 17 then gt H.regs d != gt H.regs a else decide (sgn (gt H.regs d) < sgn (gt H.regs a))
set_option maxRecDepth 20000 in
set_option maxHeartbeats 8000000 in
theorem z_taken {w : World} {B : Bp} {i o : Value} {zs : List Int} {H : Ht} {ri fa : Int} (R : Bs w B i o zs H ri fa) (op : Int) (d a : Nat) (hd : d < 16) (ha : a < 16) (im : Int) (ho : op = 16 ∨ op = 17 ∨ op = 18) :
    Calls Tryz.prog 69 #[.pointer (some ⟨B.q, 3, none⟩), .agg #[.int .i64 op, .int .i64 (d : Int), .int .i64 (a : Int), .int .i64 im]] w fun e w' => e = .returned (.bool (tkV H op d a)) ∧ Below w.heap.size w w' := by
  have c3 : w.cell? ⟨B.q, 3, none⟩ = some (.slice (some ⟨B.rg, 0, none⟩) 16 B.rk) := R.v.cell 3 rfl
  have cd : w.cell? ⟨B.rg, d, none⟩ = some (.int .i64 (gt H.regs d)) := R.hr.cell R.hr.len d hd
  have ca : w.cell? ⟨B.rg, a, none⟩ = some (.int .i64 (gt H.regs a)) := R.hr.cell R.hr.len a ha
  have hdI : (d : Int) < 16 := by omega
  have haI : (a : Int) < 16 := by omega
  obtain ⟨x, hx⟩ : ∃ x, gt H.regs d = x := ⟨_, rfl⟩
  obtain ⟨y, hy⟩ : ∃ y, gt H.regs a = y := ⟨_, rfl⟩
  have HX : Hid (gt H.regs d = x ∧ gt H.regs a = y) := ⟨hx, hy⟩
  rw [hx] at cd
  rw [hy] at ca
  clear R hx hy
  have HT : Hid (tkV H op d a = if op = 16 then x == y else if op = 17 then x != y else decide (sgn x < sgn y)) := by show _ = _; unfold tkV; rw [HX.out.1, HX.out.2]
  generalize hW : w.alloc (.cells #[.int .i64 op, .int .i64 (d : Int), .int .i64 (a : Int), .int .i64 im] 76) = W
  have B0 : Hid (Below w.heap.size w W) := by show Below _ _ _; rw [← hW]; exact al (Below.refl _ _) _
  obtain ⟨n, hn⟩ : ∃ n, w.heap.size = n := ⟨_, rfl⟩
  have VN : Hid (Vb W n #[.int .i64 op, .int .i64 (d : Int), .int .i64 (a : Int), .int .i64 im] 76) := by show Vb _ _ _ _; rw [← hW, ← hn]; exact Vb.new _ _ _
  have c3 := cell_keep B0.out c3
  have cd := cell_keep B0.out cd
  have ca := cell_keep B0.out ca
  have n0 : W.cell? ⟨n, 0, none⟩ = some (.int .i64 op) := VN.out.cell 0 rfl
  have n1 : W.cell? ⟨n, 1, none⟩ = some (.int .i64 (d : Int)) := VN.out.cell 1 rfl
  have n2 : W.cell? ⟨n, 2, none⟩ = some (.int .i64 (a : Int)) := VN.out.cell 2 rfl
  rcases ho with rfl | rfl | rfl
  · go_enter Tryz.func69, Tryz.ntmps69
    go_upto_region 1 with fail
    clear hW hn
    go_quiet (fail)
    go_wp2_with fail
    go_quiet (fail)
    go_wp2_with fail
    go_ret
    exact ⟨by rw [HT.out]; rfl, by first | exact dr B0.out _ | exact dr (dr B0.out _) _⟩
  · go_enter Tryz.func69, Tryz.ntmps69
    go_upto_region 1 with fail
    clear hW hn
    go_quiet (fail)
    go_wp2_with fail
    go_quiet (fail)
    go_wp2_with fail
    go_ret
    exact ⟨by rw [HT.out]; rfl, by first | exact dr B0.out _ | exact dr (dr B0.out _) _⟩
  · go_enter Tryz.func69, Tryz.ntmps69
    go_upto_region 1 with fail
    clear hW hn
    go_quiet (fail)
    go_wp2_with fail
    go_quiet (fail)
    go_wp2_with (go_at_call 94; refine (spec_signed _ _).mono ?_; rintro e u ⟨rfl, hu⟩; rw [hu]; clear hu u)
    go_ret
    exact ⟨by rw [HT.out]; rfl, by first | exact dr B0.out _ | exact dr (dr B0.out _) _⟩
end Go.Proofs.YtimcoobhakfnaaaGreatDoor
