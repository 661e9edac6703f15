/- Strangers to a guest, by the program. -/
import Derived.Test.YtnhebeehpkecfaaGreatDoorVva
import Derived.Test.YtnhebeehpkecfaaGreatDoorRci
import Derived.Test.YtnhebeehpkecfaaGreatDoorHnm
import Derived.Deep.RegionWith
import Derived.Deep.RegionHeld3
import Derived.Deep.Cut
import Derived.Deep.CutRange
namespace Go.Proofs.YtnhebeehpkecfaaGreatDoor
open Go.RowKit
set_option linter.unusedVariables false

set_option maxRecDepth 20000 in
set_option maxHeartbeats 8000000 in
theorem i_strangers (a0 a1 a2 a3 : Option Addr) (n0 c0 n1 c1 n2 c2 n3 c3 : Nat) (P : Plc) (gu : Int) (w : World) (h : Pl w a0 n0 c0 a1 n1 c1 a2 n2 c2 a3 n3 c3 P) (hg : w.cell? ⟨0, 0, none⟩ = some (.iface 158 (.agg #[.pointer (some ⟨1, 103, none⟩)]))) :
    Calls Tryz.prog 15 #[.agg #[.slice a0 n0 c0, .slice a1 n1 c1, .slice a2 n2 c2, .slice a3 n3 c3], .int .i64 gu] w fun e w' => ∃ v, e = .returned (.agg #[.int .i64 (askV P gu), v]) ∧ Nums w' w.heap.size v (strZ P gu) ∧ Below w.heap.size w w' := by
  obtain ⟨Z, hZ⟩ : ∃ Z, strZ P gu = Z := ⟨_, rfl⟩
  rw [hZ]
  have HZ : Hid (strZ P gu = Z) := hZ
  clear hZ
  generalize hW : (w.alloc (.cells #[.slice a0 n0 c0, .slice a1 n1 c1, .slice a2 n2 c2, .slice a3 n3 c3] 37)).alloc (.cells #[.int .i64 0, .slice none 0 0] 31) = W
  have B0 : Hid (Below w.heap.size w W) := by show Below _ _ _; rw [← hW]; exact al (al (Below.refl _ _) _) _
  obtain ⟨s, hS⟩ : ∃ s, w.heap.size = s := ⟨_, rfl⟩
  have HSs : Hid (w.heap.size = s) := hS
  have Q : Hid (Vb W s #[.slice a0 n0 c0, .slice a1 n1 c1, .slice a2 n2 c2, .slice a3 n3 c3] 37) := by show Vb _ _ _ _; rw [← hW, ← hS]; exact (Vb.new _ _ _).push _
  have R : Hid (Vb W (s + 1) #[.int .i64 0, .slice none 0 0] 31) := by
    have z1 : s + 1 = (w.alloc (.cells #[.slice a0 n0 c0, .slice a1 n1 c1, .slice a2 n2 c2, .slice a3 n3 c3] 37)).heap.size := by rw [← hS]; simp
    show Vb _ _ _ _; rw [← hW, z1]; exact Vb.new _ _ _
  have HP : Hid (Pl W a0 n0 c0 a1 n1 c1 a2 n2 c2 a3 n3 c3 P) := h.stay B0.out
  have HA : Hid (PolAt W s P) := ⟨_, _, _, _, _, _, _, _, _, _, _, _, Q.out.cell 0 rfl, Q.out.cell 1 rfl, Q.out.cell 2 rfl, Q.out.cell 3 rfl, HP.out⟩
  have HG : Hid (W.cell? ⟨0, 0, none⟩ = some (.iface 158 (.agg #[.pointer (some ⟨1, 103, none⟩)]))) := cell_keep B0.out hg
  clear h hg
  have q0 := Q.out.cell 0 rfl
  have q1 := Q.out.cell 1 rfl
  have q2 := Q.out.cell 2 rfl
  have q3 := Q.out.cell 3 rfl
  go_enter Tryz.func15, Tryz.ntmps15
  go_wp2_with fail
  clear hW hS
  refine (i_reach _ _ _ _ _ _ _ _ _ _ _ _ P _ _ HP.out HG.out).mono ?_
  rintro e w1 ⟨rv, rfl, rn, b1⟩
  obtain ⟨ra, rc, hrv, _, _, _⟩ := rn.shape
  obtain ⟨rl, hrl⟩ : ∃ rl, (reachZ P gu).length = rl := ⟨_, rfl⟩
  rw [hrl] at hrv
  subst hrv
  obtain ⟨F, hF⟩ : ∃ F, askV P gu = F := ⟨_, rfl⟩
  rw [hF]
  have HF : Hid (askV P gu = F) := hF
  clear hrl q0 q1 q2 q3
  have V1 : Hid (Vb (w1.alloc (.cells #[.int .i64 F, .slice ra rl rc] 31)) w1.heap.size #[.int .i64 F, .slice ra rl rc] 31) := Vb.new _ _ _
  have N1 : Hid (Nums (w1.alloc (.cells #[.int .i64 F, .slice ra rl rc] 31)) W.heap.size (.slice ra rl rc) (reachZ P gu)) := rn.keep (al (Below.refl _ _) _)
  have R1 : Hid (Vb (w1.alloc (.cells #[.int .i64 F, .slice ra rl rc] 31)) (s + 1) #[.int .i64 0, .slice none 0 0] 31) := (R.out.keep b1).push _
  have Q1 : Hid (Vb (w1.alloc (.cells #[.int .i64 F, .slice ra rl rc] 31)) s #[.slice a0 n0 c0, .slice a1 n1 c1, .slice a2 n2 c2, .slice a3 n3 c3] 37) := (Q.out.keep b1).push _
  have B1 : Hid (Below w.heap.size w (w1.alloc (.cells #[.int .i64 F, .slice ra rl rc] 31))) := on B0.out (al b1 _)
  have HLO : Hid (n0 = P.own.length) := HP.out.own.len
  clear b1 rn
  go_upto_region 2 with fail
  generalize (w1.alloc (.cells #[.int .i64 F, .slice ra rl rc] 31)) = W1 at *
  generalize w1.heap.size = s1 at *
  have v0 := V1.out.cell 0 rfl
  have r0 := R1.out.cell 0 rfl
  have r1 := R1.out.cell 1 rfl
  have f0 := R1.out.free 0
  have f1 := R1.out.free 1
  by_cases hz : F = 0
  case neg =>
    have ZV : Z = [] := by rw [← HZ.out, strZ, HF.out, if_neg hz]
    obtain ⟨v, rfl⟩ : ∃ v, v = F := ⟨_, rfl⟩
    go_wp2_with fail
    exact bodyPost_ret (v := .agg #[.int .i64 v, .slice none 0 0]) (by simp [results, Tryz.results15, go_sem, r0, r1]) rfl ⟨.slice none 0 0, by rw [HF.out], by rw [ZV]; exact Nums.nil _ _, (B1.out.setCell (by have := HSs.out; show w.heap.size ≤ s + 1; omega) _).setCell (by have := HSs.out; show w.heap.size ≤ s + 1; omega) _⟩
  subst hz
  have AZ : Hid (askV P gu = 0) := hF
  have PZ : Hid (pfV P = 0) := ask_pf P gu hF
  have ZV : Hid (strL P gu P.own.length = Z) := by show _ = _; rw [← HZ.out, strZ, if_pos AZ.out]
  have RE : Hid (Nums W1 W.heap.size (.slice ra rl rc) (rch P gu)) := by have t := N1.out; rw [reachZ, if_pos AZ.out] at t; exact t
  have hn3 : (n0 : Int) ≤ 3 := by have := (pf_parts P PZ.out).1; have := HLO.out; omega
  have q0 := Q1.out.cell 0 rfl
  clear hF N1
  go_wp2_with fail
  clear q0 v0 r0 r1 f0 f1
  go_loopw [6, 7, 20] (fun y _ c wr => ∃ j : Nat, j ≤ n0 ∧ c = .int .i64 j ∧ Nums wr W1.heap.size y (strL P gu j) ∧ Below W1.heap.size W1 wr) (fun _ _ c _ => n0 - (intOf c).toNat)
  case atStart => exact ⟨0, Nat.zero_le _, rfl, Nums.nil _ _, Below.refl _ _⟩
  case round =>
    obtain ⟨j, hj, rfl, hN, hB⟩ := hrel
    have HN : Hid (Nums wr W1.heap.size _ (strL P gu j)) := hN
    have HB : Hid (Below W1.heap.size W1 wr) := hB
    obtain ⟨ya, yc, hy, _, _, _⟩ := hN.shape
    have HLN : Hid ((strL P gu j).length ≤ 24) := by show _ ≤ _; have := str_lenL P gu j; omega
    obtain ⟨un, hun⟩ : ∃ un, (strL P gu j).length = un := ⟨_, rfl⟩
    rw [hun] at hy
    subst hy
    clear hN hun
    by_cases hlt : j < n0
    · have hJ : (j : Int) < (n0 : Int) := by omega
      have HLT : Hid (j < n0) := hlt
      have SU : Hid (_ = _) := str_succ P gu j
      have v1 := (V1.out.keep hB).cell 1 rfl
      have IS : Hid (IsNs wr ra rl rc (rch P gu)) := (RE.out.keep hB).read
      have SZ : Hid (W1.heap.size ≤ wr.heap.size) := hB.size
      clear hlt hB
      by_cases he : (j : Int) = gu
      · have S2 : Hid (strL P gu (j + 1) = strL P gu j) := by show _ = _; rw [SU.out, strB, decide_eq_true he]; simp
        have he2 : ((j : Int) != gu) = false := by simp [he]
        clear SU
        go_wp2_with fail
        go_roundw
        case rel => exact ⟨j + 1, by have := HLT.out; omega, by go_num, by rw [S2.out]; exact HN.out, HB.out⟩
        case measure => have := HLT.out; simp [intOf]; omega
      have he2 : ((j : Int) != gu) = true := by simp [he]
      by_cases hin : (j : Int) ∈ rch P gu
      · have S2 : Hid (strL P gu (j + 1) = strL P gu j) := by show _ = _; rw [SU.out, strB, decide_eq_true hin]; simp
        have hd : decide ((j : Int) ∈ rch P gu) = true := decide_eq_true hin
        clear SU hin
        go_wp2_with (go_at_call 44; refine (i_contains _ _ _ _ _ _ IS.out).mono ?_; rintro e5 wr ⟨rfl, rfl⟩; rw [hd])
        go_roundw
        case rel => exact ⟨j + 1, by have := HLT.out; omega, by go_num, by rw [S2.out]; exact HN.out, HB.out⟩
        case measure => have := HLT.out; simp [intOf]; omega
      · have S2 : Hid (strL P gu (j + 1) = strL P gu j ++ [(j : Int)]) := by show _ = _; rw [SU.out, strB, decide_eq_false he, decide_eq_false hin]; simp
        have hd : decide ((j : Int) ∈ rch P gu) = false := decide_eq_false hin
        clear SU hin
        go_wp2_with (first
          | (go_at_call 44; refine (i_contains _ _ _ _ _ _ IS.out).mono ?_; rintro e5 wr ⟨rfl, rfl⟩; rw [hd])
          | (at_builtin; refine wp_appn_at _ rfl _ _ rfl W1.heap.size _ _ rfl (HN.out.keep (al (Below.refl _ _) _)) wr.heap.size 1 1 [(j : Int)] rfl rfl (one_at (cell_new rfl)) (by have := HLN.out; omega) (by have := SZ.out; simp; omega) ?_; intro v' w' hN' hG' hat))
        have N' : Hid (Nums w' W1.heap.size v' (strL P gu j ++ [(j : Int)])) := hN'
        have B' : Hid (Below W1.heap.size W1 w') := (al HB.out _).grown hG' (by have := SZ.out; simp; omega) (fun k hk => (HN.out.lt k hk).1)
        clear hN' hG' hat
        go_wp2_with fail
        go_roundw
        case rel => exact ⟨j + 1, by have := HLT.out; omega, by go_num, by rw [S2.out]; exact N'.out, B'.out⟩
        case measure => have := HLT.out; simp [intOf]; omega
    · have hJ : ¬ (j : Int) < (n0 : Int) := by omega
      have R3 : Hid (Vb wr (s + 1) #[.int .i64 0, .slice none 0 0] 31) := R1.out.keep hB
      have LT : Hid (s + 1 < W1.heap.size) := R1.out.lt
      have BB : Hid (Below w.heap.size w wr) := on B1.out hB
      have PN : Hid (Nums wr W1.heap.size (.slice ya un yc) Z) := by have t := HN.out; rw [show j = P.own.length by have := HLO.out; omega, ZV.out] at t; exact t
      have r0 := R3.out.cell 0 rfl
      have r1 := R3.out.cell 1 rfl
      have f0 := R3.out.free 0
      have f1 := R3.out.free 1
      clear hlt hB
      have ne : Hid ((Value.slice ya un yc).ownBlock ≠ some (s + 1)) := fun e => by have := (PN.out.lt _ e).1; have := LT.out; omega
      have PM : Hid (Nums wr w.heap.size (.slice ya un yc) Z) := PN.out.mono (by have := LT.out; have := HSs.out; omega)
      go_wp2_with fail
      exact bodyPost_ret (v := .agg #[.int .i64 0, .slice ya un yc]) (by simp [results, Tryz.results15, go_sem, r0, r1]) rfl ⟨_, by rw [AZ.out], (PM.out.put ⟨s + 1, 0, none⟩ _ ne.out).put ⟨s + 1, 1, none⟩ _ ne.out, (BB.out.setCell (by have := HSs.out; show w.heap.size ≤ s + 1; omega) _).setCell (by have := HSs.out; show w.heap.size ≤ s + 1; omega) _⟩
end Go.Proofs.YtnhebeehpkecfaaGreatDoor
