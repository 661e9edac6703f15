/- Strangers to a guest, by the model. -/
import Derived.Test.YtnhebeehpkecfaaGreatDoorVva
import Derived.Test.YtnhebeehpkecfaaGreatDoorRcs
import Derived.Test.YtnhebeehpkecfaaGreatDoorRci
import Derived.Test.YtnhebeehpkecfaaGreatDoorHnm
import Derived.Deep.RegionWith
import Derived.Deep.RegionHeld3
import Derived.Deep.Cut
import Derived.Deep.CutRange
namespace Go.Proofs.YtnhebeehpkecfaaGreatDoor
open Go.RowKit
set_option linter.unusedVariables false

/-- Blocks below a number stay. -/
structure Mx (O : Nat) (w w' : World) : Prop where
  b : Below O w w'
theorem Mx.of {O : Nat} {w w' : World} (h : Below O w w') : Mx O w w' := ⟨h⟩
theorem Mx.vb {O : Nat} {w w' : World} (m : Mx O w w') {g : Nat} {cs : Array Value} {t : TypeId} (h : Vb w g cs t) (hg : g < O) : Vb w' g cs t := (m.b.block g hg).trans h
theorem Mx.nums {O : Nat} {w w' : World} (m : Mx O w w') {b : Nat} {v : Value} {zs : List Int} (h : Nums w b v zs) (hg : ∀ k, v.ownBlock = some k → k < O) : Nums w' b v zs := by
  obtain ⟨h1, h2 | ⟨g, cap, cur, hv, hb, hr, rest⟩⟩ := h
  · exact ⟨h1, .inl h2⟩
  · exact ⟨h1, .inr ⟨g, cap, cur, hv, hb, (m.b.block g (hg g (by rw [hv]; rfl))).trans hr, rest⟩⟩
theorem grow_step {O : Nat} {W2 wr w' : World} {o : Obj} {x y v' : Value} {zs ys : List Int} (HV : Vb wr O #[x, y] 31) (HN : Nums wr (O + 1) y zs) (HB : Below O W2 wr) (LW : O < wr.heap.size) (hN' : Nums w' (O + 1) v' ys) (hG' : (wr.alloc o).grownBy w' y.ownBlock) :
    ∃ ua ul uc, v' = .slice ua ul uc ∧ Hid (Nums w' (O + 1) v' ys) ∧ Hid (Below O W2 w') ∧ Hid (v'.ownBlock ≠ some O) ∧ Hid (Vb w' O #[x, y] 31) := by
  obtain ⟨ua, uc, hu5, _, _, _⟩ := hN'.shape
  refine ⟨ua, _, uc, hu5, hN', ?_, fun e => by have := (hN'.lt O e).1; omega, (HV.push _).gr hG' (fun e => by have := (HN.lt O e.symm).1; omega)⟩
  have h1 : Below wr.heap.size wr (wr.alloc o) := al (Below.refl _ _) _
  exact (HB.trans (h1.mono (Nat.le_of_lt LW))).grown hG' (by simp; have := HB.size; omega) (fun k hk => by have := (HN.lt k hk).1; omega)
set_option maxRecDepth 20000 in
set_option maxHeartbeats 8000000 in
theorem s_strangers (a0 a1 a2 a3 : Option Addr) (n0 c0 n1 c1 n2 c2 n3 c3 : Nat) (P : Plc) (gu : Int) (w : World) (h : Pl w a0 n0 c0 a1 n1 c1 a2 n2 c2 a3 n3 c3 P)  :
    Calls Tryz.prog 14 #[.agg #[.slice a0 n0 c0, .slice a1 n1 c1, .slice a2 n2 c2, .slice a3 n3 c3], .int .i64 gu] w fun e w' => ∃ v, e = .returned (.agg #[.int .i64 (askV P gu), v]) ∧ Nums w' w.heap.size v (strZ P gu) ∧ Below w.heap.size w w' := by
  obtain ⟨Z, hZ⟩ : ∃ Z, strZ P gu = Z := ⟨_, rfl⟩
  rw [hZ]
  have HZ : Hid (strZ P gu = Z) := hZ
  clear hZ
  generalize hW : (w.alloc (.cells #[.slice a0 n0 c0, .slice a1 n1 c1, .slice a2 n2 c2, .slice a3 n3 c3] 37)).alloc (.cells #[.int .i64 0, .slice none 0 0] 31) = W
  have B0 : Hid (Below w.heap.size w W) := by show Below _ _ _; rw [← hW]; exact al (al (Below.refl _ _) _) _
  obtain ⟨s, hS⟩ : ∃ s, w.heap.size = s := ⟨_, rfl⟩
  have HSs : Hid (w.heap.size = s) := hS
  have Q : Hid (Vb W s #[.slice a0 n0 c0, .slice a1 n1 c1, .slice a2 n2 c2, .slice a3 n3 c3] 37) := by show Vb _ _ _ _; rw [← hW, ← hS]; exact (Vb.new _ _ _).push _
  have R : Hid (Vb W (s + 1) #[.int .i64 0, .slice none 0 0] 31) := by
    have z1 : s + 1 = (w.alloc (.cells #[.slice a0 n0 c0, .slice a1 n1 c1, .slice a2 n2 c2, .slice a3 n3 c3] 37)).heap.size := by rw [← hS]; simp
    show Vb _ _ _ _; rw [← hW, z1]; exact Vb.new _ _ _
  have HP : Hid (Pl W a0 n0 c0 a1 n1 c1 a2 n2 c2 a3 n3 c3 P) := h.stay B0.out
  have HA : Hid (PolAt W s P) := ⟨_, _, _, _, _, _, _, _, _, _, _, _, Q.out.cell 0 rfl, Q.out.cell 1 rfl, Q.out.cell 2 rfl, Q.out.cell 3 rfl, HP.out⟩
  clear h
  have q0 := Q.out.cell 0 rfl
  have q1 := Q.out.cell 1 rfl
  have q2 := Q.out.cell 2 rfl
  have q3 := Q.out.cell 3 rfl
  go_enter Tryz.func14, Tryz.ntmps14
  go_wp2_with fail
  clear hW hS
  refine (l6_asked _ _ P _ HA.out).mono ?_
  rintro e w1 ⟨rfl, b1⟩
  have R1 : Hid (Vb w1 (s + 1) #[.int .i64 0, .slice none 0 0] 31) := R.out.keep b1
  have Q1 : Hid (Vb w1 s #[.slice a0 n0 c0, .slice a1 n1 c1, .slice a2 n2 c2, .slice a3 n3 c3] 37) := Q.out.keep b1
  have HP1 : Hid (Pl w1 a0 n0 c0 a1 n1 c1 a2 n2 c2 a3 n3 c3 P) := HP.out.stay b1
  have HA1 : Hid (PolAt w1 s P) := HA.out.stay b1
  have B1 : Hid (Below w.heap.size w w1) := on B0.out b1
  clear b1
  by_cases hz : askV P gu = 0
  case neg =>
    have ZV : Z = [] := by rw [← HZ.out, strZ, if_neg hz]
    obtain ⟨v, hv⟩ : ∃ v, askV P gu = v := ⟨_, rfl⟩
    have HV : Hid (askV P gu = v) := hv
    rw [hv] at hz ⊢
    clear hv
    have r0 := R1.out.cell 0 rfl
    have r1 := R1.out.cell 1 rfl
    have f0 := R1.out.free 0
    have f1 := R1.out.free 1
    go_wp2_with fail
    exact bodyPost_ret (v := .agg #[.int .i64 v, .slice none 0 0]) (by simp [results, Tryz.results14, go_sem, r0, r1]) rfl ⟨.slice none 0 0, by rw [HV.out], by rw [ZV]; exact Nums.nil _ _, (B1.out.setCell (by have := HSs.out; show w.heap.size ≤ s + 1; omega) _).setCell (by have := HSs.out; show w.heap.size ≤ s + 1; omega) _⟩
  have AZ : Hid (askV P gu = 0) := hz
  have PZ : Hid (pfV P = 0) := ask_pf P gu hz
  have GU : Hid (0 ≤ gu ∧ gu < P.own.length) := ask_guest P gu hz
  rw [hz]
  clear hz
  have ZV : Hid (strL P gu P.own.length = Z) := by show _ = _; rw [← HZ.out, strZ, if_pos AZ.out]
  have HLO : Hid (n0 = P.own.length) := HP.out.own.len
  have hn3 : (n0 : Int) ≤ 3 := by have := (pf_parts P PZ.out).1; have := HLO.out; omega
  clear q0 q1 q2 q3
  go_wp2_with fail
  refine (l6_reach _ _ P _ HA1.out PZ.out).mono ?_
  rintro e w2 ⟨rv, rfl, rn, b2⟩
  obtain ⟨ra, rc, hrv, _, _, _⟩ := rn.shape
  obtain ⟨rl, hrl⟩ : ∃ rl, (rch P gu).length = rl := ⟨_, rfl⟩
  rw [hrl] at hrv
  subst hrv
  clear hrl
  have RE : Hid (Nums (w2.alloc (.cells #[.int .i64 0, .slice none 0 0] 31)) w1.heap.size (.slice ra rl rc) (rch P gu)) := rn.keep (al (Below.refl _ _) _)
  have R2 : Hid (Vb (w2.alloc (.cells #[.int .i64 0, .slice none 0 0] 31)) (s + 1) #[.int .i64 0, .slice none 0 0] 31) := (R1.out.keep b2).push _
  have Q2 : Hid (Vb (w2.alloc (.cells #[.int .i64 0, .slice none 0 0] 31)) s #[.slice a0 n0 c0, .slice a1 n1 c1, .slice a2 n2 c2, .slice a3 n3 c3] 37) := (Q1.out.keep b2).push _
  have B2 : Hid (Below w.heap.size w (w2.alloc (.cells #[.int .i64 0, .slice none 0 0] 31))) := on B1.out (al b2 _)
  have OV : Hid (Vb (w2.alloc (.cells #[.int .i64 0, .slice none 0 0] 31)) w2.heap.size #[.int .i64 0, .slice none 0 0] 31) := Vb.new _ _ _
  have LO : Hid (s + 1 < w2.heap.size ∧ ∀ k, (Value.slice ra rl rc).ownBlock = some k → k < w2.heap.size) := ⟨(R1.out.keep b2).lt, fun k e => (rn.lt k e).2⟩
  have ZO : Hid ((w2.alloc (.cells #[.int .i64 0, .slice none 0 0] 31)).heap.size = w2.heap.size + 1) := by show _ = _; simp
  clear rn b2
  go_upto_region 6 with fail
  generalize (w2.alloc (.cells #[.int .i64 0, .slice none 0 0] 31)) = W2 at *
  generalize w2.heap.size = O at *
  go_wp2_with fail
  go_loopw [8] (fun c wr => ∃ (j : Nat) (y : Value), j ≤ n0 ∧ c = .int .i64 j ∧ Vb wr O #[.int .i64 0, y] 31 ∧ Nums wr (O + 1) y (strL P gu j) ∧ Below O W2 wr) (fun c _ => n0 - (intOf c).toNat)
  case atStart => exact ⟨0, _, Nat.zero_le _, rfl, OV.out, Nums.nil _ _, Below.refl _ _⟩
  case round =>
    obtain ⟨j, y, hj, rfl, hV, hN, hB⟩ := hrel
    have HV : Hid (Vb wr O _ _) := hV
    have HN : Hid (Nums wr (O + 1) y (strL P gu j)) := hN
    have HB : Hid (Below O W2 wr) := hB
    obtain ⟨ya, yc, hy, _, _, _⟩ := hN.shape
    have HLN : Hid ((strL P gu j).length ≤ 24) := by show _ ≤ _; have := str_lenL P gu j; omega
    obtain ⟨un, hun⟩ : ∃ un, (strL P gu j).length = un := ⟨_, rfl⟩
    rw [hun] at hy
    subst hy
    have MQ : Hid (Mx O W2 wr) := Mx.of hB
    have q0 := (MQ.out.vb Q2.out (by have := LO.out.1; omega)).cell 0 rfl
    have o1 := HV.out.cell 1 rfl
    have IS : Hid (IsNs wr ra rl rc (rch P gu)) := (MQ.out.nums RE.out LO.out.2).read
    have LW : Hid (O < wr.heap.size) := HV.out.lt
    clear hN hun hV
    by_cases hlt : j < n0
    · have hJ : (j : Int) < (n0 : Int) := by omega
      have HLT : Hid (j < n0) := hlt
      have SU : Hid (_ = _) := str_succ P gu j
      clear hlt hB
      by_cases he : (j : Int) = gu
      · have S2 : Hid (strL P gu (j + 1) = strL P gu j) := by show _ = _; rw [SU.out, strB, decide_eq_true he]; simp
        have he2 : ((j : Int) != gu) = false := by simp [he]
        clear SU
        go_wp2_with fail
        go_roundw
        case rel => exact ⟨j + 1, _, by have := HLT.out; omega, by go_num, HV.out, by rw [S2.out]; exact HN.out, HB.out⟩
        case measure => have := HLT.out; simp [intOf]; omega
      have he2 : ((j : Int) != gu) = true := by simp [he]
      by_cases hin : (j : Int) ∈ rch P gu
      · have S2 : Hid (strL P gu (j + 1) = strL P gu j) := by show _ = _; rw [SU.out, strB, decide_eq_true hin]; simp
        have hd : decide ((j : Int) ∈ rch P gu) = true := decide_eq_true hin
        clear SU hin
        go_wp2_with (go_at_call 42; refine (l1_has _ _ _ _ _ _ IS.out).mono ?_; rintro e5 wr ⟨rfl, rfl⟩; rw [hd])
        go_roundw
        case rel => exact ⟨j + 1, _, by have := HLT.out; omega, by go_num, HV.out, by rw [S2.out]; exact HN.out, HB.out⟩
        case measure => have := HLT.out; simp [intOf]; omega
      · have S2 : Hid (strL P gu (j + 1) = strL P gu j ++ [(j : Int)]) := by show _ = _; rw [SU.out, strB, decide_eq_false he, decide_eq_false hin]; simp
        have hd : decide ((j : Int) ∈ rch P gu) = false := decide_eq_false hin
        clear SU hin
        go_wp2_with (first
          | (go_at_call 42; refine (l1_has _ _ _ _ _ _ IS.out).mono ?_; rintro e5 wr ⟨rfl, rfl⟩; rw [hd])
          | (at_builtin; refine wp_appn_at _ rfl _ _ rfl (O + 1) _ _ rfl (HN.out.keep (al (Below.refl _ _) _)) wr.heap.size 1 1 [(j : Int)] rfl rfl (one_at (cell_new rfl)) (by have := HLN.out; omega) (by have := LW.out; simp; omega) ?_; intro v' w' hN' hG' hat; obtain ⟨ua, ul, uc, rfl, N', B', NE, HV'⟩ := grow_step HV.out HN.out HB.out LW.out hN' hG'; have o1' := HV'.out.cell 1 rfl; have g1' := HV'.out.free 1; clear hN' hG' hat o1 q0))
        go_roundw
        case rel => exact ⟨j + 1, _, by have := HLT.out; omega, by go_num, HV'.out.set 1 _, by rw [S2.out]; exact N'.out.put ⟨O, 1, none⟩ _ NE.out, B'.out.setCell (Nat.le_refl O) _⟩
        case measure => have := HLT.out; simp [intOf]; omega
    · have hJ : ¬ (j : Int) < (n0 : Int) := by omega
      have R3 : Hid (Vb wr (s + 1) #[.int .i64 0, .slice none 0 0] 31) := MQ.out.vb R2.out (by have := LO.out.1; omega)
      have LT : Hid (s + 1 < O) := LO.out.1
      have BB : Hid (Below w.heap.size w wr) := B2.out.trans (hB.mono (by have := LO.out.1; have := HSs.out; omega))
      have PN : Hid (Nums wr (O + 1) (.slice ya un yc) Z) := by have t := HN.out; rw [show j = P.own.length by have := HLO.out; omega, ZV.out] at t; exact t
      have o0 := HV.out.cell 0 rfl
      have r0 := R3.out.cell 0 rfl
      have r1 := R3.out.cell 1 rfl
      have f0 := R3.out.free 0
      have f1 := R3.out.free 1
      clear hlt hB
      have ne : Hid ((Value.slice ya un yc).ownBlock ≠ some (s + 1)) := fun e => by have := (PN.out.lt _ e).1; have := LT.out; omega
      have PM : Hid (Nums wr w.heap.size (.slice ya un yc) Z) := PN.out.mono (by have := LT.out; have := HSs.out; omega)
      go_wp2_with fail
      exact bodyPost_ret (v := .agg #[.int .i64 0, .slice ya un yc]) (by simp [results, Tryz.results14, go_sem, r0, r1]) rfl ⟨_, by rw [AZ.out], (PM.out.put ⟨s + 1, 0, none⟩ _ ne.out).put ⟨s + 1, 1, none⟩ _ ne.out, (BB.out.setCell (by have := HSs.out; show w.heap.size ≤ s + 1; omega) _).setCell (by have := HSs.out; show w.heap.size ≤ s + 1; omega) _⟩
end Go.Proofs.YtnhebeehpkecfaaGreatDoor
