/- Pages that a guest may change, by the program. -/
import Derived.Test.YtnhebeehpkecfaaGreatDoorVva
import Derived.Test.YtnhebeehpkecfaaGreatDoorPfi
import Derived.Test.YtnhebeehpkecfaaGreatDoorApw
import Derived.Test.YtnhebeehpkecfaaGreatDoorHnm
import Derived.Deep.RegionWith
import Derived.Deep.RegionHeld3
import Derived.Deep.Cut
import Derived.Deep.CutRange
namespace Go.Proofs.YtnhebeehpkecfaaGreatDoor
open Go.RowKit
set_option linter.unusedVariables false

set_option maxHeartbeats 1000000 in
theorem i_leadsV (v : Value) (rs : List (Int × Int)) (tg : Int) (b : Nat) (w : World) (h : Prs 53 w b v rs) (hm : rs.length ≤ 1048576) :
    Calls Tryz.prog 56 #[v, .int .i64 tg] w fun e w' => e = .returned (.tuple #[.int .i64 (kdV rs tg), .bool (kdB rs tg)]) ∧ Below w.heap.size w w' := by
  obtain ⟨a, cap, rfl, l1, l2, hg⟩ := h.shape
  have HZ : Hid (Prs 53 w b _ rs) := h
  clear h
  obtain ⟨n, hn⟩ : ∃ n, rs.length = n := ⟨_, rfl⟩
  rw [hn] at HZ l1 hg hm ⊢
  have HN : Hid (rs.length = n) := hn
  have hI0 : (n : Int) ≤ 1048576 := by omega
  clear hn l1 l2 hm
  go_enter Tryz.func56, Tryz.ntmps56
  go_wp2_with fail
  go_loopw [4, 5, 7, 10] (fun q o _ c wr => ∃ j : Nat, j ≤ n ∧ c = .int .i64 j ∧ q = .int .i64 (kdV (rs.take j) tg) ∧ o = .bool (kdB (rs.take j) tg) ∧ Below w.heap.size w wr) (fun _ _ _ c _ => n - (intOf c).toNat)
  case atStart => exact ⟨0, Nat.zero_le _, rfl, rfl, rfl, Below.refl _ _⟩
  case round =>
    obtain ⟨j, hj, rfl, rfl, rfl, hB⟩ := hrel
    have HB : Hid (Below w.heap.size w wr) := hB
    by_cases hlt : j < n
    · obtain ⟨g, rfl⟩ := hg (by omega)
      have c1 := cell_keep hB (HZ.out.cell HN.out.symm j hlt).1
      have c2 := cell_keep hB (HZ.out.cell HN.out.symm j hlt).2
      have gb : g < wr.heap.size := block_of_cell c1
      have hI : (j : Int) < (n : Int) := by omega
      have HL : Hid (j < n) := hlt
      have HK : Hid (_ = _) := kd_take rs tg j (by have := HN.out; omega)
      have HD : Hid (_ = _) := kdb_take rs tg j (by have := HN.out; omega)
      generalize (rs.getD j (0, 0)).1 = p at *
      generalize (rs.getD j (0, 0)).2 = q at *
      generalize kdV (rs.take j) tg = kk at *
      generalize kdB (rs.take j) tg = dd at *
      clear hB hlt hg
      by_cases hp : p = tg
      · subst hp
        go_wp2_with fail
        go_roundw
        case rel => exact ⟨j + 1, by have := HL.out; omega, by go_num, by rw [HK.out, if_pos rfl], by rw [HD.out]; simp, al HB.out _⟩
        case measure => have := HL.out; simp [intOf]; omega
      · have hp2 : (p == tg) = false := beq_eq_false_iff_ne.2 hp
        have HPN : Hid (¬ p = tg) := hp
        clear hp
        go_wp2_with fail
        go_roundw
        case rel => exact ⟨j + 1, by have := HL.out; omega, by go_num, by rw [HK.out, if_neg HPN.out], by rw [HD.out]; simp [HPN.out], al HB.out _⟩
        case measure => have := HL.out; simp [intOf]; omega
    · have hI : ¬ (j : Int) < (n : Int) := by omega
      obtain rfl : j = n := by omega
      have ht : rs.take j = rs := List.take_of_length_le (Nat.le_of_eq HN.out)
      rw [ht]
      clear hB
      go_wp2_with fail
      go_ret2
      exact ⟨rfl, HB.out⟩

theorem wr_neq (k : Int) : (bits BinOp.and .i64 k 2 != 0) = wrB k := by
  unfold wrB
  by_cases h : bits BinOp.and .i64 k 2 = 0 <;> simp [h]
set_option maxHeartbeats 1000000 in
theorem i_mayWrite (v : Value) (rs : List (Int × Int)) (tg : Int) (b : Nat) (w : World) (h : Prs 53 w b v rs) (hm : rs.length ≤ 1048576) :
    Calls Tryz.prog 29 #[v, .int .i64 tg] w fun e w' => e = .returned (.bool (wrB (kdV rs tg))) ∧ Below w.heap.size w w' := by
  have LD := i_leadsV v rs tg b w h hm
  rw [← wr_neq]
  generalize kdV rs tg = kk at *
  generalize kdB rs tg = dd at *
  obtain ⟨a, cap, rfl, _, _, _⟩ := h.shape
  clear h hm
  go_enter Tryz.func29, Tryz.ntmps29
  go_wp2_with fail
  refine LD.mono ?_
  rintro e w1 ⟨rfl, b1⟩
  go_wp2_with fail
  go_ret
  exact ⟨rfl, b1⟩
set_option maxRecDepth 20000 in
set_option maxHeartbeats 8000000 in
theorem i_may (a0 a1 a2 a3 : Option Addr) (n0 c0 n1 c1 n2 c2 n3 c3 : Nat) (P : Plc) (gu : Int) (w : World) (h : Pl w a0 n0 c0 a1 n1 c1 a2 n2 c2 a3 n3 c3 P) (hg : w.cell? ⟨0, 0, none⟩ = some (.iface 158 (.agg #[.pointer (some ⟨1, 103, none⟩)]))) :
    Calls Tryz.prog 8 #[.agg #[.slice a0 n0 c0, .slice a1 n1 c1, .slice a2 n2 c2, .slice a3 n3 c3], .int .i64 gu] w fun e w' => ∃ v, e = .returned (.agg #[.int .i64 (askV P gu), v]) ∧ Nums w' w.heap.size v (mayZ P gu) ∧ Below w.heap.size w w' := by
  obtain ⟨Z, hZ⟩ : ∃ Z, mayZ P gu = Z := ⟨_, rfl⟩
  rw [hZ]
  have HZ : Hid (mayZ P gu = Z) := hZ
  clear hZ
  generalize hW : (w.alloc (.cells #[.slice a0 n0 c0, .slice a1 n1 c1, .slice a2 n2 c2, .slice a3 n3 c3] 37)).alloc (.cells #[.int .i64 0, .slice none 0 0] 31) = W
  have B0 : Hid (Below w.heap.size w W) := by show Below _ _ _; rw [← hW]; exact al (al (Below.refl _ _) _) _
  obtain ⟨s, hS⟩ : ∃ s, w.heap.size = s := ⟨_, rfl⟩
  have HSs : Hid (w.heap.size = s) := hS
  have Q : Hid (Vb W s #[.slice a0 n0 c0, .slice a1 n1 c1, .slice a2 n2 c2, .slice a3 n3 c3] 37) := by show Vb _ _ _ _; rw [← hW, ← hS]; exact (Vb.new _ _ _).push _
  have R : Hid (Vb W (s + 1) #[.int .i64 0, .slice none 0 0] 31) := by
    have z1 : s + 1 = (w.alloc (.cells #[.slice a0 n0 c0, .slice a1 n1 c1, .slice a2 n2 c2, .slice a3 n3 c3] 37)).heap.size := by rw [← hS]; simp
    show Vb _ _ _ _; rw [← hW, z1]; exact Vb.new _ _ _
  have HP : Hid (Pl W a0 n0 c0 a1 n1 c1 a2 n2 c2 a3 n3 c3 P) := h.stay B0.out
  have HA : Hid (PolAt W s P) := ⟨_, _, _, _, _, _, _, _, _, _, _, _, Q.out.cell 0 rfl, Q.out.cell 1 rfl, Q.out.cell 2 rfl, Q.out.cell 3 rfl, HP.out⟩
  have HG : Hid (W.cell? ⟨0, 0, none⟩ = some (.iface 158 (.agg #[.pointer (some ⟨1, 103, none⟩)]))) := cell_keep B0.out hg
  clear h hg
  have q0 := Q.out.cell 0 rfl
  have q1 := Q.out.cell 1 rfl
  have q2 := Q.out.cell 2 rfl
  have q3 := Q.out.cell 3 rfl
  go_enter Tryz.func8, Tryz.ntmps8
  go_wp2_with fail
  clear hW hS
  refine (i_asked _ _ _ _ _ _ _ _ _ _ _ _ P _ _ HP.out HG.out).mono ?_
  rintro e w1 ⟨rfl, b1⟩
  have R1 : Hid (Vb w1 (s + 1) #[.int .i64 0, .slice none 0 0] 31) := R.out.keep b1
  have Q1 : Hid (Vb w1 s #[.slice a0 n0 c0, .slice a1 n1 c1, .slice a2 n2 c2, .slice a3 n3 c3] 37) := Q.out.keep b1
  have HP1 : Hid (Pl w1 a0 n0 c0 a1 n1 c1 a2 n2 c2 a3 n3 c3 P) := HP.out.stay b1
  have B1 : Hid (Below w.heap.size w w1) := on B0.out b1
  clear b1 q0 q1 q2 q3
  by_cases hz : askV P gu = 0
  case neg =>
    have ZV : Z = [] := by rw [← HZ.out, mayZ, if_neg hz]
    obtain ⟨v, hv⟩ : ∃ v, askV P gu = v := ⟨_, rfl⟩
    have HV : Hid (askV P gu = v) := hv
    rw [hv] at hz ⊢
    clear hv
    have r0 := R1.out.cell 0 rfl
    have r1 := R1.out.cell 1 rfl
    have f0 := R1.out.free 0
    have f1 := R1.out.free 1
    go_wp2_with fail
    exact bodyPost_ret (v := .agg #[.int .i64 v, .slice none 0 0]) (by simp [results, Tryz.results8, go_sem, r0, r1]) rfl ⟨.slice none 0 0, by rw [HV.out], by rw [ZV]; exact Nums.nil _ _, (B1.out.setCell (by have := HSs.out; show w.heap.size ≤ s + 1; omega) _).setCell (by have := HSs.out; show w.heap.size ≤ s + 1; omega) _⟩
  have AZ : Hid (askV P gu = 0) := hz
  have GU : Hid (0 ≤ gu ∧ gu < P.own.length) := ask_guest P gu hz
  have ZV : Hid (mayL (pforL (P.own.getD gu.toNat []) P.lanes gu 8) 24 = Z) := by show _ = _; rw [← HZ.out, mayZ, if_pos hz]
  rw [hz]
  clear hz
  have q0 := Q1.out.cell 0 rfl
  have q1 := Q1.out.cell 1 rfl
  have q2 := Q1.out.cell 2 rfl
  have q3 := Q1.out.cell 3 rfl
  go_wp2_with fail
  refine (i_pages0 _ _ _ _ _ _ _ _ _ _ _ _ P _ _ HP1.out GU.out).mono ?_
  rintro e w2 ⟨pv, rfl, pn, b2⟩
  have HPL : Hid ((pforL (P.own.getD gu.toNat []) P.lanes gu 8).length = 8) := pforL_len _ _ _ _
  obtain ⟨rsL, hrs⟩ : ∃ r, (pforL (P.own.getD gu.toNat []) P.lanes gu 8) = r := ⟨_, rfl⟩
  rw [hrs] at pn ZV HPL
  have PN0 : Hid (Prs 53 w2 w1.heap.size pv rsL) := pn
  have R2 : Hid (Vb w2 (s + 1) #[.int .i64 0, .slice none 0 0] 31) := R1.out.keep b2
  have B2 : Hid (Below w.heap.size w w2) := on B1.out b2
  obtain ⟨pa, pc, hpv, _, _, _⟩ := pn.shape
  obtain ⟨plen, hpl⟩ : ∃ n, rsL.length = n := ⟨_, rfl⟩
  rw [hpl] at hpv
  subst hpv
  clear b2 pn q0 q1 q2 q3 hrs hpl
  go_wp2_with fail
  go_loopw [7, 8, 19] (fun y _ c wr => ∃ j : Nat, j ≤ 24 ∧ c = .int .i64 j ∧ Nums wr w2.heap.size y (mayL rsL j) ∧ Below w2.heap.size w2 wr) (fun _ _ c _ => 24 - (intOf c).toNat)
  case atStart => exact ⟨0, Nat.zero_le _, rfl, Nums.nil _ _, Below.refl _ _⟩
  case round =>
    obtain ⟨j, hj, rfl, hN, hB⟩ := hrel
    have HN : Hid (Nums wr w2.heap.size _ (mayL rsL j)) := hN
    have HB : Hid (Below w2.heap.size w2 wr) := hB
    obtain ⟨ya, yc, hy, _, _, _⟩ := hN.shape
    have HLN : Hid ((mayL rsL j).length ≤ 24) := by show _ ≤ _; have := may_lenL rsL j; omega
    obtain ⟨un, hun⟩ : ∃ un, (mayL rsL j).length = un := ⟨_, rfl⟩
    rw [hun] at hy
    subst hy
    clear hN hun
    by_cases hlt : j < 24
    · have hJ : (j : Int) < 24 := by omega
      have HLT : Hid (j < 24) := hlt
      have SU : Hid (_ = _) := may_succ rsL j
      have MW := i_mayWrite (.slice pa plen pc) rsL (j : Int) w1.heap.size wr (PN0.out.keep hB) (by have := HPL.out; omega)
      clear hlt hB
      cases hb : wrB (kdV rsL j)
      · rw [hb] at MW
        have S2 : Hid (mayL rsL (j + 1) = mayL rsL j) := by show _ = _; rw [SU.out, hb]; simp
        clear hb SU
        go_wp2_with fail
        refine MW.mono ?_
        rintro e w3 ⟨rfl, b3⟩
        have N3 : Hid (Nums w3 w2.heap.size (.slice ya un yc) (mayL rsL j)) := HN.out.keep b3
        have B3 : Hid (Below w2.heap.size w2 w3) := on HB.out b3
        clear b3
        go_wp2_with fail
        go_roundw
        case rel => exact ⟨j + 1, by have := HLT.out; omega, by go_num, by rw [S2.out]; exact N3.out, B3.out⟩
        case measure => have := HLT.out; simp [intOf]; omega
      · rw [hb] at MW
        have S2 : Hid (mayL rsL (j + 1) = mayL rsL j ++ [(j : Int)]) := by show _ = _; rw [SU.out, hb]; simp
        clear hb SU
        go_wp2_with fail
        refine MW.mono ?_
        rintro e w3 ⟨rfl, b3⟩
        have N3 : Hid (Nums w3 w2.heap.size (.slice ya un yc) (mayL rsL j)) := HN.out.keep b3
        have B3 : Hid (Below w2.heap.size w2 w3) := on HB.out b3
        have S3 : Hid (w2.heap.size ≤ w3.heap.size) := (on HB.out b3).size
        clear b3
        go_wp2_with (at_builtin; refine wp_appn _ rfl _ _ rfl w2.heap.size _ _ rfl (N3.out.keep (al (Below.refl _ _) _)) w3.heap.size 1 1 [(j : Int)] rfl rfl (one_at (cell_new rfl)) (by have := HLN.out; omega) (by have := S3.out; simp; omega) ?_; intro v' w' hN' hG')
        have N' : Hid (Nums w' w2.heap.size v' (mayL rsL j ++ [(j : Int)])) := hN'
        have B' : Hid (Below w2.heap.size w2 w') := (al B3.out _).grown hG' (by have := S3.out; simp; omega) (fun k hk => (N3.out.lt k hk).1)
        clear hN' hG'
        go_wp2_with fail
        go_roundw
        case rel => exact ⟨j + 1, by have := HLT.out; omega, by go_num, by rw [S2.out]; exact N'.out, B'.out⟩
        case measure => have := HLT.out; simp [intOf]; omega
    · have hJ : ¬ (j : Int) < 24 := by omega
      obtain rfl : j = 24 := by omega
      have R3 : Hid (Vb wr (s + 1) #[.int .i64 0, .slice none 0 0] 31) := R2.out.keep hB
      have LT : Hid (s + 1 < w2.heap.size) := R2.out.lt
      have BB : Hid (Below w.heap.size w wr) := on B2.out hB
      have PN : Hid (Nums wr w2.heap.size (.slice ya un yc) Z) := by have t := HN.out; rw [ZV.out] at t; exact t
      have r0 := R3.out.cell 0 rfl
      have r1 := R3.out.cell 1 rfl
      have f0 := R3.out.free 0
      have f1 := R3.out.free 1
      clear hlt hB
      have ne : Hid ((Value.slice ya un yc).ownBlock ≠ some (s + 1)) := fun e => by have := (PN.out.lt _ e).1; have := LT.out; omega
      have PM : Hid (Nums wr w.heap.size (.slice ya un yc) Z) := PN.out.mono (by have := LT.out; have := HSs.out; omega)
      go_wp2_with fail
      exact bodyPost_ret (v := .agg #[.int .i64 0, .slice ya un yc]) (by simp [results, Tryz.results8, go_sem, r0, r1]) rfl ⟨_, by rw [AZ.out], (PM.out.put ⟨s + 1, 0, none⟩ _ ne.out).put ⟨s + 1, 1, none⟩ _ ne.out, (BB.out.setCell (by have := HSs.out; show w.heap.size ≤ s + 1; omega) _).setCell (by have := HSs.out; show w.heap.size ≤ s + 1; omega) _⟩
end Go.Proofs.YtnhebeehpkecfaaGreatDoor
