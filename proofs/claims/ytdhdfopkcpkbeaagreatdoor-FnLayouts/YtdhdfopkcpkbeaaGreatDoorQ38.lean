/- Texts of this seat, joined. -/
import Derived.Laws.ByValue
import Derived.Test.YtdhdfopkcpkbeaaGreatDoorQ23
import Derived.Test.YtdhdfopkcpkbeaaGreatDoorQ34
namespace Go.Proofs.YtdhdfopkcpkbeaaGreatDoor
open Go.RowKit
set_option linter.unusedVariables false

/-- Do both lists lead to a page, and one of them for writing? -/
def wrB (rs qs : List (Int × Int)) (to : Int) : Bool := ledB rs to && ledB qs to && (bits BinOp.and .i64 (bits BinOp.or .i64 (kndV rs to) (kndV qs to)) 2 != 0)
def wrL (rs qs : List (Int × Int)) (n : Nat) : List Int := ((List.range n).map fun (i : Nat) => (i : Int)).filter (wrB rs qs)
theorem wr_succ (rs qs : List (Int × Int)) (n : Nat) : wrL rs qs (n + 1) = wrL rs qs n ++ (if wrB rs qs n then [(n : Int)] else []) := by
  unfold wrL
  rw [List.range_succ, List.map_append, List.filter_append]
  congr 1
  cases h : wrB rs qs n <;> simp [h]
theorem wr_len (rs qs : List (Int × Int)) (n : Nat) : (wrL rs qs n).length ≤ n := by
  unfold wrL
  refine Nat.le_trans (List.length_filter_le _ _) ?_
  simp
theorem wr_mem {rs qs : List (Int × Int)} {n : Nat} {x : Int} (h : x ∈ wrL rs qs n) : wrB rs qs x = true ∧ 0 ≤ x ∧ x < n := by
  unfold wrL at h
  rw [List.mem_filter, List.mem_map] at h
  obtain ⟨⟨i, hi, rfl⟩, h2⟩ := h
  rw [List.mem_range] at hi
  exact ⟨h2, by omega, by omega⟩
def wrZ (rs qs : List (Int × Int)) : List Int := if twoV rs 24 qs = 0 then wrL rs qs 24 else []
theorem wrZ_len (rs qs : List (Int × Int)) : (wrZ rs qs).length ≤ 24 := by
  unfold wrZ
  split
  · exact wr_len _ _ _
  · simp
theorem wrZ_mem {rs qs : List (Int × Int)} {x : Int} (h : x ∈ wrZ rs qs) : wrB rs qs x = true ∧ 0 ≤ x ∧ x < 24 := by
  unfold wrZ at h
  split at h
  · exact wr_mem h
  · cases h
theorem impl_ones (x y : Int) (w : World) : Calls Tryz.prog 76 #[.int .i64 x, .int .i64 y] w fun e w' => e = .returned (.bool (bits BinOp.and .i64 (bits BinOp.or .i64 x y) 2 != 0)) ∧ w' = w := by
  go_enter Tryz.func76, Tryz.ntmps76
  go_wp2_with fail
  go_ret
  exact ⟨rfl, rfl⟩

set_option maxHeartbeats 4000000 in
theorem impl_commonW (v u : Value) (rs qs : List (Int × Int)) (b b' : Nat) (w : World) (h : Prs 96 w b v rs) (k : Prs 96 w b' u qs) (hm : rs.length ≤ 1048576) (km : qs.length ≤ 1048576) :
    Calls Tryz.prog 75 #[v, u, .func (.func 76) #[] #[]] w fun e w' => ∃ y, e = .returned (.agg #[.int .i64 (twoV rs 24 qs), y]) ∧ Nums w' w.heap.size y (wrZ rs qs) ∧ Below w.heap.size w w' := by
  have hF := fun w1 (q : Below w.heap.size w w1) => impl_two v u rs qs 24 b b' w1 (h.keep q) (k.keep q) hm km
  by_cases hc : twoV rs 24 qs = 0
  case neg =>
    have e2 : wrZ rs qs = [] := if_neg hc
    rw [e2]
    have g : (twoV rs 24 qs != 0) = true := by simpa using hc
    clear e2 hc
    generalize twoV rs 24 qs = c at *
    obtain ⟨a, cap, rfl, _, _, _⟩ := h.shape
    obtain ⟨a', cap', rfl, _, _, _⟩ := k.shape
    clear h k
    go_enter Tryz.func75, Tryz.ntmps75
    go_wp2_with fail
    refine (hF _ (al (Below.refl _ _) _)).mono ?_
    rintro e w1 ⟨rfl, b1⟩
    have k0 := cell_keep b1 (cell_new (i := 0) rfl)
    have k1 := cell_keep b1 (cell_new (i := 1) rfl)
    have B1 : Hid (Below w.heap.size w w1) := on (al (Below.refl _ _) _) b1
    have z0 : w1.frozen? ⟨w.heap.size, 0, none⟩ = false := by rw [(bcell b1).2 _ _ (by simp)]; simp
    have z1 : w1.frozen? ⟨w.heap.size, 1, none⟩ = false := by rw [(bcell b1).2 _ _ (by simp)]; simp
    clear b1 hF
    go_wp2_with fail
    exact bodyPost_ret (v := .agg #[.int .i64 c, .slice none 0 0]) (by simp [results, Tryz.results75, go_sem, k0, k1]) rfl ⟨_, rfl, Nums.nil _ _, (B1.out.setCell (by simp) _).setCell (by simp) _⟩
  have e2 : wrZ rs qs = wrL rs qs 24 := if_pos hc
  rw [e2]
  rw [hc] at hF ⊢
  have HP : Hid (Prs 96 w b v rs) := h
  have KP : Hid (Prs 96 w b' u qs) := k
  have hLd := fun to w1 (q : Below w.heap.size w w1) => impl_leads v rs to b w1 (HP.out.keep q) hm
  have kLd := fun to w1 (q : Below w.heap.size w w1) => impl_leads u qs to b' w1 (KP.out.keep q) km
  obtain ⟨a, cap, hv, _, _, _⟩ := h.shape
  obtain ⟨a', cap', hu, _, _, _⟩ := k.shape
  generalize rs.length = n at hv
  generalize qs.length = n' at hu
  subst hv hu
  clear h k hc e2 hm km
  go_enter Tryz.func75, Tryz.ntmps75
  go_wp2_with fail
  refine (hF _ (al (Below.refl _ _) _)).mono ?_
  rintro e w1 ⟨rfl, b1⟩
  have B1 : Hid (Below w.heap.size w w1) := on (al (Below.refl _ _) _) b1
  have RR : Hid ((w1.cell? ⟨w.heap.size, 0, none⟩ = some (.int .i64 0) ∧ w1.cell? ⟨w.heap.size, 1, none⟩ = some (.slice none 0 0)) ∧ w1.frozen? ⟨w.heap.size, 0, none⟩ = false ∧ w1.frozen? ⟨w.heap.size, 1, none⟩ = false ∧ w.heap.size < w1.heap.size) :=
    ⟨⟨cell_keep b1 (cell_new (i := 0) rfl), cell_keep b1 (cell_new (i := 1) rfl)⟩, by rw [(bcell b1).2 _ _ (by simp)]; simp, by rw [(bcell b1).2 _ _ (by simp)]; simp, by have := b1.size; simp at this; omega⟩
  clear b1 hF
  go_wp2_with fail
  go_loopw [8, 9, 10, 11, 12, 13, 21] (fun y _ _ _ _ _ c wr => ∃ j : Nat, j ≤ 24 ∧ c = .int .i64 j ∧ Nums wr w1.heap.size y (wrL rs qs j) ∧ Below w1.heap.size w1 wr) (fun _ _ _ _ _ _ c _ => 24 - (intOf c).toNat)
  case atStart => exact ⟨0, Nat.zero_le _, rfl, Nums.nil _ _, Below.refl _ _⟩
  case round =>
    obtain ⟨j, hj, rfl, hP, hB⟩ := hrel
    have PB : Hid (Nums wr w1.heap.size _ (wrL rs qs j)) := hP
    have HB : Hid (Below w1.heap.size w1 wr) := hB
    obtain ⟨ya, yc, rfl, _, _, _⟩ := hP.shape
    have HLN : Hid ((wrL rs qs j).length ≤ 24 ∧ (wrL rs qs j).length ≤ 24) := ⟨by have := wr_len rs qs j; omega, by have := wr_len rs qs j; omega⟩
    generalize hun : (wrL rs qs j).length = un at *
    clear hP
    by_cases hlt : j < 24
    · have BW : Hid (Below w.heap.size w wr) := on B1.out hB
      have hI : (j : Int) < 24 := by omega
      have HL : Hid (j < 24) := hlt
      have hA := fun w1 q => hLd (j : Int) w1 q
      have kA := fun w1 q => kLd (j : Int) w1 q
      have HS := wr_succ rs qs j
      have hNA : ledB rs j = false → kndV rs j = 0 := knd_none
      have hNB : ledB qs j = false → kndV qs j = 0 := knd_none
      have hBB : wrB rs qs j = (ledB rs j && ledB qs j && (bits BinOp.and .i64 (bits BinOp.or .i64 (kndV rs j) (kndV qs j)) 2 != 0)) := rfl
      generalize wrB rs qs j = bb at *
      generalize ledB rs j = d1 at *
      generalize ledB qs j = d2 at *
      generalize kndV rs j = x1 at *
      generalize kndV qs j = x2 at *
      clear hB hlt
      cases d1
      · have hx := hNA rfl
        have hbb : bb = false := by rw [hBB]; rfl
        subst hbb
        have HS2 : Hid (wrL rs qs (j + 1) = wrL rs qs j) := by show _ = _; rw [HS]; simp
        clear HS hBB hNA hNB hx
        go_wp2_with fail
        refine (hA _ BW.out).mono ?_
        rintro e w5 ⟨rfl, b5⟩
        have B5 : Hid (Below w.heap.size w w5) := on BW.out b5
        have C5 : Hid (Below w1.heap.size w1 w5) := on HB.out b5
        have P5 : Hid (Nums w5 w1.heap.size (.slice ya un yc) (wrL rs qs j)) := PB.out.keep b5
        clear b5 hA
        go_wp2_with fail
        refine (kA _ B5.out).mono ?_
        rintro e w6 ⟨rfl, b6⟩
        have C6 : Hid (Below w1.heap.size w1 w6) := on C5.out b6
        have P6 : Hid (Nums w6 w1.heap.size (.slice ya un yc) (wrL rs qs j)) := P5.out.keep b6
        clear b6 kA
        go_wp2_with fail
        go_roundw
        case rel => exact ⟨j + 1, by have := HL.out; omega, by go_num, by rw [HS2.out]; exact P6.out, C6.out⟩
        case measure => have := HL.out; simp [intOf]; omega
      cases d2
      · have hx := hNB rfl
        have hbb : bb = false := by rw [hBB]; rfl
        subst hbb
        have HS2 : Hid (wrL rs qs (j + 1) = wrL rs qs j) := by show _ = _; rw [HS]; simp
        clear HS hBB hNA hNB hx
        go_wp2_with fail
        refine (hA _ BW.out).mono ?_
        rintro e w5 ⟨rfl, b5⟩
        have B5 : Hid (Below w.heap.size w w5) := on BW.out b5
        have C5 : Hid (Below w1.heap.size w1 w5) := on HB.out b5
        have P5 : Hid (Nums w5 w1.heap.size (.slice ya un yc) (wrL rs qs j)) := PB.out.keep b5
        clear b5 hA
        go_wp2_with fail
        refine (kA _ B5.out).mono ?_
        rintro e w6 ⟨rfl, b6⟩
        have C6 : Hid (Below w1.heap.size w1 w6) := on C5.out b6
        have P6 : Hid (Nums w6 w1.heap.size (.slice ya un yc) (wrL rs qs j)) := P5.out.keep b6
        clear b6 kA
        go_wp2_with fail
        go_roundw
        case rel => exact ⟨j + 1, by have := HL.out; omega, by go_num, by rw [HS2.out]; exact P6.out, C6.out⟩
        case measure => have := HL.out; simp [intOf]; omega
      have hH := fun w => impl_ones x1 x2 w
      rw [show (bits BinOp.and .i64 (bits BinOp.or .i64 x1 x2) 2 != 0) = bb from hBB.symm] at hH
      cases bb
      · have HS2 : Hid (wrL rs qs (j + 1) = wrL rs qs j) := by show _ = _; rw [HS]; simp
        clear HS hBB hNA hNB
        go_wp2_with fail
        refine (hA _ BW.out).mono ?_
        rintro e w5 ⟨rfl, b5⟩
        have B5 : Hid (Below w.heap.size w w5) := on BW.out b5
        have C5 : Hid (Below w1.heap.size w1 w5) := on HB.out b5
        have P5 : Hid (Nums w5 w1.heap.size (.slice ya un yc) (wrL rs qs j)) := PB.out.keep b5
        clear b5 hA
        go_wp2_with fail
        refine (kA _ B5.out).mono ?_
        rintro e w6 ⟨rfl, b6⟩
        have C6 : Hid (Below w1.heap.size w1 w6) := on C5.out b6
        have P6 : Hid (Nums w6 w1.heap.size (.slice ya un yc) (wrL rs qs j)) := P5.out.keep b6
        clear b6 kA
        go_wp2_with (go_at_call 76; refine (hH _).mono ?_; rintro e w6 ⟨rfl, rfl⟩)
        go_roundw
        case rel => exact ⟨j + 1, by have := HL.out; omega, by go_num, by rw [HS2.out]; exact P6.out, C6.out⟩
        case measure => have := HL.out; simp [intOf]; omega
      · have HS2 : Hid (wrL rs qs (j + 1) = wrL rs qs j ++ [(j : Int)]) := by show _ = _; rw [HS]; simp
        clear HS hBB hNA hNB
        go_wp2_with fail
        refine (hA _ BW.out).mono ?_
        rintro e w5 ⟨rfl, b5⟩
        have B5 : Hid (Below w.heap.size w w5) := on BW.out b5
        have C5 : Hid (Below w1.heap.size w1 w5) := on HB.out b5
        have P5 : Hid (Nums w5 w1.heap.size (.slice ya un yc) (wrL rs qs j)) := PB.out.keep b5
        clear b5 hA
        go_wp2_with fail
        refine (kA _ B5.out).mono ?_
        rintro e w6 ⟨rfl, b6⟩
        have C6 : Hid (Below w1.heap.size w1 w6) := on C5.out b6
        have P6 : Hid (Nums w6 w1.heap.size (.slice ya un yc) (wrL rs qs j)) := P5.out.keep b6
        have S6 : Hid (w1.heap.size ≤ w6.heap.size) := C6.out.size
        clear b6 kA
        go_wp2_with (first
          | (go_at_call 76; refine (hH _).mono ?_; rintro e w6 ⟨rfl, rfl⟩)
          | (at_builtin; refine wp_app _ rfl _ _ rfl w1.heap.size (.slice ya un yc) _ rfl (P6.out.keep (al (Below.refl _ _) _)) w6.heap.size 1 1 [(j : Int)] rfl rfl (one_at (cell_new rfl)) (by rw [hun]; have := HLN.out; omega) (by have := S6.out; simp; omega) ?_; intro v' w' hN' hG'))
        have N' : Hid (Nums w' w1.heap.size v' (wrL rs qs j ++ [(j : Int)])) := hN'
        have B' : Hid (Below w1.heap.size w1 w') := (al C6.out _).grown hG' (by have := S6.out; simp; omega) (fun k hk => (P6.out.lt k hk).1)
        clear hN' hG'
        go_wp2_with fail
        go_roundw
        case rel => exact ⟨j + 1, by have := HL.out; omega, by go_num, by rw [HS2.out]; exact N'.out, B'.out⟩
        case measure => have := HL.out; simp [intOf]; omega
    · have hI : ¬ (j : Int) < 24 := by omega
      obtain rfl : j = 24 := by omega
      have hv : Hid (some w.heap.size ≠ (Value.slice ya un yc).ownBlock) := own_not PB.out _ (.inl (by have := RR.out.2.2.2; omega))
      have r0 := cell_keep hB RR.out.1.1
      have r1 := cell_keep hB RR.out.1.2
      have f0 : wr.frozen? ⟨w.heap.size, 0, none⟩ = false := by rw [hB.frozen (p := ⟨w.heap.size, 0, none⟩) RR.out.2.2.2]; exact RR.out.2.1
      have f1 : wr.frozen? ⟨w.heap.size, 1, none⟩ = false := by rw [hB.frozen (p := ⟨w.heap.size, 1, none⟩) RR.out.2.2.2]; exact RR.out.2.2.1
      have PM : Hid (Nums wr w.heap.size (.slice ya un yc) (wrL rs qs 24)) := PB.out.mono (by have := RR.out.2.2.2; omega)
      have BM : Hid (Below w.heap.size w wr) := on B1.out HB.out
      clear hB
      go_wp2_with fail
      exact bodyPost_ret (v := .agg #[.int .i64 0, .slice ya un yc]) (by simp [results, Tryz.results75, go_sem, r0, r1]) rfl ⟨_, rfl, (PM.out.put _ _ (fun e => hv.out e.symm)).put _ _ (fun e => hv.out e.symm), (BM.out.setCell (by simp) _).setCell (by simp) _⟩

set_option maxHeartbeats 1000000 in
theorem impl_writable (v u : Value) (rs qs : List (Int × Int)) (b b' : Nat) (w : World) (h : Prs 96 w b v rs) (k : Prs 96 w b' u qs) (hm : rs.length ≤ 1048576) (km : qs.length ≤ 1048576) :
    Calls Tryz.prog 48 #[v, u] w fun e w' => ∃ y, e = .returned (.agg #[.int .i64 (twoV rs 24 qs), y]) ∧ Nums w' w.heap.size y (wrZ rs qs) ∧ Below w.heap.size w w' := by
  have hF := fun w1 (q : Below w.heap.size w w1) => impl_commonW v u rs qs b b' w1 (h.keep q) (k.keep q) hm km
  obtain ⟨a, cap, rfl, _, _, _⟩ := h.shape
  obtain ⟨a', cap', rfl, _, _, _⟩ := k.shape
  generalize twoV rs 24 qs = c at *
  generalize wrZ rs qs = Z at *
  clear h k
  go_enter Tryz.func48, Tryz.ntmps48
  go_wp2_with fail
  refine (hF _ (al (Below.refl _ _) _)).mono ?_
  rintro e w1 ⟨y, rfl, n1, b1⟩
  obtain ⟨ya, yc, rfl, _, _, _⟩ := n1.shape
  have k0 := cell_keep b1 (cell_new (i := 0) rfl)
  have k1 := cell_keep b1 (cell_new (i := 1) rfl)
  have B1 : Hid (Below w.heap.size w w1) := on (al (Below.refl _ _) _) b1
  have z0 : w1.frozen? ⟨w.heap.size, 0, none⟩ = false := by rw [(bcell b1).2 _ _ (by simp)]; simp
  have z1 : w1.frozen? ⟨w.heap.size, 1, none⟩ = false := by rw [(bcell b1).2 _ _ (by simp)]; simp
  have N1 : Hid (Nums w1 _ _ Z) := n1
  have hv : Hid (some w.heap.size ≠ (Value.slice ya Z.length yc).ownBlock) := own_not n1 _ (.inl (by simp))
  clear b1 n1 hF
  go_wp2_with fail
  exact bodyPost_ret (v := .agg #[.int .i64 c, .slice ya Z.length yc]) (by simp [results, Tryz.results48, go_sem, k0, k1]) rfl ⟨_, rfl, ((N1.out.put _ _ (fun e => hv.out e.symm)).put _ _ (fun e => hv.out e.symm)).mono (by simp), (B1.out.setCell (by simp) _).setCell (by simp) _⟩
end Go.Proofs.YtdhdfopkcpkbeaaGreatDoor
