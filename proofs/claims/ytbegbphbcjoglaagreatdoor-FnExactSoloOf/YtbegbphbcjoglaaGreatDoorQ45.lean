/- Texts of this seat, joined. -/
import Derived.Test.YtbegbphbcjoglaaGreatDoorQ06
import Derived.Test.YtbegbphbcjoglaaGreatDoorQ43
namespace Go.Proofs.YtbegbphbcjoglaaGreatDoor
open Go.RowKit
set_option linter.unusedVariables false

theorem spec_none7 (w : World) : Calls Tryz.prog 82 #[] w fun e w' => e = .returned (.agg #[.int .i64 (-1), .int .i64 0]) ∧ Below w.heap.size w w' := by
  go_enter Tryz.func82, Tryz.ntmps82
  go_wp2_with fail
  exact bodyPost_ret (v := .agg #[.int .i64 (-1), .int .i64 0]) (by simp [results, Tryz.results82, go_sem]) rfl ⟨rfl, al (Below.refl _ _) _⟩
theorem prs_empty (e : TypeId) (w : World) (base : Nat) (hb : base ≤ w.heap.size) : Prs e (w.alloc (.cells #[] e)) base (.slice (some ⟨w.heap.size, 0, none⟩) 0 0) [] :=
  World.ownsRow_lit w #[] 0 hb (by decide) rfl
theorem repl_succ (j : Nat) : List.replicate (j + 1) ((-1, 0) : Int × Int) = List.replicate j (-1, 0) ++ [(-1, 0)] := by
  rw [List.replicate_succ']
theorem Prs.at {e : TypeId} {w : World} {base n cap : Nat} {a : Option Addr} {rs : List (Int × Int)} (h : Prs e w base (.slice a n cap) rs) (hn : 0 < rs.length) : ∃ g, a = some ⟨g, 0, none⟩ ∧ n = rs.length ∧ base ≤ g := by
  obtain ⟨a', cap', hv, _, _, hg⟩ := h.shape
  cases hv
  obtain ⟨g, rfl⟩ := hg hn
  exact ⟨g, rfl, rfl, (h.lt g rfl).1⟩

set_option maxRecDepth 20000 in
set_option maxHeartbeats 8000000 in
theorem l7_pages (q : Nat) (gu : Int) (P : Plc) (w : World) (h : PolAt w q P) (hgu : 0 ≤ gu ∧ gu < P.own.length) (hp : pfV P = 0) :
    Calls Tryz.prog 51 #[.pointer (some ⟨q, 0, none⟩), .int .i64 gu] w fun e w' => ∃ v, e = .returned v ∧ Prs 80 w' w.heap.size v (pforM (P.own.getD gu.toNat []) P.lanes gu) ∧ Below w.heap.size w w' := by
  obtain ⟨g, rfl⟩ := Int.eq_ofNat_of_zero_le hgu.1
  have HGN : Hid (g < P.own.length) := by have := hgu.2; show _ < _; omega
  rw [Int.toNat_natCast]
  obtain ⟨a0, n0, c0, a1, n1, c1, a2, n2, c2, a3, n3, c3, h0, h1, h2, h3, h4⟩ := h
  have H0 : Hid (w.cell? ⟨q, 0, none⟩ = some (.slice a0 n0 c0)) := h0
  have H1 : Hid (w.cell? ⟨q, 1, none⟩ = some (.slice a1 n1 c1)) := h1
  have HO : Hid (IsS2 w a0 n0 c0 P.own) := h4.own
  have HLA : Hid (IsLanes w a1 n1 c1 P.lanes) := h4.lanes
  have HL1 : Hid (n1 = P.lanes.length) := h4.lanes.len
  have hgn : g < n0 := by have := h4.own.len; have := HGN.out; omega
  have hgI : (g : Int) < (n0 : Int) := by omega
  have hn0 : (n0 : Int) ≤ 3 := by have := h4.own.len; have := (pf_parts P hp).1; omega
  have hn1 : (n1 : Int) ≤ 4 := by have := h4.lanes.len; have := (pf_parts P hp).2.2.2.2.1; omega
  have OK : Hid (∀ l ∈ P.lanes, LnOk l) := (pf_lanes P hp).1
  obtain ⟨x, b, l, c, rfl, k1, k2⟩ := HO.out.at g hgn
  have K1 : Hid (w.cell? (x.add g) = some (.slice b l c)) := k1
  have HN : Hid (IsNs w b l c (P.own.getD g [])) := k2
  have HNL : Hid (l = (P.own.getD g []).length) := k2.len
  have hl5 : (l : Int) ≤ 5 := by have := k2.len; have := (pf_own P hp g HGN.out).2.1; omega
  clear h0 h1 h2 h3 h4 hgu k1 k2 hp
  go_enter Tryz.func51, Tryz.ntmps51
  go_wp2_with fail
  go_loopw [5, 6] (fun v c wr => ∃ j : Nat, j ≤ 8 ∧ c = .int .i64 j ∧ Prs 80 wr w.heap.size v (List.replicate j (-1, 0)) ∧ Below w.heap.size w wr) (fun _ c _ => 8 - (intOf c).toNat)
  case atStart => exact ⟨0, Nat.zero_le _, rfl, by first | exact prs_empty _ _ _ (Nat.le_refl _) | simpa using prs_empty _ _ _ (Nat.le_refl _), al (Below.refl _ _) _⟩
  case round =>
    obtain ⟨j, hj, rfl, hN, hB⟩ := hrel
    have HNN : Hid (Prs _ wr _ _ _) := hN
    have HB : Hid (Below _ w wr) := hB
    obtain ⟨ya, yc, hz, _, _, _⟩ := hN.shape
    rw [List.length_replicate] at hz
    subst hz
    by_cases hlt : j < 8
    · have hJ : (j : Int) < 8 := by omega
      have HLT : Hid (j < 8) := hlt
      have SZ0 : Hid (w.heap.size ≤ wr.heap.size) := hB.size
      clear hN hB hlt
      go_wp2_with fail
      refine (spec_none7 _).mono ?_
      rintro e w2 ⟨rfl, b2⟩
      have B2 : Hid (Below _ w w2) := on HB.out b2
      have N2 : Hid (Prs _ w2 _ _ _) := HNN.out.keep b2
      have SZ : Hid (w.heap.size ≤ w2.heap.size) := (on HB.out b2).size
      clear b2
      go_wp2_with (at_builtin; refine wp_pair 32 80 Tryz.underlying32 info_page _ rfl _ _ rfl w.heap.size _ _ rfl (N2.out.keep (al (Below.refl _ _) _)) w2.heap.size (-1) 0 rfl (cell_new rfl) (cell_new rfl) (by rw [List.length_replicate]; have := HLT.out; omega) (by have := SZ.out; simp; omega) ?_; intro v' w' hN' hG')
      have N' : Hid (Prs _ w' _ v' _) := hN'
      have B' : Hid (Below w.heap.size w w') := (al B2.out _).grown hG' (by have := SZ.out; simp; omega) (fun k hk => (N2.out.lt k hk).1)
      clear hN' hG'
      go_wp2_with fail
      go_roundw
      case rel => exact ⟨j + 1, by have := HLT.out; omega, by go_num, by rw [repl_succ]; exact N'.out, B'.out⟩
      case measure => have := HLT.out; simp [intOf]; omega
    · have hJ : ¬ (j : Int) < 8 := by omega
      obtain rfl : j = 8 := by omega
      obtain ⟨gb, rfl, -, hgb⟩ := hN.at (by simp)
      have HGB : Hid (w.heap.size ≤ gb) := hgb
      have D0 : Hid (ownL (List.replicate 8 (-1, 0)) (P.own.getD g []) 0 = List.replicate 8 (-1, 0)) := rfl
      have DS : Hid (∀ j, ownL (List.replicate 8 (-1, 0)) (P.own.getD g []) (j + 1) = (ownL (List.replicate 8 (-1, 0)) (P.own.getD g []) j).set j ((P.own.getD g []).getD j 0, 7)) := fun _ => rfl
      have DL : Hid (∀ j, (ownL (List.replicate 8 (-1, 0)) (P.own.getD g []) j).length = 8) := fun j => by rw [ownL_len]; simp
      have DE : Hid (pforM (P.own.getD g []) P.lanes (g : Int) = layL (g : Int) (ownL (List.replicate 8 (-1, 0)) (P.own.getD g []) l) P.lanes) := by show _ = _; rw [pforM, ← HNL.out]
      generalize ownL (List.replicate 8 (-1, 0)) (P.own.getD g []) = D at *
      clear hN hB hlt hgb
      go_wp2_with fail
      go_loopw [7] (fun c wq => ∃ k : Nat, k ≤ l ∧ c = .int .i64 k ∧ Prs 80 wq w.heap.size (.slice (some ⟨gb, 0, none⟩) 8 yc) (D k) ∧ Below w.heap.size w wq) (fun c _ => l - (intOf c).toNat)
      case atStart => exact ⟨0, Nat.zero_le _, rfl, by rw [D0.out]; exact HNN.out, HB.out⟩
      case round =>
        clear HNN HB
        obtain ⟨k, hk, rfl, hN, hB⟩ := hrel
        have HNN : Hid (Prs _ wr _ _ _) := hN
        have HB : Hid (Below _ w wr) := hB
        have h0 := cell_keep hB H0.out
        have kk := cell_keep hB K1.out
        by_cases hlt : k < l
        · rcases HN.out.stay hB with ⟨_, e1, _, _⟩ | ⟨y, rfl, e1, e2, e3, e4⟩
          · omega
          have d0 := e4 k hlt
          have hK : (k : Int) < (l : Int) := by omega
          have hK8 : (k : Int) < 8 := by omega
          have HLT : Hid (k < l) := hlt
          have H8 : Hid (k < 8) := by show _ < _; omega
          have hc := hN.cell (DL.out k).symm k (by omega)
          obtain ⟨hc0, hc1⟩ := hc
          have hf0 := hN.free (DL.out k).symm (k * 2)
          have hf1 := hN.free (DL.out k).symm (k * 2 + 1)
          have S2 : Hid (D (k + 1) = (D k).set k ((P.own.getD g []).getD k 0, 7)) := DS.out k
          generalize (P.own.getD g []).getD k 0 = zz at *
          generalize ((D k).getD k (0, 0)).1 = o1 at *
          generalize ((D k).getD k (0, 0)).2 = o2 at *
          clear e1 e2 e3 e4 hlt hN hB
          go_wp2_with fail
          go_roundw
          case rel =>
            refine ⟨k + 1, by have := HLT.out; omega, by go_num, ?_, (HB.out.setCell (by have := HGB.out; show w.heap.size ≤ gb; omega) _).setCell (by have := HGB.out; show w.heap.size ≤ gb; omega) _⟩
            rw [S2.out]
            exact HNN.out.store (DL.out k).symm k zz 7 H8.out
          case measure => have := HLT.out; simp [intOf]; omega
        · have hK : ¬ (k : Int) < (l : Int) := by omega
          have HK : Hid (k = l) := by show _ = _; omega
          have LL8 : Hid ((D k).length = 8) := DL.out k
          have EE : Hid (pforM (P.own.getD g []) P.lanes (g : Int) = layL (g : Int) (D k) P.lanes) := by show _ = _; rw [DE.out, HK.out]
          generalize D k = D2 at *
          clear hN hB hlt D0 DS DL DE hk HK
          go_wp2_with fail
          clear h0 kk
          go_loopw [8, 9] (fun c _ wq => ∃ (i : Nat) (o : List (Int × Int)), i ≤ n1 ∧ c = .int .i64 i ∧ Prs 80 wq w.heap.size (.slice (some ⟨gb, 0, none⟩) 8 yc) o ∧ Below w.heap.size w wq ∧ Hid (o.length = 8) ∧ Hid (layL (g : Int) D2 P.lanes = layL (g : Int) o (P.lanes.drop i))) (fun c _ _ => n1 - (intOf c).toNat)
          case atStart => exact ⟨0, D2, Nat.zero_le _, rfl, HNN.out, HB.out, LL8, by show _ = _; simp⟩
          case round =>
            clear HNN HB hK
            obtain ⟨i, o, hi, rfl, hN, hB, hO8, hI⟩ := hrel
            have HNN : Hid (Prs _ wr _ _ o) := hN
            have HB : Hid (Below _ w wr) := hB
            have h1 := cell_keep hB H1.out
            by_cases hlt : i < n1
            · obtain ⟨xl, rfl, k0, k1, k2, k3, k4⟩ := (HLA.out.stay hB).at i hlt
              have hJ3 : (i : Int) < (n1 : Int) := by omega
              have HLT : Hid (i < n1) := hlt
              have ST : Hid (_ = _) := layL_step (g : Int) o P.lanes i (by have := HL1.out; omega)
              have OKL := OK.out _ (getD_mem P.lanes lz i (by have := HL1.out; omega))
              obtain ⟨⟨ofr, odst, opg, oaf, ott⟩, hO⟩ : ∃ O, P.lanes.getD i lz = O := ⟨_, rfl⟩
              rw [hO] at k0 k1 k2 k3 k4 ST OKL
              simp only at k0 k1 k2 k3 k4
              obtain ⟨z1, ⟨z2, z3⟩, ⟨z4, z5⟩⟩ := OKL
              simp only at z1 z2 z3 z4 z5
              obtain ⟨af, rfl⟩ := Int.eq_ofNat_of_zero_le (show (0 : Int) ≤ oaf by omega)
              obtain ⟨tt, rfl⟩ := Int.eq_ofNat_of_zero_le (show (0 : Int) ≤ ott by omega)
              have ha8 : (af : Int) < 8 := by omega
              have ht8 : (tt : Int) < 8 := by omega
              have HA8 : Hid (af < 8 ∧ tt < 8) := ⟨by omega, by omega⟩
              have NA : Hid (Prs _ (wr.alloc (.cells #[.int .i64 ofr, .int .i64 odst, .int .i64 opg, .int .i64 (af : Int), .int .i64 (tt : Int)] 108)) _ _ o) := HNN.out.keep (al (Below.refl _ _) _)
              have BA : Hid (Below w.heap.size w (wr.alloc (.cells #[.int .i64 ofr, .int .i64 odst, .int .i64 opg, .int .i64 (af : Int), .int .i64 (tt : Int)] 108))) := al HB.out _
              have hca := hN.cell hO8.out.symm af (by omega)
              have hct := hN.cell hO8.out.symm tt (by omega)
              obtain ⟨ca0, ca1⟩ := hca
              obtain ⟨ct0, ct1⟩ := hct
              have fa0 := hN.free hO8.out.symm (af * 2)
              have fa1 := hN.free hO8.out.symm (af * 2 + 1)
              have ft0 := hN.free hO8.out.symm (tt * 2)
              have ft1 := hN.free hO8.out.symm (tt * 2 + 1)
              have gbl : gb < wr.heap.size := block_of_cell ca0
              generalize (o.getD af (0, 0)).1 = o1 at *
              generalize (o.getD af (0, 0)).2 = o2 at *
              generalize (o.getD tt (0, 0)).1 = o3 at *
              generalize (o.getD tt (0, 0)).2 = o4 at *
              clear hO hlt hB hN z2 z3 z4 z5
              by_cases e1 : ofr = (g : Int)
              · have e2 : ¬ odst = (g : Int) := fun e => z1 (by rw [e1, e])
                have S2 : Hid (layL (g : Int) D2 P.lanes = layL (g : Int) (o.set af (opg, 3)) (P.lanes.drop (i + 1))) := by
                  show _ = _
                  rw [hI.out, ST.out]
                  simp [set2, set1, e1, e2]
                clear ST z1
                go_wp2_with fail
                go_roundw
                case rel =>
                  refine ⟨i + 1, o.set af (opg, 3), by have := HLT.out; omega, by go_num, ?_, ?_, by show _ = _; rw [List.length_set]; exact hO8.out, S2⟩
                  · first
                      | exact (HNN.out.store hO8.out.symm af opg 3 HA8.out.1).keep (al (Below.refl _ _) _)
                      | exact NA.out.store hO8.out.symm af opg 3 HA8.out.1
                  · first
                      | exact (BA.out.setCell (by have := HGB.out; show w.heap.size ≤ gb; omega) _).setCell (by have := HGB.out; show w.heap.size ≤ gb; omega) _
                      | exact al ((HB.out.setCell (by have := HGB.out; show w.heap.size ≤ gb; omega) _).setCell (by have := HGB.out; show w.heap.size ≤ gb; omega) _) _
                case measure => have := HLT.out; simp [intOf]; omega
              · by_cases e2 : odst = (g : Int)
                · have S2 : Hid (layL (g : Int) D2 P.lanes = layL (g : Int) (o.set tt (opg, 1)) (P.lanes.drop (i + 1))) := by
                    show _ = _
                    rw [hI.out, ST.out]
                    simp [set2, set1, e1, e2]
                  clear ST z1
                  go_wp2_with fail
                  go_roundw
                  case rel =>
                    refine ⟨i + 1, o.set tt (opg, 1), by have := HLT.out; omega, by go_num, ?_, ?_, by show _ = _; rw [List.length_set]; exact hO8.out, S2⟩
                    · first
                        | exact (HNN.out.store hO8.out.symm tt opg 1 HA8.out.2).keep (al (Below.refl _ _) _)
                        | exact NA.out.store hO8.out.symm tt opg 1 HA8.out.2
                    · first
                        | exact (BA.out.setCell (by have := HGB.out; show w.heap.size ≤ gb; omega) _).setCell (by have := HGB.out; show w.heap.size ≤ gb; omega) _
                        | exact al ((HB.out.setCell (by have := HGB.out; show w.heap.size ≤ gb; omega) _).setCell (by have := HGB.out; show w.heap.size ≤ gb; omega) _) _
                  case measure => have := HLT.out; simp [intOf]; omega
                · have S2 : Hid (layL (g : Int) D2 P.lanes = layL (g : Int) o (P.lanes.drop (i + 1))) := by
                    show _ = _
                    rw [hI.out, ST.out]
                    simp [set2, set1, e1, e2]
                  clear ST z1
                  go_wp2_with fail
                  go_roundw
                  case rel => exact ⟨i + 1, o, by have := HLT.out; omega, by go_num, NA.out, BA.out, hO8, S2⟩
                  case measure => have := HLT.out; simp [intOf]; omega
            · have hJ3 : ¬ (i : Int) < (n1 : Int) := by omega
              have HI : Hid (i = n1) := by show _ = _; omega
              have EO : Hid (pforM (P.own.getD g []) P.lanes (g : Int) = o) := by show _ = _; rw [EE.out, hI.out, List.drop_of_length_le (by have := HL1.out; have := HI.out; omega)]; rfl
              clear hlt hB hN
              go_wp2_with fail
              go_ret
              have eo := EO.out
              first | rw [eo] | (simp only [List.getD_eq_getElem?_getD] at eo; rw [eo])
              exact ⟨_, rfl, HNN.out, HB.out⟩

end Go.Proofs.YtbegbphbcjoglaaGreatDoor
