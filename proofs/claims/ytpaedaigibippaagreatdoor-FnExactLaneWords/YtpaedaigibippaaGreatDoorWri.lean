/- Words of pages, by the program. -/
import Derived.Test.YtpaedaigibippaaGreatDoorWrv
namespace Go.Proofs.YtpaedaigibippaaGreatDoor
open Go.RowKit
set_option linter.unusedVariables false

theorem Pags.shape {w : World} {base n : Nat} {v : Value} {zs : List Int} (h : Pags w base v n zs) : ∃ a cap, v = .slice a n cap ∧ n ≤ cap ∧ cap ≤ maxLen ∧ (0 < n → ∃ g, a = some ⟨g, 0, none⟩) := by
  have h' := h
  obtain ⟨h1, ⟨rfl, h3⟩ | ⟨g, cap, cur, rfl, _, _, h4, h5, _⟩⟩ := h'
  · exact ⟨none, 0, by rw [h3], by omega, by unfold maxLen; omega, fun hz => by omega⟩
  · exact ⟨_, _, rfl, h4, h5, fun _ => ⟨g, rfl⟩⟩
theorem Pags.lt {w : World} {base n : Nat} {v : Value} {zs : List Int} (h : Pags w base v n zs) : ∀ k, v.ownBlock = some k → base ≤ k ∧ k < w.heap.size := World.ownsRow.lt h
theorem Pags.nil (w : World) (base : Nat) : Pags w base (.slice none 0 0) 0 [] := World.ownsRow_nil w base _ _
theorem eight_list (zs : List Int) (p : Nat) (h : p * 8 + 8 ≤ zs.length) : eight zs p = [zs.getD (p * 8) 0, zs.getD (p * 8 + 1) 0, zs.getD (p * 8 + 2) 0, zs.getD (p * 8 + 3) 0, zs.getD (p * 8 + 4) 0, zs.getD (p * 8 + 5) 0, zs.getD (p * 8 + 6) 0, zs.getD (p * 8 + 7) 0] := by
  have h1 := take_eight zs (p * 8) h
  rw [List.take_add] at h1
  exact List.append_cancel_left h1

/-- append of one page to a slice of pages of the call's own. -/
theorem wp_pag {ops : Array Oper} {rest : List Oper} {o : Oper} {act : Act} {Q : Exit → Act → World → Prop} (w : World) (hgd : o.guard = none) (s x : Operand)
    (ho : o.op = .call { callee := .builtin .append, args := #[s, x], argTypes := #[87, 87] }) (base : Nat) (v : Value) (n : Nat) (zs : List Int) (hs : act.eval s = v) (hN : Pags w base v n zs)
    (B : Nat) (ys : List Int) (hy : ys.length = 8) (hx : act.eval x = .slice (some ⟨B, 0, none⟩) 1 1) (hc : ∀ i, i < 8 → w.cell? ⟨B, i, none⟩ = some (.int .i64 (ys.getD i 0)))
    (hlen : n ≤ 1000) (hbase : base ≤ w.heap.size)
    (h : ∀ v' w', Pags w' base v' (n + 1) (zs ++ ys) → w.grownBy w' v.ownBlock → wpList Tryz.prog ops Q rest (act.put o.dst v') w') : wpList Tryz.prog ops Q (o :: rest) act w := by
  obtain ⟨i, hi, hz0, hz1, hz2⟩ := info_parts info_wpage
  refine wpList_append_own w hgd s x 87 ho base 90 i _ 8 64 Tryz.underlying87 hi hz0 hz1 hz2 rfl (by decide) v n _ hs hN ⟨B, 0, none⟩ 1 1 (ys.map (Value.int .i64)) hx (by simpa using hy) ?_ ?_ (by unfold maxLen; omega) (by omega) hbase ?_
  · intro j u hj
    have hjl : j < ys.length := by have := (List.getElem?_eq_some_iff.1 hj).1; simpa using this
    rw [List.getElem?_map, List.getElem?_eq_getElem hjl] at hj
    have := hc j (by omega)
    rw [List.getD, List.getElem?_eq_getElem hjl] at this
    rw [show (⟨B, 0, none⟩ : Addr).add j = ⟨B, j, none⟩ by rw [Addr.add_lit]; simp, this]
    exact hj
  · intro u hu
    obtain ⟨z, _, rfl⟩ := List.mem_map.1 hu
    rfl
  · intro v' w' hown hgrow _
    refine h v' w' ?_ hgrow
    unfold Pags
    rw [List.map_append]
    exact hown

set_option maxRecDepth 20000 in
set_option maxHeartbeats 4000000 in
theorem i_wordsOn (gm n cap b : Nat) (ms : List Int) (ap : Option Addr) (lp cp : Nat) (ps : List Int) (w : World) (h : Nums w b (.slice (some ⟨gm, 0, none⟩) n cap) ms) (hm : ms.length = 192) (hp : IsNs w ap lp cp ps) (hr : ∀ x ∈ ps, 0 ≤ x ∧ x ≤ 23) (hl : 1 ≤ ps.length ∧ ps.length ≤ 5) :
    Calls Tryz.prog 32 #[.slice (some ⟨gm, 0, none⟩) n cap, .slice ap lp cp] w fun e w' => ∃ v, e = .returned v ∧ Nums w' w.heap.size v (wordsL ms ps) ∧ Below w.heap.size w w' := by
  have HM : Hid (Nums w b (.slice (some ⟨gm, 0, none⟩) n cap) ms) := h
  have HP : Hid (IsNs w ap lp cp ps) := hp
  have HR : Hid (∀ x ∈ ps, 0 ≤ x ∧ x ≤ 23) := hr
  have HLP : Hid (lp = ps.length ∧ 1 ≤ lp ∧ lp ≤ 5) := ⟨hp.len, by have := hp.len; omega, by have := hp.len; omega⟩
  have HMS : Hid (ms.length = 192) := hm
  have hlpI : (lp : Int) ≤ 5 := by have := HLP.out; omega
  clear h hp hr hl hm
  go_enter Tryz.func32, Tryz.ntmps32
  go_wp2_with fail
  refine (impl_cut gm n cap ms b 24 _ HM.out (by rw [HMS.out]) (by decide) (by decide)).mono ?_
  rintro e w1 ⟨g, rfl, pg, b1⟩
  have PG : Hid (Pags w1 _ (.slice (some ⟨g, 0, none⟩) 24 24) 24 ms) := pg
  have B1 : Hid (Below w.heap.size w w1) := b1
  clear pg b1
  go_wp2_with fail
  go_loopw [6, 8, 13] (fun v _ c wr => ∃ j : Nat, j ≤ lp ∧ c = .int .i64 j ∧ Pags wr w1.heap.size v j (wordsL ms (ps.take j)) ∧ Below w1.heap.size w1 wr) (fun _ _ c _ => lp - (intOf c).toNat)
  case atStart => exact ⟨0, Nat.zero_le _, rfl, Pags.nil _ _, Below.refl _ _⟩
  case round =>
    obtain ⟨j, hj, rfl, hN, hB⟩ := hrel
    have HN : Hid (Pags wr _ _ j _) := hN
    have HB : Hid (Below _ w1 wr) := hB
    obtain ⟨ya, yc, hz, _, _, hsome⟩ := hN.shape
    subst hz
    by_cases hlt : j < lp
    · rcases HP.out.stay (on B1.out hB) with ⟨_, e1, _, _⟩ | ⟨y, rfl, e1, e2, e3, e4⟩
      · omega
      have d0 := e4 j hlt
      have hJ : (j : Int) < (lp : Int) := by omega
      have HLT : Hid (j < lp) := hlt
      have hin := HR.out _ (getD_mem ps 0 j (by have := HLP.out; omega))
      have TK : Hid (_ = _) := wordsL_take ms ps j (by have := HLP.out; omega)
      obtain ⟨z, hz⟩ : ∃ z, ps.getD j 0 = z := ⟨_, rfl⟩
      rw [hz] at d0 hin TK
      clear hz e1 e2 e3 e4
      obtain ⟨p, rfl⟩ := Int.eq_ofNat_of_zero_le hin.1
      have hp24 : (p : Int) < 24 := by omega
      have hpN : p < 24 := by omega
      have EL : Hid (wordsL ms (ps.take (j + 1)) = wordsL ms (ps.take j) ++ [ms.getD (p * 8) 0, ms.getD (p * 8 + 1) 0, ms.getD (p * 8 + 2) 0, ms.getD (p * 8 + 3) 0, ms.getD (p * 8 + 4) 0, ms.getD (p * 8 + 5) 0, ms.getD (p * 8 + 6) 0, ms.getD (p * 8 + 7) 0]) := by
        show _ = _
        rw [TK.out, Int.toNat_natCast, eight_list ms p (by have := HMS.out; omega)]
      have hpc := fun k (hk : k < 24 * 8) => cell_keep hB (PG.out.cell k hk)
      have f0 := hpc (p * 8) (by omega)
      have f1 := hpc (p * 8 + 1) (by omega)
      have f2 := hpc (p * 8 + 2) (by omega)
      have f3 := hpc (p * 8 + 3) (by omega)
      have f4 := hpc (p * 8 + 4) (by omega)
      have f5 := hpc (p * 8 + 5) (by omega)
      have f6 := hpc (p * 8 + 6) (by omega)
      have f7 := hpc (p * 8 + 7) (by omega)
      generalize ms.getD (p * 8) 0 = x0 at *
      generalize ms.getD (p * 8 + 1) 0 = x1 at *
      generalize ms.getD (p * 8 + 2) 0 = x2 at *
      generalize ms.getD (p * 8 + 3) 0 = x3 at *
      generalize ms.getD (p * 8 + 4) 0 = x4 at *
      generalize ms.getD (p * 8 + 5) 0 = x5 at *
      generalize ms.getD (p * 8 + 6) 0 = x6 at *
      generalize ms.getD (p * 8 + 7) 0 = x7 at *
      have SZ : Hid (w1.heap.size ≤ wr.heap.size) := hB.size
      clear hpc hin TK hlt hN hB hsome
      go_wp2_with (at_builtin; refine wp_pag _ rfl _ _ rfl w1.heap.size _ j _ rfl (HN.out.keep (al (Below.refl _ _) _)) wr.heap.size [x0, x1, x2, x3, x4, x5, x6, x7] rfl rfl (cells_eight _ _ _ _ _ _ _ _ _ _) (by have := HLT.out; have := HLP.out; omega) (by have := SZ.out; simp; omega) ?_; intro v' w' hN' hG')
      have N' : Hid (Pags w' _ v' (j + 1) _) := hN'
      have B' : Hid (Below w1.heap.size w1 w') := (al HB.out _).grown hG' (by have := SZ.out; simp; omega) (fun k hk => (HN.out.lt k hk).1)
      clear hN' hG'
      go_wp2_with fail
      go_roundw
      case rel => exact ⟨j + 1, by have := HLT.out; omega, by go_num, by rw [EL.out]; exact N'.out, B'.out⟩
      case measure => have := HLT.out; simp [intOf]; omega
    · have hJ : ¬ (j : Int) < (lp : Int) := by omega
      have HJ : Hid (j = lp) := by show _ = _; omega
      obtain ⟨gg, rfl⟩ := hsome (by have := HLP.out; omega)
      have ET : Hid (wordsL ms (ps.take j) = wordsL ms ps) := by show _ = _; rw [List.take_of_length_le (by have := HLP.out; have := HJ.out; omega)]
      clear hlt hN hB hsome
      go_wp2_with fail
      refine (impl_join _ _ _ _ _ _ HN.out (by have := HJ.out; have := HLP.out; omega)).mono ?_
      rintro e w2 ⟨v, rfl, n2', b2⟩
      have B2 : Hid (Below w.heap.size w w2) := on B1.out (on HB.out b2)
      have N2 : Hid (Nums w2 w.heap.size v (wordsL ms ps)) := by rw [ET.out] at n2'; exact n2'.mono ((on B1.out HB.out).size)
      clear b2 n2'
      go_wp2_with fail
      go_ret
      exact ⟨_, rfl, N2.out, B2.out⟩

set_option maxRecDepth 20000 in
set_option maxHeartbeats 4000000 in
theorem i_wordsOf (a0 a1 a2 a3 : Option Addr) (n0 c0 n1 c1 n2 c2 n3 c3 : Nat) (P : Plc) (b lm cm : Nat) (gm : Nat) (ms : List Int) (gu : Int) (w : World) (h : Pl w a0 n0 c0 a1 n1 c1 a2 n2 c2 a3 n3 c3 P) (hm : Nums w b (.slice (some ⟨gm, 0, none⟩) lm cm) ms) (hg : w.cell? ⟨0, 0, none⟩ = some (.iface 129 (.agg #[.pointer (some ⟨1, 97, none⟩)]))) :
    Calls Tryz.prog 9 #[.agg #[.slice a0 n0 c0, .slice a1 n1 c1, .slice a2 n2 c2, .slice a3 n3 c3], .slice (some ⟨gm, 0, none⟩) lm cm, .int .i64 gu] w fun e w' => ∃ v, e = .returned (.agg #[.int .i64 (wordsC P ms gu), v]) ∧ Nums w' w.heap.size v (wordsZ P ms gu) ∧ Below w.heap.size w w' := by
  generalize hW : ((w.alloc (.cells #[.slice a0 n0 c0, .slice a1 n1 c1, .slice a2 n2 c2, .slice a3 n3 c3] 37))).alloc (.cells #[.int .i64 0, .slice none 0 0] 31) = W
  have B0 : Hid (Below w.heap.size w W) := by show Below _ _ _; rw [← hW]; exact al (al (Below.refl _ _) _) _
  obtain ⟨s, hS⟩ : ∃ s, w.heap.size = s := ⟨_, rfl⟩
  have HSs : Hid (w.heap.size = s) := hS
  have Q : Hid (W.cell? ⟨s, 0, none⟩ = some (.slice a0 n0 c0) ∧ W.cell? ⟨s, 1, none⟩ = some (.slice a1 n1 c1) ∧ W.cell? ⟨s, 2, none⟩ = some (.slice a2 n2 c2) ∧ W.cell? ⟨s, 3, none⟩ = some (.slice a3 n3 c3)) := by
    show _ ∧ _
    rw [← hW, ← hS]
    exact ⟨cell_push _ (cell_new rfl), cell_push _ (cell_new rfl), cell_push _ (cell_new rfl), cell_push _ (cell_new rfl)⟩
  have R : Hid (RsI W s) := by
    have z1 : s + 1 = ((w.alloc (.cells #[.slice a0 n0 c0, .slice a1 n1 c1, .slice a2 n2 c2, .slice a3 n3 c3] 37))).heap.size := by rw [← hS]; simp
    show RsI W s
    unfold RsI
    rw [← hW, z1]
    exact ⟨cell_new rfl, cell_new rfl, fz_new _ _ _ _, fz_new _ _ _ _, by simp⟩
  have HP : Hid (Pl W a0 n0 c0 a1 n1 c1 a2 n2 c2 a3 n3 c3 P) := h.stay B0.out
  have HA : Hid (PolAt W s P) := ⟨_, _, _, _, _, _, _, _, _, _, _, _, Q.out.1, Q.out.2.1, Q.out.2.2.1, Q.out.2.2.2, HP.out⟩
  have HM : Hid (Nums W b (.slice (some ⟨gm, 0, none⟩) lm cm) ms) := hm.keep B0.out
  have HG : Hid (_ = _) := cell_keep B0.out hg
  clear h hg hm
  have q0 := Q.out.1
  have q1 := Q.out.2.1
  have q2 := Q.out.2.2.1
  have q3 := Q.out.2.2.2
  go_enter Tryz.func9, Tryz.ntmps9
  go_wp2_with fail
  clear hW hS
  refine (i_asked _ _ _ _ _ _ _ _ _ _ _ _ P _ _ HP.out HG.out).mono ?_
  rintro e w1 ⟨rfl, b1⟩
  have B1 : Hid (Below w.heap.size w w1) := on B0.out b1
  have R1 : Hid (RsI w1 s) := R.out.keep b1
  obtain ⟨r0, r1, f0, f1, lt⟩ := R1.out
  have Q1 : Hid (w1.cell? ⟨s, 0, none⟩ = some (.slice a0 n0 c0) ∧ w1.cell? ⟨s, 1, none⟩ = some (.slice a1 n1 c1)) := ⟨cell_keep b1 Q.out.1, cell_keep b1 Q.out.2.1⟩
  have HPw : Hid (Pl w1 a0 n0 c0 a1 n1 c1 a2 n2 c2 a3 n3 c3 P) := HP.out.stay b1
  have HMw : Hid (Nums w1 b (.slice (some ⟨gm, 0, none⟩) lm cm) ms) := HM.out.keep b1
  clear b1 q0 q1 q2 q3
  by_cases hz : askV P gu = 0
  case neg =>
    have CV : Hid (wordsC P ms gu = askV P gu) := by show _ = _; rw [wordsC, if_neg hz]
    have ZV : Hid (wordsZ P ms gu = []) := by show _ = _; rw [wordsZ, if_neg (by rw [CV.out]; exact hz)]
    generalize hv : askV P gu = v at *
    go_wp2_with fail
    exact bodyPost_ret (v := .agg #[.int .i64 v, .slice none 0 0]) (by simp [results, Tryz.results9, go_sem, r0, r1]) rfl ⟨.slice none 0 0, by rw [CV.out], by rw [ZV.out]; exact Nums.nil _ _, (B1.out.setCell (by have := HSs.out; show w.heap.size ≤ s + 1; omega) _).setCell (by have := HSs.out; show w.heap.size ≤ s + 1; omega) _⟩
  have AZ : Hid (askV P gu = 0) := hz
  have GU : Hid (0 ≤ gu ∧ gu < P.own.length) := ask_guest P gu hz
  obtain ⟨g, rfl⟩ := Int.eq_ofNat_of_zero_le GU.out.1
  have HGN : Hid (g < n0) := by have := HPw.out.own.len; have := GU.out.2; show _ < _; omega
  have hgI : (g : Int) < (n0 : Int) := by have := HGN.out; omega
  have hn0 : (n0 : Int) ≤ 9223372036854775807 := by have := HPw.out.own.cap; unfold maxLen at this; omega
  cases hw : wholeB ms with
  | false =>
    have CV : Hid (wordsC P ms (g : Int) = 1) := by show _ = _; rw [wordsC, if_pos AZ.out, hw]; rfl
    have ZV : Hid (wordsZ P ms (g : Int) = []) := by show _ = _; rw [wordsZ, if_neg (by rw [CV.out]; decide)]
    rw [hz]
    clear hz
    go_wp2_with (go_at_call 31; refine (i_whole _ ms b _ HMw.out).mono ?_; rintro e w1 ⟨rfl, rfl⟩; rw [hw])
    exact bodyPost_ret (v := .agg #[.int .i64 1, .slice none 0 0]) (by simp [results, Tryz.results9, go_sem, r0, r1]) rfl ⟨.slice none 0 0, by rw [CV.out], by rw [ZV.out]; exact Nums.nil _ _, (B1.out.setCell (by have := HSs.out; show w.heap.size ≤ s + 1; omega) _).setCell (by have := HSs.out; show w.heap.size ≤ s + 1; omega) _⟩
  | true =>
    have CV : Hid (wordsC P ms (g : Int) = 0) := by show _ = _; rw [wordsC, if_pos AZ.out, hw]; rfl
    have hwW : wholeB ms = true := hw
    have HWW : Hid (wholeB ms = true) := hw
    clear hwW
    rw [hz]
    clear hz
    obtain ⟨x, bb, ll, cc, rfl, k1, k2⟩ := HPw.out.own.at g HGN.out
    have NSP : Hid (IsNs w1 bb ll cc (P.own.getD g [])) := k2
    have OW : Hid (1 ≤ (P.own.getD g []).length ∧ (P.own.getD g []).length ≤ 5 ∧ ∀ x ∈ P.own.getD g [], 0 ≤ x ∧ x ≤ 23) := pf_own P (ask_pf P (g : Int) AZ.out) g (by have := GU.out; omega)
    have ZV : Hid (wordsZ P ms (g : Int) = wordsL ms (P.own.getD g [])) := by show _ = _; rw [wordsZ, if_pos CV.out, Int.toNat_natCast]
    have q0 := Q1.out.1
    generalize P.own.getD g [] = ow at *
    clear k2
    go_wp2_with (go_at_call 31; refine (i_whole _ ms b _ HMw.out).mono ?_; rintro e w1 ⟨rfl, rfl⟩; rw [hw])
    have hwW := HWW.out
    refine (i_wordsOn _ _ _ _ _ _ _ _ _ _ HMw.out (by unfold wholeB at hwW; simp at hwW; exact hwW.1) NSP.out OW.out.2.2 ⟨OW.out.1, OW.out.2.1⟩).mono ?_
    rintro e w2 ⟨v, rfl, n2', b2⟩
    clear hwW
    have B2 : Hid (Below w.heap.size w w2) := on B1.out b2
    have D2 : Hid (Below w1.heap.size w1 w2) := b2
    obtain ⟨ya, yc, hv, _, _, _⟩ := n2'.shape
    have NN : Hid (Nums w2 w.heap.size v (wordsL ms ow)) := n2'.mono (B1.out.size)
    have NL : Hid (∀ k, v.ownBlock = some k → w1.heap.size ≤ k) := fun k e => (n2'.lt k e).1
    have LT : Hid (s + 1 < w1.heap.size) := R1.out.2.2.2.2
    generalize (wordsL ms ow).length = ln at hv
    subst hv
    obtain ⟨r0, r1, f0, f1, lt⟩ := R1.out.keep D2.out
    clear b2 n2'
    go_wp2_with fail
    refine bodyPost_ret (v := .agg #[.int .i64 0, .slice ya ln yc]) (by simp [results, Tryz.results9, go_sem, r0, r1]) rfl ⟨.slice ya ln yc, by rw [CV.out], ?_, (B2.out.setCell (by have := HSs.out; show w.heap.size ≤ s + 1; omega) _).setCell (by have := HSs.out; show w.heap.size ≤ s + 1; omega) _⟩
    have ne : (Value.slice ya ln yc).ownBlock ≠ some (s + 1) := fun e => by have := NL.out _ e; have := LT.out; omega
    rw [ZV.out]
    exact (NN.out.put ⟨s + 1, 0, none⟩ (.int .i64 0) ne).put ⟨s + 1, 1, none⟩ (.slice ya ln yc) ne

set_option maxRecDepth 20000 in
set_option maxHeartbeats 4000000 in
theorem i_laneWords (a0 a1 a2 a3 : Option Addr) (n0 c0 n1 c1 n2 c2 n3 c3 : Nat) (P : Plc) (b lm cm : Nat) (gm : Nat) (ms : List Int) (gu : Int) (w : World) (h : Pl w a0 n0 c0 a1 n1 c1 a2 n2 c2 a3 n3 c3 P) (hm : Nums w b (.slice (some ⟨gm, 0, none⟩) lm cm) ms) (hg : w.cell? ⟨0, 0, none⟩ = some (.iface 129 (.agg #[.pointer (some ⟨1, 97, none⟩)]))) :
    Calls Tryz.prog 18 #[.agg #[.slice a0 n0 c0, .slice a1 n1 c1, .slice a2 n2 c2, .slice a3 n3 c3], .slice (some ⟨gm, 0, none⟩) lm cm, .int .i64 gu] w fun e w' => ∃ v, e = .returned (.agg #[.int .i64 (lwordsC P ms gu), v]) ∧ Nums w' w.heap.size v (lwordsZ P ms gu) ∧ Below w.heap.size w w' := by
  generalize hW : ((w.alloc (.cells #[.slice a0 n0 c0, .slice a1 n1 c1, .slice a2 n2 c2, .slice a3 n3 c3] 37))).alloc (.cells #[.int .i64 0, .slice none 0 0] 31) = W
  have B0 : Hid (Below w.heap.size w W) := by show Below _ _ _; rw [← hW]; exact al (al (Below.refl _ _) _) _
  obtain ⟨s, hS⟩ : ∃ s, w.heap.size = s := ⟨_, rfl⟩
  have HSs : Hid (w.heap.size = s) := hS
  have Q : Hid (W.cell? ⟨s, 0, none⟩ = some (.slice a0 n0 c0) ∧ W.cell? ⟨s, 1, none⟩ = some (.slice a1 n1 c1) ∧ W.cell? ⟨s, 2, none⟩ = some (.slice a2 n2 c2) ∧ W.cell? ⟨s, 3, none⟩ = some (.slice a3 n3 c3)) := by
    show _ ∧ _
    rw [← hW, ← hS]
    exact ⟨cell_push _ (cell_new rfl), cell_push _ (cell_new rfl), cell_push _ (cell_new rfl), cell_push _ (cell_new rfl)⟩
  have R : Hid (RsI W s) := by
    have z1 : s + 1 = ((w.alloc (.cells #[.slice a0 n0 c0, .slice a1 n1 c1, .slice a2 n2 c2, .slice a3 n3 c3] 37))).heap.size := by rw [← hS]; simp
    show RsI W s
    unfold RsI
    rw [← hW, z1]
    exact ⟨cell_new rfl, cell_new rfl, fz_new _ _ _ _, fz_new _ _ _ _, by simp⟩
  have HP : Hid (Pl W a0 n0 c0 a1 n1 c1 a2 n2 c2 a3 n3 c3 P) := h.stay B0.out
  have HA : Hid (PolAt W s P) := ⟨_, _, _, _, _, _, _, _, _, _, _, _, Q.out.1, Q.out.2.1, Q.out.2.2.1, Q.out.2.2.2, HP.out⟩
  have HM : Hid (Nums W b (.slice (some ⟨gm, 0, none⟩) lm cm) ms) := hm.keep B0.out
  have HG : Hid (_ = _) := cell_keep B0.out hg
  clear h hg hm
  have hn1 : (n1 : Int) ≤ 9223372036854775807 := by have := HP.out.lanes.cap; unfold maxLen at this; omega
  have HL1 : Hid (n1 = P.lanes.length) := HP.out.lanes.len
  have q0 := Q.out.1
  have q1 := Q.out.2.1
  have q2 := Q.out.2.2.1
  have q3 := Q.out.2.2.2
  go_enter Tryz.func18, Tryz.ntmps18
  go_wp2_with fail
  clear hW hS
  refine (impl_policy _ _ _ _ _ _ _ _ _ _ _ _ P _ HP.out HG.out).mono ?_
  rintro e w1 ⟨rfl, b1⟩
  have B1 : Hid (Below w.heap.size w w1) := on B0.out b1
  have R1 : Hid (RsI w1 s) := R.out.keep b1
  obtain ⟨r0, r1, f0, f1, lt⟩ := R1.out
  have Q1 : Hid (w1.cell? ⟨s, 0, none⟩ = some (.slice a0 n0 c0) ∧ w1.cell? ⟨s, 1, none⟩ = some (.slice a1 n1 c1)) := ⟨cell_keep b1 Q.out.1, cell_keep b1 Q.out.2.1⟩
  have HPw : Hid (Pl w1 a0 n0 c0 a1 n1 c1 a2 n2 c2 a3 n3 c3 P) := HP.out.stay b1
  have HMw : Hid (Nums w1 b (.slice (some ⟨gm, 0, none⟩) lm cm) ms) := HM.out.keep b1
  clear b1 q0 q1 q2 q3
  by_cases hz : pfV P = 0
  case neg =>
    have CV : Hid (lwordsC P ms gu = pfV P) := by show _ = _; rw [lwordsC, if_neg hz]
    have ZV : Hid (lwordsZ P ms gu = []) := by show _ = _; rw [lwordsZ, if_neg (by rw [CV.out]; exact hz)]
    generalize hv : pfV P = v at *
    go_wp2_with fail
    exact bodyPost_ret (v := .agg #[.int .i64 v, .slice none 0 0]) (by simp [results, Tryz.results18, go_sem, r0, r1]) rfl ⟨.slice none 0 0, by rw [CV.out], by rw [ZV.out]; exact Nums.nil _ _, (B1.out.setCell (by have := HSs.out; show w.heap.size ≤ s + 1; omega) _).setCell (by have := HSs.out; show w.heap.size ≤ s + 1; omega) _⟩
  have AZ : Hid (pfV P = 0) := hz
  by_cases hl : 0 ≤ gu ∧ gu < P.lanes.length
  case neg =>
    have CV : Hid (lwordsC P ms gu = 4) := by show _ = _; rw [lwordsC, if_pos hz, if_neg hl]
    have ZV : Hid (lwordsZ P ms gu = []) := by show _ = _; rw [lwordsZ, if_neg (by rw [CV.out]; decide)]
    rw [hz]
    have q1 := Q1.out.2
    have hl2 : ¬ (0 ≤ gu ∧ gu < n1) := by have := HL1.out; omega
    clear hz hl
    by_cases hl0 : gu < 0
    · clear hl2
      go_wp2_with fail
      exact bodyPost_ret (v := .agg #[.int .i64 4, .slice none 0 0]) (by simp [results, Tryz.results18, go_sem, r0, r1]) rfl ⟨.slice none 0 0, by rw [CV.out], by rw [ZV.out]; exact Nums.nil _ _, (B1.out.setCell (by have := HSs.out; show w.heap.size ≤ s + 1; omega) _).setCell (by have := HSs.out; show w.heap.size ≤ s + 1; omega) _⟩
    · have hl3 : (n1 : Int) ≤ gu := by omega
      clear hl2
      go_wp2_with fail
      exact bodyPost_ret (v := .agg #[.int .i64 4, .slice none 0 0]) (by simp [results, Tryz.results18, go_sem, r0, r1]) rfl ⟨.slice none 0 0, by rw [CV.out], by rw [ZV.out]; exact Nums.nil _ _, (B1.out.setCell (by have := HSs.out; show w.heap.size ≤ s + 1; omega) _).setCell (by have := HSs.out; show w.heap.size ≤ s + 1; omega) _⟩
  obtain ⟨l, rfl⟩ := Int.eq_ofNat_of_zero_le hl.1
  have HLN : Hid (l < n1) := by have := HL1.out; have := hl.2; show _ < _; omega
  have hlI : (l : Int) < (n1 : Int) := by have := HLN.out; omega
  have hd : (decide ((0 : Int) ≤ (l : Int)) && decide ((l : Int) ≤ (n1 : Int) - 1)) = true := by simp; omega
  have HLL : Hid (0 ≤ (l : Int) ∧ (l : Int) < P.lanes.length) := hl
  clear hl
  have q1 := Q1.out.2
  cases hw : wholeB ms with
  | false =>
    have CV : Hid (lwordsC P ms (l : Int) = 1) := by show _ = _; rw [lwordsC, if_pos AZ.out, if_pos HLL.out, hw]; rfl
    have ZV : Hid (lwordsZ P ms (l : Int) = []) := by show _ = _; rw [lwordsZ, if_neg (by rw [CV.out]; decide)]
    rw [hz]
    clear hz
    go_wp2_with (go_at_call 31; refine (i_whole _ ms b _ HMw.out).mono ?_; rintro e w1 ⟨rfl, rfl⟩; rw [hw])
    exact bodyPost_ret (v := .agg #[.int .i64 1, .slice none 0 0]) (by simp [results, Tryz.results18, go_sem, r0, r1]) rfl ⟨.slice none 0 0, by rw [CV.out], by rw [ZV.out]; exact Nums.nil _ _, (B1.out.setCell (by have := HSs.out; show w.heap.size ≤ s + 1; omega) _).setCell (by have := HSs.out; show w.heap.size ≤ s + 1; omega) _⟩
  | true =>
    have CV : Hid (lwordsC P ms (l : Int) = 0) := by show _ = _; rw [lwordsC, if_pos AZ.out, if_pos HLL.out, hw]; rfl
    have hwW : wholeB ms = true := hw
    have HWW : Hid (wholeB ms = true) := hw
    clear hwW
    rw [hz]
    clear hz
    obtain ⟨x, rfl, k0, k1, k2, k3, k4⟩ := HPw.out.lanes.at l HLN.out
    have PR : Hid (0 ≤ (P.lanes.getD l lz).pg ∧ (P.lanes.getD l lz).pg ≤ 23) := pf_page P AZ.out l (by have := HLL.out; omega)
    have ZV : Hid (lwordsZ P ms (l : Int) = wordsL ms [(P.lanes.getD l lz).pg]) := by show _ = _; rw [lwordsZ, if_pos CV.out, Int.toNat_natCast]
    generalize (P.lanes.getD l lz).pg = pg at *
    clear k0 k1 k3 k4
    go_wp2_with (go_at_call 31; refine (i_whole _ ms b _ HMw.out).mono ?_; rintro e w1 ⟨rfl, rfl⟩; rw [hw])
    have NSP : Hid (IsNs (w1.alloc (.cells #[.int .i64 pg] 2)) (some ⟨w1.heap.size, 0, none⟩) 1 1 [pg]) := ns_one _ _ _
    have hwW := HWW.out
    refine (i_wordsOn _ _ _ _ _ _ _ _ _ _ (HMw.out.keep (al (Below.refl _ _) _)) (by unfold wholeB at hwW; simp at hwW; exact hwW.1) NSP.out (by intro x hx; rw [List.mem_singleton] at hx; rw [hx]; exact PR.out) ⟨by simp, by simp⟩).mono ?_
    rintro e w2 ⟨v, rfl, n2', b2⟩
    clear hwW
    have B2 : Hid (Below w.heap.size w w2) := on B1.out (on (al (Below.refl _ _) _) b2)
    have D2 : Hid (Below w1.heap.size w1 w2) := on (al (Below.refl _ _) _) b2
    obtain ⟨ya, yc, hv, _, _, _⟩ := n2'.shape
    have NN : Hid (Nums w2 w.heap.size v (wordsL ms [pg])) := n2'.mono (Nat.le_trans B1.out.size (by simp))
    have NL : Hid (∀ k, v.ownBlock = some k → w1.heap.size ≤ k) := fun k e => Nat.le_trans (by simp) (n2'.lt k e).1
    have LT : Hid (s + 1 < w1.heap.size) := R1.out.2.2.2.2
    generalize (wordsL ms [pg]).length = ln at hv
    subst hv
    obtain ⟨r0, r1, f0, f1, lt⟩ := R1.out.keep D2.out
    clear b2 n2'
    go_wp2_with fail
    refine bodyPost_ret (v := .agg #[.int .i64 0, .slice ya ln yc]) (by simp [results, Tryz.results18, go_sem, r0, r1]) rfl ⟨.slice ya ln yc, by rw [CV.out], ?_, (B2.out.setCell (by have := HSs.out; show w.heap.size ≤ s + 1; omega) _).setCell (by have := HSs.out; show w.heap.size ≤ s + 1; omega) _⟩
    have ne : (Value.slice ya ln yc).ownBlock ≠ some (s + 1) := fun e => by have := NL.out _ e; have := LT.out; omega
    rw [ZV.out]
    exact (NN.out.put ⟨s + 1, 0, none⟩ (.int .i64 0) ne).put ⟨s + 1, 1, none⟩ (.slice ya ln yc) ne
end Go.Proofs.YtpaedaigibippaaGreatDoor
