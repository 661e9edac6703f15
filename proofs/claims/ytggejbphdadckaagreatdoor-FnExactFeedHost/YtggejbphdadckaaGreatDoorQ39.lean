/- Texts of this seat, joined. -/
import Derived.BigQuiet
import Derived.Deep.Cut
import Derived.Deep.RegionHeld3
import Derived.Test.YtggejbphdadckaaGreatDoorQ15
import Derived.Test.YtggejbphdadckaaGreatDoorQ28
import Derived.Test.YtggejbphdadckaaGreatDoorQ34
import Derived.Test.YtggejbphdadckaaGreatDoorQ36
import Derived.Test.YtggejbphdadckaaGreatDoorQ38
namespace Go.Proofs.YtggejbphdadckaaGreatDoor
open Go.RowKit
set_option linter.unusedVariables false

/-- A machine's variable q behind what was done to it from w on; its lists are read alone. -/
structure Sd (w u : World) (b q : Nat) (r c o i' o' : Value) (G : Ht) : Prop where
  v : Vb u q #[r, .int .i64 G.pc, c, .bool G.halted, .bool G.waiting, .bool G.rung, .int .i64 G.done, i', o'] 60
  m : Hr u r c i' o' G
  n : ∀ k, Own4 r c i' o' k → b ≤ k ∧ k < u.heap.size
  g : Mq (fun j => j = q ∨ c.ownBlock = some j ∨ o.ownBlock = some j) w u
theorem Sd.same {w w' : World} {b q : Nat} {r c i o : Value} {H : Ht} (h : Hm w b r c i o H) (hv : Vb w q #[r, .int .i64 H.pc, c, .bool H.halted, .bool H.waiting, .bool H.rung, .int .i64 H.done, i, o] 60) (B : Below w.heap.size w w') : Sd w w' b q r c o i o H :=
  ⟨hv.keep B, h.hr.stay B, fun k e => by have := h.own k e; have := B.size; omega, Mq.of (below_grown B none) fun k e => by cases e⟩
theorem Sd.of {w w' : World} {b q : Nat} {r c i o o' : Value} {G : Ht} (h : Hm w' b r c i o' G) (hv : Vb w' q #[r, .int .i64 G.pc, c, .bool G.halted, .bool G.waiting, .bool G.rung, .int .i64 G.done, i, o'] 60) (g : Mq (fun j => j = q ∨ c.ownBlock = some j ∨ o.ownBlock = some j) w w') : Sd w w' b q r c o i o' G :=
  ⟨hv, h.hr, fun k e => h.own k e, g⟩
theorem Mq.more {S T : Nat → Prop} {w w' : World} (m : Mq S w w') (h : ∀ k, S k → T k) : Mq T w w' := ⟨m.os, m.tape, m.output, m.size, fun k hk hn => m.block k hk fun e => hn (h k e)⟩

end Go.Proofs.YtggejbphdadckaaGreatDoor
namespace Go.Proofs.YtggejbphdadckaaGreatDoor
open Go.RowKit
set_option linter.unusedVariables false

set_option maxRecDepth 20000 in
set_option maxHeartbeats 4000000 in
theorem i_queue_full (m j : Nat) (v : Value) (zs : List Int) (a : Option Addr) (n c : Nat) (b : Nat) (w : World) (hj : w.cell? ⟨m, j, none⟩ = some v) (hN : Nums w b v zs) (hz : zs.length ≤ 40) (hn : n ≤ 100000000) (hf : ¬ zs.length + n ≤ 40) :
    Calls Tryz.prog 92 #[.pointer (some ⟨m, j, none⟩), .slice a n c] w fun e w' => e = .returned (.bool false) ∧ w' = w := by
  obtain ⟨x, cap, rfl, _⟩ := hN.shape
  clear hN
  generalize zs.length = l at *
  have h1 : (l : Int) ≤ 40 := by omega
  have h2 : (40 : Int) - (l : Int) < (n : Int) := by omega
  have h3 : (n : Int) ≤ 100000000 := by omega
  clear hz hn hf
  go_enter Tryz.func92, Tryz.ntmps92
  go_wp2_with fail
  go_ret
  exact ⟨rfl, rfl⟩
set_option maxRecDepth 20000 in
set_option maxHeartbeats 4000000 in
theorem i_queue (m j : Nat) (cs : Array Value) (t : TypeId) (v : Value) (zs : List Int) (a : Option Addr) (n c : Nat) (ys : List Int) (b : Nat) (w : World) (hv : Vb w m cs t) (hj : cs[j]? = some v) (hN : Nums w b v zs) (ht : t ≠ 2) (hR : Rn w a n c ys) (hf : zs.length + n ≤ 40) (hb : b ≤ w.heap.size) :
    Calls Tryz.prog 92 #[.pointer (some ⟨m, j, none⟩), .slice a n c] w fun e w' => e = .returned (.bool true) ∧ ∃ v', Nums w' b v' (zs ++ ys) ∧ Vb w' m (cs.setIfInBounds j v') t ∧ Mq (fun k => k = m ∨ v.ownBlock = some k) w w' := by
  obtain ⟨x, cap, rfl, _⟩ := hN.shape
  obtain ⟨l, hl⟩ : ∃ l, zs.length = l := ⟨_, rfl⟩
  rw [hl] at hN hj hf ⊢
  have HL : Hid (zs.length = l) := hl
  have HF : Hid (l + n ≤ 40) := hf
  have HN : Hid (Nums w b (.slice x l cap) zs) := hN
  have HV : Hid (Vb w m cs t) := hv
  have HT : Hid (t ≠ 2) := ht
  have HR : Hid (Rn w a n c ys) := hR
  have HB : Hid (b ≤ w.heap.size) := hb
  have h1 : (l : Int) ≤ 40 := by omega
  have h2 : ¬ (40 : Int) - (l : Int) < (n : Int) := by omega
  have h3 : (n : Int) ≤ 100000000 := by omega
  have c0 : w.cell? ⟨m, j, none⟩ = some (.slice x l cap) := hv.cell j hj
  have f0 := hv.free j
  clear hl hf hN hv ht hR hb hj
  have HC : Hid (∃ u, cs[j]? = some u) := by
    show ∃ u, _
    have : w.cell? ⟨m, j, none⟩ = some (.slice x l cap) := c0
    have hv := HV.out
    unfold Vb at hv
    simp [World.cell?, hv] at this
    exact ⟨_, this⟩
  obtain ⟨u, hu⟩ := HC.out
  have HU : Hid (cs[j]? = some u) := hu
  clear hu HC
  go_enter Tryz.func92, Tryz.ntmps92
  go_wp2_with (at_builtin; refine wp_appy _ rfl _ _ rfl b _ zs rfl HN.out a n c ys rfl HR.out (by have := HL.out; have := HF.out; omega) HB.out ?_; intro v' w' hN' hG'; obtain ⟨y, cap', hv', _⟩ := hN'.shape; obtain ⟨L, hL⟩ : ∃ L, (zs ++ ys).length = L := ⟨_, rfl⟩; rw [hL] at hv'; clear hL; subst hv'; have N1 : Hid (Nums w' b (.slice y L cap') (zs ++ ys)) := hN'; have G1 : Hid (w.grownBy w' (Value.slice x l cap).ownBlock) := hG'; have V1 : Hid (Vb w' m cs t) := HV.out.gr hG' fun e => HN.out.ne_vb HV.out HT.out e.symm; clear hN' hG' c0 f0; have c1 := V1.out.cell j HU.out; have f1 := V1.out.free j)
  go_ret
  refine ⟨rfl, _, ?_, V1.out.set j _, ?_⟩
  · exact N1.out.put ⟨m, j, none⟩ _ (N1.out.ne_vb V1.out HT.out)
  · exact (Mq.of G1.out fun k e => .inr e.symm).set ⟨m, j, none⟩ _ (.inl rfl)

/-- A program's machine behind what was done to it from w on; its two queues are read alone. -/
structure Si (w u : World) (m : Nat) (i o i' o' : Value) (G : Ht) : Prop where
  v : Vb u m (mca G i' o') 107
  ri : Rv u i' G.inn
  ro : Rv u o' G.out
  g : Mq (fun j => j = m ∨ i.ownBlock = some j ∨ o.ownBlock = some j) w u
theorem Si.same {w : World} {b m : Nat} {i o : Value} {H : Ht} (hv : Vb w m (mca H i o) 107) (hi : Nums w b i H.inn) (ho : Nums w b o H.out) : Si w w m i o i o H := ⟨hv, hi.rv, ho.rv, Mq.refl _ _⟩
theorem Si.set {w w' : World} {b m : Nat} {i o : Value} {H G : Ht} (hv : Vb w m (mca H i o) 107) (hi : Nums w b i H.inn) (ho : Nums w b o H.out) (hv' : Vb w' m (mca G i o) 107) (hm : Mq (fun j => j = m) w w') (e1 : G.inn = H.inn) (e2 : G.out = H.out) : Si w w' m i o i o G :=
  ⟨hv', by rw [e1]; exact (hm.nums hi fun k e f => hi.ne_vb (t := 107) hv (by decide) (by rw [e, f])).rv, by rw [e2]; exact (hm.nums ho fun k e f => ho.ne_vb (t := 107) hv (by decide) (by rw [e, f])).rv, ⟨hm.os, hm.tape, hm.output, hm.size, fun k hk hn => hm.block k hk fun e => hn (.inl e)⟩⟩
theorem Si.pre {w u : World} {x : Obj} {m : Nat} {i o i' o' : Value} {G : Ht} (h : Si (w.alloc x) u m i o i' o' G) : Si w u m i o i' o' G := ⟨h.v, h.ri, h.ro, Mq.pre h.g⟩
set_option maxRecDepth 20000 in
set_option maxHeartbeats 4000000 in
theorem i_feed (m : Nat) (i o : Value) (H : Ht) (a : Option Addr) (n c : Nat) (ys : List Int) (b : Nat) (w : World) (hv : Vb w m (mca H i o) 107) (hi : Nums w b i H.inn) (ho : Nums w b o H.out) (ap : Apt i o) (hR : Rn w a n c ys) (hf : H.inn.length + n ≤ 40) (hb : b ≤ w.heap.size) :
    Calls Tryz.prog 61 #[.pointer (some ⟨m, 0, none⟩), .slice a n c] w fun e w' => e = .returned (.bool true) ∧ ∃ i' o', Si w w' m i o i' o' { H with inn := H.inn ++ ys } := by
  have HV : Hid (Vb w m (mca H i o) 107) := hv
  have HI : Hid (Nums w b i H.inn) := hi
  have HO : Hid (Nums w b o H.out) := ho
  have HA : Hid (Apt i o) := ap
  have HF : Hid (Rn w a n c ys ∧ H.inn.length + n ≤ 40 ∧ b ≤ w.heap.size) := ⟨hR, hf, hb⟩
  clear hv hi ho ap hR hf hb
  go_enter Tryz.func61, Tryz.ntmps61
  go_wp2_with fail
  refine (i_queue m 32 (mca H i o) _ i H.inn a n c ys b _ HV.out rfl HI.out (by decide) HF.out.1 HF.out.2.1 HF.out.2.2).mono ?_
  rintro e w1 ⟨rfl, i1, n1, v1, m1⟩
  have N1 : Hid (Nums w1 b i1 (H.inn ++ ys)) := n1
  have V1 : Hid (Vb w1 m (mca { H with inn := H.inn ++ ys } i1 o) 107) := v1
  have M1 : Hid (Mq (fun k => k = m ∨ i.ownBlock = some k) w w1) := m1
  clear n1 v1 m1
  go_wp2_with fail
  go_ret
  refine ⟨rfl, i1, o, V1.out, N1.out.rv, (M1.out.nums HO.out fun k e f => ?_).rv, ⟨M1.out.os, M1.out.tape, M1.out.output, M1.out.size, fun k hk hn => M1.out.block k hk fun e => hn (e.elim .inl fun e => .inr (.inl e))⟩⟩
  rcases f with f | f
  · exact HO.out.ne_vb (t := 107) HV.out (by decide) (by rw [e, f])
  · rcases HA.out.swap with h | h
    · rw [h] at e; cases e
    · exact h (e.trans f.symm)
set_option maxRecDepth 20000 in
set_option maxHeartbeats 4000000 in
theorem i_feed_full (m : Nat) (i o : Value) (H : Ht) (a : Option Addr) (n c : Nat) (b : Nat) (w : World) (hv : Vb w m (mca H i o) 107) (hi : Nums w b i H.inn) (hz : H.inn.length ≤ 40) (hn : n ≤ 100000000) (hf : ¬ H.inn.length + n ≤ 40) :
    Calls Tryz.prog 61 #[.pointer (some ⟨m, 0, none⟩), .slice a n c] w fun e w' => e = .returned (.bool false) ∧ w' = w := by
  have HV : Hid (Vb w m (mca H i o) 107) := hv
  have HI : Hid (Nums w b i H.inn) := hi
  have HF : Hid (H.inn.length ≤ 40 ∧ n ≤ 100000000 ∧ ¬ H.inn.length + n ≤ 40) := ⟨hz, hn, hf⟩
  clear hv hi hz hn hf
  go_enter Tryz.func61, Tryz.ntmps61
  go_wp2_with fail
  refine (i_queue_full m 32 i H.inn a n c b _ (HV.out.cell 32 rfl) HI.out HF.out.1 HF.out.2.1 HF.out.2.2).mono ?_
  rintro e w1 ⟨rfl, rfl⟩
  go_wp2_with fail
  go_ret
  exact ⟨rfl, rfl⟩

end Go.Proofs.YtggejbphdadckaaGreatDoor
namespace Go.Proofs.YtggejbphdadckaaGreatDoor
open Go.RowKit
set_option linter.unusedVariables false

set_option maxRecDepth 20000 in
set_option maxHeartbeats 4000000 in
theorem s_turn (q : Nat) (c : Int) (P : Plc) (w : World) (h : PolAt w q P) (hz : pfV P = 0) (hc : 0 ≤ c) (hc1 : c ≤ 1000000) :
    Calls Tryz.prog 43 #[.pointer (some ⟨q, 0, none⟩), .int .i64 c] w fun e w' => e = .returned (.tuple #[.int .i64 (tS P c).1, .int .i64 (tS P c).2]) ∧ Below w.heap.size w w' := by
  have PZ : Hid (pfV P = 0) := hz
  obtain ⟨u, hu⟩ : ∃ u, tS P c = u := ⟨_, rfl⟩
  rw [hu]
  have HU : Hid (tS P c = u) := hu
  obtain ⟨a0, n0, c0, a1, n1, c1, a2, n2, c2, a3, n3, c3, -, -, -, q3, hp⟩ := h
  have HPw : Hid (Pl w a0 n0 c0 a1 n1 c1 a2 n2 c2 a3 n3 c3 P) := hp
  have RP := rd_pos P PZ.out
  obtain ⟨rr, hrr⟩ : ∃ r, rdV P.plan = r := ⟨_, rfl⟩
  rw [hrr] at RP
  have HR : Hid (rdV P.plan = rr) := hrr
  have r1 := RP.1
  have r2 := RP.2
  have tm : c.tmod rr = c % rr := Int.tmod_eq_emod_of_nonneg hc
  have m0 : 0 ≤ c % rr := Int.emod_nonneg _ (by omega)
  have m1 : c % rr < rr := Int.emod_lt_of_pos _ (by omega)
  obtain ⟨m, hm⟩ : ∃ m, c % rr = m := ⟨_, rfl⟩
  rw [hm] at tm m0 m1
  have HM : Hid (c % rr = m) := hm
  have M01 : Hid (0 ≤ m ∧ m < rr) := ⟨m0, m1⟩
  have R4 : Hid (rr ≤ 400) := r2
  have HL3 : Hid (n3 = P.plan.length) := HPw.out.plan.len
  have L8 : Hid (1 ≤ n3 ∧ n3 ≤ 8) := by show _ ∧ _; rw [HPw.out.plan.len]; exact ⟨pf_plan1 P PZ.out, (pf_plan P PZ.out).1⟩
  have hmax3 : (n3 : Int) ≤ 9223372036854775807 := by have := L8.out; omega
  have ST8 : Hid (∀ j, j < P.plan.length → 1 ≤ (P.plan.getD j (0, 0)).2 ∧ (P.plan.getD j (0, 0)).2 ≤ 50) := (pf_plan P PZ.out).2
  clear hz hu hp hrr hm RP
  go_enter Tryz.func43, Tryz.ntmps43
  go_wp2_with fail
  go_loop [6, 7] (fun u v => ∃ j : Nat, j ≤ n3 ∧ v = .int .i64 j ∧ u = .int .i64 (rdV (P.plan.take j))) (fun _ v => n3 - (intOf v).toNat)
  case atStart => exact ⟨0, Nat.zero_le _, rfl, by simp [rdV]⟩
  case round =>
    obtain ⟨j, hj, rfl, rfl⟩ := hrel
    by_cases hlt : j < n3
    · obtain ⟨x, rfl, k0, k1⟩ := HPw.out.plan.at j hlt
      have hJ : (j : Int) < (n3 : Int) := by omega
      have J8 : (j : Int) ≤ 8 := by have := L8.out; omega
      have HLT : Hid (j < n3) := hlt
      have TK : Hid (_ = _) := rdV_take P.plan j (by have := HL3.out; omega)
      have bd := rd_bound P PZ.out j (by have := HL3.out; omega)
      have st := ST8.out j (by have := HL3.out; omega)
      have bd0 := bd.1
      have bd1 : rdV (P.plan.take j) ≤ 400 := by have := L8.out; omega
      have st0 := st.1
      have st1 := st.2
      obtain ⟨⟨g, t⟩, hL⟩ : ∃ L, P.plan.getD j (0, 0) = L := ⟨_, rfl⟩
      rw [hL] at k0 k1 TK st0 st1
      simp only at k0 k1 TK st0 st1
      clear hL hlt bd st
      generalize hsum : rdV (P.plan.take j) = sm at *
      clear hsum
      go_wp2_with fail
      go_round
      case rel => exact ⟨j + 1, by have := HLT.out; omega, by go_num, by rw [TK.out]⟩
      case measure => have := HLT.out; simp [intOf]; omega
    · have hJ : ¬ (j : Int) < (n3 : Int) := by omega
      have HJ : Hid (j = n3) := by show _ = _; omega
      clear hlt
      have EV : Hid (rdV (P.plan.take j) = rr) := by show _ = _; rw [List.take_of_length_le (by have := HL3.out; have := HJ.out; omega)]; exact HR.out
      rw [EV.out]
      go_wp2_with fail
      go_loop [8, 9] (fun u v => ∃ j : Nat, j < n3 ∧ v = .int .i64 j ∧ u = .int .i64 (m - rdV (P.plan.take j)) ∧ rdV (P.plan.take j) ≤ m) (fun _ v => n3 - (intOf v).toNat)
      case atStart => exact ⟨0, L8.out.1, rfl, by simp [rdV], by simp [rdV]; exact M01.out.1⟩
      case round =>
        rename_i jj _ _ _ _
        obtain ⟨j, hlt, rfl, rfl, hle⟩ := hrel
        obtain ⟨x, rfl, k0, k1⟩ := HPw.out.plan.at j hlt
        have HLT : Hid (j < n3) := hlt
        have hJ : (j : Int) < (n3 : Int) := by omega
        have J8 : (j : Int) ≤ 8 := by have := L8.out; omega
        have TK : Hid (_ = _) := rdV_take P.plan j (by have := HL3.out; omega)
        have st := ST8.out j (by have := HL3.out; omega)
        have bd := rd_bound P PZ.out j (by have := HL3.out; omega)
        have bd0 := bd.1
        have bd1 : rdV (P.plan.take j) ≤ 400 := by have := L8.out; omega
        have st0 := st.1
        have st1 := st.2
        have mm := M01.out
        have m40 : m ≤ 400 := by have := R4.out; omega
        obtain ⟨⟨g, t⟩, hL⟩ : ∃ L, P.plan.getD j (0, 0) = L := ⟨_, rfl⟩
        rw [hL] at k0 k1 TK st0 st1
        simp only at k0 k1 TK st0 st1
        clear hL bd st
        obtain ⟨sm, hsm⟩ : ∃ z, rdV (P.plan.take j) = z := ⟨_, rfl⟩
        rw [hsm] at TK bd0 bd1 hle ⊢
        have HSM : Hid (rdV (P.plan.take j) = sm) := hsm
        clear hsm
        by_cases he : t ≤ m - sm
        · have TK2 : Hid (rdV (P.plan.take (j + 1)) = sm + t) := TK.out
          have JN : Hid (j + 1 < n3) := by
            show _ < _
            rcases Nat.lt_or_ge (j + 1) n3 with h | h
            · exact h
            · exfalso
              have e : P.plan.take (j + 1) = P.plan := List.take_of_length_le (by have := HL3.out; omega)
              have := TK2.out
              rw [e, HR.out] at this
              omega
          go_wp2_with fail
          go_round
          case rel => exact ⟨j + 1, JN.out, by go_num, by rw [TK2.out]; go_num, by rw [TK2.out]; omega⟩
          case measure => have := HLT.out; simp [intOf]; omega
        · have EV := tS_at P PZ.out c j (by have := HL3.out; omega) (by rw [HSM.out, HR.out, HM.out]; exact hle) (by rw [TK.out, HR.out, HM.out]; omega)
          rw [TK.out, HR.out, HM.out, HU.out] at EV
          subst EV
          have e1 : t - (m - sm) = sm + t - m := by omega
          go_wp2_with fail
          go_quiet (fail)
          go_wp2_with fail
          exact bodyPost_ret (v := .tuple #[.int .i64 (j : Int), .int .i64 (sm + t - m)]) (by simp [results, Tryz.results43, go_sem]) rfl ⟨rfl, dr (Below.refl _ _) _⟩
end Go.Proofs.YtggejbphdadckaaGreatDoor
namespace Go.Proofs.YtggejbphdadckaaGreatDoor
open Go.RowKit
set_option linter.unusedVariables false

set_option maxRecDepth 20000 in
set_option maxHeartbeats 8000000 in
theorem i_feedHart (r c i o : Value) (H : Ht) (ya : Option Addr) (yn yc : Nat) (ys : List Int) (b : Nat) (w : World) (h : Hm w b r c i o H) (hy : Rn w ya yn yc ys) (hyn : yn ≤ 1048576) :
    Calls Tryz.prog 27 #[.agg #[r, .int .i64 H.pc, c, .bool H.halted, .bool H.waiting, .bool H.rung, .int .i64 H.done, i, o], .slice ya yn yc] w fun e w' => ∃ r' c' i' o', e = .returned (.agg #[.int .i64 (feedR H ys).1, r', .int .i64 (feedR H ys).2.pc, c', .bool (feedR H ys).2.halted, .bool (feedR H ys).2.waiting, .bool (feedR H ys).2.rung, .int .i64 (feedR H ys).2.done, i', o']) ∧ Hm w' w.heap.size r' c' i' o' (feedR H ys).2 ∧ Ha r' c' i' o' ∧ Below w.heap.size w w' := by
  have HM : Hid (Hm w b r c i o H) := h
  obtain ⟨a0, k0, rfl, _⟩ := h.r.shape
  obtain ⟨a1, k1, rfl, _⟩ := h.c.shape
  obtain ⟨a2, k2, rfl, _⟩ := h.i.shape
  obtain ⟨a3, k3, rfl, _⟩ := h.o.shape
  clear h
  have HY : Hid (Rn w ya yn yc ys) := hy
  have HYN : Hid (yn ≤ 1048576) := hyn
  have HYL : Hid (yn = ys.length) := hy.len
  clear hy hyn
  generalize hW : (w.alloc (.cells #[.slice a0 H.regs.length k0, .int .i64 H.pc, .slice a1 H.csr.length k1, .bool H.halted, .bool H.waiting, .bool H.rung, .int .i64 H.done, .slice a2 H.inn.length k2, .slice a3 H.out.length k3] 60)).alloc (.cells #[.int .i64 0, .slice none 0 0, .int .i64 0, .slice none 0 0, .bool false, .bool false, .bool false, .int .i64 0, .slice none 0 0, .slice none 0 0] 62) = W
  have B0 : Hid (Below w.heap.size w W) := by show Below _ _ _; rw [← hW]; exact al (al (Below.refl _ _) _) _
  obtain ⟨s, hS⟩ : ∃ s, w.heap.size = s := ⟨_, rfl⟩
  have HS : Hid (w.heap.size = s) := hS
  have VA : Hid (Vb W s #[.slice a0 H.regs.length k0, .int .i64 H.pc, .slice a1 H.csr.length k1, .bool H.halted, .bool H.waiting, .bool H.rung, .int .i64 H.done, .slice a2 H.inn.length k2, .slice a3 H.out.length k3] 60) := by
    show Vb _ _ _ _; rw [← hW, ← hS]; exact (Vb.new _ _ _).push _
  have VR : Hid (Vb W (s + 1) #[.int .i64 0, .slice none 0 0, .int .i64 0, .slice none 0 0, .bool false, .bool false, .bool false, .int .i64 0, .slice none 0 0, .slice none 0 0] 62) := by
    have z1 : s + 1 = (w.alloc (.cells #[.slice a0 H.regs.length k0, .int .i64 H.pc, .slice a1 H.csr.length k1, .bool H.halted, .bool H.waiting, .bool H.rung, .int .i64 H.done, .slice a2 H.inn.length k2, .slice a3 H.out.length k3] 60)).heap.size := by rw [← hS]; simp
    show Vb _ _ _ _; rw [← hW, z1]; exact Vb.new _ _ _
  have q0 := VA.out.cell 0 rfl
  have q1 := VA.out.cell 1 rfl
  have q2 := VA.out.cell 2 rfl
  have q3 := VA.out.cell 3 rfl
  have q4 := VA.out.cell 4 rfl
  have q5 := VA.out.cell 5 rfl
  have q6 := VA.out.cell 6 rfl
  have q7 := VA.out.cell 7 rfl
  have q8 := VA.out.cell 8 rfl
  go_enter Tryz.func27, Tryz.ntmps27
  go_wp2_with fail
  clear hW hS q0 q1 q2 q3 q4 q5 q6 q7 q8
  refine (i_fault _ _ _ _ H _ _ (HM.out.keep B0.out)).mono ?_
  rintro e w1 ⟨rfl, b1⟩
  have B1 : Hid (Below w.heap.size w w1) := on B0.out b1
  have VA1 : Hid (Vb w1 s #[.slice a0 H.regs.length k0, .int .i64 H.pc, .slice a1 H.csr.length k1, .bool H.halted, .bool H.waiting, .bool H.rung, .int .i64 H.done, .slice a2 H.inn.length k2, .slice a3 H.out.length k3] 60) := VA.out.keep b1
  have VR1 : Hid (Vb w1 (s + 1) #[.int .i64 0, .slice none 0 0, .int .i64 0, .slice none 0 0, .bool false, .bool false, .bool false, .int .i64 0, .slice none 0 0, .slice none 0 0] 62) := VR.out.keep b1
  have M1 : Hid (Hm w1 b _ _ _ _ H) := HM.out.keep B1.out
  clear b1 VA VR
  by_cases hf : hfV H = 0
  case neg =>
    have E0 : Hid ((feedR H ys).1 = hfV H) := by show _ = _; simp only [feedR, if_neg hf]
    have E1 : Hid ((feedR H ys).2 = voidH) := by show _ = _; simp only [feedR, if_neg hf]
    generalize hfV H = f at *
    have HE1 : Hid ((feedR H ys).1 = f) := by show _ = _; first | exact E0.out | exact E1.out
    have HE2 : Hid ((feedR H ys).2 = voidH) := by show _ = _; first | exact E0.out | exact E1.out
    have p0 := VR1.out.cell 0 rfl
    have f0 := VR1.out.free 0
    have p1 := VR1.out.cell 1 rfl
    have f1 := VR1.out.free 1
    have p2 := VR1.out.cell 2 rfl
    have f2 := VR1.out.free 2
    have p3 := VR1.out.cell 3 rfl
    have f3 := VR1.out.free 3
    have p4 := VR1.out.cell 4 rfl
    have f4 := VR1.out.free 4
    have p5 := VR1.out.cell 5 rfl
    have f5 := VR1.out.free 5
    have p6 := VR1.out.cell 6 rfl
    have f6 := VR1.out.free 6
    have p7 := VR1.out.cell 7 rfl
    have f7 := VR1.out.free 7
    have p8 := VR1.out.cell 8 rfl
    have f8 := VR1.out.free 8
    have p9 := VR1.out.cell 9 rfl
    have f9 := VR1.out.free 9
    go_wp2_with fail
    have NN : Hid (_ ∧ _) := ten VR1.out (.int .i64 f) (.slice none 0 0) (.int .i64 0) (.slice none 0 0) (.bool false) (.bool false) (.bool false) (.int .i64 0) (.slice none 0 0) (.slice none 0 0)
    clear p0 f0 p1 f1 p2 f2 p3 f3 p4 f4 p5 f5 p6 f6 p7 f7 p8 f8 p9 f9
    generalize ((((((((((w1.setCell ⟨s + 1, 0, none⟩ (.int .i64 f)).setCell ⟨s + 1, 1, none⟩ (.slice none 0 0)).setCell ⟨s + 1, 2, none⟩ (.int .i64 0)).setCell ⟨s + 1, 3, none⟩ (.slice none 0 0)).setCell ⟨s + 1, 4, none⟩ (.bool false)).setCell ⟨s + 1, 5, none⟩ (.bool false)).setCell ⟨s + 1, 6, none⟩ (.bool false)).setCell ⟨s + 1, 7, none⟩ (.int .i64 0)).setCell ⟨s + 1, 8, none⟩ (.slice none 0 0)).setCell ⟨s + 1, 9, none⟩ (.slice none 0 0)) = V at *
    have x0 := NN.out.1.cell 0 rfl
    have x1 := NN.out.1.cell 1 rfl
    have x2 := NN.out.1.cell 2 rfl
    have x3 := NN.out.1.cell 3 rfl
    have x4 := NN.out.1.cell 4 rfl
    have x5 := NN.out.1.cell 5 rfl
    have x6 := NN.out.1.cell 6 rfl
    have x7 := NN.out.1.cell 7 rfl
    have x8 := NN.out.1.cell 8 rfl
    have x9 := NN.out.1.cell 9 rfl
    have BV : Below w.heap.size w V := Mq.under B1.out NN.out.2 fun k e => by have := HS.out; omega
    have MV := NN.out.2
    refine bodyPost_ret (v := .agg #[.int .i64 f, .slice none 0 0, .int .i64 0, .slice none 0 0, .bool false, .bool false, .bool false, .int .i64 0, .slice none 0 0, .slice none 0 0]) (by simp [results, Tryz.results27, go_sem, x0, x1, x2, x3, x4, x5, x6, x7, x8, x9]) rfl ?_
    rw [HE1.out, HE2.out]
    exact ⟨_, _, _, _, rfl, void_hm _ _, void_ha, BV⟩
  have K : Hid (Hok H) := hok_of hf
  have HF : Hid (hfV H = 0) := hf
  rw [hf]
  cases ha : ys.all isW
  case false =>
    have HE1 : Hid ((feedR H ys).1 = 3) := by show _ = _; simp [feedR, hf, ha]
    have HE2 : Hid ((feedR H ys).2 = voidH) := by show _ = _; simp [feedR, hf, ha]
    have p0 := VR1.out.cell 0 rfl
    have f0 := VR1.out.free 0
    have p1 := VR1.out.cell 1 rfl
    have f1 := VR1.out.free 1
    have p2 := VR1.out.cell 2 rfl
    have f2 := VR1.out.free 2
    have p3 := VR1.out.cell 3 rfl
    have f3 := VR1.out.free 3
    have p4 := VR1.out.cell 4 rfl
    have f4 := VR1.out.free 4
    have p5 := VR1.out.cell 5 rfl
    have f5 := VR1.out.free 5
    have p6 := VR1.out.cell 6 rfl
    have f6 := VR1.out.free 6
    have p7 := VR1.out.cell 7 rfl
    have f7 := VR1.out.free 7
    have p8 := VR1.out.cell 8 rfl
    have f8 := VR1.out.free 8
    have p9 := VR1.out.cell 9 rfl
    have f9 := VR1.out.free 9
    go_wp2_with (go_at_call 59; refine (i_words _ _ _ ys _ (HY.out.stay B1.out)).mono ?_; rintro e y ⟨rfl, hy⟩; rw [hy]; clear hy y; rw [ha])
    have NN : Hid (_ ∧ _) := ten VR1.out (.int .i64 3) (.slice none 0 0) (.int .i64 0) (.slice none 0 0) (.bool false) (.bool false) (.bool false) (.int .i64 0) (.slice none 0 0) (.slice none 0 0)
    clear p0 f0 p1 f1 p2 f2 p3 f3 p4 f4 p5 f5 p6 f6 p7 f7 p8 f8 p9 f9
    generalize ((((((((((w1.setCell ⟨s + 1, 0, none⟩ (.int .i64 3)).setCell ⟨s + 1, 1, none⟩ (.slice none 0 0)).setCell ⟨s + 1, 2, none⟩ (.int .i64 0)).setCell ⟨s + 1, 3, none⟩ (.slice none 0 0)).setCell ⟨s + 1, 4, none⟩ (.bool false)).setCell ⟨s + 1, 5, none⟩ (.bool false)).setCell ⟨s + 1, 6, none⟩ (.bool false)).setCell ⟨s + 1, 7, none⟩ (.int .i64 0)).setCell ⟨s + 1, 8, none⟩ (.slice none 0 0)).setCell ⟨s + 1, 9, none⟩ (.slice none 0 0)) = V at *
    have x0 := NN.out.1.cell 0 rfl
    have x1 := NN.out.1.cell 1 rfl
    have x2 := NN.out.1.cell 2 rfl
    have x3 := NN.out.1.cell 3 rfl
    have x4 := NN.out.1.cell 4 rfl
    have x5 := NN.out.1.cell 5 rfl
    have x6 := NN.out.1.cell 6 rfl
    have x7 := NN.out.1.cell 7 rfl
    have x8 := NN.out.1.cell 8 rfl
    have x9 := NN.out.1.cell 9 rfl
    have BV : Below w.heap.size w V := Mq.under B1.out NN.out.2 fun k e => by have := HS.out; omega
    have MV := NN.out.2
    refine bodyPost_ret (v := .agg #[.int .i64 3, .slice none 0 0, .int .i64 0, .slice none 0 0, .bool false, .bool false, .bool false, .int .i64 0, .slice none 0 0, .slice none 0 0]) (by simp [results, Tryz.results27, go_sem, x0, x1, x2, x3, x4, x5, x6, x7, x8, x9]) rfl ?_
    rw [HE1.out, HE2.out]
    exact ⟨_, _, _, _, rfl, void_hm _ _, void_ha, BV⟩
  have q0 := VA1.out.cell 0 rfl
  have q1 := VA1.out.cell 1 rfl
  have q2 := VA1.out.cell 2 rfl
  have q3 := VA1.out.cell 3 rfl
  have q4 := VA1.out.cell 4 rfl
  have q5 := VA1.out.cell 5 rfl
  have q6 := VA1.out.cell 6 rfl
  have q7 := VA1.out.cell 7 rfl
  have q8 := VA1.out.cell 8 rfl
  go_wp2_with (go_at_call 59; refine (i_words _ _ _ ys _ (HY.out.stay B1.out)).mono ?_; rintro e y ⟨rfl, hy⟩; rw [hy]; clear hy y; rw [ha])
  clear q0 q1 q2 q3 q4 q5 q6 q7 q8
  refine (i_machine _ _ _ _ H _ _ M1.out K.out.r16 K.out.c11 (by have := K.out.i40; omega) (by have := K.out.o40; omega)).mono ?_
  rintro e w2 ⟨i2, o2, rfl, mi, mo, ap, b2⟩
  obtain ⟨xa, xk, rfl, _⟩ := mi.shape
  obtain ⟨ya', yk, rfl, _⟩ := mo.shape
  generalize hxn : H.inn.length = xn at *
  generalize hyn : H.out.length = yn' at *
  have hst := mca_store H xa xn xk ya' yn' yk w2
  have hsz := mca_size H (.slice xa xn xk) (.slice ya' yn' yk)
  have MI : Hid (Nums w2 w1.heap.size (.slice xa xn xk) H.inn) := mi
  have MO : Hid (Nums w2 w1.heap.size (.slice ya' yn' yk) H.out) := mo
  have AP : Hid (Apt (.slice xa xn xk) (.slice ya' yn' yk)) := ap
  have B2 : Hid (Below w.heap.size w w2) := on B1.out b2
  have VR2 : Hid (Vb w2 (s + 1) #[.int .i64 0, .slice none 0 0, .int .i64 0, .slice none 0 0, .bool false, .bool false, .bool false, .int .i64 0, .slice none 0 0, .slice none 0 0] 62) := VR1.out.keep b2
  have LB : Hid (w1.heap.size ≤ w2.heap.size ∧ s + 1 < w1.heap.size) := ⟨b2.size, VR1.out.lt⟩
  have XN : Hid (H.inn.length = xn) := hxn
  clear mi mo ap b2 hxn hyn
  go_wp2_with fail
  generalize hW3 : w2.alloc (.cells (mca H (.slice xa xn xk) (.slice ya' yn' yk)) 107) = W3
  obtain ⟨m, hm'⟩ : ∃ m, w2.heap.size = m := ⟨_, rfl⟩
  have HMm : Hid (w2.heap.size = m) := hm'
  rw [hm']
  have V3 : Hid (Vb W3 m (mca H (.slice xa xn xk) (.slice ya' yn' yk)) 107) := by show Vb _ _ _ _; rw [← hW3, ← hm']; exact Vb.new _ _ _
  have B3 : Hid (Below w.heap.size w W3) := by show Below _ _ _; rw [← hW3]; exact al B2.out _
  have VR3 : Hid (Vb W3 (s + 1) #[.int .i64 0, .slice none 0 0, .int .i64 0, .slice none 0 0, .bool false, .bool false, .bool false, .int .i64 0, .slice none 0 0, .slice none 0 0] 62) := by show Vb _ _ _ _; rw [← hW3]; exact VR2.out.push _
  have MI3 : Hid (Nums W3 w1.heap.size (.slice xa xn xk) H.inn) := by show Nums _ _ _ _; rw [← hW3]; exact MI.out.keep (al (Below.refl _ _) _)
  have MO3 : Hid (Nums W3 w1.heap.size (.slice ya' yn' yk) H.out) := by show Nums _ _ _ _; rw [← hW3]; exact MO.out.keep (al (Below.refl _ _) _)
  have LW : Hid (w1.heap.size ≤ W3.heap.size) := by show _ ≤ _; rw [← hW3]; have := LB.out.1; simp; omega
  clear hst hsz hW3 hm'
  by_cases hm : H.inn.length + ys.length ≤ 40
  case neg =>
    refine (i_feed_full _ _ _ H _ _ _ _ _ V3.out MI3.out K.out.i40 (by have := HYN.out; omega) (by have := HYL.out; omega)).mono ?_
    rintro e w4 ⟨rfl, hw4⟩
    rw [hw4]
    have HE1 : Hid ((feedR H ys).1 = 2) := by show _ = _; simp [feedR, hf, ha, hm]
    have HE2 : Hid ((feedR H ys).2 = voidH) := by show _ = _; simp [feedR, hf, ha, hm]
    have p0 := VR3.out.cell 0 rfl
    have f0 := VR3.out.free 0
    have p1 := VR3.out.cell 1 rfl
    have f1 := VR3.out.free 1
    have p2 := VR3.out.cell 2 rfl
    have f2 := VR3.out.free 2
    have p3 := VR3.out.cell 3 rfl
    have f3 := VR3.out.free 3
    have p4 := VR3.out.cell 4 rfl
    have f4 := VR3.out.free 4
    have p5 := VR3.out.cell 5 rfl
    have f5 := VR3.out.free 5
    have p6 := VR3.out.cell 6 rfl
    have f6 := VR3.out.free 6
    have p7 := VR3.out.cell 7 rfl
    have f7 := VR3.out.free 7
    have p8 := VR3.out.cell 8 rfl
    have f8 := VR3.out.free 8
    have p9 := VR3.out.cell 9 rfl
    have f9 := VR3.out.free 9
    go_wp2_with fail
    have NN : Hid (_ ∧ _) := ten VR3.out (.int .i64 2) (.slice none 0 0) (.int .i64 0) (.slice none 0 0) (.bool false) (.bool false) (.bool false) (.int .i64 0) (.slice none 0 0) (.slice none 0 0)
    clear p0 f0 p1 f1 p2 f2 p3 f3 p4 f4 p5 f5 p6 f6 p7 f7 p8 f8 p9 f9
    generalize ((((((((((W3.setCell ⟨s + 1, 0, none⟩ (.int .i64 2)).setCell ⟨s + 1, 1, none⟩ (.slice none 0 0)).setCell ⟨s + 1, 2, none⟩ (.int .i64 0)).setCell ⟨s + 1, 3, none⟩ (.slice none 0 0)).setCell ⟨s + 1, 4, none⟩ (.bool false)).setCell ⟨s + 1, 5, none⟩ (.bool false)).setCell ⟨s + 1, 6, none⟩ (.bool false)).setCell ⟨s + 1, 7, none⟩ (.int .i64 0)).setCell ⟨s + 1, 8, none⟩ (.slice none 0 0)).setCell ⟨s + 1, 9, none⟩ (.slice none 0 0)) = V at *
    have x0 := NN.out.1.cell 0 rfl
    have x1 := NN.out.1.cell 1 rfl
    have x2 := NN.out.1.cell 2 rfl
    have x3 := NN.out.1.cell 3 rfl
    have x4 := NN.out.1.cell 4 rfl
    have x5 := NN.out.1.cell 5 rfl
    have x6 := NN.out.1.cell 6 rfl
    have x7 := NN.out.1.cell 7 rfl
    have x8 := NN.out.1.cell 8 rfl
    have x9 := NN.out.1.cell 9 rfl
    have BV : Below w.heap.size w V := Mq.under B3.out NN.out.2 fun k e => by have := HS.out; omega
    have MV := NN.out.2
    refine bodyPost_ret (v := .agg #[.int .i64 2, .slice none 0 0, .int .i64 0, .slice none 0 0, .bool false, .bool false, .bool false, .int .i64 0, .slice none 0 0, .slice none 0 0]) (by simp [results, Tryz.results27, go_sem, x0, x1, x2, x3, x4, x5, x6, x7, x8, x9]) rfl ?_
    rw [HE1.out, HE2.out]
    exact ⟨_, _, _, _, rfl, void_hm _ _, void_ha, BV⟩
  have HE1 : Hid ((feedR H ys).1 = 0) := by show _ = _; simp [feedR, hf, ha, hm]
  have HE2 : Hid ((feedR H ys).2 = feedV H ys) := by show _ = _; simp [feedR, hf, ha, hm]
  refine (i_feed _ _ _ H _ _ _ ys _ _ V3.out MI3.out MO3.out AP.out (HY.out.stay B3.out) (by have := HYL.out; omega) LW.out).mono ?_
  rintro e w4 ⟨rfl, i4, o4, s4'⟩
  have s4 : Si W3 w4 m _ _ i4 o4 (feedV H ys) := s4'
  clear s4'
  obtain ⟨G, hG⟩ : ∃ G, feedV H ys = G := ⟨_, rfl⟩
  rw [hG] at s4
  have HG : Hid (feedV H ys = G) := hG
  have HEG : Hid ((feedR H ys).2 = G) := HE2.out.trans hG
  have S4 : Hid (Si W3 w4 m (.slice xa xn xk) (.slice ya' yn' yk) _ _ G) := s4
  have VR4 : Hid (Vb w4 (s + 1) #[.int .i64 0, .slice none 0 0, .int .i64 0, .slice none 0 0, .bool false, .bool false, .bool false, .int .i64 0, .slice none 0 0, .slice none 0 0] 62) := S4.out.g.vb VR3.out fun e => by
    have := LB.out.2; have := LB.out.1; have := HMm.out
    rcases e with e | e | e
    · omega
    · have := (MI.out.lt _ e).1; omega
    · have := (MO.out.lt _ e).1; omega
  have B4 : Hid (Below w.heap.size w w4) := Mq.under B3.out S4.out.g fun k e => by
    have := B1.out.size; have := LB.out.1; have := HMm.out
    rcases e with e | e | e
    · omega
    · have := (MI.out.lt _ e).1; omega
    · have := (MO.out.lt _ e).1; omega
  have LG : Hid (G.regs.length = 16 ∧ G.csr.length = 11 ∧ G.inn.length ≤ 1000 ∧ G.out.length ≤ 1000) := by
    rw [← HG.out]
    exact feedV_lens K.out hm
  clear s4 hG
  go_wp2_with fail
  refine (i_hartr m _ _ G _ S4.out.v S4.out.ri S4.out.ro LG.out.1 LG.out.2.1 LG.out.2.2.1 LG.out.2.2.2).mono ?_
  rintro e w5 ⟨r5, c5, i5, o5, rfl, m5, A5, b5⟩
  obtain ⟨ja0, jk0, rfl, _⟩ := m5.r.shape
  obtain ⟨ja1, jk1, rfl, _⟩ := m5.c.shape
  obtain ⟨ja2, jk2, rfl, _⟩ := m5.i.shape
  obtain ⟨ja3, jk3, rfl, _⟩ := m5.o.shape
  generalize G.regs.length = g0 at *
  generalize G.csr.length = g1 at *
  generalize G.inn.length = g2 at *
  generalize G.out.length = g3 at *
  have M5 : Hid (Hm w5 w4.heap.size (.slice ja0 g0 jk0) (.slice ja1 g1 jk1) (.slice ja2 g2 jk2) (.slice ja3 g3 jk3) G) := m5
  have HA5 : Hid (Ha (.slice ja0 g0 jk0) (.slice ja1 g1 jk1) (.slice ja2 g2 jk2) (.slice ja3 g3 jk3)) := A5
  have B5 : Hid (Below w.heap.size w w5) := on B4.out b5
  have VR5 : Hid (Vb w5 (s + 1) #[.int .i64 0, .slice none 0 0, .int .i64 0, .slice none 0 0, .bool false, .bool false, .bool false, .int .i64 0, .slice none 0 0, .slice none 0 0] 62) := VR4.out.keep b5
  have LQ : Hid (s + 1 < w4.heap.size) := VR4.out.lt
  clear m5 A5 b5
  have p0 := VR5.out.cell 0 rfl
  have f0 := VR5.out.free 0
  have p1 := VR5.out.cell 1 rfl
  have f1 := VR5.out.free 1
  have p2 := VR5.out.cell 2 rfl
  have f2 := VR5.out.free 2
  have p3 := VR5.out.cell 3 rfl
  have f3 := VR5.out.free 3
  have p4 := VR5.out.cell 4 rfl
  have f4 := VR5.out.free 4
  have p5 := VR5.out.cell 5 rfl
  have f5 := VR5.out.free 5
  have p6 := VR5.out.cell 6 rfl
  have f6 := VR5.out.free 6
  have p7 := VR5.out.cell 7 rfl
  have f7 := VR5.out.free 7
  have p8 := VR5.out.cell 8 rfl
  have f8 := VR5.out.free 8
  have p9 := VR5.out.cell 9 rfl
  have f9 := VR5.out.free 9
  go_wp2_with fail
  have NN : Hid (_ ∧ _) := ten VR5.out (.int .i64 0) (.slice ja0 g0 jk0) (.int .i64 G.pc) (.slice ja1 g1 jk1) (.bool G.halted) (.bool G.waiting) (.bool G.rung) (.int .i64 G.done) (.slice ja2 g2 jk2) (.slice ja3 g3 jk3)
  clear p0 f0 p1 f1 p2 f2 p3 f3 p4 f4 p5 f5 p6 f6 p7 f7 p8 f8 p9 f9
  generalize ((((((((((w5.setCell ⟨s + 1, 0, none⟩ (.int .i64 0)).setCell ⟨s + 1, 1, none⟩ (.slice ja0 g0 jk0)).setCell ⟨s + 1, 2, none⟩ (.int .i64 G.pc)).setCell ⟨s + 1, 3, none⟩ (.slice ja1 g1 jk1)).setCell ⟨s + 1, 4, none⟩ (.bool G.halted)).setCell ⟨s + 1, 5, none⟩ (.bool G.waiting)).setCell ⟨s + 1, 6, none⟩ (.bool G.rung)).setCell ⟨s + 1, 7, none⟩ (.int .i64 G.done)).setCell ⟨s + 1, 8, none⟩ (.slice ja2 g2 jk2)).setCell ⟨s + 1, 9, none⟩ (.slice ja3 g3 jk3)) = V at *
  have x0 := NN.out.1.cell 0 rfl
  have x1 := NN.out.1.cell 1 rfl
  have x2 := NN.out.1.cell 2 rfl
  have x3 := NN.out.1.cell 3 rfl
  have x4 := NN.out.1.cell 4 rfl
  have x5 := NN.out.1.cell 5 rfl
  have x6 := NN.out.1.cell 6 rfl
  have x7 := NN.out.1.cell 7 rfl
  have x8 := NN.out.1.cell 8 rfl
  have x9 := NN.out.1.cell 9 rfl
  have BV : Below w.heap.size w V := Mq.under B5.out NN.out.2 fun k e => by have := HS.out; omega
  have MV := NN.out.2
  refine bodyPost_ret (v := .agg #[.int .i64 0, .slice ja0 g0 jk0, .int .i64 G.pc, .slice ja1 g1 jk1, .bool G.halted, .bool G.waiting, .bool G.rung, .int .i64 G.done, .slice ja2 g2 jk2, .slice ja3 g3 jk3]) (by simp [results, Tryz.results27, go_sem, x0, x1, x2, x3, x4, x5, x6, x7, x8, x9]) rfl ?_
  rw [HE1.out, HEG.out]
  exact ⟨_, _, _, _, rfl, ((MV.hm M5.out fun k e f => by have := (M5.out.own k e).1; have := LQ.out; omega).mono B4.out.size), HA5.out, BV⟩

set_option maxRecDepth 20000 in
set_option maxHeartbeats 8000000 in
theorem s_feedHart (r c i o : Value) (H : Ht) (ya : Option Addr) (yn yc : Nat) (ys : List Int) (b : Nat) (w : World) (h : Hm w b r c i o H) (hy : Rn w ya yn yc ys) (hyn : yn ≤ 1048576) :
    Calls Tryz.prog 21 #[.agg #[r, .int .i64 H.pc, c, .bool H.halted, .bool H.waiting, .bool H.rung, .int .i64 H.done, i, o], .slice ya yn yc] w fun e w' => ∃ r' c' i' o', e = .returned (.agg #[.int .i64 (feedR H ys).1, r', .int .i64 (feedR H ys).2.pc, c', .bool (feedR H ys).2.halted, .bool (feedR H ys).2.waiting, .bool (feedR H ys).2.rung, .int .i64 (feedR H ys).2.done, i', o']) ∧ Hm w' w.heap.size r' c' i' o' (feedR H ys).2 ∧ Below w.heap.size w w' := by
  have HM : Hid (Hm w b r c i o H) := h
  obtain ⟨a0, k0, rfl, _⟩ := h.r.shape
  obtain ⟨a1, k1, rfl, _⟩ := h.c.shape
  obtain ⟨a2, k2, rfl, _⟩ := h.i.shape
  obtain ⟨a3, k3, rfl, _⟩ := h.o.shape
  clear h
  have HY : Hid (Rn w ya yn yc ys) := hy
  have HYN : Hid (yn ≤ 1048576) := hyn
  have HYL : Hid (yn = ys.length) := hy.len
  clear hy hyn
  generalize hW : (w.alloc (.cells #[.slice a0 H.regs.length k0, .int .i64 H.pc, .slice a1 H.csr.length k1, .bool H.halted, .bool H.waiting, .bool H.rung, .int .i64 H.done, .slice a2 H.inn.length k2, .slice a3 H.out.length k3] 60)).alloc (.cells #[.int .i64 0, .slice none 0 0, .int .i64 0, .slice none 0 0, .bool false, .bool false, .bool false, .int .i64 0, .slice none 0 0, .slice none 0 0] 62) = W
  have B0 : Hid (Below w.heap.size w W) := by show Below _ _ _; rw [← hW]; exact al (al (Below.refl _ _) _) _
  obtain ⟨s, hS⟩ : ∃ s, w.heap.size = s := ⟨_, rfl⟩
  have HS : Hid (w.heap.size = s) := hS
  have VA : Hid (Vb W s #[.slice a0 H.regs.length k0, .int .i64 H.pc, .slice a1 H.csr.length k1, .bool H.halted, .bool H.waiting, .bool H.rung, .int .i64 H.done, .slice a2 H.inn.length k2, .slice a3 H.out.length k3] 60) := by
    show Vb _ _ _ _; rw [← hW, ← hS]; exact (Vb.new _ _ _).push _
  have VR : Hid (Vb W (s + 1) #[.int .i64 0, .slice none 0 0, .int .i64 0, .slice none 0 0, .bool false, .bool false, .bool false, .int .i64 0, .slice none 0 0, .slice none 0 0] 62) := by
    have z1 : s + 1 = (w.alloc (.cells #[.slice a0 H.regs.length k0, .int .i64 H.pc, .slice a1 H.csr.length k1, .bool H.halted, .bool H.waiting, .bool H.rung, .int .i64 H.done, .slice a2 H.inn.length k2, .slice a3 H.out.length k3] 60)).heap.size := by rw [← hS]; simp
    show Vb _ _ _ _; rw [← hW, z1]; exact Vb.new _ _ _
  have q0 := VA.out.cell 0 rfl
  have q1 := VA.out.cell 1 rfl
  have q2 := VA.out.cell 2 rfl
  have q3 := VA.out.cell 3 rfl
  have q4 := VA.out.cell 4 rfl
  have q5 := VA.out.cell 5 rfl
  have q6 := VA.out.cell 6 rfl
  have q7 := VA.out.cell 7 rfl
  have q8 := VA.out.cell 8 rfl
  go_enter Tryz.func21, Tryz.ntmps21
  go_wp2_with fail
  clear hW hS q0 q1 q2 q3 q4 q5 q6 q7 q8
  refine (s_fault _ _ _ _ _ H _ _ (HM.out.keep B0.out) VA.out).mono ?_
  rintro e w1 ⟨rfl, hw1⟩
  have b1 : Below W.heap.size W w1 := by rw [hw1]; exact Below.refl _ _
  clear hw1
  have B1 : Hid (Below w.heap.size w w1) := on B0.out b1
  have VA1 : Hid (Vb w1 s #[.slice a0 H.regs.length k0, .int .i64 H.pc, .slice a1 H.csr.length k1, .bool H.halted, .bool H.waiting, .bool H.rung, .int .i64 H.done, .slice a2 H.inn.length k2, .slice a3 H.out.length k3] 60) := VA.out.keep b1
  have VR1 : Hid (Vb w1 (s + 1) #[.int .i64 0, .slice none 0 0, .int .i64 0, .slice none 0 0, .bool false, .bool false, .bool false, .int .i64 0, .slice none 0 0, .slice none 0 0] 62) := VR.out.keep b1
  have M1 : Hid (Hm w1 b _ _ _ _ H) := HM.out.keep B1.out
  clear b1 VA VR
  by_cases hf : hfV H = 0
  case neg =>
    have E0 : Hid ((feedR H ys).1 = hfV H) := by show _ = _; simp only [feedR, if_neg hf]
    have E1 : Hid ((feedR H ys).2 = voidH) := by show _ = _; simp only [feedR, if_neg hf]
    generalize hfV H = f at *
    have HE1 : Hid ((feedR H ys).1 = f) := by show _ = _; first | exact E0.out | exact E1.out
    have HE2 : Hid ((feedR H ys).2 = voidH) := by show _ = _; first | exact E0.out | exact E1.out
    have p0 := VR1.out.cell 0 rfl
    have f0 := VR1.out.free 0
    have p1 := VR1.out.cell 1 rfl
    have f1 := VR1.out.free 1
    have p2 := VR1.out.cell 2 rfl
    have f2 := VR1.out.free 2
    have p3 := VR1.out.cell 3 rfl
    have f3 := VR1.out.free 3
    have p4 := VR1.out.cell 4 rfl
    have f4 := VR1.out.free 4
    have p5 := VR1.out.cell 5 rfl
    have f5 := VR1.out.free 5
    have p6 := VR1.out.cell 6 rfl
    have f6 := VR1.out.free 6
    have p7 := VR1.out.cell 7 rfl
    have f7 := VR1.out.free 7
    have p8 := VR1.out.cell 8 rfl
    have f8 := VR1.out.free 8
    have p9 := VR1.out.cell 9 rfl
    have f9 := VR1.out.free 9
    go_wp2_with fail
    have NN : Hid (_ ∧ _) := ten VR1.out (.int .i64 f) (.slice none 0 0) (.int .i64 0) (.slice none 0 0) (.bool false) (.bool false) (.bool false) (.int .i64 0) (.slice none 0 0) (.slice none 0 0)
    clear p0 f0 p1 f1 p2 f2 p3 f3 p4 f4 p5 f5 p6 f6 p7 f7 p8 f8 p9 f9
    generalize ((((((((((w1.setCell ⟨s + 1, 0, none⟩ (.int .i64 f)).setCell ⟨s + 1, 1, none⟩ (.slice none 0 0)).setCell ⟨s + 1, 2, none⟩ (.int .i64 0)).setCell ⟨s + 1, 3, none⟩ (.slice none 0 0)).setCell ⟨s + 1, 4, none⟩ (.bool false)).setCell ⟨s + 1, 5, none⟩ (.bool false)).setCell ⟨s + 1, 6, none⟩ (.bool false)).setCell ⟨s + 1, 7, none⟩ (.int .i64 0)).setCell ⟨s + 1, 8, none⟩ (.slice none 0 0)).setCell ⟨s + 1, 9, none⟩ (.slice none 0 0)) = V at *
    have x0 := NN.out.1.cell 0 rfl
    have x1 := NN.out.1.cell 1 rfl
    have x2 := NN.out.1.cell 2 rfl
    have x3 := NN.out.1.cell 3 rfl
    have x4 := NN.out.1.cell 4 rfl
    have x5 := NN.out.1.cell 5 rfl
    have x6 := NN.out.1.cell 6 rfl
    have x7 := NN.out.1.cell 7 rfl
    have x8 := NN.out.1.cell 8 rfl
    have x9 := NN.out.1.cell 9 rfl
    have BV : Below w.heap.size w V := Mq.under B1.out NN.out.2 fun k e => by have := HS.out; omega
    have MV := NN.out.2
    refine bodyPost_ret (v := .agg #[.int .i64 f, .slice none 0 0, .int .i64 0, .slice none 0 0, .bool false, .bool false, .bool false, .int .i64 0, .slice none 0 0, .slice none 0 0]) (by simp [results, Tryz.results21, go_sem, x0, x1, x2, x3, x4, x5, x6, x7, x8, x9]) rfl ?_
    rw [HE1.out, HE2.out]
    exact ⟨_, _, _, _, rfl, void_hm _ _, BV⟩
  have K : Hid (Hok H) := hok_of hf
  have HF : Hid (hfV H = 0) := hf
  rw [hf]
  cases ha : ys.all isW
  case false =>
    have HE1 : Hid ((feedR H ys).1 = 3) := by show _ = _; simp [feedR, hf, ha]
    have HE2 : Hid ((feedR H ys).2 = voidH) := by show _ = _; simp [feedR, hf, ha]
    have p0 := VR1.out.cell 0 rfl
    have f0 := VR1.out.free 0
    have p1 := VR1.out.cell 1 rfl
    have f1 := VR1.out.free 1
    have p2 := VR1.out.cell 2 rfl
    have f2 := VR1.out.free 2
    have p3 := VR1.out.cell 3 rfl
    have f3 := VR1.out.free 3
    have p4 := VR1.out.cell 4 rfl
    have f4 := VR1.out.free 4
    have p5 := VR1.out.cell 5 rfl
    have f5 := VR1.out.free 5
    have p6 := VR1.out.cell 6 rfl
    have f6 := VR1.out.free 6
    have p7 := VR1.out.cell 7 rfl
    have f7 := VR1.out.free 7
    have p8 := VR1.out.cell 8 rfl
    have f8 := VR1.out.free 8
    have p9 := VR1.out.cell 9 rfl
    have f9 := VR1.out.free 9
    go_wp2_with (go_at_call 44; refine (s_words _ _ _ ys _ (HY.out.stay B1.out)).mono ?_; rintro e y ⟨rfl, hy⟩; rw [hy]; clear hy y; rw [ha])
    have NN : Hid (_ ∧ _) := ten VR1.out (.int .i64 3) (.slice none 0 0) (.int .i64 0) (.slice none 0 0) (.bool false) (.bool false) (.bool false) (.int .i64 0) (.slice none 0 0) (.slice none 0 0)
    clear p0 f0 p1 f1 p2 f2 p3 f3 p4 f4 p5 f5 p6 f6 p7 f7 p8 f8 p9 f9
    generalize ((((((((((w1.setCell ⟨s + 1, 0, none⟩ (.int .i64 3)).setCell ⟨s + 1, 1, none⟩ (.slice none 0 0)).setCell ⟨s + 1, 2, none⟩ (.int .i64 0)).setCell ⟨s + 1, 3, none⟩ (.slice none 0 0)).setCell ⟨s + 1, 4, none⟩ (.bool false)).setCell ⟨s + 1, 5, none⟩ (.bool false)).setCell ⟨s + 1, 6, none⟩ (.bool false)).setCell ⟨s + 1, 7, none⟩ (.int .i64 0)).setCell ⟨s + 1, 8, none⟩ (.slice none 0 0)).setCell ⟨s + 1, 9, none⟩ (.slice none 0 0)) = V at *
    have x0 := NN.out.1.cell 0 rfl
    have x1 := NN.out.1.cell 1 rfl
    have x2 := NN.out.1.cell 2 rfl
    have x3 := NN.out.1.cell 3 rfl
    have x4 := NN.out.1.cell 4 rfl
    have x5 := NN.out.1.cell 5 rfl
    have x6 := NN.out.1.cell 6 rfl
    have x7 := NN.out.1.cell 7 rfl
    have x8 := NN.out.1.cell 8 rfl
    have x9 := NN.out.1.cell 9 rfl
    have BV : Below w.heap.size w V := Mq.under B1.out NN.out.2 fun k e => by have := HS.out; omega
    have MV := NN.out.2
    refine bodyPost_ret (v := .agg #[.int .i64 3, .slice none 0 0, .int .i64 0, .slice none 0 0, .bool false, .bool false, .bool false, .int .i64 0, .slice none 0 0, .slice none 0 0]) (by simp [results, Tryz.results21, go_sem, x0, x1, x2, x3, x4, x5, x6, x7, x8, x9]) rfl ?_
    rw [HE1.out, HE2.out]
    exact ⟨_, _, _, _, rfl, void_hm _ _, BV⟩
  by_cases hm : H.inn.length + ys.length ≤ 40
  case neg =>
    have h1 : (40 : Int) < (H.inn.length : Int) + (yn : Int) := by have := HYL.out; omega
    have h2 : (H.inn.length : Int) ≤ 40 := by have := K.out.i40; omega
    have h3 : (yn : Int) ≤ 1048576 := by have := HYN.out; omega
    have q7 := VA1.out.cell 7 rfl
    have HE1 : Hid ((feedR H ys).1 = 2) := by show _ = _; simp [feedR, hf, ha, hm]
    have HE2 : Hid ((feedR H ys).2 = voidH) := by show _ = _; simp [feedR, hf, ha, hm]
    have p0 := VR1.out.cell 0 rfl
    have f0 := VR1.out.free 0
    have p1 := VR1.out.cell 1 rfl
    have f1 := VR1.out.free 1
    have p2 := VR1.out.cell 2 rfl
    have f2 := VR1.out.free 2
    have p3 := VR1.out.cell 3 rfl
    have f3 := VR1.out.free 3
    have p4 := VR1.out.cell 4 rfl
    have f4 := VR1.out.free 4
    have p5 := VR1.out.cell 5 rfl
    have f5 := VR1.out.free 5
    have p6 := VR1.out.cell 6 rfl
    have f6 := VR1.out.free 6
    have p7 := VR1.out.cell 7 rfl
    have f7 := VR1.out.free 7
    have p8 := VR1.out.cell 8 rfl
    have f8 := VR1.out.free 8
    have p9 := VR1.out.cell 9 rfl
    have f9 := VR1.out.free 9
    go_wp2_with (go_at_call 44; refine (s_words _ _ _ ys _ (HY.out.stay B1.out)).mono ?_; rintro e y ⟨rfl, hy⟩; rw [hy]; clear hy y; rw [ha])
    have NN : Hid (_ ∧ _) := ten VR1.out (.int .i64 2) (.slice none 0 0) (.int .i64 0) (.slice none 0 0) (.bool false) (.bool false) (.bool false) (.int .i64 0) (.slice none 0 0) (.slice none 0 0)
    clear p0 f0 p1 f1 p2 f2 p3 f3 p4 f4 p5 f5 p6 f6 p7 f7 p8 f8 p9 f9
    generalize ((((((((((w1.setCell ⟨s + 1, 0, none⟩ (.int .i64 2)).setCell ⟨s + 1, 1, none⟩ (.slice none 0 0)).setCell ⟨s + 1, 2, none⟩ (.int .i64 0)).setCell ⟨s + 1, 3, none⟩ (.slice none 0 0)).setCell ⟨s + 1, 4, none⟩ (.bool false)).setCell ⟨s + 1, 5, none⟩ (.bool false)).setCell ⟨s + 1, 6, none⟩ (.bool false)).setCell ⟨s + 1, 7, none⟩ (.int .i64 0)).setCell ⟨s + 1, 8, none⟩ (.slice none 0 0)).setCell ⟨s + 1, 9, none⟩ (.slice none 0 0)) = V at *
    have x0 := NN.out.1.cell 0 rfl
    have x1 := NN.out.1.cell 1 rfl
    have x2 := NN.out.1.cell 2 rfl
    have x3 := NN.out.1.cell 3 rfl
    have x4 := NN.out.1.cell 4 rfl
    have x5 := NN.out.1.cell 5 rfl
    have x6 := NN.out.1.cell 6 rfl
    have x7 := NN.out.1.cell 7 rfl
    have x8 := NN.out.1.cell 8 rfl
    have x9 := NN.out.1.cell 9 rfl
    have BV : Below w.heap.size w V := Mq.under B1.out NN.out.2 fun k e => by have := HS.out; omega
    have MV := NN.out.2
    refine bodyPost_ret (v := .agg #[.int .i64 2, .slice none 0 0, .int .i64 0, .slice none 0 0, .bool false, .bool false, .bool false, .int .i64 0, .slice none 0 0, .slice none 0 0]) (by simp [results, Tryz.results21, go_sem, x0, x1, x2, x3, x4, x5, x6, x7, x8, x9]) rfl ?_
    rw [HE1.out, HE2.out]
    exact ⟨_, _, _, _, rfl, void_hm _ _, BV⟩
  have h1 : ¬ (40 : Int) < (H.inn.length : Int) + (yn : Int) := by have := HYL.out; omega
  have h2 : (H.inn.length : Int) ≤ 40 := by have := K.out.i40; omega
  have h3 : (yn : Int) ≤ 1048576 := by have := HYN.out; omega
  have HE1 : Hid ((feedR H ys).1 = 0) := by show _ = _; simp [feedR, hf, ha, hm]
  have HE2 : Hid ((feedR H ys).2 = feedV H ys) := by show _ = _; simp [feedR, hf, ha, hm]
  have q0 := VA1.out.cell 0 rfl
  have q1 := VA1.out.cell 1 rfl
  have q2 := VA1.out.cell 2 rfl
  have q3 := VA1.out.cell 3 rfl
  have q4 := VA1.out.cell 4 rfl
  have q5 := VA1.out.cell 5 rfl
  have q6 := VA1.out.cell 6 rfl
  have q7 := VA1.out.cell 7 rfl
  have q8 := VA1.out.cell 8 rfl
  go_wp2_with (go_at_call 44; refine (s_words _ _ _ ys _ (HY.out.stay B1.out)).mono ?_; rintro e y ⟨rfl, hy⟩; rw [hy]; clear hy y; rw [ha])
  clear q0 q1 q2 q3 q4 q5 q6 q7 q8 h1 h2 h3
  refine (s_copy _ _ _ _ H _ _ M1.out (by have := K.out.r16; omega) (by have := K.out.c11; omega) (by have := K.out.i40; omega) (by have := K.out.o40; omega)).mono ?_
  rintro e w2 ⟨r2, c2, i2, o2, rfl, m2, A2', b2⟩
  obtain ⟨xa0, xk0, rfl, _⟩ := m2.r.shape
  obtain ⟨xa1, xk1, rfl, _⟩ := m2.c.shape
  obtain ⟨xa2, xk2, rfl, _⟩ := m2.i.shape
  obtain ⟨xa3, xk3, rfl, _⟩ := m2.o.shape
  have A2 : Hid (Ha (.slice xa0 H.regs.length xk0) (.slice xa1 H.csr.length xk1) (.slice xa2 H.inn.length xk2) (.slice xa3 H.out.length xk3)) := A2'
  have M2 : Hid (Hm w2 w1.heap.size (.slice xa0 H.regs.length xk0) (.slice xa1 H.csr.length xk1) (.slice xa2 H.inn.length xk2) (.slice xa3 H.out.length xk3) H) := m2
  have B2 : Hid (Below w.heap.size w w2) := on B1.out b2
  have VR2 : Hid (Vb w2 (s + 1) #[.int .i64 0, .slice none 0 0, .int .i64 0, .slice none 0 0, .bool false, .bool false, .bool false, .int .i64 0, .slice none 0 0, .slice none 0 0] 62) := VR1.out.keep b2
  have LQ : Hid (s + 1 < w1.heap.size) := VR1.out.lt
  have LB : Hid (w1.heap.size ≤ w2.heap.size) := b2.size
  clear m2 A2' b2
  go_upto_region 9 with fail
  generalize hW3 : (w2.alloc (.cells #[.slice xa0 H.regs.length xk0, .int .i64 H.pc, .slice xa1 H.csr.length xk1, .bool H.halted, .bool H.waiting, .bool H.rung, .int .i64 H.done, .slice xa2 H.inn.length xk2, .slice xa3 H.out.length xk3] 60)) = W3
  obtain ⟨q, hq⟩ : ∃ q, w2.heap.size = q := ⟨_, rfl⟩
  have HQ : Hid (w2.heap.size = q) := hq
  rw [hq]
  have V3 : Hid (Vb W3 q #[.slice xa0 H.regs.length xk0, .int .i64 H.pc, .slice xa1 H.csr.length xk1, .bool H.halted, .bool H.waiting, .bool H.rung, .int .i64 H.done, .slice xa2 H.inn.length xk2, .slice xa3 H.out.length xk3] 60) := by show Vb _ _ _ _; rw [← hW3, ← hq]; exact Vb.new _ _ _
  have B3 : Hid (Below w.heap.size w W3) := by show Below _ _ _; rw [← hW3]; exact al B2.out _
  have VR3 : Hid (Vb W3 (s + 1) #[.int .i64 0, .slice none 0 0, .int .i64 0, .slice none 0 0, .bool false, .bool false, .bool false, .int .i64 0, .slice none 0 0, .slice none 0 0] 62) := by show Vb _ _ _ _; rw [← hW3]; exact VR2.out.push _
  have M3 : Hid (Hm W3 w1.heap.size (.slice xa0 H.regs.length xk0) (.slice xa1 H.csr.length xk1) (.slice xa2 H.inn.length xk2) (.slice xa3 H.out.length xk3) H) := by show Hm _ _ _ _ _ _ _; rw [← hW3]; exact M2.out.keep (al (Below.refl _ _) _)
  have NQ : Hid (∀ k, Own4 (.slice xa0 H.regs.length xk0) (.slice xa1 H.csr.length xk1) (.slice xa2 H.inn.length xk2) (.slice xa3 H.out.length xk3) k → k ≠ q) := fun k e f => by have := (M2.out.own k e).2; have := HQ.out; omega
  have LW : Hid (w1.heap.size ≤ W3.heap.size) := by show _ ≤ _; rw [← hW3]; have := LB.out; simp; omega
  clear hW3 hq
  have c7 : W3.cell? ⟨q, 7, none⟩ = some (.slice xa2 H.inn.length xk2) := V3.out.cell 7 rfl
  obtain ⟨l, hl⟩ : ∃ l, H.inn.length = l := ⟨_, rfl⟩
  have HL : Hid (H.inn.length = l) := hl
  rw [hl] at c7 V3 M3 NQ M2 A2 ⊢
  clear hl
  go_upto_region 10 with (at_builtin; refine wp_appy _ rfl _ _ rfl w1.heap.size _ H.inn rfl M3.out.i ya yn yc ys rfl (HY.out.stay B3.out) (by have := K.out.i40; have := HYN.out; omega) LW.out ?_; intro v' w' hN' hG'; obtain ⟨y, cap', hv', _⟩ := hN'.shape; obtain ⟨Ln, hLn⟩ : ∃ Ln, (H.inn ++ ys).length = Ln := ⟨_, rfl⟩; rw [hLn] at hv'; clear hLn; subst hv'; have N4 : Hid (Nums w' w1.heap.size (.slice y Ln cap') (H.inn ++ ys)) := hN'; have G4 : Hid (W3.grownBy w' (Value.slice xa2 l xk2).ownBlock) := hG'; have V4 : Hid (Vb w' q _ 60) := V3.out.gr hG' (fun e => NQ.out q (.inr (.inr (.inl e.symm))) rfl); clear hN' hG' c7; have c1 : w'.cell? ⟨q, 7, none⟩ = some (.slice xa2 l xk2) := V4.out.cell 7 rfl; have f1 := V4.out.free 7)
  have M5 : Hid (Hm (w'.setCell ⟨q, 7, none⟩ (.slice y Ln cap')) w1.heap.size (.slice xa0 H.regs.length xk0) (.slice xa1 H.csr.length xk1) (.slice y Ln cap') (.slice xa3 H.out.length xk3) (feedV H ys)) :=
    ⟨(M3.out.r.kept G4.out A2.out.ri).put ⟨q, 7, none⟩ _ (fun e => NQ.out _ (.inl e) rfl), (M3.out.c.kept G4.out A2.out.ci).put ⟨q, 7, none⟩ _ (fun e => NQ.out _ (.inr (.inl e)) rfl),
      N4.out.put ⟨q, 7, none⟩ _ (N4.out.ne_vb (t := 60) V4.out (by decide)), (M3.out.o.kept G4.out A2.out.io.swap).put ⟨q, 7, none⟩ _ (fun e => NQ.out _ (.inr (.inr (.inr e))) rfl)⟩
  have V5 : Hid (Vb (w'.setCell ⟨q, 7, none⟩ (.slice y Ln cap')) q #[.slice xa0 H.regs.length xk0, .int .i64 (feedV H ys).pc, .slice xa1 H.csr.length xk1, .bool (feedV H ys).halted, .bool (feedV H ys).waiting, .bool (feedV H ys).rung, .int .i64 (feedV H ys).done, .slice y Ln cap', .slice xa3 H.out.length xk3] 60) := V4.out.set 7 _
  have G5 : Hid (Mq (fun j => j = q ∨ (Value.slice xa2 l xk2).ownBlock = some j) W3 (w'.setCell ⟨q, 7, none⟩ (.slice y Ln cap'))) := (Mq.of G4.out fun k e => .inr e.symm).set ⟨q, 7, none⟩ _ (.inl rfl)
  clear c1 f1 V4 N4 G4
  generalize w'.setCell ⟨q, 7, none⟩ (.slice y Ln cap') = w4 at *
  obtain ⟨G, hG⟩ : ∃ G, feedV H ys = G := ⟨_, rfl⟩
  rw [hG] at M5 V5
  have HEG : Hid ((feedR H ys).2 = G) := HE2.out.trans hG
  have VR4 : Hid (Vb w4 (s + 1) #[.int .i64 0, .slice none 0 0, .int .i64 0, .slice none 0 0, .bool false, .bool false, .bool false, .int .i64 0, .slice none 0 0, .slice none 0 0] 62) := G5.out.vb VR3.out fun e => by
    have := LQ.out
    rcases e with e | e
    · have := VR2.out.lt; have := HQ.out; omega
    · have := (M2.out.own _ (.inr (.inr (.inl e)))).1; omega
  have B4 : Hid (Below w.heap.size w w4) := Mq.under B3.out G5.out fun k e => by
    have := B1.out.size; have := B2.out.size
    rcases e with e | e
    · have := HQ.out; omega
    · have := (M2.out.own _ (.inr (.inr (.inl e)))).1; omega
  clear hG
  generalize H.regs.length = g0 at *
  generalize H.csr.length = g1 at *
  generalize H.out.length = g3 at *
  have q0 := V5.out.cell 0 rfl
  have q1 := V5.out.cell 1 rfl
  have q2 := V5.out.cell 2 rfl
  have q3 := V5.out.cell 3 rfl
  have q4 := V5.out.cell 4 rfl
  have q5 := V5.out.cell 5 rfl
  have q6 := V5.out.cell 6 rfl
  have q7 := V5.out.cell 7 rfl
  have q8 := V5.out.cell 8 rfl
  have p0 := VR4.out.cell 0 rfl
  have f0 := VR4.out.free 0
  have p1 := VR4.out.cell 1 rfl
  have f1 := VR4.out.free 1
  have p2 := VR4.out.cell 2 rfl
  have f2 := VR4.out.free 2
  have p3 := VR4.out.cell 3 rfl
  have f3 := VR4.out.free 3
  have p4 := VR4.out.cell 4 rfl
  have f4 := VR4.out.free 4
  have p5 := VR4.out.cell 5 rfl
  have f5 := VR4.out.free 5
  have p6 := VR4.out.cell 6 rfl
  have f6 := VR4.out.free 6
  have p7 := VR4.out.cell 7 rfl
  have f7 := VR4.out.free 7
  have p8 := VR4.out.cell 8 rfl
  have f8 := VR4.out.free 8
  have p9 := VR4.out.cell 9 rfl
  have f9 := VR4.out.free 9
  go_wp2_with fail
  clear q0 q1 q2 q3 q4 q5 q6 q7 q8
  have NN : Hid (_ ∧ _) := ten VR4.out (.int .i64 0) (.slice xa0 g0 xk0) (.int .i64 G.pc) (.slice xa1 g1 xk1) (.bool G.halted) (.bool G.waiting) (.bool G.rung) (.int .i64 G.done) (.slice y Ln cap') (.slice xa3 g3 xk3)
  clear p0 f0 p1 f1 p2 f2 p3 f3 p4 f4 p5 f5 p6 f6 p7 f7 p8 f8 p9 f9
  generalize ((((((((((w4.setCell ⟨s + 1, 0, none⟩ (.int .i64 0)).setCell ⟨s + 1, 1, none⟩ (.slice xa0 g0 xk0)).setCell ⟨s + 1, 2, none⟩ (.int .i64 G.pc)).setCell ⟨s + 1, 3, none⟩ (.slice xa1 g1 xk1)).setCell ⟨s + 1, 4, none⟩ (.bool G.halted)).setCell ⟨s + 1, 5, none⟩ (.bool G.waiting)).setCell ⟨s + 1, 6, none⟩ (.bool G.rung)).setCell ⟨s + 1, 7, none⟩ (.int .i64 G.done)).setCell ⟨s + 1, 8, none⟩ (.slice y Ln cap')).setCell ⟨s + 1, 9, none⟩ (.slice xa3 g3 xk3)) = V at *
  have x0 := NN.out.1.cell 0 rfl
  have x1 := NN.out.1.cell 1 rfl
  have x2 := NN.out.1.cell 2 rfl
  have x3 := NN.out.1.cell 3 rfl
  have x4 := NN.out.1.cell 4 rfl
  have x5 := NN.out.1.cell 5 rfl
  have x6 := NN.out.1.cell 6 rfl
  have x7 := NN.out.1.cell 7 rfl
  have x8 := NN.out.1.cell 8 rfl
  have x9 := NN.out.1.cell 9 rfl
  have BV : Below w.heap.size w V := Mq.under B4.out NN.out.2 fun k e => by have := HS.out; omega
  have MV := NN.out.2
  refine bodyPost_ret (v := .agg #[.int .i64 0, .slice xa0 g0 xk0, .int .i64 G.pc, .slice xa1 g1 xk1, .bool G.halted, .bool G.waiting, .bool G.rung, .int .i64 G.done, .slice y Ln cap', .slice xa3 g3 xk3]) (by simp [results, Tryz.results21, go_sem, x0, x1, x2, x3, x4, x5, x6, x7, x8, x9]) rfl ?_
  rw [HE1.out, HEG.out]
  exact ⟨_, _, _, _, rfl, ((MV.hm M5.out fun k e f => by have := (M5.out.own k e).1; have := LQ.out; omega).mono B1.out.size), BV⟩
end Go.Proofs.YtggejbphdadckaaGreatDoor
namespace Go.Proofs.YtggejbphdadckaaGreatDoor
open Go.RowKit
set_option linter.unusedVariables false

set_option maxRecDepth 20000 in
set_option maxHeartbeats 8000000 in
theorem s_fault12 (q : Nat) (a0 a1 a2 a3 : Option Addr) (n0 c0 n1 c1 n2 c2 n3 c3 : Nat) (m h : Value) (X : Hst) (b : Nat) (w : World) (d : Oj w b a0 n0 c0 a1 n1 c1 a2 n2 c2 a3 n3 c3 m h X) (hv : Vb w q #[.slice a0 n0 c0, .slice a1 n1 c1, .slice a2 n2 c2, .slice a3 n3 c3, m, h, .int .i64 X.slot, .int .i64 X.left, .int .i64 X.clock] 40) :
    Calls Tryz.prog 19 #[.pointer (some ⟨q, 0, none⟩)] w fun e w' => e = .returned (.int .i64 (hoV X)) ∧ Below w.heap.size w w' := by
  obtain ⟨am, cm, rfl, _⟩ := d.mem.shape
  obtain ⟨ah, ch, rfl, _, lh2, gh⟩ := d.harts.shape
  obtain ⟨V, hV⟩ : ∃ V, hoV X = V := ⟨_, rfl⟩
  rw [hV]
  have HV : Hid (hoV X = V) := hV
  clear hV
  obtain ⟨lm, hlm⟩ : ∃ n, X.mem.length = n := ⟨_, rfl⟩
  obtain ⟨lh, hlh⟩ : ∃ n, X.harts.length = n := ⟨_, rfl⟩
  rw [hlm, hlh] at d hv
  rw [hlh] at gh
  have HLH : Hid (X.harts.length = lh) := hlh
  have GH : Hid (0 < lh → ∃ g, ah = some ⟨g, 0, none⟩) := gh
  have HL0 : Hid (n0 = X.pol.own.length) := d.pol.own.len
  have HM0 : (n0 : Int) ≤ 9223372036854775807 := by have := d.pol.own.cap; unfold maxLen at this; omega
  have HMH : (lh : Int) ≤ 9223372036854775807 := by obtain ⟨_, _, _, t1, t2, _⟩ := d.harts.shape; rw [hlh] at t1; unfold maxLen at t2; omega
  clear hlm hlh gh lh2
  have Q : Hid (Vb w q #[.slice a0 n0 c0, .slice a1 n1 c1, .slice a2 n2 c2, .slice a3 n3 c3, .slice am lm cm, .slice ah lh ch, .int .i64 X.slot, .int .i64 X.left, .int .i64 X.clock] 40) := hv
  have D : Hid (Oj w b a0 n0 c0 a1 n1 c1 a2 n2 c2 a3 n3 c3 (.slice am lm cm) (.slice ah lh ch) X) := d
  have HA : Hid (PolAt w q X.pol) := ⟨_, _, _, _, _, _, _, _, _, _, _, _, hv.cell 0 rfl, hv.cell 1 rfl, hv.cell 2 rfl, hv.cell 3 rfl, d.pol⟩
  clear d hv
  go_enter Tryz.func19, Tryz.ntmps19
  go_wp2_with fail
  refine (l6_fault _ X.pol _ HA.out).mono ?_
  rintro e w1 ⟨rfl, b1⟩
  have B1 : Hid (Below w.heap.size w w1) := b1
  have Q1 : Hid (Vb w1 q #[.slice a0 n0 c0, .slice a1 n1 c1, .slice a2 n2 c2, .slice a3 n3 c3, .slice am lm cm, .slice ah lh ch, .int .i64 X.slot, .int .i64 X.left, .int .i64 X.clock] 40) := Q.out.keep b1
  clear b1
  by_cases hz : pfV X.pol = 0
  case neg =>
    have E : Hid (pfV X.pol = V) := by show _ = _; rw [← HV.out, hoV, if_neg hz]
    rw [E.out] at hz ⊢
    go_wp2_with fail
    go_ret
    exact ⟨rfl, B1.out⟩
  have PZ : Hid (pfV X.pol = 0) := hz
  rw [hz]
  clear hz
  go_wp2_with fail
  refine wp_region_held (S := fun w' => Below w1.heap.size w1 w') (by kernel_rfl) ?_
  change wpAnyH _ _ _ _ _ _ _ _ (World.drew _)
  have SD : Hid (Below w1.heap.size w1 w1.drew) := (Below.refl _ _).drew
  generalize w1.drew = x0 at *
  refine wpAnyH_take (i := 0) (v := .pointer (some ⟨q, 0, none⟩)) rfl (by kernel_rfl) (by kernel_rfl) (by kernel_rfl) (fun _ _ _ h => h) (Or.inl ⟨by rfl, fun w' hs => by go_simp⟩) SD.out ?_
  change wpAnyH _ _ _ _ _ _ _ (Act.put _ (some 15) _) _
  simp only [Act.put, List.setIfInBounds_toArray, List.set_cons_zero, List.set_cons_succ]
  refine wpAnyH_take (i := 1) (v := .pointer (some ⟨q, 0, none⟩)) rfl (by kernel_rfl) (by kernel_rfl) (by kernel_rfl) (fun _ _ _ h => h) (Or.inl ⟨by rfl, fun w' hs => by go_simp⟩) SD.out ?_
  change wpAnyH _ _ _ _ _ _ _ (Act.put _ (some 16) _) _
  simp only [Act.put, List.setIfInBounds_toArray, List.set_cons_zero, List.set_cons_succ]
  refine wpAnyH_take (i := 2) (v := .pointer (some ⟨q, 4, none⟩)) rfl (by kernel_rfl) (by kernel_rfl) (by kernel_rfl) (fun _ _ _ h => h) (Or.inl ⟨by rfl, fun w' hs => by go_simp⟩) SD.out ?_
  change wpAnyH _ _ _ _ _ _ _ (Act.put _ (some 17) _) _
  simp only [Act.put, List.setIfInBounds_toArray, List.set_cons_zero, List.set_cons_succ]
  refine wpAnyH_take (i := 3) (v := .slice am lm cm) rfl (by kernel_rfl) (by kernel_rfl) (by kernel_rfl) (fun _ _ _ h => h) (Or.inl ⟨by rfl, fun w' hs => by have hq := Q1.out.keep hs; have y4 := hq.cell 4 rfl; go_simp⟩) SD.out ?_
  change wpAnyH _ _ _ _ _ _ _ (Act.put _ (some 18) _) _
  simp only [Act.put, List.setIfInBounds_toArray, List.set_cons_zero, List.set_cons_succ]
  refine wpAnyH_ready (rs := [4]) (by kernel_rfl) (by simp) ?_
  refine AllReadyH.cons rfl (fun K hK => ?_) AllReadyH.nil
  rw [if_pos (by rfl)]
  go_simp
  refine (l7_whole _ X.mem b _ ((D.out.mem.keep B1.out).keep SD.out)).mono ?_
  rintro e x1 ⟨rfl, hx1⟩
  rw [hx1]
  clear hx1 x1
  refine hK.out _ _ SD.out (fun _ => ?_)
  clear hK K
  cases hw : wholeB X.mem
  case false =>
    have E : Hid (1 = V) := by show _ = _; rw [← HV.out, hoV, if_pos PZ.out, if_neg (by rw [hw]; simp)]
    refine wpAnyH_take (i := 5) (v := .bool true) rfl (by kernel_rfl) (by kernel_rfl) (by kernel_rfl) (fun _ _ _ h => h) (Or.inl ⟨by rfl, fun w' hs => by go_simp⟩) SD.out ?_
    change wpAnyH _ _ _ _ _ _ _ (Act.put _ (some 20) _) _
    simp only [Act.put, List.setIfInBounds_toArray, List.set_cons_zero, List.set_cons_succ]
    refine wpAnyH_take (i := 6) (v := .bool true) rfl (by kernel_rfl) (by kernel_rfl) (by kernel_rfl) (fun _ _ _ h => h) (Or.inl ⟨by rfl, fun w' hs => by go_simp⟩) SD.out ?_
    change wpAnyH _ _ _ _ _ _ _ (Act.put _ (some 21) _) _
    simp only [Act.put, List.setIfInBounds_toArray, List.set_cons_zero, List.set_cons_succ]
    refine wpAnyH_take (i := 7) (v := undef) rfl (by kernel_rfl) (by kernel_rfl) (by kernel_rfl) (fun _ _ _ h => h) (Or.inr ⟨by rfl, rfl⟩) SD.out ?_
    change wpAnyH _ _ _ _ _ _ _ (Act.put _ (some 22) _) _
    simp only [Act.put, List.setIfInBounds_toArray, List.set_cons_zero, List.set_cons_succ]
    refine wpAnyH_take (i := 8) (v := undef) rfl (by kernel_rfl) (by kernel_rfl) (by kernel_rfl) (fun _ _ _ h => h) (Or.inr ⟨by rfl, rfl⟩) SD.out ?_
    change wpAnyH _ _ _ _ _ _ _ (Act.put _ (some 23) _) _
    simp only [Act.put, List.setIfInBounds_toArray, List.set_cons_zero, List.set_cons_succ]
    refine wpAnyH_take (i := 9) (v := undef) rfl (by kernel_rfl) (by kernel_rfl) (by kernel_rfl) (fun _ _ _ h => h) (Or.inr ⟨by rfl, rfl⟩) SD.out ?_
    change wpAnyH _ _ _ _ _ _ _ (Act.put _ (some 24) _) _
    simp only [Act.put, List.setIfInBounds_toArray, List.set_cons_zero, List.set_cons_succ]
    refine wpAnyH_take (i := 10) (v := undef) rfl (by kernel_rfl) (by kernel_rfl) (by kernel_rfl) (fun _ _ _ h => h) (Or.inr ⟨by rfl, rfl⟩) SD.out ?_
    change wpAnyH _ _ _ _ _ _ _ (Act.put _ (some 25) _) _
    simp only [Act.put, List.setIfInBounds_toArray, List.set_cons_zero, List.set_cons_succ]
    refine wpAnyH_take (i := 11) (v := undef) rfl (by kernel_rfl) (by kernel_rfl) (by kernel_rfl) (fun _ _ _ h => h) (Or.inr ⟨by rfl, rfl⟩) SD.out ?_
    change wpAnyH _ _ _ _ _ _ _ (Act.put _ (some 26) _) _
    simp only [Act.put, List.setIfInBounds_toArray, List.set_cons_zero, List.set_cons_succ]
    refine wpAnyH_take (i := 12) (v := undef) rfl (by kernel_rfl) (by kernel_rfl) (by kernel_rfl) (fun _ _ _ h => h) (Or.inr ⟨by rfl, rfl⟩) SD.out ?_
    change wpAnyH _ _ _ _ _ _ _ (Act.put _ (some 27) _) _
    simp only [Act.put, List.setIfInBounds_toArray, List.set_cons_zero, List.set_cons_succ]
    refine wpAnyH_take (i := 13) (v := undef) rfl (by kernel_rfl) (by kernel_rfl) (by kernel_rfl) (fun _ _ _ h => h) (Or.inr ⟨by rfl, rfl⟩) SD.out ?_
    change wpAnyH _ _ _ _ _ _ _ (Act.put _ (some 28) _) _
    simp only [Act.put, List.setIfInBounds_toArray, List.set_cons_zero, List.set_cons_succ]
    refine wpAnyH_take (i := 14) (v := undef) rfl (by kernel_rfl) (by kernel_rfl) (by kernel_rfl) (fun _ _ _ h => h) (Or.inr ⟨by rfl, rfl⟩) SD.out ?_
    change wpAnyH _ _ _ _ _ _ _ (Act.put _ (some 29) _) _
    simp only [Act.put, List.setIfInBounds_toArray, List.set_cons_zero, List.set_cons_succ]
    refine wpAnyH_take (i := 15) (v := undef) rfl (by kernel_rfl) (by kernel_rfl) (by kernel_rfl) (fun _ _ _ h => h) (Or.inr ⟨by rfl, rfl⟩) SD.out ?_
    change wpAnyH _ _ _ _ _ _ _ (Act.put _ (some 30) _) _
    simp only [Act.put, List.setIfInBounds_toArray, List.set_cons_zero, List.set_cons_succ]
    refine wpAnyH_take (i := 16) (v := undef) rfl (by kernel_rfl) (by kernel_rfl) (by kernel_rfl) (fun _ _ _ h => h) (Or.inr ⟨by rfl, rfl⟩) SD.out ?_
    change wpAnyH _ _ _ _ _ _ _ (Act.put _ (some 31) _) _
    simp only [Act.put, List.setIfInBounds_toArray, List.set_cons_zero, List.set_cons_succ]
    refine wpAnyH_take (i := 17) (v := undef) rfl (by kernel_rfl) (by kernel_rfl) (by kernel_rfl) (fun _ _ _ h => h) (Or.inr ⟨by rfl, rfl⟩) SD.out ?_
    change wpAnyH _ _ _ _ _ _ _ (Act.put _ (some 32) _) _
    simp only [Act.put, List.setIfInBounds_toArray, List.set_cons_zero, List.set_cons_succ]
    refine wpAnyH_take (i := 18) (v := undef) rfl (by kernel_rfl) (by kernel_rfl) (by kernel_rfl) (fun _ _ _ h => h) (Or.inr ⟨by rfl, rfl⟩) SD.out ?_
    change wpAnyH _ _ _ _ _ _ _ (Act.put _ (some 33) _) _
    simp only [Act.put, List.setIfInBounds_toArray, List.set_cons_zero, List.set_cons_succ]
    refine wpAnyH_take (i := 19) (v := .bool true) rfl (by kernel_rfl) (by kernel_rfl) (by kernel_rfl) (fun _ _ _ h => h) (Or.inl ⟨by rfl, fun w' hs => by go_simp⟩) SD.out ?_
    change wpAnyH _ _ _ _ _ _ _ (Act.put _ (some 34) _) _
    simp only [Act.put, List.setIfInBounds_toArray, List.set_cons_zero, List.set_cons_succ]
    refine wpAnyH_done (by kernel_rfl) ?_ _
    go_wp2_with fail
    go_ret
    exact ⟨ret_i E.out, on B1.out SD.out⟩
  refine wpAnyH_take (i := 5) (v := .bool false) rfl (by kernel_rfl) (by kernel_rfl) (by kernel_rfl) (fun _ _ _ h => h) (Or.inl ⟨by rfl, fun w' hs => by go_simp⟩) SD.out ?_
  change wpAnyH _ _ _ _ _ _ _ (Act.put _ (some 20) _) _
  simp only [Act.put, List.setIfInBounds_toArray, List.set_cons_zero, List.set_cons_succ]
  refine wpAnyH_take (i := 6) (v := .bool false) rfl (by kernel_rfl) (by kernel_rfl) (by kernel_rfl) (fun _ _ _ h => h) (Or.inl ⟨by rfl, fun w' hs => by go_simp⟩) SD.out ?_
  change wpAnyH _ _ _ _ _ _ _ (Act.put _ (some 21) _) _
  simp only [Act.put, List.setIfInBounds_toArray, List.set_cons_zero, List.set_cons_succ]
  refine wpAnyH_take (i := 7) (v := .pointer (some ⟨q, 0, none⟩)) rfl (by kernel_rfl) (by kernel_rfl) (by kernel_rfl) (fun _ _ _ h => h) (Or.inl ⟨by rfl, fun w' hs => by go_simp⟩) SD.out ?_
  change wpAnyH _ _ _ _ _ _ _ (Act.put _ (some 22) _) _
  simp only [Act.put, List.setIfInBounds_toArray, List.set_cons_zero, List.set_cons_succ]
  refine wpAnyH_take (i := 8) (v := .pointer (some ⟨q, 0, none⟩)) rfl (by kernel_rfl) (by kernel_rfl) (by kernel_rfl) (fun _ _ _ h => h) (Or.inl ⟨by rfl, fun w' hs => by go_simp⟩) SD.out ?_
  change wpAnyH _ _ _ _ _ _ _ (Act.put _ (some 23) _) _
  simp only [Act.put, List.setIfInBounds_toArray, List.set_cons_zero, List.set_cons_succ]
  refine wpAnyH_take (i := 9) (v := .pointer (some ⟨q, 5, none⟩)) rfl (by kernel_rfl) (by kernel_rfl) (by kernel_rfl) (fun _ _ _ h => h) (Or.inl ⟨by rfl, fun w' hs => by go_simp⟩) SD.out ?_
  change wpAnyH _ _ _ _ _ _ _ (Act.put _ (some 24) _) _
  simp only [Act.put, List.setIfInBounds_toArray, List.set_cons_zero, List.set_cons_succ]
  refine wpAnyH_take (i := 10) (v := .slice ah lh ch) rfl (by kernel_rfl) (by kernel_rfl) (by kernel_rfl) (fun _ _ _ h => h) (Or.inl ⟨by rfl, fun w' hs => by have hq := Q1.out.keep hs; have y5 := hq.cell 5 rfl; go_simp⟩) SD.out ?_
  change wpAnyH _ _ _ _ _ _ _ (Act.put _ (some 25) _) _
  simp only [Act.put, List.setIfInBounds_toArray, List.set_cons_zero, List.set_cons_succ]
  refine wpAnyH_take (i := 11) (v := .int .i64 (lh : Int)) rfl (by kernel_rfl) (by kernel_rfl) (by kernel_rfl) (fun _ _ _ h => h) (Or.inl ⟨by rfl, fun w' hs => by go_simp⟩) SD.out ?_
  change wpAnyH _ _ _ _ _ _ _ (Act.put _ (some 26) _) _
  simp only [Act.put, List.setIfInBounds_toArray, List.set_cons_zero, List.set_cons_succ]
  refine wpAnyH_take (i := 12) (v := .pointer (some ⟨q, 0, none⟩)) rfl (by kernel_rfl) (by kernel_rfl) (by kernel_rfl) (fun _ _ _ h => h) (Or.inl ⟨by rfl, fun w' hs => by go_simp⟩) SD.out ?_
  change wpAnyH _ _ _ _ _ _ _ (Act.put _ (some 27) _) _
  simp only [Act.put, List.setIfInBounds_toArray, List.set_cons_zero, List.set_cons_succ]
  refine wpAnyH_take (i := 13) (v := .pointer (some ⟨q, 0, none⟩)) rfl (by kernel_rfl) (by kernel_rfl) (by kernel_rfl) (fun _ _ _ h => h) (Or.inl ⟨by rfl, fun w' hs => by go_simp⟩) SD.out ?_
  change wpAnyH _ _ _ _ _ _ _ (Act.put _ (some 28) _) _
  simp only [Act.put, List.setIfInBounds_toArray, List.set_cons_zero, List.set_cons_succ]
  refine wpAnyH_take (i := 14) (v := .pointer (some ⟨q, 0, none⟩)) rfl (by kernel_rfl) (by kernel_rfl) (by kernel_rfl) (fun _ _ _ h => h) (Or.inl ⟨by rfl, fun w' hs => by go_simp⟩) SD.out ?_
  change wpAnyH _ _ _ _ _ _ _ (Act.put _ (some 29) _) _
  simp only [Act.put, List.setIfInBounds_toArray, List.set_cons_zero, List.set_cons_succ]
  refine wpAnyH_take (i := 15) (v := .pointer (some ⟨q, 0, none⟩)) rfl (by kernel_rfl) (by kernel_rfl) (by kernel_rfl) (fun _ _ _ h => h) (Or.inl ⟨by rfl, fun w' hs => by go_simp⟩) SD.out ?_
  change wpAnyH _ _ _ _ _ _ _ (Act.put _ (some 30) _) _
  simp only [Act.put, List.setIfInBounds_toArray, List.set_cons_zero, List.set_cons_succ]
  refine wpAnyH_take (i := 16) (v := .slice a0 n0 c0) rfl (by kernel_rfl) (by kernel_rfl) (by kernel_rfl) (fun _ _ _ h => h) (Or.inl ⟨by rfl, fun w' hs => by have hq := Q1.out.keep hs; have y0 := hq.cell 0 rfl; go_simp⟩) SD.out ?_
  change wpAnyH _ _ _ _ _ _ _ (Act.put _ (some 31) _) _
  simp only [Act.put, List.setIfInBounds_toArray, List.set_cons_zero, List.set_cons_succ]
  refine wpAnyH_take (i := 17) (v := .int .i64 (n0 : Int)) rfl (by kernel_rfl) (by kernel_rfl) (by kernel_rfl) (fun _ _ _ h => h) (Or.inl ⟨by rfl, fun w' hs => by go_simp⟩) SD.out ?_
  change wpAnyH _ _ _ _ _ _ _ (Act.put _ (some 32) _) _
  simp only [Act.put, List.setIfInBounds_toArray, List.set_cons_zero, List.set_cons_succ]
  by_cases hn : lh = n0
  case neg =>
    have E : Hid (1 = V) := by show _ = _; rw [← HV.out, hoV, if_pos PZ.out, if_neg (by rw [HLH.out, ← HL0.out]; exact fun k => hn k.2)]
    have hi : ¬ (lh : Int) = (n0 : Int) := by omega
    refine wpAnyH_take (i := 18) (v := .bool true) rfl (by kernel_rfl) (by kernel_rfl) (by kernel_rfl) (fun _ _ _ h => h) (Or.inl ⟨by rfl, fun w' hs => by go_simp⟩) SD.out ?_
    change wpAnyH _ _ _ _ _ _ _ (Act.put _ (some 33) _) _
    simp only [Act.put, List.setIfInBounds_toArray, List.set_cons_zero, List.set_cons_succ]
    refine wpAnyH_take (i := 19) (v := .bool true) rfl (by kernel_rfl) (by kernel_rfl) (by kernel_rfl) (fun _ _ _ h => h) (Or.inl ⟨by rfl, fun w' hs => by go_simp⟩) SD.out ?_
    change wpAnyH _ _ _ _ _ _ _ (Act.put _ (some 34) _) _
    simp only [Act.put, List.setIfInBounds_toArray, List.set_cons_zero, List.set_cons_succ]
    refine wpAnyH_done (by kernel_rfl) ?_ _
    go_wp2_with fail
    go_ret
    exact ⟨ret_i E.out, on B1.out SD.out⟩
  have ME : Hid (wholeB X.mem = true ∧ X.harts.length = X.pol.own.length) := ⟨hw, by rw [HLH.out, ← HL0.out]; exact hn⟩
  have hi : (lh : Int) = (n0 : Int) := by omega
  clear hn hw
  refine wpAnyH_take (i := 18) (v := .bool false) rfl (by kernel_rfl) (by kernel_rfl) (by kernel_rfl) (fun _ _ _ h => h) (Or.inl ⟨by rfl, fun w' hs => by go_simp⟩) SD.out ?_
  change wpAnyH _ _ _ _ _ _ _ (Act.put _ (some 33) _) _
  simp only [Act.put, List.setIfInBounds_toArray, List.set_cons_zero, List.set_cons_succ]
  refine wpAnyH_take (i := 19) (v := .bool false) rfl (by kernel_rfl) (by kernel_rfl) (by kernel_rfl) (fun _ _ _ h => h) (Or.inl ⟨by rfl, fun w' hs => by go_simp⟩) SD.out ?_
  change wpAnyH _ _ _ _ _ _ _ (Act.put _ (some 34) _) _
  simp only [Act.put, List.setIfInBounds_toArray, List.set_cons_zero, List.set_cons_succ]
  refine wpAnyH_done (by kernel_rfl) ?_ _
  clear hi HM0
  have B2 : Hid (Below w.heap.size w x0) := on B1.out SD.out
  have Q2 : Hid (Vb x0 q #[.slice a0 n0 c0, .slice a1 n1 c1, .slice a2 n2 c2, .slice a3 n3 c3, .slice am lm cm, .slice ah lh ch, .int .i64 X.slot, .int .i64 X.left, .int .i64 X.clock] 40) := Q.out.keep B2.out
  have q5 := Q2.out.cell 5 rfl
  clear SD Q1 B1
  go_wp2_with fail
  go_loop [4] (fun c => ∃ j : Nat, j ≤ lh ∧ c = .int .i64 j ∧ hartsV (X.harts.drop j) = hartsV X.harts) (fun c => lh - (intOf c).toNat)
  case atStart => exact ⟨0, Nat.zero_le _, rfl, rfl⟩
  case round =>
    obtain ⟨j, hj, rfl, hT⟩ := hrel
    have HT : Hid (hartsV (X.harts.drop j) = hartsV X.harts) := hT
    clear hT
    by_cases hlt : j < lh
    · obtain ⟨x1, e1⟩ := GH.out (by omega)
      subst e1
      obtain ⟨r, c, i, o, z1, z2, _⟩ := (D.out.harts.keep B2.out).at j (by rw [HLH.out]; exact hlt)
      have ST := harts_step X.harts j (by rw [HLH.out]; exact hlt)
      obtain ⟨H, hH⟩ : ∃ H, X.harts.getD j voidH = H := ⟨_, rfl⟩
      rw [hH] at z1 z2 ST
      have HST : Hid (_ = _) := ST
      have Z1 : Hid (Hc x0 ⟨x1, j * 9, none⟩ r c i o H) := z1
      have Z2 : Hid (Hm x0 b r c i o H) := z2
      have hI : (j : Int) < (lh : Int) := by omega
      have HL : Hid (j < lh) := hlt
      clear z1 z2 hH hlt ST
      go_wp2_with fail
      refine (s_faultO _ _ _ _ _ _ H b _ Z2.out Z1.out.c0 Z1.out.c1 Z1.out.c2 Z1.out.c6 Z1.out.c7 Z1.out.c8).mono ?_
      rintro e w2 ⟨rfl, hw2⟩
      rw [hw2]
      clear hw2 w2
      by_cases hf : hfV H = 0
      · have HT2 : Hid (hartsV (X.harts.drop (j + 1)) = hartsV X.harts) := by
          have t := HST.out
          rw [if_pos hf, HT.out] at t
          exact t.symm
        rw [hf]
        clear hf
        go_wp2_with fail
        go_round
        case rel => exact ⟨j + 1, by have := HL.out; omega, by go_num, HT2.out⟩
        case measure => have := HL.out; simp [intOf]; omega
      · have HT2 : Hid (hfV H = V) := by
          have t := HST.out
          rw [if_neg hf, HT.out] at t
          show _ = _
          rw [← HV.out, hoV, if_pos PZ.out, if_pos ME.out, if_neg (by rw [t]; exact hf), t]
        rw [HT2.out] at hf ⊢
        go_wp2_with fail
        go_ret
        exact ⟨rfl, B2.out⟩
    · have hJ : ¬ (j : Int) < (lh : Int) := by omega
      have HZ : Hid (hartsV X.harts = 0) := by
        show _ = _
        rw [← HT.out, List.drop_of_length_le (by rw [HLH.out]; omega)]
        rfl
      have q8 := Q2.out.cell 8 rfl
      clear hlt
      cases hk : ckOk X.clock
      case false =>
        have HK : Hid ((decide (0 ≤ X.clock) && decide (X.clock ≤ 1000000)) = false) := hk
        have E : Hid (3 = V) := by show _ = _; rw [← HV.out, hoV, if_pos PZ.out, if_pos ME.out, if_pos HZ.out, if_neg (by rw [hk]; simp)]
        clear hk
        go_wp2_with (go_at_call 42; refine (l1_in _ _ _ _).mono ?_; rintro e w2 ⟨rfl, hw2⟩; rw [hw2]; clear hw2 w2; rw [HK.out])
        go_ret
        exact ⟨ret_i E.out, B2.out⟩
      have HK : Hid ((decide (0 ≤ X.clock) && decide (X.clock ≤ 1000000)) = true) := hk
      have CK : Hid (0 ≤ X.clock ∧ X.clock ≤ 1000000) := by show _ ∧ _; unfold ckOk at hk; simpa using hk
      have E : Hid ((if (tS X.pol X.clock).1 = X.slot ∧ (tS X.pol X.clock).2 = X.left then (0 : Int) else 1) = V) := by show _ = _; rw [← HV.out, hoV, if_pos PZ.out, if_pos ME.out, if_pos HZ.out, if_pos hk]
      clear hk
      go_wp2_with (go_at_call 42; refine (l1_in _ _ _ _).mono ?_; rintro e w2 ⟨rfl, hw2⟩; rw [hw2]; clear hw2 w2; rw [HK.out])
      clear q8 q5
      refine wp_region_held (S := fun w' => Below x0.heap.size x0 w') (by kernel_rfl) ?_
      change wpAnyH _ _ _ _ _ _ _ _ (World.drew _)
      have SD : Hid (Below x0.heap.size x0 x0.drew) := (Below.refl _ _).drew
      generalize x0.drew = x2 at *
      refine wpAnyH_take (i := 0) (v := .pointer (some ⟨q, 0, none⟩)) rfl (by kernel_rfl) (by kernel_rfl) (by kernel_rfl) (fun _ _ _ h => h) (Or.inl ⟨by rfl, fun w' hs => by go_simp⟩) SD.out ?_
      change wpAnyH _ _ _ _ _ _ _ (Act.put _ (some 61) _) _
      simp only [Act.put, List.setIfInBounds_toArray, List.set_cons_zero, List.set_cons_succ]
      refine wpAnyH_take (i := 1) (v := .pointer (some ⟨q, 0, none⟩)) rfl (by kernel_rfl) (by kernel_rfl) (by kernel_rfl) (fun _ _ _ h => h) (Or.inl ⟨by rfl, fun w' hs => by go_simp⟩) SD.out ?_
      change wpAnyH _ _ _ _ _ _ _ (Act.put _ (some 62) _) _
      simp only [Act.put, List.setIfInBounds_toArray, List.set_cons_zero, List.set_cons_succ]
      refine wpAnyH_take (i := 2) (v := .pointer (some ⟨q, 0, none⟩)) rfl (by kernel_rfl) (by kernel_rfl) (by kernel_rfl) (fun _ _ _ h => h) (Or.inl ⟨by rfl, fun w' hs => by go_simp⟩) SD.out ?_
      change wpAnyH _ _ _ _ _ _ _ (Act.put _ (some 63) _) _
      simp only [Act.put, List.setIfInBounds_toArray, List.set_cons_zero, List.set_cons_succ]
      refine wpAnyH_take (i := 3) (v := .pointer (some ⟨q, 0, none⟩)) rfl (by kernel_rfl) (by kernel_rfl) (by kernel_rfl) (fun _ _ _ h => h) (Or.inl ⟨by rfl, fun w' hs => by go_simp⟩) SD.out ?_
      change wpAnyH _ _ _ _ _ _ _ (Act.put _ (some 64) _) _
      simp only [Act.put, List.setIfInBounds_toArray, List.set_cons_zero, List.set_cons_succ]
      refine wpAnyH_take (i := 4) (v := .pointer (some ⟨q, 0, none⟩)) rfl (by kernel_rfl) (by kernel_rfl) (by kernel_rfl) (fun _ _ _ h => h) (Or.inl ⟨by rfl, fun w' hs => by go_simp⟩) SD.out ?_
      change wpAnyH _ _ _ _ _ _ _ (Act.put _ (some 65) _) _
      simp only [Act.put, List.setIfInBounds_toArray, List.set_cons_zero, List.set_cons_succ]
      refine wpAnyH_take (i := 5) (v := .pointer (some ⟨q, 8, none⟩)) rfl (by kernel_rfl) (by kernel_rfl) (by kernel_rfl) (fun _ _ _ h => h) (Or.inl ⟨by rfl, fun w' hs => by go_simp⟩) SD.out ?_
      change wpAnyH _ _ _ _ _ _ _ (Act.put _ (some 66) _) _
      simp only [Act.put, List.setIfInBounds_toArray, List.set_cons_zero, List.set_cons_succ]
      refine wpAnyH_take (i := 6) (v := .int .i64 X.clock) rfl (by kernel_rfl) (by kernel_rfl) (by kernel_rfl) (fun _ _ _ h => h) (Or.inl ⟨by rfl, fun w' hs => by have hq := Q2.out.keep hs; have y8 := hq.cell 8 rfl; go_simp⟩) SD.out ?_
      change wpAnyH _ _ _ _ _ _ _ (Act.put _ (some 67) _) _
      simp only [Act.put, List.setIfInBounds_toArray, List.set_cons_zero, List.set_cons_succ]
      refine wpAnyH_ready (rs := [7]) (by kernel_rfl) (by simp) ?_
      refine AllReadyH.cons rfl (fun K hK => ?_) AllReadyH.nil
      rw [if_pos (by rfl)]
      go_simp
      refine (s_turn _ X.clock X.pol _ ((HA.out.stay B2.out).stay SD.out) PZ.out CK.out.1 CK.out.2).mono ?_
      rintro e w3 ⟨rfl, b3⟩
      have S3 : Hid (Below x0.heap.size x0 w3) := on SD.out b3
      clear b3
      refine hK.out _ _ S3.out (fun _ => ?_)
      clear hK K
      obtain ⟨t1, ht1⟩ : ∃ t, (tS X.pol X.clock).1 = t := ⟨_, rfl⟩
      obtain ⟨t2, ht2⟩ : ∃ t, (tS X.pol X.clock).2 = t := ⟨_, rfl⟩
      rw [ht1, ht2] at E ⊢
      clear ht1 ht2
      refine wpAnyH_take (i := 8) (v := .tuple #[.int .i64 t1, .int .i64 t2]) rfl (by kernel_rfl) (by kernel_rfl) (by kernel_rfl) (fun _ _ _ h => h) (Or.inl ⟨by rfl, fun w' hs => by go_simp⟩) S3.out ?_
      change wpAnyH _ _ _ _ _ _ _ (Act.put _ (some 60) _) _
      simp only [Act.put, List.setIfInBounds_toArray, List.set_cons_zero, List.set_cons_succ]
      refine wpAnyH_take (i := 9) (v := .int .i64 t1) rfl (by kernel_rfl) (by kernel_rfl) (by kernel_rfl) (fun _ _ _ h => h) (Or.inl ⟨by rfl, fun w' hs => by go_simp⟩) S3.out ?_
      change wpAnyH _ _ _ _ _ _ _ (Act.put _ (some 69) _) _
      simp only [Act.put, List.setIfInBounds_toArray, List.set_cons_zero, List.set_cons_succ]
      refine wpAnyH_take (i := 10) (v := .int .i64 t2) rfl (by kernel_rfl) (by kernel_rfl) (by kernel_rfl) (fun _ _ _ h => h) (Or.inl ⟨by rfl, fun w' hs => by go_simp⟩) S3.out ?_
      change wpAnyH _ _ _ _ _ _ _ (Act.put _ (some 70) _) _
      simp only [Act.put, List.setIfInBounds_toArray, List.set_cons_zero, List.set_cons_succ]
      refine wpAnyH_take (i := 11) (v := .int .i64 t1) rfl (by kernel_rfl) (by kernel_rfl) (by kernel_rfl) (fun _ _ _ h => h) (Or.inl ⟨by rfl, fun w' hs => by go_simp⟩) S3.out ?_
      change wpAnyH _ _ _ _ _ _ _ (Act.put _ (some 6) _) _
      simp only [Act.put, List.setIfInBounds_toArray, List.set_cons_zero, List.set_cons_succ]
      refine wpAnyH_take (i := 12) (v := .int .i64 t2) rfl (by kernel_rfl) (by kernel_rfl) (by kernel_rfl) (fun _ _ _ h => h) (Or.inl ⟨by rfl, fun w' hs => by go_simp⟩) S3.out ?_
      change wpAnyH _ _ _ _ _ _ _ (Act.put _ (some 7) _) _
      simp only [Act.put, List.setIfInBounds_toArray, List.set_cons_zero, List.set_cons_succ]
      refine wpAnyH_done (by kernel_rfl) ?_ _
      have B3 : Hid (Below w.heap.size w w3) := on B2.out S3.out
      have Q3 : Hid (Vb w3 q #[.slice a0 n0 c0, .slice a1 n1 c1, .slice a2 n2 c2, .slice a3 n3 c3, .slice am lm cm, .slice ah lh ch, .int .i64 X.slot, .int .i64 X.left, .int .i64 X.clock] 40) := Q.out.keep B3.out
      have q6 := Q3.out.cell 6 rfl
      have q7 := Q3.out.cell 7 rfl
      by_cases h1 : t1 = X.slot
      · by_cases h2 : t2 = X.left
        · have E0 : Hid (0 = V) := by
            have t := E.out
            rw [if_pos ⟨h1, h2⟩] at t
            exact t
          subst h1 h2
          go_wp2_with fail
          go_ret
          exact ⟨ret_i E0.out, B3.out⟩
        · have E0 : Hid (1 = V) := by
            have t := E.out
            rw [if_neg (fun k => h2 k.2)] at t
            exact t
          have h3 : ¬ X.left = t2 := fun k => h2 k.symm
          subst h1
          go_wp2_with fail
          go_ret
          exact ⟨ret_i E0.out, B3.out⟩
      · have E0 : Hid (1 = V) := by
          have t := E.out
          rw [if_neg (fun k => h1 k.1)] at t
          exact t
        have h3 : ¬ X.slot = t1 := fun k => h1 k.symm
        go_wp2_with fail
        go_ret
        exact ⟨ret_i E0.out, B3.out⟩
end Go.Proofs.YtggejbphdadckaaGreatDoor
