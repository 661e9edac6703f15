/- Texts of this seat, joined. -/
import Derived.Test.YtimcoobhakfnaaaGreatDoorQ15
import Derived.Test.YtimcoobhakfnaaaGreatDoorQ19
import Derived.Test.YtimcoobhakfnaaaGreatDoorQ21
import Derived.Test.YtimcoobhakfnaaaGreatDoorQ24
namespace Go.Proofs.YtimcoobhakfnaaaGreatDoor
open Go.RowKit
set_option linter.unusedVariables false

theorem s_wrap (n : Int) (w : World) : Calls Tryz.prog 95 #[.int .i64 n] w fun e w' => e = .returned (.int .i64 (wd n)) ∧ w' = w := by
  go_enter Tryz.func95, Tryz.ntmps95
  go_wp2
  go_ret
  exact ⟨rfl, rfl⟩
theorem hwd_in (x : Int) : 0 ≤ wd x ∧ wd x ≤ 4294967295 := by unfold wd; omega
theorem set_same (zs : List Int) (n : Nat) (u : Int) (hn : n < zs.length) (h : gt zs n = u) : zs.set n u = zs := by
  subst h
  unfold gt
  rw [List.getD_eq_getElem?_getD, List.getElem?_eq_getElem hn]
  simp
theorem stand_zero {H : Ht} (K : Hok H) : gt H.csr 6 = 0 ∧ gt H.csr 8 = 0 := by
  have := K.st
  simp only [standC, Bool.and_eq_true, decide_eq_true_eq] at this
  exact ⟨this.1.2, this.2⟩
theorem setV_eq (H : Ht) (k x : Int) : setV H k x = stH H k.toNat (standV k (wd x)) (H.rung && !(decide (k = 6) && decide (2 ≤ wd x % 4))) := rfl

end Go.Proofs.YtimcoobhakfnaaaGreatDoor
namespace Go.Proofs.YtimcoobhakfnaaaGreatDoor
open Go.RowKit
set_option linter.unusedVariables false

def drV (H : Ht) (k : Int) : Int := if k = 1 then H.inn.headD 0 else if k = 2 then H.done else if k = 3 then H.csr.getD 9 0 else if k = 4 then pendV H else if k = 6 then H.inn.length else 0
def drH (H : Ht) (k : Int) : Ht := if k = 1 then { H with inn := H.inn.tail } else H
def setW (H : Ht) (k x : Int) : Ht := stH H k.toNat (standV k x) (H.rung && !(decide (k = 6) && decide (2 ≤ x % 4)))
theorem setW_wd (H : Ht) (k x : Int) : setV H k x = setW H k (wd x) := rfl
def outW (H : Ht) (x : Int) : Ht := if H.out.length < 40 then { H with out := H.out ++ [x] } else H
def dwW (H : Ht) (k x : Int) : Ht := if k = 0 then outW H x else if k = 3 then setW H 9 x else if k = 4 then setW H 6 x else H
def rgW (k x : Int) : Int := if k = 5 then x else -1
theorem head_get (zs : List Int) : zs[0]?.getD 0 = zs.headD 0 := by cases zs <;> rfl
theorem head_get2 (zs : List Int) : zs[0]?.getD 0 = zs.head?.getD 0 := by cases zs <;> rfl
end Go.Proofs.YtimcoobhakfnaaaGreatDoor
namespace Go.Proofs.YtimcoobhakfnaaaGreatDoor
open Go.RowKit
set_option linter.unusedVariables false

/-- A machine's variable q behind what was done to it from w on; its lists are read alone. -/
structure Sd (w u : World) (b q : Nat) (r c o i' o' : Value) (G : Ht) : Prop where
  v : Vb u q #[r, .int .i64 G.pc, c, .bool G.halted, .bool G.waiting, .bool G.rung, .int .i64 G.done, i', o'] 29
  m : Hr u r c i' o' G
  n : ∀ k, Own4 r c i' o' k → b ≤ k ∧ k < u.heap.size
  g : Mq (fun j => j = q ∨ c.ownBlock = some j ∨ o.ownBlock = some j) w u
theorem tail_nil {H : Ht} (h : H.inn = []) : drH H 1 = H := by
  cases H
  simp only at h
  subst h
  rfl
theorem drH_ne (H : Ht) {k : Int} (h : k ≠ 1) : drH H k = H := if_neg h

theorem wd_wd (x : Int) : wd (wd x) = wd x := by have := hwd_in x; unfold wd at *; omega
theorem Sd.of {w w' : World} {b q : Nat} {r c i o o' : Value} {G : Ht} (h : Hm w' b r c i o' G) (hv : Vb w' q #[r, .int .i64 G.pc, c, .bool G.halted, .bool G.waiting, .bool G.rung, .int .i64 G.done, i, o'] 29) (g : Mq (fun j => j = q ∨ c.ownBlock = some j ∨ o.ownBlock = some j) w w') : Sd w w' b q r c o i o' G :=
  ⟨hv, h.hr, fun k e => h.own k e, g⟩
theorem Mq.more {S T : Nat → Prop} {w w' : World} (m : Mq S w w') (h : ∀ k, S k → T k) : Mq T w w' := ⟨m.os, m.tape, m.output, m.size, fun k hk hn => m.block k hk fun e => hn (h k e)⟩

end Go.Proofs.YtimcoobhakfnaaaGreatDoor
namespace Go.Proofs.YtimcoobhakfnaaaGreatDoor
open Go.RowKit
set_option linter.unusedVariables false

set_option maxRecDepth 20000 in
set_option maxHeartbeats 4000000 in
theorem i_queue_full (m j : Nat) (v : Value) (zs : List Int) (a : Option Addr) (n c : Nat) (b : Nat) (w : World) (hj : w.cell? ⟨m, j, none⟩ = some v) (hN : Nums w b v zs) (hz : zs.length ≤ 40) (hn : n ≤ 100000000) (hf : ¬ zs.length + n ≤ 40) :
    Calls Tryz.prog 150 #[.pointer (some ⟨m, j, none⟩), .slice a n c] w fun e w' => e = .returned (.bool false) ∧ w' = w := by
  obtain ⟨x, cap, rfl, _⟩ := hN.shape
  clear hN
  generalize zs.length = l at *
  have h1 : (l : Int) ≤ 40 := by omega
  have h2 : (40 : Int) - (l : Int) < (n : Int) := by omega
  have h3 : (n : Int) ≤ 100000000 := by omega
  clear hz hn hf
  go_enter Tryz.func150, Tryz.ntmps150
  go_wp2_with fail
  go_ret
  exact ⟨rfl, rfl⟩
set_option maxRecDepth 20000 in
set_option maxHeartbeats 4000000 in
theorem i_queue (m j : Nat) (cs : Array Value) (t : TypeId) (v : Value) (zs : List Int) (a : Option Addr) (n c : Nat) (ys : List Int) (b : Nat) (w : World) (hv : Vb w m cs t) (hj : cs[j]? = some v) (hN : Nums w b v zs) (ht : t ≠ 2) (hR : Rn w a n c ys) (hf : zs.length + n ≤ 40) (hb : b ≤ w.heap.size) :
    Calls Tryz.prog 150 #[.pointer (some ⟨m, j, none⟩), .slice a n c] w fun e w' => e = .returned (.bool true) ∧ ∃ v', Nums w' b v' (zs ++ ys) ∧ Vb w' m (cs.setIfInBounds j v') t ∧ Mq (fun k => k = m ∨ v.ownBlock = some k) w w' := by
  obtain ⟨x, cap, rfl, _⟩ := hN.shape
  obtain ⟨l, hl⟩ : ∃ l, zs.length = l := ⟨_, rfl⟩
  rw [hl] at hN hj hf ⊢
  have HL : Hid (zs.length = l) := hl
  have HF : Hid (l + n ≤ 40) := hf
  have HN : Hid (Nums w b (.slice x l cap) zs) := hN
  have HV : Hid (Vb w m cs t) := hv
  have HT : Hid (t ≠ 2) := ht
  have HR : Hid (Rn w a n c ys) := hR
  have HB : Hid (b ≤ w.heap.size) := hb
  have h1 : (l : Int) ≤ 40 := by omega
  have h2 : ¬ (40 : Int) - (l : Int) < (n : Int) := by omega
  have h3 : (n : Int) ≤ 100000000 := by omega
  have c0 : w.cell? ⟨m, j, none⟩ = some (.slice x l cap) := hv.cell j hj
  have f0 := hv.free j
  clear hl hf hN hv ht hR hb hj
  have HC : Hid (∃ u, cs[j]? = some u) := by
    show ∃ u, _
    have : w.cell? ⟨m, j, none⟩ = some (.slice x l cap) := c0
    have hv := HV.out
    unfold Vb at hv
    simp [World.cell?, hv] at this
    exact ⟨_, this⟩
  obtain ⟨u, hu⟩ := HC.out
  have HU : Hid (cs[j]? = some u) := hu
  clear hu HC
  go_enter Tryz.func150, Tryz.ntmps150
  go_wp2_with (at_builtin; refine wp_appy _ rfl _ _ rfl b _ zs rfl HN.out a n c ys rfl HR.out (by have := HL.out; have := HF.out; omega) HB.out ?_; intro v' w' hN' hG'; obtain ⟨y, cap', hv', _⟩ := hN'.shape; obtain ⟨L, hL⟩ : ∃ L, (zs ++ ys).length = L := ⟨_, rfl⟩; rw [hL] at hv'; clear hL; subst hv'; have N1 : Hid (Nums w' b (.slice y L cap') (zs ++ ys)) := hN'; have G1 : Hid (w.grownBy w' (Value.slice x l cap).ownBlock) := hG'; have V1 : Hid (Vb w' m cs t) := HV.out.gr hG' fun e => HN.out.ne_vb HV.out HT.out e.symm; clear hN' hG' c0 f0; have c1 := V1.out.cell j HU.out; have f1 := V1.out.free j)
  go_ret
  refine ⟨rfl, _, ?_, V1.out.set j _, ?_⟩
  · exact N1.out.put ⟨m, j, none⟩ _ (N1.out.ne_vb V1.out HT.out)
  · exact (Mq.of G1.out fun k e => .inr e.symm).set ⟨m, j, none⟩ _ (.inl rfl)

/-- A program's machine behind what was done to it from w on; its two queues are read alone. -/
structure Si (w u : World) (m : Nat) (i o i' o' : Value) (G : Ht) : Prop where
  v : Vb u m (mca G i' o') 91
  ri : Rv u i' G.inn
  ro : Rv u o' G.out
  g : Mq (fun j => j = m ∨ i.ownBlock = some j ∨ o.ownBlock = some j) w u
theorem Si.set {w w' : World} {b m : Nat} {i o : Value} {H G : Ht} (hv : Vb w m (mca H i o) 91) (hi : Nums w b i H.inn) (ho : Nums w b o H.out) (hv' : Vb w' m (mca G i o) 91) (hm : Mq (fun j => j = m) w w') (e1 : G.inn = H.inn) (e2 : G.out = H.out) : Si w w' m i o i o G :=
  ⟨hv', by rw [e1]; exact (hm.nums hi fun k e f => hi.ne_vb (t := 91) hv (by decide) (by rw [e, f])).rv, by rw [e2]; exact (hm.nums ho fun k e f => ho.ne_vb (t := 91) hv (by decide) (by rw [e, f])).rv, ⟨hm.os, hm.tape, hm.output, hm.size, fun k hk hn => hm.block k hk fun e => hn (.inl e)⟩⟩
theorem Si.pre {w u : World} {x : Obj} {m : Nat} {i o i' o' : Value} {G : Ht} (h : Si (w.alloc x) u m i o i' o' G) : Si w u m i o i' o' G := ⟨h.v, h.ri, h.ro, Mq.pre h.g⟩
theorem drH_ne' (H : Ht) {k : Int} (h : k ≠ 1) : drH H k = H := if_neg h

end Go.Proofs.YtimcoobhakfnaaaGreatDoor
namespace Go.Proofs.YtimcoobhakfnaaaGreatDoor
open Go.RowKit
set_option linter.unusedVariables false

theorem mcr_store (H : Ht) (xa : Option Addr) (xn xk : Nat) (ya : Option Addr) (yn yk : Nat) (la : Option Addr) (ln lk : Nat) (pa : Option Addr) (pn pk : Nat) (ca ri : Int) (w : World) : (storeCells ⟨w.heap.size, 0, none⟩ (mcr H (.slice xa xn xk) (.slice ya yn yk) (.slice la ln lk) (.slice pa pn pk) ca ri).toList 0).run Tryz.prog (w.alloc (.cells #[.int .i64 0, .int .i64 0, .int .i64 0, .int .i64 0, .int .i64 0, .int .i64 0, .int .i64 0, .int .i64 0, .int .i64 0, .int .i64 0, .int .i64 0, .int .i64 0, .int .i64 0, .int .i64 0, .int .i64 0, .int .i64 0, .int .i64 0, .int .i64 0, .int .i64 0, .int .i64 0, .int .i64 0, .int .i64 0, .int .i64 0, .int .i64 0, .int .i64 0, .int .i64 0, .int .i64 0, .int .i64 0, .bool false, .bool false, .bool false, .int .i64 0, .slice none 0 0, .slice none 0 0, .slice none 0 0, .slice none 0 0, .int .i64 0, .int .i64 0] 95)) = .ok () (w.alloc (.cells (mcr H (.slice xa xn xk) (.slice ya yn yk) (.slice la ln lk) (.slice pa pn pk) ca ri) 95)) :=
  run_storeCells_new (P := Tryz.prog) w 95 #[.int .i64 0, .int .i64 0, .int .i64 0, .int .i64 0, .int .i64 0, .int .i64 0, .int .i64 0, .int .i64 0, .int .i64 0, .int .i64 0, .int .i64 0, .int .i64 0, .int .i64 0, .int .i64 0, .int .i64 0, .int .i64 0, .int .i64 0, .int .i64 0, .int .i64 0, .int .i64 0, .int .i64 0, .int .i64 0, .int .i64 0, .int .i64 0, .int .i64 0, .int .i64 0, .int .i64 0, .int .i64 0, .bool false, .bool false, .bool false, .int .i64 0, .slice none 0 0, .slice none 0 0, .slice none 0 0, .slice none 0 0, .int .i64 0, .int .i64 0] (mcr H (.slice xa xn xk) (.slice ya yn yk) (.slice la ln lk) (.slice pa pn pk) ca ri) (by kernel_rfl) rfl (mcr_one H (.slice xa xn xk) (.slice ya yn yk) (.slice la ln lk) (.slice pa pn pk) ca ri rfl rfl rfl rfl)
theorem Pags.mono {w : World} {base base' : Nat} {v : Value} {n : Nat} {zs : List Int} (h : Pags w base v n zs) (hb : base' ≤ base) : Pags w base' v n zs := by
  obtain ⟨h1, h2 | ⟨g, cap, cur, hv, hg, rest⟩⟩ := h
  · exact ⟨h1, .inl h2⟩
  · exact ⟨h1, .inr ⟨g, cap, cur, hv, Nat.le_trans hb hg, rest⟩⟩
end Go.Proofs.YtimcoobhakfnaaaGreatDoor
namespace Go.Proofs.YtimcoobhakfnaaaGreatDoor
open Go.RowKit
set_option linter.unusedVariables false

/-- What may be run lies in the memory. -/
theorem pl_run {H : Ht} {ps : List (Int × Int)} {zs : List Int} {p : Nat} {x : Int} (s : Sn H ps zs p) (h : plC H ps zs x 4 = 0) : ∃ a : Nat, plV H ps zs x 4 = (a : Int) ∧ a < p * 8 := by
  by_cases h1 : spC H ps = 0
  · unfold plC at h
    unfold plV
    rw [if_pos h1] at h ⊢
    by_cases h2 : wkC (spP H ps zs) x 4 = 0
    · rw [if_pos h2] at h ⊢
      unfold behC at h
      unfold behV
      by_cases h3 : wkV (spP H ps zs) x 4 / 8 = 7
      · rw [if_pos h3] at h
        exact absurd h (by decide)
      · rw [if_neg h3] at h ⊢
        generalize wkV (spP H ps zs) x 4 = y at *
        have hg : goesB ps y 4 = true := by
          cases hg : goesB ps y 4
          · unfold wkC at h
            rw [hg] at h
            exact absurd h (by decide)
          · rfl
        have e : wkV ps y 4 = goesTo ps y := by unfold wkV; rw [hg]; rfl
        obtain ⟨h0, h63, h4, h5⟩ := goes_in s.ok hg
        have h6 := s.tl (y / 8).toNat (by omega)
        rw [e]
        unfold goesTo
        refine ⟨((ps.getD (y / 8).toNat (0, 0)).1 * 8 + y % 8).toNat, by omega, by omega⟩
    · rw [if_neg h2] at h
      exact absurd h h2
  · unfold plC at h
    rw [if_neg h1] at h
    exact absurd h h1
end Go.Proofs.YtimcoobhakfnaaaGreatDoor
