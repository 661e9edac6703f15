/- The device page, the program's: what is queued, told and fed, read and written. -/
import Derived.Test.YteaccakodaidpaaHdi
import Derived.Test.YteaccakodaidpaaHcy
import Derived.Test.YteaccakodaidpaaHfi
namespace Go.Proofs.Yteaccakodaidpaa
open Go.RowKit
set_option linter.unusedVariables false

set_option maxRecDepth 20000 in
set_option maxHeartbeats 4000000 in
theorem i_queue_full (m j : Nat) (v : Value) (zs : List Int) (a : Option Addr) (n c : Nat) (b : Nat) (w : World) (hj : w.cell? ⟨m, j, none⟩ = some v) (hN : Nums w b v zs) (hz : zs.length ≤ 40) (hn : n ≤ 100000000) (hf : ¬ zs.length + n ≤ 40) :
    Calls Try.prog 86 #[.pointer (some ⟨m, j, none⟩), .slice a n c] w fun e w' => e = .returned (.bool false) ∧ w' = w := by
  obtain ⟨x, cap, rfl, _⟩ := hN.shape
  clear hN
  generalize zs.length = l at *
  have h1 : (l : Int) ≤ 40 := by omega
  have h2 : (40 : Int) - (l : Int) < (n : Int) := by omega
  have h3 : (n : Int) ≤ 100000000 := by omega
  clear hz hn hf
  go_enter Try.func86, Try.ntmps86
  go_wp2_with fail
  go_ret
  exact ⟨rfl, rfl⟩
set_option maxRecDepth 20000 in
set_option maxHeartbeats 4000000 in
theorem i_queue (m j : Nat) (cs : Array Value) (t : TypeId) (v : Value) (zs : List Int) (a : Option Addr) (n c : Nat) (ys : List Int) (b : Nat) (w : World) (hv : Vb w m cs t) (hj : cs[j]? = some v) (hN : Nums w b v zs) (ht : t ≠ 2) (hR : Rn w a n c ys) (hf : zs.length + n ≤ 40) (hb : b ≤ w.heap.size) :
    Calls Try.prog 86 #[.pointer (some ⟨m, j, none⟩), .slice a n c] w fun e w' => e = .returned (.bool true) ∧ ∃ v', Nums w' b v' (zs ++ ys) ∧ Vb w' m (cs.setIfInBounds j v') t ∧ Mq (fun k => k = m ∨ v.ownBlock = some k) w w' := by
  obtain ⟨x, cap, rfl, _⟩ := hN.shape
  obtain ⟨l, hl⟩ : ∃ l, zs.length = l := ⟨_, rfl⟩
  rw [hl] at hN hj hf ⊢
  have HL : Hid (zs.length = l) := hl
  have HF : Hid (l + n ≤ 40) := hf
  have HN : Hid (Nums w b (.slice x l cap) zs) := hN
  have HV : Hid (Vb w m cs t) := hv
  have HT : Hid (t ≠ 2) := ht
  have HR : Hid (Rn w a n c ys) := hR
  have HB : Hid (b ≤ w.heap.size) := hb
  have h1 : (l : Int) ≤ 40 := by omega
  have h2 : ¬ (40 : Int) - (l : Int) < (n : Int) := by omega
  have h3 : (n : Int) ≤ 100000000 := by omega
  have c0 : w.cell? ⟨m, j, none⟩ = some (.slice x l cap) := hv.cell j hj
  have f0 := hv.free j
  clear hl hf hN hv ht hR hb hj
  have HC : Hid (∃ u, cs[j]? = some u) := by
    show ∃ u, _
    have : w.cell? ⟨m, j, none⟩ = some (.slice x l cap) := c0
    have hv := HV.out
    unfold Vb at hv
    simp [World.cell?, hv] at this
    exact ⟨_, this⟩
  obtain ⟨u, hu⟩ := HC.out
  have HU : Hid (cs[j]? = some u) := hu
  clear hu HC
  go_enter Try.func86, Try.ntmps86
  go_wp2_with (at_builtin; refine wp_appy _ rfl _ _ rfl b _ zs rfl HN.out a n c ys rfl HR.out (by have := HL.out; have := HF.out; omega) HB.out ?_; intro v' w' hN' hG'; obtain ⟨y, cap', hv', _⟩ := hN'.shape; obtain ⟨L, hL⟩ : ∃ L, (zs ++ ys).length = L := ⟨_, rfl⟩; rw [hL] at hv'; clear hL; subst hv'; have N1 : Hid (Nums w' b (.slice y L cap') (zs ++ ys)) := hN'; have G1 : Hid (w.grownBy w' (Value.slice x l cap).ownBlock) := hG'; have V1 : Hid (Vb w' m cs t) := HV.out.gr hG' fun e => HN.out.ne_vb HV.out HT.out e.symm; clear hN' hG' c0 f0; have c1 := V1.out.cell j HU.out; have f1 := V1.out.free j)
  go_ret
  refine ⟨rfl, _, ?_, V1.out.set j _, ?_⟩
  · exact N1.out.put ⟨m, j, none⟩ _ (N1.out.ne_vb V1.out HT.out)
  · exact (Mq.of G1.out fun k e => .inr e.symm).set ⟨m, j, none⟩ _ (.inl rfl)

/-- A program's machine behind what was done to it from w on; its two queues are read alone. -/
structure Si (w u : World) (m : Nat) (i o i' o' : Value) (G : Ht) : Prop where
  v : Vb u m (mca G i' o') 103
  ri : Rv u i' G.inn
  ro : Rv u o' G.out
  g : Mq (fun j => j = m ∨ i.ownBlock = some j ∨ o.ownBlock = some j) w u
theorem Si.same {w : World} {b m : Nat} {i o : Value} {H : Ht} (hv : Vb w m (mca H i o) 103) (hi : Nums w b i H.inn) (ho : Nums w b o H.out) : Si w w m i o i o H := ⟨hv, hi.rv, ho.rv, Mq.refl _ _⟩
theorem Si.set {w w' : World} {b m : Nat} {i o : Value} {H G : Ht} (hv : Vb w m (mca H i o) 103) (hi : Nums w b i H.inn) (ho : Nums w b o H.out) (hv' : Vb w' m (mca G i o) 103) (hm : Mq (fun j => j = m) w w') (e1 : G.inn = H.inn) (e2 : G.out = H.out) : Si w w' m i o i o G :=
  ⟨hv', by rw [e1]; exact (hm.nums hi fun k e f => hi.ne_vb (t := 103) hv (by decide) (by rw [e, f])).rv, by rw [e2]; exact (hm.nums ho fun k e f => ho.ne_vb (t := 103) hv (by decide) (by rw [e, f])).rv, ⟨hm.os, hm.tape, hm.output, hm.size, fun k hk hn => hm.block k hk fun e => hn (.inl e)⟩⟩
theorem Si.pre {w u : World} {x : Obj} {m : Nat} {i o i' o' : Value} {G : Ht} (h : Si (w.alloc x) u m i o i' o' G) : Si w u m i o i' o' G := ⟨h.v, h.ri, h.ro, Mq.pre h.g⟩
theorem drH_ne' (H : Ht) {k : Int} (h : k ≠ 1) : drH H k = H := if_neg h

set_option maxRecDepth 20000 in
set_option maxHeartbeats 4000000 in
theorem i_read (m : Nat) (i o : Value) (H : Ht) (k : Int) (b : Nat) (w : World) (hv : Vb w m (mca H i o) 103) (hi : Nums w b i H.inn) (ho : Nums w b o H.out) (h0 : 0 ≤ k) (h7 : k ≤ 7) :
    Calls Try.prog 65 #[.pointer (some ⟨m, 0, none⟩), .int .i64 k] w fun e w' => e = .returned (.int .i64 (drV H k)) ∧ ∃ i' o', Si w w' m i o i' o' (drH H k) := by
  have HS : Hid (Si w w m i o i o H) := Si.same hv hi ho
  have HV : Hid (Vb w m (mca H i o) 103) := hv
  have HI : Hid (Nums w b i H.inn) := hi
  have HO : Hid (Nums w b o H.out) := ho
  by_cases k1 : k = 1
  · subst k1
    clear hv hi ho
    go_enter Try.func65, Try.ntmps65
    go_wp2_with fail
    refine (i_take m i o H b _ HV.out HI.out).mono ?_
    rintro e w1 ⟨rfl, i1, v1, r1, m1⟩
    have V1 : Hid (Vb w1 m (mca { H with inn := H.inn.tail } i1 o) 103) := v1
    have R1 : Hid (Rv w1 i1 H.inn.tail) := r1
    have M1 : Hid (Mq (fun j => j = m) w w1) := m1
    clear v1 r1 m1
    go_wp2_with fail
    go_ret
    exact ⟨by show Ending.returned (Value.int .i64 (H.inn.head?.getD 0)) = _; rw [← head_get2, head_get]; rfl, i1, o, V1.out, R1.out, (M1.out.nums HO.out fun k e f => HO.out.ne_vb (t := 103) HV.out (by decide) (by rw [e, f])).rv, ⟨M1.out.os, M1.out.tape, M1.out.output, M1.out.size, fun k hk hn => M1.out.block k hk fun e => hn (.inl e)⟩⟩
  have e1 : drH H k = H := drH_ne' H k1
  rw [e1]
  clear e1
  by_cases k2 : k = 2
  · subst k2
    clear hv hi ho
    go_enter Try.func65, Try.ntmps65
    go_wp2_with (go_at_call 89; refine (i_get m i o H 8 b _ HV.out HI.out (by decide) (by decide)).mono ?_; rintro e y ⟨rfl, hy⟩; rw [hy]; clear hy y)
    go_ret
    exact ⟨rfl, _, _, HS.out⟩
  by_cases k3 : k = 3
  · subst k3
    clear hv hi ho
    go_enter Try.func65, Try.ntmps65
    go_wp2_with (go_at_call 89; refine (i_get m i o H 9 b _ HV.out HI.out (by decide) (by decide)).mono ?_; rintro e y ⟨rfl, hy⟩; rw [hy]; clear hy y)
    go_ret
    exact ⟨rfl, _, _, HS.out⟩
  by_cases k4 : k = 4
  · subst k4
    clear hv hi ho
    go_enter Try.func65, Try.ntmps65
    go_wp2_with (go_at_call 89; refine (i_get m i o H 6 b _ HV.out HI.out (by decide) (by decide)).mono ?_; rintro e y ⟨rfl, hy⟩; rw [hy]; clear hy y)
    go_ret
    exact ⟨rfl, _, _, HS.out⟩
  by_cases k6 : k = 6
  · subst k6
    obtain ⟨a2, n2, rfl, _⟩ := hi.shape
    have c32 : w.cell? ⟨m, 32, none⟩ = some (.slice a2 H.inn.length n2) := hv.cell 32 rfl
    clear hv hi ho
    go_enter Try.func65, Try.ntmps65
    go_wp2_with fail
    go_ret
    exact ⟨rfl, _, _, HS.out⟩
  have HD : Hid (drV H k = 0) := by show _ = _; simp [drV, k1, k2, k3, k4, k6]
  clear hv hi ho
  go_enter Try.func65, Try.ntmps65
  go_wp2_with fail
  go_ret
  exact ⟨by rw [HD.out]; rfl, _, _, HS.out⟩

set_option maxRecDepth 20000 in
set_option maxHeartbeats 4000000 in
theorem i_tell (m : Nat) (i o : Value) (H : Ht) (a : Option Addr) (n c : Nat) (ys : List Int) (b : Nat) (w : World) (hv : Vb w m (mca H i o) 103) (hi : Nums w b i H.inn) (ho : Nums w b o H.out) (ap : Apt i o) (hR : Rn w a n c ys) (hf : H.out.length + n ≤ 40) (hb : b ≤ w.heap.size) :
    Calls Try.prog 91 #[.pointer (some ⟨m, 0, none⟩), .slice a n c] w fun e w' => e = .returned (.bool true) ∧ ∃ i' o', Si w w' m i o i' o' { H with out := H.out ++ ys } := by
  have HV : Hid (Vb w m (mca H i o) 103) := hv
  have HI : Hid (Nums w b i H.inn) := hi
  have HO : Hid (Nums w b o H.out) := ho
  have HA : Hid (Apt i o) := ap
  have HF : Hid (Rn w a n c ys ∧ H.out.length + n ≤ 40 ∧ b ≤ w.heap.size) := ⟨hR, hf, hb⟩
  clear hv hi ho ap hR hf hb
  go_enter Try.func91, Try.ntmps91
  go_wp2_with fail
  refine (i_queue m 33 (mca H i o) _ o H.out a n c ys b _ HV.out rfl HO.out (by decide) HF.out.1 HF.out.2.1 HF.out.2.2).mono ?_
  rintro e w1 ⟨rfl, o1, n1, v1, m1⟩
  have N1 : Hid (Nums w1 b o1 (H.out ++ ys)) := n1
  have V1 : Hid (Vb w1 m (mca { H with out := H.out ++ ys } i o1) 103) := v1
  have M1 : Hid (Mq (fun k => k = m ∨ o.ownBlock = some k) w w1) := m1
  clear n1 v1 m1
  go_wp2_with fail
  go_ret
  refine ⟨rfl, i, o1, V1.out, (M1.out.nums HI.out fun k e f => ?_).rv, N1.out.rv, ⟨M1.out.os, M1.out.tape, M1.out.output, M1.out.size, fun k hk hn => M1.out.block k hk fun e => hn (e.elim .inl fun e => .inr (.inr e))⟩⟩
  rcases f with f | f
  · exact HI.out.ne_vb (t := 103) HV.out (by decide) (by rw [e, f])
  · rcases HA.out with h | h
    · rw [h] at e; cases e
    · exact h (e.trans f.symm)
set_option maxRecDepth 20000 in
set_option maxHeartbeats 4000000 in
theorem i_tell_full (m : Nat) (i o : Value) (H : Ht) (a : Option Addr) (n c : Nat) (b : Nat) (w : World) (hv : Vb w m (mca H i o) 103) (ho : Nums w b o H.out) (hz : H.out.length ≤ 40) (hn : n ≤ 100000000) (hf : ¬ H.out.length + n ≤ 40) :
    Calls Try.prog 91 #[.pointer (some ⟨m, 0, none⟩), .slice a n c] w fun e w' => e = .returned (.bool false) ∧ w' = w := by
  have HV : Hid (Vb w m (mca H i o) 103) := hv
  have HO : Hid (Nums w b o H.out) := ho
  have HF : Hid (H.out.length ≤ 40 ∧ n ≤ 100000000 ∧ ¬ H.out.length + n ≤ 40) := ⟨hz, hn, hf⟩
  clear hv ho hz hn hf
  go_enter Try.func91, Try.ntmps91
  go_wp2_with fail
  refine (i_queue_full m 33 o H.out a n c b _ (HV.out.cell 33 rfl) HO.out HF.out.1 HF.out.2.1 HF.out.2.2).mono ?_
  rintro e w1 ⟨rfl, rfl⟩
  go_wp2_with fail
  go_ret
  exact ⟨rfl, rfl⟩
set_option maxRecDepth 20000 in
set_option maxHeartbeats 4000000 in
theorem i_feed (m : Nat) (i o : Value) (H : Ht) (a : Option Addr) (n c : Nat) (ys : List Int) (b : Nat) (w : World) (hv : Vb w m (mca H i o) 103) (hi : Nums w b i H.inn) (ho : Nums w b o H.out) (ap : Apt i o) (hR : Rn w a n c ys) (hf : H.inn.length + n ≤ 40) (hb : b ≤ w.heap.size) :
    Calls Try.prog 59 #[.pointer (some ⟨m, 0, none⟩), .slice a n c] w fun e w' => e = .returned (.bool true) ∧ ∃ i' o', Si w w' m i o i' o' { H with inn := H.inn ++ ys } := by
  have HV : Hid (Vb w m (mca H i o) 103) := hv
  have HI : Hid (Nums w b i H.inn) := hi
  have HO : Hid (Nums w b o H.out) := ho
  have HA : Hid (Apt i o) := ap
  have HF : Hid (Rn w a n c ys ∧ H.inn.length + n ≤ 40 ∧ b ≤ w.heap.size) := ⟨hR, hf, hb⟩
  clear hv hi ho ap hR hf hb
  go_enter Try.func59, Try.ntmps59
  go_wp2_with fail
  refine (i_queue m 32 (mca H i o) _ i H.inn a n c ys b _ HV.out rfl HI.out (by decide) HF.out.1 HF.out.2.1 HF.out.2.2).mono ?_
  rintro e w1 ⟨rfl, i1, n1, v1, m1⟩
  have N1 : Hid (Nums w1 b i1 (H.inn ++ ys)) := n1
  have V1 : Hid (Vb w1 m (mca { H with inn := H.inn ++ ys } i1 o) 103) := v1
  have M1 : Hid (Mq (fun k => k = m ∨ i.ownBlock = some k) w w1) := m1
  clear n1 v1 m1
  go_wp2_with fail
  go_ret
  refine ⟨rfl, i1, o, V1.out, N1.out.rv, (M1.out.nums HO.out fun k e f => ?_).rv, ⟨M1.out.os, M1.out.tape, M1.out.output, M1.out.size, fun k hk hn => M1.out.block k hk fun e => hn (e.elim .inl fun e => .inr (.inl e))⟩⟩
  rcases f with f | f
  · exact HO.out.ne_vb (t := 103) HV.out (by decide) (by rw [e, f])
  · rcases HA.out.swap with h | h
    · rw [h] at e; cases e
    · exact h (e.trans f.symm)
set_option maxRecDepth 20000 in
set_option maxHeartbeats 4000000 in
theorem i_feed_full (m : Nat) (i o : Value) (H : Ht) (a : Option Addr) (n c : Nat) (b : Nat) (w : World) (hv : Vb w m (mca H i o) 103) (hi : Nums w b i H.inn) (hz : H.inn.length ≤ 40) (hn : n ≤ 100000000) (hf : ¬ H.inn.length + n ≤ 40) :
    Calls Try.prog 59 #[.pointer (some ⟨m, 0, none⟩), .slice a n c] w fun e w' => e = .returned (.bool false) ∧ w' = w := by
  have HV : Hid (Vb w m (mca H i o) 103) := hv
  have HI : Hid (Nums w b i H.inn) := hi
  have HF : Hid (H.inn.length ≤ 40 ∧ n ≤ 100000000 ∧ ¬ H.inn.length + n ≤ 40) := ⟨hz, hn, hf⟩
  clear hv hi hz hn hf
  go_enter Try.func59, Try.ntmps59
  go_wp2_with fail
  refine (i_queue_full m 32 i H.inn a n c b _ (HV.out.cell 32 rfl) HI.out HF.out.1 HF.out.2.1 HF.out.2.2).mono ?_
  rintro e w1 ⟨rfl, rfl⟩
  go_wp2_with fail
  go_ret
  exact ⟨rfl, rfl⟩

set_option maxRecDepth 20000 in
set_option maxHeartbeats 4000000 in
theorem i_write (m : Nat) (i o : Value) (H : Ht) (k x : Int) (b : Nat) (w : World) (hv : Vb w m (mca H i o) 103) (hi : Nums w b i H.inn) (ho : Nums w b o H.out) (ap : Apt i o) (K : Hok H) (h0 : 0 ≤ k) (h7 : k ≤ 7) (hx : 0 ≤ x) (hx2 : x ≤ 4294967295) (hb : b ≤ w.heap.size) :
    Calls Try.prog 67 #[.pointer (some ⟨m, 0, none⟩), .int .i64 k, .int .i64 x] w fun e w' => e = .returned (.int .i64 (rgW k x)) ∧ ∃ i' o', Si w w' m i o i' o' (dwW H k x) := by
  have HS : Hid (Si w w m i o i o H) := Si.same hv hi ho
  have HV : Hid (Vb w m (mca H i o) 103) := hv
  have HI : Hid (Nums w b i H.inn) := hi
  have HO : Hid (Nums w b o H.out) := ho
  have HA : Hid (Apt i o) := ap
  have HK : Hid (Hok H) := K
  have HX : Hid (0 ≤ x ∧ x ≤ 4294967295 ∧ b ≤ w.heap.size) := ⟨hx, hx2, hb⟩
  clear hv hi ho ap K hx hx2 hb
  by_cases k0 : k = 0
  · subst k0
    by_cases hl : H.out.length < 40
    · have HL : Hid (H.out.length < 40) := hl
      have HD : Hid (dwW H 0 x = { H with out := H.out ++ [x] }) := by show _ = _; simp [dwW, outW, hl]
      clear hl
      go_enter Try.func67, Try.ntmps67
      go_wp2_with fail
      refine (i_tell m i o H _ 1 1 [x] b _ (HV.out.push _) (HI.out.keep (al (Below.refl _ _) _)) (HO.out.keep (al (Below.refl _ _) _)) HA.out (one_rn w x rfl) (by have := HL.out; omega) (by have := HX.out.2.2; simp; omega)).mono ?_
      rintro e w1 ⟨rfl, i1, o1, s1⟩
      have S1 : Hid (Si w w1 m i o i1 o1 { H with out := H.out ++ [x] }) := s1.pre
      clear s1
      go_wp2_with fail
      go_ret
      exact ⟨rfl, _, _, by rw [HD.out]; exact S1.out⟩
    · have HL : Hid (¬ H.out.length < 40) := hl
      have HD : Hid (dwW H 0 x = H) := by show _ = _; simp [dwW, outW, hl]
      clear hl
      go_enter Try.func67, Try.ntmps67
      go_wp2_with fail
      refine (i_tell_full m i o H _ 1 1 b _ (HV.out.push _) (HO.out.keep (al (Below.refl _ _) _)) HK.out.o40 (by decide) (by have := HL.out; omega)).mono ?_
      rintro e w1 ⟨rfl, hw1⟩
      have S1 : Hid (Si w w1 m i o i o H) := by
        show Si _ _ _ _ _ _ _ _
        rw [hw1]
        exact (Si.same (HV.out.push _) (HI.out.keep (al (Below.refl _ _) _)) (HO.out.keep (al (Below.refl _ _) _))).pre
      clear hw1
      go_wp2_with fail
      go_ret
      exact ⟨rfl, _, _, by rw [HD.out]; exact S1.out⟩
  by_cases k3 : k = 3
  · subst k3
    go_enter Try.func67, Try.ntmps67
    go_wp2_with fail
    refine (i_set m i o H 9 x _ HV.out HK.out.c11 (by decide) (by decide) HX.out.1 HX.out.2.1).mono ?_
    rintro e w1 ⟨rfl, v1, m1⟩
    have S1 : Hid (Si w w1 m i o i o (setW H 9 x)) := Si.set HV.out HI.out HO.out v1 m1 rfl rfl
    clear v1 m1
    go_wp2_with fail
    go_ret
    exact ⟨rfl, _, _, S1.out⟩
  by_cases k4 : k = 4
  · subst k4
    go_enter Try.func67, Try.ntmps67
    go_wp2_with fail
    refine (i_set m i o H 6 x _ HV.out HK.out.c11 (by decide) (by decide) HX.out.1 HX.out.2.1).mono ?_
    rintro e w1 ⟨rfl, v1, m1⟩
    have S1 : Hid (Si w w1 m i o i o (setW H 6 x)) := Si.set HV.out HI.out HO.out v1 m1 rfl rfl
    clear v1 m1
    go_wp2_with fail
    go_ret
    exact ⟨rfl, _, _, S1.out⟩
  have HD : Hid (dwW H k x = H) := by show _ = _; simp [dwW, k0, k3, k4]
  by_cases k5 : k = 5
  · subst k5
    go_enter Try.func67, Try.ntmps67
    go_wp2_with fail
    go_ret
    exact ⟨rfl, _, _, by rw [HD.out]; exact HS.out⟩
  have HR : Hid (rgW k x = -1) := by show _ = _; simp [rgW, k5]
  go_enter Try.func67, Try.ntmps67
  go_wp2_with fail
  go_ret
  exact ⟨by rw [HR.out]; rfl, _, _, by rw [HD.out]; exact HS.out⟩
end Go.Proofs.Yteaccakodaidpaa
