/- Texts of this seat, joined. -/
import Derived.Test.YtgjpfmcokcjegaaQ32
import Derived.Test.YtgjpfmcokcjegaaQ48
import Derived.Test.YtgjpfmcokcjegaaQ49
namespace Go.Proofs.Ytgjpfmcokcjegaa
open Go.RowKit
set_option linter.unusedVariables false
structure Dy (w0 v : World) (R b k : Nat) (a : Option Addr) (len cap : Nat) (zs : List Int) (q : Nat) (a0 : Option Addr) (m0 k0 : Nat) (a1 : Option Addr) (m1 k1 : Nat) (a2 : Option Addr) (m2 k2 : Nat) (a3 : Option Addr) (m3 k3 : Nat) (H : Ht) (la : Option Addr) (ln lk : Nat) (ma : Option Addr) (mn mk : Nat) : Prop where
  src : Src v b k a len cap zs
  h : Hz v (b + 1) a0 m0 k0 a1 m1 k1 a2 m2 k2 a3 m3 k3 H
  l : Drawn8 v (b + 1) (.slice la ln lk)
  m : DrawnM v (b + 1) (.slice ma mn mk)
  var : Vb v q #[.slice a0 m0 k0, .int .i64 H.pc, .slice a1 m1 k1, .bool H.halted, .bool H.waiting, .bool H.rung, .int .i64 H.done, .slice a2 m2 k2, .slice a3 m3 k3] 26
  res : Vb v R #[.slice none 0 0, .int .i64 0, .slice none 0 0, .bool false, .bool false, .bool false, .int .i64 0, .slice none 0 0, .slice none 0 0] 26
  g : Below w0.heap.size w0 v
  hR : w0.heap.size ≤ R
  hb : R < b
  hq : b < q
theorem vb_rangeW {w : World} {q : Nat} {cs : List Value} {t : TypeId} (h : Vb w q cs.toArray t) : w.rangeAt q 0 cs := fun j v hv => by
  rw [Nat.zero_add]
  exact h.cell j (by simpa using hv)
theorem DrawnM.turnW {w w' : World} {base b : Nat} {v : Value} (h : DrawnM w base v) (t : Turn b w w') (hb : b < base) : DrawnM w' base v := by
  rcases h with ⟨zs, h, hl⟩ | h
  · exact .inl ⟨zs, h.turn t hb, hl⟩
  · exact .inr h
theorem DrawnM.monoW {w : World} {base base' : Nat} {v : Value} (h : DrawnM w base v) (hb : base' ≤ base) : DrawnM w base' v := by
  rcases h with ⟨zs, h, hl⟩ | h
  · exact .inl ⟨zs, h.mono hb, hl⟩
  · exact .inr h
theorem Dy.turn {w0 v v' : World} {R b k k' : Nat} {a : Option Addr} {len cap : Nat} {zs : List Int} {q : Nat} {a0 : Option Addr} {m0 k0 : Nat} {a1 : Option Addr} {m1 k1 : Nat} {a2 : Option Addr} {m2 k2 : Nat} {a3 : Option Addr} {m3 k3 : Nat} {H : Ht} {la : Option Addr} {ln lk : Nat} {ma : Option Addr} {mn mk : Nat} (h : Dy w0 v R b k a len cap zs q a0 m0 k0 a1 m1 k1 a2 m2 k2 a3 m3 k3 H la ln lk ma mn mk) (t : Turn b v v') (s : Src v' b k' a len cap zs) : Dy w0 v' R b k' a len cap zs q a0 m0 k0 a1 m1 k1 a2 m2 k2 a3 m3 k3 H la ln lk ma mn mk :=
  ⟨s, h.h.turn t (Nat.lt_succ_self _), h.l.turn t (Nat.lt_succ_self _), h.m.turnW t (Nat.lt_succ_self _), (turn_mq t).vb h.var (fun e => by have := h.hq; omega), (turn_mq t).vb h.res (fun e => by have := h.hb; omega), h.g.trans (t.below (by have := h.hb; have := h.hR; omega) h.g.size), h.hR, h.hb, h.hq⟩
theorem Dy.fin {w0 v v' : World} {R b k : Nat} {a : Option Addr} {len cap : Nat} {zs : List Int} {q : Nat} {a0 : Option Addr} {m0 k0 : Nat} {a1 : Option Addr} {m1 k1 : Nat} {a2 : Option Addr} {m2 k2 : Nat} {a3 : Option Addr} {m3 k3 : Nat} {H : Ht} {la : Option Addr} {ln lk : Nat} {ma : Option Addr} {mn mk : Nat} (h : Dy w0 v R b k a len cap zs q a0 m0 k0 a1 m1 k1 a2 m2 k2 a3 m3 k3 H la ln lk ma mn mk) (m : Mq (fun k => k = R) v v') :
    Hz v' w0.heap.size a0 m0 k0 a1 m1 k1 a2 m2 k2 a3 m3 k3 H ∧ Drawn8 v' w0.heap.size (.slice la ln lk) ∧ DrawnM v' w0.heap.size (.slice ma mn mk) ∧ Below w0.heap.size w0 v' := by
  have hb := h.hb
  have hR := h.hR
  have hs := h.g.size
  exact ⟨(h.h.mq m (fun k e1 e2 e => by omega)).mono (by omega), (h.l.mq m (fun k e1 e2 e => by omega)).mono (by omega), drawnM_mq h.m m (by omega) (by omega),
    ⟨m.os.trans h.g.os, m.tape.trans h.g.tape, m.output.trans h.g.output, Nat.le_trans h.g.size m.size, fun x hx => (m.block x (by omega) (by omega)).trans (h.g.block x hx)⟩⟩
theorem drawnM_shape {w : World} {base : Nat} {v : Value} (h : DrawnM w base v) : ∃ a n cap, v = .slice a n cap := by
  rcases h with ⟨zs, h, _⟩ | ⟨a, n, cap, rfl, _⟩
  · obtain ⟨a, c, rfl, _⟩ := h.shape; exact ⟨_, _, _, rfl⟩
  · exact ⟨_, _, _, rfl⟩
theorem so_facts {H : Ht} {ps : List (Int × Int)} {zs : List Int} (h : soC H ps zs = 0) : seenC H ps zs = 0 ∧ spC H ps = 0 ∧ soP H ps zs = spP H ps zs ∧ (soP H ps zs).length = 8 ∧ okTo 8 (soP H ps zs) 8 ∧ pgsV ps 24 = 0 ∧ ps.length = 8 := by
  unfold soC at h
  split at h
  case isFalse hn => exact absurd h hn
  rename_i hs
  obtain ⟨p, sn⟩ := seen_ok hs
  have e : soP H ps zs = spP H ps zs := if_pos hs
  obtain ⟨h1, h2⟩ := sp_ok sn h
  rw [e]
  exact ⟨hs, h, rfl, h1, h2, pgsV_ok (by decide) (by decide) sn.l8 sn.ok, sn.l8⟩
theorem pgs8_up {rs : List (Int × Int)} (hl : rs.length = 8) (ho : okTo 8 rs 8) : pgsV rs 24 = 0 ∧ pgsV rs 8 = 0 := ⟨pgsV_ok (by decide) (by decide) hl (okTo_up ho), pgsV_ok (by decide) (by decide) hl ho⟩
theorem place_own {H : Ht} {ps : List (Int × Int)} {zs : List Int} (h : soC H ps zs = 0) (x k : Int) (hn : ¬ wpC (soP H ps zs) x k = 0) : poC H ps zs x k = wpC (soP H ps zs) x k := by
  obtain ⟨hs, hp, e, hl, ho, _, _⟩ := so_facts h
  have h24 := (pgs8_up hl ho).1
  unfold wpC at hn ⊢
  rw [if_pos h24] at hn ⊢
  unfold poC
  rw [if_pos hs]
  cases hk : kindB k
  · simp [wkC, hk]
  · unfold plC
    rw [if_pos hp, ← e, if_neg hn]
    rfl
theorem place_in {H : Ht} {ps : List (Int × Int)} {zs : List Int} (h : soC H ps zs = 0) (x k : Int) (hz : wpC (soP H ps zs) x k = 0) :
    kindB k = true ∧ 0 ≤ wpV (soP H ps zs) x k ∧ wpV (soP H ps zs) x k ≤ 63 ∧ poC H ps zs x k = behC ps (wpV (soP H ps zs) x k) k ∧ poV H ps zs x k = behV ps (wpV (soP H ps zs) x k) k := by
  obtain ⟨hs, hp, e, hl, ho, _, _⟩ := so_facts h
  have h24 := (pgs8_up hl ho).1
  unfold wpC at hz
  rw [if_pos h24] at hz
  have ev : wpV (soP H ps zs) x k = wkV (soP H ps zs) x k := if_pos h24
  rw [ev]
  have hk : kindB k = true := by
    cases hk : kindB k
    · simp [wkC, hk] at hz
    · rfl
  obtain ⟨_, _, g1, g2⟩ := sp_goes ho hk hz
  refine ⟨hk, g1, g2, ?_, ?_⟩
  · unfold poC plC
    rw [if_pos hs, if_pos hk, if_pos hp, ← e, if_pos hz]
  · unfold poV plV
    rw [if_pos hs, if_pos hk, if_pos hp, ← e, if_pos hz]
theorem place_device {H : Ht} {ps : List (Int × Int)} {zs : List Int} (h : soC H ps zs = 0) (x k : Int) (hz : wpC (soP H ps zs) x k = 0) (h56 : 56 ≤ wpV (soP H ps zs) x k) :
    (k = 4 ∧ poC H ps zs x k = 9) ∨ (¬ k = 4 ∧ poC H ps zs x k = 0 ∧ poV H ps zs x k = 1000 + wpV (soP H ps zs) x k - 56) := by
  obtain ⟨hk, h0, h63, e1, e2⟩ := place_in h x k hz
  rw [e1, e2]
  generalize wpV (soP H ps zs) x k = y at *
  have hy : y / 8 = 7 := by omega
  unfold behC behV
  rw [if_pos hy, if_pos hy]
  by_cases h4 : k = 4
  · exact .inl ⟨h4, if_pos h4⟩
  · refine .inr ⟨h4, if_neg h4, ?_⟩
    rw [if_neg h4]
    omega
theorem place_both {H : Ht} {ps : List (Int × Int)} {zs : List Int} (h : soC H ps zs = 0) (x k : Int) (hz : wpC (soP H ps zs) x k = 0) (h56 : ¬ 56 ≤ wpV (soP H ps zs) x k) :
    twoV (soP H ps zs) 8 ps = 0 ∧ poC H ps zs x k = wpC (cmpL (soP H ps zs) ps) x k ∧ poV H ps zs x k = wpV (cmpL (soP H ps zs) ps) x k := by
  obtain ⟨hk, h0, h63, e1, e2⟩ := place_in h x k hz
  obtain ⟨hs, hp, e, hl, ho, hps, h8⟩ := so_facts h
  obtain ⟨h24, h8'⟩ := pgs8_up hl ho
  have ht : twoV (soP H ps zs) 8 ps = 0 := by unfold twoV; rw [if_pos h8', hps]
  obtain ⟨s1, s2⟩ := stages_same ht x k
  have ec : cmpL (soP H ps zs) ps = (soP H ps zs).map (cmpP ps) := if_pos ht
  have wz : wkC (soP H ps zs) x k = 0 := by unfold wpC at hz; rw [if_pos h24] at hz; exact hz
  have ev : wpV (soP H ps zs) x k = wkV (soP H ps zs) x k := if_pos h24
  refine ⟨ht, ?_, ?_⟩
  · rw [ec, ← s1, e1, ev]
    have hy : ¬ wkV (soP H ps zs) x k / 8 = 7 := by rw [← ev]; omega
    unfold behC wbC
    rw [if_neg hy, if_pos ht, thr_two, if_pos wz]
  · rw [ec, ← s2, e2, ev]
    have hy : ¬ wkV (soP H ps zs) x k / 8 = 7 := by rw [← ev]; omega
    unfold behV wbV
    rw [if_neg hy, if_pos ht, thr_two, if_pos wz]
end Go.Proofs.Ytgjpfmcokcjegaa
