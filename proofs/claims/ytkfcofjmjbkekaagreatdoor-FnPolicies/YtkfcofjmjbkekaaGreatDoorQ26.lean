/- Texts of this seat, joined. -/
import Derived.Test.YtkfcofjmjbkekaaGreatDoorQ11
import Derived.Test.YtkfcofjmjbkekaaGreatDoorQ25
namespace Go.Proofs.YtkfcofjmjbkekaaGreatDoor
open Go.RowKit
set_option linter.unusedVariables false

theorem Os.empty (w : World) (base : Nat) (hb : base ≤ w.heap.size) : Os (w.alloc (.cells #[] 9)) base (.slice (some ⟨w.heap.size, 0, none⟩) 0 0) [] :=
  World.ownsRow_lit w #[] 0 hb (by decide) rfl
theorem sp_sep (sep : UInt8) (l : Wb) (i : Nat) (cur : Wb) (h : i < l.length) (hc : l.getD i 0 = sep) : spl sep (l.drop i) cur = cur :: spl sep (l.drop (i + 1)) [] := by
  rw [drop_at l i h, spl, if_pos hc]
theorem sp_ch (sep : UInt8) (l : Wb) (i : Nat) (cur : Wb) (h : i < l.length) (hc : ¬ l.getD i 0 = sep) : spl sep (l.drop i) cur = spl sep (l.drop (i + 1)) (cur ++ [l.getD i 0]) := by
  rw [drop_at l i h, spl, if_neg hc]
theorem sp_end (sep : UInt8) (l : Wb) (cur : Wb) : spl sep (l.drop l.length) cur = [cur] := by
  rw [List.drop_length, spl]
set_option maxHeartbeats 4000000 in
theorem s_cut (l : Wb) (sep : UInt8) (w : World) (hl : l.length ≤ 1048576) :
    Calls Tryz.prog 24 #[.string (bq l), .int .u8 sep.toNat] w fun e w' => ∃ v, e = .returned v ∧ Os w' w.heap.size v (spl sep l []) ∧ Below w.heap.size w w' := by
  obtain ⟨n, hn⟩ : ∃ n, l.length = n := ⟨_, rfl⟩
  have hz : (bq l).size = n := by rw [bq_size]; exact hn
  have HN : Hid (l.length = n ∧ n ≤ 1048576) := ⟨hn, by omega⟩
  have hnI : (n : Int) ≤ 1048576 := by omega
  have GT : Hid (∀ j (h : j < (bq l).size), (bq l)[j]'h = l.getD j 0) := bq_get l
  have CUT : Hid (∀ f p, (bq l).extract f p = bq (seg l f p)) := bq_cut l
  have E0 : Hid (Os (w.alloc (.cells #[] 9)) w.heap.size (.slice (some ⟨w.heap.size, 0, none⟩) 0 0) []) := Os.empty w _ (Nat.le_refl _)
  have B0 : Hid (Below w.heap.size w (w.alloc (.cells #[] 9))) := al (Below.refl _ _) _
  clear hn hl
  go_enter Tryz.func24, Tryz.ntmps24
  go_wp2_with fail
  generalize w.alloc (.cells #[] 9) = W at *
  go_loopw [5, 6, 7] (fun u f i wr => ∃ (j q : Nat) (P : List Wb), i = .int .i64 j ∧ f = .int .i64 q ∧ j ≤ n + 1 ∧ q ≤ j ∧ P.length ≤ j ∧ Os wr w.heap.size u P ∧ Below w.heap.size w wr ∧ Hid (j ≤ n ∧ P ++ spl sep (l.drop j) (seg l q j) = spl sep l [] ∨ j = n + 1 ∧ P = spl sep l [])) (fun _ _ i _ => n + 2 - (intOf i).toNat)
  case atStart => exact ⟨0, 0, [], rfl, rfl, by omega, Nat.le_refl _, by simp, E0.out, B0.out, .inl ⟨Nat.zero_le _, by rw [seg_self]; rfl⟩⟩
  case round =>
    obtain ⟨j, q, P, rfl, rfl, hj, hq, hP, hO, hB, hT⟩ := hrel
    obtain ⟨au, cu, rfl, _⟩ := hO.shape
    obtain ⟨lu, hlu⟩ : ∃ lu, P.length = lu := ⟨_, rfl⟩
    rw [hlu] at hO ⊢
    have HO : Hid (Os wr w.heap.size (.slice au lu cu) P) := hO
    have HB : Hid (Below w.heap.size w wr) := hB
    have HP : Hid (P.length ≤ j ∧ q ≤ j) := ⟨hP, hq⟩
    have hqI : (q : Int) ≤ (j : Int) := by omega
    clear hO hB hP hlu
    by_cases hjn : j ≤ n
    · have hJ : (j : Int) ≤ (n : Int) := by omega
      have HJ : Hid (j ≤ n) := hjn
      have TT : Hid (P ++ spl sep (l.drop j) (seg l q j) = spl sep l []) := by
        rcases hT.out with ⟨_, h⟩ | ⟨h, _⟩
        · exact h
        · omega
      have hcut := CUT.out q j
      clear hT
      by_cases hje : j = n
      · subst hje
        go_upto_region 8 with (at_builtin; refine wp_pushL _ rfl _ _ rfl w.heap.size _ P rfl (HO.out.keep (al (Below.refl _ _) _)) _ (seg l q j) rfl (cell_new (by first | rfl | simp [hcut])) (by have := HN.out; have := HP.out; omega) (by have := HB.out.size; simp <;> omega) ?_; intro u2 w2 hW2 hG2)
        have W2 : Hid (Os w2 w.heap.size u2 (P ++ [seg l q j])) := hW2
        have B2 : Hid (Below w.heap.size w w2) := (al HB.out _).grown hG2 (by have := HB.out.size; simp <;> omega) (fun k e => (HO.out.lt k e).1)
        clear hW2 hG2 hcut
        go_wp2_with fail
        go_roundw
        case rel => exact ⟨j + 1, j + 1, P ++ [seg l q j], by go_num, by go_num, Nat.le_refl _, Nat.le_refl _, by have := HP.out; simp <;> omega, W2.out, B2.out, .inr ⟨rfl, by rw [← TT.out, ← HN.out.1, sp_end]⟩⟩
        case measure => simp [intOf] <;> omega
      · have hjl : j < n := by omega
        have hJl : (j : Int) < (n : Int) := by omega
        have hJe : ((j : Int) == (n : Int)) = false := by rw [beq_eq_false_iff_ne]; omega
        have hg := GT.out j (by omega)
        obtain ⟨c, hc⟩ : ∃ c, l.getD j 0 = c := ⟨_, rfl⟩
        rw [hc] at hg
        have HC : Hid (l.getD j 0 = c) := hc
        clear hc
        by_cases hcs : c = sep
        · subst hcs
          go_upto_region 8 with (at_builtin; refine wp_pushL _ rfl _ _ rfl w.heap.size _ P rfl (HO.out.keep (al (Below.refl _ _) _)) _ (seg l q j) rfl (cell_new (by first | rfl | simp [hcut])) (by have := HN.out; have := HP.out; omega) (by have := HB.out.size; simp <;> omega) ?_; intro u2 w2 hW2 hG2)
          have W2 : Hid (Os w2 w.heap.size u2 (P ++ [seg l q j])) := hW2
          have B2 : Hid (Below w.heap.size w w2) := (al HB.out _).grown hG2 (by have := HB.out.size; simp <;> omega) (fun k e => (HO.out.lt k e).1)
          clear hW2 hG2 hcut
          go_wp2_with fail
          go_roundw
          case rel => exact ⟨j + 1, j + 1, P ++ [seg l q j], by go_num, by go_num, by omega, Nat.le_refl _, by have := HP.out; simp <;> omega, W2.out, B2.out, .inl ⟨by omega, by rw [← TT.out, sp_sep _ l j _ (by have := HN.out; omega) HC.out, seg_self, List.append_assoc]; rfl⟩⟩
          case measure => simp [intOf] <;> omega
        · have e1 : (c.toNat == sep.toNat) = false := by rw [beq_eq_false_iff_ne]; intro e; exact hcs (UInt8.toNat_inj.1 e)
          have e2 : ¬ c.toNat = sep.toNat := fun e => hcs (UInt8.toNat_inj.1 e)
          have e3 : ((c.toNat : Int) == (sep.toNat : Int)) = false := by rw [beq_eq_false_iff_ne]; omega
          go_wp2_with fail
          go_roundw
          case rel => exact ⟨j + 1, q, P, by go_num, rfl, by omega, by omega, by have := HP.out; omega, HO.out, HB.out, .inl ⟨by omega, by rw [← TT.out, sp_ch _ l j _ (by have := HN.out; omega) (by rw [HC.out]; exact hcs), seg_next l q j (by omega) (by have := HN.out; omega)]⟩⟩
          case measure => simp [intOf] <;> omega
    · have hJ : ¬ (j : Int) ≤ (n : Int) := by omega
      have TT : Hid (P = spl sep l []) := by
        rcases hT.out with ⟨h, _⟩ | ⟨_, h⟩
        · omega
        · exact h
      clear hT
      go_wp2_with fail
      go_ret
      exact ⟨_, rfl, by rw [← TT.out]; exact HO.out, HB.out⟩
end Go.Proofs.YtkfcofjmjbkekaaGreatDoor
namespace Go.Proofs.YtkfcofjmjbkekaaGreatDoor
open Go.RowKit
set_option linter.unusedVariables false

/-- A machine whose four lists lie in blocks of their own, at base or behind it (or are nil). -/
structure Hm (w : World) (base : Nat) (r c i o : Value) (H : Ht) : Prop where
  r : Nums w base r H.regs
  c : Nums w base c H.csr
  i : Nums w base i H.inn
  o : Nums w base o H.out
theorem Hm.keep {w w' : World} {base : Nat} {r c i o : Value} {H : Ht} (h : Hm w base r c i o H) (b : Below w.heap.size w w') : Hm w' base r c i o H := ⟨h.r.keep b, h.c.keep b, h.i.keep b, h.o.keep b⟩
theorem Hm.mono {w : World} {base base' : Nat} {r c i o : Value} {H : Ht} (h : Hm w base r c i o H) (hb : base' ≤ base) : Hm w base' r c i o H := ⟨h.r.mono hb, h.c.mono hb, h.i.mono hb, h.o.mono hb⟩
theorem Hm.ho {w w' : World} {base : Nat} {r c i o : Value} {H : Ht} (h : Hm w base r c i o H) (k : Ho base w w') : Hm w' base r c i o H := ⟨h.r.ho k, h.c.ho k, h.i.ho k, h.o.ho k⟩
/-- Two lists that no block holds both of. -/
def Apt (a b : Value) : Prop := a.ownBlock = none ∨ a.ownBlock ≠ b.ownBlock
end Go.Proofs.YtkfcofjmjbkekaaGreatDoor
namespace Go.Proofs.YtkfcofjmjbkekaaGreatDoor
open Go.RowKit
set_option linter.unusedVariables false

/-- Where the four lists of a machine lie: block and length of each. -/
structure Hsx where
  r : Nat × Nat
  c : Nat × Nat
  i : Nat × Nat
  o : Nat × Nat
def Hsx.all (S : Hsx) : List (Nat × Nat) := [S.r, S.c, S.i, S.o]
def Av (L : List (Addr × Bool)) (p : Addr) : Prop := ∀ x ∈ L, x.1 ≠ p
def Ab (L : List (Addr × Bool)) (g : Nat) : Prop := ∀ x ∈ L, x.1.block ≠ g
theorem Av.one {q p : Addr} {b : Bool} (h : q ≠ p) : Av [(q, b)] p := fun x hx => by simp only [List.mem_singleton] at hx; subst hx; exact h
theorem Ab.one {q : Addr} {p : Nat} {b : Bool} (h : q.block ≠ p) : Ab [(q, b)] p := fun x hx => by simp only [List.mem_singleton] at hx; subst hx; exact h
theorem Ab.av {L : List (Addr × Bool)} {p : Addr} (h : Ab L p.block) : Av L p := fun x hx e => h x hx (by rw [e])
theorem Mx.more {L : List (Addr × Bool)} {k z : Int} {a w : World} {p : Addr} {v : Value} (b : Bool) (M : Mx L k a w) (hc : a.cell? p = some v) (hv : Av L p) (hz : z = k + L.length) : Mx (L ++ [(p, b)]) k a (w.setCell p (mkV b z)) := by
  refine M.trans ?_ (fun x hx y hy => ?_)
  · rw [hz]; exact Mx.one b (M.out _ _ hc hv)
  · simp only [List.mem_singleton] at hy; subst hy; exact hv x hx
theorem Mx.nums {L : List (Addr × Bool)} {k z : Int} {a w w' : World} {g n : Nat} (M : Mx L k a w) (m : Mx (cN g n) z w w') (hz : z = k + L.length) (hg : 0 < n → Ab L g) : Mx (L ++ cN g n) k a w' :=
  M.trans (by rw [← hz]; exact m) fun x hx y hy e => hg (cN_pos hy) x hx (by rw [e, cN_block hy])
/-- The cells of a machine, the j-th of a list, as they are marked. -/
def hN1 (g j : Nat) (S : Hsx) : List (Addr × Bool) := cN S.r.1 S.r.2 ++ [(⟨g, j * 9 + 1, none⟩, false)]
def hN2 (g j : Nat) (S : Hsx) : List (Addr × Bool) := ((((hN1 g j S ++ cN S.c.1 S.c.2) ++ [(⟨g, j * 9 + 3, none⟩, true)]) ++ [(⟨g, j * 9 + 4, none⟩, true)]) ++ [(⟨g, j * 9 + 5, none⟩, true)]) ++ [(⟨g, j * 9 + 6, none⟩, false)]
def hN (g j : Nat) (S : Hsx) : List (Addr × Bool) := (hN2 g j S ++ cN S.i.1 S.i.2) ++ cN S.o.1 S.o.2
def tN (g : Nat) (S : Nat → Hsx) : Nat → List (Addr × Bool)
  | 0 => []
  | n + 1 => tN g S n ++ hN g n (S n)
def Nxm (w : World) (p : Addr) : Prop := (∃ z, w.cell? p = some (.int .i64 z)) ∧ w.frozen? p = false
def Bxm (w : World) (p : Addr) : Prop := (∃ b, w.cell? p = some (.bool b)) ∧ w.frozen? p = false
def Lxm (w : World) (p : Addr) (l : Nat × Nat) : Prop := ∃ a c, w.cell? p = some (.slice a l.2 c) ∧ Mg w l.1 1 a l.2
theorem Nxm.mx {w w' : World} {p : Addr} {L : List (Addr × Bool)} {k : Int} (h : Nxm w p) (m : Mx L k w w') (hv : Av L p) : Nxm w' p := by
  obtain ⟨⟨z, hz⟩, hf⟩ := h
  exact ⟨⟨z, m.out _ _ hz hv⟩, by rw [m.free _ (block_of_cell hz)]; exact hf⟩
theorem Bxm.mx {w w' : World} {p : Addr} {L : List (Addr × Bool)} {k : Int} (h : Bxm w p) (m : Mx L k w w') (hv : Av L p) : Bxm w' p := by
  obtain ⟨⟨z, hz⟩, hf⟩ := h
  exact ⟨⟨z, m.out _ _ hz hv⟩, by rw [m.free _ (block_of_cell hz)]; exact hf⟩
theorem Lxm.mx {w w' : World} {p : Addr} {l : Nat × Nat} {L : List (Addr × Bool)} {k : Int} (h : Lxm w p l) (m : Mx L k w w') (hv : Av L p) (hb : 0 < l.2 → Ab L l.1) : Lxm w' p l := by
  obtain ⟨a, c, k1, k2⟩ := h
  exact ⟨a, c, m.out _ _ k1 hv, k2.mx m hb⟩
/-- A machine, the j-th of the list in block g, that may be marked. -/
structure Msm (w : World) (g j : Nat) (S : Hsx) : Prop where
  c0 : Lxm w ⟨g, j * 9, none⟩ S.r
  c1 : Nxm w ⟨g, j * 9 + 1, none⟩
  c2 : Lxm w ⟨g, j * 9 + 2, none⟩ S.c
  c3 : Bxm w ⟨g, j * 9 + 3, none⟩
  c4 : Bxm w ⟨g, j * 9 + 4, none⟩
  c5 : Bxm w ⟨g, j * 9 + 5, none⟩
  c6 : Nxm w ⟨g, j * 9 + 6, none⟩
  c7 : Lxm w ⟨g, j * 9 + 7, none⟩ S.i
  c8 : Lxm w ⟨g, j * 9 + 8, none⟩ S.o
  small : ∀ l ∈ S.all, l.2 ≤ 1048576
  off : ∀ l ∈ S.all, 0 < l.2 → l.1 ≠ g
  apart : S.all.Pairwise fun l m => 0 < l.2 → 0 < m.2 → l.1 ≠ m.1
theorem Msm.mx {w w' : World} {g j : Nat} {S : Hsx} {L : List (Addr × Bool)} {k : Int} (h : Msm w g j S) (m : Mx L k w w') (hv : ∀ t, t < 9 → Av L ⟨g, j * 9 + t, none⟩) (hb : ∀ l ∈ S.all, 0 < l.2 → Ab L l.1) : Msm w' g j S :=
  ⟨h.c0.mx m (hv 0 (by decide)) (hb _ (by simp [Hsx.all])), h.c1.mx m (hv 1 (by decide)), h.c2.mx m (hv 2 (by decide)) (hb _ (by simp [Hsx.all])), h.c3.mx m (hv 3 (by decide)), h.c4.mx m (hv 4 (by decide)), h.c5.mx m (hv 5 (by decide)), h.c6.mx m (hv 6 (by decide)),
   h.c7.mx m (hv 7 (by decide)) (hb _ (by simp [Hsx.all])), h.c8.mx m (hv 8 (by decide)) (hb _ (by simp [Hsx.all])), h.small, h.off, h.apart⟩
theorem hN_mem {g j : Nat} {S : Hsx} {x : Addr × Bool} (h : x ∈ hN g j S) : (∃ l ∈ S.all, 0 < l.2 ∧ x.1.block = l.1) ∨ ∃ t, t < 9 ∧ x.1 = ⟨g, j * 9 + t, none⟩ := by
  simp only [hN, hN2, hN1, List.mem_append, List.mem_singleton] at h
  rcases h with (((((((h | h) | h) | h) | h) | h) | h) | h) | h
  · exact .inl ⟨S.r, by simp [Hsx.all], cN_pos h, cN_block h⟩
  · exact .inr ⟨1, by decide, by rw [h]⟩
  · exact .inl ⟨S.c, by simp [Hsx.all], cN_pos h, cN_block h⟩
  · exact .inr ⟨3, by decide, by rw [h]⟩
  · exact .inr ⟨4, by decide, by rw [h]⟩
  · exact .inr ⟨5, by decide, by rw [h]⟩
  · exact .inr ⟨6, by decide, by rw [h]⟩
  · exact .inl ⟨S.i, by simp [Hsx.all], cN_pos h, cN_block h⟩
  · exact .inl ⟨S.o, by simp [Hsx.all], cN_pos h, cN_block h⟩
theorem tN_mem {g n : Nat} {S : Nat → Hsx} {x : Addr × Bool} (h : x ∈ tN g S n) : ∃ i, i < n ∧ x ∈ hN g i (S i) := by
  induction n with
  | zero => simp [tN] at h
  | succ n ih =>
    simp only [tN, List.mem_append] at h
    rcases h with h | h
    · obtain ⟨i, hi, hx⟩ := ih h; exact ⟨i, by omega, hx⟩
    · exact ⟨n, by omega, h⟩
/-- The machines of a list, each to be marked, all lists apart. -/
structure Mm (w : World) (g n : Nat) (S : Nat → Hsx) : Prop where
  one : ∀ j, j < n → Msm w g j (S j)
  apart : ∀ i j, i < n → j < n → i ≠ j → ∀ l ∈ (S i).all, ∀ m ∈ (S j).all, 0 < l.2 → 0 < m.2 → l.1 ≠ m.1
theorem Mm.next {w wr : World} {g n j : Nat} {S : Nat → Hsx} {k : Int} (h : Mm w g n S) (m : Mx (tN g S j) k w wr) (hj : j < n) : Msm wr g j (S j) ∧ ∀ x ∈ tN g S j, ∀ y ∈ hN g j (S j), x.1 ≠ y.1 := by
  have hv : ∀ t, t < 9 → Av (tN g S j) ⟨g, j * 9 + t, none⟩ := fun t ht x hx e => by
    obtain ⟨i, hi, hx⟩ := tN_mem hx
    rcases hN_mem hx with ⟨l, hl, hp, hb⟩ | ⟨t2, ht2, e2⟩
    · exact (h.one i (by omega)).off l hl hp (by rw [← hb, e])
    · rw [e2] at e
      have e3 : i * 9 + t2 = j * 9 + t := congrArg Addr.off e
      omega
  have hb : ∀ l ∈ (S j).all, 0 < l.2 → Ab (tN g S j) l.1 := fun l hl hp x hx e => by
    obtain ⟨i, hi, hx⟩ := tN_mem hx
    rcases hN_mem hx with ⟨l2, hl2, hp2, hb2⟩ | ⟨t2, ht2, e2⟩
    · exact h.apart i j (by omega) hj (by omega) l2 hl2 l hl hp2 hp (by rw [← hb2, e])
    · rw [e2] at e; exact (h.one j hj).off l hl hp e.symm
  refine ⟨(h.one j hj).mx m hv hb, fun x hx y hy e => ?_⟩
  rcases hN_mem hy with ⟨l, hl, hp, hb2⟩ | ⟨t, ht, e2⟩
  · exact hb l hl hp x hx (by rw [e, hb2])
  · exact hv t ht x hx (by rw [e, e2])

end Go.Proofs.YtkfcofjmjbkekaaGreatDoor
