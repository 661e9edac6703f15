/- Texts of this seat, joined. -/
import Derived.Test.YtaefollmeoepkaaGreatDoorQ12
import Derived.Test.YtaefollmeoepkaaGreatDoorQ45
namespace Go.Proofs.YtaefollmeoepkaaGreatDoor
open Go.RowKit
set_option linter.unusedVariables false
def manyV (ps : List (Int × Int)) : Nat → Ht × List Int × Int × Int → Ht × List Int × Int × Int
  | 0, x => x
  | n + 1, x => stepV (manyV ps n x).1 ps (manyV ps n x).2.1 (manyV ps n x).2.2.1 (manyV ps n x).2.2.2
theorem manyV_sn {ps : List (Int × Int)} {p : Nat} (n : Nat) {x : Ht × List Int × Int × Int} (s : Sn x.1 ps x.2.1 p) : Sn (manyV ps n x).1 ps (manyV ps n x).2.1 p := by
  induction n with
  | zero => exact s
  | succ n ih => exact stepV_sn ih _ _
structure Smr where
  code : Int
  ca : Int
  ri : Int
  H : Ht
  zs : List Int
def smV (H : Ht) (ps : List (Int × Int)) (zs : List Int) (n : Int) : Smr := if seenC H ps zs = 0 then (if 0 ≤ n ∧ n ≤ 500 then ⟨0, (manyV ps n.toNat (H, zs, -1, -1)).2.2.1, (manyV ps n.toNat (H, zs, -1, -1)).2.2.2, (manyV ps n.toNat (H, zs, -1, -1)).1, (manyV ps n.toNat (H, zs, -1, -1)).2.1⟩ else ⟨3, 0, 0, voidH, []⟩) else ⟨seenC H ps zs, 0, 0, voidH, []⟩
theorem smV_small (H : Ht) (ps : List (Int × Int)) (zs : List Int) (n : Int) : totH (smV H ps zs n).H + (smV H ps zs n).zs.length ≤ 1000 := by
  unfold smV
  split
  · rename_i hf
    split
    · obtain ⟨p, sn⟩ := seen_ok hf
      have s := manyV_sn (x := (H, zs, -1, -1)) n.toNat sn
      have h1 := s.hok.r16
      have h2 := s.hok.c11
      have h3 := s.hok.i40
      have h4 := s.hok.o40
      have h5 := s.zl
      have h6 := s.p24
      show totH (manyV ps n.toNat (H, zs, -1, -1)).1 + (manyV ps n.toNat (H, zs, -1, -1)).2.1.length ≤ 1000
      unfold totH
      omega
    · show totH voidH + ([] : List Int).length ≤ 1000
      decide
  · show totH voidH + ([] : List Int).length ≤ 1000
    decide
structure Tm (w : World) (base : Nat) (r c i o m : Value) (H : Ht) (zs : List Int) : Prop where
  h : Hm w base r c i o H
  a : Ha r c i o
  mm : Nums w base m zs
  rm : Apt r m
  cm : Apt c m
  im : Apt i m
  om : Apt o m
theorem Tm.keep {w w' : World} {base : Nat} {r c i o m : Value} {H : Ht} {zs : List Int} (s : Tm w base r c i o m H zs) (b : Below w.heap.size w w') : Tm w' base r c i o m H zs :=
  ⟨s.h.keep b, s.a, s.mm.keep b, s.rm, s.cm, s.im, s.om⟩
theorem Tm.mono {w : World} {base base' : Nat} {r c i o m : Value} {H : Ht} {zs : List Int} (s : Tm w base r c i o m H zs) (hb : base' ≤ base) : Tm w base' r c i o m H zs :=
  ⟨s.h.mono hb, s.a, s.mm.mono hb, s.rm, s.cm, s.im, s.om⟩
theorem Tm.ho {w w' : World} {base : Nat} {r c i o m : Value} {H : Ht} {zs : List Int} (s : Tm w base r c i o m H zs) (k : Ho base w w') : Tm w' base r c i o m H zs :=
  ⟨s.h.ho k, s.a, s.mm.ho k, s.rm, s.cm, s.im, s.om⟩
theorem Tm.void (w : World) (base : Nat) : Tm w base (.slice none 0 0) (.slice none 0 0) (.slice none 0 0) (.slice none 0 0) (.slice none 0 0) voidH [] :=
  ⟨⟨Nums.nil _ _, Nums.nil _ _, Nums.nil _ _, Nums.nil _ _⟩, ⟨.inl rfl, .inl rfl, .inl rfl, .inl rfl, .inl rfl, .inl rfl⟩, Nums.nil _ _, .inl rfl, .inl rfl, .inl rfl, .inl rfl⟩
def Sj13 (W : World) (q : Nat) (w' : World) : Prop := Mq (fun k => k = q) W w' ∧ w'.there q 0 13
theorem Sj13.step {W w w' : World} {q : Nat} (h : Sj13 W q w) (hq : q < W.heap.size) (b : Below w.heap.size w w') : Sj13 W q w' :=
  ⟨h.1.trans (Mq.of (below_grown b none) fun k e => by cases e), there_below h.2 (Nat.lt_of_lt_of_le hq h.1.size) b⟩
theorem Sj13.set {W w : World} {q : Nat} (h : Sj13 W q w) (vs : List Value) : Sj13 W q (w.setCells q 0 vs) := ⟨h.1.trans (mq_cells q vs w 0), World.there_setCells h.2 _ _ _⟩
theorem thirteenX {v : World} {q : Nat} {t : TypeId} {z0 z1 z2 z3 z4 z5 z6 z7 z8 z9 z10 z11 z12 : Value} (h : Vb v q #[z0, z1, z2, z3, z4, z5, z6, z7, z8, z9, z10, z11, z12] t) (u0 u1 u2 u3 u4 u5 u6 u7 u8 u9 u10 u11 u12 : Value) :
    Vb (((((((((((((v.setCell ⟨q, 0, none⟩ u0).setCell ⟨q, 1, none⟩ u1).setCell ⟨q, 2, none⟩ u2).setCell ⟨q, 3, none⟩ u3).setCell ⟨q, 4, none⟩ u4).setCell ⟨q, 5, none⟩ u5).setCell ⟨q, 6, none⟩ u6).setCell ⟨q, 7, none⟩ u7).setCell ⟨q, 8, none⟩ u8).setCell ⟨q, 9, none⟩ u9).setCell ⟨q, 10, none⟩ u10).setCell ⟨q, 11, none⟩ u11).setCell ⟨q, 12, none⟩ u12) q #[u0, u1, u2, u3, u4, u5, u6, u7, u8, u9, u10, u11, u12] t ∧ Mq (fun k => k = q) v (((((((((((((v.setCell ⟨q, 0, none⟩ u0).setCell ⟨q, 1, none⟩ u1).setCell ⟨q, 2, none⟩ u2).setCell ⟨q, 3, none⟩ u3).setCell ⟨q, 4, none⟩ u4).setCell ⟨q, 5, none⟩ u5).setCell ⟨q, 6, none⟩ u6).setCell ⟨q, 7, none⟩ u7).setCell ⟨q, 8, none⟩ u8).setCell ⟨q, 9, none⟩ u9).setCell ⟨q, 10, none⟩ u10).setCell ⟨q, 11, none⟩ u11).setCell ⟨q, 12, none⟩ u12) := by
  have h0 : Vb (v.setCell ⟨q, 0, none⟩ u0) q #[u0, z1, z2, z3, z4, z5, z6, z7, z8, z9, z10, z11, z12] t := h.set 0 u0
  have h1 : Vb ((v.setCell ⟨q, 0, none⟩ u0).setCell ⟨q, 1, none⟩ u1) q #[u0, u1, z2, z3, z4, z5, z6, z7, z8, z9, z10, z11, z12] t := h0.set 1 u1
  have h2 : Vb (((v.setCell ⟨q, 0, none⟩ u0).setCell ⟨q, 1, none⟩ u1).setCell ⟨q, 2, none⟩ u2) q #[u0, u1, u2, z3, z4, z5, z6, z7, z8, z9, z10, z11, z12] t := h1.set 2 u2
  have h3 : Vb ((((v.setCell ⟨q, 0, none⟩ u0).setCell ⟨q, 1, none⟩ u1).setCell ⟨q, 2, none⟩ u2).setCell ⟨q, 3, none⟩ u3) q #[u0, u1, u2, u3, z4, z5, z6, z7, z8, z9, z10, z11, z12] t := h2.set 3 u3
  have h4 : Vb (((((v.setCell ⟨q, 0, none⟩ u0).setCell ⟨q, 1, none⟩ u1).setCell ⟨q, 2, none⟩ u2).setCell ⟨q, 3, none⟩ u3).setCell ⟨q, 4, none⟩ u4) q #[u0, u1, u2, u3, u4, z5, z6, z7, z8, z9, z10, z11, z12] t := h3.set 4 u4
  have h5 : Vb ((((((v.setCell ⟨q, 0, none⟩ u0).setCell ⟨q, 1, none⟩ u1).setCell ⟨q, 2, none⟩ u2).setCell ⟨q, 3, none⟩ u3).setCell ⟨q, 4, none⟩ u4).setCell ⟨q, 5, none⟩ u5) q #[u0, u1, u2, u3, u4, u5, z6, z7, z8, z9, z10, z11, z12] t := h4.set 5 u5
  have h6 : Vb (((((((v.setCell ⟨q, 0, none⟩ u0).setCell ⟨q, 1, none⟩ u1).setCell ⟨q, 2, none⟩ u2).setCell ⟨q, 3, none⟩ u3).setCell ⟨q, 4, none⟩ u4).setCell ⟨q, 5, none⟩ u5).setCell ⟨q, 6, none⟩ u6) q #[u0, u1, u2, u3, u4, u5, u6, z7, z8, z9, z10, z11, z12] t := h5.set 6 u6
  have h7 : Vb ((((((((v.setCell ⟨q, 0, none⟩ u0).setCell ⟨q, 1, none⟩ u1).setCell ⟨q, 2, none⟩ u2).setCell ⟨q, 3, none⟩ u3).setCell ⟨q, 4, none⟩ u4).setCell ⟨q, 5, none⟩ u5).setCell ⟨q, 6, none⟩ u6).setCell ⟨q, 7, none⟩ u7) q #[u0, u1, u2, u3, u4, u5, u6, u7, z8, z9, z10, z11, z12] t := h6.set 7 u7
  have h8 : Vb (((((((((v.setCell ⟨q, 0, none⟩ u0).setCell ⟨q, 1, none⟩ u1).setCell ⟨q, 2, none⟩ u2).setCell ⟨q, 3, none⟩ u3).setCell ⟨q, 4, none⟩ u4).setCell ⟨q, 5, none⟩ u5).setCell ⟨q, 6, none⟩ u6).setCell ⟨q, 7, none⟩ u7).setCell ⟨q, 8, none⟩ u8) q #[u0, u1, u2, u3, u4, u5, u6, u7, u8, z9, z10, z11, z12] t := h7.set 8 u8
  have h9 : Vb ((((((((((v.setCell ⟨q, 0, none⟩ u0).setCell ⟨q, 1, none⟩ u1).setCell ⟨q, 2, none⟩ u2).setCell ⟨q, 3, none⟩ u3).setCell ⟨q, 4, none⟩ u4).setCell ⟨q, 5, none⟩ u5).setCell ⟨q, 6, none⟩ u6).setCell ⟨q, 7, none⟩ u7).setCell ⟨q, 8, none⟩ u8).setCell ⟨q, 9, none⟩ u9) q #[u0, u1, u2, u3, u4, u5, u6, u7, u8, u9, z10, z11, z12] t := h8.set 9 u9
  have h10 : Vb (((((((((((v.setCell ⟨q, 0, none⟩ u0).setCell ⟨q, 1, none⟩ u1).setCell ⟨q, 2, none⟩ u2).setCell ⟨q, 3, none⟩ u3).setCell ⟨q, 4, none⟩ u4).setCell ⟨q, 5, none⟩ u5).setCell ⟨q, 6, none⟩ u6).setCell ⟨q, 7, none⟩ u7).setCell ⟨q, 8, none⟩ u8).setCell ⟨q, 9, none⟩ u9).setCell ⟨q, 10, none⟩ u10) q #[u0, u1, u2, u3, u4, u5, u6, u7, u8, u9, u10, z11, z12] t := h9.set 10 u10
  have h11 : Vb ((((((((((((v.setCell ⟨q, 0, none⟩ u0).setCell ⟨q, 1, none⟩ u1).setCell ⟨q, 2, none⟩ u2).setCell ⟨q, 3, none⟩ u3).setCell ⟨q, 4, none⟩ u4).setCell ⟨q, 5, none⟩ u5).setCell ⟨q, 6, none⟩ u6).setCell ⟨q, 7, none⟩ u7).setCell ⟨q, 8, none⟩ u8).setCell ⟨q, 9, none⟩ u9).setCell ⟨q, 10, none⟩ u10).setCell ⟨q, 11, none⟩ u11) q #[u0, u1, u2, u3, u4, u5, u6, u7, u8, u9, u10, u11, z12] t := h10.set 11 u11
  have h12 : Vb (((((((((((((v.setCell ⟨q, 0, none⟩ u0).setCell ⟨q, 1, none⟩ u1).setCell ⟨q, 2, none⟩ u2).setCell ⟨q, 3, none⟩ u3).setCell ⟨q, 4, none⟩ u4).setCell ⟨q, 5, none⟩ u5).setCell ⟨q, 6, none⟩ u6).setCell ⟨q, 7, none⟩ u7).setCell ⟨q, 8, none⟩ u8).setCell ⟨q, 9, none⟩ u9).setCell ⟨q, 10, none⟩ u10).setCell ⟨q, 11, none⟩ u11).setCell ⟨q, 12, none⟩ u12) q #[u0, u1, u2, u3, u4, u5, u6, u7, u8, u9, u10, u11, u12] t := h11.set 12 u12
  exact ⟨h12, ((((((((((((((Mq.refl (fun k => k = q) v).set ⟨q, 0, none⟩ u0 rfl).set ⟨q, 1, none⟩ u1 rfl).set ⟨q, 2, none⟩ u2 rfl).set ⟨q, 3, none⟩ u3 rfl).set ⟨q, 4, none⟩ u4 rfl).set ⟨q, 5, none⟩ u5 rfl).set ⟨q, 6, none⟩ u6 rfl).set ⟨q, 7, none⟩ u7 rfl).set ⟨q, 8, none⟩ u8 rfl).set ⟨q, 9, none⟩ u9 rfl).set ⟨q, 10, none⟩ u10 rfl).set ⟨q, 11, none⟩ u11 rfl).set ⟨q, 12, none⟩ u12 rfl)⟩
end Go.Proofs.YtaefollmeoepkaaGreatDoor
