/- Caches that are drawn, of a list of seven pages; the draw of a walk. -/
import Derived.Test.YtaajaikpkcgalaaCae
import Derived.Test.YtaajaikpkcgalaaPdb
namespace Go.Proofs.Ytaajaikpkcgalaa
open Go.RowKit
set_option linter.unusedVariables false

structure Dz (w0 v : World) (b k : Nat) (a : Option Addr) (len cap : Nat) (zs : List Int) (y : Value) (rs : List Qd) : Prop where
  src : Src v b k a len cap zs
  qq : Qs 65 v w0.heap.size y rs
  tn : Turn b w0 v
  hB : b < w0.heap.size
theorem Dz.turn {w0 v v' : World} {b k k' : Nat} {a : Option Addr} {len cap : Nat} {zs : List Int} {y : Value} {rs : List Qd} (h : Dz w0 v b k a len cap zs y rs) (t : Turn b v v') (s : Src v' b k' a len cap zs) : Dz w0 v' b k' a len cap zs y rs :=
  ⟨s, h.qq.turn t h.hB, h.tn.trans t, h.hB⟩
theorem Dz.put {w0 v : World} {b k : Nat} {a : Option Addr} {len cap : Nat} {zs : List Int} {y y' : Value} {rs rs' : List Qd} (h : Dz w0 v b k a len cap zs y rs) (q : Qs 65 v w0.heap.size y' rs') : Dz w0 v b k a len cap zs y' rs' :=
  ⟨h.src, q, h.tn, h.hB⟩
theorem Dz.new {w0 v : World} {b k : Nat} {a : Option Addr} {len cap : Nat} {zs : List Int} {y : Value} {rs : List Qd} (h : Dz w0 v b k a len cap zs y rs) (o : Obj) : Dz w0 (v.alloc o) b k a len cap zs y rs :=
  h.turn (Turn.alloc _ _ _) (h.src.alloc _)
set_option maxRecDepth 100000 in
set_option maxHeartbeats 16000000 in
theorem cache_any7 {w : World} {b k : Nat} {a : Option Addr} {len cap : Nat} {zs : List Int} (s : Src w b k a len cap zs) (hk : k ≤ 80000) (la : Option Addr) (lc : Nat) :
    Calls Try.prog 16 #[.pointer (some ⟨b, 0, none⟩), .slice la 7 lc] w fun e w' => ∃ (v : Value) (k' : Nat) (rs : List Qd), e = .returned v ∧ rs.length ≤ 13 ∧ Qs 65 w' w.heap.size v rs ∧ Turn b w w' ∧ k' ≤ k + 100 ∧ Src w' b k' a len cap zs := by
  have HK : Hid (k ≤ 80000) := hk
  have D0 : Hid (Dz w (w.alloc (.cells #[] 65)) b k a len cap zs (.slice (some ⟨w.heap.size, 0, none⟩) 0 0) []) :=
    ⟨s.alloc _, Qs.empty (Nat.le_refl _), Turn.alloc _ _ _, s.here⟩
  clear s hk
  go_enter Try.func16, Try.ntmps16
  go_wp2_with fail
  generalize w.alloc (.cells #[] 65) = W0 at *
  generalize (Value.slice (some ⟨w.heap.size, 0, none⟩) 0 0) = y0 at *
  refine (next_any D0.out.src (by have := HK.out; omega) _).mono ?_
  rintro e w1 ⟨v1, rfl, h1, -, t1, s1⟩
  have D1 : Hid (Dz w w1 b (k + 1) a len cap zs (y0) ([])) := D0.out.turn t1 s1
  clear t1 s1
  go_wp2_with fail
  refine (next_any D1.out.src (by have := HK.out; omega) _).mono ?_
  rintro e w2 ⟨v2, rfl, h2, -, t2, s2⟩
  have D2 : Hid (Dz w w2 b (k + 1 + 1) a len cap zs (y0) ([])) := D1.out.turn t2 s2
  have HV : Hid ((0 ≤ v1 ∧ v1 ≤ 14) ∧ (0 ≤ v2 ∧ v2 ≤ 14)) := by
    have a1 := h1 (by omega)
    have a2 := h2 (by omega)
    exact ⟨⟨by omega, by omega⟩, ⟨by omega, by omega⟩⟩
  clear t2 s2 h1 h2
  have D3 : Hid (Dz w (w2.alloc (.cells #[.int .i64 v1, .int .i64 v2, .int .i64 14] 2)) b (k + 1 + 1) a len cap zs (y0) ([])) := D2.out.new _
  go_wp2_with fail
  refine (pick_any D3.out.src (by have := HK.out; omega) (fun v => 0 ≤ v ∧ v ≤ 14) _ 3 (by omega) (by omega) (by simp) (by have := D2.out.src.here; omega) (lits3 _ _ _ _ _ _ ⟨HV.out.1, HV.out.2, by decide⟩)).mono ?_
  rintro e w3 ⟨v3, rfl, ⟨h30, h31⟩, t3, s3⟩
  have D4 : Hid (Dz w w3 b (k + 1 + 1 + 1) a len cap zs (y0) ([])) := D3.out.turn t3 s3
  obtain ⟨j0, rfl⟩ := Int.eq_ofNat_of_zero_le h30
  have HJ0 : Hid (j0 ≤ 14) := by show _ ≤ _; omega
  clear t3 s3 h30 h31 D3 D2 D1 D0 HV
  go_wp2_with fail
  go_loopw [5, 6] (fun y c wr => ∃ (j : Nat) (rs : List Qd) (kk : Nat), c = .int .i64 j ∧ j ≤ 14 ∧ cfV rs = 0 ∧ kk + 5 * j ≤ k + 73 ∧ Dz w wr b kk a len cap zs y rs) (fun _ c _ => (intOf c).toNat)
  case atStart => exact ⟨j0, [], k + 1 + 1 + 1, rfl, HJ0.out, rfl, by have := HJ0.out; omega, D4.out⟩
  case round =>
    obtain ⟨j, rs, kk, rfl, hj, hc, hkk, hD⟩ := hrel
    have DB : Hid (Dz w wr b kk a len cap zs _ rs) := hD
    have HC : Hid (cfV rs = 0) := hc
    have HJ : Hid (j ≤ 14) := hj
    have HKK : Hid (kk + 5 * j ≤ k + 73) := hkk
    obtain ⟨ya, yc, hy, _, _, hya⟩ := hD.qq.shape
    obtain ⟨un, hun⟩ : ∃ un, rs.length = un := ⟨_, rfl⟩
    rw [hun] at hy hya
    subst hy
    have LR : Hid (rs.length = un) := hun
    have HYA : Hid (0 < un → ∃ g, ya = some ⟨g, 0, none⟩) := hya
    clear hD hc hj hkk hya hun D4
    by_cases hlt : 0 < j
    · have hI : (0 : Int) < (j : Int) := by omega
      have hI9 : (j : Int) ≤ 14 := by have := HJ.out; omega
      have HLT : Hid (0 < j) := hlt
      clear hlt
      go_wp2_with fail
      refine (next_any DB.out.src (by have := HK.out; have := HKK.out; omega) _).mono ?_
      rintro e u1 ⟨x1, rfl, g1, -, t1, s1⟩
      have D1 : Hid (Dz w u1 b (kk + 1) a len cap zs (.slice ya un yc) (rs)) := DB.out.turn t1 s1
      clear t1 s1
      go_wp2_with fail
      refine (next_any D1.out.src (by have := HK.out; have := HKK.out; omega) _).mono ?_
      rintro e u2 ⟨x2, rfl, g2, -, t1, s1⟩
      have D2 : Hid (Dz w u2 b (kk + 1 + 1) a len cap zs (.slice ya un yc) (rs)) := D1.out.turn t1 s1
      clear t1 s1
      go_wp2_with fail
      refine (next_any D2.out.src (by have := HK.out; have := HKK.out; omega) _).mono ?_
      rintro e u3 ⟨x3, rfl, g3, -, t1, s1⟩
      have D3 : Hid (Dz w u3 b (kk + 1 + 1 + 1) a len cap zs (.slice ya un yc) (rs)) := D2.out.turn t1 s1
      clear t1 s1
      go_wp2_with fail
      refine (next_any D3.out.src (by have := HK.out; have := HKK.out; have := HLT.out; omega) _).mono ?_
      rintro e u4 ⟨x4, rfl, g4, -, t1, s1⟩
      have D4 : Hid (Dz w u4 b (kk + 1 + 1 + 1 + 1) a len cap zs (.slice ya un yc) (rs)) := D3.out.turn t1 s1
      clear t1 s1
      obtain ⟨p1, p2⟩ := g1 (by omega)
      obtain ⟨p3, p4⟩ := g2 (by omega)
      obtain ⟨p5, p6⟩ := g3 (by omega)
      obtain ⟨p7, p8⟩ := g4 (by omega)
      obtain ⟨i, rfl⟩ := Int.eq_ofNat_of_zero_le p3
      have HX : Hid ((0 ≤ x1 ∧ x1 ≤ 9) ∧ i < 8 ∧ (0 ≤ x3 ∧ x3 ≤ 23) ∧ (1 ≤ 1 + x4 ∧ 1 + x4 ≤ 7)) := ⟨⟨by omega, by omega⟩, by omega, ⟨by omega, by omega⟩, ⟨by omega, by omega⟩⟩
      clear g1 g2 g3 g4 p1 p2 p3 p4 p5 p6 D1 D2 D3
      go_upto_region 6 with fail
      obtain ⟨N, hN⟩ : ∃ N, u4.heap.size = N := ⟨_, rfl⟩
      have DW : Hid (Dz w (u4.alloc (.cells #[.int .i64 x1, .int .i64 (i : Int), .int .i64 x3, .int .i64 (1 + x4)] 65)) b (kk + 1 + 1 + 1 + 1) a len cap zs (.slice ya un yc) (rs)) := D4.out.new _
      have VN : Hid (Vb (u4.alloc (.cells #[.int .i64 x1, .int .i64 (i : Int), .int .i64 x3, .int .i64 (1 + x4)] 65)) N #[.int .i64 x1, .int .i64 (i : Int), .int .i64 x3, .int .i64 (1 + x4)] 65) := by show Vb _ _ _ _; rw [← hN]; exact Vb.new _ _ _
      have HNB : Hid (b < N ∧ w.heap.size ≤ N) := by have := D4.out.src.here; have := D4.out.tn.size; exact ⟨by omega, by omega⟩
      have HYN : Hid ((Value.slice ya un yc).ownBlock ≠ some N) := fun e => by have := (D4.out.qq.lt N e).2; omega
      rw [hN]
      generalize u4.alloc (.cells #[.int .i64 x1, .int .i64 (i : Int), .int .i64 x3, .int .i64 (1 + x4)] 65) = W at *
      clear hN D4
      have okN : Hid (okQ ⟨x1, i, x3, 1 + x4⟩ = true) := okQ_iff.2 (by have := HX.out; exact ⟨this.1.1, this.1.2, by show (0 : Int) ≤ (i : Int); omega, by show (i : Int) ≤ 7; omega, this.2.2.1.1, this.2.2.1.2, this.2.2.2.1, this.2.2.2.2⟩)
      have SD : Hid (Vb W.drew N #[.int .i64 x1, .int .i64 (i : Int), .int .i64 x3, .int .i64 (1 + x4)] 65) := VN.out.keep (Below.refl _ _).drew
      have DD : Hid (Dz w W.drew b (kk + 1 + 1 + 1 + 1) a len cap zs (.slice ya un yc) (rs)) := DW.out.turn (Turn.of_below (Below.refl _ _).drew) (DW.out.src.turn (Turn.of_below (b := W.heap.size) (Below.refl _ _).drew) (Nat.le_refl _))
      refine wp_region_held (S := fun w' => Vb w' N #[.int .i64 x1, .int .i64 (i : Int), .int .i64 x3, .int .i64 (1 + x4)] 65) (by kernel_rfl) ?_
      change wpAnyH _ _ _ _ _ _ _ _ (World.drew _)
      generalize W.drew = v1 at *
      refine wpAnyH_take (i := 0) (v := .slice la 7 lc) rfl (by kernel_rfl) (by kernel_rfl) (by kernel_rfl) (fun _ _ _ h => h) (Or.inl ⟨by rfl, fun w' hs => by go_simp⟩) SD.out ?_
      change wpAnyH _ _ _ _ _ _ _ (Act.put _ (some 30) _) _
      simp only [Act.put, List.setIfInBounds_toArray, List.set_cons_zero, List.set_cons_succ]
      refine wpAnyH_take (i := 1) (v := .int .i64 7) rfl (by kernel_rfl) (by kernel_rfl) (by kernel_rfl) (fun _ _ _ h => h) (Or.inl ⟨by rfl, fun w' hs => by go_simp⟩) SD.out ?_
      change wpAnyH _ _ _ _ _ _ _ (Act.put _ (some 31) _) _
      simp only [Act.put, List.setIfInBounds_toArray, List.set_cons_zero, List.set_cons_succ]
      refine wpAnyH_take (i := 2) (v := .bool false) rfl (by kernel_rfl) (by kernel_rfl) (by kernel_rfl) (fun _ _ _ h => h) (Or.inl ⟨by rfl, fun w' hs => by go_simp⟩) SD.out ?_
      change wpAnyH _ _ _ _ _ _ _ (Act.put _ (some 32) _) _
      simp only [Act.put, List.setIfInBounds_toArray, List.set_cons_zero, List.set_cons_succ]
      refine wpAnyH_take (i := 3) (v := .bool false) rfl (by kernel_rfl) (by kernel_rfl) (by kernel_rfl) (fun _ _ _ h => h) (Or.inl ⟨by rfl, fun w' hs => by go_simp⟩) SD.out ?_
      change wpAnyH _ _ _ _ _ _ _ (Act.put _ (some 33) _) _
      simp only [Act.put, List.setIfInBounds_toArray, List.set_cons_zero, List.set_cons_succ]
      refine wpAnyH_take (i := 4) (v := undef) rfl (by kernel_rfl) (by kernel_rfl) (by kernel_rfl) (fun _ _ _ h => h) (Or.inr ⟨by rfl, rfl⟩) SD.out ?_
      change wpAnyH _ _ _ _ _ _ _ (Act.put _ (some 34) _) _
      simp only [Act.put, List.setIfInBounds_toArray, List.set_cons_zero, List.set_cons_succ]
      refine wpAnyH_take (i := 5) (v := undef) rfl (by kernel_rfl) (by kernel_rfl) (by kernel_rfl) (fun _ _ _ h => h) (Or.inr ⟨by rfl, rfl⟩) SD.out ?_
      change wpAnyH _ _ _ _ _ _ _ (Act.put _ (some 35) _) _
      simp only [Act.put, List.setIfInBounds_toArray, List.set_cons_zero, List.set_cons_succ]
      refine wpAnyH_take (i := 6) (v := undef) rfl (by kernel_rfl) (by kernel_rfl) (by kernel_rfl) (fun _ _ _ h => h) (Or.inr ⟨by rfl, rfl⟩) SD.out ?_
      change wpAnyH _ _ _ _ _ _ _ (Act.put _ (some 36) _) _
      simp only [Act.put, List.setIfInBounds_toArray, List.set_cons_zero, List.set_cons_succ]
      refine wpAnyH_take (i := 7) (v := undef) rfl (by kernel_rfl) (by kernel_rfl) (by kernel_rfl) (fun _ _ _ h => h) (Or.inr ⟨by rfl, rfl⟩) SD.out ?_
      change wpAnyH _ _ _ _ _ _ _ (Act.put _ (some 37) _) _
      simp only [Act.put, List.setIfInBounds_toArray, List.set_cons_zero, List.set_cons_succ]
      refine wpAnyH_take (i := 8) (v := undef) rfl (by kernel_rfl) (by kernel_rfl) (by kernel_rfl) (fun _ _ _ h => h) (Or.inr ⟨by rfl, rfl⟩) SD.out ?_
      change wpAnyH _ _ _ _ _ _ _ (Act.put _ (some 38) _) _
      simp only [Act.put, List.setIfInBounds_toArray, List.set_cons_zero, List.set_cons_succ]
      refine wpAnyH_take (i := 9) (v := undef) rfl (by kernel_rfl) (by kernel_rfl) (by kernel_rfl) (fun _ _ _ h => h) (Or.inr ⟨by rfl, rfl⟩) SD.out ?_
      change wpAnyH _ _ _ _ _ _ _ (Act.put _ (some 39) _) _
      simp only [Act.put, List.setIfInBounds_toArray, List.set_cons_zero, List.set_cons_succ]
      refine wpAnyH_take (i := 10) (v := undef) rfl (by kernel_rfl) (by kernel_rfl) (by kernel_rfl) (fun _ _ _ h => h) (Or.inr ⟨by rfl, rfl⟩) SD.out ?_
      change wpAnyH _ _ _ _ _ _ _ (Act.put _ (some 40) _) _
      simp only [Act.put, List.setIfInBounds_toArray, List.set_cons_zero, List.set_cons_succ]
      refine wpAnyH_take (i := 11) (v := undef) rfl (by kernel_rfl) (by kernel_rfl) (by kernel_rfl) (fun _ _ _ h => h) (Or.inr ⟨by rfl, rfl⟩) SD.out ?_
      change wpAnyH _ _ _ _ _ _ _ (Act.put _ (some 41) _) _
      simp only [Act.put, List.setIfInBounds_toArray, List.set_cons_zero, List.set_cons_succ]
      refine wpAnyH_take (i := 12) (v := undef) rfl (by kernel_rfl) (by kernel_rfl) (by kernel_rfl) (fun _ _ _ h => h) (Or.inr ⟨by rfl, rfl⟩) SD.out ?_
      change wpAnyH _ _ _ _ _ _ _ (Act.put _ (some 42) _) _
      simp only [Act.put, List.setIfInBounds_toArray, List.set_cons_zero, List.set_cons_succ]
      refine wpAnyH_take (i := 13) (v := undef) rfl (by kernel_rfl) (by kernel_rfl) (by kernel_rfl) (fun _ _ _ h => h) (Or.inr ⟨by rfl, rfl⟩) SD.out ?_
      change wpAnyH _ _ _ _ _ _ _ (Act.put _ (some 43) _) _
      simp only [Act.put, List.setIfInBounds_toArray, List.set_cons_zero, List.set_cons_succ]
      refine wpAnyH_take (i := 14) (v := undef) rfl (by kernel_rfl) (by kernel_rfl) (by kernel_rfl) (fun _ _ _ h => h) (Or.inr ⟨by rfl, rfl⟩) SD.out ?_
      change wpAnyH _ _ _ _ _ _ _ (Act.put _ (some 44) _) _
      simp only [Act.put, List.setIfInBounds_toArray, List.set_cons_zero, List.set_cons_succ]
      refine wpAnyH_take (i := 15) (v := undef) rfl (by kernel_rfl) (by kernel_rfl) (by kernel_rfl) (fun _ _ _ h => h) (Or.inr ⟨by rfl, rfl⟩) SD.out ?_
      change wpAnyH _ _ _ _ _ _ _ (Act.put _ (some 45) _) _
      simp only [Act.put, List.setIfInBounds_toArray, List.set_cons_zero, List.set_cons_succ]
      refine wpAnyH_take (i := 16) (v := undef) rfl (by kernel_rfl) (by kernel_rfl) (by kernel_rfl) (fun _ _ _ h => h) (Or.inr ⟨by rfl, rfl⟩) SD.out ?_
      change wpAnyH _ _ _ _ _ _ _ (Act.put _ (some 46) _) _
      simp only [Act.put, List.setIfInBounds_toArray, List.set_cons_zero, List.set_cons_succ]
      refine wpAnyH_take (i := 17) (v := undef) rfl (by kernel_rfl) (by kernel_rfl) (by kernel_rfl) (fun _ _ _ h => h) (Or.inr ⟨by rfl, rfl⟩) SD.out ?_
      change wpAnyH _ _ _ _ _ _ _ (Act.put _ (some 47) _) _
      simp only [Act.put, List.setIfInBounds_toArray, List.set_cons_zero, List.set_cons_succ]
      refine wpAnyH_take (i := 18) (v := .bool false) rfl (by kernel_rfl) (by kernel_rfl) (by kernel_rfl) (fun _ _ _ h => h) (Or.inl ⟨by rfl, fun w' hs => by go_simp⟩) SD.out ?_
      change wpAnyH _ _ _ _ _ _ _ (Act.put _ (some 48) _) _
      simp only [Act.put, List.setIfInBounds_toArray, List.set_cons_zero, List.set_cons_succ]
      refine wpAnyH_take (i := 19) (v := .bool false) rfl (by kernel_rfl) (by kernel_rfl) (by kernel_rfl) (fun _ _ _ h => h) (Or.inl ⟨by rfl, fun w' hs => by go_simp⟩) SD.out ?_
      change wpAnyH _ _ _ _ _ _ _ (Act.put _ (some 49) _) _
      simp only [Act.put, List.setIfInBounds_toArray, List.set_cons_zero, List.set_cons_succ]
      refine wpAnyH_take (i := 20) (v := undef) rfl (by kernel_rfl) (by kernel_rfl) (by kernel_rfl) (fun _ _ _ h => h) (Or.inr ⟨by rfl, rfl⟩) SD.out ?_
      change wpAnyH _ _ _ _ _ _ _ (Act.put _ (some 50) _) _
      simp only [Act.put, List.setIfInBounds_toArray, List.set_cons_zero, List.set_cons_succ]
      refine wpAnyH_take (i := 21) (v := undef) rfl (by kernel_rfl) (by kernel_rfl) (by kernel_rfl) (fun _ _ _ h => h) (Or.inr ⟨by rfl, rfl⟩) SD.out ?_
      change wpAnyH _ _ _ _ _ _ _ (Act.put _ (some 51) _) _
      simp only [Act.put, List.setIfInBounds_toArray, List.set_cons_zero, List.set_cons_succ]
      refine wpAnyH_take (i := 22) (v := undef) rfl (by kernel_rfl) (by kernel_rfl) (by kernel_rfl) (fun _ _ _ h => h) (Or.inr ⟨by rfl, rfl⟩) SD.out ?_
      change wpAnyH _ _ _ _ _ _ _ (Act.put _ (some 52) _) _
      simp only [Act.put, List.setIfInBounds_toArray, List.set_cons_zero, List.set_cons_succ]
      refine wpAnyH_take (i := 23) (v := .bool false) rfl (by kernel_rfl) (by kernel_rfl) (by kernel_rfl) (fun _ _ _ h => h) (Or.inl ⟨by rfl, fun w' hs => by go_simp⟩) SD.out ?_
      change wpAnyH _ _ _ _ _ _ _ (Act.put _ (some 53) _) _
      simp only [Act.put, List.setIfInBounds_toArray, List.set_cons_zero, List.set_cons_succ]
      refine wpAnyH_done (by kernel_rfl) ?_ _
      clear p7 p8
      have h0 := SD.out.cell 0 rfl
      have h1 := SD.out.cell 1 rfl
      have h2 := SD.out.cell 2 rfl
      have h3 := SD.out.cell 3 rfl
      go_wp2_with fail
      refine (fill_turn DD.out.src DD.out.qq HC.out ⟨x1, i, x3, 1 + x4⟩ DD.out.tn.size).mono ?_
      rintro e u9 ⟨v9, rfl, q9, t9, s9⟩
      have D9 : Hid (Dz w u9 b (kk + 1 + 1 + 1 + 1) a len cap zs (v9) (fillQ rs ⟨x1, i, x3, 1 + x4⟩)) := (DD.out.turn t9 s9).put q9
      have OK9 : Hid (cfV (fillQ rs ⟨x1, i, x3, 1 + x4⟩) = 0) := (fill_ok HC.out okN.out).1
      clear q9 t9 s9 h0 h1 h2 h3
      go_wp2_with fail
      go_roundw
      case rel => exact ⟨j - 1, _, _, by have := HLT.out; have e : ((j - 1 : Nat) : Int) = (j : Int) - 1 := (by omega); rw [e], by have := HJ.out; omega, OK9.out, by have := HKK.out; have := HLT.out; omega, D9.out⟩
      case measure => have := HLT.out; simp [intOf]; omega
    · have hI : ¬ (0 : Int) < (j : Int) := by omega
      have L12 : Hid (rs.length ≤ 12) := (cfV_apart HC.out).2
      clear hlt
      by_cases hz : un = 0
      · subst hz
        go_wp2_with fail
        go_ret
        first
          | exact ⟨_, _, rs, rfl, by have := L12.out; omega, DB.out.qq, DB.out.tn, by have := HKK.out; omega, DB.out.src⟩
          | exact ⟨_, rfl, _, rs, by have := L12.out; omega, DB.out.qq, DB.out.tn, by have := HKK.out; omega, DB.out.src⟩
      obtain ⟨y1, rfl⟩ := HYA.out (by omega)
      obtain ⟨q, r, rfl⟩ : ∃ q r, rs = q :: r := by
        cases rs with
        | nil => have := LR.out; simp at this; omega
        | cons q r => exact ⟨q, r, rfl⟩
      have LR1 : Hid (un = r.length + 1) := by have := LR.out; simp at this; show _ = _; omega
      have hz2 : 0 < un := by omega
      have hz3 : (0 : Int) < (un : Int) := by omega
      have hz4 : ¬ (un : Int) = 0 := by omega
      clear hz HYA
      go_wp2_with fail
      refine (next_any DB.out.src (by have := HK.out; have := HKK.out; omega) _).mono ?_
      rintro e u1 ⟨x, rfl, hx, -, t1, s1⟩
      have D1 : Hid (Dz w u1 b (kk + 1) a len cap zs (.slice (some ⟨y1, 0, none⟩) un yc) (q :: r)) := DB.out.turn t1 s1
      clear t1 s1 hx DB
      have LR2 : Hid (r.length ≤ 11) := by have := L12.out; simp at this; show _ ≤ _; omega
      by_cases x0 : x = 0
      · subst x0
        have D2 : Hid (Dz w (u1.alloc (.cells #[.int .i64 (-1), .int .i64 10] 2)) b (kk + 1) a len cap zs (.slice (some ⟨y1, 0, none⟩) un yc) (q :: r)) := D1.out.new _
        go_wp2_with fail
        refine (pick_any D2.out.src (by have := HK.out; have := HKK.out; omega) (fun _ => True) _ 2 (by decide) (by decide) (by simp) (by have := D1.out.src.here; omega) (lits2 _ _ _ _)).mono ?_
        rintro e u2 ⟨z, rfl, -, t1, s1⟩
        have D3 : Hid (Dz w u2 b (kk + 1 + 1) a len cap zs (.slice (some ⟨y1, 0, none⟩) un yc) (q :: r)) := D2.out.turn t1 s1
        clear t1 s1
        have cc : u2.cell? ⟨y1, 0, none⟩ = some (.int .i64 q.tag) := by have := (D3.out.qq.cell (by have := LR1.out; simp; omega) 0 hz2).1; simpa using this
        have ff : u2.frozen? ⟨y1, 0, none⟩ = false := World.ownsRow.frozenAt (by have h := D3.out.qq; rw [LR1.out] at h; exact h) 0
        go_wp2_with fail
        go_ret
        have hy := D3.out.qq.lt y1 rfl
        refine ⟨_, kk + 1 + 1, _, rfl, by have := LR2.out; simp; omega, D3.out.qq.set0 LR1.out z, ?_, by have := HKK.out; omega, ?_⟩
        · exact turnq_put D3.out.tn _ _ hy.1
        · exact srcq_put D3.out.src _ _ (by have := D3.out.hB; show b < y1; omega)
      by_cases x1 : x = 1
      · subst x1
        have D2 : Hid (Dz w (u1.alloc (.cells #[.int .i64 0, .int .i64 8] 2)) b (kk + 1) a len cap zs (.slice (some ⟨y1, 0, none⟩) un yc) (q :: r)) := D1.out.new _
        go_wp2_with fail
        refine (pick_any D2.out.src (by have := HK.out; have := HKK.out; omega) (fun _ => True) _ 2 (by decide) (by decide) (by simp) (by have := D1.out.src.here; omega) (lits2 _ _ _ _)).mono ?_
        rintro e u2 ⟨z, rfl, -, t1, s1⟩
        have D3 : Hid (Dz w u2 b (kk + 1 + 1) a len cap zs (.slice (some ⟨y1, 0, none⟩) un yc) (q :: r)) := D2.out.turn t1 s1
        clear t1 s1
        have cc : u2.cell? ⟨y1, 3, none⟩ = some (.int .i64 q.kinds) := by have := (D3.out.qq.cell (by have := LR1.out; simp; omega) 0 hz2).2.2.2; simpa using this
        have ff : u2.frozen? ⟨y1, 3, none⟩ = false := World.ownsRow.frozenAt (by have h := D3.out.qq; rw [LR1.out] at h; exact h) 3
        go_wp2_with fail
        go_ret
        have hy := D3.out.qq.lt y1 rfl
        refine ⟨_, kk + 1 + 1, _, rfl, by have := LR2.out; simp; omega, D3.out.qq.set3 LR1.out z, ?_, by have := HKK.out; omega, ?_⟩
        · exact turnq_put D3.out.tn _ _ hy.1
        · exact srcq_put D3.out.src _ _ (by have := D3.out.hB; show b < y1; omega)
      by_cases x2 : x = 2
      · subst x2
        have cs := D1.out.qq.cell (by have := LR1.out; simp; omega) 0 hz2
        have h0 : u1.cell? ⟨y1, 0, none⟩ = some (.int .i64 q.tag) := by simpa using cs.1
        have h1 : u1.cell? ⟨y1, 1, none⟩ = some (.int .i64 q.page) := by simpa using cs.2.1
        have h2 : u1.cell? ⟨y1, 2, none⟩ = some (.int .i64 q.to) := by simpa using cs.2.2.1
        have h3 : u1.cell? ⟨y1, 3, none⟩ = some (.int .i64 q.kinds) := by simpa using cs.2.2.2
        clear cs
        go_wp2_with (at_builtin; refine wp_quad 24 65 Try.underlying24 info_hit _ rfl _ _ rfl w.heap.size _ (q :: r) rfl (D1.out.qq.keep (al (Below.refl _ _) _)) u1.heap.size q rfl (cell_new rfl) (cell_new rfl) (cell_new rfl) (cell_new rfl) (by have := LR2.out; simp; omega) (by have := D1.out.tn.size; simp; omega) ?_; intro v' w' hN' hG'; have NN : Hid (Qs 65 w' w.heap.size v' (q :: r ++ [q])) := hN'; have OW : ∀ k, (Value.slice (some ⟨y1, 0, none⟩) un yc).ownBlock = some k → w.heap.size ≤ k := (fun k e => (D1.out.qq.lt k e).1); have TT : Hid (Turn b w w') := turnq_grown (D1.out.new _).tn hG' OW; have SS : Hid (Src w' b (kk + 1) a len cap zs) := srcq_grown (D1.out.new _).src hG' (fun k e => by have := OW k e; have := D1.out.hB; omega); clear hN' hG' OW)
        go_ret
        first
          | exact ⟨_, kk + 1, _, rfl, by have := LR2.out; simp; omega, NN.out, TT.out, by have := HKK.out; omega, SS.out⟩
          | exact ⟨_, rfl, kk + 1, _, by have := LR2.out; simp; omega, NN.out, TT.out, by have := HKK.out; omega, SS.out⟩
      by_cases x3 : x = 3
      · subst x3
        obtain ⟨ti, hi, hz0, hz1, hz2⟩ := info_parts info_hit
        go_wp2_with (at_make; refine wpList_make_full _ rfl _ _ 24 rfl u1.heap.size 65 ti _ 4 Try.underlying24 hi hz0 hz1 _ _ _ _ 13 rfl rfl rfl rfl (by rw [hz2]; omega) (by unfold maxLen; omega) (Nat.le_refl _) ?_; intro p8 hown hgrow; have bl : Below u1.heap.size u1 p8 := (Below.refl _ _).grown hgrow (Nat.le_refl _) (by simp); have HOW : Hid (_) := hown; have D2 : Hid (Dz w p8 b (kk + 1) a len cap zs _ _) := D1.out.turn (Turn.of_below bl) (D1.out.src.turn (Turn.of_below (b := u1.heap.size) bl) (Nat.le_refl _)); clear hown hgrow)
        go_ret
        have NO : Qs 65 p8 u1.heap.size (.slice (some ⟨u1.heap.size, 0, none⟩) 13 13) (List.replicate 13 qz) := by
          have e13 : (madeCells qz.val.cells (13 * 4)).toList = flat4 (List.replicate 13 qz) := by kernel_rfl
          have h := HOW.out
          rw [e13] at h
          exact h
        first
          | exact ⟨_, kk + 1, _, rfl, by simp, NO.mono D1.out.tn.size, D2.out.tn, by have := HKK.out; omega, D2.out.src⟩
          | exact ⟨_, rfl, kk + 1, _, by simp, NO.mono D1.out.tn.size, D2.out.tn, by have := HKK.out; omega, D2.out.src⟩
      go_wp2_with fail
      go_ret
      first
        | exact ⟨_, _, _, rfl, by have := L12.out; omega, D1.out.qq, D1.out.tn, by have := HKK.out; omega, D1.out.src⟩
        | exact ⟨_, rfl, _, _, by have := L12.out; omega, D1.out.qq, D1.out.tn, by have := HKK.out; omega, D1.out.src⟩


theorem lits6 (w : World) (x0 x1 x2 x3 x4 x5 : Int) (t : TypeId) : ∀ i, i < 6 → ∃ v : Int, (w.alloc (.cells #[.int .i64 x0, .int .i64 x1, .int .i64 x2, .int .i64 x3, .int .i64 x4, .int .i64 x5] t)).cell? ⟨w.heap.size, i, none⟩ = some (.int .i64 v) ∧ True := by
  intro i hi
  have e : i = 0 ∨ i = 1 ∨ i = 2 ∨ i = 3 ∨ i = 4 ∨ i = 5 := by omega
  rcases e with rfl | rfl | rfl | rfl | rfl | rfl
  · exact ⟨x0, cell_new rfl, trivial⟩
  · exact ⟨x1, cell_new rfl, trivial⟩
  · exact ⟨x2, cell_new rfl, trivial⟩
  · exact ⟨x3, cell_new rfl, trivial⟩
  · exact ⟨x4, cell_new rfl, trivial⟩
  · exact ⟨x5, cell_new rfl, trivial⟩
theorem lits5x (w : World) (x0 x1 x2 x3 x4 : Int) (t : TypeId) (P : Int → Prop) (h : P x0 ∧ P x1 ∧ P x2 ∧ P x3 ∧ P x4) : ∀ i, i < 5 → ∃ v : Int, (w.alloc (.cells #[.int .i64 x0, .int .i64 x1, .int .i64 x2, .int .i64 x3, .int .i64 x4] t)).cell? ⟨w.heap.size, i, none⟩ = some (.int .i64 v) ∧ P v := by
  intro i hi
  have e : i = 0 ∨ i = 1 ∨ i = 2 ∨ i = 3 ∨ i = 4 := by omega
  rcases e with rfl | rfl | rfl | rfl | rfl
  · exact ⟨x0, cell_new rfl, h.1⟩
  · exact ⟨x1, cell_new rfl, h.2.1⟩
  · exact ⟨x2, cell_new rfl, h.2.2.1⟩
  · exact ⟨x3, cell_new rfl, h.2.2.2.1⟩
  · exact ⟨x4, cell_new rfl, h.2.2.2.2⟩
theorem place_any {w : World} {b k : Nat} {a : Option Addr} {len cap : Nat} {zs : List Int} (s : Src w b k a len cap zs) (hk : k ≤ 90000) :
    Calls Try.prog 17 #[.pointer (some ⟨b, 0, none⟩)] w fun e w' => ∃ (v : Int) (k' : Nat), e = .returned (.int .i64 v) ∧ k' ≤ k + 4 ∧ Turn b w w' ∧ Src w' b k' a len cap zs := by
  have HS : Hid (Src w b k a len cap zs) := s
  have HK : Hid (k ≤ 90000) := hk
  clear s hk
  go_enter Try.func17, Try.ntmps17
  go_wp2_with fail
  refine (next_any HS.out (by have := HK.out; omega) _).mono ?_
  rintro e w1 ⟨v1, rfl, -, -, t1, s1⟩
  have S1 : Hid (Turn b w w1 ∧ Src w1 b (k + 1) a len cap zs) := ⟨t1, s1⟩
  clear t1 s1 HS
  go_wp2_with fail
  refine (next_any S1.out.2 (by have := HK.out; omega) _).mono ?_
  rintro e w2 ⟨v2, rfl, -, -, t1, s1⟩
  have S2 : Hid (Turn b w w2 ∧ Src w2 b (k + 1 + 1) a len cap zs) := ⟨S1.out.1.trans t1, s1⟩
  clear t1 s1 S1
  go_wp2_with fail
  refine (next_any S2.out.2 (by have := HK.out; omega) _).mono ?_
  rintro e w3 ⟨v3, rfl, -, -, t1, s1⟩
  have S3 : Hid (Turn b w w3 ∧ Src w3 b (k + 1 + 1 + 1) a len cap zs) := ⟨S2.out.1.trans t1, s1⟩
  clear t1 s1 S2
  go_wp2_with fail
  refine (pick_any (S3.out.2.alloc _) (by have := HK.out; omega) (fun _ => True) _ 6 (by decide) (by decide) (by simp) (by have := S3.out.2.here; omega) (lits6 _ _ _ _ _ _ _ _)).mono ?_
  rintro e w4 ⟨v4, rfl, -, t1, s1⟩
  have S4 : Hid (Turn b w w4 ∧ Src w4 b (k + 1 + 1 + 1 + 1) a len cap zs) := ⟨(S3.out.1.trans (Turn.alloc _ _ _)).trans t1, s1⟩
  clear t1 s1 S3
  go_wp2_with fail
  go_ret
  first
    | exact ⟨_, _, rfl, Nat.le_refl _, S4.out.1, S4.out.2⟩
    | exact ⟨_, rfl, _, Nat.le_refl _, S4.out.1, S4.out.2⟩
theorem drawKind_any {w : World} {b k : Nat} {a : Option Addr} {len cap : Nat} {zs : List Int} (s : Src w b k a len cap zs) (hk : k ≤ 90000) :
    Calls Try.prog 19 #[.pointer (some ⟨b, 0, none⟩)] w fun e w' => ∃ (v : Int), e = .returned (.int .i64 v) ∧ Turn b w w' ∧ Src w' b (k + 1) a len cap zs := by
  have HS : Hid (Src w b k a len cap zs) := s
  have HK : Hid (k ≤ 90000) := hk
  clear s hk
  go_enter Try.func19, Try.ntmps19
  go_wp2_with fail
  refine (pick_any (HS.out.alloc _) (by have := HK.out; omega) (fun _ => True) _ 6 (by decide) (by decide) (by simp) (by have := HS.out.here; omega) (lits6 _ _ _ _ _ _ _ _)).mono ?_
  rintro e w4 ⟨v4, rfl, -, t1, s1⟩
  have S4 : Hid (Turn b w w4 ∧ Src w4 b (k + 1) a len cap zs) := ⟨(Turn.alloc _ _ _).trans t1, s1⟩
  clear t1 s1
  go_wp2_with fail
  go_ret
  first
    | exact ⟨_, rfl, S4.out.1, S4.out.2⟩
    | exact ⟨rfl, S4.out.1, S4.out.2⟩

/-- Tag, list and cache as they are drawn for a walk. -/
structure Dw (w0 v : World) (b k : Nat) (a : Option Addr) (len cap : Nat) (zs : List Int) (p : Value) (y : Value) (rs : List Qd) : Prop where
  src : Src v b k a len cap zs
  pp : Drawn v (b + 1) p
  qq : Qs 65 v (b + 1) y rs
  g : Below w0.heap.size w0 v
  hb : w0.heap.size = b
theorem Dw.turn {w0 v v' : World} {b k k' : Nat} {a : Option Addr} {len cap : Nat} {zs : List Int} {p y : Value} {rs : List Qd} (h : Dw w0 v b k a len cap zs p y rs) (t : Turn b v v') (s : Src v' b k' a len cap zs) : Dw w0 v' b k' a len cap zs p y rs :=
  ⟨s, h.pp.turn t (by omega), h.qq.turn t (by omega), h.g.trans (t.below (by have := h.hb; omega) h.g.size), h.hb⟩
theorem cache_drawn {w : World} {b k : Nat} {a : Option Addr} {len cap : Nat} {zs : List Int} (s : Src w b k a len cap zs) (hk : k ≤ 80000) {p : Value} (hP : Drawn w (b + 1) p) :
    Calls Try.prog 16 #[.pointer (some ⟨b, 0, none⟩), p] w fun e w' => ∃ (v : Value) (k' : Nat) (rs : List Qd), e = .returned v ∧ rs.length ≤ 13 ∧ Qs 65 w' w.heap.size v rs ∧ Turn b w w' ∧ k' ≤ k + 100 ∧ Src w' b k' a len cap zs := by
  rcases hP with ⟨ps, h, hl⟩ | ⟨la, lc, rfl⟩
  · obtain ⟨pa, lc, hv, _, _, hg⟩ := h.shape
    obtain ⟨g, rfl⟩ := hg (by omega)
    rw [hl] at hv
    subst hv
    exact cache_any s hk h hl (by omega)
  · exact cache_any7 s hk la lc

set_option maxRecDepth 20000 in
set_option maxHeartbeats 4000000 in
theorem drawWalk {w : World} {a : Option Addr} {len cap : Nat} {zs : List Int} (hr : IsRow .u8 w a len cap zs) :
    Calls Try.prog 5 #[.slice a len cap] w fun e w' => ∃ v rs t p x k, e = .returned (.tuple #[v, .int .i64 t, p, .int .i64 x, .int .i64 k]) ∧ (0 ≤ t ∧ t ≤ 10) ∧ rs.length ≤ 13 ∧ Qs 65 w' w.heap.size v rs ∧ Drawn w' w.heap.size p ∧ Below w.heap.size w w' := by
  have RW : Hid (IsRow .u8 w a len cap zs) := hr
  clear hr
  go_enter Try.func5, Try.ntmps5
  go_wp2_with fail
  refine (source_any RW.out).mono ?_
  rintro e w1 ⟨rfl, b1, s1⟩
  obtain ⟨b, hb⟩ : ∃ b, w.heap.size = b := ⟨_, rfl⟩
  have HB : Hid (w.heap.size = b) := hb
  have B1 : Hid (Below w.heap.size w w1) := b1
  rw [hb] at s1 ⊢
  have S1 : Hid (Src w1 b 0 a len cap zs) := s1
  clear s1 b1 hb RW
  go_wp2_with fail
  refine (bent_any S1.out (by decide) 24).mono ?_
  rintro e w2 ⟨p, k2, rfl, p2, hk2, t2, s2⟩
  have P2 : Hid (Drawn w2 (b + 1) p) := p2.mono (by have := S1.out.here; omega)
  have S2 : Hid (Src w2 b k2 a len cap zs ∧ k2 ≤ 30) := ⟨s2, by omega⟩
  have B2 : Hid (Below w.heap.size w w2) := B1.out.trans (t2.below (by have := HB.out; omega) B1.out.size)
  obtain ⟨pa, pn, pc, hpv⟩ := P2.out.shape
  subst hpv
  clear p2 hk2 t2 s2 S1 B1
  go_wp2_with fail
  refine (cache_drawn S2.out.1 (by have := S2.out.2; omega) P2.out).mono ?_
  rintro e w3 ⟨y, k3, rs, rfl, hl3, q3, t3, hk3, s3⟩
  have K3 : Hid (k3 ≤ 130 ∧ rs.length ≤ 13) := ⟨by have := S2.out.2; omega, hl3⟩
  have D3 : Hid (Dw w w3 b k3 a len cap zs (.slice pa pn pc) y rs) := ⟨s3, P2.out.turn t3 (by omega), q3.mono (by have := S2.out.1.here; omega), B2.out.trans (t3.below (by have := HB.out; omega) B2.out.size), HB.out⟩
  obtain ⟨ya, yc, hyv, _⟩ := q3.shape
  obtain ⟨yn, hyn⟩ : ∃ yn, rs.length = yn := ⟨_, rfl⟩
  rw [hyn] at hyv
  subst hyv
  clear hl3 q3 t3 hk3 s3 P2 S2 B2 hyn
  go_wp2_with fail
  refine (place_any D3.out.src (by have := K3.out; omega)).mono ?_
  rintro e w4 ⟨x, k4, rfl, hk4, t4, s4⟩
  have D4 : Hid (Dw w w4 b k4 a len cap zs (.slice pa pn pc) (.slice ya yn yc) rs) := D3.out.turn t4 s4
  have K4 : Hid (k4 ≤ 140) := by have := K3.out; show _ ≤ _; omega
  clear t4 s4 hk4 D3
  have D5 : Hid (Dw w (w4.alloc (.cells #[.int .i64 0, .int .i64 1, .int .i64 2, .int .i64 0, .int .i64 10] 2)) b k4 a len cap zs (.slice pa pn pc) (.slice ya yn yc) rs) := D4.out.turn (Turn.alloc _ _ _) (D4.out.src.alloc _)
  go_wp2_with fail
  refine (pick_any D5.out.src (by have := K4.out; omega) (fun v => 0 ≤ v ∧ v ≤ 10) _ 5 (by decide) (by decide) (by simp) (by have := D4.out.src.here; omega) (lits5x _ _ _ _ _ _ _ _ (by decide))).mono ?_
  rintro e w5 ⟨t, rfl, ht, t5, s5⟩
  have D6 : Hid (Dw w w5 b (k4 + 1) a len cap zs (.slice pa pn pc) (.slice ya yn yc) rs) := D5.out.turn t5 s5
  have HT : Hid (0 ≤ t ∧ t ≤ 10) := ht
  clear t5 s5 ht D5 D4
  go_wp2_with fail
  refine (drawKind_any D6.out.src (by have := K4.out; omega)).mono ?_
  rintro e w6 ⟨k, rfl, t6, s6⟩
  have D7 : Hid (Dw w w6 b (k4 + 1 + 1) a len cap zs (.slice pa pn pc) (.slice ya yn yc) rs) := D6.out.turn t6 s6
  clear t6 s6 D6
  go_wp2_with fail
  have hle : w.heap.size ≤ b + 1 := by have := HB.out; omega
  exact bodyPost_ret (v := .tuple #[.slice ya yn yc, .int .i64 t, .slice pa pn pc, .int .i64 x, .int .i64 k]) (by simp [results, Try.results5, go_sem]) rfl ⟨.slice ya yn yc, rs, t, .slice pa pn pc, x, k, rfl, HT.out, K3.out.2, D7.out.qq.mono hle, D7.out.pp.mono hle, D7.out.g⟩
end Go.Proofs.Ytaajaikpkcgalaa
