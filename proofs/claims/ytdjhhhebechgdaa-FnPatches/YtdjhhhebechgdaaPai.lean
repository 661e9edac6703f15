/- An image is patched, by the program. -/
import Derived.Test.YtdjhhhebechgdaaHwo
import Derived.Laws.AppendOwnNone
import Derived.Laws.CopyOwn
import Derived.OwnWalk
import Derived.Deep.RegionLaw
import Derived.Deep.Cut
namespace Go.Proofs.Ytdjhhhebechgdaa
open Go.RowKit
set_option linter.unusedVariables false

/-- What PatchImage answers: its code, and the words. -/
def paC (zs : List Int) (at_ : Int) (ys : List Int) : Int :=
  if at_ < 0 ∨ (zs.length : Int) < at_ then 3 else if 80 < zs.length ∨ 80 < at_.toNat + ys.length then 2 else if (zs.all isW && ys.all isW) = false then 3 else 0
def paZ (zs : List Int) (at_ : Int) (ys : List Int) : List Int :=
  if paC zs at_ ys = 0 then zs.take at_.toNat ++ ys ++ zs.drop (at_.toNat + ys.length) else []
theorem paZ_bad {zs : List Int} {at_ : Int} {ys : List Int} (h : paC zs at_ ys ≠ 0) : paZ zs at_ ys = [] := by rw [paZ, if_neg h]
theorem paC_ok {zs : List Int} {at_ : Int} {ys : List Int} (h : paC zs at_ ys = 0) : 0 ≤ at_ ∧ at_ ≤ zs.length ∧ zs.length ≤ 80 ∧ at_.toNat + ys.length ≤ 80 := by
  unfold paC at h
  by_cases h1 : at_ < 0 ∨ (zs.length : Int) < at_
  · rw [if_pos h1] at h; cases h
  rw [if_neg h1] at h
  by_cases h2 : 80 < zs.length ∨ 80 < at_.toNat + ys.length
  · rw [if_pos h2] at h; cases h
  omega
theorem paZ_len (zs : List Int) (at_ : Int) (ys : List Int) : (paZ zs at_ ys).length ≤ 192 := by
  by_cases h : paC zs at_ ys = 0
  · have := paC_ok h
    rw [paZ, if_pos h]
    simp
    omega
  · rw [paZ, if_neg h]; simp
theorem pa_splice (zs ys : List Int) (k n : Nat) (hk : k ≤ zs.length) (hn : n = max zs.length (k + ys.length)) :
    splice (zs ++ List.replicate (n - zs.length) 0) k ys = zs.take k ++ ys ++ zs.drop (k + ys.length) := by
  subst hn
  unfold splice
  rw [List.take_append_of_le_length hk, ← List.append_assoc]
  congr 1
  by_cases h : k + ys.length ≤ zs.length
  · rw [show max zs.length (k + ys.length) - zs.length = 0 by omega]; simp
  · rw [List.drop_eq_nil_of_le (by simp; omega), List.drop_eq_nil_of_le (by omega)]

theorem rn_copy {w : World} {a : Option Addr} {n cap : Nat} {zs : List Int} (h : Rn w a n cap zs) (hp : 0 < (zs.map (Value.int .i64)).length) : ∃ ad, a = some ad ∧ ∀ j v, (zs.map (Value.int .i64))[j]? = some v → w.cell? (ad.add j) = some v := by
  have hl := h.len
  obtain ⟨x, rfl, _⟩ := h.at 0 (by simp at hp; omega)
  refine ⟨x, rfl, fun j v hv => ?_⟩
  have hj : j < zs.length := by have := (List.getElem?_eq_some_iff.1 hv).1; simpa using this
  obtain ⟨y, e, c⟩ := h.at j (by omega)
  cases e
  rw [c, List.getD, List.getElem?_eq_getElem hj]
  rw [List.getElem?_map, List.getElem?_eq_getElem hj] at hv
  exact hv
theorem one_map (zs : List Int) : ∀ v ∈ zs.map (Value.int .i64), v.oneCell' = true := by
  intro v hv
  obtain ⟨z, _, rfl⟩ := List.mem_map.1 hv
  rfl
theorem nums_heap {w : World} {base g n cap : Nat} {zs : List Int} (h : w.heap[g]? = some (.cells (zs.map (Value.int .i64)).toArray 2 (0, 0))) (hb : base ≤ g) (hn : n = zs.length) (hc : cap = n) (hm : n ≤ maxLen) : Nums w base (.slice (some ⟨g, 0, none⟩) n cap) zs := by
  subst hn hc
  exact ⟨by simp, .inr ⟨g, _, _, rfl, hb, h, Nat.le_refl _, hm, by simp, by rw [List.take_of_length_le (by simp)]⟩⟩

theorem pa_max (n k m s : Nat) (hs : s = max n (k + m)) : (if (n : Int) < (k : Int) + m then (k : Int) + m else (n : Int)) = (s : Int) := by
  subst hs; split <;> omega
set_option maxHeartbeats 1000000 in
theorem ip_zs (a a' : Option Addr) (n cap m cap' k s : Nat) (zs : List Int) (w : World) (h : Rn w a n cap zs) (e1 : zs.all isW = false) (hk : k ≤ n) (hs : s = max n (k + m)) (hx : s ≤ 80) :
    Calls Try.prog 6 #[.slice a n cap, .int .i64 k, .slice a' m cap'] w fun e w' => e = .returned (.agg #[.int .i64 3, .int .i64 0, .slice none 0 0]) ∧ Below w.heap.size w w' := by
  have RZ : Hid (Rn w a n cap zs) := h
  have d1 : decide ((k : Int) < 0) = false := decide_eq_false (by omega)
  have d2 : decide ((n : Int) < k) = false := decide_eq_false (by omega)
  have hsI : (k : Int) + m ≤ 9223372036854775807 := by omega
  have hxI : (s : Int) ≤ 80 := by omega
  have hmx := pa_max n k m s hs
  have hw : ∀ w, Rn w a n cap zs → Calls Try.prog 13 #[.slice a n cap] w fun e w' => e = .returned (.bool false) ∧ w' = w := fun w h => by have := i_words a _ cap zs w h; rw [e1] at this; exact this
  clear h e1 hs hx
  go_enter Try.func6, Try.ntmps6
  go_wp2_with (go_at_call 13; refine (hw _ (RZ.out.stay (al (Below.refl _ _) _))).mono ?_; rintro e x ⟨rfl, rfl⟩)
  exact bodyPost_ret (v := .agg #[.int .i64 3, .int .i64 0, .slice none 0 0]) (by simp [results, Try.results6, go_sem]) rfl ⟨rfl, al (Below.refl _ _) _⟩
set_option maxHeartbeats 1000000 in
theorem ip_ys (a a' : Option Addr) (n cap m cap' k s : Nat) (zs ys : List Int) (w : World) (h : Rn w a n cap zs) (h' : Rn w a' m cap' ys) (e1 : zs.all isW = true) (e2 : ys.all isW = false) (hk : k ≤ n) (hs : s = max n (k + m)) (hx : s ≤ 80) :
    Calls Try.prog 6 #[.slice a n cap, .int .i64 k, .slice a' m cap'] w fun e w' => e = .returned (.agg #[.int .i64 3, .int .i64 0, .slice none 0 0]) ∧ Below w.heap.size w w' := by
  have RZ : Hid (Rn w a n cap zs) := h
  have RY : Hid (Rn w a' m cap' ys) := h'
  have d1 : decide ((k : Int) < 0) = false := decide_eq_false (by omega)
  have d2 : decide ((n : Int) < k) = false := decide_eq_false (by omega)
  have hsI : (k : Int) + m ≤ 9223372036854775807 := by omega
  have hxI : (s : Int) ≤ 80 := by omega
  have hmx := pa_max n k m s hs
  have hw : ∀ w, Rn w a n cap zs → Calls Try.prog 13 #[.slice a n cap] w fun e w' => e = .returned (.bool true) ∧ w' = w := fun w h => by have := i_words a _ cap zs w h; rw [e1] at this; exact this
  have hw2 : ∀ w, Rn w a' m cap' ys → Calls Try.prog 13 #[.slice a' m cap'] w fun e w' => e = .returned (.bool false) ∧ w' = w := fun w h => by have := i_words a' _ cap' ys w h; rw [e2] at this; exact this
  clear h h' e1 e2 hs hx
  go_enter Try.func6, Try.ntmps6
  go_wp2_with fail
  refine (hw _ (RZ.out.stay (al (Below.refl _ _) _))).mono ?_
  rintro e x ⟨rfl, rfl⟩
  go_wp2_with fail
  refine (hw2 _ (RY.out.stay (al (Below.refl _ _) _))).mono ?_
  rintro e x ⟨rfl, rfl⟩
  go_wp2_with fail
  exact bodyPost_ret (v := .agg #[.int .i64 3, .int .i64 0, .slice none 0 0]) (by simp [results, Try.results6, go_sem]) rfl ⟨rfl, al (Below.refl _ _) _⟩
theorem made_i64 (s : Nat) : (madeCells #[Value.int .i64 0] (s * 1)).toList = List.replicate s (Value.int .i64 0) := by
  rw [Nat.mul_one]
  apply List.ext_getElem?
  intro j
  by_cases hj : j < s
  · have : j % 1 = 0 := Nat.mod_one _
    simp [madeCells, hj, this]
  · simp [madeCells, hj]
theorem own_heap {w : World} {base g n : Nat} {xs : List Value} {t : TypeId} (h : w.ownsRow base t 1 (.slice (some ⟨g, 0, none⟩) n n) n xs) : w.heap[g]? = some (.cells xs.toArray t (0, 0)) ∧ base ≤ g := by
  obtain ⟨h1, ⟨h2, h3⟩ | ⟨g', cap, cur, hv, hb, hh, h4, h5, h6, h7⟩⟩ := h
  · simp at h2
  · simp at hv
    obtain ⟨rfl, rfl⟩ := hv
    rw [List.take_of_length_le (by simp [h6])] at h7
    exact ⟨by rw [hh, ← h7], hb⟩
set_option maxHeartbeats 1000000 in
theorem ip_good (a a' : Option Addr) (n cap m cap' k s : Nat) (zs ys : List Int) (w : World) (h : Rn w a n cap zs) (h' : Rn w a' m cap' ys) (e1 : zs.all isW = true) (e2 : ys.all isW = true) (hk : k ≤ n) (hs : s = max n (k + m)) (hx : s ≤ 80) :
    Calls Try.prog 6 #[.slice a n cap, .int .i64 k, .slice a' m cap'] w fun e w' => ∃ r, e = .returned (.agg #[.int .i64 0, .int .i64 0, r]) ∧ Nums w' w.heap.size r (zs.take k ++ ys ++ zs.drop (k + ys.length)) ∧ Below w.heap.size w w' := by
  have RZ : Hid (Rn w a n cap zs) := h
  have RY : Hid (Rn w a' m cap' ys) := h'
  have hn := h.len
  have hm := h'.len
  have d1 : decide ((k : Int) < 0) = false := decide_eq_false (by omega)
  have d2 : decide ((n : Int) < k) = false := decide_eq_false (by omega)
  have hsI : (k : Int) + m ≤ 9223372036854775807 := by omega
  have hxI : (s : Int) ≤ 80 := by omega
  have hmx := pa_max n k m s hs
  have hw : ∀ w, Rn w a n cap zs → Calls Try.prog 13 #[.slice a n cap] w fun e w' => e = .returned (.bool true) ∧ w' = w := fun w h => by have := i_words a _ cap zs w h; rw [e1] at this; exact this
  have hw2 : ∀ w, Rn w a' m cap' ys → Calls Try.prog 13 #[.slice a' m cap'] w fun e w' => e = .returned (.bool true) ∧ w' = w := fun w h => by have := i_words a' _ cap' ys w h; rw [e2] at this; exact this
  obtain ⟨i, hi, hz0, hz1, hz2⟩ := info_parts info_i64
  have hsp := pa_splice zs ys k s (by omega) (by rw [← hn, ← hm]; exact hs)
  have S1 : Hid (splice (List.replicate s (Value.int .i64 0)) 0 (zs.map (Value.int .i64)) = (zs ++ List.replicate (s - zs.length) 0).map (Value.int .i64)) := by
    show _ = _
    simp [splice]
  have S2 : Hid (splice ((zs ++ List.replicate (s - zs.length) 0).map (Value.int .i64)) k (ys.map (Value.int .i64)) = (zs.take k ++ ys ++ zs.drop (k + ys.length)).map (Value.int .i64)) := by
    show _ = _
    rw [← hsp]
    simp [splice]
  have L1 : Hid ((zs.map (Value.int .i64)).length = n) := by show _ = _; simp [hn]
  have L2 : Hid ((ys.map (Value.int .i64)).length = m) := by show _ = _; simp [hm]
  have L3 : Hid (((zs ++ List.replicate (s - zs.length) 0).map (Value.int .i64)).length = s) := by show _ = _; simp; omega
  have L4 : Hid (s = (zs.take k ++ ys ++ zs.drop (k + ys.length)).length) := by show _ = _; simp; omega
  have C1 : Hid (∀ w, Rn w a n cap zs → 0 < (zs.map (Value.int .i64)).length → ∃ ad, a = some ad ∧ ∀ j v, (zs.map (Value.int .i64))[j]? = some v → w.cell? (ad.add j) = some v) := fun w h => rn_copy h
  have C2 : Hid (∀ w, Rn w a' m cap' ys → 0 < (ys.map (Value.int .i64)).length → ∃ ad, a' = some ad ∧ ∀ j v, (ys.map (Value.int .i64))[j]? = some v → w.cell? (ad.add j) = some v) := fun w h => rn_copy h
  have O1 : Hid (∀ v ∈ zs.map (Value.int .i64), v.oneCell' = true) := one_map zs
  have O2 : Hid (∀ v ∈ ys.map (Value.int .i64), v.oneCell' = true) := one_map ys
  have HS : Hid (s = max n (k + m) ∧ s ≤ 80 ∧ k ≤ n) := ⟨hs, by omega, by omega⟩
  clear hsp h h' e1 e2 hs hx hn hm
  generalize zs.map (Value.int .i64) = X at *
  generalize ys.map (Value.int .i64) = Y at *
  generalize (zs ++ List.replicate (s - zs.length) 0).map (Value.int .i64) = M at *
  generalize zs.take k ++ ys ++ zs.drop (k + ys.length) = R at *
  go_enter Try.func6, Try.ntmps6
  go_wp2_with fail
  refine (hw _ (RZ.out.stay (al (Below.refl _ _) _))).mono ?_
  rintro e x ⟨rfl, rfl⟩
  go_wp2_with fail
  refine (hw2 _ (RY.out.stay (al (Below.refl _ _) _))).mono ?_
  rintro e x ⟨rfl, rfl⟩
  go_upto_region 9 with (at_make; refine wpList_make_full _ rfl _ _ 24 rfl w.heap.size 2 i _ 1 Try.underlying24 hi hz0 hz1 _ _ _ _ s rfl rfl rfl rfl (by have := HS.out; rw [hz2]; omega) (by have := HS.out; unfold maxLen; omega) (by simp) ?_; intro w1 hown hgrow)
  obtain ⟨g, hg⟩ : ∃ g, w.heap.size + 1 = g := ⟨_, rfl⟩
  rw [show (w.alloc (.cells #[.int .i64 0, .int .i64 0, .slice none 0 0] 28)).heap.size = w.heap.size + 1 by simp] at hown
  have h1 := (own_heap hown).1
  rw [show (Value.int .i64 0).cells = #[Value.int .i64 0] from rfl, made_i64, hg] at h1
  have b1 := (al (Below.refl w.heap.size w) (.cells #[.int .i64 0, .int .i64 0, .slice none 0 0] 28)).grown hgrow (by simp) (by simp)
  have V1 : Hid (Vb w1 w.heap.size #[.int .i64 0, .int .i64 0, .slice none 0 0] 28) := (Vb.new _ _ _).gr hgrow (by simp)
  have H1 : Hid (w1.heap[g]? = some (.cells (List.replicate s (Value.int .i64 0)).toArray 2 (0, 0))) := h1
  have B1 : Hid (Below w.heap.size w w1) := b1
  have HG : Hid (w.heap.size + 1 = g) := hg
  rw [hg]
  clear hown hgrow h1 b1 hg
  go_upto_region 10 with (refine wpList_copy_splice rfl (.tmp 39) (.tmp 40) 24 24 rfl 2 Try.underlying24 (by kernel_rfl) (some ⟨g, 0, none⟩) a s s n cap (by simp [Act.eval]) (by simp [Act.eval]) g 0 (List.replicate s (Value.int .i64 0)) 2 H1.out X (by rw [L1.out]; have := HS.out; show n = min n s; omega) (fun hp => ⟨rfl, C1.out _ (RZ.out.stay B1.out) hp⟩) (by rw [L1.out, List.length_replicate]; have := HS.out; omega) O1.out g w1 (Below.refl _ _) (Nat.le_refl _) ?_; intro w2 hg2 hb2; rw [L1.out])
  have H2 : Hid (w2.heap[g]? = some (.cells M.toArray 2 (0, 0))) := by have := hg2.out; rw [S1.out] at this; exact this
  have V2 : Hid (Vb w2 w.heap.size #[.int .i64 0, .int .i64 0, .slice none 0 0] 28) := (hb2.block w.heap.size (by have := HG.out; omega)).trans V1.out
  have B2 : Hid (Below w.heap.size w w2) := B1.out.trans (hb2.mono (by have := HG.out; omega))
  clear hg2 hb2 H1 V1 B1 S1
  by_cases hks : k < s
  · have hksI : (k : Int) ≤ (s : Int) := by omega
    have hne : ¬ s = k := by omega
    have POS : 0 < Y.length → some ⟨g, k, none⟩ = some (⟨g, k, none⟩ : Addr) ∧ ∃ ad, a' = some ad ∧ ∀ j v, Y[j]? = some v → w2.cell? (ad.add j) = some v := fun hp => ⟨rfl, C2.out _ (RY.out.stay B2.out) hp⟩
    have POS : Hid (0 < Y.length → some ⟨g, k, none⟩ = some (⟨g, k, none⟩ : Addr) ∧ ∃ ad, a' = some ad ∧ ∀ j v, Y[j]? = some v → w2.cell? (ad.add j) = some v) := POS
    go_upto_region 11 with (refine wpList_copy_splice rfl (.tmp 44) (.tmp 45) 24 24 rfl 2 Try.underlying24 (by kernel_rfl) (some ⟨g, k, none⟩) a' (s - k) (s - k) m cap' (by simp [Act.eval]) (by simp [Act.eval]) g k M 2 H2.out Y (by rw [L2.out]; have := HS.out; show m = min m (s - k); omega) POS.out (by rw [L2.out, L3.out]; have := HS.out; omega) O2.out g w2 (Below.refl _ _) (Nat.le_refl _) ?_; intro w3 hg3 hb3; rw [L2.out])
    have H3 : Hid (w3.heap[g]? = some (.cells (R.map (Value.int .i64)).toArray 2 (0, 0))) := by have := hg3.out; rw [S2.out] at this; exact this
    have V3 : Hid (Vb w3 w.heap.size #[.int .i64 0, .int .i64 0, .slice none 0 0] 28) := (hb3.block w.heap.size (by have := HG.out; omega)).trans V2.out
    have B3 : Hid (Below w.heap.size w w3) := B2.out.trans (hb3.mono (by have := HG.out; omega))
    clear hg3 hb3 H2 V2 B2 S2
    have N3 : Hid (Nums w3 w.heap.size (.slice (some ⟨g, 0, none⟩) s s) R) := nums_heap H3.out (by have := HG.out; omega) L4.out rfl (by have := HS.out; unfold maxLen; omega)
    have k0 := V3.out.cell 0 rfl
    have k1 := V3.out.cell 1 rfl
    have k2 := V3.out.cell 2 rfl
    have f0 := V3.out.free 0
    have f1 := V3.out.free 1
    have f2 := V3.out.free 2
    have ls := V3.out.lt
    have gl : Hid (some ⟨g, 0, none⟩ ≠ (none : Option Addr)) := by show _ ≠ _; simp
    go_wp2_with fail
    exact bodyPost_ret (v := .agg #[.int .i64 0, .int .i64 0, .slice (some ⟨g, 0, none⟩) s s]) (by simp [results, Try.results6, go_sem, k0, k1, k2]) rfl ⟨_, rfl, ((N3.out.put _ _ (by simp [Value.ownBlock]; have := HG.out; omega)).put _ _ (by simp [Value.ownBlock]; have := HG.out; omega)).put _ _ (by simp [Value.ownBlock]; have := HG.out; omega), ((B3.out.setCell (by simp) _).setCell (by simp) _).setCell (by simp) _⟩
  · obtain rfl : k = s := by have := HS.out; omega
    have POS : Hid (0 < Y.length → some ⟨g, 0, none⟩ = some (⟨g, k, none⟩ : Addr) ∧ ∃ ad, a' = some ad ∧ ∀ j v, Y[j]? = some v → w2.cell? (ad.add j) = some v) := fun hp => by have := L2.out; have := HS.out; omega
    go_upto_region 11 with (refine wpList_copy_splice rfl (.tmp 44) (.tmp 45) 24 24 rfl 2 Try.underlying24 (by kernel_rfl) (some ⟨g, 0, none⟩) a' 0 0 m cap' (by simp [Act.eval]) (by simp [Act.eval]) g k M 2 H2.out Y (by rw [L2.out]; have := HS.out; show m = min m 0; omega) POS.out (by rw [L2.out, L3.out]; have := HS.out; omega) O2.out g w2 (Below.refl _ _) (Nat.le_refl _) ?_; intro w3 hg3 hb3; rw [L2.out])
    have H3 : Hid (w3.heap[g]? = some (.cells (R.map (Value.int .i64)).toArray 2 (0, 0))) := by have := hg3.out; rw [S2.out] at this; exact this
    have V3 : Hid (Vb w3 w.heap.size #[.int .i64 0, .int .i64 0, .slice none 0 0] 28) := (hb3.block w.heap.size (by have := HG.out; omega)).trans V2.out
    have B3 : Hid (Below w.heap.size w w3) := B2.out.trans (hb3.mono (by have := HG.out; omega))
    clear hg3 hb3 H2 V2 B2 S2
    have N3 : Hid (Nums w3 w.heap.size (.slice (some ⟨g, 0, none⟩) k k) R) := nums_heap H3.out (by have := HG.out; omega) L4.out rfl (by have := HS.out; unfold maxLen; omega)
    have k0 := V3.out.cell 0 rfl
    have k1 := V3.out.cell 1 rfl
    have k2 := V3.out.cell 2 rfl
    have f0 := V3.out.free 0
    have f1 := V3.out.free 1
    have f2 := V3.out.free 2
    have ls := V3.out.lt
    have gl : Hid (some ⟨g, 0, none⟩ ≠ (none : Option Addr)) := by show _ ≠ _; simp
    go_wp2_with fail
    exact bodyPost_ret (v := .agg #[.int .i64 0, .int .i64 0, .slice (some ⟨g, 0, none⟩) k k]) (by simp [results, Try.results6, go_sem, k0, k1, k2]) rfl ⟨_, rfl, ((N3.out.put _ _ (by simp [Value.ownBlock]; have := HG.out; omega)).put _ _ (by simp [Value.ownBlock]; have := HG.out; omega)).put _ _ (by simp [Value.ownBlock]; have := HG.out; omega), ((B3.out.setCell (by simp) _).setCell (by simp) _).setCell (by simp) _⟩
set_option maxHeartbeats 1000000 in
theorem ip_bad (a a' : Option Addr) (n cap m cap' : Nat) (at_ : Int) (w : World) (h : at_ < 0 ∨ (n : Int) < at_) :
    Calls Try.prog 6 #[.slice a n cap, .int .i64 at_, .slice a' m cap'] w fun e w' => e = .returned (.agg #[.int .i64 3, .int .i64 0, .slice none 0 0]) ∧ Below w.heap.size w w' := by
  have hd : decide (at_ < 0) = true ∨ decide (at_ < 0) = false ∧ decide ((n : Int) < at_) = true := by
    rcases Int.lt_or_le at_ 0 with h | h
    · exact .inl (decide_eq_true h)
    · exact .inr ⟨decide_eq_false (by omega), decide_eq_true (by omega)⟩
  clear h
  rcases hd with d1 | ⟨d1, d2⟩
  all_goals
    go_enter Try.func6, Try.ntmps6
    go_wp2_with fail
    exact bodyPost_ret (v := .agg #[.int .i64 3, .int .i64 0, .slice none 0 0]) (by simp [results, Try.results6, go_sem]) rfl ⟨rfl, al (Below.refl _ _) _⟩
set_option maxHeartbeats 1000000 in
theorem ip_many (a a' : Option Addr) (n cap m cap' k s : Nat) (w : World) (hk : k ≤ n) (hs : s = max n (k + m)) (hx : 80 < s) (hn : n ≤ 1048576) (hm : m ≤ 1048576) :
    Calls Try.prog 6 #[.slice a n cap, .int .i64 k, .slice a' m cap'] w fun e w' => e = .returned (.agg #[.int .i64 2, .int .i64 0, .slice none 0 0]) ∧ Below w.heap.size w w' := by
  have d1 : decide ((k : Int) < 0) = false := decide_eq_false (by omega)
  have d2 : decide ((n : Int) < k) = false := decide_eq_false (by omega)
  have hsI : (k : Int) + m ≤ 9223372036854775807 := by omega
  have hxI : 80 < (s : Int) := by omega
  have hmx := pa_max n k m s hs
  clear hs hx hn hm
  go_enter Try.func6, Try.ntmps6
  go_wp2_with fail
  exact bodyPost_ret (v := .agg #[.int .i64 2, .int .i64 0, .slice none 0 0]) (by simp [results, Try.results6, go_sem]) rfl ⟨rfl, al (Below.refl _ _) _⟩
theorem i_patch (v u : Value) (zs ys : List Int) (at_ : Int) (b b' : Nat) (w : World) (h : Nums w b v zs) (h' : Nums w b' u ys) (hz : zs.length ≤ 1048576) (hy : ys.length ≤ 1048576) :
    Calls Try.prog 6 #[v, .int .i64 at_, u] w fun e w' => ∃ r, e = .returned (.agg #[.int .i64 (paC zs at_ ys), .int .i64 0, r]) ∧ Nums w' w.heap.size r (paZ zs at_ ys) ∧ Below w.heap.size w w' := by
  obtain ⟨a, cap, rfl, _, _, _⟩ := h.shape
  obtain ⟨a', cap', rfl, _, _, _⟩ := h'.shape
  have RZ := h.rn
  have RY := h'.rn
  by_cases c1 : at_ < 0 ∨ (zs.length : Int) < at_
  · have hc : paC zs at_ ys = 3 := by rw [paC, if_pos c1]
    rw [hc, paZ_bad (by rw [hc]; decide)]
    exact (ip_bad a a' _ cap _ cap' at_ w c1).mono fun e w' ⟨h1, h2⟩ => ⟨_, h1, Nums.nil _ _, h2⟩
  obtain ⟨k, rfl⟩ : ∃ k : Nat, at_ = k := ⟨at_.toNat, by omega⟩
  by_cases c2 : 80 < zs.length ∨ 80 < k + ys.length
  · have hc : paC zs k ys = 2 := by rw [paC, if_neg c1, Int.toNat_natCast, if_pos c2]
    rw [hc, paZ_bad (by rw [hc]; decide)]
    exact (ip_many a a' _ cap _ cap' k _ w (by omega) rfl (by omega) hz hy).mono fun e w' ⟨h1, h2⟩ => ⟨_, h1, Nums.nil _ _, h2⟩
  have hcc : paC zs k ys = if (zs.all isW && ys.all isW) = false then 3 else 0 := by rw [paC, if_neg c1, Int.toNat_natCast, if_neg c2]
  cases e1 : zs.all isW
  · have hc : paC zs k ys = 3 := by rw [hcc, e1]; rfl
    rw [hc, paZ_bad (by rw [hc]; decide)]
    exact (ip_zs a a' _ cap _ cap' k _ zs w RZ e1 (by omega) rfl (by omega)).mono fun e w' ⟨h1, h2⟩ => ⟨_, h1, Nums.nil _ _, h2⟩
  cases e2 : ys.all isW
  · have hc : paC zs k ys = 3 := by rw [hcc, e1, e2]; rfl
    rw [hc, paZ_bad (by rw [hc]; decide)]
    exact (ip_ys a a' _ cap _ cap' k _ zs ys w RZ RY e1 e2 (by omega) rfl (by omega)).mono fun e w' ⟨h1, h2⟩ => ⟨_, h1, Nums.nil _ _, h2⟩
  have hc : paC zs k ys = 0 := by rw [hcc, e1, e2]; rfl
  have hZ : paZ zs k ys = zs.take k ++ ys ++ zs.drop (k + ys.length) := by rw [paZ, if_pos hc, Int.toNat_natCast]
  rw [hc, hZ]
  exact ip_good a a' _ cap _ cap' k _ zs ys w RZ RY e1 e2 (by omega) rfl (by omega)
end Go.Proofs.Ytdjhhhebechgdaa
