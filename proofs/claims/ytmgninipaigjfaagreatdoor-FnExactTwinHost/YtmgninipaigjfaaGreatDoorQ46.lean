/- Texts of this seat, joined. -/
import Derived.Deep.RegionWith
import Derived.Deep.RegionHeld3
import Derived.Deep.Cut
import Derived.Deep.CutRange
import Derived.Test.YtmgninipaigjfaaGreatDoorQ03
import Derived.Test.YtmgninipaigjfaaGreatDoorQ12
import Derived.Test.YtmgninipaigjfaaGreatDoorQ18
import Derived.Test.YtmgninipaigjfaaGreatDoorQ37
import Derived.Test.YtmgninipaigjfaaGreatDoorQ45
namespace Go.Proofs.YtmgninipaigjfaaGreatDoor
open Go.RowKit
set_option linter.unusedVariables false

theorem spec_wrap7 (n : Int) (w : World) : Calls Tryz.prog 88 #[.int .i64 n] w fun e w' => e = .returned (.int .i64 (wd n)) ∧ w' = w := by
  go_enter Tryz.func88, Tryz.ntmps88
  go_wp2
  go_ret
  exact ⟨rfl, rfl⟩

/-- One word of an image, laid into a memory. -/
def putW (ow img m : List Int) (i : Nat) : List Int := m.set ((ow.getD (i / 8) 0).toNat * 8 + i % 8) (wd (img.getD i 0))
def layM (ow img m : List Int) : Nat → List Int
  | 0 => m
  | i + 1 => putW ow img (layM ow img m i) i
theorem layM_len (ow img m : List Int) : ∀ i, (layM ow img m i).length = m.length
  | 0 => rfl
  | i + 1 => by rw [layM, putW, List.length_set, layM_len ow img m i]
/-- The first g images laid into a memory. -/
def allM (own iss : List (List Int)) (m : List Int) : Nat → List Int
  | 0 => m
  | g + 1 => layM (own.getD g []) (iss.getD g []) (allM own iss m g) (iss.getD g []).length
theorem allM_len (own iss : List (List Int)) (m : List Int) : ∀ g, (allM own iss m g).length = m.length
  | 0 => rfl
  | g + 1 => by rw [allM, layM_len, allM_len own iss m g]
def badAt (own iss : List (List Int)) (j : Nat) : Bool := decide ((own.getD j []).length * 8 < (iss.getD j []).length)
def sizesV (own iss : List (List Int)) : Nat → Int
  | 0 => 0
  | j + 1 => if sizesV own iss j = 0 then (if badAt own iss j = true then 8 else 0) else 8
theorem sizes_bad (own iss : List (List Int)) (j : Nat) (h : badAt own iss j = true) : ∀ n, j < n → sizesV own iss n = 8
  | 0, hn => absurd hn (Nat.not_lt_zero _)
  | n + 1, hn => by
    rw [sizesV]
    by_cases e : j = n
    · subst e
      rw [if_pos h]
      split <;> rfl
    · rw [sizes_bad own iss j h n (by omega)]
      rfl
theorem sizes_good (own iss : List (List Int)) : ∀ n, (∀ j, j < n → badAt own iss j = false) → sizesV own iss n = 0
  | 0, _ => rfl
  | n + 1, h => by
    rw [sizesV, sizes_good own iss n (fun j hj => h j (by omega)), if_pos rfl, h n (by omega)]
    rfl
theorem sizes_all (own iss : List (List Int)) : ∀ n, sizesV own iss n = 0 → ∀ j, j < n → badAt own iss j = false := by
  intro n h j hj
  cases hb : badAt own iss j with
  | false => rfl
  | true => rw [sizes_bad own iss j hb n hj] at h; cases h
def imgC (own iss : List (List Int)) : Int := if iss.length = own.length then sizesV own iss iss.length else 2
def loadC (P : Plc) (iss : List (List Int)) : Int := if pfV P = 0 then imgC P.own iss else pfV P
def loadZ (P : Plc) (iss : List (List Int)) : List Int := if loadC P iss = 0 then allM P.own iss (List.replicate 192 0) iss.length else []
theorem load_len (P : Plc) (iss : List (List Int)) : (loadZ P iss).length ≤ 192 := by
  unfold loadZ
  split
  · rw [allM_len, List.length_replicate]; exact Nat.le_refl _
  · exact Nat.zero_le _
theorem splice_nil (M : List Int) (b : Nat) : splice M b [] = M := by simp [splice]
theorem splice_set (M : List Int) (b : Nat) (x : Int) (xs : List Int) (y : Int) (h : b + (xs.length + 1) ≤ M.length) : (splice M b (x :: xs)).set b y = splice (M.set b y) (b + 1) xs := by
  unfold splice
  rw [List.set_append_right _ _ (by simp; omega), List.length_take, Nat.min_eq_left (by omega), Nat.sub_self, List.cons_append, List.set_cons_zero]
  have h1 : (M.set b y).take (b + 1) = M.take b ++ [y] := by
    rw [List.take_succ_eq_append_getElem (by simp; omega), List.take_set_of_le (Nat.le_refl _), List.getElem_set_self]
  have h2 : (M.set b y).drop (b + 1 + xs.length) = M.drop (b + (x :: xs).length) := by
    rw [List.drop_set_of_lt (by omega)]
    congr 1
    simp
    omega
  rw [h1, h2, List.append_assoc]
  rfl
theorem splice_get (M : List Int) (b : Nat) (x : Int) (xs : List Int) (h : b ≤ M.length) : (splice M b (x :: xs)).getD b 0 = x := by
  unfold splice
  rw [List.getD, List.getElem?_append_right (by rw [List.length_take]; omega), List.length_take, Nat.min_eq_left h, Nat.sub_self]
  rfl
theorem splice_map (M : List Int) (b : Nat) (xs : List Int) : splice (M.map (Value.int .i64)) b (xs.map (Value.int .i64)) = (splice M b xs).map (Value.int .i64) := by
  unfold splice
  rw [List.map_append, List.map_append, List.map_take, List.map_drop, List.length_map]
theorem splice_lenI (M : List Int) (b : Nat) (xs : List Int) (h : b + xs.length ≤ M.length) : (splice M b xs).length = M.length := by
  simp [splice]
  omega
theorem Pags.store {w : World} {base g n cap : Nat} {zs : List Int} (h : Pags w base (.slice (some ⟨g, 0, none⟩) n cap) n zs) (j : Nat) (x : Int) :
    Pags (w.setCell ⟨g, j, none⟩ (.int .i64 x)) base (.slice (some ⟨g, 0, none⟩) n cap) n (zs.set j x) := by
  have h1 := (World.ownsRow.stored h j (.int .i64 x)).1
  unfold Pags
  rw [List.map_set]
  exact h1
theorem Pags.free {w : World} {base g n cap : Nat} {zs : List Int} (h : Pags w base (.slice (some ⟨g, 0, none⟩) n cap) n zs) (i : Nat) : w.frozen? ⟨g, i, none⟩ = false := World.ownsRow.frozenAt h i
/-- A slice of numbers, cut from the front. -/
theorem IsNs.cut {w : World} {a : Option Addr} {n c : Nat} {zs : List Int} (h : IsNs w a n c zs) (k : Nat) (hk : k ≤ n) : ∀ x, a = some x → IsNs w (if c = k then some x else some (x.add k)) (n - k) (c - k) (zs.drop k) := by
  rintro x rfl
  rcases h with ⟨e, _⟩ | ⟨y, e, h1, h2, h3, h4⟩
  · cases e
  · cases e
    by_cases hc : c = k
    · rw [if_pos hc]
      exact .inr ⟨x, rfl, by omega, by omega, by simp; omega, fun i hi => by omega⟩
    · rw [if_neg hc]
      refine .inr ⟨x.add k, rfl, by omega, by omega, by simp; omega, fun i hi => ?_⟩
      rw [Go.Deep.add_add, h4 (k + i) (by omega)]
      simp [List.getD]
end Go.Proofs.YtmgninipaigjfaaGreatDoor
namespace Go.Proofs.YtmgninipaigjfaaGreatDoor
open Go.RowKit
set_option linter.unusedVariables false

set_option maxRecDepth 20000 in
set_option maxHeartbeats 8000000 in
theorem i_layImage (g b : Nat) (zs : List Int) (ap : Option Addr) (lp cp : Nat) (ow : List Int) (ai : Option Addr) (li ci : Nat) (img : List Int) (u w : World)
    (h : Pags w b (.slice (some ⟨g, 0, none⟩) 24 24) 24 zs) (hu : Below u.heap.size u w) (hub : u.heap.size ≤ b) (hp : IsNs u ap lp cp ow) (hi : IsNs u ai li ci img) (hr : ∀ x ∈ ow, 0 ≤ x ∧ x ≤ 23) (hl : ow.length ≤ 5) :
    Calls Tryz.prog 73 #[.slice (some ⟨g, 0, none⟩) 24 24, .slice ap lp cp, .slice ai li ci] w fun e w' => e = .returned (.tuple #[]) ∧ Pags w' b (.slice (some ⟨g, 0, none⟩) 24 24) 24 (layM ow img zs (min (8 * ow.length) img.length)) ∧ Below u.heap.size u w' := by
  have HZ : Hid (Pags w b (.slice (some ⟨g, 0, none⟩) 24 24) 24 zs) := h
  have HZL : Hid (zs.length = 192) := h.len
  have HGB : Hid (b ≤ g) := (h.lt g rfl).1
  have HUB : Hid (u.heap.size ≤ b) := hub
  have HU : Hid (Below u.heap.size u w) := hu
  have HP : Hid (IsNs u ap lp cp ow) := hp
  have HI : Hid (IsNs u ai li ci img) := hi
  have HR : Hid (∀ x ∈ ow, 0 ≤ x ∧ x ≤ 23) := hr
  have HLP : Hid (lp = ow.length ∧ lp ≤ 5) := ⟨hp.len, by have := hp.len; omega⟩
  have hlpI : (lp : Int) ≤ 5 := by have := HLP.out; omega
  have ML : Hid (∀ i, (layM ow img zs i).length = 192) := fun i => by rw [layM_len]; exact h.len
  have MS : Hid (∀ i, layM ow img zs (i + 1) = (layM ow img zs i).set ((ow.getD (i / 8) 0).toNat * 8 + i % 8) (wd (img.getD i 0))) := fun _ => rfl
  have M0 : Hid (layM ow img zs 0 = zs) := rfl
  generalize layM ow img zs = M at *
  clear h hu hub hp hi hr hl
  go_enter Tryz.func73, Tryz.ntmps73
  go_wp2_with fail
  go_loopw [2, 7, 8, 9, 12] (fun v _ _ _ c wr => ∃ j : Nat, j ≤ lp ∧ c = .int .i64 j ∧ (∃ a' n' c', v = .slice a' n' c' ∧ IsNs u a' n' c' (img.drop (8 * j))) ∧ Pags wr b (.slice (some ⟨g, 0, none⟩) 24 24) 24 (M (min (8 * j) img.length)) ∧ Below u.heap.size u wr) (fun _ _ _ _ c _ => lp - (intOf c).toNat)
  case atStart => exact ⟨0, Nat.zero_le _, rfl, ⟨_, _, _, rfl, HI.out⟩, by rw [Nat.mul_zero, Nat.zero_min, M0.out]; exact HZ.out, HU.out⟩
  case round =>
    obtain ⟨j, hj, rfl, ⟨a', n', c', rfl, hIm⟩, hN, hB⟩ := hrel
    have HIM : Hid (IsNs u a' n' c' (img.drop (8 * j))) := hIm
    have HN : Hid (Pags wr b _ 24 (M (min (8 * j) img.length))) := hN
    have HB : Hid (Below _ u wr) := hB
    by_cases hlt : j < lp
    · rcases HP.out.stay hB with ⟨_, e1, _, _⟩ | ⟨y, rfl, e1, e2, e3, e4⟩
      · omega
      have d0 := e4 j hlt
      have hJ : (j : Int) < (lp : Int) := by omega
      have HLT : Hid (j < lp) := hlt
      have hin := HR.out _ (getD_mem ow 0 j (by have := HLP.out; omega))
      obtain ⟨z, hz⟩ : ∃ z, ow.getD j 0 = z := ⟨_, rfl⟩
      rw [hz] at d0 hin
      obtain ⟨p, rfl⟩ := Int.eq_ofNat_of_zero_le hin.1
      have HPJ : Hid (ow.getD j 0 = (p : Int)) := hz
      have hp24 : (p : Int) < 24 := by omega
      have HPN : Hid (p < 24) := by show _ < _; omega
      obtain ⟨xs, hxs⟩ : ∃ xs, (img.drop (8 * j)).take 8 = xs := ⟨_, rfl⟩
      obtain ⟨sz, hsz⟩ : ∃ sz, xs.length = sz := ⟨_, rfl⟩
      have HNL : Hid (n' = (img.drop (8 * j)).length ∧ n' = img.length - 8 * j ∧ n' ≤ c' ∧ c' ≤ 9223372036854775807) := ⟨hIm.len, by have := hIm.len; rw [List.length_drop] at this; exact this, hIm.cap.1, by have := hIm.cap.2; unfold maxLen at this; exact this⟩
      have HSZ : Hid (sz = min 8 n' ∧ sz = min 8 (img.length - 8 * j)) := by
        have h1 := HNL.out
        rw [← hxs, List.length_take] at hsz
        constructor
        · rw [h1.1]; exact hsz.symm
        · rw [List.length_drop] at hsz; exact hsz.symm
      have HXS : Hid ((img.drop (8 * j)).take 8 = xs) := hxs
      have HXL : Hid (xs.length = sz) := hsz
      have HS : Hid (0 < sz → min (8 * j) img.length = 8 * j) := fun h => by have := HSZ.out.2; omega
      have HS2 : Hid (min (8 * j) img.length + sz = min (8 * (j + 1)) img.length) := by show _ = _; have := HSZ.out.2; omega
      have HXG : Hid (∀ k, k < sz → xs.drop k = img.getD (8 * j + k) 0 :: xs.drop (k + 1)) := fun k hk => by
        have hk2 : k < xs.length := by rw [HXL.out]; exact hk
        rw [List.drop_eq_getElem_cons hk2]
        congr 1
        have hlen := HXL.out
        subst hxs
        simp [List.getD] at hk2 ⊢
        rw [List.getElem?_eq_getElem (by omega)]
        rfl
      generalize min (8 * j) img.length = s0 at *
      have MLs := ML.out s0
      have hh := hN.heap
      have hNN : Hid (sz ≤ 8) := by show _ ≤ _; have := HSZ.out.1; omega
      have CP : Hid (0 < (xs.map (Value.int .i64)).length → some (⟨g, p * 8, none⟩ : Addr) = some ⟨g, p * 8, none⟩ ∧ ∃ ad, a' = some ad ∧ ∀ i v, (xs.map (Value.int .i64))[i]? = some v → wr.cell? (ad.add i) = some v) := fun h0 => by
        refine ⟨rfl, ?_⟩
        rw [List.length_map, HXL.out] at h0
        rcases HIM.out.stay HB.out with ⟨_, k1, _, _⟩ | ⟨x, rfl, k1, k2, k3, k4⟩
        · have := HSZ.out.1; omega
        · refine ⟨x, rfl, fun i v hv => ?_⟩
          have hi8 : i < xs.length := by have := (List.getElem?_eq_some_iff.1 hv).1; simpa using this
          have hil : i < n' := by rw [HXL.out] at hi8; have := HSZ.out.1; omega
          rw [k4 i hil, ← hv, List.getElem?_map, List.getElem?_eq_getElem hi8]
          have : (img.drop (8 * j)).getD i 0 = xs[i] := by
            have h8 : i < 8 := by rw [HXL.out] at hi8; have := hNN.out; omega
            have hd : i < (img.drop (8 * j)).length := by have := HNL.out.1; omega
            subst hxs
            rw [List.getD, List.getElem?_eq_getElem hd, List.getElem_take]
            rfl
          rw [this]
          rfl
      obtain ⟨X, hX⟩ : ∃ X, X = xs.map (Value.int .i64) := ⟨_, rfl⟩
      obtain ⟨Y, hY⟩ : ∃ Y, Y = (M s0).map (Value.int .i64) := ⟨_, rfl⟩
      rw [← hX] at CP
      rw [← hY] at hh
      have HH : Hid (wr.heap[g]? = some (.cells Y.toArray 140 (0, 0))) := hh
      have XL : Hid (X.length = sz) := by show _ = _; rw [hX, List.length_map]; exact HXL.out
      have YL : Hid (Y.length = 192) := by show _ = _; rw [hY, List.length_map]; exact MLs
      have X1 : Hid (∀ v ∈ X, v.oneCell' = true) := by
        intro v hv
        rw [hX] at hv
        obtain ⟨z, _, rfl⟩ := List.mem_map.1 hv
        rfl
      have SP : Hid (splice Y (p * 8) X = (splice (M s0) (p * 8) xs).map (Value.int .i64)) := by show _ = _; rw [hX, hY, splice_map]
      clear hX hY hh MLs hxs hsz hin hz e1 e2 e3 e4 hlt hN hB hIm
      go_wp2_with (refine wpList_copy_splice rfl (.tmp 19) (.tmp 20) 28 28 rfl 2 Tryz.underlying28 (by kernel_rfl) (some ⟨g, p * 8, none⟩) a' 8 8 n' c' (by simp [Act.eval]) (by simp [Act.eval]) g (p * 8) Y 140 HH.out X (by rw [XL.out]; have := HSZ.out.1; show sz = min n' 8; omega) CP.out (by rw [XL.out, YL.out]; have := hNN.out; have := HPN.out; omega) X1.out u.heap.size u HB.out (by have := HUB.out; have := HGB.out; omega) ?_; intro w2 hg2 hb2; rw [XL.out])
      have P2 : Hid (Pags w2 b (.slice (some ⟨g, 0, none⟩) 24 24) 24 (splice (M s0) (p * 8) xs)) := by
        have h1 := hg2.out
        rw [SP.out] at h1
        exact Pags.of_heap h1 (by rw [splice_lenI _ _ _ (by rw [HXL.out, ML.out]; have := hNN.out; have := HPN.out; omega), ML.out]) HGB.out (by unfold maxLen; omega)
      have B2 : Hid (Below u.heap.size u w2) := hb2
      have hszI : (sz : Int) ≤ 8 := by have := hNN.out; omega
      clear hg2 hb2 SP X1 XL YL CP HH d0
      go_wp2_with fail
      go_loopw [9, 23] (fun _ c wq => ∃ k : Nat, k ≤ sz ∧ c = .int .i64 k ∧ Pags wq b (.slice (some ⟨g, 0, none⟩) 24 24) 24 (splice (M (s0 + k)) (p * 8 + k) (xs.drop k)) ∧ Below u.heap.size u wq) (fun _ c _ => sz - (intOf c).toNat)
      case atStart => exact ⟨0, Nat.zero_le _, rfl, P2.out, B2.out⟩
      case round =>
        obtain ⟨k, hk, rfl, hN, hB⟩ := hrel
        have HNk : Hid (Pags wr b _ 24 _) := hN
        have HBk : Hid (Below _ u wr) := hB
        by_cases hks : k < sz
        · have HK : Hid (k < sz) := hks
          have hK : (k : Int) < (sz : Int) := by omega
          have hK8 : (k : Int) < 8 := by omega
          have E0 := HS.out (by omega)
          have XD := HXG.out k hks
          have MS2 : Hid (M (s0 + (k + 1)) = (M (s0 + k)).set (p * 8 + k) (wd (img.getD (8 * j + k) 0))) := by
            show _ = _
            have h1 := MS.out (s0 + k)
            have hk8 : k < 8 := by omega
            rw [E0] at h1
            rw [show (8 * j + k) / 8 = j by omega, show (8 * j + k) % 8 = k by omega, HPJ.out, Int.toNat_natCast] at h1
            rw [← Nat.add_assoc, E0]
            exact h1
          rw [XD] at hN
          have LB : p * 8 + k + ((xs.drop (k + 1)).length + 1) ≤ (M (s0 + k)).length := by
            rw [ML.out, List.length_drop, HXL.out]
            have := hNN.out
            have := HPN.out
            omega
          have c0 := hN.cell (p * 8 + k) (by have := HPN.out; omega)
          rw [splice_get _ _ _ _ (by omega)] at c0
          have f0 := hN.free (p * 8 + k)
          have NXT : Hid (Pags (wr.setCell ⟨g, p * 8 + k, none⟩ (.int .i64 (wd (img.getD (8 * j + k) 0)))) b (.slice (some ⟨g, 0, none⟩) 24 24) 24 (splice (M (s0 + (k + 1))) (p * 8 + (k + 1)) (xs.drop (k + 1)))) := by
            have h1 := hN.store (p * 8 + k) (wd (img.getD (8 * j + k) 0))
            rw [splice_set _ _ _ _ _ LB, ← MS2.out] at h1
            exact h1
          have BXT : Hid (Below u.heap.size u (wr.setCell ⟨g, p * 8 + k, none⟩ (.int .i64 (wd (img.getD (8 * j + k) 0))))) := HBk.out.setCell (by have := HUB.out; have := HGB.out; show u.heap.size ≤ g; omega) _
          have NXD : Hid (Pags (wr.drew.setCell ⟨g, p * 8 + k, none⟩ (.int .i64 (wd (img.getD (8 * j + k) 0)))) b (.slice (some ⟨g, 0, none⟩) 24 24) 24 (splice (M (s0 + (k + 1))) (p * 8 + (k + 1)) (xs.drop (k + 1)))) := NXT.out
          have BXD : Hid (Below u.heap.size u (wr.drew.setCell ⟨g, p * 8 + k, none⟩ (.int .i64 (wd (img.getD (8 * j + k) 0))))) := ⟨BXT.out.os, BXT.out.tape, BXT.out.output, BXT.out.size, BXT.out.block⟩
          generalize img.getD (8 * j + k) 0 = xv at *
          clear hN hB hks XD E0 LB MS2
          go_wp2_with fail
          go_region_with (go_at_call 97; refine (impl_wrap _ _).mono ?_; rintro e w9 ⟨rfl, hw9⟩; subst hw9)
          all_goals go_wp2_with fail
          all_goals go_roundw
          all_goals first
            | exact ⟨k + 1, by have := HK.out; omega, by go_num, by first | exact NXD.out | exact NXT.out, by first | exact BXD.out | exact BXT.out⟩
            | (have := HK.out; simp [intOf]; omega)
        · have hK : ¬ (k : Int) < (sz : Int) := by omega
          have HKS : Hid (k = sz) := by show _ = _; omega
          have NE : Hid (Pags wr b (.slice (some ⟨g, 0, none⟩) 24 24) 24 (M (min (8 * (j + 1)) img.length))) := by
            have h1 := HNk.out
            rw [HKS.out, List.drop_of_length_le (by rw [HXL.out]; exact Nat.le_refl _), splice_nil, HS2.out] at h1
            exact h1
          have HSN : Hid (sz ≤ n') := by show _ ≤ _; have := HSZ.out.1; omega
          have DD : Hid (sz < n' → img.drop (8 * (j + 1)) = (img.drop (8 * j)).drop sz) := fun hlt => by
            have := HSZ.out.1
            rw [List.drop_drop]
            congr 1
            omega
          have DE : Hid (sz = n' → img.drop (8 * (j + 1)) = (img.drop (8 * j)).drop sz) := fun he => by
            have h1 := HNL.out
            have := HSZ.out.1
            rw [List.drop_of_length_le (by omega), List.drop_of_length_le (by rw [List.length_drop]; omega)]
          have DA : Hid (img.drop (8 * (j + 1)) = (img.drop (8 * j)).drop sz) := by
            rcases Nat.lt_or_ge sz n' with h | h
            · exact DD.out h
            · exact DE.out (by have := HSN.out; omega)
          have hsn : (sz : Int) ≤ (n' : Int) := by have := HSN.out; omega
          have hnc : (n' : Int) ≤ (c' : Int) := by have := HNL.out; omega
          have hcm : (c' : Int) ≤ 9223372036854775807 := by have := HNL.out; omega
          cases a' with
          | none =>
            have hz0 : n' = 0 ∧ c' = 0 ∧ sz = 0 := by
              rcases HIM.out with ⟨_, k1, k2, _⟩ | ⟨x, e, _⟩
              · exact ⟨k1, k2, by have := HSN.out; omega⟩
              · cases e
            have HIN : Hid (IsNs u none 0 0 (img.drop (8 * (j + 1)))) := by
              show IsNs _ _ _ _ _
              rw [DA.out, hz0.2.2, List.drop_zero]
              have := HIM.out
              rw [hz0.1, hz0.2.1] at this
              exact this
            obtain ⟨rfl, rfl, rfl⟩ := hz0
            clear hN hB hks
            go_wp2_with fail
            go_roundw
            case rel => exact ⟨j + 1, by have := HLT.out; omega, by go_num, ⟨_, _, _, rfl, HIN.out⟩, NE.out, HBk.out⟩
            case measure => have := HLT.out; simp [intOf]; omega
          | some x =>
            have HIN : Hid (IsNs u (if c' = sz then some x else some (x.add sz)) (n' - sz) (c' - sz) (img.drop (8 * (j + 1)))) := by
              show IsNs _ _ _ _ _
              rw [DA.out]
              exact HIM.out.cut sz HSN.out x rfl
            have hsc : sz ≤ n' := HSN.out
            clear hN hB hks
            by_cases hce : c' = sz
            · rw [if_pos hce] at HIN
              go_wp2_with fail
              go_roundw
              case rel => exact ⟨j + 1, by have := HLT.out; omega, by go_num, ⟨_, _, _, rfl, by first | exact HIN.out | (simp [hce] at *; exact HIN.out)⟩, NE.out, HBk.out⟩
              case measure => have := HLT.out; simp [intOf]; omega
            · rw [if_neg hce] at HIN
              go_wp2_with fail
              go_roundw
              case rel => exact ⟨j + 1, by have := HLT.out; omega, by go_num, ⟨_, _, _, rfl, by first | exact HIN.out | (simp [hce] at *; exact HIN.out)⟩, NE.out, HBk.out⟩
              case measure => have := HLT.out; simp [intOf]; omega
    · have hJ : ¬ (j : Int) < (lp : Int) := by omega
      have HJ : Hid (j = ow.length) := by show _ = _; have := HLP.out; omega
      clear hlt hN hB hIm
      go_wp2_with fail
      refine bodyPost_end (v := .tuple #[]) (by simp [results, Tryz.results73]) rfl ⟨rfl, ?_, HB.out⟩
      rw [← HJ.out]
      exact HN.out
end Go.Proofs.YtmgninipaigjfaaGreatDoor
namespace Go.Proofs.YtmgninipaigjfaaGreatDoor
open Go.RowKit
set_option linter.unusedVariables false

theorem apt_sep {a b : Value} {m : Nat} (ha : ∀ k, a.ownBlock = some k → k < m) (hb : ∀ k, b.ownBlock = some k → m ≤ k) : Apt a b := by
  cases e : a.ownBlock with
  | none => exact .inl e
  | some k => exact .inr fun f => by rw [e] at f; have := ha k e; have := hb k f.symm; omega
theorem wp_shapes {w : World} {base : Nat} {v0 v1 v2 v3 : Value} {P : Plc} (h : WpE w base v0 v1 v2 v3 P) : ∃ b0 b1 b2 b3 d0 d1 d2 d3, v0 = .slice b0 P.own.length d0 ∧ v1 = .slice b1 P.lanes.length d1 ∧ v2 = .slice b2 P.bells.length d2 ∧ v3 = .slice b3 P.plan.length d3 := by
  obtain ⟨xs, h⟩ := h
  obtain ⟨b0, d0, e0⟩ := row_shape h.own
  obtain ⟨b1, d1, e1⟩ := row_shape h.lanes
  obtain ⟨b2, d2, e2⟩ := row_shape h.bells
  obtain ⟨b3, d3, e3⟩ := row_shape h.plan
  rw [h.xl] at e0
  exact ⟨b0, b1, b2, b3, d0, d1, d2, d3, e0, e1, e2, e3⟩
set_option maxRecDepth 20000 in
set_option maxHeartbeats 8000000 in
theorem i_hostAt (a0 a1 a2 a3 : Option Addr) (n0 c0 n1 c1 n2 c2 n3 c3 : Nat) (P : Plc) (ma : Option Addr) (mn mc : Nat) (ha : Option Addr) (hn hc : Nat) (sl le cl : Int) (w : World) (h : Pl w a0 n0 c0 a1 n1 c1 a2 n2 c2 a3 n3 c3 P) (sm : Small n0 n1 n2 n3 P) :
    Calls Tryz.prog 53 #[.agg #[.slice a0 n0 c0, .slice a1 n1 c1, .slice a2 n2 c2, .slice a3 n3 c3], .slice ma mn mc, .slice ha hn hc, .agg #[.int .i64 sl, .int .i64 le, .int .i64 cl]] w fun e w' => ∃ v0 v1 v2 v3, e = .returned (.agg #[v0, v1, v2, v3, .slice ma mn mc, .slice ha hn hc, .int .i64 sl, .int .i64 le, .int .i64 cl]) ∧ WpE w' w.heap.size v0 v1 v2 v3 P ∧ Below w.heap.size w w' := by
  generalize hW : ((w.alloc (.cells #[.slice a0 n0 c0, .slice a1 n1 c1, .slice a2 n2 c2, .slice a3 n3 c3] 35)).alloc (.cells #[.int .i64 sl, .int .i64 le, .int .i64 cl] 99)).alloc (.cells #[.slice none 0 0, .slice none 0 0, .slice none 0 0, .slice none 0 0, .slice none 0 0, .slice none 0 0, .int .i64 0, .int .i64 0, .int .i64 0] 38) = W
  have B0 : Hid (Below w.heap.size w W) := by show Below _ _ _; rw [← hW]; exact al (al (al (Below.refl _ _) _) _) _
  obtain ⟨s, hS⟩ : ∃ s, w.heap.size = s := ⟨_, rfl⟩
  have HSs : Hid (w.heap.size = s) := hS
  have z1 : s + 1 = (w.alloc (.cells #[.slice a0 n0 c0, .slice a1 n1 c1, .slice a2 n2 c2, .slice a3 n3 c3] 35)).heap.size := by rw [← hS]; simp
  have z2 : s + 2 = ((w.alloc (.cells #[.slice a0 n0 c0, .slice a1 n1 c1, .slice a2 n2 c2, .slice a3 n3 c3] 35)).alloc (.cells #[.int .i64 sl, .int .i64 le, .int .i64 cl] 99)).heap.size := by rw [← hS]; simp
  have Q : Hid (Vb W s #[.slice a0 n0 c0, .slice a1 n1 c1, .slice a2 n2 c2, .slice a3 n3 c3] 35) := by show Vb _ _ _ _; rw [← hW, ← hS]; exact ((Vb.new _ _ _).push _).push _
  have U : Hid (Vb W (s + 1) #[.int .i64 sl, .int .i64 le, .int .i64 cl] 99) := by show Vb _ _ _ _; rw [← hW, z1]; exact (Vb.new _ _ _).push _
  have R : Hid (Vb W (s + 2) #[.slice none 0 0, .slice none 0 0, .slice none 0 0, .slice none 0 0, .slice none 0 0, .slice none 0 0, .int .i64 0, .int .i64 0, .int .i64 0] 38) := by show Vb _ _ _ _; rw [← hW, z2]; exact Vb.new _ _ _
  have ZW : Hid (s + 3 = W.heap.size) := by show _ = _; rw [← hW, ← hS]; simp
  clear z1 z2
  have D : Hid (Pl W a0 n0 c0 a1 n1 c1 a2 n2 c2 a3 n3 c3 P) := h.stay B0.out
  have SMP : Hid (Small n0 n1 n2 n3 P) := sm
  clear h sm
  have QL : Hid (∀ w', SvN 9 W (s + 2) w' → Vb w' s #[.slice a0 n0 c0, .slice a1 n1 c1, .slice a2 n2 c2, .slice a3 n3 c3] 35 ∧ Vb w' (s + 1) #[.int .i64 sl, .int .i64 le, .int .i64 cl] 99) := fun w' hs => ⟨hs.1.vb Q.out (by omega), hs.1.vb U.out (by omega)⟩
  have BS : Hid (∀ w', SvN 9 W (s + 2) w' → Below w.heap.size w w') := fun w' hs => Mq.under B0.out hs.1 fun k e => by have := HSs.out; omega
  have LT : Hid (s + 2 < W.heap.size) := R.out.lt
  have Sv0 : Hid (SvN 9 W (s + 2) W.drew) := SvN.step ⟨Mq.refl _ _, R.out.there 9 (by decide)⟩ LT.out (Below.refl _ _).drew
  have E0 : Hid (Below W.heap.size W W.drew) := (Below.refl _ _).drew
  go_enter Tryz.func53, Tryz.ntmps53
  go_upto_region 1 with fail
  clear hW hS
  refine wp_region_held (S := fun w' => SvN 9 W (s + 2) w') (by kernel_rfl) ?_
  change wpAnyH _ _ _ _ _ _ _ _ (World.drew _)
  generalize W.drew = u0 at *
  refine wpAnyH_take (i := 0) (v := (.agg #[.slice a0 n0 c0, .slice a1 n1 c1, .slice a2 n2 c2, .slice a3 n3 c3])) rfl (by kernel_rfl) (by kernel_rfl) (by kernel_rfl) (fun _ _ _ h => h) (Or.inl ⟨by rfl, fun w' hs => by have qv := (QL.out w' hs).1; have y0 := qv.cell 0 rfl; have y1 := qv.cell 1 rfl; have y2 := qv.cell 2 rfl; have y3 := qv.cell 3 rfl; go_simp⟩) Sv0.out ?_
  change wpAnyH _ _ _ _ _ _ _ (Act.put _ (some 9) _) _
  simp only [Act.put, List.setIfInBounds_toArray, List.set_cons_zero, List.set_cons_succ]
  refine wpAnyH_take (i := 2) (v := (.slice ma mn mc)) rfl (by kernel_rfl) (by kernel_rfl) (by kernel_rfl) (fun _ _ _ h => h) (Or.inl ⟨by rfl, fun w' hs => by go_simp⟩) Sv0.out ?_
  change wpAnyH _ _ _ _ _ _ _ (Act.put _ (some 11) _) _
  simp only [Act.put, List.setIfInBounds_toArray, List.set_cons_zero, List.set_cons_succ]
  refine wpAnyH_take (i := 3) (v := (.slice ha hn hc)) rfl (by kernel_rfl) (by kernel_rfl) (by kernel_rfl) (fun _ _ _ h => h) (Or.inl ⟨by rfl, fun w' hs => by go_simp⟩) Sv0.out ?_
  change wpAnyH _ _ _ _ _ _ _ (Act.put _ (some 12) _) _
  simp only [Act.put, List.setIfInBounds_toArray, List.set_cons_zero, List.set_cons_succ]
  refine wpAnyH_take (i := 4) (v := (.pointer (some ⟨s + 1, 0, none⟩))) rfl (by kernel_rfl) (by kernel_rfl) (by kernel_rfl) (fun _ _ _ h => h) (Or.inl ⟨by rfl, fun w' hs => by go_simp⟩) Sv0.out ?_
  change wpAnyH _ _ _ _ _ _ _ (Act.put _ (some 13) _) _
  simp only [Act.put, List.setIfInBounds_toArray, List.set_cons_zero, List.set_cons_succ]
  refine wpAnyH_take (i := 5) (v := (.int .i64 sl)) rfl (by kernel_rfl) (by kernel_rfl) (by kernel_rfl) (fun _ _ _ h => h) (Or.inl ⟨by rfl, fun w' hs => by have y := (QL.out w' hs).2.cell 0 rfl; go_simp⟩) Sv0.out ?_
  change wpAnyH _ _ _ _ _ _ _ (Act.put _ (some 14) _) _
  simp only [Act.put, List.setIfInBounds_toArray, List.set_cons_zero, List.set_cons_succ]
  refine wpAnyH_take (i := 6) (v := (.pointer (some ⟨s + 1, 1, none⟩))) rfl (by kernel_rfl) (by kernel_rfl) (by kernel_rfl) (fun _ _ _ h => h) (Or.inl ⟨by rfl, fun w' hs => by go_simp⟩) Sv0.out ?_
  change wpAnyH _ _ _ _ _ _ _ (Act.put _ (some 15) _) _
  simp only [Act.put, List.setIfInBounds_toArray, List.set_cons_zero, List.set_cons_succ]
  refine wpAnyH_take (i := 7) (v := (.int .i64 le)) rfl (by kernel_rfl) (by kernel_rfl) (by kernel_rfl) (fun _ _ _ h => h) (Or.inl ⟨by rfl, fun w' hs => by have y := (QL.out w' hs).2.cell 1 rfl; go_simp⟩) Sv0.out ?_
  change wpAnyH _ _ _ _ _ _ _ (Act.put _ (some 16) _) _
  simp only [Act.put, List.setIfInBounds_toArray, List.set_cons_zero, List.set_cons_succ]
  refine wpAnyH_take (i := 8) (v := (.pointer (some ⟨s + 1, 2, none⟩))) rfl (by kernel_rfl) (by kernel_rfl) (by kernel_rfl) (fun _ _ _ h => h) (Or.inl ⟨by rfl, fun w' hs => by go_simp⟩) Sv0.out ?_
  change wpAnyH _ _ _ _ _ _ _ (Act.put _ (some 17) _) _
  simp only [Act.put, List.setIfInBounds_toArray, List.set_cons_zero, List.set_cons_succ]
  refine wpAnyH_take (i := 9) (v := (.int .i64 cl)) rfl (by kernel_rfl) (by kernel_rfl) (by kernel_rfl) (fun _ _ _ h => h) (Or.inl ⟨by rfl, fun w' hs => by have y := (QL.out w' hs).2.cell 2 rfl; go_simp⟩) Sv0.out ?_
  change wpAnyH _ _ _ _ _ _ _ (Act.put _ (some 18) _) _
  simp only [Act.put, List.setIfInBounds_toArray, List.set_cons_zero, List.set_cons_succ]
  refine wpAnyH_ready (rs := [1]) (by kernel_rfl) (by simp) ?_
  refine AllReadyH.cons rfl (fun K hK => ?_) AllReadyH.nil
  rw [if_pos (by rfl)]
  go_simp
  refine (i_copyPolicy _ _ _ _ _ _ _ _ _ _ _ _ P _ (D.out.stay E0.out) SMP.out).mono ?_
  rintro e u1 ⟨_, _, _, _, rfl, wp, b1⟩
  obtain ⟨b0, b1a, b2, b3, d0, d1, d2, d3, e0, e1, e2, e3⟩ := wp_shapes wp
  subst e0 e1 e2 e3
  obtain ⟨m0, hm0⟩ : ∃ n, P.own.length = n := ⟨_, rfl⟩
  obtain ⟨m1, hm1⟩ : ∃ n, P.lanes.length = n := ⟨_, rfl⟩
  obtain ⟨m2, hm2⟩ : ∃ n, P.bells.length = n := ⟨_, rfl⟩
  obtain ⟨m3, hm3⟩ : ∃ n, P.plan.length = n := ⟨_, rfl⟩
  rw [hm0, hm1, hm2, hm3] at wp ⊢
  have WP : Hid (WpE u1 u0.heap.size (.slice b0 m0 d0) (.slice b1a m1 d1) (.slice b2 m2 d2) (.slice b3 m3 d3) P) := wp
  have Sv1 : Hid (SvN 9 W (s + 2) u1) := Sv0.out.step LT.out b1
  clear wp b1 hm0 hm1 hm2 hm3
  refine hK.out _ _ Sv1.out (fun _ => ?_)
  clear hK K
  refine wpAnyH_take (i := 10) (v := (.agg #[.slice b0 m0 d0, .slice b1a m1 d1, .slice b2 m2 d2, .slice b3 m3 d3, .slice ma mn mc, .slice ha hn hc, .int .i64 sl, .int .i64 le, .int .i64 cl])) rfl (by kernel_rfl) (by kernel_rfl) (by kernel_rfl) (fun _ _ _ h => h) (Or.inl ⟨by rfl, fun w' hs => by go_simp⟩) Sv1.out ?_
  change wpAnyH _ _ _ _ _ _ _ (Act.put _ (some 19) _) _
  simp only [Act.put, List.setIfInBounds_toArray, List.set_cons_zero, List.set_cons_succ]
  refine wpAnyH_ready (rs := [11]) (by kernel_rfl) (by simp) ?_
  refine AllReadyH.cons rfl (fun K hK => ?_) AllReadyH.nil
  rw [if_pos (by rfl)]
  refine wp_store_mid 38 (.tmp 8) (.tmp 19) rfl (s + 2) 0 #[.slice b0 m0 d0, .slice b1a m1 d1, .slice b2 m2 d2, .slice b3 m3 d3, .slice ma mn mc, .slice ha hn hc, .int .i64 sl, .int .i64 le, .int .i64 cl] rfl rfl Sv1.out.2 (by kernel_rfl) (by simp [Value.oneCell']) ?_
  change K (Act.put _ none undef) _
  simp only [Act.put]
  have S6 : Hid (SvN 9 W (s + 2) (u1.setCells (s + 2) 0 #[.slice b0 m0 d0, .slice b1a m1 d1, .slice b2 m2 d2, .slice b3 m3 d3, .slice ma mn mc, .slice ha hn hc, .int .i64 sl, .int .i64 le, .int .i64 cl].toList)) := Sv1.out.set _
  have R6 : Hid ((u1.setCells (s + 2) 0 #[.slice b0 m0 d0, .slice b1a m1 d1, .slice b2 m2 d2, .slice b3 m3 d3, .slice ma mn mc, .slice ha hn hc, .int .i64 sl, .int .i64 le, .int .i64 cl].toList).rangeAt (s + 2) 0 #[.slice b0 m0 d0, .slice b1a m1 d1, .slice b2 m2 d2, .slice b3 m3 d3, .slice ma mn mc, .slice ha hn hc, .int .i64 sl, .int .i64 le, .int .i64 cl].toList) := World.rangeAt_setCells_same _ _ _ _ Sv1.out.2
  have Q6 : Hid (Mq (fun k => k = s + 2) u1 (u1.setCells (s + 2) 0 #[.slice b0 m0 d0, .slice b1a m1 d1, .slice b2 m2 d2, .slice b3 m3 d3, .slice ma mn mc, .slice ha hn hc, .int .i64 sl, .int .i64 le, .int .i64 cl].toList)) := mq_cells (s + 2) _ u1 0
  generalize u1.setCells (s + 2) 0 #[.slice b0 m0 d0, .slice b1a m1 d1, .slice b2 m2 d2, .slice b3 m3 d3, .slice ma mn mc, .slice ha hn hc, .int .i64 sl, .int .i64 le, .int .i64 cl].toList = u6 at *
  refine hK.out _ _ S6.out (fun _ => ?_)
  clear hK K
  refine wpAnyH_done (by kernel_rfl) ?_ _
  have O6 : Ho (s + 3) u1 u6 := Q6.out.ho fun k e => by omega
  have F : Hid (WpE u6 w.heap.size (.slice b0 m0 d0) (.slice b1a m1 d1) (.slice b2 m2 d2) (.slice b3 m3 d3) P) := by
    obtain ⟨xs, hx⟩ := WP.out
    exact ⟨xs, ((hx.mono (by have := ZW.out; have := E0.out.size; omega)).ho O6).mono (by have := HSs.out; omega)⟩
  have B6 : Hid (Below w.heap.size w u6) := BS.out _ S6.out
  have LD := run_loadVar_mid (P := Tryz.prog) u6 (s + 2) 0 38 #[.slice b0 m0 d0, .slice b1a m1 d1, .slice b2 m2 d2, .slice b3 m3 d3, .slice ma mn mc, .slice ha hn hc, .int .i64 sl, .int .i64 le, .int .i64 cl].toList _ R6.out Tryz.underlying38 rfl (by kernel_rfl)
  go_wp2_with fail
  exact bodyPost_ret (v := .agg #[.slice b0 m0 d0, .slice b1a m1 d1, .slice b2 m2 d2, .slice b3 m3 d3, .slice ma mn mc, .slice ha hn hc, .int .i64 sl, .int .i64 le, .int .i64 cl]) (by simp [results, Tryz.results53, asAddr]; rw [LD]) rfl ⟨_, _, _, _, rfl, F.out, B6.out⟩
/-- The first machine that is refused. -/
def nhC : List (List Int) → Int
  | [] => 0
  | z :: t => if (newR z).1 = 0 then nhC t else (newR z).1
def bhC (P : Plc) (iss jss : List (List Int)) : Int := if loadC P iss = 0 then (if jss.length = P.own.length then nhC jss else 2) else loadC P iss
def voidX : Hst := ⟨⟨[], [], [], []⟩, [], [], 0, 0, 0⟩
def bhX (P : Plc) (iss jss : List (List Int)) : Hst := if bhC P iss jss = 0 then ⟨P, loadZ P iss, jss.map newV, 0, (P.plan.getD 0 (0, 0)).2, 0⟩ else voidX
theorem bh_not (P : Plc) (iss jss : List (List Int)) (h : bhC P iss jss ≠ 0) : bhX P iss jss = voidX := by rw [bhX, if_neg h]
theorem bh_yes (P : Plc) (iss jss : List (List Int)) (h : bhC P iss jss = 0) : bhX P iss jss = ⟨P, loadZ P iss, jss.map newV, 0, (P.plan.getD 0 (0, 0)).2, 0⟩ := by rw [bhX, if_pos h]
theorem nh_each : ∀ (jss : List (List Int)), nhC jss = 0 → ∀ z ∈ jss, (newR z).1 = 0
  | [], _, z, hz => by cases hz
  | a :: t, h, z, hz => by
    rw [nhC] at h
    split at h
    · rename_i h0
      rcases List.mem_cons.1 hz with rfl | hz
      · exact h0
      · exact nh_each t h z hz
    · rename_i h0
      exact absurd h h0
theorem nh_drop (jss : List (List Int)) (j : Nat) (hj : j < jss.length) (h : (newR (jss.getD j [])).1 = 0) : nhC (jss.drop j) = nhC (jss.drop (j + 1)) := by
  rw [List.drop_eq_getElem_cons hj, nhC, if_pos]
  rw [List.getD, List.getElem?_eq_getElem hj] at h
  exact h
theorem nh_stop (jss : List (List Int)) (j : Nat) (hj : j < jss.length) (h : (newR (jss.getD j [])).1 ≠ 0) : nhC (jss.drop j) = (newR (jss.getD j [])).1 := by
  have e : jss.getD j [] = jss[j] := by rw [List.getD, List.getElem?_eq_getElem hj]; rfl
  rw [e] at h ⊢
  rw [List.drop_eq_getElem_cons hj, nhC, if_neg h]
theorem tS_someX (P : Plc) (h : pfV P = 0) (c : Int) : ∃ j : Nat, j < P.plan.length ∧ (tS P c).1 = (j : Int) := by
  have rp := rd_pos P h
  have m0 : 0 ≤ c % rdV P.plan := Int.emod_nonneg _ (by omega)
  have m1 : c % rdV P.plan < rdV P.plan := Int.emod_lt_of_pos _ (by omega)
  obtain ⟨m, hm⟩ : ∃ m, c % rdV P.plan = m := ⟨_, rfl⟩
  rw [hm] at m0 m1
  have key : ∀ k, k ≤ P.plan.length → m < rdV (P.plan.take k) → ∃ j, j < k ∧ rdV (P.plan.take j) ≤ m ∧ m < rdV (P.plan.take (j + 1)) := by
    intro k
    induction k with
    | zero => intro _ h0; simp [rdV] at h0; omega
    | succ k ih =>
      intro hk h0
      by_cases h1 : m < rdV (P.plan.take k)
      · obtain ⟨j, hj, h2⟩ := ih (by omega) h1
        exact ⟨j, by omega, h2⟩
      · exact ⟨k, by omega, by omega, h0⟩
  obtain ⟨j, hj, h0, h1⟩ := key P.plan.length (Nat.le_refl _) (by rw [List.take_length]; exact m1)
  refine ⟨j, hj, ?_⟩
  rw [tS_at P h c j hj (by rw [hm]; exact h0) (by rw [hm]; exact h1)]
theorem load_pf {P : Plc} {iss : List (List Int)} (h : loadC P iss = 0) : pfV P = 0 := by
  unfold loadC at h
  split at h
  · assumption
  · rename_i k; exact absurd h k
theorem plan_pos {P : Plc} (h : pfV P = 0) : 0 < P.plan.length := by
  obtain ⟨j, hj, _⟩ := tS_someX P h 0
  omega
theorem tS_zero {P : Plc} (h : pfV P = 0) : tS P 0 = (0, (P.plan.getD 0 (0, 0)).2) := by
  have h0 := plan_pos h
  have h1 := (pf_plan P h).2 0 h0
  obtain ⟨z, hz⟩ : ∃ z, (P.plan.getD 0 (0, 0)).2 = z := ⟨_, rfl⟩
  have t1 : rdV (P.plan.take 1) = z := by rw [← hz, rdV_take P.plan 0 h0]; simp only [List.take_zero, rdV]; omega
  have t0 : rdV (P.plan.take 0) = 0 := by simp only [List.take_zero, rdV]
  rw [hz] at h1 ⊢
  have e := tS_at P h 0 0 h0 (by rw [t0]; simp) (by rw [t1]; simp; omega)
  rw [e, t1]
  simp
theorem newV_small (z : List Int) (h : (newR z).1 = 0) : (newV z).regs.length ≤ 1048576 ∧ (newV z).csr.length ≤ 1048576 ∧ (newV z).inn.length ≤ 1048576 ∧ (newV z).out.length ≤ 1048576 := by
  have : z.length ≤ 40 := by
    unfold newR at h
    split at h
    · cases h
    · omega
  exact ⟨by show (16 : Nat) ≤ _; decide, by show (11 : Nat) ≤ _; decide, by show z.length ≤ _; omega, by show (0 : Nat) ≤ _; decide⟩
theorem bh_small (P : Plc) (iss jss : List (List Int)) : Xsm (bhX P iss jss) := by
  by_cases h : bhC P iss jss = 0
  · rw [bh_yes P iss jss h]
    unfold bhC at h
    split at h
    case isFalse k => exact absurd h k
    rename_i hl
    split at h
    case isFalse k => cases h
    rename_i hj
    have pf := load_pf hl
    have pp := pf_parts P pf
    refine ⟨by have := pp.1; show P.own.length ≤ _; omega, fun i hi => ?_, by have := pp.2.2.2.2.1; show P.lanes.length ≤ _; omega, by have := pp.2.2.2.2.2.1; show P.bells.length ≤ _; omega, by have := (pf_plan P pf).1; show P.plan.length ≤ _; omega, by have := load_len P iss; show (loadZ P iss).length ≤ _; omega, by have := pp.1; show (jss.map newV).length ≤ _; rw [List.length_map]; omega, fun H hH => ?_⟩
    · have := (pf_own P pf i hi).2.1; show (P.own.getD i []).length ≤ _; omega
    · obtain ⟨z, hz, rfl⟩ := List.mem_map.1 hH
      exact newV_small z (nh_each jss h z hz)
  · rw [bh_not P iss jss h]
    exact ⟨by decide, fun i hi => by simp [voidX] at hi, by decide, by decide, by decide, by decide, by decide, fun H hH => by cases hH⟩
/-- A slice of slices of numbers, each of the call's own. -/
def SwN (w : World) (b : Nat) (a : Option Addr) (n c : Nat) (jss : List (List Int)) : Prop :=
  (a = none ∧ n = 0 ∧ c = 0 ∧ jss = []) ∨ ∃ g, a = some ⟨g, 0, none⟩ ∧ n ≤ c ∧ c ≤ maxLen ∧ jss.length = n ∧ ∀ i, i < n → ∃ x l k, w.cell? ⟨g, i, none⟩ = some (.slice x l k) ∧ Nums w b (.slice x l k) (jss.getD i [])
theorem SwN.keep {w w' : World} {b n c : Nat} {a : Option Addr} {jss : List (List Int)} (h : SwN w b a n c jss) (B : Below w.heap.size w w') : SwN w' b a n c jss := by
  rcases h with h | ⟨g, h1, h2, h3, h4, h5⟩
  · exact .inl h
  · exact .inr ⟨g, h1, h2, h3, h4, fun i hi => by obtain ⟨x, l, k, k1, k2⟩ := h5 i hi; exact ⟨x, l, k, cell_keep B k1, k2.keep B⟩⟩
theorem SwN.len {w : World} {b n c : Nat} {a : Option Addr} {jss : List (List Int)} (h : SwN w b a n c jss) : jss.length = n ∧ n ≤ c ∧ c ≤ maxLen := by
  rcases h with ⟨_, rfl, rfl, rfl⟩ | ⟨g, _, h2, h3, h4, _⟩
  · exact ⟨rfl, Nat.le_refl _, by unfold maxLen; omega⟩
  · exact ⟨h4, h2, h3⟩
theorem SSo.swn {w : World} {base g n : Nat} {oss : List (List Int)} (h : SSo w base g n oss) : SwN w base (some ⟨g, 0, none⟩) n n oss :=
  .inr ⟨g, rfl, Nat.le_refl _, by have := h.small; unfold maxLen; omega, h.len.symm, h.row⟩
def OwE (w : World) (base : Nat) (v0 v1 v2 v3 v4 v5 : Value) (X : Hst) : Prop := ∃ xs qs, Ow w base v0 v1 v2 v3 v4 v5 X xs qs
theorem OwE.keep {w w' : World} {base : Nat} {v0 v1 v2 v3 v4 v5 : Value} {X : Hst} (h : OwE w base v0 v1 v2 v3 v4 v5 X) (b : Below w.heap.size w w') : OwE w' base v0 v1 v2 v3 v4 v5 X := by
  obtain ⟨xs, qs, h⟩ := h; exact ⟨xs, qs, h.keep b⟩
theorem range_new (w : World) (cs : Array Value) (t : TypeId) : (w.alloc (.cells cs t)).rangeAt w.heap.size 0 cs.toList := fun j v hv => by
  rw [Nat.zero_add]
  exact cell_new (by rw [← Array.getElem?_toList]; exact hv)
end Go.Proofs.YtmgninipaigjfaaGreatDoor
