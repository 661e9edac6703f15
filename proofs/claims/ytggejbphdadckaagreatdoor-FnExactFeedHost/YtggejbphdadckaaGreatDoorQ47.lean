/- Texts of this seat, joined. -/
import Derived.Test.YtggejbphdadckaaGreatDoorQ25
import Derived.Test.YtggejbphdadckaaGreatDoorQ30
import Derived.Test.YtggejbphdadckaaGreatDoorQ44
import Derived.Test.YtggejbphdadckaaGreatDoorQ45
import Derived.Test.YtggejbphdadckaaGreatDoorQ46
namespace Go.Proofs.YtggejbphdadckaaGreatDoor
open Go.RowKit
set_option linter.unusedVariables false

def setL (xs : List Value) : Nat → List Value → List Value
  | _, [] => xs
  | o, v :: vs => setL (xs.set o v) (o + 1) vs
theorem setL_app (a : List Value) : ∀ (vs r : List Value) (o : Nat), setL (a ++ r) (a.length + o) vs = a ++ setL r o vs
  | [], r, o => rfl
  | v :: vs, r, o => by
    rw [setL, setL, List.set_append_right _ _ (by omega), Nat.add_sub_cancel_left, ← setL_app a vs (r.set o v) (o + 1)]
    rfl
theorem flat9_set : ∀ (qs : List (V4 × Ht)) (k : Nat) (q : V4) (H : Ht), k < qs.length → setL (flat9 qs) (k * 9) (cel9 q H) = flat9 (qs.set k (q, H))
  | [], k, q, H, h => by simp at h
  | x :: t, 0, q, H, h => rfl
  | x :: t, k + 1, q, H, h => by
    have h' : k < t.length := by simpa using h
    rw [List.set_cons_succ, flat9, flat9, ← flat9_set t k q H h', show (k + 1) * 9 = (cel9 x.1 x.2).length + k * 9 by show _ = 9 + k * 9; omega, setL_app]
theorem row_setL {base sz g n cap : Nat} {e : TypeId} : ∀ (vs : List Value) (w : World) (xs : List Value) (o : Nat), w.ownsRow base e sz (.slice (some ⟨g, 0, none⟩) n cap) n xs → (w.setCells g o vs).ownsRow base e sz (.slice (some ⟨g, 0, none⟩) n cap) n (setL xs o vs) ∧ w.grownBy (w.setCells g o vs) (some g)
  | [], w, xs, o, h => ⟨h, World.grownBy.refl _ _⟩
  | v :: vs, w, xs, o, h => by
    obtain ⟨h1, g1⟩ := World.ownsRow.stored h o v
    obtain ⟨h2, g2⟩ := row_setL vs _ _ (o + 1) h1
    exact ⟨h2, grown_trans g1 g2⟩
theorem map_snd_set : ∀ (qs : List (V4 × Ht)) (k : Nat) (q : V4) (H : Ht), (qs.set k (q, H)).map Prod.snd = (qs.map Prod.snd).set k H
  | [], k, q, H => rfl
  | x :: t, 0, q, H => rfl
  | x :: t, k + 1, q, H => by rw [List.set_cons_succ, List.map_cons, List.map_cons, List.set_cons_succ, map_snd_set t k q H]
/-- The host with one machine turned: all other rows stay. -/
theorem Oq.setH {w : World} {base g n cap k : Nat} {v0 v1 v2 v3 v4 : Value} {X : Hst} {r c i o : Value} {H : Ht} (h : Oq w base v0 v1 v2 v3 v4 (.slice (some ⟨g, 0, none⟩) n cap) X) (hk : k < X.harts.length) (m : Hm w base r c i o H) :
    Oq (w.setCells g (k * 9) (cel9 ⟨r, c, i, o⟩ H)) base v0 v1 v2 v3 v4 (.slice (some ⟨g, 0, none⟩) n cap) { X with harts := X.harts.set k H } ∧ w.grownBy (w.setCells g (k * 9) (cel9 ⟨r, c, i, o⟩ H)) (some g) ∧ base ≤ g := by
  obtain ⟨qs, h1, h2, h3⟩ := h.harts
  have hl : qs.length = X.harts.length := by rw [← h2, List.length_map]
  have hn : n = qs.length := by obtain ⟨_, ⟨e, _⟩ | ⟨_, _, _, e, _⟩⟩ := h1 <;> simp at e <;> omega
  rw [← hn] at h1
  have hb : base ≤ g := (World.ownsRow.lt h1 g rfl).1
  obtain ⟨k1, k2⟩ := row_setL (cel9 ⟨r, c, i, o⟩ H) w _ (k * 9) h1
  have KY : Ky (some 60) w (w.setCells g (k * 9) (cel9 ⟨r, c, i, o⟩ H)) := ky_grown h1 k2
  rw [flat9_set qs k ⟨r, c, i, o⟩ H (by omega)] at k1
  obtain ⟨xs, o1, o2, o3⟩ := h.own
  refine ⟨⟨⟨xs, o1, KY.row o2 (by decide), fun j x e => KY.row (o3 j x e) (by decide)⟩, KY.row h.lanes (by decide), KY.row h.bells (by decide), KY.row h.plan (by decide), KY.row h.mem (by decide), qs.set k (⟨r, c, i, o⟩, H), by rw [List.length_set, ← hn]; exact k1, by rw [map_snd_set, h2], fun q hq => ?_⟩, k2, hb⟩
  have mh : ∀ {q : V4 × Ht}, Hm w base q.1.r q.1.c q.1.i q.1.o q.2 → Hm (w.setCells g (k * 9) (cel9 ⟨r, c, i, o⟩ H)) base q.1.r q.1.c q.1.i q.1.o q.2 := fun m => ⟨KY.row m.r (by decide), KY.row m.c (by decide), KY.row m.i (by decide), KY.row m.o (by decide)⟩
  rcases List.mem_or_eq_of_mem_set hq with hq | rfl
  · exact mh (h3 q hq)
  · exact mh (q := (⟨r, c, i, o⟩, H)) m
/-- A part of a row of lists taken out and another one put in. -/
theorem pw_put {A Q B N : List Value} (h : (A ++ (Q ++ B)).Pairwise Apt) (hn : N.Pairwise Apt) (h1 : ∀ a ∈ A, ∀ x ∈ N, Apt a x) (h2 : ∀ x ∈ N, ∀ b ∈ B, Apt x b) : (A ++ (N ++ B)).Pairwise Apt := by
  obtain ⟨ha, hqb, haqb⟩ := List.pairwise_append.1 h
  obtain ⟨_, hb, _⟩ := List.pairwise_append.1 hqb
  refine List.pairwise_append.2 ⟨ha, List.pairwise_append.2 ⟨hn, hb, h2⟩, fun a ha' x hx => ?_⟩
  rcases List.mem_append.1 hx with hx | hx
  · exact h1 a ha' x hx
  · exact haqb a ha' x (List.mem_append_right _ hx)
theorem flat_put (qs : List (V4 × Ht)) (k : Nat) (q : V4 × Ht) (hk : k < qs.length) : qs.flatMap (fun q => q.1.l) = (qs.take k).flatMap (fun q => q.1.l) ++ (qs[k].1.l ++ (qs.drop (k + 1)).flatMap (fun q => q.1.l)) ∧ (qs.set k q).flatMap (fun q => q.1.l) = (qs.take k).flatMap (fun q => q.1.l) ++ (q.1.l ++ (qs.drop (k + 1)).flatMap (fun q => q.1.l)) := by
  constructor
  · conv => lhs; rw [← List.take_append_drop k qs, List.drop_eq_getElem_cons hk]
    rw [List.flatMap_append, List.flatMap_cons]
  · rw [List.set_eq_take_append_cons_drop, if_pos hk, List.flatMap_append, List.flatMap_cons]
/-- A host of the call's own with one machine turned, whose lists lie below. -/
theorem Ow.setH {w : World} {base b2 g n cap k : Nat} {v0 v1 v2 v3 v4 : Value} {X : Hst} {xs : List Value} {qs : List (V4 × Ht)} {q : V4} {H : Ht} (h : Ow w base v0 v1 v2 v3 v4 (.slice (some ⟨g, 0, none⟩) n cap) X xs qs) (hk : k < X.harts.length) (m : Hm w b2 q.r q.c q.i q.o H) (ha : q.l.Pairwise Apt) (hlt : ∀ v ∈ q.l, ∀ j, v.ownBlock = some j → j < base) (hb : b2 ≤ base) :
    Ow (w.setCells g (k * 9) (cel9 q H)) b2 v0 v1 v2 v3 v4 (.slice (some ⟨g, 0, none⟩) n cap) { X with harts := X.harts.set k H } xs (qs.set k (q, H)) ∧ w.grownBy (w.setCells g (k * 9) (cel9 q H)) (some g) ∧ base ≤ g := by
  have hl : qs.length = X.harts.length := by rw [← h.qh, List.length_map]
  have h1 := h.harts
  have hn : n = qs.length := by obtain ⟨_, ⟨e, _⟩ | ⟨_, _, _, e, _⟩⟩ := h1 <;> simp at e <;> omega
  rw [← hn] at h1
  have hbg : base ≤ g := (World.ownsRow.lt h1 g rfl).1
  obtain ⟨k1, k2⟩ := row_setL (cel9 q H) w _ (k * 9) h1
  have KY : Ky (some 60) w (w.setCells g (k * 9) (cel9 q H)) := ky_grown h1 k2
  rw [flat9_set qs k q H (by omega)] at k1
  have mh : ∀ {bb : Nat} {q : V4 × Ht}, Hm w bb q.1.r q.1.c q.1.i q.1.o q.2 → Hm (w.setCells g (k * 9) (cel9 ‹V4› H)) bb q.1.r q.1.c q.1.i q.1.o q.2 := fun m => ⟨KY.row m.r (by decide), KY.row m.c (by decide), KY.row m.i (by decide), KY.row m.o (by decide)⟩
  refine ⟨⟨row_monoX (KY.row h.own (by decide)) hb, h.xl, fun i x e => row_monoX (KY.row (h.rows i x e) (by decide)) hb, row_monoX (KY.row h.lanes (by decide)) hb, row_monoX (KY.row h.bells (by decide)) hb, row_monoX (KY.row h.plan (by decide)) hb, row_monoX (KY.row h.mem (by decide)) hb, ?_, by rw [map_snd_set, h.qh], fun x hx => ?_, ?_⟩, k2, hbg⟩
  · rw [List.length_set, ← hn]; exact row_monoX k1 hb
  · rcases List.mem_or_eq_of_mem_set hx with hx | rfl
    · exact (mh (h.lists x hx)).mono hb
    · exact mh (q := (q, H)) m
  · obtain ⟨e1, e2⟩ := flat_put qs k (q, H) (by omega)
    have hp := h.apart
    have lo : ∀ v ∈ (xs ++ v4 :: qs.flatMap fun q => q.1.l), ∀ j, v.ownBlock = some j → base ≤ j := fun v hv j e => by
      obtain ⟨_, nv⟩ := h.num v hv; exact (nv.lt j e).1
    rw [e1] at hp lo
    rw [e2]
    have hp' : ((xs ++ v4 :: (qs.take k).flatMap fun q => q.1.l) ++ (qs[k].1.l ++ (qs.drop (k + 1)).flatMap fun q => q.1.l)).Pairwise Apt := by simpa using hp
    have r := pw_put (N := q.l) hp' ha (fun a ha' x hx => (apt_sep (m := base) (hlt x hx) (lo a (by
      rcases List.mem_append.1 ha' with h | h
      · exact List.mem_append_left _ h
      · rcases List.mem_cons.1 h with rfl | h
        · exact List.mem_append_right _ (by simp)
        · exact List.mem_append_right _ (List.mem_cons_of_mem _ (List.mem_append_left _ h))))).swap) (fun x hx b hb' => apt_sep (m := base) (hlt x hx) (lo b (List.mem_append_right _ (List.mem_cons_of_mem _ (List.mem_append_right _ (List.mem_append_right _ hb'))))))
    simpa using r
theorem hoz_small {X : Hst} (h : Hoz X) : Xsm X := by
  have pp := pf_parts X.pol h.pf
  refine ⟨by have := h.own; omega, fun i hi => by have := (pf_own X.pol h.pf i hi).2.1; omega, by have := pp.2.2.2.2.1; omega, by have := pp.2.2.2.2.2.1; omega, by have := (pf_plan X.pol h.pf).1; omega, by have := h.ml; omega, by have := h.hl; have := h.own; omega, fun H hH => ?_⟩
  obtain ⟨i, hi, e⟩ := List.mem_iff_getElem.1 hH
  have k := h.ok i hi
  rw [List.getD, List.getElem?_eq_getElem hi] at k
  have k : Hok H := by rw [← e]; exact k
  exact ⟨by have := k.r16; omega, by have := k.c11; omega, by have := k.i40; omega, by have := k.o40; omega⟩
theorem fh_ok {X : Hst} {g : Int} {ys : List Int} (h : fhC X g ys = 0) : hoV X = 0 ∧ isG X.pol.own.length g = true ∧ (feedR (X.harts.getD g.toNat voidH) ys).1 = 0 := by
  unfold fhC at h
  split at h
  · rename_i h0
    split at h
    · rename_i h1
      exact ⟨h0, h1, h⟩
    · cases h
  · rename_i h0
    exact absurd h h0
theorem void_xsm : Xsm voidX := ⟨by decide, fun i hi => by simp [voidX] at hi, by decide, by decide, by decide, by decide, by decide, fun H hH => by cases hH⟩
theorem fh_small (X : Hst) (g : Int) (ys : List Int) : Xsm (fhX X g ys) := by
  by_cases h : fhC X g ys = 0
  · obtain ⟨h0, _, _⟩ := fh_ok h
    rw [fh_yes X g ys h]
    have s := hoz_small (hoz_of h0)
    refine ⟨s.s0, s.r0, s.s1, s.s2, s.s3, s.s4, by show (X.harts.set _ _).length ≤ _; rw [List.length_set]; exact s.s5, fun H hH => ?_⟩
    rcases List.mem_or_eq_of_mem_set hH with hH | rfl
    · exact s.h5 H hH
    · have t := feedR_tot (X.harts.getD g.toNat voidH) ys
      unfold totH at t
      exact ⟨by omega, by omega, by omega, by omega⟩
  · rw [fh_not X g ys h]
    exact void_xsm
end Go.Proofs.YtggejbphdadckaaGreatDoor
