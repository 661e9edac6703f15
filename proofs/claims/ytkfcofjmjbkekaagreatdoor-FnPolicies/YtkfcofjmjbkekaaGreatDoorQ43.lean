/- Texts of this seat, joined. -/
import Derived.OpenShut
import Derived.ChangeArms
import Derived.Test.YtkfcofjmjbkekaaGreatDoorQ34
import Derived.Test.YtkfcofjmjbkekaaGreatDoorQ42
namespace Go.Proofs.YtkfcofjmjbkekaaGreatDoor
open Go.RowKit
set_option linter.unusedVariables false

theorem spl_none (c : UInt8) (l cur : Wb) (h : c ∉ l) : spl c l cur = [cur ++ l] := by rw [spl_bef, if_neg h]
theorem spl_some (c : UInt8) : ∀ (a r cur : Wb), c ∉ a → spl c (a ++ c :: r) cur = (cur ++ a) :: spl c r []
  | [], r, cur, _ => by rw [List.nil_append, spl_consP, if_pos rfl, List.append_nil]
  | x :: a, r, cur, h => by
    have hx : ¬ x = c := fun e => h (by simp [e])
    rw [List.cons_append, spl_consP, if_neg hx, spl_some c a r _ (fun e => h (by simp [e]))]
    simp
/-- Pieces joined again. -/
theorem spl_join (c : UInt8) : ∀ (l cur x : Wb) (xs : List Wb), spl c l cur = x :: xs → cur ++ l = x ++ xs.flatMap (c :: ·)
  | [], cur, x, xs, h => by cases h; simp
  | y :: r, cur, x, xs, h => by
    rw [spl_consP] at h
    split at h
    · rename_i e
      cases h
      obtain ⟨x', xs', e'⟩ := List.exists_cons_of_ne_nil (spl_ne c r [])
      have := spl_join c r [] x' xs' e'
      rw [e', e, List.flatMap_cons]
      rw [List.nil_append] at this
      rw [this]
      simp
    · have := spl_join c r _ x xs h
      rw [← this]
      simp
theorem dec_no (n : Nat) (h : n < 1000) : (32 : UInt8) ∉ Lib.decDigits n ∧ (10 : UInt8) ∉ Lib.decDigits n := by
  have := (dec_ok n h).1.2.2.2
  rw [List.all_eq_true] at this
  exact ⟨fun e => absurd (this _ e) (by decide), fun e => absurd (this _ e) (by decide)⟩
def smI (zs : List Int) : Prop := ∀ z ∈ zs, 0 ≤ z ∧ z ≤ 999
theorem nm_dec (z : Int) (h0 : 0 ≤ z) (h1 : z ≤ 999) : nmP (Lib.decDigits z.toNat) = some z := by
  have := dec_ok z.toNat (by omega)
  unfold nmP
  rw [if_pos this.1, this.2]
  congr 1
  omega
theorem ns_dec : ∀ zs : List Int, smI zs → nsP (zs.map fun z => Lib.decDigits z.toNat) = some zs
  | [], _ => rfl
  | z :: t, h => by
    have hz := h z (by simp)
    rw [List.map_cons, nsP, nm_dec z hz.1 hz.2, ns_dec t fun x hx => h x (by simp [hx])]
theorem ns_text : ∀ (ws : List Wb) (zs : List Int), nsP ws = some zs → ws.flatMap (32 :: ·) = nsW zs
  | [], zs, h => by cases h; rfl
  | w :: t, zs, h => by
    unfold nsP at h
    split at h
    · rename_i z zs' e1 e2
      cases h
      have := ns_text t zs' e2
      rw [List.flatMap_cons, this, nsW, nsW, List.flatMap_cons, (nm_some e1).2.2.1]
    · cases h
theorem spl_ns (zs : List Int) (h : smI zs) : ∀ a cur : Wb, (32 : UInt8) ∉ a → spl 32 (a ++ nsW zs) cur = (cur ++ a) :: zs.map fun z => Lib.decDigits z.toNat := by
  induction zs with
  | nil => intro a cur ha; rw [nsW, List.flatMap_nil, List.append_nil, spl_none 32 a cur ha]; rfl
  | cons z t ih =>
    intro a cur ha
    have hz := h z (by simp)
    have e : a ++ nsW (z :: t) = a ++ 32 :: (Lib.decDigits z.toNat ++ nsW t) := by rw [nsW, List.flatMap_cons]; rfl
    rw [e, spl_some 32 _ _ _ ha, ih (fun x hx => h x (by simp [hx])) _ [] (dec_no _ (by omega)).1]
    rfl
theorem ns_no10 : ∀ zs : List Int, smI zs → (10 : UInt8) ∉ nsW zs
  | [], _ => by simp [nsW]
  | z :: t, h => by
    have hz := h z (by simp)
    rw [nsW, List.flatMap_cons]
    intro e
    rcases List.mem_append.1 e with e | e
    · rcases List.mem_cons.1 e with e | e
      · exact absurd e (by decide)
      · exact (dec_no _ (by omega)).2 e
    · exact ns_no10 t (fun x hx => h x (by simp [hx])) e
def wdW (f : Nat) : Wb := if f = 0 then wdO else if f = 1 then wdL else if f = 2 then wdB else wdS
theorem wd_no (f : Nat) : (32 : UInt8) ∉ wdW f ∧ (10 : UInt8) ∉ wdW f := by
  unfold wdW
  repeat' split
  all_goals exact ⟨by decide, by decide⟩
def cntW (f n : Nat) : Prop := (f = 0 ∧ 1 ≤ n ∧ n ≤ 9) ∨ (f = 1 ∧ n = 5) ∨ (f = 2 ∧ n = 2) ∨ (f = 3 ∧ n = 2)
theorem fm_wd {f n : Nat} (h : cntW f n) : fmP (wdW f) n = some f := by
  rcases h with ⟨rfl, h⟩ | ⟨rfl, rfl⟩ | ⟨rfl, rfl⟩ | ⟨rfl, rfl⟩
  · unfold fmP; rw [if_pos ⟨rfl, h⟩]
  · rfl
  · rfl
  · rfl
theorem fmp_of {w : Wb} {n f : Nat} (h : fmP w n = some f) : w = wdW f ∧ cntW f n := by
  unfold fmP at h
  split at h
  · rename_i e; cases h; exact ⟨e.1, .inl ⟨rfl, e.2⟩⟩
  · split at h
    · rename_i e; cases h; exact ⟨e.1, .inr (.inl ⟨rfl, e.2⟩)⟩
    · split at h
      · rename_i e; cases h; exact ⟨e.1, .inr (.inr (.inl ⟨rfl, e.2⟩))⟩
      · split at h
        · rename_i e; cases h; exact ⟨e.1, .inr (.inr (.inr ⟨rfl, e.2⟩))⟩
        · cases h
theorem ln_of (f : Nat) (zs : List Int) (h : smI zs) (hc : cntW f zs.length) : lnO (wdW f ++ nsW zs) = some (f, zs) := by
  unfold lnO
  rw [spl_ns zs h _ [] (wd_no f).1]
  show (match fmP (wdW f) ((zs.map fun z => Lib.decDigits z.toNat).length + 1 - 1), nsP (zs.map fun z => Lib.decDigits z.toNat) with
    | some k, some zs => some (k, zs)
    | _, _ => none) = _
  rw [List.length_map, Nat.add_sub_cancel, fm_wd hc, ns_dec zs h]
theorem ln_text {l : Wb} {f : Nat} {zs : List Int} (h : lnO l = some (f, zs)) : l ++ [10] = nlW (wdW f) zs ∧ smI zs ∧ cntW f zs.length := by
  unfold lnO at h
  obtain ⟨x, xs, e⟩ := List.exists_cons_of_ne_nil (spl_ne 32 l [])
  rw [e] at h
  split at h
  · rename_i k zs' e1 e2
    cases h
    have e1' : fmP x (xs.length + 1 - 1) = some f := e1
    have e2' : nsP xs = some zs := e2
    have h1 := fmp_of e1'
    have h2 := nsP_len xs zs e2'
    have h3 := spl_join 32 l [] x xs e
    rw [List.nil_append, h1.1, ns_text xs zs e2'] at h3
    exact ⟨by rw [h3]; rfl, ns_range xs zs e2', by rw [h2]; exact h1.2⟩
  · cases h
/-- Lines of one form, read. -/
theorem rd_lines (f : Nat) : ∀ (ls : List (List Int)) (r : Wb) (k i : Nat) (P : Plc), k ≤ f → (∀ zs ∈ ls, smI zs ∧ cntW f zs.length) →
    rdP (spl 10 (lsW (wdW f) ls ++ r) []) k i P = rdP (spl 10 r []) (if ls = [] then k else f) (i + ls.length) (ls.foldl (fun P z => adP P f z) P)
  | [], r, k, i, P, _, _ => by rw [lsW, List.flatMap_nil, List.nil_append, if_pos rfl]; rfl
  | z :: t, r, k, i, P, hk, h => by
    have hz := h z (by simp)
    have e : lsW (wdW f) (z :: t) ++ r = (wdW f ++ nsW z) ++ 10 :: (lsW (wdW f) t ++ r) := by
      rw [lsW, List.flatMap_cons, nlW]
      simp only [List.append_assoc, List.cons_append, List.nil_append]
      rfl
    have hn : (10 : UInt8) ∉ wdW f ++ nsW z := fun e => (List.mem_append.1 e).elim (wd_no f).2 (ns_no10 z hz.1)
    rw [e, spl_some 10 _ _ _ hn, List.nil_append, rdP, if_neg (spl_ne 10 _ _), ln_of f z hz.1 hz.2]
    show (if f < k then _ else _) = _
    rw [if_neg (by omega), rd_lines f t r f (i + 1) (adP P f z) (Nat.le_refl _) fun x hx => h x (by simp [hx]), List.foldl_cons]
    have e2 : (if t = [] then f else f) = f := by split <;> rfl
    have e3 : (if z :: t = [] then k else f) = f := if_neg (by simp)
    have e4 : i + 1 + t.length = i + (z :: t).length := by rw [List.length_cons]; omega
    rw [e3, e4]
    simp only [e2]
theorem fold0 (ls : List (List Int)) : ∀ P : Plc, ls.foldl (fun P z => adP P 0 z) P = ⟨P.own ++ ls, P.lanes, P.bells, P.plan⟩ := by
  induction ls with
  | nil => intro P; simp
  | cons z t ih => intro P; rw [List.foldl_cons, ih]; simp [adP]
theorem fold1 (ls : List Ln) : ∀ P : Plc, (ls.map ln5).foldl (fun P z => adP P 1 z) P = ⟨P.own, P.lanes ++ ls, P.bells, P.plan⟩ := by
  induction ls with
  | nil => intro P; simp
  | cons z t ih => intro P; rw [List.map_cons, List.foldl_cons, ih]; simp [adP, ln5]
theorem fold2 (ls : List (Int × Int)) : ∀ P : Plc, (ls.map pr2).foldl (fun P z => adP P 2 z) P = ⟨P.own, P.lanes, P.bells ++ ls, P.plan⟩ := by
  induction ls with
  | nil => intro P; simp
  | cons z t ih => intro P; rw [List.map_cons, List.foldl_cons, ih]; simp [adP, pr2]
theorem fold3 (ls : List (Int × Int)) : ∀ P : Plc, (ls.map pr2).foldl (fun P z => adP P 3 z) P = ⟨P.own, P.lanes, P.bells, P.plan ++ ls⟩ := by
  induction ls with
  | nil => intro P; simp
  | cons z t ih => intro P; rw [List.map_cons, List.foldl_cons, ih]; simp [adP, pr2]
/-- What may be told of a policy. -/
structure Tl (P : Plc) : Prop where
  own : ∀ z ∈ P.own, smI z ∧ 1 ≤ z.length ∧ z.length ≤ 9
  lanes : ∀ l ∈ P.lanes, smI (ln5 l)
  bells : ∀ b ∈ P.bells, smI (pr2 b)
  plan : ∀ b ∈ P.plan, smI (pr2 b)
/-- A policy's text, read, is the policy. -/
theorem rd_fm (P : Plc) (h : Tl P) : ∃ i, rdP (spl 10 (fmW P) []) 0 0 vdP = (0, i, P) ∧ i = 0 := by
  have e : fmW P = lsW (wdW 0) P.own ++ (lsW (wdW 1) (P.lanes.map ln5) ++ (lsW (wdW 2) (P.bells.map pr2) ++ (lsW (wdW 3) (P.plan.map pr2) ++ []))) := by
    have : (P.plan.map pr2).take P.plan.length = P.plan.map pr2 := List.take_of_length_le (by simp)
    unfold fmW fm3
    rw [this]
    simp only [List.append_assoc, List.append_nil]
    rfl
  have g0 : ∀ z ∈ P.own, smI z ∧ cntW 0 z.length := fun z hz => ⟨(h.own z hz).1, .inl ⟨rfl, (h.own z hz).2⟩⟩
  have g1 : ∀ z ∈ P.lanes.map ln5, smI z ∧ cntW 1 z.length := fun z hz => by obtain ⟨l, hl, rfl⟩ := List.mem_map.1 hz; exact ⟨h.lanes l hl, .inr (.inl ⟨rfl, rfl⟩)⟩
  have g2 : ∀ z ∈ P.bells.map pr2, smI z ∧ cntW 2 z.length := fun z hz => by obtain ⟨l, hl, rfl⟩ := List.mem_map.1 hz; exact ⟨h.bells l hl, .inr (.inr (.inl ⟨rfl, rfl⟩))⟩
  have g3 : ∀ z ∈ P.plan.map pr2, smI z ∧ cntW 3 z.length := fun z hz => by obtain ⟨l, hl, rfl⟩ := List.mem_map.1 hz; exact ⟨h.plan l hl, .inr (.inr (.inr ⟨rfl, rfl⟩))⟩
  have k1 : (if P.own = [] then 0 else 0) ≤ 1 := by split <;> omega
  have k2 : (if P.lanes.map ln5 = [] then (if P.own = [] then 0 else 0) else 1) ≤ 2 := by split <;> omega
  have k3 : (if P.bells.map pr2 = [] then (if P.lanes.map ln5 = [] then (if P.own = [] then 0 else 0) else 1) else 2) ≤ 3 := by split <;> omega
  rw [e, rd_lines 0 _ _ 0 0 vdP (Nat.le_refl _) g0, rd_lines 1 _ _ _ _ _ k1 g1, rd_lines 2 _ _ _ _ _ k2 g2, rd_lines 3 _ _ _ _ _ k3 g3, fold0, fold1, fold2, fold3, rd_end]
  exact ⟨0, rfl, rfl⟩
/-- Forms behind the least are not there yet. -/
def Bnd (P : Plc) (k : Nat) : Prop := (k ≤ 0 → P.lanes = []) ∧ (k ≤ 1 → P.bells = []) ∧ (k ≤ 2 → P.plan = [])
theorem five (z : List Int) (h : z.length = 5) : [z.getD 0 0, z.getD 1 0, z.getD 2 0, z.getD 3 0, z.getD 4 0] = z := by
  match z, h with
  | [a, b, c, d, e], _ => rfl
theorem two (z : List Int) (h : z.length = 2) : [z.getD 0 0, z.getD 1 0] = z := by
  match z, h with
  | [a, b], _ => rfl
theorem ls_app (wd : Wb) (a : List (List Int)) (z : List Int) : lsW wd (a ++ [z]) = lsW wd a ++ nlW wd z := by simp [lsW]
theorem fm_full (P : Plc) : fmW P = lsW wdOwn P.own ++ (lsW wdLane (P.lanes.map ln5) ++ (lsW wdBell (P.bells.map pr2) ++ lsW wdSlot (P.plan.map pr2))) := by
  have : (P.plan.map pr2).take P.plan.length = P.plan.map pr2 := List.take_of_length_le (by simp)
  unfold fmW fm3
  rw [this]
  simp only [List.append_assoc]
theorem fm_add (P : Plc) (k f : Nat) (zs : List Int) (hk : k ≤ f) (hb : Bnd P k) (hc : cntW f zs.length) : fmW (adP P f zs) = fmW P ++ nlW (wdW f) zs ∧ Bnd (adP P f zs) f := by
  obtain ⟨b0, b1, b2⟩ := hb
  rcases hc with ⟨rfl, h⟩ | ⟨rfl, h⟩ | ⟨rfl, h⟩ | ⟨rfl, h⟩
  · have e0 := b0 (by omega); have e1 := b1 (by omega); have e2 := b2 (by omega)
    refine ⟨?_, fun _ => e0, fun _ => e1, fun _ => e2⟩
    rw [fm_full, fm_full]
    show lsW wdOwn (P.own ++ [zs]) ++ (lsW wdLane (P.lanes.map ln5) ++ (lsW wdBell (P.bells.map pr2) ++ lsW wdSlot (P.plan.map pr2))) = _
    rw [e0, e1, e2, ls_app]
    simp [lsW]
    rfl
  · have e1 := b1 (by omega); have e2 := b2 (by omega)
    refine ⟨?_, fun h => by omega, fun _ => e1, fun _ => e2⟩
    rw [fm_full, fm_full]
    show lsW wdOwn P.own ++ (lsW wdLane ((P.lanes ++ [(⟨zs.getD 0 0, zs.getD 1 0, zs.getD 2 0, zs.getD 3 0, zs.getD 4 0⟩ : Ln)]).map ln5) ++ (lsW wdBell (P.bells.map pr2) ++ lsW wdSlot (P.plan.map pr2))) = _
    rw [e1, e2, List.map_append, List.map_cons, List.map_nil, ls_app]
    have e5 : ln5 ⟨zs.getD 0 0, zs.getD 1 0, zs.getD 2 0, zs.getD 3 0, zs.getD 4 0⟩ = zs := five zs h
    rw [e5]
    simp [lsW]
    rfl
  · have e2 := b2 (by omega)
    refine ⟨?_, fun h => by omega, fun h => by omega, fun _ => e2⟩
    rw [fm_full, fm_full]
    show lsW wdOwn P.own ++ (lsW wdLane (P.lanes.map ln5) ++ (lsW wdBell ((P.bells ++ [(zs.getD 0 0, zs.getD 1 0)]).map pr2) ++ lsW wdSlot (P.plan.map pr2))) = _
    rw [e2, List.map_append, List.map_cons, List.map_nil, ls_app]
    have e5 : pr2 (zs.getD 0 0, zs.getD 1 0) = zs := two zs h
    rw [e5]
    simp [lsW]
    rfl
  · refine ⟨?_, fun h => by omega, fun h => by omega, fun h => by omega⟩
    rw [fm_full, fm_full]
    show lsW wdOwn P.own ++ (lsW wdLane (P.lanes.map ln5) ++ (lsW wdBell (P.bells.map pr2) ++ lsW wdSlot ((P.plan ++ [(zs.getD 0 0, zs.getD 1 0)]).map pr2))) = _
    rw [List.map_append, List.map_cons, List.map_nil, ls_app]
    have e5 : pr2 (zs.getD 0 0, zs.getD 1 0) = zs := two zs h
    rw [e5]
    simp [lsW]
    rfl
theorem bef_aft (c : UInt8) (l : Wb) (h : c ∈ l) : befP c l ++ c :: aftP c l = l := by
  induction l with
  | nil => cases h
  | cons x r ih =>
    by_cases e : x = c
    · subst e
      simp [befP, aftP]
    · have hb : befP c (x :: r) = x :: befP c r := by unfold befP; rw [List.takeWhile_cons, if_pos (by simpa using e)]
      have ha : aftP c (x :: r) = aftP c r := by unfold aftP; rw [hb]; rfl
      have hm : c ∈ r := by
        rcases List.mem_cons.1 h with h | h
        · exact absurd h.symm e
        · exact h
      rw [hb, ha, List.cons_append, ih hm]
/-- A text that is a policy's is the policy's text. -/
theorem rd_text : ∀ (n : Nat) (tx : Wb) (k i : Nat) (P : Plc), tx.length < n → Bnd P k → (rdP (spl 10 tx []) k i P).1 = 0 → fmW (rdP (spl 10 tx []) k i P).2.2 = fmW P ++ tx := by
  intro n
  induction n with
  | zero => intro tx k i P h; omega
  | succ n ih =>
    intro tx k i P hl hb h
    by_cases h0 : tx = []
    · subst h0
      rw [rd_end, List.append_nil]
    · rw [rd_step tx h0] at h ⊢
      by_cases hm : (10 : UInt8) ∈ tx
      · rw [if_pos hm] at h ⊢
        cases e : lnO (befP 10 tx) with
        | none => rw [e] at h; exact absurd (show (5 : Int) = 0 from h) (by decide)
        | some p =>
          obtain ⟨f, zs⟩ := p
          rw [e] at h
          have h' : (if f < k then ((5 : Int), i, P) else rdP (spl 10 (aftP 10 tx) []) f (i + 1) (adP P f zs)).1 = 0 := h
          show fmW (if f < k then ((5 : Int), i, P) else rdP (spl 10 (aftP 10 tx) []) f (i + 1) (adP P f zs)).2.2 = _
          by_cases hf : f < k
          · rw [if_pos hf] at h'; exact absurd (show (5 : Int) = 0 from h') (by decide)
          · rw [if_neg hf] at h' ⊢
            obtain ⟨t1, t2, t3⟩ := ln_text e
            obtain ⟨a1, a2⟩ := fm_add P k f zs (by omega) hb t3
            rw [ih _ _ _ _ (by have := aft_short 10 tx hm; omega) a2 h', a1, ← t1]
            have := bef_aft 10 tx hm
            rw [List.append_assoc, List.append_assoc, List.cons_append, List.nil_append, this]
      · rw [if_neg hm] at h
        exact absurd (show (5 : Int) = 0 from h) (by decide)
theorem tl_G {n : Nat} {g : Int} (h : isG n g = true) (hn : n ≤ 3) : 0 ≤ g ∧ g ≤ 999 := by
  simp [isG] at h
  omega
theorem tl_ends {n : Nat} {f t : Int} (h : endsV n f t = 0) (hn : n ≤ 3) : (0 ≤ f ∧ f ≤ 999) ∧ (0 ≤ t ∧ t ≤ 999) := by
  unfold endsV at h
  split at h
  · cases h
  · rename_i h1
    simp only [not_or, Bool.not_eq_false] at h1
    exact ⟨tl_G h1.1 hn, tl_G h1.2 hn⟩
theorem tl_guests (own : List (List Int)) (h : guestsV own = 0) : ∀ z ∈ own, smI z ∧ 1 ≤ z.length ∧ z.length ≤ 9 := by
  induction own with
  | nil => intro o ho; cases ho
  | cons a t ih =>
    rw [guestsV] at h
    split at h
    · cases h
    · rename_i h1
      split at h
      · cases h
      · rename_i h2
        intro o ho
        rcases List.mem_cons.1 ho with rfl | ho
        · refine ⟨?_, by omega, by omega⟩
          have h3 : o.all pgOk = true := by simpa using h2
          rw [List.all_eq_true] at h3
          intro x hx
          have := h3 x hx
          simp [pgOk] at this
          omega
        · exact ih h o ho
theorem tl_lane {own : List (List Int)} {ahead : List Ln} {l : Ln} (h : laneV own ahead l = 0) (hn : own.length ≤ 3) : smI (ln5 l) := by
  unfold laneV at h
  split at h
  · rename_i h1
    have e := tl_ends h1 hn
    split at h
    · cases h
    · rename_i h2
      simp only [not_or, Bool.not_eq_false] at h2
      obtain ⟨a1, a2, a3⟩ := h2
      simp [pgOk] at a1
      simp [atOk] at a2 a3
      intro x hx
      simp [ln5] at hx
      rcases hx with rfl | rfl | rfl | rfl | rfl <;> omega
  · rename_i h1; exact absurd h h1
theorem tl_lanes (own : List (List Int)) (hn : own.length ≤ 3) (ls : List Ln) : ∀ ahead, lanesV own ahead ls = 0 → ∀ l ∈ ls, smI (ln5 l) := by
  induction ls with
  | nil => intro _ _ l hl; cases hl
  | cons a t ih =>
    intro ahead h l hl
    rw [lanesV] at h
    split at h
    · rename_i h1
      rcases List.mem_cons.1 hl with rfl | hl
      · exact tl_lane h1 hn
      · exact ih _ h l hl
    · rename_i h1; exact absurd h h1
theorem tl_bells (n : Nat) (hn : n ≤ 3) (ls : List (Int × Int)) : ∀ ahead, bellsV n ahead ls = 0 → ∀ l ∈ ls, smI (pr2 l) := by
  induction ls with
  | nil => intro _ _ l hl; cases hl
  | cons a t ih =>
    intro ahead h l hl
    rw [bellsV] at h
    split at h
    · rename_i h1
      rcases List.mem_cons.1 hl with rfl | hl
      · unfold bellV at h1
        split at h1
        · rename_i h2
          have e := tl_ends h2 hn
          intro x hx
          simp [pr2] at hx
          rcases hx with rfl | rfl <;> omega
        · rename_i h2; exact absurd h1 h2
      · exact ih _ h l hl
    · rename_i h1; exact absurd h h1
theorem tl_slots (n : Nat) (hn : n ≤ 3) (ls : List (Int × Int)) (h : slotsV n ls = 0) : ∀ l ∈ ls, smI (pr2 l) := by
  induction ls with
  | nil => intro l hl; cases hl
  | cons a t ih =>
    intro l hl
    rw [slotsV] at h
    split at h
    · rename_i h1
      rcases List.mem_cons.1 hl with rfl | hl
      · unfold slotV at h1
        split at h1
        · cases h1
        · rename_i h2
          split at h1
          · cases h1
          · rename_i h3
            have g1 := tl_G (by simpa using h2) hn
            have g2 : stOk l.2 = true := by simpa using h3
            simp [stOk] at g2
            intro x hx
            simp [pr2] at hx
            rcases hx with rfl | rfl <;> omega
      · exact ih h l hl
    · rename_i h1; exact absurd h h1
theorem pf_tl {P : Plc} (h : pfV P = 0) : Tl P := by
  have h1 := (or_zero h).1
  have h2 := (or_zero (or_zero h).2).1
  have h3 := (or_zero (or_zero h).2).2
  have h4 := (or_zero h1).1
  have h5 := (or_zero h2).1
  have h6 := (or_zero h2).2
  have h7 := (or_zero h3).1
  have h8 := (or_zero h3).2
  have n3 : P.own.length ≤ 3 := (fm_of h).o3
  unfold g1V at h4
  split at h4
  · cases h4
  · unfold g3V at h5
    split at h5
    · cases h5
    · unfold g6V at h8
      split at h8
      · cases h8
      · exact ⟨tl_guests _ h4, tl_lanes _ n3 _ _ h6, tl_bells _ n3 _ _ h7, tl_slots _ n3 _ h8⟩
/-- A right policy's text, where it is short enough, is read as the policy. -/
theorem pp_fm (P : Plc) (h : pfV P = 0) (hl : (fmW P).length ≤ 1000) : ppV (fmW P) = (0, 0, P) := by
  obtain ⟨i, e, _⟩ := rd_fm P (pf_tl h)
  unfold ppV
  rw [if_neg (by omega), e]
  show (if (0 : Int) = 0 then (if pfV P = 0 then ((0 : Int), 0, P) else (pfV P, 0, vdP)) else _) = _
  rw [if_pos rfl, if_pos h]
/-- What is read out of a text that is right is told by that text. -/
theorem pp_pf (tx : Wb) (h : (ppV tx).1 = 0) : pfV (ppV tx).2.2 = 0 := by
  unfold ppV at h ⊢
  split
  · rename_i h1; rw [if_pos h1] at h; exact absurd (show (2 : Int) = 0 from h) (by decide)
  · rename_i h1
    rw [if_neg h1] at h
    split
    · rename_i h2
      rw [if_pos h2] at h
      split
      · assumption
      · rename_i h3; rw [if_neg h3] at h; exact absurd h h3
    · rename_i h2
      rw [if_neg h2] at h
      exact absurd h h2
theorem fm_ok {P : Plc} (h : pfV P = 0) : fmR P = (0, fmW P) := by unfold fmR; rw [if_pos h]
theorem fm_no {P : Plc} (h : pfV P ≠ 0) : fmR P = (pfV P, []) := by unfold fmR; rw [if_neg h]
theorem fm_pp (tx : Wb) (h : (ppV tx).1 = 0) : fmW (ppV tx).2.2 = tx := by
  have hb : Bnd vdP 0 := ⟨fun _ => rfl, fun _ => rfl, fun _ => rfl⟩
  have hv : fmW vdP = [] := by rw [fm_full]; rfl
  unfold ppV at h ⊢
  split
  · rename_i h1; rw [if_pos h1] at h; exact absurd (show (2 : Int) = 0 from h) (by decide)
  · rename_i h1
    rw [if_neg h1] at h
    split
    · rename_i h2
      rw [if_pos h2] at h
      split
      · have := rd_text _ tx 0 0 vdP (Nat.lt_succ_self _) hb h2
        rw [hv, List.nil_append] at this
        exact this
      · rename_i h3; rw [if_neg h3] at h; exact absurd h h3
    · rename_i h2
      rw [if_neg h2] at h
      exact absurd h h2
end Go.Proofs.YtkfcofjmjbkekaaGreatDoor
namespace Go.Proofs.YtkfcofjmjbkekaaGreatDoor
open Go.RowKit
set_option linter.unusedVariables false

theorem forms_three {H : Type} {enc : TypeId × Value → H} {P : Program} {w : World} {base : Nat} {sp : Nat → Bool} {held : Bool} {fuel : Nat} {t e : TypeId} {n : Nat} {f0 f1 f2 : Field} {cs : List Value} {ds : List (DataW H)} {p : List MemPlace}
    (ht : P.underlying t = some (.array n e)) (he : P.underlying e = some (.struct #[f0, f1, f2])) (ce : P.cellsOf e = 3) (o0 : f0.offset = 0) (o1 : f1.offset = 1) (o2 : f2.offset = 2) (u0 : P.underlying f0.type = some .string) (c0 : P.cellsOf f0.type = 1)
    (u1 : P.underlying f1.type = some (.int .i64)) (c1 : P.cellsOf f1.type = 1) (u2 : P.underlying f2.type = some (.int .i64)) (c2 : P.cellsOf f2.type = 1)
    (h : DataW.trod enc P w base sp held fuel t cs = some (.agg ds, p)) (i : Nat) (hi : i < n) (s : List UInt8) (x y : Int) (hd : ds[i]? = some (.agg [.lit (.string s), .lit (.int .i64 x), .lit (.int .i64 y)])) :
    cs[i * 3]? = some (.string (bq s)) ∧ cs[i * 3 + 1]? = some (.int .i64 x) ∧ cs[i * 3 + 2]? = some (.int .i64 y) := by
  obtain ⟨xs, m, _, hx, _, hxl, hf⟩ := DataW.trod_array ht h
  have h1 := hf i hi
  rw [ce] at h1
  obtain ⟨y', hy⟩ : ∃ y, xs[i]? = some y := ⟨xs[i]'(by omega), List.getElem?_eq_getElem (by omega)⟩
  rw [hy] at h1
  obtain ⟨zs, k, _, hz, _, hzl, hg⟩ := DataW.trod_struct he h1
  have hds : ds = xs.map (·.1) := by
    have := congrArg Prod.fst hx
    simpa using this
  match zs, hzl with
  | [y0, y1, y2], _ =>
    have g0 := hg 0 f0 rfl
    have g1 := hg 1 f1 rfl
    have g2 := hg 2 f2 rfl
    simp only [o0, c0, List.drop_zero, List.getElem?_cons_zero] at g0
    simp only [o1, c1, List.getElem?_cons_succ, List.getElem?_cons_zero] at g1
    simp only [o2, c2, List.getElem?_cons_succ, List.getElem?_cons_zero] at g2
    obtain ⟨b, hb, rfl, _⟩ := DataW.trod_string u0 g0
    obtain ⟨b1, hb1, rfl, _⟩ := DataW.trod_int u1 g1
    obtain ⟨b2, hb2, rfl, _⟩ := DataW.trod_int u2 g2
    rw [hds, List.getElem?_map, hy, hz] at hd
    simp only [Option.map_some, List.map_cons, List.map_nil, Option.some.injEq, DataW.agg.injEq, List.cons.injEq, DataW.lit.injEq, Lit.string.injEq, Lit.int.injEq, true_and, and_true] at hd
    obtain ⟨rfl, rfl, rfl⟩ := hd
    have e : bq b.data.toList = b := rfl
    rw [e]
    have t0 := congrArg (·[0]?) hb
    have t1 := congrArg (·[0]?) hb1
    have t2 := congrArg (·[0]?) hb2
    refine ⟨?_, ?_, ?_⟩
    · simpa [List.getElem?_take, List.getElem?_drop] using t0
    · simpa [List.getElem?_take, List.getElem?_drop] using t1
    · simpa [List.getElem?_take, List.getElem?_drop] using t2
end Go.Proofs.YtkfcofjmjbkekaaGreatDoor
