/- Texts of this seat, joined. -/
import Derived.Test.YtdmlejfopmimfaaGreatDoorQ31
import Derived.Test.YtdmlejfopmimfaaGreatDoorQ40
namespace Go.Proofs.YtdmlejfopmimfaaGreatDoor
open Go.RowKit
set_option linter.unusedVariables false

/-- The words of a line, in one pass. -/
def lwP : Wb → List Wb → Wb → List Wb
  | [], ws, cur => fin ws cur
  | c :: r, ws, cur => if c = 32 then lwP r (fin ws cur) [] else lwP r ws (cur ++ [c])
theorem cut_line : ∀ (l r : Wb) (ws : List Wb) (cur : Wb), (∀ c ∈ l, c ≠ 10) → cutW (l ++ 10 :: r) ws cur = lwP l ws cur :: (if r = [] then [] else cutW r [] [])
  | [], r, ws, cur, _ => by rw [List.nil_append, cutW, if_pos rfl]; rfl
  | c :: l, r, ws, cur, h => by
    have h0 : c ≠ 10 := h c (by simp)
    have ih := fun ws cur => cut_line l r ws cur (fun x hx => h x (by simp [hx]))
    rw [List.cons_append, cutW, if_neg h0, lwP]
    split
    · exact ih _ _
    · exact ih _ _
theorem lw_word : ∀ (x r : Wb) (ws : List Wb) (cur : Wb), (∀ c ∈ x, c ≠ 32) → lwP (x ++ r) ws cur = lwP r ws (cur ++ x)
  | [], r, ws, cur, _ => by simp
  | c :: x, r, ws, cur, h => by
    have h0 : c ≠ 32 := h c (by simp)
    rw [List.cons_append, lwP, if_neg h0, lw_word x r ws _ (fun y hy => h y (by simp [hy]))]
    simp
/-- Words, a blank between two. -/
def jnP : List Wb → Wb
  | [] => []
  | [x] => x
  | x :: y :: r => x ++ 32 :: jnP (y :: r)
/-- A word: neither blank nor end within, not empty. -/
def wdP (x : Wb) : Prop := x ≠ [] ∧ ∀ c ∈ x, c ≠ 32 ∧ c ≠ 10
theorem lw_jn : ∀ (xs ws : List Wb), (∀ x ∈ xs, wdP x) → lwP (jnP xs) ws [] = ws ++ xs
  | [], ws, _ => by simp [jnP, lwP, fin]
  | [x], ws, h => by
    obtain ⟨h1, h2⟩ := h x (by simp)
    have := lw_word x [] ws [] (fun c hc => (h2 c hc).1)
    rw [List.append_nil] at this
    rw [jnP, this, List.nil_append, lwP, fin, if_neg h1]
  | x :: y :: r, ws, h => by
    obtain ⟨h1, h2⟩ := h x (by simp)
    rw [jnP, lw_word x _ ws [] (fun c hc => (h2 c hc).1), lwP, if_pos rfl, List.nil_append, fin, if_neg h1, lw_jn (y :: r) _ (fun z hz => h z (by simp at hz ⊢; exact .inr hz))]
    simp
theorem jn_end : ∀ (xs : List Wb), (∀ x ∈ xs, wdP x) → ∀ c ∈ jnP xs, c ≠ 10
  | [], _, c, hc => by simp [jnP] at hc
  | [x], h, c, hc => ((h x (by simp)).2 c hc).2
  | x :: y :: r, h, c, hc => by
    rw [jnP, List.mem_append, List.mem_cons] at hc
    rcases hc with hc | rfl | hc
    · exact ((h x (by simp)).2 c hc).2
    · decide
    · exact jn_end (y :: r) (fun z hz => h z (by simp at hz ⊢; exact .inr hz)) c hc
theorem jn_snoc : ∀ (xs : List Wb) (x : Wb), xs ≠ [] → jnP (xs ++ [x]) = jnP xs ++ 32 :: x
  | [], x, h => absurd rfl h
  | [y], x, _ => rfl
  | y :: z :: r, x, _ => by
    have := jn_snoc (z :: r) x (by simp)
    rw [List.cons_append, List.cons_append, jnP, ← List.cons_append, this, jnP]
    simp
/-! Numbers. -/
theorem dec_allP (n : Nat) : (Lib.decDigits n).all (withinB 48 57) = true := by
  induction n using Nat.strongRecOn with
  | ind n ih =>
    rw [Lib.decDigits]
    have hb : ∀ k, k < 10 → withinB 48 57 (UInt8.ofNat (48 + k)) = true := by decide
    split
    · simpa using hb n (by omega)
    · rw [List.all_append, ih (n / 10) (by omega)]
      simpa using hb (n % 10) (by omega)
theorem dec_neP (n : Nat) : Lib.decDigits n ≠ [] := by
  rw [Lib.decDigits]
  split <;> simp
theorem dec_dvl (n : Nat) : dvl (Lib.decDigits n) = n := by
  induction n using Nat.strongRecOn with
  | ind n ih =>
    rw [Lib.decDigits]
    have hb : ∀ k, k < 10 → (UInt8.ofNat (48 + k)).toNat = 48 + k := by decide
    split
    · simp only [dvl, digS, List.foldl_cons, List.foldl_nil, hb n (by omega)]
      omega
    · have := ih (n / 10) (by omega)
      unfold dvl at this ⊢
      simp only [List.foldl_append, this, digS, List.foldl_cons, List.foldl_nil, hb (n % 10) (by omega)]
      omega
theorem dec_short : ∀ (k n : Nat), n < 10 ^ (k + 1) → (Lib.decDigits n).length ≤ k + 1
  | 0, n, h => by
    rw [Lib.decDigits, dif_pos (by simpa using h)]
    simp
  | k + 1, n, h => by
    rw [Lib.decDigits]
    split
    · simp
    · have := dec_short k (n / 10) (by rw [Nat.pow_succ] at h; omega)
      simp
      omega
theorem dec_num (n : Nat) (h : n < 10000000000) : numO (Lib.decDigits n) = some n := by
  have h1 := dec_short 9 n (by simpa using h)
  have h2 : allW 48 57 (Lib.decDigits n) = true := by
    unfold allW
    rw [dec_allP]
    have := dec_neP n
    simpa using this
  rw [numO, if_pos ⟨h1, h2⟩, dec_dvl]
theorem dec_wd (n : Nat) : wdP (Lib.decDigits n) := by
  refine ⟨dec_neP n, fun c hc => ?_⟩
  have := List.all_eq_true.1 (dec_allP n) c hc
  unfold withinB at this
  simp at this
  constructor <;> (rintro rfl; revert this; decide)
/-! Names. -/
def nmL (k : Nat) : Wb := (nm k).data.toList
theorem nm_bq (k : Nat) : bq (nmL k) = nm k := rfl
theorem nm_wd (k : Nat) (h : k < 27) (h1 : 1 ≤ k) : wdP (nmL k) ∧ nmL k ≠ labW ∧ nmL k ≠ wordW ∧ opnF (nm k) 26 1 = some k := by
  have : ∀ k, k < 27 → 1 ≤ k → (nmL k ≠ [] ∧ (∀ c ∈ nmL k, c ≠ 32 ∧ c ≠ 10)) ∧ nmL k ≠ labW ∧ nmL k ≠ wordW := by decide
  obtain ⟨a, b, c⟩ := this k h h1
  refine ⟨a, b, c, ?_⟩
  match k, h, h1 with
  | 1, _, _ => rfl
  | 2, _, _ => rfl
  | 3, _, _ => rfl
  | 4, _, _ => rfl
  | 5, _, _ => rfl
  | 6, _, _ => rfl
  | 7, _, _ => rfl
  | 8, _, _ => rfl
  | 9, _, _ => rfl
  | 10, _, _ => rfl
  | 11, _, _ => rfl
  | 12, _, _ => rfl
  | 13, _, _ => rfl
  | 14, _, _ => rfl
  | 15, _, _ => rfl
  | 16, _, _ => rfl
  | 17, _, _ => rfl
  | 18, _, _ => rfl
  | 19, _, _ => rfl
  | 20, _, _ => rfl
  | 21, _, _ => rfl
  | 22, _, _ => rfl
  | 23, _, _ => rfl
  | 24, _, _ => rfl
  | 25, _, _ => rfl
  | 26, _, _ => rfl
/-! Lines. -/
def arP (b : Bool) (n : Nat) : List Wb := if b then [] else [Lib.decDigits n]
def insW (k d a i : Nat) : List Wb := nmL k :: (arP (bareD k) d ++ arP (bareA k) a ++ arP (bareI k) i)
theorem told_list (s t : ByteArray) (b : Bool) : (told s b t).data.toList = if b then s.data.toList else s.data.toList ++ 32 :: t.data.toList := by
  unfold told
  cases b
  · simp [ByteArray.data_append]
  · simp
theorem ar_jn (xs : List Wb) (hx : xs ≠ []) (b : Bool) (n : Nat) : jnP (xs ++ arP b n) = if b then jnP xs else jnP xs ++ 32 :: Lib.decDigits n := by
  cases b
  · simp only [arP, Bool.false_eq_true, if_false]; exact jn_snoc xs _ hx
  · simp [arP]
theorem insT_jn (k d a i : Nat) : (insT k d a i).data.toList = jnP (insW k d a i) := by
  have e : insW k d a i = (([nmL k] ++ arP (bareD k) d) ++ arP (bareA k) a) ++ arP (bareI k) i := by simp [insW]
  have dl : ∀ n, (decB n).data.toList = Lib.decDigits n := fun n => by simp [decB]
  rw [e, ar_jn _ (by simp), ar_jn _ (by simp), ar_jn _ (by simp), insT, told_list, told_list, told_list, dl, dl, dl]
  rfl
theorem ar_wd (b : Bool) (n : Nat) : ∀ x ∈ arP b n, wdP x := by
  intro x hx
  cases b
  · simp [arP] at hx; subst hx; exact dec_wd n
  · simp [arP] at hx
theorem insW_wd (k d a i : Nat) (h : k < 27) (h1 : 1 ≤ k) : ∀ x ∈ insW k d a i, wdP x := by
  intro x hx
  simp only [insW, List.mem_cons, List.mem_append] at hx
  rcases hx with rfl | (hx | hx) | hx
  · exact (nm_wd k h h1).1
  · exact ar_wd _ _ x hx
  · exact ar_wd _ _ x hx
  · exact ar_wd _ _ x hx
/-- The words of the line of a word. -/
def lnW (z : Int) : List Wb := if decF z = 0 then insW (z / 16777216).toNat (z / 1048576 % 16).toNat (z / 65536 % 16).toNat (z % 65536).toNat else [wordW, Lib.decDigits z.toNat]
theorem wordW_wd : wdP wordW := by
  have : wordW ≠ [] ∧ ∀ c ∈ wordW, c ≠ 32 ∧ c ≠ 10 := by decide
  exact this
theorem lnW_wd (z : Int) : ∀ x ∈ lnW z, wdP x := by
  unfold lnW
  split
  · rename_i h
    have hb := insC_bounds h
    exact insW_wd _ _ _ _ (by omega) (by omega)
  · intro x hx
    simp at hx
    rcases hx with rfl | rfl
    · exact wordW_wd
    · exact dec_wd _
theorem dsL_jn (z : Int) : dsL z = jnP (lnW z) ++ [10] := by
  unfold dsL lnW
  by_cases h : decF z = 0
  · rw [if_pos h, if_pos h, insB, insS, if_pos (show insC _ _ _ _ = 0 from h), insT_jn]
  · rw [if_neg h, if_neg h]
    simp [nlW, nsW, jnP, wordW]
theorem cut_ds : ∀ (zs : List Int), cutT (dsW zs) = zs.map lnW
  | [] => rfl
  | z :: zs => by
    have e : dsW (z :: zs) = jnP (lnW z) ++ 10 :: dsW zs := by
      rw [dsW, List.flatMap_cons, dsL_jn, List.append_assoc]
      rfl
    have ih := cut_ds zs
    have hw := lnW_wd z
    rw [e, cutT, if_neg (by simp), cut_line _ _ _ _ (jn_end _ hw), lw_jn _ _ hw, List.map_cons, List.nil_append]
    rw [← ih, cutT]
theorem lnW_img (z : Int) : labB (lnW z) = false ∧ imgB (lnW z) = true := by
  have h0 : ∃ x r, lnW z = x :: r ∧ x ≠ labW := by
    unfold lnW
    split
    · rename_i h
      have hb := insC_bounds h
      exact ⟨_, _, rfl, (nm_wd _ (by omega) (by omega)).2.1⟩
    · exact ⟨_, _, rfl, by decide⟩
  obtain ⟨x, r, e, hx⟩ := h0
  rw [e]
  simp [labB, imgB, hx]
theorem labR_ds : ∀ (zs : List Int) (k p : Nat) (acc : List Lbl), labR (zs.map lnW) k p acc = (0, 0, acc)
  | [], k, p, acc => rfl
  | z :: zs, k, p, acc => by
    rw [List.map_cons, labR, (lnW_img z).1]
    simp only [Bool.false_eq_true, if_false]
    exact labR_ds zs _ _ acc
theorem arg_num (ls : List Lbl) (here : Nat) (far last : Bool) (n : Nat) (h : n < 10000000000) : argO ls here far last (Lib.decDigits n) = (0, (n : Int)) := by
  rw [argO, dec_num n h]
  rfl
theorem args_ar (ls : List Lbl) (here : Nat) (far b : Bool) (n : Nat) (h : n < 10000000000) (r : List Wb) (acc : List Int) :
    argsA ls here far (arP b n ++ r) acc = argsA ls here far r (acc ++ if b then [] else [(n : Int)]) := by
  cases b
  · simp only [arP, Bool.false_eq_true, if_false, List.cons_append, List.nil_append]
    rw [argsA, arg_num _ _ _ _ _ h, if_pos rfl]
  · simp [arP]
theorem ar_len (b : Bool) (n : Nat) : (arP b n).length = if b then 0 else 1 := by cases b <;> rfl
theorem line_ins (ls : List Lbl) (here k d a i : Nat) (h : insC k d a i = 0) : lineV ls here (insW k d a i) = (0, encV k d a i) := by
  have hb := insC_bounds h
  obtain ⟨_, _, hnw, ho⟩ := nm_wd k (by omega) (by omega)
  have e1 : (insW k d a i).getD 0 [] = nmL k := rfl
  have e2 : (insW k d a i).drop 1 = arP (bareD k) d ++ (arP (bareA k) a ++ (arP (bareI k) i ++ [])) := by simp [insW]
  rw [lineV, e1, if_neg hnw, e2, nm_bq, ho, lineO]
  have hl : (arP (bareD k) d ++ (arP (bareA k) a ++ (arP (bareI k) i ++ []))).length = wantN k := by
    simp only [List.length_append, ar_len, List.length_nil, wantN]
    omega
  rw [if_pos hl, args_ar _ _ _ _ _ (by omega), args_ar _ _ _ _ _ (by omega), args_ar _ _ _ _ _ (by omega), argsA, codeO, if_pos rfl, insL]
  have hz := h
  unfold insC at hz
  rw [if_pos hb] at hz
  have hc : (((k : Int) ≠ 13 ∧ (k : Int) ≠ 19 ∧ (k : Int) ≠ 21 ∨ (a : Int) = 0) ∧ ((k : Int) ≠ 22 ∨ (d : Int) = 0) ∧ ((k : Int) < 23 ∨ (d : Int) = 0 ∧ (a : Int) = 0 ∧ (i : Int) = 0)) := by
    split at hz
    · rename_i g; exact ⟨g.1, g.2.1, g.2.2.1⟩
    · omega
  have dD : bareD k = true → (d : Int) = 0 := by intro hh; unfold bareD at hh; simp at hh; omega
  have dA : bareA k = true → (a : Int) = 0 := by intro hh; unfold bareA at hh; simp at hh; omega
  have dI : bareI k = true → (i : Int) = 0 := by intro hh; unfold bareI at hh; simp at hh; omega
  have E : ∀ z : List Int, z = ([] ++ (if bareD k then [] else [(d : Int)]) ++ (if bareA k then [] else [(a : Int)]) ++ if bareI k then [] else [(i : Int)]) → arD k z = d ∧ arA k z = a ∧ arI k z = i := by
    rintro z rfl
    unfold arD arA arI
    cases h1 : bareD k <;> cases h2 : bareA k <;> cases h3 : bareI k <;> simp [h1, h2, h3] at dD dA dI ⊢ <;> omega
  obtain ⟨E1, E2, E3⟩ := E _ rfl
  rw [E1, E2, E3, h]
theorem line_ds (ls : List Lbl) (here : Nat) (z : Int) (hz : isW z = true) : lineV ls here (lnW z) = (0, z) := by
  have hz' : 0 ≤ z ∧ z ≤ 4294967295 := by unfold isW at hz; simpa using hz
  unfold lnW
  by_cases h : decF z = 0
  · rw [if_pos h]
    have hb := insC_bounds h
    have hh := h
    have hd := dec_back h
    unfold decF at hh
    obtain ⟨k, hk⟩ : ∃ k : Nat, z / 16777216 = k := ⟨(z / 16777216).toNat, by omega⟩
    obtain ⟨d, hd'⟩ : ∃ k : Nat, z / 1048576 % 16 = k := ⟨(z / 1048576 % 16).toNat, by omega⟩
    obtain ⟨a, ha⟩ : ∃ k : Nat, z / 65536 % 16 = k := ⟨(z / 65536 % 16).toNat, by omega⟩
    obtain ⟨i, hi⟩ : ∃ k : Nat, z % 65536 = k := ⟨(z % 65536).toNat, by omega⟩
    rw [hk, hd', ha, hi] at hh hd ⊢
    have := line_ins ls here k d a i hh
    rw [hd] at this
    exact this
  · rw [if_neg h, lineV, if_pos (show ([wordW, Lib.decDigits z.toNat] : List Wb).getD 0 [] = wordW from rfl)]
    have e : ([wordW, Lib.decDigits z.toNat] : List Wb).drop 1 = [Lib.decDigits z.toNat] := rfl
    rw [e, plainV, if_pos (show ([Lib.decDigits z.toNat] : List Wb).length = 1 from rfl)]
    have e0 : ([Lib.decDigits z.toNat] : List Wb).getD 0 [] = Lib.decDigits z.toNat := rfl
    rw [e0, dec_num _ (by omega), plainO, if_pos (by omega)]
    congr 1
    omega
theorem asmR_ds (ls : List Lbl) : ∀ (zs : List Int) (k : Nat) (acc : List Int), zs.all isW = true → asmR ls (zs.map lnW) k acc = (0, 0, acc ++ zs)
  | [], k, acc, _ => by simp [asmR]
  | z :: zs, k, acc, h => by
    simp only [List.all_cons, Bool.and_eq_true] at h
    rw [List.map_cons, asmR, (lnW_img z).2, if_pos rfl, line_ds _ _ _ h.1, if_pos rfl, asmR_ds ls zs _ _ h.2]
    simp
theorem dsC_zero {zs : List Int} (h : dsC zs = 0) : zs.length ≤ 80 ∧ zs.all isW = true := by
  unfold dsC at h
  split at h
  · cases h
  · split at h
    · cases h
    · rename_i h1 h2
      exact ⟨by omega, by simpa using h2⟩
/-- Words are read back from their lines. -/
theorem asm_ds {zs : List Int} (h : dsC zs = 0) (hl : (dsT zs).length ≤ 1500) : asmV (dsT zs) = (0, 0, zs) := by
  obtain ⟨h1, h2⟩ := dsC_zero h
  rw [dsT, if_pos h] at hl ⊢
  have hc := cut_ds zs
  have hll : (linesM (dsW zs)).length ≤ 80 := by rw [← cutT_len, hc, List.length_map]; exact h1
  have hv : labV (dsW zs) = (0, 0, []) := by
    rw [labV, if_neg (by omega), hc]
    exact labR_ds zs 0 0 []
  rw [asmV, hv, if_pos rfl, hc, asmR_ds _ _ _ _ h2, List.nil_append]
theorem asm_long {tx : Wb} (h : 1500 < tx.length) : (asmV tx).1 = 2 := by
  have : labV tx = (2, 0, []) := by rw [labV, if_pos (.inl h)]
  rw [asmV, this]
  rfl
theorem line_word {ls : List Lbl} {here : Nat} {ws : List Wb} (h : (lineV ls here ws).1 = 0) : isW (lineV ls here ws).2 = true := by
  have hins : ∀ op z, (insL op z).1 = 0 → isW (insL op z).2 = true := by
    intro op z h
    unfold insL at h ⊢
    have hb := insC_bounds h
    simp only [encV, if_pos h] at *
    unfold isW
    simp
    omega
  unfold lineV at h ⊢
  split at h
  · rename_i h0
    rw [if_pos h0]
    unfold plainV at h ⊢
    split at h
    · rename_i h1
      rw [if_pos h1]
      cases hn : numO ((ws.drop 1).getD 0 []) with
      | none => rw [hn] at h; simp [plainO] at h
      | some n =>
        rw [hn] at h
        unfold plainO at h ⊢
        simp only at h ⊢
        split at h
        · rename_i h2
          rw [if_pos h2]
          unfold isW
          simp
          omega
        · simp at h
    · simp at h
  · rename_i h0
    rw [if_neg h0]
    cases ho : opnF (bq (ws.getD 0 [])) 26 1 with
    | none => rw [ho] at h; simp [lineO] at h
    | some op =>
      rw [ho] at h
      unfold lineO at h ⊢
      simp only at h ⊢
      split at h
      · rename_i h1
        rw [if_pos h1]
        unfold codeO at h ⊢
        split at h
        · rename_i h2
          rw [if_pos h2]
          exact hins _ _ h
        · rename_i h2
          exact absurd h h2
      · simp at h
theorem asmR_word (ls : List Lbl) : ∀ (W : List (List Wb)) (k : Nat) (acc : List Int), acc.all isW = true → (asmR ls W k acc).2.2.all isW = true
  | [], k, acc, h => h
  | ws :: r, k, acc, h => by
    rw [asmR]
    split
    · split
      · rename_i h1
        refine asmR_word ls r (k + 1) _ ?_
        rw [List.all_append, h, List.all_cons, line_word h1]
        rfl
      · rfl
    · exact asmR_word ls r (k + 1) acc h
/-- Lines that are read tell words. -/
theorem ds_asm {tx : Wb} (h : (asmV tx).1 = 0) : dsC (asmV tx).2.2 = 0 := by
  have hw : (asmV tx).2.2.all isW = true := by
    rw [asmV]
    split
    · exact asmR_word _ _ _ _ rfl
    · rfl
  have hl : (asmV tx).2.2.length ≤ 80 := by
    by_cases h0 : (labV tx).1 = 0
    · have h2 := asmR_len (labV tx).2.2 (cutT tx) 0 []
      have h3 : (cutT tx).length ≤ 80 := by
        rw [cutT_len]
        unfold labV at h0
        split at h0
        · cases h0
        · omega
      rw [asmV, if_pos h0]
      simp at h2
      omega
    · rw [asmV, if_neg h0]
      simp
  rw [dsC, if_neg (by omega), if_neg (by simp [hw])]
end Go.Proofs.YtdmlejfopmimfaaGreatDoor
