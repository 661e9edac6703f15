/- Texts of this seat, joined. -/
import Derived.RowKit
import Derived.Laws.BitsAllLaws
import Derived.OrdersHeld
import Derived.Lib.ItoaNum
import Derived.Laws.IdiomStrings
import Derived.Deep.RegionWith
import Derived.OwnWalk
import Derived.WalkMore
import Derived.ScopeJumps
import Derived.Deep.Cut
import Derived.Laws.AppendOwn
import Derived.Lib.SmallJoins
import Derived.Test.YtkfcofjmjbkekaaGreatDoorShelf
import Derived.Lib.AppendStr
import Derived.Lib.AppendIntMem
import Derived.Test.YtkfcofjmjbkekaaGreatDoorQ01
import Derived.Test.YtkfcofjmjbkekaaGreatDoorQ03
import Derived.Test.YtkfcofjmjbkekaaGreatDoorQ08
import Derived.Test.YtkfcofjmjbkekaaGreatDoorQ10
namespace Go.Proofs.YtkfcofjmjbkekaaGreatDoor
open Go.RowKit

def wd (n : Int) : Int := n % 4294967296
end Go.Proofs.YtkfcofjmjbkekaaGreatDoor
namespace Go.Proofs.YtkfcofjmjbkekaaGreatDoor
open Go.RowKit
set_option linter.unusedVariables false

variable {P : Program} {ops : Array Oper} {Q : Exit → Act → World → Prop} {md : Region.Mode} {S : World → Prop} {z : Nat}
/-- Each order from here on; z: the operation behind which S is not asked. -/
def Hz (P : Program) (md : Region.Mode) (ops : Array Oper) (Q : Exit → Act → World → Prop) (S : World → Prop) (z : Nat) : Nat → Array Bool → Act → World → Prop
  | 0, L, a, w => Region.ready md ops L = [] ∧ Q .normal a w
  | n + 1, L, a, w => (Region.ready md ops L = [] → Q .normal a w) ∧ ∀ i ∈ Region.ready md ops L, wpOp P ops Q i (fun a' w' => (i ≠ z → S w') ∧ Hz P md ops Q S z n (L.setIfInBounds i true) a' w') a w
theorem hz_any : ∀ (n : Nat) (L : Array Bool) (a : Act) (w : World), Hz P md ops Q S z n L a w → wpAny P md ops Q n L a w
  | 0, _, _, _, h => h
  | n + 1, _, _, _, h => ⟨h.1, fun i hi => wpOp_mono (fun _ _ k => hz_any n _ _ _ k.2) (h.2 i hi)⟩
theorem hz_region {id : Nat} {a : Act} {w : World} (S : World → Prop) (z : Nat) (hm : P.follows .mixedOrders = true) (h : Hz P .any ops Q S z ops.size (Array.replicate ops.size false) a w.drew) : (Code.region id ops true).wp P Q a w :=
  wp_region_any hm (hz_any _ _ _ _ h)
/-- The operation i is taken now, though others might come first: it reads what none of them turns but z, which waits for it. -/
theorem hz_first {i : Nat} {oi : Oper} {v : Value} (hi : ops[i]? = some oi) (hsel : ∀ (j : Nat) (o : Oper) cs b, ops[j]? = some o → o.op ≠ .select cs b) (hz : ∀ oz, ops[z]? = some oz → ∃ e ∈ oz.after, Region.binds md e = true ∧ e.on = i) (hzi : i ≠ z)
    (hQ : ∀ c a w, Q (.panic c) (a.put oi.dst v) w → Q (.panic c) a w) : ∀ (n : Nat) (L : Array Bool) (a : Act) (w : World),
      (∀ j oj, ops[j]? = some oj → j ≠ i → L.getD j true = false → (∀ e ∈ oj.after, Region.binds md e = true → e.on ≠ i) → oi.apart ops oj = true) →
      i ∈ Region.ready md ops L → YieldsIf P ops S oi v a → S w → Hz P md ops Q S z n (L.setIfInBounds i true) (a.put oi.dst v) w → Hz P md ops Q S z (n + 1) L a w := by
  intro n
  induction n with
  | zero =>
    intro L a w _ hr hy hS H
    refine ⟨fun h => (by rw [h] at hr; cases hr), fun j hj => ?_⟩
    rcases Nat.decEq j i with hji | hji
    · have k := ready_mono hj hji
      rw [H.1] at k
      cases k
    · subst hji
      exact hy.wpOp hi hS ⟨fun _ => hS, H⟩
  | succ n ih =>
    intro L a w hfree hr hy hS H
    refine ⟨fun h => (by rw [h] at hr; cases hr), fun j hj => ?_⟩
    rcases Nat.decEq j i with hji | hji
    · obtain ⟨hun, oj, hoj, hall⟩ := mem_ready.1 hj
      have hin := (mem_ready.1 hr).1
      have hno : ∀ e ∈ oj.after, Region.binds md e = true → e.on ≠ i := fun e he hb heq => by
        have k := hall e he hb
        rw [heq] at k
        rcases Nat.lt_or_ge i L.size with h' | h'
        · simp [h'] at hin k; rw [hin] at k; cases k
        · simp [Array.getElem?_eq_none h'] at k
      have hjz : j ≠ z := fun e => by
        subst e
        obtain ⟨e, he, hb, heq⟩ := hz oj hoj
        exact hno e he hb heq
      refine wpOp_mono (fun a' w' k => ⟨fun _ => k.2.1 hjz, ih (L.setIfInBounds j true) a' w' ?_ (ready_mono hr (Ne.symm hji)) k.1 (k.2.1 hjz) ?_⟩) (wpOp_putIf hoj (hfree j oj hoj hji hun hno) (fun cs b => hsel i oi cs b hi) (fun cs b => hsel j oj cs b hoj) hQ hy (H.2 j (ready_mono hj hji)))
      · intro k ok hk hki hku hkn
        refine hfree k ok hk hki ?_ hkn
        by_cases hjk : j = k
        · subst hjk; exact hun
        · rw [getD_set_ne true hjk] at hku; exact hku
      · rw [Array.setIfInBounds_comm _ _ hji]
        exact k.2.2
    · subst hji
      exact hy.wpOp hi hS ⟨fun _ => hS, H⟩
theorem hz_take {i : Nat} {oi oz : Oper} {v : Value} {n : Nat} {L : Array Bool} {a : Act} {w : World} (hi : ops[i]? = some oi) (hoz : ops[z]? = some oz) (hz : (oz.after.toList.any fun e => Region.binds md e && decide (e.on = i)) = true) (hzi : i ≠ z)
    (hs : Region.noSelect ops = true) (hf : Region.free md ops L i = true) (hr : (Region.ready md ops L).contains i = true)
    (hQ : ∀ c a w, Q (.panic c) (a.put oi.dst v) w → Q (.panic c) a w) (hy : YieldsIf P ops S oi v a) (hS : S w) (h : Hz P md ops Q S z n (L.setIfInBounds i true) (a.put oi.dst v) w) : Hz P md ops Q S z (n + 1) L a w :=
  hz_first hi (Region.noSelect_spec hs) (fun oz' e => by
    rw [hoz] at e
    cases e
    obtain ⟨e, he, k⟩ := List.any_eq_true.1 hz
    simp only [Bool.and_eq_true, decide_eq_true_eq] at k
    exact ⟨e, by simpa using he, k.1, k.2⟩) hzi hQ n L a w (Region.free_spec hi hf) (by simpa using hr) hy hS h
/-- Whichever is ready comes next. -/
theorem hz_ready {rs : List Nat} {n : Nat} {L : Array Bool} {a : Act} {w : World} (hr : Region.ready md ops L = rs) (hne : rs ≠ [])
    (h : ∀ i ∈ rs, wpOp P ops Q i (fun a' w' => (i ≠ z → S w') ∧ Hz P md ops Q S z n (L.setIfInBounds i true) a' w') a w) : Hz P md ops Q S z (n + 1) L a w :=
  ⟨fun h0 => absurd (hr ▸ h0) hne, hr ▸ h⟩
theorem hz_op {i : Nat} {o : Oper} {K : Act → World → Prop} {a : Act} {w : World} (hi : ops[i]? = some o) (h : if Region.wanted o (yielded ops a.tmps) = true then Oper.wp P o a w K Q else K (a.put o.dst undef) w) : wpOp P ops Q i K a w := by
  unfold wpOp
  simp only [hi]
  split at h
  · rename_i hw; rw [if_pos hw]; exact .inl h
  · rename_i hw; rw [if_neg hw]; exact h
theorem hz_done {n : Nat} {L : Array Bool} {a : Act} {w : World} (hr : Region.ready md ops L = []) (h : Q .normal a w) : Hz P md ops Q S z n L a w := by
  cases n with
  | zero => exact ⟨hr, h⟩
  | succ n => exact ⟨fun _ => h, by rw [hr]; simp⟩
theorem hz_next {i n : Nat} {o : Oper} {L : Array Bool} {a : Act} {w : World} (hi : ops[i]? = some o) (h : ∀ K : Act → World → Prop, Hid (∀ a' w', (i ≠ z → S w') → Hz P md ops Q S z n (L.setIfInBounds i true) a' w' → K a' w') → if Region.wanted o (yielded ops a.tmps) = true then Oper.wp P o a w K Q else K (a.put o.dst undef) w) : wpOp P ops Q i (fun a' w' => (i ≠ z → S w') ∧ Hz P md ops Q S z n (L.setIfInBounds i true) a' w') a w :=
  hz_op hi (h _ fun a' w' h1 h2 => ⟨h1, h2⟩)
theorem hz_nil {p : Nat → Prop} : ∀ i ∈ ([] : List Nat), p i := fun i hi => by cases hi
theorem hz_cons {p : Nat → Prop} {x : Nat} {t : List Nat} (h1 : p x) (h2 : ∀ i ∈ t, p i) : ∀ i ∈ x :: t, p i := fun i hi => by
  rcases List.mem_cons.1 hi with rfl | hi
  · exact h1
  · exact h2 i hi
theorem hz_enter {o : Oper} {a : Act} {w : World} {K : Act → World → Prop} {R : Ending → World → Prop} (f : FuncId) (args : Array Value) (hw : Region.wanted o (yielded ops a.tmps) = true) (he : ∀ w, (execOp a.eval o).run P w = .ok (.enter f args) w) (hc : Calls P f args w R) (h : ∀ e w', R e w' → ∃ v, e = .returned v ∧ K (a.put o.dst v) w') :
    if Region.wanted o (yielded ops a.tmps) = true then Oper.wp P o a w K Q else K (a.put o.dst undef) w := by
  rw [if_pos hw]
  unfold Oper.wp
  rw [he w]
  exact hc.mono fun e w' r => by obtain ⟨v, rfl, k⟩ := h e w' r; exact k
theorem hz_value {o : Oper} {a : Act} {w w' : World} {K : Act → World → Prop} (v : Value) (hw : Region.wanted o (yielded ops a.tmps) = true) (he : (execOp a.eval o).run P w = .ok (.value v) w') (h : K (a.put o.dst v) w') :
    if Region.wanted o (yielded ops a.tmps) = true then Oper.wp P o a w K Q else K (a.put o.dst undef) w := by
  rw [if_pos hw]
  unfold Oper.wp
  rw [he]
  exact h
/-- A name for the goal: each state is then a fact of its own. -/
theorem hz_name {n : Nat} {L : Array Bool} {a : Act} {w : World} (h : ∀ G : Nat → Array Bool → Act → World → Prop, Hid (G = Hz P md ops Q S z) → G n L a w) : Hz P md ops Q S z n L a w := h _ rfl
end Go.Proofs.YtkfcofjmjbkekaaGreatDoor
namespace Go.Proofs.YtkfcofjmjbkekaaGreatDoor
open Go.RowKit

theorem dec_small {n : Nat} (h : n < 10) : Lib.decDigits n = [UInt8.ofNat (48 + n)] := by rw [Lib.decDigits, dif_pos h]
theorem dec_big {n : Nat} (h : ¬ n < 10) : Lib.decDigits n = Lib.decDigits (n / 10) ++ [UInt8.ofNat (48 + n % 10)] := by rw [Lib.decDigits, dif_neg h]

theorem conv_one (W : World) (b z : Nat) (hz : z < 256) (v : Int) (hv : v = z) (h : W.cell? ⟨b, 0, none⟩ = some (.int .u8 v)) :
    (convert 22 9 (.slice (some ⟨b, 0, none⟩) 1 1)).run Tryz.prog W = .ok (.string ⟨#[UInt8.ofNat z]⟩) W := by
  have := run_convert_bytes_back (P := Tryz.prog) W 22 9 5 ⟨b, 0, none⟩ 1 [UInt8.ofNat z] (by kernel_rfl) (by kernel_rfl) (by kernel_rfl) (by
    intro j hj
    obtain rfl : j = 0 := by simpa using hj
    have e : ((UInt8.ofNat z).toNat : Int) = v := by rw [UInt8.toNat_ofNat', hv]; omega
    show W.cell? ⟨b, 0 + 0, none⟩ = some (.int .u8 ((UInt8.ofNat z).toNat : Int))
    rw [e]
    exact h)
  exact this

theorem size_mk (l : List UInt8) : (⟨l.toArray⟩ : ByteArray).size = l.length := by simp [ByteArray.size]
theorem bytes_snoc (l : List UInt8) (D : UInt8) : (⟨(l ++ [D]).toArray⟩ : ByteArray) = ⟨l.toArray⟩ ++ ⟨#[D]⟩ := by
  apply ByteArray.ext
  simp [ByteArray.data_append]
theorem dec_len : ∀ (n k : Nat), n < 10 ^ (k + 1) → (Lib.decDigits n).length ≤ k + 1
  | n, 0, h => by rw [dec_small (by omega)]; simp
  | n, k + 1, h => by
    by_cases hn : n < 10
    · rw [dec_small hn]; simp
    · rw [dec_big hn]
      have := dec_len (n / 10) k (by rw [Nat.pow_succ] at h; omega)
      simp
      omega

theorem spec_digits_small (n : Nat) (h : n < 10) (w : World) : Calls Tryz.prog 72 #[.int .i64 n] w fun e w' => e = .returned (.string ⟨(Lib.decDigits n).toArray⟩) ∧ Below w.heap.size w w' := by
  rw [dec_small h]
  have h1 : (n : Int) < 10 := by omega
  have hcv := conv_one (w.alloc (.cells #[.int .u8 (48 + (n : Int))] 5)) w.heap.size (48 + n) (by omega) (48 + (n : Int)) (by omega) (cell_new (by simp))
  generalize UInt8.ofNat (48 + n) = D at *
  go_enter Tryz.func72, Tryz.ntmps72
  go_wp2
  go_ret
  exact ⟨rfl, al (Below.refl _ _) _⟩

set_option maxHeartbeats 1000000 in
theorem spec_digits_big (n : Nat) (h : ¬ n < 10) (hn : n < 4294967296) (w : World) (ih : ∀ w, Calls Tryz.prog 72 #[.int .i64 ((n / 10 : Nat) : Int)] w fun e w' => e = .returned (.string ⟨(Lib.decDigits (n / 10)).toArray⟩) ∧ Below w.heap.size w w') :
    Calls Tryz.prog 72 #[.int .i64 n] w fun e w' => e = .returned (.string ⟨(Lib.decDigits n).toArray⟩) ∧ Below w.heap.size w w' := by
  rw [dec_big h]
  have h1 : ¬ (n : Int) < 10 := by omega
  have e1 : ((n / 10 : Nat) : Int) = IntKind.i64.wrap ((n : Int) / 10) := by rw [IntKind.wrap_i64]; omega
  have e2 : IntKind.u8.wrap (IntKind.i64.wrap (48 + (n : Int).tmod 10)) = ((48 + n % 10 : Nat) : Int) := by
    rw [IntKind.wrap_i64, IntKind.wrap_u8, Int.tmod_eq_emod_of_nonneg (by omega)]; omega
  rw [e1] at ih
  have hcv := fun W b => conv_one W b (48 + n % 10) (by omega) _ e2
  clear h e1 e2
  generalize UInt8.ofNat (48 + n % 10) = D at *
  have eq : (⟨(Lib.decDigits (n / 10) ++ [D]).toArray⟩ : ByteArray) = ⟨(Lib.decDigits (n / 10)).toArray⟩ ++ ⟨#[D]⟩ := bytes_snoc _ _
  rw [eq]
  have z0 : (⟨(Lib.decDigits (n / 10)).toArray⟩ : ByteArray).size < 9223372036854775807 := by
    have := dec_len (n / 10) 9 (by omega)
    rw [size_mk]
    omega
  clear eq
  generalize (⟨(Lib.decDigits (n / 10)).toArray⟩ : ByteArray) = s at *
  have z1 : ¬ 9223372036854775807 < s.size + 1 := by omega
  have z2 : ¬ 9223372036854775807 ≤ s.size := by omega
  go_enter Tryz.func72, Tryz.ntmps72
  go_wp2
  go_region_with (go_at_call 72; refine (ih _).mono ?_; rintro e w1 ⟨rfl, hb⟩; obtain ⟨hc, hz⟩ := bcell hb)
  all_goals go_wp2
  all_goals go_ret
  all_goals first
    | exact ⟨rfl, al (on (Below.refl _ _) hb) _⟩
    | exact ⟨rfl, al (on (Below.refl _ _).drew hb) _⟩
    | exact ⟨rfl, al (on (Below.refl _ _).drew.drew hb) _⟩
    | exact ⟨rfl, on (al (Below.refl _ _) _) hb⟩
    | exact ⟨rfl, on (al (Below.refl _ _) _).drew hb⟩
    | exact ⟨rfl, on (al (Below.refl _ _) _).drew.drew hb⟩
    | exact ⟨rfl, on (al (Below.refl _ _) _).drew.drew.drew hb⟩

theorem spec_digits (n : Nat) (hn : n < 4294967296) : ∀ w : World, Calls Tryz.prog 72 #[.int .i64 n] w fun e w' => e = .returned (.string ⟨(Lib.decDigits n).toArray⟩) ∧ Below w.heap.size w w' := by
  induction n using Nat.strongRecOn with
  | ind n ih =>
    intro w
    by_cases h : n < 10
    · exact spec_digits_small n h w
    · exact spec_digits_big n h hn w (ih (n / 10) (by omega) (by omega))
end Go.Proofs.YtkfcofjmjbkekaaGreatDoor
namespace Go.Proofs.YtkfcofjmjbkekaaGreatDoor
open Go.RowKit
set_option linter.unusedVariables false

abbrev Wb := List UInt8
def bq (l : Wb) : ByteArray := ⟨l.toArray⟩
theorem bq_size (l : Wb) : (bq l).size = l.length := by simp [bq, ByteArray.size]
theorem bq_of (s : ByteArray) : s = bq s.data.toList := rfl
/-- Pieces between separators. -/
def spl (sep : UInt8) : Wb → Wb → List Wb
  | [], cur => [cur]
  | c :: r, cur => if c = sep then cur :: spl sep r [] else spl sep r (cur ++ [c])
theorem spl_ne (sep : UInt8) (r cur : Wb) : spl sep r cur ≠ [] := by
  induction r generalizing cur with
  | nil => simp [spl]
  | cons c r ih => unfold spl; split <;> simp [ih]
end Go.Proofs.YtkfcofjmjbkekaaGreatDoor
namespace Go.Proofs.YtkfcofjmjbkekaaGreatDoor
open Go.RowKit
set_option linter.unusedVariables false

theorem info_strL : (Tryz.prog.info? 9).map (fun i => (i.zero, i.size, i.bytes)) = some (some (.string ⟨#[]⟩), 1, 16) := by kernel_rfl
theorem own_typesL {w : World} {base base' e e' sz sz' n m : Nat} {v u : Value} {xs ys : List Value} (h : w.ownsRow base e sz v n xs) (k : w.ownsRow base' e' sz' u m ys) (hne : e ≠ e') : v.ownBlock = none ∨ v.ownBlock ≠ u.ownBlock := by
  obtain ⟨h1, ⟨rfl, h3⟩ | ⟨g, cap, cur, rfl, hg, hr, rest⟩⟩ := h
  · exact .inl rfl
  · obtain ⟨k1, ⟨rfl, k3⟩ | ⟨g', cap', cur', rfl, kg, kr, rest'⟩⟩ := k
    · exact .inr (fun e => by cases e)
    · refine .inr fun e => ?_
      cases e
      rw [hr] at kr
      cases kr
      exact hne rfl
theorem below_grownL {w w' : World} (h : Below w.heap.size w w') (row : Option Nat) : w.grownBy w' row := ⟨h.os, h.tape, h.output, h.size, fun k hk _ => h.block k hk⟩
theorem owns_keepL {w w' : World} {base n sz : Nat} {e : TypeId} {v : Value} {xs : List Value} (h : w.ownsRow base e sz v n xs) (hb : Below w.heap.size w w') : w'.ownsRow base e sz v n xs := by
  refine h.kept (below_grownL hb none) ?_
  cases v.ownBlock <;> simp
theorem owns_mono {w : World} {base base' n sz : Nat} {e : TypeId} {v : Value} {xs : List Value} (h : w.ownsRow base e sz v n xs) (hb : base' ≤ base) : w.ownsRow base' e sz v n xs := by
  obtain ⟨h1, h2 | ⟨g, cap, cur, hv, hg, rest⟩⟩ := h
  · exact ⟨h1, .inl h2⟩
  · exact ⟨h1, .inr ⟨g, cap, cur, hv, Nat.le_trans hb hg, rest⟩⟩
def strs (ss : List Wb) : List Value := ss.map fun l => .string (bq l)
/-- A row of strings of the call's own. -/
def Os (w : World) (base : Nat) (v : Value) (ss : List Wb) : Prop := w.ownsRow base 9 1 v ss.length (strs ss)
theorem Os.keep {w w' : World} {base : Nat} {v : Value} {ss : List Wb} (h : Os w base v ss) (hb : Below w.heap.size w w') : Os w' base v ss := owns_keepL h hb
theorem Os.nil (w : World) (base : Nat) : Os w base (.slice none 0 0) [] := World.ownsRow_nil w base _ _
theorem Os.mono {w : World} {base base' : Nat} {v : Value} {ss : List Wb} (h : Os w base v ss) (hb : base' ≤ base) : Os w base' v ss := owns_mono h hb
theorem Os.lt {w : World} {base : Nat} {v : Value} {ss : List Wb} (h : Os w base v ss) : ∀ k, v.ownBlock = some k → base ≤ k ∧ k < w.heap.size := World.ownsRow.lt h
theorem Os.kept {w w' : World} {base : Nat} {v : Value} {ss : List Wb} {row : Option Nat} (h : Os w base v ss) (hg : w.grownBy w' row) (hne : v.ownBlock = none ∨ v.ownBlock ≠ row) : Os w' base v ss := World.ownsRow.kept h hg hne
theorem Os.shape {w : World} {base : Nat} {v : Value} {ss : List Wb} (h : Os w base v ss) : ∃ a cap, v = .slice a ss.length cap ∧ ss.length ≤ cap ∧ cap ≤ maxLen ∧ (a = none → ss = []) ∧ (∀ x, a = some x → ∃ g, x = ⟨g, 0, none⟩) := by
  obtain ⟨h1, ⟨rfl, h3⟩ | ⟨g, cap, cur, rfl, hg, hr, h4, h5, h6⟩⟩ := h
  · have : ss.length = 0 := h3
    exact ⟨none, 0, by rw [this], by omega, by unfold maxLen; omega, fun _ => List.eq_nil_of_length_eq_zero this, fun x e => by cases e⟩
  · exact ⟨some ⟨g, 0, none⟩, cap, rfl, h4, h5, (fun e => by cases e), (fun x e => by cases e; exact ⟨g, rfl⟩)⟩
/-- Lines so far: a row of slices, each a row of strings below a bound. -/
def Li (w : World) (b0 hi : Nat) (v : Value) (ls : List (List Wb)) : Prop :=
  ∃ vs : List Value, w.ownsRow b0 64 1 v ls.length vs ∧ vs.length = ls.length ∧ ∀ j, j < ls.length → Os w b0 (vs.getD j undef) (ls.getD j []) ∧ ∀ g, (vs.getD j undef).ownBlock = some g → g < hi
theorem Li.nil (w : World) (b0 hi : Nat) : Li w b0 hi (.slice none 0 0) [] := ⟨[], World.ownsRow_nil w b0 _ _, rfl, fun j hj => absurd hj (Nat.not_lt_zero _)⟩
theorem Li.shape {w : World} {b0 hi : Nat} {v : Value} {ls : List (List Wb)} (h : Li w b0 hi v ls) : ∃ a cap, v = .slice a ls.length cap := by
  obtain ⟨vs, ⟨h1, ⟨rfl, h3⟩ | ⟨g, cap, cur, rfl, hg, hr, h4, h5, h6⟩⟩, _⟩ := h
  · have : ls.length = 0 := h3
    exact ⟨none, 0, by rw [this]⟩
  · exact ⟨some ⟨g, 0, none⟩, cap, rfl⟩
theorem Li.keep {w w' : World} {b0 hi : Nat} {v : Value} {ls : List (List Wb)} (h : Li w b0 hi v ls) (hb : Below w.heap.size w w') : Li w' b0 hi v ls := by
  obtain ⟨vs, h1, h2, h3⟩ := h
  exact ⟨vs, owns_keepL h1 hb, h2, fun j hj => ⟨(h3 j hj).1.keep hb, (h3 j hj).2⟩⟩
theorem Li.mono {w : World} {b0 hi hi' : Nat} {v : Value} {ls : List (List Wb)} (h : Li w b0 hi v ls) (hb : hi ≤ hi') : Li w b0 hi' v ls := by
  obtain ⟨vs, h1, h2, h3⟩ := h
  exact ⟨vs, h1, h2, fun j hj => ⟨(h3 j hj).1, fun g hg => Nat.lt_of_lt_of_le ((h3 j hj).2 g hg) hb⟩⟩
/-- A row of strings above the bound grows: the lines stay. -/
theorem Li.words {w w' : World} {b0 hi : Nat} {v u : Value} {ls : List (List Wb)} {ss : List Wb} (h : Li w b0 hi v ls) (k : Os w hi u ss) (hg : w.grownBy w' u.ownBlock) : Li w' b0 hi v ls := by
  obtain ⟨vs, h1, h2, h3⟩ := h
  refine ⟨vs, h1.kept hg (own_typesL h1 k (by decide)), h2, fun j hj => ⟨(h3 j hj).1.kept hg ?_, (h3 j hj).2⟩⟩
  cases e : (vs.getD j undef).ownBlock with
  | none => exact .inl rfl
  | some g =>
    refine .inr fun e2 => ?_
    have := (h3 j hj).2 g e
    have := (k.lt g e2.symm).1
    omega
theorem strs_app (a b : List Wb) : strs (a ++ b) = strs a ++ strs b := by simp [strs]
theorem wp_pushL {ops : Array Oper} {rest : List Oper} {o : Oper} {act : Act} {Q : Exit → Act → World → Prop} (w : World) (hgd : o.guard = none) (s x : Operand)
    (ho : o.op = .call { callee := .builtin .append, args := #[s, x], argTypes := #[64, 64] }) (base : Nat) (v : Value) (ss : List Wb)
    (hs : act.eval s = v) (hown : Os w base v ss) (g : Nat) (t : Wb) (hx : act.eval x = .slice (some ⟨g, 0, none⟩) 1 1) (hg : w.cell? ⟨g, 0, none⟩ = some (.string (bq t)))
    (hn : ss.length ≤ 2000000) (hbase : base ≤ w.heap.size)
    (h : ∀ v' w', Os w' base v' (ss ++ [t]) → w.grownBy w' v.ownBlock → wpList Tryz.prog ops Q rest (act.put o.dst v') w') :
    wpList Tryz.prog ops Q (o :: rest) act w := by
  obtain ⟨i, hi, hz0, hz1, hz2⟩ := info_parts info_strL
  refine wpList_append_own w hgd s x 64 ho base 9 i _ 1 16 Tryz.underlying64 hi hz0 hz1 hz2 rfl (by decide) v ss.length (strs ss) hs hown ⟨g, 0, none⟩ 1 1 [.string (bq t)] hx rfl ?_ ?_ (by unfold maxLen; omega) (by omega) hbase ?_
  · intro j u hj
    have hj0 : j = 0 := by
      have := (List.getElem?_eq_some_iff.1 hj).1
      simpa using this
    subst hj0
    have hu : Value.string (bq t) = u := by simpa using hj
    subst hu
    exact hg
  · intro u hu
    simp at hu
    subst hu
    rfl
  · intro v' w' h1 h2 _
    refine h v' w' ?_ h2
    unfold Os
    rw [List.length_append, strs_app]
    exact h1
end Go.Proofs.YtkfcofjmjbkekaaGreatDoor
namespace Go.Proofs.YtkfcofjmjbkekaaGreatDoor
open Go.RowKit
set_option linter.unusedVariables false

def isW (z : Int) : Bool := decide (0 ≤ z) && decide (z ≤ 4294967295)
end Go.Proofs.YtkfcofjmjbkekaaGreatDoor
namespace Go.Proofs.YtkfcofjmjbkekaaGreatDoor
open Go.RowKit
set_option linter.unusedVariables false

theorem bq_get (l : Wb) (j : Nat) (h : j < (bq l).size) : (bq l)[j]'h = l.getD j 0 := by
  have hl : j < l.length := by rw [bq_size] at h; exact h
  rw [List.getD, List.getElem?_eq_getElem hl]
  show (l.toArray)[j]'_ = _
  exact List.getElem_toArray _
theorem all_takeB (f : UInt8 → Bool) (l : Wb) (j : Nat) (h : j < l.length) : (l.take (j + 1)).all f = ((l.take j).all f && f (l.getD j 0)) := by
  rw [List.take_add_one, List.getElem?_eq_getElem h, List.all_append]
  simp [List.getD, List.getElem?_eq_getElem h]
theorem all_falseB (f : UInt8 → Bool) (l : Wb) (j : Nat) (h : j < l.length) (hf : f (l.getD j 0) = false) : l.all f = false := by
  rw [List.all_eq_false]
  exact ⟨l.getD j 0, by simp [List.getD, List.getElem?_eq_getElem h], by rw [hf]; decide⟩
end Go.Proofs.YtkfcofjmjbkekaaGreatDoor
namespace Go.Proofs.YtkfcofjmjbkekaaGreatDoor
open Go.RowKit
set_option linter.unusedVariables false

/-- A slice of numbers, read alone. -/
def Rn (w : World) (a : Option Addr) (len cap : Nat) (zs : List Int) : Prop :=
  (a = none ∧ len = 0 ∧ cap = 0 ∧ zs = []) ∨
  ∃ x, a = some x ∧ len ≤ cap ∧ cap ≤ maxLen ∧ zs.length = len ∧ ∀ i, i < len → w.cell? (x.add i) = some (.int .i64 (zs.getD i 0))
theorem Rn.stay {w w' : World} {a : Option Addr} {len cap : Nat} {zs : List Int} (h : Rn w a len cap zs) (b : Below w.heap.size w w') : Rn w' a len cap zs := by
  rcases h with h | ⟨x, rfl, h1, h2, h3, h4⟩
  · exact .inl h
  · exact .inr ⟨x, rfl, h1, h2, h3, fun i hi => cell_keep b (h4 i hi)⟩
theorem Rn.len {w : World} {a : Option Addr} {len cap : Nat} {zs : List Int} (h : Rn w a len cap zs) : len = zs.length := by
  rcases h with ⟨_, h1, _, rfl⟩ | ⟨x, _, _, _, h1, _⟩
  · simpa using h1
  · exact h1.symm
theorem Rn.cap {w : World} {a : Option Addr} {len cap : Nat} {zs : List Int} (h : Rn w a len cap zs) : len ≤ cap ∧ cap ≤ maxLen := by
  rcases h with ⟨_, h1, h2, _⟩ | ⟨x, _, h1, h2, _⟩
  · subst h1 h2; exact ⟨Nat.le_refl _, Nat.zero_le _⟩
  · exact ⟨h1, h2⟩
theorem Rn.at {w : World} {a : Option Addr} {len cap : Nat} {zs : List Int} (h : Rn w a len cap zs) (i : Nat) (hi : i < len) : ∃ x, a = some x ∧ w.cell? (x.add i) = some (.int .i64 (zs.getD i 0)) := by
  rcases h with ⟨_, h1, _, _⟩ | ⟨x, rfl, _, _, _, h4⟩
  · omega
  · exact ⟨x, rfl, h4 i hi⟩
theorem IsRow.rn {w : World} {a : Option Addr} {len cap : Nat} {zs : List Int} (h : IsRow .i64 w a len cap zs) : Rn w a len cap zs := by
  rcases h with h | ⟨x, h0, h1, h2, h3, h4, _⟩
  · exact .inl h
  · exact .inr ⟨x, h0, h1, h2, h3, h4⟩
theorem Nums.rn {w : World} {base n cap : Nat} {a : Option Addr} {zs : List Int} (h : Nums w base (.slice a n cap) zs) : Rn w a n cap zs := by
  obtain ⟨a', cap', hv, l1, l2, hg⟩ := h.shape
  cases hv
  by_cases hz : 0 < zs.length
  · obtain ⟨g, rfl⟩ := hg hz
    refine .inr ⟨_, rfl, l1, l2, rfl, fun i hi => ?_⟩
    have := h.cell rfl i hi
    simpa [Addr.add_lit] using this
  · have h0 : zs = [] := by cases zs with
      | nil => rfl
      | cons x t => exact absurd (Nat.succ_pos _) hz
    subst h0
    cases a with
    | none =>
      obtain ⟨h1, ⟨hq, h3⟩ | ⟨g, cap, cur, hq, _⟩⟩ := h
      · cases hq; exact .inl ⟨rfl, rfl, rfl, rfl⟩
      · cases hq
    | some x => exact .inr ⟨x, rfl, l1, l2, rfl, fun i hi => absurd hi (Nat.not_lt_zero _)⟩
/-- A slice as a value, read alone. -/
def Rv (w : World) (v : Value) (zs : List Int) : Prop := ∃ a cap, v = .slice a zs.length cap ∧ Rn w a zs.length cap zs
theorem Rv.stay {w w' : World} {v : Value} {zs : List Int} (h : Rv w v zs) (b : Below w.heap.size w w') : Rv w' v zs := by
  obtain ⟨a, cap, h1, h2⟩ := h
  exact ⟨a, cap, h1, h2.stay b⟩
theorem Nums.rv {w : World} {base : Nat} {v : Value} {zs : List Int} (h : Nums w base v zs) : Rv w v zs := by
  obtain ⟨a, cap, rfl, _⟩ := h.shape
  exact ⟨a, cap, rfl, h.rn⟩
theorem Rn.rv {w : World} {a : Option Addr} {len cap : Nat} {zs : List Int} (h : Rn w a len cap zs) : Rv w (.slice a len cap) zs := by
  have := h.len
  subst this
  exact ⟨a, cap, rfl, h⟩

theorem IsRow.ln {k : IntKind} {w : World} {a : Option Addr} {len cap : Nat} {zs : List Int} (h : IsRow k w a len cap zs) : len = zs.length ∧ len ≤ 9223372036854775807 := by
  rcases h with ⟨_, h1, _, rfl⟩ | ⟨x, _, h1, h2, h3, _⟩
  · exact ⟨by simpa using h1, by omega⟩
  · exact ⟨h3.symm, by unfold maxLen at h2; omega⟩

/-- A block of cells of a type. -/
def Vb (w : World) (q : Nat) (cs : Array Value) (t : TypeId) : Prop := w.heap[q]? = some (.cells cs t (0, 0))
theorem Vb.cell {w : World} {q : Nat} {cs : Array Value} {t : TypeId} (h : Vb w q cs t) (i : Nat) {v : Value} (hi : cs[i]? = some v) : w.cell? ⟨q, i, none⟩ = some v := by
  unfold Vb at h
  simp [World.cell?, h, hi]
theorem Vb.free {w : World} {q : Nat} {cs : Array Value} {t : TypeId} (h : Vb w q cs t) (i : Nat) : w.frozen? ⟨q, i, none⟩ = false := by
  unfold Vb at h
  simp [World.frozen?, h]
theorem Vb.lt {w : World} {q : Nat} {cs : Array Value} {t : TypeId} (h : Vb w q cs t) : q < w.heap.size := by
  rcases Nat.lt_or_ge q w.heap.size with h1 | h1
  · exact h1
  · unfold Vb at h
    rw [Array.getElem?_eq_none h1] at h
    cases h
theorem Vb.new (w : World) (cs : Array Value) (t : TypeId) : Vb (w.alloc (.cells cs t)) w.heap.size cs t := heap_alloc_new w _
theorem Vb.gr {w w' : World} {q : Nat} {cs : Array Value} {t : TypeId} {row : Option Nat} (h : Vb w q cs t) (g : w.grownBy w' row) (hn : some q ≠ row) : Vb w' q cs t := (g.block q h.lt hn).trans h
theorem Vb.keep {w w' : World} {q : Nat} {cs : Array Value} {t : TypeId} (h : Vb w q cs t) (b : Below w.heap.size w w') : Vb w' q cs t := (b.block q h.lt).trans h
theorem Vb.put {w : World} {q : Nat} {cs : Array Value} {t : TypeId} (h : Vb w q cs t) (p : Addr) (u : Value) (hp : q ≠ p.block) : Vb (w.setCell p u) q cs t := (heap_setCell_other w p q u hp).trans h
theorem Vb.set {w : World} {q : Nat} {cs : Array Value} {t : TypeId} (h : Vb w q cs t) (i : Nat) (u : Value) : Vb (w.setCell ⟨q, i, none⟩ u) q (cs.setIfInBounds i u) t := heap_setCell_same w q i cs t u h
theorem Vb.push {w : World} {q : Nat} {cs : Array Value} {t : TypeId} (h : Vb w q cs t) (o : Obj) : Vb (w.alloc o) q cs t := h.keep (al (Below.refl _ _) o)

/-- From one world to another: blocks from base on stay. -/
structure Ho (base : Nat) (w w' : World) : Prop where
  size : w.heap.size ≤ w'.heap.size
  block : ∀ k, base ≤ k → k < w.heap.size → w'.heap[k]? = w.heap[k]?
theorem Ho.refl (base : Nat) (w : World) : Ho base w w := ⟨Nat.le_refl _, fun _ _ _ => rfl⟩
theorem Ho.trans {base : Nat} {a b c : World} (h : Ho base a b) (k : Ho base b c) : Ho base a c :=
  ⟨Nat.le_trans h.size k.size, fun i hb hi => (k.block i hb (Nat.lt_of_lt_of_le hi h.size)).trans (h.block i hb hi)⟩
theorem Ho.of {base : Nat} {w w' : World} (h : Below w.heap.size w w') : Ho base w w' := ⟨h.size, fun k _ hk => h.block k hk⟩
theorem Ho.set {base : Nat} (w : World) (p : Addr) (u : Value) (h : p.block < base) : Ho base w (w.setCell p u) :=
  ⟨(grown_set w p u).size, fun k hb hk => (grown_set w p u).block k hk (fun e => by cases e; omega)⟩
theorem Nums.ho {base : Nat} {v : Value} {w w' : World} {zs : List Int} (h : Nums w base v zs) (H : Ho base w w') : Nums w' base v zs := by
  obtain ⟨h1, h2 | ⟨g, cap, cur, hv, hg, hr, rest⟩⟩ := h
  · exact ⟨h1, .inl h2⟩
  · refine ⟨h1, .inr ⟨g, cap, cur, hv, hg, ?_, rest⟩⟩
    rw [H.block g hg ((Array.getElem?_eq_some_iff.1 hr).1)]
    exact hr
end Go.Proofs.YtkfcofjmjbkekaaGreatDoor
namespace Go.Proofs.YtkfcofjmjbkekaaGreatDoor
open Go.RowKit
set_option linter.unusedVariables false

structure Ht where
  regs : List Int
  pc : Int
  csr : List Int
  halted : Bool
  waiting : Bool
  rung : Bool
  done : Int
  inn : List Int
  out : List Int

def Ht.form (H : Ht) : Bool := decide (H.regs.length = 16) && decide (H.csr.length = 11) && decide (H.regs.getD 0 0 = 0)
def Ht.words (H : Ht) : Bool := H.regs.all isW && isW H.pc && H.csr.all isW && H.inn.all isW && H.out.all isW
theorem isW_iff {z : Int} : isW z = true ↔ 0 ≤ z ∧ z ≤ 4294967295 := by simp [isW]
theorem all_at {zs : List Int} (h : zs.all isW = true) (i : Nat) : 0 ≤ zs.getD i 0 ∧ zs.getD i 0 ≤ 4294967295 := by
  by_cases hi : i < zs.length
  · have := List.all_eq_true.1 h _ (List.getElem_mem hi)
    rw [List.getD, List.getElem?_eq_getElem hi]
    exact isW_iff.1 this
  · rw [List.getD, List.getElem?_eq_none (by omega)]
    exact ⟨by decide, by decide⟩

def voidH : Ht := ⟨[], 0, [], false, false, false, 0, [], []⟩
end Go.Proofs.YtkfcofjmjbkekaaGreatDoor
namespace Go.Proofs.YtkfcofjmjbkekaaGreatDoor
open Go.RowKit
set_option linter.unusedVariables false

def seg (tx : Wb) (f p : Nat) : Wb := (tx.drop f).take (p - f)
theorem drop_at (tx : Wb) (p : Nat) (h : p < tx.length) : tx.drop p = tx.getD p 0 :: tx.drop (p + 1) := by
  rw [List.drop_eq_getElem_cons h, List.getD, List.getElem?_eq_getElem h]
  rfl
theorem seg_self (tx : Wb) (p : Nat) : seg tx p p = [] := by unfold seg; simp
theorem seg_next (tx : Wb) (f p : Nat) (hf : f ≤ p) (h : p < tx.length) : seg tx f (p + 1) = seg tx f p ++ [tx.getD p 0] := by
  unfold seg
  rw [show p + 1 - f = (p - f) + 1 by omega, List.take_add_one, List.getElem?_drop, show f + (p - f) = p by omega, List.getD, List.getElem?_eq_getElem h]
  rfl
theorem bq_cut (tx : Wb) (f p : Nat) : (bq tx).extract f p = bq (seg tx f p) := by
  apply ByteArray.ext
  rw [ByteArray.data_extract]
  simp [bq, seg, List.extract_eq_take_drop]

end Go.Proofs.YtkfcofjmjbkekaaGreatDoor
namespace Go.Proofs.YtkfcofjmjbkekaaGreatDoor
open Go.RowKit Go.ChangeShapes Go.WideShapes Go.ChangeAt
set_option linter.unusedVariables false

/-- A machine that came in. -/
structure Hin (w : World) (a0 : Option Addr) (n0 c0 : Nat) (a1 : Option Addr) (n1 c1 : Nat) (a2 : Option Addr) (n2 c2 : Nat) (a3 : Option Addr) (n3 c3 : Nat) (H : Ht) : Prop where
  regs : IsRow .i64 w a0 n0 c0 H.regs
  csr : IsRow .i64 w a1 n1 c1 H.csr
  inn : IsRow .i64 w a2 n2 c2 H.inn
  out : IsRow .i64 w a3 n3 c3 H.out
theorem Hin.stay {w w' : World} {a0 a1 a2 a3 : Option Addr} {n0 c0 n1 c1 n2 c2 n3 c3 : Nat} {H : Ht} (h : Hin w a0 n0 c0 a1 n1 c1 a2 n2 c2 a3 n3 c3 H) (b : Below w.heap.size w w') : Hin w' a0 n0 c0 a1 n1 c1 a2 n2 c2 a3 n3 c3 H :=
  ⟨h.regs.stay b, h.csr.stay b, h.inn.stay b, h.out.stay b⟩
end Go.Proofs.YtkfcofjmjbkekaaGreatDoor
namespace Go.Proofs.YtkfcofjmjbkekaaGreatDoor
open Go.RowKit
set_option linter.unusedVariables false

theorem bd_keep {w w' : World} {T e : TypeId} {B b : Nat} {p : Value} {bs : List Value} (h : Lib.BuilderAt T e B b p bs w) (k : Below w.heap.size w w') : Lib.BuilderAt T e B b p bs w' := by
  obtain ⟨h1, v, h2, h3, h4⟩ := h
  have hl : b < w.heap.size := (Array.getElem?_eq_some_iff.1 h2).1
  exact ⟨h1, v, (k.block b hl).trans h2, h3.kept (below_grown k none) (by cases v.ownBlock <;> simp), h4⟩

set_option maxRecDepth 20000 in
set_option maxHeartbeats 2000000 in
theorem bd_check (B b : Nat) (bs : List Value) (w : World) (h : Lib.IsBuilder 52 5 B b bs w) :
    Calls Tryz.prog 42 #[.pointer (some ⟨b, 0, none⟩)] w fun e w' => e = .returned (.tuple #[]) ∧ Lib.BuilderAt 52 5 B b (.pointer (some ⟨b, 0, none⟩)) bs w' ∧ Below B w w' := by
  rcases h with h | h
  · have c0 := h.cell0
    have f0 := h.frozen0
    have sh := h.shape
    have H : Hid (Lib.BuilderAt 52 5 B b (.pointer none) bs w) := h
    obtain ⟨j, hj, hjs⟩ : ∃ j, Tryz.prog.info? 52 = some j ∧ j.size = 2 := by
      have : (Tryz.prog.info? 52).map (·.size) = some 2 := by kernel_rfl
      exact Option.map_eq_some_iff.1 this
    have k1 := Lib.run_to_unsafe (P := Tryz.prog) w ⟨b, 0, none⟩ Tryz.underlying50 Tryz.underlying108 hj (by rw [hjs]; decide) sh (Nat.zero_lt_succ 1)
    have k2 := Lib.run_from_unsafe (P := Tryz.prog) w ⟨b, 0, none⟩ Tryz.underlying108 Tryz.underlying50 hj sh (by kernel_rfl)
    have k3 : (callFunc 64 #[.pointer (some ⟨b, 0, none⟩)]).run Tryz.prog w = .ok (.value (.pointer (some ⟨b, 0, none⟩))) w := by
      rw [run_callFunc_extern Tryz.func64 (by kernel_rfl) (by kernel_rfl) (by kernel_rfl) (e := Extern.AbiNoEscape.same) (by kernel_rfl)]
      rfl
    clear h
    go_enter Tryz.func42, Tryz.ntmps42
    go_wp2_with fail
    go_end0
    exact ⟨rfl, H.out.used _, (Below.refl B w).setCell (p := ⟨b, 0, none⟩) H.out.1 _⟩
  · have c0 := h.cell0
    have H : Hid (Lib.BuilderAt 52 5 B b (.pointer (some ⟨b, 0, none⟩)) bs w) := h
    obtain ⟨j, hj, _⟩ : ∃ j, Tryz.prog.info? 52 = some j ∧ j.size = 2 := by
      have : (Tryz.prog.info? 52).map (·.size) = some 2 := by kernel_rfl
      exact Option.map_eq_some_iff.1 this
    have k1 := Lib.run_neq_ptr_same (P := Tryz.prog) w ⟨b, 0, none⟩ Tryz.underlying50 hj
    clear h
    go_enter Tryz.func42, Tryz.ntmps42
    go_wp2_with fail
    go_end0
    exact ⟨rfl, H.out, Below.refl _ _⟩

/-- What is known of a builder behind its check, and of its list of bytes. -/
structure BkB (w : World) (B b : Nat) (v : Value) (bs : List Value) : Prop where
  hB : B ≤ b
  blk : Vb w b #[.pointer (some ⟨b, 0, none⟩), v] 52
  own : w.ownsRow B 5 1 v bs.length bs
  ne : v.ownBlock ≠ some b
theorem BkB.grown {w w' : World} {B b : Nat} {v v' : Value} {bs bs' : List Value} (h : BkB w B b v bs) (g : w.grownBy w' v.ownBlock) (o : w'.ownsRow B 5 1 v' bs'.length bs') :
    Lib.BuilderAt 52 5 B b (.pointer (some ⟨b, 0, none⟩)) bs' (w'.setCell ⟨b, 1, none⟩ v') ∧ Vb w' b #[.pointer (some ⟨b, 0, none⟩), v] 52 := by
  have hv : Vb w' b #[.pointer (some ⟨b, 0, none⟩), v] 52 := h.blk.gr g fun e => h.ne e.symm
  exact ⟨Lib.BuilderAt.put (T := 52) (e := 5) h.hB hv o (by decide), hv⟩
theorem info_u8 : (Tryz.prog.info? 5).map (fun i => (i.zero, i.size, i.bytes)) = some (some (.int .u8 0), 1, 1) := by kernel_rfl

set_option maxRecDepth 20000 in
set_option maxHeartbeats 2000000 in
theorem bd_byte (B b : Nat) (bs : List Value) (c : Int) (w : World) (h : Lib.IsBuilder 52 5 B b bs w) (hl : bs.length ≤ 1000000000) (hBw : B ≤ w.heap.size) :
    Calls Tryz.prog 85 #[.pointer (some ⟨b, 0, none⟩), .int .u8 c] w fun e w' => e = .returned .nilIface ∧ Lib.BuilderAt 52 5 B b (.pointer (some ⟨b, 0, none⟩)) (bs ++ [.int .u8 c]) w' ∧ Below B w w' := by
  obtain ⟨i0, hi, hz0, hz1, hz2⟩ := info_parts info_u8
  have H : Hid (Lib.IsBuilder 52 5 B b bs w) := h
  have HL : Hid (bs.length ≤ 1000000000 ∧ B ≤ w.heap.size) := ⟨hl, hBw⟩
  clear h hl hBw
  go_enter Tryz.func85, Tryz.ntmps85
  go_wp2_with fail
  refine (bd_check B b bs _ H.out).mono ?_
  rintro e w1 ⟨rfl, h1, b1⟩
  obtain ⟨hB, v, hbk, hown, hne⟩ := h1
  have K1 : Hid (BkB w1 B b v bs) := ⟨hB, hbk, hown, hne⟩
  have B1 : Hid (Below B w w1) := b1
  have c1 := K1.out.blk.cell 1 rfl
  have K2 : Hid (BkB (w1.alloc (.cells #[.int .u8 c] 5)) B b v bs) := ⟨hB, K1.out.blk.push _, hown.alloc _, hne⟩
  have B2 : Hid (Below B w (w1.alloc (.cells #[.int .u8 c] 5))) := b1.alloc (by have := b1.size; have := HL.out.2; omega) _
  have lb : b < w1.heap.size := K1.out.blk.lt
  clear hB hbk hown hne b1
  go_wp2_with (at_builtin; refine wpList_append_own _ rfl _ _ 22 rfl B 5 i0 (.int .u8 0) 1 1 Tryz.underlying22 hi hz0 hz1 hz2 rfl (by decide) _ _ _ rfl K2.out.own ⟨w1.heap.size, 0, none⟩ 1 1 [.int .u8 c] rfl rfl ?c1 ?c2 ?c3 ?c4 ?c5 ?_)
  case c1 =>
    intro j u hj
    match j, hj with
    | 0, hj => simp at hj; subst hj; simp [Addr.add]
  case c2 => intro u hu; simp at hu; subst hu; rfl
  case c3 => have := HL.out.1; unfold maxLen; omega
  case c4 => have := HL.out.1; omega
  case c5 => have := B2.out.size; have := HL.out.2; omega
  intro v' w2 hown' hgrow _
  have G := K2.out.grown (bs' := bs ++ [.int .u8 c]) hgrow (by simpa using hown')
  have HG : Hid (_ ∧ _) := G
  have B3 : Hid (Below B w (w2.setCell ⟨b, 1, none⟩ v')) := (B2.out.grown hgrow (by have := B2.out.size; have := HL.out.2; omega) (fun k hk => (K2.out.own.lt k hk).1)).setCell (p := ⟨b, 1, none⟩) K2.out.hB _
  obtain ⟨g, cap, rfl⟩ : ∃ g cap, v' = .slice (some ⟨g, 0, none⟩) (bs.length + 1) cap := by
    rcases hown'.2 with ⟨_, h0⟩ | ⟨g, cap, cur, hv, _⟩
    · omega
    · exact ⟨g, cap, hv⟩
  have d1 := HG.out.2.cell 1 rfl
  have f1 := HG.out.2.free 1
  clear G hown' hgrow c1 lb
  go_wp2_with fail
  go_ret
  exact ⟨rfl, HG.out.1, B3.out⟩

set_option maxRecDepth 20000 in
set_option maxHeartbeats 2000000 in
theorem bd_string (B b : Nat) (bs : List Value) (s : ByteArray) (w : World) (h : Lib.IsBuilder 52 5 B b bs w) (hl : bs.length + s.size ≤ 1000000000) (hBw : B ≤ w.heap.size) :
    Calls Tryz.prog 21 #[.pointer (some ⟨b, 0, none⟩), .string s] w fun e w' => e = .returned (.tuple #[.int .i64 s.size, .nilIface]) ∧ Lib.BuilderAt 52 5 B b (.pointer (some ⟨b, 0, none⟩)) (bs ++ Lib.strCells s) w' ∧ Below B w w' := by
  obtain ⟨i0, hi, hz0, hz1, hz2⟩ := info_parts info_u8
  have H : Hid (Lib.IsBuilder 52 5 B b bs w) := h
  have HL : Hid (bs.length + s.size ≤ 1000000000 ∧ B ≤ w.heap.size) := ⟨hl, hBw⟩
  clear h hl hBw
  go_enter Tryz.func21, Tryz.ntmps21
  go_wp2_with fail
  refine (bd_check B b bs _ H.out).mono ?_
  rintro e w1 ⟨rfl, h1, b1⟩
  obtain ⟨hB, v, hbk, hown, hne⟩ := h1
  have K1 : Hid (BkB w1 B b v bs) := ⟨hB, hbk, hown, hne⟩
  have B1 : Hid (Below B w w1) := b1
  have c1 := K1.out.blk.cell 1 rfl
  clear hB hbk hown hne b1
  go_wp2_with (at_builtin; refine Lib.wpList_append_own_string _ rfl _ _ 22 9 rfl B 5 i0 Tryz.underlying22 Tryz.underlying9 hi hz0 hz1 hz2 _ _ _ rfl K1.out.own s rfl ?c3 ?c4 ?c5 ?_)
  case c3 => have := HL.out.1; unfold maxLen; omega
  case c4 => have := HL.out.1; omega
  case c5 => have := B1.out.size; have := HL.out.2; omega
  intro v' w2 hown' hgrow _
  have G := K1.out.grown (bs' := bs ++ Lib.strCells s) hgrow (by simpa [Lib.strCells_length] using hown')
  have HG : Hid (_ ∧ _) := G
  have B3 : Hid (Below B w (w2.setCell ⟨b, 1, none⟩ v')) := (B1.out.grown hgrow (by have := B1.out.size; have := HL.out.2; omega) (fun k hk => (K1.out.own.lt k hk).1)).setCell (p := ⟨b, 1, none⟩) K1.out.hB _
  obtain ⟨ao, n', cap, rfl⟩ : ∃ ao n' cap, v' = .slice ao n' cap := by
    rcases hown'.2 with ⟨hv, _⟩ | ⟨g, cap, cur, hv, _⟩
    · exact ⟨_, _, _, hv⟩
    · exact ⟨_, _, _, hv⟩
  have d1 := HG.out.2.cell 1 rfl
  have f1 := HG.out.2.free 1
  clear G hown' hgrow c1
  go_wp2_with fail
  go_ret2
  exact ⟨rfl, HG.out.1, B3.out⟩
end Go.Proofs.YtkfcofjmjbkekaaGreatDoor
namespace Go.Proofs.YtkfcofjmjbkekaaGreatDoor
open Go.RowKit
set_option linter.unusedVariables false

/-- A text, by its bytes. -/
def bs (l : List UInt8) : ByteArray := ⟨l.toArray⟩
theorem bs_size (l : List UInt8) : (bs l).size = l.length := size_mk l
theorem bs_app (l m : List UInt8) : bs (l ++ m) = bs l ++ bs m := by
  apply ByteArray.ext
  simp [bs, ByteArray.data_append]
/-- Numbers, each with a blank ahead. -/
def nsW (zs : List Int) : List UInt8 := zs.flatMap fun z => 32 :: Lib.decDigits z.toNat
def nlW (wd : List UInt8) (zs : List Int) : List UInt8 := wd ++ nsW zs ++ [10]
theorem ns_next (zs : List Int) (j : Nat) (h : j < zs.length) : nsW (zs.take (j + 1)) = nsW (zs.take j) ++ (32 :: Lib.decDigits (zs.getD j 0).toNat) := by
  rw [List.take_add_one, List.getElem?_eq_getElem h, List.getD_eq_getElem?_getD, List.getElem?_eq_getElem h]
  simp only [nsW, Option.toList, Option.getD, List.flatMap_append, List.flatMap_cons, List.flatMap_nil, List.append_nil]
theorem dec_len10 {z : Int} (h0 : 0 ≤ z) (h1 : z ≤ 4294967295) : (Lib.decDigits z.toNat).length ≤ 10 := dec_len z.toNat 9 (by omega)
theorem ns_len {zs : List Int} (h : zs.all isW = true) : (nsW zs).length ≤ 11 * zs.length := by
  induction zs with
  | nil => simp [nsW]
  | cons x t ih =>
    simp only [List.all_cons, Bool.and_eq_true] at h
    have h1 := isW_iff.1 h.1
    have h2 := dec_len10 h1.1 h1.2
    have h3 := ih h.2
    simp only [nsW, List.flatMap_cons, List.length_append, List.length_cons] at *
    omega
theorem all_takenT {zs : List Int} (h : zs.all isW = true) (j : Nat) : (zs.take j).all isW = true := by
  rw [List.all_eq_true] at h ⊢
  exact fun x hx => h x (List.mem_of_mem_take hx)
theorem nl_len {wd : List UInt8} {zs : List Int} (h : zs.all isW = true) (hn : zs.length ≤ 40) (hl : wd.length ≤ 10) : (nlW wd zs).length ≤ 500 := by
  have := ns_len h
  simp only [nlW, List.length_append, List.length_cons, List.length_nil]
  omega
theorem i_formatT (z : Int) (h0 : 0 ≤ z) (h1 : z ≤ 4294967295) (w : World) (ht : Lib.TabIs Tryz.prog w "internal/strconv.uint64pow10" .u64 Lib.pow10Tab) :
    Calls Tryz.prog 76 #[.int .i64 z, .int .i64 10] w fun e w' => e = .returned (.string (bs (Lib.decDigits z.toNat))) ∧ Below w.heap.size w w' := by
  refine (Tryz.strconv_FormatInt_10 z (by omega) (by omega) w ht).mono ?_
  rintro e w' ⟨rfl, k, os, rfl⟩
  exact ⟨by rw [Lib.itoa, if_neg (by omega)]; rfl, Lib.below_grow _ w (Nat.le_refl _) k os⟩
theorem isb_keepS {w w' : World} {T e : TypeId} {B b : Nat} {bs : List Value} (h : Lib.IsBuilder T e B b bs w) (k : Below w.heap.size w w') : Lib.IsBuilder T e B b bs w' := h.imp (bd_keep · k) (bd_keep · k)
set_option maxRecDepth 20000 in
set_option maxHeartbeats 8000000 in
theorem i_wordNums (wd : List UInt8) (a : Option Addr) (n c : Nat) (zs : List Int) (w : World) (hR : Rn w a n c zs) (hw : zs.all isW = true) (hn : n ≤ 1048576) (hl : wd.length ≤ 10) (ht : Lib.TabIs Tryz.prog w "internal/strconv.uint64pow10" .u64 Lib.pow10Tab) :
    Calls Tryz.prog 65 #[.string (bs wd), .slice a n c] w fun e w' => e = .returned (.string (bs (wd ++ nsW zs))) ∧ Below w.heap.size w w' := by
  obtain ⟨V, hV⟩ : ∃ V, bs (wd ++ nsW zs) = V := ⟨_, rfl⟩
  rw [hV]
  have HV : Hid (bs (wd ++ nsW zs) = V) := hV
  clear hV
  have HR : Hid (Rn w a n c zs) := hR
  have HW : Hid (zs.all isW = true) := hw
  have HT : Hid (Lib.TabIs Tryz.prog w "internal/strconv.uint64pow10" .u64 Lib.pow10Tab) := ht
  have HN : Hid (n = zs.length) := hR.len
  have HN4 : Hid (n ≤ 1048576 ∧ wd.length ≤ 10) := ⟨hn, hl⟩
  have hI : (n : Int) ≤ 1048576 := by omega
  clear hR hw ht hn hl
  obtain ⟨B, hB⟩ : ∃ B, w.heap.size = B := ⟨_, rfl⟩
  have HB : Hid (w.heap.size = B) := hB
  have I0 : Hid (Lib.IsBuilder 52 5 B B [] (w.alloc (.cells #[.pointer none, .slice none 0 0] 52))) :=
    .inl ⟨Nat.le_refl _, .slice none 0 0, by rw [← hB]; exact heap_alloc_new w _, World.ownsRow_nil _ _ _ _, by intro e; cases e⟩
  have W0 : Hid (Below B w (w.alloc (.cells #[.pointer none, .slice none 0 0] 52))) := by show Below _ _ _; rw [← hB]; exact al (Below.refl _ _) _
  have FS : Hid (∀ u, Lib.IsBuilder 52 5 B B [] u → Below B w u → Calls Tryz.prog 21 #[.pointer (some ⟨B, 0, none⟩), .string (bs wd)] u fun e w' => e = .returned (.tuple #[.int .i64 (bs wd).size, .nilIface]) ∧ Lib.BuilderAt 52 5 B B (.pointer (some ⟨B, 0, none⟩)) ([] ++ Lib.strCells (bs wd)) w' ∧ Below B u w') := fun u hu hb => bd_string B B [] (bs wd) u hu (by rw [bs_size]; have := HN4.out.2; simp; omega) (by have := hb.size; have := HB.out; omega)
  obtain ⟨wb, hwb⟩ : ∃ wb, bs wd = wb := ⟨_, rfl⟩
  have HWB : Hid (bs wd = wb) := hwb
  rw [hwb] at FS ⊢
  clear hwb
  go_enter Tryz.func65, Tryz.ntmps65
  go_wp2_with fail
  clear hB
  generalize w.alloc (.cells #[.pointer none, .slice none 0 0] 52) = W at *
  refine (FS.out W I0.out W0.out).mono ?_
  rintro e w1 ⟨rfl, k1, b1⟩
  have I1 : Hid (Lib.IsBuilder 52 5 B B (Lib.byteCells (wd ++ nsW (zs.take 0))) w1) := by
    show Lib.IsBuilder _ _ _ _ _ _
    rw [List.take_zero, show nsW [] = [] from rfl, List.append_nil]
    rw [← HWB.out] at k1
    exact .inr k1
  have B1 : Hid (Below B w w1) := W0.out.trans b1
  clear k1 b1 FS I0 W0
  go_wp2_with fail
  go_loopw [7, 12] (fun _ i wr => ∃ j : Nat, j ≤ n ∧ i = .int .i64 j ∧ Lib.IsBuilder 52 5 B B (Lib.byteCells (wd ++ nsW (zs.take j))) wr ∧ Below B w wr) (fun _ i _ => n - (intOf i).toNat)
  case atStart => exact ⟨0, Nat.zero_le _, rfl, I1.out, B1.out⟩
  case round =>
    clear I1 B1
    obtain ⟨j, hj, rfl, hI1, hB1⟩ := hrel
    have I1 : Hid (Lib.IsBuilder 52 5 B B (Lib.byteCells (wd ++ nsW (zs.take j))) wr) := hI1
    have B1 : Hid (Below B w wr) := hB1
    have kb : Below w.heap.size w wr := by rw [HB.out]; exact hB1
    have KB : Hid (Below w.heap.size w wr) := kb
    have LB : Hid (B ≤ wr.heap.size) := by show _ ≤ _; have := hB1.size; have := HB.out; omega
    have LL : Hid ((wd ++ nsW (zs.take j)).length ≤ 20000000) := by
      show _ ≤ _
      have h1 := ns_len (all_takenT HW.out j)
      have h2 : (zs.take j).length ≤ j := by rw [List.length_take]; omega
      have h3 := HN4.out
      rw [List.length_append]
      omega
    clear hI1 hB1
    by_cases hlt : j < n
    · have hJ : (j : Int) < (n : Int) := by omega
      have HL : Hid (j < n) := hlt
      obtain ⟨x, rfl, cx⟩ := (HR.out.stay kb).at j hlt
      have NX : Hid (_ = _) := ns_next zs j (by have := HN.out; omega)
      obtain ⟨z, hz⟩ : ∃ z, zs.getD j 0 = z := ⟨_, rfl⟩
      have ZB : Hid (0 ≤ z ∧ z ≤ 4294967295) := by rw [← hz]; exact all_at HW.out j
      rw [hz] at cx NX
      obtain ⟨D, hD⟩ : ∃ D, Lib.decDigits z.toNat = D := ⟨_, rfl⟩
      have DL : Hid (D.length ≤ 10) := by show _ ≤ _; rw [← hD]; exact dec_len10 ZB.out.1 ZB.out.2
      have FM : Hid (∀ u, Below w.heap.size w u → Calls Tryz.prog 76 #[.int .i64 z, .int .i64 10] u fun e w' => e = .returned (.string (bs D)) ∧ Below u.heap.size u w') := fun u hu => by
        have := i_formatT z ZB.out.1 ZB.out.2 u (Lib.tabBelow_of_tabIs HT.out _ hu)
        rwa [hD] at this
      rw [hD] at NX
      obtain ⟨L, hL⟩ : ∃ L, wd ++ nsW (zs.take j) = L := ⟨_, rfl⟩
      have EN : Hid (wd ++ nsW (zs.take (j + 1)) = L ++ [32] ++ D) := by
        show _ = _
        rw [NX.out, ← List.append_assoc, hL, List.append_assoc]
        rfl
      rw [hL] at LL I1
      clear hlt hj hz hD hL kb NX
      go_wp2_with fail
      clear cx
      refine (bd_byte B B _ 32 wr I1.out (by rw [Lib.byteCells_length]; have := LL.out; omega) LB.out).mono ?_
      rintro e w2 ⟨rfl, k2, b2⟩
      have K2 : Hid (Lib.IsBuilder 52 5 B B (Lib.byteCells (L ++ [32])) w2) := by
        show Lib.IsBuilder _ _ _ _ _ _
        rw [Lib.byteCells_append]
        exact .inr k2
      have B2 : Hid (Below B w w2) := B1.out.trans b2
      have KB2 : Hid (Below w.heap.size w w2) := by show Below _ _ _; rw [HB.out]; exact B2.out
      clear k2 b2
      go_wp2_with fail
      refine (FM.out w2 KB2.out).mono ?_
      rintro e w3 ⟨rfl, b3⟩
      have K3 : Hid (Lib.IsBuilder 52 5 B B (Lib.byteCells (L ++ [32])) w3) := isb_keepS K2.out b3
      have B3 : Hid (Below B w w3) := B2.out.trans (b3.mono (by have := B2.out.size; have := HB.out; omega))
      clear b3
      go_wp2_with fail
      refine (bd_string B B _ (bs D) w3 K3.out (by rw [Lib.byteCells_length, bs_size, List.length_append]; have := LL.out; have := DL.out; simp; omega) (by have := B3.out.size; have := HB.out; omega)).mono ?_
      rintro e w4 ⟨rfl, k4, b4⟩
      have K4 : Hid (Lib.IsBuilder 52 5 B B (Lib.byteCells (wd ++ nsW (zs.take (j + 1)))) w4) := by
        show Lib.IsBuilder _ _ _ _ _ _
        rw [EN.out, Lib.byteCells_append]
        exact .inr k4
      have B4 : Hid (Below B w w4) := B3.out.trans b4
      clear k4 b4
      go_wp2_with fail
      go_roundw
      case rel => exact ⟨j + 1, by have := HL.out; omega, by go_num, K4.out, B4.out⟩
      case measure => have := HL.out; simp [intOf]; omega
    · have hJ : ¬ (j : Int) < (n : Int) := by omega
      have EJ : Hid (zs.take j = zs) := by show _ = _; exact List.take_of_length_le (by have := HN.out; omega)
      rw [EJ.out] at LL I1
      have EN : Hid ((⟨(wd ++ nsW zs).toArray⟩ : ByteArray) = V) := by show _ = _; rw [← HV.out]; rfl
      clear hlt hj kb
      go_wp2_with fail
      refine (Tryz.Builder_String_any B B (wd ++ nsW zs) _ I1.out LB.out).mono ?_
      rintro e w4 ⟨rfl, b4⟩
      have B4 : Hid (Below w.heap.size w w4) := by show Below _ _ _; rw [HB.out]; exact B1.out.trans b4
      rw [EN.out]
      clear b4
      go_wp2_with fail
      go_ret
      exact ⟨rfl, B4.out⟩
theorem wn_len {wd : List UInt8} {zs : List Int} {n : Nat} (h : zs.all isW = true) (hz : n = zs.length) (hn : n ≤ 1048576) (hl : wd.length ≤ 10) : (wd ++ nsW zs).length ≤ 20000000 := by
  have := ns_len h
  rw [List.length_append]
  omega
set_option maxHeartbeats 2000000 in
theorem i_numbersB (wd : List UInt8) (a : Option Addr) (n c : Nat) (zs : List Int) (w : World) (hR : Rn w a n c zs) (hw : zs.all isW = true) (hn : n ≤ 1048576) (hl : wd.length ≤ 10) (ht : Lib.TabIs Tryz.prog w "internal/strconv.uint64pow10" .u64 Lib.pow10Tab) :
    Calls Tryz.prog 43 #[.string (bs wd), .slice a n c] w fun e w' => e = .returned (.string (bs (nlW wd zs))) ∧ Below w.heap.size w w' := by
  have LL := wn_len hw hR.len hn hl
  have FM := i_wordNums wd a n c zs w hR hw hn hl ht
  have EN : Hid (bs (wd ++ nsW zs) ++ ⟨#[10]⟩ = bs (nlW wd zs)) := by show _ = _; rw [nlW, bs_app]; rfl
  have z1 : ¬ 9223372036854775807 < (bs (wd ++ nsW zs)).size + 1 := by rw [bs_size]; omega
  have z2 : ¬ 9223372036854775807 ≤ (bs (wd ++ nsW zs)).size := by rw [bs_size]; omega
  clear LL hR hw hn hl ht
  generalize bs (wd ++ nsW zs) = S at *
  generalize bs (nlW wd zs) = V at *
  generalize bs wd = wb at *
  go_enter Tryz.func43, Tryz.ntmps43
  go_wp2_with (go_at_call 65; refine FM.mono ?_; clear FM; rintro e w1 ⟨rfl, b1⟩)
  go_ret
  exact ⟨by rw [← EN.out]; rfl, b1⟩
theorem i_numbers (wd : List UInt8) (a : Option Addr) (n c : Nat) (zs : List Int) (w : World) (hR : Rn w a n c zs) (hw : zs.all isW = true) (hn : n ≤ 40) (hl : wd.length ≤ 10) (ht : Lib.TabIs Tryz.prog w "internal/strconv.uint64pow10" .u64 Lib.pow10Tab) :
    Calls Tryz.prog 43 #[.string (bs wd), .slice a n c] w fun e w' => e = .returned (.string (bs (nlW wd zs))) ∧ Below w.heap.size w w' := i_numbersB wd a n c zs w hR hw (by omega) hl ht
theorem s_digits (z : Int) (h0 : 0 ≤ z) (h1 : z ≤ 4294967295) (w : World) : Calls Tryz.prog 72 #[.int .i64 z] w fun e w' => e = .returned (.string (bs (Lib.decDigits z.toNat))) ∧ Below w.heap.size w w' := by
  have t := spec_digits z.toNat (by omega) w
  rw [show ((z.toNat : Nat) : Int) = z by omega] at t
  exact t
set_option maxRecDepth 20000 in
set_option maxHeartbeats 8000000 in
theorem s_lineB (wd : List UInt8) (a : Option Addr) (n c : Nat) (zs : List Int) (w : World) (hR : Rn w a n c zs) (hw : zs.all isW = true) (hn : n ≤ 1048576) (hl : wd.length ≤ 10) :
    Calls Tryz.prog 48 #[.string (bs wd), .slice a n c] w fun e w' => e = .returned (.string (bs (nlW wd zs))) ∧ Below w.heap.size w w' := by
  obtain ⟨V, hV⟩ : ∃ V, bs (nlW wd zs) = V := ⟨_, rfl⟩
  rw [hV]
  have HV : Hid (bs (nlW wd zs) = V) := hV
  clear hV
  have HR : Hid (Rn w a n c zs) := hR
  have HW : Hid (zs.all isW = true) := hw
  have HN : Hid (n = zs.length) := hR.len
  have HN4 : Hid (n ≤ 1048576 ∧ wd.length ≤ 10) := ⟨hn, hl⟩
  have hI : (n : Int) ≤ 1048576 := by omega
  clear hR hw hn hl
  go_enter Tryz.func48, Tryz.ntmps48
  go_wp2_with fail
  go_loopw [0, 5] (fun u i wr => ∃ j : Nat, j ≤ n ∧ i = .int .i64 j ∧ u = .string (bs (wd ++ nsW (zs.take j))) ∧ Below w.heap.size w wr) (fun _ i _ => n - (intOf i).toNat)
  case atStart => exact ⟨0, Nat.zero_le _, rfl, by simp [nsW], Below.refl _ _⟩
  case round =>
    obtain ⟨j, hj, rfl, rfl, hB⟩ := hrel
    have HB : Hid (Below w.heap.size w wr) := hB
    have LL : Hid ((wd ++ nsW (zs.take j)).length ≤ 20000000) := by
      show _ ≤ _
      have h1 := ns_len (all_takenT HW.out j)
      have h2 : (zs.take j).length ≤ j := by rw [List.length_take]; omega
      have h3 := HN4.out
      rw [List.length_append]
      omega
    by_cases hlt : j < n
    · have hJ : (j : Int) < (n : Int) := by omega
      have HL : Hid (j < n) := hlt
      obtain ⟨x, rfl, cx⟩ := (HR.out.stay hB).at j hlt
      have NX : Hid (_ = _) := ns_next zs j (by have := HN.out; omega)
      obtain ⟨z, hz⟩ : ∃ z, zs.getD j 0 = z := ⟨_, rfl⟩
      have ZB : Hid (0 ≤ z ∧ z ≤ 4294967295) := by rw [← hz]; exact all_at HW.out j
      rw [hz] at cx NX
      obtain ⟨D, hD⟩ : ∃ D, Lib.decDigits z.toNat = D := ⟨_, rfl⟩
      have DL : Hid (D.length ≤ 10) := by show _ ≤ _; rw [← hD]; exact dec_len10 ZB.out.1 ZB.out.2
      have FM := s_digits z ZB.out.1 ZB.out.2 wr
      rw [hD] at FM NX
      obtain ⟨L, hL⟩ : ∃ L, wd ++ nsW (zs.take j) = L := ⟨_, rfl⟩
      have EN : Hid (bs (wd ++ nsW (zs.take (j + 1))) = (bs L ++ ⟨#[32]⟩) ++ bs D) := by
        show _ = _
        rw [NX.out, ← List.append_assoc, hL, show (⟨#[32]⟩ : ByteArray) = bs [32] from rfl, ← bs_app, ← bs_app, List.append_assoc]
        rfl
      rw [hL] at LL ⊢
      have z1 : ¬ 9223372036854775807 < (bs L).size + 1 := by rw [bs_size]; have := LL.out; omega
      have z0 : ¬ 9223372036854775807 ≤ (bs L).size := by rw [bs_size]; have := LL.out; omega
      have z2 : ¬ 9223372036854775807 < (bs L ++ (⟨#[32]⟩ : ByteArray)).size + (bs D).size := by rw [show (⟨#[32]⟩ : ByteArray) = bs [32] from rfl, ← bs_app, bs_size, bs_size]; have := DL.out; have := LL.out; simp; omega
      have z3 : ¬ 9223372036854775807 < (bs L).size + 1 + (bs D).size := by rw [bs_size, bs_size]; have := DL.out; have := LL.out; omega
      clear hlt hj hz hD hL hB
      go_wp2_with (go_at_call 72; refine FM.mono ?_; clear FM; rintro e w1 ⟨rfl, b1⟩)
      go_roundw
      case rel => exact ⟨j + 1, by have := HL.out; omega, by go_num, by rw [EN.out], on HB.out b1⟩
      case measure => have := HL.out; simp [intOf]; omega
    · have hJ : ¬ (j : Int) < (n : Int) := by omega
      have EJ : Hid (zs.take j = zs) := by show _ = _; exact List.take_of_length_le (by have := HN.out; omega)
      rw [EJ.out] at LL ⊢
      have EN : Hid (bs (wd ++ nsW zs) ++ ⟨#[10]⟩ = V) := by show _ = _; rw [← HV.out, nlW, bs_app]; rfl
      have z1 : ¬ 9223372036854775807 < (bs (wd ++ nsW zs)).size + 1 := by rw [bs_size]; have := LL.out; omega
      have z2 : ¬ 9223372036854775807 ≤ (bs (wd ++ nsW zs)).size := by rw [bs_size]; have := LL.out; omega
      clear hlt hj
      generalize bs (wd ++ nsW zs) = S at *
      go_wp2_with fail
      go_ret
      exact ⟨by rw [← EN.out]; rfl, hB⟩
theorem s_line (wd : List UInt8) (a : Option Addr) (n c : Nat) (zs : List Int) (w : World) (hR : Rn w a n c zs) (hw : zs.all isW = true) (hn : n ≤ 40) (hl : wd.length ≤ 10) :
    Calls Tryz.prog 48 #[.string (bs wd), .slice a n c] w fun e w' => e = .returned (.string (bs (nlW wd zs))) ∧ Below w.heap.size w w' := s_lineB wd a n c zs w hR hw (by omega) hl
end Go.Proofs.YtkfcofjmjbkekaaGreatDoor
namespace Go.Proofs.YtkfcofjmjbkekaaGreatDoor
open Go.RowKit
set_option linter.unusedVariables false

/-- What a cell holds that is marked with k: the number, or (a truth) whether three divides it. -/
def mkV (b : Bool) (k : Int) : Value := if b then .bool (k % 3 == 0) else .int .i64 k
/-- From w to w' the cells of L have got the marks from k on, each its own, and nothing else has turned. -/
structure Mx (L : List (Addr × Bool)) (k : Int) (w w' : World) : Prop where
  os : w'.os = w.os
  tape : w'.tape = w.tape
  output : w'.output = w.output
  size : w.heap.size ≤ w'.heap.size
  block : ∀ g, g < w.heap.size → (∀ x ∈ L, x.1.block ≠ g) → w'.heap[g]? = w.heap[g]?
  out : ∀ p v, w.cell? p = some v → (∀ x ∈ L, x.1 ≠ p) → w'.cell? p = some v
  at' : ∀ (i : Nat) (x : Addr × Bool), L[i]? = some x → w'.cell? x.1 = some (mkV x.2 (k + i))
  free : ∀ p, p.block < w.heap.size → w'.frozen? p = w.frozen? p
/-- The cells of L hold the marks from k on. -/
def Hx (L : List (Addr × Bool)) (k : Int) (w : World) : Prop := ∀ (i : Nat) (x : Addr × Bool), L[i]? = some x → w.cell? x.1 = some (mkV x.2 (k + i))
theorem Mx.hx {L : List (Addr × Bool)} {k : Int} {w w' : World} (m : Mx L k w w') : Hx L k w' := m.at'
theorem Mx.refl (k : Int) (w : World) : Mx [] k w w :=
  ⟨rfl, rfl, rfl, Nat.le_refl _, fun _ _ _ => rfl, fun _ _ h _ => h, fun i x h => by simp at h, fun _ _ => rfl⟩
theorem Mx.trans {L M : List (Addr × Bool)} {k : Int} {a b c : World} (h : Mx L k a b) (m : Mx M (k + L.length) b c) (d : ∀ x ∈ L, ∀ y ∈ M, x.1 ≠ y.1) : Mx (L ++ M) k a c := by
  refine ⟨m.os.trans h.os, m.tape.trans h.tape, m.output.trans h.output, Nat.le_trans h.size m.size, fun g hg hn => ?_, fun p v e hn => ?_, fun i x e => ?_, fun p hp => (m.free p (Nat.lt_of_lt_of_le hp h.size)).trans (h.free p hp)⟩
  · exact (m.block g (Nat.lt_of_lt_of_le hg h.size) fun x hx => hn x (List.mem_append_right _ hx)).trans (h.block g hg fun x hx => hn x (List.mem_append_left _ hx))
  · exact m.out p v (h.out p v e fun x hx => hn x (List.mem_append_left _ hx)) fun x hx => hn x (List.mem_append_right _ hx)
  · by_cases hi : i < L.length
    · rw [List.getElem?_append_left hi] at e
      have hm := List.mem_of_getElem? e
      exact m.out _ _ (h.at' i x e) fun y hy e2 => d x hm y hy e2.symm
    · rw [List.getElem?_append_right (by omega)] at e
      have := m.at' _ x e
      rw [show k + (L.length : Int) + ((i - L.length : Nat) : Int) = k + i by omega] at this
      exact this
theorem Mx.alloc {L : List (Addr × Bool)} {k : Int} {a w : World} (h : Mx L k a w) (o : Obj) : Mx L k a (w.alloc o) :=
  ⟨h.os, h.tape, h.output, Nat.le_trans h.size (by simp), fun g hg hn => (Below.heap_alloc _ _ _ (Nat.lt_of_lt_of_le hg h.size)).trans (h.block g hg hn), fun p v e hn => cell_push o (h.out p v e hn), fun i x e => cell_push o (h.at' i x e),
   fun p hp => (World.frozen?_alloc_old _ _ p (Nat.ne_of_lt (Nat.lt_of_lt_of_le hp h.size))).trans (h.free p hp)⟩
theorem Mx.one {k : Int} {w : World} {p : Addr} {v : Value} (b : Bool) (hc : w.cell? p = some v) : Mx [(p, b)] k w (w.setCell p (mkV b k)) := by
  refine ⟨rfl, rfl, rfl, by simp [World.setCell], fun g hg hn => Below.heap_setCell _ _ _ _ ?_, fun q u e hn => ?_, fun i x e => ?_, fun q _ => World.frozen?_setCell ..⟩
  · have := hn (p, b) (by simp); exact fun e => this e.symm
  · have := hn (p, b) (by simp)
    rw [World.cell?_setCell_other _ _ _ _ this]; exact e
  · match i, e with
    | 0, e => cases e; simp; exact World.cell?_setCell_same _ _ _ hc
/-- The first n cells of a block. -/
def cN (g n : Nat) : List (Addr × Bool) := (List.range n).map fun j => (⟨g, j, none⟩, false)
theorem cN_len (g n : Nat) : (cN g n).length = n := by simp [cN]
theorem cN_succ (g n : Nat) : cN g (n + 1) = cN g n ++ [(⟨g, n, none⟩, false)] := by simp [cN, List.range_succ]
theorem cN_block {g n : Nat} {x : Addr × Bool} (h : x ∈ cN g n) : x.1.block = g := by
  simp only [cN, List.mem_map] at h; obtain ⟨j, _, rfl⟩ := h; rfl
theorem cN_ne {g n m : Nat} (hm : n ≤ m) : ∀ x ∈ cN g n, x.1 ≠ ⟨g, m, none⟩ := by
  intro x h e
  simp only [cN, List.mem_map, List.mem_range] at h; obtain ⟨j, hj, rfl⟩ := h
  simp at e; omega
theorem cN_get {g n i : Nat} (h : i < n) : (cN g n)[i]? = some (⟨g, i, none⟩, false) := by simp [cN, h]
theorem Hx.num {g n i : Nat} {k : Int} {w : World} (h : Hx (cN g n) k w) (hi : i < n) : w.cell? ⟨g, i, none⟩ = some (.int .i64 (k + i)) := h i _ (cN_get hi)
/-- One cell more. -/
theorem Mx.add {g m : Nat} {k z : Int} {w wr : World} {v : Value} (M : Mx (cN g m) k w wr) (hc : w.cell? ⟨g, m, none⟩ = some v) (hz : z = k + m) : Mx (cN g (m + 1)) k w (wr.setCell ⟨g, m, none⟩ (.int .i64 z)) := by
  rw [cN_succ]
  have hc' := M.out _ _ hc (cN_ne (Nat.le_refl m))
  refine M.trans ?_ (fun x hx y hy => ?_)
  · rw [cN_len, hz]; exact Mx.one false hc'
  · simp only [List.mem_singleton] at hy; subst hy; exact cN_ne (Nat.le_refl m) x hx
/-- A slice of numbers, or of structs of sz numbers, that may be marked: its block is g. -/
def Mg (w : World) (g sz : Nat) (a : Option Addr) (n : Nat) : Prop := 0 < n → a = some ⟨g, 0, none⟩ ∧ ∀ i, i < n * sz → (∃ z, w.cell? ⟨g, i, none⟩ = some (.int .i64 z)) ∧ w.frozen? ⟨g, i, none⟩ = false
theorem Mg.mx {w w' : World} {g sz n : Nat} {a : Option Addr} {L : List (Addr × Bool)} {k : Int} (h : Mg w g sz a n) (m : Mx L k w w') (hn' : 0 < n → ∀ x ∈ L, x.1.block ≠ g) : Mg w' g sz a n := by
  intro h0
  have hn := hn' h0
  obtain ⟨e, h3⟩ := h h0
  refine ⟨e, fun i hi => ?_⟩
  obtain ⟨⟨z, hz⟩, hf⟩ := h3 i hi
  exact ⟨⟨z, m.out _ _ hz fun x hx e2 => hn x hx (by rw [e2])⟩, by rw [m.free _ (block_of_cell hz)]; exact hf⟩

end Go.Proofs.YtkfcofjmjbkekaaGreatDoor
