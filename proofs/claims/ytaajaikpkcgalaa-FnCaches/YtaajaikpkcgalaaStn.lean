/- The fault of a cache, and the store that is made of one. -/
import Derived.Test.YtaajaikpkcgalaaStf
import Derived.Deep.Cut
import Derived.Deep.CutRange
namespace Go.Proofs.Ytaajaikpkcgalaa
open Go.RowKit
set_option linter.unusedVariables false

def hasQ (l : List Qd) (t p : Int) : Bool := l.any fun q => q.tag == t && q.page == p
/-- What is told of the hits from a place on, where pre stood ahead of it. -/
def cfG : List Qd → List Qd → Int
  | _, [] => 0
  | pre, q :: r => if okQ q then (if hasQ pre q.tag q.page then 6 else cfG (pre ++ [q]) r) else 3
/-- The fault of a cache. -/
def cfV (l : List Qd) : Int := if 12 < l.length then 2 else cfG [] l
/-- The hits of a cache with their places as turns. -/
def trn (l : List Qd) : List (Int × Qd) := l.zipIdx.map fun x => ((x.2 : Int), x.1)
theorem trn_snoc (l : List Qd) (q : Qd) : trn (l ++ [q]) = trn l ++ [((l.length : Int), q)] := by
  simp [trn, List.zipIdx_append]
theorem trn_length (l : List Qd) : (trn l).length = l.length := by simp [trn]
theorem trn_any (l : List Qd) (t p : Int) : (trn l).any (sel t p) = hasQ l t p := by
  unfold trn hasQ
  rw [List.any_map]
  have : ∀ (l : List Qd) (k : Nat), (l.zipIdx k).any (sel t p ∘ fun x => ((x.2 : Int), x.1)) = l.any fun q => q.tag == t && q.page == p := by
    intro l
    induction l with
    | nil => intro k; rfl
    | cons q r ih => intro k; simp [List.zipIdx_cons, sel] at ih ⊢; rw [ih]
  exact this l 0
theorem take_snoc (l : List Qd) (j : Nat) (h : j < l.length) : l.take (j + 1) = l.take j ++ [l.getD j qz] := by
  rw [List.take_add_one, List.getElem?_eq_getElem h, List.getD, List.getElem?_eq_getElem h]
  rfl
theorem cfG_step (l : List Qd) (j : Nat) (h : j < l.length) : cfG (l.take j) (l.drop j) = if okQ (l.getD j qz) then (if hasQ (l.take j) (l.getD j qz).tag (l.getD j qz).page then 6 else cfG (l.take (j + 1)) (l.drop (j + 1))) else 3 := by
  rw [take_snoc l j h, List.drop_eq_getElem_cons h, cfG, List.getD, List.getElem?_eq_getElem h]
  rfl

/-- The store that is made of a cache. -/
def Made (w : World) (base : Nat) (v : Value) (rs : List Qd) : Prop := ∃ sb mb, v = .pointer (some ⟨sb, 0, none⟩) ∧ rs.length ≤ 12 ∧ St w base sb mb rs.length (trn rs) rs.length

set_option maxRecDepth 100000 in
set_option maxHeartbeats 4000000 in
theorem impl_storeOf (a : Option Addr) (len cap : Nat) (rs : List Qd) (w : World) (h : IsQuads w a len cap rs) :
    Calls Try.prog 20 #[.slice a len cap] w fun e w' => ∃ v, e = .returned (.tuple #[v, .int .i64 (cfV rs)]) ∧ Below w.heap.size w w' ∧ (cfV rs ≠ 0 → v = .pointer none) ∧
      (cfV rs = 0 → Made w' w.heap.size v rs) := by
  have hlen := h.len
  have hcap := h.cap
  have hl : (len : Int) ≤ 9223372036854775807 := by unfold maxLen at hcap; omega
  clear hcap
  by_cases hm : 12 < len
  · have e1 : cfV rs = 2 := by rw [cfV, if_pos (by omega)]
    rw [e1]
    have hmi : (12 : Int) < (len : Int) := by omega
    clear h e1 hlen
    go_enter Try.func20, Try.ntmps20
    go_wp2_with fail
    go_ret2
    exact ⟨_, rfl, Below.refl _ _, fun _ => rfl, fun e => by cases e⟩
  have e1 : cfV rs = cfG [] rs := by rw [cfV, if_neg (by omega)]
  rw [e1]
  clear e1
  have hmi : ¬ (12 : Int) < (len : Int) := by omega
  have HR : Hid (IsQuads w a len cap rs) := h
  have HL : Hid (len = rs.length) := hlen
  have HM : Hid (¬ 12 < len) := hm
  clear h hlen hm
  have hmm := @run_makeMap Try.prog
  go_enter Try.func20, Try.ntmps20
  go_wp2_with fail
  go_loopw [2, 17] (fun sv c wr => ∃ j : Nat, j ≤ len ∧ c = .int .i64 j ∧ sv = .pointer (some ⟨w.heap.size + 1, 0, none⟩) ∧ cfG [] rs = cfG (rs.take j) (rs.drop j) ∧ St wr w.heap.size (w.heap.size + 1) w.heap.size j (trn (rs.take j)) j ∧ Below w.heap.size w wr) (fun _ c _ => len - (intOf c).toNat)
  case atStart =>
    refine ⟨0, Nat.zero_le _, rfl, rfl, rfl, ⟨(Hm.made w).alloc _, ?_, ?_, ?_, by omega, by omega⟩, al (al (Below.refl _ _) _) _⟩
    · simp
    · simp
    · simp
  case round =>
    obtain ⟨j, hj, rfl, rfl, hG, hS, hB⟩ := hrel
    have HS : Hid (St wr w.heap.size (w.heap.size + 1) w.heap.size j (trn (rs.take j)) j) := hS
    have HB : Hid (Below w.heap.size w wr) := hB
    by_cases hlt : j < len
    case neg =>
      have hI : ¬ (j : Int) < (len : Int) := by omega
      obtain rfl : j = len := by omega
      have hlast : cfG [] rs = 0 := by rw [hG, List.drop_of_length_le (Nat.le_of_eq HL.out.symm)]; rfl
      have HE : Hid (cfG [] rs = 0 ∧ rs.length ≤ 12 ∧ St wr w.heap.size (w.heap.size + 1) w.heap.size rs.length (trn rs) rs.length) := by
        refine ⟨hlast, by have := HM.out; have := HL.out; omega, ?_⟩
        have := HS.out
        rwa [List.take_of_length_le (Nat.le_of_eq HL.out.symm), HL.out] at this
      clear hG hS hB hlast
      go_wp2_with fail
      go_ret2
      exact ⟨.pointer (some ⟨w.heap.size + 1, 0, none⟩), by rw [HE.out.1]; rfl, HB.out, fun hn => absurd HE.out.1 hn, fun _ => ⟨w.heap.size + 1, w.heap.size, rfl, HE.out.2.1, HE.out.2.2⟩⟩
    rcases HR.out with ⟨_, h1, _, _⟩ | ⟨x, rfl, h1, h2, h3, h4⟩
    · omega
    have c0 := cell_keep hB (h4 j hlt).1
    have c1 : wr.cell? ⟨(x.add (j * 4)).block, (x.add (j * 4)).off + 1, none⟩ = some (.int .i64 (rs.getD j qz).page) := by
      show wr.cell? ((x.add (j * 4)).add 1) = _
      rw [Go.Deep.add_add]; exact cell_keep hB (h4 j hlt).2.1
    have c2 : wr.cell? ⟨(x.add (j * 4)).block, (x.add (j * 4)).off + 2, none⟩ = some (.int .i64 (rs.getD j qz).to) := by
      show wr.cell? ((x.add (j * 4)).add 2) = _
      rw [Go.Deep.add_add]; exact cell_keep hB (h4 j hlt).2.2.1
    have c3 : wr.cell? ⟨(x.add (j * 4)).block, (x.add (j * 4)).off + 3, none⟩ = some (.int .i64 (rs.getD j qz).kinds) := by
      show wr.cell? ((x.add (j * 4)).add 3) = _
      rw [Go.Deep.add_add]; exact cell_keep hB (h4 j hlt).2.2.2
    have hI : (j : Int) < (len : Int) := by omega
    have HLT : Hid (j < len) := hlt
    have hstep := cfG_step rs j (by have := HL.out; omega)
    have hts := take_snoc rs j (by have := HL.out; omega)
    rw [← hG] at hstep
    have hF := impl_hitFault (rs.getD j qz)
    have hK := impl_keyOf (rs.getD j qz)
    have hA := trn_any (rs.take j) (rs.getD j qz).tag (rs.getD j qz).page
    have hFill := fun u (S : St u w.heap.size (w.heap.size + 1) w.heap.size j (trn (rs.take j)) j) (ho : okQ (rs.getD j qz) = true) hr => impl_fill_room0 (rs.getD j qz) (trn (rs.take j)) j w.heap.size (w.heap.size + 1) w.heap.size j u S ho (by have := HM.out; have := HL.out; omega) (by have := HM.out; have := HL.out; omega) hr
    generalize rs.getD j qz = q at *
    obtain ⟨t, p, o, k⟩ := q
    simp only [Qd.val] at hF hK hFill hA hstep c0 c1 c2 c3
    cases hok : okQ ⟨t, p, o, k⟩
    case false =>
      have hE : cfG [] rs = 3 := by rw [hstep, hok]; rfl
      have hv : hfV ⟨t, p, o, k⟩ = 3 := by rw [hfV, hok]; rfl
      rw [hv] at hF
      have HE : Hid (cfG [] rs = 3) := hE
      clear h1 h2 h3 h4 hG hS hB hlt hstep hts hA hFill hE hv hK hok
      go_wp2_with (go_at_call 40; refine (hF _).mono ?_; rintro e w5 ⟨rfl, b5⟩; have B5 : Hid (Below w.heap.size w w5) := on (al HB.out _) b5; clear b5)
      go_ret2
      exact ⟨.pointer none, by rw [HE.out]; rfl, B5.out, fun _ => rfl, fun e => absurd (HE.out.symm.trans e) (by decide)⟩
    have hv : hfV ⟨t, p, o, k⟩ = 0 := by rw [hfV, hok]; rfl
    rw [hv] at hF
    rw [hok] at hstep
    have HOK := okQ_iff.1 hok
    simp only at HOK
    have WT : Hid (wfI t ∧ wfI p) := ⟨wf_small HOK.1 (by omega), wf_small HOK.2.2.1 (by omega)⟩
    have HF2 : Hid (∀ u, St u w.heap.size (w.heap.size + 1) w.heap.size j (trn (rs.take j)) j → (trn (rs.take j)).any (sel t p) = false → Calls Try.prog 25 #[.pointer (some ⟨w.heap.size + 1, 0, none⟩), .agg #[.int .i64 t, .int .i64 p, .int .i64 o, .int .i64 k]] u fun e w' => e = .returned (.tuple #[]) ∧ St w' w.heap.size (w.heap.size + 1) w.heap.size (j + 1) (drp (trn (rs.take j)) t p ++ [((j : Int), ⟨t, p, o, k⟩)]) ((j : Int) + 1) ∧ Below w.heap.size u w') := fun u S hno => hFill u S hok (.inr (by rw [trn_length]; have := HM.out; have := HLT.out; have := HL.out; simp; omega))
    clear h1 h2 h3 h4 hG hS hB hlt hv hFill HOK
    go_wp2_with (go_at_call 40; refine (hF _).mono ?_; rintro e w5 ⟨rfl, b5⟩)
    have B5 : Hid (Below w.heap.size w w5) := on (al HB.out _) b5
    have S5 : Hid (St w5 w.heap.size (w.heap.size + 1) w.heap.size j (trn (rs.take j)) j) := HS.out.keep (on (al (Below.refl _ _) _) b5)
    have q0 : w5.cell? ⟨wr.heap.size, 0, none⟩ = some (.int .i64 t) := cell_keep b5 (cell_new (w := wr) (cs := #[.int .i64 t, .int .i64 p, .int .i64 o, .int .i64 k]) (t := 65) (i := 0) rfl)
    have q1 : w5.cell? ⟨wr.heap.size, 1, none⟩ = some (.int .i64 p) := cell_keep b5 (cell_new (w := wr) (cs := #[.int .i64 t, .int .i64 p, .int .i64 o, .int .i64 k]) (t := 65) (i := 1) rfl)
    have q2 : w5.cell? ⟨wr.heap.size, 2, none⟩ = some (.int .i64 o) := cell_keep b5 (cell_new (w := wr) (cs := #[.int .i64 t, .int .i64 p, .int .i64 o, .int .i64 k]) (t := 65) (i := 2) rfl)
    have q3 : w5.cell? ⟨wr.heap.size, 3, none⟩ = some (.int .i64 k) := cell_keep b5 (cell_new (w := wr) (cs := #[.int .i64 t, .int .i64 p, .int .i64 o, .int .i64 k]) (t := 65) (i := 3) rfl)
    have g5 : wr.heap.size < w5.heap.size := block_of_cell q0
    have s0 := S5.out.c0
    have g6 : w.heap.size + 1 < w5.heap.size := block_of_cell s0
    clear b5
    have hwp : ∀ (o : Obj) (y : World), Below ((w5.alloc o).drew).heap.size (w5.alloc o).drew y → Below w5.heap.size w5 y := fun o y hb => on (al (Below.refl _ _) o).drew hb
    have hwn : ∀ (y : World), Below (w5.drew).heap.size w5.drew y → Below w5.heap.size w5 y := fun y hb => on (Below.refl _ _).drew hb
    have hz : ∀ (y : World), Below ((w5.alloc (.cells #[.int .i64 0, .int .i64 0, .int .i64 0] 53)).drew).heap.size (w5.alloc (.cells #[.int .i64 0, .int .i64 0, .int .i64 0] 53)).drew y → ∀ i, i < 3 → y.cell? ⟨w5.heap.size, i, none⟩ = some (.int .i64 0) ∧ y.frozen? ⟨w5.heap.size, i, none⟩ = false := fun y hb i hi => by
      have hs : w5.heap.size < ((w5.alloc (.cells #[.int .i64 0, .int .i64 0, .int .i64 0] 53)).drew).heap.size := by simp
      rw [hb.cell (p := ⟨w5.heap.size, i, none⟩) hs, hb.frozen (p := ⟨w5.heap.size, i, none⟩) hs]
      match i, hi with
      | 0, _ => simp
      | 1, _ => simp
      | 2, _ => simp
    have HWP : Hid (∀ (o : Obj) (y : World), Below ((w5.alloc o).drew).heap.size (w5.alloc o).drew y → Below w5.heap.size w5 y) := hwp
    have HWN : Hid (∀ (y : World), Below (w5.drew).heap.size w5.drew y → Below w5.heap.size w5 y) := hwn
    have HZ : Hid _ := hz
    clear hwp hwn hz
    go_cut [7, 8, 17] from 17 to 40 (fun _ b c wx => b = .bool (hasQ (rs.take j) t p) ∧ c = .int .i64 j ∧ Below w5.heap.size w5 wx)
    case first =>
      go_region_with (go_at_call 41; refine (hK _).mono ?_; rintro e y ⟨rfl, hb⟩; (first | (have BY := HWN.out y hb) | (have BY := HWP.out _ y hb; have zz0 := (HZ.out y hb 0 (by omega)).1; have zz1 := (HZ.out y hb 1 (by omega)).1; have zz2 := (HZ.out y hb 2 (by omega)).1; have fz0 := (HZ.out y hb 0 (by omega)).2; have fz1 := (HZ.out y hb 1 (by omega)).2; have fz2 := (HZ.out y hb 2 (by omega)).2)); have SY : Hid (St y w.heap.size (w.heap.size + 1) w.heap.size j (trn (rs.take j)) j) := S5.out.keep BY; have s0 := SY.out.c0; have gy : w.heap.size + 1 < y.heap.size := block_of_cell s0; have gz : w5.heap.size ≤ y.heap.size := BY.size; have L1 := SY.out.hm.lookOk WT.out.1 WT.out.2; have L2 := (SY.out.hm.alloc (.cells #[.int .i64 0, .int .i64 0, .int .i64 0] 53)).lookOk WT.out.1 WT.out.2; have BY : Hid (Below w5.heap.size w5 y) := BY; clear hb)
      all_goals go_wp2_with fail
      all_goals go_meet
      all_goals exact ⟨rfl, rfl, by first | exact al BY.out _ | exact ((BY.out.setCell (Nat.le_refl _) _).setCell (Nat.le_refl _) _).setCell (Nat.le_refl _) _⟩
    case rest =>
      obtain ⟨rfl, rfl, bc⟩ := hcut
      have SC : Hid (St wc w.heap.size (w.heap.size + 1) w.heap.size j (trn (rs.take j)) j) := S5.out.keep bc
      have BC : Hid (Below w.heap.size w wc) := on B5.out bc
      have q0 := cell_keep bc q0
      have q1 := cell_keep bc q1
      have q2 := cell_keep bc q2
      have q3 := cell_keep bc q3
      clear bc hK hF c0 c1 c2 c3 s0 g5 g6 HWP HWN HZ S5 B5 HS HB
      cases hh : hasQ (rs.take j) t p
      · have hE : cfG [] rs = cfG (rs.take (j + 1)) (rs.drop (j + 1)) := by rw [hstep, hh]; rfl
        have HE : Hid (cfG [] rs = cfG (rs.take (j + 1)) (rs.drop (j + 1))) := hE
        have hno : (trn (rs.take j)).any (sel t p) = false := hA.trans hh
        have hF3 := HF2.out wc SC.out hno
        have HT : Hid (drp (trn (rs.take j)) t p ++ [((j : Int), ⟨t, p, o, k⟩)] = trn (rs.take (j + 1))) := by
          show _ = _
          rw [drp_none hno, hts, trn_snoc, List.length_take, show min j rs.length = j by have := HLT.out; have := HL.out; omega]
        clear hE hstep hts hno hA HF2 hh
        go_wp2_with (go_at_call 25; refine hF3.mono ?_; rintro e w6 ⟨rfl, s6, b6⟩; have S6 : Hid (St w6 _ _ _ _ _ _) := s6; have B6 : Hid (Below w.heap.size w w6) := BC.out.trans b6; clear s6 b6)
        go_roundw
        case rel =>
          have h6 := S6.out
          rw [HT.out] at h6
          have h7 : St w6 w.heap.size (w.heap.size + 1) w.heap.size (j + 1) (trn (rs.take (j + 1))) ((j + 1 : Nat) : Int) := by
            rw [show ((j + 1 : Nat) : Int) = (j : Int) + 1 by omega]; exact h6
          exact ⟨j + 1, by have := HLT.out; omega, by go_num, rfl, HE.out, h7, B6.out⟩
        case measure => have := HLT.out; simp [intOf]; omega
      · have hE : cfG [] rs = 6 := by rw [hstep, hh]; rfl
        have HE : Hid (cfG [] rs = 6) := hE
        clear hE hstep hts hA HF2 hh
        go_wp2_with fail
        go_ret2
        exact ⟨.pointer none, by rw [HE.out]; rfl, BC.out, fun _ => rfl, fun e => absurd (HE.out.symm.trans e) (by decide)⟩
end Go.Proofs.Ytaajaikpkcgalaa
