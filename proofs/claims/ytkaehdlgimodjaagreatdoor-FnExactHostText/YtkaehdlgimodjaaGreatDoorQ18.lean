/- Texts of this seat, joined. -/
import Derived.Test.YtkaehdlgimodjaaGreatDoorShelf
import Derived.Lib.AppendStr
import Derived.Lib.AppendIntMem
import Derived.Test.YtkaehdlgimodjaaGreatDoorQ06
import Derived.Test.YtkaehdlgimodjaaGreatDoorQ15
namespace Go.Proofs.YtkaehdlgimodjaaGreatDoor
open Go.RowKit
set_option linter.unusedVariables false

theorem ret_b {a b : Bool} (h : a = b) : Ending.returned (.bool a) = .returned (.bool b) := by rw [h]

set_option maxHeartbeats 1000000 in
theorem i_words (a : Option Addr) (n cap : Nat) (zs : List Int) (w : World) (h : Rn w a n cap zs) :
    Calls Tryz.prog 68 #[.slice a n cap] w fun e w' => e = .returned (.bool (zs.all isW)) ∧ w' = w := by
  have HN : Hid (n = zs.length) := h.len
  have HZ : Hid (Rn w a n cap zs) := h
  have hl : (n : Int) ≤ 9223372036854775807 := by have := h.cap; unfold maxLen at this; omega
  clear h
  go_enter Tryz.func68, Tryz.ntmps68
  go_wp2_with fail
  go_loop [4, 7] (fun _ i => ∃ j : Nat, j ≤ n ∧ i = .int .i64 j ∧ Hid ((zs.take j).all isW = true)) (fun _ i => n - (intOf i).toNat)
  case atStart => exact ⟨0, Nat.zero_le _, rfl, rfl⟩
  case round =>
    obtain ⟨j, hj, rfl, hA⟩ := hrel
    by_cases hlt : j < n
    · obtain ⟨x, rfl, c1⟩ := HZ.out.at j hlt
      have hJ : (j : Int) < (n : Int) := by omega
      have HL : Hid (j < zs.length) := by show _ < _; have := HN.out; omega
      obtain ⟨z, hz⟩ : ∃ z, zs.getD j 0 = z := ⟨_, rfl⟩
      rw [hz] at c1
      have HZZ : Hid (zs.getD j 0 = z) := hz
      clear hz hlt
      cases hw : isW z
      · have HW : Hid (isW z = false) := hw
        go_wp2_with (go_at_call 74; refine (impl_isWord _ _).mono ?_; rintro e x ⟨rfl, rfl⟩; rw [hw])
        go_ret
        exact ⟨ret_b (all_not zs j HL.out (by rw [HZZ.out]; exact HW.out)).symm, rfl⟩
      · have HW : Hid (isW z = true) := hw
        go_wp2_with (go_at_call 74; refine (impl_isWord _ _).mono ?_; rintro e x ⟨rfl, rfl⟩; rw [hw])
        go_round
        case rel => exact ⟨j + 1, by have := HL.out; have := HN.out; omega, by go_num, by show _ = _; rw [all_take zs j HL.out, hA.out, HZZ.out, HW.out]; rfl⟩
        case measure => have := HL.out; have := HN.out; simp [intOf]; omega
    · have hJ : ¬ (j : Int) < (n : Int) := by omega
      obtain rfl : j = n := by omega
      go_wp2_with fail
      go_ret
      exact ⟨ret_b (by have := hA.out; rw [List.take_of_length_le (Nat.le_of_eq HN.out.symm)] at this; exact this.symm), rfl⟩

theorem s_word (z : Int) (w : World) : Calls Tryz.prog 62 #[.int .i64 z] w fun e w' => e = .returned (.bool (isW z)) ∧ w' = w := by
  have hw : (decide (0 ≤ z) && decide (z ≤ 4294967295)) = isW z := rfl
  go_enter Tryz.func62, Tryz.ntmps62
  go_wp2_with (go_at_call 35; refine (spec_in _ _ _ _).mono ?_; rintro e x ⟨rfl, rfl⟩; rw [hw])
  go_ret
  exact ⟨rfl, rfl⟩

set_option maxHeartbeats 1000000 in
theorem s_words (a : Option Addr) (n cap : Nat) (zs : List Int) (w : World) (h : Rn w a n cap zs) :
    Calls Tryz.prog 61 #[.slice a n cap] w fun e w' => e = .returned (.bool (zs.all isW)) ∧ w' = w := by
  have HN : Hid (n = zs.length) := h.len
  have HZ : Hid (Rn w a n cap zs) := h
  have hl : (n : Int) ≤ 9223372036854775807 := by have := h.cap; unfold maxLen at this; omega
  clear h
  go_enter Tryz.func61, Tryz.ntmps61
  go_wp2_with fail
  go_loop [3] (fun i => ∃ j : Nat, j ≤ n ∧ i = .int .i64 j ∧ Hid ((zs.take j).all isW = true)) (fun i => n - (intOf i).toNat)
  case atStart => exact ⟨0, Nat.zero_le _, rfl, rfl⟩
  case round =>
    obtain ⟨j, hj, rfl, hA⟩ := hrel
    by_cases hlt : j < n
    · obtain ⟨x, rfl, c1⟩ := HZ.out.at j hlt
      have hJ : (j : Int) < (n : Int) := by omega
      have HL : Hid (j < zs.length) := by show _ < _; have := HN.out; omega
      obtain ⟨z, hz⟩ : ∃ z, zs.getD j 0 = z := ⟨_, rfl⟩
      rw [hz] at c1
      have HZZ : Hid (zs.getD j 0 = z) := hz
      clear hz hlt
      cases hw : isW z
      · have HW : Hid (isW z = false) := hw
        go_wp2_with (go_at_call 62; refine (s_word _ _).mono ?_; rintro e x ⟨rfl, rfl⟩; rw [hw])
        go_ret
        exact ⟨ret_b (all_not zs j HL.out (by rw [HZZ.out]; exact HW.out)).symm, rfl⟩
      · have HW : Hid (isW z = true) := hw
        go_wp2_with (go_at_call 62; refine (s_word _ _).mono ?_; rintro e x ⟨rfl, rfl⟩; rw [hw])
        go_round
        case rel => exact ⟨j + 1, by have := HL.out; have := HN.out; omega, by go_num, by show _ = _; rw [all_take zs j HL.out, hA.out, HZZ.out, HW.out]; rfl⟩
        case measure => have := HL.out; have := HN.out; simp [intOf]; omega
    · have hJ : ¬ (j : Int) < (n : Int) := by omega
      obtain rfl : j = n := by omega
      go_wp2_with fail
      go_ret
      exact ⟨ret_b (by have := hA.out; rw [List.take_of_length_le (Nat.le_of_eq HN.out.symm)] at this; exact this.symm), rfl⟩

theorem stand_tmod (z m : Int) (h : 0 ≤ z) : z.tmod m = z % m := Int.tmod_eq_emod_of_nonneg h
theorem i_stand (k z : Int) (w : World) (hz : 0 ≤ z) (hz2 : z ≤ 4294967295) :
    Calls Tryz.prog 90 #[.int .i64 k, .int .i64 z] w fun e w' => e = .returned (.int .i64 (standV k z)) ∧ w' = w := by
  have t4 := stand_tmod z 4 hz
  have t8 := stand_tmod z 8 hz
  by_cases h0 : k = 0
  · subst h0
    go_enter Tryz.func90, Tryz.ntmps90
    go_wp2_with fail
    go_ret
    exact ⟨by simp [standV], rfl⟩
  by_cases h7 : k = 7
  · subst h7
    go_enter Tryz.func90, Tryz.ntmps90
    go_wp2_with fail
    go_ret
    exact ⟨by simp [standV], rfl⟩
  by_cases h10 : k = 10
  · subst h10
    by_cases h8 : 8 < z
    · go_enter Tryz.func90, Tryz.ntmps90
      go_wp2_with fail
      go_ret
      exact ⟨by simp [standV, h8], rfl⟩
    · go_enter Tryz.func90, Tryz.ntmps90
      go_wp2_with fail
      go_ret
      exact ⟨ret_i (by unfold standV; rw [if_neg (by decide), if_neg (by decide), if_pos rfl, if_neg (by omega)]), rfl⟩
  by_cases h6 : k = 6
  · subst h6
    go_enter Tryz.func90, Tryz.ntmps90
    go_wp2_with fail
    go_ret
    exact ⟨by simp [standV], rfl⟩
  by_cases h8 : k = 8
  · subst h8
    go_enter Tryz.func90, Tryz.ntmps90
    go_wp2_with fail
    go_ret
    exact ⟨by simp [standV], rfl⟩
  have hv : standV k z = z := by simp [standV, h0, h7, h10, h6, h8]
  rw [hv]
  clear hv
  go_enter Tryz.func90, Tryz.ntmps90
  go_wp2_with fail
  go_ret
  exact ⟨rfl, rfl⟩

set_option maxHeartbeats 1000000 in
theorem i_allStand (x : Addr) (cap : Nat) (zs : List Int) (w : World) (h : Rn w (some x) 11 cap zs) (hw : zs.all isW = true) :
    Calls Tryz.prog 69 #[.slice (some x) 11 cap] w fun e w' => e = .returned (.bool (standC zs)) ∧ w' = w := by
  have HN : Hid (zs.length = 11) := h.len.symm
  have HZ : Hid (Rn w (some x) 11 cap zs) := h
  have HW : Hid (zs.all isW = true) := hw
  have HC : Hid ((∀ k : Nat, k < 11 → standV k (zs.getD k 0) = zs.getD k 0) ↔ standC zs = true) := stand_all hw h.len.symm
  clear h hw
  go_enter Tryz.func69, Tryz.ntmps69
  go_wp2_with fail
  go_loop [3, 4, 7] (fun _ _ i => ∃ j : Nat, j ≤ 11 ∧ i = .int .i64 j ∧ Hid (∀ k : Nat, k < j → standV k (zs.getD k 0) = zs.getD k 0)) (fun _ _ i => 11 - (intOf i).toNat)
  case atStart => exact ⟨0, Nat.zero_le _, rfl, fun k hk => absurd hk (Nat.not_lt_zero _)⟩
  case round =>
    obtain ⟨j, hj, rfl, hA⟩ := hrel
    by_cases hlt : j < 11
    · obtain ⟨x', e, c1⟩ := HZ.out.at j hlt
      cases e
      have hJ : (j : Int) < 11 := by omega
      have HL : Hid (j < 11) := hlt
      have ha := all_at HW.out j
      obtain ⟨z, hz⟩ : ∃ z, zs.getD j 0 = z := ⟨_, rfl⟩
      rw [hz] at c1 ha
      have HA : Hid (0 ≤ z ∧ z ≤ 4294967295) := ha
      have HZZ : Hid (zs.getD j 0 = z) := hz
      obtain ⟨u, hu⟩ : ∃ u, standV (j : Int) z = u := ⟨_, rfl⟩
      have HU : Hid (standV (j : Int) z = u) := hu
      clear hz hlt ha hu
      by_cases hs : u = z
      · have HS : Hid (u = z) := hs
        subst hs
        go_wp2_with (go_at_call 90; refine (i_stand _ _ _ HA.out.1 HA.out.2).mono ?_; rintro e x ⟨rfl, rfl⟩; rw [HU.out])
        go_round
        case rel => exact ⟨j + 1, by have := HL.out; omega, by go_num, fun k hk => by
          by_cases e : k = j
          · subst e; rw [HZZ.out]; exact HU.out
          · exact hA.out k (by omega)⟩
        case measure => have := HL.out; simp [intOf]; omega
      · have HS : Hid (¬ u = z) := hs
        go_wp2_with (go_at_call 90; refine (i_stand _ _ _ HA.out.1 HA.out.2).mono ?_; rintro e x ⟨rfl, rfl⟩; rw [HU.out])
        go_ret
        refine ⟨?_, rfl⟩
        cases hc : standC zs
        · rfl
        · exact absurd (HU.out.symm.trans (by have := HC.out.2 hc j HL.out; rw [HZZ.out] at this; exact this)) HS.out
    · have hJ : ¬ (j : Int) < 11 := by omega
      obtain rfl : j = 11 := by omega
      go_wp2_with fail
      go_ret
      exact ⟨ret_b (HC.out.1 hA.out).symm, rfl⟩
end Go.Proofs.YtkaehdlgimodjaaGreatDoor
namespace Go.Proofs.YtkaehdlgimodjaaGreatDoor
open Go.RowKit
set_option linter.unusedVariables false

theorem bd_keep {w w' : World} {T e : TypeId} {B b : Nat} {p : Value} {bs : List Value} (h : Lib.BuilderAt T e B b p bs w) (k : Below w.heap.size w w') : Lib.BuilderAt T e B b p bs w' := by
  obtain ⟨h1, v, h2, h3, h4⟩ := h
  have hl : b < w.heap.size := (Array.getElem?_eq_some_iff.1 h2).1
  exact ⟨h1, v, (k.block b hl).trans h2, h3.kept (below_grown k none) (by cases v.ownBlock <;> simp), h4⟩

set_option maxRecDepth 20000 in
set_option maxHeartbeats 2000000 in
theorem bd_check (B b : Nat) (bs : List Value) (w : World) (h : Lib.IsBuilder 66 5 B b bs w) :
    Calls Tryz.prog 50 #[.pointer (some ⟨b, 0, none⟩)] w fun e w' => e = .returned (.tuple #[]) ∧ Lib.BuilderAt 66 5 B b (.pointer (some ⟨b, 0, none⟩)) bs w' ∧ Below B w w' := by
  rcases h with h | h
  · have c0 := h.cell0
    have f0 := h.frozen0
    have sh := h.shape
    have H : Hid (Lib.BuilderAt 66 5 B b (.pointer none) bs w) := h
    obtain ⟨j, hj, hjs⟩ : ∃ j, Tryz.prog.info? 66 = some j ∧ j.size = 2 := by
      have : (Tryz.prog.info? 66).map (·.size) = some 2 := by kernel_rfl
      exact Option.map_eq_some_iff.1 this
    have k1 := Lib.run_to_unsafe (P := Tryz.prog) w ⟨b, 0, none⟩ Tryz.underlying63 Tryz.underlying126 hj (by rw [hjs]; decide) sh (Nat.zero_lt_succ 1)
    have k2 := Lib.run_from_unsafe (P := Tryz.prog) w ⟨b, 0, none⟩ Tryz.underlying126 Tryz.underlying63 hj sh (by kernel_rfl)
    have k3 : (callFunc 71 #[.pointer (some ⟨b, 0, none⟩)]).run Tryz.prog w = .ok (.value (.pointer (some ⟨b, 0, none⟩))) w := by
      rw [run_callFunc_extern Tryz.func71 (by kernel_rfl) (by kernel_rfl) (by kernel_rfl) (e := Extern.AbiNoEscape.same) (by kernel_rfl)]
      rfl
    clear h
    go_enter Tryz.func50, Tryz.ntmps50
    go_wp2_with fail
    go_end0
    exact ⟨rfl, H.out.used _, (Below.refl B w).setCell (p := ⟨b, 0, none⟩) H.out.1 _⟩
  · have c0 := h.cell0
    have H : Hid (Lib.BuilderAt 66 5 B b (.pointer (some ⟨b, 0, none⟩)) bs w) := h
    obtain ⟨j, hj, _⟩ : ∃ j, Tryz.prog.info? 66 = some j ∧ j.size = 2 := by
      have : (Tryz.prog.info? 66).map (·.size) = some 2 := by kernel_rfl
      exact Option.map_eq_some_iff.1 this
    have k1 := Lib.run_neq_ptr_same (P := Tryz.prog) w ⟨b, 0, none⟩ Tryz.underlying63 hj
    clear h
    go_enter Tryz.func50, Tryz.ntmps50
    go_wp2_with fail
    go_end0
    exact ⟨rfl, H.out, Below.refl _ _⟩

/-- What is known of a builder behind its check, and of its list of bytes. -/
structure Bk (w : World) (B b : Nat) (v : Value) (bs : List Value) : Prop where
  hB : B ≤ b
  blk : Vb w b #[.pointer (some ⟨b, 0, none⟩), v] 66
  own : w.ownsRow B 5 1 v bs.length bs
  ne : v.ownBlock ≠ some b
theorem Bk.grown {w w' : World} {B b : Nat} {v v' : Value} {bs bs' : List Value} (h : Bk w B b v bs) (g : w.grownBy w' v.ownBlock) (o : w'.ownsRow B 5 1 v' bs'.length bs') :
    Lib.BuilderAt 66 5 B b (.pointer (some ⟨b, 0, none⟩)) bs' (w'.setCell ⟨b, 1, none⟩ v') ∧ Vb w' b #[.pointer (some ⟨b, 0, none⟩), v] 66 := by
  have hv : Vb w' b #[.pointer (some ⟨b, 0, none⟩), v] 66 := h.blk.gr g fun e => h.ne e.symm
  exact ⟨Lib.BuilderAt.put (T := 66) (e := 5) h.hB hv o (by decide), hv⟩
theorem info_u8 : (Tryz.prog.info? 5).map (fun i => (i.zero, i.size, i.bytes)) = some (some (.int .u8 0), 1, 1) := by kernel_rfl

set_option maxRecDepth 20000 in
set_option maxHeartbeats 2000000 in
theorem bd_byte (B b : Nat) (bs : List Value) (c : Int) (w : World) (h : Lib.IsBuilder 66 5 B b bs w) (hl : bs.length ≤ 1000000000) (hBw : B ≤ w.heap.size) :
    Calls Tryz.prog 72 #[.pointer (some ⟨b, 0, none⟩), .int .u8 c] w fun e w' => e = .returned .nilIface ∧ Lib.BuilderAt 66 5 B b (.pointer (some ⟨b, 0, none⟩)) (bs ++ [.int .u8 c]) w' ∧ Below B w w' := by
  obtain ⟨i0, hi, hz0, hz1, hz2⟩ := info_parts info_u8
  have H : Hid (Lib.IsBuilder 66 5 B b bs w) := h
  have HL : Hid (bs.length ≤ 1000000000 ∧ B ≤ w.heap.size) := ⟨hl, hBw⟩
  clear h hl hBw
  go_enter Tryz.func72, Tryz.ntmps72
  go_wp2_with fail
  refine (bd_check B b bs _ H.out).mono ?_
  rintro e w1 ⟨rfl, h1, b1⟩
  obtain ⟨hB, v, hbk, hown, hne⟩ := h1
  have K1 : Hid (Bk w1 B b v bs) := ⟨hB, hbk, hown, hne⟩
  have B1 : Hid (Below B w w1) := b1
  have c1 := K1.out.blk.cell 1 rfl
  have K2 : Hid (Bk (w1.alloc (.cells #[.int .u8 c] 5)) B b v bs) := ⟨hB, K1.out.blk.push _, hown.alloc _, hne⟩
  have B2 : Hid (Below B w (w1.alloc (.cells #[.int .u8 c] 5))) := b1.alloc (by have := b1.size; have := HL.out.2; omega) _
  have lb : b < w1.heap.size := K1.out.blk.lt
  clear hB hbk hown hne b1
  go_wp2_with (at_builtin; refine wpList_append_own _ rfl _ _ 64 rfl B 5 i0 (.int .u8 0) 1 1 Tryz.underlying64 hi hz0 hz1 hz2 rfl (by decide) _ _ _ rfl K2.out.own ⟨w1.heap.size, 0, none⟩ 1 1 [.int .u8 c] rfl rfl ?c1 ?c2 ?c3 ?c4 ?c5 ?_)
  case c1 =>
    intro j u hj
    match j, hj with
    | 0, hj => simp at hj; subst hj; simp [Addr.add]
  case c2 => intro u hu; simp at hu; subst hu; rfl
  case c3 => have := HL.out.1; unfold maxLen; omega
  case c4 => have := HL.out.1; omega
  case c5 => have := B2.out.size; have := HL.out.2; omega
  intro v' w2 hown' hgrow _
  have G := K2.out.grown (bs' := bs ++ [.int .u8 c]) hgrow (by simpa using hown')
  have HG : Hid (_ ∧ _) := G
  have B3 : Hid (Below B w (w2.setCell ⟨b, 1, none⟩ v')) := (B2.out.grown hgrow (by have := B2.out.size; have := HL.out.2; omega) (fun k hk => (K2.out.own.lt k hk).1)).setCell (p := ⟨b, 1, none⟩) K2.out.hB _
  obtain ⟨g, cap, rfl⟩ : ∃ g cap, v' = .slice (some ⟨g, 0, none⟩) (bs.length + 1) cap := by
    rcases hown'.2 with ⟨_, h0⟩ | ⟨g, cap, cur, hv, _⟩
    · omega
    · exact ⟨g, cap, hv⟩
  have d1 := HG.out.2.cell 1 rfl
  have f1 := HG.out.2.free 1
  clear G hown' hgrow c1 lb
  go_wp2_with fail
  go_ret
  exact ⟨rfl, HG.out.1, B3.out⟩

set_option maxRecDepth 20000 in
set_option maxHeartbeats 2000000 in
theorem bd_string (B b : Nat) (bs : List Value) (s : ByteArray) (w : World) (h : Lib.IsBuilder 66 5 B b bs w) (hl : bs.length + s.size ≤ 1000000000) (hBw : B ≤ w.heap.size) :
    Calls Tryz.prog 20 #[.pointer (some ⟨b, 0, none⟩), .string s] w fun e w' => e = .returned (.tuple #[.int .i64 s.size, .nilIface]) ∧ Lib.BuilderAt 66 5 B b (.pointer (some ⟨b, 0, none⟩)) (bs ++ Lib.strCells s) w' ∧ Below B w w' := by
  obtain ⟨i0, hi, hz0, hz1, hz2⟩ := info_parts info_u8
  have H : Hid (Lib.IsBuilder 66 5 B b bs w) := h
  have HL : Hid (bs.length + s.size ≤ 1000000000 ∧ B ≤ w.heap.size) := ⟨hl, hBw⟩
  clear h hl hBw
  go_enter Tryz.func20, Tryz.ntmps20
  go_wp2_with fail
  refine (bd_check B b bs _ H.out).mono ?_
  rintro e w1 ⟨rfl, h1, b1⟩
  obtain ⟨hB, v, hbk, hown, hne⟩ := h1
  have K1 : Hid (Bk w1 B b v bs) := ⟨hB, hbk, hown, hne⟩
  have B1 : Hid (Below B w w1) := b1
  have c1 := K1.out.blk.cell 1 rfl
  clear hB hbk hown hne b1
  go_wp2_with (at_builtin; refine Lib.wpList_append_own_string _ rfl _ _ 64 9 rfl B 5 i0 Tryz.underlying64 Tryz.underlying9 hi hz0 hz1 hz2 _ _ _ rfl K1.out.own s rfl ?c3 ?c4 ?c5 ?_)
  case c3 => have := HL.out.1; unfold maxLen; omega
  case c4 => have := HL.out.1; omega
  case c5 => have := B1.out.size; have := HL.out.2; omega
  intro v' w2 hown' hgrow _
  have G := K1.out.grown (bs' := bs ++ Lib.strCells s) hgrow (by simpa [Lib.strCells_length] using hown')
  have HG : Hid (_ ∧ _) := G
  have B3 : Hid (Below B w (w2.setCell ⟨b, 1, none⟩ v')) := (B1.out.grown hgrow (by have := B1.out.size; have := HL.out.2; omega) (fun k hk => (K1.out.own.lt k hk).1)).setCell (p := ⟨b, 1, none⟩) K1.out.hB _
  obtain ⟨ao, n', cap, rfl⟩ : ∃ ao n' cap, v' = .slice ao n' cap := by
    rcases hown'.2 with ⟨hv, _⟩ | ⟨g, cap, cur, hv, _⟩
    · exact ⟨_, _, _, hv⟩
    · exact ⟨_, _, _, hv⟩
  have d1 := HG.out.2.cell 1 rfl
  have f1 := HG.out.2.free 1
  clear G hown' hgrow c1
  go_wp2_with fail
  go_ret2
  exact ⟨rfl, HG.out.1, B3.out⟩
end Go.Proofs.YtkaehdlgimodjaaGreatDoor
namespace Go.Proofs.YtkaehdlgimodjaaGreatDoor
open Go.RowKit
set_option linter.unusedVariables false

/-- A text, by its bytes. -/
def bs (l : List UInt8) : ByteArray := ⟨l.toArray⟩
theorem bs_size (l : List UInt8) : (bs l).size = l.length := size_mk l
theorem bs_app (l m : List UInt8) : bs (l ++ m) = bs l ++ bs m := by
  apply ByteArray.ext
  simp [bs, ByteArray.data_append]
/-- Numbers, each with a blank ahead. -/
def nsW (zs : List Int) : List UInt8 := zs.flatMap fun z => 32 :: Lib.decDigits z.toNat
def nlW (wd : List UInt8) (zs : List Int) : List UInt8 := wd ++ nsW zs ++ [10]
theorem ns_next (zs : List Int) (j : Nat) (h : j < zs.length) : nsW (zs.take (j + 1)) = nsW (zs.take j) ++ (32 :: Lib.decDigits (zs.getD j 0).toNat) := by
  rw [List.take_add_one, List.getElem?_eq_getElem h, List.getD_eq_getElem?_getD, List.getElem?_eq_getElem h]
  simp only [nsW, Option.toList, Option.getD, List.flatMap_append, List.flatMap_cons, List.flatMap_nil, List.append_nil]
theorem dec_len10 {z : Int} (h0 : 0 ≤ z) (h1 : z ≤ 4294967295) : (Lib.decDigits z.toNat).length ≤ 10 := dec_len z.toNat 9 (by omega)
theorem ns_len {zs : List Int} (h : zs.all isW = true) : (nsW zs).length ≤ 11 * zs.length := by
  induction zs with
  | nil => simp [nsW]
  | cons x t ih =>
    simp only [List.all_cons, Bool.and_eq_true] at h
    have h1 := isW_iff.1 h.1
    have h2 := dec_len10 h1.1 h1.2
    have h3 := ih h.2
    simp only [nsW, List.flatMap_cons, List.length_append, List.length_cons] at *
    omega
theorem all_takenT {zs : List Int} (h : zs.all isW = true) (j : Nat) : (zs.take j).all isW = true := by
  rw [List.all_eq_true] at h ⊢
  exact fun x hx => h x (List.mem_of_mem_take hx)
theorem nl_len {wd : List UInt8} {zs : List Int} (h : zs.all isW = true) (hn : zs.length ≤ 40) (hl : wd.length ≤ 10) : (nlW wd zs).length ≤ 500 := by
  have := ns_len h
  simp only [nlW, List.length_append, List.length_cons, List.length_nil]
  omega
theorem i_formatT (z : Int) (h0 : 0 ≤ z) (h1 : z ≤ 4294967295) (w : World) (ht : Lib.TabIs Tryz.prog w "internal/strconv.uint64pow10" .u64 Lib.pow10Tab) :
    Calls Tryz.prog 73 #[.int .i64 z, .int .i64 10] w fun e w' => e = .returned (.string (bs (Lib.decDigits z.toNat))) ∧ Below w.heap.size w w' := by
  refine (Tryz.strconv_FormatInt_10 z (by omega) (by omega) w ht).mono ?_
  rintro e w' ⟨rfl, k, os, rfl⟩
  exact ⟨by rw [Lib.itoa, if_neg (by omega)]; rfl, Lib.below_grow _ w (Nat.le_refl _) k os⟩
theorem isb_keepS {w w' : World} {T e : TypeId} {B b : Nat} {bs : List Value} (h : Lib.IsBuilder T e B b bs w) (k : Below w.heap.size w w') : Lib.IsBuilder T e B b bs w' := h.imp (bd_keep · k) (bd_keep · k)
set_option maxRecDepth 20000 in
set_option maxHeartbeats 8000000 in
theorem i_wordNums (wd : List UInt8) (a : Option Addr) (n c : Nat) (zs : List Int) (w : World) (hR : Rn w a n c zs) (hw : zs.all isW = true) (hn : n ≤ 1048576) (hl : wd.length ≤ 10) (ht : Lib.TabIs Tryz.prog w "internal/strconv.uint64pow10" .u64 Lib.pow10Tab) :
    Calls Tryz.prog 51 #[.string (bs wd), .slice a n c] w fun e w' => e = .returned (.string (bs (wd ++ nsW zs))) ∧ Below w.heap.size w w' := by
  obtain ⟨V, hV⟩ : ∃ V, bs (wd ++ nsW zs) = V := ⟨_, rfl⟩
  rw [hV]
  have HV : Hid (bs (wd ++ nsW zs) = V) := hV
  clear hV
  have HR : Hid (Rn w a n c zs) := hR
  have HW : Hid (zs.all isW = true) := hw
  have HT : Hid (Lib.TabIs Tryz.prog w "internal/strconv.uint64pow10" .u64 Lib.pow10Tab) := ht
  have HN : Hid (n = zs.length) := hR.len
  have HN4 : Hid (n ≤ 1048576 ∧ wd.length ≤ 10) := ⟨hn, hl⟩
  have hI : (n : Int) ≤ 1048576 := by omega
  clear hR hw ht hn hl
  obtain ⟨B, hB⟩ : ∃ B, w.heap.size = B := ⟨_, rfl⟩
  have HB : Hid (w.heap.size = B) := hB
  have I0 : Hid (Lib.IsBuilder 66 5 B B [] (w.alloc (.cells #[.pointer none, .slice none 0 0] 66))) :=
    .inl ⟨Nat.le_refl _, .slice none 0 0, by rw [← hB]; exact heap_alloc_new w _, World.ownsRow_nil _ _ _ _, by intro e; cases e⟩
  have W0 : Hid (Below B w (w.alloc (.cells #[.pointer none, .slice none 0 0] 66))) := by show Below _ _ _; rw [← hB]; exact al (Below.refl _ _) _
  have FS : Hid (∀ u, Lib.IsBuilder 66 5 B B [] u → Below B w u → Calls Tryz.prog 20 #[.pointer (some ⟨B, 0, none⟩), .string (bs wd)] u fun e w' => e = .returned (.tuple #[.int .i64 (bs wd).size, .nilIface]) ∧ Lib.BuilderAt 66 5 B B (.pointer (some ⟨B, 0, none⟩)) ([] ++ Lib.strCells (bs wd)) w' ∧ Below B u w') := fun u hu hb => bd_string B B [] (bs wd) u hu (by rw [bs_size]; have := HN4.out.2; simp; omega) (by have := hb.size; have := HB.out; omega)
  obtain ⟨wb, hwb⟩ : ∃ wb, bs wd = wb := ⟨_, rfl⟩
  have HWB : Hid (bs wd = wb) := hwb
  rw [hwb] at FS ⊢
  clear hwb
  go_enter Tryz.func51, Tryz.ntmps51
  go_wp2_with fail
  clear hB
  generalize w.alloc (.cells #[.pointer none, .slice none 0 0] 66) = W at *
  refine (FS.out W I0.out W0.out).mono ?_
  rintro e w1 ⟨rfl, k1, b1⟩
  have I1 : Hid (Lib.IsBuilder 66 5 B B (Lib.byteCells (wd ++ nsW (zs.take 0))) w1) := by
    show Lib.IsBuilder _ _ _ _ _ _
    rw [List.take_zero, show nsW [] = [] from rfl, List.append_nil]
    rw [← HWB.out] at k1
    exact .inr k1
  have B1 : Hid (Below B w w1) := W0.out.trans b1
  clear k1 b1 FS I0 W0
  go_wp2_with fail
  go_loopw [7, 12] (fun _ i wr => ∃ j : Nat, j ≤ n ∧ i = .int .i64 j ∧ Lib.IsBuilder 66 5 B B (Lib.byteCells (wd ++ nsW (zs.take j))) wr ∧ Below B w wr) (fun _ i _ => n - (intOf i).toNat)
  case atStart => exact ⟨0, Nat.zero_le _, rfl, I1.out, B1.out⟩
  case round =>
    clear I1 B1
    obtain ⟨j, hj, rfl, hI1, hB1⟩ := hrel
    have I1 : Hid (Lib.IsBuilder 66 5 B B (Lib.byteCells (wd ++ nsW (zs.take j))) wr) := hI1
    have B1 : Hid (Below B w wr) := hB1
    have kb : Below w.heap.size w wr := by rw [HB.out]; exact hB1
    have KB : Hid (Below w.heap.size w wr) := kb
    have LB : Hid (B ≤ wr.heap.size) := by show _ ≤ _; have := hB1.size; have := HB.out; omega
    have LL : Hid ((wd ++ nsW (zs.take j)).length ≤ 20000000) := by
      show _ ≤ _
      have h1 := ns_len (all_takenT HW.out j)
      have h2 : (zs.take j).length ≤ j := by rw [List.length_take]; omega
      have h3 := HN4.out
      rw [List.length_append]
      omega
    clear hI1 hB1
    by_cases hlt : j < n
    · have hJ : (j : Int) < (n : Int) := by omega
      have HL : Hid (j < n) := hlt
      obtain ⟨x, rfl, cx⟩ := (HR.out.stay kb).at j hlt
      have NX : Hid (_ = _) := ns_next zs j (by have := HN.out; omega)
      obtain ⟨z, hz⟩ : ∃ z, zs.getD j 0 = z := ⟨_, rfl⟩
      have ZB : Hid (0 ≤ z ∧ z ≤ 4294967295) := by rw [← hz]; exact all_at HW.out j
      rw [hz] at cx NX
      obtain ⟨D, hD⟩ : ∃ D, Lib.decDigits z.toNat = D := ⟨_, rfl⟩
      have DL : Hid (D.length ≤ 10) := by show _ ≤ _; rw [← hD]; exact dec_len10 ZB.out.1 ZB.out.2
      have FM : Hid (∀ u, Below w.heap.size w u → Calls Tryz.prog 73 #[.int .i64 z, .int .i64 10] u fun e w' => e = .returned (.string (bs D)) ∧ Below u.heap.size u w') := fun u hu => by
        have := i_formatT z ZB.out.1 ZB.out.2 u (Lib.tabBelow_of_tabIs HT.out _ hu)
        rwa [hD] at this
      rw [hD] at NX
      obtain ⟨L, hL⟩ : ∃ L, wd ++ nsW (zs.take j) = L := ⟨_, rfl⟩
      have EN : Hid (wd ++ nsW (zs.take (j + 1)) = L ++ [32] ++ D) := by
        show _ = _
        rw [NX.out, ← List.append_assoc, hL, List.append_assoc]
        rfl
      rw [hL] at LL I1
      clear hlt hj hz hD hL kb NX
      go_wp2_with fail
      clear cx
      refine (bd_byte B B _ 32 wr I1.out (by rw [Lib.byteCells_length]; have := LL.out; omega) LB.out).mono ?_
      rintro e w2 ⟨rfl, k2, b2⟩
      have K2 : Hid (Lib.IsBuilder 66 5 B B (Lib.byteCells (L ++ [32])) w2) := by
        show Lib.IsBuilder _ _ _ _ _ _
        rw [Lib.byteCells_append]
        exact .inr k2
      have B2 : Hid (Below B w w2) := B1.out.trans b2
      have KB2 : Hid (Below w.heap.size w w2) := by show Below _ _ _; rw [HB.out]; exact B2.out
      clear k2 b2
      go_wp2_with fail
      refine (FM.out w2 KB2.out).mono ?_
      rintro e w3 ⟨rfl, b3⟩
      have K3 : Hid (Lib.IsBuilder 66 5 B B (Lib.byteCells (L ++ [32])) w3) := isb_keepS K2.out b3
      have B3 : Hid (Below B w w3) := B2.out.trans (b3.mono (by have := B2.out.size; have := HB.out; omega))
      clear b3
      go_wp2_with fail
      refine (bd_string B B _ (bs D) w3 K3.out (by rw [Lib.byteCells_length, bs_size, List.length_append]; have := LL.out; have := DL.out; simp; omega) (by have := B3.out.size; have := HB.out; omega)).mono ?_
      rintro e w4 ⟨rfl, k4, b4⟩
      have K4 : Hid (Lib.IsBuilder 66 5 B B (Lib.byteCells (wd ++ nsW (zs.take (j + 1)))) w4) := by
        show Lib.IsBuilder _ _ _ _ _ _
        rw [EN.out, Lib.byteCells_append]
        exact .inr k4
      have B4 : Hid (Below B w w4) := B3.out.trans b4
      clear k4 b4
      go_wp2_with fail
      go_roundw
      case rel => exact ⟨j + 1, by have := HL.out; omega, by go_num, K4.out, B4.out⟩
      case measure => have := HL.out; simp [intOf]; omega
    · have hJ : ¬ (j : Int) < (n : Int) := by omega
      have EJ : Hid (zs.take j = zs) := by show _ = _; exact List.take_of_length_le (by have := HN.out; omega)
      rw [EJ.out] at LL I1
      have EN : Hid ((⟨(wd ++ nsW zs).toArray⟩ : ByteArray) = V) := by show _ = _; rw [← HV.out]; rfl
      clear hlt hj kb
      go_wp2_with fail
      refine (Tryz.Builder_String_any B B (wd ++ nsW zs) _ I1.out LB.out).mono ?_
      rintro e w4 ⟨rfl, b4⟩
      have B4 : Hid (Below w.heap.size w w4) := by show Below _ _ _; rw [HB.out]; exact B1.out.trans b4
      rw [EN.out]
      clear b4
      go_wp2_with fail
      go_ret
      exact ⟨rfl, B4.out⟩
theorem wn_len {wd : List UInt8} {zs : List Int} {n : Nat} (h : zs.all isW = true) (hz : n = zs.length) (hn : n ≤ 1048576) (hl : wd.length ≤ 10) : (wd ++ nsW zs).length ≤ 20000000 := by
  have := ns_len h
  rw [List.length_append]
  omega
set_option maxHeartbeats 2000000 in
theorem i_numbersB (wd : List UInt8) (a : Option Addr) (n c : Nat) (zs : List Int) (w : World) (hR : Rn w a n c zs) (hw : zs.all isW = true) (hn : n ≤ 1048576) (hl : wd.length ≤ 10) (ht : Lib.TabIs Tryz.prog w "internal/strconv.uint64pow10" .u64 Lib.pow10Tab) :
    Calls Tryz.prog 21 #[.string (bs wd), .slice a n c] w fun e w' => e = .returned (.string (bs (nlW wd zs))) ∧ Below w.heap.size w w' := by
  have LL := wn_len hw hR.len hn hl
  have FM := i_wordNums wd a n c zs w hR hw hn hl ht
  have EN : Hid (bs (wd ++ nsW zs) ++ ⟨#[10]⟩ = bs (nlW wd zs)) := by show _ = _; rw [nlW, bs_app]; rfl
  have z1 : ¬ 9223372036854775807 < (bs (wd ++ nsW zs)).size + 1 := by rw [bs_size]; omega
  have z2 : ¬ 9223372036854775807 ≤ (bs (wd ++ nsW zs)).size := by rw [bs_size]; omega
  clear LL hR hw hn hl ht
  generalize bs (wd ++ nsW zs) = S at *
  generalize bs (nlW wd zs) = V at *
  generalize bs wd = wb at *
  go_enter Tryz.func21, Tryz.ntmps21
  go_wp2_with (go_at_call 51; refine FM.mono ?_; clear FM; rintro e w1 ⟨rfl, b1⟩)
  go_ret
  exact ⟨by rw [← EN.out]; rfl, b1⟩
theorem i_numbers (wd : List UInt8) (a : Option Addr) (n c : Nat) (zs : List Int) (w : World) (hR : Rn w a n c zs) (hw : zs.all isW = true) (hn : n ≤ 40) (hl : wd.length ≤ 10) (ht : Lib.TabIs Tryz.prog w "internal/strconv.uint64pow10" .u64 Lib.pow10Tab) :
    Calls Tryz.prog 21 #[.string (bs wd), .slice a n c] w fun e w' => e = .returned (.string (bs (nlW wd zs))) ∧ Below w.heap.size w w' := i_numbersB wd a n c zs w hR hw (by omega) hl ht
theorem s_digits (z : Int) (h0 : 0 ≤ z) (h1 : z ≤ 4294967295) (w : World) : Calls Tryz.prog 37 #[.int .i64 z] w fun e w' => e = .returned (.string (bs (Lib.decDigits z.toNat))) ∧ Below w.heap.size w w' := by
  have t := spec_digits z.toNat (by omega) w
  rw [show ((z.toNat : Nat) : Int) = z by omega] at t
  exact t
set_option maxRecDepth 20000 in
set_option maxHeartbeats 8000000 in
theorem s_lineB (wd : List UInt8) (a : Option Addr) (n c : Nat) (zs : List Int) (w : World) (hR : Rn w a n c zs) (hw : zs.all isW = true) (hn : n ≤ 1048576) (hl : wd.length ≤ 10) :
    Calls Tryz.prog 14 #[.string (bs wd), .slice a n c] w fun e w' => e = .returned (.string (bs (nlW wd zs))) ∧ Below w.heap.size w w' := by
  obtain ⟨V, hV⟩ : ∃ V, bs (nlW wd zs) = V := ⟨_, rfl⟩
  rw [hV]
  have HV : Hid (bs (nlW wd zs) = V) := hV
  clear hV
  have HR : Hid (Rn w a n c zs) := hR
  have HW : Hid (zs.all isW = true) := hw
  have HN : Hid (n = zs.length) := hR.len
  have HN4 : Hid (n ≤ 1048576 ∧ wd.length ≤ 10) := ⟨hn, hl⟩
  have hI : (n : Int) ≤ 1048576 := by omega
  clear hR hw hn hl
  go_enter Tryz.func14, Tryz.ntmps14
  go_wp2_with fail
  go_loopw [0, 5] (fun u i wr => ∃ j : Nat, j ≤ n ∧ i = .int .i64 j ∧ u = .string (bs (wd ++ nsW (zs.take j))) ∧ Below w.heap.size w wr) (fun _ i _ => n - (intOf i).toNat)
  case atStart => exact ⟨0, Nat.zero_le _, rfl, by simp [nsW], Below.refl _ _⟩
  case round =>
    obtain ⟨j, hj, rfl, rfl, hB⟩ := hrel
    have HB : Hid (Below w.heap.size w wr) := hB
    have LL : Hid ((wd ++ nsW (zs.take j)).length ≤ 20000000) := by
      show _ ≤ _
      have h1 := ns_len (all_takenT HW.out j)
      have h2 : (zs.take j).length ≤ j := by rw [List.length_take]; omega
      have h3 := HN4.out
      rw [List.length_append]
      omega
    by_cases hlt : j < n
    · have hJ : (j : Int) < (n : Int) := by omega
      have HL : Hid (j < n) := hlt
      obtain ⟨x, rfl, cx⟩ := (HR.out.stay hB).at j hlt
      have NX : Hid (_ = _) := ns_next zs j (by have := HN.out; omega)
      obtain ⟨z, hz⟩ : ∃ z, zs.getD j 0 = z := ⟨_, rfl⟩
      have ZB : Hid (0 ≤ z ∧ z ≤ 4294967295) := by rw [← hz]; exact all_at HW.out j
      rw [hz] at cx NX
      obtain ⟨D, hD⟩ : ∃ D, Lib.decDigits z.toNat = D := ⟨_, rfl⟩
      have DL : Hid (D.length ≤ 10) := by show _ ≤ _; rw [← hD]; exact dec_len10 ZB.out.1 ZB.out.2
      have FM := s_digits z ZB.out.1 ZB.out.2 wr
      rw [hD] at FM NX
      obtain ⟨L, hL⟩ : ∃ L, wd ++ nsW (zs.take j) = L := ⟨_, rfl⟩
      have EN : Hid (bs (wd ++ nsW (zs.take (j + 1))) = (bs L ++ ⟨#[32]⟩) ++ bs D) := by
        show _ = _
        rw [NX.out, ← List.append_assoc, hL, show (⟨#[32]⟩ : ByteArray) = bs [32] from rfl, ← bs_app, ← bs_app, List.append_assoc]
        rfl
      rw [hL] at LL ⊢
      have z1 : ¬ 9223372036854775807 < (bs L).size + 1 := by rw [bs_size]; have := LL.out; omega
      have z0 : ¬ 9223372036854775807 ≤ (bs L).size := by rw [bs_size]; have := LL.out; omega
      have z2 : ¬ 9223372036854775807 < (bs L ++ (⟨#[32]⟩ : ByteArray)).size + (bs D).size := by rw [show (⟨#[32]⟩ : ByteArray) = bs [32] from rfl, ← bs_app, bs_size, bs_size]; have := DL.out; have := LL.out; simp; omega
      have z3 : ¬ 9223372036854775807 < (bs L).size + 1 + (bs D).size := by rw [bs_size, bs_size]; have := DL.out; have := LL.out; omega
      clear hlt hj hz hD hL hB
      go_wp2_with (go_at_call 37; refine FM.mono ?_; clear FM; rintro e w1 ⟨rfl, b1⟩)
      go_roundw
      case rel => exact ⟨j + 1, by have := HL.out; omega, by go_num, by rw [EN.out], on HB.out b1⟩
      case measure => have := HL.out; simp [intOf]; omega
    · have hJ : ¬ (j : Int) < (n : Int) := by omega
      have EJ : Hid (zs.take j = zs) := by show _ = _; exact List.take_of_length_le (by have := HN.out; omega)
      rw [EJ.out] at LL ⊢
      have EN : Hid (bs (wd ++ nsW zs) ++ ⟨#[10]⟩ = V) := by show _ = _; rw [← HV.out, nlW, bs_app]; rfl
      have z1 : ¬ 9223372036854775807 < (bs (wd ++ nsW zs)).size + 1 := by rw [bs_size]; have := LL.out; omega
      have z2 : ¬ 9223372036854775807 ≤ (bs (wd ++ nsW zs)).size := by rw [bs_size]; have := LL.out; omega
      clear hlt hj
      generalize bs (wd ++ nsW zs) = S at *
      go_wp2_with fail
      go_ret
      exact ⟨by rw [← EN.out]; rfl, hB⟩
theorem s_line (wd : List UInt8) (a : Option Addr) (n c : Nat) (zs : List Int) (w : World) (hR : Rn w a n c zs) (hw : zs.all isW = true) (hn : n ≤ 40) (hl : wd.length ≤ 10) :
    Calls Tryz.prog 14 #[.string (bs wd), .slice a n c] w fun e w' => e = .returned (.string (bs (nlW wd zs))) ∧ Below w.heap.size w w' := s_lineB wd a n c zs w hR hw (by omega) hl
end Go.Proofs.YtkaehdlgimodjaaGreatDoor
