/- Texts of this seat, joined. -/
import Derived.Test.YtdmlejfopmimfaaGreatDoorShelf
import Derived.OwnWalk
import Derived.Deep.AppendSrc
import Derived.Lib.AppendIntMem
import Derived.Lib.AppendStr
import Derived.Test.YtdmlejfopmimfaaGreatDoorQ18
import Derived.Test.YtdmlejfopmimfaaGreatDoorQ20
namespace Go.Proofs.YtdmlejfopmimfaaGreatDoor
open Go.RowKit
set_option linter.unusedVariables false

theorem info_str : (Tryz.prog.info? 9).map (fun i => (i.zero, i.size, i.bytes)) = some (some (.string ⟨#[]⟩), 1, 16) := by kernel_rfl
theorem field_text (x y : Value) (w : World) : (Instr.field 27 (.agg #[x, y]) 1).run Tryz.prog w = .ok y w := by kernel_rfl

theorem wp_pushS {ops : Array Oper} {rest : List Oper} {o : Oper} {act : Act} {Q : Exit → Act → World → Prop} (w : World) (hgd : o.guard = none) (s x : Operand)
    (ho : o.op = .call { callee := .builtin .append, args := #[s, x], argTypes := #[59, 59] }) (base : Nat) (v : Value) (n : Nat) (xs : List Value)
    (hs : act.eval s = v) (hown : w.ownsRow base 9 1 v n xs) (g : Nat) (t : ByteArray) (hx : act.eval x = .slice (some ⟨g, 0, none⟩) 1 1) (hg : w.cell? ⟨g, 0, none⟩ = some (.string t))
    (hn : n ≤ 1000) (hbase : base ≤ w.heap.size)
    (h : ∀ v' w', w'.ownsRow base 9 1 v' (n + 1) (xs ++ [.string t]) → w.grownBy w' v.ownBlock → wpList Tryz.prog ops Q rest (act.put o.dst v') w') :
    wpList Tryz.prog ops Q (o :: rest) act w := by
  obtain ⟨i, hi, hz0, hz1, hz2⟩ := info_parts info_str
  refine wpList_append_own w hgd s x 59 ho base 9 i _ 1 16 Tryz.underlying59 hi hz0 hz1 hz2 rfl (by decide) v n xs hs hown ⟨g, 0, none⟩ 1 1 [.string t] hx rfl ?_ ?_ (by unfold maxLen; omega) (by omega) hbase ?_
  · intro j u hj
    have hj0 : j = 0 := by
      have := (List.getElem?_eq_some_iff.1 hj).1
      simpa using this
    subst hj0
    have hu : Value.string t = u := by simpa using hj
    subst hu
    exact hg
  · intro u hu
    rw [List.mem_singleton.1 hu]
    rfl
  · intro v' w' h1 h2 _
    exact h v' w' h1 h2

theorem impl_format (n : Nat) (h : n < 4294967296) (w : World) (htab : Lib.TabIs Tryz.prog w "internal/strconv.uint64pow10" .u64 Lib.pow10Tab) :
    Calls Tryz.prog 69 #[.int .i64 n, .int .i64 10] w fun e w' => e = .returned (.string (decB n)) ∧ Below w.heap.size w w' := by
  refine (Tryz.strconv_FormatInt_10 n (by omega) (by omega) w htab).mono ?_
  rintro e w' ⟨rfl, k, os, rfl⟩
  refine ⟨?_, ?_⟩
  · rw [Lib.itoa, if_neg (by omega), Int.toNat_natCast]; rfl
  · refine ⟨rfl, rfl, rfl, by show w.heap.size ≤ ((w.drewN k).heap ++ os).size; rw [Array.size_append]; exact Nat.le_add_right _ _, fun i hi => ?_⟩
    show ((w.drewN k).heap ++ os)[i]? = _
    rw [Array.getElem?_append_left (by show i < w.heap.size; omega)]
    rfl

set_option maxHeartbeats 1000000 in
theorem impl_told_dai (op d a imm : Int) (w : World) (h : 1 ≤ op ∧ op ≤ 26) (hx : op ≠ 13 ∧ op ≠ 19 ∧ op ≠ 21 ∧ op < 22) :
    Calls Tryz.prog 50 #[.agg #[.int .i64 op, .int .i64 d, .int .i64 a, .int .i64 imm]] w fun e w' => e = .returned (.slice (some ⟨w.heap.size + 1, 0, none⟩) 3 3) ∧ w' = (w.alloc (.cells #[.int .i64 op, .int .i64 d, .int .i64 a, .int .i64 imm] 72)).alloc (.cells #[.int .i64 d, .int .i64 a, .int .i64 imm] 2) := by
  have g1 : (op == 13) = false := beq_eq_false_iff_ne.2 (by omega)
  have g2 : (op == 19) = false := beq_eq_false_iff_ne.2 (by omega)
  have g3 : (op == 21) = false := beq_eq_false_iff_ne.2 (by omega)
  have g4 : (op == 22) = false := beq_eq_false_iff_ne.2 (by omega)
  have g5 : (op == 23) = false := beq_eq_false_iff_ne.2 (by omega)
  have g6 : (op == 24) = false := beq_eq_false_iff_ne.2 (by omega)
  have g7 : (op == 25) = false := beq_eq_false_iff_ne.2 (by omega)
  have g8 : (op == 26) = false := beq_eq_false_iff_ne.2 (by omega)
  clear h hx
  go_enter Tryz.func50, Tryz.ntmps50
  go_wp2
  go_ret
  exact ⟨rfl, rfl⟩
theorem impl_told_di (op d a imm : Int) (w : World) (h : op = 13 ∨ op = 19 ∨ op = 21) :
    Calls Tryz.prog 50 #[.agg #[.int .i64 op, .int .i64 d, .int .i64 a, .int .i64 imm]] w fun e w' => e = .returned (.slice (some ⟨w.heap.size + 1, 0, none⟩) 2 2) ∧ w' = (w.alloc (.cells #[.int .i64 op, .int .i64 d, .int .i64 a, .int .i64 imm] 72)).alloc (.cells #[.int .i64 d, .int .i64 imm] 2) := by
  rcases h with rfl | rfl | rfl
  all_goals
    go_enter Tryz.func50, Tryz.ntmps50
    go_wp2
    go_ret
    exact ⟨rfl, rfl⟩
theorem impl_told_ai (d a imm : Int) (w : World) :
    Calls Tryz.prog 50 #[.agg #[.int .i64 22, .int .i64 d, .int .i64 a, .int .i64 imm]] w fun e w' => e = .returned (.slice (some ⟨w.heap.size + 1, 0, none⟩) 2 2) ∧ w' = (w.alloc (.cells #[.int .i64 22, .int .i64 d, .int .i64 a, .int .i64 imm] 72)).alloc (.cells #[.int .i64 a, .int .i64 imm] 2) := by
  go_enter Tryz.func50, Tryz.ntmps50
  go_wp2
  go_ret
  exact ⟨rfl, rfl⟩
theorem impl_told_none (op d a imm : Int) (w : World) (h : op = 23 ∨ op = 24 ∨ op = 25 ∨ op = 26) :
    Calls Tryz.prog 50 #[.agg #[.int .i64 op, .int .i64 d, .int .i64 a, .int .i64 imm]] w fun e w' => e = .returned (.slice none 0 0) ∧ Below w.heap.size w w' := by
  rcases h with rfl | rfl | rfl | rfl
  all_goals
    go_enter Tryz.func50, Tryz.ntmps50
    go_wp2
    go_ret
    exact ⟨rfl, al (Below.refl _ _) _⟩
end Go.Proofs.YtdmlejfopmimfaaGreatDoor
namespace Go.Proofs.YtdmlejfopmimfaaGreatDoor
open Go.RowKit
set_option linter.unusedVariables false

theorem ret_b {a b : Bool} (h : a = b) : Ending.returned (.bool a) = .returned (.bool b) := by rw [h]

set_option maxHeartbeats 1000000 in
theorem i_words (a : Option Addr) (n cap : Nat) (zs : List Int) (w : World) (h : Rn w a n cap zs) :
    Calls Tryz.prog 18 #[.slice a n cap] w fun e w' => e = .returned (.bool (zs.all isW)) ∧ w' = w := by
  have HN : Hid (n = zs.length) := h.len
  have HZ : Hid (Rn w a n cap zs) := h
  have hl : (n : Int) ≤ 9223372036854775807 := by have := h.cap; unfold maxLen at this; omega
  clear h
  go_enter Tryz.func18, Tryz.ntmps18
  go_wp2_with fail
  go_loop [4, 7] (fun _ i => ∃ j : Nat, j ≤ n ∧ i = .int .i64 j ∧ Hid ((zs.take j).all isW = true)) (fun _ i => n - (intOf i).toNat)
  case atStart => exact ⟨0, Nat.zero_le _, rfl, rfl⟩
  case round =>
    obtain ⟨j, hj, rfl, hA⟩ := hrel
    by_cases hlt : j < n
    · obtain ⟨x, rfl, c1⟩ := HZ.out.at j hlt
      have hJ : (j : Int) < (n : Int) := by omega
      have HL : Hid (j < zs.length) := by show _ < _; have := HN.out; omega
      obtain ⟨z, hz⟩ : ∃ z, zs.getD j 0 = z := ⟨_, rfl⟩
      rw [hz] at c1
      have HZZ : Hid (zs.getD j 0 = z) := hz
      clear hz hlt
      cases hw : isW z
      · have HW : Hid (isW z = false) := hw
        go_wp2_with (go_at_call 37; refine (impl_isWord _ _).mono ?_; rintro e x ⟨rfl, rfl⟩; rw [hw])
        go_ret
        exact ⟨ret_b (all_not zs j HL.out (by rw [HZZ.out]; exact HW.out)).symm, rfl⟩
      · have HW : Hid (isW z = true) := hw
        go_wp2_with (go_at_call 37; refine (impl_isWord _ _).mono ?_; rintro e x ⟨rfl, rfl⟩; rw [hw])
        go_round
        case rel => exact ⟨j + 1, by have := HL.out; have := HN.out; omega, by go_num, by show _ = _; rw [all_take zs j HL.out, hA.out, HZZ.out, HW.out]; rfl⟩
        case measure => have := HL.out; have := HN.out; simp [intOf]; omega
    · have hJ : ¬ (j : Int) < (n : Int) := by omega
      obtain rfl : j = n := by omega
      go_wp2_with fail
      go_ret
      exact ⟨ret_b (by have := hA.out; rw [List.take_of_length_le (Nat.le_of_eq HN.out.symm)] at this; exact this.symm), rfl⟩

theorem s_word (z : Int) (w : World) : Calls Tryz.prog 60 #[.int .i64 z] w fun e w' => e = .returned (.bool (isW z)) ∧ w' = w := by
  have hw : (decide (0 ≤ z) && decide (z ≤ 4294967295)) = isW z := rfl
  go_enter Tryz.func60, Tryz.ntmps60
  go_wp2_with (go_at_call 61; refine (spec_in _ _ _ _).mono ?_; rintro e x ⟨rfl, rfl⟩; rw [hw])
  go_ret
  exact ⟨rfl, rfl⟩

set_option maxHeartbeats 1000000 in
theorem s_words (a : Option Addr) (n cap : Nat) (zs : List Int) (w : World) (h : Rn w a n cap zs) :
    Calls Tryz.prog 30 #[.slice a n cap] w fun e w' => e = .returned (.bool (zs.all isW)) ∧ w' = w := by
  have HN : Hid (n = zs.length) := h.len
  have HZ : Hid (Rn w a n cap zs) := h
  have hl : (n : Int) ≤ 9223372036854775807 := by have := h.cap; unfold maxLen at this; omega
  clear h
  go_enter Tryz.func30, Tryz.ntmps30
  go_wp2_with fail
  go_loop [3] (fun i => ∃ j : Nat, j ≤ n ∧ i = .int .i64 j ∧ Hid ((zs.take j).all isW = true)) (fun i => n - (intOf i).toNat)
  case atStart => exact ⟨0, Nat.zero_le _, rfl, rfl⟩
  case round =>
    obtain ⟨j, hj, rfl, hA⟩ := hrel
    by_cases hlt : j < n
    · obtain ⟨x, rfl, c1⟩ := HZ.out.at j hlt
      have hJ : (j : Int) < (n : Int) := by omega
      have HL : Hid (j < zs.length) := by show _ < _; have := HN.out; omega
      obtain ⟨z, hz⟩ : ∃ z, zs.getD j 0 = z := ⟨_, rfl⟩
      rw [hz] at c1
      have HZZ : Hid (zs.getD j 0 = z) := hz
      clear hz hlt
      cases hw : isW z
      · have HW : Hid (isW z = false) := hw
        go_wp2_with (go_at_call 60; refine (s_word _ _).mono ?_; rintro e x ⟨rfl, rfl⟩; rw [hw])
        go_ret
        exact ⟨ret_b (all_not zs j HL.out (by rw [HZZ.out]; exact HW.out)).symm, rfl⟩
      · have HW : Hid (isW z = true) := hw
        go_wp2_with (go_at_call 60; refine (s_word _ _).mono ?_; rintro e x ⟨rfl, rfl⟩; rw [hw])
        go_round
        case rel => exact ⟨j + 1, by have := HL.out; have := HN.out; omega, by go_num, by show _ = _; rw [all_take zs j HL.out, hA.out, HZZ.out, HW.out]; rfl⟩
        case measure => have := HL.out; have := HN.out; simp [intOf]; omega
    · have hJ : ¬ (j : Int) < (n : Int) := by omega
      obtain rfl : j = n := by omega
      go_wp2_with fail
      go_ret
      exact ⟨ret_b (by have := hA.out; rw [List.take_of_length_le (Nat.le_of_eq HN.out.symm)] at this; exact this.symm), rfl⟩

end Go.Proofs.YtdmlejfopmimfaaGreatDoor
namespace Go.Proofs.YtdmlejfopmimfaaGreatDoor
open Go.RowKit
set_option linter.unusedVariables false

theorem bd_keep {w w' : World} {T e : TypeId} {B b : Nat} {p : Value} {bs : List Value} (h : Lib.BuilderAt T e B b p bs w) (k : Below w.heap.size w w') : Lib.BuilderAt T e B b p bs w' := by
  obtain ⟨h1, v, h2, h3, h4⟩ := h
  have hl : b < w.heap.size := (Array.getElem?_eq_some_iff.1 h2).1
  exact ⟨h1, v, (k.block b hl).trans h2, h3.kept (below_grown k none) (by cases v.ownBlock <;> simp), h4⟩

set_option maxRecDepth 20000 in
set_option maxHeartbeats 2000000 in
theorem bd_check (B b : Nat) (bs : List Value) (w : World) (h : Lib.IsBuilder 44 5 B b bs w) :
    Calls Tryz.prog 38 #[.pointer (some ⟨b, 0, none⟩)] w fun e w' => e = .returned (.tuple #[]) ∧ Lib.BuilderAt 44 5 B b (.pointer (some ⟨b, 0, none⟩)) bs w' ∧ Below B w w' := by
  rcases h with h | h
  · have c0 := h.cell0
    have f0 := h.frozen0
    have sh := h.shape
    have H : Hid (Lib.BuilderAt 44 5 B b (.pointer none) bs w) := h
    obtain ⟨j, hj, hjs⟩ : ∃ j, Tryz.prog.info? 44 = some j ∧ j.size = 2 := by
      have : (Tryz.prog.info? 44).map (·.size) = some 2 := by kernel_rfl
      exact Option.map_eq_some_iff.1 this
    have k1 := Lib.run_to_unsafe (P := Tryz.prog) w ⟨b, 0, none⟩ Tryz.underlying42 Tryz.underlying108 hj (by rw [hjs]; decide) sh (Nat.zero_lt_succ 1)
    have k2 := Lib.run_from_unsafe (P := Tryz.prog) w ⟨b, 0, none⟩ Tryz.underlying108 Tryz.underlying42 hj sh (by kernel_rfl)
    have k3 : (callFunc 65 #[.pointer (some ⟨b, 0, none⟩)]).run Tryz.prog w = .ok (.value (.pointer (some ⟨b, 0, none⟩))) w := by
      rw [run_callFunc_extern Tryz.func65 (by kernel_rfl) (by kernel_rfl) (by kernel_rfl) (e := Extern.AbiNoEscape.same) (by kernel_rfl)]
      rfl
    clear h
    go_enter Tryz.func38, Tryz.ntmps38
    go_wp2_with fail
    go_end0
    exact ⟨rfl, H.out.used _, (Below.refl B w).setCell (p := ⟨b, 0, none⟩) H.out.1 _⟩
  · have c0 := h.cell0
    have H : Hid (Lib.BuilderAt 44 5 B b (.pointer (some ⟨b, 0, none⟩)) bs w) := h
    obtain ⟨j, hj, _⟩ : ∃ j, Tryz.prog.info? 44 = some j ∧ j.size = 2 := by
      have : (Tryz.prog.info? 44).map (·.size) = some 2 := by kernel_rfl
      exact Option.map_eq_some_iff.1 this
    have k1 := Lib.run_neq_ptr_same (P := Tryz.prog) w ⟨b, 0, none⟩ Tryz.underlying42 hj
    clear h
    go_enter Tryz.func38, Tryz.ntmps38
    go_wp2_with fail
    go_end0
    exact ⟨rfl, H.out, Below.refl _ _⟩

/-- What is known of a builder behind its check, and of its list of bytes. -/
structure Bk (w : World) (B b : Nat) (v : Value) (bs : List Value) : Prop where
  hB : B ≤ b
  blk : Vb w b #[.pointer (some ⟨b, 0, none⟩), v] 44
  own : w.ownsRow B 5 1 v bs.length bs
  ne : v.ownBlock ≠ some b
theorem Bk.grown {w w' : World} {B b : Nat} {v v' : Value} {bs bs' : List Value} (h : Bk w B b v bs) (g : w.grownBy w' v.ownBlock) (o : w'.ownsRow B 5 1 v' bs'.length bs') :
    Lib.BuilderAt 44 5 B b (.pointer (some ⟨b, 0, none⟩)) bs' (w'.setCell ⟨b, 1, none⟩ v') ∧ Vb w' b #[.pointer (some ⟨b, 0, none⟩), v] 44 := by
  have hv : Vb w' b #[.pointer (some ⟨b, 0, none⟩), v] 44 := h.blk.gr g fun e => h.ne e.symm
  exact ⟨Lib.BuilderAt.put (T := 44) (e := 5) h.hB hv o (by decide), hv⟩
theorem info_u8 : (Tryz.prog.info? 5).map (fun i => (i.zero, i.size, i.bytes)) = some (some (.int .u8 0), 1, 1) := by kernel_rfl

set_option maxRecDepth 20000 in
set_option maxHeartbeats 2000000 in
theorem bd_byte (B b : Nat) (bs : List Value) (c : Int) (w : World) (h : Lib.IsBuilder 44 5 B b bs w) (hl : bs.length ≤ 1000000000) (hBw : B ≤ w.heap.size) :
    Calls Tryz.prog 81 #[.pointer (some ⟨b, 0, none⟩), .int .u8 c] w fun e w' => e = .returned .nilIface ∧ Lib.BuilderAt 44 5 B b (.pointer (some ⟨b, 0, none⟩)) (bs ++ [.int .u8 c]) w' ∧ Below B w w' := by
  obtain ⟨i0, hi, hz0, hz1, hz2⟩ := info_parts info_u8
  have H : Hid (Lib.IsBuilder 44 5 B b bs w) := h
  have HL : Hid (bs.length ≤ 1000000000 ∧ B ≤ w.heap.size) := ⟨hl, hBw⟩
  clear h hl hBw
  go_enter Tryz.func81, Tryz.ntmps81
  go_wp2_with fail
  refine (bd_check B b bs _ H.out).mono ?_
  rintro e w1 ⟨rfl, h1, b1⟩
  obtain ⟨hB, v, hbk, hown, hne⟩ := h1
  have K1 : Hid (Bk w1 B b v bs) := ⟨hB, hbk, hown, hne⟩
  have B1 : Hid (Below B w w1) := b1
  have c1 := K1.out.blk.cell 1 rfl
  have K2 : Hid (Bk (w1.alloc (.cells #[.int .u8 c] 5)) B b v bs) := ⟨hB, K1.out.blk.push _, hown.alloc _, hne⟩
  have B2 : Hid (Below B w (w1.alloc (.cells #[.int .u8 c] 5))) := b1.alloc (by have := b1.size; have := HL.out.2; omega) _
  have lb : b < w1.heap.size := K1.out.blk.lt
  clear hB hbk hown hne b1
  go_wp2_with (at_builtin; refine wpList_append_own _ rfl _ _ 22 rfl B 5 i0 (.int .u8 0) 1 1 Tryz.underlying22 hi hz0 hz1 hz2 rfl (by decide) _ _ _ rfl K2.out.own ⟨w1.heap.size, 0, none⟩ 1 1 [.int .u8 c] rfl rfl ?c1 ?c2 ?c3 ?c4 ?c5 ?_)
  case c1 =>
    intro j u hj
    match j, hj with
    | 0, hj => simp at hj; subst hj; simp [Addr.add]
  case c2 => intro u hu; simp at hu; subst hu; rfl
  case c3 => have := HL.out.1; unfold maxLen; omega
  case c4 => have := HL.out.1; omega
  case c5 => have := B2.out.size; have := HL.out.2; omega
  intro v' w2 hown' hgrow _
  have G := K2.out.grown (bs' := bs ++ [.int .u8 c]) hgrow (by simpa using hown')
  have HG : Hid (_ ∧ _) := G
  have B3 : Hid (Below B w (w2.setCell ⟨b, 1, none⟩ v')) := (B2.out.grown hgrow (by have := B2.out.size; have := HL.out.2; omega) (fun k hk => (K2.out.own.lt k hk).1)).setCell (p := ⟨b, 1, none⟩) K2.out.hB _
  obtain ⟨g, cap, rfl⟩ : ∃ g cap, v' = .slice (some ⟨g, 0, none⟩) (bs.length + 1) cap := by
    rcases hown'.2 with ⟨_, h0⟩ | ⟨g, cap, cur, hv, _⟩
    · omega
    · exact ⟨g, cap, hv⟩
  have d1 := HG.out.2.cell 1 rfl
  have f1 := HG.out.2.free 1
  clear G hown' hgrow c1 lb
  go_wp2_with fail
  go_ret
  exact ⟨rfl, HG.out.1, B3.out⟩

set_option maxRecDepth 20000 in
set_option maxHeartbeats 2000000 in
theorem bd_string (B b : Nat) (bs : List Value) (s : ByteArray) (w : World) (h : Lib.IsBuilder 44 5 B b bs w) (hl : bs.length + s.size ≤ 1000000000) (hBw : B ≤ w.heap.size) :
    Calls Tryz.prog 19 #[.pointer (some ⟨b, 0, none⟩), .string s] w fun e w' => e = .returned (.tuple #[.int .i64 s.size, .nilIface]) ∧ Lib.BuilderAt 44 5 B b (.pointer (some ⟨b, 0, none⟩)) (bs ++ Lib.strCells s) w' ∧ Below B w w' := by
  obtain ⟨i0, hi, hz0, hz1, hz2⟩ := info_parts info_u8
  have H : Hid (Lib.IsBuilder 44 5 B b bs w) := h
  have HL : Hid (bs.length + s.size ≤ 1000000000 ∧ B ≤ w.heap.size) := ⟨hl, hBw⟩
  clear h hl hBw
  go_enter Tryz.func19, Tryz.ntmps19
  go_wp2_with fail
  refine (bd_check B b bs _ H.out).mono ?_
  rintro e w1 ⟨rfl, h1, b1⟩
  obtain ⟨hB, v, hbk, hown, hne⟩ := h1
  have K1 : Hid (Bk w1 B b v bs) := ⟨hB, hbk, hown, hne⟩
  have B1 : Hid (Below B w w1) := b1
  have c1 := K1.out.blk.cell 1 rfl
  clear hB hbk hown hne b1
  go_wp2_with (at_builtin; refine Lib.wpList_append_own_string _ rfl _ _ 22 9 rfl B 5 i0 Tryz.underlying22 Tryz.underlying9 hi hz0 hz1 hz2 _ _ _ rfl K1.out.own s rfl ?c3 ?c4 ?c5 ?_)
  case c3 => have := HL.out.1; unfold maxLen; omega
  case c4 => have := HL.out.1; omega
  case c5 => have := B1.out.size; have := HL.out.2; omega
  intro v' w2 hown' hgrow _
  have G := K1.out.grown (bs' := bs ++ Lib.strCells s) hgrow (by simpa [Lib.strCells_length] using hown')
  have HG : Hid (_ ∧ _) := G
  have B3 : Hid (Below B w (w2.setCell ⟨b, 1, none⟩ v')) := (B1.out.grown hgrow (by have := B1.out.size; have := HL.out.2; omega) (fun k hk => (K1.out.own.lt k hk).1)).setCell (p := ⟨b, 1, none⟩) K1.out.hB _
  obtain ⟨ao, n', cap, rfl⟩ : ∃ ao n' cap, v' = .slice ao n' cap := by
    rcases hown'.2 with ⟨hv, _⟩ | ⟨g, cap, cur, hv, _⟩
    · exact ⟨_, _, _, hv⟩
    · exact ⟨_, _, _, hv⟩
  have d1 := HG.out.2.cell 1 rfl
  have f1 := HG.out.2.free 1
  clear G hown' hgrow c1
  go_wp2_with fail
  go_ret2
  exact ⟨rfl, HG.out.1, B3.out⟩
end Go.Proofs.YtdmlejfopmimfaaGreatDoor
