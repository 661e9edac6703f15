/- strings.Builder: what is written into one of the call's own stands in it. -/
import Derived.Test.YtdogabmehjbphaaDoorShelf
import Derived.Test.YtdogabmehjbphaaDoorHnm
import Derived.Lib.AppendStr
namespace Go.Proofs.YtdogabmehjbphaaDoor
open Go.RowKit
set_option linter.unusedVariables false

theorem bd_keep {w w' : World} {T e : TypeId} {B b : Nat} {p : Value} {bs : List Value} (h : Lib.BuilderAt T e B b p bs w) (k : Below w.heap.size w w') : Lib.BuilderAt T e B b p bs w' := by
  obtain ⟨h1, v, h2, h3, h4⟩ := h
  have hl : b < w.heap.size := (Array.getElem?_eq_some_iff.1 h2).1
  exact ⟨h1, v, (k.block b hl).trans h2, h3.kept (below_grown k none) (by cases v.ownBlock <;> simp), h4⟩

set_option maxRecDepth 20000 in
set_option maxHeartbeats 2000000 in
theorem bd_check (B b : Nat) (bs : List Value) (w : World) (h : Lib.IsBuilder 40 5 B b bs w) :
    Calls Tryd.prog 24 #[.pointer (some ⟨b, 0, none⟩)] w fun e w' => e = .returned (.tuple #[]) ∧ Lib.BuilderAt 40 5 B b (.pointer (some ⟨b, 0, none⟩)) bs w' ∧ Below B w w' := by
  rcases h with h | h
  · have c0 := h.cell0
    have f0 := h.frozen0
    have sh := h.shape
    have H : Hid (Lib.BuilderAt 40 5 B b (.pointer none) bs w) := h
    obtain ⟨j, hj, hjs⟩ : ∃ j, Tryd.prog.info? 40 = some j ∧ j.size = 2 := by
      have : (Tryd.prog.info? 40).map (·.size) = some 2 := by kernel_rfl
      exact Option.map_eq_some_iff.1 this
    have k1 := Lib.run_to_unsafe (P := Tryd.prog) w ⟨b, 0, none⟩ Tryd.underlying37 Tryd.underlying60 hj (by rw [hjs]; decide) sh (Nat.zero_lt_succ 1)
    have k2 := Lib.run_from_unsafe (P := Tryd.prog) w ⟨b, 0, none⟩ Tryd.underlying60 Tryd.underlying37 hj sh (by kernel_rfl)
    have k3 : (callFunc 29 #[.pointer (some ⟨b, 0, none⟩)]).run Tryd.prog w = .ok (.value (.pointer (some ⟨b, 0, none⟩))) w := by
      rw [run_callFunc_extern Tryd.func29 (by kernel_rfl) (by kernel_rfl) (by kernel_rfl) (e := Extern.AbiNoEscape.same) (by kernel_rfl)]
      rfl
    clear h
    go_enter Tryd.func24, Tryd.ntmps24
    go_wp2_with fail
    go_end0
    exact ⟨rfl, H.out.used _, (Below.refl B w).setCell (p := ⟨b, 0, none⟩) H.out.1 _⟩
  · have c0 := h.cell0
    have H : Hid (Lib.BuilderAt 40 5 B b (.pointer (some ⟨b, 0, none⟩)) bs w) := h
    obtain ⟨j, hj, _⟩ : ∃ j, Tryd.prog.info? 40 = some j ∧ j.size = 2 := by
      have : (Tryd.prog.info? 40).map (·.size) = some 2 := by kernel_rfl
      exact Option.map_eq_some_iff.1 this
    have k1 := Lib.run_neq_ptr_same (P := Tryd.prog) w ⟨b, 0, none⟩ Tryd.underlying37 hj
    clear h
    go_enter Tryd.func24, Tryd.ntmps24
    go_wp2_with fail
    go_end0
    exact ⟨rfl, H.out, Below.refl _ _⟩

/-- What is known of a builder behind its check, and of its list of bytes. -/
structure Bk (w : World) (B b : Nat) (v : Value) (bs : List Value) : Prop where
  hB : B ≤ b
  blk : Vb w b #[.pointer (some ⟨b, 0, none⟩), v] 40
  own : w.ownsRow B 5 1 v bs.length bs
  ne : v.ownBlock ≠ some b
theorem Bk.grown {w w' : World} {B b : Nat} {v v' : Value} {bs bs' : List Value} (h : Bk w B b v bs) (g : w.grownBy w' v.ownBlock) (o : w'.ownsRow B 5 1 v' bs'.length bs') :
    Lib.BuilderAt 40 5 B b (.pointer (some ⟨b, 0, none⟩)) bs' (w'.setCell ⟨b, 1, none⟩ v') ∧ Vb w' b #[.pointer (some ⟨b, 0, none⟩), v] 40 := by
  have hv : Vb w' b #[.pointer (some ⟨b, 0, none⟩), v] 40 := h.blk.gr g fun e => h.ne e.symm
  exact ⟨Lib.BuilderAt.put (T := 40) (e := 5) h.hB hv o (by decide), hv⟩
theorem info_u8 : (Tryd.prog.info? 5).map (fun i => (i.zero, i.size, i.bytes)) = some (some (.int .u8 0), 1, 1) := by kernel_rfl

set_option maxRecDepth 20000 in
set_option maxHeartbeats 2000000 in
theorem bd_byte (B b : Nat) (bs : List Value) (c : Int) (w : World) (h : Lib.IsBuilder 40 5 B b bs w) (hl : bs.length ≤ 1000000000) (hBw : B ≤ w.heap.size) :
    Calls Tryd.prog 38 #[.pointer (some ⟨b, 0, none⟩), .int .u8 c] w fun e w' => e = .returned .nilIface ∧ Lib.BuilderAt 40 5 B b (.pointer (some ⟨b, 0, none⟩)) (bs ++ [.int .u8 c]) w' ∧ Below B w w' := by
  obtain ⟨i0, hi, hz0, hz1, hz2⟩ := info_parts info_u8
  have H : Hid (Lib.IsBuilder 40 5 B b bs w) := h
  have HL : Hid (bs.length ≤ 1000000000 ∧ B ≤ w.heap.size) := ⟨hl, hBw⟩
  clear h hl hBw
  go_enter Tryd.func38, Tryd.ntmps38
  go_wp2_with fail
  refine (bd_check B b bs _ H.out).mono ?_
  rintro e w1 ⟨rfl, h1, b1⟩
  obtain ⟨hB, v, hbk, hown, hne⟩ := h1
  have K1 : Hid (Bk w1 B b v bs) := ⟨hB, hbk, hown, hne⟩
  have B1 : Hid (Below B w w1) := b1
  have c1 := K1.out.blk.cell 1 rfl
  have K2 : Hid (Bk (w1.alloc (.cells #[.int .u8 c] 5)) B b v bs) := ⟨hB, K1.out.blk.push _, hown.alloc _, hne⟩
  have B2 : Hid (Below B w (w1.alloc (.cells #[.int .u8 c] 5))) := b1.alloc (by have := b1.size; have := HL.out.2; omega) _
  have lb : b < w1.heap.size := K1.out.blk.lt
  clear hB hbk hown hne b1
  go_wp2_with (at_builtin; refine wpList_append_own _ rfl _ _ 38 rfl B 5 i0 (.int .u8 0) 1 1 Tryd.underlying38 hi hz0 hz1 hz2 rfl (by decide) _ _ _ rfl K2.out.own ⟨w1.heap.size, 0, none⟩ 1 1 [.int .u8 c] rfl rfl ?c1 ?c2 ?c3 ?c4 ?c5 ?_)
  case c1 =>
    intro j u hj
    match j, hj with
    | 0, hj => simp at hj; subst hj; simp [Addr.add]
  case c2 => intro u hu; simp at hu; subst hu; rfl
  case c3 => have := HL.out.1; unfold maxLen; omega
  case c4 => have := HL.out.1; omega
  case c5 => have := B2.out.size; have := HL.out.2; omega
  intro v' w2 hown' hgrow _
  have G := K2.out.grown (bs' := bs ++ [.int .u8 c]) hgrow (by simpa using hown')
  have HG : Hid (_ ∧ _) := G
  have B3 : Hid (Below B w (w2.setCell ⟨b, 1, none⟩ v')) := (B2.out.grown hgrow (by have := B2.out.size; have := HL.out.2; omega) (fun k hk => (K2.out.own.lt k hk).1)).setCell (p := ⟨b, 1, none⟩) K2.out.hB _
  obtain ⟨g, cap, rfl⟩ : ∃ g cap, v' = .slice (some ⟨g, 0, none⟩) (bs.length + 1) cap := by
    rcases hown'.2 with ⟨_, h0⟩ | ⟨g, cap, cur, hv, _⟩
    · omega
    · exact ⟨g, cap, hv⟩
  have d1 := HG.out.2.cell 1 rfl
  have f1 := HG.out.2.free 1
  clear G hown' hgrow c1 lb
  go_wp2_with fail
  go_ret
  exact ⟨rfl, HG.out.1, B3.out⟩

set_option maxRecDepth 20000 in
set_option maxHeartbeats 2000000 in
theorem bd_string (B b : Nat) (bs : List Value) (s : ByteArray) (w : World) (h : Lib.IsBuilder 40 5 B b bs w) (hl : bs.length + s.size ≤ 1000000000) (hBw : B ≤ w.heap.size) :
    Calls Tryd.prog 14 #[.pointer (some ⟨b, 0, none⟩), .string s] w fun e w' => e = .returned (.tuple #[.int .i64 s.size, .nilIface]) ∧ Lib.BuilderAt 40 5 B b (.pointer (some ⟨b, 0, none⟩)) (bs ++ Lib.strCells s) w' ∧ Below B w w' := by
  obtain ⟨i0, hi, hz0, hz1, hz2⟩ := info_parts info_u8
  have H : Hid (Lib.IsBuilder 40 5 B b bs w) := h
  have HL : Hid (bs.length + s.size ≤ 1000000000 ∧ B ≤ w.heap.size) := ⟨hl, hBw⟩
  clear h hl hBw
  go_enter Tryd.func14, Tryd.ntmps14
  go_wp2_with fail
  refine (bd_check B b bs _ H.out).mono ?_
  rintro e w1 ⟨rfl, h1, b1⟩
  obtain ⟨hB, v, hbk, hown, hne⟩ := h1
  have K1 : Hid (Bk w1 B b v bs) := ⟨hB, hbk, hown, hne⟩
  have B1 : Hid (Below B w w1) := b1
  have c1 := K1.out.blk.cell 1 rfl
  clear hB hbk hown hne b1
  go_wp2_with (at_builtin; refine Lib.wpList_append_own_string _ rfl _ _ 38 9 rfl B 5 i0 Tryd.underlying38 Tryd.underlying9 hi hz0 hz1 hz2 _ _ _ rfl K1.out.own s rfl ?c3 ?c4 ?c5 ?_)
  case c3 => have := HL.out.1; unfold maxLen; omega
  case c4 => have := HL.out.1; omega
  case c5 => have := B1.out.size; have := HL.out.2; omega
  intro v' w2 hown' hgrow _
  have G := K1.out.grown (bs' := bs ++ Lib.strCells s) hgrow (by simpa [Lib.strCells_length] using hown')
  have HG : Hid (_ ∧ _) := G
  have B3 : Hid (Below B w (w2.setCell ⟨b, 1, none⟩ v')) := (B1.out.grown hgrow (by have := B1.out.size; have := HL.out.2; omega) (fun k hk => (K1.out.own.lt k hk).1)).setCell (p := ⟨b, 1, none⟩) K1.out.hB _
  obtain ⟨ao, n', cap, rfl⟩ : ∃ ao n' cap, v' = .slice ao n' cap := by
    rcases hown'.2 with ⟨hv, _⟩ | ⟨g, cap, cur, hv, _⟩
    · exact ⟨_, _, _, hv⟩
    · exact ⟨_, _, _, hv⟩
  have d1 := HG.out.2.cell 1 rfl
  have f1 := HG.out.2.free 1
  clear G hown' hgrow c1
  go_wp2_with fail
  go_ret2
  exact ⟨rfl, HG.out.1, B3.out⟩
end Go.Proofs.YtdogabmehjbphaaDoor
