/- Texts of this seat, joined. -/
import Derived.Test.YtaefollmeoepkaaGreatDoorQ39
namespace Go.Proofs.YtaefollmeoepkaaGreatDoor
open Go.RowKit
set_option linter.unusedVariables false
theorem word_at {zs : List Int} (h : zs.all isW = true) (j : Nat) : isW (zs.getD j 0) = true := isW_iff.2 (all_at h j)
theorem dr_word {H : Ht} (K : Hok H) (k : Int) : isW (drV H k) = true := by
  unfold drV
  repeat' split
  · have := all_at K.iw 0
    rw [isW_iff]
    cases h : H.inn with
    | nil => simp
    | cons z zs => rw [h] at this; simpa using this
  · rw [isW_iff]; have := K.d0; have := K.d9; omega
  · exact word_at K.cw 9
  · rw [isW_iff]; unfold pendV; repeat' split
    all_goals omega
  · rw [isW_iff]; have := K.i40; omega
  · rfl
theorem load_word {H : Ht} {ps : List (Int × Int)} {zs : List Int} {p : Nat} {x : Int} (s : Sn H ps zs p) (h : plC H ps zs x 1 = 0) : isW (loadW H ps zs x) = true := by
  unfold loadW
  split
  · exact word_at s.zw _
  · exact dr_word s.hok _
theorem store_regs (H : Ht) (ps : List (Int × Int)) (zs : List Int) (x y : Int) : (storeH H ps zs x y).regs = H.regs := by
  unfold storeH dwW outW
  repeat' split
  all_goals rfl
theorem alu_word (op x y : Int) : isW (aluV op x y) = true := by
  rw [isW_iff]
  unfold aluV
  split
  · unfold addV; omega
  split
  · omega
  split
  · unfold mulV; omega
  split
  · unfold divV; split <;> omega
  split
  · unfold remV; split <;> omega
  split
  · rw [bitV_and]
    have := Nat.and_lt_two_pow (x % 4294967296).toNat (toNat_lt y)
    omega
  split
  · rw [bitV_or]
    have := Nat.or_lt_two_pow (toNat_lt x) (toNat_lt y)
    omega
  split
  · rw [bitV_xor]
    have := Nat.xor_lt_two_pow (toNat_lt x) (toNat_lt y)
    omega
  split
  · unfold shlV; omega
  split
  · unfold shrV
    have h0 : 0 ≤ x % 4294967296 := by omega
    have h1 : 0 ≤ x % 4294967296 / 2 ^ (y % 32).toNat := Int.ediv_nonneg h0 (Int.le_of_lt (Int.pow_pos (by decide)))
    have h2 : x % 4294967296 / 2 ^ (y % 32).toNat ≤ x % 4294967296 := Int.ediv_le_self _ h0
    generalize x % 4294967296 / 2 ^ (y % 32).toNat = z at *
    unfold wrap64
    omega
  · split <;> omega
set_option maxRecDepth 20000 in
set_option maxHeartbeats 4000000 in
theorem do_loadsOk {w : World} {base q : Nat} {i o : Value} {pg pc : Nat} {ps : List (Int × Int)} {g p : Nat} {zs : List Int} {X : Nat → Prop} {H : Ht} {ca ri : Int} (R : Rw w base q i o pg pc ps g p zs H ca ri X) (op : Int) (d a : Nat) (im : Int) (hd : d < 16) (ha : a < 16) (hz : plC H ps zs (addV (gt H.regs a) (offV im)) 1 = 0) :
    Calls Tryz.prog 75 #[.pointer (some ⟨q, 0, none⟩), .iface 157 (.agg #[.int .i64 op, .int .i64 (d : Int), .int .i64 (a : Int), .int .i64 im])] w fun e w' => e = .returned (.int .i64 (addV H.pc 1)) ∧ ∃ i', Rw w' base q i' o pg pc ps g p zs (putV (loadH H ps zs (addV (gt H.regs a) (offV im))) d (loadW H ps zs (addV (gt H.regs a) (offV im)))) ca ri X ∧ Below base w w' := by
  have HR : Hid (Rw w base q i o pg pc ps g p zs H ca ri X) := R
  have c16 : w.cell? ⟨q, 16, none⟩ = some (.int .i64 H.pc) := R.v.cell 16 rfl
  have hm := meth_loads (.int .i64 op) (.int .i64 (d : Int)) (.int .i64 (a : Int)) (.int .i64 im)
  have as_reckons : ∀ w, (Instr.typeAssert (.iface 157 (.agg #[.int .i64 op, .int .i64 (d : Int), .int .i64 (a : Int), .int .i64 im])) 121 153 true).run Tryz.prog w = .ok (.tuple #[.agg #[.int .i64 0, .int .i64 0, .int .i64 0, .int .i64 0], .bool false]) w := fun w => by kernel_rfl
  have as_adds : ∀ w, (Instr.typeAssert (.iface 157 (.agg #[.int .i64 op, .int .i64 (d : Int), .int .i64 (a : Int), .int .i64 im])) 121 155 true).run Tryz.prog w = .ok (.tuple #[.agg #[.int .i64 0, .int .i64 0, .int .i64 0, .int .i64 0], .bool false]) w := fun w => by kernel_rfl
  have as_lifts : ∀ w, (Instr.typeAssert (.iface 157 (.agg #[.int .i64 op, .int .i64 (d : Int), .int .i64 (a : Int), .int .i64 im])) 121 156 true).run Tryz.prog w = .ok (.tuple #[.agg #[.int .i64 0, .int .i64 0, .int .i64 0, .int .i64 0], .bool false]) w := fun w => by kernel_rfl
  have as_loads : ∀ w, (Instr.typeAssert (.iface 157 (.agg #[.int .i64 op, .int .i64 (d : Int), .int .i64 (a : Int), .int .i64 im])) 121 157 true).run Tryz.prog w = .ok (.tuple #[.agg #[.int .i64 op, .int .i64 (d : Int), .int .i64 (a : Int), .int .i64 im], .bool true]) w := fun w => by kernel_rfl
  have Rd : Hid (d < 16) := hd
  have Id : Hid ((d : Int) < 16) := by show _ < _; omega
  have Ra : Hid (a < 16) := ha
  have Ia : Hid ((a : Int) < 16) := by show _ < _; omega
  have HZ : Hid (plC H ps zs (addV (gt H.regs a) (offV im)) 1 = 0) := hz
  have PW : Hid (isW (loadW H ps zs (addV (gt H.regs a) (offV im))) = true) := load_word R.sn hz
  clear R
  go_enter Tryz.func75, Tryz.ntmps75
  go_wp2_with (go_at_call 22; refine (impl_add _ _ _).mono ?_; rintro e y ⟨rfl, hy⟩; rw [hy]; clear hy y)
  refine (i_off _ _ _ im w).mono ?_
  rintro e w1 ⟨rfl, b1⟩
  clear hm c16
  go_upto_region 14 with fail
  clear as_reckons as_adds as_lifts as_loads
  generalize hW : w1.alloc (.cells #[.int .i64 op, .int .i64 (d : Int), .int .i64 (a : Int), .int .i64 im] 157) = W1
  obtain ⟨n, hn⟩ : ∃ n, w1.heap.size = n := ⟨_, rfl⟩
  rw [hn]
  have VN : Hid (Vb W1 n #[.int .i64 op, .int .i64 (d : Int), .int .i64 (a : Int), .int .i64 im] 157) := by show Vb _ _ _ _; rw [← hW, ← hn]; exact Vb.new _ _ _
  have bb : Below w.heap.size w W1 := by rw [← hW]; exact al b1 _
  have R1 : Hid (Rw W1 base q i o pg pc ps g p zs H ca ri X) := HR.out.keep bb
  have B1 : Hid (Below base w W1) := bless bb HR.out.size
  have QN : Hid (n ≠ q ∧ n ≠ g ∧ ∀ k, o.ownBlock = some k → n ≠ k) := by
    have hs : w.heap.size ≤ n := by rw [← hn]; exact b1.size
    obtain ⟨bo, _, _, ho, _⟩ := HR.out.ho
    exact ⟨by have := HR.out.v.lt; omega, by have := (World.ownsRow.lt HR.out.pgs g rfl).2; omega, fun k e => by have := (ho.lt k e).2; omega⟩
  clear hW hn b1 bb
  have S0 : Hid (Vb W1.drew n #[.int .i64 op, .int .i64 (d : Int), .int .i64 (a : Int), .int .i64 im] 157) := VN.out
  have R0 : Hid (Rw W1.drew base q i o pg pc ps g p zs H ca ri X) := R1.out.keep (Below.refl _ _).drew
  have B0 : Hid (Below base w W1.drew) := B1.out.drew
  refine wp_region_held (S := fun w' => Vb w' n #[.int .i64 op, .int .i64 (d : Int), .int .i64 (a : Int), .int .i64 im] 157) (by kernel_rfl) ?_
  change wpAnyH _ _ _ _ _ _ _ _ (World.drew _)
  generalize W1.drew = x0 at *
  refine wpTk (i := 0) (v := .pointer (some ⟨q, 0, none⟩)) rfl (Or.inl ⟨by rfl, fun w' hs => by go_simp⟩) S0.out ?_
  change wpAnyH _ _ _ _ _ _ _ (Act.put _ (some 110) _) _
  simp only [Act.put, zT, zZ, zS]
  refine wpTk (i := 1) (v := .pointer (some ⟨n, 0, none⟩)) rfl (Or.inl ⟨by rfl, fun w' hs => by go_simp⟩) S0.out ?_
  change wpAnyH _ _ _ _ _ _ _ (Act.put _ (some 111) _) _
  simp only [Act.put, zT, zZ, zS]
  refine wpTk (i := 2) (v := .pointer (some ⟨n, 0, none⟩)) rfl (Or.inl ⟨by rfl, fun w' hs => by go_simp⟩) S0.out ?_
  change wpAnyH _ _ _ _ _ _ _ (Act.put _ (some 112) _) _
  simp only [Act.put, zT, zZ, zS]
  refine wpTk (i := 3) (v := .pointer (some ⟨n, 1, none⟩)) rfl (Or.inl ⟨by rfl, fun w' hs => by go_simp⟩) S0.out ?_
  change wpAnyH _ _ _ _ _ _ _ (Act.put _ (some 113) _) _
  simp only [Act.put, zT, zZ, zS]
  refine wpTk (i := 4) (v := .int .i64 (d : Int)) rfl (Or.inl ⟨by rfl, fun w' hs => by have hc := (hs.cell 1 rfl : w'.cell? ⟨n, 1, none⟩ = some (.int .i64 (d : Int))); go_simp⟩) S0.out ?_
  change wpAnyH _ _ _ _ _ _ _ (Act.put _ (some 114) _) _
  simp only [Act.put, zT, zZ, zS]
  refine wpTk (i := 5) (v := .pointer (some ⟨q, 0, none⟩)) rfl (Or.inl ⟨by rfl, fun w' hs => by go_simp⟩) S0.out ?_
  change wpAnyH _ _ _ _ _ _ _ (Act.put _ (some 115) _) _
  simp only [Act.put, zT, zZ, zS]
  refine wpTk (i := 6) (v := .pointer (some ⟨q, 0, none⟩)) rfl (Or.inl ⟨by rfl, fun w' hs => by go_simp⟩) S0.out ?_
  change wpAnyH _ _ _ _ _ _ _ (Act.put _ (some 116) _) _
  simp only [Act.put, zT, zZ, zS]
  refine wpTk (i := 7) (v := .pointer (some ⟨n, 0, none⟩)) rfl (Or.inl ⟨by rfl, fun w' hs => by go_simp⟩) S0.out ?_
  change wpAnyH _ _ _ _ _ _ _ (Act.put _ (some 117) _) _
  simp only [Act.put, zT, zZ, zS]
  refine wpTk (i := 8) (v := .pointer (some ⟨n, 0, none⟩)) rfl (Or.inl ⟨by rfl, fun w' hs => by go_simp⟩) S0.out ?_
  change wpAnyH _ _ _ _ _ _ _ (Act.put _ (some 118) _) _
  simp only [Act.put, zT, zZ, zS]
  refine wpTk (i := 9) (v := .pointer (some ⟨n, 2, none⟩)) rfl (Or.inl ⟨by rfl, fun w' hs => by go_simp⟩) S0.out ?_
  change wpAnyH _ _ _ _ _ _ _ (Act.put _ (some 119) _) _
  simp only [Act.put, zT, zZ, zS]
  refine wpTk (i := 10) (v := .int .i64 (a : Int)) rfl (Or.inl ⟨by rfl, fun w' hs => by have hc := (hs.cell 2 rfl : w'.cell? ⟨n, 2, none⟩ = some (.int .i64 (a : Int))); go_simp⟩) S0.out ?_
  change wpAnyH _ _ _ _ _ _ _ (Act.put _ (some 120) _) _
  simp only [Act.put, zT, zZ, zS]
  refine wpTk (i := 11) (v := .pointer (some ⟨q, 0, none⟩)) rfl (Or.inl ⟨by rfl, fun w' hs => by go_simp⟩) S0.out ?_
  change wpAnyH _ _ _ _ _ _ _ (Act.put _ (some 121) _) _
  simp only [Act.put, zT, zZ, zS]
  refine wpTk (i := 12) (v := .pointer (some ⟨q, 0, none⟩)) rfl (Or.inl ⟨by rfl, fun w' hs => by go_simp⟩) S0.out ?_
  change wpAnyH _ _ _ _ _ _ _ (Act.put _ (some 122) _) _
  simp only [Act.put, zT, zZ, zS]
  refine wpTk (i := 13) (v := .pointer (some ⟨q, 0, none⟩)) rfl (Or.inl ⟨by rfl, fun w' hs => by go_simp⟩) S0.out ?_
  change wpAnyH _ _ _ _ _ _ _ (Act.put _ (some 123) _) _
  simp only [Act.put, zT, zZ, zS]
  refine wpTk (i := 14) (v := .pointer (some ⟨q, 0, none⟩)) rfl (Or.inl ⟨by rfl, fun w' hs => by go_simp⟩) S0.out ?_
  change wpAnyH _ _ _ _ _ _ _ (Act.put _ (some 124) _) _
  simp only [Act.put, zT, zZ, zS]
  refine wpTk (i := 15) (v := .pointer (some ⟨q, a, none⟩)) rfl (Or.inl ⟨by rfl, fun w' hs => by have h1 := Ia.out; have h2 := Ra.out; go_simp⟩) S0.out ?_
  change wpAnyH _ _ _ _ _ _ _ (Act.put _ (some 125) _) _
  simp only [Act.put, zT, zZ, zS]
  refine wpTk (i := 17) (v := .int .i64 (offV im)) rfl (Or.inl ⟨by rfl, fun w' hs => by go_simp⟩) S0.out ?_
  change wpAnyH _ _ _ _ _ _ _ (Act.put _ (some 127) _) _
  simp only [Act.put, zT, zZ, zS]
  refine zR 16 rfl fun K hK => ?_
  rw [if_pos (by rfl)]
  have cl : x0.cell? ⟨q, a, none⟩ = some (.int .i64 (gt H.regs a)) := R0.out.v.cell a (mcr_reg_at _ _ _ _ _ _ _ a Ra.out)
  go_simp
  refine hK.out _ _ S0.out (fun _ => ?_)
  clear hK K cl
  refine zR 18 rfl fun K hK => ?_
  rw [if_pos (by rfl)]
  go_simp
  refine (impl_add _ _ _).mono ?_
  rintro e y ⟨rfl, hy⟩
  rw [hy]
  clear hy y
  refine hK.out _ _ S0.out (fun _ => ?_)
  clear hK K
  refine zR 19 rfl fun K hK => ?_
  rw [if_pos (by rfl)]
  go_simp
  refine (r_loadOk R0.out (addV (gt H.regs a) (offV im)) HZ.out).mono ?_
  rintro e x1 ⟨rfl, i2, r2, b2, m2⟩
  have R1 : Hid (Rw x1 base q i2 o pg pc ps g p zs (loadH H ps zs (addV (gt H.regs a) (offV im))) ca ri X) := r2
  have B1 : Hid (Below base w x1) := B0.out.trans b2
  have S1 : Hid (Vb x1 n #[.int .i64 op, .int .i64 (d : Int), .int .i64 (a : Int), .int .i64 im] 157) := m2.vb S0.out fun e => QN.out.1 e
  clear r2 b2 m2
  refine hK.out _ _ S1.out (fun _ => ?_)
  clear hK K
  refine zR 20 rfl fun K hK => ?_
  rw [if_pos (by rfl)]
  go_simp
  refine (r_put R1.out (d : Int) (loadW H ps zs (addV (gt H.regs a) (offV im))) (by omega) (by have := Rd.out; omega) PW.out).mono ?_
  rintro e x2 ⟨rfl, ⟨r2, b2⟩, m2⟩
  have R2 : Hid (Rw x2 base q i2 o pg pc ps g p zs (putV (loadH H ps zs (addV (gt H.regs a) (offV im))) d (loadW H ps zs (addV (gt H.regs a) (offV im)))) ca ri X) := r2
  have B2 : Hid (Below base w x2) := B1.out.trans b2
  have S2 : Hid (Vb x2 n #[.int .i64 op, .int .i64 (d : Int), .int .i64 (a : Int), .int .i64 im] 157) := m2.vb S1.out fun e => QN.out.1 e
  clear r2 b2 m2
  refine hK.out _ _ S2.out (fun _ => ?_)
  clear hK K
  refine wpAnyH_done (by kernel_rfl) ?_ _
  go_wp2_with fail
  go_ret
  exact ⟨rfl, i2, R2.out, B2.out⟩
set_option maxRecDepth 20000 in
set_option maxHeartbeats 4000000 in
theorem do_loadsNo {w : World} {base q : Nat} {i o : Value} {pg pc : Nat} {ps : List (Int × Int)} {g p : Nat} {zs : List Int} {X : Nat → Prop} {H : Ht} {ca ri : Int} (R : Rw w base q i o pg pc ps g p zs H ca ri X) (op : Int) (d a : Nat) (im : Int) (ha : a < 16) (hz : ¬ plC H ps zs (addV (gt H.regs a) (offV im)) 1 = 0) :
    Calls Tryz.prog 75 #[.pointer (some ⟨q, 0, none⟩), .iface 157 (.agg #[.int .i64 op, .int .i64 (d : Int), .int .i64 (a : Int), .int .i64 im])] w fun e w' => e = pan 3 (addV (gt H.regs a) (offV im)) ∧ Rw w' base q i o pg pc ps g p zs H ca ri X ∧ Below base w w' := by
  have HR : Hid (Rw w base q i o pg pc ps g p zs H ca ri X) := R
  have c16 : w.cell? ⟨q, 16, none⟩ = some (.int .i64 H.pc) := R.v.cell 16 rfl
  have hm := meth_loads (.int .i64 op) (.int .i64 (d : Int)) (.int .i64 (a : Int)) (.int .i64 im)
  have as_reckons : ∀ w, (Instr.typeAssert (.iface 157 (.agg #[.int .i64 op, .int .i64 (d : Int), .int .i64 (a : Int), .int .i64 im])) 121 153 true).run Tryz.prog w = .ok (.tuple #[.agg #[.int .i64 0, .int .i64 0, .int .i64 0, .int .i64 0], .bool false]) w := fun w => by kernel_rfl
  have as_adds : ∀ w, (Instr.typeAssert (.iface 157 (.agg #[.int .i64 op, .int .i64 (d : Int), .int .i64 (a : Int), .int .i64 im])) 121 155 true).run Tryz.prog w = .ok (.tuple #[.agg #[.int .i64 0, .int .i64 0, .int .i64 0, .int .i64 0], .bool false]) w := fun w => by kernel_rfl
  have as_lifts : ∀ w, (Instr.typeAssert (.iface 157 (.agg #[.int .i64 op, .int .i64 (d : Int), .int .i64 (a : Int), .int .i64 im])) 121 156 true).run Tryz.prog w = .ok (.tuple #[.agg #[.int .i64 0, .int .i64 0, .int .i64 0, .int .i64 0], .bool false]) w := fun w => by kernel_rfl
  have as_loads : ∀ w, (Instr.typeAssert (.iface 157 (.agg #[.int .i64 op, .int .i64 (d : Int), .int .i64 (a : Int), .int .i64 im])) 121 157 true).run Tryz.prog w = .ok (.tuple #[.agg #[.int .i64 op, .int .i64 (d : Int), .int .i64 (a : Int), .int .i64 im], .bool true]) w := fun w => by kernel_rfl
  have Ra : Hid (a < 16) := ha
  have Ia : Hid ((a : Int) < 16) := by show _ < _; omega
  have HZ : Hid (¬ plC H ps zs (addV (gt H.regs a) (offV im)) 1 = 0) := hz
  clear R
  go_enter Tryz.func75, Tryz.ntmps75
  go_wp2_with (go_at_call 22; refine (impl_add _ _ _).mono ?_; rintro e y ⟨rfl, hy⟩; rw [hy]; clear hy y)
  refine (i_off _ _ _ im w).mono ?_
  rintro e w1 ⟨rfl, b1⟩
  clear hm c16
  go_upto_region 14 with fail
  clear as_reckons as_adds as_lifts as_loads
  generalize hW : w1.alloc (.cells #[.int .i64 op, .int .i64 (d : Int), .int .i64 (a : Int), .int .i64 im] 157) = W1
  obtain ⟨n, hn⟩ : ∃ n, w1.heap.size = n := ⟨_, rfl⟩
  rw [hn]
  have VN : Hid (Vb W1 n #[.int .i64 op, .int .i64 (d : Int), .int .i64 (a : Int), .int .i64 im] 157) := by show Vb _ _ _ _; rw [← hW, ← hn]; exact Vb.new _ _ _
  have bb : Below w.heap.size w W1 := by rw [← hW]; exact al b1 _
  have R1 : Hid (Rw W1 base q i o pg pc ps g p zs H ca ri X) := HR.out.keep bb
  have B1 : Hid (Below base w W1) := bless bb HR.out.size
  have QN : Hid (n ≠ q ∧ n ≠ g ∧ ∀ k, o.ownBlock = some k → n ≠ k) := by
    have hs : w.heap.size ≤ n := by rw [← hn]; exact b1.size
    obtain ⟨bo, _, _, ho, _⟩ := HR.out.ho
    exact ⟨by have := HR.out.v.lt; omega, by have := (World.ownsRow.lt HR.out.pgs g rfl).2; omega, fun k e => by have := (ho.lt k e).2; omega⟩
  clear hW hn b1 bb
  have S0 : Hid (Vb W1.drew n #[.int .i64 op, .int .i64 (d : Int), .int .i64 (a : Int), .int .i64 im] 157) := VN.out
  have R0 : Hid (Rw W1.drew base q i o pg pc ps g p zs H ca ri X) := R1.out.keep (Below.refl _ _).drew
  have B0 : Hid (Below base w W1.drew) := B1.out.drew
  refine wp_region_held (S := fun w' => Vb w' n #[.int .i64 op, .int .i64 (d : Int), .int .i64 (a : Int), .int .i64 im] 157) (by kernel_rfl) ?_
  change wpAnyH _ _ _ _ _ _ _ _ (World.drew _)
  generalize W1.drew = x0 at *
  refine wpTk (i := 0) (v := .pointer (some ⟨q, 0, none⟩)) rfl (Or.inl ⟨by rfl, fun w' hs => by go_simp⟩) S0.out ?_
  change wpAnyH _ _ _ _ _ _ _ (Act.put _ (some 110) _) _
  simp only [Act.put, zT, zZ, zS]
  refine wpTk (i := 1) (v := .pointer (some ⟨n, 0, none⟩)) rfl (Or.inl ⟨by rfl, fun w' hs => by go_simp⟩) S0.out ?_
  change wpAnyH _ _ _ _ _ _ _ (Act.put _ (some 111) _) _
  simp only [Act.put, zT, zZ, zS]
  refine wpTk (i := 2) (v := .pointer (some ⟨n, 0, none⟩)) rfl (Or.inl ⟨by rfl, fun w' hs => by go_simp⟩) S0.out ?_
  change wpAnyH _ _ _ _ _ _ _ (Act.put _ (some 112) _) _
  simp only [Act.put, zT, zZ, zS]
  refine wpTk (i := 3) (v := .pointer (some ⟨n, 1, none⟩)) rfl (Or.inl ⟨by rfl, fun w' hs => by go_simp⟩) S0.out ?_
  change wpAnyH _ _ _ _ _ _ _ (Act.put _ (some 113) _) _
  simp only [Act.put, zT, zZ, zS]
  refine wpTk (i := 4) (v := .int .i64 (d : Int)) rfl (Or.inl ⟨by rfl, fun w' hs => by have hc := (hs.cell 1 rfl : w'.cell? ⟨n, 1, none⟩ = some (.int .i64 (d : Int))); go_simp⟩) S0.out ?_
  change wpAnyH _ _ _ _ _ _ _ (Act.put _ (some 114) _) _
  simp only [Act.put, zT, zZ, zS]
  refine wpTk (i := 5) (v := .pointer (some ⟨q, 0, none⟩)) rfl (Or.inl ⟨by rfl, fun w' hs => by go_simp⟩) S0.out ?_
  change wpAnyH _ _ _ _ _ _ _ (Act.put _ (some 115) _) _
  simp only [Act.put, zT, zZ, zS]
  refine wpTk (i := 6) (v := .pointer (some ⟨q, 0, none⟩)) rfl (Or.inl ⟨by rfl, fun w' hs => by go_simp⟩) S0.out ?_
  change wpAnyH _ _ _ _ _ _ _ (Act.put _ (some 116) _) _
  simp only [Act.put, zT, zZ, zS]
  refine wpTk (i := 7) (v := .pointer (some ⟨n, 0, none⟩)) rfl (Or.inl ⟨by rfl, fun w' hs => by go_simp⟩) S0.out ?_
  change wpAnyH _ _ _ _ _ _ _ (Act.put _ (some 117) _) _
  simp only [Act.put, zT, zZ, zS]
  refine wpTk (i := 8) (v := .pointer (some ⟨n, 0, none⟩)) rfl (Or.inl ⟨by rfl, fun w' hs => by go_simp⟩) S0.out ?_
  change wpAnyH _ _ _ _ _ _ _ (Act.put _ (some 118) _) _
  simp only [Act.put, zT, zZ, zS]
  refine wpTk (i := 9) (v := .pointer (some ⟨n, 2, none⟩)) rfl (Or.inl ⟨by rfl, fun w' hs => by go_simp⟩) S0.out ?_
  change wpAnyH _ _ _ _ _ _ _ (Act.put _ (some 119) _) _
  simp only [Act.put, zT, zZ, zS]
  refine wpTk (i := 10) (v := .int .i64 (a : Int)) rfl (Or.inl ⟨by rfl, fun w' hs => by have hc := (hs.cell 2 rfl : w'.cell? ⟨n, 2, none⟩ = some (.int .i64 (a : Int))); go_simp⟩) S0.out ?_
  change wpAnyH _ _ _ _ _ _ _ (Act.put _ (some 120) _) _
  simp only [Act.put, zT, zZ, zS]
  refine wpTk (i := 11) (v := .pointer (some ⟨q, 0, none⟩)) rfl (Or.inl ⟨by rfl, fun w' hs => by go_simp⟩) S0.out ?_
  change wpAnyH _ _ _ _ _ _ _ (Act.put _ (some 121) _) _
  simp only [Act.put, zT, zZ, zS]
  refine wpTk (i := 12) (v := .pointer (some ⟨q, 0, none⟩)) rfl (Or.inl ⟨by rfl, fun w' hs => by go_simp⟩) S0.out ?_
  change wpAnyH _ _ _ _ _ _ _ (Act.put _ (some 122) _) _
  simp only [Act.put, zT, zZ, zS]
  refine wpTk (i := 13) (v := .pointer (some ⟨q, 0, none⟩)) rfl (Or.inl ⟨by rfl, fun w' hs => by go_simp⟩) S0.out ?_
  change wpAnyH _ _ _ _ _ _ _ (Act.put _ (some 123) _) _
  simp only [Act.put, zT, zZ, zS]
  refine wpTk (i := 14) (v := .pointer (some ⟨q, 0, none⟩)) rfl (Or.inl ⟨by rfl, fun w' hs => by go_simp⟩) S0.out ?_
  change wpAnyH _ _ _ _ _ _ _ (Act.put _ (some 124) _) _
  simp only [Act.put, zT, zZ, zS]
  refine wpTk (i := 15) (v := .pointer (some ⟨q, a, none⟩)) rfl (Or.inl ⟨by rfl, fun w' hs => by have h1 := Ia.out; have h2 := Ra.out; go_simp⟩) S0.out ?_
  change wpAnyH _ _ _ _ _ _ _ (Act.put _ (some 125) _) _
  simp only [Act.put, zT, zZ, zS]
  refine wpTk (i := 17) (v := .int .i64 (offV im)) rfl (Or.inl ⟨by rfl, fun w' hs => by go_simp⟩) S0.out ?_
  change wpAnyH _ _ _ _ _ _ _ (Act.put _ (some 127) _) _
  simp only [Act.put, zT, zZ, zS]
  refine zR 16 rfl fun K hK => ?_
  rw [if_pos (by rfl)]
  have cl : x0.cell? ⟨q, a, none⟩ = some (.int .i64 (gt H.regs a)) := R0.out.v.cell a (mcr_reg_at _ _ _ _ _ _ _ a Ra.out)
  go_simp
  refine hK.out _ _ S0.out (fun _ => ?_)
  clear hK K cl
  refine zR 18 rfl fun K hK => ?_
  rw [if_pos (by rfl)]
  go_simp
  refine (impl_add _ _ _).mono ?_
  rintro e y ⟨rfl, hy⟩
  rw [hy]
  clear hy y
  refine hK.out _ _ S0.out (fun _ => ?_)
  clear hK K
  refine zR 19 rfl fun K hK => ?_
  rw [if_pos (by rfl)]
  go_simp
  refine (r_loadNo R0.out (addV (gt H.regs a) (offV im)) HZ.out).mono ?_
  rintro e x1 ⟨he, b2⟩
  unfold pan at he
  subst he
  clear hK
  go_wp2_with fail
  exact ⟨rfl, rfl, R0.out.keep b2, B0.out.trans (bless b2 R0.out.size)⟩
set_option maxRecDepth 20000 in
set_option maxHeartbeats 4000000 in
theorem do_storesOk {w : World} {base q : Nat} {i o : Value} {pg pc : Nat} {ps : List (Int × Int)} {g p : Nat} {zs : List Int} {X : Nat → Prop} {H : Ht} {ca ri : Int} (R : Rw w base q i o pg pc ps g p zs H ca ri X) (op : Int) (d a : Nat) (im : Int) (hd : d < 16) (ha : a < 16) (hz : plC H ps zs (addV (gt H.regs a) (offV im)) 2 = 0) :
    Calls Tryz.prog 75 #[.pointer (some ⟨q, 0, none⟩), .iface 158 (.agg #[.int .i64 op, .int .i64 (d : Int), .int .i64 (a : Int), .int .i64 im])] w fun e w' => e = .returned (.int .i64 (addV H.pc 1)) ∧ ∃ o', Rw w' base q i o' pg pc ps g p (storeZ H ps zs (addV (gt H.regs a) (offV im)) (gt H.regs d)) (storeH H ps zs (addV (gt H.regs a) (offV im)) (gt H.regs d)) ca (storeR H ps zs (addV (gt H.regs a) (offV im)) (gt H.regs d) ri) X ∧ Below base w w' := by
  have HR : Hid (Rw w base q i o pg pc ps g p zs H ca ri X) := R
  have c16 : w.cell? ⟨q, 16, none⟩ = some (.int .i64 H.pc) := R.v.cell 16 rfl
  have hm := meth_stores (.int .i64 op) (.int .i64 (d : Int)) (.int .i64 (a : Int)) (.int .i64 im)
  have as_reckons : ∀ w, (Instr.typeAssert (.iface 158 (.agg #[.int .i64 op, .int .i64 (d : Int), .int .i64 (a : Int), .int .i64 im])) 121 153 true).run Tryz.prog w = .ok (.tuple #[.agg #[.int .i64 0, .int .i64 0, .int .i64 0, .int .i64 0], .bool false]) w := fun w => by kernel_rfl
  have as_adds : ∀ w, (Instr.typeAssert (.iface 158 (.agg #[.int .i64 op, .int .i64 (d : Int), .int .i64 (a : Int), .int .i64 im])) 121 155 true).run Tryz.prog w = .ok (.tuple #[.agg #[.int .i64 0, .int .i64 0, .int .i64 0, .int .i64 0], .bool false]) w := fun w => by kernel_rfl
  have as_lifts : ∀ w, (Instr.typeAssert (.iface 158 (.agg #[.int .i64 op, .int .i64 (d : Int), .int .i64 (a : Int), .int .i64 im])) 121 156 true).run Tryz.prog w = .ok (.tuple #[.agg #[.int .i64 0, .int .i64 0, .int .i64 0, .int .i64 0], .bool false]) w := fun w => by kernel_rfl
  have as_loads : ∀ w, (Instr.typeAssert (.iface 158 (.agg #[.int .i64 op, .int .i64 (d : Int), .int .i64 (a : Int), .int .i64 im])) 121 157 true).run Tryz.prog w = .ok (.tuple #[.agg #[.int .i64 0, .int .i64 0, .int .i64 0, .int .i64 0], .bool false]) w := fun w => by kernel_rfl
  have as_stores : ∀ w, (Instr.typeAssert (.iface 158 (.agg #[.int .i64 op, .int .i64 (d : Int), .int .i64 (a : Int), .int .i64 im])) 121 158 true).run Tryz.prog w = .ok (.tuple #[.agg #[.int .i64 op, .int .i64 (d : Int), .int .i64 (a : Int), .int .i64 im], .bool true]) w := fun w => by kernel_rfl
  have Rd : Hid (d < 16) := hd
  have Id : Hid ((d : Int) < 16) := by show _ < _; omega
  have Ra : Hid (a < 16) := ha
  have Ia : Hid ((a : Int) < 16) := by show _ < _; omega
  have HZ : Hid (plC H ps zs (addV (gt H.regs a) (offV im)) 2 = 0) := hz
  clear R
  go_enter Tryz.func75, Tryz.ntmps75
  go_wp2_with (go_at_call 22; refine (impl_add _ _ _).mono ?_; rintro e y ⟨rfl, hy⟩; rw [hy]; clear hy y)
  refine (i_off _ _ _ im w).mono ?_
  rintro e w1 ⟨rfl, b1⟩
  clear hm c16
  go_upto_region 17 with fail
  clear as_reckons as_adds as_lifts as_loads as_stores
  generalize hW : w1.alloc (.cells #[.int .i64 op, .int .i64 (d : Int), .int .i64 (a : Int), .int .i64 im] 158) = W1
  obtain ⟨n, hn⟩ : ∃ n, w1.heap.size = n := ⟨_, rfl⟩
  rw [hn]
  have VN : Hid (Vb W1 n #[.int .i64 op, .int .i64 (d : Int), .int .i64 (a : Int), .int .i64 im] 158) := by show Vb _ _ _ _; rw [← hW, ← hn]; exact Vb.new _ _ _
  have bb : Below w.heap.size w W1 := by rw [← hW]; exact al b1 _
  have R1 : Hid (Rw W1 base q i o pg pc ps g p zs H ca ri X) := HR.out.keep bb
  have B1 : Hid (Below base w W1) := bless bb HR.out.size
  have QN : Hid (n ≠ q ∧ n ≠ g ∧ ∀ k, o.ownBlock = some k → n ≠ k) := by
    have hs : w.heap.size ≤ n := by rw [← hn]; exact b1.size
    obtain ⟨bo, _, _, ho, _⟩ := HR.out.ho
    exact ⟨by have := HR.out.v.lt; omega, by have := (World.ownsRow.lt HR.out.pgs g rfl).2; omega, fun k e => by have := (ho.lt k e).2; omega⟩
  clear hW hn b1 bb
  have S0 : Hid (Vb W1.drew n #[.int .i64 op, .int .i64 (d : Int), .int .i64 (a : Int), .int .i64 im] 158 ∧ W1.drew.cell? ⟨q, a, none⟩ = some (.int .i64 (gt H.regs a)) ∧ W1.drew.cell? ⟨q, d, none⟩ = some (.int .i64 (gt H.regs d))) := ⟨VN.out, (R1.out.v.cell a (mcr_reg_at _ _ _ _ _ _ _ a Ra.out) : W1.cell? ⟨q, a, none⟩ = _), (R1.out.v.cell d (mcr_reg_at _ _ _ _ _ _ _ d Rd.out) : W1.cell? ⟨q, d, none⟩ = _)⟩
  have R0 : Hid (Rw W1.drew base q i o pg pc ps g p zs H ca ri X) := R1.out.keep (Below.refl _ _).drew
  have B0 : Hid (Below base w W1.drew) := B1.out.drew
  refine wp_region_held (S := fun w' => Vb w' n #[.int .i64 op, .int .i64 (d : Int), .int .i64 (a : Int), .int .i64 im] 158 ∧ w'.cell? ⟨q, a, none⟩ = some (.int .i64 (gt H.regs a)) ∧ w'.cell? ⟨q, d, none⟩ = some (.int .i64 (gt H.regs d))) (by kernel_rfl) ?_
  change wpAnyH _ _ _ _ _ _ _ _ (World.drew _)
  generalize W1.drew = x0 at *
  refine wpTk (i := 0) (v := .pointer (some ⟨q, 0, none⟩)) rfl (Or.inl ⟨by rfl, fun w' hs => by go_simp⟩) S0.out ?_
  change wpAnyH _ _ _ _ _ _ _ (Act.put _ (some 134) _) _
  simp only [Act.put, zT, zZ, zS]
  refine wpTk (i := 1) (v := .pointer (some ⟨q, 0, none⟩)) rfl (Or.inl ⟨by rfl, fun w' hs => by go_simp⟩) S0.out ?_
  change wpAnyH _ _ _ _ _ _ _ (Act.put _ (some 135) _) _
  simp only [Act.put, zT, zZ, zS]
  refine wpTk (i := 2) (v := .pointer (some ⟨n, 0, none⟩)) rfl (Or.inl ⟨by rfl, fun w' hs => by go_simp⟩) S0.out ?_
  change wpAnyH _ _ _ _ _ _ _ (Act.put _ (some 136) _) _
  simp only [Act.put, zT, zZ, zS]
  refine wpTk (i := 3) (v := .pointer (some ⟨n, 0, none⟩)) rfl (Or.inl ⟨by rfl, fun w' hs => by go_simp⟩) S0.out ?_
  change wpAnyH _ _ _ _ _ _ _ (Act.put _ (some 137) _) _
  simp only [Act.put, zT, zZ, zS]
  refine wpTk (i := 4) (v := .pointer (some ⟨n, 2, none⟩)) rfl (Or.inl ⟨by rfl, fun w' hs => by go_simp⟩) S0.out ?_
  change wpAnyH _ _ _ _ _ _ _ (Act.put _ (some 138) _) _
  simp only [Act.put, zT, zZ, zS]
  refine wpTk (i := 5) (v := .int .i64 (a : Int)) rfl (Or.inl ⟨by rfl, fun w' hs => by have hc := (hs.1.cell 2 rfl : w'.cell? ⟨n, 2, none⟩ = some (.int .i64 (a : Int))); go_simp⟩) S0.out ?_
  change wpAnyH _ _ _ _ _ _ _ (Act.put _ (some 139) _) _
  simp only [Act.put, zT, zZ, zS]
  refine wpTk (i := 6) (v := .pointer (some ⟨q, 0, none⟩)) rfl (Or.inl ⟨by rfl, fun w' hs => by go_simp⟩) S0.out ?_
  change wpAnyH _ _ _ _ _ _ _ (Act.put _ (some 140) _) _
  simp only [Act.put, zT, zZ, zS]
  refine wpTk (i := 7) (v := .pointer (some ⟨q, 0, none⟩)) rfl (Or.inl ⟨by rfl, fun w' hs => by go_simp⟩) S0.out ?_
  change wpAnyH _ _ _ _ _ _ _ (Act.put _ (some 141) _) _
  simp only [Act.put, zT, zZ, zS]
  refine wpTk (i := 8) (v := .pointer (some ⟨q, 0, none⟩)) rfl (Or.inl ⟨by rfl, fun w' hs => by go_simp⟩) S0.out ?_
  change wpAnyH _ _ _ _ _ _ _ (Act.put _ (some 142) _) _
  simp only [Act.put, zT, zZ, zS]
  refine wpTk (i := 9) (v := .pointer (some ⟨q, 0, none⟩)) rfl (Or.inl ⟨by rfl, fun w' hs => by go_simp⟩) S0.out ?_
  change wpAnyH _ _ _ _ _ _ _ (Act.put _ (some 143) _) _
  simp only [Act.put, zT, zZ, zS]
  refine wpTk (i := 10) (v := .pointer (some ⟨q, a, none⟩)) rfl (Or.inl ⟨by rfl, fun w' hs => by have h1 := Ia.out; have h2 := Ra.out; go_simp⟩) S0.out ?_
  change wpAnyH _ _ _ _ _ _ _ (Act.put _ (some 144) _) _
  simp only [Act.put, zT, zZ, zS]
  refine wpTk (i := 11) (v := .int .i64 (gt H.regs a)) rfl (Or.inl ⟨by rfl, fun w' hs => by have hc := hs.2.1; go_simp⟩) S0.out ?_
  change wpAnyH _ _ _ _ _ _ _ (Act.put _ (some 145) _) _
  simp only [Act.put, zT, zZ, zS]
  refine wpTk (i := 12) (v := .int .i64 (offV im)) rfl (Or.inl ⟨by rfl, fun w' hs => by go_simp⟩) S0.out ?_
  change wpAnyH _ _ _ _ _ _ _ (Act.put _ (some 146) _) _
  simp only [Act.put, zT, zZ, zS]
  refine wpTk (i := 14) (v := .pointer (some ⟨q, 0, none⟩)) rfl (Or.inl ⟨by rfl, fun w' hs => by go_simp⟩) S0.out ?_
  change wpAnyH _ _ _ _ _ _ _ (Act.put _ (some 148) _) _
  simp only [Act.put, zT, zZ, zS]
  refine wpTk (i := 15) (v := .pointer (some ⟨n, 0, none⟩)) rfl (Or.inl ⟨by rfl, fun w' hs => by go_simp⟩) S0.out ?_
  change wpAnyH _ _ _ _ _ _ _ (Act.put _ (some 149) _) _
  simp only [Act.put, zT, zZ, zS]
  refine wpTk (i := 16) (v := .pointer (some ⟨n, 0, none⟩)) rfl (Or.inl ⟨by rfl, fun w' hs => by go_simp⟩) S0.out ?_
  change wpAnyH _ _ _ _ _ _ _ (Act.put _ (some 150) _) _
  simp only [Act.put, zT, zZ, zS]
  refine wpTk (i := 17) (v := .pointer (some ⟨n, 1, none⟩)) rfl (Or.inl ⟨by rfl, fun w' hs => by go_simp⟩) S0.out ?_
  change wpAnyH _ _ _ _ _ _ _ (Act.put _ (some 151) _) _
  simp only [Act.put, zT, zZ, zS]
  refine wpTk (i := 18) (v := .int .i64 (d : Int)) rfl (Or.inl ⟨by rfl, fun w' hs => by have hc := (hs.1.cell 1 rfl : w'.cell? ⟨n, 1, none⟩ = some (.int .i64 (d : Int))); go_simp⟩) S0.out ?_
  change wpAnyH _ _ _ _ _ _ _ (Act.put _ (some 152) _) _
  simp only [Act.put, zT, zZ, zS]
  refine wpTk (i := 19) (v := .pointer (some ⟨q, 0, none⟩)) rfl (Or.inl ⟨by rfl, fun w' hs => by go_simp⟩) S0.out ?_
  change wpAnyH _ _ _ _ _ _ _ (Act.put _ (some 153) _) _
  simp only [Act.put, zT, zZ, zS]
  refine wpTk (i := 20) (v := .pointer (some ⟨q, 0, none⟩)) rfl (Or.inl ⟨by rfl, fun w' hs => by go_simp⟩) S0.out ?_
  change wpAnyH _ _ _ _ _ _ _ (Act.put _ (some 154) _) _
  simp only [Act.put, zT, zZ, zS]
  refine wpTk (i := 21) (v := .pointer (some ⟨q, 0, none⟩)) rfl (Or.inl ⟨by rfl, fun w' hs => by go_simp⟩) S0.out ?_
  change wpAnyH _ _ _ _ _ _ _ (Act.put _ (some 155) _) _
  simp only [Act.put, zT, zZ, zS]
  refine wpTk (i := 22) (v := .pointer (some ⟨q, 0, none⟩)) rfl (Or.inl ⟨by rfl, fun w' hs => by go_simp⟩) S0.out ?_
  change wpAnyH _ _ _ _ _ _ _ (Act.put _ (some 156) _) _
  simp only [Act.put, zT, zZ, zS]
  refine wpTk (i := 23) (v := .pointer (some ⟨q, d, none⟩)) rfl (Or.inl ⟨by rfl, fun w' hs => by have h1 := Id.out; have h2 := Rd.out; go_simp⟩) S0.out ?_
  change wpAnyH _ _ _ _ _ _ _ (Act.put _ (some 157) _) _
  simp only [Act.put, zT, zZ, zS]
  refine wpTk (i := 24) (v := .int .i64 (gt H.regs d)) rfl (Or.inl ⟨by rfl, fun w' hs => by have hc := hs.2.2; go_simp⟩) S0.out ?_
  change wpAnyH _ _ _ _ _ _ _ (Act.put _ (some 158) _) _
  simp only [Act.put, zT, zZ, zS]
  refine zR 13 rfl fun K hK => ?_
  rw [if_pos (by rfl)]
  go_simp
  refine (impl_add _ _ _).mono ?_
  rintro e y ⟨rfl, hy⟩
  rw [hy]
  clear hy y
  refine hK.out _ _ S0.out (fun _ => ?_)
  clear hK K
  refine zR 25 rfl fun K hK => ?_
  rw [if_pos (by rfl)]
  go_simp
  refine (r_storeOk R0.out (addV (gt H.regs a) (offV im)) (gt H.regs d) (gt_isW HR.out.sn.hok.rw d) HZ.out).mono ?_
  rintro e x1 ⟨rfl, o2, r2, b2, m2⟩
  have R1 : Hid (Rw x1 base q i o2 pg pc ps g p (storeZ H ps zs (addV (gt H.regs a) (offV im)) (gt H.regs d)) (storeH H ps zs (addV (gt H.regs a) (offV im)) (gt H.regs d)) ca (storeR H ps zs (addV (gt H.regs a) (offV im)) (gt H.regs d) ri) X) := r2
  have B1 : Hid (Below base w x1) := B0.out.trans b2
  have EG : Hid ((storeH H ps zs (addV (gt H.regs a) (offV im)) (gt H.regs d)).regs = H.regs) := store_regs _ _ _ _ _
  have S1 : Hid (Vb x1 n #[.int .i64 op, .int .i64 (d : Int), .int .i64 (a : Int), .int .i64 im] 158 ∧ x1.cell? ⟨q, a, none⟩ = some (.int .i64 (gt H.regs a)) ∧ x1.cell? ⟨q, d, none⟩ = some (.int .i64 (gt H.regs d))) := ⟨m2.vb S0.out.1 fun e => by rcases e with e | e | e; exact QN.out.1 e; exact QN.out.2.1 e; exact QN.out.2.2 n e rfl, by rw [← EG.out]; exact R1.out.v.cell a (mcr_reg_at _ _ _ _ _ _ _ a Ra.out), by rw [← EG.out]; exact R1.out.v.cell d (mcr_reg_at _ _ _ _ _ _ _ d Rd.out)⟩
  clear r2 b2 m2
  refine hK.out _ _ S1.out (fun _ => ?_)
  clear hK K
  refine wpAnyH_done (by kernel_rfl) ?_ _
  go_wp2_with fail
  go_ret
  exact ⟨rfl, o2, R1.out, B1.out⟩
set_option maxRecDepth 20000 in
set_option maxHeartbeats 4000000 in
theorem do_storesNo {w : World} {base q : Nat} {i o : Value} {pg pc : Nat} {ps : List (Int × Int)} {g p : Nat} {zs : List Int} {X : Nat → Prop} {H : Ht} {ca ri : Int} (R : Rw w base q i o pg pc ps g p zs H ca ri X) (op : Int) (d a : Nat) (im : Int) (hd : d < 16) (ha : a < 16) (hz : ¬ plC H ps zs (addV (gt H.regs a) (offV im)) 2 = 0) :
    Calls Tryz.prog 75 #[.pointer (some ⟨q, 0, none⟩), .iface 158 (.agg #[.int .i64 op, .int .i64 (d : Int), .int .i64 (a : Int), .int .i64 im])] w fun e w' => e = pan 4 (addV (gt H.regs a) (offV im)) ∧ Rw w' base q i o pg pc ps g p zs H ca ri X ∧ Below base w w' := by
  have HR : Hid (Rw w base q i o pg pc ps g p zs H ca ri X) := R
  have c16 : w.cell? ⟨q, 16, none⟩ = some (.int .i64 H.pc) := R.v.cell 16 rfl
  have hm := meth_stores (.int .i64 op) (.int .i64 (d : Int)) (.int .i64 (a : Int)) (.int .i64 im)
  have as_reckons : ∀ w, (Instr.typeAssert (.iface 158 (.agg #[.int .i64 op, .int .i64 (d : Int), .int .i64 (a : Int), .int .i64 im])) 121 153 true).run Tryz.prog w = .ok (.tuple #[.agg #[.int .i64 0, .int .i64 0, .int .i64 0, .int .i64 0], .bool false]) w := fun w => by kernel_rfl
  have as_adds : ∀ w, (Instr.typeAssert (.iface 158 (.agg #[.int .i64 op, .int .i64 (d : Int), .int .i64 (a : Int), .int .i64 im])) 121 155 true).run Tryz.prog w = .ok (.tuple #[.agg #[.int .i64 0, .int .i64 0, .int .i64 0, .int .i64 0], .bool false]) w := fun w => by kernel_rfl
  have as_lifts : ∀ w, (Instr.typeAssert (.iface 158 (.agg #[.int .i64 op, .int .i64 (d : Int), .int .i64 (a : Int), .int .i64 im])) 121 156 true).run Tryz.prog w = .ok (.tuple #[.agg #[.int .i64 0, .int .i64 0, .int .i64 0, .int .i64 0], .bool false]) w := fun w => by kernel_rfl
  have as_loads : ∀ w, (Instr.typeAssert (.iface 158 (.agg #[.int .i64 op, .int .i64 (d : Int), .int .i64 (a : Int), .int .i64 im])) 121 157 true).run Tryz.prog w = .ok (.tuple #[.agg #[.int .i64 0, .int .i64 0, .int .i64 0, .int .i64 0], .bool false]) w := fun w => by kernel_rfl
  have as_stores : ∀ w, (Instr.typeAssert (.iface 158 (.agg #[.int .i64 op, .int .i64 (d : Int), .int .i64 (a : Int), .int .i64 im])) 121 158 true).run Tryz.prog w = .ok (.tuple #[.agg #[.int .i64 op, .int .i64 (d : Int), .int .i64 (a : Int), .int .i64 im], .bool true]) w := fun w => by kernel_rfl
  have Rd : Hid (d < 16) := hd
  have Id : Hid ((d : Int) < 16) := by show _ < _; omega
  have Ra : Hid (a < 16) := ha
  have Ia : Hid ((a : Int) < 16) := by show _ < _; omega
  have HZ : Hid (¬ plC H ps zs (addV (gt H.regs a) (offV im)) 2 = 0) := hz
  clear R
  go_enter Tryz.func75, Tryz.ntmps75
  go_wp2_with (go_at_call 22; refine (impl_add _ _ _).mono ?_; rintro e y ⟨rfl, hy⟩; rw [hy]; clear hy y)
  refine (i_off _ _ _ im w).mono ?_
  rintro e w1 ⟨rfl, b1⟩
  clear hm c16
  go_upto_region 17 with fail
  clear as_reckons as_adds as_lifts as_loads as_stores
  generalize hW : w1.alloc (.cells #[.int .i64 op, .int .i64 (d : Int), .int .i64 (a : Int), .int .i64 im] 158) = W1
  obtain ⟨n, hn⟩ : ∃ n, w1.heap.size = n := ⟨_, rfl⟩
  rw [hn]
  have VN : Hid (Vb W1 n #[.int .i64 op, .int .i64 (d : Int), .int .i64 (a : Int), .int .i64 im] 158) := by show Vb _ _ _ _; rw [← hW, ← hn]; exact Vb.new _ _ _
  have bb : Below w.heap.size w W1 := by rw [← hW]; exact al b1 _
  have R1 : Hid (Rw W1 base q i o pg pc ps g p zs H ca ri X) := HR.out.keep bb
  have B1 : Hid (Below base w W1) := bless bb HR.out.size
  have QN : Hid (n ≠ q ∧ n ≠ g ∧ ∀ k, o.ownBlock = some k → n ≠ k) := by
    have hs : w.heap.size ≤ n := by rw [← hn]; exact b1.size
    obtain ⟨bo, _, _, ho, _⟩ := HR.out.ho
    exact ⟨by have := HR.out.v.lt; omega, by have := (World.ownsRow.lt HR.out.pgs g rfl).2; omega, fun k e => by have := (ho.lt k e).2; omega⟩
  clear hW hn b1 bb
  have S0 : Hid (Vb W1.drew n #[.int .i64 op, .int .i64 (d : Int), .int .i64 (a : Int), .int .i64 im] 158 ∧ W1.drew.cell? ⟨q, a, none⟩ = some (.int .i64 (gt H.regs a)) ∧ W1.drew.cell? ⟨q, d, none⟩ = some (.int .i64 (gt H.regs d))) := ⟨VN.out, (R1.out.v.cell a (mcr_reg_at _ _ _ _ _ _ _ a Ra.out) : W1.cell? ⟨q, a, none⟩ = _), (R1.out.v.cell d (mcr_reg_at _ _ _ _ _ _ _ d Rd.out) : W1.cell? ⟨q, d, none⟩ = _)⟩
  have R0 : Hid (Rw W1.drew base q i o pg pc ps g p zs H ca ri X) := R1.out.keep (Below.refl _ _).drew
  have B0 : Hid (Below base w W1.drew) := B1.out.drew
  refine wp_region_held (S := fun w' => Vb w' n #[.int .i64 op, .int .i64 (d : Int), .int .i64 (a : Int), .int .i64 im] 158 ∧ w'.cell? ⟨q, a, none⟩ = some (.int .i64 (gt H.regs a)) ∧ w'.cell? ⟨q, d, none⟩ = some (.int .i64 (gt H.regs d))) (by kernel_rfl) ?_
  change wpAnyH _ _ _ _ _ _ _ _ (World.drew _)
  generalize W1.drew = x0 at *
  refine wpTk (i := 0) (v := .pointer (some ⟨q, 0, none⟩)) rfl (Or.inl ⟨by rfl, fun w' hs => by go_simp⟩) S0.out ?_
  change wpAnyH _ _ _ _ _ _ _ (Act.put _ (some 134) _) _
  simp only [Act.put, zT, zZ, zS]
  refine wpTk (i := 1) (v := .pointer (some ⟨q, 0, none⟩)) rfl (Or.inl ⟨by rfl, fun w' hs => by go_simp⟩) S0.out ?_
  change wpAnyH _ _ _ _ _ _ _ (Act.put _ (some 135) _) _
  simp only [Act.put, zT, zZ, zS]
  refine wpTk (i := 2) (v := .pointer (some ⟨n, 0, none⟩)) rfl (Or.inl ⟨by rfl, fun w' hs => by go_simp⟩) S0.out ?_
  change wpAnyH _ _ _ _ _ _ _ (Act.put _ (some 136) _) _
  simp only [Act.put, zT, zZ, zS]
  refine wpTk (i := 3) (v := .pointer (some ⟨n, 0, none⟩)) rfl (Or.inl ⟨by rfl, fun w' hs => by go_simp⟩) S0.out ?_
  change wpAnyH _ _ _ _ _ _ _ (Act.put _ (some 137) _) _
  simp only [Act.put, zT, zZ, zS]
  refine wpTk (i := 4) (v := .pointer (some ⟨n, 2, none⟩)) rfl (Or.inl ⟨by rfl, fun w' hs => by go_simp⟩) S0.out ?_
  change wpAnyH _ _ _ _ _ _ _ (Act.put _ (some 138) _) _
  simp only [Act.put, zT, zZ, zS]
  refine wpTk (i := 5) (v := .int .i64 (a : Int)) rfl (Or.inl ⟨by rfl, fun w' hs => by have hc := (hs.1.cell 2 rfl : w'.cell? ⟨n, 2, none⟩ = some (.int .i64 (a : Int))); go_simp⟩) S0.out ?_
  change wpAnyH _ _ _ _ _ _ _ (Act.put _ (some 139) _) _
  simp only [Act.put, zT, zZ, zS]
  refine wpTk (i := 6) (v := .pointer (some ⟨q, 0, none⟩)) rfl (Or.inl ⟨by rfl, fun w' hs => by go_simp⟩) S0.out ?_
  change wpAnyH _ _ _ _ _ _ _ (Act.put _ (some 140) _) _
  simp only [Act.put, zT, zZ, zS]
  refine wpTk (i := 7) (v := .pointer (some ⟨q, 0, none⟩)) rfl (Or.inl ⟨by rfl, fun w' hs => by go_simp⟩) S0.out ?_
  change wpAnyH _ _ _ _ _ _ _ (Act.put _ (some 141) _) _
  simp only [Act.put, zT, zZ, zS]
  refine wpTk (i := 8) (v := .pointer (some ⟨q, 0, none⟩)) rfl (Or.inl ⟨by rfl, fun w' hs => by go_simp⟩) S0.out ?_
  change wpAnyH _ _ _ _ _ _ _ (Act.put _ (some 142) _) _
  simp only [Act.put, zT, zZ, zS]
  refine wpTk (i := 9) (v := .pointer (some ⟨q, 0, none⟩)) rfl (Or.inl ⟨by rfl, fun w' hs => by go_simp⟩) S0.out ?_
  change wpAnyH _ _ _ _ _ _ _ (Act.put _ (some 143) _) _
  simp only [Act.put, zT, zZ, zS]
  refine wpTk (i := 10) (v := .pointer (some ⟨q, a, none⟩)) rfl (Or.inl ⟨by rfl, fun w' hs => by have h1 := Ia.out; have h2 := Ra.out; go_simp⟩) S0.out ?_
  change wpAnyH _ _ _ _ _ _ _ (Act.put _ (some 144) _) _
  simp only [Act.put, zT, zZ, zS]
  refine wpTk (i := 11) (v := .int .i64 (gt H.regs a)) rfl (Or.inl ⟨by rfl, fun w' hs => by have hc := hs.2.1; go_simp⟩) S0.out ?_
  change wpAnyH _ _ _ _ _ _ _ (Act.put _ (some 145) _) _
  simp only [Act.put, zT, zZ, zS]
  refine wpTk (i := 12) (v := .int .i64 (offV im)) rfl (Or.inl ⟨by rfl, fun w' hs => by go_simp⟩) S0.out ?_
  change wpAnyH _ _ _ _ _ _ _ (Act.put _ (some 146) _) _
  simp only [Act.put, zT, zZ, zS]
  refine wpTk (i := 14) (v := .pointer (some ⟨q, 0, none⟩)) rfl (Or.inl ⟨by rfl, fun w' hs => by go_simp⟩) S0.out ?_
  change wpAnyH _ _ _ _ _ _ _ (Act.put _ (some 148) _) _
  simp only [Act.put, zT, zZ, zS]
  refine wpTk (i := 15) (v := .pointer (some ⟨n, 0, none⟩)) rfl (Or.inl ⟨by rfl, fun w' hs => by go_simp⟩) S0.out ?_
  change wpAnyH _ _ _ _ _ _ _ (Act.put _ (some 149) _) _
  simp only [Act.put, zT, zZ, zS]
  refine wpTk (i := 16) (v := .pointer (some ⟨n, 0, none⟩)) rfl (Or.inl ⟨by rfl, fun w' hs => by go_simp⟩) S0.out ?_
  change wpAnyH _ _ _ _ _ _ _ (Act.put _ (some 150) _) _
  simp only [Act.put, zT, zZ, zS]
  refine wpTk (i := 17) (v := .pointer (some ⟨n, 1, none⟩)) rfl (Or.inl ⟨by rfl, fun w' hs => by go_simp⟩) S0.out ?_
  change wpAnyH _ _ _ _ _ _ _ (Act.put _ (some 151) _) _
  simp only [Act.put, zT, zZ, zS]
  refine wpTk (i := 18) (v := .int .i64 (d : Int)) rfl (Or.inl ⟨by rfl, fun w' hs => by have hc := (hs.1.cell 1 rfl : w'.cell? ⟨n, 1, none⟩ = some (.int .i64 (d : Int))); go_simp⟩) S0.out ?_
  change wpAnyH _ _ _ _ _ _ _ (Act.put _ (some 152) _) _
  simp only [Act.put, zT, zZ, zS]
  refine wpTk (i := 19) (v := .pointer (some ⟨q, 0, none⟩)) rfl (Or.inl ⟨by rfl, fun w' hs => by go_simp⟩) S0.out ?_
  change wpAnyH _ _ _ _ _ _ _ (Act.put _ (some 153) _) _
  simp only [Act.put, zT, zZ, zS]
  refine wpTk (i := 20) (v := .pointer (some ⟨q, 0, none⟩)) rfl (Or.inl ⟨by rfl, fun w' hs => by go_simp⟩) S0.out ?_
  change wpAnyH _ _ _ _ _ _ _ (Act.put _ (some 154) _) _
  simp only [Act.put, zT, zZ, zS]
  refine wpTk (i := 21) (v := .pointer (some ⟨q, 0, none⟩)) rfl (Or.inl ⟨by rfl, fun w' hs => by go_simp⟩) S0.out ?_
  change wpAnyH _ _ _ _ _ _ _ (Act.put _ (some 155) _) _
  simp only [Act.put, zT, zZ, zS]
  refine wpTk (i := 22) (v := .pointer (some ⟨q, 0, none⟩)) rfl (Or.inl ⟨by rfl, fun w' hs => by go_simp⟩) S0.out ?_
  change wpAnyH _ _ _ _ _ _ _ (Act.put _ (some 156) _) _
  simp only [Act.put, zT, zZ, zS]
  refine wpTk (i := 23) (v := .pointer (some ⟨q, d, none⟩)) rfl (Or.inl ⟨by rfl, fun w' hs => by have h1 := Id.out; have h2 := Rd.out; go_simp⟩) S0.out ?_
  change wpAnyH _ _ _ _ _ _ _ (Act.put _ (some 157) _) _
  simp only [Act.put, zT, zZ, zS]
  refine wpTk (i := 24) (v := .int .i64 (gt H.regs d)) rfl (Or.inl ⟨by rfl, fun w' hs => by have hc := hs.2.2; go_simp⟩) S0.out ?_
  change wpAnyH _ _ _ _ _ _ _ (Act.put _ (some 158) _) _
  simp only [Act.put, zT, zZ, zS]
  refine zR 13 rfl fun K hK => ?_
  rw [if_pos (by rfl)]
  go_simp
  refine (impl_add _ _ _).mono ?_
  rintro e y ⟨rfl, hy⟩
  rw [hy]
  clear hy y
  refine hK.out _ _ S0.out (fun _ => ?_)
  clear hK K
  refine zR 25 rfl fun K hK => ?_
  rw [if_pos (by rfl)]
  go_simp
  refine (r_storeNo R0.out (addV (gt H.regs a) (offV im)) (gt H.regs d) HZ.out).mono ?_
  rintro e x1 ⟨he, b2⟩
  unfold pan at he
  subst he
  clear hK
  go_wp2_with fail
  exact ⟨rfl, rfl, R0.out.keep b2, B0.out.trans (bless b2 R0.out.size)⟩
set_option maxRecDepth 20000 in
set_option maxHeartbeats 4000000 in
theorem do_reckons {w : World} {base q : Nat} {i o : Value} {pg pc : Nat} {ps : List (Int × Int)} {g p : Nat} {zs : List Int} {X : Nat → Prop} {H : Ht} {ca ri : Int} (R : Rw w base q i o pg pc ps g p zs H ca ri X) (op : Int) (d a : Nat) (b : Nat) (hd : d < 16) (ha : a < 16) (hb : b < 16) (h1 : 1 ≤ op) (h11 : op ≤ 11) :
    Calls Tryz.prog 75 #[.pointer (some ⟨q, 0, none⟩), .iface 153 (.agg #[.int .i64 op, .int .i64 (d : Int), .int .i64 (a : Int), .int .i64 (b : Int)])] w fun e w' => e = .returned (.int .i64 (addV H.pc 1)) ∧ Rw w' base q i o pg pc ps g p zs (putV H d (aluV op (gt H.regs a) (gt H.regs b))) ca ri X ∧ Below base w w' := by
  have HR : Hid (Rw w base q i o pg pc ps g p zs H ca ri X) := R
  have c16 : w.cell? ⟨q, 16, none⟩ = some (.int .i64 H.pc) := R.v.cell 16 rfl
  have hm := meth_reckons (.int .i64 op) (.int .i64 (d : Int)) (.int .i64 (a : Int)) (.int .i64 (b : Int))
  have as_reckons : ∀ w, (Instr.typeAssert (.iface 153 (.agg #[.int .i64 op, .int .i64 (d : Int), .int .i64 (a : Int), .int .i64 (b : Int)])) 121 153 true).run Tryz.prog w = .ok (.tuple #[.agg #[.int .i64 op, .int .i64 (d : Int), .int .i64 (a : Int), .int .i64 (b : Int)], .bool true]) w := fun w => by kernel_rfl
  have Rd : Hid (d < 16) := hd
  have Id : Hid ((d : Int) < 16) := by show _ < _; omega
  have Ra : Hid (a < 16) := ha
  have Ia : Hid ((a : Int) < 16) := by show _ < _; omega
  have Rb : Hid (b < 16) := hb
  have Ib : Hid ((b : Int) < 16) := by show _ < _; omega
  have AO : Hid (aluC op = 0 ∧ (if 1 ≤ op ∧ op ≤ 11 then aluV op (gt H.regs a) (gt H.regs b) else 0) = aluV op (gt H.regs a) (gt H.regs b)) := ⟨if_pos ⟨h1, h11⟩, if_pos ⟨h1, h11⟩⟩
  have PW : Hid (isW (aluV op (gt H.regs a) (gt H.regs b)) = true) := alu_word _ _ _
  clear R
  go_enter Tryz.func75, Tryz.ntmps75
  go_wp2_with (go_at_call 22; refine (impl_add _ _ _).mono ?_; rintro e y ⟨rfl, hy⟩; rw [hy]; clear hy y)
  refine (i_off _ _ _ (b : Int) w).mono ?_
  rintro e w1 ⟨rfl, b1⟩
  clear hm c16
  go_upto_region 5 with fail
  clear as_reckons
  generalize hW : w1.alloc (.cells #[.int .i64 op, .int .i64 (d : Int), .int .i64 (a : Int), .int .i64 (b : Int)] 153) = W1
  obtain ⟨n, hn⟩ : ∃ n, w1.heap.size = n := ⟨_, rfl⟩
  rw [hn]
  have VN : Hid (Vb W1 n #[.int .i64 op, .int .i64 (d : Int), .int .i64 (a : Int), .int .i64 (b : Int)] 153) := by show Vb _ _ _ _; rw [← hW, ← hn]; exact Vb.new _ _ _
  have bb : Below w.heap.size w W1 := by rw [← hW]; exact al b1 _
  have R1 : Hid (Rw W1 base q i o pg pc ps g p zs H ca ri X) := HR.out.keep bb
  have B1 : Hid (Below base w W1) := bless bb HR.out.size
  have QN : Hid (n ≠ q ∧ n ≠ g ∧ ∀ k, o.ownBlock = some k → n ≠ k) := by
    have hs : w.heap.size ≤ n := by rw [← hn]; exact b1.size
    obtain ⟨bo, _, _, ho, _⟩ := HR.out.ho
    exact ⟨by have := HR.out.v.lt; omega, by have := (World.ownsRow.lt HR.out.pgs g rfl).2; omega, fun k e => by have := (ho.lt k e).2; omega⟩
  clear hW hn b1 bb
  have S0 : Hid (Vb W1.drew n #[.int .i64 op, .int .i64 (d : Int), .int .i64 (a : Int), .int .i64 (b : Int)] 153) := VN.out
  have R0 : Hid (Rw W1.drew base q i o pg pc ps g p zs H ca ri X) := R1.out.keep (Below.refl _ _).drew
  have B0 : Hid (Below base w W1.drew) := B1.out.drew
  refine wp_region_held (S := fun w' => Vb w' n #[.int .i64 op, .int .i64 (d : Int), .int .i64 (a : Int), .int .i64 (b : Int)] 153) (by kernel_rfl) ?_
  change wpAnyH _ _ _ _ _ _ _ _ (World.drew _)
  generalize W1.drew = x0 at *
  refine wpTk (i := 0) (v := .pointer (some ⟨q, 0, none⟩)) rfl (Or.inl ⟨by rfl, fun w' hs => by go_simp⟩) S0.out ?_
  change wpAnyH _ _ _ _ _ _ _ (Act.put _ (some 37) _) _
  simp only [Act.put, zT, zZ, zS]
  refine wpTk (i := 1) (v := .pointer (some ⟨n, 0, none⟩)) rfl (Or.inl ⟨by rfl, fun w' hs => by go_simp⟩) S0.out ?_
  change wpAnyH _ _ _ _ _ _ _ (Act.put _ (some 38) _) _
  simp only [Act.put, zT, zZ, zS]
  refine wpTk (i := 2) (v := .pointer (some ⟨n, 0, none⟩)) rfl (Or.inl ⟨by rfl, fun w' hs => by go_simp⟩) S0.out ?_
  change wpAnyH _ _ _ _ _ _ _ (Act.put _ (some 39) _) _
  simp only [Act.put, zT, zZ, zS]
  refine wpTk (i := 3) (v := .pointer (some ⟨n, 1, none⟩)) rfl (Or.inl ⟨by rfl, fun w' hs => by go_simp⟩) S0.out ?_
  change wpAnyH _ _ _ _ _ _ _ (Act.put _ (some 40) _) _
  simp only [Act.put, zT, zZ, zS]
  refine wpTk (i := 4) (v := .int .i64 (d : Int)) rfl (Or.inl ⟨by rfl, fun w' hs => by have hc := (hs.cell 1 rfl : w'.cell? ⟨n, 1, none⟩ = some (.int .i64 (d : Int))); go_simp⟩) S0.out ?_
  change wpAnyH _ _ _ _ _ _ _ (Act.put _ (some 41) _) _
  simp only [Act.put, zT, zZ, zS]
  refine wpTk (i := 5) (v := .pointer (some ⟨n, 0, none⟩)) rfl (Or.inl ⟨by rfl, fun w' hs => by go_simp⟩) S0.out ?_
  change wpAnyH _ _ _ _ _ _ _ (Act.put _ (some 42) _) _
  simp only [Act.put, zT, zZ, zS]
  refine wpTk (i := 6) (v := .pointer (some ⟨n, 0, none⟩)) rfl (Or.inl ⟨by rfl, fun w' hs => by go_simp⟩) S0.out ?_
  change wpAnyH _ _ _ _ _ _ _ (Act.put _ (some 43) _) _
  simp only [Act.put, zT, zZ, zS]
  refine wpTk (i := 7) (v := .pointer (some ⟨n, 0, none⟩)) rfl (Or.inl ⟨by rfl, fun w' hs => by go_simp⟩) S0.out ?_
  change wpAnyH _ _ _ _ _ _ _ (Act.put _ (some 44) _) _
  simp only [Act.put, zT, zZ, zS]
  refine wpTk (i := 8) (v := .int .i64 op) rfl (Or.inl ⟨by rfl, fun w' hs => by have hc := (hs.cell 0 rfl : w'.cell? ⟨n, 0, none⟩ = some (.int .i64 op)); go_simp⟩) S0.out ?_
  change wpAnyH _ _ _ _ _ _ _ (Act.put _ (some 45) _) _
  simp only [Act.put, zT, zZ, zS]
  refine wpTk (i := 9) (v := .pointer (some ⟨q, 0, none⟩)) rfl (Or.inl ⟨by rfl, fun w' hs => by go_simp⟩) S0.out ?_
  change wpAnyH _ _ _ _ _ _ _ (Act.put _ (some 46) _) _
  simp only [Act.put, zT, zZ, zS]
  refine wpTk (i := 10) (v := .pointer (some ⟨n, 0, none⟩)) rfl (Or.inl ⟨by rfl, fun w' hs => by go_simp⟩) S0.out ?_
  change wpAnyH _ _ _ _ _ _ _ (Act.put _ (some 47) _) _
  simp only [Act.put, zT, zZ, zS]
  refine wpTk (i := 11) (v := .pointer (some ⟨n, 0, none⟩)) rfl (Or.inl ⟨by rfl, fun w' hs => by go_simp⟩) S0.out ?_
  change wpAnyH _ _ _ _ _ _ _ (Act.put _ (some 48) _) _
  simp only [Act.put, zT, zZ, zS]
  refine wpTk (i := 12) (v := .pointer (some ⟨n, 2, none⟩)) rfl (Or.inl ⟨by rfl, fun w' hs => by go_simp⟩) S0.out ?_
  change wpAnyH _ _ _ _ _ _ _ (Act.put _ (some 49) _) _
  simp only [Act.put, zT, zZ, zS]
  refine wpTk (i := 13) (v := .int .i64 (a : Int)) rfl (Or.inl ⟨by rfl, fun w' hs => by have hc := (hs.cell 2 rfl : w'.cell? ⟨n, 2, none⟩ = some (.int .i64 (a : Int))); go_simp⟩) S0.out ?_
  change wpAnyH _ _ _ _ _ _ _ (Act.put _ (some 50) _) _
  simp only [Act.put, zT, zZ, zS]
  refine wpTk (i := 14) (v := .pointer (some ⟨q, 0, none⟩)) rfl (Or.inl ⟨by rfl, fun w' hs => by go_simp⟩) S0.out ?_
  change wpAnyH _ _ _ _ _ _ _ (Act.put _ (some 51) _) _
  simp only [Act.put, zT, zZ, zS]
  refine wpTk (i := 15) (v := .pointer (some ⟨q, 0, none⟩)) rfl (Or.inl ⟨by rfl, fun w' hs => by go_simp⟩) S0.out ?_
  change wpAnyH _ _ _ _ _ _ _ (Act.put _ (some 52) _) _
  simp only [Act.put, zT, zZ, zS]
  refine wpTk (i := 16) (v := .pointer (some ⟨q, 0, none⟩)) rfl (Or.inl ⟨by rfl, fun w' hs => by go_simp⟩) S0.out ?_
  change wpAnyH _ _ _ _ _ _ _ (Act.put _ (some 53) _) _
  simp only [Act.put, zT, zZ, zS]
  refine wpTk (i := 17) (v := .pointer (some ⟨q, 0, none⟩)) rfl (Or.inl ⟨by rfl, fun w' hs => by go_simp⟩) S0.out ?_
  change wpAnyH _ _ _ _ _ _ _ (Act.put _ (some 54) _) _
  simp only [Act.put, zT, zZ, zS]
  refine wpTk (i := 18) (v := .pointer (some ⟨q, a, none⟩)) rfl (Or.inl ⟨by rfl, fun w' hs => by have h1 := Ia.out; have h2 := Ra.out; go_simp⟩) S0.out ?_
  change wpAnyH _ _ _ _ _ _ _ (Act.put _ (some 55) _) _
  simp only [Act.put, zT, zZ, zS]
  refine wpTk (i := 20) (v := .pointer (some ⟨q, 0, none⟩)) rfl (Or.inl ⟨by rfl, fun w' hs => by go_simp⟩) S0.out ?_
  change wpAnyH _ _ _ _ _ _ _ (Act.put _ (some 57) _) _
  simp only [Act.put, zT, zZ, zS]
  refine wpTk (i := 21) (v := .pointer (some ⟨n, 0, none⟩)) rfl (Or.inl ⟨by rfl, fun w' hs => by go_simp⟩) S0.out ?_
  change wpAnyH _ _ _ _ _ _ _ (Act.put _ (some 58) _) _
  simp only [Act.put, zT, zZ, zS]
  refine wpTk (i := 22) (v := .pointer (some ⟨n, 0, none⟩)) rfl (Or.inl ⟨by rfl, fun w' hs => by go_simp⟩) S0.out ?_
  change wpAnyH _ _ _ _ _ _ _ (Act.put _ (some 59) _) _
  simp only [Act.put, zT, zZ, zS]
  refine wpTk (i := 23) (v := .pointer (some ⟨n, 3, none⟩)) rfl (Or.inl ⟨by rfl, fun w' hs => by go_simp⟩) S0.out ?_
  change wpAnyH _ _ _ _ _ _ _ (Act.put _ (some 60) _) _
  simp only [Act.put, zT, zZ, zS]
  refine wpTk (i := 24) (v := .int .i64 (b : Int)) rfl (Or.inl ⟨by rfl, fun w' hs => by have hc := (hs.cell 3 rfl : w'.cell? ⟨n, 3, none⟩ = some (.int .i64 (b : Int))); go_simp⟩) S0.out ?_
  change wpAnyH _ _ _ _ _ _ _ (Act.put _ (some 61) _) _
  simp only [Act.put, zT, zZ, zS]
  refine wpTk (i := 25) (v := .pointer (some ⟨q, 0, none⟩)) rfl (Or.inl ⟨by rfl, fun w' hs => by go_simp⟩) S0.out ?_
  change wpAnyH _ _ _ _ _ _ _ (Act.put _ (some 62) _) _
  simp only [Act.put, zT, zZ, zS]
  refine wpTk (i := 26) (v := .pointer (some ⟨q, 0, none⟩)) rfl (Or.inl ⟨by rfl, fun w' hs => by go_simp⟩) S0.out ?_
  change wpAnyH _ _ _ _ _ _ _ (Act.put _ (some 63) _) _
  simp only [Act.put, zT, zZ, zS]
  refine wpTk (i := 27) (v := .pointer (some ⟨q, 0, none⟩)) rfl (Or.inl ⟨by rfl, fun w' hs => by go_simp⟩) S0.out ?_
  change wpAnyH _ _ _ _ _ _ _ (Act.put _ (some 64) _) _
  simp only [Act.put, zT, zZ, zS]
  refine wpTk (i := 28) (v := .pointer (some ⟨q, 0, none⟩)) rfl (Or.inl ⟨by rfl, fun w' hs => by go_simp⟩) S0.out ?_
  change wpAnyH _ _ _ _ _ _ _ (Act.put _ (some 65) _) _
  simp only [Act.put, zT, zZ, zS]
  refine wpTk (i := 29) (v := .pointer (some ⟨q, b, none⟩)) rfl (Or.inl ⟨by rfl, fun w' hs => by have h1 := Ib.out; have h2 := Rb.out; go_simp⟩) S0.out ?_
  change wpAnyH _ _ _ _ _ _ _ (Act.put _ (some 66) _) _
  simp only [Act.put, zT, zZ, zS]
  refine wpAnyH_ready (rs := [19, 30]) (by kernel_rfl) (by simp) ?_
  refine AllReadyH.cons rfl (fun K hK => ?_) (AllReadyH.cons rfl (fun K hK => ?_) (AllReadyH.nil))
  · skip
    rw [if_pos (by rfl)]
    have cl : x0.cell? ⟨q, a, none⟩ = some (.int .i64 (gt H.regs a)) := R0.out.v.cell a (mcr_reg_at _ _ _ _ _ _ _ a Ra.out)
    go_simp
    refine hK.out _ _ S0.out (fun _ => ?_)
    clear hK K cl
    refine zR 30 rfl fun K hK => ?_
    rw [if_pos (by rfl)]
    have cl : x0.cell? ⟨q, b, none⟩ = some (.int .i64 (gt H.regs b)) := R0.out.v.cell b (mcr_reg_at _ _ _ _ _ _ _ b Rb.out)
    go_simp
    refine hK.out _ _ S0.out (fun _ => ?_)
    clear hK K cl
    refine zR 31 rfl fun K hK => ?_
    rw [if_pos (by rfl)]
    go_simp
    have AL := impl_alu op (gt H.regs a) (gt H.regs b) x0
    rw [AO.out.1, AO.out.2] at AL
    refine AL.mono ?_
    rintro e x1 ⟨rfl, b2⟩
    have R1 : Hid (Rw x1 base q i o pg pc ps g p zs H ca ri X) := R0.out.keep b2
    have B1 : Hid (Below base w x1) := B0.out.trans (bless b2 R0.out.size)
    have S1 : Hid (Vb x1 n #[.int .i64 op, .int .i64 (d : Int), .int .i64 (a : Int), .int .i64 (b : Int)] 153) := S0.out.keep b2
    clear b2 AL
    refine hK.out _ _ S1.out (fun _ => ?_)
    clear hK K
    refine wpTk (i := 32) (v := .int .i64 (aluV op (gt H.regs a) (gt H.regs b))) rfl (Or.inl ⟨by rfl, fun w' hs => by have hf := field_i1; go_simp⟩) S1.out ?_
    change wpAnyH _ _ _ _ _ _ _ (Act.put _ (some 69) _) _
    simp only [Act.put, zT, zZ, zS]
    refine zR 33 rfl fun K hK => ?_
    rw [if_pos (by rfl)]
    go_simp
    refine (r_put R1.out (d : Int) (aluV op (gt H.regs a) (gt H.regs b)) (by omega) (by have := Rd.out; omega) PW.out).mono ?_
    rintro e x2 ⟨rfl, ⟨r2, b2⟩, m2⟩
    have R2 : Hid (Rw x2 base q i o pg pc ps g p zs (putV H d (aluV op (gt H.regs a) (gt H.regs b))) ca ri X) := r2
    have B2 : Hid (Below base w x2) := B1.out.trans b2
    have S2 : Hid (Vb x2 n #[.int .i64 op, .int .i64 (d : Int), .int .i64 (a : Int), .int .i64 (b : Int)] 153) := m2.vb S1.out fun e => QN.out.1 e
    clear r2 b2 m2
    refine hK.out _ _ S2.out (fun _ => ?_)
    clear hK K
    refine wpAnyH_done (by kernel_rfl) ?_ _
    go_wp2_with fail
    go_ret
    exact ⟨rfl, R2.out, B2.out⟩
  · skip
    rw [if_pos (by rfl)]
    have cl : x0.cell? ⟨q, b, none⟩ = some (.int .i64 (gt H.regs b)) := R0.out.v.cell b (mcr_reg_at _ _ _ _ _ _ _ b Rb.out)
    go_simp
    refine hK.out _ _ S0.out (fun _ => ?_)
    clear hK K cl
    refine zR 19 rfl fun K hK => ?_
    rw [if_pos (by rfl)]
    have cl : x0.cell? ⟨q, a, none⟩ = some (.int .i64 (gt H.regs a)) := R0.out.v.cell a (mcr_reg_at _ _ _ _ _ _ _ a Ra.out)
    go_simp
    refine hK.out _ _ S0.out (fun _ => ?_)
    clear hK K cl
    refine zR 31 rfl fun K hK => ?_
    rw [if_pos (by rfl)]
    go_simp
    have AL := impl_alu op (gt H.regs a) (gt H.regs b) x0
    rw [AO.out.1, AO.out.2] at AL
    refine AL.mono ?_
    rintro e x1 ⟨rfl, b2⟩
    have R1 : Hid (Rw x1 base q i o pg pc ps g p zs H ca ri X) := R0.out.keep b2
    have B1 : Hid (Below base w x1) := B0.out.trans (bless b2 R0.out.size)
    have S1 : Hid (Vb x1 n #[.int .i64 op, .int .i64 (d : Int), .int .i64 (a : Int), .int .i64 (b : Int)] 153) := S0.out.keep b2
    clear b2 AL
    refine hK.out _ _ S1.out (fun _ => ?_)
    clear hK K
    refine wpTk (i := 32) (v := .int .i64 (aluV op (gt H.regs a) (gt H.regs b))) rfl (Or.inl ⟨by rfl, fun w' hs => by have hf := field_i1; go_simp⟩) S1.out ?_
    change wpAnyH _ _ _ _ _ _ _ (Act.put _ (some 69) _) _
    simp only [Act.put, zT, zZ, zS]
    refine zR 33 rfl fun K hK => ?_
    rw [if_pos (by rfl)]
    go_simp
    refine (r_put R1.out (d : Int) (aluV op (gt H.regs a) (gt H.regs b)) (by omega) (by have := Rd.out; omega) PW.out).mono ?_
    rintro e x2 ⟨rfl, ⟨r2, b2⟩, m2⟩
    have R2 : Hid (Rw x2 base q i o pg pc ps g p zs (putV H d (aluV op (gt H.regs a) (gt H.regs b))) ca ri X) := r2
    have B2 : Hid (Below base w x2) := B1.out.trans b2
    have S2 : Hid (Vb x2 n #[.int .i64 op, .int .i64 (d : Int), .int .i64 (a : Int), .int .i64 (b : Int)] 153) := m2.vb S1.out fun e => QN.out.1 e
    clear r2 b2 m2
    refine hK.out _ _ S2.out (fun _ => ?_)
    clear hK K
    refine wpAnyH_done (by kernel_rfl) ?_ _
    go_wp2_with fail
    go_ret
    exact ⟨rfl, R2.out, B2.out⟩
end Go.Proofs.YtaefollmeoepkaaGreatDoor
