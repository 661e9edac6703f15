/- Texts of this seat, joined. -/
import Derived.Test.YtkfcofjmjbkekaaGreatDoorQ14
namespace Go.Proofs.YtkfcofjmjbkekaaGreatDoor
open Go.RowKit Go.Extern.Stop Go.Stop Go.Extern
set_option linter.unusedVariables false

theorem asl_setE (ta b : Addr) (i c : Int) (o0 o1 : Value) (W : World) (h0 : W.cell? b = some (.int .i64 i)) (h1 : W.cell? (b.add 1) = some (.iface 81 (.agg #[.int .i64 c]))) (ht0 : W.cell? ta = some o0) (ht1 : W.cell? (ta.add 1) = some o1) (hf0 : W.frozen? ta = false) (hf1 : W.frozen? (ta.add 1) = false) :
    (ReflectliteValue.set #[.agg #[.pointer (some ⟨10, 83, none⟩), .pointer (some ta), .int .u64 409], .agg #[.pointer (some ⟨10, 83, none⟩), .pointer (some b), .int .u64 153]]).run Tryz.prog W
      = .ok (.tuple #[]) ((W.setCell ta (.int .i64 i)).setCell (ta.add 1) (.iface 81 (.agg #[.int .i64 c]))) := by
  have e0 : ta.add 0 = ta := by cases ta; rfl
  have hne : ¬ ta = ta.add 1 := by
    intro e
    have := congrArg Addr.off e
    unfold Addr.add at this
    split at this
    · rename_i h; exact absurd h (by decide)
    · simp at this
  rw [as_rls]
  simp only [Sem.run_bind, asl_partsEa, asl_partsE, Result.andThen]
  simp [ReflectliteValue.flagAddr, asl_loadE b i _ W h0 h1, Result.andThen, asl_direct, storeVar, Value.cells, storeCells, e0]
  rw [run_store Tryz.prog W ta _ _ (by rfl)]
  simp [ht0, hf0]
  rw [run_store Tryz.prog _ (ta.add 1) _ _ (by rfl)]
  rw [World.cell?_setCell_other _ _ _ _ hne, World.frozen?_setCell]
  simp [ht1, hf1]
set_option maxRecDepth 20000 in
set_option maxHeartbeats 8000000 in
theorem as_line (i c : Int) (t : Addr) (o0 o1 : Value) (w : World) (hg : w.cell? ⟨1, 0, none⟩ = some (.iface 137 (.agg #[.pointer (some ⟨10, 45, none⟩)]))) (ht0 : w.cell? t = some o0) (ht1 : w.cell? (t.add 1) = some o1) (hf0 : w.frozen? t = false) (hf1 : w.frozen? (t.add 1) = false) (hbk : (t.add 1).block = t.block) :
    Calls Tryz.prog 41 #[.iface 83 (.agg #[.int .i64 i, (.iface 81 (.agg #[.int .i64 c]))]), .iface 88 (.pointer (some t))] w fun ev w' => ev = .returned (.bool true) ∧ ∃ w1, Below w.heap.size w w1 ∧ w' = (w1.setCell t (.int .i64 i)).setCell (t.add 1) (.iface 81 (.agg #[.int .i64 c])) := by
  have h6 := @run_callFunc_extern Tryz.prog 60 _ (fun args => ReflectliteValue.unpack (args.getD 0 (.tuple #[]))) Tryz.func60 (by kernel_rfl) (by kernel_rfl) (by kernel_rfl) (by kernel_rfl)
  have h7 := @run_callFunc_extern Tryz.prog 61 _ (ReflectliteValue.methodAny (ReflectliteValue.valueError "reflectlite.Value.Type" 0) (fun t _ _ _ => ReflectliteType.toType t)) Tryz.func61 (by kernel_rfl) (by kernel_rfl) (by kernel_rfl) (by kernel_rfl)
  have h8 := @run_callFunc_extern Tryz.prog 62 _ (ReflectliteValue.method (ReflectliteValue.valueError "reflectlite.Value.IsNil" 0) ReflectliteValue.isNil) Tryz.func62 (by kernel_rfl) (by kernel_rfl) (by kernel_rfl) (by kernel_rfl)
  have h27 := @run_callFunc_extern Tryz.prog 139 _ (ReflectliteType.abiMethod fun t => do pure (.int .u8 (← Rtype.kind t))) Tryz.func139 (by kernel_rfl) (by kernel_rfl) (by kernel_rfl) (by kernel_rfl)
  have h37 := @run_callFunc_extern Tryz.prog 152 _ (ReflectliteType.method ReflectliteType.elem) Tryz.func152 (by kernel_rfl) (by kernel_rfl) (by kernel_rfl) (by kernel_rfl)
  have h38 := @run_callFunc_extern Tryz.prog 153 _ (ReflectliteType.relation "Implements" ReflectliteType.implements_) Tryz.func153 (by kernel_rfl) (by kernel_rfl) (by kernel_rfl) (by kernel_rfl)
  have h10 := @run_callFunc_extern Tryz.prog 82 _ ReflectliteType.typeOf Tryz.func82 (by kernel_rfl) (by kernel_rfl) (by kernel_rfl) (by kernel_rfl)
  have h35 := @run_callFunc_extern Tryz.prog 150 _ (ReflectliteType.relation "AssignableTo" ReflectliteType.assignableTo) Tryz.func150 (by kernel_rfl) (by kernel_rfl) (by kernel_rfl) (by kernel_rfl)
  have h11 := @run_callFunc_extern Tryz.prog 83 _ (ReflectliteValue.method (ReflectliteValue.valueError "reflectlite.Value.Elem" 0) ReflectliteValue.elem) Tryz.func83 (by kernel_rfl) (by kernel_rfl) (by kernel_rfl) (by kernel_rfl)
  have h12 := @run_callFunc_extern Tryz.prog 84 _ ReflectliteValue.set Tryz.func84 (by kernel_rfl) (by kernel_rfl) (by kernel_rfl) (by kernel_rfl)
  have tB := as_typeOfB
  have mA := as_mAssign
  have aE := asl_assignE
  have vE := asl_valueE
  have f6 := asl_valueT
  have f7 := asl_typeT
  have mK := as_mKind
  have mE := as_mElem
  have mI := as_mImpl
  have kT := asl_kindT
  have kE := asl_kindE
  have eT := asl_elemT
  have iE := asl_implE
  have hlt : 1 < w.heap.size := block_of_cell hg
  have htl : t.block < w.heap.size := block_of_cell ht0
  have n8 := asl_isNilT ⟨w.heap.size, 0, none⟩ t ((w.alloc (.cells #[.pointer (some t)] 88)).alloc (.cells #[.pointer (some ⟨10, 88, none⟩), .pointer (some ⟨w.heap.size, 0, none⟩), .int .u64 150] 111)) (by simp)
  have hg2 : ((w.alloc (.cells #[.pointer (some t)] 88)).alloc (.cells #[.pointer (some ⟨10, 88, none⟩), .pointer (some ⟨w.heap.size, 0, none⟩), .int .u64 150] 111)).cell? ⟨1, 0, none⟩ = some (.iface 137 (.agg #[.pointer (some ⟨10, 45, none⟩)])) := cell_push _ (cell_push _ hg)
  have el := asl_elemV ⟨w.heap.size, 0, none⟩ t (((w.alloc (.cells #[.pointer (some t)] 88)).alloc (.cells #[.pointer (some ⟨10, 88, none⟩), .pointer (some ⟨w.heap.size, 0, none⟩), .int .u64 150] 111)).alloc (.cells #[.pointer (some ⟨10, 88, none⟩), .pointer (some ⟨w.heap.size, 0, none⟩), .int .u64 150] 111)) (by rw [World.cell?_alloc_lt _ _ ⟨w.heap.size, 0, none⟩ (by simp; omega)]; simp)
  have fz : ∀ p : Addr, p.block = t.block → w.frozen? p = false → ((((w.alloc (.cells #[.pointer (some t)] 88)).alloc (.cells #[.pointer (some ⟨10, 88, none⟩), .pointer (some ⟨w.heap.size, 0, none⟩), .int .u64 150] 111)).alloc (.cells #[.pointer (some ⟨10, 88, none⟩), .pointer (some ⟨w.heap.size, 0, none⟩), .int .u64 150] 111)).alloc (.cells #[.int .i64 i, (.iface 81 (.agg #[.int .i64 c]))] 83)).frozen? p = false := fun p hp h => by
    rw [World.frozen?_alloc_old _ _ p (by rw [hp]; simp; omega), World.frozen?_alloc_old _ _ p (by rw [hp]; simp; omega), World.frozen?_alloc_old _ _ p (by rw [hp]; simp; omega), World.frozen?_alloc_old _ _ p (by rw [hp]; exact Nat.ne_of_lt htl)]; exact h
  have st := asl_setE t ⟨w.heap.size + 1 + 1 + 1, 0, none⟩ i c o0 o1 ((((w.alloc (.cells #[.pointer (some t)] 88)).alloc (.cells #[.pointer (some ⟨10, 88, none⟩), .pointer (some ⟨w.heap.size, 0, none⟩), .int .u64 150] 111)).alloc (.cells #[.pointer (some ⟨10, 88, none⟩), .pointer (some ⟨w.heap.size, 0, none⟩), .int .u64 150] 111)).alloc (.cells #[.int .i64 i, (.iface 81 (.agg #[.int .i64 c]))] 83))
    (by rw [World.cell?_alloc_at _ _ _ _ (by simp)]; rfl)
    (by show World.cell? _ ⟨w.heap.size + 1 + 1 + 1, 1, none⟩ = _; rw [World.cell?_alloc_at _ _ _ _ (by simp)]; rfl)
    (cell_push _ (cell_push _ (cell_push _ (cell_push _ ht0))))
    (cell_push _ (cell_push _ (cell_push _ (cell_push _ ht1))))
    (fz t rfl hf0) (fz _ hbk hf1)
  clear fz
  go_enter Tryz.func41, Tryz.ntmps41
  go_wp2
  refine wp_loop_rounds 1 ?_
  rw [rounds_succ]
  go_wp2
  go_ret
  exact ⟨rfl, _, al (al (al (al (Below.refl _ _) _) _) _) _, rfl⟩
theorem as_assignM (w : World) : (ReflectliteType.relation "AssignableTo" ReflectliteType.assignableTo #[.agg #[.pointer (some ⟨10, 81, none⟩)], .iface 137 (.agg #[.pointer (some ⟨10, 83, none⟩)])]).run Tryz.prog w = .ok (.bool false) w := by kernel_rfl
theorem as_noAsM (v : Value) (xT : TypeId) (w : World) : (Instr.typeAssert (.iface 81 v) xT 142 true).run Tryz.prog w = .ok (.tuple #[.nilIface, .bool false]) w := Go.run_typeAssert_lacksB Tryz.underlying142 (by kernel_rfl) (by kernel_rfl) v xT w
theorem as_noUnM (v : Value) (xT : TypeId) (w : World) : (Instr.typeAssert (.iface 81 v) xT 145 true).run Tryz.prog w = .ok (.tuple #[.nilIface, .bool false]) w := Go.run_typeAssert_lacksB Tryz.underlying145 (by kernel_rfl) (by kernel_rfl) v xT w
theorem as_noListM (v : Value) (xT : TypeId) (w : World) : (Instr.typeAssert (.iface 81 v) xT 147 true).run Tryz.prog w = .ok (.tuple #[.nilIface, .bool false]) w := Go.run_typeAssert_lacksB Tryz.underlying147 (by kernel_rfl) (by kernel_rfl) v xT w
set_option maxRecDepth 20000 in
set_option maxHeartbeats 8000000 in
theorem as_miss (c : Int) (t : Addr) (o0 : Value) (w : World) (hg : w.cell? ⟨1, 0, none⟩ = some (.iface 137 (.agg #[.pointer (some ⟨10, 45, none⟩)]))) (ht0 : w.cell? t = some o0) :
    Calls Tryz.prog 41 #[.iface 81 (.agg #[.int .i64 c]), .iface 88 (.pointer (some t))] w fun ev w' => ev = .returned (.bool false) ∧ Below w.heap.size w w' := by
  have h6 := @run_callFunc_extern Tryz.prog 60 _ (fun args => ReflectliteValue.unpack (args.getD 0 (.tuple #[]))) Tryz.func60 (by kernel_rfl) (by kernel_rfl) (by kernel_rfl) (by kernel_rfl)
  have h7 := @run_callFunc_extern Tryz.prog 61 _ (ReflectliteValue.methodAny (ReflectliteValue.valueError "reflectlite.Value.Type" 0) (fun t _ _ _ => ReflectliteType.toType t)) Tryz.func61 (by kernel_rfl) (by kernel_rfl) (by kernel_rfl) (by kernel_rfl)
  have h8 := @run_callFunc_extern Tryz.prog 62 _ (ReflectliteValue.method (ReflectliteValue.valueError "reflectlite.Value.IsNil" 0) ReflectliteValue.isNil) Tryz.func62 (by kernel_rfl) (by kernel_rfl) (by kernel_rfl) (by kernel_rfl)
  have h27 := @run_callFunc_extern Tryz.prog 139 _ (ReflectliteType.abiMethod fun t => do pure (.int .u8 (← Rtype.kind t))) Tryz.func139 (by kernel_rfl) (by kernel_rfl) (by kernel_rfl) (by kernel_rfl)
  have h37 := @run_callFunc_extern Tryz.prog 152 _ (ReflectliteType.method ReflectliteType.elem) Tryz.func152 (by kernel_rfl) (by kernel_rfl) (by kernel_rfl) (by kernel_rfl)
  have h38 := @run_callFunc_extern Tryz.prog 153 _ (ReflectliteType.relation "Implements" ReflectliteType.implements_) Tryz.func153 (by kernel_rfl) (by kernel_rfl) (by kernel_rfl) (by kernel_rfl)
  have h10 := @run_callFunc_extern Tryz.prog 82 _ ReflectliteType.typeOf Tryz.func82 (by kernel_rfl) (by kernel_rfl) (by kernel_rfl) (by kernel_rfl)
  have h35 := @run_callFunc_extern Tryz.prog 150 _ (ReflectliteType.relation "AssignableTo" ReflectliteType.assignableTo) Tryz.func150 (by kernel_rfl) (by kernel_rfl) (by kernel_rfl) (by kernel_rfl)
  have h11 := @run_callFunc_extern Tryz.prog 83 _ (ReflectliteValue.method (ReflectliteValue.valueError "reflectlite.Value.Elem" 0) ReflectliteValue.elem) Tryz.func83 (by kernel_rfl) (by kernel_rfl) (by kernel_rfl) (by kernel_rfl)
  have h12 := @run_callFunc_extern Tryz.prog 84 _ ReflectliteValue.set Tryz.func84 (by kernel_rfl) (by kernel_rfl) (by kernel_rfl) (by kernel_rfl)
  have tO := as_typeOfE
  have mA := as_mAssign
  have aM := as_assignM
  have f6 := asl_valueT
  have f7 := asl_typeT
  have mK := as_mKind
  have mE := as_mElem
  have mI := as_mImpl
  have kT := asl_kindT
  have kE := asl_kindE
  have eT := asl_elemT
  have iE := asl_implE
  have nA := as_noAsM
  have nU := as_noUnM
  have nL := as_noListM
  have hlt : 1 < w.heap.size := block_of_cell hg
  have htl : t.block < w.heap.size := block_of_cell ht0
  have n8 := asl_isNilT ⟨w.heap.size, 0, none⟩ t ((w.alloc (.cells #[.pointer (some t)] 88)).alloc (.cells #[.pointer (some ⟨10, 88, none⟩), .pointer (some ⟨w.heap.size, 0, none⟩), .int .u64 150] 111)) (by simp)
  have hg2 : ((w.alloc (.cells #[.pointer (some t)] 88)).alloc (.cells #[.pointer (some ⟨10, 88, none⟩), .pointer (some ⟨w.heap.size, 0, none⟩), .int .u64 150] 111)).cell? ⟨1, 0, none⟩ = some (.iface 137 (.agg #[.pointer (some ⟨10, 45, none⟩)])) := cell_push _ (cell_push _ hg)
  go_enter Tryz.func41, Tryz.ntmps41
  go_wp2
  refine wp_loop_rounds 1 ?_
  rw [rounds_succ]
  go_wp2
  go_ret
  exact ⟨rfl, al (al (al (Below.refl _ _) _) _) _⟩
end Go.Proofs.YtkfcofjmjbkekaaGreatDoor
