/- Texts of this seat, joined. -/
import Derived.Lib.SmallJoins
import Derived.WalkKit
import Derived.LaidEql
import Derived.Stop.Asserts
import Derived.RowKitTokens
import Derived.Deep.QuietTactic
import Derived.Test.YthebikoahfcdaaaGreatDoorQ05
import Derived.Test.YthebikoahfcdaaaGreatDoorQ09
import Derived.Test.YthebikoahfcdaaaGreatDoorQ11
namespace Go.Proofs.YthebikoahfcdaaaGreatDoor
open Go.RowKit Go.ChangeShapes Go.WideShapes Go.ChangeAt
set_option linter.unusedVariables false

theorem list9 {α : Type} {l : List α} (h : l.length = 9) : ∃ a0 a1 a2 a3 a4 a5 a6 a7 a8, l = [a0, a1, a2, a3, a4, a5, a6, a7, a8] := by
  match l, h with
  | [a0, a1, a2, a3, a4, a5, a6, a7, a8], _ => exact ⟨a0, a1, a2, a3, a4, a5, a6, a7, a8, rfl⟩
theorem rn_open {H : Type} {enc : TypeId × Value → H} {P : Program} {w : World} {base : Nat} {held : Bool} {t e : TypeId} {fuel : Nat} {v : Value} {x : DataW H × List MemPlace}
    (ht : P.underlying t = some (.slice e)) (he : P.underlying e = some (.int .i64)) (ce : P.cellsOf e = 1)
    (h : DataW.trod enc P w base (fun _ => true) held fuel t [v] = some x) : ∃ a len cap zs, v = .slice a len cap ∧ IsRow .i64 w a len cap zs := by
  rcases open_ints ht he ce h with ⟨hcs, _⟩ | ⟨y, l, c, zs, hcs, _, hl, hm, hz, _, hcell, hwz⟩
  · simp at hcs
    exact ⟨none, 0, 0, [], hcs, .inl ⟨rfl, rfl, rfl, rfl⟩⟩
  · simp at hcs
    exact ⟨some y, l, c, _, hcs, IsRow.of_all hl hm (by simpa using hz) hcell hwz⟩
theorem bool_open {H : Type} {enc : TypeId × Value → H} {P : Program} {w : World} {base : Nat} {spare : Nat → Bool} {held : Bool} {t : TypeId} {fuel : Nat} {v : Value} {x : DataW H × List MemPlace}
    (ht : P.underlying t = some .bool) (h : DataW.trod enc P w base spare held fuel t [v] = some x) : ∃ b, v = .bool b := by
  obtain ⟨b, q, _⟩ := DataW.trod_bool ht h
  exact ⟨b, by simpa using q⟩
/-- A machine that came in. -/
structure Hin (w : World) (a0 : Option Addr) (n0 c0 : Nat) (a1 : Option Addr) (n1 c1 : Nat) (a2 : Option Addr) (n2 c2 : Nat) (a3 : Option Addr) (n3 c3 : Nat) (H : Ht) : Prop where
  regs : IsRow .i64 w a0 n0 c0 H.regs
  csr : IsRow .i64 w a1 n1 c1 H.csr
  inn : IsRow .i64 w a2 n2 c2 H.inn
  out : IsRow .i64 w a3 n3 c3 H.out
theorem Hin.stay {w w' : World} {a0 a1 a2 a3 : Option Addr} {n0 c0 n1 c1 n2 c2 n3 c3 : Nat} {H : Ht} (h : Hin w a0 n0 c0 a1 n1 c1 a2 n2 c2 a3 n3 c3 H) (b : Below w.heap.size w w') : Hin w' a0 n0 c0 a1 n1 c1 a2 n2 c2 a3 n3 c3 H :=
  ⟨h.regs.stay b, h.csr.stay b, h.inn.stay b, h.out.stay b⟩
end Go.Proofs.YthebikoahfcdaaaGreatDoor
namespace Go.Proofs.YthebikoahfcdaaaGreatDoor
open Go.RowKit Go.Extern.Stop Go.Stop Go.Extern
set_option linter.unusedVariables false

theorem as_nil (t : Value) (w : World) : Calls Tryz.prog 100 #[.nilIface, t] w fun e w' => e = .returned (.bool false) ∧ w' = w := by
  go_enter Tryz.func100, Tryz.ntmps100
  go_wp2
  go_ret
  exact ⟨rfl, rfl⟩

theorem as_valueT (t : Addr) (w : World) : (ReflectliteValue.unpack (.iface 160 (.pointer (some t)))).run Tryz.prog w
    = .ok (.agg #[.pointer (some ⟨1, 160, none⟩), .pointer (some ⟨w.heap.size, 0, none⟩), .int .u64 150]) (w.alloc (.cells #[.pointer (some t)] 160)) := by kernel_rfl
theorem as_typeT (a : Addr) (w : World) : (ReflectliteValue.methodAny (ReflectliteValue.valueError "reflectlite.Value.Type" 0) (fun t _ _ _ => ReflectliteType.toType t) #[.agg #[.pointer (some ⟨1, 160, none⟩), .pointer (some a), .int .u64 150]]).run Tryz.prog w
    = .ok (.iface 185 (.agg #[.pointer (some ⟨1, 160, none⟩)])) w := by kernel_rfl
theorem as_mKind (h : Value) (w : World) : (Go.method 333 185 (.agg #[h]) "Kind").run Tryz.prog w = .ok (145, h) w := by kernel_rfl
theorem as_mElem (h : Value) (w : World) : (Go.method 333 185 (.agg #[h]) "Elem").run Tryz.prog w = .ok (156, .agg #[h]) w := by kernel_rfl
theorem as_mImpl (h : Value) (w : World) : (Go.method 333 185 (.agg #[h]) "Implements").run Tryz.prog w = .ok (157, .agg #[h]) w := by kernel_rfl
theorem as_mAssign (h : Value) (w : World) : (Go.method 333 185 (.agg #[h]) "AssignableTo").run Tryz.prog w = .ok (154, .agg #[h]) w := by kernel_rfl
theorem as_kindT (w : World) : ((ReflectliteType.abiMethod fun t => (fun a : Nat => Value.int IntKind.u8 (a : Int)) <$> Rtype.kind t) #[.pointer (some ⟨1, 160, none⟩)]).run Tryz.prog w = .ok (.int .u8 22) w := by kernel_rfl
theorem as_kindE (w : World) : ((ReflectliteType.abiMethod fun t => (fun a : Nat => Value.int IntKind.u8 (a : Int)) <$> Rtype.kind t) #[.pointer (some ⟨1, 158, none⟩)]).run Tryz.prog w = .ok (.int .u8 25) w := by kernel_rfl
theorem as_elemT (w : World) : (ReflectliteType.method ReflectliteType.elem #[.agg #[.pointer (some ⟨1, 160, none⟩)]]).run Tryz.prog w = .ok (.iface 185 (.agg #[.pointer (some ⟨1, 158, none⟩)])) w := by kernel_rfl
theorem as_implE (w : World) : (ReflectliteType.relation "Implements" ReflectliteType.implements_ #[.agg #[.pointer (some ⟨1, 158, none⟩)], .iface 185 (.agg #[.pointer (some ⟨1, 142, none⟩)])]).run Tryz.prog w = .ok (.bool true) w := by kernel_rfl
theorem as_typeOfE (v : Value) (w : World) : (ReflectliteType.typeOf #[.iface 158 v]).run Tryz.prog w = .ok (.iface 185 (.agg #[.pointer (some ⟨1, 158, none⟩)])) w := by kernel_rfl
theorem as_assignE (w : World) : (ReflectliteType.relation "AssignableTo" ReflectliteType.assignableTo #[.agg #[.pointer (some ⟨1, 158, none⟩)], .iface 185 (.agg #[.pointer (some ⟨1, 158, none⟩)])]).run Tryz.prog w = .ok (.bool true) w := by kernel_rfl
theorem as_valueE (c : Int) (w : World) : (ReflectliteValue.unpack (.iface 158 (.agg #[.int .i64 c]))).run Tryz.prog w
    = .ok (.agg #[.pointer (some ⟨1, 158, none⟩), .pointer (some ⟨w.heap.size, 0, none⟩), .int .u64 153]) (w.alloc (.cells #[.int .i64 c] 158)) := by kernel_rfl

theorem as_rlm (z : Sem Value) (f : TypeId → Addr → Nat → Nat → Sem Value) (v : Value) :
    ReflectliteValue.method z f #[v] = (do match ← ReflectliteValue.parts v with | none => z | some (t, a, fl) => f t a fl (fl % 32)) := rfl
theorem as_partsT (a : Addr) (w : World) : (ReflectliteValue.parts (.agg #[.pointer (some ⟨1, 160, none⟩), .pointer (some a), .int .u64 150])).run Tryz.prog w = .ok (some (160, a, 150)) w := by kernel_rfl
theorem as_isNilT (a p : Addr) (W : World) (ha : W.cell? a = some (.pointer (some p))) :
    (ReflectliteValue.method (ReflectliteValue.valueError "reflectlite.Value.IsNil" 0) ReflectliteValue.isNil #[.agg #[.pointer (some ⟨1, 160, none⟩), .pointer (some a), .int .u64 150]]).run Tryz.prog W = .ok (.bool false) W := by
  rw [as_rlm]
  simp only [Sem.run_bind, as_partsT, Result.andThen]
  simp [ReflectliteValue.isNil, loadVar, isAgg, underlying, Tryz.underlying160, ha, Result.andThen]
theorem as_elemOfT (w : World) : (Rtype.elem? 160).run Tryz.prog w = .ok (some 158) w := by kernel_rfl
theorem as_mkE (p : Addr) (w : World) : (ReflectliteValue.mk 158 p ReflectliteValue.flagAddr).run Tryz.prog w = .ok (.agg #[.pointer (some ⟨1, 158, none⟩), .pointer (some p), .int .u64 409]) w := by kernel_rfl
theorem as_elemV (a p : Addr) (W : World) (ha : W.cell? a = some (.pointer (some p))) :
    (ReflectliteValue.method (ReflectliteValue.valueError "reflectlite.Value.Elem" 0) ReflectliteValue.elem #[.agg #[.pointer (some ⟨1, 160, none⟩), .pointer (some a), .int .u64 150]]).run Tryz.prog W
      = .ok (.agg #[.pointer (some ⟨1, 158, none⟩), .pointer (some p), .int .u64 409]) W := by
  rw [as_rlm]
  simp only [Sem.run_bind, as_partsT, Result.andThen]
  simp [ReflectliteValue.elem, loadVar, isAgg, underlying, Tryz.underlying160, ha, Result.andThen, as_elemOfT, as_mkE]
theorem as_rls (v x : Value) : ReflectliteValue.set #[v, x] = (do
    let (some (dst, a, fl), some (src, b, _)) := (← ReflectliteValue.parts v, ← ReflectliteValue.parts x)
      | unsupported (.noEntry "extern/(internal/reflectlite.Value).Set.zeroValue")
    if fl / ReflectliteValue.flagAddr % 2 == 0 then unsupported (.noEntry "extern/(internal/reflectlite.Value).Set.unaddressable")
    let val ← loadVar src b
    if ← Rtype.directlyAssignable dst src then storeVar dst a val
    else if ← Rtype.implements dst src then
      if (← Rtype.kind src) == 20 then
        match val with
        | .nilIface => unsupported (.noEntry "extern/reflectlite: a nil value of one interface type handed on as a value of another")
        | _ => storeVar dst a val
      else storeVar dst a (.iface src val)
    else panicString ("reflectlite.Set: value of type " ++ (← Rtype.spelt src) ++ " is not assignable to type " ++ (← Rtype.spelt dst))
    pure (.tuple #[])) := rfl
theorem as_partsEa (a : Addr) (w : World) : (ReflectliteValue.parts (.agg #[.pointer (some ⟨1, 158, none⟩), .pointer (some a), .int .u64 409])).run Tryz.prog w = .ok (some (158, a, 409)) w := by kernel_rfl
theorem as_partsE (a : Addr) (w : World) : (ReflectliteValue.parts (.agg #[.pointer (some ⟨1, 158, none⟩), .pointer (some a), .int .u64 153])).run Tryz.prog w = .ok (some (158, a, 153)) w := by kernel_rfl
theorem as_direct (w : World) : (Rtype.directlyAssignable 158 158).run Tryz.prog w = .ok true w := by kernel_rfl
theorem as_loadE (b : Addr) (c : Int) (W : World) (hb : W.cell? b = some (.int .i64 c)) : (loadVar 158 b).run Tryz.prog W = .ok (.agg #[.int .i64 c]) W := by
  have e : b.add 0 = b := by cases b; rfl
  simp [loadVar, isAgg, underlying, Tryz.underlying158, Result.andThen, loadCells, loadCellsFrom, e, hb]
theorem as_setE (ta b : Addr) (c : Int) (old : Value) (W : World) (hb : W.cell? b = some (.int .i64 c)) (ht : W.cell? ta = some old) (hf : W.frozen? ta = false) :
    (ReflectliteValue.set #[.agg #[.pointer (some ⟨1, 158, none⟩), .pointer (some ta), .int .u64 409], .agg #[.pointer (some ⟨1, 158, none⟩), .pointer (some b), .int .u64 153]]).run Tryz.prog W
      = .ok (.tuple #[]) (W.setCell ta (.int .i64 c)) := by
  have e : ta.add 0 = ta := by cases ta; rfl
  rw [as_rls]
  simp only [Sem.run_bind, as_partsEa, as_partsE, Result.andThen]
  simp [ReflectliteValue.flagAddr, as_loadE b c W hb, Result.andThen, as_direct, storeVar, Value.cells, storeCells, e]
  rw [run_store Tryz.prog W ta _ _ (by rfl)]
  simp [ht, hf]

set_option maxHeartbeats 4000000 in
theorem as_hit (c : Int) (t : Addr) (old : Value) (w : World) (hg : w.cell? ⟨0, 0, none⟩ = some (.iface 185 (.agg #[.pointer (some ⟨1, 142, none⟩)]))) (ht0 : w.cell? t = some old) (hf0 : w.frozen? t = false) :
    Calls Tryz.prog 100 #[.iface 158 (.agg #[.int .i64 c]), .iface 160 (.pointer (some t))] w fun ev w' => ev = .returned (.bool true) ∧ ∃ w1, Below w.heap.size w w1 ∧ w' = w1.setCell t (.int .i64 c) := by
  have h6 := @run_callFunc_extern Tryz.prog 110 _ (fun args => ReflectliteValue.unpack (args.getD 0 (.tuple #[]))) Tryz.func110 (by kernel_rfl) (by kernel_rfl) (by kernel_rfl) (by kernel_rfl)
  have h7 := @run_callFunc_extern Tryz.prog 111 _ (ReflectliteValue.methodAny (ReflectliteValue.valueError "reflectlite.Value.Type" 0) (fun t _ _ _ => ReflectliteType.toType t)) Tryz.func111 (by kernel_rfl) (by kernel_rfl) (by kernel_rfl) (by kernel_rfl)
  have h8 := @run_callFunc_extern Tryz.prog 112 _ (ReflectliteValue.method (ReflectliteValue.valueError "reflectlite.Value.IsNil" 0) ReflectliteValue.isNil) Tryz.func112 (by kernel_rfl) (by kernel_rfl) (by kernel_rfl) (by kernel_rfl)
  have h27 := @run_callFunc_extern Tryz.prog 145 _ (ReflectliteType.abiMethod fun t => do pure (.int .u8 (← Rtype.kind t))) Tryz.func145 (by kernel_rfl) (by kernel_rfl) (by kernel_rfl) (by kernel_rfl)
  have h37 := @run_callFunc_extern Tryz.prog 156 _ (ReflectliteType.method ReflectliteType.elem) Tryz.func156 (by kernel_rfl) (by kernel_rfl) (by kernel_rfl) (by kernel_rfl)
  have h38 := @run_callFunc_extern Tryz.prog 157 _ (ReflectliteType.relation "Implements" ReflectliteType.implements_) Tryz.func157 (by kernel_rfl) (by kernel_rfl) (by kernel_rfl) (by kernel_rfl)
  have h10 := @run_callFunc_extern Tryz.prog 121 _ ReflectliteType.typeOf Tryz.func121 (by kernel_rfl) (by kernel_rfl) (by kernel_rfl) (by kernel_rfl)
  have h35 := @run_callFunc_extern Tryz.prog 154 _ (ReflectliteType.relation "AssignableTo" ReflectliteType.assignableTo) Tryz.func154 (by kernel_rfl) (by kernel_rfl) (by kernel_rfl) (by kernel_rfl)
  have h11 := @run_callFunc_extern Tryz.prog 122 _ (ReflectliteValue.method (ReflectliteValue.valueError "reflectlite.Value.Elem" 0) ReflectliteValue.elem) Tryz.func122 (by kernel_rfl) (by kernel_rfl) (by kernel_rfl) (by kernel_rfl)
  have h12 := @run_callFunc_extern Tryz.prog 123 _ ReflectliteValue.set Tryz.func123 (by kernel_rfl) (by kernel_rfl) (by kernel_rfl) (by kernel_rfl)
  have tO := as_typeOfE
  have mA := as_mAssign
  have aE := as_assignE
  have vE := as_valueE
  have f6 := as_valueT
  have f7 := as_typeT
  have mK := as_mKind
  have mE := as_mElem
  have mI := as_mImpl
  have kT := as_kindT
  have kE := as_kindE
  have eT := as_elemT
  have iE := as_implE
  have hlt : 0 < w.heap.size := block_of_cell hg
  have htl : t.block < w.heap.size := block_of_cell ht0
  have n8 := as_isNilT ⟨w.heap.size, 0, none⟩ t ((w.alloc (.cells #[.pointer (some t)] 160)).alloc (.cells #[.pointer (some ⟨1, 160, none⟩), .pointer (some ⟨w.heap.size, 0, none⟩), .int .u64 150] 168)) (by simp)
  have hg2 : ((w.alloc (.cells #[.pointer (some t)] 160)).alloc (.cells #[.pointer (some ⟨1, 160, none⟩), .pointer (some ⟨w.heap.size, 0, none⟩), .int .u64 150] 168)).cell? ⟨0, 0, none⟩ = some (.iface 185 (.agg #[.pointer (some ⟨1, 142, none⟩)])) := cell_push _ (cell_push _ hg)
  have el := as_elemV ⟨w.heap.size, 0, none⟩ t (((w.alloc (.cells #[.pointer (some t)] 160)).alloc (.cells #[.pointer (some ⟨1, 160, none⟩), .pointer (some ⟨w.heap.size, 0, none⟩), .int .u64 150] 168)).alloc (.cells #[.pointer (some ⟨1, 160, none⟩), .pointer (some ⟨w.heap.size, 0, none⟩), .int .u64 150] 168)) (by rw [World.cell?_alloc_lt _ _ ⟨w.heap.size, 0, none⟩ (by simp; omega)]; simp)
  have st := as_setE t ⟨w.heap.size + 1 + 1 + 1, 0, none⟩ c old ((((w.alloc (.cells #[.pointer (some t)] 160)).alloc (.cells #[.pointer (some ⟨1, 160, none⟩), .pointer (some ⟨w.heap.size, 0, none⟩), .int .u64 150] 168)).alloc (.cells #[.pointer (some ⟨1, 160, none⟩), .pointer (some ⟨w.heap.size, 0, none⟩), .int .u64 150] 168)).alloc (.cells #[.int .i64 c] 158))
    (by rw [World.cell?_alloc_at _ _ _ _ (by simp)]; rfl)
    (cell_push _ (cell_push _ (cell_push _ (cell_push _ ht0))))
    (by rw [World.frozen?_alloc_old _ _ t (by simp; omega), World.frozen?_alloc_old _ _ t (by simp; omega), World.frozen?_alloc_old _ _ t (by simp; omega), World.frozen?_alloc_old _ _ t (Nat.ne_of_lt htl)]; exact hf0)
  go_enter Tryz.func100, Tryz.ntmps100
  go_wp2
  refine wp_loop_rounds 1 ?_
  rw [rounds_succ]
  go_wp2
  go_ret
  exact ⟨rfl, _, al (al (al (al (Below.refl _ _) _) _) _) _, rfl⟩

end Go.Proofs.YthebikoahfcdaaaGreatDoor
namespace Go.Proofs.YthebikoahfcdaaaGreatDoor
open Go.RowKit
set_option linter.unusedVariables false

/-- A world that keeps what was there in W. -/
structure BW (W : World) where
  w : World
  h : Below W.heap.size W w

theorem region_bw {id : Nat} {Q : Exit → Act → World → Prop} {a : Act} {W : World} {l : List Oper} (hB : Region.lexB .any l.toArray = true)
    (h : wpQuiet Tryz.prog l.toArray (fun w' => ∃ p : BW W, w' = p.w) (fun a' => ∀ w', (∃ p : BW W, w' = p.w) → Q .normal a' w') l a) : (Code.region id l.toArray true).wp Tryz.prog Q a W :=
  wp_region_quiet (C := fun w' => ∃ p : BW W, w' = p.w) (by kernel_rfl) hB ⟨⟨{ W with drawn := W.drawn + 1 }, (Below.refl _ _).drew⟩, rfl⟩ (by simpa using h)
theorem calls_bw {f : FuncId} {args : Array Value} {W : World} {p : BW W} {v : Value}
    (h : Calls Tryz.prog f args p.w fun e w' => e = .returned v ∧ Below p.w.heap.size p.w w') : Calls Tryz.prog f args p.w fun e w'' => e = .returned v ∧ ∃ q : BW W, w'' = q.w :=
  h.mono fun _ w' ⟨he, hb⟩ => ⟨he, ⟨w', on p.h hb⟩, rfl⟩
theorem BW.cell {W : World} {a : Addr} {v : Value} (h : W.cell? a = some v) (p : BW W) : p.w.cell? a = some v := cell_keep p.h h
end Go.Proofs.YthebikoahfcdaaaGreatDoor
namespace Go.Proofs.YthebikoahfcdaaaGreatDoor
open Go.RowKit
set_option linter.unusedVariables false

/-- How great a machine that came in may be. -/
structure Hs (n0 n1 n2 n3 : Nat) : Prop where
  regs : n0 ≤ 1048576
  csr : n1 ≤ 1048576
  inn : n2 ≤ 1048576
  out : n3 ≤ 1048576

/-- A machine whose four lists lie in blocks of their own, at base or behind it (or are nil). -/
structure Hm (w : World) (base : Nat) (r c i o : Value) (H : Ht) : Prop where
  r : Nums w base r H.regs
  c : Nums w base c H.csr
  i : Nums w base i H.inn
  o : Nums w base o H.out
theorem Hm.keep {w w' : World} {base : Nat} {r c i o : Value} {H : Ht} (h : Hm w base r c i o H) (b : Below w.heap.size w w') : Hm w' base r c i o H := ⟨h.r.keep b, h.c.keep b, h.i.keep b, h.o.keep b⟩
theorem Hm.mono {w : World} {base base' : Nat} {r c i o : Value} {H : Ht} (h : Hm w base r c i o H) (hb : base' ≤ base) : Hm w base' r c i o H := ⟨h.r.mono hb, h.c.mono hb, h.i.mono hb, h.o.mono hb⟩
theorem Hm.ho {w w' : World} {base : Nat} {r c i o : Value} {H : Ht} (h : Hm w base r c i o H) (k : Ho base w w') : Hm w' base r c i o H := ⟨h.r.ho k, h.c.ho k, h.i.ho k, h.o.ho k⟩
/-- Two lists that no block holds both of. -/
def Apt (a b : Value) : Prop := a.ownBlock = none ∨ a.ownBlock ≠ b.ownBlock
structure Ha (r c i o : Value) : Prop where
  rc : Apt r c
  ri : Apt r i
  ro : Apt r o
  ci : Apt c i
  co : Apt c o
  io : Apt i o
theorem Apt.swap {a b : Value} (h : Apt a b) : Apt b a := by
  rcases h with h | h
  · by_cases hb : b.ownBlock = none
    · exact .inl hb
    · exact .inr (by rw [h]; exact hb)
  · exact .inr (Ne.symm h)

set_option maxRecDepth 20000 in
set_option maxHeartbeats 4000000 in
theorem eq_hart (r c i o r' c' i' o' : Value) (H : Ht) (b b' : Nat) (w : World) (h : Hm w b r c i o H) (k : Hm w b' r' c' i' o' H) :
    Calls Tryz.prog 64 #[.agg #[r, .int .i64 H.pc, c, .bool H.halted, .bool H.waiting, .bool H.rung, .int .i64 H.done, i, o], .agg #[r', .int .i64 H.pc, c', .bool H.halted, .bool H.waiting, .bool H.rung, .int .i64 H.done, i', o']] w fun e w' => e = .returned (.bool true) ∧ Below w.heap.size w w' := by
  obtain ⟨a0, k0, rfl, _⟩ := h.r.shape
  obtain ⟨a1, k1, rfl, _⟩ := h.c.shape
  obtain ⟨a2, k2, rfl, _⟩ := h.i.shape
  obtain ⟨a3, k3, rfl, _⟩ := h.o.shape
  obtain ⟨x0, l0, rfl, _⟩ := k.r.shape
  obtain ⟨x1, l1, rfl, _⟩ := k.c.shape
  obtain ⟨x2, l2, rfl, _⟩ := k.i.shape
  obtain ⟨x3, l3, rfl, _⟩ := k.o.shape
  have HM : Hid (Hm w b _ _ _ _ H) := h
  have KM : Hid (Hm w b' _ _ _ _ H) := k
  clear h k
  generalize H.regs.length = n0 at *
  generalize H.csr.length = n1 at *
  generalize H.inn.length = n2 at *
  generalize H.out.length = n3 at *
  generalize hW : (w.alloc (.cells #[.slice a0 n0 k0, .int .i64 H.pc, .slice a1 n1 k1, .bool H.halted, .bool H.waiting, .bool H.rung, .int .i64 H.done, .slice a2 n2 k2, .slice a3 n3 k3] 34)).alloc (.cells #[.slice x0 n0 l0, .int .i64 H.pc, .slice x1 n1 l1, .bool H.halted, .bool H.waiting, .bool H.rung, .int .i64 H.done, .slice x2 n2 l2, .slice x3 n3 l3] 34) = W
  have B0 : Hid (Below w.heap.size w W) := by show Below _ _ _; rw [← hW]; exact al (al (Below.refl _ _) _) _
  obtain ⟨s, hS⟩ : ∃ s, w.heap.size = s := ⟨_, rfl⟩
  have VA : Hid (Vb W s #[.slice a0 n0 k0, .int .i64 H.pc, .slice a1 n1 k1, .bool H.halted, .bool H.waiting, .bool H.rung, .int .i64 H.done, .slice a2 n2 k2, .slice a3 n3 k3] 34) := by
    show Vb _ _ _ _
    rw [← hW, ← hS]
    exact (Vb.new _ _ _).push _
  have VB : Hid (Vb W (s + 1) #[.slice x0 n0 l0, .int .i64 H.pc, .slice x1 n1 l1, .bool H.halted, .bool H.waiting, .bool H.rung, .int .i64 H.done, .slice x2 n2 l2, .slice x3 n3 l3] 34) := by
    show Vb _ _ _ _
    have z1 : s + 1 = (w.alloc (.cells #[.slice a0 n0 k0, .int .i64 H.pc, .slice a1 n1 k1, .bool H.halted, .bool H.waiting, .bool H.rung, .int .i64 H.done, .slice a2 n2 k2, .slice a3 n3 k3] 34)).heap.size := by rw [← hS]; simp
    rw [← hW, z1]
    exact Vb.new _ _ _
  have q0 := VA.out.cell 0 rfl
  have p0 := VB.out.cell 0 rfl
  go_enter Tryz.func64, Tryz.ntmps64
  go_wp2_with fail
  clear hW hS q0 p0
  refine (eq_nums _ _ _ _ _ _ (HM.out.keep B0.out).r (KM.out.keep B0.out).r).mono ?_
  rintro e w1 ⟨rfl, b1⟩
  have B1 : Hid (Below w.heap.size w w1) := on B0.out b1
  have VA1 : Hid (Vb w1 _ _ _) := VA.out.keep b1
  have VB1 : Hid (Vb w1 _ _ _) := VB.out.keep b1
  have q1 := VA1.out.cell 1 rfl
  have p1 := VB1.out.cell 1 rfl
  have q2 := VA1.out.cell 2 rfl
  have p2 := VB1.out.cell 2 rfl
  clear b1 VA VB B0
  go_wp2_with fail
  clear q1 p1 q2 p2
  refine (eq_nums _ _ _ _ _ _ (HM.out.keep B1.out).c (KM.out.keep B1.out).c).mono ?_
  rintro e w2 ⟨rfl, b1⟩
  have B2 : Hid (Below w.heap.size w w2) := on B1.out b1
  have VA2 : Hid (Vb w2 _ _ _) := VA1.out.keep b1
  have VB2 : Hid (Vb w2 _ _ _) := VB1.out.keep b1
  have q3 := VA2.out.cell 3 rfl
  have p3 := VB2.out.cell 3 rfl
  have q4 := VA2.out.cell 4 rfl
  have p4 := VB2.out.cell 4 rfl
  have q5 := VA2.out.cell 5 rfl
  have p5 := VB2.out.cell 5 rfl
  have q6 := VA2.out.cell 6 rfl
  have p6 := VB2.out.cell 6 rfl
  have q7 := VA2.out.cell 7 rfl
  have p7 := VB2.out.cell 7 rfl
  clear b1 VA1 VB1 B1
  go_wp2_with fail
  clear q3 p3 q4 p4 q5 p5 q6 p6 q7 p7
  refine (eq_nums _ _ _ _ _ _ (HM.out.keep B2.out).i (KM.out.keep B2.out).i).mono ?_
  rintro e w3 ⟨rfl, b1⟩
  have B3 : Hid (Below w.heap.size w w3) := on B2.out b1
  have q8 := (VA2.out.keep b1).cell 8 rfl
  have p8 := (VB2.out.keep b1).cell 8 rfl
  clear b1 VA2 VB2 B2
  go_wp2_with fail
  refine (eq_nums _ _ _ _ _ _ (HM.out.keep B3.out).o (KM.out.keep B3.out).o).mono ?_
  rintro e w4 ⟨rfl, b1⟩
  go_wp2_with fail
  go_ret
  exact ⟨rfl, on B3.out b1⟩
end Go.Proofs.YthebikoahfcdaaaGreatDoor
namespace Go.Proofs.YthebikoahfcdaaaGreatDoor
open Go.RowKit
set_option linter.unusedVariables false

theorem code_nil (w : World) : Calls Tryz.prog 85 #[.nilIface] w fun e w' => e = .returned (.int .i64 0) ∧ Below w.heap.size w w' := by
  go_enter Tryz.func85, Tryz.ntmps85
  go_wp2_with (go_at_call 100; refine (as_nil _ _).mono ?_; rintro e w' ⟨rfl, rfl⟩)
  go_ret
  exact ⟨rfl, al (Below.refl _ _) _⟩
set_option maxHeartbeats 1000000 in
theorem code_hit (c : Int) (w : World) (hg : w.cell? ⟨0, 0, none⟩ = some (.iface 185 (.agg #[.pointer (some ⟨1, 142, none⟩)]))) :
    Calls Tryz.prog 85 #[.iface 158 (.agg #[.int .i64 c])] w fun e w' => e = .returned (.int .i64 c) ∧ Below w.heap.size w w' := by
  have hgA : Hid (_ = _) := cell_push (.cells #[.int .i64 0] 158) hg
  have htA : Hid ((w.alloc (.cells #[.int .i64 0] 158)).cell? ⟨w.heap.size, 0, none⟩ = some (.int .i64 0)) := cell_new rfl
  have hfA : Hid ((w.alloc (.cells #[.int .i64 0] 158)).frozen? ⟨w.heap.size, 0, none⟩ = false) := by show _ = _; simp
  clear hg
  have AS : Calls Tryz.prog 100 #[.iface 158 (.agg #[.int .i64 c]), .iface 160 (.pointer (some ⟨w.heap.size, 0, none⟩))] (w.alloc (.cells #[.int .i64 0] 158)) fun e w' => e = .returned (.bool true) ∧ w'.cell? ⟨w.heap.size, 0, none⟩ = some (.int .i64 c) ∧ Below w.heap.size w w' := (as_hit c ⟨w.heap.size, 0, none⟩ (.int .i64 0) (w.alloc (.cells #[.int .i64 0] 158)) hgA.out htA.out hfA.out).mono (by
    rintro e w' ⟨h1, w1, b1, rfl⟩
    exact ⟨h1, World.cell?_setCell_same _ _ _ (cell_keep b1 htA.out), (on (al (Below.refl _ _) _) b1).setCell (by simp) _⟩)
  go_enter Tryz.func85, Tryz.ntmps85
  go_wp2_with (go_at_call 100; refine AS.mono ?_; rintro e w' ⟨rfl, k1, B1⟩)
  go_ret
  exact ⟨rfl, B1⟩
end Go.Proofs.YthebikoahfcdaaaGreatDoor
namespace Go.Proofs.YthebikoahfcdaaaGreatDoor
open Go.RowKit
set_option linter.unusedVariables false

theorem sz_nums (a : Option Addr) (len cap : Nat) (k : Int) (w : World) (h : len ≤ 9223372036854775807) (h1 : 0 ≤ k) (h2 : k ≤ 1048576) :
    Calls Tryz.prog 14 #[.slice a len cap, .int .i64 k] w fun e w' => e = .returned (.int .i64 (if k - len < 0 then -1 else k - len)) ∧ w' = w := by
  have h3 : (len : Int) ≤ 9223372036854775807 := by omega
  by_cases hk : k - len < 0
  · rw [if_pos hk]
    go_enter Tryz.func14, Tryz.ntmps14
    go_wp2_with fail
    go_ret
    exact ⟨rfl, rfl⟩
  · rw [if_neg hk]
    go_enter Tryz.func14, Tryz.ntmps14
    go_wp2_with fail
    go_ret
    exact ⟨rfl, rfl⟩
theorem IsRow.lens {k : IntKind} {w : World} {a : Option Addr} {len cap : Nat} {zs : List Int} (h : IsRow k w a len cap zs) : len = zs.length ∧ len ≤ 9223372036854775807 := by
  rcases h with ⟨_, h1, _, rfl⟩ | ⟨x, _, h1, h2, h3, _⟩
  · exact ⟨by simpa using h1, by omega⟩
  · exact ⟨h3.symm, by unfold maxLen at h2; omega⟩
theorem IsSS.at {w : World} {a : Option Addr} {len cap : Nat} {oss : List (List Int)} (h : IsSS w a len cap oss) (i : Nat) (hi : i < len) : ∃ x b l c, a = some x ∧ w.cell? (x.add i) = some (.slice b l c) ∧ IsRow .i64 w b l c (oss.getD i []) := by
  rcases h with ⟨_, h1, _, _⟩ | ⟨x, rfl, h1, h2, h3, h4⟩
  · omega
  · obtain ⟨b, l, c, k1, k2⟩ := h4 i hi
    exact ⟨x, b, l, c, rfl, k1, k2⟩

set_option maxHeartbeats 1000000 in
theorem sz_ss (a : Option Addr) (n c : Nat) (k : Int) (oss : List (List Int)) (w : World) (h : IsSS w a n c oss) (h1 : 0 ≤ k) (h2 : k ≤ 1048576) :
    Calls Tryz.prog 36 #[.slice a n c, .int .i64 k] w fun e w' => (∃ r : Int, e = .returned (.int .i64 r) ∧ r ≤ 1048576 ∧ (0 ≤ r → n ≤ 1048576 ∧ ∀ i, i < n → (oss.getD i []).length ≤ 1048576)) ∧ w' = w := by
  have HR : Hid (IsSS w a n c oss) := h
  have hmax : (n : Int) ≤ 9223372036854775807 := by have := h.cap; unfold maxLen at this; omega
  clear h
  by_cases hk : k - n < 0
  · go_enter Tryz.func36, Tryz.ntmps36
    go_wp2_with fail
    go_ret
    exact ⟨⟨-1, rfl, by omega, fun h => by omega⟩, rfl⟩
  have HN : Hid (n ≤ 1048576) := by show _ ≤ _; omega
  have hb0 : 0 ≤ k - n := by omega
  have hb1 : k - n ≤ 1048576 := by omega
  go_enter Tryz.func36, Tryz.ntmps36
  go_wp2_with fail
  generalize k - (n : Int) = r0 at *
  clear hk h1 h2
  go_loop [1, 5] (fun u c => ∃ (j : Nat) (r : Int), j ≤ n ∧ c = .int .i64 j ∧ u = .int .i64 r ∧ 0 ≤ r ∧ r ≤ 1048576 ∧ Hid (∀ i, i < j → (oss.getD i []).length ≤ 1048576)) (fun _ c => n - (intOf c).toNat)
  case atStart => exact ⟨0, r0, Nat.zero_le _, rfl, rfl, hb0, hb1, fun i hi => absurd hi (Nat.not_lt_zero _)⟩
  case round =>
    obtain ⟨j, r, hj, rfl, rfl, hr0, hr1, hI⟩ := hrel
    by_cases hlt : j < n
    · obtain ⟨x, b, l, c, rfl, k1, k2⟩ := HR.out.at j hlt
      have HLL : Hid (l = (oss.getD j []).length) := k2.lens.1
      have HLM : Hid (l ≤ 9223372036854775807) := k2.lens.2
      have hJ : (j : Int) < (n : Int) := by omega
      have HLT : Hid (j < n) := hlt
      clear k2 hlt
      by_cases hz : r - l < 0
      · go_wp2_with (go_at_call 14; refine (sz_nums _ _ _ _ _ HLM.out hr0 hr1).mono ?_; rintro e w ⟨rfl, rfl⟩; rw [if_pos hz])
        go_ret
        exact ⟨⟨-1, rfl, by omega, fun h => by omega⟩, rfl⟩
      · have e0 : 0 ≤ r - l := by omega
        have e1 : r - l ≤ 1048576 := by omega
        have HL2 : Hid (l ≤ 1048576) := by show _ ≤ _; omega
        go_wp2_with (go_at_call 14; refine (sz_nums _ _ _ _ _ HLM.out hr0 hr1).mono ?_; rintro e w ⟨rfl, rfl⟩; rw [if_neg hz])
        go_round
        case rel =>
          refine ⟨j + 1, r - l, by have := HLT.out; omega, by go_num, rfl, e0, e1, fun i hi => ?_⟩
          rcases Nat.lt_or_ge i j with h | h
          · exact hI.out i h
          · obtain rfl : i = j := by omega
            have := HL2.out; have := HLL.out; omega
        case measure => have := HLT.out; simp [intOf]; omega
    · have hJ : ¬ (j : Int) < (n : Int) := by omega
      have HJ : Hid (j = n) := by show _ = _; omega
      clear hlt
      go_wp2_with fail
      go_ret
      exact ⟨⟨r, rfl, hr1, fun _ => ⟨HN.out, fun i hi => hI.out i (by have := HJ.out; omega)⟩⟩, rfl⟩

/-- A slice of slices that was made: its row, and each of its slices, at base or behind it. -/
structure SSo (w : World) (base g n : Nat) (oss : List (List Int)) : Prop where
  len : n = oss.length
  small : n ≤ 1048576
  low : base ≤ g
  row : ∀ i, i < n → ∃ b l c, w.cell? ⟨g, i, none⟩ = some (.slice b l c) ∧ Nums w base (.slice b l c) (oss.getD i [])
theorem SSo.keep {w w' : World} {base g n : Nat} {oss : List (List Int)} (h : SSo w base g n oss) (b : Below w.heap.size w w') : SSo w' base g n oss :=
  ⟨h.len, h.small, h.low, fun i hi => by
    obtain ⟨x, l, c, k1, k2⟩ := h.row i hi
    exact ⟨x, l, c, cell_keep b k1, k2.keep b⟩⟩
theorem SSo.read {w : World} {base g n : Nat} {oss : List (List Int)} (h : SSo w base g n oss) : IsS2 w (some ⟨g, 0, none⟩) n n oss :=
  .inr ⟨⟨g, 0, none⟩, rfl, Nat.le_refl _, by have := h.small; unfold maxLen; omega, h.len.symm, fun i hi => by
    obtain ⟨x, l, c, k1, k2⟩ := h.row i hi
    exact ⟨x, l, c, by simpa [Addr.add_lit] using k1, k2.read⟩⟩

theorem info_sl : (Tryz.prog.info? 28).map (fun i => (i.zero, i.size, i.bytes)) = some (some (.slice none 0 0), 1, 24) := by kernel_rfl

set_option maxHeartbeats 2000000 in
theorem to_ss (a : Option Addr) (len cap : Nat) (oss : List (List Int)) (w : World) (h : IsSS w a len cap oss) (hl : len ≤ 1048576) (hs : ∀ i, i < len → (oss.getD i []).length ≤ 1048576) :
    Calls Tryz.prog 49 #[.slice a len cap] w fun e w' => ∃ g, e = .returned (.slice (some ⟨g, 0, none⟩) len len) ∧ SSo w' w.heap.size g len oss ∧ Below w.heap.size w w' := by
  obtain ⟨i, hi, hz0, hz1, hz2⟩ := info_parts info_sl
  have hlen : Hid (len = oss.length) := h.len
  have HR : Hid (IsSS w a len cap oss) := h
  have HS : Hid (∀ i, i < len → (oss.getD i []).length ≤ 1048576) := hs
  have HSM : Hid (len ≤ 1048576) := hl
  clear h hs
  go_enter Tryz.func49, Tryz.ntmps49
  go_wp2_with (at_make; refine wpList_make_full _ rfl _ _ 22 rfl w.heap.size 28 i _ 1 Tryz.underlying22 hi hz0 hz1 _ _ _ _ len rfl rfl rfl rfl (by rw [hz2]; omega) (by unfold maxLen; omega) (Nat.le_refl _) ?_; intro w1 hown hgrow)
  have N1 : Hid (w1.ownsRow w.heap.size 28 1 (.slice (some ⟨w.heap.size, 0, none⟩) len len) len (List.replicate len (.slice none 0 0))) := by
    show w1.ownsRow _ _ _ _ _ _
    rw [Nat.mul_one, show (Value.slice none 0 0).cells = #[.slice none 0 0] from rfl, toList_madeCells_one] at hown
    exact hown
  have B1 : Hid (Below w.heap.size w w1) := (Below.refl _ _).grown hgrow (Nat.le_refl _) (by simp)
  clear hown hgrow hi hz0 hz1 hz2
  go_wp2_with fail
  go_loopw [4] (fun c wr => ∃ (j : Nat) (vs : List Value), j ≤ len ∧ c = .int .i64 j ∧ wr.ownsRow w.heap.size 28 1 (.slice (some ⟨w.heap.size, 0, none⟩) len len) len vs ∧ Below w.heap.size w wr ∧
    (∀ i, i < j → ∃ b l c, vs[i]? = some (.slice b l c) ∧ Nums wr (w.heap.size + 1) (.slice b l c) (oss.getD i []))) (fun c _ => len - (intOf c).toNat)
  case atStart => exact ⟨0, _, Nat.zero_le _, rfl, N1.out, B1.out, fun i hi => absurd hi (Nat.not_lt_zero _)⟩
  case round =>
    obtain ⟨j, vs, hj, rfl, hN, hB, hV⟩ := hrel
    have HN : Hid (wr.ownsRow _ _ _ _ _ vs) := hN
    have HB : Hid (Below _ w wr) := hB
    have HV : Hid (∀ i, i < j → ∃ b l c, vs[i]? = some (.slice b l c) ∧ Nums wr (w.heap.size + 1) (.slice b l c) (oss.getD i [])) := hV
    have hl2 : (len : Int) ≤ 1048576 := by omega
    have hvl : vs.length = len := by have := hN.1; simpa using this
    by_cases hlt : j < len
    · obtain ⟨x, b, l, c, rfl, k1, k2⟩ := HR.out.at j hlt
      have k1 := cell_keep hB k1
      have HK : Hid (IsRow .i64 wr b l c _) := k2.stay hB
      have HL5 : Hid (l ≤ 1048576) := by have := k2.lens.1; have := HS.out j hlt; show _ ≤ _; omega
      have c0 : wr.cell? ⟨w.heap.size, j, none⟩ = some (vs.getD j (.slice none 0 0)) := by
        have := World.ownsRow.cellAt hN j (by omega)
        rw [this, List.getElem?_eq_getElem (by omega), List.getD, List.getElem?_eq_getElem (by omega)]
        rfl
      have f0 : wr.frozen? ⟨w.heap.size, j, none⟩ = false := World.ownsRow.frozenAt hN j
      have gb : w.heap.size < wr.heap.size := block_of_cell c0
      have hI : (j : Int) < (len : Int) := by omega
      have HL : Hid (j < len) := hlt
      have HVL : Hid (vs.length = len) := hvl
      generalize vs.getD j (.slice none 0 0) = old at *
      clear hN hB hV hlt k2 hvl
      go_wp2_with fail
      refine (to_nums _ _ _ _ _ HK.out HL5.out).mono ?_
      rintro e w5 ⟨g5, rfl, n5, b5⟩
      have c0 := cell_keep b5 c0
      have f0 : w5.frozen? ⟨w.heap.size, j, none⟩ = false := by rw [b5.frozen (p := ⟨w.heap.size, j, none⟩) gb]; exact f0
      have HN5 : Hid (w5.ownsRow w.heap.size 28 1 (.slice (some ⟨w.heap.size, 0, none⟩) len len) len vs) := World.ownsRow.kept HN.out (below_grown b5 none) (by cases (Value.slice (some ⟨w.heap.size, 0, none⟩) len len).ownBlock <;> simp)
      have HB5 : Hid (Below _ w w5) := on HB.out b5
      have HV5 : Hid (∀ i, i < j → ∃ b l c, vs[i]? = some (.slice b l c) ∧ Nums w5 (w.heap.size + 1) (.slice b l c) (oss.getD i [])) := fun i hi => by
        obtain ⟨b, l, c, e1, e2⟩ := HV.out i hi
        exact ⟨b, l, c, e1, e2.keep b5⟩
      have n5' : Hid (Nums w5 (w.heap.size + 1) (.slice (some ⟨g5, 0, none⟩) l l) (oss.getD j [])) := n5.mono (by omega)
      clear b5 n5
      go_wp2_with fail
      go_roundw
      case rel =>
        have ne : ∀ {v : Value} {zs : List Int}, Nums w5 (w.heap.size + 1) v zs → v.ownBlock ≠ some w.heap.size := fun hn e => by have := (hn.lt _ e).1; omega
        refine ⟨j + 1, vs.set j (.slice (some ⟨g5, 0, none⟩) l l), by have := HL.out; omega, by go_num, (World.ownsRow.stored HN5.out j _).1, HB5.out.setCell (by simp) _, fun i hi => ?_⟩
        by_cases e : i = j
        · subst e
          exact ⟨_, _, _, List.getElem?_set_self (by have := HL.out; have := HVL.out; omega), n5'.out.put _ _ (ne n5'.out)⟩
        · obtain ⟨b, l, c, e1, e2⟩ := HV5.out i (by omega)
          exact ⟨b, l, c, by rw [List.getElem?_set_ne (fun h => e h.symm)]; exact e1, e2.put _ _ (ne e2)⟩
      case measure => have := HL.out; simp [intOf]; omega
    · have hI : ¬ (j : Int) < (len : Int) := by omega
      obtain rfl : j = len := by omega
      clear hN hB hV
      go_wp2_with fail
      go_ret
      refine ⟨_, rfl, ⟨hlen.out, HSM.out, Nat.le_refl _, fun i hi => ?_⟩, HB.out⟩
      obtain ⟨b, l, c, e1, e2⟩ := HV.out i hi
      refine ⟨b, l, c, ?_, e2.mono (by omega)⟩
      rw [World.ownsRow.cellAt HN.out i (by omega)]
      exact e1

set_option maxHeartbeats 2000000 in
theorem eq_ss (g g' n : Nat) (oss : List (List Int)) (b c : Nat) (w : World) (h : SSo w b g n oss) (k : SSo w c g' n oss) :
    Calls Tryz.prog 65 #[.slice (some ⟨g, 0, none⟩) n n, .slice (some ⟨g', 0, none⟩) n n] w fun e w' => e = .returned (.bool true) ∧ Below w.heap.size w w' := by
  have HZ : Hid (SSo w b g n oss) := h
  have KZ : Hid (SSo w c g' n oss) := k
  have hl : (n : Int) ≤ 9223372036854775807 := by have := h.small; omega
  clear h k
  go_enter Tryz.func65, Tryz.ntmps65
  go_wp2_with fail
  go_loopw [5] (fun i wr => ∃ j : Nat, j ≤ n ∧ i = .int .i64 j ∧ Below w.heap.size w wr) (fun i _ => n - (intOf i).toNat)
  case atStart => exact ⟨0, Nat.zero_le _, rfl, Below.refl _ _⟩
  case round =>
    obtain ⟨j, hj, rfl, hB⟩ := hrel
    have HB : Hid (Below _ _ _) := hB
    by_cases hlt : j < n
    · obtain ⟨x1, l1, c1, d1, m1⟩ := (HZ.out.keep hB).row j hlt
      obtain ⟨x2, l2, c2, d2, m2⟩ := (KZ.out.keep hB).row j hlt
      have M1 : Hid (Nums wr _ _ _) := m1
      have M2 : Hid (Nums wr _ _ _) := m2
      have hI : (j : Int) < (n : Int) := by omega
      have HL : Hid (j < n) := hlt
      have inh : Nonempty (BW wr) := ⟨⟨wr, Below.refl _ _⟩⟩
      have z1 := BW.cell d1
      have z2 := BW.cell d2
      have CE : ∀ p : BW wr, Calls Tryz.prog 29 #[.slice x1 l1 c1, .slice x2 l2 c2] p.w fun e w' => e = .returned (.bool true) ∧ Below p.w.heap.size p.w w' := fun p => eq_nums _ _ _ _ _ _ (M1.out.keep p.h) (M2.out.keep p.h)
      clear hB hlt m1 m2
      go_wp2_with fail
      refine region_bw (by kernel_rfl) ?_
      repeat (quiet_step ((go_at_call 29; exact calls_bw (CE _))))
      refine wpQuiet_nil ?_
      rintro _ ⟨p9, rfl⟩
      have B9 : Hid (Below w.heap.size w p9.w) := on HB.out p9.h
      go_wp2_with fail
      go_roundw
      case rel => exact ⟨j + 1, by have := HL.out; omega, by go_num, B9.out⟩
      case measure => have := HL.out; simp [intOf]; omega
    · have hI : ¬ (j : Int) < (n : Int) := by omega
      clear hB
      go_wp2_with fail
      go_ret
      exact ⟨rfl, HB.out⟩
end Go.Proofs.YthebikoahfcdaaaGreatDoor
