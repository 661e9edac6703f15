import Derived.Test.YtaefollmeoepkaaGreatDoorQ12
import Derived.Test.YtaefollmeoepkaaGreatDoorQ19
namespace Go.Proofs.YtaefollmeoepkaaGreatDoor
set_option maxRecDepth 20000
set_option maxHeartbeats 16000000
open Go.RowKit
set_option linter.unusedVariables false
def dueR(H:Ht):Int×Int:=if hfV H=0 then(if dueV H<0 then(4,0)else(0,dueV H))else(hfV H,0)
theorem two{v:World}{q:Nat}{t:TypeId}{z0 z1:Value}(h:Vb v q #[z0,z1] t)(u0 u1:Value):
  Vb ((v.setCell ⟨q,0,none⟩ u0).setCell ⟨q,1,none⟩ u1) q #[u0,u1] t∧Mq (fun k=>k=q) v ((v.setCell ⟨q,0,none⟩ u0).setCell ⟨q,1,none⟩ u1):=by
 have h0:Vb (v.setCell ⟨q,0,none⟩ u0) q #[u0,z1] t:=h.set 0 u0
 exact⟨h0.set 1 u1,((Mq.refl (fun k=>k=q) v).set ⟨q,0,none⟩ u0 rfl).set ⟨q,1,none⟩ u1 rfl⟩
theorem mca_store(H:Ht)(xa:Option Addr)(xn xk:Nat)(ya:Option Addr)(yn yk:Nat)(w:World):(storeCells ⟨w.heap.size,0,none⟩ (mca H (.slice xa xn xk) (.slice ya yn yk)).toList 0).run Tryz.prog (w.alloc (.cells #[.int .i64 0,.int .i64 0,.int .i64 0,.int .i64 0,.int .i64 0,.int .i64 0,.int .i64 0,.int .i64 0,.int .i64 0,.int .i64 0,.int .i64 0,.int .i64 0,.int .i64 0,.int .i64 0,.int .i64 0,.int .i64 0,.int .i64 0,.int .i64 0,.int .i64 0,.int .i64 0,.int .i64 0,.int .i64 0,.int .i64 0,.int .i64 0,.int .i64 0,.int .i64 0,.int .i64 0,.int .i64 0,.bool false,.bool false,.bool false,.int .i64 0,.slice none 0 0,.slice none 0 0] 74))=.ok () (w.alloc (.cells (mca H (.slice xa xn xk) (.slice ya yn yk)) 74)):=
 run_storeCells_new (P:=Tryz.prog) w 74 #[.int .i64 0,.int .i64 0,.int .i64 0,.int .i64 0,.int .i64 0,.int .i64 0,.int .i64 0,.int .i64 0,.int .i64 0,.int .i64 0,.int .i64 0,.int .i64 0,.int .i64 0,.int .i64 0,.int .i64 0,.int .i64 0,.int .i64 0,.int .i64 0,.int .i64 0,.int .i64 0,.int .i64 0,.int .i64 0,.int .i64 0,.int .i64 0,.int .i64 0,.int .i64 0,.int .i64 0,.int .i64 0,.bool false,.bool false,.bool false,.int .i64 0,.slice none 0 0,.slice none 0 0] (mca H (.slice xa xn xk) (.slice ya yn yk)) (by kernel_rfl) rfl (mca_one _ _ _ rfl rfl)
theorem void_hm(w:World)(base:Nat):Hm w base (.slice none 0 0) (.slice none 0 0) (.slice none 0 0) (.slice none 0 0) voidH:=⟨Nums.nil _ _,Nums.nil _ _,Nums.nil _ _,Nums.nil _ _⟩
theorem void_ha:Ha (.slice none 0 0) (.slice none 0 0) (.slice none 0 0) (.slice none 0 0):=⟨.inl rfl,.inl rfl,.inl rfl,.inl rfl,.inl rfl,.inl rfl⟩
end Go.Proofs.YtaefollmeoepkaaGreatDoor
