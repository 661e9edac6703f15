import Derived.Test.YtaefollmeoepkaaGreatDoorQ31
import Derived.Test.YtaefollmeoepkaaGreatDoorQ41
namespace Go.Proofs.YtaefollmeoepkaaGreatDoor
set_option maxRecDepth 20000
set_option maxHeartbeats 16000000
open Go.RowKit
set_option linter.unusedVariables false
variable{w:World}{base q:Nat}{i o:Value}{pg pc:Nat}{ps:List (Int×Int)}{g p:Nat}{zs:List Int}{X:Nat→Prop}{H:Ht}{ca ri:Int}
theorem Rw.unbox(h:Rw w base q i o pg pc ps g p zs H ca ri X):Rw w base q i o pg pc ps g p zs H ca ri (fun _=>False):=
 ⟨h.v,h.hi,h.ib,h.ho,h.pgs,h.ls,h.lb,h.qb,h.gq,h.sn,h.tab,h.tb,fun k e=>e.elim⟩
theorem Rw.box(h:Rw w base q i o pg pc ps g p zs H ca ri X)(b:Nat)(hb:w.heap.size=b):Rw (w.alloc (.cells #[.pointer (some ⟨q,0,none⟩)] 114)) base q i o pg pc ps g p zs H ca ri (fun k=>k=b):=by
 have k:=h.keep (al (Below.refl w.heap.size w) (.cells #[.pointer (some ⟨q,0,none⟩)] 114))
 refine⟨k.v,k.hi,k.ib,k.ho,k.pgs,k.ls,k.lb,k.qb,k.gq,k.sn,k.tab,k.tb,fun j e=>?_⟩
 have e':w.heap.size=j:=by rw[hb];exact e.symm
 subst e'
 exact⟨Vb.new _ _ _,by have:=h.v.lt;omega,by have:=(World.ownsRow.lt h.pgs g rfl).2;omega⟩
theorem door_ret{a:Act}{x:World}{b:Nat}{R:Ending→World→Prop}{e:Exit}(he:e=.ret∨e=.normal)(ha:a.defers=[{ target:=.fn (.func 71) #[.pointer (some ⟨b,0,none⟩)],args:=#[]}])(hR:R (.returned (.tuple #[])) x):bodyPostD Tryz.prog Tryz.f36 R e a x:=by
 have:Leaves Tryz.prog Tryz.f36 a.tmps R a.defers .returning x:=by
  rw[ha]
  refine leaves_cons (f:=71) (args:=#[.pointer (some ⟨b,0,none⟩)]) (by simp) (by simp[go_sem]) ?_
  refine(c_idle b x).mono ?_
  rintro e u' w'⟨rfl,rfl,rfl⟩
  exact⟨_,results_none rfl _ _ _,hR⟩
 rcases he with rfl|rfl<;>exact this
theorem door_pan{a:Act}{x:World}{base q:Nat}{i o:Value}{pg pc:Nat}{ps:List (Int×Int)}{g p:Nat}{zs:List Int}{H:Ht}{ca ri:Int}{b:Nat}{R:Ending→World→Prop}(ha:a.defers=[{ target:=.fn (.func 71) #[.pointer (some ⟨b,0,none⟩)],args:=#[]}])(h:Rw x base q i o pg pc ps g p zs H ca ri (fun k=>k=b))(c t:Int)(h0:0≤c)(h31:c≤31)(ht:isW t=true)(hR:∀x',Rw x' base q i o pg pc ps g p zs (trapV H c t) c ri (fun _=>False)→Below base x x'→R (.returned (.tuple #[])) x'):
  bodyPostD Tryz.prog Tryz.f36 R (.panic [{ v:=.iface 116 (.agg #[.int .i64 c,.int .i64 t]),recovered:=false}]) a x:=by
 show Leaves Tryz.prog Tryz.f36 a.tmps R a.defers _ x
 rw[ha]
 refine leaves_cons (f:=71) (args:=#[.pointer (some ⟨b,0,none⟩)]) (by simp) (by simp[go_sem]) ?_
 refine(c_panic h b ((h.bx b rfl).1.cell 0 rfl) (h.bx b rfl).2.1 c t h0 h31 ht).mono ?_
 rintro e u' w'⟨rfl,rfl,r,bb⟩
 exact⟨_,results_none rfl _ _ _,hR _ r.unbox bb⟩
theorem due_le(H:Ht):dueV H≤3:=by
 unfold dueV
 split
 ·omega
 ·unfold lowV
  split
  ·omega
  ·split<;>omega
def waitV(H:Ht):Ht:={ H with waiting:=H.waiting&&decide (bothV H=0)}
def stepV(H:Ht)(ps:List (Int×Int))(zs:List Int)(ca ri:Int):Ht×List Int×Int×Int:=
 if H.halted=true then(H,zs,ca,ri)
 else if ¬dueV H<0 then(trapV H (16+dueV H) 0,zs,16+dueV H,ri)
 else if(waitV H).waiting=true then(waitV H,zs,ca,ri)
 else if ¬plC (waitV H) ps zs H.pc 4=0 then(trapV (waitV H) 2 H.pc,zs,2,ri)
 else if ¬decF (fetZ (waitV H) ps zs)=0 then(trapV (waitV H) 1 (fetZ (waitV H) ps zs),zs,1,ri)
 else match doV (waitV H) ps zs ri (fetZ (waitV H) ps zs/16777216) (fetZ (waitV H) ps zs/1048576%16).toNat (fetZ (waitV H) ps zs/65536%16).toNat (fetZ (waitV H) ps zs%65536)with
  |⟨some (c,t),_,G,ys,rj⟩=>(trapV G c t,ys,c,rj)
  |⟨none,n,G,ys,rj⟩=>({ G with pc:=n,done:=min (G.done+1) 1000000000},ys,ca,rj)
theorem step_halts(R:Rw w base q i o pg pc ps g p zs H ca ri X)(hh:H.halted=true):
  Calls Tryz.prog 36 #[.pointer (some ⟨q,0,none⟩)] w fun e w'=>e=.returned (.tuple #[])∧∃i' o',Rw w' base q i' o' pg pc ps g p (stepV H ps zs ca ri).2.1 (stepV H ps zs ca ri).1 (stepV H ps zs ca ri).2.2.1 (stepV H ps zs ca ri).2.2.2 (fun _=>False)∧Below base w w':=by
 have hv:stepV H ps zs ca ri=(H,zs,ca,ri):=if_pos hh
 rw[hv]
 have hmf:∀(fn:Fn) (first cap:Array Value) (w:World),(Instr.makeFunc fn first cap).run Tryz.prog w=.ok (.func fn first cap) w:=fun _ _ _ _=>rfl
 obtain⟨b,hb⟩:∃b,w.heap.size=b:=⟨_,rfl⟩
 obtain⟨W,hW⟩:∃W,(w.alloc (.cells #[.pointer (some ⟨q,0,none⟩)] 114))=W:=⟨_,rfl⟩
 have RW0:Hid (Rw W base q i o pg pc ps g p zs H ca ri (fun k=>k=b)):=by show Rw _ _ _ _ _ _ _ _ _ _ _ _ _ _ _;rw[←hW];exact R.box b hb
 have BW0:Hid (Below base w W):=by show Below _ _ _;rw[←hW];exact bless (al (Below.refl w.heap.size w) _) R.size
 have cb:W.cell? ⟨b,0,none⟩=some (.pointer (some ⟨q,0,none⟩)):=(RW0.out.bx b rfl).1.cell 0 rfl
 have c28:W.cell? ⟨q,28,none⟩=some (.bool H.halted):=RW0.out.v.cell 28 rfl
 clear R
 rw[hh]at c28
 clear hh hv
 go_enter_defers Tryz.func36,Tryz.ntmps36
 go_upto_region 1 with fail
 clear hW hb
 go_wp2_with fail
 exact door_ret (b:=b) (.inl rfl) rfl ⟨rfl,_,_,RW0.out.unbox,BW0.out⟩
theorem step_due(R:Rw w base q i o pg pc ps g p zs H ca ri X)(hh:H.halted=false)(hd:¬dueV H<0):
  Calls Tryz.prog 36 #[.pointer (some ⟨q,0,none⟩)] w fun e w'=>e=.returned (.tuple #[])∧∃i' o',Rw w' base q i' o' pg pc ps g p (stepV H ps zs ca ri).2.1 (stepV H ps zs ca ri).1 (stepV H ps zs ca ri).2.2.1 (stepV H ps zs ca ri).2.2.2 (fun _=>False)∧Below base w w':=by
 have hv:stepV H ps zs ca ri=(trapV H (16+dueV H) 0,zs,16+dueV H,ri):=by unfold stepV;rw[if_neg (by simp[hh]),if_pos hd]
 rw[hv]
 have hmf:∀(fn:Fn) (first cap:Array Value) (w:World),(Instr.makeFunc fn first cap).run Tryz.prog w=.ok (.func fn first cap) w:=fun _ _ _ _=>rfl
 obtain⟨b,hb⟩:∃b,w.heap.size=b:=⟨_,rfl⟩
 obtain⟨W,hW⟩:∃W,(w.alloc (.cells #[.pointer (some ⟨q,0,none⟩)] 114))=W:=⟨_,rfl⟩
 have RW0:Hid (Rw W base q i o pg pc ps g p zs H ca ri (fun k=>k=b)):=by show Rw _ _ _ _ _ _ _ _ _ _ _ _ _ _ _;rw[←hW];exact R.box b hb
 have BW0:Hid (Below base w W):=by show Below _ _ _;rw[←hW];exact bless (al (Below.refl w.heap.size w) _) R.size
 have cb:W.cell? ⟨b,0,none⟩=some (.pointer (some ⟨q,0,none⟩)):=(RW0.out.bx b rfl).1.cell 0 rfl
 have c28:W.cell? ⟨q,28,none⟩=some (.bool H.halted):=RW0.out.v.cell 28 rfl
 clear R
 rw[hh]at c28
 clear hh hv
 have HL:Hid (0≤16+dueV H∧16+dueV H≤31):=by
  have:dueV H≤3:=due_le H
  exact⟨by omega,by omega⟩
 have HD:=hid hd
 clear hd
 go_enter_defers Tryz.func36,Tryz.ntmps36
 go_upto_region 1 with fail
 clear hW hb
 go_wp2_with fail
 refine(r_dueYes RW0.out (by have:=HD.out;omega)).mono ?_
 rintro e x1⟨he,b1⟩
 unfold pan at he
 subst he
 go_wp2_with fail
 exact door_pan (b:=b) rfl (RW0.out.keep b1) _ _ HL.out.1 HL.out.2 rfl fun x r bb=>⟨rfl,_,_,r,BW0.out.trans ((bless b1 RW0.out.size).trans bb)⟩
theorem step_waits(R:Rw w base q i o pg pc ps g p zs H ca ri X)(hh:H.halted=false)(hd:dueV H<0)(hw:(waitV H).waiting=true):
  Calls Tryz.prog 36 #[.pointer (some ⟨q,0,none⟩)] w fun e w'=>e=.returned (.tuple #[])∧∃i' o',Rw w' base q i' o' pg pc ps g p (stepV H ps zs ca ri).2.1 (stepV H ps zs ca ri).1 (stepV H ps zs ca ri).2.2.1 (stepV H ps zs ca ri).2.2.2 (fun _=>False)∧Below base w w':=by
 have hv:stepV H ps zs ca ri=(waitV H,zs,ca,ri):=by unfold stepV;rw[if_neg (by simp[hh]),if_neg (by simpa using hd),if_pos hw]
 rw[hv]
 have hmf:∀(fn:Fn) (first cap:Array Value) (w:World),(Instr.makeFunc fn first cap).run Tryz.prog w=.ok (.func fn first cap) w:=fun _ _ _ _=>rfl
 obtain⟨b,hb⟩:∃b,w.heap.size=b:=⟨_,rfl⟩
 obtain⟨W,hW⟩:∃W,(w.alloc (.cells #[.pointer (some ⟨q,0,none⟩)] 114))=W:=⟨_,rfl⟩
 have RW0:Hid (Rw W base q i o pg pc ps g p zs H ca ri (fun k=>k=b)):=by show Rw _ _ _ _ _ _ _ _ _ _ _ _ _ _ _;rw[←hW];exact R.box b hb
 have BW0:Hid (Below base w W):=by show Below _ _ _;rw[←hW];exact bless (al (Below.refl w.heap.size w) _) R.size
 have cb:W.cell? ⟨b,0,none⟩=some (.pointer (some ⟨q,0,none⟩)):=(RW0.out.bx b rfl).1.cell 0 rfl
 have c28:W.cell? ⟨q,28,none⟩=some (.bool H.halted):=RW0.out.v.cell 28 rfl
 clear R
 rw[hh]at c28
 have HD:=hid hd
 have hwt:(H.waiting&&decide (bothV H=0))=true:=hw
 clear hh hv hd hw
 go_enter_defers Tryz.func36,Tryz.ntmps36
 go_upto_region 1 with fail
 clear hW hb
 go_wp2_with fail
 refine(r_dueNo RW0.out HD.out).mono ?_
 rintro e x1⟨rfl,b1⟩
 have R1:=hid (RW0.out.keep b1)
 have B1:Hid (Below base w x1):=BW0.out.trans (bless b1 RW0.out.size)
 clear cb c28 b1
 have cb:x1.cell? ⟨b,0,none⟩=some (.pointer (some ⟨q,0,none⟩)):=(R1.out.bx b rfl).1.cell 0 rfl
 go_wp2_with fail
 refine(r_waits R1.out).mono ?_
 rintro e x2⟨he,r2,b2⟩
 rw[hwt]at he
 subst he
 have R2:=hid r2
 have B2:Hid (Below base w x2):=B1.out.trans b2
 clear cb r2 b2
 clear hwt
 go_wp2_with fail
 exact door_ret (b:=b) (.inl rfl) rfl ⟨rfl,_,_,R2.out.unbox,B2.out⟩
end Go.Proofs.YtaefollmeoepkaaGreatDoor
