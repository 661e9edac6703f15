import Derived.Test.YtaefollmeoepkaaGreatDoorQ33
import Derived.Test.YtaefollmeoepkaaGreatDoorQ42
namespace Go.Proofs.YtaefollmeoepkaaGreatDoor
set_option maxRecDepth 20000
set_option maxHeartbeats 16000000
open Go.RowKit
set_option linter.unusedVariables false
def stQ(R:Ending→World→Prop):Exit→Act→World→Prop
 | .panic c,a,w=>∀tmps,Leaves Tryz.prog Tryz.f36 tmps R a.defers (.panicking c) w
 |e,a,w=>bodyPostD Tryz.prog Tryz.f36 R e a w
theorem stQ_to(R:Ending→World→Prop)(e:Exit)(a:Act)(w:World)(h:stQ R e a w):bodyPostD Tryz.prog Tryz.f36 R e a w:=by
 cases e with
 |panic c=>exact h a.tmps
 |_=>exact h
theorem door_pan2{a:Act}{x:World}{base q:Nat}{i o:Value}{pg pc:Nat}{ps:List (Int×Int)}{g p:Nat}{zs:List Int}{H:Ht}{ca ri:Int}{b:Nat}{R:Ending→World→Prop}(ha:a.defers=[{ target:=.fn (.func 71) #[.pointer (some ⟨b,0,none⟩)],args:=#[]}])(h:Rw x base q i o pg pc ps g p zs H ca ri (fun k=>k=b))(c t:Int)(h0:0≤c)(h31:c≤31)(ht:isW t=true)(hR:∀x',Rw x' base q i o pg pc ps g p zs (trapV H c t) c ri (fun _=>False)→Below base x x'→R (.returned (.tuple #[])) x'):
  stQ R (.panic [{ v:=.iface 116 (.agg #[.int .i64 c,.int .i64 t]),recovered:=false}]) a x:=by
 intro tmps
 exact door_pan (a:={ tmps:=tmps,defers:=a.defers}) ha h c t h0 h31 ht hR
theorem br_word{t:Bool}{x y:Int}(hx:isW x=true)(hy:isW y=true):isW (brV t x y)=true:=by
 unfold brV;split<;>assumption
def Wd(x:Dr):Prop:=(x.t=none→isW x.next=true)∧∀c t,x.t=some (c,t)→0≤c∧c≤31∧isW t=true
theorem wd_ite{p:Prop} [Decidable p]{x y:Dr}(hx:Wd x)(hy:Wd y):Wd (if p then x else y):=by split<;>assumption
theorem wd_ok{n:Int}{H:Ht}{zs:List Int}{ri:Int}(h:isW n=true):Wd ⟨none,n,H,zs,ri⟩:=⟨fun _=>h,fun c t e=>(by cases e)⟩
theorem wd_no{c t n:Int}{H:Ht}{zs:List Int}{ri:Int}(h0:0≤c)(h1:c≤31)(h:isW t=true):Wd ⟨some (c,t),n,H,zs,ri⟩:=⟨fun e=>(by cases e),fun c' t' e=>(by cases e;exact⟨h0,h1,h⟩)⟩
theorem doV_word{H:Ht}(K:Hok H)(ps:List (Int×Int))(zs:List Int)(ri op:Int)(d a:Nat)(im:Int):Wd (doV H ps zs ri op d a im):=by
 unfold doV
 repeat' apply wd_ite
 all_goals first
  |exact wd_ok (add_word _ _)
  |exact wd_ok (br_word (add_word _ _) (add_word _ _))
  |exact wd_no (by decide) (by decide) (add_word _ _)
  |exact wd_no (by decide) (by decide) rfl
  |exact wd_ok (backV_hok K).pw
  |exact wd_ok K.pw
theorem ins_parts{op d a im:Int}(h:insC op d a im=0):1≤op∧op≤26∧0≤d∧d≤15∧0≤a∧a≤15∧0≤im∧im≤65535∧(op≤11→im<16)∧(op=21∨op=22→im≤10):=by
 unfold insC at h
 split at h
 ·split at h<;>omega
 ·omega
variable{w:World}{base q:Nat}{i o:Value}{pg pc:Nat}{ps:List (Int×Int)}{g p:Nat}{zs:List Int}{X:Nat→Prop}{H:Ht}{ca ri:Int}
theorem step_fetchNo(R:Rw w base q i o pg pc ps g p zs H ca ri X)(hh:H.halted=false)(hd:dueV H<0)(hw:(waitV H).waiting=false)(hz:¬plC (waitV H) ps zs H.pc 4=0):
  Calls Tryz.prog 36 #[.pointer (some ⟨q,0,none⟩)] w fun e w'=>e=.returned (.tuple #[])∧∃i' o',Rw w' base q i' o' pg pc ps g p (stepV H ps zs ca ri).2.1 (stepV H ps zs ca ri).1 (stepV H ps zs ca ri).2.2.1 (stepV H ps zs ca ri).2.2.2 (fun _=>False)∧Below base w w':=by
 have hv:stepV H ps zs ca ri=(trapV (waitV H) 2 H.pc,zs,2,ri):=by unfold stepV;rw[if_neg (by simp[hh]),if_neg (by simpa using hd),if_neg (by simp[hw]),if_pos hz]
 have HZ:=hid hz
 clear hz
 rw[hv]
 have hmf:∀(fn:Fn) (first cap:Array Value) (w:World),(Instr.makeFunc fn first cap).run Tryz.prog w=.ok (.func fn first cap) w:=fun _ _ _ _=>rfl
 obtain⟨b,hb⟩:∃b,w.heap.size=b:=⟨_,rfl⟩
 obtain⟨W,hW⟩:∃W,(w.alloc (.cells #[.pointer (some ⟨q,0,none⟩)] 114))=W:=⟨_,rfl⟩
 have RW0:Hid (Rw W base q i o pg pc ps g p zs H ca ri (fun k=>k=b)):=by show Rw _ _ _ _ _ _ _ _ _ _ _ _ _ _ _;rw[←hW];exact R.box b hb
 have BW0:Hid (Below base w W):=by show Below _ _ _;rw[←hW];exact bless (al (Below.refl w.heap.size w) _) R.size
 have cb:W.cell? ⟨b,0,none⟩=some (.pointer (some ⟨q,0,none⟩)):=(RW0.out.bx b rfl).1.cell 0 rfl
 have c28:W.cell? ⟨q,28,none⟩=some (.bool H.halted):=RW0.out.v.cell 28 rfl
 clear R
 rw[hh]at c28
 have HD:=hid hd
 have hwt:(H.waiting&&decide (bothV H=0))=false:=hw
 clear hh hv hd hw
 refine calls_of_wp_defers Tryz.func36 rfl ?_
 refine Code.wp_mono (stQ_to _) ?_
 simp only[Tryz.ntmps36,List.size_toArray,List.length_cons,List.length_nil,Nat.reduceAdd,Nat.reduceSub,Array.replicate_succ,Array.replicate_zero,List.push_toArray,List.append_toArray,List.nil_append,List.cons_append]
 go_upto_region 1 with fail
 clear hW hb
 go_wp2_with fail
 refine(r_dueNo RW0.out HD.out).mono ?_
 rintro e x1⟨rfl,b1⟩
 have R1:=hid (RW0.out.keep b1)
 have B1:Hid (Below base w x1):=BW0.out.trans (bless b1 RW0.out.size)
 clear cb c28 b1
 have cb:x1.cell? ⟨b,0,none⟩=some (.pointer (some ⟨q,0,none⟩)):=(R1.out.bx b rfl).1.cell 0 rfl
 go_wp2_with fail
 refine(r_waits R1.out).mono ?_
 rintro e x2⟨he,r2,b2⟩
 rw[hwt]at he
 subst he
 have R2:=hid r2
 have B2:Hid (Below base w x2):=B1.out.trans b2
 clear cb r2 b2
 clear hwt
 go_upto_region 5 with fail
 have S0:Hid (x2.drew.cell? ⟨b,0,none⟩=some (.pointer (some ⟨q,0,none⟩))):=(R2.out.bx b rfl).1.cell 0 rfl
 have R3:Hid (Rw x2.drew base q i o pg pc ps g p zs (waitV H) ca ri (fun k=>k=b)):=R2.out.keep (Below.refl _ _).drew
 have B3:Hid (Below base w x2.drew):=B2.out.drew
 refine wp_region_held (S:=fun w'=>w'.cell? ⟨b,0,none⟩=some (.pointer (some ⟨q,0,none⟩))) (by kernel_rfl) ?_
 change wpAnyH _ _ _ _ _ _ _ _ (World.drew _)
 generalize x2.drew=x0 at*
 refine wpTe 0 12 (.pointer (some ⟨q,0,none⟩)) rfl (Or.inl ⟨by rfl,fun w' hs=>by have hc:=hs;go_simp⟩) S0.out ?_
 simp only[Act.put,zT,zZ,zS]
 refine wpTe 1 13 (.pointer (some ⟨q,0,none⟩)) rfl (Or.inl ⟨by rfl,fun w' hs=>by have hc:=hs;go_simp⟩) S0.out ?_
 simp only[Act.put,zT,zZ,zS]
 refine wpTe 2 14 (.pointer (some ⟨q,0,none⟩)) rfl (Or.inl ⟨by rfl,fun w' hs=>by have hc:=hs;go_simp⟩) S0.out ?_
 simp only[Act.put,zT,zZ,zS]
 refine zR 3 rfl fun K hK=>?_
 rw[if_pos (by rfl)]
 go_simp
 refine(r_fetchNo R3.out HZ.out).mono ?_
 rintro e x1⟨he,b2⟩
 unfold pan at he
 subst he
 clear hK
 go_wp2_with fail
 exact door_pan2 (b:=b) rfl (R3.out.keep b2) 2 H.pc (by decide) (by decide) R3.out.sn.hok.pw fun x r bb=>⟨rfl,_,_,r,B3.out.trans ((bless b2 R3.out.size).trans bb)⟩
theorem step_bad(R:Rw w base q i o pg pc ps g p zs H ca ri X)(hh:H.halted=false)(hd:dueV H<0)(hw:(waitV H).waiting=false)(hz:plC (waitV H) ps zs H.pc 4=0)(hf:¬decF (fetZ (waitV H) ps zs)=0):
  Calls Tryz.prog 36 #[.pointer (some ⟨q,0,none⟩)] w fun e w'=>e=.returned (.tuple #[])∧∃i' o',Rw w' base q i' o' pg pc ps g p (stepV H ps zs ca ri).2.1 (stepV H ps zs ca ri).1 (stepV H ps zs ca ri).2.2.1 (stepV H ps zs ca ri).2.2.2 (fun _=>False)∧Below base w w':=by
 have hv:stepV H ps zs ca ri=(trapV (waitV H) 1 (fetZ (waitV H) ps zs),zs,1,ri):=by unfold stepV;rw[if_neg (by simp[hh]),if_neg (by simpa using hd),if_neg (by simp[hw]),if_neg (by simpa using hz),if_pos hf]
 have HZ:Hid (plC (waitV H) ps zs H.pc 4=0∧decV (fetZ (waitV H) ps zs)=.agg #[.int .i64 5,.int .i64 0,.int .i64 0,.int .i64 0,.int .i64 0]):=⟨hz,if_neg hf⟩
 clear hz hf
 rw[hv]
 have hmf:∀(fn:Fn) (first cap:Array Value) (w:World),(Instr.makeFunc fn first cap).run Tryz.prog w=.ok (.func fn first cap) w:=fun _ _ _ _=>rfl
 obtain⟨b,hb⟩:∃b,w.heap.size=b:=⟨_,rfl⟩
 obtain⟨W,hW⟩:∃W,(w.alloc (.cells #[.pointer (some ⟨q,0,none⟩)] 114))=W:=⟨_,rfl⟩
 have RW0:Hid (Rw W base q i o pg pc ps g p zs H ca ri (fun k=>k=b)):=by show Rw _ _ _ _ _ _ _ _ _ _ _ _ _ _ _;rw[←hW];exact R.box b hb
 have BW0:Hid (Below base w W):=by show Below _ _ _;rw[←hW];exact bless (al (Below.refl w.heap.size w) _) R.size
 have cb:W.cell? ⟨b,0,none⟩=some (.pointer (some ⟨q,0,none⟩)):=(RW0.out.bx b rfl).1.cell 0 rfl
 have c28:W.cell? ⟨q,28,none⟩=some (.bool H.halted):=RW0.out.v.cell 28 rfl
 clear R
 rw[hh]at c28
 have HD:=hid hd
 have hwt:(H.waiting&&decide (bothV H=0))=false:=hw
 clear hh hv hd hw
 refine calls_of_wp_defers Tryz.func36 rfl ?_
 refine Code.wp_mono (stQ_to _) ?_
 simp only[Tryz.ntmps36,List.size_toArray,List.length_cons,List.length_nil,Nat.reduceAdd,Nat.reduceSub,Array.replicate_succ,Array.replicate_zero,List.push_toArray,List.append_toArray,List.nil_append,List.cons_append]
 go_upto_region 1 with fail
 clear hW hb
 go_wp2_with fail
 refine(r_dueNo RW0.out HD.out).mono ?_
 rintro e x1⟨rfl,b1⟩
 have R1:=hid (RW0.out.keep b1)
 have B1:Hid (Below base w x1):=BW0.out.trans (bless b1 RW0.out.size)
 clear cb c28 b1
 have cb:x1.cell? ⟨b,0,none⟩=some (.pointer (some ⟨q,0,none⟩)):=(R1.out.bx b rfl).1.cell 0 rfl
 go_wp2_with fail
 refine(r_waits R1.out).mono ?_
 rintro e x2⟨he,r2,b2⟩
 rw[hwt]at he
 subst he
 have R2:=hid r2
 have B2:Hid (Below base w x2):=B1.out.trans b2
 clear cb r2 b2
 clear hwt
 go_upto_region 5 with fail
 have S0:Hid (x2.drew.cell? ⟨b,0,none⟩=some (.pointer (some ⟨q,0,none⟩))):=(R2.out.bx b rfl).1.cell 0 rfl
 have R3:Hid (Rw x2.drew base q i o pg pc ps g p zs (waitV H) ca ri (fun k=>k=b)):=R2.out.keep (Below.refl _ _).drew
 have B3:Hid (Below base w x2.drew):=B2.out.drew
 refine wp_region_held (S:=fun w'=>w'.cell? ⟨b,0,none⟩=some (.pointer (some ⟨q,0,none⟩))) (by kernel_rfl) ?_
 change wpAnyH _ _ _ _ _ _ _ _ (World.drew _)
 generalize x2.drew=x0 at*
 refine wpTe 0 12 (.pointer (some ⟨q,0,none⟩)) rfl (Or.inl ⟨by rfl,fun w' hs=>by have hc:=hs;go_simp⟩) S0.out ?_
 simp only[Act.put,zT,zZ,zS]
 refine wpTe 1 13 (.pointer (some ⟨q,0,none⟩)) rfl (Or.inl ⟨by rfl,fun w' hs=>by have hc:=hs;go_simp⟩) S0.out ?_
 simp only[Act.put,zT,zZ,zS]
 refine wpTe 2 14 (.pointer (some ⟨q,0,none⟩)) rfl (Or.inl ⟨by rfl,fun w' hs=>by have hc:=hs;go_simp⟩) S0.out ?_
 simp only[Act.put,zT,zZ,zS]
 refine zR 3 rfl fun K hK=>?_
 rw[if_pos (by rfl)]
 go_simp
 refine(r_fetch R3.out HZ.out.1 5 0 0 0 0 HZ.out.2).mono ?_
 rintro e x1⟨he,b2⟩
 rw[if_neg (by decide)]at he
 unfold pan at he
 subst he
 clear hK
 go_wp2_with fail
 exact door_pan2 (b:=b) rfl (R3.out.keep b2) 1 (fetZ (waitV H) ps zs) (by decide) (by decide) (word_at R3.out.sn.zw _) fun x r bb=>⟨rfl,_,_,r,B3.out.trans ((bless b2 R3.out.size).trans bb)⟩
theorem done_hok{G:Ht}(K:Hok G){n:Int}(hn:isW n=true):Hok { G with pc:=n}:=
 ⟨K.r16,K.c11,K.r0,K.rw,hn,K.cw,K.iw,K.ow,K.i40,K.o40,K.d0,K.d9,K.st⟩
theorem more_hok{G:Ht}(K:Hok G):Hok { G with done:=min (G.done+1) 1000000000}:=
 ⟨K.r16,K.c11,K.r0,K.rw,K.pw,K.cw,K.iw,K.ow,K.i40,K.o40,by have:=K.d0;show 0≤min (G.done+1) 1000000000;omega,by show min (G.done+1) 1000000000≤_;omega,K.st⟩
theorem mcr_more(H:Ht)(i o l pg:Value)(ca ri:Int)(u:Int):(mcr H i o l pg ca ri).setIfInBounds 31 (.int .i64 u)=mcr { H with done:=u} i o l pg ca ri:=rfl
theorem step_trap(R:Rw w base q i o pg pc ps g p zs H ca ri X)(hh:H.halted=false)(hd:dueV H<0)(hw:(waitV H).waiting=false)(hz:plC (waitV H) ps zs H.pc 4=0)(op:Int)(d a:Nat)(im:Int)(hc:decV (fetZ (waitV H) ps zs)=.agg #[.int .i64 0,.int .i64 op,.int .i64 (d:Int),.int .i64 (a:Int),.int .i64 im])(hi:insC op d a im=0)(c t n:Int)(G:Ht)(ys:List Int)(rj:Int)(hx:(doV (waitV H) ps zs ri op d a im)=⟨some (c,t),n,G,ys,rj⟩)(hv:stepV H ps zs ca ri=(trapV G c t,ys,c,rj)):
  Calls Tryz.prog 36 #[.pointer (some ⟨q,0,none⟩)] w fun e w'=>e=.returned (.tuple #[])∧∃i' o',Rw w' base q i' o' pg pc ps g p (stepV H ps zs ca ri).2.1 (stepV H ps zs ca ri).1 (stepV H ps zs ca ri).2.2.1 (stepV H ps zs ca ri).2.2.2 (fun _=>False)∧Below base w w':=by
 have HZ:Hid (plC (waitV H) ps zs H.pc 4=0∧decV (fetZ (waitV H) ps zs)=.agg #[.int .i64 0,.int .i64 op,.int .i64 (d:Int),.int .i64 (a:Int),.int .i64 im]):=⟨hz,hc⟩
 have HI:=hid hi
 have HDW:Hid (Hok (waitV H)→Wd (doV (waitV H) ps zs ri op d a im)):=fun K=>doV_word K ps zs ri op d a im
 clear hz hc hi
 have HX:=hid hx
 clear hx
 rw[hv]
 have hmf:∀(fn:Fn) (first cap:Array Value) (w:World),(Instr.makeFunc fn first cap).run Tryz.prog w=.ok (.func fn first cap) w:=fun _ _ _ _=>rfl
 obtain⟨b,hb⟩:∃b,w.heap.size=b:=⟨_,rfl⟩
 obtain⟨W,hW⟩:∃W,(w.alloc (.cells #[.pointer (some ⟨q,0,none⟩)] 114))=W:=⟨_,rfl⟩
 have RW0:Hid (Rw W base q i o pg pc ps g p zs H ca ri (fun k=>k=b)):=by show Rw _ _ _ _ _ _ _ _ _ _ _ _ _ _ _;rw[←hW];exact R.box b hb
 have BW0:Hid (Below base w W):=by show Below _ _ _;rw[←hW];exact bless (al (Below.refl w.heap.size w) _) R.size
 have cb:W.cell? ⟨b,0,none⟩=some (.pointer (some ⟨q,0,none⟩)):=(RW0.out.bx b rfl).1.cell 0 rfl
 have c28:W.cell? ⟨q,28,none⟩=some (.bool H.halted):=RW0.out.v.cell 28 rfl
 clear R
 rw[hh]at c28
 have HD:=hid hd
 have hwt:(H.waiting&&decide (bothV H=0))=false:=hw
 clear hh hv hd hw
 refine calls_of_wp_defers Tryz.func36 rfl ?_
 refine Code.wp_mono (stQ_to _) ?_
 simp only[Tryz.ntmps36,List.size_toArray,List.length_cons,List.length_nil,Nat.reduceAdd,Nat.reduceSub,Array.replicate_succ,Array.replicate_zero,List.push_toArray,List.append_toArray,List.nil_append,List.cons_append]
 go_upto_region 1 with fail
 clear hW hb
 go_wp2_with fail
 refine(r_dueNo RW0.out HD.out).mono ?_
 rintro e x1⟨rfl,b1⟩
 have R1:=hid (RW0.out.keep b1)
 have B1:Hid (Below base w x1):=BW0.out.trans (bless b1 RW0.out.size)
 clear cb c28 b1
 have cb:x1.cell? ⟨b,0,none⟩=some (.pointer (some ⟨q,0,none⟩)):=(R1.out.bx b rfl).1.cell 0 rfl
 go_wp2_with fail
 refine(r_waits R1.out).mono ?_
 rintro e x2⟨he,r2,b2⟩
 rw[hwt]at he
 subst he
 have R2:=hid r2
 have B2:Hid (Below base w x2):=B1.out.trans b2
 clear cb r2 b2
 clear hwt
 go_upto_region 5 with fail
 have S0:Hid (x2.drew.cell? ⟨b,0,none⟩=some (.pointer (some ⟨q,0,none⟩))):=(R2.out.bx b rfl).1.cell 0 rfl
 have R3:Hid (Rw x2.drew base q i o pg pc ps g p zs (waitV H) ca ri (fun k=>k=b)):=R2.out.keep (Below.refl _ _).drew
 have B3:Hid (Below base w x2.drew):=B2.out.drew
 refine wp_region_held (S:=fun w'=>w'.cell? ⟨b,0,none⟩=some (.pointer (some ⟨q,0,none⟩))) (by kernel_rfl) ?_
 change wpAnyH _ _ _ _ _ _ _ _ (World.drew _)
 generalize x2.drew=x0 at*
 refine wpTe 0 12 (.pointer (some ⟨q,0,none⟩)) rfl (Or.inl ⟨by rfl,fun w' hs=>by have hc:=hs;go_simp⟩) S0.out ?_
 simp only[Act.put,zT,zZ,zS]
 refine wpTe 1 13 (.pointer (some ⟨q,0,none⟩)) rfl (Or.inl ⟨by rfl,fun w' hs=>by have hc:=hs;go_simp⟩) S0.out ?_
 simp only[Act.put,zT,zZ,zS]
 refine wpTe 2 14 (.pointer (some ⟨q,0,none⟩)) rfl (Or.inl ⟨by rfl,fun w' hs=>by have hc:=hs;go_simp⟩) S0.out ?_
 simp only[Act.put,zT,zZ,zS]
 refine zR 3 rfl fun K hK=>?_
 rw[if_pos (by rfl)]
 go_simp
 refine(r_fetch R3.out HZ.out.1 0 op d a im HZ.out.2).mono ?_
 rintro e x1⟨he,b2⟩
 rw[if_pos rfl]at he
 subst he
 have R4:=hid (R3.out.keep b2)
 have B4:Hid (Below base w x1):=B3.out.trans (bless b2 R3.out.size)
 clear b2
 have S1:Hid (x1.cell? ⟨b,0,none⟩=some (.pointer (some ⟨q,0,none⟩))):=(R4.out.bx b rfl).1.cell 0 rfl
 refine hK.out _ _ S1.out (fun _=>?_)
 clear hK K
 refine zR 4 rfl fun K hK=>?_
 rw[if_pos (by rfl)]
 go_simp
 refine(i_deed op d a im x1).mono ?_
 rintro e x3⟨rfl,b2⟩
 have R5:=hid (R4.out.keep b2)
 have B5:Hid (Below base w x3):=B4.out.trans (bless b2 R4.out.size)
 clear b2
 have S3:Hid (x3.cell? ⟨b,0,none⟩=some (.pointer (some ⟨q,0,none⟩))):=(R5.out.bx b rfl).1.cell 0 rfl
 generalize hT:deedT op=T
 refine hK.out _ _ S3.out (fun _=>?_)
 clear hK K
 refine zR 5 rfl fun K hK=>?_
 rw[if_pos (by rfl)]
 go_simp
 have I:=ins_parts HI.out
 rw[←hT]
 refine(r_do R5.out op d a im (by omega) (by omega) I.2.2.2.2.2.2.1 I.2.2.2.2.2.2.2.1 I.1 I.2.1 I.2.2.2.2.2.2.2.2.1 I.2.2.2.2.2.2.2.2.2).mono ?_
 clear I hT
 rintro e x4⟨he,i2,o2,r4,b4⟩
 have W1:=(HDW.out R5.out.sn.hok).2 c t (by rw[HX.out])
 rw[HX.out]at he r4
 unfold Dr.e pan at he
 simp only at he
 subst he
 clear hK
 go_wp2_with fail
 exact door_pan2 (b:=b) rfl r4 c t W1.1 W1.2.1 W1.2.2 fun x r bb=>⟨rfl,_,_,r,B5.out.trans (b4.trans bb)⟩
theorem step_done(R:Rw w base q i o pg pc ps g p zs H ca ri X)(hh:H.halted=false)(hd:dueV H<0)(hw:(waitV H).waiting=false)(hz:plC (waitV H) ps zs H.pc 4=0)(op:Int)(d a:Nat)(im:Int)(hc:decV (fetZ (waitV H) ps zs)=.agg #[.int .i64 0,.int .i64 op,.int .i64 (d:Int),.int .i64 (a:Int),.int .i64 im])(hi:insC op d a im=0)(n:Int)(G:Ht)(ys:List Int)(rj:Int)(hx:(doV (waitV H) ps zs ri op d a im)=⟨none,n,G,ys,rj⟩)(hv:stepV H ps zs ca ri=({ G with pc:=n,done:=min (G.done+1) 1000000000},ys,ca,rj)):
  Calls Tryz.prog 36 #[.pointer (some ⟨q,0,none⟩)] w fun e w'=>e=.returned (.tuple #[])∧∃i' o',Rw w' base q i' o' pg pc ps g p (stepV H ps zs ca ri).2.1 (stepV H ps zs ca ri).1 (stepV H ps zs ca ri).2.2.1 (stepV H ps zs ca ri).2.2.2 (fun _=>False)∧Below base w w':=by
 have HZ:Hid (plC (waitV H) ps zs H.pc 4=0∧decV (fetZ (waitV H) ps zs)=.agg #[.int .i64 0,.int .i64 op,.int .i64 (d:Int),.int .i64 (a:Int),.int .i64 im]):=⟨hz,hc⟩
 have HI:=hid hi
 have HDW:Hid (Hok (waitV H)→Wd (doV (waitV H) ps zs ri op d a im)):=fun K=>doV_word K ps zs ri op d a im
 clear hz hc hi
 have HX:=hid hx
 clear hx
 rw[hv]
 have hmf:∀(fn:Fn) (first cap:Array Value) (w:World),(Instr.makeFunc fn first cap).run Tryz.prog w=.ok (.func fn first cap) w:=fun _ _ _ _=>rfl
 obtain⟨b,hb⟩:∃b,w.heap.size=b:=⟨_,rfl⟩
 obtain⟨W,hW⟩:∃W,(w.alloc (.cells #[.pointer (some ⟨q,0,none⟩)] 114))=W:=⟨_,rfl⟩
 have RW0:Hid (Rw W base q i o pg pc ps g p zs H ca ri (fun k=>k=b)):=by show Rw _ _ _ _ _ _ _ _ _ _ _ _ _ _ _;rw[←hW];exact R.box b hb
 have BW0:Hid (Below base w W):=by show Below _ _ _;rw[←hW];exact bless (al (Below.refl w.heap.size w) _) R.size
 have cb:W.cell? ⟨b,0,none⟩=some (.pointer (some ⟨q,0,none⟩)):=(RW0.out.bx b rfl).1.cell 0 rfl
 have c28:W.cell? ⟨q,28,none⟩=some (.bool H.halted):=RW0.out.v.cell 28 rfl
 clear R
 rw[hh]at c28
 have HD:=hid hd
 have hwt:(H.waiting&&decide (bothV H=0))=false:=hw
 clear hh hv hd hw
 refine calls_of_wp_defers Tryz.func36 rfl ?_
 refine Code.wp_mono (stQ_to _) ?_
 simp only[Tryz.ntmps36,List.size_toArray,List.length_cons,List.length_nil,Nat.reduceAdd,Nat.reduceSub,Array.replicate_succ,Array.replicate_zero,List.push_toArray,List.append_toArray,List.nil_append,List.cons_append]
 go_upto_region 1 with fail
 clear hW hb
 go_wp2_with fail
 refine(r_dueNo RW0.out HD.out).mono ?_
 rintro e x1⟨rfl,b1⟩
 have R1:=hid (RW0.out.keep b1)
 have B1:Hid (Below base w x1):=BW0.out.trans (bless b1 RW0.out.size)
 clear cb c28 b1
 have cb:x1.cell? ⟨b,0,none⟩=some (.pointer (some ⟨q,0,none⟩)):=(R1.out.bx b rfl).1.cell 0 rfl
 go_wp2_with fail
 refine(r_waits R1.out).mono ?_
 rintro e x2⟨he,r2,b2⟩
 rw[hwt]at he
 subst he
 have R2:=hid r2
 have B2:Hid (Below base w x2):=B1.out.trans b2
 clear cb r2 b2
 clear hwt
 go_upto_region 5 with fail
 have S0:Hid (x2.drew.cell? ⟨b,0,none⟩=some (.pointer (some ⟨q,0,none⟩))):=(R2.out.bx b rfl).1.cell 0 rfl
 have R3:Hid (Rw x2.drew base q i o pg pc ps g p zs (waitV H) ca ri (fun k=>k=b)):=R2.out.keep (Below.refl _ _).drew
 have B3:Hid (Below base w x2.drew):=B2.out.drew
 refine wp_region_held (S:=fun w'=>w'.cell? ⟨b,0,none⟩=some (.pointer (some ⟨q,0,none⟩))) (by kernel_rfl) ?_
 change wpAnyH _ _ _ _ _ _ _ _ (World.drew _)
 generalize x2.drew=x0 at*
 refine wpTe 0 12 (.pointer (some ⟨q,0,none⟩)) rfl (Or.inl ⟨by rfl,fun w' hs=>by have hc:=hs;go_simp⟩) S0.out ?_
 simp only[Act.put,zT,zZ,zS]
 refine wpTe 1 13 (.pointer (some ⟨q,0,none⟩)) rfl (Or.inl ⟨by rfl,fun w' hs=>by have hc:=hs;go_simp⟩) S0.out ?_
 simp only[Act.put,zT,zZ,zS]
 refine wpTe 2 14 (.pointer (some ⟨q,0,none⟩)) rfl (Or.inl ⟨by rfl,fun w' hs=>by have hc:=hs;go_simp⟩) S0.out ?_
 simp only[Act.put,zT,zZ,zS]
 refine zR 3 rfl fun K hK=>?_
 rw[if_pos (by rfl)]
 go_simp
 refine(r_fetch R3.out HZ.out.1 0 op d a im HZ.out.2).mono ?_
 rintro e x1⟨he,b2⟩
 rw[if_pos rfl]at he
 subst he
 have R4:=hid (R3.out.keep b2)
 have B4:Hid (Below base w x1):=B3.out.trans (bless b2 R3.out.size)
 clear b2
 have S1:Hid (x1.cell? ⟨b,0,none⟩=some (.pointer (some ⟨q,0,none⟩))):=(R4.out.bx b rfl).1.cell 0 rfl
 refine hK.out _ _ S1.out (fun _=>?_)
 clear hK K
 refine zR 4 rfl fun K hK=>?_
 rw[if_pos (by rfl)]
 go_simp
 refine(i_deed op d a im x1).mono ?_
 rintro e x3⟨rfl,b2⟩
 have R5:=hid (R4.out.keep b2)
 have B5:Hid (Below base w x3):=B4.out.trans (bless b2 R4.out.size)
 clear b2
 have S3:Hid (x3.cell? ⟨b,0,none⟩=some (.pointer (some ⟨q,0,none⟩))):=(R5.out.bx b rfl).1.cell 0 rfl
 generalize hT:deedT op=T
 refine hK.out _ _ S3.out (fun _=>?_)
 clear hK K
 refine zR 5 rfl fun K hK=>?_
 rw[if_pos (by rfl)]
 go_simp
 have I:=ins_parts HI.out
 rw[←hT]
 refine(r_do R5.out op d a im (by omega) (by omega) I.2.2.2.2.2.2.1 I.2.2.2.2.2.2.2.1 I.1 I.2.1 I.2.2.2.2.2.2.2.2.1 I.2.2.2.2.2.2.2.2.2).mono ?_
 clear I hT
 rintro e x4⟨he,i2,o2,r4,b4⟩
 have W1:=(HDW.out R5.out.sn.hok).1 (by rw[HX.out])
 rw[HX.out]at he r4 W1
 simp only[Dr.e]at he
 subst he
 have R6:=hid r4
 have B6:Hid (Below base w x4):=B5.out.trans b4
 have HW:Hid (isW n=true):=W1
 clear r4 b4 W1
 have S4:Hid (x4.cell? ⟨b,0,none⟩=some (.pointer (some ⟨q,0,none⟩))):=(R6.out.bx b rfl).1.cell 0 rfl
 refine hK.out _ _ S4.out (fun _=>?_)
 clear hK K
 refine wpTd 6 18 (.pointer (some ⟨q,0,none⟩)) rfl S4.out ?_
 simp only[Act.put,zT,zZ,zS]
 refine wpTd 7 19 (.pointer (some ⟨q,0,none⟩)) rfl S4.out ?_
 simp only[Act.put,zT,zZ,zS]
 refine wpTd 8 20 (.pointer (some ⟨q,0,none⟩)) rfl S4.out ?_
 simp only[Act.put,zT,zZ,zS]
 refine wpTd 9 21 (.pointer (some ⟨q,16,none⟩)) rfl S4.out ?_
 simp only[Act.put,zT,zZ,zS]
 refine zR 10 rfl fun K hK=>?_
 rw[if_pos (by rfl)]
 have c16:=R6.out.v.cell 16 rfl
 have f16:=R6.out.v.free 16
 have V6:=R6.out.v.set 16 (.int .i64 n)
 rw[mcr_pc]at V6
 have U6:=R6.out.upd V6 ((Mq.refl _ _).set ⟨q,16,none⟩ _ rfl) rfl rfl (done_hok R6.out.sn.hok HW.out)
 have R7:Hid (Rw (x4.setCell ⟨q,16,none⟩ (.int .i64 n)) base q i2 o2 pg pc ps g p ys { G with pc:=n} ca rj (fun k=>k=b)):=U6.1
 have B7:Hid (Below base w (x4.setCell ⟨q,16,none⟩ (.int .i64 n))):=B6.out.trans U6.2
 clear V6 U6
 go_simp
 generalize x4.setCell ⟨q,16,none⟩ (.int .i64 n)=x5 at*
 have S5:Hid (x5.cell? ⟨b,0,none⟩=some (.pointer (some ⟨q,0,none⟩))):=(R7.out.bx b rfl).1.cell 0 rfl
 refine hK.out _ _ S5.out (fun _=>?_)
 clear hK K c16 f16
 refine wpAnyH_done (by kernel_rfl) ?_ _
 have cb:x5.cell? ⟨b,0,none⟩=some (.pointer (some ⟨q,0,none⟩)):=S5.out
 have c31:x5.cell? ⟨q,31,none⟩=some (.int .i64 G.done):=R7.out.v.cell 31 rfl
 have f31:=R7.out.v.free 31
 have DB:0≤G.done∧G.done≤1000000000:=⟨R7.out.sn.hok.d0,R7.out.sn.hok.d9⟩
 go_wp2_with fail
 go_region
 have MN:(if 1000000000<G.done+1 then 1000000000 else G.done+1)=min (G.done+1) 1000000000:=by split<;>omega
 rw[MN]
 clear MN DB c31 f31 cb
 have V8:=R7.out.v.set 31 (.int .i64 (min (G.done+1) 1000000000))
 rw[mcr_more]at V8
 have U8:Hid (_∧_):=R7.out.upd V8 ((Mq.refl _ _).set ⟨q,31,none⟩ _ rfl) rfl rfl (more_hok R7.out.sn.hok)
 clear V8
 go_wp2_with fail
 exact door_ret (b:=b) (.inr rfl) rfl ⟨rfl,⟨_,_,(U8.out.1.keep (Below.refl _ _).drew).unbox⟩,B7.out.trans U8.out.2.drew⟩
theorem r_step(R:Rw w base q i o pg pc ps g p zs H ca ri X):
  Calls Tryz.prog 36 #[.pointer (some ⟨q,0,none⟩)] w fun e w'=>e=.returned (.tuple #[])∧∃i' o',Rw w' base q i' o' pg pc ps g p (stepV H ps zs ca ri).2.1 (stepV H ps zs ca ri).1 (stepV H ps zs ca ri).2.2.1 (stepV H ps zs ca ri).2.2.2 (fun _=>False)∧Below base w w':=by
 by_cases hh:H.halted=true
 ·exact step_halts R hh
 have hh':H.halted=false:=by simpa using hh
 by_cases hd:dueV H<0
 ·cases hw:(waitV H).waiting with
  |true=>exact step_waits R hh' hd hw
  |false=>
   by_cases hz:plC (waitV H) ps zs H.pc 4=0
   ·by_cases hf:decF (fetZ (waitV H) ps zs)=0
    ·have ip:=ins_parts hf
     obtain⟨d,hd2⟩:∃d:Nat,(fetZ (waitV H) ps zs)/1048576%16=(d:Int):=⟨((fetZ (waitV H) ps zs)/1048576%16).toNat,by omega⟩
     obtain⟨a,ha2⟩:∃a:Nat,(fetZ (waitV H) ps zs)/65536%16=(a:Int):=⟨((fetZ (waitV H) ps zs)/65536%16).toNat,by omega⟩
     have hc:decV (fetZ (waitV H) ps zs)=.agg #[.int .i64 0,.int .i64 ((fetZ (waitV H) ps zs)/16777216),.int .i64 (d:Int),.int .i64 (a:Int),.int .i64 ((fetZ (waitV H) ps zs)%65536)]:=by
      unfold decV;rw[if_pos hf,hd2,ha2]
     have hi:insC ((fetZ (waitV H) ps zs)/16777216) d a ((fetZ (waitV H) ps zs)%65536)=0:=by rw[←hd2,←ha2];exact hf
     have hs:stepV H ps zs ca ri=(match doV (waitV H) ps zs ri ((fetZ (waitV H) ps zs)/16777216) d a ((fetZ (waitV H) ps zs)%65536)with
      |⟨some (c,t),_,G,ys,rj⟩=>(trapV G c t,ys,c,rj)
      |⟨none,n,G,ys,rj⟩=>({ G with pc:=n,done:=min (G.done+1) 1000000000},ys,ca,rj)):=by
      unfold stepV
      rw[if_neg (by simp[hh]),if_neg (by simpa using hd),if_neg (by simp[hw]),if_neg (by simpa using hz),if_neg (by simpa using hf),hd2,ha2]
      rfl
     cases h:doV (waitV H) ps zs ri ((fetZ (waitV H) ps zs)/16777216) d a ((fetZ (waitV H) ps zs)%65536)with
     |mk t n G ys rj=>
      rw[h]at hs
      cases t with
      |none=>exact step_done R hh' hd hw hz _ d a _ hc hi n G ys rj h hs
      |some ct=>
       obtain⟨c,t⟩:=ct
       exact step_trap R hh' hd hw hz _ d a _ hc hi c t n G ys rj h hs
    ·exact step_bad R hh' hd hw hz hf
   ·exact step_fetchNo R hh' hd hw hz
 ·exact step_due R hh' hd
variable{w:World}{B:Bp}{i o:Value}{zs:List Int}{H:Ht}{ri fa:Int}
theorem z_fall(R:Bs w B i o zs H ri fa)(K:Hok H)(k x:Int):
  Calls Tryz.prog 60 #[.pointer (some ⟨B.q,0,none⟩),.int .i64 k,.int .i64 x] w fun e w'=>e=.returned (.tuple #[])∧Bs w' B i o zs (trapV H k x) ri k∧Below B.base w w':=by
 have HR:=hid R
 have HK:=hid K
 clear R K
 go_enter Tryz.func60,Tryz.ntmps60
 go_wp2_with fail
 refine(z_trap HR.out HK.out k x).mono ?_
 rintro e w1⟨rfl,s1,t1⟩
 have S1:Hid (Bs w1 B i o zs (trapV H k x) ri fa∧Below B.base w w1):=⟨s1,t1⟩
 clear s1 t1
 have c12:w1.cell? ⟨B.q,12,none⟩=some (.int .i64 fa):=S1.out.1.v.cell 12 rfl
 have f12:=S1.out.1.v.free 12
 go_wp2_with fail
 go_end0
 have U:=S1.out.1.fld (G:=trapV H k x) (ri':=ri) (fa':=k) 12 (.int .i64 k) rfl rfl rfl rfl rfl
 exact⟨rfl,U.1,S1.out.2.trans U.2⟩
theorem z_put(R:Bs w B i o zs H ri fa)(d:Nat)(hd:d<16)(x:Int):
  Calls Tryz.prog 102 #[.pointer (some ⟨B.q,0,none⟩),.int .i64 (d:Int),.int .i64 x] w fun e w'=>e=.returned (.tuple #[])∧(Bs w' B i o zs (putV H d x) ri fa∧Below B.base w w')∧Mq (fun j=>j=B.rg) w w':=by
 have HR:=hid R
 have c3:w.cell? ⟨B.q,3,none⟩=some (.slice (some ⟨B.rg,0,none⟩) 16 B.rk):=R.v.cell 3 rfl
 have cd:w.cell? ⟨B.rg,d,none⟩=some (.int .i64 (gt H.regs d)):=R.hr.cell R.hr.len d hd
 have fd:w.frozen? ⟨B.rg,d,none⟩=false:=R.hr.free R.hr.len d
 have hdI:(d:Int)<16:=by omega
 clear R
 by_cases hz:d=0
 ·have E:Hid (putV H (d:Int) x=H):=by show _=_;simp[putV,hz]
  have hzI:(d:Int)=0:=by omega
  go_enter Tryz.func102,Tryz.ntmps102
  go_wp2_with fail
  go_end0
  exact⟨rfl,⟨by rw[E.out];exact HR.out,Below.refl _ _⟩,Mq.refl _ _⟩
 ·have hzI:¬(d:Int)=0:=by omega
  have E:Hid (putV H (d:Int) x={ H with regs:=H.regs.set d x}):=by show _=_;simp[putV,hz]
  go_enter Tryz.func102,Tryz.ntmps102
  go_wp2_with fail
  go_end0
  exact⟨rfl,⟨by rw[E.out];exact(HR.out.reg d x).1,(HR.out.reg d x).2⟩,(Mq.refl _ _).set ⟨B.rg,d,none⟩ _ rfl⟩
theorem z_space(R:Bs w B i o zs H ri fa)(sn:Sn H B.ps zs B.p)(x k:Int)(hk:kindB k=true):
  Calls Tryz.prog 42 #[.pointer (some ⟨B.q,0,none⟩),.int .i64 x,.int .i64 k] w fun e w'=>e=.returned (.tuple #[.int .i64 (plV H B.ps zs x k),.int .i64 (plC H B.ps zs x k)])∧Below w.heap.size w w':=
 s_place B.q _ _ i o H B.pg B.pc B.ps B.gm B.p B.mc zs ri fa 0 w R.v (R.hc.mono (Nat.zero_le _)) R.ls (R.hm.mono (Nat.zero_le _)) sn x k hk
theorem wrap16_two(a:Int):IntKind.i16.wrap (IntKind.u16.wrap a)=IntKind.i16.wrap a:=by simp[IntKind.wrap,IntKind.bits,IntKind.signed]
theorem z_off(im:Int)(w:World):Calls Tryz.prog 101 #[.int .i64 im] w fun e w'=>e=.returned (.int .i64 (offV im))∧w'=w:=by
 have h:=wrap16_two im
 go_enter Tryz.func101,Tryz.ntmps101
 go_wp2
 all_goals go_ret
 all_goals exact⟨rfl,rfl⟩
def tkV(H:Ht)(op:Int)(d a:Nat):Bool:=if op=16 then gt H.regs d==gt H.regs a else if op=17 then gt H.regs d !=gt H.regs a else decide (sgn (gt H.regs d)<sgn (gt H.regs a))
theorem z_taken(R:Bs w B i o zs H ri fa)(op:Int)(d a:Nat)(hd:d<16)(ha:a<16)(im:Int)(ho:op=16∨op=17∨op=18):
  Calls Tryz.prog 104 #[.pointer (some ⟨B.q,3,none⟩),.agg #[.int .i64 op,.int .i64 (d:Int),.int .i64 (a:Int),.int .i64 im]] w fun e w'=>e=.returned (.bool (tkV H op d a))∧Below w.heap.size w w':=by
 have c3:w.cell? ⟨B.q,3,none⟩=some (.slice (some ⟨B.rg,0,none⟩) 16 B.rk):=R.v.cell 3 rfl
 have cd:w.cell? ⟨B.rg,d,none⟩=some (.int .i64 (gt H.regs d)):=R.hr.cell R.hr.len d hd
 have ca:w.cell? ⟨B.rg,a,none⟩=some (.int .i64 (gt H.regs a)):=R.hr.cell R.hr.len a ha
 have hdI:(d:Int)<16:=by omega
 have haI:(a:Int)<16:=by omega
 obtain⟨x,hx⟩:∃x,gt H.regs d=x:=⟨_,rfl⟩
 obtain⟨y,hy⟩:∃y,gt H.regs a=y:=⟨_,rfl⟩
 have HX:Hid (gt H.regs d=x∧gt H.regs a=y):=⟨hx,hy⟩
 rw[hx]at cd
 rw[hy]at ca
 clear R hx hy
 have HT:Hid (tkV H op d a=if op=16 then x==y else if op=17 then x !=y else decide (sgn x<sgn y)):=by show _=_;unfold tkV;rw[HX.out.1,HX.out.2]
 generalize hW:w.alloc (.cells #[.int .i64 op,.int .i64 (d:Int),.int .i64 (a:Int),.int .i64 im] 43)=W
 have B0:Hid (Below w.heap.size w W):=by show Below _ _ _;rw[←hW];exact al (Below.refl _ _) _
 obtain⟨n,hn⟩:∃n,w.heap.size=n:=⟨_,rfl⟩
 have VN:Hid (Vb W n #[.int .i64 op,.int .i64 (d:Int),.int .i64 (a:Int),.int .i64 im] 43):=by show Vb _ _ _ _;rw[←hW,←hn];exact Vb.new _ _ _
 have c3:=cell_keep B0.out c3
 have cd:=cell_keep B0.out cd
 have ca:=cell_keep B0.out ca
 have n0:W.cell? ⟨n,0,none⟩=some (.int .i64 op):=VN.out.cell 0 rfl
 have n1:W.cell? ⟨n,1,none⟩=some (.int .i64 (d:Int)):=VN.out.cell 1 rfl
 have n2:W.cell? ⟨n,2,none⟩=some (.int .i64 (a:Int)):=VN.out.cell 2 rfl
 rcases ho with rfl|rfl|rfl
 ·go_enter Tryz.func104,Tryz.ntmps104
  go_upto_region 1 with fail
  clear hW hn
  go_quiet (fail)
  go_wp2_with fail
  go_quiet (fail)
  go_wp2_with fail
  go_ret
  exact⟨by rw[HT.out];rfl,by first|exact dr B0.out _|exact dr (dr B0.out _) _⟩
 ·go_enter Tryz.func104,Tryz.ntmps104
  go_upto_region 1 with fail
  clear hW hn
  go_quiet (fail)
  go_wp2_with fail
  go_quiet (fail)
  go_wp2_with fail
  go_ret
  exact⟨by rw[HT.out];rfl,by first|exact dr B0.out _|exact dr (dr B0.out _) _⟩
 ·go_enter Tryz.func104,Tryz.ntmps104
  go_upto_region 1 with fail
  clear hW hn
  go_quiet (fail)
  go_wp2_with fail
  go_quiet (fail)
  go_wp2_with (go_at_call 134;refine(spec_signed _ _).mono ?_;rintro e u ⟨rfl,hu⟩;rw[hu];clear hu u)
  go_ret
  exact⟨by rw[HT.out];rfl,by first|exact dr B0.out _|exact dr (dr B0.out _) _⟩
end Go.Proofs.YtaefollmeoepkaaGreatDoor
