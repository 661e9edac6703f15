import Derived.Test.YtaefollmeoepkaaGreatDoorQ23
import Derived.Test.YtaefollmeoepkaaGreatDoorQ28
namespace Go.Proofs.YtaefollmeoepkaaGreatDoor
set_option maxRecDepth 20000
set_option maxHeartbeats 16000000
open Go.RowKit
set_option linter.unusedVariables false
structure Rw(w:World)(base q:Nat)(i o:Value)(pg pc:Nat)(ps:List (Int×Int))(g p:Nat)(zs:List Int)(H:Ht)(ca ri:Int)(X:Nat→Prop):Prop where
 v:Vb w q (mcr H i o (.slice (some ⟨pg,0,none⟩) 8 pc) (.slice (some ⟨g,0,none⟩) p p) ca ri) 78
 hi:Rv w i H.inn
 ib:∀k,i.ownBlock=some k→base≤k∧k<w.heap.size∧k≠q∧k≠g
 ho:∃bo,base≤bo∧bo≤w.heap.size∧Nums w bo o H.out∧∀k,i.ownBlock=some k→k<bo
 pgs:Pags w base (.slice (some ⟨g,0,none⟩) p p) p zs
 ls:Prs 36 w 0 (.slice (some ⟨pg,0,none⟩) 8 pc) ps
 lb:pg<base
 qb:base≤q
 gq:g≠q
 sn:Sn H ps zs p
 tab:Tab w
 tb:0<base
 bx:∀k,X k→Vb w k #[.pointer (some ⟨q,0,none⟩)] 114∧k≠q∧k≠g
theorem Sn.to_hok{H G:Ht}{ps:List (Int×Int)}{zs:List Int}{p:Nat}(s:Sn H ps zs p)(k:Hok G):Sn G ps zs p:=by
 have ht:=k.st
 unfold standC at ht
 simp at ht
 exact⟨k,s.l8,s.ok,s.zl,s.p1,s.p24,s.zw,s.tl,(all_at k.cw 10).1,by unfold tabV;simp;omega⟩
theorem Sn.to_mem{H:Ht}{ps:List (Int×Int)}{zs ys:List Int}{p:Nat}(s:Sn H ps zs p)(hl:ys.length=zs.length)(hw:ys.all isW=true):Sn H ps ys p:=
 ⟨s.hok,s.l8,s.ok,hl.trans s.zl,s.p1,s.p24,hw,s.tl,s.t0,s.t8⟩
theorem Mq.low{S:Nat→Prop}{base:Nat}{w w':World}(m:Mq S w w')(h:∀k,S k→base≤k)(hb:base≤w.heap.size):Below base w w':=
 ⟨m.os,m.tape,m.output,m.size,fun k hk=>m.block k (by omega) fun e=>by have:=h k e;omega⟩
theorem bless{B B':Nat}{w w':World}(h:Below B w w')(hb:B'≤B):Below B' w w':=⟨h.os,h.tape,h.output,h.size,fun k hk=>h.block k (by omega)⟩
theorem Prs.low{base:Nat}{e:TypeId}{w w':World}{b:Nat}{v:Value}{rs:List (Int×Int)}(h:Prs e w b v rs)(hb:∀k,v.ownBlock=some k→k<base)(B:Below base w w'):Prs e w' b v rs:=by
 obtain⟨h1,h2|⟨g,cap,cur,hv,hg,hr,rest⟩⟩:=h
 ·exact⟨h1,.inl h2⟩
 ·refine⟨h1,.inr ⟨g,cap,cur,hv,hg,?_,rest⟩⟩
  rw[B.block g (hb g (by rw[hv];rfl))]
  exact hr
theorem cell_low{base:Nat}{w w':World}{k j:Nat}{v:Value}(B:Below base w w')(hk:k<base)(h:w.cell? ⟨k,j,none⟩=some v):w'.cell? ⟨k,j,none⟩=some v:=by
 unfold World.cell? at h ⊢
 rw[B.block k hk]
 exact h
theorem Tab.low{base:Nat}{w w':World}(h:Tab w)(B:Below base w w')(hb:0<base):Tab w':=⟨cell_low B hb h.c0,cell_low B hb h.c1,cell_low B hb h.c3⟩
theorem Mq.pags{S:Nat→Prop}{w w':World}{base g p:Nat}{zs:List Int}(m:Mq S w w')(h:Pags w base (.slice (some ⟨g,0,none⟩) p p) p zs)(hn:¬S g):Pags w' base (.slice (some ⟨g,0,none⟩) p p) p zs:=by
 obtain⟨h1,h2|⟨g',cap,cur,hv,hg,hr,rest⟩⟩:=h
 ·exact⟨h1,.inl h2⟩
 ·refine⟨h1,.inr ⟨g',cap,cur,hv,hg,?_,rest⟩⟩
  have e:g'=g:=by simp at hv;omega
  rw[m.block g' ((Array.getElem?_eq_some_iff.1 hr).1) (by rw[e];exact hn)]
  exact hr
theorem pags_mono{w:World}{base base':Nat}{v:Value}{n:Nat}{zs:List Int}(h:Pags w base v n zs)(hb:base'≤base):Pags w base' v n zs:=by
 obtain⟨h1,h2|⟨g,cap,cur,hv,hg,rest⟩⟩:=h
 ·exact⟨h1,.inl h2⟩
 ·exact⟨h1,.inr ⟨g,cap,cur,hv,Nat.le_trans hb hg,rest⟩⟩
variable{w:World}{base q:Nat}{i o:Value}{pg pc:Nat}{ps:List (Int×Int)}{g p:Nat}{zs:List Int}{X:Nat→Prop}{H:Ht}{ca ri:Int}
theorem Rw.size(h:Rw w base q i o pg pc ps g p zs H ca ri X):base≤w.heap.size:=by have:=h.v.lt;have:=h.qb;omega
theorem Rw.keep{w w':World}{base q:Nat}{i o:Value}{pg pc:Nat}{ps:List (Int×Int)}{g p:Nat}{zs:List Int}{X:Nat→Prop}{H:Ht}{ca ri:Int}(h:Rw w base q i o pg pc ps g p zs H ca ri X)(b:Below w.heap.size w w'):Rw w' base q i o pg pc ps g p zs H ca ri X:=
 ⟨h.v.keep b,h.hi.stay b,fun k e=>by obtain⟨a1,a2,a3⟩:=h.ib k e;exact⟨a1,Nat.lt_of_lt_of_le a2 b.size,a3⟩,by obtain⟨bo,b1,b2,b3,b4⟩:=h.ho;exact⟨bo,b1,Nat.le_trans b2 b.size,b3.keep b,b4⟩,h.pgs.keep b,h.ls.keep b,h.lb,h.qb,h.gq,h.sn,h.tab.keep b,h.tb,fun k e=>⟨(h.bx k e).1.keep b,(h.bx k e).2⟩⟩
theorem Rw.upd{w w':World}{base q:Nat}{i o:Value}{pg pc:Nat}{ps:List (Int×Int)}{g p:Nat}{zs:List Int}{X:Nat→Prop}{H G:Ht}{ca ri ca' ri':Int}(h:Rw w base q i o pg pc ps g p zs H ca ri X)(v:Vb w' q (mcr G i o (.slice (some ⟨pg,0,none⟩) 8 pc) (.slice (some ⟨g,0,none⟩) p p) ca' ri') 78)(m:Mq (fun j=>j=q) w w')(ei:G.inn=H.inn)(eo:G.out=H.out)(k:Hok G):Rw w' base q i o pg pc ps g p zs G ca' ri' X∧Below base w w':=by
 have B:=m.low (base:=base) (fun k e=>by have:=h.qb;omega) h.size
 refine⟨⟨v,?_,fun k e=>by obtain⟨a1,a2,a3⟩:=h.ib k e;exact⟨a1,Nat.lt_of_lt_of_le a2 m.size,a3⟩,?_,m.pags h.pgs h.gq,h.ls.low (fun k e=>by have e':pg=k:=(by simpa [Value.ownBlock]using e);have:=h.lb;omega) B,h.lb,h.qb,h.gq,h.sn.to_hok k,h.tab.low B h.tb,h.tb,fun k e=>⟨m.vb (h.bx k e).1 (h.bx k e).2.1,(h.bx k e).2⟩⟩,B⟩
 ·rw[ei]
  exact h.hi.mq m fun k e _ f=>(h.ib k e).2.2.1 f
 ·rw[eo]
  obtain⟨bo,b1,b2,b3,b4⟩:=h.ho
  exact⟨bo,b1,Nat.le_trans b2 m.size,m.nums b3 fun k e f=>b3.ne_vb (t:=78) h.v (by decide) (by rw[e,f]),b4⟩
theorem Rw.updI{w w':World}{base q:Nat}{i o:Value}{pg pc:Nat}{ps:List (Int×Int)}{g p:Nat}{zs:List Int}{X:Nat→Prop}{i':Value}{H G:Ht}{ca ri:Int}(h:Rw w base q i o pg pc ps g p zs H ca ri X)(v:Vb w' q (mcr G i' o (.slice (some ⟨pg,0,none⟩) 8 pc) (.slice (some ⟨g,0,none⟩) p p) ca ri) 78)(m:Mq (fun j=>j=q) w w')(r:Rv w' i' G.inn)(sub:∀k,i'.ownBlock=some k→i.ownBlock=some k)(eo:G.out=H.out)(k:Hok G):Rw w' base q i' o pg pc ps g p zs G ca ri X∧Below base w w':=by
 have B:=m.low (base:=base) (fun k e=>by have:=h.qb;omega) h.size
 refine⟨⟨v,r,fun k e=>by obtain⟨a1,a2,a3⟩:=h.ib k (sub k e);exact⟨a1,Nat.lt_of_lt_of_le a2 m.size,a3⟩,?_,m.pags h.pgs h.gq,h.ls.low (fun k e=>by have e':pg=k:=(by simpa [Value.ownBlock]using e);have:=h.lb;omega) B,h.lb,h.qb,h.gq,h.sn.to_hok k,h.tab.low B h.tb,h.tb,fun k e=>⟨m.vb (h.bx k e).1 (h.bx k e).2.1,(h.bx k e).2⟩⟩,B⟩
 rw[eo]
 obtain⟨bo,b1,b2,b3,b4⟩:=h.ho
 exact⟨bo,b1,Nat.le_trans b2 m.size,m.nums b3 fun k e f=>b3.ne_vb (t:=78) h.v (by decide) (by rw[e,f]),fun k e=>b4 k (sub k e)⟩
theorem Nums.ne_pags{w:World}{b base g p:Nat}{v:Value}{zs ys:List Int}(h:Nums w b v ys)(k:Pags w base (.slice (some ⟨g,0,none⟩) p p) p zs):v.ownBlock≠some g:=by
 intro e
 have hh:=k.heap
 obtain⟨h1,h2|⟨g',cap,cur,hv,hg,hr,rest⟩⟩:=h
 ·rw[h2.1]at e;cases e
 ·subst hv
  have e':g'=g:=by simpa [Value.ownBlock]using e
  subst e'
  rw[hh]at hr
  simp at hr
def pan(c t:Int):Ending:=.panicked [{ v:=.iface 116 (.agg #[.int .i64 c,.int .i64 t]),recovered:=false}]
def putV(H:Ht)(d x:Int):Ht:=if d=0 then H else{ H with regs:=H.regs.set d.toNat x}
theorem putV_hok{H:Ht}(K:Hok H){d x:Int}(h0:0≤d)(h15:d≤15)(hx:isW x=true):Hok (putV H d x):=by
 unfold putV
 split
 ·exact K
 ·rename_i hd
  refine⟨by simp[K.r16],K.c11,?_,all_set K.rw hx,K.pw,K.cw,K.iw,K.ow,K.i40,K.o40,K.d0,K.d9,K.st⟩
  have:=gt_set H.regs d.toNat 0 x (by have:=K.r16;omega)
  rw[if_neg (by omega)]at this
  exact this.trans K.r0
theorem mcr_reg(H:Ht)(i o l pg:Value)(ca ri:Int)(n:Nat)(u:Int)(hn:n<16)(hc:H.regs.length=16):(mcr H i o l pg ca ri).setIfInBounds n (.int .i64 u)=mcr { H with regs:=H.regs.set n u} i o l pg ca ri:=by
 have g:∀j,gt (H.regs.set n u) j=if j=n then u else gt H.regs j:=fun j=>gt_set _ _ _ _ (by omega)
 have e:n=0∨n=1∨n=2∨n=3∨n=4∨n=5∨n=6∨n=7∨n=8∨n=9∨n=10∨n=11∨n=12∨n=13∨n=14∨n=15:=by omega
 unfold mcr
 simp only[g]
 rcases e with rfl|rfl|rfl|rfl|rfl|rfl|rfl|rfl|rfl|rfl|rfl|rfl|rfl|rfl|rfl|rfl<;>rfl
theorem mcr_reg_at(H:Ht)(i o l pg:Value)(ca ri:Int)(n:Nat)(hn:n<16):(mcr H i o l pg ca ri)[n]? =some (.int .i64 (gt H.regs n)):=by
 have e:n=0∨n=1∨n=2∨n=3∨n=4∨n=5∨n=6∨n=7∨n=8∨n=9∨n=10∨n=11∨n=12∨n=13∨n=14∨n=15:=by omega
 rcases e with rfl|rfl|rfl|rfl|rfl|rfl|rfl|rfl|rfl|rfl|rfl|rfl|rfl|rfl|rfl|rfl<;>rfl
theorem r_put(R:Rw w base q i o pg pc ps g p zs H ca ri X)(d x:Int)(h0:0≤d)(h15:d≤15)(hx:isW x=true):
  Calls Tryz.prog 111 #[.pointer (some ⟨q,0,none⟩),.int .i64 d,.int .i64 x] w fun e w'=>e=.returned (.tuple #[])∧(Rw w' base q i o pg pc ps g p zs (putV H d x) ca ri X∧Below base w w')∧Mq (fun j=>j=q) w w':=by
 by_cases hd:d=0
 ·subst hd
  have HR:=hid R
  clear R
  go_enter Tryz.func111,Tryz.ntmps111
  go_wp2_with fail
  go_end0
  exact⟨rfl,⟨HR.out,Below.refl _ _⟩,Mq.refl _ _⟩
 ·obtain⟨n,rfl⟩:∃n:Nat,d=n:=⟨d.toNat,by omega⟩
  have hn:n<16:=by omega
  have hI:(n:Int)<16:=by omega
  have hdb:((n:Int) !=0)=true:=by simpa using hd
  have HR:=hid R
  have HN:=hid hn
  have HX:=hid hx
  have ce:=R.v.cell n (mcr_reg_at _ _ _ _ _ _ _ n hn)
  have fe:=R.v.free n
  have HP:Hid (putV H (n:Int) x={ H with regs:=H.regs.set n x}):=by show _=_;unfold putV;rw[if_neg hd];rfl
  clear R hx hd h0 h15
  go_enter Tryz.func111,Tryz.ntmps111
  go_wp2_with fail
  go_end0
  have V:=HR.out.v.set n (.int .i64 x)
  rw[mcr_reg _ _ _ _ _ _ _ n x HN.out HR.out.sn.hok.r16]at V
  have K:=putV_hok HR.out.sn.hok (d:=n) (x:=x) (by omega) (by have:=HN.out;omega) HX.out
  rw[HP.out]at K ⊢
  exact⟨rfl,HR.out.upd V ((Mq.refl _ _).set ⟨q,n,none⟩ _ rfl) rfl rfl K,(Mq.refl _ _).set ⟨q,n,none⟩ _ rfl⟩
theorem r_reachOk(R:Rw w base q i o pg pc ps g p zs H ca ri X)(x k c:Int)(hk:kindB k=true)(hz:plC H ps zs x k=0):
  Calls Tryz.prog 120 #[.pointer (some ⟨q,0,none⟩),.int .i64 x,.int .i64 k,.int .i64 c] w fun e w'=>e=.returned (.int .i64 (plV H ps zs x k))∧Below w.heap.size w w':=by
 have P:=i_place q i o H pg pc ps g p zs ca ri 0 w R.v R.ls (pags_mono R.pgs (Nat.zero_le _)) R.sn x k hk
 rw[hz]at P
 generalize plV H ps zs x k=v at*
 clear R hk hz
 go_enter Tryz.func120,Tryz.ntmps120
 go_wp2_with fail
 refine P.mono ?_
 rintro e w1⟨rfl,b1⟩
 have B1:=hid b1
 clear P b1
 go_wp2_with fail
 go_ret
 exact⟨rfl,al B1.out _⟩
theorem r_reachNo(R:Rw w base q i o pg pc ps g p zs H ca ri X)(x k c:Int)(hk:kindB k=true)(hz:¬plC H ps zs x k=0):
  Calls Tryz.prog 120 #[.pointer (some ⟨q,0,none⟩),.int .i64 x,.int .i64 k,.int .i64 c] w fun e w'=>e=pan c x∧Below w.heap.size w w':=by
 have P:=i_place q i o H pg pc ps g p zs ca ri 0 w R.v R.ls (pags_mono R.pgs (Nat.zero_le _)) R.sn x k hk
 have hzb:(plC H ps zs x k !=0)=true:=by simpa using hz
 generalize plV H ps zs x k=v at*
 generalize plC H ps zs x k=d at*
 clear R hk hz
 go_enter Tryz.func120,Tryz.ntmps120
 go_wp2_with fail
 refine P.mono ?_
 rintro e w1⟨rfl,b1⟩
 have B1:=hid b1
 clear P b1
 go_wp2_with fail
 exact⟨rfl,rfl,al B1.out _⟩
theorem r_branch(R:Rw w base q i o pg pc ps g p zs H ca ri X)(t:Bool)(f n:Int):
  Calls Tryz.prog 115 #[.pointer (some ⟨q,0,none⟩),.bool t,.int .i64 f,.int .i64 n] w fun e w'=>e=.returned (.int .i64 (if t then addV H.pc f else n))∧Below w.heap.size w w':=by
 have c16:w.cell? ⟨q,16,none⟩=some (.int .i64 H.pc):=R.v.cell 16 rfl
 clear R
 cases t
 ·go_enter Tryz.func115,Tryz.ntmps115
  go_wp2_with fail
  go_ret
  exact⟨rfl,Below.refl _ _⟩
 ·go_enter Tryz.func115,Tryz.ntmps115
  go_wp2_with (go_at_call 22;refine(impl_add _ _ _).mono ?_;rintro e y ⟨rfl,hy⟩;rw[hy];clear hy y)
  go_ret
  exact⟨rfl,Below.refl _ _⟩
theorem r_dueNo(R:Rw w base q i o pg pc ps g p zs H ca ri X)(hz:dueV H<0):
  Calls Tryz.prog 73 #[.pointer (some ⟨q,0,none⟩)] w fun e w'=>e=.returned (.tuple #[])∧Below w.heap.size w w':=by
 have P:=r_due q i o _ _ ca ri H w R.v R.hi R.sn.hok R.tab
 have e1:dueP H=(4,0):=if_pos hz
 rw[e1]at P
 clear R hz e1
 go_enter Tryz.func73,Tryz.ntmps73
 go_wp2_with fail
 refine P.mono ?_
 rintro e w1⟨rfl,b1⟩
 have B1:=hid b1
 clear P b1
 go_wp2_with fail
 go_end0
 exact⟨rfl,al B1.out _⟩
theorem r_dueYes(R:Rw w base q i o pg pc ps g p zs H ca ri X)(hz:¬dueV H<0):
  Calls Tryz.prog 73 #[.pointer (some ⟨q,0,none⟩)] w fun e w'=>e=pan (16+dueV H) 0∧Below w.heap.size w w':=by
 have P:=r_due q i o _ _ ca ri H w R.v R.hi R.sn.hok R.tab
 have e1:dueP H=(0,dueV H):=if_neg hz
 rw[e1]at P
 have hl:dueV H≤3:=by
  unfold dueV
  split
  ·omega
  ·unfold lowV
   split
   ·omega
   ·split<;>omega
 generalize dueV H=d at*
 have h0:0≤d:=by omega
 clear R hz e1
 go_enter Tryz.func73,Tryz.ntmps73
 go_wp2_with fail
 refine P.mono ?_
 rintro e w1⟨rfl,b1⟩
 have B1:=hid b1
 clear P b1
 go_wp2_with fail
 exact⟨rfl,rfl,al B1.out _⟩
theorem r_waits(R:Rw w base q i o pg pc ps g p zs H ca ri X):
  Calls Tryz.prog 74 #[.pointer (some ⟨q,0,none⟩)] w fun e w'=>e=.returned (.bool (H.waiting&&decide (bothV H=0)))∧Rw w' base q i o pg pc ps g p zs { H with waiting:=H.waiting&&decide (bothV H=0)} ca ri X∧Below base w w':=by
 have P:=r_wanted q i o _ _ ca ri H w R.v R.hi (all_at R.sn.hok.cw 7).1 (all_at R.sn.hok.cw 7).2
 have HR:=hid R
 clear R
 have KH:∀b,Hok { H with waiting:=b}:=fun b=>⟨HR.out.sn.hok.r16,HR.out.sn.hok.c11,HR.out.sn.hok.r0,HR.out.sn.hok.rw,HR.out.sn.hok.pw,HR.out.sn.hok.cw,HR.out.sn.hok.iw,HR.out.sn.hok.ow,HR.out.sn.hok.i40,HR.out.sn.hok.o40,HR.out.sn.hok.d0,HR.out.sn.hok.d9,HR.out.sn.hok.st⟩
 have HKK:Hid (∀b,Hok { H with waiting:=b}):=KH
 clear KH
 by_cases hb:bothV H=0
 ·rw[hb]at P
  have E:Hid ((H.waiting&&decide (bothV H=0))=H.waiting):=by show _=_;simp[hb]
  rw[E.out]
  clear hb
  go_enter Tryz.func74,Tryz.ntmps74
  go_wp2_with fail
  refine P.mono ?_
  rintro e w1⟨rfl,b1⟩
  have R1:=hid (HR.out.keep b1)
  have B1:Hid (Below base w w1):=bless b1 HR.out.size
  have c29:=R1.out.v.cell 29 rfl
  clear P b1
  go_wp2_with fail
  go_ret
  exact⟨rfl,R1.out,B1.out⟩
 ·have E:Hid ((H.waiting&&decide (bothV H=0))=false):=by show _=_;simp[hb]
  rw[E.out]
  have hbb:(bothV H !=0)=true:=by simpa using hb
  generalize bothV H=z at*
  clear hb
  go_enter Tryz.func74,Tryz.ntmps74
  go_wp2_with fail
  refine P.mono ?_
  rintro e w1⟨rfl,b1⟩
  have R1:=hid (HR.out.keep b1)
  have B1:Hid (Below base w w1):=bless b1 HR.out.size
  have c29:=R1.out.v.cell 29 rfl
  have f29:=R1.out.v.free 29
  have VS:=R1.out.v.set 29 (.bool false)
  rw[mcr_wait]at VS
  have d29:=VS.cell 29 rfl
  have U:=R1.out.upd VS ((Mq.refl _ _).set ⟨q,29,none⟩ _ rfl) rfl rfl (HKK.out false)
  have UU:Hid (_∧_):=U
  clear P b1 VS U
  go_wp2_with fail
  go_ret
  exact⟨rfl,UU.out.1,B1.out.trans UU.out.2⟩
theorem add_one(x:Addr)(i:Nat):(x.add 1).add i=x.add (i+1):=by rw[Go.Deep.add_add,Nat.add_comm]
variable{w:World}{x:Addr}{n cap:Nat}{zs:List Int}
theorem rv_tl(h:Rn w (some x) n cap zs)(hz:0<n):Rv w (.slice (some (x.add 1)) (n-1) (cap-1)) zs.tail:=by
 rcases h with⟨h0,_⟩|⟨y,hy,h1,h2,h3,h4⟩
 ·cases h0
 ·cases hy
  refine⟨some (x.add 1),cap-1,by rw[List.length_tail,h3],.inr ⟨_,rfl,by rw[List.length_tail];omega,by omega,rfl,fun i hi=>?_⟩⟩
  rw[List.length_tail]at hi
  rw[add_one,h4 (i+1) (by omega)]
  cases zs with
  |nil=>simp at h3;omega
  |cons z zs=>rfl
theorem rv_tl1(h:Rn w (some x) n cap zs)(hz:0<n)(h1:cap=1):Rv w (.slice (some x) (n-1) 0) zs.tail:=by
 have hn:=h.len
 have hc:=h.cap
 have e:zs.tail=[]:=List.eq_nil_of_length_eq_zero (by rw[List.length_tail];omega)
 have e2:n-1=0:=by omega
 rw[e,e2]
 exact⟨some x,0,rfl,.inr ⟨x,rfl,Nat.le_refl _,Nat.zero_le _,rfl,fun i hi=>absurd hi (by simp)⟩⟩
theorem r_take(q:Nat)(i o l pg:Value)(ca ri:Int)(H:Ht)(w:World)(hv:Vb w q (mcr H i o l pg ca ri) 78)(hi:Rv w i H.inn)(hb:∀k,i.ownBlock=some k→k≠q):
  Calls Tryz.prog 161 #[.pointer (some ⟨q,0,none⟩)] w fun e w'=>e=.returned (.int .i64 (H.inn.headD 0))∧∃i',Vb w' q (mcr { H with inn:=H.inn.tail} i' o l pg ca ri) 78∧Rv w' i' H.inn.tail∧(∀k,i'.ownBlock=some k→i.ownBlock=some k)∧Mq (fun j=>j=q) w w':=by
 obtain⟨a,cap,rfl,hr⟩:=hi
 obtain⟨n,hn⟩:∃n,H.inn.length=n:=⟨_,rfl⟩
 rw[hn]at hv hr hb
 have HN:=hid hn
 have HV:=hid hv
 have HI:=hid hr
 have HB:=hid hb
 have c32:w.cell? ⟨q,32,none⟩=some (.slice a n cap):=hv.cell 32 rfl
 have f32:=hv.free 32
 have hc:=hr.cap
 rw[hn]
 clear hv hr hn hb
 by_cases h0:n=0
 ·subst h0
  have E0:Hid (H.inn=[]):=List.eq_nil_of_length_eq_zero HN.out
  go_enter Tryz.func161,Tryz.ntmps161
  go_wp2_with fail
  go_ret
  refine⟨by rw[E0.out];rfl,.slice a 0 cap,HV.out,?_,fun k e=>e,Mq.refl _ _⟩
  have:=HI.out.rv
  rw[E0.out]at this ⊢
  exact this
 ·obtain⟨x,rfl⟩:∃x,a=some x:=by
   rcases HI.out with⟨_,h1,_⟩|⟨x,hx,_⟩
   ·exact absurd h1 h0
   ·exact⟨x,hx⟩
  obtain⟨x',hx',c0⟩:=HI.out.at 0 (by omega)
  cases hx'
  have ex:x.add 0=x:=by cases x;unfold Addr.add;split<;>simp_all
  rw[ex]at c0
  clear ex
  have hI:¬(n:Int)=0:=by omega
  have hI0:((n:Int)==0)=false:=by simpa using hI
  have hI1:(1:Int)≤(n:Int):=by omega
  have hI2:0<n:=by omega
  have hI3:1≤n:=by omega
  have H0:=hid hI2
  have M1:Hid (∀v,Mq (fun j=>j=q) w (w.setCell ⟨q,32,none⟩ v)):=fun v=>(Mq.refl _ _).set ⟨q,32,none⟩ v rfl
  have R1:Hid (∀v,Rn (w.setCell ⟨q,32,none⟩ v) (some x) n cap H.inn):=fun v=>HI.out.mq (M1.out v) fun y e _ f=>by cases e;exact HB.out _ rfl f
  clear h0
  go_enter Tryz.func161,Tryz.ntmps161
  go_wp2_with fail
  ·go_ret
   refine⟨by rw[←head_get2];rfl,_,HV.out.set 32 _,rv_tl1 (R1.out _) H0.out (by assumption),fun k e=>e,M1.out _⟩
  ·go_ret
   refine⟨by rw[←head_get2];rfl,_,HV.out.set 32 _,rv_tl (R1.out _) H0.out,fun k e=>by rw[←e];rfl,M1.out _⟩
theorem tail_hok{H:Ht}(K:Hok H):Hok { H with inn:=H.inn.tail}:=
 ⟨K.r16,K.c11,K.r0,K.rw,K.pw,K.cw,List.all_eq_true.2 fun x hx=>List.all_eq_true.1 K.iw x (List.mem_of_mem_tail hx),K.ow,by show H.inn.tail.length≤40;have:=K.i40;rw[List.length_tail];omega,K.o40,K.d0,K.d9,K.st⟩
variable{w:World}{base q:Nat}{i o:Value}{pg pc:Nat}{ps:List (Int×Int)}{g p:Nat}{zs:List Int}{X:Nat→Prop}{H:Ht}{ca ri:Int}
theorem r_read(R:Rw w base q i o pg pc ps g p zs H ca ri X)(k:Int)(h0:0≤k)(h7:k≤7):
  Calls Tryz.prog 153 #[.pointer (some ⟨q,0,none⟩),.int .i64 k] w fun e w'=>e=.returned (.int .i64 (drV H k))∧∃i',Rw w' base q i' o pg pc ps g p zs (drH H k) ca ri X∧Below base w w'∧Mq (fun j=>j=q) w w':=by
 have HR:=hid R
 by_cases k1:k=1
 ·subst k1
  clear R
  go_enter Tryz.func153,Tryz.ntmps153
  go_wp2_with fail
  refine(r_take q i o _ _ ca ri H _ HR.out.v HR.out.hi (fun k e=>(HR.out.ib k e).2.2.1)).mono ?_
  rintro e w1⟨rfl,i1,v1,r1,s1,m1⟩
  have U:Hid (_∧_):=HR.out.updI v1 m1 r1 s1 rfl (tail_hok HR.out.sn.hok)
  have M1:=hid m1
  clear v1 r1 m1 s1
  go_wp2_with fail
  go_ret
  exact⟨by show Ending.returned (Value.int .i64 (H.inn.head?.getD 0))=_;rw[←head_get2,head_get];rfl,i1,U.out.1,U.out.2,M1.out⟩
 have e1:drH H k=H:=drH_ne' H k1
 rw[e1]
 clear e1
 by_cases k2:k=2
 ·subst k2
  clear R
  go_enter Tryz.func153,Tryz.ntmps153
  go_wp2_with (go_at_call 117;refine(r_get q i o _ _ ca ri H 8 _ HR.out.v HR.out.hi (by decide) (by decide)).mono ?_;rintro e y ⟨rfl,hy⟩;rw[hy];clear hy y)
  go_ret
  exact⟨rfl,_,HR.out,Below.refl _ _,Mq.refl _ _⟩
 by_cases k3:k=3
 ·subst k3
  clear R
  go_enter Tryz.func153,Tryz.ntmps153
  go_wp2_with (go_at_call 117;refine(r_get q i o _ _ ca ri H 9 _ HR.out.v HR.out.hi (by decide) (by decide)).mono ?_;rintro e y ⟨rfl,hy⟩;rw[hy];clear hy y)
  go_ret
  exact⟨rfl,_,HR.out,Below.refl _ _,Mq.refl _ _⟩
 by_cases k4:k=4
 ·subst k4
  clear R
  go_enter Tryz.func153,Tryz.ntmps153
  go_wp2_with (go_at_call 117;refine(r_get q i o _ _ ca ri H 6 _ HR.out.v HR.out.hi (by decide) (by decide)).mono ?_;rintro e y ⟨rfl,hy⟩;rw[hy];clear hy y)
  go_ret
  exact⟨rfl,_,HR.out,Below.refl _ _,Mq.refl _ _⟩
 by_cases k6:k=6
 ·subst k6
  obtain⟨a2,n2,hv,_⟩:=R.hi.shape
  have c32:w.cell? ⟨q,32,none⟩=some i:=R.v.cell 32 rfl
  rw[hv]at c32
  clear R hv
  go_enter Tryz.func153,Tryz.ntmps153
  go_wp2_with fail
  go_ret
  exact⟨rfl,_,HR.out,Below.refl _ _,Mq.refl _ _⟩
 have HD:Hid (drV H k=0):=by show _=_;simp[drV,k1,k2,k3,k4,k6]
 clear R
 go_enter Tryz.func153,Tryz.ntmps153
 go_wp2_with fail
 go_ret
 exact⟨by rw[HD.out];rfl,_,HR.out,Below.refl _ _,Mq.refl _ _⟩
theorem out_hok{H:Ht}(K:Hok H){x:Int}(hx:isW x=true)(hl:H.out.length<40):Hok { H with out:=H.out++ [x]}:=
 ⟨K.r16,K.c11,K.r0,K.rw,K.pw,K.cw,K.iw,by show(H.out++ [x]).all isW=true;rw[List.all_append,K.ow];simp[hx],K.i40,by show(H.out++ [x]).length≤40;simp;omega,K.d0,K.d9,K.st⟩
theorem setW_hok{H:Ht}(K:Hok H){k x:Int}(h0:0≤k)(h10:k≤10)(hx:isW x=true):Hok (setW H k x):=by
 have e:setV H k x=setW H k x:=by rw[setW_wd];congr 1;have:=isW_true hx;unfold wd;omega
 rw[←e]
 exact setV_hok K k x h0 h10
theorem r_tell(R:Rw w base q i o pg pc ps g p zs H ca ri X)(x:Int)(a:Option Addr)(c:Nat)(hx:isW x=true)(hR:Rn w a 1 c [x])(hf:H.out.length<40):
  Calls Tryz.prog 162 #[.pointer (some ⟨q,0,none⟩),.slice a 1 c] w fun e w'=>e=.returned (.bool true)∧∃o',(Rw w' base q i o' pg pc ps g p zs { H with out:=H.out++ [x]} ca ri X∧Below base w w')∧Mq (fun k=>k=q∨o.ownBlock=some k) w w':=by
 have HR:=hid R
 have HF:Hid (Rn w a 1 c [x]∧H.out.length<40∧isW x=true):=⟨hR,hf,hx⟩
 clear R hR hf hx
 obtain⟨bo,b1,b2,b3,b4⟩:=HR.out.ho
 have HO:Hid (base≤bo∧bo≤w.heap.size∧Nums w bo o H.out∧∀k,i.ownBlock=some k→k<bo):=⟨b1,b2,b3,b4⟩
 clear b1 b2 b3 b4
 go_enter Tryz.func162,Tryz.ntmps162
 go_wp2_with fail
 refine(i_queue q 33 (mcr H i o (.slice (some ⟨pg,0,none⟩) 8 pc) (.slice (some ⟨g,0,none⟩) p p) ca ri) _ o H.out a 1 c [x] bo _ HR.out.v rfl HO.out.2.2.1 (by decide) HF.out.1 (by have:=HF.out.2.1;omega) HO.out.2.1).mono ?_
 rintro e w1⟨rfl,o1,n1,v1,m1⟩
 have V1:=hid v1
 have N1:=hid n1
 have M1:=hid m1
 clear n1 v1 m1
 go_wp2_with fail
 go_ret
 have OB:=HO.out.2.2.1
 have LO:∀k,(k=q∨o.ownBlock=some k)→base≤k:=fun k e=>by
  rcases e with e|e
  ·have:=HR.out.qb;omega
  ·have:=(OB.lt k e).1;have:=HO.out.1;omega
 have B:=M1.out.low LO HR.out.size
 refine⟨rfl,o1,⟨⟨V1.out,HR.out.hi.mq M1.out fun k e _ f=>?_,fun k e=>?_,⟨bo,HO.out.1,Nat.le_trans HO.out.2.1 M1.out.size,N1.out,HO.out.2.2.2⟩,M1.out.pags HR.out.pgs fun f=>?_,HR.out.ls.low (fun k e=>by have e':pg=k:=(by simpa [Value.ownBlock]using e);have:=HR.out.lb;omega) B,HR.out.lb,HR.out.qb,HR.out.gq,HR.out.sn.to_hok (out_hok HR.out.sn.hok HF.out.2.2 HF.out.2.1),HR.out.tab.low B HR.out.tb,HR.out.tb,fun k e=>⟨M1.out.vb (HR.out.bx k e).1 (fun f=>f.elim (HR.out.bx k e).2.1 fun f=>OB.ne_vb (t:=114) (HR.out.bx k e).1 (by decide) f),(HR.out.bx k e).2⟩⟩,B⟩,M1.out⟩
 ·rcases f with f|f
  ·exact(HR.out.ib k e).2.2.1 f
  ·have:=HO.out.2.2.2 k e;have:=(OB.lt k f).1;omega
 ·obtain⟨a1,a2,a3⟩:=HR.out.ib k e
  exact⟨a1,Nat.lt_of_lt_of_le a2 M1.out.size,a3⟩
 ·rcases f with f|f
  ·exact HR.out.gq f
  ·exact OB.ne_pags HR.out.pgs f
theorem r_tellFull(R:Rw w base q i o pg pc ps g p zs H ca ri X)(a:Option Addr)(c:Nat)(hf:¬H.out.length<40):
  Calls Tryz.prog 162 #[.pointer (some ⟨q,0,none⟩),.slice a 1 c] w fun e w'=>e=.returned (.bool false)∧w'=w:=by
 have HR:=hid R
 have HF:=hid hf
 obtain⟨bo,b1,b2,b3,b4⟩:=R.ho
 have HO:=hid b3
 clear R hf b1 b2 b3 b4
 go_enter Tryz.func162,Tryz.ntmps162
 go_wp2_with fail
 refine(i_queue_full q 33 o H.out a 1 c bo _ (HR.out.v.cell 33 rfl) HO.out HR.out.sn.hok.o40 (by decide) (by have:=HF.out;omega)).mono ?_
 rintro e w1⟨rfl,rfl⟩
 go_wp2_with fail
 go_ret
 exact⟨rfl,rfl⟩
theorem r_write(R:Rw w base q i o pg pc ps g p zs H ca ri X)(k x:Int)(h0:0≤k)(h7:k≤7)(hx:isW x=true):
  Calls Tryz.prog 154 #[.pointer (some ⟨q,0,none⟩),.int .i64 k,.int .i64 x] w fun e w'=>e=.returned (.int .i64 (rgW k x))∧∃o',(Rw w' base q i o' pg pc ps g p zs (dwW H k x) ca ri X∧Below base w w')∧Mq (fun j=>j=q∨o.ownBlock=some j) w w':=by
 have HR:=hid R
 have HX:=hid hx
 clear R hx
 by_cases k0:k=0
 ·subst k0
  by_cases hl:H.out.length<40
  ·have HL:Hid (H.out.length<40):=hl
   have HD:Hid (dwW H 0 x={ H with out:=H.out++ [x]}):=by show _=_;simp[dwW,outW,hl]
   clear hl
   go_enter Tryz.func154,Tryz.ntmps154
   go_wp2_with fail
   refine(r_tell (HR.out.keep (al (Below.refl _ _) _)) x _ 1 HX.out (one_rn w x rfl) HL.out).mono ?_
   rintro e w1⟨rfl,o1,⟨r1,b1⟩,m1⟩
   have S1:Hid (Rw w1 base q i o1 pg pc ps g p zs { H with out:=H.out++ [x]} ca ri X∧Below base w w1):=⟨r1,(bless (al (Below.refl _ _) _) HR.out.size).trans b1⟩
   have M1:Hid (Mq (fun j=>j=q∨o.ownBlock=some j) w w1):=Mq.pre m1
   clear r1 b1 m1
   go_wp2_with fail
   go_ret
   exact⟨rfl,_,⟨by rw[HD.out];exact S1.out.1,S1.out.2⟩,M1.out⟩
  ·have HL:Hid (¬H.out.length<40):=hl
   have HD:Hid (dwW H 0 x=H):=by show _=_;simp[dwW,outW,hl]
   clear hl
   go_enter Tryz.func154,Tryz.ntmps154
   go_wp2_with fail
   refine(r_tellFull (HR.out.keep (al (Below.refl _ _) _)) _ 1 HL.out).mono ?_
   rintro e w1⟨rfl,hw1⟩
   have S1:Hid (Rw w1 base q i o pg pc ps g p zs H ca ri X∧Below base w w1):=by
    show _∧_
    rw[hw1]
    exact⟨HR.out.keep (al (Below.refl _ _) _),bless (al (Below.refl _ _) _) HR.out.size⟩
   have M1:Hid (Mq (fun j=>j=q∨o.ownBlock=some j) w w1):=by show Mq _ _ _;rw[hw1];exact Mq.pre (Mq.refl _ _)
   clear hw1
   go_wp2_with fail
   go_ret
   exact⟨rfl,_,⟨by rw[HD.out];exact S1.out.1,S1.out.2⟩,M1.out⟩
 by_cases k3:k=3
 ·subst k3
  go_enter Tryz.func154,Tryz.ntmps154
  go_wp2_with fail
  refine(r_set q i o _ _ ca ri H 9 x _ HR.out.v HR.out.sn.hok.c11 (by decide) (by decide) (isW_true HX.out).1 (isW_true HX.out).2).mono ?_
  rintro e w1⟨rfl,v1,m1⟩
  have U:Hid (_∧_):=HR.out.upd v1 m1 rfl rfl (setW_hok HR.out.sn.hok (k:=9) (by decide) (by decide) HX.out)
  have M1:Hid (Mq (fun j=>j=q∨o.ownBlock=some j) w w1):=m1.more fun k e=> .inl e
  clear v1 m1
  go_wp2_with fail
  go_ret
  exact⟨rfl,_,U.out,M1.out⟩
 by_cases k4:k=4
 ·subst k4
  go_enter Tryz.func154,Tryz.ntmps154
  go_wp2_with fail
  refine(r_set q i o _ _ ca ri H 6 x _ HR.out.v HR.out.sn.hok.c11 (by decide) (by decide) (isW_true HX.out).1 (isW_true HX.out).2).mono ?_
  rintro e w1⟨rfl,v1,m1⟩
  have U:Hid (_∧_):=HR.out.upd v1 m1 rfl rfl (setW_hok HR.out.sn.hok (k:=6) (by decide) (by decide) HX.out)
  have M1:Hid (Mq (fun j=>j=q∨o.ownBlock=some j) w w1):=m1.more fun k e=> .inl e
  clear v1 m1
  go_wp2_with fail
  go_ret
  exact⟨rfl,_,U.out,M1.out⟩
 have HD:Hid (dwW H k x=H):=by show _=_;simp[dwW,k0,k3,k4]
 by_cases k5:k=5
 ·subst k5
  go_enter Tryz.func154,Tryz.ntmps154
  go_wp2_with fail
  go_ret
  exact⟨rfl,_,⟨by rw[HD.out];exact HR.out,Below.refl _ _⟩,Mq.refl _ _⟩
 have HG:Hid (rgW k x= -1):=by show _=_;simp[rgW,k5]
 go_enter Tryz.func154,Tryz.ntmps154
 go_wp2_with fail
 go_ret
 exact⟨by rw[HG.out];rfl,_,⟨by rw[HD.out];exact HR.out,Below.refl _ _⟩,Mq.refl _ _⟩
theorem pl_cases{H:Ht}{ps:List (Int×Int)}{zs:List Int}{p:Nat}{x k:Int}(s:Sn H ps zs p)(hk:kindB k=true)(h:plC H ps zs x k=0):(∃a:Nat,plV H ps zs x k=(a:Int)∧a<p*8)∨∃d:Nat,plV H ps zs x k=1000+(d:Int)∧d≤7:=by
 by_cases h1:spC H ps=0
 ·unfold plC at h
  unfold plV
  rw[if_pos h1]at h ⊢
  by_cases h2:wkC (spP H ps zs) x k=0
  ·rw[if_pos h2]at h ⊢
   unfold behC at h
   unfold behV
   by_cases h3:wkV (spP H ps zs) x k/8=7
   ·rw[if_pos h3]at h ⊢
    by_cases h4:k=4
    ·rw[if_pos h4]at h
     exact absurd h (by decide)
    ·rw[if_neg h4]
     exact .inr ⟨(wkV (spP H ps zs) x k%8).toNat,by omega,by omega⟩
   ·rw[if_neg h3]at h ⊢
    generalize wkV (spP H ps zs) x k=y at*
    have hg:goesB ps y k=true:=by
     cases hg:goesB ps y k
     ·unfold wkC at h
      rw[hk,hg]at h
      exact absurd h (by rcases kind_cases hk with rfl|rfl|rfl<;>decide)
     ·rfl
    have e:wkV ps y k=goesTo ps y:=by unfold wkV;rw[hk,hg];rfl
    obtain⟨h0,h63,h4,h5⟩:=goes_in s.ok hg
    have h6:=s.tl (y/8).toNat (by omega)
    rw[e]
    unfold goesTo
    exact .inl ⟨((ps.getD (y/8).toNat (0,0)).1*8+y%8).toNat,by omega,by omega⟩
  ·rw[if_neg h2]at h
   exact absurd h h2
 ·unfold plC at h
  rw[if_neg h1]at h
  exact absurd h h1
def loadW(H:Ht)(ps:List (Int×Int))(zs:List Int)(x:Int):Int:=if plV H ps zs x 1<1000 then zs.getD (plV H ps zs x 1).toNat 0 else drV H (plV H ps zs x 1-1000)
def loadH(H:Ht)(ps:List (Int×Int))(zs:List Int)(x:Int):Ht:=if plV H ps zs x 1<1000 then H else drH H (plV H ps zs x 1-1000)
def storeZ(H:Ht)(ps:List (Int×Int))(zs:List Int)(x y:Int):List Int:=if plV H ps zs x 2<1000 then zs.set (plV H ps zs x 2).toNat y else zs
def storeH(H:Ht)(ps:List (Int×Int))(zs:List Int)(x y:Int):Ht:=if plV H ps zs x 2<1000 then H else dwW H (plV H ps zs x 2-1000) y
def storeR(H:Ht)(ps:List (Int×Int))(zs:List Int)(x y ri:Int):Int:=if plV H ps zs x 2<1000 then ri else if rgW (plV H ps zs x 2-1000) y= -1 then ri else rgW (plV H ps zs x 2-1000) y
theorem r_loadNo(R:Rw w base q i o pg pc ps g p zs H ca ri X)(x:Int)(hz:¬plC H ps zs x 1=0):
  Calls Tryz.prog 113 #[.pointer (some ⟨q,0,none⟩),.int .i64 x] w fun e w'=>e=pan 3 x∧Below w.heap.size w w':=by
 have P:=r_reachNo R x 1 3 rfl hz
 clear R hz
 go_enter Tryz.func113,Tryz.ntmps113
 go_wp2_with fail
 refine P.mono ?_
 rintro e w1⟨he,b1⟩
 unfold pan at he
 subst he
 go_wp2_with fail
 exact⟨rfl,rfl,b1⟩
theorem r_loadOk(R:Rw w base q i o pg pc ps g p zs H ca ri X)(x:Int)(hz:plC H ps zs x 1=0):
  Calls Tryz.prog 113 #[.pointer (some ⟨q,0,none⟩),.int .i64 x] w fun e w'=>e=.returned (.int .i64 (loadW H ps zs x))∧∃i',Rw w' base q i' o pg pc ps g p zs (loadH H ps zs x) ca ri X∧Below base w w'∧Mq (fun j=>j=q) w w':=by
 have HR:=hid R
 have P:=r_reachOk R x 1 3 rfl hz
 have LW:Hid (loadW H ps zs x=if plV H ps zs x 1<1000 then zs.getD (plV H ps zs x 1).toNat 0 else drV H (plV H ps zs x 1-1000)):=rfl
 have LH:Hid (loadH H ps zs x=if plV H ps zs x 1<1000 then H else drH H (plV H ps zs x 1-1000)):=rfl
 rcases pl_cases R.sn rfl hz with⟨a,ha,hap⟩|⟨d,hd,hd7⟩
 ·rw[ha]at P LW LH
  have e1:Hid (loadW H ps zs x=zs.getD a 0∧loadH H ps zs x=H):=⟨by rw[LW.out,if_pos (by have:=R.sn.p24;omega)];rfl,by rw[LH.out,if_pos (by have:=R.sn.p24;omega)]⟩
  rw[e1.out.1,e1.out.2]
  have ha1:(a:Int)<1000:=by have:=R.sn.p24;omega
  have HA:=hid hap
  obtain⟨y,hy⟩:∃y,zs.getD a 0=y:=⟨_,rfl⟩
  have HY:=hid hy
  rw[hy]
  clear R hz ha hap LW LH hy
  go_enter Tryz.func113,Tryz.ntmps113
  go_wp2_with fail
  refine P.mono ?_
  rintro e w1⟨rfl,b1⟩
  have R1:=hid (HR.out.keep b1)
  have B1:Hid (Below base w w1):=bless b1 HR.out.size
  have M1:Hid (Mq (fun j=>j=q) w w1):=Mq.of (row:=none) (below_grown b1 none) (fun k e=>by cases e)
  clear P b1
  go_wp2_with fail
  have WA:=i_wordAt q i o H _ g p zs ca ri base w1 R1.out.v R1.out.pgs a HA.out HR.out.sn.p24
  rw[HY.out]at WA
  refine WA.mono ?_
  rintro e z⟨rfl,hz⟩
  rw[hz]
  clear hz z WA
  go_wp2_with fail
  go_ret
  exact⟨rfl,i,R1.out,B1.out,M1.out⟩
 ·rw[hd]at P LW LH
  have e1:Hid (loadW H ps zs x=drV H d∧loadH H ps zs x=drH H d):=⟨by rw[LW.out,if_neg (by omega)];congr 1;omega,by rw[LH.out,if_neg (by omega)];congr 1;omega⟩
  rw[e1.out.1,e1.out.2]
  have hd1:¬(1000:Int)+d<1000:=by omega
  have hd2:(1000:Int)≤1000+(d:Int):=by omega
  have hd3:(1000:Int)+d-1000=d:=by omega
  have hd4:(d:Int)≤7:=by omega
  have HD:=hid hd7
  obtain⟨y,hy⟩:∃y,drV H d=y:=⟨_,rfl⟩
  have HY:=hid hy
  rw[hy]
  clear R hz hd hd7 LW LH hy
  go_enter Tryz.func113,Tryz.ntmps113
  go_wp2_with fail
  refine P.mono ?_
  rintro e w1⟨rfl,b1⟩
  have R1:=hid (HR.out.keep b1)
  have B1:Hid (Below base w w1):=bless b1 HR.out.size
  have M1:Hid (Mq (fun j=>j=q) w w1):=Mq.of (row:=none) (below_grown b1 none) (fun k e=>by cases e)
  clear P b1
  go_wp2_with fail
  have RD:=r_read R1.out (d:Int) (by omega) (by have:=HD.out;omega)
  rw[HY.out]at RD
  refine RD.mono ?_
  rintro e w2⟨rfl,i2,r2,b2,m2⟩
  clear RD
  have R2:=hid r2
  have B2:Hid (Below base w w2):=B1.out.trans b2
  have M2:Hid (Mq (fun j=>j=q) w w2):=M1.out.trans m2
  clear r2 b2 m2
  go_wp2_with fail
  go_ret
  exact⟨rfl,i2,R2.out,B2.out,M2.out⟩
theorem r_storeNo(R:Rw w base q i o pg pc ps g p zs H ca ri X)(x y:Int)(hz:¬plC H ps zs x 2=0):
  Calls Tryz.prog 114 #[.pointer (some ⟨q,0,none⟩),.int .i64 x,.int .i64 y] w fun e w'=>e=pan 4 x∧Below w.heap.size w w':=by
 have P:=r_reachNo R x 2 4 rfl hz
 clear R hz
 go_enter Tryz.func114,Tryz.ntmps114
 go_wp2_with fail
 refine P.mono ?_
 rintro e w1⟨he,b1⟩
 unfold pan at he
 subst he
 go_wp2_with fail
 exact⟨rfl,rfl,b1⟩
theorem Rw.updM(h:Rw w base q i o pg pc ps g p zs H ca ri X)(a:Nat)(y:Int)(ha:a<p*8)(hy:isW y=true):Rw (w.setCell ⟨g,a,none⟩ (.int .i64 y)) base q i o pg pc ps g p (zs.set a y) H ca ri X∧Below base w (w.setCell ⟨g,a,none⟩ (.int .i64 y)):=by
 have m:Mq (fun j=>j=g) w (w.setCell ⟨g,a,none⟩ (.int .i64 y)):=(Mq.refl _ _).set ⟨g,a,none⟩ _ rfl
 have gb:base≤g:=(World.ownsRow.lt h.pgs g rfl).1
 have B:=m.low (base:=base) (fun k e=>by omega) h.size
 have pg':Pags (w.setCell ⟨g,a,none⟩ (.int .i64 y)) base (.slice (some ⟨g,0,none⟩) p p) p (zs.set a y):=by
  have t:=(World.ownsRow.stored h.pgs a (.int .i64 y)).1
  unfold Pags
  rw[List.map_set]
  exact t
 refine⟨⟨m.vb h.v (fun e=>h.gq e.symm),h.hi.mq m fun k e _ f=>(h.ib k e).2.2.2 f,fun k e=>by obtain⟨a1,a2,a3⟩:=h.ib k e;exact⟨a1,Nat.lt_of_lt_of_le a2 m.size,a3⟩,?_,pg',h.ls.low (fun k e=>by have e':pg=k:=(by simpa [Value.ownBlock]using e);have:=h.lb;omega) B,h.lb,h.qb,h.gq,h.sn.to_mem (by simp) (all_set h.sn.zw hy),h.tab.low B h.tb,h.tb,fun k e=>⟨m.vb (h.bx k e).1 (h.bx k e).2.2,(h.bx k e).2⟩⟩,B⟩
 obtain⟨bo,b1,b2,b3,b4⟩:=h.ho
 exact⟨bo,b1,Nat.le_trans b2 m.size,m.nums b3 fun k e f=>by rw[f]at e;exact b3.ne_pags h.pgs e,b4⟩
theorem r_storeOk(R:Rw w base q i o pg pc ps g p zs H ca ri X)(x y:Int)(hy:isW y=true)(hz:plC H ps zs x 2=0):
  Calls Tryz.prog 114 #[.pointer (some ⟨q,0,none⟩),.int .i64 x,.int .i64 y] w fun e w'=>e=.returned (.tuple #[])∧∃o',Rw w' base q i o' pg pc ps g p (storeZ H ps zs x y) (storeH H ps zs x y) ca (storeR H ps zs x y ri) X∧Below base w w'∧Mq (fun j=>j=q∨j=g∨o.ownBlock=some j) w w':=by
 have HR:=hid R
 have HW:=hid hy
 have P:=r_reachOk R x 2 4 rfl hz
 obtain⟨v,hv⟩:∃v,plV H ps zs x 2=v:=⟨_,rfl⟩
 have e0:storeH H ps zs x y=if v<1000 then H else dwW H (v-1000) y:=by rw[←hv];rfl
 have e1:storeZ H ps zs x y=if v<1000 then zs.set v.toNat y else zs:=by rw[←hv];rfl
 have e2:storeR H ps zs x y ri=if v<1000 then ri else if rgW (v-1000) y= -1 then ri else rgW (v-1000) y:=by rw[←hv];rfl
 have pc':=pl_cases R.sn rfl hz
 rw[hv]at P pc'
 rw[e0,e1,e2]
 clear e0 e1 e2 hv hz hy
 rcases pc' with⟨a,rfl,hap⟩|⟨d,rfl,hd7⟩
 ·have ha1:(a:Int)<1000:=by have:=R.sn.p24;omega
  rw[if_pos ha1,if_pos ha1,if_pos ha1]
  obtain⟨m,hm⟩:∃m,a/8=m:=⟨_,rfl⟩
  obtain⟨r,hr⟩:∃r,a%8=r:=⟨_,rfl⟩
  have hmr:a=m*8+r:=by omega
  have HMR:=hid hmr
  have td:Int.tdiv (a:Int) 8=(m:Int):=by rw[Int.tdiv_eq_ediv_of_nonneg (by omega)];omega
  have tm:Int.tmod (a:Int) 8=(r:Int):=by rw[Int.tmod_eq_emod_of_nonneg (by omega)];omega
  have h1:(m:Int)<(p:Int):=by omega
  have h2:m<p:=by omega
  have h3:(r:Int)<8:=by omega
  have h4:r<8:=by omega
  have hwm:wrap64 (m:Int)=(m:Int):=by have:=R.sn.p24;unfold wrap64;omega
  have hti:(Int.ofNat a).toNat=a:=rfl
  have HA:=hid hap
  clear R hm hr hmr hap
  go_enter Tryz.func114,Tryz.ntmps114
  go_wp2_with fail
  refine P.mono ?_
  rintro e w1⟨rfl,b1⟩
  have R1:=hid (HR.out.keep b1)
  have B1:Hid (Below base w w1):=bless b1 HR.out.size
  have M1:Hid (Mq (fun j=>j=q∨j=g∨o.ownBlock=some j) w w1):=Mq.of (row:=none) (below_grown b1 none) (fun k e=>by cases e)
  have c35:w1.cell? ⟨q,35,none⟩=some (.slice (some ⟨g,0,none⟩) p p):=R1.out.v.cell 35 rfl
  have cg:w1.cell? ⟨g,m*8+r,none⟩=some (.int .i64 (zs.getD a 0)):=by rw[←HMR.out];exact R1.out.pgs.cell a HA.out
  have fg:w1.frozen? ⟨g,m*8+r,none⟩=false:=by
   have hh:=R1.out.pgs.heap
   simp[World.frozen?,hh]
  have U:Hid (_∧_):=R1.out.updM a y HA.out HW.out
  clear P b1
  go_wp2_with fail
  refine bodyPost_ret (results_none rfl _ _ _) rfl ?_
  rw[←HMR.out]
  exact⟨rfl,o,U.out.1,B1.out.trans U.out.2,M1.out.trans ((Mq.refl _ _).set ⟨g,a,none⟩ _ (.inr (.inl rfl)))⟩
 ·have hd1:¬(1000:Int)+d<1000:=by omega
  rw[if_neg hd1,if_neg hd1,if_neg hd1]
  have hd3:(1000:Int)+d-1000=d:=by omega
  rw[hd3]
  have hd4:(d:Int)≤7:=by omega
  have HD:=hid hd7
  clear R hd7
  obtain⟨z,hz⟩:∃z,rgW d y=z:=⟨_,rfl⟩
  have HZ:=hid hz
  rw[hz]
  clear hz
  by_cases hg:z= -1
  ·rw[if_pos hg]
   have hgb:(z != -1)=false:=by simpa using hg
   have HG:=hid hg
   clear hg
   go_enter Tryz.func114,Tryz.ntmps114
   go_wp2_with fail
   refine P.mono ?_
   rintro e w1⟨rfl,b1⟩
   have R1:=hid (HR.out.keep b1)
   have B1:Hid (Below base w w1):=bless b1 HR.out.size
   have M1:Hid (Mq (fun j=>j=q∨j=g∨o.ownBlock=some j) w w1):=Mq.of (row:=none) (below_grown b1 none) (fun k e=>by cases e)
   clear P b1
   go_wp2_with fail
   have WR:=r_write R1.out (d:Int) y (by omega) (by have:=HD.out;omega) HW.out
   rw[HZ.out]at WR
   refine WR.mono ?_
   rintro e w2⟨rfl,o2,⟨r2,b2⟩,m2⟩
   have R2:=hid r2
   have B2:Hid (Below base w w2):=B1.out.trans b2
   have M2:Hid (Mq (fun j=>j=q∨j=g∨o.ownBlock=some j) w w2):=M1.out.trans (m2.more fun k e=>e.elim .inl fun e=> .inr (.inr e))
   clear r2 b2 WR m2
   go_wp2_with fail
   go_end0
   exact⟨rfl,o2,R2.out,B2.out,M2.out⟩
  ·rw[if_neg hg]
   have hgb:(z != -1)=true:=by simpa using hg
   clear hg
   go_enter Tryz.func114,Tryz.ntmps114
   go_wp2_with fail
   refine P.mono ?_
   rintro e w1⟨rfl,b1⟩
   have R1:=hid (HR.out.keep b1)
   have B1:Hid (Below base w w1):=bless b1 HR.out.size
   have M1:Hid (Mq (fun j=>j=q∨j=g∨o.ownBlock=some j) w w1):=Mq.of (row:=none) (below_grown b1 none) (fun k e=>by cases e)
   clear P b1
   go_wp2_with fail
   have WR:=r_write R1.out (d:Int) y (by omega) (by have:=HD.out;omega) HW.out
   rw[HZ.out]at WR
   refine WR.mono ?_
   rintro e w2⟨rfl,o2,⟨r2,b2⟩,m2⟩
   have R2:=hid r2
   have B2:Hid (Below base w w2):=B1.out.trans b2
   have M2:Hid (Mq (fun j=>j=q∨j=g∨o.ownBlock=some j) w w2):=M1.out.trans (m2.more fun k e=>e.elim .inl fun e=> .inr (.inr e))
   clear r2 b2 WR m2
   have c37:=R2.out.v.cell 37 rfl
   have f37:=R2.out.v.free 37
   have V:=R2.out.v.set 37 (.int .i64 z)
   have U:Hid (_∧_):=R2.out.upd (G:=dwW H d y) (ca':=ca) (ri':=z) V ((Mq.refl _ _).set ⟨q,37,none⟩ _ rfl) rfl rfl R2.out.sn.hok
   clear V
   go_wp2_with fail
   go_end0
   exact⟨rfl,o2,U.out.1,B2.out.trans U.out.2,M2.out.set ⟨q,37,none⟩ _ (.inl rfl)⟩
end Go.Proofs.YtaefollmeoepkaaGreatDoor
