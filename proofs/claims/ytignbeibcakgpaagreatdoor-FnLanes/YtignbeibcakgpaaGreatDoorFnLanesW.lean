/- The walk of a law. -/
import Derived.Test.YtignbeibcakgpaaGreatDoorCards
import Derived.Test.YtignbeibcakgpaaGreatDoorTie
import Derived.Deep.DeepHandedRow
import Derived.LaidHandle
import Derived.LaidLaws
import Derived.Lib.LaidTab
import Derived.Stop.LaidErr
import Derived.Test.YtignbeibcakgpaaGreatDoorQ50
namespace Go.Proofs.YtignbeibcakgpaaGreatDoor.fnLanesDone
open Go.ChangeShapes Go.WideShapes Go.ChangeAt Go.RowKit
open Go.ChangeMaps (open_string shut_string)
set_option linter.unusedVariables false
set_option maxRecDepth 20000
set_option maxHeartbeats 16000000

theorem field_intsL(x0 x1:Value)(w:World):(Instr.field 44 (.agg #[x0,x1]) 1).run Tryz.prog w=.ok x1 w:=by kernel_rfl
theorem frp_le(X:Hst)(g:Int):(frP X g).length≤8:=by
 unfold frP
 split
 ·rw[aloL_len];exact Nat.le_refl _
 ·exact Nat.zero_le _
theorem tenX{v:World}{q:Nat}{t:TypeId}{z0 z1 z2 z3 z4 z5 z6 z7 z8 z9:Value}(h:Vb v q #[z0,z1,z2,z3,z4,z5,z6,z7,z8,z9] t)(u0 u1 u2 u3 u4 u5 u6 u7 u8 u9:Value):Vb (v.setCells q 0 #[u0,u1,u2,u3,u4,u5,u6,u7,u8,u9].toList) q #[u0,u1,u2,u3,u4,u5,u6,u7,u8,u9] t∧Mq (fun k=>k=q) v (v.setCells q 0 #[u0,u1,u2,u3,u4,u5,u6,u7,u8,u9].toList):=by
 have h0:Vb (v.setCell ⟨q,0,none⟩ u0) q #[u0,z1,z2,z3,z4,z5,z6,z7,z8,z9] t:=h.set 0 u0
 have h1:Vb ((v.setCell ⟨q,0,none⟩ u0).setCell ⟨q,1,none⟩ u1) q #[u0,u1,z2,z3,z4,z5,z6,z7,z8,z9] t:=h0.set 1 u1
 have h2:Vb (((v.setCell ⟨q,0,none⟩ u0).setCell ⟨q,1,none⟩ u1).setCell ⟨q,2,none⟩ u2) q #[u0,u1,u2,z3,z4,z5,z6,z7,z8,z9] t:=h1.set 2 u2
 have h3:Vb ((((v.setCell ⟨q,0,none⟩ u0).setCell ⟨q,1,none⟩ u1).setCell ⟨q,2,none⟩ u2).setCell ⟨q,3,none⟩ u3) q #[u0,u1,u2,u3,z4,z5,z6,z7,z8,z9] t:=h2.set 3 u3
 have h4:Vb (((((v.setCell ⟨q,0,none⟩ u0).setCell ⟨q,1,none⟩ u1).setCell ⟨q,2,none⟩ u2).setCell ⟨q,3,none⟩ u3).setCell ⟨q,4,none⟩ u4) q #[u0,u1,u2,u3,u4,z5,z6,z7,z8,z9] t:=h3.set 4 u4
 have h5:Vb ((((((v.setCell ⟨q,0,none⟩ u0).setCell ⟨q,1,none⟩ u1).setCell ⟨q,2,none⟩ u2).setCell ⟨q,3,none⟩ u3).setCell ⟨q,4,none⟩ u4).setCell ⟨q,5,none⟩ u5) q #[u0,u1,u2,u3,u4,u5,z6,z7,z8,z9] t:=h4.set 5 u5
 have h6:Vb (((((((v.setCell ⟨q,0,none⟩ u0).setCell ⟨q,1,none⟩ u1).setCell ⟨q,2,none⟩ u2).setCell ⟨q,3,none⟩ u3).setCell ⟨q,4,none⟩ u4).setCell ⟨q,5,none⟩ u5).setCell ⟨q,6,none⟩ u6) q #[u0,u1,u2,u3,u4,u5,u6,z7,z8,z9] t:=h5.set 6 u6
 have h7:Vb ((((((((v.setCell ⟨q,0,none⟩ u0).setCell ⟨q,1,none⟩ u1).setCell ⟨q,2,none⟩ u2).setCell ⟨q,3,none⟩ u3).setCell ⟨q,4,none⟩ u4).setCell ⟨q,5,none⟩ u5).setCell ⟨q,6,none⟩ u6).setCell ⟨q,7,none⟩ u7) q #[u0,u1,u2,u3,u4,u5,u6,u7,z8,z9] t:=h6.set 7 u7
 have h8:Vb (((((((((v.setCell ⟨q,0,none⟩ u0).setCell ⟨q,1,none⟩ u1).setCell ⟨q,2,none⟩ u2).setCell ⟨q,3,none⟩ u3).setCell ⟨q,4,none⟩ u4).setCell ⟨q,5,none⟩ u5).setCell ⟨q,6,none⟩ u6).setCell ⟨q,7,none⟩ u7).setCell ⟨q,8,none⟩ u8) q #[u0,u1,u2,u3,u4,u5,u6,u7,u8,z9] t:=h7.set 8 u8
 have h9:Vb ((((((((((v.setCell ⟨q,0,none⟩ u0).setCell ⟨q,1,none⟩ u1).setCell ⟨q,2,none⟩ u2).setCell ⟨q,3,none⟩ u3).setCell ⟨q,4,none⟩ u4).setCell ⟨q,5,none⟩ u5).setCell ⟨q,6,none⟩ u6).setCell ⟨q,7,none⟩ u7).setCell ⟨q,8,none⟩ u8).setCell ⟨q,9,none⟩ u9) q #[u0,u1,u2,u3,u4,u5,u6,u7,u8,u9] t:=h8.set 9 u9
 exact⟨h9,(((((((((((Mq.refl (fun k=>k=q) v).set ⟨q,0,none⟩ u0 rfl).set ⟨q,1,none⟩ u1 rfl).set ⟨q,2,none⟩ u2 rfl).set ⟨q,3,none⟩ u3 rfl).set ⟨q,4,none⟩ u4 rfl).set ⟨q,5,none⟩ u5 rfl).set ⟨q,6,none⟩ u6 rfl).set ⟨q,7,none⟩ u7 rfl).set ⟨q,8,none⟩ u8 rfl).set ⟨q,9,none⟩ u9 rfl)⟩
theorem owe_mqt{S:Nat→Prop}{w w':World}{base:Nat}{v0 v1 v2 v3 v4 v5:Value}{X:Hst}(h:OwE w base v0 v1 v2 v3 v4 v5 X)(m:Mq S w w')(hn:∀k cs t,w.heap[k]? =some (.cells cs t (0,0))→t≠37→¬S k):OwE w' base v0 v1 v2 v3 v4 v5 X:=by
 obtain⟨xs,qs,h⟩:=h
 have N:∀{b:Nat} {v:Value} {zs:List Int},Nums w b v zs→Nums w' b v zs:=fun k=>row_mqU m k fun k cs e=>hn k cs _ e (by decide)
 exact⟨xs,qs,row_mqU m h.own fun k cs e=>hn k cs _ e (by decide),h.xl,fun i x e=>N (h.rows i x e),row_mqU m h.lanes fun k cs e=>hn k cs _ e (by decide),row_mqU m h.bells fun k cs e=>hn k cs _ e (by decide),row_mqU m h.plan fun k cs e=>hn k cs _ e (by decide),N h.mem,row_mqU m h.harts fun k cs e=>hn k cs _ e (by decide),h.qh,fun q hq=>by
  have k:=h.lists q hq
  exact⟨N k.r,N k.c,N k.i,N k.o⟩,h.apart⟩
theorem walk(a0IN:Option Addr)(len0 cap0:Nat)(z0:List Int)(w:World)(w0:IsRow .u8 w a0IN len0 cap0 z0)(hg:w.cell? ⟨0,0,none⟩=some (.iface 240 (.agg #[.pointer (some ⟨2,134,none⟩)])))(ht:Tab w):
  Calls Tryz.prog 3 #[.slice a0IN len0 cap0] w fun e w'=>e=.returned (.bool true)∧Below w.heap.size w w':=by
 have HR:=hid w0
 have HG:Hid (w.cell? ⟨0,0,none⟩=some (.iface 240 (.agg #[.pointer (some ⟨2,134,none⟩)]))∧Tab w):=⟨hg,ht⟩
 clear w0 hg ht
 by_cases hbig:1048576<(len0:Int)
 ·go_enter Tryz.func3,Tryz.ntmps3
  go_wp2
  go_ret
  exact⟨rfl,Below.refl _ _⟩
 have hb2:(len0:Int)≤1048576:=by omega
 have HB2:=hid hb2
 clear hbig
 go_enter Tryz.func3,Tryz.ntmps3
 go_wp2_with (go_at_call 4;go_in)
 refine(lw_policy HR.out (by have:=HB2.out;omega)).mono ?_
 rintro e w1⟨_,_,_,_,P,_,iss,_,jss,rfl,pf,dv,so,il,sj,jl,b1⟩
 obtain⟨a0,c0,a1,c1,a2,c2,a3,c3,e0,e1,e2,e3⟩:=dv.shape
 subst e0 e1 e2 e3
 obtain⟨ia,ic,ei,_,_,_⟩:=so.shape
 obtain⟨ja,jc,ej,_,_,_⟩:=sj.shape
 rw[il.1]at ei
 rw[jl.1]at ej
 subst ei ej
 obtain⟨n0,hn0⟩:∃n,P.own.length=n:=⟨_,rfl⟩
 obtain⟨n1,hn1⟩:∃n,P.lanes.length=n:=⟨_,rfl⟩
 obtain⟨n2,hn2⟩:∃n,P.bells.length=n:=⟨_,rfl⟩
 obtain⟨n3,hn3⟩:∃n,P.plan.length=n:=⟨_,rfl⟩
 have BR:=boot_right pf il jl
 have PF:=hid pf
 have SM:Hid (Small n0 n1 n2 n3 P):=by
  have pp:=pf_parts P pf
  exact⟨by omega,fun i hi=>by have:=(pf_own P pf i (by omega)).2.1;omega,by have:=pp.2.2.2.2.1;omega,by have:=pp.2.2.2.2.2.1;omega,by have:=(pf_plan P pf).1;omega⟩
 have LC:Hid (loadC P iss=0∧jss.length=P.own.length):=⟨load_fits pf il,jl.1⟩
 have HBR:Hid (bhC P iss jss=0∧(bhX P iss jss).pol=P∧(bhX P iss jss).clock=0∧hoV (bhX P iss jss)=0):=BR
 rw[hn0,hn1,hn2,hn3]at dv
 rw[hn0]at so sj
 have HN:Hid (P.own.length=n0∧P.lanes.length=n1):=⟨hn0,hn1⟩
 try rw[hn0]
 have DV:=hid dv
 have SO:=hid so
 have SJ:=hid sj
 have B1:=hid b1
 clear BR dv so sj b1 pf il jl
 go_wp2_with fail
 obtain⟨p,hp⟩:∃p,w1.heap.size=p:=⟨_,rfl⟩
 generalize hW:w1.alloc (.cells #[.slice a0 n0 c0,.slice a1 n1 c1,.slice a2 n2 c2,.slice a3 n3 c3] 29)=W
 have A0:Below w1.heap.size w1 W:=by rw[←hW];exact al (Below.refl _ _) _
 have KP:Hid (Bk W p #[.slice a0 n0 c0,.slice a1 n1 c1,.slice a2 n2 c2,.slice a3 n3 c3] 29):=by show Bk _ _ _ _;rw[←hW,←hp];exact Bk.new _ _ _
 have B2:=hid (on B1.out A0)
 have HP:Hid (Pl W a0 n0 c0 a1 n1 c1 a2 n2 c2 a3 n3 c3 P):=by have d:=DV.out.keep A0;exact⟨d.own.read,d.lanes.read,d.bells.read,d.plan.read⟩
 have IM:=hid ((SO.out.keep A0).read)
 have JM:=hid ((SJ.out.keep A0).swN)
 have GE:Hid (W.cell? ⟨0,0,none⟩=some (.iface 240 (.agg #[.pointer (some ⟨2,134,none⟩)]))∧Tab W):=⟨cell_keep B2.out HG.out.1,HG.out.2.keep B2.out⟩
 clear A0 hW DV SO SJ B1 HG hn0 hn1 hn2 hn3
 try rw[hp]
 clear hp
 refine(ibh_run _ _ _ _ _ _ _ _ _ _ _ _ P _ _ _ iss _ _ _ jss _ W HP.out SM.out IM.out JM.out GE.out.1 LC.out.1 LC.out.2).mono ?_
 rintro e w2⟨v0,v1,v2,v3,v4,v5,rfl,ow,b2⟩
 rw[HBR.out.1]
 obtain⟨xa0,xa1,xa2,xa3,xa4,xa5,xc0,xc1,xc2,xc3,xc4,xc5,xn0,xn1,xn2,xn3,xn4,xn5,e0,e1,e2,e3,e4,e5⟩:=owe_shapesG ow
 subst e0 e1 e2 e3 e4 e5
 obtain⟨X,hX⟩:∃X,bhX P iss jss=X:=⟨_,rfl⟩
 rw[hX]at ow HBR ⊢
 have HX:Hid (X.pol=P∧X.clock=0∧hoV X=0):=⟨HBR.out.2.1,HBR.out.2.2.1,HBR.out.2.2.2⟩
 have OW:Hid (OwE w2 W.heap.size _ _ _ _ _ _ X):=ow
 have E2:=hid b2
 clear ow b2 hX HBR IM JM LC
 go_wp2_with fail
 obtain⟨r1,hr1⟩:∃r,w2.heap.size=r:=⟨_,rfl⟩
 generalize hA:w2.alloc (.cells #[.int .i64 0,.slice xa0 xn0 xc0,.slice xa1 xn1 xc1,.slice xa2 xn2 xc2,.slice xa3 xn3 xc3,.slice xa4 xn4 xc4,.slice xa5 xn5 xc5,.int .i64 X.slot,.int .i64 X.left,.int .i64 X.clock] 37)=A
 have A2:Below w2.heap.size w2 A:=by rw[←hA];exact al (Below.refl _ _) _
 have VA:Hid (Vb A r1 #[.int .i64 0,.slice xa0 xn0 xc0,.slice xa1 xn1 xc1,.slice xa2 xn2 xc2,.slice xa3 xn3 xc3,.slice xa4 xn4 xc4,.slice xa5 xn5 xc5,.int .i64 X.slot,.int .i64 X.left,.int .i64 X.clock] 37):=by show Vb _ _ _ _;rw[←hA,←hr1];exact Vb.new _ _ _
 have OJ:=hid ((owe_oj OW.out).keep A2)
 have BA:=hid (on E2.out A2)
 have GA:Hid (A.cell? ⟨0,0,none⟩=some (.iface 240 (.agg #[.pointer (some ⟨2,134,none⟩)]))∧Tab A):=⟨cell_keep BA.out GE.out.1,GE.out.2.keep BA.out⟩
 have HAS:Hid (w.heap.size≤A.heap.size):=by show _≤_;have:=B2.out.size;have:=BA.out.size;omega
 have HRA:Hid (IsRow .u8 A a0IN len0 cap0 z0):=(HR.out.below B2.out).below BA.out
 have SX:Hid (Small xn0 xn1 xn2 xn3 X.pol):=by
  have e0:=OJ.out.pol.own.len
  have e1:=OJ.out.pol.lanes.len
  have e2:=OJ.out.pol.bells.len
  have e3:=OJ.out.pol.plan.len
  have sm:=SM.out
  rw[HX.out.1]at e0 e1 e2 e3 ⊢
  have pp:=pf_parts P PF.out
  exact⟨by omega,fun i hi=>by have:=(pf_own P PF.out i (by omega)).2.1;omega,by have:=pp.2.2.2.2.1;omega,by have:=pp.2.2.2.2.2.1;omega,by have:=(pf_plan P PF.out).1;omega⟩
 clear A2 OW E2 GE
 try rw[hA]
 try rw[hr1]
 clear hA hr1
 go_cut [7]from 25 to 29 (fun c wx=>∃(q:Nat) (ya0 ya1 ya2 ya3 ya4 ya5:Option Addr) (yn0 yn1 yn2 yn3 yn4 yn5 yc0 yc1 yc2 yc3 yc4 yc5:Nat) (Y:Hst),c=.pointer (some ⟨q,0,none⟩)∧Vb wx q #[.int .i64 0,.slice ya0 yn0 yc0,.slice ya1 yn1 yc1,.slice ya2 yn2 yc2,.slice ya3 yn3 yc3,.slice ya4 yn4 yc4,.slice ya5 yn5 yc5,.int .i64 Y.slot,.int .i64 Y.left,.int .i64 Y.clock] 37∧OwE wx A.heap.size (.slice ya0 yn0 yc0) (.slice ya1 yn1 yc1) (.slice ya2 yn2 yc2) (.slice ya3 yn3 yc3) (.slice ya4 yn4 yc4) (.slice ya5 yn5 yc5) Y∧(Y.pol=P∧hoV Y=0)∧A.heap.size≤q∧Below A.heap.size A wx)
 case first=>
  have SU:Hid (Below A.heap.size A A.drew):=(Below.refl _ _).drew
  refine wp_region_held (S:=fun w'=>Below A.heap.size A w') (by kernel_rfl) ?_
  change wpAnyH _ _ _ _ _ _ _ _ (World.drew _)
  generalize A.drew=u0 at*
  refine wpTd 0 25 ((.pointer (some ⟨r1,1,none⟩))) rfl SU.out ?_
  simp only[Act.put,zT,zZ,zS]
  refine wpTe 1 26 ((.agg #[.slice xa0 xn0 xc0,.slice xa1 xn1 xc1,.slice xa2 xn2 xc2,.slice xa3 xn3 xc3,.slice xa4 xn4 xc4,.slice xa5 xn5 xc5,.int .i64 X.slot,.int .i64 X.left,.int .i64 X.clock])) rfl (Or.inl ⟨by rfl,fun w' hs=>by have qv:=VA.out.keep hs;have y1:=qv.cell 1 rfl;have y2:=qv.cell 2 rfl;have y3:=qv.cell 3 rfl;have y4:=qv.cell 4 rfl;have y5:=qv.cell 5 rfl;have y6:=qv.cell 6 rfl;have y7:=qv.cell 7 rfl;have y8:=qv.cell 8 rfl;have y9:=qv.cell 9 rfl;go_simp⟩) SU.out ?_
  simp only[Act.put,zT,zZ,zS]
  refine wpTd 2 27 ((.slice a0IN len0 cap0)) rfl SU.out ?_
  simp only[Act.put,zT,zZ,zS]
  refine wpAnyH_ready (rs:=[3,5]) (by kernel_rfl) (by simp) ?_
  refine AllReadyH.cons rfl (fun K hK=>?_) (AllReadyH.cons rfl (fun K hK=>?_) AllReadyH.nil)
  ·skip
   rw[if_pos (by rfl)]
   go_simp
   refine(lw_at (HRA.out.below SU.out) 5 (by decide) 60).mono ?_
   rintro e u1⟨nn,rfl,nn0,nn1,bq⟩
   obtain⟨n,rfl⟩:=Int.eq_ofNat_of_zero_le nn0
   have NN:Hid (n≤60):=by show _≤_;have:=nn1 (by decide);omega
   replace SU:=hid (on SU.out bq)
   clear bq nn0 nn1
   refine hK.out _ _ SU.out (fun _=>?_)
   clear hK K
   refine wpAnyH_ready (rs:=[4,5]) (by kernel_rfl) (by simp) ?_
   refine AllReadyH.cons rfl (fun K hK=>?_) (AllReadyH.cons rfl (fun K hK=>?_) AllReadyH.nil)
   ·skip
    rw[if_pos (by rfl)]
    go_simp
    refine(i_runHost _ _ _ _ _ _ _ _ _ _ _ _ _ _ _ _ _ _ X n _ _ (fun _ _ _=>True) (OJ.out.keep SU.out) (cell_keep SU.out GA.out.1) (GA.out.2.keep SU.out) HX.out.2.2 (by have:=NN.out;omega) (by rw[HX.out.2.1];have:=NN.out;omega) SX.out (fun _ _ _=>trivial) (fun _ _ _ _ _ _=>trivial)).mono ?_
    rintro e u2⟨y0,y1,y2,y3,y4,y5,zs,rs,rfl,ow,hz, -,rl,bq⟩
    obtain⟨ya0,ya1,ya2,ya3,ya4,ya5,yc0,yc1,yc2,yc3,yc4,yc5,yn0,yn1,yn2,yn3,yn4,yn5,e0,e1,e2,e3,e4,e5⟩:=owe_shapesG ow
    subst e0 e1 e2 e3 e4 e5
    obtain⟨Y,hY⟩:∃Y,(⟨X.pol,zs,rs.map Gs.H,(tS X.pol (X.clock+n)).1,(tS X.pol (X.clock+n)).2,X.clock+n⟩:Hst)=Y:=⟨_,rfl⟩
    have s1:(tS X.pol (X.clock+n)).1=Y.slot:=by rw[←hY]
    have s2:(tS X.pol (X.clock+n)).2=Y.left:=by rw[←hY]
    have s3:X.clock+(n:Int)=Y.clock:=by rw[←hY]
    have PY:Hid (Y.pol=P∧hoV Y=0):=⟨by rw[←hY];exact HX.out.1,by rw[←hY];exact hz⟩
    rw[hY]at ow
    rw[s1,s2,s3]
    have OY:Hid (OwE u2 A.heap.size (.slice ya0 yn0 yc0) (.slice ya1 yn1 yc1) (.slice ya2 yn2 yc2) (.slice ya3 yn3 yc3) (.slice ya4 yn4 yc4) (.slice ya5 yn5 yc5) Y):=by obtain⟨xs,qs,h⟩:=ow;exact⟨xs,qs,h.mono SU.out.size⟩
    replace SU:=hid (on SU.out bq)
    clear ow hz rl bq hY s1 s2 s3
    refine hK.out _ _ SU.out (fun _=>?_)
    clear hK K
    refine zR 5 rfl fun K hK=>?_
    rw[if_pos (by rfl)]
    go_simp
    have bq:Below u2.heap.size u2 (u2.alloc (.cells #[.int .i64 0,.slice none 0 0,.slice none 0 0,.slice none 0 0,.slice none 0 0,.slice none 0 0,.slice none 0 0,.int .i64 0,.int .i64 0,.int .i64 0] 37)):=al (Below.refl _ _) _
    have TQ:Hid (Vb (u2.alloc (.cells #[.int .i64 0,.slice none 0 0,.slice none 0 0,.slice none 0 0,.slice none 0 0,.slice none 0 0,.slice none 0 0,.int .i64 0,.int .i64 0,.int .i64 0] 37)) u2.heap.size #[.int .i64 0,.slice none 0 0,.slice none 0 0,.slice none 0 0,.slice none 0 0,.slice none 0 0,.slice none 0 0,.int .i64 0,.int .i64 0,.int .i64 0] 37):=Vb.new _ _ _
    obtain⟨q,hq⟩:∃q,u2.heap.size=q:=⟨_,rfl⟩
    have QB:Hid (A.heap.size≤q):=by show _≤_;rw[←hq];exact SU.out.size
    rw[hq]at TQ ⊢
    generalize u2.alloc (.cells #[.int .i64 0,.slice none 0 0,.slice none 0 0,.slice none 0 0,.slice none 0 0,.slice none 0 0,.slice none 0 0,.int .i64 0,.int .i64 0,.int .i64 0] 37)=u3 at*
    replace SU:=hid (on SU.out bq)
    replace OY:=hid (OY.out.keep bq)
    clear bq hq
    refine hK.out _ _ SU.out (fun _=>?_)
    clear hK K
    refine zR 6 rfl fun K hK=>?_
    rw[if_pos (by rfl)]
    refine wp_store_mid 37 (.tmp 7) (.tmp 29) rfl q 0 #[.int .i64 0,.slice ya0 yn0 yc0,.slice ya1 yn1 yc1,.slice ya2 yn2 yc2,.slice ya3 yn3 yc3,.slice ya4 yn4 yc4,.slice ya5 yn5 yc5,.int .i64 Y.slot,.int .i64 Y.left,.int .i64 Y.clock] rfl rfl (TQ.out.there 10 (by decide)) (by kernel_rfl) (by simp[Value.oneCell']) ?_
    change K (Act.put _ none undef) _
    simp only[Act.put]
    have NR:Hid (Vb (u3.setCells q 0 #[.int .i64 0,.slice ya0 yn0 yc0,.slice ya1 yn1 yc1,.slice ya2 yn2 yc2,.slice ya3 yn3 yc3,.slice ya4 yn4 yc4,.slice ya5 yn5 yc5,.int .i64 Y.slot,.int .i64 Y.left,.int .i64 Y.clock].toList) q #[.int .i64 0,.slice ya0 yn0 yc0,.slice ya1 yn1 yc1,.slice ya2 yn2 yc2,.slice ya3 yn3 yc3,.slice ya4 yn4 yc4,.slice ya5 yn5 yc5,.int .i64 Y.slot,.int .i64 Y.left,.int .i64 Y.clock] 37∧Mq (fun k=>k=q) u3 (u3.setCells q 0 #[.int .i64 0,.slice ya0 yn0 yc0,.slice ya1 yn1 yc1,.slice ya2 yn2 yc2,.slice ya3 yn3 yc3,.slice ya4 yn4 yc4,.slice ya5 yn5 yc5,.int .i64 Y.slot,.int .i64 Y.left,.int .i64 Y.clock].toList)):=tenX TQ.out _ _ _ _ _ _ _ _ _ _
    have W9:Hid (OwE (u3.setCells q 0 #[.int .i64 0,.slice ya0 yn0 yc0,.slice ya1 yn1 yc1,.slice ya2 yn2 yc2,.slice ya3 yn3 yc3,.slice ya4 yn4 yc4,.slice ya5 yn5 yc5,.int .i64 Y.slot,.int .i64 Y.left,.int .i64 Y.clock].toList) A.heap.size (.slice ya0 yn0 yc0) (.slice ya1 yn1 yc1) (.slice ya2 yn2 yc2) (.slice ya3 yn3 yc3) (.slice ya4 yn4 yc4) (.slice ya5 yn5 yc5) Y):=owe_mqt OY.out NR.out.2 fun k cs t h1 h2 e=>by subst e;exact h2 (Obj.cells.inj (Option.some.inj (h1.symm.trans TQ.out))).2.1
    have B9:Hid (Below A.heap.size A (u3.setCells q 0 #[.int .i64 0,.slice ya0 yn0 yc0,.slice ya1 yn1 yc1,.slice ya2 yn2 yc2,.slice ya3 yn3 yc3,.slice ya4 yn4 yc4,.slice ya5 yn5 yc5,.int .i64 Y.slot,.int .i64 Y.left,.int .i64 Y.clock].toList)):=Mq.under SU.out NR.out.2 fun k e=>by have:=QB.out;omega
    generalize (u3.setCells q 0 #[.int .i64 0,.slice ya0 yn0 yc0,.slice ya1 yn1 yc1,.slice ya2 yn2 yc2,.slice ya3 yn3 yc3,.slice ya4 yn4 yc4,.slice ya5 yn5 yc5,.int .i64 Y.slot,.int .i64 Y.left,.int .i64 Y.clock].toList)=V9 at*
    refine hK.out _ _ B9.out (fun _=>?_)
    clear hK K
    refine wpAnyH_done (by kernel_rfl) ?_ _
    go_wp2_with fail
    go_meet
    exact⟨q,ya0,ya1,ya2,ya3,ya4,ya5,yn0,yn1,yn2,yn3,yn4,yn5,yc0,yc1,yc2,yc3,yc4,yc5,Y,rfl,NR.out.1,W9.out,PY.out,QB.out,B9.out⟩
   ·skip
    rw[if_pos (by rfl)]
    go_simp
    have bq:Below u1.heap.size u1 (u1.alloc (.cells #[.int .i64 0,.slice none 0 0,.slice none 0 0,.slice none 0 0,.slice none 0 0,.slice none 0 0,.slice none 0 0,.int .i64 0,.int .i64 0,.int .i64 0] 37)):=al (Below.refl _ _) _
    have TQ:Hid (Vb (u1.alloc (.cells #[.int .i64 0,.slice none 0 0,.slice none 0 0,.slice none 0 0,.slice none 0 0,.slice none 0 0,.slice none 0 0,.int .i64 0,.int .i64 0,.int .i64 0] 37)) u1.heap.size #[.int .i64 0,.slice none 0 0,.slice none 0 0,.slice none 0 0,.slice none 0 0,.slice none 0 0,.slice none 0 0,.int .i64 0,.int .i64 0,.int .i64 0] 37):=Vb.new _ _ _
    obtain⟨q,hq⟩:∃q,u1.heap.size=q:=⟨_,rfl⟩
    have QB:Hid (A.heap.size≤q):=by show _≤_;rw[←hq];exact SU.out.size
    rw[hq]at TQ ⊢
    generalize u1.alloc (.cells #[.int .i64 0,.slice none 0 0,.slice none 0 0,.slice none 0 0,.slice none 0 0,.slice none 0 0,.slice none 0 0,.int .i64 0,.int .i64 0,.int .i64 0] 37)=u2 at*
    replace SU:=hid (on SU.out bq)
    clear bq hq
    refine hK.out _ _ SU.out (fun _=>?_)
    clear hK K
    refine zR 4 rfl fun K hK=>?_
    rw[if_pos (by rfl)]
    go_simp
    refine(i_runHost _ _ _ _ _ _ _ _ _ _ _ _ _ _ _ _ _ _ X n _ _ (fun _ _ _=>True) (OJ.out.keep SU.out) (cell_keep SU.out GA.out.1) (GA.out.2.keep SU.out) HX.out.2.2 (by have:=NN.out;omega) (by rw[HX.out.2.1];have:=NN.out;omega) SX.out (fun _ _ _=>trivial) (fun _ _ _ _ _ _=>trivial)).mono ?_
    rintro e u3⟨y0,y1,y2,y3,y4,y5,zs,rs,rfl,ow,hz, -,rl,bq⟩
    obtain⟨ya0,ya1,ya2,ya3,ya4,ya5,yc0,yc1,yc2,yc3,yc4,yc5,yn0,yn1,yn2,yn3,yn4,yn5,e0,e1,e2,e3,e4,e5⟩:=owe_shapesG ow
    subst e0 e1 e2 e3 e4 e5
    obtain⟨Y,hY⟩:∃Y,(⟨X.pol,zs,rs.map Gs.H,(tS X.pol (X.clock+n)).1,(tS X.pol (X.clock+n)).2,X.clock+n⟩:Hst)=Y:=⟨_,rfl⟩
    have s1:(tS X.pol (X.clock+n)).1=Y.slot:=by rw[←hY]
    have s2:(tS X.pol (X.clock+n)).2=Y.left:=by rw[←hY]
    have s3:X.clock+(n:Int)=Y.clock:=by rw[←hY]
    have PY:Hid (Y.pol=P∧hoV Y=0):=⟨by rw[←hY];exact HX.out.1,by rw[←hY];exact hz⟩
    rw[hY]at ow
    rw[s1,s2,s3]
    have OY:Hid (OwE u3 A.heap.size (.slice ya0 yn0 yc0) (.slice ya1 yn1 yc1) (.slice ya2 yn2 yc2) (.slice ya3 yn3 yc3) (.slice ya4 yn4 yc4) (.slice ya5 yn5 yc5) Y):=by obtain⟨xs,qs,h⟩:=ow;exact⟨xs,qs,h.mono SU.out.size⟩
    replace SU:=hid (on SU.out bq)
    replace TQ:=hid (TQ.out.keep bq)
    clear ow hz rl bq hY s1 s2 s3
    refine hK.out _ _ SU.out (fun _=>?_)
    clear hK K
    refine zR 6 rfl fun K hK=>?_
    rw[if_pos (by rfl)]
    refine wp_store_mid 37 (.tmp 7) (.tmp 29) rfl q 0 #[.int .i64 0,.slice ya0 yn0 yc0,.slice ya1 yn1 yc1,.slice ya2 yn2 yc2,.slice ya3 yn3 yc3,.slice ya4 yn4 yc4,.slice ya5 yn5 yc5,.int .i64 Y.slot,.int .i64 Y.left,.int .i64 Y.clock] rfl rfl (TQ.out.there 10 (by decide)) (by kernel_rfl) (by simp[Value.oneCell']) ?_
    change K (Act.put _ none undef) _
    simp only[Act.put]
    have NR:Hid (Vb (u3.setCells q 0 #[.int .i64 0,.slice ya0 yn0 yc0,.slice ya1 yn1 yc1,.slice ya2 yn2 yc2,.slice ya3 yn3 yc3,.slice ya4 yn4 yc4,.slice ya5 yn5 yc5,.int .i64 Y.slot,.int .i64 Y.left,.int .i64 Y.clock].toList) q #[.int .i64 0,.slice ya0 yn0 yc0,.slice ya1 yn1 yc1,.slice ya2 yn2 yc2,.slice ya3 yn3 yc3,.slice ya4 yn4 yc4,.slice ya5 yn5 yc5,.int .i64 Y.slot,.int .i64 Y.left,.int .i64 Y.clock] 37∧Mq (fun k=>k=q) u3 (u3.setCells q 0 #[.int .i64 0,.slice ya0 yn0 yc0,.slice ya1 yn1 yc1,.slice ya2 yn2 yc2,.slice ya3 yn3 yc3,.slice ya4 yn4 yc4,.slice ya5 yn5 yc5,.int .i64 Y.slot,.int .i64 Y.left,.int .i64 Y.clock].toList)):=tenX TQ.out _ _ _ _ _ _ _ _ _ _
    have W9:Hid (OwE (u3.setCells q 0 #[.int .i64 0,.slice ya0 yn0 yc0,.slice ya1 yn1 yc1,.slice ya2 yn2 yc2,.slice ya3 yn3 yc3,.slice ya4 yn4 yc4,.slice ya5 yn5 yc5,.int .i64 Y.slot,.int .i64 Y.left,.int .i64 Y.clock].toList) A.heap.size (.slice ya0 yn0 yc0) (.slice ya1 yn1 yc1) (.slice ya2 yn2 yc2) (.slice ya3 yn3 yc3) (.slice ya4 yn4 yc4) (.slice ya5 yn5 yc5) Y):=owe_mqt OY.out NR.out.2 fun k cs t h1 h2 e=>by subst e;exact h2 (Obj.cells.inj (Option.some.inj (h1.symm.trans TQ.out))).2.1
    have B9:Hid (Below A.heap.size A (u3.setCells q 0 #[.int .i64 0,.slice ya0 yn0 yc0,.slice ya1 yn1 yc1,.slice ya2 yn2 yc2,.slice ya3 yn3 yc3,.slice ya4 yn4 yc4,.slice ya5 yn5 yc5,.int .i64 Y.slot,.int .i64 Y.left,.int .i64 Y.clock].toList)):=Mq.under SU.out NR.out.2 fun k e=>by have:=QB.out;omega
    generalize (u3.setCells q 0 #[.int .i64 0,.slice ya0 yn0 yc0,.slice ya1 yn1 yc1,.slice ya2 yn2 yc2,.slice ya3 yn3 yc3,.slice ya4 yn4 yc4,.slice ya5 yn5 yc5,.int .i64 Y.slot,.int .i64 Y.left,.int .i64 Y.clock].toList)=V9 at*
    refine hK.out _ _ B9.out (fun _=>?_)
    clear hK K
    refine wpAnyH_done (by kernel_rfl) ?_ _
    go_wp2_with fail
    go_meet
    exact⟨q,ya0,ya1,ya2,ya3,ya4,ya5,yn0,yn1,yn2,yn3,yn4,yn5,yc0,yc1,yc2,yc3,yc4,yc5,Y,rfl,NR.out.1,W9.out,PY.out,QB.out,B9.out⟩
  ·skip
   rw[if_pos (by rfl)]
   go_simp
   have bq:Below u0.heap.size u0 (u0.alloc (.cells #[.int .i64 0,.slice none 0 0,.slice none 0 0,.slice none 0 0,.slice none 0 0,.slice none 0 0,.slice none 0 0,.int .i64 0,.int .i64 0,.int .i64 0] 37)):=al (Below.refl _ _) _
   have TQ:Hid (Vb (u0.alloc (.cells #[.int .i64 0,.slice none 0 0,.slice none 0 0,.slice none 0 0,.slice none 0 0,.slice none 0 0,.slice none 0 0,.int .i64 0,.int .i64 0,.int .i64 0] 37)) u0.heap.size #[.int .i64 0,.slice none 0 0,.slice none 0 0,.slice none 0 0,.slice none 0 0,.slice none 0 0,.slice none 0 0,.int .i64 0,.int .i64 0,.int .i64 0] 37):=Vb.new _ _ _
   obtain⟨q,hq⟩:∃q,u0.heap.size=q:=⟨_,rfl⟩
   have QB:Hid (A.heap.size≤q):=by show _≤_;rw[←hq];exact SU.out.size
   rw[hq]at TQ ⊢
   generalize u0.alloc (.cells #[.int .i64 0,.slice none 0 0,.slice none 0 0,.slice none 0 0,.slice none 0 0,.slice none 0 0,.slice none 0 0,.int .i64 0,.int .i64 0,.int .i64 0] 37)=u1 at*
   replace SU:=hid (on SU.out bq)
   clear bq hq
   refine hK.out _ _ SU.out (fun _=>?_)
   clear hK K
   refine zR 3 rfl fun K hK=>?_
   rw[if_pos (by rfl)]
   go_simp
   refine(lw_at (HRA.out.below SU.out) 5 (by decide) 60).mono ?_
   rintro e u2⟨nn,rfl,nn0,nn1,bq⟩
   obtain⟨n,rfl⟩:=Int.eq_ofNat_of_zero_le nn0
   have NN:Hid (n≤60):=by show _≤_;have:=nn1 (by decide);omega
   replace SU:=hid (on SU.out bq)
   replace TQ:=hid (TQ.out.keep bq)
   clear bq nn0 nn1
   refine hK.out _ _ SU.out (fun _=>?_)
   clear hK K
   refine zR 4 rfl fun K hK=>?_
   rw[if_pos (by rfl)]
   go_simp
   refine(i_runHost _ _ _ _ _ _ _ _ _ _ _ _ _ _ _ _ _ _ X n _ _ (fun _ _ _=>True) (OJ.out.keep SU.out) (cell_keep SU.out GA.out.1) (GA.out.2.keep SU.out) HX.out.2.2 (by have:=NN.out;omega) (by rw[HX.out.2.1];have:=NN.out;omega) SX.out (fun _ _ _=>trivial) (fun _ _ _ _ _ _=>trivial)).mono ?_
   rintro e u3⟨y0,y1,y2,y3,y4,y5,zs,rs,rfl,ow,hz, -,rl,bq⟩
   obtain⟨ya0,ya1,ya2,ya3,ya4,ya5,yc0,yc1,yc2,yc3,yc4,yc5,yn0,yn1,yn2,yn3,yn4,yn5,e0,e1,e2,e3,e4,e5⟩:=owe_shapesG ow
   subst e0 e1 e2 e3 e4 e5
   obtain⟨Y,hY⟩:∃Y,(⟨X.pol,zs,rs.map Gs.H,(tS X.pol (X.clock+n)).1,(tS X.pol (X.clock+n)).2,X.clock+n⟩:Hst)=Y:=⟨_,rfl⟩
   have s1:(tS X.pol (X.clock+n)).1=Y.slot:=by rw[←hY]
   have s2:(tS X.pol (X.clock+n)).2=Y.left:=by rw[←hY]
   have s3:X.clock+(n:Int)=Y.clock:=by rw[←hY]
   have PY:Hid (Y.pol=P∧hoV Y=0):=⟨by rw[←hY];exact HX.out.1,by rw[←hY];exact hz⟩
   rw[hY]at ow
   rw[s1,s2,s3]
   have OY:Hid (OwE u3 A.heap.size (.slice ya0 yn0 yc0) (.slice ya1 yn1 yc1) (.slice ya2 yn2 yc2) (.slice ya3 yn3 yc3) (.slice ya4 yn4 yc4) (.slice ya5 yn5 yc5) Y):=by obtain⟨xs,qs,h⟩:=ow;exact⟨xs,qs,h.mono SU.out.size⟩
   replace SU:=hid (on SU.out bq)
   replace TQ:=hid (TQ.out.keep bq)
   clear ow hz rl bq hY s1 s2 s3
   refine hK.out _ _ SU.out (fun _=>?_)
   clear hK K
   refine zR 6 rfl fun K hK=>?_
   rw[if_pos (by rfl)]
   refine wp_store_mid 37 (.tmp 7) (.tmp 29) rfl q 0 #[.int .i64 0,.slice ya0 yn0 yc0,.slice ya1 yn1 yc1,.slice ya2 yn2 yc2,.slice ya3 yn3 yc3,.slice ya4 yn4 yc4,.slice ya5 yn5 yc5,.int .i64 Y.slot,.int .i64 Y.left,.int .i64 Y.clock] rfl rfl (TQ.out.there 10 (by decide)) (by kernel_rfl) (by simp[Value.oneCell']) ?_
   change K (Act.put _ none undef) _
   simp only[Act.put]
   have NR:Hid (Vb (u3.setCells q 0 #[.int .i64 0,.slice ya0 yn0 yc0,.slice ya1 yn1 yc1,.slice ya2 yn2 yc2,.slice ya3 yn3 yc3,.slice ya4 yn4 yc4,.slice ya5 yn5 yc5,.int .i64 Y.slot,.int .i64 Y.left,.int .i64 Y.clock].toList) q #[.int .i64 0,.slice ya0 yn0 yc0,.slice ya1 yn1 yc1,.slice ya2 yn2 yc2,.slice ya3 yn3 yc3,.slice ya4 yn4 yc4,.slice ya5 yn5 yc5,.int .i64 Y.slot,.int .i64 Y.left,.int .i64 Y.clock] 37∧Mq (fun k=>k=q) u3 (u3.setCells q 0 #[.int .i64 0,.slice ya0 yn0 yc0,.slice ya1 yn1 yc1,.slice ya2 yn2 yc2,.slice ya3 yn3 yc3,.slice ya4 yn4 yc4,.slice ya5 yn5 yc5,.int .i64 Y.slot,.int .i64 Y.left,.int .i64 Y.clock].toList)):=tenX TQ.out _ _ _ _ _ _ _ _ _ _
   have W9:Hid (OwE (u3.setCells q 0 #[.int .i64 0,.slice ya0 yn0 yc0,.slice ya1 yn1 yc1,.slice ya2 yn2 yc2,.slice ya3 yn3 yc3,.slice ya4 yn4 yc4,.slice ya5 yn5 yc5,.int .i64 Y.slot,.int .i64 Y.left,.int .i64 Y.clock].toList) A.heap.size (.slice ya0 yn0 yc0) (.slice ya1 yn1 yc1) (.slice ya2 yn2 yc2) (.slice ya3 yn3 yc3) (.slice ya4 yn4 yc4) (.slice ya5 yn5 yc5) Y):=owe_mqt OY.out NR.out.2 fun k cs t h1 h2 e=>by subst e;exact h2 (Obj.cells.inj (Option.some.inj (h1.symm.trans TQ.out))).2.1
   have B9:Hid (Below A.heap.size A (u3.setCells q 0 #[.int .i64 0,.slice ya0 yn0 yc0,.slice ya1 yn1 yc1,.slice ya2 yn2 yc2,.slice ya3 yn3 yc3,.slice ya4 yn4 yc4,.slice ya5 yn5 yc5,.int .i64 Y.slot,.int .i64 Y.left,.int .i64 Y.clock].toList)):=Mq.under SU.out NR.out.2 fun k e=>by have:=QB.out;omega
   generalize (u3.setCells q 0 #[.int .i64 0,.slice ya0 yn0 yc0,.slice ya1 yn1 yc1,.slice ya2 yn2 yc2,.slice ya3 yn3 yc3,.slice ya4 yn4 yc4,.slice ya5 yn5 yc5,.int .i64 Y.slot,.int .i64 Y.left,.int .i64 Y.clock].toList)=V9 at*
   refine hK.out _ _ B9.out (fun _=>?_)
   clear hK K
   refine wpAnyH_done (by kernel_rfl) ?_ _
   go_wp2_with fail
   go_meet
   exact⟨q,ya0,ya1,ya2,ya3,ya4,ya5,yn0,yn1,yn2,yn3,yn4,yn5,yc0,yc1,yc2,yc3,yc4,yc5,Y,rfl,NR.out.1,W9.out,PY.out,QB.out,B9.out⟩
 case rest=>
 obtain⟨q,ya0,ya1,ya2,ya3,ya4,ya5,yn0,yn1,yn2,yn3,yn4,yn5,yc0,yc1,yc2,yc3,yc4,yc5,Y,rfl,hV,hO,hY,hq,hB⟩:=hcut
 obtain⟨V,hVw⟩:∃V,V=wc:=⟨_,rfl⟩
 subst hVw
 have BV:=hid hB
 have VQ:=hid hV
 have OY:Hid (Oj V A.heap.size ya0 yn0 yc0 ya1 yn1 yc1 ya2 yn2 yc2 ya3 yn3 yc3 (.slice ya4 yn4 yc4) (.slice ya5 yn5 yc5) Y):=owe_oj hO
 have PY:=hid hY
 have HH:Hid (yn5=n0):=by
  obtain⟨_,_,e,_⟩:=OY.out.harts.shape
  simp at e
  have z:=hoz_of hY.2
  have:=z.hl
  rw[hY.1]at this
  have:=HN.out
  show _=_
  omega
 have BW:=hid (on BA.out hB)
 have KV:=hid (KP.out.keep BW.out)
 have PV:=hid (HP.out.stay BW.out)
 have GV:Hid (V.cell? ⟨0,0,none⟩=some (.iface 240 (.agg #[.pointer (some ⟨2,134,none⟩)]))):=cell_keep hB GA.out.1
 have BF:=hid (on B2.out BW.out)
 have x0:=(VA.out.keep hB).cell 0 rfl
 have y0:=hV.cell 0 rfl
 have y6:V.cell? ⟨q,6,none⟩=some (.slice ya5 n0 yc5):=by rw[←HH.out];exact hV.cell 6 rfl
 have k0:=KV.out.cell (i:=0) rfl
 clear hV hO hY hq hB OJ BA GA HAS HRA SX HP KP BW B2 VA BV HX HR
 go_wp2_with fail
 clear x0 y0 y6 k0
 obtain⟨gm,hgm⟩:∃g,ya4=some ⟨g,0,none⟩:=by
  obtain⟨_,_,e,_,_,hg⟩:=OY.out.mem.shape
  obtain⟨g,rfl⟩:=hg (by have:=(hoz_of PY.out.2).ml;omega)
  simp at e
  exact⟨g,e.1⟩
 subst hgm
 have N1:Hid ((n1:Int)≤4):=by show _≤_;have:=(pf_parts P PF.out).2.2.2.2.1;have:=HN.out.2;omega
 go_loopw [8] (fun c wr=>∃j:Nat,j≤n1∧c=.int .i64 (j:Int)∧Below V.heap.size V wr) (fun c _=>n1-(intOf c).toNat)
 case atStart=>exact⟨0,Nat.zero_le _,rfl,Below.refl _ _⟩
 case round=>
  obtain⟨j,hj,rfl,hB⟩:=hrel
  have HB:=hid hB
  have k1:=(KV.out.keep hB).cell (i:=1) rfl
  by_cases hlt:j<n1
  ·have hI:(j:Int)<(n1:Int):=by omega
   have HLT:=hid hlt
   obtain⟨x,hx,m0,m1,m2,m3,m4⟩:=(PV.out.stay hB).lanes.at j hlt
   subst hx
   obtain⟨l,hl⟩:∃l,P.lanes.getD j lz=l:=⟨_,rfl⟩
   have HLN:=hid hl
   rw[hl]at m0 m1 m2 m3 m4
   clear hlt hB hj hl
   have wj:wrap64 ((j:Int)+1)=(j:Int)+1:=wrap64_id (by have:=HLT.out;have:=N1.out;omega)
   have RL:Hid (∀wr',Below V.heap.size V wr'→∃j':Nat,j'≤n1∧Value.int .i64 (wrap64 ((j:Int)+1))=.int .i64 (j':Int)∧Below V.heap.size V wr'):=fun wr' b=>⟨j+1,by have:=HLT.out;omega,by rw[wj];congr 1,b⟩
   have MS:Hid (n1-(intOf (Value.int .i64 (wrap64 ((j:Int)+1)))).toNat<n1-(intOf (Value.int .i64 (j:Int))).toNat):=by show _<_;have:=HLT.out;rw[wj];simp[intOf];omega
   clear wj
   obtain⟨lb,hlb⟩:∃k,wr.heap.size=k:=⟨_,rfl⟩
   generalize hU:wr.alloc (.cells #[.int .i64 l.fr,.int .i64 l.dst,.int .i64 l.pg,.int .i64 l.af,.int .i64 l.tt] 42)=u1
   have A1:Below wr.heap.size wr u1:=by rw[←hU];exact al (Below.refl _ _) _
   have VL:Hid (Vb u1 lb #[.int .i64 l.fr,.int .i64 l.dst,.int .i64 l.pg,.int .i64 l.af,.int .i64 l.tt] 42):=by show Vb _ _ _ _;rw[←hU,←hlb];exact Vb.new _ _ _
   have S1:=hid (on HB.out A1)
   clear A1 HB
   go_upto_region 12 with fail
   try rw[hU]
   try rw[hlb]
   clear hU hlb m0 m1 m2 m3 m4 k1
   have K1:=KV.out.keep S1.out
   have k0:=K1.cell (i:=0) rfl
   have k1:=K1.cell (i:=1) rfl
   have k2:=K1.cell (i:=2) rfl
   have k3:=K1.cell (i:=3) rfl
   have q5:=(VQ.out.keep S1.out).cell 5 rfl
   clear K1
   go_wp2_with fail
   clear k0 k1 k2 k3 q5
   refine(i_laneWords _ _ _ _ _ _ _ _ _ _ _ _ P A.heap.size _ _ gm Y.mem (j:Int) _ (PV.out.stay S1.out) (OY.out.mem.keep S1.out) (cell_keep S1.out GV.out)).mono ?_
   rintro e u2⟨wv,rfl,nw,b2⟩
   obtain⟨wa,wk,e0,_⟩:=nw.shape
   obtain⟨wn,hwn⟩:∃n,(lwordsZ P Y.mem (j:Int)).length=n:=⟨_,rfl⟩
   rw[hwn]at e0
   subst e0
   have LW:=lane_words PY.out.2 (i:=j) (by rw[PY.out.1,HN.out.2];exact HLT.out)
   rw[PY.out.1,HLN.out]at LW
   have LWD:Hid (_∧_∧_):=LW
   rw[LW.1]
   have NW:=hid nw
   have S2:Hid (Below V.heap.size V u2∧Below u1.heap.size u1 u2):=⟨on S1.out b2,b2⟩
   clear nw b2 hwn LW
   obtain⟨wb,hwb⟩:∃k,u2.heap.size=k:=⟨_,rfl⟩
   generalize hU:u2.alloc (.cells #[.int .i64 0,.slice wa wn wk] 44)=u3
   have A3:Below u2.heap.size u2 u3:=by rw[←hU];exact al (Below.refl _ _) _
   have VWb:Hid (Vb u3 wb #[.int .i64 0,.slice wa wn wk] 44):=by show Vb _ _ _ _;rw[←hU,←hwb];exact Vb.new _ _ _
   have NW3:=hid (NW.out.keep A3)
   have Su3:Hid (Below V.heap.size V u3∧Below u1.heap.size u1 u3):=⟨on S2.out.1 A3,on S2.out.2 A3⟩
   have GG:Hid (isG Y.pol.own.length l.dst=true∧isG Y.pol.own.length l.fr=true):=by
    have hi:j<P.lanes.length:=by rw[HN.out.2];exact HLT.out
    have m:P.lanes.getD j lz ∈ P.lanes:=by rw[List.getD,List.getElem?_eq_getElem hi];exact List.getElem_mem hi
    rw[HLN.out]at m
    have en:=lanes_ends _ _ _ (pf_parts P PF.out).2.2.1 l m
    show _∧_
    rw[PY.out.1]
    exact⟨en.2,en.1⟩
   clear A3 NW S2
   go_upto_region 13 with fail
   try rw[hU]
   try rw[hwb]
   clear hU hwb
   have QQ:=VQ.out.keep Su3.out.1
   have q1:=QQ.cell 1 rfl
   have q2:=QQ.cell 2 rfl
   have q3:=QQ.cell 3 rfl
   have q4:=QQ.cell 4 rfl
   have q5:=QQ.cell 5 rfl
   have q6:=QQ.cell 6 rfl
   have q7:=QQ.cell 7 rfl
   have q8:=QQ.cell 8 rfl
   have q9:=QQ.cell 9 rfl
   have l1:=(VL.out.keep Su3.out.2).cell 1 rfl
   clear QQ
   go_wp2_with fail
   clear q1 q2 q3 q4 q5 q6 q7 q8 q9 l1
   refine(i_soloGood _ _ _ _ _ _ _ _ _ _ _ _ _ _ Y l.dst _ _ (OY.out.keep Su3.out.1) (cell_keep Su3.out.1 GV.out) PY.out.2 GG.out.1).mono ?_
   rintro e u4⟨d0,d1,d2,d3,d4,d5,dn0,dn1,dn2,dn3,dn4,dn5,dc0,dc1,dc2,dc3,dc4,dc5,rfl,sd,bd⟩
   obtain⟨Hd,hHd⟩:∃H,frH Y l.dst=H:=⟨_,rfl⟩
   rw[hHd]at sd ⊢
   have HHd:=hid hHd
   obtain⟨kd,hkd⟩:∃k,u4.heap.size=k:=⟨_,rfl⟩
   generalize hU:u4.alloc (.cells #[.int .i64 0,.slice d0 dn0 dc0,.int .i64 Hd.pc,.slice d1 dn1 dc1,.bool Hd.halted,.bool Hd.waiting,.bool Hd.rung,.int .i64 Hd.done,.slice d2 dn2 dc2,.slice d3 dn3 dc3,.slice d4 dn4 dc4,.slice d5 dn5 dc5] 52)=Ud
   have Ad:Below u4.heap.size u4 Ud:=by rw[←hU];exact al (Below.refl _ _) _
   have Vd:Hid (Vb Ud kd #[.int .i64 0,.slice d0 dn0 dc0,.int .i64 Hd.pc,.slice d1 dn1 dc1,.bool Hd.halted,.bool Hd.waiting,.bool Hd.rung,.int .i64 Hd.done,.slice d2 dn2 dc2,.slice d3 dn3 dc3,.slice d4 dn4 dc4,.slice d5 dn5 dc5] 52):=by show Vb _ _ _ _;rw[←hU,←hkd];exact Vb.new _ _ _
   have Md:=hid (sd.keep Ad)
   have BUd:=hid (on bd Ad)
   have SUd:Hid (Below V.heap.size V Ud∧Below u1.heap.size u1 Ud):=⟨on Su3.out.1 (on bd Ad),on Su3.out.2 (on bd Ad)⟩
   clear Ad sd bd hHd
   go_upto_region 14 with fail
   try rw[hU]
   try rw[hkd]
   clear hU hkd
   have QQ:=VQ.out.keep SUd.out.1
   have q1:=QQ.cell 1 rfl
   have q2:=QQ.cell 2 rfl
   have q3:=QQ.cell 3 rfl
   have q4:=QQ.cell 4 rfl
   have q5:=QQ.cell 5 rfl
   have q6:=QQ.cell 6 rfl
   have q7:=QQ.cell 7 rfl
   have q8:=QQ.cell 8 rfl
   have q9:=QQ.cell 9 rfl
   have l0:=(VL.out.keep SUd.out.2).cell 0 rfl
   clear QQ
   go_wp2_with fail
   clear q1 q2 q3 q4 q5 q6 q7 q8 q9 l0
   refine(i_soloGood _ _ _ _ _ _ _ _ _ _ _ _ _ _ Y l.fr _ _ (OY.out.keep SUd.out.1) (cell_keep SUd.out.1 GV.out) PY.out.2 GG.out.2).mono ?_
   rintro e u5⟨f0,f1,f2,f3,f4,f5,fn0,fn1,fn2,fn3,fn4,fn5,fc0,fc1,fc2,fc3,fc4,fc5,rfl,sf,bf⟩
   obtain⟨Hf,hHf⟩:∃H,frH Y l.fr=H:=⟨_,rfl⟩
   rw[hHf]at sf ⊢
   have HHf:=hid hHf
   obtain⟨kf,hkf⟩:∃k,u5.heap.size=k:=⟨_,rfl⟩
   generalize hU:u5.alloc (.cells #[.int .i64 0,.slice f0 fn0 fc0,.int .i64 Hf.pc,.slice f1 fn1 fc1,.bool Hf.halted,.bool Hf.waiting,.bool Hf.rung,.int .i64 Hf.done,.slice f2 fn2 fc2,.slice f3 fn3 fc3,.slice f4 fn4 fc4,.slice f5 fn5 fc5] 52)=Uf
   have Af:Below u5.heap.size u5 Uf:=by rw[←hU];exact al (Below.refl _ _) _
   have Vf:Hid (Vb Uf kf #[.int .i64 0,.slice f0 fn0 fc0,.int .i64 Hf.pc,.slice f1 fn1 fc1,.bool Hf.halted,.bool Hf.waiting,.bool Hf.rung,.int .i64 Hf.done,.slice f2 fn2 fc2,.slice f3 fn3 fc3,.slice f4 fn4 fc4,.slice f5 fn5 fc5] 52):=by show Vb _ _ _ _;rw[←hU,←hkf];exact Vb.new _ _ _
   have Mf:=hid (sf.keep Af)
   have BUf:=hid (on bf Af)
   have SUf:Hid (Below V.heap.size V Uf∧Below u1.heap.size u1 Uf):=⟨on SUd.out.1 (on bf Af),on SUd.out.2 (on bf Af)⟩
   clear Af sf bf hHf
   go_upto_region 15 with fail
   try rw[hU]
   try rw[hkf]
   clear hU hkf
   have SZ:Hid (Below Uf.heap.size Uf Uf.drew):=(Below.refl _ _).drew
   have VW5:=hid (((VWb.out.keep BUd.out).keep BUf.out))
   have NW5:=hid ((NW3.out.keep BUd.out).keep BUf.out)
   have VL5:=hid (VL.out.keep SUf.out.2)
   have Vd5:=hid (Vd.out.keep BUf.out)
   have Md5:=hid (Md.out.keep BUf.out)
   have hf1:=field_intsL
   refine wp_region_held (S:=fun w'=>Below Uf.heap.size Uf w') (by kernel_rfl) ?_
   change wpAnyH _ _ _ _ _ _ _ _ (World.drew _)
   generalize Uf.drew=x0 at*
   refine wpTd 0 76 ((.pointer (some ⟨wb,0,none⟩))) rfl SZ.out ?_
   simp only[Act.put,zT,zZ,zS]
   refine wpTe 1 77 ((.int .i64 0)) rfl (Or.inl ⟨by rfl,fun w' hs=>by have hp:=VW5.out.keep hs;have y0:=hp.cell 0 rfl;go_simp⟩) SZ.out ?_
   simp only[Act.put,zT,zZ,zS]
   refine wpTd 2 78 ((.bool false)) rfl SZ.out ?_
   simp only[Act.put,zT,zZ,zS]
   refine wpTd 3 79 ((.bool false)) rfl SZ.out ?_
   simp only[Act.put,zT,zZ,zS]
   refine wpTd 4 80 ((.pointer (some ⟨kd,1,none⟩))) rfl SZ.out ?_
   simp only[Act.put,zT,zZ,zS]
   refine wpTe 5 81 ((.agg #[.slice d0 dn0 dc0,.int .i64 Hd.pc,.slice d1 dn1 dc1,.bool Hd.halted,.bool Hd.waiting,.bool Hd.rung,.int .i64 Hd.done,.slice d2 dn2 dc2,.slice d3 dn3 dc3,.slice d4 dn4 dc4,.slice d5 dn5 dc5])) rfl (Or.inl ⟨by rfl,fun w' hs=>by have hp:=Vd5.out.keep hs;have y1:=hp.cell 1 rfl;have y2:=hp.cell 2 rfl;have y3:=hp.cell 3 rfl;have y4:=hp.cell 4 rfl;have y5:=hp.cell 5 rfl;have y6:=hp.cell 6 rfl;have y7:=hp.cell 7 rfl;have y8:=hp.cell 8 rfl;have y9:=hp.cell 9 rfl;have y10:=hp.cell 10 rfl;have y11:=hp.cell 11 rfl;go_simp⟩) SZ.out ?_
   simp only[Act.put,zT,zZ,zS]
   refine wpTd 6 82 ((.pointer (some ⟨lb,4,none⟩))) rfl SZ.out ?_
   simp only[Act.put,zT,zZ,zS]
   refine wpTe 7 83 ((.int .i64 l.tt)) rfl (Or.inl ⟨by rfl,fun w' hs=>by have hp:=VL5.out.keep hs;have y4:=hp.cell 4 rfl;go_simp⟩) SZ.out ?_
   simp only[Act.put,zT,zZ,zS]
   refine wpTd 10 86 ((.pointer (some ⟨wb,1,none⟩))) rfl SZ.out ?_
   simp only[Act.put,zT,zZ,zS]
   refine wpTe 11 87 ((.slice wa wn wk)) rfl (Or.inl ⟨by rfl,fun w' hs=>by have hp:=VW5.out.keep hs;have y1:=hp.cell 1 rfl;go_simp⟩) SZ.out ?_
   simp only[Act.put,zT,zZ,zS]
   refine zR 8 rfl fun K hK=>?_
   rw[if_pos (by rfl)]
   go_simp
   refine(i_soloWords _ _ _ _ _ _ _ _ _ _ _ _ (Md5.out.keep SZ.out) (by have e:(frP Y l.dst).length≤8:=frp_le Y l.dst;omega)).mono ?_
   rintro e x1⟨sv,rfl,ns,bq⟩
   obtain⟨sa,sk,e0,_⟩:=ns.shape
   obtain⟨sn,hsn⟩:∃n,(swZ Hd (frP Y l.dst) (frZ Y l.dst) l.tt).length=n:=⟨_,rfl⟩
   rw[hsn]at e0
   subst e0
   have NS:=hid ns
   replace SZ:=hid (on SZ.out bq)
   clear ns bq hsn
   refine hK.out _ _ SZ.out (fun _=>?_)
   clear hK K
   refine wpTd 9 85 ((.slice sa sn sk)) rfl SZ.out ?_
   simp only[Act.put,zT,zZ,zS]
   refine zR 12 rfl fun K hK=>?_
   rw[if_pos (by rfl)]
   go_simp
   have EQ:swZ Hd (frP Y l.dst) (frZ Y l.dst) l.tt=lwordsZ P Y.mem (j:Int):=by rw[←HHd.out];exact LWD.out.2.1
   rw[EQ]at NS
   refine(lw_numsD _ _ _ _ _ _ NS.out (NW5.out.keep SZ.out)).mono ?_
   rintro e x2⟨rfl,nq,hw⟩
   replace SZ:Hid (Below Uf.heap.size Uf x2):=by show Below _ _ _;rw[hw];exact below_drewN SZ.out nq
   clear hw EQ NS
   refine hK.out _ _ SZ.out (fun _=>?_)
   clear hK K
   refine wpTd 13 89 ((.bool false)) rfl SZ.out ?_
   simp only[Act.put,zT,zZ,zS]
   refine wpTd 14 90 ((.bool false)) rfl SZ.out ?_
   simp only[Act.put,zT,zZ,zS]
   refine wpTd 15 91 ((.bool false)) rfl SZ.out ?_
   simp only[Act.put,zT,zZ,zS]
   refine wpTd 16 92 ((.pointer (some ⟨kf,1,none⟩))) rfl SZ.out ?_
   simp only[Act.put,zT,zZ,zS]
   refine wpTe 17 93 ((.agg #[.slice f0 fn0 fc0,.int .i64 Hf.pc,.slice f1 fn1 fc1,.bool Hf.halted,.bool Hf.waiting,.bool Hf.rung,.int .i64 Hf.done,.slice f2 fn2 fc2,.slice f3 fn3 fc3,.slice f4 fn4 fc4,.slice f5 fn5 fc5])) rfl (Or.inl ⟨by rfl,fun w' hs=>by have hp:=Vf.out.keep hs;have y1:=hp.cell 1 rfl;have y2:=hp.cell 2 rfl;have y3:=hp.cell 3 rfl;have y4:=hp.cell 4 rfl;have y5:=hp.cell 5 rfl;have y6:=hp.cell 6 rfl;have y7:=hp.cell 7 rfl;have y8:=hp.cell 8 rfl;have y9:=hp.cell 9 rfl;have y10:=hp.cell 10 rfl;have y11:=hp.cell 11 rfl;go_simp⟩) SZ.out ?_
   simp only[Act.put,zT,zZ,zS]
   refine wpTd 18 94 ((.pointer (some ⟨lb,3,none⟩))) rfl SZ.out ?_
   simp only[Act.put,zT,zZ,zS]
   refine wpTe 19 95 ((.int .i64 l.af)) rfl (Or.inl ⟨by rfl,fun w' hs=>by have hp:=VL5.out.keep hs;have y3:=hp.cell 3 rfl;go_simp⟩) SZ.out ?_
   simp only[Act.put,zT,zZ,zS]
   refine wpTd 22 98 ((.pointer (some ⟨wb,1,none⟩))) rfl SZ.out ?_
   simp only[Act.put,zT,zZ,zS]
   refine wpTe 23 99 ((.slice wa wn wk)) rfl (Or.inl ⟨by rfl,fun w' hs=>by have hp:=VW5.out.keep hs;have y1:=hp.cell 1 rfl;go_simp⟩) SZ.out ?_
   simp only[Act.put,zT,zZ,zS]
   refine zR 20 rfl fun K hK=>?_
   rw[if_pos (by rfl)]
   go_simp
   refine(i_soloWords _ _ _ _ _ _ _ _ _ _ _ _ (Mf.out.keep SZ.out) (by have e:(frP Y l.fr).length≤8:=frp_le Y l.fr;omega)).mono ?_
   rintro e x3⟨sv,rfl,ns,bq⟩
   obtain⟨sa,sk,e0,_⟩:=ns.shape
   obtain⟨sn,hsn⟩:∃n,(swZ Hf (frP Y l.fr) (frZ Y l.fr) l.af).length=n:=⟨_,rfl⟩
   rw[hsn]at e0
   subst e0
   have NS:=hid ns
   replace SZ:=hid (on SZ.out bq)
   clear ns bq hsn
   refine hK.out _ _ SZ.out (fun _=>?_)
   clear hK K
   refine wpTd 21 97 ((.slice sa sn sk)) rfl SZ.out ?_
   simp only[Act.put,zT,zZ,zS]
   refine zR 24 rfl fun K hK=>?_
   rw[if_pos (by rfl)]
   go_simp
   have EQ:swZ Hf (frP Y l.fr) (frZ Y l.fr) l.af=lwordsZ P Y.mem (j:Int):=by rw[←HHf.out];exact LWD.out.2.2
   rw[EQ]at NS
   refine(lw_numsD _ _ _ _ _ _ NS.out (NW5.out.keep SZ.out)).mono ?_
   rintro e x4⟨rfl,nq,hw⟩
   replace SZ:Hid (Below Uf.heap.size Uf x4):=by show Below _ _ _;rw[hw];exact below_drewN SZ.out nq
   clear hw EQ NS
   refine hK.out _ _ SZ.out (fun _=>?_)
   clear hK K
   refine wpTd 25 101 ((.bool false)) rfl SZ.out ?_
   simp only[Act.put,zT,zZ,zS]
   refine wpTd 26 102 ((.bool false)) rfl SZ.out ?_
   simp only[Act.put,zT,zZ,zS]
   refine wpAnyH_done (by kernel_rfl) ?_ _
   have FIN:Below V.heap.size V x4:=on SUf.out.1 SZ.out
   clear SZ VW5 NW5 VL5 Vd5 Md5 hf1 LWD VL NW3 Su3 GG VWb Vd Md SUd BUd Vf Mf SUf BUf HHd HHf PY OY VQ GV PV KV BF HLN
   go_wp2_with fail
   go_roundw
   case rel=>exact RL.out _ FIN
   case measure=>exact MS.out
  ·have hI:¬(j:Int)<(n1:Int):=by omega
   clear hlt hj
   go_wp2_with fail
   go_ret
   exact⟨rfl,on BF.out HB.out⟩
end Go.Proofs.YtignbeibcakgpaaGreatDoor.fnLanesDone
