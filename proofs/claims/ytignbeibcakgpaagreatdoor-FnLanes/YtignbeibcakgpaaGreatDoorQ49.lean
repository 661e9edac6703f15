import Derived.Shelf.Abstract
import Derived.Test.YtignbeibcakgpaaGreatDoorQ46
import Derived.Test.YtignbeibcakgpaaGreatDoorQ48
namespace Go.Proofs.YtignbeibcakgpaaGreatDoor
set_option maxRecDepth 20000
set_option maxHeartbeats 16000000
open Go.RowKit
set_option linter.unusedVariables false
attribute [local go_sem] Oper.semAt_some
theorem hxu_of{w:World}{base b g lh vc:Nat}{X:Hst}{rs:List Gs}(z:Hoz X)(hp:Pags w base (gq g) 24 X.mem)(hr:Gw w base (gq g) (.slice (some ⟨b,0,none⟩) lh vc) X.harts X.pol lh rs)(hl:lh=X.harts.length)(tab:Tab w)(tb:1<base):Hxu w base b g lh vc X.mem rs:=by
 have row:=hr.row
 rw[hr.len]at row
 have tB:∃cs,w.heap[b]? =some (.cells cs 129 (0,0)):=by
  obtain⟨_,⟨e,_⟩|⟨g',cap,cur,e,_,k,_⟩⟩:=row
  ·cases e
  ·cases e;exact⟨cur,k⟩
 obtain⟨cB,tB⟩:=tB
 have tG:=hp.heap
 have own:∀{E:TypeId} {sz n bb:Nat} {v:Value} {xs:List Value},w.ownsRow bb E sz v n xs→E≠129→E≠91→∀t,v.ownBlock=some t→bb≤t∧t≠b∧t≠g∧∃cs,w.heap[t]? =some (.cells cs E (0,0)):=fun{E sz n bb v xs} h h1 h2 t e=>by
  obtain⟨_,⟨rfl,_⟩|⟨g',cap,cur,rfl,k0,k,_⟩⟩:=h
  ·cases e
  ·have e1:g'=t:=by simpa [Value.ownBlock]using e
   subst e1
   exact⟨k0,fun f=>by subst f;rw[tB]at k;exact h1 (Obj.cells.inj (Option.some.inj k)).2.1.symm,fun f=>by subst f;rw[tG]at k;exact h2 (Obj.cells.inj (Option.some.inj k)).2.1.symm,cur,k⟩
 have at_:∀k,k<lh→rs[k]? =some (rs.getD k gsz):=fun k hk=>by rw[List.getD,List.getElem?_eq_getElem (by rw[hr.len];exact hk)];rfl
 refine⟨row,hr.len,hp,tab,tb,fun k hk=>?_,fun j k hj hk hne=>?_⟩
 ·obtain⟨e1,e2,_,_,G⟩:=hr.one k _ (at_ k hk)
  refine⟨G.i.rv,own G.i (by decide) (by decide),G.o,?_,?_⟩
  ·obtain⟨a,cap,el,_,_,hg⟩:=G.l.shape
   obtain⟨pg,rfl⟩:=hg (by rw[G.l8];decide)
   rw[G.l8]at el
   obtain⟨_,m1,m2,cs,m3⟩:=own G.l (by decide) (by decide) pg (by rw[el];rfl)
   obtain⟨bo,b1,b2,b3,b4⟩:=G.o
   have l0:Prs 89 w 0 (rs.getD k gsz).q.l (rs.getD k gsz).ps:=row_monoX G.l (Nat.zero_le _)
   exact⟨pg,cap,el,(Array.getElem?_eq_some_iff.1 m3).1,m1,m2,by rw[el]at l0;exact page_ne b3 l0,l0⟩
  ·rw[e1,e2]
   exact pfor_sn z.pf (by rw[←z.hl];omega) (z.ok k (by omega)) z.ml z.mw
 ·have P:=(List.pairwise_flatMap.1 hr.apart).2
  rw[List.pairwise_iff_getElem]at P
  have ge:∀k (hk:k<lh),rs[k]'(by rw[hr.len];exact hk)=rs.getD k gsz:=fun k hk=>by
   have:=at_ k hk
   rw[List.getElem?_eq_getElem (by rw[hr.len];exact hk)]at this
   exact Option.some.inj this
  rcases Nat.lt_or_gt_of_ne hne with f|f
  ·have Q:=P j k (by rw[hr.len];exact hj) (by rw[hr.len];exact hk) f
   rw[ge j hj,ge k hk]at Q
   exact⟨Q _ (by simp[Gv.two]) _ (by simp[Gv.two]),Q _ (by simp[Gv.two]) _ (by simp[Gv.two])⟩
  ·have Q:=P k j (by rw[hr.len];exact hk) (by rw[hr.len];exact hj) f
   rw[ge j hj,ge k hk]at Q
   exact⟨(Q _ (by simp[Gv.two]) _ (by simp[Gv.two])).swap,(Q _ (by simp[Gv.two]) _ (by simp[Gv.two])).swap⟩
theorem i_runHost(a0 a1 a2 a3:Option Addr)(n0 c0 n1 c1 n2 c2 n3 c3:Nat)(am:Option Addr)(lm cm:Nat)(ah:Option Addr)(lh ch:Nat)(X:Hst)(n:Nat)(b:Nat)(w:World)(R:Nat→List Int→List Gs→Prop)(d:Oj w b a0 n0 c0 a1 n1 c1 a2 n2 c2 a3 n3 c3 (.slice am lm cm) (.slice ah lh ch) X)(hg:w.cell? ⟨0,0,none⟩=some (.iface 240 (.agg #[.pointer (some ⟨2,134,none⟩)])))(tab:Tab w)(hv:hoV X=0)(hn:n≤500)(hc:X.clock+n≤1000000)(sm:Small n0 n1 n2 n3 X.pol)
  (R0:∀rs,rs.map Gs.H=X.harts→(∀k,k<rs.length→(rs.getD k gsz).ps=pforL (X.pol.own.getD k []) X.pol.lanes (k:Int) 8)→R 0 X.mem rs)
  (hR:∀k zs rs i o,R k zs rs→R (k+1) (hsZ (tG X.pol (X.clock+k)).toNat rs zs) (hsG X.pol.bells (tG X.pol (X.clock+k)).toNat rs zs i o)):
  Calls Tryz.prog 7 #[.agg #[.slice a0 n0 c0,.slice a1 n1 c1,.slice a2 n2 c2,.slice a3 n3 c3,.slice am lm cm,.slice ah lh ch,.int .i64 X.slot,.int .i64 X.left,.int .i64 X.clock],.int .i64 (n:Int)] w fun e w'=>∃v0 v1 v2 v3 v4 v5 zs rs,e=.returned (.agg #[.int .i64 0,v0,v1,v2,v3,v4,v5,.int .i64 (tS X.pol (X.clock+n)).1,.int .i64 (tS X.pol (X.clock+n)).2,.int .i64 (X.clock+n)])∧OwE w' w.heap.size v0 v1 v2 v3 v4 v5 ⟨X.pol,zs,rs.map Gs.H,(tS X.pol (X.clock+n)).1,(tS X.pol (X.clock+n)).2,X.clock+n⟩∧hoV ⟨X.pol,zs,rs.map Gs.H,(tS X.pol (X.clock+n)).1,(tS X.pol (X.clock+n)).2,X.clock+n⟩=0∧R n zs rs∧rs.length=X.harts.length∧Below w.heap.size w w':=by
 obtain⟨s,hS⟩:∃s,w.heap.size=s:=⟨_,rfl⟩
 have HSs:=hid hS
 generalize hW:(w.alloc (.cells #[.slice a0 n0 c0,.slice a1 n1 c1,.slice a2 n2 c2,.slice a3 n3 c3,.slice am lm cm,.slice ah lh ch,.int .i64 X.slot,.int .i64 X.left,.int .i64 X.clock] 35)).alloc (.cells #[.int .i64 0,.slice none 0 0,.slice none 0 0,.slice none 0 0,.slice none 0 0,.slice none 0 0,.slice none 0 0,.int .i64 0,.int .i64 0,.int .i64 0] 37)=W
 have B0:Hid (Below w.heap.size w W):=by show Below _ _ _;rw[←hW];exact al (al (Below.refl _ _) _) _
 have VX:Hid (Vb W s #[.slice a0 n0 c0,.slice a1 n1 c1,.slice a2 n2 c2,.slice a3 n3 c3,.slice am lm cm,.slice ah lh ch,.int .i64 X.slot,.int .i64 X.left,.int .i64 X.clock] 35):=by show Vb _ _ _ _;rw[←hW,←hS];exact(Vb.new _ _ _).keep (al (Below.refl _ _) _)
 have VR:Hid (Vb W (s+1) #[.int .i64 0,.slice none 0 0,.slice none 0 0,.slice none 0 0,.slice none 0 0,.slice none 0 0,.slice none 0 0,.int .i64 0,.int .i64 0,.int .i64 0] 37):=by
  show Vb _ _ _ _
  rw[←hW,←hS]
  have e:(w.alloc (.cells #[.slice a0 n0 c0,.slice a1 n1 c1,.slice a2 n2 c2,.slice a3 n3 c3,.slice am lm cm,.slice ah lh ch,.int .i64 X.slot,.int .i64 X.left,.int .i64 X.clock] 35)).heap.size=w.heap.size+1:=by simp
  rw[←e]
  exact Vb.new _ _ _
 have D:=hid (d.keep B0.out)
 have HG:Hid (W.cell? ⟨0,0,none⟩=some (.iface 240 (.agg #[.pointer (some ⟨2,134,none⟩)]))):=cell_keep B0.out hg
 have HT:=hid (tab.keep B0.out)
 have HV:=hid hv
 have SM:=hid sm
 have HN:Hid (n≤500∧X.clock+n≤1000000):=⟨hn,hc⟩
 have RR:Hid (_∧_):=⟨R0,hR⟩
 have hn2:(n:Int)≤500:=by omega
 clear d hg hv hn tab sm R0 hR hc
 refine(callsIn_wide (n:=9)).1 ?_
 refine callsIn_of_wp_marks Tryz.func7 rfl trivial ?_ rfl
 simp only[Tryz.ntmps7,List.size_toArray,List.length_cons,List.length_nil,Nat.reduceAdd,Nat.reduceSub,Array.replicate_succ,Array.replicate_zero,List.push_toArray,List.append_toArray,List.nil_append,List.cons_append]
 refine wpIn_wide.2 ?_
 go_upto_region 1 with fail
 try rw[hW]
 try rw[hS]
 clear hW hS
 obtain⟨y0,y1,y2,y3,y4,y5,y6,y7,y8⟩:=zc9 VX.out
 go_wp2_with fail
 clear y0 y1 y2 y3 y4 y5 y6 y7 y8
 refine(i_hostFault _ _ _ _ _ _ _ _ _ _ _ _ _ _ X _ _ D.out HG.out).mono ?_
 rintro e w1⟨rfl,b1⟩
 rw[HV.out]
 have D1:=hid (D.out.keep b1)
 have T1:=hid (HT.out.keep b1)
 have B1:=hid b1
 have V1:=VX.out.keep B1.out
 clear b1
 obtain⟨y0,y1,y2,y3,y4,y5,y6,y7,y8⟩:=zc9 V1
 clear V1
 go_wp2_with fail
 clear y0 y1 y2 y3 y4 y5 y6 y7 y8
 refine(i_runningOf _ _ _ _ _ _ _ _ _ _ _ _ _ _ _ _ _ _ X _ _ D1.out (hoz_of HV.out)).mono ?_
 rintro e w2⟨⟨q,g,v,rs,rfl,hq,hp,hr,bq⟩,hb2⟩
 have LH:Hid (lh=X.harts.length∧1≤lh∧lh≤3):=by
  have z:=hoz_of HV.out
  obtain⟨_,_,e,_⟩:=D1.out.harts.shape
  simp at e
  have:=z.hl;have:=z.own;have:=z.own1
  show _∧_
  omega
 obtain⟨b2,vc,ev⟩:∃b2 vc,v=.slice (some ⟨b2,0,none⟩) lh vc:=by
  have:=LH.out
  obtain⟨_,⟨e,k⟩|⟨g',cap,cur,e,_⟩⟩:=hr.row
  ·have:=hr.len;omega
  ·exact⟨g',cap,by rw[e,hr.len]⟩
 subst ev
 have TW:Hid (Tab w2∧1<w1.heap.size):=⟨T1.out.keep hb2,block_of_cell T1.out.c0⟩
 have E2:=hid hb2
 have tt:=ho_turn HV.out
 have RUN:Hid (Hh w2 w1.heap.size q b2 g a0 n0 c0 a1 n1 c1 a2 n2 c2 a3 n3 c3 lh vc (tS X.pol X.clock) X.clock X.mem rs):=⟨by rw[tt.1,tt.2];exact hq,bq,hxu_of (hoz_of HV.out) hp hr LH.out.1 TW.out.1 TW.out.2⟩
 have RST:Hid (R 0 X.mem rs):=RR.out.1 rs (by
  apply List.ext_getElem (by rw[List.length_map,hr.len];exact LH.out.1)
  intro i k1 k2
  rw[List.length_map]at k1
  have e:=(hr.one i rs[i] (List.getElem?_eq_getElem k1)).1
  rw[List.getElem_map,e,List.getD,List.getElem?_eq_getElem k2]
  rfl) (fun k hk=>by
  obtain⟨_,e2,_⟩:=hr.one k (rs.getD k gsz) (by rw[List.getD,List.getElem?_eq_getElem hk];rfl)
  exact e2)
 clear hq hp hr bq hb2 tt T1
 go_wp2_with (go_at_call 21;go_in)
 obtain⟨bx,hbx⟩:∃k,w2.heap.size=k:=⟨_,rfl⟩
 generalize hW3:(w2.alloc (.cells #[.pointer (some ⟨q,0,none⟩)] 70)).alloc (.cells #[.int .i64 (n:Int)] 2)=w3
 have A3:Below w2.heap.size w2 w3:=by rw[←hW3];exact al (al (Below.refl _ _) _) _
 have J0:Hid (Jh w1 q b2 g a0 n0 c0 a1 n1 c1 a2 n2 c2 a3 n3 c3 lh vc X.pol X.clock bx (s+1) R 0 w3∧w3.cell? ⟨bx+1,0,none⟩=some (.int .i64 (n:Int))):=by
  refine⟨⟨⟨X.mem,rs,by simpa using RUN.out.keep A3,RST.out⟩,on E2.out A3,?_,((VR.out.keep B1.out).keep E2.out).keep A3⟩,?_⟩
  ·rw[←hW3,←hbx];exact(Vb.new _ _ _).keep (al (Below.refl _ _) _)
  ·rw[←hW3,←hbx]
   have e:(w2.alloc (.cells #[.pointer (some ⟨q,0,none⟩)] 70)).heap.size=w2.heap.size+1:=by simp
   rw[←e]
   exact(Vb.new _ _ _).cell 0 rfl
 have Z3:Hid (w1.heap.size≤bx∧w3.heap.size=bx+2):=⟨by rw[←hbx];exact E2.out.size,by rw[←hW3,←hbx];simp⟩
 clear A3 hW3
 try rw[hbx]
 clear hbx
 have JP:Hid (∀k W l o o',w3.heap.size≤l→W.heap[l]? =some o→o.isCells=false→Jh w1 q b2 g a0 n0 c0 a1 n1 c1 a2 n2 c2 a3 n3 c3 lh vc X.pol X.clock bx (s+1) R k W→Jh w1 q b2 g a0 n0 c0 a1 n1 c1 a2 n2 c2 a3 n3 c3 lh vc X.pol X.clock bx (s+1) R k (W.putObj l o')):=fun k W l o o' hl ho hc j=>by
  have M:Mq (fun k=>k=l) W (W.putObj l o'):=Mq.of (grownBy_putObj' W l o') fun k e=>Option.some.inj e
  have nc:∀k cs t,W.heap[k]? =some (.cells cs t (0,0))→¬k=l:=fun k cs t e f=>by subst f;rw[ho]at e;cases e;cases hc
  have vb:∀{k cs t},Vb W k cs t→Vb (W.putObj l o') k cs t:=fun{k cs t} v=>(M.block k v.lt (nc k cs t v)).trans v
  obtain⟨zs,rs,h,r⟩:=j.h
  have z:=Z3.out
  exact⟨⟨zs,rs,⟨vb h.run,h.bq,h.hx.mqn M (fun k cs t _ e=>nc k cs t e) fun k hk f=>by omega⟩,r⟩,j.bl.trans (M.low (fun k e=>by omega) h.hx.size),vb j.box,vb j.res⟩
 refine(wpIn_wide (n:=9)).1 ?_
 refine wpIn_rangeRun (P:=Tryz.prog) 7 (by decide) (gf:=48) (lb:=#[.pointer (some ⟨bx+1,0,none⟩),.pointer (some ⟨bx,0,none⟩)]) rfl (Go.Proofs.enters_of Tryz.func48 (by kernel_rfl) rfl) (.int .i64 0) (fun k W=>Jh w1 q b2 g a0 n0 c0 a1 n1 c1 a2 n2 c2 a3 n3 c3 lh vc X.pol X.clock bx (s+1) R k W∧(k=0→W.cell? ⟨bx+1,0,none⟩=some (.int .i64 (n:Int)))) (fun W=>Jh w1 q b2 g a0 n0 c0 a1 n1 c1 a2 n2 c2 a3 n3 c3 lh vc X.pol X.clock bx (s+1) R n W) ?ja ?jp (fun W l o o' hl ho hc j=>JP.out n W l o o' hl ho hc j) ?seq ⟨J0.out.1,fun _=>J0.out.2⟩ _ rfl ?assign ?body ?done
 case ja=>
  rintro o W ho _⟨j,j0⟩
  have B:Below W.heap.size W (W.alloc o):=al (Below.refl _ _) _
  obtain⟨zs,rs,h,r⟩:=j.h
  exact⟨⟨⟨zs,rs,h.keep B,r⟩,on j.bl B,j.box.keep B,j.res.keep B⟩,fun _=>cell_keep B (j0 rfl)⟩
 case jp=>
  rintro k W l o o' hl ho hc⟨j,j0⟩
  refine⟨JP.out k W l o o' hl ho hc j,fun e=>?_⟩
  have c:=j0 e
  have lt:=block_of_cell c
  have M:Mq (fun k=>k=l) W (W.putObj l o'):=Mq.of (grownBy_putObj' W l o') fun k e=>Option.some.inj e
  have:=Z3.out
  unfold World.cell? at c ⊢
  rw[M.block _ lt (by show ¬bx+1=l;omega)]
  exact c
 case seq=>
  intro l Y W hYk hY hj hy
  have z:=hoz_of HV.out
  exact i_stepsIn (m:=8) (by decide) D1.out.pol z.pf (by rw[←z.hl];exact LH.out.1) (ho_ok HV.out).2.1 HN.out.2 RR.out.2 l Y W hYk (fun k W1 h1 hj hy=>YieldAt.mono (hY k W1 ⟨hj,fun e=>by omega⟩ hy) fun e W' h=>⟨h.1,h.2.1.1,h.2.2⟩) (hj.2 rfl) hj.1 hy
 case assign=>
  intro l W K hK
  simp at hK
  gi_wp2
  exact hK
 case body=>
  intro l W
  gi_wp2
 case done=>
  rintro Dd W hDd j hK
  have JN:=hid j
  have HD:=hid hK
  clear j
  clear hK
  go_wp2_with fail
  obtain⟨zs,rs,h,r⟩:=JN.out.h
  have LN:Hid (rs.length=lh):=h.hx.len
  refine(i_hostOf q g (tS X.pol (X.clock+n)).1 (tS X.pol (X.clock+n)).2 (X.clock+n) a0 a1 a2 a3 n0 c0 n1 c1 n2 c2 n3 c3 X.pol (some ⟨b2,0,none⟩) lh vc zs rs w1.heap.size _ (D1.out.pol.stay JN.out.bl) SM.out h.run h.hx.pgs (by rw[LN.out];exact h.hx.row) (by have:=LH.out;have:=LN.out;omega) (fun k hk=>by
   have G:=h.hx.one k (by rw[←LN.out];exact hk)
   obtain⟨bo,o1,o2,o3,o4⟩:=G.ho
   exact⟨G.hi,o3.rv,G.sn.hok⟩)).mono ?_
  rintro e w4⟨v0,v1,v2,v3,v4,v5,rfl,ow,b4⟩
  have RES:=hid ((JN.out.res).keep b4)
  obtain⟨xa0,xa1,xa2,xa3,xa4,xa5,xc0,xc1,xc2,xc3,xc4,xc5,xn0,xn1,xn2,xn3,xn4,xn5,e0,e1,e2,e3,e4,e5⟩:=owe_shapesG ow
  subst e0 e1 e2 e3 e4 e5
  have HD4:Hid (w4.heap[Dd]? =some (.deferred (some []))):=(b4.block Dd (Array.getElem?_eq_some_iff.1 HD.out).1).trans HD.out
  have FIN:Hid (_∧_):=⟨h,r⟩
  have OW:Hid (OwE w4 W.heap.size _ _ _ _ _ _ _):=ow
  have E4:=hid b4
  clear h r ow b4
  have r0:=RES.out.cell 0 rfl
  have r1:=RES.out.cell 1 rfl
  have r2:=RES.out.cell 2 rfl
  have r3:=RES.out.cell 3 rfl
  have r4:=RES.out.cell 4 rfl
  have r5:=RES.out.cell 5 rfl
  have r6:=RES.out.cell 6 rfl
  have r7:=RES.out.cell 7 rfl
  have r8:=RES.out.cell 8 rfl
  have r9:=RES.out.cell 9 rfl
  have f0:=RES.out.free 0
  have f1:=RES.out.free 1
  have f2:=RES.out.free 2
  have f3:=RES.out.free 3
  have f4:=RES.out.free 4
  have f5:=RES.out.free 5
  have f6:=RES.out.free 6
  have f7:=RES.out.free 7
  have f8:=RES.out.free 8
  have f9:=RES.out.free 9
  go_wp2_with fail
  clear r0 r1 r2 r3 r4 r5 r6 r7 r8 r9 f0 f1 f2 f3 f4 f5 f6 f7 f8 f9
  have V9:Hid (Vb ((((((((((w4.setCell ⟨s+1,0,none⟩ (.int .i64 0)).setCell ⟨s+1,1,none⟩ (.slice xa0 xn0 xc0)).setCell ⟨s+1,2,none⟩ (.slice xa1 xn1 xc1)).setCell ⟨s+1,3,none⟩ (.slice xa2 xn2 xc2)).setCell ⟨s+1,4,none⟩ (.slice xa3 xn3 xc3)).setCell ⟨s+1,5,none⟩ (.slice xa4 xn4 xc4)).setCell ⟨s+1,6,none⟩ (.slice xa5 xn5 xc5)).setCell ⟨s+1,7,none⟩ (.int .i64 (tS X.pol (X.clock+n)).1)).setCell ⟨s+1,8,none⟩ (.int .i64 (tS X.pol (X.clock+n)).2)).setCell ⟨s+1,9,none⟩ (.int .i64 (X.clock+n))) (s+1) #[.int .i64 0,.slice xa0 xn0 xc0,.slice xa1 xn1 xc1,.slice xa2 xn2 xc2,.slice xa3 xn3 xc3,.slice xa4 xn4 xc4,.slice xa5 xn5 xc5,.int .i64 (tS X.pol (X.clock+n)).1,.int .i64 (tS X.pol (X.clock+n)).2,.int .i64 (X.clock+n)] 37):=((((((((((RES.out.set 0 (.int .i64 0)).set 1 (.slice xa0 xn0 xc0)).set 2 (.slice xa1 xn1 xc1)).set 3 (.slice xa2 xn2 xc2)).set 4 (.slice xa3 xn3 xc3)).set 5 (.slice xa4 xn4 xc4)).set 6 (.slice xa5 xn5 xc5)).set 7 (.int .i64 (tS X.pol (X.clock+n)).1)).set 8 (.int .i64 (tS X.pol (X.clock+n)).2)).set 9 (.int .i64 (X.clock+n)))
  have M9:Hid (Mq (fun k=>k=s+1) w4 ((((((((((w4.setCell ⟨s+1,0,none⟩ (.int .i64 0)).setCell ⟨s+1,1,none⟩ (.slice xa0 xn0 xc0)).setCell ⟨s+1,2,none⟩ (.slice xa1 xn1 xc1)).setCell ⟨s+1,3,none⟩ (.slice xa2 xn2 xc2)).setCell ⟨s+1,4,none⟩ (.slice xa3 xn3 xc3)).setCell ⟨s+1,5,none⟩ (.slice xa4 xn4 xc4)).setCell ⟨s+1,6,none⟩ (.slice xa5 xn5 xc5)).setCell ⟨s+1,7,none⟩ (.int .i64 (tS X.pol (X.clock+n)).1)).setCell ⟨s+1,8,none⟩ (.int .i64 (tS X.pol (X.clock+n)).2)).setCell ⟨s+1,9,none⟩ (.int .i64 (X.clock+n)))):=(((((((((((Mq.refl (fun k=>k=s+1) w4).set ⟨s+1,0,none⟩ (.int .i64 0) rfl).set ⟨s+1,1,none⟩ (.slice xa0 xn0 xc0) rfl).set ⟨s+1,2,none⟩ (.slice xa1 xn1 xc1) rfl).set ⟨s+1,3,none⟩ (.slice xa2 xn2 xc2) rfl).set ⟨s+1,4,none⟩ (.slice xa3 xn3 xc3) rfl).set ⟨s+1,5,none⟩ (.slice xa4 xn4 xc4) rfl).set ⟨s+1,6,none⟩ (.slice xa5 xn5 xc5) rfl).set ⟨s+1,7,none⟩ (.int .i64 (tS X.pol (X.clock+n)).1) rfl).set ⟨s+1,8,none⟩ (.int .i64 (tS X.pol (X.clock+n)).2) rfl).set ⟨s+1,9,none⟩ (.int .i64 (X.clock+n)) rfl)
  generalize (((((((((w4.setCell ⟨s+1,0,none⟩ (.int .i64 0)).setCell ⟨s+1,1,none⟩ (.slice xa0 xn0 xc0)).setCell ⟨s+1,2,none⟩ (.slice xa1 xn1 xc1)).setCell ⟨s+1,3,none⟩ (.slice xa2 xn2 xc2)).setCell ⟨s+1,4,none⟩ (.slice xa3 xn3 xc3)).setCell ⟨s+1,5,none⟩ (.slice xa4 xn4 xc4)).setCell ⟨s+1,6,none⟩ (.slice xa5 xn5 xc5)).setCell ⟨s+1,7,none⟩ (.int .i64 (tS X.pol (X.clock+n)).1)).setCell ⟨s+1,8,none⟩ (.int .i64 (tS X.pol (X.clock+n)).2)).setCell ⟨s+1,9,none⟩ (.int .i64 (X.clock+n))=w9 at*
  have ns:¬Dd=s+1:=fun e=>by
   have h1:=HD4.out
   rw[e]at h1
   have h2:w4.heap[s+1]? =_:=RES.out
   rw[h1]at h2
   cases h2
  have HD9:w9.heap[Dd]? =some (.deferred (some [])):=(M9.out.block Dd (Array.getElem?_eq_some_iff.1 HD4.out).1 ns).trans HD4.out
  have MX:Mq (fun k=>k=Dd) w9 (w9.putObj Dd (.deferred none)):=Mq.of (grownBy_putObj' w9 Dd _) fun k e=>Option.some.inj e
  have VX:Vb (w9.putObj Dd (.deferred none)) (s+1) #[.int .i64 0,.slice xa0 xn0 xc0,.slice xa1 xn1 xc1,.slice xa2 xn2 xc2,.slice xa3 xn3 xc3,.slice xa4 xn4 xc4,.slice xa5 xn5 xc5,.int .i64 (tS X.pol (X.clock+n)).1,.int .i64 (tS X.pol (X.clock+n)).2,.int .i64 (X.clock+n)] 37:=(MX.block _ V9.out.lt fun e=>ns e.symm).trans V9.out
  have sW:s+1<W.heap.size:=JN.out.res.lt
  have dW:Dd<W.heap.size:=(Array.getElem?_eq_some_iff.1 HD.out).1
  have hH:Ho W.heap.size w4 (w9.putObj Dd (.deferred none)):=(M9.out.ho fun k e=>by omega).trans (MX.ho fun k e=>by omega)
  have sz:w.heap.size=s:=HSs.out
  have b4:Below w.heap.size w w4:=on (on (on B0.out B1.out) JN.out.bl) E4.out
  have bX:Below w.heap.size w (w9.putObj Dd (.deferred none)):=Mq.under (Mq.under b4 M9.out fun k e=>by omega) MX fun k e=>by
   have z:=Z3.out
   have y:=(on B0.out B1.out).size
   omega
  have eX:OwE (w9.putObj Dd (.deferred none)) w.heap.size (.slice xa0 xn0 xc0) (.slice xa1 xn1 xc1) (.slice xa2 xn2 xc2) (.slice xa3 xn3 xc3) (.slice xa4 xn4 xc4) (.slice xa5 xn5 xc5) ⟨X.pol,zs,rs.map Gs.H,(tS X.pol (X.clock+n)).1,(tS X.pol (X.clock+n)).2,X.clock+n⟩:=by
   obtain⟨xs,qs,h⟩:=OW.out
   exact⟨xs,qs,(h.ho hH).mono (by have:=(on (on B0.out B1.out) JN.out.bl).size;omega)⟩
  have z:=hoz_of HV.out
  have ck:=(ho_ok HV.out).2
  have HX:=FIN.out.1.hx
  have S0:=(HX.one 0 (by have:=LH.out;omega)).sn
  have hz:hoV ⟨X.pol,zs,rs.map Gs.H,(tS X.pol (X.clock+n)).1,(tS X.pol (X.clock+n)).2,X.clock+n⟩=0:=
   ho_make z.pf S0.zl S0.zw (by show(rs.map Gs.H).length=_;rw[List.length_map,LN.out,←z.hl];exact LH.out.1) (fun H hH=>by
    obtain⟨r,hr,rfl⟩:=List.mem_map.1 hH
    obtain⟨i,hi,e⟩:=List.mem_iff_getElem.1 hr
    have G:=HX.one i (by rw[←LN.out];exact hi)
    rw[List.getD,List.getElem?_eq_getElem hi]at G
    rw[←e]
    exact G.sn.hok) (by show 0≤X.clock+(n:Int);have:=ck.1;omega) (by have:=HN.out.2;exact this) rfl
  refine⟨by simp,.inl ⟨_,_,rfl,run_takeDeferred HD9,?_⟩⟩
  have z0:=VX.cell 0 rfl
  have z1:=VX.cell 1 rfl
  have z2:=VX.cell 2 rfl
  have z3:=VX.cell 3 rfl
  have z4:=VX.cell 4 rfl
  have z5:=VX.cell 5 rfl
  have z6:=VX.cell 6 rfl
  have z7:=VX.cell 7 rfl
  have z8:=VX.cell 8 rfl
  have z9:=VX.cell 9 rfl
  refine⟨.agg #[.int .i64 0,.slice xa0 xn0 xc0,.slice xa1 xn1 xc1,.slice xa2 xn2 xc2,.slice xa3 xn3 xc3,.slice xa4 xn4 xc4,.slice xa5 xn5 xc5,.int .i64 (tS X.pol (X.clock+n)).1,.int .i64 (tS X.pol (X.clock+n)).2,.int .i64 (X.clock+n)],by simp[results,Tryz.results7,go_sem,z0,z1,z2,z3,z4,z5,z6,z7,z8,z9],_,_,_,_,_,_,zs,rs,rfl,eX,hz,FIN.out.2,LN.out.trans LH.out.1,bX⟩
end Go.Proofs.YtignbeibcakgpaaGreatDoor
