import Derived.Test.YtignbeibcakgpaaGreatDoorQ36
import Derived.Test.YtignbeibcakgpaaGreatDoorQ45
namespace Go.Proofs.YtignbeibcakgpaaGreatDoor
set_option maxRecDepth 20000
set_option maxHeartbeats 16000000
open Go.RowKit
set_option linter.unusedVariables false
theorem owe_shapesG{w:World}{base:Nat}{v0 v1 v2 v3 v4 v5:Value}{X:Hst}(h:OwE w base v0 v1 v2 v3 v4 v5 X):∃a0 a1 a2 a3 a4 a5 c0 c1 c2 c3 c4 c5 n0 n1 n2 n3 n4 n5,v0=.slice a0 n0 c0∧v1=.slice a1 n1 c1∧v2=.slice a2 n2 c2∧v3=.slice a3 n3 c3∧v4=.slice a4 n4 c4∧v5=.slice a5 n5 c5:=by
 obtain⟨xs,qs,h⟩:=h
 obtain⟨a0,c0,e0⟩:=row_shape h.own
 obtain⟨a1,c1,e1⟩:=row_shape h.lanes
 obtain⟨a2,c2,e2⟩:=row_shape h.bells
 obtain⟨a3,c3,e3⟩:=row_shape h.plan
 obtain⟨a4,c4,e4,_⟩:=h.mem.shape
 obtain⟨a5,c5,e5⟩:=row_shape h.harts
 exact⟨a0,a1,a2,a3,a4,a5,c0,c1,c2,c3,c4,c5,_,_,_,_,_,_,e0,e1,e2,e3,e4,e5⟩
theorem i_hostOf(q g:Nat)(sl le cl:Int)(a0 a1 a2 a3:Option Addr)(n0 c0 n1 c1 n2 c2 n3 c3:Nat)(P:Plc)(va:Option Addr)(lh vc:Nat)(zs:List Int)(rs:List Gs)(base:Nat)(w:World)(h:Pl w a0 n0 c0 a1 n1 c1 a2 n2 c2 a3 n3 c3 P)(sm:Small n0 n1 n2 n3 P)(hv:Vb w q #[.int .i64 sl,.int .i64 le,.int .i64 cl,.slice a0 n0 c0,.slice a1 n1 c1,.slice a2 n2 c2,.slice a3 n3 c3,.slice (some ⟨g,0,none⟩) 24 24,.slice va lh vc] 126)(hz:Pags w base (.slice (some ⟨g,0,none⟩) 24 24) 24 zs)(hr:w.ownsRow base 129 38 (.slice va lh vc) rs.length (flatR (.slice (some ⟨g,0,none⟩) 24 24) rs))(h3:rs.length≤3)(hg:∀k,k<rs.length→Rv w (rs.getD k gsz).q.i (rs.getD k gsz).H.inn∧Rv w (rs.getD k gsz).q.o (rs.getD k gsz).H.out∧Hok (rs.getD k gsz).H):
  Calls Tryz.prog 22 #[.pointer (some ⟨q,0,none⟩)] w fun e w'=>∃v0 v1 v2 v3 v4 v5,e=.returned (.agg #[v0,v1,v2,v3,v4,v5,.int .i64 sl,.int .i64 le,.int .i64 cl])∧OwE w' w.heap.size v0 v1 v2 v3 v4 v5 ⟨P,zs,rs.map Gs.H,sl,le,cl⟩∧Below w.heap.size w w':=by
 generalize hW:w.alloc (.cells #[.slice none 0 0,.slice none 0 0,.slice none 0 0,.slice none 0 0,.slice none 0 0,.slice none 0 0,.int .i64 0,.int .i64 0,.int .i64 0] 35)=W
 have B0:Hid (Below w.heap.size w W):=by show Below _ _ _;rw[←hW];exact al (Below.refl _ _) _
 obtain⟨s,hS⟩:∃s,w.heap.size=s:=⟨_,rfl⟩
 have HSs:=hid hS
 have R:Hid (Vb W s #[.slice none 0 0,.slice none 0 0,.slice none 0 0,.slice none 0 0,.slice none 0 0,.slice none 0 0,.int .i64 0,.int .i64 0,.int .i64 0] 35):=by show Vb _ _ _ _;rw[←hW,←hS];exact Vb.new _ _ _
 have ZW:Hid (s+1=W.heap.size):=by show _=_;rw[←hW,←hS];simp
 have QS:Hid (q<s):=by show _<_;rw[←hS];exact hv.lt
 have Q:=hid (hv.keep B0.out)
 have D:=hid (h.stay B0.out)
 have SMP:=hid sm
 have PZ:Hid (Pags W base (.slice (some ⟨g,0,none⟩) 24 24) 24 zs):=row_keepX hz B0.out
 have RL:Hid (lh=rs.length):=by obtain⟨_,⟨e,_⟩|⟨_,_,_,e,_⟩⟩:=hr<;>simp at e<;>(show _=_)<;>omega
 have HR:Hid (W.ownsRow base 129 38 (.slice va lh vc) lh (flatR (.slice (some ⟨g,0,none⟩) 24 24) rs)):=by have e:lh=rs.length:=RL.out;rw[←e]at hr;exact row_keepX hr B0.out
 have L3:=hid h3
 have HGd:Hid (∀k,k<rs.length→Rv W (rs.getD k gsz).q.i (rs.getD k gsz).H.inn∧Rv W (rs.getD k gsz).q.o (rs.getD k gsz).H.out∧Hok (rs.getD k gsz).H):=fun k hk=>⟨(hg k hk).1.stay B0.out,(hg k hk).2.1.stay B0.out,(hg k hk).2.2⟩
 have lh3:(lh:Int)≤3:=by have:=RL.out;omega
 clear h sm hv hz hr h3 hg
 have q8:=Q.out.cell 8 rfl
 go_enter Tryz.func22,Tryz.ntmps22
 go_wp2_with fail
 clear hW hS q8
 go_loopw [3,4,10] (fun v _ c wr=>∃(j:Nat) (qs:List (V4×Ht)),j≤lh∧c=.int .i64 (j:Int)∧Mc wr W.heap.size v (rs.map Gs.H) j qs∧Below W.heap.size W wr) (fun _ _ c _=>lh-(intOf c).toNat)
 case atStart=>exact⟨0,[],Nat.zero_le _,rfl,⟨rfl,World.ownsRow_nil _ _ _ _,fun i q e=>by simp at e,by simp⟩,Below.refl _ _⟩
 case round=>
  obtain⟨j,qs,hj,rfl,hM,hB⟩:=hrel
  obtain⟨ha,hc,hv⟩:=row_shape hM.row
  rw[hM.len]at hv
  subst hv
  have HM:=hid hM
  have HB:=hid hB
  clear hM
  by_cases hlt:j<lh
  ·have hI:(j:Int)<(lh:Int):=by omega
   have HLT:=hid hlt
   obtain⟨gr,hgr⟩:∃b,va=some ⟨b,0,none⟩:=by
    obtain⟨_,⟨_,e⟩|⟨b,_,_,e,_⟩⟩:=HR.out
    ·omega
    ·simp at e;exact⟨b,e.1⟩
   subst hgr
   have jr:j<rs.length:=by have:=RL.out;omega
   have VD:=hid ((gw_vd HR.out RL.out j jr).keep hB)
   have RD:Hid (Rv wr (rs.getD j gsz).q.i (rs.getD j gsz).H.inn∧Rv wr (rs.getD j gsz).q.o (rs.getD j gsz).H.out∧Hok (rs.getD j gsz).H):=⟨(HGd.out j jr).1.stay hB,(HGd.out j jr).2.1.stay hB,(HGd.out j jr).2.2⟩
   have HHE:Hid ((rs.getD j gsz).H=(rs.map Gs.H).getD j voidH):=by
    show _=_
    rw[List.getD,List.getD,List.getElem?_map,List.getElem?_eq_getElem jr];rfl
   obtain⟨H,hH⟩:∃H,(rs.getD j gsz).H=H:=⟨_,rfl⟩
   rw[hH]at VD RD HHE
   have q8:wr.cell? ⟨q,8,none⟩=some (.slice (some ⟨gr,0,none⟩) lh vc):=(Q.out.keep hB).cell 8 rfl
   clear hlt hB hj jr hH
   go_wp2_with fail
   clear q8
   refine(i_hartD gr (j*38) _ _ H _ VD.out RD.out.1 RD.out.2.1 RD.out.2.2.r16 RD.out.2.2.c11 (by have:=RD.out.2.2.i40;omega) (by have:=RD.out.2.2.o40;omega)).mono ?_
   rintro e w3⟨rv,cv,iv,ov,rfl,hm,ha3,b3⟩
   obtain⟨da,dk,e0,_⟩:=hm.r.shape
   obtain⟨db,dl,e1,_⟩:=hm.c.shape
   obtain⟨dc,dm,e2,_⟩:=hm.i.shape
   obtain⟨dd,dn,e3,_⟩:=hm.o.shape
   subst e0 e1 e2 e3
   obtain⟨d0,hd0⟩:∃n,H.regs.length=n:=⟨_,rfl⟩
   obtain⟨d1,hd1⟩:∃n,H.csr.length=n:=⟨_,rfl⟩
   obtain⟨d2,hd2⟩:∃n,H.inn.length=n:=⟨_,rfl⟩
   obtain⟨d3,hd3⟩:∃n,H.out.length=n:=⟨_,rfl⟩
   rw[hd0,hd1,hd2,hd3]at hm ha3 ⊢
   have HM3:Hid (Hm w3 wr.heap.size (.slice da d0 dk) (.slice db d1 dl) (.slice dc d2 dm) (.slice dd d3 dn) H∧Ha (.slice da d0 dk) (.slice db d1 dl) (.slice dc d2 dm) (.slice dd d3 dn)):=⟨hm,ha3⟩
   have E3:=hid b3
   have WL:Hid (W.heap.size≤w3.heap.size∧W.heap.size≤wr.heap.size):=⟨(on HB.out b3).size,HB.out.size⟩
   clear hm ha3 b3 hd0 hd1 hd2 hd3
   go_wp2_with (at_builtin;refine wp_hartsX _ rfl _ _ rfl W.heap.size (.slice ha j hc) qs rfl ((row_keepX HM.out.row E3.out).alloc _) w3.heap.size (⟨.slice da d0 dk,.slice db d1 dl,.slice dc d2 dm,.slice dd d3 dn⟩:V4) H rfl (range_new _ _ _) (by intro u hu;simp only[V4.l,List.mem_cons,List.not_mem_nil,or_false]at hu;rcases hu with rfl|rfl|rfl|rfl<;>rfl) (by have:=HM.out.len;have:=HLT.out;have:=RL.out;have:=L3.out;omega) (by have:=WL.out.1;simp;omega) ?_;intro v' w' hN' hG')
   have MN:Hid (Mc w' W.heap.size v' (rs.map Gs.H) (j+1) (qs++ [((⟨.slice da d0 dk,.slice db d1 dl,.slice dc d2 dm,.slice dd d3 dn⟩:V4),H)])):=HM.out.step (on E3.out (al (Below.refl _ _) _)) (HM3.out.1.keep (al (Below.refl _ _) _)) HM3.out.2 WL.out.2 HHE.out hN' hG'
   have B':Hid (Below W.heap.size W w'):=(al (on HB.out E3.out) _:Below W.heap.size W (w3.alloc (.cells #[.slice da d0 dk,.int .i64 H.pc,.slice db d1 dl,.bool H.halted,.bool H.waiting,.bool H.rung,.int .i64 H.done,.slice dc d2 dm,.slice dd d3 dn] 47))).grown hG' (by have:=WL.out.1;simp;omega) (fun k e=>(HM.out.row.lt k e).1)
   clear hN' hG'
   go_wp2_with fail
   go_roundw
   case rel=>exact⟨j+1,qs++ [((⟨.slice da d0 dk,.slice db d1 dl,.slice dc d2 dm,.slice dd d3 dn⟩:V4),H)],by have:=HLT.out;omega,by go_num,MN.out,B'.out⟩
   case measure=>have:=HLT.out;simp[intOf];omega
  ·have hJ:¬(j:Int)<(lh:Int):=by omega
   have JN:j=lh:=by omega
   subst JN
   clear hlt hB hj
   have QL:Hid (∀w',SvN 9 wr s w'→Vb w' q #[.int .i64 sl,.int .i64 le,.int .i64 cl,.slice a0 n0 c0,.slice a1 n1 c1,.slice a2 n2 c2,.slice a3 n3 c3,.slice (some ⟨g,0,none⟩) 24 24,.slice va j vc] 126):=fun w' hs=>hs.1.vb (Q.out.keep HB.out) (by have:=QS.out;omega)
   have BS:Hid (∀w',SvN 9 wr s w'→Below w.heap.size w w'):=fun w' hs=>Mq.under (on B0.out HB.out) hs.1 fun k e=>by have:=HSs.out;omega
   have LT:=hid ((R.out.keep HB.out).lt)
   have Sv0:Hid (SvN 9 wr s wr.drew):=SvN.step ⟨Mq.refl _ _,(R.out.keep HB.out).there 9 (by decide)⟩ LT.out (Below.refl _ _).drew
   have E0:Hid (Below wr.heap.size wr wr.drew):=(Below.refl _ _).drew
   go_upto_region 7 with fail
   refine wp_region_held (S:=fun w'=>SvN 9 wr s w') (by kernel_rfl) ?_
   change wpAnyH _ _ _ _ _ _ _ _ (World.drew _)
   generalize wr.drew=u0 at*
   refine wpTd 0 25 ((.pointer (some ⟨q,0,none⟩))) rfl Sv0.out ?_
   simp only[Act.put,zT,zZ,zS]
   refine wpTd 1 26 ((.pointer (some ⟨q,0,none⟩))) rfl Sv0.out ?_
   simp only[Act.put,zT,zZ,zS]
   refine wpTd 2 27 ((.pointer (some ⟨q,3,none⟩))) rfl Sv0.out ?_
   simp only[Act.put,zT,zZ,zS]
   refine wpTe 3 28 ((.agg #[.slice a0 n0 c0,.slice a1 n1 c1,.slice a2 n2 c2,.slice a3 n3 c3])) rfl (Or.inl ⟨by rfl,fun w' hs=>by have qv:=QL.out w' hs;have y0:=qv.cell 3 rfl;have y1:=qv.cell 4 rfl;have y2:=qv.cell 5 rfl;have y3:=qv.cell 6 rfl;go_simp⟩) Sv0.out ?_
   simp only[Act.put,zT,zZ,zS]
   refine wpTd 4 29 ((.pointer (some ⟨q,0,none⟩))) rfl Sv0.out ?_
   simp only[Act.put,zT,zZ,zS]
   refine wpTd 5 30 ((.pointer (some ⟨q,0,none⟩))) rfl Sv0.out ?_
   simp only[Act.put,zT,zZ,zS]
   refine wpTd 6 31 ((.pointer (some ⟨q,7,none⟩))) rfl Sv0.out ?_
   simp only[Act.put,zT,zZ,zS]
   refine wpTe 7 32 ((.slice (some ⟨g,0,none⟩) 24 24)) rfl (Or.inl ⟨by rfl,fun w' hs=>by have y:=(QL.out w' hs).cell 7 rfl;go_simp⟩) Sv0.out ?_
   simp only[Act.put,zT,zZ,zS]
   refine wpTd 9 34 ((.slice ha j hc)) rfl Sv0.out ?_
   simp only[Act.put,zT,zZ,zS]
   refine wpTd 10 35 ((.pointer (some ⟨q,0,none⟩))) rfl Sv0.out ?_
   simp only[Act.put,zT,zZ,zS]
   refine wpTd 11 36 ((.pointer (some ⟨q,0,none⟩))) rfl Sv0.out ?_
   simp only[Act.put,zT,zZ,zS]
   refine wpTd 12 37 ((.pointer (some ⟨q,0,none⟩))) rfl Sv0.out ?_
   simp only[Act.put,zT,zZ,zS]
   refine wpTe 13 38 ((.agg #[.int .i64 sl,.int .i64 le,.int .i64 cl])) rfl (Or.inl ⟨by rfl,fun w' hs=>by have qv:=QL.out w' hs;have y0:=qv.cell 0 rfl;have y1:=qv.cell 1 rfl;have y2:=qv.cell 2 rfl;go_simp⟩) Sv0.out ?_
   simp only[Act.put,zT,zZ,zS]
   refine zR 8 rfl fun K hK=>?_
   rw[if_pos (by rfl)]
   go_simp
   refine(impl_join g 24 24 zs base _ (row_keepX PZ.out (on HB.out E0.out)) (by decide)).mono ?_
   rintro e u1⟨mv,rfl,nm,b1⟩
   obtain⟨la,lk,e0,_⟩:=nm.shape
   subst e0
   obtain⟨ll,hll⟩:∃n,zs.length=n:=⟨_,rfl⟩
   rw[hll]at nm ⊢
   have NM:=hid nm
   have E1:=hid (on E0.out b1)
   have U1:Hid (u0.heap.size≤u1.heap.size∧wr.heap.size≤u0.heap.size):=⟨b1.size,E0.out.size⟩
   have Sv1:Hid (SvN 9 wr s u1):=Sv0.out.step LT.out b1
   clear nm b1 hll
   refine hK.out _ _ Sv1.out (fun _=>?_)
   clear hK K
   refine zR 14 rfl fun K hK=>?_
   rw[if_pos (by rfl)]
   go_simp
   refine(i_hostAt _ _ _ _ _ _ _ _ _ _ _ _ P _ _ _ _ _ _ sl le cl _ ((D.out.stay HB.out).stay E1.out) SMP.out).mono ?_
   rintro e u2⟨_,_,_,_,rfl,wp,b2⟩
   obtain⟨b0,b1a,b2a,b3a,d0,d1,d2,d3,e0,e1,e2,e3⟩:=wp_shapes wp
   subst e0 e1 e2 e3
   obtain⟨m0,hm0⟩:∃n,P.own.length=n:=⟨_,rfl⟩
   obtain⟨m1,hm1⟩:∃n,P.lanes.length=n:=⟨_,rfl⟩
   obtain⟨m2,hm2⟩:∃n,P.bells.length=n:=⟨_,rfl⟩
   obtain⟨m3,hm3⟩:∃n,P.plan.length=n:=⟨_,rfl⟩
   rw[hm0,hm1,hm2,hm3]at wp ⊢
   have WP:=hid wp
   have E2:=hid (on E1.out b2)
   have NM2:=hid (NM.out.keep b2)
   have Sv2:Hid (SvN 9 wr s u2):=Sv1.out.step LT.out b2
   clear wp b2 hm0 hm1 hm2 hm3
   refine hK.out _ _ Sv2.out (fun _=>?_)
   clear hK K
   refine zR 15 rfl fun K hK=>?_
   rw[if_pos (by rfl)]
   refine wp_store_mid 35 (.tmp 2) (.tmp 39) rfl s 0 #[.slice b0 m0 d0,.slice b1a m1 d1,.slice b2a m2 d2,.slice b3a m3 d3,.slice la ll lk,.slice ha j hc,.int .i64 sl,.int .i64 le,.int .i64 cl] rfl rfl Sv2.out.2 (by kernel_rfl) (by simp[Value.oneCell']) ?_
   change K (Act.put _ none undef) _
   simp only[Act.put]
   have S6:Hid (SvN 9 wr s (u2.setCells s 0 #[.slice b0 m0 d0,.slice b1a m1 d1,.slice b2a m2 d2,.slice b3a m3 d3,.slice la ll lk,.slice ha j hc,.int .i64 sl,.int .i64 le,.int .i64 cl].toList)):=Sv2.out.set _
   have R6:Hid ((u2.setCells s 0 #[.slice b0 m0 d0,.slice b1a m1 d1,.slice b2a m2 d2,.slice b3a m3 d3,.slice la ll lk,.slice ha j hc,.int .i64 sl,.int .i64 le,.int .i64 cl].toList).rangeAt s 0 #[.slice b0 m0 d0,.slice b1a m1 d1,.slice b2a m2 d2,.slice b3a m3 d3,.slice la ll lk,.slice ha j hc,.int .i64 sl,.int .i64 le,.int .i64 cl].toList):=World.rangeAt_setCells_same _ _ _ _ Sv2.out.2
   have Q6:Hid (Mq (fun k=>k=s) u2 (u2.setCells s 0 #[.slice b0 m0 d0,.slice b1a m1 d1,.slice b2a m2 d2,.slice b3a m3 d3,.slice la ll lk,.slice ha j hc,.int .i64 sl,.int .i64 le,.int .i64 cl].toList)):=mq_cells s _ u2 0
   generalize u2.setCells s 0 #[.slice b0 m0 d0,.slice b1a m1 d1,.slice b2a m2 d2,.slice b3a m3 d3,.slice la ll lk,.slice ha j hc,.int .i64 sl,.int .i64 le,.int .i64 cl].toList=u6 at*
   refine hK.out _ _ S6.out (fun _=>?_)
   clear hK K
   refine wpAnyH_done (by kernel_rfl) ?_ _
   have O6:Ho (s+1) u2 u6:=Q6.out.ho fun k e=>by omega
   have F:Hid (OwE u6 w.heap.size (.slice b0 m0 d0) (.slice b1a m1 d1) (.slice b2a m2 d2) (.slice b3a m3 d3) (.slice la ll lk) (.slice ha j hc) ⟨P,zs,rs.map Gs.H,sl,le,cl⟩):=by
    have z1:=ZW.out
    have z2:=HB.out.size
    have z3:=U1.out
    obtain⟨xs,hx⟩:=WP.out
    exact ow_ofC (X:=⟨P,zs,rs.map Gs.H,sl,le,cl⟩) (t1:=u0.heap.size) (t2:=W.heap.size) (t3:=u1.heap.size) (j:=j) ⟨xs,hx.ho (ho_lessX O6 (by omega))⟩ (NM2.out.ho (ho_lessX O6 (by omega))) ((HM.out.keep E2.out).hoX (ho_lessX O6 (by omega))) (fun u hu k e=>by
     obtain⟨_,nu⟩:=HM.out.lists u hu
     have:=(nu.lt k e).2;omega) (fun k e=>(NM.out.lt k e).2) (by show(rs.map Gs.H).length=j;rw[List.length_map];exact RL.out.symm) (by have:=HSs.out;omega) (by have:=HSs.out;omega) (by have:=HSs.out;omega) U1.out.1
   have B6:Hid (Below w.heap.size w u6):=BS.out _ S6.out
   have LD:=run_loadVar_mid (P:=Tryz.prog) u6 s 0 35 #[.slice b0 m0 d0,.slice b1a m1 d1,.slice b2a m2 d2,.slice b3a m3 d3,.slice la ll lk,.slice ha j hc,.int .i64 sl,.int .i64 le,.int .i64 cl].toList _ R6.out Tryz.underlying35 rfl (by kernel_rfl)
   go_wp2_with fail
   exact bodyPost_ret (v:=.agg #[.slice b0 m0 d0,.slice b1a m1 d1,.slice b2a m2 d2,.slice b3a m3 d3,.slice la ll lk,.slice ha j hc,.int .i64 sl,.int .i64 le,.int .i64 cl]) (by simp[results,Tryz.results22,asAddr];rw[LD]) rfl ⟨_,_,_,_,_,_,rfl,F.out,B6.out⟩
theorem pageV_kinds(ow:List Int)(ls:List Ln)(g:Int)(k:Nat):0≤(pageV ow ls g k).2∧(pageV ow ls g k).2≤7:=by
 unfold pageV
 split
 ·exact⟨by simp,by simp⟩
 ·induction ls with
  |nil=>simp[firstM]
  |cons l t ih=>
   rw[firstM]
   unfold matchL
   split
   ·rename_i x e
    split at e
    ·cases e;simp
    ·split at e
     ·cases e;simp
     ·cases e
   ·exact ih
theorem pfor_sn{P:Plc}{g:Nat}{H:Ht}{ms:List Int}(hp:pfV P=0)(hg:g<P.own.length)(hk:Hok H)(hl:ms.length=192)(hw:ms.all isW=true):Sn H (pforL (P.own.getD g []) P.lanes (g:Int) 8) ms 24:=by
 have E:=pg_each hp hg
 have ht:=hk.st
 unfold standC at ht
 simp at ht
 refine⟨hk,pforL_len _ _ _ _,fun i hi=>?_,hl,by decide,by decide,hw,fun j hj=>?_,(all_at hk.cw 10).1,by unfold tabV;simp;omega⟩
 ·have K:=pageV_kinds (P.own.getD g []) P.lanes (g:Int) i
  rw[←pforL_at _ _ _ i hi]at K
  rcases E i hi with e|⟨h1,h2⟩
  ·rw[e];rfl
  ·exact pgC_ok ⟨by omega,by omega,K.1,K.2⟩ fun f=>by omega
 ·rcases E j hj with e|⟨h1,h2⟩
  ·rw[e];decide
  ·show _<24;omega
theorem harts_ok:∀hs:List Ht,(∀h ∈ hs,hfV h=0)→hartsV hs=0
 | [],_=>rfl
 |h::t,k=>by rw[hartsV,if_pos (k h (by simp))];exact harts_ok t fun x hx=>k x (by simp[hx])
theorem ho_make{X:Hst}(hp:pfV X.pol=0)(hl:X.mem.length=192)(hw:X.mem.all isW=true)(hh:X.harts.length=X.pol.own.length)(hk:∀h ∈ X.harts,Hok h)(c0:0≤X.clock)(c1:X.clock≤1000000)(ht:tS X.pol X.clock=(X.slot,X.left)):hoV X=0:=by
 have m:memV X.mem=0:=by
  unfold memV
  rw[if_pos (by rw[hl];decide),if_pos hw]
 have c:ckOk X.clock=true:=by unfold ckOk;simp;omega
 unfold hoV
 rw[if_pos hp,if_pos ⟨by unfold wholeB;simp[hl,m],hh⟩,if_pos (harts_ok _ fun h e=>hfV_ok (hk h e)),if_pos c,if_pos (by rw[ht];exact⟨rfl,rfl⟩)]
end Go.Proofs.YtignbeibcakgpaaGreatDoor
