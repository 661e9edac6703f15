import Derived.Defers
import Derived.Recover
import Derived.Laws.Pointers
import Derived.Test.YtignbeibcakgpaaGreatDoorQ27
import Derived.Test.YtignbeibcakgpaaGreatDoorQ32
namespace Go.Proofs.YtignbeibcakgpaaGreatDoor
set_option maxRecDepth 20000
set_option maxHeartbeats 16000000
open Go.RowKit
set_option linter.unusedVariables false
def mcp(H:Ht)(i o:Value)(ps:List (Int×Int)):Array Value:=#[.int .i64 (gt H.regs 0),.int .i64 (gt H.regs 1),.int .i64 (gt H.regs 2),.int .i64 (gt H.regs 3),.int .i64 (gt H.regs 4),.int .i64 (gt H.regs 5),.int .i64 (gt H.regs 6),.int .i64 (gt H.regs 7),.int .i64 (gt H.regs 8),.int .i64 (gt H.regs 9),.int .i64 (gt H.regs 10),.int .i64 (gt H.regs 11),.int .i64 (gt H.regs 12),.int .i64 (gt H.regs 13),.int .i64 (gt H.regs 14),.int .i64 (gt H.regs 15),.int .i64 H.pc,.int .i64 (gt H.csr 0),.int .i64 (gt H.csr 1),.int .i64 (gt H.csr 2),.int .i64 (gt H.csr 3),.int .i64 (gt H.csr 4),.int .i64 (gt H.csr 5),.int .i64 (gt H.csr 6),.int .i64 (gt H.csr 7),.int .i64 (gt H.csr 8),.int .i64 (gt H.csr 9),.int .i64 (gt H.csr 10),.bool H.halted,.bool H.waiting,.bool H.rung,.int .i64 H.done,i,o,.int .i64 (ps.getD 0 (0,0)).1,.int .i64 (ps.getD 0 (0,0)).2,.int .i64 (ps.getD 1 (0,0)).1,.int .i64 (ps.getD 1 (0,0)).2,.int .i64 (ps.getD 2 (0,0)).1,.int .i64 (ps.getD 2 (0,0)).2,.int .i64 (ps.getD 3 (0,0)).1,.int .i64 (ps.getD 3 (0,0)).2,.int .i64 (ps.getD 4 (0,0)).1,.int .i64 (ps.getD 4 (0,0)).2,.int .i64 (ps.getD 5 (0,0)).1,.int .i64 (ps.getD 5 (0,0)).2,.int .i64 (ps.getD 6 (0,0)).1,.int .i64 (ps.getD 6 (0,0)).2,.int .i64 (ps.getD 7 (0,0)).1,.int .i64 (ps.getD 7 (0,0)).2]
theorem i_pagedOver(r c i o:Value)(H:Ht)(pgb pc:Nat)(ps:List (Int×Int))(b:Nat)(w:World)(h:Hm w b r c i o H)(hk:Hok H)(hp:Prs 89 w b (.slice (some ⟨pgb,0,none⟩) 8 pc) ps)(h8:ps.length=8):
  Calls Tryz.prog 30 #[.agg #[r,.int .i64 H.pc,c,.bool H.halted,.bool H.waiting,.bool H.rung,.int .i64 H.done,i,o],.slice (some ⟨pgb,0,none⟩) 8 pc] w fun e w'=>∃i' o',e=.returned (.agg (mcp H i' o' ps))∧Nums w' w.heap.size i' H.inn∧Nums w' w.heap.size o' H.out∧Apt i' o'∧Below w.heap.size w w':=by
 have c0:=hp.cell h8.symm 0 (by decide)
 have c1:=hp.cell h8.symm 1 (by decide)
 have c2:=hp.cell h8.symm 2 (by decide)
 have c3:=hp.cell h8.symm 3 (by decide)
 have c4:=hp.cell h8.symm 4 (by decide)
 have c5:=hp.cell h8.symm 5 (by decide)
 have c6:=hp.cell h8.symm 6 (by decide)
 have c7:=hp.cell h8.symm 7 (by decide)
 obtain⟨t0,ht0⟩:∃z,(ps.getD 0 (0,0)).1=z:=⟨_,rfl⟩
 obtain⟨d0,hd0⟩:∃z,(ps.getD 0 (0,0)).2=z:=⟨_,rfl⟩
 rw[ht0,hd0]at c0
 obtain⟨t1,ht1⟩:∃z,(ps.getD 1 (0,0)).1=z:=⟨_,rfl⟩
 obtain⟨d1,hd1⟩:∃z,(ps.getD 1 (0,0)).2=z:=⟨_,rfl⟩
 rw[ht1,hd1]at c1
 obtain⟨t2,ht2⟩:∃z,(ps.getD 2 (0,0)).1=z:=⟨_,rfl⟩
 obtain⟨d2,hd2⟩:∃z,(ps.getD 2 (0,0)).2=z:=⟨_,rfl⟩
 rw[ht2,hd2]at c2
 obtain⟨t3,ht3⟩:∃z,(ps.getD 3 (0,0)).1=z:=⟨_,rfl⟩
 obtain⟨d3,hd3⟩:∃z,(ps.getD 3 (0,0)).2=z:=⟨_,rfl⟩
 rw[ht3,hd3]at c3
 obtain⟨t4,ht4⟩:∃z,(ps.getD 4 (0,0)).1=z:=⟨_,rfl⟩
 obtain⟨d4,hd4⟩:∃z,(ps.getD 4 (0,0)).2=z:=⟨_,rfl⟩
 rw[ht4,hd4]at c4
 obtain⟨t5,ht5⟩:∃z,(ps.getD 5 (0,0)).1=z:=⟨_,rfl⟩
 obtain⟨d5,hd5⟩:∃z,(ps.getD 5 (0,0)).2=z:=⟨_,rfl⟩
 rw[ht5,hd5]at c5
 obtain⟨t6,ht6⟩:∃z,(ps.getD 6 (0,0)).1=z:=⟨_,rfl⟩
 obtain⟨d6,hd6⟩:∃z,(ps.getD 6 (0,0)).2=z:=⟨_,rfl⟩
 rw[ht6,hd6]at c6
 obtain⟨t7,ht7⟩:∃z,(ps.getD 7 (0,0)).1=z:=⟨_,rfl⟩
 obtain⟨d7,hd7⟩:∃z,(ps.getD 7 (0,0)).2=z:=⟨_,rfl⟩
 rw[ht7,hd7]at c7
 have PE:Hid ((ps.getD 0 (0,0)).1=t0∧(ps.getD 0 (0,0)).2=d0∧(ps.getD 1 (0,0)).1=t1∧(ps.getD 1 (0,0)).2=d1∧(ps.getD 2 (0,0)).1=t2∧(ps.getD 2 (0,0)).2=d2∧(ps.getD 3 (0,0)).1=t3∧(ps.getD 3 (0,0)).2=d3∧(ps.getD 4 (0,0)).1=t4∧(ps.getD 4 (0,0)).2=d4∧(ps.getD 5 (0,0)).1=t5∧(ps.getD 5 (0,0)).2=d5∧(ps.getD 6 (0,0)).1=t6∧(ps.getD 6 (0,0)).2=d6∧(ps.getD 7 (0,0)).1=t7∧(ps.getD 7 (0,0)).2=d7):=⟨ht0,hd0,ht1,hd1,ht2,hd2,ht3,hd3,ht4,hd4,ht5,hd5,ht6,hd6,ht7,hd7⟩
 have C:Hid ((w.cell? ⟨pgb,0,none⟩=some (.int .i64 t0)∧w.cell? ⟨pgb,1,none⟩=some (.int .i64 d0))∧(w.cell? ⟨pgb,2,none⟩=some (.int .i64 t1)∧w.cell? ⟨pgb,3,none⟩=some (.int .i64 d1))∧(w.cell? ⟨pgb,4,none⟩=some (.int .i64 t2)∧w.cell? ⟨pgb,5,none⟩=some (.int .i64 d2))∧(w.cell? ⟨pgb,6,none⟩=some (.int .i64 t3)∧w.cell? ⟨pgb,7,none⟩=some (.int .i64 d3))∧(w.cell? ⟨pgb,8,none⟩=some (.int .i64 t4)∧w.cell? ⟨pgb,9,none⟩=some (.int .i64 d4))∧(w.cell? ⟨pgb,10,none⟩=some (.int .i64 t5)∧w.cell? ⟨pgb,11,none⟩=some (.int .i64 d5))∧(w.cell? ⟨pgb,12,none⟩=some (.int .i64 t6)∧w.cell? ⟨pgb,13,none⟩=some (.int .i64 d6))∧(w.cell? ⟨pgb,14,none⟩=some (.int .i64 t7)∧w.cell? ⟨pgb,15,none⟩=some (.int .i64 d7))):=⟨c0,c1,c2,c3,c4,c5,c6,c7⟩
 clear ht0 hd0 c0 ht1 hd1 c1 ht2 hd2 c2 ht3 hd3 c3 ht4 hd4 c4 ht5 hd5 c5 ht6 hd6 c6 ht7 hd7 c7 hp h8
 have HM':=h
 obtain⟨a0,k0,e0,_⟩:=h.r.shape
 obtain⟨a1,k1,e1,_⟩:=h.c.shape
 obtain⟨a2,k2,e2,_⟩:=h.i.shape
 obtain⟨a3,k3,e3,_⟩:=h.o.shape
 subst e0 e1 e2 e3
 obtain⟨n0,hn0⟩:∃n,H.regs.length=n:=⟨_,rfl⟩
 obtain⟨n1,hn1⟩:∃n,H.csr.length=n:=⟨_,rfl⟩
 obtain⟨n2,hn2⟩:∃n,H.inn.length=n:=⟨_,rfl⟩
 obtain⟨n3,hn3⟩:∃n,H.out.length=n:=⟨_,rfl⟩
 rw[hn0,hn1,hn2,hn3]at h ⊢
 have HM:=hid h
 have KH:=hid hk
 clear h hk HM' hn0 hn1 hn2 hn3
 generalize hW:(w.alloc (.cells #[.slice a0 n0 k0,.int .i64 H.pc,.slice a1 n1 k1,.bool H.halted,.bool H.waiting,.bool H.rung,.int .i64 H.done,.slice a2 n2 k2,.slice a3 n3 k3] 47)).alloc (.cells #[.int .i64 0,.int .i64 0,.int .i64 0,.int .i64 0,.int .i64 0,.int .i64 0,.int .i64 0,.int .i64 0,.int .i64 0,.int .i64 0,.int .i64 0,.int .i64 0,.int .i64 0,.int .i64 0,.int .i64 0,.int .i64 0,.int .i64 0,.int .i64 0,.int .i64 0,.int .i64 0,.int .i64 0,.int .i64 0,.int .i64 0,.int .i64 0,.int .i64 0,.int .i64 0,.int .i64 0,.int .i64 0,.bool false,.bool false,.bool false,.int .i64 0,.slice none 0 0,.slice none 0 0,.int .i64 0,.int .i64 0,.int .i64 0,.int .i64 0,.int .i64 0,.int .i64 0,.int .i64 0,.int .i64 0,.int .i64 0,.int .i64 0,.int .i64 0,.int .i64 0,.int .i64 0,.int .i64 0,.int .i64 0,.int .i64 0] 100)=W
 have B0:Hid (Below w.heap.size w W):=by show Below _ _ _;rw[←hW];exact al (al (Below.refl _ _) _) _
 obtain⟨s,hS⟩:∃s,w.heap.size=s:=⟨_,rfl⟩
 have HSs:=hid hS
 have z1:s+1=(w.alloc (.cells #[.slice a0 n0 k0,.int .i64 H.pc,.slice a1 n1 k1,.bool H.halted,.bool H.waiting,.bool H.rung,.int .i64 H.done,.slice a2 n2 k2,.slice a3 n3 k3] 47)).heap.size:=by rw[←hS];simp
 have Q:Hid (Vb W s #[.slice a0 n0 k0,.int .i64 H.pc,.slice a1 n1 k1,.bool H.halted,.bool H.waiting,.bool H.rung,.int .i64 H.done,.slice a2 n2 k2,.slice a3 n3 k3] 47):=by show Vb _ _ _ _;rw[←hW,←hS];exact(Vb.new _ _ _).push _
 have R:Hid (Vb W (s+1) #[.int .i64 0,.int .i64 0,.int .i64 0,.int .i64 0,.int .i64 0,.int .i64 0,.int .i64 0,.int .i64 0,.int .i64 0,.int .i64 0,.int .i64 0,.int .i64 0,.int .i64 0,.int .i64 0,.int .i64 0,.int .i64 0,.int .i64 0,.int .i64 0,.int .i64 0,.int .i64 0,.int .i64 0,.int .i64 0,.int .i64 0,.int .i64 0,.int .i64 0,.int .i64 0,.int .i64 0,.int .i64 0,.bool false,.bool false,.bool false,.int .i64 0,.slice none 0 0,.slice none 0 0,.int .i64 0,.int .i64 0,.int .i64 0,.int .i64 0,.int .i64 0,.int .i64 0,.int .i64 0,.int .i64 0,.int .i64 0,.int .i64 0,.int .i64 0,.int .i64 0,.int .i64 0,.int .i64 0,.int .i64 0,.int .i64 0] 100):=by show Vb _ _ _ _;rw[←hW,z1];exact Vb.new _ _ _
 clear z1
 have LT:Hid (s+1<W.heap.size):=R.out.lt
 have BS:Hid (∀w',SvN 50 W (s+1) w'→Below w.heap.size w w'):=fun w' hs=>Mq.under B0.out hs.1 fun k e=>by have:=HSs.out;omega
 have QS:Hid (∀w',SvN 50 W (s+1) w'→Vb w' s #[.slice a0 n0 k0,.int .i64 H.pc,.slice a1 n1 k1,.bool H.halted,.bool H.waiting,.bool H.rung,.int .i64 H.done,.slice a2 n2 k2,.slice a3 n3 k3] 47):=fun w' hs=>hs.1.vb Q.out (by omega)
 have Sv0:Hid (SvN 50 W (s+1) W.drew):=SvN.step ⟨Mq.refl _ _,R.out.there 50 (by decide)⟩ LT.out (Below.refl _ _).drew
 have E0:Hid (Below W.heap.size W W.drew):=(Below.refl _ _).drew
 have ha0:∀w',(Instr.arrayAt 98 (.slice (some ⟨pgb,0,none⟩) 8 pc)).run Tryz.prog w'=.ok (.pointer (some ⟨pgb,0,none⟩)) w':=fun w'=>by simp[Instr.arrayAt,Sem.run_bind,run_underlying Tryz.underlying98]
 go_enter Tryz.func30,Tryz.ntmps30
 go_upto_region 1 with fail
 clear hW hS
 refine wp_region_held (S:=fun w'=>SvN 50 W (s+1) w') (by kernel_rfl) ?_
 change wpAnyH _ _ _ _ _ _ _ _ (World.drew _)
 generalize W.drew=v0 at*
 refine wpTe 0 5 ((.agg #[.slice a0 n0 k0,.int .i64 H.pc,.slice a1 n1 k1,.bool H.halted,.bool H.waiting,.bool H.rung,.int .i64 H.done,.slice a2 n2 k2,.slice a3 n3 k3])) rfl (Or.inl ⟨by rfl,fun w' hs=>by have hq:=QS.out w' hs;have y0:=hq.cell 0 rfl;have y1:=hq.cell 1 rfl;have y2:=hq.cell 2 rfl;have y3:=hq.cell 3 rfl;have y4:=hq.cell 4 rfl;have y5:=hq.cell 5 rfl;have y6:=hq.cell 6 rfl;have y7:=hq.cell 7 rfl;have y8:=hq.cell 8 rfl;go_simp⟩) Sv0.out ?_
 simp only[Act.put,zT,zZ,zS]
 refine wpTd 2 7 ((.slice (some ⟨pgb,0,none⟩) 8 pc)) rfl Sv0.out ?_
 simp only[Act.put,zT,zZ,zS]
 refine wpTe 3 8 ((.pointer (some ⟨pgb,0,none⟩))) rfl (Or.inl ⟨by rfl,fun w' hs=>by have ha:=ha0 w';go_simp⟩) Sv0.out ?_
 simp only[Act.put,zT,zZ,zS]
 refine wpTe 4 9 ((.agg #[.int .i64 t0,.int .i64 d0,.int .i64 t1,.int .i64 d1,.int .i64 t2,.int .i64 d2,.int .i64 t3,.int .i64 d3,.int .i64 t4,.int .i64 d4,.int .i64 t5,.int .i64 d5,.int .i64 t6,.int .i64 d6,.int .i64 t7,.int .i64 d7])) rfl (Or.inl ⟨by rfl,fun w' hs=>by have y0:=cell_keep (BS.out w' hs) C.out.1.1;have x0:=cell_keep (BS.out w' hs) C.out.1.2;have y1:=cell_keep (BS.out w' hs) C.out.2.1.1;have x1:=cell_keep (BS.out w' hs) C.out.2.1.2;have y2:=cell_keep (BS.out w' hs) C.out.2.2.1.1;have x2:=cell_keep (BS.out w' hs) C.out.2.2.1.2;have y3:=cell_keep (BS.out w' hs) C.out.2.2.2.1.1;have x3:=cell_keep (BS.out w' hs) C.out.2.2.2.1.2;have y4:=cell_keep (BS.out w' hs) C.out.2.2.2.2.1.1;have x4:=cell_keep (BS.out w' hs) C.out.2.2.2.2.1.2;have y5:=cell_keep (BS.out w' hs) C.out.2.2.2.2.2.1.1;have x5:=cell_keep (BS.out w' hs) C.out.2.2.2.2.2.1.2;have y6:=cell_keep (BS.out w' hs) C.out.2.2.2.2.2.2.1.1;have x6:=cell_keep (BS.out w' hs) C.out.2.2.2.2.2.2.1.2;have y7:=cell_keep (BS.out w' hs) C.out.2.2.2.2.2.2.2.1;have x7:=cell_keep (BS.out w' hs) C.out.2.2.2.2.2.2.2.2;go_simp⟩) Sv0.out ?_
 simp only[Act.put,zT,zZ,zS]
 refine zR 1 rfl fun K hK=>?_
 rw[if_pos (by rfl)]
 go_simp
 refine(i_machine _ _ _ _ H _ _ ((HM.out.keep B0.out).keep E0.out) KH.out.r16 KH.out.c11 (by have:=KH.out.i40;omega) (by have:=KH.out.o40;omega)).mono ?_
 rintro e v1⟨i2,o2,rfl,mi,mo,ap,b2⟩
 obtain⟨xa,xk,rfl,_⟩:=mi.shape
 obtain⟨ya,yk,rfl,_⟩:=mo.shape
 obtain⟨xn,hxn⟩:∃n,H.inn.length=n:=⟨_,rfl⟩
 obtain⟨yn,hyn⟩:∃n,H.out.length=n:=⟨_,rfl⟩
 rw[hxn]at mi
 rw[hyn]at mo
 rw[hxn,hyn]at ap ⊢
 have MI:=hid mi
 have MO:=hid mo
 have AP:=hid ap
 have Sv1:Hid (SvN 50 W (s+1) v1):=Sv0.out.step LT.out b2
 have Z0:Hid (W.heap.size≤v0.heap.size):=E0.out.size
 clear mi mo ap b2 hxn hyn
 unfold mca
 refine hK.out _ _ Sv1.out (fun _=>?_)
 clear hK K
 refine wpTd 5 10 ((.agg #[.int .i64 (gt H.regs 0),.int .i64 (gt H.regs 1),.int .i64 (gt H.regs 2),.int .i64 (gt H.regs 3),.int .i64 (gt H.regs 4),.int .i64 (gt H.regs 5),.int .i64 (gt H.regs 6),.int .i64 (gt H.regs 7),.int .i64 (gt H.regs 8),.int .i64 (gt H.regs 9),.int .i64 (gt H.regs 10),.int .i64 (gt H.regs 11),.int .i64 (gt H.regs 12),.int .i64 (gt H.regs 13),.int .i64 (gt H.regs 14),.int .i64 (gt H.regs 15),.int .i64 H.pc,.int .i64 (gt H.csr 0),.int .i64 (gt H.csr 1),.int .i64 (gt H.csr 2),.int .i64 (gt H.csr 3),.int .i64 (gt H.csr 4),.int .i64 (gt H.csr 5),.int .i64 (gt H.csr 6),.int .i64 (gt H.csr 7),.int .i64 (gt H.csr 8),.int .i64 (gt H.csr 9),.int .i64 (gt H.csr 10),.bool H.halted,.bool H.waiting,.bool H.rung,.int .i64 H.done,.slice xa xn xk,.slice ya yn yk,.int .i64 t0,.int .i64 d0,.int .i64 t1,.int .i64 d1,.int .i64 t2,.int .i64 d2,.int .i64 t3,.int .i64 d3,.int .i64 t4,.int .i64 d4,.int .i64 t5,.int .i64 d5,.int .i64 t6,.int .i64 d6,.int .i64 t7,.int .i64 d7])) rfl Sv1.out ?_
 simp only[Act.put,zT,zZ,zS]
 refine zR 6 rfl fun K hK=>?_
 rw[if_pos (by rfl)]
 refine wp_store_mid 100 (.tmp 4) (.tmp 10) rfl (s+1) 0 #[.int .i64 (gt H.regs 0),.int .i64 (gt H.regs 1),.int .i64 (gt H.regs 2),.int .i64 (gt H.regs 3),.int .i64 (gt H.regs 4),.int .i64 (gt H.regs 5),.int .i64 (gt H.regs 6),.int .i64 (gt H.regs 7),.int .i64 (gt H.regs 8),.int .i64 (gt H.regs 9),.int .i64 (gt H.regs 10),.int .i64 (gt H.regs 11),.int .i64 (gt H.regs 12),.int .i64 (gt H.regs 13),.int .i64 (gt H.regs 14),.int .i64 (gt H.regs 15),.int .i64 H.pc,.int .i64 (gt H.csr 0),.int .i64 (gt H.csr 1),.int .i64 (gt H.csr 2),.int .i64 (gt H.csr 3),.int .i64 (gt H.csr 4),.int .i64 (gt H.csr 5),.int .i64 (gt H.csr 6),.int .i64 (gt H.csr 7),.int .i64 (gt H.csr 8),.int .i64 (gt H.csr 9),.int .i64 (gt H.csr 10),.bool H.halted,.bool H.waiting,.bool H.rung,.int .i64 H.done,.slice xa xn xk,.slice ya yn yk,.int .i64 t0,.int .i64 d0,.int .i64 t1,.int .i64 d1,.int .i64 t2,.int .i64 d2,.int .i64 t3,.int .i64 d3,.int .i64 t4,.int .i64 d4,.int .i64 t5,.int .i64 d5,.int .i64 t6,.int .i64 d6,.int .i64 t7,.int .i64 d7] rfl rfl Sv1.out.2 (by kernel_rfl) (by simp[Value.oneCell']) ?_
 change K (Act.put _ none undef) _
 simp only[Act.put]
 have S6:Hid (SvN 50 W (s+1) (v1.setCells (s+1) 0 #[.int .i64 (gt H.regs 0),.int .i64 (gt H.regs 1),.int .i64 (gt H.regs 2),.int .i64 (gt H.regs 3),.int .i64 (gt H.regs 4),.int .i64 (gt H.regs 5),.int .i64 (gt H.regs 6),.int .i64 (gt H.regs 7),.int .i64 (gt H.regs 8),.int .i64 (gt H.regs 9),.int .i64 (gt H.regs 10),.int .i64 (gt H.regs 11),.int .i64 (gt H.regs 12),.int .i64 (gt H.regs 13),.int .i64 (gt H.regs 14),.int .i64 (gt H.regs 15),.int .i64 H.pc,.int .i64 (gt H.csr 0),.int .i64 (gt H.csr 1),.int .i64 (gt H.csr 2),.int .i64 (gt H.csr 3),.int .i64 (gt H.csr 4),.int .i64 (gt H.csr 5),.int .i64 (gt H.csr 6),.int .i64 (gt H.csr 7),.int .i64 (gt H.csr 8),.int .i64 (gt H.csr 9),.int .i64 (gt H.csr 10),.bool H.halted,.bool H.waiting,.bool H.rung,.int .i64 H.done,.slice xa xn xk,.slice ya yn yk,.int .i64 t0,.int .i64 d0,.int .i64 t1,.int .i64 d1,.int .i64 t2,.int .i64 d2,.int .i64 t3,.int .i64 d3,.int .i64 t4,.int .i64 d4,.int .i64 t5,.int .i64 d5,.int .i64 t6,.int .i64 d6,.int .i64 t7,.int .i64 d7].toList)):=Sv1.out.set _
 have R6:Hid ((v1.setCells (s+1) 0 #[.int .i64 (gt H.regs 0),.int .i64 (gt H.regs 1),.int .i64 (gt H.regs 2),.int .i64 (gt H.regs 3),.int .i64 (gt H.regs 4),.int .i64 (gt H.regs 5),.int .i64 (gt H.regs 6),.int .i64 (gt H.regs 7),.int .i64 (gt H.regs 8),.int .i64 (gt H.regs 9),.int .i64 (gt H.regs 10),.int .i64 (gt H.regs 11),.int .i64 (gt H.regs 12),.int .i64 (gt H.regs 13),.int .i64 (gt H.regs 14),.int .i64 (gt H.regs 15),.int .i64 H.pc,.int .i64 (gt H.csr 0),.int .i64 (gt H.csr 1),.int .i64 (gt H.csr 2),.int .i64 (gt H.csr 3),.int .i64 (gt H.csr 4),.int .i64 (gt H.csr 5),.int .i64 (gt H.csr 6),.int .i64 (gt H.csr 7),.int .i64 (gt H.csr 8),.int .i64 (gt H.csr 9),.int .i64 (gt H.csr 10),.bool H.halted,.bool H.waiting,.bool H.rung,.int .i64 H.done,.slice xa xn xk,.slice ya yn yk,.int .i64 t0,.int .i64 d0,.int .i64 t1,.int .i64 d1,.int .i64 t2,.int .i64 d2,.int .i64 t3,.int .i64 d3,.int .i64 t4,.int .i64 d4,.int .i64 t5,.int .i64 d5,.int .i64 t6,.int .i64 d6,.int .i64 t7,.int .i64 d7].toList).rangeAt (s+1) 0 #[.int .i64 (gt H.regs 0),.int .i64 (gt H.regs 1),.int .i64 (gt H.regs 2),.int .i64 (gt H.regs 3),.int .i64 (gt H.regs 4),.int .i64 (gt H.regs 5),.int .i64 (gt H.regs 6),.int .i64 (gt H.regs 7),.int .i64 (gt H.regs 8),.int .i64 (gt H.regs 9),.int .i64 (gt H.regs 10),.int .i64 (gt H.regs 11),.int .i64 (gt H.regs 12),.int .i64 (gt H.regs 13),.int .i64 (gt H.regs 14),.int .i64 (gt H.regs 15),.int .i64 H.pc,.int .i64 (gt H.csr 0),.int .i64 (gt H.csr 1),.int .i64 (gt H.csr 2),.int .i64 (gt H.csr 3),.int .i64 (gt H.csr 4),.int .i64 (gt H.csr 5),.int .i64 (gt H.csr 6),.int .i64 (gt H.csr 7),.int .i64 (gt H.csr 8),.int .i64 (gt H.csr 9),.int .i64 (gt H.csr 10),.bool H.halted,.bool H.waiting,.bool H.rung,.int .i64 H.done,.slice xa xn xk,.slice ya yn yk,.int .i64 t0,.int .i64 d0,.int .i64 t1,.int .i64 d1,.int .i64 t2,.int .i64 d2,.int .i64 t3,.int .i64 d3,.int .i64 t4,.int .i64 d4,.int .i64 t5,.int .i64 d5,.int .i64 t6,.int .i64 d6,.int .i64 t7,.int .i64 d7].toList):=World.rangeAt_setCells_same _ _ _ _ Sv1.out.2
 have Q6:Hid (Mq (fun k=>k=s+1) v1 (v1.setCells (s+1) 0 #[.int .i64 (gt H.regs 0),.int .i64 (gt H.regs 1),.int .i64 (gt H.regs 2),.int .i64 (gt H.regs 3),.int .i64 (gt H.regs 4),.int .i64 (gt H.regs 5),.int .i64 (gt H.regs 6),.int .i64 (gt H.regs 7),.int .i64 (gt H.regs 8),.int .i64 (gt H.regs 9),.int .i64 (gt H.regs 10),.int .i64 (gt H.regs 11),.int .i64 (gt H.regs 12),.int .i64 (gt H.regs 13),.int .i64 (gt H.regs 14),.int .i64 (gt H.regs 15),.int .i64 H.pc,.int .i64 (gt H.csr 0),.int .i64 (gt H.csr 1),.int .i64 (gt H.csr 2),.int .i64 (gt H.csr 3),.int .i64 (gt H.csr 4),.int .i64 (gt H.csr 5),.int .i64 (gt H.csr 6),.int .i64 (gt H.csr 7),.int .i64 (gt H.csr 8),.int .i64 (gt H.csr 9),.int .i64 (gt H.csr 10),.bool H.halted,.bool H.waiting,.bool H.rung,.int .i64 H.done,.slice xa xn xk,.slice ya yn yk,.int .i64 t0,.int .i64 d0,.int .i64 t1,.int .i64 d1,.int .i64 t2,.int .i64 d2,.int .i64 t3,.int .i64 d3,.int .i64 t4,.int .i64 d4,.int .i64 t5,.int .i64 d5,.int .i64 t6,.int .i64 d6,.int .i64 t7,.int .i64 d7].toList)):=mq_cells (s+1) _ v1 0
 generalize v1.setCells (s+1) 0 #[.int .i64 (gt H.regs 0),.int .i64 (gt H.regs 1),.int .i64 (gt H.regs 2),.int .i64 (gt H.regs 3),.int .i64 (gt H.regs 4),.int .i64 (gt H.regs 5),.int .i64 (gt H.regs 6),.int .i64 (gt H.regs 7),.int .i64 (gt H.regs 8),.int .i64 (gt H.regs 9),.int .i64 (gt H.regs 10),.int .i64 (gt H.regs 11),.int .i64 (gt H.regs 12),.int .i64 (gt H.regs 13),.int .i64 (gt H.regs 14),.int .i64 (gt H.regs 15),.int .i64 H.pc,.int .i64 (gt H.csr 0),.int .i64 (gt H.csr 1),.int .i64 (gt H.csr 2),.int .i64 (gt H.csr 3),.int .i64 (gt H.csr 4),.int .i64 (gt H.csr 5),.int .i64 (gt H.csr 6),.int .i64 (gt H.csr 7),.int .i64 (gt H.csr 8),.int .i64 (gt H.csr 9),.int .i64 (gt H.csr 10),.bool H.halted,.bool H.waiting,.bool H.rung,.int .i64 H.done,.slice xa xn xk,.slice ya yn yk,.int .i64 t0,.int .i64 d0,.int .i64 t1,.int .i64 d1,.int .i64 t2,.int .i64 d2,.int .i64 t3,.int .i64 d3,.int .i64 t4,.int .i64 d4,.int .i64 t5,.int .i64 d5,.int .i64 t6,.int .i64 d6,.int .i64 t7,.int .i64 d7].toList=v6 at*
 refine hK.out _ _ S6.out (fun _=>?_)
 clear hK K
 refine wpAnyH_done (by kernel_rfl) ?_ _
 have o6:Ho W.heap.size v1 v6:=Q6.out.ho fun k e=>by have:=LT.out;omega
 have z1:w.heap.size≤W.heap.size:=B0.out.size
 have F:Hid (Nums v6 w.heap.size (.slice xa xn xk) H.inn∧Nums v6 w.heap.size (.slice ya yn yk) H.out):=⟨((MI.out.mono Z0.out).ho o6).mono z1,((MO.out.mono Z0.out).ho o6).mono z1⟩
 have LD:=run_loadVar_mid (P:=Tryz.prog) v6 (s+1) 0 100 #[.int .i64 (gt H.regs 0),.int .i64 (gt H.regs 1),.int .i64 (gt H.regs 2),.int .i64 (gt H.regs 3),.int .i64 (gt H.regs 4),.int .i64 (gt H.regs 5),.int .i64 (gt H.regs 6),.int .i64 (gt H.regs 7),.int .i64 (gt H.regs 8),.int .i64 (gt H.regs 9),.int .i64 (gt H.regs 10),.int .i64 (gt H.regs 11),.int .i64 (gt H.regs 12),.int .i64 (gt H.regs 13),.int .i64 (gt H.regs 14),.int .i64 (gt H.regs 15),.int .i64 H.pc,.int .i64 (gt H.csr 0),.int .i64 (gt H.csr 1),.int .i64 (gt H.csr 2),.int .i64 (gt H.csr 3),.int .i64 (gt H.csr 4),.int .i64 (gt H.csr 5),.int .i64 (gt H.csr 6),.int .i64 (gt H.csr 7),.int .i64 (gt H.csr 8),.int .i64 (gt H.csr 9),.int .i64 (gt H.csr 10),.bool H.halted,.bool H.waiting,.bool H.rung,.int .i64 H.done,.slice xa xn xk,.slice ya yn yk,.int .i64 t0,.int .i64 d0,.int .i64 t1,.int .i64 d1,.int .i64 t2,.int .i64 d2,.int .i64 t3,.int .i64 d3,.int .i64 t4,.int .i64 d4,.int .i64 t5,.int .i64 d5,.int .i64 t6,.int .i64 d6,.int .i64 t7,.int .i64 d7].toList _ R6.out Tryz.underlying100 rfl (by kernel_rfl)
 go_wp2_with fail
 exact bodyPost_ret (v:=.agg #[.int .i64 (gt H.regs 0),.int .i64 (gt H.regs 1),.int .i64 (gt H.regs 2),.int .i64 (gt H.regs 3),.int .i64 (gt H.regs 4),.int .i64 (gt H.regs 5),.int .i64 (gt H.regs 6),.int .i64 (gt H.regs 7),.int .i64 (gt H.regs 8),.int .i64 (gt H.regs 9),.int .i64 (gt H.regs 10),.int .i64 (gt H.regs 11),.int .i64 (gt H.regs 12),.int .i64 (gt H.regs 13),.int .i64 (gt H.regs 14),.int .i64 (gt H.regs 15),.int .i64 H.pc,.int .i64 (gt H.csr 0),.int .i64 (gt H.csr 1),.int .i64 (gt H.csr 2),.int .i64 (gt H.csr 3),.int .i64 (gt H.csr 4),.int .i64 (gt H.csr 5),.int .i64 (gt H.csr 6),.int .i64 (gt H.csr 7),.int .i64 (gt H.csr 8),.int .i64 (gt H.csr 9),.int .i64 (gt H.csr 10),.bool H.halted,.bool H.waiting,.bool H.rung,.int .i64 H.done,.slice xa xn xk,.slice ya yn yk,.int .i64 t0,.int .i64 d0,.int .i64 t1,.int .i64 d1,.int .i64 t2,.int .i64 d2,.int .i64 t3,.int .i64 d3,.int .i64 t4,.int .i64 d4,.int .i64 t5,.int .i64 d5,.int .i64 t6,.int .i64 d6,.int .i64 t7,.int .i64 d7]) (by simp[results,Tryz.results30,asAddr];rw[LD]) rfl ⟨.slice xa xn xk,.slice ya yn yk,by unfold mcp;rw[PE.out.1,PE.out.2.1,PE.out.2.2.1,PE.out.2.2.2.1,PE.out.2.2.2.2.1,PE.out.2.2.2.2.2.1,PE.out.2.2.2.2.2.2.1,PE.out.2.2.2.2.2.2.2.1,PE.out.2.2.2.2.2.2.2.2.1,PE.out.2.2.2.2.2.2.2.2.2.1,PE.out.2.2.2.2.2.2.2.2.2.2.1,PE.out.2.2.2.2.2.2.2.2.2.2.2.1,PE.out.2.2.2.2.2.2.2.2.2.2.2.2.1,PE.out.2.2.2.2.2.2.2.2.2.2.2.2.2.1,PE.out.2.2.2.2.2.2.2.2.2.2.2.2.2.2.1,PE.out.2.2.2.2.2.2.2.2.2.2.2.2.2.2.2],F.out.1,F.out.2,AP.out,BS.out _ S6.out⟩
theorem own_types{w:World}{base base' e e' sz sz' n m:Nat}{v u:Value}{xs ys:List Value}(h:w.ownsRow base e sz v n xs)(k:w.ownsRow base' e' sz' u m ys)(hne:e≠e'):v.ownBlock=none∨v.ownBlock≠u.ownBlock:=by
 obtain⟨h1,⟨rfl,h3⟩|⟨g,cap,cur,rfl,hg,hr,rest⟩⟩:=h
 ·exact .inl rfl
 ·obtain⟨k1,⟨rfl,k3⟩|⟨g',cap',cur',rfl,kg,kr,rest'⟩⟩:=k
  ·exact .inr (fun e=>by cases e)
  ·refine .inr fun e=>?_
   cases e
   rw[hr]at kr
   cases kr
   exact hne rfl
def ext(n b:Nat)(B:Nat→Nat):Nat→Nat:=fun i=>if i=n then b else B i
theorem to_S{P:Program}{fn:Func}{R:Ending→World→Prop}{R':Ending→FrameMode→World→Prop}{c₀:Frame}{cs cs':List Frame}{u:FrameMode}(hc:cs'={ c₀ with mode:=u}::cs)(hR:∀e w,R e w→R' e u w)(e:Exit)(a:Act)(w:World)(h:bodyPost P fn R e a w):bodyPostS P fn c₀ cs R' e a cs' w:=by
 cases e with
 |normal=>obtain⟨h1,v,h2,h3⟩:=h;exact⟨h1,u,hc,v,h2,hR _ _ h3⟩
 |ret=>obtain⟨h1,v,h2,h3⟩:=h;exact⟨h1,u,hc,v,h2,hR _ _ h3⟩
 |panic ch=>obtain⟨h1,h3⟩:=h;exact⟨h1,u,hc,hR _ _ h3⟩
 |outgrown=>exact⟨u,hR _ _ h⟩
 |exit id=>exact h
 |goto l=>exact h
theorem c_idle(b:Nat)(w:World):CallsD Tryz.prog 93 #[.pointer (some ⟨b,0,none⟩)] .returning w fun e u' w'=>e=.returned (.tuple #[])∧u'=.returning∧w'=w:=by
 have hn:∀w,(binOp .eql 20 .nilIface .nilIface).run Tryz.prog w=.ok (.bool true) w:=fun w=>by kernel_rfl
 refine callsD_of_wpS Tryz.func93 rfl fun c₀ cs hu=>?_
 apply wpS_seq
 generalize hC:Code.block 0 _=C
 apply wpS_region
 simp[wpOpsS,go_sem,recoverD,hu,Tryz.ntmps93,Exit.thenS]
 rw[←hC]
 clear hC
 refine wpS_of_wp (Code.wp_mono (to_S (R:=fun e w'=>e=.returned (.tuple #[])∧w'=w) (u:=.returning) (by rw[←hu]) (fun e w h=>⟨h.1,rfl,h.2⟩)) ?_)
 clear hu
 have hT:(#[Value.pointer (some ⟨b,0,none⟩)]++(Array.replicate 22 undef).setIfInBounds 3 (.nilIface))=#[.pointer (some ⟨b,0,none⟩),undef,undef,undef,.nilIface,undef,undef,undef,undef,undef,undef,undef,undef,undef,undef,undef,undef,undef,undef,undef,undef,undef,undef]:=by simp[Array.replicate]
 rw[hT]
 clear hT
 go_wp2_with fail
 go_end0
 exact⟨rfl,rfl⟩
theorem mq_cell{S:Nat→Prop}{w w':World}{k j:Nat}{v:Value}(m:Mq S w w')(h:w.cell? ⟨k,j,none⟩=some v)(hn:¬S k):w'.cell? ⟨k,j,none⟩=some v:=by
 have hk:=block_of_cell h
 unfold World.cell? at h ⊢
 rw[m.block k hk hn]
 exact h
theorem c_panic{w:World}{base q dz:Nat}{Kz:Nat→Option Value}{i o:Value}{pg pc:Nat}{ps:List (Int×Int)}{g p:Nat}{zs:List Int}{X:Nat→Obj→Prop}{H:Ht}{ca ri:Int}(R:Rw w base q dz Kz i o pg pc ps g p zs H ca ri X)(b:Nat)(hb:w.cell? ⟨b,0,none⟩=some (.pointer (some ⟨q,dz,none⟩)))(hbq:b≠q)(c t:Int)(h0:0≤c)(h31:c≤31)(ht:isW t=true):
  CallsD Tryz.prog 93 #[.pointer (some ⟨b,0,none⟩)] (.panicking [{ v:=.iface 184 (.agg #[.int .i64 c,.int .i64 t]),recovered:=false}]) w fun e u' w'=>e=.returned (.tuple #[])∧u'=.panicking [{ v:=.iface 184 (.agg #[.int .i64 c,.int .i64 t]),recovered:=true}]∧Rw w' base q dz Kz i o pg pc ps g p zs (trapV H c t) c ri X∧Below base w w':=by
 have hn:∀w,(binOp .eql 20 (.iface 184 (.agg #[.int .i64 c,.int .i64 t])) .nilIface).run Tryz.prog w=.ok (.bool false) w:=fun w=>by kernel_rfl
 have ha:∀w,(Instr.typeAssert (.iface 184 (.agg #[.int .i64 c,.int .i64 t])) 20 184 true).run Tryz.prog w=.ok (.tuple #[.agg #[.int .i64 c,.int .i64 t],.bool true]) w:=fun w=>by kernel_rfl
 have HR:=hid R
 have HT:Hid (0≤c∧c≤31∧isW t=true):=⟨h0,h31,ht⟩
 have HB:Hid (w.cell? ⟨b,0,none⟩=some (.pointer (some ⟨q,dz,none⟩))∧b≠q):=⟨hb,hbq⟩
 clear R h0 h31 ht hb hbq
 refine callsD_of_wpS Tryz.func93 rfl fun c₀ cs hu=>?_
 apply wpS_seq
 generalize hC:Code.block 0 _=C
 apply wpS_region
 simp[wpOpsS,go_sem,recoverD,hu,Tryz.ntmps93,Exit.thenS]
 rw[←hC]
 clear hC
 refine wpS_of_wp (Code.wp_mono (to_S (R:=fun e w'=>e=.returned (.tuple #[])∧Rw w' base q dz Kz i o pg pc ps g p zs (trapV H c t) c ri X∧Below base w w') (u:=.panicking [{ v:=.iface 184 (.agg #[.int .i64 c,.int .i64 t]),recovered:=true}]) rfl (fun e w h=>⟨h.1,rfl,h.2⟩)) ?_)
 clear hu
 have hT:(#[Value.pointer (some ⟨b,0,none⟩)]++(Array.replicate 22 undef).setIfInBounds 3 (.iface 184 (.agg #[.int .i64 c,.int .i64 t])))=#[.pointer (some ⟨b,0,none⟩),undef,undef,undef,.iface 184 (.agg #[.int .i64 c,.int .i64 t]),undef,undef,undef,undef,undef,undef,undef,undef,undef,undef,undef,undef,undef,undef,undef,undef,undef,undef]:=by simp[Array.replicate]
 rw[hT]
 clear hT
 go_upto_region 7 with fail
 clear hn ha
 generalize hW:w.alloc (.cells #[.int .i64 c,.int .i64 t] 184)=W1
 obtain⟨n,hn⟩:∃n,w.heap.size=n:=⟨_,rfl⟩
 rw[hn]
 have VN:Hid (Vb W1 n #[.int .i64 c,.int .i64 t] 184):=by first|show Vo _ _ _ _ _ _|show Vb _ _ _ _;rw[←hW,←hn];exact Vb.new _ _ _
 have bb:Below w.heap.size w W1:=by rw[←hW];exact al (Below.refl _ _) _
 have R1:=hid (HR.out.keep bb)
 have B1:Hid (Below base w W1):=bless bb HR.out.size
 have CB:Hid (W1.cell? ⟨b,0,none⟩=some (.pointer (some ⟨q,dz,none⟩))):=cell_keep bb HB.out.1
 have NQ:Hid (n≠q∧n≠b):=⟨by have:=HR.out.v.lt;omega,by have h2:b<w.heap.size:=block_of_cell HB.out.1;omega⟩
 clear hW hn bb
 have S0:Hid (Vb W1.drew n #[.int .i64 c,.int .i64 t] 184∧W1.drew.cell? ⟨b,0,none⟩=some (.pointer (some ⟨q,dz,none⟩))):=⟨VN.out,CB.out⟩
 have R0:Hid (Rw W1.drew base q dz Kz i o pg pc ps g p zs H ca ri X):=R1.out.keep (Below.refl _ _).drew
 have B0:Hid (Below base w W1.drew):=B1.out.drew
 refine wp_region_held (S:=fun w'=>Vb w' n #[.int .i64 c,.int .i64 t] 184∧w'.cell? ⟨b,0,none⟩=some (.pointer (some ⟨q,dz,none⟩))) (by kernel_rfl) ?_
 change wpAnyH _ _ _ _ _ _ _ _ (World.drew _)
 generalize W1.drew=x0 at*
 refine wpTe 0 10 (.pointer (some ⟨q,dz,none⟩)) rfl (Or.inl ⟨by rfl,fun w' hs=>by have hc:=hs.2;go_simp⟩) S0.out ?_
 simp only[Act.put,zT,zZ,zS]
 refine wpTd 1 11 (.pointer (some ⟨q,dz,none⟩)) rfl S0.out ?_
 simp only[Act.put,zT,zZ,zS]
 refine wpTd 2 12 (.pointer (some ⟨q,dz,none⟩)) rfl S0.out ?_
 simp only[Act.put,zT,zZ,zS]
 refine wpTd 3 13 (.pointer (some ⟨n,0,none⟩)) rfl S0.out ?_
 simp only[Act.put,zT,zZ,zS]
 refine wpTe 4 14 (.int .i64 c) rfl (Or.inl ⟨by rfl,fun w' hs=>by have hc:=(hs.1.cell 0 rfl:w'.cell? ⟨n,0,none⟩=some (.int .i64 c));go_simp⟩) S0.out ?_
 simp only[Act.put,zT,zZ,zS]
 refine wpTd 5 15 (.pointer (some ⟨n,1,none⟩)) rfl S0.out ?_
 simp only[Act.put,zT,zZ,zS]
 refine wpTe 6 16 (.int .i64 t) rfl (Or.inl ⟨by rfl,fun w' hs=>by have hc:=(hs.1.cell 1 rfl:w'.cell? ⟨n,1,none⟩=some (.int .i64 t));go_simp⟩) S0.out ?_
 simp only[Act.put,zT,zZ,zS]
 refine zR 7 rfl fun K hK=>?_
 rw[if_pos (by rfl)]
 go_simp
 have s:=stand_parts.1 HR.out.sn.hok.st
 refine(r_trap q i o _ _ ca ri H c t x0 R0.out.v HR.out.sn.hok.c11 (all_at HR.out.sn.hok.cw 0).1 s.1).mono ?_
 clear s
 rintro e x1⟨rfl,v2,m2⟩
 have U:Hid (Rw x1 base q dz Kz i o pg pc ps g p zs (trapV H c t) ca ri X∧Below base x0 x1):=R0.out.upd v2 m2 rfl rfl (trapV_hok HR.out.sn.hok c t HT.out.1 HT.out.2.1 HT.out.2.2)
 have S1:Hid (Vb x1 n #[.int .i64 c,.int .i64 t] 184∧x1.cell? ⟨b,0,none⟩=some (.pointer (some ⟨q,dz,none⟩))):=⟨m2.vb S0.out.1 fun e=>NQ.out.1 e,mq_cell m2 S0.out.2 HB.out.2⟩
 clear v2 m2
 refine hK.out _ _ S1.out (fun _=>?_)
 clear hK K
 refine wpAnyH_done (by kernel_rfl) ?_ _
 have c36:=U.out.1.v.cell 36 rfl
 have f36:=U.out.1.v.free 36
 have n0:=S1.out.1.cell 0 rfl
 have cb:=S1.out.2
 have V2:=U.out.1.v.set 36 (.int .i64 c)
 have U2:Hid (Rw (x1.setCell ⟨q,dz+36,none⟩ (.int .i64 c)) base q dz Kz i o pg pc ps g p zs (trapV H c t) c ri X∧Below base x1 (x1.setCell ⟨q,dz+36,none⟩ (.int .i64 c))):=U.out.1.upd (G:=trapV H c t) (ca':=c) (ri':=ri) V2 ((Mq.refl _ _).set ⟨q,dz+36,none⟩ _ rfl) rfl rfl U.out.1.sn.hok
 clear V2
 go_wp2_with fail
 go_end0
 exact⟨rfl,U2.out.1,B0.out.trans (U.out.2.trans U2.out.2)⟩
end Go.Proofs.YtignbeibcakgpaaGreatDoor
