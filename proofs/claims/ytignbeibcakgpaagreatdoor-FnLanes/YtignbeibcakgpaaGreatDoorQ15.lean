import Derived.Test.YtignbeibcakgpaaGreatDoorQ07
namespace Go.Proofs.YtignbeibcakgpaaGreatDoor
set_option maxRecDepth 20000
set_option maxHeartbeats 16000000
open Go.RowKit
set_option linter.unusedVariables false
theorem nums_range{w:World}{base g n cap:Nat}{zs:List Int}(h:Nums w base (.slice (some ⟨g,0,none⟩) n cap) zs)(m:Nat)(hm:n=m){cs:List Value}(hc:∀j v,cs[j]? =some v→j<m∧v=.int .i64 (gt zs j)):w.rangeAt g 0 cs:=fun j v hv=>by
 obtain⟨h1,rfl⟩:=hc j v hv
 rw[Nat.zero_add]
 exact h.cell h.len j (by omega)
def Sk(W:World)(q:Nat)(w':World):Prop:=Mq (fun k=>k=q) W w'∧w'.there q 0 34
theorem there_below{w w':World}{q n:Nat}(h:w.there q 0 n)(hq:q<w.heap.size)(b:Below w.heap.size w w'):w'.there q 0 n:=fun j hj=>by
 obtain⟨h1,h2⟩:=h j hj
 refine⟨?_,?_⟩
 ·rw[b.cell (p:=⟨q,0+j,none⟩) hq];exact h1
 ·rw[b.frozen (p:=⟨q,0+j,none⟩) hq];exact h2
theorem Vb.there{w:World}{q:Nat}{cs:Array Value}{t:TypeId}(h:Vb w q cs t)(n:Nat)(hn:n≤cs.size):w.there q 0 n:=fun j hj=>by
 refine⟨?_,h.free _⟩
 rw[h.cell (0+j) (v:=cs[0+j]'(by omega)) (Array.getElem?_eq_getElem (by omega))]
 rfl
theorem Sk.step{W w w':World}{q:Nat}(h:Sk W q w)(hq:q<W.heap.size)(b:Below w.heap.size w w'):Sk W q w':=
 ⟨h.1.trans (Mq.of (below_grown b none) fun k e=>by cases e),there_below h.2 (Nat.lt_of_lt_of_le hq h.1.size) b⟩
theorem mq_cells(q:Nat):∀(vs:List Value) (w:World) (o:Nat),Mq (fun k=>k=q) w (w.setCells q o vs)
 | [],w,o=>Mq.refl _ _
 |v::vs,w,o=>((Mq.refl (fun k=>k=q) w).set ⟨q,o,none⟩ v rfl).trans (mq_cells q vs _ (o+1))
variable{W w:World}{q:Nat}
theorem Sk.set(h:Sk W q w)(vs:List Value):Sk W q (w.setCells q 0 vs):=⟨h.1.trans (mq_cells q vs w 0),World.there_setCells h.2 _ _ _⟩
theorem cells16(zs:List Int):∀(j:Nat) (v:Value),([.int .i64 (gt zs 0),.int .i64 (gt zs 1),.int .i64 (gt zs 2),.int .i64 (gt zs 3),.int .i64 (gt zs 4),.int .i64 (gt zs 5),.int .i64 (gt zs 6),.int .i64 (gt zs 7),.int .i64 (gt zs 8),.int .i64 (gt zs 9),.int .i64 (gt zs 10),.int .i64 (gt zs 11),.int .i64 (gt zs 12),.int .i64 (gt zs 13),.int .i64 (gt zs 14),.int .i64 (gt zs 15)]:List Value)[j]? =some v→j<16∧v=.int .i64 (gt zs j):=by
 intro j v hv
 have hj:j<16:=by have:=(List.getElem?_eq_some_iff.1 hv).1;simpa using this
 refine⟨hj,?_⟩
 have e:j=0∨j=1∨j=2∨j=3∨j=4∨j=5∨j=6∨j=7∨j=8∨j=9∨j=10∨j=11∨j=12∨j=13∨j=14∨j=15:=by omega
 rcases e with rfl|rfl|rfl|rfl|rfl|rfl|rfl|rfl|rfl|rfl|rfl|rfl|rfl|rfl|rfl|rfl<;>exact(Option.some.inj hv).symm
theorem cells11(zs:List Int):∀(j:Nat) (v:Value),([.int .i64 (gt zs 0),.int .i64 (gt zs 1),.int .i64 (gt zs 2),.int .i64 (gt zs 3),.int .i64 (gt zs 4),.int .i64 (gt zs 5),.int .i64 (gt zs 6),.int .i64 (gt zs 7),.int .i64 (gt zs 8),.int .i64 (gt zs 9),.int .i64 (gt zs 10)]:List Value)[j]? =some v→j<11∧v=.int .i64 (gt zs j):=by
 intro j v hv
 have hj:j<11:=by have:=(List.getElem?_eq_some_iff.1 hv).1;simpa using this
 refine⟨hj,?_⟩
 have e:j=0∨j=1∨j=2∨j=3∨j=4∨j=5∨j=6∨j=7∨j=8∨j=9∨j=10:=by omega
 rcases e with rfl|rfl|rfl|rfl|rfl|rfl|rfl|rfl|rfl|rfl|rfl<;>exact(Option.some.inj hv).symm
theorem i_machineX(r c i o:Value)(H:Ht)(b:Nat)(w:World)(h:Hm w b r c i o H)(hr:H.regs.length=16)(hc:H.csr.length=11)(hi:H.inn.length≤1000)(ho:H.out.length≤1000):
  Calls Tryz.prog 58 #[.agg #[r,.int .i64 H.pc,c,.bool H.halted,.bool H.waiting,.bool H.rung,.int .i64 H.done,i,o]] w fun e w'=>∃i' o',e=.returned (.agg (mca H i' o'))∧Nums w' w.heap.size i' H.inn∧Nums w' w.heap.size o' H.out∧Apt i' o'∧Below w.heap.size w w'∧∃bo,w.heap.size≤bo∧bo≤w'.heap.size∧Nums w' bo o' H.out∧∀k,i'.ownBlock=some k→k<bo:=by
 have HM:=hid h
 obtain⟨a0,k0,rfl,_,_,g0⟩:=h.r.shape
 obtain⟨a1,k1,rfl,_,_,g1⟩:=h.c.shape
 obtain⟨a2,k2,rfl,_⟩:=h.i.shape
 obtain⟨a3,k3,rfl,_⟩:=h.o.shape
 obtain⟨y0,rfl⟩:=g0 (by omega)
 obtain⟨y1,rfl⟩:=g1 (by omega)
 have HL:Hid (H.inn.length≤1000∧H.out.length≤1000):=⟨hi,ho⟩
 have HR:Hid (H.regs.length=16∧H.csr.length=11):=⟨hr,hc⟩
 rw[hr]at HM ⊢
 rw[hc]at HM ⊢
 generalize H.inn.length=n2 at*
 generalize H.out.length=n3 at*
 clear h g0 g1 hr hc hi ho
 generalize hW:(w.alloc (.cells #[.slice (some ⟨y0,0,none⟩) 16 k0,.int .i64 H.pc,.slice (some ⟨y1,0,none⟩) 11 k1,.bool H.halted,.bool H.waiting,.bool H.rung,.int .i64 H.done,.slice a2 n2 k2,.slice a3 n3 k3] 47)).alloc (.cells #[.int .i64 0,.int .i64 0,.int .i64 0,.int .i64 0,.int .i64 0,.int .i64 0,.int .i64 0,.int .i64 0,.int .i64 0,.int .i64 0,.int .i64 0,.int .i64 0,.int .i64 0,.int .i64 0,.int .i64 0,.int .i64 0,.int .i64 0,.int .i64 0,.int .i64 0,.int .i64 0,.int .i64 0,.int .i64 0,.int .i64 0,.int .i64 0,.int .i64 0,.int .i64 0,.int .i64 0,.int .i64 0,.bool false,.bool false,.bool false,.int .i64 0,.slice none 0 0,.slice none 0 0] 87)=W
 have B0:Hid (Below w.heap.size w W):=by show Below _ _ _;rw[←hW];exact al (al (Below.refl _ _) _) _
 obtain⟨s,hS⟩:∃s,w.heap.size=s:=⟨_,rfl⟩
 have HS:=hid hS
 have SZ:Hid (W.heap.size=s+2):=by show _=_;rw[←hW,←hS];simp
 have VA:Hid (Vb W s #[.slice (some ⟨y0,0,none⟩) 16 k0,.int .i64 H.pc,.slice (some ⟨y1,0,none⟩) 11 k1,.bool H.halted,.bool H.waiting,.bool H.rung,.int .i64 H.done,.slice a2 n2 k2,.slice a3 n3 k3] 47):=by
  show Vb _ _ _ _;rw[←hW,←hS];exact(Vb.new _ _ _).push _
 have VR:Hid (Vb W (s+1) #[.int .i64 0,.int .i64 0,.int .i64 0,.int .i64 0,.int .i64 0,.int .i64 0,.int .i64 0,.int .i64 0,.int .i64 0,.int .i64 0,.int .i64 0,.int .i64 0,.int .i64 0,.int .i64 0,.int .i64 0,.int .i64 0,.int .i64 0,.int .i64 0,.int .i64 0,.int .i64 0,.int .i64 0,.int .i64 0,.int .i64 0,.int .i64 0,.int .i64 0,.int .i64 0,.int .i64 0,.int .i64 0,.bool false,.bool false,.bool false,.int .i64 0,.slice none 0 0,.slice none 0 0] 87):=by
  have z1:s+1=(w.alloc (.cells #[.slice (some ⟨y0,0,none⟩) 16 k0,.int .i64 H.pc,.slice (some ⟨y1,0,none⟩) 11 k1,.bool H.halted,.bool H.waiting,.bool H.rung,.int .i64 H.done,.slice a2 n2 k2,.slice a3 n3 k3] 47)).heap.size:=by rw[←hS];simp
  show Vb _ _ _ _;rw[←hW,z1];exact Vb.new _ _ _
 have MW:Hid (Hm W b _ _ _ _ H):=HM.out.keep B0.out
 have OW:Hid (∀k,Own4 (.slice (some ⟨y0,0,none⟩) 16 k0) (.slice (some ⟨y1,0,none⟩) 11 k1) (.slice a2 n2 k2) (.slice a3 n3 k3) k→¬k=s+1):=fun k e f=>by have:=(HM.out.own k e).2;have:=HS.out;omega
 have MS:Hid (∀w',Sk W (s+1) w'→Hm w' b _ _ _ _ H):=fun w' hs=>hs.1.hm MW.out OW.out
 have VS:Hid (∀w',Sk W (s+1) w'→Vb w' s #[.slice (some ⟨y0,0,none⟩) 16 k0,.int .i64 H.pc,.slice (some ⟨y1,0,none⟩) 11 k1,.bool H.halted,.bool H.waiting,.bool H.rung,.int .i64 H.done,.slice a2 n2 k2,.slice a3 n3 k3] 47):=fun w' hs=>hs.1.vb VA.out (by omega)
 have q0:∀w',Sk W (s+1) w'→w'.cell? ⟨s,0,none⟩=some (.slice (some ⟨y0,0,none⟩) 16 k0):=fun w' hs=>(VS.out w' hs).cell 0 rfl
 have q1:∀w',Sk W (s+1) w'→w'.cell? ⟨s,1,none⟩=some (.int .i64 H.pc):=fun w' hs=>(VS.out w' hs).cell 1 rfl
 have q2:∀w',Sk W (s+1) w'→w'.cell? ⟨s,2,none⟩=some (.slice (some ⟨y1,0,none⟩) 11 k1):=fun w' hs=>(VS.out w' hs).cell 2 rfl
 have q3:∀w',Sk W (s+1) w'→w'.cell? ⟨s,3,none⟩=some (.bool H.halted):=fun w' hs=>(VS.out w' hs).cell 3 rfl
 have q4:∀w',Sk W (s+1) w'→w'.cell? ⟨s,4,none⟩=some (.bool H.waiting):=fun w' hs=>(VS.out w' hs).cell 4 rfl
 have q5:∀w',Sk W (s+1) w'→w'.cell? ⟨s,5,none⟩=some (.bool H.rung):=fun w' hs=>(VS.out w' hs).cell 5 rfl
 have q6:∀w',Sk W (s+1) w'→w'.cell? ⟨s,6,none⟩=some (.int .i64 H.done):=fun w' hs=>(VS.out w' hs).cell 6 rfl
 have q7:∀w',Sk W (s+1) w'→w'.cell? ⟨s,7,none⟩=some (.slice a2 n2 k2):=fun w' hs=>(VS.out w' hs).cell 7 rfl
 have q8:∀w',Sk W (s+1) w'→w'.cell? ⟨s,8,none⟩=some (.slice a3 n3 k3):=fun w' hs=>(VS.out w' hs).cell 8 rfl
 have ha0:∀w',(Instr.arrayAt 82 (.slice (some ⟨y0,0,none⟩) 16 k0)).run Tryz.prog w'=.ok (.pointer (some ⟨y0,0,none⟩)) w':=fun w'=>by simp[Instr.arrayAt,Sem.run_bind,run_underlying Tryz.underlying82]
 have ha1:∀w',(Instr.arrayAt 83 (.slice (some ⟨y1,0,none⟩) 11 k1)).run Tryz.prog w'=.ok (.pointer (some ⟨y1,0,none⟩)) w':=fun w'=>by simp[Instr.arrayAt,Sem.run_bind,run_underlying Tryz.underlying83]
 have R0:Hid (∀w',Sk W (s+1) w'→w'.rangeAt y0 0 [.int .i64 (gt H.regs 0),.int .i64 (gt H.regs 1),.int .i64 (gt H.regs 2),.int .i64 (gt H.regs 3),.int .i64 (gt H.regs 4),.int .i64 (gt H.regs 5),.int .i64 (gt H.regs 6),.int .i64 (gt H.regs 7),.int .i64 (gt H.regs 8),.int .i64 (gt H.regs 9),.int .i64 (gt H.regs 10),.int .i64 (gt H.regs 11),.int .i64 (gt H.regs 12),.int .i64 (gt H.regs 13),.int .i64 (gt H.regs 14),.int .i64 (gt H.regs 15)]):=fun w' hs=>nums_range (MS.out w' hs).r 16 rfl (cells16 _)
 have R1:Hid (∀w',Sk W (s+1) w'→w'.rangeAt y1 0 [.int .i64 (gt H.csr 0),.int .i64 (gt H.csr 1),.int .i64 (gt H.csr 2),.int .i64 (gt H.csr 3),.int .i64 (gt H.csr 4),.int .i64 (gt H.csr 5),.int .i64 (gt H.csr 6),.int .i64 (gt H.csr 7),.int .i64 (gt H.csr 8),.int .i64 (gt H.csr 9),.int .i64 (gt H.csr 10)]):=fun w' hs=>nums_range (MS.out w' hs).c 11 rfl (cells11 _)
 have hst:∀w',Sk W (s+1) w'→∀(xa:Option Addr) (xn xk:Nat) (ya:Option Addr) (yn yk:Nat),(Instr.storeAt 87 (.pointer (some ⟨s+1,0,none⟩)) (.agg #[.int .i64 (gt H.regs 0),.int .i64 (gt H.regs 1),.int .i64 (gt H.regs 2),.int .i64 (gt H.regs 3),.int .i64 (gt H.regs 4),.int .i64 (gt H.regs 5),.int .i64 (gt H.regs 6),.int .i64 (gt H.regs 7),.int .i64 (gt H.regs 8),.int .i64 (gt H.regs 9),.int .i64 (gt H.regs 10),.int .i64 (gt H.regs 11),.int .i64 (gt H.regs 12),.int .i64 (gt H.regs 13),.int .i64 (gt H.regs 14),.int .i64 (gt H.regs 15),.int .i64 H.pc,.int .i64 (gt H.csr 0),.int .i64 (gt H.csr 1),.int .i64 (gt H.csr 2),.int .i64 (gt H.csr 3),.int .i64 (gt H.csr 4),.int .i64 (gt H.csr 5),.int .i64 (gt H.csr 6),.int .i64 (gt H.csr 7),.int .i64 (gt H.csr 8),.int .i64 (gt H.csr 9),.int .i64 (gt H.csr 10),.bool H.halted,.bool H.waiting,.bool H.rung,.int .i64 H.done,.slice xa xn xk,.slice ya yn yk])).run Tryz.prog w'=.ok () (w'.setCells (s+1) 0 (mca H (.slice xa xn xk) (.slice ya yn yk)).toList):=fun w' hs xa xn xk ya yn yk=>
  run_storeAt_mid w' (s+1) 0 87 (mca H (.slice xa xn xk) (.slice ya yn yk)) hs.2 (by kernel_rfl) (mca_one _ _ _ rfl rfl)
 have LT:Hid (s+1<W.heap.size):=VR.out.lt
 have S0:Hid (Sk W (s+1) W):=⟨Mq.refl _ _,VR.out.there 34 (by decide)⟩
 go_enter Tryz.func58,Tryz.ntmps58
 go_wp2_with fail
 have SD:Hid (Sk W (s+1) W.drew):=S0.out.step LT.out (Below.refl _ _).drew
 refine wp_region_held (S:=fun w'=>Sk W (s+1) w') (by kernel_rfl) ?_
 change wpAnyH _ _ _ _ _ _ _ _ (World.drew _)
 refine wpTd 0 3 (.pointer (some ⟨s,0,none⟩)) rfl SD.out ?_
 simp only[Act.put,zT,zZ,zS]
 refine wpTd 1 4 (.slice (some ⟨y0,0,none⟩) 16 k0) rfl SD.out ?_
 simp only[Act.put,zT,zZ,zS]
 refine wpTd 2 5 (.pointer (some ⟨y0,0,none⟩)) rfl SD.out ?_
 simp only[Act.put,zT,zZ,zS]
 refine wpTe 3 6 (.agg #[.int .i64 (gt H.regs 0),.int .i64 (gt H.regs 1),.int .i64 (gt H.regs 2),.int .i64 (gt H.regs 3),.int .i64 (gt H.regs 4),.int .i64 (gt H.regs 5),.int .i64 (gt H.regs 6),.int .i64 (gt H.regs 7),.int .i64 (gt H.regs 8),.int .i64 (gt H.regs 9),.int .i64 (gt H.regs 10),.int .i64 (gt H.regs 11),.int .i64 (gt H.regs 12),.int .i64 (gt H.regs 13),.int .i64 (gt H.regs 14),.int .i64 (gt H.regs 15)]) rfl (yieldsIf_load_mid (by rfl) 82 (.tmp 5) rfl y0 0 rfl [.int .i64 (gt H.regs 0),.int .i64 (gt H.regs 1),.int .i64 (gt H.regs 2),.int .i64 (gt H.regs 3),.int .i64 (gt H.regs 4),.int .i64 (gt H.regs 5),.int .i64 (gt H.regs 6),.int .i64 (gt H.regs 7),.int .i64 (gt H.regs 8),.int .i64 (gt H.regs 9),.int .i64 (gt H.regs 10),.int .i64 (gt H.regs 11),.int .i64 (gt H.regs 12),.int .i64 (gt H.regs 13),.int .i64 (gt H.regs 14),.int .i64 (gt H.regs 15)] _ R0.out Tryz.underlying82 rfl (by kernel_rfl)) SD.out ?_
 simp only[Act.put,zT,zZ,zS]
 refine wpTd 4 7 (.pointer (some ⟨s,1,none⟩)) rfl SD.out ?_
 simp only[Act.put,zT,zZ,zS]
 refine wpTd 5 8 (.int .i64 H.pc) rfl SD.out ?_
 simp only[Act.put,zT,zZ,zS]
 refine wpTd 6 9 (.pointer (some ⟨s,2,none⟩)) rfl SD.out ?_
 simp only[Act.put,zT,zZ,zS]
 refine wpTd 7 10 (.slice (some ⟨y1,0,none⟩) 11 k1) rfl SD.out ?_
 simp only[Act.put,zT,zZ,zS]
 refine wpTd 8 11 (.pointer (some ⟨y1,0,none⟩)) rfl SD.out ?_
 simp only[Act.put,zT,zZ,zS]
 refine wpTe 9 12 (.agg #[.int .i64 (gt H.csr 0),.int .i64 (gt H.csr 1),.int .i64 (gt H.csr 2),.int .i64 (gt H.csr 3),.int .i64 (gt H.csr 4),.int .i64 (gt H.csr 5),.int .i64 (gt H.csr 6),.int .i64 (gt H.csr 7),.int .i64 (gt H.csr 8),.int .i64 (gt H.csr 9),.int .i64 (gt H.csr 10)]) rfl (yieldsIf_load_mid (by rfl) 83 (.tmp 11) rfl y1 0 rfl [.int .i64 (gt H.csr 0),.int .i64 (gt H.csr 1),.int .i64 (gt H.csr 2),.int .i64 (gt H.csr 3),.int .i64 (gt H.csr 4),.int .i64 (gt H.csr 5),.int .i64 (gt H.csr 6),.int .i64 (gt H.csr 7),.int .i64 (gt H.csr 8),.int .i64 (gt H.csr 9),.int .i64 (gt H.csr 10)] _ R1.out Tryz.underlying83 rfl (by kernel_rfl)) SD.out ?_
 simp only[Act.put,zT,zZ,zS]
 refine wpTd 10 13 (.agg #[.int .i64 (gt H.regs 0),.int .i64 (gt H.regs 1),.int .i64 (gt H.regs 2),.int .i64 (gt H.regs 3),.int .i64 (gt H.regs 4),.int .i64 (gt H.regs 5),.int .i64 (gt H.regs 6),.int .i64 (gt H.regs 7),.int .i64 (gt H.regs 8),.int .i64 (gt H.regs 9),.int .i64 (gt H.regs 10),.int .i64 (gt H.regs 11),.int .i64 (gt H.regs 12),.int .i64 (gt H.regs 13),.int .i64 (gt H.regs 14),.int .i64 (gt H.regs 15),.int .i64 H.pc,.int .i64 (gt H.csr 0),.int .i64 (gt H.csr 1),.int .i64 (gt H.csr 2),.int .i64 (gt H.csr 3),.int .i64 (gt H.csr 4),.int .i64 (gt H.csr 5),.int .i64 (gt H.csr 6),.int .i64 (gt H.csr 7),.int .i64 (gt H.csr 8),.int .i64 (gt H.csr 9),.int .i64 (gt H.csr 10)]) rfl SD.out ?_
 simp only[Act.put,zT,zZ,zS]
 refine wpTd 11 14 (.pointer (some ⟨s,3,none⟩)) rfl SD.out ?_
 simp only[Act.put,zT,zZ,zS]
 refine wpTd 12 15 (.bool H.halted) rfl SD.out ?_
 simp only[Act.put,zT,zZ,zS]
 refine wpTd 13 16 (.pointer (some ⟨s,4,none⟩)) rfl SD.out ?_
 simp only[Act.put,zT,zZ,zS]
 refine wpTd 14 17 (.bool H.waiting) rfl SD.out ?_
 simp only[Act.put,zT,zZ,zS]
 refine wpTd 15 18 (.pointer (some ⟨s,5,none⟩)) rfl SD.out ?_
 simp only[Act.put,zT,zZ,zS]
 refine wpTd 16 19 (.bool H.rung) rfl SD.out ?_
 simp only[Act.put,zT,zZ,zS]
 refine wpTd 17 20 (.pointer (some ⟨s,6,none⟩)) rfl SD.out ?_
 simp only[Act.put,zT,zZ,zS]
 refine wpTd 18 21 (.int .i64 H.done) rfl SD.out ?_
 simp only[Act.put,zT,zZ,zS]
 refine wpTd 19 22 (.pointer (some ⟨s,7,none⟩)) rfl SD.out ?_
 simp only[Act.put,zT,zZ,zS]
 refine wpTd 20 23 (.slice a2 n2 k2) rfl SD.out ?_
 simp only[Act.put,zT,zZ,zS]
 refine wpTd 22 25 (.pointer (some ⟨s,8,none⟩)) rfl SD.out ?_
 simp only[Act.put,zT,zZ,zS]
 refine wpTd 23 26 (.slice a3 n3 k3) rfl SD.out ?_
 simp only[Act.put,zT,zZ,zS]
 refine zR 21 rfl fun K hK=>?_
 rw[if_pos (by rfl)]
 go_simp
 refine(i_clone a2 n2 k2 H.inn _ (MS.out _ SD.out).i.rn (by have:=HL.out.1;omega)).mono ?_
 rintro e w1⟨v1,rfl,m1,b1⟩
 obtain⟨xa,xk,rfl,_⟩:=m1.shape
 have S1:Hid (Sk W (s+1) w1):=SD.out.step LT.out b1
 have N1:=hid m1
 clear m1 b1
 refine hK.out _ _ S1.out (fun _=>?_)
 clear hK K
 refine zR 24 rfl fun K hK=>?_
 rw[if_pos (by rfl)]
 go_simp
 refine(i_clone a3 n3 k3 H.out _ (MS.out _ S1.out).o.rn (by have:=HL.out.2;omega)).mono ?_
 rintro e w2⟨v2,rfl,m2,b2⟩
 obtain⟨ya,yk,rfl,_⟩:=m2.shape
 have S2:Hid (Sk W (s+1) w2):=S1.out.step LT.out b2
 have N2:=hid m2
 have N12:=hid (N1.out.keep b2)
 have AP:Hid (Apt (.slice xa H.inn.length xk) (.slice ya H.out.length yk)):=N1.out.apt N2.out (Nat.le_refl _)
 have L12:Hid (w1.heap.size≤w2.heap.size):=b2.size
 have LI:Hid (∀k,(Value.slice xa H.inn.length xk).ownBlock=some k→k<w1.heap.size):=fun k e=>(N1.out.lt k e).2
 clear m2 b2
 refine hK.out _ _ S2.out (fun _=>?_)
 clear hK K
 refine wpTe 25 28 (.agg (mca H (.slice xa H.inn.length xk) (.slice ya H.out.length yk))) rfl (Or.inl ⟨by rfl,fun w' hs=>by rw[←mca_lit];go_simp⟩) S2.out ?_
 simp only[Act.put,zT,zZ,zS]
 refine zR 26 rfl fun K hK=>?_
 rw[if_pos (by rfl)]
 refine wp_store_mid 87 (.tmp 2) (.tmp 28) rfl (s+1) 0 (mca H (.slice xa H.inn.length xk) (.slice ya H.out.length yk)) rfl rfl S2.out.2 (by kernel_rfl) (mca_one _ _ _ rfl rfl) ?_
 change K (Act.put _ none undef) _
 simp only[Act.put]
 have S3:Hid (Sk W (s+1) (w2.setCells (s+1) 0 (mca H (.slice xa H.inn.length xk) (.slice ya H.out.length yk)).toList)):=S2.out.set _
 have R3:Hid ((w2.setCells (s+1) 0 (mca H (.slice xa H.inn.length xk) (.slice ya H.out.length yk)).toList).rangeAt (s+1) 0 (mca H (.slice xa H.inn.length xk) (.slice ya H.out.length yk)).toList):=World.rangeAt_setCells_same _ _ _ _ S2.out.2
 have O3:Hid (Ho W.heap.size w2 (w2.setCells (s+1) 0 (mca H (.slice xa H.inn.length xk) (.slice ya H.out.length yk)).toList)):=(mq_cells (s+1) _ w2 0).ho fun k e=>by have:=LT.out;omega
 generalize w2.setCells (s+1) 0 (mca H (.slice xa H.inn.length xk) (.slice ya H.out.length yk)).toList=w3 at*
 refine hK.out _ _ S3.out (fun _=>?_)
 clear hK K
 refine wpAnyH_done (by kernel_rfl) ?_ _
 have X3:Nums w3 W.heap.size (.slice xa H.inn.length xk) H.inn:=N12.out.ho O3.out
 have Y3:Nums w3 W.heap.size (.slice ya H.out.length yk) H.out:=(N2.out.mono (show W.heap.size≤w1.heap.size from S1.out.1.size)).ho O3.out
 have B3:Below w.heap.size w w3:=Mq.under B0.out S3.out.1 fun k e=>by have:=HS.out;omega
 have LD:=run_loadVar_mid (P:=Tryz.prog) w3 (s+1) 0 87 (mca H (.slice xa H.inn.length xk) (.slice ya H.out.length yk)).toList _ R3.out Tryz.underlying87 rfl (by kernel_rfl)
 go_wp2_with fail
 exact bodyPost_ret (v:=.agg (mca H (.slice xa H.inn.length xk) (.slice ya H.out.length yk))) (by simp[results,Tryz.results58,asAddr];rw[LD]) rfl
  ⟨_,_,rfl,X3.mono B0.out.size,Y3.mono B0.out.size,AP.out,B3,w1.heap.size,Nat.le_trans B0.out.size S1.out.1.size,Nat.le_trans L12.out O3.out.size,N2.out.ho ⟨O3.out.size,fun k hb hk=>O3.out.block k (Nat.le_trans S1.out.1.size hb) hk⟩,LI.out⟩
theorem i_machine(r c i o:Value)(H:Ht)(b:Nat)(w:World)(h:Hm w b r c i o H)(hr:H.regs.length=16)(hc:H.csr.length=11)(hi:H.inn.length≤1000)(ho:H.out.length≤1000):
  Calls Tryz.prog 58 #[.agg #[r,.int .i64 H.pc,c,.bool H.halted,.bool H.waiting,.bool H.rung,.int .i64 H.done,i,o]] w fun e w'=>∃i' o',e=.returned (.agg (mca H i' o'))∧Nums w' w.heap.size i' H.inn∧Nums w' w.heap.size o' H.out∧Apt i' o'∧Below w.heap.size w w':=
 (i_machineX r c i o H b w h hr hc hi ho).mono fun _ _ ⟨i',o',h1,h2,h3,h4,h5,_⟩=>⟨i',o',h1,h2,h3,h4,h5⟩
def Vc(w:World)(m:Nat)(cs:Array Value):Prop:=∃(C:Array Value) (t:TypeId),Vb w m C t∧∀(j:Nat) (x:Value),cs[j]? =some x→C[j]? =some x
variable{w:World}{m:Nat}{cs:Array Value}
theorem Vc.cell(h:Vc w m cs)(j:Nat){x:Value}(hx:cs[j]? =some x):w.cell? ⟨m,j,none⟩=some x:=by
 obtain⟨C,t,hv,hc⟩:=h
 exact hv.cell j (hc j x hx)
theorem Vc.keep{w w':World}{m:Nat}{cs:Array Value}(h:Vc w m cs)(b:Below w.heap.size w w'):Vc w' m cs:=by
 obtain⟨C,t,hv,hc⟩:=h
 exact⟨C,t,hv.keep b,hc⟩
theorem Vc.lt(h:Vc w m cs):m<w.heap.size:=by
 obtain⟨C,t,hv,hc⟩:=h
 exact hv.lt
theorem Vc.mq{S:Nat→Prop}{w w':World}{m:Nat}{cs:Array Value}(h:Vc w m cs)(q:Mq S w w')(hn:¬S m):Vc w' m cs:=by
 obtain⟨C,t,hv,hc⟩:=h
 exact⟨C,t,q.vb hv hn,hc⟩
theorem Vb.vc{w:World}{m:Nat}{cs:Array Value}{t:TypeId}(h:Vb w m cs t):Vc w m cs:=⟨cs,t,h,fun _ _ e=>e⟩
def Vd(w:World)(m d:Nat)(cs:Array Value):Prop:=∃(C:Array Value) (t:TypeId),Vb w m C t∧∀(j:Nat) (x:Value),cs[j]? =some x→C[d+j]? =some x
variable{w:World}{m d:Nat}{cs:Array Value}
theorem Vd.cell(h:Vd w m d cs)(j:Nat){x:Value}(hx:cs[j]? =some x):w.cell? ⟨m,d+j,none⟩=some x:=by
 obtain⟨C,t,hv,hc⟩:=h
 exact hv.cell (d+j) (hc j x hx)
theorem Vd.keep{w w':World}{m d:Nat}{cs:Array Value}(h:Vd w m d cs)(b:Below w.heap.size w w'):Vd w' m d cs:=by
 obtain⟨C,t,hv,hc⟩:=h
 exact⟨C,t,hv.keep b,hc⟩
theorem Vd.lt(h:Vd w m d cs):m<w.heap.size:=by
 obtain⟨C,t,hv,hc⟩:=h
 exact hv.lt
theorem Vd.mq{S:Nat→Prop}{w w':World}{m d:Nat}{cs:Array Value}(h:Vd w m d cs)(q:Mq S w w')(hn:¬S m):Vd w' m d cs:=by
 obtain⟨C,t,hv,hc⟩:=h
 exact⟨C,t,q.vb hv hn,hc⟩
variable{w:World}{m:Nat}{cs:Array Value}
theorem Vc.vd(h:Vc w m cs):Vd w m 0 cs:=by
 obtain⟨C,t,hv,hc⟩:=h
 exact⟨C,t,hv,fun j x e=>by rw[Nat.zero_add];exact hc j x e⟩
variable{w:World}{m d:Nat}{H:Ht}{i o:Value}
theorem mda_regs(h:Vd w m d (mca H i o))(hl:H.regs.length=16):Rn w (some ⟨m,d,none⟩) 16 16 H.regs:=by
 refine .inr ⟨_,rfl,Nat.le_refl _,by decide,hl,fun j hj=>?_⟩
 have e:j=0∨j=1∨j=2∨j=3∨j=4∨j=5∨j=6∨j=7∨j=8∨j=9∨j=10∨j=11∨j=12∨j=13∨j=14∨j=15:=by omega
 rw[Addr.add_mid]
 rcases e with rfl|rfl|rfl|rfl|rfl|rfl|rfl|rfl|rfl|rfl|rfl|rfl|rfl|rfl|rfl|rfl
 ·exact h.cell 0 rfl
 ·exact h.cell 1 rfl
 ·exact h.cell 2 rfl
 ·exact h.cell 3 rfl
 ·exact h.cell 4 rfl
 ·exact h.cell 5 rfl
 ·exact h.cell 6 rfl
 ·exact h.cell 7 rfl
 ·exact h.cell 8 rfl
 ·exact h.cell 9 rfl
 ·exact h.cell 10 rfl
 ·exact h.cell 11 rfl
 ·exact h.cell 12 rfl
 ·exact h.cell 13 rfl
 ·exact h.cell 14 rfl
 ·exact h.cell 15 rfl
theorem mda_csr(h:Vd w m d (mca H i o))(hl:H.csr.length=11):Rn w (some ⟨m,d+17,none⟩) 11 11 H.csr:=by
 refine .inr ⟨_,rfl,Nat.le_refl _,by decide,hl,fun j hj=>?_⟩
 have e:j=0∨j=1∨j=2∨j=3∨j=4∨j=5∨j=6∨j=7∨j=8∨j=9∨j=10:=by omega
 rw[Addr.add_mid]
 rcases e with rfl|rfl|rfl|rfl|rfl|rfl|rfl|rfl|rfl|rfl|rfl
 ·exact h.cell 17 rfl
 ·exact h.cell 18 rfl
 ·exact h.cell 19 rfl
 ·exact h.cell 20 rfl
 ·exact h.cell 21 rfl
 ·exact h.cell 22 rfl
 ·exact h.cell 23 rfl
 ·exact h.cell 24 rfl
 ·exact h.cell 25 rfl
 ·exact h.cell 26 rfl
 ·exact h.cell 27 rfl
def Sj(W:World)(q:Nat)(w':World):Prop:=Mq (fun k=>k=q) W w'∧w'.there q 0 9
theorem Sj.step{W w w':World}{q:Nat}(h:Sj W q w)(hq:q<W.heap.size)(b:Below w.heap.size w w'):Sj W q w':=
 ⟨h.1.trans (Mq.of (below_grown b none) fun k e=>by cases e),there_below h.2 (Nat.lt_of_lt_of_le hq h.1.size) b⟩
variable{W w:World}{q:Nat}
theorem Sj.put(h:Sj W q w)(j:Nat)(u:Value):Sj W q (w.setCell ⟨q,j,none⟩ u):=⟨h.1.set _ _ rfl,World.there_setCells h.2 q j [u]⟩
theorem Sj.at(h:Sj W q w)(j:Nat)(hj:j<9):(∃v,w.cell? ⟨q,j,none⟩=some v)∧w.frozen? ⟨q,j,none⟩=false:=by
 obtain⟨h1,h2⟩:=h.2 j hj
 rw[Nat.zero_add]at h1 h2
 exact⟨Option.isSome_iff_exists.1 h1,h2⟩
theorem Sj.set(h:Sj W q w)(vs:List Value):Sj W q (w.setCells q 0 vs):=⟨h.1.trans (mq_cells q vs w 0),World.there_setCells h.2 _ _ _⟩
theorem i_hartD(m d:Nat)(i o:Value)(H:Ht)(w:World)(hv:Vd w m d (mca H i o))(hi:Rv w i H.inn)(ho:Rv w o H.out)(hr:H.regs.length=16)(hc:H.csr.length=11)(h2:H.inn.length≤1000)(h3:H.out.length≤1000):
  Calls Tryz.prog 40 #[.pointer (some ⟨m,d,none⟩)] w fun e w'=>∃r c i' o',e=.returned (.agg #[r,.int .i64 H.pc,c,.bool H.halted,.bool H.waiting,.bool H.rung,.int .i64 H.done,i',o'])∧Hm w' w.heap.size r c i' o' H∧Ha r c i' o'∧Below w.heap.size w w':=by
 obtain⟨a2,k2,rfl,hi⟩:=hi
 obtain⟨a3,k3,rfl,ho⟩:=ho
 have LN:Hid (H.regs.length=16∧H.csr.length=11∧H.inn.length≤1000∧H.out.length≤1000):=⟨hr,hc,h2,h3⟩
 have HI:Hid (Rn w a2 _ k2 H.inn):=hi
 have HO:Hid (Rn w a3 _ k3 H.out):=ho
 have HV:Hid (Vd w m d _):=hv
 clear hr hc h2 h3 hi ho hv
 generalize H.inn.length=n2 at*
 generalize H.out.length=n3 at*
 generalize hW:w.alloc (.cells #[.slice none 0 0,.int .i64 0,.slice none 0 0,.bool false,.bool false,.bool false,.int .i64 0,.slice none 0 0,.slice none 0 0] 47)=W
 have B0:Hid (Below w.heap.size w W):=by show Below _ _ _;rw[←hW];exact al (Below.refl _ _) _
 obtain⟨q,hq⟩:∃q,w.heap.size=q:=⟨_,rfl⟩
 have HQ:=hid hq
 have VR:Hid (Vb W q #[.slice none 0 0,.int .i64 0,.slice none 0 0,.bool false,.bool false,.bool false,.int .i64 0,.slice none 0 0,.slice none 0 0] 47):=by
  show Vb _ _ _ _;rw[←hW,←hq];exact Vb.new _ _ _
 have LT:Hid (q<W.heap.size):=VR.out.lt
 have ML:Hid (m<q):=by show _<_;rw[←hq];exact HV.out.lt
 have S0:Hid (Sj W q W):=⟨Mq.refl _ _,VR.out.there 9 (by decide)⟩
 have VS:Hid (∀w',Sj W q w'→Vd w' m d (mca H (.slice a2 n2 k2) (.slice a3 n3 k3))):=fun w' hs=>(HV.out.keep B0.out).mq hs.1 (by have:=ML.out;omega)
 have IS:Hid (∀w',Sj W q w'→Rn w' a2 n2 k2 H.inn):=fun w' hs=>HI.out.mq ((Mq.of (below_grown B0.out none) fun k e=>by cases e).trans hs.1) fun x e hl f=>by have:=HQ.out;omega
 have OS:Hid (∀w',Sj W q w'→Rn w' a3 n3 k3 H.out):=fun w' hs=>HO.out.mq ((Mq.of (below_grown B0.out none) fun k e=>by cases e).trans hs.1) fun x e hl f=>by have:=HQ.out;omega
 have q16:∀w',Sj W q w'→w'.cell? ⟨m,d+16,none⟩=some (.int .i64 H.pc):=fun w' hs=>(VS.out w' hs).cell 16 rfl
 have q28:∀w',Sj W q w'→w'.cell? ⟨m,d+28,none⟩=some (.bool H.halted):=fun w' hs=>(VS.out w' hs).cell 28 rfl
 have q29:∀w',Sj W q w'→w'.cell? ⟨m,d+29,none⟩=some (.bool H.waiting):=fun w' hs=>(VS.out w' hs).cell 29 rfl
 have q30:∀w',Sj W q w'→w'.cell? ⟨m,d+30,none⟩=some (.bool H.rung):=fun w' hs=>(VS.out w' hs).cell 30 rfl
 have q31:∀w',Sj W q w'→w'.cell? ⟨m,d+31,none⟩=some (.int .i64 H.done):=fun w' hs=>(VS.out w' hs).cell 31 rfl
 have q32:∀w',Sj W q w'→w'.cell? ⟨m,d+32,none⟩=some (.slice a2 n2 k2):=fun w' hs=>(VS.out w' hs).cell 32 rfl
 have q33:∀w',Sj W q w'→w'.cell? ⟨m,d+33,none⟩=some (.slice a3 n3 k3):=fun w' hs=>(VS.out w' hs).cell 33 rfl
 go_enter Tryz.func40,Tryz.ntmps40
 go_wp2_with fail
 clear hW hq
 have SD:Hid (Sj W q W.drew):=S0.out.step LT.out (Below.refl _ _).drew
 refine wp_region_held (S:=fun w'=>Sj W q w') (by kernel_rfl) ?_
 change wpAnyH _ _ _ _ _ _ _ _ (World.drew _)
 refine wpTd 0 3 (.pointer (some ⟨m,d,none⟩)) rfl SD.out ?_
 simp only[Act.put,zT,zZ,zS]
 refine wpTd 1 4 (.pointer (some ⟨m,d,none⟩)) rfl SD.out ?_
 simp only[Act.put,zT,zZ,zS]
 refine wpTd 2 5 (.pointer (some ⟨m,d,none⟩)) rfl SD.out ?_
 simp only[Act.put,zT,zZ,zS]
 refine wpTd 3 6 (.pointer (some ⟨m,d,none⟩)) rfl SD.out ?_
 simp only[Act.put,zT,zZ,zS]
 refine wpTd 4 7 (.slice (some ⟨m,d,none⟩) 16 16) rfl SD.out ?_
 simp only[Act.put,zT,zZ,zS]
 refine wpTd 6 9 (.pointer (some ⟨m,d,none⟩)) rfl SD.out ?_
 simp only[Act.put,zT,zZ,zS]
 refine wpTd 7 10 (.pointer (some ⟨m,d,none⟩)) rfl SD.out ?_
 simp only[Act.put,zT,zZ,zS]
 refine wpTd 8 11 (.pointer (some ⟨m,d,none⟩)) rfl SD.out ?_
 simp only[Act.put,zT,zZ,zS]
 refine wpTd 9 12 (.pointer (some ⟨m,d+16,none⟩)) rfl SD.out ?_
 simp only[Act.put,zT,zZ,zS]
 refine wpTd 10 13 (.int .i64 H.pc) rfl SD.out ?_
 simp only[Act.put,zT,zZ,zS]
 refine wpTd 11 14 (.pointer (some ⟨m,d,none⟩)) rfl SD.out ?_
 simp only[Act.put,zT,zZ,zS]
 refine wpTd 12 15 (.pointer (some ⟨m,d,none⟩)) rfl SD.out ?_
 simp only[Act.put,zT,zZ,zS]
 refine wpTd 13 16 (.pointer (some ⟨m,d,none⟩)) rfl SD.out ?_
 simp only[Act.put,zT,zZ,zS]
 refine wpTd 14 17 (.pointer (some ⟨m,d+17,none⟩)) rfl SD.out ?_
 simp only[Act.put,zT,zZ,zS]
 refine wpTd 15 18 (.slice (some ⟨m,d+17,none⟩) 11 11) rfl SD.out ?_
 simp only[Act.put,zT,zZ,zS]
 refine wpTd 17 20 (.pointer (some ⟨m,d,none⟩)) rfl SD.out ?_
 simp only[Act.put,zT,zZ,zS]
 refine wpTd 18 21 (.pointer (some ⟨m,d,none⟩)) rfl SD.out ?_
 simp only[Act.put,zT,zZ,zS]
 refine wpTd 19 22 (.pointer (some ⟨m,d+28,none⟩)) rfl SD.out ?_
 simp only[Act.put,zT,zZ,zS]
 refine wpTd 20 23 (.bool H.halted) rfl SD.out ?_
 simp only[Act.put,zT,zZ,zS]
 refine wpTd 21 24 (.pointer (some ⟨m,d,none⟩)) rfl SD.out ?_
 simp only[Act.put,zT,zZ,zS]
 refine wpTd 22 25 (.pointer (some ⟨m,d,none⟩)) rfl SD.out ?_
 simp only[Act.put,zT,zZ,zS]
 refine wpTd 23 26 (.pointer (some ⟨m,d+29,none⟩)) rfl SD.out ?_
 simp only[Act.put,zT,zZ,zS]
 refine wpTd 24 27 (.bool H.waiting) rfl SD.out ?_
 simp only[Act.put,zT,zZ,zS]
 refine wpTd 25 28 (.pointer (some ⟨m,d,none⟩)) rfl SD.out ?_
 simp only[Act.put,zT,zZ,zS]
 refine wpTd 26 29 (.pointer (some ⟨m,d,none⟩)) rfl SD.out ?_
 simp only[Act.put,zT,zZ,zS]
 refine wpTd 27 30 (.pointer (some ⟨m,d+30,none⟩)) rfl SD.out ?_
 simp only[Act.put,zT,zZ,zS]
 refine wpTd 28 31 (.bool H.rung) rfl SD.out ?_
 simp only[Act.put,zT,zZ,zS]
 refine wpTd 29 32 (.pointer (some ⟨m,d,none⟩)) rfl SD.out ?_
 simp only[Act.put,zT,zZ,zS]
 refine wpTd 30 33 (.pointer (some ⟨m,d,none⟩)) rfl SD.out ?_
 simp only[Act.put,zT,zZ,zS]
 refine wpTd 31 34 (.pointer (some ⟨m,d+31,none⟩)) rfl SD.out ?_
 simp only[Act.put,zT,zZ,zS]
 refine wpTd 32 35 (.int .i64 H.done) rfl SD.out ?_
 simp only[Act.put,zT,zZ,zS]
 refine wpTd 33 36 (.pointer (some ⟨m,d,none⟩)) rfl SD.out ?_
 simp only[Act.put,zT,zZ,zS]
 refine wpTd 34 37 (.pointer (some ⟨m,d,none⟩)) rfl SD.out ?_
 simp only[Act.put,zT,zZ,zS]
 refine wpTd 35 38 (.pointer (some ⟨m,d+32,none⟩)) rfl SD.out ?_
 simp only[Act.put,zT,zZ,zS]
 refine wpTd 36 39 (.slice a2 n2 k2) rfl SD.out ?_
 simp only[Act.put,zT,zZ,zS]
 refine wpTd 38 41 (.pointer (some ⟨m,d,none⟩)) rfl SD.out ?_
 simp only[Act.put,zT,zZ,zS]
 refine wpTd 39 42 (.pointer (some ⟨m,d,none⟩)) rfl SD.out ?_
 simp only[Act.put,zT,zZ,zS]
 refine wpTd 40 43 (.pointer (some ⟨m,d+33,none⟩)) rfl SD.out ?_
 simp only[Act.put,zT,zZ,zS]
 refine wpTd 41 44 (.slice a3 n3 k3) rfl SD.out ?_
 simp only[Act.put,zT,zZ,zS]
 refine zR 5 rfl fun K hK=>?_
 rw[if_pos (by rfl)]
 go_simp
 refine(i_clone (some ⟨m,d,none⟩) 16 16 H.regs _ (mda_regs (VS.out _ SD.out) LN.out.1) (by decide)).mono ?_
 rintro e w1⟨v1,rfl,m1,b1⟩
 obtain⟨xa1,xk1,rfl,_⟩:=m1.shape
 have S1:Hid (Sj W q w1):=SD.out.step LT.out b1
 have N1:=hid m1
 have G1:Hid (W.drew.heap.size≤w1.heap.size):=b1.size
 clear m1 b1
 refine hK.out _ _ S1.out (fun _=>?_)
 clear hK K
 refine zR 16 rfl fun K hK=>?_
 rw[if_pos (by rfl)]
 go_simp
 refine(i_clone (some ⟨m,d+17,none⟩) 11 11 H.csr _ (mda_csr (VS.out _ S1.out) LN.out.2.1) (by decide)).mono ?_
 rintro e w2⟨v2,rfl,m1,b1⟩
 obtain⟨xa2,xk2,rfl,_⟩:=m1.shape
 have S2:Hid (Sj W q w2):=S1.out.step LT.out b1
 have N2:=hid m1
 have G2:Hid (w1.heap.size≤w2.heap.size):=b1.size
 have H2:Hid (Ho W.heap.size w1 w2):=Ho.of b1
 clear m1 b1
 refine hK.out _ _ S2.out (fun _=>?_)
 clear hK K
 refine zR 37 rfl fun K hK=>?_
 rw[if_pos (by rfl)]
 go_simp
 refine(i_clone a2 n2 k2 H.inn _ (IS.out _ S2.out) (by have:=LN.out.2.2.1;omega)).mono ?_
 rintro e w3⟨v3,rfl,m1,b1⟩
 obtain⟨xa3,xk3,rfl,_⟩:=m1.shape
 have S3:Hid (Sj W q w3):=S2.out.step LT.out b1
 have N3:=hid m1
 have G3:Hid (w2.heap.size≤w3.heap.size):=b1.size
 have H3:Hid (Ho W.heap.size w2 w3):=Ho.of b1
 clear m1 b1
 refine hK.out _ _ S3.out (fun _=>?_)
 clear hK K
 refine zR 42 rfl fun K hK=>?_
 rw[if_pos (by rfl)]
 go_simp
 refine(i_clone a3 n3 k3 H.out _ (OS.out _ S3.out) (by have:=LN.out.2.2.2;omega)).mono ?_
 rintro e w4⟨v4,rfl,m1,b1⟩
 obtain⟨xa4,xk4,rfl,_⟩:=m1.shape
 have S4:Hid (Sj W q w4):=S3.out.step LT.out b1
 have N4:=hid m1
 have G4:Hid (w3.heap.size≤w4.heap.size):=b1.size
 have H4:Hid (Ho W.heap.size w3 w4):=Ho.of b1
 clear m1 b1
 refine hK.out _ _ S4.out (fun _=>?_)
 clear hK K
 refine wpTd 43 46 (.agg #[.slice xa1 H.regs.length xk1,.int .i64 H.pc,.slice xa2 H.csr.length xk2,.bool H.halted,.bool H.waiting,.bool H.rung,.int .i64 H.done,.slice xa3 H.inn.length xk3,.slice xa4 H.out.length xk4]) rfl S4.out ?_
 simp only[Act.put,zT,zZ,zS]
 refine zR 44 rfl fun K hK=>?_
 rw[if_pos (by rfl)]
 refine wp_store_mid 47 (.tmp 2) (.tmp 46) rfl q 0 #[.slice xa1 H.regs.length xk1,.int .i64 H.pc,.slice xa2 H.csr.length xk2,.bool H.halted,.bool H.waiting,.bool H.rung,.int .i64 H.done,.slice xa3 H.inn.length xk3,.slice xa4 H.out.length xk4] rfl rfl S4.out.2 (by kernel_rfl) (by simp[Value.oneCell']) ?_
 change K (Act.put _ none undef) (World.setCells w4 q 0 [.slice xa1 H.regs.length xk1,.int .i64 H.pc,.slice xa2 H.csr.length xk2,.bool H.halted,.bool H.waiting,.bool H.rung,.int .i64 H.done,.slice xa3 H.inn.length xk3,.slice xa4 H.out.length xk4])
 simp only[Act.put]
 have S5:Hid (Sj W q (w4.setCells q 0 [.slice xa1 H.regs.length xk1,.int .i64 H.pc,.slice xa2 H.csr.length xk2,.bool H.halted,.bool H.waiting,.bool H.rung,.int .i64 H.done,.slice xa3 H.inn.length xk3,.slice xa4 H.out.length xk4])):=S4.out.set _
 have R5:Hid ((w4.setCells q 0 [.slice xa1 H.regs.length xk1,.int .i64 H.pc,.slice xa2 H.csr.length xk2,.bool H.halted,.bool H.waiting,.bool H.rung,.int .i64 H.done,.slice xa3 H.inn.length xk3,.slice xa4 H.out.length xk4]).rangeAt q 0 [.slice xa1 H.regs.length xk1,.int .i64 H.pc,.slice xa2 H.csr.length xk2,.bool H.halted,.bool H.waiting,.bool H.rung,.int .i64 H.done,.slice xa3 H.inn.length xk3,.slice xa4 H.out.length xk4]):=World.rangeAt_setCells_same _ _ _ _ S4.out.2
 have H5:Hid (Ho W.heap.size w4 (w4.setCells q 0 [.slice xa1 H.regs.length xk1,.int .i64 H.pc,.slice xa2 H.csr.length xk2,.bool H.halted,.bool H.waiting,.bool H.rung,.int .i64 H.done,.slice xa3 H.inn.length xk3,.slice xa4 H.out.length xk4])):=(mq_cells q _ w4 0).ho fun k e=>by have:=LT.out;omega
 generalize w4.setCells q 0 [.slice xa1 H.regs.length xk1,.int .i64 H.pc,.slice xa2 H.csr.length xk2,.bool H.halted,.bool H.waiting,.bool H.rung,.int .i64 H.done,.slice xa3 H.inn.length xk3,.slice xa4 H.out.length xk4]=w5 at*
 refine hK.out _ _ S5.out (fun _=>?_)
 clear hK K
 refine wpAnyH_done (by kernel_rfl) ?_ _
 have E1:W.heap.size≤w1.heap.size:=S1.out.1.size
 have E2:W.heap.size≤w2.heap.size:=S2.out.1.size
 have E3:W.heap.size≤w3.heap.size:=S3.out.1.size
 have Q1:Nums w5 W.heap.size (.slice xa1 H.regs.length xk1) H.regs:=Nums.ho (show Nums w1 W.heap.size _ H.regs from N1.out) (H2.out.trans (H3.out.trans (H4.out.trans H5.out)))
 have Q2:Nums w5 W.heap.size (.slice xa2 H.csr.length xk2) H.csr:=(N2.out.mono E1).ho (H3.out.trans (H4.out.trans H5.out))
 have Q3:Nums w5 W.heap.size (.slice xa3 H.inn.length xk3) H.inn:=(N3.out.mono E2).ho (H4.out.trans H5.out)
 have Q4:Nums w5 W.heap.size (.slice xa4 H.out.length xk4) H.out:=(N4.out.mono E3).ho H5.out
 have A12:=N1.out.apt N2.out (Nat.le_refl _)
 have A13:=N1.out.apt N3.out G2.out
 have A14:=N1.out.apt N4.out (Nat.le_trans G2.out G3.out)
 have A23:=N2.out.apt N3.out (Nat.le_refl _)
 have A24:=N2.out.apt N4.out G3.out
 have A34:=N3.out.apt N4.out (Nat.le_refl _)
 have B5:Below w.heap.size w w5:=Mq.under B0.out S5.out.1 fun k e=>by have:=HQ.out;omega
 have LD:=run_loadVar_mid (P:=Tryz.prog) w5 q 0 47 [.slice xa1 H.regs.length xk1,.int .i64 H.pc,.slice xa2 H.csr.length xk2,.bool H.halted,.bool H.waiting,.bool H.rung,.int .i64 H.done,.slice xa3 H.inn.length xk3,.slice xa4 H.out.length xk4] _ R5.out Tryz.underlying47 rfl (by kernel_rfl)
 clear q16 q28 q29 q30 q31 q32 q33
 go_wp2_with fail
 exact bodyPost_ret (v:=.agg #[.slice xa1 H.regs.length xk1,.int .i64 H.pc,.slice xa2 H.csr.length xk2,.bool H.halted,.bool H.waiting,.bool H.rung,.int .i64 H.done,.slice xa3 H.inn.length xk3,.slice xa4 H.out.length xk4]) (by simp[results,Tryz.results40,asAddr];rw[LD]) rfl
  ⟨_,_,_,_,rfl,⟨Q1.mono B0.out.size,Q2.mono B0.out.size,Q3.mono B0.out.size,Q4.mono B0.out.size⟩,⟨A12,A13,A14,A23,A24,A34⟩,B5⟩
theorem i_hartV(m:Nat)(i o:Value)(H:Ht)(w:World)(hv:Vc w m (mca H i o))(hi:Rv w i H.inn)(ho:Rv w o H.out)(hr:H.regs.length=16)(hc:H.csr.length=11)(h2:H.inn.length≤1000)(h3:H.out.length≤1000):
  Calls Tryz.prog 40 #[.pointer (some ⟨m,0,none⟩)] w fun e w'=>∃r c i' o',e=.returned (.agg #[r,.int .i64 H.pc,c,.bool H.halted,.bool H.waiting,.bool H.rung,.int .i64 H.done,i',o'])∧Hm w' w.heap.size r c i' o' H∧Ha r c i' o'∧Below w.heap.size w w':=
 i_hartD m 0 i o H w hv.vd hi ho hr hc h2 h3
theorem i_hartr(m:Nat)(i o:Value)(H:Ht)(w:World)(hv:Vb w m (mca H i o) 87)(hi:Rv w i H.inn)(ho:Rv w o H.out)(hr:H.regs.length=16)(hc:H.csr.length=11)(h2:H.inn.length≤1000)(h3:H.out.length≤1000):
  Calls Tryz.prog 40 #[.pointer (some ⟨m,0,none⟩)] w fun e w'=>∃r c i' o',e=.returned (.agg #[r,.int .i64 H.pc,c,.bool H.halted,.bool H.waiting,.bool H.rung,.int .i64 H.done,i',o'])∧Hm w' w.heap.size r c i' o' H∧Ha r c i' o'∧Below w.heap.size w w':=
 i_hartV m i o H w hv.vc hi ho hr hc h2 h3
theorem i_hart(m:Nat)(i o:Value)(H:Ht)(b:Nat)(w:World)(hv:Vb w m (mca H i o) 87)(hi:Nums w b i H.inn)(ho:Nums w b o H.out)(hr:H.regs.length=16)(hc:H.csr.length=11)(h2:H.inn.length≤1000)(h3:H.out.length≤1000):
  Calls Tryz.prog 40 #[.pointer (some ⟨m,0,none⟩)] w fun e w'=>∃r c i' o',e=.returned (.agg #[r,.int .i64 H.pc,c,.bool H.halted,.bool H.waiting,.bool H.rung,.int .i64 H.done,i',o'])∧Hm w' w.heap.size r c i' o' H∧Ha r c i' o'∧Below w.heap.size w w':=i_hartr m i o H w hv hi.rv ho.rv hr hc h2 h3
theorem pend_eq(H:Ht)(a b c:Int)(ha:(if gt H.csr 9≠0∧gt H.csr 9≤H.done then(1:Int)else 0)=a)(hb:(if H.rung then(2:Int)else 0)=b)(hc:(if 0<H.inn.length then(4:Int)else 0)=c):a+b+c=pendV H:=by
 subst ha hb hc
 rfl
end Go.Proofs.YtignbeibcakgpaaGreatDoor
