import Derived.Test.YtaefollmeoepkaaGreatDoorQ31
namespace Go.Proofs.YtaefollmeoepkaaGreatDoor
set_option maxRecDepth 20000
set_option maxHeartbeats 16000000
open Go.RowKit
set_option linter.unusedVariables false
theorem Dh.newOut{w0 v v':World}{b k:Nat}{a:Option Addr}{len cap:Nat}{zs:List Int}{R q:Nat}{r c i o o':Value}{H:Ht}{ys:List Int}(h:Dh w0 v b k a len cap zs R q r c i o H)(n:Nums v' v.heap.size o' ys)(bl:Below v.heap.size v v'):
  Dh w0 (v'.setCell ⟨q,8,none⟩ o') b k a len cap zs R q r c i o' { H with out:=ys}:=by
 have hb:=h.hb;have hq:=h.hq;have hR:=h.hR
 have hql:=h.var.lt
 have m:=h.m.keep bl
 have nq:∀x,Own4 r c i o' x→x≠q:=fun x e=>by
  rcases e with e|e|e|e
  ·exact h.nq x (.inl e)
  ·exact h.nq x (.inr (.inl e))
  ·exact h.nq x (.inr (.inr (.inl e)))
  ·have:=(n.lt x e).1;omega
 exact⟨src_put (h.src.turn (Turn.of_below (b:=v.heap.size) bl) (Nat.le_refl _)) _ _ (by show b<q;omega),⟨m.r.put _ _ (fun e=>nq q (.inl e) rfl),m.c.put _ _ (fun e=>nq q (.inr (.inl e)) rfl),m.i.put _ _ (fun e=>nq q (.inr (.inr (.inl e))) rfl),(n.mono (by omega)).put _ _ (fun e=>nq q (.inr (.inr (.inr e))) rfl)⟩,
  ⟨h.ap.rc,h.ap.ri,h.m.r.apt n (Nat.le_refl _),h.ap.ci,h.m.c.apt n (Nat.le_refl _),h.m.i.apt n (Nat.le_refl _)⟩,(h.var.keep bl).set 8 _,(h.res.keep bl).put _ _ (by show R≠q;omega),turn_put (h.g.trans (Turn.of_below bl)) _ _ (by show w0.heap.size≤q;omega),nq,hb,hq,hR,h.r16,h.c11⟩
theorem src_mq{w w':World}{b k R:Nat}{a:Option Addr}{len cap:Nat}{zs:List Int}(s:Src w b k a len cap zs)(m:Mq (fun x=>x=R) w w')(hb:b<R):Src w' b k a len cap zs:=by
 have hh:=s.here
 have hbk:∀x,x≤b→x<w.heap.size→w'.heap[x]? =w.heap[x]? :=fun x hx hl=>m.block x hl (by omega)
 have hcell:∀(p:Addr) (u:Value),p.block≤b→w.cell? p=some u→w'.cell? p=some u:=fun p u hp hu=>by
  have hl:=block_of_cell hu
  unfold World.cell? at*
  rw[hbk _ hp hl]
  exact hu
 refine⟨hcell _ _ (Nat.le_refl _) s.code,hcell _ _ (Nat.le_refl _) s.count,?_,?_,s.away,Nat.lt_of_lt_of_le hh m.size⟩
 ·rw[World.frozen?_of_block (w:=w) (hbk b (Nat.le_refl _) hh)];exact s.free
 ·rcases s.row with h0|⟨x,rfl,q1,q2,q3,q4,q5⟩
  ·exact .inl h0
  ·refine .inr ⟨x,rfl,q1,q2,q3,fun j hj=>hcell _ _ ?_ (q4 j hj),q5⟩
   have hx:=s.away x rfl (by omega)
   rw[src_block]
   omega
theorem three_at(w:World)(x y z:Int)(t:TypeId):∀i,i<3→∃v:Int,(w.alloc (.cells #[.int .i64 x,.int .i64 y,.int .i64 z] t)).cell? ⟨w.heap.size,i,none⟩=some (.int .i64 v)∧True:=by
 intro i hi
 have e:i=0∨i=1∨i=2:=by omega
 rcases e with rfl|rfl|rfl
 ·exact⟨x,cell_new rfl,trivial⟩
 ·exact⟨y,cell_new rfl,trivial⟩
 ·exact⟨z,cell_new rfl,trivial⟩
variable{w:World}{b k:Nat}{a:Option Addr}{len cap:Nat}{zs:List Int}
theorem hart_any(s:Src w b k a len cap zs)(hk:k≤50000):
  Calls Tryz.prog 91 #[.pointer (some ⟨b,0,none⟩)] w fun e w'=>∃r c i o H,e=.returned (.agg #[r,.int .i64 H.pc,c,.bool H.halted,.bool H.waiting,.bool H.rung,.int .i64 H.done,i,o])∧Hm w' w.heap.size r c i o H∧Ha r c i o∧H.regs.length=16∧H.csr.length=11∧Turn b w w'∧∃k',k'≤k+1000∧Src w' b k' a len cap zs:=by
 have HK:=hid hk
 have S0:=hid s
 obtain⟨R,hR⟩:∃R,w.heap.size=R:=⟨_,rfl⟩
 have HR:=hid hR
 have BR:Hid (b<R):=by show _<_;rw[←hR];exact s.here
 generalize hW:(w.alloc (.cells #[.slice none 0 0,.int .i64 0,.slice none 0 0,.bool false,.bool false,.bool false,.int .i64 0,.slice none 0 0,.slice none 0 0] 26)).alloc (.cells #[.int .i64 7,.int .i64 8] 2)=W
 have z1:R+1=(w.alloc (.cells #[.slice none 0 0,.int .i64 0,.slice none 0 0,.bool false,.bool false,.bool false,.int .i64 0,.slice none 0 0,.slice none 0 0] 26)).heap.size:=by rw[←hR];simp
 have VR:Hid (Vb W R #[.slice none 0 0,.int .i64 0,.slice none 0 0,.bool false,.bool false,.bool false,.int .i64 0,.slice none 0 0,.slice none 0 0] 26):=by show Vb _ _ _ _;rw[←hW,←hR];exact(Vb.new _ _ _).push _
 have VL:Hid (Vb W (R+1) #[.int .i64 7,.int .i64 8] 2):=by show Vb _ _ _ _;rw[←hW,z1];exact Vb.new _ _ _
 have SW:Hid (Src W b k a len cap zs):=by show Src _ _ _ _ _ _ _;rw[←hW];exact(s.alloc _).alloc _
 have TW:Hid (Turn b w W):=by show Turn _ _ _;rw[←hW];exact(Turn.alloc _ _ _).trans (Turn.alloc _ _ _)
 clear s z1
 go_enter Tryz.func91,Tryz.ntmps91
 go_wp2_with fail
 clear hW hR
 refine(next_any SW.out (by have:=HK.out;omega) _).mono ?_
 rintro e w1⟨v,rfl,hv, -,t1,s1⟩
 obtain⟨hv0,hv1⟩:=hv (by decide)
 obtain⟨n,rfl⟩:=Int.eq_ofNat_of_zero_le hv0
 have hn:n≤2:=by omega
 have S1:=hid s1
 have T1:Hid (Turn b w w1):=TW.out.trans t1
 have VR1:Hid (Vb w1 R #[.slice none 0 0,.int .i64 0,.slice none 0 0,.bool false,.bool false,.bool false,.int .i64 0,.slice none 0 0,.slice none 0 0] 26):=(turn_mq t1).vb VR.out (by have:=BR.out;omega)
 have VL1:Hid (Vb w1 (R+1) #[.int .i64 7,.int .i64 8] 2):=(turn_mq t1).vb VL.out (by have:=BR.out;omega)
 have NZ:Hid (∃ys,Nums w1 (R+1) (.slice (some ⟨R+1,0,none⟩) n 2) ys∧newR ys=(0,newV ys)):=by
  have e:n=0∨n=1∨n=2:=by omega
  rcases e with rfl|rfl|rfl
  ·exact⟨[],⟨rfl,.inr ⟨R+1,2,_,rfl,Nat.le_refl _,VL1.out,by decide,by decide,rfl,rfl⟩⟩,newR_small (by decide) (by decide)⟩
  ·exact⟨[7],⟨rfl,.inr ⟨R+1,2,_,rfl,Nat.le_refl _,VL1.out,by decide,by decide,rfl,rfl⟩⟩,newR_small (by decide) (by decide)⟩
  ·exact⟨[7,8],⟨rfl,.inr ⟨R+1,2,_,rfl,Nat.le_refl _,VL1.out,by decide,by decide,rfl,rfl⟩⟩,newR_small (by decide) (by decide)⟩
 have hI2:(n:Int)≤2:=by omega
 clear hv t1 s1
 go_wp2_with fail
 obtain⟨ys,NY,hnew⟩:=NZ.out
 refine(s_newHart8 _ ys _ _ NY).mono ?_
 rintro e w2⟨r,c,i,o,rfl,m2,A2,b2⟩
 rw[hnew]at m2 ⊢
 obtain⟨H0,hH0⟩:∃H,newV ys=H:=⟨_,rfl⟩
 have L0:Hid (H0.regs.length=16∧H0.csr.length=11):=by rw[←hH0];exact⟨rfl,rfl⟩
 simp only[hH0]at m2 ⊢
 obtain⟨a0,k0,rfl,_,_,g0⟩:=m2.r.shape
 obtain⟨a1,k1,rfl,_,_,g1⟩:=m2.c.shape
 obtain⟨a2,k2,rfl,_⟩:=m2.i.shape
 obtain⟨a3,k3,rfl,_⟩:=m2.o.shape
 obtain⟨y0,rfl⟩:=g0 (by rw[L0.out.1];decide)
 obtain⟨y1,rfl⟩:=g1 (by rw[L0.out.2];decide)
 rw[L0.out.1]at m2 A2 ⊢
 rw[L0.out.2]at m2 A2 ⊢
 generalize H0.inn.length=n2 at*
 generalize H0.out.length=n3 at*
 have fh:∀w',(Instr.field 178 (.agg #[.int .i64 0,.slice (some ⟨y0,0,none⟩) 16 k0,.int .i64 H0.pc,.slice (some ⟨y1,0,none⟩) 11 k1,.bool H0.halted,.bool H0.waiting,.bool H0.rung,.int .i64 H0.done,.slice a2 n2 k2,.slice a3 n3 k3]) 1).run Tryz.prog w'=.ok (.agg #[.slice (some ⟨y0,0,none⟩) 16 k0,.int .i64 H0.pc,.slice (some ⟨y1,0,none⟩) 11 k1,.bool H0.halted,.bool H0.waiting,.bool H0.rung,.int .i64 H0.done,.slice a2 n2 k2,.slice a3 n3 k3]) w':=fun w'=>field_hart _ _ _ _ _ _ _ _ _ _ w'
 have SZ:Hid (R+2≤w1.heap.size):=by have:=VL1.out.lt;show _≤_;omega
 obtain⟨q,hq⟩:∃q,w2.heap.size=q:=⟨_,rfl⟩
 have D0:Hid (Dh w (w2.alloc (.cells #[.slice (some ⟨y0,0,none⟩) 16 k0,.int .i64 H0.pc,.slice (some ⟨y1,0,none⟩) 11 k1,.bool H0.halted,.bool H0.waiting,.bool H0.rung,.int .i64 H0.done,.slice a2 n2 k2,.slice a3 n3 k3] 26)) b (k+1) a len cap zs R q (.slice (some ⟨y0,0,none⟩) 16 k0) (.slice (some ⟨y1,0,none⟩) 11 k1) (.slice a2 n2 k2) (.slice a3 n3 k3) H0):=by
  have hRR:=HR.out;have hBR:=BR.out;have hSZ:=SZ.out;have hb2:=b2.size
  refine⟨((S1.out.turn (Turn.of_below (b:=w1.heap.size) b2) (Nat.le_refl _)).alloc _),(m2.keep (al (Below.refl _ _) _)).mono (by omega),A2,by rw[←hq];exact Vb.new _ _ _,(VR1.out.keep b2).push _,(T1.out.trans (Turn.of_below b2)).trans (Turn.alloc _ _ _),fun x e f=>by have:=(m2.own x e).2;omega,hBR,by omega,by omega,L0.out.1,L0.out.2⟩
 clear m2 A2 b2 hnew NY hH0 g0 g1
 go_wp2_with fail
 generalize w2.alloc (.cells #[.slice (some ⟨y0,0,none⟩) 16 k0,.int .i64 H0.pc,.slice (some ⟨y1,0,none⟩) 11 k1,.bool H0.halted,.bool H0.waiting,.bool H0.rung,.int .i64 H0.done,.slice a2 n2 k2,.slice a3 n3 k3] 26)=W2 at*
 clear hq fh
 go_loopw [4] (fun kk wr=>∃(j k':Nat) (H:Ht),1≤j∧j≤16∧kk=.int .i64 j∧k'≤k+1+20*j∧Dh w wr b k' a len cap zs R q (.slice (some ⟨y0,0,none⟩) 16 k0) (.slice (some ⟨y1,0,none⟩) 11 k1) (.slice a2 n2 k2) (.slice a3 n3 k3) H) (fun kk _=>16-(intOf kk).toNat)
 case atStart=>exact⟨1,k+1,H0,by omega,by omega,rfl,by omega,D0.out⟩
 case round=>
  obtain⟨j,k',H,hj1,hj,rfl,hk',hD⟩:=hrel
  have DD:=hid hD
  have KB:Hid (k'≤k+1+20*j∧1≤j∧j≤16):=⟨hk',hj1,hj⟩
  clear hD hk'
  by_cases hlt:j<16
  ·have hJ:(j:Int)<16:=by omega
   have HL:=hid hlt
   clear hlt hj hj1
   go_wp2_with (go_at_call 50;refine(chance_any DD.out.src (by have:=KB.out;have:=HK.out;omega) _).mono ?_;rintro e u1 ⟨cv,rfl,t1,s1⟩;have D1:Hid (Dh w u1 b (k'+1) a len cap zs R q (.slice (some ⟨y0,0,none⟩) 16 k0) (.slice (some ⟨y1,0,none⟩) 11 k1) (.slice a2 n2 k2) (.slice a3 n3 k3) H):=DD.out.turn t1 s1;clear t1 s1;cases cv)
   ·go_roundw
    case rel=>exact⟨j+1,_,_,by have:=HL.out;omega,by have:=HL.out;omega,by go_num,by have:=KB.out;omega,D1.out⟩
    case measure=>have:=HL.out;simp[intOf];omega
   ·skip
    have DR:Hid (Dh w u1.drew b (k'+1) a len cap zs R q (.slice (some ⟨y0,0,none⟩) 16 k0) (.slice (some ⟨y1,0,none⟩) 11 k1) (.slice a2 n2 k2) (.slice a3 n3 k3) H):=D1.out.turn (Turn.of_below (Below.refl _ _).drew) (D1.out.src.turn (Turn.of_below (b:=u1.heap.size) (Below.refl _ _).drew) (Nat.le_refl _))
    refine wp_region_held (S:=fun w'=>w'.cell? ⟨q,0,none⟩=some (.slice (some ⟨y0,0,none⟩) 16 k0)) (by kernel_rfl) ?_
    change wpAnyH _ _ _ _ _ _ _ _ (World.drew _)
    have SD:Hid (u1.drew.cell? ⟨q,0,none⟩=some (.slice (some ⟨y0,0,none⟩) 16 k0)):=DR.out.var.cell 0 rfl
    refine wpTd 0 18 (.pointer (some ⟨q,0,none⟩)) rfl SD.out ?_
    simp only[Act.put,zT,zZ,zS]
    refine wpTd 1 19 ((.slice (some ⟨y0,0,none⟩) 16 k0)) rfl SD.out ?_
    simp only[Act.put,zT,zZ,zS]
    refine wpTd 2 20 (.int .i64 (j:Int)) rfl SD.out ?_
    simp only[Act.put,zT,zZ,zS]
    refine wpTd 3 21 (.pointer (some ⟨b,0,none⟩)) rfl SD.out ?_
    simp only[Act.put,zT,zZ,zS]
    refine wpTd 4 22 (.pointer (some ⟨b,0,none⟩)) rfl SD.out ?_
    simp only[Act.put,zT,zZ,zS]
    refine wpTd 6 24 (.pointer (some ⟨b,0,none⟩)) rfl SD.out ?_
    simp only[Act.put,zT,zZ,zS]
    refine wpTd 8 26 (.pointer (some ⟨b,0,none⟩)) rfl SD.out ?_
    simp only[Act.put,zT,zZ,zS]
    refine zR 5 rfl fun K hK=>?_
    rw[if_pos (by rfl)]
    go_simp
    refine(word_any DR.out.src (by have:=KB.out;have:=HK.out;omega)).mono ?_
    rintro e u2⟨x1,rfl, -,t1,s1⟩
    have D2:=hid (DR.out.turn t1 s1)
    clear t1 s1
    refine hK.out _ _ (D2.out.var.cell 0 rfl) (fun _=>?_)
    clear hK K
    refine zR 7 rfl fun K hK=>?_
    rw[if_pos (by rfl)]
    go_simp
    refine(next_any D2.out.src (by have:=KB.out;have:=HK.out;omega) _).mono ?_
    rintro e u3⟨x2,rfl, -, -,t1,s1⟩
    have D3:=hid (D2.out.turn t1 s1)
    clear t1 s1
    refine hK.out _ _ (D3.out.var.cell 0 rfl) (fun _=>?_)
    clear hK K
    refine zR 9 rfl fun K hK=>?_
    rw[if_pos (by rfl)]
    go_simp
    refine(next_any D3.out.src (by have:=KB.out;have:=HK.out;omega) _).mono ?_
    rintro e u4⟨x3,rfl,hx3, -,t1,s1⟩
    have D4:=hid (D3.out.turn t1 s1)
    clear t1 s1
    refine hK.out _ _ (D4.out.var.cell 0 rfl) (fun _=>?_)
    clear hK K
    obtain⟨x30,x31⟩:=hx3 (by decide)
    clear hx3
    have hw56:IntKind.i64.wrap (56+x3)=56+x3:=by rw[IntKind.wrap_i64];omega
    refine wpTk (i:=10) (v:=.int .i64 (56+x3)) rfl (Or.inl ⟨by rfl,fun w' hs=>by go_simp⟩) (D4.out.var.cell 0 rfl) ?_
    change wpAnyH _ _ _ _ _ _ _ (Act.put _ (some 28) _) _
    simp only[Act.put,zT,zZ,zS]
    refine zR 11 rfl fun K hK=>?_
    rw[if_pos (by rfl)]
    go_simp
    have D5:Hid (Dh w (u4.alloc (.cells #[.int .i64 x1,.int .i64 x2,.int .i64 (56+x3)] 2)) b (k'+1+5+1+1) a len cap zs R q (.slice (some ⟨y0,0,none⟩) 16 k0) (.slice (some ⟨y1,0,none⟩) 11 k1) (.slice a2 n2 k2) (.slice a3 n3 k3) H):=D4.out.turn (Turn.alloc _ _ _) (D4.out.src.alloc _)
    refine hK.out _ _ (D5.out.var.cell 0 rfl) (fun _=>?_)
    clear hK K
    refine zR 12 rfl fun K hK=>?_
    rw[if_pos (by rfl)]
    go_simp
    refine(pick_any D5.out.src (by have:=KB.out;have:=HK.out;omega) (fun _=>True) _ 3 (by decide) (by decide) (by simp) (by have:=D4.out.src.here;omega) (three_at _ _ _ _ _)).mono ?_
    rintro e u6⟨x6,rfl, -,t1,s1⟩
    have D6:=hid (D5.out.turn t1 s1)
    clear t1 s1
    refine hK.out _ _ (D6.out.var.cell 0 rfl) (fun _=>?_)
    clear hK K
    refine wpTk (i:=13) (v:=.pointer (some ⟨y0,j,none⟩)) rfl (Or.inl ⟨by rfl,fun w' hs=>by go_simp⟩) (D6.out.var.cell 0 rfl) ?_
    change wpAnyH _ _ _ _ _ _ _ (Act.put _ (some 31) _) _
    simp only[Act.put,zT,zZ,zS]
    have cj:=D6.out.m.r.cell D6.out.r16.symm j HL.out
    have fj:=D6.out.m.r.free D6.out.r16.symm j
    have D7:Hid (Dh w (u6.setCell ⟨y0,j,none⟩ (.int .i64 x6)) b (k'+1+5+1+1+1) a len cap zs R q (.slice (some ⟨y0,0,none⟩) 16 k0) (.slice (some ⟨y1,0,none⟩) 11 k1) (.slice a2 n2 k2) (.slice a3 n3 k3) { H with regs:=H.regs.set j x6}):=D6.out.reg j x6
    refine zR 14 rfl fun K hK=>?_
    rw[if_pos (by rfl)]
    go_simp
    refine hK.out _ _ (D7.out.var.cell 0 rfl) (fun _=>?_)
    clear hK K
    refine wpAnyH_done (by kernel_rfl) ?_ _
    generalize u6.setCell ⟨y0,j,none⟩ (.int .i64 x6)=u7 at*
    clear cj fj
    go_wp2_with fail
    go_roundw
    case rel=>exact⟨j+1,_,_,by have:=HL.out;omega,by have:=HL.out;omega,by go_num,by have:=KB.out;omega,D7.out⟩
    case measure=>have:=HL.out;simp[intOf];omega
  ·have hJ:¬(j:Int)<16:=by omega
   clear hj1 hlt hj
   go_wp2_with fail
   refine(next_any DD.out.src (by have:=KB.out;have:=HK.out;omega) _).mono ?_
   rintro e u1⟨x1,rfl, -, -,t1,s1⟩
   have D1:=hid (DD.out.turn t1 s1)
   clear t1 s1
   go_wp2_with fail
   refine(next_any D1.out.src (by have:=KB.out;have:=HK.out;omega) _).mono ?_
   rintro e u2⟨x2,rfl, -, -,t1,s1⟩
   have D2:=hid (D1.out.turn t1 s1)
   clear t1 s1
   go_wp2_with fail
   refine(word_any D2.out.src (by have:=KB.out;have:=HK.out;omega)).mono ?_
   rintro e u3⟨x3,rfl, -,t1,s1⟩
   have D3:=hid (D2.out.turn t1 s1)
   clear t1 s1
   have D4:Hid (Dh w (u3.alloc (.cells #[.int .i64 x1,.int .i64 x2,.int .i64 x3] 2)) b (k'+1+1+5) a len cap zs R q (.slice (some ⟨y0,0,none⟩) 16 k0) (.slice (some ⟨y1,0,none⟩) 11 k1) (.slice a2 n2 k2) (.slice a3 n3 k3) H):=D3.out.turn (Turn.alloc _ _ _) (D3.out.src.alloc _)
   go_wp2_with fail
   refine(pick_any D4.out.src (by have:=KB.out;have:=HK.out;omega) (fun _=>True) _ 3 (by decide) (by decide) (by simp) (by have:=D3.out.src.here;omega) (three_at _ _ _ _ _)).mono ?_
   rintro e u5⟨x5,rfl, -,t1,s1⟩
   have D5:=hid (D4.out.turn t1 s1)
   clear t1 s1
   have c1:=D5.out.var.cell 1 rfl
   have f1:=D5.out.var.free 1
   have D6:Hid (Dh w (u5.setCell ⟨q,1,none⟩ (.int .i64 x5)) b (k'+1+1+5+1) a len cap zs R q (.slice (some ⟨y0,0,none⟩) 16 k0) (.slice (some ⟨y1,0,none⟩) 11 k1) (.slice a2 n2 k2) (.slice a3 n3 k3) { H with pc:=x5}):=D5.out.fld 1 _ _ rfl rfl rfl rfl (D5.out.var.set 1 _)
   go_wp2_with fail
   generalize u5.setCell ⟨q,1,none⟩ (.int .i64 x5)=u6 at*
   clear c1 f1
   refine(next_any D6.out.src (by have:=KB.out;have:=HK.out;omega) _).mono ?_
   rintro e u7⟨x7,rfl, -, -,t1,s1⟩
   have D7:=hid (D6.out.turn t1 s1)
   clear t1 s1
   have c6:=D7.out.var.cell 6 rfl
   have f6:=D7.out.var.free 6
   have D8:Hid (Dh w (u7.setCell ⟨q,6,none⟩ (.int .i64 x7)) b (k'+1+1+5+1+1) a len cap zs R q (.slice (some ⟨y0,0,none⟩) 16 k0) (.slice (some ⟨y1,0,none⟩) 11 k1) (.slice a2 n2 k2) (.slice a3 n3 k3) { H with pc:=x5,done:=x7}):=D7.out.fld 6 _ _ rfl rfl rfl rfl (D7.out.var.set 6 _)
   go_wp2_with fail
   generalize u7.setCell ⟨q,6,none⟩ (.int .i64 x7)=u8 at*
   generalize ({ H with pc:=x5,done:=x7}:Ht)=H8 at*
   clear c6 f6
   go_loopw [5] (fun kk wr=>∃(j k9:Nat) (H:Ht),j≤11∧kk=.int .i64 j∧k9≤k+400+20*j∧Dh w wr b k9 a len cap zs R q (.slice (some ⟨y0,0,none⟩) 16 k0) (.slice (some ⟨y1,0,none⟩) 11 k1) (.slice a2 n2 k2) (.slice a3 n3 k3) H) (fun kk _=>11-(intOf kk).toNat)
   case atStart=>exact⟨0,_,H8,by omega,rfl,by have:=KB.out;omega,D8.out⟩
   case round=>
    clear KB DD D1 D2 D3 D4 D5 D6 D7 D8
    obtain⟨j,k',H,hj,rfl,hk',hD⟩:=hrel
    have DD:=hid hD
    have KB:Hid (k'≤k+400+20*j∧j≤11):=⟨hk',hj⟩
    clear hD hk'
    by_cases hlt:j<11
    ·have hJ:(j:Int)<11:=by omega
     have HL:=hid hlt
     clear hlt hj
     go_wp2_with (go_at_call 50;refine(chance_any DD.out.src (by have:=KB.out;have:=HK.out;omega) _).mono ?_;rintro e u1 ⟨cv,rfl,t1,s1⟩;have D1:Hid (Dh w u1 b (k'+1) a len cap zs R q (.slice (some ⟨y0,0,none⟩) 16 k0) (.slice (some ⟨y1,0,none⟩) 11 k1) (.slice a2 n2 k2) (.slice a3 n3 k3) H):=DD.out.turn t1 s1;clear t1 s1;cases cv)
     ·go_roundw
      case rel=>exact⟨j+1,_,_,by have:=HL.out;omega,by go_num,by have:=KB.out;omega,D1.out⟩
      case measure=>have:=HL.out;simp[intOf];omega
     ·skip
      refine(next_any D1.out.src (by have:=KB.out;have:=HK.out;omega) _).mono ?_
      rintro e u2⟨x2,rfl, -, -,t1,s1⟩
      have D2:=hid (D1.out.turn t1 s1)
      clear t1 s1
      go_wp2_with fail
      refine(next_any D2.out.src (by have:=KB.out;have:=HK.out;omega) _).mono ?_
      rintro e u3⟨x3,rfl, -, -,t1,s1⟩
      have D3:=hid (D2.out.turn t1 s1)
      clear t1 s1
      go_wp2_with fail
      refine(word_any D3.out.src (by have:=KB.out;have:=HK.out;omega)).mono ?_
      rintro e u4⟨x4,rfl, -,t1,s1⟩
      have D4:=hid (D3.out.turn t1 s1)
      clear t1 s1
      have D5:Hid (Dh w (u4.alloc (.cells #[.int .i64 x2,.int .i64 x3,.int .i64 x4] 2)) b (k'+1+1+1+5) a len cap zs R q (.slice (some ⟨y0,0,none⟩) 16 k0) (.slice (some ⟨y1,0,none⟩) 11 k1) (.slice a2 n2 k2) (.slice a3 n3 k3) H):=D4.out.turn (Turn.alloc _ _ _) (D4.out.src.alloc _)
      go_wp2_with fail
      refine(pick_any D5.out.src (by have:=KB.out;have:=HK.out;omega) (fun _=>True) _ 3 (by decide) (by decide) (by simp) (by have:=D4.out.src.here;omega) (three_at _ _ _ _ _)).mono ?_
      rintro e u6⟨x6,rfl, -,t1,s1⟩
      have D6:=hid (D5.out.turn t1 s1)
      clear t1 s1
      go_wp2_with fail
      refine(s_set_any q _ _ _ _ H (j:Int) x6 (R+1) _ D6.out.m D6.out.ap D6.out.var D6.out.nq D6.out.c11 (by omega) (by have:=HL.out;omega)).mono ?_
      rintro e u7⟨rfl,H',s7,h1,h2⟩
      have D7:Hid (Dh w u7 b (k'+1+1+1+5+1) a len cap zs R q (.slice (some ⟨y0,0,none⟩) 16 k0) (.slice (some ⟨y1,0,none⟩) 11 k1) (.slice a2 n2 k2) (.slice a3 n3 k3) H'):=D6.out.sv s7 (h1.trans D6.out.r16) h2
      clear s7 h1 h2
      go_wp2_with fail
      go_roundw
      case rel=>exact⟨j+1,_,_,by have:=HL.out;omega,by go_num,by have:=KB.out;omega,D7.out⟩
      case measure=>have:=HL.out;simp[intOf];omega
    ·have hJ:¬(j:Int)<11:=by omega
     clear hlt hj
     go_wp2_with fail
     refine(chance_any DD.out.src (by have:=KB.out;have:=HK.out;omega) _).mono ?_
     rintro e p1⟨cv1,rfl,t1,s1⟩
     have E1:=hid (DD.out.turn t1 s1)
     clear t1 s1
     have c:=E1.out.var.cell 5 rfl
     have f:=E1.out.var.free 5
     have E2:Hid (Dh w (p1.setCell ⟨q,5,none⟩ (.bool cv1)) b (k'+1) a len cap zs R q (.slice (some ⟨y0,0,none⟩) 16 k0) (.slice (some ⟨y1,0,none⟩) 11 k1) (.slice a2 n2 k2) (.slice a3 n3 k3) { H with rung:=cv1}):=E1.out.fld 5 _ _ rfl rfl rfl rfl (E1.out.var.set 5 _)
     go_wp2_with fail
     generalize p1.setCell ⟨q,5,none⟩ (.bool cv1)=p2 at*
     clear c f
     refine(chance_any E2.out.src (by have:=KB.out;have:=HK.out;omega) _).mono ?_
     rintro e p3⟨cv2,rfl,t1,s1⟩
     have E3:=hid (E2.out.turn t1 s1)
     clear t1 s1
     have c:=E3.out.var.cell 4 rfl
     have f:=E3.out.var.free 4
     have E4:Hid (Dh w (p3.setCell ⟨q,4,none⟩ (.bool cv2)) b (k'+1+1) a len cap zs R q (.slice (some ⟨y0,0,none⟩) 16 k0) (.slice (some ⟨y1,0,none⟩) 11 k1) (.slice a2 n2 k2) (.slice a3 n3 k3) { H with rung:=cv1,waiting:=cv2}):=E3.out.fld 4 _ _ rfl rfl rfl rfl (E3.out.var.set 4 _)
     go_wp2_with fail
     generalize p3.setCell ⟨q,4,none⟩ (.bool cv2)=p4 at*
     clear c f
     refine(chance_any E4.out.src (by have:=KB.out;have:=HK.out;omega) _).mono ?_
     rintro e p5⟨cv3,rfl,t1,s1⟩
     have E5:=hid (E4.out.turn t1 s1)
     clear t1 s1
     have c:=E5.out.var.cell 3 rfl
     have f:=E5.out.var.free 3
     have E6:Hid (Dh w (p5.setCell ⟨q,3,none⟩ (.bool cv3)) b (k'+1+1+1) a len cap zs R q (.slice (some ⟨y0,0,none⟩) 16 k0) (.slice (some ⟨y1,0,none⟩) 11 k1) (.slice a2 n2 k2) (.slice a3 n3 k3) { H with rung:=cv1,waiting:=cv2,halted:=cv3}):=E5.out.fld 3 _ _ rfl rfl rfl rfl (E5.out.var.set 3 _)
     go_wp2_with fail
     generalize p5.setCell ⟨q,3,none⟩ (.bool cv3)=p6 at*
     clear c f
     generalize ({ H with rung:=cv1,waiting:=cv2,halted:=cv3}:Ht)=G0 at*
     refine(chance_any E6.out.src (by have:=KB.out;have:=HK.out;omega) _).mono ?_
     rintro e p7⟨cv4,rfl,t1,s1⟩
     have E7:=hid (E6.out.turn t1 s1)
     clear t1 s1
     cases cv4
     ·obtain⟨G,hG⟩:∃G,G0=G:=⟨_,rfl⟩
      rw[hG]at E7
      clear hG
      obtain⟨l0,l1,l2,l3,l4,l5,l6,l7,l8⟩:=zc9 E7.out.var
      obtain⟨r0,r1,r2,r3,r4,r5,r6,r7,r8⟩:=zc9 E7.out.res
      obtain⟨f0,f1,f2,f3,f4,f5,f6,f7,f8⟩:=zf9 E7.out.res
      have NN:Hid (_∧_):=nine E7.out.res (.slice (some ⟨y0,0,none⟩) 16 k0) (.int .i64 G.pc) (.slice (some ⟨y1,0,none⟩) 11 k1) (.bool G.halted) (.bool G.waiting) (.bool G.rung) (.int .i64 G.done) (.slice a2 n2 k2) (.slice a3 n3 k3)
      go_wp2_with fail
      clear l0 r0 f0 l1 r1 f1 l2 r2 f2 l3 r3 f3 l4 r4 f4 l5 r5 f5 l6 r6 f6 l7 r7 f7 l8 r8 f8
      generalize (((((((((p7.setCell ⟨R,0,none⟩ (.slice (some ⟨y0,0,none⟩) 16 k0)).setCell ⟨R,1,none⟩ (.int .i64 G.pc)).setCell ⟨R,2,none⟩ (.slice (some ⟨y1,0,none⟩) 11 k1)).setCell ⟨R,3,none⟩ (.bool G.halted)).setCell ⟨R,4,none⟩ (.bool G.waiting)).setCell ⟨R,5,none⟩ (.bool G.rung)).setCell ⟨R,6,none⟩ (.int .i64 G.done)).setCell ⟨R,7,none⟩ (.slice a2 n2 k2)).setCell ⟨R,8,none⟩ (.slice a3 n3 k3))=V at*
      obtain⟨x0,x1,x2,x3,x4,x5,x6,x7,x8⟩:=zc9 NN.out.1
      have hb:=E7.out.hb
      have hRR:=E7.out.hR
      have TV:Turn b w V:=⟨NN.out.2.os.trans E7.out.g.os,NN.out.2.tape.trans E7.out.g.tape,NN.out.2.output.trans E7.out.g.output,Nat.le_trans E7.out.g.size NN.out.2.size,fun x hx hn=>(NN.out.2.block x (Nat.lt_of_lt_of_le hx E7.out.g.size) (by omega)).trans (E7.out.g.block x hx hn)⟩
      have MV:=NN.out.2.hm E7.out.m (fun x e f=>by have:=(E7.out.m.own x e).1;omega)
      exact bodyPost_ret (v:=.agg #[.slice (some ⟨y0,0,none⟩) 16 k0,.int .i64 G.pc,.slice (some ⟨y1,0,none⟩) 11 k1,.bool G.halted,.bool G.waiting,.bool G.rung,.int .i64 G.done,.slice a2 n2 k2,.slice a3 n3 k3]) (by simp[results,Tryz.results91,go_sem,x0,x1,x2,x3,x4,x5,x6,x7,x8]) rfl
       ⟨_,_,_,_,G,rfl,MV.mono (by omega),E7.out.ap,E7.out.r16,E7.out.c11,TV,_,by have:=KB.out;omega,src_mq E7.out.src NN.out.2 hb⟩
     ·obtain⟨ti,hi,hz0,hz1,hz2⟩:=info_parts info_i64
      go_upto_region 19 with(at_make;refine wpList_make_full _ rfl _ _ 24 rfl p7.heap.size 2 ti _ 1 Tryz.underlying24 hi hz0 hz1 _ _ _ _ 40 rfl rfl rfl rfl (by rw[hz2];omega) (by unfold maxLen;omega) (Nat.le_refl _) ?_;intro p8 hown hgrow;have bl:Below p7.heap.size p7 p8:=(Below.refl _ _).grown hgrow (Nat.le_refl _) (by simp);have c8:=(E7.out.var.keep bl).cell 8 rfl;have f8:=(E7.out.var.keep bl).free 8)
      have NO:Nums p8 p7.heap.size (.slice (some ⟨p7.heap.size,0,none⟩) 40 40) (List.replicate 40 0):=Nums.made hown (by rw[Nat.mul_one,show(Value.int .i64 0).cells=#[.int .i64 0]from rfl,toList_madeCells_one];simp)
      obtain⟨py,hpy⟩:∃py,p7.heap.size=py:=⟨_,rfl⟩
      have E8:=E7.out.newOut NO bl
      rw[hpy]at E8
      obtain⟨G,hG⟩:∃G,({ G0 with out:=List.replicate 40 0}:Ht)=G:=⟨_,rfl⟩
      rw[hG]at E8
      have E9:Hid (Dh w _ b _ a len cap zs R q _ _ _ _ G):=E8
      first|rw[hpy]|skip
      clear hown hgrow c8 f8 NO hi hz0 hz1 hz2 bl E8 hG hpy
      generalize p8.setCell ⟨q,8,none⟩ (.slice (some ⟨py,0,none⟩) 40 40)=p9 at*
      obtain⟨l0,l1,l2,l3,l4,l5,l6,l7,l8⟩:=zc9 E9.out.var
      obtain⟨r0,r1,r2,r3,r4,r5,r6,r7,r8⟩:=zc9 E9.out.res
      obtain⟨f0,f1,f2,f3,f4,f5,f6,f7,f8⟩:=zf9 E9.out.res
      have NN:Hid (_∧_):=nine E9.out.res (.slice (some ⟨y0,0,none⟩) 16 k0) (.int .i64 G.pc) (.slice (some ⟨y1,0,none⟩) 11 k1) (.bool G.halted) (.bool G.waiting) (.bool G.rung) (.int .i64 G.done) (.slice a2 n2 k2) (.slice (some ⟨py,0,none⟩) 40 40)
      go_wp2_with fail
      clear l0 r0 f0 l1 r1 f1 l2 r2 f2 l3 r3 f3 l4 r4 f4 l5 r5 f5 l6 r6 f6 l7 r7 f7 l8 r8 f8
      generalize (((((((((p9.setCell ⟨R,0,none⟩ (.slice (some ⟨y0,0,none⟩) 16 k0)).setCell ⟨R,1,none⟩ (.int .i64 G.pc)).setCell ⟨R,2,none⟩ (.slice (some ⟨y1,0,none⟩) 11 k1)).setCell ⟨R,3,none⟩ (.bool G.halted)).setCell ⟨R,4,none⟩ (.bool G.waiting)).setCell ⟨R,5,none⟩ (.bool G.rung)).setCell ⟨R,6,none⟩ (.int .i64 G.done)).setCell ⟨R,7,none⟩ (.slice a2 n2 k2)).setCell ⟨R,8,none⟩ (.slice (some ⟨py,0,none⟩) 40 40))=V at*
      obtain⟨x0,x1,x2,x3,x4,x5,x6,x7,x8⟩:=zc9 NN.out.1
      have hb:=E9.out.hb
      have hRR:=E9.out.hR
      have TV:Turn b w V:=⟨NN.out.2.os.trans E9.out.g.os,NN.out.2.tape.trans E9.out.g.tape,NN.out.2.output.trans E9.out.g.output,Nat.le_trans E9.out.g.size NN.out.2.size,fun x hx hn=>(NN.out.2.block x (Nat.lt_of_lt_of_le hx E9.out.g.size) (by omega)).trans (E9.out.g.block x hx hn)⟩
      have MV:=NN.out.2.hm E9.out.m (fun x e f=>by have:=(E9.out.m.own x e).1;omega)
      exact bodyPost_ret (v:=.agg #[.slice (some ⟨y0,0,none⟩) 16 k0,.int .i64 G.pc,.slice (some ⟨y1,0,none⟩) 11 k1,.bool G.halted,.bool G.waiting,.bool G.rung,.int .i64 G.done,.slice a2 n2 k2,.slice (some ⟨py,0,none⟩) 40 40]) (by simp[results,Tryz.results91,go_sem,x0,x1,x2,x3,x4,x5,x6,x7,x8]) rfl
       ⟨_,_,_,_,G,rfl,MV.mono (by omega),E9.out.ap,E9.out.r16,E9.out.c11,TV,_,by have:=KB.out;omega,src_mq E9.out.src NN.out.2 hb⟩
theorem lits_at(w:World)(l:List Int)(t:TypeId){m:Nat}(hm:m=l.length):∀i,i<m→∃v:Int,(w.alloc (.cells (l.map (Value.int .i64)).toArray t)).cell? ⟨w.heap.size,i,none⟩=some (.int .i64 v)∧True:=by
 intro i hi
 subst hm
 exact⟨l[i],cell_new (by simp),trivial⟩
theorem lits_turn{w w':World}{b bl m:Nat}(t:Turn b w w')(hne:bl≠b)(h:∀i,i<m→∃v:Int,w.cell? ⟨bl,i,none⟩=some (.int .i64 v)∧True):∀i,i<m→∃v:Int,w'.cell? ⟨bl,i,none⟩=some (.int .i64 v)∧True:=by
 intro i hi
 obtain⟨v,hv, -⟩:=h i hi
 refine⟨v,?_,trivial⟩
 have hl:bl<w.heap.size:=block_of_cell hv
 have hb:=t.block bl hl hne
 unfold World.cell? at*
 show(match w'.heap[bl]? with|_=>_)=_
 rw[hb]
 exact hv
theorem Dh.csr{w0 v:World}{b k:Nat}{a:Option Addr}{len cap:Nat}{zs:List Int}{R q y kr:Nat}{r i o:Value}{H:Ht}(h:Dh w0 v b k a len cap zs R q r (.slice (some ⟨y,0,none⟩) 11 kr) i o H)(n:Nat)(u:Int):
  Dh w0 (v.setCell ⟨y,n,none⟩ (.int .i64 u)) b k a len cap zs R q r (.slice (some ⟨y,0,none⟩) 11 kr) i o { H with csr:=H.csr.set n u}:=by
 have hy:=(h.m.c.lt y rfl).1
 have hb:=h.hb;have hR:=h.hR
 exact⟨src_put h.src _ _ (by show b<y;omega),⟨h.m.r.put _ _ (apt_ne h.ap.rc.swap rfl),(h.m.c.store n u).1,h.m.i.put _ _ (apt_ne h.ap.ci rfl),h.m.o.put _ _ (apt_ne h.ap.co rfl)⟩,h.ap,h.var.put _ _ (fun e=>h.nq y (.inr (.inl rfl)) e.symm),h.res.put _ _ (by show R≠y;omega),turn_put h.g _ _ (by show w0.heap.size≤y;omega),h.nq,h.hb,h.hq,h.hR,h.r16,by simpa using h.c11⟩
theorem Dh.newIn{w0 v v':World}{b k:Nat}{a:Option Addr}{len cap:Nat}{zs:List Int}{R q:Nat}{r c i o i':Value}{H:Ht}{ys:List Int}(h:Dh w0 v b k a len cap zs R q r c i o H)(n:Nums v' v.heap.size i' ys)(bl:Below v.heap.size v v'):
  Dh w0 (v'.setCell ⟨q,7,none⟩ i') b k a len cap zs R q r c i' o { H with inn:=ys}:=by
 have hb:=h.hb;have hq:=h.hq;have hR:=h.hR
 have hql:=h.var.lt
 have m:=h.m.keep bl
 have nq:∀x,Own4 r c i' o x→x≠q:=fun x e=>by
  rcases e with e|e|e|e
  ·exact h.nq x (.inl e)
  ·exact h.nq x (.inr (.inl e))
  ·have:=(n.lt x e).1;omega
  ·exact h.nq x (.inr (.inr (.inr e)))
 exact⟨src_put (h.src.turn (Turn.of_below (b:=v.heap.size) bl) (Nat.le_refl _)) _ _ (by show b<q;omega),⟨m.r.put _ _ (fun e=>nq q (.inl e) rfl),m.c.put _ _ (fun e=>nq q (.inr (.inl e)) rfl),(n.put _ _ (fun e=>nq q (.inr (.inr (.inl e))) rfl)).mono (by omega),m.o.put _ _ (fun e=>nq q (.inr (.inr (.inr e))) rfl)⟩,
  ⟨h.ap.rc,h.m.r.apt n (Nat.le_refl _),h.ap.ro,h.m.c.apt n (Nat.le_refl _),h.ap.co,(h.m.o.apt n (Nat.le_refl _)).swap⟩,(h.var.keep bl).set 7 _,(h.res.keep bl).put _ _ (by show R≠q;omega),turn_put (h.g.trans (Turn.of_below bl)) _ _ (by show w0.heap.size≤q;omega),nq,h.hb,h.hq,h.hR,h.r16,h.c11⟩
theorem hbent_csr(s:Src w b k a len cap zs)(hk:k≤40000):
  Calls Tryz.prog 48 #[.pointer (some ⟨b,0,none⟩)] w fun e w'=>∃a0 m0 k0 a1 m1 k1 a2 m2 k2 a3 m3 k3 H,e=.returned (.agg #[.slice a0 m0 k0,.int .i64 H.pc,.slice a1 m1 k1,.bool H.halted,.bool H.waiting,.bool H.rung,.int .i64 H.done,.slice a2 m2 k2,.slice a3 m3 k3])∧((Hm w' w.heap.size (.slice a0 m0 k0) (.slice a1 m1 k1) (.slice a2 m2 k2) (.slice a3 m3 k3) H∧Ha (.slice a0 m0 k0) (.slice a1 m1 k1) (.slice a2 m2 k2) (.slice a3 m3 k3))∨(m0=15∧m1=11∧∃y,a1=some ⟨y,0,none⟩∧H.csr.length=11∧Nums w' w.heap.size (.slice (some ⟨y,0,none⟩) 11 k1) H.csr))∧Turn b w w'∧∃k',k'≤k+1100∧Src w' b k' a len cap zs:=by
 have HK:=hid hk
 obtain⟨R,hR⟩:∃R,w.heap.size=R:=⟨_,rfl⟩
 have HR:=hid hR
 have BR:Hid (b<R):=by show _<_;rw[←hR];exact s.here
 generalize hW:w.alloc (.cells #[.slice none 0 0,.int .i64 0,.slice none 0 0,.bool false,.bool false,.bool false,.int .i64 0,.slice none 0 0,.slice none 0 0] 26)=W
 have VR:Hid (Vb W R #[.slice none 0 0,.int .i64 0,.slice none 0 0,.bool false,.bool false,.bool false,.int .i64 0,.slice none 0 0,.slice none 0 0] 26):=by show Vb _ _ _ _;rw[←hW,←hR];exact Vb.new _ _ _
 have SW:Hid (Src W b k a len cap zs):=by show Src _ _ _ _ _ _ _;rw[←hW];exact s.alloc _
 have TW:Hid (Turn b w W):=by show Turn _ _ _;rw[←hW];exact Turn.alloc _ _ _
 clear s
 go_enter Tryz.func48,Tryz.ntmps48
 go_wp2_with fail
 clear hW hR
 refine(hart_any SW.out (by have:=HK.out;omega)).mono ?_
 rintro e w2⟨r,c,i,o,H,rfl,m2,A2,h16,h11,t2,k',hk',s2⟩
 obtain⟨a0,k0,rfl,hk00,_,g0⟩:=m2.r.shape
 obtain⟨a1,k1,rfl,_,_,g1⟩:=m2.c.shape
 obtain⟨a2,k2,rfl,_⟩:=m2.i.shape
 obtain⟨a3,k3,rfl,_⟩:=m2.o.shape
 obtain⟨y0,rfl⟩:=g0 (by omega)
 obtain⟨y1,rfl⟩:=g1 (by omega)
 rw[h16]at m2 A2 hk00 ⊢
 rw[h11]at m2 A2 ⊢
 generalize H.inn.length=n2 at*
 generalize H.out.length=n3 at*
 have KB:Hid (k'≤k+1000):=hk'
 obtain⟨q,hq⟩:∃q,w2.heap.size=q:=⟨_,rfl⟩
 have D0:Hid (Dh w (w2.alloc (.cells #[.slice (some ⟨y0,0,none⟩) 16 k0,.int .i64 H.pc,.slice (some ⟨y1,0,none⟩) 11 k1,.bool H.halted,.bool H.waiting,.bool H.rung,.int .i64 H.done,.slice a2 n2 k2,.slice a3 n3 k3] 26)) b (k') a len cap zs R q (.slice (some ⟨y0,0,none⟩) 16 k0) (.slice (some ⟨y1,0,none⟩) 11 k1) (.slice a2 n2 k2) (.slice a3 n3 k3) H):=by
  have hRR:=HR.out;have hBR:=BR.out;have hl:=VR.out.lt;have ht:=t2.size
  refine⟨s2.alloc _,(m2.keep (al (Below.refl _ _) _)).mono (by omega),A2,by rw[←hq];exact Vb.new _ _ _,((turn_mq t2).vb VR.out (by omega)).push _,(TW.out.trans t2).trans (Turn.alloc _ _ _),fun x e f=>by have:=(m2.own x e).2;omega,hBR,by omega,by omega,h16,h11⟩
 have K0:=hid hk00
 clear m2 A2 h16 h11 t2 hk' s2 g0 g1
 go_wp2_with fail
 generalize w2.alloc (.cells #[.slice (some ⟨y0,0,none⟩) 16 k0,.int .i64 H.pc,.slice (some ⟨y1,0,none⟩) 11 k1,.bool H.halted,.bool H.waiting,.bool H.rung,.int .i64 H.done,.slice a2 n2 k2,.slice a3 n3 k3] 26)=W2 at*
 clear hq
 refine(next_any D0.out.src (by have:=KB.out;have:=HK.out;omega) _).mono ?_
 rintro e u1⟨x1,rfl,hx1, -,t1,s1⟩
 have D1:=hid (D0.out.turn t1 s1)
 clear t1 s1 hx1
 by_cases e0:x1=0
 ·subst e0
  have c:=D1.out.m.r.cell D1.out.r16.symm 0 (by decide)
  have f:=D1.out.m.r.free D1.out.r16.symm 0
  have v0:=D1.out.var.cell 0 rfl
  have D4:Hid (Dh w (u1.setCell ⟨y0,0,none⟩ (.int .i64 1)) b (k'+1) a len cap zs R q (.slice (some ⟨y0,0,none⟩) 16 k0) (.slice (some ⟨y1,0,none⟩) 11 k1) (.slice a2 n2 k2) (.slice a3 n3 k3) { H with regs:=H.regs.set 0 1}):=D1.out.reg 0 1
  go_upto_region 15 with fail
  generalize u1.setCell ⟨y0,0,none⟩ (.int .i64 1)=u4 at*
  clear c f v0
  obtain⟨G,hG⟩:∃G,({ H with regs:=H.regs.set 0 1}:Ht)=G:=⟨_,rfl⟩
  rw[hG]at D4
  clear hG
  obtain⟨l0,l1,l2,l3,l4,l5,l6,l7,l8⟩:=zc9 D4.out.var
  obtain⟨r0,r1,r2,r3,r4,r5,r6,r7,r8⟩:=zc9 D4.out.res
  obtain⟨f0,f1,f2,f3,f4,f5,f6,f7,f8⟩:=zf9 D4.out.res
  have NN:Hid (_∧_):=nine D4.out.res (.slice (some ⟨y0,0,none⟩) 16 k0) (.int .i64 G.pc) (.slice (some ⟨y1,0,none⟩) 11 k1) (.bool G.halted) (.bool G.waiting) (.bool G.rung) (.int .i64 G.done) (.slice a2 n2 k2) (.slice a3 n3 k3)
  go_wp2_with fail
  clear l0 r0 f0 l1 r1 f1 l2 r2 f2 l3 r3 f3 l4 r4 f4 l5 r5 f5 l6 r6 f6 l7 r7 f7 l8 r8 f8
  generalize (((((((((u4.setCell ⟨R,0,none⟩ (.slice (some ⟨y0,0,none⟩) 16 k0)).setCell ⟨R,1,none⟩ (.int .i64 G.pc)).setCell ⟨R,2,none⟩ (.slice (some ⟨y1,0,none⟩) 11 k1)).setCell ⟨R,3,none⟩ (.bool G.halted)).setCell ⟨R,4,none⟩ (.bool G.waiting)).setCell ⟨R,5,none⟩ (.bool G.rung)).setCell ⟨R,6,none⟩ (.int .i64 G.done)).setCell ⟨R,7,none⟩ (.slice a2 n2 k2)).setCell ⟨R,8,none⟩ (.slice a3 n3 k3))=V at*
  obtain⟨x0,x1,x2,x3,x4,x5,x6,x7,x8⟩:=zc9 NN.out.1
  have hb:=D4.out.hb
  have hRR:=D4.out.hR
  have hg:=D4.out.g.size
  have TV:Turn b w V:=⟨NN.out.2.os.trans D4.out.g.os,NN.out.2.tape.trans D4.out.g.tape,NN.out.2.output.trans D4.out.g.output,Nat.le_trans D4.out.g.size NN.out.2.size,fun x hx hn=>(NN.out.2.block x (Nat.lt_of_lt_of_le hx D4.out.g.size) (by omega)).trans (D4.out.g.block x hx hn)⟩
  have MV:=NN.out.2.hm D4.out.m (fun x e f=>by have:=(D4.out.m.own x e).1;omega)
  exact bodyPost_ret (v:=.agg #[.slice (some ⟨y0,0,none⟩) 16 k0,.int .i64 G.pc,.slice (some ⟨y1,0,none⟩) 11 k1,.bool G.halted,.bool G.waiting,.bool G.rung,.int .i64 G.done,.slice a2 n2 k2,.slice a3 n3 k3]) (by simp[results,Tryz.results48,go_sem,x0,x1,x2,x3,x4,x5,x6,x7,x8]) rfl
   ⟨_,_,_,_,_,_,_,_,_,_,_,_,G,rfl,.inl ⟨MV.mono (by omega),D4.out.ap⟩,TV,_,by have:=KB.out;omega,src_mq D4.out.src NN.out.2 hb⟩
 by_cases e1:x1=1
 ·subst e1
  have v0:=D1.out.var.cell 0 rfl
  have f0:=D1.out.var.free 0
  have hk0:16≤k0:=K0.out
  have hRq:=D1.out.hq
  have hbR:=D1.out.hb
  have hRw:=D1.out.hR
  have QV:Hid (Vb (u1.setCell ⟨q,0,none⟩ (.slice (some ⟨y0,1,none⟩) 15 (k0-1))) q #[.slice (some ⟨y0,1,none⟩) 15 (k0-1),.int .i64 H.pc,.slice (some ⟨y1,0,none⟩) 11 k1,.bool H.halted,.bool H.waiting,.bool H.rung,.int .i64 H.done,.slice a2 n2 k2,.slice a3 n3 k3] 26):=D1.out.var.set 0 _
  have QR:Hid (Vb (u1.setCell ⟨q,0,none⟩ (.slice (some ⟨y0,1,none⟩) 15 (k0-1))) R #[.slice none 0 0,.int .i64 0,.slice none 0 0,.bool false,.bool false,.bool false,.int .i64 0,.slice none 0 0,.slice none 0 0] 26):=D1.out.res.put _ _ (by show R≠q;omega)
  have QG:Hid (Turn b w (u1.setCell ⟨q,0,none⟩ (.slice (some ⟨y0,1,none⟩) 15 (k0-1)))):=turn_put D1.out.g _ _ (by show w.heap.size≤q;omega)
  have QC:Hid (Nums (u1.setCell ⟨q,0,none⟩ (.slice (some ⟨y0,1,none⟩) 15 (k0-1))) (R+1) (.slice (some ⟨y1,0,none⟩) 11 k1) H.csr):=D1.out.m.c.put _ _ (fun e=>D1.out.nq q (.inr (.inl e)) rfl)
  have QL:Hid (H.csr.length=11):=D1.out.c11
  have QS:Hid (Src (u1.setCell ⟨q,0,none⟩ (.slice (some ⟨y0,1,none⟩) 15 (k0-1))) b (k'+1) a len cap zs):=src_put D1.out.src _ _ (by show b<q;omega)
  clear hRq hbR hRw
  go_upto_region 15 with fail
  generalize u1.setCell ⟨q,0,none⟩ (.slice (some ⟨y0,1,none⟩) 15 (k0-1))=u4 at*
  clear v0 f0 hk0
  obtain⟨G,hG⟩:∃G,(H:Ht)=G:=⟨_,rfl⟩
  rw[hG]at QV QC QL
  clear hG
  obtain⟨l0,l1,l2,l3,l4,l5,l6,l7,l8⟩:=zc9 QV.out
  obtain⟨r0,r1,r2,r3,r4,r5,r6,r7,r8⟩:=zc9 QR.out
  obtain⟨f0,f1,f2,f3,f4,f5,f6,f7,f8⟩:=zf9 QR.out
  have NN:Hid (_∧_):=nine QR.out (.slice (some ⟨y0,1,none⟩) 15 (k0-1)) (.int .i64 G.pc) (.slice (some ⟨y1,0,none⟩) 11 k1) (.bool G.halted) (.bool G.waiting) (.bool G.rung) (.int .i64 G.done) (.slice a2 n2 k2) (.slice a3 n3 k3)
  go_wp2_with fail
  clear l0 r0 f0 l1 r1 f1 l2 r2 f2 l3 r3 f3 l4 r4 f4 l5 r5 f5 l6 r6 f6 l7 r7 f7 l8 r8 f8
  generalize (((((((((u4.setCell ⟨R,0,none⟩ (.slice (some ⟨y0,1,none⟩) 15 (k0-1))).setCell ⟨R,1,none⟩ (.int .i64 G.pc)).setCell ⟨R,2,none⟩ (.slice (some ⟨y1,0,none⟩) 11 k1)).setCell ⟨R,3,none⟩ (.bool G.halted)).setCell ⟨R,4,none⟩ (.bool G.waiting)).setCell ⟨R,5,none⟩ (.bool G.rung)).setCell ⟨R,6,none⟩ (.int .i64 G.done)).setCell ⟨R,7,none⟩ (.slice a2 n2 k2)).setCell ⟨R,8,none⟩ (.slice a3 n3 k3))=V at*
  obtain⟨x0,x1,x2,x3,x4,x5,x6,x7,x8⟩:=zc9 NN.out.1
  have hb:=D1.out.hb
  have hRR:=D1.out.hR
  have hg:=QG.out.size
  have TV:Turn b w V:=⟨NN.out.2.os.trans QG.out.os,NN.out.2.tape.trans QG.out.tape,NN.out.2.output.trans QG.out.output,Nat.le_trans QG.out.size NN.out.2.size,fun x hx hn=>(NN.out.2.block x (Nat.lt_of_lt_of_le hx QG.out.size) (by omega)).trans (QG.out.block x hx hn)⟩
  exact bodyPost_ret (v:=.agg #[.slice (some ⟨y0,1,none⟩) 15 (k0-1),.int .i64 G.pc,.slice (some ⟨y1,0,none⟩) 11 k1,.bool G.halted,.bool G.waiting,.bool G.rung,.int .i64 G.done,.slice a2 n2 k2,.slice a3 n3 k3]) (by simp[results,Tryz.results48,go_sem,x0,x1,x2,x3,x4,x5,x6,x7,x8]) rfl
   ⟨_,_,_,_,_,_,_,_,_,_,_,_,G,rfl,.inr ⟨rfl,rfl,y1,rfl,QL.out,(NN.out.2.nums QC.out (fun x e f=>by have:=(QC.out.lt x e).1;omega)).mono (by omega)⟩,TV,_,by have:=KB.out;omega,src_mq QS.out NN.out.2 hb⟩
 by_cases e2:x1=2
 ·subst e2
  go_upto_region 8 with fail
  have DR:Hid (Dh w u1.drew b (k'+1) a len cap zs R q (.slice (some ⟨y0,0,none⟩) 16 k0) (.slice (some ⟨y1,0,none⟩) 11 k1) (.slice a2 n2 k2) (.slice a3 n3 k3) H):=D1.out.turn (Turn.of_below (Below.refl _ _).drew) (D1.out.src.turn (Turn.of_below (b:=u1.heap.size) (Below.refl _ _).drew) (Nat.le_refl _))
  refine wp_region_held (S:=fun w'=>w'.cell? ⟨q,2,none⟩=some (.slice (some ⟨y1,0,none⟩) 11 k1)) (by kernel_rfl) ?_
  change wpAnyH _ _ _ _ _ _ _ _ (World.drew _)
  generalize u1.drew=v1 at*
  have SD:Hid (v1.cell? ⟨q,2,none⟩=some (.slice (some ⟨y1,0,none⟩) 11 k1)):=DR.out.var.cell 2 rfl
  refine wpTd 0 21 (.pointer (some ⟨q,2,none⟩)) rfl SD.out ?_
  simp only[Act.put,zT,zZ,zS]
  refine wpTd 1 22 ((.slice (some ⟨y1,0,none⟩) 11 k1)) rfl SD.out ?_
  simp only[Act.put,zT,zZ,zS]
  refine wpTd 2 23 (.pointer (some ⟨b,0,none⟩)) rfl SD.out ?_
  simp only[Act.put,zT,zZ,zS]
  refine wpTd 4 25 (.pointer (some ⟨b,0,none⟩)) rfl SD.out ?_
  simp only[Act.put,zT,zZ,zS]
  clear SD
  refine wpAnyH_ready (rs:=[3,5]) (by kernel_rfl) (by simp) ?_
  refine AllReadyH.cons rfl (fun K hK=>?_) (AllReadyH.cons rfl (fun K hK=>?_) AllReadyH.nil)
  ·skip
   rw[if_pos (by rfl)]
   go_simp
   refine(next_any DR.out.src (by have:=KB.out;have:=HK.out;omega) _).mono ?_
   rintro e u2⟨x2,rfl,hx2, -,t1,s1⟩
   obtain⟨x20,x21⟩:=hx2 (by decide)
   obtain⟨n,rfl⟩:=Int.eq_ofNat_of_zero_le x20
   have HN:Hid (n<11):=by show _<_;omega
   have hn11:(n:Int)<11:=by have:=HN.out;omega
   have D2:=hid (DR.out.turn t1 s1)
   clear t1 s1 hx2 x20 x21
   refine hK.out _ _ (D2.out.var.cell 2 rfl) (fun _=>?_)
   clear hK K
   refine zR 5 rfl fun K hK=>?_
   rw[if_pos (by rfl)]
   go_simp
   have D3:Hid (Dh w (u2.alloc (.cells #[.int .i64 (-1),.int .i64 4,.int .i64 9,.int .i64 4294967296] 2)) b (k'+1+1) a len cap zs R q (.slice (some ⟨y0,0,none⟩) 16 k0) (.slice (some ⟨y1,0,none⟩) 11 k1) (.slice a2 n2 k2) (.slice a3 n3 k3) H):=D2.out.turn (Turn.alloc _ _ _) (D2.out.src.alloc _)
   refine hK.out _ _ (D3.out.var.cell 2 rfl) (fun _=>?_)
   clear hK K
   refine zR 6 rfl fun K hK=>?_
   rw[if_pos (by rfl)]
   go_simp
   refine(pick_any D3.out.src (by have:=KB.out;have:=HK.out;omega) (fun _=>True) _ 4 (by decide) (by decide) (by simp) (by have:=D2.out.src.here;omega) (lits_at _ [-1,4,9,4294967296] _ rfl)).mono ?_
   rintro e u6⟨x6,rfl, -,t1,s1⟩
   have D6:=hid (D3.out.turn t1 s1)
   clear t1 s1
   refine hK.out _ _ (D6.out.var.cell 2 rfl) (fun _=>?_)
   clear hK K
   refine wpTk (i:=7) (v:=.pointer (some ⟨y1,n,none⟩)) rfl (Or.inl ⟨by rfl,fun w' hs=>by go_simp⟩) (D6.out.var.cell 2 rfl) ?_
   change wpAnyH _ _ _ _ _ _ _ (Act.put _ (some 28) _) _
   simp only[Act.put,zT,zZ,zS]
   have cj:=D6.out.m.c.cell D6.out.c11.symm n HN.out
   have fj:=D6.out.m.c.free D6.out.c11.symm n
   have D7:Hid (Dh w (u6.setCell ⟨y1,n,none⟩ (.int .i64 x6)) b (k'+1+1+1) a len cap zs R q (.slice (some ⟨y0,0,none⟩) 16 k0) (.slice (some ⟨y1,0,none⟩) 11 k1) (.slice a2 n2 k2) (.slice a3 n3 k3) { H with csr:=H.csr.set n x6}):=D6.out.csr n x6
   refine zR 8 rfl fun K hK=>?_
   rw[if_pos (by rfl)]
   go_simp
   refine hK.out _ _ (D7.out.var.cell 2 rfl) (fun _=>?_)
   clear hK K
   refine wpAnyH_done (by kernel_rfl) ?_ _
   generalize u6.setCell ⟨y1,n,none⟩ (.int .i64 x6)=u7 at*
   clear cj fj
   go_upto_region 15 with fail
   obtain⟨G,hG⟩:∃G,({ H with csr:=H.csr.set n x6}:Ht)=G:=⟨_,rfl⟩
   rw[hG]at D7
   clear hG
   obtain⟨l0,l1,l2,l3,l4,l5,l6,l7,l8⟩:=zc9 D7.out.var
   obtain⟨r0,r1,r2,r3,r4,r5,r6,r7,r8⟩:=zc9 D7.out.res
   obtain⟨f0,f1,f2,f3,f4,f5,f6,f7,f8⟩:=zf9 D7.out.res
   have NN:Hid (_∧_):=nine D7.out.res (.slice (some ⟨y0,0,none⟩) 16 k0) (.int .i64 G.pc) (.slice (some ⟨y1,0,none⟩) 11 k1) (.bool G.halted) (.bool G.waiting) (.bool G.rung) (.int .i64 G.done) (.slice a2 n2 k2) (.slice a3 n3 k3)
   go_wp2_with fail
   clear l0 r0 f0 l1 r1 f1 l2 r2 f2 l3 r3 f3 l4 r4 f4 l5 r5 f5 l6 r6 f6 l7 r7 f7 l8 r8 f8
   generalize (((((((((u7.setCell ⟨R,0,none⟩ (.slice (some ⟨y0,0,none⟩) 16 k0)).setCell ⟨R,1,none⟩ (.int .i64 G.pc)).setCell ⟨R,2,none⟩ (.slice (some ⟨y1,0,none⟩) 11 k1)).setCell ⟨R,3,none⟩ (.bool G.halted)).setCell ⟨R,4,none⟩ (.bool G.waiting)).setCell ⟨R,5,none⟩ (.bool G.rung)).setCell ⟨R,6,none⟩ (.int .i64 G.done)).setCell ⟨R,7,none⟩ (.slice a2 n2 k2)).setCell ⟨R,8,none⟩ (.slice a3 n3 k3))=V at*
   obtain⟨x0,x1,x2,x3,x4,x5,x6,x7,x8⟩:=zc9 NN.out.1
   have hb:=D7.out.hb
   have hRR:=D7.out.hR
   have hg:=D7.out.g.size
   have TV:Turn b w V:=⟨NN.out.2.os.trans D7.out.g.os,NN.out.2.tape.trans D7.out.g.tape,NN.out.2.output.trans D7.out.g.output,Nat.le_trans D7.out.g.size NN.out.2.size,fun x hx hn=>(NN.out.2.block x (Nat.lt_of_lt_of_le hx D7.out.g.size) (by omega)).trans (D7.out.g.block x hx hn)⟩
   have MV:=NN.out.2.hm D7.out.m (fun x e f=>by have:=(D7.out.m.own x e).1;omega)
   exact bodyPost_ret (v:=.agg #[.slice (some ⟨y0,0,none⟩) 16 k0,.int .i64 G.pc,.slice (some ⟨y1,0,none⟩) 11 k1,.bool G.halted,.bool G.waiting,.bool G.rung,.int .i64 G.done,.slice a2 n2 k2,.slice a3 n3 k3]) (by simp[results,Tryz.results48,go_sem,x0,x1,x2,x3,x4,x5,x6,x7,x8]) rfl
    ⟨_,_,_,_,_,_,_,_,_,_,_,_,G,rfl,.inl ⟨MV.mono (by omega),D7.out.ap⟩,TV,_,by have:=KB.out;omega,src_mq D7.out.src NN.out.2 hb⟩
  ·skip
   rw[if_pos (by rfl)]
   go_simp
   have D2:Hid (Dh w (v1.alloc (.cells #[.int .i64 (-1),.int .i64 4,.int .i64 9,.int .i64 4294967296] 2)) b (k'+1) a len cap zs R q (.slice (some ⟨y0,0,none⟩) 16 k0) (.slice (some ⟨y1,0,none⟩) 11 k1) (.slice a2 n2 k2) (.slice a3 n3 k3) H):=DR.out.turn (Turn.alloc _ _ _) (DR.out.src.alloc _)
   refine hK.out _ _ (D2.out.var.cell 2 rfl) (fun _=>?_)
   clear hK K
   refine zR 3 rfl fun K hK=>?_
   rw[if_pos (by rfl)]
   go_simp
   refine(next_any D2.out.src (by have:=KB.out;have:=HK.out;omega) _).mono ?_
   rintro e u2⟨x2,rfl,hx2, -,t1,s1⟩
   obtain⟨x20,x21⟩:=hx2 (by decide)
   obtain⟨n,rfl⟩:=Int.eq_ofNat_of_zero_le x20
   have HN:Hid (n<11):=by show _<_;omega
   have hn11:(n:Int)<11:=by have:=HN.out;omega
   have D3:=hid (D2.out.turn t1 s1)
   have LF:Hid (∀i,i<4→∃v:Int,u2.cell? ⟨v1.heap.size,i,none⟩=some (.int .i64 v)∧True):=lits_turn t1 (by have:=DR.out.src.here;omega) (lits_at _ [-1,4,9,4294967296] _ rfl)
   have LZ:Hid (v1.heap.size<u2.heap.size):=by have:=t1.size;show _<_;simp at this;omega
   clear t1 s1 hx2 x20 x21
   refine hK.out _ _ (D3.out.var.cell 2 rfl) (fun _=>?_)
   clear hK K
   refine zR 6 rfl fun K hK=>?_
   rw[if_pos (by rfl)]
   go_simp
   refine(pick_any D3.out.src (by have:=KB.out;have:=HK.out;omega) (fun _=>True) _ 4 (by decide) (by decide) LZ.out (by have:=DR.out.src.here;omega) LF.out).mono ?_
   rintro e u6⟨x6,rfl, -,t1,s1⟩
   have D6:=hid (D3.out.turn t1 s1)
   clear t1 s1
   refine hK.out _ _ (D6.out.var.cell 2 rfl) (fun _=>?_)
   clear hK K
   refine wpTk (i:=7) (v:=.pointer (some ⟨y1,n,none⟩)) rfl (Or.inl ⟨by rfl,fun w' hs=>by go_simp⟩) (D6.out.var.cell 2 rfl) ?_
   change wpAnyH _ _ _ _ _ _ _ (Act.put _ (some 28) _) _
   simp only[Act.put,zT,zZ,zS]
   have cj:=D6.out.m.c.cell D6.out.c11.symm n HN.out
   have fj:=D6.out.m.c.free D6.out.c11.symm n
   have D7:Hid (Dh w (u6.setCell ⟨y1,n,none⟩ (.int .i64 x6)) b (k'+1+1+1) a len cap zs R q (.slice (some ⟨y0,0,none⟩) 16 k0) (.slice (some ⟨y1,0,none⟩) 11 k1) (.slice a2 n2 k2) (.slice a3 n3 k3) { H with csr:=H.csr.set n x6}):=D6.out.csr n x6
   refine zR 8 rfl fun K hK=>?_
   rw[if_pos (by rfl)]
   go_simp
   refine hK.out _ _ (D7.out.var.cell 2 rfl) (fun _=>?_)
   clear hK K
   refine wpAnyH_done (by kernel_rfl) ?_ _
   generalize u6.setCell ⟨y1,n,none⟩ (.int .i64 x6)=u7 at*
   clear cj fj
   go_upto_region 15 with fail
   obtain⟨G,hG⟩:∃G,({ H with csr:=H.csr.set n x6}:Ht)=G:=⟨_,rfl⟩
   rw[hG]at D7
   clear hG
   obtain⟨l0,l1,l2,l3,l4,l5,l6,l7,l8⟩:=zc9 D7.out.var
   obtain⟨r0,r1,r2,r3,r4,r5,r6,r7,r8⟩:=zc9 D7.out.res
   obtain⟨f0,f1,f2,f3,f4,f5,f6,f7,f8⟩:=zf9 D7.out.res
   have NN:Hid (_∧_):=nine D7.out.res (.slice (some ⟨y0,0,none⟩) 16 k0) (.int .i64 G.pc) (.slice (some ⟨y1,0,none⟩) 11 k1) (.bool G.halted) (.bool G.waiting) (.bool G.rung) (.int .i64 G.done) (.slice a2 n2 k2) (.slice a3 n3 k3)
   go_wp2_with fail
   clear l0 r0 f0 l1 r1 f1 l2 r2 f2 l3 r3 f3 l4 r4 f4 l5 r5 f5 l6 r6 f6 l7 r7 f7 l8 r8 f8
   generalize (((((((((u7.setCell ⟨R,0,none⟩ (.slice (some ⟨y0,0,none⟩) 16 k0)).setCell ⟨R,1,none⟩ (.int .i64 G.pc)).setCell ⟨R,2,none⟩ (.slice (some ⟨y1,0,none⟩) 11 k1)).setCell ⟨R,3,none⟩ (.bool G.halted)).setCell ⟨R,4,none⟩ (.bool G.waiting)).setCell ⟨R,5,none⟩ (.bool G.rung)).setCell ⟨R,6,none⟩ (.int .i64 G.done)).setCell ⟨R,7,none⟩ (.slice a2 n2 k2)).setCell ⟨R,8,none⟩ (.slice a3 n3 k3))=V at*
   obtain⟨x0,x1,x2,x3,x4,x5,x6,x7,x8⟩:=zc9 NN.out.1
   have hb:=D7.out.hb
   have hRR:=D7.out.hR
   have hg:=D7.out.g.size
   have TV:Turn b w V:=⟨NN.out.2.os.trans D7.out.g.os,NN.out.2.tape.trans D7.out.g.tape,NN.out.2.output.trans D7.out.g.output,Nat.le_trans D7.out.g.size NN.out.2.size,fun x hx hn=>(NN.out.2.block x (Nat.lt_of_lt_of_le hx D7.out.g.size) (by omega)).trans (D7.out.g.block x hx hn)⟩
   have MV:=NN.out.2.hm D7.out.m (fun x e f=>by have:=(D7.out.m.own x e).1;omega)
   exact bodyPost_ret (v:=.agg #[.slice (some ⟨y0,0,none⟩) 16 k0,.int .i64 G.pc,.slice (some ⟨y1,0,none⟩) 11 k1,.bool G.halted,.bool G.waiting,.bool G.rung,.int .i64 G.done,.slice a2 n2 k2,.slice a3 n3 k3]) (by simp[results,Tryz.results48,go_sem,x0,x1,x2,x3,x4,x5,x6,x7,x8]) rfl
    ⟨_,_,_,_,_,_,_,_,_,_,_,_,G,rfl,.inl ⟨MV.mono (by omega),D7.out.ap⟩,TV,_,by have:=KB.out;omega,src_mq D7.out.src NN.out.2 hb⟩
 by_cases e3:x1=3
 ·subst e3
  have D2:Hid (Dh w (u1.alloc (.cells #[.int .i64 (-1),.int .i64 4294967296] 2)) b (k'+1) a len cap zs R q (.slice (some ⟨y0,0,none⟩) 16 k0) (.slice (some ⟨y1,0,none⟩) 11 k1) (.slice a2 n2 k2) (.slice a3 n3 k3) H):=D1.out.turn (Turn.alloc _ _ _) (D1.out.src.alloc _)
  go_wp2_with fail
  refine(pick_any D2.out.src (by have:=KB.out;have:=HK.out;omega) (fun _=>True) _ 2 (by decide) (by decide) (by simp) (by have:=D1.out.src.here;omega) (lits_at _ [-1,4294967296] _ rfl)).mono ?_
  rintro e u3⟨x3,rfl, -,t1,s1⟩
  have D3:=hid (D2.out.turn t1 s1)
  clear t1 s1
  have c:=D3.out.var.cell 1 rfl
  have f:=D3.out.var.free 1
  have D4:Hid (Dh w (u3.setCell ⟨q,1,none⟩ (.int .i64 x3)) b (k'+1+1) a len cap zs R q (.slice (some ⟨y0,0,none⟩) 16 k0) (.slice (some ⟨y1,0,none⟩) 11 k1) (.slice a2 n2 k2) (.slice a3 n3 k3) { H with pc:=x3}):=D3.out.fld 1 _ _ rfl rfl rfl rfl (D3.out.var.set 1 _)
  go_upto_region 15 with fail
  generalize u3.setCell ⟨q,1,none⟩ (.int .i64 x3)=u4 at*
  clear c f
  obtain⟨G,hG⟩:∃G,({ H with pc:=x3}:Ht)=G:=⟨_,rfl⟩
  rw[hG]at D4
  clear hG
  obtain⟨l0,l1,l2,l3,l4,l5,l6,l7,l8⟩:=zc9 D4.out.var
  obtain⟨r0,r1,r2,r3,r4,r5,r6,r7,r8⟩:=zc9 D4.out.res
  obtain⟨f0,f1,f2,f3,f4,f5,f6,f7,f8⟩:=zf9 D4.out.res
  have NN:Hid (_∧_):=nine D4.out.res (.slice (some ⟨y0,0,none⟩) 16 k0) (.int .i64 G.pc) (.slice (some ⟨y1,0,none⟩) 11 k1) (.bool G.halted) (.bool G.waiting) (.bool G.rung) (.int .i64 G.done) (.slice a2 n2 k2) (.slice a3 n3 k3)
  go_wp2_with fail
  clear l0 r0 f0 l1 r1 f1 l2 r2 f2 l3 r3 f3 l4 r4 f4 l5 r5 f5 l6 r6 f6 l7 r7 f7 l8 r8 f8
  generalize (((((((((u4.setCell ⟨R,0,none⟩ (.slice (some ⟨y0,0,none⟩) 16 k0)).setCell ⟨R,1,none⟩ (.int .i64 G.pc)).setCell ⟨R,2,none⟩ (.slice (some ⟨y1,0,none⟩) 11 k1)).setCell ⟨R,3,none⟩ (.bool G.halted)).setCell ⟨R,4,none⟩ (.bool G.waiting)).setCell ⟨R,5,none⟩ (.bool G.rung)).setCell ⟨R,6,none⟩ (.int .i64 G.done)).setCell ⟨R,7,none⟩ (.slice a2 n2 k2)).setCell ⟨R,8,none⟩ (.slice a3 n3 k3))=V at*
  obtain⟨x0,x1,x2,x3,x4,x5,x6,x7,x8⟩:=zc9 NN.out.1
  have hb:=D4.out.hb
  have hRR:=D4.out.hR
  have hg:=D4.out.g.size
  have TV:Turn b w V:=⟨NN.out.2.os.trans D4.out.g.os,NN.out.2.tape.trans D4.out.g.tape,NN.out.2.output.trans D4.out.g.output,Nat.le_trans D4.out.g.size NN.out.2.size,fun x hx hn=>(NN.out.2.block x (Nat.lt_of_lt_of_le hx D4.out.g.size) (by omega)).trans (D4.out.g.block x hx hn)⟩
  have MV:=NN.out.2.hm D4.out.m (fun x e f=>by have:=(D4.out.m.own x e).1;omega)
  exact bodyPost_ret (v:=.agg #[.slice (some ⟨y0,0,none⟩) 16 k0,.int .i64 G.pc,.slice (some ⟨y1,0,none⟩) 11 k1,.bool G.halted,.bool G.waiting,.bool G.rung,.int .i64 G.done,.slice a2 n2 k2,.slice a3 n3 k3]) (by simp[results,Tryz.results48,go_sem,x0,x1,x2,x3,x4,x5,x6,x7,x8]) rfl
   ⟨_,_,_,_,_,_,_,_,_,_,_,_,G,rfl,.inl ⟨MV.mono (by omega),D4.out.ap⟩,TV,_,by have:=KB.out;omega,src_mq D4.out.src NN.out.2 hb⟩
 by_cases e4:x1=4
 ·subst e4
  obtain⟨ti,hi,hz0,hz1,hz2⟩:=info_parts info_i64
  go_upto_region 15 with(at_make;refine wpList_make_full _ rfl _ _ 24 rfl u1.heap.size 2 ti _ 1 Tryz.underlying24 hi hz0 hz1 _ _ _ _ 41 rfl rfl rfl rfl (by rw[hz2];omega) (by unfold maxLen;omega) (Nat.le_refl _) ?_;intro p8 hown hgrow;have bl:Below u1.heap.size u1 p8:=(Below.refl _ _).grown hgrow (Nat.le_refl _) (by simp);have c8:=(D1.out.var.keep bl).cell 7 rfl;have f8:=(D1.out.var.keep bl).free 7)
  have NO:Nums p8 u1.heap.size (.slice (some ⟨u1.heap.size,0,none⟩) 41 41) (List.replicate 41 0):=Nums.made hown (by rw[Nat.mul_one,show(Value.int .i64 0).cells=#[.int .i64 0]from rfl,toList_madeCells_one];simp)
  obtain⟨py,hpy⟩:∃py,u1.heap.size=py:=⟨_,rfl⟩
  have E8:=D1.out.newIn NO bl
  rw[hpy]at E8
  obtain⟨G,hG⟩:∃G,({ H with inn:=List.replicate 41 0}:Ht)=G:=⟨_,rfl⟩
  rw[hG]at E8
  have E9:Hid (Dh w _ b _ a len cap zs R q _ _ _ _ G):=E8
  first|rw[hpy]|skip
  clear hown hgrow c8 f8 NO hi hz0 hz1 hz2 bl E8 hG hpy
  generalize p8.setCell ⟨q,7,none⟩ (.slice (some ⟨py,0,none⟩) 41 41)=u4 at*
  obtain⟨l0,l1,l2,l3,l4,l5,l6,l7,l8⟩:=zc9 E9.out.var
  obtain⟨r0,r1,r2,r3,r4,r5,r6,r7,r8⟩:=zc9 E9.out.res
  obtain⟨f0,f1,f2,f3,f4,f5,f6,f7,f8⟩:=zf9 E9.out.res
  have NN:Hid (_∧_):=nine E9.out.res (.slice (some ⟨y0,0,none⟩) 16 k0) (.int .i64 G.pc) (.slice (some ⟨y1,0,none⟩) 11 k1) (.bool G.halted) (.bool G.waiting) (.bool G.rung) (.int .i64 G.done) (.slice (some ⟨py,0,none⟩) 41 41) (.slice a3 n3 k3)
  go_wp2_with fail
  clear l0 r0 f0 l1 r1 f1 l2 r2 f2 l3 r3 f3 l4 r4 f4 l5 r5 f5 l6 r6 f6 l7 r7 f7 l8 r8 f8
  generalize (((((((((u4.setCell ⟨R,0,none⟩ (.slice (some ⟨y0,0,none⟩) 16 k0)).setCell ⟨R,1,none⟩ (.int .i64 G.pc)).setCell ⟨R,2,none⟩ (.slice (some ⟨y1,0,none⟩) 11 k1)).setCell ⟨R,3,none⟩ (.bool G.halted)).setCell ⟨R,4,none⟩ (.bool G.waiting)).setCell ⟨R,5,none⟩ (.bool G.rung)).setCell ⟨R,6,none⟩ (.int .i64 G.done)).setCell ⟨R,7,none⟩ (.slice (some ⟨py,0,none⟩) 41 41)).setCell ⟨R,8,none⟩ (.slice a3 n3 k3))=V at*
  obtain⟨x0,x1,x2,x3,x4,x5,x6,x7,x8⟩:=zc9 NN.out.1
  have hb:=E9.out.hb
  have hRR:=E9.out.hR
  have hg:=E9.out.g.size
  have TV:Turn b w V:=⟨NN.out.2.os.trans E9.out.g.os,NN.out.2.tape.trans E9.out.g.tape,NN.out.2.output.trans E9.out.g.output,Nat.le_trans E9.out.g.size NN.out.2.size,fun x hx hn=>(NN.out.2.block x (Nat.lt_of_lt_of_le hx E9.out.g.size) (by omega)).trans (E9.out.g.block x hx hn)⟩
  have MV:=NN.out.2.hm E9.out.m (fun x e f=>by have:=(E9.out.m.own x e).1;omega)
  exact bodyPost_ret (v:=.agg #[.slice (some ⟨y0,0,none⟩) 16 k0,.int .i64 G.pc,.slice (some ⟨y1,0,none⟩) 11 k1,.bool G.halted,.bool G.waiting,.bool G.rung,.int .i64 G.done,.slice (some ⟨py,0,none⟩) 41 41,.slice a3 n3 k3]) (by simp[results,Tryz.results48,go_sem,x0,x1,x2,x3,x4,x5,x6,x7,x8]) rfl
   ⟨_,_,_,_,_,_,_,_,_,_,_,_,G,rfl,.inl ⟨MV.mono (by omega),E9.out.ap⟩,TV,_,by have:=KB.out;omega,src_mq E9.out.src NN.out.2 hb⟩
 by_cases e5:x1=5
 ·subst e5
  have D2:Hid (Dh w (u1.alloc (.cells #[.int .i64 (-1),.int .i64 1000000000,.int .i64 1000000001] 2)) b (k'+1) a len cap zs R q (.slice (some ⟨y0,0,none⟩) 16 k0) (.slice (some ⟨y1,0,none⟩) 11 k1) (.slice a2 n2 k2) (.slice a3 n3 k3) H):=D1.out.turn (Turn.alloc _ _ _) (D1.out.src.alloc _)
  go_wp2_with fail
  refine(pick_any D2.out.src (by have:=KB.out;have:=HK.out;omega) (fun _=>True) _ 3 (by decide) (by decide) (by simp) (by have:=D1.out.src.here;omega) (lits_at _ [-1,1000000000,1000000001] _ rfl)).mono ?_
  rintro e u3⟨x3,rfl, -,t1,s1⟩
  have D3:=hid (D2.out.turn t1 s1)
  clear t1 s1
  have c:=D3.out.var.cell 6 rfl
  have f:=D3.out.var.free 6
  have D4:Hid (Dh w (u3.setCell ⟨q,6,none⟩ (.int .i64 x3)) b (k'+1+1) a len cap zs R q (.slice (some ⟨y0,0,none⟩) 16 k0) (.slice (some ⟨y1,0,none⟩) 11 k1) (.slice a2 n2 k2) (.slice a3 n3 k3) { H with done:=x3}):=D3.out.fld 6 _ _ rfl rfl rfl rfl (D3.out.var.set 6 _)
  go_upto_region 15 with fail
  generalize u3.setCell ⟨q,6,none⟩ (.int .i64 x3)=u4 at*
  clear c f
  obtain⟨G,hG⟩:∃G,({ H with done:=x3}:Ht)=G:=⟨_,rfl⟩
  rw[hG]at D4
  clear hG
  obtain⟨l0,l1,l2,l3,l4,l5,l6,l7,l8⟩:=zc9 D4.out.var
  obtain⟨r0,r1,r2,r3,r4,r5,r6,r7,r8⟩:=zc9 D4.out.res
  obtain⟨f0,f1,f2,f3,f4,f5,f6,f7,f8⟩:=zf9 D4.out.res
  have NN:Hid (_∧_):=nine D4.out.res (.slice (some ⟨y0,0,none⟩) 16 k0) (.int .i64 G.pc) (.slice (some ⟨y1,0,none⟩) 11 k1) (.bool G.halted) (.bool G.waiting) (.bool G.rung) (.int .i64 G.done) (.slice a2 n2 k2) (.slice a3 n3 k3)
  go_wp2_with fail
  clear l0 r0 f0 l1 r1 f1 l2 r2 f2 l3 r3 f3 l4 r4 f4 l5 r5 f5 l6 r6 f6 l7 r7 f7 l8 r8 f8
  generalize (((((((((u4.setCell ⟨R,0,none⟩ (.slice (some ⟨y0,0,none⟩) 16 k0)).setCell ⟨R,1,none⟩ (.int .i64 G.pc)).setCell ⟨R,2,none⟩ (.slice (some ⟨y1,0,none⟩) 11 k1)).setCell ⟨R,3,none⟩ (.bool G.halted)).setCell ⟨R,4,none⟩ (.bool G.waiting)).setCell ⟨R,5,none⟩ (.bool G.rung)).setCell ⟨R,6,none⟩ (.int .i64 G.done)).setCell ⟨R,7,none⟩ (.slice a2 n2 k2)).setCell ⟨R,8,none⟩ (.slice a3 n3 k3))=V at*
  obtain⟨x0,x1,x2,x3,x4,x5,x6,x7,x8⟩:=zc9 NN.out.1
  have hb:=D4.out.hb
  have hRR:=D4.out.hR
  have hg:=D4.out.g.size
  have TV:Turn b w V:=⟨NN.out.2.os.trans D4.out.g.os,NN.out.2.tape.trans D4.out.g.tape,NN.out.2.output.trans D4.out.g.output,Nat.le_trans D4.out.g.size NN.out.2.size,fun x hx hn=>(NN.out.2.block x (Nat.lt_of_lt_of_le hx D4.out.g.size) (by omega)).trans (D4.out.g.block x hx hn)⟩
  have MV:=NN.out.2.hm D4.out.m (fun x e f=>by have:=(D4.out.m.own x e).1;omega)
  exact bodyPost_ret (v:=.agg #[.slice (some ⟨y0,0,none⟩) 16 k0,.int .i64 G.pc,.slice (some ⟨y1,0,none⟩) 11 k1,.bool G.halted,.bool G.waiting,.bool G.rung,.int .i64 G.done,.slice a2 n2 k2,.slice a3 n3 k3]) (by simp[results,Tryz.results48,go_sem,x0,x1,x2,x3,x4,x5,x6,x7,x8]) rfl
   ⟨_,_,_,_,_,_,_,_,_,_,_,_,G,rfl,.inl ⟨MV.mono (by omega),D4.out.ap⟩,TV,_,by have:=KB.out;omega,src_mq D4.out.src NN.out.2 hb⟩
 go_upto_region 15 with fail
 obtain⟨G,hG⟩:∃G,(H:Ht)=G:=⟨_,rfl⟩
 rw[hG]at D1
 clear hG
 obtain⟨l0,l1,l2,l3,l4,l5,l6,l7,l8⟩:=zc9 D1.out.var
 obtain⟨r0,r1,r2,r3,r4,r5,r6,r7,r8⟩:=zc9 D1.out.res
 obtain⟨f0,f1,f2,f3,f4,f5,f6,f7,f8⟩:=zf9 D1.out.res
 have NN:Hid (_∧_):=nine D1.out.res (.slice (some ⟨y0,0,none⟩) 16 k0) (.int .i64 G.pc) (.slice (some ⟨y1,0,none⟩) 11 k1) (.bool G.halted) (.bool G.waiting) (.bool G.rung) (.int .i64 G.done) (.slice a2 n2 k2) (.slice a3 n3 k3)
 go_wp2_with fail
 clear l0 r0 f0 l1 r1 f1 l2 r2 f2 l3 r3 f3 l4 r4 f4 l5 r5 f5 l6 r6 f6 l7 r7 f7 l8 r8 f8
 generalize (((((((((u1.setCell ⟨R,0,none⟩ (.slice (some ⟨y0,0,none⟩) 16 k0)).setCell ⟨R,1,none⟩ (.int .i64 G.pc)).setCell ⟨R,2,none⟩ (.slice (some ⟨y1,0,none⟩) 11 k1)).setCell ⟨R,3,none⟩ (.bool G.halted)).setCell ⟨R,4,none⟩ (.bool G.waiting)).setCell ⟨R,5,none⟩ (.bool G.rung)).setCell ⟨R,6,none⟩ (.int .i64 G.done)).setCell ⟨R,7,none⟩ (.slice a2 n2 k2)).setCell ⟨R,8,none⟩ (.slice a3 n3 k3))=V at*
 obtain⟨x0,x1,x2,x3,x4,x5,x6,x7,x8⟩:=zc9 NN.out.1
 have hb:=D1.out.hb
 have hRR:=D1.out.hR
 have hg:=D1.out.g.size
 have TV:Turn b w V:=⟨NN.out.2.os.trans D1.out.g.os,NN.out.2.tape.trans D1.out.g.tape,NN.out.2.output.trans D1.out.g.output,Nat.le_trans D1.out.g.size NN.out.2.size,fun x hx hn=>(NN.out.2.block x (Nat.lt_of_lt_of_le hx D1.out.g.size) (by omega)).trans (D1.out.g.block x hx hn)⟩
 have MV:=NN.out.2.hm D1.out.m (fun x e f=>by have:=(D1.out.m.own x e).1;omega)
 exact bodyPost_ret (v:=.agg #[.slice (some ⟨y0,0,none⟩) 16 k0,.int .i64 G.pc,.slice (some ⟨y1,0,none⟩) 11 k1,.bool G.halted,.bool G.waiting,.bool G.rung,.int .i64 G.done,.slice a2 n2 k2,.slice a3 n3 k3]) (by simp[results,Tryz.results48,go_sem,x0,x1,x2,x3,x4,x5,x6,x7,x8]) rfl
  ⟨_,_,_,_,_,_,_,_,_,_,_,_,G,rfl,.inl ⟨MV.mono (by omega),D1.out.ap⟩,TV,_,by have:=KB.out;omega,src_mq D1.out.src NN.out.2 hb⟩
def Hz(w:World)(base:Nat)(a0:Option Addr)(m0 k0:Nat)(a1:Option Addr)(m1 k1:Nat)(a2:Option Addr)(m2 k2:Nat)(a3:Option Addr)(m3 k3:Nat)(H:Ht):Prop:=
 (Hm w base (.slice a0 m0 k0) (.slice a1 m1 k1) (.slice a2 m2 k2) (.slice a3 m3 k3) H∧Ha (.slice a0 m0 k0) (.slice a1 m1 k1) (.slice a2 m2 k2) (.slice a3 m3 k3))∨(m0=15∧m1=11∧∃y,a1=some ⟨y,0,none⟩∧H.csr.length=11∧Nums w base (.slice (some ⟨y,0,none⟩) 11 k1) H.csr)
theorem Hz.mq{S:Nat→Prop}{w w':World}{base:Nat}{a0:Option Addr}{m0 k0:Nat}{a1:Option Addr}{m1 k1:Nat}{a2:Option Addr}{m2 k2:Nat}{a3:Option Addr}{m3 k3:Nat}{H:Ht}(h:Hz w base a0 m0 k0 a1 m1 k1 a2 m2 k2 a3 m3 k3 H)(m:Mq S w w')(hn:∀k,base≤k→k<w.heap.size→¬S k):Hz w' base a0 m0 k0 a1 m1 k1 a2 m2 k2 a3 m3 k3 H:=by
 rcases h with⟨h,g⟩|⟨e0,e1,y,e2,hl,h⟩
 ·exact .inl ⟨m.hm h (fun k e=>hn k (h.own k e).1 (h.own k e).2),g⟩
 ·exact .inr ⟨e0,e1,y,e2,hl,m.nums h (fun k e=>hn k (h.lt k e).1 (h.lt k e).2)⟩
theorem Hz.turn{w w':World}{base b:Nat}{a0:Option Addr}{m0 k0:Nat}{a1:Option Addr}{m1 k1:Nat}{a2:Option Addr}{m2 k2:Nat}{a3:Option Addr}{m3 k3:Nat}{H:Ht}(h:Hz w base a0 m0 k0 a1 m1 k1 a2 m2 k2 a3 m3 k3 H)(t:Turn b w w')(hb:b<base):Hz w' base a0 m0 k0 a1 m1 k1 a2 m2 k2 a3 m3 k3 H:=h.mq (turn_mq t) (fun k e _ f=>by omega)
theorem Hz.mono{w:World}{base base':Nat}{a0:Option Addr}{m0 k0:Nat}{a1:Option Addr}{m1 k1:Nat}{a2:Option Addr}{m2 k2:Nat}{a3:Option Addr}{m3 k3:Nat}{H:Ht}(h:Hz w base a0 m0 k0 a1 m1 k1 a2 m2 k2 a3 m3 k3 H)(hb:base'≤base):Hz w base' a0 m0 k0 a1 m1 k1 a2 m2 k2 a3 m3 k3 H:=by
 rcases h with⟨h,g⟩|⟨e0,e1,y,e2,hl,h⟩
 ·exact .inl ⟨h.mono hb,g⟩
 ·exact .inr ⟨e0,e1,y,e2,hl,h.mono hb⟩
theorem Hz.store{w:World}{base:Nat}{a0:Option Addr}{m0 k0:Nat}{a1:Option Addr}{m1 k1:Nat}{a2:Option Addr}{m2 k2:Nat}{a3:Option Addr}{m3 k3:Nat}{H:Ht}(h:Hz w base a0 m0 k0 a1 m1 k1 a2 m2 k2 a3 m3 k3 H)(h1:m1=11):
  ∃y,a1=some ⟨y,0,none⟩∧base≤y∧y<w.heap.size∧(∃z,w.cell? ⟨y,10,none⟩=some (.int .i64 z))∧w.frozen? ⟨y,10,none⟩=false∧11≤k1∧Hz (w.setCell ⟨y,10,none⟩ (.int .i64 2)) base a0 m0 k0 a1 m1 k1 a2 m2 k2 a3 m3 k3 { H with csr:=H.csr.set 10 2}:=by
 subst h1
 rcases h with⟨h,g⟩|⟨e0,_,y,rfl,hl,h⟩
 ·have hc:=h.c
  have hl:H.csr.length=11:=hc.len.symm
  obtain⟨a,c,hv,hc1,_,hg⟩:=hc.shape
  obtain⟨y,rfl⟩:=hg (by omega)
  rw[hl]at hv hc1
  simp only[Value.slice.injEq]at hv
  obtain⟨rfl, -,rfl⟩:=hv
  have hy:=hc.lt y rfl
  exact⟨y,rfl,hy.1,hy.2,⟨_,hc.cell hl.symm 10 (by decide)⟩,hc.free hl.symm 10,hc1,.inl ⟨⟨h.r.put _ _ (apt_ne g.rc.swap rfl),(hc.store 10 2).1,h.i.put _ _ (apt_ne g.ci rfl),h.o.put _ _ (apt_ne g.co rfl)⟩,g⟩⟩
 ·have hy:=h.lt y rfl
  exact⟨y,rfl,hy.1,hy.2,⟨_,h.cell hl.symm 10 (by decide)⟩,h.free hl.symm 10,h.lens.1,.inr ⟨e0,rfl,y,rfl,by simpa using hl,(h.store 10 2).1⟩⟩
theorem Drawn8.mq{S:Nat→Prop}{w w':World}{base:Nat}{v:Value}(h:Drawn8 w base v)(m:Mq S w w')(hn:∀k,base≤k→k<w.heap.size→¬S k):Drawn8 w' base v:=by
 have g:∀{u:Value} {rs:List (Int×Int)},Prs 36 w base u rs→Prs 36 w' base u rs:=fun{u rs} k=>by
  have hl:=k.lt
  obtain⟨h1,h2|⟨g,cap,cur,hv,hg,hr,rest⟩⟩:=k
  ·exact⟨h1,.inl h2⟩
  ·refine⟨h1,.inr ⟨g,cap,cur,hv,hg,?_,rest⟩⟩
   have hh:=hl g (by rw[hv];rfl)
   rw[m.block g hh.2 (hn g hh.1 hh.2)]
   exact hr
 rcases h with⟨rs,h,hl⟩|⟨x,yc,c2,rs,rfl,h,hl⟩
 ·exact .inl ⟨rs,g h,hl⟩
 ·exact .inr ⟨x,yc,c2,rs,rfl,g h,hl⟩
theorem put_mq(w:World)(y j:Nat)(u:Value):Mq (fun k=>k=y) w (w.setCell ⟨y,j,none⟩ u):=(Mq.refl _ w).set _ _ rfl
theorem drawnM_mq{w w':World}{base base' R:Nat}{v:Value}(h:DrawnM w base v)(m:Mq (fun k=>k=R) w w')(hn:R<base)(hb:base'≤base):DrawnM w' base' v:=by
 rcases h with⟨zs,h,hl⟩|h
 ·exact .inl ⟨zs,(m.nums h (fun k e f=>by have:=(h.lt k e).1;omega)).mono hb,hl⟩
 ·exact .inr h
theorem field_memW(x y:Value)(w:World):(Instr.field 97 (.agg #[x,y]) 1).run Tryz.prog w=.ok y w:=by kernel_rfl
theorem world_any(s:Src w b k a len cap zs)(hk:k≤1000):
  Calls Tryz.prog 24 #[.pointer (some ⟨b,0,none⟩)] w fun e w'=>∃a0 m0 k0 a1 m1 k1 a2 m2 k2 a3 m3 k3 H vl vm,e=.returned (.tuple #[.agg #[.slice a0 m0 k0,.int .i64 H.pc,.slice a1 m1 k1,.bool H.halted,.bool H.waiting,.bool H.rung,.int .i64 H.done,.slice a2 m2 k2,.slice a3 m3 k3],vl,vm])∧Hz w' w.heap.size a0 m0 k0 a1 m1 k1 a2 m2 k2 a3 m3 k3 H∧Drawn8 w' w.heap.size vl∧DrawnM w' w.heap.size vm∧Turn b w w'∧∃k',k'≤10000∧Src w' b k' a len cap zs:=by
 have HK:=hid hk
 obtain⟨R,hR⟩:∃R,w.heap.size=R:=⟨_,rfl⟩
 have HR:=hid hR
 have BR:Hid (b<R):=by show _<_;rw[←hR];exact s.here
 generalize hW:w.alloc (.cells #[.slice none 0 0,.int .i64 0,.slice none 0 0,.bool false,.bool false,.bool false,.int .i64 0,.slice none 0 0,.slice none 0 0] 26)=W
 have VR:Hid (Vb W R #[.slice none 0 0,.int .i64 0,.slice none 0 0,.bool false,.bool false,.bool false,.int .i64 0,.slice none 0 0,.slice none 0 0] 26):=by show Vb _ _ _ _;rw[←hW,←hR];exact Vb.new _ _ _
 have SW:Hid (Src W b k a len cap zs):=by show Src _ _ _ _ _ _ _;rw[←hW];exact s.alloc _
 have TW:Hid (Turn b w W):=by show Turn _ _ _;rw[←hW];exact Turn.alloc _ _ _
 have LW:Hid (R<W.heap.size):=VR.out.lt
 clear s
 go_enter Tryz.func24,Tryz.ntmps24
 go_wp2_with fail
 clear hW hR
 refine(hbent_csr SW.out (by have:=HK.out;omega)).mono ?_
 rintro e w2⟨a0,m0,k0,a1,m1,k1,a2,m2,k2,a3,m3,k3,H,rfl,hd,t2,kA,hkA,s2⟩
 have KA:=hid hkA
 obtain⟨q,hq⟩:∃q,w2.heap.size=q:=⟨_,rfl⟩
 obtain⟨W2,hW2⟩:∃W2,w2.alloc (.cells #[.slice a0 m0 k0,.int .i64 H.pc,.slice a1 m1 k1,.bool H.halted,.bool H.waiting,.bool H.rung,.int .i64 H.done,.slice a2 m2 k2,.slice a3 m3 k3] 26)=W2:=⟨_,rfl⟩
 have tA:Turn b w2 W2:=by rw[←hW2];exact Turn.alloc _ _ _
 have H2:Hid (Hz W2 W.heap.size a0 m0 k0 a1 m1 k1 a2 m2 k2 a3 m3 k3 H):=(show Hz w2 W.heap.size a0 m0 k0 a1 m1 k1 a2 m2 k2 a3 m3 k3 H from hd).turn tA (by have:=BR.out;have:=LW.out;omega)
 have H0:Hid (∀y,a1=some ⟨y,0,none⟩→m1=11→y<q):=fun y e1 e2=>by
  obtain⟨y',e',_,hy',_⟩:=(show Hz w2 W.heap.size a0 m0 k0 a1 m1 k1 a2 m2 k2 a3 m3 k3 H from hd).store e2
  rw[e1]at e'
  simp only[Option.some.injEq,Addr.mk.injEq]at e'
  obtain⟨rfl, -⟩:=e'
  rw[←hq];exact hy'
 have V2:Hid (Vb W2 q #[.slice a0 m0 k0,.int .i64 H.pc,.slice a1 m1 k1,.bool H.halted,.bool H.waiting,.bool H.rung,.int .i64 H.done,.slice a2 m2 k2,.slice a3 m3 k3] 26):=by show Vb _ _ _ _;rw[←hW2,←hq];exact Vb.new _ _ _
 have R2:Hid (Vb W2 R #[.slice none 0 0,.int .i64 0,.slice none 0 0,.bool false,.bool false,.bool false,.int .i64 0,.slice none 0 0,.slice none 0 0] 26):=(turn_mq tA).vb ((turn_mq t2).vb VR.out (by have:=BR.out;omega)) (by have:=BR.out;omega)
 have T2:Hid (Turn b w W2):=(TW.out.trans t2).trans tA
 have S2:Hid (Src W2 b kA a len cap zs):=by show Src _ _ _ _ _ _ _;rw[←hW2];exact s2.alloc _
 have LQ:Hid (W.heap.size≤q∧q<W2.heap.size∧b<W.heap.size∧R<W.heap.size):=⟨by have:=t2.size;omega,V2.out.lt,by have:=BR.out;have:=LW.out;omega,LW.out⟩
 clear hd t2 hkA s2 tA
 go_wp2_with fail
 try rw[hW2]
 try rw[hq]
 clear hW2 hq
 refine(bent_rows S2.out (by have:=KA.out;have:=HK.out;omega) 6).mono ?_
 rintro e w3⟨vl,kB,rfl,dl,hkB,t3,s3⟩
 have L3:=hid dl
 have T3:=hid t3
 have S3:=hid s3
 have KB:Hid (kB≤k+1200):=by have:=KA.out;show _≤_;omega
 clear dl hkB t3 s3
 go_wp2_with fail
 refine(chance_any S3.out (by have:=KB.out;have:=HK.out;omega) _).mono ?_
 rintro e w4⟨c4,rfl,t4,s4⟩
 have L4:Hid (Drawn8 w4 W2.heap.size vl):=L3.out.turn t4 (by have:=LQ.out;omega)
 have T4:Hid (Turn b W2 w4):=T3.out.trans t4
 have S4:=hid s4
 clear t4 s4
 go_upto_if 18 with fail
 go_cut [7]from 19 to 30 (fun c wx=>Drawn8 wx W2.heap.size vl∧Turn b W2 wx∧Src wx b (kB+1) a len cap zs)
 case first=>
  cases c4
  ·rcases L4.out with⟨rs,hP,hl⟩|⟨g,yc,c2,rs,rfl,hP,hl⟩
   ·obtain⟨ya,yc,hv,l1,l2,hg⟩:=hP.shape
    rw[hl]at hv l1 hg
    obtain⟨g,rfl⟩:=hg (by omega)
    subst hv
    have P4:Hid (Prs 36 w4 W2.heap.size (.slice (some ⟨g,0,none⟩) 8 yc) rs∧rs.length=8):=⟨hP,hl⟩
    clear hP hl hg l1 l2 L3 L4
    go_wp2_with fail
    go_loopw [7] (fun c wr=>∃(j:Nat) (rs:List (Int×Int)),j≤5∧c=.int .i64 (j:Int)∧rs.length=8∧Prs 36 wr W2.heap.size (.slice (some ⟨g,0,none⟩) 8 yc) rs∧Turn b W2 wr∧Src wr b (kB+1) a len cap zs) (fun c _=>5-(intOf c).toNat)
    case atStart=>exact⟨0,rs,by omega,rfl,P4.out.2,P4.out.1,T4.out,S4.out⟩
    case round=>
     obtain⟨j,qs,hj,rfl,hqs,hP,hT,hS⟩:=hrel
     have PJ:=hid hP
     have TJ:=hid hT
     have SJ:=hid hS
     have LJ:=hid hqs
     have GB:Hid (W2.heap.size≤g):=(hP.lt g rfl).1
     clear hP hT hS hqs
     have e:j=0∨j=1∨j=2∨j=3∨j=4∨j=5:=by omega
     clear hj
     rcases e with rfl|rfl|rfl|rfl|rfl|rfl
     ·have c0:wr.cell? ⟨g,0,none⟩=some (.int .i64 _):=(PJ.out.cell LJ.out.symm 0 (by decide)).1
      have c1:wr.cell? ⟨g,1,none⟩=some (.int .i64 _):=(PJ.out.cell LJ.out.symm 0 (by decide)).2
      have f0:=PJ.out.free LJ.out.symm 0
      have f1:=PJ.out.free LJ.out.symm 1
      go_wp2_with fail
      go_roundw
      case rel=>
       refine⟨1,qs.set 0 (0,7),by omega,by go_num,by rw[List.length_set];exact LJ.out,PJ.out.store LJ.out.symm 0 0 7 (by decide),turn_put (turn_put TJ.out _ _ GB.out) _ _ GB.out,src_put (src_put SJ.out _ _ ?_) _ _ ?_⟩
       all_goals (show b<g;have:=GB.out;have:=LQ.out;omega)
      case measure=>simp[intOf]
     ·have c0:wr.cell? ⟨g,2,none⟩=some (.int .i64 _):=(PJ.out.cell LJ.out.symm 1 (by decide)).1
      have c1:wr.cell? ⟨g,3,none⟩=some (.int .i64 _):=(PJ.out.cell LJ.out.symm 1 (by decide)).2
      have f0:=PJ.out.free LJ.out.symm 2
      have f1:=PJ.out.free LJ.out.symm 3
      go_wp2_with fail
      go_roundw
      case rel=>
       refine⟨2,qs.set 1 (1,7),by omega,by go_num,by rw[List.length_set];exact LJ.out,PJ.out.store LJ.out.symm 1 1 7 (by decide),turn_put (turn_put TJ.out _ _ GB.out) _ _ GB.out,src_put (src_put SJ.out _ _ ?_) _ _ ?_⟩
       all_goals (show b<g;have:=GB.out;have:=LQ.out;omega)
      case measure=>simp[intOf]
     ·have c0:wr.cell? ⟨g,4,none⟩=some (.int .i64 _):=(PJ.out.cell LJ.out.symm 2 (by decide)).1
      have c1:wr.cell? ⟨g,5,none⟩=some (.int .i64 _):=(PJ.out.cell LJ.out.symm 2 (by decide)).2
      have f0:=PJ.out.free LJ.out.symm 4
      have f1:=PJ.out.free LJ.out.symm 5
      go_wp2_with fail
      go_roundw
      case rel=>
       refine⟨3,qs.set 2 (2,7),by omega,by go_num,by rw[List.length_set];exact LJ.out,PJ.out.store LJ.out.symm 2 2 7 (by decide),turn_put (turn_put TJ.out _ _ GB.out) _ _ GB.out,src_put (src_put SJ.out _ _ ?_) _ _ ?_⟩
       all_goals (show b<g;have:=GB.out;have:=LQ.out;omega)
      case measure=>simp[intOf]
     ·have c0:wr.cell? ⟨g,6,none⟩=some (.int .i64 _):=(PJ.out.cell LJ.out.symm 3 (by decide)).1
      have c1:wr.cell? ⟨g,7,none⟩=some (.int .i64 _):=(PJ.out.cell LJ.out.symm 3 (by decide)).2
      have f0:=PJ.out.free LJ.out.symm 6
      have f1:=PJ.out.free LJ.out.symm 7
      go_wp2_with fail
      go_roundw
      case rel=>
       refine⟨4,qs.set 3 (3,7),by omega,by go_num,by rw[List.length_set];exact LJ.out,PJ.out.store LJ.out.symm 3 3 7 (by decide),turn_put (turn_put TJ.out _ _ GB.out) _ _ GB.out,src_put (src_put SJ.out _ _ ?_) _ _ ?_⟩
       all_goals (show b<g;have:=GB.out;have:=LQ.out;omega)
      case measure=>simp[intOf]
     ·have c0:wr.cell? ⟨g,8,none⟩=some (.int .i64 _):=(PJ.out.cell LJ.out.symm 4 (by decide)).1
      have c1:wr.cell? ⟨g,9,none⟩=some (.int .i64 _):=(PJ.out.cell LJ.out.symm 4 (by decide)).2
      have f0:=PJ.out.free LJ.out.symm 8
      have f1:=PJ.out.free LJ.out.symm 9
      go_wp2_with fail
      go_roundw
      case rel=>
       refine⟨5,qs.set 4 (4,7),by omega,by go_num,by rw[List.length_set];exact LJ.out,PJ.out.store LJ.out.symm 4 4 7 (by decide),turn_put (turn_put TJ.out _ _ GB.out) _ _ GB.out,src_put (src_put SJ.out _ _ ?_) _ _ ?_⟩
       all_goals (show b<g;have:=GB.out;have:=LQ.out;omega)
      case measure=>simp[intOf]
     ·go_wp2_with fail
      go_meet
      case rel=>exact⟨.inl ⟨_,PJ.out,LJ.out⟩,TJ.out,SJ.out⟩
   ·have P4:Hid (Prs 36 w4 W2.heap.size (.slice (some ⟨g,0,none⟩) 8 yc) rs∧rs.length=8):=⟨hP,hl⟩
    clear hP hl L3 L4
    go_wp2_with fail
    go_loopw [7] (fun c wr=>∃(j:Nat) (rs:List (Int×Int)),j≤5∧c=.int .i64 (j:Int)∧rs.length=8∧Prs 36 wr W2.heap.size (.slice (some ⟨g,0,none⟩) 8 yc) rs∧Turn b W2 wr∧Src wr b (kB+1) a len cap zs) (fun c _=>5-(intOf c).toNat)
    case atStart=>exact⟨0,rs,by omega,rfl,P4.out.2,P4.out.1,T4.out,S4.out⟩
    case round=>
     obtain⟨j,qs,hj,rfl,hqs,hP,hT,hS⟩:=hrel
     have PJ:=hid hP
     have TJ:=hid hT
     have SJ:=hid hS
     have LJ:=hid hqs
     have GB:Hid (W2.heap.size≤g):=(hP.lt g rfl).1
     clear hP hT hS hqs
     have e:j=0∨j=1∨j=2∨j=3∨j=4∨j=5:=by omega
     clear hj
     rcases e with rfl|rfl|rfl|rfl|rfl|rfl
     ·have c0:wr.cell? ⟨g,2,none⟩=some (.int .i64 _):=(PJ.out.cell LJ.out.symm 1 (by decide)).1
      have c1:wr.cell? ⟨g,3,none⟩=some (.int .i64 _):=(PJ.out.cell LJ.out.symm 1 (by decide)).2
      have f0:=PJ.out.free LJ.out.symm 2
      have f1:=PJ.out.free LJ.out.symm 3
      go_wp2_with fail
      go_roundw
      case rel=>
       refine⟨1,qs.set 1 (0,7),by omega,by go_num,by rw[List.length_set];exact LJ.out,PJ.out.store LJ.out.symm 1 0 7 (by decide),turn_put (turn_put TJ.out _ _ GB.out) _ _ GB.out,src_put (src_put SJ.out _ _ ?_) _ _ ?_⟩
       all_goals (show b<g;have:=GB.out;have:=LQ.out;omega)
      case measure=>simp[intOf]
     ·have c0:wr.cell? ⟨g,4,none⟩=some (.int .i64 _):=(PJ.out.cell LJ.out.symm 2 (by decide)).1
      have c1:wr.cell? ⟨g,5,none⟩=some (.int .i64 _):=(PJ.out.cell LJ.out.symm 2 (by decide)).2
      have f0:=PJ.out.free LJ.out.symm 4
      have f1:=PJ.out.free LJ.out.symm 5
      go_wp2_with fail
      go_roundw
      case rel=>
       refine⟨2,qs.set 2 (1,7),by omega,by go_num,by rw[List.length_set];exact LJ.out,PJ.out.store LJ.out.symm 2 1 7 (by decide),turn_put (turn_put TJ.out _ _ GB.out) _ _ GB.out,src_put (src_put SJ.out _ _ ?_) _ _ ?_⟩
       all_goals (show b<g;have:=GB.out;have:=LQ.out;omega)
      case measure=>simp[intOf]
     ·have c0:wr.cell? ⟨g,6,none⟩=some (.int .i64 _):=(PJ.out.cell LJ.out.symm 3 (by decide)).1
      have c1:wr.cell? ⟨g,7,none⟩=some (.int .i64 _):=(PJ.out.cell LJ.out.symm 3 (by decide)).2
      have f0:=PJ.out.free LJ.out.symm 6
      have f1:=PJ.out.free LJ.out.symm 7
      go_wp2_with fail
      go_roundw
      case rel=>
       refine⟨3,qs.set 3 (2,7),by omega,by go_num,by rw[List.length_set];exact LJ.out,PJ.out.store LJ.out.symm 3 2 7 (by decide),turn_put (turn_put TJ.out _ _ GB.out) _ _ GB.out,src_put (src_put SJ.out _ _ ?_) _ _ ?_⟩
       all_goals (show b<g;have:=GB.out;have:=LQ.out;omega)
      case measure=>simp[intOf]
     ·have c0:wr.cell? ⟨g,8,none⟩=some (.int .i64 _):=(PJ.out.cell LJ.out.symm 4 (by decide)).1
      have c1:wr.cell? ⟨g,9,none⟩=some (.int .i64 _):=(PJ.out.cell LJ.out.symm 4 (by decide)).2
      have f0:=PJ.out.free LJ.out.symm 8
      have f1:=PJ.out.free LJ.out.symm 9
      go_wp2_with fail
      go_roundw
      case rel=>
       refine⟨4,qs.set 4 (3,7),by omega,by go_num,by rw[List.length_set];exact LJ.out,PJ.out.store LJ.out.symm 4 3 7 (by decide),turn_put (turn_put TJ.out _ _ GB.out) _ _ GB.out,src_put (src_put SJ.out _ _ ?_) _ _ ?_⟩
       all_goals (show b<g;have:=GB.out;have:=LQ.out;omega)
      case measure=>simp[intOf]
     ·have c0:wr.cell? ⟨g,10,none⟩=some (.int .i64 _):=(PJ.out.cell LJ.out.symm 5 (by decide)).1
      have c1:wr.cell? ⟨g,11,none⟩=some (.int .i64 _):=(PJ.out.cell LJ.out.symm 5 (by decide)).2
      have f0:=PJ.out.free LJ.out.symm 10
      have f1:=PJ.out.free LJ.out.symm 11
      go_wp2_with fail
      go_roundw
      case rel=>
       refine⟨5,qs.set 5 (4,7),by omega,by go_num,by rw[List.length_set];exact LJ.out,PJ.out.store LJ.out.symm 5 4 7 (by decide),turn_put (turn_put TJ.out _ _ GB.out) _ _ GB.out,src_put (src_put SJ.out _ _ ?_) _ _ ?_⟩
       all_goals (show b<g;have:=GB.out;have:=LQ.out;omega)
      case measure=>simp[intOf]
     ·go_wp2_with fail
      go_meet
      case rel=>exact⟨.inr ⟨_,_,_,_,rfl,PJ.out,LJ.out⟩,TJ.out,SJ.out⟩
  ·go_wp2_with fail
   go_meet
   case rel=>exact⟨L4.out,T4.out,S4.out⟩
 case rest=>
  obtain⟨hL,hT,hS⟩:=hcut
  have L5:=hid hL
  have T5:=hid hT
  have S5:=hid hS
  clear hL hT hS L3 T3 S3 L4 T4 S4
  have LC:Hid (W2.heap.size≤wc.heap.size):=T5.out.size
  have fn:=spec_new 6 wc
  rw[show newC 6=0 from rfl,show newZ 6=List.replicate 48 0 from rfl]at fn
  have hfm:=field_memW
  go_wp2_with fail
  refine fn.mono ?_
  clear fn
  rintro e w6⟨v,rfl,n6,b6⟩
  have t6:Turn b wc w6:=Turn.of_below b6
  obtain⟨am,cm,rfl,l1,l2,hg⟩:=n6.shape
  obtain⟨gm,rfl⟩:=hg (by simp)
  rw[List.length_replicate]at n6 l1 ⊢
  have M6:=hid n6
  have T6:=hid t6
  have S6:Hid (Src w6 b (kB+1) a len cap zs):=S5.out.turn (Turn.of_below (b:=wc.heap.size) b6) (Nat.le_refl _)
  have GM:Hid (wc.heap.size≤gm∧gm<w6.heap.size):=n6.lt gm rfl
  clear n6 hg t6 b6 l1 l2
  go_wp2_with fail
  refine(image_any S6.out (by have:=KB.out;have:=HK.out;omega) 40 (by omega) (by omega)).mono ?_
  rintro e w7⟨vi,xs,kC,rfl,n7,hxl,t7,s7,hkC⟩
  obtain⟨ai,ci,rfl,l1,l2,hg⟩:=n7.shape
  have hx40:xs.length=40:=hxl
  rw[hx40]at n7 l1 hg ⊢
  obtain⟨gi,rfl⟩:=hg (by omega)
  have I7:=hid n7
  have XL:=hid hx40
  have M7:Hid (Nums w7 wc.heap.size (.slice (some ⟨gm,0,none⟩) 48 cm) (List.replicate 48 0)):=M6.out.turn t7 (by have:=LQ.out;have:=LC.out;omega)
  have T7:Hid (Turn b wc w7):=T6.out.trans t7
  have S7:=hid s7
  have KC:Hid (kC≤k+2100):=by have:=KB.out;show _≤_;have e:(40:Int).toNat=40:=rfl;omega
  have GI:Hid (gm<gi):=by have h:=(n7.lt gi rfl).1;have:=GM.out;show _<_;omega
  clear n7 hxl t7 s7 hkC hg l1 l2 hx40 M6 T6 S6
  go_wp2_with fail
  go_loopw [10] (fun c wr=>∃(j:Nat) (ms:List Int),j≤40∧c=.int .i64 (j:Int)∧ms.length=48∧Nums wr wc.heap.size (.slice (some ⟨gm,0,none⟩) 48 cm) ms∧Nums wr w6.heap.size (.slice (some ⟨gi,0,none⟩) 40 ci) xs∧Turn b wc wr∧Src wr b kC a len cap zs) (fun c _=>40-(intOf c).toNat)
  case atStart=>exact⟨0,_,by omega,rfl,by simp,M7.out,I7.out,T7.out,S7.out⟩
  case round=>
   obtain⟨j,ms,hj,rfl,hms,hM,hI,hT,hS⟩:=hrel
   have MJ:=hid hM
   have IJ:=hid hI
   have TJ:=hid hT
   have SJ:=hid hS
   have LJ:=hid hms
   clear hM hI hT hS hms M7 I7 T7 S7
   by_cases hlt:j<40
   ·have hJ:(j:Int)<40:=by omega
    have hJ2:(j:Int)<48:=by omega
    have HLT:=hid hlt
    have ci:=IJ.out.cell XL.out.symm j hlt
    have cj:=MJ.out.cell LJ.out.symm j (by omega)
    have fj:=MJ.out.free LJ.out.symm j
    generalize xs.getD j 0=x at*
    clear hlt hj
    go_wp2_with fail
    go_roundw
    case rel=>
     refine⟨j+1,ms.set j x,by have:=HLT.out;omega,by go_num,by rw[List.length_set];exact LJ.out,(MJ.out.store j x).1,IJ.out.put _ _ (fun e=>?_),turn_put TJ.out _ _ GM.out.1,src_put SJ.out _ _ ?_⟩
     ·have e:gi=gm:=by simpa [Value.ownBlock]using e
      have:=GI.out;omega
     ·show b<gm;have:=GM.out;have:=LQ.out;have:=LC.out;omega
    case measure=>have:=HLT.out;simp[intOf];omega
   ·have hJ:¬(j:Int)<40:=by omega
    clear hlt hj IJ
    go_wp2_with fail
    refine(chance_any SJ.out (by have:=KC.out;have:=HK.out;omega) _).mono ?_
    rintro e w8⟨c8,rfl,t8,s8⟩
    have M8:Hid (Nums w8 wc.heap.size (.slice (some ⟨gm,0,none⟩) 48 cm) ms):=MJ.out.turn t8 (by have:=LQ.out;have:=LC.out;omega)
    have T8:Hid (Turn b wc w8):=TJ.out.trans t8
    have S8:=hid s8
    clear t8 s8 MJ TJ SJ
    go_upto_if 49 with fail
    go_cut [11]from 50 to 70 (fun c wx=>∃(C:List Int) (ks:List Int) (kD:Nat),Hz wx W.heap.size a0 m0 k0 a1 m1 k1 a2 m2 k2 a3 m3 k3 { H with csr:=C}∧Vb wx q #[.slice a0 m0 k0,.int .i64 H.pc,.slice a1 m1 k1,.bool H.halted,.bool H.waiting,.bool H.rung,.int .i64 H.done,.slice a2 m2 k2,.slice a3 m3 k3] 26∧Vb wx R #[.slice none 0 0,.int .i64 0,.slice none 0 0,.bool false,.bool false,.bool false,.int .i64 0,.slice none 0 0,.slice none 0 0] 26∧Drawn8 wx W2.heap.size vl∧ks.length=48∧Nums wx wc.heap.size (.slice (some ⟨gm,0,none⟩) 48 cm) ks∧Turn b w wx∧Src wx b kD a len cap zs∧kD≤k+2200)
    case first=>
     cases c8
     ·go_wp2_with fail
      go_meet
      case rel=>
       have t:Turn b W2 w8:=T5.out.trans T8.out
       have hb1:=LQ.out
       exact⟨H.csr,ms,kC+1,H2.out.turn t (by omega),(turn_mq t).vb V2.out (by omega),(turn_mq t).vb R2.out (by have:=BR.out;omega),L5.out.turn T8.out (by omega),LJ.out,M8.out,T2.out.trans t,S8.out,by have:=KC.out;omega⟩
     ·go_wp2_with fail
      go_loopw [11] (fun c wr=>∃(i:Nat) (ms:List Int) (kD:Nat),i≤8∧c=.int .i64 (i:Int)∧ms.length=48∧Nums wr wc.heap.size (.slice (some ⟨gm,0,none⟩) 48 cm) ms∧Turn b wc wr∧Src wr b kD a len cap zs∧kD≤kC+1+2*i) (fun c _=>8-(intOf c).toNat)
      case atStart=>exact⟨0,ms,kC+1,by omega,rfl,LJ.out,M8.out,T8.out,S8.out,by omega⟩
      case round=>
       obtain⟨i,ns,kD,hi,rfl,hns,hM,hT,hS,hkD⟩:=hrel
       have MJ:=hid hM
       have TJ:=hid hT
       have SJ:=hid hS
       have LN:Hid (ns.length=48∧i≤8∧kD≤kC+1+2*i):=⟨hns,hi,hkD⟩
       clear hM hT hS hns hkD M8 T8 S8
       by_cases hli:i<8
       ·have hI:(i:Int)<8:=by omega
        have HLI:=hid hli
        clear hli hi
        go_wp2_with fail
        refine(next_any SJ.out (by have:=LN.out;have:=KC.out;have:=HK.out;omega) _).mono ?_
        rintro e w9⟨y1,rfl,hy1, -,t9,s9⟩
        obtain⟨y10,y11⟩:=hy1 (by decide)
        go_wp2_with fail
        refine(next_any s9 (by have:=LN.out;have:=KC.out;have:=HK.out;omega) _).mono ?_
        rintro e wA⟨y2,rfl,hy2, -,tA,sA⟩
        obtain⟨y20,y21⟩:=hy2 (by decide)
        have TA:Hid (Turn b wc wA):=(TJ.out.trans t9).trans tA
        have SA:=hid sA
        have MA:Hid (Nums wA wc.heap.size (.slice (some ⟨gm,0,none⟩) 48 cm) ns):=MJ.out.turn (t9.trans tA) (by have:=LQ.out;have:=LC.out;omega)
        have cj:=MA.out.cell LN.out.1.symm (8+i) (by have:=HLI.out;omega)
        have fj:=MA.out.free LN.out.1.symm (8+i)
        have hI8:(8:Int)+(i:Int)<48:=by omega
        clear t9 s9 tA sA hy1 hy2
        go_wp2_with fail
        go_roundw
        case rel=>
         refine⟨i+1,ns.set (8+i) (8*y1+y2),kD+1+1,by have:=HLI.out;omega,by go_num,by rw[List.length_set];exact LN.out.1,(MA.out.store (8+i) (8*y1+y2)).1,turn_put TA.out _ _ GM.out.1,src_put SA.out _ _ ?_,by have:=LN.out;omega⟩
         show b<gm;have:=GM.out;have:=LQ.out;have:=LC.out;omega
        case measure=>have:=HLI.out;simp[intOf];omega
       ·have hI:¬(i:Int)<8:=by omega
        clear hli hi
        have t:Turn b W2 wr:=T5.out.trans TJ.out
        have hb1:=LQ.out
        have HJ:Hid (Hz wr W.heap.size a0 m0 k0 a1 m1 k1 a2 m2 k2 a3 m3 k3 H):=H2.out.turn t (by omega)
        have VJ:Hid (Vb wr q #[.slice a0 m0 k0,.int .i64 H.pc,.slice a1 m1 k1,.bool H.halted,.bool H.waiting,.bool H.rung,.int .i64 H.done,.slice a2 m2 k2,.slice a3 m3 k3] 26):=(turn_mq t).vb V2.out (by omega)
        have RJ:Hid (Vb wr R #[.slice none 0 0,.int .i64 0,.slice none 0 0,.bool false,.bool false,.bool false,.int .i64 0,.slice none 0 0,.slice none 0 0] 26):=(turn_mq t).vb R2.out (by have:=BR.out;omega)
        have LL:Hid (Drawn8 wr W2.heap.size vl):=L5.out.turn TJ.out (by omega)
        have TT:Hid (Turn b w wr):=T2.out.trans t
        have LS:Hid (W2.heap.size≤wr.heap.size):=t.size
        clear t hb1
        have v2:=VJ.out.cell 2 rfl
        by_cases h11:m1=11
        ·obtain⟨y,ey,yb,yl,⟨z,cy⟩,fy,hk11,hz⟩:=HJ.out.store h11
         subst ey h11
         have HS:=hid hz
         clear hz
         have YB:Hid (W.heap.size≤y∧y<wr.heap.size):=⟨yb,yl⟩
         have YQ:Hid (y<q):=H0.out y rfl rfl
         clear yb yl
         go_wp2_with fail
         go_meet
         case rel=>
          have pm:=put_mq wr y 10 (.int .i64 2)
          have hb1:=LQ.out
          have hy1:=YB.out
          have hlc:=LC.out
          have hls:=LS.out
          have hyq:y<q:=YQ.out
          exact⟨_,ns,kD,HS.out,pm.vb VJ.out (by omega),pm.vb RJ.out (by have:=BR.out;have:=LW.out;omega),LL.out.mq pm (fun k e1 e2 e=>by omega),LN.out.1,pm.nums MJ.out (fun k e f=>by have:=(MJ.out.lt k e).1;omega),turn_put TT.out _ _ (by show w.heap.size≤y;have:=HR.out;have:=LW.out;omega),src_put SJ.out _ _ (by show b<y;omega),by have:=KC.out;have:=LN.out;omega⟩
        ·have h11:¬(m1:Int)=11:=by omega
         go_wp2_with fail
         go_meet
         case rel=>exact⟨H.csr,ns,kD,HJ.out,VJ.out,RJ.out,LL.out,LN.out.1,MJ.out,TT.out,SJ.out,by have:=KC.out;have:=LN.out;omega⟩
    case rest=>
     obtain⟨C,ks,kD,hH,hV,hR',hL,hks,hM,hT,hS,hkD⟩:=hcut
     clear M8 T8 S8
     rename World=>wd
     have HD:=hid hH
     have VD:=hid hV
     have RD:Hid (Vb wd R #[.slice none 0 0,.int .i64 0,.slice none 0 0,.bool false,.bool false,.bool false,.int .i64 0,.slice none 0 0,.slice none 0 0] 26):=hR'
     have LD:=hid hL
     have MD:=hid hM
     have KL:=hid hks
     have TD:=hid hT
     have SD:=hid hS
     have KD:=hid hkD
     clear hH hV hR' hL hM hks hT hS hkD
     go_wp2_with fail
     refine(chance_any SD.out (by have:=KD.out;have:=HK.out;omega) _).mono ?_
     rintro e wE⟨c9,rfl,t9,s9⟩
     have hb1:=LQ.out
     have HE:Hid (Hz wE W.heap.size a0 m0 k0 a1 m1 k1 a2 m2 k2 a3 m3 k3 { H with csr:=C}):=HD.out.turn t9 (by omega)
     have VE:Hid (Vb wE q #[.slice a0 m0 k0,.int .i64 H.pc,.slice a1 m1 k1,.bool H.halted,.bool H.waiting,.bool H.rung,.int .i64 H.done,.slice a2 m2 k2,.slice a3 m3 k3] 26):=(turn_mq t9).vb VD.out (by omega)
     have RE:Hid (Vb wE R #[.slice none 0 0,.int .i64 0,.slice none 0 0,.bool false,.bool false,.bool false,.int .i64 0,.slice none 0 0,.slice none 0 0] 26):=(turn_mq t9).vb RD.out (by have:=BR.out;omega)
     have LE:Hid (Drawn8 wE W2.heap.size vl):=LD.out.turn t9 (by omega)
     have ME:Hid (Nums wE wc.heap.size (.slice (some ⟨gm,0,none⟩) 48 cm) ks):=MD.out.turn t9 (by have:=LC.out;omega)
     have TE:Hid (Turn b w wE):=TD.out.trans t9
     have SE:=hid s9
     clear t9 s9 HD VD RD LD MD TD SD
     clear hb1
     cases c9
     ·skip
      obtain⟨l0,l1,l2,l3,l4,l5,l6,l7,l8⟩:=zc9 VE.out
      obtain⟨r0,r1,r2,r3,r4,r5,r6,r7,r8⟩:=zc9 RE.out
      obtain⟨f0,f1,f2,f3,f4,f5,f6,f7,f8⟩:=zf9 RE.out
      have NN:Hid (_∧_):=nine RE.out (.slice a0 m0 k0) (.int .i64 H.pc) (.slice a1 m1 k1) (.bool H.halted) (.bool H.waiting) (.bool H.rung) (.int .i64 H.done) (.slice a2 m2 k2) (.slice a3 m3 k3)
      go_wp2_with fail
      clear l0 r0 f0 l1 r1 f1 l2 r2 f2 l3 r3 f3 l4 r4 f4 l5 r5 f5 l6 r6 f6 l7 r7 f7 l8 r8 f8
      generalize (((((((((wE.setCell ⟨R,0,none⟩ (.slice a0 m0 k0)).setCell ⟨R,1,none⟩ (.int .i64 H.pc)).setCell ⟨R,2,none⟩ (.slice a1 m1 k1)).setCell ⟨R,3,none⟩ (.bool H.halted)).setCell ⟨R,4,none⟩ (.bool H.waiting)).setCell ⟨R,5,none⟩ (.bool H.rung)).setCell ⟨R,6,none⟩ (.int .i64 H.done)).setCell ⟨R,7,none⟩ (.slice a2 m2 k2)).setCell ⟨R,8,none⟩ (.slice a3 m3 k3))=V at*
      obtain⟨x0,x1,x2,x3,x4,x5,x6,x7,x8⟩:=zc9 NN.out.1
      have hb1:=LQ.out
      have hlc:=LC.out
      have hbr:=BR.out
      have hrr:=HR.out
      have hlw:=LW.out
      have hts:=TE.out.size
      exact bodyPost_ret (v:=.tuple #[.agg #[.slice a0 m0 k0,.int .i64 H.pc,.slice a1 m1 k1,.bool H.halted,.bool H.waiting,.bool H.rung,.int .i64 H.done,.slice a2 m2 k2,.slice a3 m3 k3],vl,.slice (some ⟨gm,0,none⟩) 48 cm]) (by simp[results,Tryz.results24,go_sem,x0,x1,x2,x3,x4,x5,x6,x7,x8]) rfl
       ⟨_,_,_,_,_,_,_,_,_,_,_,_,{ H with csr:=C},_,_,rfl,(HE.out.mq NN.out.2 (fun k e1 e2 e=>by omega)).mono (by omega),(LE.out.mq NN.out.2 (fun k e1 e2 e=>by omega)).mono (by omega),.inl ⟨ks,(NN.out.2.nums ME.out (fun k e f=>by have:=(ME.out.lt k e).1;omega)).mono (by omega),by have:=KL.out;omega⟩,⟨NN.out.2.os.trans TE.out.os,NN.out.2.tape.trans TE.out.tape,NN.out.2.output.trans TE.out.output,Nat.le_trans TE.out.size NN.out.2.size,fun x hx hn=>(NN.out.2.block x (Nat.lt_of_lt_of_le hx TE.out.size) (by omega)).trans (TE.out.block x hx hn)⟩,_,by have:=KD.out;have:=HK.out;omega,src_mq SE.out NN.out.2 (by omega)⟩
     ·go_wp2_with fail
      refine(mem_any SE.out (by have:=KD.out;have:=HK.out;omega)).mono ?_
      rintro e wF⟨vm,kF,rfl,dm,hkF,tF,sF⟩
      have hb1:=LQ.out
      have HF:Hid (Hz wF W.heap.size a0 m0 k0 a1 m1 k1 a2 m2 k2 a3 m3 k3 { H with csr:=C}):=HE.out.turn tF (by omega)
      have VF:Hid (Vb wF q #[.slice a0 m0 k0,.int .i64 H.pc,.slice a1 m1 k1,.bool H.halted,.bool H.waiting,.bool H.rung,.int .i64 H.done,.slice a2 m2 k2,.slice a3 m3 k3] 26):=(turn_mq tF).vb VE.out (by omega)
      have RF:Hid (Vb wF R #[.slice none 0 0,.int .i64 0,.slice none 0 0,.bool false,.bool false,.bool false,.int .i64 0,.slice none 0 0,.slice none 0 0] 26):=(turn_mq tF).vb RE.out (by have:=BR.out;omega)
      have LF:Hid (Drawn8 wF W2.heap.size vl):=LE.out.turn tF (by omega)
      have MF:=hid dm
      have TF:Hid (Turn b w wF):=TE.out.trans tF
      have SF:=hid sF
      have KF:Hid (kF≤k+4000):=by have:=KD.out;show _≤_;omega
      have TE_size:Hid (w.heap.size≤wE.heap.size∧W.heap.size≤wE.heap.size):=⟨TE.out.size,by have:=TW.out.size;have:=VE.out.lt;omega⟩
      clear dm hkF tF sF HE VE RE LE ME TE SE hb1
      obtain⟨l0,l1,l2,l3,l4,l5,l6,l7,l8⟩:=zc9 VF.out
      obtain⟨r0,r1,r2,r3,r4,r5,r6,r7,r8⟩:=zc9 RF.out
      obtain⟨f0,f1,f2,f3,f4,f5,f6,f7,f8⟩:=zf9 RF.out
      have NN:Hid (_∧_):=nine RF.out (.slice a0 m0 k0) (.int .i64 H.pc) (.slice a1 m1 k1) (.bool H.halted) (.bool H.waiting) (.bool H.rung) (.int .i64 H.done) (.slice a2 m2 k2) (.slice a3 m3 k3)
      go_wp2_with fail
      clear l0 r0 f0 l1 r1 f1 l2 r2 f2 l3 r3 f3 l4 r4 f4 l5 r5 f5 l6 r6 f6 l7 r7 f7 l8 r8 f8
      generalize (((((((((wF.setCell ⟨R,0,none⟩ (.slice a0 m0 k0)).setCell ⟨R,1,none⟩ (.int .i64 H.pc)).setCell ⟨R,2,none⟩ (.slice a1 m1 k1)).setCell ⟨R,3,none⟩ (.bool H.halted)).setCell ⟨R,4,none⟩ (.bool H.waiting)).setCell ⟨R,5,none⟩ (.bool H.rung)).setCell ⟨R,6,none⟩ (.int .i64 H.done)).setCell ⟨R,7,none⟩ (.slice a2 m2 k2)).setCell ⟨R,8,none⟩ (.slice a3 m3 k3))=V at*
      obtain⟨x0,x1,x2,x3,x4,x5,x6,x7,x8⟩:=zc9 NN.out.1
      have hb1:=LQ.out
      have hlc:=LC.out
      have hbr:=BR.out
      have hrr:=HR.out
      have hlw:=LW.out
      have hts:=TF.out.size
      exact bodyPost_ret (v:=.tuple #[.agg #[.slice a0 m0 k0,.int .i64 H.pc,.slice a1 m1 k1,.bool H.halted,.bool H.waiting,.bool H.rung,.int .i64 H.done,.slice a2 m2 k2,.slice a3 m3 k3],vl,vm]) (by simp[results,Tryz.results24,go_sem,x0,x1,x2,x3,x4,x5,x6,x7,x8]) rfl
       ⟨_,_,_,_,_,_,_,_,_,_,_,_,{ H with csr:=C},_,_,rfl,(HF.out.mq NN.out.2 (fun k e1 e2 e=>by omega)).mono (by omega),(LF.out.mq NN.out.2 (fun k e1 e2 e=>by omega)).mono (by omega),drawnM_mq MF.out NN.out.2 (by have:=TE_size.out;omega) (by have:=TE_size.out;omega),⟨NN.out.2.os.trans TF.out.os,NN.out.2.tape.trans TF.out.tape,NN.out.2.output.trans TF.out.output,Nat.le_trans TF.out.size NN.out.2.size,fun x hx hn=>(NN.out.2.block x (Nat.lt_of_lt_of_le hx TF.out.size) (by omega)).trans (TF.out.block x hx hn)⟩,_,by have:=KF.out;have:=HK.out;omega,src_mq SF.out NN.out.2 (by omega)⟩
end Go.Proofs.YtaefollmeoepkaaGreatDoor
