import Derived.Test.YtignbeibcakgpaaGreatDoorQ45
namespace Go.Proofs.YtignbeibcakgpaaGreatDoor
set_option maxRecDepth 20000
set_option maxHeartbeats 16000000
open Go.RowKit
set_option linter.unusedVariables false
structure Hh(w:World)(base q b g:Nat)(a0:Option Addr)(n0 c0:Nat)(a1:Option Addr)(n1 c1:Nat)(a2:Option Addr)(n2 c2:Nat)(a3:Option Addr)(n3 c3:Nat)(lh vc:Nat)(t:Int×Int)(cl:Int)(zs:List Int)(rs:List Gs):Prop where
 run:Vb w q #[.int .i64 t.1,.int .i64 t.2,.int .i64 cl,.slice a0 n0 c0,.slice a1 n1 c1,.slice a2 n2 c2,.slice a3 n3 c3,gq g,.slice (some ⟨b,0,none⟩) lh vc] 126
 bq:base≤q
 hx:Hxu w base b g lh vc zs rs
theorem Hh.keep{w w':World}{base q b g:Nat}{a0:Option Addr}{n0 c0:Nat}{a1:Option Addr}{n1 c1:Nat}{a2:Option Addr}{n2 c2:Nat}{a3:Option Addr}{n3 c3:Nat}{lh vc:Nat}{t:Int×Int}{cl:Int}{zs:List Int}{rs:List Gs}(h:Hh w base q b g a0 n0 c0 a1 n1 c1 a2 n2 c2 a3 n3 c3 lh vc t cl zs rs)(B:Below w.heap.size w w'):Hh w' base q b g a0 n0 c0 a1 n1 c1 a2 n2 c2 a3 n3 c3 lh vc t cl zs rs:=
 ⟨h.run.keep B,h.bq,h.hx.keep B⟩
def Hob(o:Obj):Prop:=∃cs,o=.cells cs 129 (0,0)∨o=.cells cs 91 (0,0)∨o=.cells cs 2 (0,0)∨o=.cells cs 126 (0,0)
structure Kp(base:Nat)(w w':World):Prop where
 o:∀(k:Nat) (o:Obj),w.heap[k]? =some o→¬Hob o→w'.heap[k]? =some o
 b:Below base w w'
theorem Kp.refl(base:Nat)(w:World):Kp base w w:=⟨fun _ _ e _=>e,.refl base w⟩
theorem Kp.trans{base:Nat}{w1 w2 w3:World}(h:Kp base w1 w2)(k:Kp base w2 w3):Kp base w1 w3:=⟨fun i o e n=>k.o i o (h.o i o e n) n,h.b.trans k.b⟩
variable{base:Nat}{w w':World}
theorem Kp.of(h:Below w.heap.size w w')(hb:base≤w.heap.size):Kp base w w':=
 ⟨fun k o e _=>(h.block k (Array.getElem?_eq_some_iff.1 e).1).trans e,h.mono hb⟩
theorem Kp.mq{S:Nat→Prop}{base:Nat}{w w':World}(m:Mq S w w')(hs:∀k,S k→base≤k)(hb:base≤w.heap.size)(hn:∀k o,w.heap[k]? =some o→¬Hob o→¬S k):Kp base w w':=
 ⟨fun k o e f=>(m.block k (Array.getElem?_eq_some_iff.1 e).1 (hn k o e f)).trans e,m.low hs hb⟩
theorem Kp.keeps(h:Kp base w w'):KeepsOthers w w':=
 ⟨h.b.size,fun k o e f=>h.o k o e fun⟨cs,x⟩=>by rcases x with rfl|rfl|rfl|rfl<;>cases f⟩
theorem Kp.vb(h:Kp base w w'){k:Nat}{cs:Array Value}{t:TypeId}(v:Vb w k cs t)(n:t≠129∧t≠91∧t≠2∧t≠126):Vb w' k cs t:=
 h.o k _ v fun⟨cs,x⟩=>by
  rcases x with x|x|x|x
  ·exact n.1 (Obj.cells.inj x).2.1
  ·exact n.2.1 (Obj.cells.inj x).2.1
  ·exact n.2.2.1 (Obj.cells.inj x).2.1
  ·exact n.2.2.2 (Obj.cells.inj x).2.1
theorem Hxu.size{w:World}{base b g lh vc:Nat}{zs:List Int}{rs:List Gs}(h:Hxu w base b g lh vc zs rs):base≤w.heap.size:=by
 obtain⟨hb,C,hC,_⟩:=h.blk
 have:=hC.lt
 omega
theorem Hxu.kp{w w':World}{base b g lh vc:Nat}{zs:List Int}{rs:List Gs}(h:Hxu w base b g lh vc zs rs)(j:Nat)(hj:j<lh)(m:Mq (Sx b g (rs.getD j gsz).q.o) w w'):Kp base w w':=by
 refine .mq m (fun k e=>?_) h.size fun k o e f=>h.notS j hj e fun cs=>⟨fun x=>f ⟨cs,.inl x⟩,fun x=>f ⟨cs,.inr (.inl x)⟩,fun x=>f ⟨cs,.inr (.inr (.inl x))⟩⟩
 rcases e with rfl|rfl|e
 ·exact h.blk.1
 ·exact(World.ownsRow.lt h.pgs k rfl).1
 ·obtain⟨bo,b1,b2,b3,b4⟩:=(h.one j hj).ho
  have:=(b3.lt k e).1
  omega
theorem Hh.run_mq{w w':World}{base q b g:Nat}{a0:Option Addr}{n0 c0:Nat}{a1:Option Addr}{n1 c1:Nat}{a2:Option Addr}{n2 c2:Nat}{a3:Option Addr}{n3 c3:Nat}{lh vc:Nat}{t:Int×Int}{cl:Int}{zs:List Int}{rs:List Gs}(h:Hh w base q b g a0 n0 c0 a1 n1 c1 a2 n2 c2 a3 n3 c3 lh vc t cl zs rs)(j:Nat)(hj:j<lh)(m:Mq (Sx b g (rs.getD j gsz).q.o) w w'){zs':List Int}{rs':List Gs}(x:Hxu w' base b g lh vc zs' rs'):Hh w' base q b g a0 n0 c0 a1 n1 c1 a2 n2 c2 a3 n3 c3 lh vc t cl zs' rs':=
 ⟨(m.block q h.run.lt (h.hx.notS j hj h.run fun cs=>⟨by simp,by simp,by simp⟩)).trans h.run,h.bq,x⟩
theorem rung_hok{H:Ht}(K:Hok H)(u:Bool):Hok { H with rung:=u}:=⟨K.r16,K.c11,K.r0,K.rw,K.pw,K.cw,K.iw,K.ow,K.i40,K.o40,K.d0,K.d9,K.st⟩
def ringG(bells:List (Int×Int))(j ri:Int)(rs:List Gs):List Gs:=if(j,ri) ∈ bells then rs.set ri.toNat { rs.getD ri.toNat gsz with H:={ (rs.getD ri.toNat gsz).H with rung:=true}}else rs
theorem i_ringFor{w0 w:World}{q b g:Nat}{a0:Option Addr}{n0 c0:Nat}{a1:Option Addr}{n1 c1:Nat}{a2:Option Addr}{n2 c2:Nat}{a3:Option Addr}{n3 c3:Nat}{lh vc:Nat}{t:Int×Int}{cl:Int}{zs:List Int}{rs:List Gs}{P:Plc}(d:Pl w0 a0 n0 c0 a1 n1 c1 a2 n2 c2 a3 n3 c3 P)(pf:pfV P=0)(hl:lh=P.own.length)(B:Below w0.heap.size w0 w)(h:Hh w w0.heap.size q b g a0 n0 c0 a1 n1 c1 a2 n2 c2 a3 n3 c3 lh vc t cl zs rs)(j ri:Int):
  Calls Tryz.prog 73 #[.pointer (some ⟨q,0,none⟩),.int .i64 j,.int .i64 ri] w fun e w'=>e=.returned (.tuple #[])∧Hh w' w0.heap.size q b g a0 n0 c0 a1 n1 c1 a2 n2 c2 a3 n3 c3 lh vc t cl zs (ringG P.bells j ri rs)∧Kp w0.heap.size w w':=by
 have HH:=hid h
 have D:=hid (d.bells.stay B)
 have r5:w.cell? ⟨q,5,none⟩=some (.slice a2 n2 c2):=h.run.cell 5 rfl
 have r8:w.cell? ⟨q,8,none⟩=some (.slice (some ⟨b,0,none⟩) lh vc):=h.run.cell 8 rfl
 unfold ringG
 by_cases hm:(j,ri) ∈ P.bells
 ·rw[if_pos hm]
  have G:isG P.own.length ri=true:=by
   exact(bells_ends _ _ _ (pf_parts P pf).2.2.2.1 _ hm).2
  obtain⟨k,rfl,hk⟩:∃k:Nat,ri=(k:Int)∧k<lh:=by
   have:=(isG_iff _ _).1 G
   exact⟨ri.toNat,by omega,by omega⟩
  rw[Int.toNat_natCast]
  have HK:=hid hk
  have HM:Hid (decide ((j,(k:Int)) ∈ P.bells)=true):=by show _=_;simpa using hm
  have hk1:(k:Int)<(lh:Int):=by omega
  clear hm G B h hl pf d hk
  go_enter Tryz.func73,Tryz.ntmps73
  go_wp2_with (go_at_call 100;refine(i_containsB _ _ _ _ _ _ _ D.out).mono ?_;rintro e w1 ⟨rfl,b1⟩;rw[HM.out];have H1:Hid (Hh w1 w0.heap.size q b g a0 n0 c0 a1 n1 c1 a2 n2 c2 a3 n3 c3 lh vc t cl zs rs):=HH.out.keep b1;have B1:Hid (Kp w0.heap.size w w1):=.of b1 HH.out.hx.size;obtain⟨Kz,pg,pc,el,R,back⟩:=H1.out.hx.turn k HK.out;have RR:Hid (Rw w1 w0.heap.size b (k*38) Kz (rs.getD k gsz).q.i (rs.getD k gsz).q.o pg pc (rs.getD k gsz).ps g 24 zs (rs.getD k gsz).H (rs.getD k gsz).ca (rs.getD k gsz).ri (Xf w1 b g (rs.getD k gsz).q.o)):=R;have BK:Hid (_∧_):=⟨el,back⟩;clear r5 r8 b1 el R back;have r8:w1.cell? ⟨q,8,none⟩=some (.slice (some ⟨b,0,none⟩) lh vc):=H1.out.run.cell 8 rfl;have c30:w1.cell? ⟨b,k*38+30,none⟩=some (.bool (rs.getD k gsz).H.rung):=RR.out.v.cell 30 rfl;have f30:w1.frozen? ⟨b,k*38+30,none⟩=false:=RR.out.v.free 30)
  have V:=RR.out.v.set 30 (.bool true)
  rw[mcr_rung]at V
  have U:=RR.out.upd V ((Mq.refl _ _).set ⟨b,k*38+30,none⟩ _ rfl) rfl rfl (rung_hok RR.out.sn.hok true)
  obtain⟨x,m⟩:=BK.out.2 _ _ _ _ _ _ _ U.1 U.2
  exact bodyPost_end (results_none rfl _ _ _) rfl ⟨rfl,H1.out.run_mq k HK.out m x,B1.out.trans (H1.out.hx.kp k HK.out m)⟩
 ·rw[if_neg hm]
  have HM:Hid (decide ((j,ri) ∈ P.bells)=false):=by show _=_;simpa using hm
  clear hm B h hl pf d
  go_enter Tryz.func73,Tryz.ntmps73
  go_wp2_with (go_at_call 100;refine(i_containsB _ _ _ _ _ _ _ D.out).mono ?_;rintro e w1 ⟨rfl,b1⟩;rw[HM.out])
  exact bodyPost_end (results_none rfl _ _ _) rfl ⟨rfl,HH.out.keep b1,.of b1 HH.out.hx.size⟩
def hsG(bells:List (Int×Int))(j:Nat)(rs:List Gs)(zs:List Int)(i o:Value):List Gs:=
 ringG bells j (stepV (rs.getD j gsz).H (rs.getD j gsz).ps zs (rs.getD j gsz).ca (-1)).2.2.2 (rs.set j ⟨⟨i,o,(rs.getD j gsz).q.l⟩,(stepV (rs.getD j gsz).H (rs.getD j gsz).ps zs (rs.getD j gsz).ca (-1)).1,(rs.getD j gsz).ps,(stepV (rs.getD j gsz).H (rs.getD j gsz).ps zs (rs.getD j gsz).ca (-1)).2.2.1,(stepV (rs.getD j gsz).H (rs.getD j gsz).ps zs (rs.getD j gsz).ca (-1)).2.2.2⟩)
def hsZ(j:Nat)(rs:List Gs)(zs:List Int):List Int:=(stepV (rs.getD j gsz).H (rs.getD j gsz).ps zs (rs.getD j gsz).ca (-1)).2.1
theorem mcr_ring(H:Ht)(i o l pg:Value)(ca ri:Int)(u:Int):(mcr H i o l pg ca ri).setIfInBounds 37 (.int .i64 u)=mcr H i o l pg ca u:=rfl
def hsQ(R:Ending→World→Prop):Exit→Act→World→Prop
 | .panic c,a,w=>∀tmps,Leaves Tryz.prog Tryz.f49 tmps R a.defers (.panicking c) w
 |e,a,w=>bodyPostD Tryz.prog Tryz.f49 R e a w
theorem hsQ_to(R:Ending→World→Prop)(e:Exit)(a:Act)(w:World)(h:hsQ R e a w):bodyPostD Tryz.prog Tryz.f49 R e a w:=by
 cases e with
 |panic c=>exact h a.tmps
 |_=>exact h
theorem nxS_eq{P:Plc}{i:Nat}{l:Int}{n:Nat}(hn:n=P.plan.length):nxS P ((i:Int),l)=(if l-1=0 then((i:Int)+1)%n else(i:Int),if l-1=0 then(P.plan.getD (((i:Int)+1)%n).toNat (0,0)).2 else l-1):=by
 unfold nxS
 subst hn
 split<;>rfl
theorem i_hstep{w0 w:World}{q b g:Nat}{a0:Option Addr}{n0 c0:Nat}{a1:Option Addr}{n1 c1:Nat}{a2:Option Addr}{n2 c2:Nat}{a3:Option Addr}{n3 c3:Nat}{lh vc:Nat}{cl:Int}{zs:List Int}{rs:List Gs}{P:Plc}(d:Pl w0 a0 n0 c0 a1 n1 c1 a2 n2 c2 a3 n3 c3 P)(pf:pfV P=0)(hl:lh=P.own.length)(B:Below w0.heap.size w0 w)(h:Hh w w0.heap.size q b g a0 n0 c0 a1 n1 c1 a2 n2 c2 a3 n3 c3 lh vc (tS P cl) cl zs rs)(k0:0≤cl)(k1:cl<1000000):
  Calls Tryz.prog 49 #[.pointer (some ⟨q,0,none⟩)] w fun e w'=>e=.returned (.int .i64 0)∧(∃i' o',Hh w' w0.heap.size q b g a0 n0 c0 a1 n1 c1 a2 n2 c2 a3 n3 c3 lh vc (tS P (cl+1)) (cl+1) (hsZ (tG P cl).toNat rs zs) (hsG P.bells (tG P cl).toNat rs zs i' o'))∧Kp w0.heap.size w w':=by
 have HH:=hid h
 have DD:=hid d
 have B0:=hid B
 have PF:Hid (pfV P=0∧lh=P.own.length):=⟨pf,hl⟩
 obtain⟨i,hi,ei⟩:=tS_someX P pf cl
 have NX:Hid (tS P (cl+1)=nxS P (tS P cl)):=tS_next P pf cl k0
 have TL:Hid (1≤(tS P cl).2∧(tS P cl).2≤50):=by
  have t:=tS_in P pf cl
  rw[ei,Int.toNat_natCast]at t
  have:=(pf_each P pf _ (getD_mem2 P.plan i hi)).2
  exact⟨by omega,by omega⟩
 have n3l:n3=P.plan.length:=d.plan.len
 have h6:slotsV P.own.length P.plan=0:=by
  have h6:g6V P=0:=(or_zero (or_zero (or_zero pf).2).2).2
  unfold g6V at h6
  split at h6
  ·cases h6
  ·exact h6
 obtain⟨j,hj,hjl⟩:∃j:Nat,(P.plan.getD i (0,0)).1=(j:Int)∧j<lh:=by
  have:=slot_guests P.own.length P.plan h6 _ (getD_mem2 P.plan i hi)
  exact⟨(P.plan.getD i (0,0)).1.toNat,by omega,by omega⟩
 have eG:(tG P cl).toNat=j:=by unfold tG;rw[ei,Int.toNat_natCast,hj,Int.toNat_natCast]
 have h8:P.plan.length≤8:=(pf_plan P pf).1
 rw[eG]
 obtain⟨x,hx,hc1,_⟩:=d.plan.at i (by omega)
 subst hx
 rw[hj]at hc1
 have hgx:w.cell? (x.add (i*2))=some (.int .i64 (j:Int)):=cell_keep B hc1
 have eT:tS P cl=((i:Int),(tS P cl).2):=by rw[←ei]
 obtain⟨l,hl2⟩:∃l,(tS P cl).2=l:=⟨_,rfl⟩
 rw[hl2]at eT TL
 have HT:Hid (tS P cl=((i:Int),l)∧tS P (cl+1)=nxS P ((i:Int),l)):=⟨eT,by rw[NX.out,eT]⟩
 have r0:w.cell? ⟨q,0,none⟩=some (.int .i64 (i:Int)):=by rw[←ei];exact h.run.cell 0 rfl
 have r2:w.cell? ⟨q,2,none⟩=some (.int .i64 cl):=h.run.cell 2 rfl
 have r6:w.cell? ⟨q,6,none⟩=some (.slice (some x) n3 c3):=h.run.cell 6 rfl
 have r8:w.cell? ⟨q,8,none⟩=some (.slice (some ⟨b,0,none⟩) lh vc):=h.run.cell 8 rfl
 obtain⟨Kz,pg,pc,el,R0,back⟩:=h.hx.turn j hjl
 have RR:Hid (Rw w w0.heap.size b (j*38) Kz (rs.getD j gsz).q.i (rs.getD j gsz).q.o pg pc (rs.getD j gsz).ps g 24 zs (rs.getD j gsz).H (rs.getD j gsz).ca (rs.getD j gsz).ri (Xf w b g (rs.getD j gsz).q.o)):=R0
 have BK:Hid (_):=back
 have hI:(i:Int)<(n3:Int):=by omega
 have hJ:(j:Int)<(lh:Int):=by omega
 have IN:Hid (i<n3∧n3≤8∧n3=P.plan.length∧j<lh∧0≤cl∧cl<1000000):=⟨by omega,by omega,n3l,hjl,k0,k1⟩
 have h37:w.cell? ⟨b,j*38+37,none⟩=some (.int .i64 (rs.getD j gsz).ri):=RR.out.v.cell 37 rfl
 have f37:w.frozen? ⟨b,j*38+37,none⟩=false:=RR.out.v.free 37
 clear el R0 back ei eT hl2 NX hc1 eG hj hjl h6 n3l h8 hi h d pf hl B k0
 refine calls_of_wp_defers Tryz.func49 rfl ?_
 refine Code.wp_mono (hsQ_to _) ?_
 simp only[Tryz.ntmps49,List.size_toArray,List.length_cons,List.length_nil,Nat.reduceAdd,Nat.reduceSub,Array.replicate_succ,Array.replicate_zero,List.push_toArray,List.append_toArray,List.nil_append,List.cons_append]
 go_wp2_with fail
 have S0:=hid r6
 refine wp_region_held (S:=fun w'=>w'.cell? ⟨q,6,none⟩=some (.slice (some x) n3 c3)) (by kernel_rfl) ?_
 change wpAnyH _ _ _ _ _ _ _ _ (World.drew _)
 refine wpTd 0 11 ((.pointer (some ⟨q,0,none⟩))) rfl S0.out ?_
 simp only[Act.put,zT,zZ,zS]
 refine wpTd 1 12 ((.pointer (some ⟨q,0,none⟩))) rfl S0.out ?_
 simp only[Act.put,zT,zZ,zS]
 refine wpTd 2 13 ((.pointer (some ⟨q,0,none⟩))) rfl S0.out ?_
 simp only[Act.put,zT,zZ,zS]
 refine wpTd 3 14 ((.pointer (some ⟨q,0,none⟩))) rfl S0.out ?_
 simp only[Act.put,zT,zZ,zS]
 refine wpTd 4 15 ((.pointer (some ⟨q,0,none⟩))) rfl S0.out ?_
 simp only[Act.put,zT,zZ,zS]
 refine wpTd 5 16 ((.pointer (some ⟨q,3,none⟩))) rfl S0.out ?_
 simp only[Act.put,zT,zZ,zS]
 refine wpTd 6 17 ((.pointer (some ⟨q,6,none⟩))) rfl S0.out ?_
 simp only[Act.put,zT,zZ,zS]
 refine wpTe 7 18 ((.slice (some x) n3 c3)) rfl (Or.inl ⟨by rfl,fun w' hs=>by have hc:=hs;go_simp⟩) S0.out ?_
 simp only[Act.put,zT,zZ,zS]
 refine zR 8 rfl fun K hK=>?_
 rw[if_pos (by rfl)]
 go_simp
 refine hK.out _ _ S0.out (fun _=>?_)
 clear hK K
 refine wpAnyH_done (by kernel_rfl) ?_ _
 clear S0
 go_wp2_with fail
 go_region
 go_wp2_with fail
 clear r0 r2 r6 r8 h37 f37 hgx
 have V:=RR.out.v.set 37 (.int .i64 (-1))
 rw[mcr_ring]at V
 have U:=RR.out.upd V ((Mq.refl _ _).set ⟨b,j*38+37,none⟩ _ rfl) rfl rfl RR.out.sn.hok
 have R1:Hid (Rw (w.setCell ⟨b,j*38+37,none⟩ (.int .i64 (-1))).drew.drew w0.heap.size b (j*38) Kz (rs.getD j gsz).q.i (rs.getD j gsz).q.o pg pc (rs.getD j gsz).ps g 24 zs (rs.getD j gsz).H (rs.getD j gsz).ca (-1) (Xf w b g (rs.getD j gsz).q.o)):=(U.1.keep (Below.refl _ _).drew).keep (Below.refl _ _).drew
 have B1:Hid (Below w0.heap.size w (w.setCell ⟨b,j*38+37,none⟩ (.int .i64 (-1))).drew.drew):=U.2.drew.drew
 clear V U
 generalize (w.setCell ⟨b,j*38+37,none⟩ (.int .i64 (-1))).drew.drew=w1 at*
 refine(r_step R1.out).mono ?_
 rintro e w2⟨rfl,i',o',r2,b2⟩
 obtain⟨x2,m2⟩:=BK.out _ _ _ _ _ _ _ r2 (B1.out.trans b2)
 have H2:Hid (Hh w2 _ _ _ _ _ _ _ _ _ _ _ _ _ _ _ _ _ _ _ _ _ _):=HH.out.run_mq j IN.out.2.2.2.1 m2 x2
 have K2:Hid (Kp w0.heap.size w w2):=HH.out.hx.kp j IN.out.2.2.2.1 m2
 obtain⟨ri,hri⟩:∃ri,(stepV (rs.getD j gsz).H (rs.getD j gsz).ps zs (rs.getD j gsz).ca (-1)).2.2.2=ri:=⟨_,rfl⟩
 have c37:w2.cell? ⟨b,j*38+37,none⟩=some (.int .i64 ri):=by rw[←hri];exact r2.v.cell 37 rfl
 have HRI:Hid (_=_):=hri
 clear x2 m2 r2 b2 hri
 go_wp2_with fail
 refine(i_ringFor DD.out PF.out.1 PF.out.2 (B0.out.trans K2.out.b) H2.out j ri).mono ?_
 rintro e w3⟨rfl,h3,k3⟩
 have H3:Hid (Hh w3 _ _ _ _ _ _ _ _ _ _ _ _ _ _ _ _ _ _ _ _ _ _):=h3
 have K3:Hid (Kp w0.heap.size w w3):=K2.out.trans k3
 clear h3 k3 c37
 go_wp2_with fail
 have V3:=H3.out.run
 rw[HT.out.1]at V3
 show Leaves Tryz.prog Tryz.f49 _ _ _ .returning w3
 refine leaves_cons (f:=71) (args:=#[.pointer (some ⟨q,0,none⟩),.slice (some x) n3 c3]) (by simp) (by simp[go_sem]) ?_
 refine(i_passR q i l cl x n3 c3 P.plan _ _ _ _ _ _ w0 w3 V3 (B0.out.trans K3.out.b) H3.out.bq DD.out.plan IN.out.1 IN.out.2.1 TL.out ⟨IN.out.2.2.2.2.1,by have:=IN.out;omega⟩).mono ?_
 rintro e u' w'⟨rfl,rfl,v4,m4⟩
 have K4:Kp w0.heap.size w3 w':=.mq m4 (fun k e=>e▸H3.out.bq) H3.out.hx.size fun k o e n f=>by
  subst f
  exact n ⟨_,.inr (.inr (.inr (Option.some.inj (e.symm.trans V3))))⟩
 refine⟨_,results_tmp rfl _ _ _,rfl,⟨i',o',?_,H3.out.bq,?_⟩,K3.out.trans K4⟩
 ·rw[HT.out.2,nxS_eq IN.out.2.2.1]
  exact v4
 ·unfold hsG hsZ
  have x:=H3.out.hx
  rw[←HRI.out]at x
  exact x.mqn m4 (fun k cs t ht e f=>by subst f;exact ht (Obj.cells.inj (Option.some.inj (e.symm.trans V3))).2.1) fun k hk f=>by have:=H3.out.bq;omega
end Go.Proofs.YtignbeibcakgpaaGreatDoor
