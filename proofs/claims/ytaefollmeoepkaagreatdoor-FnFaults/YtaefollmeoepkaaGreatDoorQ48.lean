import Derived.Test.YtaefollmeoepkaaGreatDoorQ44
namespace Go.Proofs.YtaefollmeoepkaaGreatDoor
set_option maxRecDepth 20000
set_option maxHeartbeats 16000000
open Go.RowKit
set_option linter.unusedVariables false
structure Dk(H:Ht)(ps:List (Int×Int))(zs:List Int)(r:Dr):Prop where
 d:r.H.done=H.done
 z:r.zs=zs∨(r.t=none∧∃x y,plC H ps zs x 2=0∧plV H ps zs x 2<1000∧r.zs=zs.set (plV H ps zs x 2).toNat y)
 c:∀c t,r.t=some (c,t)→0≤c
theorem putV_done(H:Ht)(d x:Int):(putV H d x).done=H.done:=by unfold putV;split<;>rfl
theorem loadH_done(H:Ht)(ps:List (Int×Int))(zs:List Int)(x:Int):(loadH H ps zs x).done=H.done:=by
 unfold loadH drH
 split
 ·rfl
 ·split<;>rfl
theorem storeH_done(H:Ht)(ps:List (Int×Int))(zs:List Int)(x y:Int):(storeH H ps zs x y).done=H.done:=by
 unfold storeH dwW outW
 split
 ·rfl
 ·split
  ·split<;>rfl
  ·split
   ·rfl
   ·split<;>rfl
theorem doV_dk(H:Ht)(ps:List (Int×Int))(zs:List Int)(ri op:Int)(d a:Nat)(im:Int):Dk H ps zs (doV H ps zs ri op d a im):=by
 have plain:∀(n:Int) (G:Ht) (rj:Int),G.done=H.done→Dk H ps zs ⟨none,n,G,zs,rj⟩:=fun n G rj h=>⟨h,.inl rfl,fun c t e=>by cases e⟩
 have trap:∀(c t:Int) (rj:Int),0≤c→Dk H ps zs ⟨some (c,t),0,H,zs,rj⟩:=fun c t rj h=>⟨rfl,.inl rfl,fun c' t' e=>by
  simp only[Option.some.injEq,Prod.mk.injEq]at e
  omega⟩
 by_cases h12:op=12
 ·subst h12;exact plain _ _ _ (putV_done _ _ _)
 by_cases h13:op=13
 ·subst h13;exact plain _ _ _ (putV_done _ _ _)
 by_cases h14:op=14
 ·subst h14
  rw[show doV H ps zs ri 14 d a im=if plC H ps zs (addV (gt H.regs a) (offV im)) 1=0 then⟨none,(addV H.pc 1),putV (loadH H ps zs (addV (gt H.regs a) (offV im))) d (loadW H ps zs (addV (gt H.regs a) (offV im))),zs,ri⟩else⟨some (3,(addV (gt H.regs a) (offV im))),0,H,zs,ri⟩from rfl]
  split
  ·exact plain _ _ _ ((putV_done _ _ _).trans (loadH_done _ _ _ _))
  ·exact trap _ _ _ (by decide)
 by_cases h15:op=15
 ·subst h15
  rw[show doV H ps zs ri 15 d a im=if plC H ps zs (addV (gt H.regs a) (offV im)) 2=0 then⟨none,(addV H.pc 1),storeH H ps zs (addV (gt H.regs a) (offV im)) (gt H.regs d),storeZ H ps zs (addV (gt H.regs a) (offV im)) (gt H.regs d),storeR H ps zs (addV (gt H.regs a) (offV im)) (gt H.regs d) ri⟩else⟨some (4,(addV (gt H.regs a) (offV im))),0,H,zs,ri⟩from rfl]
  split
  ·rename_i hz
   refine⟨storeH_done _ _ _ _ _,?_,fun c t e=>by cases e⟩
   show storeZ H ps zs _ _=zs∨_
   unfold storeZ
   split
   ·rename_i hl
    exact .inr ⟨rfl,_,_,hz,hl,rfl⟩
   ·exact .inl rfl
  ·exact trap _ _ _ (by decide)
 by_cases h16:op=16
 ·subst h16;exact plain _ _ _ rfl
 by_cases h17:op=17
 ·subst h17;exact plain _ _ _ rfl
 by_cases h18:op=18
 ·subst h18;exact plain _ _ _ rfl
 by_cases h19:op=19
 ·subst h19;exact plain _ _ _ (putV_done _ _ _)
 by_cases h20:op=20
 ·subst h20;exact plain _ _ _ (putV_done _ _ _)
 by_cases h21:op=21
 ·subst h21;exact plain _ _ _ (putV_done _ _ _)
 by_cases h22:op=22
 ·subst h22;exact plain _ _ _ rfl
 by_cases h23:op=23
 ·subst h23;exact trap _ _ _ (by decide)
 by_cases h24:op=24
 ·subst h24;exact plain _ _ _ rfl
 by_cases h25:op=25
 ·subst h25;exact plain _ _ _ rfl
 by_cases h26:op=26
 ·subst h26;exact plain _ _ _ rfl
 rw[show doV H ps zs ri op d a im=⟨none,(addV H.pc 1),putV H d (aluV op (gt H.regs a) (gt H.regs im.toNat)),zs,ri⟩ by
  unfold doV
  rw[if_neg h12,if_neg h13,if_neg h14,if_neg h15,if_neg h16,if_neg h17,if_neg h18,if_neg h19,if_neg h20,if_neg h21,if_neg h22,if_neg h23,if_neg h24,if_neg h25,if_neg h26]]
 exact plain _ _ _ (putV_done _ _ _)
structure Sp2(H:Ht)(ps:List (Int×Int))(zs:List Int)(r:Ht×List Int×Int×Int):Prop where
 d:r.1.done=H.done∨(r.1.done=min (H.done+1) 1000000000∧r.2.2.1= -1)
 z:r.2.1=zs∨∃x y,plC (waitV H) ps zs x 2=0∧plV (waitV H) ps zs x 2<1000∧r.2.1=zs.set (plV (waitV H) ps zs x 2).toNat y
 h:H.halted=true→r.1.pc=H.pc
theorem stepV_keeps(H:Ht)(ps:List (Int×Int))(zs:List Int):Sp2 H ps zs (stepV H ps zs (-1) (-1)):=by
 unfold stepV
 by_cases h1:H.halted=true
 ·rw[if_pos h1];exact⟨.inl rfl,.inl rfl,fun _=>rfl⟩
 rw[if_neg h1]
 by_cases h2:¬dueV H<0
 ·rw[if_pos h2];exact⟨.inl rfl,.inl rfl,fun h=>absurd h h1⟩
 rw[if_neg h2]
 by_cases h3:(waitV H).waiting=true
 ·rw[if_pos h3];exact⟨.inl rfl,.inl rfl,fun h=>absurd h h1⟩
 rw[if_neg h3]
 by_cases h4:¬plC (waitV H) ps zs H.pc 4=0
 ·rw[if_pos h4];exact⟨.inl rfl,.inl rfl,fun h=>absurd h h1⟩
 rw[if_neg h4]
 by_cases h5:¬decF (fetZ (waitV H) ps zs)=0
 ·rw[if_pos h5];exact⟨.inl rfl,.inl rfl,fun h=>absurd h h1⟩
 rw[if_neg h5]
 have k:=doV_dk (waitV H) ps zs (-1) (fetZ (waitV H) ps zs/16777216) (fetZ (waitV H) ps zs/1048576%16).toNat (fetZ (waitV H) ps zs/65536%16).toNat (fetZ (waitV H) ps zs%65536)
 generalize doV (waitV H) ps zs (-1) (fetZ (waitV H) ps zs/16777216) (fetZ (waitV H) ps zs/1048576%16).toNat (fetZ (waitV H) ps zs/65536%16).toNat (fetZ (waitV H) ps zs%65536)=r at k
 obtain⟨t,n,G,ys,rj⟩:=r
 cases t with
 |none=>
  refine⟨.inr ⟨?_,rfl⟩,?_,fun h=>absurd h h1⟩
  ·show min (G.done+1) 1000000000=_
   rw[show G.done=H.done from k.d]
  ·rcases k.z with e|⟨_,x,y,e1,e2,e3⟩
   ·exact .inl e
   ·exact .inr ⟨x,y,e1,e2,e3⟩
 |some ct=>
  obtain⟨c,t⟩:=ct
  refine⟨.inl k.d,?_,fun h=>absurd h h1⟩
  rcases k.z with e|⟨e,_⟩
  ·exact .inl e
  ·cases e
variable{H:Ht}{ps:List (Int×Int)}{zs:List Int}{p:Nat}
theorem place_may(s:Sn H ps zs p)(x:Int)(hc:plC H ps zs x 2=0)(hv:plV H ps zs x 2<1000):
  ∃k:Nat,k<8∧0≤plV H ps zs x 2∧(ps.getD k (0,0)).1=plV H ps zs x 2/8∧(bits BinOp.and .i64 (ps.getD k (0,0)).2 2==0)=false:=by
 unfold plC at hc
 unfold plV at hv ⊢
 by_cases hs:spC H ps=0
 case neg=>rw[if_neg hs]at hc;exact absurd hc hs
 rw[if_pos hs]at hc hv ⊢
 obtain⟨hl,ho⟩:=sp_ok s hs
 by_cases hw:wkC (spP H ps zs) x 2=0
 case neg=>rw[if_neg hw]at hc;exact absurd hc hw
 rw[if_pos hw]at hc hv ⊢
 obtain⟨_,_,g1,g2⟩:=sp_goes ho (by decide) hw
 generalize wkV (spP H ps zs) x 2=y at*
 unfold behC at hc
 unfold behV at hv ⊢
 by_cases h7:y/8=7
 ·rw[if_pos h7,if_neg (by decide)]at hv
  omega
 rw[if_neg h7]at hc hv ⊢
 have hg:goesB ps y 2=true:=by
  cases hg:goesB ps y 2
  ·unfold wkC at hc
   rw[hg]at hc
   exact absurd hc (by decide)
  ·rfl
 have ev:wkV ps y 2=goesTo ps y:=by simp[wkV,hg,kindB]
 obtain⟨y0,y63,p0,p1⟩:=goes_in s.ok hg
 refine⟨(y/8).toNat,by omega,?_,?_,?_⟩
 ·rw[ev];unfold goesTo;omega
 ·rw[ev];unfold goesTo;omega
 ·unfold goesB at hg
  simp only[Bool.and_eq_true,Bool.not_eq_true']at hg
  exact hg.2
theorem Sn.wait(s:Sn H ps zs p):Sn (waitV H) ps zs p:=s.to_hok (wait_hok s.hok _)
theorem step_all{H:Ht}{ps:List (Int×Int)}{zs:List Int}(h:seenC H ps zs=0):
  (smV H ps zs 1).code=0∧hfV (smV H ps zs 1).H=0∧memV (smV H ps zs 1).zs=0∧(smV H ps zs 1).zs.length=zs.length∧(smV H ps zs 1).H.regs.getD 0 0=0∧(smV H ps zs 1).H.regs.length=16∧
   H.done≤(smV H ps zs 1).H.done∧(smV H ps zs 1).H.done≤H.done+1∧(0≤(smV H ps zs 1).ca→(smV H ps zs 1).H.done=H.done)∧(H.halted=true→(smV H ps zs 1).H.pc=H.pc)∧(0≤H.done∧H.done≤1000000000)∧
   ∀i:Nat,i<zs.length→¬(smV H ps zs 1).zs.getD i 0=zs.getD i 0→∃k:Nat,k<8∧(ps.getD k (0,0)).1=(i:Int)/8∧(bits BinOp.and .i64 (ps.getD k (0,0)).2 2==0)=false:=by
 obtain⟨p,sn⟩:=seen_ok h
 rw[smV_good h (by decide) (by decide)]
 show 0=0∧hfV (stepV H ps zs (-1) (-1)).1=0∧memV (stepV H ps zs (-1) (-1)).2.1=0∧_
 have sn':Sn (stepV H ps zs (-1) (-1)).1 ps (stepV H ps zs (-1) (-1)).2.1 p:=stepV_sn sn _ _
 have k:=stepV_keeps H ps zs
 have e:(manyV ps (1:Int).toNat (H,zs, -1, -1))=stepV H ps zs (-1) (-1):=rfl
 rw[e]
 generalize stepV H ps zs (-1) (-1)=r at*
 have hs:=sn_seen sn'
 have d0:=sn.hok.d0
 have d9:=sn.hok.d9
 have d9':=sn'.hok.d9
 have hh:hfV r.1=0:=hfV_ok sn'.hok
 have hm:memV r.2.1=0:=by
  have hz:=sn'.zl;have h1:=sn'.p1;have h2:=sn'.p24
  unfold memV
  rw[if_pos (by unfold formB;exact decide_eq_true (by omega)),if_pos sn'.zw]
 refine⟨rfl,hh,hm,by rw[sn'.zl,sn.zl],sn'.hok.r0,sn'.hok.r16,?_,?_,?_,k.h,⟨d0,d9⟩,?_⟩
 ·show H.done≤r.1.done
  rcases k.d with e|⟨e,_⟩<;>omega
 ·show r.1.done≤H.done+1
  rcases k.d with e|⟨e,_⟩<;>omega
 ·intro hca
  have hca:0≤r.2.2.1:=hca
  rcases k.d with e|⟨_,e⟩
  ·exact e
  ·omega
 ·intro i hi hne
  have hne:¬r.2.1.getD i 0=zs.getD i 0:=hne
  rcases k.z with e|⟨x,y,e1,e2,e3⟩
  ·rw[e]at hne;exact absurd rfl hne
  ·obtain⟨kk,h8,h0,h3,h4⟩:=place_may sn.wait x e1 e2
   by_cases hx:(plV (waitV H) ps zs x 2).toNat=i
   ·exact⟨kk,h8,by rw[h3];omega,h4⟩
   ·rw[e3,List.getD,List.getElem?_set_ne hx]at hne
    exact absurd rfl hne
end Go.Proofs.YtaefollmeoepkaaGreatDoor
