import Derived.Test.YtaefollmeoepkaaGreatDoorQ29
namespace Go.Proofs.YtaefollmeoepkaaGreatDoor
set_option maxRecDepth 20000
set_option maxHeartbeats 16000000
open Go.RowKit
set_option linter.unusedVariables false
def fetZ(H:Ht)(ps:List (Int×Int))(zs:List Int):Int:=zs.getD (plV H ps zs H.pc 4).toNat 0
variable{w:World}{base q:Nat}{i o:Value}{pg pc:Nat}{ps:List (Int×Int)}{g p:Nat}{zs:List Int}{X:Nat→Prop}{H:Ht}{ca ri:Int}
theorem r_fetchNo(R:Rw w base q i o pg pc ps g p zs H ca ri X)(hz:¬plC H ps zs H.pc 4=0):
  Calls Tryz.prog 77 #[.pointer (some ⟨q,0,none⟩)] w fun e w'=>e=pan 2 H.pc∧Below w.heap.size w w':=by
 have c16:w.cell? ⟨q,16,none⟩=some (.int .i64 H.pc):=R.v.cell 16 rfl
 have ql:q<w.heap.size:=R.v.lt
 have P:=r_reachNo (R.keep (al (Below.refl _ _) (.cells #[.int .i64 0,.int .i64 0,.int .i64 0,.int .i64 0] 43))) H.pc 4 2 rfl hz
 clear R hz
 go_enter Tryz.func77,Tryz.ntmps77
 go_wp2_with fail
 refine P.mono ?_
 rintro e w1⟨he,b1⟩
 unfold pan at he
 subst he
 go_wp2_with fail
 exact⟨rfl,rfl,on (al (Below.refl _ _) _) b1⟩
theorem fourX{v:World}{q:Nat}{t:TypeId}{z0 z1 z2 z3:Value}(h:Vb v q #[z0,z1,z2,z3] t)(u0 u1 u2 u3:Value):
  Vb ((((v.setCell ⟨q,0,none⟩ u0).setCell ⟨q,1,none⟩ u1).setCell ⟨q,2,none⟩ u2).setCell ⟨q,3,none⟩ u3) q #[u0,u1,u2,u3] t∧Mq (fun k=>k=q) v ((((v.setCell ⟨q,0,none⟩ u0).setCell ⟨q,1,none⟩ u1).setCell ⟨q,2,none⟩ u2).setCell ⟨q,3,none⟩ u3):=by
 have h0:Vb (v.setCell ⟨q,0,none⟩ u0) q #[u0,z1,z2,z3] t:=h.set 0 u0
 have h1:Vb _ q #[u0,u1,z2,z3] t:=h0.set 1 u1
 have h2:Vb _ q #[u0,u1,u2,z3] t:=h1.set 2 u2
 exact⟨h2.set 3 u3,((((Mq.refl (fun k=>k=q) v).set ⟨q,0,none⟩ u0 rfl).set ⟨q,1,none⟩ u1 rfl).set ⟨q,2,none⟩ u2 rfl).set ⟨q,3,none⟩ u3 rfl⟩
theorem fet_at(R:Rw w base q i o pg pc ps g p zs H ca ri X)(hz:plC H ps zs H.pc 4=0):∃a:Nat,plV H ps zs H.pc 4=(a:Int)∧a<p*8∧fetZ H ps zs=zs.getD a 0:=by
 obtain⟨a,ha,hp⟩:=pl_run R.sn hz
 exact⟨a,ha,hp,by unfold fetZ;rw[ha];rfl⟩
theorem r_fetch(R:Rw w base q i o pg pc ps g p zs H ca ri X)(hz:plC H ps zs H.pc 4=0)(d0 d1 d2 d3 d4:Int)(hd:decV (fetZ H ps zs)=.agg #[.int .i64 d0,.int .i64 d1,.int .i64 d2,.int .i64 d3,.int .i64 d4]):
  Calls Tryz.prog 77 #[.pointer (some ⟨q,0,none⟩)] w fun e w'=>(if d0=0 then e=.returned (.agg #[.int .i64 d1,.int .i64 d2,.int .i64 d3,.int .i64 d4])else e=pan 1 (fetZ H ps zs))∧Below w.heap.size w w':=by
 obtain⟨a,ha,hap,hf⟩:=fet_at R hz
 have P:=r_reachOk (R.keep (al (Below.refl _ _) (.cells #[.int .i64 0,.int .i64 0,.int .i64 0,.int .i64 0] 43))) H.pc 4 2 rfl hz
 rw[ha]at P
 obtain⟨z,hz1⟩:∃z,fetZ H ps zs=z:=⟨_,rfl⟩
 rw[hz1]at hf hd ⊢
 have HR:=hid R
 have HA:Hid (a<p*8∧zs.getD a 0=z):=⟨hap,hf.symm⟩
 have HD:=hid hd
 generalize hW:w.alloc (.cells #[.int .i64 0,.int .i64 0,.int .i64 0,.int .i64 0] 43)=W at P
 have B0:Hid (Below w.heap.size w W):=by show Below _ _ _;rw[←hW];exact al (Below.refl _ _) _
 obtain⟨s,hS⟩:∃s,w.heap.size=s:=⟨_,rfl⟩
 have HS:=hid hS
 have VR:Hid (Vb W s #[.int .i64 0,.int .i64 0,.int .i64 0,.int .i64 0] 43):=by show Vb _ _ _ _;rw[←hW,←hS];exact Vb.new _ _ _
 have R0:=hid (R.keep B0.out)
 have c16:W.cell? ⟨q,16,none⟩=some (.int .i64 H.pc):=R0.out.v.cell 16 rfl
 clear R hz ha hap hf hz1 hd
 go_enter Tryz.func77,Tryz.ntmps77
 go_wp2_with fail
 clear hW hS
 refine P.mono ?_
 rintro e w1⟨rfl,b1⟩
 have R1:=hid (R0.out.keep b1)
 have B1:=hid (on B0.out b1)
 have V1:=hid (VR.out.keep b1)
 have WA:=i_wordAt q i o H _ g p zs ca ri base w1 R1.out.v R1.out.pgs a HA.out.1 HR.out.sn.p24
 rw[HA.out.2]at WA
 clear P b1 c16
 go_wp2_with fail
 refine WA.mono ?_
 rintro e y⟨rfl,hy⟩
 rw[hy]
 clear hy y WA
 go_wp2_with fail
 have DE:=impl_decode z w1
 rw[HD.out]at DE
 refine DE.mono ?_
 rintro e w2⟨rfl,b2⟩
 clear DE
 go_upto_region 3 with fail
 generalize hW2:w2.alloc (.cells #[.int .i64 d0,.int .i64 d1,.int .i64 d2,.int .i64 d3,.int .i64 d4] 45)=W2
 obtain⟨n,hn⟩:∃n,w2.heap.size=n:=⟨_,rfl⟩
 rw[hn]
 have VN:Hid (Vb W2 n #[.int .i64 d0,.int .i64 d1,.int .i64 d2,.int .i64 d3,.int .i64 d4] 45):=by show Vb _ _ _ _;rw[←hW2,←hn];exact Vb.new _ _ _
 have bb:Below w1.heap.size w1 W2:=by rw[←hW2];exact al b2 _
 have B2:=hid (on B1.out bb)
 have V2:=hid (V1.out.keep bb)
 clear hW2 hn b2 bb
 obtain⟨n0,n1,n2,n3,n4⟩:=zc5 VN.out
 by_cases h0:d0=0
 ·subst h0
  have p0:=V2.out.cell 0 rfl
  have p1:=V2.out.cell 1 rfl
  have p2:=V2.out.cell 2 rfl
  have p3:=V2.out.cell 3 rfl
  have f0:=V2.out.free 0
  have f1:=V2.out.free 1
  have f2:=V2.out.free 2
  have f3:=V2.out.free 3
  go_wp2_with fail
  have NN:Hid (_∧_):=fourX V2.out (.int .i64 d1) (.int .i64 d2) (.int .i64 d3) (.int .i64 d4)
  clear p0 f0 p1 f1 p2 f2 p3 f3 n0 n1 n2 n3 n4
  generalize ((((W2.setCell ⟨s,0,none⟩ (.int .i64 d1)).setCell ⟨s,1,none⟩ (.int .i64 d2)).setCell ⟨s,2,none⟩ (.int .i64 d3)).setCell ⟨s,3,none⟩ (.int .i64 d4))=V at*
  have x0:=NN.out.1.cell 0 rfl
  have x1:=NN.out.1.cell 1 rfl
  have x2:=NN.out.1.cell 2 rfl
  have x3:=NN.out.1.cell 3 rfl
  exact bodyPost_ret (v:=.agg #[.int .i64 d1,.int .i64 d2,.int .i64 d3,.int .i64 d4]) (by simp[results,Tryz.results77,go_sem,x0,x1,x2,x3]) rfl ⟨rfl,Mq.under B2.out NN.out.2 fun k e=>by have:=HS.out;omega⟩
 ·have hb:(d0 !=0)=true:=by simpa using h0
  go_wp2_with fail
  exact⟨rfl,by rw[if_neg h0];rfl,B2.out⟩
end Go.Proofs.YtaefollmeoepkaaGreatDoor
