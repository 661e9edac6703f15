import Derived.Deep.Cut
import Derived.Deep.CutRange
import Derived.Test.YtignbeibcakgpaaGreatDoorQ08
import Derived.Test.YtignbeibcakgpaaGreatDoorQ09
import Derived.Test.YtignbeibcakgpaaGreatDoorQ15
namespace Go.Proofs.YtignbeibcakgpaaGreatDoor
set_option maxRecDepth 20000
set_option maxHeartbeats 16000000
open Go.RowKit
set_option linter.unusedVariables false
theorem impl_fromR(g o cap:Nat)(zs:List Int)(w:World)(hl:zs.length=8)(h:∀j,j<8→w.cell? ⟨g,o+j,none⟩=some (.int .i64 (zs.getD j 0))):
  Calls Tryz.prog 167 #[.slice (some ⟨g,o,none⟩) 8 cap] w fun e w'=>∃u,e=.returned (.agg #[.int .i64 (fromC zs),u])∧Prs 89 w' w.heap.size u (fromP zs)∧Below w.heap.size w w':=by
 have HZ:=hid h
 have HN:=hid hl
 have HC:Hid (fromC zs=if zs.all isW then 0 else 3):=if_pos hl
 have HP:Hid (fromP zs=if zs.all isW then zs.map entP else []):=if_pos hl
 generalize fromC zs=cz at*
 generalize fromP zs=pz at*
 clear h hl
 go_enter Tryz.func167,Tryz.ntmps167
 go_wp2_with fail
 go_loopw [3,5,6,13] (fun u _ _ c wr=>∃j:Nat,j≤8∧c=.int .i64 j∧(zs.take j).all isW=true∧Prs 89 wr (w.heap.size+1) u ((zs.take j).map entP)∧wr.cell? ⟨w.heap.size,0,none⟩=some (.int .i64 0)∧wr.cell? ⟨w.heap.size,1,none⟩=some (.slice none 0 0)∧wr.frozen? ⟨w.heap.size,0,none⟩=false∧wr.frozen? ⟨w.heap.size,1,none⟩=false∧Below w.heap.size w wr) (fun _ _ _ c _=>8-(intOf c).toNat)
 case atStart=>exact⟨0,Nat.zero_le _,rfl,rfl,Prs.nil _ _ _,by simp,by simp,by simp,by simp,al (Below.refl _ _) _⟩
 case round=>
  obtain⟨j,hj,rfl,hA,hP,r0,r1,f0,f1,hB⟩:=hrel
  have PB:Hid (Prs 89 wr (w.heap.size+1) _ ((zs.take j).map entP)):=hP
  have HB:=hid hB
  have HA:=hid hA
  have s0:w.heap.size<wr.heap.size:=block_of_cell r0
  obtain⟨ua,uc,rfl,_,_,_⟩:=hP.shape
  have HLN:Hid (((zs.take j).map entP).length≤8∧((zs.take j).map entP).length≤8):=⟨by simp;omega,by simp;omega⟩
  generalize hun:((zs.take j).map entP).length=un at*
  clear hP
  by_cases hlt:j<8
  ·have c1:=cell_keep hB (HZ.out j hlt)
   have gb:g<wr.heap.size:=block_of_cell c1
   have hI:(j:Int)<8:=by omega
   have HL:=hid hlt
   have hE:=fun w=>impl_entryOf (zs.getD j 0) w
   have HT:=all_take zs j (by have:=HN.out;omega)
   rw[hA]at HT
   have HX:=all_not zs j (by have:=HN.out;omega)
   have HM:=from_take zs j (by have:=HN.out;omega)
   cases hw:isW (zs.getD j 0)
   ·rw[show entC (zs.getD j 0)=3 by rw[entC,hw];rfl,show entE (zs.getD j 0)=(0,0) by rw[entE,hw];rfl]at hE
    have HXX:Hid (cz=3∧pz=[]):=⟨by rw[HC.out,HX hw];rfl,by rw[HP.out,HX hw];rfl⟩
    generalize zs.getD j 0=z at*
    clear hB hlt hA HT HX HM hw
    go_wp2_with fail
    refine(hE _).mono ?_
    rintro e w5⟨rfl,b5⟩
    have r0:=cell_keep b5 r0
    have r1:=cell_keep b5 r1
    have f0:w5.frozen? ⟨w.heap.size,0,none⟩=false:=by rw[b5.frozen (p:=⟨w.heap.size,0,none⟩) s0];exact f0
    have f1:w5.frozen? ⟨w.heap.size,1,none⟩=false:=by rw[b5.frozen (p:=⟨w.heap.size,1,none⟩) s0];exact f1
    have B5:=hid (on HB.out b5)
    have s5:w.heap.size<w5.heap.size:=block_of_cell r0
    clear b5
    go_wp2_with fail
    exact bodyPost_ret (v:=.agg #[.int .i64 3,.slice none 0 0]) (by simp[results,Tryz.results167,go_sem,r0,r1,s5]) rfl ⟨_,by rw[HXX.out.1],by rw[HXX.out.2];exact Prs.nil _ _ _,al ((B5.out.setCell (by simp) _).setCell (by simp) _) _⟩
   ·rw[show entC (zs.getD j 0)=0 by rw[entC,hw];rfl,show entE (zs.getD j 0)=entP (zs.getD j 0) by rw[entE,hw];rfl]at hE
    rw[hw]at HT
    have HTT:Hid ((zs.take (j+1)).all isW=true):=HT
    have HMM:Hid ((zs.take (j+1)).map entP=(zs.take j).map entP++ [((entP (zs.getD j 0)).1,(entP (zs.getD j 0)).2)]):=HM
    generalize (entP (zs.getD j 0)).1=p at*
    generalize (entP (zs.getD j 0)).2=q at*
    generalize zs.getD j 0=z at*
    clear hB hlt hA HT HX HM hw
    go_wp2_with fail
    refine(hE _).mono ?_
    rintro e w5⟨rfl,b5⟩
    have r0:=cell_keep b5 r0
    have r1:=cell_keep b5 r1
    have f0:w5.frozen? ⟨w.heap.size,0,none⟩=false:=by rw[b5.frozen (p:=⟨w.heap.size,0,none⟩) s0];exact f0
    have f1:w5.frozen? ⟨w.heap.size,1,none⟩=false:=by rw[b5.frozen (p:=⟨w.heap.size,1,none⟩) s0];exact f1
    have B5:=hid (on HB.out b5)
    have P5:=hid (PB.out.keep b5)
    have s5:w.heap.size<w5.heap.size:=block_of_cell r0
    have S5:=hid s5
    clear b5 hE
    go_wp2_with (at_builtin;refine wp_pair 48 89 Tryz.underlying48 info_page _ rfl _ _ rfl (w.heap.size+1) _ _ rfl (P5.out.keep (al (al (Below.refl _ _) _) _)) _ p q rfl (cell_new2 rfl) (cell_new2 rfl) (by rw[hun];have:=HLN.out;omega) (by have:=S5.out;simp;omega) ?_;intro v' w' hP' hG')
    have PP:Hid (Prs 89 w' (w.heap.size+1) v' _):=hP'
    have BP:Hid (Below w.heap.size w w'):=(al (al B5.out _) _).grown hG' (by have:=S5.out;simp;omega) (fun k hk=>by have:=(P5.out.lt k hk).1;omega)
    have hne:some w.heap.size≠(Value.slice ua un uc).ownBlock:=pown_not P5.out _ (.inl (by omega))
    have r0:=cell_grown hG' (cell_push _ (cell_push _ r0)) hne
    have r1:=cell_grown hG' (cell_push _ (cell_push _ r1)) hne
    have f0:w'.frozen? ⟨w.heap.size,0,none⟩=false:=by rw[frozen_grown (p:=⟨w.heap.size,0,none⟩) hG' (by simp;omega) hne,(al (al (Below.refl w5.heap.size w5) _) _).frozen (p:=⟨w.heap.size,0,none⟩) s5];exact f0
    have f1:w'.frozen? ⟨w.heap.size,1,none⟩=false:=by rw[frozen_grown (p:=⟨w.heap.size,1,none⟩) hG' (by simp;omega) hne,(al (al (Below.refl w5.heap.size w5) _) _).frozen (p:=⟨w.heap.size,1,none⟩) s5];exact f1
    clear hP' hG' hne
    go_wp2_with fail
    go_roundw
    case rel=>exact⟨j+1,by have:=HL.out;omega,by go_num,HTT.out,by rw[HMM.out];exact PP.out,r0,r1,f0,f1,BP.out⟩
    case measure=>have:=HL.out;simp[intOf];omega
  ·have hI:¬(j:Int)<8:=by omega
   obtain rfl:j=8:=by omega
   have hz8:zs.take 8=zs:=List.take_of_length_le (Nat.le_of_eq HN.out)
   rw[hz8]at PB HA
   have HXX:Hid (cz=0∧pz=zs.map entP):=⟨by rw[HC.out,HA.out];rfl,by rw[HP.out,HA.out];rfl⟩
   have hv:Hid (some w.heap.size≠(Value.slice ua un uc).ownBlock):=pown_not PB.out _ (.inl (by omega))
   clear hB hA
   go_wp2_with fail
   exact bodyPost_ret (v:=.agg #[.int .i64 0,.slice ua un uc]) (by simp[results,Tryz.results167,go_sem,r0,r1]) rfl ⟨_,by rw[HXX.out.1],by rw[HXX.out.2];exact((PB.out.put _ _ (fun e=>hv.out e.symm)).put _ _ (fun e=>hv.out e.symm)).mono (by omega),(HB.out.setCell (by simp) _).setCell (by simp) _⟩
theorem getV_at(H:Ht)(n:Nat)(h6:n≠6)(h8:n≠8):getV H (n:Int)=gt H.csr n:=by
 unfold getV
 rw[if_neg (by omega),if_neg (by omega)]
 rfl
def tabV(H:Ht):Int:=H.csr.getD 10 0
def tpg(H:Ht)(ps:List (Int×Int)):Int×Int:=ps.getD (tabV H-1).toNat (0,0)
def strL:List (Int×Int):=[(0,7),(1,7),(2,7),(3,7),(4,7),(5,7),(6,7),(7,7)]
def noB(H:Ht)(ps:List (Int×Int)):Bool:=decide (tabV H=8)||(bits BinOp.and .i64 (tpg H ps).2 1==0)
def spC(H:Ht)(ps:List (Int×Int)):Int:=if tabV H=0 then 0 else if noB H ps then 7 else 0
def spP(H:Ht)(ps:List (Int×Int))(zs:List Int):List (Int×Int):=if tabV H=0 then strL else if noB H ps then []else(eight zs (tpg H ps).1.toNat).map entP
def behC(ps:List (Int×Int))(y k:Int):Int:=if y/8=7 then(if k=4 then 9 else 0)else wkC ps y k
def behV(ps:List (Int×Int))(y k:Int):Int:=if y/8=7 then(if k=4 then 0 else 1000+y%8)else wkV ps y k
def plC(H:Ht)(ps:List (Int×Int))(zs:List Int)(x k:Int):Int:=if spC H ps=0 then(if wkC (spP H ps zs) x k=0 then behC ps (wkV (spP H ps zs) x k) k else wkC (spP H ps zs) x k)else spC H ps
def plV(H:Ht)(ps:List (Int×Int))(zs:List Int)(x k:Int):Int:=if spC H ps=0 then(if wkC (spP H ps zs) x k=0 then behV ps (wkV (spP H ps zs) x k) k else 0)else 0
structure Sn(H:Ht)(ps:List (Int×Int))(zs:List Int)(p:Nat):Prop where
 hok:Hok H
 l8:ps.length=8
 ok:okTo 24 ps 8
 zl:zs.length=p*8
 p1:1≤p
 p24:p≤24
 zw:zs.all isW=true
 tl:∀j,j<8→(ps.getD j (0,0)).1<p
 t0:0≤tabV H
 t8:tabV H≤8
theorem okTo_up{ps:List (Int×Int)}{n:Nat}(h:okTo 8 ps n):okTo 24 ps n:=fun i hi=>by
 have:=pgC_zero (h i hi)
 exact pgC_ok ⟨by omega,by omega,by omega,by omega⟩ (fun e=>e.2 (this.2.2.2.2 e.1))
theorem okTo_str:okTo 8 strL 8:=fun i hi=>by
 have e:i=0∨i=1∨i=2∨i=3∨i=4∨i=5∨i=6∨i=7:=by omega
 rcases e with rfl|rfl|rfl|rfl|rfl|rfl|rfl|rfl<;>rfl
theorem okTo_ent{zs:List Int}(hl:zs.length=8)(hw:zs.all isW=true):okTo 8 (zs.map entP) 8:=fun i hi=>by
 have hm:=List.all_eq_true.1 hw _ (List.getElem_mem (l:=zs) (n:=i) (by omega))
 obtain⟨h0,h1⟩:=isW_true hm
 rw[List.getD,List.getElem?_map,List.getElem?_eq_getElem (by omega)]
 simp only[Option.map_some,Option.getD_some]
 unfold entP
 split
 ·rfl
 ·rename_i h
  exact pgC_ok ⟨by simp;omega,by simp;omega,by simp;omega,by simp;omega⟩ (by simp;omega)
theorem all_eight{zs:List Int}(h:zs.all isW=true)(j:Nat):(eight zs j).all isW=true:=by
 rw[List.all_eq_true]at h ⊢
 intro x hx
 exact h x (List.mem_of_mem_drop (List.mem_of_mem_take hx))
variable{H:Ht}{ps:List (Int×Int)}{zs:List Int}{p:Nat}
theorem tpg_in(s:Sn H ps zs p)(hz:¬tabV H=0):pgC 24 (tpg H ps).1 (tpg H ps).2=0∧(tpg H ps).1<p:=by
 have h0:=s.t0
 have h8:=s.t8
 have hj:(tabV H-1).toNat<8:=by omega
 exact⟨s.ok _ hj,s.tl _ hj⟩
theorem tpg_to(s:Sn H ps zs p)(hz:¬tabV H=0)(hn:noB H ps=false):∃q:Nat,q<p∧(tpg H ps).1=(q:Int):=by
 obtain⟨h1,h2⟩:=tpg_in s hz
 have h3:=pgC_zero h1
 have h4:(tpg H ps).1≠ -1:=by
  intro e
  have:=h3.2.2.2.2 e
  unfold noB at hn
  rw[this,band_zero]at hn
  simp at hn
 exact⟨(tpg H ps).1.toNat,by omega,by omega⟩
theorem sp_ok(s:Sn H ps zs p)(h:spC H ps=0):(spP H ps zs).length=8∧okTo 8 (spP H ps zs) 8:=by
 by_cases ht:tabV H=0
 ·have e:spP H ps zs=strL:=if_pos ht
  rw[e]
  exact⟨rfl,okTo_str⟩
 ·unfold spC at h
  rw[if_neg ht]at h
  cases hn:noB H ps
  ·obtain⟨q,hq,e1⟩:=tpg_to s ht hn
   have e:spP H ps zs=(eight zs q).map entP:=by
    unfold spP
    rw[if_neg ht,hn,e1]
    simp
   rw[e]
   have l:=eight_length zs p q s.zl hq
   exact⟨by simp[l],okTo_ent l (all_eight s.zw q)⟩
  ·rw[hn]at h
   exact absurd h (by decide)
theorem sp_goes{rs:List (Int×Int)}{x k:Int}(ho:okTo 8 rs 8)(hk:kindB k=true)(h:wkC rs x k=0):goesB rs x k=true∧wkV rs x k=goesTo rs x∧0≤wkV rs x k∧wkV rs x k≤63:=by
 have hg:goesB rs x k=true:=by
  cases hg:goesB rs x k
  ·unfold wkC at h
   rw[hk,hg]at h
   exact absurd h (by rcases kind_cases hk with rfl|rfl|rfl<;>decide)
  ·rfl
 have e:wkV rs x k=goesTo rs x:=by simp[wkV,hk,hg]
 obtain⟨h0,h1,h2,h3⟩:=goes_in ho hg
 refine⟨hg,e,?_,?_⟩<;>rw[e]<;>unfold goesTo<;>omega
variable{v:World}{q:Nat}{t:TypeId}{z0 z1:Value}
theorem two(h:Vb v q #[z0,z1] t)(u0 u1:Value):
  Vb ((v.setCell ⟨q,0,none⟩ u0).setCell ⟨q,1,none⟩ u1) q #[u0,u1] t∧Mq (fun k=>k=q) v ((v.setCell ⟨q,0,none⟩ u0).setCell ⟨q,1,none⟩ u1):=by
 have h0:Vb (v.setCell ⟨q,0,none⟩ u0) q #[u0,z1] t:=h.set 0 u0
 exact⟨h0.set 1 u1,((Mq.refl (fun k=>k=q) v).set ⟨q,0,none⟩ u0 rfl).set ⟨q,1,none⟩ u1 rfl⟩
theorem void_hm(w:World)(base:Nat):Hm w base (.slice none 0 0) (.slice none 0 0) (.slice none 0 0) (.slice none 0 0) voidH:=⟨Nums.nil _ _,Nums.nil _ _,Nums.nil _ _,Nums.nil _ _⟩
theorem void_ha:Ha (.slice none 0 0) (.slice none 0 0) (.slice none 0 0) (.slice none 0 0):=⟨.inl rfl,.inl rfl,.inl rfl,.inl rfl,.inl rfl,.inl rfl⟩
theorem gt_set(zs:List Int)(n j:Nat)(u:Int)(hn:n<zs.length):gt (zs.set n u) j=if j=n then u else gt zs j:=by
 unfold gt
 rw[List.getD_eq_getElem?_getD,List.getD_eq_getElem?_getD,List.getElem?_set]
 by_cases h:n=j
 ·subst h
  simp[hn]
 ·rw[if_neg h,if_neg (fun e=>h e.symm)]
theorem Mq.dr{S:Nat→Prop}{a w:World}(m:Mq S a w):Mq S a w.drew:=⟨m.os,m.tape,m.output,m.size,m.block⟩
def stH(H:Ht)(n:Nat)(u:Int)(r:Bool):Ht:={ H with csr:=H.csr.set n u,rung:=r}
theorem and_two(n:Nat):n&&&2=n/2%2*2:=by
 have h1:n&&&2≤2:=Nat.and_le_right
 have h2:(n&&&2)%2 ^ 2=(n%2 ^ 2)&&&(2%2 ^ 2):=Nat.and_mod_two_pow
 have h3:(n&&&2)%2 ^ 2=n&&&2:=Nat.mod_eq_of_lt (by omega)
 rw[h3,show(2:Nat)%2 ^ 2=2 from rfl,show(2:Nat) ^ 2=4 from rfl]at h2
 rw[h2]
 have e:n%4=0∨n%4=1∨n%4=2∨n%4=3:=by omega
 rcases e with e|e|e|e<;>rw[e]
 ·show 0=_;omega
 ·show 0=_;omega
 ·show 2=_;omega
 ·show 2=_;omega
theorem i64_and_nat(a b:Nat)(ha:a<4611686018427387904)(hb:b<4611686018427387904):bits .and .i64 (a:Int) (b:Int)=((a&&&b:Nat):Int):=by
 have hx:a&&&b≤a:=Nat.and_le_left
 have e:∀c:Nat,c<4611686018427387904→(BitVec.ofInt 64 (c:Int)).toNat=c:=fun c hc=>by
  rw[BitVec.ofInt_natCast,BitVec.toNat_ofNat];exact Nat.mod_eq_of_lt (by omega)
 show IntKind.i64.wrap ((BitVec.ofInt 64 (a:Int)&&&BitVec.ofInt 64 (b:Int)).toNat:Int)=_
 rw[BitVec.toNat_and,e a ha,e b hb,IntKind.wrap_i64]
 omega
theorem bit_two(x:Int)(h0:0≤x)(h1:x≤4294967295):(bits BinOp.and IntKind.i64 x 2 !=0)=decide (2≤x%4):=by
 obtain⟨n,rfl⟩:=Int.eq_ofNat_of_zero_le h0
 have:=i64_and_nat n 2 (by omega) (by omega)
 rw[show((2:Nat):Int)=2 from rfl]at this
 rw[this,and_two]
 by_cases h:2≤(n:Int)%4
 ·rw[decide_eq_true h,bne_iff_ne]
  omega
 ·rw[decide_eq_false h]
  have e:((n/2%2*2:Nat):Int)=0:=by omega
  rw[e]
  rfl
structure Tab(w:World):Prop where
 c0:w.cell? ⟨1,0,none⟩=some (.int .u8 0)
 c1:w.cell? ⟨1,1,none⟩=some (.int .u8 1)
 c3:w.cell? ⟨1,3,none⟩=some (.int .u8 2)
theorem Tab.keep{w w':World}(h:Tab w)(b:Below w.heap.size w w'):Tab w':=⟨cell_keep b h.c0,cell_keep b h.c1,cell_keep b h.c3⟩
theorem both_eq(H:Ht)(h0:0≤gt H.csr 7)(h1:gt H.csr 7≤4294967295):bits BinOp.and IntKind.i64 (pendV H) (gt H.csr 7)=bothV H:=by
 have p:=pend_range H
 obtain⟨a,ha⟩:=Int.eq_ofNat_of_zero_le p.1
 obtain⟨c,hc⟩:=Int.eq_ofNat_of_zero_le h0
 have:=i64_and_nat a c (by omega) (by omega)
 unfold bothV
 show _=(((pendV H).toNat&&&(gt H.csr 7).toNat:Nat):Int)
 rw[ha,hc,this]
 simp
theorem both_range(H:Ht):0≤bothV H∧bothV H≤7:=by
 have p:=pend_range H
 have:(pendV H).toNat&&&(H.csr.getD 7 0).toNat≤(pendV H).toNat:=Nat.and_le_left
 unfold bothV
 omega
theorem i_zeros(x:Int)(w:World)(h1:1≤x)(h7:x≤7)(t:Tab w):
  Calls Tryz.prog 139 #[.int .u64 x] w fun e w'=>e=.returned (.int .i64 (lowV x))∧w'=w:=by
 have t0:=t.c0
 have t1:=t.c1
 have t3:=t.c3
 clear t
 have b1:bits BinOp.and IntKind.u64 1 18446744073709551615=1:=by decide
 have b2:bits BinOp.and IntKind.u64 2 18446744073709551614=2:=by decide
 have b3:bits BinOp.and IntKind.u64 3 18446744073709551613=1:=by decide
 have b4:bits BinOp.and IntKind.u64 4 18446744073709551612=4:=by decide
 have b5:bits BinOp.and IntKind.u64 5 18446744073709551611=1:=by decide
 have b6:bits BinOp.and IntKind.u64 6 18446744073709551610=2:=by decide
 have b7:bits BinOp.and IntKind.u64 7 18446744073709551609=1:=by decide
 have u1:IntKind.u64.wrap (-1)=18446744073709551615:=by decide
 have u2:IntKind.u64.wrap (-2)=18446744073709551614:=by decide
 have u3:IntKind.u64.wrap (-3)=18446744073709551613:=by decide
 have u4:IntKind.u64.wrap (-4)=18446744073709551612:=by decide
 have u5:IntKind.u64.wrap (-5)=18446744073709551611:=by decide
 have u6:IntKind.u64.wrap (-6)=18446744073709551610:=by decide
 have u7:IntKind.u64.wrap (-7)=18446744073709551609:=by decide
 have m1:IntKind.u64.wrap 285870213051353865=285870213051353865:=by decide
 have m2:IntKind.u64.wrap 571740426102707730=571740426102707730:=by decide
 have m4:IntKind.u64.wrap 1143480852205415460=1143480852205415460:=by decide
 have e:x=1∨x=2∨x=3∨x=4∨x=5∨x=6∨x=7:=by omega
 clear h1 h7
 rcases e with rfl|rfl|rfl|rfl|rfl|rfl|rfl
 all_goals
  go_enter Tryz.func139,Tryz.ntmps139
  go_wp2_with fail
  go_ret
  exact⟨rfl,rfl⟩
def mcr(H:Ht)(i o l p:Value)(ca ri:Int):Array Value:=#[.int .i64 (gt H.regs 0),.int .i64 (gt H.regs 1),.int .i64 (gt H.regs 2),.int .i64 (gt H.regs 3),.int .i64 (gt H.regs 4),.int .i64 (gt H.regs 5),.int .i64 (gt H.regs 6),.int .i64 (gt H.regs 7),.int .i64 (gt H.regs 8),.int .i64 (gt H.regs 9),.int .i64 (gt H.regs 10),.int .i64 (gt H.regs 11),.int .i64 (gt H.regs 12),.int .i64 (gt H.regs 13),.int .i64 (gt H.regs 14),.int .i64 (gt H.regs 15),.int .i64 H.pc,.int .i64 (gt H.csr 0),.int .i64 (gt H.csr 1),.int .i64 (gt H.csr 2),.int .i64 (gt H.csr 3),.int .i64 (gt H.csr 4),.int .i64 (gt H.csr 5),.int .i64 (gt H.csr 6),.int .i64 (gt H.csr 7),.int .i64 (gt H.csr 8),.int .i64 (gt H.csr 9),.int .i64 (gt H.csr 10),.bool H.halted,.bool H.waiting,.bool H.rung,.int .i64 H.done,i,o,l,p,.int .i64 ca,.int .i64 ri]
def mrz:Array Value:=#[.int .i64 0,.int .i64 0,.int .i64 0,.int .i64 0,.int .i64 0,.int .i64 0,.int .i64 0,.int .i64 0,.int .i64 0,.int .i64 0,.int .i64 0,.int .i64 0,.int .i64 0,.int .i64 0,.int .i64 0,.int .i64 0,.int .i64 0,.int .i64 0,.int .i64 0,.int .i64 0,.int .i64 0,.int .i64 0,.int .i64 0,.int .i64 0,.int .i64 0,.int .i64 0,.int .i64 0,.int .i64 0,.bool false,.bool false,.bool false,.int .i64 0,.slice none 0 0,.slice none 0 0,.slice none 0 0,.slice none 0 0,.int .i64 0,.int .i64 0]
theorem mcr_one(H:Ht)(i o l p:Value)(ca ri:Int)(hi:i.oneCell'=true)(ho:o.oneCell'=true)(hl:l.oneCell'=true)(hp:p.oneCell'=true):(mcr H i o l p ca ri).all (·.oneCell')=true:=by
 have h1:∀z:Int,(Value.int .i64 z).oneCell'=true:=fun _=>rfl
 have h2:∀z:Bool,(Value.bool z).oneCell'=true:=fun _=>rfl
 simp[mcr,h1,h2,hi,ho,hl,hp]
theorem mrz_there{w:World}{q:Nat}{t:TypeId}{cs:Array Value}(h:Vb w q cs t):w.there q 0 cs.size:=fun j hj=>by
 rw[Nat.zero_add]
 exact⟨by rw[h.cell j (Array.getElem?_eq_getElem hj)];rfl,h.free _⟩
theorem wp_build{op:Oper}{a:Act}{w:World}{K:Act→World→Prop}{Q:Exit→Act→World→Prop}(t:TypeId)(parts:Array (Nat×Operand))(ho:op.op=.build t parts)(cells:Array Value)(hb:Tryz.prog.built t (parts.map fun(i,x)=>(i,a.eval x)).toList=some cells)
  (h:K (a.put op.dst (.agg cells)) w):op.wp Tryz.prog a w K Q:=by
 unfold Oper.wp execOp
 simp only[ho,Sem.run_bind,run_build (P:=Tryz.prog) w t _ cells hb,Sem.run_pure,Result.andThen_ok]
 exact h
theorem i_runnerOver(r c i o:Value)(H:Ht)(la:Option Addr)(ln lc:Nat)(pa:Option Addr)(pn pk:Nat)(b:Nat)(w:World)(h:Hm w b r c i o H)(hk:Hok H):
  Calls Tryz.prog 47 #[.agg #[r,.int .i64 H.pc,c,.bool H.halted,.bool H.waiting,.bool H.rung,.int .i64 H.done,i,o],.slice la ln lc,.slice pa pn pk] w fun e w'=>∃i' o',e=.returned (.agg (mcr H i' o' (.slice la ln lc) (.slice pa pn pk) (-1) (-1)))∧Nums w' w.heap.size i' H.inn∧Nums w' w.heap.size o' H.out∧Apt i' o'∧Below w.heap.size w w'∧∃bo,w.heap.size≤bo∧bo≤w'.heap.size∧Nums w' bo o' H.out∧(∀k,i'.ownBlock=some k→k<bo):=by
 have HM:=hid h
 have K:=hid hk
 obtain⟨a0,k0,rfl,_⟩:=h.r.shape
 obtain⟨a1,k1,rfl,_⟩:=h.c.shape
 obtain⟨a2,k2,rfl,_⟩:=h.i.shape
 obtain⟨a3,k3,rfl,_⟩:=h.o.shape
 clear h hk
 generalize hW:(w.alloc (.cells #[.slice a0 H.regs.length k0,.int .i64 H.pc,.slice a1 H.csr.length k1,.bool H.halted,.bool H.waiting,.bool H.rung,.int .i64 H.done,.slice a2 H.inn.length k2,.slice a3 H.out.length k3] 47)).alloc (.cells #[.int .i64 0,.int .i64 0,.int .i64 0,.int .i64 0,.int .i64 0,.int .i64 0,.int .i64 0,.int .i64 0,.int .i64 0,.int .i64 0,.int .i64 0,.int .i64 0,.int .i64 0,.int .i64 0,.int .i64 0,.int .i64 0,.int .i64 0,.int .i64 0,.int .i64 0,.int .i64 0,.int .i64 0,.int .i64 0,.int .i64 0,.int .i64 0,.int .i64 0,.int .i64 0,.int .i64 0,.int .i64 0,.bool false,.bool false,.bool false,.int .i64 0,.slice none 0 0,.slice none 0 0,.slice none 0 0,.slice none 0 0,.int .i64 0,.int .i64 0] 129)=W
 have B0:Hid (Below w.heap.size w W):=by show Below _ _ _;rw[←hW];exact al (al (Below.refl _ _) _) _
 obtain⟨s,hS⟩:∃s,w.heap.size=s:=⟨_,rfl⟩
 have HS:=hid hS
 have VA:Hid (Vb W s #[.slice a0 H.regs.length k0,.int .i64 H.pc,.slice a1 H.csr.length k1,.bool H.halted,.bool H.waiting,.bool H.rung,.int .i64 H.done,.slice a2 H.inn.length k2,.slice a3 H.out.length k3] 47):=by
  show Vb _ _ _ _;rw[←hW,←hS];exact(Vb.new _ _ _).push _
 have VR:Hid (Vb W (s+1) mrz 129):=by
  have z1:s+1=(w.alloc (.cells #[.slice a0 H.regs.length k0,.int .i64 H.pc,.slice a1 H.csr.length k1,.bool H.halted,.bool H.waiting,.bool H.rung,.int .i64 H.done,.slice a2 H.inn.length k2,.slice a3 H.out.length k3] 47)).heap.size:=by rw[←hS];simp
  show Vb _ _ _ _;rw[←hW,z1];exact Vb.new _ _ _
 have LW:Hid (s+2≤W.heap.size):=by show _≤_;rw[←hW,←hS];simp
 obtain⟨q0,q1,q2,q3,q4,q5,q6,q7,q8⟩:=zc9 VA.out
 go_enter Tryz.func47,Tryz.ntmps47
 go_wp2_with fail
 clear hW hS q0 q1 q2 q3 q4 q5 q6 q7 q8
 refine(i_machineX _ _ _ _ H _ _ (HM.out.keep B0.out) K.out.r16 K.out.c11 (by have:=K.out.i40;omega) (by have:=K.out.o40;omega)).mono ?_
 rintro e w2⟨i2,o2,rfl,mi,mo,ap,b2,bo,bo1,bo2,bo3,bo4⟩
 have BO:Hid (W.heap.size≤bo∧bo≤w2.heap.size):=⟨bo1,bo2⟩
 have BO4:=hid bo4
 have BO3:=hid bo3
 have MI:=hid mi
 have MO:=hid mo
 have AP:=hid ap
 have B2:=hid (on B0.out b2)
 have VR2:=hid (VR.out.keep b2)
 obtain⟨xa,xk,rfl,_⟩:=mi.shape
 obtain⟨ya,yk,rfl,_⟩:=mo.shape
 generalize hxn:H.inn.length=xn at*
 generalize hyn:H.out.length=yn at*
 clear mi mo ap b2 hxn hyn VR VA bo1 bo2 bo3 bo4
 have L2:Hid (s+1<w2.heap.size):=VR2.out.lt
 generalize hX:mcr H (.slice xa xn xk) (.slice ya yn yk) (.slice la ln lc) (.slice pa pn pk) (-1) (-1)=X at*
 have hsz:X.size=38:=by rw[←hX];rfl
 have XO:Hid (X.all (·.oneCell')=true):=by show _=_;rw[←hX];exact mcr_one _ _ _ _ _ _ _ rfl rfl rfl rfl
 have HX:=hid hX
 clear hX
 go_simp
 go_step
 go_step
 go_step
 go_step
 go_step
 go_step
 go_step
 go_step
 refine wp_build _ _ rfl X (by rw[←HX.out];kernel_rfl) ?_
 simp only[Act.put,zT,zZ,zS]
 go_step
 go_step
 have TH:w2.there (s+1) 0 X.size:=by
  have t:=mrz_there VR2.out
  rw[hsz]
  exact t
 refine wp_store_mid 129 (.tmp 6) (.tmp 11) rfl (s+1) 0 X rfl rfl TH (by rw[hsz];kernel_rfl) XO.out ?_
 simp only[Act.put]
 have M4:=mq_cells (s+1) X.toList w2 0
 have B4:Below w.heap.size w (w2.setCells (s+1) 0 X.toList):=Mq.under B2.out M4 fun k e=>by have:=HS.out;omega
 have O4:Ho W.heap.size w2 (w2.setCells (s+1) 0 X.toList):=M4.ho fun k e=>by have:=LW.out;omega
 have R4:(w2.setCells (s+1) 0 X.toList).rangeAt (s+1) 0 X.toList:=World.rangeAt_setCells_same _ _ _ _ (by simpa using TH)
 generalize w2.setCells (s+1) 0 X.toList=w4 at*
 have LD:=run_loadVar_mid (P:=Tryz.prog) w4 (s+1) 0 129 X.toList _ R4 Tryz.underlying129 rfl (by rw[Array.length_toList,hsz];kernel_rfl)
 go_wp2_with fail
 exact bodyPost_ret (v:=.agg X) (by simp[results,Tryz.results47,asAddr];rw[LD]) rfl ⟨_,_,by rw[HX.out],(MI.out.ho O4).mono B0.out.size,(MO.out.ho O4).mono B0.out.size,AP.out,B4,bo,Nat.le_trans B0.out.size BO.out.1,Nat.le_trans BO.out.2 O4.size,BO3.out.ho ⟨O4.size,fun k hb hk=>O4.block k (Nat.le_trans BO.out.1 hb) hk⟩,BO4.out⟩
theorem due_even{H:Ht}(h:gt H.csr 0%2=0):dueV H= -1:=by
 unfold dueV
 exact if_pos (.inl h)
theorem due_none{H:Ht}(h:bothV H=0):dueV H= -1:=by
 unfold dueV
 exact if_pos (.inr h)
theorem due_some{H:Ht}{b:Int}(h:¬gt H.csr 0%2=0)(k:bothV H=b)(hb:¬b=0):dueV H=lowV b:=by
 unfold dueV
 rw[if_neg (fun e=>e.elim h (fun e=>hb (k.symm.trans e))),k]
def Vo(w:World)(q dz:Nat)(K:Nat→Option Value)(cs:Array Value)(t:TypeId):Prop:=
 ∃C,Vb w q C t∧dz+cs.size≤C.size∧(∀j,j<cs.size→C[dz+j]? =cs[j]?)∧∀j,(j<dz∨dz+cs.size≤j)→C[j]? =K j
variable{w:World}{q:Nat}{cs:Array Value}{t:TypeId}
theorem Vo.of(h:Vb w q cs t):Vo w q 0 (fun _=>none) cs t:=
 ⟨cs,h,by omega,fun j _=>by rw[Nat.zero_add],fun j hj=>Array.getElem?_eq_none (by omega)⟩
theorem Vo.vb(h:Vo w q 0 (fun _=>none) cs t):Vb w q cs t:=by
 obtain⟨C,h1,h2,h3,h4⟩:=h
 have e:C=cs:=by
  apply Array.ext_getElem?
  intro j
  by_cases hj:j<cs.size
  ·have:=h3 j hj;rw[Nat.zero_add]at this;exact this
  ·rw[h4 j (.inr (by omega)),Array.getElem?_eq_none (by omega)]
 rw[←e]
 exact h1
variable{w:World}{q dz:Nat}{K:Nat→Option Value}{cs:Array Value}{t:TypeId}
theorem Vo.cell(h:Vo w q dz K cs t)(i:Nat){v:Value}(hi:cs[i]? =some v):w.cell? ⟨q,dz+i,none⟩=some v:=by
 obtain⟨C,h1,h2,h3,h4⟩:=h
 have hl:i<cs.size:=(Array.getElem?_eq_some_iff.1 hi).1
 exact h1.cell (dz+i) (by rw[h3 i hl];exact hi)
theorem Vo.head(h:Vo w q dz K cs t){v:Value}(hi:cs[0]? =some v):w.cell? ⟨q,dz,none⟩=some v:=h.cell 0 hi
theorem Vo.cell2(h:Vo w q dz K cs t)(a b:Nat){v:Value}(hi:cs[a+b]? =some v):w.cell? ⟨q,dz+a+b,none⟩=some v:=by rw[Nat.add_assoc];exact h.cell (a+b) hi
theorem Vo.free(h:Vo w q dz K cs t)(i:Nat):w.frozen? ⟨q,dz+i,none⟩=false:=by
 obtain⟨C,h1,_⟩:=h
 exact h1.free (dz+i)
theorem Vo.free2(h:Vo w q dz K cs t)(a b:Nat):w.frozen? ⟨q,dz+a+b,none⟩=false:=by rw[Nat.add_assoc];exact h.free (a+b)
theorem Vo.lt(h:Vo w q dz K cs t):q<w.heap.size:=by
 obtain⟨C,h1,_⟩:=h
 exact h1.lt
theorem Vo.blk(h:Vo w q dz K cs t):∃C,Vb w q C t:=by
 obtain⟨C,h1,_⟩:=h
 exact⟨C,h1⟩
variable{w w':World}{q dz:Nat}{K:Nat→Option Value}{cs:Array Value}{t:TypeId}
theorem Vo.moved(h:Vo w q dz K cs t)(f:∀C,Vb w q C t→Vb w' q C t):Vo w' q dz K cs t:=by
 obtain⟨C,h1,h2⟩:=h
 exact⟨C,f C h1,h2⟩
variable{w:World}{q dz:Nat}{K:Nat→Option Value}{cs:Array Value}{t:TypeId}
theorem Vo.opened(h:Vo w q dz K cs t):∃C,Vb w q C t∧(∀i v,cs[i]? =some v→C[dz+i]? =some v)∧∀w' i u,i<cs.size→Vb w' q (C.setIfInBounds (dz+i) u) t→Vo w' q dz K (cs.setIfInBounds i u) t:=by
 obtain⟨C,h1,h2,h3,h4⟩:=h
 refine⟨C,h1,fun i v hi=>?_,fun w' i u hi hv=>?_⟩
 ·rw[h3 i (Array.getElem?_eq_some_iff.1 hi).1];exact hi
 ·refine⟨_,hv,by simpa using h2,fun j hj=>?_,fun j hj=>?_⟩
  ·rw[Array.size_setIfInBounds]at hj
   by_cases e:i=j
   ·subst e
    rw[Array.getElem?_setIfInBounds_self_of_lt (by omega),Array.getElem?_setIfInBounds_self_of_lt hi]
   ·rw[Array.getElem?_setIfInBounds_ne (by omega),Array.getElem?_setIfInBounds_ne e]
    exact h3 j hj
  ·rw[Array.size_setIfInBounds]at hj
   rw[Array.getElem?_setIfInBounds_ne (by omega)]
   exact h4 j hj
variable{w w':World}{q dz:Nat}{K:Nat→Option Value}{cs:Array Value}{t:TypeId}
theorem Vo.keep(h:Vo w q dz K cs t)(b:Below w.heap.size w w'):Vo w' q dz K cs t:=h.moved fun _ k=>k.keep b
variable{w:World}{q dz:Nat}{K:Nat→Option Value}{cs:Array Value}{t:TypeId}
theorem Vo.put(h:Vo w q dz K cs t)(p:Addr)(u:Value)(hp:q≠p.block):Vo (w.setCell p u) q dz K cs t:=h.moved fun _ k=>k.put p u hp
theorem Vo.gr{w w':World}{q dz:Nat}{K:Nat→Option Value}{cs:Array Value}{t:TypeId}{row:Option Nat}(h:Vo w q dz K cs t)(g:w.grownBy w' row)(hn:some q≠row):Vo w' q dz K cs t:=h.moved fun _ k=>k.gr g hn
theorem Vo.set(h:Vo w q dz K cs t)(i:Nat)(u:Value)(hi:i<cs.size:=by first|(show _<38;decide)|(show _<38;omega)):Vo (w.setCell ⟨q,dz+i,none⟩ u) q dz K (cs.setIfInBounds i u) t:=by
 obtain⟨C,h1,h2,h3,h4⟩:=h
 refine⟨C.setIfInBounds (dz+i) u,h1.set (dz+i) u,by simpa using h2,fun j hj=>?_,fun j hj=>?_⟩
 ·rw[Array.size_setIfInBounds]at hj
  by_cases e:i=j
  ·subst e
   rw[Array.getElem?_setIfInBounds_self_of_lt (by omega),Array.getElem?_setIfInBounds_self_of_lt hi]
  ·rw[Array.getElem?_setIfInBounds_ne (by omega),Array.getElem?_setIfInBounds_ne e]
   exact h3 j hj
 ·rw[Array.size_setIfInBounds]at hj
  rw[Array.getElem?_setIfInBounds_ne (by omega)]
  exact h4 j hj
theorem Vo.set2(h:Vo w q dz K cs t)(a b:Nat)(u:Value)(hi:a+b<cs.size:=by first|(show _<38;decide)|(show _<38;omega)):Vo (w.setCell ⟨q,dz+a+b,none⟩ u) q dz K (cs.setIfInBounds (a+b) u) t:=by rw[Nat.add_assoc];exact h.set (a+b) u hi
def dueP(H:Ht):Int×Int:=if dueV H<0 then(4,0)else(0,dueV H)
theorem low_nonneg(b:Int):0≤lowV b:=by
 unfold lowV
 split
 ·decide
 ·split<;>decide
variable{v:World}{q:Nat}{t:TypeId}{z0 z1:Value}
theorem twoX(h:Vb v q #[z0,z1] t)(u0 u1:Value):
  Vb ((v.setCell ⟨q,0,none⟩ u0).setCell ⟨q,1,none⟩ u1) q #[u0,u1] t∧Mq (fun k=>k=q) v ((v.setCell ⟨q,0,none⟩ u0).setCell ⟨q,1,none⟩ u1):=by
 have h0:Vb (v.setCell ⟨q,0,none⟩ u0) q #[u0,z1] t:=h.set 0 u0
 exact⟨h0.set 1 u1,((Mq.refl (fun k=>k=q) v).set ⟨q,0,none⟩ u0 rfl).set ⟨q,1,none⟩ u1 rfl⟩
theorem Mq.prs{S:Nat→Prop}{w w':World}{base:Nat}{e:TypeId}{v:Value}{rs:List (Int×Int)}(m:Mq S w w')(h:Prs e w base v rs)(hn:∀k,v.ownBlock=some k→¬S k):Prs e w' base v rs:=by
 obtain⟨h1,h2|⟨g,cap,cur,hv,hg,hr,rest⟩⟩:=h
 ·exact⟨h1,.inl h2⟩
 ·refine⟨h1,.inr ⟨g,cap,cur,hv,hg,?_,rest⟩⟩
  rw[m.block g ((Array.getElem?_eq_some_iff.1 hr).1) (hn g (by rw[hv];rfl))]
  exact hr
theorem str_take(j:Nat)(h:j<8):strL.take (j+1)=strL.take j++ [((j:Int),7)]:=by
 have e:j=0∨j=1∨j=2∨j=3∨j=4∨j=5∨j=6∨j=7:=by omega
 rcases e with rfl|rfl|rfl|rfl|rfl|rfl|rfl|rfl<;>rfl
theorem i_straight(w:World):Calls Tryz.prog 166 #[] w fun e w'=>∃u,e=.returned u∧Prs 89 w' w.heap.size u strL∧Below w.heap.size w w':=by
 go_enter Tryz.func166,Tryz.ntmps166
 go_wp2_with fail
 go_loopw [1,2,3] (fun u _ c wr=>∃j:Nat,j≤8∧c=.int .i64 j∧Prs 89 wr w.heap.size u (strL.take j)∧Below w.heap.size w wr) (fun _ _ c _=>8-(intOf c).toNat)
 case atStart=>exact⟨0,Nat.zero_le _,rfl,Prs.nil _ _ _,Below.refl _ _⟩
 case round=>
  obtain⟨j,hj,rfl,hP,hB⟩:=hrel
  have PB:Hid (Prs 89 wr w.heap.size _ (strL.take j)):=hP
  have HB:=hid hB
  obtain⟨ua,uc,rfl,_,_,_⟩:=hP.shape
  have HLN:Hid ((strL.take j).length≤8):=by show _≤_;simp;omega
  generalize hun:(strL.take j).length=un at*
  clear hP hB
  by_cases hlt:j<8
  ·have hI:(j:Int)<8:=by omega
   have HL:=hid hlt
   have HT:Hid (strL.take (j+1)=strL.take j++ [((j:Int),7)]):=str_take j hlt
   clear hlt
   go_wp2_with fail
   refine(impl_pageFor (j:Int) 7 wr).mono ?_
   rintro e w5⟨rfl,b5⟩
   have e1:(forP (j:Int) 7).1=j:=rfl
   have e2:(forP (j:Int) 7).2=7:=rfl
   rw[e1,e2]
   have B5:=hid (on HB.out b5)
   have P5:=hid (PB.out.keep b5)
   clear b5 e1 e2
   go_wp2_with (at_builtin;refine wp_pair 48 89 Tryz.underlying48 info_page _ rfl _ _ rfl w.heap.size _ _ rfl (P5.out.keep (al (Below.refl _ _) _)) _ (j:Int) 7 rfl (cell_new rfl) (cell_new rfl) (by rw[hun];have:=HLN.out;omega) (by have:=B5.out.size;simp;omega) ?_;intro v' w' hP' hG')
   have BP:Hid (Below w.heap.size w w'):=(al B5.out _).grown hG' (by have:=B5.out.size;simp;omega) (fun k hk=>by have:=(P5.out.lt k hk).1;omega)
   have PP:Hid (Prs 89 w' w.heap.size v' (strL.take (j+1))):=by show Prs _ _ _ _ _;rw[HT.out];exact hP'
   clear hP' hG'
   go_wp2_with fail
   go_roundw
   case rel=>exact⟨j+1,by have:=HL.out;omega,by go_num,PP.out,BP.out⟩
   case measure=>have:=HL.out;simp[intOf];omega
  ·have hI:¬(j:Int)<8:=by omega
   obtain rfl:j=8:=by omega
   go_wp2_with fail
   go_ret
   exact⟨_,rfl,PB.out,HB.out⟩
theorem eight_at{zs:List Int}{p k:Nat}(hz:zs.length=p*8)(hk:k<p){w:World}{base g:Nat}(h:Pags w base (.slice (some ⟨g,0,none⟩) p p) p zs):w.rangeAt g (k*8) [.int .i64 ((eight zs k).getD 0 0),.int .i64 ((eight zs k).getD 1 0),.int .i64 ((eight zs k).getD 2 0),.int .i64 ((eight zs k).getD 3 0),.int .i64 ((eight zs k).getD 4 0),.int .i64 ((eight zs k).getD 5 0),.int .i64 ((eight zs k).getD 6 0),.int .i64 ((eight zs k).getD 7 0)]:=fun j v hv=>by
 have hj:j<8:=by have:=(List.getElem?_eq_some_iff.1 hv).1;simpa using this
 rw[h.cell (k*8+j) (by omega)]
 have e:zs.getD (k*8+j) 0=(eight zs k).getD j 0:=by
  simp only[eight,List.getD,List.getElem?_take,hj,if_true,List.getElem?_drop]
 rw[e]
 have ej:j=0∨j=1∨j=2∨j=3∨j=4∨j=5∨j=6∨j=7:=by omega
 rcases ej with rfl|rfl|rfl|rfl|rfl|rfl|rfl|rfl<;>(cases hv;rfl)
theorem lit8{zs:List Int}(j:Nat)(hj:j<8):(#[.int .i64 (zs.getD 0 0),.int .i64 (zs.getD 1 0),.int .i64 (zs.getD 2 0),.int .i64 (zs.getD 3 0),.int .i64 (zs.getD 4 0),.int .i64 (zs.getD 5 0),.int .i64 (zs.getD 6 0),.int .i64 (zs.getD 7 0)]:Array Value)[j]? =some (.int .i64 (zs.getD j 0)):=by
 have ej:j=0∨j=1∨j=2∨j=3∨j=4∨j=5∨j=6∨j=7:=by omega
 rcases ej with rfl|rfl|rfl|rfl|rfl|rfl|rfl|rfl<;>rfl
theorem there8{w:World}{q:Nat}{t:TypeId}(h:Vb w q #[.int .i64 0,.int .i64 0,.int .i64 0,.int .i64 0,.int .i64 0,.int .i64 0,.int .i64 0,.int .i64 0] t):w.there q 0 8:=mrz_there h
theorem i_space(q:Nat){dz:Nat}{Kz:Nat→Option Value}(i o:Value)(H:Ht)(pg pc:Nat)(ps:List (Int×Int))(g p:Nat)(zs:List Int)(ca ri:Int)(b:Nat)(w:World)(hv:Vo w q dz Kz (mcr H i o (.slice (some ⟨pg,0,none⟩) 8 pc) (.slice (some ⟨g,0,none⟩) p p) ca ri) 129)(hP:Prs 89 w b (.slice (some ⟨pg,0,none⟩) 8 pc) ps)(hG:Pags w b (.slice (some ⟨g,0,none⟩) p p) p zs)(sn:Sn H ps zs p):
  Calls Tryz.prog 160 #[.pointer (some ⟨q,dz,none⟩)] w fun e w'=>∃u,e=.returned (.agg #[.int .i64 (spC H ps),u])∧Prs 89 w' w.heap.size u (spP H ps zs)∧Below w.heap.size w w':=by
 have SN:=hid sn
 have HV:=hid hv
 have HP:=hid hP
 have HG:=hid hG
 clear sn hv hP hG
 generalize hW:w.alloc (.cells #[.int .i64 0,.slice none 0 0] 265)=W
 have B0:Hid (Below w.heap.size w W):=by show Below _ _ _;rw[←hW];exact al (Below.refl _ _) _
 obtain⟨s,hS⟩:∃s,w.heap.size=s:=⟨_,rfl⟩
 have HS:=hid hS
 have VR:Hid (Vb W s #[.int .i64 0,.slice none 0 0] 265):=by first|show Vo _ _ _ _ _ _|show Vb _ _ _ _;rw[←hW,←hS];exact Vb.new _ _ _
 have V0:=hid (HV.out.keep B0.out)
 obtain⟨T,hT⟩:∃T,tabV H=T:=⟨_,rfl⟩
 have HT:=hid hT
 have c27:W.cell? ⟨q,dz+27,none⟩=some (.int .i64 T):=by rw[←hT];exact V0.out.cell 27 rfl
 have c34:W.cell? ⟨q,dz+34,none⟩=some (.slice (some ⟨pg,0,none⟩) 8 pc):=V0.out.cell 34 rfl
 have hT0:0≤T:=by rw[←hT];exact SN.out.t0
 have hT8:T≤8:=by rw[←hT];exact SN.out.t8
 clear hT
 go_enter Tryz.func160,Tryz.ntmps160
 by_cases ht:T=0
 ·subst ht
  have E1:Hid (spC H ps=0∧spP H ps zs=strL):=⟨if_pos HT.out,if_pos HT.out⟩
  go_wp2_with fail
  clear hW hS
  refine(i_straight W).mono ?_
  rintro e w1⟨u,rfl,pu,b1⟩
  obtain⟨ua,uc,rfl,_⟩:=pu.shape
  have PU:=hid pu
  have B1:=hid (on B0.out b1)
  have VR1:=hid (VR.out.keep b1)
  have LS:Hid (s<W.heap.size):=VR.out.lt
  obtain⟨p0,p1⟩:=zc2 VR1.out
  obtain⟨f0,f1⟩:=zf2 VR1.out
  clear pu b1
  go_wp2_with fail
  have NN:Hid (_∧_):=twoX VR1.out (.int .i64 0) (.slice ua strL.length uc)
  have P2:Hid (Prs 89 ((w1.setCell ⟨s,0,none⟩ (.int .i64 0)).setCell ⟨s,1,none⟩ (.slice ua strL.length uc)) W.heap.size (.slice ua strL.length uc) strL):=NN.out.2.prs PU.out fun k e f=>by have:=(PU.out.lt k e).1;have:=LS.out;omega
  clear p0 f0 p1 f1
  generalize ((w1.setCell ⟨s,0,none⟩ (.int .i64 0)).setCell ⟨s,1,none⟩ (.slice ua strL.length uc))=V at*
  obtain⟨x0,x1⟩:=zc2 NN.out.1
  exact bodyPost_ret (v:=.agg #[.int .i64 0,.slice ua strL.length uc]) (by simp[results,Tryz.results160,go_sem,x0,x1]) rfl
   ⟨_,by rw[E1.out.1],by rw[E1.out.2];exact P2.out.mono B0.out.size,Mq.under B1.out NN.out.2 fun k e=>by have:=HS.out;omega⟩
 obtain⟨j,hj⟩:∃j:Nat,T-1=(j:Int):=⟨(T-1).toNat,by omega⟩
 have hj7:j<8:=by omega
 have HJ:=hid hj7
 have hji:(j:Int)<8:=by omega
 have TZ:Hid (¬tabV H=0):=by show ¬_;rw[HT.out];exact ht
 have TP:Hid (tpg H ps=ps.getD j (0,0)):=by
  show _=_
  unfold tpg
  rw[HT.out,hj]
  rfl
 have d0:=cell_keep B0.out (HP.out.cell SN.out.l8.symm j hj7).1
 have d1:=cell_keep B0.out (HP.out.cell SN.out.l8.symm j hj7).2
 rw[←TP.out]at d0 d1
 obtain⟨x,hx⟩:∃x,(tpg H ps).1=x:=⟨_,rfl⟩
 obtain⟨y,hy⟩:∃y,(tpg H ps).2=y:=⟨_,rfl⟩
 have HX:=hid hx
 have HY:=hid hy
 rw[hx]at d0
 rw[hy]at d1
 have gb:pg<W.heap.size:=block_of_cell d0
 have ht1:(T==0)=false:=by simpa using ht
 have NB:Hid (noB H ps=(decide (T=8)||(bits BinOp.and .i64 y 1==0))):=by show _=_;unfold noB;rw[HT.out,HY.out]
 have SC:Hid (spC H ps=if noB H ps then 7 else 0):=if_neg TZ.out
 have SP:Hid (spP H ps zs=if noB H ps then []else(eight zs x.toNat).map entP):=by show _=_;rw[←HX.out];exact if_neg TZ.out
 clear hx hy ht hj7
 go_upto_region 5 with fail
 generalize hW1:W.alloc (.cells #[.int .i64 x,.int .i64 y] 89)=W1
 obtain⟨n,hn⟩:∃n,W.heap.size=n:=⟨_,rfl⟩
 rw[hn]
 have VN:Hid (Vb W1 n #[.int .i64 x,.int .i64 y] 89):=by first|show Vo _ _ _ _ _ _|show Vb _ _ _ _;rw[←hW1,←hn];exact Vb.new _ _ _
 have b1:Below W.heap.size W W1:=by rw[←hW1];exact al (Below.refl _ _) _
 have B1:=hid (on B0.out b1)
 have VR1:=hid (VR.out.keep b1)
 have V1:=hid (V0.out.keep b1)
 have G1:=hid (HG.out.keep B1.out)
 clear hW hS hW1 hn b1 d0 d1 gb c27 c34 VR V0
 obtain⟨n0,n1⟩:=zc2 VN.out
 cases hnb:noB H ps
 case true=>
  have E1:Hid (spC H ps=7∧spP H ps zs=[]):=⟨by rw[SC.out,hnb];rfl,by rw[SP.out,hnb];rfl⟩
  obtain⟨p0,p1⟩:=zc2 VR1.out
  obtain⟨f0,f1⟩:=zf2 VR1.out
  have NB2:=NB.out
  rw[hnb]at NB2
  have FIN:∀V,Vb V s #[.int .i64 7,.slice none 0 0] 265→Below w.heap.size w V→(∃u,Ending.returned (Value.agg #[.int .i64 7,.slice none 0 0])=.returned (.agg #[.int .i64 (spC H ps),u])∧Prs 89 V w.heap.size u (spP H ps zs)∧Below w.heap.size w V):=fun V _ hB=>⟨_,by rw[E1.out.1],by rw[E1.out.2];exact Prs.nil _ _ _,hB⟩
  have FF:Hid (∀V,Vb V s #[.int .i64 7,.slice none 0 0] 265→Below w.heap.size w V→(∃u,Ending.returned (Value.agg #[.int .i64 7,.slice none 0 0])=.returned (.agg #[.int .i64 (spC H ps),u])∧Prs 89 V w.heap.size u (spP H ps zs)∧Below w.heap.size w V)):=FIN
  clear FIN
  by_cases h7:j=7
  ·subst h7
   clear hnb NB2
   go_wp2_with fail
   have NN:Hid (_∧_):=twoX VR1.out (.int .i64 7) (.slice none 0 0)
   clear p0 f0 p1 f1 n0 n1
   generalize ((W1.setCell ⟨s,0,none⟩ (.int .i64 7)).setCell ⟨s,1,none⟩ (.slice none 0 0))=V at*
   obtain⟨x0,x1⟩:=zc2 NN.out.1
   exact bodyPost_ret (v:=.agg #[.int .i64 7,.slice none 0 0]) (by simp[results,Tryz.results160,go_sem,x0,x1]) rfl
    (FF.out _ NN.out.1 (Mq.under B1.out NN.out.2 fun k e=>by have:=HS.out;omega))
  ·have h7b:((j:Int)==7)=false:=by simp;omega
   have hb0:(bits BinOp.and .i64 y 1==0)=true:=by
    have:decide (T=8)=false:=by simp;omega
    rw[this]at NB2
    exact NB2.symm
   clear hnb NB2
   go_wp2_with fail
   have NN:Hid (_∧_):=twoX VR1.out (.int .i64 7) (.slice none 0 0)
   clear p0 f0 p1 f1 n0 n1
   generalize ((W1.setCell ⟨s,0,none⟩ (.int .i64 7)).setCell ⟨s,1,none⟩ (.slice none 0 0))=V at*
   obtain⟨x0,x1⟩:=zc2 NN.out.1
   exact bodyPost_ret (v:=.agg #[.int .i64 7,.slice none 0 0]) (by simp[results,Tryz.results160,go_sem,x0,x1]) rfl
    (FF.out _ NN.out.1 (Mq.under B1.out NN.out.2 fun k e=>by have:=HS.out;omega))
 obtain⟨k,hkp,hxk⟩:=tpg_to SN.out TZ.out hnb
 obtain rfl:x=(k:Int):=HX.out.symm.trans hxk
 have E1:Hid (spC H ps=0∧spP H ps zs=(eight zs k).map entP):=⟨by rw[SC.out,hnb];rfl,by rw[SP.out,hnb];rfl⟩
 have NB2:=NB.out
 rw[hnb]at NB2
 have NB3:decide (T=8)=false∧(bits BinOp.and .i64 y 1==0)=false:=by
  have:=NB2.symm
  simpa using this
 have h7b:((j:Int)==7)=false:=by have:=NB3.1;simp at this;simp;omega
 have hb0:(bits BinOp.and .i64 y 1==0)=false:=NB3.2
 have KP:Hid (((k:Int)<(p:Int))∧k<p):=⟨by omega,hkp⟩
 have L8:Hid ((eight zs k).length=8):=eight_length zs p k SN.out.zl hkp
 have AW:Hid ((eight zs k).all isW=true):=all_eight SN.out.zw k
 clear hnb NB2 NB3 hxk hkp
 go_upto_region 7 with fail
 clear n0 n1
 have D7:Hid (Below W1.heap.size W1 W1.drew):=(Below.refl _ _).drew
 have cq:Hid (∀w',Below W1.heap.size W1 w'→w'.cell? ⟨q,dz+35,none⟩=some (.slice (some ⟨g,0,none⟩) p p)):=fun w' hs=>(V1.out.keep hs).cell 35 rfl
 have cn:Hid (∀w',Below W1.heap.size W1 w'→w'.cell? ⟨n,0,none⟩=some (.int .i64 (k:Int))):=fun w' hs=>(VN.out.keep hs).cell 0 rfl
 have RG:Hid (∀w',Below W1.heap.size W1 w'→w'.rangeAt g (k*8) [.int .i64 ((eight zs k).getD 0 0),.int .i64 ((eight zs k).getD 1 0),.int .i64 ((eight zs k).getD 2 0),.int .i64 ((eight zs k).getD 3 0),.int .i64 ((eight zs k).getD 4 0),.int .i64 ((eight zs k).getD 5 0),.int .i64 ((eight zs k).getD 6 0),.int .i64 ((eight zs k).getD 7 0)]):=fun w' hs=>eight_at SN.out.zl KP.out.2 (G1.out.keep hs)
 refine wp_region_held (S:=fun w'=>Below W1.heap.size W1 w') (by kernel_rfl) ?_
 change wpAnyH _ _ _ _ _ _ _ _ (World.drew _)
 generalize W1.drew=d7 at*
 refine wpTd 0 40 (.pointer (some ⟨q,dz,none⟩)) rfl D7.out ?_
 simp only[Act.put,zT,zZ,zS]
 refine wpTd 1 41 (.pointer (some ⟨q,dz,none⟩)) rfl D7.out ?_
 simp only[Act.put,zT,zZ,zS]
 refine wpTd 2 42 (.pointer (some ⟨q,dz+35,none⟩)) rfl D7.out ?_
 simp only[Act.put,zT,zZ,zS]
 refine wpTe 3 43 (.slice (some ⟨g,0,none⟩) p p) rfl (Or.inl ⟨by rfl,fun w' hs=>by have hc:=cq.out w' hs;go_simp⟩) D7.out ?_
 simp only[Act.put,zT,zZ,zS]
 refine wpTd 4 44 (.pointer (some ⟨n,0,none⟩)) rfl D7.out ?_
 simp only[Act.put,zT,zZ,zS]
 refine wpTe 5 45 (.int .i64 (k:Int)) rfl (Or.inl ⟨by rfl,fun w' hs=>by have hc:=cn.out w' hs;go_simp⟩) D7.out ?_
 simp only[Act.put,zT,zZ,zS]
 refine wpTe 6 46 (.pointer (some ⟨g,k*8,none⟩)) rfl (Or.inl ⟨by rfl,fun w' hs=>by have h1:=KP.out.1;have h2:=KP.out.2;go_simp⟩) D7.out ?_
 simp only[Act.put,zT,zZ,zS]
 refine wpTe 7 47 (.agg #[.int .i64 ((eight zs k).getD 0 0),.int .i64 ((eight zs k).getD 1 0),.int .i64 ((eight zs k).getD 2 0),.int .i64 ((eight zs k).getD 3 0),.int .i64 ((eight zs k).getD 4 0),.int .i64 ((eight zs k).getD 5 0),.int .i64 ((eight zs k).getD 6 0),.int .i64 ((eight zs k).getD 7 0)]) rfl (yieldsIf_load_mid (by rfl) 91 (.tmp 46) rfl g (k*8) rfl [.int .i64 ((eight zs k).getD 0 0),.int .i64 ((eight zs k).getD 1 0),.int .i64 ((eight zs k).getD 2 0),.int .i64 ((eight zs k).getD 3 0),.int .i64 ((eight zs k).getD 4 0),.int .i64 ((eight zs k).getD 5 0),.int .i64 ((eight zs k).getD 6 0),.int .i64 ((eight zs k).getD 7 0)] _ RG.out Tryz.underlying91 rfl (by kernel_rfl)) D7.out ?_
 simp only[Act.put,zT,zZ,zS]
 refine zR 8 rfl fun K hK=>?_
 rw[if_pos (by rfl)]
 go_simp
 obtain⟨m,hm⟩:∃m,d7.heap.size=m:=⟨_,rfl⟩
 have VM0:Hid (Vb (d7.alloc (.cells #[.int .i64 0,.int .i64 0,.int .i64 0,.int .i64 0,.int .i64 0,.int .i64 0,.int .i64 0,.int .i64 0] 91)) m #[.int .i64 0,.int .i64 0,.int .i64 0,.int .i64 0,.int .i64 0,.int .i64 0,.int .i64 0,.int .i64 0] 91):=by first|show Vo _ _ _ _ _ _|show Vb _ _ _ _;rw[←hm];exact Vb.new _ _ _
 have D8:Hid (Below W1.heap.size W1 (d7.alloc (.cells #[.int .i64 0,.int .i64 0,.int .i64 0,.int .i64 0,.int .i64 0,.int .i64 0,.int .i64 0,.int .i64 0] 91))):=al D7.out _
 have MU:Hid (W1.heap.size≤m):=by show _≤_;rw[←hm];exact D7.out.size
 rw[hm]
 generalize d7.alloc (.cells #[.int .i64 0,.int .i64 0,.int .i64 0,.int .i64 0,.int .i64 0,.int .i64 0,.int .i64 0,.int .i64 0] 91)=d8 at*
 clear hm
 refine hK.out _ _ D8.out (fun _=>?_)
 clear hK K
 refine zR 9 rfl fun K hK=>?_
 rw[if_pos (by rfl)]
 refine wp_store_mid 91 (.tmp 5) (.tmp 47) rfl m 0 #[.int .i64 ((eight zs k).getD 0 0),.int .i64 ((eight zs k).getD 1 0),.int .i64 ((eight zs k).getD 2 0),.int .i64 ((eight zs k).getD 3 0),.int .i64 ((eight zs k).getD 4 0),.int .i64 ((eight zs k).getD 5 0),.int .i64 ((eight zs k).getD 6 0),.int .i64 ((eight zs k).getD 7 0)] rfl rfl (there8 VM0.out) (by kernel_rfl) (by simp[Value.oneCell']) ?_
 change K (Act.put _ none undef) _
 simp only[Act.put]
 have M9:=mq_cells m [.int .i64 ((eight zs k).getD 0 0),.int .i64 ((eight zs k).getD 1 0),.int .i64 ((eight zs k).getD 2 0),.int .i64 ((eight zs k).getD 3 0),.int .i64 ((eight zs k).getD 4 0),.int .i64 ((eight zs k).getD 5 0),.int .i64 ((eight zs k).getD 6 0),.int .i64 ((eight zs k).getD 7 0)] d8 0
 have D9:Hid (Below W1.heap.size W1 (d8.setCells m 0 [.int .i64 ((eight zs k).getD 0 0),.int .i64 ((eight zs k).getD 1 0),.int .i64 ((eight zs k).getD 2 0),.int .i64 ((eight zs k).getD 3 0),.int .i64 ((eight zs k).getD 4 0),.int .i64 ((eight zs k).getD 5 0),.int .i64 ((eight zs k).getD 6 0),.int .i64 ((eight zs k).getD 7 0)])):=Mq.under D8.out M9 fun k e=>by have:=MU.out;omega
 have R9:Hid ((d8.setCells m 0 [.int .i64 ((eight zs k).getD 0 0),.int .i64 ((eight zs k).getD 1 0),.int .i64 ((eight zs k).getD 2 0),.int .i64 ((eight zs k).getD 3 0),.int .i64 ((eight zs k).getD 4 0),.int .i64 ((eight zs k).getD 5 0),.int .i64 ((eight zs k).getD 6 0),.int .i64 ((eight zs k).getD 7 0)]).rangeAt m 0 [.int .i64 ((eight zs k).getD 0 0),.int .i64 ((eight zs k).getD 1 0),.int .i64 ((eight zs k).getD 2 0),.int .i64 ((eight zs k).getD 3 0),.int .i64 ((eight zs k).getD 4 0),.int .i64 ((eight zs k).getD 5 0),.int .i64 ((eight zs k).getD 6 0),.int .i64 ((eight zs k).getD 7 0)]):=World.rangeAt_setCells_same _ _ _ _ (there8 VM0.out)
 generalize d8.setCells m 0 [.int .i64 ((eight zs k).getD 0 0),.int .i64 ((eight zs k).getD 1 0),.int .i64 ((eight zs k).getD 2 0),.int .i64 ((eight zs k).getD 3 0),.int .i64 ((eight zs k).getD 4 0),.int .i64 ((eight zs k).getD 5 0),.int .i64 ((eight zs k).getD 6 0),.int .i64 ((eight zs k).getD 7 0)]=d9 at*
 refine hK.out _ _ D9.out (fun _=>?_)
 clear hK K M9
 refine wpAnyH_done (by kernel_rfl) ?_ _
 have mb:m<d9.heap.size:=block_of_cell (R9.out 0 _ rfl)
 go_wp2_with fail
 refine(impl_fromR m 0 8 (eight zs k) d9 L8.out (fun j hj=>by have t:=R9.out j _ (by simpa using lit8 (zs:=eight zs k) j hj);simpa using t)).mono ?_
 rintro e w1⟨u,rfl,pu,b2⟩
 have e1:fromC (eight zs k)=0:=by unfold fromC;rw[if_pos L8.out,AW.out];rfl
 have e2:fromP (eight zs k)=(eight zs k).map entP:=by unfold fromP;rw[if_pos L8.out,AW.out];rfl
 rw[e1]
 rw[e2]at pu
 clear e1 e2
 obtain⟨ua,uc,rfl,_⟩:=pu.shape
 obtain⟨ul,hul⟩:∃ul,((eight zs k).map entP).length=ul:=⟨_,rfl⟩
 rw[hul]at pu ⊢
 have PU:=hid pu
 have BX:=hid (on D9.out b2)
 have B2:=hid (on B1.out BX.out)
 have VR2:=hid (VR1.out.keep BX.out)
 have LS:Hid (s<d9.heap.size):=Nat.lt_of_lt_of_le VR1.out.lt D9.out.size
 have LW:Hid (w.heap.size≤d9.heap.size):=Nat.le_trans B1.out.size D9.out.size
 clear pu b2 hul mb
 obtain⟨p0,p1⟩:=zc2 VR2.out
 obtain⟨f0,f1⟩:=zf2 VR2.out
 go_wp2_with fail
 have NN:Hid (_∧_):=twoX VR2.out (.int .i64 0) (.slice ua ul uc)
 have P2:Hid (Prs 89 ((w1.setCell ⟨s,0,none⟩ (.int .i64 0)).setCell ⟨s,1,none⟩ (.slice ua ul uc)) d9.heap.size (.slice ua ul uc) ((eight zs k).map entP)):=NN.out.2.prs PU.out fun k e f=>by have:=(PU.out.lt k e).1;have:=LS.out;omega
 clear p0 f0 p1 f1
 generalize ((w1.setCell ⟨s,0,none⟩ (.int .i64 0)).setCell ⟨s,1,none⟩ (.slice ua ul uc))=V at*
 obtain⟨x0,x1⟩:=zc2 NN.out.1
 exact bodyPost_ret (v:=.agg #[.int .i64 0,.slice ua ul uc]) (by simp[results,Tryz.results160,go_sem,x0,x1]) rfl
  ⟨_,by rw[E1.out.1],by rw[E1.out.2];exact P2.out.mono LW.out,Mq.under B2.out NN.out.2 fun k e=>by have:=HS.out;omega⟩
end Go.Proofs.YtignbeibcakgpaaGreatDoor
