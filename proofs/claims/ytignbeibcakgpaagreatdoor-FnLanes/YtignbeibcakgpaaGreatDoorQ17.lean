import Derived.Test.YtignbeibcakgpaaGreatDoorQ11
import Derived.Test.YtignbeibcakgpaaGreatDoorQ16
namespace Go.Proofs.YtignbeibcakgpaaGreatDoor
set_option maxRecDepth 20000
set_option maxHeartbeats 16000000
open Go.RowKit
def encV(op d a imm:Int):Int:=if insC op d a imm=0 then op*16777216+d*1048576+a*65536+imm else 0
theorem insC_bounds{op d a imm:Int}(h:insC op d a imm=0):1≤op∧op≤26∧0≤d∧d≤15∧0≤a∧a≤15∧0≤imm∧imm≤65535:=by
 by_cases g:1≤op∧op≤26∧0≤d∧d≤15∧0≤a∧a≤15∧0≤imm∧imm≤65535
 ·exact g
 ·rw[insC_3 g]at h;omega
theorem w64(n:Int)(h: -9223372036854775808≤n∧n≤9223372036854775807):wrap64 n=n:=by unfold wrap64;omega
theorem enc_wrap{op d a imm:Int}(h:1≤op∧op≤26∧0≤d∧d≤15∧0≤a∧a≤15∧0≤imm∧imm≤65535):
  wrap64 (wrap64 (wrap64 (wrap64 (op*16777216)+wrap64 (d*1048576))+wrap64 (a*65536))+imm)=op*16777216+d*1048576+a*65536+imm:=by
 rw[w64 (op*16777216) (by omega),w64 (d*1048576) (by omega),w64 (a*65536) (by omega),w64 (op*16777216+d*1048576) (by omega),w64 (op*16777216+d*1048576+a*65536) (by omega),w64 _ (by omega)]
theorem impl_encode(op d a imm:Int)(w:World):
  Calls Tryz.prog 156 #[.agg #[.int .i64 op,.int .i64 d,.int .i64 a,.int .i64 imm]] w fun e w'=>e=.returned (.agg #[.int .i64 (insC op d a imm),.int .i64 (encV op d a imm)])∧Below w.heap.size w w':=by
 have hf:=fun w=>impl_insFault op d a imm w
 by_cases h:insC op d a imm=0
 ·have e:encV op d a imm=op*16777216+d*1048576+a*65536+imm:=if_pos h
  have ew:=enc_wrap (insC_bounds h)
  rw[e]
  clear e
  generalize insC op d a imm=c at*
  subst h
  generalize op*16777216+d*1048576+a*65536+imm=v at*
  go_enter Tryz.func156,Tryz.ntmps156
  go_wp2_with (go_at_call 164;refine(hf _).mono ?_;rintro e w1 ⟨rfl,hb⟩;obtain⟨hc,hz⟩:=bcell hb)
  exact bodyPost_ret (v:=.agg #[.int .i64 0,.int .i64 v]) (by simp[results,Tryz.results156,go_sem,hc,ew]) rfl ⟨rfl,(((((Below.refl _ _).alloc (Nat.le_refl _) _).alloc (by simp) _).trans (hb.mono (by simp;omega))).setCell (by simp) _).setCell (by simp) _⟩
 ·have g:(insC op d a imm==0)=false:=beq_eq_false_iff_ne.2 h
  have e:encV op d a imm=0:=if_neg h
  rw[e]
  clear e h
  generalize insC op d a imm=c at*
  go_enter Tryz.func156,Tryz.ntmps156
  go_wp2_with (go_at_call 164;refine(hf _).mono ?_;rintro e w1 ⟨rfl,hb⟩;obtain⟨hc,hz⟩:=bcell hb)
  exact bodyPost_ret (v:=.agg #[.int .i64 c,.int .i64 0]) (by simp[results,Tryz.results156,go_sem,hc]) rfl ⟨rfl,(((((Below.refl _ _).alloc (Nat.le_refl _) _).alloc (by simp) _).trans (hb.mono (by simp;omega))).setCell (by simp) _).setCell (by simp) _⟩
theorem spec_encode(op d a imm:Int)(w:World):
  Calls Tryz.prog 87 #[.agg #[.int .i64 op,.int .i64 d,.int .i64 a,.int .i64 imm]] w fun e w'=>e=.returned (.agg #[.int .i64 (insC op d a imm),.int .i64 (encV op d a imm)])∧Below w.heap.size w w':=by
 have hf:=fun w=>spec_insFault op d a imm w
 by_cases h:insC op d a imm=0
 ·have e:encV op d a imm=op*16777216+d*1048576+a*65536+imm:=if_pos h
  have ew:=enc_wrap (insC_bounds h)
  rw[e]
  clear e
  generalize insC op d a imm=c at*
  subst h
  generalize op*16777216+d*1048576+a*65536+imm=v at*
  go_enter Tryz.func87,Tryz.ntmps87
  go_wp2_with (go_at_call 112;refine(hf _).mono ?_;rintro e w1 ⟨rfl,hb⟩;obtain⟨hc,hz⟩:=bcell hb)
  exact bodyPost_ret (v:=.agg #[.int .i64 0,.int .i64 v]) (by simp[results,Tryz.results87,go_sem,hc,ew]) rfl ⟨rfl,(((((Below.refl _ _).alloc (Nat.le_refl _) _).alloc (by simp) _).trans (hb.mono (by simp;omega))).setCell (by simp) _).setCell (by simp) _⟩
 ·have g:(insC op d a imm==0)=false:=beq_eq_false_iff_ne.2 h
  have e:encV op d a imm=0:=if_neg h
  rw[e]
  clear e h
  generalize insC op d a imm=c at*
  go_enter Tryz.func87,Tryz.ntmps87
  go_wp2_with (go_at_call 112;refine(hf _).mono ?_;rintro e w1 ⟨rfl,hb⟩;obtain⟨hc,hz⟩:=bcell hb)
  exact bodyPost_ret (v:=.agg #[.int .i64 c,.int .i64 0]) (by simp[results,Tryz.results87,go_sem,hc]) rfl ⟨rfl,(((((Below.refl _ _).alloc (Nat.le_refl _) _).alloc (by simp) _).trans (hb.mono (by simp;omega))).setCell (by simp) _).setCell (by simp) _⟩
theorem and15(x:Int):bits BinOp.and .i64 x 15=x%16:=by
 have h1:(BitVec.ofInt 64 x).toNat=(x%2 ^ 64).toNat:=BitVec.toNat_ofInt ..
 have h2:(BitVec.ofInt 64 15).toNat=2 ^ 4-1:=by decide
 show IntKind.i64.wrap ((BitVec.ofInt 64 x&&&BitVec.ofInt 64 15).toNat:Int)=_
 rw[BitVec.toNat_and,h1,h2,Nat.and_two_pow_sub_one_eq_mod,IntKind.wrap_i64]
 omega
theorem and65535(x:Int):bits BinOp.and .i64 x 65535=x%65536:=by
 have h1:(BitVec.ofInt 64 x).toNat=(x%2 ^ 64).toNat:=BitVec.toNat_ofInt ..
 have h2:(BitVec.ofInt 64 65535).toNat=2 ^ 16-1:=by decide
 show IntKind.i64.wrap ((BitVec.ofInt 64 x&&&BitVec.ofInt 64 65535).toNat:Int)=_
 rw[BitVec.toNat_and,h1,h2,Nat.and_two_pow_sub_one_eq_mod,IntKind.wrap_i64]
 omega
def decF(v:Int):Int:=insC (v/16777216) (v/1048576%16) (v/65536%16) (v%65536)
theorem dec_back{v:Int}(h:decF v=0):encV (v/16777216) (v/1048576%16) (v/65536%16) (v%65536)=v:=by
 have h':=h
 unfold decF at h'
 rw[encV,if_pos h']
 omega
def decV(v:Int):Value:=if decF v=0 then .agg #[.int .i64 0,.int .i64 (v/16777216),.int .i64 (v/1048576%16),.int .i64 (v/65536%16),.int .i64 (v%65536)]else .agg #[.int .i64 5,.int .i64 0,.int .i64 0,.int .i64 0,.int .i64 0]
theorem impl_decode(v:Int)(w:World):
  Calls Tryz.prog 129 #[.int .i64 v] w fun e w'=>e=.returned (decV v)∧Below w.heap.size w w':=by
 have he:=fun w=>impl_encode (v/16777216) (v/1048576%16) (v/65536%16) (v%65536) w
 by_cases h:decF v=0
 ·rw[decV,if_pos h]
  rw[show insC (v/16777216) (v/1048576%16) (v/65536%16) (v%65536)=0 from h,dec_back h]at he
  clear h
  rw[←and15 (v/1048576),←and15 (v/65536),←and65535 v]at*
  go_enter Tryz.func129,Tryz.ntmps129
  go_wp2_with (go_at_call 156;refine(he _).mono ?_;rintro e w1 ⟨rfl,hb⟩;obtain⟨hc,hz⟩:=bcell hb)
  have k0:=cell_keep hb (cell_push _ (cell_new (i:=0) rfl))
  have k1:=cell_keep hb (cell_push _ (cell_new (i:=1) rfl))
  have k2:=cell_keep hb (cell_push _ (cell_new (i:=2) rfl))
  have k3:=cell_keep hb (cell_push _ (cell_new (i:=3) rfl))
  have k4:=cell_keep hb (cell_push _ (cell_new (i:=4) rfl))
  clear hc hz
  exact bodyPost_ret (v:=.agg #[.int .i64 0,.int .i64 (v/16777216),.int .i64 (bits BinOp.and .i64 (v/1048576) 15),.int .i64 (bits BinOp.and .i64 (v/65536) 15),.int .i64 (bits BinOp.and .i64 v 65535)]) (by simp[results,Tryz.results129,go_sem,k0,k1,k2,k3,k4]) rfl ⟨rfl,((((((((Below.refl _ _).alloc (Nat.le_refl _) _).alloc (by simp) _).trans (hb.mono (by simp;omega))).setCell (by simp) _).setCell (by simp) _).setCell (by simp) _).setCell (by simp) _).setCell (by simp) _⟩
 ·rw[decV,if_neg h]
  have g:(decF v==0)=false:=beq_eq_false_iff_ne.2 h
  rw[show insC (v/16777216) (v/1048576%16) (v/65536%16) (v%65536)=decF v from rfl]at he
  clear h
  rw[←and15 (v/1048576),←and15 (v/65536),←and65535 v]at he
  generalize decF v=c at*
  go_enter Tryz.func129,Tryz.ntmps129
  go_wp2_with (go_at_call 156;refine(he _).mono ?_;rintro e w1 ⟨rfl,hb⟩;obtain⟨hc,hz⟩:=bcell hb)
  have k0:=cell_keep hb (cell_push _ (cell_new (i:=0) rfl))
  have k1:=cell_keep hb (cell_push _ (cell_new (i:=1) rfl))
  have k2:=cell_keep hb (cell_push _ (cell_new (i:=2) rfl))
  have k3:=cell_keep hb (cell_push _ (cell_new (i:=3) rfl))
  have k4:=cell_keep hb (cell_push _ (cell_new (i:=4) rfl))
  clear hc hz
  exact bodyPost_ret (v:=.agg #[.int .i64 5,.int .i64 0,.int .i64 0,.int .i64 0,.int .i64 0]) (by simp[results,Tryz.results129,go_sem,k0,k1,k2,k3,k4]) rfl ⟨rfl,((((((((Below.refl _ _).alloc (Nat.le_refl _) _).alloc (by simp) _).trans (hb.mono (by simp;omega))).setCell (by simp) _).setCell (by simp) _).setCell (by simp) _).setCell (by simp) _).setCell (by simp) _⟩
set_option linter.unusedVariables false
theorem all_set{zs:List Int}{n:Nat}{u:Int}(h:zs.all isW=true)(hu:isW u=true):(zs.set n u).all isW=true:=by
 rw[List.all_eq_true]at h ⊢
 intro x hx
 rcases List.mem_or_eq_of_mem_set hx with h1|h1
 ·exact h x h1
 ·rw[h1];exact hu
theorem gt_isW{zs:List Int}(h:zs.all isW=true)(n:Nat):isW (gt zs n)=true:=isW_iff.2 (all_at h n)
theorem stand_parts{zs:List Int}:standC zs=true↔gt zs 0≤3∧gt zs 7≤7∧gt zs 10≤8∧gt zs 6=0∧gt zs 8=0:=by
 unfold standC
 simp only[Bool.and_eq_true,decide_eq_true_eq]
 exact⟨fun h=>⟨h.1.1.1.1,h.1.1.1.2,h.1.1.2,h.1.2,h.2⟩,fun h=>⟨⟨⟨⟨h.1,h.2.1⟩,h.2.2.1⟩,h.2.2.2.1⟩,h.2.2.2.2⟩⟩
theorem stand_word(k x:Int)(h0:0≤x)(h1:x≤4294967295):isW (standV k x)=true:=by
 rw[isW_iff]
 unfold standV
 repeat' split
 all_goals omega
theorem wd_word(x:Int):0≤wd x∧wd x≤4294967295:=by unfold wd;omega
theorem setV_hok{H:Ht}(K:Hok H)(k x:Int)(h0:0≤k)(h10:k≤10):Hok (setV H k x):=by
 obtain⟨n,rfl⟩:∃n:Nat,k=n:=⟨k.toNat,by omega⟩
 have hw:=wd_word x
 have hl:n<H.csr.length:=by have:=K.c11;omega
 refine⟨K.r16,by simp[setV,K.c11],K.r0,K.rw,K.pw,all_set K.cw (stand_word _ _ hw.1 hw.2),K.iw,K.ow,K.i40,K.o40,K.d0,K.d9,?_⟩
 have s:=stand_parts.1 K.st
 have g:∀j,gt (setV H (n:Int) x).csr j=if j=n then standV n (wd x)else gt H.csr j:=fun j=>gt_set _ _ _ _ hl
 rw[stand_parts,g,g,g,g,g]
 generalize wd x=u at*
 refine⟨?_,?_,?_,?_,?_⟩
 ·split
  ·rename_i e;subst e;simp[standV];omega
  ·exact s.1
 ·split
  ·rename_i e;subst e;simp[standV];omega
  ·exact s.2.1
 ·split
  ·rename_i e;subst e;simp only[standV];simp;split<;>omega
  ·exact s.2.2.1
 ·split
  ·rename_i e;subst e;simp[standV]
  ·exact s.2.2.2.1
 ·split
  ·rename_i e;subst e;simp[standV]
  ·exact s.2.2.2.2
theorem trapV_gt{H:Ht}(hc:H.csr.length=11)(k x:Int)(j:Nat):gt (trapV H k x).csr j=if j=0 then gt H.csr 0%2*2 else if j=4 then x else if j=3 then k else if j=2 then H.pc else gt H.csr j:=by
 show gt ((((H.csr.set 2 H.pc).set 3 k).set 4 x).set 0 _) j=_
 rw[gt_set _ _ _ _ (by simp;omega),gt_set _ _ _ _ (by simp;omega),gt_set _ _ _ _ (by simp;omega),gt_set _ _ _ _ (by omega)]
 rfl
theorem trapV_hok{H:Ht}(K:Hok H)(k x:Int)(h0:0≤k)(h31:k≤31)(hx:isW x=true):Hok (trapV H k x):=by
 have z:=all_at K.cw 0
 have g:=trapV_gt K.c11 k x
 have s:=stand_parts.1 K.st
 refine⟨K.r16,by simp[trapV,K.c11],K.r0,K.rw,gt_isW K.cw 1,all_set (all_set (all_set (all_set K.cw K.pw) (isW_iff.2 (by omega))) hx) (isW_iff.2 ?_),K.iw,K.ow,K.i40,K.o40,K.d0,K.d9,?_⟩
 ·show 0≤gt H.csr 0%2*2∧_
  omega
 ·rw[stand_parts,g,g,g,g,g]
  simp
  refine⟨by omega,s.2.1,s.2.2.1,s.2.2.2.1,s.2.2.2.2⟩
theorem backV_gt{H:Ht}(hc:H.csr.length=11)(j:Nat):gt (backV H).csr j=if j=0 then 2+gt H.csr 0/2 else gt H.csr j:=by
 show gt (H.csr.set 0 _) j=_
 rw[gt_set _ _ _ _ (by omega)]
 rfl
theorem backV_hok{H:Ht}(K:Hok H):Hok (backV H):=by
 have z:=all_at K.cw 0
 have g:=backV_gt K.c11
 have s:=stand_parts.1 K.st
 refine⟨K.r16,by simp[backV,K.c11],K.r0,K.rw,gt_isW K.cw 2,all_set K.cw (isW_iff.2 ?_),K.iw,K.ow,K.i40,K.o40,K.d0,K.d9,?_⟩
 ·have:=s.1
  show 0≤2+gt H.csr 0/2∧2+gt H.csr 0/2≤4294967295
  have z0:0≤gt H.csr 0:=z.1
  omega
 ·rw[stand_parts,g,g,g,g,g]
  simp
  have z0:0≤gt H.csr 0:=z.1
  refine⟨by omega,s.2.1,s.2.2.1,s.2.2.2.1,s.2.2.2.2⟩
def drV(H:Ht)(k:Int):Int:=if k=1 then H.inn.headD 0 else if k=2 then H.done else if k=3 then H.csr.getD 9 0 else if k=4 then pendV H else if k=6 then H.inn.length else 0
def drH(H:Ht)(k:Int):Ht:=if k=1 then{ H with inn:=H.inn.tail}else H
def setW(H:Ht)(k x:Int):Ht:=stH H k.toNat (standV k x) (H.rung&& !(decide (k=6)&&decide (2≤x%4)))
theorem setW_wd(H:Ht)(k x:Int):setV H k x=setW H k (wd x):=rfl
def outW(H:Ht)(x:Int):Ht:=if H.out.length<40 then{ H with out:=H.out++ [x]}else H
def dwW(H:Ht)(k x:Int):Ht:=if k=0 then outW H x else if k=3 then setW H 9 x else if k=4 then setW H 6 x else H
def rgW(k x:Int):Int:=if k=5 then x else -1
theorem head_get(zs:List Int):zs[0]?.getD 0=zs.headD 0:=by cases zs<;>rfl
theorem head_get2(zs:List Int):zs[0]?.getD 0=zs.head?.getD 0:=by cases zs<;>rfl
theorem Mq.more{S T:Nat→Prop}{w w':World}(m:Mq S w w')(h:∀k,S k→T k):Mq T w w':=⟨m.os,m.tape,m.output,m.size,fun k hk hn=>m.block k hk fun e=>hn (h k e)⟩
theorem i_through2(x k:Int)(S q:Nat){dz:Nat}(v:Value)(c0 y0 c1 y1 C Y:Int)(w:World)(hS:S<w.heap.size)
  (hf0:w.cell? ⟨S,0,none⟩=some (.func (.func 162) #[v] #[])) (hf1:w.cell? ⟨S,1,none⟩=some (.func (.func 163) #[.pointer (some ⟨q,dz,none⟩)] #[]))
  (h0:∀u,Below w.heap.size w u→Calls Tryz.prog 162 #[v,.int .i64 x,.int .i64 k] u fun e w'=>e=.returned (.agg #[.int .i64 c0,.int .i64 y0])∧Below u.heap.size u w')
  (h1:c0=0→∀u,Below w.heap.size w u→Calls Tryz.prog 163 #[.pointer (some ⟨q,dz,none⟩),.int .i64 y0,.int .i64 k] u fun e w'=>e=.returned (.agg #[.int .i64 c1,.int .i64 y1])∧Below u.heap.size u w') (hr:(c0=0→C=c1∧Y=y1)∧(¬c0=0→C=c0∧Y=y0)):
  Calls Tryz.prog 161 #[.int .i64 x,.int .i64 k,.slice (some ⟨S,0,none⟩) 2 2] w fun e w'=>e=.returned (.agg #[.int .i64 C,.int .i64 Y])∧Below w.heap.size w w':=by
 have F0:=hid hf0
 have F1:=hid hf1
 have H1:=hid h1
 have HR:=hid hr
 clear hf0 hf1 h1 hr
 go_enter Tryz.func161,Tryz.ntmps161
 go_wp2_with fail
 go_loopw [9,14] (fun _ c wr=>∃(j:Nat) (y:Int),j≤2∧c=.int .i64 j∧((j=0∧y=x)∨(j=1∧y=y0∧c0=0)∨(j=2∧y=y1∧c0=0∧c1=0))∧Below w.heap.size w wr∧wr.cell? ⟨w.heap.size,0,none⟩=some (.int .i64 0)∧wr.cell? ⟨w.heap.size,1,none⟩=some (.int .i64 0)∧wr.frozen? ⟨w.heap.size,0,none⟩=false∧wr.frozen? ⟨w.heap.size,1,none⟩=false
  ∧wr.cell? ⟨w.heap.size+1,0,none⟩=some (.int .i64 0)∧wr.cell? ⟨w.heap.size+1,1,none⟩=some (.int .i64 y)∧wr.frozen? ⟨w.heap.size+1,0,none⟩=false∧wr.frozen? ⟨w.heap.size+1,1,none⟩=false) (fun _ c _=>2-(intOf c).toNat)
 case atStart=>exact⟨0,x,Nat.zero_le _,rfl,.inl ⟨rfl,rfl⟩,al (al (Below.refl _ _) _) _,by simp,by simp,by simp,by simp,by simp,by simp,by simp,by simp⟩
 case round=>
  obtain⟨j,y,hj,rfl,hT,hB,r0,r1,f0,f1,p0,p1,g0,g1⟩:=hrel
  have HB:=hid hB
  have s1:w.heap.size+1<wr.heap.size:=block_of_cell p0
  have s0:w.heap.size<wr.heap.size:=by omega
  have Sw:S<wr.heap.size:=by omega
  rcases hT with⟨rfl,rfl⟩|⟨rfl,rfl,hz⟩|⟨rfl,rfl,hz0,hz1⟩
  ·have c1':=cell_keep hB F0.out
   clear hB hj
   by_cases hcc:c0=0
   ·have HC0:Hid (c0=0):=hcc
    have hcb:(c0 !=0)=false:=by simpa using hcc
    clear hcc
    go_wp2_with (go_at_call 162;refine(h0 _ HB.out).mono ?_;rintro e w5 ⟨rfl,b5⟩;have r0:=cell_keep b5 r0;have r1:=cell_keep b5 r1;have p0:=cell_keep b5 p0;have p1:=cell_keep b5 p1;have B5:Hid (Below w.heap.size w w5):=on HB.out b5;have f0:w5.frozen? ⟨w.heap.size,0,none⟩=false:=(by rw[b5.frozen (p:=⟨w.heap.size,0,none⟩) s0];exact f0);have f1:w5.frozen? ⟨w.heap.size,1,none⟩=false:=(by rw[b5.frozen (p:=⟨w.heap.size,1,none⟩) s0];exact f1);have g0:w5.frozen? ⟨w.heap.size+1,0,none⟩=false:=(by rw[b5.frozen (p:=⟨w.heap.size+1,0,none⟩) s1];exact g0);have g1:w5.frozen? ⟨w.heap.size+1,1,none⟩=false:=(by rw[b5.frozen (p:=⟨w.heap.size+1,1,none⟩) s1];exact g1))
    go_roundw
    case rel=>exact⟨1,y0,by omega,by go_num,.inr (.inl ⟨rfl,rfl,HC0.out⟩),(B5.out.setCell (by simp) _).setCell (by simp) _,by simp[go_sem,r0],by simp[go_sem,r1],by rw[World.frozen?_setCell,World.frozen?_setCell];exact f0,by rw[World.frozen?_setCell,World.frozen?_setCell];exact f1,by rw[←HC0.out];simp[go_sem,p0],by simp[go_sem,p1],by rw[World.frozen?_setCell,World.frozen?_setCell];exact g0,by rw[World.frozen?_setCell,World.frozen?_setCell];exact g1⟩
    case measure=>simp[intOf]
   ·have hc2:(c0 !=0)=true:=by simpa using hcc
    have HCC:=hid hcc
    clear hcc
    go_wp2_with (go_at_call 162;refine(h0 _ HB.out).mono ?_;rintro e w5 ⟨rfl,b5⟩;have r0:=cell_keep b5 r0;have r1:=cell_keep b5 r1;have p0:=cell_keep b5 p0;have p1:=cell_keep b5 p1;have B5:Hid (Below w.heap.size w w5):=on HB.out b5;have f0:w5.frozen? ⟨w.heap.size,0,none⟩=false:=(by rw[b5.frozen (p:=⟨w.heap.size,0,none⟩) s0];exact f0);have f1:w5.frozen? ⟨w.heap.size,1,none⟩=false:=(by rw[b5.frozen (p:=⟨w.heap.size,1,none⟩) s0];exact f1);have g0:w5.frozen? ⟨w.heap.size+1,0,none⟩=false:=(by rw[b5.frozen (p:=⟨w.heap.size+1,0,none⟩) s1];exact g0);have g1:w5.frozen? ⟨w.heap.size+1,1,none⟩=false:=(by rw[b5.frozen (p:=⟨w.heap.size+1,1,none⟩) s1];exact g1))
    exact bodyPost_ret (v:=.agg #[.int .i64 c0,.int .i64 y0]) (by simp[results,Tryz.results161,go_sem,r0,r1]) rfl ⟨by rw[(HR.out.2 HCC.out).1,(HR.out.2 HCC.out).2],(((B5.out.setCell (by simp) _).setCell (by simp) _).setCell (by simp) _).setCell (by simp) _⟩
  ·have c1':=cell_keep hB F1.out
   have hW:=H1.out hz
   have HZ:=hid hz
   clear hB hj hz
   by_cases hcc:c1=0
   ·have HC0:Hid (c1=0):=hcc
    have hcb:(c1 !=0)=false:=by simpa using hcc
    clear hcc
    go_wp2_with (go_at_call 163;refine(hW _ HB.out).mono ?_;rintro e w5 ⟨rfl,b5⟩;have r0:=cell_keep b5 r0;have r1:=cell_keep b5 r1;have p0:=cell_keep b5 p0;have p1:=cell_keep b5 p1;have B5:Hid (Below w.heap.size w w5):=on HB.out b5;have f0:w5.frozen? ⟨w.heap.size,0,none⟩=false:=(by rw[b5.frozen (p:=⟨w.heap.size,0,none⟩) s0];exact f0);have f1:w5.frozen? ⟨w.heap.size,1,none⟩=false:=(by rw[b5.frozen (p:=⟨w.heap.size,1,none⟩) s0];exact f1);have g0:w5.frozen? ⟨w.heap.size+1,0,none⟩=false:=(by rw[b5.frozen (p:=⟨w.heap.size+1,0,none⟩) s1];exact g0);have g1:w5.frozen? ⟨w.heap.size+1,1,none⟩=false:=(by rw[b5.frozen (p:=⟨w.heap.size+1,1,none⟩) s1];exact g1))
    go_roundw
    case rel=>exact⟨2,y1,by omega,by go_num,.inr (.inr ⟨rfl,rfl,HZ.out,HC0.out⟩),(B5.out.setCell (by simp) _).setCell (by simp) _,by simp[go_sem,r0],by simp[go_sem,r1],by rw[World.frozen?_setCell,World.frozen?_setCell];exact f0,by rw[World.frozen?_setCell,World.frozen?_setCell];exact f1,by rw[←HC0.out];simp[go_sem,p0],by simp[go_sem,p1],by rw[World.frozen?_setCell,World.frozen?_setCell];exact g0,by rw[World.frozen?_setCell,World.frozen?_setCell];exact g1⟩
    case measure=>simp[intOf]
   ·have hc2:(c1 !=0)=true:=by simpa using hcc
    have HCC:=hid hcc
    clear hcc
    go_wp2_with (go_at_call 163;refine(hW _ HB.out).mono ?_;rintro e w5 ⟨rfl,b5⟩;have r0:=cell_keep b5 r0;have r1:=cell_keep b5 r1;have p0:=cell_keep b5 p0;have p1:=cell_keep b5 p1;have B5:Hid (Below w.heap.size w w5):=on HB.out b5;have f0:w5.frozen? ⟨w.heap.size,0,none⟩=false:=(by rw[b5.frozen (p:=⟨w.heap.size,0,none⟩) s0];exact f0);have f1:w5.frozen? ⟨w.heap.size,1,none⟩=false:=(by rw[b5.frozen (p:=⟨w.heap.size,1,none⟩) s0];exact f1);have g0:w5.frozen? ⟨w.heap.size+1,0,none⟩=false:=(by rw[b5.frozen (p:=⟨w.heap.size+1,0,none⟩) s1];exact g0);have g1:w5.frozen? ⟨w.heap.size+1,1,none⟩=false:=(by rw[b5.frozen (p:=⟨w.heap.size+1,1,none⟩) s1];exact g1))
    exact bodyPost_ret (v:=.agg #[.int .i64 c1,.int .i64 y1]) (by simp[results,Tryz.results161,go_sem,r0,r1]) rfl ⟨by rw[(HR.out.1 HZ.out).1,(HR.out.1 HZ.out).2],(((B5.out.setCell (by simp) _).setCell (by simp) _).setCell (by simp) _).setCell (by simp) _⟩
  ·have HZ:Hid (c0=0∧c1=0):=⟨hz0,hz1⟩
   clear hB hj hz0 hz1
   go_wp2_with fail
   exact bodyPost_ret (v:=.agg #[.int .i64 0,.int .i64 y]) (by simp[results,Tryz.results161,go_sem,r0,r1]) rfl ⟨by rw[(HR.out.1 HZ.out.1).1,(HR.out.1 HZ.out.1).2,HZ.out.2],(HB.out.setCell (by simp) _).setCell (by simp) _⟩
theorem i_queue_full(m j:Nat)(v:Value)(zs:List Int)(a:Option Addr)(n c:Nat)(b:Nat)(w:World)(hj:w.cell? ⟨m,j,none⟩=some v)(hN:Nums w b v zs)(hz:zs.length≤40)(hn:n≤100000000)(hf:¬zs.length+n≤40):
  Calls Tryz.prog 165 #[.pointer (some ⟨m,j,none⟩),.slice a n c] w fun e w'=>e=.returned (.bool false)∧w'=w:=by
 obtain⟨x,cap,rfl,_⟩:=hN.shape
 clear hN
 generalize zs.length=l at*
 have h1:(l:Int)≤40:=by omega
 have h2:(40:Int)-(l:Int)<(n:Int):=by omega
 have h3:(n:Int)≤100000000:=by omega
 clear hz hn hf
 go_enter Tryz.func165,Tryz.ntmps165
 go_wp2_with fail
 go_ret
 exact⟨rfl,rfl⟩
theorem drH_ne'(H:Ht){k:Int}(h:k≠1):drH H k=H:=if_neg h
theorem wk_zero{rs:List (Int×Int)}{x k:Int}(h:¬wkC rs x k=0):wkV rs x k=0:=by
 unfold wkV
 unfold wkC at h
 cases hk:kindB k
 ·rfl
 ·rw[hk]at h
  cases hg:goesB rs x k
  ·rfl
  ·rw[hg]at h
   simp at h
theorem i_behind(q:Nat){dz:Nat}{Kz:Nat→Option Value}(i o:Value)(H:Ht)(pg pc:Nat)(ps:List (Int×Int))(g p:Nat)(ca ri:Int)(b:Nat)(w:World)(hv:Vo w q dz Kz (mcr H i o (.slice (some ⟨pg,0,none⟩) 8 pc) (.slice (some ⟨g,0,none⟩) p p) ca ri) 129)(hP:Prs 89 w b (.slice (some ⟨pg,0,none⟩) 8 pc) ps)(hl:ps.length=8)(ho:okTo 24 ps 8)(y k:Int)(h0:0≤y)(h63:y≤63):
  Calls Tryz.prog 163 #[.pointer (some ⟨q,dz,none⟩),.int .i64 y,.int .i64 k] w fun e w'=>e=.returned (.agg #[.int .i64 (behC ps y k),.int .i64 (behV ps y k)])∧Below w.heap.size w w':=by
 have HV:=hid hv
 have HP:=hid hP
 have HL:Hid (ps.length=8∧okTo 24 ps 8):=⟨hl,ho⟩
 clear hv hP hl ho
 generalize hW:w.alloc (.cells #[.int .i64 0,.int .i64 0] 116)=W
 have B0:Hid (Below w.heap.size w W):=by show Below _ _ _;rw[←hW];exact al (Below.refl _ _) _
 obtain⟨s,hS⟩:∃s,w.heap.size=s:=⟨_,rfl⟩
 have HS:=hid hS
 have VR:Hid (Vb W s #[.int .i64 0,.int .i64 0] 116):=by first|show Vo _ _ _ _ _ _|show Vb _ _ _ _;rw[←hW,←hS];exact Vb.new _ _ _
 have V0:=hid (HV.out.keep B0.out)
 have c34:W.cell? ⟨q,dz+34,none⟩=some (.slice (some ⟨pg,0,none⟩) 8 pc):=V0.out.cell 34 rfl
 have aB:atB y=true:=by unfold atB;simp;omega
 have aN:atN y=y/8:=by unfold atN;rw[aB];rfl
 obtain⟨m,hm⟩:∃m,y/8=m:=⟨_,rfl⟩
 have HMM:=hid hm
 obtain⟨C,hC⟩:∃C,behC ps y k=C:=⟨_,rfl⟩
 obtain⟨Y,hY⟩:∃Y,behV ps y k=Y:=⟨_,rfl⟩
 have HC:=hid hC
 have HY:=hid hY
 rw[hC,hY]
 clear hC hY
 by_cases h7:m=7
 ·subst h7
  have E7:=hid hm
  by_cases h4:k=4
  ·subst h4
   have EC:Hid (C=9∧Y=0):=⟨by rw[←HC.out,behC,if_pos E7.out,if_pos rfl],by rw[←HY.out,behV,if_pos E7.out,if_pos rfl]⟩
   go_enter Tryz.func163,Tryz.ntmps163
   obtain⟨p0,p1⟩:=zc2 VR.out
   obtain⟨f0,f1⟩:=zf2 VR.out
   go_wp2_with (go_at_call 168;refine(impl_pageOf y _).mono ?_;rintro e z ⟨rfl,hz⟩;rw[hz,aB,aN,hm];clear hz z)
   clear aB aN hm hW hS c34
   have NN:Hid (_∧_):=twoX VR.out (.int .i64 9) (.int .i64 0)
   clear p0 f0 p1 f1
   generalize ((W.setCell ⟨s,0,none⟩ (.int .i64 9)).setCell ⟨s,1,none⟩ (.int .i64 0))=V at*
   obtain⟨x0,x1⟩:=zc2 NN.out.1
   exact bodyPost_ret (v:=.agg #[.int .i64 9,.int .i64 0]) (by simp[results,Tryz.results163,go_sem,x0,x1]) rfl
    ⟨by rw[EC.out.1,EC.out.2],Mq.under B0.out NN.out.2 fun k e=>by have:=HS.out;omega⟩
  ·have h4b:(k==4)=false:=by simpa using h4
   have tm:y.tmod 8=y%8:=Int.tmod_eq_emod_of_nonneg h0
   obtain⟨z8,hz8⟩:∃z8,y%8=z8:=⟨_,rfl⟩
   have hz0:0≤z8:=by omega
   have hz7:z8≤7:=by omega
   have EC:Hid (C=0∧Y=1000+z8):=⟨by rw[←HC.out,behC,if_pos E7.out,if_neg h4],by rw[←HY.out,behV,if_pos E7.out,if_neg h4,hz8]⟩
   rw[hz8]at tm
   clear h4 hz8
   go_enter Tryz.func163,Tryz.ntmps163
   obtain⟨p0,p1⟩:=zc2 VR.out
   obtain⟨f0,f1⟩:=zf2 VR.out
   go_wp2_with (go_at_call 168;refine(impl_pageOf y _).mono ?_;rintro e z ⟨rfl,hz⟩;rw[hz,aB,aN,hm];clear hz z)
   clear aB aN hm hW hS c34
   have NN:Hid (_∧_):=twoX VR.out (.int .i64 0) (.int .i64 (1000+z8))
   clear p0 f0 p1 f1
   generalize ((W.setCell ⟨s,0,none⟩ (.int .i64 0)).setCell ⟨s,1,none⟩ (.int .i64 (1000+z8)))=V at*
   obtain⟨x0,x1⟩:=zc2 NN.out.1
   exact bodyPost_ret (v:=.agg #[.int .i64 0,.int .i64 (1000+z8)]) (by simp[results,Tryz.results163,go_sem,x0,x1]) rfl
    ⟨by rw[EC.out.1,EC.out.2],Mq.under B0.out NN.out.2 fun k e=>by have:=HS.out;omega⟩
 ·have h7b:(m !=7)=true:=by simpa using h7
  have EC:Hid (C=wkC ps y k∧Y=wkV ps y k):=⟨by rw[←HC.out,behC,if_neg (by rw[hm];exact h7)],by rw[←HY.out,behV,if_neg (by rw[hm];exact h7)]⟩
  go_enter Tryz.func163,Tryz.ntmps163
  go_wp2_with (go_at_call 168;refine(impl_pageOf y _).mono ?_;rintro e z ⟨rfl,hz⟩;rw[hz,aB,aN,hm];clear hz z)
  clear aB aN hm hW hS c34 h7 h7b
  refine(impl_walk _ ps y k b W (HP.out.keep B0.out) HL.out.1 HL.out.2).mono ?_
  rintro e w1⟨rfl,b1⟩
  have B1:=hid (on B0.out b1)
  have VR1:=hid (VR.out.keep b1)
  clear b1
  generalize wkC ps y k=c1 at*
  generalize wkV ps y k=y1 at*
  obtain⟨p0,p1⟩:=zc2 VR1.out
  obtain⟨f0,f1⟩:=zf2 VR1.out
  go_wp2_with fail
  have NN:Hid (_∧_):=twoX VR1.out (.int .i64 c1) (.int .i64 y1)
  clear p0 f0 p1 f1
  generalize ((w1.setCell ⟨s,0,none⟩ (.int .i64 c1)).setCell ⟨s,1,none⟩ (.int .i64 y1))=V at*
  obtain⟨x0,x1⟩:=zc2 NN.out.1
  exact bodyPost_ret (v:=.agg #[.int .i64 c1,.int .i64 y1]) (by simp[results,Tryz.results163,go_sem,x0,x1]) rfl
   ⟨by rw[EC.out.1,EC.out.2],Mq.under B1.out NN.out.2 fun k e=>by have:=HS.out;omega⟩
theorem i_place(q:Nat){dz:Nat}{Kz:Nat→Option Value}(i o:Value)(H:Ht)(pg pc:Nat)(ps:List (Int×Int))(g p:Nat)(zs:List Int)(ca ri:Int)(b:Nat)(w:World)(hv:Vo w q dz Kz (mcr H i o (.slice (some ⟨pg,0,none⟩) 8 pc) (.slice (some ⟨g,0,none⟩) p p) ca ri) 129)(hP:Prs 89 w b (.slice (some ⟨pg,0,none⟩) 8 pc) ps)(hG:Pags w b (.slice (some ⟨g,0,none⟩) p p) p zs)(sn:Sn H ps zs p)(x k:Int)(hk:kindB k=true):
  Calls Tryz.prog 155 #[.pointer (some ⟨q,dz,none⟩),.int .i64 x,.int .i64 k] w fun e w'=>e=.returned (.agg #[.int .i64 (plC H ps zs x k),.int .i64 (plV H ps zs x k)])∧Below w.heap.size w w':=by
 have HV:=hid hv
 have HP:=hid hP
 have HG:=hid hG
 have SN:=hid sn
 have HK:=hid hk
 clear hv hP hG sn hk
 generalize hW:w.alloc (.cells #[.int .i64 0,.int .i64 0] 116)=W
 have B0:Hid (Below w.heap.size w W):=by show Below _ _ _;rw[←hW];exact al (Below.refl _ _) _
 obtain⟨s,hS⟩:∃s,w.heap.size=s:=⟨_,rfl⟩
 have HS:=hid hS
 have VR:Hid (Vb W s #[.int .i64 0,.int .i64 0] 116):=by first|show Vo _ _ _ _ _ _|show Vb _ _ _ _;rw[←hW,←hS];exact Vb.new _ _ _
 have V0:=hid (HV.out.keep B0.out)
 obtain⟨C,hC⟩:∃C,plC H ps zs x k=C:=⟨_,rfl⟩
 obtain⟨Y,hY⟩:∃Y,plV H ps zs x k=Y:=⟨_,rfl⟩
 have HC:=hid hC
 have HY:=hid hY
 rw[hC,hY]
 clear hC hY
 go_enter Tryz.func155,Tryz.ntmps155
 go_wp2_with fail
 clear hW hS
 refine(i_space q i o H pg pc ps g p zs ca ri b W V0.out (HP.out.keep B0.out) (HG.out.keep B0.out) SN.out).mono ?_
 rintro e w1⟨u,rfl,pu,b1⟩
 obtain⟨ua,uc,hu,_⟩:=pu.shape
 obtain⟨ul,hul⟩:∃ul,(spP H ps zs).length=ul:=⟨_,rfl⟩
 rw[hul]at hu
 subst hu
 obtain⟨d,hd⟩:∃d,spC H ps=d:=⟨_,rfl⟩
 have HD:=hid hd
 rw[hd]
 clear hd hul
 go_upto_region 2 with fail
 generalize hW1:w1.alloc (.cells #[.int .i64 d,.slice ua ul uc] 265)=W1
 obtain⟨n,hn⟩:∃n,w1.heap.size=n:=⟨_,rfl⟩
 rw[hn]
 have VN:Hid (Vb W1 n #[.int .i64 d,.slice ua ul uc] 265):=by first|show Vo _ _ _ _ _ _|show Vb _ _ _ _;rw[←hW1,←hn];exact Vb.new _ _ _
 have bb:Below W.heap.size W W1:=by rw[←hW1];exact al b1 _
 have PU:Hid (Prs 89 W1 W.heap.size (.slice ua ul uc) (spP H ps zs)):=by show Prs _ _ _ _ _;rw[←hW1];exact pu.keep (al (Below.refl _ _) _)
 have B1:=hid (on B0.out bb)
 have VR1:=hid (VR.out.keep bb)
 have V1:=hid (V0.out.keep bb)
 clear hW1 hn b1 bb pu VR V0
 obtain⟨n0,n1⟩:=zc2 VN.out
 by_cases hd0:d=0
 case neg=>
  have hdb:(d !=0)=true:=by simpa using hd0
  have EC:Hid (C=d∧Y=0):=⟨by rw[←HC.out,plC,HD.out,if_neg hd0],by rw[←HY.out,plV,HD.out,if_neg hd0]⟩
  clear hd0
  obtain⟨p0,p1⟩:=zc2 VR1.out
  obtain⟨f0,f1⟩:=zf2 VR1.out
  go_wp2_with fail
  have NN:Hid (_∧_):=twoX VR1.out (.int .i64 d) (.int .i64 0)
  clear p0 f0 p1 f1 n0 n1
  generalize ((W1.setCell ⟨s,0,none⟩ (.int .i64 d)).setCell ⟨s,1,none⟩ (.int .i64 0))=V at*
  obtain⟨x0,x1⟩:=zc2 NN.out.1
  exact bodyPost_ret (v:=.agg #[.int .i64 d,.int .i64 0]) (by simp[results,Tryz.results155,go_sem,x0,x1]) rfl
   ⟨by rw[EC.out.1,EC.out.2],Mq.under B1.out NN.out.2 fun k e=>by have:=HS.out;omega⟩
 subst hd0
 obtain⟨sl,so⟩:=sp_ok SN.out HD.out
 have SO:Hid ((spP H ps zs).length=8∧okTo 8 (spP H ps zs) 8):=⟨sl,so⟩
 clear sl so
 have HR:Hid ((wkC (spP H ps zs) x k=0→C=behC ps (wkV (spP H ps zs) x k) k∧Y=behV ps (wkV (spP H ps zs) x k) k)∧(¬wkC (spP H ps zs) x k=0→C=wkC (spP H ps zs) x k∧Y=wkV (spP H ps zs) x k)):=
  ⟨fun e=>⟨by rw[←HC.out,plC,if_pos HD.out,if_pos e],by rw[←HY.out,plV,if_pos HD.out,if_pos e]⟩,fun e=>⟨by rw[←HC.out,plC,if_pos HD.out,if_neg e],by rw[←HY.out,plV,if_pos HD.out,if_neg e,wk_zero e]⟩⟩
 go_wp2_with fail
 clear n0 n1
 generalize hW2:W1.alloc _=W2
 obtain⟨S,hSS⟩:∃S,W1.heap.size=S:=⟨_,rfl⟩
 rw[hSS]
 have b2:Below W1.heap.size W1 W2:=by rw[←hW2];exact al (Below.refl _ _) _
 have S0:W2.cell? ⟨S,0,none⟩=some (.func (.func 162) #[.slice ua ul uc] #[]):=by rw[←hW2,←hSS];exact cell_new rfl
 have S1:W2.cell? ⟨S,1,none⟩=some (.func (.func 163) #[.pointer (some ⟨q,dz,none⟩)] #[]):=by rw[←hW2,←hSS];exact cell_new rfl
 have B2:=hid (on B1.out b2)
 have VR2:=hid (VR1.out.keep b2)
 have V2:=hid (V1.out.keep b2)
 have PU2:=hid (PU.out.keep b2)
 clear hW2 hSS b2
 refine(i_through2 x k S q (.slice ua ul uc) (wkC (spP H ps zs) x k) (wkV (spP H ps zs) x k) (behC ps (wkV (spP H ps zs) x k) k) (behV ps (wkV (spP H ps zs) x k) k) C Y W2 (block_of_cell S0) S0 S1
  (fun u hu=>impl_walk _ (spP H ps zs) x k W.heap.size u (PU2.out.keep hu) SO.out.1 (okTo_up SO.out.2))
  (fun e u hu=>by
   obtain⟨_,_,l0,l63⟩:=sp_goes SO.out.2 HK.out e
   exact i_behind q i o H pg pc ps g p ca ri b u (V2.out.keep hu) (HP.out.keep (on B2.out hu)) SN.out.l8 SN.out.ok _ k l0 l63) HR.out).mono ?_
 rintro e w3⟨rfl,b3⟩
 have B3:=hid (on B2.out b3)
 have VR3:=hid (VR2.out.keep b3)
 clear b3 S0 S1
 obtain⟨p0,p1⟩:=zc2 VR3.out
 obtain⟨f0,f1⟩:=zf2 VR3.out
 go_wp2_with fail
 have NN:Hid (_∧_):=twoX VR3.out (.int .i64 C) (.int .i64 Y)
 clear p0 f0 p1 f1
 generalize ((w3.setCell ⟨s,0,none⟩ (.int .i64 C)).setCell ⟨s,1,none⟩ (.int .i64 Y))=V at*
 obtain⟨x0,x1⟩:=zc2 NN.out.1
 exact bodyPost_ret (v:=.agg #[.int .i64 C,.int .i64 Y]) (by simp[results,Tryz.results155,go_sem,x0,x1]) rfl
  ⟨rfl,Mq.under B3.out NN.out.2 fun k e=>by have:=HS.out;omega⟩
theorem i_wordAt(q:Nat){dz:Nat}{Kz:Nat→Option Value}(i o:Value)(H:Ht)(l:Value)(g p:Nat)(zs:List Int)(ca ri:Int)(b:Nat)(w:World)(hv:Vo w q dz Kz (mcr H i o l (.slice (some ⟨g,0,none⟩) p p) ca ri) 129)(hG:Pags w b (.slice (some ⟨g,0,none⟩) p p) p zs)(a:Nat)(ha:a<p*8)(hp:p≤24):
  Calls Tryz.prog 127 #[.pointer (some ⟨q,dz,none⟩),.int .i64 (a:Int)] w fun e w'=>e=.returned (.int .i64 (zs.getD a 0))∧w'=w:=by
 have c35:w.cell? ⟨q,dz+35,none⟩=some (.slice (some ⟨g,0,none⟩) p p):=hv.cell 35 rfl
 obtain⟨m,hm⟩:∃m,a/8=m:=⟨_,rfl⟩
 obtain⟨r,hr⟩:∃r,a%8=r:=⟨_,rfl⟩
 have hmr:a=m*8+r:=by omega
 have cg:w.cell? ⟨g,m*8+r,none⟩=some (.int .i64 (zs.getD a 0)):=by rw[←hmr];exact hG.cell a ha
 have td:Int.tdiv (a:Int) 8=(m:Int):=by rw[Int.tdiv_eq_ediv_of_nonneg (by omega)];omega
 have tm:Int.tmod (a:Int) 8=(r:Int):=by rw[Int.tmod_eq_emod_of_nonneg (by omega)];omega
 have h1:(m:Int)<(p:Int):=by omega
 have h2:m<p:=by omega
 have h3:(r:Int)<8:=by omega
 have h4:r<8:=by omega
 have hai:(a:Int)≤192:=by omega
 have hwm:wrap64 (m:Int)=(m:Int):=by unfold wrap64;omega
 generalize zs.getD a 0=z at*
 clear hm hr hmr hv hG ha hp
 go_enter Tryz.func127,Tryz.ntmps127
 go_wp2_with fail
 go_ret
 exact⟨rfl,rfl⟩
end Go.Proofs.YtignbeibcakgpaaGreatDoor
