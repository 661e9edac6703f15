import Derived.Test.YtaefollmeoepkaaGreatDoorQ18
import Derived.Test.YtaefollmeoepkaaGreatDoorQ20
import Derived.Test.YtaefollmeoepkaaGreatDoorQ22
namespace Go.Proofs.YtaefollmeoepkaaGreatDoor
set_option maxRecDepth 20000
set_option maxHeartbeats 16000000
open Go.RowKit
theorem and15(x:Int):bits BinOp.and .i64 x 15=x%16:=by
 have h1:(BitVec.ofInt 64 x).toNat=(x%2 ^ 64).toNat:=BitVec.toNat_ofInt ..
 have h2:(BitVec.ofInt 64 15).toNat=2 ^ 4-1:=by decide
 show IntKind.i64.wrap ((BitVec.ofInt 64 x&&&BitVec.ofInt 64 15).toNat:Int)=_
 rw[BitVec.toNat_and,h1,h2,Nat.and_two_pow_sub_one_eq_mod,IntKind.wrap_i64]
 omega
theorem and65535(x:Int):bits BinOp.and .i64 x 65535=x%65536:=by
 have h1:(BitVec.ofInt 64 x).toNat=(x%2 ^ 64).toNat:=BitVec.toNat_ofInt ..
 have h2:(BitVec.ofInt 64 65535).toNat=2 ^ 16-1:=by decide
 show IntKind.i64.wrap ((BitVec.ofInt 64 x&&&BitVec.ofInt 64 65535).toNat:Int)=_
 rw[BitVec.toNat_and,h1,h2,Nat.and_two_pow_sub_one_eq_mod,IntKind.wrap_i64]
 omega
def decF(v:Int):Int:=insC (v/16777216) (v/1048576%16) (v/65536%16) (v%65536)
theorem dec_back{v:Int}(h:decF v=0):encV (v/16777216) (v/1048576%16) (v/65536%16) (v%65536)=v:=by
 have h':=h
 unfold decF at h'
 rw[encV,if_pos h']
 omega
theorem dec_in{v:Int}(h:decF v=0):0≤v∧v≤4294967295:=by
 have:=insC_bounds h
 omega
def decV(v:Int):Value:=if decF v=0 then .agg #[.int .i64 0,.int .i64 (v/16777216),.int .i64 (v/1048576%16),.int .i64 (v/65536%16),.int .i64 (v%65536)]else .agg #[.int .i64 5,.int .i64 0,.int .i64 0,.int .i64 0,.int .i64 0]
theorem impl_decode(v:Int)(w:World):
  Calls Tryz.prog 40 #[.int .i64 v] w fun e w'=>e=.returned (decV v)∧Below w.heap.size w w':=by
 have he:=fun w=>impl_encode (v/16777216) (v/1048576%16) (v/65536%16) (v%65536) w
 by_cases h:decF v=0
 ·rw[decV,if_pos h]
  rw[show insC (v/16777216) (v/1048576%16) (v/65536%16) (v%65536)=0 from h,dec_back h]at he
  clear h
  rw[←and15 (v/1048576),←and15 (v/65536),←and65535 v]at*
  go_enter Tryz.func40,Tryz.ntmps40
  go_wp2_with (go_at_call 84;refine(he _).mono ?_;rintro e w1 ⟨rfl,hb⟩;obtain⟨hc,hz⟩:=bcell hb)
  have k0:=cell_keep hb (cell_push _ (cell_new (i:=0) rfl))
  have k1:=cell_keep hb (cell_push _ (cell_new (i:=1) rfl))
  have k2:=cell_keep hb (cell_push _ (cell_new (i:=2) rfl))
  have k3:=cell_keep hb (cell_push _ (cell_new (i:=3) rfl))
  have k4:=cell_keep hb (cell_push _ (cell_new (i:=4) rfl))
  clear hc hz
  exact bodyPost_ret (v:=.agg #[.int .i64 0,.int .i64 (v/16777216),.int .i64 (bits BinOp.and .i64 (v/1048576) 15),.int .i64 (bits BinOp.and .i64 (v/65536) 15),.int .i64 (bits BinOp.and .i64 v 65535)]) (by simp[results,Tryz.results40,go_sem,k0,k1,k2,k3,k4]) rfl ⟨rfl,((((((((Below.refl _ _).alloc (Nat.le_refl _) _).alloc (by simp) _).trans (hb.mono (by simp;omega))).setCell (by simp) _).setCell (by simp) _).setCell (by simp) _).setCell (by simp) _).setCell (by simp) _⟩
 ·rw[decV,if_neg h]
  have g:(decF v==0)=false:=beq_eq_false_iff_ne.2 h
  rw[show insC (v/16777216) (v/1048576%16) (v/65536%16) (v%65536)=decF v from rfl]at he
  clear h
  rw[←and15 (v/1048576),←and15 (v/65536),←and65535 v]at he
  generalize decF v=c at*
  go_enter Tryz.func40,Tryz.ntmps40
  go_wp2_with (go_at_call 84;refine(he _).mono ?_;rintro e w1 ⟨rfl,hb⟩;obtain⟨hc,hz⟩:=bcell hb)
  have k0:=cell_keep hb (cell_push _ (cell_new (i:=0) rfl))
  have k1:=cell_keep hb (cell_push _ (cell_new (i:=1) rfl))
  have k2:=cell_keep hb (cell_push _ (cell_new (i:=2) rfl))
  have k3:=cell_keep hb (cell_push _ (cell_new (i:=3) rfl))
  have k4:=cell_keep hb (cell_push _ (cell_new (i:=4) rfl))
  clear hc hz
  exact bodyPost_ret (v:=.agg #[.int .i64 5,.int .i64 0,.int .i64 0,.int .i64 0,.int .i64 0]) (by simp[results,Tryz.results40,go_sem,k0,k1,k2,k3,k4]) rfl ⟨rfl,((((((((Below.refl _ _).alloc (Nat.le_refl _) _).alloc (by simp) _).trans (hb.mono (by simp;omega))).setCell (by simp) _).setCell (by simp) _).setCell (by simp) _).setCell (by simp) _).setCell (by simp) _⟩
theorem spec_l2Decode(v:Int)(w:World):
  Calls Tryz.prog 62 #[.int .i64 v] w fun e w'=>(e=.returned (if 0≤v∧v≤4294967295 then .tuple #[.agg #[.int .i64 (v/16777216),.int .i64 (bits BinOp.and .i64 (v/1048576) 15),.int .i64 (bits BinOp.and .i64 (v/65536) 15),.int .i64 (bits BinOp.and .i64 v 65535)],.bool (decF v==0)]else .tuple #[.agg #[.int .i64 0,.int .i64 0,.int .i64 0,.int .i64 0],.bool false]))∧Below w.heap.size w w':=by
 by_cases h:0≤v∧v≤4294967295
 ·rw[if_pos h]
  have i:inB v 0 4294967295=true:=inB_true h
  have he:=fun w=>spec_insFault (v/16777216) (v/1048576%16) (v/65536%16) (v%65536) w
  rw[show insC (v/16777216) (v/1048576%16) (v/65536%16) (v%65536)=decF v from rfl]at he
  clear h
  rw[←and15 (v/1048576),←and15 (v/65536),←and65535 v]at he
  generalize decF v=c at*
  go_enter Tryz.func62,Tryz.ntmps62
  go_wp2_with (go_at_call 38;refine(spec_inI _ _ _ _).mono ?_;rintro e w1 ⟨rfl,rfl⟩)
  go_region_with (go_at_call 99;refine(he _).mono ?_;rintro e w1 ⟨rfl,hb⟩;obtain⟨hc,hz⟩:=bcell hb)
  all_goals go_wp2
  all_goals have k0:w1.cell? ⟨w.heap.size,0,none⟩=some (.int .i64 0):=by rw[hc _ _ (by simp;omega)];simp
  all_goals have k1:w1.cell? ⟨w.heap.size,1,none⟩=some (.int .i64 0):=by rw[hc _ _ (by simp;omega)];simp
  all_goals have k2:w1.cell? ⟨w.heap.size,2,none⟩=some (.int .i64 0):=by rw[hc _ _ (by simp;omega)];simp
  all_goals have k3:w1.cell? ⟨w.heap.size,3,none⟩=some (.int .i64 0):=by rw[hc _ _ (by simp;omega)];simp
  all_goals clear hc hz
  all_goals exact bodyPost_ret (v:=.tuple #[.agg #[.int .i64 (v/16777216),.int .i64 (bits BinOp.and .i64 (v/1048576) 15),.int .i64 (bits BinOp.and .i64 (v/65536) 15),.int .i64 (bits BinOp.and .i64 v 65535)],.bool (c==0)]) (by simp[results,Tryz.results62,go_sem,k0,k1,k2,k3]) rfl ⟨rfl,(((((((Below.refl _ _).alloc (Nat.le_refl _) _).alloc (by simp) _).drew.trans (hb.mono (by simp;omega))).setCell (by simp) _).setCell (by simp) _).setCell (by simp) _).setCell (by simp) _⟩
 ·rw[if_neg h]
  have i:inB v 0 4294967295=false:=inB_false h
  clear h
  go_enter Tryz.func62,Tryz.ntmps62
  go_wp2_with (go_at_call 38;refine(spec_inI _ _ _ _).mono ?_;rintro e w1 ⟨rfl,rfl⟩)
  exact bodyPost_ret (v:=.tuple #[.agg #[.int .i64 0,.int .i64 0,.int .i64 0,.int .i64 0],.bool false]) (by simp[results,Tryz.results62,go_sem]) rfl ⟨rfl,(Below.refl _ _).alloc (Nat.le_refl _) _⟩
theorem spec_decode(v:Int)(w:World):
  Calls Tryz.prog 43 #[.int .i64 v] w fun e w'=>e=.returned (decV v)∧Below w.heap.size w w':=by
 have he:=fun w=>spec_l2Decode v w
 by_cases h:decF v=0
 ·rw[if_pos (dec_in h)]at he
  rw[decV,if_pos h]
  rw[h]at he
  clear h
  rw[←and15 (v/1048576),←and15 (v/65536),←and65535 v]at*
  go_enter Tryz.func43,Tryz.ntmps43
  go_wp2_with (go_at_call 62;refine(he _).mono ?_;rintro e w1 ⟨rfl,hb⟩;obtain⟨hc,hz⟩:=bcell hb;have hs:w.heap.size<w1.heap.size:=(by have:=hb.size;simp at this;omega))
  have k0:=cell_keep hb (cell_new (i:=0) rfl)
  have k1:=cell_keep hb (cell_new (i:=1) rfl)
  have k2:=cell_keep hb (cell_new (i:=2) rfl)
  have k3:=cell_keep hb (cell_new (i:=3) rfl)
  have k4:=cell_keep hb (cell_new (i:=4) rfl)
  clear hc hz
  exact bodyPost_ret (v:=.agg #[.int .i64 0,.int .i64 (v/16777216),.int .i64 (bits BinOp.and .i64 (v/1048576) 15),.int .i64 (bits BinOp.and .i64 (v/65536) 15),.int .i64 (bits BinOp.and .i64 v 65535)]) (by simp[results,Tryz.results43,go_sem,World.cell?_alloc_lt,hs,k0,k1,k2,k3,k4]) rfl ⟨rfl,(((((((((Below.refl _ _).alloc (Nat.le_refl _) _).trans (hb.mono (by simp))).setCell (by simp) _).setCell (by simp) _).setCell (by simp) _).setCell (by simp) _).setCell (by simp) _).alloc (by simp;omega) _)⟩
 ·rw[decV,if_neg h]
  have g:(decF v==0)=false:=beq_eq_false_iff_ne.2 h
  obtain⟨x0,x1,x2,x3,he⟩:∃x0 x1 x2 x3:Int,∀w,Calls Tryz.prog 62 #[.int .i64 v] w fun e w'=>e=.returned (.tuple #[.agg #[.int .i64 x0,.int .i64 x1,.int .i64 x2,.int .i64 x3],.bool false])∧Below w.heap.size w w':=by
   by_cases h':0≤v∧v≤4294967295
   ·rw[if_pos h',g]at he;exact⟨_,_,_,_,he⟩
   ·rw[if_neg h']at he;exact⟨_,_,_,_,he⟩
  clear h g
  go_enter Tryz.func43,Tryz.ntmps43
  go_wp2_with (go_at_call 62;refine(he _).mono ?_;rintro e w1 ⟨rfl,hb⟩;obtain⟨hc,hz⟩:=bcell hb;have hs:w.heap.size<w1.heap.size:=(by have:=hb.size;simp at this;omega))
  have k0:=cell_keep hb (cell_new (i:=0) rfl)
  have k1:=cell_keep hb (cell_new (i:=1) rfl)
  have k2:=cell_keep hb (cell_new (i:=2) rfl)
  have k3:=cell_keep hb (cell_new (i:=3) rfl)
  have k4:=cell_keep hb (cell_new (i:=4) rfl)
  clear hc hz
  exact bodyPost_ret (v:=.agg #[.int .i64 5,.int .i64 0,.int .i64 0,.int .i64 0,.int .i64 0]) (by simp[results,Tryz.results43,go_sem,World.cell?_alloc_lt,hs,k0,k1,k2,k3,k4]) rfl ⟨rfl,(((((((((Below.refl _ _).alloc (Nat.le_refl _) _).trans (hb.mono (by simp))).setCell (by simp) _).setCell (by simp) _).setCell (by simp) _).setCell (by simp) _).setCell (by simp) _).alloc (by simp;omega) _)⟩
set_option linter.unusedVariables false
structure Sv(w u:World)(b q:Nat)(r c i o:Value)(H:Ht):Prop where
 m:Hm u b r c i o H
 v:Vb u q #[r,.int .i64 H.pc,c,.bool H.halted,.bool H.waiting,.bool H.rung,.int .i64 H.done,i,o] 26
 g:Mq (fun j=>j=q∨c.ownBlock=some j) w u
theorem Sv.dr{w v:World}{b q:Nat}{r c i o:Value}{H:Ht}(h:Sv w v b q r c i o H):Sv w v.drew b q r c i o H:=
 ⟨h.m.keep (Below.refl _ _).drew,h.v,h.g.dr⟩
theorem apt_ne{a c:Value}{y:Nat}(h:Apt c a)(hc:c.ownBlock=some y):a.ownBlock≠some y:=by
 rcases h with h|h
 ·rw[hc]at h;cases h
 ·intro e;exact h (hc.trans e.symm)
theorem Sv.csr{w v:World}{b q y k:Nat}{r i o:Value}{H:Ht}(h:Sv w v b q r (.slice (some ⟨y,0,none⟩) 11 k) i o H)(A:Ha r (.slice (some ⟨y,0,none⟩) 11 k) i o)(hq:q≠y)(n:Nat)(u:Int):
  Sv w (v.setCell ⟨y,n,none⟩ (.int .i64 u)) b q r (.slice (some ⟨y,0,none⟩) 11 k) i o { H with csr:=H.csr.set n u}:=
 ⟨⟨h.m.r.put _ _ (apt_ne A.rc.swap rfl),(h.m.c.store n u).1,h.m.i.put _ _ (apt_ne A.ci rfl),h.m.o.put _ _ (apt_ne A.co rfl)⟩,h.v.put _ _ hq,h.g.set _ _ (.inr rfl)⟩
theorem Sv.fld{w v:World}{b q:Nat}{r c i o:Value}{H:Ht}(h:Sv w v b q r c i o H)(hq:∀k,Own4 r c i o k→k≠q)(j:Nat)(u:Value):
  Nums (v.setCell ⟨q,j,none⟩ u) b r H.regs∧Nums (v.setCell ⟨q,j,none⟩ u) b c H.csr∧Nums (v.setCell ⟨q,j,none⟩ u) b i H.inn∧Nums (v.setCell ⟨q,j,none⟩ u) b o H.out∧Mq (fun j=>j=q∨c.ownBlock=some j) w (v.setCell ⟨q,j,none⟩ u):=
 ⟨h.m.r.put _ _ (fun e=>hq q (.inl e) rfl),h.m.c.put _ _ (fun e=>hq q (.inr (.inl e)) rfl),h.m.i.put _ _ (fun e=>hq q (.inr (.inr (.inl e))) rfl),h.m.o.put _ _ (fun e=>hq q (.inr (.inr (.inr e))) rfl),h.g.set _ _ (.inl rfl)⟩
theorem Sv.pc{w v:World}{b q:Nat}{r c i o:Value}{H:Ht}(h:Sv w v b q r c i o H)(hq:∀k,Own4 r c i o k→k≠q)(u:Int):Sv w (v.setCell ⟨q,1,none⟩ (.int .i64 u)) b q r c i o { H with pc:=u}:=by
 obtain⟨h1,h2,h3,h4,h5⟩:=h.fld hq 1 (.int .i64 u)
 exact⟨⟨h1,h2,h3,h4⟩,h.v.set 1 _,h5⟩
theorem Sv.wait{w v:World}{b q:Nat}{r c i o:Value}{H:Ht}(h:Sv w v b q r c i o H)(hq:∀k,Own4 r c i o k→k≠q)(u:Bool):Sv w (v.setCell ⟨q,4,none⟩ (.bool u)) b q r c i o { H with waiting:=u}:=by
 obtain⟨h1,h2,h3,h4,h5⟩:=h.fld hq 4 (.bool u)
 exact⟨⟨h1,h2,h3,h4⟩,h.v.set 4 _,h5⟩
theorem Sv.rung{w v:World}{b q:Nat}{r c i o:Value}{H:Ht}(h:Sv w v b q r c i o H)(hq:∀k,Own4 r c i o k→k≠q)(u:Bool):Sv w (v.setCell ⟨q,5,none⟩ (.bool u)) b q r c i o { H with rung:=u}:=by
 obtain⟨h1,h2,h3,h4,h5⟩:=h.fld hq 5 (.bool u)
 exact⟨⟨h1,h2,h3,h4⟩,h.v.set 5 _,h5⟩
theorem all_set{zs:List Int}{n:Nat}{u:Int}(h:zs.all isW=true)(hu:isW u=true):(zs.set n u).all isW=true:=by
 rw[List.all_eq_true]at h ⊢
 intro x hx
 rcases List.mem_or_eq_of_mem_set hx with h1|h1
 ·exact h x h1
 ·rw[h1];exact hu
theorem gt_isW{zs:List Int}(h:zs.all isW=true)(n:Nat):isW (gt zs n)=true:=isW_iff.2 (all_at h n)
theorem stand_parts{zs:List Int}:standC zs=true↔gt zs 0≤3∧gt zs 7≤7∧gt zs 10≤8∧gt zs 6=0∧gt zs 8=0:=by
 unfold standC
 simp only[Bool.and_eq_true,decide_eq_true_eq]
 exact⟨fun h=>⟨h.1.1.1.1,h.1.1.1.2,h.1.1.2,h.1.2,h.2⟩,fun h=>⟨⟨⟨⟨h.1,h.2.1⟩,h.2.2.1⟩,h.2.2.2.1⟩,h.2.2.2.2⟩⟩
theorem stand_word(k x:Int)(h0:0≤x)(h1:x≤4294967295):isW (standV k x)=true:=by
 rw[isW_iff]
 unfold standV
 repeat' split
 all_goals omega
theorem wd_word(x:Int):0≤wd x∧wd x≤4294967295:=by unfold wd;omega
variable{H:Ht}
theorem setV_hok(K:Hok H)(k x:Int)(h0:0≤k)(h10:k≤10):Hok (setV H k x):=by
 obtain⟨n,rfl⟩:∃n:Nat,k=n:=⟨k.toNat,by omega⟩
 have hw:=wd_word x
 have hl:n<H.csr.length:=by have:=K.c11;omega
 refine⟨K.r16,by simp[setV,K.c11],K.r0,K.rw,K.pw,all_set K.cw (stand_word _ _ hw.1 hw.2),K.iw,K.ow,K.i40,K.o40,K.d0,K.d9,?_⟩
 have s:=stand_parts.1 K.st
 have g:∀j,gt (setV H (n:Int) x).csr j=if j=n then standV n (wd x)else gt H.csr j:=fun j=>gt_set _ _ _ _ hl
 rw[stand_parts,g,g,g,g,g]
 generalize wd x=u at*
 refine⟨?_,?_,?_,?_,?_⟩
 ·split
  ·rename_i e;subst e;simp[standV];omega
  ·exact s.1
 ·split
  ·rename_i e;subst e;simp[standV];omega
  ·exact s.2.1
 ·split
  ·rename_i e;subst e;simp only[standV];simp;split<;>omega
  ·exact s.2.2.1
 ·split
  ·rename_i e;subst e;simp[standV]
  ·exact s.2.2.2.1
 ·split
  ·rename_i e;subst e;simp[standV]
  ·exact s.2.2.2.2
theorem trapV_gt(hc:H.csr.length=11)(k x:Int)(j:Nat):gt (trapV H k x).csr j=if j=0 then gt H.csr 0%2*2 else if j=4 then x else if j=3 then k else if j=2 then H.pc else gt H.csr j:=by
 show gt ((((H.csr.set 2 H.pc).set 3 k).set 4 x).set 0 _) j=_
 rw[gt_set _ _ _ _ (by simp;omega),gt_set _ _ _ _ (by simp;omega),gt_set _ _ _ _ (by simp;omega),gt_set _ _ _ _ (by omega)]
 rfl
theorem trapV_hok(K:Hok H)(k x:Int)(h0:0≤k)(h31:k≤31)(hx:isW x=true):Hok (trapV H k x):=by
 have z:=all_at K.cw 0
 have g:=trapV_gt K.c11 k x
 have s:=stand_parts.1 K.st
 refine⟨K.r16,by simp[trapV,K.c11],K.r0,K.rw,gt_isW K.cw 1,all_set (all_set (all_set (all_set K.cw K.pw) (isW_iff.2 (by omega))) hx) (isW_iff.2 ?_),K.iw,K.ow,K.i40,K.o40,K.d0,K.d9,?_⟩
 ·show 0≤gt H.csr 0%2*2∧_
  omega
 ·rw[stand_parts,g,g,g,g,g]
  simp
  refine⟨by omega,s.2.1,s.2.2.1,s.2.2.2.1,s.2.2.2.2⟩
theorem backV_gt(hc:H.csr.length=11)(j:Nat):gt (backV H).csr j=if j=0 then 2+gt H.csr 0/2 else gt H.csr j:=by
 show gt (H.csr.set 0 _) j=_
 rw[gt_set _ _ _ _ (by omega)]
 rfl
theorem backV_hok(K:Hok H):Hok (backV H):=by
 have z:=all_at K.cw 0
 have g:=backV_gt K.c11
 have s:=stand_parts.1 K.st
 refine⟨K.r16,by simp[backV,K.c11],K.r0,K.rw,gt_isW K.cw 2,all_set K.cw (isW_iff.2 ?_),K.iw,K.ow,K.i40,K.o40,K.d0,K.d9,?_⟩
 ·have:=s.1
  show 0≤2+gt H.csr 0/2∧2+gt H.csr 0/2≤4294967295
  have z0:0≤gt H.csr 0:=z.1
  omega
 ·rw[stand_parts,g,g,g,g,g]
  simp
  have z0:0≤gt H.csr 0:=z.1
  refine⟨by omega,s.2.1,s.2.2.1,s.2.2.2.1,s.2.2.2.2⟩
theorem s_wrap(n:Int)(w:World):Calls Tryz.prog 135 #[.int .i64 n] w fun e w'=>e=.returned (.int .i64 (wd n))∧w'=w:=by
 go_enter Tryz.func135,Tryz.ntmps135
 go_wp2
 go_ret
 exact⟨rfl,rfl⟩
theorem hwd_in(x:Int):0≤wd x∧wd x≤4294967295:=by unfold wd;omega
theorem set_same(zs:List Int)(n:Nat)(u:Int)(hn:n<zs.length)(h:gt zs n=u):zs.set n u=zs:=by
 subst h
 unfold gt
 rw[List.getD_eq_getElem?_getD,List.getElem?_eq_getElem hn]
 simp
theorem stand_zero(K:Hok H):gt H.csr 6=0∧gt H.csr 8=0:=by
 have:=K.st
 simp only[standC,Bool.and_eq_true,decide_eq_true_eq]at this
 exact⟨this.1.2,this.2⟩
theorem setV_eq(H:Ht)(k x:Int):setV H k x=stH H k.toNat (standV k (wd x)) (H.rung&& !(decide (k=6)&&decide (2≤wd x%4))):=rfl
def drV(H:Ht)(k:Int):Int:=if k=1 then H.inn.headD 0 else if k=2 then H.done else if k=3 then H.csr.getD 9 0 else if k=4 then pendV H else if k=6 then H.inn.length else 0
def drH(H:Ht)(k:Int):Ht:=if k=1 then{ H with inn:=H.inn.tail}else H
def setW(H:Ht)(k x:Int):Ht:=stH H k.toNat (standV k x) (H.rung&& !(decide (k=6)&&decide (2≤x%4)))
theorem setW_wd(H:Ht)(k x:Int):setV H k x=setW H k (wd x):=rfl
def outW(H:Ht)(x:Int):Ht:=if H.out.length<40 then{ H with out:=H.out++ [x]}else H
def dwW(H:Ht)(k x:Int):Ht:=if k=0 then outW H x else if k=3 then setW H 9 x else if k=4 then setW H 6 x else H
def rgW(k x:Int):Int:=if k=5 then x else -1
theorem head_get(zs:List Int):zs[0]?.getD 0=zs.headD 0:=by cases zs<;>rfl
theorem head_get2(zs:List Int):zs[0]?.getD 0=zs.head?.getD 0:=by cases zs<;>rfl
theorem tail_nil(h:H.inn=[]):drH H 1=H:=by
 cases H
 simp only at h
 subst h
 rfl
theorem drH_ne(H:Ht){k:Int}(h:k≠1):drH H k=H:=if_neg h
theorem wd_wd(x:Int):wd (wd x)=wd x:=by have:=hwd_in x;unfold wd at*;omega
theorem Mq.more{S T:Nat→Prop}{w w':World}(m:Mq S w w')(h:∀k,S k→T k):Mq T w w':=⟨m.os,m.tape,m.output,m.size,fun k hk hn=>m.block k hk fun e=>hn (h k e)⟩
theorem i_queue_full(m j:Nat)(v:Value)(zs:List Int)(a:Option Addr)(n c:Nat)(b:Nat)(w:World)(hj:w.cell? ⟨m,j,none⟩=some v)(hN:Nums w b v zs)(hz:zs.length≤40)(hn:n≤100000000)(hf:¬zs.length+n≤40):
  Calls Tryz.prog 163 #[.pointer (some ⟨m,j,none⟩),.slice a n c] w fun e w'=>e=.returned (.bool false)∧w'=w:=by
 obtain⟨x,cap,rfl,_⟩:=hN.shape
 clear hN
 generalize zs.length=l at*
 have h1:(l:Int)≤40:=by omega
 have h2:(40:Int)-(l:Int)<(n:Int):=by omega
 have h3:(n:Int)≤100000000:=by omega
 clear hz hn hf
 go_enter Tryz.func163,Tryz.ntmps163
 go_wp2_with fail
 go_ret
 exact⟨rfl,rfl⟩
theorem i_queue(m j:Nat)(cs:Array Value)(t:TypeId)(v:Value)(zs:List Int)(a:Option Addr)(n c:Nat)(ys:List Int)(b:Nat)(w:World)(hv:Vb w m cs t)(hj:cs[j]? =some v)(hN:Nums w b v zs)(ht:t≠2)(hR:Rn w a n c ys)(hf:zs.length+n≤40)(hb:b≤w.heap.size):
  Calls Tryz.prog 163 #[.pointer (some ⟨m,j,none⟩),.slice a n c] w fun e w'=>e=.returned (.bool true)∧∃v',Nums w' b v' (zs++ys)∧Vb w' m (cs.setIfInBounds j v') t∧Mq (fun k=>k=m∨v.ownBlock=some k) w w':=by
 obtain⟨x,cap,rfl,_⟩:=hN.shape
 obtain⟨l,hl⟩:∃l,zs.length=l:=⟨_,rfl⟩
 rw[hl]at hN hj hf ⊢
 have HL:=hid hl
 have HF:=hid hf
 have HN:=hid hN
 have HV:=hid hv
 have HT:=hid ht
 have HR:=hid hR
 have HB:=hid hb
 have h1:(l:Int)≤40:=by omega
 have h2:¬(40:Int)-(l:Int)<(n:Int):=by omega
 have h3:(n:Int)≤100000000:=by omega
 have c0:w.cell? ⟨m,j,none⟩=some (.slice x l cap):=hv.cell j hj
 have f0:=hv.free j
 clear hl hf hN hv ht hR hb hj
 have HC:Hid (∃u,cs[j]? =some u):=by
  show ∃u,_
  have:w.cell? ⟨m,j,none⟩=some (.slice x l cap):=c0
  have hv:=HV.out
  unfold Vb at hv
  simp[World.cell?,hv]at this
  exact⟨_,this⟩
 obtain⟨u,hu⟩:=HC.out
 have HU:=hid hu
 clear hu HC
 go_enter Tryz.func163,Tryz.ntmps163
 go_wp2_with (at_builtin;refine wp_appy _ rfl _ _ rfl b _ zs rfl HN.out a n c ys rfl HR.out (by have:=HL.out;have:=HF.out;omega) HB.out ?_;intro v' w' hN' hG';obtain⟨y,cap',hv',_⟩:=hN'.shape;obtain⟨L,hL⟩:∃L,(zs++ys).length=L:=⟨_,rfl⟩;rw[hL]at hv';clear hL;subst hv';have N1:Hid (Nums w' b (.slice y L cap') (zs++ys)):=hN';have G1:Hid (w.grownBy w' (Value.slice x l cap).ownBlock):=hG';have V1:Hid (Vb w' m cs t):=HV.out.gr hG' fun e=>HN.out.ne_vb HV.out HT.out e.symm;clear hN' hG' c0 f0;have c1:=V1.out.cell j HU.out;have f1:=V1.out.free j)
 go_ret
 refine⟨rfl,_,?_,V1.out.set j _,?_⟩
 ·exact N1.out.put ⟨m,j,none⟩ _ (N1.out.ne_vb V1.out HT.out)
 ·exact(Mq.of G1.out fun k e=> .inr e.symm).set ⟨m,j,none⟩ _ (.inl rfl)
theorem drH_ne'(H:Ht){k:Int}(h:k≠1):drH H k=H:=if_neg h
theorem spC_seven{H:Ht}{ps:List (Int×Int)}(h:¬spC H ps=0):spC H ps=7:=by
 unfold spC at h ⊢
 split
 ·rename_i h1;rw[if_pos h1]at h;exact absurd rfl h
 ·split
  ·rfl
  ·rename_i h1 h2;rw[if_neg h1,if_neg h2]at h;exact absurd rfl h
theorem s_place(q:Nat)(r c i o:Value)(H:Ht)(pg pc:Nat)(ps:List (Int×Int))(gm p mc:Nat)(zs:List Int)(ri fa:Int)(b:Nat)(w:World)(hv:Vb w q #[.slice (some ⟨pg,0,none⟩) 8 pc,.slice (some ⟨gm,0,none⟩) (p*8) mc,.int .i64 ri,r,.int .i64 H.pc,c,.bool H.halted,.bool H.waiting,.bool H.rung,.int .i64 H.done,i,o,.int .i64 fa] 62)(hC:Nums w b c H.csr)(hP:Prs 36 w b (.slice (some ⟨pg,0,none⟩) 8 pc) ps)(hM:Nums w b (.slice (some ⟨gm,0,none⟩) (p*8) mc) zs)(sn:Sn H ps zs p)(x k:Int)(hk:kindB k=true):
  Calls Tryz.prog 42 #[.pointer (some ⟨q,0,none⟩),.int .i64 x,.int .i64 k] w fun e w'=>e=.returned (.tuple #[.int .i64 (plV H ps zs x k),.int .i64 (plC H ps zs x k)])∧Below w.heap.size w w':=by
 have SN:=hid sn
 have HV:=hid hv
 have HCS:=hid hC
 have HP:=hid hP
 have HM:=hid hM
 have HK:=hid hk
 have KC:=kind_cases hk
 clear hv hC hP hM sn hk
 obtain⟨C,hC⟩:∃C,plC H ps zs x k=C:=⟨_,rfl⟩
 obtain⟨Y,hY⟩:∃Y,plV H ps zs x k=Y:=⟨_,rfl⟩
 have HC:=hid hC
 have HY:=hid hY
 rw[hC,hY]
 clear hC hY
 have c0:w.cell? ⟨q,0,none⟩=some (.slice (some ⟨pg,0,none⟩) 8 pc):=HV.out.cell 0 rfl
 go_enter Tryz.func42,Tryz.ntmps42
 go_wp2_with fail
 refine(s_space q r c i o H pg pc ps gm p mc zs ri fa b w HV.out HCS.out HP.out HM.out SN.out).mono ?_
 rintro e w1⟨u,rfl,pu,b1⟩
 have B1:=hid b1
 have c0:=cell_keep b1 c0
 by_cases hd0:spC H ps=0
 case neg=>
  have EC:Hid (C=7∧Y=0):=⟨by rw[←HC.out,plC,if_neg hd0,spC_seven hd0],by rw[←HY.out,plV,if_neg hd0]⟩
  have ed:decide (spC H ps=0)=false:=by simpa using hd0
  rw[ed]
  clear ed hd0 pu b1
  go_wp2_with fail
  exact bodyPost_ret (v:=.tuple #[.int .i64 0,.int .i64 7]) (by simp[results,Tryz.results42,go_sem]) rfl ⟨by rw[EC.out.1,EC.out.2],B1.out⟩
 have HD:=hid hd0
 have ed:decide (spC H ps=0)=true:=by simpa using hd0
 rw[ed]
 obtain⟨sl,so⟩:=sp_ok SN.out hd0
 have SO:Hid ((spP H ps zs).length=8∧okTo 8 (spP H ps zs) 8):=⟨sl,so⟩
 obtain⟨ua,uc,hu,_⟩:=pu.shape
 rw[sl]at hu
 subst hu
 have PU:=hid pu
 clear ed hd0 pu b1 sl so
 go_wp2_with fail
 have LW:=spec_l4walk _ (spP H ps zs) x k w.heap.size w1 PU.out SO.out.1 (okTo_up SO.out.2)
 by_cases hw:wkC (spP H ps zs) x k=0
 case neg=>
  obtain⟨g1,g2⟩:=goesV_no HK.out hw
  rw[g1]at LW
  have EC:Hid (C=kindV k∧Y=0):=⟨by rw[←HC.out,plC,if_pos HD.out,if_neg hw,g2],by rw[←HY.out,plV,if_pos HD.out,if_neg hw]⟩
  clear g1 g2 hw
  refine LW.mono ?_
  rintro e w2⟨rfl,b2⟩
  have B2:=hid (on B1.out b2)
  clear LW b2
  go_wp2_with (go_at_call 87;refine(spec_kindV k _ HK.out).mono ?_;rintro e z ⟨rfl,hz⟩;rw[hz];clear hz z)
  exact bodyPost_ret (v:=.tuple #[.int .i64 0,.int .i64 (kindV k)]) (by simp[results,Tryz.results42,go_sem]) rfl ⟨by rw[EC.out.1,EC.out.2],B2.out⟩
 rw[goesV_yes HK.out hw]at LW
 obtain⟨_,_,y0,y63⟩:=sp_goes SO.out.2 HK.out hw
 obtain⟨y,hy⟩:∃y,wkV (spP H ps zs) x k=y:=⟨_,rfl⟩
 have E0:Hid (C=behC ps y k∧Y=behV ps y k):=⟨by rw[←HC.out,plC,if_pos HD.out,if_pos hw,hy],by rw[←HY.out,plV,if_pos HD.out,if_pos hw,hy]⟩
 rw[hy]at LW y0 y63
 clear hw hy
 refine LW.mono ?_
 rintro e w2⟨rfl,b2⟩
 have B2:=hid (on B1.out b2)
 have c0:=cell_keep b2 c0
 clear LW b2
 have td:y.tdiv 8=y/8:=Int.tdiv_eq_ediv_of_nonneg y0
 have tm:y.tmod 8=y%8:=Int.tmod_eq_emod_of_nonneg y0
 have yn:¬y<0:=by omega
 obtain⟨m,hm⟩:∃m,y/8=m:=⟨_,rfl⟩
 have hwm:wrap64 m=m:=by unfold wrap64;omega
 rw[hm]at td
 by_cases h7:m=7
 ·subst h7
  by_cases h4:k=4
  ·subst h4
   have EC:Hid (C=9∧Y=0):=⟨by rw[E0.out.1,behC,if_pos hm,if_pos rfl],by rw[E0.out.2,behV,if_pos hm,if_pos rfl]⟩
   clear hm KC
   go_wp2_with fail
   exact bodyPost_ret (v:=.tuple #[.int .i64 0,.int .i64 9]) (by simp[results,Tryz.results42,go_sem]) rfl ⟨by rw[EC.out.1,EC.out.2],B2.out⟩
  ·have h4b:(k==4)=false:=by simpa using h4
   obtain⟨z8,hz8⟩:∃z8,y%8=z8:=⟨_,rfl⟩
   have hz0:0≤z8:=by omega
   have hz7:z8≤7:=by omega
   have EC:Hid (C=0∧Y=1000+z8):=⟨by rw[E0.out.1,behC,if_pos hm,if_neg h4],by rw[E0.out.2,behV,if_pos hm,if_neg h4,hz8]⟩
   rw[hz8]at tm
   clear hm h4 hz8 KC
   go_wp2_with fail
   exact bodyPost_ret (v:=.tuple #[.int .i64 (1000+z8),.int .i64 0]) (by simp[results,Tryz.results42,go_sem]) rfl ⟨by rw[EC.out.1,EC.out.2],B2.out⟩
 ·have h7b:(m==7)=false:=by simpa using h7
  have EC:Hid (C=wkC ps y k∧Y=wkV ps y k):=⟨by rw[E0.out.1,behC,if_neg (by rw[hm];exact h7)],by rw[E0.out.2,behV,if_neg (by rw[hm];exact h7)]⟩
  clear hm h7 tm KC
  go_wp2_with fail
  have LX:=spec_l4walk _ ps y k b w2 (HP.out.keep B2.out) SN.out.l8 SN.out.ok
  by_cases hx:wkC ps y k=0
  case neg=>
   obtain⟨g1,g2⟩:=goesV_no HK.out hx
   rw[g1]at LX
   have ED:Hid (C=kindV k∧Y=0):=⟨by rw[EC.out.1,g2],by rw[EC.out.2,wk_zero hx]⟩
   clear g1 g2 hx
   refine LX.mono ?_
   rintro e w3⟨rfl,b3⟩
   have B3:=hid (on B2.out b3)
   clear LX b3
   go_wp2_with (go_at_call 87;refine(spec_kindV k _ HK.out).mono ?_;rintro e z ⟨rfl,hz⟩;rw[hz];clear hz z)
   exact bodyPost_ret (v:=.tuple #[.int .i64 0,.int .i64 (kindV k)]) (by simp[results,Tryz.results42,go_sem]) rfl ⟨by rw[ED.out.1,ED.out.2],B3.out⟩
  rw[goesV_yes HK.out hx]at LX
  have vn:¬wkV ps y k<0:=by
   have hg:goesB ps y k=true:=by
    cases hg:goesB ps y k
    ·unfold wkC at hx
     rw[HK.out,hg]at hx
     exact absurd hx (by rcases kind_cases HK.out with rfl|rfl|rfl<;>decide)
    ·rfl
   have e:wkV ps y k=goesTo ps y:=by simp[wkV,HK.out,hg]
   have:=goes_in SN.out.ok hg
   rw[e]
   unfold goesTo
   omega
  have ED:Hid (C=0∧Y=wkV ps y k):=⟨by rw[EC.out.1,hx],EC.out.2⟩
  clear hx EC E0
  generalize wkV ps y k=v at*
  refine LX.mono ?_
  rintro e w3⟨rfl,b3⟩
  have B3:=hid (on B2.out b3)
  clear LX b3
  go_wp2_with fail
  exact bodyPost_ret (v:=.tuple #[.int .i64 v,.int .i64 0]) (by simp[results,Tryz.results42,go_sem]) rfl ⟨by rw[ED.out.1,ED.out.2],B3.out⟩
def poC(H:Ht)(ps:List (Int×Int))(zs:List Int)(x k:Int):Int:=if seenC H ps zs=0 then(if kindB k then plC H ps zs x k else 3)else seenC H ps zs
def poV(H:Ht)(ps:List (Int×Int))(zs:List Int)(x k:Int):Int:=if seenC H ps zs=0 then(if kindB k then plV H ps zs x k else 0)else 0
theorem mcr_store(H:Ht)(xa:Option Addr)(xn xk:Nat)(ya:Option Addr)(yn yk:Nat)(la:Option Addr)(ln lk:Nat)(pa:Option Addr)(pn pk:Nat)(ca ri:Int)(w:World):(storeCells ⟨w.heap.size,0,none⟩ (mcr H (.slice xa xn xk) (.slice ya yn yk) (.slice la ln lk) (.slice pa pn pk) ca ri).toList 0).run Tryz.prog (w.alloc (.cells #[.int .i64 0,.int .i64 0,.int .i64 0,.int .i64 0,.int .i64 0,.int .i64 0,.int .i64 0,.int .i64 0,.int .i64 0,.int .i64 0,.int .i64 0,.int .i64 0,.int .i64 0,.int .i64 0,.int .i64 0,.int .i64 0,.int .i64 0,.int .i64 0,.int .i64 0,.int .i64 0,.int .i64 0,.int .i64 0,.int .i64 0,.int .i64 0,.int .i64 0,.int .i64 0,.int .i64 0,.int .i64 0,.bool false,.bool false,.bool false,.int .i64 0,.slice none 0 0,.slice none 0 0,.slice none 0 0,.slice none 0 0,.int .i64 0,.int .i64 0] 78))=.ok () (w.alloc (.cells (mcr H (.slice xa xn xk) (.slice ya yn yk) (.slice la ln lk) (.slice pa pn pk) ca ri) 78)):=
 run_storeCells_new (P:=Tryz.prog) w 78 #[.int .i64 0,.int .i64 0,.int .i64 0,.int .i64 0,.int .i64 0,.int .i64 0,.int .i64 0,.int .i64 0,.int .i64 0,.int .i64 0,.int .i64 0,.int .i64 0,.int .i64 0,.int .i64 0,.int .i64 0,.int .i64 0,.int .i64 0,.int .i64 0,.int .i64 0,.int .i64 0,.int .i64 0,.int .i64 0,.int .i64 0,.int .i64 0,.int .i64 0,.int .i64 0,.int .i64 0,.int .i64 0,.bool false,.bool false,.bool false,.int .i64 0,.slice none 0 0,.slice none 0 0,.slice none 0 0,.slice none 0 0,.int .i64 0,.int .i64 0] (mcr H (.slice xa xn xk) (.slice ya yn yk) (.slice la ln lk) (.slice pa pn pk) ca ri) (by kernel_rfl) rfl (mcr_one H (.slice xa xn xk) (.slice ya yn yk) (.slice la ln lk) (.slice pa pn pk) ca ri rfl rfl rfl rfl)
theorem Pags.mono{w:World}{base base':Nat}{v:Value}{n:Nat}{zs:List Int}(h:Pags w base v n zs)(hb:base'≤base):Pags w base' v n zs:=by
 obtain⟨h1,h2|⟨g,cap,cur,hv,hg,rest⟩⟩:=h
 ·exact⟨h1,.inl h2⟩
 ·exact⟨h1,.inr ⟨g,cap,cur,hv,Nat.le_trans hb hg,rest⟩⟩
theorem i_placeOf(r c i o:Value)(H:Ht)(pa:Option Addr)(pn pc:Nat)(ps:List (Int×Int))(ma:Option Addr)(mn mc:Nat)(zs:List Int)(x k:Int)(b:Nat)(w:World)(h:Hm w b r c i o H)(hP:Prs 36 w b (.slice pa pn pc) ps)(hl:ps.length≤1048576)(hM:Nums w b (.slice ma mn mc) zs)(hm:zs.length≤1048576):
  Calls Tryz.prog 21 #[.agg #[r,.int .i64 H.pc,c,.bool H.halted,.bool H.waiting,.bool H.rung,.int .i64 H.done,i,o],.slice pa pn pc,.slice ma mn mc,.int .i64 x,.int .i64 k] w fun e w'=>e=.returned (.agg #[.int .i64 (poC H ps zs x k),.int .i64 (poV H ps zs x k)])∧Below w.heap.size w w':=by
 have HM:=hid h
 have HP:=hid hP
 have HZ:=hid hM
 have HL:Hid (ps.length≤1048576∧zs.length≤1048576):=⟨hl,hm⟩
 obtain⟨a0,k0,rfl,_⟩:=h.r.shape
 obtain⟨a1,k1,rfl,_⟩:=h.c.shape
 obtain⟨a2,k2,rfl,_⟩:=h.i.shape
 obtain⟨a3,k3,rfl,_⟩:=h.o.shape
 clear h hP hl hM hm
 generalize hW:(w.alloc (.cells #[.slice a0 H.regs.length k0,.int .i64 H.pc,.slice a1 H.csr.length k1,.bool H.halted,.bool H.waiting,.bool H.rung,.int .i64 H.done,.slice a2 H.inn.length k2,.slice a3 H.out.length k3] 26)).alloc (.cells #[.int .i64 0,.int .i64 0] 48)=W
 have B0:Hid (Below w.heap.size w W):=by show Below _ _ _;rw[←hW];exact al (al (Below.refl _ _) _) _
 obtain⟨s,hS⟩:∃s,w.heap.size=s:=⟨_,rfl⟩
 have HS:=hid hS
 have VA:Hid (Vb W s #[.slice a0 H.regs.length k0,.int .i64 H.pc,.slice a1 H.csr.length k1,.bool H.halted,.bool H.waiting,.bool H.rung,.int .i64 H.done,.slice a2 H.inn.length k2,.slice a3 H.out.length k3] 26):=by
  show Vb _ _ _ _;rw[←hW,←hS];exact(Vb.new _ _ _).push _
 have VR:Hid (Vb W (s+1) #[.int .i64 0,.int .i64 0] 48):=by
  have z1:s+1=(w.alloc (.cells #[.slice a0 H.regs.length k0,.int .i64 H.pc,.slice a1 H.csr.length k1,.bool H.halted,.bool H.waiting,.bool H.rung,.int .i64 H.done,.slice a2 H.inn.length k2,.slice a3 H.out.length k3] 26)).heap.size:=by rw[←hS];simp
  show Vb _ _ _ _;rw[←hW,z1];exact Vb.new _ _ _
 obtain⟨q0,q1,q2,q3,q4,q5,q6,q7,q8⟩:=zc9 VA.out
 go_enter Tryz.func21,Tryz.ntmps21
 go_wp2_with fail
 clear hW hS q0 q1 q2 q3 q4 q5 q6 q7 q8
 refine(i_seen _ _ _ _ H pa pn pc ps ma mn mc zs b W (HM.out.keep B0.out) (HP.out.keep B0.out) HL.out.1 (HZ.out.keep B0.out) HL.out.2).mono ?_
 rintro e w1⟨rfl,b1⟩
 have B1:=hid (on B0.out b1)
 have VA1:=hid (VA.out.keep b1)
 have VR1:=hid (VR.out.keep b1)
 have M1:Hid (Hm w1 b _ _ _ _ H):=HM.out.keep B1.out
 have P1:=hid (HP.out.keep B1.out)
 have Z1:=hid (HZ.out.keep B1.out)
 have LW:Hid (w.heap.size≤w1.heap.size):=B1.out.size
 clear b1 VA VR HM HP HZ
 by_cases hf:seenC H ps zs=0
 case neg=>
  have HE:Hid (poC H ps zs x k=seenC H ps zs∧poV H ps zs x k=0):=⟨if_neg hf,if_neg hf⟩
  generalize seenC H ps zs=f at*
  obtain⟨p0,p1⟩:=zc2 VR1.out
  obtain⟨f0,f1⟩:=zf2 VR1.out
  go_wp2_with fail
  have NN:Hid (_∧_):=twoX VR1.out (.int .i64 f) (.int .i64 0)
  clear p0 f0 p1 f1
  generalize hVV:((w1.setCell ⟨s+1,0,none⟩ (.int .i64 f)).setCell ⟨s+1,1,none⟩ (.int .i64 0))=V at*
  obtain⟨x0,x1⟩:=zc2 NN.out.1
  exact bodyPost_ret (v:=.agg #[.int .i64 f,.int .i64 0]) (by simp[results,Tryz.results21,go_sem,x0,x1]) rfl
   ⟨by rw[HE.out.1,HE.out.2],Mq.under B1.out NN.out.2 fun k e=>by have:=HS.out;omega⟩
 have HF:=hid hf
 rw[hf]
 obtain⟨p,sn⟩:=seen_ok hf
 have SN:=hid sn
 obtain rfl:mn=p*8:=by have:=Z1.out.len;have:=sn.zl;omega
 obtain⟨ga,gc,hv, -, -,hg⟩:=Z1.out.shape
 obtain⟨gm,hg⟩:=hg (by have:=sn.zl;have:=sn.p1;omega)
 simp only[Value.slice.injEq]at hv
 obtain⟨hv1, -, -⟩:=hv
 rw[hg]at hv1
 subst hv1
 clear hg
 obtain⟨pa',pc',hv, -, -,hg⟩:=P1.out.shape
 obtain⟨pg,hg⟩:=hg (by have:=sn.l8;omega)
 simp only[Value.slice.injEq]at hv
 obtain⟨hv1,hv2, -⟩:=hv
 rw[hg]at hv1
 subst hv1
 rw[sn.l8]at hv2
 subst hv2
 clear hg hf sn
 cases hk:kindB k
 case false=>
  have HE:Hid (poC H ps zs x k=3∧poV H ps zs x k=0):=⟨by rw[poC,if_pos HF.out,hk];rfl,by rw[poV,if_pos HF.out,hk];rfl⟩
  obtain⟨p0,p1⟩:=zc2 VR1.out
  obtain⟨f0,f1⟩:=zf2 VR1.out
  go_wp2_with (go_at_call 46;refine(impl_kind k _).mono ?_;rintro e z ⟨rfl,hz⟩;rw[hz,hk];clear hz z)
  have NN:Hid (_∧_):=twoX VR1.out (.int .i64 3) (.int .i64 0)
  clear p0 f0 p1 f1
  generalize hVV:((w1.setCell ⟨s+1,0,none⟩ (.int .i64 3)).setCell ⟨s+1,1,none⟩ (.int .i64 0))=V at*
  obtain⟨x0,x1⟩:=zc2 NN.out.1
  exact bodyPost_ret (v:=.agg #[.int .i64 3,.int .i64 0]) (by simp[results,Tryz.results21,go_sem,x0,x1]) rfl
   ⟨by rw[HE.out.1,HE.out.2],Mq.under B1.out NN.out.2 fun k e=>by have:=HS.out;omega⟩
 have HE:Hid (poC H ps zs x k=plC H ps zs x k∧poV H ps zs x k=plV H ps zs x k):=⟨by rw[poC,if_pos HF.out,hk];rfl,by rw[poV,if_pos HF.out,hk];rfl⟩
 have HK:=hid hk
 obtain⟨q0,q1,q2,q3,q4,q5,q6,q7,q8⟩:=zc9 VA1.out
 go_wp2_with (go_at_call 46;refine(impl_kind k _).mono ?_;rintro e z ⟨rfl,hz⟩;rw[hz,hk];clear hz z)
 clear hk
 clear q0 q1 q2 q3 q4 q5 q6 q7 q8
 refine(i_runner _ _ _ _ H (some ⟨pg,0,none⟩) 8 pc gm (p*8) mc zs b p w1 M1.out SN.out.hok Z1.out SN.out.zl SN.out.p24 SN.out.p1).mono ?_
 rintro e w2⟨i2,o2,g,rfl,mi,mo,ap,gs,b2⟩
 obtain⟨xa,xk,rfl,_⟩:=mi.shape
 obtain⟨ya,yk,rfl,_⟩:=mo.shape
 generalize hxn:H.inn.length=xn at*
 generalize hyn:H.out.length=yn at*
 have hst:=mcr_store H xa xn xk ya yn yk (some ⟨pg,0,none⟩) 8 pc (some ⟨g,0,none⟩) p p (-1) (-1) w2
 have hsz:=mcr_size H (.slice xa xn xk) (.slice ya yn yk) (.slice (some ⟨pg,0,none⟩) 8 pc) (.slice (some ⟨g,0,none⟩) p p) (-1) (-1)
 have GS:=hid gs
 have B2:=hid (on B1.out b2)
 have VR2:=hid (VR1.out.keep b2)
 have P2:=hid (P1.out.keep b2)
 clear mi mo ap b2 hxn hyn gs
 go_wp2_with fail
 generalize hW3:w2.alloc (.cells (mcr H (.slice xa xn xk) (.slice ya yn yk) (.slice (some ⟨pg,0,none⟩) 8 pc) (.slice (some ⟨g,0,none⟩) p p) (-1) (-1)) 78)=W3
 obtain⟨m,hm⟩:∃m,w2.heap.size=m:=⟨_,rfl⟩
 rw[hm]
 have V3:Hid (Vb W3 m (mcr H (.slice xa xn xk) (.slice ya yn yk) (.slice (some ⟨pg,0,none⟩) 8 pc) (.slice (some ⟨g,0,none⟩) p p) (-1) (-1)) 78):=by show Vb _ _ _ _;rw[←hW3,←hm];exact Vb.new _ _ _
 have bb:Below w2.heap.size w2 W3:=by rw[←hW3];exact al (Below.refl _ _) _
 have B3:=hid (on B2.out bb)
 have VR3:=hid (VR2.out.keep bb)
 have P3:Hid (Prs 36 W3 0 (.slice (some ⟨pg,0,none⟩) 8 pc) ps):=(P2.out.keep bb).mono (Nat.zero_le _)
 have G3:Hid (Pags W3 0 (.slice (some ⟨g,0,none⟩) p p) p zs):=(GS.out.keep bb).mono (Nat.zero_le _)
 have L3:Hid (w.heap.size≤W3.heap.size):=B3.out.size
 clear hst hsz hW3 hm bb
 refine(i_place m (.slice xa xn xk) (.slice ya yn yk) H pg pc ps g p zs (-1) (-1) 0 W3 V3.out P3.out G3.out SN.out x k HK.out).mono ?_
 rintro e w4⟨rfl,b4⟩
 have B4:=hid (on B3.out b4)
 have VR4:=hid (VR3.out.keep b4)
 clear b4
 generalize plC H ps zs x k=d at*
 generalize plV H ps zs x k=v at*
 obtain⟨p0,p1⟩:=zc2 VR4.out
 obtain⟨f0,f1⟩:=zf2 VR4.out
 go_wp2_with fail
 have NN:Hid (_∧_):=twoX VR4.out (.int .i64 d) (.int .i64 v)
 clear p0 f0 p1 f1
 generalize hVV:((w4.setCell ⟨s+1,0,none⟩ (.int .i64 d)).setCell ⟨s+1,1,none⟩ (.int .i64 v))=V at*
 obtain⟨x0,x1⟩:=zc2 NN.out.1
 exact bodyPost_ret (v:=.agg #[.int .i64 d,.int .i64 v]) (by simp[results,Tryz.results21,go_sem,x0,x1]) rfl
  ⟨by rw[HE.out.1,HE.out.2],Mq.under B4.out NN.out.2 fun k e=>by have:=HS.out;omega⟩
def nxV(H:Ht)(ps:List (Int×Int))(zs:List Int):Value:=if seenC H ps zs=0 then(if plC H ps zs H.pc 4=0 then decV (zs.getD (plV H ps zs H.pc 4).toNat 0)else .agg #[.int .i64 (plC H ps zs H.pc 4),.int .i64 0,.int .i64 0,.int .i64 0,.int .i64 0])else .agg #[.int .i64 (seenC H ps zs),.int .i64 0,.int .i64 0,.int .i64 0,.int .i64 0]
theorem fiveX{v:World}{q:Nat}{t:TypeId}{z0 z1 z2 z3 z4:Value}(h:Vb v q #[z0,z1,z2,z3,z4] t)(u0 u1 u2 u3 u4:Value):
  Vb (((((v.setCell ⟨q,0,none⟩ u0).setCell ⟨q,1,none⟩ u1).setCell ⟨q,2,none⟩ u2).setCell ⟨q,3,none⟩ u3).setCell ⟨q,4,none⟩ u4) q #[u0,u1,u2,u3,u4] t∧Mq (fun k=>k=q) v (((((v.setCell ⟨q,0,none⟩ u0).setCell ⟨q,1,none⟩ u1).setCell ⟨q,2,none⟩ u2).setCell ⟨q,3,none⟩ u3).setCell ⟨q,4,none⟩ u4):=by
 have h0:Vb (v.setCell ⟨q,0,none⟩ u0) q #[u0,z1,z2,z3,z4] t:=h.set 0 u0
 have h1:Vb _ q #[u0,u1,z2,z3,z4] t:=h0.set 1 u1
 have h2:Vb _ q #[u0,u1,u2,z3,z4] t:=h1.set 2 u2
 have h3:Vb _ q #[u0,u1,u2,u3,z4] t:=h2.set 3 u3
 exact⟨h3.set 4 u4,(((((Mq.refl (fun k=>k=q) v).set ⟨q,0,none⟩ u0 rfl).set ⟨q,1,none⟩ u1 rfl).set ⟨q,2,none⟩ u2 rfl).set ⟨q,3,none⟩ u3 rfl).set ⟨q,4,none⟩ u4 rfl⟩
theorem dec_five(z:Int):∃d0 d1 d2 d3 d4:Int,decV z=.agg #[.int .i64 d0,.int .i64 d1,.int .i64 d2,.int .i64 d3,.int .i64 d4]:=by
 unfold decV
 split
 ·exact⟨_,_,_,_,_,rfl⟩
 ·exact⟨_,_,_,_,_,rfl⟩
theorem nx_five(H:Ht)(ps:List (Int×Int))(zs:List Int):∃d0 d1 d2 d3 d4:Int,nxV H ps zs=.agg #[.int .i64 d0,.int .i64 d1,.int .i64 d2,.int .i64 d3,.int .i64 d4]:=by
 unfold nxV
 split
 ·split
  ·exact dec_five _
  ·exact⟨_,_,_,_,_,rfl⟩
 ·exact⟨_,_,_,_,_,rfl⟩
theorem pl_run{H:Ht}{ps:List (Int×Int)}{zs:List Int}{p:Nat}{x:Int}(s:Sn H ps zs p)(h:plC H ps zs x 4=0):∃a:Nat,plV H ps zs x 4=(a:Int)∧a<p*8:=by
 by_cases h1:spC H ps=0
 ·unfold plC at h
  unfold plV
  rw[if_pos h1]at h ⊢
  by_cases h2:wkC (spP H ps zs) x 4=0
  ·rw[if_pos h2]at h ⊢
   unfold behC at h
   unfold behV
   by_cases h3:wkV (spP H ps zs) x 4/8=7
   ·rw[if_pos h3]at h
    exact absurd h (by decide)
   ·rw[if_neg h3]at h ⊢
    generalize wkV (spP H ps zs) x 4=y at*
    have hg:goesB ps y 4=true:=by
     cases hg:goesB ps y 4
     ·unfold wkC at h
      rw[hg]at h
      exact absurd h (by decide)
     ·rfl
    have e:wkV ps y 4=goesTo ps y:=by unfold wkV;rw[hg];rfl
    obtain⟨h0,h63,h4,h5⟩:=goes_in s.ok hg
    have h6:=s.tl (y/8).toNat (by omega)
    rw[e]
    unfold goesTo
    refine⟨((ps.getD (y/8).toNat (0,0)).1*8+y%8).toNat,by omega,by omega⟩
  ·rw[if_neg h2]at h
   exact absurd h h2
 ·unfold plC at h
  rw[if_neg h1]at h
  exact absurd h h1
theorem i_nextIns(r c i o:Value)(H:Ht)(pa:Option Addr)(pn pc:Nat)(ps:List (Int×Int))(ma:Option Addr)(mn mc:Nat)(zs:List Int)(b:Nat)(w:World)(h:Hm w b r c i o H)(hP:Prs 36 w b (.slice pa pn pc) ps)(hl:ps.length≤1048576)(hM:Nums w b (.slice ma mn mc) zs)(hm:zs.length≤1048576):
  Calls Tryz.prog 18 #[.agg #[r,.int .i64 H.pc,c,.bool H.halted,.bool H.waiting,.bool H.rung,.int .i64 H.done,i,o],.slice pa pn pc,.slice ma mn mc] w fun e w'=>e=.returned (nxV H ps zs)∧Below w.heap.size w w':=by
 obtain⟨R,hR⟩:∃R,nxV H ps zs=R:=⟨_,rfl⟩
 have HR:=hid hR
 rw[hR]
 clear hR
 have HM:=hid h
 have HP:=hid hP
 have HZ:=hid hM
 have HL:Hid (ps.length≤1048576∧zs.length≤1048576):=⟨hl,hm⟩
 obtain⟨a0,k0,rfl,_⟩:=h.r.shape
 obtain⟨a1,k1,rfl,_⟩:=h.c.shape
 obtain⟨a2,k2,rfl,_⟩:=h.i.shape
 obtain⟨a3,k3,rfl,_⟩:=h.o.shape
 clear h hP hl hM hm
 generalize hW:(w.alloc (.cells #[.slice a0 H.regs.length k0,.int .i64 H.pc,.slice a1 H.csr.length k1,.bool H.halted,.bool H.waiting,.bool H.rung,.int .i64 H.done,.slice a2 H.inn.length k2,.slice a3 H.out.length k3] 26)).alloc (.cells #[.int .i64 0,.int .i64 0,.int .i64 0,.int .i64 0,.int .i64 0] 45)=W
 have B0:Hid (Below w.heap.size w W):=by show Below _ _ _;rw[←hW];exact al (al (Below.refl _ _) _) _
 obtain⟨s,hS⟩:∃s,w.heap.size=s:=⟨_,rfl⟩
 have HS:=hid hS
 have VA:Hid (Vb W s #[.slice a0 H.regs.length k0,.int .i64 H.pc,.slice a1 H.csr.length k1,.bool H.halted,.bool H.waiting,.bool H.rung,.int .i64 H.done,.slice a2 H.inn.length k2,.slice a3 H.out.length k3] 26):=by
  show Vb _ _ _ _;rw[←hW,←hS];exact(Vb.new _ _ _).push _
 have VR:Hid (Vb W (s+1) #[.int .i64 0,.int .i64 0,.int .i64 0,.int .i64 0,.int .i64 0] 45):=by
  have z1:s+1=(w.alloc (.cells #[.slice a0 H.regs.length k0,.int .i64 H.pc,.slice a1 H.csr.length k1,.bool H.halted,.bool H.waiting,.bool H.rung,.int .i64 H.done,.slice a2 H.inn.length k2,.slice a3 H.out.length k3] 26)).heap.size:=by rw[←hS];simp
  show Vb _ _ _ _;rw[←hW,z1];exact Vb.new _ _ _
 obtain⟨q0,q1,q2,q3,q4,q5,q6,q7,q8⟩:=zc9 VA.out
 go_enter Tryz.func18,Tryz.ntmps18
 go_wp2_with fail
 clear hW hS q0 q1 q2 q3 q4 q5 q6 q7 q8
 refine(i_seen _ _ _ _ H pa pn pc ps ma mn mc zs b W (HM.out.keep B0.out) (HP.out.keep B0.out) HL.out.1 (HZ.out.keep B0.out) HL.out.2).mono ?_
 rintro e w1⟨rfl,b1⟩
 have B1:=hid (on B0.out b1)
 have VA1:=hid (VA.out.keep b1)
 have VR1:=hid (VR.out.keep b1)
 have M1:Hid (Hm w1 b _ _ _ _ H):=HM.out.keep B1.out
 have P1:=hid (HP.out.keep B1.out)
 have Z1:=hid (HZ.out.keep B1.out)
 have LW:Hid (w.heap.size≤w1.heap.size):=B1.out.size
 clear b1 VA VR HM HP HZ
 by_cases hf:seenC H ps zs=0
 case neg=>
  have HE:Hid (R=.agg #[.int .i64 (seenC H ps zs),.int .i64 0,.int .i64 0,.int .i64 0,.int .i64 0]):=by show _=_;rw[←HR.out];exact if_neg hf
  generalize seenC H ps zs=f at*
  obtain⟨p0,p1,p2,p3,p4⟩:=zc5 VR1.out
  obtain⟨f0,f1,f2,f3,f4⟩:=zf5 VR1.out
  go_wp2_with fail
  have NN:Hid (_∧_):=fiveX VR1.out (.int .i64 f) (.int .i64 0) (.int .i64 0) (.int .i64 0) (.int .i64 0)
  clear p0 f0 p1 f1 p2 f2 p3 f3 p4 f4
  generalize hVV:(((((w1.setCell ⟨s+1,0,none⟩ (.int .i64 f)).setCell ⟨s+1,1,none⟩ (.int .i64 0)).setCell ⟨s+1,2,none⟩ (.int .i64 0)).setCell ⟨s+1,3,none⟩ (.int .i64 0)).setCell ⟨s+1,4,none⟩ (.int .i64 0))=V at*
  obtain⟨x0,x1,x2,x3,x4⟩:=zc5 NN.out.1
  exact bodyPost_ret (v:=.agg #[.int .i64 f,.int .i64 0,.int .i64 0,.int .i64 0,.int .i64 0]) (by simp[results,Tryz.results18,go_sem,x0,x1,x2,x3,x4]) rfl
   ⟨by rw[HE.out],Mq.under B1.out NN.out.2 fun k e=>by have:=HS.out;omega⟩
 have HF:=hid hf
 rw[hf]
 obtain⟨p,sn⟩:=seen_ok hf
 have SN:=hid sn
 obtain rfl:mn=p*8:=by have:=Z1.out.len;have:=sn.zl;omega
 obtain⟨ga,gc,hv, -, -,hg⟩:=Z1.out.shape
 obtain⟨gm,hg⟩:=hg (by have:=sn.zl;have:=sn.p1;omega)
 simp only[Value.slice.injEq]at hv
 obtain⟨hv1, -, -⟩:=hv
 rw[hg]at hv1
 subst hv1
 clear hg
 obtain⟨pa',pc',hv, -, -,hg⟩:=P1.out.shape
 obtain⟨pg,hg⟩:=hg (by have:=sn.l8;omega)
 simp only[Value.slice.injEq]at hv
 obtain⟨hv1,hv2, -⟩:=hv
 rw[hg]at hv1
 subst hv1
 rw[sn.l8]at hv2
 subst hv2
 clear hg hf sn
 have HE:Hid (R=if plC H ps zs H.pc 4=0 then decV (zs.getD (plV H ps zs H.pc 4).toNat 0)else .agg #[.int .i64 (plC H ps zs H.pc 4),.int .i64 0,.int .i64 0,.int .i64 0,.int .i64 0]):=by show _=_;rw[←HR.out];exact if_pos HF.out
 have PR:Hid (plC H ps zs H.pc 4=0→∃a:Nat,plV H ps zs H.pc 4=(a:Int)∧a<p*8):=fun e=>pl_run SN.out e
 obtain⟨q0,q1,q2,q3,q4,q5,q6,q7,q8⟩:=zc9 VA1.out
 go_wp2_with fail
 clear q0 q1 q2 q3 q4 q5 q6 q7 q8
 refine(i_runner _ _ _ _ H (some ⟨pg,0,none⟩) 8 pc gm (p*8) mc zs b p w1 M1.out SN.out.hok Z1.out SN.out.zl SN.out.p24 SN.out.p1).mono ?_
 rintro e w2⟨i2,o2,g,rfl,mi,mo,ap,gs,b2⟩
 obtain⟨xa,xk,rfl,_⟩:=mi.shape
 obtain⟨ya,yk,rfl,_⟩:=mo.shape
 generalize hxn:H.inn.length=xn at*
 generalize hyn:H.out.length=yn at*
 have hst:=mcr_store H xa xn xk ya yn yk (some ⟨pg,0,none⟩) 8 pc (some ⟨g,0,none⟩) p p (-1) (-1) w2
 have hsz:=mcr_size H (.slice xa xn xk) (.slice ya yn yk) (.slice (some ⟨pg,0,none⟩) 8 pc) (.slice (some ⟨g,0,none⟩) p p) (-1) (-1)
 have GS:=hid gs
 have B2:=hid (on B1.out b2)
 have VR2:=hid (VR1.out.keep b2)
 have P2:=hid (P1.out.keep b2)
 clear mi mo ap b2 hxn hyn gs
 go_upto_region 5 with fail
 generalize hW3:w2.alloc (.cells (mcr H (.slice xa xn xk) (.slice ya yn yk) (.slice (some ⟨pg,0,none⟩) 8 pc) (.slice (some ⟨g,0,none⟩) p p) (-1) (-1)) 78)=W3
 obtain⟨m,hm⟩:∃m,w2.heap.size=m:=⟨_,rfl⟩
 rw[hm]
 have V3:Hid (Vb W3 m (mcr H (.slice xa xn xk) (.slice ya yn yk) (.slice (some ⟨pg,0,none⟩) 8 pc) (.slice (some ⟨g,0,none⟩) p p) (-1) (-1)) 78):=by show Vb _ _ _ _;rw[←hW3,←hm];exact Vb.new _ _ _
 have bb:Below w2.heap.size w2 W3:=by rw[←hW3];exact al (Below.refl _ _) _
 have B3:=hid (on B2.out bb)
 have VR3:=hid (VR2.out.keep bb)
 have P3:Hid (Prs 36 W3 0 (.slice (some ⟨pg,0,none⟩) 8 pc) ps):=(P2.out.keep bb).mono (Nat.zero_le _)
 have G3:Hid (Pags W3 0 (.slice (some ⟨g,0,none⟩) p p) p zs):=(GS.out.keep bb).mono (Nat.zero_le _)
 have L3:Hid (w.heap.size≤W3.heap.size):=B3.out.size
 clear hst hsz hW3 hm bb
 have pc16:W3.cell? ⟨m,16,none⟩=some (.int .i64 H.pc):=V3.out.cell 16 rfl
 go_wp2_with fail
 clear pc16
 refine(i_place m (.slice xa xn xk) (.slice ya yn yk) H pg pc ps g p zs (-1) (-1) 0 W3 V3.out P3.out G3.out SN.out H.pc 4 rfl).mono ?_
 rintro e w4⟨rfl,b4⟩
 obtain⟨d,hd⟩:∃d,plC H ps zs H.pc 4=d:=⟨_,rfl⟩
 obtain⟨v,hv⟩:∃v,plV H ps zs H.pc 4=v:=⟨_,rfl⟩
 rw[hd,hv]at HE PR ⊢
 clear hd hv
 go_upto_region 6 with fail
 generalize hW5:w4.alloc (.cells #[.int .i64 d,.int .i64 v] 48)=W5
 obtain⟨n,hn⟩:∃n,w4.heap.size=n:=⟨_,rfl⟩
 rw[hn]
 have VN:Hid (Vb W5 n #[.int .i64 d,.int .i64 v] 48):=by show Vb _ _ _ _;rw[←hW5,←hn];exact Vb.new _ _ _
 have bb:Below W3.heap.size W3 W5:=by rw[←hW5];exact al b4 _
 have B5:=hid (on B3.out bb)
 have VR5:=hid (VR3.out.keep bb)
 have V5:=hid (V3.out.keep bb)
 have G5:=hid (G3.out.keep bb)
 clear hW5 hn b4 bb
 obtain⟨n0,n1⟩:=zc2 VN.out
 by_cases hd0:d=0
 case neg=>
  have hdb:(d !=0)=true:=by simpa using hd0
  have HE2:Hid (R=.agg #[.int .i64 d,.int .i64 0,.int .i64 0,.int .i64 0,.int .i64 0]):=by show _=_;rw[HE.out,if_neg hd0]
  clear hd0
  obtain⟨p0,p1,p2,p3,p4⟩:=zc5 VR5.out
  obtain⟨f0,f1,f2,f3,f4⟩:=zf5 VR5.out
  go_wp2_with fail
  have NN:Hid (_∧_):=fiveX VR5.out (.int .i64 d) (.int .i64 0) (.int .i64 0) (.int .i64 0) (.int .i64 0)
  clear n0 n1 p0 f0 p1 f1 p2 f2 p3 f3 p4 f4
  generalize hVV:(((((W5.setCell ⟨s+1,0,none⟩ (.int .i64 d)).setCell ⟨s+1,1,none⟩ (.int .i64 0)).setCell ⟨s+1,2,none⟩ (.int .i64 0)).setCell ⟨s+1,3,none⟩ (.int .i64 0)).setCell ⟨s+1,4,none⟩ (.int .i64 0))=V at*
  obtain⟨x0,x1,x2,x3,x4⟩:=zc5 NN.out.1
  exact bodyPost_ret (v:=.agg #[.int .i64 d,.int .i64 0,.int .i64 0,.int .i64 0,.int .i64 0]) (by simp[results,Tryz.results18,go_sem,x0,x1,x2,x3,x4]) rfl
   ⟨by rw[HE2.out],Mq.under B5.out NN.out.2 fun k e=>by have:=HS.out;omega⟩
 subst hd0
 obtain⟨a,rfl,ha⟩:=PR.out rfl
 have HE2:Hid (R=decV (zs.getD a 0)):=by show _=_;rw[HE.out,if_pos rfl];rfl
 have HA:=hid ha
 have WA:=i_wordAt m _ _ H _ g p zs (-1) (-1) 0 W5 V5.out G5.out a HA.out SN.out.p24
 obtain⟨z,hz⟩:∃z,zs.getD a 0=z:=⟨_,rfl⟩
 rw[hz]at HE2 WA
 clear HE PR HR ha hz
 go_wp2_with (go_at_call 41;refine WA.mono ?_;rintro e z ⟨rfl,hz⟩;rw[hz];clear hz z)
 clear n0 n1 WA
 refine(impl_decode z W5).mono ?_
 rintro e w6⟨rfl,b6⟩
 have B6:=hid (on B5.out b6)
 have VR6:=hid (VR5.out.keep b6)
 obtain⟨d0,d1,d2,d3,d4,hd5⟩:=dec_five z
 rw[hd5]at HE2 ⊢
 clear b6 hd5
 obtain⟨p0,p1,p2,p3,p4⟩:=zc5 VR6.out
 obtain⟨f0,f1,f2,f3,f4⟩:=zf5 VR6.out
 go_wp2_with fail
 have NN:Hid (_∧_):=fiveX VR6.out (.int .i64 d0) (.int .i64 d1) (.int .i64 d2) (.int .i64 d3) (.int .i64 d4)
 clear p0 f0 p1 f1 p2 f2 p3 f3 p4 f4
 generalize hVV:(((((w6.setCell ⟨s+1,0,none⟩ (.int .i64 d0)).setCell ⟨s+1,1,none⟩ (.int .i64 d1)).setCell ⟨s+1,2,none⟩ (.int .i64 d2)).setCell ⟨s+1,3,none⟩ (.int .i64 d3)).setCell ⟨s+1,4,none⟩ (.int .i64 d4))=V at*
 obtain⟨x0,x1,x2,x3,x4⟩:=zc5 NN.out.1
 exact bodyPost_ret (v:=.agg #[.int .i64 d0,.int .i64 d1,.int .i64 d2,.int .i64 d3,.int .i64 d4]) (by simp[results,Tryz.results18,go_sem,x0,x1,x2,x3,x4]) rfl
  ⟨by rw[HE2.out],Mq.under B6.out NN.out.2 fun k e=>by have:=HS.out;omega⟩
theorem s_nextIns(r c i o:Value)(H:Ht)(pa:Option Addr)(pn pc:Nat)(ps:List (Int×Int))(ma:Option Addr)(mn mc:Nat)(zs:List Int)(b:Nat)(w:World)(h:Hm w b r c i o H)(hP:Prs 36 w b (.slice pa pn pc) ps)(hl:ps.length≤1048576)(hM:Nums w b (.slice ma mn mc) zs)(hm:zs.length≤1048576):
  Calls Tryz.prog 19 #[.agg #[r,.int .i64 H.pc,c,.bool H.halted,.bool H.waiting,.bool H.rung,.int .i64 H.done,i,o],.slice pa pn pc,.slice ma mn mc] w fun e w'=>e=.returned (nxV H ps zs)∧Below w.heap.size w w':=by
 obtain⟨R,hR⟩:∃R,nxV H ps zs=R:=⟨_,rfl⟩
 have HR:=hid hR
 rw[hR]
 clear hR
 have HM:=hid h
 have HP:=hid hP
 have HZ:=hid hM
 have HL:Hid (ps.length≤1048576∧zs.length≤1048576):=⟨hl,hm⟩
 obtain⟨a0,k0,rfl,_⟩:=h.r.shape
 obtain⟨a1,k1,rfl,_⟩:=h.c.shape
 obtain⟨a2,k2,rfl,_⟩:=h.i.shape
 obtain⟨a3,k3,rfl,_⟩:=h.o.shape
 clear h hP hl hM hm
 generalize hW:(w.alloc (.cells #[.slice a0 H.regs.length k0,.int .i64 H.pc,.slice a1 H.csr.length k1,.bool H.halted,.bool H.waiting,.bool H.rung,.int .i64 H.done,.slice a2 H.inn.length k2,.slice a3 H.out.length k3] 26)).alloc (.cells #[.int .i64 0,.int .i64 0,.int .i64 0,.int .i64 0,.int .i64 0] 45)=W
 have B0:Hid (Below w.heap.size w W):=by show Below _ _ _;rw[←hW];exact al (al (Below.refl _ _) _) _
 obtain⟨s,hS⟩:∃s,w.heap.size=s:=⟨_,rfl⟩
 have HS:=hid hS
 have VA:Hid (Vb W s #[.slice a0 H.regs.length k0,.int .i64 H.pc,.slice a1 H.csr.length k1,.bool H.halted,.bool H.waiting,.bool H.rung,.int .i64 H.done,.slice a2 H.inn.length k2,.slice a3 H.out.length k3] 26):=by
  show Vb _ _ _ _;rw[←hW,←hS];exact(Vb.new _ _ _).push _
 have VR:Hid (Vb W (s+1) #[.int .i64 0,.int .i64 0,.int .i64 0,.int .i64 0,.int .i64 0] 45):=by
  have z1:s+1=(w.alloc (.cells #[.slice a0 H.regs.length k0,.int .i64 H.pc,.slice a1 H.csr.length k1,.bool H.halted,.bool H.waiting,.bool H.rung,.int .i64 H.done,.slice a2 H.inn.length k2,.slice a3 H.out.length k3] 26)).heap.size:=by rw[←hS];simp
  show Vb _ _ _ _;rw[←hW,z1];exact Vb.new _ _ _
 obtain⟨q0,q1,q2,q3,q4,q5,q6,q7,q8⟩:=zc9 VA.out
 go_enter Tryz.func19,Tryz.ntmps19
 go_wp2_with fail
 clear hW hS q0 q1 q2 q3 q4 q5 q6 q7 q8
 refine(s_asked s _ _ _ _ H pa pn pc ps ma mn mc zs b W (HM.out.keep B0.out) VA.out (HP.out.keep B0.out) HL.out.1 (HZ.out.keep B0.out) HL.out.2).mono ?_
 rintro e w1⟨rfl,hw1⟩
 have b1:Below W.heap.size W w1:=by rw[hw1];exact Below.refl _ _
 clear hw1
 have B1:=hid (on B0.out b1)
 have VA1:=hid (VA.out.keep b1)
 have VR1:=hid (VR.out.keep b1)
 have M1:Hid (Hm w1 b _ _ _ _ H):=HM.out.keep B1.out
 have P1:=hid (HP.out.keep B1.out)
 have Z1:=hid (HZ.out.keep B1.out)
 have LW:Hid (w.heap.size≤w1.heap.size):=B1.out.size
 clear b1 VA VR HM HP HZ
 by_cases hf:seenC H ps zs=0
 case neg=>
  have HE:Hid (R=.agg #[.int .i64 (seenC H ps zs),.int .i64 0,.int .i64 0,.int .i64 0,.int .i64 0]):=by show _=_;rw[←HR.out];exact if_neg hf
  generalize seenC H ps zs=f at*
  obtain⟨p0,p1,p2,p3,p4⟩:=zc5 VR1.out
  obtain⟨f0,f1,f2,f3,f4⟩:=zf5 VR1.out
  go_wp2_with fail
  have NN:Hid (_∧_):=fiveX VR1.out (.int .i64 f) (.int .i64 0) (.int .i64 0) (.int .i64 0) (.int .i64 0)
  clear p0 f0 p1 f1 p2 f2 p3 f3 p4 f4
  generalize hVV:(((((w1.setCell ⟨s+1,0,none⟩ (.int .i64 f)).setCell ⟨s+1,1,none⟩ (.int .i64 0)).setCell ⟨s+1,2,none⟩ (.int .i64 0)).setCell ⟨s+1,3,none⟩ (.int .i64 0)).setCell ⟨s+1,4,none⟩ (.int .i64 0))=V at*
  obtain⟨x0,x1,x2,x3,x4⟩:=zc5 NN.out.1
  exact bodyPost_ret (v:=.agg #[.int .i64 f,.int .i64 0,.int .i64 0,.int .i64 0,.int .i64 0]) (by simp[results,Tryz.results19,go_sem,x0,x1,x2,x3,x4]) rfl
   ⟨by rw[HE.out],Mq.under B1.out NN.out.2 fun k e=>by have:=HS.out;omega⟩
 have HF:=hid hf
 rw[hf]
 obtain⟨p,sn⟩:=seen_ok hf
 have SN:=hid sn
 obtain rfl:mn=p*8:=by have:=Z1.out.len;have:=sn.zl;omega
 obtain⟨ga,gc,hv, -, -,hg⟩:=Z1.out.shape
 obtain⟨gm,hg⟩:=hg (by have:=sn.zl;have:=sn.p1;omega)
 simp only[Value.slice.injEq]at hv
 obtain⟨hv1, -, -⟩:=hv
 rw[hg]at hv1
 subst hv1
 clear hg
 obtain⟨pa',pc',hv, -, -,hg⟩:=P1.out.shape
 obtain⟨pg,hg⟩:=hg (by have:=sn.l8;omega)
 simp only[Value.slice.injEq]at hv
 obtain⟨hv1,hv2, -⟩:=hv
 rw[hg]at hv1
 subst hv1
 rw[sn.l8]at hv2
 subst hv2
 clear hg hf sn
 have HE:Hid (R=if plC H ps zs H.pc 4=0 then decV (zs.getD (plV H ps zs H.pc 4).toNat 0)else .agg #[.int .i64 (plC H ps zs H.pc 4),.int .i64 0,.int .i64 0,.int .i64 0,.int .i64 0]):=by show _=_;rw[←HR.out];exact if_pos HF.out
 have PR:Hid (plC H ps zs H.pc 4=0→∃a:Nat,plV H ps zs H.pc 4=(a:Int)∧a<p*8):=fun e=>pl_run SN.out e
 obtain⟨q0,q1,q2,q3,q4,q5,q6,q7,q8⟩:=zc9 VA1.out
 have sl:s<w1.heap.size:=VA1.out.lt
 go_wp2_with fail
 clear sl
 clear q0 q1 q2 q3 q4 q5 q6 q7 q8
 generalize hW3:w1.alloc (.cells #[.slice (some ⟨pg,0,none⟩) 8 pc,.slice (some ⟨gm,0,none⟩) (p*8) mc,.int .i64 0,.slice a0 H.regs.length k0,.int .i64 H.pc,.slice a1 H.csr.length k1,.bool H.halted,.bool H.waiting,.bool H.rung,.int .i64 H.done,.slice a2 H.inn.length k2,.slice a3 H.out.length k3,.int .i64 0] 62)=W3
 obtain⟨m,hm⟩:∃m,w1.heap.size=m:=⟨_,rfl⟩
 rw[hm]
 have V3:Hid (Vb W3 m #[.slice (some ⟨pg,0,none⟩) 8 pc,.slice (some ⟨gm,0,none⟩) (p*8) mc,.int .i64 0,.slice a0 H.regs.length k0,.int .i64 H.pc,.slice a1 H.csr.length k1,.bool H.halted,.bool H.waiting,.bool H.rung,.int .i64 H.done,.slice a2 H.inn.length k2,.slice a3 H.out.length k3,.int .i64 0] 62):=by show Vb _ _ _ _;rw[←hW3,←hm];exact Vb.new _ _ _
 have bb:Below w1.heap.size w1 W3:=by rw[←hW3];exact al (Below.refl _ _) _
 have B3:=hid (on B1.out bb)
 have VR3:=hid (VR1.out.keep bb)
 have P3:=hid (P1.out.keep bb)
 have Z3:=hid (Z1.out.keep bb)
 have C3:=hid (M1.out.c.keep bb)
 have L3:Hid (w.heap.size≤W3.heap.size):=B3.out.size
 clear hW3 hm bb
 refine(s_place m _ _ _ _ H pg pc ps gm p mc zs 0 0 b W3 V3.out C3.out P3.out Z3.out SN.out H.pc 4 rfl).mono ?_
 rintro e w4⟨rfl,b4⟩
 have B4:=hid (on B3.out b4)
 have VR4:=hid (VR3.out.keep b4)
 have Z4:=hid (Z3.out.keep b4)
 clear b4
 obtain⟨d,hd⟩:∃d,plC H ps zs H.pc 4=d:=⟨_,rfl⟩
 obtain⟨v,hv⟩:∃v,plV H ps zs H.pc 4=v:=⟨_,rfl⟩
 rw[hd,hv]at HE PR ⊢
 clear hd hv
 by_cases hd0:d=0
 case neg=>
  have hdb:(d !=0)=true:=by simpa using hd0
  have HE2:Hid (R=.agg #[.int .i64 d,.int .i64 0,.int .i64 0,.int .i64 0,.int .i64 0]):=by show _=_;rw[HE.out,if_neg hd0]
  clear hd0
  obtain⟨p0,p1,p2,p3,p4⟩:=zc5 VR4.out
  obtain⟨f0,f1,f2,f3,f4⟩:=zf5 VR4.out
  go_wp2_with fail
  have NN:Hid (_∧_):=fiveX VR4.out (.int .i64 d) (.int .i64 0) (.int .i64 0) (.int .i64 0) (.int .i64 0)
  clear p0 f0 p1 f1 p2 f2 p3 f3 p4 f4
  generalize hVV:(((((w4.setCell ⟨s+1,0,none⟩ (.int .i64 d)).setCell ⟨s+1,1,none⟩ (.int .i64 0)).setCell ⟨s+1,2,none⟩ (.int .i64 0)).setCell ⟨s+1,3,none⟩ (.int .i64 0)).setCell ⟨s+1,4,none⟩ (.int .i64 0))=V at*
  obtain⟨x0,x1,x2,x3,x4⟩:=zc5 NN.out.1
  exact bodyPost_ret (v:=.agg #[.int .i64 d,.int .i64 0,.int .i64 0,.int .i64 0,.int .i64 0]) (by simp[results,Tryz.results19,go_sem,x0,x1,x2,x3,x4]) rfl
   ⟨by rw[HE2.out],Mq.under B4.out NN.out.2 fun k e=>by have:=HS.out;omega⟩
 subst hd0
 obtain⟨a,rfl,ha⟩:=PR.out rfl
 have HE2:Hid (R=decV (zs.getD a 0)):=by show _=_;rw[HE.out,if_pos rfl];rfl
 have za:=Z4.out.cell Z4.out.len a ha
 have hai:(a:Int)<((p*8:Nat):Int):=by omega
 have hal:(a:Int)<(p:Int)*8:=by omega
 obtain⟨z,hz⟩:∃z,zs.getD a 0=z:=⟨_,rfl⟩
 rw[hz]at za HE2
 clear hz HE PR HR
 go_wp2_with fail
 refine(spec_decode z w4).mono ?_
 rintro e w6⟨rfl,b6⟩
 have B6:=hid (on B4.out b6)
 have VR6:=hid (VR4.out.keep b6)
 obtain⟨d0,d1,d2,d3,d4,hd5⟩:=dec_five z
 rw[hd5]at HE2 ⊢
 clear b6 hd5
 obtain⟨p0,p1,p2,p3,p4⟩:=zc5 VR6.out
 obtain⟨f0,f1,f2,f3,f4⟩:=zf5 VR6.out
 go_wp2_with fail
 have NN:Hid (_∧_):=fiveX VR6.out (.int .i64 d0) (.int .i64 d1) (.int .i64 d2) (.int .i64 d3) (.int .i64 d4)
 clear p0 f0 p1 f1 p2 f2 p3 f3 p4 f4
 generalize hVV:(((((w6.setCell ⟨s+1,0,none⟩ (.int .i64 d0)).setCell ⟨s+1,1,none⟩ (.int .i64 d1)).setCell ⟨s+1,2,none⟩ (.int .i64 d2)).setCell ⟨s+1,3,none⟩ (.int .i64 d3)).setCell ⟨s+1,4,none⟩ (.int .i64 d4))=V at*
 obtain⟨x0,x1,x2,x3,x4⟩:=zc5 NN.out.1
 exact bodyPost_ret (v:=.agg #[.int .i64 d0,.int .i64 d1,.int .i64 d2,.int .i64 d3,.int .i64 d4]) (by simp[results,Tryz.results19,go_sem,x0,x1,x2,x3,x4]) rfl
  ⟨by rw[HE2.out],Mq.under B6.out NN.out.2 fun k e=>by have:=HS.out;omega⟩
end Go.Proofs.YtaefollmeoepkaaGreatDoor
