import Derived.Deep.MidRow
import Derived.Laws.OwnMore
import Derived.Test.YtignbeibcakgpaaGreatDoorQ26
namespace Go.Proofs.YtignbeibcakgpaaGreatDoor
set_option maxRecDepth 20000
set_option maxHeartbeats 16000000
open Go.RowKit
set_option linter.unusedVariables false
def wholeB(ms:List Int):Bool:=decide (ms.length=192)&&decide (memV ms=0)
theorem i_whole(v:Value)(ms:List Int)(b:Nat)(w:World)(h:Nums w b v ms):
  Calls Tryz.prog 24 #[v,.int .i64 24] w fun e w'=>e=.returned (.bool (wholeB ms))∧w'=w:=by
 obtain⟨a,cap,rfl,l1,l2,hg⟩:=h.shape
 have HM:Hid (Nums w b _ ms):=h
 unfold wholeB
 have hl:(ms.length:Int)≤9223372036854775807:=by unfold maxLen at l2;omega
 obtain⟨n,hn⟩:∃n,ms.length=n:=⟨_,rfl⟩
 rw[hn]at HM hl ⊢
 clear h l1 l2 hg
 by_cases h1:n=192
 ·rw[decide_eq_true h1,Bool.true_and]
  have h1i:(n:Int)=192:=by omega
  have HM2:Hid (Nums w b (.slice a 192 cap) ms):=by rw[h1]at HM;exact HM
  subst h1
  clear hn h1i
  by_cases h2:memV ms=0
  ·go_enter Tryz.func24,Tryz.ntmps24
   go_wp2_with (go_at_call 52;refine(impl_memFault _ ms b _ HM2.out).mono ?_;rintro e w ⟨rfl,rfl⟩;rw[h2])
   go_ret
   exact⟨by first|rfl|simp[h2],rfl⟩
  ·have h4:decide (memV ms=0)=false:=decide_eq_false h2
   rw[h4]
   obtain⟨mv,hmv⟩:∃mv,memV ms=mv:=⟨_,rfl⟩
   rw[hmv]at h2
   have HMV:=hid hmv
   clear hmv h4
   have h5:(mv==0)=false:=by simpa using h2
   go_enter Tryz.func24,Tryz.ntmps24
   go_wp2_with (go_at_call 52;refine(impl_memFault _ ms b _ HM2.out).mono ?_;rintro e w ⟨rfl,rfl⟩;rw[HMV.out])
   go_ret
   exact⟨by first|rfl|simp[h5],rfl⟩
 ·have h1i:¬(n:Int)=192:=by omega
  rw[decide_eq_false h1,Bool.false_and]
  clear hn
  go_enter Tryz.func24,Tryz.ntmps24
  go_wp2_with fail
  go_ret
  exact⟨by first|rfl|simp_all,rfl⟩
def SvN(n:Nat)(W:World)(q:Nat)(w':World):Prop:=Mq (fun k=>k=q) W w'∧w'.there q 0 n
theorem SvN.step{n:Nat}{W w w':World}{q:Nat}(h:SvN n W q w)(hq:q<W.heap.size)(b:Below w.heap.size w w'):SvN n W q w':=
 ⟨h.1.trans (Mq.of (below_grown b none) fun k e=>by cases e),there_below h.2 (Nat.lt_of_lt_of_le hq h.1.size) b⟩
theorem SvN.set{n:Nat}{W w:World}{q:Nat}(h:SvN n W q w)(vs:List Value):SvN n W q (w.setCells q 0 vs):=⟨h.1.trans (mq_cells q vs w 0),World.there_setCells h.2 _ _ _⟩
def Hl(w:World)(base:Nat)(v:Value)(hs:List Ht):Prop:=
 (v=.slice none 0 0∧hs=[])∨
 ∃g cap,v=.slice (some ⟨g,0,none⟩) hs.length cap∧hs.length≤cap∧cap≤maxLen∧base≤g∧∀k,k<hs.length→∃r c i o,Hc w ⟨g,k*9,none⟩ r c i o (hs.getD k voidH)∧Hm w base r c i o (hs.getD k voidH)∧Ha r c i o
theorem Hl.keep{w w':World}{base:Nat}{v:Value}{hs:List Ht}(h:Hl w base v hs)(b:Below w.heap.size w w'):Hl w' base v hs:=by
 rcases h with h|⟨g,cap,h1,h2,h3,h4,h5⟩
 ·exact .inl h
 ·refine .inr ⟨g,cap,h1,h2,h3,h4,fun k hk=>?_⟩
  obtain⟨r,c,i,o,g1,g2,g3⟩:=h5 k hk
  exact⟨r,c,i,o,g1.stay b,g2.keep b,g3⟩
theorem Hl.mono{w:World}{base base':Nat}{v:Value}{hs:List Ht}(h:Hl w base v hs)(hb:base'≤base):Hl w base' v hs:=by
 rcases h with h|⟨g,cap,h1,h2,h3,h4,h5⟩
 ·exact .inl h
 ·refine .inr ⟨g,cap,h1,h2,h3,Nat.le_trans hb h4,fun k hk=>?_⟩
  obtain⟨r,c,i,o,g1,g2,g3⟩:=h5 k hk
  exact⟨r,c,i,o,g1,g2.mono hb,g3⟩
theorem Hl.shape{w:World}{base:Nat}{v:Value}{hs:List Ht}(h:Hl w base v hs):∃a cap,v=.slice a hs.length cap∧hs.length≤cap∧cap≤maxLen∧(0<hs.length→∃g,a=some ⟨g,0,none⟩):=by
 rcases h with⟨rfl,rfl⟩|⟨g,cap,h1,h2,h3,_⟩
 ·exact⟨none,0,rfl,Nat.le_refl _,by unfold maxLen;omega,fun h=>by simp at h⟩
 ·exact⟨_,cap,h1,h2,h3,fun _=>⟨g,rfl⟩⟩
theorem Hl.at{w:World}{base:Nat}{g n cap:Nat}{hs:List Ht}(h:Hl w base (.slice (some ⟨g,0,none⟩) n cap) hs)(k:Nat)(hk:k<hs.length):∃r c i o,Hc w ⟨g,k*9,none⟩ r c i o (hs.getD k voidH)∧Hm w base r c i o (hs.getD k voidH)∧Ha r c i o:=by
 rcases h with⟨h,_⟩|⟨g',cap',h1,h2,h3,h4,h5⟩
 ·cases h
 ·simp at h1
  obtain⟨rfl,_⟩:=h1
  exact h5 k hk
theorem Hc.put{w:World}{p:Addr}{r c i o:Value}{H:Ht}{g off:Nat}{vs:List Value}(h:Hc w p r c i o H)(hs:p.spot=none)(hn:p.block=g→p.off+9≤off∨off+vs.length≤p.off):Hc (w.setCells g off vs) p r c i o H:=by
 have k:∀(q:Addr),q.block=p.block→p.off≤q.off→q.off<p.off+9→(w.setCells g off vs).cell? q=w.cell? q:=fun q hq h1 h2=>World.cell?_setCells_out _ _ _ _ _ fun e _=>by have:=hn (hq.symm.trans e);omega
 exact⟨(k p rfl (Nat.le_refl _) (by omega)).trans h.c0,(k ⟨p.block,p.off+1,none⟩ rfl (Nat.le_add_right _ _) (Nat.add_lt_add_left (by decide) _)).trans h.c1,(k ⟨p.block,p.off+2,none⟩ rfl (Nat.le_add_right _ _) (Nat.add_lt_add_left (by decide) _)).trans h.c2,(k ⟨p.block,p.off+3,none⟩ rfl (Nat.le_add_right _ _) (Nat.add_lt_add_left (by decide) _)).trans h.c3,(k ⟨p.block,p.off+4,none⟩ rfl (Nat.le_add_right _ _) (Nat.add_lt_add_left (by decide) _)).trans h.c4,(k ⟨p.block,p.off+5,none⟩ rfl (Nat.le_add_right _ _) (Nat.add_lt_add_left (by decide) _)).trans h.c5,(k ⟨p.block,p.off+6,none⟩ rfl (Nat.le_add_right _ _) (Nat.add_lt_add_left (by decide) _)).trans h.c6,(k ⟨p.block,p.off+7,none⟩ rfl (Nat.le_add_right _ _) (Nat.add_lt_add_left (by decide) _)).trans h.c7,(k ⟨p.block,p.off+8,none⟩ rfl (Nat.le_add_right _ _) (Nat.add_lt_add_left (by decide) _)).trans h.c8⟩
theorem Hc.new{w:World}{g off:Nat}{r c i o:Value}{H:Ht}(ht:w.there g off 9):Hc (w.setCells g off [r,.int .i64 H.pc,c,.bool H.halted,.bool H.waiting,.bool H.rung,.int .i64 H.done,i,o]) ⟨g,off,none⟩ r c i o H:=by
 have k:=World.rangeAt_setCells_same w g off [r,.int .i64 H.pc,c,.bool H.halted,.bool H.waiting,.bool H.rung,.int .i64 H.done,i,o] ht
 exact⟨k 0 _ rfl,k 1 _ rfl,k 2 _ rfl,k 3 _ rfl,k 4 _ rfl,k 5 _ rfl,k 6 _ rfl,k 7 _ rfl,k 8 _ rfl⟩
def newR(zs:List Int):Int×Ht:=if 40<zs.length then(2,voidH)else(if zs.all isW then(0,newV zs)else(3,voidH))
def mnw(a:Option Addr)(n k:Nat):Array Value:=#[.int .i64 0,.int .i64 0,.int .i64 0,.int .i64 0,.int .i64 0,.int .i64 0,.int .i64 0,.int .i64 0,.int .i64 0,.int .i64 0,.int .i64 0,.int .i64 0,.int .i64 0,.int .i64 0,.int .i64 0,.int .i64 0,.int .i64 0,.int .i64 0,.int .i64 0,.int .i64 0,.int .i64 0,.int .i64 0,.int .i64 0,.int .i64 0,.int .i64 0,.int .i64 0,.int .i64 0,.int .i64 0,.bool false,.bool false,.bool false,.int .i64 0,.slice a n k,.slice none 0 0]
theorem mnw_lit(a:Option Addr)(n k:Nat): #[.int .i64 0,.int .i64 0,.int .i64 0,.int .i64 0,.int .i64 0,.int .i64 0,.int .i64 0,.int .i64 0,.int .i64 0,.int .i64 0,.int .i64 0,.int .i64 0,.int .i64 0,.int .i64 0,.int .i64 0,.int .i64 0,.int .i64 0,.int .i64 0,.int .i64 0,.int .i64 0,.int .i64 0,.int .i64 0,.int .i64 0,.int .i64 0,.int .i64 0,.int .i64 0,.int .i64 0,.int .i64 0,.bool false,.bool false,.bool false,.int .i64 0,.slice a n k,.slice none 0 0]=mnw a n k:=rfl
theorem mnw_eq(zs:List Int)(a:Option Addr)(n k:Nat):mnw a n k=mca (newV zs) (.slice a n k) (.slice none 0 0):=rfl
theorem mnw_size(a:Option Addr)(n k:Nat):(mnw a n k).size=34:=rfl
theorem mnw_store(a:Option Addr)(n k:Nat)(w:World):(storeCells ⟨w.heap.size,0,none⟩ (mnw a n k).toList 0).run Tryz.prog (w.alloc (.cells #[.int .i64 0,.int .i64 0,.int .i64 0,.int .i64 0,.int .i64 0,.int .i64 0,.int .i64 0,.int .i64 0,.int .i64 0,.int .i64 0,.int .i64 0,.int .i64 0,.int .i64 0,.int .i64 0,.int .i64 0,.int .i64 0,.int .i64 0,.int .i64 0,.int .i64 0,.int .i64 0,.int .i64 0,.int .i64 0,.int .i64 0,.int .i64 0,.int .i64 0,.int .i64 0,.int .i64 0,.int .i64 0,.bool false,.bool false,.bool false,.int .i64 0,.slice none 0 0,.slice none 0 0] 87))=.ok () (w.alloc (.cells (mnw a n k) 87)):=
 run_storeCells_new (P:=Tryz.prog) w 87 #[.int .i64 0,.int .i64 0,.int .i64 0,.int .i64 0,.int .i64 0,.int .i64 0,.int .i64 0,.int .i64 0,.int .i64 0,.int .i64 0,.int .i64 0,.int .i64 0,.int .i64 0,.int .i64 0,.int .i64 0,.int .i64 0,.int .i64 0,.int .i64 0,.int .i64 0,.int .i64 0,.int .i64 0,.int .i64 0,.int .i64 0,.int .i64 0,.int .i64 0,.int .i64 0,.int .i64 0,.int .i64 0,.bool false,.bool false,.bool false,.int .i64 0,.slice none 0 0,.slice none 0 0] (mnw a n k) (by kernel_rfl) rfl (by simp[mnw,Value.oneCell'])
theorem i_newHart(v:Value)(zs:List Int)(b:Nat)(w:World)(h:Nums w b v zs):
  Calls Tryz.prog 16 #[v] w fun e w'=>∃r' c' i' o',e=.returned (.agg #[.int .i64 (newR zs).1,r',.int .i64 (newR zs).2.pc,c',.bool (newR zs).2.halted,.bool (newR zs).2.waiting,.bool (newR zs).2.rung,.int .i64 (newR zs).2.done,i',o'])∧Hm w' w.heap.size r' c' i' o' (newR zs).2∧Ha r' c' i' o'∧Below w.heap.size w w':=by
 have HN:=hid h
 obtain⟨a,k,rfl,_⟩:=h.shape
 obtain⟨n,hn⟩:∃n,zs.length=n:=⟨_,rfl⟩
 have hl:(n:Int)≤9223372036854775807:=by have:=h.lens;unfold maxLen at this;omega
 rw[hn]at HN ⊢
 have HL:=hid hn
 clear h hn
 generalize hW:w.alloc (.cells #[.int .i64 0,.slice none 0 0,.int .i64 0,.slice none 0 0,.bool false,.bool false,.bool false,.int .i64 0,.slice none 0 0,.slice none 0 0] 63)=W
 have B0:Hid (Below w.heap.size w W):=by show Below _ _ _;rw[←hW];exact al (Below.refl _ _) _
 obtain⟨s,hS⟩:∃s,w.heap.size=s:=⟨_,rfl⟩
 have HS:=hid hS
 have VR:Hid (Vb W s #[.int .i64 0,.slice none 0 0,.int .i64 0,.slice none 0 0,.bool false,.bool false,.bool false,.int .i64 0,.slice none 0 0,.slice none 0 0] 63):=by
  show Vb _ _ _ _;rw[←hW,←hS];exact Vb.new _ _ _
 by_cases h40:40<n
 ·have hI:(40:Int)<(n:Int):=by omega
  have HE1:Hid ((newR zs).1=2):=by show _=_;unfold newR;rw[HL.out,if_pos h40]
  have HE2:Hid ((newR zs).2=voidH):=by show _=_;unfold newR;rw[HL.out,if_pos h40]
  have p0:=VR.out.cell 0 rfl
  have p1:=VR.out.cell 1 rfl
  have p2:=VR.out.cell 2 rfl
  have p3:=VR.out.cell 3 rfl
  have p4:=VR.out.cell 4 rfl
  have p5:=VR.out.cell 5 rfl
  have p6:=VR.out.cell 6 rfl
  have p7:=VR.out.cell 7 rfl
  have p8:=VR.out.cell 8 rfl
  have p9:=VR.out.cell 9 rfl
  have f0:=VR.out.free 0
  have f1:=VR.out.free 1
  have f2:=VR.out.free 2
  have f3:=VR.out.free 3
  have f4:=VR.out.free 4
  have f5:=VR.out.free 5
  have f6:=VR.out.free 6
  have f7:=VR.out.free 7
  have f8:=VR.out.free 8
  have f9:=VR.out.free 9
  go_enter Tryz.func16,Tryz.ntmps16
  go_wp2_with fail
  clear hW hS
  have NN:Hid (_∧_):=ten VR.out (.int .i64 2) (.slice none 0 0) (.int .i64 0) (.slice none 0 0) (.bool false) (.bool false) (.bool false) (.int .i64 0) (.slice none 0 0) (.slice none 0 0)
  clear p0 f0 p1 f1 p2 f2 p3 f3 p4 f4 p5 f5 p6 f6 p7 f7 p8 f8 p9 f9
  generalize ((((((((((W.setCell ⟨s,0,none⟩ (.int .i64 2)).setCell ⟨s,1,none⟩ (.slice none 0 0)).setCell ⟨s,2,none⟩ (.int .i64 0)).setCell ⟨s,3,none⟩ (.slice none 0 0)).setCell ⟨s,4,none⟩ (.bool false)).setCell ⟨s,5,none⟩ (.bool false)).setCell ⟨s,6,none⟩ (.bool false)).setCell ⟨s,7,none⟩ (.int .i64 0)).setCell ⟨s,8,none⟩ (.slice none 0 0)).setCell ⟨s,9,none⟩ (.slice none 0 0))=V at*
  have x0:=NN.out.1.cell 0 rfl
  have x1:=NN.out.1.cell 1 rfl
  have x2:=NN.out.1.cell 2 rfl
  have x3:=NN.out.1.cell 3 rfl
  have x4:=NN.out.1.cell 4 rfl
  have x5:=NN.out.1.cell 5 rfl
  have x6:=NN.out.1.cell 6 rfl
  have x7:=NN.out.1.cell 7 rfl
  have x8:=NN.out.1.cell 8 rfl
  have x9:=NN.out.1.cell 9 rfl
  have BV:Below w.heap.size w V:=Mq.under B0.out NN.out.2 fun k e=>by have:=HS.out;omega
  have MV:=NN.out.2
  refine bodyPost_ret (v:=.agg #[.int .i64 2,.slice none 0 0,.int .i64 0,.slice none 0 0,.bool false,.bool false,.bool false,.int .i64 0,.slice none 0 0,.slice none 0 0]) (by simp[results,Tryz.results16,go_sem,x0,x1,x2,x3,x4,x5,x6,x7,x8,x9]) rfl ?_
  rw[HE1.out,HE2.out]
  exact⟨_,_,_,_,rfl,void_hm _ _,void_ha,BV⟩
 have hI:¬(40:Int)<(n:Int):=by omega
 cases hw:zs.all isW
 ·have HW:Hid (zs.all isW=false):=hw
  have HE1:Hid ((newR zs).1=3):=by show _=_;unfold newR;rw[HL.out,if_neg h40,hw];rfl
  have HE2:Hid ((newR zs).2=voidH):=by show _=_;unfold newR;rw[HL.out,if_neg h40,hw];rfl
  have p0:=VR.out.cell 0 rfl
  have p1:=VR.out.cell 1 rfl
  have p2:=VR.out.cell 2 rfl
  have p3:=VR.out.cell 3 rfl
  have p4:=VR.out.cell 4 rfl
  have p5:=VR.out.cell 5 rfl
  have p6:=VR.out.cell 6 rfl
  have p7:=VR.out.cell 7 rfl
  have p8:=VR.out.cell 8 rfl
  have p9:=VR.out.cell 9 rfl
  have f0:=VR.out.free 0
  have f1:=VR.out.free 1
  have f2:=VR.out.free 2
  have f3:=VR.out.free 3
  have f4:=VR.out.free 4
  have f5:=VR.out.free 5
  have f6:=VR.out.free 6
  have f7:=VR.out.free 7
  have f8:=VR.out.free 8
  have f9:=VR.out.free 9
  go_enter Tryz.func16,Tryz.ntmps16
  go_wp2_with (go_at_call 39;refine(i_words a n k zs _ (HN.out.rn.stay B0.out)).mono ?_;rintro e y ⟨rfl,hy⟩;rw[hy];clear hy y;rw[hw])
  clear hW hS
  have NN:Hid (_∧_):=ten VR.out (.int .i64 3) (.slice none 0 0) (.int .i64 0) (.slice none 0 0) (.bool false) (.bool false) (.bool false) (.int .i64 0) (.slice none 0 0) (.slice none 0 0)
  clear p0 f0 p1 f1 p2 f2 p3 f3 p4 f4 p5 f5 p6 f6 p7 f7 p8 f8 p9 f9
  generalize ((((((((((W.setCell ⟨s,0,none⟩ (.int .i64 3)).setCell ⟨s,1,none⟩ (.slice none 0 0)).setCell ⟨s,2,none⟩ (.int .i64 0)).setCell ⟨s,3,none⟩ (.slice none 0 0)).setCell ⟨s,4,none⟩ (.bool false)).setCell ⟨s,5,none⟩ (.bool false)).setCell ⟨s,6,none⟩ (.bool false)).setCell ⟨s,7,none⟩ (.int .i64 0)).setCell ⟨s,8,none⟩ (.slice none 0 0)).setCell ⟨s,9,none⟩ (.slice none 0 0))=V at*
  have x0:=NN.out.1.cell 0 rfl
  have x1:=NN.out.1.cell 1 rfl
  have x2:=NN.out.1.cell 2 rfl
  have x3:=NN.out.1.cell 3 rfl
  have x4:=NN.out.1.cell 4 rfl
  have x5:=NN.out.1.cell 5 rfl
  have x6:=NN.out.1.cell 6 rfl
  have x7:=NN.out.1.cell 7 rfl
  have x8:=NN.out.1.cell 8 rfl
  have x9:=NN.out.1.cell 9 rfl
  have BV:Below w.heap.size w V:=Mq.under B0.out NN.out.2 fun k e=>by have:=HS.out;omega
  have MV:=NN.out.2
  refine bodyPost_ret (v:=.agg #[.int .i64 3,.slice none 0 0,.int .i64 0,.slice none 0 0,.bool false,.bool false,.bool false,.int .i64 0,.slice none 0 0,.slice none 0 0]) (by simp[results,Tryz.results16,go_sem,x0,x1,x2,x3,x4,x5,x6,x7,x8,x9]) rfl ?_
  rw[HE1.out,HE2.out]
  exact⟨_,_,_,_,rfl,void_hm _ _,void_ha,BV⟩
 have HE1:Hid ((newR zs).1=0):=by show _=_;unfold newR;rw[HL.out,if_neg h40,hw];rfl
 have HE2:Hid ((newR zs).2=newV zs):=by show _=_;unfold newR;rw[HL.out,if_neg h40,hw];rfl
 have H40:Hid (n≤40):=by show _≤_;omega
 have hst:=mnw_store a n k W
 go_enter Tryz.func16,Tryz.ntmps16
 go_upto_region 5 with(go_at_call 39;refine(i_words a n k zs _ (HN.out.rn.stay B0.out)).mono ?_;rintro e y ⟨rfl,hy⟩;rw[hy];clear hy y;rw[hw])
 clear hW hS
 go_step
 go_step
 go_step
 go_step
 go_step
 go_step
 rw[mnw_lit]
 have hsz:=mnw_size a n k
 go_wp2_with fail
 generalize hW3:W.alloc (.cells (mnw a n k) 87)=W3
 obtain⟨m,hm⟩:∃m,W.heap.size=m:=⟨_,rfl⟩
 have HMm:=hid hm
 rw[hm]
 have V3:Hid (Vb W3 m (mca (newV zs) (.slice a n k) (.slice none 0 0)) 87):=by show Vb _ _ _ _;rw[←hW3,←hm,←mnw_eq zs];exact Vb.new _ _ _
 have B3:Hid (Below w.heap.size w W3):=by show Below _ _ _;rw[←hW3];exact al B0.out _
 have VR3:Hid (Vb W3 s #[.int .i64 0,.slice none 0 0,.int .i64 0,.slice none 0 0,.bool false,.bool false,.bool false,.int .i64 0,.slice none 0 0,.slice none 0 0] 63):=by show Vb _ _ _ _;rw[←hW3];exact VR.out.push _
 have MI3:Hid (Nums W3 b (.slice a n k) zs):=by show Nums _ _ _ _;rw[←hW3];exact(HN.out.keep B0.out).keep (al (Below.refl _ _) _)
 clear hst hsz hW3 hm
 obtain⟨G,hG⟩:∃G,newV zs=G:=⟨_,rfl⟩
 have HE3:Hid ((newR zs).2=G):=HE2.out.trans hG
 have LG:Hid (G.regs.length=16∧G.csr.length=11∧G.inn.length≤1000∧G.out.length≤1000):=by
  have k1:=H40.out;have k2:=HL.out
  rw[←hG]
  refine⟨rfl,rfl,?_,Nat.zero_le _⟩
  show zs.length≤1000
  omega
 have V4:Hid (Vb W3 m (mca G (.slice a n k) (.slice none 0 0)) 87):=by show Vb _ _ _ _;rw[←hG];exact V3.out
 have MI4:Hid (Nums W3 b (.slice a n k) G.inn):=by show Nums _ _ _ _;rw[←hG];exact MI3.out
 have MO4:Hid (Nums W3 b (.slice none 0 0) G.out):=by show Nums _ _ _ _;rw[←hG];exact Nums.nil _ _
 clear hG
 refine(i_hart m _ _ G _ _ V4.out MI4.out MO4.out LG.out.1 LG.out.2.1 LG.out.2.2.1 LG.out.2.2.2).mono ?_
 rintro e w5⟨r5,c5,i5,o5,rfl,m5,A5,b5⟩
 obtain⟨ja0,jk0,rfl,_⟩:=m5.r.shape
 obtain⟨ja1,jk1,rfl,_⟩:=m5.c.shape
 obtain⟨ja2,jk2,rfl,_⟩:=m5.i.shape
 obtain⟨ja3,jk3,rfl,_⟩:=m5.o.shape
 generalize G.regs.length=g0 at*
 generalize G.csr.length=g1 at*
 generalize G.inn.length=g2 at*
 generalize G.out.length=g3 at*
 have M5:=hid m5
 have HA5:Hid (Ha (.slice ja0 g0 jk0) (.slice ja1 g1 jk1) (.slice ja2 g2 jk2) (.slice ja3 g3 jk3)):=A5
 have B5:=hid (on B3.out b5)
 have VR5:=hid (VR3.out.keep b5)
 have LQ:Hid (s<W3.heap.size):=VR3.out.lt
 clear m5 A5 b5
 have p0:=VR5.out.cell 0 rfl
 have p1:=VR5.out.cell 1 rfl
 have p2:=VR5.out.cell 2 rfl
 have p3:=VR5.out.cell 3 rfl
 have p4:=VR5.out.cell 4 rfl
 have p5:=VR5.out.cell 5 rfl
 have p6:=VR5.out.cell 6 rfl
 have p7:=VR5.out.cell 7 rfl
 have p8:=VR5.out.cell 8 rfl
 have p9:=VR5.out.cell 9 rfl
 have f0:=VR5.out.free 0
 have f1:=VR5.out.free 1
 have f2:=VR5.out.free 2
 have f3:=VR5.out.free 3
 have f4:=VR5.out.free 4
 have f5:=VR5.out.free 5
 have f6:=VR5.out.free 6
 have f7:=VR5.out.free 7
 have f8:=VR5.out.free 8
 have f9:=VR5.out.free 9
 go_wp2_with fail
 have NN:Hid (_∧_):=ten VR5.out (.int .i64 0) (.slice ja0 g0 jk0) (.int .i64 G.pc) (.slice ja1 g1 jk1) (.bool G.halted) (.bool G.waiting) (.bool G.rung) (.int .i64 G.done) (.slice ja2 g2 jk2) (.slice ja3 g3 jk3)
 clear p0 f0 p1 f1 p2 f2 p3 f3 p4 f4 p5 f5 p6 f6 p7 f7 p8 f8 p9 f9
 generalize ((((((((((w5.setCell ⟨s,0,none⟩ (.int .i64 0)).setCell ⟨s,1,none⟩ (.slice ja0 g0 jk0)).setCell ⟨s,2,none⟩ (.int .i64 G.pc)).setCell ⟨s,3,none⟩ (.slice ja1 g1 jk1)).setCell ⟨s,4,none⟩ (.bool G.halted)).setCell ⟨s,5,none⟩ (.bool G.waiting)).setCell ⟨s,6,none⟩ (.bool G.rung)).setCell ⟨s,7,none⟩ (.int .i64 G.done)).setCell ⟨s,8,none⟩ (.slice ja2 g2 jk2)).setCell ⟨s,9,none⟩ (.slice ja3 g3 jk3))=V at*
 have x0:=NN.out.1.cell 0 rfl
 have x1:=NN.out.1.cell 1 rfl
 have x2:=NN.out.1.cell 2 rfl
 have x3:=NN.out.1.cell 3 rfl
 have x4:=NN.out.1.cell 4 rfl
 have x5:=NN.out.1.cell 5 rfl
 have x6:=NN.out.1.cell 6 rfl
 have x7:=NN.out.1.cell 7 rfl
 have x8:=NN.out.1.cell 8 rfl
 have x9:=NN.out.1.cell 9 rfl
 have BV:Below w.heap.size w V:=Mq.under B5.out NN.out.2 fun k e=>by have:=HS.out;omega
 have MV:=NN.out.2
 refine bodyPost_ret (v:=.agg #[.int .i64 0,.slice ja0 g0 jk0,.int .i64 G.pc,.slice ja1 g1 jk1,.bool G.halted,.bool G.waiting,.bool G.rung,.int .i64 G.done,.slice ja2 g2 jk2,.slice ja3 g3 jk3]) (by simp[results,Tryz.results16,go_sem,x0,x1,x2,x3,x4,x5,x6,x7,x8,x9]) rfl ?_
 rw[HE1.out,HE3.out]
 exact⟨_,_,_,_,rfl,((MV.hm M5.out fun k e f=>by have:=(M5.out.own k e).1;have:=LQ.out;omega).mono B3.out.size),HA5.out,BV⟩
theorem lanes_ends(own:List (List Int)):∀(ls ahead:List Ln),lanesV own ahead ls=0→∀l ∈ ls,isG own.length l.fr=true∧isG own.length l.dst=true:=by
 intro ls
 induction ls with
 |nil=>intro _ _ l hl;cases hl
 |cons a t ih=>
  intro ahead h l hl
  rw[lanesV]at h
  split at h
  ·rename_i h1
   rcases List.mem_cons.1 hl with rfl|hl
   ·rw[laneV]at h1
    split at h1
    ·rename_i h2
     rw[endsV]at h2
     split at h2
     ·cases h2
     ·rename_i h3
      simp only[not_or,Bool.not_eq_false]at h3
      exact h3
    ·rename_i h2
     exact absurd h1 h2
   ·exact ih _ h l hl
  ·rename_i h1
   exact absurd h h1
theorem bells_ends(n:Nat):∀(bs ahead:List (Int×Int)),bellsV n ahead bs=0→∀b ∈ bs,isG n b.1=true∧isG n b.2=true:=by
 intro bs
 induction bs with
 |nil=>intro _ _ l hl;cases hl
 |cons a t ih=>
  intro ahead h l hl
  rw[bellsV]at h
  split at h
  ·rename_i h1
   rcases List.mem_cons.1 hl with rfl|hl
   ·rw[bellV]at h1
    split at h1
    ·rename_i h2
     rw[endsV]at h2
     split at h2
     ·cases h2
     ·rename_i h3
      simp only[not_or,Bool.not_eq_false]at h3
      exact h3
    ·rename_i h2
     exact absurd h1 h2
   ·exact ih _ h l hl
  ·rename_i h1
   exact absurd h h1
theorem pf_parts(P:Plc)(h:pfV P=0):P.own.length≤3∧guestsV P.own=0∧lanesV P.own [] P.lanes=0∧bellsV P.own.length [] P.bells=0∧P.lanes.length≤4∧P.bells.length≤4∧1≤P.own.length:=by
 have h1:=(or_zero h).1
 have h2:=(or_zero (or_zero h).2).1
 have h3:=(or_zero (or_zero h).2).2
 have h4:=(or_zero h1).1
 have h5:=(or_zero h2).1
 have h6:=(or_zero h2).2
 have h7:=(or_zero h3).1
 unfold g1V at h4
 split at h4
 ·cases h4
 ·rename_i k1
  unfold g3V at h5
  split at h5
  ·cases h5
  ·rename_i k2
   exact⟨by omega,h4,h6,h7,by omega,by omega,by omega⟩
theorem isG_iff(n:Nat)(g:Int):isG n g=true↔(0≤g∧g<n):=by
 unfold isG
 simp
 omega
def RsI(w:World)(s:Nat):Prop:=w.cell? ⟨s+1,0,none⟩=some (.int .i64 0)∧w.cell? ⟨s+1,1,none⟩=some (.slice none 0 0)∧w.frozen? ⟨s+1,0,none⟩=false∧w.frozen? ⟨s+1,1,none⟩=false∧s+1<w.heap.size
theorem RsI.keep{w w':World}{s:Nat}(h:RsI w s)(b:Below w.heap.size w w'):RsI w' s:=
 ⟨cell_keep b h.1,cell_keep b h.2.1,by rw[b.frozen (p:=⟨s+1,0,none⟩) h.2.2.2.2];exact h.2.2.1,by rw[b.frozen (p:=⟨s+1,1,none⟩) h.2.2.2.2];exact h.2.2.2.1,Nat.lt_of_lt_of_le h.2.2.2.2 b.size⟩
def tnV:List (Int×Int)→Int→Int×Int
 | [],_=>(0,0)
 |s::t,a=>if s.2≤a then((tnV t (a-s.2)).1+1,(tnV t (a-s.2)).2)else(0,s.2-a)
theorem rd_nonneg(zs:List (Int×Int))(h:∀s ∈ zs,1≤s.2):0≤rdV zs:=by
 induction zs with
 |nil=>simp[rdV]
 |cons s t ih=>
  rw[rdV]
  have h1:=h s (by simp)
  have h2:=ih fun x hx=>h x (by simp[hx])
  omega
theorem tn_at(zs:List (Int×Int)):∀(j:Nat) (a:Int),(∀s ∈ zs,1≤s.2)→j<zs.length→rdV (zs.take j)≤a→a<rdV (zs.take (j+1))→tnV zs a=((j:Int),rdV (zs.take (j+1))-a):=by
 induction zs with
 |nil=>intro j a _ h;simp at h
 |cons s t ih=>
  intro j a hp hj h0 h1
  cases j with
  |zero=>
   simp[rdV]at h1
   rw[tnV,if_neg (by omega)]
   simp[rdV]
  |succ j=>
   simp only[List.take_succ_cons,rdV]at h0 h1 ⊢
   have n:=rd_nonneg (t.take j) fun x hx=>hp x (by simp[List.mem_of_mem_take hx])
   rw[tnV,if_pos (by omega),ih j (a-s.2) (fun x hx=>hp x (by simp[hx])) (by simpa using hj) (by omega) (by omega)]
   exact Prod.ext (by simp) (by simp;omega)
def ckOk(c:Int):Bool:=decide (0≤c)&&decide (c≤1000000)
theorem pf_plan1(P:Plc)(h:pfV P=0):1≤P.plan.length:=by
 have h6:g6V P=0:=(or_zero (or_zero (or_zero h).2).2).2
 unfold g6V at h6
 split at h6
 ·cases h6
 ·rename_i h1;omega
theorem pf_each(P:Plc)(h:pfV P=0):∀s ∈ P.plan,1≤s.2∧s.2≤50:=by
 have h6:g6V P=0:=(or_zero (or_zero (or_zero h).2).2).2
 unfold g6V at h6
 split at h6
 ·cases h6
 ·exact slots_ok _ _ h6
theorem rd_pos(P:Plc)(h:pfV P=0):1≤rdV P.plan∧rdV P.plan≤400:=by
 have h1:=pf_plan1 P h
 have h2:=(rd_bound P h P.plan.length (Nat.le_refl _)).2
 have h8:=(pf_plan P h).1
 rw[List.take_length]at h2
 refine⟨?_,by omega⟩
 have e:=pf_each P h
 cases hp:P.plan with
 |nil=>rw[hp]at h1;simp at h1
 |cons s t=>
  rw[hp]at e
  rw[rdV]
  have h3:=e s (by simp)
  have h4:=rd_nonneg t fun x hx=>(e x (by simp[hx])).1
  omega
def tS(P:Plc)(c:Int):Int×Int:=tnV P.plan (c%rdV P.plan)
def tG(P:Plc)(c:Int):Int:=(P.plan.getD (tS P c).1.toNat (0,0)).1
theorem tS_at(P:Plc)(h:pfV P=0)(c:Int)(j:Nat)(hj:j<P.plan.length)(h0:rdV (P.plan.take j)≤c%rdV P.plan)(h1:c%rdV P.plan<rdV (P.plan.take (j+1))):tS P c=((j:Int),rdV (P.plan.take (j+1))-c%rdV P.plan):=
 tn_at P.plan j _ (fun s hs=>(pf_each P h s hs).1) hj h0 h1
def matchL(g k:Int)(l:Ln):Option (Int×Int):=if l.fr=g∧l.af=k then some (l.pg,3)else if l.dst=g∧l.tt=k then some (l.pg,1)else none
def firstM(g k:Int):List Ln→Int×Int
 | []=>(-1,0)
 |l::t=>match matchL g k l with|some x=>x|none=>firstM g k t
def pageV(ow:List Int)(ls:List Ln)(g:Int)(k:Nat):Int×Int:=if k<ow.length then(ow.getD k 0,7)else firstM g k ls
def pforL(ow:List Int)(ls:List Ln)(g:Int)(j:Nat):List (Int×Int):=(List.range j).map (pageV ow ls g)
theorem pforL_len(ow:List Int)(ls:List Ln)(g:Int)(j:Nat):(pforL ow ls g j).length=j:=by simp[pforL]
theorem pforL_succ(ow:List Int)(ls:List Ln)(g:Int)(j:Nat):pforL ow ls g (j+1)=pforL ow ls g j++ [((pageV ow ls g j).1,(pageV ow ls g j).2)]:=by
 simp[pforL,List.range_succ]
def set2(g:Int)(o:List (Int×Int))(l:Ln):List (Int×Int):=if l.dst=g then o.set l.tt.toNat (l.pg,1)else o
theorem firstM_step(g k:Int)(ls:List Ln)(j:Nat)(h:j<ls.length):firstM g k (ls.drop j)=match matchL g k (ls.getD j lz)with|some x=>x|none=>firstM g k (ls.drop (j+1)):=by
 rw[drop_cons_getD ls lz j h,firstM]
def LnOk(l:Ln):Prop:=¬l.fr=l.dst∧(5≤l.af∧l.af≤6)∧(5≤l.tt∧l.tt≤6)
def LnsOk(ls:List Ln):Prop:=(∀l ∈ ls,LnOk l)∧ls.Pairwise fun o l=>usesV o l.fr l.af=false∧usesV o l.dst l.tt=false
theorem lane_ok(own:List (List Int))(ahead:List Ln)(l:Ln)(h:laneV own ahead l=0):LnOk l∧∀o ∈ ahead,usesV o l.fr l.af=false∧usesV o l.dst l.tt=false:=by
 rw[laneV]at h
 split at h
 ·rename_i h1
  split at h
  ·cases h
  ·rename_i h2
   split at h
   ·cases h
   ·split at h
    ·cases h
    ·rename_i h4
     rw[endsV]at h1
     split at h1
     ·cases h1
     ·split at h1
      ·cases h1
      ·rename_i h5
       simp only[not_or,Bool.not_eq_false]at h2
       have a1:5≤l.af∧l.af≤6:=by simpa [atOk]using h2.2.1
       have a2:5≤l.tt∧l.tt≤6:=by simpa [atOk]using h2.2.2
       refine⟨⟨h5,a1,a2⟩,fun o ho=>?_⟩
       have:=h4
       simp only[List.any_eq_true,not_exists,not_and,Bool.not_eq_true]at this
       have hm:=this o ho
       unfold meetV at hm
       simp only[Bool.or_eq_false_iff]at hm
       exact⟨hm.1.2,hm.2⟩
 ·rename_i h1
  exact absurd h h1
theorem lanes_ok(own:List (List Int)):∀(ls ahead:List Ln),lanesV own ahead ls=0→LnsOk ls∧∀l ∈ ls,∀o ∈ ahead,usesV o l.fr l.af=false∧usesV o l.dst l.tt=false:=by
 intro ls
 induction ls with
 |nil=>intro ahead _;exact⟨⟨fun l hl=>(by cases hl),List.Pairwise.nil⟩,fun l hl=>(by cases hl)⟩
 |cons a t ih=>
  intro ahead h
  rw[lanesV]at h
  split at h
  ·rename_i h1
   obtain⟨k1,k2⟩:=lane_ok own ahead a h1
   obtain⟨⟨i1,i2⟩,i3⟩:=ih _ h
   refine⟨⟨fun l hl=>?_,List.pairwise_cons.2 ⟨fun l hl=>i3 l hl a (by simp),i2⟩⟩,fun l hl o ho=>?_⟩
   ·rcases List.mem_cons.1 hl with rfl|hl
    ·exact k1
    ·exact i1 l hl
   ·rcases List.mem_cons.1 hl with rfl|hl
    ·exact k2 o ho
    ·exact i3 l hl o (List.mem_append_left _ ho)
  ·rename_i h1
   exact absurd h h1
theorem pf_lanes(P:Plc)(h:pfV P=0):LnsOk P.lanes:=(lanes_ok _ _ _ (pf_parts P h).2.2.1).1
theorem pf_own(P:Plc)(h:pfV P=0)(j:Nat)(hj:j<P.own.length):1≤(P.own.getD j []).length∧(P.own.getD j []).length≤5∧∀x ∈ P.own.getD j [],0≤x∧x≤23:=
 guests_all P.own (pf_parts P h).2.1 _ (getD_mem P.own [] j hj)
theorem i_clock(c:Int)(w:World):Calls Tryz.prog 44 #[.int .i64 c] w fun e w'=>e=.returned (.bool (ckOk c))∧w'=w:=by
 by_cases h:0≤c
 ·by_cases k:c≤1000000
  ·have E:ckOk c=true:=by simp[ckOk,h,k]
   rw[E]
   go_enter Tryz.func44,Tryz.ntmps44
   go_wp2_with fail
   go_ret
   exact⟨rfl,rfl⟩
  ·have E:ckOk c=false:=by simp[ckOk,k]
   rw[E]
   go_enter Tryz.func44,Tryz.ntmps44
   go_wp2_with fail
   go_ret
   exact⟨rfl,rfl⟩
 ·have E:ckOk c=false:=by simp[ckOk,h]
  rw[E]
  go_enter Tryz.func44,Tryz.ntmps44
  go_wp2_with fail
  go_ret
  exact⟨rfl,rfl⟩
theorem i_turnAt(a0 a1 a2 a3:Option Addr)(n0 c0 n1 c1 n2 c2 n3 c3:Nat)(P:Plc)(c:Int)(w:World)(h:Pl w a0 n0 c0 a1 n1 c1 a2 n2 c2 a3 n3 c3 P)(hg:w.cell? ⟨0,0,none⟩=some (.iface 240 (.agg #[.pointer (some ⟨2,134,none⟩)])))(hz:pfV P=0)(hc:0≤c)(hc1:c≤1000000):
  Calls Tryz.prog 18 #[.agg #[.slice a0 n0 c0,.slice a1 n1 c1,.slice a2 n2 c2,.slice a3 n3 c3],.int .i64 c] w fun e w'=>e=.returned (.agg #[.int .i64 (tS P c).1,.int .i64 (tS P c).2,.int .i64 c])∧Below w.heap.size w w':=by
 have PZ:=hid hz
 have HC:Hid (0≤c∧c≤1000000):=⟨hc,hc1⟩
 obtain⟨u,hu⟩:∃u,tS P c=u:=⟨_,rfl⟩
 rw[hu]
 have HU:=hid hu
 clear hz hu
 generalize hW:(w.alloc (.cells #[.slice a0 n0 c0,.slice a1 n1 c1,.slice a2 n2 c2,.slice a3 n3 c3] 29)).alloc (.cells #[.int .i64 0,.int .i64 0,.int .i64 0] 67)=W
 have B0:Hid (Below w.heap.size w W):=by show Below _ _ _;rw[←hW];exact al (al (Below.refl _ _) _) _
 obtain⟨s,hS⟩:∃s,w.heap.size=s:=⟨_,rfl⟩
 have HSs:=hid hS
 have Q:Hid (W.cell? ⟨s,0,none⟩=some (.slice a0 n0 c0)∧W.cell? ⟨s,1,none⟩=some (.slice a1 n1 c1)∧W.cell? ⟨s,2,none⟩=some (.slice a2 n2 c2)∧W.cell? ⟨s,3,none⟩=some (.slice a3 n3 c3)):=by
  show _∧_
  rw[←hW,←hS]
  exact⟨cell_push _ (cell_new rfl),cell_push _ (cell_new rfl),cell_push _ (cell_new rfl),cell_push _ (cell_new rfl)⟩
 have R:Hid (Vb W (s+1) #[.int .i64 0,.int .i64 0,.int .i64 0] 67):=by
  have z1:s+1=(w.alloc (.cells #[.slice a0 n0 c0,.slice a1 n1 c1,.slice a2 n2 c2,.slice a3 n3 c3] 29)).heap.size:=by rw[←hS];simp
  show Vb _ _ _ _
  rw[←hW,z1]
  exact Vb.new _ _ _
 have HP:=hid (h.stay B0.out)
 have HA:Hid (PolAt W s P):=⟨_,_,_,_,_,_,_,_,_,_,_,_,Q.out.1,Q.out.2.1,Q.out.2.2.1,Q.out.2.2.2,HP.out⟩
 have HG:Hid (W.cell? ⟨0,0,none⟩=some (.iface 240 (.agg #[.pointer (some ⟨2,134,none⟩)]))):=cell_keep B0.out hg
 clear h hg
 have q0:=Q.out.1
 have q1:=Q.out.2.1
 have q2:=Q.out.2.2.1
 have q3:=Q.out.2.2.2
 have fv:=field_value
 go_enter Tryz.func18,Tryz.ntmps18
 go_wp2_with fail
 clear hW hS
 refine(i_roundOf _ _ _ _ _ _ _ _ _ _ _ _ P _ HP.out HG.out).mono ?_
 rintro e w1⟨rfl,b1⟩
 have RV:rR P=(0,rdV P.plan):=by rw[rR,if_pos PZ.out]
 rw[RV]
 clear RV
 have RP:=rd_pos P PZ.out
 obtain⟨rr,hrr⟩:∃r,rdV P.plan=r:=⟨_,rfl⟩
 rw[hrr]at RP
 have HR:=hid hrr
 simp only
 rw[hrr]
 clear hrr
 have r1:=RP.1
 have r2:=RP.2
 have tm:c.tmod rr=c%rr:=Int.tmod_eq_emod_of_nonneg hc
 have m0:0≤c%rr:=Int.emod_nonneg _ (by omega)
 have m1:c%rr<rr:=Int.emod_lt_of_pos _ (by omega)
 obtain⟨m,hm⟩:∃m,c%rr=m:=⟨_,rfl⟩
 rw[hm]at tm m0 m1
 have HM:=hid hm
 have M01:Hid (0≤m∧m<rr):=⟨m0,m1⟩
 have R4:=hid r2
 clear hm RP
 have HPw:=hid (HP.out.stay b1)
 have HL3:Hid (n3=P.plan.length):=HPw.out.plan.len
 have L8:Hid (1≤n3∧n3≤8):=by show _∧_;rw[HPw.out.plan.len];exact⟨pf_plan1 P PZ.out,(pf_plan P PZ.out).1⟩
 have ST8:Hid (∀j,j<P.plan.length→1≤(P.plan.getD j (0,0)).2∧(P.plan.getD j (0,0)).2≤50):=(pf_plan P PZ.out).2
 have q3:=cell_keep b1 Q.out.2.2.2
 have R1:=hid (R.out.keep b1)
 have B1:=hid (on B0.out b1)
 clear b1
 go_wp2_with fail
 go_loop [5,6] (fun u v=>∃j:Nat,j<n3∧v=.int .i64 j∧u=.int .i64 (m-rdV (P.plan.take j))∧rdV (P.plan.take j)≤m) (fun _ v=>n3-(intOf v).toNat)
 case atStart=>exact⟨0,L8.out.1,rfl,by simp[rdV],by simp[rdV];exact M01.out.1⟩
 case round=>
  obtain⟨j,hlt,rfl,rfl,hle⟩:=hrel
  obtain⟨x,rfl,k0,k1⟩:=HPw.out.plan.at j hlt
  have HLT:=hid hlt
  have hJ:(j:Int)<(n3:Int):=by omega
  have J8:(j:Int)≤8:=by have:=L8.out;omega
  have TK:Hid (_=_):=rdV_take P.plan j (by have:=HL3.out;omega)
  have st:=ST8.out j (by have:=HL3.out;omega)
  have bd:=rd_bound P PZ.out j (by have:=HL3.out;omega)
  have bd0:=bd.1
  have bd1:rdV (P.plan.take j)≤400:=by have:=L8.out;omega
  have st0:=st.1
  have st1:=st.2
  have mm:=M01.out
  have m40:m≤400:=by have:=R4.out;omega
  obtain⟨⟨g,t⟩,hL⟩:∃L,P.plan.getD j (0,0)=L:=⟨_,rfl⟩
  rw[hL]at k0 k1 TK st0 st1
  simp only at k0 k1 TK st0 st1
  clear hL bd st
  obtain⟨sm,hsm⟩:∃z,rdV (P.plan.take j)=z:=⟨_,rfl⟩
  rw[hsm]at TK bd0 bd1 hle ⊢
  have HSM:=hid hsm
  clear hsm
  by_cases he:t≤m-sm
  ·have TK2:Hid (rdV (P.plan.take (j+1))=sm+t):=TK.out
   have JN:Hid (j+1<n3):=by
    show _<_
    rcases Nat.lt_or_ge (j+1) n3 with h|h
    ·exact h
    ·exfalso
     have e:P.plan.take (j+1)=P.plan:=List.take_of_length_le (by have:=HL3.out;omega)
     have:=TK2.out
     rw[e,HR.out]at this
     omega
   go_wp2_with fail
   go_round
   case rel=>exact⟨j+1,JN.out,by go_num,by rw[TK2.out];go_num,by rw[TK2.out];omega⟩
   case measure=>have:=HLT.out;simp[intOf];omega
  ·have EV:=tS_at P PZ.out c j (by have:=HL3.out;omega) (by rw[HSM.out,HR.out,HM.out];exact hle) (by rw[TK.out,HR.out,HM.out];omega)
   rw[TK.out,HR.out,HM.out,HU.out]at EV
   subst EV
   have r0:=R1.out.cell 0 rfl
   have r1:=R1.out.cell 1 rfl
   have r2:=R1.out.cell 2 rfl
   have f0:=R1.out.free 0
   have f1:=R1.out.free 1
   have f2:=R1.out.free 2
   have e1:t-(m-sm)=sm+t-m:=by omega
   go_wp2_with fail
   exact bodyPost_ret (v:=.agg #[.int .i64 (j:Int),.int .i64 (sm+t-m),.int .i64 c]) (by simp[results,Tryz.results18,go_sem,r0,r1,r2]) rfl ⟨rfl,(((B1.out).setCell (by have:=HSs.out;show w.heap.size≤s+1;omega) _).setCell (by have:=HSs.out;show w.heap.size≤s+1;omega) _).setCell (by have:=HSs.out;show w.heap.size≤s+1;omega) _⟩
def putW(ow img m:List Int)(i:Nat):List Int:=m.set ((ow.getD (i/8) 0).toNat*8+i%8) (wd (img.getD i 0))
def layM(ow img m:List Int):Nat→List Int
 |0=>m
 |i+1=>putW ow img (layM ow img m i) i
theorem layM_len(ow img m:List Int):∀i,(layM ow img m i).length=m.length
 |0=>rfl
 |i+1=>by rw[layM,putW,List.length_set,layM_len ow img m i]
def allM(own iss:List (List Int))(m:List Int):Nat→List Int
 |0=>m
 |g+1=>layM (own.getD g []) (iss.getD g []) (allM own iss m g) (iss.getD g []).length
theorem allM_len(own iss:List (List Int))(m:List Int):∀g,(allM own iss m g).length=m.length
 |0=>rfl
 |g+1=>by rw[allM,layM_len,allM_len own iss m g]
def badAt(own iss:List (List Int))(j:Nat):Bool:=decide ((own.getD j []).length*8<(iss.getD j []).length)
def sizesV(own iss:List (List Int)):Nat→Int
 |0=>0
 |j+1=>if sizesV own iss j=0 then(if badAt own iss j=true then 8 else 0)else 8
theorem sizes_bad(own iss:List (List Int))(j:Nat)(h:badAt own iss j=true):∀n,j<n→sizesV own iss n=8
 |0,hn=>absurd hn (Nat.not_lt_zero _)
 |n+1,hn=>by
  rw[sizesV]
  by_cases e:j=n
  ·subst e
   rw[if_pos h]
   split<;>rfl
  ·rw[sizes_bad own iss j h n (by omega)]
   rfl
theorem sizes_good(own iss:List (List Int)):∀n,(∀j,j<n→badAt own iss j=false)→sizesV own iss n=0
 |0,_=>rfl
 |n+1,h=>by
  rw[sizesV,sizes_good own iss n (fun j hj=>h j (by omega)),if_pos rfl,h n (by omega)]
  rfl
theorem sizes_all(own iss:List (List Int)):∀n,sizesV own iss n=0→∀j,j<n→badAt own iss j=false:=by
 intro n h j hj
 cases hb:badAt own iss j with
 |false=>rfl
 |true=>rw[sizes_bad own iss j hb n hj]at h;cases h
def imgC(own iss:List (List Int)):Int:=if iss.length=own.length then sizesV own iss iss.length else 2
def loadC(P:Plc)(iss:List (List Int)):Int:=if pfV P=0 then imgC P.own iss else pfV P
def loadZ(P:Plc)(iss:List (List Int)):List Int:=if loadC P iss=0 then allM P.own iss (List.replicate 192 0) iss.length else []
theorem splice_nil(M:List Int)(b:Nat):splice M b []=M:=by simp[splice]
theorem splice_set(M:List Int)(b:Nat)(x:Int)(xs:List Int)(y:Int)(h:b+(xs.length+1)≤M.length):(splice M b (x::xs)).set b y=splice (M.set b y) (b+1) xs:=by
 unfold splice
 rw[List.set_append_right _ _ (by simp;omega),List.length_take,Nat.min_eq_left (by omega),Nat.sub_self,List.cons_append,List.set_cons_zero]
 have h1:(M.set b y).take (b+1)=M.take b++ [y]:=by
  rw[List.take_succ_eq_append_getElem (by simp;omega),List.take_set_of_le (Nat.le_refl _),List.getElem_set_self]
 have h2:(M.set b y).drop (b+1+xs.length)=M.drop (b+(x::xs).length):=by
  rw[List.drop_set_of_lt (by omega)]
  congr 1
  simp
  omega
 rw[h1,h2,List.append_assoc]
 rfl
theorem splice_get(M:List Int)(b:Nat)(x:Int)(xs:List Int)(h:b≤M.length):(splice M b (x::xs)).getD b 0=x:=by
 unfold splice
 rw[List.getD,List.getElem?_append_right (by rw[List.length_take];omega),List.length_take,Nat.min_eq_left h,Nat.sub_self]
 rfl
theorem splice_map(M:List Int)(b:Nat)(xs:List Int):splice (M.map (Value.int .i64)) b (xs.map (Value.int .i64))=(splice M b xs).map (Value.int .i64):=by
 unfold splice
 rw[List.map_append,List.map_append,List.map_take,List.map_drop,List.length_map]
theorem splice_lenI(M:List Int)(b:Nat)(xs:List Int)(h:b+xs.length≤M.length):(splice M b xs).length=M.length:=by
 simp[splice]
 omega
variable{w:World}{base g n cap:Nat}{zs:List Int}
theorem Pags.store(h:Pags w base (.slice (some ⟨g,0,none⟩) n cap) n zs)(j:Nat)(x:Int):
  Pags (w.setCell ⟨g,j,none⟩ (.int .i64 x)) base (.slice (some ⟨g,0,none⟩) n cap) n (zs.set j x):=by
 have h1:=(World.ownsRow.stored h j (.int .i64 x)).1
 unfold Pags
 rw[List.map_set]
 exact h1
theorem Pags.free(h:Pags w base (.slice (some ⟨g,0,none⟩) n cap) n zs)(i:Nat):w.frozen? ⟨g,i,none⟩=false:=World.ownsRow.frozenAt h i
theorem IsNs.cut{w:World}{a:Option Addr}{n c:Nat}{zs:List Int}(h:IsNs w a n c zs)(k:Nat)(hk:k≤n):∀x,a=some x→IsNs w (if c=k then some x else some (x.add k)) (n-k) (c-k) (zs.drop k):=by
 rintro x rfl
 rcases h with⟨e,_⟩|⟨y,e,h1,h2,h3,h4⟩
 ·cases e
 ·cases e
  by_cases hc:c=k
  ·rw[if_pos hc]
   exact .inr ⟨x,rfl,by omega,by omega,by simp;omega,fun i hi=>by omega⟩
  ·rw[if_neg hc]
   refine .inr ⟨x.add k,rfl,by omega,by omega,by simp;omega,fun i hi=>?_⟩
   rw[Go.Deep.add_add,h4 (k+i) (by omega)]
   simp[List.getD]
structure V4 where
 r:Value
 c:Value
 i:Value
 o:Value
def V4.l(q:V4):List Value:=[q.r,q.c,q.i,q.o]
def v4z:V4:=⟨.slice none 0 0,.slice none 0 0,.slice none 0 0,.slice none 0 0⟩
def cel9(q:V4)(H:Ht):List Value:=[q.r,.int .i64 H.pc,q.c,.bool H.halted,.bool H.waiting,.bool H.rung,.int .i64 H.done,q.i,q.o]
def flat9:List (V4×Ht)→List Value
 | []=> []
 |q::t=>cel9 q.1 q.2++flat9 t
theorem flat9_app:∀(a b:List (V4×Ht)),flat9 (a++b)=flat9 a++flat9 b
 | [],b=>rfl
 |q::t,b=>by rw[List.cons_append,flat9,flat9,flat9_app t b,List.append_assoc]
theorem flat9_get:∀(qs:List (V4×Ht)) (k t:Nat) (hk:k<qs.length),t<9→(flat9 qs)[k*9+t]? =(cel9 (qs.getD k (v4z,voidH)).1 (qs.getD k (v4z,voidH)).2)[t]?
 | [],k,t,hk,_=>by simp at hk
 |q::r,0,t,_,ht=>by
  rw[flat9,Nat.zero_mul,Nat.zero_add,List.getElem?_append_left (by show t<9;exact ht)]
  rfl
 |q::r,k+1,t,hk,ht=>by
  rw[flat9,List.getElem?_append_right (by show 9≤_;omega)]
  have:=flat9_get r k t (by simpa using hk) ht
  rw[show(k+1)*9+t-(cel9 q.1 q.2).length=k*9+t by show(k+1)*9+t-9=_;omega,this]
  rfl
theorem flat9_one:∀(qs:List (V4×Ht)),(∀q ∈ qs,∀v ∈ q.1.l,v.oneCell'=true)→∀u ∈ flat9 qs,u.oneCell'=true
 | [],_,u,hu=>by cases hu
 |q::t,h,u,hu=>by
  rw[flat9]at hu
  rcases List.mem_append.1 hu with hu|hu
  ·have h0:=h q (by simp)
   simp only[cel9,List.mem_cons,List.not_mem_nil,or_false]at hu
   rcases hu with rfl|rfl|rfl|rfl|rfl|rfl|rfl|rfl|rfl<;>first|rfl|exact h0 _ (by simp[V4.l])
  ·exact flat9_one t (fun q hq=>h q (by simp[hq])) u hu
def tyOf(w:World)(g:Nat):Option TypeId:=match w.heap[g]? with|some (.cells _ t _)=>some t|_=>none
def blk(v:Value):Nat:=match v.ownBlock with|some k=>k|none=>0
def vln:Value→Nat
 | .slice _ n _=>n
 |_=>0
structure Bk4(w:World)(base:Nat)(t:TypeId)(v:Value):Prop where
 own:v.ownBlock=some (blk v)
 ty:tyOf w (blk v)=some t
 lo:base≤blk v
 hi:blk v<w.heap.size
variable{w:World}{base sz n:Nat}{e:TypeId}{v:Value}{xs:List Value}
theorem row_bk(h:w.ownsRow base e sz v n xs)(h0:0<n):Bk4 w base e v∧∃cap,v=.slice (some ⟨blk v,0,none⟩) n cap:=by
 obtain⟨_,⟨_,h2⟩|⟨g,cap,cur,rfl,hg,hr,_⟩⟩:=h
 ·omega
 ·exact⟨⟨rfl,by show(match w.heap[g]? with|some (.cells _ t _)=>some t|_=>none)=_;rw[hr],hg,(Array.getElem?_eq_some_iff.1 hr).1⟩,cap,rfl⟩
theorem row_mg{w:World}{base sz n cap:Nat}{e:TypeId}{a:Option Addr}{xs:List Value}(h:w.ownsRow base e sz (.slice a n cap) n xs)(hi:∀x ∈ xs,∃z,x=.int .i64 z):Mg w (blk (.slice a n cap)) sz a n:=fun h0=>by
 obtain⟨g,e⟩:∃g,a=some ⟨g,0,none⟩:=by
  obtain⟨_,⟨_,h2⟩|⟨g,cap,cur,hv,_⟩⟩:=h
  ·omega
  ·simp at hv;exact⟨g,hv.1⟩
 subst e
 show some (⟨g,0,none⟩:Addr)=some ⟨g,0,none⟩∧∀i,i<n*sz→(∃z,w.cell? ⟨g,i,none⟩=some (.int .i64 z))∧w.frozen? ⟨g,i,none⟩=false
 refine⟨rfl,fun i hi'=>⟨?_,World.ownsRow.frozenAt h i⟩⟩
 have hl:i<xs.length:=by rw[h.1];exact hi'
 obtain⟨z,hz⟩:=hi xs[i] (List.getElem_mem hl)
 refine⟨z,?_⟩
 have:=World.ownsRow.cellAt h i hi'
 rw[List.getElem?_eq_getElem hl,hz]at this
 exact this
theorem ints_ints(zs:List Int):∀x ∈ zs.map (Value.int .i64),∃z,x=.int .i64 z:=fun x hx=>by
 obtain⟨z,_,rfl⟩:=List.mem_map.1 hx;exact⟨z,rfl⟩
variable{w:World}{base:Nat}{v:Value}{zs:List Int}
theorem Nums.vln(h:Nums w base v zs):vln v=zs.length:=by
 obtain⟨a,cap,rfl,_⟩:=h.shape;rfl
theorem Nums.bk(h:Nums w base v zs)(h0:0<Go.Proofs.YtignbeibcakgpaaGreatDoor.vln v):Bk4 w base 2 v:=(row_bk h (by rw[←h.vln];exact h0)).1
structure Ow(w:World)(base:Nat)(v0 v1 v2 v3 v4 v5:Value)(X:Hst)(xs:List Value)(qs:List (V4×Ht)):Prop where
 own:w.ownsRow base 32 1 v0 xs.length xs
 xl:xs.length=X.pol.own.length
 rows:∀(i:Nat) (x:Value),xs[i]? =some x→Nums w base x (X.pol.own.getD i [])
 lanes:Ls 42 w base v1 X.pol.lanes
 bells:Prs 148 w base v2 X.pol.bells
 plan:Prs 119 w base v3 X.pol.plan
 mem:Nums w base v4 X.mem
 harts:w.ownsRow base 47 9 v5 qs.length (flat9 qs)
 qh:qs.map Prod.snd=X.harts
 lists:∀q ∈ qs,Hm w base q.1.r q.1.c q.1.i q.1.o q.2
 apart:(xs++v4::qs.flatMap fun q=>q.1.l).Pairwise Apt
theorem row_keepX{w w':World}{base sz n:Nat}{e:TypeId}{v:Value}{xs:List Value}(h:w.ownsRow base e sz v n xs)(b:Below w.heap.size w w'):w'.ownsRow base e sz v n xs:=by
 refine World.ownsRow.kept h (below_grown b none) ?_
 cases v.ownBlock<;>simp
theorem row_hoX{e sz n base:Nat}{v:Value}{w w':World}{xs:List Value}(h:w.ownsRow base e sz v n xs)(H:Ho base w w'):w'.ownsRow base e sz v n xs:=by
 obtain⟨h1,h2|⟨g,cap,cur,hv,hg,hr,rest⟩⟩:=h
 ·exact⟨h1,.inl h2⟩
 ·refine⟨h1,.inr ⟨g,cap,cur,hv,hg,?_,rest⟩⟩
  rw[H.block g hg (Array.getElem?_eq_some_iff.1 hr).1]
  exact hr
theorem row_monoX{e sz n base base':Nat}{v:Value}{w:World}{xs:List Value}(h:w.ownsRow base e sz v n xs)(hb:base'≤base):w.ownsRow base' e sz v n xs:=by
 obtain⟨h1,h2|⟨g,cap,cur,hv,hg,hr⟩⟩:=h
 ·exact⟨h1,.inl h2⟩
 ·exact⟨h1,.inr ⟨g,cap,cur,hv,Nat.le_trans hb hg,hr⟩⟩
variable{w w':World}{base:Nat}{v0 v1 v2 v3 v4 v5:Value}{X:Hst}{xs:List Value}{qs:List (V4×Ht)}
theorem Ow.keep(h:Ow w base v0 v1 v2 v3 v4 v5 X xs qs)(b:Below w.heap.size w w'):Ow w' base v0 v1 v2 v3 v4 v5 X xs qs:=
 ⟨row_keepX h.own b,h.xl,fun i x e=>(h.rows i x e).keep b,h.lanes.keep b,h.bells.keep b,h.plan.keep b,h.mem.keep b,row_keepX h.harts b,h.qh,fun q hq=>(h.lists q hq).keep b,h.apart⟩
theorem Ow.ho(h:Ow w base v0 v1 v2 v3 v4 v5 X xs qs)(b:Ho base w w'):Ow w' base v0 v1 v2 v3 v4 v5 X xs qs:=
 ⟨row_hoX h.own b,h.xl,fun i x e=>(h.rows i x e).ho b,row_hoX h.lanes b,row_hoX h.bells b,row_hoX h.plan b,h.mem.ho b,row_hoX h.harts b,h.qh,fun q hq=>(h.lists q hq).ho b,h.apart⟩
theorem Ow.mono{w:World}{base base':Nat}{v0 v1 v2 v3 v4 v5:Value}{X:Hst}{xs:List Value}{qs:List (V4×Ht)}(h:Ow w base v0 v1 v2 v3 v4 v5 X xs qs)(hb:base'≤base):Ow w base' v0 v1 v2 v3 v4 v5 X xs qs:=
 ⟨row_monoX h.own hb,h.xl,fun i x e=>(h.rows i x e).mono hb,row_monoX h.lanes hb,row_monoX h.bells hb,row_monoX h.plan hb,h.mem.mono hb,row_monoX h.harts hb,h.qh,fun q hq=>(h.lists q hq).mono hb,h.apart⟩
theorem ow_void(w:World)(base:Nat):Ow w base (.slice none 0 0) (.slice none 0 0) (.slice none 0 0) (.slice none 0 0) (.slice none 0 0) (.slice none 0 0) ⟨⟨[],[],[],[]⟩,[],[],0,0,0⟩ [] []:=
 ⟨World.ownsRow_nil _ _ _ _,rfl,fun i x e=>by simp at e,World.ownsRow_nil _ _ _ _,World.ownsRow_nil _ _ _ _,World.ownsRow_nil _ _ _ _,Nums.nil _ _,World.ownsRow_nil _ _ _ _,rfl,fun q hq=>(by cases hq),(by simp)⟩
theorem row_sv{w:World}{base:Nat}{v:Value}{xs:List Value}{oss:List (List Int)}(h:w.ownsRow base 32 1 v xs.length xs)(hl:xs.length=oss.length)(hr:∀(i:Nat) (x:Value),xs[i]? =some x→Nums w base x (oss.getD i [])):Svr w v oss:=by
 have h':=h
 obtain⟨_,⟨h2,h3⟩|⟨g,cap,cur,hv,hg,_,hc,hm,_⟩⟩:=h
 ·exact .inl ⟨h2,List.length_eq_zero_iff.1 (by omega)⟩
 ·subst hv
  refine .inr ⟨g,cap,by rw[←hl],by omega,hm,fun i hi=>?_⟩
  have hx:i<xs.length:=by omega
  have n:=hr i xs[i] (List.getElem?_eq_getElem hx)
  obtain⟨a,c,e,_⟩:=n.shape
  have cc:=World.ownsRow.cellAt h' i (by omega)
  rw[List.getElem?_eq_getElem hx,e]at cc
  rw[e]at n
  exact⟨a,_,c,cc,n.rv⟩
theorem row_hc{w:World}{base g n cap:Nat}{qs:List (V4×Ht)}(h:w.ownsRow base 47 9 (.slice (some ⟨g,0,none⟩) n cap) n (flat9 qs))(hn:n=qs.length)(k:Nat)(hk:k<qs.length):Hc w ⟨g,k*9,none⟩ (qs.getD k (v4z,voidH)).1.r (qs.getD k (v4z,voidH)).1.c (qs.getD k (v4z,voidH)).1.i (qs.getD k (v4z,voidH)).1.o (qs.getD k (v4z,voidH)).2:=by
 have cc:∀t,t<9→w.cell? ⟨g,k*9+t,none⟩=(cel9 (qs.getD k (v4z,voidH)).1 (qs.getD k (v4z,voidH)).2)[t]? :=fun t ht=>by
  rw[World.ownsRow.cellAt h (k*9+t) (by omega),flat9_get qs k t hk ht]
 exact⟨cc 0 (by decide),cc 1 (by decide),cc 2 (by decide),cc 3 (by decide),cc 4 (by decide),cc 5 (by decide),cc 6 (by decide),cc 7 (by decide),cc 8 (by decide)⟩
theorem snd_getD(qs:List (V4×Ht))(k:Nat)(hk:k<qs.length):(qs.map Prod.snd).getD k voidH=(qs.getD k (v4z,voidH)).2:=by
 rw[List.getD,List.getElem?_map,List.getD,List.getElem?_eq_getElem hk];rfl
theorem getD_memQ(qs:List (V4×Ht))(k:Nat)(hk:k<qs.length):qs.getD k (v4z,voidH) ∈ qs:=by
 rw[List.getD,List.getElem?_eq_getElem hk];exact List.getElem_mem hk
theorem row_hv{w:World}{base:Nat}{v:Value}{qs:List (V4×Ht)}{hs:List Ht}(h:w.ownsRow base 47 9 v qs.length (flat9 qs))(hq:qs.map Prod.snd=hs)(hl:∀q ∈ qs,Hm w base q.1.r q.1.c q.1.i q.1.o q.2):Hv w v hs:=by
 subst hq
 have h':=h
 obtain⟨_,⟨h2,h3⟩|⟨g,cap,cur,hv,hg,_,hc,hm,_⟩⟩:=h
 ·exact .inl ⟨h2,by rw[List.length_eq_zero_iff.1 h3];rfl⟩
 ·subst hv
  refine .inr ⟨g,cap,by rw[List.length_map],by rw[List.length_map];exact hc,hm,fun k hk=>?_⟩
  rw[List.length_map]at hk
  rw[snd_getD qs k hk]
  exact⟨_,_,_,_,row_hc h' rfl k hk,(hl _ (getD_memQ qs k hk)).hr⟩
variable{w:World}{base:Nat}{v0 v1 v2 v3 v4 v5:Value}{X:Hst}{xs:List Value}{qs:List (V4×Ht)}
theorem Ow.hq(h:Ow w base v0 v1 v2 v3 v4 v5 X xs qs):Hq w base v0 v1 v2 v3 v4 v5 X:=
 ⟨row_sv h.own h.xl h.rows,h.lanes,h.bells,h.plan,h.mem.rv,row_hv h.harts h.qh h.lists⟩
theorem Ow.num(h:Ow w base v0 v1 v2 v3 v4 v5 X xs qs):∀v ∈ (xs++v4::qs.flatMap fun q=>q.1.l),∃zs,Nums w base v zs:=fun v hv=>by
 rcases List.mem_append.1 hv with hv|hv
 ·obtain⟨i,hi,e⟩:=List.mem_iff_getElem.1 hv
  exact⟨_,h.rows i v (by rw[List.getElem?_eq_getElem hi,e])⟩
 rcases List.mem_cons.1 hv with rfl|hv
 ·exact⟨_,h.mem⟩
 obtain⟨q,hq,hv⟩:=List.mem_flatMap.1 hv
 have m:=h.lists q hq
 simp only[V4.l,List.mem_cons,List.not_mem_nil,or_false]at hv
 rcases hv with rfl|rfl|rfl|rfl
 ·exact⟨_,m.r⟩
 ·exact⟨_,m.c⟩
 ·exact⟨_,m.i⟩
 ·exact⟨_,m.o⟩
theorem Ow.mg{w:World}{base:Nat}{a:Option Addr}{n cap:Nat}{zs:List Int}(h:Nums w base (.slice a n cap) zs):Mg w (blk (.slice a n cap)) 1 a n:=by
 have e:=h.vln
 have hn:n=zs.length:=e
 subst hn
 exact row_mg h (ints_ints zs)
variable{w:World}{x:Addr}{rs:List (Int×Int)}
theorem P2_src(h:∀i,i<rs.length→w.cell? (x.add (i*2))=some (.int .i64 (rs.getD i (0,0)).1)∧w.cell? (x.add (i*2+1))=some (.int .i64 (rs.getD i (0,0)).2)):∀j u,(flat rs)[j]? =some u→w.cell? (x.add j)=some u:=fun j u hj=>by
 have hl:j<rs.length*2:=by have:=(List.getElem?_eq_some_iff.1 hj).1;rwa[flat_length]at this
 obtain⟨i,hi⟩:∃i,j=i*2∨j=i*2+1:=⟨j/2,by omega⟩
 have g:=flat_get rs i (by omega)
 have c:=h i (by omega)
 rcases hi with rfl|rfl
 ·rw[g.1]at hj;cases hj;exact c.1
 ·rw[g.2]at hj;cases hj;exact c.2
theorem B_src(h:∀i,i<rs.length→w.cell? (x.add (i*2))=some (.int .i64 (rs.getD i (0,0)).1)∧w.cell? (x.add (i*2+1))=some (.int .i64 (rs.getD i (0,0)).2)):∀j u,(flat rs)[j]? =some u→w.cell? (x.add j)=some u:=P2_src h
theorem S_src(h:∀i,i<rs.length→w.cell? (x.add (i*2))=some (.int .i64 (rs.getD i (0,0)).1)∧w.cell? (x.add (i*2+1))=some (.int .i64 (rs.getD i (0,0)).2)):∀j u,(flat rs)[j]? =some u→w.cell? (x.add j)=some u:=P2_src h
theorem L_src{w:World}{x:Addr}{rs:List Ln}(h:∀i,i<rs.length→w.cell? (x.add (i*5))=some (.int .i64 (rs.getD i lz).fr)∧w.cell? (x.add (i*5+1))=some (.int .i64 (rs.getD i lz).dst)∧
  w.cell? (x.add (i*5+2))=some (.int .i64 (rs.getD i lz).pg)∧w.cell? (x.add (i*5+3))=some (.int .i64 (rs.getD i lz).af)∧w.cell? (x.add (i*5+4))=some (.int .i64 (rs.getD i lz).tt)):∀j u,(flat5 rs)[j]? =some u→w.cell? (x.add j)=some u:=fun j u hj=>by
 have hl:j<rs.length*5:=by have:=(List.getElem?_eq_some_iff.1 hj).1;rwa[flat5_length]at this
 obtain⟨i,hi⟩:∃i,j=i*5∨j=i*5+1∨j=i*5+2∨j=i*5+3∨j=i*5+4:=⟨j/5,by omega⟩
 have g:=flat5_get rs i (by omega)
 have c:=h i (by omega)
 rcases hi with rfl|rfl|rfl|rfl|rfl
 ·rw[g.1]at hj;cases hj;exact c.1
 ·rw[g.2.1]at hj;cases hj;exact c.2.1
 ·rw[g.2.2.1]at hj;cases hj;exact c.2.2.1
 ·rw[g.2.2.2.1]at hj;cases hj;exact c.2.2.2.1
 ·rw[g.2.2.2.2]at hj;cases hj;exact c.2.2.2.2
theorem wp_appB{ops:Array Oper}{rest:List Oper}{o:Oper}{act:Act}{Q:Exit→Act→World→Prop}(w:World)(hgd:o.guard=none)(s x:Operand)
  (ho:o.op=.call { callee:=.builtin .append,args:=#[s,x],argTypes:=#[26,26]}) (base g:Nat) (hs:act.eval s=.slice (some ⟨g,0,none⟩) 0 0) (hN:Prs 148 w base (.slice (some ⟨g,0,none⟩) 0 0) [])
  (p:Addr) (m c:Nat) (ys:List (Int×Int)) (hx:act.eval x=.slice (some p) m c) (hR:∀j u,(flat ys)[j]? =some u→w.cell? (p.add j)=some u) (hm:ys.length=m)
  (hlen:m≤100000000) (hbase:base≤w.heap.size)
  (h:∀v' w',Prs 148 w' base v' ys→w.grownBy w' (some g)→wpList Tryz.prog ops Q rest (act.put o.dst v') w'):wpList Tryz.prog ops Q (o::rest) act w:=by
 obtain⟨i,hi,hz0,hz1,hz2⟩:=info_parts info_bell
 refine wpList_append_own w hgd s x 26 ho base 148 i _ 2 16 Tryz.underlying26 hi hz0 hz1 hz2 rfl (by decide) _ 0 _ hs hN p m c (flat ys) hx (by rw[flat_length,hm]) hR (flat_one ys) (by unfold maxLen;omega) (by omega) hbase ?_
 intro v' w' hown hgrow _
 refine h v' w' ?_ hgrow
 unfold Prs
 rw[hm]
 simpa [flat]using hown
theorem noneB(w:World)(base:Nat)(hb:base≤w.heap.size):Prs 148 (w.alloc (.cells #[] 148)) base (.slice (some ⟨w.heap.size,0,none⟩) 0 0) []:=
 World.ownsRow_lit w #[] 0 hb (by decide) rfl
theorem i_cloneB(a:Option Addr)(n cap:Nat)(zs:List (Int×Int))(w:World)(h:IsPairs w a n cap zs)(hn:n≤100000000):
  Calls Tryz.prog 68 #[.slice a n cap] w fun e w'=>∃u,e=.returned u∧Prs 148 w' w.heap.size u zs∧Below w.heap.size w w':=by
 rcases h with⟨rfl,rfl,rfl,rfl⟩|⟨x,rfl,h1,h2,h3,h4⟩
 ·have hnil:∀W,(binOp .eql 26 (.slice none 0 0) (.slice none 0 0)).run Tryz.prog W=.ok (.bool true) W:=fun W=>Lib.run_eql_slice_nil_nil W _ _ Tryz.underlying26
  go_enter Tryz.func68,Tryz.ntmps68
  go_wp2_with fail
  go_ret
  exact⟨_,rfl,World.ownsRow_nil _ _ _ _,Below.refl _ _⟩
 have HR:Hid (∀j u,(flat zs)[j]? =some u→w.cell? (x.add j)=some u):=B_src (by rw[h3];exact h4)
 have HL:Hid (zs.length=n∧n≤100000000):=⟨h3,hn⟩
 clear hn h1 h2 h3 h4
 have hnil:∀W,(binOp .eql 26 (.slice (some x) n cap) (.slice none 0 0)).run Tryz.prog W=.ok (.bool false) W:=fun W=>Lib.run_eql_slice_some_nil W _ _ _ Tryz.underlying26
 go_enter Tryz.func68,Tryz.ntmps68
 go_wp2_with (at_builtin;refine wp_appB _ rfl _ _ rfl w.heap.size _ rfl (noneB _ _ (Nat.le_refl _)) x n cap zs rfl (fun j u hj=>cell_keep (al (Below.refl _ _) _) (HR.out j u hj)) HL.out.1 HL.out.2 (by simp) ?_;intro v' w' hN' hG')
 have B:Below w.heap.size w w':=(al (Below.refl _ _) _:Below w.heap.size w (w.alloc (.cells #[] 148))).grown hG' (by simp) (fun k e=>by simp at e;omega)
 go_wp2_with fail
 go_ret
 exact⟨_,rfl,hN',B⟩
theorem wp_appS{ops:Array Oper}{rest:List Oper}{o:Oper}{act:Act}{Q:Exit→Act→World→Prop}(w:World)(hgd:o.guard=none)(s x:Operand)
  (ho:o.op=.call { callee:=.builtin .append,args:=#[s,x],argTypes:=#[27,27]}) (base g:Nat) (hs:act.eval s=.slice (some ⟨g,0,none⟩) 0 0) (hN:Prs 119 w base (.slice (some ⟨g,0,none⟩) 0 0) [])
  (p:Addr) (m c:Nat) (ys:List (Int×Int)) (hx:act.eval x=.slice (some p) m c) (hR:∀j u,(flat ys)[j]? =some u→w.cell? (p.add j)=some u) (hm:ys.length=m)
  (hlen:m≤100000000) (hbase:base≤w.heap.size)
  (h:∀v' w',Prs 119 w' base v' ys→w.grownBy w' (some g)→wpList Tryz.prog ops Q rest (act.put o.dst v') w'):wpList Tryz.prog ops Q (o::rest) act w:=by
 obtain⟨i,hi,hz0,hz1,hz2⟩:=info_parts info_slot
 refine wpList_append_own w hgd s x 27 ho base 119 i _ 2 16 Tryz.underlying27 hi hz0 hz1 hz2 rfl (by decide) _ 0 _ hs hN p m c (flat ys) hx (by rw[flat_length,hm]) hR (flat_one ys) (by unfold maxLen;omega) (by omega) hbase ?_
 intro v' w' hown hgrow _
 refine h v' w' ?_ hgrow
 unfold Prs
 rw[hm]
 simpa [flat]using hown
theorem noneS(w:World)(base:Nat)(hb:base≤w.heap.size):Prs 119 (w.alloc (.cells #[] 119)) base (.slice (some ⟨w.heap.size,0,none⟩) 0 0) []:=
 World.ownsRow_lit w #[] 0 hb (by decide) rfl
theorem i_cloneS(a:Option Addr)(n cap:Nat)(zs:List (Int×Int))(w:World)(h:IsPairs w a n cap zs)(hn:n≤100000000):
  Calls Tryz.prog 69 #[.slice a n cap] w fun e w'=>∃u,e=.returned u∧Prs 119 w' w.heap.size u zs∧Below w.heap.size w w':=by
 rcases h with⟨rfl,rfl,rfl,rfl⟩|⟨x,rfl,h1,h2,h3,h4⟩
 ·have hnil:∀W,(binOp .eql 27 (.slice none 0 0) (.slice none 0 0)).run Tryz.prog W=.ok (.bool true) W:=fun W=>Lib.run_eql_slice_nil_nil W _ _ Tryz.underlying27
  go_enter Tryz.func69,Tryz.ntmps69
  go_wp2_with fail
  go_ret
  exact⟨_,rfl,World.ownsRow_nil _ _ _ _,Below.refl _ _⟩
 have HR:Hid (∀j u,(flat zs)[j]? =some u→w.cell? (x.add j)=some u):=S_src (by rw[h3];exact h4)
 have HL:Hid (zs.length=n∧n≤100000000):=⟨h3,hn⟩
 clear hn h1 h2 h3 h4
 have hnil:∀W,(binOp .eql 27 (.slice (some x) n cap) (.slice none 0 0)).run Tryz.prog W=.ok (.bool false) W:=fun W=>Lib.run_eql_slice_some_nil W _ _ _ Tryz.underlying27
 go_enter Tryz.func69,Tryz.ntmps69
 go_wp2_with (at_builtin;refine wp_appS _ rfl _ _ rfl w.heap.size _ rfl (noneS _ _ (Nat.le_refl _)) x n cap zs rfl (fun j u hj=>cell_keep (al (Below.refl _ _) _) (HR.out j u hj)) HL.out.1 HL.out.2 (by simp) ?_;intro v' w' hN' hG')
 have B:Below w.heap.size w w':=(al (Below.refl _ _) _:Below w.heap.size w (w.alloc (.cells #[] 119))).grown hG' (by simp) (fun k e=>by simp at e;omega)
 go_wp2_with fail
 go_ret
 exact⟨_,rfl,hN',B⟩
theorem wp_appL{ops:Array Oper}{rest:List Oper}{o:Oper}{act:Act}{Q:Exit→Act→World→Prop}(w:World)(hgd:o.guard=none)(s x:Operand)
  (ho:o.op=.call { callee:=.builtin .append,args:=#[s,x],argTypes:=#[25,25]}) (base g:Nat) (hs:act.eval s=.slice (some ⟨g,0,none⟩) 0 0) (hN:Ls 42 w base (.slice (some ⟨g,0,none⟩) 0 0) [])
  (p:Addr) (m c:Nat) (ys:List Ln) (hx:act.eval x=.slice (some p) m c) (hR:∀j u,(flat5 ys)[j]? =some u→w.cell? (p.add j)=some u) (hm:ys.length=m)
  (hlen:m≤100000000) (hbase:base≤w.heap.size)
  (h:∀v' w',Ls 42 w' base v' ys→w.grownBy w' (some g)→wpList Tryz.prog ops Q rest (act.put o.dst v') w'):wpList Tryz.prog ops Q (o::rest) act w:=by
 obtain⟨i,hi,hz0,hz1,hz2⟩:=info_parts info_lane
 refine wpList_append_own w hgd s x 25 ho base 42 i _ 5 40 Tryz.underlying25 hi hz0 hz1 hz2 rfl (by decide) _ 0 _ hs hN p m c (flat5 ys) hx (by rw[flat5_length,hm]) hR (flat5_one ys) (by unfold maxLen;omega) (by omega) hbase ?_
 intro v' w' hown hgrow _
 refine h v' w' ?_ hgrow
 unfold Ls
 rw[hm]
 simpa [flat5]using hown
theorem noneL(w:World)(base:Nat)(hb:base≤w.heap.size):Ls 42 (w.alloc (.cells #[] 42)) base (.slice (some ⟨w.heap.size,0,none⟩) 0 0) []:=
 World.ownsRow_lit w #[] 0 hb (by decide) rfl
theorem i_cloneL(a:Option Addr)(n cap:Nat)(zs:List Ln)(w:World)(h:IsLanes w a n cap zs)(hn:n≤100000000):
  Calls Tryz.prog 67 #[.slice a n cap] w fun e w'=>∃u,e=.returned u∧Ls 42 w' w.heap.size u zs∧Below w.heap.size w w':=by
 rcases h with⟨rfl,rfl,rfl,rfl⟩|⟨x,rfl,h1,h2,h3,h4⟩
 ·have hnil:∀W,(binOp .eql 25 (.slice none 0 0) (.slice none 0 0)).run Tryz.prog W=.ok (.bool true) W:=fun W=>Lib.run_eql_slice_nil_nil W _ _ Tryz.underlying25
  go_enter Tryz.func67,Tryz.ntmps67
  go_wp2_with fail
  go_ret
  exact⟨_,rfl,World.ownsRow_nil _ _ _ _,Below.refl _ _⟩
 have HR:Hid (∀j u,(flat5 zs)[j]? =some u→w.cell? (x.add j)=some u):=L_src (by rw[h3];exact h4)
 have HL:Hid (zs.length=n∧n≤100000000):=⟨h3,hn⟩
 clear hn h1 h2 h3 h4
 have hnil:∀W,(binOp .eql 25 (.slice (some x) n cap) (.slice none 0 0)).run Tryz.prog W=.ok (.bool false) W:=fun W=>Lib.run_eql_slice_some_nil W _ _ _ Tryz.underlying25
 go_enter Tryz.func67,Tryz.ntmps67
 go_wp2_with (at_builtin;refine wp_appL _ rfl _ _ rfl w.heap.size _ rfl (noneL _ _ (Nat.le_refl _)) x n cap zs rfl (fun j u hj=>cell_keep (al (Below.refl _ _) _) (HR.out j u hj)) HL.out.1 HL.out.2 (by simp) ?_;intro v' w' hN' hG')
 have B:Below w.heap.size w w':=(al (Below.refl _ _) _:Below w.heap.size w (w.alloc (.cells #[] 42))).grown hG' (by simp) (fun k e=>by simp at e;omega)
 go_wp2_with fail
 go_ret
 exact⟨_,rfl,hN',B⟩
theorem info_hartX:(Tryz.prog.info? 47).map (fun i=>(i.zero,i.size,i.bytes))=some (some (.agg #[.slice none 0 0,.int .i64 0,.slice none 0 0,.bool false,.bool false,.bool false,.int .i64 0,.slice none 0 0,.slice none 0 0]),9,120):=by kernel_rfl
structure Wp(w:World)(base:Nat)(v0 v1 v2 v3:Value)(P:Plc)(xs:List Value):Prop where
 own:w.ownsRow base 32 1 v0 xs.length xs
 xl:xs.length=P.own.length
 rows:∀(i:Nat) (x:Value),xs[i]? =some x→Nums w base x (P.own.getD i [])
 apart:xs.Pairwise Apt
 lanes:Ls 42 w base v1 P.lanes
 bells:Prs 148 w base v2 P.bells
 plan:Prs 119 w base v3 P.plan
variable{w w':World}{base:Nat}{v0 v1 v2 v3:Value}{P:Plc}{xs:List Value}
theorem Wp.keep(h:Wp w base v0 v1 v2 v3 P xs)(b:Below w.heap.size w w'):Wp w' base v0 v1 v2 v3 P xs:=
 ⟨row_keepX h.own b,h.xl,fun i x e=>(h.rows i x e).keep b,h.apart,h.lanes.keep b,h.bells.keep b,h.plan.keep b⟩
theorem Wp.ho(h:Wp w base v0 v1 v2 v3 P xs)(b:Ho base w w'):Wp w' base v0 v1 v2 v3 P xs:=
 ⟨row_hoX h.own b,h.xl,fun i x e=>(h.rows i x e).ho b,h.apart,row_hoX h.lanes b,row_hoX h.bells b,row_hoX h.plan b⟩
theorem Wp.mono{w:World}{base base':Nat}{v0 v1 v2 v3:Value}{P:Plc}{xs:List Value}(h:Wp w base v0 v1 v2 v3 P xs)(hb:base'≤base):Wp w base' v0 v1 v2 v3 P xs:=
 ⟨row_monoX h.own hb,h.xl,fun i x e=>(h.rows i x e).mono hb,h.apart,row_monoX h.lanes hb,row_monoX h.bells hb,row_monoX h.plan hb⟩
def WpE(w:World)(base:Nat)(v0 v1 v2 v3:Value)(P:Plc):Prop:=∃xs,Wp w base v0 v1 v2 v3 P xs
theorem row_typesX{w:World}{base base' e e' sz sz' n m:Nat}{v u:Value}{xs ys:List Value}(h:w.ownsRow base e sz v n xs)(k:w.ownsRow base' e' sz' u m ys)(hne:e≠e'):v.ownBlock=none∨v.ownBlock≠u.ownBlock:=by
 obtain⟨h1,⟨rfl,h3⟩|⟨g,cap,cur,rfl,hg,hr,rest⟩⟩:=h
 ·exact .inl rfl
 ·obtain⟨k1,⟨rfl,k3⟩|⟨g',cap',cur',rfl,kg,kr,rest'⟩⟩:=k
  ·exact .inr (by intro e;cases e)
  ·refine .inr fun e=>?_
   have e:g=g':=by simpa [Value.ownBlock]using e
   subst e
   rw[hr]at kr
   cases kr
   exact hne rfl
theorem wp_rowsX{ops:Array Oper}{rest:List Oper}{o:Oper}{act:Act}{Q:Exit→Act→World→Prop}(w:World)(hgd:o.guard=none)(s x:Operand)
  (ho:o.op=.call { callee:=.builtin .append,args:=#[s,x],argTypes:=#[24,24]}) (base:Nat) (v:Value) (xs:List Value) (hs:act.eval s=v) (hN:w.ownsRow base 32 1 v xs.length xs)
  (g:Nat) (u:Value) (hx:act.eval x=.slice (some ⟨g,0,none⟩) 1 1) (hc:w.cell? ⟨g,0,none⟩=some u) (h1:u.oneCell'=true) (hlen:xs.length≤100000000) (hbase:base≤w.heap.size)
  (h:∀v' w',w'.ownsRow base 32 1 v' (xs++ [u]).length (xs++ [u])→w.grownBy w' v.ownBlock→wpList Tryz.prog ops Q rest (act.put o.dst v') w'):wpList Tryz.prog ops Q (o::rest) act w:=by
 obtain⟨i,hi,hz0,hz1,hz2⟩:=info_parts info_sl
 refine wpList_append_own w hgd s x 24 ho base 32 i _ 1 24 Tryz.underlying24 hi hz0 hz1 hz2 rfl (by decide) v xs.length _ hs hN ⟨g,0,none⟩ 1 1 [u] hx rfl ?_ (by intro u' hu;rw[List.mem_singleton]at hu;subst hu;exact h1) (by unfold maxLen;omega) (by omega) hbase ?_
 ·intro j u' hj
  rw[Addr.add_lit,Nat.zero_add]
  match j,hj with
  |0,hj=>rw[hc];exact hj
  |j+1,hj=>simp at hj
 ·intro v' w' hown hgrow _
  refine h v' w' ?_ hgrow
  rw[List.length_append]
  exact hown
theorem wp_hartsX{ops:Array Oper}{rest:List Oper}{o:Oper}{act:Act}{Q:Exit→Act→World→Prop}(w:World)(hgd:o.guard=none)(s x:Operand)
  (ho:o.op=.call { callee:=.builtin .append,args:=#[s,x],argTypes:=#[33,33]}) (base:Nat) (v:Value) (qs:List (V4×Ht)) (hs:act.eval s=v) (hN:w.ownsRow base 47 9 v qs.length (flat9 qs))
  (g:Nat) (q:V4) (H:Ht) (hx:act.eval x=.slice (some ⟨g,0,none⟩) 1 1) (hc:w.rangeAt g 0 (cel9 q H)) (h1:∀u ∈ q.l,u.oneCell'=true) (hlen:qs.length≤100000000) (hbase:base≤w.heap.size)
  (h:∀v' w',w'.ownsRow base 47 9 v' (qs++ [(q,H)]).length (flat9 (qs++ [(q,H)]))→w.grownBy w' v.ownBlock→wpList Tryz.prog ops Q rest (act.put o.dst v') w'):wpList Tryz.prog ops Q (o::rest) act w:=by
 obtain⟨i,hi,hz0,hz1,hz2⟩:=info_parts info_hartX
 refine wpList_append_own w hgd s x 33 ho base 47 i _ 9 120 Tryz.underlying33 hi hz0 hz1 hz2 rfl (by decide) v qs.length _ hs hN ⟨g,0,none⟩ 1 1 (cel9 q H) hx rfl ?_ (fun u hu=>flat9_one [(q,H)] (fun q' hq'=>by rw[List.mem_singleton]at hq';subst hq';exact h1) u (by rw[flat9,flat9,List.append_nil];exact hu)) (by unfold maxLen;omega) (by omega) hbase ?_
 ·intro j u' hj
  rw[Addr.add_lit,Nat.zero_add]
  have:=hc j u' hj
  rwa[Nat.zero_add]at this
 ·intro v' w' hown hgrow _
  refine h v' w' ?_ hgrow
  rw[List.length_append,flat9_app]
  rw[show flat9 [(q,H)]=cel9 q H by rw[flat9,flat9,List.append_nil]]
  exact hown
variable{w:World}{base sz n:Nat}{e:TypeId}{v:Value}{xs:List Value}
theorem row_shape(h:w.ownsRow base e sz v n xs):∃a cap,v=.slice a n cap:=by
 obtain⟨_,⟨rfl,rfl⟩|⟨g,cap,cur,rfl,_⟩⟩:=h
 ·exact⟨_,_,rfl⟩
 ·exact⟨_,_,rfl⟩
theorem i_copyPolicy(a0 a1 a2 a3:Option Addr)(n0 c0 n1 c1 n2 c2 n3 c3:Nat)(P:Plc)(w:World)(h:Pl w a0 n0 c0 a1 n1 c1 a2 n2 c2 a3 n3 c3 P)(sm:Small n0 n1 n2 n3 P):
  Calls Tryz.prog 41 #[.agg #[.slice a0 n0 c0,.slice a1 n1 c1,.slice a2 n2 c2,.slice a3 n3 c3]] w fun e w'=>∃v0 v1 v2 v3,e=.returned (.agg #[v0,v1,v2,v3])∧WpE w' w.heap.size v0 v1 v2 v3 P∧Below w.heap.size w w':=by
 generalize hW:(w.alloc (.cells #[.slice a0 n0 c0,.slice a1 n1 c1,.slice a2 n2 c2,.slice a3 n3 c3] 29)).alloc (.cells #[.slice none 0 0,.slice none 0 0,.slice none 0 0,.slice none 0 0] 29)=W
 have B0:Hid (Below w.heap.size w W):=by show Below _ _ _;rw[←hW];exact al (al (Below.refl _ _) _) _
 obtain⟨s,hS⟩:∃s,w.heap.size=s:=⟨_,rfl⟩
 have HSs:=hid hS
 have z1:s+1=(w.alloc (.cells #[.slice a0 n0 c0,.slice a1 n1 c1,.slice a2 n2 c2,.slice a3 n3 c3] 29)).heap.size:=by rw[←hS];simp
 have Q:Hid (Vb W s #[.slice a0 n0 c0,.slice a1 n1 c1,.slice a2 n2 c2,.slice a3 n3 c3] 29):=by show Vb _ _ _ _;rw[←hW,←hS];exact(Vb.new _ _ _).push _
 have R:Hid (Vb W (s+1) #[.slice none 0 0,.slice none 0 0,.slice none 0 0,.slice none 0 0] 29):=by show Vb _ _ _ _;rw[←hW,z1];exact Vb.new _ _ _
 have ZW:Hid (s+2=W.heap.size):=by show _=_;rw[←hW,←hS];simp
 clear z1
 have D:=hid (h.stay B0.out)
 have SMP:=hid sm
 have HN0:Hid (n0=P.own.length):=h.own.len
 have n0I:(n0:Int)≤1048576:=by have:=sm.own;omega
 clear h sm
 have q0:=Q.out.cell 0 rfl
 go_enter Tryz.func41,Tryz.ntmps41
 go_wp2_with fail
 clear hW hS q0
 go_loopw [3,5,9] (fun v _ c wr=>∃(j:Nat) (xs:List Value),j≤n0∧c=.int .i64 (j:Int)∧xs.length=j∧wr.ownsRow W.heap.size 32 1 v xs.length xs∧(∀(i:Nat) (x:Value),xs[i]? =some x→Nums wr W.heap.size x (P.own.getD i []))∧xs.Pairwise Apt∧Below W.heap.size W wr) (fun _ _ c _=>n0-(intOf c).toNat)
 case atStart=>exact⟨0,[],Nat.zero_le _,rfl,rfl,World.ownsRow_nil _ _ _ _,fun i x e=>by simp at e,List.Pairwise.nil,Below.refl _ _⟩
 case round=>
  obtain⟨j,xs,hj,rfl,hx,hO,hR,hA,hB⟩:=hrel
  obtain⟨va,vc,hv⟩:=row_shape hO
  rw[hx]at hv
  subst hv
  have HO:=hid hO
  have HR:Hid ((∀(i:Nat) (x:Value),xs[i]? =some x→Nums wr W.heap.size x (P.own.getD i []))∧xs.Pairwise Apt∧xs.length=j):=⟨hR,hA,hx⟩
  have HB:=hid hB
  clear hO hR hA hx
  by_cases hlt:j<n0
  ·have hI:(j:Int)<(n0:Int):=by omega
   have HLT:=hid hlt
   obtain⟨x,rb,rl,rc,e0,k1,k2⟩:=(D.out.own.stay hB).at j hlt
   subst e0
   have KN:=hid k2
   have KL:Hid (rl≤1048576):=by show _≤_;rw[k2.len];exact SMP.out.each j hlt
   clear hlt hB k2
   go_wp2_with fail
   refine(i_clone rb rl rc (P.own.getD j []) _ KN.out (by have:=KL.out;omega)).mono ?_
   rintro e w1⟨u,rfl,nu,b1⟩
   obtain⟨ua,uc,hu,_⟩:=nu.shape
   obtain⟨ul,hul⟩:∃n,(P.own.getD j []).length=n:=⟨_,rfl⟩
   rw[hul]at hu
   subst hu
   clear hul
   have NU:=hid nu
   have B1:=hid b1
   have U1:Hid ((Value.slice ua ul uc).oneCell'=true):=by rfl
   clear nu b1 k1
   have WL:Hid (W.heap.size≤w1.heap.size):=(on HB.out B1.out).size
   go_wp2_with (at_builtin;refine wp_rowsX _ rfl _ _ rfl W.heap.size (.slice va j vc) xs rfl ((row_keepX HO.out B1.out).alloc _) w1.heap.size (.slice ua ul uc) rfl (cell_new rfl) U1.out (by have:=HR.out.2.2;have:=HLT.out;have:=SMP.out.own;omega) (by have:=WL.out;simp;omega) ?_;intro v' w' hN' hG')
   have NK:Hid (∀(u':Value) (zs:List Int),Nums w1 W.heap.size u' zs→Nums w' W.heap.size u' zs):=fun u' zs hu=>(hu.keep (al (Below.refl _ _) _)).kept hG' (row_typesX (hu.keep (al (Below.refl _ _) _:Below w1.heap.size w1 (w1.alloc (.cells #[.slice ua ul uc] 32)))) ((row_keepX HO.out B1.out).alloc _) (by decide))
   have O':Hid (w'.ownsRow W.heap.size 32 1 v' (xs++ [Value.slice ua ul uc]).length (xs++ [Value.slice ua ul uc])):=hN'
   have B':Hid (Below W.heap.size W w'):=(al (on HB.out B1.out) _:Below W.heap.size W (w1.alloc (.cells #[.slice ua ul uc] 32))).grown hG' (by have:=WL.out;simp;omega) (fun k e=>(HO.out.lt k e).1)
   have LR:Hid (∀(i:Nat) (x:Value),xs[i]? =some x→∀k,x.ownBlock=some k→k<wr.heap.size):=fun i x e k hk=>((HR.out.1 i x e).lt k hk).2
   clear hN' hG'
   go_wp2_with fail
   go_roundw
   case rel=>
    refine⟨j+1,xs++ [Value.slice ua ul uc],by have:=HLT.out;omega,by go_num,by rw[List.length_append,HR.out.2.2];rfl,O'.out,fun i x e=>?_,?_,B'.out⟩
    ·by_cases hi:i<xs.length
     ·rw[List.getElem?_append_left hi]at e
      exact NK.out _ _ ((HR.out.1 i x e).keep B1.out)
     ·rw[List.getElem?_append_right (by omega)]at e
      have hi0:i-xs.length=0:=by
       rcases Nat.eq_zero_or_pos (i-xs.length)with h0|h0
       ·exact h0
       ·rw[List.getElem?_eq_none (by simp;omega)]at e;cases e
      have hij:i=j:=by have:=HR.out.2.2;omega
      rw[hi0]at e
      cases e
      rw[hij]
      exact NK.out _ _ (NU.out.mono HB.out.size)
    ·rw[List.pairwise_append]
     refine⟨HR.out.2.1,List.pairwise_singleton _ _,fun a ha b hb=>?_⟩
     rw[List.mem_singleton]at hb
     subst hb
     obtain⟨i,hi,e⟩:=List.mem_iff_getElem.1 ha
     have ea:xs[i]? =some a:=by rw[List.getElem?_eq_getElem hi,e]
     cases eo:a.ownBlock with
     |none=>exact .inl eo
     |some k=>
      refine .inr fun e2=>?_
      rw[eo]at e2
      have h1:=LR.out i a ea k eo
      have h2:=(NU.out.lt k e2.symm).1
      omega
   case measure=>have:=HLT.out;simp[intOf];omega
  ·have hJ:¬(j:Int)<(n0:Int):=by omega
   have JN:Hid (j=n0):=by show _=_;omega
   clear hlt hB hj
   have QL:Hid (∀w',SvN 4 wr (s+1) w'→Vb w' s #[.slice a0 n0 c0,.slice a1 n1 c1,.slice a2 n2 c2,.slice a3 n3 c3] 29):=fun w' hs=>hs.1.vb (Q.out.keep HB.out) (by omega)
   have BS:Hid (∀w',SvN 4 wr (s+1) w'→Below w.heap.size w w'):=fun w' hs=>Mq.under (on B0.out HB.out) hs.1 fun k e=>by have:=HSs.out;omega
   have LT:=hid ((R.out.keep HB.out).lt)
   have Sv0:Hid (SvN 4 wr (s+1) wr.drew):=SvN.step ⟨Mq.refl _ _,(R.out.keep HB.out).there 4 (by decide)⟩ LT.out (Below.refl _ _).drew
   have E0:Hid (Below wr.heap.size wr wr.drew):=(Below.refl _ _).drew
   go_upto_region 7 with fail
   refine wp_region_held (S:=fun w'=>SvN 4 wr (s+1) w') (by kernel_rfl) ?_
   change wpAnyH _ _ _ _ _ _ _ _ (World.drew _)
   generalize wr.drew=u0 at*
   refine wpTd 0 19 ((.slice va j vc)) rfl Sv0.out ?_
   simp only[Act.put,zT,zZ,zS]
   refine wpTd 1 20 ((.pointer (some ⟨s,1,none⟩))) rfl Sv0.out ?_
   simp only[Act.put,zT,zZ,zS]
   refine wpTe 2 21 ((.slice a1 n1 c1)) rfl (Or.inl ⟨by rfl,fun w' hs=>by have y:=(QL.out w' hs).cell 1 rfl;go_simp⟩) Sv0.out ?_
   simp only[Act.put,zT,zZ,zS]
   refine wpTd 4 23 ((.pointer (some ⟨s,2,none⟩))) rfl Sv0.out ?_
   simp only[Act.put,zT,zZ,zS]
   refine wpTe 5 24 ((.slice a2 n2 c2)) rfl (Or.inl ⟨by rfl,fun w' hs=>by have y:=(QL.out w' hs).cell 2 rfl;go_simp⟩) Sv0.out ?_
   simp only[Act.put,zT,zZ,zS]
   refine wpTd 7 26 ((.pointer (some ⟨s,3,none⟩))) rfl Sv0.out ?_
   simp only[Act.put,zT,zZ,zS]
   refine wpTe 8 27 ((.slice a3 n3 c3)) rfl (Or.inl ⟨by rfl,fun w' hs=>by have y:=(QL.out w' hs).cell 3 rfl;go_simp⟩) Sv0.out ?_
   simp only[Act.put,zT,zZ,zS]
   refine zR 3 rfl fun K hK=>?_
   rw[if_pos (by rfl)]
   go_simp
   refine(i_cloneL _ _ _ P.lanes _ (((D.out.lanes.stay HB.out).stay E0.out)) (by have:=SMP.out.lanes;omega)).mono ?_
   rintro e u1⟨l1,rfl,p1,b1⟩
   obtain⟨b1a,d1,f1,_⟩:=p1.shape
   subst f1
   obtain⟨m1,hm1⟩:∃n,P.lanes.length=n:=⟨_,rfl⟩
   rw[hm1]at p1 ⊢
   have P1:=hid p1
   have E1:=hid (on E0.out b1)
   have Sv1:Hid (SvN 4 wr (s+1) u1):=Sv0.out.step LT.out b1
   have C1:=hid b1
   clear p1 b1 hm1
   refine hK.out _ _ Sv1.out (fun _=>?_)
   clear hK K
   refine zR 6 rfl fun K hK=>?_
   rw[if_pos (by rfl)]
   go_simp
   refine(i_cloneB _ _ _ P.bells _ (((D.out.bells.stay HB.out).stay E1.out)) (by have:=SMP.out.bells;omega)).mono ?_
   rintro e u2⟨l2,rfl,p2,b2⟩
   obtain⟨b2a,d2,f2,_⟩:=p2.shape
   subst f2
   obtain⟨m2,hm2⟩:∃n,P.bells.length=n:=⟨_,rfl⟩
   rw[hm2]at p2 ⊢
   have P2:=hid p2
   have E2:=hid (on E1.out b2)
   have Sv2:Hid (SvN 4 wr (s+1) u2):=Sv1.out.step LT.out b2
   have C2:=hid b2
   clear p2 b2 hm2
   refine hK.out _ _ Sv2.out (fun _=>?_)
   clear hK K
   refine zR 9 rfl fun K hK=>?_
   rw[if_pos (by rfl)]
   go_simp
   refine(i_cloneS _ _ _ P.plan _ (((D.out.plan.stay HB.out).stay E2.out)) (by have:=SMP.out.plan;omega)).mono ?_
   rintro e u3⟨l3,rfl,p3,b3⟩
   obtain⟨b3a,d3,f3,_⟩:=p3.shape
   subst f3
   obtain⟨m3,hm3⟩:∃n,P.plan.length=n:=⟨_,rfl⟩
   rw[hm3]at p3 ⊢
   have P3:=hid p3
   have E3:=hid (on E2.out b3)
   have Sv3:Hid (SvN 4 wr (s+1) u3):=Sv2.out.step LT.out b3
   have C3:=hid b3
   clear p3 b3 hm3
   refine hK.out _ _ Sv3.out (fun _=>?_)
   clear hK K
   refine wpTd 10 29 ((.agg #[.slice va j vc,.slice b1a m1 d1,.slice b2a m2 d2,.slice b3a m3 d3])) rfl Sv3.out ?_
   simp only[Act.put,zT,zZ,zS]
   refine zR 11 rfl fun K hK=>?_
   rw[if_pos (by rfl)]
   refine wp_store_mid 29 (.tmp 2) (.tmp 29) rfl (s+1) 0 #[.slice va j vc,.slice b1a m1 d1,.slice b2a m2 d2,.slice b3a m3 d3] rfl rfl Sv3.out.2 (by kernel_rfl) (by simp[Value.oneCell']) ?_
   change K (Act.put _ none undef) _
   simp only[Act.put]
   have S6:Hid (SvN 4 wr (s+1) (u3.setCells (s+1) 0 #[.slice va j vc,.slice b1a m1 d1,.slice b2a m2 d2,.slice b3a m3 d3].toList)):=Sv3.out.set _
   have R6:Hid ((u3.setCells (s+1) 0 #[.slice va j vc,.slice b1a m1 d1,.slice b2a m2 d2,.slice b3a m3 d3].toList).rangeAt (s+1) 0 #[.slice va j vc,.slice b1a m1 d1,.slice b2a m2 d2,.slice b3a m3 d3].toList):=World.rangeAt_setCells_same _ _ _ _ Sv3.out.2
   have Q6:Hid (Mq (fun k=>k=s+1) u3 (u3.setCells (s+1) 0 #[.slice va j vc,.slice b1a m1 d1,.slice b2a m2 d2,.slice b3a m3 d3].toList)):=mq_cells (s+1) _ u3 0
   generalize u3.setCells (s+1) 0 #[.slice va j vc,.slice b1a m1 d1,.slice b2a m2 d2,.slice b3a m3 d3].toList=u6 at*
   refine hK.out _ _ S6.out (fun _=>?_)
   clear hK K
   refine wpAnyH_done (by kernel_rfl) ?_ _
   have O6:Ho (s+2) u3 u6:=Q6.out.ho fun k e=>by omega
   have WL3:s+2≤u0.heap.size∧s+2≤u1.heap.size∧s+2≤u2.heap.size:=by
    have:=ZW.out;have:=HB.out.size;have:=E0.out.size;have:=C1.out.size;have:=C2.out.size
    exact⟨by omega,by omega,by omega⟩
   have F:Hid (Wp u6 w.heap.size (.slice va j vc) (.slice b1a m1 d1) (.slice b2a m2 d2) (.slice b3a m3 d3) P xs):=
    Wp.mono (Wp.ho (base:=s+2) ⟨row_monoX (row_keepX HO.out E3.out) (by have:=ZW.out;omega),by rw[HR.out.2.2,JN.out];exact HN0.out,fun i x e=>((HR.out.1 i x e).keep E3.out).mono (by have:=ZW.out;omega),HR.out.2.1,row_monoX (row_keepX (row_keepX P1.out C2.out) C3.out) WL3.1,row_monoX (row_keepX P2.out C3.out) WL3.2.1,row_monoX P3.out WL3.2.2⟩ O6) (by have:=HSs.out;omega)
   have B6:Hid (Below w.heap.size w u6):=BS.out _ S6.out
   have LD:=run_loadVar_mid (P:=Tryz.prog) u6 (s+1) 0 29 #[.slice va j vc,.slice b1a m1 d1,.slice b2a m2 d2,.slice b3a m3 d3].toList _ R6.out Tryz.underlying29 rfl (by kernel_rfl)
   go_wp2_with fail
   exact bodyPost_ret (v:=.agg #[.slice va j vc,.slice b1a m1 d1,.slice b2a m2 d2,.slice b3a m3 d3]) (by simp[results,Tryz.results41,asAddr];rw[LD]) rfl ⟨_,_,_,_,rfl,⟨_,F.out⟩,B6.out⟩
structure Ky(E:Option TypeId)(u u':World):Prop where
 row:∀{base sz n:Nat} {e:TypeId} {v:Value} {xs:List Value},u.ownsRow base e sz v n xs→some e≠E→u'.ownsRow base e sz v n xs
 vb:∀{q:Nat} {cs:Array Value} {t:TypeId},Vb u q cs t→some t≠E→Vb u' q cs t
theorem ky_grown{u u':World}{base g n cap sz:Nat}{e:TypeId}{xs:List Value}(h:u.ownsRow base e sz (.slice (some ⟨g,0,none⟩) n cap) n xs)(hG:u.grownBy u' (some g)):Ky (some e) u u':=by
 refine⟨fun k hne=>World.ownsRow.kept k hG (row_typesX k h fun e=>hne (by rw[e])),fun{q cs t} k hne=>k.gr hG fun e=>?_⟩
 have e:q=g:=by simpa using e
 subst e
 obtain⟨_,⟨e,_⟩|⟨g',cap',cur,e,_,hr,_⟩⟩:=h
 ·cases e
 ·have e:q=g':=by simp at e;exact e.1
  subst e
  unfold Vb at k
  rw[k]at hr
  cases hr
  exact hne rfl
theorem row_mqX{S:Nat→Prop}{w w':World}{base sz n:Nat}{e:TypeId}{v:Value}{xs:List Value}(h:w.ownsRow base e sz v n xs)(m:Mq S w w')(hn:∀k,v.ownBlock=some k→¬S k):w'.ownsRow base e sz v n xs:=by
 obtain⟨h1,h2|⟨g,cap,cur,hv,hg,hr,rest⟩⟩:=h
 ·exact⟨h1,.inl h2⟩
 ·refine⟨h1,.inr ⟨g,cap,cur,hv,hg,?_,rest⟩⟩
  rw[m.block g (Array.getElem?_eq_some_iff.1 hr).1 (hn g (by subst hv;rfl))]
  exact hr
theorem row_ne_vb{w:World}{base sz n q:Nat}{e t:TypeId}{v:Value}{xs:List Value}{cs:Array Value}(h:w.ownsRow base e sz v n xs)(k:Vb w q cs t)(hne:e≠t)(hq:v.ownBlock=some q):False:=by
 obtain⟨_,⟨rfl,_⟩|⟨g,cap,cur,rfl,_,hr,_⟩⟩:=h
 ·cases hq
 ·have e:g=q:=by simpa [Value.ownBlock]using hq
  subst e
  unfold Vb at k
  rw[k]at hr
  cases hr
  exact hne rfl
theorem ky_row{u u':World}{base sz n:Nat}{e:TypeId}{v:Value}{xs:List Value}(h:u.ownsRow base e sz v n xs)(hG:u.grownBy u' v.ownBlock):Ky (some e) u u':=by
 obtain⟨h1,⟨rfl,h3⟩|⟨g,cap,cur,rfl,hg,hr,rest⟩⟩:=h
 ·refine⟨fun{base sz n e v xs} k _=>World.ownsRow.kept k hG ?_,fun k _=>k.gr hG (by intro e;cases e)⟩
  show v.ownBlock=none∨v.ownBlock≠none
  cases v.ownBlock with
  |none=>exact .inl rfl
  |some x=>exact .inr (by simp)
 ·exact ky_grown ⟨h1,.inr ⟨g,cap,cur,rfl,hg,hr,rest⟩⟩ hG
theorem ky_set{q:Nat}{cs:Array Value}{t:TypeId}{u u':World}(h:Vb u q cs t)(m:Mq (fun k=>k=q) u u'):Ky (some t) u u':=
 ⟨fun k hne=>row_mqX k m fun b e f=>by subst f;exact row_ne_vb k h (fun e=>hne (by rw[e])) e,fun{q' cs' t'} k hne=>m.vb k fun e=>by
  subst e
  unfold Vb at h k
  rw[h]at k
  cases k
  exact hne rfl⟩
theorem mq_belowX{S:Nat→Prop}{w w':World}(b:Below w.heap.size w w'):Mq S w w':=⟨b.os,b.tape,b.output,b.size,fun k hk _=>b.block k hk⟩
end Go.Proofs.YtignbeibcakgpaaGreatDoor
