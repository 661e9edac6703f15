import Derived.Test.YtignbeibcakgpaaGreatDoorQ17
import Derived.Test.YtignbeibcakgpaaGreatDoorQ30
namespace Go.Proofs.YtignbeibcakgpaaGreatDoor
set_option maxRecDepth 20000
set_option maxHeartbeats 16000000
open Go.RowKit
set_option linter.unusedVariables false
structure Rw(w:World)(base q dz:Nat)(Kz:Nat→Option Value)(i o:Value)(pg pc:Nat)(ps:List (Int×Int))(g p:Nat)(zs:List Int)(H:Ht)(ca ri:Int)(X:Nat→Obj→Prop):Prop where
 v:Vo w q dz Kz (mcr H i o (.slice (some ⟨pg,0,none⟩) 8 pc) (.slice (some ⟨g,0,none⟩) p p) ca ri) 129
 hi:Rv w i H.inn
 ib:∀k,i.ownBlock=some k→base≤k∧k<w.heap.size∧k≠q∧k≠g∧(Kz dz).bind Value.ownBlock=some k
 ho:∃bo,base≤bo∧bo≤w.heap.size∧Nums w bo o H.out∧∀k,i.ownBlock=some k→k<bo
 pgs:Pags w base (.slice (some ⟨g,0,none⟩) p p) p zs
 ls:Prs 89 w 0 (.slice (some ⟨pg,0,none⟩) 8 pc) ps
 lb:pg<base∨∃c,X pg c
 qb:base≤q
 gq:g≠q
 sn:Sn H ps zs p
 tab:Tab w
 tb:1<base
 bx:∀k c,X k c→w.heap[k]? =some c∧k≠q∧k≠g∧o.ownBlock≠some k
theorem Sn.to_hok{H G:Ht}{ps:List (Int×Int)}{zs:List Int}{p:Nat}(s:Sn H ps zs p)(k:Hok G):Sn G ps zs p:=by
 have ht:=k.st
 unfold standC at ht
 simp at ht
 exact⟨k,s.l8,s.ok,s.zl,s.p1,s.p24,s.zw,s.tl,(all_at k.cw 10).1,by unfold tabV;simp;omega⟩
theorem Sn.to_mem{H:Ht}{ps:List (Int×Int)}{zs ys:List Int}{p:Nat}(s:Sn H ps zs p)(hl:ys.length=zs.length)(hw:ys.all isW=true):Sn H ps ys p:=
 ⟨s.hok,s.l8,s.ok,hl.trans s.zl,s.p1,s.p24,hw,s.tl,s.t0,s.t8⟩
theorem Mq.low{S:Nat→Prop}{base:Nat}{w w':World}(m:Mq S w w')(h:∀k,S k→base≤k)(hb:base≤w.heap.size):Below base w w':=
 ⟨m.os,m.tape,m.output,m.size,fun k hk=>m.block k (by omega) fun e=>by have:=h k e;omega⟩
theorem bless{B B':Nat}{w w':World}(h:Below B w w')(hb:B'≤B):Below B' w w':=⟨h.os,h.tape,h.output,h.size,fun k hk=>h.block k (by omega)⟩
theorem Prs.low{base:Nat}{e:TypeId}{w w':World}{b:Nat}{v:Value}{rs:List (Int×Int)}(h:Prs e w b v rs)(hb:∀k,v.ownBlock=some k→k<base)(B:Below base w w'):Prs e w' b v rs:=by
 obtain⟨h1,h2|⟨g,cap,cur,hv,hg,hr,rest⟩⟩:=h
 ·exact⟨h1,.inl h2⟩
 ·refine⟨h1,.inr ⟨g,cap,cur,hv,hg,?_,rest⟩⟩
  rw[B.block g (hb g (by rw[hv];rfl))]
  exact hr
theorem cell_low{base:Nat}{w w':World}{k j:Nat}{v:Value}(B:Below base w w')(hk:k<base)(h:w.cell? ⟨k,j,none⟩=some v):w'.cell? ⟨k,j,none⟩=some v:=by
 unfold World.cell? at h ⊢
 rw[B.block k hk]
 exact h
theorem Tab.low{base:Nat}{w w':World}(h:Tab w)(B:Below base w w')(hb:1<base):Tab w':=⟨cell_low B hb h.c0,cell_low B hb h.c1,cell_low B hb h.c3⟩
theorem Mq.pags{S:Nat→Prop}{w w':World}{base g p:Nat}{zs:List Int}(m:Mq S w w')(h:Pags w base (.slice (some ⟨g,0,none⟩) p p) p zs)(hn:¬S g):Pags w' base (.slice (some ⟨g,0,none⟩) p p) p zs:=by
 obtain⟨h1,h2|⟨g',cap,cur,hv,hg,hr,rest⟩⟩:=h
 ·exact⟨h1,.inl h2⟩
 ·refine⟨h1,.inr ⟨g',cap,cur,hv,hg,?_,rest⟩⟩
  have e:g'=g:=by simp at hv;omega
  rw[m.block g' ((Array.getElem?_eq_some_iff.1 hr).1) (by rw[e];exact hn)]
  exact hr
theorem pags_mono{w:World}{base base':Nat}{v:Value}{n:Nat}{zs:List Int}(h:Pags w base v n zs)(hb:base'≤base):Pags w base' v n zs:=by
 obtain⟨h1,h2|⟨g,cap,cur,hv,hg,rest⟩⟩:=h
 ·exact⟨h1,.inl h2⟩
 ·exact⟨h1,.inr ⟨g,cap,cur,hv,Nat.le_trans hb hg,rest⟩⟩
theorem Rw.size{w:World}{base q dz:Nat}{Kz:Nat→Option Value}{i o:Value}{pg pc:Nat}{ps:List (Int×Int)}{g p:Nat}{zs:List Int}{X:Nat→Obj→Prop}{H:Ht}{ca ri:Int}(h:Rw w base q dz Kz i o pg pc ps g p zs H ca ri X):base≤w.heap.size:=by have:=h.v.lt;have:=h.qb;omega
theorem Prs.same{e:TypeId}{w w':World}{b:Nat}{v:Value}{rs:List (Int×Int)}(h:Prs e w b v rs)(hb:∀k,v.ownBlock=some k→w'.heap[k]? =w.heap[k]?):Prs e w' b v rs:=by
 obtain⟨h1,h2|⟨g,cap,cur,hv,hg,hr,rest⟩⟩:=h
 ·exact⟨h1,.inl h2⟩
 ·refine⟨h1,.inr ⟨g,cap,cur,hv,hg,?_,rest⟩⟩
  rw[hb g (by rw[hv];rfl)]
  exact hr
variable{w w':World}{base q dz:Nat}{Kz:Nat→Option Value}{i o:Value}{pg pc:Nat}{ps:List (Int×Int)}{g p:Nat}{zs:List Int}{X:Nat→Obj→Prop}{H:Ht}{ca ri:Int}
theorem Rw.lsk(h:Rw w base q dz Kz i o pg pc ps g p zs H ca ri X)(B:Below base w w')(bx:∀c,X pg c→w'.heap[pg]? =some c):Prs 89 w' 0 (.slice (some ⟨pg,0,none⟩) 8 pc) ps:=
 h.lb.elim (fun l=>h.ls.low (fun k e=>by have e':pg=k:=(by simpa [Value.ownBlock]using e);omega) B) fun⟨c,e⟩=>h.ls.same fun k f=>by
  have e':pg=k:=(by simpa [Value.ownBlock]using f)
  rw[←e',bx c e,(h.bx pg c e).1]
theorem Rw.keep(h:Rw w base q dz Kz i o pg pc ps g p zs H ca ri X)(b:Below w.heap.size w w'):Rw w' base q dz Kz i o pg pc ps g p zs H ca ri X:=
 ⟨h.v.keep b,h.hi.stay b,fun k e=>by obtain⟨a1,a2,a3⟩:=h.ib k e;exact⟨a1,Nat.lt_of_lt_of_le a2 b.size,a3⟩,by obtain⟨bo,b1,b2,b3,b4⟩:=h.ho;exact⟨bo,b1,Nat.le_trans b2 b.size,b3.keep b,b4⟩,h.pgs.keep b,h.ls.keep b,h.lb,h.qb,h.gq,h.sn,h.tab.keep b,h.tb,fun k c e=>⟨(b.block k ((Array.getElem?_eq_some_iff.1 (h.bx k c e).1).1)).trans (h.bx k c e).1,(h.bx k c e).2⟩⟩
theorem Rw.upd{w w':World}{base q dz:Nat}{Kz:Nat→Option Value}{i o:Value}{pg pc:Nat}{ps:List (Int×Int)}{g p:Nat}{zs:List Int}{X:Nat→Obj→Prop}{H G:Ht}{ca ri ca' ri':Int}(h:Rw w base q dz Kz i o pg pc ps g p zs H ca ri X)(v:Vo w' q dz Kz (mcr G i o (.slice (some ⟨pg,0,none⟩) 8 pc) (.slice (some ⟨g,0,none⟩) p p) ca' ri') 129)(m:Mq (fun j=>j=q) w w')(ei:G.inn=H.inn)(eo:G.out=H.out)(k:Hok G):Rw w' base q dz Kz i o pg pc ps g p zs G ca' ri' X∧Below base w w':=by
 have B:=m.low (base:=base) (fun k e=>by have:=h.qb;omega) h.size
 have BX:∀k c,X k c→w'.heap[k]? =some c∧k≠q∧k≠g∧o.ownBlock≠some k:=fun k c e=>⟨(m.block k ((Array.getElem?_eq_some_iff.1 (h.bx k c e).1).1) (h.bx k c e).2.1).trans (h.bx k c e).1,(h.bx k c e).2⟩
 refine⟨⟨v,?_,fun k e=>by obtain⟨a1,a2,a3⟩:=h.ib k e;exact⟨a1,Nat.lt_of_lt_of_le a2 m.size,a3⟩,?_,m.pags h.pgs h.gq,h.lsk B (fun c e=>(BX pg c e).1),h.lb,h.qb,h.gq,h.sn.to_hok k,h.tab.low B h.tb,h.tb,BX⟩,B⟩
 ·rw[ei]
  exact h.hi.mq m fun k e _ f=>(h.ib k e).2.2.1 f
 ·rw[eo]
  obtain⟨bo,b1,b2,b3,b4⟩:=h.ho
  exact⟨bo,b1,Nat.le_trans b2 m.size,m.nums b3 fun k e f=>b3.ne_vb (t:=129) (Classical.choose_spec h.v.blk) (by decide) (by rw[e,f]),b4⟩
theorem Rw.updI{w w':World}{base q dz:Nat}{Kz:Nat→Option Value}{i o:Value}{pg pc:Nat}{ps:List (Int×Int)}{g p:Nat}{zs:List Int}{X:Nat→Obj→Prop}{i':Value}{H G:Ht}{ca ri:Int}(h:Rw w base q dz Kz i o pg pc ps g p zs H ca ri X)(v:Vo w' q dz Kz (mcr G i' o (.slice (some ⟨pg,0,none⟩) 8 pc) (.slice (some ⟨g,0,none⟩) p p) ca ri) 129)(m:Mq (fun j=>j=q) w w')(r:Rv w' i' G.inn)(sub:∀k,i'.ownBlock=some k→i.ownBlock=some k)(eo:G.out=H.out)(k:Hok G):Rw w' base q dz Kz i' o pg pc ps g p zs G ca ri X∧Below base w w':=by
 have B:=m.low (base:=base) (fun k e=>by have:=h.qb;omega) h.size
 have BX:∀k c,X k c→w'.heap[k]? =some c∧k≠q∧k≠g∧o.ownBlock≠some k:=fun k c e=>⟨(m.block k ((Array.getElem?_eq_some_iff.1 (h.bx k c e).1).1) (h.bx k c e).2.1).trans (h.bx k c e).1,(h.bx k c e).2⟩
 refine⟨⟨v,r,fun k e=>by obtain⟨a1,a2,a3⟩:=h.ib k (sub k e);exact⟨a1,Nat.lt_of_lt_of_le a2 m.size,a3⟩,?_,m.pags h.pgs h.gq,h.lsk B (fun c e=>(BX pg c e).1),h.lb,h.qb,h.gq,h.sn.to_hok k,h.tab.low B h.tb,h.tb,BX⟩,B⟩
 rw[eo]
 obtain⟨bo,b1,b2,b3,b4⟩:=h.ho
 exact⟨bo,b1,Nat.le_trans b2 m.size,m.nums b3 fun k e f=>b3.ne_vb (t:=129) (Classical.choose_spec h.v.blk) (by decide) (by rw[e,f]),fun k e=>b4 k (sub k e)⟩
theorem Nums.ne_pags{w:World}{b base g p:Nat}{v:Value}{zs ys:List Int}(h:Nums w b v ys)(k:Pags w base (.slice (some ⟨g,0,none⟩) p p) p zs):v.ownBlock≠some g:=by
 intro e
 have hh:=k.heap
 obtain⟨h1,h2|⟨g',cap,cur,hv,hg,hr,rest⟩⟩:=h
 ·rw[h2.1]at e;cases e
 ·subst hv
  have e':g'=g:=by simpa [Value.ownBlock]using e
  subst e'
  rw[hh]at hr
  simp at hr
end Go.Proofs.YtignbeibcakgpaaGreatDoor
