import Derived.Test.YtignbeibcakgpaaGreatDoorQ19
namespace Go.Proofs.YtignbeibcakgpaaGreatDoor
set_option maxRecDepth 20000
set_option maxHeartbeats 16000000
open Go.RowKit
set_option linter.unusedVariables false
structure Small(n0 n1 n2 n3:Nat)(P:Plc):Prop where
 own:n0≤1048576
 each:∀i,i<n0→(P.own.getD i []).length≤1048576
 lanes:n1≤1048576
 bells:n2≤1048576
 plan:n3≤1048576
theorem Ls.mono{e:TypeId}{w:World}{base base':Nat}{v:Value}{rs:List Ln}(h:Ls e w base v rs)(hb:base'≤base):Ls e w base' v rs:=by
 obtain⟨h1,h2|⟨g,cap,cur,hv,hg,hr⟩⟩:=h
 ·exact⟨h1,.inl h2⟩
 ·exact⟨h1,.inr ⟨g,cap,cur,hv,Nat.le_trans hb hg,hr⟩⟩
theorem fz_new(w:World)(cs:Array Value)(t:TypeId)(i:Nat):(w.alloc (.cells cs t)).frozen? ⟨w.heap.size,i,none⟩=false:=by simp
theorem row_up{base base' e sz n:Nat}{v:Value}{w:World}{xs:List Value}(h:w.ownsRow base e sz v n xs)(hb:base'≤base):w.ownsRow base' e sz v n xs:=by
 obtain⟨h1,h2|⟨g,cap,cur,hv,hg,hr⟩⟩:=h
 ·exact⟨h1,.inl h2⟩
 ·exact⟨h1,.inr ⟨g,cap,cur,hv,Nat.le_trans hb hg,hr⟩⟩
structure Mk(lo hi:Nat)(w w':World):Prop where
 os:w'.os=w.os
 tape:w'.tape=w.tape
 output:w'.output=w.output
 size:w.heap.size≤w'.heap.size
 block:∀k,k<w.heap.size→(k<lo∨hi≤k)→w'.heap[k]? =w.heap[k]?
 other:∀p v,w.cell? p=some v→(∀z,v≠ .int .i64 z)→w'.cell? p=some v
 num:∀p z,w.cell? p=some (.int .i64 z)→∃z',w'.cell? p=some (.int .i64 z')
 free:∀p,p.block<w.heap.size→w'.frozen? p=w.frozen? p
theorem Mk.refl(lo hi:Nat)(w:World):Mk lo hi w w:=⟨rfl,rfl,rfl,Nat.le_refl _,fun _ _ _=>rfl,fun _ _ h _=>h,fun _ z h=>⟨z,h⟩,fun _ _=>rfl⟩
theorem Mk.trans{lo hi:Nat}{a b c:World}(h:Mk lo hi a b)(k:Mk lo hi b c):Mk lo hi a c:=
 ⟨k.os.trans h.os,k.tape.trans h.tape,k.output.trans h.output,Nat.le_trans h.size k.size,
  fun i hi hn=>(k.block i (Nat.lt_of_lt_of_le hi h.size) hn).trans (h.block i hi hn),
  fun p v e n=>k.other p v (h.other p v e n) n,
  fun p z e=>by obtain⟨z',e'⟩:=h.num p z e;exact k.num p z' e',
  fun p hp=>(k.free p (Nat.lt_of_lt_of_le hp h.size)).trans (h.free p hp)⟩
theorem Mk.alloc{lo hi:Nat}{a w:World}(h:Mk lo hi a w)(o:Obj):Mk lo hi a (w.alloc o):=
 h.trans ⟨rfl,rfl,rfl,by simp,fun k hk _=>Below.heap_alloc _ _ _ hk,fun p v e _=>cell_push o e,fun p z e=>⟨z,cell_push o e⟩,fun p hp=>World.frozen?_alloc_old _ _ p (Nat.ne_of_lt hp)⟩
theorem Mk.set{lo hi:Nat}{a w:World}(h:Mk lo hi a w){p:Addr}{z0:Int}(hc:w.cell? p=some (.int .i64 z0))(h1:lo≤p.block)(h2:p.block<hi)(z:Int):Mk lo hi a (w.setCell p (.int .i64 z)):=by
 refine h.trans ⟨rfl,rfl,rfl,by simp[World.setCell],fun k hk hn=>Below.heap_setCell _ _ _ _ (by omega),fun q v e n=>?_,fun q z' e=>?_,fun q _=>World.frozen?_setCell ..⟩
 ·rw[World.cell?_setCell_other _ _ _ _ (fun e2=>by subst e2;rw[hc]at e;cases e;exact n _ rfl)]
  exact e
 ·by_cases e2:p=q
  ·subst e2
   exact⟨z,World.cell?_setCell_same _ _ _ hc⟩
  ·rw[World.cell?_setCell_other _ _ _ _ e2]
   exact⟨z',e⟩
theorem Mk.below{lo hi:Nat}{a w w':World}(h:Below a.heap.size a w)(m:Mk lo hi w w')(hl:a.heap.size≤lo):Below a.heap.size a w':=
 ⟨m.os.trans h.os,m.tape.trans h.tape,m.output.trans h.output,Nat.le_trans h.size m.size,
  fun k hk=>(m.block k (Nat.lt_of_lt_of_le hk h.size) (.inl (by omega))).trans (h.block k hk)⟩
theorem Mk.cell{lo hi:Nat}{w w':World}(m:Mk lo hi w w'){p:Addr}{v:Value}(h:w.cell? p=some v)(hp:p.block<lo∨hi≤p.block):w'.cell? p=some v:=by
 have hb:=block_of_cell h
 unfold World.cell? at*
 rw[m.block _ hb hp]
 exact h
theorem Mk.row{lo hi base e sz n:Nat}{v:Value}{w w':World}{xs:List Value}(m:Mk lo hi w w')(h:w.ownsRow base e sz v n xs)(hp:∀k,v.ownBlock=some k→k<lo∨hi≤k):w'.ownsRow base e sz v n xs:=by
 obtain⟨h1,h2|⟨g,cap,cur,hv,hg,hr,rest⟩⟩:=h
 ·exact⟨h1,.inl h2⟩
 ·refine⟨h1,.inr ⟨g,cap,cur,hv,hg,?_,rest⟩⟩
  rw[m.block g ((Array.getElem?_eq_some_iff.1 hr).1) (hp g (by subst hv;rfl))]
  exact hr
def Mb(w:World)(lo hi sz:Nat)(a:Option Addr)(n:Nat):Prop:=0<n→∃g,a=some ⟨g,0,none⟩∧lo≤g∧g<hi∧∀i,i<n*sz→(∃z,w.cell? ⟨g,i,none⟩=some (.int .i64 z))∧w.frozen? ⟨g,i,none⟩=false
variable{w w':World}{lo hi sz n:Nat}{a:Option Addr}
theorem Mb.mk(h:Mb w lo hi sz a n)(m:Mk lo hi w w'):Mb w' lo hi sz a n:=by
 intro hn
 obtain⟨g,e,h1,h2,h3⟩:=h hn
 refine⟨g,e,h1,h2,fun i hi=>?_⟩
 obtain⟨⟨z,hz⟩,hf⟩:=h3 i hi
 exact⟨m.num _ _ hz,by rw[m.free _ (block_of_cell hz)];exact hf⟩
theorem Mb.stay(h:Mb w lo hi sz a n)(b:Below w.heap.size w w'):Mb w' lo hi sz a n:=by
 intro hn
 obtain⟨g,e,h1,h2,h3⟩:=h hn
 refine⟨g,e,h1,h2,fun i hi=>?_⟩
 obtain⟨⟨z,hz⟩,hf⟩:=h3 i hi
 exact⟨⟨z,cell_keep b hz⟩,by rw[b.frozen (p:=⟨g,i,none⟩) (block_of_cell hz)];exact hf⟩
theorem Mb.wide{w:World}{lo hi lo' hi' sz n:Nat}{a:Option Addr}(h:Mb w lo hi sz a n)(h1:lo'≤lo)(h2:hi≤hi'):Mb w lo' hi' sz a n:=by
 intro hn
 obtain⟨g,e,k1,k2,k3⟩:=h hn
 exact⟨g,e,Nat.le_trans h1 k1,Nat.lt_of_lt_of_le k2 h2,k3⟩
theorem Nums.mb{w:World}{base n c:Nat}{a:Option Addr}{zs:List Int}(h:Nums w base (.slice a n c) zs):Mb w base w.heap.size 1 a n:=by
 intro hn
 obtain⟨a',cap',hv,l1,l2,hg⟩:=h.shape
 have hl:=h.len
 obtain⟨g,e⟩:=hg (by omega)
 cases hv
 subst e
 have hb:=h.lt g rfl
 exact⟨g,rfl,hb.1,hb.2,fun i hi=>⟨⟨_,h.cell rfl i (by omega)⟩,h.free rfl i⟩⟩
theorem Prs.mb{e:TypeId}{w:World}{base n c:Nat}{a:Option Addr}{rs:List (Int×Int)}(h:Prs e w base (.slice a n c) rs):Mb w base w.heap.size 2 a n:=by
 intro hn
 obtain⟨a',cap',hv,l1,l2,hg⟩:=h.shape
 cases hv
 obtain⟨g,rfl⟩:=hg hn
 have hb:=h.lt g rfl
 refine⟨g,rfl,hb.1,hb.2,fun i hi=>⟨?_,h.free rfl i⟩⟩
 have hc:=h.cell rfl (i/2) (by omega)
 have:i=i/2*2∨i=i/2*2+1:=by omega
 rcases this with e|e
 ·rw[e];exact⟨_,hc.1⟩
 ·rw[e];exact⟨_,hc.2⟩
theorem Ls.mb{e:TypeId}{w:World}{base n c:Nat}{a:Option Addr}{rs:List Ln}(h:Ls e w base (.slice a n c) rs):Mb w base w.heap.size 5 a n:=by
 intro hn
 obtain⟨a',cap',hv,l1,l2,hg⟩:=h.shape
 cases hv
 obtain⟨g,rfl⟩:=hg hn
 have hb:=h.lt g rfl
 refine⟨g,rfl,hb.1,hb.2,fun i hi=>⟨?_,h.free rfl i⟩⟩
 have hc:=h.cell rfl (i/5) (by omega)
 have:i=i/5*5∨i=i/5*5+1∨i=i/5*5+2∨i=i/5*5+3∨i=i/5*5+4:=by omega
 rcases this with e|e|e|e|e
 ·rw[e];exact⟨_,hc.1⟩
 ·rw[e];exact⟨_,hc.2.1⟩
 ·rw[e];exact⟨_,hc.2.2.1⟩
 ·rw[e];exact⟨_,hc.2.2.2.1⟩
 ·rw[e];exact⟨_,hc.2.2.2.2⟩
def mkV(b:Bool)(k:Int):Value:=if b then .bool (k%3==0)else .int .i64 k
structure Mx(L:List (Addr×Bool))(k:Int)(w w':World):Prop where
 os:w'.os=w.os
 tape:w'.tape=w.tape
 output:w'.output=w.output
 size:w.heap.size≤w'.heap.size
 block:∀g,g<w.heap.size→(∀x ∈ L,x.1.block≠g)→w'.heap[g]? =w.heap[g]?
 out:∀p v,w.cell? p=some v→(∀x ∈ L,x.1≠p)→w'.cell? p=some v
 at':∀(i:Nat) (x:Addr×Bool),L[i]? =some x→w'.cell? x.1=some (mkV x.2 (k+i))
 free:∀p,p.block<w.heap.size→w'.frozen? p=w.frozen? p
def Hx(L:List (Addr×Bool))(k:Int)(w:World):Prop:=∀(i:Nat) (x:Addr×Bool),L[i]? =some x→w.cell? x.1=some (mkV x.2 (k+i))
theorem Mx.hx{L:List (Addr×Bool)}{k:Int}{w w':World}(m:Mx L k w w'):Hx L k w':=m.at'
theorem Mx.refl(k:Int)(w:World):Mx [] k w w:=
 ⟨rfl,rfl,rfl,Nat.le_refl _,fun _ _ _=>rfl,fun _ _ h _=>h,fun i x h=>by simp at h,fun _ _=>rfl⟩
theorem Mx.trans{L M:List (Addr×Bool)}{k:Int}{a b c:World}(h:Mx L k a b)(m:Mx M (k+L.length) b c)(d:∀x ∈ L,∀y ∈ M,x.1≠y.1):Mx (L++M) k a c:=by
 refine⟨m.os.trans h.os,m.tape.trans h.tape,m.output.trans h.output,Nat.le_trans h.size m.size,fun g hg hn=>?_,fun p v e hn=>?_,fun i x e=>?_,fun p hp=>(m.free p (Nat.lt_of_lt_of_le hp h.size)).trans (h.free p hp)⟩
 ·exact(m.block g (Nat.lt_of_lt_of_le hg h.size) fun x hx=>hn x (List.mem_append_right _ hx)).trans (h.block g hg fun x hx=>hn x (List.mem_append_left _ hx))
 ·exact m.out p v (h.out p v e fun x hx=>hn x (List.mem_append_left _ hx)) fun x hx=>hn x (List.mem_append_right _ hx)
 ·by_cases hi:i<L.length
  ·rw[List.getElem?_append_left hi]at e
   have hm:=List.mem_of_getElem? e
   exact m.out _ _ (h.at' i x e) fun y hy e2=>d x hm y hy e2.symm
  ·rw[List.getElem?_append_right (by omega)]at e
   have:=m.at' _ x e
   rw[show k+(L.length:Int)+((i-L.length:Nat):Int)=k+i by omega]at this
   exact this
theorem Mx.alloc{L:List (Addr×Bool)}{k:Int}{a w:World}(h:Mx L k a w)(o:Obj):Mx L k a (w.alloc o):=
 ⟨h.os,h.tape,h.output,Nat.le_trans h.size (by simp),fun g hg hn=>(Below.heap_alloc _ _ _ (Nat.lt_of_lt_of_le hg h.size)).trans (h.block g hg hn),fun p v e hn=>cell_push o (h.out p v e hn),fun i x e=>cell_push o (h.at' i x e),
  fun p hp=>(World.frozen?_alloc_old _ _ p (Nat.ne_of_lt (Nat.lt_of_lt_of_le hp h.size))).trans (h.free p hp)⟩
theorem Mx.one{k:Int}{w:World}{p:Addr}{v:Value}(b:Bool)(hc:w.cell? p=some v):Mx [(p,b)] k w (w.setCell p (mkV b k)):=by
 refine⟨rfl,rfl,rfl,by simp[World.setCell],fun g hg hn=>Below.heap_setCell _ _ _ _ ?_,fun q u e hn=>?_,fun i x e=>?_,fun q _=>World.frozen?_setCell ..⟩
 ·have:=hn (p,b) (by simp);exact fun e=>this e.symm
 ·have:=hn (p,b) (by simp)
  rw[World.cell?_setCell_other _ _ _ _ this];exact e
 ·match i,e with
  |0,e=>cases e;simp;exact World.cell?_setCell_same _ _ _ hc
def cN(g n:Nat):List (Addr×Bool):=(List.range n).map fun j=>(⟨g,j,none⟩,false)
theorem cN_len(g n:Nat):(cN g n).length=n:=by simp[cN]
theorem cN_succ(g n:Nat):cN g (n+1)=cN g n++ [(⟨g,n,none⟩,false)]:=by simp[cN,List.range_succ]
theorem cN_block{g n:Nat}{x:Addr×Bool}(h:x ∈ cN g n):x.1.block=g:=by
 simp only[cN,List.mem_map]at h;obtain⟨j,_,rfl⟩:=h;rfl
theorem cN_ne{g n m:Nat}(hm:n≤m):∀x ∈ cN g n,x.1≠⟨g,m,none⟩:=by
 intro x h e
 simp only[cN,List.mem_map,List.mem_range]at h;obtain⟨j,hj,rfl⟩:=h
 simp at e;omega
theorem cN_get{g n i:Nat}(h:i<n):(cN g n)[i]? =some (⟨g,i,none⟩,false):=by simp[cN,h]
theorem Hx.num{g n i:Nat}{k:Int}{w:World}(h:Hx (cN g n) k w)(hi:i<n):w.cell? ⟨g,i,none⟩=some (.int .i64 (k+i)):=h i _ (cN_get hi)
theorem Mx.add{g m:Nat}{k z:Int}{w wr:World}{v:Value}(M:Mx (cN g m) k w wr)(hc:w.cell? ⟨g,m,none⟩=some v)(hz:z=k+m):Mx (cN g (m+1)) k w (wr.setCell ⟨g,m,none⟩ (.int .i64 z)):=by
 rw[cN_succ]
 have hc':=M.out _ _ hc (cN_ne (Nat.le_refl m))
 refine M.trans ?_ (fun x hx y hy=>?_)
 ·rw[cN_len,hz];exact Mx.one false hc'
 ·simp only[List.mem_singleton]at hy;subst hy;exact cN_ne (Nat.le_refl m) x hx
def Mg(w:World)(g sz:Nat)(a:Option Addr)(n:Nat):Prop:=0<n→a=some ⟨g,0,none⟩∧∀i,i<n*sz→(∃z,w.cell? ⟨g,i,none⟩=some (.int .i64 z))∧w.frozen? ⟨g,i,none⟩=false
theorem Mg.mx{w w':World}{g sz n:Nat}{a:Option Addr}{L:List (Addr×Bool)}{k:Int}(h:Mg w g sz a n)(m:Mx L k w w')(hn':0<n→∀x ∈ L,x.1.block≠g):Mg w' g sz a n:=by
 intro h0
 have hn:=hn' h0
 obtain⟨e,h3⟩:=h h0
 refine⟨e,fun i hi=>?_⟩
 obtain⟨⟨z,hz⟩,hf⟩:=h3 i hi
 exact⟨⟨z,m.out _ _ hz fun x hx e2=>hn x hx (by rw[e2])⟩,by rw[m.free _ (block_of_cell hz)];exact hf⟩
def Arr(w:World)(B:Nat)(S:List Int):Prop:=∀m,m<24→w.cell? ⟨B,m,none⟩=some (.bool (decide ((m:Int) ∈ S)))∧w.frozen? ⟨B,m,none⟩=false
theorem Arr.put{w:World}{B:Nat}{S:List Int}(h:Arr w B S)(m:Nat)(hm:m<24):Arr (w.setCell ⟨B,m,none⟩ (.bool true)) B (S++ [(m:Int)]):=by
 intro k hk
 obtain⟨h1,h2⟩:=h k hk
 refine⟨?_,by rw[World.frozen?_setCell];exact h2⟩
 by_cases e:k=m
 ·subst e
  rw[World.cell?_setCell_same _ _ _ h1]
  simp
 ·rw[World.cell?_setCell_other _ _ _ _ (by intro h;cases h;exact e rfl),h1]
  have:((k:Int) ∈ S++ [(m:Int)])↔((k:Int) ∈ S):=by
   simp only[List.mem_append,List.mem_singleton]
   exact⟨fun h=>h.elim id (fun h=>absurd (Int.ofNat.inj h) e),.inl⟩
  simp[this]
theorem IsLanes.pre{w:World}{x:Addr}{n c:Nat}{rs:List Ln}(h:IsLanes w (some x) n c rs)(k:Nat)(hk:k≤n):IsLanes w (some x) k c (rs.take k):=by
 rcases h with⟨h,_⟩|⟨y,hy,h1,h2,h3,h4⟩
 ·cases h
 ·refine .inr ⟨y,hy,by omega,h2,by simp;omega,fun i hi=>?_⟩
  have e:(rs.take k).getD i lz=rs.getD i lz:=by simp[List.getD,hi]
  rw[e]
  exact h4 i (by omega)
theorem IsPairs.pre{w:World}{x:Addr}{n c:Nat}{rs:List (Int×Int)}(h:IsPairs w (some x) n c rs)(k:Nat)(hk:k≤n):IsPairs w (some x) k c (rs.take k):=by
 rcases h with⟨h,_⟩|⟨y,hy,h1,h2,h3,h4⟩
 ·cases h
 ·refine .inr ⟨y,hy,by omega,h2,by simp;omega,fun i hi=>?_⟩
  have e:(rs.take k).getD i (0,0)=rs.getD i (0,0):=by simp[List.getD,hi]
  rw[e]
  exact h4 i (by omega)
theorem i_owned(a0 a1 a2 a3:Option Addr)(n0 c0 n1 c1 n2 c2 n3 c3:Nat)(P:Plc)(w:World)(h:Pl w a0 n0 c0 a1 n1 c1 a2 n2 c2 a3 n3 c3 P)(hG:guestsV P.own=0):
  Calls Tryz.prog 76 #[.agg #[.slice a0 n0 c0,.slice a1 n1 c1,.slice a2 n2 c2,.slice a3 n3 c3]] w fun e w'=>e=.returned (errV (g2V P.own))∧Below w.heap.size w w':=by
 have HL:Hid (n0=P.own.length):=h.own.len
 have HO:Hid (IsS2 w a0 n0 c0 P.own):=h.own
 have HG:=hid hG
 have hmax:(n0:Int)≤9223372036854775807:=by have:=h.own.cap;unfold maxLen at this;omega
 have AR:Hid (Arr (((w.alloc (.cells #[.slice a0 n0 c0,.slice a1 n1 c1,.slice a2 n2 c2,.slice a3 n3 c3] 29))).alloc (.cells #[.bool false,.bool false,.bool false,.bool false,.bool false,.bool false,.bool false,.bool false,.bool false,.bool false,.bool false,.bool false,.bool false,.bool false,.bool false,.bool false,.bool false,.bool false,.bool false,.bool false,.bool false,.bool false,.bool false,.bool false] 204)) (w.heap.size+1) []):=by
  intro m hm
  have e:∀m,m<24→(#[.bool false,.bool false,.bool false,.bool false,.bool false,.bool false,.bool false,.bool false,.bool false,.bool false,.bool false,.bool false,.bool false,.bool false,.bool false,.bool false,.bool false,.bool false,.bool false,.bool false,.bool false,.bool false,.bool false,.bool false]:Array Value)[m]? =some (.bool false):=fun m hm=>match m,hm with|0,_=>rfl|1,_=>rfl|2,_=>rfl|3,_=>rfl|4,_=>rfl|5,_=>rfl|6,_=>rfl|7,_=>rfl|8,_=>rfl|9,_=>rfl|10,_=>rfl|11,_=>rfl|12,_=>rfl|13,_=>rfl|14,_=>rfl|15,_=>rfl|16,_=>rfl|17,_=>rfl|18,_=>rfl|19,_=>rfl|20,_=>rfl|21,_=>rfl|22,_=>rfl|23,_=>rfl|m+24,h=>absurd h (by omega)
  have z:w.heap.size+1=((w.alloc (.cells #[.slice a0 n0 c0,.slice a1 n1 c1,.slice a2 n2 c2,.slice a3 n3 c3] 29))).heap.size:=by simp
  rw[z]
  have d:decide ((m:Int) ∈ ([]:List Int))=false:=by simp
  rw[d]
  exact⟨cell_new (e m hm),by simp⟩
 have HB2:Hid (Below w.heap.size w (((w.alloc (.cells #[.slice a0 n0 c0,.slice a1 n1 c1,.slice a2 n2 c2,.slice a3 n3 c3] 29))).alloc (.cells #[.bool false,.bool false,.bool false,.bool false,.bool false,.bool false,.bool false,.bool false,.bool false,.bool false,.bool false,.bool false,.bool false,.bool false,.bool false,.bool false,.bool false,.bool false,.bool false,.bool false,.bool false,.bool false,.bool false,.bool false] 204))):=al (al (Below.refl _ _) _) _
 clear h hG
 go_enter Tryz.func76,Tryz.ntmps76
 go_wp2_with fail
 generalize ((w.alloc (.cells #[.slice a0 n0 c0,.slice a1 n1 c1,.slice a2 n2 c2,.slice a3 n3 c3] 29))).alloc (.cells #[.bool false,.bool false,.bool false,.bool false,.bool false,.bool false,.bool false,.bool false,.bool false,.bool false,.bool false,.bool false,.bool false,.bool false,.bool false,.bool false,.bool false,.bool false,.bool false,.bool false,.bool false,.bool false,.bool false,.bool false] 204)=W2 at*
 obtain⟨B,hB⟩:∃B,w.heap.size+1=B:=⟨_,rfl⟩
 rw[hB]at AR ⊢
 have HBB:=hid hB
 clear hB
 go_loopw [11] (fun c wr=>∃i:Nat,i≤n0∧c=.int .i64 i∧Arr wr B (P.own.take i).flatten∧Below w.heap.size w wr∧Hid (dupF [] P.own.flatten=dupF (P.own.take i).flatten (P.own.drop i).flatten)) (fun c _=>n0-(intOf c).toNat)
 case atStart=>exact⟨0,Nat.zero_le _,rfl,by simpa using AR.out,HB2.out,by show _=_;simp⟩
 case round=>
  obtain⟨i,hi,rfl,hA,hB,hD⟩:=hrel
  have HA:Hid (Arr wr B _):=hA
  have HB:Hid (Below _ w wr):=hB
  clear hA hB
  by_cases hlt:i<n0
  ·obtain⟨x,b,l,c,rfl,k1,k2⟩:=HO.out.at i hlt
   have HN:Hid (IsNs w b l c _):=k2
   have k1:=cell_keep HB.out k1
   have HNL:Hid (l=(P.own.getD i []).length):=k2.len
   have hlmax:(l:Int)≤9223372036854775807:=by have:=k2.cap;unfold maxLen at this;omega
   have hJ:(i:Int)<(n0:Int):=by omega
   have HLT:=hid hlt
   obtain⟨s1,s2⟩:=flat_seen P.own i (by have:=HL.out;omega)
   have hns:=HA.out
   rw[s1]at hns
   have HNs:=hid hns
   have HDs:Hid (dupF [] P.own.flatten=dupF (seenAt P.own i 0) (leftAt P.own i 0)):=by show _=_;rw[hD.out,s1,s2]
   obtain⟨t1,t2⟩:=flat_next P.own i (by have:=HL.out;omega)
   rw[←HNL.out]at t1 t2
   have T1:Hid (_=_):=t1
   have T2:Hid (_=_):=t2
   clear k2 hlt s1 s2 t1 t2 hns HA hD
   go_wp2_with fail
   clear k1
   go_loopw [17] (fun c wq=>∃k:Nat,k≤l∧c=.int .i64 k∧Arr wq B (seenAt P.own i k)∧Below w.heap.size w wq∧Hid (dupF [] P.own.flatten=dupF (seenAt P.own i k) (leftAt P.own i k))) (fun c _=>l-(intOf c).toNat)
   case atStart=>exact⟨0,Nat.zero_le _,rfl,HNs.out,HB.out,HDs⟩
   case round=>
    obtain⟨k,hk,rfl,hA,hB,hD⟩:=hrel
    have HAu:Hid (Arr wr _ _):=hA
    have HBq:Hid (Below _ w wr):=hB
    clear hA hB
    by_cases hkl:k<l
    ·rcases HN.out with⟨_,h1,_,_⟩|⟨y,rfl,h1,h2,h3,h4⟩
     ·omega
     have d0:=cell_keep HBq.out (h4 k hkl)
     have hK1:(k:Int)<(l:Int):=by omega
     have HKL:=hid hkl
     have DS:Hid (_=_):=dup_step P.own i k (by have:=HNL.out;omega)
     have SS:Hid (seenAt P.own i (k+1)=seenAt P.own i k++ [(P.own.getD i []).getD k 0]):=by
      show _=_
      unfold seenAt
      rw[take_succ_getD _ 0 k (by have:=HNL.out;omega),List.append_assoc]
     have hr:0≤(P.own.getD i []).getD k 0∧(P.own.getD i []).getD k 0≤23:=by
      have ho:=getD_mem P.own [] i (by have:=HLT.out;have:=HL.out;omega)
      have hz:=getD_mem (P.own.getD i []) 0 k (by have:=HNL.out;omega)
      exact(guests_all P.own HG.out _ ho).2.2 _ hz
     clear h1 h2 h3 h4 hkl
     generalize hz:(P.own.getD i []).getD k 0=z at*
     clear hz
     generalize hS:seenAt P.own i k=S at*
     clear hS
     obtain⟨m,rfl⟩:=Int.eq_ofNat_of_zero_le hr.1
     have hm24:(m:Int)<24:=by omega
     have HM24:Hid (m<24):=by show _<_;omega
     obtain⟨e1,e2⟩:=HAu.out m HM24.out
     clear hr
     by_cases hm:(m:Int) ∈ S
     ·have HM:Hid ((m:Int) ∈ S):=hm
      rw[decide_eq_true hm]at e1
      clear hm
      go_wp2_with fail
      go_ret
      have:g2V P.own=6:=by rw[g2V,hD.out,DS.out,if_pos HM.out];rfl
      rw[this]
      exact⟨rfl,HBq.out⟩
     ·have HM:Hid (¬(m:Int) ∈ S):=hm
      rw[decide_eq_false hm]at e1
      clear hm
      go_wp2_with fail
      go_roundw
      case rel=>exact⟨k+1,by have:=HKL.out;omega,by go_num,by rw[SS.out];exact HAu.out.put m HM24.out,HBq.out.setCell (by have:=HBB.out;show _≤B;omega) _,by show _=_;rw[hD.out,DS.out,if_neg HM.out]⟩
      case measure=>have:=HKL.out;simp[intOf];omega
    ·have hK1:¬(k:Int)<(l:Int):=by omega
     have HKL:Hid (k=l):=by show _=_;omega
     clear hkl
     go_wp2_with fail
     go_roundw
     case rel=>
      have e:=HKL.out
      subst e
      refine⟨i+1,by have:=HLT.out;omega,by go_num,?_,HBq.out,?_⟩
      ·rw[←T1.out];exact HAu.out
      ·show _=_;rw[hD.out,T1.out,T2.out]
     case measure=>have:=HLT.out;simp[intOf];omega
  ·have hJ:¬(i:Int)<(n0:Int):=by omega
   have HJ:Hid (i=n0):=by show _=_;omega
   clear hlt
   go_wp2_with fail
   go_ret
   have:g2V P.own=0:=by rw[g2V,hD.out,List.drop_of_length_le (by have:=HL.out;have:=HJ.out;omega)];rfl
   rw[this]
   exact⟨rfl,HB.out⟩
theorem i_lanes(a0 a1 a2 a3:Option Addr)(n0 c0 n1 c1 n2 c2 n3 c3:Nat)(P:Plc)(w:World)(h:Pl w a0 n0 c0 a1 n1 c1 a2 n2 c2 a3 n3 c3 P):
  Calls Tryz.prog 78 #[.agg #[.slice a0 n0 c0,.slice a1 n1 c1,.slice a2 n2 c2,.slice a3 n3 c3]] w fun e w'=>e=.returned (errV (lanesV P.own [] P.lanes))∧Below w.heap.size w w':=by
 have HL0:Hid (n0=P.own.length):=h.own.len
 have HL1:Hid (n1=P.lanes.length):=h.lanes.len
 have HP1:Hid (Pl (w.alloc (.cells #[.slice a0 n0 c0,.slice a1 n1 c1,.slice a2 n2 c2,.slice a3 n3 c3] 29)) a0 n0 c0 a1 n1 c1 a2 n2 c2 a3 n3 c3 P):=h.stay (al (Below.refl _ _) _)
 have hmax:(n1:Int)≤9223372036854775807:=by have:=h.lanes.cap;unfold maxLen at this;omega
 have hc1:(n1:Int)≤(c1:Int):=by have:=h.lanes.cap;omega
 have HM0:Hid ((n0:Int)≤9223372036854775807):=by have:=h.own.cap;show _≤_;unfold maxLen at this;omega
 have HB1:Hid (Below w.heap.size w (w.alloc (.cells #[.slice a0 n0 c0,.slice a1 n1 c1,.slice a2 n2 c2,.slice a3 n3 c3] 29))):=al (Below.refl _ _) _
 have Q:Hid (((w.alloc (.cells #[.slice a0 n0 c0,.slice a1 n1 c1,.slice a2 n2 c2,.slice a3 n3 c3] 29))).cell? ⟨w.heap.size,0,none⟩=some (.slice a0 n0 c0)∧((w.alloc (.cells #[.slice a0 n0 c0,.slice a1 n1 c1,.slice a2 n2 c2,.slice a3 n3 c3] 29))).cell? ⟨w.heap.size,1,none⟩=some (.slice a1 n1 c1)∧((w.alloc (.cells #[.slice a0 n0 c0,.slice a1 n1 c1,.slice a2 n2 c2,.slice a3 n3 c3] 29))).cell? ⟨w.heap.size,2,none⟩=some (.slice a2 n2 c2)∧((w.alloc (.cells #[.slice a0 n0 c0,.slice a1 n1 c1,.slice a2 n2 c2,.slice a3 n3 c3] 29))).cell? ⟨w.heap.size,3,none⟩=some (.slice a3 n3 c3)):=⟨cell_new rfl,cell_new rfl,cell_new rfl,cell_new rfl⟩
 clear h
 go_enter Tryz.func78,Tryz.ntmps78
 go_wp2_with fail
 generalize (w.alloc (.cells #[.slice a0 n0 c0,.slice a1 n1 c1,.slice a2 n2 c2,.slice a3 n3 c3] 29))=W1 at*
 obtain⟨B0,hB0⟩:∃B0,w.heap.size=B0:=⟨_,rfl⟩
 rw[hB0]at Q ⊢
 clear hB0
 go_loopw [9] (fun c wr=>∃j:Nat,j≤n1∧c=.int .i64 j∧Below W1.heap.size W1 wr∧Hid (lanesV P.own [] P.lanes=lanesV P.own (P.lanes.take j) (P.lanes.drop j))) (fun c _=>n1-(intOf c).toNat)
 case atStart=>exact⟨0,Nat.zero_le _,rfl,Below.refl _ _,by show _=_;simp⟩
 case round=>
  obtain⟨j,hj,rfl,hB,hI⟩:=hrel
  have HB:=hid hB
  have q0:=cell_keep hB Q.out.1
  have q1:=cell_keep hB Q.out.2.1
  have q2:=cell_keep hB Q.out.2.2.1
  have q3:=cell_keep hB Q.out.2.2.2
  have bB:B0<wr.heap.size:=block_of_cell q0
  by_cases hlt:j<n1
  ·obtain⟨x,rfl,k0,k1,k2,k3,k4⟩:=(HP1.out.lanes.stay hB).at j hlt
   have hJ:(j:Int)<(n1:Int):=by omega
   have hjc:(j:Int)≤(c1:Int):=by omega
   have HLT:=hid hlt
   have ST:Hid (_=_):=lanes_step P.own P.lanes j (by have:=HL1.out;omega)
   obtain⟨L,hL⟩:∃L,P.lanes.getD j lz=L:=⟨_,rfl⟩
   rw[hL]at k0 k1 k2 k3 k4 ST
   clear hL hlt hB
   have LQ:Hid ((wr.alloc (.cells #[.int .i64 L.fr,.int .i64 L.dst,.int .i64 L.pg,.int .i64 L.af,.int .i64 L.tt] 42)).cell? ⟨wr.heap.size,0,none⟩=some (.int .i64 L.fr)∧(wr.alloc (.cells #[.int .i64 L.fr,.int .i64 L.dst,.int .i64 L.pg,.int .i64 L.af,.int .i64 L.tt] 42)).cell? ⟨wr.heap.size,1,none⟩=some (.int .i64 L.dst)∧(wr.alloc (.cells #[.int .i64 L.fr,.int .i64 L.dst,.int .i64 L.pg,.int .i64 L.af,.int .i64 L.tt] 42)).cell? ⟨wr.heap.size,2,none⟩=some (.int .i64 L.pg)∧(wr.alloc (.cells #[.int .i64 L.fr,.int .i64 L.dst,.int .i64 L.pg,.int .i64 L.af,.int .i64 L.tt] 42)).cell? ⟨wr.heap.size,3,none⟩=some (.int .i64 L.af)∧(wr.alloc (.cells #[.int .i64 L.fr,.int .i64 L.dst,.int .i64 L.pg,.int .i64 L.af,.int .i64 L.tt] 42)).cell? ⟨wr.heap.size,4,none⟩=some (.int .i64 L.tt)):=⟨cell_new rfl,cell_new rfl,cell_new rfl,cell_new rfl,cell_new rfl⟩
   by_cases he:endsV n0 L.fr L.dst≠0
   ·have RV:Hid (lanesV P.own [] P.lanes=endsV n0 L.fr L.dst):=by
     show _=_
     have e:laneV P.own (P.lanes.take j) L=endsV n0 L.fr L.dst:=by rw[laneV,←HL0.out,if_neg he]
     rw[hI.out,ST.out,e,if_neg he]
    have ev:errV (endsV n0 L.fr L.dst)=.iface 163 (.agg #[.int .i64 (endsV n0 L.fr L.dst)]):=by rw[errV,if_neg he]
    clear he
    generalize hv:endsV n0 L.fr L.dst=v at*
    go_wp2_with (go_at_call 106;refine(i_ends _ _ _ _ _ _ _ _ _ _ _ _ _ _ _ HM0.out).mono ?_;rintro e w2 ⟨rfl,b2⟩;have p0:=cell_keep b2 (cell_push _ q0);have p1:=cell_keep b2 (cell_push _ q1);have p2:=cell_keep b2 (cell_push _ q2);have p3:=cell_keep b2 (cell_push _ q3);have l0:=cell_keep b2 LQ.out.1;have l1:=cell_keep b2 LQ.out.2.1;have l2:=cell_keep b2 LQ.out.2.2.1;have l3:=cell_keep b2 LQ.out.2.2.2.1;have l4:=cell_keep b2 LQ.out.2.2.2.2;have B2:Hid (Below W1.heap.size W1 w2):=on (al HB.out _) b2;clear b2;rw[hv,ev])
    go_ret
    rw[RV.out,ev]
    exact⟨rfl,on HB1.out B2.out⟩
   have he0:endsV n0 L.fr L.dst=0:=Decidable.not_not.1 he
   have V0:Hid (laneV P.own (P.lanes.take j) L=if pgOk L.pg=false∨atOk L.af=false∨atOk L.tt=false then 3 else if 0≤ownerFrom 0 P.own L.pg then 6 else if(P.lanes.take j).any (fun o=>meetV o L)then 6 else 0):=by
    show _=_
    rw[laneV,←HL0.out,if_pos he0]
   have ev0:errV 0=.nilIface:=rfl
   clear he
   by_cases hp:pgOk L.pg=false
   ·have V1:Hid (lanesV P.own [] P.lanes=3):=by
     show _=_
     have e:laneV P.own (P.lanes.take j) L=3:=by rw[V0.out,if_pos (.inl hp)]
     rw[hI.out,ST.out,e,if_neg (by decide)]
    go_wp2_with (first
     |(go_at_call 106;refine(i_ends _ _ _ _ _ _ _ _ _ _ _ _ _ _ _ HM0.out).mono ?_;rintro e w2 ⟨rfl,b2⟩;have p0:=cell_keep b2 (cell_push _ q0);have p1:=cell_keep b2 (cell_push _ q1);have p2:=cell_keep b2 (cell_push _ q2);have p3:=cell_keep b2 (cell_push _ q3);have l0:=cell_keep b2 LQ.out.1;have l1:=cell_keep b2 LQ.out.2.1;have l2:=cell_keep b2 LQ.out.2.2.1;have l3:=cell_keep b2 LQ.out.2.2.2.1;have l4:=cell_keep b2 LQ.out.2.2.2.2;have B2:Hid (Below W1.heap.size W1 w2):=on (al HB.out _) b2;clear b2;rw[he0,ev0])
     |(go_at_call 105;refine(i_hostPage _ _).mono ?_;rintro e w2 ⟨rfl,rfl⟩;rw[hp]))
    go_ret
    rw[V1.out]
    exact⟨rfl,on HB1.out B2.out⟩
   rw[Bool.not_eq_false]at hp
   by_cases ha:atOk L.af=false
   ·have V1:Hid (lanesV P.own [] P.lanes=3):=by
     show _=_
     have e:laneV P.own (P.lanes.take j) L=3:=by rw[V0.out,if_pos (.inr (.inl ha))]
     rw[hI.out,ST.out,e,if_neg (by decide)]
    go_wp2_with (first
     |(go_at_call 106;refine(i_ends _ _ _ _ _ _ _ _ _ _ _ _ _ _ _ HM0.out).mono ?_;rintro e w2 ⟨rfl,b2⟩;have p0:=cell_keep b2 (cell_push _ q0);have p1:=cell_keep b2 (cell_push _ q1);have p2:=cell_keep b2 (cell_push _ q2);have p3:=cell_keep b2 (cell_push _ q3);have l0:=cell_keep b2 LQ.out.1;have l1:=cell_keep b2 LQ.out.2.1;have l2:=cell_keep b2 LQ.out.2.2.1;have l3:=cell_keep b2 LQ.out.2.2.2.1;have l4:=cell_keep b2 LQ.out.2.2.2.2;have B2:Hid (Below W1.heap.size W1 w2):=on (al HB.out _) b2;clear b2;rw[he0,ev0])
     |(go_at_call 105;refine(i_hostPage _ _).mono ?_;rintro e w2 ⟨rfl,rfl⟩;rw[hp])
     |(go_at_call 107;refine(i_lanePlace _ _).mono ?_;rintro e w2 ⟨rfl,rfl⟩;rw[ha]))
    go_ret
    rw[V1.out]
    exact⟨rfl,on HB1.out B2.out⟩
   rw[Bool.not_eq_false]at ha
   by_cases ht:atOk L.tt=false
   ·have V1:Hid (lanesV P.own [] P.lanes=3):=by
     show _=_
     have e:laneV P.own (P.lanes.take j) L=3:=by rw[V0.out,if_pos (.inr (.inr ht))]
     rw[hI.out,ST.out,e,if_neg (by decide)]
    go_wp2_with (first
     |(go_at_call 106;refine(i_ends _ _ _ _ _ _ _ _ _ _ _ _ _ _ _ HM0.out).mono ?_;rintro e w2 ⟨rfl,b2⟩;have p0:=cell_keep b2 (cell_push _ q0);have p1:=cell_keep b2 (cell_push _ q1);have p2:=cell_keep b2 (cell_push _ q2);have p3:=cell_keep b2 (cell_push _ q3);have l0:=cell_keep b2 LQ.out.1;have l1:=cell_keep b2 LQ.out.2.1;have l2:=cell_keep b2 LQ.out.2.2.1;have l3:=cell_keep b2 LQ.out.2.2.2.1;have l4:=cell_keep b2 LQ.out.2.2.2.2;have B2:Hid (Below W1.heap.size W1 w2):=on (al HB.out _) b2;clear b2;rw[he0,ev0])
     |(go_at_call 105;refine(i_hostPage _ _).mono ?_;rintro e w2 ⟨rfl,rfl⟩;rw[hp])
     |(go_at_call 107;refine(i_lanePlace _ _).mono ?_;rintro e w2 ⟨rfl,rfl⟩;first|rw[ha]|rw[ht]))
    go_ret
    rw[V1.out]
    exact⟨rfl,on HB1.out B2.out⟩
   rw[Bool.not_eq_false]at ht
   have V2:Hid (laneV P.own (P.lanes.take j) L=if 0≤ownerFrom 0 P.own L.pg then 6 else if(P.lanes.take j).any (fun o=>meetV o L)then 6 else 0):=by
    show _=_
    rw[V0.out,if_neg (by rw[hp,ha,ht];simp)]
   clear V0
   have OR:=owner_range P.own L.pg 0 (by omega)
   go_wp2_with (first
    |(go_at_call 106;refine(i_ends _ _ _ _ _ _ _ _ _ _ _ _ _ _ _ HM0.out).mono ?_;rintro e w2 ⟨rfl,b2⟩;have p0:=cell_keep b2 (cell_push _ q0);have p1:=cell_keep b2 (cell_push _ q1);have p2:=cell_keep b2 (cell_push _ q2);have p3:=cell_keep b2 (cell_push _ q3);have l0:=cell_keep b2 LQ.out.1;have l1:=cell_keep b2 LQ.out.2.1;have l2:=cell_keep b2 LQ.out.2.2.1;have l3:=cell_keep b2 LQ.out.2.2.2.1;have l4:=cell_keep b2 LQ.out.2.2.2.2;have B2:Hid (Below W1.heap.size W1 w2):=on (al HB.out _) b2;clear b2;rw[he0,ev0])
    |(go_at_call 105;refine(i_hostPage _ _).mono ?_;rintro e w2 ⟨rfl,rfl⟩;rw[hp])
    |(go_at_call 107;refine(i_lanePlace _ _).mono ?_;rintro e w2 ⟨rfl,rfl⟩;first|rw[ha]|rw[ht]))
   have HPw:=hid (HP1.out.stay B2.out)
   have HLp:Hid (IsLanes w2 (some x) j c1 (P.lanes.take j)):=(HPw.out.lanes).pre j (Nat.le_of_lt HLT.out)
   have HB3:=hid (on HB1.out B2.out)
   have inh:Nonempty (BW w2):=⟨⟨w2,Below.refl _ _⟩⟩
   have z0:=BW.cell p0
   have z1:=BW.cell p1
   have z2:=BW.cell p2
   have z3:=BW.cell p3
   have y0:=BW.cell l0
   have y1:=BW.cell l1
   have y2:=BW.cell l2
   have y3:=BW.cell l3
   have y4:=BW.cell l4
   by_cases ho:ownerFrom 0 P.own L.pg= -1
   ·have V3:Hid (laneV P.own (P.lanes.take j) L=if(P.lanes.take j).any (fun o=>meetV o L)then 6 else 0):=by
     show _=_
     rw[V2.out,ho,if_neg (by decide)]
    obtain⟨mb,hmb⟩:∃mb,(P.lanes.take j).any (fun o=>meetV o L)=mb:=⟨_,rfl⟩
    rw[hmb]at V3
    have CO:∀p:BW w2,Calls Tryz.prog 108 #[.agg #[.slice a0 n0 c0,.slice (some x) n1 c1,.slice a2 n2 c2,.slice a3 n3 c3],.int .i64 L.pg] p.w fun e w'=>e=.returned (.int .i64 (-1))∧Below p.w.heap.size p.w w':=fun p=>by
     have t:=i_owner _ _ _ _ _ _ _ _ _ _ _ _ P L.pg p.w (HPw.out.stay p.h)
     rw[ho]at t
     exact t
    have CM:∀p:BW w2,Calls Tryz.prog 109 #[.slice (some x) j c1,.agg #[.int .i64 L.fr,.int .i64 L.dst,.int .i64 L.pg,.int .i64 L.af,.int .i64 L.tt]] p.w fun e w'=>e=.returned (.bool mb)∧Below p.w.heap.size p.w w':=fun p=>by
     have t:=i_meets _ _ _ _ L p.w (HLp.out.stay p.h)
     rw[hmb]at t
     exact t
    clear hmb ho OR V2
    cases mb
    ·refine region_bw (by kernel_rfl) ?_
     repeat (quiet_step (first|(go_at_call 108;exact calls_bw (CO _))|(go_at_call 109;exact calls_bw (CM _))))
     refine wpQuiet_nil ?_
     rintro _⟨p9,rfl⟩
     have B9:=hid (on B2.out p9.h)
     go_wp2_with fail
     go_roundw
     case rel=>exact⟨j+1,by have:=HLT.out;omega,by go_num,B9.out,by show _=_;rw[hI.out,ST.out,V3.out];rfl⟩
     case measure=>have:=HLT.out;simp[intOf];omega
    ·refine region_bw (by kernel_rfl) ?_
     repeat (quiet_step (first|(go_at_call 108;exact calls_bw (CO _))|(go_at_call 109;exact calls_bw (CM _))))
     refine wpQuiet_nil ?_
     rintro _⟨p9,rfl⟩
     have B9:=hid (on HB3.out p9.h)
     have RV:Hid (lanesV P.own [] P.lanes=6):=by
      show _=_
      rw[hI.out,ST.out,V3.out]
      rfl
     go_wp2_with fail
     go_ret
     rw[RV.out]
     exact⟨rfl,B9.out⟩
   ·have RV:Hid (lanesV P.own [] P.lanes=6):=by
     show _=_
     have e:laneV P.own (P.lanes.take j) L=6:=by rw[V2.out,if_pos (by omega)]
     rw[hI.out,ST.out,e,if_neg (by decide)]
    have CO:∀p:BW w2,Calls Tryz.prog 108 #[.agg #[.slice a0 n0 c0,.slice (some x) n1 c1,.slice a2 n2 c2,.slice a3 n3 c3],.int .i64 L.pg] p.w fun e w'=>e=.returned (.int .i64 (ownerFrom 0 P.own L.pg))∧Below p.w.heap.size p.w w':=fun p=>i_owner _ _ _ _ _ _ _ _ _ _ _ _ P L.pg p.w (HPw.out.stay p.h)
    clear OR V2
    refine region_bw (by kernel_rfl) ?_
    repeat (quiet_step ((go_at_call 108;exact calls_bw (CO _))))
    refine wpQuiet_nil ?_
    rintro _⟨p9,rfl⟩
    have B9:=hid (on HB3.out p9.h)
    go_wp2_with fail
    go_ret
    rw[RV.out]
    exact⟨rfl,B9.out⟩
  ·have hJ:¬(j:Int)<(n1:Int):=by omega
   have HJ:Hid (j=n1):=by show _=_;omega
   clear hlt
   have RV:Hid (lanesV P.own [] P.lanes=0):=by
    show _=_
    rw[hI.out,List.drop_of_length_le (by have:=HL1.out;have:=HJ.out;omega)]
    rfl
   go_wp2_with fail
   go_ret
   rw[RV.out]
   exact⟨rfl,on HB1.out HB.out⟩
theorem i_bells(a0 a1 a2 a3:Option Addr)(n0 c0 n1 c1 n2 c2 n3 c3:Nat)(P:Plc)(w:World)(h:Pl w a0 n0 c0 a1 n1 c1 a2 n2 c2 a3 n3 c3 P):
  Calls Tryz.prog 79 #[.agg #[.slice a0 n0 c0,.slice a1 n1 c1,.slice a2 n2 c2,.slice a3 n3 c3]] w fun e w'=>e=.returned (errV (bellsV P.own.length [] P.bells))∧Below w.heap.size w w':=by
 have HL0:Hid (n0=P.own.length):=h.own.len
 have HL2:Hid (n2=P.bells.length):=h.bells.len
 have HP1:Hid (Pl (w.alloc (.cells #[.slice a0 n0 c0,.slice a1 n1 c1,.slice a2 n2 c2,.slice a3 n3 c3] 29)) a0 n0 c0 a1 n1 c1 a2 n2 c2 a3 n3 c3 P):=h.stay (al (Below.refl _ _) _)
 have hmax:(n2:Int)≤9223372036854775807:=by have:=h.bells.cap;unfold maxLen at this;omega
 have hc2:(n2:Int)≤(c2:Int):=by have:=h.bells.cap;omega
 have HM0:Hid ((n0:Int)≤9223372036854775807):=by have:=h.own.cap;show _≤_;unfold maxLen at this;omega
 have HB1:Hid (Below w.heap.size w (w.alloc (.cells #[.slice a0 n0 c0,.slice a1 n1 c1,.slice a2 n2 c2,.slice a3 n3 c3] 29))):=al (Below.refl _ _) _
 have Q:Hid (((w.alloc (.cells #[.slice a0 n0 c0,.slice a1 n1 c1,.slice a2 n2 c2,.slice a3 n3 c3] 29))).cell? ⟨w.heap.size,0,none⟩=some (.slice a0 n0 c0)∧((w.alloc (.cells #[.slice a0 n0 c0,.slice a1 n1 c1,.slice a2 n2 c2,.slice a3 n3 c3] 29))).cell? ⟨w.heap.size,1,none⟩=some (.slice a1 n1 c1)∧((w.alloc (.cells #[.slice a0 n0 c0,.slice a1 n1 c1,.slice a2 n2 c2,.slice a3 n3 c3] 29))).cell? ⟨w.heap.size,2,none⟩=some (.slice a2 n2 c2)∧((w.alloc (.cells #[.slice a0 n0 c0,.slice a1 n1 c1,.slice a2 n2 c2,.slice a3 n3 c3] 29))).cell? ⟨w.heap.size,3,none⟩=some (.slice a3 n3 c3)):=⟨cell_new rfl,cell_new rfl,cell_new rfl,cell_new rfl⟩
 clear h
 go_enter Tryz.func79,Tryz.ntmps79
 go_wp2_with fail
 generalize (w.alloc (.cells #[.slice a0 n0 c0,.slice a1 n1 c1,.slice a2 n2 c2,.slice a3 n3 c3] 29))=W1 at*
 obtain⟨B0,hB0⟩:∃B0,w.heap.size=B0:=⟨_,rfl⟩
 rw[hB0]at Q ⊢
 clear hB0
 go_loopw [9] (fun c wr=>∃j:Nat,j≤n2∧c=.int .i64 j∧Below W1.heap.size W1 wr∧Hid (bellsV P.own.length [] P.bells=bellsV P.own.length (P.bells.take j) (P.bells.drop j))) (fun c _=>n2-(intOf c).toNat)
 case atStart=>exact⟨0,Nat.zero_le _,rfl,Below.refl _ _,by show _=_;simp⟩
 case round=>
  obtain⟨j,hj,rfl,hB,hI⟩:=hrel
  have HB:=hid hB
  have q0:=cell_keep hB Q.out.1
  have q1:=cell_keep hB Q.out.2.1
  have q2:=cell_keep hB Q.out.2.2.1
  have q3:=cell_keep hB Q.out.2.2.2
  have bB:B0<wr.heap.size:=block_of_cell q0
  by_cases hlt:j<n2
  ·obtain⟨x,rfl,k0,k1⟩:=(HP1.out.bells.stay hB).at j hlt
   have hJ:(j:Int)<(n2:Int):=by omega
   have hjc:(j:Int)≤(c2:Int):=by omega
   have HLT:=hid hlt
   have ST:Hid (_=_):=bells_step P.own.length P.bells j (by have:=HL2.out;omega)
   obtain⟨⟨f,t⟩,hL⟩:∃L,P.bells.getD j (0,0)=L:=⟨_,rfl⟩
   rw[hL]at k0 k1 ST
   simp only at k0 k1
   clear hL hlt hB
   have LQ:Hid ((wr.alloc (.cells #[.int .i64 f,.int .i64 t] 148)).cell? ⟨wr.heap.size,0,none⟩=some (.int .i64 f)∧(wr.alloc (.cells #[.int .i64 f,.int .i64 t] 148)).cell? ⟨wr.heap.size,1,none⟩=some (.int .i64 t)):=⟨cell_new rfl,cell_new rfl⟩
   by_cases he:endsV n0 f t≠0
   ·have RV:Hid (bellsV P.own.length [] P.bells=endsV n0 f t):=by
     show _=_
     have e:bellV P.own.length (P.bells.take j) (f,t)=endsV n0 f t:=by rw[bellV,←HL0.out,if_neg he]
     rw[hI.out,ST.out,e,if_neg he]
    have ev:errV (endsV n0 f t)=.iface 163 (.agg #[.int .i64 (endsV n0 f t)]):=by rw[errV,if_neg he]
    clear he
    generalize hv:endsV n0 f t=v at*
    go_wp2_with (go_at_call 106;refine(i_ends _ _ _ _ _ _ _ _ _ _ _ _ _ _ _ HM0.out).mono ?_;rintro e w2 ⟨rfl,b2⟩;have p0:=cell_keep b2 (cell_push _ q0);have p1:=cell_keep b2 (cell_push _ q1);have p2:=cell_keep b2 (cell_push _ q2);have p3:=cell_keep b2 (cell_push _ q3);have l0:=cell_keep b2 LQ.out.1;have l1:=cell_keep b2 LQ.out.2;have B2:Hid (Below W1.heap.size W1 w2):=on (al HB.out _) b2;clear b2;rw[hv,ev])
    go_ret
    rw[RV.out,ev]
    exact⟨rfl,on HB1.out B2.out⟩
   have he0:endsV n0 f t=0:=Decidable.not_not.1 he
   have V0:Hid (bellV P.own.length (P.bells.take j) (f,t)=if(f,t) ∈ P.bells.take j then 6 else 0):=by
    show _=_
    rw[bellV,←HL0.out,if_pos he0]
   have ev0:errV 0=.nilIface:=rfl
   clear he
   go_wp2_with (go_at_call 106;refine(i_ends _ _ _ _ _ _ _ _ _ _ _ _ _ _ _ HM0.out).mono ?_;rintro e w2 ⟨rfl,b2⟩;have p0:=cell_keep b2 (cell_push _ q0);have p1:=cell_keep b2 (cell_push _ q1);have p2:=cell_keep b2 (cell_push _ q2);have p3:=cell_keep b2 (cell_push _ q3);have l0:=cell_keep b2 LQ.out.1;have l1:=cell_keep b2 LQ.out.2;have B2:Hid (Below W1.heap.size W1 w2):=on (al HB.out _) b2;clear b2;rw[he0,ev0])
   have HBp:=hid ((HP1.out.bells.stay B2.out).pre j (Nat.le_of_lt HLT.out))
   have HB3:=hid (on HB1.out B2.out)
   have inh:Nonempty (BW w2):=⟨⟨w2,Below.refl _ _⟩⟩
   have z0:=BW.cell p0
   have z1:=BW.cell p1
   have z2:=BW.cell p2
   have z3:=BW.cell p3
   have y0:=BW.cell l0
   have y1:=BW.cell l1
   by_cases hm:(f,t) ∈ P.bells.take j
   ·have RV:Hid (bellsV P.own.length [] P.bells=6):=by
     show _=_
     rw[hI.out,ST.out,V0.out,if_pos hm]
     rfl
    have CC:∀p:BW w2,Calls Tryz.prog 100 #[.slice (some x) j c2,.agg #[.int .i64 f,.int .i64 t]] p.w fun e w'=>e=.returned (.bool true)∧Below p.w.heap.size p.w w':=fun p=>by
     have t:=i_containsB _ _ _ f t _ p.w (HBp.out.stay p.h)
     rw[decide_eq_true hm]at t
     exact t
    clear hm
    refine region_bw (by kernel_rfl) ?_
    repeat (quiet_step ((go_at_call 100;exact calls_bw (CC _))))
    refine wpQuiet_nil ?_
    rintro _⟨p9,rfl⟩
    have B9:=hid (on HB3.out p9.h)
    go_wp2_with fail
    go_ret
    rw[RV.out]
    exact⟨rfl,B9.out⟩
   ·have V4:Hid (bellV P.own.length (P.bells.take j) (f,t)=0):=by show _=_;rw[V0.out,if_neg hm]
    have CC:∀p:BW w2,Calls Tryz.prog 100 #[.slice (some x) j c2,.agg #[.int .i64 f,.int .i64 t]] p.w fun e w'=>e=.returned (.bool false)∧Below p.w.heap.size p.w w':=fun p=>by
     have t:=i_containsB _ _ _ f t _ p.w (HBp.out.stay p.h)
     rw[decide_eq_false hm]at t
     exact t
    clear hm
    refine region_bw (by kernel_rfl) ?_
    repeat (quiet_step ((go_at_call 100;exact calls_bw (CC _))))
    refine wpQuiet_nil ?_
    rintro _⟨p9,rfl⟩
    have B9:=hid (on B2.out p9.h)
    go_wp2_with fail
    go_roundw
    case rel=>exact⟨j+1,by have:=HLT.out;omega,by go_num,B9.out,by show _=_;rw[hI.out,ST.out,V4.out];rfl⟩
    case measure=>have:=HLT.out;simp[intOf];omega
  ·have hJ:¬(j:Int)<(n2:Int):=by omega
   have HJ:Hid (j=n2):=by show _=_;omega
   clear hlt
   have RV:Hid (bellsV P.own.length [] P.bells=0):=by
    show _=_
    rw[hI.out,List.drop_of_length_le (by have:=HL2.out;have:=HJ.out;omega)]
    rfl
   go_wp2_with fail
   go_ret
   rw[RV.out]
   exact⟨rfl,on HB1.out HB.out⟩
def look(P:Plc):Nat→Int
 |0=>g1V P.own
 |1=>g2V P.own
 |2=>g3V P
 |3=>lanesV P.own [] P.lanes
 |4=>bellsV P.own.length [] P.bells
 |_=>g6V P
theorem look_first(P:Plc)(j:Nat)(hj:j<6)(h:∀i,i<j→look P i=0)(hn:look P j≠0):pfV P=look P j:=by
 unfold pfV ownsV linksV restV
 match j,hj with
 |0,_=>have e:g1V P.own≠0:=hn;simp[orV,e,look]
 |1,_=>have e:g2V P.own≠0:=hn;have h0:g1V P.own=0:=h 0 (by omega);simp[orV,e,look,h0]
 |2,_=>have e:g3V P≠0:=hn;have h0:g1V P.own=0:=h 0 (by omega);have h1:g2V P.own=0:=h 1 (by omega);simp[orV,e,look,h0,h1]
 |3,_=>have e:lanesV P.own [] P.lanes≠0:=hn;have h0:g1V P.own=0:=h 0 (by omega);have h1:g2V P.own=0:=h 1 (by omega);have h2:g3V P=0:=h 2 (by omega);simp[orV,e,look,h0,h1,h2]
 |4,_=>have e:bellsV P.own.length [] P.bells≠0:=hn;have h0:g1V P.own=0:=h 0 (by omega);have h1:g2V P.own=0:=h 1 (by omega);have h2:g3V P=0:=h 2 (by omega);have h3:lanesV P.own [] P.lanes=0:=h 3 (by omega);simp[orV,e,look,h0,h1,h2,h3]
 |5,_=>have e:g6V P≠0:=hn;have h0:g1V P.own=0:=h 0 (by omega);have h1:g2V P.own=0:=h 1 (by omega);have h2:g3V P=0:=h 2 (by omega);have h3:lanesV P.own [] P.lanes=0:=h 3 (by omega);have h4:bellsV P.own.length [] P.bells=0:=h 4 (by omega);simp[orV,look,h0,h1,h2,h3,h4]
theorem look_none(P:Plc)(h:∀i,i<6→look P i=0):pfV P=0:=by
 have h0:g1V P.own=0:=h 0 (by omega)
 have h1:g2V P.own=0:=h 1 (by omega)
 have h2:g3V P=0:=h 2 (by omega)
 have h3:lanesV P.own [] P.lanes=0:=h 3 (by omega)
 have h4:bellsV P.own.length [] P.bells=0:=h 4 (by omega)
 have h5:g6V P=0:=h 5 (by omega)
 simp[pfV,ownsV,linksV,restV,orV,h0,h1,h2,h3,h4,h5]
theorem g1_guests(own:List (List Int))(h:g1V own=0):guestsV own=0:=by
 unfold g1V at h
 split at h
 ·cases h
 ·exact h
theorem i_check(a0 a1 a2 a3:Option Addr)(n0 c0 n1 c1 n2 c2 n3 c3:Nat)(P:Plc)(w:World)(h:Pl w a0 n0 c0 a1 n1 c1 a2 n2 c2 a3 n3 c3 P):
  Calls Tryz.prog 51 #[.agg #[.slice a0 n0 c0,.slice a1 n1 c1,.slice a2 n2 c2,.slice a3 n3 c3]] w fun e w'=>e=.returned (errV (pfV P))∧Below w.heap.size w w':=by
 have HP1:Hid (Pl (w.alloc (.cells #[.slice a0 n0 c0,.slice a1 n1 c1,.slice a2 n2 c2,.slice a3 n3 c3] 29)) a0 n0 c0 a1 n1 c1 a2 n2 c2 a3 n3 c3 P):=h.stay (al (Below.refl _ _) _)
 have HB1:Hid (Below w.heap.size w (w.alloc (.cells #[.slice a0 n0 c0,.slice a1 n1 c1,.slice a2 n2 c2,.slice a3 n3 c3] 29))):=al (Below.refl _ _) _
 have Q:Hid (((w.alloc (.cells #[.slice a0 n0 c0,.slice a1 n1 c1,.slice a2 n2 c2,.slice a3 n3 c3] 29))).cell? ⟨w.heap.size,0,none⟩=some (.slice a0 n0 c0)∧((w.alloc (.cells #[.slice a0 n0 c0,.slice a1 n1 c1,.slice a2 n2 c2,.slice a3 n3 c3] 29))).cell? ⟨w.heap.size,1,none⟩=some (.slice a1 n1 c1)∧((w.alloc (.cells #[.slice a0 n0 c0,.slice a1 n1 c1,.slice a2 n2 c2,.slice a3 n3 c3] 29))).cell? ⟨w.heap.size,2,none⟩=some (.slice a2 n2 c2)∧((w.alloc (.cells #[.slice a0 n0 c0,.slice a1 n1 c1,.slice a2 n2 c2,.slice a3 n3 c3] 29))).cell? ⟨w.heap.size,3,none⟩=some (.slice a3 n3 c3)):=⟨cell_new rfl,cell_new rfl,cell_new rfl,cell_new rfl⟩
 have ev0:errV 0=.nilIface:=rfl
 clear h
 have hst:=fun(k:Nat) (a:Addr) (W:World)=>run_store Tryz.prog W a (.func (.func k) #[] #[]) .plain rfl
 go_enter Tryz.func51,Tryz.ntmps51
 go_wp2_with fail
 clear hst
 go_loopw [9] (fun c wr=>∃j:Nat,j≤6∧c=.int .i64 j∧Below ((w.alloc (.cells #[.slice a0 n0 c0,.slice a1 n1 c1,.slice a2 n2 c2,.slice a3 n3 c3] 29))).heap.size (w.alloc (.cells #[.slice a0 n0 c0,.slice a1 n1 c1,.slice a2 n2 c2,.slice a3 n3 c3] 29)) wr∧Hid (∀i,i<j→look P i=0)) (fun c _=>6-(intOf c).toNat)
 case atStart=>exact⟨0,Nat.zero_le _,rfl,al (Below.refl _ _) _,fun i hi=>absurd hi (Nat.not_lt_zero _)⟩
 case round=>
  obtain⟨j,hj,hc,hB,hI⟩:=hrel
  have HB:Hid (Below _ _ wr):=hB
  have q0:=cell_keep hB Q.out.1
  have q1:=cell_keep hB Q.out.2.1
  have q2:=cell_keep hB Q.out.2.2.1
  have q3:=cell_keep hB Q.out.2.2.2
  have HPr:=hid (HP1.out.stay hB)
  have HBw:=hid (on HB1.out hB)
  clear hB
  by_cases hlt:j<6
  ·have next:Hid (look P j=0→∀i,i<j+1→look P i=0):=fun h0 i hi=>by
    rcases Nat.lt_or_ge i j with h|h
    ·exact hI.out i h
    ·obtain rfl:i=j:=by omega
     exact h0
   have first:Hid (look P j≠0→pfV P=look P j):=look_first P j hlt hI.out
   have cs:j=0∨j=1∨j=2∨j=3∨j=4∨j=5:=by omega
   rcases cs with rfl|rfl|rfl|rfl|rfl|rfl
   ·have hc':_=Value.int .i64 0:=hc
    subst hc'
    have ix:∀W,(Instr.index 166 (.agg #[.func (.func 75) #[] #[],.func (.func 76) #[] #[],.func (.func 77) #[] #[],.func (.func 78) #[] #[],.func (.func 79) #[] #[],.func (.func 80) #[] #[]]) (.int .i64 0)).run Tryz.prog W=.ok (.func (.func 75) #[] #[]) W:=fun W=>by kernel_rfl
    by_cases hz:g1V P.own=0
    ·have NX:Hid (∀i,i<0+1→look P i=0):=next.out hz
     go_wp2_with (go_at_call 75;refine(i_guests _ _ _ _ _ _ _ _ _ _ _ _ P _ HPr.out).mono ?_;rintro e w2 ⟨rfl,b2⟩;rw[hz,ev0])
     go_roundw
     case rel=>exact⟨0+1,by omega,by first|rfl|go_num,on HB.out b2,NX⟩
     case measure=>simp[intOf]
    ·have FV:Hid (pfV P=g1V P.own):=first.out hz
     have ev:errV (g1V P.own)=.iface 163 (.agg #[.int .i64 (g1V P.own)]):=by rw[errV,if_neg hz]
     clear hz
     go_wp2_with (go_at_call 75;refine(i_guests _ _ _ _ _ _ _ _ _ _ _ _ P _ HPr.out).mono ?_;rintro e w2 ⟨rfl,b2⟩;rw[ev])
     go_ret
     rw[FV.out,ev]
     exact⟨rfl,on HBw.out b2⟩
   ·have hc':_=Value.int .i64 1:=hc
    subst hc'
    have ix:∀W,(Instr.index 166 (.agg #[.func (.func 75) #[] #[],.func (.func 76) #[] #[],.func (.func 77) #[] #[],.func (.func 78) #[] #[],.func (.func 79) #[] #[],.func (.func 80) #[] #[]]) (.int .i64 1)).run Tryz.prog W=.ok (.func (.func 76) #[] #[]) W:=fun W=>by kernel_rfl
    have GZ:Hid (guestsV P.own=0):=g1_guests _ (hI.out 0 (by omega))
    by_cases hz:g2V P.own=0
    ·have NX:Hid (∀i,i<1+1→look P i=0):=next.out hz
     go_wp2_with (go_at_call 76;refine(i_owned _ _ _ _ _ _ _ _ _ _ _ _ P _ HPr.out GZ.out).mono ?_;rintro e w2 ⟨rfl,b2⟩;rw[hz,ev0])
     go_roundw
     case rel=>exact⟨1+1,by omega,by first|rfl|go_num,on HB.out b2,NX⟩
     case measure=>simp[intOf]
    ·have FV:Hid (pfV P=g2V P.own):=first.out hz
     have ev:errV (g2V P.own)=.iface 163 (.agg #[.int .i64 (g2V P.own)]):=by rw[errV,if_neg hz]
     clear hz
     go_wp2_with (go_at_call 76;refine(i_owned _ _ _ _ _ _ _ _ _ _ _ _ P _ HPr.out GZ.out).mono ?_;rintro e w2 ⟨rfl,b2⟩;rw[ev])
     go_ret
     rw[FV.out,ev]
     exact⟨rfl,on HBw.out b2⟩
   ·have hc':_=Value.int .i64 2:=hc
    subst hc'
    have ix:∀W,(Instr.index 166 (.agg #[.func (.func 75) #[] #[],.func (.func 76) #[] #[],.func (.func 77) #[] #[],.func (.func 78) #[] #[],.func (.func 79) #[] #[],.func (.func 80) #[] #[]]) (.int .i64 2)).run Tryz.prog W=.ok (.func (.func 77) #[] #[]) W:=fun W=>by kernel_rfl
    by_cases hz:g3V P=0
    ·have NX:Hid (∀i,i<2+1→look P i=0):=next.out hz
     go_wp2_with (go_at_call 77;refine(i_links _ _ _ _ _ _ _ _ _ _ _ _ P _ HPr.out).mono ?_;rintro e w2 ⟨rfl,b2⟩;rw[hz,ev0])
     go_roundw
     case rel=>exact⟨2+1,by omega,by first|rfl|go_num,on HB.out b2,NX⟩
     case measure=>simp[intOf]
    ·have FV:Hid (pfV P=g3V P):=first.out hz
     have ev:errV (g3V P)=.iface 163 (.agg #[.int .i64 (g3V P)]):=by rw[errV,if_neg hz]
     clear hz
     go_wp2_with (go_at_call 77;refine(i_links _ _ _ _ _ _ _ _ _ _ _ _ P _ HPr.out).mono ?_;rintro e w2 ⟨rfl,b2⟩;rw[ev])
     go_ret
     rw[FV.out,ev]
     exact⟨rfl,on HBw.out b2⟩
   ·have hc':_=Value.int .i64 3:=hc
    subst hc'
    have ix:∀W,(Instr.index 166 (.agg #[.func (.func 75) #[] #[],.func (.func 76) #[] #[],.func (.func 77) #[] #[],.func (.func 78) #[] #[],.func (.func 79) #[] #[],.func (.func 80) #[] #[]]) (.int .i64 3)).run Tryz.prog W=.ok (.func (.func 78) #[] #[]) W:=fun W=>by kernel_rfl
    by_cases hz:lanesV P.own [] P.lanes=0
    ·have NX:Hid (∀i,i<3+1→look P i=0):=next.out hz
     go_wp2_with (go_at_call 78;refine(i_lanes _ _ _ _ _ _ _ _ _ _ _ _ P _ HPr.out).mono ?_;rintro e w2 ⟨rfl,b2⟩;rw[hz,ev0])
     go_roundw
     case rel=>exact⟨3+1,by omega,by first|rfl|go_num,on HB.out b2,NX⟩
     case measure=>simp[intOf]
    ·have FV:Hid (pfV P=lanesV P.own [] P.lanes):=first.out hz
     have ev:errV (lanesV P.own [] P.lanes)=.iface 163 (.agg #[.int .i64 (lanesV P.own [] P.lanes)]):=by rw[errV,if_neg hz]
     clear hz
     go_wp2_with (go_at_call 78;refine(i_lanes _ _ _ _ _ _ _ _ _ _ _ _ P _ HPr.out).mono ?_;rintro e w2 ⟨rfl,b2⟩;rw[ev])
     go_ret
     rw[FV.out,ev]
     exact⟨rfl,on HBw.out b2⟩
   ·have hc':_=Value.int .i64 4:=hc
    subst hc'
    have ix:∀W,(Instr.index 166 (.agg #[.func (.func 75) #[] #[],.func (.func 76) #[] #[],.func (.func 77) #[] #[],.func (.func 78) #[] #[],.func (.func 79) #[] #[],.func (.func 80) #[] #[]]) (.int .i64 4)).run Tryz.prog W=.ok (.func (.func 79) #[] #[]) W:=fun W=>by kernel_rfl
    by_cases hz:bellsV P.own.length [] P.bells=0
    ·have NX:Hid (∀i,i<4+1→look P i=0):=next.out hz
     go_wp2_with (go_at_call 79;refine(i_bells _ _ _ _ _ _ _ _ _ _ _ _ P _ HPr.out).mono ?_;rintro e w2 ⟨rfl,b2⟩;rw[hz,ev0])
     go_roundw
     case rel=>exact⟨4+1,by omega,by first|rfl|go_num,on HB.out b2,NX⟩
     case measure=>simp[intOf]
    ·have FV:Hid (pfV P=bellsV P.own.length [] P.bells):=first.out hz
     have ev:errV (bellsV P.own.length [] P.bells)=.iface 163 (.agg #[.int .i64 (bellsV P.own.length [] P.bells)]):=by rw[errV,if_neg hz]
     clear hz
     go_wp2_with (go_at_call 79;refine(i_bells _ _ _ _ _ _ _ _ _ _ _ _ P _ HPr.out).mono ?_;rintro e w2 ⟨rfl,b2⟩;rw[ev])
     go_ret
     rw[FV.out,ev]
     exact⟨rfl,on HBw.out b2⟩
   ·have hc':_=Value.int .i64 5:=hc
    subst hc'
    have ix:∀W,(Instr.index 166 (.agg #[.func (.func 75) #[] #[],.func (.func 76) #[] #[],.func (.func 77) #[] #[],.func (.func 78) #[] #[],.func (.func 79) #[] #[],.func (.func 80) #[] #[]]) (.int .i64 5)).run Tryz.prog W=.ok (.func (.func 80) #[] #[]) W:=fun W=>by kernel_rfl
    by_cases hz:g6V P=0
    ·have NX:Hid (∀i,i<5+1→look P i=0):=next.out hz
     go_wp2_with (go_at_call 80;refine(i_plan _ _ _ _ _ _ _ _ _ _ _ _ P _ HPr.out).mono ?_;rintro e w2 ⟨rfl,b2⟩;rw[hz,ev0])
     go_roundw
     case rel=>exact⟨5+1,by omega,by first|rfl|go_num,on HB.out b2,NX⟩
     case measure=>simp[intOf]
    ·have FV:Hid (pfV P=g6V P):=first.out hz
     have ev:errV (g6V P)=.iface 163 (.agg #[.int .i64 (g6V P)]):=by rw[errV,if_neg hz]
     clear hz
     go_wp2_with (go_at_call 80;refine(i_plan _ _ _ _ _ _ _ _ _ _ _ _ P _ HPr.out).mono ?_;rintro e w2 ⟨rfl,b2⟩;rw[ev])
     go_ret
     rw[FV.out,ev]
     exact⟨rfl,on HBw.out b2⟩
  ·obtain rfl:j=6:=by omega
   have hc':_=Value.int .i64 6:=hc
   subst hc'
   have FV:Hid (pfV P=0):=look_none P hI.out
   go_wp2_with fail
   go_ret
   rw[FV.out]
   exact⟨rfl,HBw.out⟩
theorem impl_policy(a0 a1 a2 a3:Option Addr)(n0 c0 n1 c1 n2 c2 n3 c3:Nat)(P:Plc)(w:World)(h:Pl w a0 n0 c0 a1 n1 c1 a2 n2 c2 a3 n3 c3 P)(hg:w.cell? ⟨0,0,none⟩=some (.iface 240 (.agg #[.pointer (some ⟨2,134,none⟩)]))):
  Calls Tryz.prog 23 #[.agg #[.slice a0 n0 c0,.slice a1 n1 c1,.slice a2 n2 c2,.slice a3 n3 c3]] w fun e w'=>e=.returned (.int .i64 (pfV P))∧Below w.heap.size w w':=by
 have HP1:Hid (Pl (w.alloc (.cells #[.slice a0 n0 c0,.slice a1 n1 c1,.slice a2 n2 c2,.slice a3 n3 c3] 29)) a0 n0 c0 a1 n1 c1 a2 n2 c2 a3 n3 c3 P):=h.stay (al (Below.refl _ _) _)
 have HG:Hid (_=_):=cell_push (.cells #[.slice a0 n0 c0,.slice a1 n1 c1,.slice a2 n2 c2,.slice a3 n3 c3] 29) hg
 have HB1:Hid (Below w.heap.size w (w.alloc (.cells #[.slice a0 n0 c0,.slice a1 n1 c1,.slice a2 n2 c2,.slice a3 n3 c3] 29))):=al (Below.refl _ _) _
 clear h hg
 by_cases hz:pfV P=0
 ·have ev:errV (pfV P)=.nilIface:=by rw[hz];rfl
  rw[hz]
  go_enter Tryz.func23,Tryz.ntmps23
  go_wp2_with (first
   |(go_at_call 51;refine(i_check _ _ _ _ _ _ _ _ _ _ _ _ P _ HP1.out).mono ?_;rintro e w2 ⟨rfl,b2⟩;rw[ev])
   |(go_at_call 50;refine(code_nil _).mono ?_;rintro e w3 ⟨rfl,b3⟩))
  go_ret
  exact⟨rfl,on (on HB1.out b2) b3⟩
 ·have ev:errV (pfV P)=.iface 163 (.agg #[.int .i64 (pfV P)]):=by rw[errV,if_neg hz]
  go_enter Tryz.func23,Tryz.ntmps23
  go_wp2_with (first
   |(go_at_call 51;refine(i_check _ _ _ _ _ _ _ _ _ _ _ _ P _ HP1.out).mono ?_;rintro e w2 ⟨rfl,b2⟩;rw[ev])
   |(go_at_call 50;refine(code_hit _ _ (cell_keep b2 HG.out)).mono ?_;rintro e w3 ⟨rfl,b3⟩))
  go_ret
  exact⟨rfl,on (on HB1.out b2) b3⟩
end Go.Proofs.YtignbeibcakgpaaGreatDoor
