import Derived.Test.YtignbeibcakgpaaGreatDoorQ24
namespace Go.Proofs.YtignbeibcakgpaaGreatDoor
set_option maxRecDepth 20000
set_option maxHeartbeats 16000000
open Go.RowKit Go.ChangeShapes Go.WideShapes Go.ChangeAt
set_option linter.unusedVariables false
structure Hc(w:World)(p:Addr)(r c i o:Value)(H:Ht):Prop where
 c0:w.cell? p=some r
 c1:w.cell? ⟨p.block,p.off+1,none⟩=some (.int .i64 H.pc)
 c2:w.cell? ⟨p.block,p.off+2,none⟩=some c
 c3:w.cell? ⟨p.block,p.off+3,none⟩=some (.bool H.halted)
 c4:w.cell? ⟨p.block,p.off+4,none⟩=some (.bool H.waiting)
 c5:w.cell? ⟨p.block,p.off+5,none⟩=some (.bool H.rung)
 c6:w.cell? ⟨p.block,p.off+6,none⟩=some (.int .i64 H.done)
 c7:w.cell? ⟨p.block,p.off+7,none⟩=some i
 c8:w.cell? ⟨p.block,p.off+8,none⟩=some o
theorem Hc.stay{w:World}{p:Addr}{r c i o:Value}{H:Ht}{w':World}(h:Hc w p r c i o H)(b:Below w.heap.size w w'):Hc w' p r c i o H:=
 ⟨cell_keep b h.c0,cell_keep b h.c1,cell_keep b h.c2,cell_keep b h.c3,cell_keep b h.c4,cell_keep b h.c5,cell_keep b h.c6,cell_keep b h.c7,cell_keep b h.c8⟩
structure Hst where
 pol:Plc
 mem:List Int
 harts:List Ht
 slot:Int
 left:Int
 clock:Int
open Go.RowKit
def Svr(w:World)(v:Value)(oss:List (List Int)):Prop:=
 (v=.slice none 0 0∧oss=[])∨∃g cap,v=.slice (some ⟨g,0,none⟩) oss.length cap∧oss.length≤cap∧cap≤maxLen∧∀i,i<oss.length→∃b l c,w.cell? ⟨g,i,none⟩=some (.slice b l c)∧Rv w (.slice b l c) (oss.getD i [])
theorem Svr.keep{w w':World}{v:Value}{oss:List (List Int)}(h:Svr w v oss)(b:Below w.heap.size w w'):Svr w' v oss:=by
 rcases h with h|⟨g,cap,h1,h2,h3,h4⟩
 ·exact .inl h
 ·exact .inr ⟨g,cap,h1,h2,h3,fun i hi=>by obtain⟨x,l,c,k1,k2⟩:=h4 i hi;exact⟨x,l,c,cell_keep b k1,k2.stay b⟩⟩
theorem Svr.shape{w:World}{v:Value}{oss:List (List Int)}(h:Svr w v oss):∃a cap,v=.slice a oss.length cap∧oss.length≤cap∧cap≤maxLen∧(0<oss.length→∃g,a=some ⟨g,0,none⟩):=by
 rcases h with⟨rfl,rfl⟩|⟨g,cap,h1,h2,h3,_⟩
 ·exact⟨none,0,rfl,Nat.le_refl _,by unfold maxLen;omega,fun h=>by simp at h⟩
 ·exact⟨_,cap,h1,h2,h3,fun _=>⟨g,rfl⟩⟩
theorem Svr.row{w:World}{g n cap:Nat}{oss:List (List Int)}(h:Svr w (.slice (some ⟨g,0,none⟩) n cap) oss)(i:Nat)(hi:i<oss.length):∃b l c,w.cell? ⟨g,i,none⟩=some (.slice b l c)∧Rv w (.slice b l c) (oss.getD i []):=by
 rcases h with⟨h,_⟩|⟨g',cap',h1,h2,h3,h4⟩
 ·cases h
 ·simp at h1
  obtain⟨e1,e2,e3⟩:=h1
  subst e1 e2 e3
  exact h4 i hi
def Hv(w:World)(v:Value)(hs:List Ht):Prop:=
 (v=.slice none 0 0∧hs=[])∨∃g cap,v=.slice (some ⟨g,0,none⟩) hs.length cap∧hs.length≤cap∧cap≤maxLen∧∀k,k<hs.length→∃r c i o,Hc w ⟨g,k*9,none⟩ r c i o (hs.getD k voidH)∧Hr w r c i o (hs.getD k voidH)
theorem Hv.keep{w w':World}{v:Value}{hs:List Ht}(h:Hv w v hs)(b:Below w.heap.size w w'):Hv w' v hs:=by
 rcases h with h|⟨g,cap,h1,h2,h3,h4⟩
 ·exact .inl h
 ·exact .inr ⟨g,cap,h1,h2,h3,fun k hk=>by obtain⟨r,c,i,o,k1,k2⟩:=h4 k hk;exact⟨r,c,i,o,k1.stay b,k2.stay b⟩⟩
theorem Hv.shape{w:World}{v:Value}{hs:List Ht}(h:Hv w v hs):∃a cap,v=.slice a hs.length cap∧hs.length≤cap∧cap≤maxLen∧(0<hs.length→∃g,a=some ⟨g,0,none⟩):=by
 rcases h with⟨rfl,rfl⟩|⟨g,cap,h1,h2,h3,_⟩
 ·exact⟨none,0,rfl,Nat.le_refl _,by unfold maxLen;omega,fun h=>by simp at h⟩
 ·exact⟨_,cap,h1,h2,h3,fun _=>⟨g,rfl⟩⟩
theorem Hv.at{w:World}{g n cap:Nat}{hs:List Ht}(h:Hv w (.slice (some ⟨g,0,none⟩) n cap) hs)(k:Nat)(hk:k<hs.length):∃r c i o,Hc w ⟨g,k*9,none⟩ r c i o (hs.getD k voidH)∧Hr w r c i o (hs.getD k voidH):=by
 rcases h with⟨h,_⟩|⟨g',cap',h1,h2,h3,h4⟩
 ·cases h
 ·simp at h1
  obtain⟨e1,e2,e3⟩:=h1
  subst e1 e2 e3
  exact h4 k hk
structure Hq(w:World)(b:Nat)(v0 v1 v2 v3 v4 v5:Value)(X:Hst):Prop where
 own:Svr w v0 X.pol.own
 lanes:Ls 42 w b v1 X.pol.lanes
 bells:Prs 148 w b v2 X.pol.bells
 plan:Prs 119 w b v3 X.pol.plan
 mem:Rv w v4 X.mem
 harts:Hv w v5 X.harts
theorem Hq.keep{w w':World}{b:Nat}{v0 v1 v2 v3 v4 v5:Value}{X:Hst}(h:Hq w b v0 v1 v2 v3 v4 v5 X)(B:Below w.heap.size w w'):Hq w' b v0 v1 v2 v3 v4 v5 X:=
 ⟨h.own.keep B,h.lanes.keep B,h.bells.keep B,h.plan.keep B,h.mem.stay B,h.harts.keep B⟩
def Rs(w:World)(s:Nat):Prop:=w.cell? ⟨s+1,0,none⟩=some (.int .i64 0)∧w.cell? ⟨s+1,1,none⟩=some (.int .i64 0)∧w.frozen? ⟨s+1,0,none⟩=false∧w.frozen? ⟨s+1,1,none⟩=false∧s+1<w.heap.size
theorem Rs.keep{w w':World}{s:Nat}(h:Rs w s)(b:Below w.heap.size w w'):Rs w' s:=
 ⟨cell_keep b h.1,cell_keep b h.2.1,by rw[b.frozen (p:=⟨s+1,0,none⟩) h.2.2.2.2];exact h.2.2.1,by rw[b.frozen (p:=⟨s+1,1,none⟩) h.2.2.2.2];exact h.2.2.2.1,Nat.lt_of_lt_of_le h.2.2.2.2 b.size⟩
structure Hsx where
 r:Nat×Nat
 c:Nat×Nat
 i:Nat×Nat
 o:Nat×Nat
def Hsx.all(S:Hsx):List (Nat×Nat):=[S.r,S.c,S.i,S.o]
def Av(L:List (Addr×Bool))(p:Addr):Prop:=∀x ∈ L,x.1≠p
def Ab(L:List (Addr×Bool))(g:Nat):Prop:=∀x ∈ L,x.1.block≠g
theorem Av.one{q p:Addr}{b:Bool}(h:q≠p):Av [(q,b)] p:=fun x hx=>by simp only[List.mem_singleton]at hx;subst hx;exact h
theorem Ab.one{q:Addr}{p:Nat}{b:Bool}(h:q.block≠p):Ab [(q,b)] p:=fun x hx=>by simp only[List.mem_singleton]at hx;subst hx;exact h
theorem Ab.cn{g n p:Nat}(h:0<n→g≠p):Ab (cN g n) p:=fun x hx=>by rw[cN_block hx];exact h (cN_pos hx)
theorem Ab.av{L:List (Addr×Bool)}{p:Addr}(h:Ab L p.block):Av L p:=fun x hx e=>h x hx (by rw[e])
theorem Av.cn{g n:Nat}{p:Addr}(h:0<n→g≠p.block):Av (cN g n) p:=(Ab.cn h).av
theorem Mx.more{L:List (Addr×Bool)}{k z:Int}{a w:World}{p:Addr}{v:Value}(b:Bool)(M:Mx L k a w)(hc:a.cell? p=some v)(hv:Av L p)(hz:z=k+L.length):Mx (L++ [(p,b)]) k a (w.setCell p (mkV b z)):=by
 refine M.trans ?_ (fun x hx y hy=>?_)
 ·rw[hz];exact Mx.one b (M.out _ _ hc hv)
 ·simp only[List.mem_singleton]at hy;subst hy;exact hv x hx
theorem Mx.nums{L:List (Addr×Bool)}{k z:Int}{a w w':World}{g n:Nat}(M:Mx L k a w)(m:Mx (cN g n) z w w')(hz:z=k+L.length)(hg:0<n→Ab L g):Mx (L++cN g n) k a w':=
 M.trans (by rw[←hz];exact m) fun x hx y hy e=>hg (cN_pos hy) x hx (by rw[e,cN_block hy])
def hN1(g j:Nat)(S:Hsx):List (Addr×Bool):=cN S.r.1 S.r.2++ [(⟨g,j*9+1,none⟩,false)]
def hN2(g j:Nat)(S:Hsx):List (Addr×Bool):=((((hN1 g j S++cN S.c.1 S.c.2)++ [(⟨g,j*9+3,none⟩,true)])++ [(⟨g,j*9+4,none⟩,true)])++ [(⟨g,j*9+5,none⟩,true)])++ [(⟨g,j*9+6,none⟩,false)]
def hN(g j:Nat)(S:Hsx):List (Addr×Bool):=(hN2 g j S++cN S.i.1 S.i.2)++cN S.o.1 S.o.2
def Hd(w:World)(p:Addr)(l:Nat×Nat):Prop:=∃a c,w.cell? p=some (.slice a l.2 c)∧(0<l.2→a=some ⟨l.1,0,none⟩)
theorem Hd.keep{w w':World}{p:Addr}{l:Nat×Nat}(h:Hd w p l)(b:Below w.heap.size w w'):Hd w' p l:=by
 obtain⟨a,c,k1,k2⟩:=h;exact⟨a,c,cell_keep b k1,k2⟩
end Go.Proofs.YtignbeibcakgpaaGreatDoor
