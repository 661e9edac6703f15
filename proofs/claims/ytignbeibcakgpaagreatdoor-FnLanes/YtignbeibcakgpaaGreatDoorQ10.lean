import Derived.RangeFuncWrites
import Derived.Deep.Cut
import Derived.Deep.AppendSrc
import Derived.Deep.CutRange
import Derived.Laws.AppendOwnNone
import Derived.Test.YtignbeibcakgpaaGreatDoorQ08
import Derived.Test.YtignbeibcakgpaaGreatDoorQ09
namespace Go.Proofs.YtignbeibcakgpaaGreatDoor
set_option maxRecDepth 20000
set_option maxHeartbeats 16000000
open Go.RowKit
structure Src(w:World)(b k:Nat)(a:Option Addr)(len cap:Nat)(zs:List Int):Prop where
 code:w.cell? ⟨b,0,none⟩=some (.slice a len cap)
 count:w.cell? ⟨b,1,none⟩=some (.int .i64 k)
 free:w.frozen? ⟨b,1,none⟩=false
 row:IsRow .u8 w a len cap zs
 away:∀x,a=some x→0<len→x.block<b
 here:b<w.heap.size
theorem src_block(x:Addr)(i:Nat):(x.add i).block=x.block:=by
 unfold Addr.add
 split<;>rfl
theorem add_plain(bk off i:Nat):(⟨bk,off,none⟩:Addr).add i=⟨bk,off+i,none⟩:=by
 unfold Addr.add
 split
 ·next h=>subst h;rfl
 ·rfl
theorem IsRow.turn{k:IntKind}{w w':World}{a:Option Addr}{len cap b:Nat}{zs:List Int}(h:IsRow k w a len cap zs)(t:Turn b w w')(ha:∀x,a=some x→0<len→x.block<b)(hb:b≤w.heap.size):IsRow k w' a len cap zs:=by
 rcases h with h|⟨x,rfl,h1,h2,h3,h4,h5⟩
 ·exact .inl h
 ·refine .inr ⟨x,rfl,h1,h2,h3,fun i hi=>?_,h5⟩
  have hx:=ha x rfl (by omega)
  rw[t.cell (p:=x.add i) (by rw[src_block];omega) (by rw[src_block];omega)]
  exact h4 i hi
theorem IsRow.block{k:IntKind}{w:World}{a:Option Addr}{len cap:Nat}{zs:List Int}(h:IsRow k w a len cap zs):∀x,a=some x→0<len→x.block<w.heap.size:=by
 intro x hx hc
 rcases h with⟨h,_⟩|⟨y,rfl,h1,h2,h3,h4,h5⟩
 ·rw[h]at hx;cases hx
 ·have e:y=x:=by simpa using hx
  subst e
  have hcell:=h4 0 (by omega)
  have hb:(y.add 0).block=y.block:=src_block y 0
  rw[←hb]
  apply Classical.byContradiction
  intro hn
  have hz:w.heap[(y.add 0).block]? =none:=by simp;omega
  simp[World.cell?,hz]at hcell
theorem IsRow.below{k:IntKind}{w w':World}{a:Option Addr}{len cap:Nat}{zs:List Int}(h:IsRow k w a len cap zs)(b:Below w.heap.size w w'):IsRow k w' a len cap zs:=
 h.turn (Turn.of_below (b:=w.heap.size) b) h.block (Nat.le_refl _)
theorem Src.step{w:World}{b k:Nat}{a:Option Addr}{len cap:Nat}{zs:List Int}(s:Src w b k a len cap zs)(nq:Nat):
  Src ((w.setCell ⟨b,1,none⟩ (.int .i64 (k+1))).drewN nq) b (k+1) a len cap zs:=by
 refine⟨?_,?_,?_,s.row.turn (Turn.set b 1 w _ nq) s.away (Nat.le_of_lt s.here),s.away,?_⟩
 ·rw[World.cell?_drewN]
  have h:=s.code
  simp[go_sem,h]
 ·rw[World.cell?_drewN,World.cell?_setCell_same _ _ _ s.count]
  simp
 ·show((w.setCell ⟨b,1,none⟩ _)).frozen? _=false
  rw[World.frozen?_setCell]
  exact s.free
 ·show b<(w.setCell ⟨b,1,none⟩ _).heap.size
  simpa [World.setCell]using s.here
theorem Src.turn{w w':World}{b k c:Nat}{a:Option Addr}{len cap:Nat}{zs:List Int}(s:Src w b k a len cap zs)(t:Turn c w w')(hc:w.heap.size≤c):Src w' b k a len cap zs:=by
 have h:=s.here
 refine⟨?_,?_,?_,?_,s.away,Nat.lt_of_lt_of_le h t.size⟩
 ·rw[t.cell (p:=⟨b,0,none⟩) h (by show b≠c;omega)];exact s.code
 ·rw[t.cell (p:=⟨b,1,none⟩) h (by show b≠c;omega)];exact s.count
 ·rw[t.frozen (p:=⟨b,1,none⟩) h (by show b≠c;omega)];exact s.free
 ·rcases s.row with h|⟨x,rfl,h1,h2,h3,h4,h5⟩
  ·exact .inl h
  ·refine .inr ⟨x,rfl,h1,h2,h3,fun i hi=>?_,h5⟩
   have hx:=s.away x rfl (by omega)
   rw[t.cell (p:=x.add i) (by rw[src_block];omega) (by rw[src_block];omega)]
   exact h4 i hi
theorem Src.alloc{w:World}{b k:Nat}{a:Option Addr}{len cap:Nat}{zs:List Int}(s:Src w b k a len cap zs)(o:Obj):Src (w.alloc o) b k a len cap zs:=
 s.turn (Turn.alloc w.heap.size w o) (Nat.le_refl _)
theorem next_any{w:World}{b k:Nat}{a:Option Addr}{len cap:Nat}{zs:List Int}(s:Src w b k a len cap zs)(hk:k≤100000)(n:Int):
  Calls Tryz.prog 36 #[.pointer (some ⟨b,0,none⟩),.int .i64 n] w fun e w'=>∃v:Int,e=.returned (.int .i64 v)∧(1≤n→0≤v∧v<n)∧(n<1→v=0)∧Turn b w w'∧Src w' b (k+1) a len cap zs:=by
 by_cases hn:n<1
 ·refine(next_none b k n w hk hn s.count s.free).mono ?_
  rintro e w'⟨v,rfl,hv,nq,rfl⟩
  exact⟨v,rfl,fun h=>by omega,fun _=>hv,Turn.set _ _ _ _ _,s.step nq⟩
 have hn1:1≤n:=by omega
 by_cases hl:len=0
 ·subst hl
  refine(next_nil b a cap k n w hk hn1 s.code s.count s.free).mono ?_
  rintro e w'⟨v,rfl,hv,nq,rfl⟩
  exact⟨v,rfl,fun _=>hv,fun h=>by omega,Turn.set _ _ _ _ _,s.step nq⟩
 rcases s.row with⟨_,h,_⟩|⟨x,rfl,h1,h2,h3,h4,h5⟩
 ·exact absurd h hl
 obtain⟨bx,off,spot⟩:=x
 have hspot:spot=none:=by simpa [Addr.add]using World.cell?_spot (h4 0 (by omega))
 subst hspot
 have hz:∀i:Nat,0≤zs[i]?.getD 0∧zs[i]?.getD 0≤255:=range_u8 h5
 refine(next_row b bx off len cap k n w zs hk hn1 (by omega) (by omega) (s.away _ rfl (by omega)) s.code s.count s.free (fun i hi=>?_) hz).mono ?_
 ·rw[←add_plain];exact h4 i (by omega)
 rintro e w'⟨v,rfl,hv,nq,rfl⟩
 exact⟨v,rfl,fun _=>hv,fun h=>by omega,Turn.set _ _ _ _ _,s.step nq⟩
theorem pick_any{w:World}{b k:Nat}{a:Option Addr}{len cap:Nat}{zs:List Int}(s:Src w b k a len cap zs)(hk:k≤100000)
  (P:Int→Prop) (bl m:Nat) (hm:0<m) (hm2:m≤1000) (hbl:bl<w.heap.size) (hne:bl≠b)
  (hc:∀i,i<m→∃v:Int,w.cell? ⟨bl,i,none⟩=some (.int .i64 v)∧P v):
  Calls Tryz.prog 60 #[.pointer (some ⟨b,0,none⟩),.slice (some ⟨bl,0,none⟩) m m] w fun e w'=>∃v:Int,e=.returned (.int .i64 v)∧P v∧Turn b w w'∧Src w' b (k+1) a len cap zs:=by
 have HC:=hid hc
 clear hc
 go_enter Tryz.func60,Tryz.ntmps60
 go_wp2_with fail
 refine(next_any s hk _).mono ?_
 rintro e w'⟨v,rfl,hv, -,ht,hs⟩
 obtain⟨hv0,hv1⟩:=hv (by omega)
 clear hv
 obtain⟨i,rfl⟩:=Int.eq_ofNat_of_zero_le hv0
 have hi:i<m:=by omega
 obtain⟨v,hcv,hp⟩:=HC.out i hi
 have hcw:w'.cell? ⟨bl,i,none⟩=some (.int .i64 v):=by rw[ht.cell (p:=⟨bl,i,none⟩) hbl hne];exact hcv
 clear hcv
 go_wp2
 go_ret
 exact⟨v,rfl,hp,ht,hs⟩
set_option linter.unusedVariables false
theorem wpIn_rangeRun{n:Nat}{P:Program}{g:Operand}{p:Tmp}(r:Tmp){assign body:Code}{Q:Exit→Act→World→Prop}{a:Act}{w:World}(h1:1≤n){gf:Nat}{lb:Array Value}(hg:a.eval g=.func (.func gf) #[] lb)(eg:∀args w,(callFunc gf args).run P w=.ok (.enter gf args) w)(x:Value)(J:Nat→World→Prop)(E:World→Prop)
  (hJa:∀o W,o.isCells=false→w.heap.size≤W.heap.size→J 0 W→J 0 (W.alloc o))
  (hJp:∀k W l o o',w.heap.size≤l→W.heap[l]? =some o→o.isCells=false→J k W→J k (W.putObj l o'))
  (hEp:∀W l o o',w.heap.size≤l→W.heap[l]? =some o→o.isCells=false→E W→E (W.putObj l o'))
  (hseq:∀(l:Nat) (Y:World→Prop) (W:World),(∀A B,KeepsOthers A B→Y A→Y B)→
   (∀k W1,J k W1→Y W1→YieldAt Fence.wide (n-1-1) P l #[x] W1 fun e W'=>e=.returned (.bool true)∧J k W'∧Y W')→
   J 0 W→Y W→CallsIn Fence.wide (n-1) P gf (#[.func (.yield l) #[] #[]]++lb) W fun e W'=>(∃v,e=.returned v)∧E W'∧Y W')
  (h0:J 0 w) (a₁:Act) (ha₁:a₁={ tmps:=((#[p].zip #[x]).foldl (fun t (p,v)=>t.setIfInBounds p v) a.tmps).setIfInBounds r x,defers:=[]})
  (hassign:∀(l:Nat) (W:World) (K:Act→World→Prop),K a₁ W→
   assign.wpIn (Fence.wide.inRound l) (n-1-1) P (Exit.then K (fun _ _ _=>False)) { tmps:=(#[p].zip #[x]).foldl (fun t (p,v)=>t.setIfInBounds p v) a.tmps,defers:=[]} W)
  (hbody:∀(l:Nat) (W:World),body.wpIn (Fence.wide.inRound l) (n-1-1) P (fun e _ W'=>e=.normal∧W'=W) a₁ W)
  (hdone:∀(D:Nat) (W:World),w.heap.size≤D→E W→W.heap[D]? =some (.deferred (some []))→Q .normal { a with defers:={ target:=.collected D,args:=#[]}::a.defers} W):
  (Code.rangeFunc g #[p] assign body).wpIn Fence.wide n P Q a w:=by
 refine wpIn_rangeFunc ?_
 intro fn hfn
 obtain⟨rec,hrec⟩:∃rec:LoopState→Option Code→Loop,rec=fun st pe=>{ state:=st,pending:=pe,fn,tmps:=a.tmps,params:=#[p],assign,body,defers:=w.heap.size}:=⟨_,rfl⟩
 obtain⟨W1,hW1⟩:∃W1,(w.alloc (.deferred (some []))).alloc (.loop (rec .ready none))=W1:=⟨_,rfl⟩
 have hL1:W1.heap[w.heap.size+1]? =some (.loop (rec .ready none)):=by
  rw[←hW1];have:=World.alloc_heap_new (w.alloc (.deferred (some []))) (.loop (rec .ready none));rwa[World.size_alloc]at this
 have hK1:W1.heap[w.heap.size]? =some (.deferred (some [])):=by
  rw[←hW1];exact(Below.heap_alloc _ _ _ (by simp)).trans (World.alloc_heap_new w _)
 have hI1:J 0 W1:=by rw[←hW1];exact hJa _ _ rfl (by simp) (hJa _ _ rfl (Nat.le_refl _) h0)
 refine⟨w.heap.size+1,[{ target:=.collected w.heap.size,args:=#[]}],W1,{ target:=.fn (.func gf) lb,args:=#[.func (.yield (w.heap.size+1)) #[] #[]]},W1,gf,
  #[.func (.yield (w.heap.size+1)) #[] #[]]++lb,W1,?_,?_,?_,?_,fun _=>h1,?_⟩
 ·rw[←hW1,hrec];exact run_enterLoop_outer _ _ _ _ _
 ·simp only[resolve,hg]
  simp[go_sem]
 ·intro f' hf';exact trivial
 ·simp[invoke,go_sem,eg]
 ·refine(hseq (w.heap.size+1) (fun W=>W.heap[w.heap.size+1]? =some (.loop (rec .ready none))∧W.heap[w.heap.size]? =some (.deferred (some []))) W1
   (fun A B k y=>⟨k.same _ _ y.1 rfl,k.same _ _ y.2 rfl⟩) ?_ hI1 ⟨hL1,hK1⟩).mono ?_
  ·rintro k W hi⟨hl,hk⟩
   have hlt:w.heap.size+1<W.heap.size:=(Array.getElem?_eq_some_iff.1 hl).1
   have hy:=run_yield (P:=P) (args:=#[x]) hl (by rw[hrec];rfl)
   rw[hrec]at hy
   refine⟨fn,_,assign,body,hy,roundIn_of_wpIn hfn (hassign _ W _ ⟨_,run_beginRound hl (by rw[hrec]),?_⟩)⟩
   have hl2:(W.putObj (w.heap.size+1) (.loop { rec .ready none with state:=.busy})).heap[w.heap.size+1]? =some (.loop { rec .ready none with state:=.busy}):=World.putObj_heap_same hlt
   have hk2:(W.putObj (w.heap.size+1) (.loop { rec .ready none with state:=.busy})).heap[w.heap.size]? =some (.deferred (some [])):=(World.putObj_heap_other (by omega)).trans hk
   refine wpIn_mono (hbody _ _) ?_
   rintro e a3 W3⟨rfl,rfl⟩
   have:=run_endRound (P:=P) none hl2
   refine⟨_,_,this,rfl,?_,?_,?_⟩
   ·exact hJp _ _ _ _ _ (by omega) hl2 rfl (hJp _ _ _ _ _ (by omega) hl rfl hi)
   ·have hlt2:=(Array.getElem?_eq_some_iff.1 hl2).1
    rw[hrec]at hlt2 ⊢
    exact World.putObj_heap_same hlt2
   ·exact(World.putObj_heap_other (by omega)).trans hk2
  ·rintro e W2⟨⟨v,rfl⟩,hi,hl,hk⟩
   exact⟨none,_,by have:=run_endLoop (P:=P) hl (by rw[hrec];simp);rw[hrec]at this;exact this,hdone _ _ (Nat.le_refl _) (hEp _ _ _ _ (by omega) hl rfl hi) ((World.putObj_heap_other (by omega)).trans hk)⟩
theorem source_any{w:World}{a:Option Addr}{len cap:Nat}{zs:List Int}(hr:IsRow .u8 w a len cap zs):
  Calls Tryz.prog 34 #[.slice a len cap] w fun e w'=>e=.returned (.pointer (some ⟨w.heap.size,0,none⟩))∧Below w.heap.size w w'∧Src w' w.heap.size 0 a len cap zs:=by
 have HR:=hid hr
 clear hr
 go_enter Tryz.func34,Tryz.ntmps34
 go_wp2
 go_ret
 refine⟨rfl,(Below.refl _ _).alloc (Nat.le_refl _) _,cell_new rfl,cell_new rfl,?_,HR.out.turn (Turn.alloc w.heap.size w _) HR.out.block (Nat.le_refl _),HR.out.block,by simp⟩
 simp[go_sem]
def isWord(v:Int):Prop:=0≤v∧v≤4294967295
theorem word_any{w:World}{b k:Nat}{a:Option Addr}{len cap:Nat}{zs:List Int}(s:Src w b k a len cap zs)(hk:k≤90000):
  Calls Tryz.prog 90 #[.pointer (some ⟨b,0,none⟩)] w fun e w'=>∃v:Int,e=.returned (.int .i64 v)∧isWord v∧Turn b w w'∧Src w' b (k+5) a len cap zs:=by
 go_enter Tryz.func90,Tryz.ntmps90
 go_wp2_with fail
 refine(next_any s (by omega) _).mono ?_
 rintro e w1⟨v1,rfl,h1, -,t1,s1⟩
 obtain⟨l1,u1⟩:=h1 (by omega)
 clear h1
 go_wp2_with fail
 refine(next_any s1 (by omega) _).mono ?_
 rintro e w2⟨v2,rfl,h2, -,t2,s2⟩
 obtain⟨l2,u2⟩:=h2 (by omega)
 clear h2
 go_wp2_with fail
 refine(next_any s2 (by omega) _).mono ?_
 rintro e w3⟨v3,rfl,h3, -,t3,s3⟩
 obtain⟨l3,u3⟩:=h3 (by omega)
 clear h3
 go_wp2_with fail
 refine(next_any s3 (by omega) _).mono ?_
 rintro e w4⟨v4,rfl,h4, -,t4,s4⟩
 obtain⟨l4,u4⟩:=h4 (by omega)
 clear h4
 go_wp2_with fail
 have hb:=s4.here
 refine(pick_any (s4.alloc _) (by omega) isWord _ 7 (by omega) (by omega) (by simp) (by omega) ?_).mono ?_
 ·intro i hi
  have:i=0∨i=1∨i=2∨i=3∨i=4∨i=5∨i=6:=by omega
  rcases this with rfl|rfl|rfl|rfl|rfl|rfl|rfl
  all_goals exact⟨_,cell_new rfl,by unfold isWord;omega⟩
 rintro e w5⟨v,rfl,hv,t5,s5⟩
 go_wp2
 go_ret
 exact⟨v,rfl,hv,(((t1.trans t2).trans t3).trans t4).trans ((Turn.alloc b w4 _).trans t5),s5⟩
theorem chance_any{w:World}{b k:Nat}{a:Option Addr}{len cap:Nat}{zs:List Int}(s:Src w b k a len cap zs)(hk:k≤100000)(n:Int):
  Calls Tryz.prog 89 #[.pointer (some ⟨b,0,none⟩),.int .i64 n] w fun e w'=>∃v:Bool,e=.returned (.bool v)∧Turn b w w'∧Src w' b (k+1) a len cap zs:=by
 go_enter Tryz.func89,Tryz.ntmps89
 go_wp2_with fail
 refine(next_any s (by omega) _).mono ?_
 rintro e w1⟨v1,rfl, -, -,t1,s1⟩
 go_wp2
 go_ret
 exact⟨_,rfl,t1,s1⟩
def fnA:Array Value:=#[.nilFunc,.func (.func 117) #[] #[],.func (.func 141) #[] #[],.func (.func 142) #[] #[],.func (.func 143) #[] #[],.func (.func 144) #[] #[],.func (.func 145) #[] #[],.func (.func 147) #[] #[],.func (.func 148) #[] #[],.func (.func 149) #[] #[],.func (.func 151) #[] #[],.func (.func 152) #[] #[]]
theorem fn_lit:(#[.nilFunc,.func (.func 117) #[] #[],.func (.func 141) #[] #[],.func (.func 142) #[] #[],.func (.func 143) #[] #[],.func (.func 144) #[] #[],.func (.func 145) #[] #[],.func (.func 147) #[] #[],.func (.func 148) #[] #[],.func (.func 149) #[] #[],.func (.func 151) #[] #[],.func (.func 152) #[] #[]]:Array Value)=fnA:=rfl
theorem fn_size:fnA.size=12:=rfl
theorem fn_store(w:World):(storeCells ⟨w.heap.size+1,0,none⟩ fnA.toList 0).run Tryz.prog ((w.alloc (.cells #[.int .i64 0,.int .i64 0] 116)).alloc (.cells #[.nilFunc,.nilFunc,.nilFunc,.nilFunc,.nilFunc,.nilFunc,.nilFunc,.nilFunc,.nilFunc,.nilFunc,.nilFunc,.nilFunc] 260))
  =.ok () ((w.alloc (.cells #[.int .i64 0,.int .i64 0] 116)).alloc (.cells fnA 260)):=by
 have:=run_storeCells_new (P:=Tryz.prog) (w.alloc (.cells #[.int .i64 0,.int .i64 0] 116)) 260 #[.nilFunc,.nilFunc,.nilFunc,.nilFunc,.nilFunc,.nilFunc,.nilFunc,.nilFunc,.nilFunc,.nilFunc,.nilFunc,.nilFunc] fnA (by kernel_rfl) (by decide) (by kernel_rfl)
 rw[World.size_alloc]at this
 exact this
theorem impl_alu1(a b:Int)(w:World):Calls Tryz.prog 119 #[.int .i64 1,.int .i64 a,.int .i64 b] w fun e w'=>e=.returned (.agg #[.int .i64 0,.int .i64 (addV a b)])∧Below w.heap.size w w':=by
 generalize hv:(addV a b:Int)=v
 have hcl:=fun w=>impl_add a b w
 rw[hv]at hcl
 clear hv
 have hs:=fn_store w
 have hq:=fn_size
 have hk:fnA[1]'(by rw[fn_size];omega)=.func (.func 117) #[] #[]:=rfl
 go_enter Tryz.func119,Tryz.ntmps119
 go_upto_region 3 with fail
 go_step
 go_step
 go_step
 rw[fn_lit]
 go_wp2_with (go_at_call 117;refine(hcl _).mono ?_;rintro e w1 ⟨rfl,rfl⟩)
 exact bodyPost_ret (v:=.agg #[.int .i64 0,.int .i64 v]) (by simp[results,Tryz.results119,go_sem]) rfl ⟨rfl,al (al (Below.refl _ _) _) _⟩
theorem impl_alu2(a b:Int)(w:World):Calls Tryz.prog 119 #[.int .i64 2,.int .i64 a,.int .i64 b] w fun e w'=>e=.returned (.agg #[.int .i64 0,.int .i64 ((a-b)%4294967296)])∧Below w.heap.size w w':=by
 generalize hv:((a-b)%4294967296:Int)=v
 have hcl:=fun w=>impl_sub a b w
 rw[hv]at hcl
 clear hv
 have hs:=fn_store w
 have hq:=fn_size
 have hk:fnA[2]'(by rw[fn_size];omega)=.func (.func 141) #[] #[]:=rfl
 go_enter Tryz.func119,Tryz.ntmps119
 go_upto_region 3 with fail
 go_step
 go_step
 go_step
 rw[fn_lit]
 go_wp2_with (go_at_call 141;refine(hcl _).mono ?_;rintro e w1 ⟨rfl,rfl⟩)
 exact bodyPost_ret (v:=.agg #[.int .i64 0,.int .i64 v]) (by simp[results,Tryz.results119,go_sem]) rfl ⟨rfl,al (al (Below.refl _ _) _) _⟩
theorem impl_alu3(a b:Int)(w:World):Calls Tryz.prog 119 #[.int .i64 3,.int .i64 a,.int .i64 b] w fun e w'=>e=.returned (.agg #[.int .i64 0,.int .i64 (mulV a b)])∧Below w.heap.size w w':=by
 generalize hv:(mulV a b:Int)=v
 have hcl:=fun w=>impl_mul a b w
 rw[hv]at hcl
 clear hv
 have hs:=fn_store w
 have hq:=fn_size
 have hk:fnA[3]'(by rw[fn_size];omega)=.func (.func 142) #[] #[]:=rfl
 go_enter Tryz.func119,Tryz.ntmps119
 go_upto_region 3 with fail
 go_step
 go_step
 go_step
 rw[fn_lit]
 go_wp2_with (go_at_call 142;refine(hcl _).mono ?_;rintro e w1 ⟨rfl,rfl⟩)
 exact bodyPost_ret (v:=.agg #[.int .i64 0,.int .i64 v]) (by simp[results,Tryz.results119,go_sem]) rfl ⟨rfl,al (al (Below.refl _ _) _) _⟩
theorem impl_alu4(a b:Int)(w:World):Calls Tryz.prog 119 #[.int .i64 4,.int .i64 a,.int .i64 b] w fun e w'=>e=.returned (.agg #[.int .i64 0,.int .i64 (divV a b)])∧Below w.heap.size w w':=by
 generalize hv:(divV a b:Int)=v
 have hcl:=fun w=>impl_div a b w
 rw[hv]at hcl
 clear hv
 have hs:=fn_store w
 have hq:=fn_size
 have hk:fnA[4]'(by rw[fn_size];omega)=.func (.func 143) #[] #[]:=rfl
 go_enter Tryz.func119,Tryz.ntmps119
 go_upto_region 3 with fail
 go_step
 go_step
 go_step
 rw[fn_lit]
 go_wp2_with (go_at_call 143;refine(hcl _).mono ?_;rintro e w1 ⟨rfl,rfl⟩)
 exact bodyPost_ret (v:=.agg #[.int .i64 0,.int .i64 v]) (by simp[results,Tryz.results119,go_sem]) rfl ⟨rfl,al (al (Below.refl _ _) _) _⟩
theorem impl_alu5(a b:Int)(w:World):Calls Tryz.prog 119 #[.int .i64 5,.int .i64 a,.int .i64 b] w fun e w'=>e=.returned (.agg #[.int .i64 0,.int .i64 (remV a b)])∧Below w.heap.size w w':=by
 generalize hv:(remV a b:Int)=v
 have hcl:=fun w=>impl_rem a b w
 rw[hv]at hcl
 clear hv
 have hs:=fn_store w
 have hq:=fn_size
 have hk:fnA[5]'(by rw[fn_size];omega)=.func (.func 144) #[] #[]:=rfl
 go_enter Tryz.func119,Tryz.ntmps119
 go_upto_region 3 with fail
 go_step
 go_step
 go_step
 rw[fn_lit]
 go_wp2_with (go_at_call 144;refine(hcl _).mono ?_;rintro e w1 ⟨rfl,rfl⟩)
 exact bodyPost_ret (v:=.agg #[.int .i64 0,.int .i64 v]) (by simp[results,Tryz.results119,go_sem]) rfl ⟨rfl,al (al (Below.refl _ _) _) _⟩
theorem impl_alu6(a b:Int)(w:World):Calls Tryz.prog 119 #[.int .i64 6,.int .i64 a,.int .i64 b] w fun e w'=>e=.returned (.agg #[.int .i64 0,.int .i64 (bitV 1 a b)])∧Below w.heap.size w w':=by
 generalize hv:(bitV 1 a b:Int)=v
 have hcl:=fun w=>impl_clos1 a b w
 rw[hv]at hcl
 clear hv
 have hs:=fn_store w
 have hq:=fn_size
 have hk:fnA[6]'(by rw[fn_size];omega)=.func (.func 145) #[] #[]:=rfl
 go_enter Tryz.func119,Tryz.ntmps119
 go_upto_region 3 with fail
 go_step
 go_step
 go_step
 rw[fn_lit]
 go_wp2_with (go_at_call 145;refine(hcl _).mono ?_;rintro e w1 ⟨rfl,hb⟩;obtain⟨hc,hz⟩:=bcell hb)
 have k0:=cell_keep hb (cell_push _ (cell_new (i:=0) rfl))
 have k1:=cell_keep hb (cell_push _ (cell_new (i:=1) rfl))
 clear hc hz
 exact bodyPost_ret (v:=.agg #[.int .i64 0,.int .i64 v]) (by simp[results,Tryz.results119,go_sem,k0,k1]) rfl ⟨rfl,((on (al (al (Below.refl _ _) _) _) hb).setCell (by simp) _).setCell (by simp) _⟩
theorem impl_alu7(a b:Int)(w:World):Calls Tryz.prog 119 #[.int .i64 7,.int .i64 a,.int .i64 b] w fun e w'=>e=.returned (.agg #[.int .i64 0,.int .i64 (bitV 2 a b)])∧Below w.heap.size w w':=by
 generalize hv:(bitV 2 a b:Int)=v
 have hcl:=fun w=>impl_clos2 a b w
 rw[hv]at hcl
 clear hv
 have hs:=fn_store w
 have hq:=fn_size
 have hk:fnA[7]'(by rw[fn_size];omega)=.func (.func 147) #[] #[]:=rfl
 go_enter Tryz.func119,Tryz.ntmps119
 go_upto_region 3 with fail
 go_step
 go_step
 go_step
 rw[fn_lit]
 go_wp2_with (go_at_call 147;refine(hcl _).mono ?_;rintro e w1 ⟨rfl,hb⟩;obtain⟨hc,hz⟩:=bcell hb)
 have k0:=cell_keep hb (cell_push _ (cell_new (i:=0) rfl))
 have k1:=cell_keep hb (cell_push _ (cell_new (i:=1) rfl))
 clear hc hz
 exact bodyPost_ret (v:=.agg #[.int .i64 0,.int .i64 v]) (by simp[results,Tryz.results119,go_sem,k0,k1]) rfl ⟨rfl,((on (al (al (Below.refl _ _) _) _) hb).setCell (by simp) _).setCell (by simp) _⟩
theorem impl_alu8(a b:Int)(w:World):Calls Tryz.prog 119 #[.int .i64 8,.int .i64 a,.int .i64 b] w fun e w'=>e=.returned (.agg #[.int .i64 0,.int .i64 (bitV 3 a b)])∧Below w.heap.size w w':=by
 generalize hv:(bitV 3 a b:Int)=v
 have hcl:=fun w=>impl_clos3 a b w
 rw[hv]at hcl
 clear hv
 have hs:=fn_store w
 have hq:=fn_size
 have hk:fnA[8]'(by rw[fn_size];omega)=.func (.func 148) #[] #[]:=rfl
 go_enter Tryz.func119,Tryz.ntmps119
 go_upto_region 3 with fail
 go_step
 go_step
 go_step
 rw[fn_lit]
 go_wp2_with (go_at_call 148;refine(hcl _).mono ?_;rintro e w1 ⟨rfl,hb⟩;obtain⟨hc,hz⟩:=bcell hb)
 have k0:=cell_keep hb (cell_push _ (cell_new (i:=0) rfl))
 have k1:=cell_keep hb (cell_push _ (cell_new (i:=1) rfl))
 clear hc hz
 exact bodyPost_ret (v:=.agg #[.int .i64 0,.int .i64 v]) (by simp[results,Tryz.results119,go_sem,k0,k1]) rfl ⟨rfl,((on (al (al (Below.refl _ _) _) _) hb).setCell (by simp) _).setCell (by simp) _⟩
theorem impl_alu9(a b:Int)(w:World):Calls Tryz.prog 119 #[.int .i64 9,.int .i64 a,.int .i64 b] w fun e w'=>e=.returned (.agg #[.int .i64 0,.int .i64 (shlV a b)])∧Below w.heap.size w w':=by
 generalize hv:(shlV a b:Int)=v
 have hcl:=fun w=>impl_clos4 a b w
 rw[hv]at hcl
 clear hv
 have hs:=fn_store w
 have hq:=fn_size
 have hk:fnA[9]'(by rw[fn_size];omega)=.func (.func 149) #[] #[]:=rfl
 go_enter Tryz.func119,Tryz.ntmps119
 go_upto_region 3 with fail
 go_step
 go_step
 go_step
 rw[fn_lit]
 go_wp2_with (go_at_call 149;refine(hcl _).mono ?_;rintro e w1 ⟨rfl,rfl⟩)
 exact bodyPost_ret (v:=.agg #[.int .i64 0,.int .i64 v]) (by simp[results,Tryz.results119,go_sem]) rfl ⟨rfl,al (al (Below.refl _ _) _) _⟩
theorem impl_alu10(a b:Int)(w:World):Calls Tryz.prog 119 #[.int .i64 10,.int .i64 a,.int .i64 b] w fun e w'=>e=.returned (.agg #[.int .i64 0,.int .i64 (shrV a b)])∧Below w.heap.size w w':=by
 generalize hv:(shrV a b:Int)=v
 have hcl:=fun w=>impl_clos5 a b w
 rw[hv]at hcl
 clear hv
 have hs:=fn_store w
 have hq:=fn_size
 have hk:fnA[10]'(by rw[fn_size];omega)=.func (.func 151) #[] #[]:=rfl
 go_enter Tryz.func119,Tryz.ntmps119
 go_upto_region 3 with fail
 go_step
 go_step
 go_step
 rw[fn_lit]
 go_wp2_with (go_at_call 151;refine(hcl _).mono ?_;rintro e w1 ⟨rfl,rfl⟩)
 exact bodyPost_ret (v:=.agg #[.int .i64 0,.int .i64 v]) (by simp[results,Tryz.results119,go_sem]) rfl ⟨rfl,al (al (Below.refl _ _) _) _⟩
theorem impl_alu11(a b:Int)(w:World):Calls Tryz.prog 119 #[.int .i64 11,.int .i64 a,.int .i64 b] w fun e w'=>e=.returned (.agg #[.int .i64 0,.int .i64 (if sgn a<sgn b then 1 else 0)])∧Below w.heap.size w w':=by
 generalize hv:(if sgn a<sgn b then 1 else 0:Int)=v
 have hcl:=fun w=>impl_less a b w
 rw[hv]at hcl
 clear hv
 have hs:=fn_store w
 have hq:=fn_size
 have hk:fnA[11]'(by rw[fn_size];omega)=.func (.func 152) #[] #[]:=rfl
 go_enter Tryz.func119,Tryz.ntmps119
 go_upto_region 3 with fail
 go_step
 go_step
 go_step
 rw[fn_lit]
 go_wp2_with (go_at_call 152;refine(hcl _).mono ?_;rintro e w1 ⟨rfl,rfl⟩)
 exact bodyPost_ret (v:=.agg #[.int .i64 0,.int .i64 v]) (by simp[results,Tryz.results119,go_sem]) rfl ⟨rfl,al (al (Below.refl _ _) _) _⟩
def aluC(op:Int):Int:=if 1≤op∧op≤11 then 0 else 3
theorem impl_alu(op a b:Int)(w:World):Calls Tryz.prog 119 #[.int .i64 op,.int .i64 a,.int .i64 b] w fun e w'=>e=.returned (.agg #[.int .i64 (aluC op),.int .i64 (if 1≤op∧op≤11 then aluV op a b else 0)])∧Below w.heap.size w w':=by
 by_cases h:1≤op∧op≤11
 ·rw[aluC,if_pos h,if_pos h]
  rcases(by omega:op=1∨op=2∨op=3∨op=4∨op=5∨op=6∨op=7∨op=8∨op=9∨op=10∨op=11)with rfl|rfl|rfl|rfl|rfl|rfl|rfl|rfl|rfl|rfl|rfl
  ·rw[aluV1];exact impl_alu1 a b w
  ·rw[aluV2];exact impl_alu2 a b w
  ·rw[aluV3];exact impl_alu3 a b w
  ·rw[aluV4];exact impl_alu4 a b w
  ·rw[aluV5];exact impl_alu5 a b w
  ·rw[aluV6];exact impl_alu6 a b w
  ·rw[aluV7];exact impl_alu7 a b w
  ·rw[aluV8];exact impl_alu8 a b w
  ·rw[aluV9];exact impl_alu9 a b w
  ·rw[aluV10];exact impl_alu10 a b w
  ·rw[aluV11];exact impl_alu11 a b w
 ·rw[aluC,if_neg h,if_neg h]
  have h:op<1∨11<op:=by omega
  rcases h with h|h
  ·go_enter Tryz.func119,Tryz.ntmps119
   go_wp2_with fail
   exact bodyPost_ret (v:=.agg #[.int .i64 3,.int .i64 0]) (by simp[results,Tryz.results119,go_sem]) rfl ⟨rfl,al (Below.refl _ _) _⟩
  ·have h1:¬op<1:=by omega
   go_enter Tryz.func119,Tryz.ntmps119
   go_wp2_with fail
   exact bodyPost_ret (v:=.agg #[.int .i64 3,.int .i64 0]) (by simp[results,Tryz.results119,go_sem]) rfl ⟨rfl,al (Below.refl _ _) _⟩
theorem below_drewN{B:Nat}{w w':World}(h:Below B w w')(nq:Nat):Below B w (w'.drewN nq):=⟨h.os,h.tape,h.output,h.size,h.block⟩
theorem lw_val{z q:Int}(hz:0≤z∧z≤255)(hq:0≤q∧q≤100):0≤wrap64 (wrap64 z+wrap64 (wrap64 q*3))∧wrap64 (wrap64 z+wrap64 (wrap64 q*3))≤555:=by
 rw[wrap64_id (n:=z) (by omega),wrap64_id (n:=q) (by omega),wrap64_id (n:=q*3) (by omega),wrap64_id (by omega)]
 omega
theorem lw_val2{v z:Int}(hv:0≤v∧v≤555)(hz:0≤z∧z≤255):0≤wrap64 (wrap64 (v*251)+wrap64 z):=by
 rw[wrap64_id (n:=z) (by omega),wrap64_id (n:=v*251) (by omega),wrap64_id (by omega)]
 omega
theorem quot_in1{k len:Int}(hk:0≤k∧k≤100)(hl:1≤len):0≤k/len∧k/len≤100:=
 ⟨Int.ediv_nonneg hk.1 (by omega),Int.le_trans (Int.ediv_le_self _ hk.1) hk.2⟩
theorem tm_pair{x n:Int}(hx:0≤x)(hn:1≤n):0≤x.tmod n∧(1≤n→x.tmod n<n):=⟨(tmod_in hx hn).1,fun _=>(tmod_in hx hn).2⟩
theorem lw_low(a:Option Addr)(len cap:Nat)(i n:Int)(w:World)(hn:n≤1):
  Calls Tryz.prog 8 #[.slice a len cap,.int .i64 i,.int .i64 n] w fun e w'=>∃v:Int,e=.returned (.int .i64 v)∧(0≤v∧(1≤n→v<n))∧∃nq:Nat,w'=w.drewN nq:=by
 go_enter Tryz.func8,Tryz.ntmps8
 go_wp2
 go_ret
 exact⟨0,rfl,⟨by omega,fun h=>by omega⟩,0,rfl⟩
theorem lw_nil(a:Option Addr)(cap:Nat)(k:Nat)(n:Int)(w:World)(hk:k≤100)(hn:¬n≤1):
  Calls Tryz.prog 8 #[.slice a 0 cap,.int .i64 k,.int .i64 n] w fun e w'=>∃v:Int,e=.returned (.int .i64 v)∧(0≤v∧(1≤n→v<n))∧∃nq:Nat,w'=w.drewN nq:=by
 have g2:¬n=0:=by omega
 go_enter Tryz.func8,Tryz.ntmps8
 go_wp2
 go_ret
 exact⟨_,rfl,⟨Int.emod_nonneg _ (by omega),fun _=>Int.emod_lt_of_pos _ (by omega)⟩,0,rfl⟩
theorem lw_row(bx off len cap:Nat)(k:Nat)(n:Int)(w:World)(zs:List Int)
  (hk:k≤100) (hn:¬n≤1) (hl:0<len) (hl2:len≤maxLen)
  (hc:∀i,i<len→w.cell? ⟨bx,off+i,none⟩=some (.int .u8 (zs.getD i 0)))
  (hz:∀i:Nat,0≤zs[i]?.getD 0∧zs[i]?.getD 0≤255):
  Calls Tryz.prog 8 #[.slice (some ⟨bx,off,none⟩) len cap,.int .i64 k,.int .i64 n] w fun e w'=>∃v:Int,e=.returned (.int .i64 v)∧(0≤v∧(1≤n→v<n))∧∃nq:Nat,w'=w.drewN nq:=by
 unfold maxLen at hl2
 have hl3:(0:Int)<(len:Int):=by omega
 have hne:((len:Int)==0)=false:=by simp;omega
 have g1:¬n=0:=by omega
 have e1:(0:Int)≤(k:Int)%(len:Int):=Int.emod_nonneg _ (by omega)
 have e2:(k:Int)%(len:Int)<(len:Int):=Int.emod_lt_of_pos _ hl3
 have e3:(0:Int)≤((k:Int)+1)%(len:Int):=Int.emod_nonneg _ (by omega)
 have e4:((k:Int)+1)%(len:Int)<(len:Int):=Int.emod_lt_of_pos _ hl3
 have hcx:=hc (k%len) (Nat.mod_lt _ hl)
 have hcy:=hc ((k+1)%len) (Nat.mod_lt _ hl)
 have HZ:=hid hz
 clear hz hc
 by_cases g2:n≤200
 ·have g3:¬200<n:=by omega
  go_enter Tryz.func8,Tryz.ntmps8
  go_wp2_with fail
  go_quiet (fail)
  go_wp2
  go_ret
  exact⟨_,rfl,tm_pair (lw_val (HZ.out _) (quot_in1 (by omega) (by omega))).1 (by omega),_,rfl⟩
 ·have g3:200<n:=by omega
  go_enter Tryz.func8,Tryz.ntmps8
  go_wp2_with fail
  go_quiet (fail)
  go_wp2_with fail
  try go_quiet (fail)
  try go_wp2
  go_ret
  exact⟨_,rfl,tm_pair (lw_val2 (lw_val (HZ.out _) (quot_in1 (by omega) (by omega))) (HZ.out _)) (by omega),_,rfl⟩
theorem lw_at{w:World}{a:Option Addr}{len cap:Nat}{zs:List Int}(hr:IsRow .u8 w a len cap zs)(k:Nat)(hk:k≤100)(n:Int):
  Calls Tryz.prog 8 #[.slice a len cap,.int .i64 k,.int .i64 n] w fun e w'=>∃v:Int,e=.returned (.int .i64 v)∧0≤v∧(1≤n→v<n)∧Below w.heap.size w w':=by
 have fin:∀(e:Ending) (w':World),(∃v:Int,e=.returned (.int .i64 v)∧(0≤v∧(1≤n→v<n))∧∃nq:Nat,w'=w.drewN nq)→∃v:Int,e=.returned (.int .i64 v)∧0≤v∧(1≤n→v<n)∧Below w.heap.size w w':=by
  rintro e w'⟨v,rfl,⟨h1,h2⟩,nq,rfl⟩
  exact⟨v,rfl,h1,h2,below_drewN (Below.refl _ _) nq⟩
 by_cases hn:n≤1
 ·exact(lw_low a len cap k n w hn).mono fin
 by_cases hl:len=0
 ·subst hl
  exact(lw_nil a cap k n w hk hn).mono fin
 rcases hr with⟨_,h1,_,_⟩|⟨x,rfl,h1,h2,h3,h4,h5⟩
 ·exact absurd h1 hl
 ·obtain⟨bx,off,spot⟩:=x
  have hspot:spot=none:=by simpa [Addr.add]using World.cell?_spot (h4 0 (by omega))
  subst hspot
  have hz:∀i:Nat,0≤zs[i]?.getD 0∧zs[i]?.getD 0≤255:=range_u8 h5
  refine(lw_row bx off len cap k n w zs hk hn (by omega) (by omega) (fun i hi=>?_) hz).mono fin
  rw[←add_plain];exact h4 i (by omega)
theorem lw_numsD(v u:Value)(zs:List Int)(b c:Nat)(w:World)(h:Nums w b v zs)(k:Nums w c u zs):
  Calls Tryz.prog 11 #[v,u] w fun e w'=>e=.returned (.bool true)∧∃nq,w'=w.drewN nq:=by
 obtain⟨a,cap,rfl,l1,l2,hg⟩:=h.shape
 obtain⟨a',cap',rfl,m1,m2,hg'⟩:=k.shape
 have HZ:Hid (Nums w b _ zs):=h
 have KZ:Hid (Nums w c _ zs):=k
 have hl:(zs.length:Int)≤9223372036854775807:=by unfold maxLen at l2;omega
 clear h k
 obtain⟨n,hn⟩:∃n,zs.length=n:=⟨_,rfl⟩
 rw[hn]at HZ KZ hl l1 m1 hg hg' ⊢
 have HN:=hid hn
 clear hn l1 m1 l2 m2
 go_enter Tryz.func11,Tryz.ntmps11
 go_wp2_with fail
 go_loopw [5] (fun i wr=>∃j:Nat,j≤n∧i=.int .i64 j∧∃nq,wr=w.drewN nq) (fun i _=>n-(intOf i).toNat)
 case atStart=>exact⟨0,Nat.zero_le _,rfl,0,rfl⟩
 case round=>
  obtain⟨j,hj,rfl,nq,rfl⟩:=hrel
  by_cases hlt:j<n
  ·obtain⟨g,rfl⟩:=hg (by omega)
   obtain⟨g',rfl⟩:=hg' (by omega)
   have c1:=HZ.out.cell HN.out.symm j hlt
   have c2:=KZ.out.cell HN.out.symm j hlt
   have hI:(j:Int)<(n:Int):=by omega
   have HL:=hid hlt
   clear hlt hg hg'
   go_wp2_with fail
   go_quiet (fail)
   go_wp2_with fail
   go_roundw
   case rel=>exact⟨j+1,by have:=HL.out;omega,by go_num,⟨_,rfl⟩⟩
   case measure=>have:=HL.out;simp[intOf];omega
  ·have hI:¬(j:Int)<(n:Int):=by omega
   go_wp2_with fail
   go_ret
   exact⟨rfl,nq,rfl⟩
theorem info_u8:(Tryz.prog.info? 5).map (fun i=>(i.zero,i.size,i.bytes))=some (some (.int .u8 0),1,1):=by kernel_rfl
theorem heap_new(w:World)(o:Obj):(w.alloc o).heap[w.heap.size]? =some o:=by
 show(w.heap.push o)[w.heap.size]? =_
 rw[Array.getElem?_push,if_pos rfl]
theorem isRow_owned{w:World}{base:Nat}{v:Value}{n:Nat}{zs:List Int}(h:w.ownsRow base 5 1 v n (zs.map fun z=> .int .u8 z))(hz:∀z ∈ zs,(Lit.int .u8 z).wf=true):
  ∃a len cap,v=.slice a len cap∧IsRow .u8 w a len cap zs:=by
 obtain⟨h0,h1|⟨g,cap,cur,rfl,hb,hh,hn,hc,hs,ht⟩⟩:=h
 ·obtain⟨rfl,rfl⟩:=h1
  exact⟨none,0,0,rfl,.inl ⟨rfl,rfl,rfl,by simpa using h0⟩⟩
 ·have hlen:zs.length=n:=by simpa using h0
  refine⟨_,_,_,rfl,.inr ⟨_,rfl,hn,hc,hlen,fun i hi=>?_,hz⟩⟩
  rw[add_plain]
  have e:cur[i]? =some (.int .u8 (zs.getD i 0)):=by
   have h2:(cur.toList.take (n*1))[i]? =(zs.map fun z=>Value.int .u8 z)[i]? :=by rw[ht]
   rw[Nat.mul_one,List.getElem?_take,if_pos hi,Array.getElem?_toList]at h2
   rw[h2,List.getElem?_map,List.getD,List.getElem?_eq_getElem (by omega)]
   rfl
  simp[World.cell?,hh,e]
variable{ops:Array Oper}{rest:List Oper}{o:Oper}{act:Act}{Q:Exit→Act→World→Prop}
theorem wp_prepend(w:World)(hgd:o.guard=none)(s x:Operand)
  (ho:o.op=.call { callee:=.builtin .append,args:=#[s,x],argTypes:=#[22,22]}) (g:Nat) (c:Int) (hwf:(Lit.int .u8 c).wf=true)
  (hs:act.eval s=.slice (some ⟨g,0,none⟩) 1 1) (hg:w.heap[g]? =some (.cells #[.int .u8 c] 5 (0,0)))
  (a:Option Addr) (len cap:Nat) (zs:List Int) (hx:act.eval x=.slice a len cap) (hr:IsRow .u8 w a len cap zs) (hlen:len≤1048576)
  (h:∀a' len' cap' zs' w',IsRow .u8 w' a' len' cap' zs'→Below g w w'→wpList Tryz.prog ops Q rest (act.put o.dst (.slice a' len' cap')) w'):
  wpList Tryz.prog ops Q (o::rest) act w:=by
 obtain⟨i,hi,hz0,hz1,hz2⟩:=info_parts info_u8
 have hgs:g<w.heap.size:=by
  apply Classical.byContradiction
  intro hn
  have hz:w.heap[g]? =none:=by simp;omega
  rw[hz]at hg;cases hg
 have hown:w.ownsRow g 5 1 (.slice (some ⟨g,0,none⟩) 1 1) 1 ([c].map fun z=> .int .u8 z):=
  ⟨rfl,.inr ⟨g,1,_,rfl,Nat.le_refl _,hg,Nat.le_refl _,by decide,rfl,rfl⟩⟩
 rcases hr with⟨rfl,rfl,rfl,rfl⟩|⟨ad,rfl,h1,h2,h3,h4,h5⟩
 ·refine wpList_plain hgd fun K hK=>?_
  have hrun:=run_append_room_src (P:=Tryz.prog) w 22 22 o.type 5 i Tryz.underlying22 hi g 0 1 1 (.slice none 0 0) 0 [] (Go.Src.ofNil w Tryz.underlying22 0) (by omega) (fun j hj=>by simp at hj) (fun j hj=>by simp at hj)
  unfold Oper.wp
  simp[execOp,ho,resolve,invoke,builtin,hs,hx,hrun,Result.andThen]
  obtain⟨a',len',cap',hv,hrow⟩:=isRow_owned hown (by simpa using hwf)
  refine hK _ _ ?_
  have e:(Value.slice (some ⟨g,0,none⟩) 1 1)=.slice a' len' cap':=hv
  rw[e]
  exact h _ _ _ _ _ hrow (Below.refl _ _)
 ·refine wpList_append_own w hgd s x 22 ho g 5 i _ 1 1 Tryz.underlying22 hi hz0 hz1 hz2 rfl (by decide) _ 1 _ hs hown ad len cap (zs.map fun z=> .int .u8 z) hx (by simpa using h3) ?_ ?_ (by unfold maxLen;omega) (by omega) (by omega) ?_
  ·intro j u hj
   rw[List.getElem?_map]at hj
   have hjl:j<len:=by
    apply Classical.byContradiction
    intro hn
    rw[List.getElem?_eq_none (by omega)]at hj
    cases hj
   rw[h4 j hjl]
   rw[List.getElem?_eq_getElem (by omega)]at hj
   rw[List.getD,List.getElem?_eq_getElem (by omega)]
   exact hj
  ·intro u hu
   obtain⟨z,_,rfl⟩:=List.mem_map.1 hu
   rfl
  ·intro v' w' hown' hgrow _
   have e:([c].map fun z=>Value.int .u8 z)++(zs.map fun z=> .int .u8 z)=(c::zs).map fun z=> .int .u8 z:=rfl
   rw[e]at hown'
   obtain⟨a',len',cap',rfl,hrow⟩:=isRow_owned hown' (by
    intro z hz
    rcases List.mem_cons.1 hz with rfl|hz
    ·exact hwf
    ·exact h5 z hz)
   exact h _ _ _ _ _ hrow ((Below.refl _ _).grown hgrow (by omega) (by intro k hk;simp[Value.ownBlock]at hk;omega))
theorem info_lane:(Tryz.prog.info? 42).map (fun i=>(i.zero,i.size,i.bytes))=some (some lz.val,5,40):=by kernel_rfl
theorem info_bell:(Tryz.prog.info? 148).map (fun i=>(i.zero,i.size,i.bytes))=some (some (.agg #[.int .i64 0,.int .i64 0]),2,16):=by kernel_rfl
theorem info_slot:(Tryz.prog.info? 119).map (fun i=>(i.zero,i.size,i.bytes))=some (some (.agg #[.int .i64 0,.int .i64 0]),2,16):=by kernel_rfl
theorem getD_mem{α:Type}(zs:List α)(d:α)(k:Nat)(h:k<zs.length):zs.getD k d ∈ zs:=by
 rw[List.getD,List.getElem?_eq_getElem h]
 exact List.getElem_mem h
def wordsL(ms:List Int):List Int→List Int
 | []=> []
 |p::t=>eight ms p.toNat++wordsL ms t
theorem wordsL_append(ms a b:List Int):wordsL ms (a++b)=wordsL ms a++wordsL ms b:=by
 induction a with
 |nil=>rfl
 |cons p t ih=>rw[List.cons_append,wordsL,wordsL,ih,List.append_assoc]
theorem wordsL_take(ms ps:List Int)(j:Nat)(h:j<ps.length):wordsL ms (ps.take (j+1))=wordsL ms (ps.take j)++eight ms (ps.getD j 0).toNat:=by
 rw[take_succ_getD ps 0 j h,wordsL_append,wordsL,wordsL,List.append_nil]
theorem ns_one(w:World)(pg:Int)(t:TypeId):IsNs (w.alloc (.cells #[.int .i64 pg] t)) (some ⟨w.heap.size,0,none⟩) 1 1 [pg]:=by
 refine .inr ⟨_,rfl,Nat.le_refl _,by unfold maxLen;omega,rfl,fun i hi=>?_⟩
 obtain rfl:i=0:=by omega
 exact cell_new rfl
theorem Pags.nil(w:World)(base:Nat):Pags w base (.slice none 0 0) 0 []:=World.ownsRow_nil w base _ _
theorem nums_empty(w:World)(base:Nat)(hb:base≤w.heap.size):Nums (w.alloc (.cells #[] 2)) base (.slice (some ⟨w.heap.size,0,none⟩) 0 0) []:=
 World.ownsRow_lit w #[] 0 hb (by decide) rfl
variable{w:World}{base n:Nat}{v:Value}{zs:List Int}
theorem Pags.shape(h:Pags w base v n zs):∃a cap,v=.slice a n cap∧n≤cap∧cap≤maxLen∧(0<n→∃g,a=some ⟨g,0,none⟩):=by
 have h':=h
 obtain⟨h1,⟨rfl,h3⟩|⟨g,cap,cur,rfl,_,_,h4,h5,_⟩⟩:=h'
 ·exact⟨none,0,by rw[h3],by omega,by unfold maxLen;omega,fun hz=>by omega⟩
 ·exact⟨_,_,rfl,h4,h5,fun _=>⟨g,rfl⟩⟩
theorem Pags.inb(h:Pags w base v n zs):∀k,v.ownBlock=some k→base≤k∧k<w.heap.size:=World.ownsRow.lt h
theorem eight_list(zs:List Int)(p:Nat)(h:p*8+8≤zs.length):eight zs p=[zs.getD (p*8) 0,zs.getD (p*8+1) 0,zs.getD (p*8+2) 0,zs.getD (p*8+3) 0,zs.getD (p*8+4) 0,zs.getD (p*8+5) 0,zs.getD (p*8+6) 0,zs.getD (p*8+7) 0]:=by
 have h1:=take_eight zs (p*8) h
 rw[List.take_add]at h1
 exact List.append_cancel_left h1
variable{ops:Array Oper}{rest:List Oper}{o:Oper}{act:Act}{Q:Exit→Act→World→Prop}
theorem wp_pag(w:World)(hgd:o.guard=none)(s x:Operand)
  (ho:o.op=.call { callee:=.builtin .append,args:=#[s,x],argTypes:=#[109,109]}) (base:Nat) (v:Value) (n:Nat) (zs:List Int) (hs:act.eval s=v) (hN:Pags w base v n zs)
  (B:Nat) (ys:List Int) (hy:ys.length=8) (hx:act.eval x=.slice (some ⟨B,0,none⟩) 1 1) (hc:∀i,i<8→w.cell? ⟨B,i,none⟩=some (.int .i64 (ys.getD i 0)))
  (hlen:n≤1000) (hbase:base≤w.heap.size)
  (h:∀v' w',Pags w' base v' (n+1) (zs++ys)→w.grownBy w' v.ownBlock→wpList Tryz.prog ops Q rest (act.put o.dst v') w'):wpList Tryz.prog ops Q (o::rest) act w:=by
 obtain⟨i,hi,hz0,hz1,hz2⟩:=info_parts info_wpage
 refine wpList_append_own w hgd s x 109 ho base 91 i _ 8 64 Tryz.underlying109 hi hz0 hz1 hz2 rfl (by decide) v n _ hs hN ⟨B,0,none⟩ 1 1 (ys.map (Value.int .i64)) hx (by simpa using hy) ?_ ?_ (by unfold maxLen;omega) (by omega) hbase ?_
 ·intro j u hj
  have hjl:j<ys.length:=by have:=(List.getElem?_eq_some_iff.1 hj).1;simpa using this
  rw[List.getElem?_map,List.getElem?_eq_getElem hjl]at hj
  have:=hc j (by omega)
  rw[List.getD,List.getElem?_eq_getElem hjl]at this
  rw[show(⟨B,0,none⟩:Addr).add j=⟨B,j,none⟩ by rw[Addr.add_lit];simp,this]
  exact hj
 ·intro u hu
  obtain⟨z,_,rfl⟩:=List.mem_map.1 hu
  rfl
 ·intro v' w' hown hgrow _
  refine h v' w' ?_ hgrow
  unfold Pags
  rw[List.map_append]
  exact hown
theorem i_join0(w:World):Calls Tryz.prog 38 #[.slice none 0 0] w fun e w'=>e=.returned (.slice none 0 0)∧w'=w:=by
 go_enter Tryz.func38,Tryz.ntmps38
 go_wp2_with fail
 go_loop [3,5,8] (fun v _ c=>c=.int .i64 0∧v=.slice none 0 0) (fun _ _ _=>0)
 case atStart=>exact⟨rfl,rfl⟩
 case round=>
  obtain⟨rfl,rfl⟩:=hrel
  go_wp2_with fail
  go_ret
  exact⟨rfl,rfl⟩
theorem i_among(g mc:Nat)(ms:List Int)(ap:Option Addr)(lp cp:Nat)(ps:List Int)(w:World)(mp:Nat)(hpc0:∀k,k<mp*8→w.cell? ⟨g,k,none⟩=some (.int .i64 (ms.getD k 0)))(h1:1≤mp)(h24:mp≤24)(hm:ms.length=mp*8)(hp:IsNs w ap lp cp ps)(hr:∀x ∈ ps,0≤x∧x<mp)(hl:ps.length≤5):
  Calls Tryz.prog 53 #[.slice (some ⟨g,0,none⟩) mp mc,.slice ap lp cp] w fun e w'=>∃v,e=.returned v∧Nums w' w.heap.size v (wordsL ms ps)∧Below w.heap.size w w':=by
 have PC:=hid hpc0
 have HP:=hid hp
 have HR:=hid hr
 have HMP:Hid (1≤mp∧mp≤24):=⟨h1,h24⟩
 have hmpI:(mp:Int)≤24:=by omega
 have hmp1:(1:Int)≤(mp:Int):=by omega
 clear h1 h24
 have HLP:Hid (lp=ps.length∧lp≤5):=⟨hp.len,by have:=hp.len;omega⟩
 have HMS:=hid hm
 have hlpI:(lp:Int)≤5:=by have:=HLP.out;omega
 clear hpc0 hp hr hl hm
 go_enter Tryz.func53,Tryz.ntmps53
 go_wp2_with fail
 have B1:Hid (Below w.heap.size w w):=Below.refl _ _
 go_loopw [5,7,10] (fun v _ c wr=>∃j:Nat,j≤lp∧c=.int .i64 j∧Pags wr w.heap.size v j (wordsL ms (ps.take j))∧Below w.heap.size w wr) (fun _ _ c _=>lp-(intOf c).toNat)
 case atStart=>exact⟨0,Nat.zero_le _,rfl,Pags.nil _ _,Below.refl _ _⟩
 case round=>
  obtain⟨j,hj,rfl,hN,hB⟩:=hrel
  have HN:Hid (Pags wr _ _ j _):=hN
  have HB:Hid (Below _ w wr):=hB
  obtain⟨ya,yc,hz,_,_,hsome⟩:=hN.shape
  subst hz
  by_cases hlt:j<lp
  ·rcases HP.out.stay (on B1.out hB)with⟨_,e1,_,_⟩|⟨y,rfl,e1,e2,e3,e4⟩
   ·omega
   have d0:=e4 j hlt
   have hJ:(j:Int)<(lp:Int):=by omega
   have HLT:=hid hlt
   have hin:=HR.out _ (getD_mem ps 0 j (by have:=HLP.out;omega))
   have TK:Hid (_=_):=wordsL_take ms ps j (by have:=HLP.out;omega)
   obtain⟨z,hz⟩:∃z,ps.getD j 0=z:=⟨_,rfl⟩
   rw[hz]at d0 hin TK
   clear hz e1 e2 e3 e4
   obtain⟨p,rfl⟩:=Int.eq_ofNat_of_zero_le hin.1
   have hp8:(p:Int)<(mp:Int):=by omega
   have hpN:p<mp:=by omega
   have EL:Hid (wordsL ms (ps.take (j+1))=wordsL ms (ps.take j)++ [ms.getD (p*8) 0,ms.getD (p*8+1) 0,ms.getD (p*8+2) 0,ms.getD (p*8+3) 0,ms.getD (p*8+4) 0,ms.getD (p*8+5) 0,ms.getD (p*8+6) 0,ms.getD (p*8+7) 0]):=by
    show _=_
    rw[TK.out,Int.toNat_natCast,eight_list ms p (by have:=HMS.out;omega)]
   have hpc:=fun k (hk:k<mp*8)=>cell_keep hB (PC.out k hk)
   have f0:=hpc (p*8) (by omega)
   have f1:=hpc (p*8+1) (by omega)
   have f2:=hpc (p*8+2) (by omega)
   have f3:=hpc (p*8+3) (by omega)
   have f4:=hpc (p*8+4) (by omega)
   have f5:=hpc (p*8+5) (by omega)
   have f6:=hpc (p*8+6) (by omega)
   have f7:=hpc (p*8+7) (by omega)
   generalize ms.getD (p*8) 0=x0 at*
   generalize ms.getD (p*8+1) 0=x1 at*
   generalize ms.getD (p*8+2) 0=x2 at*
   generalize ms.getD (p*8+3) 0=x3 at*
   generalize ms.getD (p*8+4) 0=x4 at*
   generalize ms.getD (p*8+5) 0=x5 at*
   generalize ms.getD (p*8+6) 0=x6 at*
   generalize ms.getD (p*8+7) 0=x7 at*
   have SZ:Hid (w.heap.size≤wr.heap.size):=hB.size
   clear hpc hin TK hlt hN hB hsome
   go_wp2_with (at_builtin;refine wp_pag _ rfl _ _ rfl w.heap.size _ j _ rfl (HN.out.keep (al (Below.refl _ _) _)) wr.heap.size [x0,x1,x2,x3,x4,x5,x6,x7] rfl rfl (cells_eight _ _ _ _ _ _ _ _ _ _) (by have:=HLT.out;have:=HLP.out;omega) (by have:=SZ.out;simp;omega) ?_;intro v' w' hN' hG')
   have N':Hid (Pags w' _ v' (j+1) _):=hN'
   have B':Hid (Below w.heap.size w w'):=(al HB.out _).grown hG' (by have:=SZ.out;simp;omega) (fun k hk=>(HN.out.inb k hk).1)
   clear hN' hG'
   go_wp2_with fail
   go_roundw
   case rel=>exact⟨j+1,by have:=HLT.out;omega,by go_num,by rw[EL.out];exact N'.out,B'.out⟩
   case measure=>have:=HLT.out;simp[intOf];omega
  ·have hJ:¬(j:Int)<(lp:Int):=by omega
   have HJ:Hid (j=lp):=by show _=_;omega
   have ET:Hid (wordsL ms (ps.take j)=wordsL ms ps):=by show _=_;rw[List.take_of_length_le (by have:=HLP.out;have:=HJ.out;omega)]
   by_cases h0:j=0
   ·subst h0
    have e0:ps=[]:=List.eq_nil_of_length_eq_zero (by have:=HLP.out.1;have:=HJ.out;omega)
    have hya:ya=none∧yc=0∨∃g',ya=some ⟨g',0,none⟩:=by
     obtain⟨_,⟨h2,_⟩|⟨g',cap',cur,h2,_⟩⟩:=hN
     ·simp at h2;exact .inl ⟨h2.1,h2.2⟩
     ·simp at h2;exact .inr ⟨g',h2.1⟩
    rcases hya with⟨rfl,rfl⟩|⟨gg,rfl⟩
    ·clear hlt hN hB hsome
     go_wp2_with fail
     refine(i_join0 _).mono ?_
     rintro e w2⟨rfl,rfl⟩
     have N2:Hid (Nums w2 w.heap.size (.slice none 0 0) (wordsL ms ps)):=by rw[e0];exact Nums.nil _ _
     go_wp2_with fail
     go_ret
     exact⟨_,rfl,N2.out,on B1.out HB.out⟩
    ·clear hlt hN hB hsome
     go_wp2_with fail
     refine(impl_join _ _ _ _ _ _ HN.out (by omega)).mono ?_
     rintro e w2⟨v,rfl,n2',b2⟩
     have B2:=hid (on B1.out (on HB.out b2))
     have N2:Hid (Nums w2 w.heap.size v (wordsL ms ps)):=by rw[ET.out]at n2';exact n2'.mono ((on B1.out HB.out).size)
     clear b2 n2'
     go_wp2_with fail
     go_ret
     exact⟨_,rfl,N2.out,B2.out⟩
   obtain⟨gg,rfl⟩:=hsome (by omega)
   clear hlt hN hB hsome
   go_wp2_with fail
   refine(impl_join _ _ _ _ _ _ HN.out (by have:=HJ.out;have:=HLP.out;omega)).mono ?_
   rintro e w2⟨v,rfl,n2',b2⟩
   have B2:=hid (on B1.out (on HB.out b2))
   have N2:Hid (Nums w2 w.heap.size v (wordsL ms ps)):=by rw[ET.out]at n2';exact n2'.mono ((on B1.out HB.out).size)
   clear b2 n2'
   go_wp2_with fail
   go_ret
   exact⟨_,rfl,N2.out,B2.out⟩
theorem i_wordsN(gm n cap b:Nat)(ms:List Int)(ap:Option Addr)(lp cp:Nat)(ps:List Int)(w:World)(h:Nums w b (.slice (some ⟨gm,0,none⟩) n cap) ms)(mp:Nat)(h1:1≤mp)(h24:mp≤24)(hm:ms.length=mp*8)(hp:IsNs w ap lp cp ps)(hr:∀x ∈ ps,0≤x∧x<mp)(hl:ps.length≤5):
  Calls Tryz.prog 25 #[.slice (some ⟨gm,0,none⟩) n cap,.slice ap lp cp] w fun e w'=>∃v,e=.returned v∧Nums w' w.heap.size v (wordsL ms ps)∧Below w.heap.size w w':=by
 have HM:=hid h
 have HP:=hid hp
 have HR:Hid ((∀x ∈ ps,0≤x∧x<mp)∧ps.length≤5):=⟨hr,hl⟩
 have HMP:Hid (1≤mp∧mp≤24):=⟨h1,h24⟩
 have HMS:=hid hm
 clear h hp hr hl hm h1 h24
 go_enter Tryz.func25,Tryz.ntmps25
 go_wp2_with fail
 refine(impl_cut gm n cap ms b mp _ HM.out HMS.out HMP.out.2 HMP.out.1).mono ?_
 rintro e w1⟨g,rfl,pg,b1⟩
 have PG:Hid (Pags w1 _ (.slice (some ⟨g,0,none⟩) mp mp) mp ms):=pg
 have B1:=hid b1
 clear pg b1
 go_wp2_with fail
 refine(i_among g mp ms ap lp cp ps w1 mp (fun k hk=>PG.out.cell k hk) HMP.out.1 HMP.out.2 HMS.out (HP.out.stay B1.out) HR.out.1 HR.out.2).mono ?_
 rintro e w2⟨v,rfl,n2',b2⟩
 have B2:=hid (on B1.out b2)
 have N2:Hid (Nums w2 w.heap.size v (wordsL ms ps)):=n2'.mono B1.out.size
 clear b2 n2'
 go_wp2_with fail
 go_ret
 exact⟨_,rfl,N2.out,B2.out⟩
theorem i_wordsOn8(gm n cap b:Nat)(ms:List Int)(ap:Option Addr)(lp cp:Nat)(ps:List Int)(w:World)(h:Nums w b (.slice (some ⟨gm,0,none⟩) n cap) ms)(hm:ms.length=64)(hp:IsNs w ap lp cp ps)(hr:∀x ∈ ps,0≤x∧x≤7)(hl:1≤ps.length∧ps.length≤5):
  Calls Tryz.prog 25 #[.slice (some ⟨gm,0,none⟩) n cap,.slice ap lp cp] w fun e w'=>∃v,e=.returned v∧Nums w' w.heap.size v (wordsL ms ps)∧Below w.heap.size w w':=
 i_wordsN gm n cap b ms ap lp cp ps w h 8 (by decide) (by decide) (by omega) hp (fun x hx=>by have:=hr x hx;omega) hl.2
theorem elevenX{v:World}{q:Nat}{t:TypeId}{z0 z1 z2 z3 z4 z5 z6 z7 z8 z9 z10:Value}(h:Vb v q #[z0,z1,z2,z3,z4,z5,z6,z7,z8,z9,z10] t)(u0 u1 u2 u3 u4 u5 u6 u7 u8 u9 u10:Value):
  Vb (((((((((((v.setCell ⟨q,0,none⟩ u0).setCell ⟨q,1,none⟩ u1).setCell ⟨q,2,none⟩ u2).setCell ⟨q,3,none⟩ u3).setCell ⟨q,4,none⟩ u4).setCell ⟨q,5,none⟩ u5).setCell ⟨q,6,none⟩ u6).setCell ⟨q,7,none⟩ u7).setCell ⟨q,8,none⟩ u8).setCell ⟨q,9,none⟩ u9).setCell ⟨q,10,none⟩ u10) q #[u0,u1,u2,u3,u4,u5,u6,u7,u8,u9,u10] t∧Mq (fun k=>k=q) v (((((((((((v.setCell ⟨q,0,none⟩ u0).setCell ⟨q,1,none⟩ u1).setCell ⟨q,2,none⟩ u2).setCell ⟨q,3,none⟩ u3).setCell ⟨q,4,none⟩ u4).setCell ⟨q,5,none⟩ u5).setCell ⟨q,6,none⟩ u6).setCell ⟨q,7,none⟩ u7).setCell ⟨q,8,none⟩ u8).setCell ⟨q,9,none⟩ u9).setCell ⟨q,10,none⟩ u10):=by
 have h0:Vb (v.setCell ⟨q,0,none⟩ u0) q #[u0,z1,z2,z3,z4,z5,z6,z7,z8,z9,z10] t:=h.set 0 u0
 have h1:Vb ((v.setCell ⟨q,0,none⟩ u0).setCell ⟨q,1,none⟩ u1) q #[u0,u1,z2,z3,z4,z5,z6,z7,z8,z9,z10] t:=h0.set 1 u1
 have h2:Vb (((v.setCell ⟨q,0,none⟩ u0).setCell ⟨q,1,none⟩ u1).setCell ⟨q,2,none⟩ u2) q #[u0,u1,u2,z3,z4,z5,z6,z7,z8,z9,z10] t:=h1.set 2 u2
 have h3:Vb ((((v.setCell ⟨q,0,none⟩ u0).setCell ⟨q,1,none⟩ u1).setCell ⟨q,2,none⟩ u2).setCell ⟨q,3,none⟩ u3) q #[u0,u1,u2,u3,z4,z5,z6,z7,z8,z9,z10] t:=h2.set 3 u3
 have h4:Vb (((((v.setCell ⟨q,0,none⟩ u0).setCell ⟨q,1,none⟩ u1).setCell ⟨q,2,none⟩ u2).setCell ⟨q,3,none⟩ u3).setCell ⟨q,4,none⟩ u4) q #[u0,u1,u2,u3,u4,z5,z6,z7,z8,z9,z10] t:=h3.set 4 u4
 have h5:Vb ((((((v.setCell ⟨q,0,none⟩ u0).setCell ⟨q,1,none⟩ u1).setCell ⟨q,2,none⟩ u2).setCell ⟨q,3,none⟩ u3).setCell ⟨q,4,none⟩ u4).setCell ⟨q,5,none⟩ u5) q #[u0,u1,u2,u3,u4,u5,z6,z7,z8,z9,z10] t:=h4.set 5 u5
 have h6:Vb (((((((v.setCell ⟨q,0,none⟩ u0).setCell ⟨q,1,none⟩ u1).setCell ⟨q,2,none⟩ u2).setCell ⟨q,3,none⟩ u3).setCell ⟨q,4,none⟩ u4).setCell ⟨q,5,none⟩ u5).setCell ⟨q,6,none⟩ u6) q #[u0,u1,u2,u3,u4,u5,u6,z7,z8,z9,z10] t:=h5.set 6 u6
 have h7:Vb ((((((((v.setCell ⟨q,0,none⟩ u0).setCell ⟨q,1,none⟩ u1).setCell ⟨q,2,none⟩ u2).setCell ⟨q,3,none⟩ u3).setCell ⟨q,4,none⟩ u4).setCell ⟨q,5,none⟩ u5).setCell ⟨q,6,none⟩ u6).setCell ⟨q,7,none⟩ u7) q #[u0,u1,u2,u3,u4,u5,u6,u7,z8,z9,z10] t:=h6.set 7 u7
 have h8:Vb (((((((((v.setCell ⟨q,0,none⟩ u0).setCell ⟨q,1,none⟩ u1).setCell ⟨q,2,none⟩ u2).setCell ⟨q,3,none⟩ u3).setCell ⟨q,4,none⟩ u4).setCell ⟨q,5,none⟩ u5).setCell ⟨q,6,none⟩ u6).setCell ⟨q,7,none⟩ u7).setCell ⟨q,8,none⟩ u8) q #[u0,u1,u2,u3,u4,u5,u6,u7,u8,z9,z10] t:=h7.set 8 u8
 have h9:Vb ((((((((((v.setCell ⟨q,0,none⟩ u0).setCell ⟨q,1,none⟩ u1).setCell ⟨q,2,none⟩ u2).setCell ⟨q,3,none⟩ u3).setCell ⟨q,4,none⟩ u4).setCell ⟨q,5,none⟩ u5).setCell ⟨q,6,none⟩ u6).setCell ⟨q,7,none⟩ u7).setCell ⟨q,8,none⟩ u8).setCell ⟨q,9,none⟩ u9) q #[u0,u1,u2,u3,u4,u5,u6,u7,u8,u9,z10] t:=h8.set 9 u9
 have h10:Vb (((((((((((v.setCell ⟨q,0,none⟩ u0).setCell ⟨q,1,none⟩ u1).setCell ⟨q,2,none⟩ u2).setCell ⟨q,3,none⟩ u3).setCell ⟨q,4,none⟩ u4).setCell ⟨q,5,none⟩ u5).setCell ⟨q,6,none⟩ u6).setCell ⟨q,7,none⟩ u7).setCell ⟨q,8,none⟩ u8).setCell ⟨q,9,none⟩ u9).setCell ⟨q,10,none⟩ u10) q #[u0,u1,u2,u3,u4,u5,u6,u7,u8,u9,u10] t:=h9.set 10 u10
 exact⟨h10,((((((((((((Mq.refl (fun k=>k=q) v).set ⟨q,0,none⟩ u0 rfl).set ⟨q,1,none⟩ u1 rfl).set ⟨q,2,none⟩ u2 rfl).set ⟨q,3,none⟩ u3 rfl).set ⟨q,4,none⟩ u4 rfl).set ⟨q,5,none⟩ u5 rfl).set ⟨q,6,none⟩ u6 rfl).set ⟨q,7,none⟩ u7 rfl).set ⟨q,8,none⟩ u8 rfl).set ⟨q,9,none⟩ u9 rfl).set ⟨q,10,none⟩ u10 rfl)⟩
structure Sm(w:World)(base:Nat)(r c i o l m:Value)(H:Ht)(ps:List (Int×Int))(zs:List Int):Prop where
 h:Hm w base r c i o H
 a:Ha r c i o
 pl:Prs 89 w base l ps
 mm:Nums w base m zs
 rm:Apt r m
 cm:Apt c m
 im:Apt i m
 om:Apt o m
theorem Sm.keep{w w':World}{base:Nat}{r c i o l m:Value}{H:Ht}{ps:List (Int×Int)}{zs:List Int}(s:Sm w base r c i o l m H ps zs)(b:Below w.heap.size w w'):Sm w' base r c i o l m H ps zs:=
 ⟨s.h.keep b,s.a,s.pl.keep b,s.mm.keep b,s.rm,s.cm,s.im,s.om⟩
theorem Sm.mono{w:World}{base base':Nat}{r c i o l m:Value}{H:Ht}{ps:List (Int×Int)}{zs:List Int}(s:Sm w base r c i o l m H ps zs)(hb:base'≤base):Sm w base' r c i o l m H ps zs:=
 ⟨s.h.mono hb,s.a,s.pl.mono hb,s.mm.mono hb,s.rm,s.cm,s.im,s.om⟩
theorem wp_appp(w:World)(hgd:o.guard=none)(s x:Operand)
  (ho:o.op=.call { callee:=.builtin .append,args:=#[s,x],argTypes:=#[48,48]}) (base:Nat) (v:Value) (zs:List (Int×Int)) (hs:act.eval s=v) (hN:Prs 89 w base v zs)
  (g m c b:Nat) (ys:List (Int×Int)) (hx:act.eval x=.slice (some ⟨g,0,none⟩) m c) (hR:Prs 89 w b (.slice (some ⟨g,0,none⟩) m c) ys) (hm:m=ys.length)
  (hlen:zs.length+m≤1000000000) (hbase:base≤w.heap.size)
  (h:∀v' w',Prs 89 w' base v' (zs++ys)→w.grownBy w' v.ownBlock→wpList Tryz.prog ops Q rest (act.put o.dst v') w'):wpList Tryz.prog ops Q (o::rest) act w:=by
 obtain⟨i,hi,hz0,hz1,hz2⟩:=info_parts info_page
 refine wpList_append_own w hgd s x 48 ho base 89 i _ 2 16 Tryz.underlying48 hi hz0 hz1 hz2 rfl (by decide) v zs.length _ hs hN ⟨g,0,none⟩ m c (flat ys) hx (by rw[flat_length,hm]) ?_ (flat_one ys) (by unfold maxLen;omega) (by omega) hbase ?_
 ·intro j u hj
  have hjl:j<m*2:=by have:=(List.getElem?_eq_some_iff.1 hj).1;rw[flat_length]at this;omega
  subst hm
  rw[show(⟨g,0,none⟩:Addr).add j=⟨g,j,none⟩ by rw[Addr.add_lit];simp,World.ownsRow.cellAt hR j (by omega)]
  exact hj
 ·intro v' w' hown hgrow _
  refine h v' w' ?_ hgrow
  unfold Prs
  rw[List.length_append,flat_append,←hm]
  exact hown
def wholeS(ms:List Int):Bool:=decide (ms.length=64)&&decide (memV ms=0)
def sfV(H:Ht)(ps:List (Int×Int))(zs:List Int):Int:=if hfV H=0 then(if pgsV ps 8=0 then(if wholeS zs=true then 0 else 1)else pgsV ps 8)else hfV H
theorem i_whole8(v:Value)(ms:List Int)(b:Nat)(w:World)(h:Nums w b v ms):
  Calls Tryz.prog 24 #[v,.int .i64 8] w fun e w'=>e=.returned (.bool (wholeS ms))∧w'=w:=by
 obtain⟨a,cap,rfl,l1,l2,hg⟩:=h.shape
 have HM:Hid (Nums w b _ ms):=h
 unfold wholeS
 have hl:(ms.length:Int)≤9223372036854775807:=by unfold maxLen at l2;omega
 obtain⟨n,hn⟩:∃n,ms.length=n:=⟨_,rfl⟩
 rw[hn]at HM hl ⊢
 clear h l1 l2 hg
 by_cases h1:n=64
 ·rw[decide_eq_true h1,Bool.true_and]
  have h1i:(n:Int)=64:=by omega
  have HM2:Hid (Nums w b (.slice a 64 cap) ms):=by rw[h1]at HM;exact HM
  subst h1
  clear hn h1i
  by_cases h2:memV ms=0
  ·go_enter Tryz.func24,Tryz.ntmps24
   go_wp2_with (go_at_call 52;refine(impl_memFault _ ms b _ HM2.out).mono ?_;rintro e w ⟨rfl,rfl⟩;rw[h2])
   go_ret
   exact⟨by first|rfl|simp[h2],rfl⟩
  ·have h4:decide (memV ms=0)=false:=decide_eq_false h2
   rw[h4]
   obtain⟨mv,hmv⟩:∃mv,memV ms=mv:=⟨_,rfl⟩
   rw[hmv]at h2
   have HMV:=hid hmv
   clear hmv h4
   have h5:(mv==0)=false:=by simpa using h2
   go_enter Tryz.func24,Tryz.ntmps24
   go_wp2_with (go_at_call 52;refine(impl_memFault _ ms b _ HM2.out).mono ?_;rintro e w ⟨rfl,rfl⟩;rw[HMV.out])
   go_ret
   exact⟨by first|rfl|simp[h5],rfl⟩
 ·have h1i:¬(n:Int)=64:=by omega
  rw[decide_eq_false h1,Bool.false_and]
  clear hn
  go_enter Tryz.func24,Tryz.ntmps24
  go_wp2_with fail
  go_ret
  exact⟨by first|rfl|simp_all,rfl⟩
theorem i_soloFault(r c i o l m:Value)(H:Ht)(ps:List (Int×Int))(zs:List Int)(b:Nat)(w:World)(h:Sm w b r c i o l m H ps zs)(hl:ps.length≤1048576):
  Calls Tryz.prog 59 #[.agg #[r,.int .i64 H.pc,c,.bool H.halted,.bool H.waiting,.bool H.rung,.int .i64 H.done,i,o,l,m]] w fun e w'=>e=.returned (.int .i64 (sfV H ps zs))∧Below w.heap.size w w':=by
 have HS:=hid h
 have HL:=hid hl
 obtain⟨z,hz⟩:∃z,sfV H ps zs=z:=⟨_,rfl⟩
 obtain⟨x,hx⟩:∃x,hfV H=x:=⟨_,rfl⟩
 obtain⟨y,hy⟩:∃y,pgsV ps 8=y:=⟨_,rfl⟩
 rw[hz]
 have Z:Hid (z=if x=0 then(if y=0 then(if wholeS zs=true then 0 else 1)else y)else x):=by show _=_;rw[←hz,←hx,←hy];rfl
 have HX:=hid hx
 have HY:=hid hy
 clear hz hx hy
 clear hl
 obtain⟨a0,k0,e0,_⟩:=h.h.r.shape
 obtain⟨a1,k1,e1,_⟩:=h.h.c.shape
 obtain⟨a2,k2,e2,_⟩:=h.h.i.shape
 obtain⟨a3,k3,e3,_⟩:=h.h.o.shape
 obtain⟨a4,k4,e4,_⟩:=h.pl.shape
 obtain⟨a5,k5,e5,_,l5,_⟩:=h.mm.shape
 clear h
 subst e0 e1 e2 e3 e4 e5
 generalize hn0:H.regs.length=n0 at*
 generalize hn1:H.csr.length=n1 at*
 generalize hn2:H.inn.length=n2 at*
 generalize hn3:H.out.length=n3 at*
 obtain⟨n4,hn4⟩:∃n,ps.length=n:=⟨_,rfl⟩
 rw[hn4]at HS ⊢
 obtain⟨n5,hn5⟩:∃n,zs.length=n:=⟨_,rfl⟩
 have LZ:=hid hn5
 rw[hn5]at HS ⊢
 have l5i:(n5:Int)≤9223372036854775807:=by have:=HS.out.mm.lens;unfold maxLen at this;omega
 clear hn0 hn1 hn2 hn3 hn4 hn5 l5
 generalize hW:w.alloc (.cells #[.slice a0 n0 k0,.int .i64 H.pc,.slice a1 n1 k1,.bool H.halted,.bool H.waiting,.bool H.rung,.int .i64 H.done,.slice a2 n2 k2,.slice a3 n3 k3,.slice a4 n4 k4,.slice a5 n5 k5] 50)=W
 have B0:Hid (Below w.heap.size w W):=by show Below _ _ _;rw[←hW];exact al (Below.refl _ _) _
 obtain⟨s,hS⟩:∃s,w.heap.size=s:=⟨_,rfl⟩
 have Q:Hid (Vb W s #[.slice a0 n0 k0,.int .i64 H.pc,.slice a1 n1 k1,.bool H.halted,.bool H.waiting,.bool H.rung,.int .i64 H.done,.slice a2 n2 k2,.slice a3 n3 k3,.slice a4 n4 k4,.slice a5 n5 k5] 50):=by show Vb _ _ _ _;rw[←hW,←hS];exact Vb.new _ _ _
 have q0:=Q.out.cell 0 rfl
 have q1:=Q.out.cell 1 rfl
 have q2:=Q.out.cell 2 rfl
 have q3:=Q.out.cell 3 rfl
 have q4:=Q.out.cell 4 rfl
 have q5:=Q.out.cell 5 rfl
 have q6:=Q.out.cell 6 rfl
 have q7:=Q.out.cell 7 rfl
 have q8:=Q.out.cell 8 rfl
 go_enter Tryz.func59,Tryz.ntmps59
 go_wp2_with fail
 clear hW hS q0 q1 q2 q3 q4 q5 q6 q7 q8
 refine(i_fault _ _ _ _ H _ _ (HS.out.h.keep B0.out)).mono ?_
 rw[HX.out]
 rintro e w1⟨rfl,b1⟩
 have B1:=hid (on B0.out b1)
 have Q1:=hid (Q.out.keep b1)
 clear b1 Q B0
 by_cases h0:x=0
 ·have X0:Hid (x=0):=h0
  have hx0:(x !=0)=false:=by simp[h0]
  clear h0
  have q9:=Q1.out.cell 9 rfl
  go_wp2_with fail
  clear q9
  refine(impl_fault _ ps 8 _ _ (HS.out.pl.keep B1.out) HL.out).mono ?_
  rw[HY.out]
  rintro e w2⟨rfl,b2⟩
  have B2:=hid (on B1.out b2)
  have Q2:=hid (Q1.out.keep b2)
  clear b2 Q1
  by_cases h1:y=0
  ·have Y0:Hid (y=0):=h1
   have hy0:(y !=0)=false:=by simp[h1]
   clear h1
   have q10:=Q2.out.cell 10 rfl
   go_wp2_with fail
   clear q10
   refine(i_whole8 _ zs _ _ (HS.out.mm.keep B2.out)).mono ?_
   rintro e y2⟨rfl,hy2⟩
   rw[hy2]
   clear hy2 y2
   cases hw:wholeS zs with
   |true=>
    go_wp2_with fail
    go_ret
    exact⟨by rw[Z.out,if_pos X0.out,if_pos Y0.out,hw];rfl,B2.out⟩
   |false=>
    go_wp2_with fail
    go_ret
    exact⟨by rw[Z.out,if_pos X0.out,if_pos Y0.out,hw];rfl,B2.out⟩
  ·have Y0:Hid (¬y=0):=h1
   have hy0:(y !=0)=true:=by simp[h1]
   clear h1
   go_wp2_with fail
   go_ret
   exact⟨by rw[Z.out,if_pos X0.out,if_neg Y0.out];rfl,B2.out⟩
 ·have X0:Hid (¬x=0):=h0
  have hx0:(x !=0)=true:=by simp[h0]
  clear h0
  go_wp2_with fail
  go_ret
  exact⟨by rw[Z.out,if_neg X0.out];rfl,B1.out⟩
def swC(H:Ht)(ps:List (Int×Int))(zs:List Int)(pg:Int):Int:=if sfV H ps zs=0 then(if 0≤pg∧pg≤7 then 0 else 3)else sfV H ps zs
def swZ(H:Ht)(ps:List (Int×Int))(zs:List Int)(pg:Int):List Int:=if swC H ps zs pg=0 then wordsL zs [pg]else []
theorem sw_whole{H:Ht}{ps:List (Int×Int)}{zs:List Int}(h:sfV H ps zs=0):zs.length=64:=by
 unfold sfV at h
 split at h
 ·split at h
  ·split at h
   ·next hw=>unfold wholeS at hw;simp at hw;exact hw.1
   ·omega
  ·omega
 ·omega
theorem sw_sp{H:Ht}{ps:List (Int×Int)}{zs:List Int}{pg:Int}(h:swC H ps zs pg=0):sfV H ps zs=0∧0≤pg∧pg≤7:=by
 unfold swC at h
 split at h
 ·next h0=>
  split at h
  ·next h1=>exact⟨h0,h1⟩
  ·omega
 ·next h0=>exact absurd h h0
theorem i_soloPageFault(r c i o l m:Value)(H:Ht)(ps:List (Int×Int))(zs:List Int)(pg:Int)(b:Nat)(w:World)(h:Sm w b r c i o l m H ps zs)(hl:ps.length≤1048576):
  Calls Tryz.prog 32 #[.agg #[r,.int .i64 H.pc,c,.bool H.halted,.bool H.waiting,.bool H.rung,.int .i64 H.done,i,o,l,m],.int .i64 pg] w fun e w'=>e=.returned (.int .i64 (swC H ps zs pg))∧Below w.heap.size w w':=by
 obtain⟨a0,k0,e0,_⟩:=h.h.r.shape
 obtain⟨a1,k1,e1,_⟩:=h.h.c.shape
 obtain⟨a2,k2,e2,_⟩:=h.h.i.shape
 obtain⟨a3,k3,e3,_⟩:=h.h.o.shape
 obtain⟨a4,k4,e4,_⟩:=h.pl.shape
 obtain⟨a5,k5,e5,_,l5,hg5⟩:=h.mm.shape
 subst e0 e1 e2 e3 e4 e5
 generalize hn0:H.regs.length=n0 at*
 generalize hn1:H.csr.length=n1 at*
 generalize hn2:H.inn.length=n2 at*
 generalize hn3:H.out.length=n3 at*
 obtain⟨n4,hn4⟩:∃n,ps.length=n:=⟨_,rfl⟩
 rw[hn4]at h ⊢
 obtain⟨n5,hn5⟩:∃n,zs.length=n:=⟨_,rfl⟩
 have LZ:=hid hn5
 have HG5:Hid (0<zs.length→∃g,a5=some ⟨g,0,none⟩):=by first|exact hg5|(show _→_;intro hh;exact hg5 (by omega))
 rw[hn5]at h ⊢
 have HS:=hid h
 have HL:=hid hl
 clear h hl hn0 hn1 hn2 hn3 hn4 hn5 l5 hg5
 generalize hW:w.alloc (.cells #[.slice a0 n0 k0,.int .i64 H.pc,.slice a1 n1 k1,.bool H.halted,.bool H.waiting,.bool H.rung,.int .i64 H.done,.slice a2 n2 k2,.slice a3 n3 k3,.slice a4 n4 k4,.slice a5 n5 k5] 50)=W
 have B0:Hid (Below w.heap.size w W):=by show Below _ _ _;rw[←hW];exact al (Below.refl _ _) _
 obtain⟨s,hS⟩:∃s,w.heap.size=s:=⟨_,rfl⟩
 have Q:Hid (Vb W s #[.slice a0 n0 k0,.int .i64 H.pc,.slice a1 n1 k1,.bool H.halted,.bool H.waiting,.bool H.rung,.int .i64 H.done,.slice a2 n2 k2,.slice a3 n3 k3,.slice a4 n4 k4,.slice a5 n5 k5] 50):=by
  show Vb _ _ _ _
  rw[←hW,←hS]
  exact Vb.new _ _ _
 obtain⟨x,hx⟩:∃x,sfV H ps zs=x:=⟨_,rfl⟩
 have HX:=hid hx
 clear hx
 have q0:=Q.out.cell 0 rfl
 have q1:=Q.out.cell 1 rfl
 have q2:=Q.out.cell 2 rfl
 have q3:=Q.out.cell 3 rfl
 have q4:=Q.out.cell 4 rfl
 have q5:=Q.out.cell 5 rfl
 have q6:=Q.out.cell 6 rfl
 have q7:=Q.out.cell 7 rfl
 have q8:=Q.out.cell 8 rfl
 have q9:=Q.out.cell 9 rfl
 have q10:=Q.out.cell 10 rfl
 go_enter Tryz.func32,Tryz.ntmps32
 go_wp2_with fail
 clear hW hS q0 q1 q2 q3 q4 q5 q6 q7 q8 q9 q10
 refine(i_soloFault _ _ _ _ _ _ H ps zs _ _ (HS.out.keep B0.out) HL.out).mono ?_
 rw[HX.out]
 rintro e w1⟨rfl,b1⟩
 have B1:=hid (on B0.out b1)
 clear b1
 by_cases h0:x=0
 ·have X0:Hid (x=0):=h0
  have hx0:(x !=0)=false:=by simp[h0]
  clear h0
  by_cases h1:pg<0
  ·have CV:Hid (swC H ps zs pg=3):=by show _=_;rw[swC,HX.out,if_pos X0.out,if_neg (by omega)]
   go_wp2_with fail
   go_ret
   exact⟨by rw[CV.out];rfl,B1.out⟩
  ·by_cases h2:8≤pg
   ·have CV:Hid (swC H ps zs pg=3):=by show _=_;rw[swC,HX.out,if_pos X0.out,if_neg (by omega)]
    go_wp2_with fail
    go_ret
    exact⟨by rw[CV.out];rfl,B1.out⟩
   ·have CV:Hid (swC H ps zs pg=0):=by show _=_;rw[swC,HX.out,if_pos X0.out,if_pos (by omega)]
    go_wp2_with fail
    go_ret
    exact⟨by rw[CV.out];rfl,B1.out⟩
 ·have X0:Hid (¬x=0):=h0
  have hx0:(x !=0)=true:=by simp[h0]
  have CV:Hid (swC H ps zs pg=x):=by show _=_;rw[swC,HX.out,if_neg h0]
  clear h0
  go_wp2_with fail
  go_ret
  exact⟨by rw[CV.out];rfl,B1.out⟩
theorem i_soloWords(r c i o l m:Value)(H:Ht)(ps:List (Int×Int))(zs:List Int)(pg:Int)(b:Nat)(w:World)(h:Sm w b r c i o l m H ps zs)(hl:ps.length≤1048576):
  Calls Tryz.prog 12 #[.agg #[r,.int .i64 H.pc,c,.bool H.halted,.bool H.waiting,.bool H.rung,.int .i64 H.done,i,o,l,m],.int .i64 pg] w fun e w'=>∃v,e=.returned (.agg #[.int .i64 (swC H ps zs pg),v])∧Nums w' w.heap.size v (swZ H ps zs pg)∧Below w.heap.size w w':=by
 obtain⟨a0,k0,e0,_⟩:=h.h.r.shape
 obtain⟨a1,k1,e1,_⟩:=h.h.c.shape
 obtain⟨a2,k2,e2,_⟩:=h.h.i.shape
 obtain⟨a3,k3,e3,_⟩:=h.h.o.shape
 obtain⟨a4,k4,e4,_⟩:=h.pl.shape
 obtain⟨a5,k5,e5,_,l5,hg5⟩:=h.mm.shape
 subst e0 e1 e2 e3 e4 e5
 generalize hn0:H.regs.length=n0 at*
 generalize hn1:H.csr.length=n1 at*
 generalize hn2:H.inn.length=n2 at*
 generalize hn3:H.out.length=n3 at*
 obtain⟨n4,hn4⟩:∃n,ps.length=n:=⟨_,rfl⟩
 rw[hn4]at h ⊢
 obtain⟨n5,hn5⟩:∃n,zs.length=n:=⟨_,rfl⟩
 have LZ:=hid hn5
 have HG5:Hid (0<zs.length→∃g,a5=some ⟨g,0,none⟩):=by first|exact hg5|(show _→_;intro hh;exact hg5 (by omega))
 rw[hn5]at h ⊢
 have HS:=hid h
 have HL:=hid hl
 clear h hl hn0 hn1 hn2 hn3 hn4 hn5 l5 hg5
 generalize hW:(w.alloc (.cells #[.slice a0 n0 k0,.int .i64 H.pc,.slice a1 n1 k1,.bool H.halted,.bool H.waiting,.bool H.rung,.int .i64 H.done,.slice a2 n2 k2,.slice a3 n3 k3,.slice a4 n4 k4,.slice a5 n5 k5] 50)).alloc (.cells #[.int .i64 0,.slice none 0 0] 44)=W
 have B0:Hid (Below w.heap.size w W):=by show Below _ _ _;rw[←hW];exact al (al (Below.refl _ _) _) _
 obtain⟨s,hS⟩:∃s,w.heap.size=s:=⟨_,rfl⟩
 have HSs:=hid hS
 have Q:Hid (Vb W s #[.slice a0 n0 k0,.int .i64 H.pc,.slice a1 n1 k1,.bool H.halted,.bool H.waiting,.bool H.rung,.int .i64 H.done,.slice a2 n2 k2,.slice a3 n3 k3,.slice a4 n4 k4,.slice a5 n5 k5] 50):=by
  show Vb _ _ _ _
  rw[←hW,←hS]
  exact(Vb.new _ _ _).keep (al (Below.refl _ _) _)
 have R:Hid (Vb W (s+1) #[.int .i64 0,.slice none 0 0] 44):=by
  have z1:s+1=(w.alloc (.cells #[.slice a0 n0 k0,.int .i64 H.pc,.slice a1 n1 k1,.bool H.halted,.bool H.waiting,.bool H.rung,.int .i64 H.done,.slice a2 n2 k2,.slice a3 n3 k3,.slice a4 n4 k4,.slice a5 n5 k5] 50)).heap.size:=by rw[←hS];simp
  show Vb _ _ _ _
  rw[←hW,z1]
  exact Vb.new _ _ _
 have q0:=Q.out.cell 0 rfl
 have q1:=Q.out.cell 1 rfl
 have q2:=Q.out.cell 2 rfl
 have q3:=Q.out.cell 3 rfl
 have q4:=Q.out.cell 4 rfl
 have q5:=Q.out.cell 5 rfl
 have q6:=Q.out.cell 6 rfl
 have q7:=Q.out.cell 7 rfl
 have q8:=Q.out.cell 8 rfl
 have q9:=Q.out.cell 9 rfl
 have q10:=Q.out.cell 10 rfl
 go_enter Tryz.func12,Tryz.ntmps12
 go_wp2_with fail
 clear hW hS q0 q1 q2 q3 q4 q5 q6 q7 q8 q9 q10
 obtain⟨x,hx⟩:∃x,swC H ps zs pg=x:=⟨_,rfl⟩
 have HX:=hid hx
 clear hx
 refine(i_soloPageFault _ _ _ _ _ _ H ps zs pg _ _ (HS.out.keep B0.out) HL.out).mono ?_
 rw[HX.out]
 rintro e w1⟨rfl,b1⟩
 have B1:=hid (on B0.out b1)
 have D1:=hid b1
 have Q1:=hid (Q.out.keep b1)
 have R1:=hid (R.out.keep b1)
 clear b1
 by_cases h0:x=0
 case neg=>
  have hx0:(x !=0)=true:=by simp[h0]
  have CV:Hid (swC H ps zs pg=x):=by show _=_;exact HX.out
  have ZV:Hid (swZ H ps zs pg=[]):=by show _=_;rw[swZ,if_neg (by rw[CV.out];exact h0)]
  clear h0
  obtain⟨r0,r1⟩:=zc2 R1.out
  obtain⟨f0,f1⟩:=zf2 R1.out
  have lt:=R1.out.lt
  go_wp2_with fail
  exact bodyPost_ret (v:=.agg #[.int .i64 x,.slice none 0 0]) (by simp[results,Tryz.results12,go_sem,r0,r1]) rfl ⟨.slice none 0 0,by rw[CV.out],by rw[ZV.out];exact Nums.nil _ _,(B1.out.setCell (by have:=HSs.out;show w.heap.size≤s+1;omega) _).setCell (by have:=HSs.out;show w.heap.size≤s+1;omega) _⟩
 have hx0:(x !=0)=false:=by simp[h0]
 have SP:Hid (sfV H ps zs=0∧0≤pg∧pg≤7):=sw_sp (HX.out.trans h0)
 have CV:Hid (swC H ps zs pg=0):=HX.out.trans h0
 have ZV:Hid (swZ H ps zs pg=wordsL zs [pg]):=by show _=_;rw[swZ,if_pos (HX.out.trans h0)]
 clear h0
 have LE:Hid (zs.length=64):=sw_whole SP.out.1
 obtain⟨gm,hgm⟩:=HG5.out (by rw[LE.out];decide)
 subst hgm
 have HMw:=hid (HS.out.mm.keep (on B0.out D1.out))
 have q10:=Q1.out.cell 10 rfl
 go_wp2_with fail
 clear q10
 refine(i_wordsOn8 _ _ _ _ zs _ _ _ [pg] _ (HMw.out.keep (al (Below.refl _ _) _)) LE.out (ns_one _ _ _) (by intro x hx;rw[List.mem_singleton]at hx;rw[hx];exact SP.out.2) ⟨by simp,by simp⟩).mono ?_
 rintro e w2⟨v,rfl,n2',b2⟩
 have B2:Hid (Below w.heap.size w w2):=on B1.out (on (al (Below.refl _ _) _) b2)
 have D2:Hid (Below w1.heap.size w1 w2):=on (al (Below.refl _ _) _) b2
 obtain⟨ya,yc,hv,_,_,_⟩:=n2'.shape
 have NN:Hid (Nums w2 w.heap.size v (wordsL zs [pg])):=n2'.mono (Nat.le_trans B1.out.size (by simp))
 have NL:Hid (∀k,v.ownBlock=some k→w1.heap.size≤k):=fun k e=>Nat.le_trans (by simp) (n2'.lt k e).1
 have LT:Hid (s+1<w1.heap.size):=R1.out.lt
 generalize (wordsL zs [pg]).length=ln at hv
 subst hv
 have R2:=hid (R1.out.keep D2.out)
 obtain⟨r0,r1⟩:=zc2 R2.out
 obtain⟨f0,f1⟩:=zf2 R2.out
 have lt:=R2.out.lt
 clear b2 n2'
 go_wp2_with fail
 refine bodyPost_ret (v:=.agg #[.int .i64 0,.slice ya ln yc]) (by simp[results,Tryz.results12,go_sem,r0,r1]) rfl ⟨.slice ya ln yc,by rw[CV.out],?_,(B2.out.setCell (by have:=HSs.out;show w.heap.size≤s+1;omega) _).setCell (by have:=HSs.out;show w.heap.size≤s+1;omega) _⟩
 have ne:(Value.slice ya ln yc).ownBlock≠some (s+1):=fun e=>by have:=NL.out _ e;have:=LT.out;omega
 rw[ZV.out]
 exact(NN.out.put ⟨s+1,0,none⟩ (.int .i64 0) ne).put ⟨s+1,1,none⟩ (.slice ya ln yc) ne
def fzL(zs:List Int)(p:Nat)(ws:List Int)(j:Nat):List Int:=zs.take (p*8)++(ws.take j++zs.drop (p*8+j))
theorem fz_zero(zs:List Int)(p:Nat)(ws:List Int):fzL zs p ws 0=zs:=by simp[fzL]
theorem fz_len(zs:List Int)(p:Nat)(ws:List Int)(j:Nat)(hz:zs.length=64)(hp:p≤7)(hw:ws.length=8)(hj:j≤8):(fzL zs p ws j).length=64:=by
 simp[fzL]
 omega
theorem fz_succ(zs:List Int)(p:Nat)(ws:List Int)(j:Nat)(hz:zs.length=64)(hp:p≤7)(hw:ws.length=8)(hj:j<8):fzL zs p ws (j+1)=(fzL zs p ws j).set (p*8+j) (ws.getD j 0):=by
 apply List.ext_getElem?
 intro i
 unfold fzL
 rw[List.getElem?_set]
 simp only[List.getElem?_append,List.length_append,List.length_take,List.length_drop,List.getElem?_take,List.getElem?_drop]
 have a1:min (p*8) zs.length=p*8:=by omega
 have a2:min (j+1) ws.length=j+1:=by omega
 have a3:min j ws.length=j:=by omega
 rw[a1,a2,a3]
 by_cases h1:i<p*8
 ·have n:¬(p*8+j=i):=by omega
  simp only[if_pos h1,if_neg n]
 ·by_cases h2:p*8+j=i
  ·subst h2
   have e:p*8+j-p*8=j:=by omega
   have l:p*8+j<p*8+(j+(zs.length-(p*8+j))):=by omega
   have jj:j<j+1:=by omega
   have jw:j<ws.length:=by omega
   simp only[if_neg h1,e,if_pos jj,if_pos l,if_true]
   simp[List.getD,jw]
  ·by_cases h3:i-p*8<j
   ·have h4:i-p*8<j+1:=by omega
    simp only[if_neg h1,if_neg h2,if_pos h3,if_pos h4]
   ·have h4:¬i-p*8<j+1:=by omega
    simp only[if_neg h1,if_neg h2,if_neg h3,if_neg h4]
    congr 1
    omega
end Go.Proofs.YtignbeibcakgpaaGreatDoor
