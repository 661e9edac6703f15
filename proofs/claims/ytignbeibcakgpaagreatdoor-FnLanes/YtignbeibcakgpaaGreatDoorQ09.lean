import Derived.Laws.EntriesVeiled
import Derived.Laws.CopyOwn
import Derived.Deep.RegionLaw
import Derived.Test.YtignbeibcakgpaaGreatDoorQ06
import Derived.Test.YtignbeibcakgpaaGreatDoorQ07
namespace Go.Proofs.YtignbeibcakgpaaGreatDoor
set_option maxRecDepth 20000
set_option maxHeartbeats 16000000
open Go.RowKit
def inB(v lo hi:Int):Bool:=decide (lo≤v∧v≤hi)
theorem inB_true{v lo hi:Int}(h:lo≤v∧v≤hi):inB v lo hi=true:=decide_eq_true h
theorem spec_inI(v lo hi:Int)(w:World):Calls Tryz.prog 82 #[.int .i64 v,.int .i64 lo,.int .i64 hi] w fun e w'=>e=.returned (.bool (inB v lo hi))∧w'=w:=by
 by_cases h:lo≤v
 ·have e:inB v lo hi=decide (v≤hi):=by simp[inB,h]
  rw[e]
  go_enter Tryz.func82,Tryz.ntmps82
  go_wp2
  go_ret
  exact⟨rfl,rfl⟩
 ·have e:inB v lo hi=false:=by simp[inB,h]
  rw[e]
  go_enter Tryz.func82,Tryz.ntmps82
  go_wp2
  go_ret
  exact⟨rfl,rfl⟩
def bareD(op:Int):Bool:=decide (22≤op∧op≤26)
def bareA(op:Int):Bool:=decide (op=13∨op=19∨op=21∨23≤op∧op≤26)
def bareI(op:Int):Bool:=decide (23≤op∧op≤26)
theorem spec_bare(op:Int)(w:World)(h:1≤op∧op≤26):Calls Tryz.prog 138 #[.int .i64 op] w fun e w'=>e=.returned (.tuple #[.bool (bareD op),.bool (bareA op),.bool (bareI op)])∧w'=w:=by
 rcases op_class h with rfl|rfl|rfl|rfl|rfl|rfl|rfl|rfl|⟨g1,g2,g3,g4,g5,g6,g7,g8,g9⟩
 rotate_right 1
 ·have e1:bareD op=false:=decide_eq_false (by have g9:=g9.out;omega)
  have e2:bareA op=false:=decide_eq_false (by have g9:=g9.out;omega)
  have e3:bareI op=false:=decide_eq_false (by have g9:=g9.out;omega)
  rw[e1,e2,e3]
  clear e1 e2 e3 h
  go_enter Tryz.func138,Tryz.ntmps138
  go_wp2
  exact bodyPost_ret (v:=.tuple #[.bool false,.bool false,.bool false]) (by simp[results,Tryz.results138,go_sem]) rfl ⟨rfl,rfl⟩
 all_goals
  go_enter Tryz.func138,Tryz.ntmps138
  go_wp2
 all_goals exact bodyPost_ret (v:=.tuple #[.bool _,.bool _,.bool _]) (by simp[results,Tryz.results138,go_sem];exact⟨rfl,rfl,rfl⟩) rfl ⟨rfl,rfl⟩
def aluV(op a b:Int):Int:=
 if op=1 then addV a b else if op=2 then(a-b)%4294967296 else if op=3 then mulV a b else if op=4 then divV a b else if op=5 then remV a b else if op=6 then bitV 1 a b else if op=7 then bitV 2 a b else if op=8 then bitV 3 a b else if op=9 then shlV a b else if op=10 then shrV a b else if sgn a<sgn b then 1 else 0
theorem sub_eq(a b:Int):(a%4294967296-b%4294967296)%4294967296=(a-b)%4294967296:=by omega
theorem impl_sub(a b:Int)(w:World):Calls Tryz.prog 141 #[.int .i64 a,.int .i64 b] w fun e w'=>e=.returned (.int .i64 ((a-b)%4294967296))∧w'=w:=by
 go_enter Tryz.func141,Tryz.ntmps141
 go_wp2
 go_ret
 exact⟨ret_i64 (by first|rfl|simp|exact sub_eq a b),rfl⟩
theorem impl_less(a b:Int)(w:World):Calls Tryz.prog 152 #[.int .i64 a,.int .i64 b] w fun e w'=>e=.returned (.int .i64 (if sgn a<sgn b then 1 else 0))∧w'=w:=by
 by_cases h:sgn a<sgn b
 all_goals
  first|rw[if_pos h]|rw[if_neg h]
  go_enter Tryz.func152,Tryz.ntmps152
  go_wp2_with (go_at_call 123;refine(impl_signed _ _).mono ?_;rintro e w1 ⟨rfl,rfl⟩)
  go_ret
  exact⟨rfl,rfl⟩
theorem impl_clos1(a b:Int)(w:World):Calls Tryz.prog 145 #[.int .i64 a,.int .i64 b] w fun e w'=>e=.returned (.int .i64 (bitV 1 a b))∧Below w.heap.size w w':=by
 have hf:=field_value
 go_enter Tryz.func145,Tryz.ntmps145
 go_wp2_with (go_at_call 146;refine(impl_bit _ _ _ _).mono ?_;rintro e w1 ⟨rfl,hb⟩)
 go_ret
 exact⟨rfl,hb⟩
theorem impl_clos2(a b:Int)(w:World):Calls Tryz.prog 147 #[.int .i64 a,.int .i64 b] w fun e w'=>e=.returned (.int .i64 (bitV 2 a b))∧Below w.heap.size w w':=by
 have hf:=field_value
 go_enter Tryz.func147,Tryz.ntmps147
 go_wp2_with (go_at_call 146;refine(impl_bit _ _ _ _).mono ?_;rintro e w1 ⟨rfl,hb⟩)
 go_ret
 exact⟨rfl,hb⟩
theorem impl_clos3(a b:Int)(w:World):Calls Tryz.prog 148 #[.int .i64 a,.int .i64 b] w fun e w'=>e=.returned (.int .i64 (bitV 3 a b))∧Below w.heap.size w w':=by
 have hf:=field_value
 go_enter Tryz.func148,Tryz.ntmps148
 go_wp2_with (go_at_call 146;refine(impl_bit _ _ _ _).mono ?_;rintro e w1 ⟨rfl,hb⟩)
 go_ret
 exact⟨rfl,hb⟩
theorem impl_clos4(a b:Int)(w:World):Calls Tryz.prog 149 #[.int .i64 a,.int .i64 b] w fun e w'=>e=.returned (.int .i64 (shlV a b))∧w'=w:=by
 go_enter Tryz.func149,Tryz.ntmps149
 go_wp2_with (go_at_call 150;refine(impl_shl _ _ _).mono ?_;rintro e w1 ⟨rfl,rfl⟩)
 go_ret
 exact⟨rfl,rfl⟩
theorem impl_clos5(a b:Int)(w:World):Calls Tryz.prog 151 #[.int .i64 a,.int .i64 b] w fun e w'=>e=.returned (.int .i64 (shrV a b))∧w'=w:=by
 go_enter Tryz.func151,Tryz.ntmps151
 go_wp2_with (go_at_call 150;refine(impl_shr _ _ _).mono ?_;rintro e w1 ⟨rfl,rfl⟩)
 go_ret
 exact⟨rfl,rfl⟩
theorem aluV1(a b:Int):aluV 1 a b=(addV a b):=by simp[aluV]
theorem aluV2(a b:Int):aluV 2 a b=((a-b)%4294967296):=by simp[aluV]
theorem aluV3(a b:Int):aluV 3 a b=(mulV a b):=by simp[aluV]
theorem aluV4(a b:Int):aluV 4 a b=(divV a b):=by simp[aluV]
theorem aluV5(a b:Int):aluV 5 a b=(remV a b):=by simp[aluV]
theorem aluV6(a b:Int):aluV 6 a b=(bitV 1 a b):=by simp[aluV]
theorem aluV7(a b:Int):aluV 7 a b=(bitV 2 a b):=by simp[aluV]
theorem aluV8(a b:Int):aluV 8 a b=(bitV 3 a b):=by simp[aluV]
theorem aluV9(a b:Int):aluV 9 a b=(shlV a b):=by simp[aluV]
theorem aluV10(a b:Int):aluV 10 a b=(shrV a b):=by simp[aluV]
theorem aluV11(a b:Int):aluV 11 a b=(if sgn a<sgn b then 1 else 0):=by simp[aluV]
set_option linter.unusedVariables false
structure Ln where
 fr:Int
 dst:Int
 pg:Int
 af:Int
 tt:Int
deriving DecidableEq,Inhabited
def lz:Ln:=⟨0,0,0,0,0⟩
def Ln.val(r:Ln):Value:=.agg #[.int .i64 r.fr,.int .i64 r.dst,.int .i64 r.pg,.int .i64 r.af,.int .i64 r.tt]
def flat5:List Ln→List Value
 | []=> []
 |r::t=> .int .i64 r.fr:: .int .i64 r.dst:: .int .i64 r.pg:: .int .i64 r.af:: .int .i64 r.tt::flat5 t
theorem flat5_length(rs:List Ln):(flat5 rs).length=rs.length*5:=by
 induction rs with
 |nil=>rfl
 |cons r t ih=>simp[flat5,ih];omega
theorem flat5_append(rs qs:List Ln):flat5 (rs++qs)=flat5 rs++flat5 qs:=by
 induction rs with
 |nil=>rfl
 |cons r t ih=>simp[flat5,ih]
theorem flat5_get(rs:List Ln)(i:Nat)(h:i<rs.length):(flat5 rs)[i*5]? =some (.int .i64 (rs.getD i lz).fr)∧(flat5 rs)[i*5+1]? =some (.int .i64 (rs.getD i lz).dst)∧
  (flat5 rs)[i*5+2]? =some (.int .i64 (rs.getD i lz).pg)∧(flat5 rs)[i*5+3]? =some (.int .i64 (rs.getD i lz).af)∧(flat5 rs)[i*5+4]? =some (.int .i64 (rs.getD i lz).tt):=by
 induction rs generalizing i with
 |nil=>simp at h
 |cons r t ih=>
  cases i with
  |zero=>exact⟨rfl,rfl,rfl,rfl,rfl⟩
  |succ i=>
   have h2:=ih i (by simpa using h)
   rw[show(i+1)*5=i*5+1+1+1+1+1 by omega]
   simpa [flat5]using h2
theorem flat5_set(rs:List Ln)(i:Nat)(r:Ln)(h:i<rs.length):flat5 (rs.set i r)=
  (((((flat5 rs).set (i*5) (.int .i64 r.fr)).set (i*5+1) (.int .i64 r.dst)).set (i*5+2) (.int .i64 r.pg)).set (i*5+3) (.int .i64 r.af)).set (i*5+4) (.int .i64 r.tt):=by
 induction rs generalizing i with
 |nil=>simp at h
 |cons r t ih=>
  cases i with
  |zero=>rfl
  |succ i=>
   rw[show(i+1)*5=i*5+1+1+1+1+1 by omega]
   simp[flat5,ih i (by simpa using h)]
theorem flat5_one(rs:List Ln):∀u ∈ flat5 rs,u.oneCell'=true:=by
 induction rs with
 |nil=>intro u hu;cases hu
 |cons r t ih=>
  intro u hu
  rcases List.mem_cons.1 hu with rfl|hu
  ·rfl
  rcases List.mem_cons.1 hu with rfl|hu
  ·rfl
  rcases List.mem_cons.1 hu with rfl|hu
  ·rfl
  rcases List.mem_cons.1 hu with rfl|hu
  ·rfl
  rcases List.mem_cons.1 hu with rfl|hu
  ·rfl
  exact ih u hu
def Ls(e:TypeId)(w:World)(base:Nat)(v:Value)(rs:List Ln):Prop:=w.ownsRow base e 5 v rs.length (flat5 rs)
theorem Ls.keep{e:TypeId}{w w':World}{base:Nat}{v:Value}{rs:List Ln}(h:Ls e w base v rs)(hb:Below w.heap.size w w'):Ls e w' base v rs:=by
 refine World.ownsRow.kept h (below_grown hb none) ?_
 cases v.ownBlock<;>simp
variable{e:TypeId}{w:World}{base:Nat}{v:Value}{rs:List Ln}
theorem Ls.lt(h:Ls e w base v rs):∀k,v.ownBlock=some k→base≤k∧k<w.heap.size:=World.ownsRow.lt h
theorem Ls.nil(e:TypeId)(w:World)(base:Nat):Ls e w base (.slice none 0 0) []:=World.ownsRow_nil w base _ _
theorem Ls.cell{e:TypeId}{w:World}{base g n cap:Nat}{rs:List Ln}(h:Ls e w base (.slice (some ⟨g,0,none⟩) n cap) rs)(hn:n=rs.length)(i:Nat)(hi:i<n):
  w.cell? ⟨g,i*5,none⟩=some (.int .i64 (rs.getD i lz).fr)∧w.cell? ⟨g,i*5+1,none⟩=some (.int .i64 (rs.getD i lz).dst)∧
  w.cell? ⟨g,i*5+2,none⟩=some (.int .i64 (rs.getD i lz).pg)∧w.cell? ⟨g,i*5+3,none⟩=some (.int .i64 (rs.getD i lz).af)∧w.cell? ⟨g,i*5+4,none⟩=some (.int .i64 (rs.getD i lz).tt):=by
 subst hn
 rw[World.ownsRow.cellAt h (i*5) (by omega),World.ownsRow.cellAt h (i*5+1) (by omega),World.ownsRow.cellAt h (i*5+2) (by omega),World.ownsRow.cellAt h (i*5+3) (by omega),World.ownsRow.cellAt h (i*5+4) (by omega)]
 exact flat5_get rs i hi
theorem Ls.free{e:TypeId}{w:World}{base g n cap:Nat}{rs:List Ln}(h:Ls e w base (.slice (some ⟨g,0,none⟩) n cap) rs)(hn:n=rs.length)(i:Nat):w.frozen? ⟨g,i,none⟩=false:=by
 subst hn
 exact World.ownsRow.frozenAt h i
theorem Ls.shape(h:Ls e w base v rs):∃a cap,v=.slice a rs.length cap∧rs.length≤cap∧cap≤maxLen∧(0<rs.length→∃g,a=some ⟨g,0,none⟩):=by
 have h':=h
 obtain⟨h1,⟨rfl,h3⟩|⟨g,cap,cur,rfl,_,_,h4,h5,_⟩⟩:=h'
 ·exact⟨none,0,by rw[h3],by omega,by unfold maxLen;omega,fun hz=>by omega⟩
 ·exact⟨_,_,rfl,h4,h5,fun _=>⟨g,rfl⟩⟩
theorem Ls.store{e:TypeId}{w:World}{base g n cap:Nat}{rs:List Ln}(h:Ls e w base (.slice (some ⟨g,0,none⟩) n cap) rs)(hn:n=rs.length)(j:Nat)(r:Ln)(hj:j<n):
  Ls e (((((w.setCell ⟨g,j*5,none⟩ (.int .i64 r.fr)).setCell ⟨g,j*5+1,none⟩ (.int .i64 r.dst)).setCell ⟨g,j*5+2,none⟩ (.int .i64 r.pg)).setCell ⟨g,j*5+3,none⟩ (.int .i64 r.af)).setCell ⟨g,j*5+4,none⟩ (.int .i64 r.tt)) base (.slice (some ⟨g,0,none⟩) n cap) (rs.set j r):=by
 subst hn
 have h1:=(World.ownsRow.stored h (j*5) (.int .i64 r.fr)).1
 have h2:=(World.ownsRow.stored h1 (j*5+1) (.int .i64 r.dst)).1
 have h3:=(World.ownsRow.stored h2 (j*5+2) (.int .i64 r.pg)).1
 have h4:=(World.ownsRow.stored h3 (j*5+3) (.int .i64 r.af)).1
 have h5:=(World.ownsRow.stored h4 (j*5+4) (.int .i64 r.tt)).1
 unfold Ls
 rw[List.length_set,flat5_set rs j r hj]
 exact h5
def IsLanes(w:World)(a:Option Addr)(len cap:Nat)(rs:List Ln):Prop:=
 (a=none∧len=0∧cap=0∧rs=[])∨
 ∃x,a=some x∧len≤cap∧cap≤maxLen∧rs.length=len∧∀i,i<len→w.cell? (x.add (i*5))=some (.int .i64 (rs.getD i lz).fr)∧w.cell? (x.add (i*5+1))=some (.int .i64 (rs.getD i lz).dst)∧
  w.cell? (x.add (i*5+2))=some (.int .i64 (rs.getD i lz).pg)∧w.cell? (x.add (i*5+3))=some (.int .i64 (rs.getD i lz).af)∧w.cell? (x.add (i*5+4))=some (.int .i64 (rs.getD i lz).tt)
theorem IsLanes.stay{w w':World}{a:Option Addr}{len cap:Nat}{rs:List Ln}(h:IsLanes w a len cap rs)(b:Below w.heap.size w w'):IsLanes w' a len cap rs:=by
 rcases h with h|⟨x,rfl,h1,h2,h3,h4⟩
 ·exact .inl h
 ·exact .inr ⟨x,rfl,h1,h2,h3,fun i hi=>⟨cell_keep b (h4 i hi).1,cell_keep b (h4 i hi).2.1,cell_keep b (h4 i hi).2.2.1,cell_keep b (h4 i hi).2.2.2.1,cell_keep b (h4 i hi).2.2.2.2⟩⟩
theorem IsLanes.len{w:World}{a:Option Addr}{len cap:Nat}{rs:List Ln}(h:IsLanes w a len cap rs):len=rs.length:=by
 rcases h with⟨_,h1,_,rfl⟩|⟨x,_,_,_,h1,_⟩
 ·simpa using h1
 ·exact h1.symm
theorem IsLanes.cap{w:World}{a:Option Addr}{len cap:Nat}{rs:List Ln}(h:IsLanes w a len cap rs):len≤cap∧cap≤maxLen:=by
 rcases h with⟨_,h1,h2,_⟩|⟨x,_,h1,h2,_,_⟩
 ·subst h1 h2;exact⟨Nat.le_refl _,Nat.zero_le _⟩
 ·exact⟨h1,h2⟩
theorem Ls.read{e:TypeId}{w:World}{base n cap:Nat}{a:Option Addr}{rs:List Ln}(h:Ls e w base (.slice a n cap) rs):IsLanes w a n cap rs:=by
 obtain⟨a',cap',hv,l1,l2,hg⟩:=h.shape
 cases hv
 by_cases hz:0<rs.length
 ·obtain⟨g,rfl⟩:=hg hz
  refine .inr ⟨_,rfl,l1,l2,rfl,fun i hi=>?_⟩
  have:=h.cell rfl i hi
  simpa [Addr.add_lit]using this
 ·have h0:rs=[]:=by cases rs with
   |nil=>rfl
   |cons x t=>exact absurd (Nat.succ_pos _) hz
  subst h0
  cases a with
  |none=>
   obtain⟨h1,⟨hq,h3⟩|⟨g,cap,cur,hq,_⟩⟩:=h
   ·cases hq;exact .inl ⟨rfl,rfl,rfl,rfl⟩
   ·cases hq
  |some x=>exact .inr ⟨x,rfl,l1,l2,rfl,fun i hi=>absurd hi (Nat.not_lt_zero _)⟩
theorem wp_lane{ops:Array Oper}{rest:List Oper}{o:Oper}{act:Act}{Q:Exit→Act→World→Prop}(t e:TypeId)(he:Tryz.prog.underlying t=some (.slice e))(hinfo:(Tryz.prog.info? e).map (fun i=>(i.zero,i.size,i.bytes))=some (some lz.val,5,40))
  (w:World) (hgd:o.guard=none) (s x:Operand)
  (ho:o.op=.call { callee:=.builtin .append,args:=#[s,x],argTypes:=#[t,t]}) (base:Nat) (v:Value) (rs:List Ln) (hs:act.eval s=v) (hN:Ls e w base v rs)
  (B:Nat) (r:Ln) (hx:act.eval x=.slice (some ⟨B,0,none⟩) 1 1) (h0:w.cell? ⟨B,0,none⟩=some (.int .i64 r.fr)) (h1:w.cell? ⟨B,1,none⟩=some (.int .i64 r.dst)) (h2:w.cell? ⟨B,2,none⟩=some (.int .i64 r.pg)) (h3:w.cell? ⟨B,3,none⟩=some (.int .i64 r.af)) (h4:w.cell? ⟨B,4,none⟩=some (.int .i64 r.tt))
  (hlen:rs.length≤1000000000) (hbase:base≤w.heap.size)
  (h:∀v' w',Ls e w' base v' (rs++ [r])→w.grownBy w' v.ownBlock→wpList Tryz.prog ops Q rest (act.put o.dst v') w'):wpList Tryz.prog ops Q (o::rest) act w:=by
 obtain⟨i,hi,hz0,hz1,hz2⟩:=info_parts hinfo
 refine wpList_append_own w hgd s x t ho base e i _ 5 40 he hi hz0 hz1 hz2 rfl (by decide) v rs.length _ hs hN ⟨B,0,none⟩ 1 1 (flat5 [r]) hx rfl ?_ (flat5_one _) (by unfold maxLen;omega) (by omega) hbase ?_
 ·intro j u hj
  rw[Addr.add_lit,Nat.zero_add]
  match j,hj with
  |0,hj=>rw[h0];exact hj
  |1,hj=>rw[h1];exact hj
  |2,hj=>rw[h2];exact hj
  |3,hj=>rw[h3];exact hj
  |4,hj=>rw[h4];exact hj
  |j+5,hj=>simp[flat5]at hj
 ·intro v' w' hown hgrow _
  refine h v' w' ?_ hgrow
  unfold Ls
  rw[List.length_append,flat5_append]
  exact hown
structure Plc where
 own:List (List Int)
 lanes:List Ln
 bells:List (Int×Int)
 plan:List (Int×Int)
def pgOk(x:Int):Bool:=decide (0≤x)&&decide (x≤23)
def guestsV:List (List Int)→Int
 | []=>0
 |o::t=>if o.length<1∨5<o.length then 2 else if o.all pgOk=false then 3 else guestsV t
def dupF(seen:List Int):List Int→Bool
 | []=>false
 |z::t=>if z ∈ seen then true else dupF (seen++ [z]) t
def ownerFrom(i:Int):List (List Int)→Int→Int
 | [],_=> -1
 |o::t,pg=>if pg ∈ o then i else ownerFrom (i+1) t pg
def isG(n:Nat)(g:Int):Bool:=decide (0≤g)&&decide (g≤(n:Int)-1)
def endsV(n:Nat)(f t:Int):Int:=if isG n f=false∨isG n t=false then 4 else if f=t then 1 else 0
def usesV(l:Ln)(g p:Int):Bool:=decide (l.fr=g∧l.af=p∨l.dst=g∧l.tt=p)
def meetV(o l:Ln):Bool:=decide (o.pg=l.pg)||usesV o l.fr l.af||usesV o l.dst l.tt
def atOk(x:Int):Bool:=decide (5≤x)&&decide (x≤6)
def stOk(x:Int):Bool:=decide (1≤x)&&decide (x≤50)
def laneV(own:List (List Int))(ahead:List Ln)(l:Ln):Int:=
 if endsV own.length l.fr l.dst=0 then
  if pgOk l.pg=false∨atOk l.af=false∨atOk l.tt=false then 3
  else if 0≤ownerFrom 0 own l.pg then 6 else if ahead.any (fun o=>meetV o l)then 6 else 0
 else endsV own.length l.fr l.dst
def lanesV(own:List (List Int))(ahead:List Ln):List Ln→Int
 | []=>0
 |l::t=>if laneV own ahead l=0 then lanesV own (ahead++ [l]) t else laneV own ahead l
def bellV(n:Nat)(ahead:List (Int×Int))(b:Int×Int):Int:=if endsV n b.1 b.2=0 then(if b ∈ ahead then 6 else 0)else endsV n b.1 b.2
def bellsV(n:Nat)(ahead:List (Int×Int)):List (Int×Int)→Int
 | []=>0
 |b::t=>if bellV n ahead b=0 then bellsV n (ahead++ [b]) t else bellV n ahead b
def slotV(n:Nat)(s:Int×Int):Int:=if isG n s.1=false then 4 else if stOk s.2=false then 3 else 0
def slotsV(n:Nat):List (Int×Int)→Int
 | []=>0
 |s::t=>if slotV n s=0 then slotsV n t else slotV n s
def g1V(own:List (List Int)):Int:=if own.length<1∨3<own.length then 2 else guestsV own
def g2V(own:List (List Int)):Int:=if dupF [] own.flatten then 6 else 0
def g3V(P:Plc):Int:=if 4<P.lanes.length∨4<P.bells.length then 2 else 0
def g6V(P:Plc):Int:=if P.plan.length<1∨8<P.plan.length then 2 else slotsV P.own.length P.plan
def orV(a b:Int):Int:=if a=0 then b else a
def ownsV(P:Plc):Int:=orV (g1V P.own) (g2V P.own)
def linksV(P:Plc):Int:=orV (g3V P) (lanesV P.own [] P.lanes)
def restV(P:Plc):Int:=orV (bellsV P.own.length [] P.bells) (g6V P)
def pfV(P:Plc):Int:=orV (ownsV P) (orV (linksV P) (restV P))
theorem take_succ_getD{α:Type}(zs:List α)(d:α)(j:Nat)(h:j<zs.length):zs.take (j+1)=zs.take j++ [zs.getD j d]:=by
 rw[List.take_add_one,List.getElem?_eq_getElem h,List.getD,List.getElem?_eq_getElem h]
 simp
theorem drop_cons_getD{α:Type}(zs:List α)(d:α)(j:Nat)(h:j<zs.length):zs.drop j=zs.getD j d::zs.drop (j+1):=by
 rw[List.drop_eq_getElem_cons h,List.getD,List.getElem?_eq_getElem h]
 simp
theorem guests_step(own:List (List Int))(j:Nat)(h:j<own.length):guestsV (own.drop j)=
  if(own.getD j []).length<1∨5<(own.getD j []).length then 2 else if(own.getD j []).all pgOk=false then 3 else guestsV (own.drop (j+1)):=by
 rw[drop_cons_getD own [] j h,guestsV]
theorem all_step(zs:List Int)(f:Int→Bool)(j:Nat)(h:j<zs.length):(zs.drop j).all f=(f (zs.getD j 0)&&(zs.drop (j+1)).all f):=by
 rw[drop_cons_getD zs 0 j h,List.all_cons]
theorem any_step{α:Type}(d:α)(zs:List α)(f:α→Bool)(j:Nat)(h:j<zs.length):(zs.drop j).any f=(f (zs.getD j d)||(zs.drop (j+1)).any f):=by
 rw[drop_cons_getD zs d j h,List.any_cons]
theorem owner_step(own:List (List Int))(pg:Int)(j:Nat)(h:j<own.length):ownerFrom j (own.drop j) pg=if pg ∈ own.getD j []then(j:Int)else ownerFrom ((j+1:Nat):Int) (own.drop (j+1)) pg:=by
 rw[drop_cons_getD own [] j h,ownerFrom]
 rfl
theorem lanes_step(own:List (List Int))(zs:List Ln)(j:Nat)(h:j<zs.length):lanesV own (zs.take j) (zs.drop j)=
  if laneV own (zs.take j) (zs.getD j lz)=0 then lanesV own (zs.take (j+1)) (zs.drop (j+1))else laneV own (zs.take j) (zs.getD j lz):=by
 rw[drop_cons_getD zs lz j h,lanesV,take_succ_getD zs lz j h]
theorem bells_step(n:Nat)(zs:List (Int×Int))(j:Nat)(h:j<zs.length):bellsV n (zs.take j) (zs.drop j)=
  if bellV n (zs.take j) (zs.getD j (0,0))=0 then bellsV n (zs.take (j+1)) (zs.drop (j+1))else bellV n (zs.take j) (zs.getD j (0,0)):=by
 rw[drop_cons_getD zs (0,0) j h,bellsV,take_succ_getD zs (0,0) j h]
theorem slots_step(n:Nat)(zs:List (Int×Int))(j:Nat)(h:j<zs.length):slotsV n (zs.drop j)=
  if slotV n (zs.getD j (0,0))=0 then slotsV n (zs.drop (j+1))else slotV n (zs.getD j (0,0)):=by
 rw[drop_cons_getD zs (0,0) j h,slotsV]
def seenAt(own:List (List Int))(i k:Nat):List Int:=(own.take i).flatten++(own.getD i []).take k
def leftAt(own:List (List Int))(i k:Nat):List Int:=(own.getD i []).drop k++(own.drop (i+1)).flatten
theorem dup_step(own:List (List Int))(i k:Nat)(h:k<(own.getD i []).length):dupF (seenAt own i k) (leftAt own i k)=
  if(own.getD i []).getD k 0 ∈ seenAt own i k then true else dupF (seenAt own i (k+1)) (leftAt own i (k+1)):=by
 unfold leftAt seenAt
 rw[drop_cons_getD _ 0 k h,List.cons_append,dupF,take_succ_getD _ 0 k h,List.append_assoc]
theorem guests_all(own:List (List Int))(h:guestsV own=0):∀o ∈ own,1≤o.length∧o.length≤5∧∀x ∈ o,0≤x∧x≤23:=by
 induction own with
 |nil=>intro o ho;cases ho
 |cons a t ih=>
  rw[guestsV]at h
  split at h
  ·cases h
  ·rename_i h1
   split at h
   ·cases h
   ·rename_i h2
    intro o ho
    rcases List.mem_cons.1 ho with rfl|ho
    ·refine⟨by omega,by omega,fun x hx=>?_⟩
     have h3:o.all pgOk=true:=by simpa using h2
     have:=(List.all_eq_true.1 h3) x hx
     simpa [pgOk]using this
    ·exact ih h o ho
theorem owner_range(own:List (List Int))(pg:Int):∀i:Int,0≤i→ownerFrom i own pg= -1∨(i≤ownerFrom i own pg∧ownerFrom i own pg<i+own.length):=by
 induction own with
 |nil=>intro i _;exact .inl rfl
 |cons o t ih=>
  intro i hi
  rw[ownerFrom]
  split
  ·right;simp;omega
  ·rcases ih (i+1) (by omega)with h|h
   ·exact .inl h
   ·right;simp only[List.length_cons];omega
theorem made_replicate(z:Value)(k m:Nat)(hk:0<k):(madeCells (Array.replicate k z) m).toList=List.replicate m z:=by
 apply List.ext_getElem?
 intro j
 by_cases hj:j<m
 ·have:j%k<k:=Nat.mod_lt _ hk
  simp[madeCells,hj,this]
 ·simp[madeCells,hj]
theorem info_wpage:(Tryz.prog.info? 91).map (fun i=>(i.zero,i.size,i.bytes))=some (some (.agg (Array.replicate 8 (.int .i64 0))),8,64):=by kernel_rfl
def IsNs(w:World)(a:Option Addr)(len cap:Nat)(zs:List Int):Prop:=
 (a=none∧len=0∧cap=0∧zs=[])∨
 ∃x,a=some x∧len≤cap∧cap≤maxLen∧zs.length=len∧∀i,i<len→w.cell? (x.add i)=some (.int .i64 (zs.getD i 0))
theorem IsNs.stay{w w':World}{a:Option Addr}{len cap:Nat}{zs:List Int}(h:IsNs w a len cap zs)(b:Below w.heap.size w w'):IsNs w' a len cap zs:=by
 rcases h with h|⟨x,rfl,h1,h2,h3,h4⟩
 ·exact .inl h
 ·exact .inr ⟨x,rfl,h1,h2,h3,fun i hi=>cell_keep b (h4 i hi)⟩
theorem IsNs.len{w:World}{a:Option Addr}{len cap:Nat}{zs:List Int}(h:IsNs w a len cap zs):len=zs.length:=by
 rcases h with⟨_,h1,_,rfl⟩|⟨x,_,_,_,h1,_⟩
 ·simpa using h1
 ·exact h1.symm
theorem IsNs.cap{w:World}{a:Option Addr}{len cap:Nat}{zs:List Int}(h:IsNs w a len cap zs):len≤cap∧cap≤maxLen:=by
 rcases h with⟨_,h1,h2,_⟩|⟨x,_,h1,h2,_⟩
 ·subst h1 h2;exact⟨Nat.le_refl _,Nat.zero_le _⟩
 ·exact⟨h1,h2⟩
theorem IsRow.ns{w:World}{a:Option Addr}{len cap:Nat}{zs:List Int}(h:IsRow .i64 w a len cap zs):IsNs w a len cap zs:=by
 rcases h with h|⟨x,h0,h1,h2,h3,h4,_⟩
 ·exact .inl h
 ·exact .inr ⟨x,h0,h1,h2,h3,h4⟩
theorem Nums.read{w:World}{base n cap:Nat}{a:Option Addr}{zs:List Int}(h:Nums w base (.slice a n cap) zs):IsNs w a n cap zs:=by
 obtain⟨a',cap',hv,l1,l2,hg⟩:=h.shape
 cases hv
 by_cases hz:0<zs.length
 ·obtain⟨g,rfl⟩:=hg hz
  refine .inr ⟨_,rfl,l1,l2,rfl,fun i hi=>?_⟩
  have:=h.cell rfl i hi
  simpa [Addr.add_lit]using this
 ·have h0:zs=[]:=by cases zs with
   |nil=>rfl
   |cons x t=>exact absurd (Nat.succ_pos _) hz
  subst h0
  cases a with
  |none=>
   obtain⟨h1,⟨hq,h3⟩|⟨g,cap,cur,hq,_⟩⟩:=h
   ·cases hq;exact .inl ⟨rfl,rfl,rfl,rfl⟩
   ·cases hq
  |some x=>exact .inr ⟨x,rfl,l1,l2,rfl,fun i hi=>absurd hi (Nat.not_lt_zero _)⟩
theorem Prs.read{e:TypeId}{w:World}{base n cap:Nat}{a:Option Addr}{rs:List (Int×Int)}(h:Prs e w base (.slice a n cap) rs):IsPairs w a n cap rs:=by
 obtain⟨a',cap',hv,l1,l2,hg⟩:=h.shape
 cases hv
 by_cases hz:0<rs.length
 ·obtain⟨g,rfl⟩:=hg hz
  refine .inr ⟨_,rfl,l1,l2,rfl,fun i hi=>?_⟩
  have:=h.cell rfl i hi
  simpa [Addr.add_lit]using this
 ·have h0:rs=[]:=by cases rs with
   |nil=>rfl
   |cons x t=>exact absurd (Nat.succ_pos _) hz
  subst h0
  cases a with
  |none=>
   obtain⟨h1,⟨hq,h3⟩|⟨g,cap,cur,hq,_⟩⟩:=h
   ·cases hq;exact .inl ⟨rfl,rfl,rfl,rfl⟩
   ·cases hq
  |some x=>exact .inr ⟨x,rfl,l1,l2,rfl,fun i hi=>absurd hi (Nat.not_lt_zero _)⟩
theorem IsPairs.cap{w:World}{a:Option Addr}{len cap:Nat}{rs:List (Int×Int)}(h:IsPairs w a len cap rs):len≤cap∧cap≤maxLen:=by
 rcases h with⟨_,h1,h2,_⟩|⟨x,_,h1,h2,_,_⟩
 ·subst h1 h2;exact⟨Nat.le_refl _,Nat.zero_le _⟩
 ·exact⟨h1,h2⟩
def IsS2(w:World)(a:Option Addr)(len cap:Nat)(oss:List (List Int)):Prop:=
 (a=none∧len=0∧cap=0∧oss=[])∨
 ∃x,a=some x∧len≤cap∧cap≤maxLen∧oss.length=len∧∀i,i<len→∃b l c,w.cell? (x.add i)=some (.slice b l c)∧IsNs w b l c (oss.getD i [])
theorem IsS2.stay{w w':World}{a:Option Addr}{len cap:Nat}{oss:List (List Int)}(h:IsS2 w a len cap oss)(b:Below w.heap.size w w'):IsS2 w' a len cap oss:=by
 rcases h with h|⟨x,rfl,h1,h2,h3,h4⟩
 ·exact .inl h
 ·refine .inr ⟨x,rfl,h1,h2,h3,fun i hi=>?_⟩
  obtain⟨p,l,c,k1,k2⟩:=h4 i hi
  exact⟨p,l,c,cell_keep b k1,k2.stay b⟩
theorem IsS2.len{w:World}{a:Option Addr}{len cap:Nat}{oss:List (List Int)}(h:IsS2 w a len cap oss):len=oss.length:=by
 rcases h with⟨_,h1,_,rfl⟩|⟨x,_,_,_,h1,_⟩
 ·simpa using h1
 ·exact h1.symm
theorem IsS2.cap{w:World}{a:Option Addr}{len cap:Nat}{oss:List (List Int)}(h:IsS2 w a len cap oss):len≤cap∧cap≤maxLen:=by
 rcases h with⟨_,h1,h2,_⟩|⟨x,_,h1,h2,_,_⟩
 ·subst h1 h2;exact⟨Nat.le_refl _,Nat.zero_le _⟩
 ·exact⟨h1,h2⟩
theorem IsS2.at{w:World}{a:Option Addr}{len cap:Nat}{oss:List (List Int)}(h:IsS2 w a len cap oss)(i:Nat)(hi:i<len):∃x b l c,a=some x∧w.cell? (x.add i)=some (.slice b l c)∧IsNs w b l c (oss.getD i []):=by
 rcases h with⟨_,h1,_,_⟩|⟨x,rfl,h1,h2,h3,h4⟩
 ·omega
 ·obtain⟨b,l,c,k1,k2⟩:=h4 i hi
  exact⟨x,b,l,c,rfl,k1,k2⟩
theorem IsLanes.at{w:World}{a:Option Addr}{n c:Nat}{rs:List Ln}(h:IsLanes w a n c rs)(j:Nat)(hj:j<n):∃x,a=some x∧w.cell? (x.add (j*5))=some (.int .i64 (rs.getD j lz).fr)∧
  w.cell? ⟨(x.add (j*5)).block,(x.add (j*5)).off+1,none⟩=some (.int .i64 (rs.getD j lz).dst)∧w.cell? ⟨(x.add (j*5)).block,(x.add (j*5)).off+2,none⟩=some (.int .i64 (rs.getD j lz).pg)∧
  w.cell? ⟨(x.add (j*5)).block,(x.add (j*5)).off+3,none⟩=some (.int .i64 (rs.getD j lz).af)∧w.cell? ⟨(x.add (j*5)).block,(x.add (j*5)).off+4,none⟩=some (.int .i64 (rs.getD j lz).tt):=by
 rcases h with⟨_,h1,_,_⟩|⟨x,rfl,h1,h2,h3,h4⟩
 ·omega
 ·obtain⟨k0,k1,k2,k3,k4⟩:=h4 j hj
  refine⟨x,rfl,k0,?_,?_,?_,?_⟩
  ·show w.cell? ((x.add (j*5)).add 1)=_
   rw[Go.Deep.add_add];exact k1
  ·show w.cell? ((x.add (j*5)).add 2)=_
   rw[Go.Deep.add_add];exact k2
  ·show w.cell? ((x.add (j*5)).add 3)=_
   rw[Go.Deep.add_add];exact k3
  ·show w.cell? ((x.add (j*5)).add 4)=_
   rw[Go.Deep.add_add];exact k4
theorem IsPairs.at{w:World}{a:Option Addr}{n c:Nat}{rs:List (Int×Int)}(h:IsPairs w a n c rs)(j:Nat)(hj:j<n):∃x,a=some x∧w.cell? (x.add (j*2))=some (.int .i64 (rs.getD j (0,0)).1)∧
  w.cell? ⟨(x.add (j*2)).block,(x.add (j*2)).off+1,none⟩=some (.int .i64 (rs.getD j (0,0)).2):=by
 rcases h with⟨_,h1,_,_⟩|⟨x,rfl,h1,h2,h3,h4⟩
 ·omega
 ·obtain⟨k0,k1⟩:=h4 j hj
  refine⟨x,rfl,k0,?_⟩
  show w.cell? ((x.add (j*2)).add 1)=_
  rw[Go.Deep.add_add];exact k1
structure Pl(w:World)(a0:Option Addr)(n0 c0:Nat)(a1:Option Addr)(n1 c1:Nat)(a2:Option Addr)(n2 c2:Nat)(a3:Option Addr)(n3 c3:Nat)(P:Plc):Prop where
 own:IsS2 w a0 n0 c0 P.own
 lanes:IsLanes w a1 n1 c1 P.lanes
 bells:IsPairs w a2 n2 c2 P.bells
 plan:IsPairs w a3 n3 c3 P.plan
theorem Pl.stay{w w':World}{a0 a1 a2 a3:Option Addr}{n0 c0 n1 c1 n2 c2 n3 c3:Nat}{P:Plc}(h:Pl w a0 n0 c0 a1 n1 c1 a2 n2 c2 a3 n3 c3 P)(b:Below w.heap.size w w'):Pl w' a0 n0 c0 a1 n1 c1 a2 n2 c2 a3 n3 c3 P:=
 ⟨h.own.stay b,h.lanes.stay b,h.bells.stay b,h.plan.stay b⟩
variable{w:World}{base g p:Nat}{zs:List Int}
theorem Pags.heap(h:Pags w base (.slice (some ⟨g,0,none⟩) p p) p zs):w.heap[g]? =some (.cells (zs.map (Value.int .i64)).toArray 91 (0,0)):=by
 obtain⟨h1,⟨h2,h3⟩|⟨g',cap,cur,hv,hb,hh,h4,h5,h6,h7⟩⟩:=h
 ·simp at h2
 ·simp at hv
  obtain⟨rfl,rfl⟩:=hv
  rw[List.take_of_length_le (by simp[h6])]at h7
  rw[hh,←h7]
theorem Pags.of_heap(hh:w.heap[g]? =some (.cells (zs.map (Value.int .i64)).toArray 91 (0,0)))(hl:zs.length=p*8)(hb:base≤g)(hp:p≤maxLen):Pags w base (.slice (some ⟨g,0,none⟩) p p) p zs:=
 ⟨by simpa using hl,.inr ⟨g,p,_,rfl,hb,hh,Nat.le_refl _,hp,by simpa using hl,by rw[List.take_of_length_le (by simp[hl])]⟩⟩
def cutL(zs:List Int)(p j:Nat):List Int:=zs.take (j*8)++List.replicate ((p-j)*8) 0
theorem cutL_length(zs:List Int)(p j:Nat)(hz:zs.length=p*8)(hj:j≤p):(cutL zs p j).length=p*8:=by
 simp[cutL,hz]
 omega
def eight(zs:List Int)(j:Nat):List Int:=(zs.drop (j*8)).take 8
theorem eight_length(zs:List Int)(p j:Nat)(hz:zs.length=p*8)(hj:j<p):(eight zs j).length=8:=by
 simp[eight,hz]
 omega
theorem splice_cut(zs:List Int)(p j:Nat)(hz:zs.length=p*8)(hj:j<p):
  splice ((cutL zs p j).map (Value.int .i64)) (j*8) ((eight zs j).map (Value.int .i64))=(cutL zs p (j+1)).map (Value.int .i64):=by
 have h8:=eight_length zs p j hz hj
 unfold splice
 rw[List.length_map,h8,←List.map_take,←List.map_drop,←List.map_append,←List.map_append]
 congr 1
 have e1:(cutL zs p j).take (j*8)=zs.take (j*8):=by
  unfold cutL
  rw[List.take_append_of_le_length (by simp[hz];omega),List.take_take,Nat.min_self]
 have e2:(cutL zs p j).drop (j*8+8)=List.replicate ((p-(j+1))*8) 0:=by
  unfold cutL
  rw[List.drop_append,List.drop_of_length_le (by simp;omega),List.nil_append,List.drop_replicate]
  congr 1
  simp[hz]
  omega
 rw[e1,e2,←List.append_assoc]
 unfold cutL eight
 rw[show(j+1)*8=j*8+8 by omega,List.take_add]
theorem eight_cell{w:World}{base g n cap:Nat}{zs:List Int}(h:Nums w base (.slice (some ⟨g,0,none⟩) n cap) zs)(p j:Nat)(hz:zs.length=p*8)(hj:j<p)(hn:n=zs.length):
  ∀i v,((eight zs j).map (Value.int .i64))[i]? =some v→w.cell? ((⟨g,j*8,none⟩:Addr).add i)=some v:=by
 intro i v hv
 have hi:i<8:=by
  have:=(List.getElem?_eq_some_iff.1 hv).1
  rw[List.length_map,eight_length zs p j hz hj]at this
  exact this
 rw[Addr.add_lit,h.cell hn (j*8+i) (by omega),←hv]
 simp only[eight,List.getElem?_map,List.getElem?_take,hi,if_true,List.getElem?_drop,List.getD]
 rw[List.getElem?_eq_getElem (by omega)]
 rfl
theorem impl_cut(gm n cap:Nat)(zs:List Int)(b p:Nat)(w:World)(h:Nums w b (.slice (some ⟨gm,0,none⟩) n cap) zs)(hz:zs.length=p*8)(hp:p≤24)(hp0:1≤p):
  Calls Tryz.prog 46 #[.slice (some ⟨gm,0,none⟩) n cap] w fun e w'=>∃g,e=.returned (.slice (some ⟨g,0,none⟩) p p)∧Pags w' w.heap.size (.slice (some ⟨g,0,none⟩) p p) p zs∧Below w.heap.size w w':=by
 obtain⟨i,hi,hz0,hz1,hz2⟩:=info_parts info_wpage
 have HM:Hid (Nums w b _ zs):=h
 have hnn:=h.len
 obtain⟨hl1,hl2⟩:=h.lens
 unfold maxLen at hl2
 have HZ:=hid hz
 have HP:Hid (1≤p∧p≤24):=⟨hp0,hp⟩
 obtain rfl:n=p*8:=by omega
 have HC:Hid (p*8≤cap∧cap≤9223372036854775807):=⟨by omega,hl2⟩
 have hpi:(p:Int)≤24:=by omega
 clear h hz hp hp0 hnn hl1 hl2
 go_enter Tryz.func46,Tryz.ntmps46
 go_wp2_with (at_make;refine wpList_make_full _ rfl _ _ 109 rfl w.heap.size 91 i _ 8 Tryz.underlying109 hi hz0 hz1 _ _ _ _ p rfl rfl (by omega) (by omega) (by have:=HP.out;rw[hz2];omega) (by have:=HP.out;unfold maxLen;omega) (by simp) ?_;intro w1 hown hgrow;have b1:=(Below.refl _ _).grown hgrow (Nat.le_refl _) (by simp))
 have P1:Hid (w1.heap[w.heap.size]? =some (.cells ((cutL zs p 0).map (Value.int .i64)).toArray 91 (0,0))):=by
  refine Pags.heap (base:=w.heap.size) (p:=p) ?_
  unfold Pags
  rw[show(Value.agg (Array.replicate 8 (.int .i64 0))).cells=Array.replicate 8 (.int .i64 0)from rfl,made_replicate _ _ _ (by decide)]at hown
  simpa [cutL]using hown
 have B1:=hid b1
 clear hown hgrow hi hz0 hz1 hz2 b1
 go_wp2_with fail
 go_loopw [4,11] (fun _ c wr=>∃j:Nat,j≤p∧c=.int .i64 j∧Hid (wr.heap[w.heap.size]? =some (.cells ((cutL zs p j).map (Value.int .i64)).toArray 91 (0,0)))∧Below w.heap.size w wr) (fun _ c _=>p-(intOf c).toNat)
 case atStart=>exact⟨0,Nat.zero_le _,rfl,P1,B1.out⟩
 case round=>
  obtain⟨j,hj,rfl,hH,hB⟩:=hrel
  have HB:Hid (Below _ _ _):=hB
  clear hB P1
  by_cases hlt:j<p
  ·have hJ:(j:Int)<(p:Int):=by omega
   have HLT:=hid hlt
   have HS:Hid (∀i v,((eight zs j).map (Value.int .i64))[i]? =some v→wr.cell? ((⟨gm,j*8,none⟩:Addr).add i)=some v):=by
    intro i v hv
    exact cell_keep HB.out (eight_cell HM.out p j HZ.out hlt HZ.out.symm i v hv)
   obtain⟨X,hX⟩:∃X,X=(eight zs j).map (Value.int .i64):=⟨_,rfl⟩
   obtain⟨Y,hY⟩:∃Y,Y=(cutL zs p j).map (Value.int .i64):=⟨_,rfl⟩
   rw[←hX]at HS
   rw[←hY]at hH
   have XL:Hid (X.length=8):=by show _=_;rw[hX,List.length_map];exact eight_length zs p j HZ.out hlt
   have YL:Hid (Y.length=p*8):=by show _=_;rw[hY,List.length_map];exact cutL_length zs p j HZ.out hj
   have X1:Hid (∀v ∈ X,v.oneCell'=true):=by
    intro v hv
    rw[hX]at hv
    obtain⟨z,_,rfl⟩:=List.mem_map.1 hv
    rfl
   have SP:Hid (splice Y (j*8) X=(cutL zs p (j+1)).map (Value.int .i64)):=by show _=_;rw[hX,hY];exact splice_cut zs p j HZ.out hlt
   obtain⟨k,hk⟩:∃k:Nat,j*8=k:=⟨_,rfl⟩
   have HK:=hid hk
   have hw:IntKind.i64.wrap ((j:Int)*8)=(k:Int):=by
    rw[show(j:Int)*8=(k:Int) by omega]
    rw[IntKind.wrap_i64];omega
   have hk1:(k:Int)≤(p:Int)*8:=by omega
   have hk2:¬cap=k:=by have:=HC.out;omega
   have hk3:Hid (k+8≤p*8):=by show _≤_;omega
   clear hX hY hlt hk
   go_wp2_with fail
   go_region_law (refine step_copy_splice rfl (.tmp 17) (.tmp 21) 32 32 rfl 2 Tryz.underlying32 (by kernel_rfl) (some ⟨w.heap.size,j*8,none⟩) (some ⟨gm,k,none⟩) 8 8 (p*8-k) (cap-k) (by simp[Act.eval,Act.put]) (by simp[Act.eval,Act.put]) w.heap.size (j*8) Y 91 hH.out X (by rw[XL.out];have:=hk3.out;exact(Nat.min_eq_right (by omega)).symm) (fun _=>⟨rfl,_,rfl,by rw[←HK.out];exact HS.out⟩) (by rw[XL.out,YL.out];have:=hk3.out;have:=HK.out;omega) X1.out w.heap.size w (by first|exact HB.out|exact HB.out.drew|exact HB.out.drew.drew) (Nat.le_refl _) ?_;intro w4 hg4 hb4)
   have H4:Hid (w4.heap[w.heap.size]? =some (.cells ((cutL zs p (j+1)).map (Value.int .i64)).toArray 91 (0,0))):=by
    show _=_
    rw[←SP.out]
    exact hg4.out
   have B4:=hid hb4
   clear hg4 hb4 SP X1 XL YL HS hH
   go_wp2_with fail
   go_roundw
   case rel=>exact⟨j+1,by have:=HLT.out;omega,by go_num,H4,B4.out⟩
   case measure=>have:=HLT.out;simp[intOf];omega
  ·have hJ:¬(j:Int)<(p:Int):=by omega
   obtain rfl:j=p:=by omega
   go_wp2_with fail
   go_ret
   refine⟨_,rfl,?_,HB.out⟩
   have h1:=hH.out
   have e:cutL zs j j=zs:=by simp[cutL,List.take_of_length_le (Nat.le_of_eq HZ.out)]
   rw[e]at h1
   exact Pags.of_heap h1 HZ.out (Nat.le_refl _) (by have:=HP.out;unfold maxLen;omega)
def forP(to k:Int):Int×Int:=if k=0 then(-1,0)else(to,k)
theorem impl_pageFor(to k:Int)(w:World):Calls Tryz.prog 57 #[.int .i64 to,.int .i64 k] w fun e w'=>e=.returned (.agg #[.int .i64 (forP to k).1,.int .i64 (forP to k).2])∧Below w.heap.size w w':=by
 by_cases h:k=0
 ·subst h
  rw[forP,if_pos rfl]
  go_enter Tryz.func57,Tryz.ntmps57
  go_wp2_with fail
  exact bodyPost_ret (v:=.agg #[.int .i64 (-1),.int .i64 0]) (by simp[results,Tryz.results57,go_sem]) rfl ⟨rfl,al (Below.refl _ _) _⟩
 ·rw[forP,if_neg h]
  have g:(k==0)=false:=beq_eq_false_iff_ne.2 h
  go_enter Tryz.func57,Tryz.ntmps57
  go_wp2_with fail
  exact bodyPost_ret (v:=.agg #[.int .i64 to,.int .i64 k]) (by simp[results,Tryz.results57,go_sem]) rfl ⟨rfl,al (Below.refl _ _) _⟩
def entP(z:Int):Int×Int:=if z%8=0∨8≤z/8 then(-1,0)else(z/8,z%8)
def entC(z:Int):Int:=if isW z then 0 else 3
def entE(z:Int):Int×Int:=if isW z then entP z else(0,0)
theorem isW_true{z:Int}(h:isW z=true):0≤z∧z≤4294967295:=by simpa [isW]using h
theorem impl_entryOf(z:Int)(w:World):Calls Tryz.prog 173 #[.int .i64 z] w fun e w'=>e=.returned (.agg #[.int .i64 (entC z),.int .i64 (entE z).1,.int .i64 (entE z).2])∧Below w.heap.size w w':=by
 cases h:isW z
 ·rw[show entC z=3 by simp[entC,h],show entE z=(0,0) by simp[entE,h]]
  go_enter Tryz.func173,Tryz.ntmps173
  go_wp2_with (go_at_call 65;refine(impl_isWord _ _).mono ?_;rintro e x ⟨rfl,rfl⟩;rw[h])
  exact bodyPost_ret (v:=.agg #[.int .i64 3,.int .i64 0,.int .i64 0]) (by simp[results,Tryz.results173,go_sem]) rfl ⟨rfl,al (Below.refl _ _) _⟩
 ·rw[show entC z=0 by simp[entC,h],show entE z=entP z by simp[entE,h]]
  obtain⟨h0,h1⟩:=isW_true h
  by_cases k:8≤z/8
  ·rw[entP,if_pos (.inr k)]
   go_enter Tryz.func173,Tryz.ntmps173
   go_wp2_with (go_at_call 65;refine(impl_isWord _ _).mono ?_;rintro e x ⟨rfl,rfl⟩;rw[h])
   exact bodyPost_ret (v:=.agg #[.int .i64 0,.int .i64 (-1),.int .i64 0]) (by simp[results,Tryz.results173,go_sem]) rfl ⟨rfl,al (Below.refl _ _) _⟩
  ·have hF:=fun w=>impl_pageFor (z/8) (z%8) w
   have e:entP z=forP (z/8) (z%8):=by
    unfold entP forP
    by_cases h8:z%8=0
    ·rw[if_pos (.inl h8),if_pos h8]
    ·rw[if_neg (by omega),if_neg h8]
   rw[e]
   generalize (forP (z/8) (z%8)).1=p at*
   generalize (forP (z/8) (z%8)).2=q at*
   clear e
   go_enter Tryz.func173,Tryz.ntmps173
   go_wp2_with (go_at_call 65;refine(impl_isWord _ _).mono ?_;rintro e x ⟨rfl,rfl⟩;rw[h])
   refine(hF _).mono ?_
   rintro e w1⟨rfl,b1⟩
   obtain⟨c1,z1⟩:=bcell b1
   go_wp2_with fail
   exact bodyPost_ret (v:=.agg #[.int .i64 0,.int .i64 p,.int .i64 q]) (by simp[results,Tryz.results173,go_sem,c1]) rfl ⟨rfl,(((on (al (Below.refl _ _) _) b1).setCell (by simp) _).setCell (by simp) _).setCell (by simp) _⟩
theorem cell_new2{w:World}{a:Obj}{cs:Array Value}{t:TypeId}{i:Nat}{v:Value}(h:cs[i]? =some v):((w.alloc a).alloc (.cells cs t)).cell? ⟨w.heap.size+1,i,none⟩=some v:=by
 have:=cell_new (w:=w.alloc a) (cs:=cs) (t:=t) (i:=i) h
 rwa[World.size_alloc]at this
theorem frozen_grown{w w':World}{row:Option Nat}{p:Addr}(g:w.grownBy w' row)(hp:p.block<w.heap.size)(hne:some p.block≠row):w'.frozen? p=w.frozen? p:=
 World.frozen?_of_block (w:=w) (g.block p.block hp hne)
def fromC(zs:List Int):Int:=if zs.length=8 then(if zs.all isW then 0 else 3)else 1
def fromP(zs:List Int):List (Int×Int):=if zs.length=8 then(if zs.all isW then zs.map entP else [])else []
theorem from_take(zs:List Int)(j:Nat)(h:j<zs.length):(zs.take (j+1)).map entP=(zs.take j).map entP++ [((entP (zs.getD j 0)).1,(entP (zs.getD j 0)).2)]:=by
 rw[List.take_succ_eq_append_getElem h,List.map_append,List.getD,List.getElem?_eq_getElem h]
 rfl
def kindB(k:Int):Bool:=decide (k=1∨k=2∨k=4)
def kindV(k:Int):Int:=if k=1 then 7 else if k=2 then 8 else if k=4 then 9 else 0
theorem kind_cases{k:Int}(h:kindB k=true):k=1∨k=2∨k=4:=of_decide_eq_true h
theorem kind_not{k:Int}(h:kindB k=false):(k==1)=false∧(k==2)=false∧(k==4)=false:=by
 have:=of_decide_eq_false h
 simp
 omega
theorem band_zero(k:Int):bits BinOp.and .i64 0 k=0:=by
 show IntKind.i64.wrap ((BitVec.ofInt 64 0&&&BitVec.ofInt 64 k).toNat:Int)=0
 rw[BitVec.toNat_and]
 simp[IntKind.wrap_i64]
theorem impl_kind(k:Int)(w:World):Calls Tryz.prog 174 #[.int .i64 k] w fun e w'=>e=.returned (.tuple #[.int .i64 (kindV k),.bool (kindB k)])∧w'=w:=by
 cases h:kindB k
 ·obtain⟨h1,h2,h4⟩:=kind_not h
  have hv:kindV k=0:=by simp at h1 h2 h4;simp[kindV,h1,h2,h4]
  rw[hv]
  clear hv h
  go_enter Tryz.func174,Tryz.ntmps174
  go_wp2_with fail
  go_ret2
  exact⟨rfl,rfl⟩
 ·rcases kind_cases h with rfl|rfl|rfl
  all_goals
   go_enter Tryz.func174,Tryz.ntmps174
   go_wp2_with fail
   go_ret2
   exact⟨rfl,rfl⟩
def goesB(rs:List (Int×Int))(at_ k:Int):Bool:=decide (0≤at_)&&decide (at_≤63)&& !(bits BinOp.and .i64 (rs.getD (at_/8).toNat (0,0)).2 k==0)
def goesTo(rs:List (Int×Int))(at_:Int):Int:=(rs.getD (at_/8).toNat (0,0)).1*8+at_%8
def wkC(rs:List (Int×Int))(at_ k:Int):Int:=if kindB k then(if goesB rs at_ k then 0 else kindV k)else 3
def wkV(rs:List (Int×Int))(at_ k:Int):Int:=if kindB k then(if goesB rs at_ k then goesTo rs at_ else 0)else 0
theorem okTo_at{rs:List (Int×Int)}{t:Int}(h:okTo t rs 8){x:Int}(h0:0≤x)(h1:x≤63):pgC t (rs.getD (x/8).toNat (0,0)).1 (rs.getD (x/8).toNat (0,0)).2=0:=h _ (by omega)
theorem goes_in{rs:List (Int×Int)}{t:Int}(h:okTo t rs 8){x k:Int}(hg:goesB rs x k=true):0≤x∧x≤63∧0≤(rs.getD (x/8).toNat (0,0)).1∧(rs.getD (x/8).toNat (0,0)).1≤t-1:=by
 unfold goesB at hg
 simp only[Bool.and_eq_true,decide_eq_true_eq,Bool.not_eq_true',beq_eq_false_iff_ne]at hg
 obtain⟨⟨h0,h1⟩,h2⟩:=hg
 have hz:=pgC_zero (okTo_at h h0 h1)
 refine⟨h0,h1,?_,hz.2.1⟩
 apply Classical.byContradiction
 intro hn
 have:(rs.getD (x/8).toNat (0,0)).2=0:=hz.2.2.2.2 (by omega)
 rw[this,band_zero]at h2
 exact h2 rfl
def atB(x:Int):Bool:=decide (0≤x)&&decide (x≤63)
def atN(x:Int):Int:=if atB x then x/8 else 0
theorem impl_pageOf(x:Int)(w:World):Calls Tryz.prog 168 #[.int .i64 x] w fun e w'=>e=.returned (.tuple #[.int .i64 (atN x),.bool (atB x)])∧w'=w:=by
 by_cases h1:x<0
 ·have e1:atB x=false:=by simp[atB];omega
  rw[atN,e1]
  clear e1
  go_enter Tryz.func168,Tryz.ntmps168
  go_wp2_with fail
  go_ret2
  exact⟨rfl,rfl⟩
 by_cases h2:64≤x
 ·have e1:atB x=false:=by simp[atB];omega
  rw[atN,e1]
  clear e1
  go_enter Tryz.func168,Tryz.ntmps168
  go_wp2_with fail
  go_ret2
  exact⟨rfl,rfl⟩
 have e1:atB x=true:=by simp[atB];omega
 have h3:0≤x:=by omega
 have h4:x<64:=by omega
 rw[atN,e1,if_pos rfl]
 clear e1 h1 h2
 go_enter Tryz.func168,Tryz.ntmps168
 go_wp2_with fail
 go_ret2
 exact⟨rfl,rfl⟩
def wpgC(q k:Int):Int:=if kindB k then(if bits BinOp.and .i64 q k==0 then kindV k else 0)else 3
def wpgV(p q x k:Int):Int:=if kindB k then(if bits BinOp.and .i64 q k==0 then 0 else p*8+x%8)else 0
theorem impl_walkPage(p q x k:Int)(w:World)(h:(bits BinOp.and .i64 q k==0)=false→0≤p∧p≤23∧0≤x∧x≤63):
  Calls Tryz.prog 169 #[.agg #[.int .i64 p,.int .i64 q],.int .i64 x,.int .i64 k] w fun e w'=>e=.returned (.agg #[.int .i64 (wpgC q k),.int .i64 (wpgV p q x k)])∧Below w.heap.size w w':=by
 cases hk:kindB k
 ·have e1:wpgC q k=3:=by simp[wpgC,hk]
  have e2:wpgV p q x k=0:=by simp[wpgV,hk]
  rw[e1,e2]
  clear e1 e2 h
  go_enter Tryz.func169,Tryz.ntmps169
  go_wp2_with (go_at_call 174;refine(impl_kind _ _).mono ?_;rintro e w1 ⟨rfl,rfl⟩;rw[hk])
  exact bodyPost_ret (v:=.agg #[.int .i64 3,.int .i64 0]) (by simp[results,Tryz.results169,go_sem]) rfl ⟨rfl,al (al (Below.refl _ _) _) _⟩
 generalize hkv:kindV k=kv at*
 have HKV:=hid hkv
 cases hq:(bits BinOp.and .i64 q k==0)
 ·obtain⟨p1,p2,h3,h4⟩:=h hq
  have e1:wpgC q k=0:=by unfold wpgC;rw[hk,hq];rfl
  have e2:wpgV p q x k=p*8+x%8:=by unfold wpgV;rw[hk,hq];rfl
  rw[e1,e2]
  clear e1 e2 hkv h
  go_enter Tryz.func169,Tryz.ntmps169
  go_wp2_with (go_at_call 174;refine(impl_kind _ _).mono ?_;rintro e w1 ⟨rfl,rfl⟩;rw[hk,HKV.out])
  exact bodyPost_ret (v:=.agg #[.int .i64 0,.int .i64 (p*8+x%8)]) (by simp[results,Tryz.results169,go_sem]) rfl ⟨rfl,al (al (Below.refl _ _) _) _⟩
 ·have e1:wpgC q k=kv:=by unfold wpgC;rw[hk,hq,hkv];rfl
  have e2:wpgV p q x k=0:=by unfold wpgV;rw[hk,hq];rfl
  rw[e1,e2]
  clear e1 e2 hkv h
  go_enter Tryz.func169,Tryz.ntmps169
  go_wp2_with (go_at_call 174;refine(impl_kind _ _).mono ?_;rintro e w1 ⟨rfl,rfl⟩;rw[hk,HKV.out])
  exact bodyPost_ret (v:=.agg #[.int .i64 kv,.int .i64 0]) (by simp[results,Tryz.results169,go_sem]) rfl ⟨rfl,al (al (Below.refl _ _) _) _⟩
theorem impl_walk(v:Value)(rs:List (Int×Int))(x k:Int)(b:Nat)(w:World)(h:Prs 89 w b v rs)(hl:rs.length=8)(ho:okTo 24 rs 8):
  Calls Tryz.prog 162 #[v,.int .i64 x,.int .i64 k] w fun e w'=>e=.returned (.agg #[.int .i64 (wkC rs x k),.int .i64 (wkV rs x k)])∧Below w.heap.size w w':=by
 obtain⟨a,cap,rfl,l1,l2,hg⟩:=h.shape
 obtain⟨g,rfl⟩:=hg (by omega)
 rw[hl]
 have HZ:Hid (Prs 89 w b (.slice (some ⟨g,0,none⟩) 8 cap) rs):=by show Prs 89 _ _ _ _;rw[←hl];exact h
 have HL:=hid hl
 clear l1 l2 hg h hl
 cases hb:atB x
 ·have hgo:goesB rs x k=false:=by unfold goesB;unfold atB at hb;rw[hb];rfl
  have e1:wkC rs x k=wpgC 0 k:=by unfold wkC wpgC;rw[hgo,band_zero];rfl
  have e2:wkV rs x k=wpgV (-1) 0 x k:=by unfold wkV wpgV;rw[hgo,band_zero];rfl
  rw[e1,e2]
  have hW:=fun u=>impl_walkPage (-1) 0 x k u (fun hh=>by rw[band_zero]at hh;exact absurd hh (by decide))
  generalize wpgC 0 k=c at*
  generalize wpgV (-1) 0 x k=y at*
  clear e1 e2 hgo
  go_enter Tryz.func162,Tryz.ntmps162
  go_wp2_with (first|(go_at_call 168;refine(impl_pageOf _ _).mono ?_;rintro e w1 ⟨rfl,rfl⟩;rw[hb])|(go_at_call 169;refine(hW _).mono ?_;rintro e w1 ⟨rfl,b1⟩;have k0:=cell_keep b1 (cell_new (i:=0) rfl);have k1:=cell_keep b1 (cell_new (i:=1) rfl);have z0:w1.frozen? ⟨w.heap.size,0,none⟩=false:=(by rw[(bcell b1).2 _ _ (by simp)];simp);have z1:w1.frozen? ⟨w.heap.size,1,none⟩=false:=(by rw[(bcell b1).2 _ _ (by simp)];simp);have B1:Hid (Below w.heap.size w w1):=on (al (Below.refl _ _) _) b1;clear b1))
  exact bodyPost_ret (v:=.agg #[.int .i64 c,.int .i64 y]) (by simp[results,Tryz.results162,go_sem,k0,k1]) rfl ⟨rfl,(B1.out.setCell (by simp) _).setCell (by simp) _⟩
 have hb2:=hb
 simp only[atB,Bool.and_eq_true,decide_eq_true_eq]at hb2
 obtain⟨h3,h4⟩:=hb2
 have hz:=pgC_zero (okTo_at ho h3 h4)
 have c1:=(HZ.out.cell HL.out.symm (x/8).toNat (by omega)).1
 have c2:=(HZ.out.cell HL.out.symm (x/8).toNat (by omega)).2
 have gb:g<w.heap.size:=block_of_cell c1
 have q0:0≤x/8:=by omega
 have q1:x/8<8:=by omega
 have hgo:goesB rs x k= !(bits BinOp.and .i64 (rs.getD (x/8).toNat (0,0)).2 k==0):=by unfold goesB;simp[h3,h4]
 have e1:wkC rs x k=wpgC (rs.getD (x/8).toNat (0,0)).2 k:=by
  unfold wkC wpgC;rw[hgo]
  cases kindB k<;>cases (bits BinOp.and .i64 (rs.getD (x/8).toNat (0,0)).2 k==0)<;>rfl
 have e2:wkV rs x k=wpgV (rs.getD (x/8).toNat (0,0)).1 (rs.getD (x/8).toNat (0,0)).2 x k:=by
  unfold wkV wpgV goesTo;rw[hgo]
  cases kindB k<;>cases (bits BinOp.and .i64 (rs.getD (x/8).toNat (0,0)).2 k==0)<;>rfl
 rw[e1,e2]
 have en:atN x=x/8:=by rw[atN,hb];rfl
 clear e1 e2 hgo
 generalize (rs.getD (x/8).toNat (0,0)).1=p at*
 generalize (rs.getD (x/8).toNat (0,0)).2=q at*
 obtain⟨p1,p2,p3,p4,p5⟩:=hz
 have hW:=fun u=>impl_walkPage p q x k u (fun hh=>⟨(by
  apply Classical.byContradiction
  intro hn
  rw[p5 (by omega),band_zero]at hh
  exact absurd hh (by decide)),by omega,h3,h4⟩)
 generalize wpgC q k=c at*
 generalize wpgV p q x k=y at*
 clear p1 p2 p3 p4 p5
 go_enter Tryz.func162,Tryz.ntmps162
 go_wp2_with (first|(go_at_call 168;refine(impl_pageOf _ _).mono ?_;rintro e w1 ⟨rfl,rfl⟩;rw[hb,en])|(go_at_call 169;refine(hW _).mono ?_;rintro e w1 ⟨rfl,b1⟩;have k0:=cell_keep b1 (cell_new (i:=0) rfl);have k1:=cell_keep b1 (cell_new (i:=1) rfl);have z0:w1.frozen? ⟨w.heap.size,0,none⟩=false:=(by rw[(bcell b1).2 _ _ (by simp)];simp);have z1:w1.frozen? ⟨w.heap.size,1,none⟩=false:=(by rw[(bcell b1).2 _ _ (by simp)];simp);have B1:Hid (Below w.heap.size w w1):=on (al (Below.refl _ _) _) b1;clear b1))
 exact bodyPost_ret (v:=.agg #[.int .i64 c,.int .i64 y]) (by simp[results,Tryz.results162,go_sem,k0,k1]) rfl ⟨rfl,(B1.out.setCell (by simp) _).setCell (by simp) _⟩
theorem Mq.pre{S:Nat→Prop}{w w':World}{o:Obj}(h:Mq S (w.alloc o) w'):Mq S w w':=
 ⟨h.os,h.tape,h.output,by have:=h.size;simp at this;omega,fun k hk hn=>by rw[h.block k (by simp;omega) hn,Below.heap_alloc _ _ _ hk]⟩
end Go.Proofs.YtignbeibcakgpaaGreatDoor
