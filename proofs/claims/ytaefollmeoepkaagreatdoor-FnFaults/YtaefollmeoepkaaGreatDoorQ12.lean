import Derived.Deep.RegionWith
import Derived.Deep.Slices
import Derived.Test.YtaefollmeoepkaaGreatDoorQ11
namespace Go.Proofs.YtaefollmeoepkaaGreatDoor
set_option maxRecDepth 20000
set_option maxHeartbeats 16000000
open Go.RowKit
def insC(op d a imm:Int):Int:=
 if 1≤op∧op≤26∧0≤d∧d≤15∧0≤a∧a≤15∧0≤imm∧imm≤65535 then
  if(op≠13∧op≠19∧op≠21∨a=0)∧(op≠22∨d=0)∧(op<23∨d=0∧a=0∧imm=0)∧(11<op∨imm≤15)∧(op≠21∧op≠22∨imm≤10)then 0 else 1
 else 3
theorem insC_3{op d a imm:Int}(h:¬(1≤op∧op≤26∧0≤d∧d≤15∧0≤a∧a≤15∧0≤imm∧imm≤65535)):insC op d a imm=3:=if_neg h
theorem insC_zero{op d a imm:Int}(h:1≤op∧op≤26∧0≤d∧d≤15∧0≤a∧a≤15∧0≤imm∧imm≤65535):
  insC op d a imm=0↔(op≠13∧op≠19∧op≠21∨a=0)∧(op≠22∨d=0)∧(op<23∨d=0∧a=0∧imm=0)∧(11<op∨imm≤15)∧(op≠21∧op≠22∨imm≤10):=by
 rw[insC,if_pos h]
 split
 ·rename_i g;exact⟨fun _=>g,fun _=>rfl⟩
 ·rename_i g;exact⟨fun e=>by omega,fun e=>absurd e g⟩
theorem op_class{op:Int}(h:1≤op∧op≤26):op=13∨op=19∨op=21∨op=22∨op=23∨op=24∨op=25∨op=26∨
  ((op==13)=false∧(op==19)=false∧(op==21)=false∧(op==22)=false∧(op==23)=false∧(op==24)=false∧(op==25)=false∧(op==26)=false∧Hid (op≠13∧op≠19∧op≠21∧op<22∧1≤op)):=by
 simp only[beq_eq_false_iff_ne,Hid]
 omega
theorem impl_hasForm(op d a imm:Int)(w:World)(h:1≤op∧op≤26∧0≤d∧d≤15∧0≤a∧a≤15∧0≤imm∧imm≤65535):
  Calls Tryz.prog 159 #[.agg #[.int .i64 op,.int .i64 d,.int .i64 a,.int .i64 imm]] w fun e w'=>e=.returned (.bool (insC op d a imm==0))∧Below w.heap.size w w':=by
 have hi:Hid (_↔_):=insC_zero h
 have hh:Hid _:=h
 obtain hcl:=op_class (op:=op) ⟨h.1,h.2.1⟩
 clear h
 generalize hc:insC op d a imm=c at hi
 clear hc
 rcases hcl with rfl|rfl|rfl|rfl|rfl|rfl|rfl|rfl|⟨g1,g2,g3,g4,g5,g6,g7,g8,g9⟩
 all_goals
  go_enter Tryz.func159,Tryz.ntmps159
  go_wp2
 all_goals go_ret
 all_goals refine⟨congrArg (fun b=>Ending.returned (Value.bool b)) ?_,((Below.refl _ _).alloc (Nat.le_refl _) _)⟩
 all_goals have hi:=hi.out
 all_goals have hh:=hh.out
 all_goals rw[Bool.eq_iff_iff]
 all_goals simp only[beq_iff_eq,Bool.false_eq_true,decide_eq_true_eq,hi]
 all_goals first|omega|(simp;done)|(simp;omega)|(have g9:=g9.out;omega)|(have g9:=g9.out;simp;omega)|skip
theorem impl_insFault(op d a imm:Int)(w:World):
  Calls Tryz.prog 125 #[.agg #[.int .i64 op,.int .i64 d,.int .i64 a,.int .i64 imm]] w fun e w'=>e=.returned (.int .i64 (insC op d a imm))∧Below w.heap.size w w':=by
 by_cases h:1≤op∧op≤26∧0≤d∧d≤15∧0≤a∧a≤15∧0≤imm∧imm≤65535
 ·have h3:insC op d a imm=0∨insC op d a imm=1:=by rw[insC,if_pos h];split<;>simp
  have hf:=fun w=>impl_hasForm op d a imm w h
  obtain⟨h1,h2,h3,h4,h5,h6,h7,h8⟩:=h
  generalize insC op d a imm=c at*
  rcases h3 with rfl|rfl
  all_goals
   go_enter Tryz.func125,Tryz.ntmps125
   go_wp2_with (first|(go_at_call 159;refine(hf _).mono ?_;rintro e w1 ⟨rfl,hb⟩)|go_in)
  all_goals go_ret
  all_goals exact⟨rfl,((Below.refl _ _).alloc (Nat.le_refl _) _).trans (hb.mono (by simp))⟩
 ·rw[insC_3 h]
  go_enter Tryz.func125,Tryz.ntmps125
  go_wp2_with (first|(go_at_call 159;exfalso;omega)|go_in)
  all_goals go_ret
  all_goals exact⟨rfl,((Below.refl _ _).alloc (Nat.le_refl _) _)⟩
def inB(v lo hi:Int):Bool:=decide (lo≤v∧v≤hi)
theorem inB_true{v lo hi:Int}(h:lo≤v∧v≤hi):inB v lo hi=true:=decide_eq_true h
theorem inB_false{v lo hi:Int}(h:¬(lo≤v∧v≤hi)):inB v lo hi=false:=decide_eq_false h
theorem spec_inI(v lo hi:Int)(w:World):Calls Tryz.prog 38 #[.int .i64 v,.int .i64 lo,.int .i64 hi] w fun e w'=>e=.returned (.bool (inB v lo hi))∧w'=w:=by
 by_cases h:lo≤v
 ·have e:inB v lo hi=decide (v≤hi):=by simp[inB,h]
  rw[e]
  go_enter Tryz.func38,Tryz.ntmps38
  go_wp2
  go_ret
  exact⟨rfl,rfl⟩
 ·have e:inB v lo hi=false:=by simp[inB,h]
  rw[e]
  go_enter Tryz.func38,Tryz.ntmps38
  go_wp2
  go_ret
  exact⟨rfl,rfl⟩
def bareD(op:Int):Bool:=decide (22≤op∧op≤26)
def bareA(op:Int):Bool:=decide (op=13∨op=19∨op=21∨23≤op∧op≤26)
def bareI(op:Int):Bool:=decide (23≤op∧op≤26)
theorem spec_bare(op:Int)(w:World)(h:1≤op∧op≤26):Calls Tryz.prog 131 #[.int .i64 op] w fun e w'=>e=.returned (.tuple #[.bool (bareD op),.bool (bareA op),.bool (bareI op)])∧w'=w:=by
 rcases op_class h with rfl|rfl|rfl|rfl|rfl|rfl|rfl|rfl|⟨g1,g2,g3,g4,g5,g6,g7,g8,g9⟩
 rotate_right 1
 ·have e1:bareD op=false:=decide_eq_false (by have g9:=g9.out;omega)
  have e2:bareA op=false:=decide_eq_false (by have g9:=g9.out;omega)
  have e3:bareI op=false:=decide_eq_false (by have g9:=g9.out;omega)
  rw[e1,e2,e3]
  clear e1 e2 e3 h
  go_enter Tryz.func131,Tryz.ntmps131
  go_wp2
  exact bodyPost_ret (v:=.tuple #[.bool false,.bool false,.bool false]) (by simp[results,Tryz.results131,go_sem]) rfl ⟨rfl,rfl⟩
 all_goals
  go_enter Tryz.func131,Tryz.ntmps131
  go_wp2
 all_goals exact bodyPost_ret (v:=.tuple #[.bool _,.bool _,.bool _]) (by simp[results,Tryz.results131,go_sem];exact⟨rfl,rfl,rfl⟩) rfl ⟨rfl,rfl⟩
set_option linter.unusedVariables false
theorem info_page:(Tryz.prog.info? 36).map (fun i=>(i.zero,i.size,i.bytes))=some (some (.agg #[.int .i64 0,.int .i64 0]),2,16):=by kernel_rfl
def Pags(w:World)(base:Nat)(v:Value)(n:Nat)(zs:List Int):Prop:=w.ownsRow base 133 8 v n (zs.map (Value.int .i64))
theorem Pags.cell{w:World}{base g n cap:Nat}{zs:List Int}(h:Pags w base (.slice (some ⟨g,0,none⟩) n cap) n zs)(i:Nat)(hi:i<n*8):w.cell? ⟨g,i,none⟩=some (.int .i64 (zs.getD i 0)):=by
 have hl:zs.length=n*8:=by simpa using h.1
 rw[World.ownsRow.cellAt h i hi,List.getElem?_map,List.getElem?_eq_getElem (by omega),List.getD,List.getElem?_eq_getElem (by omega)]
 rfl
theorem Pags.keep{w w':World}{base n:Nat}{v:Value}{zs:List Int}(h:Pags w base v n zs)(hb:Below w.heap.size w w'):Pags w' base v n zs:=by
 refine World.ownsRow.kept h (below_grown hb none) ?_
 cases v.ownBlock<;>simp
theorem Pags.len{w:World}{base n:Nat}{v:Value}{zs:List Int}(h:Pags w base v n zs):zs.length=n*8:=by simpa using h.1
theorem take_one(zs:List Int)(n:Nat)(h:n<zs.length):zs.take (n+1)=zs.take n++ [zs.getD n 0]:=by
 rw[List.take_succ_eq_append_getElem h,List.getD,List.getElem?_eq_getElem h]
 rfl
theorem take_eight(zs:List Int)(n:Nat)(h:n+8≤zs.length):zs.take (n+8)=zs.take n++ [zs.getD n 0,zs.getD (n+1) 0,zs.getD (n+2) 0,zs.getD (n+3) 0,zs.getD (n+4) 0,zs.getD (n+5) 0,zs.getD (n+6) 0,zs.getD (n+7) 0]:=by
 rw[take_one zs (n+7) (by omega),take_one zs (n+6) (by omega),take_one zs (n+5) (by omega),take_one zs (n+4) (by omega),take_one zs (n+3) (by omega),take_one zs (n+2) (by omega),take_one zs (n+1) (by omega),take_one zs n (by omega)]
 simp only[List.append_assoc,List.cons_append,List.nil_append]
theorem wp_append{ops:Array Oper}{rest:List Oper}{o:Oper}{act:Act}{Q:Exit→Act→World→Prop}(w:World)(hgd:o.guard=none)(s x:Operand)
  (ho:o.op=.call { callee:=.builtin .append,args:=#[s,x],argTypes:=#[24,24]}) (base:Nat) (v:Value) (zs:List Int) (hs:act.eval s=v) (hN:Nums w base v zs)
  (B m c:Nat) (ys:List Int) (hx:act.eval x=.slice (some ⟨B,0,none⟩) m c) (hy:ys.length=m) (hc:∀i,i<m→w.cell? ⟨B,i,none⟩=some (.int .i64 (ys.getD i 0)))
  (hlen:zs.length+m≤1000000000) (hbase:base≤w.heap.size)
  (h:∀v' w',Nums w' base v' (zs++ys)→w.grownBy w' v.ownBlock→wpList Tryz.prog ops Q rest (act.put o.dst v') w'):wpList Tryz.prog ops Q (o::rest) act w:=by
 obtain⟨i,hi,hz0,hz1,hz2⟩:=info_parts info_i64
 refine wpList_append_own w hgd s x 24 ho base 2 i _ 1 8 Tryz.underlying24 hi hz0 hz1 hz2 rfl (by decide) v zs.length _ hs hN ⟨B,0,none⟩ m c (ys.map (Value.int .i64)) hx (by simpa using hy) ?_ ?_ (by unfold maxLen;omega) (by omega) hbase ?_
 ·intro j u hj
  have hjl:j<ys.length:=by have:=(List.getElem?_eq_some_iff.1 hj).1;simpa using this
  rw[List.getElem?_map,List.getElem?_eq_getElem hjl]at hj
  have:=hc j (by omega)
  rw[List.getD,List.getElem?_eq_getElem hjl]at this
  rw[show(⟨B,0,none⟩:Addr).add j=⟨B,j,none⟩ by rw[Addr.add_lit];simp,this]
  exact hj
 ·intro u hu
  obtain⟨z,_,rfl⟩:=List.mem_map.1 hu
  rfl
 ·intro v' w' hown hgrow _
  refine h v' w' ?_ hgrow
  unfold Nums
  rw[List.length_append,hy,List.map_append]
  exact hown
theorem cells_eight(w:World)(t:TypeId)(a0 a1 a2 a3 a4 a5 a6 a7:Int):∀i,i<8→(w.alloc (.cells #[.int .i64 a0,.int .i64 a1,.int .i64 a2,.int .i64 a3,.int .i64 a4,.int .i64 a5,.int .i64 a6,.int .i64 a7] t)).cell? ⟨w.heap.size,i,none⟩=some (.int .i64 ([a0,a1,a2,a3,a4,a5,a6,a7].getD i 0)):=by
 intro i hi
 have:i=0∨i=1∨i=2∨i=3∨i=4∨i=5∨i=6∨i=7:=by omega
 rcases this with rfl|rfl|rfl|rfl|rfl|rfl|rfl|rfl<;>exact cell_new rfl
theorem impl_join(g n cap:Nat)(zs:List Int)(b:Nat)(w:World)(h:Pags w b (.slice (some ⟨g,0,none⟩) n cap) n zs)(hn:n≤24):
  Calls Tryz.prog 79 #[.slice (some ⟨g,0,none⟩) n cap] w fun e w'=>∃v,e=.returned v∧Nums w' w.heap.size v zs∧Below w.heap.size w w':=by
 have HP:Hid (Pags w b _ n zs):=h
 have HL:Hid (zs.length=n*8):=h.len
 have hni:(n:Int)≤24:=by omega
 clear h
 go_enter Tryz.func79,Tryz.ntmps79
 go_wp2_with fail
 go_loopw [3,5,8] (fun v _ c wr=>∃j:Nat,j≤n∧c=.int .i64 j∧Nums wr w.heap.size v (zs.take (j*8))∧Below w.heap.size w wr) (fun _ _ c _=>n-(intOf c).toNat)
 case atStart=>exact⟨0,Nat.zero_le _,rfl,by simpa using Nums.nil w _,Below.refl _ _⟩
 case round=>
  obtain⟨j,hj,rfl,hN,hB⟩:=hrel
  have HN:Hid (Nums wr _ _ _):=hN
  have HB:Hid (Below _ _ _):=hB
  by_cases hlt:j<n
  ·have hJ:(j:Int)<(n:Int):=by omega
   have hp:=fun k (hk:k<n*8)=>cell_keep hB (HP.out.cell k hk)
   have c0:=hp (j*8) (by omega)
   have c1:=hp (j*8+1) (by omega)
   have c2:=hp (j*8+2) (by omega)
   have c3:=hp (j*8+3) (by omega)
   have c4:=hp (j*8+4) (by omega)
   have c5:=hp (j*8+5) (by omega)
   have c6:=hp (j*8+6) (by omega)
   have c7:=hp (j*8+7) (by omega)
   have HT:Hid (zs.take ((j+1)*8)=zs.take (j*8)++ [zs.getD (j*8) 0,zs.getD (j*8+1) 0,zs.getD (j*8+2) 0,zs.getD (j*8+3) 0,zs.getD (j*8+4) 0,zs.getD (j*8+5) 0,zs.getD (j*8+6) 0,zs.getD (j*8+7) 0]):=by
    show _=_
    rw[show(j+1)*8=j*8+8 by omega]
    exact take_eight zs (j*8) (by have:=HL.out;omega)
   generalize zs.getD (j*8) 0=a0 at*
   generalize zs.getD (j*8+1) 0=a1 at*
   generalize zs.getD (j*8+2) 0=a2 at*
   generalize zs.getD (j*8+3) 0=a3 at*
   generalize zs.getD (j*8+4) 0=a4 at*
   generalize zs.getD (j*8+5) 0=a5 at*
   generalize zs.getD (j*8+6) 0=a6 at*
   generalize zs.getD (j*8+7) 0=a7 at*
   have HLT:=hid hlt
   have Hn:=hid hn
   have HS:Hid (w.heap.size≤wr.heap.size):=hB.size
   clear hp hN hB hlt hn
   go_wp2_with (at_builtin;refine wp_append _ rfl _ _ rfl w.heap.size _ _ rfl (HN.out.keep (al (Below.refl _ _) _)) wr.heap.size 8 8 [a0,a1,a2,a3,a4,a5,a6,a7] rfl rfl (cells_eight _ _ _ _ _ _ _ _ _ _) (by have:=HLT.out;have:=Hn.out;simp;omega) (by have:=HS.out;simp;omega) ?_;intro v' w' hN' hG')
   have N':Hid (Nums w' _ v' _):=hN'
   have B':Hid (Below w.heap.size w w'):=(al HB.out _).grown hG' (by have:=HS.out;simp;omega) (fun k hk=>(HN.out.lt k hk).1)
   clear hN' hG'
   go_wp2_with fail
   go_roundw
   case rel=>exact⟨j+1,by have:=HLT.out;omega,by go_num,by rw[HT.out];exact N'.out,B'.out⟩
   case measure=>have:=HLT.out;simp[intOf];omega
  ·have hJ:¬(j:Int)<(n:Int):=by omega
   obtain rfl:j=n:=by omega
   clear hN hB
   go_wp2_with fail
   go_ret
   refine⟨_,rfl,?_,HB.out⟩
   have:=HN.out
   rwa[List.take_of_length_le (Nat.le_of_eq HL.out)]at this
theorem Prs.kept{e:TypeId}{w w':World}{base:Nat}{v:Value}{rs:List (Int×Int)}{row:Option Nat}(h:Prs e w base v rs)(hg:w.grownBy w' row)(hne:v.ownBlock=none∨v.ownBlock≠row):Prs e w' base v rs:=World.ownsRow.kept h hg hne
theorem Prs.put{e:TypeId}{w:World}{base:Nat}{v:Value}{rs:List (Int×Int)}(h:Prs e w base v rs)(p:Addr)(u:Value)(hne:v.ownBlock≠some p.block):Prs e (w.setCell p u) base v rs:=h.kept (grown_set w p u) (.inr hne)
theorem Prs.mono{e:TypeId}{w:World}{base base':Nat}{v:Value}{rs:List (Int×Int)}(h:Prs e w base v rs)(hb:base'≤base):Prs e w base' v rs:=by
 obtain⟨h1,h2|⟨g,cap,cur,hv,hg,hr⟩⟩:=h
 ·exact⟨h1,.inl h2⟩
 ·exact⟨h1,.inr ⟨g,cap,cur,hv,Nat.le_trans hb hg,hr⟩⟩
theorem pown_not{e:TypeId}{w:World}{base:Nat}{v:Value}{zs:List (Int×Int)}(h:Prs e w base v zs)(x:Nat)(hx:x<base∨w.heap.size≤x):some x≠v.ownBlock:=by
 intro e
 have:=h.lt x e.symm
 omega
def newC(p:Int):Int:=if 1≤p∧p≤24 then 0 else 3
def newZ(p:Int):List Int:=if 1≤p∧p≤24 then List.replicate (p.toNat*8) 0 else []
theorem made_replicate(z:Value)(k m:Nat)(hk:0<k):(madeCells (Array.replicate k z) m).toList=List.replicate m z:=by
 apply List.ext_getElem?
 intro j
 by_cases hj:j<m
 ·have:j%k<k:=Nat.mod_lt _ hk
  simp[madeCells,hj,this]
 ·simp[madeCells,hj]
theorem info_wpage:(Tryz.prog.info? 133).map (fun i=>(i.zero,i.size,i.bytes))=some (some (.agg (Array.replicate 8 (.int .i64 0))),8,64):=by kernel_rfl
theorem spec_new(p:Int)(w:World):Calls Tryz.prog 51 #[.int .i64 p] w fun e w'=>∃v,e=.returned (.agg #[.int .i64 (newC p),v])∧Nums w' w.heap.size v (newZ p)∧Below w.heap.size w w':=by
 obtain⟨i,hi,hz0,hz1,hz2⟩:=info_parts info_i64
 by_cases h:(decide (1≤p)&&decide (p≤24))=true
 ·obtain⟨h1,h2⟩:1≤p∧p≤24:=by simpa using h
  have e1:newC p=0:=by simp[newC,h1,h2]
  have e2:newZ p=List.replicate (p.toNat*8) 0:=by simp[newZ,h1,h2]
  rw[e1,e2]
  clear e1 e2
  obtain⟨k,rfl⟩:∃k:Nat,p=k:=⟨p.toNat,by omega⟩
  rw[Int.toNat_natCast]
  have hK:Hid (k≤24):=by show _≤_;omega
  go_enter Tryz.func51,Tryz.ntmps51
  go_wp2_with (first
   |(go_at_call 38;refine(spec_in _ _ _ _).mono ?_;rintro e x ⟨rfl,rfl⟩;rw[h])
   |(at_make;refine wpList_make_full _ rfl _ _ 24 rfl w.heap.size 2 i _ 1 Tryz.underlying24 hi hz0 hz1 _ _ _ _ (k*8) rfl rfl (by omega) (by omega) (by have:=hK.out;rw[hz2];omega) (by have:=hK.out;unfold maxLen;omega) (by simp) ?_;intro w1 hown hgrow;have b1:=(Below.refl _ _).grown hgrow (Nat.le_refl _) (by simp);obtain⟨c1,z1⟩:=bcell b1))
  rw[World.size_alloc]at hown
  have N1:Hid (Nums w1 w.heap.size (.slice (some ⟨w.heap.size+1,0,none⟩) (k*8) (k*8)) (List.replicate (k*8) 0)):=Nums.made hown (by rw[Nat.mul_one,show(Value.int .i64 0).cells=#[.int .i64 0]from rfl,toList_madeCells_one];simp)
  have B1:Hid (Below w.heap.size w w1):=on (al (Below.refl _ _) _) b1
  have k0:w1.cell? ⟨w.heap.size,0,none⟩=some (.int .i64 0):=cell_keep b1 (cell_new rfl)
  have k1:w1.cell? ⟨w.heap.size,1,none⟩=some (.slice none 0 0):=cell_keep b1 (cell_new rfl)
  exact bodyPost_ret (v:=.agg #[.int .i64 0,.slice (some ⟨w.heap.size+1,0,none⟩) (k*8) (k*8)]) (by simp[results,Tryz.results51,go_sem,k0,k1]) rfl
   ⟨_,rfl,(N1.out.put _ _ (by simp[Value.ownBlock])).put _ _ (by simp[Value.ownBlock]),(B1.out.setCell (by simp) _).setCell (by simp) _⟩
 ·rw[Bool.not_eq_true]at h
  have hn:¬(1≤p∧p≤24):=by simp at h;omega
  have e1:newC p=3:=by simp only[newC,if_neg hn]
  have e2:newZ p=[]:=by simp only[newZ,if_neg hn]
  rw[e1,e2]
  clear e1 e2 hn
  go_enter Tryz.func51,Tryz.ntmps51
  go_wp2_with (go_at_call 38;refine(spec_in _ _ _ _).mono ?_;rintro e x ⟨rfl,rfl⟩;rw[h])
  exact bodyPost_ret (v:=.agg #[.int .i64 3,.slice none 0 0]) (by simp[results,Tryz.results51,go_sem]) rfl ⟨_,rfl,Nums.nil _ _,al (Below.refl _ _) _⟩
def pgC(top a b:Int):Int:=if -1≤a∧a≤top-1∧0≤b∧b≤7 then(if a= -1∧b≠0 then 1 else 0)else 3
variable{top a b:Int}
theorem pgC_range(h:¬(-1≤a∧a≤top-1∧0≤b∧b≤7)):pgC top a b=3:=if_neg h
theorem pgC_form(h: -1≤a∧a≤top-1∧0≤b∧b≤7)(k:a= -1∧b≠0):pgC top a b=1:=by rw[pgC,if_pos h,if_pos k]
theorem pgC_ok(h: -1≤a∧a≤top-1∧0≤b∧b≤7)(k:¬(a= -1∧b≠0)):pgC top a b=0:=by rw[pgC,if_pos h,if_neg k]
theorem pgC_zero(h:pgC top a b=0): -1≤a∧a≤top-1∧0≤b∧b≤7∧(a= -1→b=0):=by
 unfold pgC at h
 split at h
 ·split at h<;>omega
 ·omega
def firstC(top:Int):List (Int×Int)→Int
 | []=>0
 |r::t=>if pgC top r.1 r.2=0 then firstC top t else pgC top r.1 r.2
def okTo(top:Int)(rs:List (Int×Int))(j:Nat):Prop:=∀i,i<j→pgC top (rs.getD i (0,0)).1 (rs.getD i (0,0)).2=0
variable{top:Int}{rs:List (Int×Int)}{j:Nat}
theorem okTo_succ(h:okTo top rs j)(k:pgC top (rs.getD j (0,0)).1 (rs.getD j (0,0)).2=0):okTo top rs (j+1):=by
 intro i hi
 by_cases e:i=j
 ·subst e;exact k
 ·exact h i (by omega)
theorem firstC_ok{top:Int}{rs:List (Int×Int)}(h:okTo top rs rs.length):firstC top rs=0:=by
 induction rs with
 |nil=>rfl
 |cons r t ih=>
  have h0:=h 0 (by simp)
  have ht:okTo top t t.length:=fun i hi=>by simpa using h (i+1) (by simpa using hi)
  rw[firstC,if_pos (by simpa using h0),ih ht]
theorem firstC_at(hj:j<rs.length)(h:okTo top rs j)(k:pgC top (rs.getD j (0,0)).1 (rs.getD j (0,0)).2≠0):firstC top rs=pgC top (rs.getD j (0,0)).1 (rs.getD j (0,0)).2:=by
 induction rs generalizing j with
 |nil=>simp at hj
 |cons r t ih=>
  cases j with
  |zero=>
   have k':¬pgC top r.1 r.2=0:=by simpa using k
   rw[firstC,if_neg k']
   simp
  |succ j=>
   have h0:pgC top r.1 r.2=0:=by simpa using h 0 (by omega)
   rw[firstC,if_pos h0,ih (j:=j) (by simpa using hj) (fun i hi=>by simpa using h (i+1) (by omega)) (by simpa using k)]
   simp
theorem firstC_zero{top:Int}{rs:List (Int×Int)}(h:firstC top rs=0):okTo top rs rs.length:=by
 induction rs with
 |nil=>intro i hi;simp at hi
 |cons r t ih=>
  rw[firstC]at h
  by_cases k:pgC top r.1 r.2=0
  ·rw[if_pos k]at h
   intro i hi
   cases i with
   |zero=>simpa using k
   |succ i=>simpa using ih h i (by simpa using hi)
  ·rw[if_neg k]at h
   exact absurd h k
def pgsV(rs:List (Int×Int))(top:Int):Int:=if 1≤top∧top≤24 then(if rs.length=8 then firstC top rs else 1)else 3
theorem pgsV_zero{rs:List (Int×Int)}{top:Int}(h:pgsV rs top=0):1≤top∧top≤24∧rs.length=8∧okTo top rs 8:=by
 unfold pgsV at h
 split at h
 ·next ht=>
  split at h
  ·next hl=>exact⟨ht.1,ht.2,hl,by have:=firstC_zero h;rwa[hl]at this⟩
  ·omega
 ·omega
theorem pgsV_ok{rs:List (Int×Int)}{top:Int}(h1:1≤top)(h2:top≤24)(hl:rs.length=8)(h:okTo top rs 8):pgsV rs top=0:=by
 rw[pgsV,if_pos ⟨h1,h2⟩,if_pos hl,firstC_ok (by rwa[hl])]
theorem impl_pageFault(a b top:Int)(w:World):Calls Tryz.prog 109 #[.agg #[.int .i64 a,.int .i64 b],.int .i64 top] w fun e w'=>e=.returned (.int .i64 (pgC top a b))∧Below w.heap.size w w':=by
 by_cases h1:a< -1
 case pos=>
  rw[pgC_range (by omega)]
  go_enter Tryz.func109,Tryz.ntmps109
  go_wp2_with fail
  go_ret
  exact⟨rfl,al (Below.refl _ _) _⟩
 by_cases h2:top≤a
 case pos=>
  rw[pgC_range (by omega)]
  go_enter Tryz.func109,Tryz.ntmps109
  go_wp2_with fail
  go_ret
  exact⟨rfl,al (Below.refl _ _) _⟩
 by_cases h3:b<0
 case pos=>
  rw[pgC_range (by omega)]
  go_enter Tryz.func109,Tryz.ntmps109
  go_wp2_with fail
  go_ret
  exact⟨rfl,al (Below.refl _ _) _⟩
 by_cases h4:7<b
 case pos=>
  rw[pgC_range (by omega)]
  go_enter Tryz.func109,Tryz.ntmps109
  go_wp2_with fail
  go_ret
  exact⟨rfl,al (Below.refl _ _) _⟩
 by_cases h5:a= -1
 case neg=>
  rw[pgC_ok (by omega) (by omega)]
  have g5:(a== -1)=false:=beq_eq_false_iff_ne.2 h5
  clear h5
  go_enter Tryz.func109,Tryz.ntmps109
  go_wp2_with fail
  go_ret
  exact⟨rfl,al (Below.refl _ _) _⟩
 by_cases h6:b=0
 case neg=>
  rw[pgC_form (by omega) (by omega)]
  have g6:(b !=0)=true:=by simpa using h6
  subst h5
  clear h6
  go_enter Tryz.func109,Tryz.ntmps109
  go_wp2_with fail
  go_ret
  exact⟨rfl,al (Below.refl _ _) _⟩
 rw[pgC_ok (by omega) (by omega)]
 subst h5 h6
 clear h1 h3 h4
 go_enter Tryz.func109,Tryz.ntmps109
 go_wp2_with fail
 go_ret
 exact⟨rfl,al (Below.refl _ _) _⟩
theorem impl_faultBad(a:Option Addr)(n cap:Nat)(top:Int)(w:World)(hn:n≠8)(hm:n≤1048576)(h1:1≤top)(h2:top≤24):
  Calls Tryz.prog 67 #[.slice a n cap,.int .i64 top] w fun e w'=>e=.returned (.int .i64 1)∧w'=w:=by
 have g:((n:Int) !=8)=true:=by simp;omega
 have hi:(n:Int)≤1048576:=by omega
 have k1:¬top<1:=by omega
 have k2:¬24<top:=by omega
 go_enter Tryz.func67,Tryz.ntmps67
 go_wp2_with fail
 go_ret
 exact⟨rfl,rfl⟩
theorem impl_fault(v:Value)(rs:List (Int×Int))(top:Int)(b:Nat)(w:World)(h:Prs 36 w b v rs)(hm:rs.length≤1048576):
  Calls Tryz.prog 67 #[v,.int .i64 top] w fun e w'=>e=.returned (.int .i64 (pgsV rs top))∧Below w.heap.size w w':=by
 obtain⟨a,cap,rfl,l1,l2,hg⟩:=h.shape
 by_cases h1:top<1
 case pos=>
  rw[pgsV,if_neg (by omega)]
  clear h
  go_enter Tryz.func67,Tryz.ntmps67
  go_wp2_with fail
  go_ret
  exact⟨rfl,Below.refl _ _⟩
 by_cases h2:24<top
 case pos=>
  rw[pgsV,if_neg (by omega)]
  clear h
  go_enter Tryz.func67,Tryz.ntmps67
  go_wp2_with fail
  go_ret
  exact⟨rfl,Below.refl _ _⟩
 by_cases hl:rs.length=8
 case neg=>
  rw[pgsV,if_pos (by omega),if_neg hl]
  refine(impl_faultBad _ _ _ _ _ hl hm (by omega) (by omega)).mono ?_
  rintro e w'⟨rfl,rfl⟩
  exact⟨rfl,Below.refl _ _⟩
 rw[pgsV,if_pos (by omega),if_pos hl]
 rw[hl]at hg ⊢
 have HZ:Hid (Prs 36 w b (.slice a 8 cap) rs):=by show Prs 36 _ _ _ _;rw[←hl];exact h
 have HN:=hid hl
 obtain⟨g,rfl⟩:=hg (by omega)
 clear h hl l1 l2 hg hm
 go_enter Tryz.func67,Tryz.ntmps67
 go_wp2_with fail
 go_loopw [6,7,19] (fun _ _ c wr=>∃j:Nat,j≤8∧c=.int .i64 j∧okTo top rs j∧Below w.heap.size w wr) (fun _ _ c _=>8-(intOf c).toNat)
 case atStart=>exact⟨0,Nat.zero_le _,rfl,fun i hi=>by omega,Below.refl _ _⟩
 case round=>
  obtain⟨j,hj,rfl,hA,hB⟩:=hrel
  have HB:Hid (Below _ _ _):=hB
  have HA:=hid hA
  by_cases hlt:j<8
  ·have c1:=cell_keep hB (HZ.out.cell HN.out.symm j hlt).1
   have c2:=cell_keep hB (HZ.out.cell HN.out.symm j hlt).2
   have hI:(j:Int)<8:=by omega
   have HL:=hid hlt
   have hF:=fun w=>impl_pageFault (rs.getD j (0,0)).1 (rs.getD j (0,0)).2 top w
   have HS:Hid (pgC top (rs.getD j (0,0)).1 (rs.getD j (0,0)).2=0→okTo top rs (j+1)):=okTo_succ hA
   have HT:Hid (pgC top (rs.getD j (0,0)).1 (rs.getD j (0,0)).2≠0→firstC top rs=pgC top (rs.getD j (0,0)).1 (rs.getD j (0,0)).2):=firstC_at (by have:=HN.out;omega) hA
   generalize (rs.getD j (0,0)).1=p at*
   generalize (rs.getD j (0,0)).2=q at*
   generalize pgC top p q=c at*
   clear hB hlt hA
   by_cases hc:c=0
   ·have HS2:Hid (okTo top rs (j+1)):=HS.out hc
    subst hc
    clear HS HT
    go_wp2_with fail
    refine(hF _).mono ?_
    rintro e w5⟨rfl,b5⟩
    have B5:Hid (Below w.heap.size w w5):=by first|exact on (al HB.out _) b5|exact on HB.out b5
    clear b5 hF
    go_wp2_with fail
    go_roundw
    case rel=>exact⟨j+1,by have:=HL.out;omega,by go_num,HS2.out,B5.out⟩
    case measure=>have:=HL.out;simp[intOf];omega
   ·have hc2:(c !=0)=true:=by simpa using hc
    have HT2:Hid (firstC top rs=c):=HT.out hc
    clear hc HT HS
    go_wp2_with fail
    refine(hF _).mono ?_
    rintro e w5⟨rfl,b5⟩
    have B5:Hid (Below w.heap.size w w5):=by first|exact on (al HB.out _) b5|exact on HB.out b5
    clear b5 hF
    go_wp2_with fail
    go_ret
    exact⟨by rw[HT2.out];rfl,B5.out⟩
  ·have hI:¬(j:Int)<8:=by omega
   obtain rfl:j=8:=by omega
   have HE:Hid (firstC top rs=0):=firstC_ok (by rw[HN.out];exact hA)
   clear hB hA
   go_wp2_with fail
   go_ret
   exact⟨by rw[HE.out];rfl,HB.out⟩
theorem spec_faultBad(a:Option Addr)(n cap:Nat)(top:Int)(w:World)(hn:n≠8)(hm:n≤1048576)(h1:1≤top)(h2:top≤24):
  Calls Tryz.prog 55 #[.slice a n cap,.int .i64 top] w fun e w'=>e=.returned (.int .i64 1)∧w'=w:=by
 have g:((n:Int) !=8)=true:=by simp;omega
 have hi:(n:Int)≤1048576:=by omega
 have k:(decide (1≤top)&&decide (top≤24))=true:=by simp;omega
 go_enter Tryz.func55,Tryz.ntmps55
 go_wp2_with (go_at_call 38;refine(spec_in _ _ _ _).mono ?_;rintro e x ⟨rfl,rfl⟩;rw[k])
 go_ret
 exact⟨rfl,rfl⟩
theorem spec_fault(v:Value)(rs:List (Int×Int))(top:Int)(b:Nat)(w:World)(h:Prs 36 w b v rs)(hm:rs.length≤1048576):
  Calls Tryz.prog 55 #[v,.int .i64 top] w fun e w'=>e=.returned (.int .i64 (pgsV rs top))∧w'=w:=by
 obtain⟨a,cap,rfl,l1,l2,hg⟩:=h.shape
 by_cases h1:(decide (1≤top)&&decide (top≤24))=true
 case neg=>
  rw[Bool.not_eq_true]at h1
  rw[pgsV,if_neg (by simp at h1;omega)]
  clear h
  go_enter Tryz.func55,Tryz.ntmps55
  go_wp2_with (go_at_call 38;refine(spec_in _ _ _ _).mono ?_;rintro e x ⟨rfl,rfl⟩;rw[h1])
  go_ret
  exact⟨rfl,rfl⟩
 have h2:1≤top∧top≤24:=by simpa using h1
 obtain⟨t1,t2⟩:=h2
 by_cases hl:rs.length=8
 case neg=>
  rw[pgsV,if_pos (by omega),if_neg hl]
  exact spec_faultBad _ _ _ _ _ hl hm t1 t2
 rw[pgsV,if_pos (by omega),if_pos hl]
 rw[hl]at hg ⊢
 have HZ:Hid (Prs 36 w b (.slice a 8 cap) rs):=by show Prs 36 _ _ _ _;rw[←hl];exact h
 have HN:=hid hl
 obtain⟨g,rfl⟩:=hg (by omega)
 clear h hl l1 l2 hg hm
 go_enter Tryz.func55,Tryz.ntmps55
 go_wp2_with (go_at_call 38;refine(spec_in _ _ _ _).mono ?_;rintro e x ⟨rfl,rfl⟩;rw[h1])
 go_loop [5] (fun c=>∃j:Nat,j≤8∧c=.int .i64 j∧okTo top rs j) (fun c=>8-(intOf c).toNat)
 case atStart=>exact⟨0,Nat.zero_le _,rfl,fun i hi=>by omega⟩
 case round=>
  obtain⟨j,hj,rfl,hA⟩:=hrel
  by_cases hlt:j<8
  ·have c1:=(HZ.out.cell HN.out.symm j hlt).1
   have c2:=(HZ.out.cell HN.out.symm j hlt).2
   have hI:(j:Int)<8:=by omega
   have HL:=hid hlt
   have HS:Hid (pgC top (rs.getD j (0,0)).1 (rs.getD j (0,0)).2=0→okTo top rs (j+1)):=okTo_succ hA
   have HT:Hid (pgC top (rs.getD j (0,0)).1 (rs.getD j (0,0)).2≠0→firstC top rs=pgC top (rs.getD j (0,0)).1 (rs.getD j (0,0)).2):=firstC_at (by have:=HN.out;omega) hA
   generalize (rs.getD j (0,0)).1=p at*
   generalize (rs.getD j (0,0)).2=q at*
   clear hlt hA
   by_cases k1:(decide (-1≤p)&&decide (p≤top-1))=true
   case neg=>
    rw[Bool.not_eq_true]at k1
    have e:pgC top p q=3:=pgC_range (by simp at k1;omega)
    have HT2:Hid (firstC top rs=3):=by show _=_;rw[HT.out (by omega),e]
    clear e HT HS
    go_wp2_with (go_at_call 38;refine(spec_in _ _ _ _).mono ?_;rintro e x ⟨rfl,rfl⟩;rw[k1])
    go_ret
    exact⟨by rw[HT2.out];rfl,rfl⟩
   by_cases k2:(decide (0≤q)&&decide (q≤7))=true
   case neg=>
    rw[Bool.not_eq_true]at k2
    have e:pgC top p q=3:=pgC_range (by simp at k2;omega)
    have HT2:Hid (firstC top rs=3):=by show _=_;rw[HT.out (by omega),e]
    clear e HT HS
    go_wp2_with (go_at_call 38;refine(spec_in _ _ _ _).mono ?_;rintro e x ⟨rfl,rfl⟩;first|rw[k1]|rw[k2])
    go_ret
    exact⟨by rw[HT2.out];rfl,rfl⟩
   have b1: -1≤p∧p≤top-1:=by simpa using k1
   have b2:0≤q∧q≤7:=by simpa using k2
   obtain⟨p1,p2⟩:=b1
   obtain⟨p3,p4⟩:=b2
   by_cases k3:p<0
   case neg=>
    have e:pgC top p q=0:=pgC_ok (by omega) (by omega)
    have S:=HS.out e
    have HS':Hid (okTo top rs (j+1)):=S
    clear e HT HS S
    go_wp2_with (go_at_call 38;refine(spec_in _ _ _ _).mono ?_;rintro e x ⟨rfl,rfl⟩;first|rw[k1]|rw[k2])
    go_round
    case rel=>exact⟨j+1,by have:=HL.out;omega,by go_num,HS'.out⟩
    case measure=>have:=HL.out;simp[intOf];omega
   by_cases k4:q=0
   case neg=>
    have e:pgC top p q=1:=pgC_form (by omega) (by omega)
    have HT2:Hid (firstC top rs=1):=by show _=_;rw[HT.out (by omega),e]
    have k5:(q !=0)=true:=by simpa using k4
    clear e HT HS k4
    go_wp2_with (go_at_call 38;refine(spec_in _ _ _ _).mono ?_;rintro e x ⟨rfl,rfl⟩;first|rw[k1]|rw[k2])
    go_ret
    exact⟨by rw[HT2.out];rfl,rfl⟩
   ·have e:pgC top p q=0:=pgC_ok (by omega) (by omega)
    have HS':Hid (okTo top rs (j+1)):=HS.out e
    subst k4
    clear e HT HS
    go_wp2_with (go_at_call 38;refine(spec_in _ _ _ _).mono ?_;rintro e x ⟨rfl,rfl⟩;first|rw[k1]|rw[k2])
    go_round
    case rel=>exact⟨j+1,by have:=HL.out;omega,by go_num,HS'.out⟩
    case measure=>have:=HL.out;simp[intOf];omega
  ·have hI:¬(j:Int)<8:=by omega
   obtain rfl:j=8:=by omega
   have HE:Hid (firstC top rs=0):=firstC_ok (by rw[HN.out];exact hA)
   clear hA
   go_wp2_with fail
   go_ret
   exact⟨by rw[HE.out];rfl,rfl⟩
theorem Mq.pre{S:Nat→Prop}{w w':World}{o:Obj}(h:Mq S (w.alloc o) w'):Mq S w w':=
 ⟨h.os,h.tape,h.output,by have:=h.size;simp at this;omega,fun k hk hn=>by rw[h.block k (by simp;omega) hn,Below.heap_alloc _ _ _ hk]⟩
end Go.Proofs.YtaefollmeoepkaaGreatDoor
