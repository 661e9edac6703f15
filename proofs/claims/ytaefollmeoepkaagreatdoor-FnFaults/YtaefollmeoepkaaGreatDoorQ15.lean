import Derived.Laws.CopyOwn
import Derived.Deep.RegionLaw
import Derived.Test.YtaefollmeoepkaaGreatDoorQ12
namespace Go.Proofs.YtaefollmeoepkaaGreatDoor
set_option maxRecDepth 20000
set_option maxHeartbeats 16000000
open Go.RowKit
set_option linter.unusedVariables false
variable{w:World}{base g p:Nat}{zs:List Int}
theorem Pags.heap(h:Pags w base (.slice (some ⟨g,0,none⟩) p p) p zs):w.heap[g]? =some (.cells (zs.map (Value.int .i64)).toArray 133 (0,0)):=by
 obtain⟨h1,⟨h2,h3⟩|⟨g',cap,cur,hv,hb,hh,h4,h5,h6,h7⟩⟩:=h
 ·simp at h2
 ·simp at hv
  obtain⟨rfl,rfl⟩:=hv
  rw[List.take_of_length_le (by simp[h6])]at h7
  rw[hh,←h7]
theorem Pags.of_heap(hh:w.heap[g]? =some (.cells (zs.map (Value.int .i64)).toArray 133 (0,0)))(hl:zs.length=p*8)(hb:base≤g)(hp:p≤maxLen):Pags w base (.slice (some ⟨g,0,none⟩) p p) p zs:=
 ⟨by simpa using hl,.inr ⟨g,p,_,rfl,hb,hh,Nat.le_refl _,hp,by simpa using hl,by rw[List.take_of_length_le (by simp[hl])]⟩⟩
def cutL(zs:List Int)(p j:Nat):List Int:=zs.take (j*8)++List.replicate ((p-j)*8) 0
theorem cutL_length(zs:List Int)(p j:Nat)(hz:zs.length=p*8)(hj:j≤p):(cutL zs p j).length=p*8:=by
 simp[cutL,hz]
 omega
def eight(zs:List Int)(j:Nat):List Int:=(zs.drop (j*8)).take 8
theorem eight_length(zs:List Int)(p j:Nat)(hz:zs.length=p*8)(hj:j<p):(eight zs j).length=8:=by
 simp[eight,hz]
 omega
theorem splice_cut(zs:List Int)(p j:Nat)(hz:zs.length=p*8)(hj:j<p):
  splice ((cutL zs p j).map (Value.int .i64)) (j*8) ((eight zs j).map (Value.int .i64))=(cutL zs p (j+1)).map (Value.int .i64):=by
 have h8:=eight_length zs p j hz hj
 unfold splice
 rw[List.length_map,h8,←List.map_take,←List.map_drop,←List.map_append,←List.map_append]
 congr 1
 have e1:(cutL zs p j).take (j*8)=zs.take (j*8):=by
  unfold cutL
  rw[List.take_append_of_le_length (by simp[hz];omega),List.take_take,Nat.min_self]
 have e2:(cutL zs p j).drop (j*8+8)=List.replicate ((p-(j+1))*8) 0:=by
  unfold cutL
  rw[List.drop_append,List.drop_of_length_le (by simp;omega),List.nil_append,List.drop_replicate]
  congr 1
  simp[hz]
  omega
 rw[e1,e2,←List.append_assoc]
 unfold cutL eight
 rw[show(j+1)*8=j*8+8 by omega,List.take_add]
theorem eight_cell{w:World}{base g n cap:Nat}{zs:List Int}(h:Nums w base (.slice (some ⟨g,0,none⟩) n cap) zs)(p j:Nat)(hz:zs.length=p*8)(hj:j<p)(hn:n=zs.length):
  ∀i v,((eight zs j).map (Value.int .i64))[i]? =some v→w.cell? ((⟨g,j*8,none⟩:Addr).add i)=some v:=by
 intro i v hv
 have hi:i<8:=by
  have:=(List.getElem?_eq_some_iff.1 hv).1
  rw[List.length_map,eight_length zs p j hz hj]at this
  exact this
 rw[Addr.add_lit,h.cell hn (j*8+i) (by omega),←hv]
 simp only[eight,List.getElem?_map,List.getElem?_take,hi,if_true,List.getElem?_drop,List.getD]
 rw[List.getElem?_eq_getElem (by omega)]
 rfl
theorem impl_cut(gm n cap:Nat)(zs:List Int)(b p:Nat)(w:World)(h:Nums w b (.slice (some ⟨gm,0,none⟩) n cap) zs)(hz:zs.length=p*8)(hp:p≤24)(hp0:1≤p):
  Calls Tryz.prog 70 #[.slice (some ⟨gm,0,none⟩) n cap] w fun e w'=>∃g,e=.returned (.slice (some ⟨g,0,none⟩) p p)∧Pags w' w.heap.size (.slice (some ⟨g,0,none⟩) p p) p zs∧Below w.heap.size w w':=by
 obtain⟨i,hi,hz0,hz1,hz2⟩:=info_parts info_wpage
 have HM:Hid (Nums w b _ zs):=h
 have hnn:=h.len
 obtain⟨hl1,hl2⟩:=h.lens
 unfold maxLen at hl2
 have HZ:=hid hz
 have HP:Hid (1≤p∧p≤24):=⟨hp0,hp⟩
 obtain rfl:n=p*8:=by omega
 have HC:Hid (p*8≤cap∧cap≤9223372036854775807):=⟨by omega,hl2⟩
 have hpi:(p:Int)≤24:=by omega
 clear h hz hp hp0 hnn hl1 hl2
 go_enter Tryz.func70,Tryz.ntmps70
 go_wp2_with (at_make;refine wpList_make_full _ rfl _ _ 76 rfl w.heap.size 133 i _ 8 Tryz.underlying76 hi hz0 hz1 _ _ _ _ p rfl rfl (by omega) (by omega) (by have:=HP.out;rw[hz2];omega) (by have:=HP.out;unfold maxLen;omega) (by simp) ?_;intro w1 hown hgrow;have b1:=(Below.refl _ _).grown hgrow (Nat.le_refl _) (by simp))
 have P1:Hid (w1.heap[w.heap.size]? =some (.cells ((cutL zs p 0).map (Value.int .i64)).toArray 133 (0,0))):=by
  refine Pags.heap (base:=w.heap.size) (p:=p) ?_
  unfold Pags
  rw[show(Value.agg (Array.replicate 8 (.int .i64 0))).cells=Array.replicate 8 (.int .i64 0)from rfl,made_replicate _ _ _ (by decide)]at hown
  simpa [cutL]using hown
 have B1:=hid b1
 clear hown hgrow hi hz0 hz1 hz2 b1
 go_wp2_with fail
 go_loopw [4,11] (fun _ c wr=>∃j:Nat,j≤p∧c=.int .i64 j∧Hid (wr.heap[w.heap.size]? =some (.cells ((cutL zs p j).map (Value.int .i64)).toArray 133 (0,0)))∧Below w.heap.size w wr) (fun _ c _=>p-(intOf c).toNat)
 case atStart=>exact⟨0,Nat.zero_le _,rfl,P1,B1.out⟩
 case round=>
  obtain⟨j,hj,rfl,hH,hB⟩:=hrel
  have HB:Hid (Below _ _ _):=hB
  clear hB P1
  by_cases hlt:j<p
  ·have hJ:(j:Int)<(p:Int):=by omega
   have HLT:=hid hlt
   have HS:Hid (∀i v,((eight zs j).map (Value.int .i64))[i]? =some v→wr.cell? ((⟨gm,j*8,none⟩:Addr).add i)=some v):=by
    intro i v hv
    exact cell_keep HB.out (eight_cell HM.out p j HZ.out hlt HZ.out.symm i v hv)
   obtain⟨X,hX⟩:∃X,X=(eight zs j).map (Value.int .i64):=⟨_,rfl⟩
   obtain⟨Y,hY⟩:∃Y,Y=(cutL zs p j).map (Value.int .i64):=⟨_,rfl⟩
   rw[←hX]at HS
   rw[←hY]at hH
   have XL:Hid (X.length=8):=by show _=_;rw[hX,List.length_map];exact eight_length zs p j HZ.out hlt
   have YL:Hid (Y.length=p*8):=by show _=_;rw[hY,List.length_map];exact cutL_length zs p j HZ.out hj
   have X1:Hid (∀v ∈ X,v.oneCell'=true):=by
    intro v hv
    rw[hX]at hv
    obtain⟨z,_,rfl⟩:=List.mem_map.1 hv
    rfl
   have SP:Hid (splice Y (j*8) X=(cutL zs p (j+1)).map (Value.int .i64)):=by show _=_;rw[hX,hY];exact splice_cut zs p j HZ.out hlt
   obtain⟨k,hk⟩:∃k:Nat,j*8=k:=⟨_,rfl⟩
   have HK:=hid hk
   have hw:IntKind.i64.wrap ((j:Int)*8)=(k:Int):=by
    rw[show(j:Int)*8=(k:Int) by omega]
    rw[IntKind.wrap_i64];omega
   have hk1:(k:Int)≤(p:Int)*8:=by omega
   have hk2:¬cap=k:=by have:=HC.out;omega
   have hk3:Hid (k+8≤p*8):=by show _≤_;omega
   clear hX hY hlt hk
   go_wp2_with fail
   go_region_law (refine step_copy_splice rfl (.tmp 17) (.tmp 21) 24 24 rfl 2 Tryz.underlying24 (by kernel_rfl) (some ⟨w.heap.size,j*8,none⟩) (some ⟨gm,k,none⟩) 8 8 (p*8-k) (cap-k) (by simp[Act.eval,Act.put]) (by simp[Act.eval,Act.put]) w.heap.size (j*8) Y 133 hH.out X (by rw[XL.out];have:=hk3.out;exact(Nat.min_eq_right (by omega)).symm) (fun _=>⟨rfl,_,rfl,by rw[←HK.out];exact HS.out⟩) (by rw[XL.out,YL.out];have:=hk3.out;have:=HK.out;omega) X1.out w.heap.size w (by first|exact HB.out|exact HB.out.drew|exact HB.out.drew.drew) (Nat.le_refl _) ?_;intro w4 hg4 hb4)
   have H4:Hid (w4.heap[w.heap.size]? =some (.cells ((cutL zs p (j+1)).map (Value.int .i64)).toArray 133 (0,0))):=by
    show _=_
    rw[←SP.out]
    exact hg4.out
   have B4:=hid hb4
   clear hg4 hb4 SP X1 XL YL HS hH
   go_wp2_with fail
   go_roundw
   case rel=>exact⟨j+1,by have:=HLT.out;omega,by go_num,H4,B4.out⟩
   case measure=>have:=HLT.out;simp[intOf];omega
  ·have hJ:¬(j:Int)<(p:Int):=by omega
   obtain rfl:j=p:=by omega
   go_wp2_with fail
   go_ret
   refine⟨_,rfl,?_,HB.out⟩
   have h1:=hH.out
   have e:cutL zs j j=zs:=by simp[cutL,List.take_of_length_le (Nat.le_of_eq HZ.out)]
   rw[e]at h1
   exact Pags.of_heap h1 HZ.out (Nat.le_refl _) (by have:=HP.out;unfold maxLen;omega)
def forP(to k:Int):Int×Int:=if k=0 then(-1,0)else(to,k)
theorem impl_pageFor(to k:Int)(w:World):Calls Tryz.prog 155 #[.int .i64 to,.int .i64 k] w fun e w'=>e=.returned (.agg #[.int .i64 (forP to k).1,.int .i64 (forP to k).2])∧Below w.heap.size w w':=by
 by_cases h:k=0
 ·subst h
  rw[forP,if_pos rfl]
  go_enter Tryz.func155,Tryz.ntmps155
  go_wp2_with fail
  exact bodyPost_ret (v:=.agg #[.int .i64 (-1),.int .i64 0]) (by simp[results,Tryz.results155,go_sem]) rfl ⟨rfl,al (Below.refl _ _) _⟩
 ·rw[forP,if_neg h]
  have g:(k==0)=false:=beq_eq_false_iff_ne.2 h
  go_enter Tryz.func155,Tryz.ntmps155
  go_wp2_with fail
  exact bodyPost_ret (v:=.agg #[.int .i64 to,.int .i64 k]) (by simp[results,Tryz.results155,go_sem]) rfl ⟨rfl,al (Below.refl _ _) _⟩
theorem spec_none(w:World):Calls Tryz.prog 129 #[] w fun e w'=>e=.returned (.agg #[.int .i64 (-1),.int .i64 0])∧Below w.heap.size w w':=by
 go_enter Tryz.func129,Tryz.ntmps129
 go_wp2_with fail
 exact bodyPost_ret (v:=.agg #[.int .i64 (-1),.int .i64 0]) (by simp[results,Tryz.results129,go_sem]) rfl ⟨rfl,al (Below.refl _ _) _⟩
def entP(z:Int):Int×Int:=if z%8=0∨8≤z/8 then(-1,0)else(z/8,z%8)
def entC(z:Int):Int:=if isW z then 0 else 3
def entE(z:Int):Int×Int:=if isW z then entP z else(0,0)
theorem isW_true{z:Int}(h:isW z=true):0≤z∧z≤4294967295:=by simpa [isW]using h
theorem spec_entry(z:Int)(w:World)(h0:0≤z)(h1:z≤4294967295):Calls Tryz.prog 160 #[.int .i64 z] w fun e w'=>e=.returned (.agg #[.int .i64 (entP z).1,.int .i64 (entP z).2])∧Below w.heap.size w w':=by
 by_cases h:z%8=0
 ·rw[entP,if_pos (.inl h)]
  have g:(z%8==0)=true:=by simpa using h
  go_enter Tryz.func160,Tryz.ntmps160
  go_wp2_with fail
  refine(spec_none _).mono ?_
  rintro e w1⟨rfl,b1⟩
  have k0:w1.cell? ⟨w.heap.size,0,none⟩=some (.int .i64 0):=cell_keep b1 (by simp)
  have k1:w1.cell? ⟨w.heap.size,1,none⟩=some (.int .i64 0):=cell_keep b1 (by simp)
  have f0:w1.frozen? ⟨w.heap.size,0,none⟩=false:=by rw[(bcell b1).2 _ _ (by simp;omega)];simp
  have f1:w1.frozen? ⟨w.heap.size,1,none⟩=false:=by rw[(bcell b1).2 _ _ (by simp;omega)];simp
  go_wp2_with fail
  exact bodyPost_ret (v:=.agg #[.int .i64 (-1),.int .i64 0]) (by simp[results,Tryz.results160,go_sem,k0,k1]) rfl ⟨rfl,((on (al (al (Below.refl _ _) _) _) b1).setCell (by simp) _).setCell (by simp) _⟩
 have g:(z%8==0)=false:=by simpa using h
 by_cases k:8≤z/8
 ·rw[entP,if_pos (.inr k)]
  go_enter Tryz.func160,Tryz.ntmps160
  go_wp2_with fail
  refine(spec_none _).mono ?_
  rintro e w1⟨rfl,b1⟩
  have k0:w1.cell? ⟨w.heap.size,0,none⟩=some (.int .i64 0):=cell_keep b1 (by simp)
  have k1:w1.cell? ⟨w.heap.size,1,none⟩=some (.int .i64 0):=cell_keep b1 (by simp)
  have f0:w1.frozen? ⟨w.heap.size,0,none⟩=false:=by rw[(bcell b1).2 _ _ (by simp;omega)];simp
  have f1:w1.frozen? ⟨w.heap.size,1,none⟩=false:=by rw[(bcell b1).2 _ _ (by simp;omega)];simp
  go_wp2_with fail
  exact bodyPost_ret (v:=.agg #[.int .i64 (-1),.int .i64 0]) (by simp[results,Tryz.results160,go_sem,k0,k1]) rfl ⟨rfl,((on (al (al (Below.refl _ _) _) _) b1).setCell (by simp) _).setCell (by simp) _⟩
 ·rw[entP,if_neg (by omega)]
  go_enter Tryz.func160,Tryz.ntmps160
  go_wp2_with fail
  exact bodyPost_ret (v:=.agg #[.int .i64 (z/8),.int .i64 (z%8)]) (by simp[results,Tryz.results160,go_sem]) rfl ⟨rfl,al (al (Below.refl _ _) _) _⟩
theorem impl_entryOf(z:Int)(w:World):Calls Tryz.prog 156 #[.int .i64 z] w fun e w'=>e=.returned (.agg #[.int .i64 (entC z),.int .i64 (entE z).1,.int .i64 (entE z).2])∧Below w.heap.size w w':=by
 cases h:isW z
 ·rw[show entC z=3 by simp[entC,h],show entE z=(0,0) by simp[entE,h]]
  go_enter Tryz.func156,Tryz.ntmps156
  go_wp2_with (go_at_call 31;refine(impl_isWord _ _).mono ?_;rintro e x ⟨rfl,rfl⟩;rw[h])
  exact bodyPost_ret (v:=.agg #[.int .i64 3,.int .i64 0,.int .i64 0]) (by simp[results,Tryz.results156,go_sem]) rfl ⟨rfl,al (Below.refl _ _) _⟩
 ·rw[show entC z=0 by simp[entC,h],show entE z=entP z by simp[entE,h]]
  obtain⟨h0,h1⟩:=isW_true h
  by_cases k:8≤z/8
  ·rw[entP,if_pos (.inr k)]
   go_enter Tryz.func156,Tryz.ntmps156
   go_wp2_with (go_at_call 31;refine(impl_isWord _ _).mono ?_;rintro e x ⟨rfl,rfl⟩;rw[h])
   exact bodyPost_ret (v:=.agg #[.int .i64 0,.int .i64 (-1),.int .i64 0]) (by simp[results,Tryz.results156,go_sem]) rfl ⟨rfl,al (Below.refl _ _) _⟩
  ·have hF:=fun w=>impl_pageFor (z/8) (z%8) w
   have e:entP z=forP (z/8) (z%8):=by
    unfold entP forP
    by_cases h8:z%8=0
    ·rw[if_pos (.inl h8),if_pos h8]
    ·rw[if_neg (by omega),if_neg h8]
   rw[e]
   generalize (forP (z/8) (z%8)).1=p at*
   generalize (forP (z/8) (z%8)).2=q at*
   clear e
   go_enter Tryz.func156,Tryz.ntmps156
   go_wp2_with (go_at_call 31;refine(impl_isWord _ _).mono ?_;rintro e x ⟨rfl,rfl⟩;rw[h])
   refine(hF _).mono ?_
   rintro e w1⟨rfl,b1⟩
   obtain⟨c1,z1⟩:=bcell b1
   go_wp2_with fail
   exact bodyPost_ret (v:=.agg #[.int .i64 0,.int .i64 p,.int .i64 q]) (by simp[results,Tryz.results156,go_sem,c1]) rfl ⟨rfl,(((on (al (Below.refl _ _) _) b1).setCell (by simp) _).setCell (by simp) _).setCell (by simp) _⟩
theorem step_pair{ops:Array Oper}{o:Oper}{act:Act}{w:World}{K:Act→World→Prop}{Q:Exit→Act→World→Prop}{E:Prop}(t e:TypeId)(he:Tryz.prog.underlying t=some (.slice e))(hinfo:(Tryz.prog.info? e).map (fun i=>(i.zero,i.size,i.bytes))=some (some (.agg #[.int .i64 0,.int .i64 0]),2,16))
  (hgd:o.guard=none) (s x:Operand)
  (ho:o.op=.call { callee:=.builtin .append,args:=#[s,x],argTypes:=#[t,t]}) (base:Nat) (v:Value) (rs:List (Int×Int)) (hs:act.eval s=v) (hN:Prs e w base v rs)
  (B:Nat) (a b:Int) (hx:act.eval x=.slice (some ⟨B,0,none⟩) 1 1) (h0:w.cell? ⟨B,0,none⟩=some (.int .i64 a)) (h1:w.cell? ⟨B,1,none⟩=some (.int .i64 b))
  (hlen:rs.length≤1000000000) (hbase:base≤w.heap.size)
  (h:∀v' w',Hid (Prs e w' base v' (rs++ [(a,b)]))→w.grownBy w' v.ownBlock→K (act.put o.dst v') w'):
  if Region.wanted o (yielded ops act.tmps)=true then Oper.wp Tryz.prog o act w K Q else E:=by
 have hw:Region.wanted o (yielded ops act.tmps)=true:=by simp[Region.wanted,hgd]
 rw[if_pos hw]
 obtain⟨i,hi,hz0,hz1,hz2⟩:=info_parts hinfo
 refine wp_append_own w s x t ho base e i _ 2 16 he hi hz0 hz1 hz2 rfl (by decide) v rs.length _ hs hN ⟨B,0,none⟩ 1 1 (flat [(a,b)]) hx rfl ?_ (flat_one _) (by unfold maxLen;omega) (by omega) hbase ?_
 ·intro j u hj
  rw[Addr.add_lit,Nat.zero_add]
  match j,hj with
  |0,hj=>rw[h0];exact hj
  |1,hj=>rw[h1];exact hj
  |j+2,hj=>simp[flat]at hj
 ·intro v' w' hown hgrow _
  refine h v' w' ?_ hgrow
  show Prs e w' base v' (rs++ [(a,b)])
  unfold Prs
  rw[List.length_append,flat_append]
  exact hown
theorem cell_new2{w:World}{a:Obj}{cs:Array Value}{t:TypeId}{i:Nat}{v:Value}(h:cs[i]? =some v):((w.alloc a).alloc (.cells cs t)).cell? ⟨w.heap.size+1,i,none⟩=some v:=by
 have:=cell_new (w:=w.alloc a) (cs:=cs) (t:=t) (i:=i) h
 rwa[World.size_alloc]at this
theorem frozen_grown{w w':World}{row:Option Nat}{p:Addr}(g:w.grownBy w' row)(hp:p.block<w.heap.size)(hne:some p.block≠row):w'.frozen? p=w.frozen? p:=
 World.frozen?_of_block (w:=w) (g.block p.block hp hne)
def fromC(zs:List Int):Int:=if zs.length=8 then(if zs.all isW then 0 else 3)else 1
def fromP(zs:List Int):List (Int×Int):=if zs.length=8 then(if zs.all isW then zs.map entP else [])else []
theorem from_take(zs:List Int)(j:Nat)(h:j<zs.length):(zs.take (j+1)).map entP=(zs.take j).map entP++ [((entP (zs.getD j 0)).1,(entP (zs.getD j 0)).2)]:=by
 rw[List.take_succ_eq_append_getElem h,List.map_append,List.getD,List.getElem?_eq_getElem h]
 rfl
def kindB(k:Int):Bool:=decide (k=1∨k=2∨k=4)
def kindV(k:Int):Int:=if k=1 then 7 else if k=2 then 8 else if k=4 then 9 else 0
theorem kind_cases{k:Int}(h:kindB k=true):k=1∨k=2∨k=4:=of_decide_eq_true h
theorem kind_not{k:Int}(h:kindB k=false):(k==1)=false∧(k==2)=false∧(k==4)=false:=by
 have:=of_decide_eq_false h
 simp
 omega
theorem band_zero(k:Int):bits BinOp.and .i64 0 k=0:=by
 show IntKind.i64.wrap ((BitVec.ofInt 64 0&&&BitVec.ofInt 64 k).toNat:Int)=0
 rw[BitVec.toNat_and]
 simp[IntKind.wrap_i64]
theorem impl_kind(k:Int)(w:World):Calls Tryz.prog 46 #[.int .i64 k] w fun e w'=>e=.returned (.tuple #[.int .i64 (kindV k),.bool (kindB k)])∧w'=w:=by
 cases h:kindB k
 ·obtain⟨h1,h2,h4⟩:=kind_not h
  have hv:kindV k=0:=by simp at h1 h2 h4;simp[kindV,h1,h2,h4]
  rw[hv]
  clear hv h
  go_enter Tryz.func46,Tryz.ntmps46
  go_wp2_with fail
  go_ret2
  exact⟨rfl,rfl⟩
 ·rcases kind_cases h with rfl|rfl|rfl
  all_goals
   go_enter Tryz.func46,Tryz.ntmps46
   go_wp2_with fail
   go_ret2
   exact⟨rfl,rfl⟩
theorem spec_kindV(k:Int)(w:World)(h:kindB k=true):Calls Tryz.prog 87 #[.int .i64 k] w fun e w'=>e=.returned (.int .i64 (kindV k))∧w'=w:=by
 rcases kind_cases h with rfl|rfl|rfl
 all_goals
  go_enter Tryz.func87,Tryz.ntmps87
  go_wp2_with fail
  go_ret
  exact⟨rfl,rfl⟩
def goesB(rs:List (Int×Int))(at_ k:Int):Bool:=decide (0≤at_)&&decide (at_≤63)&& !(bits BinOp.and .i64 (rs.getD (at_/8).toNat (0,0)).2 k==0)
def goesTo(rs:List (Int×Int))(at_:Int):Int:=(rs.getD (at_/8).toNat (0,0)).1*8+at_%8
def wkC(rs:List (Int×Int))(at_ k:Int):Int:=if kindB k then(if goesB rs at_ k then 0 else kindV k)else 3
def wkV(rs:List (Int×Int))(at_ k:Int):Int:=if kindB k then(if goesB rs at_ k then goesTo rs at_ else 0)else 0
theorem okTo_at{rs:List (Int×Int)}{t:Int}(h:okTo t rs 8){x:Int}(h0:0≤x)(h1:x≤63):pgC t (rs.getD (x/8).toNat (0,0)).1 (rs.getD (x/8).toNat (0,0)).2=0:=h _ (by omega)
theorem goes_in{rs:List (Int×Int)}{t:Int}(h:okTo t rs 8){x k:Int}(hg:goesB rs x k=true):0≤x∧x≤63∧0≤(rs.getD (x/8).toNat (0,0)).1∧(rs.getD (x/8).toNat (0,0)).1≤t-1:=by
 unfold goesB at hg
 simp only[Bool.and_eq_true,decide_eq_true_eq,Bool.not_eq_true',beq_eq_false_iff_ne]at hg
 obtain⟨⟨h0,h1⟩,h2⟩:=hg
 have hz:=pgC_zero (okTo_at h h0 h1)
 refine⟨h0,h1,?_,hz.2.1⟩
 apply Classical.byContradiction
 intro hn
 have:(rs.getD (x/8).toNat (0,0)).2=0:=hz.2.2.2.2 (by omega)
 rw[this,band_zero]at h2
 exact h2 rfl
def atB(x:Int):Bool:=decide (0≤x)&&decide (x≤63)
def atN(x:Int):Int:=if atB x then x/8 else 0
theorem impl_pageOf(x:Int)(w:World):Calls Tryz.prog 123 #[.int .i64 x] w fun e w'=>e=.returned (.tuple #[.int .i64 (atN x),.bool (atB x)])∧w'=w:=by
 by_cases h1:x<0
 ·have e1:atB x=false:=by simp[atB];omega
  rw[atN,e1]
  clear e1
  go_enter Tryz.func123,Tryz.ntmps123
  go_wp2_with fail
  go_ret2
  exact⟨rfl,rfl⟩
 by_cases h2:64≤x
 ·have e1:atB x=false:=by simp[atB];omega
  rw[atN,e1]
  clear e1
  go_enter Tryz.func123,Tryz.ntmps123
  go_wp2_with fail
  go_ret2
  exact⟨rfl,rfl⟩
 have e1:atB x=true:=by simp[atB];omega
 have h3:0≤x:=by omega
 have h4:x<64:=by omega
 rw[atN,e1,if_pos rfl]
 clear e1 h1 h2
 go_enter Tryz.func123,Tryz.ntmps123
 go_wp2_with fail
 go_ret2
 exact⟨rfl,rfl⟩
def wpgC(q k:Int):Int:=if kindB k then(if bits BinOp.and .i64 q k==0 then kindV k else 0)else 3
def wpgV(p q x k:Int):Int:=if kindB k then(if bits BinOp.and .i64 q k==0 then 0 else p*8+x%8)else 0
theorem impl_walkPage(p q x k:Int)(w:World)(h:(bits BinOp.and .i64 q k==0)=false→0≤p∧p≤23∧0≤x∧x≤63):
  Calls Tryz.prog 124 #[.agg #[.int .i64 p,.int .i64 q],.int .i64 x,.int .i64 k] w fun e w'=>e=.returned (.agg #[.int .i64 (wpgC q k),.int .i64 (wpgV p q x k)])∧Below w.heap.size w w':=by
 cases hk:kindB k
 ·have e1:wpgC q k=3:=by simp[wpgC,hk]
  have e2:wpgV p q x k=0:=by simp[wpgV,hk]
  rw[e1,e2]
  clear e1 e2 h
  go_enter Tryz.func124,Tryz.ntmps124
  go_wp2_with (go_at_call 46;refine(impl_kind _ _).mono ?_;rintro e w1 ⟨rfl,rfl⟩;rw[hk])
  exact bodyPost_ret (v:=.agg #[.int .i64 3,.int .i64 0]) (by simp[results,Tryz.results124,go_sem]) rfl ⟨rfl,al (al (Below.refl _ _) _) _⟩
 generalize hkv:kindV k=kv at*
 have HKV:=hid hkv
 cases hq:(bits BinOp.and .i64 q k==0)
 ·obtain⟨p1,p2,h3,h4⟩:=h hq
  have e1:wpgC q k=0:=by unfold wpgC;rw[hk,hq];rfl
  have e2:wpgV p q x k=p*8+x%8:=by unfold wpgV;rw[hk,hq];rfl
  rw[e1,e2]
  clear e1 e2 hkv h
  go_enter Tryz.func124,Tryz.ntmps124
  go_wp2_with (go_at_call 46;refine(impl_kind _ _).mono ?_;rintro e w1 ⟨rfl,rfl⟩;rw[hk,HKV.out])
  exact bodyPost_ret (v:=.agg #[.int .i64 0,.int .i64 (p*8+x%8)]) (by simp[results,Tryz.results124,go_sem]) rfl ⟨rfl,al (al (Below.refl _ _) _) _⟩
 ·have e1:wpgC q k=kv:=by unfold wpgC;rw[hk,hq,hkv];rfl
  have e2:wpgV p q x k=0:=by unfold wpgV;rw[hk,hq];rfl
  rw[e1,e2]
  clear e1 e2 hkv h
  go_enter Tryz.func124,Tryz.ntmps124
  go_wp2_with (go_at_call 46;refine(impl_kind _ _).mono ?_;rintro e w1 ⟨rfl,rfl⟩;rw[hk,HKV.out])
  exact bodyPost_ret (v:=.agg #[.int .i64 kv,.int .i64 0]) (by simp[results,Tryz.results124,go_sem]) rfl ⟨rfl,al (al (Below.refl _ _) _) _⟩
theorem impl_walk(v:Value)(rs:List (Int×Int))(x k:Int)(b:Nat)(w:World)(h:Prs 36 w b v rs)(hl:rs.length=8)(ho:okTo 24 rs 8):
  Calls Tryz.prog 82 #[v,.int .i64 x,.int .i64 k] w fun e w'=>e=.returned (.agg #[.int .i64 (wkC rs x k),.int .i64 (wkV rs x k)])∧Below w.heap.size w w':=by
 obtain⟨a,cap,rfl,l1,l2,hg⟩:=h.shape
 obtain⟨g,rfl⟩:=hg (by omega)
 rw[hl]
 have HZ:Hid (Prs 36 w b (.slice (some ⟨g,0,none⟩) 8 cap) rs):=by show Prs 36 _ _ _ _;rw[←hl];exact h
 have HL:=hid hl
 clear l1 l2 hg h hl
 cases hb:atB x
 ·have hgo:goesB rs x k=false:=by unfold goesB;unfold atB at hb;rw[hb];rfl
  have e1:wkC rs x k=wpgC 0 k:=by unfold wkC wpgC;rw[hgo,band_zero];rfl
  have e2:wkV rs x k=wpgV (-1) 0 x k:=by unfold wkV wpgV;rw[hgo,band_zero];rfl
  rw[e1,e2]
  have hW:=fun u=>impl_walkPage (-1) 0 x k u (fun hh=>by rw[band_zero]at hh;exact absurd hh (by decide))
  generalize wpgC 0 k=c at*
  generalize wpgV (-1) 0 x k=y at*
  clear e1 e2 hgo
  go_enter Tryz.func82,Tryz.ntmps82
  go_wp2_with (first|(go_at_call 123;refine(impl_pageOf _ _).mono ?_;rintro e w1 ⟨rfl,rfl⟩;rw[hb])|(go_at_call 124;refine(hW _).mono ?_;rintro e w1 ⟨rfl,b1⟩;have k0:=cell_keep b1 (cell_new (i:=0) rfl);have k1:=cell_keep b1 (cell_new (i:=1) rfl);have z0:w1.frozen? ⟨w.heap.size,0,none⟩=false:=(by rw[(bcell b1).2 _ _ (by simp)];simp);have z1:w1.frozen? ⟨w.heap.size,1,none⟩=false:=(by rw[(bcell b1).2 _ _ (by simp)];simp);have B1:Hid (Below w.heap.size w w1):=on (al (Below.refl _ _) _) b1;clear b1))
  exact bodyPost_ret (v:=.agg #[.int .i64 c,.int .i64 y]) (by simp[results,Tryz.results82,go_sem,k0,k1]) rfl ⟨rfl,(B1.out.setCell (by simp) _).setCell (by simp) _⟩
 have hb2:=hb
 simp only[atB,Bool.and_eq_true,decide_eq_true_eq]at hb2
 obtain⟨h3,h4⟩:=hb2
 have hz:=pgC_zero (okTo_at ho h3 h4)
 have c1:=(HZ.out.cell HL.out.symm (x/8).toNat (by omega)).1
 have c2:=(HZ.out.cell HL.out.symm (x/8).toNat (by omega)).2
 have gb:g<w.heap.size:=block_of_cell c1
 have q0:0≤x/8:=by omega
 have q1:x/8<8:=by omega
 have hgo:goesB rs x k= !(bits BinOp.and .i64 (rs.getD (x/8).toNat (0,0)).2 k==0):=by unfold goesB;simp[h3,h4]
 have e1:wkC rs x k=wpgC (rs.getD (x/8).toNat (0,0)).2 k:=by
  unfold wkC wpgC;rw[hgo]
  cases kindB k<;>cases (bits BinOp.and .i64 (rs.getD (x/8).toNat (0,0)).2 k==0)<;>rfl
 have e2:wkV rs x k=wpgV (rs.getD (x/8).toNat (0,0)).1 (rs.getD (x/8).toNat (0,0)).2 x k:=by
  unfold wkV wpgV goesTo;rw[hgo]
  cases kindB k<;>cases (bits BinOp.and .i64 (rs.getD (x/8).toNat (0,0)).2 k==0)<;>rfl
 rw[e1,e2]
 have en:atN x=x/8:=by rw[atN,hb];rfl
 clear e1 e2 hgo
 generalize (rs.getD (x/8).toNat (0,0)).1=p at*
 generalize (rs.getD (x/8).toNat (0,0)).2=q at*
 obtain⟨p1,p2,p3,p4,p5⟩:=hz
 have hW:=fun u=>impl_walkPage p q x k u (fun hh=>⟨(by
  apply Classical.byContradiction
  intro hn
  rw[p5 (by omega),band_zero]at hh
  exact absurd hh (by decide)),by omega,h3,h4⟩)
 generalize wpgC q k=c at*
 generalize wpgV p q x k=y at*
 clear p1 p2 p3 p4 p5
 go_enter Tryz.func82,Tryz.ntmps82
 go_wp2_with (first|(go_at_call 123;refine(impl_pageOf _ _).mono ?_;rintro e w1 ⟨rfl,rfl⟩;rw[hb,en])|(go_at_call 124;refine(hW _).mono ?_;rintro e w1 ⟨rfl,b1⟩;have k0:=cell_keep b1 (cell_new (i:=0) rfl);have k1:=cell_keep b1 (cell_new (i:=1) rfl);have z0:w1.frozen? ⟨w.heap.size,0,none⟩=false:=(by rw[(bcell b1).2 _ _ (by simp)];simp);have z1:w1.frozen? ⟨w.heap.size,1,none⟩=false:=(by rw[(bcell b1).2 _ _ (by simp)];simp);have B1:Hid (Below w.heap.size w w1):=on (al (Below.refl _ _) _) b1;clear b1))
 exact bodyPost_ret (v:=.agg #[.int .i64 c,.int .i64 y]) (by simp[results,Tryz.results82,go_sem,k0,k1]) rfl ⟨rfl,(B1.out.setCell (by simp) _).setCell (by simp) _⟩
theorem impl_fromR(g o cap:Nat)(zs:List Int)(w:World)(hl:zs.length=8)(h:∀j,j<8→w.cell? ⟨g,o+j,none⟩=some (.int .i64 (zs.getD j 0))):
  Calls Tryz.prog 122 #[.slice (some ⟨g,o,none⟩) 8 cap] w fun e w'=>∃u,e=.returned (.agg #[.int .i64 (fromC zs),u])∧Prs 36 w' w.heap.size u (fromP zs)∧Below w.heap.size w w':=by
 have HZ:=hid h
 have HN:=hid hl
 have HC:Hid (fromC zs=if zs.all isW then 0 else 3):=if_pos hl
 have HP:Hid (fromP zs=if zs.all isW then zs.map entP else []):=if_pos hl
 generalize fromC zs=cz at*
 generalize fromP zs=pz at*
 clear h hl
 go_enter Tryz.func122,Tryz.ntmps122
 go_wp2_with fail
 go_loopw [3,5,6,13] (fun u _ _ c wr=>∃j:Nat,j≤8∧c=.int .i64 j∧(zs.take j).all isW=true∧Prs 36 wr (w.heap.size+1) u ((zs.take j).map entP)∧wr.cell? ⟨w.heap.size,0,none⟩=some (.int .i64 0)∧wr.cell? ⟨w.heap.size,1,none⟩=some (.slice none 0 0)∧wr.frozen? ⟨w.heap.size,0,none⟩=false∧wr.frozen? ⟨w.heap.size,1,none⟩=false∧Below w.heap.size w wr) (fun _ _ _ c _=>8-(intOf c).toNat)
 case atStart=>exact⟨0,Nat.zero_le _,rfl,rfl,Prs.nil _ _ _,by simp,by simp,by simp,by simp,al (Below.refl _ _) _⟩
 case round=>
  obtain⟨j,hj,rfl,hA,hP,r0,r1,f0,f1,hB⟩:=hrel
  have PB:Hid (Prs 36 wr (w.heap.size+1) _ ((zs.take j).map entP)):=hP
  have HB:=hid hB
  have HA:=hid hA
  have s0:w.heap.size<wr.heap.size:=block_of_cell r0
  obtain⟨ua,uc,rfl,_,_,_⟩:=hP.shape
  have HLN:Hid (((zs.take j).map entP).length≤8∧((zs.take j).map entP).length≤8):=⟨by simp;omega,by simp;omega⟩
  generalize hun:((zs.take j).map entP).length=un at*
  clear hP
  by_cases hlt:j<8
  ·have c1:=cell_keep hB (HZ.out j hlt)
   have gb:g<wr.heap.size:=block_of_cell c1
   have hI:(j:Int)<8:=by omega
   have HL:=hid hlt
   have hE:=fun w=>impl_entryOf (zs.getD j 0) w
   have HT:=all_take zs j (by have:=HN.out;omega)
   rw[hA]at HT
   have HX:=all_not zs j (by have:=HN.out;omega)
   have HM:=from_take zs j (by have:=HN.out;omega)
   cases hw:isW (zs.getD j 0)
   ·rw[show entC (zs.getD j 0)=3 by rw[entC,hw];rfl,show entE (zs.getD j 0)=(0,0) by rw[entE,hw];rfl]at hE
    have HXX:Hid (cz=3∧pz=[]):=⟨by rw[HC.out,HX hw];rfl,by rw[HP.out,HX hw];rfl⟩
    generalize zs.getD j 0=z at*
    clear hB hlt hA HT HX HM hw
    go_wp2_with fail
    refine(hE _).mono ?_
    rintro e w5⟨rfl,b5⟩
    have r0:=cell_keep b5 r0
    have r1:=cell_keep b5 r1
    have f0:w5.frozen? ⟨w.heap.size,0,none⟩=false:=by rw[b5.frozen (p:=⟨w.heap.size,0,none⟩) s0];exact f0
    have f1:w5.frozen? ⟨w.heap.size,1,none⟩=false:=by rw[b5.frozen (p:=⟨w.heap.size,1,none⟩) s0];exact f1
    have B5:=hid (on HB.out b5)
    have s5:w.heap.size<w5.heap.size:=block_of_cell r0
    clear b5
    go_wp2_with fail
    exact bodyPost_ret (v:=.agg #[.int .i64 3,.slice none 0 0]) (by simp[results,Tryz.results122,go_sem,r0,r1,s5]) rfl ⟨_,by rw[HXX.out.1],by rw[HXX.out.2];exact Prs.nil _ _ _,al ((B5.out.setCell (by simp) _).setCell (by simp) _) _⟩
   ·rw[show entC (zs.getD j 0)=0 by rw[entC,hw];rfl,show entE (zs.getD j 0)=entP (zs.getD j 0) by rw[entE,hw];rfl]at hE
    rw[hw]at HT
    have HTT:Hid ((zs.take (j+1)).all isW=true):=HT
    have HMM:Hid ((zs.take (j+1)).map entP=(zs.take j).map entP++ [((entP (zs.getD j 0)).1,(entP (zs.getD j 0)).2)]):=HM
    generalize (entP (zs.getD j 0)).1=p at*
    generalize (entP (zs.getD j 0)).2=q at*
    generalize zs.getD j 0=z at*
    clear hB hlt hA HT HX HM hw
    go_wp2_with fail
    refine(hE _).mono ?_
    rintro e w5⟨rfl,b5⟩
    have r0:=cell_keep b5 r0
    have r1:=cell_keep b5 r1
    have f0:w5.frozen? ⟨w.heap.size,0,none⟩=false:=by rw[b5.frozen (p:=⟨w.heap.size,0,none⟩) s0];exact f0
    have f1:w5.frozen? ⟨w.heap.size,1,none⟩=false:=by rw[b5.frozen (p:=⟨w.heap.size,1,none⟩) s0];exact f1
    have B5:=hid (on HB.out b5)
    have P5:=hid (PB.out.keep b5)
    have s5:w.heap.size<w5.heap.size:=block_of_cell r0
    have S5:=hid s5
    clear b5 hE
    go_wp2_with (at_builtin;refine wp_pair 27 36 Tryz.underlying27 info_page _ rfl _ _ rfl (w.heap.size+1) _ _ rfl (P5.out.keep (al (al (Below.refl _ _) _) _)) _ p q rfl (cell_new2 rfl) (cell_new2 rfl) (by rw[hun];have:=HLN.out;omega) (by have:=S5.out;simp;omega) ?_;intro v' w' hP' hG')
    have PP:Hid (Prs 36 w' (w.heap.size+1) v' _):=hP'
    have BP:Hid (Below w.heap.size w w'):=(al (al B5.out _) _).grown hG' (by have:=S5.out;simp;omega) (fun k hk=>by have:=(P5.out.lt k hk).1;omega)
    have hne:some w.heap.size≠(Value.slice ua un uc).ownBlock:=pown_not P5.out _ (.inl (by omega))
    have r0:=cell_grown hG' (cell_push _ (cell_push _ r0)) hne
    have r1:=cell_grown hG' (cell_push _ (cell_push _ r1)) hne
    have f0:w'.frozen? ⟨w.heap.size,0,none⟩=false:=by rw[frozen_grown (p:=⟨w.heap.size,0,none⟩) hG' (by simp;omega) hne,(al (al (Below.refl w5.heap.size w5) _) _).frozen (p:=⟨w.heap.size,0,none⟩) s5];exact f0
    have f1:w'.frozen? ⟨w.heap.size,1,none⟩=false:=by rw[frozen_grown (p:=⟨w.heap.size,1,none⟩) hG' (by simp;omega) hne,(al (al (Below.refl w5.heap.size w5) _) _).frozen (p:=⟨w.heap.size,1,none⟩) s5];exact f1
    clear hP' hG' hne
    go_wp2_with fail
    go_roundw
    case rel=>exact⟨j+1,by have:=HL.out;omega,by go_num,HTT.out,by rw[HMM.out];exact PP.out,r0,r1,f0,f1,BP.out⟩
    case measure=>have:=HL.out;simp[intOf];omega
  ·have hI:¬(j:Int)<8:=by omega
   obtain rfl:j=8:=by omega
   have hz8:zs.take 8=zs:=List.take_of_length_le (Nat.le_of_eq HN.out)
   rw[hz8]at PB HA
   have HXX:Hid (cz=0∧pz=zs.map entP):=⟨by rw[HC.out,HA.out];rfl,by rw[HP.out,HA.out];rfl⟩
   have hv:Hid (some w.heap.size≠(Value.slice ua un uc).ownBlock):=pown_not PB.out _ (.inl (by omega))
   clear hB hA
   go_wp2_with fail
   exact bodyPost_ret (v:=.agg #[.int .i64 0,.slice ua un uc]) (by simp[results,Tryz.results122,go_sem,r0,r1]) rfl ⟨_,by rw[HXX.out.1],by rw[HXX.out.2];exact((PB.out.put _ _ (fun e=>hv.out e.symm)).put _ _ (fun e=>hv.out e.symm)).mono (by omega),(HB.out.setCell (by simp) _).setCell (by simp) _⟩
set_option maxRecDepth 20000 in
set_option maxHeartbeats 4000000 in
theorem spec_fromR(g o cap:Nat)(zs:List Int)(w:World)(hl:zs.length=8)(h:∀j,j<8→w.cell? ⟨g,o+j,none⟩=some (.int .i64 (zs.getD j 0))):
    Calls Tryz.prog 126 #[.slice (some ⟨g,o,none⟩) 8 cap] w fun e w'=>∃u,e=.returned (.agg #[.int .i64 (fromC zs),u])∧Prs 36 w' w.heap.size u (fromP zs)∧Below w.heap.size w w':=by
  have HZ:Hid (∀j,j<8→w.cell? ⟨g,o+j,none⟩=some (.int .i64 (zs.getD j 0))):=h
  have HN:Hid (zs.length=8):=hl
  have HC:Hid (fromC zs=if zs.all isW then 0 else 3):=if_pos hl
  have HP:Hid (fromP zs=if zs.all isW then zs.map entP else []):=if_pos hl
  generalize fromC zs=cz at*
  generalize fromP zs=pz at*
  clear h hl
  go_enter Tryz.func126,Tryz.ntmps126
  go_wp2_with fail
  go_loopw [4] (fun c wr=>∃(j:Nat) (u:Value),j≤8∧c=.int .i64 j∧(zs.take j).all isW=true∧Prs 36 wr (w.heap.size+2) u ((zs.take j).map entP)∧(wr.cell? ⟨w.heap.size,0,none⟩=some (.int .i64 0)∧wr.cell? ⟨w.heap.size,1,none⟩=some (.slice none 0 0)∧wr.frozen? ⟨w.heap.size,0,none⟩=false∧wr.frozen? ⟨w.heap.size,1,none⟩=false)∧(wr.cell? ⟨w.heap.size+1,0,none⟩=some (.int .i64 0)∧wr.cell? ⟨w.heap.size+1,1,none⟩=some u∧wr.frozen? ⟨w.heap.size+1,1,none⟩=false)∧Below w.heap.size w wr) (fun c _=>8-(intOf c).toNat)
  case atStart=>exact⟨0,_,Nat.zero_le _,rfl,rfl,Prs.nil _ _ _,⟨by simp,by simp,by simp,by simp⟩,⟨by simp,by simp,by simp⟩,al (al (Below.refl _ _) _) _⟩
  case round=>
    obtain⟨j,u,hj,rfl,hA,hP,⟨r0,r1,f0,f1⟩,⟨o0,o1,g1⟩,hB⟩:=hrel
    have PB:Hid (Prs 36 wr (w.heap.size+2) u ((zs.take j).map entP)):=hP
    have HB:Hid (Below w.heap.size w wr):=hB
    have HA:Hid ((zs.take j).all isW=true):=hA
    have s1:w.heap.size+1<wr.heap.size:=block_of_cell o0
    have s0:w.heap.size<wr.heap.size:=by omega
    obtain⟨ua,uc,hu,_,_,_⟩:=hP.shape
    have HLN:Hid (((zs.take j).map entP).length≤8∧((zs.take j).map entP).length≤8):=⟨by simp;omega,by simp;omega⟩
    generalize hun:((zs.take j).map entP).length=un at*
    subst hu
    clear hP
    by_cases hlt:j<8
    · have c1:=cell_keep hB (HZ.out j hlt)
      have gb:g<wr.heap.size:=block_of_cell c1
      have hI:(j:Int)<8:=by omega
      have HL:Hid (j<8):=hlt
      have HT:=all_take zs j (by have:=HN.out;omega)
      rw[hA]at HT
      have HX:=all_not zs j (by have:=HN.out;omega)
      have HM:=from_take zs j (by have:=HN.out;omega)
      cases hw:isW (zs.getD j 0)
      · have HXX:Hid (cz=3∧pz=[]):=⟨by rw[HC.out,HX hw];rfl,by rw[HP.out,HX hw];rfl⟩
        generalize zs.getD j 0=z at*
        unfold isW at hw
        clear hB hlt hA HT HX HM
        go_wp2_with (go_at_call 38;refine(spec_in _ _ _ _).mono ?_;rintro e wr ⟨rfl,rfl⟩;rw[hw])
        exact bodyPost_ret (v:=.agg #[.int .i64 3,.slice none 0 0]) (by simp[results,Tryz.results126,go_sem,r0,r1]) rfl ⟨_,by rw[HXX.out.1],by rw[HXX.out.2];exact Prs.nil _ _ _,(HB.out.setCell (by simp) _).setCell (by simp) _⟩
      · obtain⟨w0,w1⟩:=isW_true hw
        have hE:=fun w=>spec_entry (zs.getD j 0) w w0 w1
        rw[hw]at HT
        have HTT:Hid ((zs.take (j+1)).all isW=true):=HT
        have HMM:Hid ((zs.take (j+1)).map entP=(zs.take j).map entP++ [((entP (zs.getD j 0)).1,(entP (zs.getD j 0)).2)]):=HM
        generalize (entP (zs.getD j 0)).1=p at*
        generalize (entP (zs.getD j 0)).2=q at*
        generalize zs.getD j 0=z at*
        unfold isW at hw
        clear hB hlt hA HT HX HM w0 w1
        go_wp2_with (go_at_call 38;refine(spec_in _ _ _ _).mono ?_;rintro e wr ⟨rfl,rfl⟩;rw[hw])
        have HBd:Hid (Below w.heap.size w wr.drew):=HB.out.drew
        have PBd:Hid (Prs 36 wr.drew (w.heap.size+2) (.slice ua un uc) ((zs.take j).map entP)):=PB.out
        have FF:Hid (wr.drew.frozen? ⟨w.heap.size,0,none⟩=false∧wr.drew.frozen? ⟨w.heap.size,1,none⟩=false∧wr.drew.frozen? ⟨w.heap.size+1,1,none⟩=false):=⟨f0,f1,g1⟩
        have RR:Hid (wr.drew.cell? ⟨w.heap.size,0,none⟩=some (.int .i64 0)∧wr.drew.cell? ⟨w.heap.size,1,none⟩=some (.slice none 0 0)∧wr.drew.cell? ⟨w.heap.size+1,0,none⟩=some (.int .i64 0)):=⟨r0,r1,o0⟩
        have SS:Hid (w.heap.size+1<wr.drew.heap.size):=s1
        have hne:some (w.heap.size+1)≠(Value.slice ua un uc).ownBlock:=pown_not PB.out _ (.inl (by omega))
        have hne0:some w.heap.size≠(Value.slice ua un uc).ownBlock:=pown_not PB.out _ (.inl (by omega))
        have HNE:Hid (some (w.heap.size+1)≠(Value.slice ua un uc).ownBlock∧some w.heap.size≠(Value.slice ua un uc).ownBlock):=⟨hne,hne0⟩
        clear hne hne0 r0 r1 f0 f1 o0 g1
        go_region_law (first
          |(refine step_pair 27 36 Tryz.underlying27 info_page rfl (.tmp 24) (.tmp 30) rfl (w.heap.size+2) (.slice ua un uc) _ (by simp[Act.eval]) (P5.out.keep (al (Below.refl _ _) _)) w5.heap.size p q (by simp[Act.eval]) (cell_new rfl) (cell_new rfl) (by rw[hun];have:=HLN.out;omega) (by have:=S5.out;simp;omega) ?_;intro v' w' hP' hG';obtain⟨va,vc,hv',_,_,_⟩:=hP'.out.shape;generalize hvn:List.length _=vn at hv';clear hvn;subst hv';have o1:=cell_grown hG' (cell_push _ o1) HNE.out.1;have g1:w'.frozen? ⟨w.heap.size+1,1,none⟩=false:=(by rw[frozen_grown (p:=⟨w.heap.size+1,1,none⟩) hG' (by have:=S5.out;simp;omega) HNE.out.1,(al (Below.refl w5.heap.size w5) _).frozen (p:=⟨w.heap.size+1,1,none⟩) S5.out];exact F5.out.2.2))
          |(go_simp;go_wp2_with (go_at_call 160;refine(hE _).mono ?_;rintro e w5 ⟨rfl,b5⟩;have o1:w5.cell? ⟨w.heap.size+1,1,none⟩=some (.slice ua un uc):=cell_keep b5 o1;have B5:Hid (Below w.heap.size w w5):=on HBd.out b5;have P5:Hid (Prs 36 w5 (w.heap.size+2) (.slice ua un uc) ((zs.take j).map entP)):=PBd.out.keep b5;have R5:Hid (w5.cell? ⟨w.heap.size,0,none⟩=some (.int .i64 0)∧w5.cell? ⟨w.heap.size,1,none⟩=some (.slice none 0 0)∧w5.cell? ⟨w.heap.size+1,0,none⟩=some (.int .i64 0)):=⟨cell_keep b5 RR.out.1,cell_keep b5 RR.out.2.1,cell_keep b5 RR.out.2.2⟩;have S5:Hid (w.heap.size+1<w5.heap.size):=Nat.lt_of_lt_of_le SS.out b5.size;have s5:=S5.out;have F5:Hid (w5.frozen? ⟨w.heap.size,0,none⟩=false∧w5.frozen? ⟨w.heap.size,1,none⟩=false∧w5.frozen? ⟨w.heap.size+1,1,none⟩=false):=⟨(by rw[b5.frozen (p:=⟨w.heap.size,0,none⟩) (by have:=SS.out;show w.heap.size<_;omega)];exact FF.out.1),(by rw[b5.frozen (p:=⟨w.heap.size,1,none⟩) (by have:=SS.out;show w.heap.size<_;omega)];exact FF.out.2.1),(by rw[b5.frozen (p:=⟨w.heap.size+1,1,none⟩) SS.out];exact FF.out.2.2)⟩)))
        all_goals have PP:Hid (Prs 36 w' (w.heap.size+2) (.slice va vn vc) ((zs.take j).map entP++ [(p,q)])):=hP'
        all_goals have BP:Hid (Below w.heap.size w w'):=(al B5.out _).grown hG' (by have:=S5.out;simp;omega) (fun k hk=>by have:=(P5.out.lt k hk).1;omega)
        all_goals have r0:=cell_grown hG' (cell_push _ R5.out.1) HNE.out.2
        all_goals have r1:=cell_grown hG' (cell_push _ R5.out.2.1) HNE.out.2
        all_goals have o0:=cell_grown hG' (cell_push _ R5.out.2.2) HNE.out.1
        all_goals have f0:w'.frozen? ⟨w.heap.size,0,none⟩=false:=by rw[frozen_grown (p:=⟨w.heap.size,0,none⟩) hG' (by have:=S5.out;simp;omega) HNE.out.2,(al (Below.refl w5.heap.size w5) _).frozen (p:=⟨w.heap.size,0,none⟩) (by show w.heap.size<_;omega)];exact F5.out.1
        all_goals have f1:w'.frozen? ⟨w.heap.size,1,none⟩=false:=by rw[frozen_grown (p:=⟨w.heap.size,1,none⟩) hG' (by have:=S5.out;simp;omega) HNE.out.2,(al (Below.refl w5.heap.size w5) _).frozen (p:=⟨w.heap.size,1,none⟩) (by show w.heap.size<_;omega)];exact F5.out.2.1
        all_goals have hvn:Hid ((Value.slice va vn vc).ownBlock≠some (w.heap.size+1)):=fun e=>pown_not PP.out _ (.inl (by omega)) e.symm
        all_goals have K9:Hid (∃(j':Nat) (u:Value),j'≤8∧(Value.int .i64 ((j:Int)+1))=.int .i64 j'∧(zs.take j').all isW=true∧Prs 36 (w'.setCell ⟨w.heap.size+1,1,none⟩ (.slice va vn vc)) (w.heap.size+2) u ((zs.take j').map entP)∧((w'.setCell ⟨w.heap.size+1,1,none⟩ (.slice va vn vc)).cell? ⟨w.heap.size,0,none⟩=some (.int .i64 0)∧(w'.setCell ⟨w.heap.size+1,1,none⟩ (.slice va vn vc)).cell? ⟨w.heap.size,1,none⟩=some (.slice none 0 0)∧(w'.setCell ⟨w.heap.size+1,1,none⟩ (.slice va vn vc)).frozen? ⟨w.heap.size,0,none⟩=false∧(w'.setCell ⟨w.heap.size+1,1,none⟩ (.slice va vn vc)).frozen? ⟨w.heap.size,1,none⟩=false)∧((w'.setCell ⟨w.heap.size+1,1,none⟩ (.slice va vn vc)).cell? ⟨w.heap.size+1,0,none⟩=some (.int .i64 0)∧(w'.setCell ⟨w.heap.size+1,1,none⟩ (.slice va vn vc)).cell? ⟨w.heap.size+1,1,none⟩=some u∧(w'.setCell ⟨w.heap.size+1,1,none⟩ (.slice va vn vc)).frozen? ⟨w.heap.size+1,1,none⟩=false)∧Below w.heap.size w (w'.setCell ⟨w.heap.size+1,1,none⟩ (.slice va vn vc))):=
          ⟨j+1,.slice va vn vc,by have:=HL.out;omega,by go_num,HTT.out,by rw[HMM.out];exact PP.out.put _ _ hvn.out,⟨by simp[go_sem,r0],by simp[go_sem,r1],by rw[World.frozen?_setCell];exact f0,by rw[World.frozen?_setCell];exact f1⟩,⟨by simp[go_sem,o0],by rw[World.cell?_setCell_same _ _ _ o1],by rw[World.frozen?_setCell];exact g1⟩,BP.out.setCell (by simp) _⟩
        all_goals clear hP' hG' R5 F5 P5 B5 PP BP hvn HMM HTT
        all_goals go_wp2_with fail
        all_goals go_roundw
        all_goals first
          |(show ∃_,_;exact K9.out)
          |(have:=HL.out;simp[intOf];omega)
    · have hI:¬(j:Int)<8:=by omega
      obtain rfl:j=8:=by omega
      have hz8:zs.take 8=zs:=List.take_of_length_le (Nat.le_of_eq HN.out)
      rw[hz8]at PB HA
      have HXX:Hid (cz=0∧pz=zs.map entP):=⟨by rw[HC.out,HA.out];rfl,by rw[HP.out,HA.out];rfl⟩
      have hv:Hid (some w.heap.size≠(Value.slice ua un uc).ownBlock):=pown_not PB.out _ (.inl (by omega))
      clear hB hA
      go_wp2_with fail
      exact bodyPost_ret (v:=.agg #[.int .i64 0,.slice ua un uc]) (by simp[results,Tryz.results126,go_sem,r0,r1]) rfl ⟨_,by rw[HXX.out.1],by rw[HXX.out.2];exact((PB.out.put _ _ (fun e=>hv.out e.symm)).put _ _ (fun e=>hv.out e.symm)).mono (by omega),(HB.out.setCell (by simp) _).setCell (by simp) _⟩
def goesV(rs:List (Int×Int))(x k:Int):Int:=if goesB rs x k then goesTo rs x else -1
theorem spec_l4walk(v:Value)(rs:List (Int×Int))(x k:Int)(b:Nat)(w:World)(h:Prs 36 w b v rs)(hl:rs.length=8)(ho:okTo 24 rs 8):
  Calls Tryz.prog 86 #[v,.int .i64 x,.int .i64 k] w fun e w'=>e=.returned (.int .i64 (goesV rs x k))∧Below w.heap.size w w':=by
 obtain⟨a,cap,rfl,l1,l2,hg⟩:=h.shape
 obtain⟨g,rfl⟩:=hg (by omega)
 rw[hl]
 have HZ:Hid (Prs 36 w b (.slice (some ⟨g,0,none⟩) 8 cap) rs):=by show Prs 36 _ _ _ _;rw[←hl];exact h
 have HL:=hid hl
 clear l1 l2 hg h hl
 by_cases h1:(decide (0≤x)&&decide (x≤63))=true
 case neg=>
  rw[Bool.not_eq_true]at h1
  have hgo:goesB rs x k=false:=by unfold goesB;rw[h1];rfl
  have e1:goesV rs x k= -1:=by simp[goesV,hgo]
  rw[e1]
  clear e1 hgo
  go_enter Tryz.func86,Tryz.ntmps86
  go_wp2_with (go_at_call 38;refine(spec_in _ _ _ _).mono ?_;rintro e y ⟨rfl,rfl⟩;rw[h1])
  go_ret
  exact⟨rfl,Below.refl _ _⟩
 have h2:0≤x∧x≤63:=by simpa using h1
 obtain⟨h3,h4⟩:=h2
 have hz:=pgC_zero (okTo_at ho h3 h4)
 have c1:=(HZ.out.cell HL.out.symm (x/8).toNat (by omega)).1
 have c2:=(HZ.out.cell HL.out.symm (x/8).toNat (by omega)).2
 have gb:g<w.heap.size:=block_of_cell c1
 have q0:0≤x/8:=by omega
 have q1:x/8<8:=by omega
 have HG:Hid (goesB rs x k= !(bits BinOp.and .i64 (rs.getD (x/8).toNat (0,0)).2 k==0)):=by show _=_;unfold goesB;simp[h3,h4]
 have HT:Hid (goesTo rs x=(rs.getD (x/8).toNat (0,0)).1*8+x%8):=rfl
 generalize (rs.getD (x/8).toNat (0,0)).1=p at*
 generalize (rs.getD (x/8).toNat (0,0)).2=q at*
 obtain⟨p1,p2,p3,p4,p5⟩:=hz
 by_cases hp:p<0
 ·have hq0:q=0:=p5 (by omega)
  have hgo:goesB rs x k=false:=by rw[HG.out,hq0,band_zero];rfl
  have e1:goesV rs x k= -1:=by simp[goesV,hgo]
  rw[e1]
  clear e1 hgo p3 p4 p5 hq0
  go_enter Tryz.func86,Tryz.ntmps86
  go_wp2_with (go_at_call 38;refine(spec_in _ _ _ _).mono ?_;rintro e y ⟨rfl,rfl⟩;rw[h1])
  go_ret
  exact⟨rfl,al (Below.refl _ _) _⟩
 cases hq:(bits BinOp.and .i64 q k==0)
 ·have hgo:goesB rs x k=true:=by rw[HG.out,hq];rfl
  have e1:goesV rs x k=p*8+x%8:=by simp[goesV,hgo,HT.out]
  rw[e1]
  clear e1 hgo p3 p4 p5
  go_enter Tryz.func86,Tryz.ntmps86
  go_wp2_with (go_at_call 38;refine(spec_in _ _ _ _).mono ?_;rintro e y ⟨rfl,rfl⟩;rw[h1])
  go_ret
  exact⟨rfl,al (Below.refl _ _) _⟩
 ·have hgo:goesB rs x k=false:=by rw[HG.out,hq];rfl
  have e1:goesV rs x k= -1:=by simp[goesV,hgo]
  rw[e1]
  clear e1 hgo p3 p4 p5
  go_enter Tryz.func86,Tryz.ntmps86
  go_wp2_with (go_at_call 38;refine(spec_in _ _ _ _).mono ?_;rintro e y ⟨rfl,rfl⟩;rw[h1])
  go_ret
  exact⟨rfl,al (Below.refl _ _) _⟩
def beyB(ps:List (Int×Int))(n:Nat):Bool:=ps.any fun p=>decide (((n/8:Nat):Int)≤p.1)
def seenC(H:Ht)(ps:List (Int×Int))(zs:List Int):Int:=if hfV H=0 then(if pgsV ps 24=0 then(if memV zs=0 then(if beyB ps zs.length then 1 else 0)else 1)else pgsV ps 24)else hfV H
def tabV(H:Ht):Int:=H.csr.getD 10 0
def tpg(H:Ht)(ps:List (Int×Int)):Int×Int:=ps.getD (tabV H-1).toNat (0,0)
def strL:List (Int×Int):=[(0,7),(1,7),(2,7),(3,7),(4,7),(5,7),(6,7),(7,7)]
def noB(H:Ht)(ps:List (Int×Int)):Bool:=decide (tabV H=8)||(bits BinOp.and .i64 (tpg H ps).2 1==0)
def spC(H:Ht)(ps:List (Int×Int)):Int:=if tabV H=0 then 0 else if noB H ps then 7 else 0
def spP(H:Ht)(ps:List (Int×Int))(zs:List Int):List (Int×Int):=if tabV H=0 then strL else if noB H ps then []else(eight zs (tpg H ps).1.toNat).map entP
def behC(ps:List (Int×Int))(y k:Int):Int:=if y/8=7 then(if k=4 then 9 else 0)else wkC ps y k
def behV(ps:List (Int×Int))(y k:Int):Int:=if y/8=7 then(if k=4 then 0 else 1000+y%8)else wkV ps y k
def plC(H:Ht)(ps:List (Int×Int))(zs:List Int)(x k:Int):Int:=if spC H ps=0 then(if wkC (spP H ps zs) x k=0 then behC ps (wkV (spP H ps zs) x k) k else wkC (spP H ps zs) x k)else spC H ps
def plV(H:Ht)(ps:List (Int×Int))(zs:List Int)(x k:Int):Int:=if spC H ps=0 then(if wkC (spP H ps zs) x k=0 then behV ps (wkV (spP H ps zs) x k) k else 0)else 0
structure Sn(H:Ht)(ps:List (Int×Int))(zs:List Int)(p:Nat):Prop where
 hok:Hok H
 l8:ps.length=8
 ok:okTo 24 ps 8
 zl:zs.length=p*8
 p1:1≤p
 p24:p≤24
 zw:zs.all isW=true
 tl:∀j,j<8→(ps.getD j (0,0)).1<p
 t0:0≤tabV H
 t8:tabV H≤8
theorem seen_ok{H:Ht}{ps:List (Int×Int)}{zs:List Int}(h:seenC H ps zs=0):∃p,Sn H ps zs p:=by
 unfold seenC at h
 split at h
 ·rename_i h1
  split at h
  ·rename_i h2
   split at h
   ·rename_i h3
    split at h
    ·exact absurd h (by decide)
    ·rename_i h4
     obtain⟨_,_,hl,ho⟩:=pgsV_zero h2
     have hk:=hok_of h1
     unfold memV at h3
     split at h3
     ·rename_i hf
      split at h3
      ·rename_i hw
       unfold formB at hf
       have hf:=of_decide_eq_true hf
       have ht:=hk.st
       unfold standC at ht
       simp at ht
       refine⟨zs.length/8,hk,hl,ho,by omega,by omega,by omega,hw,fun j hj=>?_,(all_at hk.cw 10).1,by unfold tabV;simp;omega⟩
       have hb:beyB ps zs.length=false:=by simpa using h4
       unfold beyB at hb
       rw[List.any_eq_false]at hb
       have:=hb (ps.getD j (0,0)) (by rw[List.getD,List.getElem?_eq_getElem (by omega)];exact List.getElem_mem _)
       simp at this
       simpa using this
      ·exact absurd h3 (by decide)
     ·exact absurd h3 (by decide)
   ·exact absurd h (by decide)
  ·rename_i h2;exact absurd h h2
 ·rename_i h1;exact absurd h h1
theorem okTo_up{ps:List (Int×Int)}{n:Nat}(h:okTo 8 ps n):okTo 24 ps n:=fun i hi=>by
 have:=pgC_zero (h i hi)
 exact pgC_ok ⟨by omega,by omega,by omega,by omega⟩ (fun e=>e.2 (this.2.2.2.2 e.1))
theorem okTo_str:okTo 8 strL 8:=fun i hi=>by
 have e:i=0∨i=1∨i=2∨i=3∨i=4∨i=5∨i=6∨i=7:=by omega
 rcases e with rfl|rfl|rfl|rfl|rfl|rfl|rfl|rfl<;>rfl
theorem okTo_ent{zs:List Int}(hl:zs.length=8)(hw:zs.all isW=true):okTo 8 (zs.map entP) 8:=fun i hi=>by
 have hm:=List.all_eq_true.1 hw _ (List.getElem_mem (l:=zs) (n:=i) (by omega))
 obtain⟨h0,h1⟩:=isW_true hm
 rw[List.getD,List.getElem?_map,List.getElem?_eq_getElem (by omega)]
 simp only[Option.map_some,Option.getD_some]
 unfold entP
 split
 ·rfl
 ·rename_i h
  exact pgC_ok ⟨by simp;omega,by simp;omega,by simp;omega,by simp;omega⟩ (by simp;omega)
theorem all_eight{zs:List Int}(h:zs.all isW=true)(j:Nat):(eight zs j).all isW=true:=by
 rw[List.all_eq_true]at h ⊢
 intro x hx
 exact h x (List.mem_of_mem_drop (List.mem_of_mem_take hx))
variable{H:Ht}{ps:List (Int×Int)}{zs:List Int}{p:Nat}
theorem tpg_in(s:Sn H ps zs p)(hz:¬tabV H=0):pgC 24 (tpg H ps).1 (tpg H ps).2=0∧(tpg H ps).1<p:=by
 have h0:=s.t0
 have h8:=s.t8
 have hj:(tabV H-1).toNat<8:=by omega
 exact⟨s.ok _ hj,s.tl _ hj⟩
theorem tpg_to(s:Sn H ps zs p)(hz:¬tabV H=0)(hn:noB H ps=false):∃q:Nat,q<p∧(tpg H ps).1=(q:Int):=by
 obtain⟨h1,h2⟩:=tpg_in s hz
 have h3:=pgC_zero h1
 have h4:(tpg H ps).1≠ -1:=by
  intro e
  have:=h3.2.2.2.2 e
  unfold noB at hn
  rw[this,band_zero]at hn
  simp at hn
 exact⟨(tpg H ps).1.toNat,by omega,by omega⟩
theorem sp_ok(s:Sn H ps zs p)(h:spC H ps=0):(spP H ps zs).length=8∧okTo 8 (spP H ps zs) 8:=by
 by_cases ht:tabV H=0
 ·have e:spP H ps zs=strL:=if_pos ht
  rw[e]
  exact⟨rfl,okTo_str⟩
 ·unfold spC at h
  rw[if_neg ht]at h
  cases hn:noB H ps
  ·obtain⟨q,hq,e1⟩:=tpg_to s ht hn
   have e:spP H ps zs=(eight zs q).map entP:=by
    unfold spP
    rw[if_neg ht,hn,e1]
    simp
   rw[e]
   have l:=eight_length zs p q s.zl hq
   exact⟨by simp[l],okTo_ent l (all_eight s.zw q)⟩
  ·rw[hn]at h
   exact absurd h (by decide)
variable{rs:List (Int×Int)}{x k:Int}
theorem sp_goes(ho:okTo 8 rs 8)(hk:kindB k=true)(h:wkC rs x k=0):goesB rs x k=true∧wkV rs x k=goesTo rs x∧0≤wkV rs x k∧wkV rs x k≤63:=by
 have hg:goesB rs x k=true:=by
  cases hg:goesB rs x k
  ·unfold wkC at h
   rw[hk,hg]at h
   exact absurd h (by rcases kind_cases hk with rfl|rfl|rfl<;>decide)
  ·rfl
 have e:wkV rs x k=goesTo rs x:=by simp[wkV,hk,hg]
 obtain⟨h0,h1,h2,h3⟩:=goes_in ho hg
 refine⟨hg,e,?_,?_⟩<;>rw[e]<;>unfold goesTo<;>omega
theorem goesV_no(hk:kindB k=true)(h:¬wkC rs x k=0):goesV rs x k= -1∧wkC rs x k=kindV k:=by
 cases hg:goesB rs x k
 ·simp[wkC,goesV,hk,hg]
 ·exact absurd (by simp[wkC,hk,hg]) h
theorem goesV_yes(hk:kindB k=true)(h:wkC rs x k=0):goesV rs x k=wkV rs x k:=by
 cases hg:goesB rs x k
 ·unfold wkC at h
  rw[hk,hg]at h
  exact absurd h (by rcases kind_cases hk with rfl|rfl|rfl<;>decide)
 ·simp[wkV,goesV,hk,hg]
end Go.Proofs.YtaefollmeoepkaaGreatDoor
