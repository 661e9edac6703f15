import Derived.Test.YtaefollmeoepkaaGreatDoorQ15
import Derived.Test.YtaefollmeoepkaaGreatDoorQ20
namespace Go.Proofs.YtaefollmeoepkaaGreatDoor
set_option maxRecDepth 20000
set_option maxHeartbeats 16000000
open Go.RowKit
theorem source_any{w:World}{a:Option Addr}{len cap:Nat}{zs:List Int}(hr:IsRow .u8 w a len cap zs):
  Calls Tryz.prog 25 #[.slice a len cap] w fun e w'=>e=.returned (.pointer (some ⟨w.heap.size,0,none⟩))∧Below w.heap.size w w'∧Src w' w.heap.size 0 a len cap zs:=by
 have HR:=hid hr
 clear hr
 go_enter Tryz.func25,Tryz.ntmps25
 go_wp2
 go_ret
 refine⟨rfl,(Below.refl _ _).alloc (Nat.le_refl _) _,cell_new rfl,cell_new rfl,?_,HR.out.turn (Turn.alloc w.heap.size w _) HR.out.block (Nat.le_refl _),HR.out.block,by simp⟩
 simp[go_sem]
def isWord(v:Int):Prop:=0≤v∧v≤4294967295
def isWide(v:Int):Prop:= -9223372036854775808≤v∧v≤9223372036854775807
variable{w:World}{b k:Nat}{a:Option Addr}{len cap:Nat}{zs:List Int}
theorem word_any(s:Src w b k a len cap zs)(hk:k≤90000):
  Calls Tryz.prog 95 #[.pointer (some ⟨b,0,none⟩)] w fun e w'=>∃v:Int,e=.returned (.int .i64 v)∧isWord v∧Turn b w w'∧Src w' b (k+5) a len cap zs:=by
 go_enter Tryz.func95,Tryz.ntmps95
 go_wp2_with fail
 refine(next_any s (by omega) _).mono ?_
 rintro e w1⟨v1,rfl,h1, -,t1,s1⟩
 obtain⟨l1,u1⟩:=h1 (by omega)
 clear h1
 go_wp2_with fail
 refine(next_any s1 (by omega) _).mono ?_
 rintro e w2⟨v2,rfl,h2, -,t2,s2⟩
 obtain⟨l2,u2⟩:=h2 (by omega)
 clear h2
 go_wp2_with fail
 refine(next_any s2 (by omega) _).mono ?_
 rintro e w3⟨v3,rfl,h3, -,t3,s3⟩
 obtain⟨l3,u3⟩:=h3 (by omega)
 clear h3
 go_wp2_with fail
 refine(next_any s3 (by omega) _).mono ?_
 rintro e w4⟨v4,rfl,h4, -,t4,s4⟩
 obtain⟨l4,u4⟩:=h4 (by omega)
 clear h4
 go_wp2_with fail
 have hb:=s4.here
 refine(pick_any (s4.alloc _) (by omega) isWord _ 7 (by omega) (by omega) (by simp) (by omega) ?_).mono ?_
 ·intro i hi
  have:i=0∨i=1∨i=2∨i=3∨i=4∨i=5∨i=6:=by omega
  rcases this with rfl|rfl|rfl|rfl|rfl|rfl|rfl
  all_goals exact⟨_,cell_new rfl,by unfold isWord;omega⟩
 rintro e w5⟨v,rfl,hv,t5,s5⟩
 go_wp2
 go_ret
 exact⟨v,rfl,hv,(((t1.trans t2).trans t3).trans t4).trans ((Turn.alloc b w4 _).trans t5),s5⟩
theorem chance_any(s:Src w b k a len cap zs)(hk:k≤100000)(n:Int):
  Calls Tryz.prog 50 #[.pointer (some ⟨b,0,none⟩),.int .i64 n] w fun e w'=>∃v:Bool,e=.returned (.bool v)∧Turn b w w'∧Src w' b (k+1) a len cap zs:=by
 go_enter Tryz.func50,Tryz.ntmps50
 go_wp2_with fail
 refine(next_any s (by omega) _).mono ?_
 rintro e w1⟨v1,rfl, -, -,t1,s1⟩
 go_wp2
 go_ret
 exact⟨_,rfl,t1,s1⟩
def fnA:Array Value:=#[.nilFunc,.func (.func 22) #[] #[],.func (.func 141) #[] #[],.func (.func 142) #[] #[],.func (.func 143) #[] #[],.func (.func 144) #[] #[],.func (.func 145) #[] #[],.func (.func 147) #[] #[],.func (.func 148) #[] #[],.func (.func 149) #[] #[],.func (.func 151) #[] #[],.func (.func 152) #[] #[]]
theorem fn_lit:(#[.nilFunc,.func (.func 22) #[] #[],.func (.func 141) #[] #[],.func (.func 142) #[] #[],.func (.func 143) #[] #[],.func (.func 144) #[] #[],.func (.func 145) #[] #[],.func (.func 147) #[] #[],.func (.func 148) #[] #[],.func (.func 149) #[] #[],.func (.func 151) #[] #[],.func (.func 152) #[] #[]]:Array Value)=fnA:=rfl
theorem fn_size:fnA.size=12:=rfl
theorem fn_store(w:World):(storeCells ⟨w.heap.size+1,0,none⟩ fnA.toList 0).run Tryz.prog ((w.alloc (.cells #[.int .i64 0,.int .i64 0] 48)).alloc (.cells #[.nilFunc,.nilFunc,.nilFunc,.nilFunc,.nilFunc,.nilFunc,.nilFunc,.nilFunc,.nilFunc,.nilFunc,.nilFunc,.nilFunc] 187))
  =.ok () ((w.alloc (.cells #[.int .i64 0,.int .i64 0] 48)).alloc (.cells fnA 187)):=by
 have:=run_storeCells_new (P:=Tryz.prog) (w.alloc (.cells #[.int .i64 0,.int .i64 0] 48)) 187 #[.nilFunc,.nilFunc,.nilFunc,.nilFunc,.nilFunc,.nilFunc,.nilFunc,.nilFunc,.nilFunc,.nilFunc,.nilFunc,.nilFunc] fnA (by kernel_rfl) (by decide) (by kernel_rfl)
 rw[World.size_alloc]at this
 exact this
theorem impl_alu1(a b:Int)(w:World):Calls Tryz.prog 112 #[.int .i64 1,.int .i64 a,.int .i64 b] w fun e w'=>e=.returned (.agg #[.int .i64 0,.int .i64 (addV a b)])∧Below w.heap.size w w':=by
 generalize hv:(addV a b:Int)=v
 have hcl:=fun w=>impl_add a b w
 rw[hv]at hcl
 clear hv
 have hs:=fn_store w
 have hq:=fn_size
 have hk:fnA[1]'(by rw[fn_size];omega)=.func (.func 22) #[] #[]:=rfl
 go_enter Tryz.func112,Tryz.ntmps112
 go_upto_region 3 with fail
 go_step
 go_step
 go_step
 rw[fn_lit]
 go_wp2_with (go_at_call 22;refine(hcl _).mono ?_;rintro e w1 ⟨rfl,rfl⟩)
 exact bodyPost_ret (v:=.agg #[.int .i64 0,.int .i64 v]) (by simp[results,Tryz.results112,go_sem]) rfl ⟨rfl,al (al (Below.refl _ _) _) _⟩
theorem impl_alu2(a b:Int)(w:World):Calls Tryz.prog 112 #[.int .i64 2,.int .i64 a,.int .i64 b] w fun e w'=>e=.returned (.agg #[.int .i64 0,.int .i64 ((a-b)%4294967296)])∧Below w.heap.size w w':=by
 generalize hv:((a-b)%4294967296:Int)=v
 have hcl:=fun w=>impl_sub a b w
 rw[hv]at hcl
 clear hv
 have hs:=fn_store w
 have hq:=fn_size
 have hk:fnA[2]'(by rw[fn_size];omega)=.func (.func 141) #[] #[]:=rfl
 go_enter Tryz.func112,Tryz.ntmps112
 go_upto_region 3 with fail
 go_step
 go_step
 go_step
 rw[fn_lit]
 go_wp2_with (go_at_call 141;refine(hcl _).mono ?_;rintro e w1 ⟨rfl,rfl⟩)
 exact bodyPost_ret (v:=.agg #[.int .i64 0,.int .i64 v]) (by simp[results,Tryz.results112,go_sem]) rfl ⟨rfl,al (al (Below.refl _ _) _) _⟩
theorem impl_alu3(a b:Int)(w:World):Calls Tryz.prog 112 #[.int .i64 3,.int .i64 a,.int .i64 b] w fun e w'=>e=.returned (.agg #[.int .i64 0,.int .i64 (mulV a b)])∧Below w.heap.size w w':=by
 generalize hv:(mulV a b:Int)=v
 have hcl:=fun w=>impl_mul a b w
 rw[hv]at hcl
 clear hv
 have hs:=fn_store w
 have hq:=fn_size
 have hk:fnA[3]'(by rw[fn_size];omega)=.func (.func 142) #[] #[]:=rfl
 go_enter Tryz.func112,Tryz.ntmps112
 go_upto_region 3 with fail
 go_step
 go_step
 go_step
 rw[fn_lit]
 go_wp2_with (go_at_call 142;refine(hcl _).mono ?_;rintro e w1 ⟨rfl,rfl⟩)
 exact bodyPost_ret (v:=.agg #[.int .i64 0,.int .i64 v]) (by simp[results,Tryz.results112,go_sem]) rfl ⟨rfl,al (al (Below.refl _ _) _) _⟩
theorem impl_alu4(a b:Int)(w:World):Calls Tryz.prog 112 #[.int .i64 4,.int .i64 a,.int .i64 b] w fun e w'=>e=.returned (.agg #[.int .i64 0,.int .i64 (divV a b)])∧Below w.heap.size w w':=by
 generalize hv:(divV a b:Int)=v
 have hcl:=fun w=>impl_div a b w
 rw[hv]at hcl
 clear hv
 have hs:=fn_store w
 have hq:=fn_size
 have hk:fnA[4]'(by rw[fn_size];omega)=.func (.func 143) #[] #[]:=rfl
 go_enter Tryz.func112,Tryz.ntmps112
 go_upto_region 3 with fail
 go_step
 go_step
 go_step
 rw[fn_lit]
 go_wp2_with (go_at_call 143;refine(hcl _).mono ?_;rintro e w1 ⟨rfl,rfl⟩)
 exact bodyPost_ret (v:=.agg #[.int .i64 0,.int .i64 v]) (by simp[results,Tryz.results112,go_sem]) rfl ⟨rfl,al (al (Below.refl _ _) _) _⟩
theorem impl_alu5(a b:Int)(w:World):Calls Tryz.prog 112 #[.int .i64 5,.int .i64 a,.int .i64 b] w fun e w'=>e=.returned (.agg #[.int .i64 0,.int .i64 (remV a b)])∧Below w.heap.size w w':=by
 generalize hv:(remV a b:Int)=v
 have hcl:=fun w=>impl_rem a b w
 rw[hv]at hcl
 clear hv
 have hs:=fn_store w
 have hq:=fn_size
 have hk:fnA[5]'(by rw[fn_size];omega)=.func (.func 144) #[] #[]:=rfl
 go_enter Tryz.func112,Tryz.ntmps112
 go_upto_region 3 with fail
 go_step
 go_step
 go_step
 rw[fn_lit]
 go_wp2_with (go_at_call 144;refine(hcl _).mono ?_;rintro e w1 ⟨rfl,rfl⟩)
 exact bodyPost_ret (v:=.agg #[.int .i64 0,.int .i64 v]) (by simp[results,Tryz.results112,go_sem]) rfl ⟨rfl,al (al (Below.refl _ _) _) _⟩
theorem impl_alu6(a b:Int)(w:World):Calls Tryz.prog 112 #[.int .i64 6,.int .i64 a,.int .i64 b] w fun e w'=>e=.returned (.agg #[.int .i64 0,.int .i64 (bitV 1 a b)])∧Below w.heap.size w w':=by
 generalize hv:(bitV 1 a b:Int)=v
 have hcl:=fun w=>impl_clos1 a b w
 rw[hv]at hcl
 clear hv
 have hs:=fn_store w
 have hq:=fn_size
 have hk:fnA[6]'(by rw[fn_size];omega)=.func (.func 145) #[] #[]:=rfl
 go_enter Tryz.func112,Tryz.ntmps112
 go_upto_region 3 with fail
 go_step
 go_step
 go_step
 rw[fn_lit]
 go_wp2_with (go_at_call 145;refine(hcl _).mono ?_;rintro e w1 ⟨rfl,hb⟩;obtain⟨hc,hz⟩:=bcell hb)
 have k0:=cell_keep hb (cell_push _ (cell_new (i:=0) rfl))
 have k1:=cell_keep hb (cell_push _ (cell_new (i:=1) rfl))
 clear hc hz
 exact bodyPost_ret (v:=.agg #[.int .i64 0,.int .i64 v]) (by simp[results,Tryz.results112,go_sem,k0,k1]) rfl ⟨rfl,((on (al (al (Below.refl _ _) _) _) hb).setCell (by simp) _).setCell (by simp) _⟩
theorem impl_alu7(a b:Int)(w:World):Calls Tryz.prog 112 #[.int .i64 7,.int .i64 a,.int .i64 b] w fun e w'=>e=.returned (.agg #[.int .i64 0,.int .i64 (bitV 2 a b)])∧Below w.heap.size w w':=by
 generalize hv:(bitV 2 a b:Int)=v
 have hcl:=fun w=>impl_clos2 a b w
 rw[hv]at hcl
 clear hv
 have hs:=fn_store w
 have hq:=fn_size
 have hk:fnA[7]'(by rw[fn_size];omega)=.func (.func 147) #[] #[]:=rfl
 go_enter Tryz.func112,Tryz.ntmps112
 go_upto_region 3 with fail
 go_step
 go_step
 go_step
 rw[fn_lit]
 go_wp2_with (go_at_call 147;refine(hcl _).mono ?_;rintro e w1 ⟨rfl,hb⟩;obtain⟨hc,hz⟩:=bcell hb)
 have k0:=cell_keep hb (cell_push _ (cell_new (i:=0) rfl))
 have k1:=cell_keep hb (cell_push _ (cell_new (i:=1) rfl))
 clear hc hz
 exact bodyPost_ret (v:=.agg #[.int .i64 0,.int .i64 v]) (by simp[results,Tryz.results112,go_sem,k0,k1]) rfl ⟨rfl,((on (al (al (Below.refl _ _) _) _) hb).setCell (by simp) _).setCell (by simp) _⟩
theorem impl_alu8(a b:Int)(w:World):Calls Tryz.prog 112 #[.int .i64 8,.int .i64 a,.int .i64 b] w fun e w'=>e=.returned (.agg #[.int .i64 0,.int .i64 (bitV 3 a b)])∧Below w.heap.size w w':=by
 generalize hv:(bitV 3 a b:Int)=v
 have hcl:=fun w=>impl_clos3 a b w
 rw[hv]at hcl
 clear hv
 have hs:=fn_store w
 have hq:=fn_size
 have hk:fnA[8]'(by rw[fn_size];omega)=.func (.func 148) #[] #[]:=rfl
 go_enter Tryz.func112,Tryz.ntmps112
 go_upto_region 3 with fail
 go_step
 go_step
 go_step
 rw[fn_lit]
 go_wp2_with (go_at_call 148;refine(hcl _).mono ?_;rintro e w1 ⟨rfl,hb⟩;obtain⟨hc,hz⟩:=bcell hb)
 have k0:=cell_keep hb (cell_push _ (cell_new (i:=0) rfl))
 have k1:=cell_keep hb (cell_push _ (cell_new (i:=1) rfl))
 clear hc hz
 exact bodyPost_ret (v:=.agg #[.int .i64 0,.int .i64 v]) (by simp[results,Tryz.results112,go_sem,k0,k1]) rfl ⟨rfl,((on (al (al (Below.refl _ _) _) _) hb).setCell (by simp) _).setCell (by simp) _⟩
theorem impl_alu9(a b:Int)(w:World):Calls Tryz.prog 112 #[.int .i64 9,.int .i64 a,.int .i64 b] w fun e w'=>e=.returned (.agg #[.int .i64 0,.int .i64 (shlV a b)])∧Below w.heap.size w w':=by
 generalize hv:(shlV a b:Int)=v
 have hcl:=fun w=>impl_clos4 a b w
 rw[hv]at hcl
 clear hv
 have hs:=fn_store w
 have hq:=fn_size
 have hk:fnA[9]'(by rw[fn_size];omega)=.func (.func 149) #[] #[]:=rfl
 go_enter Tryz.func112,Tryz.ntmps112
 go_upto_region 3 with fail
 go_step
 go_step
 go_step
 rw[fn_lit]
 go_wp2_with (go_at_call 149;refine(hcl _).mono ?_;rintro e w1 ⟨rfl,rfl⟩)
 exact bodyPost_ret (v:=.agg #[.int .i64 0,.int .i64 v]) (by simp[results,Tryz.results112,go_sem]) rfl ⟨rfl,al (al (Below.refl _ _) _) _⟩
theorem impl_alu10(a b:Int)(w:World):Calls Tryz.prog 112 #[.int .i64 10,.int .i64 a,.int .i64 b] w fun e w'=>e=.returned (.agg #[.int .i64 0,.int .i64 (shrV a b)])∧Below w.heap.size w w':=by
 generalize hv:(shrV a b:Int)=v
 have hcl:=fun w=>impl_clos5 a b w
 rw[hv]at hcl
 clear hv
 have hs:=fn_store w
 have hq:=fn_size
 have hk:fnA[10]'(by rw[fn_size];omega)=.func (.func 151) #[] #[]:=rfl
 go_enter Tryz.func112,Tryz.ntmps112
 go_upto_region 3 with fail
 go_step
 go_step
 go_step
 rw[fn_lit]
 go_wp2_with (go_at_call 151;refine(hcl _).mono ?_;rintro e w1 ⟨rfl,rfl⟩)
 exact bodyPost_ret (v:=.agg #[.int .i64 0,.int .i64 v]) (by simp[results,Tryz.results112,go_sem]) rfl ⟨rfl,al (al (Below.refl _ _) _) _⟩
theorem impl_alu11(a b:Int)(w:World):Calls Tryz.prog 112 #[.int .i64 11,.int .i64 a,.int .i64 b] w fun e w'=>e=.returned (.agg #[.int .i64 0,.int .i64 (if sgn a<sgn b then 1 else 0)])∧Below w.heap.size w w':=by
 generalize hv:(if sgn a<sgn b then 1 else 0:Int)=v
 have hcl:=fun w=>impl_less a b w
 rw[hv]at hcl
 clear hv
 have hs:=fn_store w
 have hq:=fn_size
 have hk:fnA[11]'(by rw[fn_size];omega)=.func (.func 152) #[] #[]:=rfl
 go_enter Tryz.func112,Tryz.ntmps112
 go_upto_region 3 with fail
 go_step
 go_step
 go_step
 rw[fn_lit]
 go_wp2_with (go_at_call 152;refine(hcl _).mono ?_;rintro e w1 ⟨rfl,rfl⟩)
 exact bodyPost_ret (v:=.agg #[.int .i64 0,.int .i64 v]) (by simp[results,Tryz.results112,go_sem]) rfl ⟨rfl,al (al (Below.refl _ _) _) _⟩
def aluC(op:Int):Int:=if 1≤op∧op≤11 then 0 else 3
theorem impl_alu(op a b:Int)(w:World):Calls Tryz.prog 112 #[.int .i64 op,.int .i64 a,.int .i64 b] w fun e w'=>e=.returned (.agg #[.int .i64 (aluC op),.int .i64 (if 1≤op∧op≤11 then aluV op a b else 0)])∧Below w.heap.size w w':=by
 by_cases h:1≤op∧op≤11
 ·rw[aluC,if_pos h,if_pos h]
  rcases(by omega:op=1∨op=2∨op=3∨op=4∨op=5∨op=6∨op=7∨op=8∨op=9∨op=10∨op=11)with rfl|rfl|rfl|rfl|rfl|rfl|rfl|rfl|rfl|rfl|rfl
  ·rw[aluV1];exact impl_alu1 a b w
  ·rw[aluV2];exact impl_alu2 a b w
  ·rw[aluV3];exact impl_alu3 a b w
  ·rw[aluV4];exact impl_alu4 a b w
  ·rw[aluV5];exact impl_alu5 a b w
  ·rw[aluV6];exact impl_alu6 a b w
  ·rw[aluV7];exact impl_alu7 a b w
  ·rw[aluV8];exact impl_alu8 a b w
  ·rw[aluV9];exact impl_alu9 a b w
  ·rw[aluV10];exact impl_alu10 a b w
  ·rw[aluV11];exact impl_alu11 a b w
 ·rw[aluC,if_neg h,if_neg h]
  have h:op<1∨11<op:=by omega
  rcases h with h|h
  ·go_enter Tryz.func112,Tryz.ntmps112
   go_wp2_with fail
   exact bodyPost_ret (v:=.agg #[.int .i64 3,.int .i64 0]) (by simp[results,Tryz.results112,go_sem]) rfl ⟨rfl,al (Below.refl _ _) _⟩
  ·have h1:¬op<1:=by omega
   go_enter Tryz.func112,Tryz.ntmps112
   go_wp2_with fail
   exact bodyPost_ret (v:=.agg #[.int .i64 3,.int .i64 0]) (by simp[results,Tryz.results112,go_sem]) rfl ⟨rfl,al (Below.refl _ _) _⟩
theorem spec_l2Alu1(a b:Int)(w:World):Calls Tryz.prog 108 #[.int .i64 1,.int .i64 a,.int .i64 b] w fun e w'=>e=.returned (.int .i64 (addV a b))∧Below w.heap.size w w':=by
 go_enter Tryz.func108,Tryz.ntmps108
 go_wp2_with (go_at_call 100;refine(spec_add _ _ _).mono ?_;rintro e w1 ⟨rfl,rfl⟩)
 go_ret
 exact⟨rfl,Below.refl _ _⟩
theorem spec_l2Alu2(a b:Int)(w:World):Calls Tryz.prog 108 #[.int .i64 2,.int .i64 a,.int .i64 b] w fun e w'=>e=.returned (.int .i64 ((a-b)%4294967296))∧Below w.heap.size w w':=by
 go_enter Tryz.func108,Tryz.ntmps108
 go_wp2_with fail
 go_ret
 exact⟨ret_i64 (by first|rfl|simp|exact sub_eq a b),Below.refl _ _⟩
theorem spec_l2Alu3(a b:Int)(w:World):Calls Tryz.prog 108 #[.int .i64 3,.int .i64 a,.int .i64 b] w fun e w'=>e=.returned (.int .i64 (mulV a b))∧Below w.heap.size w w':=by
 go_enter Tryz.func108,Tryz.ntmps108
 go_wp2_with (go_at_call 136;refine(spec_mul _ _ _).mono ?_;rintro e w1 ⟨rfl,rfl⟩)
 go_ret
 exact⟨rfl,Below.refl _ _⟩
theorem spec_l2Alu4(a b:Int)(w:World):Calls Tryz.prog 108 #[.int .i64 4,.int .i64 a,.int .i64 b] w fun e w'=>e=.returned (.int .i64 (divV a b))∧Below w.heap.size w w':=by
 go_enter Tryz.func108,Tryz.ntmps108
 go_wp2_with (go_at_call 137;refine(spec_div _ _ _).mono ?_;rintro e w1 ⟨rfl,rfl⟩)
 go_ret
 exact⟨rfl,Below.refl _ _⟩
theorem spec_l2Alu5(a b:Int)(w:World):Calls Tryz.prog 108 #[.int .i64 5,.int .i64 a,.int .i64 b] w fun e w'=>e=.returned (.int .i64 (remV a b))∧Below w.heap.size w w':=by
 go_enter Tryz.func108,Tryz.ntmps108
 go_wp2_with (go_at_call 138;refine(spec_rem _ _ _).mono ?_;rintro e w1 ⟨rfl,rfl⟩)
 go_ret
 exact⟨rfl,Below.refl _ _⟩
theorem spec_l2Alu6(a b:Int)(w:World):Calls Tryz.prog 108 #[.int .i64 6,.int .i64 a,.int .i64 b] w fun e w'=>e=.returned (.int .i64 (bitV 1 a b))∧Below w.heap.size w w':=by
 have hf:=field_value
 go_enter Tryz.func108,Tryz.ntmps108
 go_wp2_with (go_at_call 139;refine(spec_bit _ _ _ _).mono ?_;rintro e w1 ⟨rfl,hb⟩)
 go_ret
 exact⟨rfl,hb⟩
theorem spec_l2Alu7(a b:Int)(w:World):Calls Tryz.prog 108 #[.int .i64 7,.int .i64 a,.int .i64 b] w fun e w'=>e=.returned (.int .i64 (bitV 2 a b))∧Below w.heap.size w w':=by
 have hf:=field_value
 go_enter Tryz.func108,Tryz.ntmps108
 go_wp2_with (go_at_call 139;refine(spec_bit _ _ _ _).mono ?_;rintro e w1 ⟨rfl,hb⟩)
 go_ret
 exact⟨rfl,hb⟩
theorem spec_l2Alu8(a b:Int)(w:World):Calls Tryz.prog 108 #[.int .i64 8,.int .i64 a,.int .i64 b] w fun e w'=>e=.returned (.int .i64 (bitV 3 a b))∧Below w.heap.size w w':=by
 have hf:=field_value
 go_enter Tryz.func108,Tryz.ntmps108
 go_wp2_with (go_at_call 139;refine(spec_bit _ _ _ _).mono ?_;rintro e w1 ⟨rfl,hb⟩)
 go_ret
 exact⟨rfl,hb⟩
theorem spec_l2Alu9(a b:Int)(w:World):Calls Tryz.prog 108 #[.int .i64 9,.int .i64 a,.int .i64 b] w fun e w'=>e=.returned (.int .i64 (shlV a b))∧Below w.heap.size w w':=by
 go_enter Tryz.func108,Tryz.ntmps108
 go_wp2_with (go_at_call 140;refine(spec_shl _ _ _).mono ?_;rintro e w1 ⟨rfl,rfl⟩)
 go_ret
 exact⟨rfl,Below.refl _ _⟩
theorem spec_l2Alu10(a b:Int)(w:World):Calls Tryz.prog 108 #[.int .i64 10,.int .i64 a,.int .i64 b] w fun e w'=>e=.returned (.int .i64 (shrV a b))∧Below w.heap.size w w':=by
 go_enter Tryz.func108,Tryz.ntmps108
 go_wp2_with (go_at_call 140;refine(spec_shr _ _ _).mono ?_;rintro e w1 ⟨rfl,rfl⟩)
 go_ret
 exact⟨rfl,Below.refl _ _⟩
theorem spec_l2Alu11(a b:Int)(w:World):Calls Tryz.prog 108 #[.int .i64 11,.int .i64 a,.int .i64 b] w fun e w'=>e=.returned (.int .i64 (if sgn a<sgn b then 1 else 0))∧Below w.heap.size w w':=by
 by_cases h:sgn a<sgn b
 all_goals
  first|rw[if_pos h]|rw[if_neg h]
  go_enter Tryz.func108,Tryz.ntmps108
  go_wp2_with (go_at_call 134;refine(spec_signed _ _).mono ?_;rintro e w1 ⟨rfl,rfl⟩)
  go_ret
  exact⟨rfl,Below.refl _ _⟩
theorem spec_l2Alu(op a b:Int)(w:World)(h:1≤op∧op≤11):Calls Tryz.prog 108 #[.int .i64 op,.int .i64 a,.int .i64 b] w fun e w'=>e=.returned (.int .i64 (aluV op a b))∧Below w.heap.size w w':=by
 rcases(by omega:op=1∨op=2∨op=3∨op=4∨op=5∨op=6∨op=7∨op=8∨op=9∨op=10∨op=11)with rfl|rfl|rfl|rfl|rfl|rfl|rfl|rfl|rfl|rfl|rfl
 ·rw[aluV1];exact spec_l2Alu1 a b w
 ·rw[aluV2];exact spec_l2Alu2 a b w
 ·rw[aluV3];exact spec_l2Alu3 a b w
 ·rw[aluV4];exact spec_l2Alu4 a b w
 ·rw[aluV5];exact spec_l2Alu5 a b w
 ·rw[aluV6];exact spec_l2Alu6 a b w
 ·rw[aluV7];exact spec_l2Alu7 a b w
 ·rw[aluV8];exact spec_l2Alu8 a b w
 ·rw[aluV9];exact spec_l2Alu9 a b w
 ·rw[aluV10];exact spec_l2Alu10 a b w
 ·rw[aluV11];exact spec_l2Alu11 a b w
set_option linter.unusedVariables false
variable{w:World}{base g p cap:Nat}{zs:List Int}
theorem Pags.store(h:Pags w base (.slice (some ⟨g,0,none⟩) p cap) p zs)(j:Nat)(x:Int):
  Pags (w.setCell ⟨g,j,none⟩ (.int .i64 x)) base (.slice (some ⟨g,0,none⟩) p cap) p (zs.set j x):=by
 obtain⟨h1,h2⟩:=World.ownsRow.stored h j (.int .i64 x)
 unfold Pags
 rw[List.map_set]
 exact h1
theorem Pags.free(h:Pags w base (.slice (some ⟨g,0,none⟩) p cap) p zs)(j:Nat):w.frozen? ⟨g,j,none⟩=false:=World.ownsRow.frozenAt h j
theorem Pags.lt(h:Pags w base (.slice (some ⟨g,0,none⟩) p cap) p zs):base≤g∧g<w.heap.size:=World.ownsRow.lt h g rfl
theorem Nums.empty(w:World)(base:Nat)(hb:base≤w.heap.size):Nums (w.alloc (.cells #[] 2)) base (.slice (some ⟨w.heap.size,0,none⟩) 0 0) []:=
 World.ownsRow_lit w #[] 0 hb (by decide) rfl
theorem i_fault15(a0:Option Addr)(k0:Nat)(a1:Option Addr)(m1 k1:Nat)(a2:Option Addr)(m2 k2:Nat)(a3:Option Addr)(m3 k3:Nat)(H:Ht)(w:World):
  Calls Tryz.prog 10 #[.agg #[.slice a0 15 k0,.int .i64 H.pc,.slice a1 m1 k1,.bool H.halted,.bool H.waiting,.bool H.rung,.int .i64 H.done,.slice a2 m2 k2,.slice a3 m3 k3]] w fun e w'=>e=.returned (.int .i64 1)∧Below w.heap.size w w':=by
 have B1:Hid (Below w.heap.size w (w.alloc (.cells #[.slice a0 15 k0,.int .i64 H.pc,.slice a1 m1 k1,.bool H.halted,.bool H.waiting,.bool H.rung,.int .i64 H.done,.slice a2 m2 k2,.slice a3 m3 k3] 26))):=al (Below.refl _ _) _
 go_enter Tryz.func10,Tryz.ntmps10
 go_wp2_with fail
 go_ret
 exact⟨rfl,by first|exact B1.out|exact al B1.out _⟩
theorem s_fault15(q:Nat)(a0:Option Addr)(k0:Nat)(a1:Option Addr)(m1 k1:Nat)(a2:Option Addr)(m2 k2:Nat)(a3:Option Addr)(m3 k3:Nat)(H:Ht)(w:World)(hv:Vb w q #[.slice a0 15 k0,.int .i64 H.pc,.slice a1 m1 k1,.bool H.halted,.bool H.waiting,.bool H.rung,.int .i64 H.done,.slice a2 m2 k2,.slice a3 m3 k3] 26):
  Calls Tryz.prog 54 #[.pointer (some ⟨q,0,none⟩)] w fun e w'=>e=.returned (.int .i64 1)∧Below w.heap.size w w':=by
 have v0:=hv.cell 0 rfl
 clear hv
 go_enter Tryz.func54,Tryz.ntmps54
 go_wp2_with fail
 go_ret
 exact⟨rfl,Below.refl _ _⟩
theorem cell_g{w w':World}{row:Option Nat}{p:Addr}{v:Value}(g:w.grownBy w' row)(h:w.cell? p=some v)(hne:some p.block≠row):w'.cell? p=some v:=cell_grown g h hne
theorem Nums.turn{w w':World}{base b:Nat}{v:Value}{zs:List Int}(h:Nums w base v zs)(t:Turn b w w')(hb:b<base):Nums w' base v zs:=by
 refine h.kept (row:=some b) ⟨t.os,t.tape,t.output,t.size,fun k hk hn=>t.block k hk (fun e=>hn (by rw[e]))⟩ (.inr fun e=>?_)
 have:=(h.lt b e).1
 omega
theorem Turn.grownM{b:Nat}{w0 w w':World}{row:Option Nat}(t:Turn b w0 w)(g:w.grownBy w' row)(hr:∀k,row=some k→w0.heap.size≤k):Turn b w0 w':=
 ⟨g.os.trans t.os,g.tape.trans t.tape,g.output.trans t.output,Nat.le_trans t.size g.size,fun k hk hb=>(g.block k (Nat.lt_of_lt_of_le hk t.size) (fun e=>by have:=hr k e.symm;omega)).trans (t.block k hk hb)⟩
variable{w w':World}{b k:Nat}{a:Option Addr}{len cap:Nat}{zs:List Int}{row:Option Nat}
theorem Src.grownM(s:Src w b k a len cap zs)(g:w.grownBy w' row)(hr:∀k,row=some k→b<k):Src w' b k a len cap zs:=by
 have h:=s.here
 have hne:∀p:Nat,p≤b→some p≠row:=fun p hp e=>by have:=hr p e.symm;omega
 refine⟨cell_g g s.code (hne b (Nat.le_refl _)),cell_g g s.count (hne b (Nat.le_refl _)),?_,?_,s.away,Nat.lt_of_lt_of_le h g.size⟩
 ·rw[←s.free]
  exact World.frozen?_of_block (w:=w) (g.block b h (hne b (Nat.le_refl _)))
 ·rcases s.row with h|⟨x,rfl,h1,h2,h3,h4,h5⟩
  ·exact .inl h
  ·refine .inr ⟨x,rfl,h1,h2,h3,fun i hi=>?_,h5⟩
   have hx:=s.away x rfl (by omega)
   exact cell_g g (h4 i hi) (by rw[src_block];exact hne _ (by omega))
theorem field_mem(x y:Value)(w:World):(Instr.field 97 (.agg #[x,y]) 1).run Tryz.prog w=.ok y w:=by kernel_rfl
def DrawnM(w:World)(base:Nat)(v:Value):Prop:=(∃zs,Nums w base v zs∧zs.length≤200)∨∃a n cap,v=.slice a n cap∧n≤200∧formB n=false
variable{w:World}{b k:Nat}{a:Option Addr}{len cap:Nat}{zs:List Int}
theorem mem_any(s:Src w b k a len cap zs)(hk:k≤50000):
  Calls Tryz.prog 53 #[.pointer (some ⟨b,0,none⟩)] w fun e w'=>∃v k',e=.returned v∧DrawnM w' w.heap.size v∧k'≤k+1000∧Turn b w w'∧Src w' b k' a len cap zs:=by
 have hfield:=field_mem
 have HB:Hid (b<w.heap.size):=s.here
 go_enter Tryz.func53,Tryz.ntmps53
 go_wp2_with fail
 refine(next_any s (by omega) _).mono ?_
 rintro e w1⟨v1,rfl,h1, -,t1,s1⟩
 obtain⟨l1,u1⟩:=h1 (by omega)
 clear h1
 obtain⟨p,hp⟩:∃p:Nat,1+v1=p:=⟨(1+v1).toNat,by omega⟩
 have hp1:1≤(p:Int)∧(p:Int)≤5:=by omega
 have fn:=fun w=>spec_new (p:Int) w
 rw[show newC (p:Int)=0 by simp only[newC];rw[if_pos (by omega)],show newZ (p:Int)=List.replicate (p*8) 0 by simp only[newZ];rw[if_pos (by omega),Int.toNat_natCast]]at fn
 have HP:Hid (1≤p∧p≤5):=⟨by omega,by omega⟩
 have T1:=hid t1
 have S1:Hid (Src w1 b _ a len cap zs):=s1
 clear t1 s1 hp1
 go_wp2_with fail
 refine(fn _).mono ?_
 rintro e w2⟨v,rfl,n2,b2⟩
 have N2:Hid (Nums w2 w.heap.size v _):=n2.mono T1.out.size
 have T2:Hid (Turn b w w2):=T1.out.trans (Turn.of_below b2)
 have S2:Hid (Src w2 b (k+1) a len cap zs):=S1.out.grownM (row:=none) (below_grown b2 none) (by simp)
 clear n2 b2 fn
 obtain⟨av,cv,rfl,_,_,hg⟩:=N2.out.shape
 obtain⟨g,rfl⟩:=hg (by have:=HP.out;simp;omega)
 rw[List.length_replicate]at N2 ⊢
 obtain⟨n,hn⟩:∃n,p*8=n:=⟨_,rfl⟩
 rw[hn]at N2 ⊢
 have HN:=hid hn
 have hn40:(n:Int)≤40:=by have:=HP.out;omega
 clear hn hg u1 l1 hp
 go_wp2_with fail
 go_loopw [4] (fun c wr=>∃(j k':Nat) (ms:List Int),j≤n∧c=.int .i64 j∧ms.length=n∧k'≤k+1+6*j∧Nums wr w.heap.size (.slice (some ⟨g,0,none⟩) n cv) ms∧Turn b w wr∧Src wr b k' a len cap zs) (fun c _=>n-(intOf c).toNat)
 case atStart=>exact⟨0,k+1,_,Nat.zero_le _,rfl,by simp,by omega,N2.out,T2.out,S2.out⟩
 case round=>
  obtain⟨j,k',ms,hj,rfl,hms,hk',hN,hT,hS⟩:=hrel
  have NJ:Hid (Nums wr w.heap.size _ ms):=hN
  have TJ:=hid hT
  have SJ:=hid hS
  have HMS:=hid hms
  have HK':Hid (k'≤k+1+6*j∧k≤50000∧j≤n∧n≤40):=⟨hk',hk,hj,by omega⟩
  clear hN hT hS hms hk' N2 T2 S2
  by_cases hlt:j<n
  ·have hJ:(j:Int)<(n:Int):=by omega
   have HLT:=hid hlt
   clear hlt
   go_wp2_with fail
   refine(chance_any SJ.out (by have:=HK'.out;omega) _).mono ?_
   rintro e w3⟨c3,rfl,t3,s3⟩
   have N3:Hid (Nums w3 w.heap.size _ ms):=NJ.out.turn t3 HB.out
   have T3:Hid (Turn b w w3):=TJ.out.trans t3
   have S3:Hid (Src w3 b _ a len cap zs):=s3
   clear t3 s3
   cases c3
   ·go_wp2_with fail
    go_roundw
    case rel=>exact⟨j+1,k'+1,ms,by have:=HLT.out;omega,by go_num,HMS.out,by have:=HK'.out;omega,N3.out,T3.out,S3.out⟩
    case measure=>have:=HLT.out;simp[intOf];omega
   ·go_wp2_with fail
    refine(word_any S3.out (by have:=HK'.out;omega)).mono ?_
    rintro e w4⟨v4,rfl,h4,t4,s4⟩
    have N4:Hid (Nums w4 w.heap.size _ ms):=N3.out.turn t4 HB.out
    have T4:Hid (Turn b w w4):=T3.out.trans t4
    have S4:Hid (Src w4 b _ a len cap zs):=s4
    have c4:=N4.out.cell HMS.out.symm j HLT.out
    have f4:=N4.out.free HMS.out.symm j
    clear t4 s4
    go_wp2_with fail
    go_roundw
    case rel=>
     obtain⟨m1,m2⟩:=N4.out.store j v4
     refine⟨j+1,k'+1+5,ms.set j v4,by have:=HLT.out;omega,by go_num,by rw[List.length_set];exact HMS.out,by have:=HK'.out;omega,m1,?_,?_⟩
     ·exact T4.out.grownM m2 (fun q hq=>by have:=(N4.out.lt q hq).1;omega)
     ·exact S4.out.grownM m2 (fun q hq=>by have:=(N4.out.lt q hq).1;have:=HB.out;omega)
    case measure=>have:=HLT.out;simp[intOf];omega
  ·have hJ:¬(j:Int)<(n:Int):=by omega
   clear hlt
   go_wp2_with fail
   refine(next_any SJ.out (by have:=HK'.out;omega) _).mono ?_
   rintro e w3⟨v3,rfl, -, -,t3,s3⟩
   have N3:Hid (Nums w3 w.heap.size _ ms):=NJ.out.turn t3 HB.out
   have T3:Hid (Turn b w w3):=TJ.out.trans t3
   have S3:Hid (Src w3 b _ a len cap zs):=s3
   clear t3 s3 NJ TJ SJ
   by_cases e0:v3=0
   ·subst e0
    have hn1:(1:Int)≤(n:Int):=by have:=HN.out;have:=HP.out;omega
    have hcn:(n:Int)≤(cv:Int):=by have:=N3.out.lens.1;omega
    have hc1:¬cv=1:=by have:=N3.out.lens.1;have:=HN.out;have:=HP.out;omega
    go_wp2_with fail
    go_ret
    exact⟨_,_,rfl,.inr ⟨_,_,_,rfl,by have:=HK'.out;omega,by have:=HN.out;have:=HP.out;simp only[formB,decide_eq_false_iff_not];omega⟩,by have:=HK'.out;omega,T3.out,S3.out⟩
   by_cases e1:v3=1
   ·subst e1
    go_wp2_with fail
    refine(next_any S3.out (by have:=HK'.out;omega) _).mono ?_
    rintro e w4⟨v4,rfl,h4, -,t4,s4⟩
    have N4:Hid (Nums w4 w.heap.size _ ms):=N3.out.turn t4 HB.out
    have T4:Hid (Turn b w w4):=T3.out.trans t4
    have S4:Hid (Src w4 b _ a len cap zs):=s4
    obtain⟨l4,u4⟩:=h4 (by have:=HN.out;have:=HP.out;omega)
    clear t4 s4 h4
    obtain⟨q,rfl⟩:∃q:Nat,v4=q:=⟨v4.toNat,by omega⟩
    go_wp2_with fail
    have hbb:=S4.out.here
    refine(pick_any (S4.out.alloc _) (by have:=HK'.out;omega) isWide _ 2 (by omega) (by omega) (by simp) (by omega) ?_).mono ?_
    ·intro i hi
     have:i=0∨i=1:=by omega
     rcases this with rfl|rfl
     all_goals exact⟨_,cell_new rfl,by unfold isWide;omega⟩
    rintro e w5⟨v5,rfl, -,t5,s5⟩
    have N5:Hid (Nums w5 w.heap.size _ ms):=(N4.out.keep (al (Below.refl _ _) _)).turn t5 HB.out
    have T5:Hid (Turn b w w5):=(T4.out.trans (Turn.alloc b w4 _)).trans t5
    have S5:Hid (Src w5 b _ a len cap zs):=s5
    have HQ:Hid (q<n):=by show _<_;omega
    have hqn:(q:Int)<(n:Int):=by omega
    have c5:=N5.out.cell HMS.out.symm q HQ.out
    have f5:=N5.out.free HMS.out.symm q
    clear t5 s5
    go_wp2_with fail
    go_ret
    obtain⟨m1,m2⟩:=N5.out.store q v5
    refine⟨_,_,rfl,.inl ⟨_,m1,by rw[List.length_set];have:=HMS.out;have:=HK'.out;omega⟩,?_,T5.out.grownM m2 (fun r hr=>by have:=(N5.out.lt r hr).1;omega),S5.out.grownM m2 (fun r hr=>by have:=(N5.out.lt r hr).1;have:=HB.out;omega)⟩
    have:=HK'.out
    omega
   by_cases e2:v3=2
   ·subst e2
    obtain⟨ii,hi,hz0,hz1,hz2⟩:=info_parts info_i64
    go_wp2_with (at_make;refine wpList_make_full _ rfl _ _ 24 rfl w.heap.size 2 ii _ 1 Tryz.underlying24 hi hz0 hz1 _ _ _ _ 200 rfl rfl rfl rfl (by rw[hz2];omega) (by unfold maxLen;omega) T3.out.size ?_;intro w4 hown hgrow)
    have N4:Hid (Nums w4 w.heap.size _ (List.replicate 200 0)):=Nums.made hown (by rw[Nat.mul_one,show(Value.int .i64 0).cells=#[.int .i64 0]from rfl,toList_madeCells_one,List.map_replicate])
    have T4:Hid (Turn b w w4):=T3.out.grownM hgrow (by simp)
    have S4:Hid (Src w4 b _ a len cap zs):=S3.out.grownM hgrow (by simp)
    clear hown hgrow
    go_wp2_with fail
    go_ret
    exact⟨_,_,rfl,.inl ⟨_,N4.out,by rw[List.length_replicate];exact Nat.le_refl _⟩,by have:=HK'.out;omega,T4.out,S4.out⟩
   ·have g0:(v3==0)=false:=beq_eq_false_iff_ne.2 e0
    have g1:(v3==1)=false:=beq_eq_false_iff_ne.2 e1
    have g2:(v3==2)=false:=beq_eq_false_iff_ne.2 e2
    clear e0 e1 e2
    go_wp2_with fail
    go_ret
    exact⟨_,_,rfl,.inl ⟨_,N3.out,by have:=HMS.out;have:=HK'.out;omega⟩,by have:=HK'.out;omega,T3.out,S3.out⟩
theorem Turn.grown{b:Nat}{w w':World}(t:Turn b w w'):w.grownBy w' (some b):=⟨t.os,t.tape,t.output,t.size,fun k hk hn=>t.block k hk (fun e=>hn (by rw[e]))⟩
theorem Prs.turn{e:TypeId}{w w':World}{base b:Nat}{v:Value}{rs:List (Int×Int)}(h:Prs e w base v rs)(t:Turn b w w')(hb:b<base):Prs e w' base v rs:=
 h.kept t.grown (.inr fun e=>by have:=(h.lt b e).1;omega)
theorem Prs.empty{w:World}(base g:Nat)(h:w.heap[g]? =some (.cells #[] 36 (0,0)))(hb:base≤g):Prs 36 w base (.slice (some ⟨g,0,none⟩) 0 0) []:=
 ⟨rfl,.inr ⟨g,0,#[],rfl,hb,h,Nat.le_refl _,by decide,rfl,rfl⟩⟩
theorem Turn.of_grown{b base:Nat}{a w w':World}{v:Value}{rs:List (Int×Int)}{e:TypeId}(t:Turn b a w)(h:Prs e w base v rs)(hb:a.heap.size≤base)(g:w.grownBy w' v.ownBlock):Turn b a w':=
 ⟨g.os.trans t.os,g.tape.trans t.tape,g.output.trans t.output,Nat.le_trans t.size g.size,fun k hk hn=>by
  rw[g.block k (Nat.lt_of_lt_of_le hk t.size) (fun e=>by have:=(h.lt k e.symm).1;omega)]
  exact t.block k hk hn⟩
variable{w w':World}{b k:Nat}{a:Option Addr}{len cap:Nat}{zs:List Int}{row:Option Nat}
theorem Src.gr(s:Src w b k a len cap zs)(g:w.grownBy w' row)(hn:∀x,x≤b→some x≠row):Src w' b k a len cap zs:=by
 have hh:=s.here
 refine⟨cell_grown g s.code (hn b (Nat.le_refl _)),cell_grown g s.count (hn b (Nat.le_refl _)),?_,?_,s.away,Nat.lt_of_lt_of_le hh g.size⟩
 ·rw[World.frozen?_of_block (w:=w) (g.block b hh (hn b (Nat.le_refl _)))];exact s.free
 ·rcases s.row with h0|⟨x,rfl,h1,h2,h3,h4,h5⟩
  ·exact .inl h0
  ·refine .inr ⟨x,rfl,h1,h2,h3,fun i hi=>cell_grown g (h4 i hi) ?_,h5⟩
   have hx:=s.away x rfl (by omega)
   rw[src_block]
   exact hn _ (by omega)
theorem Src.grown{w w':World}{b k base:Nat}{a:Option Addr}{len cap:Nat}{zs:List Int}{v:Value}{rs:List (Int×Int)}{e:TypeId}(s:Src w b k a len cap zs)(h:Prs e w base v rs)(hb:b<base)(g:w.grownBy w' v.ownBlock):Src w' b k a len cap zs:=
 s.gr g fun x hx e=>by have:=(h.lt x e.symm).1;omega
variable{w:World}{b k:Nat}{a:Option Addr}{len cap:Nat}{zs:List Int}
theorem Src.put(s:Src w b k a len cap zs)(p:Addr)(u:Value)(hp:b<p.block):Src (w.setCell p u) b k a len cap zs:=
 s.gr (grown_set w p u) fun x hx e=>by have:=Option.some.inj e;omega
theorem Turn.put{b:Nat}{a w:World}(t:Turn b a w)(p:Addr)(u:Value)(hp:a.heap.size≤p.block):Turn b a (w.setCell p u):=
 ⟨t.os,t.tape,t.output,by have:=t.size;simpa [World.setCell]using this,fun k hk hn=>by rw[heap_setCell_other w p k u (by omega)];exact t.block k hk hn⟩
theorem cell_at{w:World}{cs:Array Value}{t:TypeId}{i n:Nat}{v:Value}(hn:w.heap.size=n)(h:cs[i]? =some v):(w.alloc (.cells cs t)).cell? ⟨n,i,none⟩=some v:=by
 subst hn
 exact cell_new h
theorem pages_any(s:Src w b k a len cap zs)(hk:k≤90000)(top:Int):
  Calls Tryz.prog 92 #[.pointer (some ⟨b,0,none⟩),.int .i64 top] w fun e w'=>∃(v:Value) (rs:List (Int×Int)),e=.returned v∧rs.length=8∧Prs 36 w' w.heap.size v rs∧Turn b w w'∧Src w' b (k+24) a len cap zs:=by
 have hb:=s.here
 have HS:=hid s
 have HK:=hid hk
 clear s hk
 go_enter Tryz.func92,Tryz.ntmps92
 go_wp2_with fail
 go_loopw [5,6,7] (fun y c _ wr=>∃(j:Nat) (rs:List (Int×Int)),j≤8∧c=.int .i64 j∧rs.length=j∧Prs 36 wr w.heap.size y rs∧Turn b w wr∧Src wr b (k+3*j) a len cap zs) (fun _ c _ _=>8-(intOf c).toNat)
 case atStart=>exact⟨0,[],Nat.zero_le _,rfl,rfl,Prs.empty _ _ (heap_alloc_new _ _) (Nat.le_refl _),Turn.alloc _ _ _,HS.out.alloc _⟩
 case round=>
  obtain⟨j,rs,hj,rfl,hl,hP,hT,hS⟩:=hrel
  have PB:Hid (Prs 36 wr w.heap.size _ rs):=hP
  have TB:=hid hT
  have SB:=hid hS
  have LR:=hid hl
  obtain⟨ya,yc,rfl,_,_,_⟩:=hP.shape
  generalize hun:rs.length=un at*
  clear hP hT hS
  by_cases hlt:j<8
  ·have hI:(j:Int)<8:=by omega
   have HL:=hid hlt
   clear hlt hl
   go_wp2_with fail
   refine(next_any SB.out (by have:=HK.out;omega) _).mono ?_
   rintro e w2⟨v2,rfl, -, -,t2,s2⟩
   go_wp2_with fail
   have h2:=s2.here
   refine(pick_any (s2.alloc _) (by have:=HK.out;omega) (fun _=>True) _ 6 (by omega) (by omega) (by simp) (by omega) ?_).mono ?_
   ·intro i hi
    have:i=0∨i=1∨i=2∨i=3∨i=4∨i=5:=by omega
    rcases this with rfl|rfl|rfl|rfl|rfl|rfl
    all_goals exact⟨_,cell_new rfl,trivial⟩
   rintro e w3⟨v3,rfl, -,t3,s3⟩
   have T3:Hid (Turn b wr w3):=t2.trans ((Turn.alloc _ w2 _).trans t3)
   have S3:=hid s3
   have h3:=s3.here
   clear t2 s2 t3 s3
   go_wp2_with fail
   refine(chance_any (S3.out.alloc _) (by have:=HK.out;omega) _).mono ?_
   rintro e w4⟨v4,rfl,t4,s4⟩
   have q0:w4.cell? ⟨w3.heap.size,0,none⟩=some (.int .i64 v2):=by rw[t4.cell (p:=⟨w3.heap.size,0,none⟩) (by simp) (by show w3.heap.size≠b;omega)];exact cell_new rfl
   have q1:w4.cell? ⟨w3.heap.size,1,none⟩=some (.int .i64 v3):=by rw[t4.cell (p:=⟨w3.heap.size,1,none⟩) (by simp) (by show w3.heap.size≠b;omega)];exact cell_new rfl
   have z0:w4.frozen? ⟨w3.heap.size,0,none⟩=false:=by rw[t4.frozen (p:=⟨w3.heap.size,0,none⟩) (by simp) (by show w3.heap.size≠b;omega)];simp
   have z1:w4.frozen? ⟨w3.heap.size,1,none⟩=false:=by rw[t4.frozen (p:=⟨w3.heap.size,1,none⟩) (by simp) (by show w3.heap.size≠b;omega)];simp
   have T4:Hid (Turn b wr w4):=T3.out.trans ((Turn.alloc _ w3 _).trans t4)
   have S4:Hid (Src w4 b (k+3*(j+1)) a len cap zs):=by
    show Src _ _ _ _ _ _ _
    have:k+3*(j+1)=k+3*j+1+1+1:=by omega
    rw[this]
    exact s4
   have s34:w3.heap.size<w4.heap.size:=block_of_cell q0
   have sW:w.heap.size≤w3.heap.size:=Nat.le_trans TB.out.size T3.out.size
   have SW:Hid (w.heap.size≤w3.heap.size∧w3.heap.size<w4.heap.size):=⟨sW,s34⟩
   have SWR:Hid (wr.heap.size≤w3.heap.size):=T3.out.size
   have P4:=hid (PB.out.turn T4.out hb)
   have TT4:Hid (Turn b w w4):=TB.out.trans T4.out
   clear t4 s4 S3 T3 T4
   cases v4
   ·go_wp2_with (at_builtin;refine wp_pair 27 36 Tryz.underlying27 info_page _ rfl _ _ rfl w.heap.size _ _ rfl (P4.out.keep (al (Below.refl _ _) _)) _ v2 v3 rfl (cell_new rfl) (cell_new rfl) (by rw[hun];have:=LR.out;have:=HL.out;omega) (by have:=SW.out;simp;omega) ?_;intro v' w' hP' hG')
    have PP:Hid (Prs 36 w' w.heap.size v' (rs++ [(v2,v3)])):=hP'
    have TP:Hid (Turn b w w'):=(TT4.out.trans (Turn.alloc _ _ _)).of_grown (P4.out.keep (al (Below.refl _ _) _)) (Nat.le_refl _) hG'
    have SP:Hid (Src w' b (k+3*(j+1)) a len cap zs):=(S4.out.alloc _).grown (P4.out.keep (al (Below.refl _ _) _)) hb hG'
    clear hP' hG'
    go_wp2_with fail
    go_roundw
    case rel=>exact⟨j+1,_,by have:=HL.out;omega,by go_num,by rw[List.length_append,hun];simp;exact LR.out,PP.out,TP.out,SP.out⟩
    case measure=>have:=HL.out;simp[intOf];omega
   ·go_wp2_with fail
    refine(spec_none _).mono ?_
    rintro e w5⟨rfl,b5⟩
    have q0:=cell_keep b5 q0
    have q1:=cell_keep b5 q1
    have z0:w5.frozen? ⟨w3.heap.size,0,none⟩=false:=by rw[b5.frozen (p:=⟨w3.heap.size,0,none⟩) s34];exact z0
    have z1:w5.frozen? ⟨w3.heap.size,1,none⟩=false:=by rw[b5.frozen (p:=⟨w3.heap.size,1,none⟩) s34];exact z1
    have P5:=hid (P4.out.keep b5)
    have hnp:Hid ((Value.slice ya un yc).ownBlock≠some w3.heap.size):=fun e=>by
     have:=(PB.out.lt _ e).2
     have:=SWR.out
     omega
    have PQ:Hid (Prs 36 ((w5.setCell ⟨w3.heap.size,0,none⟩ (.int .i64 (-1))).setCell ⟨w3.heap.size,1,none⟩ (.int .i64 0)) w.heap.size (.slice ya un yc) rs):=(P5.out.put _ _ hnp.out).put _ _ hnp.out
    have TQ:Hid (Turn b w ((w5.setCell ⟨w3.heap.size,0,none⟩ (.int .i64 (-1))).setCell ⟨w3.heap.size,1,none⟩ (.int .i64 0))):=((TT4.out.trans (Turn.of_below b5)).put _ _ sW).put _ _ sW
    have SQ:Hid (Src ((w5.setCell ⟨w3.heap.size,0,none⟩ (.int .i64 (-1))).setCell ⟨w3.heap.size,1,none⟩ (.int .i64 0)) b (k+3*(j+1)) a len cap zs):=((S4.out.turn (Turn.of_below (b:=w4.heap.size) b5) (Nat.le_refl _)).put _ _ h3).put _ _ h3
    have s5:Hid (w3.heap.size<w5.heap.size):=block_of_cell q0
    clear b5
    go_wp2_with (at_builtin;refine wp_pair 27 36 Tryz.underlying27 info_page _ rfl _ _ rfl w.heap.size _ _ rfl (PQ.out.keep (al (Below.refl _ _) _)) _ (-1) 0 rfl (cell_at (by simp) rfl) (cell_at (by simp) rfl) (by rw[hun];have:=LR.out;have:=HL.out;omega) (by have:=SW.out;have:=s5.out;simp;omega) ?_;intro v' w' hP' hG')
    have PP:Hid (Prs 36 w' w.heap.size v' (rs++ [(-1,0)])):=hP'
    have TP:Hid (Turn b w w'):=(TQ.out.trans (Turn.alloc _ _ _)).of_grown (PQ.out.keep (al (Below.refl _ _) _)) (Nat.le_refl _) hG'
    have SP:Hid (Src w' b (k+3*(j+1)) a len cap zs):=(SQ.out.alloc _).grown (PQ.out.keep (al (Below.refl _ _) _)) hb hG'
    clear hP' hG'
    go_wp2_with fail
    go_roundw
    case rel=>exact⟨j+1,_,by have:=HL.out;omega,by go_num,by rw[List.length_append,hun];simp;exact LR.out,PP.out,TP.out,SP.out⟩
    case measure=>have:=HL.out;simp[intOf];omega
  ·have hI:¬(j:Int)<8:=by omega
   obtain rfl:j=8:=by omega
   obtain rfl:un=8:=LR.out
   have HUN:=hid hun
   clear hun hl
   go_wp2_with fail
   go_ret
   exact⟨_,rfl,rs,HUN.out,PB.out,TB.out,SB.out⟩
theorem s_copyX(r c i o:Value)(H:Ht)(b:Nat)(w:World)(h:Hm w b r c i o H)(h0:H.regs.length≤1000)(h1:H.csr.length≤1000)(h2:H.inn.length≤1000)(h3:H.out.length≤1000):
  Calls Tryz.prog 58 #[.agg #[r,.int .i64 H.pc,c,.bool H.halted,.bool H.waiting,.bool H.rung,.int .i64 H.done,i,o]] w fun e w'=>∃r' c' i' o',e=.returned (.agg #[r',.int .i64 H.pc,c',.bool H.halted,.bool H.waiting,.bool H.rung,.int .i64 H.done,i',o'])∧Hm w' w.heap.size r' c' i' o' H∧Ha r' c' i' o'∧Below w.heap.size w w'∧∃bo,w.heap.size≤bo∧bo≤w'.heap.size∧Nums w' bo o' H.out∧∀k,(r'.ownBlock=some k∨c'.ownBlock=some k∨i'.ownBlock=some k)→k<bo:=by
 have HM:=hid h
 have HL:Hid (H.regs.length≤1000∧H.csr.length≤1000∧H.inn.length≤1000∧H.out.length≤1000):=⟨h0,h1,h2,h3⟩
 obtain⟨a0,k0,rfl,_⟩:=h.r.shape
 obtain⟨a1,k1,rfl,_⟩:=h.c.shape
 obtain⟨a2,k2,rfl,_⟩:=h.i.shape
 obtain⟨a3,k3,rfl,_⟩:=h.o.shape
 clear h h0 h1 h2 h3
 generalize hW:(w.alloc (.cells #[.slice a0 H.regs.length k0,.int .i64 H.pc,.slice a1 H.csr.length k1,.bool H.halted,.bool H.waiting,.bool H.rung,.int .i64 H.done,.slice a2 H.inn.length k2,.slice a3 H.out.length k3] 26)).alloc (.cells #[.slice none 0 0,.int .i64 0,.slice none 0 0,.bool false,.bool false,.bool false,.int .i64 0,.slice none 0 0,.slice none 0 0] 26)=v0
 have SZ:Hid (v0.heap.size=w.heap.size+2):=by show _=_;rw[←hW];simp
 obtain⟨s,hS⟩:∃s,w.heap.size=s:=⟨_,rfl⟩
 have HSs:=hid hS
 have T0:Hid (Cy w v0 s #[.slice a0 H.regs.length k0,.int .i64 H.pc,.slice a1 H.csr.length k1,.bool H.halted,.bool H.waiting,.bool H.rung,.int .i64 H.done,.slice a2 H.inn.length k2,.slice a3 H.out.length k3]):=by
  have z1:s+1=(w.alloc (.cells #[.slice a0 H.regs.length k0,.int .i64 H.pc,.slice a1 H.csr.length k1,.bool H.halted,.bool H.waiting,.bool H.rung,.int .i64 H.done,.slice a2 H.inn.length k2,.slice a3 H.out.length k3] 26)).heap.size:=by rw[←hS];simp
  refine⟨?_,?_,by rw[←hW];exact al (al (Below.refl _ _) _) _,hS⟩
  ·rw[←hW,←hS];exact(Vb.new _ _ _).push _
  ·rw[←hW,z1];exact Vb.new _ _ _
 have LO:Hid (∀k,Own4 (.slice a0 H.regs.length k0) (.slice a1 H.csr.length k1) (.slice a2 H.inn.length k2) (.slice a3 H.out.length k3) k→k<s):=fun k e=>by have:=(HM.out.own k e).2;have:=HSs.out;omega
 have Z0:Hid (s+2≤v0.heap.size):=by show _≤_;have:=SZ.out;have:=HSs.out;omega
 have q0:=T0.out.A.cell 0 rfl
 have ls:=T0.out.A.lt
 go_enter Tryz.func58,Tryz.ntmps58
 go_upto_region 2 with(at_builtin;refine wp_appy _ rfl _ _ rfl v0.heap.size _ [] rfl (nums_none _ _ (Nat.le_refl _)) a0 H.regs.length k0 H.regs rfl ((HM.out.r.rn.stay T0.out.b).stay (al (Below.refl _ _) _)) (by have:=HL.out.1;simp;omega) (by simp) ?_;intro x0 w1 n1 g1;have b1:Below v0.heap.size v0 w1:=below_of_grown (al (Below.refl _ _) _) g1 (nums_none _ _ (Nat.le_refl _)) (Nat.le_refl _);rw[List.nil_append]at n1;obtain⟨xa0,xk0,rfl,_⟩:=n1.shape;clear ls;have S1:=T0.out.keep b1;have ls:=S1.A.lt;have o0:=S1.A.cell 0 rfl;have f0:=S1.A.free 0;have e2:=S1.A.cell 2 rfl;clear g1)
 have MB0:=hid n1
 have M0:Hid (Nums w1 (s+2) (.slice xa0 H.regs.length xk0) H.regs):=n1.mono Z0.out
 have T1:Hid (Cy w (w1.setCell ⟨s,0,none⟩ (.slice xa0 H.regs.length xk0)) s #[.slice xa0 H.regs.length xk0,.int .i64 H.pc,.slice a1 H.csr.length k1,.bool H.halted,.bool H.waiting,.bool H.rung,.int .i64 H.done,.slice a2 H.inn.length k2,.slice a3 H.out.length k3]):=S1.put 0 (.slice xa0 H.regs.length xk0)
 have H1:Hid (Ho (s+2) w1 (w1.setCell ⟨s,0,none⟩ (.slice xa0 H.regs.length xk0))):=Ho.set _ _ _ (by show s<s+2;omega)
 have Z1:Hid (s+2≤(w1.setCell ⟨s,0,none⟩ (.slice xa0 H.regs.length xk0)).heap.size):=(by have:=T1.out.R.lt;show _≤_;omega)
 have Y1:Hid (w1.heap.size≤(w1.setCell ⟨s,0,none⟩ (.slice xa0 H.regs.length xk0)).heap.size):=H1.out.size
 generalize (w1.setCell ⟨s,0,none⟩ (.slice xa0 H.regs.length xk0))=v1 at*
 clear S1 n1 b1 o0 f0 e2 q0 hW hS ls
 have ls:=T1.out.A.lt
 have e2:=T1.out.A.cell 2 rfl
 go_upto_region 3 with(at_builtin;refine wp_appy _ rfl _ _ rfl v1.heap.size _ [] rfl (nums_none _ _ (Nat.le_refl _)) a1 H.csr.length k1 H.csr rfl ((HM.out.c.rn.stay T1.out.b).stay (al (Below.refl _ _) _)) (by have:=HL.out.2.1;simp;omega) (by simp) ?_;intro x1 w2 n1 g1;have b1:Below v1.heap.size v1 w2:=below_of_grown (al (Below.refl _ _) _) g1 (nums_none _ _ (Nat.le_refl _)) (Nat.le_refl _);rw[List.nil_append]at n1;obtain⟨xa1,xk1,rfl,_⟩:=n1.shape;clear ls e2;have S1:=T1.out.keep b1;have ls:=S1.A.lt;have o2:=S1.A.cell 2 rfl;have f2:=S1.A.free 2;have e7:=S1.A.cell 7 rfl;clear g1)
 have MB1:=hid n1
 have H12:Hid (Ho (s+2) w1 w2):=H1.out.trans (Ho.of b1)
 have M1:Hid (Nums w2 (s+2) (.slice xa1 H.csr.length xk1) H.csr):=n1.mono Z1.out
 have T2:Hid (Cy w (w2.setCell ⟨s,2,none⟩ (.slice xa1 H.csr.length xk1)) s #[.slice xa0 H.regs.length xk0,.int .i64 H.pc,.slice xa1 H.csr.length xk1,.bool H.halted,.bool H.waiting,.bool H.rung,.int .i64 H.done,.slice a2 H.inn.length k2,.slice a3 H.out.length k3]):=S1.put 2 (.slice xa1 H.csr.length xk1)
 have H2:Hid (Ho (s+2) w2 (w2.setCell ⟨s,2,none⟩ (.slice xa1 H.csr.length xk1))):=Ho.set _ _ _ (by show s<s+2;omega)
 have Z2:Hid (s+2≤(w2.setCell ⟨s,2,none⟩ (.slice xa1 H.csr.length xk1)).heap.size):=(by have:=T2.out.R.lt;show _≤_;omega)
 have Y2:Hid (w2.heap.size≤(w2.setCell ⟨s,2,none⟩ (.slice xa1 H.csr.length xk1)).heap.size):=H2.out.size
 generalize (w2.setCell ⟨s,2,none⟩ (.slice xa1 H.csr.length xk1))=v2 at*
 clear S1 n1 b1 o2 f2 e7 ls
 have ls:=T2.out.A.lt
 have e7:=T2.out.A.cell 7 rfl
 go_upto_region 4 with(at_builtin;refine wp_appy _ rfl _ _ rfl v2.heap.size _ [] rfl (nums_none _ _ (Nat.le_refl _)) a2 H.inn.length k2 H.inn rfl ((HM.out.i.rn.stay T2.out.b).stay (al (Below.refl _ _) _)) (by have:=HL.out.2.2.1;simp;omega) (by simp) ?_;intro x2 w3 n1 g1;have b1:Below v2.heap.size v2 w3:=below_of_grown (al (Below.refl _ _) _) g1 (nums_none _ _ (Nat.le_refl _)) (Nat.le_refl _);rw[List.nil_append]at n1;obtain⟨xa2,xk2,rfl,_⟩:=n1.shape;clear ls e7;have S1:=T2.out.keep b1;have ls:=S1.A.lt;have o7:=S1.A.cell 7 rfl;have f7:=S1.A.free 7;have e8:=S1.A.cell 8 rfl;clear g1)
 have MB2:=hid n1
 have H23:Hid (Ho (s+2) w2 w3):=H2.out.trans (Ho.of b1)
 have M2:Hid (Nums w3 (s+2) (.slice xa2 H.inn.length xk2) H.inn):=n1.mono Z2.out
 have T3:Hid (Cy w (w3.setCell ⟨s,7,none⟩ (.slice xa2 H.inn.length xk2)) s #[.slice xa0 H.regs.length xk0,.int .i64 H.pc,.slice xa1 H.csr.length xk1,.bool H.halted,.bool H.waiting,.bool H.rung,.int .i64 H.done,.slice xa2 H.inn.length xk2,.slice a3 H.out.length k3]):=S1.put 7 (.slice xa2 H.inn.length xk2)
 have H3:Hid (Ho (s+2) w3 (w3.setCell ⟨s,7,none⟩ (.slice xa2 H.inn.length xk2))):=Ho.set _ _ _ (by show s<s+2;omega)
 have Z3:Hid (s+2≤(w3.setCell ⟨s,7,none⟩ (.slice xa2 H.inn.length xk2)).heap.size):=(by have:=T3.out.R.lt;show _≤_;omega)
 have Y3:Hid (w3.heap.size≤(w3.setCell ⟨s,7,none⟩ (.slice xa2 H.inn.length xk2)).heap.size):=H3.out.size
 generalize (w3.setCell ⟨s,7,none⟩ (.slice xa2 H.inn.length xk2))=v3 at*
 clear S1 n1 b1 o7 f7 e8 ls
 have ls:=T3.out.A.lt
 have e8:=T3.out.A.cell 8 rfl
 go_upto_region 5 with(at_builtin;refine wp_appy _ rfl _ _ rfl v3.heap.size _ [] rfl (nums_none _ _ (Nat.le_refl _)) a3 H.out.length k3 H.out rfl ((HM.out.o.rn.stay T3.out.b).stay (al (Below.refl _ _) _)) (by have:=HL.out.2.2.2;simp;omega) (by simp) ?_;intro x3 w4 n1 g1;have b1:Below v3.heap.size v3 w4:=below_of_grown (al (Below.refl _ _) _) g1 (nums_none _ _ (Nat.le_refl _)) (Nat.le_refl _);rw[List.nil_append]at n1;obtain⟨xa3,xk3,rfl,_⟩:=n1.shape;clear ls e8;have S1:=T3.out.keep b1;have ls:=S1.A.lt;have o8:=S1.A.cell 8 rfl;have f8:=S1.A.free 8;have r0:=S1.R.cell 0 rfl;have y0:=S1.R.free 0;have r1:=S1.R.cell 1 rfl;have y1:=S1.R.free 1;have r2:=S1.R.cell 2 rfl;have y2:=S1.R.free 2;have r3:=S1.R.cell 3 rfl;have y3:=S1.R.free 3;have r4:=S1.R.cell 4 rfl;have y4:=S1.R.free 4;have r5:=S1.R.cell 5 rfl;have y5:=S1.R.free 5;have r6:=S1.R.cell 6 rfl;have y6:=S1.R.free 6;have r7:=S1.R.cell 7 rfl;have y7:=S1.R.free 7;have r8:=S1.R.cell 8 rfl;have y8:=S1.R.free 8;have l0:=S1.A.cell 0 rfl;have l1:=S1.A.cell 1 rfl;have l2:=S1.A.cell 2 rfl;have l3:=S1.A.cell 3 rfl;have l4:=S1.A.cell 4 rfl;have l5:=S1.A.cell 5 rfl;have l6:=S1.A.cell 6 rfl;have l7:=S1.A.cell 7 rfl;clear g1)
 have MB3:=hid n1
 have YY:Hid (v3.heap.size≤w4.heap.size):=b1.size
 have H34:Hid (Ho (s+2) w3 w4):=H3.out.trans (Ho.of b1)
 have M3:Hid (Nums w4 (s+2) (.slice xa3 H.out.length xk3) H.out):=n1.mono Z3.out
 have T4:Hid (Cy w (w4.setCell ⟨s,8,none⟩ (.slice xa3 H.out.length xk3)) s #[.slice xa0 H.regs.length xk0,.int .i64 H.pc,.slice xa1 H.csr.length xk1,.bool H.halted,.bool H.waiting,.bool H.rung,.int .i64 H.done,.slice xa2 H.inn.length xk2,.slice xa3 H.out.length xk3]):=S1.put 8 (.slice xa3 H.out.length xk3)
 have H4:Hid (Ho (s+2) w4 (w4.setCell ⟨s,8,none⟩ (.slice xa3 H.out.length xk3))):=Ho.set _ _ _ (by show s<s+2;omega)
 have Z4:Hid (s+2≤(w4.setCell ⟨s,8,none⟩ (.slice xa3 H.out.length xk3)).heap.size):=by have:=T4.out.R.lt;show _≤_;omega
 have Y4:Hid (w4.heap.size≤(w4.setCell ⟨s,8,none⟩ (.slice xa3 H.out.length xk3)).heap.size):=H4.out.size
 go_wp2_with fail
 obtain⟨V,hzV,NN⟩:=zE9 T4.out.R (.slice xa0 H.regs.length xk0) (.int .i64 H.pc) (.slice xa1 H.csr.length xk1) (.bool H.halted) (.bool H.waiting) (.bool H.rung) (.int .i64 H.done) (.slice xa2 H.inn.length xk2) (.slice xa3 H.out.length xk3)
 clear S1 n1 b1 o8 f8 r0 y0 r1 y1 r2 y2 r3 y3 r4 y4 r5 y5 r6 y6 r7 y7 r8 y8 l0 l1 l2 l3 l4 l5 l6 l7
 rw[hzV]
 clear hzV
 generalize (w4.setCell ⟨s,8,none⟩ (.slice xa3 H.out.length xk3))=v4 at*
 have H5:Hid (Ho (s+2) w4 V):=H4.out.trans (NN.out.2.ho fun k e=>by omega)
 have B5:Hid (Below w.heap.size w V):=Mq.under T4.out.b NN.out.2 fun k e=>by have:=HSs.out;omega
 have A01:=MB0.out.apt MB1.out Y1.out
 have A02:=MB0.out.apt MB2.out (Nat.le_trans H12.out.size Y2.out)
 have A03:=MB0.out.apt MB3.out (Nat.le_trans (Nat.le_trans H12.out.size H23.out.size) Y3.out)
 have A12:=MB1.out.apt MB2.out Y2.out
 have A13:=MB1.out.apt MB3.out (Nat.le_trans H23.out.size Y3.out)
 have A23:=MB2.out.apt MB3.out Y3.out
 have R0:Nums V w.heap.size (.slice xa0 H.regs.length xk0) H.regs:=(M0.out.ho (H12.out.trans (H23.out.trans (H34.out.trans H5.out)))).mono (by have:=HSs.out;omega)
 have R1:Nums V w.heap.size (.slice xa1 H.csr.length xk1) H.csr:=(M1.out.ho (H23.out.trans (H34.out.trans H5.out))).mono (by have:=HSs.out;omega)
 have R2:Nums V w.heap.size (.slice xa2 H.inn.length xk2) H.inn:=(M2.out.ho (H34.out.trans H5.out)).mono (by have:=HSs.out;omega)
 have R3:Nums V w.heap.size (.slice xa3 H.out.length xk3) H.out:=(M3.out.ho H5.out).mono (by have:=HSs.out;omega)
 obtain⟨x0,x1,x2,x3,x4,x5,x6,x7,x8⟩:=zc9 NN.out.1
 exact bodyPost_ret (v:=.agg #[.slice xa0 H.regs.length xk0,.int .i64 H.pc,.slice xa1 H.csr.length xk1,.bool H.halted,.bool H.waiting,.bool H.rung,.int .i64 H.done,.slice xa2 H.inn.length xk2,.slice xa3 H.out.length xk3]) (by simp[results,Tryz.results58,go_sem,x0,x1,x2,x3,x4,x5,x6,x7,x8]) rfl
  ⟨_,_,_,_,rfl,⟨R0,R1,R2,R3⟩,⟨A01,A02,A03,A12,A13,A23⟩,B5.out,v3.heap.size,T3.out.b.size,Nat.le_trans YY.out H5.out.size,MB3.out.ho ⟨H5.out.size,fun k hb hk=>H5.out.block k (Nat.le_trans Z3.out hb) hk⟩,fun k e=>by
   have h1:=H12.out.size
   have h2:=H23.out.size
   have h3:=Y3.out
   rcases e with e|e|e
   ·have:=(MB0.out.lt k e).2;omega
   ·have:=(MB1.out.lt k e).2;omega
   ·have:=(MB2.out.lt k e).2;omega⟩
theorem spec_copyZ(g cap:Nat)(zs:List Int)(b:Nat)(w:World)(h:Nums w b (.slice (some ⟨g,0,none⟩) zs.length cap) zs)(hn:zs.length≤1000000):
  Calls Tryz.prog 57 #[.slice (some ⟨g,0,none⟩) zs.length cap] w fun e w'=>∃v,e=.returned v∧Nums w' w.heap.size v zs∧Below w.heap.size w w':=by
 have HZ:Hid (Nums w b _ zs):=h
 obtain⟨n,hn2⟩:∃n,zs.length=n:=⟨_,rfl⟩
 rw[hn2]at HZ hn ⊢
 have HL:Hid (zs.length=n∧n≤1000000):=⟨hn2,hn⟩
 clear h hn2 hn
 go_enter Tryz.func57,Tryz.ntmps57
 go_wp2_with (at_builtin;refine wp_append _ rfl _ _ rfl w.heap.size _ _ rfl (nums_none w w.heap.size (Nat.le_refl _)) g n cap zs rfl HL.out.1 (fun i hi=>cell_push _ (HZ.out.cell HL.out.1.symm i hi)) (by have:=HL.out;simp;omega) (by simp) ?_;intro v' w' hN' hG')
 have N':Hid (Nums w' w.heap.size v' zs):=by rw[List.nil_append]at hN';exact hN'
 have B':Hid (Below w.heap.size w w'):=(al (Below.refl _ _) _).grown hG' (by simp) (fun k hk=>Nat.le_of_eq (Option.some.inj hk))
 clear hN' hG'
 go_wp2_with fail
 go_ret
 exact⟨_,rfl,N'.out,B'.out⟩
variable{w:World}{base:Nat}{v:Value}
theorem DrawnM.shape(h:DrawnM w base v):∃a n cap,v=.slice a n cap∧n≤200:=by
 rcases h with⟨zs,hN,hl⟩|⟨a,n,cap,rfl,hn,_⟩
 ·obtain⟨a,cap,rfl,_⟩:=hN.shape
  exact⟨_,_,_,rfl,hl⟩
 ·exact⟨_,_,_,rfl,hn⟩
variable{w w':World}{base b:Nat}{v:Value}
theorem DrawnM.turn(h:DrawnM w base v)(t:Turn b w w')(hb:b<base):DrawnM w' base v:=by
 rcases h with⟨zs,hN,hl⟩|h
 ·exact .inl ⟨zs,hN.turn t hb,hl⟩
 ·exact .inr h
variable{w:World}{base base':Nat}{v:Value}
theorem DrawnM.mono(h:DrawnM w base v)(hb:base'≤base):DrawnM w base' v:=by
 rcases h with⟨zs,hN,hl⟩|h
 ·exact .inl ⟨zs,hN.mono hb,hl⟩
 ·exact .inr h
theorem form_cases{n:Nat}(h:formB n=false):n=0∨(¬n=0∧192<n)∨(¬n=0∧n≤192∧¬n%8=0):=by
 have:=of_decide_eq_false h
 omega
theorem impl_memBad(a:Option Addr)(n cap:Nat)(w:World)(hn:n≤200)(hf:formB n=false):
  Calls Tryz.prog 11 #[.slice a n cap] w fun e w'=>e=.returned (.int .i64 1)∧w'=w:=by
 rcases form_cases hf with rfl|⟨h1,h2⟩|⟨h1,h2,h3⟩
 ·go_enter Tryz.func11,Tryz.ntmps11
  go_wp2_with fail
  go_ret
  exact⟨rfl,rfl⟩
 ·have e1:¬(n:Int)=0:=by omega
  have e2:(192:Int)<n:=by omega
  clear h1 h2 hf
  go_enter Tryz.func11,Tryz.ntmps11
  go_wp2_with fail
  go_ret
  exact⟨rfl,rfl⟩
 ·have e1:¬(n:Int)=0:=by omega
  have e2:¬(192:Int)<n:=by omega
  have e3:(((n:Int)%8) !=0)=true:=by simp;omega
  clear h1 h2 h3 hf
  go_enter Tryz.func11,Tryz.ntmps11
  go_wp2_with fail
  go_ret
  exact⟨rfl,rfl⟩
theorem form_cases'{n:Nat}(h:formB n=false):¬n%8=0∨(n%8=0∧n<8)∨(n%8=0∧¬n<8∧192<n):=by
 have:=of_decide_eq_false h
 omega
theorem spec_memBad(a:Option Addr)(n cap:Nat)(w:World)(hn:n≤200)(hf:formB n=false):
  Calls Tryz.prog 56 #[.slice a n cap] w fun e w'=>e=.returned (.int .i64 1)∧w'=w:=by
 have hni:(n:Int)≤200:=by omega
 rcases form_cases' hf with h1|⟨h1,h2⟩|⟨h1,h2,h3⟩
 ·have e3:(((n:Int)%8) !=0)=true:=by simp;omega
  clear h1 hf hn
  go_enter Tryz.func56,Tryz.ntmps56
  go_wp2_with fail
  go_ret
  exact⟨rfl,rfl⟩
 ·have e1:(((n:Int)%8) !=0)=false:=by simp;omega
  have e2:(n:Int)<8:=by omega
  clear h1 h2 hf hn
  go_enter Tryz.func56,Tryz.ntmps56
  go_wp2_with fail
  go_ret
  exact⟨rfl,rfl⟩
 ·have e1:(((n:Int)%8) !=0)=false:=by simp;omega
  have e2:¬(n:Int)<8:=by omega
  have e3:(192:Int)<n:=by omega
  clear h1 h2 h3 hf hn
  go_enter Tryz.func56,Tryz.ntmps56
  go_wp2_with fail
  go_ret
  exact⟨rfl,rfl⟩
def Drawn(w:World)(base:Nat)(v:Value):Prop:=
 (∃rs:List (Int×Int),Prs 36 w base v rs∧rs.length=8)∨∃a cap,v=.slice a 7 cap
variable{w w':World}{base b:Nat}{v:Value}
theorem Drawn.turn(h:Drawn w base v)(t:Turn b w w')(hb:b<base):Drawn w' base v:=by
 rcases h with⟨rs,h,hl⟩|h
 ·exact .inl ⟨rs,h.turn t hb,hl⟩
 ·exact .inr h
variable{w:World}{base base':Nat}{v:Value}
theorem Drawn.mono(h:Drawn w base v)(hb:base'≤base):Drawn w base' v:=by
 rcases h with⟨rs,h,hl⟩|h
 ·exact .inl ⟨rs,h.mono hb,hl⟩
 ·exact .inr h
variable{w:World}{base:Nat}{v:Value}
theorem Drawn.shape(h:Drawn w base v):∃a n cap,v=.slice a n cap:=by
 rcases h with⟨rs,h,hl⟩|⟨a,cap,rfl⟩
 ·obtain⟨a,cap,rfl,_⟩:=h.shape
  exact⟨_,_,_,rfl⟩
 ·exact⟨_,_,_,rfl⟩
theorem Prs.storeAt{e:TypeId}{w:World}{base g n cap:Nat}{rs:List (Int×Int)}(h:Prs e w base (.slice (some ⟨g,0,none⟩) n cap) rs)(hn:n=rs.length)(j:Nat)(u:Int)(hj:j<n):
  (∃qs,qs.length=rs.length∧Prs e (w.setCell ⟨g,j*2,none⟩ (.int .i64 u)) base (.slice (some ⟨g,0,none⟩) n cap) qs)∧∃qs,qs.length=rs.length∧Prs e (w.setCell ⟨g,j*2+1,none⟩ (.int .i64 u)) base (.slice (some ⟨g,0,none⟩) n cap) qs:=by
 subst hn
 have h1:=(World.ownsRow.stored h (j*2) (.int .i64 u)).1
 have h2:=(World.ownsRow.stored h (j*2+1) (.int .i64 u)).1
 have e1:(flat rs).set (j*2) (.int .i64 u)=flat (rs.set j (u,(rs.getD j (0,0)).2)):=by
  rw[flat_set rs j _ _ hj]
  apply List.ext_getElem?
  intro i
  by_cases hi:j*2+1=i
  ·subst hi
   rw[List.getElem?_set_ne (by omega),(flat_get rs j hj).2,List.getElem?_set_self (by rw[List.length_set,flat_length];omega)]
  ·rw[List.getElem?_set_ne hi]
 have e2:(flat rs).set (j*2+1) (.int .i64 u)=flat (rs.set j ((rs.getD j (0,0)).1,u)):=by
  rw[flat_set rs j _ _ hj]
  apply List.ext_getElem?
  intro i
  by_cases hi:j*2+1=i
  ·subst hi
   rw[List.getElem?_set_self (by rw[flat_length];omega),List.getElem?_set_self (by rw[List.length_set,flat_length];omega)]
  ·rw[List.getElem?_set_ne hi,List.getElem?_set_ne hi]
   by_cases hk:j*2=i
   ·subst hk
    rw[List.getElem?_set_self (by rw[flat_length];omega),(flat_get rs j hj).1]
   ·rw[List.getElem?_set_ne hk]
 refine⟨⟨rs.set j (u,(rs.getD j (0,0)).2),List.length_set ..,?_⟩,⟨rs.set j ((rs.getD j (0,0)).1,u),List.length_set ..,?_⟩⟩
 ·show World.ownsRow _ _ _ _ _ _ (flat (rs.set j (u,(rs.getD j (0,0)).2)))
  rw[←e1,List.length_set]
  exact h1
 ·show World.ownsRow _ _ _ _ _ _ (flat (rs.set j ((rs.getD j (0,0)).1,u)))
  rw[←e2,List.length_set]
  exact h2
def Drawn8(w:World)(base:Nat)(v:Value):Prop:=
 (∃rs:List (Int×Int),Prs 36 w base v rs∧rs.length=8)∨∃g yc c2 rs,v=.slice (some ⟨g,2,none⟩) 7 c2∧Prs 36 w base (.slice (some ⟨g,0,none⟩) 8 yc) rs∧rs.length=8
theorem Drawn8.drawn(h:Drawn8 w base v):Drawn w base v:=by
 rcases h with h|⟨g,yc,c2,rs,rfl,_⟩
 ·exact .inl h
 ·exact .inr ⟨_,_,rfl⟩
variable{w w':World}{base b:Nat}{v:Value}
theorem Drawn8.turn(h:Drawn8 w base v)(t:Turn b w w')(hb:b<base):Drawn8 w' base v:=by
 rcases h with⟨rs,h,hl⟩|⟨g,yc,c2,rs,rfl,h,hl⟩
 ·exact .inl ⟨rs,h.turn t hb,hl⟩
 ·exact .inr ⟨g,yc,c2,rs,rfl,h.turn t hb,hl⟩
variable{w:World}{base base':Nat}{v:Value}
theorem Drawn8.mono(h:Drawn8 w base v)(hb:base'≤base):Drawn8 w base' v:=by
 rcases h with⟨rs,h,hl⟩|⟨g,yc,c2,rs,rfl,h,hl⟩
 ·exact .inl ⟨rs,h.mono hb,hl⟩
 ·exact .inr ⟨g,yc,c2,rs,rfl,h.mono hb,hl⟩
variable{w:World}{b k:Nat}{a:Option Addr}{len cap:Nat}{zs:List Int}
theorem bent_rows(s:Src w b k a len cap zs)(hk:k≤80000)(top:Int):
  Calls Tryz.prog 49 #[.pointer (some ⟨b,0,none⟩),.int .i64 top] w fun e w'=>∃(v:Value) (k':Nat),e=.returned v∧Drawn8 w' w.heap.size v∧k'≤k+30∧Turn b w w'∧Src w' b k' a len cap zs:=by
 have hb:=s.here
 have HS:=hid s
 have HK:=hid hk
 clear s hk
 go_enter Tryz.func49,Tryz.ntmps49
 go_wp2_with fail
 refine(pages_any HS.out (by have:=HK.out;omega) top).mono ?_
 rintro e w1⟨v,rs,rfl,hl,hP,t1,s1⟩
 obtain⟨ya,yc,rfl,l1,l2,hg⟩:=hP.shape
 rw[hl]at l1 hg hP ⊢
 obtain⟨g,rfl⟩:=hg (by omega)
 have PB:=hid hP
 have LR:=hid hl
 clear hP hl hg l2
 go_wp2_with fail
 refine(next_any s1 (by have:=HK.out;omega) _).mono ?_
 rintro e w2⟨v2,rfl,h2, -,t2,s2⟩
 obtain⟨i0,i1⟩:=h2 (by omega)
 obtain⟨i,rfl⟩:=Int.eq_ofNat_of_zero_le i0
 have hi8:i<8:=by omega
 clear h2 i0
 go_wp2_with fail
 refine(next_any s2 (by have:=HK.out;omega) _).mono ?_
 rintro e w3⟨v3,rfl, -, -,t3,s3⟩
 have T3:Hid (Turn b w w3):=t1.trans (t2.trans t3)
 have S3:=hid s3
 have P3:=hid (PB.out.turn (t2.trans t3) hb)
 have h3:=s3.here
 have hgb:w.heap.size≤g:=(PB.out.lt g rfl).1
 clear t1 t2 t3 s1 s2 s3
 by_cases c0:v3=0
 ·subst c0
  go_wp2_with fail
  refine(pick_any (S3.out.alloc _) (by have:=HK.out;omega) (fun _=>True) _ 3 (by omega) (by omega) (by simp) (by omega) ?_).mono ?_
  ·intro i hi
   have:i=0∨i=1∨i=2:=by omega
   rcases this with rfl|rfl|rfl
   all_goals exact⟨_,cell_new rfl,trivial⟩
  rintro e w4⟨v4,rfl, -,t4,s4⟩
  have T4:Hid (Turn b w w4):=T3.out.trans ((Turn.alloc _ w3 _).trans t4)
  have P4:Hid (Prs 36 w4 w.heap.size (.slice (some ⟨g,0,none⟩) 8 yc) rs):=P3.out.turn ((Turn.alloc _ w3 _).trans t4) hb
  have c1:=(P4.out.cell LR.out.symm i hi8).1
  have f1:=P4.out.free LR.out.symm (i*2)
  have S4:=hid s4
  clear t4 s4
  go_wp2_with fail
  go_ret
  obtain⟨qs,hq,hQ⟩:=(P4.out.storeAt LR.out.symm i v4 hi8).1
  exact⟨_,k+24+1+1+1,rfl,.inl ⟨qs,hQ,hq.trans LR.out⟩,by omega,T4.out.put _ _ hgb,S4.out.put _ _ (by show b<g;omega)⟩
 have n0:(v3==0)=false:=beq_eq_false_iff_ne.2 c0
 by_cases c1:v3=1
 ·subst c1
  clear n0 c0
  go_wp2_with fail
  refine(pick_any (S3.out.alloc _) (by have:=HK.out;omega) (fun _=>True) _ 4 (by omega) (by omega) (by simp) (by omega) ?_).mono ?_
  ·intro i hi
   have:i=0∨i=1∨i=2∨i=3:=by omega
   rcases this with rfl|rfl|rfl|rfl
   all_goals exact⟨_,cell_new rfl,trivial⟩
  rintro e w4⟨v4,rfl, -,t4,s4⟩
  have T4:Hid (Turn b w w4):=T3.out.trans ((Turn.alloc _ w3 _).trans t4)
  have P4:Hid (Prs 36 w4 w.heap.size (.slice (some ⟨g,0,none⟩) 8 yc) rs):=P3.out.turn ((Turn.alloc _ w3 _).trans t4) hb
  have c1:=(P4.out.cell LR.out.symm i hi8).2
  have f1:=P4.out.free LR.out.symm (i*2+1)
  have S4:=hid s4
  clear t4 s4
  go_wp2_with fail
  go_ret
  obtain⟨qs,hq,hQ⟩:=(P4.out.storeAt LR.out.symm i v4 hi8).2
  exact⟨_,k+24+1+1+1,rfl,.inl ⟨qs,hQ,hq.trans LR.out⟩,by omega,T4.out.put _ _ hgb,S4.out.put _ _ (by show b<g;omega)⟩
 have n1:(v3==1)=false:=beq_eq_false_iff_ne.2 c1
 by_cases c2:v3=2
 ·subst c2
  clear n0 c0 n1 c1
  have l1I:(8:Int)≤(yc:Int):=by omega
  go_wp2_with fail
  go_ret
  exact⟨_,k+24+1+1,rfl,.inr ⟨_,_,_,_,rfl,P3.out,LR.out⟩,by omega,T3.out,S3.out⟩
 have n2:(v3==2)=false:=beq_eq_false_iff_ne.2 c2
 clear c0 c1 c2
 go_wp2_with fail
 go_ret
 exact⟨_,k+24+1+1,rfl,.inl ⟨rs,P3.out,LR.out⟩,by omega,T3.out,S3.out⟩
theorem map_take(f:Int×Int→Int×Int)(rs:List (Int×Int))(j:Nat)(h:j<rs.length):(rs.take (j+1)).map f=(rs.take j).map f++ [((f ((rs.getD j (0,0)).1,(rs.getD j (0,0)).2)).1,(f ((rs.getD j (0,0)).1,(rs.getD j (0,0)).2)).2)]:=by
 rw[List.take_succ_eq_append_getElem h,List.map_append,List.getD,List.getElem?_eq_getElem h]
 rfl
def newR(zs:List Int):Int×Ht:=if 40<zs.length then(2,voidH)else(if zs.all isW then(0,newV zs)else(3,voidH))
def Flt(w:World)(v:Value)(top c:Int):Prop:=
 (∀w1,Below w.heap.size w w1→Calls Tryz.prog 67 #[v,.int .i64 top] w1 fun e w'=>e=.returned (.int .i64 c)∧Below w1.heap.size w1 w')∧
 ∀w1,Below w.heap.size w w1→Calls Tryz.prog 55 #[v,.int .i64 top] w1 fun e w'=>e=.returned (.int .i64 c)∧w'=w1
theorem Flt.good{w:World}{base:Nat}{v:Value}{rs:List (Int×Int)}(h:Prs 36 w base v rs)(hl:rs.length=8)(top:Int):Flt w v top (pgsV rs top):=
 ⟨fun w1 b=>impl_fault v rs top base w1 (h.keep b) (by omega),fun w1 b=>spec_fault v rs top base w1 (h.keep b) (by omega)⟩
theorem Flt.bad{w:World}(a:Option Addr)(cap:Nat)(top:Int)(h1:1≤top)(h2:top≤24):Flt w (.slice a 7 cap) top 1:=by
 refine⟨fun w1 b=>?_,fun w1 b=>spec_faultBad _ _ _ _ _ (by omega) (by omega) h1 h2⟩
 refine(impl_faultBad _ _ _ _ _ (by omega) (by omega) h1 h2).mono ?_
 rintro e w'⟨rfl,rfl⟩
 exact⟨rfl,Below.refl _ _⟩
theorem step_make{ops:Array Oper}{o:Oper}{act:Act}{w:World}{K:Act→World→Prop}{Q:Exit→Act→World→Prop}{E:Prop}(hgd:o.guard=none)(l c:Operand)
  (ho:o.op=Op.makeSlice 24 l c) (n:Nat) (hl:act.eval l=.int .i64 n) (hc:act.eval c=.int .i64 n) (hn:n≤1000)
  (h:∀v w',Nums w' w.heap.size v (List.replicate n 0)→Below w.heap.size w w'→K (act.put o.dst v) w'):
  if Region.wanted o (yielded ops act.tmps)=true then Oper.wp Tryz.prog o act w K Q else E:=by
 have hw:Region.wanted o (yielded ops act.tmps)=true:=by simp[Region.wanted,hgd]
 rw[if_pos hw]
 obtain⟨i,hi,hz0,hz1,hz2⟩:=info_parts info_i64
 obtain⟨w',hrun,r1,r2⟩:=run_make_full (P:=Tryz.prog) w w.heap.size 24 2 i _ 1 Tryz.underlying24 hi hz0 hz1 .i64 .i64 n (by rw[hz2];omega) (by unfold maxLen;omega) (Nat.le_refl _)
 unfold Oper.wp
 simp[execOp,ho,hl,hc,hrun,Result.andThen]
 refine h _ w' (Nums.made r1 (by rw[Nat.mul_one,show(Value.int .i64 0).cells=#[.int .i64 0]from rfl,toList_madeCells_one];simp)) ((Below.refl _ _).grown r2 (Nat.le_refl _) (by simp))
end Go.Proofs.YtaefollmeoepkaaGreatDoor
