import Derived.OwnWalkIn
import Derived.TacticsInMore
import Derived.RegionIn
import Derived.LoopNIn
import Derived.LoopIn
import Derived.RangeFuncNested
import Derived.RangeFuncBound
import Derived.RangeFuncCalls
import Derived.RangeFuncLeaves
import Derived.Test.YtignbeibcakgpaaGreatDoorQ47
namespace Go.Proofs.YtignbeibcakgpaaGreatDoor
set_option maxRecDepth 20000
set_option maxHeartbeats 16000000
open Go.RowKit
set_option linter.unusedVariables false
attribute [local go_sem] Oper.semAt_some
structure Jh(w0:World)(q b g:Nat)(a0:Option Addr)(n0 c0:Nat)(a1:Option Addr)(n1 c1:Nat)(a2:Option Addr)(n2 c2:Nat)(a3:Option Addr)(n3 c3:Nat)(lh vc:Nat)(P:Plc)(cl:Int)(bx rb:Nat)(R:Nat→List Int→List Gs→Prop)(k:Nat)(W:World):Prop where
 h:∃zs rs,Hh W w0.heap.size q b g a0 n0 c0 a1 n1 c1 a2 n2 c2 a3 n3 c3 lh vc (tS P (cl+k)) (cl+k) zs rs∧R k zs rs
 bl:Below w0.heap.size w0 W
 box:Vb W bx #[.pointer (some ⟨q,0,none⟩)] 70
 res:Vb W rb #[.int .i64 0,.slice none 0 0,.slice none 0 0,.slice none 0 0,.slice none 0 0,.slice none 0 0,.slice none 0 0,.int .i64 0,.int .i64 0,.int .i64 0] 37
theorem i_stepsIn{w0:World}{q b g:Nat}{a0:Option Addr}{n0 c0:Nat}{a1:Option Addr}{n1 c1:Nat}{a2:Option Addr}{n2 c2:Nat}{a3:Option Addr}{n3 c3:Nat}{lh vc:Nat}{cl:Int}{P:Plc}{R:Nat→List Int→List Gs→Prop}{bx rb nb N m:Nat}(hm:2≤m)(d:Pl w0 a0 n0 c0 a1 n1 c1 a2 n2 c2 a3 n3 c3 P)(pf:pfV P=0)(hl:lh=P.own.length)(k0:0≤cl)(k1:cl+N≤1000000)
  (hR:∀k zs rs i o,R k zs rs→R (k+1) (hsZ (tG P (cl+k)).toNat rs zs) (hsG P.bells (tG P (cl+k)).toNat rs zs i o))
  (l:Nat) (Y:World→Prop) (W:World) (hYk:∀A B,KeepsOthers A B→Y A→Y B)
  (hY:∀k W1,1≤k→Jh w0 q b g a0 n0 c0 a1 n1 c1 a2 n2 c2 a3 n3 c3 lh vc P cl bx rb R k W1→Y W1→YieldAt Fence.wide (m-1) Tryz.prog l #[.int .i64 0] W1 fun e W'=>e=.returned (.bool true)∧Jh w0 q b g a0 n0 c0 a1 n1 c1 a2 n2 c2 a3 n3 c3 lh vc P cl bx rb R k W'∧Y W')
  (hn:W.cell? ⟨nb,0,none⟩=some (.int .i64 (N:Int))) (h0:Jh w0 q b g a0 n0 c0 a1 n1 c1 a2 n2 c2 a3 n3 c3 lh vc P cl bx rb R 0 W) (hY0:Y W):
  CallsIn Fence.wide m Tryz.prog 48 #[.func (.yield l) #[] #[],.pointer (some ⟨nb,0,none⟩),.pointer (some ⟨bx,0,none⟩)] W fun e W'=>(∃v,e=.returned v)∧Jh w0 q b g a0 n0 c0 a1 n1 c1 a2 n2 c2 a3 n3 c3 lh vc P cl bx rb R N W'∧Y W':=by
 have DD:=hid d
 have PF:Hid (pfV P=0∧lh=P.own.length∧0≤cl∧cl+N≤1000000):=⟨pf,hl,k0,k1⟩
 have N1:(N:Int)≤1000000:=by omega
 have HR:Hid (_):=hR
 have HYk:Hid (_):=hYk
 have HY:Hid (_):=hY
 have J0:Hid (_∧_):=⟨h0,hY0⟩
 clear d pf hl k0 k1 hR hYk hY h0 hY0
 refine callsIn_of_wp Tryz.func48 rfl trivial ?_ rfl
 simp only[Tryz.ntmps48,List.size_toArray,List.length_cons,List.length_nil,Nat.reduceAdd,Nat.reduceSub,Array.replicate_succ,Array.replicate_zero,List.push_toArray,List.append_toArray,List.nil_append,List.cons_append]
 gi_wp2
 clear hn
 gi_loopw [5] (fun c wr=>∃k:Nat,k≤N∧c=.int .i64 (k:Int)∧Jh w0 q b g a0 n0 c0 a1 n1 c1 a2 n2 c2 a3 n3 c3 lh vc P cl bx rb R k wr∧Y wr) (fun c _=>N-(intOf c).toNat)
 case atStart=>exact⟨0,Nat.zero_le _,rfl,J0.out⟩
 case round=>
  obtain⟨k,hk,rfl,hJ,hy0⟩:=hrel
  by_cases hlt:k<N
  ·have hI:(k:Int)<(N:Int):=by omega
   have HLT:=hid hlt
   have HJ:Hid (_∧_):=⟨hJ,hy0⟩
   have cb:wr.cell? ⟨bx,0,none⟩=some (.pointer (some ⟨q,0,none⟩)):=hJ.box.cell 0 rfl
   obtain⟨zs,rs,hh,hr⟩:=hJ.h
   have HH:Hid (_∧_):=⟨hh,hr⟩
   clear hlt hJ hy0 hk hh hr
   gi_wp2_with fail
   refine⟨trivial,fun _=>by omega,?_⟩
   refine(callsIn_wide.2 (i_hstep DD.out PF.out.1 PF.out.2.1 HJ.out.1.bl HH.out.1 (by have:=PF.out;omega) (by have:=PF.out;have:=HLT.out;omega))).mono ?_
   rintro e w2⟨rfl,⟨i',o',h2⟩,kp⟩
   have J2:Hid (Jh w0 q b g a0 n0 c0 a1 n1 c1 a2 n2 c2 a3 n3 c3 lh vc P cl bx rb R (k+1) w2∧Y w2):=by
    have e:cl+((k+1:Nat):Int)=cl+k+1:=by omega
    refine⟨⟨⟨_,_,by rw[e];exact h2,HR.out _ _ _ _ _ HH.out.2⟩,HJ.out.1.bl.trans kp.b,kp.vb HJ.out.1.box ⟨by decide,by decide,by decide,by decide⟩,kp.vb HJ.out.1.res ⟨by decide,by decide,by decide,by decide⟩⟩,HYk.out _ _ kp.keeps HJ.out.2⟩
   obtain⟨fn,tmps,assign,body,hy,hR⟩:=HY.out (k+1) w2 (by omega) J2.out.1 J2.out.2
   clear h2 kp cb
   gi_wp2
   refine⟨fun _=>by omega,hR.mono ?_⟩
   rintro e w3⟨rfl,J3,y3⟩
   clear hy hR
   gi_wp2
   go_roundw
   case rel=>exact⟨k+1,by have:=HLT.out;omega,by go_num,J3,y3⟩
   case measure=>have:=HLT.out;simp[intOf];omega
  ·have hI:¬(k:Int)<(N:Int):=by omega
   obtain rfl:k=N:=by omega
   clear hlt hk
   gi_wp2
   go_end0
   exact⟨⟨_,rfl⟩,hJ,hy0⟩
end Go.Proofs.YtignbeibcakgpaaGreatDoor
