import Derived.Test.YtignbeibcakgpaaGreatDoorQ25
namespace Go.Proofs.YtignbeibcakgpaaGreatDoor
set_option maxRecDepth 20000
set_option maxHeartbeats 16000000
open Go.RowKit
set_option linter.unusedVariables false
def rdV:List (Int×Int)→Int
 | []=>0
 |s::t=>s.2+rdV t
theorem rdV_append(a b:List (Int×Int)):rdV (a++b)=rdV a+rdV b:=by
 induction a with
 |nil=>simp[rdV]
 |cons s t ih=>rw[List.cons_append,rdV,rdV,ih];omega
theorem rdV_take(zs:List (Int×Int))(j:Nat)(h:j<zs.length):rdV (zs.take (j+1))=rdV (zs.take j)+(zs.getD j (0,0)).2:=by
 rw[take_succ_getD zs (0,0) j h,rdV_append,rdV,rdV]
 omega
theorem slots_ok(n:Nat)(zs:List (Int×Int))(h:slotsV n zs=0):∀s ∈ zs,1≤s.2∧s.2≤50:=by
 induction zs with
 |nil=>intro s hs;cases hs
 |cons a t ih=>
  rw[slotsV]at h
  split at h
  ·rename_i h1
   intro s hs
   rcases List.mem_cons.1 hs with rfl|hs
   ·rw[slotV]at h1
    split at h1
    ·cases h1
    ·split at h1
     ·cases h1
     ·rename_i h2
      have:stOk s.2=true:=by simpa using h2
      simpa [stOk]using this
   ·exact ih h s hs
  ·rename_i h1
   exact absurd h h1
theorem or_zero{a b:Int}(h:orV a b=0):a=0∧b=0:=by
 unfold orV at h
 split at h
 ·rename_i h1;exact⟨h1,h⟩
 ·rename_i h1;exact absurd h h1
theorem pf_plan(P:Plc)(h:pfV P=0):P.plan.length≤8∧∀j,j<P.plan.length→1≤(P.plan.getD j (0,0)).2∧(P.plan.getD j (0,0)).2≤50:=by
 have h6:g6V P=0:=(or_zero (or_zero (or_zero h).2).2).2
 unfold g6V at h6
 split at h6
 ·cases h6
 ·rename_i h1
  exact⟨by omega,fun j hj=>slots_ok _ _ h6 _ (getD_mem P.plan (0,0) j hj)⟩
theorem rd_bound(P:Plc)(h:pfV P=0):∀j,j≤P.plan.length→0≤rdV (P.plan.take j)∧rdV (P.plan.take j)≤50*j:=by
 intro j
 induction j with
 |zero=>intro _;simp[rdV]
 |succ j ih=>
  intro hj
  have h1:=ih (by omega)
  have h2:=(pf_plan P h).2 j (by omega)
  rw[rdV_take P.plan j (by omega)]
  omega
def rR(P:Plc):Int×Int:=if pfV P=0 then(0,rdV P.plan)else(pfV P,0)
theorem i_roundOf(a0 a1 a2 a3:Option Addr)(n0 c0 n1 c1 n2 c2 n3 c3:Nat)(P:Plc)(w:World)(h:Pl w a0 n0 c0 a1 n1 c1 a2 n2 c2 a3 n3 c3 P)(hg:w.cell? ⟨0,0,none⟩=some (.iface 240 (.agg #[.pointer (some ⟨2,134,none⟩)]))):
  Calls Tryz.prog 42 #[.agg #[.slice a0 n0 c0,.slice a1 n1 c1,.slice a2 n2 c2,.slice a3 n3 c3]] w fun e w'=>e=.returned (.agg #[.int .i64 (rR P).1,.int .i64 (rR P).2])∧Below w.heap.size w w':=by
 generalize hW:((w.alloc (.cells #[.slice a0 n0 c0,.slice a1 n1 c1,.slice a2 n2 c2,.slice a3 n3 c3] 29))).alloc (.cells #[.int .i64 0,.int .i64 0] 116)=W
 have B0:Hid (Below w.heap.size w W):=by show Below _ _ _;rw[←hW];exact al (al (Below.refl _ _) _) _
 obtain⟨s,hS⟩:∃s,w.heap.size=s:=⟨_,rfl⟩
 have HSs:=hid hS
 have Q:Hid (W.cell? ⟨s,0,none⟩=some (.slice a0 n0 c0)∧W.cell? ⟨s,1,none⟩=some (.slice a1 n1 c1)∧W.cell? ⟨s,2,none⟩=some (.slice a2 n2 c2)∧W.cell? ⟨s,3,none⟩=some (.slice a3 n3 c3)):=by
  show _∧_
  rw[←hW,←hS]
  exact⟨cell_push _ (cell_new rfl),cell_push _ (cell_new rfl),cell_push _ (cell_new rfl),cell_push _ (cell_new rfl)⟩
 have R:Hid (Rs W s):=by
  have z1:s+1=((w.alloc (.cells #[.slice a0 n0 c0,.slice a1 n1 c1,.slice a2 n2 c2,.slice a3 n3 c3] 29))).heap.size:=by rw[←hS];simp
  show Rs W s
  unfold Rs
  rw[←hW,z1]
  exact⟨cell_new rfl,cell_new rfl,fz_new _ _ _ _,fz_new _ _ _ _,by simp⟩
 have HP:=hid (h.stay B0.out)
 have HA:Hid (PolAt W s P):=⟨_,_,_,_,_,_,_,_,_,_,_,_,Q.out.1,Q.out.2.1,Q.out.2.2.1,Q.out.2.2.2,HP.out⟩
 have HG:Hid (W.cell? ⟨0,0,none⟩=some (.iface 240 (.agg #[.pointer (some ⟨2,134,none⟩)]))):=cell_keep B0.out hg
 clear h hg
 have q0:=Q.out.1
 have q1:=Q.out.2.1
 have q2:=Q.out.2.2.1
 have q3:=Q.out.2.2.2
 go_enter Tryz.func42,Tryz.ntmps42
 go_wp2_with fail
 clear hW hS
 refine(impl_policy _ _ _ _ _ _ _ _ _ _ _ _ P _ HP.out HG.out).mono ?_
 rintro e w1⟨rfl,b1⟩
 have R1:=hid (R.out.keep b1)
 by_cases hz:pfV P=0
 ·have RV:rR P=(0,rdV P.plan):=by rw[rR,if_pos hz]
  have HRV:Hid (rR P=(0,rdV P.plan)):=RV
  have PZ:=hid hz
  rw[hz]
  have HPw:=hid (HP.out.stay b1)
  have HL3:Hid (n3=P.plan.length):=HPw.out.plan.len
  have BD:Hid (∀j,j≤P.plan.length→0≤rdV (P.plan.take j)∧rdV (P.plan.take j)≤50*j):=rd_bound P PZ.out
  have L8:Hid (P.plan.length≤8):=(pf_plan P PZ.out).1
  have ST8:Hid (∀j,j<P.plan.length→1≤(P.plan.getD j (0,0)).2∧(P.plan.getD j (0,0)).2≤50):=(pf_plan P PZ.out).2
  have hmax3:(n3:Int)≤9223372036854775807:=by have:=L8.out;have:=HL3.out;omega
  have q3:=cell_keep b1 Q.out.2.2.2
  have B1:=hid (on B0.out b1)
  clear b1
  clear hz RV
  go_wp2_with fail
  clear q3
  go_loopw [4,16] (fun u c wr=>∃j:Nat,j≤n3∧c=.int .i64 j∧u=.int .i64 (rdV (P.plan.take j))∧Below w1.heap.size w1 wr) (fun _ c _=>n3-(intOf c).toNat)
  case atStart=>exact⟨0,Nat.zero_le _,rfl,by simp[rdV],Below.refl _ _⟩
  case round=>
   obtain⟨j,hj,rfl,rfl,hB⟩:=hrel
   have HB:=hid hB
   by_cases hlt:j<n3
   ·obtain⟨x,rfl,k0,k1⟩:=(HPw.out.plan.stay hB).at j hlt
    have hJ:(j:Int)<(n3:Int):=by omega
    have HLT:=hid hlt
    have TK:Hid (_=_):=rdV_take P.plan j (by have:=HL3.out;omega)
    have bd:=BD.out j (by have:=HL3.out;omega)
    have st:=ST8.out j (by have:=HL3.out;omega)
    have l8:=L8.out
    have bd0:=bd.1
    have bd1:rdV (P.plan.take j)≤400:=by have:=HL3.out;omega
    have st0:=st.1
    have st1:=st.2
    obtain⟨⟨g,t⟩,hL⟩:∃L,P.plan.getD j (0,0)=L:=⟨_,rfl⟩
    rw[hL]at k0 k1 TK st0 st1
    simp only at k0 k1 TK st0 st1
    clear hL hlt bd st l8 hB
    generalize hsum:rdV (P.plan.take j)=sm at*
    clear hsum
    go_wp2_with fail
    go_roundw
    case rel=>exact⟨j+1,by have:=HLT.out;omega,by go_num,by rw[TK.out],al HB.out _⟩
    case measure=>have:=HLT.out;simp[intOf];omega
   ·have hJ:¬(j:Int)<(n3:Int):=by omega
    have HJ:Hid (j=n3):=by show _=_;omega
    obtain⟨r0,r1,f0,f1,_⟩:=R1.out.keep hB
    clear hlt hB
    have EV:Hid (rdV (P.plan.take j)=rdV P.plan):=by show _=_;rw[List.take_of_length_le (by have:=HL3.out;have:=HJ.out;omega)]
    rw[EV.out]
    have RV:=HRV.out
    generalize rdV P.plan=sm at*
    go_wp2_with fail
    exact bodyPost_ret (v:=.agg #[.int .i64 0,.int .i64 sm]) (by simp[results,Tryz.results42,go_sem,r0,r1]) rfl ⟨by first|rfl|rw[RV],((on B1.out HB.out).setCell (by have:=HSs.out;show w.heap.size≤s+1;omega) _).setCell (by have:=HSs.out;show w.heap.size≤s+1;omega) _⟩
 ·have RV:rR P=(pfV P,0):=by rw[rR,if_neg hz]
  obtain⟨r0,r1,f0,f1,_⟩:=R1.out
  generalize hv:pfV P=v at*
  go_wp2_with fail
  exact bodyPost_ret (v:=.agg #[.int .i64 v,.int .i64 0]) (by simp[results,Tryz.results42,go_sem,r0,r1]) rfl ⟨by first|rfl|rw[RV],((on B0.out b1).setCell (by have:=HSs.out;show w.heap.size≤s+1;omega) _).setCell (by have:=HSs.out;show w.heap.size≤s+1;omega) _⟩
end Go.Proofs.YtignbeibcakgpaaGreatDoor
