import Derived.Test.YtignbeibcakgpaaGreatDoorQ10
import Derived.Test.YtignbeibcakgpaaGreatDoorQ18
namespace Go.Proofs.YtignbeibcakgpaaGreatDoor
set_option maxRecDepth 20000
set_option maxHeartbeats 16000000
open Go.RowKit
set_option linter.unusedVariables false
theorem IsRow.lens{k:IntKind}{w:World}{a:Option Addr}{len cap:Nat}{zs:List Int}(h:IsRow k w a len cap zs):len=zs.length∧len≤9223372036854775807:=by
 rcases h with⟨_,h1,_,rfl⟩|⟨x,_,h1,h2,h3,_⟩
 ·exact⟨by simpa using h1,by omega⟩
 ·exact⟨h3.symm,by unfold maxLen at h2;omega⟩
theorem info_sl:(Tryz.prog.info? 32).map (fun i=>(i.zero,i.size,i.bytes))=some (some (.slice none 0 0),1,24):=by kernel_rfl
theorem i_guests(a0 a1 a2 a3:Option Addr)(n0 c0 n1 c1 n2 c2 n3 c3:Nat)(P:Plc)(w:World)(h:Pl w a0 n0 c0 a1 n1 c1 a2 n2 c2 a3 n3 c3 P):
  Calls Tryz.prog 75 #[.agg #[.slice a0 n0 c0,.slice a1 n1 c1,.slice a2 n2 c2,.slice a3 n3 c3]] w fun e w'=>e=.returned (errV (g1V P.own))∧Below w.heap.size w w':=by
 have HL:Hid (n0=P.own.length):=h.own.len
 have HO:Hid (IsS2 (w.alloc (.cells #[.slice a0 n0 c0,.slice a1 n1 c1,.slice a2 n2 c2,.slice a3 n3 c3] 29)) a0 n0 c0 P.own):=h.own.stay (al (Below.refl _ _) _)
 have hmax:(n0:Int)≤9223372036854775807:=by have:=h.own.cap;unfold maxLen at this;omega
 have HB:Hid (Below w.heap.size w (w.alloc (.cells #[.slice a0 n0 c0,.slice a1 n1 c1,.slice a2 n2 c2,.slice a3 n3 c3] 29))):=al (Below.refl _ _) _
 clear h
 by_cases hn:n0<1
 ·have hb:(n0:Int)<1:=by omega
  have E:Hid (g1V P.own=2):=by show _=_;have:=HL.out;rw[g1V,if_pos (.inl (by omega))]
  clear hn
  go_enter Tryz.func75,Tryz.ntmps75
  go_wp2_with fail
  go_ret
  rw[E.out]
  exact⟨rfl,HB.out⟩
 by_cases hm:3<n0
 ·have hb:¬(n0:Int)<1:=by omega
  have hb2:(3:Int)<n0:=by omega
  have E:Hid (g1V P.own=2):=by show _=_;have:=HL.out;rw[g1V,if_pos (.inr (by omega))]
  clear hn hm
  go_enter Tryz.func75,Tryz.ntmps75
  go_wp2_with fail
  go_ret
  rw[E.out]
  exact⟨rfl,HB.out⟩
 have E:Hid (g1V P.own=guestsV P.own):=by show _=_;have:=HL.out;rw[g1V,if_neg (by omega)]
 have hb:¬(n0:Int)<1:=by omega
 have hb2:¬(3:Int)<n0:=by omega
 clear hn hm
 go_enter Tryz.func75,Tryz.ntmps75
 go_wp2_with fail
 generalize (w.alloc (.cells #[.slice a0 n0 c0,.slice a1 n1 c1,.slice a2 n2 c2,.slice a3 n3 c3] 29))=W1 at*
 go_loop [22] (fun c=>∃j:Nat,j≤n0∧c=.int .i64 j∧Hid (guestsV P.own=guestsV (P.own.drop j))) (fun c=>n0-(intOf c).toNat)
 case atStart=>exact⟨0,Nat.zero_le _,rfl,by show _=_;simp⟩
 case round=>
  obtain⟨j,hj,rfl,hI⟩:=hrel
  by_cases hlt:j<n0
  ·obtain⟨x,b,l,c,rfl,k1,k2⟩:=HO.out.at j hlt
   have HN:Hid (IsNs W1 b l c _):=k2
   have HNL:Hid (l=(P.own.getD j []).length):=k2.len
   have hlmax:(l:Int)≤9223372036854775807:=by have:=k2.cap;unfold maxLen at this;omega
   have hJ:(j:Int)<(n0:Int):=by omega
   have HLT:=hid hlt
   have ST:Hid (_=_):=guests_step P.own j (by have:=HL.out;omega)
   clear k2 hlt
   by_cases hl1:l<1
   ·have hi1:(l:Int)<1:=by omega
    have HL1:=hid hl1
    clear hl1
    go_wp2_with fail
    go_ret
    rw[E.out,hI.out,ST.out,if_pos (.inl (by have:=HL1.out;have:=HNL.out;omega))]
    exact⟨rfl,HB.out⟩
   by_cases hl5:5<l
   ·have hi1:¬(l:Int)<1:=by omega
    have hi2:(5:Int)<l:=by omega
    have HL1:=hid hl5
    clear hl1 hl5
    go_wp2_with fail
    go_ret
    rw[E.out,hI.out,ST.out,if_pos (.inr (by have:=HL1.out;have:=HNL.out;omega))]
    exact⟨rfl,HB.out⟩
   have hi1:¬(l:Int)<1:=by omega
   have hi2:¬(5:Int)<l:=by omega
   have ST2:Hid (guestsV (P.own.drop j)=if(P.own.getD j []).all pgOk=false then 3 else guestsV (P.own.drop (j+1))):=by
    show _=_
    rw[ST.out,if_neg (by have:=HNL.out;omega)]
   clear hl1 hl5 ST
   go_wp2_with fail
   go_loop [38] (fun c=>∃k:Nat,k≤l∧c=.int .i64 k∧Hid ((P.own.getD j []).all pgOk=((P.own.getD j []).drop k).all pgOk)) (fun c=>l-(intOf c).toNat)
   case atStart=>exact⟨0,Nat.zero_le _,rfl,by show _=_;simp⟩
   case round=>
    obtain⟨k,hk,rfl,hK⟩:=hrel
    by_cases hkl:k<l
    ·rcases HN.out with⟨_,h1,_,_⟩|⟨y,rfl,h1,h2,h3,h4⟩
     ·omega
     have d0:=h4 k hkl
     have hK1:(k:Int)<(l:Int):=by omega
     have HKL:=hid hkl
     have SA:Hid (_=_):=all_step (P.own.getD j []) pgOk k (by have:=HNL.out;omega)
     clear h1 h2 h3 h4 hkl
     generalize hz:(P.own.getD j []).getD k 0=z at*
     clear hz
     by_cases hp:pgOk z=true
     ·have HP:Hid (pgOk z=true):=hp
      go_wp2_with (go_at_call 105;refine(i_hostPage _ _).mono ?_;rintro e x ⟨rfl,rfl⟩;rw[hp])
      go_round
      case rel=>exact⟨k+1,by have:=HKL.out;omega,by go_num,by show _=_;rw[hK.out,SA.out,HP.out,Bool.true_and]⟩
      case measure=>have:=HKL.out;simp[intOf];omega
     ·rw[Bool.not_eq_true]at hp
      have HP:Hid (pgOk z=false):=hp
      go_wp2_with (go_at_call 105;refine(i_hostPage _ _).mono ?_;rintro e x ⟨rfl,rfl⟩;rw[hp])
      go_ret
      rw[E.out,hI.out,ST2.out,if_pos (by rw[hK.out,SA.out,HP.out,Bool.false_and])]
      exact⟨rfl,HB.out⟩
    ·have hK1:¬(k:Int)<(l:Int):=by omega
     have HKL:Hid (k=l):=by show _=_;omega
     clear hkl
     go_wp2_with fail
     go_round
     case rel=>
      refine⟨j+1,by have:=HLT.out;omega,by go_num,?_⟩
      show _=_
      rw[hI.out,ST2.out,if_neg]
      rw[hK.out,List.drop_of_length_le (by have:=HKL.out;have:=HNL.out;omega)]
      simp
     case measure=>have:=HLT.out;simp[intOf];omega
  ·have hJ:¬(j:Int)<(n0:Int):=by omega
   have G0:Hid (g1V P.own=0):=by
    show _=_
    rw[E.out,hI.out,List.drop_of_length_le (by have:=HL.out;omega)]
    rfl
   clear hlt
   go_wp2_with fail
   go_ret
   rw[G0.out]
   exact⟨rfl,HB.out⟩
theorem i_links(a0 a1 a2 a3:Option Addr)(n0 c0 n1 c1 n2 c2 n3 c3:Nat)(P:Plc)(w:World)(h:Pl w a0 n0 c0 a1 n1 c1 a2 n2 c2 a3 n3 c3 P):
  Calls Tryz.prog 77 #[.agg #[.slice a0 n0 c0,.slice a1 n1 c1,.slice a2 n2 c2,.slice a3 n3 c3]] w fun e w'=>e=.returned (errV (g3V P))∧Below w.heap.size w w':=by
 have HL1:Hid (n1=P.lanes.length):=h.lanes.len
 have HL2:Hid (n2=P.bells.length):=h.bells.len
 have hmax:(n1:Int)≤9223372036854775807:=by have:=h.lanes.cap;unfold maxLen at this;omega
 have hmax2:(n2:Int)≤9223372036854775807:=by have:=h.bells.cap;unfold maxLen at this;omega
 clear h
 by_cases hn:4<n1
 ·have hb:(4:Int)<n1:=by omega
  have E:Hid (g3V P=2):=by show _=_;have:=HL1.out;rw[g3V,if_pos (.inl (by omega))]
  clear hn
  go_enter Tryz.func77,Tryz.ntmps77
  go_wp2_with fail
  go_ret
  rw[E.out]
  exact⟨rfl,al (Below.refl _ _) _⟩
 by_cases hm:4<n2
 ·have hb:¬(4:Int)<n1:=by omega
  have hb2:(4:Int)<n2:=by omega
  have E:Hid (g3V P=2):=by show _=_;have:=HL2.out;rw[g3V,if_pos (.inr (by omega))]
  clear hn hm
  go_enter Tryz.func77,Tryz.ntmps77
  go_wp2_with fail
  go_ret
  rw[E.out]
  exact⟨rfl,al (Below.refl _ _) _⟩
 have E:Hid (g3V P=0):=by show _=_;have:=HL1.out;have:=HL2.out;rw[g3V,if_neg (by omega)]
 have hb:¬(4:Int)<n1:=by omega
 have hb2:¬(4:Int)<n2:=by omega
 clear hn hm
 go_enter Tryz.func77,Tryz.ntmps77
 go_wp2_with fail
 go_ret
 rw[E.out]
 exact⟨rfl,al (Below.refl _ _) _⟩
theorem i_plan(a0 a1 a2 a3:Option Addr)(n0 c0 n1 c1 n2 c2 n3 c3:Nat)(P:Plc)(w:World)(h:Pl w a0 n0 c0 a1 n1 c1 a2 n2 c2 a3 n3 c3 P):
  Calls Tryz.prog 80 #[.agg #[.slice a0 n0 c0,.slice a1 n1 c1,.slice a2 n2 c2,.slice a3 n3 c3]] w fun e w'=>e=.returned (errV (g6V P))∧Below w.heap.size w w':=by
 have HL0:Hid (n0=P.own.length):=h.own.len
 have HL3:Hid (n3=P.plan.length):=h.plan.len
 have HPl:Hid (IsPairs (w.alloc (.cells #[.slice a0 n0 c0,.slice a1 n1 c1,.slice a2 n2 c2,.slice a3 n3 c3] 29)) a3 n3 c3 P.plan):=h.plan.stay (al (Below.refl _ _) _)
 have hmax3:(n3:Int)≤9223372036854775807:=by have:=h.plan.cap;unfold maxLen at this;omega
 have HM0:Hid ((n0:Int)≤9223372036854775807):=by have:=h.own.cap;show _≤_;unfold maxLen at this;omega
 have HB1:Hid (Below w.heap.size w (w.alloc (.cells #[.slice a0 n0 c0,.slice a1 n1 c1,.slice a2 n2 c2,.slice a3 n3 c3] 29))):=al (Below.refl _ _) _
 have Q:Hid (((w.alloc (.cells #[.slice a0 n0 c0,.slice a1 n1 c1,.slice a2 n2 c2,.slice a3 n3 c3] 29))).cell? ⟨w.heap.size,0,none⟩=some (.slice a0 n0 c0)∧((w.alloc (.cells #[.slice a0 n0 c0,.slice a1 n1 c1,.slice a2 n2 c2,.slice a3 n3 c3] 29))).cell? ⟨w.heap.size,1,none⟩=some (.slice a1 n1 c1)∧((w.alloc (.cells #[.slice a0 n0 c0,.slice a1 n1 c1,.slice a2 n2 c2,.slice a3 n3 c3] 29))).cell? ⟨w.heap.size,2,none⟩=some (.slice a2 n2 c2)∧((w.alloc (.cells #[.slice a0 n0 c0,.slice a1 n1 c1,.slice a2 n2 c2,.slice a3 n3 c3] 29))).cell? ⟨w.heap.size,3,none⟩=some (.slice a3 n3 c3)):=⟨cell_new rfl,cell_new rfl,cell_new rfl,cell_new rfl⟩
 clear h
 by_cases hn:n3<1
 ·have hb:(n3:Int)<1:=by omega
  have E:Hid (g6V P=2):=by show _=_;have:=HL3.out;rw[g6V,if_pos (.inl (by omega))]
  clear hn
  go_enter Tryz.func80,Tryz.ntmps80
  go_wp2_with fail
  go_ret
  rw[E.out]
  exact⟨rfl,HB1.out⟩
 by_cases hm:8<n3
 ·have hb:¬(n3:Int)<1:=by omega
  have hb2:(8:Int)<n3:=by omega
  have E:Hid (g6V P=2):=by show _=_;have:=HL3.out;rw[g6V,if_pos (.inr (by omega))]
  clear hn hm
  go_enter Tryz.func80,Tryz.ntmps80
  go_wp2_with fail
  go_ret
  rw[E.out]
  exact⟨rfl,HB1.out⟩
 have E:Hid (g6V P=slotsV n0 P.plan):=by show _=_;have:=HL3.out;rw[g6V,if_neg (by omega),HL0.out]
 have hb:¬(n3:Int)<1:=by omega
 have hb2:¬(8:Int)<n3:=by omega
 clear hn hm
 go_enter Tryz.func80,Tryz.ntmps80
 go_wp2_with fail
 generalize (w.alloc (.cells #[.slice a0 n0 c0,.slice a1 n1 c1,.slice a2 n2 c2,.slice a3 n3 c3] 29))=W1 at*
 obtain⟨B0,hB0⟩:∃B0,w.heap.size=B0:=⟨_,rfl⟩
 rw[hB0]at Q ⊢
 clear hB0
 go_loopw [20] (fun c wr=>∃i:Nat,i≤n3∧c=.int .i64 i∧Below W1.heap.size W1 wr∧Hid (slotsV n0 P.plan=slotsV n0 (P.plan.drop i))) (fun c _=>n3-(intOf c).toNat)
 case atStart=>exact⟨0,Nat.zero_le _,rfl,Below.refl _ _,by show _=_;simp⟩
 case round=>
  obtain⟨i,hi,rfl,hB,hS⟩:=hrel
  have HB:=hid hB
  have q0:=cell_keep hB Q.out.1
  have q1:=cell_keep hB Q.out.2.1
  have q2:=cell_keep hB Q.out.2.2.1
  have q3:=cell_keep hB Q.out.2.2.2
  have bB:B0<wr.heap.size:=block_of_cell q0
  have HBw:=hid (on HB1.out hB)
  by_cases hlt:i<n3
  ·obtain⟨x,rfl,k0,k1⟩:=(HPl.out.stay hB).at i hlt
   have hJ:(i:Int)<(n3:Int):=by omega
   have HLT:=hid hlt
   have SS:Hid (_=_):=slots_step n0 P.plan i (by have:=HL3.out;omega)
   obtain⟨⟨g,s⟩,hL⟩:∃L,P.plan.getD i (0,0)=L:=⟨_,rfl⟩
   rw[hL]at k0 k1 SS
   simp only at k0 k1
   clear hL hlt hB
   by_cases hg:isG n0 g=false
   ·have RV3:Hid (g6V P=4):=by
     show _=_
     have e:slotV n0 (g,s)=4:=by rw[slotV,if_pos hg]
     rw[E.out,hS.out,SS.out,e,if_neg (by decide)]
    go_wp2_with (go_at_call 26;refine(i_guest _ _ _ _ _ _ _ _ _ _ _ _ _ _ HM0.out).mono ?_;rintro e wx ⟨rfl,rfl⟩;rw[hg])
    go_ret
    rw[RV3.out]
    exact⟨rfl,al (al HBw.out _) _⟩
   rw[Bool.not_eq_false]at hg
   by_cases hs1:s<1
   ·have RV3:Hid (g6V P=3):=by
     show _=_
     have e:slotV n0 (g,s)=3:=by rw[slotV,if_neg (by rw[hg];simp),if_pos (by simp[stOk];omega)]
     rw[E.out,hS.out,SS.out,e,if_neg (by decide)]
    go_wp2_with (go_at_call 26;refine(i_guest _ _ _ _ _ _ _ _ _ _ _ _ _ _ HM0.out).mono ?_;rintro e wx ⟨rfl,rfl⟩;rw[hg])
    go_ret
    rw[RV3.out]
    exact⟨rfl,al (al HBw.out _) _⟩
   by_cases hs2:50<s
   ·have RV3:Hid (g6V P=3):=by
     show _=_
     have e:slotV n0 (g,s)=3:=by rw[slotV,if_neg (by rw[hg];simp),if_pos (by simp[stOk];omega)]
     rw[E.out,hS.out,SS.out,e,if_neg (by decide)]
    go_wp2_with (go_at_call 26;refine(i_guest _ _ _ _ _ _ _ _ _ _ _ _ _ _ HM0.out).mono ?_;rintro e wx ⟨rfl,rfl⟩;rw[hg])
    go_ret
    rw[RV3.out]
    exact⟨rfl,al (al HBw.out _) _⟩
   have V5:Hid (slotV n0 (g,s)=0):=by show _=_;rw[slotV,if_neg (by rw[hg];simp),if_neg (by simp[stOk];omega)]
   go_wp2_with (go_at_call 26;refine(i_guest _ _ _ _ _ _ _ _ _ _ _ _ _ _ HM0.out).mono ?_;rintro e wx ⟨rfl,rfl⟩;rw[hg])
   go_roundw
   case rel=>exact⟨i+1,by have:=HLT.out;omega,by go_num,al (al HB.out _) _,by show _=_;rw[hS.out,SS.out,V5.out];simp⟩
   case measure=>have:=HLT.out;simp[intOf];omega
  ·have hJ:¬(i:Int)<(n3:Int):=by omega
   have HJ:Hid (i=n3):=by show _=_;omega
   have G0:Hid (g6V P=0):=by
    show _=_
    rw[E.out,hS.out,List.drop_of_length_le (by have:=HL3.out;have:=HJ.out;omega)]
    rfl
   clear hlt hB
   go_wp2_with fail
   go_ret
   rw[G0.out]
   exact⟨rfl,HBw.out⟩
end Go.Proofs.YtignbeibcakgpaaGreatDoor
