import Derived.Test.YtaefollmeoepkaaGreatDoorQ06
import Derived.Test.YtaefollmeoepkaaGreatDoorQ07
namespace Go.Proofs.YtaefollmeoepkaaGreatDoor
set_option maxRecDepth 20000
set_option maxHeartbeats 16000000
open Go.RowKit
set_option linter.unusedVariables false
theorem ret_b{a b:Bool}(h:a=b):Ending.returned (.bool a)=.returned (.bool b):=by rw[h]
theorem i_words(a:Option Addr)(n cap:Nat)(zs:List Int)(w:World)(h:Rn w a n cap zs):
  Calls Tryz.prog 29 #[.slice a n cap] w fun e w'=>e=.returned (.bool (zs.all isW))∧w'=w:=by
 have HN:Hid (n=zs.length):=h.len
 have HZ:=hid h
 have hl:(n:Int)≤9223372036854775807:=by have:=h.cap;unfold maxLen at this;omega
 clear h
 go_enter Tryz.func29,Tryz.ntmps29
 go_wp2_with fail
 go_loop [4,7] (fun _ i=>∃j:Nat,j≤n∧i=.int .i64 j∧Hid ((zs.take j).all isW=true)) (fun _ i=>n-(intOf i).toNat)
 case atStart=>exact⟨0,Nat.zero_le _,rfl,rfl⟩
 case round=>
  obtain⟨j,hj,rfl,hA⟩:=hrel
  by_cases hlt:j<n
  ·obtain⟨x,rfl,c1⟩:=HZ.out.at j hlt
   have hJ:(j:Int)<(n:Int):=by omega
   have HL:Hid (j<zs.length):=by show _<_;have:=HN.out;omega
   obtain⟨z,hz⟩:∃z,zs.getD j 0=z:=⟨_,rfl⟩
   rw[hz]at c1
   have HZZ:=hid hz
   clear hz hlt
   cases hw:isW z
   ·have HW:Hid (isW z=false):=hw
    go_wp2_with (go_at_call 31;refine(impl_isWord _ _).mono ?_;rintro e x ⟨rfl,rfl⟩;rw[hw])
    go_ret
    exact⟨ret_b (all_not zs j HL.out (by rw[HZZ.out];exact HW.out)).symm,rfl⟩
   ·have HW:Hid (isW z=true):=hw
    go_wp2_with (go_at_call 31;refine(impl_isWord _ _).mono ?_;rintro e x ⟨rfl,rfl⟩;rw[hw])
    go_round
    case rel=>exact⟨j+1,by have:=HL.out;have:=HN.out;omega,by go_num,by show _=_;rw[all_take zs j HL.out,hA.out,HZZ.out,HW.out];rfl⟩
    case measure=>have:=HL.out;have:=HN.out;simp[intOf];omega
  ·have hJ:¬(j:Int)<(n:Int):=by omega
   obtain rfl:j=n:=by omega
   go_wp2_with fail
   go_ret
   exact⟨ret_b (by have:=hA.out;rw[List.take_of_length_le (Nat.le_of_eq HN.out.symm)]at this;exact this.symm),rfl⟩
theorem s_word(z:Int)(w:World):Calls Tryz.prog 97 #[.int .i64 z] w fun e w'=>e=.returned (.bool (isW z))∧w'=w:=by
 have hw:(decide (0≤z)&&decide (z≤4294967295))=isW z:=rfl
 go_enter Tryz.func97,Tryz.ntmps97
 go_wp2_with (go_at_call 38;refine(spec_in _ _ _ _).mono ?_;rintro e x ⟨rfl,rfl⟩;rw[hw])
 go_ret
 exact⟨rfl,rfl⟩
theorem s_words(a:Option Addr)(n cap:Nat)(zs:List Int)(w:World)(h:Rn w a n cap zs):
  Calls Tryz.prog 96 #[.slice a n cap] w fun e w'=>e=.returned (.bool (zs.all isW))∧w'=w:=by
 have HN:Hid (n=zs.length):=h.len
 have HZ:=hid h
 have hl:(n:Int)≤9223372036854775807:=by have:=h.cap;unfold maxLen at this;omega
 clear h
 go_enter Tryz.func96,Tryz.ntmps96
 go_wp2_with fail
 go_loop [3] (fun i=>∃j:Nat,j≤n∧i=.int .i64 j∧Hid ((zs.take j).all isW=true)) (fun i=>n-(intOf i).toNat)
 case atStart=>exact⟨0,Nat.zero_le _,rfl,rfl⟩
 case round=>
  obtain⟨j,hj,rfl,hA⟩:=hrel
  by_cases hlt:j<n
  ·obtain⟨x,rfl,c1⟩:=HZ.out.at j hlt
   have hJ:(j:Int)<(n:Int):=by omega
   have HL:Hid (j<zs.length):=by show _<_;have:=HN.out;omega
   obtain⟨z,hz⟩:∃z,zs.getD j 0=z:=⟨_,rfl⟩
   rw[hz]at c1
   have HZZ:=hid hz
   clear hz hlt
   cases hw:isW z
   ·have HW:Hid (isW z=false):=hw
    go_wp2_with (go_at_call 97;refine(s_word _ _).mono ?_;rintro e x ⟨rfl,rfl⟩;rw[hw])
    go_ret
    exact⟨ret_b (all_not zs j HL.out (by rw[HZZ.out];exact HW.out)).symm,rfl⟩
   ·have HW:Hid (isW z=true):=hw
    go_wp2_with (go_at_call 97;refine(s_word _ _).mono ?_;rintro e x ⟨rfl,rfl⟩;rw[hw])
    go_round
    case rel=>exact⟨j+1,by have:=HL.out;have:=HN.out;omega,by go_num,by show _=_;rw[all_take zs j HL.out,hA.out,HZZ.out,HW.out];rfl⟩
    case measure=>have:=HL.out;have:=HN.out;simp[intOf];omega
  ·have hJ:¬(j:Int)<(n:Int):=by omega
   obtain rfl:j=n:=by omega
   go_wp2_with fail
   go_ret
   exact⟨ret_b (by have:=hA.out;rw[List.take_of_length_le (Nat.le_of_eq HN.out.symm)]at this;exact this.symm),rfl⟩
theorem stand_tmod(z m:Int)(h:0≤z):z.tmod m=z%m:=Int.tmod_eq_emod_of_nonneg h
theorem i_stand(k z:Int)(w:World)(hz:0≤z)(hz2:z≤4294967295):
  Calls Tryz.prog 65 #[.int .i64 k,.int .i64 z] w fun e w'=>e=.returned (.int .i64 (standV k z))∧w'=w:=by
 have t4:=stand_tmod z 4 hz
 have t8:=stand_tmod z 8 hz
 by_cases h0:k=0
 ·subst h0
  go_enter Tryz.func65,Tryz.ntmps65
  go_wp2_with fail
  go_ret
  exact⟨by simp[standV],rfl⟩
 by_cases h7:k=7
 ·subst h7
  go_enter Tryz.func65,Tryz.ntmps65
  go_wp2_with fail
  go_ret
  exact⟨by simp[standV],rfl⟩
 by_cases h10:k=10
 ·subst h10
  by_cases h8:8<z
  ·go_enter Tryz.func65,Tryz.ntmps65
   go_wp2_with fail
   go_ret
   exact⟨by simp[standV,h8],rfl⟩
  ·go_enter Tryz.func65,Tryz.ntmps65
   go_wp2_with fail
   go_ret
   exact⟨ret_i (by unfold standV;rw[if_neg (by decide),if_neg (by decide),if_pos rfl,if_neg (by omega)]),rfl⟩
 by_cases h6:k=6
 ·subst h6
  go_enter Tryz.func65,Tryz.ntmps65
  go_wp2_with fail
  go_ret
  exact⟨by simp[standV],rfl⟩
 by_cases h8:k=8
 ·subst h8
  go_enter Tryz.func65,Tryz.ntmps65
  go_wp2_with fail
  go_ret
  exact⟨by simp[standV],rfl⟩
 have hv:standV k z=z:=by simp[standV,h0,h7,h10,h6,h8]
 rw[hv]
 clear hv
 go_enter Tryz.func65,Tryz.ntmps65
 go_wp2_with fail
 go_ret
 exact⟨rfl,rfl⟩
theorem i_allStand(x:Addr)(cap:Nat)(zs:List Int)(w:World)(h:Rn w (some x) 11 cap zs)(hw:zs.all isW=true):
  Calls Tryz.prog 30 #[.slice (some x) 11 cap] w fun e w'=>e=.returned (.bool (standC zs))∧w'=w:=by
 have HN:Hid (zs.length=11):=h.len.symm
 have HZ:=hid h
 have HW:=hid hw
 have HC:Hid ((∀k:Nat,k<11→standV k (zs.getD k 0)=zs.getD k 0)↔standC zs=true):=stand_all hw h.len.symm
 clear h hw
 go_enter Tryz.func30,Tryz.ntmps30
 go_wp2_with fail
 go_loop [3,4,7] (fun _ _ i=>∃j:Nat,j≤11∧i=.int .i64 j∧Hid (∀k:Nat,k<j→standV k (zs.getD k 0)=zs.getD k 0)) (fun _ _ i=>11-(intOf i).toNat)
 case atStart=>exact⟨0,Nat.zero_le _,rfl,fun k hk=>absurd hk (Nat.not_lt_zero _)⟩
 case round=>
  obtain⟨j,hj,rfl,hA⟩:=hrel
  by_cases hlt:j<11
  ·obtain⟨x',e,c1⟩:=HZ.out.at j hlt
   cases e
   have hJ:(j:Int)<11:=by omega
   have HL:=hid hlt
   have ha:=all_at HW.out j
   obtain⟨z,hz⟩:∃z,zs.getD j 0=z:=⟨_,rfl⟩
   rw[hz]at c1 ha
   have HA:=hid ha
   have HZZ:=hid hz
   obtain⟨u,hu⟩:∃u,standV (j:Int) z=u:=⟨_,rfl⟩
   have HU:=hid hu
   clear hz hlt ha hu
   by_cases hs:u=z
   ·have HS:Hid (u=z):=hs
    subst hs
    go_wp2_with (go_at_call 65;refine(i_stand _ _ _ HA.out.1 HA.out.2).mono ?_;rintro e x ⟨rfl,rfl⟩;rw[HU.out])
    go_round
    case rel=>exact⟨j+1,by have:=HL.out;omega,by go_num,fun k hk=>by
     by_cases e:k=j
     ·subst e;rw[HZZ.out];exact HU.out
     ·exact hA.out k (by omega)⟩
    case measure=>have:=HL.out;simp[intOf];omega
   ·have HS:Hid (¬u=z):=hs
    go_wp2_with (go_at_call 65;refine(i_stand _ _ _ HA.out.1 HA.out.2).mono ?_;rintro e x ⟨rfl,rfl⟩;rw[HU.out])
    go_ret
    refine⟨?_,rfl⟩
    cases hc:standC zs
    ·rfl
    ·exact absurd (HU.out.symm.trans (by have:=HC.out.2 hc j HL.out;rw[HZZ.out]at this;exact this)) HS.out
  ·have hJ:¬(j:Int)<11:=by omega
   obtain rfl:j=11:=by omega
   go_wp2_with fail
   go_ret
   exact⟨ret_b (HC.out.1 hA.out).symm,rfl⟩
end Go.Proofs.YtaefollmeoepkaaGreatDoor
