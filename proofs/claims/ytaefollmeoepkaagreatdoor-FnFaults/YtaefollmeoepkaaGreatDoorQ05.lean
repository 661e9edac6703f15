import Derived.Test.YtaefollmeoepkaaGreatDoorQ03
import Derived.Test.YtaefollmeoepkaaGreatDoorQ04
namespace Go.Proofs.YtaefollmeoepkaaGreatDoor
set_option maxRecDepth 20000
set_option maxHeartbeats 16000000
open Go.RowKit
set_option linter.unusedVariables false
def isW(z:Int):Bool:=decide (0≤z)&&decide (z≤4294967295)
def formB(n:Nat):Bool:=decide (n%8=0∧8≤n∧n≤192)
def memV(zs:List Int):Int:=if formB zs.length then(if zs.all isW then 0 else 3)else 1
theorem isW_wd(z:Int):(wd z==z)=isW z:=by
 have h:=wd_in z
 rw[Bool.eq_iff_iff]
 simp only[isW,beq_iff_eq,Bool.and_eq_true,decide_eq_true_eq]
 constructor
 ·intro e
  rw[e]at h
  omega
 ·intro e
  unfold wd
  omega
theorem all_take(zs:List Int)(j:Nat)(h:j<zs.length):(zs.take (j+1)).all isW=((zs.take j).all isW&&isW (zs.getD j 0)):=by
 rw[List.take_succ_eq_append_getElem h,List.all_append,List.getD,List.getElem?_eq_getElem h]
 simp
theorem all_not(zs:List Int)(j:Nat)(h:j<zs.length)(hz:isW (zs.getD j 0)=false):zs.all isW=false:=by
 rw[List.getD,List.getElem?_eq_getElem h]at hz
 rw[List.all_eq_false]
 exact⟨_,List.getElem_mem h,by simpa using hz⟩
theorem impl_isWord(z:Int)(w:World):Calls Tryz.prog 31 #[.int .i64 z] w fun e w'=>e=.returned (.bool (isW z))∧w'=w:=by
 rw[←isW_wd]
 go_enter Tryz.func31,Tryz.ntmps31
 go_wp2_with (go_at_call 66;refine(impl_wrap _ _).mono ?_;rintro e x ⟨rfl,rfl⟩)
 go_ret
 exact⟨rfl,rfl⟩
theorem spec_in(z a b:Int)(w:World):Calls Tryz.prog 38 #[.int .i64 z,.int .i64 a,.int .i64 b] w fun e w'=>e=.returned (.bool (decide (a≤z)&&decide (z≤b)))∧w'=w:=by
 by_cases h:a≤z
 ·go_enter Tryz.func38,Tryz.ntmps38
  go_wp2
  go_ret
  exact⟨by simp[h],rfl⟩
 ·go_enter Tryz.func38,Tryz.ntmps38
  go_wp2
  go_ret
  exact⟨by simp;omega,rfl⟩
theorem ret_i{a b:Int}(h:a=b):Ending.returned (.int .i64 a)=.returned (.int .i64 b):=by rw[h]
variable{zs:List Int}{n:Nat}
theorem memV_form(hn:zs.length=n)(h:formB n=false):memV zs=1:=by simp[memV,hn,h]
theorem memV_not(hn:zs.length=n)(h:formB n=true)(ha:zs.all isW=false):memV zs=3:=by simp[memV,hn,h,ha]
theorem memV_ok(hn:zs.length=n)(h:formB n=true)(ha:zs.all isW=true):memV zs=0:=by simp[memV,hn,h,ha]
theorem spec_memFault(v:Value)(zs:List Int)(b:Nat)(w:World)(h:Nums w b v zs):
  Calls Tryz.prog 56 #[v] w fun e w'=>e=.returned (.int .i64 (memV zs))∧w'=w:=by
 obtain⟨a,cap,rfl,l1,l2,hg⟩:=h.shape
 have HZ:Hid (Nums w b _ zs):=h
 clear h
 obtain⟨n,hn⟩:∃n,zs.length=n:=⟨_,rfl⟩
 rw[hn]at HZ l1 hg ⊢
 have HN:=hid hn
 have hl:(n:Int)≤9223372036854775807:=by unfold maxLen at l2;omega
 clear hn l1 l2
 by_cases h1:n%8=0
 case neg=>
  have hf:Hid (formB n=false):=by show _=_;simp[formB,h1]
  have hI:¬(n:Int)%8=0:=by omega
  clear h1
  go_enter Tryz.func56,Tryz.ntmps56
  go_wp2_with fail
  go_ret
  exact⟨ret_i (memV_form HN.out hf.out).symm,rfl⟩
 have hI1:(n:Int)%8=0:=by omega
 by_cases h2:8≤n
 case neg=>
  have hf:Hid (formB n=false):=by show _=_;simp[formB,h2]
  have hI:(n:Int)<8:=by omega
  clear h1 h2
  go_enter Tryz.func56,Tryz.ntmps56
  go_wp2_with fail
  go_ret
  exact⟨ret_i (memV_form HN.out hf.out).symm,rfl⟩
 have hI2:¬(n:Int)<8:=by omega
 by_cases h3:n≤192
 case neg=>
  have hf:Hid (formB n=false):=by show _=_;simp[formB,h3]
  have hI:(192:Int)<(n:Int):=by omega
  clear h1 h2 h3
  go_enter Tryz.func56,Tryz.ntmps56
  go_wp2_with fail
  go_ret
  exact⟨ret_i (memV_form HN.out hf.out).symm,rfl⟩
 have hf:Hid (formB n=true):=by show _=_;simp[formB,h1,h2,h3]
 have hI:¬(192:Int)<(n:Int):=by omega
 obtain⟨g,rfl⟩:=hg (by omega)
 clear h1 h2 h3 hg
 go_enter Tryz.func56,Tryz.ntmps56
 go_wp2_with fail
 go_loop [3] (fun i=>∃j:Nat,j≤n∧i=.int .i64 j∧Hid ((zs.take j).all isW=true)) (fun i=>n-(intOf i).toNat)
 case atStart=>exact⟨0,Nat.zero_le _,rfl,rfl⟩
 case round=>
  obtain⟨j,hj,rfl,hA⟩:=hrel
  by_cases hlt:j<n
  ·have c1:=HZ.out.cell HN.out.symm j hlt
   have hJ:(j:Int)<(n:Int):=by omega
   have HL:Hid (j<zs.length):=by show _<_;have:=HN.out;omega
   obtain⟨z,hz⟩:∃z,zs.getD j 0=z:=⟨_,rfl⟩
   rw[hz]at c1
   have HZZ:=hid hz
   clear hz hlt
   by_cases hw:(decide (0≤z)&&decide (z≤4294967295))=true
   ·have HW:Hid (isW z=true):=hw
    go_wp2_with (go_at_call 38;refine(spec_in _ _ _ _).mono ?_;rintro e x ⟨rfl,rfl⟩;rw[hw])
    go_round
    case rel=>exact⟨j+1,by have:=HL.out;have:=HN.out;omega,by go_num,by show _=_;rw[all_take zs j HL.out,hA.out,HZZ.out,HW.out];rfl⟩
    case measure=>have:=HL.out;have:=HN.out;simp[intOf];omega
   ·rw[Bool.not_eq_true]at hw
    have HW:=hid hw
    go_wp2_with (go_at_call 38;refine(spec_in _ _ _ _).mono ?_;rintro e x ⟨rfl,rfl⟩;rw[hw])
    go_ret
    exact⟨ret_i (memV_not HN.out hf.out (all_not zs j HL.out (by rw[HZZ.out];exact HW.out))).symm,rfl⟩
  ·have hJ:¬(j:Int)<(n:Int):=by omega
   obtain rfl:j=n:=by omega
   go_wp2_with fail
   go_ret
   exact⟨ret_i (memV_ok HN.out hf.out (by have:=hA.out;rwa[List.take_of_length_le (Nat.le_of_eq HN.out)]at this)).symm,rfl⟩
theorem impl_memFault(v:Value)(zs:List Int)(b:Nat)(w:World)(h:Nums w b v zs):
  Calls Tryz.prog 11 #[v] w fun e w'=>e=.returned (.int .i64 (memV zs))∧w'=w:=by
 obtain⟨a,cap,rfl,l1,l2,hg⟩:=h.shape
 have HZ:Hid (Nums w b _ zs):=h
 clear h
 obtain⟨n,hn⟩:∃n,zs.length=n:=⟨_,rfl⟩
 rw[hn]at HZ l1 hg ⊢
 have HN:=hid hn
 have hl:(n:Int)≤9223372036854775807:=by unfold maxLen at l2;omega
 clear hn l1 l2
 by_cases h2:1≤n
 case neg=>
  have hf:Hid (formB n=false):=by show _=_;simp[formB];omega
  obtain rfl:n=0:=by omega
  clear h2
  go_enter Tryz.func11,Tryz.ntmps11
  go_wp2_with fail
  go_ret
  exact⟨ret_i (memV_form HN.out hf.out).symm,rfl⟩
 have hI2:¬(n:Int)=0:=by omega
 by_cases h3:n≤192
 case neg=>
  have hf:Hid (formB n=false):=by show _=_;simp[formB,h3]
  have hI:(192:Int)<(n:Int):=by omega
  clear h2 h3
  go_enter Tryz.func11,Tryz.ntmps11
  go_wp2_with fail
  go_ret
  exact⟨ret_i (memV_form HN.out hf.out).symm,rfl⟩
 have hI:¬(192:Int)<(n:Int):=by omega
 by_cases h1:n%8=0
 case neg=>
  have hf:Hid (formB n=false):=by show _=_;simp[formB,h1]
  have hI8:(((n:Int)%8) !=0)=true:=by simp;omega
  clear h1 h2 h3
  go_enter Tryz.func11,Tryz.ntmps11
  go_wp2_with fail
  go_ret
  exact⟨ret_i (memV_form HN.out hf.out).symm,rfl⟩
 have hI1:(n:Int)%8=0:=by omega
 have hf:Hid (formB n=true):=by show _=_;simp[formB,h1,h3];omega
 obtain⟨g,rfl⟩:=hg (by omega)
 clear h1 h2 h3 hg
 go_enter Tryz.func11,Tryz.ntmps11
 go_wp2_with fail
 go_loop [4,21] (fun _ i=>∃j:Nat,j≤n∧i=.int .i64 j∧Hid ((zs.take j).all isW=true)) (fun _ i=>n-(intOf i).toNat)
 case atStart=>exact⟨0,Nat.zero_le _,rfl,rfl⟩
 case round=>
  obtain⟨j,hj,rfl,hA⟩:=hrel
  by_cases hlt:j<n
  ·have c1:=HZ.out.cell HN.out.symm j hlt
   have hJ:(j:Int)<(n:Int):=by omega
   have HL:Hid (j<zs.length):=by show _<_;have:=HN.out;omega
   obtain⟨z,hz⟩:∃z,zs.getD j 0=z:=⟨_,rfl⟩
   rw[hz]at c1
   have HZZ:=hid hz
   clear hz hlt
   cases hw:isW z
   ·have HW:Hid (isW z=false):=hw
    go_wp2_with (go_at_call 31;refine(impl_isWord _ _).mono ?_;rintro e x ⟨rfl,rfl⟩;rw[hw])
    go_ret
    exact⟨ret_i (memV_not HN.out hf.out (all_not zs j HL.out (by rw[HZZ.out];exact HW.out))).symm,rfl⟩
   ·have HW:Hid (isW z=true):=hw
    go_wp2_with (go_at_call 31;refine(impl_isWord _ _).mono ?_;rintro e x ⟨rfl,rfl⟩;rw[hw])
    go_round
    case rel=>exact⟨j+1,by have:=HL.out;have:=HN.out;omega,by go_num,by show _=_;rw[all_take zs j HL.out,hA.out,HZZ.out,HW.out];rfl⟩
    case measure=>have:=HL.out;have:=HN.out;simp[intOf];omega
  ·have hJ:¬(j:Int)<(n:Int):=by omega
   obtain rfl:j=n:=by omega
   go_wp2_with fail
   go_ret
   exact⟨ret_i (memV_ok HN.out hf.out (by have:=hA.out;rwa[List.take_of_length_le (Nat.le_of_eq HN.out)]at this)).symm,rfl⟩
end Go.Proofs.YtaefollmeoepkaaGreatDoor
