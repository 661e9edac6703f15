import Derived.Test.YtaefollmeoepkaaGreatDoorQ01
import Derived.Test.YtaefollmeoepkaaGreatDoorQ02
namespace Go.Proofs.YtaefollmeoepkaaGreatDoor
set_option maxRecDepth 20000
set_option maxHeartbeats 16000000
open Go.RowKit
theorem spec_bit(op a b:Int)(w:World):
  Calls Tryz.prog 139 #[.int .i64 op,.int .i64 a,.int .i64 b] w fun e w'=>e=.returned (.agg #[.int .i64 (bitC op),.int .i64 (bitV op a b)])∧Below w.heap.size w w':=by
 by_cases h1:op=1
 ·subst h1
  go_enter Tryz.func139,Tryz.ntmps139
  go_wp2
  exact bodyPost_ret (v:=.agg #[.int .i64 (bitC 1),.int .i64 (bitV 1 a b)]) (by simp[results,Tryz.results139,go_sem];simp[bitC,bitV]) rfl ⟨rfl,(Below.refl _ _).alloc (Nat.le_refl _) _⟩
 by_cases h2:op=2
 ·subst h2
  go_enter Tryz.func139,Tryz.ntmps139
  go_wp2
  exact bodyPost_ret (v:=.agg #[.int .i64 (bitC 2),.int .i64 (bitV 2 a b)]) (by simp[results,Tryz.results139,go_sem];simp[bitC,bitV]) rfl ⟨rfl,(Below.refl _ _).alloc (Nat.le_refl _) _⟩
 by_cases h3:op=3
 ·subst h3
  go_enter Tryz.func139,Tryz.ntmps139
  go_wp2
  exact bodyPost_ret (v:=.agg #[.int .i64 (bitC 3),.int .i64 (bitV 3 a b)]) (by simp[results,Tryz.results139,go_sem];simp[bitC,bitV]) rfl ⟨rfl,(Below.refl _ _).alloc (Nat.le_refl _) _⟩
 rw[bitC_no h1 h2 h3,bitV_no a b h1 h2 h3]
 have g1:(op==1)=false:=beq_eq_false_iff_ne.2 h1
 have g2:(op==2)=false:=beq_eq_false_iff_ne.2 h2
 have g3:(op==3)=false:=beq_eq_false_iff_ne.2 h3
 clear h1 h2 h3
 go_enter Tryz.func139,Tryz.ntmps139
 go_wp2
 exact bodyPost_ret (v:=.agg #[.int .i64 3,.int .i64 0]) (by simp[results,Tryz.results139,go_sem]) rfl ⟨rfl,(Below.refl _ _).alloc (Nat.le_refl _) _⟩
theorem impl_bit(op a b:Int)(w:World):
  Calls Tryz.prog 146 #[.int .i64 op,.int .i64 a,.int .i64 b] w fun e w'=>e=.returned (.agg #[.int .i64 (bitC op),.int .i64 (bitV op a b)])∧Below w.heap.size w w':=by
 by_cases h1:op=1
 ·subst h1
  go_enter Tryz.func146,Tryz.ntmps146
  go_wp2
  exact bodyPost_ret (v:=.agg #[.int .i64 (bitC 1),.int .i64 (bitV 1 a b)]) (by simp[results,Tryz.results146,go_sem];simp[bitC,bitV]) rfl ⟨rfl,(Below.refl _ _).alloc (Nat.le_refl _) _⟩
 by_cases h2:op=2
 ·subst h2
  go_enter Tryz.func146,Tryz.ntmps146
  go_wp2
  exact bodyPost_ret (v:=.agg #[.int .i64 (bitC 2),.int .i64 (bitV 2 a b)]) (by simp[results,Tryz.results146,go_sem];simp[bitC,bitV]) rfl ⟨rfl,(Below.refl _ _).alloc (Nat.le_refl _) _⟩
 by_cases h3:op=3
 ·subst h3
  go_enter Tryz.func146,Tryz.ntmps146
  go_wp2
  exact bodyPost_ret (v:=.agg #[.int .i64 (bitC 3),.int .i64 (bitV 3 a b)]) (by simp[results,Tryz.results146,go_sem];simp[bitC,bitV]) rfl ⟨rfl,(Below.refl _ _).alloc (Nat.le_refl _) _⟩
 rw[bitC_no h1 h2 h3,bitV_no a b h1 h2 h3]
 have g1:(op==1)=false:=beq_eq_false_iff_ne.2 h1
 have g2:(op==2)=false:=beq_eq_false_iff_ne.2 h2
 have g3:(op==3)=false:=beq_eq_false_iff_ne.2 h3
 clear h1 h2 h3
 go_enter Tryz.func146,Tryz.ntmps146
 go_wp2
 exact bodyPost_ret (v:=.agg #[.int .i64 3,.int .i64 0]) (by simp[results,Tryz.results146,go_sem]) rfl ⟨rfl,(Below.refl _ _).alloc (Nat.le_refl _) _⟩
theorem field_value(x y:Value)(w:World):(Instr.field 48 (.agg #[x,y]) 1).run Tryz.prog w=.ok y w:=by kernel_rfl
theorem impl_wrap(n:Int)(w:World):Calls Tryz.prog 66 #[.int .i64 n] w fun e w'=>e=.returned (.int .i64 (wd n))∧w'=w:=by
 go_enter Tryz.func66,Tryz.ntmps66
 go_wp2
 go_ret
 exact⟨rfl,rfl⟩
theorem impl_signed(n:Int)(w:World):Calls Tryz.prog 116 #[.int .i64 n] w fun e w'=>e=.returned (.int .i64 (sgn n))∧w'=w:=by
 go_enter Tryz.func116,Tryz.ntmps116
 go_wp2
 go_ret
 exact⟨rfl,rfl⟩
theorem spec_signed(n:Int)(w:World):Calls Tryz.prog 134 #[.int .i64 n] w fun e w'=>e=.returned (.int .i64 (sgn n))∧w'=w:=by
 go_enter Tryz.func134,Tryz.ntmps134
 go_wp2
 go_ret
 exact⟨rfl,rfl⟩
theorem ret_i64{a b:Int}(h:a=b):Ending.returned (.int .i64 a)=.returned (.int .i64 b):=by rw[h]
theorem impl_add(a b:Int)(w:World):Calls Tryz.prog 22 #[.int .i64 a,.int .i64 b] w fun e w'=>e=.returned (.int .i64 (addV a b))∧w'=w:=by
 go_enter Tryz.func22,Tryz.ntmps22
 go_wp2
 go_ret
 exact⟨ret_i64 (by unfold addV;simp),rfl⟩
theorem impl_mul(a b:Int)(w:World):Calls Tryz.prog 142 #[.int .i64 a,.int .i64 b] w fun e w'=>e=.returned (.int .i64 (mulV a b))∧w'=w:=by
 go_enter Tryz.func142,Tryz.ntmps142
 go_wp2
 go_ret
 exact⟨ret_i64 (by unfold mulV;rfl),rfl⟩
theorem impl_div(a b:Int)(w:World):Calls Tryz.prog 143 #[.int .i64 a,.int .i64 b] w fun e w'=>e=.returned (.int .i64 (divV a b))∧w'=w:=by
 by_cases h:b%4294967296=0
 ·have h2:(wrap64 (wrap32 (b%4294967296))==0)=true:=by rw[beq_iff_eq];exact(sgn_zero b).2 h
  have e:divV a b=4294967295:=by unfold divV;rw[if_pos h]
  rw[e]
  clear h e
  go_enter Tryz.func143,Tryz.ntmps143
  go_wp2
  go_ret
  exact⟨rfl,rfl⟩
 ·have h2:(wrap64 (wrap32 (b%4294967296))==0)=false:=by rw[beq_eq_false_iff_ne];exact fun e=>h ((sgn_zero b).1 e)
  have h3:¬wrap64 (wrap32 (b%4294967296))=0:=fun e=>h ((sgn_zero b).1 e)
  have e:divV a b=wrap64 ((sgn a).tdiv (sgn b))%4294967296:=by unfold divV;rw[if_neg h]
  rw[e]
  clear h e
  go_enter Tryz.func143,Tryz.ntmps143
  go_wp2
  go_ret
  exact⟨ret_i64 (by unfold sgn;rfl),rfl⟩
theorem impl_rem(a b:Int)(w:World):Calls Tryz.prog 144 #[.int .i64 a,.int .i64 b] w fun e w'=>e=.returned (.int .i64 (remV a b))∧w'=w:=by
 by_cases h:b%4294967296=0
 ·have h2:(wrap64 (wrap32 (b%4294967296))==0)=true:=by rw[beq_iff_eq];exact(sgn_zero b).2 h
  have e:remV a b=a%4294967296:=by unfold remV;rw[if_pos h]
  rw[e]
  clear h e
  go_enter Tryz.func144,Tryz.ntmps144
  go_wp2
  go_ret
  exact⟨rfl,rfl⟩
 ·have h2:(wrap64 (wrap32 (b%4294967296))==0)=false:=by rw[beq_eq_false_iff_ne];exact fun e=>h ((sgn_zero b).1 e)
  have h3:¬wrap64 (wrap32 (b%4294967296))=0:=fun e=>h ((sgn_zero b).1 e)
  have e:remV a b=(sgn a).tmod (sgn b)%4294967296:=by unfold remV;rw[if_neg h]
  rw[e]
  clear h e
  go_enter Tryz.func144,Tryz.ntmps144
  go_wp2
  go_ret
  exact⟨ret_i64 (by unfold sgn;rfl),rfl⟩
theorem impl_shl(a k:Int)(w:World):Calls Tryz.prog 150 #[.int .i64 a,.int .i64 k,.bool true] w fun e w'=>e=.returned (.int .i64 (shlV a k))∧w'=w:=by
 go_enter Tryz.func150,Tryz.ntmps150
 go_wp2
 go_ret
 exact⟨ret_i64 (by unfold shlV;simp),rfl⟩
theorem impl_shr(a k:Int)(w:World):Calls Tryz.prog 150 #[.int .i64 a,.int .i64 k,.bool false] w fun e w'=>e=.returned (.int .i64 (shrV a k))∧w'=w:=by
 go_enter Tryz.func150,Tryz.ntmps150
 go_wp2
 go_ret
 exact⟨ret_i64 (by unfold shrV;simp),rfl⟩
theorem spec_shl(a k:Int)(w:World):Calls Tryz.prog 140 #[.int .i64 a,.int .i64 k,.bool true] w fun e w'=>e=.returned (.int .i64 (shlV a k))∧w'=w:=by
 go_enter Tryz.func140,Tryz.ntmps140
 go_wp2
 go_ret
 exact⟨ret_i64 (by unfold shlV;simp),rfl⟩
end Go.Proofs.YtaefollmeoepkaaGreatDoor
