import Derived.Test.YtaefollmeoepkaaGreatDoorQ19
namespace Go.Proofs.YtaefollmeoepkaaGreatDoor
set_option maxRecDepth 20000
set_option maxHeartbeats 16000000
open Go.RowKit
set_option linter.unusedVariables false
theorem gt_set(zs:List Int)(n j:Nat)(u:Int)(hn:n<zs.length):gt (zs.set n u) j=if j=n then u else gt zs j:=by
 unfold gt
 rw[List.getD_eq_getElem?_getD,List.getD_eq_getElem?_getD,List.getElem?_set]
 by_cases h:n=j
 ·subst h
  simp[hn]
 ·rw[if_neg h,if_neg (fun e=>h e.symm)]
theorem Mq.dr{S:Nat→Prop}{a w:World}(m:Mq S a w):Mq S a w.drew:=⟨m.os,m.tape,m.output,m.size,m.block⟩
def stH(H:Ht)(n:Nat)(u:Int)(r:Bool):Ht:={ H with csr:=H.csr.set n u,rung:=r}
theorem and_two(n:Nat):n&&&2=n/2%2*2:=by
 have h1:n&&&2≤2:=Nat.and_le_right
 have h2:(n&&&2)%2 ^ 2=(n%2 ^ 2)&&&(2%2 ^ 2):=Nat.and_mod_two_pow
 have h3:(n&&&2)%2 ^ 2=n&&&2:=Nat.mod_eq_of_lt (by omega)
 rw[h3,show(2:Nat)%2 ^ 2=2 from rfl,show(2:Nat) ^ 2=4 from rfl]at h2
 rw[h2]
 have e:n%4=0∨n%4=1∨n%4=2∨n%4=3:=by omega
 rcases e with e|e|e|e<;>rw[e]
 ·show 0=_;omega
 ·show 0=_;omega
 ·show 2=_;omega
 ·show 2=_;omega
theorem i64_and_nat(a b:Nat)(ha:a<4611686018427387904)(hb:b<4611686018427387904):bits .and .i64 (a:Int) (b:Int)=((a&&&b:Nat):Int):=by
 have hx:a&&&b≤a:=Nat.and_le_left
 have e:∀c:Nat,c<4611686018427387904→(BitVec.ofInt 64 (c:Int)).toNat=c:=fun c hc=>by
  rw[BitVec.ofInt_natCast,BitVec.toNat_ofNat];exact Nat.mod_eq_of_lt (by omega)
 show IntKind.i64.wrap ((BitVec.ofInt 64 (a:Int)&&&BitVec.ofInt 64 (b:Int)).toNat:Int)=_
 rw[BitVec.toNat_and,e a ha,e b hb,IntKind.wrap_i64]
 omega
theorem bit_two(x:Int)(h0:0≤x)(h1:x≤4294967295):(bits BinOp.and IntKind.i64 x 2 !=0)=decide (2≤x%4):=by
 obtain⟨n,rfl⟩:=Int.eq_ofNat_of_zero_le h0
 have:=i64_and_nat n 2 (by omega) (by omega)
 rw[show((2:Nat):Int)=2 from rfl]at this
 rw[this,and_two]
 by_cases h:2≤(n:Int)%4
 ·rw[decide_eq_true h,bne_iff_ne]
  omega
 ·rw[decide_eq_false h]
  have e:((n/2%2*2:Nat):Int)=0:=by omega
  rw[e]
  rfl
end Go.Proofs.YtaefollmeoepkaaGreatDoor
