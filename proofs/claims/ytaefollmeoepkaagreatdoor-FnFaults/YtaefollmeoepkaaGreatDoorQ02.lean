import Derived.RowKit
import Derived.Laws.BitsAllLaws
namespace Go.Proofs.YtaefollmeoepkaaGreatDoor
set_option maxRecDepth 20000
set_option maxHeartbeats 16000000
open Go.RowKit
def wd(n:Int):Int:=n%4294967296
def addV(a b:Int):Int:=(a+b)%4294967296
def mulV(a b:Int):Int:=a%4294967296*(b%4294967296)%4294967296
def sgn(a:Int):Int:=wrap64 (wrap32 (a%4294967296))
def divV(a b:Int):Int:=if b%4294967296=0 then 4294967295 else wrap64 ((sgn a).tdiv (sgn b))%4294967296
def remV(a b:Int):Int:=if b%4294967296=0 then a%4294967296 else(sgn a).tmod (sgn b)%4294967296
def shlV(a k:Int):Int:=a%4294967296*2 ^ (k%32).toNat%4294967296
def shrV(a k:Int):Int:=wrap64 (a%4294967296/2 ^ (k%32).toNat)
theorem wd_in(a:Int):0≤wd a∧wd a≤4294967295:=by unfold wd;omega
theorem sgn_zero(a:Int):sgn a=0↔a%4294967296=0:=by unfold sgn wrap64 wrap32;omega
def bitC(op:Int):Int:=if op=1 then 0 else if op=2 then 0 else if op=3 then 0 else 3
def bitV(op a b:Int):Int:=
 if op=1 then wrap64 (bits BinOp.and IntKind.u32 (a%4294967296) (b%4294967296))
 else if op=2 then wrap64 (bits BinOp.or IntKind.u32 (a%4294967296) (b%4294967296))
 else if op=3 then wrap64 (bits BinOp.xor IntKind.u32 (a%4294967296) (b%4294967296))
 else 0
theorem bitC_no{op:Int}(h1:¬op=1)(h2:¬op=2)(h3:¬op=3):bitC op=3:=by simp[bitC,h1,h2,h3]
theorem bitV_no{op:Int}(a b:Int)(h1:¬op=1)(h2:¬op=2)(h3:¬op=3):bitV op a b=0:=by simp[bitV,h1,h2,h3]
theorem bitV_in{a b:Int}{op:BinOp}{n:Nat}(h:bits op .u32 (a%4294967296) (b%4294967296)=(n:Int))(hn:n<2 ^ 32):wrap64 (bits op .u32 (a%4294967296) (b%4294967296))=(n:Int):=by
 rw[h];unfold wrap64;omega
theorem toNat_lt(a:Int):(a%4294967296).toNat<2 ^ 32:=by omega
theorem bitV_and(a b:Int):bitV 1 a b=(((a%4294967296).toNat&&&(b%4294967296).toNat:Nat):Int):=by
 have e:bitV 1 a b=wrap64 (bits BinOp.and IntKind.u32 (a%4294967296) (b%4294967296)):=by simp[bitV]
 rw[e]
 exact bitV_in (u32_and _ _ (by omega) (by omega) (by omega) (by omega)) (Nat.and_lt_two_pow _ (toNat_lt b))
theorem bitV_or(a b:Int):bitV 2 a b=(((a%4294967296).toNat|||(b%4294967296).toNat:Nat):Int):=by
 have e:bitV 2 a b=wrap64 (bits BinOp.or IntKind.u32 (a%4294967296) (b%4294967296)):=by simp[bitV]
 rw[e]
 exact bitV_in (u32_or _ _ (by omega) (by omega) (by omega) (by omega)) (Nat.or_lt_two_pow (toNat_lt a) (toNat_lt b))
theorem bitV_xor(a b:Int):bitV 3 a b=(((a%4294967296).toNat ^^^ (b%4294967296).toNat:Nat):Int):=by
 have e:bitV 3 a b=wrap64 (bits BinOp.xor IntKind.u32 (a%4294967296) (b%4294967296)):=by simp[bitV]
 rw[e]
 exact bitV_in (u32_xor _ _ (by omega) (by omega) (by omega) (by omega)) (Nat.xor_lt_two_pow (toNat_lt a) (toNat_lt b))
end Go.Proofs.YtaefollmeoepkaaGreatDoor
