import Derived.Laws.ByValue
import Derived.Test.YtignbeibcakgpaaGreatDoorQ12
import Derived.Test.YtignbeibcakgpaaGreatDoorQ13
namespace Go.Proofs.YtignbeibcakgpaaGreatDoor
set_option maxRecDepth 20000
set_option maxHeartbeats 16000000
open Go.RowKit
set_option linter.unusedVariables false
theorem code_nil(w:World):Calls Tryz.prog 50 #[.nilIface] w fun e w'=>e=.returned (.int .i64 0)∧Below w.heap.size w w':=by
 go_enter Tryz.func50,Tryz.ntmps50
 go_wp2_with (go_at_call 74;refine(as_nil _ _).mono ?_;rintro e w' ⟨rfl,rfl⟩)
 go_ret
 exact⟨rfl,al (Below.refl _ _) _⟩
theorem code_hit(c:Int)(w:World)(hg:w.cell? ⟨0,0,none⟩=some (.iface 240 (.agg #[.pointer (some ⟨2,134,none⟩)]))):
  Calls Tryz.prog 50 #[.iface 163 (.agg #[.int .i64 c])] w fun e w'=>e=.returned (.int .i64 c)∧Below w.heap.size w w':=by
 have hgA:Hid (_=_):=cell_push (.cells #[.int .i64 0] 163) hg
 have htA:Hid ((w.alloc (.cells #[.int .i64 0] 163)).cell? ⟨w.heap.size,0,none⟩=some (.int .i64 0)):=cell_new rfl
 have hfA:Hid ((w.alloc (.cells #[.int .i64 0] 163)).frozen? ⟨w.heap.size,0,none⟩=false):=by show _=_;simp
 clear hg
 have AS:Calls Tryz.prog 74 #[.iface 163 (.agg #[.int .i64 c]),.iface 165 (.pointer (some ⟨w.heap.size,0,none⟩))] (w.alloc (.cells #[.int .i64 0] 163)) fun e w'=>e=.returned (.bool true)∧w'.cell? ⟨w.heap.size,0,none⟩=some (.int .i64 c)∧Below w.heap.size w w':=(as_hit c ⟨w.heap.size,0,none⟩ (.int .i64 0) (w.alloc (.cells #[.int .i64 0] 163)) hgA.out htA.out hfA.out).mono (by
  rintro e w'⟨h1,w1,b1,rfl⟩
  exact⟨h1,World.cell?_setCell_same _ _ _ (cell_keep b1 htA.out),(on (al (Below.refl _ _) _) b1).setCell (by simp) _⟩)
 go_enter Tryz.func50,Tryz.ntmps50
 go_wp2_with (go_at_call 74;refine AS.mono ?_;rintro e w' ⟨rfl,k1,B1⟩)
 go_ret
 exact⟨rfl,B1⟩
theorem Pl.box{w:World}{a0 a1 a2 a3:Option Addr}{n0 c0 n1 c1 n2 c2 n3 c3:Nat}{P:Plc}(h:Pl w a0 n0 c0 a1 n1 c1 a2 n2 c2 a3 n3 c3 P)(t:TypeId):
  PolAt (w.alloc (.cells #[.slice a0 n0 c0,.slice a1 n1 c1,.slice a2 n2 c2,.slice a3 n3 c3] t)) w.heap.size P:=
 ⟨a0,n0,c0,a1,n1,c1,a2,n2,c2,a3,n3,c3,cell_new rfl,cell_new rfl,cell_new rfl,cell_new rfl,h.stay (al (Below.refl _ _) _)⟩
theorem i_hostPage(x:Int)(w:World):Calls Tryz.prog 105 #[.int .i64 x] w fun e w'=>e=.returned (.bool (pgOk x))∧w'=w:=by
 by_cases h:0≤x
 ·go_enter Tryz.func105,Tryz.ntmps105
  go_wp2
  go_ret
  exact⟨congrArg (fun b=>Ending.returned (.bool b)) (by apply Bool.eq_iff_iff.2;simp[pgOk];omega),rfl⟩
 ·go_enter Tryz.func105,Tryz.ntmps105
  go_wp2
  go_ret
  exact⟨congrArg (fun b=>Ending.returned (.bool b)) (by apply Bool.eq_iff_iff.2;simp[pgOk];omega),rfl⟩
theorem i_lanePlace(x:Int)(w:World):Calls Tryz.prog 107 #[.int .i64 x] w fun e w'=>e=.returned (.bool (atOk x))∧w'=w:=by
 by_cases h:5≤x
 ·go_enter Tryz.func107,Tryz.ntmps107
  go_wp2
  go_ret
  exact⟨congrArg (fun b=>Ending.returned (.bool b)) (by apply Bool.eq_iff_iff.2;simp[atOk];omega),rfl⟩
 ·go_enter Tryz.func107,Tryz.ntmps107
  go_wp2
  go_ret
  exact⟨congrArg (fun b=>Ending.returned (.bool b)) (by apply Bool.eq_iff_iff.2;simp[atOk];omega),rfl⟩
theorem i_guest(a0 a1 a2 a3:Option Addr)(n0 c0 n1 c1 n2 c2 n3 c3:Nat)(g:Int)(w:World)(hmax:(n0:Int)≤9223372036854775807):
  Calls Tryz.prog 26 #[.agg #[.slice a0 n0 c0,.slice a1 n1 c1,.slice a2 n2 c2,.slice a3 n3 c3],.int .i64 g] w fun e w'=>e=.returned (.bool (isG n0 g))∧w'=w.alloc (.cells #[.slice a0 n0 c0,.slice a1 n1 c1,.slice a2 n2 c2,.slice a3 n3 c3] 29):=by
 by_cases h:0≤g
 ·go_enter Tryz.func26,Tryz.ntmps26
  go_wp2
  go_ret
  exact⟨congrArg (fun b=>Ending.returned (.bool b)) (by apply Bool.eq_iff_iff.2;simp[isG];omega),rfl⟩
 ·go_enter Tryz.func26,Tryz.ntmps26
  go_wp2
  go_ret
  exact⟨congrArg (fun b=>Ending.returned (.bool b)) (by apply Bool.eq_iff_iff.2;simp[isG];omega),rfl⟩
def errV(c:Int):Value:=if c=0 then .nilIface else .iface 163 (.agg #[.int .i64 c])
theorem i_ends(a0 a1 a2 a3:Option Addr)(n0 c0 n1 c1 n2 c2 n3 c3:Nat)(f t:Int)(w:World)(hmax:(n0:Int)≤9223372036854775807):
  Calls Tryz.prog 106 #[.agg #[.slice a0 n0 c0,.slice a1 n1 c1,.slice a2 n2 c2,.slice a3 n3 c3],.int .i64 f,.int .i64 t] w fun e w'=>e=.returned (errV (endsV n0 f t))∧Below w.heap.size w w':=by
 have HM:=hid hmax
 unfold endsV
 by_cases h1:isG n0 f=true
 ·by_cases h2:isG n0 t=true
  ·rw[if_neg (by simp[h1,h2])]
   by_cases h3:f=t
   ·rw[if_pos h3]
    go_enter Tryz.func106,Tryz.ntmps106
    go_wp2_with (go_at_call 26;refine(i_guest _ _ _ _ _ _ _ _ _ _ _ _ _ _ HM.out).mono ?_;rintro e w1 ⟨rfl,rfl⟩;first|rw[h1]|rw[h2])
    go_ret
    exact⟨rfl,al (al (al (Below.refl _ _) _) _) _⟩
   ·rw[if_neg h3]
    go_enter Tryz.func106,Tryz.ntmps106
    go_wp2_with (go_at_call 26;refine(i_guest _ _ _ _ _ _ _ _ _ _ _ _ _ _ HM.out).mono ?_;rintro e w1 ⟨rfl,rfl⟩;first|rw[h1]|rw[h2])
    go_ret
    exact⟨rfl,al (al (al (Below.refl _ _) _) _) _⟩
  ·rw[Bool.not_eq_true]at h2
   rw[if_pos (.inr h2)]
   go_enter Tryz.func106,Tryz.ntmps106
   go_wp2_with (go_at_call 26;refine(i_guest _ _ _ _ _ _ _ _ _ _ _ _ _ _ HM.out).mono ?_;rintro e w1 ⟨rfl,rfl⟩;first|rw[h1]|rw[h2])
   go_ret
   exact⟨rfl,al (al (al (Below.refl _ _) _) _) _⟩
 ·rw[Bool.not_eq_true]at h1
  rw[if_pos (.inl h1)]
  go_enter Tryz.func106,Tryz.ntmps106
  go_wp2_with (go_at_call 26;refine(i_guest _ _ _ _ _ _ _ _ _ _ _ _ _ _ HM.out).mono ?_;rintro e w1 ⟨rfl,rfl⟩;rw[h1])
  go_ret
  exact⟨rfl,al (al (Below.refl _ _) _) _⟩
theorem i_laneAt(l:Ln)(g p:Int)(w:World):Calls Tryz.prog 137 #[.agg #[.int .i64 l.fr,.int .i64 l.dst,.int .i64 l.pg,.int .i64 l.af,.int .i64 l.tt],.int .i64 g,.int .i64 p] w fun e w'=>e=.returned (.bool (usesV l g p))∧w'=w.alloc (.cells #[.int .i64 l.fr,.int .i64 l.dst,.int .i64 l.pg,.int .i64 l.af,.int .i64 l.tt] 42):=by
 obtain⟨a,b,c,d,z⟩:=l
 unfold usesV
 simp only
 by_cases h1:a=g<;>by_cases h2:d=p<;>by_cases h3:b=g<;>by_cases h4:z=p<;>
  (go_enter Tryz.func137,Tryz.ntmps137
   go_wp2_with fail
   go_ret
   exact⟨by simp[h1,h2,h3,h4],by first|rfl|simp[h1,h2,h3,h4]⟩)
theorem i_meets(a:Option Addr)(n c:Nat)(rs:List Ln)(L:Ln)(w:World)(h:IsLanes w a n c rs):
  Calls Tryz.prog 109 #[.slice a n c,.agg #[.int .i64 L.fr,.int .i64 L.dst,.int .i64 L.pg,.int .i64 L.af,.int .i64 L.tt]] w fun e w'=>e=.returned (.bool (rs.any fun o=>meetV o L))∧Below w.heap.size w w':=by
 have HR:=hid h
 have HL:Hid (n=rs.length):=h.len
 have hmax:(n:Int)≤9223372036854775807:=by have:=h.cap;unfold maxLen at this;omega
 clear h
 have q0:(w.alloc (.cells #[.int .i64 L.fr,.int .i64 L.dst,.int .i64 L.pg,.int .i64 L.af,.int .i64 L.tt] 42)).cell? ⟨w.heap.size,0,none⟩=some (.int .i64 L.fr):=cell_new rfl
 have q1:(w.alloc (.cells #[.int .i64 L.fr,.int .i64 L.dst,.int .i64 L.pg,.int .i64 L.af,.int .i64 L.tt] 42)).cell? ⟨w.heap.size,1,none⟩=some (.int .i64 L.dst):=cell_new rfl
 have q2:(w.alloc (.cells #[.int .i64 L.fr,.int .i64 L.dst,.int .i64 L.pg,.int .i64 L.af,.int .i64 L.tt] 42)).cell? ⟨w.heap.size,2,none⟩=some (.int .i64 L.pg):=cell_new rfl
 have q3:(w.alloc (.cells #[.int .i64 L.fr,.int .i64 L.dst,.int .i64 L.pg,.int .i64 L.af,.int .i64 L.tt] 42)).cell? ⟨w.heap.size,3,none⟩=some (.int .i64 L.af):=cell_new rfl
 have q4:(w.alloc (.cells #[.int .i64 L.fr,.int .i64 L.dst,.int .i64 L.pg,.int .i64 L.af,.int .i64 L.tt] 42)).cell? ⟨w.heap.size,4,none⟩=some (.int .i64 L.tt):=cell_new rfl
 have Q:Hid (_∧_∧_∧_∧_):=⟨q0,q1,q2,q3,q4⟩
 have HB1:Hid (Below w.heap.size w (w.alloc (.cells #[.int .i64 L.fr,.int .i64 L.dst,.int .i64 L.pg,.int .i64 L.af,.int .i64 L.tt] 42))):=al (Below.refl _ _) _
 clear q0 q1 q2 q3 q4
 go_enter Tryz.func109,Tryz.ntmps109
 go_wp2_with fail
 generalize w.alloc (.cells #[.int .i64 L.fr,.int .i64 L.dst,.int .i64 L.pg,.int .i64 L.af,.int .i64 L.tt] 42)=W1 at*
 obtain⟨B,hB⟩:∃B,w.heap.size=B:=⟨_,rfl⟩
 rw[hB]at Q ⊢
 have HBB:=hid hB
 clear hB
 go_loopw [9] (fun c wq=>∃k:Nat,k≤n∧c=.int .i64 k∧Below W1.heap.size W1 wq∧Hid (rs.any (fun o=>meetV o L)=(rs.drop k).any (fun o=>meetV o L))) (fun c _=>n-(intOf c).toNat)
 case atStart=>exact⟨0,Nat.zero_le _,rfl,Below.refl _ _,by show _=_;simp⟩
 case round=>
  obtain⟨k,hk,rfl,hB,hK⟩:=hrel
  have HBq:Hid (Below _ W1 wr):=hB
  have HBw:=hid (on HB1.out hB)
  obtain⟨q0,q1,q2,q3,q4⟩:=Q.out
  have q0:=cell_keep hB q0
  have q1:=cell_keep hB q1
  have q2:=cell_keep hB q2
  have q3:=cell_keep hB q3
  have q4:=cell_keep hB q4
  have bB:B<wr.heap.size:=block_of_cell q0
  clear hB
  by_cases hkj:k<n
  ·have hK1:(k:Int)<(n:Int):=by omega
   obtain⟨x,rfl,k0,k1,k2,k3,k4⟩:=(HR.out.stay HBw.out).at k hkj
   have HKJ:=hid hkj
   have SA:Hid (_=_):=any_step lz rs (fun o=>meetV o L) k (by have:=HL.out;omega)
   obtain⟨O,hO⟩:∃O,rs.getD k lz=O:=⟨_,rfl⟩
   rw[hO]at k0 k1 k2 k3 k4 SA
   clear hO hkj
   by_cases hpg:O.pg=L.pg
   ·have V4:Hid (rs.any (fun o=>meetV o L)=true):=by
     show _=_
     rw[hK.out,SA.out]
     simp[meetV,hpg]
    go_wp2_with fail
    go_ret
    rw[V4.out]
    exact⟨rfl,al HBw.out _⟩
   by_cases hu:usesV O L.fr L.af=true
   ·have V4:Hid (rs.any (fun o=>meetV o L)=true):=by
     show _=_
     rw[hK.out,SA.out]
     simp[meetV,hu]
    go_wp2_with (go_at_call 137;refine(i_laneAt O _ _ _).mono ?_;rintro e wx ⟨rfl,rfl⟩;rw[hu])
    go_ret
    rw[V4.out]
    exact⟨rfl,al (al HBw.out _) _⟩
   rw[Bool.not_eq_true]at hu
   by_cases hu2:usesV O L.dst L.tt=true
   ·have V4:Hid (rs.any (fun o=>meetV o L)=true):=by
     show _=_
     rw[hK.out,SA.out]
     simp[meetV,hu2]
    go_wp2_with (go_at_call 137;refine(i_laneAt O _ _ _).mono ?_;rintro e wx ⟨rfl,rfl⟩;first|rw[hu]|rw[hu2])
    go_ret
    rw[V4.out]
    exact⟨rfl,al (al (al HBw.out _) _) _⟩
   rw[Bool.not_eq_true]at hu2
   have M0:Hid (meetV O L=false):=by show _=_;rw[meetV,hu,hu2];simp[hpg]
   go_wp2_with (go_at_call 137;refine(i_laneAt O _ _ _).mono ?_;rintro e wx ⟨rfl,rfl⟩;first|rw[hu]|rw[hu2])
   go_roundw
   case rel=>exact⟨k+1,by have:=HKJ.out;omega,by go_num,al (al (al HBq.out _) _) _,by show _=_;rw[hK.out,SA.out,M0.out,Bool.false_or]⟩
   case measure=>have:=HKJ.out;simp[intOf];omega
  ·have hK1:¬(k:Int)<(n:Int):=by omega
   have V4:Hid (rs.any (fun o=>meetV o L)=false):=by
    show _=_
    rw[hK.out,List.drop_of_length_le (by have:=HL.out;omega)]
    rfl
   clear hkj
   go_wp2_with fail
   go_ret
   rw[V4.out]
   exact⟨rfl,HBw.out⟩
end Go.Proofs.YtignbeibcakgpaaGreatDoor
