import Derived.Test.YtaefollmeoepkaaGreatDoorQ20
import Derived.Test.YtaefollmeoepkaaGreatDoorQ22
namespace Go.Proofs.YtaefollmeoepkaaGreatDoor
set_option maxRecDepth 20000
set_option maxHeartbeats 16000000
open Go.RowKit
set_option linter.unusedVariables false
structure Tab(w:World):Prop where
 c0:w.cell? ⟨0,0,none⟩=some (.int .u8 0)
 c1:w.cell? ⟨0,1,none⟩=some (.int .u8 1)
 c3:w.cell? ⟨0,3,none⟩=some (.int .u8 2)
theorem Tab.keep{w w':World}(h:Tab w)(b:Below w.heap.size w w'):Tab w':=⟨cell_keep b h.c0,cell_keep b h.c1,cell_keep b h.c3⟩
theorem both_eq(H:Ht)(h0:0≤gt H.csr 7)(h1:gt H.csr 7≤4294967295):bits BinOp.and IntKind.i64 (pendV H) (gt H.csr 7)=bothV H:=by
 have p:=pend_range H
 obtain⟨a,ha⟩:=Int.eq_ofNat_of_zero_le p.1
 obtain⟨c,hc⟩:=Int.eq_ofNat_of_zero_le h0
 have:=i64_and_nat a c (by omega) (by omega)
 unfold bothV
 show _=(((pendV H).toNat&&&(gt H.csr 7).toNat:Nat):Int)
 rw[ha,hc,this]
 simp
theorem both_range(H:Ht):0≤bothV H∧bothV H≤7:=by
 have p:=pend_range H
 have:(pendV H).toNat&&&(H.csr.getD 7 0).toNat≤(pendV H).toNat:=Nat.and_le_left
 unfold bothV
 omega
theorem i_wanted(m:Nat)(i o:Value)(H:Ht)(b:Nat)(w:World)(hv:Vb w m (mca H i o) 74)(hi:Nums w b i H.inn)(h0:0≤gt H.csr 7)(h1:gt H.csr 7≤4294967295):
  Calls Tryz.prog 89 #[.pointer (some ⟨m,0,none⟩)] w fun e w'=>e=.returned (.int .i64 (bothV H))∧Below w.heap.size w w':=by
 have BE:=both_eq H h0 h1
 have HV:=hid hv
 have HI:=hid hi
 have c7:w.cell? ⟨m,24,none⟩=some (.int .i64 (gt H.csr 7)):=hv.cell 24 rfl
 obtain⟨g7,hg7⟩:∃g,gt H.csr 7=g:=⟨_,rfl⟩
 obtain⟨pv,hp⟩:∃g,pendV H=g:=⟨_,rfl⟩
 have HPV:=hid hp
 rw[hg7]at c7 BE
 rw[hp]at BE
 clear hv hi h0 h1 hg7 hp
 go_enter Tryz.func89,Tryz.ntmps89
 go_wp2_with fail
 go_region_with (go_at_call 127;refine(i_pending m i o H b _ (by first|exact HV.out|exact HV.out.keep (Below.refl _ _).drew) (by first|exact HI.out|exact HI.out.keep (Below.refl _ _).drew)).mono ?_;rintro e y ⟨rfl,hy⟩;rw[hy];clear hy y;rw[HPV.out])
 all_goals go_wp2_with fail
 all_goals go_ret
 all_goals exact⟨rfl,(Below.refl _ _).drew⟩
theorem i_zeros(x:Int)(w:World)(h1:1≤x)(h7:x≤7)(t:Tab w):
  Calls Tryz.prog 90 #[.int .u64 x] w fun e w'=>e=.returned (.int .i64 (lowV x))∧w'=w:=by
 have t0:=t.c0
 have t1:=t.c1
 have t3:=t.c3
 clear t
 have b1:bits BinOp.and IntKind.u64 1 18446744073709551615=1:=by decide
 have b2:bits BinOp.and IntKind.u64 2 18446744073709551614=2:=by decide
 have b3:bits BinOp.and IntKind.u64 3 18446744073709551613=1:=by decide
 have b4:bits BinOp.and IntKind.u64 4 18446744073709551612=4:=by decide
 have b5:bits BinOp.and IntKind.u64 5 18446744073709551611=1:=by decide
 have b6:bits BinOp.and IntKind.u64 6 18446744073709551610=2:=by decide
 have b7:bits BinOp.and IntKind.u64 7 18446744073709551609=1:=by decide
 have u1:IntKind.u64.wrap (-1)=18446744073709551615:=by decide
 have u2:IntKind.u64.wrap (-2)=18446744073709551614:=by decide
 have u3:IntKind.u64.wrap (-3)=18446744073709551613:=by decide
 have u4:IntKind.u64.wrap (-4)=18446744073709551612:=by decide
 have u5:IntKind.u64.wrap (-5)=18446744073709551611:=by decide
 have u6:IntKind.u64.wrap (-6)=18446744073709551610:=by decide
 have u7:IntKind.u64.wrap (-7)=18446744073709551609:=by decide
 have m1:IntKind.u64.wrap 285870213051353865=285870213051353865:=by decide
 have m2:IntKind.u64.wrap 571740426102707730=571740426102707730:=by decide
 have m4:IntKind.u64.wrap 1143480852205415460=1143480852205415460:=by decide
 have e:x=1∨x=2∨x=3∨x=4∨x=5∨x=6∨x=7:=by omega
 clear h1 h7
 rcases e with rfl|rfl|rfl|rfl|rfl|rfl|rfl
 all_goals
  go_enter Tryz.func90,Tryz.ntmps90
  go_wp2_with fail
  go_ret
  exact⟨rfl,rfl⟩
end Go.Proofs.YtaefollmeoepkaaGreatDoor
