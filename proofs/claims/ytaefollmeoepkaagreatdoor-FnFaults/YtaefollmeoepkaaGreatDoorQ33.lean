import Derived.Test.YtaefollmeoepkaaGreatDoorQ30
namespace Go.Proofs.YtaefollmeoepkaaGreatDoor
set_option maxRecDepth 20000
set_option maxHeartbeats 16000000
open Go.RowKit
set_option linter.unusedVariables false
theorem z_due{w:World}{B:Bp}{i o:Value}{zs:List Int}{H:Ht}{ri fa:Int}(R:Bs w B i o zs H ri fa)(K:Hok H):
  Calls Tryz.prog 59 #[.pointer (some ⟨B.q,3,none⟩)] w fun e w'=>e=.returned (.int .i64 (dueV H))∧Below w.heap.size w w':=by
 have HR:=hid R
 have BE:=both_eq H (all_at K.cw 7).1 (all_at K.cw 7).2
 have br:=both_range H
 have c2:w.cell? ⟨B.q,5,none⟩=some (.slice (some ⟨B.cg,0,none⟩) 11 B.ck):=R.v.cell 5 rfl
 obtain⟨z,hz⟩:∃g,gt H.csr 0=g:=⟨_,rfl⟩
 obtain⟨g7,hg7⟩:∃g,gt H.csr 7=g:=⟨_,rfl⟩
 obtain⟨pv,hp⟩:∃g,pendV H=g:=⟨_,rfl⟩
 obtain⟨bv,hb⟩:∃g,bothV H=g:=⟨_,rfl⟩
 have c7:w.cell? ⟨B.cg,7,none⟩=some (.int .i64 g7):=by rw[←hg7];exact R.hc.cell R.hc.len 7 (by decide)
 have c0:w.cell? ⟨B.cg,0,none⟩=some (.int .i64 z):=by rw[←hz];exact R.hc.cell R.hc.len 0 (by decide)
 have z0:0≤z:=by rw[←hz];exact(all_at K.cw 0).1
 have z9:z≤4294967295:=by rw[←hz];exact(all_at K.cw 0).2
 have t2:z.tmod 2=z%2:=Int.tmod_eq_emod_of_nonneg z0
 have HPV:=hid hp
 have HZ:=hid hz
 have HB:=hid hb
 rw[hg7,hp,hb]at BE
 rw[hb]at br
 clear R K hz hg7 hp hb
 by_cases hev:z%2=0
 ·have HE:Hid (dueV H= -1):=due_even (by rw[HZ.out];exact hev)
  go_enter Tryz.func59,Tryz.ntmps59
  go_wp2_with fail
  go_region_with (go_at_call 61;refine(z_pending (by first|exact HR.out|exact HR.out.dr)).mono ?_;rintro e y ⟨rfl,by1⟩;rw[HPV.out];have c2:=cell_keep by1 c2;have c7:=cell_keep by1 c7;have c0:=cell_keep by1 c0;have BY:Hid (Below w.heap.size w y):=(by first|exact by1|exact on (Below.refl _ _).drew by1);clear by1)
  all_goals go_wp2_with fail
  all_goals go_ret
  all_goals exact⟨ret_i HE.out.symm,(by first|exact BY.out|exact BY.out.drew)⟩
 have hod:(z%2==0)=false:=by simp[hev]
 have NE:Hid (¬gt H.csr 0%2=0):=by rw[HZ.out];exact hev
 have e:bv=0∨bv=1∨bv=2∨bv=3∨bv=4∨bv=5∨bv=6∨bv=7:=by omega
 rcases e with rfl|rfl|rfl|rfl|rfl|rfl|rfl|rfl
 ·have HE:Hid (dueV H= -1):=due_none HB.out
  have a0:bits BinOp.and IntKind.i64 0 1=0:=by decide
  have a1:bits BinOp.and IntKind.i64 1 1=1:=by decide
  have a2:bits BinOp.and IntKind.i64 2 1=0:=by decide
  have a3:bits BinOp.and IntKind.i64 3 1=1:=by decide
  have a4:bits BinOp.and IntKind.i64 4 1=0:=by decide
  have a5:bits BinOp.and IntKind.i64 5 1=1:=by decide
  have a6:bits BinOp.and IntKind.i64 6 1=0:=by decide
  have a7:bits BinOp.and IntKind.i64 7 1=1:=by decide
  go_enter Tryz.func59,Tryz.ntmps59
  go_wp2_with fail
  go_region_with (go_at_call 61;refine(z_pending (by first|exact HR.out|exact HR.out.dr)).mono ?_;rintro e y ⟨rfl,by1⟩;rw[HPV.out];have c2:=cell_keep by1 c2;have c7:=cell_keep by1 c7;have c0:=cell_keep by1 c0;have BY:Hid (Below w.heap.size w y):=(by first|exact by1|exact on (Below.refl _ _).drew by1);clear by1)
  all_goals go_wp2_with fail
  all_goals
   go_loop [4] (fun i=>∃j:Nat,j≤3∧i=.int .i64 j) (fun i=>3-(intOf i).toNat)
   case atStart=>exact⟨0,Nat.zero_le _,rfl⟩
   case round=>
    obtain⟨j,hj,rfl⟩:=hrel
    have ej:j=0∨j=1∨j=2∨j=3:=by omega
    rcases ej with rfl|rfl|rfl|rfl
    ·go_wp2_with fail
     go_round
     case rel=>exact⟨1,by omega,by go_num⟩
     case measure=>simp[intOf]
    ·go_wp2_with fail
     go_round
     case rel=>exact⟨2,by omega,by go_num⟩
     case measure=>simp[intOf]
    ·go_wp2_with fail
     go_round
     case rel=>exact⟨3,by omega,by go_num⟩
     case measure=>simp[intOf]
    ·go_wp2_with fail
     go_ret
     exact⟨ret_i HE.out.symm,(by first|exact BY.out|exact BY.out.drew)⟩
 ·have HE:Hid (dueV H=0):=(due_some NE.out HB.out (by decide)).trans (by decide)
  have a0:bits BinOp.and IntKind.i64 0 1=0:=by decide
  have a1:bits BinOp.and IntKind.i64 1 1=1:=by decide
  have a2:bits BinOp.and IntKind.i64 2 1=0:=by decide
  have a3:bits BinOp.and IntKind.i64 3 1=1:=by decide
  have a4:bits BinOp.and IntKind.i64 4 1=0:=by decide
  have a5:bits BinOp.and IntKind.i64 5 1=1:=by decide
  have a6:bits BinOp.and IntKind.i64 6 1=0:=by decide
  have a7:bits BinOp.and IntKind.i64 7 1=1:=by decide
  go_enter Tryz.func59,Tryz.ntmps59
  go_wp2_with fail
  go_region_with (go_at_call 61;refine(z_pending (by first|exact HR.out|exact HR.out.dr)).mono ?_;rintro e y ⟨rfl,by1⟩;rw[HPV.out];have c2:=cell_keep by1 c2;have c7:=cell_keep by1 c7;have c0:=cell_keep by1 c0;have BY:Hid (Below w.heap.size w y):=(by first|exact by1|exact on (Below.refl _ _).drew by1);clear by1)
  all_goals go_wp2_with fail
  all_goals
   go_loop [4] (fun i=>∃j:Nat,j≤0∧i=.int .i64 j) (fun i=>3-(intOf i).toNat)
   case atStart=>exact⟨0,Nat.zero_le _,rfl⟩
   case round=>
    obtain⟨j,hj,rfl⟩:=hrel
    have ej:j=0:=by omega
    rcases ej with rfl
    ·go_wp2_with fail
     go_ret
     exact⟨ret_i HE.out.symm,(by first|exact BY.out|exact BY.out.drew)⟩
 ·have HE:Hid (dueV H=1):=(due_some NE.out HB.out (by decide)).trans (by decide)
  have a0:bits BinOp.and IntKind.i64 0 1=0:=by decide
  have a1:bits BinOp.and IntKind.i64 1 1=1:=by decide
  have a2:bits BinOp.and IntKind.i64 2 1=0:=by decide
  have a3:bits BinOp.and IntKind.i64 3 1=1:=by decide
  have a4:bits BinOp.and IntKind.i64 4 1=0:=by decide
  have a5:bits BinOp.and IntKind.i64 5 1=1:=by decide
  have a6:bits BinOp.and IntKind.i64 6 1=0:=by decide
  have a7:bits BinOp.and IntKind.i64 7 1=1:=by decide
  go_enter Tryz.func59,Tryz.ntmps59
  go_wp2_with fail
  go_region_with (go_at_call 61;refine(z_pending (by first|exact HR.out|exact HR.out.dr)).mono ?_;rintro e y ⟨rfl,by1⟩;rw[HPV.out];have c2:=cell_keep by1 c2;have c7:=cell_keep by1 c7;have c0:=cell_keep by1 c0;have BY:Hid (Below w.heap.size w y):=(by first|exact by1|exact on (Below.refl _ _).drew by1);clear by1)
  all_goals go_wp2_with fail
  all_goals
   go_loop [4] (fun i=>∃j:Nat,j≤1∧i=.int .i64 j) (fun i=>3-(intOf i).toNat)
   case atStart=>exact⟨0,Nat.zero_le _,rfl⟩
   case round=>
    obtain⟨j,hj,rfl⟩:=hrel
    have ej:j=0∨j=1:=by omega
    rcases ej with rfl|rfl
    ·go_wp2_with fail
     go_round
     case rel=>exact⟨1,by omega,by go_num⟩
     case measure=>simp[intOf]
    ·go_wp2_with fail
     go_ret
     exact⟨ret_i HE.out.symm,(by first|exact BY.out|exact BY.out.drew)⟩
 ·have HE:Hid (dueV H=0):=(due_some NE.out HB.out (by decide)).trans (by decide)
  have a0:bits BinOp.and IntKind.i64 0 1=0:=by decide
  have a1:bits BinOp.and IntKind.i64 1 1=1:=by decide
  have a2:bits BinOp.and IntKind.i64 2 1=0:=by decide
  have a3:bits BinOp.and IntKind.i64 3 1=1:=by decide
  have a4:bits BinOp.and IntKind.i64 4 1=0:=by decide
  have a5:bits BinOp.and IntKind.i64 5 1=1:=by decide
  have a6:bits BinOp.and IntKind.i64 6 1=0:=by decide
  have a7:bits BinOp.and IntKind.i64 7 1=1:=by decide
  go_enter Tryz.func59,Tryz.ntmps59
  go_wp2_with fail
  go_region_with (go_at_call 61;refine(z_pending (by first|exact HR.out|exact HR.out.dr)).mono ?_;rintro e y ⟨rfl,by1⟩;rw[HPV.out];have c2:=cell_keep by1 c2;have c7:=cell_keep by1 c7;have c0:=cell_keep by1 c0;have BY:Hid (Below w.heap.size w y):=(by first|exact by1|exact on (Below.refl _ _).drew by1);clear by1)
  all_goals go_wp2_with fail
  all_goals
   go_loop [4] (fun i=>∃j:Nat,j≤0∧i=.int .i64 j) (fun i=>3-(intOf i).toNat)
   case atStart=>exact⟨0,Nat.zero_le _,rfl⟩
   case round=>
    obtain⟨j,hj,rfl⟩:=hrel
    have ej:j=0:=by omega
    rcases ej with rfl
    ·go_wp2_with fail
     go_ret
     exact⟨ret_i HE.out.symm,(by first|exact BY.out|exact BY.out.drew)⟩
 ·have HE:Hid (dueV H=2):=(due_some NE.out HB.out (by decide)).trans (by decide)
  have a0:bits BinOp.and IntKind.i64 0 1=0:=by decide
  have a1:bits BinOp.and IntKind.i64 1 1=1:=by decide
  have a2:bits BinOp.and IntKind.i64 2 1=0:=by decide
  have a3:bits BinOp.and IntKind.i64 3 1=1:=by decide
  have a4:bits BinOp.and IntKind.i64 4 1=0:=by decide
  have a5:bits BinOp.and IntKind.i64 5 1=1:=by decide
  have a6:bits BinOp.and IntKind.i64 6 1=0:=by decide
  have a7:bits BinOp.and IntKind.i64 7 1=1:=by decide
  go_enter Tryz.func59,Tryz.ntmps59
  go_wp2_with fail
  go_region_with (go_at_call 61;refine(z_pending (by first|exact HR.out|exact HR.out.dr)).mono ?_;rintro e y ⟨rfl,by1⟩;rw[HPV.out];have c2:=cell_keep by1 c2;have c7:=cell_keep by1 c7;have c0:=cell_keep by1 c0;have BY:Hid (Below w.heap.size w y):=(by first|exact by1|exact on (Below.refl _ _).drew by1);clear by1)
  all_goals go_wp2_with fail
  all_goals
   go_loop [4] (fun i=>∃j:Nat,j≤2∧i=.int .i64 j) (fun i=>3-(intOf i).toNat)
   case atStart=>exact⟨0,Nat.zero_le _,rfl⟩
   case round=>
    obtain⟨j,hj,rfl⟩:=hrel
    have ej:j=0∨j=1∨j=2:=by omega
    rcases ej with rfl|rfl|rfl
    ·go_wp2_with fail
     go_round
     case rel=>exact⟨1,by omega,by go_num⟩
     case measure=>simp[intOf]
    ·go_wp2_with fail
     go_round
     case rel=>exact⟨2,by omega,by go_num⟩
     case measure=>simp[intOf]
    ·go_wp2_with fail
     go_ret
     exact⟨ret_i HE.out.symm,(by first|exact BY.out|exact BY.out.drew)⟩
 ·have HE:Hid (dueV H=0):=(due_some NE.out HB.out (by decide)).trans (by decide)
  have a0:bits BinOp.and IntKind.i64 0 1=0:=by decide
  have a1:bits BinOp.and IntKind.i64 1 1=1:=by decide
  have a2:bits BinOp.and IntKind.i64 2 1=0:=by decide
  have a3:bits BinOp.and IntKind.i64 3 1=1:=by decide
  have a4:bits BinOp.and IntKind.i64 4 1=0:=by decide
  have a5:bits BinOp.and IntKind.i64 5 1=1:=by decide
  have a6:bits BinOp.and IntKind.i64 6 1=0:=by decide
  have a7:bits BinOp.and IntKind.i64 7 1=1:=by decide
  go_enter Tryz.func59,Tryz.ntmps59
  go_wp2_with fail
  go_region_with (go_at_call 61;refine(z_pending (by first|exact HR.out|exact HR.out.dr)).mono ?_;rintro e y ⟨rfl,by1⟩;rw[HPV.out];have c2:=cell_keep by1 c2;have c7:=cell_keep by1 c7;have c0:=cell_keep by1 c0;have BY:Hid (Below w.heap.size w y):=(by first|exact by1|exact on (Below.refl _ _).drew by1);clear by1)
  all_goals go_wp2_with fail
  all_goals
   go_loop [4] (fun i=>∃j:Nat,j≤0∧i=.int .i64 j) (fun i=>3-(intOf i).toNat)
   case atStart=>exact⟨0,Nat.zero_le _,rfl⟩
   case round=>
    obtain⟨j,hj,rfl⟩:=hrel
    have ej:j=0:=by omega
    rcases ej with rfl
    ·go_wp2_with fail
     go_ret
     exact⟨ret_i HE.out.symm,(by first|exact BY.out|exact BY.out.drew)⟩
 ·have HE:Hid (dueV H=1):=(due_some NE.out HB.out (by decide)).trans (by decide)
  have a0:bits BinOp.and IntKind.i64 0 1=0:=by decide
  have a1:bits BinOp.and IntKind.i64 1 1=1:=by decide
  have a2:bits BinOp.and IntKind.i64 2 1=0:=by decide
  have a3:bits BinOp.and IntKind.i64 3 1=1:=by decide
  have a4:bits BinOp.and IntKind.i64 4 1=0:=by decide
  have a5:bits BinOp.and IntKind.i64 5 1=1:=by decide
  have a6:bits BinOp.and IntKind.i64 6 1=0:=by decide
  have a7:bits BinOp.and IntKind.i64 7 1=1:=by decide
  go_enter Tryz.func59,Tryz.ntmps59
  go_wp2_with fail
  go_region_with (go_at_call 61;refine(z_pending (by first|exact HR.out|exact HR.out.dr)).mono ?_;rintro e y ⟨rfl,by1⟩;rw[HPV.out];have c2:=cell_keep by1 c2;have c7:=cell_keep by1 c7;have c0:=cell_keep by1 c0;have BY:Hid (Below w.heap.size w y):=(by first|exact by1|exact on (Below.refl _ _).drew by1);clear by1)
  all_goals go_wp2_with fail
  all_goals
   go_loop [4] (fun i=>∃j:Nat,j≤1∧i=.int .i64 j) (fun i=>3-(intOf i).toNat)
   case atStart=>exact⟨0,Nat.zero_le _,rfl⟩
   case round=>
    obtain⟨j,hj,rfl⟩:=hrel
    have ej:j=0∨j=1:=by omega
    rcases ej with rfl|rfl
    ·go_wp2_with fail
     go_round
     case rel=>exact⟨1,by omega,by go_num⟩
     case measure=>simp[intOf]
    ·go_wp2_with fail
     go_ret
     exact⟨ret_i HE.out.symm,(by first|exact BY.out|exact BY.out.drew)⟩
 ·have HE:Hid (dueV H=0):=(due_some NE.out HB.out (by decide)).trans (by decide)
  have a0:bits BinOp.and IntKind.i64 0 1=0:=by decide
  have a1:bits BinOp.and IntKind.i64 1 1=1:=by decide
  have a2:bits BinOp.and IntKind.i64 2 1=0:=by decide
  have a3:bits BinOp.and IntKind.i64 3 1=1:=by decide
  have a4:bits BinOp.and IntKind.i64 4 1=0:=by decide
  have a5:bits BinOp.and IntKind.i64 5 1=1:=by decide
  have a6:bits BinOp.and IntKind.i64 6 1=0:=by decide
  have a7:bits BinOp.and IntKind.i64 7 1=1:=by decide
  go_enter Tryz.func59,Tryz.ntmps59
  go_wp2_with fail
  go_region_with (go_at_call 61;refine(z_pending (by first|exact HR.out|exact HR.out.dr)).mono ?_;rintro e y ⟨rfl,by1⟩;rw[HPV.out];have c2:=cell_keep by1 c2;have c7:=cell_keep by1 c7;have c0:=cell_keep by1 c0;have BY:Hid (Below w.heap.size w y):=(by first|exact by1|exact on (Below.refl _ _).drew by1);clear by1)
  all_goals go_wp2_with fail
  all_goals
   go_loop [4] (fun i=>∃j:Nat,j≤0∧i=.int .i64 j) (fun i=>3-(intOf i).toNat)
   case atStart=>exact⟨0,Nat.zero_le _,rfl⟩
   case round=>
    obtain⟨j,hj,rfl⟩:=hrel
    have ej:j=0:=by omega
    rcases ej with rfl
    ·go_wp2_with fail
     go_ret
     exact⟨ret_i HE.out.symm,(by first|exact BY.out|exact BY.out.drew)⟩
end Go.Proofs.YtaefollmeoepkaaGreatDoor
