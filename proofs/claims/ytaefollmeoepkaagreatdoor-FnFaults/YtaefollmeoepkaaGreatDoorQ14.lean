import Derived.Test.YtaefollmeoepkaaGreatDoorQ12
namespace Go.Proofs.YtaefollmeoepkaaGreatDoor
set_option maxRecDepth 20000
set_option maxHeartbeats 16000000
open Go.RowKit
theorem spec_insFault_in(op d a imm:Int)(w:World)(h:1≤op∧op≤26∧0≤d∧d≤15∧0≤a∧a≤15∧0≤imm∧imm≤65535):
  Calls Tryz.prog 99 #[.agg #[.int .i64 op,.int .i64 d,.int .i64 a,.int .i64 imm]] w fun e w'=>e=.returned (.int .i64 (insC op d a imm))∧Below w.heap.size w w':=by
 have hi:Hid (_↔_):=insC_zero h
 have h3:Hid (insC op d a imm=0∨insC op d a imm=1):=by rw[insC,if_pos h];show _∨_;split<;>simp
 have hh:Hid _:=h
 have hcl:=op_class (op:=op) ⟨h.1,h.2.1⟩
 have i1:inB op 1 26=true:=inB_true (by omega)
 have i2:inB d 0 15=true:=inB_true (by omega)
 have i3:inB a 0 15=true:=inB_true (by omega)
 have i4:inB imm 0 65535=true:=inB_true (by omega)
 have hb:=fun w=>spec_bare op w ⟨h.1,h.2.1⟩
 clear h
 generalize insC op d a imm=c at*
 obtain⟨x,hx⟩:∃x,bareD op=x:=⟨_,rfl⟩
 obtain⟨y,hy⟩:∃y,bareA op=y:=⟨_,rfl⟩
 obtain⟨z,hz⟩:∃z,bareI op=z:=⟨_,rfl⟩
 rw[hx,hy,hz]at hb
 rcases hcl with rfl|rfl|rfl|rfl|rfl|rfl|rfl|rfl|⟨g1,g2,g3,g4,g5,g6,g7,g8,g9⟩
 rotate_right 1
 ·obtain rfl:false=x:=by rw[←hx];exact(decide_eq_false (by have g9:=g9.out;omega)).symm
  obtain rfl:false=y:=by rw[←hy];exact(decide_eq_false (by have g9:=g9.out;omega)).symm
  obtain rfl:false=z:=by rw[←hz];exact(decide_eq_false (by have g9:=g9.out;omega)).symm
  clear hx hy hz
  go_enter Tryz.func99,Tryz.ntmps99
  go_wp2_with (first|(go_at_call 131;refine(hb _).mono ?_;rintro e w1 ⟨rfl,rfl⟩)|(go_at_call 38;refine(spec_inI _ _ _ _).mono ?_;rintro e w1 ⟨rfl,rfl⟩))
  all_goals go_ret
  all_goals refine⟨congrArg (fun b=>Ending.returned (Value.int .i64 b)) ?_,((Below.refl _ _).alloc (Nat.le_refl _) _)⟩
  all_goals have hi:=hi.out
  all_goals have hh:=hh.out
  all_goals have h3:=h3.out
  all_goals have g9:=g9.out
  all_goals omega
 all_goals
  obtain rfl:_=x:=hx
  obtain rfl:_=y:=hy
  obtain rfl:_=z:=hz
 all_goals
  go_enter Tryz.func99,Tryz.ntmps99
  go_wp2_with (first|(go_at_call 131;refine(hb _).mono ?_;rintro e w1 ⟨rfl,rfl⟩)|(go_at_call 38;refine(spec_inI _ _ _ _).mono ?_;rintro e w1 ⟨rfl,rfl⟩))
 all_goals go_ret
 all_goals refine⟨congrArg (fun b=>Ending.returned (Value.int .i64 b)) ?_,((Below.refl _ _).alloc (Nat.le_refl _) _)⟩
 all_goals have hi:=hi.out
 all_goals have hh:=hh.out
 all_goals have h3:=h3.out
 all_goals first|omega|(simp at hi;omega)|skip
theorem spec_insFault(op d a imm:Int)(w:World):
  Calls Tryz.prog 99 #[.agg #[.int .i64 op,.int .i64 d,.int .i64 a,.int .i64 imm]] w fun e w'=>e=.returned (.int .i64 (insC op d a imm))∧Below w.heap.size w w':=by
 by_cases h:1≤op∧op≤26∧0≤d∧d≤15∧0≤a∧a≤15∧0≤imm∧imm≤65535
 ·exact spec_insFault_in op d a imm w h
 ·rw[insC_3 h]
  have hcl:inB op 1 26=false∨inB op 1 26=true∧(inB d 0 15=false∨inB d 0 15=true∧(inB a 0 15=false∨inB a 0 15=true∧inB imm 0 65535=false)):=by
   simp only[inB,decide_eq_true_eq,decide_eq_false_iff_not]
   omega
  clear h
  rcases hcl with i1|⟨i1,i2|⟨i2,i3|⟨i3,i4⟩⟩⟩
  all_goals
   go_enter Tryz.func99,Tryz.ntmps99
   go_wp2_with (go_at_call 38;refine(spec_inI _ _ _ _).mono ?_;rintro e w1 ⟨rfl,rfl⟩)
  all_goals go_ret
  all_goals exact⟨rfl,((Below.refl _ _).alloc (Nat.le_refl _) _)⟩
end Go.Proofs.YtaefollmeoepkaaGreatDoor
