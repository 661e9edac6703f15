import Derived.Test.YtaefollmeoepkaaGreatDoorQ34
namespace Go.Proofs.YtaefollmeoepkaaGreatDoor
set_option maxRecDepth 20000
set_option maxHeartbeats 16000000
open Go.RowKit
set_option linter.unusedVariables false
def deedT(op:Int):TypeId:=if op=12 then 155 else if op=13 then 156 else if op=14 then 157 else if op=15 then 158 else if op=16 then 159 else if op=17 then 161 else if op=18 then 162 else if op=19 then 163 else if op=20 then 164 else if op=21 then 165 else if op=22 then 166 else if op=23 then 167 else if op=24 then 168 else if op=25 then 169 else if op=26 then 170 else 153
theorem i_deed(op d a im:Int)(w:World):Calls Tryz.prog 76 #[.agg #[.int .i64 op,.int .i64 d,.int .i64 a,.int .i64 im]] w fun e w'=>e=.returned (.iface (deedT op) (.agg #[.int .i64 op,.int .i64 d,.int .i64 a,.int .i64 im]))∧Below w.heap.size w w':=by
 by_cases k12:op=12
 ·subst k12
  go_enter Tryz.func76,Tryz.ntmps76
  go_wp2_with fail
  go_ret
  exact⟨rfl,al (al (Below.refl _ _) _) _⟩
 by_cases k13:op=13
 ·subst k13
  go_enter Tryz.func76,Tryz.ntmps76
  go_wp2_with fail
  go_ret
  exact⟨rfl,al (al (Below.refl _ _) _) _⟩
 by_cases k14:op=14
 ·subst k14
  go_enter Tryz.func76,Tryz.ntmps76
  go_wp2_with fail
  go_ret
  exact⟨rfl,al (al (Below.refl _ _) _) _⟩
 by_cases k15:op=15
 ·subst k15
  go_enter Tryz.func76,Tryz.ntmps76
  go_wp2_with fail
  go_ret
  exact⟨rfl,al (al (Below.refl _ _) _) _⟩
 by_cases k16:op=16
 ·subst k16
  go_enter Tryz.func76,Tryz.ntmps76
  go_wp2_with fail
  go_ret
  exact⟨rfl,al (al (Below.refl _ _) _) _⟩
 by_cases k17:op=17
 ·subst k17
  go_enter Tryz.func76,Tryz.ntmps76
  go_wp2_with fail
  go_ret
  exact⟨rfl,al (al (Below.refl _ _) _) _⟩
 by_cases k18:op=18
 ·subst k18
  go_enter Tryz.func76,Tryz.ntmps76
  go_wp2_with fail
  go_ret
  exact⟨rfl,al (al (Below.refl _ _) _) _⟩
 by_cases k19:op=19
 ·subst k19
  go_enter Tryz.func76,Tryz.ntmps76
  go_wp2_with fail
  go_ret
  exact⟨rfl,al (al (Below.refl _ _) _) _⟩
 by_cases k20:op=20
 ·subst k20
  go_enter Tryz.func76,Tryz.ntmps76
  go_wp2_with fail
  go_ret
  exact⟨rfl,al (al (Below.refl _ _) _) _⟩
 by_cases k21:op=21
 ·subst k21
  go_enter Tryz.func76,Tryz.ntmps76
  go_wp2_with fail
  go_ret
  exact⟨rfl,al (al (Below.refl _ _) _) _⟩
 by_cases k22:op=22
 ·subst k22
  go_enter Tryz.func76,Tryz.ntmps76
  go_wp2_with fail
  go_ret
  exact⟨rfl,al (al (Below.refl _ _) _) _⟩
 by_cases k23:op=23
 ·subst k23
  go_enter Tryz.func76,Tryz.ntmps76
  go_wp2_with fail
  go_ret
  exact⟨rfl,al (al (Below.refl _ _) _) _⟩
 by_cases k24:op=24
 ·subst k24
  go_enter Tryz.func76,Tryz.ntmps76
  go_wp2_with fail
  go_ret
  exact⟨rfl,al (al (Below.refl _ _) _) _⟩
 by_cases k25:op=25
 ·subst k25
  go_enter Tryz.func76,Tryz.ntmps76
  go_wp2_with fail
  go_ret
  exact⟨rfl,al (al (Below.refl _ _) _) _⟩
 by_cases k26:op=26
 ·subst k26
  go_enter Tryz.func76,Tryz.ntmps76
  go_wp2_with fail
  go_ret
  exact⟨rfl,al (al (Below.refl _ _) _) _⟩
 have n12:(op==12)=false:=by simpa using k12
 have n13:(op==13)=false:=by simpa using k13
 have n14:(op==14)=false:=by simpa using k14
 have n15:(op==15)=false:=by simpa using k15
 have n16:(op==16)=false:=by simpa using k16
 have n17:(op==17)=false:=by simpa using k17
 have n18:(op==18)=false:=by simpa using k18
 have n19:(op==19)=false:=by simpa using k19
 have n20:(op==20)=false:=by simpa using k20
 have n21:(op==21)=false:=by simpa using k21
 have n22:(op==22)=false:=by simpa using k22
 have n23:(op==23)=false:=by simpa using k23
 have n24:(op==24)=false:=by simpa using k24
 have n25:(op==25)=false:=by simpa using k25
 have n26:(op==26)=false:=by simpa using k26
 have HD:Hid (deedT op=153):=by show _=_;simp[deedT,k12,k13,k14,k15,k16,k17,k18,k19,k20,k21,k22,k23,k24,k25,k26]
 clear k12 k13 k14 k15 k16 k17 k18 k19 k20 k21 k22 k23 k24 k25 k26
 go_enter Tryz.func76,Tryz.ntmps76
 go_wp2_with fail
 go_ret
 exact⟨by rw[HD.out];rfl,al (al (Below.refl _ _) _) _⟩
end Go.Proofs.YtaefollmeoepkaaGreatDoor
