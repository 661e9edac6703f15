import Derived.Test.YtaefollmeoepkaaGreatDoorQ39
import Derived.Test.YtaefollmeoepkaaGreatDoorQ40
namespace Go.Proofs.YtaefollmeoepkaaGreatDoor
set_option maxRecDepth 20000
set_option maxHeartbeats 16000000
open Go.RowKit
set_option linter.unusedVariables false
structure Dr where
 t:Option (Int×Int)
 next:Int
 H:Ht
 zs:List Int
 ri:Int
def Dr.e(x:Dr):Ending:=match x.t with|none=> .returned (.int .i64 x.next)|some (c,t)=>pan c t
def doV(H:Ht)(ps:List (Int×Int))(zs:List Int)(ri:Int)(op:Int)(d a:Nat)(im:Int):Dr:=if op=12 then⟨none,(addV H.pc 1),putV H d (addV (gt H.regs a) (offV im)),zs,ri⟩else if op=13 then⟨none,(addV H.pc 1),putV H d (im*65536),zs,ri⟩else if op=14 then(if plC H ps zs (addV (gt H.regs a) (offV im)) 1=0 then⟨none,(addV H.pc 1),putV (loadH H ps zs (addV (gt H.regs a) (offV im))) d (loadW H ps zs (addV (gt H.regs a) (offV im))),zs,ri⟩else⟨some (3,(addV (gt H.regs a) (offV im))),0,H,zs,ri⟩)else if op=15 then(if plC H ps zs (addV (gt H.regs a) (offV im)) 2=0 then⟨none,(addV H.pc 1),storeH H ps zs (addV (gt H.regs a) (offV im)) (gt H.regs d),storeZ H ps zs (addV (gt H.regs a) (offV im)) (gt H.regs d),storeR H ps zs (addV (gt H.regs a) (offV im)) (gt H.regs d) ri⟩else⟨some (4,(addV (gt H.regs a) (offV im))),0,H,zs,ri⟩)else if op=16 then⟨none,brV (gt H.regs d==gt H.regs a) (addV H.pc (offV im)) (addV H.pc 1),H,zs,ri⟩else if op=17 then⟨none,brV (gt H.regs d !=gt H.regs a) (addV H.pc (offV im)) (addV H.pc 1),H,zs,ri⟩else if op=18 then⟨none,brV (decide (sgn (gt H.regs d)<sgn (gt H.regs a))) (addV H.pc (offV im)) (addV H.pc 1),H,zs,ri⟩else if op=19 then⟨none,addV H.pc (offV im),putV H d (addV H.pc 1),zs,ri⟩else if op=20 then⟨none,(addV (gt H.regs a) (offV im)),putV H d (addV H.pc 1),zs,ri⟩else if op=21 then⟨none,(addV H.pc 1),putV H d (getV H im),zs,ri⟩else if op=22 then⟨none,(addV H.pc 1),setW H im (gt H.regs a),zs,ri⟩else if op=23 then⟨some (5,0),0,H,zs,ri⟩else if op=24 then⟨none,(backV H).pc,backV H,zs,ri⟩else if op=25 then⟨none,(addV H.pc 1),{ H with waiting:=true},zs,ri⟩else if op=26 then⟨none,H.pc,{ H with halted:=true},zs,ri⟩else⟨none,(addV H.pc 1),putV H d (aluV op (gt H.regs a) (gt H.regs im.toNat)),zs,ri⟩
theorem dov_12{w:World}{base q:Nat}{i o:Value}{pg pc:Nat}{ps:List (Int×Int)}{g p:Nat}{zs:List Int}{X:Nat→Prop}{H:Ht}{ca ri:Int}(R:Rw w base q i o pg pc ps g p zs H ca ri X)(d a:Nat)(im:Int)(hd:d<16)(ha:a<16)(h0:0≤im)(h1:im≤65535)(h10:(12:Int)=21∨(12:Int)=22→im≤10):
  Calls Tryz.prog 75 #[.pointer (some ⟨q,0,none⟩),.iface (deedT 12) (.agg #[.int .i64 12,.int .i64 (d:Int),.int .i64 (a:Int),.int .i64 im])] w fun e w'=>e=(doV H ps zs ri 12 d a im).e∧∃i' o',Rw w' base q i' o' pg pc ps g p (doV H ps zs ri 12 d a im).zs (doV H ps zs ri 12 d a im).H ca (doV H ps zs ri 12 d a im).ri X∧Below base w w':=by
 rw[show deedT 12=155 from rfl]
 refine(do_adds R 12 d a im hd ha).mono ?_
 rintro e x⟨rfl,r,b⟩
 exact⟨rfl,i,o,r,b⟩
theorem dov_13{w:World}{base q:Nat}{i o:Value}{pg pc:Nat}{ps:List (Int×Int)}{g p:Nat}{zs:List Int}{X:Nat→Prop}{H:Ht}{ca ri:Int}(R:Rw w base q i o pg pc ps g p zs H ca ri X)(d a:Nat)(im:Int)(hd:d<16)(ha:a<16)(h0:0≤im)(h1:im≤65535)(h10:(13:Int)=21∨(13:Int)=22→im≤10):
  Calls Tryz.prog 75 #[.pointer (some ⟨q,0,none⟩),.iface (deedT 13) (.agg #[.int .i64 13,.int .i64 (d:Int),.int .i64 (a:Int),.int .i64 im])] w fun e w'=>e=(doV H ps zs ri 13 d a im).e∧∃i' o',Rw w' base q i' o' pg pc ps g p (doV H ps zs ri 13 d a im).zs (doV H ps zs ri 13 d a im).H ca (doV H ps zs ri 13 d a im).ri X∧Below base w w':=by
 rw[show deedT 13=156 from rfl]
 refine(do_lifts R 13 d a im (by omega) h0 h1).mono ?_
 rintro e x⟨rfl,r,b⟩
 exact⟨rfl,i,o,r,b⟩
theorem dov_14{w:World}{base q:Nat}{i o:Value}{pg pc:Nat}{ps:List (Int×Int)}{g p:Nat}{zs:List Int}{X:Nat→Prop}{H:Ht}{ca ri:Int}(R:Rw w base q i o pg pc ps g p zs H ca ri X)(d a:Nat)(im:Int)(hd:d<16)(ha:a<16)(h0:0≤im)(h1:im≤65535)(h10:(14:Int)=21∨(14:Int)=22→im≤10):
  Calls Tryz.prog 75 #[.pointer (some ⟨q,0,none⟩),.iface (deedT 14) (.agg #[.int .i64 14,.int .i64 (d:Int),.int .i64 (a:Int),.int .i64 im])] w fun e w'=>e=(doV H ps zs ri 14 d a im).e∧∃i' o',Rw w' base q i' o' pg pc ps g p (doV H ps zs ri 14 d a im).zs (doV H ps zs ri 14 d a im).H ca (doV H ps zs ri 14 d a im).ri X∧Below base w w':=by
 rw[show deedT 14=157 from rfl]
 have hv:doV H ps zs ri 14 d a im=if plC H ps zs (addV (gt H.regs a) (offV im)) 1=0 then⟨none,(addV H.pc 1),putV (loadH H ps zs (addV (gt H.regs a) (offV im))) d (loadW H ps zs (addV (gt H.regs a) (offV im))),zs,ri⟩else⟨some (3,(addV (gt H.regs a) (offV im))),0,H,zs,ri⟩:=rfl
 by_cases hz:plC H ps zs (addV (gt H.regs a) (offV im)) 1=0
 ·rw[hv,if_pos hz]
  refine(do_loadsOk R 14 d a im hd ha hz).mono ?_
  rintro e x⟨rfl,i2,r,b⟩
  exact⟨rfl,i2,o,r,b⟩
 ·rw[hv,if_neg hz]
  refine(do_loadsNo R 14 d a im ha hz).mono ?_
  rintro e x⟨rfl,r,b⟩
  exact⟨rfl,i,o,r,b⟩
theorem dov_15{w:World}{base q:Nat}{i o:Value}{pg pc:Nat}{ps:List (Int×Int)}{g p:Nat}{zs:List Int}{X:Nat→Prop}{H:Ht}{ca ri:Int}(R:Rw w base q i o pg pc ps g p zs H ca ri X)(d a:Nat)(im:Int)(hd:d<16)(ha:a<16)(h0:0≤im)(h1:im≤65535)(h10:(15:Int)=21∨(15:Int)=22→im≤10):
  Calls Tryz.prog 75 #[.pointer (some ⟨q,0,none⟩),.iface (deedT 15) (.agg #[.int .i64 15,.int .i64 (d:Int),.int .i64 (a:Int),.int .i64 im])] w fun e w'=>e=(doV H ps zs ri 15 d a im).e∧∃i' o',Rw w' base q i' o' pg pc ps g p (doV H ps zs ri 15 d a im).zs (doV H ps zs ri 15 d a im).H ca (doV H ps zs ri 15 d a im).ri X∧Below base w w':=by
 rw[show deedT 15=158 from rfl]
 have hv:doV H ps zs ri 15 d a im=if plC H ps zs (addV (gt H.regs a) (offV im)) 2=0 then⟨none,(addV H.pc 1),storeH H ps zs (addV (gt H.regs a) (offV im)) (gt H.regs d),storeZ H ps zs (addV (gt H.regs a) (offV im)) (gt H.regs d),storeR H ps zs (addV (gt H.regs a) (offV im)) (gt H.regs d) ri⟩else⟨some (4,(addV (gt H.regs a) (offV im))),0,H,zs,ri⟩:=rfl
 by_cases hz:plC H ps zs (addV (gt H.regs a) (offV im)) 2=0
 ·rw[hv,if_pos hz]
  refine(do_storesOk R 15 d a im hd ha hz).mono ?_
  rintro e x⟨rfl,i2,r,b⟩
  exact⟨rfl,i,i2,r,b⟩
 ·rw[hv,if_neg hz]
  refine(do_storesNo R 15 d a im hd ha hz).mono ?_
  rintro e x⟨rfl,r,b⟩
  exact⟨rfl,i,o,r,b⟩
theorem dov_16{w:World}{base q:Nat}{i o:Value}{pg pc:Nat}{ps:List (Int×Int)}{g p:Nat}{zs:List Int}{X:Nat→Prop}{H:Ht}{ca ri:Int}(R:Rw w base q i o pg pc ps g p zs H ca ri X)(d a:Nat)(im:Int)(hd:d<16)(ha:a<16)(h0:0≤im)(h1:im≤65535)(h10:(16:Int)=21∨(16:Int)=22→im≤10):
  Calls Tryz.prog 75 #[.pointer (some ⟨q,0,none⟩),.iface (deedT 16) (.agg #[.int .i64 16,.int .i64 (d:Int),.int .i64 (a:Int),.int .i64 im])] w fun e w'=>e=(doV H ps zs ri 16 d a im).e∧∃i' o',Rw w' base q i' o' pg pc ps g p (doV H ps zs ri 16 d a im).zs (doV H ps zs ri 16 d a im).H ca (doV H ps zs ri 16 d a im).ri X∧Below base w w':=by
 rw[show deedT 16=159 from rfl]
 refine(do_ifSame R 16 d a im hd ha).mono ?_
 rintro e x⟨rfl,r,b⟩
 exact⟨rfl,i,o,r,b⟩
theorem dov_17{w:World}{base q:Nat}{i o:Value}{pg pc:Nat}{ps:List (Int×Int)}{g p:Nat}{zs:List Int}{X:Nat→Prop}{H:Ht}{ca ri:Int}(R:Rw w base q i o pg pc ps g p zs H ca ri X)(d a:Nat)(im:Int)(hd:d<16)(ha:a<16)(h0:0≤im)(h1:im≤65535)(h10:(17:Int)=21∨(17:Int)=22→im≤10):
  Calls Tryz.prog 75 #[.pointer (some ⟨q,0,none⟩),.iface (deedT 17) (.agg #[.int .i64 17,.int .i64 (d:Int),.int .i64 (a:Int),.int .i64 im])] w fun e w'=>e=(doV H ps zs ri 17 d a im).e∧∃i' o',Rw w' base q i' o' pg pc ps g p (doV H ps zs ri 17 d a im).zs (doV H ps zs ri 17 d a im).H ca (doV H ps zs ri 17 d a im).ri X∧Below base w w':=by
 rw[show deedT 17=161 from rfl]
 refine(do_ifOther R 17 d a im hd ha).mono ?_
 rintro e x⟨rfl,r,b⟩
 exact⟨rfl,i,o,r,b⟩
theorem dov_18{w:World}{base q:Nat}{i o:Value}{pg pc:Nat}{ps:List (Int×Int)}{g p:Nat}{zs:List Int}{X:Nat→Prop}{H:Ht}{ca ri:Int}(R:Rw w base q i o pg pc ps g p zs H ca ri X)(d a:Nat)(im:Int)(hd:d<16)(ha:a<16)(h0:0≤im)(h1:im≤65535)(h10:(18:Int)=21∨(18:Int)=22→im≤10):
  Calls Tryz.prog 75 #[.pointer (some ⟨q,0,none⟩),.iface (deedT 18) (.agg #[.int .i64 18,.int .i64 (d:Int),.int .i64 (a:Int),.int .i64 im])] w fun e w'=>e=(doV H ps zs ri 18 d a im).e∧∃i' o',Rw w' base q i' o' pg pc ps g p (doV H ps zs ri 18 d a im).zs (doV H ps zs ri 18 d a im).H ca (doV H ps zs ri 18 d a im).ri X∧Below base w w':=by
 rw[show deedT 18=162 from rfl]
 refine(do_ifLess R 18 d a im hd ha).mono ?_
 rintro e x⟨rfl,r,b⟩
 exact⟨rfl,i,o,r,b⟩
theorem dov_19{w:World}{base q:Nat}{i o:Value}{pg pc:Nat}{ps:List (Int×Int)}{g p:Nat}{zs:List Int}{X:Nat→Prop}{H:Ht}{ca ri:Int}(R:Rw w base q i o pg pc ps g p zs H ca ri X)(d a:Nat)(im:Int)(hd:d<16)(ha:a<16)(h0:0≤im)(h1:im≤65535)(h10:(19:Int)=21∨(19:Int)=22→im≤10):
  Calls Tryz.prog 75 #[.pointer (some ⟨q,0,none⟩),.iface (deedT 19) (.agg #[.int .i64 19,.int .i64 (d:Int),.int .i64 (a:Int),.int .i64 im])] w fun e w'=>e=(doV H ps zs ri 19 d a im).e∧∃i' o',Rw w' base q i' o' pg pc ps g p (doV H ps zs ri 19 d a im).zs (doV H ps zs ri 19 d a im).H ca (doV H ps zs ri 19 d a im).ri X∧Below base w w':=by
 rw[show deedT 19=163 from rfl]
 refine(do_jumps R 19 d a im (by omega)).mono ?_
 rintro e x⟨rfl,r,b⟩
 exact⟨rfl,i,o,r,b⟩
theorem dov_20{w:World}{base q:Nat}{i o:Value}{pg pc:Nat}{ps:List (Int×Int)}{g p:Nat}{zs:List Int}{X:Nat→Prop}{H:Ht}{ca ri:Int}(R:Rw w base q i o pg pc ps g p zs H ca ri X)(d a:Nat)(im:Int)(hd:d<16)(ha:a<16)(h0:0≤im)(h1:im≤65535)(h10:(20:Int)=21∨(20:Int)=22→im≤10):
  Calls Tryz.prog 75 #[.pointer (some ⟨q,0,none⟩),.iface (deedT 20) (.agg #[.int .i64 20,.int .i64 (d:Int),.int .i64 (a:Int),.int .i64 im])] w fun e w'=>e=(doV H ps zs ri 20 d a im).e∧∃i' o',Rw w' base q i' o' pg pc ps g p (doV H ps zs ri 20 d a im).zs (doV H ps zs ri 20 d a im).H ca (doV H ps zs ri 20 d a im).ri X∧Below base w w':=by
 rw[show deedT 20=164 from rfl]
 refine(do_jumpsBy R 20 d a im hd ha).mono ?_
 rintro e x⟨rfl,r,b⟩
 exact⟨rfl,i,o,r,b⟩
theorem dov_21{w:World}{base q:Nat}{i o:Value}{pg pc:Nat}{ps:List (Int×Int)}{g p:Nat}{zs:List Int}{X:Nat→Prop}{H:Ht}{ca ri:Int}(R:Rw w base q i o pg pc ps g p zs H ca ri X)(d a:Nat)(im:Int)(hd:d<16)(ha:a<16)(h0:0≤im)(h1:im≤65535)(h10:(21:Int)=21∨(21:Int)=22→im≤10):
  Calls Tryz.prog 75 #[.pointer (some ⟨q,0,none⟩),.iface (deedT 21) (.agg #[.int .i64 21,.int .i64 (d:Int),.int .i64 (a:Int),.int .i64 im])] w fun e w'=>e=(doV H ps zs ri 21 d a im).e∧∃i' o',Rw w' base q i' o' pg pc ps g p (doV H ps zs ri 21 d a im).zs (doV H ps zs ri 21 d a im).H ca (doV H ps zs ri 21 d a im).ri X∧Below base w w':=by
 rw[show deedT 21=165 from rfl]
 refine(do_gets R 21 d a im hd h0 (h10 (by omega))).mono ?_
 rintro e x⟨rfl,r,b⟩
 exact⟨rfl,i,o,r,b⟩
theorem dov_22{w:World}{base q:Nat}{i o:Value}{pg pc:Nat}{ps:List (Int×Int)}{g p:Nat}{zs:List Int}{X:Nat→Prop}{H:Ht}{ca ri:Int}(R:Rw w base q i o pg pc ps g p zs H ca ri X)(d a:Nat)(im:Int)(hd:d<16)(ha:a<16)(h0:0≤im)(h1:im≤65535)(h10:(22:Int)=21∨(22:Int)=22→im≤10):
  Calls Tryz.prog 75 #[.pointer (some ⟨q,0,none⟩),.iface (deedT 22) (.agg #[.int .i64 22,.int .i64 (d:Int),.int .i64 (a:Int),.int .i64 im])] w fun e w'=>e=(doV H ps zs ri 22 d a im).e∧∃i' o',Rw w' base q i' o' pg pc ps g p (doV H ps zs ri 22 d a im).zs (doV H ps zs ri 22 d a im).H ca (doV H ps zs ri 22 d a im).ri X∧Below base w w':=by
 rw[show deedT 22=166 from rfl]
 refine(do_sets R 22 d a im ha h0 (h10 (by omega))).mono ?_
 rintro e x⟨rfl,r,b⟩
 exact⟨rfl,i,o,r,b⟩
theorem dov_23{w:World}{base q:Nat}{i o:Value}{pg pc:Nat}{ps:List (Int×Int)}{g p:Nat}{zs:List Int}{X:Nat→Prop}{H:Ht}{ca ri:Int}(R:Rw w base q i o pg pc ps g p zs H ca ri X)(d a:Nat)(im:Int)(hd:d<16)(ha:a<16)(h0:0≤im)(h1:im≤65535)(h10:(23:Int)=21∨(23:Int)=22→im≤10):
  Calls Tryz.prog 75 #[.pointer (some ⟨q,0,none⟩),.iface (deedT 23) (.agg #[.int .i64 23,.int .i64 (d:Int),.int .i64 (a:Int),.int .i64 im])] w fun e w'=>e=(doV H ps zs ri 23 d a im).e∧∃i' o',Rw w' base q i' o' pg pc ps g p (doV H ps zs ri 23 d a im).zs (doV H ps zs ri 23 d a im).H ca (doV H ps zs ri 23 d a im).ri X∧Below base w w':=by
 rw[show deedT 23=167 from rfl]
 refine(do_calls R 23 d a im).mono ?_
 rintro e x⟨rfl,r,b⟩
 exact⟨rfl,i,o,r,b⟩
theorem dov_24{w:World}{base q:Nat}{i o:Value}{pg pc:Nat}{ps:List (Int×Int)}{g p:Nat}{zs:List Int}{X:Nat→Prop}{H:Ht}{ca ri:Int}(R:Rw w base q i o pg pc ps g p zs H ca ri X)(d a:Nat)(im:Int)(hd:d<16)(ha:a<16)(h0:0≤im)(h1:im≤65535)(h10:(24:Int)=21∨(24:Int)=22→im≤10):
  Calls Tryz.prog 75 #[.pointer (some ⟨q,0,none⟩),.iface (deedT 24) (.agg #[.int .i64 24,.int .i64 (d:Int),.int .i64 (a:Int),.int .i64 im])] w fun e w'=>e=(doV H ps zs ri 24 d a im).e∧∃i' o',Rw w' base q i' o' pg pc ps g p (doV H ps zs ri 24 d a im).zs (doV H ps zs ri 24 d a im).H ca (doV H ps zs ri 24 d a im).ri X∧Below base w w':=by
 rw[show deedT 24=168 from rfl]
 refine(do_goesBack R 24 d a im).mono ?_
 rintro e x⟨rfl,r,b⟩
 exact⟨rfl,i,o,r,b⟩
theorem dov_25{w:World}{base q:Nat}{i o:Value}{pg pc:Nat}{ps:List (Int×Int)}{g p:Nat}{zs:List Int}{X:Nat→Prop}{H:Ht}{ca ri:Int}(R:Rw w base q i o pg pc ps g p zs H ca ri X)(d a:Nat)(im:Int)(hd:d<16)(ha:a<16)(h0:0≤im)(h1:im≤65535)(h10:(25:Int)=21∨(25:Int)=22→im≤10):
  Calls Tryz.prog 75 #[.pointer (some ⟨q,0,none⟩),.iface (deedT 25) (.agg #[.int .i64 25,.int .i64 (d:Int),.int .i64 (a:Int),.int .i64 im])] w fun e w'=>e=(doV H ps zs ri 25 d a im).e∧∃i' o',Rw w' base q i' o' pg pc ps g p (doV H ps zs ri 25 d a im).zs (doV H ps zs ri 25 d a im).H ca (doV H ps zs ri 25 d a im).ri X∧Below base w w':=by
 rw[show deedT 25=169 from rfl]
 refine(do_waits R 25 d a im).mono ?_
 rintro e x⟨rfl,r,b⟩
 exact⟨rfl,i,o,r,b⟩
theorem dov_26{w:World}{base q:Nat}{i o:Value}{pg pc:Nat}{ps:List (Int×Int)}{g p:Nat}{zs:List Int}{X:Nat→Prop}{H:Ht}{ca ri:Int}(R:Rw w base q i o pg pc ps g p zs H ca ri X)(d a:Nat)(im:Int)(hd:d<16)(ha:a<16)(h0:0≤im)(h1:im≤65535)(h10:(26:Int)=21∨(26:Int)=22→im≤10):
  Calls Tryz.prog 75 #[.pointer (some ⟨q,0,none⟩),.iface (deedT 26) (.agg #[.int .i64 26,.int .i64 (d:Int),.int .i64 (a:Int),.int .i64 im])] w fun e w'=>e=(doV H ps zs ri 26 d a im).e∧∃i' o',Rw w' base q i' o' pg pc ps g p (doV H ps zs ri 26 d a im).zs (doV H ps zs ri 26 d a im).H ca (doV H ps zs ri 26 d a im).ri X∧Below base w w':=by
 rw[show deedT 26=170 from rfl]
 refine(do_halts R 26 d a im).mono ?_
 rintro e x⟨rfl,r,b⟩
 exact⟨rfl,i,o,r,b⟩
theorem dov_alu{w:World}{base q:Nat}{i o:Value}{pg pc:Nat}{ps:List (Int×Int)}{g p:Nat}{zs:List Int}{X:Nat→Prop}{H:Ht}{ca ri:Int}(R:Rw w base q i o pg pc ps g p zs H ca ri X)(op:Int)(d a:Nat)(im:Int)(hd:d<16)(ha:a<16)(h0:0≤im)(h1:1≤op)(h11:op≤11)(h16:im<16):
  Calls Tryz.prog 75 #[.pointer (some ⟨q,0,none⟩),.iface (deedT op) (.agg #[.int .i64 op,.int .i64 (d:Int),.int .i64 (a:Int),.int .i64 im])] w fun e w'=>e=(doV H ps zs ri op d a im).e∧∃i' o',Rw w' base q i' o' pg pc ps g p (doV H ps zs ri op d a im).zs (doV H ps zs ri op d a im).H ca (doV H ps zs ri op d a im).ri X∧Below base w w':=by
 have hv:doV H ps zs ri op d a im=⟨none,(addV H.pc 1),putV H d (aluV op (gt H.regs a) (gt H.regs im.toNat)),zs,ri⟩:=by unfold doV;rw[if_neg (show ¬op=12 by omega),if_neg (show ¬op=13 by omega),if_neg (show ¬op=14 by omega),if_neg (show ¬op=15 by omega),if_neg (show ¬op=16 by omega),if_neg (show ¬op=17 by omega),if_neg (show ¬op=18 by omega),if_neg (show ¬op=19 by omega),if_neg (show ¬op=20 by omega),if_neg (show ¬op=21 by omega),if_neg (show ¬op=22 by omega),if_neg (show ¬op=23 by omega),if_neg (show ¬op=24 by omega),if_neg (show ¬op=25 by omega),if_neg (show ¬op=26 by omega)]
 have ht:deedT op=153:=by unfold deedT;rw[if_neg (show ¬op=12 by omega),if_neg (show ¬op=13 by omega),if_neg (show ¬op=14 by omega),if_neg (show ¬op=15 by omega),if_neg (show ¬op=16 by omega),if_neg (show ¬op=17 by omega),if_neg (show ¬op=18 by omega),if_neg (show ¬op=19 by omega),if_neg (show ¬op=20 by omega),if_neg (show ¬op=21 by omega),if_neg (show ¬op=22 by omega),if_neg (show ¬op=23 by omega),if_neg (show ¬op=24 by omega),if_neg (show ¬op=25 by omega),if_neg (show ¬op=26 by omega)]
 rw[hv,ht]
 obtain⟨b,rfl⟩:∃b:Nat,im=(b:Int):=⟨im.toNat,by omega⟩
 refine(do_reckons R op d a b hd ha (by omega) h1 h11).mono ?_
 rintro e x⟨rfl,r,b⟩
 exact⟨rfl,i,o,r,b⟩
theorem r_do{w:World}{base q:Nat}{i o:Value}{pg pc:Nat}{ps:List (Int×Int)}{g p:Nat}{zs:List Int}{X:Nat→Prop}{H:Ht}{ca ri:Int}(R:Rw w base q i o pg pc ps g p zs H ca ri X)(op:Int)(d a:Nat)(im:Int)(hd:d<16)(ha:a<16)(h0:0≤im)(h1:im≤65535)(ho:1≤op)(h26:op≤26)(h16:op≤11→im<16)(h10:op=21∨op=22→im≤10):
  Calls Tryz.prog 75 #[.pointer (some ⟨q,0,none⟩),.iface (deedT op) (.agg #[.int .i64 op,.int .i64 (d:Int),.int .i64 (a:Int),.int .i64 im])] w fun e w'=>e=(doV H ps zs ri op d a im).e∧∃i' o',Rw w' base q i' o' pg pc ps g p (doV H ps zs ri op d a im).zs (doV H ps zs ri op d a im).H ca (doV H ps zs ri op d a im).ri X∧Below base w w':=by
 by_cases h:op≤11
 ·exact dov_alu R op d a im hd ha h0 ho h (h16 h)
 by_cases e:op=12
 ·subst e;exact dov_12 R d a im hd ha h0 h1 h10
 by_cases e:op=13
 ·subst e;exact dov_13 R d a im hd ha h0 h1 h10
 by_cases e:op=14
 ·subst e;exact dov_14 R d a im hd ha h0 h1 h10
 by_cases e:op=15
 ·subst e;exact dov_15 R d a im hd ha h0 h1 h10
 by_cases e:op=16
 ·subst e;exact dov_16 R d a im hd ha h0 h1 h10
 by_cases e:op=17
 ·subst e;exact dov_17 R d a im hd ha h0 h1 h10
 by_cases e:op=18
 ·subst e;exact dov_18 R d a im hd ha h0 h1 h10
 by_cases e:op=19
 ·subst e;exact dov_19 R d a im hd ha h0 h1 h10
 by_cases e:op=20
 ·subst e;exact dov_20 R d a im hd ha h0 h1 h10
 by_cases e:op=21
 ·subst e;exact dov_21 R d a im hd ha h0 h1 h10
 by_cases e:op=22
 ·subst e;exact dov_22 R d a im hd ha h0 h1 h10
 by_cases e:op=23
 ·subst e;exact dov_23 R d a im hd ha h0 h1 h10
 by_cases e:op=24
 ·subst e;exact dov_24 R d a im hd ha h0 h1 h10
 by_cases e:op=25
 ·subst e;exact dov_25 R d a im hd ha h0 h1 h10
 by_cases e:op=26
 ·subst e;exact dov_26 R d a im hd ha h0 h1 h10
 omega
end Go.Proofs.YtaefollmeoepkaaGreatDoor
