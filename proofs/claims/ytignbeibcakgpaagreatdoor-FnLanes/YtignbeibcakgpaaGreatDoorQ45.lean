import Derived.Test.YtignbeibcakgpaaGreatDoorQ34
import Derived.Test.YtignbeibcakgpaaGreatDoorQ43
import Derived.Test.YtignbeibcakgpaaGreatDoorQ44
namespace Go.Proofs.YtignbeibcakgpaaGreatDoor
set_option maxRecDepth 20000
set_option maxHeartbeats 16000000
open Go.RowKit
set_option linter.unusedVariables false
structure Dr where
 t:Option (Int×Int)
 next:Int
 H:Ht
 zs:List Int
 ri:Int
def Dr.e(x:Dr):Ending:=match x.t with|none=> .returned (.int .i64 x.next)|some (c,t)=>pan c t
def doV(H:Ht)(ps:List (Int×Int))(zs:List Int)(ri:Int)(op:Int)(d a:Nat)(im:Int):Dr:=if op=12 then⟨none,(addV H.pc 1),putV H d (addV (gt H.regs a) (offV im)),zs,ri⟩else if op=13 then⟨none,(addV H.pc 1),putV H d (im*65536),zs,ri⟩else if op=14 then(if plC H ps zs (addV (gt H.regs a) (offV im)) 1=0 then⟨none,(addV H.pc 1),putV (loadH H ps zs (addV (gt H.regs a) (offV im))) d (loadW H ps zs (addV (gt H.regs a) (offV im))),zs,ri⟩else⟨some (3,(addV (gt H.regs a) (offV im))),0,H,zs,ri⟩)else if op=15 then(if plC H ps zs (addV (gt H.regs a) (offV im)) 2=0 then⟨none,(addV H.pc 1),storeH H ps zs (addV (gt H.regs a) (offV im)) (gt H.regs d),storeZ H ps zs (addV (gt H.regs a) (offV im)) (gt H.regs d),storeR H ps zs (addV (gt H.regs a) (offV im)) (gt H.regs d) ri⟩else⟨some (4,(addV (gt H.regs a) (offV im))),0,H,zs,ri⟩)else if op=16 then⟨none,brV (gt H.regs d==gt H.regs a) (addV H.pc (offV im)) (addV H.pc 1),H,zs,ri⟩else if op=17 then⟨none,brV (gt H.regs d !=gt H.regs a) (addV H.pc (offV im)) (addV H.pc 1),H,zs,ri⟩else if op=18 then⟨none,brV (decide (sgn (gt H.regs d)<sgn (gt H.regs a))) (addV H.pc (offV im)) (addV H.pc 1),H,zs,ri⟩else if op=19 then⟨none,addV H.pc (offV im),putV H d (addV H.pc 1),zs,ri⟩else if op=20 then⟨none,(addV (gt H.regs a) (offV im)),putV H d (addV H.pc 1),zs,ri⟩else if op=21 then⟨none,(addV H.pc 1),putV H d (getV H im),zs,ri⟩else if op=22 then⟨none,(addV H.pc 1),setW H im (gt H.regs a),zs,ri⟩else if op=23 then⟨some (5,0),0,H,zs,ri⟩else if op=24 then⟨none,(backV H).pc,backV H,zs,ri⟩else if op=25 then⟨none,(addV H.pc 1),{ H with waiting:=true},zs,ri⟩else if op=26 then⟨none,H.pc,{ H with halted:=true},zs,ri⟩else⟨none,(addV H.pc 1),putV H d (aluV op (gt H.regs a) (gt H.regs im.toNat)),zs,ri⟩
theorem dov_12{w:World}{base q dz:Nat}{Kz:Nat→Option Value}{i o:Value}{pg pc:Nat}{ps:List (Int×Int)}{g p:Nat}{zs:List Int}{X:Nat→Obj→Prop}{H:Ht}{ca ri:Int}(R:Rw w base q dz Kz i o pg pc ps g p zs H ca ri X)(d a:Nat)(im:Int)(hd:d<16)(ha:a<16)(h0:0≤im)(h1:im≤65535)(h10:(12:Int)=21∨(12:Int)=22→im≤10):
  Calls Tryz.prog 97 #[.pointer (some ⟨q,dz,none⟩),.iface (deedT 12) (.agg #[.int .i64 12,.int .i64 (d:Int),.int .i64 (a:Int),.int .i64 im])] w fun e w'=>e=(doV H ps zs ri 12 d a im).e∧∃i' o',Rw w' base q dz Kz i' o' pg pc ps g p (doV H ps zs ri 12 d a im).zs (doV H ps zs ri 12 d a im).H ca (doV H ps zs ri 12 d a im).ri X∧Below base w w':=by
 rw[show deedT 12=218 from rfl]
 refine(do_adds R 12 d a im hd ha).mono ?_
 rintro e x⟨rfl,r,b⟩
 exact⟨rfl,i,o,r,b⟩
theorem dov_13{w:World}{base q dz:Nat}{Kz:Nat→Option Value}{i o:Value}{pg pc:Nat}{ps:List (Int×Int)}{g p:Nat}{zs:List Int}{X:Nat→Obj→Prop}{H:Ht}{ca ri:Int}(R:Rw w base q dz Kz i o pg pc ps g p zs H ca ri X)(d a:Nat)(im:Int)(hd:d<16)(ha:a<16)(h0:0≤im)(h1:im≤65535)(h10:(13:Int)=21∨(13:Int)=22→im≤10):
  Calls Tryz.prog 97 #[.pointer (some ⟨q,dz,none⟩),.iface (deedT 13) (.agg #[.int .i64 13,.int .i64 (d:Int),.int .i64 (a:Int),.int .i64 im])] w fun e w'=>e=(doV H ps zs ri 13 d a im).e∧∃i' o',Rw w' base q dz Kz i' o' pg pc ps g p (doV H ps zs ri 13 d a im).zs (doV H ps zs ri 13 d a im).H ca (doV H ps zs ri 13 d a im).ri X∧Below base w w':=by
 rw[show deedT 13=219 from rfl]
 refine(do_lifts R 13 d a im (by omega) h0 h1).mono ?_
 rintro e x⟨rfl,r,b⟩
 exact⟨rfl,i,o,r,b⟩
theorem dov_14{w:World}{base q dz:Nat}{Kz:Nat→Option Value}{i o:Value}{pg pc:Nat}{ps:List (Int×Int)}{g p:Nat}{zs:List Int}{X:Nat→Obj→Prop}{H:Ht}{ca ri:Int}(R:Rw w base q dz Kz i o pg pc ps g p zs H ca ri X)(d a:Nat)(im:Int)(hd:d<16)(ha:a<16)(h0:0≤im)(h1:im≤65535)(h10:(14:Int)=21∨(14:Int)=22→im≤10):
  Calls Tryz.prog 97 #[.pointer (some ⟨q,dz,none⟩),.iface (deedT 14) (.agg #[.int .i64 14,.int .i64 (d:Int),.int .i64 (a:Int),.int .i64 im])] w fun e w'=>e=(doV H ps zs ri 14 d a im).e∧∃i' o',Rw w' base q dz Kz i' o' pg pc ps g p (doV H ps zs ri 14 d a im).zs (doV H ps zs ri 14 d a im).H ca (doV H ps zs ri 14 d a im).ri X∧Below base w w':=by
 rw[show deedT 14=220 from rfl]
 have hv:doV H ps zs ri 14 d a im=if plC H ps zs (addV (gt H.regs a) (offV im)) 1=0 then⟨none,(addV H.pc 1),putV (loadH H ps zs (addV (gt H.regs a) (offV im))) d (loadW H ps zs (addV (gt H.regs a) (offV im))),zs,ri⟩else⟨some (3,(addV (gt H.regs a) (offV im))),0,H,zs,ri⟩:=rfl
 by_cases hz:plC H ps zs (addV (gt H.regs a) (offV im)) 1=0
 ·rw[hv,if_pos hz]
  refine(do_loadsOk R 14 d a im hd ha hz).mono ?_
  rintro e x⟨rfl,i2,r,b⟩
  exact⟨rfl,i2,o,r,b⟩
 ·rw[hv,if_neg hz]
  refine(do_loadsNo R 14 d a im ha hz).mono ?_
  rintro e x⟨rfl,r,b⟩
  exact⟨rfl,i,o,r,b⟩
theorem dov_15{w:World}{base q dz:Nat}{Kz:Nat→Option Value}{i o:Value}{pg pc:Nat}{ps:List (Int×Int)}{g p:Nat}{zs:List Int}{X:Nat→Obj→Prop}{H:Ht}{ca ri:Int}(R:Rw w base q dz Kz i o pg pc ps g p zs H ca ri X)(d a:Nat)(im:Int)(hd:d<16)(ha:a<16)(h0:0≤im)(h1:im≤65535)(h10:(15:Int)=21∨(15:Int)=22→im≤10):
  Calls Tryz.prog 97 #[.pointer (some ⟨q,dz,none⟩),.iface (deedT 15) (.agg #[.int .i64 15,.int .i64 (d:Int),.int .i64 (a:Int),.int .i64 im])] w fun e w'=>e=(doV H ps zs ri 15 d a im).e∧∃i' o',Rw w' base q dz Kz i' o' pg pc ps g p (doV H ps zs ri 15 d a im).zs (doV H ps zs ri 15 d a im).H ca (doV H ps zs ri 15 d a im).ri X∧Below base w w':=by
 rw[show deedT 15=221 from rfl]
 have hv:doV H ps zs ri 15 d a im=if plC H ps zs (addV (gt H.regs a) (offV im)) 2=0 then⟨none,(addV H.pc 1),storeH H ps zs (addV (gt H.regs a) (offV im)) (gt H.regs d),storeZ H ps zs (addV (gt H.regs a) (offV im)) (gt H.regs d),storeR H ps zs (addV (gt H.regs a) (offV im)) (gt H.regs d) ri⟩else⟨some (4,(addV (gt H.regs a) (offV im))),0,H,zs,ri⟩:=rfl
 by_cases hz:plC H ps zs (addV (gt H.regs a) (offV im)) 2=0
 ·rw[hv,if_pos hz]
  refine(do_storesOk R 15 d a im hd ha hz).mono ?_
  rintro e x⟨rfl,i2,r,b⟩
  exact⟨rfl,i,i2,r,b⟩
 ·rw[hv,if_neg hz]
  refine(do_storesNo R 15 d a im hd ha hz).mono ?_
  rintro e x⟨rfl,r,b⟩
  exact⟨rfl,i,o,r,b⟩
theorem dov_16{w:World}{base q dz:Nat}{Kz:Nat→Option Value}{i o:Value}{pg pc:Nat}{ps:List (Int×Int)}{g p:Nat}{zs:List Int}{X:Nat→Obj→Prop}{H:Ht}{ca ri:Int}(R:Rw w base q dz Kz i o pg pc ps g p zs H ca ri X)(d a:Nat)(im:Int)(hd:d<16)(ha:a<16)(h0:0≤im)(h1:im≤65535)(h10:(16:Int)=21∨(16:Int)=22→im≤10):
  Calls Tryz.prog 97 #[.pointer (some ⟨q,dz,none⟩),.iface (deedT 16) (.agg #[.int .i64 16,.int .i64 (d:Int),.int .i64 (a:Int),.int .i64 im])] w fun e w'=>e=(doV H ps zs ri 16 d a im).e∧∃i' o',Rw w' base q dz Kz i' o' pg pc ps g p (doV H ps zs ri 16 d a im).zs (doV H ps zs ri 16 d a im).H ca (doV H ps zs ri 16 d a im).ri X∧Below base w w':=by
 rw[show deedT 16=222 from rfl]
 refine(do_ifSame R 16 d a im hd ha).mono ?_
 rintro e x⟨rfl,r,b⟩
 exact⟨rfl,i,o,r,b⟩
theorem dov_17{w:World}{base q dz:Nat}{Kz:Nat→Option Value}{i o:Value}{pg pc:Nat}{ps:List (Int×Int)}{g p:Nat}{zs:List Int}{X:Nat→Obj→Prop}{H:Ht}{ca ri:Int}(R:Rw w base q dz Kz i o pg pc ps g p zs H ca ri X)(d a:Nat)(im:Int)(hd:d<16)(ha:a<16)(h0:0≤im)(h1:im≤65535)(h10:(17:Int)=21∨(17:Int)=22→im≤10):
  Calls Tryz.prog 97 #[.pointer (some ⟨q,dz,none⟩),.iface (deedT 17) (.agg #[.int .i64 17,.int .i64 (d:Int),.int .i64 (a:Int),.int .i64 im])] w fun e w'=>e=(doV H ps zs ri 17 d a im).e∧∃i' o',Rw w' base q dz Kz i' o' pg pc ps g p (doV H ps zs ri 17 d a im).zs (doV H ps zs ri 17 d a im).H ca (doV H ps zs ri 17 d a im).ri X∧Below base w w':=by
 rw[show deedT 17=224 from rfl]
 refine(do_ifOther R 17 d a im hd ha).mono ?_
 rintro e x⟨rfl,r,b⟩
 exact⟨rfl,i,o,r,b⟩
theorem dov_18{w:World}{base q dz:Nat}{Kz:Nat→Option Value}{i o:Value}{pg pc:Nat}{ps:List (Int×Int)}{g p:Nat}{zs:List Int}{X:Nat→Obj→Prop}{H:Ht}{ca ri:Int}(R:Rw w base q dz Kz i o pg pc ps g p zs H ca ri X)(d a:Nat)(im:Int)(hd:d<16)(ha:a<16)(h0:0≤im)(h1:im≤65535)(h10:(18:Int)=21∨(18:Int)=22→im≤10):
  Calls Tryz.prog 97 #[.pointer (some ⟨q,dz,none⟩),.iface (deedT 18) (.agg #[.int .i64 18,.int .i64 (d:Int),.int .i64 (a:Int),.int .i64 im])] w fun e w'=>e=(doV H ps zs ri 18 d a im).e∧∃i' o',Rw w' base q dz Kz i' o' pg pc ps g p (doV H ps zs ri 18 d a im).zs (doV H ps zs ri 18 d a im).H ca (doV H ps zs ri 18 d a im).ri X∧Below base w w':=by
 rw[show deedT 18=225 from rfl]
 refine(do_ifLess R 18 d a im hd ha).mono ?_
 rintro e x⟨rfl,r,b⟩
 exact⟨rfl,i,o,r,b⟩
theorem dov_19{w:World}{base q dz:Nat}{Kz:Nat→Option Value}{i o:Value}{pg pc:Nat}{ps:List (Int×Int)}{g p:Nat}{zs:List Int}{X:Nat→Obj→Prop}{H:Ht}{ca ri:Int}(R:Rw w base q dz Kz i o pg pc ps g p zs H ca ri X)(d a:Nat)(im:Int)(hd:d<16)(ha:a<16)(h0:0≤im)(h1:im≤65535)(h10:(19:Int)=21∨(19:Int)=22→im≤10):
  Calls Tryz.prog 97 #[.pointer (some ⟨q,dz,none⟩),.iface (deedT 19) (.agg #[.int .i64 19,.int .i64 (d:Int),.int .i64 (a:Int),.int .i64 im])] w fun e w'=>e=(doV H ps zs ri 19 d a im).e∧∃i' o',Rw w' base q dz Kz i' o' pg pc ps g p (doV H ps zs ri 19 d a im).zs (doV H ps zs ri 19 d a im).H ca (doV H ps zs ri 19 d a im).ri X∧Below base w w':=by
 rw[show deedT 19=226 from rfl]
 refine(do_jumps R 19 d a im (by omega)).mono ?_
 rintro e x⟨rfl,r,b⟩
 exact⟨rfl,i,o,r,b⟩
theorem dov_20{w:World}{base q dz:Nat}{Kz:Nat→Option Value}{i o:Value}{pg pc:Nat}{ps:List (Int×Int)}{g p:Nat}{zs:List Int}{X:Nat→Obj→Prop}{H:Ht}{ca ri:Int}(R:Rw w base q dz Kz i o pg pc ps g p zs H ca ri X)(d a:Nat)(im:Int)(hd:d<16)(ha:a<16)(h0:0≤im)(h1:im≤65535)(h10:(20:Int)=21∨(20:Int)=22→im≤10):
  Calls Tryz.prog 97 #[.pointer (some ⟨q,dz,none⟩),.iface (deedT 20) (.agg #[.int .i64 20,.int .i64 (d:Int),.int .i64 (a:Int),.int .i64 im])] w fun e w'=>e=(doV H ps zs ri 20 d a im).e∧∃i' o',Rw w' base q dz Kz i' o' pg pc ps g p (doV H ps zs ri 20 d a im).zs (doV H ps zs ri 20 d a im).H ca (doV H ps zs ri 20 d a im).ri X∧Below base w w':=by
 rw[show deedT 20=227 from rfl]
 refine(do_jumpsBy R 20 d a im hd ha).mono ?_
 rintro e x⟨rfl,r,b⟩
 exact⟨rfl,i,o,r,b⟩
theorem dov_21{w:World}{base q dz:Nat}{Kz:Nat→Option Value}{i o:Value}{pg pc:Nat}{ps:List (Int×Int)}{g p:Nat}{zs:List Int}{X:Nat→Obj→Prop}{H:Ht}{ca ri:Int}(R:Rw w base q dz Kz i o pg pc ps g p zs H ca ri X)(d a:Nat)(im:Int)(hd:d<16)(ha:a<16)(h0:0≤im)(h1:im≤65535)(h10:(21:Int)=21∨(21:Int)=22→im≤10):
  Calls Tryz.prog 97 #[.pointer (some ⟨q,dz,none⟩),.iface (deedT 21) (.agg #[.int .i64 21,.int .i64 (d:Int),.int .i64 (a:Int),.int .i64 im])] w fun e w'=>e=(doV H ps zs ri 21 d a im).e∧∃i' o',Rw w' base q dz Kz i' o' pg pc ps g p (doV H ps zs ri 21 d a im).zs (doV H ps zs ri 21 d a im).H ca (doV H ps zs ri 21 d a im).ri X∧Below base w w':=by
 rw[show deedT 21=228 from rfl]
 refine(do_gets R 21 d a im hd h0 (h10 (by omega))).mono ?_
 rintro e x⟨rfl,r,b⟩
 exact⟨rfl,i,o,r,b⟩
theorem dov_22{w:World}{base q dz:Nat}{Kz:Nat→Option Value}{i o:Value}{pg pc:Nat}{ps:List (Int×Int)}{g p:Nat}{zs:List Int}{X:Nat→Obj→Prop}{H:Ht}{ca ri:Int}(R:Rw w base q dz Kz i o pg pc ps g p zs H ca ri X)(d a:Nat)(im:Int)(hd:d<16)(ha:a<16)(h0:0≤im)(h1:im≤65535)(h10:(22:Int)=21∨(22:Int)=22→im≤10):
  Calls Tryz.prog 97 #[.pointer (some ⟨q,dz,none⟩),.iface (deedT 22) (.agg #[.int .i64 22,.int .i64 (d:Int),.int .i64 (a:Int),.int .i64 im])] w fun e w'=>e=(doV H ps zs ri 22 d a im).e∧∃i' o',Rw w' base q dz Kz i' o' pg pc ps g p (doV H ps zs ri 22 d a im).zs (doV H ps zs ri 22 d a im).H ca (doV H ps zs ri 22 d a im).ri X∧Below base w w':=by
 rw[show deedT 22=229 from rfl]
 refine(do_sets R 22 d a im ha h0 (h10 (by omega))).mono ?_
 rintro e x⟨rfl,r,b⟩
 exact⟨rfl,i,o,r,b⟩
theorem dov_23{w:World}{base q dz:Nat}{Kz:Nat→Option Value}{i o:Value}{pg pc:Nat}{ps:List (Int×Int)}{g p:Nat}{zs:List Int}{X:Nat→Obj→Prop}{H:Ht}{ca ri:Int}(R:Rw w base q dz Kz i o pg pc ps g p zs H ca ri X)(d a:Nat)(im:Int)(hd:d<16)(ha:a<16)(h0:0≤im)(h1:im≤65535)(h10:(23:Int)=21∨(23:Int)=22→im≤10):
  Calls Tryz.prog 97 #[.pointer (some ⟨q,dz,none⟩),.iface (deedT 23) (.agg #[.int .i64 23,.int .i64 (d:Int),.int .i64 (a:Int),.int .i64 im])] w fun e w'=>e=(doV H ps zs ri 23 d a im).e∧∃i' o',Rw w' base q dz Kz i' o' pg pc ps g p (doV H ps zs ri 23 d a im).zs (doV H ps zs ri 23 d a im).H ca (doV H ps zs ri 23 d a im).ri X∧Below base w w':=by
 rw[show deedT 23=230 from rfl]
 refine(do_calls R 23 d a im).mono ?_
 rintro e x⟨rfl,r,b⟩
 exact⟨rfl,i,o,r,b⟩
theorem dov_24{w:World}{base q dz:Nat}{Kz:Nat→Option Value}{i o:Value}{pg pc:Nat}{ps:List (Int×Int)}{g p:Nat}{zs:List Int}{X:Nat→Obj→Prop}{H:Ht}{ca ri:Int}(R:Rw w base q dz Kz i o pg pc ps g p zs H ca ri X)(d a:Nat)(im:Int)(hd:d<16)(ha:a<16)(h0:0≤im)(h1:im≤65535)(h10:(24:Int)=21∨(24:Int)=22→im≤10):
  Calls Tryz.prog 97 #[.pointer (some ⟨q,dz,none⟩),.iface (deedT 24) (.agg #[.int .i64 24,.int .i64 (d:Int),.int .i64 (a:Int),.int .i64 im])] w fun e w'=>e=(doV H ps zs ri 24 d a im).e∧∃i' o',Rw w' base q dz Kz i' o' pg pc ps g p (doV H ps zs ri 24 d a im).zs (doV H ps zs ri 24 d a im).H ca (doV H ps zs ri 24 d a im).ri X∧Below base w w':=by
 rw[show deedT 24=231 from rfl]
 refine(do_goesBack R 24 d a im).mono ?_
 rintro e x⟨rfl,r,b⟩
 exact⟨rfl,i,o,r,b⟩
theorem dov_25{w:World}{base q dz:Nat}{Kz:Nat→Option Value}{i o:Value}{pg pc:Nat}{ps:List (Int×Int)}{g p:Nat}{zs:List Int}{X:Nat→Obj→Prop}{H:Ht}{ca ri:Int}(R:Rw w base q dz Kz i o pg pc ps g p zs H ca ri X)(d a:Nat)(im:Int)(hd:d<16)(ha:a<16)(h0:0≤im)(h1:im≤65535)(h10:(25:Int)=21∨(25:Int)=22→im≤10):
  Calls Tryz.prog 97 #[.pointer (some ⟨q,dz,none⟩),.iface (deedT 25) (.agg #[.int .i64 25,.int .i64 (d:Int),.int .i64 (a:Int),.int .i64 im])] w fun e w'=>e=(doV H ps zs ri 25 d a im).e∧∃i' o',Rw w' base q dz Kz i' o' pg pc ps g p (doV H ps zs ri 25 d a im).zs (doV H ps zs ri 25 d a im).H ca (doV H ps zs ri 25 d a im).ri X∧Below base w w':=by
 rw[show deedT 25=232 from rfl]
 refine(do_waits R 25 d a im).mono ?_
 rintro e x⟨rfl,r,b⟩
 exact⟨rfl,i,o,r,b⟩
theorem dov_26{w:World}{base q dz:Nat}{Kz:Nat→Option Value}{i o:Value}{pg pc:Nat}{ps:List (Int×Int)}{g p:Nat}{zs:List Int}{X:Nat→Obj→Prop}{H:Ht}{ca ri:Int}(R:Rw w base q dz Kz i o pg pc ps g p zs H ca ri X)(d a:Nat)(im:Int)(hd:d<16)(ha:a<16)(h0:0≤im)(h1:im≤65535)(h10:(26:Int)=21∨(26:Int)=22→im≤10):
  Calls Tryz.prog 97 #[.pointer (some ⟨q,dz,none⟩),.iface (deedT 26) (.agg #[.int .i64 26,.int .i64 (d:Int),.int .i64 (a:Int),.int .i64 im])] w fun e w'=>e=(doV H ps zs ri 26 d a im).e∧∃i' o',Rw w' base q dz Kz i' o' pg pc ps g p (doV H ps zs ri 26 d a im).zs (doV H ps zs ri 26 d a im).H ca (doV H ps zs ri 26 d a im).ri X∧Below base w w':=by
 rw[show deedT 26=233 from rfl]
 refine(do_halts R 26 d a im).mono ?_
 rintro e x⟨rfl,r,b⟩
 exact⟨rfl,i,o,r,b⟩
theorem dov_alu{w:World}{base q dz:Nat}{Kz:Nat→Option Value}{i o:Value}{pg pc:Nat}{ps:List (Int×Int)}{g p:Nat}{zs:List Int}{X:Nat→Obj→Prop}{H:Ht}{ca ri:Int}(R:Rw w base q dz Kz i o pg pc ps g p zs H ca ri X)(op:Int)(d a:Nat)(im:Int)(hd:d<16)(ha:a<16)(h0:0≤im)(h1:1≤op)(h11:op≤11)(h16:im<16):
  Calls Tryz.prog 97 #[.pointer (some ⟨q,dz,none⟩),.iface (deedT op) (.agg #[.int .i64 op,.int .i64 (d:Int),.int .i64 (a:Int),.int .i64 im])] w fun e w'=>e=(doV H ps zs ri op d a im).e∧∃i' o',Rw w' base q dz Kz i' o' pg pc ps g p (doV H ps zs ri op d a im).zs (doV H ps zs ri op d a im).H ca (doV H ps zs ri op d a im).ri X∧Below base w w':=by
 have hv:doV H ps zs ri op d a im=⟨none,(addV H.pc 1),putV H d (aluV op (gt H.regs a) (gt H.regs im.toNat)),zs,ri⟩:=by unfold doV;rw[if_neg (show ¬op=12 by omega),if_neg (show ¬op=13 by omega),if_neg (show ¬op=14 by omega),if_neg (show ¬op=15 by omega),if_neg (show ¬op=16 by omega),if_neg (show ¬op=17 by omega),if_neg (show ¬op=18 by omega),if_neg (show ¬op=19 by omega),if_neg (show ¬op=20 by omega),if_neg (show ¬op=21 by omega),if_neg (show ¬op=22 by omega),if_neg (show ¬op=23 by omega),if_neg (show ¬op=24 by omega),if_neg (show ¬op=25 by omega),if_neg (show ¬op=26 by omega)]
 have ht:deedT op=216:=by unfold deedT;rw[if_neg (show ¬op=12 by omega),if_neg (show ¬op=13 by omega),if_neg (show ¬op=14 by omega),if_neg (show ¬op=15 by omega),if_neg (show ¬op=16 by omega),if_neg (show ¬op=17 by omega),if_neg (show ¬op=18 by omega),if_neg (show ¬op=19 by omega),if_neg (show ¬op=20 by omega),if_neg (show ¬op=21 by omega),if_neg (show ¬op=22 by omega),if_neg (show ¬op=23 by omega),if_neg (show ¬op=24 by omega),if_neg (show ¬op=25 by omega),if_neg (show ¬op=26 by omega)]
 rw[hv,ht]
 obtain⟨b,rfl⟩:∃b:Nat,im=(b:Int):=⟨im.toNat,by omega⟩
 refine(do_reckons R op d a b hd ha (by omega) h1 h11).mono ?_
 rintro e x⟨rfl,r,b⟩
 exact⟨rfl,i,o,r,b⟩
theorem r_do{w:World}{base q dz:Nat}{Kz:Nat→Option Value}{i o:Value}{pg pc:Nat}{ps:List (Int×Int)}{g p:Nat}{zs:List Int}{X:Nat→Obj→Prop}{H:Ht}{ca ri:Int}(R:Rw w base q dz Kz i o pg pc ps g p zs H ca ri X)(op:Int)(d a:Nat)(im:Int)(hd:d<16)(ha:a<16)(h0:0≤im)(h1:im≤65535)(ho:1≤op)(h26:op≤26)(h16:op≤11→im<16)(h10:op=21∨op=22→im≤10):
  Calls Tryz.prog 97 #[.pointer (some ⟨q,dz,none⟩),.iface (deedT op) (.agg #[.int .i64 op,.int .i64 (d:Int),.int .i64 (a:Int),.int .i64 im])] w fun e w'=>e=(doV H ps zs ri op d a im).e∧∃i' o',Rw w' base q dz Kz i' o' pg pc ps g p (doV H ps zs ri op d a im).zs (doV H ps zs ri op d a im).H ca (doV H ps zs ri op d a im).ri X∧Below base w w':=by
 by_cases h:op≤11
 ·exact dov_alu R op d a im hd ha h0 ho h (h16 h)
 by_cases e:op=12
 ·subst e;exact dov_12 R d a im hd ha h0 h1 h10
 by_cases e:op=13
 ·subst e;exact dov_13 R d a im hd ha h0 h1 h10
 by_cases e:op=14
 ·subst e;exact dov_14 R d a im hd ha h0 h1 h10
 by_cases e:op=15
 ·subst e;exact dov_15 R d a im hd ha h0 h1 h10
 by_cases e:op=16
 ·subst e;exact dov_16 R d a im hd ha h0 h1 h10
 by_cases e:op=17
 ·subst e;exact dov_17 R d a im hd ha h0 h1 h10
 by_cases e:op=18
 ·subst e;exact dov_18 R d a im hd ha h0 h1 h10
 by_cases e:op=19
 ·subst e;exact dov_19 R d a im hd ha h0 h1 h10
 by_cases e:op=20
 ·subst e;exact dov_20 R d a im hd ha h0 h1 h10
 by_cases e:op=21
 ·subst e;exact dov_21 R d a im hd ha h0 h1 h10
 by_cases e:op=22
 ·subst e;exact dov_22 R d a im hd ha h0 h1 h10
 by_cases e:op=23
 ·subst e;exact dov_23 R d a im hd ha h0 h1 h10
 by_cases e:op=24
 ·subst e;exact dov_24 R d a im hd ha h0 h1 h10
 by_cases e:op=25
 ·subst e;exact dov_25 R d a im hd ha h0 h1 h10
 by_cases e:op=26
 ·subst e;exact dov_26 R d a im hd ha h0 h1 h10
 omega
def Xb(X:Nat→Obj→Prop)(q dz b:Nat)(k:Nat)(c:Obj):Prop:=X k c∨(k=b∧c=.cells #[.pointer (some ⟨q,dz,none⟩)] 160 (0,0))
theorem Rw.boxed{w:World}{base q dz:Nat}{Kz:Nat→Option Value}{i o:Value}{pg pc:Nat}{ps:List (Int×Int)}{g p:Nat}{zs:List Int}{X:Nat→Obj→Prop}{H:Ht}{ca ri:Int}{b:Nat}(h:Rw w base q dz Kz i o pg pc ps g p zs H ca ri (Xb X q dz b)):w.cell? ⟨b,0,none⟩=some (.pointer (some ⟨q,dz,none⟩))∧b≠q:=by
 have e:=h.bx b _ (.inr ⟨rfl,rfl⟩)
 exact⟨by unfold World.cell?;rw[e.1];rfl,e.2.1⟩
theorem Rw.unbox{w:World}{base q dz:Nat}{Kz:Nat→Option Value}{i o:Value}{pg pc:Nat}{ps:List (Int×Int)}{g p:Nat}{zs:List Int}{X:Nat→Obj→Prop}{H:Ht}{ca ri:Int}{b:Nat}(h:Rw w base q dz Kz i o pg pc ps g p zs H ca ri (Xb X q dz b)):Rw w base q dz Kz i o pg pc ps g p zs H ca ri X:=by
 refine⟨h.v,h.hi,h.ib,h.ho,h.pgs,h.ls,h.lb.imp id fun⟨c,e⟩=>⟨c,e.elim id fun f=>?_⟩,h.qb,h.gq,h.sn,h.tab,h.tb,fun k c e=>h.bx k c (.inl e)⟩
 exfalso
 have x:=(h.bx pg c (.inr f)).1
 obtain⟨h1,h2|⟨g',cap,cur,hv,hg,hr,rest⟩⟩:=h.ls
 ·cases h2.1
 ·have e':pg=g':=by simpa [Value.ownBlock]using(congrArg Value.ownBlock hv)
  rw[←e',x,f.2]at hr
  simp at hr
theorem Rw.box{w:World}{base q dz:Nat}{Kz:Nat→Option Value}{i o:Value}{pg pc:Nat}{ps:List (Int×Int)}{g p:Nat}{zs:List Int}{X:Nat→Obj→Prop}{H:Ht}{ca ri:Int}(h:Rw w base q dz Kz i o pg pc ps g p zs H ca ri X)(b:Nat)(hb:w.heap.size=b):Rw (w.alloc (.cells #[.pointer (some ⟨q,dz,none⟩)] 160)) base q dz Kz i o pg pc ps g p zs H ca ri (Xb X q dz b):=by
 have k:=h.keep (al (Below.refl w.heap.size w) (.cells #[.pointer (some ⟨q,dz,none⟩)] 160))
 refine⟨k.v,k.hi,k.ib,k.ho,k.pgs,k.ls,k.lb.imp id fun⟨c,e⟩=>⟨c,.inl e⟩,k.qb,k.gq,k.sn,k.tab,k.tb,fun j c e=>e.elim (k.bx j c) fun e=>?_⟩
 obtain⟨e1,rfl⟩:=e
 have e':w.heap.size=j:=by rw[hb];exact e1.symm
 subst e'
 exact⟨Vb.new _ _ _,by have:=h.v.lt;omega,by have:=(World.ownsRow.lt h.pgs g rfl).2;omega,fun f=>by obtain⟨bo,b1,b2,b3,b4⟩:=h.ho;have:=(b3.lt _ f).2;omega⟩
theorem door_ret{a:Act}{x:World}{b:Nat}{R:Ending→World→Prop}{e:Exit}(he:e=.ret∨e=.normal)(ha:a.defers=[{ target:=.fn (.func 93) #[.pointer (some ⟨b,0,none⟩)],args:=#[]}])(hR:R (.returned (.tuple #[])) x):bodyPostD Tryz.prog Tryz.f72 R e a x:=by
 have:Leaves Tryz.prog Tryz.f72 a.tmps R a.defers .returning x:=by
  rw[ha]
  refine leaves_cons (f:=93) (args:=#[.pointer (some ⟨b,0,none⟩)]) (by simp) (by simp[go_sem]) ?_
  refine(c_idle b x).mono ?_
  rintro e u' w'⟨rfl,rfl,rfl⟩
  exact⟨_,results_none rfl _ _ _,hR⟩
 rcases he with rfl|rfl<;>exact this
theorem door_pan{a:Act}{x:World}{X:Nat→Obj→Prop}{base q dz:Nat}{Kz:Nat→Option Value}{i o:Value}{pg pc:Nat}{ps:List (Int×Int)}{g p:Nat}{zs:List Int}{H:Ht}{ca ri:Int}{b:Nat}{R:Ending→World→Prop}(ha:a.defers=[{ target:=.fn (.func 93) #[.pointer (some ⟨b,0,none⟩)],args:=#[]}])(h:Rw x base q dz Kz i o pg pc ps g p zs H ca ri (Xb X q dz b))(c t:Int)(h0:0≤c)(h31:c≤31)(ht:isW t=true)(hR:∀x',Rw x' base q dz Kz i o pg pc ps g p zs (trapV H c t) c ri X→Below base x x'→R (.returned (.tuple #[])) x'):
  bodyPostD Tryz.prog Tryz.f72 R (.panic [{ v:=.iface 184 (.agg #[.int .i64 c,.int .i64 t]),recovered:=false}]) a x:=by
 show Leaves Tryz.prog Tryz.f72 a.tmps R a.defers _ x
 rw[ha]
 refine leaves_cons (f:=93) (args:=#[.pointer (some ⟨b,0,none⟩)]) (by simp) (by simp[go_sem]) ?_
 refine(c_panic h b h.boxed.1 h.boxed.2 c t h0 h31 ht).mono ?_
 rintro e u' w'⟨rfl,rfl,r,bb⟩
 exact⟨_,results_none rfl _ _ _,hR _ r.unbox bb⟩
theorem due_le(H:Ht):dueV H≤3:=by
 unfold dueV
 split
 ·omega
 ·unfold lowV
  split
  ·omega
  ·split<;>omega
def waitV(H:Ht):Ht:={ H with waiting:=H.waiting&&decide (bothV H=0)}
def stepV(H:Ht)(ps:List (Int×Int))(zs:List Int)(ca ri:Int):Ht×List Int×Int×Int:=
 if H.halted=true then(H,zs,ca,ri)
 else if ¬dueV H<0 then(trapV H (16+dueV H) 0,zs,16+dueV H,ri)
 else if(waitV H).waiting=true then(waitV H,zs,ca,ri)
 else if ¬plC (waitV H) ps zs H.pc 4=0 then(trapV (waitV H) 2 H.pc,zs,2,ri)
 else if ¬decF (fetZ (waitV H) ps zs)=0 then(trapV (waitV H) 1 (fetZ (waitV H) ps zs),zs,1,ri)
 else match doV (waitV H) ps zs ri (fetZ (waitV H) ps zs/16777216) (fetZ (waitV H) ps zs/1048576%16).toNat (fetZ (waitV H) ps zs/65536%16).toNat (fetZ (waitV H) ps zs%65536)with
  |⟨some (c,t),_,G,ys,rj⟩=>(trapV G c t,ys,c,rj)
  |⟨none,n,G,ys,rj⟩=>({ G with pc:=n,done:=min (G.done+1) 1000000000},ys,ca,rj)
theorem step_halts{w:World}{base q dz:Nat}{Kz:Nat→Option Value}{i o:Value}{pg pc:Nat}{ps:List (Int×Int)}{g p:Nat}{zs:List Int}{X:Nat→Obj→Prop}{H:Ht}{ca ri:Int}(R:Rw w base q dz Kz i o pg pc ps g p zs H ca ri X)(hh:H.halted=true):
  Calls Tryz.prog 72 #[.pointer (some ⟨q,dz,none⟩)] w fun e w'=>e=.returned (.tuple #[])∧∃i' o',Rw w' base q dz Kz i' o' pg pc ps g p (stepV H ps zs ca ri).2.1 (stepV H ps zs ca ri).1 (stepV H ps zs ca ri).2.2.1 (stepV H ps zs ca ri).2.2.2 X∧Below base w w':=by
 have hv:stepV H ps zs ca ri=(H,zs,ca,ri):=if_pos hh
 rw[hv]
 have hmf:∀(fn:Fn) (first cap:Array Value) (w:World),(Instr.makeFunc fn first cap).run Tryz.prog w=.ok (.func fn first cap) w:=fun _ _ _ _=>rfl
 obtain⟨b,hb⟩:∃b,w.heap.size=b:=⟨_,rfl⟩
 obtain⟨W,hW⟩:∃W,(w.alloc (.cells #[.pointer (some ⟨q,dz,none⟩)] 160))=W:=⟨_,rfl⟩
 have RW0:Hid (Rw W base q dz Kz i o pg pc ps g p zs H ca ri (Xb X q dz b)):=by show Rw _ _ _ _ _ _ _ _ _ _ _ _ _ _ _ _ _;rw[←hW];exact R.box b hb
 have BW0:Hid (Below base w W):=by show Below _ _ _;rw[←hW];exact bless (al (Below.refl w.heap.size w) _) R.size
 have cb:W.cell? ⟨b,0,none⟩=some (.pointer (some ⟨q,dz,none⟩)):=RW0.out.boxed.1
 have c28:W.cell? ⟨q,dz+28,none⟩=some (.bool H.halted):=RW0.out.v.cell 28 rfl
 clear R
 rw[hh]at c28
 clear hh hv
 go_enter_defers Tryz.func72,Tryz.ntmps72
 go_upto_region 1 with fail
 clear hW hb
 go_wp2_with fail
 exact door_ret (b:=b) (.inl rfl) rfl ⟨rfl,_,_,RW0.out.unbox,BW0.out⟩
theorem step_due{w:World}{base q dz:Nat}{Kz:Nat→Option Value}{i o:Value}{pg pc:Nat}{ps:List (Int×Int)}{g p:Nat}{zs:List Int}{X:Nat→Obj→Prop}{H:Ht}{ca ri:Int}(R:Rw w base q dz Kz i o pg pc ps g p zs H ca ri X)(hh:H.halted=false)(hd:¬dueV H<0):
  Calls Tryz.prog 72 #[.pointer (some ⟨q,dz,none⟩)] w fun e w'=>e=.returned (.tuple #[])∧∃i' o',Rw w' base q dz Kz i' o' pg pc ps g p (stepV H ps zs ca ri).2.1 (stepV H ps zs ca ri).1 (stepV H ps zs ca ri).2.2.1 (stepV H ps zs ca ri).2.2.2 X∧Below base w w':=by
 have hv:stepV H ps zs ca ri=(trapV H (16+dueV H) 0,zs,16+dueV H,ri):=by unfold stepV;rw[if_neg (by simp[hh]),if_pos hd]
 rw[hv]
 have hmf:∀(fn:Fn) (first cap:Array Value) (w:World),(Instr.makeFunc fn first cap).run Tryz.prog w=.ok (.func fn first cap) w:=fun _ _ _ _=>rfl
 obtain⟨b,hb⟩:∃b,w.heap.size=b:=⟨_,rfl⟩
 obtain⟨W,hW⟩:∃W,(w.alloc (.cells #[.pointer (some ⟨q,dz,none⟩)] 160))=W:=⟨_,rfl⟩
 have RW0:Hid (Rw W base q dz Kz i o pg pc ps g p zs H ca ri (Xb X q dz b)):=by show Rw _ _ _ _ _ _ _ _ _ _ _ _ _ _ _ _ _;rw[←hW];exact R.box b hb
 have BW0:Hid (Below base w W):=by show Below _ _ _;rw[←hW];exact bless (al (Below.refl w.heap.size w) _) R.size
 have cb:W.cell? ⟨b,0,none⟩=some (.pointer (some ⟨q,dz,none⟩)):=RW0.out.boxed.1
 have c28:W.cell? ⟨q,dz+28,none⟩=some (.bool H.halted):=RW0.out.v.cell 28 rfl
 clear R
 rw[hh]at c28
 clear hh hv
 have HL:Hid (0≤16+dueV H∧16+dueV H≤31):=by
  have:dueV H≤3:=due_le H
  exact⟨by omega,by omega⟩
 have HD:=hid hd
 clear hd
 go_enter_defers Tryz.func72,Tryz.ntmps72
 go_upto_region 1 with fail
 clear hW hb
 go_wp2_with fail
 refine(r_dueYes RW0.out (by have:=HD.out;omega)).mono ?_
 rintro e x1⟨he,b1⟩
 unfold pan at he
 subst he
 go_wp2_with fail
 exact door_pan (b:=b) rfl (RW0.out.keep b1) _ _ HL.out.1 HL.out.2 rfl fun x r bb=>⟨rfl,_,_,r,BW0.out.trans ((bless b1 RW0.out.size).trans bb)⟩
theorem step_waits{w:World}{base q dz:Nat}{Kz:Nat→Option Value}{i o:Value}{pg pc:Nat}{ps:List (Int×Int)}{g p:Nat}{zs:List Int}{X:Nat→Obj→Prop}{H:Ht}{ca ri:Int}(R:Rw w base q dz Kz i o pg pc ps g p zs H ca ri X)(hh:H.halted=false)(hd:dueV H<0)(hw:(waitV H).waiting=true):
  Calls Tryz.prog 72 #[.pointer (some ⟨q,dz,none⟩)] w fun e w'=>e=.returned (.tuple #[])∧∃i' o',Rw w' base q dz Kz i' o' pg pc ps g p (stepV H ps zs ca ri).2.1 (stepV H ps zs ca ri).1 (stepV H ps zs ca ri).2.2.1 (stepV H ps zs ca ri).2.2.2 X∧Below base w w':=by
 have hv:stepV H ps zs ca ri=(waitV H,zs,ca,ri):=by unfold stepV;rw[if_neg (by simp[hh]),if_neg (by simpa using hd),if_pos hw]
 rw[hv]
 have hmf:∀(fn:Fn) (first cap:Array Value) (w:World),(Instr.makeFunc fn first cap).run Tryz.prog w=.ok (.func fn first cap) w:=fun _ _ _ _=>rfl
 obtain⟨b,hb⟩:∃b,w.heap.size=b:=⟨_,rfl⟩
 obtain⟨W,hW⟩:∃W,(w.alloc (.cells #[.pointer (some ⟨q,dz,none⟩)] 160))=W:=⟨_,rfl⟩
 have RW0:Hid (Rw W base q dz Kz i o pg pc ps g p zs H ca ri (Xb X q dz b)):=by show Rw _ _ _ _ _ _ _ _ _ _ _ _ _ _ _ _ _;rw[←hW];exact R.box b hb
 have BW0:Hid (Below base w W):=by show Below _ _ _;rw[←hW];exact bless (al (Below.refl w.heap.size w) _) R.size
 have cb:W.cell? ⟨b,0,none⟩=some (.pointer (some ⟨q,dz,none⟩)):=RW0.out.boxed.1
 have c28:W.cell? ⟨q,dz+28,none⟩=some (.bool H.halted):=RW0.out.v.cell 28 rfl
 clear R
 rw[hh]at c28
 have HD:=hid hd
 have hwt:(H.waiting&&decide (bothV H=0))=true:=hw
 clear hh hv hd hw
 go_enter_defers Tryz.func72,Tryz.ntmps72
 go_upto_region 1 with fail
 clear hW hb
 go_wp2_with fail
 refine(r_dueNo RW0.out HD.out).mono ?_
 rintro e x1⟨rfl,b1⟩
 have R1:=hid (RW0.out.keep b1)
 have B1:Hid (Below base w x1):=BW0.out.trans (bless b1 RW0.out.size)
 clear cb c28 b1
 have cb:x1.cell? ⟨b,0,none⟩=some (.pointer (some ⟨q,dz,none⟩)):=R1.out.boxed.1
 go_wp2_with fail
 refine(r_waits R1.out).mono ?_
 rintro e x2⟨he,r2,b2⟩
 rw[hwt]at he
 subst he
 have R2:=hid r2
 have B2:Hid (Below base w x2):=B1.out.trans b2
 clear cb r2 b2
 clear hwt
 go_wp2_with fail
 exact door_ret (b:=b) (.inl rfl) rfl ⟨rfl,_,_,R2.out.unbox,B2.out⟩
def stQ(R:Ending→World→Prop):Exit→Act→World→Prop
 | .panic c,a,w=>∀tmps,Leaves Tryz.prog Tryz.f72 tmps R a.defers (.panicking c) w
 |e,a,w=>bodyPostD Tryz.prog Tryz.f72 R e a w
theorem stQ_to(R:Ending→World→Prop)(e:Exit)(a:Act)(w:World)(h:stQ R e a w):bodyPostD Tryz.prog Tryz.f72 R e a w:=by
 cases e with
 |panic c=>exact h a.tmps
 |_=>exact h
theorem door_pan2{a:Act}{x:World}{X:Nat→Obj→Prop}{base q dz:Nat}{Kz:Nat→Option Value}{i o:Value}{pg pc:Nat}{ps:List (Int×Int)}{g p:Nat}{zs:List Int}{H:Ht}{ca ri:Int}{b:Nat}{R:Ending→World→Prop}(ha:a.defers=[{ target:=.fn (.func 93) #[.pointer (some ⟨b,0,none⟩)],args:=#[]}])(h:Rw x base q dz Kz i o pg pc ps g p zs H ca ri (Xb X q dz b))(c t:Int)(h0:0≤c)(h31:c≤31)(ht:isW t=true)(hR:∀x',Rw x' base q dz Kz i o pg pc ps g p zs (trapV H c t) c ri X→Below base x x'→R (.returned (.tuple #[])) x'):
  stQ R (.panic [{ v:=.iface 184 (.agg #[.int .i64 c,.int .i64 t]),recovered:=false}]) a x:=by
 intro tmps
 exact door_pan (a:={ tmps:=tmps,defers:=a.defers}) ha h c t h0 h31 ht hR
theorem br_word{t:Bool}{x y:Int}(hx:isW x=true)(hy:isW y=true):isW (brV t x y)=true:=by
 unfold brV;split<;>assumption
def Wd(x:Dr):Prop:=(x.t=none→isW x.next=true)∧∀c t,x.t=some (c,t)→0≤c∧c≤31∧isW t=true
theorem wd_ite{p:Prop} [Decidable p]{x y:Dr}(hx:Wd x)(hy:Wd y):Wd (if p then x else y):=by split<;>assumption
theorem wd_ok{n:Int}{H:Ht}{zs:List Int}{ri:Int}(h:isW n=true):Wd ⟨none,n,H,zs,ri⟩:=⟨fun _=>h,fun c t e=>(by cases e)⟩
theorem wd_no{c t n:Int}{H:Ht}{zs:List Int}{ri:Int}(h0:0≤c)(h1:c≤31)(h:isW t=true):Wd ⟨some (c,t),n,H,zs,ri⟩:=⟨fun e=>(by cases e),fun c' t' e=>(by cases e;exact⟨h0,h1,h⟩)⟩
theorem doV_word{H:Ht}(K:Hok H)(ps:List (Int×Int))(zs:List Int)(ri op:Int)(d a:Nat)(im:Int):Wd (doV H ps zs ri op d a im):=by
 unfold doV
 repeat' apply wd_ite
 all_goals first
  |exact wd_ok (add_word _ _)
  |exact wd_ok (br_word (add_word _ _) (add_word _ _))
  |exact wd_no (by decide) (by decide) (add_word _ _)
  |exact wd_no (by decide) (by decide) rfl
  |exact wd_ok (backV_hok K).pw
  |exact wd_ok K.pw
theorem ins_parts{op d a im:Int}(h:insC op d a im=0):1≤op∧op≤26∧0≤d∧d≤15∧0≤a∧a≤15∧0≤im∧im≤65535∧(op≤11→im<16)∧(op=21∨op=22→im≤10):=by
 unfold insC at h
 split at h
 ·split at h<;>omega
 ·omega
theorem step_fetchNo{w:World}{base q dz:Nat}{Kz:Nat→Option Value}{i o:Value}{pg pc:Nat}{ps:List (Int×Int)}{g p:Nat}{zs:List Int}{X:Nat→Obj→Prop}{H:Ht}{ca ri:Int}(R:Rw w base q dz Kz i o pg pc ps g p zs H ca ri X)(hh:H.halted=false)(hd:dueV H<0)(hw:(waitV H).waiting=false)(hz:¬plC (waitV H) ps zs H.pc 4=0):
  Calls Tryz.prog 72 #[.pointer (some ⟨q,dz,none⟩)] w fun e w'=>e=.returned (.tuple #[])∧∃i' o',Rw w' base q dz Kz i' o' pg pc ps g p (stepV H ps zs ca ri).2.1 (stepV H ps zs ca ri).1 (stepV H ps zs ca ri).2.2.1 (stepV H ps zs ca ri).2.2.2 X∧Below base w w':=by
 have hv:stepV H ps zs ca ri=(trapV (waitV H) 2 H.pc,zs,2,ri):=by unfold stepV;rw[if_neg (by simp[hh]),if_neg (by simpa using hd),if_neg (by simp[hw]),if_pos hz]
 have HZ:=hid hz
 clear hz
 rw[hv]
 have hmf:∀(fn:Fn) (first cap:Array Value) (w:World),(Instr.makeFunc fn first cap).run Tryz.prog w=.ok (.func fn first cap) w:=fun _ _ _ _=>rfl
 obtain⟨b,hb⟩:∃b,w.heap.size=b:=⟨_,rfl⟩
 obtain⟨W,hW⟩:∃W,(w.alloc (.cells #[.pointer (some ⟨q,dz,none⟩)] 160))=W:=⟨_,rfl⟩
 have RW0:Hid (Rw W base q dz Kz i o pg pc ps g p zs H ca ri (Xb X q dz b)):=by show Rw _ _ _ _ _ _ _ _ _ _ _ _ _ _ _ _ _;rw[←hW];exact R.box b hb
 have BW0:Hid (Below base w W):=by show Below _ _ _;rw[←hW];exact bless (al (Below.refl w.heap.size w) _) R.size
 have cb:W.cell? ⟨b,0,none⟩=some (.pointer (some ⟨q,dz,none⟩)):=RW0.out.boxed.1
 have c28:W.cell? ⟨q,dz+28,none⟩=some (.bool H.halted):=RW0.out.v.cell 28 rfl
 clear R
 rw[hh]at c28
 have HD:=hid hd
 have hwt:(H.waiting&&decide (bothV H=0))=false:=hw
 clear hh hv hd hw
 refine calls_of_wp_defers Tryz.func72 rfl ?_
 refine Code.wp_mono (stQ_to _) ?_
 simp only[Tryz.ntmps72,List.size_toArray,List.length_cons,List.length_nil,Nat.reduceAdd,Nat.reduceSub,Array.replicate_succ,Array.replicate_zero,List.push_toArray,List.append_toArray,List.nil_append,List.cons_append]
 go_upto_region 1 with fail
 clear hW hb
 go_wp2_with fail
 refine(r_dueNo RW0.out HD.out).mono ?_
 rintro e x1⟨rfl,b1⟩
 have R1:=hid (RW0.out.keep b1)
 have B1:Hid (Below base w x1):=BW0.out.trans (bless b1 RW0.out.size)
 clear cb c28 b1
 have cb:x1.cell? ⟨b,0,none⟩=some (.pointer (some ⟨q,dz,none⟩)):=R1.out.boxed.1
 go_wp2_with fail
 refine(r_waits R1.out).mono ?_
 rintro e x2⟨he,r2,b2⟩
 rw[hwt]at he
 subst he
 have R2:=hid r2
 have B2:Hid (Below base w x2):=B1.out.trans b2
 clear cb r2 b2
 clear hwt
 go_upto_region 5 with fail
 have S0:Hid (x2.drew.cell? ⟨b,0,none⟩=some (.pointer (some ⟨q,dz,none⟩))):=R2.out.boxed.1
 have R3:Hid (Rw x2.drew base q dz Kz i o pg pc ps g p zs (waitV H) ca ri (Xb X q dz b)):=R2.out.keep (Below.refl _ _).drew
 have B3:Hid (Below base w x2.drew):=B2.out.drew
 refine wp_region_held (S:=fun w'=>w'.cell? ⟨b,0,none⟩=some (.pointer (some ⟨q,dz,none⟩))) (by kernel_rfl) ?_
 change wpAnyH _ _ _ _ _ _ _ _ (World.drew _)
 generalize x2.drew=x0 at*
 refine wpTe 0 12 (.pointer (some ⟨q,dz,none⟩)) rfl (Or.inl ⟨by rfl,fun w' hs=>by have hc:=hs;go_simp⟩) S0.out ?_
 simp only[Act.put,zT,zZ,zS]
 refine wpTe 1 13 (.pointer (some ⟨q,dz,none⟩)) rfl (Or.inl ⟨by rfl,fun w' hs=>by have hc:=hs;go_simp⟩) S0.out ?_
 simp only[Act.put,zT,zZ,zS]
 refine wpTe 2 14 (.pointer (some ⟨q,dz,none⟩)) rfl (Or.inl ⟨by rfl,fun w' hs=>by have hc:=hs;go_simp⟩) S0.out ?_
 simp only[Act.put,zT,zZ,zS]
 refine zR 3 rfl fun K hK=>?_
 rw[if_pos (by rfl)]
 go_simp
 refine(r_fetchNo R3.out HZ.out).mono ?_
 rintro e x1⟨he,b2⟩
 unfold pan at he
 subst he
 clear hK
 go_wp2_with fail
 exact door_pan2 (b:=b) rfl (R3.out.keep b2) 2 H.pc (by decide) (by decide) R3.out.sn.hok.pw fun x r bb=>⟨rfl,_,_,r,B3.out.trans ((bless b2 R3.out.size).trans bb)⟩
theorem step_bad{w:World}{base q dz:Nat}{Kz:Nat→Option Value}{i o:Value}{pg pc:Nat}{ps:List (Int×Int)}{g p:Nat}{zs:List Int}{X:Nat→Obj→Prop}{H:Ht}{ca ri:Int}(R:Rw w base q dz Kz i o pg pc ps g p zs H ca ri X)(hh:H.halted=false)(hd:dueV H<0)(hw:(waitV H).waiting=false)(hz:plC (waitV H) ps zs H.pc 4=0)(hf:¬decF (fetZ (waitV H) ps zs)=0):
  Calls Tryz.prog 72 #[.pointer (some ⟨q,dz,none⟩)] w fun e w'=>e=.returned (.tuple #[])∧∃i' o',Rw w' base q dz Kz i' o' pg pc ps g p (stepV H ps zs ca ri).2.1 (stepV H ps zs ca ri).1 (stepV H ps zs ca ri).2.2.1 (stepV H ps zs ca ri).2.2.2 X∧Below base w w':=by
 have hv:stepV H ps zs ca ri=(trapV (waitV H) 1 (fetZ (waitV H) ps zs),zs,1,ri):=by unfold stepV;rw[if_neg (by simp[hh]),if_neg (by simpa using hd),if_neg (by simp[hw]),if_neg (by simpa using hz),if_pos hf]
 have HZ:Hid (plC (waitV H) ps zs H.pc 4=0∧decV (fetZ (waitV H) ps zs)=.agg #[.int .i64 5,.int .i64 0,.int .i64 0,.int .i64 0,.int .i64 0]):=⟨hz,if_neg hf⟩
 clear hz hf
 rw[hv]
 have hmf:∀(fn:Fn) (first cap:Array Value) (w:World),(Instr.makeFunc fn first cap).run Tryz.prog w=.ok (.func fn first cap) w:=fun _ _ _ _=>rfl
 obtain⟨b,hb⟩:∃b,w.heap.size=b:=⟨_,rfl⟩
 obtain⟨W,hW⟩:∃W,(w.alloc (.cells #[.pointer (some ⟨q,dz,none⟩)] 160))=W:=⟨_,rfl⟩
 have RW0:Hid (Rw W base q dz Kz i o pg pc ps g p zs H ca ri (Xb X q dz b)):=by show Rw _ _ _ _ _ _ _ _ _ _ _ _ _ _ _ _ _;rw[←hW];exact R.box b hb
 have BW0:Hid (Below base w W):=by show Below _ _ _;rw[←hW];exact bless (al (Below.refl w.heap.size w) _) R.size
 have cb:W.cell? ⟨b,0,none⟩=some (.pointer (some ⟨q,dz,none⟩)):=RW0.out.boxed.1
 have c28:W.cell? ⟨q,dz+28,none⟩=some (.bool H.halted):=RW0.out.v.cell 28 rfl
 clear R
 rw[hh]at c28
 have HD:=hid hd
 have hwt:(H.waiting&&decide (bothV H=0))=false:=hw
 clear hh hv hd hw
 refine calls_of_wp_defers Tryz.func72 rfl ?_
 refine Code.wp_mono (stQ_to _) ?_
 simp only[Tryz.ntmps72,List.size_toArray,List.length_cons,List.length_nil,Nat.reduceAdd,Nat.reduceSub,Array.replicate_succ,Array.replicate_zero,List.push_toArray,List.append_toArray,List.nil_append,List.cons_append]
 go_upto_region 1 with fail
 clear hW hb
 go_wp2_with fail
 refine(r_dueNo RW0.out HD.out).mono ?_
 rintro e x1⟨rfl,b1⟩
 have R1:=hid (RW0.out.keep b1)
 have B1:Hid (Below base w x1):=BW0.out.trans (bless b1 RW0.out.size)
 clear cb c28 b1
 have cb:x1.cell? ⟨b,0,none⟩=some (.pointer (some ⟨q,dz,none⟩)):=R1.out.boxed.1
 go_wp2_with fail
 refine(r_waits R1.out).mono ?_
 rintro e x2⟨he,r2,b2⟩
 rw[hwt]at he
 subst he
 have R2:=hid r2
 have B2:Hid (Below base w x2):=B1.out.trans b2
 clear cb r2 b2
 clear hwt
 go_upto_region 5 with fail
 have S0:Hid (x2.drew.cell? ⟨b,0,none⟩=some (.pointer (some ⟨q,dz,none⟩))):=R2.out.boxed.1
 have R3:Hid (Rw x2.drew base q dz Kz i o pg pc ps g p zs (waitV H) ca ri (Xb X q dz b)):=R2.out.keep (Below.refl _ _).drew
 have B3:Hid (Below base w x2.drew):=B2.out.drew
 refine wp_region_held (S:=fun w'=>w'.cell? ⟨b,0,none⟩=some (.pointer (some ⟨q,dz,none⟩))) (by kernel_rfl) ?_
 change wpAnyH _ _ _ _ _ _ _ _ (World.drew _)
 generalize x2.drew=x0 at*
 refine wpTe 0 12 (.pointer (some ⟨q,dz,none⟩)) rfl (Or.inl ⟨by rfl,fun w' hs=>by have hc:=hs;go_simp⟩) S0.out ?_
 simp only[Act.put,zT,zZ,zS]
 refine wpTe 1 13 (.pointer (some ⟨q,dz,none⟩)) rfl (Or.inl ⟨by rfl,fun w' hs=>by have hc:=hs;go_simp⟩) S0.out ?_
 simp only[Act.put,zT,zZ,zS]
 refine wpTe 2 14 (.pointer (some ⟨q,dz,none⟩)) rfl (Or.inl ⟨by rfl,fun w' hs=>by have hc:=hs;go_simp⟩) S0.out ?_
 simp only[Act.put,zT,zZ,zS]
 refine zR 3 rfl fun K hK=>?_
 rw[if_pos (by rfl)]
 go_simp
 refine(r_fetch R3.out HZ.out.1 5 0 0 0 0 HZ.out.2).mono ?_
 rintro e x1⟨he,b2⟩
 rw[if_neg (by decide)]at he
 unfold pan at he
 subst he
 clear hK
 go_wp2_with fail
 exact door_pan2 (b:=b) rfl (R3.out.keep b2) 1 (fetZ (waitV H) ps zs) (by decide) (by decide) (word_at R3.out.sn.zw _) fun x r bb=>⟨rfl,_,_,r,B3.out.trans ((bless b2 R3.out.size).trans bb)⟩
theorem done_hok{G:Ht}(K:Hok G){n:Int}(hn:isW n=true):Hok { G with pc:=n}:=
 ⟨K.r16,K.c11,K.r0,K.rw,hn,K.cw,K.iw,K.ow,K.i40,K.o40,K.d0,K.d9,K.st⟩
theorem more_hok{G:Ht}(K:Hok G):Hok { G with done:=min (G.done+1) 1000000000}:=
 ⟨K.r16,K.c11,K.r0,K.rw,K.pw,K.cw,K.iw,K.ow,K.i40,K.o40,by have:=K.d0;show 0≤min (G.done+1) 1000000000;omega,by show min (G.done+1) 1000000000≤_;omega,K.st⟩
theorem mcr_more(H:Ht)(i o l pg:Value)(ca ri:Int)(u:Int):(mcr H i o l pg ca ri).setIfInBounds 31 (.int .i64 u)=mcr { H with done:=u} i o l pg ca ri:=rfl
theorem step_trap{w:World}{base q dz:Nat}{Kz:Nat→Option Value}{i o:Value}{pg pc:Nat}{ps:List (Int×Int)}{g p:Nat}{zs:List Int}{X:Nat→Obj→Prop}{H:Ht}{ca ri:Int}(R:Rw w base q dz Kz i o pg pc ps g p zs H ca ri X)(hh:H.halted=false)(hd:dueV H<0)(hw:(waitV H).waiting=false)(hz:plC (waitV H) ps zs H.pc 4=0)(op:Int)(d a:Nat)(im:Int)(hc:decV (fetZ (waitV H) ps zs)=.agg #[.int .i64 0,.int .i64 op,.int .i64 (d:Int),.int .i64 (a:Int),.int .i64 im])(hi:insC op d a im=0)(c t n:Int)(G:Ht)(ys:List Int)(rj:Int)(hx:(doV (waitV H) ps zs ri op d a im)=⟨some (c,t),n,G,ys,rj⟩)(hv:stepV H ps zs ca ri=(trapV G c t,ys,c,rj)):
  Calls Tryz.prog 72 #[.pointer (some ⟨q,dz,none⟩)] w fun e w'=>e=.returned (.tuple #[])∧∃i' o',Rw w' base q dz Kz i' o' pg pc ps g p (stepV H ps zs ca ri).2.1 (stepV H ps zs ca ri).1 (stepV H ps zs ca ri).2.2.1 (stepV H ps zs ca ri).2.2.2 X∧Below base w w':=by
 have HZ:Hid (plC (waitV H) ps zs H.pc 4=0∧decV (fetZ (waitV H) ps zs)=.agg #[.int .i64 0,.int .i64 op,.int .i64 (d:Int),.int .i64 (a:Int),.int .i64 im]):=⟨hz,hc⟩
 have HI:=hid hi
 have HDW:Hid (Hok (waitV H)→Wd (doV (waitV H) ps zs ri op d a im)):=fun K=>doV_word K ps zs ri op d a im
 clear hz hc hi
 have HX:=hid hx
 clear hx
 rw[hv]
 have hmf:∀(fn:Fn) (first cap:Array Value) (w:World),(Instr.makeFunc fn first cap).run Tryz.prog w=.ok (.func fn first cap) w:=fun _ _ _ _=>rfl
 obtain⟨b,hb⟩:∃b,w.heap.size=b:=⟨_,rfl⟩
 obtain⟨W,hW⟩:∃W,(w.alloc (.cells #[.pointer (some ⟨q,dz,none⟩)] 160))=W:=⟨_,rfl⟩
 have RW0:Hid (Rw W base q dz Kz i o pg pc ps g p zs H ca ri (Xb X q dz b)):=by show Rw _ _ _ _ _ _ _ _ _ _ _ _ _ _ _ _ _;rw[←hW];exact R.box b hb
 have BW0:Hid (Below base w W):=by show Below _ _ _;rw[←hW];exact bless (al (Below.refl w.heap.size w) _) R.size
 have cb:W.cell? ⟨b,0,none⟩=some (.pointer (some ⟨q,dz,none⟩)):=RW0.out.boxed.1
 have c28:W.cell? ⟨q,dz+28,none⟩=some (.bool H.halted):=RW0.out.v.cell 28 rfl
 clear R
 rw[hh]at c28
 have HD:=hid hd
 have hwt:(H.waiting&&decide (bothV H=0))=false:=hw
 clear hh hv hd hw
 refine calls_of_wp_defers Tryz.func72 rfl ?_
 refine Code.wp_mono (stQ_to _) ?_
 simp only[Tryz.ntmps72,List.size_toArray,List.length_cons,List.length_nil,Nat.reduceAdd,Nat.reduceSub,Array.replicate_succ,Array.replicate_zero,List.push_toArray,List.append_toArray,List.nil_append,List.cons_append]
 go_upto_region 1 with fail
 clear hW hb
 go_wp2_with fail
 refine(r_dueNo RW0.out HD.out).mono ?_
 rintro e x1⟨rfl,b1⟩
 have R1:=hid (RW0.out.keep b1)
 have B1:Hid (Below base w x1):=BW0.out.trans (bless b1 RW0.out.size)
 clear cb c28 b1
 have cb:x1.cell? ⟨b,0,none⟩=some (.pointer (some ⟨q,dz,none⟩)):=R1.out.boxed.1
 go_wp2_with fail
 refine(r_waits R1.out).mono ?_
 rintro e x2⟨he,r2,b2⟩
 rw[hwt]at he
 subst he
 have R2:=hid r2
 have B2:Hid (Below base w x2):=B1.out.trans b2
 clear cb r2 b2
 clear hwt
 go_upto_region 5 with fail
 have S0:Hid (x2.drew.cell? ⟨b,0,none⟩=some (.pointer (some ⟨q,dz,none⟩))):=R2.out.boxed.1
 have R3:Hid (Rw x2.drew base q dz Kz i o pg pc ps g p zs (waitV H) ca ri (Xb X q dz b)):=R2.out.keep (Below.refl _ _).drew
 have B3:Hid (Below base w x2.drew):=B2.out.drew
 refine wp_region_held (S:=fun w'=>w'.cell? ⟨b,0,none⟩=some (.pointer (some ⟨q,dz,none⟩))) (by kernel_rfl) ?_
 change wpAnyH _ _ _ _ _ _ _ _ (World.drew _)
 generalize x2.drew=x0 at*
 refine wpTe 0 12 (.pointer (some ⟨q,dz,none⟩)) rfl (Or.inl ⟨by rfl,fun w' hs=>by have hc:=hs;go_simp⟩) S0.out ?_
 simp only[Act.put,zT,zZ,zS]
 refine wpTe 1 13 (.pointer (some ⟨q,dz,none⟩)) rfl (Or.inl ⟨by rfl,fun w' hs=>by have hc:=hs;go_simp⟩) S0.out ?_
 simp only[Act.put,zT,zZ,zS]
 refine wpTe 2 14 (.pointer (some ⟨q,dz,none⟩)) rfl (Or.inl ⟨by rfl,fun w' hs=>by have hc:=hs;go_simp⟩) S0.out ?_
 simp only[Act.put,zT,zZ,zS]
 refine zR 3 rfl fun K hK=>?_
 rw[if_pos (by rfl)]
 go_simp
 refine(r_fetch R3.out HZ.out.1 0 op d a im HZ.out.2).mono ?_
 rintro e x1⟨he,b2⟩
 rw[if_pos rfl]at he
 subst he
 have R4:=hid (R3.out.keep b2)
 have B4:Hid (Below base w x1):=B3.out.trans (bless b2 R3.out.size)
 clear b2
 have S1:Hid (x1.cell? ⟨b,0,none⟩=some (.pointer (some ⟨q,dz,none⟩))):=R4.out.boxed.1
 refine hK.out _ _ S1.out (fun _=>?_)
 clear hK K
 refine zR 4 rfl fun K hK=>?_
 rw[if_pos (by rfl)]
 go_simp
 refine(i_deed op d a im x1).mono ?_
 rintro e x3⟨rfl,b2⟩
 have R5:=hid (R4.out.keep b2)
 have B5:Hid (Below base w x3):=B4.out.trans (bless b2 R4.out.size)
 clear b2
 have S3:Hid (x3.cell? ⟨b,0,none⟩=some (.pointer (some ⟨q,dz,none⟩))):=R5.out.boxed.1
 generalize hT:deedT op=T
 refine hK.out _ _ S3.out (fun _=>?_)
 clear hK K
 refine zR 5 rfl fun K hK=>?_
 rw[if_pos (by rfl)]
 go_simp
 have I:=ins_parts HI.out
 rw[←hT]
 refine(r_do R5.out op d a im (by omega) (by omega) I.2.2.2.2.2.2.1 I.2.2.2.2.2.2.2.1 I.1 I.2.1 I.2.2.2.2.2.2.2.2.1 I.2.2.2.2.2.2.2.2.2).mono ?_
 clear I hT
 rintro e x4⟨he,i2,o2,r4,b4⟩
 have W1:=(HDW.out R5.out.sn.hok).2 c t (by rw[HX.out])
 rw[HX.out]at he r4
 unfold Dr.e pan at he
 simp only at he
 subst he
 clear hK
 go_wp2_with fail
 exact door_pan2 (b:=b) rfl r4 c t W1.1 W1.2.1 W1.2.2 fun x r bb=>⟨rfl,_,_,r,B5.out.trans (b4.trans bb)⟩
theorem step_done{w:World}{base q dz:Nat}{Kz:Nat→Option Value}{i o:Value}{pg pc:Nat}{ps:List (Int×Int)}{g p:Nat}{zs:List Int}{X:Nat→Obj→Prop}{H:Ht}{ca ri:Int}(R:Rw w base q dz Kz i o pg pc ps g p zs H ca ri X)(hh:H.halted=false)(hd:dueV H<0)(hw:(waitV H).waiting=false)(hz:plC (waitV H) ps zs H.pc 4=0)(op:Int)(d a:Nat)(im:Int)(hc:decV (fetZ (waitV H) ps zs)=.agg #[.int .i64 0,.int .i64 op,.int .i64 (d:Int),.int .i64 (a:Int),.int .i64 im])(hi:insC op d a im=0)(n:Int)(G:Ht)(ys:List Int)(rj:Int)(hx:(doV (waitV H) ps zs ri op d a im)=⟨none,n,G,ys,rj⟩)(hv:stepV H ps zs ca ri=({ G with pc:=n,done:=min (G.done+1) 1000000000},ys,ca,rj)):
  Calls Tryz.prog 72 #[.pointer (some ⟨q,dz,none⟩)] w fun e w'=>e=.returned (.tuple #[])∧∃i' o',Rw w' base q dz Kz i' o' pg pc ps g p (stepV H ps zs ca ri).2.1 (stepV H ps zs ca ri).1 (stepV H ps zs ca ri).2.2.1 (stepV H ps zs ca ri).2.2.2 X∧Below base w w':=by
 have HZ:Hid (plC (waitV H) ps zs H.pc 4=0∧decV (fetZ (waitV H) ps zs)=.agg #[.int .i64 0,.int .i64 op,.int .i64 (d:Int),.int .i64 (a:Int),.int .i64 im]):=⟨hz,hc⟩
 have HI:=hid hi
 have HDW:Hid (Hok (waitV H)→Wd (doV (waitV H) ps zs ri op d a im)):=fun K=>doV_word K ps zs ri op d a im
 clear hz hc hi
 have HX:=hid hx
 clear hx
 rw[hv]
 have hmf:∀(fn:Fn) (first cap:Array Value) (w:World),(Instr.makeFunc fn first cap).run Tryz.prog w=.ok (.func fn first cap) w:=fun _ _ _ _=>rfl
 obtain⟨b,hb⟩:∃b,w.heap.size=b:=⟨_,rfl⟩
 obtain⟨W,hW⟩:∃W,(w.alloc (.cells #[.pointer (some ⟨q,dz,none⟩)] 160))=W:=⟨_,rfl⟩
 have RW0:Hid (Rw W base q dz Kz i o pg pc ps g p zs H ca ri (Xb X q dz b)):=by show Rw _ _ _ _ _ _ _ _ _ _ _ _ _ _ _ _ _;rw[←hW];exact R.box b hb
 have BW0:Hid (Below base w W):=by show Below _ _ _;rw[←hW];exact bless (al (Below.refl w.heap.size w) _) R.size
 have cb:W.cell? ⟨b,0,none⟩=some (.pointer (some ⟨q,dz,none⟩)):=RW0.out.boxed.1
 have c28:W.cell? ⟨q,dz+28,none⟩=some (.bool H.halted):=RW0.out.v.cell 28 rfl
 clear R
 rw[hh]at c28
 have HD:=hid hd
 have hwt:(H.waiting&&decide (bothV H=0))=false:=hw
 clear hh hv hd hw
 refine calls_of_wp_defers Tryz.func72 rfl ?_
 refine Code.wp_mono (stQ_to _) ?_
 simp only[Tryz.ntmps72,List.size_toArray,List.length_cons,List.length_nil,Nat.reduceAdd,Nat.reduceSub,Array.replicate_succ,Array.replicate_zero,List.push_toArray,List.append_toArray,List.nil_append,List.cons_append]
 go_upto_region 1 with fail
 clear hW hb
 go_wp2_with fail
 refine(r_dueNo RW0.out HD.out).mono ?_
 rintro e x1⟨rfl,b1⟩
 have R1:=hid (RW0.out.keep b1)
 have B1:Hid (Below base w x1):=BW0.out.trans (bless b1 RW0.out.size)
 clear cb c28 b1
 have cb:x1.cell? ⟨b,0,none⟩=some (.pointer (some ⟨q,dz,none⟩)):=R1.out.boxed.1
 go_wp2_with fail
 refine(r_waits R1.out).mono ?_
 rintro e x2⟨he,r2,b2⟩
 rw[hwt]at he
 subst he
 have R2:=hid r2
 have B2:Hid (Below base w x2):=B1.out.trans b2
 clear cb r2 b2
 clear hwt
 go_upto_region 5 with fail
 have S0:Hid (x2.drew.cell? ⟨b,0,none⟩=some (.pointer (some ⟨q,dz,none⟩))):=R2.out.boxed.1
 have R3:Hid (Rw x2.drew base q dz Kz i o pg pc ps g p zs (waitV H) ca ri (Xb X q dz b)):=R2.out.keep (Below.refl _ _).drew
 have B3:Hid (Below base w x2.drew):=B2.out.drew
 refine wp_region_held (S:=fun w'=>w'.cell? ⟨b,0,none⟩=some (.pointer (some ⟨q,dz,none⟩))) (by kernel_rfl) ?_
 change wpAnyH _ _ _ _ _ _ _ _ (World.drew _)
 generalize x2.drew=x0 at*
 refine wpTe 0 12 (.pointer (some ⟨q,dz,none⟩)) rfl (Or.inl ⟨by rfl,fun w' hs=>by have hc:=hs;go_simp⟩) S0.out ?_
 simp only[Act.put,zT,zZ,zS]
 refine wpTe 1 13 (.pointer (some ⟨q,dz,none⟩)) rfl (Or.inl ⟨by rfl,fun w' hs=>by have hc:=hs;go_simp⟩) S0.out ?_
 simp only[Act.put,zT,zZ,zS]
 refine wpTe 2 14 (.pointer (some ⟨q,dz,none⟩)) rfl (Or.inl ⟨by rfl,fun w' hs=>by have hc:=hs;go_simp⟩) S0.out ?_
 simp only[Act.put,zT,zZ,zS]
 refine zR 3 rfl fun K hK=>?_
 rw[if_pos (by rfl)]
 go_simp
 refine(r_fetch R3.out HZ.out.1 0 op d a im HZ.out.2).mono ?_
 rintro e x1⟨he,b2⟩
 rw[if_pos rfl]at he
 subst he
 have R4:=hid (R3.out.keep b2)
 have B4:Hid (Below base w x1):=B3.out.trans (bless b2 R3.out.size)
 clear b2
 have S1:Hid (x1.cell? ⟨b,0,none⟩=some (.pointer (some ⟨q,dz,none⟩))):=R4.out.boxed.1
 refine hK.out _ _ S1.out (fun _=>?_)
 clear hK K
 refine zR 4 rfl fun K hK=>?_
 rw[if_pos (by rfl)]
 go_simp
 refine(i_deed op d a im x1).mono ?_
 rintro e x3⟨rfl,b2⟩
 have R5:=hid (R4.out.keep b2)
 have B5:Hid (Below base w x3):=B4.out.trans (bless b2 R4.out.size)
 clear b2
 have S3:Hid (x3.cell? ⟨b,0,none⟩=some (.pointer (some ⟨q,dz,none⟩))):=R5.out.boxed.1
 generalize hT:deedT op=T
 refine hK.out _ _ S3.out (fun _=>?_)
 clear hK K
 refine zR 5 rfl fun K hK=>?_
 rw[if_pos (by rfl)]
 go_simp
 have I:=ins_parts HI.out
 rw[←hT]
 refine(r_do R5.out op d a im (by omega) (by omega) I.2.2.2.2.2.2.1 I.2.2.2.2.2.2.2.1 I.1 I.2.1 I.2.2.2.2.2.2.2.2.1 I.2.2.2.2.2.2.2.2.2).mono ?_
 clear I hT
 rintro e x4⟨he,i2,o2,r4,b4⟩
 have W1:=(HDW.out R5.out.sn.hok).1 (by rw[HX.out])
 rw[HX.out]at he r4 W1
 simp only[Dr.e]at he
 subst he
 have R6:=hid r4
 have B6:Hid (Below base w x4):=B5.out.trans b4
 have HW:Hid (isW n=true):=W1
 clear r4 b4 W1
 have S4:Hid (x4.cell? ⟨b,0,none⟩=some (.pointer (some ⟨q,dz,none⟩))):=R6.out.boxed.1
 refine hK.out _ _ S4.out (fun _=>?_)
 clear hK K
 refine wpTd 6 18 (.pointer (some ⟨q,dz,none⟩)) rfl S4.out ?_
 simp only[Act.put,zT,zZ,zS]
 refine wpTd 7 19 (.pointer (some ⟨q,dz,none⟩)) rfl S4.out ?_
 simp only[Act.put,zT,zZ,zS]
 refine wpTd 8 20 (.pointer (some ⟨q,dz,none⟩)) rfl S4.out ?_
 simp only[Act.put,zT,zZ,zS]
 refine wpTd 9 21 (.pointer (some ⟨q,dz+16,none⟩)) rfl S4.out ?_
 simp only[Act.put,zT,zZ,zS]
 refine zR 10 rfl fun K hK=>?_
 rw[if_pos (by rfl)]
 have c16:=R6.out.v.cell 16 rfl
 have f16:=R6.out.v.free 16
 have V6:=R6.out.v.set 16 (.int .i64 n)
 rw[mcr_pc]at V6
 have U6:=R6.out.upd V6 ((Mq.refl _ _).set ⟨q,dz+16,none⟩ _ rfl) rfl rfl (done_hok R6.out.sn.hok HW.out)
 have R7:Hid (Rw (x4.setCell ⟨q,dz+16,none⟩ (.int .i64 n)) base q dz Kz i2 o2 pg pc ps g p ys { G with pc:=n} ca rj (Xb X q dz b)):=U6.1
 have B7:Hid (Below base w (x4.setCell ⟨q,dz+16,none⟩ (.int .i64 n))):=B6.out.trans U6.2
 clear V6 U6
 go_simp
 generalize x4.setCell ⟨q,dz+16,none⟩ (.int .i64 n)=x5 at*
 have S5:Hid (x5.cell? ⟨b,0,none⟩=some (.pointer (some ⟨q,dz,none⟩))):=R7.out.boxed.1
 refine hK.out _ _ S5.out (fun _=>?_)
 clear hK K c16 f16
 refine wpAnyH_done (by kernel_rfl) ?_ _
 have cb:x5.cell? ⟨b,0,none⟩=some (.pointer (some ⟨q,dz,none⟩)):=S5.out
 have c31:x5.cell? ⟨q,dz+31,none⟩=some (.int .i64 G.done):=R7.out.v.cell 31 rfl
 have f31:=R7.out.v.free 31
 have DB:0≤G.done∧G.done≤1000000000:=⟨R7.out.sn.hok.d0,R7.out.sn.hok.d9⟩
 go_wp2_with fail
 go_region
 have MN:(if 1000000000<G.done+1 then 1000000000 else G.done+1)=min (G.done+1) 1000000000:=by split<;>omega
 rw[MN]
 clear MN DB c31 f31 cb
 have V8:=R7.out.v.set 31 (.int .i64 (min (G.done+1) 1000000000))
 rw[mcr_more]at V8
 have U8:Hid (_∧_):=R7.out.upd V8 ((Mq.refl _ _).set ⟨q,dz+31,none⟩ _ rfl) rfl rfl (more_hok R7.out.sn.hok)
 clear V8
 go_wp2_with fail
 exact door_ret (b:=b) (.inr rfl) rfl ⟨rfl,⟨_,_,(U8.out.1.keep (Below.refl _ _).drew).unbox⟩,B7.out.trans U8.out.2.drew⟩
theorem r_step{w:World}{base q dz:Nat}{Kz:Nat→Option Value}{i o:Value}{pg pc:Nat}{ps:List (Int×Int)}{g p:Nat}{zs:List Int}{X:Nat→Obj→Prop}{H:Ht}{ca ri:Int}(R:Rw w base q dz Kz i o pg pc ps g p zs H ca ri X):
  Calls Tryz.prog 72 #[.pointer (some ⟨q,dz,none⟩)] w fun e w'=>e=.returned (.tuple #[])∧∃i' o',Rw w' base q dz Kz i' o' pg pc ps g p (stepV H ps zs ca ri).2.1 (stepV H ps zs ca ri).1 (stepV H ps zs ca ri).2.2.1 (stepV H ps zs ca ri).2.2.2 X∧Below base w w':=by
 by_cases hh:H.halted=true
 ·exact step_halts R hh
 have hh':H.halted=false:=by simpa using hh
 by_cases hd:dueV H<0
 ·cases hw:(waitV H).waiting with
  |true=>exact step_waits R hh' hd hw
  |false=>
   by_cases hz:plC (waitV H) ps zs H.pc 4=0
   ·by_cases hf:decF (fetZ (waitV H) ps zs)=0
    ·have ip:=ins_parts hf
     obtain⟨d,hd2⟩:∃d:Nat,(fetZ (waitV H) ps zs)/1048576%16=(d:Int):=⟨((fetZ (waitV H) ps zs)/1048576%16).toNat,by omega⟩
     obtain⟨a,ha2⟩:∃a:Nat,(fetZ (waitV H) ps zs)/65536%16=(a:Int):=⟨((fetZ (waitV H) ps zs)/65536%16).toNat,by omega⟩
     have hc:decV (fetZ (waitV H) ps zs)=.agg #[.int .i64 0,.int .i64 ((fetZ (waitV H) ps zs)/16777216),.int .i64 (d:Int),.int .i64 (a:Int),.int .i64 ((fetZ (waitV H) ps zs)%65536)]:=by
      unfold decV;rw[if_pos hf,hd2,ha2]
     have hi:insC ((fetZ (waitV H) ps zs)/16777216) d a ((fetZ (waitV H) ps zs)%65536)=0:=by rw[←hd2,←ha2];exact hf
     have hs:stepV H ps zs ca ri=(match doV (waitV H) ps zs ri ((fetZ (waitV H) ps zs)/16777216) d a ((fetZ (waitV H) ps zs)%65536)with
      |⟨some (c,t),_,G,ys,rj⟩=>(trapV G c t,ys,c,rj)
      |⟨none,n,G,ys,rj⟩=>({ G with pc:=n,done:=min (G.done+1) 1000000000},ys,ca,rj)):=by
      unfold stepV
      rw[if_neg (by simp[hh]),if_neg (by simpa using hd),if_neg (by simp[hw]),if_neg (by simpa using hz),if_neg (by simpa using hf),hd2,ha2]
      rfl
     cases h:doV (waitV H) ps zs ri ((fetZ (waitV H) ps zs)/16777216) d a ((fetZ (waitV H) ps zs)%65536)with
     |mk t n G ys rj=>
      rw[h]at hs
      cases t with
      |none=>exact step_done R hh' hd hw hz _ d a _ hc hi n G ys rj h hs
      |some ct=>
       obtain⟨c,t⟩:=ct
       exact step_trap R hh' hd hw hz _ d a _ hc hi c t n G ys rj h hs
    ·exact step_bad R hh' hd hw hz hf
   ·exact step_fetchNo R hh' hd hw hz
 ·exact step_due R hh' hd
structure Gy(w:World)(base b g:Nat)(zs:List Int)(s:Gs):Prop where
 hi:Rv w s.q.i s.H.inn
 ib:∀k,s.q.i.ownBlock=some k→base≤k∧k≠b∧k≠g∧∃cs,w.heap[k]? =some (.cells cs 2 (0,0))
 ho:∃bo,base≤bo∧bo≤w.heap.size∧Nums w bo s.q.o s.H.out∧∀k,s.q.i.ownBlock=some k→k<bo
 ls:∃pg pc,s.q.l=.slice (some ⟨pg,0,none⟩) 8 pc∧pg<w.heap.size∧pg≠b∧pg≠g∧s.q.o.ownBlock≠some pg∧Prs 89 w 0 s.q.l s.ps
 sn:Sn s.H s.ps zs 24
def gq(g:Nat):Value:=.slice (some ⟨g,0,none⟩) 24 24
structure Hxu(w:World)(base b g lh vc:Nat)(zs:List Int)(rs:List Gs):Prop where
 row:w.ownsRow base 129 38 (.slice (some ⟨b,0,none⟩) lh vc) lh (flatR (gq g) rs)
 len:rs.length=lh
 pgs:Pags w base (gq g) 24 zs
 tab:Tab w
 tb:1<base
 one:∀k,k<lh→Gy w base b g zs (rs.getD k gsz)
 apt:∀j k,j<lh→k<lh→j≠k→Apt (rs.getD j gsz).q.o (rs.getD k gsz).q.i∧Apt (rs.getD j gsz).q.o (rs.getD k gsz).q.o
def Xf(w:World)(b g:Nat)(o:Value)(k:Nat)(c:Obj):Prop:=w.heap[k]? =some c∧k≠b∧k≠g∧o.ownBlock≠some k
def Sx(b g:Nat)(o:Value)(k:Nat):Prop:=k=b∨k=g∨o.ownBlock=some k
def kzF(C:Array Value)(dz:Nat)(i:Value)(t:Nat):Option Value:=if t=dz then some i else C[t]?
theorem apt_none{a b:Value}{k:Nat}(h:Apt a b)(e:b.ownBlock=some k):a.ownBlock≠some k:=fun f=>by
 rcases h with h|h
 ·rw[h]at f;cases f
 ·exact h (f.trans e.symm)
theorem apt_mk{a b:Value}(h:∀k,b.ownBlock=some k→a.ownBlock≠some k):Apt a b:=by
 unfold Apt
 cases e:a.ownBlock with
 |none=>exact .inl rfl
 |some k=>exact .inr fun f=>h k f.symm e
theorem Hxu.blk{w:World}{base b g lh vc:Nat}{zs:List Int}{rs:List Gs}(h:Hxu w base b g lh vc zs rs):base≤b∧∃C,Vb w b C 129∧C.size=vc*38∧lh≤vc∧vc≤maxLen∧∀k t,k<lh→t<38→C[k*38+t]? =(cel38 (gq g) (rs.getD k gsz))[t]? :=by
 obtain⟨h1,⟨e,_⟩|⟨g',cap',cur,e,hb,hr,hc,hm,hcs,ht⟩⟩:=h.row
 ·cases e
 have e1:g'=b∧cap'=vc:=by simp at e;exact⟨e.1.symm,e.2.symm⟩
 obtain⟨rfl,rfl⟩:=e1
 refine⟨hb,cur,hr,hcs,hc,hm,fun k t hk ht'=>?_⟩
 have e2:=flatR_get (gq g) rs k t (by rw[h.len];exact hk) ht'
 rw[←ht,List.getElem?_take]at e2
 split at e2
 ·rw[←e2,Array.getElem?_toList]
 ·rename_i hn
  exfalso
  apply hn
  have:(k+1)*38≤lh*38:=Nat.mul_le_mul_right 38 hk
  omega
theorem row_ofR{w:World}{base b lh vc:Nat}{g:Value}{C:Array Value}{rs:List Gs}(hb:base≤b)(hv:Vb w b C 129)(hs:C.size=vc*38)(hl:lh≤vc)(hm:vc≤maxLen)(hn:rs.length=lh)(hc:∀k t,k<lh→t<38→C[k*38+t]? =(cel38 g (rs.getD k gsz))[t]?):w.ownsRow base 129 38 (.slice (some ⟨b,0,none⟩) lh vc) lh (flatR g rs):=by
 refine⟨by rw[flatR_len,hn],.inr ⟨b,vc,C,rfl,hb,hv,hl,hm,hs,?_⟩⟩
 have hle:lh*38≤vc*38:=Nat.mul_le_mul_right 38 hl
 apply List.ext_getElem?
 intro t
 rw[List.getElem?_take]
 split
 ·rename_i ht
  have hk:t/38<lh:=by omega
  have e:=hc (t/38) (t%38) hk (Nat.mod_lt _ (by decide))
  have e2:=flatR_get g rs (t/38) (t%38) (by omega) (Nat.mod_lt _ (by decide))
  rw[show t/38*38+t%38=t by omega]at e e2
  rw[e2,←e,Array.getElem?_toList]
 ·rename_i ht
  rw[List.getElem?_eq_none (by rw[flatR_len,hn];omega)]
theorem page_ne{w:World}{b pg pc:Nat}{o:Value}{zs:List Int}{ps:List (Int×Int)}(h:Nums w b o zs)(k:Prs 89 w 0 (.slice (some ⟨pg,0,none⟩) 8 pc) ps):o.ownBlock≠some pg:=by
 intro e
 obtain⟨h1,h2|⟨g,cap,cur,hv,hg,hr,rest⟩⟩:=h
 ·rw[h2.1]at e;cases e
 ·obtain⟨k1,k2|⟨g',cap',cur',hv',hg',hr',rest'⟩⟩:=k
  ·cases k2.1
  ·rw[hv]at e
   have e1:g=pg:=by simpa [Value.ownBlock]using e
   have e2:pg=g':=by simpa [Value.ownBlock]using(congrArg Value.ownBlock hv')
   rw[e1,e2,hr']at hr
   simp at hr
theorem Hxu.turn{w:World}{base b g lh vc:Nat}{zs:List Int}{rs:List Gs}(h:Hxu w base b g lh vc zs rs)(j:Nat)(hj:j<lh):∃Kz pg pc,(rs.getD j gsz).q.l=.slice (some ⟨pg,0,none⟩) 8 pc∧
  Rw w base b (j*38) Kz (rs.getD j gsz).q.i (rs.getD j gsz).q.o pg pc (rs.getD j gsz).ps g 24 zs (rs.getD j gsz).H (rs.getD j gsz).ca (rs.getD j gsz).ri (Xf w b g (rs.getD j gsz).q.o)∧
  ∀w' i' o' zs' H' ca' ri',Rw w' base b (j*38) Kz i' o' pg pc (rs.getD j gsz).ps g 24 zs' H' ca' ri' (Xf w b g (rs.getD j gsz).q.o)→Below base w w'→Hxu w' base b g lh vc zs' (rs.set j ⟨⟨i',o',(rs.getD j gsz).q.l⟩,H',(rs.getD j gsz).ps,ca',ri'⟩)∧Mq (Sx b g (rs.getD j gsz).q.o) w w':=by
 obtain⟨hb,C,hC,hCs,hlv,hvm,hcl⟩:=h.blk
 have hle:(j+1)*38≤vc*38:=Nat.mul_le_mul_right 38 (by omega)
 have G:=h.one j hj
 obtain⟨pg,pc,el,lt,nb,ng,no,lp⟩:=G.ls
 have gb:g≠b:=fun e=>by
  have:=h.pgs.heap
  unfold Vb at hC
  rw[e,hC]at this
  simp at this
 have glt:g<w.heap.size:=(World.ownsRow.lt h.pgs g rfl).2
 refine⟨kzF C (j*38) (rs.getD j gsz).q.i,pg,pc,el,⟨⟨C,hC,?_,?_,?_⟩,G.hi,?_,G.ho,h.pgs,by rw[←el];exact lp,.inr ⟨_,Array.getElem?_eq_getElem lt,nb,ng,no⟩,hb,gb,G.sn,h.tab,h.tb,fun k c e=>e⟩,?_⟩
 ·show j*38+38≤_;omega
 ·intro t ht
  rw[hcl j t hj ht]
  unfold cel38
  rw[Array.getElem?_toList,←el]
  rfl
 ·intro t ht
  unfold kzF
  rw[if_neg (by
   rcases ht with ht|ht
   ·omega
   ·have:j*38+38≤t:=ht
    omega)]
 ·intro k e
  obtain⟨a1,a3,a4,cs,a2⟩:=G.ib k e
  exact⟨a1,(Array.getElem?_eq_some_iff.1 a2).1,a3,a4,by unfold kzF;rw[if_pos rfl];exact e⟩
 intro w' i' o' zs' H' ca' ri' r B
 obtain⟨C',hC',hs',hin,hout⟩:=r.v
 have hs2:j*38+38≤C'.size:=hs'
 have hsz:C'.size=vc*38:=by
  have key:∀t,j*38+38≤t→C'[t]? =C[t]? :=fun t ht=>by
   rw[hout t (.inr ht)];unfold kzF;rw[if_neg (by omega)]
  have k1:=key C'.size (by omega)
  have k2:=key C.size (by omega)
  rw[Array.getElem?_eq_none (Nat.le_refl _)]at k1
  rw[Array.getElem?_eq_none (xs:=C) (Nat.le_refl _)]at k2
  have:=Array.getElem?_eq_none_iff.1 k1.symm
  have:=Array.getElem?_eq_none_iff.1 k2
  omega
 have M:Mq (Sx b g (rs.getD j gsz).q.o) w w':=⟨B.os,B.tape,B.output,B.size,fun k hk hn=>by
  have e:w.heap[k]? =some w.heap[k]:=Array.getElem?_eq_getElem hk
  rw[e]
  exact(r.bx k _ ⟨e,fun f=>hn (.inl f),fun f=>hn (.inr (.inl f)),fun f=>hn (.inr (.inr f))⟩).1⟩
 have xo:∀k,k<w.heap.size→k≠b→k≠g→(rs.getD j gsz).q.o.ownBlock≠some k→o'.ownBlock≠some k:=fun k hk h1 h2 h3=>(r.bx k _ ⟨Array.getElem?_eq_getElem hk,h1,h2,h3⟩).2.2.2
 have hgs:∀s k,(rs.set j s).getD k gsz=if k=j then s else rs.getD k gsz:=fun s k=>by
  rw[List.getD,List.getD,List.getElem?_set]
  by_cases e:j=k
  ·subst e;rw[if_pos rfl,if_pos rfl,if_pos (by rw[h.len];exact hj)];rfl
  ·rw[if_neg e,if_neg (fun f=>e f.symm)]
 have hi':∀t,i'.ownBlock=some t→(rs.getD j gsz).q.i.ownBlock=some t:=fun t e=>by
  have:=(r.ib t e).2.2.2.2
  unfold kzF at this
  rwa[if_pos rfl]at this
 have other:∀k,k<lh→k≠j→Gy w' base b g zs' (rs.getD k gsz)∧(∀t,(rs.getD k gsz).q.i.ownBlock=some t→o'.ownBlock≠some t)∧∀t,(rs.getD k gsz).q.o.ownBlock=some t→o'.ownBlock≠some t:=fun k hk hne=>by
  have K:=h.one k hk
  have A:=h.apt j k hj hk (fun e=>hne e.symm)
  obtain⟨bo,b1,b2,b3,b4⟩:=K.ho
  have ni:∀t,(rs.getD k gsz).q.i.ownBlock=some t→¬(t=b∨t=g∨(rs.getD j gsz).q.o.ownBlock=some t):=fun t e f=>by
   obtain⟨a1,a3,a4,a2⟩:=K.ib t e
   rcases f with f|f|f
   ·exact a3 f
   ·exact a4 f
   ·exact apt_none A.1 e f
  have nO:∀t,(rs.getD k gsz).q.o.ownBlock=some t→¬(t=b∨t=g∨(rs.getD j gsz).q.o.ownBlock=some t):=fun t e f=>by
   rcases f with rfl|rfl|f
   ·exact b3.ne_vb hC (by decide) e
   ·exact b3.ne_pags h.pgs e
   ·exact apt_none A.2 e f
  obtain⟨pg2,pc2,el2,lt2,nb2,ng2,no2,lp2⟩:=K.ls
  obtain⟨bj,bj1,bj2,bj3,bj4⟩:=G.ho
  rw[el2]at lp2
  refine⟨⟨K.hi.mq M fun t e _=>ni t e,fun t e=>?_,⟨bo,b1,Nat.le_trans b2 M.size,M.nums b3 nO,b4⟩,⟨pg2,pc2,el2,Nat.lt_of_lt_of_le lt2 M.size,nb2,ng2,no2,?_⟩,K.sn.to_mem (by rw[r.sn.zl,K.sn.zl]) r.sn.zw⟩,fun t e=>?_,fun t e=>?_⟩
  ·obtain⟨a1,a3,a4,cs,a2⟩:=K.ib t e
   exact⟨a1,a3,a4,cs,(M.block t (Array.getElem?_eq_some_iff.1 a2).1 (ni t e)).trans a2⟩
  ·rw[el2]
   refine lp2.same fun t e=>?_
   have e':pg2=t:=by simpa [Value.ownBlock]using e
   subst e'
   exact M.block _ lt2 fun f=>by
    rcases f with f|f|f
    ·exact nb2 f
    ·exact ng2 f
    ·exact page_ne bj3 lp2 f
  ·obtain⟨a1,a3,a4,cs,a2⟩:=K.ib t e
   exact xo t (Array.getElem?_eq_some_iff.1 a2).1 a3 a4 (apt_none A.1 e)
  ·have:=nO t e
   exact xo t (b3.lt t e).2 (fun f=>this (.inl f)) (fun f=>this (.inr (.inl f))) (fun f=>this (.inr (.inr f)))
 refine⟨⟨row_ofR hb hC' hsz hlv hvm (by rw[List.length_set,h.len]) fun k t hk ht=>?_,by rw[List.length_set,h.len],r.pgs,r.tab,r.tb,fun k hk=>?_,fun a c ha hc hne=>?_⟩,M⟩
 ·rw[hgs]
  by_cases e:k=j
  ·subst e
   rw[if_pos rfl,hin t ht,el]
   unfold cel38
   rw[Array.getElem?_toList]
   rfl
  ·rw[if_neg e,←hcl k t hk ht,hout (k*38+t) (by
    rcases Nat.lt_or_gt_of_ne e with f|f
    ·left;omega
    ·right;show j*38+38≤_;omega)]
   unfold kzF
   rw[if_neg (by omega)]
 ·rw[hgs]
  by_cases e:k=j
  ·subst e
   rw[if_pos rfl]
   obtain⟨bo,b1,b2,b3,b4⟩:=r.ho
   refine⟨r.hi,fun t e=>?_,⟨bo,b1,b2,b3,b4⟩,⟨pg,pc,el,Nat.lt_of_lt_of_le lt M.size,nb,ng,page_ne b3 r.ls,by rw[el];exact r.ls⟩,r.sn⟩
   obtain⟨c1,c2,c3,c4⟩:=G.ib t (hi' t e)
   obtain⟨cs,c5⟩:=c4
   obtain⟨bk,k1,k2,k3,k4⟩:=G.ho
   exact⟨c1,c2,c3,cs,(M.block t (Array.getElem?_eq_some_iff.1 c5).1 fun f=>by
    rcases f with f|f|f
    ·exact c2 f
    ·exact c3 f
    ·have:=(k3.lt t f).1;have:=k4 t (hi' t e);omega).trans c5⟩
  ·rw[if_neg e]
   exact(other k hk e).1
 ·rw[hgs,hgs]
  by_cases e:a=j
  ·subst e
   rw[if_pos rfl,if_neg (fun f=>hne f.symm)]
   exact⟨apt_mk (other c hc fun f=>hne f.symm).2.1,apt_mk (other c hc fun f=>hne f.symm).2.2⟩
  ·rw[if_neg e]
   by_cases e2:c=j
   ·subst e2
    rw[if_pos rfl]
    exact⟨apt_mk fun t et=>apt_none (h.apt a c ha hc e).1 (hi' t et),(apt_mk (other a ha e).2.2).swap⟩
   ·rw[if_neg e2]
    exact h.apt a c ha hc hne
theorem Hxu.notS{w:World}{base b g lh vc:Nat}{zs:List Int}{rs:List Gs}(h:Hxu w base b g lh vc zs rs)(j:Nat)(hj:j<lh){k:Nat}{c:Obj}(hk:w.heap[k]? =some c)(hc:∀cs,c≠ .cells cs 129 (0,0)∧c≠ .cells cs 91 (0,0)∧c≠ .cells cs 2 (0,0)):¬Sx b g (rs.getD j gsz).q.o k:=by
 intro f
 obtain⟨hb,C,hC,_⟩:=h.blk
 unfold Vb at hC
 rcases f with rfl|rfl|f
 ·rw[hC]at hk;cases hk;exact(hc C).1 rfl
 ·have:=h.pgs.heap
  rw[this]at hk;cases hk;exact(hc _).2.1 rfl
 ·obtain⟨bo,b1,b2,b3,b4⟩:=(h.one j hj).ho
  obtain⟨h1,h2|⟨g',cap,cur,hv,hg,hr,rest⟩⟩:=b3
  ·rw[h2.1]at f;cases f
  ·rw[hv]at f
   have e1:g'=k:=by simpa [Value.ownBlock]using f
   rw[e1,hk]at hr;cases hr;exact(hc _).2.2 rfl
theorem Hxu.keep{w w':World}{base b g lh vc:Nat}{zs:List Int}{rs:List Gs}(h:Hxu w base b g lh vc zs rs)(B:Below w.heap.size w w'):Hxu w' base b g lh vc zs rs:=
 ⟨row_keepX h.row B,h.len,h.pgs.keep B,h.tab.keep B,h.tb,fun k hk=>by
  have K:=h.one k hk
  obtain⟨bo,b1,b2,b3,b4⟩:=K.ho
  obtain⟨pg,pc,el,lt,nb,ng,no,lp⟩:=K.ls
  exact⟨K.hi.stay B,fun t e=>by obtain⟨a1,a3,a4,cs,a2⟩:=K.ib t e;exact⟨a1,a3,a4,cs,(B.block t (Array.getElem?_eq_some_iff.1 a2).1).trans a2⟩,⟨bo,b1,Nat.le_trans b2 B.size,b3.keep B,b4⟩,⟨pg,pc,el,Nat.lt_of_lt_of_le lt B.size,nb,ng,no,lp.keep B⟩,K.sn⟩,h.apt⟩
theorem row_mqU{S:Nat→Prop}{w w':World}{base sz n:Nat}{e:TypeId}{v:Value}{xs:List Value}(m:Mq S w w')(h:w.ownsRow base e sz v n xs)(hn:∀k cs,w.heap[k]? =some (.cells cs e (0,0))→¬S k):w'.ownsRow base e sz v n xs:=by
 obtain⟨h1,h2|⟨g,cap,cur,hv,hg,hr,rest⟩⟩:=h
 ·exact⟨h1,.inl h2⟩
 ·exact⟨h1,.inr ⟨g,cap,cur,hv,hg,(m.block g (Array.getElem?_eq_some_iff.1 hr).1 (hn g cur hr)).trans hr,rest⟩⟩
theorem Hxu.mqn{S:Nat→Prop}{w w':World}{base b g lh vc:Nat}{zs:List Int}{rs:List Gs}(h:Hxu w base b g lh vc zs rs)(m:Mq S w w')(hn:∀k cs t,t≠126→w.heap[k]? =some (.cells cs t (0,0))→¬S k)(hb:∀k,k<base→¬S k):Hxu w' base b g lh vc zs rs:=by
 have B:Below base w w':=⟨m.os,m.tape,m.output,m.size,fun k hk=>m.block k (Nat.lt_of_lt_of_le hk (by obtain⟨hb',C,hC,_⟩:=h.blk;have:=hC.lt;omega)) (hb k hk)⟩
 refine⟨row_mqU m h.row fun k cs=>hn k cs _ (by decide),h.len,row_mqU m h.pgs fun k cs=>hn k cs _ (by decide),h.tab.low B h.tb,h.tb,fun k hk=>?_,h.apt⟩
 have K:=h.one k hk
 obtain⟨bo,b1,b2,b3,b4⟩:=K.ho
 obtain⟨pg,pc,el,lt,nb,ng,no,lp⟩:=K.ls
 refine⟨K.hi.mq m fun t e _=>?_,fun t e=>?_,⟨bo,b1,Nat.le_trans b2 m.size,row_mqU m b3 fun k cs=>hn k cs _ (by decide),b4⟩,⟨pg,pc,el,Nat.lt_of_lt_of_le lt m.size,nb,ng,no,row_mqU m lp fun k cs=>hn k cs _ (by decide)⟩,K.sn⟩
 ·obtain⟨a1,a3,a4,cs,a2⟩:=K.ib t e
  exact hn t cs _ (by decide) a2
 ·obtain⟨a1,a3,a4,cs,a2⟩:=K.ib t e
  exact⟨a1,a3,a4,cs,(m.block t (Array.getElem?_eq_some_iff.1 a2).1 (hn t cs _ (by decide) a2)).trans a2⟩
end Go.Proofs.YtignbeibcakgpaaGreatDoor
