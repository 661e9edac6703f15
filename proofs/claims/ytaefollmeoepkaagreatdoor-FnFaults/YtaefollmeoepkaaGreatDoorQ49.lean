import Derived.Test.YtaefollmeoepkaaGreatDoorQ48
namespace Go.Proofs.YtaefollmeoepkaaGreatDoor
set_option maxRecDepth 20000
set_option maxHeartbeats 16000000
open Go.RowKit
set_option linter.unusedVariables false
theorem waitV_id{H:Ht}(h:H.waiting=false):waitV H=H:=by
 obtain⟨a,b,c,d,e,f,g,i,o⟩:=H
 simp only at h
 subst h
 rfl
theorem trap_csr(G:Ht)(c t:Int)(h:G.csr.length=11):(trapV G c t).csr.getD 4 0=t:=by
 unfold trapV
 simp only
 rw[List.getD,List.getElem?_set_ne (by decide),List.getElem?_set_self (by simp[h])]
 rfl
theorem doV_plain(H:Ht)(ps:List (Int×Int))(zs:List Int)(ri op:Int)(d a:Nat)(im:Int)(h14:¬op=14)(h15:¬op=15)(h23:¬op=23):(doV H ps zs ri op d a im).t=none:=by
 by_cases h12:op=12
 ·subst h12;rfl
 by_cases h13:op=13
 ·subst h13;rfl
 by_cases h16:op=16
 ·subst h16;rfl
 by_cases h17:op=17
 ·subst h17;rfl
 by_cases h18:op=18
 ·subst h18;rfl
 by_cases h19:op=19
 ·subst h19;rfl
 by_cases h20:op=20
 ·subst h20;rfl
 by_cases h21:op=21
 ·subst h21;rfl
 by_cases h22:op=22
 ·subst h22;rfl
 by_cases h24:op=24
 ·subst h24;rfl
 by_cases h25:op=25
 ·subst h25;rfl
 by_cases h26:op=26
 ·subst h26;rfl
 unfold doV
 rw[if_neg h12,if_neg h13,if_neg h14,if_neg h15,if_neg h16,if_neg h17,if_neg h18,if_neg h19,if_neg h20,if_neg h21,if_neg h22,if_neg h23,if_neg h24,if_neg h25,if_neg h26]
variable{H:Ht}{ps:List (Int×Int)}{zs:List Int}
theorem step_runs(hh:H.halted=false)(hw:H.waiting=false)(hd:dueV H<0):
  stepV H ps zs (-1) (-1)=if ¬plC H ps zs H.pc 4=0 then(trapV H 2 H.pc,zs,2, -1)
   else if ¬decF (fetZ H ps zs)=0 then(trapV H 1 (fetZ H ps zs),zs,1, -1)
   else match doV H ps zs (-1) (fetZ H ps zs/16777216) (fetZ H ps zs/1048576%16).toNat (fetZ H ps zs/65536%16).toNat (fetZ H ps zs%65536)with
    |⟨some (c,t),_,G,ys,rj⟩=>(trapV G c t,ys,c,rj)
    |⟨none,n,G,ys,rj⟩=>({ G with pc:=n,done:=min (G.done+1) 1000000000},ys, -1,rj):=by
 unfold stepV
 rw[waitV_id hw,if_neg (by rw[hh];decide),if_neg (by omega),if_neg (by rw[hw];decide)]
 rfl
structure Ff(H:Ht)(ps:List (Int×Int))(zs:List Int)(Y:Smr):Prop where
 run:¬plC H ps zs H.pc 4=0→Y.ca=2∧Y.H.csr.getD 4 0=H.pc
 bad:plC H ps zs H.pc 4=0→¬decF (fetZ H ps zs)=0→Y.ca=1∧Y.H.csr.getD 4 0=fetZ H ps zs
 call:plC H ps zs H.pc 4=0→decF (fetZ H ps zs)=0→fetZ H ps zs/16777216=23→Y.ca=5
 load:plC H ps zs H.pc 4=0→decF (fetZ H ps zs)=0→fetZ H ps zs/16777216=14→∀x,x=addV (gt H.regs (fetZ H ps zs/65536%16).toNat) (offV (fetZ H ps zs%65536))→(¬plC H ps zs x 1=0→Y.ca=3∧Y.H.csr.getD 4 0=x)∧(plC H ps zs x 1=0→Y.ca= -1)
 store:plC H ps zs H.pc 4=0→decF (fetZ H ps zs)=0→fetZ H ps zs/16777216=15→∀x,x=addV (gt H.regs (fetZ H ps zs/65536%16).toNat) (offV (fetZ H ps zs%65536))→(¬plC H ps zs x 2=0→Y.ca=4∧Y.H.csr.getD 4 0=x)∧(plC H ps zs x 2=0→Y.ca= -1)
 other:plC H ps zs H.pc 4=0→decF (fetZ H ps zs)=0→¬fetZ H ps zs/16777216=14→¬fetZ H ps zs/16777216=15→¬fetZ H ps zs/16777216=23→Y.ca= -1
theorem step_faults(h:seenC H ps zs=0)(hh:H.halted=false)(hw:H.waiting=false)(hd:dueV H<0):Ff H ps zs (smV H ps zs 1):=by
 obtain⟨p,sn⟩:=seen_ok h
 have hc:=sn.hok.c11
 rw[smV_good h (by decide) (by decide)]
 have e:(manyV ps (1:Int).toNat (H,zs, -1, -1))=stepV H ps zs (-1) (-1):=rfl
 rw[e,step_runs hh hw hd]
 refine⟨fun h1=>?_,fun h1 h2=>?_,fun h1 h2 h3=>?_,fun h1 h2 h3 x hx=>?_,fun h1 h2 h3 x hx=>?_,fun h1 h2 h3 h4 h5=>?_⟩
 ·rw[if_pos h1]
  exact⟨rfl,trap_csr _ _ _ hc⟩
 ·generalize fetZ H ps zs=z at*
  rw[if_neg (fun k=>k h1),if_pos h2]
  exact⟨rfl,trap_csr _ _ _ hc⟩
 ·generalize fetZ H ps zs=z at*
  rw[if_neg (fun k=>k h1),if_neg (fun k=>k h2),h3]
  rfl
 ·generalize fetZ H ps zs=z at*
  rw[if_neg (fun k=>k h1),if_neg (fun k=>k h2),h3]
  generalize (z/1048576%16).toNat=d
  generalize hA:(z/65536%16).toNat=a at*
  generalize z%65536=im at*
  rw[show doV H ps zs (-1) 14 d a im=if plC H ps zs (addV (gt H.regs a) (offV im)) 1=0 then⟨none,(addV H.pc 1),putV (loadH H ps zs (addV (gt H.regs a) (offV im))) d (loadW H ps zs (addV (gt H.regs a) (offV im))),zs, -1⟩else⟨some (3,(addV (gt H.regs a) (offV im))),0,H,zs, -1⟩from rfl,←hx]
  refine⟨fun hn=>?_,fun hz=>?_⟩
  ·rw[if_neg hn];exact⟨rfl,trap_csr _ _ _ hc⟩
  ·rw[if_pos hz]
 ·generalize fetZ H ps zs=z at*
  rw[if_neg (fun k=>k h1),if_neg (fun k=>k h2),h3]
  generalize (z/1048576%16).toNat=d
  generalize hA:(z/65536%16).toNat=a at*
  generalize z%65536=im at*
  rw[show doV H ps zs (-1) 15 d a im=if plC H ps zs (addV (gt H.regs a) (offV im)) 2=0 then⟨none,(addV H.pc 1),storeH H ps zs (addV (gt H.regs a) (offV im)) (gt H.regs d),storeZ H ps zs (addV (gt H.regs a) (offV im)) (gt H.regs d),storeR H ps zs (addV (gt H.regs a) (offV im)) (gt H.regs d) (-1)⟩else⟨some (4,(addV (gt H.regs a) (offV im))),0,H,zs, -1⟩from rfl,←hx]
  refine⟨fun hn=>?_,fun hz=>?_⟩
  ·rw[if_neg hn];exact⟨rfl,trap_csr _ _ _ hc⟩
  ·rw[if_pos hz]
 ·generalize fetZ H ps zs=z at*
  rw[if_neg (fun k=>k h1),if_neg (fun k=>k h2)]
  have hp:=doV_plain H ps zs (-1) (z/16777216) (z/1048576%16).toNat (z/65536%16).toNat (z%65536) h3 h4 h5
  generalize doV H ps zs (-1) (z/16777216) (z/1048576%16).toNat (z/65536%16).toNat (z%65536)=r at*
  obtain⟨t,n,G,ys,rj⟩:=r
  simp only at hp
  subst hp
  rfl
end Go.Proofs.YtaefollmeoepkaaGreatDoor
