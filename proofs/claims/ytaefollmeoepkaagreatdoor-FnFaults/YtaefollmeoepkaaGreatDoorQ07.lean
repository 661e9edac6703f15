import Derived.Test.YtaefollmeoepkaaGreatDoorQ05
namespace Go.Proofs.YtaefollmeoepkaaGreatDoor
set_option maxRecDepth 20000
set_option maxHeartbeats 16000000
open Go.RowKit
set_option linter.unusedVariables false
structure Ht where
 regs:List Int
 pc:Int
 csr:List Int
 halted:Bool
 waiting:Bool
 rung:Bool
 done:Int
 inn:List Int
 out:List Int
def Ht.form(H:Ht):Bool:=decide (H.regs.length=16)&&decide (H.csr.length=11)&&decide (H.regs.getD 0 0=0)
def Ht.words(H:Ht):Bool:=H.regs.all isW&&isW H.pc&&H.csr.all isW&&H.inn.all isW&&H.out.all isW
def Ht.few(H:Ht):Bool:=decide (H.inn.length≤40)&&decide (H.out.length≤40)
def Ht.nice(H:Ht):Bool:=decide (0≤H.done)&&decide (H.done≤1000000000)
def standC(zs:List Int):Bool:=decide (zs.getD 0 0≤3)&&decide (zs.getD 7 0≤7)&&decide (zs.getD 10 0≤8)&&decide (zs.getD 6 0=0)&&decide (zs.getD 8 0=0)
def hfV(H:Ht):Int:=if H.form then(if H.words then(if H.few then(if H.nice then(if standC H.csr then 0 else 1)else 3)else 2)else 3)else 1
def standV(k w:Int):Int:=if k=0 then w%4 else if k=7 then w%8 else if k=10 then(if 8<w then 0 else w)else if k=6 then 0 else if k=8 then 0 else w
structure Hok(H:Ht):Prop where
 r16:H.regs.length=16
 c11:H.csr.length=11
 r0:H.regs.getD 0 0=0
 rw:H.regs.all isW=true
 pw:isW H.pc=true
 cw:H.csr.all isW=true
 iw:H.inn.all isW=true
 ow:H.out.all isW=true
 i40:H.inn.length≤40
 o40:H.out.length≤40
 d0:0≤H.done
 d9:H.done≤1000000000
 st:standC H.csr=true
theorem hok_of{H:Ht}(h:hfV H=0):Hok H:=by
 unfold hfV at h
 split at h
 next h1=>
  split at h
  next h2=>
   split at h
   next h3=>
    split at h
    next h4=>
     split at h
     next h5=>
      simp only[Ht.form,Ht.words,Ht.few,Ht.nice,Bool.and_eq_true,decide_eq_true_eq]at h1 h2 h3 h4
      exact⟨h1.1.1,h1.1.2,h1.2,h2.1.1.1.1,h2.1.1.1.2,h2.1.1.2,h2.1.2,h2.2,h3.1,h3.2,h4.1,h4.2,h5⟩
     next=>exact absurd h (by decide)
    next=>exact absurd h (by decide)
   next=>exact absurd h (by decide)
  next=>exact absurd h (by decide)
 next=>exact absurd h (by decide)
theorem hfV_ok{H:Ht}(h:Hok H):hfV H=0:=by
 have h1:H.form=true:=by simp only[Ht.form,Bool.and_eq_true,decide_eq_true_eq];exact⟨⟨h.r16,h.c11⟩,h.r0⟩
 have h2:H.words=true:=by simp only[Ht.words,Bool.and_eq_true];exact⟨⟨⟨⟨h.rw,h.pw⟩,h.cw⟩,h.iw⟩,h.ow⟩
 have h3:H.few=true:=by simp only[Ht.few,Bool.and_eq_true,decide_eq_true_eq];exact⟨h.i40,h.o40⟩
 have h4:H.nice=true:=by simp only[Ht.nice,Bool.and_eq_true,decide_eq_true_eq];exact⟨h.d0,h.d9⟩
 simp[hfV,h1,h2,h3,h4,h.st]
theorem isW_iff{z:Int}:isW z=true↔0≤z∧z≤4294967295:=by simp[isW]
theorem all_at{zs:List Int}(h:zs.all isW=true)(i:Nat):0≤zs.getD i 0∧zs.getD i 0≤4294967295:=by
 by_cases hi:i<zs.length
 ·have:=List.all_eq_true.1 h _ (List.getElem_mem hi)
  rw[List.getD,List.getElem?_eq_getElem hi]
  exact isW_iff.1 this
 ·rw[List.getD,List.getElem?_eq_none (by omega)]
  exact⟨by decide,by decide⟩
theorem stand_all{zs:List Int}(h:zs.all isW=true)(hl:zs.length=11):(∀k:Nat,k<11→standV k (zs.getD k 0)=zs.getD k 0)↔standC zs=true:=by
 have w0:=all_at h 0
 have w7:=all_at h 7
 have w10:=all_at h 10
 simp only[standC,Bool.and_eq_true,decide_eq_true_eq]
 constructor
 ·intro k
  have k0:=k 0 (by omega)
  have k7:=k 7 (by omega)
  have k10:=k 10 (by omega)
  have k6:=k 6 (by omega)
  have k8:=k 8 (by omega)
  clear k
  generalize zs.getD 0 0=z0 at*
  generalize zs.getD 7 0=z7 at*
  generalize zs.getD 10 0=z10 at*
  generalize zs.getD 6 0=z6 at*
  generalize zs.getD 8 0=z8 at*
  simp[standV]at k0 k7 k10 k6 k8
  refine⟨⟨⟨⟨by omega,by omega⟩,?_⟩,by omega⟩,by omega⟩
  by_cases h8:8<z10
  ·have:=k10 h8
   omega
  ·omega
 ·rintro⟨⟨⟨⟨a,b⟩,c⟩,d⟩,e⟩ k hk
  unfold standV
  split
  ·rename_i h0
   obtain rfl:k=0:=by omega
   omega
  split
  ·rename_i h0
   obtain rfl:k=7:=by omega
   omega
  split
  ·rename_i h0
   obtain rfl:k=10:=by omega
   rw[if_neg (by omega)]
  split
  ·rename_i h0
   obtain rfl:k=6:=by omega
   omega
  split
  ·rename_i h0
   obtain rfl:k=8:=by omega
   omega
  rfl
def pendV(H:Ht):Int:=(if H.csr.getD 9 0≠0∧H.csr.getD 9 0≤H.done then 1 else 0)+(if H.rung then 2 else 0)+(if 0<H.inn.length then 4 else 0)
theorem pend_range(H:Ht):0≤pendV H∧pendV H≤7:=by
 unfold pendV
 split<;>split<;>split<;>omega
def getV(H:Ht)(k:Int):Int:=if k=6 then pendV H else if k=8 then H.done else H.csr.getD k.toNat 0
def setV(H:Ht)(k w:Int):Ht:={ H with csr:=H.csr.set k.toNat (standV k (wd w)),rung:=H.rung&& !(decide (k=6)&&decide (2≤wd w%4))}
def trapV(H:Ht)(cause tval:Int):Ht:={ H with csr:=(((H.csr.set 2 H.pc).set 3 cause).set 4 tval).set 0 (H.csr.getD 0 0%2*2),pc:=H.csr.getD 1 0,waiting:=false}
def backV(H:Ht):Ht:={ H with csr:=H.csr.set 0 (2+H.csr.getD 0 0/2),pc:=H.csr.getD 2 0}
def bothV(H:Ht):Int:=((pendV H).toNat&&&(H.csr.getD 7 0).toNat:Nat)
def lowV(b:Int):Int:=if b%2=1 then 0 else if b/2%2=1 then 1 else 2
def dueV(H:Ht):Int:=if H.csr.getD 0 0%2=0∨bothV H=0 then -1 else lowV (bothV H)
def newV(input:List Int):Ht:=⟨List.replicate 16 0,0,List.replicate 11 0,false,false,false,0,input,[]⟩
def voidH:Ht:=⟨[],0,[],false,false,false,0,[],[]⟩
end Go.Proofs.YtaefollmeoepkaaGreatDoor
