import Derived.Test.YtaefollmeoepkaaGreatDoorQ18
import Derived.Test.YtaefollmeoepkaaGreatDoorQ26
namespace Go.Proofs.YtaefollmeoepkaaGreatDoor
set_option maxRecDepth 20000
set_option maxHeartbeats 16000000
open Go.RowKit
set_option linter.unusedVariables false
theorem Rv.shape{w:World}{v:Value}{zs:List Int}(h:Rv w v zs):∃a cap,v=.slice a zs.length cap∧zs.length≤cap∧cap≤maxLen:=by
 obtain⟨a,cap,rfl,hr⟩:=h
 exact⟨a,cap,rfl,hr.cap⟩
theorem Rv.lens{w:World}{a:Option Addr}{n cap:Nat}{zs:List Int}(h:Rv w (.slice a n cap) zs):n≤cap∧cap≤maxLen:=by
 obtain⟨a',cap',hv,hr⟩:=h
 simp only[Value.slice.injEq]at hv
 obtain⟨rfl,rfl,rfl⟩:=hv
 exact hr.cap
theorem r_pending(m:Nat)(i o l pg:Value)(ca ri:Int)(H:Ht)(w:World)(hv:Vb w m (mcr H i o l pg ca ri) 78)(hi:Rv w i H.inn):
  Calls Tryz.prog 127 #[.pointer (some ⟨m,0,none⟩)] w fun e w'=>e=.returned (.int .i64 (pendV H))∧w'=w:=by
 obtain⟨a2,k2,rfl,_⟩:=hi.shape
 have hl:(H.inn.length:Int)≤9223372036854775807:=by have:=hi.lens;unfold maxLen at this;omega
 obtain⟨z9,h9⟩:∃z,gt H.csr 9=z:=⟨_,rfl⟩
 obtain⟨d,hd⟩:∃z,H.done=z:=⟨_,rfl⟩
 obtain⟨n2,hn2⟩:∃z,H.inn.length=z:=⟨_,rfl⟩
 have Z9:Hid (gt H.csr 9=z9∧H.done=d∧H.inn.length=n2):=⟨h9,hd,hn2⟩
 have c9:w.cell? ⟨m,26,none⟩=some (.int .i64 z9):=by rw[←h9];exact hv.cell 26 rfl
 have cd:w.cell? ⟨m,31,none⟩=some (.int .i64 d):=by rw[←hd];exact hv.cell 31 rfl
 have cr:w.cell? ⟨m,30,none⟩=some (.bool H.rung):=hv.cell 30 rfl
 have ci:w.cell? ⟨m,32,none⟩=some (.slice a2 n2 k2):=by rw[←hn2];exact hv.cell 32 rfl
 rw[hn2]at hl
 clear hv hi
 clear h9 hd hn2
 by_cases h0:z9=0
 ·have PA:Hid ((if gt H.csr 9≠0∧gt H.csr 9≤H.done then(1:Int)else 0)=0):=by show _=_;rw[Z9.out.1,if_neg (fun k=>k.1 h0)]
  subst h0
  cases hru:H.rung
  ·have PB:Hid ((if H.rung then(2:Int)else 0)=0):=by show _=_;rw[hru];rfl
   rw[hru]at cr
   by_cases hn:0<n2
   ·have PC:Hid ((if 0<H.inn.length then(4:Int)else 0)=4):=by show _=_;rw[Z9.out.2.2,if_pos hn]
    have hI:(0:Int)<(n2:Int):=by omega
    go_enter Tryz.func127,Tryz.ntmps127
    go_wp2_with fail
    go_ret
    exact⟨ret_i ((by decide:(4:Int)=0+0+4).trans (pend_eq H 0 0 4 PA.out PB.out PC.out)),rfl⟩
   ·have PC:Hid ((if 0<H.inn.length then(4:Int)else 0)=0):=by show _=_;rw[Z9.out.2.2,if_neg hn]
    have hI:¬(0:Int)<(n2:Int):=by omega
    go_enter Tryz.func127,Tryz.ntmps127
    go_wp2_with fail
    go_ret
    exact⟨ret_i ((by decide:(0:Int)=0+0+0).trans (pend_eq H 0 0 0 PA.out PB.out PC.out)),rfl⟩
  ·have PB:Hid ((if H.rung then(2:Int)else 0)=2):=by show _=_;rw[hru];rfl
   rw[hru]at cr
   by_cases hn:0<n2
   ·have PC:Hid ((if 0<H.inn.length then(4:Int)else 0)=4):=by show _=_;rw[Z9.out.2.2,if_pos hn]
    have hI:(0:Int)<(n2:Int):=by omega
    go_enter Tryz.func127,Tryz.ntmps127
    go_wp2_with fail
    go_ret
    exact⟨ret_i ((by decide:(6:Int)=0+2+4).trans (pend_eq H 0 2 4 PA.out PB.out PC.out)),rfl⟩
   ·have PC:Hid ((if 0<H.inn.length then(4:Int)else 0)=0):=by show _=_;rw[Z9.out.2.2,if_neg hn]
    have hI:¬(0:Int)<(n2:Int):=by omega
    go_enter Tryz.func127,Tryz.ntmps127
    go_wp2_with fail
    go_ret
    exact⟨ret_i ((by decide:(2:Int)=0+2+0).trans (pend_eq H 0 2 0 PA.out PB.out PC.out)),rfl⟩
 have hI0:(z9 !=0)=true:=by simp[h0]
 by_cases h1:z9≤d
 ·have PA:Hid ((if gt H.csr 9≠0∧gt H.csr 9≤H.done then(1:Int)else 0)=1):=by show _=_;rw[Z9.out.1,Z9.out.2.1,if_pos ⟨h0,h1⟩]
  cases hru:H.rung
  ·have PB:Hid ((if H.rung then(2:Int)else 0)=0):=by show _=_;rw[hru];rfl
   rw[hru]at cr
   by_cases hn:0<n2
   ·have PC:Hid ((if 0<H.inn.length then(4:Int)else 0)=4):=by show _=_;rw[Z9.out.2.2,if_pos hn]
    have hI:(0:Int)<(n2:Int):=by omega
    go_enter Tryz.func127,Tryz.ntmps127
    go_wp2_with fail
    go_ret
    exact⟨ret_i ((by decide:(5:Int)=1+0+4).trans (pend_eq H 1 0 4 PA.out PB.out PC.out)),rfl⟩
   ·have PC:Hid ((if 0<H.inn.length then(4:Int)else 0)=0):=by show _=_;rw[Z9.out.2.2,if_neg hn]
    have hI:¬(0:Int)<(n2:Int):=by omega
    go_enter Tryz.func127,Tryz.ntmps127
    go_wp2_with fail
    go_ret
    exact⟨ret_i ((by decide:(1:Int)=1+0+0).trans (pend_eq H 1 0 0 PA.out PB.out PC.out)),rfl⟩
  ·have PB:Hid ((if H.rung then(2:Int)else 0)=2):=by show _=_;rw[hru];rfl
   rw[hru]at cr
   by_cases hn:0<n2
   ·have PC:Hid ((if 0<H.inn.length then(4:Int)else 0)=4):=by show _=_;rw[Z9.out.2.2,if_pos hn]
    have hI:(0:Int)<(n2:Int):=by omega
    go_enter Tryz.func127,Tryz.ntmps127
    go_wp2_with fail
    go_ret
    exact⟨ret_i ((by decide:(7:Int)=1+2+4).trans (pend_eq H 1 2 4 PA.out PB.out PC.out)),rfl⟩
   ·have PC:Hid ((if 0<H.inn.length then(4:Int)else 0)=0):=by show _=_;rw[Z9.out.2.2,if_neg hn]
    have hI:¬(0:Int)<(n2:Int):=by omega
    go_enter Tryz.func127,Tryz.ntmps127
    go_wp2_with fail
    go_ret
    exact⟨ret_i ((by decide:(3:Int)=1+2+0).trans (pend_eq H 1 2 0 PA.out PB.out PC.out)),rfl⟩
 ·have PA:Hid ((if gt H.csr 9≠0∧gt H.csr 9≤H.done then(1:Int)else 0)=0):=by show _=_;rw[Z9.out.1,Z9.out.2.1,if_neg (fun k=>h1 k.2)]
  have hI1:d<z9:=by omega
  cases hru:H.rung
  ·have PB:Hid ((if H.rung then(2:Int)else 0)=0):=by show _=_;rw[hru];rfl
   rw[hru]at cr
   by_cases hn:0<n2
   ·have PC:Hid ((if 0<H.inn.length then(4:Int)else 0)=4):=by show _=_;rw[Z9.out.2.2,if_pos hn]
    have hI:(0:Int)<(n2:Int):=by omega
    go_enter Tryz.func127,Tryz.ntmps127
    go_wp2_with fail
    go_ret
    exact⟨ret_i ((by decide:(4:Int)=0+0+4).trans (pend_eq H 0 0 4 PA.out PB.out PC.out)),rfl⟩
   ·have PC:Hid ((if 0<H.inn.length then(4:Int)else 0)=0):=by show _=_;rw[Z9.out.2.2,if_neg hn]
    have hI:¬(0:Int)<(n2:Int):=by omega
    go_enter Tryz.func127,Tryz.ntmps127
    go_wp2_with fail
    go_ret
    exact⟨ret_i ((by decide:(0:Int)=0+0+0).trans (pend_eq H 0 0 0 PA.out PB.out PC.out)),rfl⟩
  ·have PB:Hid ((if H.rung then(2:Int)else 0)=2):=by show _=_;rw[hru];rfl
   rw[hru]at cr
   by_cases hn:0<n2
   ·have PC:Hid ((if 0<H.inn.length then(4:Int)else 0)=4):=by show _=_;rw[Z9.out.2.2,if_pos hn]
    have hI:(0:Int)<(n2:Int):=by omega
    go_enter Tryz.func127,Tryz.ntmps127
    go_wp2_with fail
    go_ret
    exact⟨ret_i ((by decide:(6:Int)=0+2+4).trans (pend_eq H 0 2 4 PA.out PB.out PC.out)),rfl⟩
   ·have PC:Hid ((if 0<H.inn.length then(4:Int)else 0)=0):=by show _=_;rw[Z9.out.2.2,if_neg hn]
    have hI:¬(0:Int)<(n2:Int):=by omega
    go_enter Tryz.func127,Tryz.ntmps127
    go_wp2_with fail
    go_ret
    exact⟨ret_i ((by decide:(2:Int)=0+2+0).trans (pend_eq H 0 2 0 PA.out PB.out PC.out)),rfl⟩
theorem r_wanted(m:Nat)(i o l pg:Value)(ca ri:Int)(H:Ht)(w:World)(hv:Vb w m (mcr H i o l pg ca ri) 78)(hi:Rv w i H.inn)(h0:0≤gt H.csr 7)(h1:gt H.csr 7≤4294967295):
  Calls Tryz.prog 89 #[.pointer (some ⟨m,0,none⟩)] w fun e w'=>e=.returned (.int .i64 (bothV H))∧Below w.heap.size w w':=by
 have BE:=both_eq H h0 h1
 have HV:=hid hv
 have HI:=hid hi
 have c7:w.cell? ⟨m,24,none⟩=some (.int .i64 (gt H.csr 7)):=hv.cell 24 rfl
 obtain⟨g7,hg7⟩:∃g,gt H.csr 7=g:=⟨_,rfl⟩
 obtain⟨pv,hp⟩:∃g,pendV H=g:=⟨_,rfl⟩
 have HPV:=hid hp
 rw[hg7]at c7 BE
 rw[hp]at BE
 clear hv hi h0 h1 hg7 hp
 go_enter Tryz.func89,Tryz.ntmps89
 go_wp2_with fail
 go_region_with (go_at_call 127;refine(r_pending m i o l pg ca ri H _ (by first|exact HV.out|exact HV.out.keep (Below.refl _ _).drew) (by first|exact HI.out|exact HI.out.stay (Below.refl _ _).drew)).mono ?_;rintro e y ⟨rfl,hy⟩;rw[hy];clear hy y;rw[HPV.out])
 all_goals go_wp2_with fail
 all_goals go_ret
 all_goals exact⟨rfl,(Below.refl _ _).drew⟩
theorem r_due(m:Nat)(i o l pg:Value)(ca ri:Int)(H:Ht)(w:World)(hv:Vb w m (mcr H i o l pg ca ri) 78)(hi:Rv w i H.inn)(k:Hok H)(tb:Tab w):
  Calls Tryz.prog 45 #[.pointer (some ⟨m,0,none⟩)] w fun e w'=>e=.returned (.agg #[.int .i64 (dueP H).1,.int .i64 (dueP H).2])∧Below w.heap.size w w':=by
 have K:=hid k
 have HV:=hid hv
 have HI:=hid hi
 have TB:=hid tb
 clear k hv hi tb
 generalize hW:w.alloc (.cells #[.int .i64 0,.int .i64 0] 48)=W
 have B0:Hid (Below w.heap.size w W):=by show Below _ _ _;rw[←hW];exact al (Below.refl _ _) _
 obtain⟨s,hS⟩:∃s,w.heap.size=s:=⟨_,rfl⟩
 have HS:=hid hS
 have VR:Hid (Vb W s #[.int .i64 0,.int .i64 0] 48):=by show Vb _ _ _ _;rw[←hW,←hS];exact Vb.new _ _ _
 have V0:=hid (HV.out.keep B0.out)
 have MI0:=hid (HI.out.stay B0.out)
 go_enter Tryz.func45,Tryz.ntmps45
 go_wp2_with fail
 clear hW hS
 refine(r_wanted _ _ _ _ _ _ _ H _ V0.out MI0.out (all_at K.out.cw 7).1 (all_at K.out.cw 7).2).mono ?_
 rintro e w4⟨rfl,b4⟩
 have B4:=hid (on B0.out b4)
 have V4:=hid (V0.out.keep b4)
 have VR4:=hid (VR.out.keep b4)
 have TB4:=hid (TB.out.keep B4.out)
 obtain⟨z,hz⟩:∃g,gt H.csr 0=g:=⟨_,rfl⟩
 have HZ:=hid hz
 have z0:0≤z:=by rw[←hz];exact(all_at K.out.cw 0).1
 have z9:z≤4294967295:=by rw[←hz];exact(all_at K.out.cw 0).2
 have t2:z.tmod 2=z%2:=Int.tmod_eq_emod_of_nonneg z0
 have c17:w4.cell? ⟨m,17,none⟩=some (.int .i64 z):=by rw[←hz];exact V4.out.cell 17 rfl
 obtain⟨g,hg⟩:∃g,bothV H=g:=⟨_,rfl⟩
 have HG:=hid hg
 have br:=both_range H
 rw[hg]at br ⊢
 have BR:=hid br
 clear hz hg b4 br
 by_cases hev:z%2=0
 ·have HD:Hid (dueV H= -1):=due_even (by rw[HZ.out];exact hev)
  have HE1:Hid ((dueP H).1=4):=by show _=_;simp[dueP,HD.out]
  have HE2:Hid ((dueP H).2=0):=by show _=_;simp[dueP,HD.out]
  obtain⟨p0,p1⟩:=zc2 VR4.out
  obtain⟨f0,f1⟩:=zf2 VR4.out
  go_wp2_with fail
  have NN:Hid (_∧_):=two VR4.out (.int .i64 4) (.int .i64 0)
  clear p0 f0 p1 f1
  generalize ((w4.setCell ⟨s,0,none⟩ (.int .i64 4)).setCell ⟨s,1,none⟩ (.int .i64 0))=V at*
  obtain⟨x0,x1⟩:=zc2 NN.out.1
  exact bodyPost_ret (v:=.agg #[.int .i64 4,.int .i64 0]) (by simp[results,Tryz.results45,go_sem,x0,x1]) rfl
   ⟨by rw[HE1.out,HE2.out],Mq.under B4.out NN.out.2 fun k e=>by have:=HS.out;omega⟩
 have hod:(z%2==0)=false:=by simp[hev]
 by_cases hg0:g=0
 ·have HD:Hid (dueV H= -1):=due_none (HG.out.trans hg0)
  have HE1:Hid ((dueP H).1=4):=by show _=_;simp[dueP,HD.out]
  have HE2:Hid ((dueP H).2=0):=by show _=_;simp[dueP,HD.out]
  subst hg0
  obtain⟨p0,p1⟩:=zc2 VR4.out
  obtain⟨f0,f1⟩:=zf2 VR4.out
  go_wp2_with fail
  have NN:Hid (_∧_):=two VR4.out (.int .i64 4) (.int .i64 0)
  clear p0 f0 p1 f1
  generalize ((w4.setCell ⟨s,0,none⟩ (.int .i64 4)).setCell ⟨s,1,none⟩ (.int .i64 0))=V at*
  obtain⟨x0,x1⟩:=zc2 NN.out.1
  exact bodyPost_ret (v:=.agg #[.int .i64 4,.int .i64 0]) (by simp[results,Tryz.results45,go_sem,x0,x1]) rfl
   ⟨by rw[HE1.out,HE2.out],Mq.under B4.out NN.out.2 fun k e=>by have:=HS.out;omega⟩
 have HD:Hid (dueV H=lowV g):=due_some (by rw[HZ.out];exact hev) HG.out hg0
 have LR:Hid (0≤lowV g):=low_nonneg g
 have HE1:Hid ((dueP H).1=0):=by show _=_;simp only[dueP];rw[HD.out,if_neg (by have:=LR.out;omega)]
 have HE2:Hid ((dueP H).2=lowV g):=by show _=_;simp only[dueP];rw[HD.out,if_neg (by have:=LR.out;omega)]
 have g1:1≤g:=by have:=BR.out;omega
 have g7:g≤7:=BR.out.2
 have G1:=hid g1
 obtain⟨p0,p1⟩:=zc2 VR4.out
 obtain⟨f0,f1⟩:=zf2 VR4.out
 go_wp2_with (go_at_call 90;refine(i_zeros g _ G1.out BR.out.2 TB4.out).mono ?_;rintro e y ⟨rfl,hy⟩;rw[hy];clear hy y)
 have NN:Hid (_∧_):=two VR4.out (.int .i64 0) (.int .i64 (lowV g))
 clear p0 f0 p1 f1
 generalize ((w4.setCell ⟨s,0,none⟩ (.int .i64 0)).setCell ⟨s,1,none⟩ (.int .i64 (lowV g)))=V at*
 obtain⟨x0,x1⟩:=zc2 NN.out.1
 exact bodyPost_ret (v:=.agg #[.int .i64 0,.int .i64 (lowV g)]) (by simp[results,Tryz.results45,go_sem,x0,x1]) rfl
  ⟨by rw[HE1.out,HE2.out],Mq.under B4.out NN.out.2 fun k e=>by have:=HS.out;omega⟩
theorem mcr_at(H:Ht)(i o l pg:Value)(ca ri:Int)(n:Nat)(hn:n<11):(mcr H i o l pg ca ri)[17+n]? =some (.int .i64 (gt H.csr n)):=by
 have e:n=0∨n=1∨n=2∨n=3∨n=4∨n=5∨n=6∨n=7∨n=8∨n=9∨n=10:=by omega
 rcases e with rfl|rfl|rfl|rfl|rfl|rfl|rfl|rfl|rfl|rfl|rfl<;>rfl
theorem r_get(m:Nat)(i o l pg:Value)(ca ri:Int)(H:Ht)(k:Int)(w:World)(hv:Vb w m (mcr H i o l pg ca ri) 78)(hi:Rv w i H.inn)(h0:0≤k)(h10:k≤10):
  Calls Tryz.prog 117 #[.pointer (some ⟨m,0,none⟩),.int .i64 k] w fun e w'=>e=.returned (.int .i64 (getV H k))∧w'=w:=by
 by_cases h6:k=6
 ·subst h6
  have HV:=hid hv
  have HI:=hid hi
  clear hv hi
  go_enter Tryz.func117,Tryz.ntmps117
  go_wp2_with (go_at_call 127;refine(r_pending m i o l pg ca ri H _ HV.out HI.out).mono ?_;rintro e x ⟨rfl,rfl⟩)
  go_ret
  exact⟨rfl,rfl⟩
 by_cases h8:k=8
 ·subst h8
  have c8:w.cell? ⟨m,31,none⟩=some (.int .i64 H.done):=hv.cell 31 rfl
  clear hv hi
  go_enter Tryz.func117,Tryz.ntmps117
  go_wp2_with fail
  go_ret
  exact⟨rfl,rfl⟩
 obtain⟨n,rfl⟩:∃n:Nat,k=n:=⟨k.toNat,by omega⟩
 have cn:w.cell? ⟨m,17+n,none⟩=some (.int .i64 (gt H.csr n)):=hv.cell (17+n) (mcr_at H i o l pg ca ri n (by omega))
 have HG:Hid (getV H (n:Int)=gt H.csr n):=getV_at H n (by omega) (by omega)
 clear hv hi
 go_enter Tryz.func117,Tryz.ntmps117
 go_wp2_with fail
 go_ret
 exact⟨ret_i HG.out.symm,rfl⟩
end Go.Proofs.YtaefollmeoepkaaGreatDoor
