import Derived.Test.YtaefollmeoepkaaGreatDoorQ27
namespace Go.Proofs.YtaefollmeoepkaaGreatDoor
set_option maxRecDepth 20000
set_option maxHeartbeats 16000000
open Go.RowKit
set_option linter.unusedVariables false
theorem mcr_set(H:Ht)(i o l pg:Value)(ca ri:Int)(n:Nat)(u:Int)(hn:n<11)(hc:H.csr.length=11):(mcr H i o l pg ca ri).setIfInBounds (17+n) (.int .i64 u)=mcr { H with csr:=H.csr.set n u} i o l pg ca ri:=by
 have g:∀j,gt (H.csr.set n u) j=if j=n then u else gt H.csr j:=fun j=>gt_set _ _ _ _ (by omega)
 have e:n=0∨n=1∨n=2∨n=3∨n=4∨n=5∨n=6∨n=7∨n=8∨n=9∨n=10:=by omega
 unfold mcr
 simp only[g]
 rcases e with rfl|rfl|rfl|rfl|rfl|rfl|rfl|rfl|rfl|rfl|rfl<;>rfl
theorem mcr_wait(H:Ht)(i o l pg:Value)(ca ri:Int)(u:Bool):(mcr H i o l pg ca ri).setIfInBounds 29 (.bool u)=mcr { H with waiting:=u} i o l pg ca ri:=rfl
theorem mcr_pc(H:Ht)(i o l pg:Value)(ca ri:Int)(u:Int):(mcr H i o l pg ca ri).setIfInBounds 16 (.int .i64 u)=mcr { H with pc:=u} i o l pg ca ri:=rfl
theorem r_set(m:Nat)(i o l pg:Value)(ca ri:Int)(H:Ht)(k x:Int)(w:World)(hv:Vb w m (mcr H i o l pg ca ri) 78)(hc:H.csr.length=11)(h0:0≤k)(h10:k≤10)(hx:0≤x)(hx2:x≤4294967295):
  Calls Tryz.prog 118 #[.pointer (some ⟨m,0,none⟩),.int .i64 k,.int .i64 x] w fun e w'=>e=.returned (.tuple #[])∧Vb w' m (mcr (stH H k.toNat (standV k x) (H.rung&& !(decide (k=6)&&decide (2≤x%4)))) i o l pg ca ri) 78∧Mq (fun j=>j=m) w w':=by
 have HX:Hid (0≤x∧x≤4294967295):=⟨hx,hx2⟩
 have HV:=hid hv
 have HC:=hid hc
 have hb:=bit_two x hx hx2
 obtain⟨u,hu⟩:∃u,standV k x=u:=⟨_,rfl⟩
 rw[hu]
 have HU:=hid hu
 obtain⟨n,rfl⟩:∃n:Nat,k=n:=⟨k.toNat,by omega⟩
 have hI:(n:Int)<11:=by omega
 have HN:Hid (n<11):=by show _<_;omega
 clear hu
 by_cases h6:n=6
 ·subst h6
  have HU6:Hid (standV 6 x=u):=HU.out
  cases hd:decide (2≤x%4)
  ·rw[hd]at hb
   rw[show(H.rung&& !(decide (((6:Nat):Int)=6)&&false))=H.rung by simp]
   have hcell:=hv.cell (17+6) (mcr_at H i o l pg ca ri 6 (by decide))
   have hfree:=hv.free (17+6)
   clear hv hc
   go_enter Tryz.func118,Tryz.ntmps118
   go_wp2_with fail
   go_region_with (go_at_call 65;refine(i_stand _ _ _ HX.out.1 HX.out.2).mono ?_;rintro e x' ⟨rfl,hx'⟩;rw[hx'];clear hx';rw[HU6.out])
   all_goals go_wp2_with fail
   all_goals go_end0
   all_goals exact⟨rfl,by have:=HV.out.set (17+6) (.int .i64 u);rw[mcr_set H i o l pg ca ri 6 u (by decide) HC.out]at this;exact this,((Mq.refl (fun j=>j=m) w).set ⟨m,17+6,none⟩ (.int .i64 u) rfl).dr⟩
  ·rw[hd]at hb
   rw[show(H.rung&& !(decide (((6:Nat):Int)=6)&&true))=false by simp]
   have c30:=hv.cell 30 rfl
   have f30:=hv.free 30
   have hcell:(w.setCell ⟨m,30,none⟩ (.bool false)).cell? ⟨m,17+6,none⟩=some (.int .i64 (gt H.csr 6)):=(hv.set 30 (.bool false)).cell (17+6) rfl
   have hfree:(w.setCell ⟨m,30,none⟩ (.bool false)).frozen? ⟨m,17+6,none⟩=false:=(hv.set 30 (.bool false)).free (17+6)
   have HV2:Hid (Vb (w.setCell ⟨m,30,none⟩ (.bool false)) m (mcr { H with rung:=false} i o l pg ca ri) 78):=hv.set 30 (.bool false)
   have MQ2:Hid (Mq (fun j=>j=m) w (w.setCell ⟨m,30,none⟩ (.bool false))):=(Mq.refl (fun j=>j=m) w).set ⟨m,30,none⟩ (.bool false) rfl
   clear hv hc
   go_enter Tryz.func118,Tryz.ntmps118
   go_wp2_with fail
   generalize w.setCell ⟨m,30,none⟩ (.bool false)=W at*
   clear c30 f30
   go_region_with (go_at_call 65;refine(i_stand _ _ _ HX.out.1 HX.out.2).mono ?_;rintro e x' ⟨rfl,hx'⟩;rw[hx'];clear hx';rw[HU6.out])
   all_goals go_wp2_with fail
   all_goals go_end0
   all_goals exact⟨rfl,by have:=HV2.out.set (17+6) (.int .i64 u);rw[mcr_set { H with rung:=false} i o l pg ca ri 6 u (by decide) HC.out]at this;exact this,(MQ2.out.set ⟨m,17+6,none⟩ (.int .i64 u) rfl).dr⟩
 ·have h6':¬(n:Int)=6:=by omega
  have hcell:=hv.cell (17+n) (mcr_at H i o l pg ca ri n HN.out)
  have hfree:=hv.free (17+n)
  rw[show(H.rung&& !(decide ((n:Int)=6)&&decide (2≤x%4)))=H.rung by simp[h6']]
  clear hv hc hb
  go_enter Tryz.func118,Tryz.ntmps118
  go_wp2_with fail
  go_region_with (go_at_call 65;refine(i_stand _ _ _ HX.out.1 HX.out.2).mono ?_;rintro e x' ⟨rfl,hx'⟩;rw[hx'];clear hx';rw[HU.out])
  all_goals go_wp2_with fail
  all_goals go_end0
  all_goals exact⟨rfl,by have:=HV.out.set (17+n) (.int .i64 u);rw[mcr_set H i o l pg ca ri n u HN.out HC.out]at this;exact this,((Mq.refl (fun j=>j=m) w).set ⟨m,17+n,none⟩ (.int .i64 u) rfl).dr⟩
theorem r_goBack(m:Nat)(i o l pg:Value)(ca ri:Int)(H:Ht)(w:World)(hv:Vb w m (mcr H i o l pg ca ri) 78)(hc:H.csr.length=11)(h0:0≤gt H.csr 0)(h1:gt H.csr 0≤3):
  Calls Tryz.prog 119 #[.pointer (some ⟨m,0,none⟩)] w fun e w'=>e=.returned (.tuple #[])∧Vb w' m (mcr (backV H) i o l pg ca ri) 78∧Mq (fun j=>j=m) w w':=by
 have HV1:Hid (Vb (w.setCell ⟨m,16,none⟩ (.int .i64 (gt H.csr 2))) m (mcr { H with pc:=gt H.csr 2} i o l pg ca ri) 78):=hv.set 16 _
 have MQ1:Hid (Mq (fun j=>j=m) w (w.setCell ⟨m,16,none⟩ (.int .i64 (gt H.csr 2)))):=(Mq.refl (fun j=>j=m) w).set ⟨m,16,none⟩ _ rfl
 have HC:=hid hc
 have c16:=hv.cell 16 rfl
 have f16:=hv.free 16
 have c19:w.cell? ⟨m,19,none⟩=some (.int .i64 (gt H.csr 2)):=hv.cell 19 rfl
 have d17:(w.setCell ⟨m,16,none⟩ (.int .i64 (gt H.csr 2))).cell? ⟨m,17,none⟩=some (.int .i64 (gt H.csr 0)):=HV1.out.cell 17 rfl
 have e17:(w.setCell ⟨m,16,none⟩ (.int .i64 (gt H.csr 2))).frozen? ⟨m,17,none⟩=false:=HV1.out.free 17
 have t2:(gt H.csr 0).tdiv 2=gt H.csr 0/2:=Int.tdiv_eq_ediv_of_nonneg h0
 obtain⟨z,hz⟩:∃z,gt H.csr 0=z:=⟨_,rfl⟩
 have HZ:=hid hz
 rw[hz]at d17 t2 h0 h1
 clear hz hc hv
 go_enter Tryz.func119,Tryz.ntmps119
 go_wp2_with fail
 generalize w.setCell ⟨m,16,none⟩ (.int .i64 (gt H.csr 2))=W at*
 clear c16 f16 c19
 go_region
 all_goals go_wp2_with fail
 all_goals go_end0
 all_goals exact⟨rfl,by have:=HV1.out.set (17+0) (.int .i64 (2+z/2));rw[mcr_set { H with pc:=gt H.csr 2} i o l pg ca ri 0 (2+z/2) (by decide) HC.out,←HZ.out]at this;rw[←HZ.out];exact this,(MQ1.out.set ⟨m,17,none⟩ _ rfl).dr⟩
theorem r_leave(m:Nat)(i o l pg:Value)(ca ri:Int)(H:Ht)(k x:Int)(w:World)(hv:Vb w m (mcr H i o l pg ca ri) 78)(hc:H.csr.length=11)(h0:0≤gt H.csr 0)(h1:gt H.csr 0≤3):
  Calls Tryz.prog 110 #[.pointer (some ⟨m,0,none⟩),.int .i64 k,.int .i64 x] w fun e w'=>e=.returned (.tuple #[])∧Vb w' m (mcr { trapV H k x with waiting:=H.waiting} i o l pg ca ri) 78∧Mq (fun j=>j=m) w w':=by
 have HC:=hid hc
 have HV:=hid hv
 have c16:w.cell? ⟨m,16,none⟩=some (.int .i64 H.pc):=hv.cell 16 rfl
 have c19:=hv.cell 19 rfl
 have f19:=hv.free 19
 have t2:(gt H.csr 0).tmod 2=gt H.csr 0%2:=Int.tmod_eq_emod_of_nonneg h0
 obtain⟨z,hz⟩:∃z,gt H.csr 0=z:=⟨_,rfl⟩
 have HZ:=hid hz
 rw[hz]at t2 h0 h1
 obtain⟨pcv,hpc⟩:∃z,H.pc=z:=⟨_,rfl⟩
 rw[hpc]at c16
 have HPC:=hid hpc
 clear hz hc hv hpc
 go_enter Tryz.func110,Tryz.ntmps110
 go_wp2_with fail
 go_region
 have V1:Hid (Vb (w.setCell ⟨m,19,none⟩ (.int .i64 pcv)).drew m (mcr { H with csr:=H.csr.set 2 pcv} i o l pg ca ri) 78):=by
  show Vb _ _ _ _
  have:=HV.out.set (17+2) (.int .i64 pcv);rw[mcr_set H i o l pg ca ri 2 pcv (by decide) HC.out]at this;exact this
 have M1:Hid (Mq (fun j=>j=m) w (w.setCell ⟨m,19,none⟩ (.int .i64 pcv)).drew):=((Mq.refl (fun j=>j=m) w).set ⟨m,19,none⟩ _ rfl).dr
 generalize (w.setCell ⟨m,19,none⟩ (.int .i64 pcv)).drew=W1 at*
 clear c16 c19 f19
 have V2:Hid (Vb (W1.setCell ⟨m,20,none⟩ (.int .i64 k)) m (mcr { H with csr:=(H.csr.set 2 pcv).set 3 k} i o l pg ca ri) 78):=by
  show Vb _ _ _ _
  have:=V1.out.set (17+3) (.int .i64 k);rw[mcr_set _ i o l pg ca ri 3 k (by decide) (by simpa using HC.out)]at this;exact this
 have V3:Hid (Vb ((W1.setCell ⟨m,20,none⟩ (.int .i64 k)).setCell ⟨m,21,none⟩ (.int .i64 x)) m (mcr { H with csr:=((H.csr.set 2 pcv).set 3 k).set 4 x} i o l pg ca ri) 78):=by
  show Vb _ _ _ _
  have:=V2.out.set (17+4) (.int .i64 x);rw[mcr_set _ i o l pg ca ri 4 x (by decide) (by simpa using HC.out)]at this;exact this
 have M3:Hid (Mq (fun j=>j=m) w ((W1.setCell ⟨m,20,none⟩ (.int .i64 k)).setCell ⟨m,21,none⟩ (.int .i64 x))):=(M1.out.set ⟨m,20,none⟩ _ rfl).set ⟨m,21,none⟩ _ rfl
 have c20:=V1.out.cell 20 rfl
 have c21:=V1.out.cell 21 rfl
 have f20:=V1.out.free 20
 have f21:=V1.out.free 21
 go_wp2_with fail
 generalize (W1.setCell ⟨m,20,none⟩ (.int .i64 k)).setCell ⟨m,21,none⟩ (.int .i64 x)=W3 at*
 clear c20 f20 c21 f21
 have GZ:Hid (gt (((H.csr.set 2 pcv).set 3 k).set 4 x) 0=z∧gt (((H.csr.set 2 pcv).set 3 k).set 4 x) 1=gt H.csr 1):=by
  have:=HC.out
  refine⟨?_,?_⟩
  ·rw[gt_set _ _ _ _ (by simpa using by omega),if_neg (by decide),gt_set _ _ _ _ (by simpa using by omega),if_neg (by decide),gt_set _ _ _ _ (by omega),if_neg (by decide)];exact HZ.out
  ·rw[gt_set _ _ _ _ (by simpa using by omega),if_neg (by decide),gt_set _ _ _ _ (by simpa using by omega),if_neg (by decide),gt_set _ _ _ _ (by omega),if_neg (by decide)]
 have c17:W3.cell? ⟨m,17,none⟩=some (.int .i64 z):=by have:=V3.out.cell 17 rfl;rw[←GZ.out.1];exact this
 have f17:=V3.out.free 17
 go_region
 have V4:Hid (Vb (W3.setCell ⟨m,17,none⟩ (.int .i64 (z%2*2))).drew m (mcr { H with csr:=(((H.csr.set 2 pcv).set 3 k).set 4 x).set 0 (z%2*2)} i o l pg ca ri) 78):=by
  show Vb _ _ _ _
  have:=V3.out.set (17+0) (.int .i64 (z%2*2));rw[mcr_set _ i o l pg ca ri 0 (z%2*2) (by decide) (by simpa using HC.out)]at this;exact this
 have M4:Hid (Mq (fun j=>j=m) w (W3.setCell ⟨m,17,none⟩ (.int .i64 (z%2*2))).drew):=(M3.out.set ⟨m,17,none⟩ _ rfl).dr
 generalize (W3.setCell ⟨m,17,none⟩ (.int .i64 (z%2*2))).drew=W4 at*
 clear c17 f17
 have c18:W4.cell? ⟨m,18,none⟩=some (.int .i64 (gt H.csr 1)):=by
  have:=V4.out.cell 18 rfl
  rw[←GZ.out.2]
  have e:=gt_set (((H.csr.set 2 pcv).set 3 k).set 4 x) 0 1 (z%2*2) (by have:=HC.out;simp;omega)
  rw[if_neg (by decide)]at e
  rw[←e]
  exact this
 have c16:=V4.out.cell 16 rfl
 have f16:=V4.out.free 16
 go_wp2_with fail
 go_end0
 exact⟨rfl,by have:=V4.out.set 16 (.int .i64 (gt H.csr 1));rw[mcr_pc,←HPC.out,←HZ.out]at this;exact this,M4.out.set ⟨m,16,none⟩ _ rfl⟩
theorem r_trap(m:Nat)(i o l pg:Value)(ca ri:Int)(H:Ht)(k x:Int)(w:World)(hv:Vb w m (mcr H i o l pg ca ri) 78)(hc:H.csr.length=11)(h0:0≤gt H.csr 0)(h1:gt H.csr 0≤3):
  Calls Tryz.prog 72 #[.pointer (some ⟨m,0,none⟩),.int .i64 k,.int .i64 x] w fun e w'=>e=.returned (.tuple #[])∧Vb w' m (mcr (trapV H k x) i o l pg ca ri) 78∧Mq (fun j=>j=m) w w':=by
 have HV:=hid hv
 have HC:Hid (H.csr.length=11∧0≤gt H.csr 0∧gt H.csr 0≤3):=⟨hc,h0,h1⟩
 clear hv hc h0 h1
 go_enter Tryz.func72,Tryz.ntmps72
 go_wp2_with fail
 refine(r_leave m i o l pg ca ri H k x _ HV.out HC.out.1 HC.out.2.1 HC.out.2.2).mono ?_
 rintro e w1⟨rfl,v1,m1⟩
 have V1:Hid (Vb w1 m _ _):=v1
 have M1:Hid (Mq _ w w1):=m1
 have c29:=V1.out.cell 29 rfl
 have f29:=V1.out.free 29
 clear v1 m1
 go_wp2_with fail
 go_end0
 exact⟨rfl,V1.out.set 29 (.bool false),M1.out.set ⟨m,29,none⟩ _ rfl⟩
end Go.Proofs.YtaefollmeoepkaaGreatDoor
