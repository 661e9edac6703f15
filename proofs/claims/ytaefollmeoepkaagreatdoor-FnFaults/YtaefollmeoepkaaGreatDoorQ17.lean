import Derived.Deep.RegionWith
import Derived.Test.YtaefollmeoepkaaGreatDoorQ10
namespace Go.Proofs.YtaefollmeoepkaaGreatDoor
set_option maxRecDepth 20000
set_option maxHeartbeats 16000000
open Go.RowKit
set_option linter.unusedVariables false
theorem s_fault(q:Nat)(r c i o:Value)(H:Ht)(b:Nat)(w:World)(h:Hm w b r c i o H)(hv:Vb w q #[r,.int .i64 H.pc,c,.bool H.halted,.bool H.waiting,.bool H.rung,.int .i64 H.done,i,o] 26):
  Calls Tryz.prog 54 #[.pointer (some ⟨q,0,none⟩)] w fun e w'=>e=.returned (.int .i64 (hfV H))∧w'=w:=by
 have HM:=hid h
 obtain⟨a0,k0,h0,_,_,g0⟩:=h.r.shape
 obtain⟨a1,k1,h1,_,_,g1⟩:=h.c.shape
 obtain⟨a2,k2,h2,_,l2,_⟩:=h.i.shape
 obtain⟨a3,k3,h3,_,l3,_⟩:=h.o.shape
 have R0:=h.r.rv
 obtain⟨n0,e0⟩:∃n,H.regs.length=n:=⟨_,rfl⟩
 obtain⟨n1,e1⟩:∃n,H.csr.length=n:=⟨_,rfl⟩
 obtain⟨n2,e2⟩:∃n,H.inn.length=n:=⟨_,rfl⟩
 obtain⟨n3,e3⟩:∃n,H.out.length=n:=⟨_,rfl⟩
 rw[e0]at h0 g0
 rw[e1]at h1 g1
 rw[e2]at h2
 rw[e3]at h3
 have EL:Hid (H.regs.length=n0∧H.csr.length=n1∧H.inn.length=n2∧H.out.length=n3):=⟨e0,e1,e2,e3⟩
 subst h0 h1 h2 h3
 have hl2:(n2:Int)≤9223372036854775807:=by have:=h.i.lens;unfold maxLen at this;omega
 have hl3:(n3:Int)≤9223372036854775807:=by have:=h.o.lens;unfold maxLen at this;omega
 have hl0:(n0:Int)≤9223372036854775807:=by have:=h.r.lens;unfold maxLen at this;omega
 have hl1:(n1:Int)≤9223372036854775807:=by have:=h.c.lens;unfold maxLen at this;omega
 clear h e0 e1 e2 e3 l2 l3 R0
 have v0:=hv.cell 0 rfl
 have v1:=hv.cell 1 rfl
 have v2:=hv.cell 2 rfl
 have v6:=hv.cell 6 rfl
 have v7:=hv.cell 7 rfl
 have v8:=hv.cell 8 rfl
 clear hv
 by_cases hn0:n0=16
 case neg=>
  have HN:Hid (¬(H.regs.length=16∧H.csr.length=11∧H.regs.getD 0 0=0)):=fun k=>hn0 (EL.out.1.symm.trans k.1)
  have hI:¬(n0:Int)=16:=by omega
  go_enter Tryz.func54,Tryz.ntmps54
  go_wp2_with fail
  go_ret
  exact⟨ret_i (hf_form HN.out).symm,rfl⟩
 subst hn0
 obtain⟨y0,rfl⟩:=g0 (by decide)
 clear g0
 by_cases hn1:n1=11
 case neg=>
  have HN:Hid (¬(H.regs.length=16∧H.csr.length=11∧H.regs.getD 0 0=0)):=fun k=>hn1 (EL.out.2.1.symm.trans k.2.1)
  have hI:¬(n1:Int)=11:=by omega
  go_enter Tryz.func54,Tryz.ntmps54
  go_wp2_with fail
  go_ret
  exact⟨ret_i (hf_form HN.out).symm,rfl⟩
 subst hn1
 obtain⟨y1,rfl⟩:=g1 (by decide)
 clear g1
 obtain⟨z0,hz0⟩:∃z,H.regs.getD 0 0=z:=⟨_,rfl⟩
 have cz:w.cell? ⟨y0,0,none⟩=some (.int .i64 z0):=by rw[←hz0];exact HM.out.r.cell EL.out.1.symm 0 (by decide)
 have Y0:Hid (y0<w.heap.size):=block_of_cell (HM.out.r.cell EL.out.1.symm 0 (by decide))
 have Y1:Hid (y1<w.heap.size):=block_of_cell (HM.out.c.cell EL.out.2.1.symm 0 (by decide))
 have y0lt:y0<w.heap.size:=Y0.out
 have y1lt:y1<w.heap.size:=Y1.out
 have HZ0:=hid hz0
 clear hz0
 by_cases hr0:z0=0
 case neg=>
  have HN:Hid (¬(H.regs.length=16∧H.csr.length=11∧H.regs.getD 0 0=0)):=fun k=>hr0 (HZ0.out.symm.trans k.2.2)
  go_enter Tryz.func54,Tryz.ntmps54
  go_wp2_with fail
  go_ret
  exact⟨ret_i (hf_form HN.out).symm,rfl⟩
 have FM:Hid (H.regs.length=16∧H.csr.length=11∧H.regs.getD 0 0=0):=⟨EL.out.1,EL.out.2.1,HZ0.out.trans hr0⟩
 subst hr0
 cases hb0:H.regs.all isW
 case false=>
  have HN:Hid (H.words=false):=by show _=_;simp[Ht.words,hb0]
  go_enter Tryz.func54,Tryz.ntmps54
  go_wp2_with (first
     |(go_at_call_of 96 (Value.slice (some ⟨y0,0,none⟩) 16 k0);refine(s_words (some ⟨y0,0,none⟩) 16 k0 H.regs _ HM.out.r.rn).mono ?_;rintro e x ⟨rfl,rfl⟩;rw[hb0])
     |(go_at_call_of 96 (Value.slice (some ⟨y1,0,none⟩) 11 k1);refine(s_words (some ⟨y1,0,none⟩) 11 k1 H.csr _ HM.out.c.rn).mono ?_;rintro e x ⟨rfl,rfl⟩;rw[hb1])
     |(go_at_call_of 96 (Value.slice a2 n2 k2);refine(s_words a2 n2 k2 H.inn _ HM.out.i.rn).mono ?_;rintro e x ⟨rfl,rfl⟩;rw[hb2])
     |(go_at_call_of 96 (Value.slice a3 n3 k3);refine(s_words a3 n3 k3 H.out _ HM.out.o.rn).mono ?_;rintro e x ⟨rfl,rfl⟩;rw[hb3])
     |(go_at_call 97;refine(s_word _ _).mono ?_;rintro e x ⟨rfl,rfl⟩;rw[hbp])
     |(go_at_call 38;refine(spec_in _ _ _ _).mono ?_;rintro e x ⟨rfl,rfl⟩;rw[hdn]))
  go_ret
  exact⟨ret_i (hf_words FM.out HN.out).symm,rfl⟩
 cases hbp:isW H.pc
 case false=>
  have HN:Hid (H.words=false):=by show _=_;simp[Ht.words,hbp]
  go_enter Tryz.func54,Tryz.ntmps54
  go_wp2_with (first
     |(go_at_call_of 96 (Value.slice (some ⟨y0,0,none⟩) 16 k0);refine(s_words (some ⟨y0,0,none⟩) 16 k0 H.regs _ HM.out.r.rn).mono ?_;rintro e x ⟨rfl,rfl⟩;rw[hb0])
     |(go_at_call_of 96 (Value.slice (some ⟨y1,0,none⟩) 11 k1);refine(s_words (some ⟨y1,0,none⟩) 11 k1 H.csr _ HM.out.c.rn).mono ?_;rintro e x ⟨rfl,rfl⟩;rw[hb1])
     |(go_at_call_of 96 (Value.slice a2 n2 k2);refine(s_words a2 n2 k2 H.inn _ HM.out.i.rn).mono ?_;rintro e x ⟨rfl,rfl⟩;rw[hb2])
     |(go_at_call_of 96 (Value.slice a3 n3 k3);refine(s_words a3 n3 k3 H.out _ HM.out.o.rn).mono ?_;rintro e x ⟨rfl,rfl⟩;rw[hb3])
     |(go_at_call 97;refine(s_word _ _).mono ?_;rintro e x ⟨rfl,rfl⟩;rw[hbp])
     |(go_at_call 38;refine(spec_in _ _ _ _).mono ?_;rintro e x ⟨rfl,rfl⟩;rw[hdn]))
  go_ret
  exact⟨ret_i (hf_words FM.out HN.out).symm,rfl⟩
 cases hb1:H.csr.all isW
 case false=>
  have HN:Hid (H.words=false):=by show _=_;simp[Ht.words,hb1]
  go_enter Tryz.func54,Tryz.ntmps54
  go_wp2_with (first
     |(go_at_call_of 96 (Value.slice (some ⟨y0,0,none⟩) 16 k0);refine(s_words (some ⟨y0,0,none⟩) 16 k0 H.regs _ HM.out.r.rn).mono ?_;rintro e x ⟨rfl,rfl⟩;rw[hb0])
     |(go_at_call_of 96 (Value.slice (some ⟨y1,0,none⟩) 11 k1);refine(s_words (some ⟨y1,0,none⟩) 11 k1 H.csr _ HM.out.c.rn).mono ?_;rintro e x ⟨rfl,rfl⟩;rw[hb1])
     |(go_at_call_of 96 (Value.slice a2 n2 k2);refine(s_words a2 n2 k2 H.inn _ HM.out.i.rn).mono ?_;rintro e x ⟨rfl,rfl⟩;rw[hb2])
     |(go_at_call_of 96 (Value.slice a3 n3 k3);refine(s_words a3 n3 k3 H.out _ HM.out.o.rn).mono ?_;rintro e x ⟨rfl,rfl⟩;rw[hb3])
     |(go_at_call 97;refine(s_word _ _).mono ?_;rintro e x ⟨rfl,rfl⟩;rw[hbp])
     |(go_at_call 38;refine(spec_in _ _ _ _).mono ?_;rintro e x ⟨rfl,rfl⟩;rw[hdn]))
  go_ret
  exact⟨ret_i (hf_words FM.out HN.out).symm,rfl⟩
 cases hb2:H.inn.all isW
 case false=>
  have HN:Hid (H.words=false):=by show _=_;simp[Ht.words,hb2]
  go_enter Tryz.func54,Tryz.ntmps54
  go_wp2_with (first
     |(go_at_call_of 96 (Value.slice (some ⟨y0,0,none⟩) 16 k0);refine(s_words (some ⟨y0,0,none⟩) 16 k0 H.regs _ HM.out.r.rn).mono ?_;rintro e x ⟨rfl,rfl⟩;rw[hb0])
     |(go_at_call_of 96 (Value.slice (some ⟨y1,0,none⟩) 11 k1);refine(s_words (some ⟨y1,0,none⟩) 11 k1 H.csr _ HM.out.c.rn).mono ?_;rintro e x ⟨rfl,rfl⟩;rw[hb1])
     |(go_at_call_of 96 (Value.slice a2 n2 k2);refine(s_words a2 n2 k2 H.inn _ HM.out.i.rn).mono ?_;rintro e x ⟨rfl,rfl⟩;rw[hb2])
     |(go_at_call_of 96 (Value.slice a3 n3 k3);refine(s_words a3 n3 k3 H.out _ HM.out.o.rn).mono ?_;rintro e x ⟨rfl,rfl⟩;rw[hb3])
     |(go_at_call 97;refine(s_word _ _).mono ?_;rintro e x ⟨rfl,rfl⟩;rw[hbp])
     |(go_at_call 38;refine(spec_in _ _ _ _).mono ?_;rintro e x ⟨rfl,rfl⟩;rw[hdn]))
  go_ret
  exact⟨ret_i (hf_words FM.out HN.out).symm,rfl⟩
 cases hb3:H.out.all isW
 case false=>
  have HN:Hid (H.words=false):=by show _=_;simp[Ht.words,hb3]
  go_enter Tryz.func54,Tryz.ntmps54
  go_wp2_with (first
     |(go_at_call_of 96 (Value.slice (some ⟨y0,0,none⟩) 16 k0);refine(s_words (some ⟨y0,0,none⟩) 16 k0 H.regs _ HM.out.r.rn).mono ?_;rintro e x ⟨rfl,rfl⟩;rw[hb0])
     |(go_at_call_of 96 (Value.slice (some ⟨y1,0,none⟩) 11 k1);refine(s_words (some ⟨y1,0,none⟩) 11 k1 H.csr _ HM.out.c.rn).mono ?_;rintro e x ⟨rfl,rfl⟩;rw[hb1])
     |(go_at_call_of 96 (Value.slice a2 n2 k2);refine(s_words a2 n2 k2 H.inn _ HM.out.i.rn).mono ?_;rintro e x ⟨rfl,rfl⟩;rw[hb2])
     |(go_at_call_of 96 (Value.slice a3 n3 k3);refine(s_words a3 n3 k3 H.out _ HM.out.o.rn).mono ?_;rintro e x ⟨rfl,rfl⟩;rw[hb3])
     |(go_at_call 97;refine(s_word _ _).mono ?_;rintro e x ⟨rfl,rfl⟩;rw[hbp])
     |(go_at_call 38;refine(spec_in _ _ _ _).mono ?_;rintro e x ⟨rfl,rfl⟩;rw[hdn]))
  go_ret
  exact⟨ret_i (hf_words FM.out HN.out).symm,rfl⟩
 have WM:Hid (H.words=true):=by show _=_;simp[Ht.words,hb0,hbp,hb1,hb2,hb3]
 have CW:=hid hb1
 by_cases hn2:n2≤40
 case neg=>
  have HN:Hid (¬(H.inn.length≤40∧H.out.length≤40)):=fun k=>hn2 (by have:=EL.out.2.2.1;omega)
  have hI:(40:Int)<(n2:Int):=by omega
  go_enter Tryz.func54,Tryz.ntmps54
  go_wp2_with (first
     |(go_at_call_of 96 (Value.slice (some ⟨y0,0,none⟩) 16 k0);refine(s_words (some ⟨y0,0,none⟩) 16 k0 H.regs _ HM.out.r.rn).mono ?_;rintro e x ⟨rfl,rfl⟩;rw[hb0])
     |(go_at_call_of 96 (Value.slice (some ⟨y1,0,none⟩) 11 k1);refine(s_words (some ⟨y1,0,none⟩) 11 k1 H.csr _ HM.out.c.rn).mono ?_;rintro e x ⟨rfl,rfl⟩;rw[hb1])
     |(go_at_call_of 96 (Value.slice a2 n2 k2);refine(s_words a2 n2 k2 H.inn _ HM.out.i.rn).mono ?_;rintro e x ⟨rfl,rfl⟩;rw[hb2])
     |(go_at_call_of 96 (Value.slice a3 n3 k3);refine(s_words a3 n3 k3 H.out _ HM.out.o.rn).mono ?_;rintro e x ⟨rfl,rfl⟩;rw[hb3])
     |(go_at_call 97;refine(s_word _ _).mono ?_;rintro e x ⟨rfl,rfl⟩;rw[hbp])
     |(go_at_call 38;refine(spec_in _ _ _ _).mono ?_;rintro e x ⟨rfl,rfl⟩;rw[hdn]))
  go_ret
  exact⟨ret_i (hf_few FM.out WM.out HN.out).symm,rfl⟩
 have hI2:¬(40:Int)<(n2:Int):=by omega
 by_cases hn3:n3≤40
 case neg=>
  have HN:Hid (¬(H.inn.length≤40∧H.out.length≤40)):=fun k=>hn3 (by have:=EL.out.2.2.2;omega)
  have hI:(40:Int)<(n3:Int):=by omega
  go_enter Tryz.func54,Tryz.ntmps54
  go_wp2_with (first
     |(go_at_call_of 96 (Value.slice (some ⟨y0,0,none⟩) 16 k0);refine(s_words (some ⟨y0,0,none⟩) 16 k0 H.regs _ HM.out.r.rn).mono ?_;rintro e x ⟨rfl,rfl⟩;rw[hb0])
     |(go_at_call_of 96 (Value.slice (some ⟨y1,0,none⟩) 11 k1);refine(s_words (some ⟨y1,0,none⟩) 11 k1 H.csr _ HM.out.c.rn).mono ?_;rintro e x ⟨rfl,rfl⟩;rw[hb1])
     |(go_at_call_of 96 (Value.slice a2 n2 k2);refine(s_words a2 n2 k2 H.inn _ HM.out.i.rn).mono ?_;rintro e x ⟨rfl,rfl⟩;rw[hb2])
     |(go_at_call_of 96 (Value.slice a3 n3 k3);refine(s_words a3 n3 k3 H.out _ HM.out.o.rn).mono ?_;rintro e x ⟨rfl,rfl⟩;rw[hb3])
     |(go_at_call 97;refine(s_word _ _).mono ?_;rintro e x ⟨rfl,rfl⟩;rw[hbp])
     |(go_at_call 38;refine(spec_in _ _ _ _).mono ?_;rintro e x ⟨rfl,rfl⟩;rw[hdn]))
  go_ret
  exact⟨ret_i (hf_few FM.out WM.out HN.out).symm,rfl⟩
 have hI3:¬(40:Int)<(n3:Int):=by omega
 have FW:Hid (H.inn.length≤40∧H.out.length≤40):=⟨by have:=EL.out.2.2.1;omega,by have:=EL.out.2.2.2;omega⟩
 cases hdn:(decide (0≤H.done)&&decide (H.done≤1000000000))
 case false=>
  have HN:Hid (¬(0≤H.done∧H.done≤1000000000)):=fun k=>by simp[k.1,k.2]at hdn
  go_enter Tryz.func54,Tryz.ntmps54
  go_wp2_with (first
     |(go_at_call_of 96 (Value.slice (some ⟨y0,0,none⟩) 16 k0);refine(s_words (some ⟨y0,0,none⟩) 16 k0 H.regs _ HM.out.r.rn).mono ?_;rintro e x ⟨rfl,rfl⟩;rw[hb0])
     |(go_at_call_of 96 (Value.slice (some ⟨y1,0,none⟩) 11 k1);refine(s_words (some ⟨y1,0,none⟩) 11 k1 H.csr _ HM.out.c.rn).mono ?_;rintro e x ⟨rfl,rfl⟩;rw[hb1])
     |(go_at_call_of 96 (Value.slice a2 n2 k2);refine(s_words a2 n2 k2 H.inn _ HM.out.i.rn).mono ?_;rintro e x ⟨rfl,rfl⟩;rw[hb2])
     |(go_at_call_of 96 (Value.slice a3 n3 k3);refine(s_words a3 n3 k3 H.out _ HM.out.o.rn).mono ?_;rintro e x ⟨rfl,rfl⟩;rw[hb3])
     |(go_at_call 97;refine(s_word _ _).mono ?_;rintro e x ⟨rfl,rfl⟩;rw[hbp])
     |(go_at_call 38;refine(spec_in _ _ _ _).mono ?_;rintro e x ⟨rfl,rfl⟩;rw[hdn]))
  go_ret
  exact⟨ret_i (hf_nice FM.out WM.out FW.out HN.out).symm,rfl⟩
 have ND:Hid (0≤H.done∧H.done≤1000000000):=by show _∧_;simpa using hdn
 obtain⟨s0,hs0⟩:∃z,H.csr.getD 0 0=z:=⟨_,rfl⟩
 have cs0:w.cell? ⟨y1,0,none⟩=some (.int .i64 s0):=by rw[←hs0];exact HM.out.c.cell EL.out.2.1.symm 0 (by decide)
 have Hs0:=hid hs0
 clear hs0
 obtain⟨s7,hs7⟩:∃z,H.csr.getD 7 0=z:=⟨_,rfl⟩
 have cs7:w.cell? ⟨y1,7,none⟩=some (.int .i64 s7):=by rw[←hs7];exact HM.out.c.cell EL.out.2.1.symm 7 (by decide)
 have Hs7:=hid hs7
 clear hs7
 obtain⟨s10,hs10⟩:∃z,H.csr.getD 10 0=z:=⟨_,rfl⟩
 have cs10:w.cell? ⟨y1,10,none⟩=some (.int .i64 s10):=by rw[←hs10];exact HM.out.c.cell EL.out.2.1.symm 10 (by decide)
 have Hs10:=hid hs10
 clear hs10
 obtain⟨s6,hs6⟩:∃z,H.csr.getD 6 0=z:=⟨_,rfl⟩
 have cs6:w.cell? ⟨y1,6,none⟩=some (.int .i64 s6):=by rw[←hs6];exact HM.out.c.cell EL.out.2.1.symm 6 (by decide)
 have Hs6:=hid hs6
 clear hs6
 obtain⟨s8,hs8⟩:∃z,H.csr.getD 8 0=z:=⟨_,rfl⟩
 have cs8:w.cell? ⟨y1,8,none⟩=some (.int .i64 s8):=by rw[←hs8];exact HM.out.c.cell EL.out.2.1.symm 8 (by decide)
 have Hs8:=hid hs8
 clear hs8
 have SC:Hid (standC H.csr=(decide (s0≤3)&&decide (s7≤7)&&decide (s10≤8)&&decide (s6=0)&&decide (s8=0))):=by show _=_;unfold standC;rw[Hs0.out,Hs7.out,Hs10.out,Hs6.out,Hs8.out]
 by_cases ts0:s0≤3
 case neg=>
  have HN:Hid (standC H.csr=false):=by show _=_;rw[SC.out];simp[ts0]
  have hI:3<s0:=by omega
  go_enter Tryz.func54,Tryz.ntmps54
  go_wp2_with (first
     |(go_at_call_of 96 (Value.slice (some ⟨y0,0,none⟩) 16 k0);refine(s_words (some ⟨y0,0,none⟩) 16 k0 H.regs _ HM.out.r.rn).mono ?_;rintro e x ⟨rfl,rfl⟩;rw[hb0])
     |(go_at_call_of 96 (Value.slice (some ⟨y1,0,none⟩) 11 k1);refine(s_words (some ⟨y1,0,none⟩) 11 k1 H.csr _ HM.out.c.rn).mono ?_;rintro e x ⟨rfl,rfl⟩;rw[hb1])
     |(go_at_call_of 96 (Value.slice a2 n2 k2);refine(s_words a2 n2 k2 H.inn _ HM.out.i.rn).mono ?_;rintro e x ⟨rfl,rfl⟩;rw[hb2])
     |(go_at_call_of 96 (Value.slice a3 n3 k3);refine(s_words a3 n3 k3 H.out _ HM.out.o.rn).mono ?_;rintro e x ⟨rfl,rfl⟩;rw[hb3])
     |(go_at_call 97;refine(s_word _ _).mono ?_;rintro e x ⟨rfl,rfl⟩;rw[hbp])
     |(go_at_call 38;refine(spec_in _ _ _ _).mono ?_;rintro e x ⟨rfl,rfl⟩;rw[hdn]))
  go_ret
  exact⟨ret_i ((hf_stand FM.out WM.out FW.out ND.out).trans (by rw[HN.out];rfl)).symm,rfl⟩
 have us0:¬3<s0:=by omega
 by_cases ts7:s7≤7
 case neg=>
  have HN:Hid (standC H.csr=false):=by show _=_;rw[SC.out];simp[ts7]
  have hI:7<s7:=by omega
  go_enter Tryz.func54,Tryz.ntmps54
  go_wp2_with (first
     |(go_at_call_of 96 (Value.slice (some ⟨y0,0,none⟩) 16 k0);refine(s_words (some ⟨y0,0,none⟩) 16 k0 H.regs _ HM.out.r.rn).mono ?_;rintro e x ⟨rfl,rfl⟩;rw[hb0])
     |(go_at_call_of 96 (Value.slice (some ⟨y1,0,none⟩) 11 k1);refine(s_words (some ⟨y1,0,none⟩) 11 k1 H.csr _ HM.out.c.rn).mono ?_;rintro e x ⟨rfl,rfl⟩;rw[hb1])
     |(go_at_call_of 96 (Value.slice a2 n2 k2);refine(s_words a2 n2 k2 H.inn _ HM.out.i.rn).mono ?_;rintro e x ⟨rfl,rfl⟩;rw[hb2])
     |(go_at_call_of 96 (Value.slice a3 n3 k3);refine(s_words a3 n3 k3 H.out _ HM.out.o.rn).mono ?_;rintro e x ⟨rfl,rfl⟩;rw[hb3])
     |(go_at_call 97;refine(s_word _ _).mono ?_;rintro e x ⟨rfl,rfl⟩;rw[hbp])
     |(go_at_call 38;refine(spec_in _ _ _ _).mono ?_;rintro e x ⟨rfl,rfl⟩;rw[hdn]))
  go_ret
  exact⟨ret_i ((hf_stand FM.out WM.out FW.out ND.out).trans (by rw[HN.out];rfl)).symm,rfl⟩
 have us7:¬7<s7:=by omega
 by_cases ts10:s10≤8
 case neg=>
  have HN:Hid (standC H.csr=false):=by show _=_;rw[SC.out];simp[ts10]
  have hI:8<s10:=by omega
  go_enter Tryz.func54,Tryz.ntmps54
  go_wp2_with (first
     |(go_at_call_of 96 (Value.slice (some ⟨y0,0,none⟩) 16 k0);refine(s_words (some ⟨y0,0,none⟩) 16 k0 H.regs _ HM.out.r.rn).mono ?_;rintro e x ⟨rfl,rfl⟩;rw[hb0])
     |(go_at_call_of 96 (Value.slice (some ⟨y1,0,none⟩) 11 k1);refine(s_words (some ⟨y1,0,none⟩) 11 k1 H.csr _ HM.out.c.rn).mono ?_;rintro e x ⟨rfl,rfl⟩;rw[hb1])
     |(go_at_call_of 96 (Value.slice a2 n2 k2);refine(s_words a2 n2 k2 H.inn _ HM.out.i.rn).mono ?_;rintro e x ⟨rfl,rfl⟩;rw[hb2])
     |(go_at_call_of 96 (Value.slice a3 n3 k3);refine(s_words a3 n3 k3 H.out _ HM.out.o.rn).mono ?_;rintro e x ⟨rfl,rfl⟩;rw[hb3])
     |(go_at_call 97;refine(s_word _ _).mono ?_;rintro e x ⟨rfl,rfl⟩;rw[hbp])
     |(go_at_call 38;refine(spec_in _ _ _ _).mono ?_;rintro e x ⟨rfl,rfl⟩;rw[hdn]))
  go_ret
  exact⟨ret_i ((hf_stand FM.out WM.out FW.out ND.out).trans (by rw[HN.out];rfl)).symm,rfl⟩
 have us10:¬8<s10:=by omega
 by_cases ts6:s6=0
 case neg=>
  have HN:Hid (standC H.csr=false):=by show _=_;rw[SC.out];simp[ts6]
  have hI:(s6 !=0)=true:=by simp[ts6]
  go_enter Tryz.func54,Tryz.ntmps54
  go_wp2_with (first
     |(go_at_call_of 96 (Value.slice (some ⟨y0,0,none⟩) 16 k0);refine(s_words (some ⟨y0,0,none⟩) 16 k0 H.regs _ HM.out.r.rn).mono ?_;rintro e x ⟨rfl,rfl⟩;rw[hb0])
     |(go_at_call_of 96 (Value.slice (some ⟨y1,0,none⟩) 11 k1);refine(s_words (some ⟨y1,0,none⟩) 11 k1 H.csr _ HM.out.c.rn).mono ?_;rintro e x ⟨rfl,rfl⟩;rw[hb1])
     |(go_at_call_of 96 (Value.slice a2 n2 k2);refine(s_words a2 n2 k2 H.inn _ HM.out.i.rn).mono ?_;rintro e x ⟨rfl,rfl⟩;rw[hb2])
     |(go_at_call_of 96 (Value.slice a3 n3 k3);refine(s_words a3 n3 k3 H.out _ HM.out.o.rn).mono ?_;rintro e x ⟨rfl,rfl⟩;rw[hb3])
     |(go_at_call 97;refine(s_word _ _).mono ?_;rintro e x ⟨rfl,rfl⟩;rw[hbp])
     |(go_at_call 38;refine(spec_in _ _ _ _).mono ?_;rintro e x ⟨rfl,rfl⟩;rw[hdn]))
  go_ret
  exact⟨ret_i ((hf_stand FM.out WM.out FW.out ND.out).trans (by rw[HN.out];rfl)).symm,rfl⟩
 subst ts6
 by_cases ts8:s8=0
 case neg=>
  have HN:Hid (standC H.csr=false):=by show _=_;rw[SC.out];simp[ts8]
  have hI:(s8 !=0)=true:=by simp[ts8]
  go_enter Tryz.func54,Tryz.ntmps54
  go_wp2_with (first
     |(go_at_call_of 96 (Value.slice (some ⟨y0,0,none⟩) 16 k0);refine(s_words (some ⟨y0,0,none⟩) 16 k0 H.regs _ HM.out.r.rn).mono ?_;rintro e x ⟨rfl,rfl⟩;rw[hb0])
     |(go_at_call_of 96 (Value.slice (some ⟨y1,0,none⟩) 11 k1);refine(s_words (some ⟨y1,0,none⟩) 11 k1 H.csr _ HM.out.c.rn).mono ?_;rintro e x ⟨rfl,rfl⟩;rw[hb1])
     |(go_at_call_of 96 (Value.slice a2 n2 k2);refine(s_words a2 n2 k2 H.inn _ HM.out.i.rn).mono ?_;rintro e x ⟨rfl,rfl⟩;rw[hb2])
     |(go_at_call_of 96 (Value.slice a3 n3 k3);refine(s_words a3 n3 k3 H.out _ HM.out.o.rn).mono ?_;rintro e x ⟨rfl,rfl⟩;rw[hb3])
     |(go_at_call 97;refine(s_word _ _).mono ?_;rintro e x ⟨rfl,rfl⟩;rw[hbp])
     |(go_at_call 38;refine(spec_in _ _ _ _).mono ?_;rintro e x ⟨rfl,rfl⟩;rw[hdn]))
  go_ret
  exact⟨ret_i ((hf_stand FM.out WM.out FW.out ND.out).trans (by rw[HN.out];rfl)).symm,rfl⟩
 subst ts8
 have HN:Hid (standC H.csr=true):=by show _=_;rw[SC.out];simp[ts0,ts7,ts10]
 go_enter Tryz.func54,Tryz.ntmps54
 go_wp2_with (first
    |(go_at_call_of 96 (Value.slice (some ⟨y0,0,none⟩) 16 k0);refine(s_words (some ⟨y0,0,none⟩) 16 k0 H.regs _ HM.out.r.rn).mono ?_;rintro e x ⟨rfl,rfl⟩;rw[hb0])
    |(go_at_call_of 96 (Value.slice (some ⟨y1,0,none⟩) 11 k1);refine(s_words (some ⟨y1,0,none⟩) 11 k1 H.csr _ HM.out.c.rn).mono ?_;rintro e x ⟨rfl,rfl⟩;rw[hb1])
    |(go_at_call_of 96 (Value.slice a2 n2 k2);refine(s_words a2 n2 k2 H.inn _ HM.out.i.rn).mono ?_;rintro e x ⟨rfl,rfl⟩;rw[hb2])
    |(go_at_call_of 96 (Value.slice a3 n3 k3);refine(s_words a3 n3 k3 H.out _ HM.out.o.rn).mono ?_;rintro e x ⟨rfl,rfl⟩;rw[hb3])
    |(go_at_call 97;refine(s_word _ _).mono ?_;rintro e x ⟨rfl,rfl⟩;rw[hbp])
    |(go_at_call 38;refine(spec_in _ _ _ _).mono ?_;rintro e x ⟨rfl,rfl⟩;rw[hdn]))
 go_ret
 exact⟨ret_i ((hf_stand FM.out WM.out FW.out ND.out).trans (by rw[HN.out];rfl)).symm,rfl⟩
end Go.Proofs.YtaefollmeoepkaaGreatDoor
