import Derived.Deep.RegionWith
import Derived.Test.YtaefollmeoepkaaGreatDoorQ10
namespace Go.Proofs.YtaefollmeoepkaaGreatDoor
set_option maxRecDepth 20000
set_option maxHeartbeats 16000000
open Go.RowKit
set_option linter.unusedVariables false
theorem one_all(z:Int): [z].all isW=isW z:=by simp
theorem one_rn(w:World)(z:Int){t:TypeId}{q:Nat}(hq:q=w.heap.size):Rn (w.alloc (.cells #[.int .i64 z] t)) (some ⟨q,0,none⟩) 1 1 [z]:=by
 subst hq
 refine .inr ⟨_,rfl,by decide,by decide,rfl,fun i hi=>?_⟩
 obtain rfl:i=0:=by omega
 rw[show(⟨w.heap.size,0,none⟩:Addr).add 0=⟨w.heap.size,0,none⟩ by rw[Addr.add_lit]]
 exact cell_new rfl
theorem i_fault(r c i o:Value)(H:Ht)(b:Nat)(w:World)(h:Hm w b r c i o H):
  Calls Tryz.prog 10 #[.agg #[r,.int .i64 H.pc,c,.bool H.halted,.bool H.waiting,.bool H.rung,.int .i64 H.done,i,o]] w fun e w'=>e=.returned (.int .i64 (hfV H))∧Below w.heap.size w w':=by
 have HM:=hid h
 obtain⟨a0,k0,h0,_,_,g0⟩:=h.r.shape
 obtain⟨a1,k1,h1,_,_,g1⟩:=h.c.shape
 obtain⟨a2,k2,h2,_,l2,_⟩:=h.i.shape
 obtain⟨a3,k3,h3,_,l3,_⟩:=h.o.shape
 have R0:=h.r.rv
 obtain⟨n0,e0⟩:∃n,H.regs.length=n:=⟨_,rfl⟩
 obtain⟨n1,e1⟩:∃n,H.csr.length=n:=⟨_,rfl⟩
 obtain⟨n2,e2⟩:∃n,H.inn.length=n:=⟨_,rfl⟩
 obtain⟨n3,e3⟩:∃n,H.out.length=n:=⟨_,rfl⟩
 rw[e0]at h0 g0
 rw[e1]at h1 g1
 rw[e2]at h2
 rw[e3]at h3
 have EL:Hid (H.regs.length=n0∧H.csr.length=n1∧H.inn.length=n2∧H.out.length=n3):=⟨e0,e1,e2,e3⟩
 subst h0 h1 h2 h3
 have hl2:(n2:Int)≤9223372036854775807:=by have:=h.i.lens;unfold maxLen at this;omega
 have hl3:(n3:Int)≤9223372036854775807:=by have:=h.o.lens;unfold maxLen at this;omega
 have hl0:(n0:Int)≤9223372036854775807:=by have:=h.r.lens;unfold maxLen at this;omega
 have hl1:(n1:Int)≤9223372036854775807:=by have:=h.c.lens;unfold maxLen at this;omega
 clear h e0 e1 e2 e3 l2 l3 R0
 have B1:Hid (Below w.heap.size w (w.alloc (.cells #[.slice a0 n0 k0,.int .i64 H.pc,.slice a1 n1 k1,.bool H.halted,.bool H.waiting,.bool H.rung,.int .i64 H.done,.slice a2 n2 k2,.slice a3 n3 k3] 26))):=al (Below.refl _ _) _
 by_cases hn0:n0=16
 case neg=>
  have HN:Hid (¬(H.regs.length=16∧H.csr.length=11∧H.regs.getD 0 0=0)):=fun k=>hn0 (EL.out.1.symm.trans k.1)
  have hI:¬(n0:Int)=16:=by omega
  go_enter Tryz.func10,Tryz.ntmps10
  go_wp2_with fail
  go_ret
  exact⟨ret_i (hf_form HN.out).symm,by first|exact B1.out|exact al B1.out _⟩
 subst hn0
 obtain⟨y0,rfl⟩:=g0 (by decide)
 clear g0
 by_cases hn1:n1=11
 case neg=>
  have HN:Hid (¬(H.regs.length=16∧H.csr.length=11∧H.regs.getD 0 0=0)):=fun k=>hn1 (EL.out.2.1.symm.trans k.2.1)
  have hI:¬(n1:Int)=11:=by omega
  go_enter Tryz.func10,Tryz.ntmps10
  go_wp2_with fail
  go_ret
  exact⟨ret_i (hf_form HN.out).symm,by first|exact B1.out|exact al B1.out _⟩
 subst hn1
 obtain⟨y1,rfl⟩:=g1 (by decide)
 clear g1
 obtain⟨z0,hz0⟩:∃z,H.regs.getD 0 0=z:=⟨_,rfl⟩
 have cz:(w.alloc (.cells #[.slice (some ⟨y0,0,none⟩) 16 k0,.int .i64 H.pc,.slice (some ⟨y1,0,none⟩) 11 k1,.bool H.halted,.bool H.waiting,.bool H.rung,.int .i64 H.done,.slice a2 n2 k2,.slice a3 n3 k3] 26)).cell? ⟨y0,0,none⟩=some (.int .i64 z0):=by rw[←hz0];exact cell_push _ (HM.out.r.cell EL.out.1.symm 0 (by decide))
 have Y0:Hid (y0<w.heap.size):=block_of_cell (HM.out.r.cell EL.out.1.symm 0 (by decide))
 have Y1:Hid (y1<w.heap.size):=block_of_cell (HM.out.c.cell EL.out.2.1.symm 0 (by decide))
 have y0lt:y0<w.heap.size:=Y0.out
 have y1lt:y1<w.heap.size:=Y1.out
 have HZ0:=hid hz0
 clear hz0
 by_cases hr0:z0=0
 case neg=>
  have HN:Hid (¬(H.regs.length=16∧H.csr.length=11∧H.regs.getD 0 0=0)):=fun k=>hr0 (HZ0.out.symm.trans k.2.2)
  go_enter Tryz.func10,Tryz.ntmps10
  go_wp2_with fail
  go_ret
  exact⟨ret_i (hf_form HN.out).symm,by first|exact B1.out|exact al B1.out _⟩
 have FM:Hid (H.regs.length=16∧H.csr.length=11∧H.regs.getD 0 0=0):=⟨EL.out.1,EL.out.2.1,HZ0.out.trans hr0⟩
 subst hr0
 cases hb0:H.regs.all isW
 case false=>
  have HN:Hid (H.words=false):=by show _=_;simp[Ht.words,hb0]
  go_enter Tryz.func10,Tryz.ntmps10
  go_wp2_with (first
     |(go_at_call_of 29 (Value.slice (some ⟨y0,0,none⟩) 16 k0);refine(i_words (some ⟨y0,0,none⟩) 16 k0 H.regs _ (HM.out.r.rn.stay (by first|exact B1.out|exact al B1.out _))).mono ?_;rintro e x ⟨rfl,rfl⟩;rw[hb0])
     |(go_at_call_of 29 (Value.slice (some ⟨y1,0,none⟩) 11 k1);refine(i_words (some ⟨y1,0,none⟩) 11 k1 H.csr _ (HM.out.c.rn.stay (by first|exact B1.out|exact al B1.out _))).mono ?_;rintro e x ⟨rfl,rfl⟩;rw[hb1])
     |(go_at_call_of 29 (Value.slice a2 n2 k2);refine(i_words a2 n2 k2 H.inn _ (HM.out.i.rn.stay (by first|exact B1.out|exact al B1.out _))).mono ?_;rintro e x ⟨rfl,rfl⟩;rw[hb2])
     |(go_at_call_of 29 (Value.slice a3 n3 k3);refine(i_words a3 n3 k3 H.out _ (HM.out.o.rn.stay (by first|exact B1.out|exact al B1.out _))).mono ?_;rintro e x ⟨rfl,rfl⟩;rw[hb3])
     |(go_at_call 29;refine(i_words _ 1 1 [H.pc] _ (one_rn _ _ (by simp))).mono ?_;rintro e x ⟨rfl,rfl⟩;rw[one_all,hbp])
     |(go_at_call 30;refine(i_allStand _ k1 H.csr _ (HM.out.c.rn.stay (al B1.out _)) CW.out).mono ?_;rintro e x ⟨rfl,rfl⟩;rw[hst]))
  go_ret
  exact⟨ret_i (hf_words FM.out HN.out).symm,by first|exact B1.out|exact al B1.out _⟩
 cases hbp:isW H.pc
 case false=>
  have HN:Hid (H.words=false):=by show _=_;simp[Ht.words,hbp]
  go_enter Tryz.func10,Tryz.ntmps10
  go_wp2_with (first
     |(go_at_call_of 29 (Value.slice (some ⟨y0,0,none⟩) 16 k0);refine(i_words (some ⟨y0,0,none⟩) 16 k0 H.regs _ (HM.out.r.rn.stay (by first|exact B1.out|exact al B1.out _))).mono ?_;rintro e x ⟨rfl,rfl⟩;rw[hb0])
     |(go_at_call_of 29 (Value.slice (some ⟨y1,0,none⟩) 11 k1);refine(i_words (some ⟨y1,0,none⟩) 11 k1 H.csr _ (HM.out.c.rn.stay (by first|exact B1.out|exact al B1.out _))).mono ?_;rintro e x ⟨rfl,rfl⟩;rw[hb1])
     |(go_at_call_of 29 (Value.slice a2 n2 k2);refine(i_words a2 n2 k2 H.inn _ (HM.out.i.rn.stay (by first|exact B1.out|exact al B1.out _))).mono ?_;rintro e x ⟨rfl,rfl⟩;rw[hb2])
     |(go_at_call_of 29 (Value.slice a3 n3 k3);refine(i_words a3 n3 k3 H.out _ (HM.out.o.rn.stay (by first|exact B1.out|exact al B1.out _))).mono ?_;rintro e x ⟨rfl,rfl⟩;rw[hb3])
     |(go_at_call 29;refine(i_words _ 1 1 [H.pc] _ (one_rn _ _ (by simp))).mono ?_;rintro e x ⟨rfl,rfl⟩;rw[one_all,hbp])
     |(go_at_call 30;refine(i_allStand _ k1 H.csr _ (HM.out.c.rn.stay (al B1.out _)) CW.out).mono ?_;rintro e x ⟨rfl,rfl⟩;rw[hst]))
  go_ret
  exact⟨ret_i (hf_words FM.out HN.out).symm,by first|exact B1.out|exact al B1.out _⟩
 cases hb1:H.csr.all isW
 case false=>
  have HN:Hid (H.words=false):=by show _=_;simp[Ht.words,hb1]
  go_enter Tryz.func10,Tryz.ntmps10
  go_wp2_with (first
     |(go_at_call_of 29 (Value.slice (some ⟨y0,0,none⟩) 16 k0);refine(i_words (some ⟨y0,0,none⟩) 16 k0 H.regs _ (HM.out.r.rn.stay (by first|exact B1.out|exact al B1.out _))).mono ?_;rintro e x ⟨rfl,rfl⟩;rw[hb0])
     |(go_at_call_of 29 (Value.slice (some ⟨y1,0,none⟩) 11 k1);refine(i_words (some ⟨y1,0,none⟩) 11 k1 H.csr _ (HM.out.c.rn.stay (by first|exact B1.out|exact al B1.out _))).mono ?_;rintro e x ⟨rfl,rfl⟩;rw[hb1])
     |(go_at_call_of 29 (Value.slice a2 n2 k2);refine(i_words a2 n2 k2 H.inn _ (HM.out.i.rn.stay (by first|exact B1.out|exact al B1.out _))).mono ?_;rintro e x ⟨rfl,rfl⟩;rw[hb2])
     |(go_at_call_of 29 (Value.slice a3 n3 k3);refine(i_words a3 n3 k3 H.out _ (HM.out.o.rn.stay (by first|exact B1.out|exact al B1.out _))).mono ?_;rintro e x ⟨rfl,rfl⟩;rw[hb3])
     |(go_at_call 29;refine(i_words _ 1 1 [H.pc] _ (one_rn _ _ (by simp))).mono ?_;rintro e x ⟨rfl,rfl⟩;rw[one_all,hbp])
     |(go_at_call 30;refine(i_allStand _ k1 H.csr _ (HM.out.c.rn.stay (al B1.out _)) CW.out).mono ?_;rintro e x ⟨rfl,rfl⟩;rw[hst]))
  go_ret
  exact⟨ret_i (hf_words FM.out HN.out).symm,by first|exact B1.out|exact al B1.out _⟩
 cases hb2:H.inn.all isW
 case false=>
  have HN:Hid (H.words=false):=by show _=_;simp[Ht.words,hb2]
  go_enter Tryz.func10,Tryz.ntmps10
  go_wp2_with (first
     |(go_at_call_of 29 (Value.slice (some ⟨y0,0,none⟩) 16 k0);refine(i_words (some ⟨y0,0,none⟩) 16 k0 H.regs _ (HM.out.r.rn.stay (by first|exact B1.out|exact al B1.out _))).mono ?_;rintro e x ⟨rfl,rfl⟩;rw[hb0])
     |(go_at_call_of 29 (Value.slice (some ⟨y1,0,none⟩) 11 k1);refine(i_words (some ⟨y1,0,none⟩) 11 k1 H.csr _ (HM.out.c.rn.stay (by first|exact B1.out|exact al B1.out _))).mono ?_;rintro e x ⟨rfl,rfl⟩;rw[hb1])
     |(go_at_call_of 29 (Value.slice a2 n2 k2);refine(i_words a2 n2 k2 H.inn _ (HM.out.i.rn.stay (by first|exact B1.out|exact al B1.out _))).mono ?_;rintro e x ⟨rfl,rfl⟩;rw[hb2])
     |(go_at_call_of 29 (Value.slice a3 n3 k3);refine(i_words a3 n3 k3 H.out _ (HM.out.o.rn.stay (by first|exact B1.out|exact al B1.out _))).mono ?_;rintro e x ⟨rfl,rfl⟩;rw[hb3])
     |(go_at_call 29;refine(i_words _ 1 1 [H.pc] _ (one_rn _ _ (by simp))).mono ?_;rintro e x ⟨rfl,rfl⟩;rw[one_all,hbp])
     |(go_at_call 30;refine(i_allStand _ k1 H.csr _ (HM.out.c.rn.stay (al B1.out _)) CW.out).mono ?_;rintro e x ⟨rfl,rfl⟩;rw[hst]))
  go_ret
  exact⟨ret_i (hf_words FM.out HN.out).symm,by first|exact B1.out|exact al B1.out _⟩
 cases hb3:H.out.all isW
 case false=>
  have HN:Hid (H.words=false):=by show _=_;simp[Ht.words,hb3]
  go_enter Tryz.func10,Tryz.ntmps10
  go_wp2_with (first
     |(go_at_call_of 29 (Value.slice (some ⟨y0,0,none⟩) 16 k0);refine(i_words (some ⟨y0,0,none⟩) 16 k0 H.regs _ (HM.out.r.rn.stay (by first|exact B1.out|exact al B1.out _))).mono ?_;rintro e x ⟨rfl,rfl⟩;rw[hb0])
     |(go_at_call_of 29 (Value.slice (some ⟨y1,0,none⟩) 11 k1);refine(i_words (some ⟨y1,0,none⟩) 11 k1 H.csr _ (HM.out.c.rn.stay (by first|exact B1.out|exact al B1.out _))).mono ?_;rintro e x ⟨rfl,rfl⟩;rw[hb1])
     |(go_at_call_of 29 (Value.slice a2 n2 k2);refine(i_words a2 n2 k2 H.inn _ (HM.out.i.rn.stay (by first|exact B1.out|exact al B1.out _))).mono ?_;rintro e x ⟨rfl,rfl⟩;rw[hb2])
     |(go_at_call_of 29 (Value.slice a3 n3 k3);refine(i_words a3 n3 k3 H.out _ (HM.out.o.rn.stay (by first|exact B1.out|exact al B1.out _))).mono ?_;rintro e x ⟨rfl,rfl⟩;rw[hb3])
     |(go_at_call 29;refine(i_words _ 1 1 [H.pc] _ (one_rn _ _ (by simp))).mono ?_;rintro e x ⟨rfl,rfl⟩;rw[one_all,hbp])
     |(go_at_call 30;refine(i_allStand _ k1 H.csr _ (HM.out.c.rn.stay (al B1.out _)) CW.out).mono ?_;rintro e x ⟨rfl,rfl⟩;rw[hst]))
  go_ret
  exact⟨ret_i (hf_words FM.out HN.out).symm,by first|exact B1.out|exact al B1.out _⟩
 have WM:Hid (H.words=true):=by show _=_;simp[Ht.words,hb0,hbp,hb1,hb2,hb3]
 have CW:=hid hb1
 by_cases hn2:n2≤40
 case neg=>
  have HN:Hid (¬(H.inn.length≤40∧H.out.length≤40)):=fun k=>hn2 (by have:=EL.out.2.2.1;omega)
  have hI:(40:Int)<(n2:Int):=by omega
  go_enter Tryz.func10,Tryz.ntmps10
  go_wp2_with (first
     |(go_at_call_of 29 (Value.slice (some ⟨y0,0,none⟩) 16 k0);refine(i_words (some ⟨y0,0,none⟩) 16 k0 H.regs _ (HM.out.r.rn.stay (by first|exact B1.out|exact al B1.out _))).mono ?_;rintro e x ⟨rfl,rfl⟩;rw[hb0])
     |(go_at_call_of 29 (Value.slice (some ⟨y1,0,none⟩) 11 k1);refine(i_words (some ⟨y1,0,none⟩) 11 k1 H.csr _ (HM.out.c.rn.stay (by first|exact B1.out|exact al B1.out _))).mono ?_;rintro e x ⟨rfl,rfl⟩;rw[hb1])
     |(go_at_call_of 29 (Value.slice a2 n2 k2);refine(i_words a2 n2 k2 H.inn _ (HM.out.i.rn.stay (by first|exact B1.out|exact al B1.out _))).mono ?_;rintro e x ⟨rfl,rfl⟩;rw[hb2])
     |(go_at_call_of 29 (Value.slice a3 n3 k3);refine(i_words a3 n3 k3 H.out _ (HM.out.o.rn.stay (by first|exact B1.out|exact al B1.out _))).mono ?_;rintro e x ⟨rfl,rfl⟩;rw[hb3])
     |(go_at_call 29;refine(i_words _ 1 1 [H.pc] _ (one_rn _ _ (by simp))).mono ?_;rintro e x ⟨rfl,rfl⟩;rw[one_all,hbp])
     |(go_at_call 30;refine(i_allStand _ k1 H.csr _ (HM.out.c.rn.stay (al B1.out _)) CW.out).mono ?_;rintro e x ⟨rfl,rfl⟩;rw[hst]))
  go_ret
  exact⟨ret_i (hf_few FM.out WM.out HN.out).symm,by first|exact B1.out|exact al B1.out _⟩
 have hI2:¬(40:Int)<(n2:Int):=by omega
 by_cases hn3:n3≤40
 case neg=>
  have HN:Hid (¬(H.inn.length≤40∧H.out.length≤40)):=fun k=>hn3 (by have:=EL.out.2.2.2;omega)
  have hI:(40:Int)<(n3:Int):=by omega
  go_enter Tryz.func10,Tryz.ntmps10
  go_wp2_with (first
     |(go_at_call_of 29 (Value.slice (some ⟨y0,0,none⟩) 16 k0);refine(i_words (some ⟨y0,0,none⟩) 16 k0 H.regs _ (HM.out.r.rn.stay (by first|exact B1.out|exact al B1.out _))).mono ?_;rintro e x ⟨rfl,rfl⟩;rw[hb0])
     |(go_at_call_of 29 (Value.slice (some ⟨y1,0,none⟩) 11 k1);refine(i_words (some ⟨y1,0,none⟩) 11 k1 H.csr _ (HM.out.c.rn.stay (by first|exact B1.out|exact al B1.out _))).mono ?_;rintro e x ⟨rfl,rfl⟩;rw[hb1])
     |(go_at_call_of 29 (Value.slice a2 n2 k2);refine(i_words a2 n2 k2 H.inn _ (HM.out.i.rn.stay (by first|exact B1.out|exact al B1.out _))).mono ?_;rintro e x ⟨rfl,rfl⟩;rw[hb2])
     |(go_at_call_of 29 (Value.slice a3 n3 k3);refine(i_words a3 n3 k3 H.out _ (HM.out.o.rn.stay (by first|exact B1.out|exact al B1.out _))).mono ?_;rintro e x ⟨rfl,rfl⟩;rw[hb3])
     |(go_at_call 29;refine(i_words _ 1 1 [H.pc] _ (one_rn _ _ (by simp))).mono ?_;rintro e x ⟨rfl,rfl⟩;rw[one_all,hbp])
     |(go_at_call 30;refine(i_allStand _ k1 H.csr _ (HM.out.c.rn.stay (al B1.out _)) CW.out).mono ?_;rintro e x ⟨rfl,rfl⟩;rw[hst]))
  go_ret
  exact⟨ret_i (hf_few FM.out WM.out HN.out).symm,by first|exact B1.out|exact al B1.out _⟩
 have hI3:¬(40:Int)<(n3:Int):=by omega
 have FW:Hid (H.inn.length≤40∧H.out.length≤40):=⟨by have:=EL.out.2.2.1;omega,by have:=EL.out.2.2.2;omega⟩
 by_cases hd0:0≤H.done
 case neg=>
  have HN:Hid (¬(0≤H.done∧H.done≤1000000000)):=fun k=>hd0 k.1
  have hI:H.done<0:=by omega
  go_enter Tryz.func10,Tryz.ntmps10
  go_wp2_with (first
     |(go_at_call_of 29 (Value.slice (some ⟨y0,0,none⟩) 16 k0);refine(i_words (some ⟨y0,0,none⟩) 16 k0 H.regs _ (HM.out.r.rn.stay (by first|exact B1.out|exact al B1.out _))).mono ?_;rintro e x ⟨rfl,rfl⟩;rw[hb0])
     |(go_at_call_of 29 (Value.slice (some ⟨y1,0,none⟩) 11 k1);refine(i_words (some ⟨y1,0,none⟩) 11 k1 H.csr _ (HM.out.c.rn.stay (by first|exact B1.out|exact al B1.out _))).mono ?_;rintro e x ⟨rfl,rfl⟩;rw[hb1])
     |(go_at_call_of 29 (Value.slice a2 n2 k2);refine(i_words a2 n2 k2 H.inn _ (HM.out.i.rn.stay (by first|exact B1.out|exact al B1.out _))).mono ?_;rintro e x ⟨rfl,rfl⟩;rw[hb2])
     |(go_at_call_of 29 (Value.slice a3 n3 k3);refine(i_words a3 n3 k3 H.out _ (HM.out.o.rn.stay (by first|exact B1.out|exact al B1.out _))).mono ?_;rintro e x ⟨rfl,rfl⟩;rw[hb3])
     |(go_at_call 29;refine(i_words _ 1 1 [H.pc] _ (one_rn _ _ (by simp))).mono ?_;rintro e x ⟨rfl,rfl⟩;rw[one_all,hbp])
     |(go_at_call 30;refine(i_allStand _ k1 H.csr _ (HM.out.c.rn.stay (al B1.out _)) CW.out).mono ?_;rintro e x ⟨rfl,rfl⟩;rw[hst]))
  go_ret
  exact⟨ret_i (hf_nice FM.out WM.out FW.out HN.out).symm,by first|exact B1.out|exact al B1.out _⟩
 have hI4:¬H.done<0:=by omega
 by_cases hd9:H.done≤1000000000
 case neg=>
  have HN:Hid (¬(0≤H.done∧H.done≤1000000000)):=fun k=>hd9 k.2
  have hI:1000000000<H.done:=by omega
  go_enter Tryz.func10,Tryz.ntmps10
  go_wp2_with (first
     |(go_at_call_of 29 (Value.slice (some ⟨y0,0,none⟩) 16 k0);refine(i_words (some ⟨y0,0,none⟩) 16 k0 H.regs _ (HM.out.r.rn.stay (by first|exact B1.out|exact al B1.out _))).mono ?_;rintro e x ⟨rfl,rfl⟩;rw[hb0])
     |(go_at_call_of 29 (Value.slice (some ⟨y1,0,none⟩) 11 k1);refine(i_words (some ⟨y1,0,none⟩) 11 k1 H.csr _ (HM.out.c.rn.stay (by first|exact B1.out|exact al B1.out _))).mono ?_;rintro e x ⟨rfl,rfl⟩;rw[hb1])
     |(go_at_call_of 29 (Value.slice a2 n2 k2);refine(i_words a2 n2 k2 H.inn _ (HM.out.i.rn.stay (by first|exact B1.out|exact al B1.out _))).mono ?_;rintro e x ⟨rfl,rfl⟩;rw[hb2])
     |(go_at_call_of 29 (Value.slice a3 n3 k3);refine(i_words a3 n3 k3 H.out _ (HM.out.o.rn.stay (by first|exact B1.out|exact al B1.out _))).mono ?_;rintro e x ⟨rfl,rfl⟩;rw[hb3])
     |(go_at_call 29;refine(i_words _ 1 1 [H.pc] _ (one_rn _ _ (by simp))).mono ?_;rintro e x ⟨rfl,rfl⟩;rw[one_all,hbp])
     |(go_at_call 30;refine(i_allStand _ k1 H.csr _ (HM.out.c.rn.stay (al B1.out _)) CW.out).mono ?_;rintro e x ⟨rfl,rfl⟩;rw[hst]))
  go_ret
  exact⟨ret_i (hf_nice FM.out WM.out FW.out HN.out).symm,by first|exact B1.out|exact al B1.out _⟩
 have hI5:¬1000000000<H.done:=by omega
 have ND:Hid (0≤H.done∧H.done≤1000000000):=⟨hd0,hd9⟩
 cases hst:standC H.csr
 case false=>
  have HN:=hid hst
  go_enter Tryz.func10,Tryz.ntmps10
  go_wp2_with (first
     |(go_at_call_of 29 (Value.slice (some ⟨y0,0,none⟩) 16 k0);refine(i_words (some ⟨y0,0,none⟩) 16 k0 H.regs _ (HM.out.r.rn.stay (by first|exact B1.out|exact al B1.out _))).mono ?_;rintro e x ⟨rfl,rfl⟩;rw[hb0])
     |(go_at_call_of 29 (Value.slice (some ⟨y1,0,none⟩) 11 k1);refine(i_words (some ⟨y1,0,none⟩) 11 k1 H.csr _ (HM.out.c.rn.stay (by first|exact B1.out|exact al B1.out _))).mono ?_;rintro e x ⟨rfl,rfl⟩;rw[hb1])
     |(go_at_call_of 29 (Value.slice a2 n2 k2);refine(i_words a2 n2 k2 H.inn _ (HM.out.i.rn.stay (by first|exact B1.out|exact al B1.out _))).mono ?_;rintro e x ⟨rfl,rfl⟩;rw[hb2])
     |(go_at_call_of 29 (Value.slice a3 n3 k3);refine(i_words a3 n3 k3 H.out _ (HM.out.o.rn.stay (by first|exact B1.out|exact al B1.out _))).mono ?_;rintro e x ⟨rfl,rfl⟩;rw[hb3])
     |(go_at_call 29;refine(i_words _ 1 1 [H.pc] _ (one_rn _ _ (by simp))).mono ?_;rintro e x ⟨rfl,rfl⟩;rw[one_all,hbp])
     |(go_at_call 30;refine(i_allStand _ k1 H.csr _ (HM.out.c.rn.stay (al B1.out _)) CW.out).mono ?_;rintro e x ⟨rfl,rfl⟩;rw[hst]))
  go_ret
  exact⟨ret_i ((hf_stand FM.out WM.out FW.out ND.out).trans (by rw[HN.out];rfl)).symm,by first|exact B1.out|exact al B1.out _⟩
 have HN:=hid hst
 go_enter Tryz.func10,Tryz.ntmps10
 go_wp2_with (first
    |(go_at_call_of 29 (Value.slice (some ⟨y0,0,none⟩) 16 k0);refine(i_words (some ⟨y0,0,none⟩) 16 k0 H.regs _ (HM.out.r.rn.stay (by first|exact B1.out|exact al B1.out _))).mono ?_;rintro e x ⟨rfl,rfl⟩;rw[hb0])
    |(go_at_call_of 29 (Value.slice (some ⟨y1,0,none⟩) 11 k1);refine(i_words (some ⟨y1,0,none⟩) 11 k1 H.csr _ (HM.out.c.rn.stay (by first|exact B1.out|exact al B1.out _))).mono ?_;rintro e x ⟨rfl,rfl⟩;rw[hb1])
    |(go_at_call_of 29 (Value.slice a2 n2 k2);refine(i_words a2 n2 k2 H.inn _ (HM.out.i.rn.stay (by first|exact B1.out|exact al B1.out _))).mono ?_;rintro e x ⟨rfl,rfl⟩;rw[hb2])
    |(go_at_call_of 29 (Value.slice a3 n3 k3);refine(i_words a3 n3 k3 H.out _ (HM.out.o.rn.stay (by first|exact B1.out|exact al B1.out _))).mono ?_;rintro e x ⟨rfl,rfl⟩;rw[hb3])
    |(go_at_call 29;refine(i_words _ 1 1 [H.pc] _ (one_rn _ _ (by simp))).mono ?_;rintro e x ⟨rfl,rfl⟩;rw[one_all,hbp])
    |(go_at_call 30;refine(i_allStand _ k1 H.csr _ (HM.out.c.rn.stay (al B1.out _)) CW.out).mono ?_;rintro e x ⟨rfl,rfl⟩;rw[hst]))
 go_ret
 exact⟨ret_i ((hf_stand FM.out WM.out FW.out ND.out).trans (by rw[HN.out];rfl)).symm,by first|exact B1.out|exact al B1.out _⟩
end Go.Proofs.YtaefollmeoepkaaGreatDoor
