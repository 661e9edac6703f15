import Derived.Deep.RegionWith
import Derived.Test.YtignbeibcakgpaaGreatDoorQ07
namespace Go.Proofs.YtignbeibcakgpaaGreatDoor
set_option maxRecDepth 20000
set_option maxHeartbeats 16000000
open Go.RowKit
structure Turn(b:Nat)(w w':World):Prop where
 os:w'.os=w.os
 tape:w'.tape=w.tape
 output:w'.output=w.output
 size:w.heap.size≤w'.heap.size
 block:∀k,k<w.heap.size→k≠b→w'.heap[k]? =w.heap[k]?
theorem Turn.refl(b:Nat)(w:World):Turn b w w:=⟨rfl,rfl,rfl,Nat.le_refl _,fun _ _ _=>rfl⟩
theorem Turn.trans{b:Nat}{x y z:World}(h:Turn b x y)(k:Turn b y z):Turn b x z:=
 ⟨k.os.trans h.os,k.tape.trans h.tape,k.output.trans h.output,Nat.le_trans h.size k.size,fun i hi hb=>(k.block i (Nat.lt_of_lt_of_le hi h.size) hb).trans (h.block i hi hb)⟩
theorem Turn.below{b B:Nat}{w w':World}(h:Turn b w w')(h1:B≤b)(h2:B≤w.heap.size):Below B w w':=
 ⟨h.os,h.tape,h.output,h.size,fun k hk=>h.block k (by omega) (by omega)⟩
variable{b:Nat}{w w':World}
theorem Turn.of_below(h:Below w.heap.size w w'):Turn b w w':=
 ⟨h.os,h.tape,h.output,h.size,fun k hk _=>h.block k hk⟩
theorem Turn.alloc(b:Nat)(w:World)(o:Obj):Turn b w (w.alloc o):=Turn.of_below ((Below.refl _ _).alloc (Nat.le_refl _) o)
theorem Turn.set(b o:Nat)(w:World)(v:Value)(nq:Nat):Turn b w ((w.setCell ⟨b,o,none⟩ v).drewN nq):=
 ⟨rfl,rfl,rfl,by simp[World.setCell,World.drewN],fun k _ hk=>Below.heap_setCell w ⟨b,o,none⟩ v k hk⟩
theorem Turn.cell(h:Turn b w w'){p:Addr}(hp:p.block<w.heap.size)(hb:p.block≠b):w'.cell? p=w.cell? p:=
 World.cell?_of_block (w:=w) (h.block p.block hp hb)
theorem Turn.frozen(h:Turn b w w'){p:Addr}(hp:p.block<w.heap.size)(hb:p.block≠b):w'.frozen? p=w.frozen? p:=
 World.frozen?_of_block (w:=w) (h.block p.block hp hb)
theorem tmod_in{x n:Int}(hx:0≤x)(hn:1≤n):0≤x.tmod n∧x.tmod n<n:=by
 rw[Int.tmod_eq_emod_of_nonneg hx]
 exact⟨Int.emod_nonneg _ (by omega),Int.emod_lt_of_pos _ (by omega)⟩
theorem wrap64_id{n:Int}(h: -9223372036854775808≤n∧n≤9223372036854775807):wrap64 n=n:=by unfold wrap64;omega
theorem quot_in{k len:Int}(hk:0≤k∧k≤100000)(hl:1≤len):0≤k/len∧k/len≤100000:=
 ⟨Int.ediv_nonneg hk.1 (by omega),Int.le_trans (Int.ediv_le_self _ hk.1) hk.2⟩
theorem next_val{z k len:Int}(hz:0≤z∧z≤255)(hk:0≤k∧k≤100000)(hl:1≤len):
  0≤wrap64 (wrap64 z+wrap64 (wrap64 (k/len)*37))∧wrap64 (wrap64 z+wrap64 (wrap64 (k/len)*37))≤3700255:=by
 have h:=quot_in hk hl
 generalize k/len=q at h
 rw[wrap64_id (n:=z) (by omega),wrap64_id (n:=q) (by omega),wrap64_id (n:=q*37) (by omega),wrap64_id (by omega)]
 omega
theorem next_val2{v z k:Int}(hv:0≤v∧v≤3700255)(hz:0≤z∧z≤255)(hk:0≤k∧k≤100000):
  0≤wrap64 (wrap64 (wrap64 (v*251)+wrap64 (wrap64 z*13))+k):=by
 rw[wrap64_id (n:=z) (by omega),wrap64_id (n:=v*251) (by omega),wrap64_id (n:=z*13) (by omega),wrap64_id (n:=v*251+z*13) (by omega),wrap64_id (by omega)]
 omega
theorem next_none(b:Nat)(k:Nat)(n:Int)(w:World)(hk:k≤100000)(hn:n<1)
  (h1:w.cell? ⟨b,1,none⟩=some (.int .i64 k)) (hfz:w.frozen? ⟨b,1,none⟩=false):
  Calls Tryz.prog 36 #[.pointer (some ⟨b,0,none⟩),.int .i64 n] w fun e w'=>∃v:Int,e=.returned (.int .i64 v)∧v=0∧∃nq:Nat,w'=(w.setCell ⟨b,1,none⟩ (.int .i64 (k+1))).drewN nq:=by
 go_enter Tryz.func36,Tryz.ntmps36
 go_wp2
 go_ret
 exact⟨0,rfl,rfl,0,rfl⟩
theorem next_nil(b:Nat)(a:Option Addr)(cap:Nat)(k:Nat)(n:Int)(w:World)(hk:k≤100000)(hn:1≤n)
  (h0:w.cell? ⟨b,0,none⟩=some (.slice a 0 cap))
  (h1:w.cell? ⟨b,1,none⟩=some (.int .i64 k)) (hfz:w.frozen? ⟨b,1,none⟩=false):
  Calls Tryz.prog 36 #[.pointer (some ⟨b,0,none⟩),.int .i64 n] w fun e w'=>∃v:Int,e=.returned (.int .i64 v)∧(0≤v∧v<n)∧∃nq:Nat,w'=(w.setCell ⟨b,1,none⟩ (.int .i64 (k+1))).drewN nq:=by
 have g1:¬n<1:=by omega
 have g2:¬n=0:=by omega
 go_enter Tryz.func36,Tryz.ntmps36
 go_wp2
 go_ret
 exact⟨_,rfl,⟨Int.emod_nonneg _ (by omega),Int.emod_lt_of_pos _ (by omega)⟩,0,rfl⟩
theorem next_row(b bx off len cap:Nat)(k:Nat)(n:Int)(w:World)(zs:List Int)
  (hk:k≤100000) (hn:1≤n) (hl:0<len) (hl2:len≤maxLen)
  (hb:bx<b)
  (h0:w.cell? ⟨b,0,none⟩=some (.slice (some ⟨bx,off,none⟩) len cap))
  (h1:w.cell? ⟨b,1,none⟩=some (.int .i64 k))
  (hfz:w.frozen? ⟨b,1,none⟩=false)
  (hc:∀i,i<len→w.cell? ⟨bx,off+i,none⟩=some (.int .u8 (zs.getD i 0)))
  (hz:∀i:Nat,0≤zs[i]?.getD 0∧zs[i]?.getD 0≤255):
  Calls Tryz.prog 36 #[.pointer (some ⟨b,0,none⟩),.int .i64 n] w fun e w'=>∃v:Int,e=.returned (.int .i64 v)∧(0≤v∧v<n)∧∃nq:Nat,w'=(w.setCell ⟨b,1,none⟩ (.int .i64 (k+1))).drewN nq:=by
 unfold maxLen at hl2
 have hl3:(0:Int)<(len:Int):=by omega
 have hne:((len:Int)==0)=false:=by simp;omega
 have g1:¬n<1:=by omega
 have e1:(0:Int)≤(k:Int)%(len:Int):=Int.emod_nonneg _ (by omega)
 have e2:(k:Int)%(len:Int)<(len:Int):=Int.emod_lt_of_pos _ hl3
 have e3:(0:Int)≤((k:Int)+1)%(len:Int):=Int.emod_nonneg _ (by omega)
 have e4:((k:Int)+1)%(len:Int)<(len:Int):=Int.emod_lt_of_pos _ hl3
 have hcx:=hc (k%len) (Nat.mod_lt _ hl)
 have hcy:=hc ((k+1)%len) (Nat.mod_lt _ hl)
 have HZ:=hid hz
 clear hz hc
 by_cases g2:n≤200
 ·have g3:¬200<n:=by omega
  go_enter Tryz.func36,Tryz.ntmps36
  go_wp2_with fail
  go_quiet (fail)
  go_wp2
  go_ret
  exact⟨_,rfl,tmod_in (next_val (HZ.out _) (by omega) (by omega)).1 hn,_,rfl⟩
 ·have g3:200<n:=by omega
  go_enter Tryz.func36,Tryz.ntmps36
  go_wp2_with fail
  go_quiet (fail)
  go_wp2_with fail
  go_quiet (fail)
  go_wp2
  go_ret
  exact⟨_,rfl,tmod_in (next_val2 (next_val (HZ.out _) (by omega) (by omega)) (HZ.out _) (by omega)) hn,_,rfl⟩
set_option linter.unusedVariables false
theorem one_all(z:Int): [z].all isW=isW z:=by simp
theorem one_rn(w:World)(z:Int){t:TypeId}{q:Nat}(hq:q=w.heap.size):Rn (w.alloc (.cells #[.int .i64 z] t)) (some ⟨q,0,none⟩) 1 1 [z]:=by
 subst hq
 refine .inr ⟨_,rfl,by decide,by decide,rfl,fun i hi=>?_⟩
 obtain rfl:i=0:=by omega
 rw[show(⟨w.heap.size,0,none⟩:Addr).add 0=⟨w.heap.size,0,none⟩ by rw[Addr.add_lit]]
 exact cell_new rfl
theorem i_fault(r c i o:Value)(H:Ht)(b:Nat)(w:World)(h:Hm w b r c i o H):
  Calls Tryz.prog 43 #[.agg #[r,.int .i64 H.pc,c,.bool H.halted,.bool H.waiting,.bool H.rung,.int .i64 H.done,i,o]] w fun e w'=>e=.returned (.int .i64 (hfV H))∧Below w.heap.size w w':=by
 have HM:=hid h
 obtain⟨a0,k0,h0,_,_,g0⟩:=h.r.shape
 obtain⟨a1,k1,h1,_,_,g1⟩:=h.c.shape
 obtain⟨a2,k2,h2,_,l2,_⟩:=h.i.shape
 obtain⟨a3,k3,h3,_,l3,_⟩:=h.o.shape
 have R0:=h.r.rv
 obtain⟨n0,e0⟩:∃n,H.regs.length=n:=⟨_,rfl⟩
 obtain⟨n1,e1⟩:∃n,H.csr.length=n:=⟨_,rfl⟩
 obtain⟨n2,e2⟩:∃n,H.inn.length=n:=⟨_,rfl⟩
 obtain⟨n3,e3⟩:∃n,H.out.length=n:=⟨_,rfl⟩
 rw[e0]at h0 g0
 rw[e1]at h1 g1
 rw[e2]at h2
 rw[e3]at h3
 have EL:Hid (H.regs.length=n0∧H.csr.length=n1∧H.inn.length=n2∧H.out.length=n3):=⟨e0,e1,e2,e3⟩
 subst h0 h1 h2 h3
 have hl2:(n2:Int)≤9223372036854775807:=by have:=h.i.lens;unfold maxLen at this;omega
 have hl3:(n3:Int)≤9223372036854775807:=by have:=h.o.lens;unfold maxLen at this;omega
 have hl0:(n0:Int)≤9223372036854775807:=by have:=h.r.lens;unfold maxLen at this;omega
 have hl1:(n1:Int)≤9223372036854775807:=by have:=h.c.lens;unfold maxLen at this;omega
 clear h e0 e1 e2 e3 l2 l3 R0
 have B1:Hid (Below w.heap.size w (w.alloc (.cells #[.slice a0 n0 k0,.int .i64 H.pc,.slice a1 n1 k1,.bool H.halted,.bool H.waiting,.bool H.rung,.int .i64 H.done,.slice a2 n2 k2,.slice a3 n3 k3] 47))):=al (Below.refl _ _) _
 by_cases hn0:n0=16
 case neg=>
  have HN:Hid (¬(H.regs.length=16∧H.csr.length=11∧H.regs.getD 0 0=0)):=fun k=>hn0 (EL.out.1.symm.trans k.1)
  have hI:¬(n0:Int)=16:=by omega
  go_enter Tryz.func43,Tryz.ntmps43
  go_wp2_with fail
  go_ret
  exact⟨ret_i (hf_form HN.out).symm,by first|exact B1.out|exact al B1.out _⟩
 subst hn0
 obtain⟨y0,rfl⟩:=g0 (by decide)
 clear g0
 by_cases hn1:n1=11
 case neg=>
  have HN:Hid (¬(H.regs.length=16∧H.csr.length=11∧H.regs.getD 0 0=0)):=fun k=>hn1 (EL.out.2.1.symm.trans k.2.1)
  have hI:¬(n1:Int)=11:=by omega
  go_enter Tryz.func43,Tryz.ntmps43
  go_wp2_with fail
  go_ret
  exact⟨ret_i (hf_form HN.out).symm,by first|exact B1.out|exact al B1.out _⟩
 subst hn1
 obtain⟨y1,rfl⟩:=g1 (by decide)
 clear g1
 obtain⟨z0,hz0⟩:∃z,H.regs.getD 0 0=z:=⟨_,rfl⟩
 have cz:(w.alloc (.cells #[.slice (some ⟨y0,0,none⟩) 16 k0,.int .i64 H.pc,.slice (some ⟨y1,0,none⟩) 11 k1,.bool H.halted,.bool H.waiting,.bool H.rung,.int .i64 H.done,.slice a2 n2 k2,.slice a3 n3 k3] 47)).cell? ⟨y0,0,none⟩=some (.int .i64 z0):=by rw[←hz0];exact cell_push _ (HM.out.r.cell EL.out.1.symm 0 (by decide))
 have Y0:Hid (y0<w.heap.size):=block_of_cell (HM.out.r.cell EL.out.1.symm 0 (by decide))
 have Y1:Hid (y1<w.heap.size):=block_of_cell (HM.out.c.cell EL.out.2.1.symm 0 (by decide))
 have y0lt:y0<w.heap.size:=Y0.out
 have y1lt:y1<w.heap.size:=Y1.out
 have HZ0:=hid hz0
 clear hz0
 by_cases hr0:z0=0
 case neg=>
  have HN:Hid (¬(H.regs.length=16∧H.csr.length=11∧H.regs.getD 0 0=0)):=fun k=>hr0 (HZ0.out.symm.trans k.2.2)
  go_enter Tryz.func43,Tryz.ntmps43
  go_wp2_with fail
  go_ret
  exact⟨ret_i (hf_form HN.out).symm,by first|exact B1.out|exact al B1.out _⟩
 have FM:Hid (H.regs.length=16∧H.csr.length=11∧H.regs.getD 0 0=0):=⟨EL.out.1,EL.out.2.1,HZ0.out.trans hr0⟩
 subst hr0
 cases hb0:H.regs.all isW
 case false=>
  have HN:Hid (H.words=false):=by show _=_;simp[Ht.words,hb0]
  go_enter Tryz.func43,Tryz.ntmps43
  go_wp2_with (first
     |(go_at_call_of 39 (Value.slice (some ⟨y0,0,none⟩) 16 k0);refine(i_words (some ⟨y0,0,none⟩) 16 k0 H.regs _ (HM.out.r.rn.stay (by first|exact B1.out|exact al B1.out _))).mono ?_;rintro e x ⟨rfl,rfl⟩;rw[hb0])
     |(go_at_call_of 39 (Value.slice (some ⟨y1,0,none⟩) 11 k1);refine(i_words (some ⟨y1,0,none⟩) 11 k1 H.csr _ (HM.out.c.rn.stay (by first|exact B1.out|exact al B1.out _))).mono ?_;rintro e x ⟨rfl,rfl⟩;rw[hb1])
     |(go_at_call_of 39 (Value.slice a2 n2 k2);refine(i_words a2 n2 k2 H.inn _ (HM.out.i.rn.stay (by first|exact B1.out|exact al B1.out _))).mono ?_;rintro e x ⟨rfl,rfl⟩;rw[hb2])
     |(go_at_call_of 39 (Value.slice a3 n3 k3);refine(i_words a3 n3 k3 H.out _ (HM.out.o.rn.stay (by first|exact B1.out|exact al B1.out _))).mono ?_;rintro e x ⟨rfl,rfl⟩;rw[hb3])
     |(go_at_call 39;refine(i_words _ 1 1 [H.pc] _ (one_rn _ _ (by simp))).mono ?_;rintro e x ⟨rfl,rfl⟩;rw[one_all,hbp])
     |(go_at_call 70;refine(i_allStand _ k1 H.csr _ (HM.out.c.rn.stay (al B1.out _)) CW.out).mono ?_;rintro e x ⟨rfl,rfl⟩;rw[hst]))
  go_ret
  exact⟨ret_i (hf_words FM.out HN.out).symm,by first|exact B1.out|exact al B1.out _⟩
 cases hbp:isW H.pc
 case false=>
  have HN:Hid (H.words=false):=by show _=_;simp[Ht.words,hbp]
  go_enter Tryz.func43,Tryz.ntmps43
  go_wp2_with (first
     |(go_at_call_of 39 (Value.slice (some ⟨y0,0,none⟩) 16 k0);refine(i_words (some ⟨y0,0,none⟩) 16 k0 H.regs _ (HM.out.r.rn.stay (by first|exact B1.out|exact al B1.out _))).mono ?_;rintro e x ⟨rfl,rfl⟩;rw[hb0])
     |(go_at_call_of 39 (Value.slice (some ⟨y1,0,none⟩) 11 k1);refine(i_words (some ⟨y1,0,none⟩) 11 k1 H.csr _ (HM.out.c.rn.stay (by first|exact B1.out|exact al B1.out _))).mono ?_;rintro e x ⟨rfl,rfl⟩;rw[hb1])
     |(go_at_call_of 39 (Value.slice a2 n2 k2);refine(i_words a2 n2 k2 H.inn _ (HM.out.i.rn.stay (by first|exact B1.out|exact al B1.out _))).mono ?_;rintro e x ⟨rfl,rfl⟩;rw[hb2])
     |(go_at_call_of 39 (Value.slice a3 n3 k3);refine(i_words a3 n3 k3 H.out _ (HM.out.o.rn.stay (by first|exact B1.out|exact al B1.out _))).mono ?_;rintro e x ⟨rfl,rfl⟩;rw[hb3])
     |(go_at_call 39;refine(i_words _ 1 1 [H.pc] _ (one_rn _ _ (by simp))).mono ?_;rintro e x ⟨rfl,rfl⟩;rw[one_all,hbp])
     |(go_at_call 70;refine(i_allStand _ k1 H.csr _ (HM.out.c.rn.stay (al B1.out _)) CW.out).mono ?_;rintro e x ⟨rfl,rfl⟩;rw[hst]))
  go_ret
  exact⟨ret_i (hf_words FM.out HN.out).symm,by first|exact B1.out|exact al B1.out _⟩
 cases hb1:H.csr.all isW
 case false=>
  have HN:Hid (H.words=false):=by show _=_;simp[Ht.words,hb1]
  go_enter Tryz.func43,Tryz.ntmps43
  go_wp2_with (first
     |(go_at_call_of 39 (Value.slice (some ⟨y0,0,none⟩) 16 k0);refine(i_words (some ⟨y0,0,none⟩) 16 k0 H.regs _ (HM.out.r.rn.stay (by first|exact B1.out|exact al B1.out _))).mono ?_;rintro e x ⟨rfl,rfl⟩;rw[hb0])
     |(go_at_call_of 39 (Value.slice (some ⟨y1,0,none⟩) 11 k1);refine(i_words (some ⟨y1,0,none⟩) 11 k1 H.csr _ (HM.out.c.rn.stay (by first|exact B1.out|exact al B1.out _))).mono ?_;rintro e x ⟨rfl,rfl⟩;rw[hb1])
     |(go_at_call_of 39 (Value.slice a2 n2 k2);refine(i_words a2 n2 k2 H.inn _ (HM.out.i.rn.stay (by first|exact B1.out|exact al B1.out _))).mono ?_;rintro e x ⟨rfl,rfl⟩;rw[hb2])
     |(go_at_call_of 39 (Value.slice a3 n3 k3);refine(i_words a3 n3 k3 H.out _ (HM.out.o.rn.stay (by first|exact B1.out|exact al B1.out _))).mono ?_;rintro e x ⟨rfl,rfl⟩;rw[hb3])
     |(go_at_call 39;refine(i_words _ 1 1 [H.pc] _ (one_rn _ _ (by simp))).mono ?_;rintro e x ⟨rfl,rfl⟩;rw[one_all,hbp])
     |(go_at_call 70;refine(i_allStand _ k1 H.csr _ (HM.out.c.rn.stay (al B1.out _)) CW.out).mono ?_;rintro e x ⟨rfl,rfl⟩;rw[hst]))
  go_ret
  exact⟨ret_i (hf_words FM.out HN.out).symm,by first|exact B1.out|exact al B1.out _⟩
 cases hb2:H.inn.all isW
 case false=>
  have HN:Hid (H.words=false):=by show _=_;simp[Ht.words,hb2]
  go_enter Tryz.func43,Tryz.ntmps43
  go_wp2_with (first
     |(go_at_call_of 39 (Value.slice (some ⟨y0,0,none⟩) 16 k0);refine(i_words (some ⟨y0,0,none⟩) 16 k0 H.regs _ (HM.out.r.rn.stay (by first|exact B1.out|exact al B1.out _))).mono ?_;rintro e x ⟨rfl,rfl⟩;rw[hb0])
     |(go_at_call_of 39 (Value.slice (some ⟨y1,0,none⟩) 11 k1);refine(i_words (some ⟨y1,0,none⟩) 11 k1 H.csr _ (HM.out.c.rn.stay (by first|exact B1.out|exact al B1.out _))).mono ?_;rintro e x ⟨rfl,rfl⟩;rw[hb1])
     |(go_at_call_of 39 (Value.slice a2 n2 k2);refine(i_words a2 n2 k2 H.inn _ (HM.out.i.rn.stay (by first|exact B1.out|exact al B1.out _))).mono ?_;rintro e x ⟨rfl,rfl⟩;rw[hb2])
     |(go_at_call_of 39 (Value.slice a3 n3 k3);refine(i_words a3 n3 k3 H.out _ (HM.out.o.rn.stay (by first|exact B1.out|exact al B1.out _))).mono ?_;rintro e x ⟨rfl,rfl⟩;rw[hb3])
     |(go_at_call 39;refine(i_words _ 1 1 [H.pc] _ (one_rn _ _ (by simp))).mono ?_;rintro e x ⟨rfl,rfl⟩;rw[one_all,hbp])
     |(go_at_call 70;refine(i_allStand _ k1 H.csr _ (HM.out.c.rn.stay (al B1.out _)) CW.out).mono ?_;rintro e x ⟨rfl,rfl⟩;rw[hst]))
  go_ret
  exact⟨ret_i (hf_words FM.out HN.out).symm,by first|exact B1.out|exact al B1.out _⟩
 cases hb3:H.out.all isW
 case false=>
  have HN:Hid (H.words=false):=by show _=_;simp[Ht.words,hb3]
  go_enter Tryz.func43,Tryz.ntmps43
  go_wp2_with (first
     |(go_at_call_of 39 (Value.slice (some ⟨y0,0,none⟩) 16 k0);refine(i_words (some ⟨y0,0,none⟩) 16 k0 H.regs _ (HM.out.r.rn.stay (by first|exact B1.out|exact al B1.out _))).mono ?_;rintro e x ⟨rfl,rfl⟩;rw[hb0])
     |(go_at_call_of 39 (Value.slice (some ⟨y1,0,none⟩) 11 k1);refine(i_words (some ⟨y1,0,none⟩) 11 k1 H.csr _ (HM.out.c.rn.stay (by first|exact B1.out|exact al B1.out _))).mono ?_;rintro e x ⟨rfl,rfl⟩;rw[hb1])
     |(go_at_call_of 39 (Value.slice a2 n2 k2);refine(i_words a2 n2 k2 H.inn _ (HM.out.i.rn.stay (by first|exact B1.out|exact al B1.out _))).mono ?_;rintro e x ⟨rfl,rfl⟩;rw[hb2])
     |(go_at_call_of 39 (Value.slice a3 n3 k3);refine(i_words a3 n3 k3 H.out _ (HM.out.o.rn.stay (by first|exact B1.out|exact al B1.out _))).mono ?_;rintro e x ⟨rfl,rfl⟩;rw[hb3])
     |(go_at_call 39;refine(i_words _ 1 1 [H.pc] _ (one_rn _ _ (by simp))).mono ?_;rintro e x ⟨rfl,rfl⟩;rw[one_all,hbp])
     |(go_at_call 70;refine(i_allStand _ k1 H.csr _ (HM.out.c.rn.stay (al B1.out _)) CW.out).mono ?_;rintro e x ⟨rfl,rfl⟩;rw[hst]))
  go_ret
  exact⟨ret_i (hf_words FM.out HN.out).symm,by first|exact B1.out|exact al B1.out _⟩
 have WM:Hid (H.words=true):=by show _=_;simp[Ht.words,hb0,hbp,hb1,hb2,hb3]
 have CW:=hid hb1
 by_cases hn2:n2≤40
 case neg=>
  have HN:Hid (¬(H.inn.length≤40∧H.out.length≤40)):=fun k=>hn2 (by have:=EL.out.2.2.1;omega)
  have hI:(40:Int)<(n2:Int):=by omega
  go_enter Tryz.func43,Tryz.ntmps43
  go_wp2_with (first
     |(go_at_call_of 39 (Value.slice (some ⟨y0,0,none⟩) 16 k0);refine(i_words (some ⟨y0,0,none⟩) 16 k0 H.regs _ (HM.out.r.rn.stay (by first|exact B1.out|exact al B1.out _))).mono ?_;rintro e x ⟨rfl,rfl⟩;rw[hb0])
     |(go_at_call_of 39 (Value.slice (some ⟨y1,0,none⟩) 11 k1);refine(i_words (some ⟨y1,0,none⟩) 11 k1 H.csr _ (HM.out.c.rn.stay (by first|exact B1.out|exact al B1.out _))).mono ?_;rintro e x ⟨rfl,rfl⟩;rw[hb1])
     |(go_at_call_of 39 (Value.slice a2 n2 k2);refine(i_words a2 n2 k2 H.inn _ (HM.out.i.rn.stay (by first|exact B1.out|exact al B1.out _))).mono ?_;rintro e x ⟨rfl,rfl⟩;rw[hb2])
     |(go_at_call_of 39 (Value.slice a3 n3 k3);refine(i_words a3 n3 k3 H.out _ (HM.out.o.rn.stay (by first|exact B1.out|exact al B1.out _))).mono ?_;rintro e x ⟨rfl,rfl⟩;rw[hb3])
     |(go_at_call 39;refine(i_words _ 1 1 [H.pc] _ (one_rn _ _ (by simp))).mono ?_;rintro e x ⟨rfl,rfl⟩;rw[one_all,hbp])
     |(go_at_call 70;refine(i_allStand _ k1 H.csr _ (HM.out.c.rn.stay (al B1.out _)) CW.out).mono ?_;rintro e x ⟨rfl,rfl⟩;rw[hst]))
  go_ret
  exact⟨ret_i (hf_few FM.out WM.out HN.out).symm,by first|exact B1.out|exact al B1.out _⟩
 have hI2:¬(40:Int)<(n2:Int):=by omega
 by_cases hn3:n3≤40
 case neg=>
  have HN:Hid (¬(H.inn.length≤40∧H.out.length≤40)):=fun k=>hn3 (by have:=EL.out.2.2.2;omega)
  have hI:(40:Int)<(n3:Int):=by omega
  go_enter Tryz.func43,Tryz.ntmps43
  go_wp2_with (first
     |(go_at_call_of 39 (Value.slice (some ⟨y0,0,none⟩) 16 k0);refine(i_words (some ⟨y0,0,none⟩) 16 k0 H.regs _ (HM.out.r.rn.stay (by first|exact B1.out|exact al B1.out _))).mono ?_;rintro e x ⟨rfl,rfl⟩;rw[hb0])
     |(go_at_call_of 39 (Value.slice (some ⟨y1,0,none⟩) 11 k1);refine(i_words (some ⟨y1,0,none⟩) 11 k1 H.csr _ (HM.out.c.rn.stay (by first|exact B1.out|exact al B1.out _))).mono ?_;rintro e x ⟨rfl,rfl⟩;rw[hb1])
     |(go_at_call_of 39 (Value.slice a2 n2 k2);refine(i_words a2 n2 k2 H.inn _ (HM.out.i.rn.stay (by first|exact B1.out|exact al B1.out _))).mono ?_;rintro e x ⟨rfl,rfl⟩;rw[hb2])
     |(go_at_call_of 39 (Value.slice a3 n3 k3);refine(i_words a3 n3 k3 H.out _ (HM.out.o.rn.stay (by first|exact B1.out|exact al B1.out _))).mono ?_;rintro e x ⟨rfl,rfl⟩;rw[hb3])
     |(go_at_call 39;refine(i_words _ 1 1 [H.pc] _ (one_rn _ _ (by simp))).mono ?_;rintro e x ⟨rfl,rfl⟩;rw[one_all,hbp])
     |(go_at_call 70;refine(i_allStand _ k1 H.csr _ (HM.out.c.rn.stay (al B1.out _)) CW.out).mono ?_;rintro e x ⟨rfl,rfl⟩;rw[hst]))
  go_ret
  exact⟨ret_i (hf_few FM.out WM.out HN.out).symm,by first|exact B1.out|exact al B1.out _⟩
 have hI3:¬(40:Int)<(n3:Int):=by omega
 have FW:Hid (H.inn.length≤40∧H.out.length≤40):=⟨by have:=EL.out.2.2.1;omega,by have:=EL.out.2.2.2;omega⟩
 by_cases hd0:0≤H.done
 case neg=>
  have HN:Hid (¬(0≤H.done∧H.done≤1000000000)):=fun k=>hd0 k.1
  have hI:H.done<0:=by omega
  go_enter Tryz.func43,Tryz.ntmps43
  go_wp2_with (first
     |(go_at_call_of 39 (Value.slice (some ⟨y0,0,none⟩) 16 k0);refine(i_words (some ⟨y0,0,none⟩) 16 k0 H.regs _ (HM.out.r.rn.stay (by first|exact B1.out|exact al B1.out _))).mono ?_;rintro e x ⟨rfl,rfl⟩;rw[hb0])
     |(go_at_call_of 39 (Value.slice (some ⟨y1,0,none⟩) 11 k1);refine(i_words (some ⟨y1,0,none⟩) 11 k1 H.csr _ (HM.out.c.rn.stay (by first|exact B1.out|exact al B1.out _))).mono ?_;rintro e x ⟨rfl,rfl⟩;rw[hb1])
     |(go_at_call_of 39 (Value.slice a2 n2 k2);refine(i_words a2 n2 k2 H.inn _ (HM.out.i.rn.stay (by first|exact B1.out|exact al B1.out _))).mono ?_;rintro e x ⟨rfl,rfl⟩;rw[hb2])
     |(go_at_call_of 39 (Value.slice a3 n3 k3);refine(i_words a3 n3 k3 H.out _ (HM.out.o.rn.stay (by first|exact B1.out|exact al B1.out _))).mono ?_;rintro e x ⟨rfl,rfl⟩;rw[hb3])
     |(go_at_call 39;refine(i_words _ 1 1 [H.pc] _ (one_rn _ _ (by simp))).mono ?_;rintro e x ⟨rfl,rfl⟩;rw[one_all,hbp])
     |(go_at_call 70;refine(i_allStand _ k1 H.csr _ (HM.out.c.rn.stay (al B1.out _)) CW.out).mono ?_;rintro e x ⟨rfl,rfl⟩;rw[hst]))
  go_ret
  exact⟨ret_i (hf_nice FM.out WM.out FW.out HN.out).symm,by first|exact B1.out|exact al B1.out _⟩
 have hI4:¬H.done<0:=by omega
 by_cases hd9:H.done≤1000000000
 case neg=>
  have HN:Hid (¬(0≤H.done∧H.done≤1000000000)):=fun k=>hd9 k.2
  have hI:1000000000<H.done:=by omega
  go_enter Tryz.func43,Tryz.ntmps43
  go_wp2_with (first
     |(go_at_call_of 39 (Value.slice (some ⟨y0,0,none⟩) 16 k0);refine(i_words (some ⟨y0,0,none⟩) 16 k0 H.regs _ (HM.out.r.rn.stay (by first|exact B1.out|exact al B1.out _))).mono ?_;rintro e x ⟨rfl,rfl⟩;rw[hb0])
     |(go_at_call_of 39 (Value.slice (some ⟨y1,0,none⟩) 11 k1);refine(i_words (some ⟨y1,0,none⟩) 11 k1 H.csr _ (HM.out.c.rn.stay (by first|exact B1.out|exact al B1.out _))).mono ?_;rintro e x ⟨rfl,rfl⟩;rw[hb1])
     |(go_at_call_of 39 (Value.slice a2 n2 k2);refine(i_words a2 n2 k2 H.inn _ (HM.out.i.rn.stay (by first|exact B1.out|exact al B1.out _))).mono ?_;rintro e x ⟨rfl,rfl⟩;rw[hb2])
     |(go_at_call_of 39 (Value.slice a3 n3 k3);refine(i_words a3 n3 k3 H.out _ (HM.out.o.rn.stay (by first|exact B1.out|exact al B1.out _))).mono ?_;rintro e x ⟨rfl,rfl⟩;rw[hb3])
     |(go_at_call 39;refine(i_words _ 1 1 [H.pc] _ (one_rn _ _ (by simp))).mono ?_;rintro e x ⟨rfl,rfl⟩;rw[one_all,hbp])
     |(go_at_call 70;refine(i_allStand _ k1 H.csr _ (HM.out.c.rn.stay (al B1.out _)) CW.out).mono ?_;rintro e x ⟨rfl,rfl⟩;rw[hst]))
  go_ret
  exact⟨ret_i (hf_nice FM.out WM.out FW.out HN.out).symm,by first|exact B1.out|exact al B1.out _⟩
 have hI5:¬1000000000<H.done:=by omega
 have ND:Hid (0≤H.done∧H.done≤1000000000):=⟨hd0,hd9⟩
 cases hst:standC H.csr
 case false=>
  have HN:=hid hst
  go_enter Tryz.func43,Tryz.ntmps43
  go_wp2_with (first
     |(go_at_call_of 39 (Value.slice (some ⟨y0,0,none⟩) 16 k0);refine(i_words (some ⟨y0,0,none⟩) 16 k0 H.regs _ (HM.out.r.rn.stay (by first|exact B1.out|exact al B1.out _))).mono ?_;rintro e x ⟨rfl,rfl⟩;rw[hb0])
     |(go_at_call_of 39 (Value.slice (some ⟨y1,0,none⟩) 11 k1);refine(i_words (some ⟨y1,0,none⟩) 11 k1 H.csr _ (HM.out.c.rn.stay (by first|exact B1.out|exact al B1.out _))).mono ?_;rintro e x ⟨rfl,rfl⟩;rw[hb1])
     |(go_at_call_of 39 (Value.slice a2 n2 k2);refine(i_words a2 n2 k2 H.inn _ (HM.out.i.rn.stay (by first|exact B1.out|exact al B1.out _))).mono ?_;rintro e x ⟨rfl,rfl⟩;rw[hb2])
     |(go_at_call_of 39 (Value.slice a3 n3 k3);refine(i_words a3 n3 k3 H.out _ (HM.out.o.rn.stay (by first|exact B1.out|exact al B1.out _))).mono ?_;rintro e x ⟨rfl,rfl⟩;rw[hb3])
     |(go_at_call 39;refine(i_words _ 1 1 [H.pc] _ (one_rn _ _ (by simp))).mono ?_;rintro e x ⟨rfl,rfl⟩;rw[one_all,hbp])
     |(go_at_call 70;refine(i_allStand _ k1 H.csr _ (HM.out.c.rn.stay (al B1.out _)) CW.out).mono ?_;rintro e x ⟨rfl,rfl⟩;rw[hst]))
  go_ret
  exact⟨ret_i ((hf_stand FM.out WM.out FW.out ND.out).trans (by rw[HN.out];rfl)).symm,by first|exact B1.out|exact al B1.out _⟩
 have HN:=hid hst
 go_enter Tryz.func43,Tryz.ntmps43
 go_wp2_with (first
    |(go_at_call_of 39 (Value.slice (some ⟨y0,0,none⟩) 16 k0);refine(i_words (some ⟨y0,0,none⟩) 16 k0 H.regs _ (HM.out.r.rn.stay (by first|exact B1.out|exact al B1.out _))).mono ?_;rintro e x ⟨rfl,rfl⟩;rw[hb0])
    |(go_at_call_of 39 (Value.slice (some ⟨y1,0,none⟩) 11 k1);refine(i_words (some ⟨y1,0,none⟩) 11 k1 H.csr _ (HM.out.c.rn.stay (by first|exact B1.out|exact al B1.out _))).mono ?_;rintro e x ⟨rfl,rfl⟩;rw[hb1])
    |(go_at_call_of 39 (Value.slice a2 n2 k2);refine(i_words a2 n2 k2 H.inn _ (HM.out.i.rn.stay (by first|exact B1.out|exact al B1.out _))).mono ?_;rintro e x ⟨rfl,rfl⟩;rw[hb2])
    |(go_at_call_of 39 (Value.slice a3 n3 k3);refine(i_words a3 n3 k3 H.out _ (HM.out.o.rn.stay (by first|exact B1.out|exact al B1.out _))).mono ?_;rintro e x ⟨rfl,rfl⟩;rw[hb3])
    |(go_at_call 39;refine(i_words _ 1 1 [H.pc] _ (one_rn _ _ (by simp))).mono ?_;rintro e x ⟨rfl,rfl⟩;rw[one_all,hbp])
    |(go_at_call 70;refine(i_allStand _ k1 H.csr _ (HM.out.c.rn.stay (al B1.out _)) CW.out).mono ?_;rintro e x ⟨rfl,rfl⟩;rw[hst]))
 go_ret
 exact⟨ret_i ((hf_stand FM.out WM.out FW.out ND.out).trans (by rw[HN.out];rfl)).symm,by first|exact B1.out|exact al B1.out _⟩
end Go.Proofs.YtignbeibcakgpaaGreatDoor
