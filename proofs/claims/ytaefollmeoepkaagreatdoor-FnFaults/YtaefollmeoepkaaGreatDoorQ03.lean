import Derived.Deep.QuietTactic
import Derived.BigQuiet
import Derived.OwnWalk
import Derived.Test.YtaefollmeoepkaaGreatDoorQ01
namespace Go.Proofs.YtaefollmeoepkaaGreatDoor
set_option maxRecDepth 20000
set_option maxHeartbeats 16000000
open Go.RowKit
theorem block_of_cell{w:World}{p:Addr}{v:Value}(h:w.cell? p=some v):p.block<w.heap.size:=by
 apply Classical.byContradiction
 intro hn
 have hz:w.heap[p.block]? =none:=by simp;omega
 simp[World.cell?,hz]at h
theorem cell_keep{w w':World}(b:Below w.heap.size w w'){p:Addr}{v:Value}(h:w.cell? p=some v):w'.cell? p=some v:=by
 rw[b.cell (block_of_cell h)];exact h
theorem cell_push{w:World}(o:Obj){p:Addr}{v:Value}(h:w.cell? p=some v):(w.alloc o).cell? p=some v:=by
 rw[World.cell?_alloc_lt w o p (block_of_cell h)];exact h
theorem cell_new{w:World}{cs:Array Value}{t:TypeId}{i:Nat}{v:Value}(h:cs[i]? =some v):(w.alloc (.cells cs t)).cell? ⟨w.heap.size,i,none⟩=some v:=by
 rw[World.cell?_alloc_new];exact h
theorem on{a b c:World}(h:Below a.heap.size a b)(k:Below b.heap.size b c):Below a.heap.size a c:=h.trans (k.mono h.size)
theorem al{a b:World}(h:Below a.heap.size a b)(o:Obj):Below a.heap.size a (b.alloc o):=h.alloc h.size o
structure Turn(b:Nat)(w w':World):Prop where
 os:w'.os=w.os
 tape:w'.tape=w.tape
 output:w'.output=w.output
 size:w.heap.size≤w'.heap.size
 block:∀k,k<w.heap.size→k≠b→w'.heap[k]? =w.heap[k]?
theorem Turn.refl(b:Nat)(w:World):Turn b w w:=⟨rfl,rfl,rfl,Nat.le_refl _,fun _ _ _=>rfl⟩
theorem Turn.trans{b:Nat}{x y z:World}(h:Turn b x y)(k:Turn b y z):Turn b x z:=
 ⟨k.os.trans h.os,k.tape.trans h.tape,k.output.trans h.output,Nat.le_trans h.size k.size,fun i hi hb=>(k.block i (Nat.lt_of_lt_of_le hi h.size) hb).trans (h.block i hi hb)⟩
theorem Turn.below{b B:Nat}{w w':World}(h:Turn b w w')(h1:B≤b)(h2:B≤w.heap.size):Below B w w':=
 ⟨h.os,h.tape,h.output,h.size,fun k hk=>h.block k (by omega) (by omega)⟩
variable{b:Nat}{w w':World}
theorem Turn.of_below(h:Below w.heap.size w w'):Turn b w w':=
 ⟨h.os,h.tape,h.output,h.size,fun k hk _=>h.block k hk⟩
theorem Turn.alloc(b:Nat)(w:World)(o:Obj):Turn b w (w.alloc o):=Turn.of_below ((Below.refl _ _).alloc (Nat.le_refl _) o)
theorem Turn.set(b o:Nat)(w:World)(v:Value)(nq:Nat):Turn b w ((w.setCell ⟨b,o,none⟩ v).drewN nq):=
 ⟨rfl,rfl,rfl,by simp[World.setCell,World.drewN],fun k _ hk=>Below.heap_setCell w ⟨b,o,none⟩ v k hk⟩
theorem Turn.cell(h:Turn b w w'){p:Addr}(hp:p.block<w.heap.size)(hb:p.block≠b):w'.cell? p=w.cell? p:=
 World.cell?_of_block (w:=w) (h.block p.block hp hb)
theorem Turn.frozen(h:Turn b w w'){p:Addr}(hp:p.block<w.heap.size)(hb:p.block≠b):w'.frozen? p=w.frozen? p:=
 World.frozen?_of_block (w:=w) (h.block p.block hp hb)
theorem tmod_in{x n:Int}(hx:0≤x)(hn:1≤n):0≤x.tmod n∧x.tmod n<n:=by
 rw[Int.tmod_eq_emod_of_nonneg hx]
 exact⟨Int.emod_nonneg _ (by omega),Int.emod_lt_of_pos _ (by omega)⟩
theorem wrap64_id{n:Int}(h: -9223372036854775808≤n∧n≤9223372036854775807):wrap64 n=n:=by unfold wrap64;omega
theorem quot_in{k len:Int}(hk:0≤k∧k≤100000)(hl:1≤len):0≤k/len∧k/len≤100000:=
 ⟨Int.ediv_nonneg hk.1 (by omega),Int.le_trans (Int.ediv_le_self _ hk.1) hk.2⟩
theorem next_val{z k len:Int}(hz:0≤z∧z≤255)(hk:0≤k∧k≤100000)(hl:1≤len):
  0≤wrap64 (wrap64 z+wrap64 (wrap64 (k/len)*37))∧wrap64 (wrap64 z+wrap64 (wrap64 (k/len)*37))≤3700255:=by
 have h:=quot_in hk hl
 generalize k/len=q at h
 rw[wrap64_id (n:=z) (by omega),wrap64_id (n:=q) (by omega),wrap64_id (n:=q*37) (by omega),wrap64_id (by omega)]
 omega
theorem next_val2{v z k:Int}(hv:0≤v∧v≤3700255)(hz:0≤z∧z≤255)(hk:0≤k∧k≤100000):
  0≤wrap64 (wrap64 (wrap64 (v*251)+wrap64 (wrap64 z*13))+k):=by
 rw[wrap64_id (n:=z) (by omega),wrap64_id (n:=v*251) (by omega),wrap64_id (n:=z*13) (by omega),wrap64_id (n:=v*251+z*13) (by omega),wrap64_id (by omega)]
 omega
theorem next_none(b:Nat)(k:Nat)(n:Int)(w:World)(hk:k≤100000)(hn:n<1)
  (h1:w.cell? ⟨b,1,none⟩=some (.int .i64 k)) (hfz:w.frozen? ⟨b,1,none⟩=false):
  Calls Tryz.prog 33 #[.pointer (some ⟨b,0,none⟩),.int .i64 n] w fun e w'=>∃v:Int,e=.returned (.int .i64 v)∧v=0∧∃nq:Nat,w'=(w.setCell ⟨b,1,none⟩ (.int .i64 (k+1))).drewN nq:=by
 go_enter Tryz.func33,Tryz.ntmps33
 go_wp2
 go_ret
 exact⟨0,rfl,rfl,0,rfl⟩
theorem next_nil(b:Nat)(a:Option Addr)(cap:Nat)(k:Nat)(n:Int)(w:World)(hk:k≤100000)(hn:1≤n)
  (h0:w.cell? ⟨b,0,none⟩=some (.slice a 0 cap))
  (h1:w.cell? ⟨b,1,none⟩=some (.int .i64 k)) (hfz:w.frozen? ⟨b,1,none⟩=false):
  Calls Tryz.prog 33 #[.pointer (some ⟨b,0,none⟩),.int .i64 n] w fun e w'=>∃v:Int,e=.returned (.int .i64 v)∧(0≤v∧v<n)∧∃nq:Nat,w'=(w.setCell ⟨b,1,none⟩ (.int .i64 (k+1))).drewN nq:=by
 have g1:¬n<1:=by omega
 have g2:¬n=0:=by omega
 go_enter Tryz.func33,Tryz.ntmps33
 go_wp2
 go_ret
 exact⟨_,rfl,⟨Int.emod_nonneg _ (by omega),Int.emod_lt_of_pos _ (by omega)⟩,0,rfl⟩
theorem next_row(b bx off len cap:Nat)(k:Nat)(n:Int)(w:World)(zs:List Int)
  (hk:k≤100000) (hn:1≤n) (hl:0<len) (hl2:len≤maxLen)
  (hb:bx<b)
  (h0:w.cell? ⟨b,0,none⟩=some (.slice (some ⟨bx,off,none⟩) len cap))
  (h1:w.cell? ⟨b,1,none⟩=some (.int .i64 k))
  (hfz:w.frozen? ⟨b,1,none⟩=false)
  (hc:∀i,i<len→w.cell? ⟨bx,off+i,none⟩=some (.int .u8 (zs.getD i 0)))
  (hz:∀i:Nat,0≤zs[i]?.getD 0∧zs[i]?.getD 0≤255):
  Calls Tryz.prog 33 #[.pointer (some ⟨b,0,none⟩),.int .i64 n] w fun e w'=>∃v:Int,e=.returned (.int .i64 v)∧(0≤v∧v<n)∧∃nq:Nat,w'=(w.setCell ⟨b,1,none⟩ (.int .i64 (k+1))).drewN nq:=by
 unfold maxLen at hl2
 have hl3:(0:Int)<(len:Int):=by omega
 have hne:((len:Int)==0)=false:=by simp;omega
 have g1:¬n<1:=by omega
 have e1:(0:Int)≤(k:Int)%(len:Int):=Int.emod_nonneg _ (by omega)
 have e2:(k:Int)%(len:Int)<(len:Int):=Int.emod_lt_of_pos _ hl3
 have e3:(0:Int)≤((k:Int)+1)%(len:Int):=Int.emod_nonneg _ (by omega)
 have e4:((k:Int)+1)%(len:Int)<(len:Int):=Int.emod_lt_of_pos _ hl3
 have hcx:=hc (k%len) (Nat.mod_lt _ hl)
 have hcy:=hc ((k+1)%len) (Nat.mod_lt _ hl)
 have HZ:=hid hz
 clear hz hc
 by_cases g2:n≤200
 ·have g3:¬200<n:=by omega
  go_enter Tryz.func33,Tryz.ntmps33
  go_wp2_with fail
  go_quiet (fail)
  go_wp2
  go_ret
  exact⟨_,rfl,tmod_in (next_val (HZ.out _) (by omega) (by omega)).1 hn,_,rfl⟩
 ·have g3:200<n:=by omega
  go_enter Tryz.func33,Tryz.ntmps33
  go_wp2_with fail
  go_quiet (fail)
  go_wp2_with fail
  go_quiet (fail)
  go_wp2
  go_ret
  exact⟨_,rfl,tmod_in (next_val2 (next_val (HZ.out _) (by omega) (by omega)) (HZ.out _) (by omega)) hn,_,rfl⟩
set_option linter.unusedVariables false
def Nums(w:World)(base:Nat)(v:Value)(zs:List Int):Prop:=w.ownsRow base 2 1 v zs.length (zs.map (Value.int .i64))
theorem dr{B:Nat}{a w:World}(h:Below B a w)(n:Nat):Below B a (w.drewN n):=⟨h.os,h.tape,h.output,h.size,h.block⟩
theorem below_grown{w w':World}(h:Below w.heap.size w w')(row:Option Nat):w.grownBy w' row:=⟨h.os,h.tape,h.output,h.size,fun k hk _=>h.block k hk⟩
theorem Nums.kept{w w':World}{base:Nat}{v:Value}{zs:List Int}{row:Option Nat}(h:Nums w base v zs)(hg:w.grownBy w' row)(hne:v.ownBlock=none∨v.ownBlock≠row):Nums w' base v zs:=World.ownsRow.kept h hg hne
theorem Nums.keep{w w':World}{base:Nat}{v:Value}{zs:List Int}(h:Nums w base v zs)(hb:Below w.heap.size w w'):Nums w' base v zs:=by
 refine World.ownsRow.kept h (below_grown hb none) ?_
 cases v.ownBlock<;>simp
variable{w:World}{base:Nat}{v:Value}{zs:List Int}
theorem Nums.lt(h:Nums w base v zs):∀k,v.ownBlock=some k→base≤k∧k<w.heap.size:=World.ownsRow.lt h
theorem Nums.mono{w:World}{base base':Nat}{v:Value}{zs:List Int}(h:Nums w base v zs)(hb:base'≤base):Nums w base' v zs:=by
 obtain⟨h1,h2|⟨g,cap,cur,hv,hg,hr⟩⟩:=h
 ·exact⟨h1,.inl h2⟩
 ·exact⟨h1,.inr ⟨g,cap,cur,hv,Nat.le_trans hb hg,hr⟩⟩
theorem Nums.nil(w:World)(base:Nat):Nums w base (.slice none 0 0) []:=World.ownsRow_nil w base _ _
variable{w:World}{base g n cap:Nat}{zs:List Int}
theorem Nums.cell(h:Nums w base (.slice (some ⟨g,0,none⟩) n cap) zs)(hn:n=zs.length)(i:Nat)(hi:i<n):w.cell? ⟨g,i,none⟩=some (.int .i64 (zs.getD i 0)):=by
 subst hn
 rw[World.ownsRow.cellAt h i (by omega),List.getElem?_map,List.getElem?_eq_getElem hi,List.getD,List.getElem?_eq_getElem hi]
 rfl
theorem Nums.free(h:Nums w base (.slice (some ⟨g,0,none⟩) n cap) zs)(hn:n=zs.length)(i:Nat):w.frozen? ⟨g,i,none⟩=false:=by
 subst hn
 exact World.ownsRow.frozenAt h i
variable{w:World}{base n cap:Nat}{a:Option Addr}{zs:List Int}
theorem Nums.len(h:Nums w base (.slice a n cap) zs):n=zs.length:=by
 obtain⟨h1,⟨h2,h3⟩|⟨g,cap,cur,hv,_⟩⟩:=h
 ·simp at h2;omega
 ·simp at hv;omega
theorem Nums.lens(h:Nums w base (.slice a n cap) zs):n≤cap∧cap≤maxLen:=by
 obtain⟨h1,⟨h2,h3⟩|⟨g,cap,cur,hv,_,_,h4,h5,_⟩⟩:=h
 ·simp at h2;unfold maxLen;omega
 ·simp at hv;omega
variable{w:World}{base:Nat}{v:Value}{zs:List Int}
theorem Nums.shape(h:Nums w base v zs):∃a cap,v=.slice a zs.length cap∧zs.length≤cap∧cap≤maxLen∧(0<zs.length→∃g,a=some ⟨g,0,none⟩):=by
 have h':=h
 obtain⟨h1,⟨rfl,h3⟩|⟨g,cap,cur,rfl,_,_,h4,h5,_⟩⟩:=h'
 ·exact⟨none,0,by rw[h3],by omega,by unfold maxLen;omega,fun hz=>by omega⟩
 ·exact⟨_,_,rfl,h4,h5,fun _=>⟨g,rfl⟩⟩
variable{w:World}{base g n cap:Nat}{zs:List Int}
theorem Nums.store(h:Nums w base (.slice (some ⟨g,0,none⟩) n cap) zs)(j:Nat)(x:Int):
  Nums (w.setCell ⟨g,j,none⟩ (.int .i64 x)) base (.slice (some ⟨g,0,none⟩) n cap) (zs.set j x)∧w.grownBy (w.setCell ⟨g,j,none⟩ (.int .i64 x)) (some g):=by
 have hn:=h.len
 subst hn
 obtain⟨h1,h2⟩:=World.ownsRow.stored h j (.int .i64 x)
 refine⟨?_,h2⟩
 unfold Nums
 rw[List.length_set,List.map_set]
 exact h1
theorem grown_set(w:World)(p:Addr)(u:Value):w.grownBy (w.setCell p u) (some p.block):=
 ⟨rfl,rfl,rfl,by simp[World.setCell],fun k _ hk=>heap_setCell_other w p k u (fun e=>hk (by simp[e]))⟩
variable{w:World}{base:Nat}{v:Value}{zs:List Int}
theorem Nums.put(h:Nums w base v zs)(p:Addr)(u:Value)(hne:v.ownBlock≠some p.block):Nums (w.setCell p u) base v zs:=h.kept (grown_set w p u) (.inr hne)
theorem Nums.made{w:World}{base g n cap:Nat}{zs:List Int}{xs:List Value}(h:w.ownsRow base 2 1 (.slice (some ⟨g,0,none⟩) n cap) n xs)(hx:xs=zs.map (Value.int .i64)):Nums w base (.slice (some ⟨g,0,none⟩) n cap) zs:=by
 subst hx
 have hn:n=zs.length:=by simpa using h.1.symm
 subst hn
 exact h
theorem IsRow.stay{k:IntKind}{w w':World}{a:Option Addr}{len cap:Nat}{zs:List Int}(h:IsRow k w a len cap zs)(b:Below w.heap.size w w'):IsRow k w' a len cap zs:=by
 rcases h with h|⟨x,rfl,h1,h2,h3,h4,h5⟩
 ·exact .inl h
 ·exact .inr ⟨x,rfl,h1,h2,h3,fun i hi=>cell_keep b (h4 i hi),h5⟩
theorem info_i64:(Tryz.prog.info? 2).map (fun i=>(i.zero,i.size,i.bytes))=some (some (.int .i64 0),1,8):=by kernel_rfl
theorem cell_grown{w w':World}{row:Option Nat}{p:Addr}{v:Value}(g:w.grownBy w' row)(h:w.cell? p=some v)(hne:some p.block≠row):w'.cell? p=some v:=by
 rw[←h]
 exact World.cell?_of_block (w:=w) (g.block p.block (block_of_cell h) hne)
theorem below_of_grown{a w w':World}{v:Value}{base:Nat}{zs:List Int}(h:Below a.heap.size a w)(g:w.grownBy w' v.ownBlock)(n:Nums w base v zs)(hb:a.heap.size≤base):Below a.heap.size a w':=
 h.grown g h.size (fun k hk=>Nat.le_trans hb (n.lt k hk).1)
theorem own_ne{w w':World}{base base':Nat}{v u:Value}{zs ys:List Int}(h:Nums w base v zs)(k:Nums w' base' u ys)(hb:w.heap.size≤base'):v.ownBlock=none∨v.ownBlock≠u.ownBlock:=by
 cases e:v.ownBlock with
 |none=>exact .inl rfl
 |some x=>
  refine .inr fun e2=>?_
  have h1:=(h.lt x e).2
  have h2:=(k.lt x e2.symm).1
  omega
end Go.Proofs.YtaefollmeoepkaaGreatDoor
