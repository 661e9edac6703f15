/- The keys of the map collected into a slice. -/
import Derived.Test.YtaajaikpkcgalaaItr
namespace Go.Proofs.Ytaajaikpkcgalaa
open Go.RowKit Go.Maps Go.Sort Go.Shelf
set_option linter.unusedVariables false

theorem info_key : (Try.prog.info? 59).map (fun i => (i.zero, i.size, i.bytes)) = some (some (.agg #[.int .i64 0, .int .i64 0]), 2, 16) := by kernel_rfl

/-- The two pieces of code of the loop in AppendSeq. -/
def ApCode (asg bdy : Code) : Prop := ∃ a b r o ps, Try.f59.body = some (Code.seq a (Code.seq (Code.seq b (Code.block 0 (Code.rangeFunc o ps asg bdy))) r))
def apRec (asg bdy : Code) (fn : FuncId) (sv : Value) (Bs D : Nat) (st : LoopState) (pend : Option Code) : Loop :=
  { state := st, pending := pend, fn, tmps := #[.slice none 0 0, sv, .pointer (some ⟨Bs, 0, none⟩), undef, .slice none 0 0, undef, sv, undef, undef, undef, undef, undef, undef], params := #[7], assign := asg, body := bdy, defers := D }

/-- Between two rounds: the box holds a slice of its own with what has come so far. -/
structure ApAt (asg bdy : Code) (w0 : World) (fn : FuncId) (sv : Value) (Bs l D : Nat) (ss : List WK) (W : World) : Prop where
  box : ∃ v, W.heap[Bs]? = some (.cells #[v] 82 (0, 0)) ∧ Prs 59 W w0.heap.size v (prsW ss)
  L : W.heap[l]? = some (.loop (apRec asg bdy fn sv Bs D .ready none))
  K : W.heap[D]? = some (.deferred (some []))
  below : Below w0.heap.size w0 W

theorem ap_abides (asg bdy : Code) (w0 : World) (fn : FuncId) (sv : Value) (Bs l D B : Nat) (hB : w0.heap.size ≤ B) : AbidesFrom B (ApAt asg bdy w0 fn sv Bs l D) := fun s W W' row h hg hrow => by
  have hrow' : ∀ r, row = some r → ∃ o : Obj, W.heap[r]? = some o ∧ o.isWalk = true := fun r e => (hrow r e).2
  obtain ⟨v, hv, hr⟩ := h.box
  exact ⟨⟨v, (grownBy_keeps hg hrow' hv rfl).trans hv, ownsRow_abides_a hr hg hrow'⟩, (grownBy_keeps hg hrow' h.L rfl).trans h.L, (grownBy_keeps hg hrow' h.K rfl).trans h.K,
    h.below.grown hg h.below.size (fun k e => Nat.le_trans hB (hrow k e).1)⟩

theorem wpIn_pair {F : Fence} {n : Nat} {ops : Array Oper} {rest : List Oper} {o : Oper} {act : Act} {Q : Exit → Act → World → Prop} (w : World) (hgd : o.guard = none) (s x : Operand)
    (ho : o.op = .call { callee := .builtin .append, args := #[s, x], argTypes := #[82, 82] }) (base : Nat) (v : Value) (rs : List (Int × Int)) (hs : act.eval s = v) (hN : Prs 59 w base v rs)
    (B : Nat) (a b : Int) (hx : act.eval x = .slice (some ⟨B, 0, none⟩) 1 1) (h0 : w.cell? ⟨B, 0, none⟩ = some (.int .i64 a)) (h1 : w.cell? ⟨B, 1, none⟩ = some (.int .i64 b))
    (hlen : rs.length ≤ 1000000000) (hbase : base ≤ w.heap.size)
    (h : ∀ v' w', Prs 59 w' base v' (rs ++ [(a, b)]) → w.grownBy w' v.ownBlock → wpListIn F n Try.prog ops Q rest (act.put o.dst v') w') : wpListIn F n Try.prog ops Q (o :: rest) act w := by
  obtain ⟨i, hi, hz0, hz1, hz2⟩ := info_parts info_key
  refine wpListIn_append_own w hgd s x 82 ho base 59 i _ 2 16 Try.underlying82 hi hz0 hz1 hz2 rfl (by decide) v rs.length _ hs hN ⟨B, 0, none⟩ 1 1 (flat [(a, b)]) hx rfl ?_ (flat_one _) (by unfold maxLen; omega) (by omega) hbase ?_
  · intro j u hj
    rw [Addr.add_lit, Nat.zero_add]
    match j, hj with
    | 0, hj => rw [h0]; exact hj
    | 1, hj => rw [h1]; exact hj
    | j + 2, hj => simp [flat] at hj
  · intro v' w' hown hgrow _
    refine h v' w' ?_ hgrow
    unfold Prs
    rw [List.length_append, flat_append]
    exact hown

set_option maxRecDepth 100000 in
set_option maxHeartbeats 2000000 in
theorem ap_yield (asg bdy : Code) (hcode : ApCode asg bdy) (m : Nat) (w0 : World) (fn : FuncId) (sv : Value) (Bs l D : Nat) (hBl : Bs ≠ l) (hDl : D ≠ l) (hDB : D ≠ Bs) (h0B : w0.heap.size ≤ Bs) (h0l : w0.heap.size ≤ l)
    (N : Nat) (hN : N ≤ 1000000) (ss : List WK) (x : WK) (W : World) (h : ApAt asg bdy w0 fn sv Bs l D ss W) (hlen : ss.length < N) :
    YieldAt Fence.wide m Try.prog l #[encK x] W fun e W' => e = .returned (.bool true) ∧ ApAt asg bdy w0 fn sv Bs l D (ss ++ [x]) W' ∧ KeepsWalks W W' := by
  obtain ⟨v, hv, hrow⟩ := h.box
  refine ⟨fn, #[.slice none 0 0, sv, .pointer (some ⟨Bs, 0, none⟩), undef, .slice none 0 0, undef, sv, encK x, undef, undef, undef, undef, undef], asg, bdy, by simpa [apRec] using run_yield (P := Try.prog) (args := #[encK x]) h.L rfl, roundIn_of_wpIn trivial ?_⟩
  obtain ⟨W1, hW1⟩ : ∃ W1, W.alloc (.cells #[.int .i64 x.t, .int .i64 x.p] 59) = W1 := ⟨_, rfl⟩
  have b1 : Below W.heap.size W W1 := by rw [← hW1]; exact al (Below.refl _ _) _
  have hlt1 : ∀ {j : Nat} {o : Obj}, W.heap[j]? = some o → W1.heap[j]? = some o := fun {j o} hj => (b1.block j (Array.getElem?_eq_some_iff.1 hj).1).trans hj
  have y0 : W1.cell? ⟨W.heap.size, 0, none⟩ = some (.int .i64 x.t) := by rw [← hW1]; exact cell_new rfl
  have y1 : W1.cell? ⟨W.heap.size, 1, none⟩ = some (.int .i64 x.p) := by rw [← hW1]; exact cell_new rfl
  have hL1 := hlt1 h.L
  have hv1 := hlt1 hv
  have hK1 := hlt1 h.K
  have hrow1 := hrow.keep b1
  have hb1 : Below w0.heap.size w0 W1 := h.below.trans (b1.mono h.below.size)
  have hk1 : KeepsWalks W W1 := by rw [← hW1]; exact KeepsWalks.alloc _ _
  have hl : l < W1.heap.size := (Array.getElem?_eq_some_iff.1 hL1).1
  have hWl : W.heap.size ≠ l := fun e => by rw [← e] at hL1; rw [← hW1, World.alloc_heap_new] at hL1; cases hL1
  have hbr := run_beginRound (P := Try.prog) hL1 rfl
  obtain ⟨W2, hW2⟩ : ∃ W2, W1.putObj l (.loop { apRec asg bdy fn sv Bs D .ready none with state := .busy }) = W2 := ⟨_, rfl⟩
  rw [hW2] at hbr
  have hg2 : W1.grownBy W2 (some l) := by rw [← hW2]; exact grownBy_putObj_a _ _ _
  have hk2 : KeepsWalks W W2 := by rw [← hW2]; exact hk1.trans (KeepsWalks.putObj _ hL1 rfl)
  have hv2 : W2.heap[Bs]? = some (.cells #[v] 82 (0, 0)) := by rw [← hW2]; exact (World.putObj_heap_other hBl).trans hv1
  have hK2 : W2.heap[D]? = some (.deferred (some [])) := by rw [← hW2]; exact (World.putObj_heap_other hDl).trans hK1
  have hL2 : W2.heap[l]? = some (.loop { apRec asg bdy fn sv Bs D .ready none with state := .busy }) := by rw [← hW2]; exact World.putObj_heap_same hl
  have x0 : W2.cell? ⟨W.heap.size, 0, none⟩ = some (.int .i64 x.t) := by
    rw [World.cell?_of_block (w := W1) (hg2.block W.heap.size (block_of_cell y0) (fun e => hWl (by cases e; rfl)))]; exact y0
  have x1 : W2.cell? ⟨W.heap.size, 1, none⟩ = some (.int .i64 x.p) := by
    rw [World.cell?_of_block (w := W1) (hg2.block W.heap.size (block_of_cell y0) (fun e => hWl (by cases e; rfl)))]; exact y1
  have hrow2 : Prs 59 W2 w0.heap.size v (prsW ss) := World.ownsRow.kept hrow1 hg2 (ownsRow_ne_a hrow1 hL1 (fun cur e => by cases e))
  have hb2 : Below w0.heap.size w0 W2 := hb1.grown hg2 hb1.size (fun k e => by cases e; exact h0l)
  obtain ⟨hc2, hf2⟩ := cell_of_box_a hv2
  have hBlt : Bs < W2.heap.size := (Array.getElem?_eq_some_iff.1 hv2).1
  have hl2 : l < W2.heap.size := (Array.getElem?_eq_some_iff.1 hL2).1
  have hDlt : D < W2.heap.size := (Array.getElem?_eq_some_iff.1 hK2).1
  have hWlt : W.heap.size < W2.heap.size := block_of_cell x0
  have ne_of : ∀ {j : Nat} {o : Obj}, W2.heap[j]? = some o → (∀ cur, o ≠ .cells cur 59 (0, 0)) → some j ≠ v.ownBlock := fun hj hno => by
    rcases ownsRow_ne_a hrow2 hj hno with e | e
    · rw [e]; simp
    · exact fun e' => e e'.symm
  have HW1 : Hid (W.alloc (.cells #[.int .i64 x.t, .int .i64 x.p] 59) = W1) := hW1
  clear hW2 hW1 y0 y1
  obtain ⟨c1, c2, c3, c4, c5, hc⟩ := hcode
  unfold Try.f59 at hc
  simp only [Option.some.injEq, Code.seq.injEq, Code.block.injEq, Code.rangeFunc.injEq] at hc
  obtain ⟨_, ⟨_, _, _, _, hasg, hbdy⟩, _⟩ := hc
  have HA : Hid _ := hasg
  have HD : Hid _ := hbdy
  clear hasg hbdy
  obtain ⟨RR, hRR⟩ : ∃ RR, (fun (e : Ending) (W' : World) => e = .returned (.bool true) ∧ ApAt asg bdy w0 fn sv Bs l D (ss ++ [x]) W' ∧ KeepsWalks W W') = RR := ⟨_, rfl⟩
  rw [hRR]
  have HRR : Hid ((fun (e : Ending) (W' : World) => e = .returned (.bool true) ∧ ApAt asg bdy w0 fn sv Bs l D (ss ++ [x]) W' ∧ KeepsWalks W W') = RR) := hRR
  clear hRR
  rw [← HA.out, ← HD.out]
  unfold encK
  gi_wp2_with gi_round_op_a
  rw [HW1.out]
  refine ⟨W2, hbr, ?_⟩
  gi_wp2_with (first
    | (gi_at_builtin; refine wpIn_pair _ rfl _ _ rfl w0.heap.size v (prsW ss) rfl (World.ownsRow.alloc hrow2 _) W2.heap.size x.t x.p rfl (cell_new rfl) (cell_new rfl) (by rw [prsW_length]; omega) (by have := hb2.size; simp; omega) ?_; intro v' w3 hown' hg3
       have hv3 : w3.heap[Bs]? = some (.cells #[v] 82 (0, 0)) := (hg3.block Bs (by simp; omega) (ne_of hv2 (fun cur e => absurd (Obj.cells.inj e).2.1 (by decide)))).trans ((Below.heap_alloc _ _ Bs hBlt).trans hv2)
       obtain ⟨hc3, hf3⟩ := cell_of_box_a hv3
       have hown'' := hown'
       obtain ⟨a', cap', rfl, _, _, _⟩ := hown'.shape
       go_frame)
    | gi_round_op_a)
  have hg3' : (W2.alloc (.cells #[.int .i64 x.t, .int .i64 x.p] 59)).grownBy w3 v.ownBlock := hg3
  have hL3 : w3.heap[l]? = some (.loop { apRec asg bdy fn sv Bs D .ready none with state := .busy }) := (hg3'.block l (by simp; omega) (ne_of hL2 (fun cur e => by cases e))).trans ((Below.heap_alloc _ _ l hl2).trans hL2)
  have hK3 : w3.heap[D]? = some (.deferred (some [])) := (hg3'.block D (by simp; omega) (ne_of hK2 (fun cur e => by cases e))).trans ((Below.heap_alloc _ _ D hDlt).trans hK2)
  have e2 : (prsW ss ++ [(x.t, x.p)]).length = (prsW ss).length + 1 := by rw [List.length_append]; rfl
  rw [e2] at hown''
  clear e2
  obtain ⟨vv, hvv⟩ : ∃ vv, Value.slice a' ((prsW ss).length + 1) cap' = vv := ⟨_, rfl⟩
  rw [hvv] at hown''
  obtain ⟨w4, hw4⟩ : ∃ w4, w3.setCell ⟨Bs, 0, none⟩ vv = w4 := ⟨_, rfl⟩
  have hg4 : w3.grownBy w4 (some Bs) := by rw [← hw4]; exact grownBy_setCell0_a _ _ _
  have hv4 : w4.heap[Bs]? = some (.cells #[vv] 82 (0, 0)) := by rw [← hw4]; exact heap_setCell_box_a _ hv3
  have hL4 : w4.heap[l]? = some (.loop { apRec asg bdy fn sv Bs D .ready none with state := .busy }) := (hg4.block l (Array.getElem?_eq_some_iff.1 hL3).1 (fun e => hBl (by cases e; rfl))).trans hL3
  have hK4 : w4.heap[D]? = some (.deferred (some [])) := (hg4.block D (Array.getElem?_eq_some_iff.1 hK3).1 (fun e => hDB (by cases e; rfl))).trans hK3
  have hrow4 : Prs 59 w4 w0.heap.size vv (prsW ss ++ [(x.t, x.p)]) := World.ownsRow.kept hown'' hg4 (ownsRow_ne_a hown'' hv3 (fun cur e => absurd (Obj.cells.inj e).2.1 (by decide)))
  have hl4 : l < w4.heap.size := (Array.getElem?_eq_some_iff.1 hL4).1
  have hb3 : Below w0.heap.size w0 w3 := (hb2.alloc hb2.size _).grown hg3' (by have := hb2.size; simp; omega) (fun k e => (hrow2.lt k e).1)
  have hb4 : Below w0.heap.size w0 w4 := hb3.grown hg4 hb3.size (fun k e => by cases e; exact h0B)
  have hk4 : KeepsWalks W w4 := ((hk2.trans (KeepsWalks.alloc _ _)).trans (KeepsWalks.of_grownBy hg3' (ownsRow_not_walk_a (World.ownsRow.alloc hrow2 _)))).trans (by rw [← hw4]; exact KeepsWalks.setCell _ _ _)
  rw [← HRR.out]
  rw [hvv, hw4]
  clear hw4 hvv
  have hprs : prsW (ss ++ [x]) = prsW ss ++ [(x.t, x.p)] := by simp [prsW]
  refine ⟨_, _, run_endRound none hL4, rfl, ⟨⟨_, (World.putObj_heap_other hBl).trans hv4, ?_⟩, World.putObj_heap_same hl4, (World.putObj_heap_other hDl).trans hK4, hb4.grown (grownBy_putObj_a _ _ _) hb4.size (fun k e => by cases e; exact h0l)⟩, hk4.trans (KeepsWalks.putObj _ hL4 rfl)⟩
  rw [hprs]
  exact World.ownsRow.kept hrow4 (grownBy_putObj_a _ _ _) (ownsRow_ne_a hrow4 hL4 (fun cur e => by cases e))

set_option maxRecDepth 100000 in
set_option maxHeartbeats 2000000 in
theorem appendSeq_in (n : Nat) (hn : 2 ≤ n) (g : Nat) (lb : Array Value) (eg : ∀ args w, (callFunc g args).run Try.prog w = .ok (.enter g args) w)
    (S : List WK → Prop) (N : Nat) (hN : N ≤ 1000000) (w : World) (hseq : SeqGives Fence.wide (n - 1) Try.prog g lb encK S N w) :
    CallsIn Fence.wide n Try.prog 59 #[.slice none 0 0, .func (.func g) #[] lb] w fun e w' => ∃ (v : Value) (ss : List WK), e = .returned v ∧ S ss ∧ Prs 59 w' w.heap.size v (prsW ss) ∧ Below w.heap.size w w' := by
  have h1 : 1 ≤ n := by omega
  have hFg : Fence.wide.fn g := trivial
  refine callsIn_of_wp_marks Try.func59 rfl trivial ?_ rfl
  simp only [Try.ntmps59, List.size_toArray, List.length_cons, List.length_nil, Nat.reduceAdd, Nat.reduceSub, Array.replicate_succ, Array.replicate_zero, List.push_toArray, List.append_toArray, List.nil_append, List.cons_append]
  gi_wp2
  refine wpIn_rangeFunc ?_
  intro fn hfn
  obtain ⟨asg, bdy, hcode0⟩ : ∃ asg bdy, ApCode asg bdy := ⟨_, _, _, _, _, _, _, rfl⟩
  have hcode := hcode0
  obtain ⟨c1, c2, c3, c4, c5, hc⟩ := hcode
  unfold Try.f59 at hc
  simp only [Option.some.injEq, Code.seq.injEq, Code.block.injEq, Code.rangeFunc.injEq] at hc
  obtain ⟨_, ⟨_, _, _, _, hasg, hbdy⟩, _⟩ := hc
  rw [hasg, hbdy]
  clear hasg hbdy
  obtain ⟨W0, hW0⟩ : ∃ W0, w.alloc (.cells #[.slice none 0 0] 82) = W0 := ⟨_, rfl⟩
  have hs0 : W0.heap.size = w.heap.size + 1 := by rw [← hW0]; simp
  have hv0 : W0.heap[w.heap.size]? = some (.cells #[.slice none 0 0] 82 (0, 0)) := by rw [← hW0]; exact World.alloc_heap_new w _
  have hb0 : Below w.heap.size w W0 := by rw [← hW0]; exact (Below.refl _ w).alloc (Nat.le_refl _) _
  rw [hW0]
  obtain ⟨W1, hW1⟩ : ∃ W1, (W0.alloc (.deferred (some []))).alloc (.loop (apRec asg bdy fn (.func (.func g) #[] lb) w.heap.size W0.heap.size .ready none)) = W1 := ⟨_, rfl⟩
  have hold : ∀ k, k < W0.heap.size → W1.heap[k]? = W0.heap[k]? := fun k hk => by
    rw [← hW1]; exact (Below.heap_alloc _ _ k (by simp; omega)).trans (Below.heap_alloc _ _ k hk)
  have hb1 : Below w.heap.size w W1 := by rw [← hW1]; exact (hb0.alloc hb0.size _).alloc (by have := hb0.size; simp; omega) _
  have hs1 : W1.heap.size = W0.heap.size + 2 := by rw [← hW1]; simp
  have hM : ApAt asg bdy w fn (.func (.func g) #[] lb) w.heap.size (W0.heap.size + 1) W0.heap.size [] W1 :=
    ⟨⟨_, (hold w.heap.size (by omega)).trans hv0, Prs.nil _ _ _⟩,
     by rw [← hW1]; have := World.alloc_heap_new (W0.alloc (.deferred (some []))) (.loop (apRec asg bdy fn (.func (.func g) #[] lb) w.heap.size W0.heap.size .ready none)); rwa [World.size_alloc] at this,
     by rw [← hW1]; exact (Below.heap_alloc _ _ _ (by simp)).trans (World.alloc_heap_new W0 _), hb1⟩
  refine ⟨W0.heap.size + 1, [{ target := .collected W0.heap.size, args := #[] }], W1, { target := .fn (.func g) lb, args := #[.func (.yield (W0.heap.size + 1)) #[] #[]] }, W1, g,
    #[.func (.yield (W0.heap.size + 1)) #[] #[]] ++ lb, W1, ?_, ?_, ?_, ?_, fun _ => h1, ?_⟩
  · rw [← hW1]; exact run_enterLoop_outer _ _ _ _ _
  · simp [resolve, go_sem]
  · intro f' hf'; exact trivial
  · simp [invoke, go_sem, eg]
  · refine (hseq (W0.heap.size + 1) (ApAt asg bdy w fn (.func (.func g) #[] lb) w.heap.size (W0.heap.size + 1) W0.heap.size) W1 hb1 (ap_abides _ _ _ _ _ _ _ _ _ hb1.size)
      (fun pre x W hJ hl => ap_yield asg bdy hcode0 (n - 1 - 1) w fn _ w.heap.size (W0.heap.size + 1) W0.heap.size (by omega) (by omega) (by omega) (Nat.le_refl _) (by omega) N hN pre x W hJ hl) hM).mono ?_
    rintro e W2 ⟨⟨v0, rfl⟩, ss, hS, h2⟩
    obtain ⟨v, hv, hrow⟩ := h2.box
    have hend := run_endLoop (P := Try.prog) h2.L (by simp [apRec])
    obtain ⟨W3, hW3⟩ : ∃ W3, W2.putObj (W0.heap.size + 1) (.loop { apRec asg bdy fn (.func (.func g) #[] lb) w.heap.size W0.heap.size .ready none with state := .exhausted }) = W3 := ⟨_, rfl⟩
    rw [hW3] at hend
    have hg3 : W2.grownBy W3 (some (W0.heap.size + 1)) := by rw [← hW3]; exact grownBy_putObj_a _ _ _
    have hv3 : W3.heap[w.heap.size]? = some (.cells #[v] 82 (0, 0)) := by rw [← hW3]; exact (World.putObj_heap_other (by omega)).trans hv
    have hK3 : W3.heap[W0.heap.size]? = some (.deferred (some [])) := by rw [← hW3]; exact (World.putObj_heap_other (by omega)).trans h2.K
    have hrow3 : Prs 59 W3 w.heap.size v (prsW ss) := World.ownsRow.kept hrow hg3 (ownsRow_ne_a hrow h2.L (fun cur e => by cases e))
    have hb3 : Below w.heap.size w W3 := h2.below.grown hg3 h2.below.size (fun k e => by cases e; omega)
    obtain ⟨hc3, hf3⟩ := cell_of_box_a hv3
    clear hW3
    refine ⟨none, W3, hend, ?_⟩
    gi_wp2
    rw [← hs0]
    refine ⟨by simp, .inl ⟨_, _, rfl, run_takeDeferred hK3, ?_⟩⟩
    exact ⟨_, results_tmp rfl _ _ _, v, ss, rfl, hS, World.ownsRow.kept hrow3 (grownBy_putObj_a _ _ _) (ownsRow_ne_a hrow3 hK3 (fun cur e => by cases e)), hb3.grown (grownBy_putObj_a _ _ _) hb3.size (fun k e => by cases e; omega)⟩
end Go.Proofs.Ytaajaikpkcgalaa
