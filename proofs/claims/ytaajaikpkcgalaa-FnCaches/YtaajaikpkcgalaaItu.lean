/- The keys of the store in their turn. -/
import Derived.Test.YtaajaikpkcgalaaIts
import Derived.Test.YtaajaikpkcgalaaSpc
namespace Go.Proofs.Ytaajaikpkcgalaa
open Go.RowKit Go.Maps Go.Sort Go.Shelf
set_option linter.unusedVariables false

theorem keys_gives (n : Nat) (hn : 1 ≤ n) (Bm b nn : Nat) (D0 : DataW Value) {R : Value → Option (DataW Value × List MemPlace)} (w : World) (hBm : Bm < w.heap.size)
    (hm : w.cell? ⟨Bm, 0, none⟩ = some (.map (some b))) (hown : w.ownsMap Try.prog 59 R b nn D0) :
    SeqGives Fence.wide n Try.prog 57 #[.pointer (some ⟨Bm, 0, none⟩)] encK (fun ss => ss.Nodup ∧ ∀ x : WK, x ∈ ss ↔ Maps.has D0 (klw x) = true) (Maps.size D0) w := fun l J W hW hJ hY h0 => by
  have hown' : W.ownsMap Try.prog 59 R b nn D0 := by
    have hbl := hown.lt
    obtain ⟨es, clock, hb, Ft, hs, hD⟩ := hown
    exact ⟨es, clock, (hW.block b hbl).trans hb, Ft, hs, hD⟩
  exact keys1_in n hn l Bm b nn D0 J hY W hJ ((hW.cell (p := ⟨Bm, 0, none⟩) hBm).trans hm) hown' h0

set_option maxHeartbeats 1000000 in
theorem collect_keys (g : Nat) (lb : Array Value) (eg : ∀ args w, (callFunc g args).run Try.prog w = .ok (.enter g args) w) (S : List WK → Prop) (N : Nat) (hN : N ≤ 1000000) (w : World) (hseq : SeqGives Fence.wide 4 Try.prog g lb encK S N w) :
    Calls Try.prog 55 #[.func (.func g) #[] lb] w fun e w' => ∃ (v : Value) (ss : List WK), e = .returned v ∧ S ss ∧ Prs 59 w' w.heap.size v (prsW ss) ∧ Below w.heap.size w w' := by
  have hA := (callsIn_wide (n := 5)).1 (appendSeq_in 5 (by omega) g lb eg S N hN w hseq)
  go_enter Try.func55, Try.ntmps55
  go_wp2_with (go_at_call 59; refine hA.mono ?_; rintro e w' ⟨v, ss, rfl, hS, hrow, hb⟩)
  go_ret
  exact ⟨v, ss, rfl, hS, hrow, hb⟩

theorem maps_keys (mb : Option Nat) (w : World) : Calls Try.prog 52 #[.map mb] w fun e w' => e = .returned (.func (.func 57) #[] #[.pointer (some ⟨w.heap.size, 0, none⟩)]) ∧ w' = w.alloc (.cells #[.map mb] 55) := by
  go_enter Try.func52, Try.ntmps52
  go_wp2_with fail
  go_ret
  exact ⟨rfl, rfl⟩

theorem perm_sorted_eq {α : Type} (f : α → Int) : ∀ (l l' : List α), l'.Perm l → l.Pairwise (fun a b => f a < f b) → l'.Pairwise (fun a b => ¬ f b < f a) → l' = l
  | [], l', hp, _, _ => hp.eq_nil
  | a :: r, [], hp, _, _ => by have := hp.length_eq; simp at this
  | a :: r, b :: r', hp, h1, h2 => by
    obtain ⟨a1, a2⟩ := List.pairwise_cons.1 h1
    obtain ⟨b1, b2⟩ := List.pairwise_cons.1 h2
    have hb : b ∈ a :: r := hp.mem_iff.1 List.mem_cons_self
    have ha : a ∈ b :: r' := hp.mem_iff.2 List.mem_cons_self
    have e : b = a := by
      rcases List.mem_cons.1 hb with e | hb
      · exact e
      · rcases List.mem_cons.1 ha with e | ha
        · exact e.symm
        · exact absurd (a1 b hb) (b1 a ha)
    subst e
    rw [perm_sorted_eq f r r' ((List.perm_cons _).1 hp) a2 b2]

/-- The keys of hits with their turns. -/
def keyW (s : List (Int × Qd)) (h : ∀ e ∈ s, 0 ≤ e.2.tag ∧ e.2.tag ≤ 9 ∧ 0 ≤ e.2.page ∧ e.2.page ≤ 7) : List WK :=
  s.attach.map fun e => ⟨e.1.2.tag, e.1.2.page, wf_small (h e.1 e.2).1 (by have := h e.1 e.2; omega), wf_small (h e.1 e.2).2.2.1 (by have := h e.1 e.2; omega)⟩
def keysOf (s : List (Int × Qd)) : List (Int × Int) := s.map fun e => (e.2.tag, e.2.page)
theorem keyW_prs (s : List (Int × Qd)) (h) : prsW (keyW s h) = keysOf s := by
  unfold prsW keyW keysOf
  rw [List.map_map]
  conv => rhs; rw [← List.attach_map_subtype_val s, List.map_map]
  rfl
theorem keyW_mem (s : List (Int × Qd)) (h) (x : WK) : x ∈ keyW s h ↔ s.any (sel x.t x.p) = true := by
  unfold keyW
  rw [List.mem_map, List.any_eq_true]
  constructor
  · rintro ⟨e, _, rfl⟩
    exact ⟨e.1, e.2, sel_iff.2 ⟨rfl, rfl⟩⟩
  · rintro ⟨e, he, hs⟩
    obtain ⟨h1, h2⟩ := sel_iff.1 hs
    exact ⟨⟨e, he⟩, List.mem_attach _ _, WK.same h1 h2⟩
theorem keyW_nodup (s : List (Int × Qd)) (h) (ha : s.Pairwise fun a b => ¬ (a.2.tag = b.2.tag ∧ a.2.page = b.2.page)) : (keyW s h).Nodup := by
  unfold keyW List.Nodup
  rw [List.pairwise_map]
  have h2 : s.attach.Pairwise fun a b => ¬ (a.1.2.tag = b.1.2.tag ∧ a.1.2.page = b.1.2.page) := by
    have := ha
    rw [← List.attach_map_subtype_val s, List.pairwise_map] at this
    exact this
  refine h2.imp fun {a b} hn e => hn ?_
  have e1 := congrArg WK.t e
  have e2 := congrArg WK.p e
  exact ⟨e1, e2⟩
theorem fnd_self {s : List (Int × Qd)} (ha : s.Pairwise fun a b => ¬ (a.2.tag = b.2.tag ∧ a.2.page = b.2.page)) {e : Int × Qd} (he : e ∈ s) : fnd s e.2.tag e.2.page = e := by
  have hany : s.any (sel e.2.tag e.2.page) = true := List.any_eq_true.2 ⟨e, he, sel_iff.2 ⟨rfl, rfl⟩⟩
  obtain ⟨m1, m2, m3⟩ := fnd_mem hany
  exact apart_eq ha _ m1 e he m2 m3
theorem keyW_rise (s : List (Int × Qd)) (h) (ha : s.Pairwise fun a b => ¬ (a.2.tag = b.2.tag ∧ a.2.page = b.2.page)) (hr : s.Pairwise fun a b => a.1 < b.1) : (keyW s h).Pairwise fun a b => turnOf s a < turnOf s b := by
  unfold keyW
  rw [List.pairwise_map]
  have h2 : s.attach.Pairwise fun a b => a.1.1 < b.1.1 := by
    have := hr
    rw [← List.attach_map_subtype_val s, List.pairwise_map] at this
    exact this
  refine h2.imp fun {a b} hlt => ?_
  unfold turnOf
  rw [fnd_self ha a.2, fnd_self ha b.2]
  exact hlt

theorem enter_keys1 : ∀ args w, (callFunc 57 args).run Try.prog w = .ok (.enter 57 args) w := enters_of Try.func57 (by kernel_rfl) rfl

set_option maxHeartbeats 1000000 in
theorem sorted_keys (Bm Bs sb mb n : Nat) (s : List (Int × Qd)) (w : World) (hm : Hm w mb n s) (c0 : w.cell? ⟨sb, 0, none⟩ = some (.map (some mb))) (cb : w.cell? ⟨Bs, 0, none⟩ = some (.pointer (some ⟨sb, 0, none⟩)))
    (cm : w.cell? ⟨Bm, 0, none⟩ = some (.map (some mb))) (h12 : s.length ≤ 12) (hr : s.Pairwise fun a b => a.1 < b.1) :
    Calls Try.prog 51 #[.func (.func 57) #[] #[.pointer (some ⟨Bm, 0, none⟩)], .func (.func 53) #[] #[.pointer (some ⟨Bs, 0, none⟩)]] w fun e w' => ∃ v, e = .returned v ∧ Prs 59 w' w.heap.size v (keysOf s) ∧ Below w.heap.size w w' := by
  obtain ⟨D, hown, hsz, hhas, _⟩ := hm.ex
  have hC := collect_keys 57 #[.pointer (some ⟨Bm, 0, none⟩)] enter_keys1 _ (Maps.size D) (by rw [hsz]; omega) w (keys_gives 4 (by omega) Bm mb n D w (block_of_cell cm) cm hown)
  have HM : Hid (Hm w mb n s) := hm
  have HC0 : Hid (w.cell? ⟨sb, 0, none⟩ = some (.map (some mb)) ∧ w.cell? ⟨Bs, 0, none⟩ = some (.pointer (some ⟨sb, 0, none⟩))) := ⟨c0, cb⟩
  have hS : ∀ (v : Value) (ss : List WK) (w1 : World), (ss.Nodup ∧ ∀ x : WK, x ∈ ss ↔ Maps.has D (klw x) = true) → Prs 59 w1 w.heap.size v (prsW ss) → Below w.heap.size w w1 →
      Calls Try.prog 56 #[v, .func (.func 53) #[] #[.pointer (some ⟨Bs, 0, none⟩)]] w1 fun e w' => e = .returned (.tuple #[]) ∧ Prs 59 w' w.heap.size v (keysOf s) ∧ Below w.heap.size w w' := by
    intro v ss w1 ⟨hnd, hmem⟩ hP hB
    have hp : ss.Perm (keyW s HM.out.keys) := by
      refine (List.perm_ext_iff_of_nodup hnd (keyW_nodup s _ HM.out.apart)).2 fun x => ?_
      rw [hmem x, keyW_mem, klw, hhas x.t x.p x.ht x.hp]
    have hlen : ss.length ≤ 12 := by rw [hp.length_eq]; simpa [keyW] using h12
    refine (sort_keys v ss w.heap.size Bs sb mb n s w1 hP hlen (HM.out.keep hB) (cell_keep hB HC0.out.1) (cell_keep hB HC0.out.2) (pown_not hP _ (.inl (block_of_cell HC0.out.1))) (pown_not hP _ (.inl (block_of_cell HC0.out.2))) (pown_not hP _ (.inl HM.out.lt))).mono ?_
    rintro e w' ⟨rfl, ts, hp2, hs2, hP2, hg2⟩
    have hts : ts = keyW s HM.out.keys := perm_sorted_eq (turnOf s) _ _ (hp2.trans hp) (keyW_rise s _ HM.out.apart hr) hs2
    rw [hts, keyW_prs] at hP2
    exact ⟨rfl, hP2, pbelow_of_grown hB hg2 hP (Nat.le_refl _)⟩
  have HS : Hid (∀ (v : Value) (ss : List WK) (w1 : World), (ss.Nodup ∧ ∀ x : WK, x ∈ ss ↔ Maps.has D (klw x) = true) → Prs 59 w1 w.heap.size v (prsW ss) → Below w.heap.size w w1 →
      Calls Try.prog 56 #[v, .func (.func 53) #[] #[.pointer (some ⟨Bs, 0, none⟩)]] w1 fun e w' => e = .returned (.tuple #[]) ∧ Prs 59 w' w.heap.size v (keysOf s) ∧ Below w.heap.size w w') := hS
  clear hS hm c0 cb cm hown hhas hsz
  go_enter Try.func51, Try.ntmps51
  go_wp2_with (first | (go_at_call 55; refine hC.mono ?_; rintro e w1 ⟨v, ss, rfl, hSS, hrow, hb⟩; have HX := HS.out v ss w1 hSS hrow hb; clear hSS) | (go_at_call 56; refine HX.mono ?_; rintro e w2 ⟨rfl, hp2, hb2⟩))
  go_ret
  exact ⟨v, rfl, hp2, hb2⟩

set_option maxHeartbeats 1000000 in
theorem impl_inTurn (base sb mb n : Nat) (s : List (Int × Qd)) (nx : Int) (w : World) (S : St w base sb mb n s nx) (h12 : s.length ≤ 12) (hr : s.Pairwise fun a b => a.1 < b.1) :
    Calls Try.prog 44 #[.pointer (some ⟨sb, 0, none⟩)] w fun e w' => ∃ v, e = .returned v ∧ Prs 59 w' w.heap.size v (keysOf s) ∧ Below w.heap.size w w' := by
  have s0 := S.c0
  have gs : sb < w.heap.size := block_of_cell s0
  obtain ⟨u, hu⟩ : ∃ u, (w.alloc (.cells #[.pointer (some ⟨sb, 0, none⟩)] 44)).alloc (.cells #[.map (some mb)] 55) = u := ⟨_, rfl⟩
  have bu : Below w.heap.size w u := by rw [← hu]; exact al (al (Below.refl _ _) _) _
  have k0 : u.cell? ⟨w.heap.size, 0, none⟩ = some (.pointer (some ⟨sb, 0, none⟩)) := by rw [← hu]; exact cell_push _ (cell_new rfl)
  have k1 : u.cell? ⟨w.heap.size + 1, 0, none⟩ = some (.map (some mb)) := by rw [← hu]; have := cell_new (w := w.alloc (.cells #[.pointer (some ⟨sb, 0, none⟩)] 44)) (cs := #[.map (some mb)]) (t := 55) (i := 0) rfl; rwa [World.size_alloc] at this
  have SU := S.keep bu
  have hK := sorted_keys (w.heap.size + 1) w.heap.size sb mb n s u SU.hm SU.c0 k0 k1 h12 hr
  have HU : Hid ((w.alloc (.cells #[.pointer (some ⟨sb, 0, none⟩)] 44)).alloc (.cells #[.map (some mb)] 55) = u) := hu
  have BU : Hid (Below w.heap.size w u) := bu
  clear hu bu k0 k1 SU S
  go_enter Try.func44, Try.ntmps44
  go_wp2_with (first | (go_at_call 52; refine (maps_keys _ _).mono ?_; rintro e w1 ⟨rfl, rfl⟩; rw [HU.out]) | (go_at_call 51; refine hK.mono ?_; rintro e w2 ⟨v, rfl, hp, hb⟩))
  go_ret
  exact ⟨v, rfl, hp.mono BU.out.size, on BU.out hb⟩
end Go.Proofs.Ytaajaikpkcgalaa
