/- The hits of the store in their turn, and a hit filled in where there is no room. -/
import Derived.Test.YtaajaikpkcgalaaItu
import Derived.Test.YtaajaikpkcgalaaQhm
namespace Go.Proofs.Ytaajaikpkcgalaa
open Go.RowKit
set_option linter.unusedVariables false

def hitsOf (s : List (Int × Qd)) : List Qd := s.map (·.2)
theorem hitsOf_length (s : List (Int × Qd)) : (hitsOf s).length = s.length := by simp [hitsOf]
theorem keysOf_get (s : List (Int × Qd)) (j : Nat) (h : j < s.length) : (keysOf s).getD j (0, 0) = (((hitsOf s).getD j qz).tag, ((hitsOf s).getD j qz).page) := by
  simp [keysOf, hitsOf, List.getD, h]
theorem fnd_get {s : List (Int × Qd)} (ha : s.Pairwise fun a b => ¬ (a.2.tag = b.2.tag ∧ a.2.page = b.2.page)) (j : Nat) (h : j < s.length) : (fnd s ((hitsOf s).getD j qz).tag ((hitsOf s).getD j qz).page).2 = (hitsOf s).getD j qz := by
  have e : (hitsOf s).getD j qz = (s[j]).2 := by simp [hitsOf, List.getD, h]
  rw [e, fnd_self ha (List.getElem_mem h)]

set_option maxRecDepth 100000 in
set_option maxHeartbeats 2000000 in
theorem impl_list (base sb mb n : Nat) (s : List (Int × Qd)) (nx : Int) (w : World) (S : St w base sb mb n s nx) (h12 : s.length ≤ 12) (hr : s.Pairwise fun a b => a.1 < b.1) :
    Calls Try.prog 26 #[.pointer (some ⟨sb, 0, none⟩)] w fun e w' => ∃ v, e = .returned v ∧ Qs 65 w' w.heap.size v (hitsOf s) ∧ Below w.heap.size w w' := by
  have hT := impl_inTurn base sb mb n s nx w S h12 hr
  have HS : Hid (St w base sb mb n s nx) := S
  have HA : Hid (s.Pairwise fun a b => ¬ (a.2.tag = b.2.tag ∧ a.2.page = b.2.page)) := S.hm.apart
  have HK : Hid (∀ e ∈ s, 0 ≤ e.2.tag ∧ e.2.tag ≤ 9 ∧ 0 ≤ e.2.page ∧ e.2.page ≤ 7) := S.hm.keys
  have H12 : Hid (s.length ≤ 12) := h12
  clear S h12 hr
  go_enter Try.func26, Try.ntmps26
  go_wp2_with (go_at_call 44; refine hT.mono ?_; rintro e w1 ⟨kv, rfl, hkv, hb1⟩; have HKV : Hid (Prs 59 w1 w.heap.size kv (keysOf s)) := hkv; obtain ⟨ka, kc, rfl, _, _, hkg⟩ := hkv.shape; clear hkv)
  have B1 : Hid (Below w.heap.size w w1) := hb1
  have S1 : Hid (St w1 base sb mb n s nx) := HS.out.keep hb1
  clear hb1 hT
  have hkl : (keysOf s).length = s.length := by simp [keysOf]
  rw [hkl] at HKV hkg ⊢
  clear hkl
  obtain ⟨m, hm⟩ : ∃ m, s.length = m := ⟨_, rfl⟩
  rw [hm] at HKV hkg ⊢
  have HMM : Hid (s.length = m) := hm
  have hm12 : (m : Int) ≤ 12 := by have := H12.out; omega
  clear hm
  go_wp2_with fail
  go_loopw [3, 10] (fun cv c wr => ∃ j : Nat, j ≤ m ∧ c = .int .i64 j ∧ Qs 65 wr w1.heap.size cv ((hitsOf s).take j) ∧ Below w1.heap.size w1 wr) (fun _ c _ => m - (intOf c).toNat)
  case atStart => exact ⟨0, Nat.zero_le _, rfl, Qs.nil _ _ _, Below.refl _ _⟩
  case round =>
    obtain ⟨j, hj, rfl, hQ, hB⟩ := hrel
    have HQ : Hid (Qs 65 wr w1.heap.size u3 ((hitsOf s).take j)) := hQ
    have HB : Hid (Below w1.heap.size w1 wr) := hB
    by_cases hlt : j < m
    case neg =>
      have hI : ¬ (j : Int) < (m : Int) := by omega
      obtain rfl : j = m := by omega
      clear hQ hB
      go_wp2_with fail
      go_ret
      refine ⟨_, rfl, ?_, on B1.out HB.out⟩
      have := HQ.out
      rw [List.take_of_length_le (by rw [hitsOf_length]; exact Nat.le_of_eq HMM.out)] at this
      exact this.mono B1.out.size
    have hI : (j : Int) < (m : Int) := by omega
    obtain ⟨g, rfl⟩ := hkg (by omega)
    have hjs : j < s.length := by have := HMM.out; omega
    have hcell := HKV.out.cell (by have := HMM.out; simp [keysOf]; omega) j hlt
    rw [keysOf_get s j hjs] at hcell
    have c0 := cell_keep hB hcell.1
    have c1 := cell_keep hB hcell.2
    have gb : g < wr.heap.size := block_of_cell c0
    have SR := S1.out.keep hB
    have hsn := take_snoc (hitsOf s) j (by rw [hitsOf_length]; exact hjs)
    have hfg := fnd_get HA.out j hjs
    have hke : 0 ≤ ((hitsOf s).getD j qz).tag ∧ ((hitsOf s).getD j qz).tag ≤ 9 ∧ 0 ≤ ((hitsOf s).getD j qz).page ∧ ((hitsOf s).getD j qz).page ≤ 7 := by
      have e : (hitsOf s).getD j qz = (s[j]).2 := by simp [hitsOf, List.getD, hjs]
      rw [e]
      exact HK.out _ (List.getElem_mem hjs)
    have HLT : Hid (j < m) := hlt
    have HLQ : Hid (((hitsOf s).take j).length ≤ 1000) := by show _ ≤ _; rw [List.length_take]; have := H12.out; have := HMM.out; omega
    clear hcell hlt hjs hB hQ
    simp only at c0 c1
    generalize (hitsOf s).getD j qz = q at *
    obtain ⟨t, p, o, k⟩ := q
    simp only at c0 c1 hfg hke
    have HSN : Hid ((hitsOf s).take (j + 1) = (hitsOf s).take j ++ [⟨t, p, o, k⟩]) := hsn
    clear hsn
    obtain ⟨u, hu⟩ : ∃ u, wr.alloc (.cells #[.int .i64 t, .int .i64 p] 59) = u := ⟨_, rfl⟩
    have bu : Below wr.heap.size wr u := by rw [← hu]; exact al (Below.refl _ _) _
    have k0 : u.cell? ⟨wr.heap.size, 0, none⟩ = some (.int .i64 t) := by rw [← hu]; exact cell_new rfl
    have k1 : u.cell? ⟨wr.heap.size, 1, none⟩ = some (.int .i64 p) := by rw [← hu]; exact cell_new rfl
    have SU := SR.keep bu
    have s0 := SU.c0
    have gs : sb < u.heap.size := block_of_cell s0
    have gk : wr.heap.size < u.heap.size := block_of_cell k0
    have wt : wfI t := wf_small hke.1 (by omega)
    have wp : wfI p := wf_small hke.2.2.1 (by omega)
    have L1 := SU.hm.drew.look wt wp
    have L2 := (SU.hm.alloc (.cells #[.int .i64 0, .int .i64 0] 51)).drew.look wt wp
    rw [hfg] at L1 L2
    generalize (fnd s t p).1 = f1 at *
    have HU : Hid (wr.alloc (.cells #[.int .i64 t, .int .i64 p] 59) = u) := hu
    have BU : Hid (Below w1.heap.size w1 u) := on HB.out bu
    have QU : Hid (Qs 65 u w1.heap.size u3 ((hitsOf s).take j)) := HQ.out.keep bu
    have hfs := field_says
    simp only at L1 L2
    clear hu bu SU SR hke hfg wt wp
    go_wp2_with fail
    rw [HU.out]
    go_region
    all_goals
      obtain ⟨x, hx⟩ : ∃ x, (u.alloc (.cells #[.int .i64 o, .int .i64 k] 51)).drew = x := ⟨_, rfl⟩
      have bx : Below u.heap.size u x := by rw [← hx]; exact (al (Below.refl _ _) _).drew
      have p0 : x.cell? ⟨u.heap.size, 0, none⟩ = some (.int .i64 o) := by rw [← hx]; exact cell_new rfl
      have p1 : x.cell? ⟨u.heap.size, 1, none⟩ = some (.int .i64 k) := by rw [← hx]; exact cell_new rfl
      have k0 := cell_keep bx k0
      have k1 := cell_keep bx k1
      rw [hx]
      clear hx L1 L2
      have BX : Hid (Below w1.heap.size w1 x) := on BU.out bx
      have QX : Hid (Qs 65 x w1.heap.size u3 ((hitsOf s).take j)) := QU.out.keep bx
      have g1 : wr.heap.size < x.heap.size := block_of_cell k0
      have g2 : u.heap.size < x.heap.size := block_of_cell p0
      obtain ⟨qa, qc, hqv, _, _, _⟩ := QX.out.shape
      clear bx
      go_wp2_with (at_builtin; refine wp_quad 24 65 Try.underlying24 info_hit _ rfl _ _ rfl w1.heap.size u3 ((hitsOf s).take j) rfl (QX.out.keep (al (Below.refl _ _) _)) x.heap.size ⟨t, p, o, k⟩ rfl (cell_new rfl) (cell_new rfl) (cell_new rfl) (cell_new rfl) (by have := HLQ.out; omega) (by have := BX.out.size; simp; omega) ?_; intro v' w5 hn5 hg5; have N5 : Hid (Qs 65 w5 w1.heap.size v' ((hitsOf s).take j ++ [⟨t, p, o, k⟩])) := hn5; have B5 : Hid (Below w1.heap.size w1 w5) := qbelow_of_grown (al BX.out _) hg5 (QX.out.keep (al (Below.refl _ _) _)) (Nat.le_refl _); clear hn5 hg5)
      go_roundw
      case rel => exact ⟨j + 1, by have := HLT.out; omega, by go_num, by rw [HSN.out]; exact N5.out, B5.out⟩
      case measure => have := HLT.out; simp [intOf]; omega
end Go.Proofs.Ytaajaikpkcgalaa
