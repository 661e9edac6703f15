/- A region that draws its order, whose operations read and whose calls may lay memory of their own; what FnCsrs asks of values. -/
import Derived.Test.YteaccakodaidpaaHdc
import Derived.Test.YteaccakodaidpaaHsh
import Derived.Test.YteaccakodaidpaaHvf
import Derived.Test.YteaccakodaidpaaHoa
import Derived.Test.YteaccakodaidpaaHoi
import Derived.Deep.QuietTactic
namespace Go.Proofs.Yteaccakodaidpaa
open Go.RowKit
set_option linter.unusedVariables false

/-- A world that keeps what was there in W. -/
structure BW (W : World) where
  w : World
  h : Below W.heap.size W w
theorem region_bw {id : Nat} {Q : Exit → Act → World → Prop} {a : Act} {W : World} {l : List Oper} (hB : Region.lexB .any l.toArray = true)
    (h : wpQuiet Try.prog l.toArray (fun w' => ∃ p : BW W, w' = p.w) (fun a' => ∀ w', (∃ p : BW W, w' = p.w) → Q .normal a' w') l a) : (Code.region id l.toArray true).wp Try.prog Q a W :=
  wp_region_quiet (C := fun w' => ∃ p : BW W, w' = p.w) (by kernel_rfl) hB ⟨⟨{ W with drawn := W.drawn + 1 }, (Below.refl _ _).drew⟩, rfl⟩ (by simpa using h)
theorem calls_bw {f : FuncId} {args : Array Value} {W : World} {p : BW W} {v : Value}
    (h : Calls Try.prog f args p.w fun e w' => e = .returned v ∧ Below p.w.heap.size p.w w') : Calls Try.prog f args p.w fun e w'' => e = .returned v ∧ ∃ q : BW W, w'' = q.w :=
  h.mono fun _ w' ⟨he, hb⟩ => ⟨he, ⟨w', on p.h hb⟩, rfl⟩
theorem BW.cell {W : World} {a : Addr} {v : Value} (h : W.cell? a = some v) (p : BW W) : p.w.cell? a = some v := cell_keep p.h h

/-- What FnCsrs asks of a machine whose number n was set. -/
structure Csf (H G : Ht) (n x : Int) : Prop where
  n0 : 0 ≤ n
  n10 : n ≤ 10
  okG : hfV G = 0
  gG : getR G n = (0, getV G n)
  other : ∀ i : Nat, i < 11 → (i : Int) ≠ n → i ≠ 6 → getR G i = getR H i
  scratch : n = 5 → getV G n = wd x
  time : n = 8 → getV G n = H.done
  again : setR G n x = (0, setV G n x)
  same : getR (setV G n x) n = (0, getV G n)
  regs : G.regs = H.regs
theorem csf {H : Ht} {n x : Int} (h : (setR H n x).1 = 0) : Csf H (setR H n x).2 n x := by
  have hf : hfV H = 0 := by
    by_cases h0 : hfV H = 0
    · exact h0
    · simp only [setR, if_neg h0] at h; exact absurd h h0
  have hn : (decide (0 ≤ n) && decide (n ≤ 10)) = true := by
    by_cases h1 : (decide (0 ≤ n) && decide (n ≤ 10)) = true
    · exact h1
    · simp only [setR, if_pos hf, if_neg h1] at h; cases h
  obtain ⟨n0, n10⟩ : 0 ≤ n ∧ n ≤ 10 := by simpa using hn
  have e2 : (setR H n x).2 = setV H n x := by simp only [setR, if_pos hf, if_pos hn]
  rw [e2]
  have K : Hok H := hok_of hf
  have KG : Hok (setV H n x) := setV_hok K n x n0 n10
  have hg : hfV (setV H n x) = 0 := hfV_ok KG
  have K2 : Hok (setV (setV H n x) n x) := setV_hok KG n x n0 n10
  have hg2 : hfV (setV (setV H n x) n x) = 0 := hfV_ok K2
  have gz : ∀ (Y : Ht) (i : Int), hfV Y = 0 → 0 ≤ i → i ≤ 10 → getR Y i = (0, getV Y i) := fun Y i y0 i0 i1 => by
    have : (decide (0 ≤ i) && decide (i ≤ 10)) = true := by simp [i0, i1]
    simp only [getR, if_pos y0, if_pos this]
  refine ⟨n0, n10, hg, gz _ _ hg n0 n10, fun i hi hne h6 => ?_, fun e => ?_, fun e => ?_, by simp only [setR, if_pos hg, if_pos hn], ?_, rfl⟩
  · rw [gz _ _ hg (by omega) (by omega), gz _ _ hf (by omega) (by omega), set_other K n x n0 n10 i hi hne h6]
  · subst e; exact set_scratch K x
  · subst e; exact set_time x
  · rw [gz _ _ hg2 n0 n10, set_again K n x n0 n10]
end Go.Proofs.Yteaccakodaidpaa
