/- An array of structs that is laid, by its words. -/
import Derived.Test.YtnggkofddokplaaGreatDoorFmv
import Derived.OpenShut
import Derived.ChangeArms
namespace Go.Proofs.YtnggkofddokplaaGreatDoor
open Go.RowKit
set_option linter.unusedVariables false

theorem forms_word {H : Type} {enc : TypeId × Value → H} {P : Program} {w : World} {base : Nat} {sp : Nat → Bool} {held : Bool} {fuel : Nat} {t e : TypeId} {n : Nat} {f0 f1 f2 : Field} {cs : List Value} {ds : List (DataW H)} {p : List MemPlace}
    (ht : P.underlying t = some (.array n e)) (he : P.underlying e = some (.struct #[f0, f1, f2])) (ce : P.cellsOf e = 3) (o0 : f0.offset = 0) (u0 : P.underlying f0.type = some .string) (c0 : P.cellsOf f0.type = 1)
    (h : DataW.trod enc P w base sp held fuel t cs = some (.agg ds, p)) (i : Nat) (hi : i < n) (s : List UInt8) (d1 d2 : DataW H) (hd : ds[i]? = some (.agg [.lit (.string s), d1, d2])) : cs[i * 3]? = some (.string (bs s)) := by
  obtain ⟨xs, m, _, hx, _, hxl, hf⟩ := DataW.trod_array ht h
  have h1 := hf i hi
  rw [ce] at h1
  obtain ⟨y, hy⟩ : ∃ y, xs[i]? = some y := ⟨xs[i]'(by omega), List.getElem?_eq_getElem (by omega)⟩
  rw [hy] at h1
  obtain ⟨zs, k, _, hz, _, hzl, hg⟩ := DataW.trod_struct he h1
  have hds : ds = xs.map (·.1) := by
    have := congrArg Prod.fst hx
    simpa using this
  match zs, hzl with
  | [y0, y1, y2], _ =>
    have g0 := hg 0 f0 rfl
    simp only [o0, c0, List.drop_zero, List.getElem?_cons_zero] at g0
    obtain ⟨b, hb, rfl, _⟩ := DataW.trod_string u0 g0
    rw [hds, List.getElem?_map, hy, hz] at hd
    simp only [Option.map_some, List.map_cons, List.map_nil, Option.some.injEq, DataW.agg.injEq, List.cons.injEq, DataW.lit.injEq, Lit.string.injEq] at hd
    obtain ⟨rfl, _⟩ := hd
    have e : bs b.data.toList = b := by
      apply ByteArray.ext
      simp [bs]
    rw [e]
    have := congrArg (·[0]?) hb
    simpa [List.getElem?_take, List.getElem?_drop] using this
end Go.Proofs.YtnggkofddokplaaGreatDoor
