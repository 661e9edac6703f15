/- Texts of this seat, joined. -/
import Derived.Deep.RegionWith
import Derived.Deep.RegionHeld3
import Derived.Deep.Cut
import Derived.Deep.CutRange
import Derived.Test.YthnaggeilbcioaaGreatDoorQ21
import Derived.Test.YthnaggeilbcioaaGreatDoorQ30
import Derived.Test.YthnaggeilbcioaaGreatDoorQ37
import Derived.Test.YthnaggeilbcioaaGreatDoorQ38
import Derived.Test.YthnaggeilbcioaaGreatDoorQ40
import Derived.Test.YthnaggeilbcioaaGreatDoorQ43
import Derived.Test.YthnaggeilbcioaaGreatDoorQ44
namespace Go.Proofs.YthnaggeilbcioaaGreatDoor
open Go.RowKit
set_option linter.unusedVariables false

def frC (X : Hst) (g : Int) : Int := if hoV X = 0 then (if isG X.pol.own.length g = true then 0 else 4) else hoV X
def frH (X : Hst) (g : Int) : Ht := if frC X g = 0 then X.harts.getD g.toNat voidH else voidH
def frP (X : Hst) (g : Int) : List (Int × Int) := if frC X g = 0 then aloL (pforL (X.pol.own.getD g.toNat []) X.pol.lanes g 8) else []
def frZ (X : Hst) (g : Int) : List Int := if frC X g = 0 then seeS (pforL (X.pol.own.getD g.toNat []) X.pol.lanes g 8) X.mem 8 else []
theorem fr_not (X : Hst) (g : Int) (h : frC X g ≠ 0) : frH X g = voidH ∧ frP X g = [] ∧ frZ X g = [] :=
  ⟨by rw [frH, if_neg h], by rw [frP, if_neg h], by rw [frZ, if_neg h]⟩
theorem fr_yes (X : Hst) (g : Int) (h : frC X g = 0) : frH X g = X.harts.getD g.toNat voidH ∧ frP X g = aloL (pforL (X.pol.own.getD g.toNat []) X.pol.lanes g 8) ∧ frZ X g = seeS (pforL (X.pol.own.getD g.toNat []) X.pol.lanes g 8) X.mem 8 :=
  ⟨by rw [frH, if_pos h], by rw [frP, if_pos h], by rw [frZ, if_pos h]⟩
theorem flanes_pg (own : List (List Int)) : ∀ (ls ahead : List Ln), lanesV own ahead ls = 0 → ∀ l ∈ ls, 0 ≤ l.pg ∧ l.pg < 24 := by
  intro ls
  induction ls with
  | nil => intro ahead _ l hl; cases hl
  | cons a t ih =>
    intro ahead h
    rw [lanesV] at h
    split at h
    · rename_i h1
      intro l hl
      rcases List.mem_cons.1 hl with rfl | hl
      · unfold laneV at h1
        split at h1
        · split at h1
          · cases h1
          · rename_i h2
            have h3 : pgOk l.pg = true := by
              cases e : pgOk l.pg
              · exact absurd (.inl e) h2
              · rfl
            unfold pgOk at h3
            simp at h3
            omega
        · rename_i h2
          exact absurd h1 h2
      · exact ih _ h l hl
    · rename_i h1
      exact absurd h h1
theorem harts_eachF : ∀ (hs : List Ht), hartsV hs = 0 → ∀ j, j < hs.length → hfV (hs.getD j voidH) = 0
  | [], _, j, hj => absurd hj (Nat.not_lt_zero _)
  | h :: t, hv, j, hj => by
    rw [hartsV] at hv
    split at hv
    · rename_i h0
      match j, hj with
      | 0, _ => exact h0
      | j + 1, hj => exact harts_eachF t hv j (by simpa using hj)
    · rename_i h0
      exact absurd hv h0
theorem first_in (g k : Int) : ∀ ls : List Ln, (∀ l ∈ ls, 0 ≤ l.pg ∧ l.pg < 24) → firstM g k ls = (-1, 0) ∨ ((0 ≤ (firstM g k ls).1 ∧ (firstM g k ls).1 ≤ 23) ∧ (firstM g k ls).2 ≠ 0)
  | [], _ => .inl rfl
  | l :: t, h => by
    rw [firstM]
    unfold matchL
    have h1 := h l (by simp)
    split
    · rename_i x hx
      right
      split at hx
      · simp at hx; subst hx; exact ⟨⟨h1.1, by show l.pg ≤ 23; omega⟩, by show (3 : Int) ≠ 0; decide⟩
      · split at hx
        · simp at hx; subst hx; exact ⟨⟨h1.1, by show l.pg ≤ 23; omega⟩, by show (1 : Int) ≠ 0; decide⟩
        · cases hx
    · exact first_in g k t fun x hx => h x (by simp [hx])
theorem pforL_at (ow : List Int) (ls : List Ln) (g : Int) (k : Nat) (hk : k < 8) : (pforL ow ls g 8).getD k (0, 0) = pageV ow ls g k := by
  unfold pforL
  rw [List.getD, List.getElem?_map, List.getElem?_range hk]
  rfl
/-- A host without a fault and one of its guests: its machine, its memory, its pages. -/
structure Fok (X : Hst) (g : Nat) : Prop where
  g0 : g < X.pol.own.length
  hl : X.harts.length = X.pol.own.length
  hk : Hok (X.harts.getD g voidH)
  ml : X.mem.length = 192
  pp : pfV X.pol = 0
  pg : ∀ k, k < 8 → (pforL (X.pol.own.getD g []) X.pol.lanes (g : Int) 8).getD k (0, 0) = (-1, 0) ∨ ((0 ≤ ((pforL (X.pol.own.getD g []) X.pol.lanes (g : Int) 8).getD k (0, 0)).1 ∧ ((pforL (X.pol.own.getD g []) X.pol.lanes (g : Int) 8).getD k (0, 0)).1 ≤ 23) ∧ ((pforL (X.pol.own.getD g []) X.pol.lanes (g : Int) 8).getD k (0, 0)).2 ≠ 0)
theorem Fok.to_ {X : Hst} {g : Nat} (h : Fok X g) : ∀ k, k < 8 → ((pforL (X.pol.own.getD g []) X.pol.lanes (g : Int) 8).getD k (0, 0)).1 = -1 ∨ (0 ≤ ((pforL (X.pol.own.getD g []) X.pol.lanes (g : Int) 8).getD k (0, 0)).1 ∧ ((pforL (X.pol.own.getD g []) X.pol.lanes (g : Int) 8).getD k (0, 0)).1 ≤ 23) := fun k hk => by
  rcases h.pg k hk with e | e
  · exact .inl (by rw [e])
  · exact .inr e.1
theorem fok_of {X : Hst} {g : Nat} (h : hoV X = 0) (hg : isG X.pol.own.length (g : Int) = true) : Fok X g := by
  obtain ⟨hp, _, _⟩ := ho_ok h
  have hgl : g < X.pol.own.length := by have := (isG_iff _ _).1 hg; omega
  have hpp := pf_parts X.pol hp
  have ho := pf_own X.pol hp g hgl
  unfold hoV at h
  rw [if_pos hp] at h
  split at h
  case isFalse => cases h
  rename_i hm
  split at h
  case isFalse h3 => exact absurd h h3
  rename_i hh
  have hml : X.mem.length = 192 := by have := hm.1; unfold wholeB at this; simp at this; exact this.1
  refine ⟨hgl, hm.2, hok_of (harts_eachF X.harts hh g (by omega)), hml, hp, fun k hk => ?_⟩
  rw [pforL_at _ _ _ k hk]
  unfold pageV
  split
  · rename_i h1
    right
    have h2 := ho.2.2 ((X.pol.own.getD g []).getD k 0) (getD_mem _ 0 k h1)
    exact ⟨h2, by show (7 : Int) ≠ 0; decide⟩
  · exact first_in _ _ _ (flanes_pg _ _ _ hpp.2.2.1)
end Go.Proofs.YthnaggeilbcioaaGreatDoor
namespace Go.Proofs.YthnaggeilbcioaaGreatDoor
open Go.RowKit
set_option linter.unusedVariables false

theorem mq_cell {S : Nat → Prop} {u u' : World} {ad : Addr} {v : Value} (m : Mq S u u') (h : u.cell? ad = some v) (hn : ¬ S ad.block) : u'.cell? ad = some v := by
  have hl : ad.block < u.heap.size := block_of_cell h
  have e := m.block ad.block hl hn
  unfold World.cell? at h ⊢
  rw [e]
  exact h
theorem prs_first {e : TypeId} {w : World} {base g n cap : Nat} {rs : List (Int × Int)} (h : Prs e w base (.slice (some ⟨g, 0, none⟩) n cap) rs) (hn : n = rs.length) (j : Nat) (u : Int) (hj : j < n) :
    Prs e (w.setCell ⟨g, j * 2, none⟩ (.int .i64 u)) base (.slice (some ⟨g, 0, none⟩) n cap) (rs.set j (u, (rs.getD j (0, 0)).2)) := by
  subst hn
  have h1 := (World.ownsRow.stored h (j * 2) (.int .i64 u)).1
  have e1 : (flat rs).set (j * 2) (.int .i64 u) = flat (rs.set j (u, (rs.getD j (0, 0)).2)) := by
    rw [flat_set rs j _ _ hj]
    apply List.ext_getElem?
    intro i
    by_cases hi : j * 2 + 1 = i
    · subst hi
      rw [List.getElem?_set_ne (by omega), (flat_get rs j hj).2, List.getElem?_set_self (by rw [List.length_set, flat_length]; omega)]
    · rw [List.getElem?_set_ne hi]
  rw [e1] at h1
  unfold Prs
  rw [List.length_set]
  exact h1
def m11 (ps : List (Int × Int)) : Nat → List (Int × Int)
  | 0 => ps
  | k + 1 => if 0 ≤ ((m11 ps k).getD k (0, 0)).1 then (m11 ps k).set k ((k : Int), ((m11 ps k).getD k (0, 0)).2) else m11 ps k
theorem m11_len (ps : List (Int × Int)) : ∀ k, (m11 ps k).length = ps.length
  | 0 => rfl
  | k + 1 => by
    rw [m11]
    split
    · rw [List.length_set, m11_len ps k]
    · exact m11_len ps k
theorem m11_rest (ps : List (Int × Int)) (i : Nat) : ∀ k, k ≤ i → (m11 ps k).getD i (0, 0) = ps.getD i (0, 0)
  | 0, _ => rfl
  | k + 1, h => by
    rw [m11]
    split
    · rw [List.getD, List.getElem?_set_ne (by omega)]
      exact m11_rest ps i k (by omega)
    · exact m11_rest ps i k (by omega)
theorem m11_done (ps : List (Int × Int)) (i : Nat) (hi : i < ps.length) : ∀ k, i < k → (m11 ps k).getD i (0, 0) = if 0 ≤ (ps.getD i (0, 0)).1 then ((i : Int), (ps.getD i (0, 0)).2) else ps.getD i (0, 0)
  | 0, h => by omega
  | k + 1, h => by
    rw [m11]
    by_cases e : i = k
    · subst e
      rw [m11_rest ps i i (Nat.le_refl _)]
      split
      · rw [List.getD, List.getElem?_set_self (by rw [m11_len]; exact hi)]
        rfl
      · exact m11_rest ps i i (Nat.le_refl _)
    · have ih := m11_done ps i hi k (by omega)
      split
      · rw [List.getD, List.getElem?_set_ne (by omega)]
        exact ih
      · exact ih
theorem m11_alo (ps : List (Int × Int)) (h8 : ps.length = 8) (h : ∀ k, k < 8 → ps.getD k (0, 0) = (-1, 0) ∨ ((0 ≤ (ps.getD k (0, 0)).1 ∧ (ps.getD k (0, 0)).1 ≤ 23) ∧ (ps.getD k (0, 0)).2 ≠ 0)) : m11 ps 8 = aloL ps := by
  have lm : (m11 ps 8).length = 8 := by rw [m11_len, h8]
  apply List.ext_getElem (by rw [lm, aloL_len])
  intro i h1 h2
  have hi : i < 8 := by omega
  have a := m11_done ps i (by omega) 8 hi
  have b := aloL_at ps i hi
  rw [List.getD, List.getElem?_eq_getElem h1] at a
  rw [List.getD, List.getElem?_eq_getElem h2] at b
  simp only [Option.getD_some] at a b
  rw [a, b]
  unfold aloV
  rcases h i hi with e | e
  · rw [e, if_neg (by decide), if_pos rfl]
  · rw [if_pos e.1.1, if_neg e.2]
set_option maxRecDepth 20000 in
set_option maxHeartbeats 8000000 in
theorem s_pages11 (q : Nat) (gu : Int) (P : Plc) (w : World) (h : PolAt w q P) (hgu : 0 ≤ gu ∧ gu < P.own.length) (hp : pfV P = 0) (hf : ∀ k, k < 8 → (pforL (P.own.getD gu.toNat []) P.lanes gu 8).getD k (0, 0) = (-1, 0) ∨ ((0 ≤ ((pforL (P.own.getD gu.toNat []) P.lanes gu 8).getD k (0, 0)).1 ∧ ((pforL (P.own.getD gu.toNat []) P.lanes gu 8).getD k (0, 0)).1 ≤ 23) ∧ ((pforL (P.own.getD gu.toNat []) P.lanes gu 8).getD k (0, 0)).2 ≠ 0)) :
    Calls Tryz.prog 49 #[.pointer (some ⟨q, 0, none⟩), .int .i64 gu] w fun e w' => ∃ v, e = .returned v ∧ Prs 77 w' w.heap.size v (aloL (pforL (P.own.getD gu.toNat []) P.lanes gu 8)) ∧ Below w.heap.size w w' := by
  have PE := pfor_eq (P.own.getD gu.toNat []) P.lanes gu (pf_own P hp gu.toNat (by omega)).2.1 (pf_lanes P hp)
  have L7 := l7_pages q gu P w h hgu hp
  rw [PE] at L7
  have M8 : Hid (m11 (pforL (P.own.getD gu.toNat []) P.lanes gu 8) 8 = aloL (pforL (P.own.getD gu.toNat []) P.lanes gu 8)) := m11_alo _ (pforL_len _ _ _ _) hf
  have PL : Hid ((pforL (P.own.getD gu.toNat []) P.lanes gu 8).length = 8) := pforL_len _ _ _ _
  obtain ⟨PS, hPS⟩ : ∃ PS, (pforL (P.own.getD gu.toNat []) P.lanes gu 8) = PS := ⟨_, rfl⟩
  rw [hPS] at L7 M8 PL ⊢
  clear hPS PE hf h hp
  rw [← M8.out]
  go_enter Tryz.func49, Tryz.ntmps49
  go_wp2_with fail
  refine L7.mono ?_
  clear L7
  rintro e w1 ⟨v, rfl, pr, b1⟩
  obtain ⟨la, lc, hle, hc1, hc2, hls⟩ := pr.shape
  rw [PL.out] at hle hls
  obtain ⟨pb, hpb⟩ := hls (by decide)
  subst hpb
  subst hle
  have L1 : Hid (Prs 77 w1 w.heap.size (.slice (some ⟨pb, 0, none⟩) 8 lc) PS) := pr
  have B1 : Hid (Below w.heap.size w w1) := b1
  have PB : Hid (w.heap.size ≤ pb) := (pr.lt pb rfl).1
  clear pr b1 hls hc1 hc2
  go_wp2_with fail
  go_loopw [6] (fun c wr => ∃ k : Nat, k ≤ 8 ∧ c = .int .i64 (k : Int) ∧ Prs 77 wr w.heap.size (.slice (some ⟨pb, 0, none⟩) 8 lc) (m11 PS k) ∧ Below w.heap.size w wr) (fun c _ => 8 - (intOf c).toNat)
  case atStart => exact ⟨0, by decide, rfl, L1.out, B1.out⟩
  case round =>
    obtain ⟨k, hk, rfl, hL, hB⟩ := hrel
    have HL : Hid (Prs 77 wr w.heap.size (.slice (some ⟨pb, 0, none⟩) 8 lc) (m11 PS k)) := hL
    have HB : Hid (Below w.heap.size w wr) := hB
    have ML : Hid (8 = (m11 PS k).length) := by show _ = _; rw [m11_len, PL.out]
    by_cases hlt : k < 8
    · have hI : (k : Int) < 8 := by omega
      have HLT : Hid (k < 8) := hlt
      have cc := hL.cell ML.out k hlt
      have c0 := cc.1
      have f0 := hL.free ML.out (k * 2)
      have lt := block_of_cell c0
      have MS : Hid (m11 PS (k + 1) = if 0 ≤ ((m11 PS k).getD k (0, 0)).1 then (m11 PS k).set k ((k : Int), ((m11 PS k).getD k (0, 0)).2) else m11 PS k) := by show _ = _; rw [m11]
      have ST : Hid (Prs 77 (wr.setCell ⟨pb, k * 2, none⟩ (.int .i64 (k : Int))) w.heap.size (.slice (some ⟨pb, 0, none⟩) 8 lc) ((m11 PS k).set k ((k : Int), ((m11 PS k).getD k (0, 0)).2))) := prs_first hL ML.out k (k : Int) hlt
      obtain ⟨tk, htk⟩ : ∃ z, ((m11 PS k).getD k (0, 0)).1 = z := ⟨_, rfl⟩
      rw [htk] at c0 MS
      clear hlt hL hB cc htk
      by_cases h0 : 0 ≤ tk
      · have ME : Hid (m11 PS (k + 1) = (m11 PS k).set k ((k : Int), ((m11 PS k).getD k (0, 0)).2)) := by show _ = _; rw [MS.out, if_pos h0]
        go_wp2_with fail
        go_roundw
        case rel => exact ⟨k + 1, by have := HLT.out; omega, by go_num, by rw [ME.out]; exact ST.out, HB.out.setCell (by have := PB.out; show w.heap.size ≤ pb; omega) _⟩
        case measure => have := HLT.out; simp [intOf]; omega
      · have ME : Hid (m11 PS (k + 1) = m11 PS k) := by show _ = _; rw [MS.out, if_neg h0]
        go_wp2_with fail
        go_roundw
        case rel => exact ⟨k + 1, by have := HLT.out; omega, by go_num, by rw [ME.out]; exact HL.out, HB.out⟩
        case measure => have := HLT.out; simp [intOf]; omega
    · have hJ : ¬ (k : Int) < 8 := by omega
      obtain rfl : k = 8 := by omega
      clear hlt hL hB
      go_wp2_with fail
      go_ret
      exact ⟨_, rfl, HL.out, HB.out⟩
set_option maxRecDepth 20000 in
set_option maxHeartbeats 8000000 in
theorem s_feed16 (t om mq p gw wc : Nat) (zs ws : List Int) (b b' : Nat) (w : World) (hc : w.cell? ⟨t, 10, none⟩ = some (.slice (some ⟨om, 0, none⟩) 64 mq)) (hto : t ≠ om) (hz : Nums w b (.slice (some ⟨om, 0, none⟩) 64 mq) zs) (h64 : zs.length = 64) (hp : p ≤ 7) (hw : Nums w b' (.slice (some ⟨gw, 0, none⟩) 8 wc) ws) (h8 : ws.length = 8) (hgo : gw ≠ om) :
    Calls Tryz.prog 51 #[.pointer (some ⟨t, 0, none⟩), .int .i64 (p : Int), .slice (some ⟨gw, 0, none⟩) 8 wc] w fun e w' => e = .returned (.tuple #[]) ∧ Nums w' b (.slice (some ⟨om, 0, none⟩) 64 mq) (fzL zs p ws 8) ∧ Mq (fun k => k = om) w w' := by
  have C : Hid (w.cell? ⟨t, 10, none⟩ = some (.slice (some ⟨om, 0, none⟩) 64 mq) ∧ t ≠ om ∧ gw ≠ om) := ⟨hc, hto, hgo⟩
  have HZ : Hid (Nums w b (.slice (some ⟨om, 0, none⟩) 64 mq) zs ∧ zs.length = 64 ∧ p ≤ 7) := ⟨hz, h64, hp⟩
  have HW : Hid (Nums w b' (.slice (some ⟨gw, 0, none⟩) 8 wc) ws ∧ ws.length = 8) := ⟨hw, h8⟩
  have hp7 : (p : Int) ≤ 7 := by omega
  clear hc hto hz h64 hp hw h8 hgo
  have CM : Hid (∀ (u u' : World) (ad : Addr) (v : Value), u.cell? ad = some v → Mq (fun k => k = om) u u' → ad.block ≠ om → u'.cell? ad = some v) := fun u u' ad v h m hn => mq_cell m h hn
  go_enter Tryz.func51, Tryz.ntmps51
  go_wp2_with fail
  go_loopw [6] (fun c wr => ∃ j : Nat, j ≤ 8 ∧ c = .int .i64 (j : Int) ∧ Nums wr b (.slice (some ⟨om, 0, none⟩) 64 mq) (fzL zs p ws j) ∧ Mq (fun k => k = om) w wr) (fun c _ => 8 - (intOf c).toNat)
  case atStart => exact ⟨0, by decide, rfl, by rw [fz_zero]; exact HZ.out.1, Mq.refl _ _⟩
  case round =>
    obtain ⟨j, hj, rfl, hN, hM⟩ := hrel
    have HN : Hid (Nums wr b (.slice (some ⟨om, 0, none⟩) 64 mq) (fzL zs p ws j)) := hN
    have HM : Hid (Mq (fun k => k = om) w wr) := hM
    clear hN hM
    by_cases hlt : j < 8
    · have hI : (j : Int) < 8 := by omega
      have HLT : Hid (j < 8) := hlt
      obtain ⟨z, hz⟩ : ∃ z, ws.getD j 0 = z := ⟨_, rfl⟩
      have KZ : Hid (∀ u, Mq (fun k => k = om) wr u → u.cell? ⟨gw, j, none⟩ = some (.int .i64 z) ∧ u.cell? ⟨t, 10, none⟩ = some (.slice (some ⟨om, 0, none⟩) 64 mq)) := fun u hu => ⟨CM.out _ _ _ _ (by have := HW.out.1.cell HW.out.2.symm j HLT.out; rw [hz] at this; exact this) (HM.out.trans hu) C.out.2.2, CM.out _ _ _ _ C.out.1 (HM.out.trans hu) C.out.2.1⟩
      have FS : Hid (fzL zs p ws (j + 1) = (fzL zs p ws j).set (p * 8 + j) z) := by show _ = _; rw [fz_succ zs p ws j HZ.out.2.1 HZ.out.2.2 HW.out.2 HLT.out, hz]
      have FL : Hid ((fzL zs p ws j).length = 64) := fz_len zs p ws j HZ.out.2.1 HZ.out.2.2 HW.out.2 (by have := HLT.out; omega)
      clear hlt hj hz
      go_upto_region 3 with fail
      refine wp_region_held (S := fun w' => Mq (fun k => k = om) wr w') (by kernel_rfl) ?_
      change wpAnyH _ _ _ _ _ _ _ _ (World.drew _)
      have SD : Hid (Mq (fun k => k = om) wr wr.drew) := ⟨rfl, rfl, rfl, Nat.le_refl _, fun _ _ _ => rfl⟩
      have SS : Hid (Nums wr.drew b (.slice (some ⟨om, 0, none⟩) 64 mq) (fzL zs p ws j)) := HN.out.keep (Below.refl _ _).drew
      generalize wr.drew = v0 at *
      refine wpAnyH_take (i := 0) (v := (.pointer (some ⟨t, 0, none⟩))) rfl (by kernel_rfl) (by kernel_rfl) (by kernel_rfl) (fun _ _ _ h => h) (Or.inl ⟨by rfl, fun w' hs => by go_simp⟩) SD.out ?_
      change wpAnyH _ _ _ _ _ _ _ (Act.put _ (some 13) _) _
      simp only [Act.put, List.setIfInBounds_toArray, List.set_cons_zero, List.set_cons_succ]
      refine wpAnyH_take (i := 1) (v := (.pointer (some ⟨t, 0, none⟩))) rfl (by kernel_rfl) (by kernel_rfl) (by kernel_rfl) (fun _ _ _ h => h) (Or.inl ⟨by rfl, fun w' hs => by go_simp⟩) SD.out ?_
      change wpAnyH _ _ _ _ _ _ _ (Act.put _ (some 14) _) _
      simp only [Act.put, List.setIfInBounds_toArray, List.set_cons_zero, List.set_cons_succ]
      refine wpAnyH_take (i := 2) (v := (.pointer (some ⟨t, 10, none⟩))) rfl (by kernel_rfl) (by kernel_rfl) (by kernel_rfl) (fun _ _ _ h => h) (Or.inl ⟨by rfl, fun w' hs => by go_simp⟩) SD.out ?_
      change wpAnyH _ _ _ _ _ _ _ (Act.put _ (some 15) _) _
      simp only [Act.put, List.setIfInBounds_toArray, List.set_cons_zero, List.set_cons_succ]
      refine wpAnyH_take (i := 3) (v := (.slice (some ⟨om, 0, none⟩) 64 mq)) rfl (by kernel_rfl) (by kernel_rfl) (by kernel_rfl) (fun _ _ _ h => h) (Or.inl ⟨by rfl, fun w' hs => by have y := (KZ.out w' hs).2; go_simp⟩) SD.out ?_
      change wpAnyH _ _ _ _ _ _ _ (Act.put _ (some 16) _) _
      simp only [Act.put, List.setIfInBounds_toArray, List.set_cons_zero, List.set_cons_succ]
      refine wpAnyH_take (i := 4) (v := (.int .i64 (p : Int))) rfl (by kernel_rfl) (by kernel_rfl) (by kernel_rfl) (fun _ _ _ h => h) (Or.inl ⟨by rfl, fun w' hs => by go_simp⟩) SD.out ?_
      change wpAnyH _ _ _ _ _ _ _ (Act.put _ (some 17) _) _
      simp only [Act.put, List.setIfInBounds_toArray, List.set_cons_zero, List.set_cons_succ]
      refine wpAnyH_take (i := 5) (v := (.int .i64 ((p : Int) * 8))) rfl (by kernel_rfl) (by kernel_rfl) (by kernel_rfl) (fun _ _ _ h => h) (Or.inl ⟨by rfl, fun w' hs => by have p8 := HZ.out.2.2; have j8 := HLT.out; go_simp; rw [IntKind.wrap_i64]; omega⟩) SD.out ?_
      change wpAnyH _ _ _ _ _ _ _ (Act.put _ (some 18) _) _
      simp only [Act.put, List.setIfInBounds_toArray, List.set_cons_zero, List.set_cons_succ]
      refine wpAnyH_take (i := 6) (v := (.int .i64 (j : Int))) rfl (by kernel_rfl) (by kernel_rfl) (by kernel_rfl) (fun _ _ _ h => h) (Or.inl ⟨by rfl, fun w' hs => by go_simp⟩) SD.out ?_
      change wpAnyH _ _ _ _ _ _ _ (Act.put _ (some 19) _) _
      simp only [Act.put, List.setIfInBounds_toArray, List.set_cons_zero, List.set_cons_succ]
      refine wpAnyH_take (i := 7) (v := (.int .i64 ((p : Int) * 8 + j))) rfl (by kernel_rfl) (by kernel_rfl) (by kernel_rfl) (fun _ _ _ h => h) (Or.inl ⟨by rfl, fun w' hs => by have p8 := HZ.out.2.2; have j8 := HLT.out; go_simp; rw [IntKind.wrap_i64]; omega⟩) SD.out ?_
      change wpAnyH _ _ _ _ _ _ _ (Act.put _ (some 20) _) _
      simp only [Act.put, List.setIfInBounds_toArray, List.set_cons_zero, List.set_cons_succ]
      refine wpAnyH_take (i := 8) (v := (.slice (some ⟨gw, 0, none⟩) 8 wc)) rfl (by kernel_rfl) (by kernel_rfl) (by kernel_rfl) (fun _ _ _ h => h) (Or.inl ⟨by rfl, fun w' hs => by go_simp⟩) SD.out ?_
      change wpAnyH _ _ _ _ _ _ _ (Act.put _ (some 21) _) _
      simp only [Act.put, List.setIfInBounds_toArray, List.set_cons_zero, List.set_cons_succ]
      refine wpAnyH_take (i := 9) (v := (.int .i64 (j : Int))) rfl (by kernel_rfl) (by kernel_rfl) (by kernel_rfl) (fun _ _ _ h => h) (Or.inl ⟨by rfl, fun w' hs => by go_simp⟩) SD.out ?_
      change wpAnyH _ _ _ _ _ _ _ (Act.put _ (some 22) _) _
      simp only [Act.put, List.setIfInBounds_toArray, List.set_cons_zero, List.set_cons_succ]
      refine wpAnyH_take (i := 10) (v := (.pointer (some ⟨gw, j, none⟩))) rfl (by kernel_rfl) (by kernel_rfl) (by kernel_rfl) (fun _ _ _ h => h) (Or.inl ⟨by rfl, fun w' hs => by have y := (KZ.out w' hs).1; go_simp⟩) SD.out ?_
      change wpAnyH _ _ _ _ _ _ _ (Act.put _ (some 23) _) _
      simp only [Act.put, List.setIfInBounds_toArray, List.set_cons_zero, List.set_cons_succ]
      refine wpAnyH_take (i := 11) (v := (.int .i64 z)) rfl (by kernel_rfl) (by kernel_rfl) (by kernel_rfl) (fun _ _ _ h => h) (Or.inl ⟨by rfl, fun w' hs => by have y := (KZ.out w' hs).1; go_simp⟩) SD.out ?_
      change wpAnyH _ _ _ _ _ _ _ (Act.put _ (some 24) _) _
      simp only [Act.put, List.setIfInBounds_toArray, List.set_cons_zero, List.set_cons_succ]
      refine wpAnyH_take (i := 12) (v := (.pointer (some ⟨om, p * 8 + j, none⟩))) rfl (by kernel_rfl) (by kernel_rfl) (by kernel_rfl) (fun _ _ _ h => h) (Or.inl ⟨by rfl, fun w' hs => by have p8 := HZ.out.2.2; have j8 := HLT.out; have u1 : (p : Int) * 8 + j < 64 := (by omega); have u2 : (0 : Int) ≤ (p : Int) * 8 + j := (by omega); have u3 : ((p : Int) * 8 + (j : Int)).toNat = p * 8 + j := (by omega); go_simp⟩) SD.out ?_
      change wpAnyH _ _ _ _ _ _ _ (Act.put _ (some 25) _) _
      simp only [Act.put, List.setIfInBounds_toArray, List.set_cons_zero, List.set_cons_succ]
      have cM := SS.out.cell (by rw [FL.out]) (p * 8 + j) (by have := HZ.out.2.2; have := HLT.out; omega)
      have fM := SS.out.free (by rw [FL.out]) (p * 8 + j)
      refine wpAnyH_ready (rs := [13]) (by kernel_rfl) (by simp) ?_
      refine AllReadyH.cons rfl (fun K hK => ?_) AllReadyH.nil
      rw [if_pos (by rfl)]
      go_simp
      clear cM fM
      have S6 : Hid (Mq (fun k => k = om) wr (v0.setCell ⟨om, p * 8 + j, none⟩ (.int .i64 z))) := SD.out.set _ _ rfl
      have T6 : Hid (Nums (v0.setCell ⟨om, p * 8 + j, none⟩ (.int .i64 z)) b (.slice (some ⟨om, 0, none⟩) 64 mq) (fzL zs p ws (j + 1))) := by
        show Nums _ _ _ _
        rw [FS.out]
        exact (SS.out.store _ _).1
      generalize v0.setCell ⟨om, p * 8 + j, none⟩ (.int .i64 z) = v6 at *
      refine hK.out _ _ S6.out (fun _ => ?_)
      clear hK K
      refine wpAnyH_done (by kernel_rfl) ?_ _
      have M6 : Hid (Mq (fun k => k = om) w v6) := HM.out.trans S6.out
      go_wp2_with fail
      go_roundw
      case rel => exact ⟨j + 1, by have := HLT.out; omega, by go_num, T6.out, M6.out⟩
      case measure => have := HLT.out; simp [intOf]; omega
    · have hJ : ¬ (j : Int) < 8 := by omega
      obtain rfl : j = 8 := by omega
      go_wp2_with fail
      exact bodyPost_end (results_none rfl _ _ _) rfl ⟨rfl, HN.out, HM.out⟩
end Go.Proofs.YthnaggeilbcioaaGreatDoor
