/- Chapter 3: LightenVessel, the model and the program. -/
import Derived.Test.YteeljlpbijmhlabVesLig
namespace Go.Proofs.Yteeljlpbijmhlab
open Go.RowKit Go.PlainAid Go.Sort

theorem sought_none {vs : List Ves} {t : Int} {p : Nat} (h : Sought vs t p false) (ha : Asc vs) : ∀ j, j < vs.length → (vs.getD j noVes).id ≠ t := by
  intro j hj e
  obtain ⟨hp, hs, hx⟩ := h
  obtain ⟨h1, h2⟩ := hs ha
  have hnot : ¬ (p < vs.length ∧ (vs.getD p noVes).id = t) := fun g => by have := hx.2 g; cases this
  rcases Nat.lt_trichotomy j p with g | g | g
  · have := h1 j g; omega
  · exact hnot ⟨by omega, by rw [← g]; exact e⟩
  · have := h2 p (Nat.le_refl _) (by omega)
    have := ha p j g hj
    omega

set_option maxRecDepth 100000 in
set_option maxHeartbeats 2000000 in
theorem implLig_any {w : World} {B : Nat} {A : Option Addr} {n : Nat} {vs : List Ves} (c : Nat) (h : IsVs w B A n vs) (hm : n ≤ maxLen) (hc : n ≤ c) (t z : Int) (hz : z ≤ 9223372036854775807) (L : List Ves) (x : Bool) (hl : Light vs n t z L x) :
    Calls Try.prog 8 #[.slice A n c, .int .i64 t, .int .i64 z] w (GivesVs w L x) := by
  have C1 := Lib.hid (isFleet_vs c h hm hc)
  have HI := Lib.hid h
  have HX := Lib.hid hl
  cases hg : gF vs with
  | false =>
    rw [hg] at C1
    obtain ⟨rfl, rfl⟩ := hl.bad hg
    clear HX hl hg HI h
    go_enter Try.func8, Try.ntmps8
    go_wp2_with fail
    refine C1.out.mono ?_
    rintro e w1 ⟨rfl, hb⟩
    have HR := Lib.hid (givesVs_nil hb)
    clear hb
    go_wp2_with fail
    refine bodyPost_ret (results_tmp2 rfl _ _ _) rfl ?_
    exact HR.out
  | true =>
    rw [hg] at C1
    have HG := Lib.hid hg
    by_cases hz1 : z ≤ 0
    · obtain ⟨rfl, rfl⟩ := hl.neg (by omega)
      clear HX hl hg HI h HG
      go_enter Try.func8, Try.ntmps8
      go_wp2_with fail
      refine C1.out.mono ?_
      rintro e w1 ⟨rfl, hb⟩
      have HR := Lib.hid (givesVs_nil hb)
      clear hb
      go_wp2_with fail
      refine bodyPost_ret (results_tmp2 rfl _ _ _) rfl ?_
      exact HR.out
    · have hn8 : n ≤ 8 := by have := (fun g => ((gF_iff vs).1 g).1 : gF vs = true → vs.length ≤ 8) hg; rw [h.len] at this; exact this
      have C2 := Lib.hid (fun W (hb : Below w.heap.size w W) => placeOfId_any A n c B vs t W h.len (by omega) (by have := h.low; have := hb.size; omega) (h.has.below (hb.mono h.low)))
      clear hl hg h
      go_enter Try.func8, Try.ntmps8
      go_wp2_with fail
      refine C1.out.mono ?_
      rintro e w1 ⟨rfl, hb⟩
      have B1 := Lib.hid hb
      clear hb C1
      go_wp2_with fail
      refine (C2.out _ B1.out).mono ?_
      rintro e w2 ⟨p, y, hs, rfl, hb⟩
      have B2 := Lib.hid (B1.out.trans (hb.mono B1.out.size))
      have HS := Lib.hid hs
      clear hb hs B1 C2
      cases y with
      | false =>
        obtain ⟨rfl, rfl⟩ := HX.out.miss (by rw [← HI.out.len]; exact sought_none HS.out (asc_of ((gF_iff vs).1 HG.out)))
        have HR := Lib.hid (givesVs_nil B2.out)
        clear HX HI HS HG
        go_wp2_with fail
        refine bodyPost_ret (results_tmp2 rfl _ _ _) rfl ?_
        exact HR.out
      | true =>
        obtain ⟨hpl, hpe⟩ := HS.out.2.2.1 rfl
        have HPE := Lib.hid hpe
        have hpn : p < n := by rw [← HI.out.len]; exact hpl
        obtain ⟨a1, rfl, hab, -⟩ := (HI.out.below B2.out HI.out.low).has.ves hpl
        have C3 := Lib.hid (cloneV_any a1 n c B vs w2 HI.out.len (by omega) (HI.out.below B2.out HI.out.low).low (HI.out.below B2.out HI.out.low).has)
        have hdr := (((gF_iff vs).1 HG.out).2 p hpl).1.2.2.2.2.1
        obtain ⟨dr0, dr1⟩ := hdr
        have HNM := Lib.hid (lt_names (z := z) hpl HI.out.nm)
        have HFL := Lib.hid (lt_flat z hpl)
        have HLL := Lib.hid (lt_len vs p z)
        have HU := Lib.hid ((flatV_at vs p hpl).2.2.2.2.1)
        rw [← getV hpl] at HU
        generalize (vs.getD p noVes).dr = dr at HU HFL dr0 dr1
        clear HS hpe hab
        go_wp2_with fail
        refine C3.out.mono ?_
        rintro e w3 ⟨g, c', rfl, hcc, hgw, hown, hb⟩
        have B3 := Lib.hid (B2.out.trans (hb.mono B2.out.size))
        have hcell : w3.cell? ⟨g, p * 6 + 4, none⟩ = some (.int .i64 dr) := (hown.cellAt _ (by omega)).trans HU.out
        have hfz := hown.frozenAt (p * 6 + 4)
        have S := hown.stored (p * 6 + 4) (.int .i64 (dr - z))
        rw [HFL.out] at S
        have HS1 := Lib.hid (own_low S.1 B2.out.size)
        have HS2 := Lib.hid (B3.out.setCell (p := ⟨g, p * 6 + 4, none⟩) (show w.heap.size ≤ g by have := B2.out.size; omega) (.int .i64 (dr - z)))
        have hgw' : w.heap.size ≤ g := by have := B2.out.size; omega
        have hp0 : (0 : Int) ≤ (p : Int) := by omega
        have hp1 : (p : Int) < (n : Int) := by omega
        clear hb hown S C3 B2
        go_wp2_with fail
        have I4 := Lib.hid (own_vs HS1.out HNM.out)
        refine (isFleet_vs c' I4.out hm hcc).mono ?_
        rintro e w5 ⟨rfl, hb⟩
        have B5 := Lib.hid (HS2.out.trans (hb.mono HS2.out.size))
        have HO5 := Lib.hid (HS1.out.kept (grownBelow hb none) (.inr (by simp [Value.ownBlock])))
        clear hb hcell hfz
        cases hgl : gF (lt vs p z) with
        | false =>
          obtain ⟨rfl, rfl⟩ := HX.out.fails HI.out.len HG.out hpn HPE.out hgl
          have HR := Lib.hid (givesVs_nil B5.out)
          clear HX HI HG I4 hgl HFL HNM HS1 HS2 HO5 HLL HU
          go_wp2_with fail
          refine bodyPost_ret (results_tmp2 rfl _ _ _) rfl ?_
          exact HR.out
        | true =>
          obtain ⟨hL, rfl⟩ := HX.out.yes p hpn HG.out HPE.out (by omega) hgl
          have HLn : Hid (L.length = n) := Lib.hid (by rw [hL, lt_len]; exact HI.out.len)
          have HR : Hid (GivesVs w L true (.returned (.tuple #[.slice (some ⟨g, 0, none⟩) n c', .bool true])) w5) := Lib.hid (by
            rw [← HLn.out, hL]
            refine ⟨g, c', rfl, hgw', ?_, B5.out⟩
            rw [HLL.out, HI.out.len]
            exact HO5.out)
          clear HX HI HG I4 hgl HFL HNM HS1 HS2 HO5 HLL HU hL
          go_wp2_with fail
          refine bodyPost_ret (results_tmp2 rfl _ _ _) rfl ?_
          exact HR.out
end Go.Proofs.Yteeljlpbijmhlab
