/- Chapter 11: water let flow between two of a list: the model. -/
import Derived.Test.YtgnopkemcgbedaaPoE
namespace Go.Proofs.Ytgnopkemcgbedaa
open Go.RowKit Go.PlainAid Go.Sort
set_option linter.unusedVariables false
set_option linter.unusedSimpArgs false

set_option maxRecDepth 100000 in
set_option maxHeartbeats 4000000 in
theorem l11Let_any {w : World} {B n : Nat} {a : Addr} {vs : List TPool} (c : Nat) (h : IsPools w B (some a) n vs) (hm : n ≤ 5) (hg : goodPs vs) (p r : Nat) (hp : p < n) (hr : r < n) (hpr : p ≠ r) :
    Calls Try.prog 60 #[.slice (some a) n c, .int .i64 (p : Int), .int .i64 (r : Int)] w fun e w' => ∃ v, e = .returned (.tuple #[v, .int .i64 (fl vs p r), .bool (gPs (letP vs p r))]) ∧ OwnP w w' (letP vs p r) n v := by
  have HI := Lib.hid h
  have HLN := Lib.hid h.len
  have HB0 := Lib.hid (Below.refl w.heap.size w)
  have HLG := Lib.hid (letP_good (vs := vs) (i := p) (j := r) hg (by rw [HLN.out]; exact hp) (by rw [HLN.out]; exact hr) hpr)
  have HLD : Hid (letP vs p r = (vs.set p (subW (vs.getD p noPool) (fl vs p r))).set r (addW (vs.getD r noPool) (fl vs p r))) := Lib.hid rfl
  have HFL : Hid (fl vs p r = flo (vs.getD p noPool) (vs.getD r noPool)) := Lib.hid rfl
  have HGP := Lib.hid (hg.2 p (by rw [HLN.out]; exact hp))
  have HGR := Lib.hid (hg.2 r (by rw [HLN.out]; exact hr))
  have hp0 : (0 : Int) ≤ (p : Int) := by omega
  have hp1 : (p : Int) < (n : Int) := by omega
  have hr0 : (0 : Int) ≤ (r : Int) := by omega
  have hr1 : (r : Int) < (n : Int) := by omega
  clear h hg
  go_enter Try.func60, Try.ntmps60
  obtain ⟨i0, hi, hz0, hz1, hz2⟩ := info_parts Try.infoPool'
  have hfl : (flatPool vs).length = n * 3 := by rw [flatPool_len, HI.out.len]; omega
  have HN : Hid (∀ j u, (flatPool vs)[j]? = some u → (w.alloc (.cells #[] 35)).cell? (a.add j) = some u) := Lib.hid (fun j u hu => by
    obtain ⟨a', e, hb, hc⟩ := (HI.out.below (HB0.out.alloc HB0.out.size (.cells #[] 35)) HI.out.low).has j u hu
    injection e with e
    subst e
    exact hc)
  have HOC : Hid (∀ u ∈ flatPool vs, u.oneCell' = true) := Lib.hid (flatPool_one vs)
  have HR := Lib.hid (World.ownsRow_made (size := 3) (e := 35) w #[] 0 (Nat.le_refl _) (by unfold maxLen; omega) rfl)
  obtain ⟨xs, hxs⟩ : ∃ xs, flatPool vs = xs := ⟨_, rfl⟩
  rw [hxs] at hfl HN HOC
  have HXS := Lib.hid hxs
  clear hxs
  go_wp2_with (at_builtin; refine wpList_append_own _ rfl (.tmp 13) (.tmp 14) 24 rfl w.heap.size 35 i0 (.agg #[.int .i64 0, .int .i64 0, .int .i64 0]) 3 24 Try.underlying24 hi hz0 hz1 hz2 rfl (by decide) (.slice (some ⟨w.heap.size, 0, none⟩) 0 0) 0 [] rfl HR.out a n c xs rfl hfl HN.out HOC.out (by unfold maxLen; omega) (by omega) (by simp) ?_; intro v1 w2 hown1 hgrow1 hnil1; obtain ⟨g1, c1, rfl, hg1⟩ := own_some hown1 (fun e => nomatch (hnil1.1 e).1); have HB9 := Lib.hid (((Below.refl w.heap.size w).alloc (Nat.le_refl _) (.cells #[] 35)).grown hgrow1 (by simp) (fun q hq => by cases hq; exact Nat.le_refl _)); rw [Nat.zero_add, List.nil_append] at hown1; have HOWN := Lib.hid hown1; clear hown1 hgrow1 hnil1 HR HN HOC)
  rw [← HXS.out] at HOWN
  have HO0 : Hid (OwnP w w2 vs n (.slice (some ⟨g1, 0, none⟩) n c1)) := Lib.hid (OwnP.base ⟨g1, c1, rfl, hg1, HOWN.out, HB9.out⟩ HB0.out)
  clear HOWN HB9 HXS hg1 hfl
  have HO1 := HO0
  obtain ⟨g, cg, ev, hg1, hg2, hg3⟩ := HO1.out
  obtain rfl : g1 = g := by injection ev with e1; injection e1 with e2; injection e2
  obtain rfl : c1 = cg := by injection ev
  have HOW := Lib.hid hg2
  have HB2 := Lib.hid hg3
  obtain ⟨z0, z1, z2⟩ := own_atP HOW.out (k := p) hp
  obtain ⟨y0, y1, y2⟩ := own_atP HOW.out (k := r) hr
  generalize hVV : vs.getD p noPool = V at z0 z1 z2 HLD HFL HGP
  have HVE := Lib.hid hVV
  generalize hUU : vs.getD r noPool = U at y0 y1 y2 HLD HFL HGR HLG
  have HUE := Lib.hid hUU
  obtain ⟨d, f, v⟩ := V
  obtain ⟨d2, f2, v2⟩ := U
  dsimp only at z0 z1 z2 y0 y1 y2 HLG
  have hgw : g1 < w2.heap.size := (HOW.out.lt g1 rfl).2
  clear hVV hUU ev hg2 hg3 HO1 HO0
  go_wp2_with fail
  have HCF := Lib.hid (fun W => l11Flow_any d f v d2 f2 v2 W HGP.out HGR.out)
  have hbd := flo_bd HGP.out HGR.out
  have hv := HGP.out.2.2
  have hv2 := HGR.out.2.2
  dsimp only at hbd hv hv2
  rw [← HFL.out] at HCF hbd
  have HR : Hid (gPs (letP vs p r) = decide (v2 + fl vs p r ≤ 100000)) := Lib.hid (by
    cases e : gPs (letP vs p r) with
    | true => exact (decide_eq_true (HLG.out.1 ((gPs_iff _).1 e))).symm
    | false => exact (decide_eq_false (fun h => by rw [gPs_yes (HLG.out.2 h)] at e; cases e)).symm)
  obtain ⟨z, hz⟩ : ∃ z, fl vs p r = z := ⟨_, rfl⟩
  rw [hz] at HCF hbd HLD HR
  have HZ := Lib.hid hz
  clear hz
  clear HLG HFL HGP HGR
  go_region
  · obtain ⟨W5, hW5⟩ : ∃ W, ((w2.alloc (.cells #[.int .i64 d, .int .i64 f, .int .i64 v] 35)).alloc (.cells #[.int .i64 d2, .int .i64 f2, .int .i64 v2] 35)).drew = W := ⟨_, rfl⟩
    have hb5 : Below w2.heap.size w2 W5 := by rw [← hW5]; exact (below2 w2 _ _).trans ((Drawn.one _ 1).below _)
    have HBA : Hid (BoxP W5 w2.heap.size d f v) := Lib.hid (by rw [← hW5]; exact (((BoxP.new w2 d f v).all (below1 _ _)) : BoxP ((w2.alloc (.cells #[.int .i64 d, .int .i64 f, .int .i64 v] 35)).alloc (.cells #[.int .i64 d2, .int .i64 f2, .int .i64 v2] 35)) w2.heap.size d f v))
    have HBB : Hid (BoxP W5 (w2.heap.size + 1) d2 f2 v2) := Lib.hid (by rw [← hW5]; exact ((World.size_alloc w2 _ ▸ BoxP.new _ d2 f2 v2) : BoxP ((w2.alloc (.cells #[.int .i64 d, .int .i64 f, .int .i64 v] 35)).alloc (.cells #[.int .i64 d2, .int .i64 f2, .int .i64 v2] 35)) (w2.heap.size + 1) d2 f2 v2))
    obtain ⟨xb, hx1⟩ : ∃ x, w2.heap.size + 1 = x := ⟨_, rfl⟩
    obtain ⟨xa, hx0⟩ : ∃ x, w2.heap.size = x := ⟨_, rfl⟩
    rw [hx0] at HBA
    rw [hx1] at HBB
    have hab : xa ≠ xb := by omega
    have hag : xa ≠ g1 := by omega
    have hbg : xb ≠ g1 := by omega
    have hwa : w.heap.size ≤ xa := by have := HB2.out.size; omega
    have hwb : w.heap.size ≤ xb := by have := HB2.out.size; omega
    have HO5 := Lib.hid (own_below HOW.out hb5)
    have HB5 := Lib.hid (HB2.out.trans (hb5.mono HB2.out.size))
    have a0 := HBA.out.c0
    have a1 := HBA.out.c1
    have a2 := HBA.out.c2
    have b0 := HBB.out.c0
    have b1 := HBB.out.c1
    have b2 := HBB.out.c2
    rw [hW5]
    try simp only [hx1]
    try simp only [hx0]
    clear hW5 hb5 hx1 hx0 HOW HB2 z0 z1 z2 y0 y1 y2 hgw
    go_wp2_with fail
    refine (HCF.out _).mono ?_
    rintro e w6 ⟨rfl, hb⟩
    have HB6 := Lib.hid (HB5.out.trans (hb.mono HB5.out.size))
    have HO6 := Lib.hid (own_below HO5.out hb)
    have HA6 := Lib.hid (HBA.out.all hb)
    have HX6 := Lib.hid (HBB.out.all hb)
    clear hb HBA HBB HO5 HB5 a0 a1 a2 b0 b1 b2 HCF
    have a0 := HA6.out.c0
    have a1 := HA6.out.c1
    have a2 := HA6.out.c2
    have b0 := HX6.out.c0
    have b1 := HX6.out.c1
    have b2 := HX6.out.c2
    have a3 := HA6.out.fz 2
    have b3 := HX6.out.fz 2
    obtain ⟨s0, s1, s2⟩ := own_atP HO6.out (k := p) hp
    obtain ⟨t0, t1, t2⟩ := own_atP HO6.out (k := r) hr
    rw [HVE.out] at s0 s1 s2
    rw [HUE.out] at t0 t1 t2
    dsimp only at s0 s1 s2 t0 t1 t2
    have p0 := HO6.out.frozenAt (p * 3)
    have p1 := HO6.out.frozenAt (p * 3 + 1)
    have p2 := HO6.out.frozenAt (p * 3 + 2)
    have r0 := HO6.out.frozenAt (r * 3)
    have r1 := HO6.out.frozenAt (r * 3 + 1)
    have r2 := HO6.out.frozenAt (r * 3 + 2)
    have G0 := own_set (own_set HO6.out xa 2 (.int .i64 (v - z)) (by simp [Value.ownBlock]; omega)) xb 2 (.int .i64 (v2 + z)) (by simp [Value.ownBlock]; omega)
    have hl9 : vs.length = n := HLN.out
    have G1 := own_setP G0 hl9 hp d f (v - z)
    have G2 := own_setP G1.1 (by simpa using hl9) hr d2 f2 (v2 + z)
    have C8 : ((w6.setCell ⟨xa, 2, none⟩ (.int .i64 (v - z))).setCell ⟨xb, 2, none⟩ (.int .i64 (v2 + z))).cell? ⟨xb, 2, none⟩ = some (.int .i64 (v2 + z)) := World.cell?_setCell_same _ _ _ ((World.cell?_setCell_other _ _ _ _ (by intro h; injection h; omega)).trans b2)
    have C9 := fun (j : Nat) (u : Value) (W : World) => World.cell?_setCell_other W ⟨g1, j, none⟩ ⟨xb, 2, none⟩ u (by intro h; injection h; omega)
    have HB8 := ((HB6.out.setCell (p := ⟨xa, 2, none⟩) hwa (.int .i64 (v - z))).setCell (p := ⟨xb, 2, none⟩) hwb (.int .i64 (v2 + z))).grown (G1.2.trans G2.2) (by have := HB6.out.size; simp [World.setCell]; omega) (fun q hq => by cases hq; omega)
    obtain ⟨W8, hW8⟩ : ∃ W, ((((((((w6.setCell ⟨xa, 2, none⟩ (.int .i64 (v - z))).setCell ⟨xb, 2, none⟩ (.int .i64 (v2 + z))).setCell ⟨g1, p * 3, none⟩ (.int .i64 d)).setCell ⟨g1, p * 3 + 1, none⟩ (.int .i64 f)).setCell ⟨g1, p * 3 + 2, none⟩ (.int .i64 (v - z))).setCell ⟨g1, r * 3, none⟩ (.int .i64 d2)).setCell ⟨g1, r * 3 + 1, none⟩ (.int .i64 f2)).setCell ⟨g1, r * 3 + 2, none⟩ (.int .i64 (v2 + z))) = W := ⟨_, rfl⟩
    have c8 : W8.cell? ⟨xb, 2, none⟩ = some (.int .i64 (v2 + z)) := by
      rw [← hW8, C9, C9, C9, C9, C9, C9]
      exact C8
    rw [hW8] at G2 HB8
    have HG8 := Lib.hid (show W8.ownsRow w.heap.size 35 3 (.slice (some ⟨g1, 0, none⟩) n c1) n (flatPool (letP vs p r)) by rw [HLD.out]; exact G2.1)
    have HB8 := Lib.hid HB8
    clear G0 G1 G2 C8 C9 HO6 HA6 HX6 hl9
    go_wp2_with fail
    (try rw [hW8])
    clear hW8 a0 a1 a2 b0 b1 b2 a3 b3 p0 p1 p2 r0 r1 r2 s0 s1 s2 t0 t1 t2 HB6
    have E8 := fun (d : Nat) (os : Array Obj) => cell_regrown c8 d os
    clear c8
    refine wp_region_quiet_below (by kernel_rfl) (by kernel_rfl) ?_
    repeat (go_big_quiet_step (first | fail))
    refine wpQuiet_nil ?_
    intro _ hw'
    obtain ⟨⟨dq, osq⟩, hw''⟩ := hw'
    subst hw''
    have HB9 := Lib.hid (HB8.out.trans ((below_regrown W8 dq osq).mono HB8.out.size))
    clear E8
    have HG9 := Lib.hid (own_below HG8.out (below_regrown W8 dq osq))
    obtain ⟨W9, hW9⟩ : ∃ W, grow (redrawn W8 dq) osq = W := ⟨_, rfl⟩
    rw [hW9] at HB9 HG9
    try simp only [hW9]
    clear hW9 HG8 HB8
    go_wp2_with fail
    go_ret3
    exact ⟨.slice (some ⟨g1, 0, none⟩) n c1, by rw [HR.out, HZ.out]; rfl, g1, c1, rfl, hg1, HG9.out, HB9.out⟩
  · obtain ⟨W5, hW5⟩ : ∃ W, ((w2.alloc (.cells #[.int .i64 d2, .int .i64 f2, .int .i64 v2] 35)).alloc (.cells #[.int .i64 d, .int .i64 f, .int .i64 v] 35)).drew = W := ⟨_, rfl⟩
    have hb5 : Below w2.heap.size w2 W5 := by rw [← hW5]; exact (below2 w2 _ _).trans ((Drawn.one _ 1).below _)
    have HBA : Hid (BoxP W5 (w2.heap.size + 1) d f v) := Lib.hid (by rw [← hW5]; exact ((World.size_alloc w2 _ ▸ BoxP.new _ d f v) : BoxP ((w2.alloc (.cells #[.int .i64 d2, .int .i64 f2, .int .i64 v2] 35)).alloc (.cells #[.int .i64 d, .int .i64 f, .int .i64 v] 35)) (w2.heap.size + 1) d f v))
    have HBB : Hid (BoxP W5 w2.heap.size d2 f2 v2) := Lib.hid (by rw [← hW5]; exact (((BoxP.new w2 d2 f2 v2).all (below1 _ _)) : BoxP ((w2.alloc (.cells #[.int .i64 d2, .int .i64 f2, .int .i64 v2] 35)).alloc (.cells #[.int .i64 d, .int .i64 f, .int .i64 v] 35)) w2.heap.size d2 f2 v2))
    obtain ⟨xa, hx1⟩ : ∃ x, w2.heap.size + 1 = x := ⟨_, rfl⟩
    obtain ⟨xb, hx0⟩ : ∃ x, w2.heap.size = x := ⟨_, rfl⟩
    rw [hx1] at HBA
    rw [hx0] at HBB
    have hab : xa ≠ xb := by omega
    have hag : xa ≠ g1 := by omega
    have hbg : xb ≠ g1 := by omega
    have hwa : w.heap.size ≤ xa := by have := HB2.out.size; omega
    have hwb : w.heap.size ≤ xb := by have := HB2.out.size; omega
    have HO5 := Lib.hid (own_below HOW.out hb5)
    have HB5 := Lib.hid (HB2.out.trans (hb5.mono HB2.out.size))
    have a0 := HBA.out.c0
    have a1 := HBA.out.c1
    have a2 := HBA.out.c2
    have b0 := HBB.out.c0
    have b1 := HBB.out.c1
    have b2 := HBB.out.c2
    rw [hW5]
    try simp only [hx1]
    try simp only [hx0]
    clear hW5 hb5 hx1 hx0 HOW HB2 z0 z1 z2 y0 y1 y2 hgw
    go_wp2_with fail
    refine (HCF.out _).mono ?_
    rintro e w6 ⟨rfl, hb⟩
    have HB6 := Lib.hid (HB5.out.trans (hb.mono HB5.out.size))
    have HO6 := Lib.hid (own_below HO5.out hb)
    have HA6 := Lib.hid (HBA.out.all hb)
    have HX6 := Lib.hid (HBB.out.all hb)
    clear hb HBA HBB HO5 HB5 a0 a1 a2 b0 b1 b2 HCF
    have a0 := HA6.out.c0
    have a1 := HA6.out.c1
    have a2 := HA6.out.c2
    have b0 := HX6.out.c0
    have b1 := HX6.out.c1
    have b2 := HX6.out.c2
    have a3 := HA6.out.fz 2
    have b3 := HX6.out.fz 2
    obtain ⟨s0, s1, s2⟩ := own_atP HO6.out (k := p) hp
    obtain ⟨t0, t1, t2⟩ := own_atP HO6.out (k := r) hr
    rw [HVE.out] at s0 s1 s2
    rw [HUE.out] at t0 t1 t2
    dsimp only at s0 s1 s2 t0 t1 t2
    have p0 := HO6.out.frozenAt (p * 3)
    have p1 := HO6.out.frozenAt (p * 3 + 1)
    have p2 := HO6.out.frozenAt (p * 3 + 2)
    have r0 := HO6.out.frozenAt (r * 3)
    have r1 := HO6.out.frozenAt (r * 3 + 1)
    have r2 := HO6.out.frozenAt (r * 3 + 2)
    have G0 := own_set (own_set HO6.out xa 2 (.int .i64 (v - z)) (by simp [Value.ownBlock]; omega)) xb 2 (.int .i64 (v2 + z)) (by simp [Value.ownBlock]; omega)
    have hl9 : vs.length = n := HLN.out
    have G1 := own_setP G0 hl9 hp d f (v - z)
    have G2 := own_setP G1.1 (by simpa using hl9) hr d2 f2 (v2 + z)
    have C8 : ((w6.setCell ⟨xa, 2, none⟩ (.int .i64 (v - z))).setCell ⟨xb, 2, none⟩ (.int .i64 (v2 + z))).cell? ⟨xb, 2, none⟩ = some (.int .i64 (v2 + z)) := World.cell?_setCell_same _ _ _ ((World.cell?_setCell_other _ _ _ _ (by intro h; injection h; omega)).trans b2)
    have C9 := fun (j : Nat) (u : Value) (W : World) => World.cell?_setCell_other W ⟨g1, j, none⟩ ⟨xb, 2, none⟩ u (by intro h; injection h; omega)
    have HB8 := ((HB6.out.setCell (p := ⟨xa, 2, none⟩) hwa (.int .i64 (v - z))).setCell (p := ⟨xb, 2, none⟩) hwb (.int .i64 (v2 + z))).grown (G1.2.trans G2.2) (by have := HB6.out.size; simp [World.setCell]; omega) (fun q hq => by cases hq; omega)
    obtain ⟨W8, hW8⟩ : ∃ W, ((((((((w6.setCell ⟨xa, 2, none⟩ (.int .i64 (v - z))).setCell ⟨xb, 2, none⟩ (.int .i64 (v2 + z))).setCell ⟨g1, p * 3, none⟩ (.int .i64 d)).setCell ⟨g1, p * 3 + 1, none⟩ (.int .i64 f)).setCell ⟨g1, p * 3 + 2, none⟩ (.int .i64 (v - z))).setCell ⟨g1, r * 3, none⟩ (.int .i64 d2)).setCell ⟨g1, r * 3 + 1, none⟩ (.int .i64 f2)).setCell ⟨g1, r * 3 + 2, none⟩ (.int .i64 (v2 + z))) = W := ⟨_, rfl⟩
    have c8 : W8.cell? ⟨xb, 2, none⟩ = some (.int .i64 (v2 + z)) := by
      rw [← hW8, C9, C9, C9, C9, C9, C9]
      exact C8
    rw [hW8] at G2 HB8
    have HG8 := Lib.hid (show W8.ownsRow w.heap.size 35 3 (.slice (some ⟨g1, 0, none⟩) n c1) n (flatPool (letP vs p r)) by rw [HLD.out]; exact G2.1)
    have HB8 := Lib.hid HB8
    clear G0 G1 G2 C8 C9 HO6 HA6 HX6 hl9
    go_wp2_with fail
    (try rw [hW8])
    clear hW8 a0 a1 a2 b0 b1 b2 a3 b3 p0 p1 p2 r0 r1 r2 s0 s1 s2 t0 t1 t2 HB6
    have E8 := fun (d : Nat) (os : Array Obj) => cell_regrown c8 d os
    clear c8
    refine wp_region_quiet_below (by kernel_rfl) (by kernel_rfl) ?_
    repeat (go_big_quiet_step (first | fail))
    refine wpQuiet_nil ?_
    intro _ hw'
    obtain ⟨⟨dq, osq⟩, hw''⟩ := hw'
    subst hw''
    have HB9 := Lib.hid (HB8.out.trans ((below_regrown W8 dq osq).mono HB8.out.size))
    clear E8
    have HG9 := Lib.hid (own_below HG8.out (below_regrown W8 dq osq))
    obtain ⟨W9, hW9⟩ : ∃ W, grow (redrawn W8 dq) osq = W := ⟨_, rfl⟩
    rw [hW9] at HB9 HG9
    try simp only [hW9]
    clear hW9 HG8 HB8
    go_wp2_with fail
    go_ret3
    exact ⟨.slice (some ⟨g1, 0, none⟩) n c1, by rw [HR.out, HZ.out]; rfl, g1, c1, rfl, hg1, HG9.out, HB9.out⟩
set_option maxRecDepth 100000 in
set_option maxHeartbeats 4000000 in
theorem letS_any {w : World} {B : Nat} {A : Option Addr} {n : Nat} {vs : List TPool} (c : Nat) (h : IsPools w B A n vs) (hm : n ≤ 1048576) (i j : Int) (L : List TPool) (z : Int) (x : Bool) (hA : LetA vs i j L z x) (q : Nat) (hl : L.length = q) :
    Calls Try.prog 18 #[.slice A n c, .int .i64 i, .int .i64 j] w (GivesP3 w L q z x) := by
  have CG := Lib.hid (l11List_any c h (Nat.le_trans hm (by unfold maxLen; omega)))
  have C1 := Lib.hid (fun W => l1In_any i 0 ((n : Int) - 1) W)
  have C2 := Lib.hid (fun W => l1In_any j 0 ((n : Int) - 1) W)
  have HI := Lib.hid h
  have HNO := Lib.hid hA.2
  have HYES := Lib.hid hA.1
  have HM := Lib.hid hl
  have HG0 := Lib.hid (gPs_iff vs)
  have HLN := Lib.hid h.len
  obtain ⟨D1, hD1⟩ : ∃ D, decide (0 ≤ i ∧ i ≤ (n : Int) - 1) = D := ⟨_, rfl⟩
  obtain ⟨D2, hD2⟩ : ∃ D, decide (0 ≤ j ∧ j ≤ (n : Int) - 1) = D := ⟨_, rfl⟩
  rw [hD1] at C1
  rw [hD2] at C2
  have HD1 := Lib.hid hD1
  have HD2 := Lib.hid hD2
  clear h hA hl hD1 hD2
  generalize gPs vs = b0 at CG HG0
  go_enter Try.func18, Try.ntmps18
  go_wp2_with fail
  refine CG.out.mono ?_
  rintro e w1 ⟨rfl, hb⟩
  have HB1 := Lib.hid hb
  clear hb CG
  cases b0 with
  | false =>
    obtain ⟨rfl, rfl, rfl⟩ := HNO.out (fun g => by have := HG0.out.2 g.1.1; cases this)
    obtain rfl : 0 = q := HM.out
    clear HNO HYES HG0 C1 C2
    go_wp2_with fail
    go_ret3
    exact (OwnP.nil HB1.out).gives3 0 false
  | true =>
  have hgood := HG0.out.1 rfl
  have hn5 : n ≤ 5 := by rw [← HLN.out]; exact hgood.1.2
  have hn1 : 0 < n := by rw [← HLN.out]; have := hgood.1; omega
  have HGD := Lib.hid hgood
  clear HG0 hgood
  go_wp2_with fail
  refine (C1.out _).mono ?_
  rintro e w2 ⟨rfl, rfl⟩
  cases D1 with
  | false =>
    obtain ⟨rfl, rfl, rfl⟩ := HNO.out (fun g => of_decide_eq_false HD1.out (by have h2 := g.1.2.1; rw [HLN.out] at h2; exact h2))
    obtain rfl : 0 = q := HM.out
    clear HNO HYES C1 C2
    go_wp2_with fail
    go_ret3
    exact (OwnP.nil HB1.out).gives3 0 false
  | true =>
  go_wp2_with fail
  refine (C2.out _).mono ?_
  rintro e w2 ⟨rfl, rfl⟩
  cases D2 with
  | false =>
    obtain ⟨rfl, rfl, rfl⟩ := HNO.out (fun g => of_decide_eq_false HD2.out (by have h2 := g.1.2.2.1; rw [HLN.out] at h2; exact h2))
    obtain rfl : 0 = q := HM.out
    clear HNO HYES C1 C2
    go_wp2_with fail
    go_ret3
    exact (OwnP.nil HB1.out).gives3 0 false
  | true =>
  have g1 := of_decide_eq_true HD1.out
  have g3 := of_decide_eq_true HD2.out
  by_cases g2 : i = j
  · have hbe : (i == j) = true := by simp [g2]
    have HG2 := Lib.hid g2
    clear g1 g2 g3
    obtain ⟨rfl, rfl, rfl⟩ := HNO.out (fun g => g.1.2.2.2 HG2.out)
    obtain rfl : 0 = q := HM.out
    clear HNO HYES C1 C2
    go_wp2_with fail
    go_ret3
    exact (OwnP.nil HB1.out).gives3 0 false
  · have hbe : (i == j) = false := by simp [g2]
    obtain ⟨p, rfl⟩ : ∃ p : Nat, i = (p : Int) := ⟨i.toNat, by omega⟩
    obtain ⟨r, rfl⟩ : ∃ r : Nat, j = (r : Int) := ⟨j.toNat, by omega⟩
    have hp : p < n := by omega
    have hr : r < n := by omega
    have HCL : Hid (canL vs (p : Int) (r : Int)) := Lib.hid ⟨HGD.out, by rw [HLN.out]; omega, by rw [HLN.out]; omega, g2⟩
    rw [Int.toNat_natCast, Int.toNat_natCast] at HNO HYES
    obtain ⟨a, rfl⟩ := some_ofP HI.out hn1
    have CL := Lib.hid (l11Let_any c (HI.out.below HB1.out HI.out.low) hn5 HGD.out p r hp hr (by omega))
    have HLG := Lib.hid (gPs_iff (letP vs p r))
    have HLL := Lib.hid ((letP_len vs p r).trans HLN.out)
    obtain ⟨R, hR⟩ : ∃ R, gPs (letP vs p r) = R := ⟨_, rfl⟩
    obtain ⟨zz, hz⟩ : ∃ y, fl vs p r = y := ⟨_, rfl⟩
    rw [hR] at CL HLG
    rw [hz] at CL HYES
    clear g1 g2 g3 C1 C2 hR hz
    go_wp2_with fail
    refine CL.out.mono ?_
    rintro e w3 ⟨v, rfl, hO⟩
    have HO := Lib.hid (hO.base HB1.out)
    obtain ⟨g, cg, rfl, -⟩ := hO
    clear CL
    cases R with
    | false =>
      obtain ⟨rfl, rfl, rfl⟩ := HNO.out (fun g => by have := HLG.out.2 g.2; cases this)
      obtain rfl : 0 = q := HM.out
      clear HNO HYES HLG
      go_wp2_with fail
      go_ret3
      exact (OwnP.nil HO.out.low).gives3 0 false
    | true =>
    obtain ⟨hL, rfl, rfl⟩ := HYES.out ⟨HCL.out, HLG.out.1 rfl⟩
    obtain rfl : n = q := by rw [← HM.out, hL, HLL.out]
    have HL := Lib.hid hL
    clear HLG HYES HNO HCL HM hL
    go_wp2_with fail
    go_ret3
    rw [HL.out]
    exact HO.out.gives3 _ true
end Go.Proofs.Ytgnopkemcgbedaa
