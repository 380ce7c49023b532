/- Chapter 10: a Flow made in a copy: the model; MoveWater of both. -/
import Derived.Test.YtliebicnejbheaaWaC
namespace Go.Proofs.Ytliebicnejbheaa
open Go.RowKit Go.PlainAid Go.Sort
set_option linter.unusedVariables false
set_option linter.unusedSimpArgs false

theorem own_setB {w : World} {base g n c : Nat} {xs : List TBasin} (h : w.ownsRow base 53 3 (.slice (some ⟨g, 0, none⟩) n c) n (flatBasin xs)) (hl : xs.length = n) {k : Nat} (hk : k < n) (x0 x1 x2 : Int) :
    (((w.setCell ⟨g, k * 3, none⟩ (.int .i64 x0)).setCell ⟨g, k * 3 + 1, none⟩ (.int .i64 x1)).setCell ⟨g, k * 3 + 2, none⟩ (.int .i64 x2)).ownsRow base 53 3 (.slice (some ⟨g, 0, none⟩) n c) n (flatBasin (xs.set k ⟨x0, x1, x2⟩)) ∧
    w.grownBy (((w.setCell ⟨g, k * 3, none⟩ (.int .i64 x0)).setCell ⟨g, k * 3 + 1, none⟩ (.int .i64 x1)).setCell ⟨g, k * 3 + 2, none⟩ (.int .i64 x2)) (some g) := by
  have s0 := h.stored (k * 3) (.int .i64 x0)
  have s1 := s0.1.stored (k * 3 + 1) (.int .i64 x1)
  have s2 := s1.1.stored (k * 3 + 2) (.int .i64 x2)
  rw [flatBasin_set _ _ ⟨x0, x1, x2⟩ (by omega)] at s2
  exact ⟨s2.1, (s0.2.trans s1.2).trans s2.2⟩

set_option maxRecDepth 100000 in
set_option maxHeartbeats 2000000 in
theorem l10Move_any {w : World} {B n : Nat} {a : Addr} {vs : List TBasin} (c : Nat) (h : IsBasins w B (some a) n vs) (hm : n ≤ 6) (f0 f1 f2 : Int) (hf : goodF n ⟨f0, f1, f2⟩) (hbd : bdB 12 vs) :
    Calls Try.prog 61 #[.slice (some a) n c, .agg #[.int .i64 f0, .int .i64 f1, .int .i64 f2]] w fun e w' => ∃ v, e = .returned v ∧ OwnB w w' (move vs ⟨f0, f1, f2⟩) n v := by
  obtain ⟨i0, hi, hz0, hz1, hz2⟩ := info_parts Try.infoBasin'
  have hlen := h.len
  have hfl : (flatBasin vs).length = n * 3 := by rw [flatBasin_len, h.len]; omega
  have hs : (w.alloc (.cells #[.int .i64 f0, .int .i64 f1, .int .i64 f2] 38)).heap.size = w.heap.size + 1 := by simp
  have HN : Hid (∀ j u, (flatBasin vs)[j]? = some u → ((w.alloc (.cells #[.int .i64 f0, .int .i64 f1, .int .i64 f2] 38)).alloc (.cells #[] 53)).cell? (a.add j) = some u) := Lib.hid (fun j u hu => by
    obtain ⟨a', e, hb, hc⟩ := (h.below (below2 w (.cells #[.int .i64 f0, .int .i64 f1, .int .i64 f2] 38) (.cells #[] 53)) h.low).has j u hu
    injection e with e
    subst e
    exact hc)
  have HO : Hid (∀ u ∈ flatBasin vs, u.oneCell' = true) := Lib.hid (flatBasin_one vs)
  have HR0 := World.ownsRow_made (size := 3) (e := 53) (w.alloc (.cells #[.int .i64 f0, .int .i64 f1, .int .i64 f2] 38)) #[] 0 (Nat.le_refl _) (by unfold maxLen; omega) rfl
  rw [hs] at HR0
  have HR := Lib.hid HR0
  have HXC : Hid ((w.alloc (.cells #[.int .i64 f0, .int .i64 f1, .int .i64 f2] 38)).cell? ⟨w.heap.size, 0, none⟩ = some (.int .i64 f0) ∧ (w.alloc (.cells #[.int .i64 f0, .int .i64 f1, .int .i64 f2] 38)).cell? ⟨w.heap.size, 1, none⟩ = some (.int .i64 f1) ∧ (w.alloc (.cells #[.int .i64 f0, .int .i64 f1, .int .i64 f2] 38)).cell? ⟨w.heap.size, 2, none⟩ = some (.int .i64 f2)) := Lib.hid ⟨by rw [sNew]; rfl, by rw [sNew]; rfl, by rw [sNew]; rfl⟩
  have HVS : Hid (flatBasin (mvK vs ⟨f0, f1, f2⟩ 0) = flatBasin vs) := Lib.hid (by rw [mvK_zero])
  have HVE : Hid (mvK vs ⟨f0, f1, f2⟩ n = move vs ⟨f0, f1, f2⟩) := Lib.hid (by rw [← hlen, mvK_all])
  have HLK := Lib.hid (fun k => (mvK_len vs ⟨f0, f1, f2⟩ k).trans hlen)
  have HAT := Lib.hid (fun k (hk : k < n) => mvK_at (vs := vs) (f := ⟨f0, f1, f2⟩) (k := k) (by omega))
  have HST := Lib.hid (fun k (hk : k < n) => mvK_set (vs := vs) (f := ⟨f0, f1, f2⟩) (k := k) (by omega))
  have HBV := Lib.hid (fun k (hk : k < n) => hbd k (by omega))
  obtain ⟨⟨h1, h2⟩, ⟨h3, h4⟩, h5, h6, h7⟩ := hf
  dsimp only at h1 h2 h3 h4 h5 h6 h7
  clear h HR0 hs hbd
  rw [← HVS.out] at hfl HN HO
  clear HVS
  generalize hxs : flatBasin (mvK vs ⟨f0, f1, f2⟩ 0) = xs at hfl HN HO
  have HXS := Lib.hid hxs
  clear hxs
  go_enter Try.func61, Try.ntmps61
  go_wp2_with (at_builtin; refine wpList_append_own _ rfl (.tmp 8) (.tmp 9) 24 rfl (w.heap.size + 1) 53 i0 (.agg #[.int .i64 0, .int .i64 0, .int .i64 0]) 3 24 Try.underlying24 hi hz0 hz1 hz2 rfl (by decide) (.slice (some ⟨w.heap.size + 1, 0, none⟩) 0 0) 0 [] rfl HR.out a n c xs rfl hfl HN.out HO.out (by unfold maxLen; omega) (by omega) (by simp) ?_; intro v1 w1 hown1 hgrow1 hnil1; obtain ⟨g1, c1, rfl, hg1⟩ := own_some hown1 (fun e => nomatch (hnil1.1 e).1); have HB1 := Lib.hid (((Below.refl (w.heap.size + 1) (w.alloc (.cells #[.int .i64 f0, .int .i64 f1, .int .i64 f2] 38))).alloc (by simp) (.cells #[] 53)).grown hgrow1 (by simp) (fun q hq => by cases hq; exact Nat.le_refl _)); rw [Nat.zero_add, List.nil_append] at hown1; have HOWN := Lib.hid hown1; clear hown1 hgrow1 hnil1 HR HN HO)
  have HB0 : Hid (Below w.heap.size w w1) := Lib.hid ((below1 w _).trans (HB1.out.mono (by omega)))
  have HX1 : Hid (w1.cell? ⟨w.heap.size, 0, none⟩ = some (.int .i64 f0) ∧ w1.cell? ⟨w.heap.size, 1, none⟩ = some (.int .i64 f1) ∧ w1.cell? ⟨w.heap.size, 2, none⟩ = some (.int .i64 f2)) := Lib.hid (by
    obtain ⟨x0, x1, x2⟩ := HXC.out
    exact ⟨(HB1.out.cell (p := ⟨w.heap.size, 0, none⟩) (by simp)).trans x0, (HB1.out.cell (p := ⟨w.heap.size, 1, none⟩) (by simp)).trans x1, (HB1.out.cell (p := ⟨w.heap.size, 2, none⟩) (by simp)).trans x2⟩)
  have HS1 : Hid (w.heap.size + 1 ≤ w1.heap.size) := Lib.hid (by have := HB1.out.size; simpa using this)
  rw [← HXS.out] at HOWN
  clear HXC HB1 HXS
  go_wp2_with fail
  go_loopw [6] (fun i wr => ∃ k : Nat, k ≤ n ∧ i = .int .i64 k ∧ Hid (wr.ownsRow (w.heap.size + 1) 53 3 (.slice (some ⟨g1, 0, none⟩) n c1) n (flatBasin (mvK vs ⟨f0, f1, f2⟩ k))) ∧ Hid (Below (w.heap.size + 1) w1 wr)) (fun i _ => n - (intOf i).toNat)
  case atStart => exact ⟨0, Nat.zero_le _, rfl, HOWN, Lib.hid (Below.refl _ _)⟩
  case round =>
    clear HOWN
    obtain ⟨k, hk, rfl, HOW, HB⟩ := hrel
    by_cases hlt : k < n
    · obtain ⟨e0, e1, e2⟩ := own_atB HOW.out hlt
      rw [HAT.out k hlt] at e0 e1 e2
      have r0 := HOW.out.frozenAt (k * 3)
      have r1 := HOW.out.frozenAt (k * 3 + 1)
      have r2 := HOW.out.frozenAt (k * 3 + 2)
      have hbk := HBV.out k hlt
      have HS := Lib.hid (HST.out k hlt)
      obtain ⟨x0, x1, x2⟩ := HX1.out
      replace x0 := (HB.out.cell (p := ⟨w.heap.size, 0, none⟩) (by simp)).trans x0
      replace x1 := (HB.out.cell (p := ⟨w.heap.size, 1, none⟩) (by simp)).trans x1
      replace x2 := (HB.out.cell (p := ⟨w.heap.size, 2, none⟩) (by simp)).trans x2
      have hxw := World.block_lt_of_cell? _ _ x0
      have hgw := (HOW.out.lt g1 rfl).2
      dsimp only at hxw
      have hxg : w.heap.size ≠ g1 := by omega
      obtain ⟨V, hV⟩ : ∃ V, vs.getD k noBasin = V := ⟨_, rfl⟩
      rw [hV] at e0 e1 e2 hbk HS
      clear hV
      obtain ⟨d, l, b⟩ := V
      dsimp only at e0 e1 e2 hbk
      have HMV : Hid (mv ⟨f0, f1, f2⟩ k ⟨d, l, b⟩ = ⟨(if (k : Int) = f1 then (if (k : Int) = f0 then d - f2 else d) + f2 else (if (k : Int) = f0 then d - f2 else d)), l, b⟩) := Lib.hid rfl
      have HLL := Lib.hid (HLK.out k)
      have hk0 : (0 : Int) ≤ (k : Int) := by omega
      have hk1 : (k : Int) < (n : Int) := by omega
      clear HBV HST HAT HX1
      by_cases c0 : (k : Int) = f0
      · have hb0 : ((k : Int) == f0) = true := by simp [c0]
        have c1 : ¬ (k : Int) = f1 := by omega
        have hb1 : ((k : Int) == f1) = false := by simpa using c1
        rw [if_neg c1, if_pos c0] at HMV
        clear c0 c1
        go_wp2_with fail
        have s := own_setB HOW.out HLL.out hlt (d - f2) l b
        rw [← HMV.out, HS.out] at s
        refine ⟨⟨k + 1, by omega, by go_num, Lib.hid (own_below s.1 (below1 _ _)), Lib.hid ?_⟩, by simp [intOf]; omega⟩
        exact ((((HB.out.setCell (p := ⟨g1, k * 3, none⟩) hg1 _).setCell (p := ⟨g1, k * 3 + 1, none⟩) hg1 _).setCell (p := ⟨g1, k * 3 + 2, none⟩) hg1 _).alloc (by have := HB.out.size; have := HS1.out; simp; omega) _)
      · have hb0 : ((k : Int) == f0) = false := by simpa using c0
        by_cases c1 : (k : Int) = f1
        · have hb1 : ((k : Int) == f1) = true := by simp [c1]
          rw [if_pos c1, if_neg c0] at HMV
          clear c0 c1
          go_wp2_with fail
          have s := own_setB HOW.out HLL.out hlt (d + f2) l b
          rw [← HMV.out, HS.out] at s
          refine ⟨⟨k + 1, by omega, by go_num, Lib.hid (own_below s.1 (below1 _ _)), Lib.hid ?_⟩, by simp [intOf]; omega⟩
          exact ((((HB.out.setCell (p := ⟨g1, k * 3, none⟩) hg1 _).setCell (p := ⟨g1, k * 3 + 1, none⟩) hg1 _).setCell (p := ⟨g1, k * 3 + 2, none⟩) hg1 _).alloc (by have := HB.out.size; have := HS1.out; simp; omega) _)
        · have hb1 : ((k : Int) == f1) = false := by simpa using c1
          rw [if_neg c1, if_neg c0] at HMV
          clear c0 c1
          go_wp2_with fail
          have s := own_setB HOW.out HLL.out hlt d l b
          rw [← HMV.out, HS.out] at s
          refine ⟨⟨k + 1, by omega, by go_num, Lib.hid (own_below s.1 (below1 _ _)), Lib.hid ?_⟩, by simp [intOf]; omega⟩
          exact ((((HB.out.setCell (p := ⟨g1, k * 3, none⟩) hg1 _).setCell (p := ⟨g1, k * 3 + 1, none⟩) hg1 _).setCell (p := ⟨g1, k * 3 + 2, none⟩) hg1 _).alloc (by have := HB.out.size; have := HS1.out; simp; omega) _)
    · obtain rfl : k = n := by omega
      have HW : Hid (OwnB w wr (move vs ⟨f0, f1, f2⟩) k (.slice (some ⟨g1, 0, none⟩) k c1)) := Lib.hid (by
        have ho := HOW.out
        rw [HVE.out] at ho
        exact ⟨g1, c1, rfl, by omega, own_low ho (by omega), HB0.out.trans (HB.out.mono (by omega))⟩)
      clear HOW HB HBV HST HAT HX1 HVE HLK HB0
      go_wp2_with fail
      go_ret
      exact ⟨_, rfl, HW.out⟩
set_option maxRecDepth 100000 in
set_option maxHeartbeats 2000000 in
theorem moveS_any {w : World} {B : Nat} {A : Option Addr} {n : Nat} {vs : List TBasin} (c : Nat) (h : IsBasins w B A n vs) (hm : n ≤ 1048576) (f0 f1 f2 : Int) (L : List TBasin) (x : Bool) (hA : MovA vs ⟨f0, f1, f2⟩ L x) (m : Nat) (hl : L.length = m) :
    Calls Try.prog 24 #[.slice A n c, .agg #[.int .i64 f0, .int .i64 f1, .int .i64 f2]] w (GivesB w L m x) := by
  have CG := Lib.hid (fun W (hb : Below w.heap.size w W) => l10Good_any c (h.below hb h.low) (Nat.le_trans hm (by unfold maxLen; omega)))
  have CF := Lib.hid (fun W => l10Flow_any n f0 f1 f2 W (Nat.le_trans hm (by unfold maxLen; omega)))
  have CV := Lib.hid (fun W (L : List TBasin) (m : Nat) (a : Addr) c (h : IsBasins W W.heap.size (some a) m L) hm => l10Good_any c h hm)
  have HI := Lib.hid h
  have HNO := Lib.hid hA.2
  have HYES := Lib.hid hA.1
  have HM := Lib.hid hl
  have HG0 := Lib.hid (gBs_iff vs)
  have HG1 := Lib.hid (show gF n ⟨f0, f1, f2⟩ = true ↔ goodF vs.length ⟨f0, f1, f2⟩ by rw [h.len]; exact gF_iff _ _)
  clear h hA hl
  generalize gBs vs = b0 at CG HG0
  generalize gF n ⟨f0, f1, f2⟩ = b1 at CF HG1
  go_enter Try.func24, Try.ntmps24
  go_wp2_with fail
  obtain ⟨W5, hW5⟩ : ∃ W, World.alloc w (.cells #[.int .i64 f0, .int .i64 f1, .int .i64 f2] 38) = W := ⟨_, rfl⟩
  obtain ⟨xb, hxb⟩ : ∃ x, (w : World).heap.size = x := ⟨_, rfl⟩
  have cxb0 : W5.cell? ⟨xb, 0, none⟩ = some (.int .i64 f0) := by rw [← hW5, ← hxb, sNew]; rfl
  have cxb1 : W5.cell? ⟨xb, 1, none⟩ = some (.int .i64 f1) := by rw [← hW5, ← hxb, sNew]; rfl
  have cxb2 : W5.cell? ⟨xb, 2, none⟩ = some (.int .i64 f2) := by rw [← hW5, ← hxb, sNew]; rfl
  have HB5 := Lib.hid (show Below w.heap.size w W5 by rw [← hW5]; exact below1 _ _)
  have hxl := World.block_lt_of_cell? W5 _ cxb0
  have HX := Lib.hid (fun W (hq : Below W5.heap.size W5 W) => show W.cell? ⟨xb, 0, none⟩ = some (.int .i64 f0) ∧ W.cell? ⟨xb, 1, none⟩ = some (.int .i64 f1) ∧ W.cell? ⟨xb, 2, none⟩ = some (.int .i64 f2) from ⟨(hq.cell hxl).trans cxb0, (hq.cell (p := ⟨xb, 1, none⟩) hxl).trans cxb1, (hq.cell (p := ⟨xb, 2, none⟩) hxl).trans cxb2⟩)
  have HXL := Lib.hid hxl
  rw [hW5, hxb]
  clear hW5 hxb hxl
  clear cxb0 cxb1 cxb2
  refine (CG.out _ HB5.out).mono ?_
  rintro e w1 ⟨rfl, hb⟩
  obtain ⟨x0, x1, x2⟩ := HX.out _ hb
  have HQ1 := Lib.hid hb
  have HB6 := Lib.hid (HB5.out.trans (hb.mono HB5.out.size))
  clear hb CG
  cases b0 with
  | false =>
    obtain ⟨rfl, rfl⟩ := HNO.out (fun g => by have := HG0.out.2 g.1; cases this)
    obtain rfl : 0 = m := HM.out
    clear HNO HYES HG0 HG1
    go_wp2_with fail
    refine bodyPost_ret (results_tmp2 rfl _ _ _) rfl ?_
    exact (OwnB.nil HB6.out).gives false
  | true =>
  have hgood := HG0.out.1 rfl
  clear HG0
  go_wp2_with fail
  refine (CF.out _).mono ?_
  rintro e w2 ⟨rfl, hb⟩
  have HQ2 := Lib.hid (HQ1.out.trans (hb.mono HQ1.out.size))
  obtain ⟨y0, y1, y2⟩ := HX.out _ HQ2.out
  have HB7 := Lib.hid (HB6.out.trans (hb.mono HB6.out.size))
  clear hb CF x0 x1 x2 HB6 HQ1
  cases b1 with
  | false =>
    clear hgood
    obtain ⟨rfl, rfl⟩ := HNO.out (fun g => by have := HG1.out.2 g.2.1; cases this)
    obtain rfl : 0 = m := HM.out
    clear HNO HYES HG1
    go_wp2_with fail
    refine bodyPost_ret (results_tmp2 rfl _ _ _) rfl ?_
    exact (OwnB.nil HB7.out).gives false
  | true =>
  have hf := HG1.out.1 rfl
  have hf2 : goodF n ⟨f0, f1, f2⟩ := by rw [← HI.out.len]; exact hf
  have hn6 : n ≤ 6 := by rw [← HI.out.len]; exact hgood.1.2
  have hn1 : 0 < n := by rw [← HI.out.len]; exact hgood.1.1
  obtain ⟨a, rfl⟩ := some_of HI.out hn1
  have CM := Lib.hid (fun W (hb : Below w.heap.size w W) => l10Move_any c (HI.out.below hb HI.out.low) hn6 f0 f1 f2 hf2 (hgood.bd.le (by omega)))
  have HG2 := Lib.hid (gBs_iff (move vs ⟨f0, f1, f2⟩))
  replace CV := Lib.hid (fun W a c h hm => CV.out W (move vs ⟨f0, f1, f2⟩) n a c h hm)
  generalize gBs (move vs ⟨f0, f1, f2⟩) = b2 at CV HG2
  have HGF := Lib.hid (And.intro hgood hf)
  clear HG1 hf hgood hf2
  go_wp2_with fail
  refine (CM.out _ HB7.out).mono ?_
  rintro e w3 ⟨v, rfl, hO⟩
  have HQ3 := Lib.hid (HQ2.out.trans (hO.low.mono HQ2.out.size))
  obtain ⟨x0, x1, x2⟩ := HX.out _ HQ3.out
  have HB8 := Lib.hid (HB7.out.trans (hO.low.mono HB7.out.size))
  obtain ⟨g, cg, rfl, hg1, hg2, hg3⟩ := hO
  have D := Lib.hid (CV.out w3 _ cg (own_Basins hg2) (Nat.le_trans hn6 (by unfold maxLen; omega)))
  clear hg1 hg2 hg3 y0 y1 y2 HB7 HQ2 CV
  go_wp2_with fail
  refine D.out.mono ?_
  rintro e w4 ⟨rfl, hb⟩
  obtain ⟨y0, y1, y2⟩ := HX.out _ (HQ3.out.trans (hb.mono HQ3.out.size))
  have HB9 := Lib.hid (HB8.out.trans (hb.mono HB8.out.size))
  clear hb D x0 x1 x2 HB8 HQ3
  cases b2 with
  | false =>
    obtain ⟨rfl, rfl⟩ := HNO.out (fun g => by have := HG2.out.2 g.2.2; cases this)
    obtain rfl : 0 = m := HM.out
    clear HNO HYES HG2 HGF
    go_wp2_with fail
    refine bodyPost_ret (results_tmp2 rfl _ _ _) rfl ?_
    exact (OwnB.nil HB9.out).gives false
  | true =>
  obtain ⟨rfl, rfl⟩ := HYES.out ⟨HGF.out.1, HGF.out.2, HG2.out.1 rfl⟩
  obtain rfl : n = m := by rw [← HM.out, move_len, HI.out.len]
  clear HNO HYES HM HG2 HGF
  go_wp2_with fail
  refine (CM.out _ HB9.out).mono ?_
  rintro e w5 ⟨v, rfl, hO⟩
  have HO := Lib.hid (hO.base HB9.out)
  clear hO
  go_wp2_with fail
  refine bodyPost_ret (results_tmp2 rfl _ _ _) rfl ?_
  exact HO.out.gives true
set_option maxRecDepth 100000 in
set_option maxHeartbeats 2000000 in
theorem moveI_any {w : World} {B : Nat} {A : Option Addr} {n : Nat} {vs : List TBasin} (c : Nat) (h : IsBasins w B A n vs) (hm : n ≤ 1048576) (f0 f1 f2 : Int) (L : List TBasin) (x : Bool) (hA : MovA vs ⟨f0, f1, f2⟩ L x) (m : Nat) (hl : L.length = m) :
    Calls Try.prog 22 #[.slice A n c, .agg #[.int .i64 f0, .int .i64 f1, .int .i64 f2]] w (GivesB w L m x) := by
  have CG := Lib.hid (fun W (hb : Below w.heap.size w W) R hR => isFlowI_any c (h.below hb h.low) (Nat.le_trans hm (by unfold maxLen; omega)) f0 f1 f2 R hR)
  have CV := Lib.hid (fun W (L : List TBasin) (m : Nat) (a : Addr) c (h : IsBasins W W.heap.size (some a) m L) hm => areBasins_any c h hm)
  have HI := Lib.hid h
  have HNO := Lib.hid hA.2
  have HYES := Lib.hid hA.1
  have HM := Lib.hid hl
  have HG0 := Lib.hid (gBs_iff vs)
  have HG1 := Lib.hid (show gF n ⟨f0, f1, f2⟩ = true ↔ goodF vs.length ⟨f0, f1, f2⟩ by rw [h.len]; exact gF_iff _ _)
  clear h hA hl
  generalize gBs vs = b0 at CG HG0
  generalize gF n ⟨f0, f1, f2⟩ = b1 at CG HG1
  obtain ⟨b, hbb⟩ : ∃ b, b = (b0 && b1) := ⟨_, rfl⟩
  have HBB := Lib.hid (show b = true ↔ goodBs vs ∧ goodF vs.length ⟨f0, f1, f2⟩ by rw [hbb, Bool.and_eq_true, HG0.out, HG1.out])
  replace CG := Lib.hid (fun W hb => CG.out W hb b hbb)
  clear hbb HG0 HG1
  go_enter Try.func22, Try.ntmps22
  go_wp2_with fail
  obtain ⟨W5, hW5⟩ : ∃ W, World.alloc w (.cells #[.int .i64 f0, .int .i64 f1, .int .i64 f2] 38) = W := ⟨_, rfl⟩
  obtain ⟨xb, hxb⟩ : ∃ x, (w : World).heap.size = x := ⟨_, rfl⟩
  have cxb0 : W5.cell? ⟨xb, 0, none⟩ = some (.int .i64 f0) := by rw [← hW5, ← hxb, sNew]; rfl
  have cxb1 : W5.cell? ⟨xb, 1, none⟩ = some (.int .i64 f1) := by rw [← hW5, ← hxb, sNew]; rfl
  have cxb2 : W5.cell? ⟨xb, 2, none⟩ = some (.int .i64 f2) := by rw [← hW5, ← hxb, sNew]; rfl
  have HB5 := Lib.hid (show Below w.heap.size w W5 by rw [← hW5]; exact below1 _ _)
  have hxl := World.block_lt_of_cell? W5 _ cxb0
  have HX := Lib.hid (fun W (hq : Below W5.heap.size W5 W) => show W.cell? ⟨xb, 0, none⟩ = some (.int .i64 f0) ∧ W.cell? ⟨xb, 1, none⟩ = some (.int .i64 f1) ∧ W.cell? ⟨xb, 2, none⟩ = some (.int .i64 f2) from ⟨(hq.cell hxl).trans cxb0, (hq.cell (p := ⟨xb, 1, none⟩) hxl).trans cxb1, (hq.cell (p := ⟨xb, 2, none⟩) hxl).trans cxb2⟩)
  have HXL := Lib.hid hxl
  rw [hW5, hxb]
  clear hW5 hxb hxl
  refine (CG.out _ HB5.out).mono ?_
  rintro e w1 ⟨rfl, hb⟩
  obtain ⟨x0, x1, x2⟩ := HX.out _ hb
  have HQ1 := Lib.hid hb
  have HB6 := Lib.hid (HB5.out.trans (hb.mono HB5.out.size))
  clear hb CG cxb0 cxb1 cxb2
  cases b with
  | false =>
    obtain ⟨rfl, rfl⟩ := HNO.out (fun g => by have := HBB.out.2 ⟨g.1, g.2.1⟩; cases this)
    obtain rfl : 0 = m := HM.out
    clear HNO HYES HBB
    go_wp2_with fail
    refine bodyPost_ret (results_tmp2 rfl _ _ _) rfl ?_
    exact (OwnB.nil HB6.out).gives false
  | true =>
  obtain ⟨hgood, hf⟩ := HBB.out.1 rfl
  have hf2 : goodF n ⟨f0, f1, f2⟩ := by rw [← HI.out.len]; exact hf
  have hn6 : n ≤ 6 := by rw [← HI.out.len]; exact hgood.1.2
  have hn1 : 0 < n := by rw [← HI.out.len]; exact hgood.1.1
  obtain ⟨a, rfl⟩ := some_of HI.out hn1
  have CC := Lib.hid (cloneB_any c (HI.out.below HB6.out HI.out.low) (by omega))
  have CP := Lib.hid (fun W base g c' (ho : World.ownsRow W base 53 3 (.slice (some ⟨g, 0, none⟩) n c') n (flatBasin vs)) => pour_any ho hn6 f0 f1 f2 hf2 (hgood.bd.le (by omega)))
  have HG2 := Lib.hid (gBs_iff (move vs ⟨f0, f1, f2⟩))
  replace CV := Lib.hid (fun W a c h hm => CV.out W (move vs ⟨f0, f1, f2⟩) n a c h hm)
  generalize gBs (move vs ⟨f0, f1, f2⟩) = b2 at CV HG2
  have HGF := Lib.hid (And.intro hgood hf)
  clear hf hgood hf2 HBB
  go_wp2_with fail
  refine CC.out.mono ?_
  rintro e w2 ⟨v, rfl, hO⟩
  have HQ2 := Lib.hid (HQ1.out.trans (hO.low.mono HQ1.out.size))
  obtain ⟨y0, y1, y2⟩ := HX.out _ HQ2.out
  have HB7 := Lib.hid (HB6.out.trans (hO.low.mono HB6.out.size))
  obtain ⟨g, cg, rfl, hg1, hg2, hg3⟩ := hO
  have D := Lib.hid (CP.out _ _ _ _ hg2)
  have hgw : w.heap.size ≤ g := Nat.le_trans HB6.out.size hg1
  have HLO := Lib.hid HB6.out.size
  clear hg1 hg2 hg3 x0 x1 x2 HQ1 CC CP HQ2 HX
  go_wp2_with fail
  refine D.out.mono ?_
  rintro e w3 ⟨rfl, ho, hgr⟩
  have HB8 := Lib.hid (HB7.out.grown hgr HB7.out.size (fun q hq => by cases hq; exact hgw))
  have HOW := Lib.hid (own_low ho HLO.out)
  have E := Lib.hid (CV.out w3 _ cg (own_Basins ho) (Nat.le_trans hn6 (by unfold maxLen; omega)))
  clear ho hgr HB7 CV D y0 y1 y2 HLO
  go_wp2_with fail
  refine E.out.mono ?_
  rintro e w4 ⟨rfl, hb⟩
  have HB9 := Lib.hid (HB8.out.trans (hb.mono HB8.out.size))
  have HO9 := Lib.hid (own_below HOW.out hb)
  clear hb E HB8 HOW
  cases b2 with
  | false =>
    obtain ⟨rfl, rfl⟩ := HNO.out (fun g => by have := HG2.out.2 g.2.2; cases this)
    obtain rfl : 0 = m := HM.out
    clear HNO HYES HG2 HGF
    go_wp2_with fail
    refine bodyPost_ret (results_tmp2 rfl _ _ _) rfl ?_
    exact (OwnB.nil HB9.out).gives false
  | true =>
  obtain ⟨rfl, rfl⟩ := HYES.out ⟨HGF.out.1, HGF.out.2, HG2.out.1 rfl⟩
  obtain rfl : n = m := by rw [← HM.out, move_len, HI.out.len]
  clear HNO HYES HM HG2 HGF
  go_wp2_with fail
  refine bodyPost_ret (results_tmp2 rfl _ _ _) rfl ?_
  exact ⟨g, cg, rfl, HO9.out, HB9.out⟩
end Go.Proofs.Ytliebicnejbheaa
