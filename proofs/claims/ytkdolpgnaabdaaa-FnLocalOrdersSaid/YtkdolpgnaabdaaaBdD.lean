/- Chapter 9: what its laws draw. -/
import Derived.Test.YtkdolpgnaabdaaaLeB
import Derived.Test.YtkdolpgnaabdaaaDraw
import Derived.Test.YtkdolpgnaabdaaaLkU
import Derived.Test.YtkdolpgnaabdaaaBdN
namespace Go.Proofs.Ytkdolpgnaabdaaa
open Go.RowKit Go.PlainAid Go.Sort
set_option linter.unusedVariables false
set_option linter.unusedSimpArgs false

theorem own_capX {w : World} {base : Nat} {e : TypeId} {g n c : Nat} {xs : List Value} {z : Nat} (h : w.ownsRow base e z (.slice (some ⟨g, 0, none⟩) n c) n xs) : n ≤ c := by
  rcases h.2 with ⟨h1, h2⟩ | ⟨g, cap, cur, h1, -, -, h2, -⟩
  · cases h1
  · injection h1 with _ _ h3; omega
theorem results_tmp4 {fn : Func} {t u v x : Tmp} (h : fn.results = #[.tmp t, .tmp u, .tmp v, .tmp x]) (tmps : Array Value) (P : Program) (w : World) :
    (results fn tmps).run P w = .ok (.tuple #[tmps.getD t undef, tmps.getD u undef, tmps.getD v undef, tmps.getD x undef]) w := by
  simp [results, h]
theorem IsIs.allD {w : World} {B : Nat} {A : Option Addr} {n : Nat} {zs : List Int} (h : IsIs w B A n zs) : IsIs w w.heap.size A n zs := ⟨h.len, Nat.le_refl _, h.has.more h.low⟩
theorem results_tmp5 {fn : Func} {t u v x y : Tmp} (h : fn.results = #[.tmp t, .tmp u, .tmp v, .tmp x, .tmp y]) (tmps : Array Value) (P : Program) (w : World) :
    (results fn tmps).run P w = .ok (.tuple #[tmps.getD t undef, tmps.getD u undef, tmps.getD v undef, tmps.getD x undef, tmps.getD y undef]) w := by
  simp [results, h]
/-- Drawn arrivals, a level, minutes and an order. -/
def DrwQ (w : World) (e : Ending) (w' : World) : Prop :=
  ∃ (g1 q c1 : Nat) (vs : List TArrival) (hi : Bool) (m : Int) (g2 q2 c2 : Nat) (os : List Int), e = .returned (.tuple #[.slice (some ⟨g1, 0, none⟩) q c1, .bool hi, .int .i64 m, .slice (some ⟨g2, 0, none⟩) q2 c2]) ∧ q ≤ 8 ∧ q ≤ c1 ∧ q2 ≤ 9 ∧ q2 ≤ c2 ∧
    IsArrivals w' w'.heap.size (some ⟨g1, 0, none⟩) q vs ∧ IsIs w' w'.heap.size (some ⟨g2, 0, none⟩) q2 os ∧ Below w.heap.size w w'
/-- Drawn arrivals, a level and minutes. -/
def DrwB (w : World) (e : Ending) (w' : World) : Prop :=
  ∃ (g1 q c1 : Nat) (vs : List TArrival) (hi : Bool) (m : Int), e = .returned (.tuple #[.slice (some ⟨g1, 0, none⟩) q c1, .bool hi, .int .i64 m]) ∧ q ≤ 8 ∧ q ≤ c1 ∧ IsArrivals w' w'.heap.size (some ⟨g1, 0, none⟩) q vs ∧ Below w.heap.size w w'
/-- Drawn arrivals, a level, minutes, an order and a place in it. -/
def DrwG (w : World) (e : Ending) (w' : World) : Prop :=
  ∃ (g1 q c1 : Nat) (vs : List TArrival) (hi : Bool) (m : Int) (g2 q2 c2 : Nat) (os : List Int) (k : Int), e = .returned (.tuple #[.slice (some ⟨g1, 0, none⟩) q c1, .bool hi, .int .i64 m, .slice (some ⟨g2, 0, none⟩) q2 c2, .int .i64 k]) ∧ q ≤ 8 ∧ q ≤ c1 ∧ q2 ≤ 9 ∧ q2 ≤ c2 ∧ (-1 ≤ k ∧ k ≤ 9) ∧
    IsArrivals w' w'.heap.size (some ⟨g1, 0, none⟩) q vs ∧ IsIs w' w'.heap.size (some ⟨g2, 0, none⟩) q2 os ∧ Below w.heap.size w w'
set_option maxHeartbeats 1000000 in
theorem lockageMinutes_at {g : Nat} {A : Option Addr} {n c : Nat} {p : Int} {zs : List Int} {B : Nat} {w : World} (h : CurAt w g A n c p zs B) (hp : p ≤ 800000000) :
    Calls Try.prog 75 #[.pointer (some ⟨g, 0, none⟩)] w fun e w' => ∃ z : Int, e = .returned (.int .i64 z) ∧ CurStep w w' g A n c p 2 := by
  have H := Lib.hid h
  clear h
  go_enter Try.func75, Try.ntmps75
  go_wp2_with fail
  refine (among_new H.out (by omega) [1, 10, 10, 15, 20, 60, 12, 5, 61, 0] 10 rfl (by omega) (by omega) w.heap.size rfl).mono ?_
  rintro e w1 ⟨z, -, rfl, hs⟩
  have HS := Lib.hid hs
  clear hs H
  go_wp2_with fail
  refine bodyPost_ret (results_tmp rfl _ _ _) rfl ?_
  exact ⟨z, rfl, HS.out⟩
set_option maxHeartbeats 2000000 in
theorem drawT_any {w : World} {A : Option Addr} {n : Nat} {zs : List Int} {B : Nat} (c : Nat) (h : Code_ w A n zs B) :
    Calls Try.prog 53 #[.slice A n c] w (DrwQ w) := by
  have H := Lib.hid (h.start c)
  have hbs := Lib.hid (fun w' (h : (w.alloc (.cells #[.slice A n c, .int .i64 0, .int .u64 0] 66)).grownBy w' (some w.heap.size)) => below_start h)
  have C := Lib.hid (arrivals_at (h.start c) (by omega))
  have hw0 : (w.alloc (.cells #[.slice A n c, .int .i64 0, .int .u64 0] 66)).heap.size = w.heap.size + 1 := by simp
  clear h
  go_enter Try.func53, Try.ntmps53
  go_wp2_with fail
  refine C.out.mono ?_
  rintro e w1 ⟨g1, q, c1, rfl, hq, ⟨vs, hg1, hov⟩, hs⟩
  have hne : g1 ≠ w.heap.size := by omega
  have HS1 := Lib.hid hs
  have HV1 := Lib.hid hov
  obtain ⟨r5, r50, r51, H5⟩ := hs.at H.out
  clear hs hov C hw0 hg1
  go_wp2_with fail
  refine (one_at H5 (by omega) 2 (by omega)).mono ?_
  rintro e w2 ⟨hi, rfl, hs⟩
  have HS2 := Lib.hid (HS1.out.then hs r50 r51)
  have HV2 := Lib.hid (HV1.out.kept hs.grown (.inr (by simp [Value.ownBlock]; exact hne)))
  clear hs H5 HS1 HV1 r50 r51
  obtain ⟨r5, r50, r51, H5⟩ := HS2.out.at H.out
  go_wp2_with fail
  refine (lockageMinutes_at H5 (by omega)).mono ?_
  rintro e w3 ⟨m, rfl, hs⟩
  have HS3 := Lib.hid (HS2.out.then hs r50 r51)
  have HV3 := Lib.hid (HV2.out.kept hs.grown (.inr (by simp [Value.ownBlock]; exact hne)))
  clear hs H5 HS2 HV2 r50 r51
  obtain ⟨r5, r50, r51, H5⟩ := HS3.out.at H.out
  go_wp2_with fail
  refine (lockageOrder_at H5 (by omega) HV3.out hne hq).mono ?_
  rintro e w4 ⟨g2, q2, c2, rfl, hq2, ⟨os, hg2, hoo⟩, hs⟩
  have HV4 := Lib.hid (own_Arrivals (HV3.out.kept hs.grown (.inr (by simp [Value.ownBlock]; exact hne))))
  have HO4 := Lib.hid (own_IsIs hoo)
  have hcap := own_capX hoo
  have hcq := own_capX HV3.out
  have HB := Lib.hid (hbs.out _ (HS3.out.then hs r50 r51).grown)
  clear hs hoo H5 HS3 HV3 hbs H r50 r51
  go_wp2_with fail
  refine bodyPost_ret (results_tmp4 rfl _ _ _) rfl ?_
  exact ⟨g1, q, c1, vs, hi, m, g2, q2, c2, os, rfl, hq, hcq, hq2, hcap, HV4.out, HO4.out, HB.out⟩
set_option maxHeartbeats 2000000 in
theorem drawB_any {w : World} {A : Option Addr} {n : Nat} {zs : List Int} {B : Nat} (c : Nat) (h : Code_ w A n zs B) :
    Calls Try.prog 44 #[.slice A n c] w (DrwB w) := by
  have H := Lib.hid (h.start c)
  have hbs := Lib.hid (fun w' (h : (w.alloc (.cells #[.slice A n c, .int .i64 0, .int .u64 0] 66)).grownBy w' (some w.heap.size)) => below_start h)
  have C := Lib.hid (arrivals_at (h.start c) (by omega))
  have hw0 : (w.alloc (.cells #[.slice A n c, .int .i64 0, .int .u64 0] 66)).heap.size = w.heap.size + 1 := by simp
  clear h
  go_enter Try.func44, Try.ntmps44
  go_wp2_with fail
  refine C.out.mono ?_
  rintro e w1 ⟨g1, q, c1, rfl, hq, ⟨vs, hg1, hov⟩, hs⟩
  have hne : g1 ≠ w.heap.size := by omega
  have HS1 := Lib.hid hs
  have HV1 := Lib.hid hov
  obtain ⟨r5, r50, r51, H5⟩ := hs.at H.out
  clear hs hov C hw0 hg1
  go_wp2_with fail
  refine (one_at H5 (by omega) 2 (by omega)).mono ?_
  rintro e w2 ⟨hi, rfl, hs⟩
  have HS2 := Lib.hid (HS1.out.then hs r50 r51)
  have HV2 := Lib.hid (HV1.out.kept hs.grown (.inr (by simp [Value.ownBlock]; exact hne)))
  clear hs H5 HS1 HV1 r50 r51
  obtain ⟨r5, r50, r51, H5⟩ := HS2.out.at H.out
  go_wp2_with fail
  refine (lockageMinutes_at H5 (by omega)).mono ?_
  rintro e w3 ⟨m, rfl, hs⟩
  have hcq := own_capX HV2.out
  have HV3 := Lib.hid (own_Arrivals (HV2.out.kept hs.grown (.inr (by simp [Value.ownBlock]; exact hne))))
  have HB := Lib.hid (hbs.out _ (HS2.out.then hs r50 r51).grown)
  clear hs H5 HS2 HV2 r50 r51 hbs H
  go_wp2_with fail
  refine bodyPost_ret (results_tmp3 rfl _ _ _) rfl ?_
  exact ⟨g1, q, c1, vs, hi, m, rfl, hq, hcq, HV3.out, HB.out⟩
set_option maxHeartbeats 1000000 in
theorem drawLow_any {w : World} {A : Option Addr} {n : Nat} {zs : List Int} {B : Nat} (c : Nat) (h : Code_ w A n zs B) :
    Calls Try.prog 13 #[.slice A n c] w (DrwB w) := by
  have C := Lib.hid (drawB_any c h)
  clear h
  go_enter Try.func13, Try.ntmps13
  go_wp2_with fail
  refine C.out.mono ?_
  rintro e w4 ⟨g1, q, c1, vs, hi, m, rfl, hq, hcq, h1, h3⟩
  have H1 := Lib.hid h1
  have H3 := Lib.hid h3
  clear h1 h3 C
  go_wp2_with fail
  refine bodyPost_ret (results_tmp3 rfl _ _ _) rfl ?_
  exact ⟨g1, q, c1, vs, hi, m, rfl, hq, hcq, H1.out, H3.out⟩
set_option maxHeartbeats 1000000 in
theorem drawLoc_any {w : World} {A : Option Addr} {n : Nat} {zs : List Int} {B : Nat} (c : Nat) (h : Code_ w A n zs B) :
    Calls Try.prog 28 #[.slice A n c] w (DrwB w) := by
  have C := Lib.hid (drawB_any c h)
  clear h
  go_enter Try.func28, Try.ntmps28
  go_wp2_with fail
  refine C.out.mono ?_
  rintro e w4 ⟨g1, q, c1, vs, hi, m, rfl, hq, hcq, h1, h3⟩
  have H1 := Lib.hid h1
  have H3 := Lib.hid h3
  clear h1 h3 C
  go_wp2_with fail
  refine bodyPost_ret (results_tmp3 rfl _ _ _) rfl ?_
  exact ⟨g1, q, c1, vs, hi, m, rfl, hq, hcq, H1.out, H3.out⟩
set_option maxHeartbeats 1000000 in
theorem drawGap_any {w : World} {A : Option Addr} {n : Nat} {zs : List Int} {B : Nat} (c : Nat) (h : Code_ w A n zs B) :
    Calls Try.prog 26 #[.slice A n c] w (DrwQ w) := by
  have C := Lib.hid (drawT_any c h)
  clear h
  go_enter Try.func26, Try.ntmps26
  go_wp2_with fail
  refine C.out.mono ?_
  rintro e w4 ⟨g1, q, c1, vs, hi, m, g2, q2, c2, os, rfl, hq, hcq, hq2, hcap, h1, h2, h3⟩
  have H1 := Lib.hid h1
  have H2 := Lib.hid h2
  have H3 := Lib.hid h3
  clear h1 h2 h3 C
  go_wp2_with fail
  refine bodyPost_ret (results_tmp4 rfl _ _ _) rfl ?_
  exact ⟨g1, q, c1, vs, hi, m, g2, q2, c2, os, rfl, hq, hcq, hq2, hcap, H1.out, H2.out, H3.out⟩
set_option maxHeartbeats 2000000 in
theorem drawV_any {w : World} {A : Option Addr} {n : Nat} {zs : List Int} {B : Nat} (c : Nat) (h : Code_ w A n zs B) :
    Calls Try.prog 23 #[.slice A n c] w (DrwQ w) := by
  have C := Lib.hid (drawT_any c h)
  have HC := Lib.hid h
  clear h
  go_enter Try.func23, Try.ntmps23
  go_wp2_with fail
  refine C.out.mono ?_
  rintro e w1 ⟨g1, q, c1, vs, hi, m, g2, q2, c2, os, rfl, hq, hcq, hq2, hcap, hV, hO, hb⟩
  have HB1 := Lib.hid hb
  have HV1 := Lib.hid hV
  have HO1 := Lib.hid hO
  have H := Lib.hid ((HC.out.on (hb.mono HC.out.size)).start c)
  have hbs := Lib.hid (fun w' (h : (w1.alloc (.cells #[.slice A n c, .int .i64 0, .int .u64 0] 66)).grownBy w' (some w1.heap.size)) => below_start h)
  have S0 := Lib.hid (CurStep.refl H.out.cur)
  have hw1 : (w1.alloc (.cells #[.slice A n c, .int .i64 0, .int .u64 0] 66)).heap.size = w1.heap.size + 1 := by simp
  clear hb hV hO C HC
  obtain ⟨L, z, x, hA⟩ := bestA_ex vs hi m
  have hL6 := hA.len
  have C := Lib.hid (bestS_any c1 (HV1.out.below (below1 w1 (.cells #[.slice A n c, .int .i64 0, .int .u64 0] 66)) (Nat.le_refl _)) (by omega) hi m L z x hA L.length rfl)
  clear hA
  go_wp2_with fail
  refine C.out.mono ?_
  rintro e w2 ⟨g3, c3, rfl, hown, hb⟩
  have hcap3 := own_capX hown
  have hg3 := (hown.lt g3 rfl).1
  have hne : g3 ≠ w1.heap.size := by omega
  have S1 := Lib.hid (S0.out.on hb)
  have HO2 := Lib.hid hown
  clear hown hb C S0 hg3
  cases x with
  | true =>
    obtain ⟨r5, r50, r51, H5⟩ := S1.out.at H.out
    go_wp2_with fail
    refine (one_at H5 (by omega) 2 (by omega)).mono ?_
    rintro e w3 ⟨b, rfl, hs⟩
    have HB := Lib.hid (hbs.out _ (S1.out.then hs r50 r51).grown)
    have HO3 := Lib.hid (own_IsIs (HO2.out.kept hs.grown (.inr (by simp [Value.ownBlock]; exact hne))))
    clear hs H5 S1 r50 r51 hbs H HO2
    cases b with
    | true =>
      go_wp2_with fail
      refine bodyPost_ret (results_tmp4 rfl _ _ _) rfl ?_
      exact ⟨g1, q, c1, vs, hi, m, g3, L.length, c3, L, rfl, hq, hcq, by omega, hcap3, (HV1.out.below HB.out (Nat.le_refl _)).all, HO3.out, HB1.out.trans (HB.out.mono HB1.out.size)⟩
    | false =>
      go_wp2_with fail
      refine bodyPost_ret (results_tmp4 rfl _ _ _) rfl ?_
      exact ⟨g1, q, c1, vs, hi, m, g2, q2, c2, os, rfl, hq, hcq, hq2, hcap, (HV1.out.below HB.out (Nat.le_refl _)).all, (HO1.out.below HB.out (Nat.le_refl _)).allD, HB1.out.trans (HB.out.mono HB1.out.size)⟩
  | false =>
    have HB := Lib.hid (hbs.out _ S1.out.grown)
    clear S1 hbs H HO2
    go_wp2_with fail
    refine bodyPost_ret (results_tmp4 rfl _ _ _) rfl ?_
    exact ⟨g1, q, c1, vs, hi, m, g2, q2, c2, os, rfl, hq, hcq, hq2, hcap, (HV1.out.below HB.out (Nat.le_refl _)).all, (HO1.out.below HB.out (Nat.le_refl _)).allD, HB1.out.trans (HB.out.mono HB1.out.size)⟩
set_option maxHeartbeats 2000000 in
theorem drawG_any {w : World} {A : Option Addr} {n : Nat} {zs : List Int} {B : Nat} (c : Nat) (h : Code_ w A n zs B) :
    Calls Try.prog 34 #[.slice A n c] w (DrwG w) := by
  have C := Lib.hid (drawT_any c h)
  have HC := Lib.hid h
  clear h
  go_enter Try.func34, Try.ntmps34
  go_wp2_with fail
  refine C.out.mono ?_
  rintro e w1 ⟨g1, q, c1, vs, hi, m, g2, q2, c2, os, rfl, hq, hcq, hq2, hcap, hV, hO, hb⟩
  have HB1 := Lib.hid hb
  have HV1 := Lib.hid hV
  have HO1 := Lib.hid hO
  have H := Lib.hid ((HC.out.on (hb.mono HC.out.size)).start c)
  have hbs := Lib.hid (fun w' (h : (w1.alloc (.cells #[.slice A n c, .int .i64 0, .int .u64 0] 66)).grownBy w' (some w1.heap.size)) => below_start h)
  have S0 := Lib.hid (CurStep.refl H.out.cur)
  have hw1 : (w1.alloc (.cells #[.slice A n c, .int .i64 0, .int .u64 0] 66)).heap.size = w1.heap.size + 1 := by simp
  clear hb hV hO C HC
  obtain ⟨r5, r50, r51, H5⟩ := S0.out.at H.out
  go_wp2_with fail
  refine (pick_at H5 (by omega) ((q2 : Int) + 1) (by omega)).mono ?_
  rintro e w2 ⟨a, a0, a1, rfl, hs⟩
  have S1 := Lib.hid (S0.out.then hs r50 r51)
  clear hs S0 H5 r50 r51
  obtain ⟨r5, r50, r51, H5⟩ := S1.out.at H.out
  go_wp2_with fail
  refine (pick_at H5 (by omega) 9 (by omega)).mono ?_
  rintro e w3 ⟨b, b0, b1, rfl, hs⟩
  have HB := Lib.hid (hbs.out _ (S1.out.then hs r50 r51).grown)
  clear hs S1 H5 r50 r51 hbs H
  go_wp2_with fail
  refine bodyPost_ret (results_tmp5 rfl _ _ _) rfl ?_
  refine ⟨g1, q, c1, vs, hi, m, g2, q2, c2, os, _, rfl, hq, hcq, hq2, hcap, ?_, (HV1.out.below HB.out (Nat.le_refl _)).all, (HO1.out.below HB.out (Nat.le_refl _)).allD, HB1.out.trans (HB.out.mono HB1.out.size)⟩
  omega
end Go.Proofs.Ytkdolpgnaabdaaa
