/- Chapter 8: what FnLockageEnds draws. -/
import Derived.Test.YtdleidlmjliapaaLeB
import Derived.Test.YtdleidlmjliapaaDraw
namespace Go.Proofs.Ytdleidlmjliapaa
open Go.RowKit Go.PlainAid Go.Sort
set_option linter.unusedVariables false
set_option linter.unusedSimpArgs false

theorem own_capX {w : World} {base : Nat} {e : TypeId} {g n c : Nat} {xs : List Value} {z : Nat} (h : w.ownsRow base e z (.slice (some ⟨g, 0, none⟩) n c) n xs) : n ≤ c := by
  rcases h.2 with ⟨h1, h2⟩ | ⟨g, cap, cur, h1, -, -, h2, -⟩
  · cases h1
  · injection h1 with _ _ h3; omega
theorem results_tmp4 {fn : Func} {t u v x : Tmp} (h : fn.results = #[.tmp t, .tmp u, .tmp v, .tmp x]) (tmps : Array Value) (P : Program) (w : World) :
    (results fn tmps).run P w = .ok (.tuple #[tmps.getD t undef, tmps.getD u undef, tmps.getD v undef, tmps.getD x undef]) w := by
  simp [results, h]
/-- Drawn arrivals, a level, minutes and an order. -/
def DrwO (w : World) (e : Ending) (w' : World) : Prop :=
  ∃ (g1 q c1 : Nat) (vs : List TArrival) (hi : Bool) (m : Int) (g2 q2 c2 : Nat) (os : List Int), e = .returned (.tuple #[.slice (some ⟨g1, 0, none⟩) q c1, .bool hi, .int .i64 m, .slice (some ⟨g2, 0, none⟩) q2 c2]) ∧ q ≤ 8 ∧ q2 ≤ 9 ∧ q2 ≤ c2 ∧
    IsArrivals w' w'.heap.size (some ⟨g1, 0, none⟩) q vs ∧ IsIs w' w'.heap.size (some ⟨g2, 0, none⟩) q2 os ∧ Below w.heap.size w w'
/-- Drawn arrivals and an order. -/
def DrwP (w : World) (e : Ending) (w' : World) : Prop :=
  ∃ (g1 q c1 : Nat) (vs : List TArrival) (g2 q2 c2 : Nat) (os : List Int), e = .returned (.tuple #[.slice (some ⟨g1, 0, none⟩) q c1, .slice (some ⟨g2, 0, none⟩) q2 c2]) ∧ q ≤ 8 ∧ q2 ≤ 9 ∧ q2 ≤ c2 ∧
    IsArrivals w' w'.heap.size (some ⟨g1, 0, none⟩) q vs ∧ IsIs w' w'.heap.size (some ⟨g2, 0, none⟩) q2 os ∧ Below w.heap.size w w'
set_option maxHeartbeats 1000000 in
theorem lockageMinutes_at {g : Nat} {A : Option Addr} {n c : Nat} {p : Int} {zs : List Int} {B : Nat} {w : World} (h : CurAt w g A n c p zs B) (hp : p ≤ 800000000) :
    Calls Try.prog 81 #[.pointer (some ⟨g, 0, none⟩)] w fun e w' => ∃ z : Int, e = .returned (.int .i64 z) ∧ CurStep w w' g A n c p 2 := by
  have H := Lib.hid h
  clear h
  go_enter Try.func81, Try.ntmps81
  go_wp2_with fail
  refine (among_new H.out (by omega) [1, 10, 10, 15, 20, 60, 12, 5, 61, 0] 10 rfl (by omega) (by omega) w.heap.size rfl).mono ?_
  rintro e w1 ⟨z, -, rfl, hs⟩
  have HS := Lib.hid hs
  clear hs H
  go_wp2_with fail
  refine bodyPost_ret (results_tmp rfl _ _ _) rfl ?_
  exact ⟨z, rfl, HS.out⟩
set_option maxHeartbeats 2000000 in
theorem drawT_any {w : World} {A : Option Addr} {n : Nat} {zs : List Int} {B : Nat} (c : Nat) (h : Code_ w A n zs B) :
    Calls Try.prog 49 #[.slice A n c] w (DrwO w) := by
  have H := Lib.hid (h.start c)
  have hbs := Lib.hid (fun w' (h : (w.alloc (.cells #[.slice A n c, .int .i64 0, .int .u64 0] 65)).grownBy w' (some w.heap.size)) => below_start h)
  have C := Lib.hid (arrivals_at (h.start c) (by omega))
  have hw0 : (w.alloc (.cells #[.slice A n c, .int .i64 0, .int .u64 0] 65)).heap.size = w.heap.size + 1 := by simp
  clear h
  go_enter Try.func49, Try.ntmps49
  go_wp2_with fail
  refine C.out.mono ?_
  rintro e w1 ⟨g1, q, c1, rfl, hq, ⟨vs, hg1, hov⟩, hs⟩
  have hne : g1 ≠ w.heap.size := by omega
  have HS1 := Lib.hid hs
  have HV1 := Lib.hid hov
  obtain ⟨r5, r50, r51, H5⟩ := hs.at H.out
  clear hs hov C hw0 hg1
  go_wp2_with fail
  refine (one_at H5 (by omega) 2 (by omega)).mono ?_
  rintro e w2 ⟨hi, rfl, hs⟩
  have HS2 := Lib.hid (HS1.out.then hs r50 r51)
  have HV2 := Lib.hid (HV1.out.kept hs.grown (.inr (by simp [Value.ownBlock]; exact hne)))
  clear hs H5 HS1 HV1 r50 r51
  obtain ⟨r5, r50, r51, H5⟩ := HS2.out.at H.out
  go_wp2_with fail
  refine (lockageMinutes_at H5 (by omega)).mono ?_
  rintro e w3 ⟨m, rfl, hs⟩
  have HS3 := Lib.hid (HS2.out.then hs r50 r51)
  have HV3 := Lib.hid (HV2.out.kept hs.grown (.inr (by simp [Value.ownBlock]; exact hne)))
  clear hs H5 HS2 HV2 r50 r51
  obtain ⟨r5, r50, r51, H5⟩ := HS3.out.at H.out
  go_wp2_with fail
  refine (lockageOrder_at H5 (by omega) HV3.out hne hq).mono ?_
  rintro e w4 ⟨g2, q2, c2, rfl, hq2, ⟨os, hg2, hoo⟩, hs⟩
  have HV4 := Lib.hid (own_Arrivals (HV3.out.kept hs.grown (.inr (by simp [Value.ownBlock]; exact hne))))
  have HO4 := Lib.hid (own_IsIs hoo)
  have hcap := own_capX hoo
  have HB := Lib.hid (hbs.out _ (HS3.out.then hs r50 r51).grown)
  clear hs hoo H5 HS3 HV3 hbs H r50 r51
  go_wp2_with fail
  refine bodyPost_ret (results_tmp4 rfl _ _ _) rfl ?_
  exact ⟨g1, q, c1, vs, hi, m, g2, q2, c2, os, rfl, hq, hq2, hcap, HV4.out, HO4.out, HB.out⟩
end Go.Proofs.Ytdleidlmjliapaa
