/- Chapter 5: one command of the model. -/
import Derived.Test.YtmnagjjpncancaaLoD
import Derived.RegionTactic
namespace Go.Proofs.Ytmnagjjpncancaa
open Go.RowKit Go.PlainAid Go.Sort
set_option linter.unusedVariables false
set_option linter.unusedSimpArgs false

theorem below_drew {B : Nat} {a w : World} (h : Below B a w) : Below B a w.drew := ⟨h.os, h.tape, h.output, h.size, h.block⟩
set_option maxRecDepth 100000 in
set_option maxHeartbeats 4000000 in
theorem l5Turn_any (l u v : Int) (a b c d : Bool) (k : Int) (w : World) (hk : 1 ≤ k ∧ k ≤ 8) :
    Calls Try.prog 49 #[.agg #[.int .i64 l, .int .i64 u, .int .i64 v, .bool a, .bool b, .bool c, .bool d], .int .i64 k] w fun e w' => e = .returned (.tuple #[valLockState (turnL ⟨l, u, v, a, b, c, d⟩ k).1, .bool (turnL ⟨l, u, v, a, b, c, d⟩ k).2]) ∧ Below w.heap.size w w' := by
  by_cases k1 : k = 1
  · rw [show turnL ⟨l, u, v, a, b, c, d⟩ k = (⟨l, u, v, true, b, c, d⟩, !a) by rw [k1]; rfl]
    dsimp only
    · subst k1
      clear hk
      cases a
      all_goals
        go_enter Try.func49, Try.ntmps49
        go_wp2_with fail
        go_region
        go_wp2_with fail
        refine bodyPost_ret (results_row1 rfl _ _ (w.heap.size + 1) [_, _, _, _, _, _, _] _ rfl (BoxL.rangeAt (show BoxL _ (w.heap.size + 1) l u v true b c d from (heap_alloc_old _ _ (by simp)).trans (heap_alloc2_new w _ _))) Try.underlying23 rfl (by kernel_rfl)) rfl ?_
        exact ⟨rfl, below_drew (below3 _ _ _ _)⟩
  by_cases k2 : k = 2
  · rw [show turnL ⟨l, u, v, a, b, c, d⟩ k = (⟨l, u, v, false, b, c, d⟩, a) by rw [k2]; rfl]
    dsimp only
    · subst k2
      clear hk
      cases a
      all_goals
        go_enter Try.func49, Try.ntmps49
        go_wp2_with fail
        go_region
        go_wp2_with fail
        refine bodyPost_ret (results_row1 rfl _ _ (w.heap.size + 1) [_, _, _, _, _, _, _] _ rfl (BoxL.rangeAt (show BoxL _ (w.heap.size + 1) l u v false b c d from (heap_alloc_old _ _ (by simp)).trans (heap_alloc2_new w _ _))) Try.underlying23 rfl (by kernel_rfl)) rfl ?_
        exact ⟨rfl, below_drew (below3 _ _ _ _)⟩
  by_cases k3 : k = 3
  · rw [show turnL ⟨l, u, v, a, b, c, d⟩ k = (⟨l, u, v, a, true, c, d⟩, !b) by rw [k3]; rfl]
    dsimp only
    · subst k3
      clear hk
      cases b
      all_goals
        go_enter Try.func49, Try.ntmps49
        go_wp2_with fail
        go_region
        go_wp2_with fail
        refine bodyPost_ret (results_row1 rfl _ _ (w.heap.size + 1) [_, _, _, _, _, _, _] _ rfl (BoxL.rangeAt (show BoxL _ (w.heap.size + 1) l u v a true c d from (heap_alloc_old _ _ (by simp)).trans (heap_alloc2_new w _ _))) Try.underlying23 rfl (by kernel_rfl)) rfl ?_
        exact ⟨rfl, below_drew (below3 _ _ _ _)⟩
  by_cases k4 : k = 4
  · rw [show turnL ⟨l, u, v, a, b, c, d⟩ k = (⟨l, u, v, a, false, c, d⟩, b) by rw [k4]; rfl]
    dsimp only
    · subst k4
      clear hk
      cases b
      all_goals
        go_enter Try.func49, Try.ntmps49
        go_wp2_with fail
        go_region
        go_wp2_with fail
        refine bodyPost_ret (results_row1 rfl _ _ (w.heap.size + 1) [_, _, _, _, _, _, _] _ rfl (BoxL.rangeAt (show BoxL _ (w.heap.size + 1) l u v a false c d from (heap_alloc_old _ _ (by simp)).trans (heap_alloc2_new w _ _))) Try.underlying23 rfl (by kernel_rfl)) rfl ?_
        exact ⟨rfl, below_drew (below3 _ _ _ _)⟩
  by_cases k5 : k = 5
  · rw [show turnL ⟨l, u, v, a, b, c, d⟩ k = (⟨l, u, v, a, b, true, d⟩, !c) by rw [k5]; rfl]
    dsimp only
    · subst k5
      clear hk
      cases c
      all_goals
        go_enter Try.func49, Try.ntmps49
        go_wp2_with fail
        go_region
        go_wp2_with fail
        refine bodyPost_ret (results_row1 rfl _ _ (w.heap.size + 1) [_, _, _, _, _, _, _] _ rfl (BoxL.rangeAt (show BoxL _ (w.heap.size + 1) l u v a b true d from (heap_alloc_old _ _ (by simp)).trans (heap_alloc2_new w _ _))) Try.underlying23 rfl (by kernel_rfl)) rfl ?_
        exact ⟨rfl, below_drew (below3 _ _ _ _)⟩
  by_cases k6 : k = 6
  · rw [show turnL ⟨l, u, v, a, b, c, d⟩ k = (⟨l, u, v, a, b, false, d⟩, c) by rw [k6]; rfl]
    dsimp only
    · subst k6
      clear hk
      cases c
      all_goals
        go_enter Try.func49, Try.ntmps49
        go_wp2_with fail
        go_region
        go_wp2_with fail
        refine bodyPost_ret (results_row1 rfl _ _ (w.heap.size + 1) [_, _, _, _, _, _, _] _ rfl (BoxL.rangeAt (show BoxL _ (w.heap.size + 1) l u v a b false d from (heap_alloc_old _ _ (by simp)).trans (heap_alloc2_new w _ _))) Try.underlying23 rfl (by kernel_rfl)) rfl ?_
        exact ⟨rfl, below_drew (below3 _ _ _ _)⟩
  by_cases k7 : k = 7
  · rw [show turnL ⟨l, u, v, a, b, c, d⟩ k = (⟨l, u, v, a, b, c, true⟩, !d) by rw [k7]; rfl]
    dsimp only
    · subst k7
      clear hk
      cases d
      all_goals
        go_enter Try.func49, Try.ntmps49
        go_wp2_with fail
        go_region
        go_wp2_with fail
        refine bodyPost_ret (results_row1 rfl _ _ (w.heap.size + 1) [_, _, _, _, _, _, _] _ rfl (BoxL.rangeAt (show BoxL _ (w.heap.size + 1) l u v a b c true from (heap_alloc_old _ _ (by simp)).trans (heap_alloc2_new w _ _))) Try.underlying23 rfl (by kernel_rfl)) rfl ?_
        exact ⟨rfl, below_drew (below3 _ _ _ _)⟩
  by_cases k8 : k = 8
  · rw [show turnL ⟨l, u, v, a, b, c, d⟩ k = (⟨l, u, v, a, b, c, false⟩, d) by rw [k8]; rfl]
    dsimp only
    · subst k8
      clear hk
      cases d
      all_goals
        go_enter Try.func49, Try.ntmps49
        go_wp2_with fail
        go_region
        go_wp2_with fail
        refine bodyPost_ret (results_row1 rfl _ _ (w.heap.size + 1) [_, _, _, _, _, _, _] _ rfl (BoxL.rangeAt (show BoxL _ (w.heap.size + 1) l u v a b c false from (heap_alloc_old _ _ (by simp)).trans (heap_alloc2_new w _ _))) Try.underlying23 rfl (by kernel_rfl)) rfl ?_
        exact ⟨rfl, below_drew (below3 _ _ _ _)⟩
  exact absurd hk (by omega)

set_option maxRecDepth 100000 in
set_option maxHeartbeats 1000000 in
theorem l5Wait_any (l u v : Int) (a b c d : Bool) (w : World) (h : 0 ≤ l ∧ l ≤ v ∧ v ≤ u ∧ u ≤ 2000) (hcd : ¬ (c = true ∧ d = true)) :
    Calls Try.prog 48 #[.agg #[.int .i64 l, .int .i64 u, .int .i64 v, .bool a, .bool b, .bool c, .bool d]] w fun e w' => e = .returned (.agg #[.int .i64 l, .int .i64 u, .int .i64 (waitL ⟨l, u, v, a, b, c, d⟩), .bool a, .bool b, .bool c, .bool d]) ∧ Below w.heap.size w w' := by
  obtain ⟨h1, h2, h3, h4⟩ := h
  unfold waitL
  dsimp only
  have CM := Lib.hid (fun W => l1MostL_any l (v - 50) W)
  have CN := Lib.hid (fun W => l1LeastL_any u (v + 50) W)
  have e1 : max (v - 50) l = max l (v - 50) := by omega
  have e2 : min (v + 50) u = min u (v + 50) := by omega
  rw [e1, e2]
  generalize max l (v - 50) = m1 at CM ⊢
  generalize min u (v + 50) = m2 at CN ⊢
  clear e1 e2
  cases c
  · rw [if_neg (by simp)]
    cases d
    · rw [if_neg (by simp)]
      go_enter Try.func48, Try.ntmps48
      go_wp2_with fail
      skip
      refine bodyPost_ret (results_row0 rfl _ _ (w.heap.size + 1) [_, _, _, _, _, _, _] _ rfl (BoxL.rangeAt (show BoxL _ (w.heap.size + 1) l u v a b _ _ from (heap_alloc_old _ _ (by simp)).trans (heap_alloc2_new w _ _))) Try.underlying23 rfl (by kernel_rfl)) rfl ?_
      exact ⟨rfl, below3 _ _ _ _⟩
    · rw [if_pos rfl]
      go_enter Try.func48, Try.ntmps48
      go_wp2_with fail
      (refine (CN.out _).mono ?_; rintro e w1 ⟨rfl, rfl⟩; go_wp2_with fail)
      refine bodyPost_ret (results_row0 rfl _ _ (w.heap.size + 1) [_, _, _, _, _, _, _] _ rfl (BoxL.rangeAt (show BoxL _ (w.heap.size + 1) l u m2 a b _ _ from (heap_alloc_old _ _ (by simp)).trans (heap_alloc2_new w _ _))) Try.underlying23 rfl (by kernel_rfl)) rfl ?_
      exact ⟨rfl, below3 _ _ _ _⟩
  · cases d
    · rw [if_pos rfl]
      go_enter Try.func48, Try.ntmps48
      go_wp2_with fail
      (refine (CM.out _).mono ?_; rintro e w1 ⟨rfl, rfl⟩; go_wp2_with fail)
      refine bodyPost_ret (results_row0 rfl _ _ (w.heap.size + 1) [_, _, _, _, _, _, _] _ rfl (BoxL.rangeAt (show BoxL _ (w.heap.size + 1) l u m1 a b _ _ from (heap_alloc_old _ _ (by simp)).trans (heap_alloc2_new w _ _))) Try.underlying23 rfl (by kernel_rfl)) rfl ?_
      exact ⟨rfl, below3 _ _ _ _⟩
    · exact absurd ⟨rfl, rfl⟩ hcd

end Go.Proofs.Ytmnagjjpncancaa
