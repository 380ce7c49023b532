/- Chapter 5: one command of the program. -/
import Derived.Test.YtmnagjjpncancaaLoE
namespace Go.Proofs.Ytmnagjjpncancaa
open Go.RowKit Go.PlainAid Go.Sort
set_option linter.unusedVariables false
set_option linter.unusedSimpArgs false

set_option maxHeartbeats 400000 in
theorem turn3_any {W : World} {g : Nat} {l u v : Int} {a b c d : Bool} (h : BoxL W g l u v a b c d) (o : Bool) :
    Calls Try.prog 63 #[.pointer (some ⟨g, 3, none⟩), .bool o] W fun e w' => e = .returned (.bool (a != o)) ∧ BoxL w' g l u v o b c d ∧ W.grownBy w' (some g) := by
  have hc := h.c3
  have hf := h.fz 3
  have HT := Lib.hid (h.set3 o)
  have HH := Lib.hid h
  clear h
  cases a <;> cases o
  all_goals
    go_enter Try.func63, Try.ntmps63
    go_wp2
    go_ret
    first
    | exact ⟨rfl, HH.out, World.grownBy.refl _ _⟩
    | exact ⟨rfl, HT.out, grown_setL _ _ _ _⟩

set_option maxHeartbeats 400000 in
theorem turn4_any {W : World} {g : Nat} {l u v : Int} {a b c d : Bool} (h : BoxL W g l u v a b c d) (o : Bool) :
    Calls Try.prog 63 #[.pointer (some ⟨g, 4, none⟩), .bool o] W fun e w' => e = .returned (.bool (b != o)) ∧ BoxL w' g l u v a o c d ∧ W.grownBy w' (some g) := by
  have hc := h.c4
  have hf := h.fz 4
  have HT := Lib.hid (h.set4 o)
  have HH := Lib.hid h
  clear h
  cases b <;> cases o
  all_goals
    go_enter Try.func63, Try.ntmps63
    go_wp2
    go_ret
    first
    | exact ⟨rfl, HH.out, World.grownBy.refl _ _⟩
    | exact ⟨rfl, HT.out, grown_setL _ _ _ _⟩

set_option maxHeartbeats 400000 in
theorem turn5_any {W : World} {g : Nat} {l u v : Int} {a b c d : Bool} (h : BoxL W g l u v a b c d) (o : Bool) :
    Calls Try.prog 63 #[.pointer (some ⟨g, 5, none⟩), .bool o] W fun e w' => e = .returned (.bool (c != o)) ∧ BoxL w' g l u v a b o d ∧ W.grownBy w' (some g) := by
  have hc := h.c5
  have hf := h.fz 5
  have HT := Lib.hid (h.set5 o)
  have HH := Lib.hid h
  clear h
  cases c <;> cases o
  all_goals
    go_enter Try.func63, Try.ntmps63
    go_wp2
    go_ret
    first
    | exact ⟨rfl, HH.out, World.grownBy.refl _ _⟩
    | exact ⟨rfl, HT.out, grown_setL _ _ _ _⟩

set_option maxHeartbeats 400000 in
theorem turn6_any {W : World} {g : Nat} {l u v : Int} {a b c d : Bool} (h : BoxL W g l u v a b c d) (o : Bool) :
    Calls Try.prog 63 #[.pointer (some ⟨g, 6, none⟩), .bool o] W fun e w' => e = .returned (.bool (d != o)) ∧ BoxL w' g l u v a b c o ∧ W.grownBy w' (some g) := by
  have hc := h.c6
  have hf := h.fz 6
  have HT := Lib.hid (h.set6 o)
  have HH := Lib.hid h
  clear h
  cases d <;> cases o
  all_goals
    go_enter Try.func63, Try.ntmps63
    go_wp2
    go_ret
    first
    | exact ⟨rfl, HH.out, World.grownBy.refl _ _⟩
    | exact ⟨rfl, HT.out, grown_setL _ _ _ _⟩

/-- The state after a command, and whether it could be made. -/
def turnL (s : TLockState) (k : Int) : TLockState × Bool :=
  if k = 1 then ({ s with x3 := true }, !s.x3) else if k = 2 then ({ s with x3 := false }, s.x3)
  else if k = 3 then ({ s with x4 := true }, !s.x4) else if k = 4 then ({ s with x4 := false }, s.x4)
  else if k = 5 then ({ s with x5 := true }, !s.x5) else if k = 6 then ({ s with x5 := false }, s.x5)
  else if k = 7 then ({ s with x6 := true }, !s.x6) else if k = 8 then ({ s with x6 := false }, s.x6)
  else if k = 9 then ({ s with x2 := waitL s }, true) else (s, false)
theorem setL_turn (s : TLockState) (k : Int) : setL s k = if (turnL s k).2 = true then some (turnL s k).1 else none := by
  obtain ⟨l, u, v, a, b, c, d⟩ := s
  unfold setL turnL
  by_cases h1 : k = 1
  · simp only [if_pos h1] <;> cases a <;> rfl
  by_cases h2 : k = 2
  · simp only [if_neg h1, if_pos h2] <;> cases a <;> rfl
  by_cases h3 : k = 3
  · simp only [if_neg h1, if_neg h2, if_pos h3] <;> cases b <;> rfl
  by_cases h4 : k = 4
  · simp only [if_neg h1, if_neg h2, if_neg h3, if_pos h4] <;> cases b <;> rfl
  by_cases h5 : k = 5
  · simp only [if_neg h1, if_neg h2, if_neg h3, if_neg h4, if_pos h5] <;> cases c <;> rfl
  by_cases h6 : k = 6
  · simp only [if_neg h1, if_neg h2, if_neg h3, if_neg h4, if_neg h5, if_pos h6] <;> cases c <;> rfl
  by_cases h7 : k = 7
  · simp only [if_neg h1, if_neg h2, if_neg h3, if_neg h4, if_neg h5, if_neg h6, if_pos h7] <;> cases d <;> rfl
  by_cases h8 : k = 8
  · simp only [if_neg h1, if_neg h2, if_neg h3, if_neg h4, if_neg h5, if_neg h6, if_neg h7, if_pos h8] <;> cases d <;> rfl
  by_cases h9 : k = 9
  · simp only [if_neg h1, if_neg h2, if_neg h3, if_neg h4, if_neg h5, if_neg h6, if_neg h7, if_neg h8, if_pos h9]; rfl
  simp [if_neg h1, if_neg h2, if_neg h3, if_neg h4, if_neg h5, if_neg h6, if_neg h7, if_neg h8, if_neg h9]

attribute [local go_sem] ite_minL ite_maxL
set_option maxHeartbeats 800000 in
theorem levelAfter_any (l u v : Int) (a b c d : Bool) (w : World) (h : 0 ≤ l ∧ l ≤ v ∧ v ≤ u ∧ u ≤ 2000) :
    Calls Try.prog 64 #[.agg #[.int .i64 l, .int .i64 u, .int .i64 v, .bool a, .bool b, .bool c, .bool d]] w fun e w' => e = .returned (.int .i64 (waitL ⟨l, u, v, a, b, c, d⟩)) ∧ Below w.heap.size w w' := by
  obtain ⟨h1, h2, h3, h4⟩ := h
  unfold waitL
  dsimp only
  cases c
  · rw [if_neg (by simp)]
    cases d
    · rw [if_neg (by simp)]
      go_enter Try.func64, Try.ntmps64
      go_wp2
      go_ret
      exact ⟨rfl, below1 _ _⟩
    · rw [if_pos rfl]
      go_enter Try.func64, Try.ntmps64
      go_wp2
      refine bodyPost_ret (results_tmp rfl _ _ _) rfl ?_
      exact ⟨ret_int (by simp <;> omega), below1 _ _⟩
  · rw [if_pos rfl]
    go_enter Try.func64, Try.ntmps64
    go_wp2
    refine bodyPost_ret (results_tmp rfl _ _ _) rfl ?_
    exact ⟨ret_int (by simp <;> omega), below1 _ _⟩

set_option maxRecDepth 100000 in
set_option maxHeartbeats 4000000 in
theorem afterC_any (l u v : Int) (a b c d : Bool) (k : Int) (w : World) (h : 0 ≤ l ∧ l ≤ v ∧ v ≤ u ∧ u ≤ 2000) :
    Calls Try.prog 50 #[.agg #[.int .i64 l, .int .i64 u, .int .i64 v, .bool a, .bool b, .bool c, .bool d], .int .i64 k] w fun e w' => e = .returned (.tuple #[valLockState (turnL ⟨l, u, v, a, b, c, d⟩ k).1, .bool (turnL ⟨l, u, v, a, b, c, d⟩ k).2]) ∧ Below w.heap.size w w' := by
  have HB0 := Lib.hid (below2 w (.cells #[.int .i64 l, .int .i64 u, .int .i64 v, .bool a, .bool b, .bool c, .bool d] 23) (.cells #[.int .i64 0, .int .i64 0, .int .i64 0, .bool false, .bool false, .bool false, .bool false] 23))
  have P0 := Lib.hid ((BoxL.new w l u v a b c d).all (below1 _ (.cells #[.int .i64 0, .int .i64 0, .int .i64 0, .bool false, .bool false, .bool false, .bool false] 23)))
  have P1 := Lib.hid (BoxL.new (w.alloc (.cells #[.int .i64 l, .int .i64 u, .int .i64 v, .bool a, .bool b, .bool c, .bool d] 23)) 0 0 0 false false false false)
  have CL := Lib.hid (fun W => levelAfter_any l u v a b c d W h)
  rw [World.size_alloc] at P1
  clear h
  by_cases k1 : k = 1
  · rw [show turnL ⟨l, u, v, a, b, c, d⟩ k = (⟨l, u, v, true, b, c, d⟩, !a) by rw [k1]; rfl]
    dsimp only
    · subst k1
      go_enter Try.func50, Try.ntmps50
      go_wp2_with fail
      refine (turn3_any P0.out true).mono ?_
      rintro e w1 ⟨rfl, hp, hg⟩
      have HB1 := Lib.hid (HB0.out.grown hg HB0.out.size (fun q e => by cases e; exact Nat.le_refl _))
      have Q0 := Lib.hid hp
      have Q1 := Lib.hid (P1.out.kept hg (by simp))
      clear hp hg HB0 P0 P1
      have c0 := Q0.out.c0
      have c1 := Q0.out.c1
      have c2 := Q0.out.c2
      have c3 := Q0.out.c3
      have c4 := Q0.out.c4
      have c5 := Q0.out.c5
      have c6 := Q0.out.c6
      have d0 := Q1.out.c0
      have d1 := Q1.out.c1
      have d2 := Q1.out.c2
      have d3 := Q1.out.c3
      have d4 := Q1.out.c4
      have d5 := Q1.out.c5
      have d6 := Q1.out.c6
      have f0 := Q1.out.fz 0
      have f1 := Q1.out.fz 1
      have f2 := Q1.out.fz 2
      have f3 := Q1.out.fz 3
      have f4 := Q1.out.fz 4
      have f5 := Q1.out.fz 5
      have f6 := Q1.out.fz 6
      go_wp2_with fail
      refine bodyPost_ret (results_row1 rfl _ _ (w.heap.size + 1) [_, _, _, _, _, _, _] _ rfl (Q1.out.sets _ _ _ _ _ _ _).rangeAt Try.underlying23 rfl (by kernel_rfl)) rfl ?_
      exact ⟨rfl, sets7_below HB1.out (by omega) _ _ _ _ _ _ _⟩
  by_cases k2 : k = 2
  · rw [show turnL ⟨l, u, v, a, b, c, d⟩ k = (⟨l, u, v, false, b, c, d⟩, a) by rw [k2]; rfl]
    dsimp only
    · subst k2
      go_enter Try.func50, Try.ntmps50
      go_wp2_with fail
      refine (turn3_any P0.out false).mono ?_
      rintro e w1 ⟨rfl, hp, hg⟩
      have HB1 := Lib.hid (HB0.out.grown hg HB0.out.size (fun q e => by cases e; exact Nat.le_refl _))
      have Q0 := Lib.hid hp
      have Q1 := Lib.hid (P1.out.kept hg (by simp))
      clear hp hg HB0 P0 P1
      have c0 := Q0.out.c0
      have c1 := Q0.out.c1
      have c2 := Q0.out.c2
      have c3 := Q0.out.c3
      have c4 := Q0.out.c4
      have c5 := Q0.out.c5
      have c6 := Q0.out.c6
      have d0 := Q1.out.c0
      have d1 := Q1.out.c1
      have d2 := Q1.out.c2
      have d3 := Q1.out.c3
      have d4 := Q1.out.c4
      have d5 := Q1.out.c5
      have d6 := Q1.out.c6
      have f0 := Q1.out.fz 0
      have f1 := Q1.out.fz 1
      have f2 := Q1.out.fz 2
      have f3 := Q1.out.fz 3
      have f4 := Q1.out.fz 4
      have f5 := Q1.out.fz 5
      have f6 := Q1.out.fz 6
      go_wp2_with fail
      refine bodyPost_ret (results_row1 rfl _ _ (w.heap.size + 1) [_, _, _, _, _, _, _] _ rfl (Q1.out.sets _ _ _ _ _ _ _).rangeAt Try.underlying23 rfl (by kernel_rfl)) rfl ?_
      exact ⟨rfl, sets7_below HB1.out (by omega) _ _ _ _ _ _ _⟩
  by_cases k3 : k = 3
  · rw [show turnL ⟨l, u, v, a, b, c, d⟩ k = (⟨l, u, v, a, true, c, d⟩, !b) by rw [k3]; rfl]
    dsimp only
    · subst k3
      go_enter Try.func50, Try.ntmps50
      go_wp2_with fail
      refine (turn4_any P0.out true).mono ?_
      rintro e w1 ⟨rfl, hp, hg⟩
      have HB1 := Lib.hid (HB0.out.grown hg HB0.out.size (fun q e => by cases e; exact Nat.le_refl _))
      have Q0 := Lib.hid hp
      have Q1 := Lib.hid (P1.out.kept hg (by simp))
      clear hp hg HB0 P0 P1
      have c0 := Q0.out.c0
      have c1 := Q0.out.c1
      have c2 := Q0.out.c2
      have c3 := Q0.out.c3
      have c4 := Q0.out.c4
      have c5 := Q0.out.c5
      have c6 := Q0.out.c6
      have d0 := Q1.out.c0
      have d1 := Q1.out.c1
      have d2 := Q1.out.c2
      have d3 := Q1.out.c3
      have d4 := Q1.out.c4
      have d5 := Q1.out.c5
      have d6 := Q1.out.c6
      have f0 := Q1.out.fz 0
      have f1 := Q1.out.fz 1
      have f2 := Q1.out.fz 2
      have f3 := Q1.out.fz 3
      have f4 := Q1.out.fz 4
      have f5 := Q1.out.fz 5
      have f6 := Q1.out.fz 6
      go_wp2_with fail
      refine bodyPost_ret (results_row1 rfl _ _ (w.heap.size + 1) [_, _, _, _, _, _, _] _ rfl (Q1.out.sets _ _ _ _ _ _ _).rangeAt Try.underlying23 rfl (by kernel_rfl)) rfl ?_
      exact ⟨rfl, sets7_below HB1.out (by omega) _ _ _ _ _ _ _⟩
  by_cases k4 : k = 4
  · rw [show turnL ⟨l, u, v, a, b, c, d⟩ k = (⟨l, u, v, a, false, c, d⟩, b) by rw [k4]; rfl]
    dsimp only
    · subst k4
      go_enter Try.func50, Try.ntmps50
      go_wp2_with fail
      refine (turn4_any P0.out false).mono ?_
      rintro e w1 ⟨rfl, hp, hg⟩
      have HB1 := Lib.hid (HB0.out.grown hg HB0.out.size (fun q e => by cases e; exact Nat.le_refl _))
      have Q0 := Lib.hid hp
      have Q1 := Lib.hid (P1.out.kept hg (by simp))
      clear hp hg HB0 P0 P1
      have c0 := Q0.out.c0
      have c1 := Q0.out.c1
      have c2 := Q0.out.c2
      have c3 := Q0.out.c3
      have c4 := Q0.out.c4
      have c5 := Q0.out.c5
      have c6 := Q0.out.c6
      have d0 := Q1.out.c0
      have d1 := Q1.out.c1
      have d2 := Q1.out.c2
      have d3 := Q1.out.c3
      have d4 := Q1.out.c4
      have d5 := Q1.out.c5
      have d6 := Q1.out.c6
      have f0 := Q1.out.fz 0
      have f1 := Q1.out.fz 1
      have f2 := Q1.out.fz 2
      have f3 := Q1.out.fz 3
      have f4 := Q1.out.fz 4
      have f5 := Q1.out.fz 5
      have f6 := Q1.out.fz 6
      go_wp2_with fail
      refine bodyPost_ret (results_row1 rfl _ _ (w.heap.size + 1) [_, _, _, _, _, _, _] _ rfl (Q1.out.sets _ _ _ _ _ _ _).rangeAt Try.underlying23 rfl (by kernel_rfl)) rfl ?_
      exact ⟨rfl, sets7_below HB1.out (by omega) _ _ _ _ _ _ _⟩
  by_cases k5 : k = 5
  · rw [show turnL ⟨l, u, v, a, b, c, d⟩ k = (⟨l, u, v, a, b, true, d⟩, !c) by rw [k5]; rfl]
    dsimp only
    · subst k5
      go_enter Try.func50, Try.ntmps50
      go_wp2_with fail
      refine (turn5_any P0.out true).mono ?_
      rintro e w1 ⟨rfl, hp, hg⟩
      have HB1 := Lib.hid (HB0.out.grown hg HB0.out.size (fun q e => by cases e; exact Nat.le_refl _))
      have Q0 := Lib.hid hp
      have Q1 := Lib.hid (P1.out.kept hg (by simp))
      clear hp hg HB0 P0 P1
      have c0 := Q0.out.c0
      have c1 := Q0.out.c1
      have c2 := Q0.out.c2
      have c3 := Q0.out.c3
      have c4 := Q0.out.c4
      have c5 := Q0.out.c5
      have c6 := Q0.out.c6
      have d0 := Q1.out.c0
      have d1 := Q1.out.c1
      have d2 := Q1.out.c2
      have d3 := Q1.out.c3
      have d4 := Q1.out.c4
      have d5 := Q1.out.c5
      have d6 := Q1.out.c6
      have f0 := Q1.out.fz 0
      have f1 := Q1.out.fz 1
      have f2 := Q1.out.fz 2
      have f3 := Q1.out.fz 3
      have f4 := Q1.out.fz 4
      have f5 := Q1.out.fz 5
      have f6 := Q1.out.fz 6
      go_wp2_with fail
      refine bodyPost_ret (results_row1 rfl _ _ (w.heap.size + 1) [_, _, _, _, _, _, _] _ rfl (Q1.out.sets _ _ _ _ _ _ _).rangeAt Try.underlying23 rfl (by kernel_rfl)) rfl ?_
      exact ⟨rfl, sets7_below HB1.out (by omega) _ _ _ _ _ _ _⟩
  by_cases k6 : k = 6
  · rw [show turnL ⟨l, u, v, a, b, c, d⟩ k = (⟨l, u, v, a, b, false, d⟩, c) by rw [k6]; rfl]
    dsimp only
    · subst k6
      go_enter Try.func50, Try.ntmps50
      go_wp2_with fail
      refine (turn5_any P0.out false).mono ?_
      rintro e w1 ⟨rfl, hp, hg⟩
      have HB1 := Lib.hid (HB0.out.grown hg HB0.out.size (fun q e => by cases e; exact Nat.le_refl _))
      have Q0 := Lib.hid hp
      have Q1 := Lib.hid (P1.out.kept hg (by simp))
      clear hp hg HB0 P0 P1
      have c0 := Q0.out.c0
      have c1 := Q0.out.c1
      have c2 := Q0.out.c2
      have c3 := Q0.out.c3
      have c4 := Q0.out.c4
      have c5 := Q0.out.c5
      have c6 := Q0.out.c6
      have d0 := Q1.out.c0
      have d1 := Q1.out.c1
      have d2 := Q1.out.c2
      have d3 := Q1.out.c3
      have d4 := Q1.out.c4
      have d5 := Q1.out.c5
      have d6 := Q1.out.c6
      have f0 := Q1.out.fz 0
      have f1 := Q1.out.fz 1
      have f2 := Q1.out.fz 2
      have f3 := Q1.out.fz 3
      have f4 := Q1.out.fz 4
      have f5 := Q1.out.fz 5
      have f6 := Q1.out.fz 6
      go_wp2_with fail
      refine bodyPost_ret (results_row1 rfl _ _ (w.heap.size + 1) [_, _, _, _, _, _, _] _ rfl (Q1.out.sets _ _ _ _ _ _ _).rangeAt Try.underlying23 rfl (by kernel_rfl)) rfl ?_
      exact ⟨rfl, sets7_below HB1.out (by omega) _ _ _ _ _ _ _⟩
  by_cases k7 : k = 7
  · rw [show turnL ⟨l, u, v, a, b, c, d⟩ k = (⟨l, u, v, a, b, c, true⟩, !d) by rw [k7]; rfl]
    dsimp only
    · subst k7
      go_enter Try.func50, Try.ntmps50
      go_wp2_with fail
      refine (turn6_any P0.out true).mono ?_
      rintro e w1 ⟨rfl, hp, hg⟩
      have HB1 := Lib.hid (HB0.out.grown hg HB0.out.size (fun q e => by cases e; exact Nat.le_refl _))
      have Q0 := Lib.hid hp
      have Q1 := Lib.hid (P1.out.kept hg (by simp))
      clear hp hg HB0 P0 P1
      have c0 := Q0.out.c0
      have c1 := Q0.out.c1
      have c2 := Q0.out.c2
      have c3 := Q0.out.c3
      have c4 := Q0.out.c4
      have c5 := Q0.out.c5
      have c6 := Q0.out.c6
      have d0 := Q1.out.c0
      have d1 := Q1.out.c1
      have d2 := Q1.out.c2
      have d3 := Q1.out.c3
      have d4 := Q1.out.c4
      have d5 := Q1.out.c5
      have d6 := Q1.out.c6
      have f0 := Q1.out.fz 0
      have f1 := Q1.out.fz 1
      have f2 := Q1.out.fz 2
      have f3 := Q1.out.fz 3
      have f4 := Q1.out.fz 4
      have f5 := Q1.out.fz 5
      have f6 := Q1.out.fz 6
      go_wp2_with fail
      refine bodyPost_ret (results_row1 rfl _ _ (w.heap.size + 1) [_, _, _, _, _, _, _] _ rfl (Q1.out.sets _ _ _ _ _ _ _).rangeAt Try.underlying23 rfl (by kernel_rfl)) rfl ?_
      exact ⟨rfl, sets7_below HB1.out (by omega) _ _ _ _ _ _ _⟩
  by_cases k8 : k = 8
  · rw [show turnL ⟨l, u, v, a, b, c, d⟩ k = (⟨l, u, v, a, b, c, false⟩, d) by rw [k8]; rfl]
    dsimp only
    · subst k8
      go_enter Try.func50, Try.ntmps50
      go_wp2_with fail
      refine (turn6_any P0.out false).mono ?_
      rintro e w1 ⟨rfl, hp, hg⟩
      have HB1 := Lib.hid (HB0.out.grown hg HB0.out.size (fun q e => by cases e; exact Nat.le_refl _))
      have Q0 := Lib.hid hp
      have Q1 := Lib.hid (P1.out.kept hg (by simp))
      clear hp hg HB0 P0 P1
      have c0 := Q0.out.c0
      have c1 := Q0.out.c1
      have c2 := Q0.out.c2
      have c3 := Q0.out.c3
      have c4 := Q0.out.c4
      have c5 := Q0.out.c5
      have c6 := Q0.out.c6
      have d0 := Q1.out.c0
      have d1 := Q1.out.c1
      have d2 := Q1.out.c2
      have d3 := Q1.out.c3
      have d4 := Q1.out.c4
      have d5 := Q1.out.c5
      have d6 := Q1.out.c6
      have f0 := Q1.out.fz 0
      have f1 := Q1.out.fz 1
      have f2 := Q1.out.fz 2
      have f3 := Q1.out.fz 3
      have f4 := Q1.out.fz 4
      have f5 := Q1.out.fz 5
      have f6 := Q1.out.fz 6
      go_wp2_with fail
      refine bodyPost_ret (results_row1 rfl _ _ (w.heap.size + 1) [_, _, _, _, _, _, _] _ rfl (Q1.out.sets _ _ _ _ _ _ _).rangeAt Try.underlying23 rfl (by kernel_rfl)) rfl ?_
      exact ⟨rfl, sets7_below HB1.out (by omega) _ _ _ _ _ _ _⟩
  by_cases k9 : k = 9
  · rw [show turnL ⟨l, u, v, a, b, c, d⟩ k = (⟨l, u, waitL ⟨l, u, v, a, b, c, d⟩, a, b, c, d⟩, true) by rw [k9]; rfl]
    dsimp only
    generalize waitL ⟨l, u, v, a, b, c, d⟩ = z at CL ⊢
    subst k9
    go_enter Try.func50, Try.ntmps50
    go_wp2_with fail
    refine (CL.out _).mono ?_
    rintro e w1 ⟨rfl, hb⟩
    have HB1 := Lib.hid (HB0.out.trans (hb.mono HB0.out.size))
    have Q0 := Lib.hid (P0.out.all hb)
    have Q1 := Lib.hid ((P1.out.all hb).kept (grown_setL w1 w.heap.size 2 (.int .i64 z)) (by simp))
    have Q2 := Lib.hid (Q0.out.set2 z)
    have HB2 := Lib.hid (HB1.out.setCell (p := ⟨w.heap.size, 2, none⟩) (Nat.le_refl _) (.int .i64 z))
    clear hb HB0 P0 P1 HB1
    have e2 := Q0.out.c2
    have g2 := Q0.out.fz 2
    have c0 := Q2.out.c0
    have c1 := Q2.out.c1
    have c2 := Q2.out.c2
    have c3 := Q2.out.c3
    have c4 := Q2.out.c4
    have c5 := Q2.out.c5
    have c6 := Q2.out.c6
    have d0 := Q1.out.c0
    have d1 := Q1.out.c1
    have d2 := Q1.out.c2
    have d3 := Q1.out.c3
    have d4 := Q1.out.c4
    have d5 := Q1.out.c5
    have d6 := Q1.out.c6
    have f0 := Q1.out.fz 0
    have f1 := Q1.out.fz 1
    have f2 := Q1.out.fz 2
    have f3 := Q1.out.fz 3
    have f4 := Q1.out.fz 4
    have f5 := Q1.out.fz 5
    have f6 := Q1.out.fz 6
    go_wp2_with fail
    refine bodyPost_ret (results_row1 rfl _ _ (w.heap.size + 1) [_, _, _, _, _, _, _] _ rfl (Q1.out.sets _ _ _ _ _ _ _).rangeAt Try.underlying23 rfl (by kernel_rfl)) rfl ?_
    exact ⟨rfl, sets7_below HB2.out (by omega) _ _ _ _ _ _ _⟩
  rw [show turnL ⟨l, u, v, a, b, c, d⟩ k = (⟨l, u, v, a, b, c, d⟩, false) by simp [turnL, k1, k2, k3, k4, k5, k6, k7, k8, k9]]
  dsimp only
  clear CL
  go_enter Try.func50, Try.ntmps50
  go_wp2_with fail
  refine bodyPost_ret (results_row1 rfl _ _ (w.heap.size + 1) [_, _, _, _, _, _, _] _ rfl (BoxL.rangeAt (show BoxL _ _ l u v a b c d from heap_alloc2_new w _ _)) Try.underlying23 rfl (by kernel_rfl)) rfl ?_
  exact ⟨rfl, below2 _ _ _⟩
end Go.Proofs.Ytmnagjjpncancaa
