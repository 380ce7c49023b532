/- Chapter 5: locks that are safe: the model and the program. -/
import Derived.Test.YtmnagjjpncancaaLoM
import Derived.Test.YtmnagjjpncancaaRng
namespace Go.Proofs.Ytmnagjjpncancaa
open Go.RowKit Go.PlainAid Go.Sort
set_option linter.unusedVariables false

theorem below1 (w : World) (a : Obj) : Below w.heap.size w (w.alloc a) := (Below.refl _ _).alloc (Nat.le_refl _) _
theorem below2 (w : World) (a b : Obj) : Below w.heap.size w ((w.alloc a).alloc b) := (below1 w a).alloc (by simp) _
theorem below3 (w : World) (a b c : Obj) : Below w.heap.size w (((w.alloc a).alloc b).alloc c) := (below2 w a b).alloc (by simp; omega) _
theorem below4 (w : World) (a b c d : Obj) : Below w.heap.size w ((((w.alloc a).alloc b).alloc c).alloc d) := (below3 w a b c).alloc (by simp; omega) _
theorem ret_bool {a b : Bool} (h : a = b) : Ending.returned (.bool a) = .returned (.bool b) := by rw [h]

/-- The levels are valid. -/
def levL (s : TLockState) : Bool := decide (0 ≤ s.x0 ∧ s.x0 ≤ s.x2 ∧ s.x2 ≤ s.x1 ∧ s.x1 ≤ 2000)
theorem goodL_lev {s : TLockState} (h : levL s = false) : goodL s = false := by
  unfold levL at h
  unfold goodL
  rw [h]
  rfl
theorem levL_true {s : TLockState} (h : levL s = true) : 0 ≤ s.x0 ∧ s.x0 ≤ s.x2 ∧ s.x2 ≤ s.x1 ∧ s.x1 ≤ 2000 := of_decide_eq_true h
theorem levL_false {s : TLockState} (h : ¬ (0 ≤ s.x0 ∧ s.x0 ≤ s.x2 ∧ s.x2 ≤ s.x1 ∧ s.x1 ≤ 2000)) : levL s = false := decide_eq_false h
/-- Beside the levels: the gates and paddles. -/
def intL (s : TLockState) : Bool := !(s.x3 && s.x4) && (!(s.x5 && s.x6) && (!(s.x3 && s.x6) && (!(s.x4 && s.x5) && (!(s.x3 && decide (5 < s.x2 - s.x0)) && !(s.x4 && decide (5 < s.x1 - s.x2))))))
theorem goodL_int {s : TLockState} (h : levL s = true) : goodL s = intL s := by
  unfold levL at h
  unfold goodL intL
  rw [h]
  rfl

set_option maxHeartbeats 2000000 in
theorem l5Good_any (l u v : Int) (a b c d : Bool) (w : World) :
    Calls Try.prog 43 #[.agg #[.int .i64 l, .int .i64 u, .int .i64 v, .bool a, .bool b, .bool c, .bool d]] w fun e w' => e = .returned (.bool (goodL ⟨l, u, v, a, b, c, d⟩)) ∧ Below w.heap.size w w' := by
  by_cases hl : 0 ≤ l ∧ l ≤ v ∧ v ≤ u ∧ u ≤ 2000
  · have H := Lib.hid (goodL_int (s := ⟨l, u, v, a, b, c, d⟩) (decide_eq_true hl))
    obtain ⟨h1, h2, h3, h4⟩ := hl
    generalize goodL ⟨l, u, v, a, b, c, d⟩ = R at H ⊢
    go_enter Try.func43, Try.ntmps43
    go_wp2
    all_goals
      refine bodyPost_ret (results_tmp rfl _ _ _) rfl ?_
      refine ⟨ret_bool ?_, below1 _ _⟩
      rw [H.out]
      unfold intL
      clear H
      dsimp only
      simp_all
  · have H := Lib.hid (goodL_lev (s := ⟨l, u, v, a, b, c, d⟩) (levL_false hl))
    have hf : (0 ≤ l ∧ l ≤ v ∧ v ≤ u ∧ u ≤ 2000) = False := by simp [hl]
    generalize goodL ⟨l, u, v, a, b, c, d⟩ = R at H ⊢
    have h4 : l < 0 ∨ v < l ∨ u < v ∨ 2000 < u := by omega
    clear hl hf
    go_enter Try.func43, Try.ntmps43
    rcases h4 with h | h | h | h
    all_goals
      go_wp2
      all_goals first
        | omega
        | (refine bodyPost_ret (results_tmp rfl _ _ _) rfl ?_
           refine ⟨ret_bool ?_, below1 _ _⟩
           rw [H.out])

/-- One side of a lock: the program's words. -/
def sideV (s : TLockState) (high : Bool) : Value :=
  if high = true then .agg #[.int .i64 (s.x1 - s.x2), .bool s.x4, .bool s.x6, .int .i64 3, .int .i64 4, .int .i64 7, .int .i64 8]
  else .agg #[.int .i64 (s.x2 - s.x0), .bool s.x3, .bool s.x5, .int .i64 1, .int .i64 2, .int .i64 5, .int .i64 6]
end Go.Proofs.Ytmnagjjpncancaa
