/- Chapter 4: chambers and hulls that are valid, hulls that lie inside and meet: the model and the program. -/
import Derived.Test.YtdleidlmjliapaaChM
import Derived.Test.YtdleidlmjliapaaRng
namespace Go.Proofs.Ytdleidlmjliapaa
open Go.RowKit Go.PlainAid Go.Sort
set_option linter.unusedVariables false

theorem below1 (w : World) (a : Obj) : Below w.heap.size w (w.alloc a) := (Below.refl _ _).alloc (Nat.le_refl _) _
theorem below2 (w : World) (a b : Obj) : Below w.heap.size w ((w.alloc a).alloc b) := (below1 w a).alloc (by simp) _
theorem below3 (w : World) (a b c : Obj) : Below w.heap.size w (((w.alloc a).alloc b).alloc c) := (below2 w a b).alloc (by simp; omega) _
theorem below4 (w : World) (a b c d : Obj) : Below w.heap.size w ((((w.alloc a).alloc b).alloc c).alloc d) := (below3 w a b c).alloc (by simp; omega) _
theorem ret_bool {a b : Bool} (h : a = b) : Ending.returned (.bool a) = .returned (.bool b) := by rw [h]
theorem toBelow {P : Program} {f : FuncId} {args : Array Value} {w : World} {E : Ending} (h : Calls P f args w fun e w' => e = E ∧ w = w') : Calls P f args w fun e w' => e = E ∧ Below w.heap.size w w' :=
  h.mono fun _ _ ⟨a, b⟩ => ⟨a, b ▸ Below.refl _ _⟩

set_option maxHeartbeats 800000 in
theorem l4Chamber_any (l b : Int) (w : World) :
    Calls Try.prog 37 #[.agg #[.int .i64 l, .int .i64 b]] w fun e w' => e = .returned (.bool (decide (goodC ⟨l, b⟩))) ∧ Below w.heap.size w w' := by
  have C1 := Lib.hid (fun W => l1In_any l 1 6 W)
  have C2 := Lib.hid (fun W => l1In_any b 1 3 W)
  have hv := Lib.hid (show decide (goodC ⟨l, b⟩) = (decide (1 ≤ l ∧ l ≤ 6) && decide (1 ≤ b ∧ b ≤ 3)) by rw [Bool.eq_iff_iff]; simp only [Bool.and_eq_true, decide_eq_true_eq]; exact Iff.rfl)
  generalize decide (goodC ⟨l, b⟩) = B at hv ⊢
  generalize decide (1 ≤ l ∧ l ≤ 6) = b1 at C1 hv
  generalize decide (1 ≤ b ∧ b ≤ 3) = b2 at C2 hv
  go_enter Try.func37, Try.ntmps37
  go_wp2_with fail
  refine (C1.out _).mono ?_
  rintro e w1 ⟨rfl, rfl⟩
  cases b1 with
  | false =>
    obtain rfl : B = false := by have := hv.out; simpa using this
    go_wp2_with fail
    go_ret
    exact ⟨rfl, below1 _ _⟩
  | true =>
    obtain rfl : B = b2 := by have := hv.out; simpa using this
    go_wp2_with fail
    refine (C2.out _).mono ?_
    rintro e w1 ⟨rfl, rfl⟩
    go_wp2_with fail
    go_ret
    exact ⟨rfl, below1 _ _⟩
set_option maxHeartbeats 800000 in
theorem isChamber_any (l b : Int) (w : World) :
    Calls Try.prog 72 #[.agg #[.int .i64 l, .int .i64 b]] w fun e w' => e = .returned (.bool (decide (goodC ⟨l, b⟩))) ∧ Below w.heap.size w w' := by
  have C1 := Lib.hid (fun W => inRange_any l 1 6 W)
  have C2 := Lib.hid (fun W => inRange_any b 1 3 W)
  have hv := Lib.hid (show decide (goodC ⟨l, b⟩) = (decide (1 ≤ l ∧ l ≤ 6) && decide (1 ≤ b ∧ b ≤ 3)) by rw [Bool.eq_iff_iff]; simp only [Bool.and_eq_true, decide_eq_true_eq]; exact Iff.rfl)
  generalize decide (goodC ⟨l, b⟩) = B at hv ⊢
  generalize decide (1 ≤ l ∧ l ≤ 6) = b1 at C1 hv
  generalize decide (1 ≤ b ∧ b ≤ 3) = b2 at C2 hv
  go_enter Try.func72, Try.ntmps72
  go_wp2_with fail
  refine (C1.out _).mono ?_
  rintro e w1 ⟨rfl, rfl⟩
  cases b1 with
  | false =>
    obtain rfl : B = false := by have := hv.out; simpa using this
    go_wp2_with fail
    go_ret
    exact ⟨rfl, below1 _ _⟩
  | true =>
    obtain rfl : B = b2 := by have := hv.out; simpa using this
    go_wp2_with fail
    refine (C2.out _).mono ?_
    rintro e w1 ⟨rfl, rfl⟩
    go_wp2_with fail
    go_ret
    exact ⟨rfl, below1 _ _⟩
set_option maxHeartbeats 800000 in
theorem isHull_any (d l b : Int) (w : World) :
    Calls Try.prog 41 #[.agg #[.int .i64 d, .int .i64 l, .int .i64 b]] w fun e w' => e = .returned (.bool (decide (goodH ⟨d, l, b⟩))) ∧ Below w.heap.size w w' := by
  have C0 := Lib.hid (fun W => inRange_any d 1 99 W)
  have C1 := Lib.hid (fun W => inRange_any l 1 6 W)
  have C2 := Lib.hid (fun W => inRange_any b 1 3 W)
  have hv := Lib.hid (show decide (goodH ⟨d, l, b⟩) = (decide (1 ≤ d ∧ d ≤ 99) && (decide (1 ≤ l ∧ l ≤ 6) && decide (1 ≤ b ∧ b ≤ 3))) by rw [Bool.eq_iff_iff]; simp only [Bool.and_eq_true, decide_eq_true_eq]; exact Iff.rfl)
  generalize decide (goodH ⟨d, l, b⟩) = B at hv ⊢
  generalize decide (1 ≤ d ∧ d ≤ 99) = b0 at C0 hv
  generalize decide (1 ≤ l ∧ l ≤ 6) = b1 at C1 hv
  generalize decide (1 ≤ b ∧ b ≤ 3) = b2 at C2 hv
  go_enter Try.func41, Try.ntmps41
  go_wp2_with fail
  refine (C0.out _).mono ?_
  rintro e w1 ⟨rfl, rfl⟩
  cases b0 with
  | false =>
    obtain rfl : B = false := by have := hv.out; simpa using this
    go_wp2_with fail
    go_ret
    exact ⟨rfl, below1 _ _⟩
  | true =>
    go_wp2_with fail
    refine (C1.out _).mono ?_
    rintro e w1 ⟨rfl, rfl⟩
    cases b1 with
    | false =>
      obtain rfl : B = false := by have := hv.out; simpa using this
      go_wp2_with fail
      go_ret
      exact ⟨rfl, below1 _ _⟩
    | true =>
      obtain rfl : B = b2 := by have := hv.out; simpa using this
      go_wp2_with fail
      refine (C2.out _).mono ?_
      rintro e w1 ⟨rfl, rfl⟩
      go_wp2_with fail
      go_ret
      exact ⟨rfl, below1 _ _⟩

set_option maxHeartbeats 2000000 in
theorem l4Meet_any (ad al ab s0 s1 bd bl bb t0 t1 : Int) (w : World) (h1 : -12 ≤ al ∧ al ≤ 12) (h2 : -12 ≤ ab ∧ ab ≤ 12) (h3 : -12 ≤ bl ∧ bl ≤ 12) (h4 : -12 ≤ bb ∧ bb ≤ 12) (k1 : -12 ≤ s0 ∧ s0 ≤ 12) (k2 : -12 ≤ s1 ∧ s1 ≤ 12) (k3 : -12 ≤ t0 ∧ t0 ≤ 12) (k4 : -12 ≤ t1 ∧ t1 ≤ 12) :
    Calls Try.prog 76 #[.agg #[.int .i64 ad, .int .i64 al, .int .i64 ab], .agg #[.int .i64 s0, .int .i64 s1], .agg #[.int .i64 bd, .int .i64 bl, .int .i64 bb], .agg #[.int .i64 t0, .int .i64 t1]] w
      fun e w' => e = .returned (.bool (decide (meet ⟨ad, al, ab⟩ ⟨s0, s1⟩ ⟨bd, bl, bb⟩ ⟨t0, t1⟩))) ∧ Below w.heap.size w w' := by
  by_cases g1 : s0 < t0 + bl
  · by_cases g2 : t0 < s0 + al
    · by_cases g3 : s1 < t1 + bb
      · by_cases g4 : t1 < s1 + ab
        · rw [show decide (meet ⟨ad, al, ab⟩ ⟨s0, s1⟩ ⟨bd, bl, bb⟩ ⟨t0, t1⟩) = true by simp [meet, g1, g2, g3, g4]]
          go_enter Try.func76, Try.ntmps76
          go_wp2
          go_ret
          exact ⟨rfl, below4 _ _ _ _ _⟩
        · rw [show decide (meet ⟨ad, al, ab⟩ ⟨s0, s1⟩ ⟨bd, bl, bb⟩ ⟨t0, t1⟩) = false by simp [meet, g4]]
          go_enter Try.func76, Try.ntmps76
          go_wp2
          go_ret
          exact ⟨rfl, below4 _ _ _ _ _⟩
      · rw [show decide (meet ⟨ad, al, ab⟩ ⟨s0, s1⟩ ⟨bd, bl, bb⟩ ⟨t0, t1⟩) = false by simp [meet, g3]]
        go_enter Try.func76, Try.ntmps76
        go_wp2
        go_ret
        exact ⟨rfl, below4 _ _ _ _ _⟩
    · rw [show decide (meet ⟨ad, al, ab⟩ ⟨s0, s1⟩ ⟨bd, bl, bb⟩ ⟨t0, t1⟩) = false by simp [meet, g2]]
      go_enter Try.func76, Try.ntmps76
      go_wp2
      go_ret
      exact ⟨rfl, below4 _ _ _ _ _⟩
  · rw [show decide (meet ⟨ad, al, ab⟩ ⟨s0, s1⟩ ⟨bd, bl, bb⟩ ⟨t0, t1⟩) = false by simp [meet, g1]]
    go_enter Try.func76, Try.ntmps76
    go_wp2
    go_ret
    exact ⟨rfl, below4 _ _ _ _ _⟩
set_option maxHeartbeats 2000000 in
theorem meet_any (ad al ab s0 s1 bd bl bb t0 t1 : Int) (w : World) (h1 : -12 ≤ al ∧ al ≤ 12) (h2 : -12 ≤ ab ∧ ab ≤ 12) (h3 : -12 ≤ bl ∧ bl ≤ 12) (h4 : -12 ≤ bb ∧ bb ≤ 12) (k1 : -12 ≤ s0 ∧ s0 ≤ 12) (k2 : -12 ≤ s1 ∧ s1 ≤ 12) (k3 : -12 ≤ t0 ∧ t0 ≤ 12) (k4 : -12 ≤ t1 ∧ t1 ≤ 12) :
    Calls Try.prog 43 #[.agg #[.int .i64 ad, .int .i64 al, .int .i64 ab], .agg #[.int .i64 s0, .int .i64 s1], .agg #[.int .i64 bd, .int .i64 bl, .int .i64 bb], .agg #[.int .i64 t0, .int .i64 t1]] w
      fun e w' => e = .returned (.bool (decide (meet ⟨ad, al, ab⟩ ⟨s0, s1⟩ ⟨bd, bl, bb⟩ ⟨t0, t1⟩))) ∧ Below w.heap.size w w' := by
  by_cases g1 : s0 < t0 + bl
  · by_cases g2 : t0 < s0 + al
    · by_cases g3 : s1 < t1 + bb
      · by_cases g4 : t1 < s1 + ab
        · rw [show decide (meet ⟨ad, al, ab⟩ ⟨s0, s1⟩ ⟨bd, bl, bb⟩ ⟨t0, t1⟩) = true by simp [meet, g1, g2, g3, g4]]
          go_enter Try.func43, Try.ntmps43
          go_wp2
          go_ret
          exact ⟨rfl, below4 _ _ _ _ _⟩
        · rw [show decide (meet ⟨ad, al, ab⟩ ⟨s0, s1⟩ ⟨bd, bl, bb⟩ ⟨t0, t1⟩) = false by simp [meet, g4]]
          go_enter Try.func43, Try.ntmps43
          go_wp2
          go_ret
          exact ⟨rfl, below4 _ _ _ _ _⟩
      · rw [show decide (meet ⟨ad, al, ab⟩ ⟨s0, s1⟩ ⟨bd, bl, bb⟩ ⟨t0, t1⟩) = false by simp [meet, g3]]
        go_enter Try.func43, Try.ntmps43
        go_wp2
        go_ret
        exact ⟨rfl, below4 _ _ _ _ _⟩
    · rw [show decide (meet ⟨ad, al, ab⟩ ⟨s0, s1⟩ ⟨bd, bl, bb⟩ ⟨t0, t1⟩) = false by simp [meet, g2]]
      go_enter Try.func43, Try.ntmps43
      go_wp2
      go_ret
      exact ⟨rfl, below4 _ _ _ _ _⟩
  · rw [show decide (meet ⟨ad, al, ab⟩ ⟨s0, s1⟩ ⟨bd, bl, bb⟩ ⟨t0, t1⟩) = false by simp [meet, g1]]
    go_enter Try.func43, Try.ntmps43
    go_wp2
    go_ret
    exact ⟨rfl, below4 _ _ _ _ _⟩
set_option maxHeartbeats 2000000 in
theorem isInside_any (cl cb d l b s0 s1 : Int) (w : World) (h1 : -12 ≤ l ∧ l ≤ 12) (h2 : -12 ≤ b ∧ b ≤ 12) (k1 : -12 ≤ cl ∧ cl ≤ 12) (k2 : -12 ≤ cb ∧ cb ≤ 12) :
    Calls Try.prog 42 #[.agg #[.int .i64 cl, .int .i64 cb], .agg #[.int .i64 d, .int .i64 l, .int .i64 b], .agg #[.int .i64 s0, .int .i64 s1]] w
      fun e w' => e = .returned (.bool (decide (inside ⟨cl, cb⟩ ⟨d, l, b⟩ ⟨s0, s1⟩))) ∧ Below w.heap.size w w' := by
  have C1 := Lib.hid (fun W => inRange_any s0 0 (cl - l) W)
  have C2 := Lib.hid (fun W => inRange_any s1 0 (cb - b) W)
  have hv := Lib.hid (show decide (inside ⟨cl, cb⟩ ⟨d, l, b⟩ ⟨s0, s1⟩) = (decide (0 ≤ s0 ∧ s0 ≤ cl - l) && decide (0 ≤ s1 ∧ s1 ≤ cb - b)) by rw [Bool.eq_iff_iff]; simp only [Bool.and_eq_true, decide_eq_true_eq]; exact Iff.rfl)
  generalize decide (inside ⟨cl, cb⟩ ⟨d, l, b⟩ ⟨s0, s1⟩) = B at hv ⊢
  generalize decide (0 ≤ s0 ∧ s0 ≤ cl - l) = b1 at C1 hv
  generalize decide (0 ≤ s1 ∧ s1 ≤ cb - b) = b2 at C2 hv
  go_enter Try.func42, Try.ntmps42
  go_wp2_with fail
  refine (C1.out _).mono ?_
  rintro e w1 ⟨rfl, rfl⟩
  cases b1 with
  | false =>
    obtain rfl : B = false := by have := hv.out; simpa using this
    go_wp2_with fail
    go_ret
    exact ⟨rfl, below3 _ _ _ _⟩
  | true =>
    obtain rfl : B = b2 := by have := hv.out; simpa using this
    go_wp2_with fail
    refine (C2.out _).mono ?_
    rintro e w1 ⟨rfl, rfl⟩
    go_wp2_with fail
    go_ret
    exact ⟨rfl, below3 _ _ _ _⟩
set_option maxHeartbeats 2000000 in
theorem l4Inside_any (cl cb d l b s0 s1 : Int) (w : World) (h1 : -12 ≤ l ∧ l ≤ 12) (h2 : -12 ≤ b ∧ b ≤ 12) (k1 : -12 ≤ cl ∧ cl ≤ 12) (k2 : -12 ≤ cb ∧ cb ≤ 12) :
    Calls Try.prog 95 #[.agg #[.int .i64 cl, .int .i64 cb], .agg #[.int .i64 d, .int .i64 l, .int .i64 b], .agg #[.int .i64 s0, .int .i64 s1]] w
      fun e w' => e = .returned (.bool (decide (inside ⟨cl, cb⟩ ⟨d, l, b⟩ ⟨s0, s1⟩))) ∧ Below w.heap.size w w' := by
  by_cases g1 : 0 ≤ s0
  · by_cases g2 : 0 ≤ s1
    · by_cases g3 : s0 ≤ cl - l
      · by_cases g4 : s1 ≤ cb - b
        · rw [show decide (inside ⟨cl, cb⟩ ⟨d, l, b⟩ ⟨s0, s1⟩) = true by simp [inside, g1, g2, g3, g4]]
          go_enter Try.func95, Try.ntmps95
          go_wp2
          go_ret
          exact ⟨rfl, below3 _ _ _ _⟩
        · rw [show decide (inside ⟨cl, cb⟩ ⟨d, l, b⟩ ⟨s0, s1⟩) = false by simp [inside, g4]]
          go_enter Try.func95, Try.ntmps95
          go_wp2
          go_ret
          exact ⟨rfl, below3 _ _ _ _⟩
      · rw [show decide (inside ⟨cl, cb⟩ ⟨d, l, b⟩ ⟨s0, s1⟩) = false by simp [inside, g3]]
        go_enter Try.func95, Try.ntmps95
        go_wp2
        go_ret
        exact ⟨rfl, below3 _ _ _ _⟩
    · rw [show decide (inside ⟨cl, cb⟩ ⟨d, l, b⟩ ⟨s0, s1⟩) = false by simp [inside, g2]]
      go_enter Try.func95, Try.ntmps95
      go_wp2
      go_ret
      exact ⟨rfl, below3 _ _ _ _⟩
  · rw [show decide (inside ⟨cl, cb⟩ ⟨d, l, b⟩ ⟨s0, s1⟩) = false by simp [inside, g1]]
    go_enter Try.func95, Try.ntmps95
    go_wp2
    go_ret
    exact ⟨rfl, below3 _ _ _ _⟩
end Go.Proofs.Ytdleidlmjliapaa
