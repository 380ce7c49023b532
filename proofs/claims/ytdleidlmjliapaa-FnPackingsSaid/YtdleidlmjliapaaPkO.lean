/- Chapter 4: the model's AreHulls and IsPacking. -/
import Derived.Test.YtdleidlmjliapaaChE
namespace Go.Proofs.Ytdleidlmjliapaa
open Go.RowKit Go.PlainAid Go.Sort
set_option linter.unusedVariables false
set_option linter.unusedSimpArgs false

theorem areHullsS_any {w : World} {B : Nat} {A : Option Addr} {n : Nat} {hs : List THull} (c : Nat) (h : IsHulls w B A n hs) (hm : n ≤ 1048576) :
    Calls Try.prog 11 #[.slice A n c] w fun e w' => e = .returned (.bool (gHs hs)) ∧ Below w.heap.size w w' := by
  have C := Lib.hid (l4Good_any c h (Nat.le_trans hm (by unfold maxLen; omega)))
  generalize gHs hs = x at C ⊢
  clear h hm
  go_enter Try.func11, Try.ntmps11
  go_wp2_with fail
  refine C.out.mono ?_
  rintro e w1 ⟨rfl, hb⟩
  go_wp2_with fail
  go_ret
  exact ⟨rfl, hb⟩
theorem isPackS_any {w : World} {B B' : Nat} {A A' : Option Addr} {n n' : Nat} {hs : List THull} {ss : List TSpot} (cl cb : Int) (c c' : Nat) (h : IsHulls w B A n hs) (h' : IsSpots w B' A' n' ss) (hm : n ≤ 1048576) (hm' : n' ≤ 1048576) :
    Calls Try.prog 16 #[.agg #[.int .i64 cl, .int .i64 cb], .slice A n c, .slice A' n' c'] w fun e w' => e = .returned (.bool (gP ⟨cl, cb⟩ hs ss)) ∧ Below w.heap.size w w' := by
  have C := Lib.hid (fun W (hb : Below w.heap.size w W) => l4Asked_any cl cb c c' (h.below hb h.low) (h'.below hb h'.low) hm hm')
  generalize gP ⟨cl, cb⟩ hs ss = x at C ⊢
  clear h h' hm hm'
  have b1 : Below w.heap.size w (w.alloc (.cells #[.int .i64 cl, .int .i64 cb] 25)) := (Below.refl _ _).alloc (Nat.le_refl _) _
  go_enter Try.func16, Try.ntmps16
  go_wp2_with fail
  refine (C.out _ b1).mono ?_
  rintro e w1 ⟨rfl, hb⟩
  go_wp2_with fail
  go_ret
  exact ⟨rfl, b1.trans (hb.mono (by simp))⟩
end Go.Proofs.Ytdleidlmjliapaa
