/- What is proved: laws.FnExactSplitString, called with any two strings, returns true: the program's SplitString answers as the reference model's, and each call's slice is its own memory. No condition. -/
import Derived.Test.YtcbdifmnbolgpaaSplit2
import Derived.Test.YtcbdifmnbolgpaaMark
import Derived.OpenShut
import Derived.ShutString
import Derived.ChangeOld
import Derived.SliceStrings
namespace Go.Proofs.Ytcbdifmnbolgpaa.fnExactSplitString
open Go.ChangeShapes Go.WideShapes Go.ChangeAt Go.RowKit
open Go.ChangeMaps (open_string shut_string)
set_option linter.unusedVariables false

/-- One answer of both functions. -/
theorem road (s sep : ByteArray) (ss : List ByteArray) (b : Bool) (w : World) (hm : s.size ≤ 1048576) (hm2 : sep.size ≤ 1048576) (hl : ss.length ≤ 4001)
    (cS : ∀ W, Calls Try.prog 17 #[.string s, .string sep] W (GivesStrs W ss b)) (cI : ∀ W, Calls Try.prog 10 #[.string s, .string sep] W (GivesStrs W ss b)) :
    Calls Try.prog 4 #[.string s, .string sep] w fun e w' => e = .returned (.bool true) ∧ Below w.heap.size w w' := by
  have hs1 : ¬ (1048576 : Int) < (s.size : Int) := by omega
  have hs2 : ¬ (1048576 : Int) < (sep.size : Int) := by omega
  have HS := Lib.hid cS
  have HI := Lib.hid cI
  clear cS cI
  go_enter Try.func4, Try.ntmps4
  go_wp2_with fail
  refine (HS.out _).mono ?_
  rintro e w1 ⟨g1, c1, rfl, hg1, own1, hb1⟩
  have hz1 := hb1.size
  have lt1 := own1.lt g1 rfl
  go_wp2_with fail
  refine (HI.out _).mono ?_
  rintro e w2 ⟨g2, c2, rfl, hg2, own2, hb2⟩
  have hz2 := hb2.size
  have lt2 := own2.lt g2 rfl
  have own12 := own1.kept (grown_of_below hb2 none) (.inr (by simp [Value.ownBlock]))
  have hbb2 := hb1.trans (hb2.mono hz1)
  go_wp2_with fail
  refine (eqS_same _ _ ss.length _ _ _ _ ss _ rfl (by unfold maxLen; omega) (Has.of_own own2) (Has.of_own own12)).mono ?_
  rintro e w3 ⟨rfl, hD3⟩
  have own23 := hD3.own own2
  have own13 := hD3.own own12
  have hbb3 := hbb2.trans (hD3.below _)
  have hz3 := hD3.size
  clear own1 own2 own12 hb1 hb2 hD3 hbb2
  go_wp2_with fail
  refine (markS_any g2 ss.length c2 _ 1 _ _ (by omega) (by omega) own23).mono ?_
  rintro e w4 ⟨rfl, own24, hg4⟩
  have hz4 := hg4.size
  have own14 := own13.kept hg4 (.inr (by simp [Value.ownBlock]; omega))
  have hbb4 := hbb3.grown hg4 hbb3.size (fun k e => by cases e; omega)
  clear own13 own23 hg4 hbb3
  go_wp2_with fail
  refine (heldS_any g2 ss.length c2 _ 1 _ (by omega) (by omega) own24).mono ?_
  rintro e w5 ⟨rfl, hb5⟩
  have hz5 := hb5.size
  have own25 := own24.kept (grown_of_below hb5 none) (.inr (by simp [Value.ownBlock]))
  have own15 := own14.kept (grown_of_below hb5 none) (.inr (by simp [Value.ownBlock]))
  have hbb5 := hbb4.trans (hb5.mono hbb4.size)
  clear own24 own14 hb5 hbb4
  go_wp2_with fail
  refine (HI.out _).mono ?_
  rintro e w6 ⟨g6, c6, rfl, hg6, own6, hb6⟩
  have hz6 := hb6.size
  have own26 := own25.kept (grown_of_below hb6 none) (.inr (by simp [Value.ownBlock]))
  have own16 := own15.kept (grown_of_below hb6 none) (.inr (by simp [Value.ownBlock]))
  have hbb6 := hbb5.trans (hb6.mono hbb5.size)
  clear own25 own15 hb6 hbb5
  go_wp2_with fail
  refine (eqS_same _ _ ss.length _ _ _ _ ss _ rfl (by unfold maxLen; omega) (Has.of_own own6) (Has.of_own own16)).mono ?_
  rintro e w7 ⟨rfl, hD7⟩
  have own27 := hD7.own own26
  have hbb7 := hbb6.trans (hD7.below _)
  clear own26 own16 own6 hbb6 hD7
  go_wp2_with fail
  refine (heldS_any g2 ss.length c2 _ 1 _ (by omega) (by omega) own27).mono ?_
  rintro e w8 ⟨rfl, hb8⟩
  have hbb8 := hbb7.trans (hb8.mono hbb7.size)
  clear own27 hb8 hbb7
  go_wp2
  go_ret
  exact ⟨rfl, hbb8⟩

theorem walk0 (s sep : ByteArray) (w : World) (hm : s.size ≤ maxLen) (hm2 : sep.size ≤ maxLen) :
    Calls Try.prog 4 #[.string s, .string sep] w fun e w' => e = .returned (.bool true) ∧ Below w.heap.size w w' := by
  have hm' := hm
  have hm2' := hm2
  unfold maxLen at hm' hm2'
  by_cases h0 : (1048576 : Int) < (s.size : Int)
  · go_enter Try.func4, Try.ntmps4
    go_wp2_with fail
    go_ret
    exact ⟨rfl, Below.refl _ _⟩
  by_cases h1 : (1048576 : Int) < (sep.size : Int)
  · go_enter Try.func4, Try.ntmps4
    go_wp2_with fail
    go_ret
    exact ⟨rfl, Below.refl _ _⟩
  by_cases hg : s.size ≤ 4000 ∧ sep.size = 1
  · exact road s sep (parts s (PlainAid.bt sep 0)) true w (by omega) (by omega) (by have := parts_len s (PlainAid.bt sep 0); omega) (fun W => specSplit_ok s sep W hg.1 hg.2) (fun W => implSplit_ok s sep W hg.1 hg.2)
  · exact road s sep [] false w (by omega) (by omega) (by simp) (fun W => specSplit_no s sep W hm hm2 hg) (fun W => implSplit_no s sep W hm hm2 hg)
theorem walk (s sep : ByteArray) (w : World) (hm : s.size ≤ maxLen) (hm2 : sep.size ≤ maxLen) :
    Calls Try.prog 4 #[.string s, .string sep] w fun e w' => e = .returned (.bool true) ∧ Below w.heap.size w w' := walk0 s sep w hm hm2
theorem own : ownKnob Try.prog.godebug = none := by kernel_rfl
theorem laidOut : laidOutB Try.prog = true := by kernel_rfl

set_option maxRecDepth 100000 in
theorem lifted (os : Os) (started : os.Started) (H : Type) (enc : TypeId × Value → H) :
    ReturnsInHanded {} Try.checked os 4 .any (Rows.fnExactSplitStringSpec.pre6 enc Try.prog Try.f4 Rows.fnExactSplitStringRow.domain false) (Rows.fnExactSplitStringSpec.post enc Try.prog Try.f4 false true false false) := by
  refine returnsInHanded_of_change (C := Try.checked) own started (by kernel_rfl) Try.func4
    (ChangeSpec.witness6 (enc := enc) (C := Try.checked) false ⟨#[], #[.string ByteArray.empty, .string ByteArray.empty], []⟩ 8 (by kernel_rfl) (by kernel_rfl) (by kernel_rfl) (by kernel_rfl)) ?_
  intro W base args ds gs before hval0 hW hcnd _
  have hval : ∀ (j : Nat) t v, Try.f4.params[j]? = some t → args[j]? = some v → Value.okWide Try.prog W .any base t v := hval0
  have hW' := hW
  obtain ⟨p, q, hA0, hV, rfl, hfz, hnd⟩ := hW
  have hA : DataW.TrodAll enc Try.prog W 0 (fun _ => true) true Try.f4.params.toList args.toList ds p := hA0
  rw [Try.params4] at hA hval
  obtain ⟨v0, vs0, d0, ds0, p0, q0, hargs, rfl, rfl, h0, r0⟩ := trodAll_cons hA
  obtain ⟨v1, vs1, d1, ds1, p1, q1, rfl, rfl, rfl, h1, r1⟩ := trodAll_cons r0
  obtain ⟨rfl, rfl, rfl⟩ := trodAll_nil r1
  obtain rfl : args = #[v0, v1] := by cases args; simp_all
  obtain ⟨rfl, rfl⟩ := trodVars_none hV
  obtain ⟨a0, rfl, rfl, rfl, w0⟩ := open_string Try.underlying9 (hval 0 9 v0 rfl rfl) h0
  obtain ⟨a1, rfl, rfl, rfl, w1⟩ := open_string Try.underlying9 (hval 1 9 v1 rfl rfl) h1
  clear hA0 hval0
  refine (walk a0 a1 W w0 w1).mono fun e W' ⟨he, bel⟩ => ?_
  subst he
  exact ⟨_, rfl, _, _, _, [], _, [], hW', trodAll_mk1 (shut_bool Try.underlying4 _), (trodAll_cons_mk (shut_string Try.underlying9 w0) (trodAll_cons_mk (shut_string Try.underlying9 w1) trodAll_mk0)), rfl, bel.frame _, fun h => by cases h⟩

theorem over : Rows.fnExactSplitStringRow.holds Try.pinned (OpenSpec.ofChange Rows.fnExactSplitStringSpec) :=
  OpenClaim.holds_of_wide 4 Try.f4 rfl rfl rfl rfl rfl rfl rfl ⟨rfl, rfl, rfl, rfl, rfl⟩ rfl rfl rfl rfl rfl (by kernel_rfl) Try.func4 (by kernel_rfl)
    (of_decide_eq_true (by kernel_rfl)) (by unfold Func.isWrapper; first | (rw [if_pos (by decide +kernel)]; kernel_rfl) | (rw [if_neg (by decide +kernel)]; exact ⟨rfl, rfl⟩))
    (fun os started H enc _ => lifted os started H enc)

/-- The statement. -/
theorem proved : Rows.FnExactSplitStringSaid := over
end Go.Proofs.Ytcbdifmnbolgpaa.fnExactSplitString
