/- VotedLevel answers as its model does, at every list of integers and every number, and writes into no argument. -/
import Derived.Test.YteeljlpbijmhlaaSeV
import Derived.Test.YteeljlpbijmhlaaIntX
import Derived.Test.YteeljlpbijmhlaaCur
import Derived.Test.YteeljlpbijmhlaaSt0
import Derived.OpenShut
import Derived.ShutString
import Derived.ChangeOld
import Derived.WalkLawsBesides
import Derived.Lib.SmallJoins
import Derived.Deep.RegionHeld3
namespace Go.Proofs.Yteeljlpbijmhlaa.fnExactVotedLevel
open Go.ChangeShapes Go.WideShapes Go.ChangeAt Go.RowKit
open Go.ChangeMaps (open_string shut_string)
set_option linter.unusedVariables false
set_option linter.unusedSimpArgs false

abbrev ri (g n c : Nat) (xs : List Value) : RowOf := ⟨3, 1, .slice (some ⟨g, 0, none⟩) n c, n, xs⟩

set_option maxRecDepth 100000 in
set_option maxHeartbeats 4000000 in
theorem walk (At : Option Addr) (nt ct : Nat) (zt : List Int) (q : Int) (w : World) (hIt : IsInts .i64 w At nt zt) (kq : (Lit.int .i64 q).wf = true) :
    Calls Try.prog 5 #[.slice At nt ct, .int .i64 q] w fun e w' => e = .returned (.bool true) ∧ Below w.heap.size w w' := by
  have HLt : Hid (zt.length = nt) := Lib.hid hIt.1
  have IVt := Lib.hid (fun W (hb : Below w.heap.size w W) => hIt.2.2.2.below hb)
  have hMt : nt ≤ 9223372036854775807 := Nat.le_trans hIt.2.1 (by unfold maxLen; omega)
  obtain ⟨m, x, hA⟩ := votA_ex zt q
  have HA := Lib.hid hA
  have hmm : (m != m) = false := by simp
  have hxx : (x != x) = false := by simp
  clear hA
  clear hIt
  go_enter Try.func5, Try.ntmps5
  have S0 := Lib.hid (St.start w)
  by_cases bigt : 1048576 < nt
  · go_wp2_with fail
    go_ret
    exact ⟨rfl, S0.out.low⟩
  have HNt : Hid (nt ≤ 1048576) := Lib.hid (by omega)
  go_wp2_with fail
  refine (toI_ex At nt ct w.heap.size zt _ HLt.out HNt.out S0.out.low.size (IVt.out _ S0.out.low)).mono ?_
  rintro e w1 ⟨t1, rfl, hown, hb⟩
  have zt1 := hown.lt t1 rfl
  have qt1 : w.heap.size ≤ t1 := Nat.le_trans S0.out.low.size zt1.1
  have S1 := Lib.hid ((S0.out.quiet hb).own (ri t1 nt nt (zt.map (.int .i64))) (own_low hown S0.out.low.size))
  clear hb hown zt1 S0
  go_wp2_with fail
  refine (votSp_any _ _ _ _ zt q m x HA.out _ HLt.out HNt.out (Nat.le_refl _) (own_hasv (S1.out.row (ri t1 nt nt (zt.map (.int .i64))) (by simp)))).mono ?_
  rintro e w2 ⟨rfl, hb⟩
  have S2 := Lib.hid (S1.out.quiet hb)
  clear hb S1
  have S3 := Lib.hid (S2.out.sub (rows' := []) (by simp))
  clear S2
  go_wp2_with fail
  refine (toI_ex At nt ct w.heap.size zt _ HLt.out HNt.out S3.out.low.size (IVt.out _ S3.out.low)).mono ?_
  rintro e w3 ⟨xt, rfl, hown, hb⟩
  have zxt := hown.lt xt rfl
  have qxt : w.heap.size ≤ xt := Nat.le_trans S3.out.low.size zxt.1
  have S4 := Lib.hid ((S3.out.quiet hb).own (ri xt nt nt (zt.map (.int .i64))) (own_low hown S3.out.low.size))
  clear hb hown zxt S3
  go_wp2_with fail
  refine (votIm_any _ _ _ _ zt q m x HA.out _ HLt.out HNt.out (Nat.le_refl _) (own_hasv (S4.out.row (ri xt nt nt (zt.map (.int .i64))) (by simp)))).mono ?_
  rintro e w4 ⟨rfl, hb⟩
  have S5 := Lib.hid (S4.out.quiet hb)
  clear hb S4
  go_wp2_with fail
  refine (toI_ex At nt ct w.heap.size zt _ HLt.out HNt.out S5.out.low.size (IVt.out _ S5.out.low)).mono ?_
  rintro e w5 ⟨t2, rfl, hown, hb⟩
  have zt2 := hown.lt t2 rfl
  have dt2_xt : t2 ≠ xt := by have h1 := (S5.out.lt (r := ri xt nt nt (zt.map (.int .i64))) (by simp) (g := xt) rfl).2; have h2 := zt2.1; omega
  have qt2 : w.heap.size ≤ t2 := Nat.le_trans S5.out.low.size zt2.1
  have S6 := Lib.hid ((S5.out.quiet hb).own (ri t2 nt nt (zt.map (.int .i64))) (own_low hown S5.out.low.size))
  clear hb hown zt2 S5
  go_wp2_with fail
  refine (eqI_same _ _ nt _ _ _ _ zt _ HLt.out (Nat.le_trans HNt.out (by unfold maxLen; omega)) (own_hasv (S6.out.row (ri xt nt nt (zt.map (.int .i64))) (by simp))) (own_hasv (S6.out.row (ri t2 nt nt (zt.map (.int .i64))) (by simp)))).mono ?_
  rintro e w6 ⟨rfl, hD⟩
  have S7 := Lib.hid (S6.out.drawn hD)
  clear hD S6
  have S8 := Lib.hid (S7.out.sub (rows' := [ri xt nt nt (zt.map (.int .i64))]) (by simp))
  clear S7
  go_wp2_with fail
  go_ret
  exact ⟨rfl, S8.out.low⟩
theorem own : ownKnob Try.prog.godebug = none := by kernel_rfl
theorem laidOut : laidOutB Try.prog = true := by kernel_rfl

set_option maxRecDepth 100000 in
theorem lifted (os : Os) (started : os.Started) (H : Type) (enc : TypeId × Value → H) :
    ReturnsInHanded {} Try.checked os 5 .any (Rows.fnExactVotedLevelSpec.pre6 enc Try.prog Try.f5 Rows.fnExactVotedLevelRow.domain false) (Rows.fnExactVotedLevelSpec.post enc Try.prog Try.f5 false true false false) := by
  refine returnsInHanded_of_change (C := Try.checked) own started (by kernel_rfl) Try.func5
    (ChangeSpec.witness6 (enc := enc) (C := Try.checked) false ⟨#[], #[.slice none 0 0, .int .i64 0], []⟩ 8 (by kernel_rfl) (by kernel_rfl) (by kernel_rfl) (by kernel_rfl)) ?_
  intro W base args ds gs before hval0 hW hcnd _
  have hval : ∀ (j : Nat) t v, Try.f5.params[j]? = some t → args[j]? = some v → Value.okWide Try.prog W .any base t v := hval0
  have hW' := hW
  obtain ⟨p, q, hA0, hV, rfl, hfz, hnd⟩ := hW
  have hA : DataW.TrodAll enc Try.prog W 0 (fun _ => true) true Try.f5.params.toList args.toList ds p := hA0
  rw [Try.params5] at hA hval
  obtain ⟨v0, vs0, d0, ds0, p0, q0, hargs, rfl, rfl, h0, r0⟩ := trodAll_cons hA
  obtain ⟨v1, vs1, d1, ds1, p1, q1, rfl, rfl, rfl, h1, r1⟩ := trodAll_cons r0
  obtain ⟨rfl, rfl, rfl⟩ := trodAll_nil r1
  obtain rfl : args = #[v0, v1] := by cases args; simp_all
  obtain ⟨rfl, rfl⟩ := trodVars_none hV
  obtain ⟨a0, len0, cap0, rfl⟩ := okWide_slice Try.underlying22 (hval 0 22 v0 rfl rfl)
  have k0 := h0
  have lt0 : ∀ x ∈ p0, x.block < W.heap.size := by obtain ⟨m, hm⟩ := k0; exact DataW.trod_lt m _ _ _ hm
  obtain ⟨z0, w0⟩ : ∃ zs, IsInts .i64 W a0 len0 zs := by
    obtain ⟨fuel, hf⟩ := h0
    rcases open_ints Try.underlying22 Try.underlying3 (by kernel_rfl) hf with ⟨hcs, _⟩ | ⟨x, l, c, zs, hcs, _, hl, hm, hz, _, hcell, hwz⟩
    · simp [Value.cells] at hcs
      obtain ⟨rfl, rfl, rfl⟩ := hcs
      exact ⟨[], isInts_nil _ W⟩
    · simp [Value.cells] at hcs
      obtain ⟨rfl, rfl, rfl⟩ := hcs
      exact ⟨_, isInts_some hl hm (by simpa using hz) hcell hwz⟩
  obtain ⟨a1, rfl, rfl, rfl, w1⟩ := open_int Try.underlying3 (hval 1 3 v1 rfl rfl) h1
  clear hA0 hval0
  refine (walk a0 len0 cap0 z0 a1 W w0 w1).mono fun e W' ⟨he, bel⟩ => ?_
  subst he
  exact ⟨_, rfl, _, _, _, [], _, [], hW', trodAll_mk1 (shut_bool Try.underlying4 _), (trodAll_cons_mk (Below.trod laidOut (by kernel_rfl) (of_decide_eq_true (by kernel_rfl)) k0 bel lt0) (trodAll_cons_mk (shut_int Try.underlying3 w1) trodAll_mk0)), rfl, bel.frame _, fun h => by cases h⟩

theorem over : Rows.fnExactVotedLevelRow.holds Try.pinned (OpenSpec.ofChange Rows.fnExactVotedLevelSpec) :=
  OpenClaim.holds_of_wide 5 Try.f5 rfl rfl rfl rfl rfl rfl rfl ⟨rfl, rfl, rfl, rfl, rfl⟩ rfl rfl rfl rfl rfl (by kernel_rfl) Try.func5 (by kernel_rfl)
    (of_decide_eq_true (by kernel_rfl)) (by unfold Func.isWrapper; first | (rw [if_pos (by decide +kernel)]; kernel_rfl) | (rw [if_neg (by decide +kernel)]; exact ⟨rfl, rfl⟩))
    (fun os started H enc _ => lifted os started H enc)

/-- The statement. -/
theorem proved : Rows.FnExactVotedLevelSaid := over
end Go.Proofs.Yteeljlpbijmhlaa.fnExactVotedLevel
