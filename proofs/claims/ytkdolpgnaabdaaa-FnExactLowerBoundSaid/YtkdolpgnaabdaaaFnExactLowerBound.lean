/- LowerBound answers as its model does, at every list, direction and number of minutes; it writes into no argument. -/
import Derived.Test.YtkdolpgnaabdaaaBdC
import Derived.Test.YtkdolpgnaabdaaaIntX
import Derived.Test.YtkdolpgnaabdaaaCur
import Derived.Test.YtkdolpgnaabdaaaSt0
import Derived.OpenShut
import Derived.ShutString
import Derived.ChangeOld
import Derived.WalkLawsBesides
import Derived.Lib.SmallJoins
import Derived.Deep.RegionHeld3
namespace Go.Proofs.Ytkdolpgnaabdaaa.fnExactLowerBound
open Go.ChangeShapes Go.WideShapes Go.ChangeAt Go.RowKit
open Go.ChangeMaps (open_string shut_string)
set_option linter.unusedVariables false
set_option linter.unusedSimpArgs false

abbrev rArrival (g n c : Nat) (xs : List Value) : RowOf := ⟨58, 4, .slice (some ⟨g, 0, none⟩) n c, n, xs⟩
abbrev ri (g n c : Nat) (xs : List Value) : RowOf := ⟨3, 1, .slice (some ⟨g, 0, none⟩) n c, n, xs⟩

set_option maxRecDepth 100000 in
set_option maxHeartbeats 4000000 in
theorem walk (Ah : Option Addr) (nh ch : Nat) (vh : List TArrival) (hg : Bool) (mi : Int) (w : World) (hnh : vh.length = nh) (hmh : nh ≤ maxLen) (hhh : Has w w.heap.size Ah (flatArrival vh)) (kmi : (Lit.int .i64 mi).wf = true)  :
    Calls Try.prog 7 #[.slice Ah nh ch, .bool hg, .int .i64 mi] w fun e w' => e = .returned (.bool true) ∧ Below w.heap.size w w' := by
  have ivh : IsArrivals w w.heap.size Ah nh vh := ⟨hnh, Nat.le_refl _, hhh⟩
  have IVh := Lib.hid (fun W (hb : Below w.heap.size w W) => ivh.below hb (Nat.le_refl _))
  have HMh := Lib.hid hmh
  obtain ⟨z, x, hA⟩ := lowA_ex vh hg mi
  have HA := Lib.hid hA
  have hxx : (x != x) = false := by simp
  have hzz : (z != z) = false := by simp
  clear hA
  clear hnh hhh ivh
  go_enter Try.func7, Try.ntmps7
  have S0 := Lib.hid (St.start w)
  obtain ⟨lefth, l0h, l1h, lfh, szh⟩ := szArrivalS_is Ah nh ch 1048576 HMh.out (by omega) (by omega)
  have SZh := Lib.hid szh
  clear szh
  go_wp2_with fail
  refine (SZh.out _).mono ?_
  rintro e w1 ⟨rfl, rfl⟩
  clear SZh
  by_cases negh : lefth < 0
  · go_wp2_with fail
    go_ret
    exact ⟨rfl, S0.out.low⟩
  have HNh : Hid (nh ≤ 1048576) := Lib.hid (by have := lfh (by omega); omega)
  go_wp2_with fail
  refine (toArrivalS_is ch (IVh.out _ S0.out.low) HNh.out).mono ?_
  rintro e w2 ⟨t1, rfl, hown, -, hb⟩
  have zt1 := hown.lt t1 rfl
  have qt1 : w.heap.size ≤ t1 := Nat.le_trans S0.out.low.size zt1.1
  have S1 := Lib.hid ((S0.out.quiet hb).own (rArrival t1 nh nh (flatArrival vh)) (own_low hown S0.out.low.size))
  clear hb hown zt1 S0
  go_wp2_with fail
  refine (lowS_any _ (own_Arrivals (S1.out.row (rArrival t1 nh nh (flatArrival vh)) (by simp))) HNh.out (Nat.le_refl _) hg mi z x HA.out).mono ?_
  rintro e w3 ⟨rfl, hb⟩
  have S2 := Lib.hid (S1.out.quiet hb)
  clear hb S1
  have S3 := Lib.hid (S2.out.sub (rows' := []) (by simp))
  clear S2
  go_wp2_with fail
  refine (toArrivalS_is ch (IVh.out _ S3.out.low) HNh.out).mono ?_
  rintro e w4 ⟨xh, rfl, hown, -, hb⟩
  have zxh := hown.lt xh rfl
  have qxh : w.heap.size ≤ xh := Nat.le_trans S3.out.low.size zxh.1
  have S4 := Lib.hid ((S3.out.quiet hb).own (rArrival xh nh nh (flatArrival vh)) (own_low hown S3.out.low.size))
  clear hb hown zxh S3
  go_wp2_with fail
  refine (lowI_any _ (own_Arrivals (S4.out.row (rArrival xh nh nh (flatArrival vh)) (by simp))) HNh.out hg mi z x HA.out).mono ?_
  rintro e w5 ⟨rfl, hb⟩
  have S5 := Lib.hid (S4.out.quiet hb)
  clear hb S4
  go_wp2_with fail
  refine (toArrivalS_is ch (IVh.out _ S5.out.low) HNh.out).mono ?_
  rintro e w6 ⟨t2, rfl, hown, -, hb⟩
  have zt2 := hown.lt t2 rfl
  have dt2_xh : t2 ≠ xh := by have h1 := (S5.out.lt (r := rArrival xh nh nh (flatArrival vh)) (by simp) (g := xh) rfl).2; have h2 := zt2.1; omega
  have qt2 : w.heap.size ≤ t2 := Nat.le_trans S5.out.low.size zt2.1
  have S6 := Lib.hid ((S5.out.quiet hb).own (rArrival t2 nh nh (flatArrival vh)) (own_low hown S5.out.low.size))
  clear hb hown zt2 S5
  go_wp2_with fail
  refine (eqArrivalS_is _ _ (own_Arrivals (S6.out.row (rArrival xh nh nh (flatArrival vh)) (by simp))) (own_Arrivals (S6.out.row (rArrival t2 nh nh (flatArrival vh)) (by simp))) (Nat.le_trans HNh.out (by unfold maxLen; omega))).mono ?_
  rintro e w7 ⟨rfl, hb⟩
  have S7 := Lib.hid (S6.out.quiet hb)
  clear hb S6
  have S8 := Lib.hid (S7.out.sub (rows' := [rArrival xh nh nh (flatArrival vh)]) (by simp))
  clear S7
  go_wp2_with fail
  go_ret
  exact ⟨rfl, S8.out.low⟩
theorem own : ownKnob Try.prog.godebug = none := by kernel_rfl
theorem laidOut : laidOutB Try.prog = true := by kernel_rfl

set_option maxRecDepth 100000 in
theorem lifted (os : Os) (started : os.Started) (H : Type) (enc : TypeId × Value → H) :
    ReturnsInHanded {} Try.checked os 7 .any (Rows.fnExactLowerBoundSpec.pre6 enc Try.prog Try.f7 Rows.fnExactLowerBoundRow.domain false) (Rows.fnExactLowerBoundSpec.post enc Try.prog Try.f7 false true false false) := by
  refine returnsInHanded_of_change (C := Try.checked) own started (by kernel_rfl) Try.func7
    (ChangeSpec.witness6 (enc := enc) (C := Try.checked) false ⟨#[], #[.slice none 0 0, .bool false, .int .i64 0], []⟩ 8 (by kernel_rfl) (by kernel_rfl) (by kernel_rfl) (by kernel_rfl)) ?_
  intro W base args ds gs before hval0 hW hcnd _
  have hval : ∀ (j : Nat) t v, Try.f7.params[j]? = some t → args[j]? = some v → Value.okWide Try.prog W .any base t v := hval0
  have hW' := hW
  obtain ⟨p, q, hA0, hV, rfl, hfz, hnd⟩ := hW
  have hA : DataW.TrodAll enc Try.prog W 0 (fun _ => true) true Try.f7.params.toList args.toList ds p := hA0
  rw [Try.params7] at hA hval
  obtain ⟨v0, vs0, d0, ds0, p0, q0, hargs, rfl, rfl, h0, r0⟩ := trodAll_cons hA
  obtain ⟨v1, vs1, d1, ds1, p1, q1, rfl, rfl, rfl, h1, r1⟩ := trodAll_cons r0
  obtain ⟨v2, vs2, d2, ds2, p2, q2, rfl, rfl, rfl, h2, r2⟩ := trodAll_cons r1
  obtain ⟨rfl, rfl, rfl⟩ := trodAll_nil r2
  obtain rfl : args = #[v0, v1, v2] := by cases args; simp_all
  obtain ⟨rfl, rfl⟩ := trodVars_none hV
  have k0 := h0
  have lt0 : ∀ x ∈ p0, x.block < W.heap.size := by obtain ⟨m, hm⟩ := k0; exact DataW.trod_lt m _ _ _ hm
  obtain ⟨a0, len0, cap0, rfl⟩ := okWide_slice Try.underlying44 (hval 0 44 v0 rfl rfl)
  obtain ⟨z0, wl0, wm0, wh0⟩ : ∃ vs : List TArrival, vs.length = len0 ∧ len0 ≤ maxLen ∧ Has W W.heap.size a0 (flatArrival vs) := by
    obtain ⟨fuel, hf⟩ := h0
    obtain ⟨A, l, c, vs, hcs, h1, h2, h4⟩ := open_Arrivals Try.underlying44 Try.underlying86 (by kernel_rfl) (by kernel_rfl) Try.underlying3 Try.underlying4 Try.underlying3 Try.underlying3 hf
    simp [Value.cells] at hcs
    obtain ⟨rfl, rfl, rfl⟩ := hcs
    exact ⟨vs, h1, h2, h4⟩
  obtain ⟨a1, rfl, rfl, rfl⟩ := open_bool Try.underlying4 (hval 1 4 v1 rfl rfl) h1
  obtain ⟨a2, rfl, rfl, rfl, w2⟩ := open_int Try.underlying3 (hval 2 3 v2 rfl rfl) h2
  clear hA0 hval0
  refine (walk a0 len0 cap0 z0 a1 a2 W wl0 wm0 wh0 w2).mono fun e W' ⟨he, bel⟩ => ?_
  subst he
  exact ⟨_, rfl, _, _, _, [], _, [], hW', trodAll_mk1 (shut_bool Try.underlying4 _), (trodAll_cons_mk (Below.trod laidOut (by kernel_rfl) (of_decide_eq_true (by kernel_rfl)) k0 bel lt0) (trodAll_cons_mk (shut_bool Try.underlying4 _) (trodAll_cons_mk (shut_int Try.underlying3 w2) trodAll_mk0))), rfl, bel.frame _, fun h => by cases h⟩

theorem over : Rows.fnExactLowerBoundRow.holds Try.pinned (OpenSpec.ofChange Rows.fnExactLowerBoundSpec) :=
  OpenClaim.holds_of_wide 7 Try.f7 rfl rfl rfl rfl rfl rfl rfl ⟨rfl, rfl, rfl, rfl, rfl⟩ rfl rfl rfl rfl rfl (by kernel_rfl) Try.func7 (by kernel_rfl)
    (of_decide_eq_true (by kernel_rfl)) (by unfold Func.isWrapper; first | (rw [if_pos (by decide +kernel)]; kernel_rfl) | (rw [if_neg (by decide +kernel)]; exact ⟨rfl, rfl⟩))
    (fun os started H enc _ => lifted os started H enc)

/-- The statement. -/
theorem proved : Rows.FnExactLowerBoundSaid := over
end Go.Proofs.Ytkdolpgnaabdaaa.fnExactLowerBound
