/- GapOf answers as its model does, at every list, direction, number of minutes and order; it writes into no argument. -/
import Derived.Test.YtkdolpgnaabdaaaBdC
import Derived.Test.YtkdolpgnaabdaaaIntX
import Derived.Test.YtkdolpgnaabdaaaCur
import Derived.Test.YtkdolpgnaabdaaaSt0
import Derived.OpenShut
import Derived.ShutString
import Derived.ChangeOld
import Derived.WalkLawsBesides
import Derived.Lib.SmallJoins
import Derived.Deep.RegionHeld3
namespace Go.Proofs.Ytkdolpgnaabdaaa.fnExactGapOf
open Go.ChangeShapes Go.WideShapes Go.ChangeAt Go.RowKit
open Go.ChangeMaps (open_string shut_string)
set_option linter.unusedVariables false
set_option linter.unusedSimpArgs false

abbrev rArrival (g n c : Nat) (xs : List Value) : RowOf := ⟨58, 4, .slice (some ⟨g, 0, none⟩) n c, n, xs⟩
abbrev ri (g n c : Nat) (xs : List Value) : RowOf := ⟨3, 1, .slice (some ⟨g, 0, none⟩) n c, n, xs⟩

theorem own_is {w : World} {A2 : Option Addr} {n2 : Nat} {os : List Int} (l2 : os.length = n2) (h2 : Has w w.heap.size A2 (os.map (.int .i64))) : IsIs w w.heap.size A2 n2 os := ⟨l2, Nat.le_refl _, h2⟩

set_option maxRecDepth 100000 in
set_option maxHeartbeats 4000000 in
theorem walk (Ah : Option Addr) (nh ch : Nat) (vh : List TArrival) (hg : Bool) (mi : Int) (At : Option Addr) (nt ct : Nat) (zt : List Int) (w : World) (hnh : vh.length = nh) (hmh : nh ≤ maxLen) (hhh : Has w w.heap.size Ah (flatArrival vh)) (kmi : (Lit.int .i64 mi).wf = true) (hIt : IsInts .i64 w At nt zt)  :
    Calls Try.prog 8 #[.slice Ah nh ch, .bool hg, .int .i64 mi, .slice At nt ct] w fun e w' => e = .returned (.bool true) ∧ Below w.heap.size w w' := by
  have HLt : Hid (zt.length = nt) := Lib.hid hIt.1
  have IVt := Lib.hid (fun W (hb : Below w.heap.size w W) => hIt.2.2.2.below hb)
  have hMt : nt ≤ 9223372036854775807 := Nat.le_trans hIt.2.1 (by unfold maxLen; omega)
  have ivh : IsArrivals w w.heap.size Ah nh vh := ⟨hnh, Nat.le_refl _, hhh⟩
  have IVh := Lib.hid (fun W (hb : Below w.heap.size w W) => ivh.below hb (Nat.le_refl _))
  have HMh := Lib.hid hmh
  obtain ⟨z, x, hA⟩ := gapA_ex vh hg mi zt
  have HA := Lib.hid hA
  have hxx : (x != x) = false := by simp
  have hzz : (z != z) = false := by simp
  clear hA
  clear hnh hhh ivh
  clear hIt
  go_enter Try.func8, Try.ntmps8
  have S0 := Lib.hid (St.start w)
  by_cases bigt : 1048576 < nt
  · go_wp2_with fail
    go_ret
    exact ⟨rfl, S0.out.low⟩
  have HNt : Hid (nt ≤ 1048576) := Lib.hid (by omega)
  obtain ⟨lefth, l0h, l1h, lfh, szh⟩ := szArrivalS_is Ah nh ch 1048576 HMh.out (by omega) (by omega)
  have SZh := Lib.hid szh
  clear szh
  go_wp2_with fail
  refine (SZh.out _).mono ?_
  rintro e w1 ⟨rfl, rfl⟩
  clear SZh
  by_cases negh : lefth < 0
  · go_wp2_with fail
    go_ret
    exact ⟨rfl, S0.out.low⟩
  have HNh : Hid (nh ≤ 1048576) := Lib.hid (by have := lfh (by omega); omega)
  go_wp2_with fail
  refine (toArrivalS_is ch (IVh.out _ S0.out.low) HNh.out).mono ?_
  rintro e w2 ⟨t1, rfl, hown, -, hb⟩
  have zt1 := hown.lt t1 rfl
  have qt1 : w.heap.size ≤ t1 := Nat.le_trans S0.out.low.size zt1.1
  have S1 := Lib.hid ((S0.out.quiet hb).own (rArrival t1 nh nh (flatArrival vh)) (own_low hown S0.out.low.size))
  clear hb hown zt1 S0
  go_wp2_with fail
  refine (toI_ex At nt ct w.heap.size zt _ HLt.out HNt.out S1.out.low.size (IVt.out _ S1.out.low)).mono ?_
  rintro e w3 ⟨t2, rfl, hown, hb⟩
  have zt2 := hown.lt t2 rfl
  have dt2_t1 : t2 ≠ t1 := by have h1 := (S1.out.lt (r := rArrival t1 nh nh (flatArrival vh)) (by simp) (g := t1) rfl).2; have h2 := zt2.1; omega
  have qt2 : w.heap.size ≤ t2 := Nat.le_trans S1.out.low.size zt2.1
  have S2 := Lib.hid ((S1.out.quiet hb).own (ri t2 nt nt (zt.map (.int .i64))) (own_low hown S1.out.low.size))
  clear hb hown zt2 S1
  go_wp2_with fail
  refine (gapS_any _ _ (own_Arrivals (S2.out.row (rArrival t1 nh nh (flatArrival vh)) (by simp))) HNh.out (Nat.le_refl _) (own_is HLt.out (own_hasv (S2.out.row (ri t2 nt nt (zt.map (.int .i64))) (by simp)))) HNt.out (Nat.le_refl _) hg mi z x HA.out).mono ?_
  rintro e w4 ⟨rfl, hb⟩
  have S3 := Lib.hid (S2.out.quiet hb)
  clear hb S2
  have S4 := Lib.hid (S3.out.sub (rows' := []) (by simp))
  clear S3
  go_wp2_with fail
  refine (toArrivalS_is ch (IVh.out _ S4.out.low) HNh.out).mono ?_
  rintro e w5 ⟨xh, rfl, hown, -, hb⟩
  have zxh := hown.lt xh rfl
  have qxh : w.heap.size ≤ xh := Nat.le_trans S4.out.low.size zxh.1
  have S5 := Lib.hid ((S4.out.quiet hb).own (rArrival xh nh nh (flatArrival vh)) (own_low hown S4.out.low.size))
  clear hb hown zxh S4
  go_wp2_with fail
  refine (toI_ex At nt ct w.heap.size zt _ HLt.out HNt.out S5.out.low.size (IVt.out _ S5.out.low)).mono ?_
  rintro e w6 ⟨xt, rfl, hown, hb⟩
  have zxt := hown.lt xt rfl
  have dxt_xh : xt ≠ xh := by have h1 := (S5.out.lt (r := rArrival xh nh nh (flatArrival vh)) (by simp) (g := xh) rfl).2; have h2 := zxt.1; omega
  have qxt : w.heap.size ≤ xt := Nat.le_trans S5.out.low.size zxt.1
  have S6 := Lib.hid ((S5.out.quiet hb).own (ri xt nt nt (zt.map (.int .i64))) (own_low hown S5.out.low.size))
  clear hb hown zxt S5
  go_wp2_with fail
  refine (gapI_any _ _ (own_Arrivals (S6.out.row (rArrival xh nh nh (flatArrival vh)) (by simp))) HNh.out (own_is HLt.out (own_hasv (S6.out.row (ri xt nt nt (zt.map (.int .i64))) (by simp)))) HNt.out (Nat.le_refl _) hg mi z x HA.out).mono ?_
  rintro e w7 ⟨rfl, hb⟩
  have S7 := Lib.hid (S6.out.quiet hb)
  clear hb S6
  go_wp2_with fail
  refine (toArrivalS_is ch (IVh.out _ S7.out.low) HNh.out).mono ?_
  rintro e w8 ⟨t3, rfl, hown, -, hb⟩
  have zt3 := hown.lt t3 rfl
  have dt3_xt : t3 ≠ xt := by have h1 := (S7.out.lt (r := ri xt nt nt (zt.map (.int .i64))) (by simp) (g := xt) rfl).2; have h2 := zt3.1; omega
  have dt3_xh : t3 ≠ xh := by have h1 := (S7.out.lt (r := rArrival xh nh nh (flatArrival vh)) (by simp) (g := xh) rfl).2; have h2 := zt3.1; omega
  have qt3 : w.heap.size ≤ t3 := Nat.le_trans S7.out.low.size zt3.1
  have S8 := Lib.hid ((S7.out.quiet hb).own (rArrival t3 nh nh (flatArrival vh)) (own_low hown S7.out.low.size))
  clear hb hown zt3 S7
  go_wp2_with fail
  refine (eqArrivalS_is _ _ (own_Arrivals (S8.out.row (rArrival xh nh nh (flatArrival vh)) (by simp))) (own_Arrivals (S8.out.row (rArrival t3 nh nh (flatArrival vh)) (by simp))) (Nat.le_trans HNh.out (by unfold maxLen; omega))).mono ?_
  rintro e w9 ⟨rfl, hb⟩
  have S9 := Lib.hid (S8.out.quiet hb)
  clear hb S8
  have S10 := Lib.hid (S9.out.sub (rows' := [ri xt nt nt (zt.map (.int .i64)), rArrival xh nh nh (flatArrival vh)]) (by simp))
  clear S9
  go_wp2_with fail
  refine (toI_ex At nt ct w.heap.size zt _ HLt.out HNt.out S10.out.low.size (IVt.out _ S10.out.low)).mono ?_
  rintro e w10 ⟨t4, rfl, hown, hb⟩
  have zt4 := hown.lt t4 rfl
  have dt4_xt : t4 ≠ xt := by have h1 := (S10.out.lt (r := ri xt nt nt (zt.map (.int .i64))) (by simp) (g := xt) rfl).2; have h2 := zt4.1; omega
  have dt4_xh : t4 ≠ xh := by have h1 := (S10.out.lt (r := rArrival xh nh nh (flatArrival vh)) (by simp) (g := xh) rfl).2; have h2 := zt4.1; omega
  have qt4 : w.heap.size ≤ t4 := Nat.le_trans S10.out.low.size zt4.1
  have S11 := Lib.hid ((S10.out.quiet hb).own (ri t4 nt nt (zt.map (.int .i64))) (own_low hown S10.out.low.size))
  clear hb hown zt4 S10
  go_wp2_with fail
  refine (eqI_same _ _ nt _ _ _ _ zt _ HLt.out (Nat.le_trans HNt.out (by unfold maxLen; omega)) (own_hasv (S11.out.row (ri xt nt nt (zt.map (.int .i64))) (by simp))) (own_hasv (S11.out.row (ri t4 nt nt (zt.map (.int .i64))) (by simp)))).mono ?_
  rintro e w11 ⟨rfl, hD⟩
  have S12 := Lib.hid (S11.out.drawn hD)
  clear hD S11
  have S13 := Lib.hid (S12.out.sub (rows' := [ri xt nt nt (zt.map (.int .i64)), rArrival xh nh nh (flatArrival vh)]) (by simp))
  clear S12
  go_wp2_with fail
  go_ret
  exact ⟨rfl, S13.out.low⟩
theorem own : ownKnob Try.prog.godebug = none := by kernel_rfl
theorem laidOut : laidOutB Try.prog = true := by kernel_rfl

set_option maxRecDepth 100000 in
theorem lifted (os : Os) (started : os.Started) (H : Type) (enc : TypeId × Value → H) :
    ReturnsInHanded {} Try.checked os 8 .any (Rows.fnExactGapOfSpec.pre6 enc Try.prog Try.f8 Rows.fnExactGapOfRow.domain false) (Rows.fnExactGapOfSpec.post enc Try.prog Try.f8 false true false false) := by
  refine returnsInHanded_of_change (C := Try.checked) own started (by kernel_rfl) Try.func8
    (ChangeSpec.witness6 (enc := enc) (C := Try.checked) false ⟨#[], #[.slice none 0 0, .bool false, .int .i64 0, .slice none 0 0], []⟩ 8 (by kernel_rfl) (by kernel_rfl) (by kernel_rfl) (by kernel_rfl)) ?_
  intro W base args ds gs before hval0 hW hcnd _
  have hval : ∀ (j : Nat) t v, Try.f8.params[j]? = some t → args[j]? = some v → Value.okWide Try.prog W .any base t v := hval0
  have hW' := hW
  obtain ⟨p, q, hA0, hV, rfl, hfz, hnd⟩ := hW
  have hA : DataW.TrodAll enc Try.prog W 0 (fun _ => true) true Try.f8.params.toList args.toList ds p := hA0
  rw [Try.params8] at hA hval
  obtain ⟨v0, vs0, d0, ds0, p0, q0, hargs, rfl, rfl, h0, r0⟩ := trodAll_cons hA
  obtain ⟨v1, vs1, d1, ds1, p1, q1, rfl, rfl, rfl, h1, r1⟩ := trodAll_cons r0
  obtain ⟨v2, vs2, d2, ds2, p2, q2, rfl, rfl, rfl, h2, r2⟩ := trodAll_cons r1
  obtain ⟨v3, vs3, d3, ds3, p3, q3, rfl, rfl, rfl, h3, r3⟩ := trodAll_cons r2
  obtain ⟨rfl, rfl, rfl⟩ := trodAll_nil r3
  obtain rfl : args = #[v0, v1, v2, v3] := by cases args; simp_all
  obtain ⟨rfl, rfl⟩ := trodVars_none hV
  have k0 := h0
  have lt0 : ∀ x ∈ p0, x.block < W.heap.size := by obtain ⟨m, hm⟩ := k0; exact DataW.trod_lt m _ _ _ hm
  obtain ⟨a0, len0, cap0, rfl⟩ := okWide_slice Try.underlying44 (hval 0 44 v0 rfl rfl)
  obtain ⟨z0, wl0, wm0, wh0⟩ : ∃ vs : List TArrival, vs.length = len0 ∧ len0 ≤ maxLen ∧ Has W W.heap.size a0 (flatArrival vs) := by
    obtain ⟨fuel, hf⟩ := h0
    obtain ⟨A, l, c, vs, hcs, h1, h2, h4⟩ := open_Arrivals Try.underlying44 Try.underlying86 (by kernel_rfl) (by kernel_rfl) Try.underlying3 Try.underlying4 Try.underlying3 Try.underlying3 hf
    simp [Value.cells] at hcs
    obtain ⟨rfl, rfl, rfl⟩ := hcs
    exact ⟨vs, h1, h2, h4⟩
  obtain ⟨a1, rfl, rfl, rfl⟩ := open_bool Try.underlying4 (hval 1 4 v1 rfl rfl) h1
  obtain ⟨a2, rfl, rfl, rfl, w2⟩ := open_int Try.underlying3 (hval 2 3 v2 rfl rfl) h2
  obtain ⟨a3, len3, cap3, rfl⟩ := okWide_slice Try.underlying30 (hval 3 30 v3 rfl rfl)
  have k3 := h3
  have lt3 : ∀ x ∈ p3, x.block < W.heap.size := by obtain ⟨m, hm⟩ := k3; exact DataW.trod_lt m _ _ _ hm
  obtain ⟨z3, w3⟩ : ∃ zs, IsInts .i64 W a3 len3 zs := by
    obtain ⟨fuel, hf⟩ := h3
    rcases open_ints Try.underlying30 Try.underlying3 (by kernel_rfl) hf with ⟨hcs, _⟩ | ⟨x, l, c, zs, hcs, _, hl, hm, hz, _, hcell, hwz⟩
    · simp [Value.cells] at hcs
      obtain ⟨rfl, rfl, rfl⟩ := hcs
      exact ⟨[], isInts_nil _ W⟩
    · simp [Value.cells] at hcs
      obtain ⟨rfl, rfl, rfl⟩ := hcs
      exact ⟨_, isInts_some hl hm (by simpa using hz) hcell hwz⟩
  clear hA0 hval0
  refine (walk a0 len0 cap0 z0 a1 a2 a3 len3 cap3 z3 W wl0 wm0 wh0 w2 w3).mono fun e W' ⟨he, bel⟩ => ?_
  subst he
  exact ⟨_, rfl, _, _, _, [], _, [], hW', trodAll_mk1 (shut_bool Try.underlying4 _), (trodAll_cons_mk (Below.trod laidOut (by kernel_rfl) (of_decide_eq_true (by kernel_rfl)) k0 bel lt0) (trodAll_cons_mk (shut_bool Try.underlying4 _) (trodAll_cons_mk (shut_int Try.underlying3 w2) (trodAll_cons_mk (Below.trod laidOut (by kernel_rfl) (of_decide_eq_true (by kernel_rfl)) k3 bel lt3) trodAll_mk0)))), rfl, bel.frame _, fun h => by cases h⟩

theorem over : Rows.fnExactGapOfRow.holds Try.pinned (OpenSpec.ofChange Rows.fnExactGapOfSpec) :=
  OpenClaim.holds_of_wide 8 Try.f8 rfl rfl rfl rfl rfl rfl rfl ⟨rfl, rfl, rfl, rfl, rfl⟩ rfl rfl rfl rfl rfl (by kernel_rfl) Try.func8 (by kernel_rfl)
    (of_decide_eq_true (by kernel_rfl)) (by unfold Func.isWrapper; first | (rw [if_pos (by decide +kernel)]; kernel_rfl) | (rw [if_neg (by decide +kernel)]; exact ⟨rfl, rfl⟩))
    (fun os started H enc _ => lifted os started H enc)

/-- The statement. -/
theorem proved : Rows.FnExactGapOfSaid := over
end Go.Proofs.Ytkdolpgnaabdaaa.fnExactGapOf
