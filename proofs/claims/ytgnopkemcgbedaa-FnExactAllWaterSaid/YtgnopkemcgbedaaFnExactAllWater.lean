/- AllWater answers as its model does, at every list; it writes into no argument. -/
import Derived.Test.YtgnopkemcgbedaaPoJ
import Derived.Test.YtgnopkemcgbedaaSt0
import Derived.OpenShut
import Derived.ShutString
import Derived.ChangeOld
import Derived.WalkLawsBesides
import Derived.Lib.SmallJoins
import Derived.Deep.RegionHeld3
namespace Go.Proofs.Ytgnopkemcgbedaa.fnExactAllWater
open Go.ChangeShapes Go.WideShapes Go.ChangeAt Go.RowKit
open Go.ChangeMaps (open_string shut_string)
set_option linter.unusedVariables false
set_option linter.unusedSimpArgs false

abbrev rPool (g n c : Nat) (xs : List Value) : RowOf := ⟨35, 3, .slice (some ⟨g, 0, none⟩) n c, n, xs⟩
abbrev ri (g n c : Nat) (xs : List Value) : RowOf := ⟨3, 1, .slice (some ⟨g, 0, none⟩) n c, n, xs⟩

set_option maxRecDepth 100000 in
set_option maxHeartbeats 4000000 in
theorem walk (Ab : Option Addr) (nb cb : Nat) (vb : List TPool) (w : World) (hnb : vb.length = nb) (hmb : nb ≤ maxLen) (hhb : Has w w.heap.size Ab (flatPool vb))  :
    Calls Try.prog 14 #[.slice Ab nb cb] w fun e w' => e = .returned (.bool true) ∧ Below w.heap.size w w' := by
  have ivb : IsPools w w.heap.size Ab nb vb := ⟨hnb, Nat.le_refl _, hhb⟩
  have IVb := Lib.hid (fun W (hb : Below w.heap.size w W) => ivb.below hb (Nat.le_refl _))
  have HMb := Lib.hid hmb
  obtain ⟨z, x, hA⟩ := allA_ex vb
  have HA := Lib.hid hA
  have hzz : (z != z) = false := by simp
  have hxx : (x != x) = false := by simp
  clear hA
  clear hnb hhb ivb
  go_enter Try.func14, Try.ntmps14
  have S0 := Lib.hid (St.start w)
  obtain ⟨leftb, l0b, l1b, lfb, szb⟩ := szPoolS_is Ab nb cb 1048576 HMb.out (by omega) (by omega)
  have SZb := Lib.hid szb
  clear szb
  go_wp2_with fail
  refine (SZb.out _).mono ?_
  rintro e w1 ⟨rfl, rfl⟩
  clear SZb
  by_cases negb : leftb < 0
  · go_wp2_with fail
    go_ret
    exact ⟨rfl, S0.out.low⟩
  have HNb : Hid (nb ≤ 1048576) := Lib.hid (by have := lfb (by omega); omega)
  go_wp2_with fail
  refine (toPoolS_is cb (IVb.out _ S0.out.low) HNb.out).mono ?_
  rintro e w2 ⟨t1, rfl, hown, -, hb⟩
  have zt1 := hown.lt t1 rfl
  have qt1 : w.heap.size ≤ t1 := Nat.le_trans S0.out.low.size zt1.1
  have S1 := Lib.hid ((S0.out.quiet hb).own (rPool t1 nb nb (flatPool vb)) (own_low hown S0.out.low.size))
  clear hb hown zt1 S0
  go_wp2_with fail
  refine (allS_any _ (own_Pools (S1.out.row (rPool t1 nb nb (flatPool vb)) (by simp))) HNb.out z x HA.out).mono ?_
  rintro e w3 ⟨rfl, hb⟩
  have S2 := Lib.hid (S1.out.quiet hb)
  clear hb S1
  have S3 := Lib.hid (S2.out.sub (rows' := []) (by simp))
  clear S2
  go_wp2_with fail
  refine (toPoolS_is cb (IVb.out _ S3.out.low) HNb.out).mono ?_
  rintro e w4 ⟨xb, rfl, hown, -, hb⟩
  have zxb := hown.lt xb rfl
  have qxb : w.heap.size ≤ xb := Nat.le_trans S3.out.low.size zxb.1
  have S4 := Lib.hid ((S3.out.quiet hb).own (rPool xb nb nb (flatPool vb)) (own_low hown S3.out.low.size))
  clear hb hown zxb S3
  go_wp2_with fail
  refine (allI_any _ (own_Pools (S4.out.row (rPool xb nb nb (flatPool vb)) (by simp))) HNb.out z x HA.out).mono ?_
  rintro e w5 ⟨rfl, hb⟩
  have S5 := Lib.hid (S4.out.quiet hb)
  clear hb S4
  go_wp2_with fail
  refine (toPoolS_is cb (IVb.out _ S5.out.low) HNb.out).mono ?_
  rintro e w6 ⟨t2, rfl, hown, -, hb⟩
  have zt2 := hown.lt t2 rfl
  have dt2_xb : t2 ≠ xb := by have h1 := (S5.out.lt (r := rPool xb nb nb (flatPool vb)) (by simp) (g := xb) rfl).2; have h2 := zt2.1; omega
  have qt2 : w.heap.size ≤ t2 := Nat.le_trans S5.out.low.size zt2.1
  have S6 := Lib.hid ((S5.out.quiet hb).own (rPool t2 nb nb (flatPool vb)) (own_low hown S5.out.low.size))
  clear hb hown zt2 S5
  go_wp2_with fail
  refine (eqPoolS_is _ _ (own_Pools (S6.out.row (rPool xb nb nb (flatPool vb)) (by simp))) (own_Pools (S6.out.row (rPool t2 nb nb (flatPool vb)) (by simp))) (Nat.le_trans HNb.out (by unfold maxLen; omega))).mono ?_
  rintro e w7 ⟨rfl, hb⟩
  have S7 := Lib.hid (S6.out.quiet hb)
  clear hb S6
  have S8 := Lib.hid (S7.out.sub (rows' := [rPool xb nb nb (flatPool vb)]) (by simp))
  clear S7
  go_wp2_with fail
  go_ret
  exact ⟨rfl, S8.out.low⟩
theorem own : ownKnob Try.prog.godebug = none := by kernel_rfl
theorem laidOut : laidOutB Try.prog = true := by kernel_rfl

set_option maxRecDepth 100000 in
theorem lifted (os : Os) (started : os.Started) (H : Type) (enc : TypeId × Value → H) :
    ReturnsInHanded {} Try.checked os 14 .any (Rows.fnExactAllWaterSpec.pre6 enc Try.prog Try.f14 Rows.fnExactAllWaterRow.domain false) (Rows.fnExactAllWaterSpec.post enc Try.prog Try.f14 false true false false) := by
  refine returnsInHanded_of_change (C := Try.checked) own started (by kernel_rfl) Try.func14
    (ChangeSpec.witness6 (enc := enc) (C := Try.checked) false ⟨#[], #[.slice none 0 0], []⟩ 8 (by kernel_rfl) (by kernel_rfl) (by kernel_rfl) (by kernel_rfl)) ?_
  intro W base args ds gs before hval0 hW hcnd _
  have hval : ∀ (j : Nat) t v, Try.f14.params[j]? = some t → args[j]? = some v → Value.okWide Try.prog W .any base t v := hval0
  have hW' := hW
  obtain ⟨p, q, hA0, hV, rfl, hfz, hnd⟩ := hW
  have hA : DataW.TrodAll enc Try.prog W 0 (fun _ => true) true Try.f14.params.toList args.toList ds p := hA0
  rw [Try.params14] at hA hval
  obtain ⟨v0, vs0, d0, ds0, p0, q0, hargs, rfl, rfl, h0, r0⟩ := trodAll_cons hA
  obtain ⟨rfl, rfl, rfl⟩ := trodAll_nil r0
  obtain rfl : args = #[v0] := by cases args; simp_all
  obtain ⟨rfl, rfl⟩ := trodVars_none hV
  have k0 := h0
  have lt0 : ∀ x ∈ p0, x.block < W.heap.size := by obtain ⟨m, hm⟩ := k0; exact DataW.trod_lt m _ _ _ hm
  obtain ⟨a0, len0, cap0, rfl⟩ := okWide_slice Try.underlying54 (hval 0 54 v0 rfl rfl)
  obtain ⟨z0, wl0, wm0, wh0⟩ : ∃ vs : List TPool, vs.length = len0 ∧ len0 ≤ maxLen ∧ Has W W.heap.size a0 (flatPool vs) := by
    obtain ⟨fuel, hf⟩ := h0
    obtain ⟨A, l, c, vs, hcs, h1, h2, h4⟩ := open_Pools Try.underlying54 Try.underlying51 (by kernel_rfl) (by kernel_rfl) Try.underlying3 Try.underlying3 Try.underlying3 hf
    simp [Value.cells] at hcs
    obtain ⟨rfl, rfl, rfl⟩ := hcs
    exact ⟨vs, h1, h2, h4⟩
  clear hA0 hval0
  refine (walk a0 len0 cap0 z0 W wl0 wm0 wh0).mono fun e W' ⟨he, bel⟩ => ?_
  subst he
  exact ⟨_, rfl, _, _, _, [], _, [], hW', trodAll_mk1 (shut_bool Try.underlying4 _), (trodAll_cons_mk (Below.trod laidOut (by kernel_rfl) (of_decide_eq_true (by kernel_rfl)) k0 bel lt0) trodAll_mk0), rfl, bel.frame _, fun h => by cases h⟩

theorem over : Rows.fnExactAllWaterRow.holds Try.pinned (OpenSpec.ofChange Rows.fnExactAllWaterSpec) :=
  OpenClaim.holds_of_wide 14 Try.f14 rfl rfl rfl rfl rfl rfl rfl ⟨rfl, rfl, rfl, rfl, rfl⟩ rfl rfl rfl rfl rfl (by kernel_rfl) Try.func14 (by kernel_rfl)
    (of_decide_eq_true (by kernel_rfl)) (by unfold Func.isWrapper; first | (rw [if_pos (by decide +kernel)]; kernel_rfl) | (rw [if_neg (by decide +kernel)]; exact ⟨rfl, rfl⟩))
    (fun os started H enc _ => lifted os started H enc)

/-- The statement. -/
theorem proved : Rows.FnExactAllWaterSaid := over
end Go.Proofs.Ytgnopkemcgbedaa.fnExactAllWater
