/- SavedShare answers as its model does, at every list and order; it writes into no argument. -/
import Derived.Test.YtgnopkemcgbedaaPoJ
import Derived.Test.YtgnopkemcgbedaaIntX
import Derived.Test.YtgnopkemcgbedaaCur
import Derived.Test.YtgnopkemcgbedaaSt0
import Derived.OpenShut
import Derived.ShutString
import Derived.ChangeOld
import Derived.WalkLawsBesides
import Derived.Lib.SmallJoins
import Derived.Deep.RegionHeld3
namespace Go.Proofs.Ytgnopkemcgbedaa.fnExactSavedShare
open Go.ChangeShapes Go.WideShapes Go.ChangeAt Go.RowKit
open Go.ChangeMaps (open_string shut_string)
set_option linter.unusedVariables false
set_option linter.unusedSimpArgs false

abbrev rPool (g n c : Nat) (xs : List Value) : RowOf := ⟨35, 3, .slice (some ⟨g, 0, none⟩) n c, n, xs⟩
abbrev ri (g n c : Nat) (xs : List Value) : RowOf := ⟨3, 1, .slice (some ⟨g, 0, none⟩) n c, n, xs⟩

theorem own_is {w : World} {A2 : Option Addr} {n2 : Nat} {os : List Int} (l2 : os.length = n2) (h2 : Has w w.heap.size A2 (os.map (.int .i64))) : IsIs w w.heap.size A2 n2 os := ⟨l2, Nat.le_refl _, h2⟩

set_option maxRecDepth 100000 in
set_option maxHeartbeats 4000000 in
theorem walk (Ab : Option Addr) (nb cb : Nat) (vb : List TPool) (At : Option Addr) (nt ct : Nat) (zt : List Int) (w : World) (hnb : vb.length = nb) (hmb : nb ≤ maxLen) (hhb : Has w w.heap.size Ab (flatPool vb)) (hIt : IsInts .i64 w At nt zt)  :
    Calls Try.prog 13 #[.slice Ab nb cb, .slice At nt ct] w fun e w' => e = .returned (.bool true) ∧ Below w.heap.size w w' := by
  have HLt : Hid (zt.length = nt) := Lib.hid hIt.1
  have IVt := Lib.hid (fun W (hb : Below w.heap.size w W) => hIt.2.2.2.below hb)
  have hMt : nt ≤ 9223372036854775807 := Nat.le_trans hIt.2.1 (by unfold maxLen; omega)
  have ivb : IsPools w w.heap.size Ab nb vb := ⟨hnb, Nat.le_refl _, hhb⟩
  have IVb := Lib.hid (fun W (hb : Below w.heap.size w W) => ivb.below hb (Nat.le_refl _))
  have HMb := Lib.hid hmb
  obtain ⟨y, z, x, hA⟩ := shrA_ex vb zt
  have HA := Lib.hid hA
  have hyy : (y != y) = false := by simp
  have hzz : (z != z) = false := by simp
  have hxx : (x != x) = false := by simp
  clear hA
  clear hnb hhb ivb
  clear hIt
  go_enter Try.func13, Try.ntmps13
  have S0 := Lib.hid (St.start w)
  by_cases bigt : 1048576 < nt
  · go_wp2_with fail
    go_ret
    exact ⟨rfl, S0.out.low⟩
  have HNt : Hid (nt ≤ 1048576) := Lib.hid (by omega)
  obtain ⟨leftb, l0b, l1b, lfb, szb⟩ := szPoolS_is Ab nb cb 1048576 HMb.out (by omega) (by omega)
  have SZb := Lib.hid szb
  clear szb
  go_wp2_with fail
  refine (SZb.out _).mono ?_
  rintro e w1 ⟨rfl, rfl⟩
  clear SZb
  by_cases negb : leftb < 0
  · go_wp2_with fail
    go_ret
    exact ⟨rfl, S0.out.low⟩
  have HNb : Hid (nb ≤ 1048576) := Lib.hid (by have := lfb (by omega); omega)
  go_wp2_with fail
  refine (toPoolS_is cb (IVb.out _ S0.out.low) HNb.out).mono ?_
  rintro e w2 ⟨t1, rfl, hown, -, hb⟩
  have zt1 := hown.lt t1 rfl
  have qt1 : w.heap.size ≤ t1 := Nat.le_trans S0.out.low.size zt1.1
  have S1 := Lib.hid ((S0.out.quiet hb).own (rPool t1 nb nb (flatPool vb)) (own_low hown S0.out.low.size))
  clear hb hown zt1 S0
  go_wp2_with fail
  refine (toI_ex At nt ct w.heap.size zt _ HLt.out HNt.out S1.out.low.size (IVt.out _ S1.out.low)).mono ?_
  rintro e w3 ⟨t2, rfl, hown, hb⟩
  have zt2 := hown.lt t2 rfl
  have dt2_t1 : t2 ≠ t1 := by have h1 := (S1.out.lt (r := rPool t1 nb nb (flatPool vb)) (by simp) (g := t1) rfl).2; have h2 := zt2.1; omega
  have qt2 : w.heap.size ≤ t2 := Nat.le_trans S1.out.low.size zt2.1
  have S2 := Lib.hid ((S1.out.quiet hb).own (ri t2 nt nt (zt.map (.int .i64))) (own_low hown S1.out.low.size))
  clear hb hown zt2 S1
  go_wp2_with fail
  refine (shareS_any _ _ (own_Pools (S2.out.row (rPool t1 nb nb (flatPool vb)) (by simp))) HNb.out (own_is HLt.out (own_hasv (S2.out.row (ri t2 nt nt (zt.map (.int .i64))) (by simp)))) HNt.out (Nat.le_refl _) y z x HA.out).mono ?_
  rintro e w4 ⟨rfl, hb⟩
  have S3 := Lib.hid (S2.out.quiet hb)
  clear hb S2
  have S4 := Lib.hid (S3.out.sub (rows' := []) (by simp))
  clear S3
  go_wp2_with fail
  refine (toPoolS_is cb (IVb.out _ S4.out.low) HNb.out).mono ?_
  rintro e w5 ⟨xb, rfl, hown, -, hb⟩
  have zxb := hown.lt xb rfl
  have qxb : w.heap.size ≤ xb := Nat.le_trans S4.out.low.size zxb.1
  have S5 := Lib.hid ((S4.out.quiet hb).own (rPool xb nb nb (flatPool vb)) (own_low hown S4.out.low.size))
  clear hb hown zxb S4
  go_wp2_with fail
  refine (toI_ex At nt ct w.heap.size zt _ HLt.out HNt.out S5.out.low.size (IVt.out _ S5.out.low)).mono ?_
  rintro e w6 ⟨xt, rfl, hown, hb⟩
  have zxt := hown.lt xt rfl
  have dxt_xb : xt ≠ xb := by have h1 := (S5.out.lt (r := rPool xb nb nb (flatPool vb)) (by simp) (g := xb) rfl).2; have h2 := zxt.1; omega
  have qxt : w.heap.size ≤ xt := Nat.le_trans S5.out.low.size zxt.1
  have S6 := Lib.hid ((S5.out.quiet hb).own (ri xt nt nt (zt.map (.int .i64))) (own_low hown S5.out.low.size))
  clear hb hown zxt S5
  go_wp2_with fail
  refine (shareI_any _ _ (own_Pools (S6.out.row (rPool xb nb nb (flatPool vb)) (by simp))) HNb.out (own_is HLt.out (own_hasv (S6.out.row (ri xt nt nt (zt.map (.int .i64))) (by simp)))) HNt.out (Nat.le_refl _) y z x HA.out).mono ?_
  rintro e w7 ⟨rfl, hb⟩
  have S7 := Lib.hid (S6.out.quiet hb)
  clear hb S6
  go_wp2_with fail
  refine (toPoolS_is cb (IVb.out _ S7.out.low) HNb.out).mono ?_
  rintro e w8 ⟨t3, rfl, hown, -, hb⟩
  have zt3 := hown.lt t3 rfl
  have dt3_xt : t3 ≠ xt := by have h1 := (S7.out.lt (r := ri xt nt nt (zt.map (.int .i64))) (by simp) (g := xt) rfl).2; have h2 := zt3.1; omega
  have dt3_xb : t3 ≠ xb := by have h1 := (S7.out.lt (r := rPool xb nb nb (flatPool vb)) (by simp) (g := xb) rfl).2; have h2 := zt3.1; omega
  have qt3 : w.heap.size ≤ t3 := Nat.le_trans S7.out.low.size zt3.1
  have S8 := Lib.hid ((S7.out.quiet hb).own (rPool t3 nb nb (flatPool vb)) (own_low hown S7.out.low.size))
  clear hb hown zt3 S7
  go_wp2_with fail
  refine (eqPoolS_is _ _ (own_Pools (S8.out.row (rPool xb nb nb (flatPool vb)) (by simp))) (own_Pools (S8.out.row (rPool t3 nb nb (flatPool vb)) (by simp))) (Nat.le_trans HNb.out (by unfold maxLen; omega))).mono ?_
  rintro e w9 ⟨rfl, hb⟩
  have S9 := Lib.hid (S8.out.quiet hb)
  clear hb S8
  have S10 := Lib.hid (S9.out.sub (rows' := [ri xt nt nt (zt.map (.int .i64)), rPool xb nb nb (flatPool vb)]) (by simp))
  clear S9
  go_wp2_with fail
  refine (toI_ex At nt ct w.heap.size zt _ HLt.out HNt.out S10.out.low.size (IVt.out _ S10.out.low)).mono ?_
  rintro e w10 ⟨t4, rfl, hown, hb⟩
  have zt4 := hown.lt t4 rfl
  have dt4_xt : t4 ≠ xt := by have h1 := (S10.out.lt (r := ri xt nt nt (zt.map (.int .i64))) (by simp) (g := xt) rfl).2; have h2 := zt4.1; omega
  have dt4_xb : t4 ≠ xb := by have h1 := (S10.out.lt (r := rPool xb nb nb (flatPool vb)) (by simp) (g := xb) rfl).2; have h2 := zt4.1; omega
  have qt4 : w.heap.size ≤ t4 := Nat.le_trans S10.out.low.size zt4.1
  have S11 := Lib.hid ((S10.out.quiet hb).own (ri t4 nt nt (zt.map (.int .i64))) (own_low hown S10.out.low.size))
  clear hb hown zt4 S10
  go_wp2_with fail
  refine (eqI_same _ _ nt _ _ _ _ zt _ HLt.out (Nat.le_trans HNt.out (by unfold maxLen; omega)) (own_hasv (S11.out.row (ri xt nt nt (zt.map (.int .i64))) (by simp))) (own_hasv (S11.out.row (ri t4 nt nt (zt.map (.int .i64))) (by simp)))).mono ?_
  rintro e w11 ⟨rfl, hD⟩
  have S12 := Lib.hid (S11.out.drawn hD)
  clear hD S11
  have S13 := Lib.hid (S12.out.sub (rows' := [ri xt nt nt (zt.map (.int .i64)), rPool xb nb nb (flatPool vb)]) (by simp))
  clear S12
  go_wp2_with fail
  go_ret
  exact ⟨rfl, S13.out.low⟩
theorem own : ownKnob Try.prog.godebug = none := by kernel_rfl
theorem laidOut : laidOutB Try.prog = true := by kernel_rfl

set_option maxRecDepth 100000 in
theorem lifted (os : Os) (started : os.Started) (H : Type) (enc : TypeId × Value → H) :
    ReturnsInHanded {} Try.checked os 13 .any (Rows.fnExactSavedShareSpec.pre6 enc Try.prog Try.f13 Rows.fnExactSavedShareRow.domain false) (Rows.fnExactSavedShareSpec.post enc Try.prog Try.f13 false true false false) := by
  refine returnsInHanded_of_change (C := Try.checked) own started (by kernel_rfl) Try.func13
    (ChangeSpec.witness6 (enc := enc) (C := Try.checked) false ⟨#[], #[.slice none 0 0, .slice none 0 0], []⟩ 8 (by kernel_rfl) (by kernel_rfl) (by kernel_rfl) (by kernel_rfl)) ?_
  intro W base args ds gs before hval0 hW hcnd _
  have hval : ∀ (j : Nat) t v, Try.f13.params[j]? = some t → args[j]? = some v → Value.okWide Try.prog W .any base t v := hval0
  have hW' := hW
  obtain ⟨p, q, hA0, hV, rfl, hfz, hnd⟩ := hW
  have hA : DataW.TrodAll enc Try.prog W 0 (fun _ => true) true Try.f13.params.toList args.toList ds p := hA0
  rw [Try.params13] at hA hval
  obtain ⟨v0, vs0, d0, ds0, p0, q0, hargs, rfl, rfl, h0, r0⟩ := trodAll_cons hA
  obtain ⟨v1, vs1, d1, ds1, p1, q1, rfl, rfl, rfl, h1, r1⟩ := trodAll_cons r0
  obtain ⟨rfl, rfl, rfl⟩ := trodAll_nil r1
  obtain rfl : args = #[v0, v1] := by cases args; simp_all
  obtain ⟨rfl, rfl⟩ := trodVars_none hV
  have k0 := h0
  have lt0 : ∀ x ∈ p0, x.block < W.heap.size := by obtain ⟨m, hm⟩ := k0; exact DataW.trod_lt m _ _ _ hm
  obtain ⟨a0, len0, cap0, rfl⟩ := okWide_slice Try.underlying54 (hval 0 54 v0 rfl rfl)
  obtain ⟨z0, wl0, wm0, wh0⟩ : ∃ vs : List TPool, vs.length = len0 ∧ len0 ≤ maxLen ∧ Has W W.heap.size a0 (flatPool vs) := by
    obtain ⟨fuel, hf⟩ := h0
    obtain ⟨A, l, c, vs, hcs, h1, h2, h4⟩ := open_Pools Try.underlying54 Try.underlying51 (by kernel_rfl) (by kernel_rfl) Try.underlying3 Try.underlying3 Try.underlying3 hf
    simp [Value.cells] at hcs
    obtain ⟨rfl, rfl, rfl⟩ := hcs
    exact ⟨vs, h1, h2, h4⟩
  obtain ⟨a1, len1, cap1, rfl⟩ := okWide_slice Try.underlying43 (hval 1 43 v1 rfl rfl)
  have k1 := h1
  have lt1 : ∀ x ∈ p1, x.block < W.heap.size := by obtain ⟨m, hm⟩ := k1; exact DataW.trod_lt m _ _ _ hm
  obtain ⟨z1, w1⟩ : ∃ zs, IsInts .i64 W a1 len1 zs := by
    obtain ⟨fuel, hf⟩ := h1
    rcases open_ints Try.underlying43 Try.underlying3 (by kernel_rfl) hf with ⟨hcs, _⟩ | ⟨x, l, c, zs, hcs, _, hl, hm, hz, _, hcell, hwz⟩
    · simp [Value.cells] at hcs
      obtain ⟨rfl, rfl, rfl⟩ := hcs
      exact ⟨[], isInts_nil _ W⟩
    · simp [Value.cells] at hcs
      obtain ⟨rfl, rfl, rfl⟩ := hcs
      exact ⟨_, isInts_some hl hm (by simpa using hz) hcell hwz⟩
  clear hA0 hval0
  refine (walk a0 len0 cap0 z0 a1 len1 cap1 z1 W wl0 wm0 wh0 w1).mono fun e W' ⟨he, bel⟩ => ?_
  subst he
  exact ⟨_, rfl, _, _, _, [], _, [], hW', trodAll_mk1 (shut_bool Try.underlying4 _), (trodAll_cons_mk (Below.trod laidOut (by kernel_rfl) (of_decide_eq_true (by kernel_rfl)) k0 bel lt0) (trodAll_cons_mk (Below.trod laidOut (by kernel_rfl) (of_decide_eq_true (by kernel_rfl)) k1 bel lt1) trodAll_mk0)), rfl, bel.frame _, fun h => by cases h⟩

theorem over : Rows.fnExactSavedShareRow.holds Try.pinned (OpenSpec.ofChange Rows.fnExactSavedShareSpec) :=
  OpenClaim.holds_of_wide 13 Try.f13 rfl rfl rfl rfl rfl rfl rfl ⟨rfl, rfl, rfl, rfl, rfl⟩ rfl rfl rfl rfl rfl (by kernel_rfl) Try.func13 (by kernel_rfl)
    (of_decide_eq_true (by kernel_rfl)) (by unfold Func.isWrapper; first | (rw [if_pos (by decide +kernel)]; kernel_rfl) | (rw [if_neg (by decide +kernel)]; exact ⟨rfl, rfl⟩))
    (fun os started H enc _ => lifted os started H enc)

/-- The statement. -/
theorem proved : Rows.FnExactSavedShareSaid := over
end Go.Proofs.Ytgnopkemcgbedaa.fnExactSavedShare
