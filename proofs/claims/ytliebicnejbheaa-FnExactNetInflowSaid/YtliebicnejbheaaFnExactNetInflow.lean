/- NetInflow answers as its model does, at every list of Basins and of Flows; it writes into no argument. -/
import Derived.Test.YtliebicnejbheaaWaE
import Derived.Test.YtliebicnejbheaaSt0
import Derived.OpenShut
import Derived.ShutString
import Derived.ChangeOld
import Derived.WalkLawsBesides
import Derived.Lib.SmallJoins
import Derived.Deep.RegionHeld3
namespace Go.Proofs.Ytliebicnejbheaa.fnExactNetInflow
open Go.ChangeShapes Go.WideShapes Go.ChangeAt Go.RowKit
open Go.ChangeMaps (open_string shut_string)
set_option linter.unusedVariables false
set_option linter.unusedSimpArgs false

abbrev rBasin (g n c : Nat) (xs : List Value) : RowOf := ⟨53, 3, .slice (some ⟨g, 0, none⟩) n c, n, xs⟩
abbrev rFlow (g n c : Nat) (xs : List Value) : RowOf := ⟨38, 3, .slice (some ⟨g, 0, none⟩) n c, n, xs⟩
abbrev ri (g n c : Nat) (xs : List Value) : RowOf := ⟨3, 1, .slice (some ⟨g, 0, none⟩) n c, n, xs⟩

set_option maxRecDepth 100000 in
set_option maxHeartbeats 4000000 in
theorem walk (Ab : Option Addr) (nb cb : Nat) (vb : List TBasin) (Af : Option Addr) (nf cf : Nat) (vf : List TFlow) (w : World) (hnb : vb.length = nb) (hmb : nb ≤ maxLen) (hhb : Has w w.heap.size Ab (flatBasin vb)) (hnf : vf.length = nf) (hmf : nf ≤ maxLen) (hhf : Has w w.heap.size Af (flatFlow vf))  :
    Calls Try.prog 10 #[.slice Ab nb cb, .slice Af nf cf] w fun e w' => e = .returned (.bool true) ∧ Below w.heap.size w w' := by
  have ivb : IsBasins w w.heap.size Ab nb vb := ⟨hnb, Nat.le_refl _, hhb⟩
  have IVb := Lib.hid (fun W (hb : Below w.heap.size w W) => ivb.below hb (Nat.le_refl _))
  have HMb := Lib.hid hmb
  have ivf : IsFlows w w.heap.size Af nf vf := ⟨hnf, Nat.le_refl _, hhf⟩
  have IVf := Lib.hid (fun W (hb : Below w.heap.size w W) => ivf.below hb (Nat.le_refl _))
  have HMf := Lib.hid hmf
  obtain ⟨z, x, hA⟩ := netA_ex vb vf
  have HA := Lib.hid hA
  have hzz : (z != z) = false := by simp
  have hxx : (x != x) = false := by simp
  clear hA
  clear hnb hhb ivb hnf hhf ivf
  go_enter Try.func10, Try.ntmps10
  have S0 := Lib.hid (St.start w)
  obtain ⟨leftb, l0b, l1b, lfb, szb⟩ := szBasinS_is Ab nb cb 1048576 HMb.out (by omega) (by omega)
  have SZb := Lib.hid szb
  clear szb
  go_wp2_with fail
  refine (SZb.out _).mono ?_
  rintro e w1 ⟨rfl, rfl⟩
  clear SZb
  by_cases negb : leftb < 0
  · go_wp2_with fail
    go_ret
    exact ⟨rfl, S0.out.low⟩
  obtain ⟨leftf, l0f, l1f, lff, szf⟩ := szFlowS_is Af nf cf leftb HMf.out (by omega) (by omega)
  have SZf := Lib.hid szf
  clear szf
  go_wp2_with fail
  refine (SZf.out _).mono ?_
  rintro e w2 ⟨rfl, rfl⟩
  clear SZf
  by_cases negf : leftf < 0
  · go_wp2_with fail
    go_ret
    exact ⟨rfl, S0.out.low⟩
  have HNb : Hid (nb ≤ 1048576) := Lib.hid (by have := lfb (by omega); omega)
  have HNf : Hid (nf ≤ 1048576) := Lib.hid (by have := lff (by omega); omega)
  go_wp2_with fail
  refine (toBasinS_is cb (IVb.out _ S0.out.low) HNb.out).mono ?_
  rintro e w3 ⟨t1, rfl, hown, -, hb⟩
  have zt1 := hown.lt t1 rfl
  have qt1 : w.heap.size ≤ t1 := Nat.le_trans S0.out.low.size zt1.1
  have S1 := Lib.hid ((S0.out.quiet hb).own (rBasin t1 nb nb (flatBasin vb)) (own_low hown S0.out.low.size))
  clear hb hown zt1 S0
  go_wp2_with fail
  refine (toFlowS_is cf (IVf.out _ S1.out.low) HNf.out).mono ?_
  rintro e w4 ⟨t2, rfl, hown, -, hb⟩
  have zt2 := hown.lt t2 rfl
  have dt2_t1 : t2 ≠ t1 := by have h1 := (S1.out.lt (r := rBasin t1 nb nb (flatBasin vb)) (by simp) (g := t1) rfl).2; have h2 := zt2.1; omega
  have qt2 : w.heap.size ≤ t2 := Nat.le_trans S1.out.low.size zt2.1
  have S2 := Lib.hid ((S1.out.quiet hb).own (rFlow t2 nf nf (flatFlow vf)) (own_low hown S1.out.low.size))
  clear hb hown zt2 S1
  go_wp2_with fail
  refine (netS_any _ _ (own_Basins (S2.out.row (rBasin t1 nb nb (flatBasin vb)) (by simp))) HNb.out (own_Flows (S2.out.row (rFlow t2 nf nf (flatFlow vf)) (by simp))) HNf.out z x HA.out).mono ?_
  rintro e w5 ⟨rfl, hb⟩
  have S3 := Lib.hid (S2.out.quiet hb)
  clear hb S2
  have S4 := Lib.hid (S3.out.sub (rows' := []) (by simp))
  clear S3
  go_wp2_with fail
  refine (toBasinS_is cb (IVb.out _ S4.out.low) HNb.out).mono ?_
  rintro e w6 ⟨xb, rfl, hown, -, hb⟩
  have zxb := hown.lt xb rfl
  have qxb : w.heap.size ≤ xb := Nat.le_trans S4.out.low.size zxb.1
  have S5 := Lib.hid ((S4.out.quiet hb).own (rBasin xb nb nb (flatBasin vb)) (own_low hown S4.out.low.size))
  clear hb hown zxb S4
  go_wp2_with fail
  refine (toFlowS_is cf (IVf.out _ S5.out.low) HNf.out).mono ?_
  rintro e w7 ⟨xf, rfl, hown, -, hb⟩
  have zxf := hown.lt xf rfl
  have dxf_xb : xf ≠ xb := by have h1 := (S5.out.lt (r := rBasin xb nb nb (flatBasin vb)) (by simp) (g := xb) rfl).2; have h2 := zxf.1; omega
  have qxf : w.heap.size ≤ xf := Nat.le_trans S5.out.low.size zxf.1
  have S6 := Lib.hid ((S5.out.quiet hb).own (rFlow xf nf nf (flatFlow vf)) (own_low hown S5.out.low.size))
  clear hb hown zxf S5
  go_wp2_with fail
  refine (netI_any _ _ (own_Basins (S6.out.row (rBasin xb nb nb (flatBasin vb)) (by simp))) HNb.out (own_Flows (S6.out.row (rFlow xf nf nf (flatFlow vf)) (by simp))) HNf.out z x HA.out).mono ?_
  rintro e w8 ⟨rfl, hb⟩
  have S7 := Lib.hid (S6.out.quiet hb)
  clear hb S6
  go_wp2_with fail
  refine (toBasinS_is cb (IVb.out _ S7.out.low) HNb.out).mono ?_
  rintro e w9 ⟨t3, rfl, hown, -, hb⟩
  have zt3 := hown.lt t3 rfl
  have dt3_xf : t3 ≠ xf := by have h1 := (S7.out.lt (r := rFlow xf nf nf (flatFlow vf)) (by simp) (g := xf) rfl).2; have h2 := zt3.1; omega
  have dt3_xb : t3 ≠ xb := by have h1 := (S7.out.lt (r := rBasin xb nb nb (flatBasin vb)) (by simp) (g := xb) rfl).2; have h2 := zt3.1; omega
  have qt3 : w.heap.size ≤ t3 := Nat.le_trans S7.out.low.size zt3.1
  have S8 := Lib.hid ((S7.out.quiet hb).own (rBasin t3 nb nb (flatBasin vb)) (own_low hown S7.out.low.size))
  clear hb hown zt3 S7
  go_wp2_with fail
  refine (eqBasinS_is _ _ (own_Basins (S8.out.row (rBasin xb nb nb (flatBasin vb)) (by simp))) (own_Basins (S8.out.row (rBasin t3 nb nb (flatBasin vb)) (by simp))) (Nat.le_trans HNb.out (by unfold maxLen; omega))).mono ?_
  rintro e w10 ⟨rfl, hb⟩
  have S9 := Lib.hid (S8.out.quiet hb)
  clear hb S8
  have S10 := Lib.hid (S9.out.sub (rows' := [rFlow xf nf nf (flatFlow vf), rBasin xb nb nb (flatBasin vb)]) (by simp))
  clear S9
  go_wp2_with fail
  refine (toFlowS_is cf (IVf.out _ S10.out.low) HNf.out).mono ?_
  rintro e w11 ⟨t4, rfl, hown, -, hb⟩
  have zt4 := hown.lt t4 rfl
  have dt4_xf : t4 ≠ xf := by have h1 := (S10.out.lt (r := rFlow xf nf nf (flatFlow vf)) (by simp) (g := xf) rfl).2; have h2 := zt4.1; omega
  have dt4_xb : t4 ≠ xb := by have h1 := (S10.out.lt (r := rBasin xb nb nb (flatBasin vb)) (by simp) (g := xb) rfl).2; have h2 := zt4.1; omega
  have qt4 : w.heap.size ≤ t4 := Nat.le_trans S10.out.low.size zt4.1
  have S11 := Lib.hid ((S10.out.quiet hb).own (rFlow t4 nf nf (flatFlow vf)) (own_low hown S10.out.low.size))
  clear hb hown zt4 S10
  go_wp2_with fail
  refine (eqFlowS_is _ _ (own_Flows (S11.out.row (rFlow xf nf nf (flatFlow vf)) (by simp))) (own_Flows (S11.out.row (rFlow t4 nf nf (flatFlow vf)) (by simp))) (Nat.le_trans HNf.out (by unfold maxLen; omega))).mono ?_
  rintro e w12 ⟨rfl, hb⟩
  have S12 := Lib.hid (S11.out.quiet hb)
  clear hb S11
  have S13 := Lib.hid (S12.out.sub (rows' := [rFlow xf nf nf (flatFlow vf), rBasin xb nb nb (flatBasin vb)]) (by simp))
  clear S12
  go_wp2_with fail
  go_ret
  exact ⟨rfl, S13.out.low⟩
theorem own : ownKnob Try.prog.godebug = none := by kernel_rfl
theorem laidOut : laidOutB Try.prog = true := by kernel_rfl

set_option maxRecDepth 100000 in
theorem lifted (os : Os) (started : os.Started) (H : Type) (enc : TypeId × Value → H) :
    ReturnsInHanded {} Try.checked os 10 .any (Rows.fnExactNetInflowSpec.pre6 enc Try.prog Try.f10 Rows.fnExactNetInflowRow.domain false) (Rows.fnExactNetInflowSpec.post enc Try.prog Try.f10 false true false false) := by
  refine returnsInHanded_of_change (C := Try.checked) own started (by kernel_rfl) Try.func10
    (ChangeSpec.witness6 (enc := enc) (C := Try.checked) false ⟨#[], #[.slice none 0 0, .slice none 0 0], []⟩ 8 (by kernel_rfl) (by kernel_rfl) (by kernel_rfl) (by kernel_rfl)) ?_
  intro W base args ds gs before hval0 hW hcnd _
  have hval : ∀ (j : Nat) t v, Try.f10.params[j]? = some t → args[j]? = some v → Value.okWide Try.prog W .any base t v := hval0
  have hW' := hW
  obtain ⟨p, q, hA0, hV, rfl, hfz, hnd⟩ := hW
  have hA : DataW.TrodAll enc Try.prog W 0 (fun _ => true) true Try.f10.params.toList args.toList ds p := hA0
  rw [Try.params10] at hA hval
  obtain ⟨v0, vs0, d0, ds0, p0, q0, hargs, rfl, rfl, h0, r0⟩ := trodAll_cons hA
  obtain ⟨v1, vs1, d1, ds1, p1, q1, rfl, rfl, rfl, h1, r1⟩ := trodAll_cons r0
  obtain ⟨rfl, rfl, rfl⟩ := trodAll_nil r1
  obtain rfl : args = #[v0, v1] := by cases args; simp_all
  obtain ⟨rfl, rfl⟩ := trodVars_none hV
  have k0 := h0
  have lt0 : ∀ x ∈ p0, x.block < W.heap.size := by obtain ⟨m, hm⟩ := k0; exact DataW.trod_lt m _ _ _ hm
  obtain ⟨a0, len0, cap0, rfl⟩ := okWide_slice Try.underlying54 (hval 0 54 v0 rfl rfl)
  obtain ⟨z0, wl0, wm0, wh0⟩ : ∃ vs : List TBasin, vs.length = len0 ∧ len0 ≤ maxLen ∧ Has W W.heap.size a0 (flatBasin vs) := by
    obtain ⟨fuel, hf⟩ := h0
    obtain ⟨A, l, c, vs, hcs, h1, h2, h4⟩ := open_Basins Try.underlying54 Try.underlying88 (by kernel_rfl) (by kernel_rfl) Try.underlying3 Try.underlying3 Try.underlying3 hf
    simp [Value.cells] at hcs
    obtain ⟨rfl, rfl, rfl⟩ := hcs
    exact ⟨vs, h1, h2, h4⟩
  have k1 := h1
  have lt1 : ∀ x ∈ p1, x.block < W.heap.size := by obtain ⟨m, hm⟩ := k1; exact DataW.trod_lt m _ _ _ hm
  obtain ⟨a1, len1, cap1, rfl⟩ := okWide_slice Try.underlying62 (hval 1 62 v1 rfl rfl)
  obtain ⟨z1, wl1, wm1, wh1⟩ : ∃ vs : List TFlow, vs.length = len1 ∧ len1 ≤ maxLen ∧ Has W W.heap.size a1 (flatFlow vs) := by
    obtain ⟨fuel, hf⟩ := h1
    obtain ⟨A, l, c, vs, hcs, h1, h2, h4⟩ := open_Flows Try.underlying62 Try.underlying58 (by kernel_rfl) (by kernel_rfl) Try.underlying3 Try.underlying3 Try.underlying3 hf
    simp [Value.cells] at hcs
    obtain ⟨rfl, rfl, rfl⟩ := hcs
    exact ⟨vs, h1, h2, h4⟩
  clear hA0 hval0
  refine (walk a0 len0 cap0 z0 a1 len1 cap1 z1 W wl0 wm0 wh0 wl1 wm1 wh1).mono fun e W' ⟨he, bel⟩ => ?_
  subst he
  exact ⟨_, rfl, _, _, _, [], _, [], hW', trodAll_mk1 (shut_bool Try.underlying4 _), (trodAll_cons_mk (Below.trod laidOut (by kernel_rfl) (of_decide_eq_true (by kernel_rfl)) k0 bel lt0) (trodAll_cons_mk (Below.trod laidOut (by kernel_rfl) (of_decide_eq_true (by kernel_rfl)) k1 bel lt1) trodAll_mk0)), rfl, bel.frame _, fun h => by cases h⟩

theorem over : Rows.fnExactNetInflowRow.holds Try.pinned (OpenSpec.ofChange Rows.fnExactNetInflowSpec) :=
  OpenClaim.holds_of_wide 10 Try.f10 rfl rfl rfl rfl rfl rfl rfl ⟨rfl, rfl, rfl, rfl, rfl⟩ rfl rfl rfl rfl rfl (by kernel_rfl) Try.func10 (by kernel_rfl)
    (of_decide_eq_true (by kernel_rfl)) (by unfold Func.isWrapper; first | (rw [if_pos (by decide +kernel)]; kernel_rfl) | (rw [if_neg (by decide +kernel)]; exact ⟨rfl, rfl⟩))
    (fun os started H enc _ => lifted os started H enc)

/-- The statement. -/
theorem proved : Rows.FnExactNetInflowSaid := over
end Go.Proofs.Ytliebicnejbheaa.fnExactNetInflow
