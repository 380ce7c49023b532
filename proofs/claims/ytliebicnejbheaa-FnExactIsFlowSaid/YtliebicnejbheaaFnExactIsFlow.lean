/- IsFlow answers as its model does, at every list and Flow; it writes into no argument. -/
import Derived.Test.YtliebicnejbheaaWaE
import Derived.Test.YtliebicnejbheaaSt0
import Derived.OpenShut
import Derived.ShutString
import Derived.ChangeOld
import Derived.WalkLawsBesides
import Derived.Lib.SmallJoins
import Derived.Deep.RegionHeld3
namespace Go.Proofs.Ytliebicnejbheaa.fnExactIsFlow
open Go.ChangeShapes Go.WideShapes Go.ChangeAt Go.RowKit
open Go.ChangeMaps (open_string shut_string)
set_option linter.unusedVariables false
set_option linter.unusedSimpArgs false

abbrev rBasin (g n c : Nat) (xs : List Value) : RowOf := ⟨53, 3, .slice (some ⟨g, 0, none⟩) n c, n, xs⟩
abbrev ri (g n c : Nat) (xs : List Value) : RowOf := ⟨3, 1, .slice (some ⟨g, 0, none⟩) n c, n, xs⟩

set_option maxRecDepth 100000 in
set_option maxHeartbeats 4000000 in
theorem walk (Ab : Option Addr) (nb cb : Nat) (vb : List TBasin) (f0 : Int) (f1 : Int) (f2 : Int) (w : World) (hnb : vb.length = nb) (hmb : nb ≤ maxLen) (hhb : Has w w.heap.size Ab (flatBasin vb))  :
    Calls Try.prog 6 #[.slice Ab nb cb, .agg #[.int .i64 f0, .int .i64 f1, .int .i64 f2]] w fun e w' => e = .returned (.bool true) ∧ Below w.heap.size w w' := by
  have ivb : IsBasins w w.heap.size Ab nb vb := ⟨hnb, Nat.le_refl _, hhb⟩
  have IVb := Lib.hid (fun W (hb : Below w.heap.size w W) => ivb.below hb (Nat.le_refl _))
  have HMb := Lib.hid hmb
  obtain ⟨x, hx⟩ : ∃ x, x = (gBs vb && gF nb ⟨f0, f1, f2⟩) := ⟨_, rfl⟩
  have HX := Lib.hid hx
  have hxx : (x != x) = false := by simp
  clear hx
  clear hnb hhb ivb
  go_enter Try.func6, Try.ntmps6
  have S0 : Hid (St w [(w.heap.size, 0, .int .i64 f0), (w.heap.size, 1, .int .i64 f1), (w.heap.size, 2, .int .i64 f2)] [] (World.alloc w (.cells #[.int .i64 f0, .int .i64 f1, .int .i64 f2] 58))) := Lib.hid (by
    have k0 := ((St.start w)).quiet (Below.alloc (Below.refl _ w) (Nat.le_refl _) (.cells #[.int .i64 f0, .int .i64 f1, .int .i64 f2] 58))
    have j0 := k0.cells (ds := [(w.heap.size, 0, .int .i64 f0), (w.heap.size, 1, .int .i64 f1), (w.heap.size, 2, .int .i64 f2)]) (fun p hp => by
      simp only [List.mem_cons, List.not_mem_nil, or_false] at hp
      rcases hp with rfl | rfl | rfl
      · exact ⟨by omega, by rw [sNew]; rfl⟩
      · exact ⟨by omega, by rw [sNew]; rfl⟩
      · exact ⟨by omega, by rw [sNew]; rfl⟩)
    exact j0)
  obtain ⟨leftb, l0b, l1b, lfb, szb⟩ := szBasinS_is Ab nb cb 1048576 HMb.out (by omega) (by omega)
  have SZb := Lib.hid szb
  clear szb
  have cc0 := (S0.out.cell (w.heap.size, 0, .int .i64 f0) (by simp)).2
  have cc1 := (S0.out.cell (w.heap.size, 1, .int .i64 f1) (by simp)).2
  have cc2 := (S0.out.cell (w.heap.size, 2, .int .i64 f2) (by simp)).2
  go_wp2_with fail
  refine (SZb.out _).mono ?_
  rintro e w1 ⟨rfl, rfl⟩
  clear SZb
  clear cc0 cc1 cc2
  by_cases negb : leftb < 0
  · go_wp2_with fail
    go_ret
    exact ⟨rfl, S0.out.low⟩
  have HNb : Hid (nb ≤ 1048576) := Lib.hid (by have := lfb (by omega); omega)
  generalize hwq : (World.alloc w (.cells #[.int .i64 f0, .int .i64 f1, .int .i64 f2] 58)) = wq at S0 ⊢
  clear hwq
  have KEEP := Lib.hid (fun W (hb : Below wq.heap.size wq W) => (⟨hb, ((S0.out.quiet hb).cell (w.heap.size, 0, .int .i64 f0) (by simp)).2, ((S0.out.quiet hb).cell (w.heap.size, 1, .int .i64 f1) (by simp)).2, ((S0.out.quiet hb).cell (w.heap.size, 2, .int .i64 f2) (by simp)).2⟩ : Below wq.heap.size wq W ∧ W.cell? ⟨w.heap.size, 0, none⟩ = some (.int .i64 f0) ∧ W.cell? ⟨w.heap.size, 1, none⟩ = some (.int .i64 f1) ∧ W.cell? ⟨w.heap.size, 2, none⟩ = some (.int .i64 f2)))
  have KD := Lib.hid (KEEP.out wq.drew ((Drawn.one wq 1).below _))
  have KT := Lib.hid (fun W W' (hb : Below wq.heap.size wq W) (hb' : Below W.heap.size W W') => KEEP.out W' (hb.trans (hb'.mono hb.size)))
  have IA := Lib.hid (fun W (hb : Below wq.heap.size wq W) => IVb.out W (S0.out.quiet hb).low)
  have cc0 := (S0.out.cell (w.heap.size, 0, .int .i64 f0) (by simp)).2
  have cc1 := (S0.out.cell (w.heap.size, 1, .int .i64 f1) (by simp)).2
  have cc2 := (S0.out.cell (w.heap.size, 2, .int .i64 f2) (by simp)).2
  go_wp2_with fail
  clear cc0 cc1 cc2
  go_region_held3 (fun W => Below wq.heap.size wq W ∧ W.cell? ⟨w.heap.size, 0, none⟩ = some (.int .i64 f0) ∧ W.cell? ⟨w.heap.size, 1, none⟩ = some (.int .i64 f1) ∧ W.cell? ⟨w.heap.size, 2, none⟩ = some (.int .i64 f2))
    (first | exact KD.out | exact KT.out _ _ KD.out.1 hb6 | exact KT.out _ _ (KD.out.1.trans (hb6.mono KD.out.1.size)) hb7 | exact KT.out _ _ ((KD.out.1.trans (hb6.mono KD.out.1.size)).trans (hb7.mono (KD.out.1.trans (hb6.mono KD.out.1.size)).size)) hb8)
    (first
      | (go_at_call 44; refine (toBasinS_is cb (IA.out _ KD.out.1) HNb.out).mono ?_; rintro e wa6 ⟨ga6, rfl, -, i6, hb6⟩)
      | (go_at_call 46; refine (toFlow_any f0 f1 f2 _).mono ?_; rintro e wa7 ⟨rfl, hb7⟩)
      | (go_at_call 26; refine (isFlowS_any _ (i6.below hb7 (Nat.le_refl _)) (Nat.le_trans HNb.out (by unfold maxLen; omega)) f0 f1 f2 x HX.out).mono ?_; rintro e w2 ⟨rfl, hb8⟩))
  have X6 := KD.out.1.trans (hb6.mono KD.out.1.size)
  have X7 := X6.trans (hb7.mono X6.size)
  have X8 := X7.trans (hb8.mono X7.size)
  have S1 := Lib.hid (S0.out.quiet X8)
  clear KEEP KD KT IA hb6 hb7 hb8 i6 X6 X7 X8 S0
  have cc0 := (S1.out.cell (w.heap.size, 0, .int .i64 f0) (by simp)).2
  have cc1 := (S1.out.cell (w.heap.size, 1, .int .i64 f1) (by simp)).2
  have cc2 := (S1.out.cell (w.heap.size, 2, .int .i64 f2) (by simp)).2
  go_wp2_with fail
  refine (toBasinS_is cb (IVb.out _ S1.out.low) HNb.out).mono ?_
  rintro e w3 ⟨xb, rfl, hown, -, hb⟩
  have zxb := hown.lt xb rfl
  have bxb : w.heap.size + 1 ≤ xb := by have h1 := World.block_lt_of_cell? _ _ cc2; have h2 := zxb.1; simp at h1; (try simp at h2); omega
  have qxb : w.heap.size ≤ xb := Nat.le_trans S1.out.low.size zxb.1
  have S2 := Lib.hid ((S1.out.quiet hb).own (rBasin xb nb nb (flatBasin vb)) (own_low hown S1.out.low.size))
  clear cc0 cc1 cc2
  clear hb hown zxb S1
  have cc0 := (S2.out.cell (w.heap.size, 0, .int .i64 f0) (by simp)).2
  have cc1 := (S2.out.cell (w.heap.size, 1, .int .i64 f1) (by simp)).2
  have cc2 := (S2.out.cell (w.heap.size, 2, .int .i64 f2) (by simp)).2
  go_wp2_with fail
  refine (toFlow_any f0 f1 f2 _).mono ?_
  rintro e w4 ⟨rfl, hb⟩
  have S3 := Lib.hid (S2.out.quiet hb)
  clear cc0 cc1 cc2
  clear hb S2
  have cc0 := (S3.out.cell (w.heap.size, 0, .int .i64 f0) (by simp)).2
  have cc1 := (S3.out.cell (w.heap.size, 1, .int .i64 f1) (by simp)).2
  have cc2 := (S3.out.cell (w.heap.size, 2, .int .i64 f2) (by simp)).2
  go_wp2_with fail
  refine (isFlowI_any _ (own_Basins (S3.out.row (rBasin xb nb nb (flatBasin vb)) (by simp))) (Nat.le_trans HNb.out (by unfold maxLen; omega)) f0 f1 f2 x HX.out).mono ?_
  rintro e w5 ⟨rfl, hb⟩
  have S4 := Lib.hid (S3.out.quiet hb)
  clear cc0 cc1 cc2
  clear hb S3
  have cc0 := (S4.out.cell (w.heap.size, 0, .int .i64 f0) (by simp)).2
  have cc1 := (S4.out.cell (w.heap.size, 1, .int .i64 f1) (by simp)).2
  have cc2 := (S4.out.cell (w.heap.size, 2, .int .i64 f2) (by simp)).2
  go_wp2_with fail
  refine (toBasinS_is cb (IVb.out _ S4.out.low) HNb.out).mono ?_
  rintro e w6 ⟨t1, rfl, hown, -, hb⟩
  have zt1 := hown.lt t1 rfl
  have dt1_xb : t1 ≠ xb := by have h1 := (S4.out.lt (r := rBasin xb nb nb (flatBasin vb)) (by simp) (g := xb) rfl).2; have h2 := zt1.1; omega
  have bt1 : w.heap.size + 1 ≤ t1 := by have h1 := World.block_lt_of_cell? _ _ cc2; have h2 := zt1.1; simp at h1; (try simp at h2); omega
  have qt1 : w.heap.size ≤ t1 := Nat.le_trans S4.out.low.size zt1.1
  have S5 := Lib.hid ((S4.out.quiet hb).own (rBasin t1 nb nb (flatBasin vb)) (own_low hown S4.out.low.size))
  clear cc0 cc1 cc2
  clear hb hown zt1 S4
  have cc0 := (S5.out.cell (w.heap.size, 0, .int .i64 f0) (by simp)).2
  have cc1 := (S5.out.cell (w.heap.size, 1, .int .i64 f1) (by simp)).2
  have cc2 := (S5.out.cell (w.heap.size, 2, .int .i64 f2) (by simp)).2
  go_wp2_with fail
  refine (eqBasinS_is _ _ (own_Basins (S5.out.row (rBasin xb nb nb (flatBasin vb)) (by simp))) (own_Basins (S5.out.row (rBasin t1 nb nb (flatBasin vb)) (by simp))) (Nat.le_trans HNb.out (by unfold maxLen; omega))).mono ?_
  rintro e w7 ⟨rfl, hb⟩
  have S6 := Lib.hid (S5.out.quiet hb)
  clear cc0 cc1 cc2
  clear hb S5
  have S7 := Lib.hid (S6.out.sub (rows' := [rBasin xb nb nb (flatBasin vb)]) (by simp))
  clear S6
  have cc0 := (S7.out.cell (w.heap.size, 0, .int .i64 f0) (by simp)).2
  have cc1 := (S7.out.cell (w.heap.size, 1, .int .i64 f1) (by simp)).2
  have cc2 := (S7.out.cell (w.heap.size, 2, .int .i64 f2) (by simp)).2
  go_wp2_with fail
  go_ret
  exact ⟨rfl, S7.out.low⟩
theorem own : ownKnob Try.prog.godebug = none := by kernel_rfl
theorem laidOut : laidOutB Try.prog = true := by kernel_rfl

set_option maxRecDepth 100000 in
theorem lifted (os : Os) (started : os.Started) (H : Type) (enc : TypeId × Value → H) :
    ReturnsInHanded {} Try.checked os 6 .any (Rows.fnExactIsFlowSpec.pre6 enc Try.prog Try.f6 Rows.fnExactIsFlowRow.domain false) (Rows.fnExactIsFlowSpec.post enc Try.prog Try.f6 false true false false) := by
  refine returnsInHanded_of_change (C := Try.checked) own started (by kernel_rfl) Try.func6
    (ChangeSpec.witness6 (enc := enc) (C := Try.checked) false ⟨#[], #[.slice none 0 0, .agg #[.int .i64 0, .int .i64 0, .int .i64 0]], []⟩ 8 (by kernel_rfl) (by kernel_rfl) (by kernel_rfl) (by kernel_rfl)) ?_
  intro W base args ds gs before hval0 hW hcnd _
  have hval : ∀ (j : Nat) t v, Try.f6.params[j]? = some t → args[j]? = some v → Value.okWide Try.prog W .any base t v := hval0
  have hW' := hW
  obtain ⟨p, q, hA0, hV, rfl, hfz, hnd⟩ := hW
  have hA : DataW.TrodAll enc Try.prog W 0 (fun _ => true) true Try.f6.params.toList args.toList ds p := hA0
  rw [Try.params6] at hA hval
  obtain ⟨v0, vs0, d0, ds0, p0, q0, hargs, rfl, rfl, h0, r0⟩ := trodAll_cons hA
  obtain ⟨v1, vs1, d1, ds1, p1, q1, rfl, rfl, rfl, h1, r1⟩ := trodAll_cons r0
  obtain ⟨rfl, rfl, rfl⟩ := trodAll_nil r1
  obtain rfl : args = #[v0, v1] := by cases args; simp_all
  obtain ⟨rfl, rfl⟩ := trodVars_none hV
  have k0 := h0
  have lt0 : ∀ x ∈ p0, x.block < W.heap.size := by obtain ⟨m, hm⟩ := k0; exact DataW.trod_lt m _ _ _ hm
  obtain ⟨a0, len0, cap0, rfl⟩ := okWide_slice Try.underlying54 (hval 0 54 v0 rfl rfl)
  obtain ⟨z0, wl0, wm0, wh0⟩ : ∃ vs : List TBasin, vs.length = len0 ∧ len0 ≤ maxLen ∧ Has W W.heap.size a0 (flatBasin vs) := by
    obtain ⟨fuel, hf⟩ := h0
    obtain ⟨A, l, c, vs, hcs, h1, h2, h4⟩ := open_Basins Try.underlying54 Try.underlying88 (by kernel_rfl) (by kernel_rfl) Try.underlying3 Try.underlying3 Try.underlying3 hf
    simp [Value.cells] at hcs
    obtain ⟨rfl, rfl, rfl⟩ := hcs
    exact ⟨vs, h1, h2, h4⟩
  have k1 := h1
  have lt1 : ∀ x ∈ p1, x.block < W.heap.size := by obtain ⟨m, hm⟩ := k1; exact DataW.trod_lt m _ _ _ hm
  obtain ⟨x1_0, x1_1, x1_2, rfl⟩ := open_Flow Try.underlying58 (by kernel_rfl) (by kernel_rfl) Try.underlying3 Try.underlying3 Try.underlying3 (hval 1 58 v1 rfl rfl) h1
  clear hA0 hval0
  refine (walk a0 len0 cap0 z0 x1_0 x1_1 x1_2 W wl0 wm0 wh0).mono fun e W' ⟨he, bel⟩ => ?_
  subst he
  exact ⟨_, rfl, _, _, _, [], _, [], hW', trodAll_mk1 (shut_bool Try.underlying4 _), (trodAll_cons_mk (Below.trod laidOut (by kernel_rfl) (of_decide_eq_true (by kernel_rfl)) k0 bel lt0) (trodAll_cons_mk (Below.trod laidOut (by kernel_rfl) (of_decide_eq_true (by kernel_rfl)) k1 bel lt1) trodAll_mk0)), rfl, bel.frame _, fun h => by cases h⟩

theorem over : Rows.fnExactIsFlowRow.holds Try.pinned (OpenSpec.ofChange Rows.fnExactIsFlowSpec) :=
  OpenClaim.holds_of_wide 6 Try.f6 rfl rfl rfl rfl rfl rfl rfl ⟨rfl, rfl, rfl, rfl, rfl⟩ rfl rfl rfl rfl rfl (by kernel_rfl) Try.func6 (by kernel_rfl)
    (of_decide_eq_true (by kernel_rfl)) (by unfold Func.isWrapper; first | (rw [if_pos (by decide +kernel)]; kernel_rfl) | (rw [if_neg (by decide +kernel)]; exact ⟨rfl, rfl⟩))
    (fun os started H enc _ => lifted os started H enc)

/-- The statement. -/
theorem proved : Rows.FnExactIsFlowSaid := over
end Go.Proofs.Ytliebicnejbheaa.fnExactIsFlow
