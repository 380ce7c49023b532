/- ChamberPicture answers as its model does, at every chamber, list of hulls and list of spots, and writes into no argument. -/
import Derived.Test.YtiecmhkbcoogoaaChPi
import Derived.Test.YtiecmhkbcoogoaaSt0
import Derived.OpenShut
import Derived.ShutString
import Derived.ChangeOld
import Derived.WalkLawsBesides
import Derived.Lib.SmallJoins
import Derived.Deep.RegionHeld3
namespace Go.Proofs.Ytiecmhkbcoogoaa.fnExactChamberPicture
open Go.ChangeShapes Go.WideShapes Go.ChangeAt Go.RowKit
open Go.ChangeMaps (open_string shut_string)
set_option linter.unusedVariables false
set_option linter.unusedSimpArgs false

abbrev rHull (g n c : Nat) (xs : List Value) : RowOf := ⟨64, 3, .slice (some ⟨g, 0, none⟩) n c, n, xs⟩
abbrev rSpot (g n c : Nat) (xs : List Value) : RowOf := ⟨70, 2, .slice (some ⟨g, 0, none⟩) n c, n, xs⟩
abbrev ri (g n c : Nat) (xs : List Value) : RowOf := ⟨3, 1, .slice (some ⟨g, 0, none⟩) n c, n, xs⟩

set_option maxRecDepth 100000 in
set_option maxHeartbeats 4000000 in
theorem walk (c0 c1 : Int) (Ah : Option Addr) (nh ch : Nat) (vh : List THull) (As : Option Addr) (ns cs : Nat) (vs : List TSpot) (w : World) (hnh : vh.length = nh) (hmh : nh ≤ maxLen) (hhh : Has w w.heap.size Ah (flatHull vh)) (hns : vs.length = ns) (hms : ns ≤ maxLen) (hhs : Has w w.heap.size As (flatSpot vs)) :
    Calls Try.prog 7 #[.agg #[.int .i64 c0, .int .i64 c1], .slice Ah nh ch, .slice As ns cs] w fun e w' => e = .returned (.bool true) ∧ Below w.heap.size w w' := by
  have ivh : IsHulls w w.heap.size Ah nh vh := ⟨hnh, Nat.le_refl _, hhh⟩
  have IVh := Lib.hid (fun W (hb : Below w.heap.size w W) => ivh.below hb (Nat.le_refl _))
  have HMh := Lib.hid hmh
  have ivs : IsSpots w w.heap.size As ns vs := ⟨hns, Nat.le_refl _, hhs⟩
  have IVs := Lib.hid (fun W (hb : Below w.heap.size w W) => ivs.below hb (Nat.le_refl _))
  have HMs := Lib.hid hms
  obtain ⟨S, x, hx⟩ := picA_ex ⟨c0, c1⟩ vh vs
  have HX := Lib.hid hx
  have hxx : (x != x) = false := by simp
  have hss : (S.toList == S.toList) = true := beq_self_eq_true _
  have hsl : (S.toList != S.toList) = false := by rw [bne, hss]; rfl
  clear hx
  clear hnh hhh ivh hns hhs ivs
  go_enter Try.func7, Try.ntmps7
  have S0 : Hid (St w [(w.heap.size, 0, .int .i64 c0), (w.heap.size, 1, .int .i64 c1)] [] (World.alloc w (.cells #[.int .i64 c0, .int .i64 c1] 30))) := Lib.hid (by
    have k0 := ((St.start w)).quiet (Below.alloc (Below.refl _ w) (Nat.le_refl _) (.cells #[.int .i64 c0, .int .i64 c1] 30))
    have j0 := k0.cells (ds := [(w.heap.size, 0, .int .i64 c0), (w.heap.size, 1, .int .i64 c1)]) (fun p hp => by
      simp only [List.mem_cons, List.not_mem_nil, or_false] at hp
      rcases hp with rfl | rfl
      · exact ⟨by omega, by rw [sNew]; rfl⟩
      · exact ⟨by omega, by rw [sNew]; rfl⟩)
    exact j0)
  obtain ⟨lefth, l0h, l1h, lfh, szh⟩ := szHullS_is Ah nh ch 1048576 HMh.out (by omega) (by omega)
  have SZh := Lib.hid szh
  clear szh
  have cc0 := (S0.out.cell (w.heap.size, 0, .int .i64 c0) (by simp)).2
  have cc1 := (S0.out.cell (w.heap.size, 1, .int .i64 c1) (by simp)).2
  go_wp2_with fail
  refine (SZh.out _).mono ?_
  rintro e w1 ⟨rfl, rfl⟩
  clear SZh
  clear cc0 cc1
  by_cases negh : lefth < 0
  · go_wp2_with fail
    go_ret
    exact ⟨rfl, S0.out.low⟩
  obtain ⟨lefts, l0s, l1s, lfs, szs⟩ := szSpotS_is As ns cs lefth HMs.out (by omega) (by omega)
  have SZs := Lib.hid szs
  clear szs
  have cc0 := (S0.out.cell (w.heap.size, 0, .int .i64 c0) (by simp)).2
  have cc1 := (S0.out.cell (w.heap.size, 1, .int .i64 c1) (by simp)).2
  go_wp2_with fail
  refine (SZs.out _).mono ?_
  rintro e w2 ⟨rfl, rfl⟩
  clear SZs
  clear cc0 cc1
  by_cases negs : lefts < 0
  · go_wp2_with fail
    go_ret
    exact ⟨rfl, S0.out.low⟩
  have HNh : Hid (nh ≤ 1048576) := Lib.hid (by have := lfh (by omega); omega)
  have HNs : Hid (ns ≤ 1048576) := Lib.hid (by have := lfs (by omega); omega)
  have cc0 := (S0.out.cell (w.heap.size, 0, .int .i64 c0) (by simp)).2
  have cc1 := (S0.out.cell (w.heap.size, 1, .int .i64 c1) (by simp)).2
  go_wp2_with fail
  refine (toChamber_any c0 c1 _).mono ?_
  rintro e w3 ⟨rfl, hb⟩
  have S1 := Lib.hid (S0.out.quiet hb)
  clear cc0 cc1
  clear hb S0
  have cc0 := (S1.out.cell (w.heap.size, 0, .int .i64 c0) (by simp)).2
  have cc1 := (S1.out.cell (w.heap.size, 1, .int .i64 c1) (by simp)).2
  go_wp2_with fail
  refine (toHullS_is ch (IVh.out _ S1.out.low) HNh.out).mono ?_
  rintro e w4 ⟨t1, rfl, hown, -, hb⟩
  have zt1 := hown.lt t1 rfl
  have bt1 : w.heap.size + 1 ≤ t1 := by have h1 := World.block_lt_of_cell? _ _ cc1; have h2 := zt1.1; simp at h1; omega
  have qt1 : w.heap.size ≤ t1 := Nat.le_trans S1.out.low.size zt1.1
  have S2 := Lib.hid ((S1.out.quiet hb).own (rHull t1 nh nh (flatHull vh)) (own_low hown S1.out.low.size))
  clear cc0 cc1
  clear hb hown zt1 S1
  have cc0 := (S2.out.cell (w.heap.size, 0, .int .i64 c0) (by simp)).2
  have cc1 := (S2.out.cell (w.heap.size, 1, .int .i64 c1) (by simp)).2
  go_wp2_with fail
  refine (toSpotS_is cs (IVs.out _ S2.out.low) HNs.out).mono ?_
  rintro e w5 ⟨t2, rfl, hown, -, hb⟩
  have zt2 := hown.lt t2 rfl
  have dt2_t1 : t2 ≠ t1 := by have h1 := (S2.out.lt (r := rHull t1 nh nh (flatHull vh)) (by simp) (g := t1) rfl).2; have h2 := zt2.1; omega
  have bt2 : w.heap.size + 1 ≤ t2 := by have h1 := World.block_lt_of_cell? _ _ cc1; have h2 := zt2.1; simp at h1; omega
  have qt2 : w.heap.size ≤ t2 := Nat.le_trans S2.out.low.size zt2.1
  have S3 := Lib.hid ((S2.out.quiet hb).own (rSpot t2 ns ns (flatSpot vs)) (own_low hown S2.out.low.size))
  clear cc0 cc1
  clear hb hown zt2 S2
  have cc0 := (S3.out.cell (w.heap.size, 0, .int .i64 c0) (by simp)).2
  have cc1 := (S3.out.cell (w.heap.size, 1, .int .i64 c1) (by simp)).2
  go_wp2_with fail
  refine (picS_any c0 c1 _ _ (own_Hulls (S3.out.row (rHull t1 nh nh (flatHull vh)) (by simp))) (own_Spots (S3.out.row (rSpot t2 ns ns (flatSpot vs)) (by simp))) HNh.out HNs.out S x HX.out).mono ?_
  rintro e w6 ⟨rfl, hb⟩
  have S4 := Lib.hid (S3.out.quiet hb)
  clear cc0 cc1
  clear hb S3
  have S5 := Lib.hid (S4.out.sub (rows' := []) (by simp))
  clear S4
  have cc0 := (S5.out.cell (w.heap.size, 0, .int .i64 c0) (by simp)).2
  have cc1 := (S5.out.cell (w.heap.size, 1, .int .i64 c1) (by simp)).2
  go_wp2_with fail
  refine (toHullS_is ch (IVh.out _ S5.out.low) HNh.out).mono ?_
  rintro e w7 ⟨xh, rfl, hown, -, hb⟩
  have zxh := hown.lt xh rfl
  have bxh : w.heap.size + 1 ≤ xh := by have h1 := World.block_lt_of_cell? _ _ cc1; have h2 := zxh.1; simp at h1; omega
  have qxh : w.heap.size ≤ xh := Nat.le_trans S5.out.low.size zxh.1
  have S6 := Lib.hid ((S5.out.quiet hb).own (rHull xh nh nh (flatHull vh)) (own_low hown S5.out.low.size))
  clear cc0 cc1
  clear hb hown zxh S5
  have cc0 := (S6.out.cell (w.heap.size, 0, .int .i64 c0) (by simp)).2
  have cc1 := (S6.out.cell (w.heap.size, 1, .int .i64 c1) (by simp)).2
  go_wp2_with fail
  refine (toSpotS_is cs (IVs.out _ S6.out.low) HNs.out).mono ?_
  rintro e w8 ⟨xs, rfl, hown, -, hb⟩
  have zxs := hown.lt xs rfl
  have dxs_xh : xs ≠ xh := by have h1 := (S6.out.lt (r := rHull xh nh nh (flatHull vh)) (by simp) (g := xh) rfl).2; have h2 := zxs.1; omega
  have bxs : w.heap.size + 1 ≤ xs := by have h1 := World.block_lt_of_cell? _ _ cc1; have h2 := zxs.1; simp at h1; omega
  have qxs : w.heap.size ≤ xs := Nat.le_trans S6.out.low.size zxs.1
  have S7 := Lib.hid ((S6.out.quiet hb).own (rSpot xs ns ns (flatSpot vs)) (own_low hown S6.out.low.size))
  clear cc0 cc1
  clear hb hown zxs S6
  have cc0 := (S7.out.cell (w.heap.size, 0, .int .i64 c0) (by simp)).2
  have cc1 := (S7.out.cell (w.heap.size, 1, .int .i64 c1) (by simp)).2
  go_wp2_with fail
  refine (toChamber_any c0 c1 _).mono ?_
  rintro e w9 ⟨rfl, hb⟩
  have S8 := Lib.hid (S7.out.quiet hb)
  clear cc0 cc1
  clear hb S7
  have cc0 := (S8.out.cell (w.heap.size, 0, .int .i64 c0) (by simp)).2
  have cc1 := (S8.out.cell (w.heap.size, 1, .int .i64 c1) (by simp)).2
  go_wp2_with fail
  refine (picI_any c0 c1 _ _ (own_Hulls (S8.out.row (rHull xh nh nh (flatHull vh)) (by simp))) (own_Spots (S8.out.row (rSpot xs ns ns (flatSpot vs)) (by simp))) HNh.out HNs.out S x HX.out).mono ?_
  rintro e w10 ⟨rfl, hb⟩
  have S9 := Lib.hid (S8.out.quiet hb)
  clear cc0 cc1
  clear hb S8
  have cc0 := (S9.out.cell (w.heap.size, 0, .int .i64 c0) (by simp)).2
  have cc1 := (S9.out.cell (w.heap.size, 1, .int .i64 c1) (by simp)).2
  go_wp2_with fail
  refine (toHullS_is ch (IVh.out _ S9.out.low) HNh.out).mono ?_
  rintro e w11 ⟨t3, rfl, hown, -, hb⟩
  have zt3 := hown.lt t3 rfl
  have dt3_xs : t3 ≠ xs := by have h1 := (S9.out.lt (r := rSpot xs ns ns (flatSpot vs)) (by simp) (g := xs) rfl).2; have h2 := zt3.1; omega
  have dt3_xh : t3 ≠ xh := by have h1 := (S9.out.lt (r := rHull xh nh nh (flatHull vh)) (by simp) (g := xh) rfl).2; have h2 := zt3.1; omega
  have bt3 : w.heap.size + 1 ≤ t3 := by have h1 := World.block_lt_of_cell? _ _ cc1; have h2 := zt3.1; simp at h1; omega
  have qt3 : w.heap.size ≤ t3 := Nat.le_trans S9.out.low.size zt3.1
  have S10 := Lib.hid ((S9.out.quiet hb).own (rHull t3 nh nh (flatHull vh)) (own_low hown S9.out.low.size))
  clear cc0 cc1
  clear hb hown zt3 S9
  have cc0 := (S10.out.cell (w.heap.size, 0, .int .i64 c0) (by simp)).2
  have cc1 := (S10.out.cell (w.heap.size, 1, .int .i64 c1) (by simp)).2
  go_wp2_with fail
  refine (eqHullS_is _ _ (own_Hulls (S10.out.row (rHull xh nh nh (flatHull vh)) (by simp))) (own_Hulls (S10.out.row (rHull t3 nh nh (flatHull vh)) (by simp))) (Nat.le_trans HNh.out (by unfold maxLen; omega))).mono ?_
  rintro e w12 ⟨rfl, hb⟩
  have S11 := Lib.hid (S10.out.quiet hb)
  clear cc0 cc1
  clear hb S10
  have S12 := Lib.hid (S11.out.sub (rows' := [rSpot xs ns ns (flatSpot vs), rHull xh nh nh (flatHull vh)]) (by simp))
  clear S11
  have cc0 := (S12.out.cell (w.heap.size, 0, .int .i64 c0) (by simp)).2
  have cc1 := (S12.out.cell (w.heap.size, 1, .int .i64 c1) (by simp)).2
  go_wp2_with fail
  refine (toSpotS_is cs (IVs.out _ S12.out.low) HNs.out).mono ?_
  rintro e w13 ⟨t4, rfl, hown, -, hb⟩
  have zt4 := hown.lt t4 rfl
  have dt4_xs : t4 ≠ xs := by have h1 := (S12.out.lt (r := rSpot xs ns ns (flatSpot vs)) (by simp) (g := xs) rfl).2; have h2 := zt4.1; omega
  have dt4_xh : t4 ≠ xh := by have h1 := (S12.out.lt (r := rHull xh nh nh (flatHull vh)) (by simp) (g := xh) rfl).2; have h2 := zt4.1; omega
  have bt4 : w.heap.size + 1 ≤ t4 := by have h1 := World.block_lt_of_cell? _ _ cc1; have h2 := zt4.1; simp at h1; omega
  have qt4 : w.heap.size ≤ t4 := Nat.le_trans S12.out.low.size zt4.1
  have S13 := Lib.hid ((S12.out.quiet hb).own (rSpot t4 ns ns (flatSpot vs)) (own_low hown S12.out.low.size))
  clear cc0 cc1
  clear hb hown zt4 S12
  have cc0 := (S13.out.cell (w.heap.size, 0, .int .i64 c0) (by simp)).2
  have cc1 := (S13.out.cell (w.heap.size, 1, .int .i64 c1) (by simp)).2
  go_wp2_with fail
  refine (eqSpotS_is _ _ (own_Spots (S13.out.row (rSpot xs ns ns (flatSpot vs)) (by simp))) (own_Spots (S13.out.row (rSpot t4 ns ns (flatSpot vs)) (by simp))) (Nat.le_trans HNs.out (by unfold maxLen; omega))).mono ?_
  rintro e w14 ⟨rfl, hb⟩
  have S14 := Lib.hid (S13.out.quiet hb)
  clear cc0 cc1
  clear hb S13
  have S15 := Lib.hid (S14.out.sub (rows' := [rSpot xs ns ns (flatSpot vs), rHull xh nh nh (flatHull vh)]) (by simp))
  clear S14
  have cc0 := (S15.out.cell (w.heap.size, 0, .int .i64 c0) (by simp)).2
  have cc1 := (S15.out.cell (w.heap.size, 1, .int .i64 c1) (by simp)).2
  go_wp2_with fail
  go_ret
  exact ⟨rfl, S15.out.low⟩
theorem own : ownKnob Try.prog.godebug = none := by kernel_rfl
theorem laidOut : laidOutB Try.prog = true := by kernel_rfl

set_option maxRecDepth 100000 in
theorem lifted (os : Os) (started : os.Started) (H : Type) (enc : TypeId × Value → H) :
    ReturnsInHanded {} Try.checked os 7 .any (Rows.fnExactChamberPictureSpec.pre6 enc Try.prog Try.f7 Rows.fnExactChamberPictureRow.domain false) (Rows.fnExactChamberPictureSpec.post enc Try.prog Try.f7 false true false false) := by
  refine returnsInHanded_of_change (C := Try.checked) own started (by kernel_rfl) Try.func7
    (ChangeSpec.witness6 (enc := enc) (C := Try.checked) false ⟨#[], #[.agg #[.int .i64 0, .int .i64 0], .slice none 0 0, .slice none 0 0], []⟩ 8 (by kernel_rfl) (by kernel_rfl) (by kernel_rfl) (by kernel_rfl)) ?_
  intro W base args ds gs before hval0 hW hcnd _
  have hval : ∀ (j : Nat) t v, Try.f7.params[j]? = some t → args[j]? = some v → Value.okWide Try.prog W .any base t v := hval0
  have hW' := hW
  obtain ⟨p, q, hA0, hV, rfl, hfz, hnd⟩ := hW
  have hA : DataW.TrodAll enc Try.prog W 0 (fun _ => true) true Try.f7.params.toList args.toList ds p := hA0
  rw [Try.params7] at hA hval
  obtain ⟨v0, vs0, d0, ds0, p0, q0, hargs, rfl, rfl, h0, r0⟩ := trodAll_cons hA
  obtain ⟨v1, vs1, d1, ds1, p1, q1, rfl, rfl, rfl, h1, r1⟩ := trodAll_cons r0
  obtain ⟨v2, vs2, d2, ds2, p2, q2, rfl, rfl, rfl, h2, r2⟩ := trodAll_cons r1
  obtain ⟨rfl, rfl, rfl⟩ := trodAll_nil r2
  obtain rfl : args = #[v0, v1, v2] := by cases args; simp_all
  obtain ⟨rfl, rfl⟩ := trodVars_none hV
  have k0 := h0
  have lt0 : ∀ x ∈ p0, x.block < W.heap.size := by obtain ⟨m, hm⟩ := k0; exact DataW.trod_lt m _ _ _ hm
  obtain ⟨x0_0, x0_1, rfl⟩ := open_Chamber Try.underlying30 (by kernel_rfl) (by kernel_rfl) Try.underlying3 Try.underlying3 (hval 0 30 v0 rfl rfl) h0
  have k1 := h1
  have lt1 : ∀ x ∈ p1, x.block < W.heap.size := by obtain ⟨m, hm⟩ := k1; exact DataW.trod_lt m _ _ _ hm
  obtain ⟨a1, len1, cap1, rfl⟩ := okWide_slice Try.underlying22 (hval 1 22 v1 rfl rfl)
  obtain ⟨z1, wl1, wm1, wh1⟩ : ∃ vs : List THull, vs.length = len1 ∧ len1 ≤ maxLen ∧ Has W W.heap.size a1 (flatHull vs) := by
    obtain ⟨fuel, hf⟩ := h1
    obtain ⟨A, l, c, vs, hcs, h1, h2, h4⟩ := open_Hulls Try.underlying22 Try.underlying85 (by kernel_rfl) (by kernel_rfl) Try.underlying3 Try.underlying3 Try.underlying3 hf
    simp [Value.cells] at hcs
    obtain ⟨rfl, rfl, rfl⟩ := hcs
    exact ⟨vs, h1, h2, h4⟩
  have k2 := h2
  have lt2 : ∀ x ∈ p2, x.block < W.heap.size := by obtain ⟨m, hm⟩ := k2; exact DataW.trod_lt m _ _ _ hm
  obtain ⟨a2, len2, cap2, rfl⟩ := okWide_slice Try.underlying31 (hval 2 31 v2 rfl rfl)
  obtain ⟨z2, wl2, wm2, wh2⟩ : ∃ vs : List TSpot, vs.length = len2 ∧ len2 ≤ maxLen ∧ Has W W.heap.size a2 (flatSpot vs) := by
    obtain ⟨fuel, hf⟩ := h2
    obtain ⟨A, l, c, vs, hcs, h1, h2, h4⟩ := open_Spots Try.underlying31 Try.underlying89 (by kernel_rfl) (by kernel_rfl) Try.underlying3 Try.underlying3 hf
    simp [Value.cells] at hcs
    obtain ⟨rfl, rfl, rfl⟩ := hcs
    exact ⟨vs, h1, h2, h4⟩
  clear hA0 hval0
  refine (walk x0_0 x0_1 a1 len1 cap1 z1 a2 len2 cap2 z2 W wl1 wm1 wh1 wl2 wm2 wh2).mono fun e W' ⟨he, bel⟩ => ?_
  subst he
  exact ⟨_, rfl, _, _, _, [], _, [], hW', trodAll_mk1 (shut_bool Try.underlying4 _), (trodAll_cons_mk (Below.trod laidOut (by kernel_rfl) (of_decide_eq_true (by kernel_rfl)) k0 bel lt0) (trodAll_cons_mk (Below.trod laidOut (by kernel_rfl) (of_decide_eq_true (by kernel_rfl)) k1 bel lt1) (trodAll_cons_mk (Below.trod laidOut (by kernel_rfl) (of_decide_eq_true (by kernel_rfl)) k2 bel lt2) trodAll_mk0))), rfl, bel.frame _, fun h => by cases h⟩

theorem over : Rows.fnExactChamberPictureRow.holds Try.pinned (OpenSpec.ofChange Rows.fnExactChamberPictureSpec) :=
  OpenClaim.holds_of_wide 7 Try.f7 rfl rfl rfl rfl rfl rfl rfl ⟨rfl, rfl, rfl, rfl, rfl⟩ rfl rfl rfl rfl rfl (by kernel_rfl) Try.func7 (by kernel_rfl)
    (of_decide_eq_true (by kernel_rfl)) (by unfold Func.isWrapper; first | (rw [if_pos (by decide +kernel)]; kernel_rfl) | (rw [if_neg (by decide +kernel)]; exact ⟨rfl, rfl⟩))
    (fun os started H enc _ => lifted os started H enc)

/-- The statement. -/
theorem proved : Rows.FnExactChamberPictureSaid := over
end Go.Proofs.Ytiecmhkbcoogoaa.fnExactChamberPicture
