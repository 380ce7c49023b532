/- FewestLockages answers as its model does, at every chamber and list of hulls, and writes into no argument. -/
import Derived.Test.YtiecmhkbcoogoaaChV
import Derived.Test.YtiecmhkbcoogoaaSt0
import Derived.OpenShut
import Derived.ShutString
import Derived.ChangeOld
import Derived.WalkLawsBesides
import Derived.Lib.SmallJoins
import Derived.Deep.RegionHeld3
namespace Go.Proofs.Ytiecmhkbcoogoaa.fnExactFewestLockages
open Go.ChangeShapes Go.WideShapes Go.ChangeAt Go.RowKit
open Go.ChangeMaps (open_string shut_string)
set_option linter.unusedVariables false
set_option linter.unusedSimpArgs false

abbrev rHull (g n c : Nat) (xs : List Value) : RowOf := ⟨64, 3, .slice (some ⟨g, 0, none⟩) n c, n, xs⟩
abbrev ri (g n c : Nat) (xs : List Value) : RowOf := ⟨3, 1, .slice (some ⟨g, 0, none⟩) n c, n, xs⟩

set_option maxRecDepth 100000 in
set_option maxHeartbeats 4000000 in
theorem walk (c0 c1 : Int) (Ah : Option Addr) (nh ch : Nat) (vh : List THull) (w : World) (hnh : vh.length = nh) (hmh : nh ≤ maxLen) (hhh : Has w w.heap.size Ah (flatHull vh)) :
    Calls Try.prog 9 #[.agg #[.int .i64 c0, .int .i64 c1], .slice Ah nh ch] w fun e w' => e = .returned (.bool true) ∧ Below w.heap.size w w' := by
  have ivh : IsHulls w w.heap.size Ah nh vh := ⟨hnh, Nat.le_refl _, hhh⟩
  have IVh := Lib.hid (fun W (hb : Below w.heap.size w W) => ivh.below hb (Nat.le_refl _))
  have HMh := Lib.hid hmh
  obtain ⟨x, y, hA⟩ := fewA_ex ⟨c0, c1⟩ vh
  have HA := Lib.hid hA
  have hxx : (x != x) = false := by simp
  have hyy : (y != y) = false := by simp
  clear hA
  clear hnh hhh ivh
  go_enter Try.func9, Try.ntmps9
  have S0 : Hid (St w [(w.heap.size, 0, .int .i64 c0), (w.heap.size, 1, .int .i64 c1)] [] (World.alloc w (.cells #[.int .i64 c0, .int .i64 c1] 30))) := Lib.hid (by
    have k0 := ((St.start w)).quiet (Below.alloc (Below.refl _ w) (Nat.le_refl _) (.cells #[.int .i64 c0, .int .i64 c1] 30))
    have j0 := k0.cells (ds := [(w.heap.size, 0, .int .i64 c0), (w.heap.size, 1, .int .i64 c1)]) (fun p hp => by
      simp only [List.mem_cons, List.not_mem_nil, or_false] at hp
      rcases hp with rfl | rfl
      · exact ⟨by omega, by rw [sNew]; rfl⟩
      · exact ⟨by omega, by rw [sNew]; rfl⟩)
    exact j0)
  obtain ⟨lefth, l0h, l1h, lfh, szh⟩ := szHullS_is Ah nh ch 1048576 HMh.out (by omega) (by omega)
  have SZh := Lib.hid szh
  clear szh
  have cc0 := (S0.out.cell (w.heap.size, 0, .int .i64 c0) (by simp)).2
  have cc1 := (S0.out.cell (w.heap.size, 1, .int .i64 c1) (by simp)).2
  go_wp2_with fail
  refine (SZh.out _).mono ?_
  rintro e w1 ⟨rfl, rfl⟩
  clear SZh
  clear cc0 cc1
  by_cases negh : lefth < 0
  · go_wp2_with fail
    go_ret
    exact ⟨rfl, S0.out.low⟩
  have HNh : Hid (nh ≤ 1048576) := Lib.hid (by have := lfh (by omega); omega)
  have cc0 := (S0.out.cell (w.heap.size, 0, .int .i64 c0) (by simp)).2
  have cc1 := (S0.out.cell (w.heap.size, 1, .int .i64 c1) (by simp)).2
  go_wp2_with fail
  refine (toChamber_any c0 c1 _).mono ?_
  rintro e w2 ⟨rfl, hb⟩
  have S1 := Lib.hid (S0.out.quiet hb)
  clear cc0 cc1
  clear hb S0
  have cc0 := (S1.out.cell (w.heap.size, 0, .int .i64 c0) (by simp)).2
  have cc1 := (S1.out.cell (w.heap.size, 1, .int .i64 c1) (by simp)).2
  go_wp2_with fail
  refine (toHullS_is ch (IVh.out _ S1.out.low) HNh.out).mono ?_
  rintro e w3 ⟨t1, rfl, hown, -, hb⟩
  have zt1 := hown.lt t1 rfl
  have bt1 : w.heap.size + 1 ≤ t1 := by have h1 := World.block_lt_of_cell? _ _ cc1; have h2 := zt1.1; simp at h1; omega
  have qt1 : w.heap.size ≤ t1 := Nat.le_trans S1.out.low.size zt1.1
  have S2 := Lib.hid ((S1.out.quiet hb).own (rHull t1 nh nh (flatHull vh)) (own_low hown S1.out.low.size))
  clear cc0 cc1
  clear hb hown zt1 S1
  have cc0 := (S2.out.cell (w.heap.size, 0, .int .i64 c0) (by simp)).2
  have cc1 := (S2.out.cell (w.heap.size, 1, .int .i64 c1) (by simp)).2
  go_wp2_with fail
  refine (fewS_any c0 c1 _ (own_Hulls (S2.out.row (rHull t1 nh nh (flatHull vh)) (by simp))) HNh.out (Nat.le_refl _) x y HA.out).mono ?_
  rintro e w4 ⟨rfl, hb⟩
  have S3 := Lib.hid (S2.out.quiet hb)
  clear cc0 cc1
  clear hb S2
  have S4 := Lib.hid (S3.out.sub (rows' := []) (by simp))
  clear S3
  have cc0 := (S4.out.cell (w.heap.size, 0, .int .i64 c0) (by simp)).2
  have cc1 := (S4.out.cell (w.heap.size, 1, .int .i64 c1) (by simp)).2
  go_wp2_with fail
  refine (toHullS_is ch (IVh.out _ S4.out.low) HNh.out).mono ?_
  rintro e w5 ⟨xh, rfl, hown, -, hb⟩
  have zxh := hown.lt xh rfl
  have bxh : w.heap.size + 1 ≤ xh := by have h1 := World.block_lt_of_cell? _ _ cc1; have h2 := zxh.1; simp at h1; omega
  have qxh : w.heap.size ≤ xh := Nat.le_trans S4.out.low.size zxh.1
  have S5 := Lib.hid ((S4.out.quiet hb).own (rHull xh nh nh (flatHull vh)) (own_low hown S4.out.low.size))
  clear cc0 cc1
  clear hb hown zxh S4
  have cc0 := (S5.out.cell (w.heap.size, 0, .int .i64 c0) (by simp)).2
  have cc1 := (S5.out.cell (w.heap.size, 1, .int .i64 c1) (by simp)).2
  go_wp2_with fail
  refine (toChamber_any c0 c1 _).mono ?_
  rintro e w6 ⟨rfl, hb⟩
  have S6 := Lib.hid (S5.out.quiet hb)
  clear cc0 cc1
  clear hb S5
  have cc0 := (S6.out.cell (w.heap.size, 0, .int .i64 c0) (by simp)).2
  have cc1 := (S6.out.cell (w.heap.size, 1, .int .i64 c1) (by simp)).2
  go_wp2_with fail
  refine (fewI_any c0 c1 _ (own_Hulls (S6.out.row (rHull xh nh nh (flatHull vh)) (by simp))) HNh.out (Nat.le_refl _) x y HA.out).mono ?_
  rintro e w7 ⟨rfl, hb⟩
  have S7 := Lib.hid (S6.out.quiet hb)
  clear cc0 cc1
  clear hb S6
  have cc0 := (S7.out.cell (w.heap.size, 0, .int .i64 c0) (by simp)).2
  have cc1 := (S7.out.cell (w.heap.size, 1, .int .i64 c1) (by simp)).2
  go_wp2_with fail
  refine (toHullS_is ch (IVh.out _ S7.out.low) HNh.out).mono ?_
  rintro e w8 ⟨t2, rfl, hown, -, hb⟩
  have zt2 := hown.lt t2 rfl
  have dt2_xh : t2 ≠ xh := by have h1 := (S7.out.lt (r := rHull xh nh nh (flatHull vh)) (by simp) (g := xh) rfl).2; have h2 := zt2.1; omega
  have bt2 : w.heap.size + 1 ≤ t2 := by have h1 := World.block_lt_of_cell? _ _ cc1; have h2 := zt2.1; simp at h1; omega
  have qt2 : w.heap.size ≤ t2 := Nat.le_trans S7.out.low.size zt2.1
  have S8 := Lib.hid ((S7.out.quiet hb).own (rHull t2 nh nh (flatHull vh)) (own_low hown S7.out.low.size))
  clear cc0 cc1
  clear hb hown zt2 S7
  have cc0 := (S8.out.cell (w.heap.size, 0, .int .i64 c0) (by simp)).2
  have cc1 := (S8.out.cell (w.heap.size, 1, .int .i64 c1) (by simp)).2
  go_wp2_with fail
  refine (eqHullS_is _ _ (own_Hulls (S8.out.row (rHull xh nh nh (flatHull vh)) (by simp))) (own_Hulls (S8.out.row (rHull t2 nh nh (flatHull vh)) (by simp))) (Nat.le_trans HNh.out (by unfold maxLen; omega))).mono ?_
  rintro e w9 ⟨rfl, hb⟩
  have S9 := Lib.hid (S8.out.quiet hb)
  clear cc0 cc1
  clear hb S8
  have S10 := Lib.hid (S9.out.sub (rows' := [rHull xh nh nh (flatHull vh)]) (by simp))
  clear S9
  have cc0 := (S10.out.cell (w.heap.size, 0, .int .i64 c0) (by simp)).2
  have cc1 := (S10.out.cell (w.heap.size, 1, .int .i64 c1) (by simp)).2
  go_wp2_with fail
  go_ret
  exact ⟨rfl, S10.out.low⟩
theorem own : ownKnob Try.prog.godebug = none := by kernel_rfl
theorem laidOut : laidOutB Try.prog = true := by kernel_rfl

set_option maxRecDepth 100000 in
theorem lifted (os : Os) (started : os.Started) (H : Type) (enc : TypeId × Value → H) :
    ReturnsInHanded {} Try.checked os 9 .any (Rows.fnExactFewestLockagesSpec.pre6 enc Try.prog Try.f9 Rows.fnExactFewestLockagesRow.domain false) (Rows.fnExactFewestLockagesSpec.post enc Try.prog Try.f9 false true false false) := by
  refine returnsInHanded_of_change (C := Try.checked) own started (by kernel_rfl) Try.func9
    (ChangeSpec.witness6 (enc := enc) (C := Try.checked) false ⟨#[], #[.agg #[.int .i64 0, .int .i64 0], .slice none 0 0], []⟩ 8 (by kernel_rfl) (by kernel_rfl) (by kernel_rfl) (by kernel_rfl)) ?_
  intro W base args ds gs before hval0 hW hcnd _
  have hval : ∀ (j : Nat) t v, Try.f9.params[j]? = some t → args[j]? = some v → Value.okWide Try.prog W .any base t v := hval0
  have hW' := hW
  obtain ⟨p, q, hA0, hV, rfl, hfz, hnd⟩ := hW
  have hA : DataW.TrodAll enc Try.prog W 0 (fun _ => true) true Try.f9.params.toList args.toList ds p := hA0
  rw [Try.params9] at hA hval
  obtain ⟨v0, vs0, d0, ds0, p0, q0, hargs, rfl, rfl, h0, r0⟩ := trodAll_cons hA
  obtain ⟨v1, vs1, d1, ds1, p1, q1, rfl, rfl, rfl, h1, r1⟩ := trodAll_cons r0
  obtain ⟨rfl, rfl, rfl⟩ := trodAll_nil r1
  obtain rfl : args = #[v0, v1] := by cases args; simp_all
  obtain ⟨rfl, rfl⟩ := trodVars_none hV
  have k0 := h0
  have lt0 : ∀ x ∈ p0, x.block < W.heap.size := by obtain ⟨m, hm⟩ := k0; exact DataW.trod_lt m _ _ _ hm
  obtain ⟨x0_0, x0_1, rfl⟩ := open_Chamber Try.underlying30 (by kernel_rfl) (by kernel_rfl) Try.underlying3 Try.underlying3 (hval 0 30 v0 rfl rfl) h0
  have k1 := h1
  have lt1 : ∀ x ∈ p1, x.block < W.heap.size := by obtain ⟨m, hm⟩ := k1; exact DataW.trod_lt m _ _ _ hm
  obtain ⟨a1, len1, cap1, rfl⟩ := okWide_slice Try.underlying22 (hval 1 22 v1 rfl rfl)
  obtain ⟨z1, wl1, wm1, wh1⟩ : ∃ vs : List THull, vs.length = len1 ∧ len1 ≤ maxLen ∧ Has W W.heap.size a1 (flatHull vs) := by
    obtain ⟨fuel, hf⟩ := h1
    obtain ⟨A, l, c, vs, hcs, h1, h2, h4⟩ := open_Hulls Try.underlying22 Try.underlying85 (by kernel_rfl) (by kernel_rfl) Try.underlying3 Try.underlying3 Try.underlying3 hf
    simp [Value.cells] at hcs
    obtain ⟨rfl, rfl, rfl⟩ := hcs
    exact ⟨vs, h1, h2, h4⟩
  clear hA0 hval0
  refine (walk x0_0 x0_1 a1 len1 cap1 z1 W wl1 wm1 wh1).mono fun e W' ⟨he, bel⟩ => ?_
  subst he
  exact ⟨_, rfl, _, _, _, [], _, [], hW', trodAll_mk1 (shut_bool Try.underlying4 _), (trodAll_cons_mk (Below.trod laidOut (by kernel_rfl) (of_decide_eq_true (by kernel_rfl)) k0 bel lt0) (trodAll_cons_mk (Below.trod laidOut (by kernel_rfl) (of_decide_eq_true (by kernel_rfl)) k1 bel lt1) trodAll_mk0)), rfl, bel.frame _, fun h => by cases h⟩

theorem over : Rows.fnExactFewestLockagesRow.holds Try.pinned (OpenSpec.ofChange Rows.fnExactFewestLockagesSpec) :=
  OpenClaim.holds_of_wide 9 Try.f9 rfl rfl rfl rfl rfl rfl rfl ⟨rfl, rfl, rfl, rfl, rfl⟩ rfl rfl rfl rfl rfl (by kernel_rfl) Try.func9 (by kernel_rfl)
    (of_decide_eq_true (by kernel_rfl)) (by unfold Func.isWrapper; first | (rw [if_pos (by decide +kernel)]; kernel_rfl) | (rw [if_neg (by decide +kernel)]; exact ⟨rfl, rfl⟩))
    (fun os started H enc _ => lifted os started H enc)

/-- The statement. -/
theorem proved : Rows.FnExactFewestLockagesSaid := over
end Go.Proofs.Ytiecmhkbcoogoaa.fnExactFewestLockages
