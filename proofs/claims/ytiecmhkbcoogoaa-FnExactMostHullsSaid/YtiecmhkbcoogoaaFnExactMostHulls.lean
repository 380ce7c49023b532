/- MostHulls answers as its model does, at every chamber and list of hulls; it writes into no argument and its answer owns its memory. -/
import Derived.Test.YtiecmhkbcoogoaaChT
import Derived.Test.YtiecmhkbcoogoaaSt0
import Derived.OpenShut
import Derived.ShutString
import Derived.ChangeOld
import Derived.WalkLawsBesides
import Derived.Lib.SmallJoins
import Derived.Deep.RegionHeld3
namespace Go.Proofs.Ytiecmhkbcoogoaa.fnExactMostHulls
open Go.ChangeShapes Go.WideShapes Go.ChangeAt Go.RowKit
open Go.ChangeMaps (open_string shut_string)
set_option linter.unusedVariables false
set_option linter.unusedSimpArgs false

abbrev rHull (g n c : Nat) (xs : List Value) : RowOf := ⟨64, 3, .slice (some ⟨g, 0, none⟩) n c, n, xs⟩
abbrev ri (g n c : Nat) (xs : List Value) : RowOf := ⟨3, 1, .slice (some ⟨g, 0, none⟩) n c, n, xs⟩

set_option maxRecDepth 100000 in
set_option maxHeartbeats 4000000 in
theorem walk (c0 c1 : Int) (Ah : Option Addr) (nh ch : Nat) (vh : List THull) (w : World) (hnh : vh.length = nh) (hmh : nh ≤ maxLen) (hhh : Has w w.heap.size Ah (flatHull vh)) :
    Calls Try.prog 8 #[.agg #[.int .i64 c0, .int .i64 c1], .slice Ah nh ch] w fun e w' => e = .returned (.bool true) ∧ Below w.heap.size w w' := by
  have ivh : IsHulls w w.heap.size Ah nh vh := ⟨hnh, Nat.le_refl _, hhh⟩
  have IVh := Lib.hid (fun W (hb : Below w.heap.size w W) => ivh.below hb (Nat.le_refl _))
  have HMh := Lib.hid hmh
  obtain ⟨L, x, hA⟩ := mostA_ex ⟨c0, c1⟩ vh
  have HA := Lib.hid hA
  have HLB : Hid (L.length ≤ 4) := Lib.hid hA.len
  have hxx : (x != x) = false := by simp
  clear hA
  clear hnh hhh ivh
  go_enter Try.func8, Try.ntmps8
  have S0 : Hid (St w [(w.heap.size, 0, .int .i64 c0), (w.heap.size, 1, .int .i64 c1)] [] (World.alloc w (.cells #[.int .i64 c0, .int .i64 c1] 30))) := Lib.hid (by
    have k0 := ((St.start w)).quiet (Below.alloc (Below.refl _ w) (Nat.le_refl _) (.cells #[.int .i64 c0, .int .i64 c1] 30))
    have j0 := k0.cells (ds := [(w.heap.size, 0, .int .i64 c0), (w.heap.size, 1, .int .i64 c1)]) (fun p hp => by
      simp only [List.mem_cons, List.not_mem_nil, or_false] at hp
      rcases hp with rfl | rfl
      · exact ⟨by omega, by rw [sNew]; rfl⟩
      · exact ⟨by omega, by rw [sNew]; rfl⟩)
    exact j0)
  obtain ⟨lefth, l0h, l1h, lfh, szh⟩ := szHullS_is Ah nh ch 1048576 HMh.out (by omega) (by omega)
  have SZh := Lib.hid szh
  clear szh
  have cc0 := (S0.out.cell (w.heap.size, 0, .int .i64 c0) (by simp)).2
  have cc1 := (S0.out.cell (w.heap.size, 1, .int .i64 c1) (by simp)).2
  go_wp2_with fail
  refine (SZh.out _).mono ?_
  rintro e w1 ⟨rfl, rfl⟩
  clear SZh
  clear cc0 cc1
  by_cases negh : lefth < 0
  · go_wp2_with fail
    go_ret
    exact ⟨rfl, S0.out.low⟩
  have HNh : Hid (nh ≤ 1048576) := Lib.hid (by have := lfh (by omega); omega)
  obtain ⟨Ln, hLn⟩ : ∃ k, L.length = k := ⟨_, rfl⟩
  have HLn := Lib.hid hLn
  have hLb : Ln ≤ 4 := by rw [← hLn]; exact HLB.out
  clear hLn
  have cc0 := (S0.out.cell (w.heap.size, 0, .int .i64 c0) (by simp)).2
  have cc1 := (S0.out.cell (w.heap.size, 1, .int .i64 c1) (by simp)).2
  go_wp2_with fail
  refine (toChamber_any c0 c1 _).mono ?_
  rintro e w2 ⟨rfl, hb⟩
  have S1 := Lib.hid (S0.out.quiet hb)
  clear cc0 cc1
  clear hb S0
  have cc0 := (S1.out.cell (w.heap.size, 0, .int .i64 c0) (by simp)).2
  have cc1 := (S1.out.cell (w.heap.size, 1, .int .i64 c1) (by simp)).2
  go_wp2_with fail
  refine (toHullS_is ch (IVh.out _ S1.out.low) HNh.out).mono ?_
  rintro e w3 ⟨t1, rfl, hown, -, hb⟩
  have zt1 := hown.lt t1 rfl
  have bt1 : w.heap.size + 1 ≤ t1 := by have h1 := World.block_lt_of_cell? _ _ cc1; have h2 := zt1.1; simp at h1; omega
  have qt1 : w.heap.size ≤ t1 := Nat.le_trans S1.out.low.size zt1.1
  have S2 := Lib.hid ((S1.out.quiet hb).own (rHull t1 nh nh (flatHull vh)) (own_low hown S1.out.low.size))
  clear cc0 cc1
  clear hb hown zt1 S1
  have cc0 := (S2.out.cell (w.heap.size, 0, .int .i64 c0) (by simp)).2
  have cc1 := (S2.out.cell (w.heap.size, 1, .int .i64 c1) (by simp)).2
  go_wp2_with fail
  refine (mostS_any c0 c1 _ (own_Hulls (S2.out.row (rHull t1 nh nh (flatHull vh)) (by simp))) HNh.out (Nat.le_refl _) L x HA.out Ln HLn.out).mono ?_
  rintro e w4 ⟨gw, cgw, rfl, hown, hb⟩
  have zgw := hown.lt gw rfl
  have dgw_t1 : gw ≠ t1 := by have h1 := (S2.out.lt (r := rHull t1 nh nh (flatHull vh)) (by simp) (g := t1) rfl).2; have h2 := zgw.1; omega
  have bgw : w.heap.size + 1 ≤ gw := by have h1 := World.block_lt_of_cell? _ _ cc1; have h2 := zgw.1; simp at h1; omega
  have qgw : w.heap.size ≤ gw := Nat.le_trans S2.out.low.size zgw.1
  have S3 := Lib.hid ((S2.out.quiet hb).own (ri gw Ln cgw (L.map (.int .i64))) (own_low hown S2.out.low.size))
  clear cc0 cc1
  clear hb hown zgw S2
  have S4 := Lib.hid (S3.out.sub (rows' := [ri gw Ln cgw (L.map (.int .i64))]) (by simp))
  clear S3
  have cc0 := (S4.out.cell (w.heap.size, 0, .int .i64 c0) (by simp)).2
  have cc1 := (S4.out.cell (w.heap.size, 1, .int .i64 c1) (by simp)).2
  go_wp2_with fail
  refine (toHullS_is ch (IVh.out _ S4.out.low) HNh.out).mono ?_
  rintro e w5 ⟨xh, rfl, hown, -, hb⟩
  have zxh := hown.lt xh rfl
  have dxh_gw : xh ≠ gw := by have h1 := (S4.out.lt (r := ri gw Ln cgw (L.map (.int .i64))) (by simp) (g := gw) rfl).2; have h2 := zxh.1; omega
  have bxh : w.heap.size + 1 ≤ xh := by have h1 := World.block_lt_of_cell? _ _ cc1; have h2 := zxh.1; simp at h1; omega
  have qxh : w.heap.size ≤ xh := Nat.le_trans S4.out.low.size zxh.1
  have S5 := Lib.hid ((S4.out.quiet hb).own (rHull xh nh nh (flatHull vh)) (own_low hown S4.out.low.size))
  clear cc0 cc1
  clear hb hown zxh S4
  have cc0 := (S5.out.cell (w.heap.size, 0, .int .i64 c0) (by simp)).2
  have cc1 := (S5.out.cell (w.heap.size, 1, .int .i64 c1) (by simp)).2
  go_wp2_with fail
  refine (toChamber_any c0 c1 _).mono ?_
  rintro e w6 ⟨rfl, hb⟩
  have S6 := Lib.hid (S5.out.quiet hb)
  clear cc0 cc1
  clear hb S5
  have cc0 := (S6.out.cell (w.heap.size, 0, .int .i64 c0) (by simp)).2
  have cc1 := (S6.out.cell (w.heap.size, 1, .int .i64 c1) (by simp)).2
  go_wp2_with fail
  refine (mostI_any c0 c1 _ (own_Hulls (S6.out.row (rHull xh nh nh (flatHull vh)) (by simp))) HNh.out (Nat.le_refl _) L x HA.out Ln HLn.out).mono ?_
  rintro e w7 ⟨gg, cgg, rfl, hown, hb⟩
  have zgg := hown.lt gg rfl
  have dgg_xh : gg ≠ xh := by have h1 := (S6.out.lt (r := rHull xh nh nh (flatHull vh)) (by simp) (g := xh) rfl).2; have h2 := zgg.1; omega
  have dgg_gw : gg ≠ gw := by have h1 := (S6.out.lt (r := ri gw Ln cgw (L.map (.int .i64))) (by simp) (g := gw) rfl).2; have h2 := zgg.1; omega
  have bgg : w.heap.size + 1 ≤ gg := by have h1 := World.block_lt_of_cell? _ _ cc1; have h2 := zgg.1; simp at h1; omega
  have qgg : w.heap.size ≤ gg := Nat.le_trans S6.out.low.size zgg.1
  have S7 := Lib.hid ((S6.out.quiet hb).own (ri gg Ln cgg (L.map (.int .i64))) (own_low hown S6.out.low.size))
  clear cc0 cc1
  clear hb hown zgg S6
  have cc0 := (S7.out.cell (w.heap.size, 0, .int .i64 c0) (by simp)).2
  have cc1 := (S7.out.cell (w.heap.size, 1, .int .i64 c1) (by simp)).2
  go_wp2_with fail
  refine (eqI_same _ _ Ln _ _ _ _ L _ HLn.out (by unfold maxLen; omega) (own_hasv (S7.out.row (ri gg Ln cgg (L.map (.int .i64))) (by simp))) (own_hasv (S7.out.row (ri gw Ln cgw (L.map (.int .i64))) (by simp)))).mono ?_
  rintro e w8 ⟨rfl, hD⟩
  have S8 := Lib.hid (S7.out.drawn hD)
  clear cc0 cc1
  clear hD S7
  have cc0 := (S8.out.cell (w.heap.size, 0, .int .i64 c0) (by simp)).2
  have cc1 := (S8.out.cell (w.heap.size, 1, .int .i64 c1) (by simp)).2
  go_wp2_with fail
  refine (toHullS_is ch (IVh.out _ S8.out.low) HNh.out).mono ?_
  rintro e w9 ⟨t2, rfl, hown, -, hb⟩
  have zt2 := hown.lt t2 rfl
  have dt2_gg : t2 ≠ gg := by have h1 := (S8.out.lt (r := ri gg Ln cgg (L.map (.int .i64))) (by simp) (g := gg) rfl).2; have h2 := zt2.1; omega
  have dt2_xh : t2 ≠ xh := by have h1 := (S8.out.lt (r := rHull xh nh nh (flatHull vh)) (by simp) (g := xh) rfl).2; have h2 := zt2.1; omega
  have dt2_gw : t2 ≠ gw := by have h1 := (S8.out.lt (r := ri gw Ln cgw (L.map (.int .i64))) (by simp) (g := gw) rfl).2; have h2 := zt2.1; omega
  have bt2 : w.heap.size + 1 ≤ t2 := by have h1 := World.block_lt_of_cell? _ _ cc1; have h2 := zt2.1; simp at h1; omega
  have qt2 : w.heap.size ≤ t2 := Nat.le_trans S8.out.low.size zt2.1
  have S9 := Lib.hid ((S8.out.quiet hb).own (rHull t2 nh nh (flatHull vh)) (own_low hown S8.out.low.size))
  clear cc0 cc1
  clear hb hown zt2 S8
  have cc0 := (S9.out.cell (w.heap.size, 0, .int .i64 c0) (by simp)).2
  have cc1 := (S9.out.cell (w.heap.size, 1, .int .i64 c1) (by simp)).2
  go_wp2_with fail
  refine (eqHullS_is _ _ (own_Hulls (S9.out.row (rHull xh nh nh (flatHull vh)) (by simp))) (own_Hulls (S9.out.row (rHull t2 nh nh (flatHull vh)) (by simp))) (Nat.le_trans HNh.out (by unfold maxLen; omega))).mono ?_
  rintro e w10 ⟨rfl, hb⟩
  have S10 := Lib.hid (S9.out.quiet hb)
  clear cc0 cc1
  clear hb S9
  have S11 := Lib.hid (S10.out.sub (rows' := [ri gg Ln cgg (L.map (.int .i64)), rHull xh nh nh (flatHull vh), ri gw Ln cgw (L.map (.int .i64))]) (by simp))
  clear S10
  have hNh := HNh.out
  have cc0 := (S11.out.cell (w.heap.size, 0, .int .i64 c0) (by simp)).2
  have cc1 := (S11.out.cell (w.heap.size, 1, .int .i64 c1) (by simp)).2
  go_wp2_with fail
  refine (markHullS_any xh nh nh w.heap.size (1) _ _ (by omega) (by omega) (S11.out.row (rHull xh nh nh (flatHull vh)) (by simp))).mono ?_
  rintro e w11 ⟨rfl, hoM, hgr⟩
  clear cc0 cc1
  have T8 := S11.out.sub (rows' := [rHull xh nh nh (flatHull vh), ri gg Ln cgg (L.map (.int .i64)), ri gw Ln cgw (L.map (.int .i64))]) (by simp)
  have S12 := Lib.hid (T8.turn (r' := rHull xh nh nh (flatHull (mkHull (1) nh))) hgr (fun q e => by cases e; omega) (by simp; omega) (by simp [Value.ownBlock]; omega) hoM)
  clear T8 hoM hgr S11
  have S13 := Lib.hid (S12.out.sub (rows' := [ri gg Ln cgg (L.map (.int .i64)), ri gw Ln cgw (L.map (.int .i64))]) (by simp))
  clear S12
  have hkk : ¬ (1 + 3 * (nh : Int) < 0) := by omega
  have cc0 := (S13.out.cell (w.heap.size, 0, .int .i64 c0) (by simp)).2
  have cc1 := (S13.out.cell (w.heap.size, 1, .int .i64 c1) (by simp)).2
  go_wp2_with fail
  refine (eqI_same _ _ Ln _ _ _ _ L _ HLn.out (by unfold maxLen; omega) (own_hasv (S13.out.row (ri gg Ln cgg (L.map (.int .i64))) (by simp))) (own_hasv (S13.out.row (ri gw Ln cgw (L.map (.int .i64))) (by simp)))).mono ?_
  rintro e w12 ⟨rfl, hD⟩
  have S14 := Lib.hid (S13.out.drawn hD)
  clear cc0 cc1
  clear hD S13
  have cc0 := (S14.out.cell (w.heap.size, 0, .int .i64 c0) (by simp)).2
  have cc1 := (S14.out.cell (w.heap.size, 1, .int .i64 c1) (by simp)).2
  go_wp2_with fail
  refine (markI_any gg Ln cgg w.heap.size (1) _ _ (by omega) (by omega) (S14.out.row (ri gg Ln cgg (L.map (.int .i64))) (by simp))).mono ?_
  rintro e w13 ⟨rfl, hoM, hgr⟩
  clear cc0 cc1
  have T8 := S14.out.sub (rows' := [ri gg Ln cgg (L.map (.int .i64)), ri gw Ln cgw (L.map (.int .i64))]) (by simp)
  have S15 := Lib.hid (T8.turn (r' := ri gg Ln cgg (nums (1) Ln)) hgr (fun q e => by cases e; omega) (by simp; omega) (by simp [Value.ownBlock]; omega) hoM)
  clear T8 hoM hgr S14
  have cc0 := (S15.out.cell (w.heap.size, 0, .int .i64 c0) (by simp)).2
  have cc1 := (S15.out.cell (w.heap.size, 1, .int .i64 c1) (by simp)).2
  go_wp2_with fail
  refine (heldI_any _ Ln cgg _ 1 _ (by omega) (by omega) (own_hasv (S15.out.row (ri gg Ln cgg (nums (1) Ln)) (by simp)))).mono ?_
  rintro e w14 ⟨rfl, rfl⟩
  clear cc0 cc1
  have hq1 : ¬ (1 + (Ln : Int) < 0) := by omega
  have hq2 : ((1 + (Ln : Int)) != (1 + (Ln : Int))) = false := by simp
  have cc0 := (S15.out.cell (w.heap.size, 0, .int .i64 c0) (by simp)).2
  have cc1 := (S15.out.cell (w.heap.size, 1, .int .i64 c1) (by simp)).2
  go_wp2_with fail
  refine (toChamber_any c0 c1 _).mono ?_
  rintro e w15 ⟨rfl, hb⟩
  have S16 := Lib.hid (S15.out.quiet hb)
  clear cc0 cc1
  clear hb S15
  have cc0 := (S16.out.cell (w.heap.size, 0, .int .i64 c0) (by simp)).2
  have cc1 := (S16.out.cell (w.heap.size, 1, .int .i64 c1) (by simp)).2
  go_wp2_with fail
  refine (toHullS_is ch (IVh.out _ S16.out.low) HNh.out).mono ?_
  rintro e w16 ⟨t3, rfl, hown, -, hb⟩
  have zt3 := hown.lt t3 rfl
  have dt3_gg : t3 ≠ gg := by have h1 := (S16.out.lt (r := ri gg Ln cgg (nums (1) Ln)) (by simp) (g := gg) rfl).2; have h2 := zt3.1; omega
  have dt3_gw : t3 ≠ gw := by have h1 := (S16.out.lt (r := ri gw Ln cgw (L.map (.int .i64))) (by simp) (g := gw) rfl).2; have h2 := zt3.1; omega
  have bt3 : w.heap.size + 1 ≤ t3 := by have h1 := World.block_lt_of_cell? _ _ cc1; have h2 := zt3.1; simp at h1; omega
  have qt3 : w.heap.size ≤ t3 := Nat.le_trans S16.out.low.size zt3.1
  have S17 := Lib.hid ((S16.out.quiet hb).own (rHull t3 nh nh (flatHull vh)) (own_low hown S16.out.low.size))
  clear cc0 cc1
  clear hb hown zt3 S16
  have cc0 := (S17.out.cell (w.heap.size, 0, .int .i64 c0) (by simp)).2
  have cc1 := (S17.out.cell (w.heap.size, 1, .int .i64 c1) (by simp)).2
  go_wp2_with fail
  refine (mostI_any c0 c1 _ (own_Hulls (S17.out.row (rHull t3 nh nh (flatHull vh)) (by simp))) HNh.out (Nat.le_refl _) L x HA.out Ln HLn.out).mono ?_
  rintro e w17 ⟨gh, cgh, rfl, hown, hb⟩
  have zgh := hown.lt gh rfl
  have dgh_t3 : gh ≠ t3 := by have h1 := (S17.out.lt (r := rHull t3 nh nh (flatHull vh)) (by simp) (g := t3) rfl).2; have h2 := zgh.1; omega
  have dgh_gg : gh ≠ gg := by have h1 := (S17.out.lt (r := ri gg Ln cgg (nums (1) Ln)) (by simp) (g := gg) rfl).2; have h2 := zgh.1; omega
  have dgh_gw : gh ≠ gw := by have h1 := (S17.out.lt (r := ri gw Ln cgw (L.map (.int .i64))) (by simp) (g := gw) rfl).2; have h2 := zgh.1; omega
  have bgh : w.heap.size + 1 ≤ gh := by have h1 := World.block_lt_of_cell? _ _ cc1; have h2 := zgh.1; simp at h1; omega
  have qgh : w.heap.size ≤ gh := Nat.le_trans S17.out.low.size zgh.1
  have S18 := Lib.hid ((S17.out.quiet hb).own (ri gh Ln cgh (L.map (.int .i64))) (own_low hown S17.out.low.size))
  clear cc0 cc1
  clear hb hown zgh S17
  have S19 := Lib.hid (S18.out.sub (rows' := [ri gh Ln cgh (L.map (.int .i64)), ri gg Ln cgg (nums (1) Ln), ri gw Ln cgw (L.map (.int .i64))]) (by simp))
  clear S18
  have cc0 := (S19.out.cell (w.heap.size, 0, .int .i64 c0) (by simp)).2
  have cc1 := (S19.out.cell (w.heap.size, 1, .int .i64 c1) (by simp)).2
  go_wp2_with fail
  refine (eqI_same _ _ Ln _ _ _ _ L _ HLn.out (by unfold maxLen; omega) (own_hasv (S19.out.row (ri gh Ln cgh (L.map (.int .i64))) (by simp))) (own_hasv (S19.out.row (ri gw Ln cgw (L.map (.int .i64))) (by simp)))).mono ?_
  rintro e w18 ⟨rfl, hD⟩
  have S20 := Lib.hid (S19.out.drawn hD)
  clear cc0 cc1
  clear hD S19
  have cc0 := (S20.out.cell (w.heap.size, 0, .int .i64 c0) (by simp)).2
  have cc1 := (S20.out.cell (w.heap.size, 1, .int .i64 c1) (by simp)).2
  go_wp2_with fail
  refine (heldI_any _ Ln cgg _ 1 _ (by omega) (by omega) (own_hasv (S20.out.row (ri gg Ln cgg (nums (1) Ln)) (by simp)))).mono ?_
  rintro e w19 ⟨rfl, rfl⟩
  clear cc0 cc1
  have cc0 := (S20.out.cell (w.heap.size, 0, .int .i64 c0) (by simp)).2
  have cc1 := (S20.out.cell (w.heap.size, 1, .int .i64 c1) (by simp)).2
  go_wp2_with fail
  go_ret
  exact ⟨rfl, S20.out.low⟩
theorem own : ownKnob Try.prog.godebug = none := by kernel_rfl
theorem laidOut : laidOutB Try.prog = true := by kernel_rfl

set_option maxRecDepth 100000 in
theorem lifted (os : Os) (started : os.Started) (H : Type) (enc : TypeId × Value → H) :
    ReturnsInHanded {} Try.checked os 8 .any (Rows.fnExactMostHullsSpec.pre6 enc Try.prog Try.f8 Rows.fnExactMostHullsRow.domain false) (Rows.fnExactMostHullsSpec.post enc Try.prog Try.f8 false true false false) := by
  refine returnsInHanded_of_change (C := Try.checked) own started (by kernel_rfl) Try.func8
    (ChangeSpec.witness6 (enc := enc) (C := Try.checked) false ⟨#[], #[.agg #[.int .i64 0, .int .i64 0], .slice none 0 0], []⟩ 8 (by kernel_rfl) (by kernel_rfl) (by kernel_rfl) (by kernel_rfl)) ?_
  intro W base args ds gs before hval0 hW hcnd _
  have hval : ∀ (j : Nat) t v, Try.f8.params[j]? = some t → args[j]? = some v → Value.okWide Try.prog W .any base t v := hval0
  have hW' := hW
  obtain ⟨p, q, hA0, hV, rfl, hfz, hnd⟩ := hW
  have hA : DataW.TrodAll enc Try.prog W 0 (fun _ => true) true Try.f8.params.toList args.toList ds p := hA0
  rw [Try.params8] at hA hval
  obtain ⟨v0, vs0, d0, ds0, p0, q0, hargs, rfl, rfl, h0, r0⟩ := trodAll_cons hA
  obtain ⟨v1, vs1, d1, ds1, p1, q1, rfl, rfl, rfl, h1, r1⟩ := trodAll_cons r0
  obtain ⟨rfl, rfl, rfl⟩ := trodAll_nil r1
  obtain rfl : args = #[v0, v1] := by cases args; simp_all
  obtain ⟨rfl, rfl⟩ := trodVars_none hV
  have k0 := h0
  have lt0 : ∀ x ∈ p0, x.block < W.heap.size := by obtain ⟨m, hm⟩ := k0; exact DataW.trod_lt m _ _ _ hm
  obtain ⟨x0_0, x0_1, rfl⟩ := open_Chamber Try.underlying30 (by kernel_rfl) (by kernel_rfl) Try.underlying3 Try.underlying3 (hval 0 30 v0 rfl rfl) h0
  have k1 := h1
  have lt1 : ∀ x ∈ p1, x.block < W.heap.size := by obtain ⟨m, hm⟩ := k1; exact DataW.trod_lt m _ _ _ hm
  obtain ⟨a1, len1, cap1, rfl⟩ := okWide_slice Try.underlying22 (hval 1 22 v1 rfl rfl)
  obtain ⟨z1, wl1, wm1, wh1⟩ : ∃ vs : List THull, vs.length = len1 ∧ len1 ≤ maxLen ∧ Has W W.heap.size a1 (flatHull vs) := by
    obtain ⟨fuel, hf⟩ := h1
    obtain ⟨A, l, c, vs, hcs, h1, h2, h4⟩ := open_Hulls Try.underlying22 Try.underlying85 (by kernel_rfl) (by kernel_rfl) Try.underlying3 Try.underlying3 Try.underlying3 hf
    simp [Value.cells] at hcs
    obtain ⟨rfl, rfl, rfl⟩ := hcs
    exact ⟨vs, h1, h2, h4⟩
  clear hA0 hval0
  refine (walk x0_0 x0_1 a1 len1 cap1 z1 W wl1 wm1 wh1).mono fun e W' ⟨he, bel⟩ => ?_
  subst he
  exact ⟨_, rfl, _, _, _, [], _, [], hW', trodAll_mk1 (shut_bool Try.underlying4 _), (trodAll_cons_mk (Below.trod laidOut (by kernel_rfl) (of_decide_eq_true (by kernel_rfl)) k0 bel lt0) (trodAll_cons_mk (Below.trod laidOut (by kernel_rfl) (of_decide_eq_true (by kernel_rfl)) k1 bel lt1) trodAll_mk0)), rfl, bel.frame _, fun h => by cases h⟩

theorem over : Rows.fnExactMostHullsRow.holds Try.pinned (OpenSpec.ofChange Rows.fnExactMostHullsSpec) :=
  OpenClaim.holds_of_wide 8 Try.f8 rfl rfl rfl rfl rfl rfl rfl ⟨rfl, rfl, rfl, rfl, rfl⟩ rfl rfl rfl rfl rfl (by kernel_rfl) Try.func8 (by kernel_rfl)
    (of_decide_eq_true (by kernel_rfl)) (by unfold Func.isWrapper; first | (rw [if_pos (by decide +kernel)]; kernel_rfl) | (rw [if_neg (by decide +kernel)]; exact ⟨rfl, rfl⟩))
    (fun os started H enc _ => lifted os started H enc)

/-- The statement. -/
theorem proved : Rows.FnExactMostHullsSaid := over
end Go.Proofs.Ytiecmhkbcoogoaa.fnExactMostHulls
