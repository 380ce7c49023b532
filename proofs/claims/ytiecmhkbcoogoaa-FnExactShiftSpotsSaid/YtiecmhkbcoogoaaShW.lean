/- ShiftSpots answers as its model does, at every chamber, list of hulls, list of spots and number; it writes into no argument and its answer owns its memory. -/
import Derived.Test.YtiecmhkbcoogoaaChX
import Derived.Test.YtiecmhkbcoogoaaSt0
import Derived.OpenShut
import Derived.ShutString
import Derived.ChangeOld
import Derived.WalkLawsBesides
import Derived.Lib.SmallJoins
import Derived.Deep.RegionHeld3
namespace Go.Proofs.Ytiecmhkbcoogoaa.fnExactShiftSpots
open Go.ChangeShapes Go.WideShapes Go.ChangeAt Go.RowKit
open Go.ChangeMaps (open_string shut_string)
set_option linter.unusedVariables false
set_option linter.unusedSimpArgs false

abbrev rHull (g n c : Nat) (xs : List Value) : RowOf := ⟨64, 3, .slice (some ⟨g, 0, none⟩) n c, n, xs⟩
abbrev rSpot (g n c : Nat) (xs : List Value) : RowOf := ⟨70, 2, .slice (some ⟨g, 0, none⟩) n c, n, xs⟩
abbrev ri (g n c : Nat) (xs : List Value) : RowOf := ⟨3, 1, .slice (some ⟨g, 0, none⟩) n c, n, xs⟩

set_option maxRecDepth 100000 in
set_option maxHeartbeats 4000000 in
theorem walk (c0 c1 : Int) (Ah : Option Addr) (nh ch : Nat) (vh : List THull) (As : Option Addr) (ns cs : Nat) (vs : List TSpot) (by1 : Int) (w : World) (hnh : vh.length = nh) (hmh : nh ≤ maxLen) (hhh : Has w w.heap.size Ah (flatHull vh)) (hns : vs.length = ns) (hms : ns ≤ maxLen) (hhs : Has w w.heap.size As (flatSpot vs)) (kby1 : (Lit.int .i64 by1).wf = true) :
    Calls Try.prog 11 #[.agg #[.int .i64 c0, .int .i64 c1], .slice Ah nh ch, .slice As ns cs, .int .i64 by1] w fun e w' => e = .returned (.bool true) ∧ Below w.heap.size w w' := by
  have ivh : IsHulls w w.heap.size Ah nh vh := ⟨hnh, Nat.le_refl _, hhh⟩
  have IVh := Lib.hid (fun W (hb : Below w.heap.size w W) => ivh.below hb (Nat.le_refl _))
  have HMh := Lib.hid hmh
  have ivs : IsSpots w w.heap.size As ns vs := ⟨hns, Nat.le_refl _, hhs⟩
  have IVs := Lib.hid (fun W (hb : Below w.heap.size w W) => ivs.below hb (Nat.le_refl _))
  have HMs := Lib.hid hms
  obtain ⟨L, x, hA⟩ := shA_ex ⟨c0, c1⟩ vh vs by1
  have HA := Lib.hid hA
  have HLB : Hid (L.length ≤ 4) := Lib.hid hA.len
  have hxx : (x != x) = false := by simp
  clear hA
  clear hnh hhh ivh hns hhs ivs
  go_enter Try.func11, Try.ntmps11
  have S0 : Hid (St w [(w.heap.size, 0, .int .i64 c0), (w.heap.size, 1, .int .i64 c1)] [] (World.alloc w (.cells #[.int .i64 c0, .int .i64 c1] 30))) := Lib.hid (by
    have k0 := ((St.start w)).quiet (Below.alloc (Below.refl _ w) (Nat.le_refl _) (.cells #[.int .i64 c0, .int .i64 c1] 30))
    have j0 := k0.cells (ds := [(w.heap.size, 0, .int .i64 c0), (w.heap.size, 1, .int .i64 c1)]) (fun p hp => by
      simp only [List.mem_cons, List.not_mem_nil, or_false] at hp
      rcases hp with rfl | rfl
      · exact ⟨by omega, by rw [sNew]; rfl⟩
      · exact ⟨by omega, by rw [sNew]; rfl⟩)
    exact j0)
  obtain ⟨lefth, l0h, l1h, lfh, szh⟩ := szHullS_is Ah nh ch 1048576 HMh.out (by omega) (by omega)
  have SZh := Lib.hid szh
  clear szh
  have cc0 := (S0.out.cell (w.heap.size, 0, .int .i64 c0) (by simp)).2
  have cc1 := (S0.out.cell (w.heap.size, 1, .int .i64 c1) (by simp)).2
  go_wp2_with fail
  refine (SZh.out _).mono ?_
  rintro e w1 ⟨rfl, rfl⟩
  clear SZh
  clear cc0 cc1
  by_cases negh : lefth < 0
  · go_wp2_with fail
    go_ret
    exact ⟨rfl, S0.out.low⟩
  obtain ⟨lefts, l0s, l1s, lfs, szs⟩ := szSpotS_is As ns cs lefth HMs.out (by omega) (by omega)
  have SZs := Lib.hid szs
  clear szs
  have cc0 := (S0.out.cell (w.heap.size, 0, .int .i64 c0) (by simp)).2
  have cc1 := (S0.out.cell (w.heap.size, 1, .int .i64 c1) (by simp)).2
  go_wp2_with fail
  refine (SZs.out _).mono ?_
  rintro e w2 ⟨rfl, rfl⟩
  clear SZs
  clear cc0 cc1
  by_cases negs : lefts < 0
  · go_wp2_with fail
    go_ret
    exact ⟨rfl, S0.out.low⟩
  have HNh : Hid (nh ≤ 1048576) := Lib.hid (by have := lfh (by omega); omega)
  have HNs : Hid (ns ≤ 1048576) := Lib.hid (by have := lfs (by omega); omega)
  obtain ⟨Ln, hLn⟩ : ∃ k, L.length = k := ⟨_, rfl⟩
  have HLn := Lib.hid hLn
  have hLb : Ln ≤ 4 := by rw [← hLn]; exact HLB.out
  clear hLn
  have cc0 := (S0.out.cell (w.heap.size, 0, .int .i64 c0) (by simp)).2
  have cc1 := (S0.out.cell (w.heap.size, 1, .int .i64 c1) (by simp)).2
  go_wp2_with fail
  refine (toChamber_any c0 c1 _).mono ?_
  rintro e w3 ⟨rfl, hb⟩
  have S1 := Lib.hid (S0.out.quiet hb)
  clear cc0 cc1
  clear hb S0
  have cc0 := (S1.out.cell (w.heap.size, 0, .int .i64 c0) (by simp)).2
  have cc1 := (S1.out.cell (w.heap.size, 1, .int .i64 c1) (by simp)).2
  go_wp2_with fail
  refine (toHullS_is ch (IVh.out _ S1.out.low) HNh.out).mono ?_
  rintro e w4 ⟨t1, rfl, hown, -, hb⟩
  have zt1 := hown.lt t1 rfl
  have bt1 : w.heap.size + 1 ≤ t1 := by have h1 := World.block_lt_of_cell? _ _ cc1; have h2 := zt1.1; simp at h1; omega
  have qt1 : w.heap.size ≤ t1 := Nat.le_trans S1.out.low.size zt1.1
  have S2 := Lib.hid ((S1.out.quiet hb).own (rHull t1 nh nh (flatHull vh)) (own_low hown S1.out.low.size))
  clear cc0 cc1
  clear hb hown zt1 S1
  have cc0 := (S2.out.cell (w.heap.size, 0, .int .i64 c0) (by simp)).2
  have cc1 := (S2.out.cell (w.heap.size, 1, .int .i64 c1) (by simp)).2
  go_wp2_with fail
  refine (toSpotS_is cs (IVs.out _ S2.out.low) HNs.out).mono ?_
  rintro e w5 ⟨t2, rfl, hown, -, hb⟩
  have zt2 := hown.lt t2 rfl
  have dt2_t1 : t2 ≠ t1 := by have h1 := (S2.out.lt (r := rHull t1 nh nh (flatHull vh)) (by simp) (g := t1) rfl).2; have h2 := zt2.1; omega
  have bt2 : w.heap.size + 1 ≤ t2 := by have h1 := World.block_lt_of_cell? _ _ cc1; have h2 := zt2.1; simp at h1; omega
  have qt2 : w.heap.size ≤ t2 := Nat.le_trans S2.out.low.size zt2.1
  have S3 := Lib.hid ((S2.out.quiet hb).own (rSpot t2 ns ns (flatSpot vs)) (own_low hown S2.out.low.size))
  clear cc0 cc1
  clear hb hown zt2 S2
  have cc0 := (S3.out.cell (w.heap.size, 0, .int .i64 c0) (by simp)).2
  have cc1 := (S3.out.cell (w.heap.size, 1, .int .i64 c1) (by simp)).2
  go_wp2_with fail
  refine (shiftS_any c0 c1 _ _ by1 (own_Hulls (S3.out.row (rHull t1 nh nh (flatHull vh)) (by simp))) (own_Spots (S3.out.row (rSpot t2 ns ns (flatSpot vs)) (by simp))) HNh.out HNs.out L x HA.out Ln HLn.out).mono ?_
  rintro e w6 ⟨gw, cgw, rfl, hown, hb⟩
  have zgw := hown.lt gw rfl
  have dgw_t2 : gw ≠ t2 := by have h1 := (S3.out.lt (r := rSpot t2 ns ns (flatSpot vs)) (by simp) (g := t2) rfl).2; have h2 := zgw.1; omega
  have dgw_t1 : gw ≠ t1 := by have h1 := (S3.out.lt (r := rHull t1 nh nh (flatHull vh)) (by simp) (g := t1) rfl).2; have h2 := zgw.1; omega
  have bgw : w.heap.size + 1 ≤ gw := by have h1 := World.block_lt_of_cell? _ _ cc1; have h2 := zgw.1; simp at h1; omega
  have qgw : w.heap.size ≤ gw := Nat.le_trans S3.out.low.size zgw.1
  have S4 := Lib.hid ((S3.out.quiet hb).own (rSpot gw Ln cgw (flatSpot L)) (own_low hown S3.out.low.size))
  clear cc0 cc1
  clear hb hown zgw S3
  have S5 := Lib.hid (S4.out.sub (rows' := [rSpot gw Ln cgw (flatSpot L)]) (by simp))
  clear S4
  have cc0 := (S5.out.cell (w.heap.size, 0, .int .i64 c0) (by simp)).2
  have cc1 := (S5.out.cell (w.heap.size, 1, .int .i64 c1) (by simp)).2
  go_wp2_with fail
  refine (toHullS_is ch (IVh.out _ S5.out.low) HNh.out).mono ?_
  rintro e w7 ⟨xh, rfl, hown, -, hb⟩
  have zxh := hown.lt xh rfl
  have dxh_gw : xh ≠ gw := by have h1 := (S5.out.lt (r := rSpot gw Ln cgw (flatSpot L)) (by simp) (g := gw) rfl).2; have h2 := zxh.1; omega
  have bxh : w.heap.size + 1 ≤ xh := by have h1 := World.block_lt_of_cell? _ _ cc1; have h2 := zxh.1; simp at h1; omega
  have qxh : w.heap.size ≤ xh := Nat.le_trans S5.out.low.size zxh.1
  have S6 := Lib.hid ((S5.out.quiet hb).own (rHull xh nh nh (flatHull vh)) (own_low hown S5.out.low.size))
  clear cc0 cc1
  clear hb hown zxh S5
  have cc0 := (S6.out.cell (w.heap.size, 0, .int .i64 c0) (by simp)).2
  have cc1 := (S6.out.cell (w.heap.size, 1, .int .i64 c1) (by simp)).2
  go_wp2_with fail
  refine (toSpotS_is cs (IVs.out _ S6.out.low) HNs.out).mono ?_
  rintro e w8 ⟨xs, rfl, hown, -, hb⟩
  have zxs := hown.lt xs rfl
  have dxs_xh : xs ≠ xh := by have h1 := (S6.out.lt (r := rHull xh nh nh (flatHull vh)) (by simp) (g := xh) rfl).2; have h2 := zxs.1; omega
  have dxs_gw : xs ≠ gw := by have h1 := (S6.out.lt (r := rSpot gw Ln cgw (flatSpot L)) (by simp) (g := gw) rfl).2; have h2 := zxs.1; omega
  have bxs : w.heap.size + 1 ≤ xs := by have h1 := World.block_lt_of_cell? _ _ cc1; have h2 := zxs.1; simp at h1; omega
  have qxs : w.heap.size ≤ xs := Nat.le_trans S6.out.low.size zxs.1
  have S7 := Lib.hid ((S6.out.quiet hb).own (rSpot xs ns ns (flatSpot vs)) (own_low hown S6.out.low.size))
  clear cc0 cc1
  clear hb hown zxs S6
  have cc0 := (S7.out.cell (w.heap.size, 0, .int .i64 c0) (by simp)).2
  have cc1 := (S7.out.cell (w.heap.size, 1, .int .i64 c1) (by simp)).2
  go_wp2_with fail
  refine (toChamber_any c0 c1 _).mono ?_
  rintro e w9 ⟨rfl, hb⟩
  have S8 := Lib.hid (S7.out.quiet hb)
  clear cc0 cc1
  clear hb S7
  have cc0 := (S8.out.cell (w.heap.size, 0, .int .i64 c0) (by simp)).2
  have cc1 := (S8.out.cell (w.heap.size, 1, .int .i64 c1) (by simp)).2
  go_wp2_with fail
  refine (shiftI_any c0 c1 _ _ by1 (own_Hulls (S8.out.row (rHull xh nh nh (flatHull vh)) (by simp))) (own_Spots (S8.out.row (rSpot xs ns ns (flatSpot vs)) (by simp))) HNh.out HNs.out L x HA.out Ln HLn.out).mono ?_
  rintro e w10 ⟨gg, cgg, rfl, hown, hb⟩
  have zgg := hown.lt gg rfl
  have dgg_xs : gg ≠ xs := by have h1 := (S8.out.lt (r := rSpot xs ns ns (flatSpot vs)) (by simp) (g := xs) rfl).2; have h2 := zgg.1; omega
  have dgg_xh : gg ≠ xh := by have h1 := (S8.out.lt (r := rHull xh nh nh (flatHull vh)) (by simp) (g := xh) rfl).2; have h2 := zgg.1; omega
  have dgg_gw : gg ≠ gw := by have h1 := (S8.out.lt (r := rSpot gw Ln cgw (flatSpot L)) (by simp) (g := gw) rfl).2; have h2 := zgg.1; omega
  have bgg : w.heap.size + 1 ≤ gg := by have h1 := World.block_lt_of_cell? _ _ cc1; have h2 := zgg.1; simp at h1; omega
  have qgg : w.heap.size ≤ gg := Nat.le_trans S8.out.low.size zgg.1
  have S9 := Lib.hid ((S8.out.quiet hb).own (rSpot gg Ln cgg (flatSpot L)) (own_low hown S8.out.low.size))
  clear cc0 cc1
  clear hb hown zgg S8
  have cc0 := (S9.out.cell (w.heap.size, 0, .int .i64 c0) (by simp)).2
  have cc1 := (S9.out.cell (w.heap.size, 1, .int .i64 c1) (by simp)).2
  go_wp2_with fail
  refine (eqSpotS_is _ _ (own_Spots (S9.out.row (rSpot gg Ln cgg (flatSpot L)) (by simp))) (own_Spots (S9.out.row (rSpot gw Ln cgw (flatSpot L)) (by simp))) (by unfold maxLen; omega)).mono ?_
  rintro e w11 ⟨rfl, hb⟩
  have S10 := Lib.hid (S9.out.quiet hb)
  clear cc0 cc1
  clear hb S9
  have cc0 := (S10.out.cell (w.heap.size, 0, .int .i64 c0) (by simp)).2
  have cc1 := (S10.out.cell (w.heap.size, 1, .int .i64 c1) (by simp)).2
  go_wp2_with fail
  refine (toHullS_is ch (IVh.out _ S10.out.low) HNh.out).mono ?_
  rintro e w12 ⟨t3, rfl, hown, -, hb⟩
  have zt3 := hown.lt t3 rfl
  have dt3_gg : t3 ≠ gg := by have h1 := (S10.out.lt (r := rSpot gg Ln cgg (flatSpot L)) (by simp) (g := gg) rfl).2; have h2 := zt3.1; omega
  have dt3_xs : t3 ≠ xs := by have h1 := (S10.out.lt (r := rSpot xs ns ns (flatSpot vs)) (by simp) (g := xs) rfl).2; have h2 := zt3.1; omega
  have dt3_xh : t3 ≠ xh := by have h1 := (S10.out.lt (r := rHull xh nh nh (flatHull vh)) (by simp) (g := xh) rfl).2; have h2 := zt3.1; omega
  have dt3_gw : t3 ≠ gw := by have h1 := (S10.out.lt (r := rSpot gw Ln cgw (flatSpot L)) (by simp) (g := gw) rfl).2; have h2 := zt3.1; omega
  have bt3 : w.heap.size + 1 ≤ t3 := by have h1 := World.block_lt_of_cell? _ _ cc1; have h2 := zt3.1; simp at h1; omega
  have qt3 : w.heap.size ≤ t3 := Nat.le_trans S10.out.low.size zt3.1
  have S11 := Lib.hid ((S10.out.quiet hb).own (rHull t3 nh nh (flatHull vh)) (own_low hown S10.out.low.size))
  clear cc0 cc1
  clear hb hown zt3 S10
  have cc0 := (S11.out.cell (w.heap.size, 0, .int .i64 c0) (by simp)).2
  have cc1 := (S11.out.cell (w.heap.size, 1, .int .i64 c1) (by simp)).2
  go_wp2_with fail
  refine (eqHullS_is _ _ (own_Hulls (S11.out.row (rHull xh nh nh (flatHull vh)) (by simp))) (own_Hulls (S11.out.row (rHull t3 nh nh (flatHull vh)) (by simp))) (Nat.le_trans HNh.out (by unfold maxLen; omega))).mono ?_
  rintro e w13 ⟨rfl, hb⟩
  have S12 := Lib.hid (S11.out.quiet hb)
  clear cc0 cc1
  clear hb S11
  have S13 := Lib.hid (S12.out.sub (rows' := [rSpot gg Ln cgg (flatSpot L), rSpot xs ns ns (flatSpot vs), rHull xh nh nh (flatHull vh), rSpot gw Ln cgw (flatSpot L)]) (by simp))
  clear S12
  have cc0 := (S13.out.cell (w.heap.size, 0, .int .i64 c0) (by simp)).2
  have cc1 := (S13.out.cell (w.heap.size, 1, .int .i64 c1) (by simp)).2
  go_wp2_with fail
  refine (toSpotS_is cs (IVs.out _ S13.out.low) HNs.out).mono ?_
  rintro e w14 ⟨t4, rfl, hown, -, hb⟩
  have zt4 := hown.lt t4 rfl
  have dt4_gg : t4 ≠ gg := by have h1 := (S13.out.lt (r := rSpot gg Ln cgg (flatSpot L)) (by simp) (g := gg) rfl).2; have h2 := zt4.1; omega
  have dt4_xs : t4 ≠ xs := by have h1 := (S13.out.lt (r := rSpot xs ns ns (flatSpot vs)) (by simp) (g := xs) rfl).2; have h2 := zt4.1; omega
  have dt4_xh : t4 ≠ xh := by have h1 := (S13.out.lt (r := rHull xh nh nh (flatHull vh)) (by simp) (g := xh) rfl).2; have h2 := zt4.1; omega
  have dt4_gw : t4 ≠ gw := by have h1 := (S13.out.lt (r := rSpot gw Ln cgw (flatSpot L)) (by simp) (g := gw) rfl).2; have h2 := zt4.1; omega
  have bt4 : w.heap.size + 1 ≤ t4 := by have h1 := World.block_lt_of_cell? _ _ cc1; have h2 := zt4.1; simp at h1; omega
  have qt4 : w.heap.size ≤ t4 := Nat.le_trans S13.out.low.size zt4.1
  have S14 := Lib.hid ((S13.out.quiet hb).own (rSpot t4 ns ns (flatSpot vs)) (own_low hown S13.out.low.size))
  clear cc0 cc1
  clear hb hown zt4 S13
  have cc0 := (S14.out.cell (w.heap.size, 0, .int .i64 c0) (by simp)).2
  have cc1 := (S14.out.cell (w.heap.size, 1, .int .i64 c1) (by simp)).2
  go_wp2_with fail
  refine (eqSpotS_is _ _ (own_Spots (S14.out.row (rSpot xs ns ns (flatSpot vs)) (by simp))) (own_Spots (S14.out.row (rSpot t4 ns ns (flatSpot vs)) (by simp))) (Nat.le_trans HNs.out (by unfold maxLen; omega))).mono ?_
  rintro e w15 ⟨rfl, hb⟩
  have S15 := Lib.hid (S14.out.quiet hb)
  clear cc0 cc1
  clear hb S14
  have S16 := Lib.hid (S15.out.sub (rows' := [rSpot gg Ln cgg (flatSpot L), rSpot xs ns ns (flatSpot vs), rHull xh nh nh (flatHull vh), rSpot gw Ln cgw (flatSpot L)]) (by simp))
  clear S15
  have hNh := HNh.out
  have hNs := HNs.out
  have cc0 := (S16.out.cell (w.heap.size, 0, .int .i64 c0) (by simp)).2
  have cc1 := (S16.out.cell (w.heap.size, 1, .int .i64 c1) (by simp)).2
  go_wp2_with fail
  refine (markHullS_any xh nh nh w.heap.size (1) _ _ (by omega) (by omega) (S16.out.row (rHull xh nh nh (flatHull vh)) (by simp))).mono ?_
  rintro e w16 ⟨rfl, hoM, hgr⟩
  clear cc0 cc1
  have T8 := S16.out.sub (rows' := [rHull xh nh nh (flatHull vh), rSpot gg Ln cgg (flatSpot L), rSpot xs ns ns (flatSpot vs), rSpot gw Ln cgw (flatSpot L)]) (by simp)
  have S17 := Lib.hid (T8.turn (r' := rHull xh nh nh (flatHull (mkHull (1) nh))) hgr (fun q e => by cases e; omega) (by simp; omega) (by simp [Value.ownBlock]; omega) hoM)
  clear T8 hoM hgr S16
  have S18 := Lib.hid (S17.out.sub (rows' := [rSpot gg Ln cgg (flatSpot L), rSpot xs ns ns (flatSpot vs), rSpot gw Ln cgw (flatSpot L)]) (by simp))
  clear S17
  have cc0 := (S18.out.cell (w.heap.size, 0, .int .i64 c0) (by simp)).2
  have cc1 := (S18.out.cell (w.heap.size, 1, .int .i64 c1) (by simp)).2
  go_wp2_with fail
  refine (markSpotS_any xs ns ns w.heap.size (1 + 3 * (nh : Int)) _ _ (by omega) (by omega) (S18.out.row (rSpot xs ns ns (flatSpot vs)) (by simp))).mono ?_
  rintro e w17 ⟨rfl, hoM, hgr⟩
  clear cc0 cc1
  have T8 := S18.out.sub (rows' := [rSpot xs ns ns (flatSpot vs), rSpot gg Ln cgg (flatSpot L), rSpot gw Ln cgw (flatSpot L)]) (by simp)
  have S19 := Lib.hid (T8.turn (r' := rSpot xs ns ns (flatSpot (mkSpot (1 + 3 * (nh : Int)) ns))) hgr (fun q e => by cases e; omega) (by simp; omega) (by simp [Value.ownBlock]; omega) hoM)
  clear T8 hoM hgr S18
  have S20 := Lib.hid (S19.out.sub (rows' := [rSpot gg Ln cgg (flatSpot L), rSpot gw Ln cgw (flatSpot L)]) (by simp))
  clear S19
  have hkk : ¬ (1 + 3 * (nh : Int) + 2 * (ns : Int) < 0) := by omega
  have cc0 := (S20.out.cell (w.heap.size, 0, .int .i64 c0) (by simp)).2
  have cc1 := (S20.out.cell (w.heap.size, 1, .int .i64 c1) (by simp)).2
  go_wp2_with fail
  refine (eqSpotS_is _ _ (own_Spots (S20.out.row (rSpot gg Ln cgg (flatSpot L)) (by simp))) (own_Spots (S20.out.row (rSpot gw Ln cgw (flatSpot L)) (by simp))) (by unfold maxLen; omega)).mono ?_
  rintro e w18 ⟨rfl, hb⟩
  have S21 := Lib.hid (S20.out.quiet hb)
  clear cc0 cc1
  clear hb S20
  have cc0 := (S21.out.cell (w.heap.size, 0, .int .i64 c0) (by simp)).2
  have cc1 := (S21.out.cell (w.heap.size, 1, .int .i64 c1) (by simp)).2
  go_wp2_with fail
  refine (markSpotS_any gg Ln cgg w.heap.size (1) _ _ (by omega) (by omega) (S21.out.row (rSpot gg Ln cgg (flatSpot L)) (by simp))).mono ?_
  rintro e w19 ⟨rfl, hoM, hgr⟩
  clear cc0 cc1
  have T8 := S21.out.sub (rows' := [rSpot gg Ln cgg (flatSpot L), rSpot gw Ln cgw (flatSpot L)]) (by simp)
  have S22 := Lib.hid (T8.turn (r' := rSpot gg Ln cgg (flatSpot (mkSpot (1) Ln))) hgr (fun q e => by cases e; omega) (by simp; omega) (by simp [Value.ownBlock]; omega) hoM)
  clear T8 hoM hgr S21
  have cc0 := (S22.out.cell (w.heap.size, 0, .int .i64 c0) (by simp)).2
  have cc1 := (S22.out.cell (w.heap.size, 1, .int .i64 c1) (by simp)).2
  go_wp2_with fail
  refine (heldSpotS_any _ Ln cgg _ 1 _ (by omega) (by omega) (Nat.le_refl _) (own_hasv (S22.out.row (rSpot gg Ln cgg (flatSpot (mkSpot (1) Ln))) (by simp)))).mono ?_
  rintro e w20 ⟨rfl, hb⟩
  have S23 := Lib.hid (S22.out.quiet hb)
  clear cc0 cc1
  clear hb S22
  have hq1 : ¬ (1 + 2 * (Ln : Int) < 0) := by omega
  have hq2 : ((1 + 2 * (Ln : Int)) != (1 + 2 * (Ln : Int))) = false := by simp
  have cc0 := (S23.out.cell (w.heap.size, 0, .int .i64 c0) (by simp)).2
  have cc1 := (S23.out.cell (w.heap.size, 1, .int .i64 c1) (by simp)).2
  go_wp2_with fail
  refine (toChamber_any c0 c1 _).mono ?_
  rintro e w21 ⟨rfl, hb⟩
  have S24 := Lib.hid (S23.out.quiet hb)
  clear cc0 cc1
  clear hb S23
  have cc0 := (S24.out.cell (w.heap.size, 0, .int .i64 c0) (by simp)).2
  have cc1 := (S24.out.cell (w.heap.size, 1, .int .i64 c1) (by simp)).2
  go_wp2_with fail
  refine (toHullS_is ch (IVh.out _ S24.out.low) HNh.out).mono ?_
  rintro e w22 ⟨t5, rfl, hown, -, hb⟩
  have zt5 := hown.lt t5 rfl
  have dt5_gg : t5 ≠ gg := by have h1 := (S24.out.lt (r := rSpot gg Ln cgg (flatSpot (mkSpot (1) Ln))) (by simp) (g := gg) rfl).2; have h2 := zt5.1; omega
  have dt5_gw : t5 ≠ gw := by have h1 := (S24.out.lt (r := rSpot gw Ln cgw (flatSpot L)) (by simp) (g := gw) rfl).2; have h2 := zt5.1; omega
  have bt5 : w.heap.size + 1 ≤ t5 := by have h1 := World.block_lt_of_cell? _ _ cc1; have h2 := zt5.1; simp at h1; omega
  have qt5 : w.heap.size ≤ t5 := Nat.le_trans S24.out.low.size zt5.1
  have S25 := Lib.hid ((S24.out.quiet hb).own (rHull t5 nh nh (flatHull vh)) (own_low hown S24.out.low.size))
  clear cc0 cc1
  clear hb hown zt5 S24
  have cc0 := (S25.out.cell (w.heap.size, 0, .int .i64 c0) (by simp)).2
  have cc1 := (S25.out.cell (w.heap.size, 1, .int .i64 c1) (by simp)).2
  go_wp2_with fail
  refine (toSpotS_is cs (IVs.out _ S25.out.low) HNs.out).mono ?_
  rintro e w23 ⟨t6, rfl, hown, -, hb⟩
  have zt6 := hown.lt t6 rfl
  have dt6_t5 : t6 ≠ t5 := by have h1 := (S25.out.lt (r := rHull t5 nh nh (flatHull vh)) (by simp) (g := t5) rfl).2; have h2 := zt6.1; omega
  have dt6_gg : t6 ≠ gg := by have h1 := (S25.out.lt (r := rSpot gg Ln cgg (flatSpot (mkSpot (1) Ln))) (by simp) (g := gg) rfl).2; have h2 := zt6.1; omega
  have dt6_gw : t6 ≠ gw := by have h1 := (S25.out.lt (r := rSpot gw Ln cgw (flatSpot L)) (by simp) (g := gw) rfl).2; have h2 := zt6.1; omega
  have bt6 : w.heap.size + 1 ≤ t6 := by have h1 := World.block_lt_of_cell? _ _ cc1; have h2 := zt6.1; simp at h1; omega
  have qt6 : w.heap.size ≤ t6 := Nat.le_trans S25.out.low.size zt6.1
  have S26 := Lib.hid ((S25.out.quiet hb).own (rSpot t6 ns ns (flatSpot vs)) (own_low hown S25.out.low.size))
  clear cc0 cc1
  clear hb hown zt6 S25
  have cc0 := (S26.out.cell (w.heap.size, 0, .int .i64 c0) (by simp)).2
  have cc1 := (S26.out.cell (w.heap.size, 1, .int .i64 c1) (by simp)).2
  go_wp2_with fail
  refine (shiftI_any c0 c1 _ _ by1 (own_Hulls (S26.out.row (rHull t5 nh nh (flatHull vh)) (by simp))) (own_Spots (S26.out.row (rSpot t6 ns ns (flatSpot vs)) (by simp))) HNh.out HNs.out L x HA.out Ln HLn.out).mono ?_
  rintro e w24 ⟨gh, cgh, rfl, hown, hb⟩
  have zgh := hown.lt gh rfl
  have dgh_t6 : gh ≠ t6 := by have h1 := (S26.out.lt (r := rSpot t6 ns ns (flatSpot vs)) (by simp) (g := t6) rfl).2; have h2 := zgh.1; omega
  have dgh_t5 : gh ≠ t5 := by have h1 := (S26.out.lt (r := rHull t5 nh nh (flatHull vh)) (by simp) (g := t5) rfl).2; have h2 := zgh.1; omega
  have dgh_gg : gh ≠ gg := by have h1 := (S26.out.lt (r := rSpot gg Ln cgg (flatSpot (mkSpot (1) Ln))) (by simp) (g := gg) rfl).2; have h2 := zgh.1; omega
  have dgh_gw : gh ≠ gw := by have h1 := (S26.out.lt (r := rSpot gw Ln cgw (flatSpot L)) (by simp) (g := gw) rfl).2; have h2 := zgh.1; omega
  have bgh : w.heap.size + 1 ≤ gh := by have h1 := World.block_lt_of_cell? _ _ cc1; have h2 := zgh.1; simp at h1; omega
  have qgh : w.heap.size ≤ gh := Nat.le_trans S26.out.low.size zgh.1
  have S27 := Lib.hid ((S26.out.quiet hb).own (rSpot gh Ln cgh (flatSpot L)) (own_low hown S26.out.low.size))
  clear cc0 cc1
  clear hb hown zgh S26
  have S28 := Lib.hid (S27.out.sub (rows' := [rSpot gh Ln cgh (flatSpot L), rSpot gg Ln cgg (flatSpot (mkSpot (1) Ln)), rSpot gw Ln cgw (flatSpot L)]) (by simp))
  clear S27
  have cc0 := (S28.out.cell (w.heap.size, 0, .int .i64 c0) (by simp)).2
  have cc1 := (S28.out.cell (w.heap.size, 1, .int .i64 c1) (by simp)).2
  go_wp2_with fail
  refine (eqSpotS_is _ _ (own_Spots (S28.out.row (rSpot gh Ln cgh (flatSpot L)) (by simp))) (own_Spots (S28.out.row (rSpot gw Ln cgw (flatSpot L)) (by simp))) (by unfold maxLen; omega)).mono ?_
  rintro e w25 ⟨rfl, hb⟩
  have S29 := Lib.hid (S28.out.quiet hb)
  clear cc0 cc1
  clear hb S28
  have cc0 := (S29.out.cell (w.heap.size, 0, .int .i64 c0) (by simp)).2
  have cc1 := (S29.out.cell (w.heap.size, 1, .int .i64 c1) (by simp)).2
  go_wp2_with fail
  refine (heldSpotS_any _ Ln cgg _ 1 _ (by omega) (by omega) (Nat.le_refl _) (own_hasv (S29.out.row (rSpot gg Ln cgg (flatSpot (mkSpot (1) Ln))) (by simp)))).mono ?_
  rintro e w26 ⟨rfl, hb⟩
  have S30 := Lib.hid (S29.out.quiet hb)
  clear cc0 cc1
  clear hb S29
  have cc0 := (S30.out.cell (w.heap.size, 0, .int .i64 c0) (by simp)).2
  have cc1 := (S30.out.cell (w.heap.size, 1, .int .i64 c1) (by simp)).2
  go_wp2_with fail
  go_ret
  exact ⟨rfl, S30.out.low⟩
end Go.Proofs.Ytiecmhkbcoogoaa.fnExactShiftSpots
