/- FnSupplies holds: as many lockages as told are possible and not one more, leveling keeps all water, and refilled basins are never too low; at every list of bytes. -/
import Derived.Test.YtliebicnejbheaaWbD
import Derived.Test.YtliebicnejbheaaWbM
import Derived.Test.YtliebicnejbheaaWaF
import Derived.Test.YtliebicnejbheaaWaH
import Derived.Test.YtliebicnejbheaaWaI
import Derived.Test.YtliebicnejbheaaWaK
import Derived.Test.YtliebicnejbheaaBig
import Derived.Test.YtliebicnejbheaaSt0
import Derived.OpenShut
import Derived.ShutString
import Derived.ChangeOld
import Derived.WalkLawsBesides
import Derived.Lib.SmallJoins
import Derived.Deep.RegionHeld3
import Derived.Deep.RegionLaw
namespace Go.Proofs.Ytliebicnejbheaa.fnSupplies
open Go.ChangeShapes Go.WideShapes Go.ChangeAt Go.RowKit
open Go.ChangeMaps (open_string shut_string)
set_option linter.unusedVariables false
set_option linter.unusedSimpArgs false

theorem join_k {P : Program} {x y : Code} {Q : Exit → Act → World → Prop} {K R : Act → World → Prop} (hk : ∀ a w, (Code.seq x y).wp P Q a w → K a w) (hr : ∀ a w, R a w → y.wp P Q a w) : ∀ a w, x.wp P (Exit.then R Q) a w → K a w :=
  fun a w h => hk a w (wp_seq (Code.wp_mono (fun e a w q => by
    cases e
    case normal => exact hr _ _ q
    all_goals exact q) h))
set_option maxRecDepth 100000 in
set_option maxHeartbeats 16000000 in
theorem walk (A : Option Addr) (n c : Nat) (zs : List Int) (w : World) (hI : IsInts .u8 w A n zs) :
    Calls Try.prog 4 #[.slice A n c] w fun e w' => e = .returned (.bool true) ∧ Below w.heap.size w w' := by
  by_cases hbig : 65536 < n
  · have CB := Lib.hid (bigL_yes A n c w hbig hI.2.1)
    clear hI
    go_enter Try.func4, Try.ntmps4
    go_wp2_with fail
    refine CB.out.mono ?_
    rintro e w1 ⟨rfl, rfl⟩
    go_wp2_with fail
    go_ret
    exact ⟨rfl, Below.refl _ _⟩
  have CB := Lib.hid (bigL_no A n c w (by omega))
  have HC := Lib.hid (Code_.of hI (by omega))
  have D1 := Lib.hid (drawMo_any c HC.out)
  clear hI hbig
  go_enter Try.func4, Try.ntmps4
  go_wp2_with fail
  refine CB.out.mono ?_
  rintro e w1 ⟨rfl, rfl⟩
  clear CB
  go_wp2_with fail
  refine D1.out.mono ?_
  rintro e w1 ⟨g1, c1, q, vs, f0, f1, f2, rfl, hq, hqc, hV, hb⟩
  have HB1 := Lib.hid hb
  have HV1 := Lib.hid hV
  obtain ⟨z, x, hA⟩ := mosA_ex vs ⟨f0, f1, f2⟩
  have HA := Lib.hid hA
  have hzz : (z != z) = false := by simp
  have hxx : (x != x) = false := by simp
  clear D1 hV hb hA
  go_wp2_with fail
  refine (mostI_any c1 HV1.out (by omega) f0 f1 f2 z x HA.out).mono ?_
  rintro e w2 ⟨rfl, hb⟩
  have HB2 := Lib.hid (HB1.out.trans (hb.mono HB1.out.size))
  have HV2 := Lib.hid (HV1.out.below hb HV1.out.low)
  clear hb HB1 HV1
  go_wp2_with fail
  refine (mostS_any c1 HV2.out (by omega) f0 f1 f2 z x HA.out).mono ?_
  rintro e w3 ⟨rfl, hb⟩
  have HB3 := Lib.hid (HB2.out.trans (hb.mono HB2.out.size))
  have HV3 := Lib.hid (HV2.out.below hb HV2.out.low)
  clear hb HB2 HV2
  rename ∀ (a' : Act) (w' : World), Code.wp Try.prog (((Code.region 8 _ _).seq _).seq ((Code.region 14 _ _).seq _)) _ a' w' → _ => HK1
  obtain ⟨RJ1, hRJ1⟩ : ∃ R : Act → World → Prop, R = fun a' w' => ∃ U : Nat → Value, a' = { tmps := #[Value.slice A n c, undef, Value.bool false, U 3, U 4, U 5, U 6, U 7, U 8, U 9, U 10, U 11, U 12, U 13, U 14, U 15, undef, undef, undef, undef, undef, undef, undef, undef, undef, undef, undef, undef, undef, undef, undef, undef, undef, undef, undef, undef, undef, undef, undef, undef, U 40, U 41, U 42, U 43, U 44, U 45, U 46, U 47, U 48, U 49, U 50, U 51, U 52, U 53, U 54, U 55, U 56, U 57, U 58, U 59, U 60, U 61, U 62, U 63, U 64, U 65, U 66, U 67, U 68, U 69, U 70, U 71, U 72, U 73, U 74, U 75, U 76, U 77, U 78, U 79, U 80, U 81, U 82, U 83, U 84, U 85, U 86, U 87, U 88, U 89, U 90, U 91, U 92, U 93, U 94, U 95, U 96, U 97, U 98, U 99, U 100, U 101, U 102, U 103, U 104, U 105, U 106, U 107, U 108, U 109, U 110, U 111, U 112, undef, undef, undef, undef, undef, undef, undef, undef, undef, undef, undef, undef, undef, undef, undef, undef, undef, undef, undef, undef, undef, undef, undef, undef, undef, undef, undef, undef, undef, undef, undef, undef, undef, undef, undef, undef, undef, undef, undef, undef, undef, undef, undef, undef, undef, undef, undef, undef, undef, undef, undef, undef, undef, undef, undef, undef, undef, undef, undef, undef, undef, undef, undef, undef, undef, undef, undef, undef, undef, undef, undef, undef, undef, undef, undef, undef, undef, undef, undef, undef, undef, undef, undef, undef, undef, undef, undef, undef, undef, undef, undef, undef, undef, undef, undef, undef, undef, undef, undef, undef, undef, undef, undef, undef, undef, undef, undef, undef, undef, undef, undef, undef, undef, undef, undef, undef, undef, undef, undef, undef, undef, undef, undef, undef, undef, undef, undef, undef, undef, undef, undef, undef, undef, undef, undef, undef, undef, undef, undef, undef, undef, undef, undef, undef, undef, undef, undef, undef, undef, undef], defers := [] } ∧ Hid (Below w.heap.size w w') := ⟨_, rfl⟩
  have HRJ1 := Lib.hid (show ∀ (tm : Array Value) (W : World), tm = #[Value.slice A n c, undef, Value.bool false, tm.getD 3 undef, tm.getD 4 undef, tm.getD 5 undef, tm.getD 6 undef, tm.getD 7 undef, tm.getD 8 undef, tm.getD 9 undef, tm.getD 10 undef, tm.getD 11 undef, tm.getD 12 undef, tm.getD 13 undef, tm.getD 14 undef, tm.getD 15 undef, undef, undef, undef, undef, undef, undef, undef, undef, undef, undef, undef, undef, undef, undef, undef, undef, undef, undef, undef, undef, undef, undef, undef, undef, tm.getD 40 undef, tm.getD 41 undef, tm.getD 42 undef, tm.getD 43 undef, tm.getD 44 undef, tm.getD 45 undef, tm.getD 46 undef, tm.getD 47 undef, tm.getD 48 undef, tm.getD 49 undef, tm.getD 50 undef, tm.getD 51 undef, tm.getD 52 undef, tm.getD 53 undef, tm.getD 54 undef, tm.getD 55 undef, tm.getD 56 undef, tm.getD 57 undef, tm.getD 58 undef, tm.getD 59 undef, tm.getD 60 undef, tm.getD 61 undef, tm.getD 62 undef, tm.getD 63 undef, tm.getD 64 undef, tm.getD 65 undef, tm.getD 66 undef, tm.getD 67 undef, tm.getD 68 undef, tm.getD 69 undef, tm.getD 70 undef, tm.getD 71 undef, tm.getD 72 undef, tm.getD 73 undef, tm.getD 74 undef, tm.getD 75 undef, tm.getD 76 undef, tm.getD 77 undef, tm.getD 78 undef, tm.getD 79 undef, tm.getD 80 undef, tm.getD 81 undef, tm.getD 82 undef, tm.getD 83 undef, tm.getD 84 undef, tm.getD 85 undef, tm.getD 86 undef, tm.getD 87 undef, tm.getD 88 undef, tm.getD 89 undef, tm.getD 90 undef, tm.getD 91 undef, tm.getD 92 undef, tm.getD 93 undef, tm.getD 94 undef, tm.getD 95 undef, tm.getD 96 undef, tm.getD 97 undef, tm.getD 98 undef, tm.getD 99 undef, tm.getD 100 undef, tm.getD 101 undef, tm.getD 102 undef, tm.getD 103 undef, tm.getD 104 undef, tm.getD 105 undef, tm.getD 106 undef, tm.getD 107 undef, tm.getD 108 undef, tm.getD 109 undef, tm.getD 110 undef, tm.getD 111 undef, tm.getD 112 undef, undef, undef, undef, undef, undef, undef, undef, undef, undef, undef, undef, undef, undef, undef, undef, undef, undef, undef, undef, undef, undef, undef, undef, undef, undef, undef, undef, undef, undef, undef, undef, undef, undef, undef, undef, undef, undef, undef, undef, undef, undef, undef, undef, undef, undef, undef, undef, undef, undef, undef, undef, undef, undef, undef, undef, undef, undef, undef, undef, undef, undef, undef, undef, undef, undef, undef, undef, undef, undef, undef, undef, undef, undef, undef, undef, undef, undef, undef, undef, undef, undef, undef, undef, undef, undef, undef, undef, undef, undef, undef, undef, undef, undef, undef, undef, undef, undef, undef, undef, undef, undef, undef, undef, undef, undef, undef, undef, undef, undef, undef, undef, undef, undef, undef, undef, undef, undef, undef, undef, undef, undef, undef, undef, undef, undef, undef, undef, undef, undef, undef, undef, undef, undef, undef, undef, undef, undef, undef, undef, undef, undef, undef, undef, undef, undef, undef, undef, undef, undef, undef] → Hid (Below w.heap.size w W) → RJ1 { tmps := tm, defers := [] } W from fun tm W h hb => by
    rw [hRJ1]
    exact ⟨fun i => tm.getD i undef, congrArg (fun t => ({ tmps := t, defers := [] } : Act)) h, hb⟩)
  have HK := join_k (R := RJ1) HK1 (fun a' w' h => by
    rw [hRJ1] at h
    obtain ⟨U, rfl, HBW⟩ := h
    clear hRJ1 HRJ1 HK1
    clear HV3 HB3 HA
    have D2 := Lib.hid (drawLv_any c (HC.out.on HBW.out))
    go_wp2_with fail
    refine D2.out.mono ?_
    rintro e w10 ⟨g1, c1, q, vs, rfl, hq, hqc, hV, hb⟩
    have HB10 := Lib.hid (HBW.out.trans (hb.mono HBW.out.size))
    have HV := Lib.hid hV
    obtain ⟨L, x, hA⟩ := levA_ex vs
    obtain ⟨l, hl⟩ : ∃ k, L.length = k := ⟨_, rfl⟩
    have HL := Lib.hid hl
    have hl6 : l ≤ 6 := by rw [← hl]; exact hA.len
    have HA := Lib.hid hA
    have hxx : (x != x) = false := by simp
    clear D2 hV hb hA hl HBW
    go_wp2_with fail
    refine (levI_any c1 HV.out (by omega) L x HA.out l HL.out).mono ?_
    rintro e w11 ⟨g3, c3, rfl, ho, hb⟩
    have HB11 := Lib.hid (HB10.out.trans (hb.mono HB10.out.size))
    have HV1 := Lib.hid (HV.out.below hb HV.out.low)
    have HY1 := Lib.hid (own_Basins ho)
    clear hb ho HB10 HV
    go_wp2_with fail
    refine (levS_any c1 HV1.out (by omega) L x HA.out l HL.out).mono ?_
    rintro e w12 ⟨g4, c4, rfl, ho, hb⟩
    have HB12 := Lib.hid (HB11.out.trans (hb.mono HB11.out.size))
    have HV2 := Lib.hid (HV1.out.below hb HV1.out.low)
    have HY2 := Lib.hid (HY1.out.below hb HY1.out.low)
    have HW2 := Lib.hid (own_Basins ho)
    clear hb ho HB11 HV1 HY1
    go_wp2_with fail
    refine (vBasins_same c3 c4 HY2.out HW2.out (by omega)).mono ?_
    rintro e w13 ⟨rfl, hb⟩
    have HB13 := Lib.hid (HB12.out.trans (hb.mono HB12.out.size))
    have HV3 := Lib.hid (HV2.out.below hb HV2.out.low)
    have HY3 := Lib.hid (HY2.out.below hb HY2.out.low)
    clear hb HB12 HV2 HY2 HW2
    rename ∀ (a' : Act) (w' : World), Code.wp Try.prog (((Code.region 19 _ _).seq _).seq ((Code.region 25 _ _).seq _)) _ a' w' → _ => HK2
    obtain ⟨RJ2, hRJ2⟩ : ∃ R : Act → World → Prop, R = fun a' w' => ∃ U : Nat → Value, a' = { tmps := #[Value.slice A n c, undef, Value.bool false, U 3, U 4, U 5, U 6, U 7, U 8, U 9, U 10, U 11, U 12, U 13, U 14, U 15, U 16, U 17, U 18, U 19, U 20, U 21, U 22, U 23, U 24, U 25, U 26, undef, undef, undef, undef, undef, undef, undef, undef, undef, undef, undef, undef, undef, U 40, U 41, U 42, U 43, U 44, U 45, U 46, U 47, U 48, U 49, U 50, U 51, U 52, U 53, U 54, U 55, U 56, U 57, U 58, U 59, U 60, U 61, U 62, U 63, U 64, U 65, U 66, U 67, U 68, U 69, U 70, U 71, U 72, U 73, U 74, U 75, U 76, U 77, U 78, U 79, U 80, U 81, U 82, U 83, U 84, U 85, U 86, U 87, U 88, U 89, U 90, U 91, U 92, U 93, U 94, U 95, U 96, U 97, U 98, U 99, U 100, U 101, U 102, U 103, U 104, U 105, U 106, U 107, U 108, U 109, U 110, U 111, U 112, U 113, U 114, U 115, U 116, U 117, U 118, U 119, U 120, U 121, U 122, U 123, U 124, U 125, U 126, U 127, U 128, U 129, U 130, U 131, U 132, U 133, U 134, U 135, U 136, U 137, U 138, U 139, U 140, U 141, U 142, U 143, U 144, U 145, U 146, U 147, U 148, U 149, U 150, U 151, U 152, U 153, U 154, U 155, U 156, U 157, U 158, U 159, U 160, U 161, U 162, U 163, U 164, U 165, U 166, U 167, U 168, U 169, U 170, U 171, U 172, U 173, U 174, U 175, undef, undef, undef, undef, undef, undef, undef, undef, undef, undef, undef, undef, undef, undef, undef, undef, undef, undef, undef, undef, undef, undef, undef, undef, undef, undef, undef, undef, undef, undef, undef, undef, undef, undef, undef, undef, undef, undef, undef, undef, undef, undef, undef, undef, undef, undef, undef, undef, undef, undef, undef, undef, undef, undef, undef, undef, undef, undef, undef, undef, undef, undef, undef, undef, undef, undef, undef, undef, undef, undef, undef, undef, undef, undef, undef, undef, undef, undef, undef, undef, undef, undef, undef, undef, undef, undef, undef], defers := [] } ∧ Hid (Below w.heap.size w w') := ⟨_, rfl⟩
    have HRJ2 := Lib.hid (show ∀ (tm : Array Value) (W : World), tm = #[Value.slice A n c, undef, Value.bool false, tm.getD 3 undef, tm.getD 4 undef, tm.getD 5 undef, tm.getD 6 undef, tm.getD 7 undef, tm.getD 8 undef, tm.getD 9 undef, tm.getD 10 undef, tm.getD 11 undef, tm.getD 12 undef, tm.getD 13 undef, tm.getD 14 undef, tm.getD 15 undef, tm.getD 16 undef, tm.getD 17 undef, tm.getD 18 undef, tm.getD 19 undef, tm.getD 20 undef, tm.getD 21 undef, tm.getD 22 undef, tm.getD 23 undef, tm.getD 24 undef, tm.getD 25 undef, tm.getD 26 undef, undef, undef, undef, undef, undef, undef, undef, undef, undef, undef, undef, undef, undef, tm.getD 40 undef, tm.getD 41 undef, tm.getD 42 undef, tm.getD 43 undef, tm.getD 44 undef, tm.getD 45 undef, tm.getD 46 undef, tm.getD 47 undef, tm.getD 48 undef, tm.getD 49 undef, tm.getD 50 undef, tm.getD 51 undef, tm.getD 52 undef, tm.getD 53 undef, tm.getD 54 undef, tm.getD 55 undef, tm.getD 56 undef, tm.getD 57 undef, tm.getD 58 undef, tm.getD 59 undef, tm.getD 60 undef, tm.getD 61 undef, tm.getD 62 undef, tm.getD 63 undef, tm.getD 64 undef, tm.getD 65 undef, tm.getD 66 undef, tm.getD 67 undef, tm.getD 68 undef, tm.getD 69 undef, tm.getD 70 undef, tm.getD 71 undef, tm.getD 72 undef, tm.getD 73 undef, tm.getD 74 undef, tm.getD 75 undef, tm.getD 76 undef, tm.getD 77 undef, tm.getD 78 undef, tm.getD 79 undef, tm.getD 80 undef, tm.getD 81 undef, tm.getD 82 undef, tm.getD 83 undef, tm.getD 84 undef, tm.getD 85 undef, tm.getD 86 undef, tm.getD 87 undef, tm.getD 88 undef, tm.getD 89 undef, tm.getD 90 undef, tm.getD 91 undef, tm.getD 92 undef, tm.getD 93 undef, tm.getD 94 undef, tm.getD 95 undef, tm.getD 96 undef, tm.getD 97 undef, tm.getD 98 undef, tm.getD 99 undef, tm.getD 100 undef, tm.getD 101 undef, tm.getD 102 undef, tm.getD 103 undef, tm.getD 104 undef, tm.getD 105 undef, tm.getD 106 undef, tm.getD 107 undef, tm.getD 108 undef, tm.getD 109 undef, tm.getD 110 undef, tm.getD 111 undef, tm.getD 112 undef, tm.getD 113 undef, tm.getD 114 undef, tm.getD 115 undef, tm.getD 116 undef, tm.getD 117 undef, tm.getD 118 undef, tm.getD 119 undef, tm.getD 120 undef, tm.getD 121 undef, tm.getD 122 undef, tm.getD 123 undef, tm.getD 124 undef, tm.getD 125 undef, tm.getD 126 undef, tm.getD 127 undef, tm.getD 128 undef, tm.getD 129 undef, tm.getD 130 undef, tm.getD 131 undef, tm.getD 132 undef, tm.getD 133 undef, tm.getD 134 undef, tm.getD 135 undef, tm.getD 136 undef, tm.getD 137 undef, tm.getD 138 undef, tm.getD 139 undef, tm.getD 140 undef, tm.getD 141 undef, tm.getD 142 undef, tm.getD 143 undef, tm.getD 144 undef, tm.getD 145 undef, tm.getD 146 undef, tm.getD 147 undef, tm.getD 148 undef, tm.getD 149 undef, tm.getD 150 undef, tm.getD 151 undef, tm.getD 152 undef, tm.getD 153 undef, tm.getD 154 undef, tm.getD 155 undef, tm.getD 156 undef, tm.getD 157 undef, tm.getD 158 undef, tm.getD 159 undef, tm.getD 160 undef, tm.getD 161 undef, tm.getD 162 undef, tm.getD 163 undef, tm.getD 164 undef, tm.getD 165 undef, tm.getD 166 undef, tm.getD 167 undef, tm.getD 168 undef, tm.getD 169 undef, tm.getD 170 undef, tm.getD 171 undef, tm.getD 172 undef, tm.getD 173 undef, tm.getD 174 undef, tm.getD 175 undef, undef, undef, undef, undef, undef, undef, undef, undef, undef, undef, undef, undef, undef, undef, undef, undef, undef, undef, undef, undef, undef, undef, undef, undef, undef, undef, undef, undef, undef, undef, undef, undef, undef, undef, undef, undef, undef, undef, undef, undef, undef, undef, undef, undef, undef, undef, undef, undef, undef, undef, undef, undef, undef, undef, undef, undef, undef, undef, undef, undef, undef, undef, undef, undef, undef, undef, undef, undef, undef, undef, undef, undef, undef, undef, undef, undef, undef, undef, undef, undef, undef, undef, undef, undef, undef, undef, undef] → Hid (Below w.heap.size w W) → RJ2 { tmps := tm, defers := [] } W from fun tm W h hb => by
      rw [hRJ2]
      exact ⟨fun i => tm.getD i undef, congrArg (fun t => ({ tmps := t, defers := [] } : Act)) h, hb⟩)
    have HKB := join_k (R := RJ2) HK2 (fun a' w' h => by
      rw [hRJ2] at h
      obtain ⟨U2, rfl, HBW⟩ := h
      clear hRJ2 HRJ2 HK2
      clear HV3 HB13 HA HY3 HL
      have D3 := Lib.hid (drawRf_any c (HC.out.on HBW.out))
      go_wp2_with fail
      refine D3.out.mono ?_
      rintro e w40 ⟨g8, c8, q, us, g9, c9, m, es, rfl, hq8, hqc8, hm9, hmc9, hU, hE, hb⟩
      have HB40 := Lib.hid (HBW.out.trans (hb.mono HBW.out.size))
      have HU := Lib.hid hU
      have HE := Lib.hid hE
      obtain ⟨L, x, hA⟩ := refA_ex us es
      obtain ⟨l, hl⟩ : ∃ k, L.length = k := ⟨_, rfl⟩
      have HL := Lib.hid hl
      have hl6 : l ≤ 6 := by rw [← hl]; exact hA.len
      have HA := Lib.hid hA
      have hxx : (x != x) = false := by simp
      clear D3 hU hE hb hA hl HBW
      go_wp2_with fail
      refine (refI_any c8 c9 HU.out (by omega) HE.out (by omega) L x HA.out l HL.out).mono ?_
      rintro e w41 ⟨g3, c3, rfl, ho, hb⟩
      have HB41 := Lib.hid (HB40.out.trans (hb.mono HB40.out.size))
      have HU1 := Lib.hid (HU.out.below hb HU.out.low)
      have HE1 := Lib.hid (HE.out.below hb HE.out.low)
      have HN1 := Lib.hid (own_hasv ho)
      clear hb ho HB40 HU HE
      go_wp2_with fail
      refine (refS_any c8 c9 HU1.out (by omega) HE1.out (by omega) L x HA.out l HL.out).mono ?_
      rintro e w42 ⟨g4, c4, rfl, ho, hb⟩
      have HB42 := Lib.hid (HB41.out.trans (hb.mono HB41.out.size))
      have HU2 := Lib.hid (HU1.out.below hb HU1.out.low)
      have HE2 := Lib.hid (HE1.out.below hb HE1.out.low)
      have HN2 := Lib.hid (HN1.out.below hb)
      have HS12 := Lib.hid hb.size
      clear hb HB41 HU1 HE1 HN1
      go_wp2_with fail
      refine (vInt_same _ _ l c3 c4 _ _ L w42 HL.out (by unfold maxLen; omega) HN2.out (own_hasv ho)).mono ?_
      rintro e w43 ⟨rfl, hD⟩
      have HB43 := Lib.hid (HB42.out.trans ((hD.below _).mono HB42.out.size))
      have HU3 := Lib.hid (HU2.out.below (hD.below _) HU2.out.low)
      have HE3 := Lib.hid (HE2.out.below (hD.below _) HE2.out.low)
      have HN3 := Lib.hid ((hD.has HN2.out).more (Nat.le_trans HS12.out (hD.below w42.heap.size).size))
      clear hD ho HB42 HU2 HE2 HN2 HS12
      cases x with
      | false =>
        go_wp2_with fail
        go_ret
        exact ⟨rfl, HB43.out⟩
      | true =>
      have hR := HA.out.facts
      have HR := Lib.hid hR
      have hlq : l = q := by rw [← HL.out, hR.len, HU3.out.len]
      have hq6 : q ≤ 6 := by rw [← HU3.out.len]; exact hR.low
      have hm12 : m ≤ 12 := by rw [← HE3.out.len]; exact ((gT_iff us es).1 hR.can).2.1
      subst hlq
      obtain ⟨L2, z2, x2, hA2⟩ := runWA_ex us es
      obtain ⟨l2, hl2⟩ : ∃ k, L2.length = k := ⟨_, rfl⟩
      obtain ⟨-, rfl, rfl⟩ := hA2.1 hR.can
      have HL2 := Lib.hid hl2
      have HA2 := Lib.hid hA2
      have HML := Lib.hid (made_le us es es.length)
      have HZ := Lib.hid hR.zero
      have HEL := Lib.hid HE3.out.len
      clear hA2 hl2 hR HA
      go_wp2_with fail
      refine (runI_any c8 c9 HU3.out (by omega) HE3.out (by omega) L2 _ true HA2.out l2 HL2.out).mono ?_
      rintro e w44 ⟨g5, c5, rfl, ho, hb⟩
      have HB44 := Lib.hid (HB43.out.trans (hb.mono HB43.out.size))
      have HU4 := Lib.hid (HU3.out.below hb HU3.out.low)
      have HE4 := Lib.hid (HE3.out.below hb HE3.out.low)
      have HN4 := Lib.hid ((HN3.out.below hb).more hb.size)
      clear hb ho HB43 HU3 HE3 HN3 HA2
      rw [HEL.out] at HZ HML
      rw [HEL.out]
      generalize made us es m = M at HZ HML ⊢
      have hMl := HML.out
      by_cases hMm : M = m
      · have hb1 : ((M : Int) == (m : Int)) = true := by simp [hMm]
        have CS := Lib.hid (fun W (h : Has W W.heap.size (some ⟨g3, 0, none⟩) (L.map (.int .i64))) => vSum_any c3 HL.out h (by omega) (fun j hj => by have := HR.out.bd j (by rw [HU4.out.len]; exact hj); omega))
        rw [sumZ_zero l (fun j hj => HZ.out hMm j (by rw [HU4.out.len]; exact hj))] at CS
        clear hMm HZ
        go_wp2_with fail
        refine (CS.out _ HN4.out).mono ?_
        rintro e w45 ⟨rfl, rfl⟩
        clear CS
        obtain ⟨i0, hi, hz0, hz1, hz2⟩ := info_parts Try.infoBasin'
        have HO0 : Hid (World.ownsRow (w44.alloc (.cells #[] 53)) w44.heap.size 53 3 (.slice (some ⟨w44.heap.size, 0, none⟩) 0 0) 0 (flatBasin ((roomy us L).take 0))) := Lib.hid (World.ownsRow_made w44 #[] 0 (Nat.le_refl _) (by unfold maxLen; omega) rfl)
        have HBX := Lib.hid (below1 w44 (.cells #[] 53))
        go_wp2_with fail
        go_loopw [36, 37] (fun v i wr => ∃ (k g6 c6 : Nat), k ≤ l ∧ i = .int .i64 k ∧ v = .slice (some ⟨g6, 0, none⟩) k c6 ∧ Hid (wr.ownsRow w44.heap.size 53 3 (.slice (some ⟨g6, 0, none⟩) k c6) k (flatBasin ((roomy us L).take k))) ∧ Hid (Below w44.heap.size w44 wr)) (fun _ i _ => l - (intOf i).toNat)
        case atStart => exact ⟨0, w44.heap.size, 0, Nat.zero_le _, rfl, rfl, HO0, HBX⟩
        case round =>
          clear HO0 HBX
          obtain ⟨k, g6, c6, hk, rfl, rfl, HO, HBL⟩ := hrel
          have HUk := Lib.hid (HU4.out.below HBL.out HU4.out.low)
          have HNk := Lib.hid (HN4.out.below HBL.out)
          by_cases hlt : k < l
          · obtain ⟨a2, ea2, -, HV⟩ := HUk.out.has.Basin (k := k) (by rw [HUk.out.len]; exact hlt)
            injection ea2 with ea2
            subst ea2
            obtain ⟨a3, ea3, -, en⟩ := intGet HNk.out (k := k) (by rw [HL.out]; exact hlt)
            injection ea3 with ea3
            subst ea3
            have hkl : k < us.length := by rw [HUk.out.len]; exact hlt
            have hbd := HR.out.bd k hkl
            obtain ⟨⟨h1, h2⟩, h3, h4⟩ := HR.out.good.2 k hkl
            have HTK := Lib.hid (roomy_take (L := L) hkl)
            generalize L.getD k 0 = z at en hbd HTK
            generalize us.getD k noBasin = V at HV h1 h2 h3 h4 HTK
            obtain ⟨d, lo, mo⟩ := V
            obtain ⟨e0, e1, e2⟩ := HV
            dsimp only at e0 e1 e2 h1 h2 h3 h4 HTK
            simp only [addO, Nat.zero_add] at e0 e1 e2 en
            have hk0 : (0 : Int) ≤ (k : Int) := by omega
            have hk1 : (k : Int) < (l : Int) := by omega
            have hwr : IntKind.i64.wrap (d + z) = d + z := by rw [IntKind.wrap_i64]; omega
            have HODA : Hid (World.ownsRow ((World.drew wr).alloc (.cells #[.int .i64 (d + z), .int .i64 lo, .int .i64 100000] 53)) w44.heap.size 53 3 (.slice (some ⟨g6, 0, none⟩) k c6) k (flatBasin ((roomy us L).take k))) := Lib.hid (World.ownsRow.alloc ((Drawn.one wr 1).own HO.out) _)
            have HBDA : Hid (Below w44.heap.size w44 ((World.drew wr).alloc (.cells #[.int .i64 (d + z), .int .i64 lo, .int .i64 100000] 53))) := Lib.hid ((HBL.out.trans ((Drawn.one wr 1).below _)).alloc HBL.out.size _)
            have HSZ := Lib.hid HBL.out.size
            have hg6 : w44.heap.size ≤ g6 := (HO.out.lt g6 rfl).1
            clear HUk HNk HO HBL
            go_wp2_with fail
            go_region_law (refine step_append rfl (.tmp 230) (.tmp 247) 24 rfl w44.heap.size 53 i0 (.agg #[.int .i64 0, .int .i64 0, .int .i64 0]) 3 24 Try.underlying24 hi hz0 hz1 hz2 rfl (by decide) (.slice (some ⟨g6, 0, none⟩) k c6) k _ rfl HODA.out ⟨wr.heap.size, 0, none⟩ 1 1 [.int .i64 (d + z), .int .i64 lo, .int .i64 100000] rfl rfl (cell_three_new _ _ _ _ _) (by simp [Value.oneCell']) (by unfold maxLen; omega) (by omega) (by have := HSZ.out; simp; omega) (fun e => nomatch e) ?_; intro g7 c7 w47 hown1 hgrow1; have HRN : Hid (w47.ownsRow w44.heap.size 53 3 (.slice (some ⟨g7, 0, none⟩) (k + 1) c7) (k + 1) (flatBasin ((roomy us L).take (k + 1)))) := Lib.hid (by rw [HTK.out, flatBasin_append]; exact hown1); have HBN := Lib.hid (HBDA.out.grown hgrow1 (by have := HSZ.out; simp; omega) (fun r hr => by cases hr; exact hg6)); clear hgrow1 hown1)
            all_goals
              go_wp2_with fail
              go_roundw
              case rel => exact ⟨k + 1, g7, c7, by omega, by go_num, rfl, HRN, HBN⟩
              case measure => simp [intOf]; omega
          · obtain rfl : k = l := by omega
            have hrl : (roomy us L).take k = roomy us L := List.take_of_length_le (by rw [roomy_len, HUk.out.len]; exact Nat.le_refl _)
            rw [hrl] at HO
            have HB50 := Lib.hid (HB44.out.trans (HBL.out.mono HB44.out.size))
            have HE5 := Lib.hid (HE4.out.below HBL.out HE4.out.low)
            have hok := own_Basins HO.out
            have HOK := Lib.hid hok
            have C9 := Lib.hid (areBasins_any c6 hok (by unfold maxLen; omega))
            have HRM := Lib.hid HR.out.room
            have HUL := Lib.hid HUk.out.len
            generalize gBs (roomy us L) = G9 at C9 HRM
            clear hrl hok HO HBL HB44 HU4 HE4 HN4 HUk HNk HR
            go_wp2_with fail
            refine C9.out.mono ?_
            rintro e w51 ⟨rfl, hb⟩
            have HB51 := Lib.hid (HB50.out.trans (hb.mono HB50.out.size))
            have HE6 := Lib.hid (HE5.out.below hb HE5.out.low)
            have HO6 := Lib.hid (HOK.out.below hb HOK.out.low)
            clear hb C9 HB50 HE5 HOK
            cases G9 with
            | false =>
              go_wp2_with fail
              go_ret
              exact ⟨rfl, HB51.out⟩
            | true =>
              obtain ⟨R, hRA, hRl, hRz⟩ := HRM.out rfl
              rw [HUL.out] at hRl hRz
              have HRL := Lib.hid hRl
              have CR := Lib.hid (refI_any c6 c9 HO6.out (by omega) HE6.out (by omega) R true hRA k hRl)
              have CS2 := Lib.hid (fun g c W (h : Has W W.heap.size (some ⟨g, 0, none⟩) (R.map (.int .i64))) => vSum_any c hRl h (by omega) (fun j hj => by have := hRz j hj; omega))
              rw [sumZ_zero k hRz] at CS2
              clear hRA hRl hRz HRM
              go_wp2_with fail
              refine CR.out.mono ?_
              rintro e w52 ⟨g9r, c9r, rfl, ho, hb⟩
              have HB52 := Lib.hid (HB51.out.trans (hb.mono HB51.out.size))
              have CS3 := Lib.hid (CS2.out _ c9r w52 (own_hasv ho))
              clear hb ho CR CS2 HB51 HE6 HO6
              go_wp2_with fail
              refine CS3.out.mono ?_
              rintro e w53 ⟨rfl, rfl⟩
              clear CS3
              go_wp2_with fail
              go_ret
              exact ⟨rfl, HB52.out⟩
      · have hb1 : ((M : Int) == (m : Int)) = false := by simp; omega
        clear hMm HZ
        obtain ⟨i0, hi, hz0, hz1, hz2⟩ := info_parts Try.infoBasin'
        have HO0 : Hid (World.ownsRow (w44.alloc (.cells #[] 53)) w44.heap.size 53 3 (.slice (some ⟨w44.heap.size, 0, none⟩) 0 0) 0 (flatBasin ((roomy us L).take 0))) := Lib.hid (World.ownsRow_made w44 #[] 0 (Nat.le_refl _) (by unfold maxLen; omega) rfl)
        have HBX := Lib.hid (below1 w44 (.cells #[] 53))
        go_wp2_with fail
        go_loopw [36, 37] (fun v i wr => ∃ (k g6 c6 : Nat), k ≤ l ∧ i = .int .i64 k ∧ v = .slice (some ⟨g6, 0, none⟩) k c6 ∧ Hid (wr.ownsRow w44.heap.size 53 3 (.slice (some ⟨g6, 0, none⟩) k c6) k (flatBasin ((roomy us L).take k))) ∧ Hid (Below w44.heap.size w44 wr)) (fun _ i _ => l - (intOf i).toNat)
        case atStart => exact ⟨0, w44.heap.size, 0, Nat.zero_le _, rfl, rfl, HO0, HBX⟩
        case round =>
          clear HO0 HBX
          obtain ⟨k, g6, c6, hk, rfl, rfl, HO, HBL⟩ := hrel
          have HUk := Lib.hid (HU4.out.below HBL.out HU4.out.low)
          have HNk := Lib.hid (HN4.out.below HBL.out)
          by_cases hlt : k < l
          · obtain ⟨a2, ea2, -, HV⟩ := HUk.out.has.Basin (k := k) (by rw [HUk.out.len]; exact hlt)
            injection ea2 with ea2
            subst ea2
            obtain ⟨a3, ea3, -, en⟩ := intGet HNk.out (k := k) (by rw [HL.out]; exact hlt)
            injection ea3 with ea3
            subst ea3
            have hkl : k < us.length := by rw [HUk.out.len]; exact hlt
            have hbd := HR.out.bd k hkl
            obtain ⟨⟨h1, h2⟩, h3, h4⟩ := HR.out.good.2 k hkl
            have HTK := Lib.hid (roomy_take (L := L) hkl)
            generalize L.getD k 0 = z at en hbd HTK
            generalize us.getD k noBasin = V at HV h1 h2 h3 h4 HTK
            obtain ⟨d, lo, mo⟩ := V
            obtain ⟨e0, e1, e2⟩ := HV
            dsimp only at e0 e1 e2 h1 h2 h3 h4 HTK
            simp only [addO, Nat.zero_add] at e0 e1 e2 en
            have hk0 : (0 : Int) ≤ (k : Int) := by omega
            have hk1 : (k : Int) < (l : Int) := by omega
            have hwr : IntKind.i64.wrap (d + z) = d + z := by rw [IntKind.wrap_i64]; omega
            have HODA : Hid (World.ownsRow ((World.drew wr).alloc (.cells #[.int .i64 (d + z), .int .i64 lo, .int .i64 100000] 53)) w44.heap.size 53 3 (.slice (some ⟨g6, 0, none⟩) k c6) k (flatBasin ((roomy us L).take k))) := Lib.hid (World.ownsRow.alloc ((Drawn.one wr 1).own HO.out) _)
            have HBDA : Hid (Below w44.heap.size w44 ((World.drew wr).alloc (.cells #[.int .i64 (d + z), .int .i64 lo, .int .i64 100000] 53))) := Lib.hid ((HBL.out.trans ((Drawn.one wr 1).below _)).alloc HBL.out.size _)
            have HSZ := Lib.hid HBL.out.size
            have hg6 : w44.heap.size ≤ g6 := (HO.out.lt g6 rfl).1
            clear HUk HNk HO HBL
            go_wp2_with fail
            go_region_law (refine step_append rfl (.tmp 230) (.tmp 247) 24 rfl w44.heap.size 53 i0 (.agg #[.int .i64 0, .int .i64 0, .int .i64 0]) 3 24 Try.underlying24 hi hz0 hz1 hz2 rfl (by decide) (.slice (some ⟨g6, 0, none⟩) k c6) k _ rfl HODA.out ⟨wr.heap.size, 0, none⟩ 1 1 [.int .i64 (d + z), .int .i64 lo, .int .i64 100000] rfl rfl (cell_three_new _ _ _ _ _) (by simp [Value.oneCell']) (by unfold maxLen; omega) (by omega) (by have := HSZ.out; simp; omega) (fun e => nomatch e) ?_; intro g7 c7 w47 hown1 hgrow1; have HRN : Hid (w47.ownsRow w44.heap.size 53 3 (.slice (some ⟨g7, 0, none⟩) (k + 1) c7) (k + 1) (flatBasin ((roomy us L).take (k + 1)))) := Lib.hid (by rw [HTK.out, flatBasin_append]; exact hown1); have HBN := Lib.hid (HBDA.out.grown hgrow1 (by have := HSZ.out; simp; omega) (fun r hr => by cases hr; exact hg6)); clear hgrow1 hown1)
            all_goals
              go_wp2_with fail
              go_roundw
              case rel => exact ⟨k + 1, g7, c7, by omega, by go_num, rfl, HRN, HBN⟩
              case measure => simp [intOf]; omega
          · obtain rfl : k = l := by omega
            have hrl : (roomy us L).take k = roomy us L := List.take_of_length_le (by rw [roomy_len, HUk.out.len]; exact Nat.le_refl _)
            rw [hrl] at HO
            have HB50 := Lib.hid (HB44.out.trans (HBL.out.mono HB44.out.size))
            have HE5 := Lib.hid (HE4.out.below HBL.out HE4.out.low)
            have hok := own_Basins HO.out
            have HOK := Lib.hid hok
            have C9 := Lib.hid (areBasins_any c6 hok (by unfold maxLen; omega))
            have HRM := Lib.hid HR.out.room
            have HUL := Lib.hid HUk.out.len
            generalize gBs (roomy us L) = G9 at C9 HRM
            clear hrl hok HO HBL HB44 HU4 HE4 HN4 HUk HNk HR
            go_wp2_with fail
            refine C9.out.mono ?_
            rintro e w51 ⟨rfl, hb⟩
            have HB51 := Lib.hid (HB50.out.trans (hb.mono HB50.out.size))
            have HE6 := Lib.hid (HE5.out.below hb HE5.out.low)
            have HO6 := Lib.hid (HOK.out.below hb HOK.out.low)
            clear hb C9 HB50 HE5 HOK
            cases G9 with
            | false =>
              go_wp2_with fail
              go_ret
              exact ⟨rfl, HB51.out⟩
            | true =>
              obtain ⟨R, hRA, hRl, hRz⟩ := HRM.out rfl
              rw [HUL.out] at hRl hRz
              have HRL := Lib.hid hRl
              have CR := Lib.hid (refI_any c6 c9 HO6.out (by omega) HE6.out (by omega) R true hRA k hRl)
              have CS2 := Lib.hid (fun g c W (h : Has W W.heap.size (some ⟨g, 0, none⟩) (R.map (.int .i64))) => vSum_any c hRl h (by omega) (fun j hj => by have := hRz j hj; omega))
              rw [sumZ_zero k hRz] at CS2
              clear hRA hRl hRz HRM
              go_wp2_with fail
              refine CR.out.mono ?_
              rintro e w52 ⟨g9r, c9r, rfl, ho, hb⟩
              have HB52 := Lib.hid (HB51.out.trans (hb.mono HB51.out.size))
              have CS3 := Lib.hid (CS2.out _ c9r w52 (own_hasv ho))
              clear hb ho CR CS2 HB51 HE6 HO6
              go_wp2_with fail
              refine CS3.out.mono ?_
              rintro e w53 ⟨rfl, rfl⟩
              clear CS3
              go_wp2_with fail
              go_ret
              exact ⟨rfl, HB52.out⟩
      )
    clear HK2
    cases x with
    | false =>
      clear HV3 HY3 HA
      go_wp2_with fail
      exact HRJ2.out _ _ rfl HB13
    | true =>
      obtain ⟨hlm, hl7, hgL, hLL, t, ht0, ht1⟩ := HA.out.facts
      have hlq : l = q := by rw [← HL.out, hlm, HV3.out.len]
      subst hlq
      have HT0 := Lib.hid ht0
      have HT1 := Lib.hid ht1
      have HLL := Lib.hid hLL
      have HGL := Lib.hid hgL
      have htt : (t != t) = false := by simp
      clear hlm ht0 ht1 hLL hgL HA
      go_wp2_with fail
      refine (totI_any c1 HV3.out (by omega) t true HT0.out).mono ?_
      rintro e w14 ⟨rfl, hb⟩
      have HB14 := Lib.hid (HB13.out.trans (hb.mono HB13.out.size))
      have HY4 := Lib.hid (HY3.out.below hb HY3.out.low)
      clear hb HB13 HV3 HY3
      go_wp2_with fail
      refine (totI_any c3 HY4.out (by omega) t true HT1.out).mono ?_
      rintro e w15 ⟨rfl, hb⟩
      have HB15 := Lib.hid (HB14.out.trans (hb.mono HB14.out.size))
      have HY5 := Lib.hid (HY4.out.below hb HY4.out.low)
      clear hb HB14 HY4
      go_wp2_with fail
      refine (levI_any c3 HY5.out (by omega) L true HLL.out l HL.out).mono ?_
      rintro e w16 ⟨g5, c5, rfl, ho, hb⟩
      have HB16 := Lib.hid (HB15.out.trans (hb.mono HB15.out.size))
      have HY6 := Lib.hid (HY5.out.below hb HY5.out.low)
      have HW6 := Lib.hid (own_Basins ho)
      clear hb ho HB15 HY5
      go_wp2_with fail
      refine (vBasins_same c5 c3 HW6.out HY6.out (by omega)).mono ?_
      rintro e w17 ⟨rfl, hb⟩
      have HB17 := Lib.hid (HB16.out.trans (hb.mono HB16.out.size))
      have HY7 := Lib.hid (HY6.out.below hb HY6.out.low)
      have C8 := Lib.hid (areBasins_any c3 HY7.out (by unfold maxLen; omega))
      rw [HGL.out] at C8
      clear hb HB16 HY6 HW6
      go_wp2_with fail
      refine C8.out.mono ?_
      rintro e w18 ⟨rfl, hb⟩
      have HB18 := Lib.hid (HB17.out.trans (hb.mono HB17.out.size))
      clear hb C8 HB17 HY7
      go_wp2_with fail
      exact HRJ2.out _ _ rfl HB18)
  clear HK1
  cases x with
  | false =>
    clear HV3 HA
    go_wp2_with fail
    exact HRJ1.out _ _ rfl HB3
  | true =>
    obtain ⟨hg, hf, hz0, hz1, hv1, hv2, hze⟩ := HA.out.facts
    dsimp only at hv1 hv2 hze
    have hp0 : 0 ≤ z * f2 := Int.mul_nonneg hz0 (by omega)
    have hp1 : z * f2 ≤ 100000 * 100000 := Int.mul_le_mul hz1 hv2 (by omega) (by omega)
    have hr1 : (z + 1) * f2 = z * f2 + f2 := by rw [Int.add_mul]; omega
    have hwp : IntKind.i64.wrap (z * f2) = z * f2 := by rw [IntKind.wrap_i64]; omega
    have hwr : IntKind.i64.wrap ((z + 1) * f2) = (z + 1) * f2 := by rw [IntKind.wrap_i64]; omega
    have HMR := Lib.hid (fun W (hb : Below w3.heap.size w3 W) => moveI_any c1 (HV3.out.below hb HV3.out.low) (by omega) f0 f1 ((z + 1) * f2) [] false (most_more hg hf hze) 0 rfl)
    by_cases hlt : z * f2 < 100000
    · by_cases h0 : 0 < z
      · have HMS := Lib.hid (fun W (hb : Below w3.heap.size w3 W) => moveI_any c1 (HV3.out.below hb HV3.out.low) (by omega) f0 f1 (z * f2) (move vs ⟨f0, f1, z * f2⟩) true (most_some hg hf hze h0 hlt) _ rfl)
        clear hr1 hze hg hf HA
        go_wp2_with fail
        have hb4 := below1 w3 (.cells #[.int .i64 f0, .int .i64 f1, .int .i64 (z * f2)] 38)
        refine (HMS.out _ hb4).mono ?_
        rintro e w4 ⟨g5, c5, rfl, ho, hb⟩
        have HQ4 := Lib.hid (hb4.trans (hb.mono hb4.size))
        have HB4 := Lib.hid (HB3.out.trans (HQ4.out.mono HB3.out.size))
        clear hb ho hb4 HMS
        go_wp2_with fail
        refine (HMR.out _ HQ4.out).mono ?_
        rintro e w5 ⟨g6, c6, rfl, ho, hb⟩
        have HB5 := Lib.hid (HB4.out.trans (hb.mono HB4.out.size))
        clear hb ho HMR HQ4 HB4
        go_wp2_with fail
        exact HRJ1.out _ _ rfl HB5
      · have HMS := Lib.hid (fun W (hb : Below w3.heap.size w3 W) => moveI_any c1 (HV3.out.below hb HV3.out.low) (by omega) f0 f1 (z * f2) [] false (by rw [show z = 0 by omega, Int.zero_mul]; exact most_zero f0 f1) 0 rfl)
        have b0 : decide (0 < z) = false := decide_eq_false h0
        clear hr1 hze hg hf HA
        go_wp2_with fail
        have hb4 := below1 w3 (.cells #[.int .i64 f0, .int .i64 f1, .int .i64 (z * f2)] 38)
        refine (HMS.out _ hb4).mono ?_
        rintro e w4 ⟨g5, c5, rfl, ho, hb⟩
        have HQ4 := Lib.hid (hb4.trans (hb.mono hb4.size))
        have HB4 := Lib.hid (HB3.out.trans (HQ4.out.mono HB3.out.size))
        clear hb ho hb4 HMS
        go_wp2_with fail
        refine (HMR.out _ HQ4.out).mono ?_
        rintro e w5 ⟨g6, c6, rfl, ho, hb⟩
        have HB5 := Lib.hid (HB4.out.trans (hb.mono HB4.out.size))
        clear hb ho HMR HQ4 HB4
        go_wp2_with fail
        exact HRJ1.out _ _ rfl HB5
    · clear hr1 hze hg hf HA HV3 HMR
      go_wp2_with fail
      exact HRJ1.out _ _ rfl HB3
theorem own : ownKnob Try.prog.godebug = none := by kernel_rfl
theorem laidOut : laidOutB Try.prog = true := by kernel_rfl

set_option maxRecDepth 100000 in
theorem lifted (os : Os) (started : os.Started) (H : Type) (enc : TypeId × Value → H) :
    ReturnsInHanded {} Try.checked os 4 .any (Rows.fnSuppliesSpec.pre6 enc Try.prog Try.f4 Rows.fnSuppliesRow.domain false) (Rows.fnSuppliesSpec.post enc Try.prog Try.f4 false true false false) := by
  refine returnsInHanded_of_change (C := Try.checked) own started (by kernel_rfl) Try.func4
    (ChangeSpec.witness6 (enc := enc) (C := Try.checked) false ⟨#[], #[.slice none 0 0], []⟩ 8 (by kernel_rfl) (by kernel_rfl) (by kernel_rfl) (by kernel_rfl)) ?_
  intro W base args ds gs before hval0 hW hcnd _
  have hval : ∀ (j : Nat) t v, Try.f4.params[j]? = some t → args[j]? = some v → Value.okWide Try.prog W .any base t v := hval0
  have hW' := hW
  obtain ⟨p, q, hA0, hV, rfl, hfz, hnd⟩ := hW
  have hA : DataW.TrodAll enc Try.prog W 0 (fun _ => true) true Try.f4.params.toList args.toList ds p := hA0
  rw [Try.params4] at hA hval
  obtain ⟨v0, vs0, d0, ds0, p0, q0, hargs, rfl, rfl, h0, r0⟩ := trodAll_cons hA
  obtain ⟨rfl, rfl, rfl⟩ := trodAll_nil r0
  obtain rfl : args = #[v0] := by cases args; simp_all
  obtain ⟨rfl, rfl⟩ := trodVars_none hV
  obtain ⟨a0, len0, cap0, rfl⟩ := okWide_slice Try.underlying22 (hval 0 22 v0 rfl rfl)
  have k0 := h0
  have lt0 : ∀ x ∈ p0, x.block < W.heap.size := by obtain ⟨m, hm⟩ := k0; exact DataW.trod_lt m _ _ _ hm
  obtain ⟨z0, w0⟩ : ∃ zs, IsInts .u8 W a0 len0 zs := by
    obtain ⟨fuel, hf⟩ := h0
    rcases open_ints Try.underlying22 Try.underlying5 (by kernel_rfl) hf with ⟨hcs, _⟩ | ⟨x, l, c, zs, hcs, _, hl, hm, hz, _, hcell, hwz⟩
    · simp [Value.cells] at hcs
      obtain ⟨rfl, rfl, rfl⟩ := hcs
      exact ⟨[], isInts_nil _ W⟩
    · simp [Value.cells] at hcs
      obtain ⟨rfl, rfl, rfl⟩ := hcs
      exact ⟨_, isInts_some hl hm (by simpa using hz) hcell hwz⟩
  clear hA0 hval0
  refine (walk a0 len0 cap0 z0 W w0).mono fun e W' ⟨he, bel⟩ => ?_
  subst he
  exact ⟨_, rfl, _, _, _, [], _, [], hW', trodAll_mk1 (shut_bool Try.underlying4 _), (trodAll_cons_mk (Below.trod laidOut (by kernel_rfl) (of_decide_eq_true (by kernel_rfl)) k0 bel lt0) trodAll_mk0), rfl, bel.frame _, fun h => by cases h⟩

theorem over : Rows.fnSuppliesRow.holds Try.pinned (OpenSpec.ofChange Rows.fnSuppliesSpec) :=
  OpenClaim.holds_of_wide 4 Try.f4 rfl rfl rfl rfl rfl rfl rfl ⟨rfl, rfl, rfl, rfl, rfl⟩ rfl rfl rfl rfl rfl (by kernel_rfl) Try.func4 (by kernel_rfl)
    (of_decide_eq_true (by kernel_rfl)) (by unfold Func.isWrapper; first | (rw [if_pos (by decide +kernel)]; kernel_rfl) | (rw [if_neg (by decide +kernel)]; exact ⟨rfl, rfl⟩))
    (fun os started H enc _ => lifted os started H enc)

/-- The statement. -/
theorem proved : Rows.FnSuppliesSaid := over
end Go.Proofs.Ytliebicnejbheaa.fnSupplies
