/- What is proved: laws.FnFleets, called with any bytes, returns true: vessels are recovered from their texts, and an added vessel is found by its name. Condition: the library's tables and errors start as their text lays them (the card ties them to it). -/
import Derived.Test.YtliebicnejbheabGreatDoorMg35
import Derived.Test.YtliebicnejbheabGreatDoorMg33
import Derived.Test.YtliebicnejbheabGreatDoorMg36
import Derived.Test.YtliebicnejbheabGreatDoorCards
import Derived.Test.YtliebicnejbheabGreatDoorTie
namespace Go.Proofs.YtliebicnejbheabGreatDoor.fnFleets
open Go.ChangeShapes Go.WideShapes Go.ChangeAt Go.RowKit
open Go.ChangeMaps (open_string shut_string)
set_option linter.unusedVariables false
set_option linter.unusedSimpArgs false

theorem errs_of4 {x y z v u : String × DataW Unit} {w : World} (h : laidMet Tryz.prog (x :: y :: z :: v :: ("strconv.ErrRange", Rows.laid_strconv_ErrRange) :: ("strconv.ErrSyntax", Rows.laid_strconv_ErrSyntax) :: u :: []) w) : Errs w := by
  have h3 := h.tail.tail.tail.tail
  obtain ⟨a0, s0, hv0, -, -, -⟩ := laid_sentinel h3 gRng (show (Tryz.prog.globals[4]?).map (·.type) = some 81 by kernel_rfl) Tryz.underlying81 rowErr Tryz.underlying133 Tryz.underlying135 rfl rfl Tryz.underlying9 (by kernel_rfl) (by kernel_rfl)
  obtain ⟨a1, s1, hv1, -, -, -⟩ := laid_sentinel h3.tail gSyn (show (Tryz.prog.globals[3]?).map (·.type) = some 81 by kernel_rfl) Tryz.underlying81 rowErr Tryz.underlying133 Tryz.underlying135 rfl rfl Tryz.underlying9 (by kernel_rfl) (by kernel_rfl)
  exact ⟨⟨_, _, hv1⟩, ⟨_, _, hv0⟩⟩

theorem below_new (w : World) (o : Obj) : Below w.heap.size w (w.alloc o) := (Below.refl _ _).alloc (Nat.le_refl _) _
set_option maxRecDepth 100000 in
set_option maxHeartbeats 8000000 in
theorem walk (A : Option Addr) (n c : Nat) (zs : List Int) (w : World) (hI : IsInts .u8 w A n zs) (hL : laidMet Tryz.prog Rows.fnFleetsRow.laid w) (hsh : w.ShapedOpen Tryz.prog) :
    Calls Tryz.prog 3 #[.slice A n c] w fun e w' => e = .returned (.bool true) ∧ Below w.heap.size w w' := by
  have CB := Lib.hid (fun W => rBig_any A n c W hI.2.1)
  by_cases hbig : (65536 : Int) < (n : Int)
  · rw [decide_eq_true hbig] at CB
    clear hI hL hsh
    go_enter Tryz.func3, Tryz.ntmps3
    go_wp2_with fail
    refine (CB.out _).mono ?_
    rintro e w1 ⟨rfl, rfl⟩
    go_wp2_with fail
    go_ret
    exact ⟨rfl, Below.refl _ _⟩
  · rw [decide_eq_false hbig] at CB
    have hT0 : Tab w := tab_of hL
    have hE0 : Errs w := errs_of4 hL
    have hM0 : Mx w := mx_ofS hsh
    have hT := Lib.hid (fun W (hW : Below w.heap.size w W) => hT0.on hW (Nat.le_refl _))
    have hE := Lib.hid (fun W (hW : Below w.heap.size w W) => hE0.on hW (Nat.le_refl _))
    have hM := Lib.hid (fun W (hW : Below w.heap.size w W) => hM0.on hW (Nat.le_refl _))
    have HC := Lib.hid (Code_.of hI (by omega))
    have D1 := Lib.hid (drawVT_any c HC.out)
    clear hI hbig hL hsh hT0 hE0 hM0
    go_enter Tryz.func3, Tryz.ntmps3
    go_wp2_with fail
    refine (CB.out _).mono ?_
    rintro e w1 ⟨rfl, rfl⟩
    clear CB
    go_wp2_with fail
    refine D1.out.mono ?_
    rintro e w1 ⟨i, s, l, b, d, q, hs, rfl, hb⟩
    have B1 := Lib.hid hb
    have B2 := Lib.hid (B1.out.alloc B1.out.size (.cells #[.int .i64 i, .string s, .int .i64 l, .int .i64 b, .int .i64 d, .int .i64 q] 25))
    clear hb D1
    obtain ⟨T, x, hTs, hy, hn⟩ := vt_ex ⟨i, s, l, b, d, q⟩
    have HY := Lib.hid hy
    have HN := Lib.hid hn
    have hsz : s.size ≤ maxLen := by unfold maxLen; omega
    have hxg : gV ⟨i, s, l, b, d, q⟩ = x := by
      by_cases g : goodV ⟨i, s, l, b, d, q⟩
      · rw [gV_yes g, (hy g).2]
      · rw [gV_no g, (hn g).2]
    have hxx : (x != x) = false := by simp
    clear hy hn
    go_wp2_with fail
    refine (implVT_any i s l b d q _ hsz T x HY.out HN.out (hT.out _ B2.out) (hM.out _ B2.out)).mono ?_
    rintro e w3 ⟨rfl, hb⟩
    have X3 := Lib.hid ((BoxV.new w1 i s l b d q).all hb)
    have B3 := Lib.hid (B2.out.trans (hb.mono B2.out.size))
    clear hb B1 B2
    obtain ⟨k0, k1, k2, k3, k4, k5⟩ := X3.out.cs
    go_wp2_with fail
    refine (specVT_any i s l b d q _ hsz T x HY.out HN.out).mono ?_
    rintro e w4 ⟨rfl, hb⟩
    have X4 := Lib.hid (X3.out.all hb)
    have B4 := Lib.hid (B3.out.trans (hb.mono B3.out.size))
    clear k0 k1 k2 k3 k4 k5
    clear hb X3 B3
    obtain ⟨k0, k1, k2, k3, k4, k5⟩ := X4.out.cs
    have CV := Lib.hid (fun W => implGoodV_any i s l b d q W hsz)
    rw [hxg] at CV
    go_wp2_with fail
    refine (CV.out _).mono ?_
    rintro e w5 ⟨rfl, hb⟩
    have X5 := Lib.hid (X4.out.all hb)
    have B5 := Lib.hid (B4.out.trans (hb.mono B4.out.size))
    clear k0 k1 k2 k3 k4 k5
    clear hb X4 B4 CV HN
    obtain ⟨⟨i1, s1, l1, b1, d1, q1⟩, x1, hp1⟩ := parsed_ex T
    have HP1 := Lib.hid hp1
    clear hp1
    cases x with
    | false =>
      go_wp2_with fail
      refine (implPV_any T _ (by omega) i1 s1 l1 b1 d1 q1 x1 HP1.out (hT.out _ B5.out) (hE.out _ B5.out) (hM.out _ B5.out)).mono ?_
      rintro e w6 ⟨rfl, hb⟩
      have X6 := Lib.hid (X5.out.all hb)
      have B6 := Lib.hid (B5.out.trans (hb.mono B5.out.size))
      have B7 := Lib.hid (B6.out.alloc B6.out.size (.cells #[.int .i64 i1, .string s1, .int .i64 l1, .int .i64 b1, .int .i64 d1, .int .i64 q1] 25))
      have X7 := Lib.hid (X6.out.all (below_new w6 (.cells #[.int .i64 i1, .string s1, .int .i64 l1, .int .i64 b1, .int .i64 d1, .int .i64 q1] 25)))
      clear hb HP1 X5 B5 X6 B6 HY
      obtain ⟨k0, k1, k2, k3, k4, k5⟩ := X7.out.cs
      -- the drawn text
      have D2 := Lib.hid (drawPV_any c (HC.out.on B7.out))
      go_wp2_with fail
      clear k0 k1 k2 k3 k4 k5
      refine D2.out.mono ?_
      rintro e w20 ⟨t, ht, rfl, hb⟩
      have B20 := Lib.hid (B7.out.trans (hb.mono B7.out.size))
      clear hb D2 B7
      obtain ⟨⟨i2, s2, l2, b2, d2, q2⟩, x2, hp2⟩ := parsed_ex t
      have HP2 := Lib.hid hp2
      have hx2 : (x2 != x2) = false := by simp
      clear hp2
      go_wp2_with fail
      refine (implPV_any t _ (by omega) i2 s2 l2 b2 d2 q2 x2 HP2.out (hT.out _ B20.out) (hE.out _ B20.out) (hM.out _ B20.out)).mono ?_
      rintro e w21 ⟨rfl, hb⟩
      have B21 := Lib.hid (B20.out.trans (hb.mono B20.out.size))
      have B22 := Lib.hid (B21.out.alloc B21.out.size (.cells #[.int .i64 i2, .string s2, .int .i64 l2, .int .i64 b2, .int .i64 d2, .int .i64 q2] 25))
      clear hb
      go_wp2_with fail
      refine (specPV_any t _ (by omega) i2 s2 l2 b2 d2 q2 x2 HP2.out).mono ?_
      rintro e w23 ⟨rfl, hb⟩
      have Y23 := Lib.hid ((BoxV.new w21 i2 s2 l2 b2 d2 q2).all hb)
      have Y24 := Lib.hid (Y23.out.all (below_new w23 (.cells #[.int .i64 i2, .string s2, .int .i64 l2, .int .i64 b2, .int .i64 d2, .int .i64 q2] 25)))
      have B23 := Lib.hid (B22.out.trans (hb.mono B22.out.size))
      have B24 := Lib.hid (B23.out.alloc B23.out.size (.cells #[.int .i64 i2, .string s2, .int .i64 l2, .int .i64 b2, .int .i64 d2, .int .i64 q2] 25))
      clear hb HP2 Y23 B23 B22 B21 B20
      obtain ⟨k0, k1, k2, k3, k4, k5⟩ := Y24.out.cs
      -- the drawn list and vessel
      have D3 := Lib.hid (drawAdd_any c (HC.out.on B24.out))
      go_wp2_with fail
      clear k0 k1 k2 k3 k4 k5
      refine D3.out.mono ?_
      rintro e w30 ⟨g3, c3, m3, vs, i3, s3, l3, b3, d3, q3, hs3, rfl, hm3, hmc3, hvs, hb⟩
      have B30 := Lib.hid (B24.out.trans (hb.mono B24.out.size))
      have HV30 := Lib.hid hvs
      have B31 := Lib.hid (B30.out.alloc B30.out.size (.cells #[.int .i64 i3, .string s3, .int .i64 l3, .int .i64 b3, .int .i64 d3, .int .i64 q3] 25))
      have HV31 := Lib.hid (HV30.out.below (below_new w30 (.cells #[.int .i64 i3, .string s3, .int .i64 l3, .int .i64 b3, .int .i64 d3, .int .i64 q3] 25)) HV30.out.low)
      clear hb D3 B24 hvs
      obtain ⟨R, x3, hR9, hA⟩ := added_ex vs ⟨i3, s3, l3, b3, d3, q3⟩
      have HRn := Lib.hid (added_names hA HV30.out.nm (show s3.size ≤ maxLen by unfold maxLen; omega))
      obtain ⟨Rn, hRl⟩ : ∃ k, R.length = k := ⟨_, rfl⟩
      rw [hRl] at hR9
      have HA := Lib.hid hA
      have HRl := Lib.hid hRl
      have hx3 : (x3 != x3) = false := by simp
      clear hA hRl B30 HV30
      go_wp2_with fail
      refine (implAdd_any c3 HV31.out (by omega) hmc3 i3 s3 l3 b3 d3 q3 (by unfold maxLen; omega) R x3 HA.out).mono ?_
      rintro e w32 hgv
      obtain ⟨g4, c4, rfl, hRc, hR, hb⟩ := gives_vs hgv HRn.out HRl.out
      have X32 := Lib.hid ((BoxV.new w30 i3 s3 l3 b3 d3 q3).all hb)
      have B32 := Lib.hid (B31.out.trans (hb.mono B31.out.size))
      have HV32 := Lib.hid (HV31.out.below hb HV31.out.low)
      have HR32 := Lib.hid hR
      clear hgv hR hb B31 HV31
      obtain ⟨k0, k1, k2, k3, k4, k5⟩ := X32.out.cs
      go_wp2_with fail
      refine (specAdd_any c3 HV32.out (by omega) hmc3 i3 s3 l3 b3 d3 q3 (by unfold maxLen; omega) R x3 HA.out).mono ?_
      rintro e w33 hgv
      obtain ⟨g5, c5, rfl, -, hR, hb⟩ := gives_vs hgv HRn.out HRl.out
      have X33 := Lib.hid (X32.out.all hb)
      have B33 := Lib.hid (B32.out.trans (hb.mono B32.out.size))
      have HV33 := Lib.hid (HV32.out.below hb HV32.out.low)
      have HR33 := Lib.hid (HR32.out.below hb HR32.out.low)
      have CR := Lib.hid (rVs_same c4 c5 HR33.out hR (by unfold maxLen; omega))
      clear k0 k1 k2 k3 k4 k5
      clear hgv hR hb B32 HV32 HR32 X32
      go_wp2_with fail
      refine CR.out.mono ?_
      rintro e w34 ⟨rfl, hb⟩
      have X34 := Lib.hid (X33.out.all hb)
      have B34 := Lib.hid (B33.out.trans (hb.mono B33.out.size))
      have HV34 := Lib.hid (HV33.out.below hb HV33.out.low)
      have HR34 := Lib.hid (HR33.out.below hb HR33.out.low)
      clear hb CR B33 HV33 HR33 X33 HRn
      cases x3 with
      | false =>
        clear X34 HV34 HR34 HA
        -- the drawn list and name
        have D4 := Lib.hid (drawNam_any c (HC.out.on B34.out))
        go_wp2_with fail
        refine D4.out.mono ?_
        rintro e w50 ⟨g6, c6, m6, ws, t6, rfl, hm6, hmc6, hws, hb⟩
        have B50 := Lib.hid (B34.out.trans (hb.mono B34.out.size))
        have HW50 := Lib.hid hws
        clear hb D4 B34 hws
        obtain ⟨i7, s7, l7, b7, d7, q7, x7, hy7, hn7, hb7⟩ := named_two ws m6 t6
        have HY7 := Lib.hid hy7
        have HN7 := Lib.hid hn7
        have HB7 := Lib.hid hb7
        have hx7 : (x7 == x7) = true := by simp
        clear hy7 hn7 hb7
        go_wp2_with fail
        refine (implNamed_any c6 t6 HW50.out (by unfold maxLen; omega) hmc6 i7 s7 l7 b7 d7 q7 x7 HY7.out HN7.out HB7.out).mono ?_
        rintro e w51 ⟨rfl, hb⟩
        have HW51 := Lib.hid (HW50.out.below hb HW50.out.low)
        have HW52 := Lib.hid (HW51.out.below (below_new w51 (.cells #[.int .i64 i7, .string s7, .int .i64 l7, .int .i64 b7, .int .i64 d7, .int .i64 q7] 25)) HW51.out.low)
        have B51 := Lib.hid (B50.out.trans (hb.mono B50.out.size))
        have B52 := Lib.hid (B51.out.alloc B51.out.size (.cells #[.int .i64 i7, .string s7, .int .i64 l7, .int .i64 b7, .int .i64 d7, .int .i64 q7] 25))
        clear hb HW50 HW51 B50 B51
        go_wp2_with fail
        refine (specNamed_any c6 t6 HW52.out (by unfold maxLen; omega) i7 s7 l7 b7 d7 q7 x7 HY7.out HN7.out HB7.out).mono ?_
        rintro e w53 ⟨rfl, hb⟩
        have Y53 := Lib.hid ((BoxV.new w51 i7 s7 l7 b7 d7 q7).all hb)
        have Y54 := Lib.hid (Y53.out.all (below_new w53 (.cells #[.int .i64 i7, .string s7, .int .i64 l7, .int .i64 b7, .int .i64 d7, .int .i64 q7] 25)))
        have B53 := Lib.hid (B52.out.trans (hb.mono B52.out.size))
        have B54 := Lib.hid (B53.out.alloc B53.out.size (.cells #[.int .i64 i7, .string s7, .int .i64 l7, .int .i64 b7, .int .i64 d7, .int .i64 q7] 25))
        clear hb HW52 HY7 HN7 HB7 Y53 B52 B53
        obtain ⟨k0, k1, k2, k3, k4, k5⟩ := Y54.out.cs
        go_wp2_with fail
        go_ret
        exact ⟨rfl, B54.out⟩
      | true =>
        obtain ⟨f1, f2, f3, f4, f5, f6, f7, f8, f9⟩ := fleet_facts HA.out
        rw [HRl.out] at f5 f8 f9
        rw [HV34.out.len] at f5 f7
        obtain ⟨ca, hca⟩ : ∃ z, cel vs m3 = z := ⟨_, rfl⟩
        rw [hca] at f5 f7
        have F1 := Lib.hid f1
        have F2 := Lib.hid f2
        have F5 := Lib.hid f5
        have HCA := Lib.hid hca
        have C9 := Lib.hid (implNamed_any c4 s3 HR34.out (by unfold maxLen; omega) hRc i3 s3 l3 b3 d3 q3 true (fun _ k hk h1 h2 => ⟨f8 k hk h1 h2, rfl⟩) (fun _ h => absurd h f9) (fun h => by rw [f2] at h; cases h))
        clear f1 f2 f3 f4 f5 f8 f9 hca HA HRl
        obtain ⟨k0, k1, k2, k3, k4, k5⟩ := X34.out.cs
        go_wp2_with fail
        refine C9.out.mono ?_
        rintro e w35 ⟨rfl, hb⟩
        have X36 := Lib.hid ((X34.out.all hb).all (below_new w35 (.cells #[.int .i64 i3, .string s3, .int .i64 l3, .int .i64 b3, .int .i64 d3, .int .i64 q3] 25)))
        have B35 := Lib.hid (B34.out.trans (hb.mono B34.out.size))
        have B36 := Lib.hid (B35.out.alloc B35.out.size (.cells #[.int .i64 i3, .string s3, .int .i64 l3, .int .i64 b3, .int .i64 d3, .int .i64 q3] 25))
        have HV35 := Lib.hid (HV34.out.below hb HV34.out.low)
        have HV36 := Lib.hid (HV35.out.below (below_new w35 (.cells #[.int .i64 i3, .string s3, .int .i64 l3, .int .i64 b3, .int .i64 d3, .int .i64 q3] 25)) HV35.out.low)
        have HR35 := Lib.hid (HR34.out.below hb HR34.out.low)
        have HR36 := Lib.hid (HR35.out.below (below_new w35 (.cells #[.int .i64 i3, .string s3, .int .i64 l3, .int .i64 b3, .int .i64 d3, .int .i64 q3] 25)) HR35.out.low)
        clear k0 k1 k2 k3 k4 k5
        clear hb C9 X34 B34 B35 HV34 HV35 HR34 HR35
        go_wp2_with fail
        refine (implCells_any c3 HV36.out (by unfold maxLen; omega) hmc3 true F1.out ca (fun _ => HCA.out.symm) (fun h => nomatch h)).mono ?_
        rintro e w37 ⟨rfl, hb⟩
        have X37 := Lib.hid (X36.out.all hb)
        have Z37 := Lib.hid ((BoxV.new w35 i3 s3 l3 b3 d3 q3).all hb)
        have B37 := Lib.hid (B36.out.trans (hb.mono B36.out.size))
        have HR37 := Lib.hid (HR36.out.below hb HR36.out.low)
        clear hb X36 B36 HV36 HR36 F1
        go_wp2_with fail
        refine (implCells_any c4 HR37.out (by unfold maxLen; omega) hRc true F2.out (ca + l3 * b3) (fun _ => F5.out.symm) (fun h => nomatch h)).mono ?_
        rintro e w38 ⟨rfl, hb⟩
        have X38 := Lib.hid (X37.out.all hb)
        have Z38 := Lib.hid (Z37.out.all hb)
        have B38 := Lib.hid (B37.out.trans (hb.mono B37.out.size))
        have CF := Lib.hid (isFleet_vs c4 (HR37.out.below hb HR37.out.low) (by unfold maxLen; omega) hRc)
        rw [F2.out] at CF
        have hw1 : IntKind.i64.wrap (l3 * b3) = l3 * b3 := by rw [IntKind.wrap_i64]; omega
        have hw2 : IntKind.i64.wrap (ca + l3 * b3 - ca) = l3 * b3 := by rw [IntKind.wrap_i64]; omega
        have hw3 : (l3 * b3 != l3 * b3) = false := by simp
        clear hb X37 Z37 B37 HR37 F2 F5 HCA
        obtain ⟨k0, k1, k2, k3, k4, k5⟩ := X38.out.cs
        obtain ⟨m0, m1, m2, m3', m4, m5⟩ := Z38.out.cs
        go_wp2_with fail
        refine CF.out.mono ?_
        rintro e w39 ⟨rfl, hb⟩
        have B39 := Lib.hid (B38.out.trans (hb.mono B38.out.size))
        clear k0 k1 k2 k3 k4 k5
        clear hb X38 Z38 B38 CF m0 m1 m2 m3' m4 m5 hw1 hw2 hw3 f6 f7
        -- the drawn list and name
        have D4 := Lib.hid (drawNam_any c (HC.out.on B39.out))
        go_wp2_with fail
        refine D4.out.mono ?_
        rintro e w50 ⟨g6, c6, m6, ws, t6, rfl, hm6, hmc6, hws, hb⟩
        have B50 := Lib.hid (B39.out.trans (hb.mono B39.out.size))
        have HW50 := Lib.hid hws
        clear hb D4 B39 hws
        obtain ⟨i7, s7, l7, b7, d7, q7, x7, hy7, hn7, hb7⟩ := named_two ws m6 t6
        have HY7 := Lib.hid hy7
        have HN7 := Lib.hid hn7
        have HB7 := Lib.hid hb7
        have hx7 : (x7 == x7) = true := by simp
        clear hy7 hn7 hb7
        go_wp2_with fail
        refine (implNamed_any c6 t6 HW50.out (by unfold maxLen; omega) hmc6 i7 s7 l7 b7 d7 q7 x7 HY7.out HN7.out HB7.out).mono ?_
        rintro e w51 ⟨rfl, hb⟩
        have HW51 := Lib.hid (HW50.out.below hb HW50.out.low)
        have HW52 := Lib.hid (HW51.out.below (below_new w51 (.cells #[.int .i64 i7, .string s7, .int .i64 l7, .int .i64 b7, .int .i64 d7, .int .i64 q7] 25)) HW51.out.low)
        have B51 := Lib.hid (B50.out.trans (hb.mono B50.out.size))
        have B52 := Lib.hid (B51.out.alloc B51.out.size (.cells #[.int .i64 i7, .string s7, .int .i64 l7, .int .i64 b7, .int .i64 d7, .int .i64 q7] 25))
        clear hb HW50 HW51 B50 B51
        go_wp2_with fail
        refine (specNamed_any c6 t6 HW52.out (by unfold maxLen; omega) i7 s7 l7 b7 d7 q7 x7 HY7.out HN7.out HB7.out).mono ?_
        rintro e w53 ⟨rfl, hb⟩
        have Y53 := Lib.hid ((BoxV.new w51 i7 s7 l7 b7 d7 q7).all hb)
        have Y54 := Lib.hid (Y53.out.all (below_new w53 (.cells #[.int .i64 i7, .string s7, .int .i64 l7, .int .i64 b7, .int .i64 d7, .int .i64 q7] 25)))
        have B53 := Lib.hid (B52.out.trans (hb.mono B52.out.size))
        have B54 := Lib.hid (B53.out.alloc B53.out.size (.cells #[.int .i64 i7, .string s7, .int .i64 l7, .int .i64 b7, .int .i64 d7, .int .i64 q7] 25))
        clear hb HW52 HY7 HN7 HB7 Y53 B52 B53
        obtain ⟨k0, k1, k2, k3, k4, k5⟩ := Y54.out.cs
        go_wp2_with fail
        go_ret
        exact ⟨rfl, B54.out⟩
    | true =>
      have hgv : goodV ⟨i, s, l, b, d, q⟩ := (gV_iff _).1 hxg
      obtain ⟨h1, rfl⟩ := HP1.out.yes _ hgv (HY.out hgv).1.symm
      injection h1 with e0 e1 e2 e3 e4 e5
      subst e0 e1 e2 e3 e4 e5
      go_wp2_with fail
      refine (implPV_any T _ (by omega) i1 s1 l1 b1 d1 q1 true HP1.out (hT.out _ B5.out) (hE.out _ B5.out) (hM.out _ B5.out)).mono ?_
      rintro e w6 ⟨rfl, hb⟩
      have X6 := Lib.hid (X5.out.all hb)
      have B6 := Lib.hid (B5.out.trans (hb.mono B5.out.size))
      have B7 := Lib.hid (B6.out.alloc B6.out.size (.cells #[.int .i64 i1, .string s1, .int .i64 l1, .int .i64 b1, .int .i64 d1, .int .i64 q1] 25))
      have X7 := Lib.hid (X6.out.all (below_new w6 (.cells #[.int .i64 i1, .string s1, .int .i64 l1, .int .i64 b1, .int .i64 d1, .int .i64 q1] 25)))
      clear hb HP1 X5 B5 X6 B6 HY hgv
      obtain ⟨k0, k1, k2, k3, k4, k5⟩ := X7.out.cs
      -- the drawn text
      have D2 := Lib.hid (drawPV_any c (HC.out.on B7.out))
      go_wp2_with fail
      clear k0 k1 k2 k3 k4 k5
      refine D2.out.mono ?_
      rintro e w20 ⟨t, ht, rfl, hb⟩
      have B20 := Lib.hid (B7.out.trans (hb.mono B7.out.size))
      clear hb D2 B7
      obtain ⟨⟨i2, s2, l2, b2, d2, q2⟩, x2, hp2⟩ := parsed_ex t
      have HP2 := Lib.hid hp2
      have hx2 : (x2 != x2) = false := by simp
      clear hp2
      go_wp2_with fail
      refine (implPV_any t _ (by omega) i2 s2 l2 b2 d2 q2 x2 HP2.out (hT.out _ B20.out) (hE.out _ B20.out) (hM.out _ B20.out)).mono ?_
      rintro e w21 ⟨rfl, hb⟩
      have B21 := Lib.hid (B20.out.trans (hb.mono B20.out.size))
      have B22 := Lib.hid (B21.out.alloc B21.out.size (.cells #[.int .i64 i2, .string s2, .int .i64 l2, .int .i64 b2, .int .i64 d2, .int .i64 q2] 25))
      clear hb
      go_wp2_with fail
      refine (specPV_any t _ (by omega) i2 s2 l2 b2 d2 q2 x2 HP2.out).mono ?_
      rintro e w23 ⟨rfl, hb⟩
      have Y23 := Lib.hid ((BoxV.new w21 i2 s2 l2 b2 d2 q2).all hb)
      have Y24 := Lib.hid (Y23.out.all (below_new w23 (.cells #[.int .i64 i2, .string s2, .int .i64 l2, .int .i64 b2, .int .i64 d2, .int .i64 q2] 25)))
      have B23 := Lib.hid (B22.out.trans (hb.mono B22.out.size))
      have B24 := Lib.hid (B23.out.alloc B23.out.size (.cells #[.int .i64 i2, .string s2, .int .i64 l2, .int .i64 b2, .int .i64 d2, .int .i64 q2] 25))
      clear hb HP2 Y23 B23 B22 B21 B20
      obtain ⟨k0, k1, k2, k3, k4, k5⟩ := Y24.out.cs
      -- the drawn list and vessel
      have D3 := Lib.hid (drawAdd_any c (HC.out.on B24.out))
      go_wp2_with fail
      clear k0 k1 k2 k3 k4 k5
      refine D3.out.mono ?_
      rintro e w30 ⟨g3, c3, m3, vs, i3, s3, l3, b3, d3, q3, hs3, rfl, hm3, hmc3, hvs, hb⟩
      have B30 := Lib.hid (B24.out.trans (hb.mono B24.out.size))
      have HV30 := Lib.hid hvs
      have B31 := Lib.hid (B30.out.alloc B30.out.size (.cells #[.int .i64 i3, .string s3, .int .i64 l3, .int .i64 b3, .int .i64 d3, .int .i64 q3] 25))
      have HV31 := Lib.hid (HV30.out.below (below_new w30 (.cells #[.int .i64 i3, .string s3, .int .i64 l3, .int .i64 b3, .int .i64 d3, .int .i64 q3] 25)) HV30.out.low)
      clear hb D3 B24 hvs
      obtain ⟨R, x3, hR9, hA⟩ := added_ex vs ⟨i3, s3, l3, b3, d3, q3⟩
      have HRn := Lib.hid (added_names hA HV30.out.nm (show s3.size ≤ maxLen by unfold maxLen; omega))
      obtain ⟨Rn, hRl⟩ : ∃ k, R.length = k := ⟨_, rfl⟩
      rw [hRl] at hR9
      have HA := Lib.hid hA
      have HRl := Lib.hid hRl
      have hx3 : (x3 != x3) = false := by simp
      clear hA hRl B30 HV30
      go_wp2_with fail
      refine (implAdd_any c3 HV31.out (by omega) hmc3 i3 s3 l3 b3 d3 q3 (by unfold maxLen; omega) R x3 HA.out).mono ?_
      rintro e w32 hgv
      obtain ⟨g4, c4, rfl, hRc, hR, hb⟩ := gives_vs hgv HRn.out HRl.out
      have X32 := Lib.hid ((BoxV.new w30 i3 s3 l3 b3 d3 q3).all hb)
      have B32 := Lib.hid (B31.out.trans (hb.mono B31.out.size))
      have HV32 := Lib.hid (HV31.out.below hb HV31.out.low)
      have HR32 := Lib.hid hR
      clear hgv hR hb B31 HV31
      obtain ⟨k0, k1, k2, k3, k4, k5⟩ := X32.out.cs
      go_wp2_with fail
      refine (specAdd_any c3 HV32.out (by omega) hmc3 i3 s3 l3 b3 d3 q3 (by unfold maxLen; omega) R x3 HA.out).mono ?_
      rintro e w33 hgv
      obtain ⟨g5, c5, rfl, -, hR, hb⟩ := gives_vs hgv HRn.out HRl.out
      have X33 := Lib.hid (X32.out.all hb)
      have B33 := Lib.hid (B32.out.trans (hb.mono B32.out.size))
      have HV33 := Lib.hid (HV32.out.below hb HV32.out.low)
      have HR33 := Lib.hid (HR32.out.below hb HR32.out.low)
      have CR := Lib.hid (rVs_same c4 c5 HR33.out hR (by unfold maxLen; omega))
      clear k0 k1 k2 k3 k4 k5
      clear hgv hR hb B32 HV32 HR32 X32
      go_wp2_with fail
      refine CR.out.mono ?_
      rintro e w34 ⟨rfl, hb⟩
      have X34 := Lib.hid (X33.out.all hb)
      have B34 := Lib.hid (B33.out.trans (hb.mono B33.out.size))
      have HV34 := Lib.hid (HV33.out.below hb HV33.out.low)
      have HR34 := Lib.hid (HR33.out.below hb HR33.out.low)
      clear hb CR B33 HV33 HR33 X33 HRn
      cases x3 with
      | false =>
        clear X34 HV34 HR34 HA
        -- the drawn list and name
        have D4 := Lib.hid (drawNam_any c (HC.out.on B34.out))
        go_wp2_with fail
        refine D4.out.mono ?_
        rintro e w50 ⟨g6, c6, m6, ws, t6, rfl, hm6, hmc6, hws, hb⟩
        have B50 := Lib.hid (B34.out.trans (hb.mono B34.out.size))
        have HW50 := Lib.hid hws
        clear hb D4 B34 hws
        obtain ⟨i7, s7, l7, b7, d7, q7, x7, hy7, hn7, hb7⟩ := named_two ws m6 t6
        have HY7 := Lib.hid hy7
        have HN7 := Lib.hid hn7
        have HB7 := Lib.hid hb7
        have hx7 : (x7 == x7) = true := by simp
        clear hy7 hn7 hb7
        go_wp2_with fail
        refine (implNamed_any c6 t6 HW50.out (by unfold maxLen; omega) hmc6 i7 s7 l7 b7 d7 q7 x7 HY7.out HN7.out HB7.out).mono ?_
        rintro e w51 ⟨rfl, hb⟩
        have HW51 := Lib.hid (HW50.out.below hb HW50.out.low)
        have HW52 := Lib.hid (HW51.out.below (below_new w51 (.cells #[.int .i64 i7, .string s7, .int .i64 l7, .int .i64 b7, .int .i64 d7, .int .i64 q7] 25)) HW51.out.low)
        have B51 := Lib.hid (B50.out.trans (hb.mono B50.out.size))
        have B52 := Lib.hid (B51.out.alloc B51.out.size (.cells #[.int .i64 i7, .string s7, .int .i64 l7, .int .i64 b7, .int .i64 d7, .int .i64 q7] 25))
        clear hb HW50 HW51 B50 B51
        go_wp2_with fail
        refine (specNamed_any c6 t6 HW52.out (by unfold maxLen; omega) i7 s7 l7 b7 d7 q7 x7 HY7.out HN7.out HB7.out).mono ?_
        rintro e w53 ⟨rfl, hb⟩
        have Y53 := Lib.hid ((BoxV.new w51 i7 s7 l7 b7 d7 q7).all hb)
        have Y54 := Lib.hid (Y53.out.all (below_new w53 (.cells #[.int .i64 i7, .string s7, .int .i64 l7, .int .i64 b7, .int .i64 d7, .int .i64 q7] 25)))
        have B53 := Lib.hid (B52.out.trans (hb.mono B52.out.size))
        have B54 := Lib.hid (B53.out.alloc B53.out.size (.cells #[.int .i64 i7, .string s7, .int .i64 l7, .int .i64 b7, .int .i64 d7, .int .i64 q7] 25))
        clear hb HW52 HY7 HN7 HB7 Y53 B52 B53
        obtain ⟨k0, k1, k2, k3, k4, k5⟩ := Y54.out.cs
        go_wp2_with fail
        go_ret
        exact ⟨rfl, B54.out⟩
      | true =>
        obtain ⟨f1, f2, f3, f4, f5, f6, f7, f8, f9⟩ := fleet_facts HA.out
        rw [HRl.out] at f5 f8 f9
        rw [HV34.out.len] at f5 f7
        obtain ⟨ca, hca⟩ : ∃ z, cel vs m3 = z := ⟨_, rfl⟩
        rw [hca] at f5 f7
        have F1 := Lib.hid f1
        have F2 := Lib.hid f2
        have F5 := Lib.hid f5
        have HCA := Lib.hid hca
        have C9 := Lib.hid (implNamed_any c4 s3 HR34.out (by unfold maxLen; omega) hRc i3 s3 l3 b3 d3 q3 true (fun _ k hk h1 h2 => ⟨f8 k hk h1 h2, rfl⟩) (fun _ h => absurd h f9) (fun h => by rw [f2] at h; cases h))
        clear f1 f2 f3 f4 f5 f8 f9 hca HA HRl
        obtain ⟨k0, k1, k2, k3, k4, k5⟩ := X34.out.cs
        go_wp2_with fail
        refine C9.out.mono ?_
        rintro e w35 ⟨rfl, hb⟩
        have X36 := Lib.hid ((X34.out.all hb).all (below_new w35 (.cells #[.int .i64 i3, .string s3, .int .i64 l3, .int .i64 b3, .int .i64 d3, .int .i64 q3] 25)))
        have B35 := Lib.hid (B34.out.trans (hb.mono B34.out.size))
        have B36 := Lib.hid (B35.out.alloc B35.out.size (.cells #[.int .i64 i3, .string s3, .int .i64 l3, .int .i64 b3, .int .i64 d3, .int .i64 q3] 25))
        have HV35 := Lib.hid (HV34.out.below hb HV34.out.low)
        have HV36 := Lib.hid (HV35.out.below (below_new w35 (.cells #[.int .i64 i3, .string s3, .int .i64 l3, .int .i64 b3, .int .i64 d3, .int .i64 q3] 25)) HV35.out.low)
        have HR35 := Lib.hid (HR34.out.below hb HR34.out.low)
        have HR36 := Lib.hid (HR35.out.below (below_new w35 (.cells #[.int .i64 i3, .string s3, .int .i64 l3, .int .i64 b3, .int .i64 d3, .int .i64 q3] 25)) HR35.out.low)
        clear k0 k1 k2 k3 k4 k5
        clear hb C9 X34 B34 B35 HV34 HV35 HR34 HR35
        go_wp2_with fail
        refine (implCells_any c3 HV36.out (by unfold maxLen; omega) hmc3 true F1.out ca (fun _ => HCA.out.symm) (fun h => nomatch h)).mono ?_
        rintro e w37 ⟨rfl, hb⟩
        have X37 := Lib.hid (X36.out.all hb)
        have Z37 := Lib.hid ((BoxV.new w35 i3 s3 l3 b3 d3 q3).all hb)
        have B37 := Lib.hid (B36.out.trans (hb.mono B36.out.size))
        have HR37 := Lib.hid (HR36.out.below hb HR36.out.low)
        clear hb X36 B36 HV36 HR36 F1
        go_wp2_with fail
        refine (implCells_any c4 HR37.out (by unfold maxLen; omega) hRc true F2.out (ca + l3 * b3) (fun _ => F5.out.symm) (fun h => nomatch h)).mono ?_
        rintro e w38 ⟨rfl, hb⟩
        have X38 := Lib.hid (X37.out.all hb)
        have Z38 := Lib.hid (Z37.out.all hb)
        have B38 := Lib.hid (B37.out.trans (hb.mono B37.out.size))
        have CF := Lib.hid (isFleet_vs c4 (HR37.out.below hb HR37.out.low) (by unfold maxLen; omega) hRc)
        rw [F2.out] at CF
        have hw1 : IntKind.i64.wrap (l3 * b3) = l3 * b3 := by rw [IntKind.wrap_i64]; omega
        have hw2 : IntKind.i64.wrap (ca + l3 * b3 - ca) = l3 * b3 := by rw [IntKind.wrap_i64]; omega
        have hw3 : (l3 * b3 != l3 * b3) = false := by simp
        clear hb X37 Z37 B37 HR37 F2 F5 HCA
        obtain ⟨k0, k1, k2, k3, k4, k5⟩ := X38.out.cs
        obtain ⟨m0, m1, m2, m3', m4, m5⟩ := Z38.out.cs
        go_wp2_with fail
        refine CF.out.mono ?_
        rintro e w39 ⟨rfl, hb⟩
        have B39 := Lib.hid (B38.out.trans (hb.mono B38.out.size))
        clear k0 k1 k2 k3 k4 k5
        clear hb X38 Z38 B38 CF m0 m1 m2 m3' m4 m5 hw1 hw2 hw3 f6 f7
        -- the drawn list and name
        have D4 := Lib.hid (drawNam_any c (HC.out.on B39.out))
        go_wp2_with fail
        refine D4.out.mono ?_
        rintro e w50 ⟨g6, c6, m6, ws, t6, rfl, hm6, hmc6, hws, hb⟩
        have B50 := Lib.hid (B39.out.trans (hb.mono B39.out.size))
        have HW50 := Lib.hid hws
        clear hb D4 B39 hws
        obtain ⟨i7, s7, l7, b7, d7, q7, x7, hy7, hn7, hb7⟩ := named_two ws m6 t6
        have HY7 := Lib.hid hy7
        have HN7 := Lib.hid hn7
        have HB7 := Lib.hid hb7
        have hx7 : (x7 == x7) = true := by simp
        clear hy7 hn7 hb7
        go_wp2_with fail
        refine (implNamed_any c6 t6 HW50.out (by unfold maxLen; omega) hmc6 i7 s7 l7 b7 d7 q7 x7 HY7.out HN7.out HB7.out).mono ?_
        rintro e w51 ⟨rfl, hb⟩
        have HW51 := Lib.hid (HW50.out.below hb HW50.out.low)
        have HW52 := Lib.hid (HW51.out.below (below_new w51 (.cells #[.int .i64 i7, .string s7, .int .i64 l7, .int .i64 b7, .int .i64 d7, .int .i64 q7] 25)) HW51.out.low)
        have B51 := Lib.hid (B50.out.trans (hb.mono B50.out.size))
        have B52 := Lib.hid (B51.out.alloc B51.out.size (.cells #[.int .i64 i7, .string s7, .int .i64 l7, .int .i64 b7, .int .i64 d7, .int .i64 q7] 25))
        clear hb HW50 HW51 B50 B51
        go_wp2_with fail
        refine (specNamed_any c6 t6 HW52.out (by unfold maxLen; omega) i7 s7 l7 b7 d7 q7 x7 HY7.out HN7.out HB7.out).mono ?_
        rintro e w53 ⟨rfl, hb⟩
        have Y53 := Lib.hid ((BoxV.new w51 i7 s7 l7 b7 d7 q7).all hb)
        have Y54 := Lib.hid (Y53.out.all (below_new w53 (.cells #[.int .i64 i7, .string s7, .int .i64 l7, .int .i64 b7, .int .i64 d7, .int .i64 q7] 25)))
        have B53 := Lib.hid (B52.out.trans (hb.mono B52.out.size))
        have B54 := Lib.hid (B53.out.alloc B53.out.size (.cells #[.int .i64 i7, .string s7, .int .i64 l7, .int .i64 b7, .int .i64 d7, .int .i64 q7] 25))
        clear hb HW52 HY7 HN7 HB7 Y53 B52 B53
        obtain ⟨k0, k1, k2, k3, k4, k5⟩ := Y54.out.cs
        go_wp2_with fail
        go_ret
        exact ⟨rfl, B54.out⟩
theorem own : ownKnob Tryz.prog.godebug = none := by kernel_rfl
theorem laidOut : laidOutB Tryz.prog = true := by kernel_rfl

set_option maxRecDepth 100000 in
theorem lifted (os : Os) (started : os.Started) (H : Type) (enc : TypeId × Value → H) :
    ReturnsInHanded {} Tryz.checked os 3 .any (fun w args => (Rows.fnFleetsSpec.pre enc Tryz.prog Tryz.f3 Rows.fnFleetsRow.domain false w args ∧ laidMetH Tryz.prog Rows.fnFleetsRow.laid w) ∧ sizedMet enc Tryz.prog Tryz.f3 (OpenSpec.ofChange Rows.fnFleetsSpec) false w args)
      (Rows.fnFleetsSpec.post enc Tryz.prog Tryz.f3 false true false false) := by
  refine handed_and_shaped (C := Tryz.checked) (X := fun w _ => laidMetH Tryz.prog Rows.fnFleetsRow.laid w) (fun _ _ _ hh h => h.of_heap hh) own started (by kernel_rfl) Tryz.func3
    (ChangeSpec.witness_shaped (enc := enc) (C := Tryz.checked) (os := os) (X := fun w _ => laidMetH Tryz.prog Rows.fnFleetsRow.laid w) false (World.laidAll Tryz.prog os Rows.fnFleetsRow.laid) #[.slice none 0 0] 8 (World.laidAll_os _ _ _)
      (World.shaped_of_ZipB (by kernel_rfl) (by kernel_rfl)) (by kernel_rfl) (by kernel_rfl) (by kernel_rfl)
      (by rw [MakeChecks.laidMetH_plain _ _ _ (by kernel_rfl)]; exact laidMet_laidAll _ (by kernel_rfl) (by kernel_rfl))) ?_
  intro W base args ds gs before hval0 hW hcnd hsz0 hL hsh _
  rw [MakeChecks.laidMetH_plain _ _ _ (by kernel_rfl)] at hL
  have hval : ∀ (j : Nat) t v, Tryz.f3.params[j]? = some t → args[j]? = some v → Value.okWide Tryz.prog W .any base t v := hval0
  have hW' := hW
  obtain ⟨p, q, hA0, hV, rfl, hfz, hnd⟩ := hW
  have hA : DataW.TrodAll enc Tryz.prog W 0 (fun _ => true) true Tryz.f3.params.toList args.toList ds p := hA0
  rw [Tryz.params3] at hA hval
  obtain ⟨v0, vs0, d0, ds0, p0, q0, hargs, rfl, rfl, h0, r0⟩ := trodAll_cons hA
  obtain ⟨rfl, rfl, rfl⟩ := trodAll_nil r0
  obtain rfl : args = #[v0] := by cases args; simp_all
  obtain ⟨rfl, rfl⟩ := trodVars_none hV
  obtain ⟨a0, len0, cap0, rfl⟩ := okWide_slice Tryz.underlying22 (hval 0 22 v0 rfl rfl)
  have k0 := h0
  have lt0 : ∀ x ∈ p0, x.block < W.heap.size := by obtain ⟨m, hm⟩ := k0; exact DataW.trod_lt m _ _ _ hm
  obtain ⟨z0, w0⟩ : ∃ zs, IsInts .u8 W a0 len0 zs := by
    obtain ⟨fuel, hf⟩ := h0
    rcases open_ints Tryz.underlying22 Tryz.underlying5 (by kernel_rfl) hf with ⟨hcs, _⟩ | ⟨x, l, c, zs, hcs, _, hl, hm, hz, _, hcell, hwz⟩
    · simp [Value.cells] at hcs
      obtain ⟨rfl, rfl, rfl⟩ := hcs
      exact ⟨[], isInts_nil _ W⟩
    · simp [Value.cells] at hcs
      obtain ⟨rfl, rfl, rfl⟩ := hcs
      exact ⟨_, isInts_some hl hm (by simpa using hz) hcell hwz⟩
  clear hA0 hval0
  refine (walk a0 len0 cap0 z0 W w0 hL hsh).mono fun e W' ⟨he, bel⟩ => ?_
  subst he
  exact ⟨_, rfl, _, _, _, [], _, [], hW', trodAll_mk1 (shut_bool Tryz.underlying4 _), (trodAll_cons_mk (Below.trod laidOut (by kernel_rfl) (of_decide_eq_true (by kernel_rfl)) k0 bel lt0) trodAll_mk0), rfl, bel.frame _, fun h => by cases h⟩

theorem over : Rows.fnFleetsRow.holds Tryz.pinned (OpenSpec.ofChange Rows.fnFleetsSpec) :=
  OpenClaim.holds_of_wide 3 Tryz.f3 rfl rfl rfl rfl rfl rfl rfl ⟨rfl, rfl, rfl, rfl, rfl⟩ rfl rfl rfl rfl rfl (by kernel_rfl) Tryz.func3 (by kernel_rfl)
    (of_decide_eq_true (by kernel_rfl)) (by unfold Func.isWrapper; first | (rw [if_pos (by decide +kernel)]; kernel_rfl) | (rw [if_neg (by decide +kernel)]; exact ⟨rfl, rfl⟩))
    (fun os started H enc _ => lifted os started H enc)

/-- The tied card: the statement. -/
theorem proved : Rows.FnFleetsCardSaid :=
  Claim7.holds_tied_plain_at .later [] [.data, .data, .data, .data, .sentinel, .sentinel, .pinned] true (true, "bb3056567200cce1ce9fc285123854137b43d9e1d88eee18a06f8bba3e8794e9") true
    over (fun _ h => by cases h) (by kernel_rfl) (fun _ h => by cases h) fnFleets_row_tie rfl ⟨rfl, rfl⟩ (by kernel_rfl) rfl
    (fun f fn hf hfn => by
      obtain rfl : f = 3 := Option.some.inj ((show Tryz.prog.funcNamed "loop.example/g00924/laws.FnFleets" = some 3 by kernel_rfl).symm.trans hf) |>.symm
      obtain rfl : fn = Tryz.f3 := (Option.some.inj (Tryz.func3.symm.trans hfn)).symm
      exact ⟨by kernel_rfl, fun j t ht => by
        rw [Tryz.params3] at ht
        rcases j with _ | j
        · have h3 : t = 22 := by simpa using ht.symm
          subst h3
          exact (show Tryz.prog.wantsStandIn 22 = false by kernel_rfl)
        · simp at ht⟩)
    (by kernel_rfl)
end Go.Proofs.YtliebicnejbheabGreatDoor.fnFleets
