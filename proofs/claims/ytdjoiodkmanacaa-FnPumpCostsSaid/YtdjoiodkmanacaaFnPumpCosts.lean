/- FnPumpCosts holds at every list of bytes: costs and starts agree, the cheapest plan is safe, costs what it says, no safe plan that is drawn is cheaper, and none without the first pump. -/
import Derived.Test.YtdjoiodkmanacaaPvF
import Derived.Test.YtdjoiodkmanacaaPvM
import Derived.Test.YtdjoiodkmanacaaPuO
import Derived.Test.YtdjoiodkmanacaaPuR
import Derived.Test.YtdjoiodkmanacaaSeBig
import Derived.Test.YtdjoiodkmanacaaSt0
import Derived.OpenShut
import Derived.ShutString
import Derived.ChangeOld
import Derived.WalkLawsBesides
import Derived.Lib.SmallJoins
import Derived.Deep.RegionHeld3
namespace Go.Proofs.Ytdjoiodkmanacaa.fnPumpCosts
open Go.ChangeShapes Go.WideShapes Go.ChangeAt Go.RowKit
open Go.ChangeMaps (open_string shut_string)
set_option linter.unusedVariables false
set_option linter.unusedSimpArgs false

theorem rows_is {B : Nat} {w : World} {A1 A2 : Option Addr} {nZ c1 nV c2 : Nat} {Z : List Int} {V : List TPump} (hz : w.ownsRow B 3 1 (.slice A1 nZ c1) nZ (Z.map (.int .i64))) (hr : w.ownsRow B 69 3 (.slice A2 nV c2) nV (flatPump V)) : IsTs w w.heap.size A1 nZ Z A2 nV V := by
  have h1 := hz.1
  have h2 := hr.1
  rw [List.length_map] at h1
  rw [flatPump_len] at h2
  exact ⟨Nat.le_refl _, ⟨by omega, Nat.le_refl _, own_hasP hz⟩, ⟨by omega, Nat.le_refl _, own_hasP hr⟩⟩
theorem num_two (v u : Int) (t : Tsk) (xs : List Int) : ∃ z z2 x, NumA v t xs z x ∧ NumA u t xs z2 x := by
  by_cases e : goodX t xs
  · exact ⟨v, u, true, ⟨fun _ => ⟨rfl, rfl⟩, fun h => absurd e h⟩, ⟨fun _ => ⟨rfl, rfl⟩, fun h => absurd e h⟩⟩
  · exact ⟨0, 0, false, ⟨fun h => absurd h e, fun _ => ⟨rfl, rfl⟩⟩, ⟨fun h => absurd h e, fun _ => ⟨rfl, rfl⟩⟩⟩
/-- A safe plan with a cost z: the cheapest one is there and not dearer. -/
theorem not_dearer {t : Tsk} {xs : List Int} {z : Int} {x y x4 : Bool} {L : List Int} {z3 : Int} {x3 : Bool} (hN : NumA (costU t xs xs.length) t xs z x) (hS : SafA t xs y x4) (hC : CheA t L z3 x3) (h4 : x4 = true) (hy : y = true) : x3 = true ∧ z3 ≤ z := by
  by_cases e : goodX t xs
  · have hs := ((hS.1 e).1).1 hy
    have hz := (hN.1 e).1
    rcases cheapU_of e.1 with ⟨h1, -⟩ | ⟨O, g1, g2, g3, g4⟩
    · exact absurd hs (h1 xs e)
    · have h0 : 0 ≤ (cheapU t).2 := by rw [g3]; exact (costU_bd e.1 O _).1
      obtain ⟨-, hz3, hx3⟩ := hC.1 ⟨e.1, h0⟩
      refine ⟨hx3, ?_⟩
      rw [hz3, hz, g3]
      exact g4 xs e hs
  · rw [(hS.2 e).2] at h4
    exact absurd h4 (by decide)
/-- What is said of the cheapest plan. -/
theorem cheA_facts {t : Tsk} {L : List Int} {z3 : Int} (hC : CheA t L z3 true) : SafA t L true true ∧ NumA (costU t L L.length) t L z3 true ∧ goodT t ∧ z3 = (cheapU t).2 ∧ 0 ≤ (cheapU t).2 := by
  by_cases e : goodT t ∧ 0 ≤ (cheapU t).2
  · obtain ⟨h1, h2, -⟩ := hC.1 e
    rcases cheapU_of e.1 with ⟨-, q⟩ | ⟨O, g1, g2, g3, -⟩
    · have := e.2; rw [q] at this; exact absurd this (by decide)
    · have hL : L = O := by rw [h1, g3]
      subst hL
      exact ⟨⟨fun _ => ⟨⟨fun _ => g2, fun _ => rfl⟩, rfl⟩, fun h => absurd g1 h⟩, ⟨fun _ => ⟨by rw [h2, g3], rfl⟩, fun h => absurd g1 h⟩, e.1, h2, e.2⟩
  · exact absurd (hC.2 e).2.2 (by decide)
theorem without {t s : Tsk} (hW : WouA t 0 s true) {L L7 : List Int} {z3 z7 : Int} (hC : CheA t L z3 true) (hC7 : CheA s L7 z7 true) : z3 ≤ z7 := by
  by_cases e : canW t 0
  · obtain ⟨rfl, -⟩ := hW.1 e
    obtain ⟨-, -, hg, h1, h2⟩ := cheA_facts hC
    obtain ⟨-, -, -, h3, h4⟩ := cheA_facts hC7
    rw [h1, h3]
    exact cheap_less hg (by have := e.2.2; omega) h2 h4
  · exact absurd (hW.2 e).2 (by decide)
theorem wouA_len {t s : Tsk} {i : Int} {x : Bool} (h : WouA t i s x) : s.fs.length ≤ t.fs.length ∧ s.ps.length ≤ t.ps.length := by
  by_cases e : canW t i
  · rw [(h.1 e).1]
    refine ⟨Nat.le_refl _, ?_⟩
    show (t.ps.take _ ++ t.ps.drop _).length ≤ _
    rw [List.length_append, List.length_take, List.length_drop]
    omega
  · rw [(h.2 e).1]
    exact ⟨Nat.zero_le _, Nat.zero_le _⟩
set_option maxRecDepth 100000 in
set_option maxHeartbeats 16000000 in
theorem walk (A : Option Addr) (n c : Nat) (zs : List Int) (w : World) (hI : IsInts .u8 w A n zs) :
    Calls Try.prog 4 #[.slice A n c] w fun e w' => e = .returned (.bool true) ∧ Below w.heap.size w w' := by
  by_cases hbig : 65536 < n
  · have CB := Lib.hid (rBig_any A n c w hI.2.1)
    rw [decide_eq_true (show (65536 : Int) < (n : Int) by omega)] at CB
    clear hI
    go_enter Try.func4, Try.ntmps4
    go_wp2_with fail
    refine CB.out.mono ?_
    rintro e w1 ⟨rfl, rfl⟩
    go_wp2_with fail
    go_ret
    exact ⟨rfl, Below.refl _ _⟩
  · have CB := Lib.hid (rBig_any A n c w hI.2.1)
    rw [decide_eq_false (show ¬ (65536 : Int) < (n : Int) by omega)] at CB
    have HC := Lib.hid (Code_.of hI (by omega))
    have D1 := Lib.hid (drawPC_any c HC.out)
    clear hI hbig
    go_enter Try.func4, Try.ntmps4
    go_wp2_with fail
    refine CB.out.mono ?_
    rintro e w1 ⟨rfl, rfl⟩
    clear CB
    go_wp2_with fail
    refine D1.out.mono ?_
    rintro e w1 ⟨a, b, d, A1, A2, nZ, c1, nV, c2, Z, V, g2, q2, c3, p, rfl, h1, h2, h3, h4, h5, hz, hr, hp, hb⟩
    obtain ⟨w2, hw2⟩ : ∃ x, w1.alloc (taskO a b d (.slice A1 nZ c1) (.slice A2 nV c2)) = x := ⟨_, rfl⟩
    have hbx := below1 w1 (taskO a b d (.slice A1 nZ c1) (.slice A2 nV c2))
    have BX2 := Lib.hid (BoxT.new w1 a b d A1 nZ c1 A2 nV c2)
    rw [hw2] at hbx BX2
    have HT2 := Lib.hid ((rows_is hz hr).below hbx (Nat.le_refl _))
    have HI2 := Lib.hid ((own_IsIs hp).below hbx (Nat.le_refl _))
    have HB2 := Lib.hid (hb.trans (hbx.mono hb.size))
    obtain ⟨z, z2, x, hN, hN2⟩ := num_two (costU ⟨a, b, d, Z, V⟩ p p.length) (startU p p.length) ⟨a, b, d, Z, V⟩ p
    obtain ⟨L, z3, x3, hC⟩ := cheA_ex ⟨a, b, d, Z, V⟩
    obtain ⟨l, hl⟩ : ∃ k, L.length = k := ⟨_, rfl⟩
    have hl5 : l ≤ 5 := by rw [← hl]; exact hC.len
    obtain ⟨y, x4, hS⟩ := safA_ex ⟨a, b, d, Z, V⟩ p
    have HND := Lib.hid (not_dearer hN hS hC)
    have HN := Lib.hid hN
    have HN2 := Lib.hid hN2
    have HC3 := Lib.hid hC
    have HL := Lib.hid hl
    have HS := Lib.hid hS
    have hzz : (z != z) = false := by simp
    have hzz2 : (z2 != z2) = false := by simp
    have hzz3 : (z3 != z3) = false := by simp
    have hxx : (x != x) = false := by simp
    have hxx3 : (x3 != x3) = false := by simp
    clear D1 hz hr hp hb hbx hN hN2 hC hl hS
    have q0 := BX2.out.c0
    have q1 := BX2.out.c1
    have q2 := BX2.out.c2
    have q3 := BX2.out.c3
    have q4 := BX2.out.c4
    go_wp2_with (rw [hw2])
    try rw [hw2]
    clear hw2
    refine (costI_any a b d c1 c2 HT2.out (by omega) (by omega) c3 HI2.out (by omega) z x HN.out).mono ?_
    rintro e w3 ⟨rfl, hb⟩
    have HB3 := Lib.hid (HB2.out.trans (hb.mono HB2.out.size))
    have HT3 := Lib.hid (HT2.out.below hb HT2.out.low)
    have HI3 := Lib.hid (HI2.out.below hb HI2.out.low)
    have BX3 := Lib.hid (BX2.out.all hb)
    clear HB2 HT2 HI2 BX2 q0 q1 q2 q3 q4
    clear hb
    have q0 := BX3.out.c0
    have q1 := BX3.out.c1
    have q2 := BX3.out.c2
    have q3 := BX3.out.c3
    have q4 := BX3.out.c4
    go_wp2_with fail
    refine (costS_any a b d c1 c2 HT3.out (by omega) (by omega) c3 HI3.out (by omega) z x HN.out).mono ?_
    rintro e w4 ⟨rfl, hb⟩
    have HB4 := Lib.hid (HB3.out.trans (hb.mono HB3.out.size))
    have HT4 := Lib.hid (HT3.out.below hb HT3.out.low)
    have HI4 := Lib.hid (HI3.out.below hb HI3.out.low)
    have BX4 := Lib.hid (BX3.out.all hb)
    clear HB3 HT3 HI3 BX3 q0 q1 q2 q3 q4
    clear hb
    have q0 := BX4.out.c0
    have q1 := BX4.out.c1
    have q2 := BX4.out.c2
    have q3 := BX4.out.c3
    have q4 := BX4.out.c4
    go_wp2_with fail
    refine (startI_any a b d c1 c2 HT4.out (by omega) (by omega) c3 HI4.out (by omega) z2 x HN2.out).mono ?_
    rintro e w5 ⟨rfl, hb⟩
    have HB5 := Lib.hid (HB4.out.trans (hb.mono HB4.out.size))
    have HT5 := Lib.hid (HT4.out.below hb HT4.out.low)
    have HI5 := Lib.hid (HI4.out.below hb HI4.out.low)
    have BX5 := Lib.hid (BX4.out.all hb)
    clear HB4 HT4 HI4 BX4 q0 q1 q2 q3 q4
    clear hb
    have q0 := BX5.out.c0
    have q1 := BX5.out.c1
    have q2 := BX5.out.c2
    have q3 := BX5.out.c3
    have q4 := BX5.out.c4
    go_wp2_with fail
    refine (startS_any a b d c1 c2 HT5.out (by omega) (by omega) c3 HI5.out (by omega) z2 x HN2.out).mono ?_
    rintro e w6 ⟨rfl, hb⟩
    have HB6 := Lib.hid (HB5.out.trans (hb.mono HB5.out.size))
    have HT6 := Lib.hid (HT5.out.below hb HT5.out.low)
    have HI6 := Lib.hid (HI5.out.below hb HI5.out.low)
    have BX6 := Lib.hid (BX5.out.all hb)
    clear HB5 HT5 HI5 BX5 q0 q1 q2 q3 q4
    clear hb HN2
    have q0 := BX6.out.c0
    have q1 := BX6.out.c1
    have q2 := BX6.out.c2
    have q3 := BX6.out.c3
    have q4 := BX6.out.c4
    go_wp2_with fail
    refine (cheapI_any a b d c1 c2 HT6.out (by omega) (by omega) L z3 x3 HC3.out l HL.out).mono ?_
    rintro e w7 ⟨g5, c5, rfl, ho, hb⟩
    have HB7 := Lib.hid (HB6.out.trans (hb.mono HB6.out.size))
    have HT7 := Lib.hid (HT6.out.below hb HT6.out.low)
    have HI7 := Lib.hid (HI6.out.below hb HI6.out.low)
    have BX7 := Lib.hid (BX6.out.all hb)
    clear HB6 HT6 HI6 BX6 q0 q1 q2 q3 q4
    have HP7 := Lib.hid (own_IsIs ho)
    clear hb ho
    have q0 := BX7.out.c0
    have q1 := BX7.out.c1
    have q2 := BX7.out.c2
    have q3 := BX7.out.c3
    have q4 := BX7.out.c4
    go_wp2_with fail
    refine (cheapS_any a b d c1 c2 HT7.out (by omega) (by omega) L z3 x3 HC3.out l HL.out).mono ?_
    rintro e w8 ⟨g6, c6, rfl, ho, hb⟩
    have HB8 := Lib.hid (HB7.out.trans (hb.mono HB7.out.size))
    have HT8 := Lib.hid (HT7.out.below hb HT7.out.low)
    have HI8 := Lib.hid (HI7.out.below hb HI7.out.low)
    have BX8 := Lib.hid (BX7.out.all hb)
    clear HB7 HT7 HI7 BX7 q0 q1 q2 q3 q4
    have HP8 := Lib.hid (HP7.out.below hb HP7.out.low)
    have HQ8 := Lib.hid (own_IsIs ho)
    clear hb ho HP7
    go_wp2_with fail
    refine (rInts_same _ _ l c5 c6 _ _ L _ HL.out (by unfold maxLen; omega) HP8.out.has HQ8.out.has).mono ?_
    rintro e w9 ⟨rfl, hd⟩
    have hb := (hd.below w8.heap.size)
    have HP9 := Lib.hid (HP8.out.below hb HP8.out.low)
    have HB9 := Lib.hid (HB8.out.trans (hb.mono HB8.out.size))
    have HT9 := Lib.hid (HT8.out.below hb HT8.out.low)
    have HI9 := Lib.hid (HI8.out.below hb HI8.out.low)
    have BX9 := Lib.hid (BX8.out.all hb)
    clear hb hd HP8 HQ8 HB8 HT8 HI8 BX8
    have q0 := BX9.out.c0
    have q1 := BX9.out.c1
    have q2 := BX9.out.c2
    have q3 := BX9.out.c3
    have q4 := BX9.out.c4
    go_wp2_with fail
    refine (safeI_any a b d c1 c2 HT9.out (by omega) (by omega) c3 HI9.out (by omega) y x4 HS.out).mono ?_
    rintro e w10 ⟨rfl, hb⟩
    have HB10 := Lib.hid (HB9.out.trans (hb.mono HB9.out.size))
    have HT10 := Lib.hid (HT9.out.below hb HT9.out.low)
    have HI10 := Lib.hid (HI9.out.below hb HI9.out.low)
    have BX10 := Lib.hid (BX9.out.all hb)
    clear HB9 HT9 HI9 BX9 q0 q1 q2 q3 q4
    have HP10 := Lib.hid (HP9.out.below hb HP9.out.low)
    clear hb HS HP9
    cases x4 with
    | false =>
      cases x3 with
      | false =>
        go_wp2_with fail
        go_ret
        exact ⟨rfl, HB10.out⟩
      | true =>
        obtain ⟨f1, f2, -, -, -⟩ := cheA_facts HC3.out
        have F1 := Lib.hid f1
        have F2 := Lib.hid f2
        clear f1 f2
        have q0 := BX10.out.c0
        have q1 := BX10.out.c1
        have q2 := BX10.out.c2
        have q3 := BX10.out.c3
        have q4 := BX10.out.c4
        go_wp2_with fail
        refine (safeI_any a b d c1 c2 HT10.out (by omega) (by omega) c5 HP10.out (by omega) true true F1.out).mono ?_
        rintro e w11 ⟨rfl, hb⟩
        have HB11 := Lib.hid (HB10.out.trans (hb.mono HB10.out.size))
        have HT11 := Lib.hid (HT10.out.below hb HT10.out.low)
        have HI11 := Lib.hid (HI10.out.below hb HI10.out.low)
        have BX11 := Lib.hid (BX10.out.all hb)
        clear HB10 HT10 HI10 BX10 q0 q1 q2 q3 q4
        have HP11 := Lib.hid (HP10.out.below hb HP10.out.low)
        clear hb F1 HP10
        have q0 := BX11.out.c0
        have q1 := BX11.out.c1
        have q2 := BX11.out.c2
        have q3 := BX11.out.c3
        have q4 := BX11.out.c4
        go_wp2_with fail
        refine (costI_any a b d c1 c2 HT11.out (by omega) (by omega) c5 HP11.out (by omega) z3 true F2.out).mono ?_
        rintro e w12 ⟨rfl, hb⟩
        have HB12 := Lib.hid (HB11.out.trans (hb.mono HB11.out.size))
        have HT12 := Lib.hid (HT11.out.below hb HT11.out.low)
        have HI12 := Lib.hid (HI11.out.below hb HI11.out.low)
        have BX12 := Lib.hid (BX11.out.all hb)
        clear HB11 HT11 HI11 BX11 q0 q1 q2 q3 q4
        clear hb F2 HP11
        obtain ⟨s, x6, hW⟩ := wouA_ex ⟨a, b, d, Z, V⟩ 0
        obtain ⟨hl1, hl2⟩ := wouA_len hW
        obtain ⟨sa, sb, sd, sz, sv⟩ := s
        have HW := Lib.hid hW
        have hzl := HT12.out.ints.len
        have hvl := HT12.out.pumps.len
        dsimp only at hl1 hl2
        clear hW
        have q0 := BX12.out.c0
        have q1 := BX12.out.c1
        have q2 := BX12.out.c2
        have q3 := BX12.out.c3
        have q4 := BX12.out.c4
        go_wp2_with fail
        refine (woI_any a b d c1 c2 HT12.out (by omega) (by omega) h5 0 ⟨sa, sb, sd, sz, sv⟩ x6 HW.out).mono ?_
        rintro e w13 ⟨F, kf, cf, E, ke, ce, rfl, hz, hr, hb⟩
        have HB13 := Lib.hid (HB12.out.trans (hb.mono HB12.out.size))
        have HT13 := Lib.hid (HT12.out.below hb HT12.out.low)
        have HI13 := Lib.hid (HI12.out.below hb HI12.out.low)
        have BX13 := Lib.hid (BX12.out.all hb)
        clear HB12 HT12 HI12 BX12 q0 q1 q2 q3 q4
        dsimp only at hz hr
        have hk1 := hz.1
        have hk2 := hr.1
        rw [List.length_map] at hk1
        rw [flatPump_len] at hk2
        obtain ⟨w14, hw14⟩ : ∃ x, w13.alloc (taskO sa sb sd (.slice F kf cf) (.slice E ke ce)) = x := ⟨_, rfl⟩
        have hbx := below1 w13 (taskO sa sb sd (.slice F kf cf) (.slice E ke ce))
        have BS14 := Lib.hid (BoxT.new w13 sa sb sd F kf cf E ke ce)
        rw [hw14] at hbx BS14
        have HS14 := Lib.hid ((rows_is hz hr).below hbx (Nat.le_refl _))
        have HB14 := Lib.hid (HB13.out.trans (hbx.mono HB13.out.size))
        clear hz hr hb hbx HB13 HT13 HI13 BX13
        have q0 := BS14.out.c0
        have q1 := BS14.out.c1
        have q2 := BS14.out.c2
        have q3 := BS14.out.c3
        have q4 := BS14.out.c4
        cases x6 with
        | false =>
          go_wp2_with (rw [hw14])
          go_ret
          exact ⟨rfl, HB14.out⟩
        | true =>
          obtain ⟨L7, z7, x7, hC7⟩ := cheA_ex ⟨sa, sb, sd, sz, sv⟩
          have HC7 := Lib.hid hC7
          clear hC7
          go_wp2_with (rw [hw14])
          try rw [hw14]
          clear hw14
          refine (cheapI_any sa sb sd cf ce HS14.out (by omega) (by omega) L7 z7 x7 HC7.out L7.length rfl).mono ?_
          rintro e w15 ⟨g7, c7, rfl, ho, hb⟩
          have HB15 := Lib.hid (HB14.out.trans (hb.mono HB14.out.size))
          clear ho hb HB14 HS14 BS14 q0 q1 q2 q3 q4
          cases x7 with
          | false =>
            go_wp2_with fail
            go_ret
            exact ⟨rfl, HB15.out⟩
          | true =>
            have hle7 := without HW.out HC3.out HC7.out
            have hnl7 : ¬ z7 < z3 := by omega
            clear HW HC3 HC7
            go_wp2_with fail
            go_ret
            exact ⟨rfl, HB15.out⟩
    | true =>
      cases y with
      | false =>
        cases x3 with
        | false =>
          go_wp2_with fail
          go_ret
          exact ⟨rfl, HB10.out⟩
        | true =>
          obtain ⟨f1, f2, -, -, -⟩ := cheA_facts HC3.out
          have F1 := Lib.hid f1
          have F2 := Lib.hid f2
          clear f1 f2
          have q0 := BX10.out.c0
          have q1 := BX10.out.c1
          have q2 := BX10.out.c2
          have q3 := BX10.out.c3
          have q4 := BX10.out.c4
          go_wp2_with fail
          refine (safeI_any a b d c1 c2 HT10.out (by omega) (by omega) c5 HP10.out (by omega) true true F1.out).mono ?_
          rintro e w11 ⟨rfl, hb⟩
          have HB11 := Lib.hid (HB10.out.trans (hb.mono HB10.out.size))
          have HT11 := Lib.hid (HT10.out.below hb HT10.out.low)
          have HI11 := Lib.hid (HI10.out.below hb HI10.out.low)
          have BX11 := Lib.hid (BX10.out.all hb)
          clear HB10 HT10 HI10 BX10 q0 q1 q2 q3 q4
          have HP11 := Lib.hid (HP10.out.below hb HP10.out.low)
          clear hb F1 HP10
          have q0 := BX11.out.c0
          have q1 := BX11.out.c1
          have q2 := BX11.out.c2
          have q3 := BX11.out.c3
          have q4 := BX11.out.c4
          go_wp2_with fail
          refine (costI_any a b d c1 c2 HT11.out (by omega) (by omega) c5 HP11.out (by omega) z3 true F2.out).mono ?_
          rintro e w12 ⟨rfl, hb⟩
          have HB12 := Lib.hid (HB11.out.trans (hb.mono HB11.out.size))
          have HT12 := Lib.hid (HT11.out.below hb HT11.out.low)
          have HI12 := Lib.hid (HI11.out.below hb HI11.out.low)
          have BX12 := Lib.hid (BX11.out.all hb)
          clear HB11 HT11 HI11 BX11 q0 q1 q2 q3 q4
          clear hb F2 HP11
          obtain ⟨s, x6, hW⟩ := wouA_ex ⟨a, b, d, Z, V⟩ 0
          obtain ⟨hl1, hl2⟩ := wouA_len hW
          obtain ⟨sa, sb, sd, sz, sv⟩ := s
          have HW := Lib.hid hW
          have hzl := HT12.out.ints.len
          have hvl := HT12.out.pumps.len
          dsimp only at hl1 hl2
          clear hW
          have q0 := BX12.out.c0
          have q1 := BX12.out.c1
          have q2 := BX12.out.c2
          have q3 := BX12.out.c3
          have q4 := BX12.out.c4
          go_wp2_with fail
          refine (woI_any a b d c1 c2 HT12.out (by omega) (by omega) h5 0 ⟨sa, sb, sd, sz, sv⟩ x6 HW.out).mono ?_
          rintro e w13 ⟨F, kf, cf, E, ke, ce, rfl, hz, hr, hb⟩
          have HB13 := Lib.hid (HB12.out.trans (hb.mono HB12.out.size))
          have HT13 := Lib.hid (HT12.out.below hb HT12.out.low)
          have HI13 := Lib.hid (HI12.out.below hb HI12.out.low)
          have BX13 := Lib.hid (BX12.out.all hb)
          clear HB12 HT12 HI12 BX12 q0 q1 q2 q3 q4
          dsimp only at hz hr
          have hk1 := hz.1
          have hk2 := hr.1
          rw [List.length_map] at hk1
          rw [flatPump_len] at hk2
          obtain ⟨w14, hw14⟩ : ∃ x, w13.alloc (taskO sa sb sd (.slice F kf cf) (.slice E ke ce)) = x := ⟨_, rfl⟩
          have hbx := below1 w13 (taskO sa sb sd (.slice F kf cf) (.slice E ke ce))
          have BS14 := Lib.hid (BoxT.new w13 sa sb sd F kf cf E ke ce)
          rw [hw14] at hbx BS14
          have HS14 := Lib.hid ((rows_is hz hr).below hbx (Nat.le_refl _))
          have HB14 := Lib.hid (HB13.out.trans (hbx.mono HB13.out.size))
          clear hz hr hb hbx HB13 HT13 HI13 BX13
          have q0 := BS14.out.c0
          have q1 := BS14.out.c1
          have q2 := BS14.out.c2
          have q3 := BS14.out.c3
          have q4 := BS14.out.c4
          cases x6 with
          | false =>
            go_wp2_with (rw [hw14])
            go_ret
            exact ⟨rfl, HB14.out⟩
          | true =>
            obtain ⟨L7, z7, x7, hC7⟩ := cheA_ex ⟨sa, sb, sd, sz, sv⟩
            have HC7 := Lib.hid hC7
            clear hC7
            go_wp2_with (rw [hw14])
            try rw [hw14]
            clear hw14
            refine (cheapI_any sa sb sd cf ce HS14.out (by omega) (by omega) L7 z7 x7 HC7.out L7.length rfl).mono ?_
            rintro e w15 ⟨g7, c7, rfl, ho, hb⟩
            have HB15 := Lib.hid (HB14.out.trans (hb.mono HB14.out.size))
            clear ho hb HB14 HS14 BS14 q0 q1 q2 q3 q4
            cases x7 with
            | false =>
              go_wp2_with fail
              go_ret
              exact ⟨rfl, HB15.out⟩
            | true =>
              have hle7 := without HW.out HC3.out HC7.out
              have hnl7 : ¬ z7 < z3 := by omega
              clear HW HC3 HC7
              go_wp2_with fail
              go_ret
              exact ⟨rfl, HB15.out⟩
      | true =>
        obtain ⟨hx3, hle⟩ := HND.out rfl rfl
        subst hx3
        have hnl : ¬ z < z3 := by omega
        obtain ⟨f1, f2, -, -, -⟩ := cheA_facts HC3.out
        have F1 := Lib.hid f1
        have F2 := Lib.hid f2
        clear f1 f2
        have q0 := BX10.out.c0
        have q1 := BX10.out.c1
        have q2 := BX10.out.c2
        have q3 := BX10.out.c3
        have q4 := BX10.out.c4
        go_wp2_with fail
        refine (safeI_any a b d c1 c2 HT10.out (by omega) (by omega) c5 HP10.out (by omega) true true F1.out).mono ?_
        rintro e w11 ⟨rfl, hb⟩
        have HB11 := Lib.hid (HB10.out.trans (hb.mono HB10.out.size))
        have HT11 := Lib.hid (HT10.out.below hb HT10.out.low)
        have HI11 := Lib.hid (HI10.out.below hb HI10.out.low)
        have BX11 := Lib.hid (BX10.out.all hb)
        clear HB10 HT10 HI10 BX10 q0 q1 q2 q3 q4
        have HP11 := Lib.hid (HP10.out.below hb HP10.out.low)
        clear hb F1 HP10
        have q0 := BX11.out.c0
        have q1 := BX11.out.c1
        have q2 := BX11.out.c2
        have q3 := BX11.out.c3
        have q4 := BX11.out.c4
        go_wp2_with fail
        refine (costI_any a b d c1 c2 HT11.out (by omega) (by omega) c5 HP11.out (by omega) z3 true F2.out).mono ?_
        rintro e w12 ⟨rfl, hb⟩
        have HB12 := Lib.hid (HB11.out.trans (hb.mono HB11.out.size))
        have HT12 := Lib.hid (HT11.out.below hb HT11.out.low)
        have HI12 := Lib.hid (HI11.out.below hb HI11.out.low)
        have BX12 := Lib.hid (BX11.out.all hb)
        clear HB11 HT11 HI11 BX11 q0 q1 q2 q3 q4
        clear hb F2 HP11
        obtain ⟨s, x6, hW⟩ := wouA_ex ⟨a, b, d, Z, V⟩ 0
        obtain ⟨hl1, hl2⟩ := wouA_len hW
        obtain ⟨sa, sb, sd, sz, sv⟩ := s
        have HW := Lib.hid hW
        have hzl := HT12.out.ints.len
        have hvl := HT12.out.pumps.len
        dsimp only at hl1 hl2
        clear hW
        have q0 := BX12.out.c0
        have q1 := BX12.out.c1
        have q2 := BX12.out.c2
        have q3 := BX12.out.c3
        have q4 := BX12.out.c4
        go_wp2_with fail
        refine (woI_any a b d c1 c2 HT12.out (by omega) (by omega) h5 0 ⟨sa, sb, sd, sz, sv⟩ x6 HW.out).mono ?_
        rintro e w13 ⟨F, kf, cf, E, ke, ce, rfl, hz, hr, hb⟩
        have HB13 := Lib.hid (HB12.out.trans (hb.mono HB12.out.size))
        have HT13 := Lib.hid (HT12.out.below hb HT12.out.low)
        have HI13 := Lib.hid (HI12.out.below hb HI12.out.low)
        have BX13 := Lib.hid (BX12.out.all hb)
        clear HB12 HT12 HI12 BX12 q0 q1 q2 q3 q4
        dsimp only at hz hr
        have hk1 := hz.1
        have hk2 := hr.1
        rw [List.length_map] at hk1
        rw [flatPump_len] at hk2
        obtain ⟨w14, hw14⟩ : ∃ x, w13.alloc (taskO sa sb sd (.slice F kf cf) (.slice E ke ce)) = x := ⟨_, rfl⟩
        have hbx := below1 w13 (taskO sa sb sd (.slice F kf cf) (.slice E ke ce))
        have BS14 := Lib.hid (BoxT.new w13 sa sb sd F kf cf E ke ce)
        rw [hw14] at hbx BS14
        have HS14 := Lib.hid ((rows_is hz hr).below hbx (Nat.le_refl _))
        have HB14 := Lib.hid (HB13.out.trans (hbx.mono HB13.out.size))
        clear hz hr hb hbx HB13 HT13 HI13 BX13
        have q0 := BS14.out.c0
        have q1 := BS14.out.c1
        have q2 := BS14.out.c2
        have q3 := BS14.out.c3
        have q4 := BS14.out.c4
        cases x6 with
        | false =>
          go_wp2_with (rw [hw14])
          go_ret
          exact ⟨rfl, HB14.out⟩
        | true =>
          obtain ⟨L7, z7, x7, hC7⟩ := cheA_ex ⟨sa, sb, sd, sz, sv⟩
          have HC7 := Lib.hid hC7
          clear hC7
          go_wp2_with (rw [hw14])
          try rw [hw14]
          clear hw14
          refine (cheapI_any sa sb sd cf ce HS14.out (by omega) (by omega) L7 z7 x7 HC7.out L7.length rfl).mono ?_
          rintro e w15 ⟨g7, c7, rfl, ho, hb⟩
          have HB15 := Lib.hid (HB14.out.trans (hb.mono HB14.out.size))
          clear ho hb HB14 HS14 BS14 q0 q1 q2 q3 q4
          cases x7 with
          | false =>
            go_wp2_with fail
            go_ret
            exact ⟨rfl, HB15.out⟩
          | true =>
            have hle7 := without HW.out HC3.out HC7.out
            have hnl7 : ¬ z7 < z3 := by omega
            clear HW HC3 HC7
            go_wp2_with fail
            go_ret
            exact ⟨rfl, HB15.out⟩
theorem own : ownKnob Try.prog.godebug = none := by kernel_rfl
theorem laidOut : laidOutB Try.prog = true := by kernel_rfl

set_option maxRecDepth 100000 in
theorem lifted (os : Os) (started : os.Started) (H : Type) (enc : TypeId × Value → H) :
    ReturnsInHanded {} Try.checked os 4 .any (Rows.fnPumpCostsSpec.pre6 enc Try.prog Try.f4 Rows.fnPumpCostsRow.domain false) (Rows.fnPumpCostsSpec.post enc Try.prog Try.f4 false true false false) := by
  refine returnsInHanded_of_change (C := Try.checked) own started (by kernel_rfl) Try.func4
    (ChangeSpec.witness6 (enc := enc) (C := Try.checked) false ⟨#[], #[.slice none 0 0], []⟩ 8 (by kernel_rfl) (by kernel_rfl) (by kernel_rfl) (by kernel_rfl)) ?_
  intro W base args ds gs before hval0 hW hcnd _
  have hval : ∀ (j : Nat) t v, Try.f4.params[j]? = some t → args[j]? = some v → Value.okWide Try.prog W .any base t v := hval0
  have hW' := hW
  obtain ⟨p, q, hA0, hV, rfl, hfz, hnd⟩ := hW
  have hA : DataW.TrodAll enc Try.prog W 0 (fun _ => true) true Try.f4.params.toList args.toList ds p := hA0
  rw [Try.params4] at hA hval
  obtain ⟨v0, vs0, d0, ds0, p0, q0, hargs, rfl, rfl, h0, r0⟩ := trodAll_cons hA
  obtain ⟨rfl, rfl, rfl⟩ := trodAll_nil r0
  obtain rfl : args = #[v0] := by cases args; simp_all
  obtain ⟨rfl, rfl⟩ := trodVars_none hV
  obtain ⟨a0, len0, cap0, rfl⟩ := okWide_slice Try.underlying22 (hval 0 22 v0 rfl rfl)
  have k0 := h0
  have lt0 : ∀ x ∈ p0, x.block < W.heap.size := by obtain ⟨m, hm⟩ := k0; exact DataW.trod_lt m _ _ _ hm
  obtain ⟨z0, w0⟩ : ∃ zs, IsInts .u8 W a0 len0 zs := by
    obtain ⟨fuel, hf⟩ := h0
    rcases open_ints Try.underlying22 Try.underlying5 (by kernel_rfl) hf with ⟨hcs, _⟩ | ⟨x, l, c, zs, hcs, _, hl, hm, hz, _, hcell, hwz⟩
    · simp [Value.cells] at hcs
      obtain ⟨rfl, rfl, rfl⟩ := hcs
      exact ⟨[], isInts_nil _ W⟩
    · simp [Value.cells] at hcs
      obtain ⟨rfl, rfl, rfl⟩ := hcs
      exact ⟨_, isInts_some hl hm (by simpa using hz) hcell hwz⟩
  clear hA0 hval0
  refine (walk a0 len0 cap0 z0 W w0).mono fun e W' ⟨he, bel⟩ => ?_
  subst he
  exact ⟨_, rfl, _, _, _, [], _, [], hW', trodAll_mk1 (shut_bool Try.underlying4 _), (trodAll_cons_mk (Below.trod laidOut (by kernel_rfl) (of_decide_eq_true (by kernel_rfl)) k0 bel lt0) trodAll_mk0), rfl, bel.frame _, fun h => by cases h⟩

theorem over : Rows.fnPumpCostsRow.holds Try.pinned (OpenSpec.ofChange Rows.fnPumpCostsSpec) :=
  OpenClaim.holds_of_wide 4 Try.f4 rfl rfl rfl rfl rfl rfl rfl ⟨rfl, rfl, rfl, rfl, rfl⟩ rfl rfl rfl rfl rfl (by kernel_rfl) Try.func4 (by kernel_rfl)
    (of_decide_eq_true (by kernel_rfl)) (by unfold Func.isWrapper; first | (rw [if_pos (by decide +kernel)]; kernel_rfl) | (rw [if_neg (by decide +kernel)]; exact ⟨rfl, rfl⟩))
    (fun os started H enc _ => lifted os started H enc)

/-- The statement. -/
theorem proved : Rows.FnPumpCostsSaid := over
end Go.Proofs.Ytdjoiodkmanacaa.fnPumpCosts
