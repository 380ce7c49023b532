/- Chapter 6: stuck sensors: the model and the program. -/
import Derived.Test.YteeljlpbijmhlaaSeX
namespace Go.Proofs.Yteeljlpbijmhlaa
open Go.RowKit Go.PlainAid Go.Sort
set_option linter.unusedVariables false
set_option linter.unusedSimpArgs false

set_option maxHeartbeats 1000000 in
theorem stkS_any (A : Option Addr) (n c B : Nat) (zs : List Int) (q : Int) (b x : Bool) (hA : StkA zs q b x) (w : World) (hn : zs.length = n) (hm : n ≤ 1048576) (hB : B ≤ w.heap.size) (h : Has w B A (zs.map (.int .i64))) :
    Calls Try.prog 31 #[.slice A n c, .int .i64 q] w fun e w' => e = .returned (.tuple #[.bool b, .bool x]) ∧ Below w.heap.size w w' := by
  have C1 := Lib.hid (l6Series_any A n c B zs w hn hm h)
  have C2 := Lib.hid (fun W => l1In_any q 2 20 W)
  have HI := Lib.hid (show IsI6 w B A n zs from ⟨hn, h, hB⟩)
  by_cases hg : serS zs ∧ 2 ≤ q ∧ q ≤ 20
  · obtain ⟨hb, rfl⟩ := hA.1 hg
    rw [decide_eq_true hg.1] at C1
    rw [decide_eq_true hg.2] at C2
    obtain ⟨m, rfl⟩ : ∃ m : Nat, q = m := ⟨q.toNat, by omega⟩
    rw [Int.toNat_natCast] at hb
    have hm2 : 2 ≤ m ∧ m ≤ 20 := by omega
    by_cases hle : m ≤ n
    · obtain ⟨r, rfl⟩ : ∃ r, n = r + 1 := ⟨n - 1, by omega⟩
      obtain ⟨p, hp⟩ : ∃ p, p + m = r + 1 := ⟨r + 1 - m, by omega⟩
      have HY : Hid ((∀ t, p ≤ t → t < r + 1 → zs.getD t 0 = zs.getD r 0) → b = true) := Lib.hid (fun g => by
        rw [hb]
        refine decide_eq_true ⟨by omega, fun j hj => ?_⟩
        rw [hn, show r + 1 - m + j = p + j by omega, show r + 1 - 1 = r by omega]
        exact g _ (by omega) (by omega))
      have HN : Hid (∀ t, p ≤ t → t < r + 1 → zs.getD t 0 ≠ zs.getD r 0 → b = false) := Lib.hid (fun t h1 h2 hne => by
        rw [hb]
        refine decide_eq_false fun g => hne ?_
        have := g.2 (t - p) (by omega)
        rw [hn, show r + 1 - m + (t - p) = t by omega, show r + 1 - 1 = r by omega] at this
        exact this)
      clear hA hn h hb hg
      have hp0 : (r : Int) + 1 - (m : Int) = (p : Int) := by omega
      have hge : (m : Int) ≤ (r : Int) + 1 := by omega
      go_enter Try.func31, Try.ntmps31
      go_wp2_with fail
      refine C1.out.mono ?_
      rintro e w1 ⟨rfl, rfl⟩
      go_wp2_with fail
      refine (C2.out _).mono ?_
      rintro e w1 ⟨rfl, rfl⟩
      clear C1 C2
      go_wp2_with fail
      go_loopw [7] (fun i wr => ∃ t : Nat, p ≤ t ∧ t ≤ r + 1 ∧ i = .int .i64 (t : Int) ∧ Hid (∀ u, p ≤ u → u < t → zs.getD u 0 = zs.getD r 0) ∧ Below w.heap.size w wr) (fun i _ => r + 1 - (intOf i).toNat)
      case atStart => exact ⟨p, Nat.le_refl _, by omega, by first | rfl | (congr 1; omega) | rw [hp0], Lib.hid (fun t h1 ht => absurd ht (by omega)), Below.refl _ _⟩
      case round =>
        obtain ⟨t, htp, ht, rfl, hall, hbl⟩ := hrel
        have HB := Lib.hid hbl
        by_cases hlt : t < r + 1
        · obtain ⟨a, ha, hab, e1⟩ := (HI.out.below hbl HI.out.low).at (k := t) hlt
          obtain ⟨a', ha', -, e0⟩ := (HI.out.below hbl HI.out.low).at (k := r) (by omega)
          subst ha
          injection ha' with ha'; subst ha'
          have HNj := Lib.hid (HN.out t htp hlt)
          have HYj : Hid (zs.getD t 0 = zs.getD r 0 → ∀ u, p ≤ u → u < t + 1 → zs.getD u 0 = zs.getD r 0) := Lib.hid (fun h u h1 hu => by
            rcases Nat.lt_succ_iff_lt_or_eq.1 hu with h2 | rfl
            · exact hall.out u h1 h2
            · exact h)
          obtain ⟨z1, hz1⟩ : ∃ z, zs.getD t 0 = z := ⟨_, rfl⟩
          obtain ⟨z0, hz0⟩ : ∃ z, zs.getD r 0 = z := ⟨_, rfl⟩
          have HZ0 := Lib.hid hz0
          have HZ1 := Lib.hid hz1
          rw [hz0] at e0
          rw [hz1] at e1
          clear hz0 hz1
          have E0 := fun (d : Nat) (os : Array Obj) => cell_regrown e0 d os
          have E1 := fun (d : Nat) (os : Array Obj) => cell_regrown e1 d os
          have ht0 : (0 : Int) ≤ (t : Int) := by omega
          have ht1 : (t : Int) < (r : Int) + 1 := by omega
          clear e0 e1 hall hbl
          by_cases hz : z1 = z0
          · have HS := Lib.hid (HYj.out (by rw [HZ0.out, HZ1.out]; exact hz))
            have hne : (z1 != z0) = false := by simp [hz]
            clear HYj HNj hz
            go_wp2_with fail
            refine wp_region_quiet_below (by kernel_rfl) (by kernel_rfl) ?_
            repeat (go_big_quiet_step (first | fail))
            refine wpQuiet_nil ?_
            intro _ hw'
            obtain ⟨⟨dq, osq⟩, hw''⟩ := hw'
            subst hw''
            have HB1 := Lib.hid (HB.out.trans ((below_regrown wr dq osq).mono HB.out.size))
            clear E0 E1 HB
            go_wp2_with fail
            go_roundw
            case rel => exact ⟨t + 1, by omega, by omega, by go_num, HS, HB1.out⟩
            case measure => simp [intOf]; omega
          · obtain rfl : b = false := HNj.out (by rw [HZ0.out, HZ1.out]; exact hz)
            have hne : (z1 != z0) = true := by simp [hz]
            clear HYj HNj HN hz HY
            go_wp2_with fail
            refine wp_region_quiet_below (by kernel_rfl) (by kernel_rfl) ?_
            repeat (go_big_quiet_step (first | fail))
            refine wpQuiet_nil ?_
            intro _ hw'
            obtain ⟨⟨dq, osq⟩, hw''⟩ := hw'
            subst hw''
            have HB1 := Lib.hid (HB.out.trans ((below_regrown wr dq osq).mono HB.out.size))
            clear E0 E1 HB
            go_wp2_with fail
            refine bodyPost_ret (results_tmp2 rfl _ _ _) rfl ?_
            exact ⟨rfl, HB1.out⟩
        · obtain rfl : t = r + 1 := by omega
          obtain rfl : b = true := HY.out hall.out
          clear HN hall HI hbl
          go_wp2_with fail
          refine bodyPost_ret (results_tmp2 rfl _ _ _) rfl ?_
          exact ⟨rfl, HB.out⟩
    · obtain rfl : b = false := by rw [hb]; exact decide_eq_false (fun g => hle (by rw [← hn]; exact g.1))
      have hge : ¬ ((m : Int) ≤ (n : Int)) := by omega
      clear hA hn h hb hg HI
      go_enter Try.func31, Try.ntmps31
      go_wp2_with fail
      refine C1.out.mono ?_
      rintro e w1 ⟨rfl, rfl⟩
      go_wp2_with fail
      refine (C2.out _).mono ?_
      rintro e w1 ⟨rfl, rfl⟩
      clear C1 C2
      go_wp2_with fail
      go_loopw [7] (fun i wr => i = .int .i64 ((n : Int) - m) ∧ wr = w) (fun i _ => 0)
      case atStart => exact ⟨rfl, rfl⟩
      case round =>
        obtain ⟨rfl, rfl⟩ := hrel
        have hlt : (n : Int) - m < n := by omega
        go_wp2_with fail
        refine bodyPost_ret (results_tmp2 rfl _ _ _) rfl ?_
        exact ⟨rfl, Below.refl _ _⟩
  · obtain ⟨rfl, rfl⟩ := hA.2 hg
    by_cases hs : serS zs
    · have hq : ¬ (2 ≤ q ∧ q ≤ 20) := fun h => hg ⟨hs, h⟩
      rw [decide_eq_true hs] at C1
      rw [decide_eq_false hq] at C2
      clear hA hn h hg HI
      go_enter Try.func31, Try.ntmps31
      go_wp2_with fail
      refine C1.out.mono ?_
      rintro e w1 ⟨rfl, rfl⟩
      go_wp2_with fail
      refine (C2.out _).mono ?_
      rintro e w1 ⟨rfl, rfl⟩
      go_wp2_with fail
      refine bodyPost_ret (results_tmp2 rfl _ _ _) rfl ?_
      exact ⟨rfl, Below.refl _ _⟩
    · rw [decide_eq_false hs] at C1
      clear hA hn h hg HI C2
      go_enter Try.func31, Try.ntmps31
      go_wp2_with fail
      refine C1.out.mono ?_
      rintro e w1 ⟨rfl, rfl⟩
      go_wp2_with fail
      refine bodyPost_ret (results_tmp2 rfl _ _ _) rfl ?_
      exact ⟨rfl, Below.refl _ _⟩

set_option maxHeartbeats 1000000 in
theorem stkI_any (A : Option Addr) (n c B : Nat) (hc : n ≤ c) (zs : List Int) (q : Int) (b x : Bool) (hA : StkA zs q b x) (w : World) (hn : zs.length = n) (hm : n ≤ 1048576) (hB : B ≤ w.heap.size) (h : Has w B A (zs.map (.int .i64))) :
    Calls Try.prog 32 #[.slice A n c, .int .i64 q] w fun e w' => e = .returned (.tuple #[.bool b, .bool x]) ∧ w = w' := by
  have C1 := Lib.hid (isSeries_any A n c B zs w hn hm h)
  have C2 := Lib.hid (fun W => inRange_any q 2 20 W)
  have HI := Lib.hid (show IsI6 w B A n zs from ⟨hn, h, hB⟩)
  by_cases hg : serS zs ∧ 2 ≤ q ∧ q ≤ 20
  · obtain ⟨hb, rfl⟩ := hA.1 hg
    rw [decide_eq_true hg.1] at C1
    rw [decide_eq_true hg.2] at C2
    obtain ⟨m, rfl⟩ : ∃ m : Nat, q = m := ⟨q.toNat, by omega⟩
    rw [Int.toNat_natCast] at hb
    have hm2 : 2 ≤ m ∧ m ≤ 20 := by omega
    by_cases hle : m ≤ n
    · obtain ⟨a, ha, -, -⟩ := HI.out.at (k := 0) (by omega)
      subst ha
      have hcut := HI.out.cut (n - m) m (by omega)
      have e2 : (zs.drop (n - m)).take m = zs.drop (zs.length - m) := by rw [List.take_of_length_le (by simp; omega), hn]
      have ha2 := allL_cut hg.1 (n - m) m
      rw [e2] at hcut ha2
      have CS := Lib.hid (fun c' => spread_any (some (a.add (n - m))) m c' B _ w hcut.len (by omega) (by omega) ha2 hcut.has)
      have HBE : Hid (b = decide (sprd (zs.drop (zs.length - m)) = 0)) := Lib.hid (by
        rw [hb]
        exact decide_eq_decide.2 ⟨fun g => (stuck_sprd (by omega) (by omega)).2 g.2, fun g => ⟨by omega, (stuck_sprd (by omega) (by omega)).1 g⟩⟩)
      generalize sprd (zs.drop (zs.length - m)) = d at CS HBE
      obtain ⟨p, hp⟩ : ∃ p, n - m = p := ⟨_, rfl⟩
      have hp0 : (n : Int) - (m : Int) = (p : Int) := by omega
      have hp1 : n - p = m := by omega
      have hpn : p ≤ n := by omega
      rw [hp] at CS
      have hge : (m : Int) ≤ (n : Int) := by omega
      clear hA hn h hb hg hcut ha2 e2 HI hp
      go_enter Try.func32, Try.ntmps32
      go_wp2_with fail
      refine C1.out.mono ?_
      rintro e w1 ⟨rfl, rfl⟩
      go_wp2_with fail
      refine (C2.out _).mono ?_
      rintro e w1 ⟨rfl, rfl⟩
      clear C1 C2
      go_wp2_with fail
      try simp only [hp1]
      refine (CS.out _).mono ?_
      rintro e w1 ⟨rfl, rfl⟩
      have HBE2 : Hid (b = (d == 0)) := Lib.hid (by rw [HBE.out]; exact Bool.eq_iff_iff.2 (by simp))
      clear HBE CS
      go_wp2_with fail
      refine bodyPost_ret (results_tmp2 rfl _ _ _) rfl ?_
      exact ⟨by rw [HBE2.out]; rfl, rfl⟩
    · obtain rfl : b = false := by rw [hb]; exact decide_eq_false (fun g => hle (by rw [← hn]; exact g.1))
      have hge : ¬ ((m : Int) ≤ (n : Int)) := by omega
      clear hA hn h hb hg HI
      go_enter Try.func32, Try.ntmps32
      go_wp2_with fail
      refine C1.out.mono ?_
      rintro e w1 ⟨rfl, rfl⟩
      go_wp2_with fail
      refine (C2.out _).mono ?_
      rintro e w1 ⟨rfl, rfl⟩
      clear C1 C2
      go_wp2_with fail
      refine bodyPost_ret (results_tmp2 rfl _ _ _) rfl ?_
      exact ⟨rfl, rfl⟩
  · obtain ⟨rfl, rfl⟩ := hA.2 hg
    by_cases hs : serS zs
    · have hq : ¬ (2 ≤ q ∧ q ≤ 20) := fun h => hg ⟨hs, h⟩
      rw [decide_eq_true hs] at C1
      rw [decide_eq_false hq] at C2
      clear hA hn h hg HI
      go_enter Try.func32, Try.ntmps32
      go_wp2_with fail
      refine C1.out.mono ?_
      rintro e w1 ⟨rfl, rfl⟩
      go_wp2_with fail
      refine (C2.out _).mono ?_
      rintro e w1 ⟨rfl, rfl⟩
      go_wp2_with fail
      refine bodyPost_ret (results_tmp2 rfl _ _ _) rfl ?_
      exact ⟨rfl, rfl⟩
    · rw [decide_eq_false hs] at C1
      clear hA hn h hg HI C2
      go_enter Try.func32, Try.ntmps32
      go_wp2_with fail
      refine C1.out.mono ?_
      rintro e w1 ⟨rfl, rfl⟩
      go_wp2_with fail
      refine bodyPost_ret (results_tmp2 rfl _ _ _) rfl ?_
      exact ⟨rfl, rfl⟩
end Go.Proofs.Yteeljlpbijmhlaa
