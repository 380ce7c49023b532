/- Chapter 6: the longest calm run: the model and the program. -/
import Derived.Test.YteeljlpbijmhlaaSeX
namespace Go.Proofs.Yteeljlpbijmhlaa
open Go.RowKit Go.PlainAid Go.Sort
set_option linter.unusedVariables false
set_option linter.unusedSimpArgs false

/-- Within one start of the program: nothing longer yet, or a run from here on. -/
def InnerR (zs : List Int) (q : Int) (k f0 L0 f L : Nat) : Prop := (f = f0 ∧ L = L0) ∨ (f = k ∧ L0 < L ∧ calm zs q k L)
theorem inner_end {zs : List Int} {q : Int} {k f0 L0 f L : Nat} (h : InnerR zs q k f0 L0 f L) (hb : BestK zs q k f0 L0) (hn : ¬ calm zs q k (L + 1)) : BestK zs q (k + 1) f L := by
  rcases h with ⟨rfl, rfl⟩ | ⟨rfl, h1, h2⟩
  · exact bestK_stay hb hn
  · exact bestK_new hb h1 ⟨h2, hn⟩
theorem inner_step {zs : List Int} {q : Int} {k f0 L0 f L : Nat} (h : InnerR zs q k f0 L0 f L) (hc : calm zs q k (L + 1)) : InnerR zs q k f0 L0 k (L + 1) := by
  rcases h with ⟨rfl, rfl⟩ | ⟨rfl, h1, h2⟩
  · exact .inr ⟨rfl, by omega, hc⟩
  · exact .inr ⟨rfl, by omega, hc⟩
theorem bestK_len {zs : List Int} {q : Int} {k i n : Nat} (h : BestK zs q k i n) : n ≤ zs.length ∧ i ≤ k := by
  rcases h.2 with ⟨rfl, rfl⟩ | ⟨h1, h2, h3, -⟩
  · exact ⟨Nat.zero_le _, Nat.zero_le _⟩
  · exact ⟨by have := h3.1; omega, by omega⟩

set_option maxRecDepth 100000 in
set_option maxHeartbeats 1000000 in
theorem l6Calm_any {w : World} {B n : Nat} {A : Option Addr} {zs : List Int} (c : Nat) (h : IsI6 w B A n zs) (hs : serS zs) (i : Nat) (hi : i < n) (q : Int) (hq : 0 ≤ q ∧ q ≤ 2000) :
    Calls Try.prog 77 #[.slice A n c, .int .i64 i, .int .i64 q] w fun e w' => ∃ k : Nat, e = .returned (.int .i64 k) ∧ isCalm zs q i k ∧ Below w.heap.size w w' := by
  have CL := Lib.hid (fun x y W => l1Least6_any x y W)
  have CM := Lib.hid (fun x y W => l1Most6_any x y W)
  have HI := Lib.hid h
  have HS := Lib.hid hs
  have hn20 : n ≤ 20 := by rw [← h.len]; exact hs.2
  obtain ⟨a, ha, hab, e0⟩ := h.at hi
  subst ha
  have HW0 : Hid (Win zs i (max 0 1) (zs.getD i 0) (zs.getD i 0)) := Lib.hid (win_one zs i)
  generalize zs.getD i 0 = z0 at e0 HW0
  have E0 := fun (d : Nat) (os : Array Obj) => cell_regrown e0 d os
  have HB0 := Lib.hid (Below.refl w.heap.size w)
  have hi0 : (0 : Int) ≤ (i : Int) := by omega
  have hi1 : (i : Int) < (n : Int) := by omega
  clear e0 h hs
  go_enter Try.func77, Try.ntmps77
  go_wp2_with fail
  refine wp_region_quiet_below (by kernel_rfl) (by kernel_rfl) ?_
  repeat (go_big_quiet_step (first | fail))
  refine wpQuiet_nil ?_
  intro _ hw'
  obtain ⟨⟨dq, osq⟩, hw''⟩ := hw'
  subst hw''
  have HB1 := Lib.hid (HB0.out.trans ((below_regrown w dq osq).mono HB0.out.size))
  have HI1 := Lib.hid (HI.out.below (below_regrown w dq osq) HI.out.low)
  generalize grow (redrawn w dq) osq = W1 at HB1 HI1 ⊢
  clear E0 HB0 HI
  go_wp2_with fail
  go_loop [7, 8, 9] (fun l h m => ∃ (j : Nat) (lo hi : Int), i + j ≤ n ∧ l = .int .i64 lo ∧ h = .int .i64 hi ∧ m = .int .i64 j ∧ Hid (Win zs i (max j 1) lo hi ∧ calm zs q i j)) (fun _ _ m => n + 1 - i - (intOf m).toNat)
  case atStart => exact ⟨0, _, _, by omega, rfl, rfl, rfl, Lib.hid ⟨HW0.out, calm_zero (by rw [HI1.out.len]; omega)⟩⟩
  case round =>
    obtain ⟨j, lo, hi, hj, rfl, rfl, rfl, hw⟩ := hrel
    obtain ⟨t, ht⟩ : ∃ t, i + j = t := ⟨_, rfl⟩
    have hij : (i : Int) + (j : Int) = (t : Int) := by omega
    by_cases hlt : t < n
    · obtain ⟨a', ha', -, e1⟩ := HI1.out.at hlt
      injection ha' with ha'; subst ha'
      have hwi := win_in hw.out.1 HS.out
      have hz := serS_getD HS.out t
      have HN : Hid (Win zs i (j + 1) (min lo (zs.getD t 0)) (max hi (zs.getD t 0)) ∧ (max hi (zs.getD t 0) - min lo (zs.getD t 0) ≤ q ↔ calm zs q i (j + 1))) := Lib.hid (by
        have := win_step hw.out.1
        rw [ht] at this
        exact ⟨this, win_calm this (by rw [HI1.out.len]; omega)⟩)
      generalize zs.getD t 0 = z at e1 HN hz
      have c1 := Lib.hid (fun W => CL.out lo z W)
      have c2 := Lib.hid (fun W => CM.out hi z W)
      obtain ⟨lo', hlo⟩ : ∃ x, min lo z = x := ⟨_, rfl⟩
      obtain ⟨hi', hhi⟩ : ∃ x, max hi z = x := ⟨_, rfl⟩
      have hb1 : 0 ≤ lo' ∧ lo' ≤ 2000 := by omega
      have hb2 : 0 ≤ hi' ∧ hi' ≤ 2000 := by omega
      rw [hlo] at c1 HN
      rw [hhi] at c2 HN
      have ht0 : (0 : Int) ≤ (t : Int) := by omega
      have ht1 : (t : Int) < (n : Int) := by omega
      have hj20 : (j : Int) ≤ 20 := by omega
      clear hlo hhi CL CM hwi hz
      by_cases hc : hi' - lo' ≤ q
      · have hd : ¬ q < hi' - lo' := by omega
        have HR : Hid (Win zs i (max (j + 1) 1) lo' hi' ∧ calm zs q i (j + 1)) := Lib.hid ⟨by rw [show max (j + 1) 1 = j + 1 by omega]; exact HN.out.1, HN.out.2.1 hc⟩
        clear HN hw
        go_wp2_with fail
        refine (c1.out _).mono ?_
        rintro e w2 ⟨rfl, rfl⟩
        go_wp2_with fail
        refine (c2.out _).mono ?_
        rintro e w2 ⟨rfl, rfl⟩
        go_wp2_with fail
        go_round
        case rel => exact ⟨j + 1, lo', hi', by omega, rfl, rfl, by go_num, HR⟩
        case measure => simp [intOf]; omega
      · have hd : q < hi' - lo' := by omega
        have HR : Hid (isCalm zs q i j) := Lib.hid ⟨hw.out.2, fun h => hc (HN.out.2.2 h)⟩
        clear HN hw
        go_wp2_with fail
        refine (c1.out _).mono ?_
        rintro e w2 ⟨rfl, rfl⟩
        go_wp2_with fail
        refine (c2.out _).mono ?_
        rintro e w2 ⟨rfl, rfl⟩
        go_wp2_with fail
        go_ret
        exact ⟨j, rfl, HR.out, HB1.out⟩
    · have HR : Hid (isCalm zs q i j) := Lib.hid ⟨hw.out.2, fun h => by have := h.1; rw [HI1.out.len] at this; omega⟩
      have ht1 : ¬ ((t : Int) < (n : Int)) := by omega
      clear hw CL CM
      go_wp2_with fail
      go_ret
      exact ⟨j, rfl, HR.out, HB1.out⟩

set_option maxRecDepth 100000 in
set_option maxHeartbeats 1000000 in
theorem calS_any (A : Option Addr) (n c B : Nat) (zs : List Int) (q i m : Int) (x : Bool) (hA : CalA zs q i m x) (w : World) (hn : zs.length = n) (hm : n ≤ 1048576) (hB : B ≤ w.heap.size) (h : Has w B A (zs.map (.int .i64))) :
    Calls Try.prog 35 #[.slice A n c, .int .i64 q] w fun e w' => e = .returned (.tuple #[.int .i64 i, .int .i64 m, .bool x]) ∧ Below w.heap.size w w' := by
  have C1 := Lib.hid (l6Series_any A n c B zs w hn hm h)
  have C2 := Lib.hid (fun W => l6Level_any q W)
  have HI := Lib.hid (show IsI6 w B A n zs from ⟨hn, h, hB⟩)
  by_cases hs : serS zs
  · rw [decide_eq_true hs] at C1
    by_cases h0 : n = 0
    · obtain ⟨rfl, rfl, rfl⟩ := calA_no hA (fun g => by have := g.2.1; omega)
      subst h0
      clear hA hn h hs HI
      go_enter Try.func35, Try.ntmps35
      go_wp2_with fail
      refine C1.out.mono ?_
      rintro e w1 ⟨rfl, rfl⟩
      go_wp2_with fail
      refine bodyPost_ret (results_tmp3 rfl _ _ _) rfl ?_
      exact ⟨rfl, Below.refl _ _⟩
    · have hne : ((n : Int) == 0) = false := by rw [beq_eq_false_iff_ne]; omega
      by_cases hq : 0 ≤ q ∧ q ≤ 2000
      · have HA := Lib.hid (fun a b hb => calA_yes (a := a) (b := b) hA ⟨hs, by omega, hq⟩ hb)
        rw [decide_eq_true hq] at C2
        have CC := Lib.hid (fun (k : Nat) (hk : k < n) W (hW : Below w.heap.size w W) => l6Calm_any c (HI.out.below hW HI.out.low) hs k hk q hq)
        have HLN := Lib.hid hn
        have HBL := Lib.hid (fun (k i n : Nat) (h : BestK zs q k i n) => bestK_len h)
        have hn20 : n ≤ 20 := by rw [← hn]; exact hs.2
        clear hA hn h hs HI
        go_enter Try.func35, Try.ntmps35
        go_wp2_with fail
        refine C1.out.mono ?_
        rintro e w1 ⟨rfl, rfl⟩
        go_wp2_with fail
        refine (C2.out _).mono ?_
        rintro e w1 ⟨rfl, rfl⟩
        clear C1 C2
        go_wp2_with fail
        go_loopw [7, 8, 9] (fun f l k wr => ∃ (a b k' : Nat), k' ≤ n ∧ f = .int .i64 a ∧ l = .int .i64 b ∧ k = .int .i64 k' ∧ Hid (BestK zs q k' a b) ∧ Below w.heap.size w wr) (fun _ _ k _ => n - (intOf k).toNat)
        case atStart => exact ⟨0, 0, 0, Nat.zero_le _, rfl, rfl, rfl, Lib.hid (bestK_zero zs q), Below.refl _ _⟩
        case round =>
          obtain ⟨a, b, k', hk, rfl, rfl, rfl, hbk, hbl⟩ := hrel
          have HB := Lib.hid hbl
          by_cases hlt : k' < n
          · have hk1 : (k' : Int) < (n : Int) := by omega
            have C := Lib.hid (CC.out k' hlt wr hbl)
            clear CC hbl
            go_wp2_with fail
            refine C.out.mono ?_
            rintro e w2 ⟨m', rfl, hcm, hb2⟩
            have HC := Lib.hid hcm
            have HB2 := Lib.hid (HB.out.trans (hb2.mono HB.out.size))
            clear hcm hb2 C HB
            by_cases hgt : b < m'
            · have hgt2 : (b : Int) < (m' : Int) := by omega
              have HR := Lib.hid (bestK_new hbk.out hgt HC.out)
              clear HC hbk
              go_wp2_with fail
              go_roundw
              case rel => exact ⟨k', m', k' + 1, by omega, rfl, rfl, by go_num, HR, HB2.out⟩
              case measure => simp [intOf]; omega
            · have hgt2 : ¬ (b : Int) < (m' : Int) := by omega
              have HR := Lib.hid (bestK_stay hbk.out (fun h => HC.out.2 (calm_less h (by omega))))
              clear HC hbk
              go_wp2_with fail
              go_roundw
              case rel => exact ⟨a, b, k' + 1, by omega, rfl, rfl, by go_num, HR, HB2.out⟩
              case measure => simp [intOf]; omega
          · obtain rfl : k' = n := by omega
            obtain ⟨rfl, rfl, rfl⟩ := HA.out a b (by rw [HLN.out]; exact hbk.out)
            clear hbl CC hbk HA
            go_wp2_with fail
            refine bodyPost_ret (results_tmp3 rfl _ _ _) rfl ?_
            exact ⟨rfl, HB.out⟩
      · obtain ⟨rfl, rfl, rfl⟩ := calA_no hA (fun g => hq g.2.2)
        rw [decide_eq_false hq] at C2
        clear hA hn h hs HI
        go_enter Try.func35, Try.ntmps35
        go_wp2_with fail
        refine C1.out.mono ?_
        rintro e w1 ⟨rfl, rfl⟩
        go_wp2_with fail
        refine (C2.out _).mono ?_
        rintro e w1 ⟨rfl, rfl⟩
        go_wp2_with fail
        refine bodyPost_ret (results_tmp3 rfl _ _ _) rfl ?_
        exact ⟨rfl, Below.refl _ _⟩
  · obtain ⟨rfl, rfl, rfl⟩ := calA_no hA (fun g => hs g.1)
    rw [decide_eq_false hs] at C1
    clear hA hn h hs HI
    go_enter Try.func35, Try.ntmps35
    go_wp2_with fail
    refine C1.out.mono ?_
    rintro e w1 ⟨rfl, rfl⟩
    go_wp2_with fail
    refine bodyPost_ret (results_tmp3 rfl _ _ _) rfl ?_
    exact ⟨rfl, Below.refl _ _⟩

set_option maxRecDepth 100000 in
set_option maxHeartbeats 1000000 in
theorem calI_any (A : Option Addr) (n c B : Nat) (hc : n ≤ c) (zs : List Int) (q i m : Int) (x : Bool) (hA : CalA zs q i m x) (w : World) (hn : zs.length = n) (hm : n ≤ 1048576) (hB : B ≤ w.heap.size) (h : Has w B A (zs.map (.int .i64))) :
    Calls Try.prog 36 #[.slice A n c, .int .i64 q] w fun e w' => e = .returned (.tuple #[.int .i64 i, .int .i64 m, .bool x]) ∧ w = w' := by
  have C1 := Lib.hid (isSeries_any A n c B zs w hn hm h)
  have C2 := Lib.hid (fun W => inRange_any q 0 2000 W)
  have HI := Lib.hid (show IsI6 w B A n zs from ⟨hn, h, hB⟩)
  by_cases hs : serS zs
  · rw [decide_eq_true hs] at C1
    by_cases h0 : n = 0
    · obtain ⟨rfl, rfl, rfl⟩ := calA_no hA (fun g => by have := g.2.1; omega)
      subst h0
      clear hA hn h hs HI
      go_enter Try.func36, Try.ntmps36
      go_wp2_with fail
      refine C1.out.mono ?_
      rintro e w1 ⟨rfl, rfl⟩
      go_wp2_with fail
      refine bodyPost_ret (results_tmp3 rfl _ _ _) rfl ?_
      exact ⟨rfl, rfl⟩
    · have hne : ((n : Int) == 0) = false := by rw [beq_eq_false_iff_ne]; omega
      by_cases hq : 0 ≤ q ∧ q ≤ 2000
      · have HA := Lib.hid (fun a b hb => calA_yes (a := a) (b := b) hA ⟨hs, by omega, hq⟩ hb)
        rw [decide_eq_true hq] at C2
        have HLN := Lib.hid hn
        have HS := Lib.hid hs
        have HBL := Lib.hid (fun (k i n : Nat) (h : BestK zs q k i n) => bestK_len h)
        have hn20 : n ≤ 20 := by rw [← hn]; exact hs.2
        obtain ⟨a, ha, -, -⟩ := HI.out.at (k := 0) (by omega)
        subst ha
        clear hA hn h hs
        go_enter Try.func36, Try.ntmps36
        go_wp2_with fail
        refine C1.out.mono ?_
        rintro e w1 ⟨rfl, rfl⟩
        go_wp2_with fail
        refine (C2.out _).mono ?_
        rintro e w1 ⟨rfl, rfl⟩
        clear C1 C2
        go_wp2_with fail
        go_loop [7, 8, 25] (fun f l k => ∃ (fa b k' : Nat), k' ≤ n ∧ f = .int .i64 fa ∧ l = .int .i64 b ∧ k = .int .i64 k' ∧ Hid (BestK zs q k' fa b)) (fun _ _ k => n - (intOf k).toNat)
        case atStart => exact ⟨0, 0, 0, Nat.zero_le _, rfl, rfl, rfl, Lib.hid (bestK_zero zs q)⟩
        case round =>
          obtain ⟨fa, b, k', hk, rfl, rfl, rfl, hbk⟩ := hrel
          by_cases hlt : k' < n
          · have hk1 : (k' : Int) < (n : Int) := by omega
            go_wp2_with fail
            go_loop [7, 8] (fun f l => ∃ (f' L : Nat), L ≤ n ∧ f = .int .i64 f' ∧ l = .int .i64 L ∧ Hid (InnerR zs q k' fa b f' L)) (fun _ l => n - (intOf l).toNat)
            case atStart => exact ⟨fa, b, by have := (HBL.out _ _ _ hbk.out).1; rw [HLN.out] at this; exact this, rfl, rfl, Lib.hid (.inl ⟨rfl, rfl⟩)⟩
            case round =>
              obtain ⟨f', L, hL, rfl, rfl, hin⟩ := hrel
              obtain ⟨t, ht⟩ : ∃ t, k' + L = t := ⟨_, rfl⟩
              have hij : (k' : Int) + (L : Int) = (t : Int) := by omega
              by_cases htn : t < n
              · have hcut := HI.out.cut k' (L + 1) (by omega)
                have ha2 := allL_cut HS.out k' (L + 1)
                have HC := Lib.hid (calm_sprd (zs := zs) (q := q) (i := k') (n := L + 1) (by omega) (by rw [HLN.out]; omega))
                have CS := Lib.hid (fun c' => spread_any (some (a.add k')) (L + 1) c' B _ w hcut.len (by omega) (by omega) ha2 hcut.has)
                generalize sprd ((zs.drop k').take (L + 1)) = d at HC CS
                have ht0 : (0 : Int) ≤ (t : Int) := by omega
                have ht1 : (t : Int) < (n : Int) := by omega
                have ht2 : (t : Int) + 1 ≤ (c : Int) := by omega
                have ht3 : (k' : Int) ≤ (t : Int) + 1 := by omega
                have htk : t + 1 - k' = L + 1 := by omega
                clear hcut ha2
                by_cases hd : d ≤ q
                · have HR := Lib.hid (inner_step hin.out (HC.out.1 hd))
                  clear HC hin hbk
                  go_wp2_with fail
                  try simp only [htk]
                  refine (CS.out _).mono ?_
                  rintro e w1 ⟨rfl, rfl⟩
                  go_wp2_with fail
                  go_round
                  case rel => exact ⟨k', L + 1, by omega, rfl, by go_num, HR⟩
                  case measure => simp [intOf]; omega
                · have HR := Lib.hid (inner_end hin.out hbk.out (fun h => hd (HC.out.2 h)))
                  clear HC hin hbk
                  go_wp2_with fail
                  try simp only [htk]
                  refine (CS.out _).mono ?_
                  rintro e w1 ⟨rfl, rfl⟩
                  go_wp2_with fail
                  go_round
                  case rel => exact ⟨f', L, k' + 1, by omega, rfl, rfl, by go_num, HR⟩
                  case measure => simp [intOf]; omega
              · have HR := Lib.hid (inner_end hin.out hbk.out (fun h => by have := h.1; rw [HLN.out] at this; omega))
                have ht1 : ¬ ((t : Int) < (n : Int)) := by omega
                clear hin hbk
                go_wp2_with fail
                go_round
                case rel => exact ⟨f', L, k' + 1, by omega, rfl, rfl, by go_num, HR⟩
                case measure => simp [intOf]; omega
          · obtain rfl : k' = n := by omega
            obtain ⟨rfl, rfl, rfl⟩ := HA.out fa b (by rw [HLN.out]; exact hbk.out)
            clear hbk HA
            go_wp2_with fail
            refine bodyPost_ret (results_tmp3 rfl _ _ _) rfl ?_
            exact ⟨rfl, rfl⟩
      · obtain ⟨rfl, rfl, rfl⟩ := calA_no hA (fun g => hq g.2.2)
        rw [decide_eq_false hq] at C2
        clear hA hn h hs HI
        go_enter Try.func36, Try.ntmps36
        go_wp2_with fail
        refine C1.out.mono ?_
        rintro e w1 ⟨rfl, rfl⟩
        go_wp2_with fail
        refine (C2.out _).mono ?_
        rintro e w1 ⟨rfl, rfl⟩
        go_wp2_with fail
        refine bodyPost_ret (results_tmp3 rfl _ _ _) rfl ?_
        exact ⟨rfl, rfl⟩
  · obtain ⟨rfl, rfl, rfl⟩ := calA_no hA (fun g => hs g.1)
    rw [decide_eq_false hs] at C1
    clear hA hn h hs HI
    go_enter Try.func36, Try.ntmps36
    go_wp2_with fail
    refine C1.out.mono ?_
    rintro e w1 ⟨rfl, rfl⟩
    go_wp2_with fail
    refine bodyPost_ret (results_tmp3 rfl _ _ _) rfl ?_
    exact ⟨rfl, rfl⟩
end Go.Proofs.Yteeljlpbijmhlaa
