/- Chapter 6: VotedLevel of the model and of the program. -/
import Derived.Test.YteeljlpbijmhlaaSeU
namespace Go.Proofs.Yteeljlpbijmhlaa
open Go.RowKit Go.PlainAid Go.Sort
set_option linter.unusedVariables false
set_option linter.unusedSimpArgs false

theorem agr_at {zs : List Int} {q : Int} {k : Nat} (hk : k < (agr zs q).length) : ∃ j : Nat, j < 3 ∧ (agr zs q).getD k 0 = j := by
  obtain ⟨j, hj, e, -⟩ := agrK_mem zs q 3 ((agr zs q).getD k 0) (by
    rw [List.getD_eq_getElem?_getD, List.getElem?_eq_getElem hk]
    exact List.getElem_mem hk)
  exact ⟨j, hj, e⟩
theorem own_ints {w : World} {base g n c : Nat} {L : List Int} (h : w.ownsRow base 3 1 (.slice (some ⟨g, 0, none⟩) n c) n (L.map (.int .i64))) {k : Nat} (hk : k < L.length) : w.cell? ((⟨g, 0, none⟩ : Addr).add k) = some (.int .i64 (L.getD k 0)) := by
  have := ownS_has h k (.int .i64 (L.getD k 0)) (by simp [List.getD_eq_getElem?_getD, hk])
  obtain ⟨a, e, -, hc⟩ := this
  injection e with e
  rw [e]; exact hc
theorem addZ (g k : Nat) : (⟨g, 0, none⟩ : Addr).add k = ⟨g, k, none⟩ := by
  unfold Addr.add
  split
  · next h => subst h; rfl
  · simp

set_option maxRecDepth 100000 in
set_option maxHeartbeats 1000000 in
theorem votSp_any (A : Option Addr) (n c B : Nat) (zs : List Int) (q m : Int) (x : Bool) (hA : VotA zs q m x) (w : World) (hn : zs.length = n) (hm : n ≤ 1048576) (hB : B ≤ w.heap.size) (h : Has w B A (zs.map (.int .i64))) :
    Calls Try.prog 24 #[.slice A n c, .int .i64 q] w fun e w' => e = .returned (.tuple #[.int .i64 m, .bool x]) ∧ Below w.heap.size w w' := by
  have C1 := Lib.hid (l6Triple_any A n c B zs w hn hm h)
  have C2 := Lib.hid (fun W => l6Level_any q W)
  by_cases ht : triS zs
  · obtain rfl : n = 3 := by rw [← hn]; exact ht.1
    rw [decide_eq_true ht] at C1
    by_cases hq : 0 ≤ q ∧ q ≤ 2000
    · have C3 := Lib.hid (l6Agreeing_any c (w := w) ⟨ht, h, hB⟩ q hq)
      rw [decide_eq_true hq] at C2
      have HI0 := Lib.hid (show IsTri w B A zs from ⟨ht, h, hB⟩)
      by_cases hl : 2 ≤ (agr zs q).length
      · obtain ⟨hmv, rfl⟩ := hA.1 ⟨ht, hq, hl⟩
        have HMV := Lib.hid hmv
        clear hA hn hm h ht hmv
        go_enter Try.func24, Try.ntmps24
        go_wp2_with fail
        refine C1.out.mono ?_
        rintro e w1 ⟨rfl, rfl⟩
        go_wp2_with fail
        refine (C2.out _).mono ?_
        rintro e w1 ⟨rfl, rfl⟩
        go_wp2_with fail
        refine C3.out.mono ?_
        rintro e w1 ⟨v, rfl, ho⟩
        obtain ⟨g, cp, rfl, hg, hown, hb⟩ := ho
        have HB := Lib.hid hb
        have HI := Lib.hid (HI0.out.below hb HI0.out.low)
        have HE0 := Lib.hid (fun k (hk : k < (agr zs q).length) => own_ints hown hk)
        have HJ0 := Lib.hid (fun k (hk : k < (agr zs q).length) => agr_at hk)
        have HSU0 := Lib.hid (fun k (hk : k < (agr zs q).length) => sumK_succ zs (agr zs q) k hk)
        have HSI := Lib.hid (fun k => sumK_in HI0.out.tri.2 (agr zs q) k)
        have hl3 := agrK_len zs q 3
        rw [show agrK zs q 3 = agr zs q from rfl] at hl3
        have HS0 : Hid (sumK zs (agr zs q) 0 = 0) := Lib.hid rfl
        obtain ⟨L, hL⟩ : ∃ k, (agr zs q).length = k := ⟨_, rfl⟩
        have HE : Hid (∀ k, k < L → w1.cell? ((⟨g, 0, none⟩ : Addr).add k) = some (.int .i64 ((agr zs q).getD k 0))) := Lib.hid (fun k hk => HE0.out k (by omega))
        have HJ : Hid (∀ k, k < L → ∃ j : Nat, j < 3 ∧ (agr zs q).getD k 0 = j) := Lib.hid (fun k hk => HJ0.out k (by omega))
        have HSU : Hid (∀ k, k < L → sumK zs (agr zs q) (k + 1) = sumK zs (agr zs q) k + zs.getD ((agr zs q).getD k 0).toNat 0) := Lib.hid (fun k hk => HSU0.out k (by omega))
        have HV := HMV.out
        rw [hL] at HV hl hl3 ⊢
        have HVV := Lib.hid HV
        clear HV HMV HE0 HJ0 HSU0 hL hown hb C1 C2 C3
        go_wp2_with fail
        go_loop [7, 8] (fun s i => ∃ k : Nat, k ≤ L ∧ i = .int .i64 k ∧ s = .int .i64 (sumK zs (agr zs q) k)) (fun _ i => L - (intOf i).toNat)
        case atStart => exact ⟨0, Nat.zero_le _, rfl, by rw [HS0.out]⟩
        case round =>
          have HV := HVV.out
          clear HVV HS0
          simp only [addZ] at HE
          obtain ⟨k, hk, rfl, rfl⟩ := hrel
          by_cases hlt : k < L
          · obtain ⟨j, hj3, ej⟩ := HJ.out k hlt
            have e1 := HE.out k hlt
            rw [ej] at e1
            obtain ⟨a1, ha1, hab, ez⟩ := HI.out.at hj3
            subst ha1
            have HS : Hid (sumK zs (agr zs q) (k + 1) = sumK zs (agr zs q) k + zs.getD j 0) := Lib.hid (by
              have := HSU.out k hlt
              rw [ej] at this
              exact this)
            have hsi := HSI.out k
            have hzi := serS_getD HI.out.tri.2 j
            generalize zs.getD j 0 = z at ez HS hzi
            generalize sumK zs (agr zs q) k = s at HS hsi ⊢
            have hk0 : (0 : Int) ≤ (k : Int) := by omega
            have hk1 : (k : Int) < (L : Int) := by omega
            have hj0 : (0 : Int) ≤ (j : Int) := by omega
            have hj1 : (j : Int) < 3 := by omega
            have hs9 : s ≤ 6000 := by omega
            clear HE HJ HI HSU HSI ej
            go_wp2_with fail
            go_round
            case rel => exact ⟨k + 1, by omega, by go_num, by rw [HS.out]⟩
            case measure => simp [intOf]; omega
          · obtain rfl : k = L := by omega
            have hsi := HSI.out k
            have HR := Lib.hid HV
            generalize sumK zs (agr zs q) k = s at hsi HR ⊢
            have hL0 : ((k : Int) == 0) = false := by rw [beq_eq_false_iff_ne]; omega
            have hs9 : s ≤ 6000 := by omega
            clear HE HJ HI HSU HSI HV
            go_wp2_with fail
            refine bodyPost_ret (results_tmp2 rfl _ _ _) rfl ?_
            exact ⟨by rw [HR.out, Int.tdiv_eq_ediv_of_nonneg hsi.1]; rfl, HB.out⟩
      · obtain ⟨rfl, rfl⟩ := hA.2 (fun g => hl g.2.2)
        clear hA hn hm h ht
        go_enter Try.func24, Try.ntmps24
        go_wp2_with fail
        refine C1.out.mono ?_
        rintro e w1 ⟨rfl, rfl⟩
        go_wp2_with fail
        refine (C2.out _).mono ?_
        rintro e w1 ⟨rfl, rfl⟩
        go_wp2_with fail
        refine C3.out.mono ?_
        rintro e w1 ⟨v, rfl, ho⟩
        obtain ⟨g, cp, rfl, hg, hown, hb⟩ := ho
        have HB := Lib.hid hb
        have hl2 : ((agr zs q).length : Int) < 2 := by omega
        clear hown hb
        go_wp2_with fail
        refine bodyPost_ret (results_tmp2 rfl _ _ _) rfl ?_
        exact ⟨rfl, HB.out⟩
    · obtain ⟨rfl, rfl⟩ := hA.2 (fun g => hq g.2.1)
      rw [decide_eq_false hq] at C2
      clear hA hn hm h ht
      go_enter Try.func24, Try.ntmps24
      go_wp2_with fail
      refine C1.out.mono ?_
      rintro e w1 ⟨rfl, rfl⟩
      go_wp2_with fail
      refine (C2.out _).mono ?_
      rintro e w1 ⟨rfl, rfl⟩
      go_wp2_with fail
      refine bodyPost_ret (results_tmp2 rfl _ _ _) rfl ?_
      exact ⟨rfl, Below.refl _ _⟩
  · obtain ⟨rfl, rfl⟩ := hA.2 (fun g => ht g.1)
    rw [decide_eq_false ht] at C1
    clear hA hn hm h ht
    go_enter Try.func24, Try.ntmps24
    go_wp2_with fail
    refine C1.out.mono ?_
    rintro e w1 ⟨rfl, rfl⟩
    go_wp2_with fail
    refine bodyPost_ret (results_tmp2 rfl _ _ _) rfl ?_
    exact ⟨rfl, Below.refl _ _⟩

set_option maxRecDepth 100000 in
set_option maxHeartbeats 1000000 in
theorem votIm_any (A : Option Addr) (n c B : Nat) (zs : List Int) (q m : Int) (x : Bool) (hA : VotA zs q m x) (w : World) (hn : zs.length = n) (hm : n ≤ 1048576) (hB : B ≤ w.heap.size) (h : Has w B A (zs.map (.int .i64))) :
    Calls Try.prog 25 #[.slice A n c, .int .i64 q] w fun e w' => e = .returned (.tuple #[.int .i64 m, .bool x]) ∧ Below w.heap.size w w' := by
  by_cases ht : triS zs ∧ 0 ≤ q ∧ q ≤ 2000
  · obtain rfl : n = 3 := by rw [← hn]; exact ht.1.1
    have C3 := Lib.hid (agrIm_any A 3 c B zs q (agr zs q) true ⟨fun _ => ⟨rfl, rfl⟩, fun g => absurd ht g⟩ w hn hm hB h)
    have HI0 := Lib.hid (show IsTri w B A zs from ⟨ht.1, h, hB⟩)
    by_cases hl : 2 ≤ (agr zs q).length
    · obtain ⟨hmv, rfl⟩ := hA.1 ⟨ht.1, ht.2, hl⟩
      have HMV := Lib.hid hmv
      clear hA hn hm h ht hmv
      go_enter Try.func25, Try.ntmps25
      go_wp2_with fail
      refine C3.out.mono ?_
      rintro e w1 ⟨g, cp, rfl, hg, hown, hb⟩
      have HB := Lib.hid hb
      have HI := Lib.hid (HI0.out.below hb HI0.out.low)
      have HE0 := Lib.hid (fun k (hk : k < (agr zs q).length) => own_ints hown hk)
      have HJ0 := Lib.hid (fun k (hk : k < (agr zs q).length) => agr_at hk)
      have HSU0 := Lib.hid (fun k (hk : k < (agr zs q).length) => sumK_succ zs (agr zs q) k hk)
      have HSI := Lib.hid (fun k => sumK_in HI0.out.tri.2 (agr zs q) k)
      have hl3 := agrK_len zs q 3
      rw [show agrK zs q 3 = agr zs q from rfl] at hl3
      have HS0 : Hid (sumK zs (agr zs q) 0 = 0) := Lib.hid rfl
      obtain ⟨L, hL⟩ : ∃ k, (agr zs q).length = k := ⟨_, rfl⟩
      have HE : Hid (∀ k, k < L → w1.cell? ((⟨g, 0, none⟩ : Addr).add k) = some (.int .i64 ((agr zs q).getD k 0))) := Lib.hid (fun k hk => HE0.out k (by omega))
      have HJ : Hid (∀ k, k < L → ∃ j : Nat, j < 3 ∧ (agr zs q).getD k 0 = j) := Lib.hid (fun k hk => HJ0.out k (by omega))
      have HSU : Hid (∀ k, k < L → sumK zs (agr zs q) (k + 1) = sumK zs (agr zs q) k + zs.getD ((agr zs q).getD k 0).toNat 0) := Lib.hid (fun k hk => HSU0.out k (by omega))
      have HV := HMV.out
      rw [hL] at HV hl hl3 ⊢
      have HVV := Lib.hid HV
      clear HV HMV HE0 HJ0 HSU0 hL hown hb C3
      go_wp2_with fail
      go_loop [8, 26] (fun s i => ∃ k : Nat, k ≤ L ∧ i = .int .i64 k ∧ s = .int .i64 (sumK zs (agr zs q) k)) (fun _ i => L - (intOf i).toNat)
      case atStart => exact ⟨0, Nat.zero_le _, rfl, by rw [HS0.out]⟩
      case round =>
        have HV := HVV.out
        clear HVV HS0
        simp only [addZ] at HE
        obtain ⟨k, hk, rfl, rfl⟩ := hrel
        by_cases hlt : k < L
        · obtain ⟨j, hj3, ej⟩ := HJ.out k hlt
          have e1 := HE.out k hlt
          rw [ej] at e1
          obtain ⟨a1, ha1, hab, ez⟩ := HI.out.at hj3
          subst ha1
          have HS : Hid (sumK zs (agr zs q) (k + 1) = sumK zs (agr zs q) k + zs.getD j 0) := Lib.hid (by
            have := HSU.out k hlt
            rw [ej] at this
            exact this)
          have hsi := HSI.out k
          have hzi := serS_getD HI.out.tri.2 j
          generalize zs.getD j 0 = z at ez HS hzi
          generalize sumK zs (agr zs q) k = s at HS hsi ⊢
          have hk0 : (0 : Int) ≤ (k : Int) := by omega
          have hk1 : (k : Int) < (L : Int) := by omega
          have hj0 : (0 : Int) ≤ (j : Int) := by omega
          have hj1 : (j : Int) < 3 := by omega
          have hs9 : s ≤ 6000 := by omega
          clear HE HJ HI HSU HSI ej
          go_wp2_with fail
          go_round
          case rel => exact ⟨k + 1, by omega, by go_num, by rw [HS.out]⟩
          case measure => simp [intOf]; omega
        · obtain rfl : k = L := by omega
          have hsi := HSI.out k
          have HR := Lib.hid HV
          generalize sumK zs (agr zs q) k = s at hsi HR ⊢
          have hL0 : ((k : Int) == 0) = false := by rw [beq_eq_false_iff_ne]; omega
          have hs9 : s ≤ 6000 := by omega
          clear HE HJ HI HSU HSI HV
          go_wp2_with fail
          refine bodyPost_ret (results_tmp2 rfl _ _ _) rfl ?_
          exact ⟨by rw [HR.out, Int.tdiv_eq_ediv_of_nonneg hsi.1]; rfl, HB.out⟩
    · obtain ⟨rfl, rfl⟩ := hA.2 (fun g => hl g.2.2)
      clear hA hn hm h ht
      go_enter Try.func25, Try.ntmps25
      go_wp2_with fail
      refine C3.out.mono ?_
      rintro e w1 ⟨g, cp, rfl, hg, hown, hb⟩
      have HB := Lib.hid hb
      have hl2 : ((agr zs q).length : Int) < 2 := by omega
      clear hown hb
      go_wp2_with fail
      refine bodyPost_ret (results_tmp2 rfl _ _ _) rfl ?_
      exact ⟨rfl, HB.out⟩
  · obtain ⟨rfl, rfl⟩ := hA.2 (fun g => ht ⟨g.1, g.2.1⟩)
    have C3 := Lib.hid (agrIm_any A n c B zs q [] false ⟨fun g => absurd g ht, fun _ => ⟨rfl, rfl⟩⟩ w hn hm hB h)
    clear hA hn hm h ht
    go_enter Try.func25, Try.ntmps25
    go_wp2_with fail
    refine C3.out.mono ?_
    rintro e w1 ⟨g, cp, rfl, hg, hown, hb⟩
    have HB := Lib.hid hb
    clear hown hb
    go_wp2_with fail
    refine bodyPost_ret (results_tmp2 rfl _ _ _) rfl ?_
    exact ⟨rfl, HB.out⟩
end Go.Proofs.Yteeljlpbijmhlaa
