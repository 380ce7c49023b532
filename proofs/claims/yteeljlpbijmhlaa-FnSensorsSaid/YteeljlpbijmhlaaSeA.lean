/- Chapter 6, the model: levels, series, triples, the middle one. -/
import Derived.Test.YteeljlpbijmhlaaSeM
import Derived.Test.YteeljlpbijmhlaaRng
import Derived.Test.YteeljlpbijmhlaaInts
namespace Go.Proofs.Yteeljlpbijmhlaa
open Go.RowKit Go.PlainAid Go.Sort
set_option linter.unusedVariables false
set_option linter.unusedSimpArgs false

set_option maxHeartbeats 400000 in
theorem l1Most6_any (x y : Int) (w : World) :
    Calls Try.prog 91 #[.int .i64 x, .int .i64 y] w fun e w' => e = .returned (.int .i64 (max x y)) ∧ w = w' := by
  by_cases h : y < x
  · have e : max x y = x := by omega
    rw [e]; clear e
    go_enter Try.func91, Try.ntmps91
    go_wp2
    go_ret
    exact ⟨rfl, rfl⟩
  · have e : max x y = y := by omega
    rw [e]; clear e
    go_enter Try.func91, Try.ntmps91
    go_wp2
    go_ret
    exact ⟨rfl, rfl⟩
set_option maxHeartbeats 400000 in
theorem l1Least6_any (x y : Int) (w : World) :
    Calls Try.prog 92 #[.int .i64 x, .int .i64 y] w fun e w' => e = .returned (.int .i64 (min x y)) ∧ w = w' := by
  by_cases h : x < y
  · have e : min x y = x := by omega
    rw [e]; clear e
    go_enter Try.func92, Try.ntmps92
    go_wp2
    go_ret
    exact ⟨rfl, rfl⟩
  · have e : min x y = y := by omega
    rw [e]; clear e
    go_enter Try.func92, Try.ntmps92
    go_wp2
    go_ret
    exact ⟨rfl, rfl⟩
set_option maxHeartbeats 400000 in
theorem l6Level_any (x : Int) (w : World) : Calls Try.prog 64 #[.int .i64 x] w fun e w' => e = .returned (.bool (decide (0 ≤ x ∧ x ≤ 2000))) ∧ w = w' := by
  have C := Lib.hid (fun W => l1In_any x 0 2000 W)
  generalize decide (0 ≤ x ∧ x ≤ 2000) = b at C ⊢
  go_enter Try.func64, Try.ntmps64
  go_wp2_with fail
  refine (C.out _).mono ?_
  rintro e w1 ⟨rfl, rfl⟩
  go_wp2_with fail
  go_ret
  exact ⟨rfl, rfl⟩

set_option maxHeartbeats 1000000 in
theorem l6Series_any (A : Option Addr) (n c B : Nat) (zs : List Int) (w : World) (hn : zs.length = n) (hm : n ≤ 1048576) (h : Has w B A (zs.map (.int .i64))) :
    Calls Try.prog 73 #[.slice A n c] w fun e w' => e = .returned (.bool (decide (serS zs))) ∧ w = w' := by
  have CI := Lib.hid (fun (z : Int) W => l6Level_any z W)
  have HL := Lib.hid hn
  have H := Lib.hid h
  obtain ⟨b, hb⟩ : ∃ b, decide (serS zs) = b := ⟨_, rfl⟩
  rw [hb]
  have HN : Hid (∀ q, q < n → ¬ (0 ≤ zs.getD q 0 ∧ zs.getD q 0 ≤ 2000) → b = false) := Lib.hid (fun q hq hz => by
    rw [← hb]
    refine decide_eq_false fun hs => hz (serS_getD hs q))
  have HY : Hid ((∀ q, q < n → 0 ≤ zs.getD q 0 ∧ zs.getD q 0 ≤ 2000) → b = decide (n ≤ 20)) := Lib.hid (fun hz => by
    rw [← hb]
    refine decide_eq_decide.2 ⟨fun hs => by rw [← hn]; exact hs.2, fun h20 => ⟨fun z hz2 => ?_, by rw [hn]; exact h20⟩⟩
    obtain ⟨q, hq, rfl⟩ := List.getElem_of_mem hz2
    have := hz q (by omega)
    simpa [List.getD_eq_getElem?_getD, hq] using this)
  clear hb hn h
  go_enter Try.func73, Try.ntmps73
  go_wp2_with fail
  go_loop [3] (fun i => ∃ q : Nat, q ≤ n ∧ i = .int .i64 q ∧ Hid (∀ j, j < q → 0 ≤ zs.getD j 0 ∧ zs.getD j 0 ≤ 2000)) (fun i => n - (intOf i).toNat)
  case atStart => exact ⟨0, Nat.zero_le _, rfl, Lib.hid (fun j hj => absurd hj (by omega))⟩
  case round =>
    obtain ⟨q, hq, rfl, hall⟩ := hrel
    by_cases hlt : q < n
    · obtain ⟨a2, rfl, hab2, ez⟩ := H.out.intAt (k := q) (by rw [HL.out]; exact hlt)
      have eq1 : zs.getD q 0 = zs[q]'(by rw [HL.out]; exact hlt) := by simp [List.getD_eq_getElem?_getD, HL.out, hlt]
      rw [← eq1] at ez
      have HF2 := Lib.hid (HN.out q hlt)
      have HA2 : Hid ((0 ≤ zs.getD q 0 ∧ zs.getD q 0 ≤ 2000) → ∀ j, j < q + 1 → 0 ≤ zs.getD j 0 ∧ zs.getD j 0 ≤ 2000) := Lib.hid (fun h j hj => by
        rcases Nat.lt_succ_iff_lt_or_eq.1 hj with h1 | h1
        · exact hall.out j h1
        · subst h1; exact h)
      clear eq1
      generalize zs.getD q 0 = z at ez HF2 HA2
      have CZ := Lib.hid (fun W => CI.out z W)
      have hq0 : (0 : Int) ≤ (q : Int) := by omega
      have hq1 : (q : Int) < (n : Int) := by omega
      clear hall HN HY CI H
      by_cases hz : 0 ≤ z ∧ z ≤ 2000
      · rw [decide_eq_true hz] at CZ
        have HR := Lib.hid (HA2.out hz)
        clear HF2 HA2 hz
        go_wp2_with fail
        refine (CZ.out _).mono ?_
        rintro e w3 ⟨rfl, rfl⟩
        go_wp2_with fail
        go_round
        case rel => exact ⟨q + 1, by omega, by go_num, HR⟩
        case measure => simp [intOf]; omega
      · rw [decide_eq_false hz] at CZ
        obtain rfl : b = false := HF2.out hz
        clear HF2 HA2 hz
        go_wp2_with fail
        refine (CZ.out _).mono ?_
        rintro e w3 ⟨rfl, rfl⟩
        go_wp2_with fail
        go_ret
        exact ⟨rfl, rfl⟩
    · obtain rfl : q = n := by omega
      have HB := Lib.hid (HY.out (fun j h => hall.out j h))
      clear hall HN HY CI H
      by_cases h20 : q ≤ 20
      · have hd : decide ((q : Int) ≤ 20) = true := by simp; omega
        obtain rfl : b = true := by rw [HB.out]; exact decide_eq_true h20
        clear HB
        go_wp2_with fail
        go_ret
        exact ⟨rfl, rfl⟩
      · have hd : decide ((q : Int) ≤ 20) = false := by simp; omega
        obtain rfl : b = false := by rw [HB.out]; exact decide_eq_false h20
        clear HB
        go_wp2_with fail
        go_ret
        exact ⟨rfl, rfl⟩

set_option maxHeartbeats 1000000 in
theorem l6Triple_any (A : Option Addr) (n c B : Nat) (zs : List Int) (w : World) (hn : zs.length = n) (hm : n ≤ 1048576) (h : Has w B A (zs.map (.int .i64))) :
    Calls Try.prog 59 #[.slice A n c] w fun e w' => e = .returned (.bool (decide (triS zs))) ∧ w = w' := by
  have C := Lib.hid (fun W hW => l6Series_any A n c B zs W hn hm hW)
  have H := Lib.hid h
  by_cases h3 : n = 3
  · have e : decide (triS zs) = decide (serS zs) := decide_eq_decide.2 ⟨fun h => h.2, fun h => ⟨by omega, h⟩⟩
    rw [e]
    have hb : ((n : Int) == 3) = true := by simp; omega
    generalize decide (serS zs) = b at C ⊢
    clear hn h e
    subst h3
    go_enter Try.func59, Try.ntmps59
    go_wp2_with fail
    refine (C.out _ H.out).mono ?_
    rintro e w1 ⟨rfl, rfl⟩
    go_wp2_with fail
    go_ret
    exact ⟨rfl, rfl⟩
  · have e : decide (triS zs) = false := decide_eq_false fun h => h3 (by rw [← hn]; exact h.1)
    rw [e]
    have hb : ((n : Int) == 3) = false := by simp; omega
    clear hn h e C H
    go_enter Try.func59, Try.ntmps59
    go_wp2_with fail
    go_ret
    exact ⟨rfl, rfl⟩
end Go.Proofs.Yteeljlpbijmhlaa
