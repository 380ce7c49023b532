/- Texts that are joined: VesImpl. -/
import Derived.Test.YtliebicnejbheabGreatDoorMg03
/- Chapter 3, the program: whether a vessel is valid. -/
namespace Go.Proofs.YtliebicnejbheabGreatDoor
open Go.RowKit Go.PlainAid

set_option maxHeartbeats 400000 in
theorem isVName_any (s : ByteArray) (w : World) (hs : s.size ≤ maxLen) :
    Calls Tryz.prog 27 #[.string s] w fun e w' => e = .returned (.bool (gN s)) ∧ w = w' := by
  unfold maxLen at hs
  have C := Lib.hid (fun W => inRange_any (s.size : Int) 1 10 W)
  by_cases hz : (1 : Int) ≤ (s.size : Int) ∧ (s.size : Int) ≤ 10
  · rw [decide_eq_true hz] at C
    have HN := Lib.hid (fun (k : Nat) (hk : k < s.size) (h : ¬ (97 ≤ bt s k ∧ bt s k ≤ 122)) => gN_no (s := s) (fun g => h (g.2 k hk)))
    have HY := Lib.hid (fun (h : ∀ j, j < s.size → 97 ≤ bt s j ∧ bt s j ≤ 122) => (gN_size h).trans (decide_eq_true hz))
    generalize gN s = b at HN HY ⊢
    clear hz
    go_enter Tryz.func27, Tryz.ntmps27
    go_wp2_with fail
    refine (C.out _).mono ?_
    rintro e w1 ⟨rfl, rfl⟩
    clear C
    go_wp2_with fail
    go_loop [10] (fun i => ∃ k : Nat, k ≤ s.size ∧ i = .int .i64 k ∧ Hid (∀ j, j < k → 97 ≤ bt s j ∧ bt s j ≤ 122)) (fun i => s.size - (intOf i).toNat)
    case atStart => exact ⟨0, Nat.zero_le _, rfl, Lib.hid (by simp)⟩
    case round =>
      obtain ⟨k, hk, rfl, hall⟩ := hrel
      have c0 := bt_nonneg s k
      have c1 := bt_le s k
      have hb := get_bt s
      by_cases hlt : k < s.size
      · by_cases h1 : bt s k < 97
        · obtain rfl : b = false := HN.out k hlt (by omega)
          clear HN HY hall
          go_wp2
          go_ret
          exact ⟨rfl, rfl⟩
        · by_cases h2 : 122 < bt s k
          · obtain rfl : b = false := HN.out k hlt (by omega)
            clear HN HY hall
            go_wp2
            go_ret
            exact ⟨rfl, rfl⟩
          · have HA : Hid (∀ j, j < k + 1 → 97 ≤ bt s j ∧ bt s j ≤ 122) := Lib.hid (fun j hj => by
              rcases Nat.lt_succ_iff_lt_or_eq.1 hj with h3 | h3
              · exact hall.out j h3
              · subst h3; omega)
            clear HN HY hall
            go_wp2
            go_round
            case rel => exact ⟨k + 1, by omega, by go_num, HA⟩
            case measure => simp [intOf]; omega
      · obtain rfl : k = s.size := by omega
        obtain rfl : b = true := HY.out hall.out
        clear HN HY hall c0 c1 hb
        go_wp2
        go_ret
        exact ⟨rfl, rfl⟩
  · rw [decide_eq_false hz] at C
    have hb : gN s = false := gN_no (fun g => hz (by have := g.1; omega))
    rw [hb]
    clear hz hb
    go_enter Tryz.func27, Tryz.ntmps27
    go_wp2_with fail
    refine (C.out _).mono ?_
    rintro e w1 ⟨rfl, rfl⟩
    go_wp2_with fail
    go_ret
    exact ⟨rfl, rfl⟩

/-- The word of a kind. -/
def kindB (k : Int) : ByteArray :=
  if k = 1 then ⟨#[98, 97, 114, 103, 101]⟩ else if k = 2 then ⟨#[116, 97, 110, 107, 101, 114]⟩ else if k = 3 then ⟨#[112, 97, 115, 115, 101, 110, 103, 101, 114]⟩ else if k = 4 then ⟨#[112, 108, 101, 97, 115, 117, 114, 101]⟩ else ⟨#[]⟩

set_option maxHeartbeats 400000 in
theorem kindWord_any (k : Int) (w : World) : Calls Tryz.prog 22 #[.int .i64 k] w fun e w' => e = .returned (.string (kindB k)) ∧ w = w' := by
  unfold kindB
  by_cases h1 : k = 1
  · rw [if_pos h1]
    go_enter Tryz.func22, Tryz.ntmps22
    go_wp2
    go_ret
    exact ⟨rfl, rfl⟩
  rw [if_neg h1]
  by_cases h2 : k = 2
  · rw [if_pos h2]
    go_enter Tryz.func22, Tryz.ntmps22
    go_wp2
    go_ret
    exact ⟨rfl, rfl⟩
  rw [if_neg h2]
  by_cases h3 : k = 3
  · rw [if_pos h3]
    go_enter Tryz.func22, Tryz.ntmps22
    go_wp2
    go_ret
    exact ⟨rfl, rfl⟩
  rw [if_neg h3]
  by_cases h4 : k = 4
  · rw [if_pos h4]
    go_enter Tryz.func22, Tryz.ntmps22
    go_wp2
    go_ret
    exact ⟨rfl, rfl⟩
  rw [if_neg h4]
  go_enter Tryz.func22, Tryz.ntmps22
  go_wp2
  go_ret
  exact ⟨rfl, rfl⟩
theorem kindB_yes {k : Int} (h : decide (1 ≤ k ∧ k ≤ 4) = true) : (kindB k).toList.isEmpty = false := by
  have h' := of_decide_eq_true h
  unfold kindB
  obtain rfl | rfl | rfl | rfl : k = 1 ∨ k = 2 ∨ k = 3 ∨ k = 4 := by omega
  · rw [if_pos rfl]; decide +kernel
  · rw [if_neg (by decide), if_pos rfl]; decide +kernel
  · rw [if_neg (by decide), if_neg (by decide), if_pos rfl]; decide +kernel
  · rw [if_neg (by decide), if_neg (by decide), if_neg (by decide), if_pos rfl]; decide +kernel
theorem kindB_no {k : Int} (h : decide (1 ≤ k ∧ k ≤ 4) = false) : kindB k = ⟨#[]⟩ := by
  have h' := of_decide_eq_false h
  unfold kindB
  rw [if_neg (by omega), if_neg (by omega), if_neg (by omega), if_neg (by omega)]

set_option maxHeartbeats 800000 in
theorem implGoodV_any (i : Int) (s : ByteArray) (l b d k : Int) (w : World) (hs : s.size ≤ maxLen) :
    Calls Tryz.prog 8 #[.agg #[.int .i64 i, .string s, .int .i64 l, .int .i64 b, .int .i64 d, .int .i64 k]] w fun e w' => e = .returned (.bool (gV ⟨i, s, l, b, d, k⟩)) ∧ Below w.heap.size w w' := by
  have C1 := Lib.hid (fun W => inRange_any i 1 99 W)
  have C2 := Lib.hid (fun W => isVName_any s W hs)
  have C3 := Lib.hid (fun W => inRange_any l 1 8 W)
  have C4 := Lib.hid (fun W => inRange_any b 1 3 W)
  have C5 := Lib.hid (fun W => inRange_any d 50 500 W)
  have C6 := Lib.hid (fun W => kindWord_any k W)
  have hv := Lib.hid (gV_eq ⟨i, s, l, b, d, k⟩)
  generalize gV ⟨i, s, l, b, d, k⟩ = B at hv ⊢
  generalize decide (1 ≤ i ∧ i ≤ 99) = b1 at C1 hv
  generalize gN s = b2 at C2 hv
  generalize decide (1 ≤ l ∧ l ≤ 8) = b3 at C3 hv
  generalize decide (1 ≤ b ∧ b ≤ 3) = b4 at C4 hv
  generalize decide (50 ≤ d ∧ d ≤ 500) = b5 at C5 hv
  have HY := Lib.hid (fun h => kindB_yes (k := k) h)
  have HN := Lib.hid (fun h => kindB_no (k := k) h)
  generalize kindB k = kw at C6 HY HN
  generalize decide (1 ≤ k ∧ k ≤ 4) = b6 at HY HN hv
  go_enter Tryz.func8, Tryz.ntmps8
  go_wp2_with fail
  refine (C1.out _).mono ?_
  rintro e w1 ⟨rfl, rfl⟩
  cases b1 with
  | false =>
    obtain rfl : B = false := by have := hv.out; simpa using this
    clear hv
    go_wp2_with fail
    go_ret
    exact ⟨rfl, (Below.refl _ _).alloc (Nat.le_refl _) _⟩
  | true =>
  go_wp2_with fail
  refine (C2.out _).mono ?_
  rintro e w1 ⟨rfl, rfl⟩
  cases b2 with
  | false =>
    obtain rfl : B = false := by have := hv.out; simpa using this
    clear hv
    go_wp2_with fail
    go_ret
    exact ⟨rfl, (Below.refl _ _).alloc (Nat.le_refl _) _⟩
  | true =>
  go_wp2_with fail
  refine (C3.out _).mono ?_
  rintro e w1 ⟨rfl, rfl⟩
  cases b3 with
  | false =>
    obtain rfl : B = false := by have := hv.out; simpa using this
    clear hv
    go_wp2_with fail
    go_ret
    exact ⟨rfl, (Below.refl _ _).alloc (Nat.le_refl _) _⟩
  | true =>
  go_wp2_with fail
  refine (C4.out _).mono ?_
  rintro e w1 ⟨rfl, rfl⟩
  cases b4 with
  | false =>
    obtain rfl : B = false := by have := hv.out; simpa using this
    clear hv
    go_wp2_with fail
    go_ret
    exact ⟨rfl, (Below.refl _ _).alloc (Nat.le_refl _) _⟩
  | true =>
  go_wp2_with fail
  refine (C5.out _).mono ?_
  rintro e w1 ⟨rfl, rfl⟩
  cases b5 with
  | false =>
    obtain rfl : B = false := by have := hv.out; simpa using this
    clear hv
    go_wp2_with fail
    go_ret
    exact ⟨rfl, (Below.refl _ _).alloc (Nat.le_refl _) _⟩
  | true =>
  go_wp2_with fail
  refine (C6.out _).mono ?_
  rintro e w1 ⟨rfl, rfl⟩
  obtain rfl : B = b6 := by have := hv.out; simpa using this
  cases B with
  | false =>
    obtain rfl : kw = ⟨#[]⟩ := HN.out rfl
    clear hv HY HN
    go_wp2_with fail
    go_ret
    exact ⟨rfl, (Below.refl _ _).alloc (Nat.le_refl _) _⟩
  | true =>
    have hne : kw.toList.isEmpty = false := HY.out rfl
    clear hv HY HN
    go_wp2_with fail
    go_ret
    exact ⟨rfl, (Below.refl _ _).alloc (Nat.le_refl _) _⟩
end Go.Proofs.YtliebicnejbheabGreatDoor
