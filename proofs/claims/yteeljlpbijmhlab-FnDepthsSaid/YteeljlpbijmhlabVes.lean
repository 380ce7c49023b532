/- Chapter 3: a vessel as a value; whether it is valid, the model and the program. -/
import Derived.Test.YteeljlpbijmhlabRng
namespace Go.Proofs.Yteeljlpbijmhlab
open Go.RowKit Go.PlainAid

/-- A vessel: its Id, its name, its length, its width, its draught, its kind. -/
structure Ves where
  id : Int
  name : ByteArray
  len : Int
  wid : Int
  dr : Int
  kind : Int
/-- A name: one to ten letters. -/
def goodN (s : ByteArray) : Prop := (1 ≤ s.size ∧ s.size ≤ 10) ∧ ∀ j, j < s.size → 97 ≤ bt s j ∧ bt s j ≤ 122
/-- A valid vessel. -/
def goodV (v : Ves) : Prop := (1 ≤ v.id ∧ v.id ≤ 99) ∧ goodN v.name ∧ (1 ≤ v.len ∧ v.len ≤ 8) ∧ (1 ≤ v.wid ∧ v.wid ≤ 3) ∧ (50 ≤ v.dr ∧ v.dr ≤ 500) ∧ (1 ≤ v.kind ∧ v.kind ≤ 4)
noncomputable instance decN (s : ByteArray) : Decidable (goodN s) := Classical.propDecidable _
noncomputable instance decV (v : Ves) : Decidable (goodV v) := Classical.propDecidable _
/-- As a truth value. -/
noncomputable def gN (s : ByteArray) : Bool := decide (goodN s)
noncomputable def gV (v : Ves) : Bool := decide (goodV v)
theorem gN_yes {s : ByteArray} (h : goodN s) : gN s = true := decide_eq_true h
theorem gN_no {s : ByteArray} (h : ¬ goodN s) : gN s = false := decide_eq_false h
theorem gV_yes {v : Ves} (h : goodV v) : gV v = true := decide_eq_true h
theorem gV_no {v : Ves} (h : ¬ goodV v) : gV v = false := decide_eq_false h
theorem gV_iff (v : Ves) : gV v = true ↔ goodV v := decide_eq_true_iff
theorem gN_iff (s : ByteArray) : gN s = true ↔ goodN s := decide_eq_true_iff
theorem gV_eq (v : Ves) : gV v = (decide (1 ≤ v.id ∧ v.id ≤ 99) && (gN v.name && (decide (1 ≤ v.len ∧ v.len ≤ 8) && (decide (1 ≤ v.wid ∧ v.wid ≤ 3) && (decide (50 ≤ v.dr ∧ v.dr ≤ 500) && decide (1 ≤ v.kind ∧ v.kind ≤ 4)))))) := by
  rw [Bool.eq_iff_iff, gV_iff]
  simp only [Bool.and_eq_true, decide_eq_true_eq, gN_iff]
  exact Iff.rfl
theorem gN_size {s : ByteArray} (h : ∀ j, j < s.size → 97 ≤ bt s j ∧ bt s j ≤ 122) : gN s = decide (1 ≤ (s.size : Int) ∧ (s.size : Int) ≤ 10) := by
  rw [Bool.eq_iff_iff, gN_iff, decide_eq_true_iff]
  constructor
  · rintro ⟨a, -⟩
    omega
  · intro a
    exact ⟨by omega, h⟩

set_option maxHeartbeats 400000 in
theorem l3Name_any (s : ByteArray) (w : World) (hs : s.size ≤ maxLen) :
    Calls Try.prog 137 #[.string s] w fun e w' => e = .returned (.bool (gN s)) ∧ w = w' := by
  unfold maxLen at hs
  have C := Lib.hid (fun W => l1In_any (s.size : Int) 1 10 W)
  have HN := Lib.hid (fun (k : Nat) (hk : k < s.size) (h : ¬ (97 ≤ bt s k ∧ bt s k ≤ 122)) => gN_no (s := s) (fun g => h (g.2 k hk)))
  have HY := Lib.hid (fun (h : ∀ j, j < s.size → 97 ≤ bt s j ∧ bt s j ≤ 122) => gN_size h)
  generalize gN s = b at HN HY ⊢
  go_enter Try.func137, Try.ntmps137
  go_wp2
  go_loop [3] (fun i => ∃ k : Nat, k ≤ s.size ∧ i = .int .i64 k ∧ Hid (∀ j, j < k → 97 ≤ bt s j ∧ bt s j ≤ 122)) (fun i => s.size - (intOf i).toNat)
  case atStart => exact ⟨0, Nat.zero_le _, rfl, Lib.hid (by simp)⟩
  case round =>
    obtain ⟨k, hk, rfl, hall⟩ := hrel
    have c0 := bt_nonneg s k
    have c1 := bt_le s k
    have hb := get_bt s
    by_cases hlt : k < s.size
    · by_cases h1 : bt s k < 97
      · obtain rfl : b = false := HN.out k hlt (by omega)
        clear HN HY C hall
        go_wp2
        go_ret
        exact ⟨rfl, rfl⟩
      · by_cases h2 : 122 < bt s k
        · obtain rfl : b = false := HN.out k hlt (by omega)
          clear HN HY C hall
          go_wp2
          go_ret
          exact ⟨rfl, rfl⟩
        · have HA : Hid (∀ j, j < k + 1 → 97 ≤ bt s j ∧ bt s j ≤ 122) := Lib.hid (fun j hj => by
            rcases Nat.lt_succ_iff_lt_or_eq.1 hj with h3 | h3
            · exact hall.out j h3
            · subst h3; omega)
          clear HN HY C hall
          go_wp2
          go_round
          case rel => exact ⟨k + 1, by omega, by go_num, HA⟩
          case measure => simp [intOf]; omega
    · obtain rfl : k = s.size := by omega
      rw [← HY.out hall.out] at C
      clear HN HY hall c0 c1 hb hlt
      go_wp2_with fail
      refine (C.out _).mono ?_
      rintro e w1 ⟨rfl, rfl⟩
      go_wp2_with fail
      go_ret
      exact ⟨rfl, rfl⟩

set_option maxHeartbeats 800000 in
theorem l3Good_any (i : Int) (s : ByteArray) (l b d k : Int) (w : World) (hs : s.size ≤ maxLen) :
    Calls Try.prog 114 #[.agg #[.int .i64 i, .string s, .int .i64 l, .int .i64 b, .int .i64 d, .int .i64 k]] w fun e w' => e = .returned (.bool (gV ⟨i, s, l, b, d, k⟩)) ∧ Below w.heap.size w w' := by
  have C1 := Lib.hid (fun W => l1In_any i 1 99 W)
  have C2 := Lib.hid (fun W => l3Name_any s W hs)
  have C3 := Lib.hid (fun W => l1In_any l 1 8 W)
  have C4 := Lib.hid (fun W => l1In_any b 1 3 W)
  have C5 := Lib.hid (fun W => l1In_any d 50 500 W)
  have C6 := Lib.hid (fun W => l1In_any k 1 4 W)
  have hv := Lib.hid (gV_eq ⟨i, s, l, b, d, k⟩)
  generalize gV ⟨i, s, l, b, d, k⟩ = B at hv ⊢
  generalize decide (1 ≤ i ∧ i ≤ 99) = b1 at C1 hv
  generalize gN s = b2 at C2 hv
  generalize decide (1 ≤ l ∧ l ≤ 8) = b3 at C3 hv
  generalize decide (1 ≤ b ∧ b ≤ 3) = b4 at C4 hv
  generalize decide (50 ≤ d ∧ d ≤ 500) = b5 at C5 hv
  generalize decide (1 ≤ k ∧ k ≤ 4) = b6 at C6 hv
  go_enter Try.func114, Try.ntmps114
  go_wp2_with fail
  refine (C1.out _).mono ?_
  rintro e w1 ⟨rfl, rfl⟩
  cases b1 with
  | false =>
    obtain rfl : B = false := by have := hv.out; simpa using this
    clear hv
    go_wp2_with fail
    go_ret
    exact ⟨rfl, (Below.refl _ _).alloc (Nat.le_refl _) _⟩
  | true =>
  go_wp2_with fail
  refine (C2.out _).mono ?_
  rintro e w1 ⟨rfl, rfl⟩
  cases b2 with
  | false =>
    obtain rfl : B = false := by have := hv.out; simpa using this
    clear hv
    go_wp2_with fail
    go_ret
    exact ⟨rfl, (Below.refl _ _).alloc (Nat.le_refl _) _⟩
  | true =>
  go_wp2_with fail
  refine (C3.out _).mono ?_
  rintro e w1 ⟨rfl, rfl⟩
  cases b3 with
  | false =>
    obtain rfl : B = false := by have := hv.out; simpa using this
    clear hv
    go_wp2_with fail
    go_ret
    exact ⟨rfl, (Below.refl _ _).alloc (Nat.le_refl _) _⟩
  | true =>
  go_wp2_with fail
  refine (C4.out _).mono ?_
  rintro e w1 ⟨rfl, rfl⟩
  cases b4 with
  | false =>
    obtain rfl : B = false := by have := hv.out; simpa using this
    clear hv
    go_wp2_with fail
    go_ret
    exact ⟨rfl, (Below.refl _ _).alloc (Nat.le_refl _) _⟩
  | true =>
  go_wp2_with fail
  refine (C5.out _).mono ?_
  rintro e w1 ⟨rfl, rfl⟩
  cases b5 with
  | false =>
    obtain rfl : B = false := by have := hv.out; simpa using this
    clear hv
    go_wp2_with fail
    go_ret
    exact ⟨rfl, (Below.refl _ _).alloc (Nat.le_refl _) _⟩
  | true =>
  go_wp2_with fail
  refine (C6.out _).mono ?_
  rintro e w1 ⟨rfl, rfl⟩
  obtain rfl : B = b6 := by have := hv.out; simpa using this
  go_wp2_with fail
  go_ret
  exact ⟨rfl, (Below.refl _ _).alloc (Nat.le_refl _) _⟩
end Go.Proofs.Yteeljlpbijmhlab
