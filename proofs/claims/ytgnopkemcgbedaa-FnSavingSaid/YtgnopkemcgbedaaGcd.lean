/- The greatest common divisor and a fraction in lowest terms: the program. -/
import Derived.Test.YtgnopkemcgbedaaMem
import Derived.Lib.Hide
import Derived.Lib.QuietBelow
namespace Go.Proofs.Ytgnopkemcgbedaa
open Go.RowKit Go.PlainAid

theorem gcd_turn (x y : Nat) : Nat.gcd y (x % y) = Nat.gcd x y := by
  rw [Nat.gcd_comm x y, Nat.gcd_rec y x, Nat.gcd_comm]

set_option maxHeartbeats 1000000 in
theorem greatest_any (a b : Nat) (ha : (a : Int) ≤ 1000000000000000) (hb : (b : Int) ≤ 1000000000000000) (w : World) :
    Calls Try.prog 84 #[.int .i64 a, .int .i64 b] w fun e w' => e = .returned (.int .i64 ((Nat.gcd a b : Nat) : Int)) ∧ Drawn w w' := by
  obtain ⟨d, hd⟩ : ∃ d, Nat.gcd a b = d := ⟨_, rfl⟩
  rw [hd]
  have HD := Lib.hid hd
  clear hd
  go_enter Try.func84, Try.ntmps84
  go_wp2_with fail
  go_loopw [0, 1] (fun p q wr => ∃ x y : Nat, p = .int .i64 x ∧ q = .int .i64 y ∧ (x : Int) ≤ 1000000000000000 ∧ (y : Int) ≤ 1000000000000000 ∧ Hid (Nat.gcd x y = d) ∧ Drawn w wr) (fun _ q _ => (intOf q).toNat)
  case atStart => exact ⟨a, b, rfl, rfl, ha, hb, HD, Drawn.refl _⟩
  case round =>
    obtain ⟨x, y, rfl, rfl, hx, hy, hg, hD⟩ := hrel
    have hx0 : (0 : Int) ≤ (x : Int) := by omega
    have hy0 : (0 : Int) ≤ (y : Int) := by omega
    by_cases h0 : y = 0
    · subst h0
      have hxd : x = d := by have := hg.out; simpa using this
      subst hxd
      clear hg HD
      go_wp2_with fail
      go_ret
      exact ⟨rfl, hD⟩
    · have HG : Hid (Nat.gcd y (x % y) = d) := Lib.hid (by rw [gcd_turn]; exact hg.out)
      have hlt : x % y < y := Nat.mod_lt _ (by omega)
      have hne : ((y : Int) != 0) = true := by simp; omega
      have hy1 : (0 : Int) < (y : Int) := by omega
      have hyn : (y : Int) ≠ 0 := by omega
      clear hg HD
      go_wp2_with fail
      go_quiet (fail)
      go_wp2_with fail
      exact ⟨⟨y, x % y, rfl, by rw [Int.natCast_emod], hy, by omega, HG, hD.step _⟩, by simp [intOf]; omega⟩

set_option maxHeartbeats 1000000 in
theorem lowest_any (a b : Nat) (ha : (a : Int) ≤ 1000000000000000) (hb : (b : Int) ≤ 1000000000000000) (hb0 : 1 ≤ b) (w : World) :
    Calls Try.prog 67 #[.int .i64 a, .int .i64 b] w fun e w' => e = .returned (.tuple #[.int .i64 ((a / Nat.gcd a b : Nat) : Int), .int .i64 ((b / Nat.gcd a b : Nat) : Int)]) ∧ Drawn w w' := by
  have HG := Lib.hid (fun W => greatest_any a b ha hb W)
  have hg : 0 < Nat.gcd a b := Nat.gcd_pos_of_pos_right _ (by omega)
  generalize Nat.gcd a b = g at hg HG ⊢
  go_enter Try.func67, Try.ntmps67
  go_wp2_with fail
  refine (HG.out _).mono ?_
  rintro e w1 ⟨rfl, hD⟩
  have g0 : (0 : Int) < (g : Int) := by omega
  have g1 : (g : Int) ≠ 0 := by omega
  have a0 : (0 : Int) ≤ (a : Int) := by omega
  have b0 : (0 : Int) ≤ (b : Int) := by omega
  have q1 : (0 : Int) ≤ (a : Int) / (g : Int) ∧ (a : Int) / (g : Int) ≤ 1000000000000000 := by
    have h : ((a / g : Nat) : Int) ≤ (a : Int) := Int.ofNat_le.2 (Nat.div_le_self a g)
    have h0 : (0 : Int) ≤ ((a / g : Nat) : Int) := Int.natCast_nonneg _
    rw [Int.natCast_ediv] at h h0
    omega
  have q2 : (0 : Int) ≤ (b : Int) / (g : Int) ∧ (b : Int) / (g : Int) ≤ 1000000000000000 := by
    have h : ((b / g : Nat) : Int) ≤ (b : Int) := Int.ofNat_le.2 (Nat.div_le_self b g)
    have h0 : (0 : Int) ≤ ((b / g : Nat) : Int) := Int.natCast_nonneg _
    rw [Int.natCast_ediv] at h h0
    omega
  obtain ⟨q11, q12⟩ := q1
  obtain ⟨q21, q22⟩ := q2
  clear HG ha hb
  go_wp2_with fail
  go_quiet (fail)
  go_wp2_with fail
  refine bodyPost_ret (results_tmp2 rfl _ _ _) rfl ?_
  exact ⟨by rw [Int.natCast_ediv, Int.natCast_ediv]; rfl, hD.step _⟩
end Go.Proofs.Ytgnopkemcgbedaa
