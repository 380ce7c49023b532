/- Chapter 2: the greatest common divisor, and one step of the sum of fractions. -/
import Derived.Test.YtgnopkemcgbedabWayLow
import Derived.Test.YtgnopkemcgbedabGcd
namespace Go.Proofs.Ytgnopkemcgbedab
open Go.RowKit Go.PlainAid

set_option maxHeartbeats 1000000 in
theorem l2Common_any (a b : Nat) (ha : (a : Int) ≤ 1000000000000000) (hb : (b : Int) ≤ 1000000000000000) (w : World) :
    Calls Try.prog 62 #[.int .i64 a, .int .i64 b] w fun e w' => e = .returned (.int .i64 ((Nat.gcd a b : Nat) : Int)) ∧ w = w' := by
  obtain ⟨d, hd⟩ : ∃ d, Nat.gcd a b = d := ⟨_, rfl⟩
  rw [hd]
  have HD := Lib.hid hd
  clear hd
  go_enter Try.func62, Try.ntmps62
  go_wp2_with fail
  go_loop [0, 1] (fun p q => ∃ x y : Nat, p = .int .i64 x ∧ q = .int .i64 y ∧ (x : Int) ≤ 1000000000000000 ∧ (y : Int) ≤ 1000000000000000 ∧ Hid (Nat.gcd x y = d)) (fun _ q => (intOf q).toNat)
  case atStart => exact ⟨a, b, rfl, rfl, ha, hb, HD⟩
  case round =>
    obtain ⟨x, y, rfl, rfl, hx, hy, hg⟩ := hrel
    have hx0 : (0 : Int) ≤ (x : Int) := by omega
    have hy0 : (0 : Int) ≤ (y : Int) := by omega
    by_cases h0 : (0 : Int) < (y : Int)
    · have HG : Hid (Nat.gcd y (x % y) = d) := Lib.hid (by rw [gcd_turn]; exact hg.out)
      have hlt : x % y < y := Nat.mod_lt _ (by omega)
      clear hg HD
      go_wp2_with fail
      exact ⟨⟨y, x % y, rfl, by rw [Int.natCast_emod], hy, by omega, HG⟩, by simp [intOf]; omega⟩
    · obtain rfl : y = 0 := by omega
      have hxd : x = d := by have := hg.out; simpa using this
      subst hxd
      clear hg HD
      go_wp2_with fail
      go_ret
      exact ⟨rfl, rfl⟩

/-- One more reach: the time in it, P kilometers with speed V, added to a fraction. -/
def frS (V P : Nat) (q : Nat × Nat) : Nat × Nat := ((q.1 * V + 60 * P * q.2) / Nat.gcd (q.1 * V + 60 * P * q.2) (q.2 * V), (q.2 * V) / Nat.gcd (q.1 * V + 60 * P * q.2) (q.2 * V))

set_option maxHeartbeats 1000000 in
theorem addFr_any (N D P V : Nat) (hN : N ≤ 100000000000) (hD : 1 ≤ D) (hD2 : D ≤ 3200000) (hP : P ≤ 100) (hV : 1 ≤ V) (hV2 : V ≤ 20) (w : World) :
    Calls Try.prog 58 #[.int .i64 N, .int .i64 D, .int .i64 ((60 * P : Nat) : Int), .int .i64 V] w fun e w' =>
      e = .returned (.tuple #[.int .i64 ((frS V P (N, D)).1 : Int), .int .i64 ((frS V P (N, D)).2 : Int)]) ∧ Drawn w w' := by
  obtain ⟨a, ha⟩ : ∃ a, N * V + 60 * P * D = a := ⟨_, rfl⟩
  obtain ⟨b, hb⟩ : ∃ b, D * V = b := ⟨_, rfl⟩
  have ha1 : a ≤ 3000000000000 := by
    have h1 : N * V ≤ 100000000000 * 20 := Nat.mul_le_mul hN hV2
    have h2 : 60 * P * D ≤ 6000 * 3200000 := Nat.mul_le_mul (by omega) hD2
    omega
  have hb1 : b ≤ 64000000 := by rw [← hb]; exact Nat.mul_le_mul hD2 hV2
  have hb0 : 1 ≤ b := by rw [← hb]; exact Nat.mul_le_mul hD hV
  have HG := Lib.hid (fun W => lowest_any a b (by omega) (by omega) hb0 W)
  have e1 : Hid ((frS V P (N, D)).1 = a / Nat.gcd a b) := Lib.hid (by simp only [frS, ha, hb])
  have e2 : Hid ((frS V P (N, D)).2 = b / Nat.gcd a b) := Lib.hid (by simp only [frS, ha, hb])
  rw [← e1.out, ← e2.out] at HG
  clear e1 e2
  generalize (frS V P (N, D)).1 = u1 at HG ⊢
  generalize (frS V P (N, D)).2 = u2 at HG ⊢
  have i1 : (N : Int) * (V : Int) + ((60 * P : Nat) : Int) * (D : Int) = (a : Int) := by rw [← ha]; push_cast; rfl
  have i2 : (D : Int) * (V : Int) = (b : Int) := by rw [← hb]; push_cast; rfl
  have j1 : (0 : Int) ≤ (N : Int) * (V : Int) ∧ (N : Int) * (V : Int) ≤ 2000000000000 := by
    have : N * V ≤ 100000000000 * 20 := Nat.mul_le_mul hN hV2
    have h' : ((N * V : Nat) : Int) = (N : Int) * (V : Int) := by push_cast; rfl
    omega
  have j2 : (0 : Int) ≤ ((60 * P : Nat) : Int) * (D : Int) ∧ ((60 * P : Nat) : Int) * (D : Int) ≤ 20000000000 := by
    have : (60 * P) * D ≤ 6000 * 3200000 := Nat.mul_le_mul (by omega) hD2
    have h' : (((60 * P) * D : Nat) : Int) = ((60 * P : Nat) : Int) * (D : Int) := by push_cast; rfl
    omega
  have j3 : (0 : Int) ≤ (D : Int) * (V : Int) ∧ (D : Int) * (V : Int) ≤ 64000000 := by rw [i2]; omega
  generalize ((60 * P : Nat) : Int) = c at *
  have I1 := Lib.hid i1
  have I2 := Lib.hid i2
  clear ha hb hN hP hV hV2 hD hD2 i1 i2
  go_enter Try.func58, Try.ntmps58
  go_wp2_with fail
  rw [I1.out, I2.out]
  refine (HG.out _).mono ?_
  rintro e w1 ⟨rfl, hD⟩
  clear j1 j2 j3 HG
  go_wp2_with fail
  refine bodyPost_ret (results_tmp2 rfl _ _ _) rfl ?_
  exact ⟨rfl, hD⟩
end Go.Proofs.Ytgnopkemcgbedab
