/- Chapter 2: the greatest common divisor, and one step of the sum of fractions. -/
import Derived.Test.YtkdolpgnaabdaabWayLow
namespace Go.Proofs.Ytkdolpgnaabdaab
open Go.RowKit Go.PlainAid

theorem gcd_turn (x y : Nat) : Nat.gcd y (x % y) = Nat.gcd x y := by
  rw [Nat.gcd_comm x y, Nat.gcd_rec y x, Nat.gcd_comm]

set_option maxHeartbeats 1000000 in
theorem l2Common_any (a b : Nat) (ha : (a : Int) ≤ 1000000000000000) (hb : (b : Int) ≤ 1000000000000000) (w : World) :
    Calls Try.prog 49 #[.int .i64 a, .int .i64 b] w fun e w' => e = .returned (.int .i64 ((Nat.gcd a b : Nat) : Int)) ∧ w = w' := by
  obtain ⟨d, hd⟩ : ∃ d, Nat.gcd a b = d := ⟨_, rfl⟩
  rw [hd]
  have HD := Lib.hid hd
  clear hd
  go_enter Try.func49, Try.ntmps49
  go_wp2_with fail
  go_loop [0, 1] (fun p q => ∃ x y : Nat, p = .int .i64 x ∧ q = .int .i64 y ∧ (x : Int) ≤ 1000000000000000 ∧ (y : Int) ≤ 1000000000000000 ∧ Hid (Nat.gcd x y = d)) (fun _ q => (intOf q).toNat)
  case atStart => exact ⟨a, b, rfl, rfl, ha, hb, HD⟩
  case round =>
    obtain ⟨x, y, rfl, rfl, hx, hy, hg⟩ := hrel
    have hx0 : (0 : Int) ≤ (x : Int) := by omega
    have hy0 : (0 : Int) ≤ (y : Int) := by omega
    by_cases h0 : (0 : Int) < (y : Int)
    · have HG : Hid (Nat.gcd y (x % y) = d) := Lib.hid (by rw [gcd_turn]; exact hg.out)
      have hlt : x % y < y := Nat.mod_lt _ (by omega)
      clear hg HD
      go_wp2_with fail
      exact ⟨⟨y, x % y, rfl, by rw [Int.natCast_emod], hy, by omega, HG⟩, by simp [intOf]; omega⟩
    · obtain rfl : y = 0 := by omega
      have hxd : x = d := by have := hg.out; simpa using this
      subst hxd
      clear hg HD
      go_wp2_with fail
      go_ret
      exact ⟨rfl, rfl⟩

set_option maxHeartbeats 1000000 in
theorem greatest_any (a b : Nat) (ha : (a : Int) ≤ 1000000000000000) (hb : (b : Int) ≤ 1000000000000000) (w : World) :
    Calls Try.prog 83 #[.int .i64 a, .int .i64 b] w fun e w' => e = .returned (.int .i64 ((Nat.gcd a b : Nat) : Int)) ∧ Drawn w w' := by
  obtain ⟨d, hd⟩ : ∃ d, Nat.gcd a b = d := ⟨_, rfl⟩
  rw [hd]
  have HD := Lib.hid hd
  clear hd
  go_enter Try.func83, Try.ntmps83
  go_wp2_with fail
  go_loopw [0, 1] (fun p q wr => ∃ x y : Nat, p = .int .i64 x ∧ q = .int .i64 y ∧ (x : Int) ≤ 1000000000000000 ∧ (y : Int) ≤ 1000000000000000 ∧ Hid (Nat.gcd x y = d) ∧ Drawn w wr) (fun _ q _ => (intOf q).toNat)
  case atStart => exact ⟨a, b, rfl, rfl, ha, hb, HD, Drawn.refl _⟩
  case round =>
    obtain ⟨x, y, rfl, rfl, hx, hy, hg, hD⟩ := hrel
    have hx0 : (0 : Int) ≤ (x : Int) := by omega
    have hy0 : (0 : Int) ≤ (y : Int) := by omega
    by_cases h0 : y = 0
    · subst h0
      have hxd : x = d := by have := hg.out; simpa using this
      subst hxd
      clear hg HD
      go_wp2_with fail
      go_ret
      exact ⟨rfl, hD⟩
    · have HG : Hid (Nat.gcd y (x % y) = d) := Lib.hid (by rw [gcd_turn]; exact hg.out)
      have hlt : x % y < y := Nat.mod_lt _ (by omega)
      have hne : ((y : Int) != 0) = true := by simp; omega
      have hy1 : (0 : Int) < (y : Int) := by omega
      have hyn : (y : Int) ≠ 0 := by omega
      clear hg HD
      go_wp2_with fail
      go_quiet (fail)
      go_wp2_with fail
      exact ⟨⟨y, x % y, rfl, by rw [Int.natCast_emod], hy, by omega, HG, hD.step _⟩, by simp [intOf]; omega⟩

/-- One more reach: the time in it, P kilometers with speed V, added to a fraction. -/
def frS (V P : Nat) (q : Nat × Nat) : Nat × Nat := ((q.1 * V + 60 * P * q.2) / Nat.gcd (q.1 * V + 60 * P * q.2) (q.2 * V), (q.2 * V) / Nat.gcd (q.1 * V + 60 * P * q.2) (q.2 * V))

set_option maxHeartbeats 1000000 in
theorem addFr_any (N D P V : Nat) (hN : N ≤ 100000000000) (hD : 1 ≤ D) (hD2 : D ≤ 3200000) (hP : P ≤ 100) (hV : 1 ≤ V) (hV2 : V ≤ 20) (w : World) :
    Calls Try.prog 45 #[.int .i64 N, .int .i64 D, .int .i64 ((60 * P : Nat) : Int), .int .i64 V] w fun e w' =>
      e = .returned (.tuple #[.int .i64 ((frS V P (N, D)).1 : Int), .int .i64 ((frS V P (N, D)).2 : Int)]) ∧ Drawn w w' := by
  obtain ⟨a, ha⟩ : ∃ a, N * V + 60 * P * D = a := ⟨_, rfl⟩
  obtain ⟨b, hb⟩ : ∃ b, D * V = b := ⟨_, rfl⟩
  have ha1 : a ≤ 3000000000000 := by
    have h1 : N * V ≤ 100000000000 * 20 := Nat.mul_le_mul hN hV2
    have h2 : 60 * P * D ≤ 6000 * 3200000 := Nat.mul_le_mul (by omega) hD2
    omega
  have hb1 : b ≤ 64000000 := by rw [← hb]; exact Nat.mul_le_mul hD2 hV2
  have hb0 : 1 ≤ b := by rw [← hb]; exact Nat.mul_le_mul hD hV
  have hg : 0 < Nat.gcd a b := Nat.gcd_pos_of_pos_right _ (by omega)
  have hgb : Nat.gcd a b ≤ b := Nat.le_of_dvd (by omega) (Nat.gcd_dvd_right a b)
  have HG := Lib.hid (fun W => greatest_any a b (by omega) (by omega) W)
  have e1 : Hid ((frS V P (N, D)).1 = a / Nat.gcd a b) := Lib.hid (by simp only [frS, ha, hb])
  have e2 : Hid ((frS V P (N, D)).2 = b / Nat.gcd a b) := Lib.hid (by simp only [frS, ha, hb])
  generalize (frS V P (N, D)).1 = u1 at e1 ⊢
  generalize (frS V P (N, D)).2 = u2 at e2 ⊢
  generalize Nat.gcd a b = g at hg hgb HG e1 e2
  have i1 : (N : Int) * (V : Int) + ((60 * P : Nat) : Int) * (D : Int) = (a : Int) := by rw [← ha]; push_cast; rfl
  have i2 : (D : Int) * (V : Int) = (b : Int) := by rw [← hb]; push_cast; rfl
  have j1 : (0 : Int) ≤ (N : Int) * (V : Int) ∧ (N : Int) * (V : Int) ≤ 2000000000000 := by
    have : N * V ≤ 100000000000 * 20 := Nat.mul_le_mul hN hV2
    have h' : ((N * V : Nat) : Int) = (N : Int) * (V : Int) := by push_cast; rfl
    omega
  have j2 : (0 : Int) ≤ ((60 * P : Nat) : Int) * (D : Int) ∧ ((60 * P : Nat) : Int) * (D : Int) ≤ 20000000000 := by
    have : (60 * P) * D ≤ 6000 * 3200000 := Nat.mul_le_mul (by omega) hD2
    have h' : (((60 * P) * D : Nat) : Int) = ((60 * P : Nat) : Int) * (D : Int) := by push_cast; rfl
    omega
  have j3 : (0 : Int) ≤ (D : Int) * (V : Int) ∧ (D : Int) * (V : Int) ≤ 64000000 := by rw [i2]; omega
  generalize ((60 * P : Nat) : Int) = c at *
  have I1 := Lib.hid i1
  have I2 := Lib.hid i2
  clear ha hb hN hP hV hV2 hD hD2 i1 i2
  go_enter Try.func45, Try.ntmps45
  go_wp2_with fail
  rw [I1.out, I2.out]
  refine (HG.out _).mono ?_
  rintro e w1 ⟨rfl, hD⟩
  have g0 : (0 : Int) < (g : Int) := by omega
  have g1 : (g : Int) ≠ 0 := by omega
  have a0 : (0 : Int) ≤ (a : Int) := by omega
  have b0 : (0 : Int) ≤ (b : Int) := by omega
  have q1 : (0 : Int) ≤ (a : Int) / (g : Int) ∧ (a : Int) / (g : Int) ≤ 3000000000000 := by
    have h : ((a / g : Nat) : Int) ≤ (a : Int) := Int.ofNat_le.2 (Nat.div_le_self a g)
    have h0 : (0 : Int) ≤ ((a / g : Nat) : Int) := Int.natCast_nonneg _
    rw [Int.natCast_ediv] at h h0
    omega
  have q2 : (0 : Int) ≤ (b : Int) / (g : Int) ∧ (b : Int) / (g : Int) ≤ 64000000 := by
    have h : ((b / g : Nat) : Int) ≤ (b : Int) := Int.ofNat_le.2 (Nat.div_le_self b g)
    have h0 : (0 : Int) ≤ ((b / g : Nat) : Int) := Int.natCast_nonneg _
    rw [Int.natCast_ediv] at h h0
    omega
  obtain ⟨q11, q12⟩ := q1
  obtain ⟨q21, q22⟩ := q2
  clear j1 j2 j3 HG
  go_wp2_with fail
  go_quiet (fail)
  go_wp2_with fail
  refine bodyPost_ret (results_tmp2 rfl _ _ _) rfl ?_
  exact ⟨by rw [e1.out, e2.out, Int.natCast_ediv, Int.natCast_ediv]; rfl, hD.step _⟩
end Go.Proofs.Ytkdolpgnaabdaab
