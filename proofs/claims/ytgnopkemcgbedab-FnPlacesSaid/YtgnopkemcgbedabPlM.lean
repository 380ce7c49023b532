/- Chapter 2: the locks on the way back; minutes add up; the level at the start: what FnPlaces compares. -/
import Derived.Test.YtgnopkemcgbedabWayLks
import Derived.Test.YtgnopkemcgbedabWayLow
import Derived.Test.YtgnopkemcgbedabWayLev
import Derived.Test.YtgnopkemcgbedabWayRch
namespace Go.Proofs.Ytgnopkemcgbedab
open Go.RowKit Go.PlainAid Go.Sort
set_option linter.unusedVariables false
set_option linter.unusedSimpArgs false

theorem frS_mul (V P N D : Nat) (hV : 1 ≤ V) (hD : 1 ≤ D) : ∃ g : Nat, 0 < g ∧ (frS V P (N, D)).1 * g = N * V + 60 * P * D ∧ (frS V P (N, D)).2 * g = D * V := by
  refine ⟨Nat.gcd (N * V + 60 * P * D) (D * V), Nat.gcd_pos_of_pos_right _ (Nat.mul_pos hD hV), ?_, ?_⟩
  · exact Nat.div_mul_cancel (Nat.gcd_dvd_left _ _)
  · exact Nat.div_mul_cancel (Nat.gcd_dvd_right _ _)
theorem fr_ring (a1 a2 b1 b2 c1 c2 g1 g2 g3 N1 D1 N2 D2 N D V P1 P2 : Int)
    (e1 : a1 * g1 = N1 * V + 60 * P1 * D1) (e2 : a2 * g1 = D1 * V) (e3 : b1 * g2 = N2 * V + 60 * P2 * D2) (e4 : b2 * g2 = D2 * V) (e5 : c1 * g3 = N * V + 60 * (P1 + P2) * D) (e6 : c2 * g3 = D * V)
    (hI : (N1 * D2 + N2 * D1) * D = N * D1 * D2) : ((a1 * b2 + b1 * a2) * c2) * (g1 * g2 * g3) = (c1 * a2 * b2) * (g1 * g2 * g3) := by
  have l : ((a1 * b2 + b1 * a2) * c2) * (g1 * g2 * g3) = ((a1 * g1) * (b2 * g2) + (b1 * g2) * (a2 * g1)) * (c2 * g3) := by grind
  have r : (c1 * a2 * b2) * (g1 * g2 * g3) = (c1 * g3) * (a2 * g1) * (b2 * g2) := by grind
  rw [l, r, e1, e2, e3, e4, e5, e6]
  have k : ((N1 * D2 + N2 * D1) * D) * (V * V * V) = (N * D1 * D2) * (V * V * V) := by rw [hI]
  grind
theorem frS_add {V P1 P2 N1 D1 N2 D2 N D : Nat} (hV : 1 ≤ V) (h1 : 1 ≤ D1) (h2 : 1 ≤ D2) (h3 : 1 ≤ D) (hI : (N1 * D2 + N2 * D1) * D = N * D1 * D2) :
    ((frS V P1 (N1, D1)).1 * (frS V P2 (N2, D2)).2 + (frS V P2 (N2, D2)).1 * (frS V P1 (N1, D1)).2) * (frS V (P1 + P2) (N, D)).2 = (frS V (P1 + P2) (N, D)).1 * (frS V P1 (N1, D1)).2 * (frS V P2 (N2, D2)).2 := by
  obtain ⟨g1, k1, e1, e2⟩ := frS_mul V P1 N1 D1 hV h1
  obtain ⟨g2, k2, e3, e4⟩ := frS_mul V P2 N2 D2 hV h2
  obtain ⟨g3, k3, e5, e6⟩ := frS_mul V (P1 + P2) N D hV h3
  generalize (frS V P1 (N1, D1)).1 = a1 at *
  generalize (frS V P1 (N1, D1)).2 = a2 at *
  generalize (frS V P2 (N2, D2)).1 = b1 at *
  generalize (frS V P2 (N2, D2)).2 = b2 at *
  generalize (frS V (P1 + P2) (N, D)).1 = c1 at *
  generalize (frS V (P1 + P2) (N, D)).2 = c2 at *
  have hp : 0 < g1 * g2 * g3 := Nat.mul_pos (Nat.mul_pos k1 k2) k3
  refine Nat.eq_of_mul_eq_mul_right hp ?_
  have := fr_ring a1 a2 b1 b2 c1 c2 g1 g2 g3 N1 D1 N2 D2 N D V P1 P2 (by exact_mod_cast e1) (by exact_mod_cast e2) (by exact_mod_cast e3) (by exact_mod_cast e4) (by exact_mod_cast e5) (by exact_mod_cast e6) (by exact_mod_cast hI)
  exact_mod_cast this

theorem pAt_add (rs : List (Int × Int × Int)) {lo mid hi : Int} (h1 : lo ≤ mid) (h2 : mid ≤ hi) (k : Nat) (hk : tot rs k ≤ tot rs (k + 1)) : pAt rs lo hi k = pAt rs lo mid k + pAt rs mid hi k := by
  unfold pAt
  omega
/-- Minutes add up. -/
theorem fr_add {rs : List (Int × Int × Int)} {zs : List Int} (h : goodW rs zs) {lo mid hi s : Int} (hs : 1 ≤ s ∧ s ≤ 20) (h1 : lo ≤ mid) (h2 : mid ≤ hi) : ∀ k, k ≤ rs.length →
    ((fr rs lo mid s k).1 * (fr rs mid hi s k).2 + (fr rs mid hi s k).1 * (fr rs lo mid s k).2) * (fr rs lo hi s k).2 = (fr rs lo hi s k).1 * (fr rs lo mid s k).2 * (fr rs mid hi s k).2
  | 0, _ => by simp [fr]
  | k + 1, hk => by
    have ih := fr_add h hs h1 h2 k (by omega)
    have b1 := (fr_bd h lo mid hs k (by omega)).2.1
    have b2 := (fr_bd h mid hi hs k (by omega)).2.1
    have b3 := (fr_bd h lo hi hs k (by omega)).2.1
    have hv := (vAt_bd h hs (show k < rs.length by omega)).1
    have ht : tot rs k ≤ tot rs (k + 1) := by
      have := (goodW_spd h _ (List.getElem_mem (show k < rs.length by omega))).1
      rw [tot_step rs k (by omega)]
      omega
    simp only [fr, pAt_add rs h1 h2 k ht]
    generalize fr rs lo mid s k = q1 at *
    generalize fr rs mid hi s k = q2 at *
    generalize fr rs lo hi s k = q3 at *
    obtain ⟨N1, D1⟩ := q1
    obtain ⟨N2, D2⟩ := q2
    obtain ⟨N, D⟩ := q3
    exact frS_add hv b1 b2 b3 ih
theorem locks_back (a b : Nat) : locksL b a = (locksL a b).reverse := by
  unfold locksL
  by_cases h : a ≤ b
  · by_cases h2 : b ≤ a
    · obtain rfl : a = b := by omega
      simp [upL]
    · rw [if_neg h2, if_pos h]
  · rw [if_pos (by omega), if_neg h, List.reverse_reverse]
theorem lks_ex (n n2 : Nat) (rs : List (Int × Int × Int)) (zs : List Int) (i k : Int) (hl : rs.length = n) (hm : n ≤ maxLen) : ∃ (L : List Int) (y : Bool), L.length ≤ 6 ∧
    (∀ (w : World) (B : Nat) (A A2 : Option Addr) (c c2 : Nat), IsWay w B A n A2 n2 rs zs → Calls Try.prog 10 #[.agg #[.slice A n c, .slice A2 n2 c2], .int .i64 i, .int .i64 k] w (GivesInts w L y)) ∧
    (∀ (w : World) (B : Nat) (A A2 : Option Addr) (c c2 : Nat), IsWay w B A n A2 n2 rs zs → Calls Try.prog 9 #[.agg #[.slice A n c, .slice A2 n2 c2], .int .i64 i, .int .i64 k] w (GivesInts w L y)) ∧
    (∀ (w : World) (B : Nat) (A A2 : Option Addr) (c c2 : Nat), IsWay w B A n A2 n2 rs zs → Calls Try.prog 9 #[.agg #[.slice A n c, .slice A2 n2 c2], .int .i64 k, .int .i64 i] w (GivesInts w L.reverse y)) := by
  by_cases hg : (goodW rs zs ∧ 0 ≤ i ∧ i ≤ tot rs n) ∧ (0 ≤ k ∧ k ≤ tot rs n)
  · obtain ⟨a, ha⟩ := placeAt_ex hl hg.1.1 hg.1.2.2
    obtain ⟨b, hb⟩ := placeAt_ex hl hg.1.1 hg.2.2
    have h6 := hg.1.1.1.2
    have hy : ∀ a' b', ((goodW rs zs ∧ 0 ≤ i ∧ i ≤ tot rs n) ∧ (0 ≤ k ∧ k ≤ tot rs n)) → PlaceAt rs i a' → PlaceAt rs k b' → locksL a b = locksL a' b' ∧ true = true := fun a' b' _ h1 h2 => by
      rw [placeAt_unique ha h1, placeAt_unique hb h2]; exact ⟨rfl, rfl⟩
    have hy2 : ∀ a' b', ((goodW rs zs ∧ 0 ≤ k ∧ k ≤ tot rs n) ∧ (0 ≤ i ∧ i ≤ tot rs n)) → PlaceAt rs k a' → PlaceAt rs i b' → (locksL a b).reverse = locksL a' b' ∧ true = true := fun a' b' _ h1 h2 => by
      rw [placeAt_unique h1 hb, placeAt_unique h2 ha]; exact ⟨(locks_back a b).symm, rfl⟩
    refine ⟨locksL a b, true, ?_, fun w B A A2 c c2 h => specLks_any c c2 h hm _ _ _ _ hy (fun g => absurd hg g), fun w B A A2 c c2 h => implLks_any c c2 h hm _ _ _ _ hy (fun g => absurd hg g), fun w B A A2 c c2 h => implLks_any c c2 h hm _ _ _ _ hy2 (fun g => absurd ⟨⟨hg.1.1, hg.2⟩, hg.1.2⟩ g)⟩
    rw [locksL_len]
    have := ha.lt
    have := hb.lt
    split <;> omega
  · exact ⟨[], false, by simp, fun w B A A2 c c2 h => specLks_any c c2 h hm _ _ _ _ (fun _ _ g => absurd g hg) (fun _ => ⟨rfl, rfl⟩), fun w B A A2 c c2 h => implLks_any c c2 h hm _ _ _ _ (fun _ _ g => absurd g hg) (fun _ => ⟨rfl, rfl⟩), fun w B A A2 c c2 h => implLks_any c c2 h hm _ _ _ _ (fun _ _ g => absurd ⟨⟨g.1.1, g.2⟩, g.1.2⟩ hg) (fun _ => ⟨rfl, rfl⟩)⟩
/-- The minutes by way of the middle. -/
theorem min_ex (n n2 : Nat) (rs : List (Int × Int × Int)) (zs : List Int) (i k s : Int) (hl : rs.length = n) (hm : n ≤ maxLen) : ∃ (x y : Int) (z : Bool),
    (∀ (w : World) (B : Nat) (A A2 : Option Addr) (c c2 : Nat), IsWay w B A n A2 n2 rs zs → Calls Try.prog 17 #[.agg #[.slice A n c, .slice A2 n2 c2], .int .i64 i, .int .i64 k, .int .i64 s] w fun e w' => e = .returned (.tuple #[.int .i64 x, .int .i64 y, .bool z]) ∧ Below w.heap.size w w') ∧
    (∀ (w : World) (B : Nat) (A A2 : Option Addr) (c c2 : Nat), IsWay w B A n A2 n2 rs zs → Calls Try.prog 16 #[.agg #[.slice A n c, .slice A2 n2 c2], .int .i64 i, .int .i64 k, .int .i64 s] w fun e w' => e = .returned (.tuple #[.int .i64 x, .int .i64 y, .bool z]) ∧ Below w.heap.size w w') ∧
    (z = true → (0 ≤ i ∧ 0 ≤ k) ∧ ∀ m, m = (i + k) / 2 → ∃ x1 y1 x2 y2 : Int, (x1 * y2 + x2 * y1) * y = x * y1 * y2 ∧
      (∀ (w : World) (B : Nat) (A A2 : Option Addr) (c c2 : Nat), IsWay w B A n A2 n2 rs zs → Calls Try.prog 16 #[.agg #[.slice A n c, .slice A2 n2 c2], .int .i64 i, .int .i64 m, .int .i64 s] w fun e w' => e = .returned (.tuple #[.int .i64 x1, .int .i64 y1, .bool true]) ∧ Below w.heap.size w w') ∧
      (∀ (w : World) (B : Nat) (A A2 : Option Addr) (c c2 : Nat), IsWay w B A n A2 n2 rs zs → Calls Try.prog 16 #[.agg #[.slice A n c, .slice A2 n2 c2], .int .i64 m, .int .i64 k, .int .i64 s] w fun e w' => e = .returned (.tuple #[.int .i64 x2, .int .i64 y2, .bool true]) ∧ Below w.heap.size w w')) := by
  by_cases hg : (goodW rs zs ∧ 0 ≤ i ∧ i ≤ tot rs n) ∧ (0 ≤ k ∧ k ≤ tot rs n) ∧ (1 ≤ s ∧ s ≤ 20)
  · refine ⟨_, _, true, fun w B A A2 c c2 h => specMin_any c c2 h hm _ _ _ _ _ _ (fun _ => ⟨rfl, rfl, rfl⟩) (fun g => absurd hg g), fun w B A A2 c c2 h => implMin_any c c2 h hm _ _ _ _ _ _ (fun _ => ⟨rfl, rfl, rfl⟩) (fun g => absurd hg g), fun _ => ⟨⟨hg.1.2.1, hg.2.1.1⟩, fun m hmid => ?_⟩⟩
    have hm1 : 0 ≤ m ∧ m ≤ tot rs n := by omega
    refine ⟨_, _, _, _, ?_, fun w B A A2 c c2 h => implMin_any c c2 h hm _ _ _ _ _ _ (fun _ => ⟨rfl, rfl, rfl⟩) (fun g => absurd ⟨hg.1, hm1, hg.2.2⟩ g), fun w B A A2 c c2 h => implMin_any c c2 h hm _ _ _ _ _ _ (fun _ => ⟨rfl, rfl, rfl⟩) (fun g => absurd ⟨⟨hg.1.1, hm1⟩, hg.2⟩ g)⟩
    by_cases hik : i ≤ k
    · have e1 : min i m = i := by omega
      have e2 : max i m = m := by omega
      have e3 : min m k = m := by omega
      have e4 : max m k = k := by omega
      have e5 : min i k = i := by omega
      have e6 : max i k = k := by omega
      rw [e1, e2, e3, e4, e5, e6]
      exact_mod_cast fr_add hg.1.1 hg.2.2 (show i ≤ m by omega) (show m ≤ k by omega) n (by omega)
    · have e1 : min i m = m := by omega
      have e2 : max i m = i := by omega
      have e3 : min m k = k := by omega
      have e4 : max m k = m := by omega
      have e5 : min i k = k := by omega
      have e6 : max i k = i := by omega
      rw [e1, e2, e3, e4, e5, e6]
      have t := fr_add hg.1.1 hg.2.2 (show k ≤ m by omega) (show m ≤ i by omega) n (by omega)
      have t2 : ((fr rs m i s n).1 * (fr rs k m s n).2 + (fr rs k m s n).1 * (fr rs m i s n).2) * (fr rs k i s n).2 = (fr rs k i s n).1 * (fr rs m i s n).2 * (fr rs k m s n).2 := by
        rw [Nat.add_comm, t, Nat.mul_right_comm]
      exact_mod_cast t2
  · exact ⟨0, 0, false, fun w B A A2 c c2 h => specMin_any c c2 h hm _ _ _ _ _ _ (fun g => absurd g hg) (fun _ => ⟨rfl, rfl, rfl⟩), fun w B A A2 c c2 h => implMin_any c c2 h hm _ _ _ _ _ _ (fun g => absurd g hg) (fun _ => ⟨rfl, rfl, rfl⟩), fun h => nomatch h⟩
/-- The level, and what it is at the start. -/
theorem lev_ex (n n2 : Nat) (rs : List (Int × Int × Int)) (zs : List Int) (i : Int) (hm : n ≤ maxLen) : ∃ (x : Int) (y : Bool),
    (∀ (w : World) (B : Nat) (A A2 : Option Addr) (c c2 : Nat), IsWay w B A n A2 n2 rs zs → n2 ≤ c2 → Calls Try.prog 23 #[.agg #[.slice A n c, .slice A2 n2 c2], .int .i64 i] w fun e w' => e = .returned (.tuple #[.int .i64 x, .bool y]) ∧ Below w.heap.size w w') ∧
    (∀ (w : World) (B : Nat) (A A2 : Option Addr) (c c2 : Nat), IsWay w B A n A2 n2 rs zs → n2 ≤ c2 → Calls Try.prog 22 #[.agg #[.slice A n c, .slice A2 n2 c2], .int .i64 i] w fun e w' => e = .returned (.tuple #[.int .i64 x, .bool y]) ∧ Below w.heap.size w w') ∧
    (y = true → 0 < i ∨ x = 0) := by
  by_cases hg : goodW rs zs ∧ 0 ≤ i ∧ i ≤ (n : Int) - 1
  · exact ⟨lev zs i.toNat, true, fun w B A A2 c c2 h _ => specLevel_any c c2 h hm _ _ _ (fun _ => ⟨rfl, rfl⟩) (fun g => absurd hg g), fun w B A A2 c c2 h hc => implLevel_any c c2 hc h hm _ _ _ (fun _ => ⟨rfl, rfl⟩) (fun g => absurd hg g), fun _ => by
      by_cases h0 : 0 < i
      · exact .inl h0
      · obtain rfl : i = 0 := by omega
        exact .inr rfl⟩
  · exact ⟨0, false, fun w B A A2 c c2 h _ => specLevel_any c c2 h hm _ _ _ (fun g => absurd g hg) (fun _ => ⟨rfl, rfl⟩), fun w B A A2 c c2 h hc => implLevel_any c c2 hc h hm _ _ _ (fun g => absurd g hg) (fun _ => ⟨rfl, rfl⟩), fun h => nomatch h⟩
end Go.Proofs.Ytgnopkemcgbedab
