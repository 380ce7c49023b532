/- Chapter 12: what FnPumps and FnPumpCosts compare. -/
import Derived.Test.YtdjoiodkmanacaaPvD
namespace Go.Proofs.Ytdjoiodkmanacaa
open Go.RowKit Go.PlainAid Go.Sort
set_option linter.unusedVariables false
set_option linter.unusedSimpArgs false

set_option maxHeartbeats 400000 in
theorem rInts_same (A1 A2 : Option Addr) (n c1 c2 B1 B2 : Nat) (zs : List Int) (w : World) (hn : zs.length = n) (hm : n ≤ maxLen)
    (h1 : Has w B1 A1 (zs.map (.int .i64))) (h2 : Has w B2 A2 (zs.map (.int .i64))) :
    Calls Try.prog 18 #[.slice A1 n c1, .slice A2 n c2] w fun e w' => e = .returned (.bool true) ∧ Drawn w w' := by
  unfold maxLen at hm
  go_enter Try.func18, Try.ntmps18
  go_wp2
  go_loopw [5] (fun i wr => ∃ k : Nat, k ≤ n ∧ i = .int .i64 k ∧ Drawn w wr) (fun i _ => n - (intOf i).toNat)
  case atStart => exact ⟨0, Nat.zero_le _, rfl, Drawn.refl _⟩
  case round =>
    obtain ⟨k, hk, rfl, hD⟩ := hrel
    by_cases hlt : k < n
    · obtain ⟨a1, rfl, _, e1⟩ := (hD.has h1).intAt (k := k) (by omega)
      obtain ⟨a2, rfl, _, e2⟩ := (hD.has h2).intAt (k := k) (by omega)
      have hne : (zs[k] != zs[k]) = false := by simp
      generalize zs[k] = s at e1 e2 hne
      clear h1 h2 hn
      have hk0 : (0 : Int) ≤ (k : Int) := by omega
      have hk1 : (k : Int) < (n : Int) := by omega
      go_wp2
      go_quiet (fail)
      go_wp2
      go_roundw
      case rel => exact ⟨k + 1, by omega, by go_num, hD.step _⟩
      case measure => simp [intOf]; omega
    · obtain rfl : k = n := by omega
      clear h1 h2 hn
      go_wp2
      go_ret
      exact ⟨rfl, hD⟩
/-- The sum of the first k. -/
def sumN (zs : List Int) : Nat → Int
  | 0 => 0
  | k + 1 => sumN zs k + zs.getD k 0
theorem sumN_bound {zs : List Int} (h : ∀ k, k < zs.length → -50 ≤ zs.getD k 0 ∧ zs.getD k 0 ≤ 50) : ∀ k, k ≤ zs.length → -(50 * (k : Int)) ≤ sumN zs k ∧ sumN zs k ≤ 50 * (k : Int)
  | 0, _ => by simp [sumN]
  | k + 1, hk => by
    have h1 := sumN_bound h k (by omega)
    have h2 := h k (by omega)
    simp only [sumN]
    push_cast
    omega
set_option maxHeartbeats 1000000 in
theorem rSumN_any (A : Option Addr) (n c B : Nat) (zs : List Int) (w : World) (hn : zs.length = n) (hm : n ≤ 1000) (hb : ∀ k, k < zs.length → -50 ≤ zs.getD k 0 ∧ zs.getD k 0 ≤ 50) (h : Has w B A (zs.map (.int .i64))) :
    Calls Try.prog 27 #[.slice A n c] w fun e w' => e = .returned (.int .i64 (sumN zs n)) ∧ w = w' := by
  have HS := Lib.hid (sumN_bound hb)
  have HB := Lib.hid hb
  have HH := Lib.hid h
  have HN := Lib.hid hn
  clear hb h hn
  go_enter Try.func27, Try.ntmps27
  go_wp2_with fail
  go_loopw [3, 4] (fun s i wr => ∃ k : Nat, k ≤ n ∧ i = .int .i64 k ∧ s = .int .i64 (sumN zs k) ∧ w = wr) (fun _ i _ => n - (intOf i).toNat)
  case atStart => exact ⟨0, Nat.zero_le _, rfl, rfl, rfl⟩
  case round =>
    obtain ⟨k, hk, rfl, rfl, rfl⟩ := hrel
    by_cases hlt : (k : Int) < (n : Int)
    · obtain ⟨x, rfl, -, y0⟩ := Has.numAt HH.out (k := k) (by have := HN.out; omega)
      have hv := HB.out k (by have := HN.out; omega)
      have hs := HS.out k (by have := HN.out; omega)
      have hx0 : (0 : Int) ≤ (k : Int) := by omega
      obtain ⟨s, hsq⟩ : ∃ s, sumN zs k = s := ⟨_, rfl⟩
      obtain ⟨v, hvq⟩ : ∃ v, zs.getD k 0 = v := ⟨_, rfl⟩
      have HE : Hid (sumN zs (k + 1) = s + v) := Lib.hid (by simp only [sumN]; rw [hsq, hvq])
      rw [hsq] at hs ⊢
      rw [hvq] at hv y0
      clear hsq hvq
      go_wp2_with fail
      go_roundw
      case rel => exact ⟨k + 1, by omega, by go_num, by rw [HE.out], trivial⟩
      case measure => simp [intOf]; omega
    · obtain rfl : k = n := by omega
      go_wp2_with fail
      go_ret
      exact ⟨rfl, rfl⟩
/-- The last level: what was there, what flowed in, less what was pumped. -/
theorem lv_end (t : Tsk) (xs : List Int) : ∀ k, lvU t xs k = t.lv + sumN t.fs k - waterU t xs k
  | 0 => by simp [lvU, sumN, waterU]
  | k + 1 => by
    rw [lvU, sumN, waterU, lv_end t xs k]
    omega
end Go.Proofs.Ytdjoiodkmanacaa
