/- Chapter 11: what FnSaving asks of the answers; orders beside orders. -/
import Derived.Test.YtgnopkemcgbedaaPpD
import Derived.Test.YtgnopkemcgbedaaPoG
namespace Go.Proofs.Ytgnopkemcgbedaa
open Go.RowKit Go.PlainAid Go.Sort
set_option linter.unusedVariables false
set_option linter.unusedSimpArgs false

set_option maxHeartbeats 400000 in
theorem rInts_same (A1 A2 : Option Addr) (n c1 c2 B1 B2 : Nat) (zs : List Int) (w : World) (hn : zs.length = n) (hm : n ≤ maxLen)
    (h1 : Has w B1 A1 (zs.map (.int .i64))) (h2 : Has w B2 A2 (zs.map (.int .i64))) :
    Calls Try.prog 39 #[.slice A1 n c1, .slice A2 n c2] w fun e w' => e = .returned (.bool true) ∧ Drawn w w' := by
  unfold maxLen at hm
  go_enter Try.func39, Try.ntmps39
  go_wp2
  go_loopw [5] (fun i wr => ∃ k : Nat, k ≤ n ∧ i = .int .i64 k ∧ Drawn w wr) (fun i _ => n - (intOf i).toNat)
  case atStart => exact ⟨0, Nat.zero_le _, rfl, Drawn.refl _⟩
  case round =>
    obtain ⟨k, hk, rfl, hD⟩ := hrel
    by_cases hlt : k < n
    · obtain ⟨a1, rfl, _, e1⟩ := (hD.has h1).intAt (k := k) (by omega)
      obtain ⟨a2, rfl, _, e2⟩ := (hD.has h2).intAt (k := k) (by omega)
      have hne : (zs[k] != zs[k]) = false := by simp
      generalize zs[k] = s at e1 e2 hne
      clear h1 h2 hn
      have hk0 : (0 : Int) ≤ (k : Int) := by omega
      have hk1 : (k : Int) < (n : Int) := by omega
      go_wp2
      go_quiet (fail)
      go_wp2
      go_roundw
      case rel => exact ⟨k + 1, by omega, by go_num, hD.step _⟩
      case measure => simp [intOf]; omega
    · obtain rfl : k = n := by omega
      clear h1 h2 hn
      go_wp2
      go_ret
      exact ⟨rfl, hD⟩

/-! What the law asks. -/
theorem RunPA.can {vs L : List TPool} {o : List Int} {d : Bool} {z : Int} (h : RunPA vs o d L z true) : canR vs o d ∧ L = runL vs o d o.length ∧ z = runZ vs o d o.length := by
  by_cases e : canR vs o d
  · obtain ⟨h1, h2, -⟩ := h.1 e
    exact ⟨e, h1, h2⟩
  · have := (h.2 e).2.2; cases this
theorem canR.runA {vs : List TPool} {o : List Int} {d : Bool} (h : canR vs o d) : RunPA vs o d (runL vs o d o.length) (runZ vs o d o.length) true :=
  ⟨fun _ => ⟨rfl, rfl, rfl⟩, fun e => absurd h e⟩
structure DrnF (vs L : List TPool) (z t : Int) : Prop where
  low : 2 ≤ vs.length
  len : L.length = vs.length
  a0 : AllA vs t true
  a1 : AllA L t true
  b0 : 0 ≤ (vs.getD 0 noPool).x2 ∧ (vs.getD 0 noPool).x2 ≤ 100000
  b1 : 0 ≤ (L.getD 0 noPool).x2 ∧ (L.getD 0 noPool).x2 ≤ 100000
  dz : (vs.getD 0 noPool).x2 - (L.getD 0 noPool).x2 = z
theorem RunPA.facts {vs L : List TPool} {o : List Int} {z : Int} (h : RunPA vs o true L z true) : ∃ t, DrnF vs L z t := by
  obtain ⟨hc, rfl, rfl⟩ := h.can
  have hl := hc.1.1
  have hg := hc.2.2.good hc.1 o.length (Nat.le_refl _)
  have e1 : (runL vs o true o.length).length = vs.length := runL_len _ _ _ _
  refine ⟨totP vs vs.length, by omega, e1, ⟨fun _ => ⟨rfl, rfl⟩, fun h => by rw [gPs_yes hc.1] at h; cases h⟩, ⟨fun _ => ⟨?_, rfl⟩, fun h => by rw [gPs_yes hg] at h; cases h⟩, (hc.1.2 0 (by omega)).2.2, (hg.2 0 (by omega)).2.2, ?_⟩
  · rw [e1, run_tot hc.2.1 _ (Nat.le_refl _)]
  · have := run_zero hc.2.1 (show 0 < vs.length by omega) o.length (Nat.le_refl _)
    omega
theorem BesA.facts {vs : List TPool} {B : List Int} {m : Int} (h : BesA vs B m true) : (∃ L, RunPA vs B true L m true ∧ L.length ≤ 5) ∧ ∀ o L z, RunPA vs o true L z true → o.length = vs.length - 1 → z ≤ m := by
  by_cases e : goodPs vs ∧ allD vs
  · obtain ⟨rfl, rfl, -⟩ := h.1 e
    obtain ⟨h1, h2, h3, h4, h5⟩ := bestD_hit e.1 e.2
    have hc : canR vs (bestD vs).1 true := ⟨e.1, h1, h3⟩
    refine ⟨⟨_, by have := hc.runA; rw [h4]; exact this, by rw [runL_len]; exact e.1.1.2⟩, fun o L z hR hl => ?_⟩
    obtain ⟨hc2, rfl, rfl⟩ := hR.can
    exact h5 o hc2.2.1 hl
  · have := (h.2 e).2.2; cases this
theorem ShrA.same {vs : List TPool} {o : List Int} {p q : Int} (h : ShrA vs o p q true) : ∃ L z, RunPA vs o true L z true ∧ L.length ≤ 5 ∧ 2 ≤ vs.length ∧ p * (vs.getD 0 noPool).x2 = z * q ∧ 0 ≤ p * (vs.getD 0 noPool).x2 ∧ p * (vs.getD 0 noPool).x2 ≤ 40000000000 := by
  by_cases e : canR vs o true ∧ (vs.getD 0 noPool).x2 ≠ 0
  · obtain ⟨rfl, rfl, -⟩ := h.1 e
    obtain ⟨hc, hv⟩ := e
    have hl := hc.1.1
    have hw := (hc.1.2 0 (by omega)).2.2
    have hz := hc.zbd o.length (Nat.le_refl _)
    have hzl : runZ vs o true o.length ≤ 100000 := by
      have h1 := run_zero hc.2.1 (by omega) o.length (Nat.le_refl _)
      have h3 := ((hc.2.2.good hc.1 o.length (Nat.le_refl _)).2 0 (by rw [runL_len]; omega)).2.2
      omega
    have hr := red_bd hz.1 (show 0 < (vs.getD 0 noPool).x2 by omega)
    have hm := mul_bdP (X := 400000) (Y := 100000) ⟨hr.1, by omega⟩ hw
    exact ⟨_, _, hc.runA, by rw [runL_len]; exact hl.2, hl.1, red_same hz.1 (by omega), hm.1, by omega⟩
  · have := (h.2 e).2.2; cases this
end Go.Proofs.Ytgnopkemcgbedaa
