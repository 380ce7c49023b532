/- Chapter 4: what FnChamberings compares: the greatest group, the fewest lockages, lockages in order, shifted spots. -/
import Derived.Test.YtkdolpgnaabdaabChU
import Derived.Test.YtkdolpgnaabdaabChW
namespace Go.Proofs.Ytkdolpgnaabdaab
open Go.RowKit Go.PlainAid Go.Sort
set_option linter.unusedVariables false
set_option linter.unusedSimpArgs false

/-- How many bits of s there are below n. -/
def pcN (s : Nat) : Nat → Nat
  | 0 => 0
  | k + 1 => pcN s k + if s.testBit k then 1 else 0
theorem chosenN_pc (hs : List THull) (s : Nat) : ∀ k, (chosenN hs s k).length = pcN s k
  | 0 => rfl
  | k + 1 => by
    have ih := chosenN_pc hs s k
    rw [chosenN, pcN]
    split
    · rw [List.length_append, ih]; rfl
    · rw [ih]; rfl
theorem pc_split : ∀ n, n < 5 → ∀ s, s < 16 → ∀ p, p < 16 → p &&& s = p → pcN s n = pcN p n + pcN (s - p) n := by decide +kernel
theorem pc_full : ∀ n, n < 5 → pcN (2 ^ n - 1) n = n := by decide +kernel
theorem chosen_full (hs : List THull) : ∀ k, k ≤ hs.length → ∀ s, (∀ j, j < k → s.testBit j = true) → chosenN hs s k = hs.take k
  | 0, _, _, _ => by simp [chosenN]
  | k + 1, hk, s, h => by
    rw [chosenN, chosen_full hs k (by omega) s (fun j hj => h j (by omega)), if_pos (h k (by omega)), List.take_succ_eq_append_getElem (by omega), getHull (by omega)]
theorem chosen_all {hs : List THull} (hl : hs.length ≤ 4) : chosen hs (2 ^ hs.length - 1) = hs := by
  have h := chosen_full hs hs.length (Nat.le_refl _) (2 ^ hs.length - 1) (fun j hj => all_bit hs.length (by omega) j hj)
  rw [List.take_length] at h
  exact h
/-- The greatest group is one that fits. -/
theorem most_is {c : TChamber} {hs : List THull} : ∀ k, ∃ s, mostN c hs k = idsOf (chosen hs s) ∧ fits c (chosen hs s) = true
  | 0 => by
    have h : ∀ k, chosenN hs 0 k = [] := fun k => by
      induction k with
      | zero => rfl
      | succ k ih => rw [chosenN, ih]; simp
    exact ⟨0, by rw [show chosen hs 0 = chosenN hs 0 hs.length from rfl, h]; rfl, by rw [show chosen hs 0 = chosenN hs 0 hs.length from rfl, h]; rfl⟩
  | k + 1 => by
    rw [mostN]
    split
    · next h => exact ⟨k, rfl, h.2⟩
    · exact most_is k
/-- .. and no group that fits is greater. -/
theorem most_max {c : TChamber} {hs : List THull} : ∀ k s, s < k → fits c (chosen hs s) = true → (chosen hs s).length ≤ (mostN c hs k).length
  | k + 1, s, hs', hf => by
    rw [mostN]
    rcases Nat.lt_succ_iff_lt_or_eq.1 hs' with g | g
    · have ih := most_max k s g hf
      split
      · next h =>
        have hb := h.1
        unfold betterL at hb
        simp only [Bool.or_eq_true, Bool.and_eq_true, decide_eq_true_eq] at hb
        rcases hb with hb | hb
        · omega
        · omega
      · exact ih
    · subst g
      split
      · rw [List.length_map]; exact Nat.le_refl _
      · next h =>
        have hb : ¬ betterL (idsOf (chosen hs s)) (mostN c hs s) = true := fun g => h ⟨g, hf⟩
        unfold betterL at hb
        simp only [Bool.or_eq_true, decide_eq_true_eq, not_or] at hb
        have := hb.1
        rw [List.length_map] at this
        omega
/-- Those whose Ids are told are the group. -/
theorem filter_ids : ∀ (hs T : List THull), hs.Pairwise (fun a b => a.x0 < b.x0) → T.Sublist hs → hs.filter (fun h => decide (h.x0 ∈ idsOf T)) = T
  | [], T, _, hT => by
    rw [List.sublist_nil] at hT
    subst hT
    rfl
  | h :: t, T, hp, hT => by
    rw [List.pairwise_cons] at hp
    cases hT with
    | cons _ hT =>
      have hn : h.x0 ∉ idsOf T := fun hm => by
        obtain ⟨x, hx, e⟩ := List.mem_map.1 hm
        have := hp.1 x (hT.subset hx)
        omega
      rw [List.filter_cons_of_neg (by simpa using hn)]
      exact filter_ids t T hp.2 hT
    | cons_cons _ hT =>
      rename_i T
      rw [List.filter_cons_of_pos (by simp)]
      congr 1
      have ih := filter_ids t T hp.2 hT
      refine Eq.trans (List.filter_congr (fun x hx => ?_)) ih
      have hne : x.x0 ≠ h.x0 := by have := hp.1 x hx; omega
      simp [hne]
theorem most_yes {c : TChamber} {hs : List THull} (hg : goodHs hs) : fits c (hs.filter (fun h => decide (h.x0 ∈ mostN c hs (2 ^ hs.length)))) = true := by
  obtain ⟨s, e, hf⟩ := most_is (c := c) (hs := hs) (2 ^ hs.length)
  rw [e, filter_ids hs _ (goodHs_iff.1 hg).2.2 (chosen_sub hs s)]
  exact hf
/-- All fit together iff all are in the greatest group. -/
theorem most_all {c : TChamber} {hs : List THull} (hg : goodHs hs) : fits c hs = true ↔ (mostN c hs (2 ^ hs.length)).length = hs.length := by
  have hpos := Nat.two_pow_pos hs.length
  constructor
  · intro h
    have h1 := most_max (c := c) (hs := hs) (2 ^ hs.length) (2 ^ hs.length - 1) (by omega) (by rw [chosen_all hg.1]; exact h)
    have h2 := mostN_len c hs (2 ^ hs.length)
    rw [chosen_all hg.1] at h1
    omega
  · intro h
    obtain ⟨s, e, hf⟩ := most_is (c := c) (hs := hs) (2 ^ hs.length)
    rw [e, List.length_map] at h
    rwa [(chosen_sub hs s).eq_of_length h] at hf
/-- Groups together are no greater than so many times the greatest. -/
theorem grp_most {c : TChamber} {hs : List THull} (hl : hs.length ≤ 4) {s m : Nat} (h : Grp (fitG c hs) s m) : s < 2 ^ hs.length → pcN s hs.length ≤ m * (mostN c hs (2 ^ hs.length)).length := by
  have h16 : (2 : Nat) ^ hs.length ≤ 2 ^ 4 := Nat.pow_le_pow_right (by omega) hl
  induction h with
  | zero =>
    intro _
    have : ∀ n, pcN 0 n = 0 := fun n => by
      induction n with
      | zero => rfl
      | succ n ih => rw [pcN, ih]; simp
    rw [this]
    omega
  | step s p m h1 h2 h3 _ ih =>
    intro hs'
    have hp := part_le h2
    have k1 := ih (by omega)
    have k2 := most_max (c := c) (hs := hs) (2 ^ hs.length) p (by omega) h3
    rw [show (chosen hs p).length = pcN p hs.length from chosenN_pc hs p hs.length] at k2
    rw [pc_split hs.length (by omega) s (by omega) p (by omega) h2, Nat.add_mul]
    omega
/-- A run of hulls as a group. -/
theorem run_bits : ∀ n, n < 5 → ∀ b, b < n → ∀ k, k < n → b ≤ k → (2 ^ (k + 1) - 2 ^ b) &&& (2 ^ (k + 1) - 1) = 2 ^ (k + 1) - 2 ^ b := by decide +kernel
theorem run_bit : ∀ n, n < 5 → ∀ b, b < n → ∀ k, k < n → b ≤ k → ∀ j, j < n → (2 ^ (k + 1) - 2 ^ b).testBit j = (decide (b ≤ j) && decide (j ≤ k)) := by decide +kernel
theorem run_chosen (hs : List THull) (s b k : Nat) : ∀ m, m ≤ hs.length → (∀ j, j < m → s.testBit j = (decide (b ≤ j) && decide (j ≤ k))) → chosenN hs s m = ((hs.take m).take (k + 1)).drop b
  | 0, _, _ => by simp [chosenN]
  | m + 1, hm, h => by
    rw [chosenN, run_chosen hs s b k m (by omega) (fun j hj => h j (by omega)), h m (by omega)]
    rw [List.take_take, List.take_take]
    by_cases h1 : m ≤ k
    · rw [Nat.min_eq_right (by omega : m ≤ k + 1), Nat.min_eq_right (by omega : m + 1 ≤ k + 1)]
      by_cases h2 : b ≤ m
      · rw [if_pos (by simp [h1, h2]), List.take_succ_eq_append_getElem (by omega), getHull (by omega), List.drop_append_of_le_length (by rw [List.length_take]; omega)]
      · rw [if_neg (by simp [h2]), List.drop_eq_nil_of_le (by rw [List.length_take]; omega), List.drop_eq_nil_of_le (by rw [List.length_take]; omega)]
    · rw [if_neg (by simp [h1]), Nat.min_eq_left (by omega : k + 1 ≤ m), Nat.min_eq_left (by omega : k + 1 ≤ m + 1)]
theorem run_cut {hs : List THull} (hl : hs.length ≤ 4) {b k : Nat} (hb : b ≤ k) (hk : k < hs.length) : chosen hs (2 ^ (k + 1) - 2 ^ b) = (hs.take (k + 1)).drop b := by
  have h := run_chosen hs (2 ^ (k + 1) - 2 ^ b) b k hs.length (Nat.le_refl _) (fun j hj => run_bit hs.length (by omega) b (by omega) k hk hb j hj)
  rw [List.take_length] at h
  exact h
/-- Lockages in order are groups. -/
theorem lio_grp {c : TChamber} {hs : List THull} (hl : hs.length ≤ 4) : ∀ k l b o, k < hs.length → lioN c hs (k + 1) = some (l, b, o) →
    b ≤ k ∧ Grp (fitG c hs) (2 ^ b - 1) l ∧ fitG c hs (2 ^ (k + 1) - 2 ^ b) = true ∧ o.getD k 0 = (l : Int) := by
  intro k
  induction k with
  | zero =>
    intro l b o hk h
    rw [lioN] at h
    dsimp only [lioN] at h
    split at h
    · next h1 =>
      have h2 : fits c ((hs.take (0 + 1)).drop 0) = true := by rw [cut_one hk]; exact h1
      rw [if_pos h2] at h
      injection h with h; injection h with e1 h; injection h with e2 e3
      subst e1 e2 e3
      refine ⟨Nat.le_refl _, .zero, ?_, rfl⟩
      unfold fitG
      rw [run_cut hl (Nat.le_refl _) hk]
      exact h2
    · cases h
  | succ k ih =>
    intro l b o hk h
    rw [lioN] at h
    split at h
    · cases h
    · next l' b' o' e =>
      obtain ⟨hb, hG, hf, ho⟩ := ih l' b' o' (by omega) e
      have hol := (lioN_bd e).2.2
      split at h
      · next h1 =>
        split at h
        · next h2 =>
          injection h with h; injection h with e1 h; injection h with e2 e3
          subst e1 e2 e3
          refine ⟨by omega, hG, ?_, ?_⟩
          · unfold fitG
            rw [run_cut hl (by omega) hk]
            exact h2
          · rw [List.getD_eq_getElem?_getD, List.getElem?_append_right (by omega), hol]
            simp
        · injection h with h; injection h with e1 h; injection h with e2 e3
          subst e1 e2 e3
          refine ⟨Nat.le_refl _, ?_, ?_, ?_⟩
          · have hp : 2 ^ b' ≤ 2 ^ k := Nat.pow_le_pow_right (by omega) hb
            have hq : 2 ^ (k + 1) = 2 ^ k * 2 := Nat.pow_succ 2 k
            have hpos := Nat.two_pow_pos b'
            refine .step _ (2 ^ (k + 1) - 2 ^ b') l' (by omega) (run_bits hs.length (by omega) b' (by omega) k (by omega) hb) hf ?_
            rw [show 2 ^ (k + 1) - 1 - (2 ^ (k + 1) - 2 ^ b') = 2 ^ b' - 1 by omega]
            exact hG
          · unfold fitG
            rw [run_cut hl (Nat.le_refl _) hk, cut_one hk]
            exact h1
          · rw [List.getD_eq_getElem?_getD, List.getElem?_append_right (by omega), hol]
            simp
      · cases h
theorem lio_all {c : TChamber} {hs : List THull} (hl : hs.length ≤ 4) {l b : Nat} {o : List Int} (h0 : 0 < hs.length) (h : lioN c hs hs.length = some (l, b, o)) : Grp (fitG c hs) (2 ^ hs.length - 1) (l + 1) ∧ o.getD (hs.length - 1) 0 = (l : Int) := by
  obtain ⟨n, hn⟩ : ∃ n, hs.length = n + 1 := ⟨hs.length - 1, by omega⟩
  rw [hn] at h
  obtain ⟨hb, hG, hf, ho⟩ := lio_grp hl n l b o (by omega) h
  rw [hn]
  refine ⟨?_, ho⟩
  have hp : 2 ^ b ≤ 2 ^ n := Nat.pow_le_pow_right (by omega) hb
  have hq : 2 ^ (n + 1) = 2 ^ n * 2 := Nat.pow_succ 2 n
  have hpos := Nat.two_pow_pos b
  refine .step _ (2 ^ (n + 1) - 2 ^ b) l (by omega) (run_bits hs.length (by omega) b (by omega) n (by omega) hb) hf ?_
  rw [show 2 ^ (n + 1) - 1 - (2 ^ (n + 1) - 2 ^ b) = 2 ^ b - 1 by omega]
  exact hG
/-- Each alone fits iff there are lockages in order. -/
theorem lio_single {c : TChamber} {hs : List THull} : ∀ k l b o, k ≤ hs.length → lioN c hs k = some (l, b, o) → ∀ j, j < k → fits c [hs.getD j noHull] = true
  | 0, _, _, _, _, _, j, hj => absurd hj (by omega)
  | k + 1, l, b, o, hk, h, j, hj => by
    rw [lioN] at h
    split at h
    · cases h
    · next l' b' o' e =>
      split at h
      · next h1 =>
        rcases Nat.lt_succ_iff_lt_or_eq.1 hj with g | g
        · exact lio_single k l' b' o' (by omega) e j g
        · subst g; exact h1
      · cases h
theorem lio_ex {c : TChamber} {hs : List THull} : ∀ k, (∀ j, j < k → fits c [hs.getD j noHull] = true) → ∃ l b o, lioN c hs k = some (l, b, o)
  | 0, _ => ⟨0, 0, [], rfl⟩
  | k + 1, h => by
    obtain ⟨l, b, o, e⟩ := lio_ex k (fun j hj => h j (by omega))
    by_cases h2 : fits c ((hs.take (k + 1)).drop b) = true
    · exact ⟨_, _, _, lio_same e (h k (by omega)) h2⟩
    · exact ⟨_, _, _, lio_next e (h k (by omega)) (by simpa using h2)⟩
theorem grp0 {f : Nat → Bool} {s m : Nat} (h : Grp f s m) (hm : m = 0) : s = 0 := by
  cases h with
  | zero => rfl
  | step => omega
theorem grp1 {f : Nat → Bool} {s m : Nat} (h : Grp f s m) (hm : m = 1) : f s = true := by
  cases h with
  | zero => omega
  | step _ p m h1 h2 h3 h4 =>
    have h0 := grp0 h4 (by omega)
    have hp := part_le h2
    rwa [show p = s by omega] at h3
/-- What the law asks of the three answers. -/
theorem chamb {c : TChamber} {hs : List THull} {L O : List Int} {x y z : Bool} {f : Int} (hM : MostA c hs L x) (hF : FewA c hs f y) (hL : LioA c hs O z) :
    z = y ∧ (x = true → goodC c ∧ goodHs hs ∧ fits c (hs.filter (fun h => decide (h.x0 ∈ L))) = true ∧ (fits c hs = true ↔ L.length = hs.length)) ∧
    (z = true → O.length = hs.length ∧ x = true) ∧
    (z = true → 0 < hs.length → f ≤ O.getD (hs.length - 1) 0 + 1 ∧ 1 ≤ f ∧ f ≤ 4 ∧ (hs.length : Int) ≤ f * (L.length : Int) ∧ (f = 1 ↔ L.length = hs.length) ∧ O.getD (hs.length - 1) 0 ≤ 4) := by
  by_cases g : (decide (goodC c) && gHs hs) = false
  · obtain ⟨rfl, rfl⟩ := hM.bad g
    obtain ⟨rfl, rfl⟩ := hF.bad g
    obtain ⟨rfl, rfl⟩ := hL.bad g
    exact ⟨rfl, (fun h => nomatch h), (fun h => nomatch h), (fun h => nomatch h)⟩
  · obtain ⟨hc, hg⟩ := good_of (by simpa using g : (decide (goodC c) && gHs hs) = true)
    obtain ⟨rfl, rfl⟩ := hM.yes hc hg
    have hl := hg.1
    obtain ⟨o, ho⟩ := fewR_ex (fitG c hs) (2 ^ hs.length - 1)
    have hA := most_all (c := c) hg
    refine ⟨?_, fun _ => ⟨hc, hg, most_yes hg, hA⟩, ?_, ?_⟩
    · cases e : lioN c hs hs.length with
      | none =>
        obtain ⟨-, rfl⟩ := hL.no hc hg e
        cases o with
        | none => exact ((hF.yes none hc hg ho).1 rfl).2.symm
        | some m =>
          obtain ⟨l, b, o', h⟩ := lio_ex (c := c) (hs := hs) hs.length (single_of hl (ho.is m rfl))
          rw [e] at h; cases h
      | some r =>
        obtain ⟨l, b, o'⟩ := r
        obtain ⟨-, rfl⟩ := hL.yes l b o' hc hg e
        obtain ⟨m, rfl⟩ := few_some hl ho (lio_single _ l b o' (Nat.le_refl _) e)
        exact ((hF.yes (some m) hc hg ho).2 m rfl).2.symm
    · intro hz
      cases e : lioN c hs hs.length with
      | none => obtain ⟨-, h⟩ := hL.no hc hg e; rw [h] at hz; cases hz
      | some r =>
        obtain ⟨l, b, o'⟩ := r
        obtain ⟨rfl, -⟩ := hL.yes l b o' hc hg e
        exact ⟨(lioN_bd e).2.2, rfl⟩
    · intro hz h0
      cases e : lioN c hs hs.length with
      | none => obtain ⟨-, h⟩ := hL.no hc hg e; rw [h] at hz; cases hz
      | some r =>
        obtain ⟨l, b, o'⟩ := r
        obtain ⟨rfl, -⟩ := hL.yes l b o' hc hg e
        obtain ⟨hG, hlast⟩ := lio_all hl h0 e
        obtain ⟨m, rfl, hml⟩ := ho.le _ hG
        obtain ⟨rfl, -⟩ := (hF.yes (some m) hc hg ho).2 m rfl
        have hGm := ho.is m rfl
        have hp1 : 2 ^ 1 ≤ 2 ^ hs.length := Nat.pow_le_pow_right (by omega) h0
        have hpos := Nat.two_pow_pos hs.length
        have hm1 : 1 ≤ m := by
          rcases Nat.eq_zero_or_pos m with h9 | h9
          · have := grp0 hGm h9
            omega
          · exact h9
        have hm4 := grp_le hGm hl (by omega)
        have hmost := grp_most hl hGm (by omega)
        rw [pc_full hs.length (by omega)] at hmost
        refine ⟨by rw [hlast]; omega, by omega, by omega, by exact_mod_cast hmost, ?_, by rw [hlast]; have := (lioN_bd e).1; omega⟩
        rw [← hA]
        constructor
        · intro h1
          have h1 : m = 1 := by omega
          have h3 := grp1 hGm h1
          unfold fitG at h3
          rwa [chosen_all hl] at h3
        · intro h1
          have hG1 : Grp (fitG c hs) (2 ^ hs.length - 1) 1 := by
            refine .step _ (2 ^ hs.length - 1) 0 (by omega) (Nat.and_self _) ?_ ?_
            · unfold fitG; rw [chosen_all hl]; exact h1
            · rw [Nat.sub_self]; exact .zero
          obtain ⟨m', e', h'⟩ := ho.le 1 hG1
          injection e' with e'
          omega
/-- Spots moved and moved back. -/
theorem shift_back (b : Int) (ss : List TSpot) : shiftBy (-b) (shiftBy b ss) = ss := by
  unfold shiftBy
  rw [List.map_map]
  conv => rhs; rw [← List.map_id ss]
  refine List.map_congr_left (fun s _ => ?_)
  cases s
  simp only [Function.comp, id]
  congr 1
  omega
theorem first_yes {c : TChamber} {hs : List THull} {L : List TSpot} {x : Bool} (h : FirstA c hs L x) (hc : goodC c) (hg : goodHs hs) : x = fits c hs := by
  unfold fits
  cases e : search c hs [] with
  | none => exact (h.no hc hg e).2
  | some r => exact (h.yes r hc hg e).2
theorem shift_facts {c : TChamber} {hs : List THull} {ss L : List TSpot} {b : Int} (h : ShA c hs ss b L true) : L.length = ss.length ∧ gP c hs L = true ∧ ShA c hs L (-b) ss true := by
  by_cases g : (gP c hs ss && decide (-6 ≤ b ∧ b ≤ 6)) = false
  · have := (h.bad g).2; cases this
  · have g' : (gP c hs ss && decide (-6 ≤ b ∧ b ≤ 6)) = true := by simpa using g
    rw [Bool.and_eq_true] at g'
    obtain ⟨h1, h2⟩ := g'
    have hb := of_decide_eq_true h2
    cases e : gPk c hs (shiftBy b ss) with
    | false => have := (h.no h1 hb e).2; cases this
    | true =>
      obtain ⟨rfl, -⟩ := h.yes h1 hb e
      have hgp : gP c hs (shiftBy b ss) = true := by rw [gP_shift b h1]; exact e
      have hback : gPk c hs ss = true := by rw [gPk_iff]; exact ((gP_iff c hs ss).1 h1).2.2.2
      refine ⟨shiftBy_len b ss, hgp, ⟨fun g => ?_, fun _ _ g => ?_, fun _ _ _ => ⟨(shift_back b ss).symm, rfl⟩⟩⟩
      · rw [hgp, decide_eq_true (by omega)] at g; cases g
      · rw [shift_back, hback] at g; cases g
end Go.Proofs.Ytkdolpgnaabdaab
