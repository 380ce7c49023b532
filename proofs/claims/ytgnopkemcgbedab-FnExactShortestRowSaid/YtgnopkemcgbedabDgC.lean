/- Chapter 7: gaps: the model and the program. -/
import Derived.Test.YtgnopkemcgbedabDgB
namespace Go.Proofs.Ytgnopkemcgbedab
open Go.RowKit Go.PlainAid Go.Sort
set_option linter.unusedVariables false
set_option linter.unusedSimpArgs false

theorem ite_mx (x y : Int) : (if y < x then x else y) = max x y := by split <;> omega
attribute [local go_sem] ite_mx7 ite_mx

/-- All lie within these. -/
def allIn (lo hi : Int) (zs : List Int) : Prop := ∀ z ∈ zs, lo ≤ z ∧ z ≤ hi
instance (lo hi : Int) (zs : List Int) : Decidable (allIn lo hi zs) := by unfold allIn; infer_instance
theorem allIn_getD {lo hi : Int} {zs : List Int} (h : allIn lo hi zs) {i : Nat} (hi2 : i < zs.length) : lo ≤ zs.getD i 0 ∧ zs.getD i 0 ≤ hi := by
  rw [List.getD_eq_getElem?_getD, List.getElem?_eq_getElem hi2]
  exact h _ (List.getElem_mem hi2)
theorem intGet {w : World} {B : Nat} {A : Option Addr} {zs : List Int} (h : Has w B A (zs.map (.int .i64))) {k : Nat} (hk : k < zs.length) :
    ∃ a, A = some a ∧ a.block < B ∧ w.cell? (a.add k) = some (.int .i64 (zs.getD k 0)) := by
  obtain ⟨a, e, hb, hc⟩ := h.intAt hk
  exact ⟨a, e, hb, by rw [hc]; simp [List.getD_eq_getElem?_getD, hk]⟩

set_option maxHeartbeats 1000000 in
theorem areIn_any (lo hi : Int) (A : Option Addr) (n c B : Nat) (zs : List Int) (w : World) (hn : zs.length = n) (hm : n ≤ 1048576) (h : Has w B A (zs.map (.int .i64))) :
    Calls Try.prog 78 #[.int .i64 lo, .int .i64 hi, .slice A n c] w fun e w' => e = .returned (.bool (decide (allIn lo hi zs))) ∧ w = w' := by
  have CI := Lib.hid (fun (z : Int) W => inRange_any z lo hi W)
  have HL := Lib.hid hn
  have H := Lib.hid h
  obtain ⟨b, hb⟩ : ∃ b, decide (allIn lo hi zs) = b := ⟨_, rfl⟩
  rw [hb]
  have HN : Hid (∀ q, q < n → ¬ (lo ≤ zs.getD q 0 ∧ zs.getD q 0 ≤ hi) → b = false) := Lib.hid (fun q hq hz => by
    rw [← hb]
    refine decide_eq_false fun hs => hz (allIn_getD hs (by omega)))
  have HY : Hid ((∀ q, q < n → lo ≤ zs.getD q 0 ∧ zs.getD q 0 ≤ hi) → b = true) := Lib.hid (fun hz => by
    rw [← hb]
    refine decide_eq_true (fun z hz2 => ?_)
    obtain ⟨q, hq, rfl⟩ := List.getElem_of_mem hz2
    have := hz q (by omega)
    simpa [List.getD_eq_getElem?_getD, hq] using this)
  clear hb hn h
  go_enter Try.func78, Try.ntmps78
  go_wp2_with fail
  go_loop [11] (fun i => ∃ q : Nat, q ≤ n ∧ i = .int .i64 q ∧ Hid (∀ j, j < q → lo ≤ zs.getD j 0 ∧ zs.getD j 0 ≤ hi)) (fun i => n - (intOf i).toNat)
  case atStart => exact ⟨0, Nat.zero_le _, rfl, Lib.hid (fun j hj => absurd hj (by omega))⟩
  case round =>
    obtain ⟨q, hq, rfl, hall⟩ := hrel
    by_cases hlt : q < n
    · obtain ⟨a2, rfl, hab2, ez⟩ := intGet H.out (k := q) (by rw [HL.out]; exact hlt)
      have HF2 := Lib.hid (HN.out q hlt)
      have HA2 : Hid ((lo ≤ zs.getD q 0 ∧ zs.getD q 0 ≤ hi) → ∀ j, j < q + 1 → lo ≤ zs.getD j 0 ∧ zs.getD j 0 ≤ hi) := Lib.hid (fun h j hj => by
        rcases Nat.lt_succ_iff_lt_or_eq.1 hj with h1 | h1
        · exact hall.out j h1
        · subst h1; exact h)
      generalize zs.getD q 0 = z at ez HF2 HA2
      have CZ := Lib.hid (fun W => CI.out z W)
      have hq0 : (0 : Int) ≤ (q : Int) := by omega
      have hq1 : (q : Int) < (n : Int) := by omega
      clear hall HN HY CI H
      by_cases hz : lo ≤ z ∧ z ≤ hi
      · rw [decide_eq_true hz] at CZ
        have HR := Lib.hid (HA2.out hz)
        clear HF2 HA2 hz
        go_wp2_with fail
        refine (CZ.out _).mono ?_
        rintro e w3 ⟨rfl, rfl⟩
        go_wp2_with fail
        go_round
        case rel => exact ⟨q + 1, by omega, by go_num, HR⟩
        case measure => simp [intOf]; omega
      · rw [decide_eq_false hz] at CZ
        obtain rfl : b = false := HF2.out hz
        clear HF2 HA2 hz
        go_wp2_with fail
        refine (CZ.out _).mono ?_
        rintro e w3 ⟨rfl, rfl⟩
        go_wp2_with fail
        go_ret
        exact ⟨rfl, rfl⟩
    · obtain rfl : q = n := by omega
      obtain rfl : b = true := HY.out (fun j h => hall.out j h)
      clear hall HN CI H
      go_wp2_with fail
      go_ret
      exact ⟨rfl, rfl⟩

/-- What NeededGap answers. -/
def okG (x y : Int) : Prop := (0 ≤ x ∧ x ≤ 3) ∧ (0 ≤ y ∧ y ≤ 3)
instance (x y : Int) : Decidable (okG x y) := by unfold okG; infer_instance
def ansG (x y : Int) : Int := if okG x y then gapZ x y else 0
theorem okG_all (x y : Int) : decide (allIn 0 3 [x, y]) = decide (okG x y) := decide_eq_decide.2 (by unfold allIn okG; simp)
theorem okG_comm (x y : Int) : okG x y ↔ okG y x := And.comm
theorem ansG_comm (x y : Int) : ansG x y = ansG y x := by
  unfold ansG
  by_cases h : okG x y
  · rw [if_pos h, if_pos ((okG_comm x y).1 h), gap_comm]
  · rw [if_neg h, if_neg (fun g => h ((okG_comm x y).2 g))]
set_option maxHeartbeats 1000000 in
theorem l7Gap_any (x y : Int) (w : World) (hx : 0 ≤ x ∧ x ≤ 3) (hy : 0 ≤ y ∧ y ≤ 3) : Calls Try.prog 107 #[.int .i64 x, .int .i64 y] w fun e w' => e = .returned (.int .i64 (gapZ x y)) ∧ w = w' := by
  unfold gapZ
  by_cases h : x = 3 ∨ y = 3
  · rw [if_pos h]
    have hb : ((x == 3) || (y == 3)) = true := by simpa using h
    obtain ⟨b1, h1⟩ : ∃ b, (x == 3) = b := ⟨_, rfl⟩
    obtain ⟨b2, h2⟩ : ∃ b, (y == 3) = b := ⟨_, rfl⟩
    rw [h1, h2] at hb
    clear h
    cases b1 <;> cases b2 <;> first | (cases hb; done) | skip
    all_goals
      clear hb
      go_enter Try.func107, Try.ntmps107
      go_wp2
      go_ret
      exact ⟨rfl, rfl⟩
  · rw [if_neg h]
    have hb1 : (x == 3) = false := by simp; omega
    have hb2 : (y == 3) = false := by simp; omega
    clear h
    go_enter Try.func107, Try.ntmps107
    go_wp2
    go_ret
    exact ⟨rfl, rfl⟩
theorem has_two_new (w : World) (x y : Value) (t : TypeId) : Has (w.alloc (.cells #[x, y] t)) (w.heap.size + 1) (some ⟨w.heap.size, 0, none⟩) [x, y] := by
  intro k u hu
  refine ⟨_, rfl, by simp, ?_⟩
  match k, hu with
  | 0, hu => exact (sNew w #[x, y] t 0).trans hu
  | 1, hu => exact (sNew w #[x, y] t 1).trans hu
set_option maxHeartbeats 1000000 in
theorem neededI_any (x y : Int) (w : World) : Calls Try.prog 106 #[.int .i64 x, .int .i64 y] w fun e w' => e = .returned (.tuple #[.int .i64 (ansG x y), .bool (decide (okG x y))]) ∧ Below w.heap.size w w' := by
  have C0 := Lib.hid (areIn_any 0 3 (some ⟨w.heap.size, 0, none⟩) 2 2 (w.heap.size + 1) [x, y] (w.alloc (.cells #[.int .i64 x, .int .i64 y] 3)) rfl (by omega) (has_two_new w _ _ _))
  rw [okG_all] at C0
  by_cases h : okG x y
  · rw [decide_eq_true h] at C0 ⊢
    rw [ansG, if_pos h, gap_mx h.1 h.2]
    obtain ⟨⟨h1, h2⟩, h3, h4⟩ := h
    by_cases h5 : max x y = 3
    · rw [if_pos h5]
      have hb : (max x y == 3) = true := by simp [h5]
      clear h5
      go_enter Try.func106, Try.ntmps106
      go_wp2_with fail
      refine C0.out.mono ?_
      rintro e w1 ⟨rfl, rfl⟩
      go_wp2_with fail
      refine bodyPost_ret (results_tmp2 rfl _ _ _) rfl ?_
      exact ⟨rfl, below1 _ _⟩
    · rw [if_neg h5]
      have hb : (max x y == 3) = false := by simp [h5]
      clear h5
      go_enter Try.func106, Try.ntmps106
      go_wp2_with fail
      refine C0.out.mono ?_
      rintro e w1 ⟨rfl, rfl⟩
      go_wp2_with fail
      refine bodyPost_ret (results_tmp2 rfl _ _ _) rfl ?_
      exact ⟨rfl, below1 _ _⟩
  · rw [decide_eq_false h] at C0 ⊢
    rw [ansG, if_neg h]
    clear h
    go_enter Try.func106, Try.ntmps106
    go_wp2_with fail
    refine C0.out.mono ?_
    rintro e w1 ⟨rfl, rfl⟩
    go_wp2_with fail
    refine bodyPost_ret (results_tmp2 rfl _ _ _) rfl ?_
    exact ⟨rfl, below1 _ _⟩
set_option maxHeartbeats 1000000 in
theorem gapOf_any (a0 a1 a2 b0 b1 b2 : Int) (w : World) (hx : 0 ≤ a2 ∧ a2 ≤ 3) (hy : 0 ≤ b2 ∧ b2 ≤ 3) : Calls Try.prog 76 #[.agg #[.int .i64 a0, .int .i64 a1, .int .i64 a2], .agg #[.int .i64 b0, .int .i64 b1, .int .i64 b2]] w fun e w' => e = .returned (.int .i64 (gapZ a2 b2)) ∧ Below w.heap.size w w' := by
  have C0 := Lib.hid (fun W => neededI_any a2 b2 W)
  rw [decide_eq_true (show okG a2 b2 from ⟨hx, hy⟩), ansG, if_pos (show okG a2 b2 from ⟨hx, hy⟩)] at C0
  generalize gapZ a2 b2 = z at C0 ⊢
  clear hx hy
  go_enter Try.func76, Try.ntmps76
  go_wp2_with fail
  refine (C0.out _).mono ?_
  rintro e w1 ⟨rfl, hb⟩
  have HB := Lib.hid ((below2 w (.cells #[.int .i64 a0, .int .i64 a1, .int .i64 a2] 54) (.cells #[.int .i64 b0, .int .i64 b1, .int .i64 b2] 54)).trans (hb.mono (by simp; omega)))
  clear hb C0
  go_wp2_with fail
  go_ret
  exact ⟨rfl, HB.out⟩
set_option maxHeartbeats 1000000 in
theorem l1Most_any (x y : Int) (w : World) : Calls Try.prog 61 #[.int .i64 x, .int .i64 y] w fun e w' => e = .returned (.int .i64 (max x y)) ∧ w = w' := by
  by_cases h : x > y
  · rw [show max x y = x by omega]
    go_enter Try.func61, Try.ntmps61
    go_wp2
    go_ret
    exact ⟨rfl, rfl⟩
  · rw [show max x y = y by omega]
    go_enter Try.func61, Try.ntmps61
    go_wp2
    go_ret
    exact ⟨rfl, rfl⟩
set_option maxHeartbeats 1000000 in
theorem between_any (a0 a1 a2 p b0 b1 b2 q : Int) (w : World) (hx : 1 ≤ a1 ∧ a1 ≤ 8) (hy : 1 ≤ b1 ∧ b1 ≤ 8) (hp : 0 ≤ p ∧ p ≤ 200) (hq : 0 ≤ q ∧ q ≤ 200) : Calls Try.prog 79 #[.agg #[.int .i64 a0, .int .i64 a1, .int .i64 a2], .int .i64 p, .agg #[.int .i64 b0, .int .i64 b1, .int .i64 b2], .int .i64 q] w fun e w' => e = .returned (.int .i64 (betZ ⟨a0, a1, a2⟩ ⟨b0, b1, b2⟩ p q)) ∧ Below w.heap.size w w' := by
  unfold betZ
  go_enter Try.func79, Try.ntmps79
  go_wp2_with fail
  go_ret
  exact ⟨rfl, below2 _ _ _⟩
end Go.Proofs.Ytgnopkemcgbedab
