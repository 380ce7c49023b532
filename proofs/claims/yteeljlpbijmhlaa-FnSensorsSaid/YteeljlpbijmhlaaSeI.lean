/- Chapter 6: what FnSensors compares; the mathematics of it. -/
import Derived.Test.YteeljlpbijmhlaaSeH
import Derived.Test.YteeljlpbijmhlaaSeV
import Derived.Test.YteeljlpbijmhlaaSeD
import Derived.Test.YteeljlpbijmhlaaSeU
namespace Go.Proofs.Yteeljlpbijmhlaa
open Go.RowKit Go.PlainAid Go.Sort
set_option linter.unusedVariables false
set_option linter.unusedSimpArgs false

set_option maxHeartbeats 400000 in
theorem rInts_same (A1 A2 : Option Addr) (n c1 c2 B1 B2 : Nat) (zs : List Int) (w : World) (hn : zs.length = n) (hm : n ≤ maxLen)
    (h1 : Has w B1 A1 (zs.map (.int .i64))) (h2 : Has w B2 A2 (zs.map (.int .i64))) :
    Calls Try.prog 49 #[.slice A1 n c1, .slice A2 n c2] w fun e w' => e = .returned (.bool true) ∧ Drawn w w' := by
  unfold maxLen at hm
  go_enter Try.func49, Try.ntmps49
  go_wp2
  go_loopw [5] (fun i wr => ∃ k : Nat, k ≤ n ∧ i = .int .i64 k ∧ Drawn w wr) (fun i _ => n - (intOf i).toNat)
  case atStart => exact ⟨0, Nat.zero_le _, rfl, Drawn.refl _⟩
  case round =>
    obtain ⟨k, hk, rfl, hD⟩ := hrel
    by_cases hlt : k < n
    · obtain ⟨a1, rfl, _, e1⟩ := (hD.has h1).intAt (k := k) (by omega)
      obtain ⟨a2, rfl, _, e2⟩ := (hD.has h2).intAt (k := k) (by omega)
      have hne : (zs[k] != zs[k]) = false := by simp
      generalize zs[k] = s at e1 e2 hne
      clear h1 h2 hn
      have hk0 : (0 : Int) ≤ (k : Int) := by omega
      have hk1 : (k : Int) < (n : Int) := by omega
      go_wp2
      go_quiet (fail)
      go_wp2
      go_roundw
      case rel => exact ⟨k + 1, by omega, by go_num, hD.step _⟩
      case measure => simp [intOf]; omega
    · obtain rfl : k = n := by omega
      clear h1 h2 hn
      go_wp2
      go_ret
      exact ⟨rfl, hD⟩
set_option maxHeartbeats 1000000 in
theorem rHas_yes {w : World} {B n : Nat} {A : Option Addr} {zs : List Int} (c : Nat) (h : IsI6 w B A n zs) (hm : n ≤ 1048576) (x : Int) (hx : x ∈ zs) :
    Calls Try.prog 51 #[.slice A n c, .int .i64 x] w fun e w' => e = .returned (.bool true) ∧ w = w' := by
  have HI := Lib.hid h
  obtain ⟨j0, hj0, e0⟩ := List.getElem_of_mem hx
  have HY : Hid (∃ j, j < n ∧ zs.getD j 0 = x) := Lib.hid ⟨j0, by rw [← h.len]; exact hj0, by rw [List.getD_eq_getElem?_getD, List.getElem?_eq_getElem hj0]; exact e0⟩
  clear h hx e0 hj0
  go_enter Try.func51, Try.ntmps51
  go_wp2_with fail
  go_loop [5] (fun i => ∃ q : Nat, q ≤ n ∧ i = .int .i64 q ∧ Hid (∀ j, j < q → zs.getD j 0 ≠ x)) (fun i => n - (intOf i).toNat)
  case atStart => exact ⟨0, Nat.zero_le _, rfl, Lib.hid (fun j hj => absurd hj (by omega))⟩
  case round =>
    obtain ⟨q, hq, rfl, hno⟩ := hrel
    by_cases hlt : q < n
    · obtain ⟨a, rfl, hab, ez⟩ := HI.out.at hlt
      have HNq : Hid (zs.getD q 0 ≠ x → ∀ j, j < q + 1 → zs.getD j 0 ≠ x) := Lib.hid (fun h j hj => by
        rcases Nat.lt_succ_iff_lt_or_eq.1 hj with h1 | rfl
        · exact hno.out j h1
        · exact h)
      generalize zs.getD q 0 = z at ez HNq
      have hq0 : (0 : Int) ≤ (q : Int) := by omega
      have hq1 : (q : Int) < (n : Int) := by omega
      clear hno HI
      by_cases hz : z = x
      · have hzb : (z == x) = true := by simp [hz]
        clear HNq hz
        go_wp2_with fail
        go_ret
        exact ⟨rfl, rfl⟩
      · have HR := Lib.hid (HNq.out hz)
        have hzb : (z == x) = false := by simp [hz]
        clear HNq hz
        go_wp2_with fail
        go_round
        case rel => exact ⟨q + 1, by omega, by go_num, HR⟩
        case measure => simp [intOf]; omega
    · obtain rfl : q = n := by omega
      obtain ⟨j, hj, e⟩ := HY.out
      exact absurd e (hno.out j hj)

theorem agr_vot {zs : List Int} {q m : Int} {L : List Int} {x y : Bool} (hV : VotA zs q m x) (hA : AgrA zs q L y) :
    (y = false ∧ x = false) ∨ (y = true ∧ x = false ∧ L.length < 2) ∨ (y = true ∧ x = true ∧ 2 ≤ L.length ∧ L = agr zs q ∧ triS zs) := by
  by_cases h : triS zs ∧ 0 ≤ q ∧ q ≤ 2000
  · obtain ⟨rfl, rfl⟩ := hA.1 h
    by_cases h2 : 2 ≤ (agr zs q).length
    · exact .inr (.inr ⟨rfl, (hV.1 ⟨h.1, h.2, h2⟩).2, h2, rfl, h.1⟩)
    · exact .inr (.inl ⟨rfl, (hV.2 (fun g => h2 g.2.2)).2, by omega⟩)
  · exact .inl ⟨(hA.2 h).2, (hV.2 (fun g => h ⟨g.1, g.2.1⟩)).2⟩
theorem sum_between {zs L : List Int} {lo hi : Int} : ∀ k, k ≤ L.length → (∀ j, j < k → lo ≤ zs.getD (L.getD j 0).toNat 0 ∧ zs.getD (L.getD j 0).toNat 0 ≤ hi) → lo * (k : Int) ≤ sumK zs L k ∧ sumK zs L k ≤ hi * (k : Int) := by
  intro k
  induction k with
  | zero => intro _ _; simp [sumK]
  | succ k ih =>
    intro hk h
    obtain ⟨h1, h2⟩ := ih (by omega) (fun j hj => h j (by omega))
    obtain ⟨h3, h4⟩ := h k (by omega)
    rw [sumK_succ _ _ _ (by omega)]
    push_cast
    rw [Int.mul_add, Int.mul_add]
    omega
theorem vot_between {zs : List Int} {q m lo hi : Int} (hV : VotA zs q m true) (h : ∀ j, j < (agr zs q).length → lo ≤ zs.getD ((agr zs q).getD j 0).toNat 0 ∧ zs.getD ((agr zs q).getD j 0).toNat 0 ≤ hi) : lo ≤ m ∧ m ≤ hi := by
  have hc : triS zs ∧ (0 ≤ q ∧ q ≤ 2000) ∧ 2 ≤ (agr zs q).length := by
    by_cases g : triS zs ∧ (0 ≤ q ∧ q ≤ 2000) ∧ 2 ≤ (agr zs q).length
    · exact g
    · exact absurd (hV.2 g).2 (by simp)
  obtain ⟨rfl, -⟩ := hV.1 hc
  obtain ⟨h1, h2⟩ := sum_between (zs := zs) (L := agr zs q) _ (Nat.le_refl _) h
  have h0 := (sumK_in hc.1.2 (agr zs q) (agr zs q).length).1
  rw [Int.tdiv_eq_ediv_of_nonneg h0]
  exact ⟨Int.le_ediv_of_mul_le (by omega) h1, Int.ediv_le_of_le_mul (by omega) h2⟩
theorem med_mix {zs : List Int} {m : Int} (h : MedA zs m true) : triS zs ∧ m ∈ zs ∧ MedA [zs.getD 2 0, zs.getD 0 0, zs.getD 1 0] m true ∧ MedA [zs.getD 1 0, zs.getD 0 0, zs.getD 2 0] m true := by
  have ht : triS zs := by
    by_cases g : triS zs
    · exact g
    · exact absurd (h.2 g).2 (by simp)
  obtain ⟨rfl, -⟩ := h.1 ht
  refine ⟨ht, medS_mem ht, ?_⟩
  obtain ⟨a, b, c, rfl, h1⟩ := triS_three ht
  have e1 : medS [a, b, c] = med a b c := rfl
  have t1 : triS [c, a, b] := ⟨rfl, by intro z hz; simp at hz; omega, by simp⟩
  have t2 : triS [b, a, c] := ⟨rfl, by intro z hz; simp at hz; omega, by simp⟩
  exact ⟨⟨fun _ => ⟨show med a b c = med c a b by unfold med; omega, rfl⟩, fun g => absurd t1 g⟩, ⟨fun _ => ⟨show med a b c = med b a c by unfold med; omega, rfl⟩, fun g => absurd t2 g⟩⟩
theorem isI_new (w : World) (a b c : Int) : IsI6 (w.alloc (.cells #[.int .i64 a, .int .i64 b, .int .i64 c] 3)) (w.heap.size + 1) (some ⟨w.heap.size, 0, none⟩) 3 [a, b, c] := by
  have := ownS_has (ownI_full (w := w) (base := w.heap.size) #[.int .i64 a, .int .i64 b, .int .i64 c] 3 rfl (Nat.le_refl _) (by unfold maxLen; omega))
  exact ⟨rfl, by simpa using this, by simp⟩
theorem three6 {w : World} {B g : Nat} {a b c : Int} (h : IsI6 w B (some ⟨g, 0, none⟩) 3 [a, b, c]) : w.cell? ⟨g, 0, none⟩ = some (.int .i64 a) ∧ w.cell? ⟨g, 1, none⟩ = some (.int .i64 b) ∧ w.cell? ⟨g, 2, none⟩ = some (.int .i64 c) := by
  have h0 := h.at (k := 0) (by omega)
  have h1 := h.at (k := 1) (by omega)
  have h2 := h.at (k := 2) (by omega)
  obtain ⟨a0, e0, -, h0⟩ := h0
  obtain ⟨a1, e1, -, h1⟩ := h1
  obtain ⟨a2, e2, -, h2⟩ := h2
  injection e0 with e0; subst e0
  injection e1 with e1; subst e1
  injection e2 with e2; subst e2
  rw [addZ] at h0 h1 h2
  exact ⟨h0, h1, h2⟩
end Go.Proofs.Yteeljlpbijmhlaa
