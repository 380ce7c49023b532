/- Chapter 2: the given tests' marks in a waterway: written, and found again. -/
import Derived.Test.YtkdolpgnaabdaabDoorSt
namespace Go.Proofs.YtkdolpgnaabdaabDoor
open Go.RowKit Go.PlainAid Go.Sort

set_option maxHeartbeats 2000000 in
theorem markRS_any (g n c base : Nat) (m : Int) (xs : List Value) (w : World) (hm0 : 0 < m) (hm1 : m + 3 * n ≤ 1000000000)
    (hown : w.ownsRow base 37 3 (.slice (some ⟨g, 0, none⟩) n c) n xs) :
    Calls Tryd.prog 15 #[.slice (some ⟨g, 0, none⟩) n c, .int .i64 m] w fun e w' => e = .returned (.int .i64 (m + 3 * n)) ∧
      w'.ownsRow base 37 3 (.slice (some ⟨g, 0, none⟩) n c) n (nums m (3 * n)) ∧ w.grownBy w' (some g) := by
  go_enter Tryd.func15, Tryd.ntmps15
  go_wp2
  go_loopg [1, 5] n (fun gh q i wr => ∃ (k : Nat) (ys : List Value), k + gh = n ∧ i = .int .i64 k ∧ q = .int .i64 (m + 3 * k) ∧ wr.ownsRow base 37 3 (.slice (some ⟨g, 0, none⟩) n c) n ys ∧ Hid (ys.take (k * 3) = (nums m (3 * n)).take (k * 3)) ∧ w.grownBy wr (some g))
  case atStart => exact ⟨0, xs, by omega, rfl, by simp, hown, Lib.hid (by simp), World.grownBy.refl _ _⟩
  case round =>
    obtain ⟨k, ys, hkg, rfl, rfl, hown, hx, hg⟩ := hrel
    cases gk with
    | succ gh =>
      have hlt : k < n := by omega
      have hk0 : (0 : Int) ≤ (k : Int) := by omega
      have hk1 : (k : Int) < (n : Int) := by omega
      have hyl : ys.length = n * 3 := hown.1
      obtain ⟨v0, g0⟩ : ∃ v, wr.cell? ⟨g, k * 3, none⟩ = some v := ⟨_, (hown.cellAt _ (by omega)).trans (List.getElem?_eq_getElem (by omega))⟩
      obtain ⟨v1, g1⟩ : ∃ v, wr.cell? ⟨g, k * 3 + 1, none⟩ = some v := ⟨_, (hown.cellAt _ (by omega)).trans (List.getElem?_eq_getElem (by omega))⟩
      obtain ⟨v2, g2⟩ : ∃ v, wr.cell? ⟨g, k * 3 + 2, none⟩ = some v := ⟨_, (hown.cellAt _ (by omega)).trans (List.getElem?_eq_getElem (by omega))⟩
      have r0 := hown.frozenAt (k * 3)
      have r1 := hown.frozenAt (k * 3 + 1)
      have r2 := hown.frozenAt (k * 3 + 2)
      have HO := Lib.hid hown
      have HG := Lib.hid hg
      have hm2 : m + 3 * (k : Int) + 3 ≤ 1000000000 := by omega
      have hm3 : 0 < m + 3 * (k : Int) := by omega
      have HT : Hid ((((ys.set (k * 3) (.int .i64 (m + 3 * k))).set (k * 3 + 1) (.int .i64 (m + 3 * k + 1))).set (k * 3 + 2) (.int .i64 (m + 3 * k + 1 + 1))).take ((k + 1) * 3) = (nums m (3 * n)).take ((k + 1) * 3)) := Lib.hid (by
        have e : (k + 1) * 3 = k * 3 + 2 + 1 := by omega
        have n0 := nums_at m (3 * n) (k * 3) (by omega)
        have n1 := nums_at m (3 * n) (k * 3 + 1) (by omega)
        have n2 := nums_at m (3 * n) (k * 3 + 2) (by omega)
        rw [show m + ((k * 3 : Nat) : Int) = m + 3 * k by push_cast; omega] at n0
        rw [show m + ((k * 3 + 1 : Nat) : Int) = m + 3 * k + 1 by push_cast; omega] at n1
        rw [show m + ((k * 3 + 2 : Nat) : Int) = m + 3 * k + 1 + 1 by push_cast; omega] at n2
        rw [e]
        exact take_set_succ _ _ (k * 3 + 2) _ (by simp; omega) n2 (take_set_succ _ _ (k * 3 + 1) _ (by simp; omega) n1 (take_set_succ _ _ (k * 3) _ (by omega) n0 hx.out)))
      have hnb : (n : Int) ≤ 1000000000 := by omega
      obtain ⟨q, hq⟩ : ∃ q, m + 3 * (k : Int) = q := ⟨_, rfl⟩
      rw [hq] at HT hm2 hm3 ⊢
      have HQ := Lib.hid hq
      clear hq hx hown hg hyl hm1
      go_wp2_with fail
      have s0 := HO.out.stored (k * 3) (.int .i64 q)
      have s1 := s0.1.stored (k * 3 + 1) (.int .i64 (q + 1))
      have s2 := s1.1.stored (k * 3 + 2) (.int .i64 (q + 1 + 1))
      go_roundg gh
      case rel => exact ⟨k + 1, _, by omega, by go_num, by congr 1; have := HQ.out; push_cast; omega, s2.1, HT, ((HG.out.trans s0.2).trans s1.2).trans s2.2⟩
      case measure => omega
    | zero =>
      obtain rfl : k = n := by omega
      have hyl : ys.length = k * 3 := by simpa using hown.1
      have hall : ys = nums m (3 * k) := by
        have := hx.out
        rwa [List.take_of_length_le (by omega), List.take_of_length_le (by rw [nums_len]; omega)] at this
      subst hall
      clear hx hyl
      go_wp2
      go_ret
      exact ⟨rfl, hown, hg⟩

set_option maxHeartbeats 2000000 in
theorem heldRS_any (A : Option Addr) (n c B : Nat) (m : Int) (w : World) (hm0 : 0 < m) (hm1 : m + 3 * n ≤ 1000000000) (h : Has w B A (nums m (3 * n))) :
    Calls Tryd.prog 17 #[.slice A n c, .int .i64 m] w fun e w' => e = .returned (.int .i64 (m + 3 * n)) ∧ w = w' := by
  go_enter Tryd.func17, Tryd.ntmps17
  go_wp2
  go_loop [1, 5] (fun q i => ∃ k : Nat, k ≤ n ∧ i = .int .i64 k ∧ q = .int .i64 (m + 3 * k)) (fun _ i => n - (intOf i).toNat)
  case atStart => exact ⟨0, Nat.zero_le _, rfl, by simp⟩
  case round =>
    obtain ⟨k, hk, rfl, rfl⟩ := hrel
    by_cases hlt : k < n
    · have n0 := nums_at m (3 * n) (k * 3) (by omega)
      have n1 := nums_at m (3 * n) (k * 3 + 1) (by omega)
      have n2 := nums_at m (3 * n) (k * 3 + 2) (by omega)
      rw [show m + ((k * 3 : Nat) : Int) = m + 3 * k by push_cast; omega] at n0
      rw [show m + ((k * 3 + 1 : Nat) : Int) = m + 3 * k + 1 by push_cast; omega] at n1
      rw [show m + ((k * 3 + 2 : Nat) : Int) = m + 3 * k + 1 + 1 by push_cast; omega] at n2
      obtain ⟨a1, rfl, _, e0⟩ := h _ _ n0
      obtain ⟨a2, ha2, _, e1⟩ := h _ _ n1
      obtain ⟨a3, ha3, _, e2⟩ := h _ _ n2
      injection ha2 with ha2
      injection ha3 with ha3
      subst ha2
      subst ha3
      obtain ⟨f1, f2⟩ := reach_forms e1 e2
      have hk0 : (0 : Int) ≤ (k : Int) := by omega
      have hk1 : (k : Int) < (n : Int) := by omega
      have hm2 : m + 3 * (k : Int) + 3 ≤ 1000000000 := by omega
      have hm3 : 0 < m + 3 * (k : Int) := by omega
      have hnb : (n : Int) ≤ 1000000000 := by omega
      obtain ⟨q, hq⟩ : ∃ q, m + 3 * (k : Int) = q := ⟨_, rfl⟩
      rw [hq] at e0 f1 f2 hm2 hm3 ⊢
      have HQ := Lib.hid hq
      have b0 : (q != q) = false := by simp
      have b1 : (q + 1 != q + 1) = false := by simp
      have b2 : (q + 1 + 1 != q + 1 + 1) = false := by simp
      clear h e1 e2 n0 n1 n2 hq hm1
      go_wp2
      go_round
      case rel => exact ⟨k + 1, by omega, by go_num, by congr 1; have := HQ.out; push_cast; omega⟩
      case measure => simp [intOf]; omega
    · obtain rfl : k = n := by omega
      clear h
      go_wp2
      go_ret
      exact ⟨rfl, rfl⟩


set_option maxHeartbeats 1000000 in
theorem markRS_row (v : Value) (n base : Nat) (m : Int) (xs : List Value) (w : World) (hm0 : 0 < m) (hm1 : m + 3 * n ≤ 1000000000) (hown : w.ownsRow base 37 3 v n xs) :
    Calls Tryd.prog 15 #[v, .int .i64 m] w fun e w' => e = .returned (.int .i64 (m + 3 * n)) ∧ w'.ownsRow base 37 3 v n (nums m (3 * n)) ∧ w.grownBy w' v.ownBlock := by
  rcases hown.2 with ⟨rfl, rfl⟩ | ⟨g, cap, cur, rfl, _⟩
  · clear hown
    go_enter Tryd.func15, Tryd.ntmps15
    go_wp2
    go_loop [1, 5] (fun q i => q = .int .i64 m ∧ i = .int .i64 0) (fun _ _ => 0)
    case atStart => exact ⟨rfl, rfl⟩
    case round =>
      obtain ⟨rfl, rfl⟩ := hrel
      go_wp2
      go_ret
      exact ⟨by simp, ⟨by simp [nums], .inl ⟨rfl, rfl⟩⟩, World.grownBy.refl _ _⟩
  · exact markRS_any g n cap base m xs w hm0 hm1 hown

set_option maxHeartbeats 1000000 in
theorem markW_row (v v2 : Value) (n n2 base : Nat) (m : Int) (xs ys : List Value) (w : World) (hm0 : 0 < m) (hm1 : m + 3 * n + n2 ≤ 1000000000) (ho : w.ownsRow base 37 3 v n xs) (ho2 : w.ownsRow base 3 1 v2 n2 ys) (hne : v2.ownBlock = none ∨ v2.ownBlock ≠ v.ownBlock) :
    Calls Tryd.prog 7 #[.agg #[v, v2], .int .i64 m] w fun e w' => e = .returned (.int .i64 (m + 3 * n + n2)) ∧
      ∃ M, w.grownBy M v.ownBlock ∧ M.grownBy w' v2.ownBlock ∧ M.ownsRow base 37 3 v n (nums m (3 * n)) ∧ w'.ownsRow base 3 1 v2 n2 (nums (m + 3 * n) n2) := by
  have CR := Lib.hid (fun (W : World) (h : W.ownsRow base 37 3 v n xs) => markRS_row v n base m xs W hm0 (by omega) h)
  have CI := Lib.hid (fun (W : World) (h : W.ownsRow base 3 1 v2 n2 ys) => markI_row v2 n2 base (m + 3 * n) ys W (by omega) (by omega) h)
  obtain ⟨A, c, rfl⟩ := own_form ho
  obtain ⟨A2, c2, rfl⟩ := own_form ho2
  have hl1 := fun k hk => (ho.lt k hk).2
  have hl2 := fun k hk => (ho2.lt k hk).2
  have HO := Lib.hid (ho.alloc (.cells #[.slice A n c, .slice A2 n2 c2] 25))
  have HO2 := Lib.hid (ho2.alloc (.cells #[.slice A n c, .slice A2 n2 c2] 25))
  clear ho ho2
  go_enter Tryd.func7, Tryd.ntmps7
  go_wp2_with fail
  refine (CR.out _ HO.out).mono ?_
  rintro e w1 ⟨rfl, hown, hg⟩
  have c1 : w1.cell? ⟨w.heap.size, 1, none⟩ = some (.slice A2 n2 c2) := (World.cell?_of_block (a := ⟨w.heap.size, 1, none⟩) (hg.block w.heap.size (by simp) (fun e => by have := hl1 _ e.symm; omega))).trans (by rw [cellNew]; rfl)
  have HO3 := Lib.hid (HO2.out.kept hg hne)
  have HM := Lib.hid hown
  have HG := Lib.hid ((World.grownBy_alloc w (.cells #[.slice A n c, .slice A2 n2 c2] 25) _).trans hg)
  clear hown hg hl1 hl2 HO HO2 CR
  go_wp2_with fail
  refine (CI.out _ HO3.out).mono ?_
  rintro e w2 ⟨rfl, hown, hg⟩
  go_wp2_with fail
  go_ret
  exact ⟨rfl, w1, HG.out, hg, HM.out, hown⟩

set_option maxHeartbeats 1000000 in
theorem heldW_row (v v2 : Value) (n n2 base : Nat) (m : Int) (w : World) (hm0 : 0 < m) (hm1 : m + 3 * n + n2 ≤ 1000000000) (ho : w.ownsRow base 37 3 v n (nums m (3 * n))) (ho2 : w.ownsRow base 3 1 v2 n2 (nums (m + 3 * n) n2)) :
    Calls Tryd.prog 8 #[.agg #[v, v2], .int .i64 m] w fun e w' => e = .returned (.int .i64 (m + 3 * n + n2)) ∧ Below w.heap.size w w' := by
  obtain ⟨A, c, rfl⟩ : ∃ A c, v = .slice A n c := by
    rcases ho.2 with ⟨rfl, rfl⟩ | ⟨g, cap, cur, rfl, _⟩
    · exact ⟨none, 0, rfl⟩
    · exact ⟨_, _, rfl⟩
  obtain ⟨A2, c2, rfl⟩ : ∃ A c, v2 = .slice A n2 c := by
    rcases ho2.2 with ⟨rfl, rfl⟩ | ⟨g, cap, cur, rfl, _⟩
    · exact ⟨none, 0, rfl⟩
    · exact ⟨_, _, rfl⟩
  have CR := Lib.hid (fun (W : World) (h : Below w.heap.size w W) => heldRS_any A n c w.heap.size m W hm0 (by omega) ((own_hasv ho).below h))
  have CI := Lib.hid (fun (W : World) (h : Below w.heap.size w W) => heldI_any A2 n2 c2 w.heap.size (m + 3 * n) W (by omega) (by omega) ((own_hasv ho2).below h))
  have hba := Lib.hid (fun o => (Below.refl w.heap.size w).alloc (Nat.le_refl _) o)
  have hn1 : ¬ (m + 3 * (n : Int) < 0) := by omega
  have hn2 : ¬ (m + 3 * (n : Int) + (n2 : Int) < 0) := by omega
  clear ho ho2
  go_enter Tryd.func8, Tryd.ntmps8
  go_wp2_with fail
  refine (CR.out _ (hba.out _)).mono ?_
  rintro e w1 ⟨rfl, rfl⟩
  clear CR
  go_wp2_with fail
  refine (CI.out _ (hba.out _)).mono ?_
  rintro e w1 ⟨rfl, rfl⟩
  go_wp2_with fail
  go_ret
  exact ⟨rfl, hba.out _⟩
end Go.Proofs.YtkdolpgnaabdaabDoor
