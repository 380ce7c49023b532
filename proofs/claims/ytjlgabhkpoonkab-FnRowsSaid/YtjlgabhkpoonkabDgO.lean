/- Chapter 7: cmp.Compare, cmp.Or of three numbers. -/
import Derived.Test.YtjlgabhkpoonkabDgF
namespace Go.Proofs.Ytjlgabhkpoonkab
open Go.RowKit Go.PlainAid Go.Sort
set_option linter.unusedVariables false
set_option linter.unusedSimpArgs false

def cmpI (x y : Int) : Int := if x < y then -1 else if y < x then 1 else 0
theorem cmpI_zero (x y : Int) : cmpI x y = 0 ↔ x = y := by
  unfold cmpI
  split
  · omega
  · split <;> omega
theorem isNaN_any (x : Int) (w : World) : Calls Try.prog 116 #[.int .i64 x] w fun e w' => e = .returned (.bool false) ∧ w = w' := by
  have h : (x != x) = false := by simp
  go_enter Try.func116, Try.ntmps116
  go_wp2
  go_ret
  exact ⟨rfl, rfl⟩
set_option maxHeartbeats 400000 in
theorem cmpInt_any (x y : Int) (w : World) : Calls Try.prog 57 #[.int .i64 x, .int .i64 y] w fun e w' => e = .returned (.int .i64 (cmpI x y)) ∧ w = w' := by
  have C := Lib.hid (fun z W => isNaN_any z W)
  unfold cmpI
  by_cases h1 : x < y
  · rw [if_pos h1]
    go_enter Try.func57, Try.ntmps57
    go_wp2_with fail
    refine (C.out _ _).mono ?_
    rintro e w1 ⟨rfl, rfl⟩
    go_wp2_with fail
    refine (C.out _ _).mono ?_
    rintro e w1 ⟨rfl, rfl⟩
    go_wp2_with fail
    go_ret
    exact ⟨rfl, rfl⟩
  · rw [if_neg h1]
    by_cases h2 : y < x
    · rw [if_pos h2]
      go_enter Try.func57, Try.ntmps57
      go_wp2_with fail
      refine (C.out _ _).mono ?_
      rintro e w1 ⟨rfl, rfl⟩
      go_wp2_with fail
      refine (C.out _ _).mono ?_
      rintro e w1 ⟨rfl, rfl⟩
      go_wp2_with fail
      go_ret
      exact ⟨rfl, rfl⟩
    · rw [if_neg h2]
      go_enter Try.func57, Try.ntmps57
      go_wp2_with fail
      refine (C.out _ _).mono ?_
      rintro e w1 ⟨rfl, rfl⟩
      go_wp2_with fail
      refine (C.out _ _).mono ?_
      rintro e w1 ⟨rfl, rfl⟩
      go_wp2_with fail
      go_ret
      exact ⟨rfl, rfl⟩

/-- Below B nothing turns, and the draws only grow. -/
structure BelowD (B : Nat) (w W : World) : Prop where
  b : Below B w W
  d : w.drawn ≤ W.drawn
theorem BelowD.refl (B : Nat) (w : World) : BelowD B w w := ⟨Below.refl _ _, Nat.le_refl _⟩
theorem BelowD.trans {B : Nat} {w W X : World} (h : BelowD B w W) (k : BelowD B W X) : BelowD B w X := ⟨h.b.trans k.b, Nat.le_trans h.d k.d⟩
theorem BelowD.mono {B C : Nat} {w W : World} (h : BelowD B w W) (hc : C ≤ B) : BelowD C w W := ⟨h.b.mono hc, h.d⟩
theorem BelowD.size {B : Nat} {w W : World} (h : BelowD B w W) : w.heap.size ≤ W.heap.size := h.b.size
theorem BelowD.allocW (w : World) (o : Obj) : BelowD w.heap.size w (w.alloc o) := ⟨(Below.refl _ _).alloc (Nat.le_refl _) o, Nat.le_refl _⟩

/-- The first of three numbers that is not zero, or zero. -/
def or3 (x y z : Int) : Int := if x = 0 then if y = 0 then z else y else x
theorem or3_at {x y z : Int} {k : Nat} (h2 : k < 3) (h1 : (1 ≤ k → x = 0) ∧ (2 ≤ k → y = 0)) (hz : [x, y, z].getD k 0 ≠ 0) : or3 x y z = [x, y, z].getD k 0 := by
  match k, h2 with
  | 0, _ => rw [or3, if_neg (by simpa using hz)]; rfl
  | 1, _ => rw [or3, if_pos (h1.1 (Nat.le_refl _)), if_neg (by simpa using hz)]; rfl
  | 2, _ => rw [or3, if_pos (h1.1 (by omega)), if_pos (h1.2 (Nat.le_refl _))]; rfl
set_option maxRecDepth 100000 in
set_option maxHeartbeats 1000000 in
theorem or3_any {w : World} {B : Nat} {A : Option Addr} (c : Nat) (x y z : Int) (hB : B ≤ w.heap.size) (h : Has w B A ([x, y, z].map (.int .i64))) :
    Calls Try.prog 78 #[.slice A 3 c] w fun e w' => e = .returned (.int .i64 (or3 x y z)) ∧ BelowD w.heap.size w w' := by
  have HA := Lib.hid h
  have HAT := Lib.hid (fun k => or3_at (x := x) (y := y) (z := z) (k := k))
  obtain ⟨R, hR⟩ : ∃ R, or3 x y z = R := ⟨_, rfl⟩
  have HR := Lib.hid hR
  rw [hR] at HAT ⊢
  clear h hR
  go_enter Try.func78, Try.ntmps78
  go_wp2_with fail
  go_loopw [8] (fun i wr => ∃ k : Nat, k ≤ 3 ∧ i = .int .i64 k ∧ Hid ((1 ≤ k → x = 0) ∧ (2 ≤ k → y = 0) ∧ (3 ≤ k → z = 0)) ∧ BelowD w.heap.size w wr) (fun i _ => 3 - (intOf i).toNat)
  case atStart => exact ⟨0, Nat.zero_le _, rfl, Lib.hid ⟨fun h => absurd h (by omega), fun h => absurd h (by omega), fun h => absurd h (by omega)⟩, BelowD.refl _ _⟩
  case round =>
    obtain ⟨k, hk, rfl, hz, hq⟩ := hrel
    have hk0 : (0 : Int) ≤ (k : Int) := by omega
    by_cases hlt : (k : Int) < 3
    · have hk2 : k < 3 := by omega
      obtain ⟨a1, rfl, _, e1⟩ := (HA.out.below (hq.b.mono hB)).intAt (k := k) (by simpa using hk2)
      rw [show [x, y, z][k]'(by simpa using hk2) = [x, y, z].getD k 0 from (by rw [List.getD_eq_getElem?_getD, List.getElem?_eq_getElem (by simpa using hk2)]; rfl)] at e1
      have HATk := Lib.hid (HAT.out k hk2 ⟨hz.out.1, hz.out.2.1⟩)
      have HZ : Hid ([x, y, z].getD k 0 = 0 → (1 ≤ k + 1 → x = 0) ∧ (2 ≤ k + 1 → y = 0) ∧ (3 ≤ k + 1 → z = 0)) := Lib.hid (fun h => by
        match k, hk2 with
        | 0, _ => exact ⟨fun _ => by simpa using h, fun h => absurd h (by omega), fun h => absurd h (by omega)⟩
        | 1, _ => exact ⟨fun _ => hz.out.1 (Nat.le_refl _), fun _ => by simpa using h, fun h => absurd h (by omega)⟩
        | 2, _ => exact ⟨fun _ => hz.out.1 (by omega), fun _ => hz.out.2.1 (Nat.le_refl _), fun _ => by simpa using h⟩)
      generalize [x, y, z].getD k 0 = v at e1 HATk HZ
      have hk2' : (k : Int) < ((3 : Nat) : Int) := by omega
      clear HAT HR hz hk2
      by_cases hz0 : v = 0
      · have hzb : (v != 0) = false := by simp [hz0]
        have HT := Lib.hid (HZ.out hz0)
        clear HZ HATk hz0
        go_wp2_with fail
        go_roundw
        case rel => exact ⟨k + 1, by omega, by go_num, HT, hq⟩
        case measure => simp [intOf]; omega
      · have hzb : (v != 0) = true := by simp [hz0]
        obtain rfl : R = v := HATk.out hz0
        clear HZ HATk hz0
        go_wp2_with fail
        go_ret
        exact ⟨rfl, hq⟩
    · obtain rfl : R = 0 := by
        have h1 := hz.out.1 (by omega)
        have h2 := hz.out.2.1 (by omega)
        have h3 := hz.out.2.2 (by omega)
        rw [← HR.out, or3, if_pos h1, if_pos h2, h3]
      clear HAT HR hz
      go_wp2_with fail
      go_ret
      exact ⟨rfl, hq⟩

theorem has_new3 (w : World) (x y z : Value) (t : TypeId) : Has (w.alloc (.cells #[x, y, z] t)) (w.heap.size + 1) (some ⟨w.heap.size, 0, none⟩) [x, y, z] := by
  intro k u h
  refine ⟨_, rfl, Nat.lt_succ_self _, ?_⟩
  rw [show (⟨w.heap.size, 0, none⟩ : Addr).add k = ⟨w.heap.size, k, none⟩ from (by unfold Addr.add; split <;> simp_all), sNew]
  simpa using h
end Go.Proofs.Ytjlgabhkpoonkab
