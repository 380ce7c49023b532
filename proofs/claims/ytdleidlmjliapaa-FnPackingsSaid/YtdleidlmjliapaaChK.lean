/- Chapter 4: FirstPacking of the program: the chain turned into a row. -/
import Derived.Test.YtdleidlmjliapaaChJ
import Derived.Deep.RegionHeld3
namespace Go.Proofs.Ytdleidlmjliapaa
open Go.RowKit Go.PlainAid Go.Sort
set_option linter.unusedVariables false
set_option linter.unusedSimpArgs false

theorem cell_two_new (w : World) (a b : Value) (t : TypeId) : ∀ j u, [a, b][j]? = some u → (w.alloc (.cells #[a, b] t)).cell? ((⟨w.heap.size, 0, none⟩ : Addr).add j) = some u := by
  intro j u hu
  match j, hu with
  | 0, hu => exact (sNew w #[a, b] t 0).trans hu
  | 1, hu => exact (sNew w #[a, b] t 1).trans hu
theorem cell_three_new (w : World) (a b c : Value) (t : TypeId) : ∀ j u, [a, b, c][j]? = some u → (w.alloc (.cells #[a, b, c] t)).cell? ((⟨w.heap.size, 0, none⟩ : Addr).add j) = some u := by
  intro j u hu
  match j, hu with
  | 0, hu => exact (sNew w #[a, b, c] t 0).trans hu
  | 1, hu => exact (sNew w #[a, b, c] t 1).trans hu
  | 2, hu => exact (sNew w #[a, b, c] t 2).trans hu

/-- A list with k places at each end turned round. -/
def TurnedA {α : Type} (xs : List α) (k : Nat) (ys : List α) : Prop := ys.length = xs.length ∧ ∀ j (h : j < xs.length), ys[j]? = some (if j < k ∨ xs.length ≤ j + k then xs[xs.length - 1 - j] else xs[j])
theorem turnedA_start {α : Type} (xs : List α) : TurnedA xs 0 xs := ⟨rfl, fun j hj => by rw [if_neg (by omega)]; simp [hj]⟩
theorem turnedA_end {α : Type} {xs : List α} {k : Nat} {ys : List α} (h : TurnedA xs k ys) (hk : xs.length ≤ k + k + 1) : ys = xs.reverse := by
  apply List.ext_getElem?
  intro j
  by_cases hj : j < xs.length
  · rw [h.2 j hj, List.getElem?_reverse hj]
    split
    · simp [List.getElem?_eq_getElem (show xs.length - 1 - j < xs.length by omega)]
    · have : xs.length - 1 - j = j := by omega
      simp [this, hj]
  · rw [List.getElem?_eq_none (by rw [h.1]; omega), List.getElem?_eq_none (by simp; omega)]
theorem turnedA_step {α : Type} {xs : List α} {k b : Nat} {ys : List α} (h : TurnedA xs k ys) (hb : k + b + 1 = xs.length) (hkb : k < b) (hk : k < xs.length) (hb' : b < xs.length) :
    TurnedA xs (k + 1) ((ys.set k xs[b]).set b xs[k]) := by
  refine ⟨by simpa using h.1, fun j hj => ?_⟩
  have hl := h.1
  rcases Nat.lt_trichotomy j b with h1 | h1 | h1
  · rcases Nat.lt_trichotomy j k with h2 | h2 | h2
    · rw [List.getElem?_set_ne (by omega), List.getElem?_set_ne (by omega), h.2 j hj, if_pos (by omega), if_pos (by omega)]
    · subst h2
      have e : xs.length - 1 - j = b := by omega
      rw [List.getElem?_set_ne (by omega), List.getElem?_set_self (by omega), if_pos (by omega)]
      simp [e]
    · rw [List.getElem?_set_ne (by omega), List.getElem?_set_ne (by omega), h.2 j hj, if_neg (by omega), if_neg (by omega)]
  · subst h1
    have e : xs.length - 1 - j = k := by omega
    rw [List.getElem?_set_self (by simp; omega), if_pos (by omega)]
    simp [e]
  · rw [List.getElem?_set_ne (by omega), List.getElem?_set_ne (by omega), h.2 j hj, if_pos (by omega), if_pos (by omega)]
theorem flatSpot_set : ∀ (ys : List TSpot) (k : Nat) (v : TSpot), k < ys.length → flatSpot (ys.set k v) = ((flatSpot ys).set (k * 2) (.int .i64 v.x0)).set (k * 2 + 1) (.int .i64 v.x1)
  | [], k, v, h => absurd h (by simp)
  | y :: t, 0, v, _ => rfl
  | y :: t, k + 1, v, h => by
    have ih := flatSpot_set t k v (by simpa using h)
    have e : (k + 1) * 2 = k * 2 + 1 + 1 := by omega
    rw [List.set_cons_succ, flatSpot, ih, e]
    rfl
set_option maxRecDepth 100000 in
set_option maxHeartbeats 2000000 in
theorem revS_any (g n c base : Nat) (xs : List TSpot) (w : World) (hn : xs.length = n) (hm : n ≤ 1000) (hown : w.ownsRow base 42 2 (.slice (some ⟨g, 0, none⟩) n c) n (flatSpot xs)) :
    Calls Try.prog 36 #[.slice (some ⟨g, 0, none⟩) n c] w fun e w' => e = .returned (.tuple #[]) ∧
      w'.ownsRow base 42 2 (.slice (some ⟨g, 0, none⟩) n c) n (flatSpot xs.reverse) ∧ w.grownBy w' (some g) := by
  have HL := Lib.hid hn
  have hstart := Lib.hid (turnedA_start xs)
  clear hn
  go_enter Try.func36, Try.ntmps36
  go_wp2_with fail
  go_loopw [2, 3] (fun p q wr => ∃ (k : Nat) (ys : List TSpot), k ≤ n ∧ p = .int .i64 k ∧ q = .int .i64 ((n : Int) - 1 - k) ∧ wr.ownsRow base 42 2 (.slice (some ⟨g, 0, none⟩) n c) n (flatSpot ys) ∧ Hid (TurnedA xs k ys) ∧ w.grownBy wr (some g)) (fun p _ _ => n - (intOf p).toNat)
  case atStart => exact ⟨0, _, Nat.zero_le _, rfl, by simp, hown, hstart, World.grownBy.refl _ _⟩
  case round =>
    obtain ⟨k, ys, hk, rfl, rfl, hown, ht, hg⟩ := hrel
    by_cases hlt : (k : Int) < (n : Int) - 1 - k
    · obtain ⟨b, hb⟩ : ∃ b : Nat, k + b + 1 = n := ⟨n - 1 - k, by omega⟩
      have hbi : (n : Int) - 1 - k = (b : Int) := by omega
      rw [hbi] at hlt ⊢
      have hyl : ys.length = n := by rw [ht.out.1, HL.out]
      have hxl : (flatSpot ys).length = n * 2 := by rw [flatSpot_len]; omega
      have hk' : k < xs.length := by rw [HL.out]; omega
      have hb' : b < xs.length := by rw [HL.out]; omega
      obtain ⟨p0, p1⟩ := flatSpot_at ys k (by omega)
      obtain ⟨q0, q1⟩ := flatSpot_at ys b (by omega)
      have yk : ys[k]'(by omega) = xs[k] := by have := ht.out.2 k hk'; rw [if_neg (by rw [HL.out]; omega), List.getElem?_eq_getElem (by omega)] at this; injection this
      have yb : ys[b]'(by omega) = xs[b] := by have := ht.out.2 b hb'; rw [if_neg (by rw [HL.out]; omega), List.getElem?_eq_getElem (by omega)] at this; injection this
      rw [yk] at p0 p1
      rw [yb] at q0 q1
      have c0 := (hown.cellAt (k * 2) (by omega)).trans p0
      have c1 := (hown.cellAt (k * 2 + 1) (by omega)).trans p1
      have d0 := (hown.cellAt (b * 2) (by omega)).trans q0
      have d1 := (hown.cellAt (b * 2 + 1) (by omega)).trans q1
      have HT := Lib.hid (turnedA_step ht.out (by rw [HL.out]; exact hb) (by omega) hk' hb')
      have f0 := hown.frozenAt (k * 2)
      have f1 := hown.frozenAt (k * 2 + 1)
      have f2 := hown.frozenAt (b * 2)
      have f3 := hown.frozenAt (b * 2 + 1)
      have HE := Lib.hid (fun (x y : TSpot) => show flatSpot ((ys.set k y).set b x) = ((((flatSpot ys).set (k * 2) (.int .i64 y.x0)).set (k * 2 + 1) (.int .i64 y.x1)).set (b * 2) (.int .i64 x.x0)).set (b * 2 + 1) (.int .i64 x.x1) by rw [flatSpot_set _ _ _ (by simp; omega), flatSpot_set _ _ _ (by omega)])
      clear p0 p1 q0 q1 yk yb
      generalize xs[k]'hk' = x at c0 c1 HT
      generalize xs[b]'hb' = y at d0 d1 HT
      obtain ⟨x0, x1⟩ := x
      obtain ⟨y0, y1⟩ := y
      dsimp only at c0 c1 d0 d1
      have hk0 : (0 : Int) ≤ (k : Int) := by omega
      have hk1 : (k : Int) < (n : Int) := by omega
      have hb0 : (0 : Int) ≤ (b : Int) := by omega
      have hb1 : (b : Int) < (n : Int) := by omega
      have HO := Lib.hid hown
      have HG := Lib.hid hg
      clear ht hown hg hstart hbi hxl hyl
      go_wp2_with fail
      go_region
      go_wp2_with fail
      have s0 := HO.out.stored (k * 2) (.int .i64 y0)
      have s1 := s0.1.stored (k * 2 + 1) (.int .i64 y1)
      have s2 := s1.1.stored (b * 2) (.int .i64 x0)
      have s3 := s2.1.stored (b * 2 + 1) (.int .i64 x1)
      go_roundw
      case rel => exact ⟨k + 1, _, by omega, by go_num, by congr 1; push_cast; omega, by rw [HE.out ⟨x0, x1⟩ ⟨y0, y1⟩]; exact (Drawn.one _ 1).own s3.1, HT, ((((HG.out.trans s0.2).trans s1.2).trans s2.2).trans s3.2).trans ((Drawn.one _ 1).below _ |> fun h => ⟨h.os, h.tape, h.output, h.size, fun k hk _ => h.block k hk⟩)⟩
      case measure => simp [intOf]; omega
    · have he : Hid (ys = xs.reverse) := Lib.hid (turnedA_end ht.out (by rw [HL.out]; omega))
      clear ht hstart
      go_wp2_with fail
      refine bodyPost_end (results_none rfl _ _ _) rfl ?_
      obtain rfl := he.out
      exact ⟨rfl, hown, hg⟩
end Go.Proofs.Ytdleidlmjliapaa
