/- slices.Reverse over integers. -/
import Derived.Test.YtgnopkemcgbedabIntS
import Derived.Deep.RegionHeld3
namespace Go.Proofs.Ytgnopkemcgbedab
open Go.RowKit Go.PlainAid

/-- The list xs with k places at each end turned round. -/
def Turned (xs : List Int) (k : Nat) (ys : List Value) : Prop := ys.length = xs.length ∧ ∀ j (h : j < xs.length), ys[j]? = some (.int .i64 (if j < k ∨ xs.length ≤ j + k then xs[xs.length - 1 - j] else xs[j]))

theorem turned_end {xs : List Int} {k : Nat} {ys : List Value} (h : Turned xs k ys) (hk : xs.length ≤ k + k + 1) : ys = xs.reverse.map (.int .i64) := by
  apply List.ext_getElem?
  intro j
  by_cases hj : j < xs.length
  · rw [h.2 j hj, List.getElem?_map, List.getElem?_reverse hj]
    split
    · simp [List.getElem?_eq_getElem (show xs.length - 1 - j < xs.length by omega)]
    · have : xs.length - 1 - j = j := by omega
      simp [this, hj]
  · rw [List.getElem?_eq_none (by rw [h.1]; omega), List.getElem?_eq_none (by simp; omega)]
theorem turned_step {xs : List Int} {k b : Nat} {ys : List Value} (h : Turned xs k ys) (hb : k + b + 1 = xs.length) (hkb : k < b) (hk : k < xs.length) (hb' : b < xs.length) :
    Turned xs (k + 1) ((ys.set k (.int .i64 xs[b])).set b (.int .i64 xs[k])) := by
  refine ⟨by simpa using h.1, fun j hj => ?_⟩
  have hl := h.1
  rcases Nat.lt_trichotomy j b with h1 | h1 | h1
  · rcases Nat.lt_trichotomy j k with h2 | h2 | h2
    · rw [List.getElem?_set_ne (by omega), List.getElem?_set_ne (by omega), h.2 j hj, if_pos (by omega), if_pos (by omega)]
    · subst h2
      have e : xs.length - 1 - j = b := by omega
      rw [List.getElem?_set_ne (by omega), List.getElem?_set_self (by omega), if_pos (by omega)]
      simp [e]
    · rw [List.getElem?_set_ne (by omega), List.getElem?_set_ne (by omega), h.2 j hj, if_neg (by omega), if_neg (by omega)]
  · subst h1
    have e : xs.length - 1 - j = k := by omega
    rw [List.getElem?_set_self (by simp; omega), if_pos (by omega)]
    simp [e]
  · rw [List.getElem?_set_ne (by omega), List.getElem?_set_ne (by omega), h.2 j hj, if_pos (by omega), if_pos (by omega)]
theorem set_swap {ys : List Value} {a b : Nat} {u v : Value} (h : a ≠ b) : (ys.set a u).set b v = (ys.set b v).set a u := List.set_comm _ _ h

set_option maxHeartbeats 1000000 in
theorem rev_any (g n c base : Nat) (xs : List Int) (w : World) (hn : xs.length = n) (hm : n ≤ 1000) (hown : w.ownsRow base 3 1 (.slice (some ⟨g, 0, none⟩) n c) n (xs.map (.int .i64))) :
    Calls Try.prog 51 #[.slice (some ⟨g, 0, none⟩) n c] w fun e w' => e = .returned (.tuple #[]) ∧
      w'.ownsRow base 3 1 (.slice (some ⟨g, 0, none⟩) n c) n (xs.reverse.map (.int .i64)) ∧ w.grownBy w' (some g) := by
  have HL := Lib.hid hn
  have hstart : Hid (Turned xs 0 (xs.map (.int .i64))) := Lib.hid ⟨by simp, fun j hj => by rw [if_neg (by omega)]; simp [hj]⟩
  clear hn
  go_enter Try.func51, Try.ntmps51
  go_wp2_with fail
  go_loopw [2, 3] (fun p q wr => ∃ (k : Nat) (ys : List Value), k ≤ n ∧ p = .int .i64 k ∧ q = .int .i64 ((n : Int) - 1 - k) ∧ wr.ownsRow base 3 1 (.slice (some ⟨g, 0, none⟩) n c) n ys ∧ Hid (Turned xs k ys) ∧ w.grownBy wr (some g)) (fun p _ _ => n - (intOf p).toNat)
  case atStart => exact ⟨0, _, Nat.zero_le _, rfl, by simp, hown, hstart, World.grownBy.refl _ _⟩
  case round =>
    obtain ⟨k, ys, hk, rfl, rfl, hown, ht, hg⟩ := hrel
    by_cases hlt : (k : Int) < (n : Int) - 1 - k
    · obtain ⟨b, hb⟩ : ∃ b : Nat, k + b + 1 = n := ⟨n - 1 - k, by omega⟩
      have hbi : (n : Int) - 1 - k = (b : Int) := by omega
      rw [hbi] at hlt ⊢
      have hxl : ys.length = n := by have := hown.1; omega
      have hc := hown.cellAt k (by omega)
      have hd := hown.cellAt b (by omega)
      have hk' : k < xs.length := by rw [HL.out]; omega
      have hb' : b < xs.length := by rw [HL.out]; omega
      rw [ht.out.2 k hk', if_neg (by rw [HL.out]; omega)] at hc
      rw [ht.out.2 b hb', if_neg (by rw [HL.out]; omega)] at hd
      have HT := Lib.hid (turned_step ht.out (by rw [HL.out]; exact hb) (by omega) hk' hb')
      have f1 := hown.frozenAt k
      have f2 := hown.frozenAt b
      generalize xs[k]'hk' = x at hc HT
      generalize xs[b]'hb' = y at hd HT
      have hk0 : (0 : Int) ≤ (k : Int) := by omega
      have hk1 : (k : Int) < (n : Int) := by omega
      have hb0 : (0 : Int) ≤ (b : Int) := by omega
      have hb1 : (b : Int) < (n : Int) := by omega
      have HO := Lib.hid hown
      have HG := Lib.hid hg
      clear ht hown hg hstart hbi
      go_wp2_with fail
      go_region
      go_wp2_with fail
      have s1 := HO.out.stored k (.int .i64 y)
      have s2 := s1.1.stored b (.int .i64 x)
      have hd : Drawn ((wr.setCell ⟨g, k, none⟩ (.int .i64 y)).setCell ⟨g, b, none⟩ (.int .i64 x)) ((wr.setCell ⟨g, k, none⟩ (.int .i64 y)).setCell ⟨g, b, none⟩ (.int .i64 x)).drew := ⟨1, rfl⟩
      go_roundw
      case rel => exact ⟨k + 1, _, by omega, by go_num, by congr 1; push_cast; omega, hd.own s2.1, HT, ((HG.out.trans s1.2).trans s2.2).trans (hd.below _ |> fun h => ⟨h.os, h.tape, h.output, h.size, fun k hk _ => h.block k hk⟩)⟩
      case measure => simp [intOf]; omega
    · have he : Hid (ys = xs.reverse.map (.int .i64)) := Lib.hid (turned_end ht.out (by rw [HL.out]; omega))
      clear ht hstart
      go_wp2_with fail
      refine bodyPost_end (results_none rfl _ _ _) rfl ?_
      obtain rfl := he.out
      exact ⟨rfl, by rw [← List.map_reverse]; exact hown, hg⟩
end Go.Proofs.Ytgnopkemcgbedab
