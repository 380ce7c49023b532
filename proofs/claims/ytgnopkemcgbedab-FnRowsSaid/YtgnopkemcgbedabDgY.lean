/- Chapter 7, the program: a part of a row turned round. -/
import Derived.Test.YtgnopkemcgbedabDgX
import Derived.Test.YtgnopkemcgbedabOrdP
import Derived.Deep.RegionHeld3
namespace Go.Proofs.Ytgnopkemcgbedab
open Go.RowKit Go.PlainAid Go.Sort
set_option linter.unusedVariables false
set_option linter.unusedSimpArgs false

theorem flatCargo_set : ∀ (ys : List TCargo) (k : Nat) (v : TCargo), k < ys.length → flatCargo (ys.set k v) = (((flatCargo ys).set (k * 3) (.int .i64 v.x0)).set (k * 3 + 1) (.int .i64 v.x1)).set (k * 3 + 2) (.int .i64 v.x2)
  | [], k, v, h => absurd h (by simp)
  | y :: t, 0, v, _ => rfl
  | y :: t, k + 1, v, h => by
    have ih := flatCargo_set t k v (by simpa using h)
    have e : (k + 1) * 3 = k * 3 + 1 + 1 + 1 := by omega
    rw [List.set_cons_succ, flatCargo, ih, e]
    rfl
theorem addO (g o j : Nat) : (⟨g, o, none⟩ : Addr).add j = ⟨g, o + j, none⟩ := by unfold Addr.add; split <;> simp_all
/-- A vessel of an own row, in the forms that the walk asks for. -/
theorem own_atC {w : World} {base g n c : Nat} {xs : List TCargo} (h : w.ownsRow base 54 3 (.slice (some ⟨g, 0, none⟩) n c) n (flatCargo xs)) (hl : xs.length = n) {k : Nat} (hk : k < n) :
    w.cell? ⟨g, k * 3, none⟩ = some (.int .i64 (xs.getD k noCargo).x0) ∧ w.cell? ⟨g, k * 3 + 1, none⟩ = some (.int .i64 (xs.getD k noCargo).x1) ∧ w.cell? ⟨g, k * 3 + 2, none⟩ = some (.int .i64 (xs.getD k noCargo).x2) := by
  obtain ⟨f0, f1, f2⟩ := flatCargo_at xs k (by omega)
  rw [getCargo (by omega)]
  exact ⟨(h.cellAt (k * 3) (by omega)).trans f0, (h.cellAt (k * 3 + 1) (by omega)).trans f1, (h.cellAt (k * 3 + 2) (by omega)).trans f2⟩
/-- Three cells of a row written over. -/
theorem own_setC {w : World} {base g n c : Nat} {xs : List TCargo} (h : w.ownsRow base 54 3 (.slice (some ⟨g, 0, none⟩) n c) n (flatCargo xs)) (hl : xs.length = n) {k : Nat} (hk : k < n) (x0 x1 x2 : Int) :
    (((w.setCell ⟨g, k * 3, none⟩ (.int .i64 x0)).setCell ⟨g, k * 3 + 1, none⟩ (.int .i64 x1)).setCell ⟨g, k * 3 + 2, none⟩ (.int .i64 x2)).ownsRow base 54 3 (.slice (some ⟨g, 0, none⟩) n c) n (flatCargo (xs.set k ⟨x0, x1, x2⟩)) ∧
    w.grownBy (((w.setCell ⟨g, k * 3, none⟩ (.int .i64 x0)).setCell ⟨g, k * 3 + 1, none⟩ (.int .i64 x1)).setCell ⟨g, k * 3 + 2, none⟩ (.int .i64 x2)) (some g) := by
  have s0 := h.stored (k * 3) (.int .i64 x0)
  have s1 := s0.1.stored (k * 3 + 1) (.int .i64 x1)
  have s2 := s1.1.stored (k * 3 + 2) (.int .i64 x2)
  rw [flatCargo_set _ _ _ (by omega)]
  exact ⟨s2.1, (s0.2.trans s1.2).trans s2.2⟩

set_option maxRecDepth 100000 in
set_option maxHeartbeats 4000000 in
theorem revC_any (a : Addr) (g o m n c c2 base : Nat) (xs : List TCargo) (w : World) (ha : a = ⟨g, o * 3, none⟩) (hx : xs.length = n) (ho : o + m = n) (hm : n ≤ 1000) (hown : w.ownsRow base 54 3 (.slice (some ⟨g, 0, none⟩) n c) n (flatCargo xs)) :
    Calls Try.prog 105 #[.slice (some a) m c2] w fun e w' => e = .returned (.tuple #[]) ∧
      w'.ownsRow base 54 3 (.slice (some ⟨g, 0, none⟩) n c) n (flatCargo (xs.take o ++ (xs.drop o).reverse)) ∧ w.grownBy w' (some g) := by
  have HAD := Lib.hid (fun j => show a.add j = ⟨g, o * 3 + j, none⟩ by rw [ha, addO])
  have HL : Hid ((xs.drop o).length = m) := Lib.hid (by rw [List.length_drop]; omega)
  have HTK : Hid ((xs.take o).length = o) := Lib.hid (by rw [List.length_take]; omega)
  have hstart := Lib.hid (turnedA_start (xs.drop o))
  have HO0 : Hid (w.ownsRow base 54 3 (.slice (some ⟨g, 0, none⟩) n c) n (flatCargo (xs.take o ++ xs.drop o))) := Lib.hid (by rw [List.take_append_drop]; exact hown)
  generalize xs.drop o = ds at HL hstart HO0 ⊢
  generalize xs.take o = hs at HTK HO0 ⊢
  clear hown hx ha
  go_enter Try.func105, Try.ntmps105
  go_wp2_with fail
  go_loopw [2, 3] (fun p q wr => ∃ (k : Nat) (ys : List TCargo), k ≤ m ∧ p = .int .i64 k ∧ q = .int .i64 ((m : Int) - 1 - k) ∧ Hid (wr.ownsRow base 54 3 (.slice (some ⟨g, 0, none⟩) n c) n (flatCargo (hs ++ ys))) ∧ Hid (TurnedA ds k ys) ∧ w.grownBy wr (some g)) (fun p _ _ => m - (intOf p).toNat)
  case atStart => exact ⟨0, ds, Nat.zero_le _, rfl, by simp, HO0, hstart, World.grownBy.refl _ _⟩
  case round =>
    clear HO0 hstart
    obtain ⟨k, ys, hk, rfl, rfl, HO, ht, hg⟩ := hrel
    by_cases hlt : (k : Int) < (m : Int) - 1 - k
    · obtain ⟨b, hb⟩ : ∃ b : Nat, k + b + 1 = m := ⟨m - 1 - k, by omega⟩
      have hbi : (m : Int) - 1 - k = (b : Int) := by omega
      rw [hbi] at hlt ⊢
      have hyl : ys.length = m := by rw [ht.out.1, HL.out]
      have hk' : k < ds.length := by rw [HL.out]; omega
      have hb' : b < ds.length := by rw [HL.out]; omega
      have yk : ys[k]'(by omega) = ds[k] := by have := ht.out.2 k hk'; rw [if_neg (by rw [HL.out]; omega), List.getElem?_eq_getElem (by omega)] at this; injection this
      have yb : ys[b]'(by omega) = ds[b] := by have := ht.out.2 b hb'; rw [if_neg (by rw [HL.out]; omega), List.getElem?_eq_getElem (by omega)] at this; injection this
      have hHl : (hs ++ ys).length = n := by rw [List.length_append, HTK.out, hyl]; exact ho
      obtain ⟨c0, c1, c2'⟩ := own_atC HO.out hHl (k := o + k) (by omega)
      obtain ⟨d0, d1, d2⟩ := own_atC HO.out hHl (k := o + b) (by omega)
      have gk : (hs ++ ys).getD (o + k) noCargo = ds[k] := by
        rw [List.getD_eq_getElem?_getD, List.getElem?_append_right (by rw [HTK.out]; omega), HTK.out, Nat.add_sub_cancel_left, List.getElem?_eq_getElem (by omega), yk]; rfl
      have gb : (hs ++ ys).getD (o + b) noCargo = ds[b] := by
        rw [List.getD_eq_getElem?_getD, List.getElem?_append_right (by rw [HTK.out]; omega), HTK.out, Nat.add_sub_cancel_left, List.getElem?_eq_getElem (by omega), yb]; rfl
      rw [gk] at c0 c1 c2'
      rw [gb] at d0 d1 d2
      have HT := Lib.hid (turnedA_step ht.out (by rw [HL.out]; exact hb) (by omega) hk' hb')
      have HAP := Lib.hid (fun (x y : TCargo) => show ((hs ++ ys).set (o + k) y).set (o + b) x = hs ++ (ys.set k y).set b x by
        rw [List.set_append, if_neg (by rw [HTK.out]; omega), HTK.out, Nat.add_sub_cancel_left, List.set_append, if_neg (by rw [HTK.out]; omega), HTK.out, Nat.add_sub_cancel_left])
      have ek : a.add (k * 3) = ⟨g, (o + k) * 3, none⟩ := by rw [HAD.out]; congr 1; omega
      have eb : a.add (b * 3) = ⟨g, (o + b) * 3, none⟩ := by rw [HAD.out]; congr 1; omega
      have f0 := HO.out.frozenAt ((o + k) * 3)
      have f1 := HO.out.frozenAt ((o + k) * 3 + 1)
      have f2 := HO.out.frozenAt ((o + k) * 3 + 2)
      have f3 := HO.out.frozenAt ((o + b) * 3)
      have f4 := HO.out.frozenAt ((o + b) * 3 + 1)
      have f5 := HO.out.frozenAt ((o + b) * 3 + 2)
      clear yk yb gk gb
      generalize ds[k]'hk' = x at c0 c1 c2' HT
      generalize ds[b]'hb' = y at d0 d1 d2 HT
      obtain ⟨x0, x1, x2⟩ := x
      obtain ⟨y0, y1, y2⟩ := y
      dsimp only at c0 c1 c2' d0 d1 d2
      obtain ⟨K, hK9⟩ : ∃ K, o + k = K := ⟨_, rfl⟩
      obtain ⟨L, hL9⟩ : ∃ L, o + b = L := ⟨_, rfl⟩
      rw [hK9] at c0 c1 c2' f0 f1 f2 ek HAP
      rw [hL9] at d0 d1 d2 f3 f4 f5 eb HAP
      have hKL : K ≠ L := by omega
      have hk0 : (0 : Int) ≤ (k : Int) := by omega
      have hk1 : (k : Int) < (m : Int) := by omega
      have hb0 : (0 : Int) ≤ (b : Int) := by omega
      have hb1 : (b : Int) < (m : Int) := by omega
      have HG := Lib.hid hg
      have HHL := Lib.hid hHl
      have hKn : K < n := by omega
      have hLn : L < n := by omega
      clear ht hg hbi hyl hHl hk' hb' HAD HTK hK9 hL9
      go_wp2_with fail
      go_region
      all_goals go_wp2_with fail
      have s0 := own_setC HO.out HHL.out hKn y0 y1 y2
      have s1 := own_setC s0.1 (by simpa using HHL.out) hLn x0 x1 x2
      rw [HAP.out ⟨x0, x1, x2⟩ ⟨y0, y1, y2⟩] at s1
      go_roundw
      case rel => exact ⟨k + 1, _, by omega, by go_num, by congr 1; push_cast; omega, Lib.hid ((Drawn.one _ 1).own s1.1), HT, ((HG.out.trans s0.2).trans s1.2).trans ((Drawn.one _ 1).below _ |> fun h => ⟨h.os, h.tape, h.output, h.size, fun k hk _ => h.block k hk⟩)⟩
      case measure => simp [intOf]; omega
    · have he : Hid (ys = ds.reverse) := Lib.hid (turnedA_end ht.out (by rw [HL.out]; omega))
      clear ht
      go_wp2_with fail
      refine bodyPost_end (results_none rfl _ _ _) rfl ?_
      obtain rfl := he.out
      exact ⟨rfl, HO.out, hg⟩
end Go.Proofs.Ytgnopkemcgbedab
