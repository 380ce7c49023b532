/- Chapter 7: what FnRows compares: lists of numbers and of pairs. -/
import Derived.Test.YtgnopkemcgbedabDgV
namespace Go.Proofs.Ytgnopkemcgbedab
open Go.RowKit Go.PlainAid Go.Sort
set_option linter.unusedVariables false
set_option linter.unusedSimpArgs false

set_option maxHeartbeats 400000 in
theorem rInts_two (A1 A2 : Option Addr) (n c1 c2 B1 B2 : Nat) (zs : List Int) (w : World) (hn : zs.length = n) (hm : n ≤ maxLen)
    (h1 : Has w B1 A1 (zs.map (.int .i64))) (h2 : Has w B2 A2 (zs.map (.int .i64))) :
    Calls Try.prog 28 #[.slice A1 n c1, .slice A2 n c2] w fun e w' => e = .returned (.bool true) ∧ Below w.heap.size w w' := by
  unfold maxLen at hm
  go_enter Try.func28, Try.ntmps28
  go_wp2
  go_loopw [5] (fun i wr => ∃ k : Nat, k ≤ n ∧ i = .int .i64 k ∧ Drawn w wr) (fun i _ => n - (intOf i).toNat)
  case atStart => exact ⟨0, Nat.zero_le _, rfl, Drawn.refl _⟩
  case round =>
    obtain ⟨k, hk, rfl, hD⟩ := hrel
    by_cases hlt : k < n
    · obtain ⟨a1, rfl, _, e1⟩ := (hD.has h1).intAt (k := k) (by omega)
      obtain ⟨a2, rfl, _, e2⟩ := (hD.has h2).intAt (k := k) (by omega)
      have hne : (zs[k] != zs[k]) = false := by simp
      generalize zs[k] = s at e1 e2 hne
      clear h1 h2 hn
      have hk0 : (0 : Int) ≤ (k : Int) := by omega
      have hk1 : (k : Int) < (n : Int) := by omega
      go_wp2
      go_quiet (fail)
      go_wp2
      go_roundw
      case rel => exact ⟨k + 1, by omega, by go_num, hD.step _⟩
      case measure => simp [intOf]; omega
    · obtain rfl : k = n := by omega
      clear h1 h2 hn
      go_wp2
      go_ret
      exact ⟨rfl, hD.below _⟩
theorem rPr_same {w : World} {g1 g2 : Nat} {x y : Int} (h1 : BoxI w g1 x y) (h2 : BoxI w g2 x y) :
    Calls Try.prog 28 #[.slice (some ⟨g1, 0, none⟩) 2 2, .slice (some ⟨g2, 0, none⟩) 2 2] w fun e w' => e = .returned (.bool true) ∧ Below w.heap.size w w' :=
  rInts_two _ _ 2 2 2 _ _ [x, y] w rfl (by unfold maxLen; omega) h1.has h2.has
theorem numsR_at {M N : List TPr} (h : numsPr M = numsPr N) {k : Nat} (hk : k < M.length) : N.length = M.length ∧ (N.getD k noPr).x = (M.getD k noPr).x ∧ (N.getD k noPr).y = (M.getD k noPr).y := by
  have hl : N.length = M.length := by have := congrArg List.length h; simpa [numsPr] using this.symm
  have h1 : (numsPr M)[k]? = (numsPr N)[k]? := by rw [h]
  unfold numsPr at h1
  rw [List.getElem?_map, List.getElem?_map, List.getElem?_eq_getElem hk, List.getElem?_eq_getElem (by omega)] at h1
  simp only [Option.map_some, Option.some.injEq, Prod.mk.injEq] at h1
  rw [getPr hk, getPr (by omega)]
  exact ⟨hl, h1.1.symm, h1.2.symm⟩
set_option maxHeartbeats 1000000 in
theorem rTable_same {w : World} {b1 b2 d1 d2 g1 g2 n c1 c2 : Nat} {M N : List TPr} (hMN : numsPr M = numsPr N) (hn : M.length = n) (hm : n ≤ 1000)
    (h1 : w.ownsRow b1 25 1 (.slice (some ⟨g1, 0, none⟩) n c1) n (M.map valPr)) (e1 : EachPr d1 w M)
    (h2 : w.ownsRow b2 25 1 (.slice (some ⟨g2, 0, none⟩) n c2) n (N.map valPr)) (e2 : EachPr d2 w N) :
    Calls Try.prog 37 #[.slice (some ⟨g1, 0, none⟩) n c1, .slice (some ⟨g2, 0, none⟩) n c2] w fun e w' => e = .returned (.bool true) ∧ Below w.heap.size w w' := by
  have H1 := Lib.hid h1
  have H2 := Lib.hid h2
  have E1 := Lib.hid e1
  have E2 := Lib.hid e2
  have HN := Lib.hid hMN
  have HL := Lib.hid hn
  clear h1 h2 e1 e2 hMN hn
  go_enter Try.func37, Try.ntmps37
  go_wp2_with fail
  go_loopw [5] (fun i wr => ∃ k : Nat, k ≤ n ∧ i = .int .i64 k ∧ Below w.heap.size w wr) (fun i _ => n - (intOf i).toNat)
  case atStart => exact ⟨0, Nat.zero_le _, rfl, Below.refl _ _⟩
  case round =>
    obtain ⟨k, hk, rfl, hb⟩ := hrel
    by_cases hlt : k < n
    · have hkM : k < M.length := by have := HL.out; omega
      obtain ⟨hNl, hx, hy⟩ := numsR_at HN.out hkM
      have u1 := ownPr_cell (own_below H1.out hb) hlt
      have u2 := ownPr_cell (own_below H2.out hb) hlt
      have q1 := ((E1.out.all hb).box _ (List.getElem_mem hkM)).2
      have q2 := ((E2.out.all hb).box _ (List.getElem_mem (show k < N.length by omega))).2
      rw [← getPr hkM] at q1
      rw [← getPr (show k < N.length by omega), hx, hy] at q2
      generalize (M.getD k noPr).x = x at q1 q2
      generalize (M.getD k noPr).y = y at q1 q2
      unfold valPr at u1 u2
      generalize (M.getD k noPr).g = ga at u1 q1
      generalize (N.getD k noPr).g = gb at u2 q2
      have U1 := fun (d : Nat) (os : Array Obj) => cell_regrown u1 d os
      have U2 := fun (d : Nat) (os : Array Obj) => cell_regrown u2 d os
      have cM := fun (dr : Nat) (os : Array Obj) => Calls.regrown_of (w := wr) (d := dr) (os := os) (rPr_same (q1.all (below_regrown wr dr os)) (q2.all (below_regrown wr dr os)))
      have hk0 : (0 : Int) ≤ (k : Int) := by omega
      have hk1 : (k : Int) < (n : Int) := by omega
      have HB := Lib.hid hb
      clear hb H1 H2 E1 E2 u1 u2 q1 q2 hx hy hkM hNl HN HL
      go_wp2_with fail
      refine wp_region_quiet_below (by kernel_rfl) (by kernel_rfl) ?_
      repeat (quiet_step (exact cM _ _))
      refine wpQuiet_nil ?_
      intro _ hw'
      obtain ⟨⟨dq, osq⟩, hw''⟩ := hw'
      subst hw''
      go_wp2_with fail
      go_roundw
      case rel => exact ⟨k + 1, by omega, by go_num, HB.out.trans ((below_regrown wr dq osq).mono HB.out.size)⟩
      case measure => simp [intOf]; omega
    · obtain rfl : k = n := by omega
      clear H1 H2 E1 E2 HN HL
      go_wp2_with fail
      go_ret
      exact ⟨rfl, hb⟩
end Go.Proofs.Ytgnopkemcgbedab
