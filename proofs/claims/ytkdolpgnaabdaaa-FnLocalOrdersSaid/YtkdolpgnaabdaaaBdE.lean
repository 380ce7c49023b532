/- Chapter 9: an exchange of neighbors, of the model and of the program. -/
import Derived.Test.YtkdolpgnaabdaaaBdC
import Derived.Test.YtkdolpgnaabdaaaLkP
import Derived.Lib.LazyBuf
namespace Go.Proofs.Ytkdolpgnaabdaaa
open Go.RowKit Go.PlainAid Go.Sort
set_option linter.unusedVariables false
set_option linter.unusedSimpArgs false

theorem own_capE {w : World} {base : Nat} {e : TypeId} {g n c : Nat} {xs : List Value} {z : Nat} (h : w.ownsRow base e z (.slice (some ⟨g, 0, none⟩) n c) n xs) : n ≤ c := by
  rcases h.2 with ⟨h1, h2⟩ | ⟨g, cap, cur, h1, -, -, h2, -⟩
  · cases h1
  · injection h1 with _ _ h3; omega
set_option maxRecDepth 100000 in
set_option maxHeartbeats 2000000 in
theorem l1OwnE_any {w : World} {B g n c : Nat} {L : List Int} (hm : n ≤ 1000) (h : IsIs w B (some ⟨g, 0, none⟩) n L) :
    Calls Try.prog 87 #[.slice (some ⟨g, 0, none⟩) n c] w fun e w' => ∃ g1 c1, e = .returned (.slice (some ⟨g1, 0, none⟩) n c1) ∧ w.heap.size ≤ g1 ∧ w'.ownsRow w.heap.size 3 1 (.slice (some ⟨g1, 0, none⟩) n c1) n (L.map (.int .i64)) ∧ Below w.heap.size w w' := by
  obtain ⟨i0, hi, hz0, hz1, hz2⟩ := info_parts Try.infoInt'
  have HOWN : Hid ((w.alloc (.cells #[] 3)).ownsRow w.heap.size 3 1 (.slice (some ⟨w.heap.size, 0, none⟩) 0 0) 0 []) := Lib.hid (World.ownsRow_made w #[] 0 (Nat.le_refl _) (by unfold maxLen; omega) rfl)
  have HB := Lib.hid (below1 w (.cells #[] 3))
  have hl : (L.map (Value.int .i64)).length = n * 1 := by rw [List.length_map, h.len, Nat.mul_one]
  have HNEW : Hid (∀ j u, (L.map (Value.int .i64))[j]? = some u → (w.alloc (.cells #[] 3)).cell? ((⟨g, 0, none⟩ : Addr).add j) = some u) := Lib.hid (fun j u hu => by
    obtain ⟨a0, ea0, -, hc0⟩ := (h.below HB.out h.low).has j u hu
    injection ea0 with ea0
    subst ea0
    exact hc0)
  have HXO : Hid (∀ u ∈ L.map (Value.int .i64), u.oneCell' = true) := Lib.hid (fun u hu => by obtain ⟨q, -, rfl⟩ := List.mem_map.1 hu; rfl)
  have HLL := Lib.hid hl
  skip
  clear h hl
  generalize L.map (Value.int .i64) = xs at HNEW HXO HLL ⊢
  go_enter Try.func87, Try.ntmps87
  go_wp2_with (at_builtin; go_loud (refine wpList_append_own _ rfl (.tmp 3) (.tmp 4) 30 rfl w.heap.size 3 i0 (.int .i64 0) 1 8 Try.underlying30 hi hz0 hz1 hz2 rfl (by decide) (.slice (some ⟨w.heap.size, 0, none⟩) 0 0) 0 _ rfl HOWN.out ⟨g, 0, none⟩ n c xs rfl HLL.out HNEW.out HXO.out (by unfold maxLen; omega) (by omega) HB.out.size ?_; intro v1 w1 hown1 hgrow1 hnil1; obtain ⟨g1, c1, rfl, hg1⟩ := own_some hown1 (fun e => nomatch (hnil1.1 e).1); have hb1 := HB.out.grown hgrow1 HB.out.size (fun q hq => by cases hq; exact Nat.le_refl _); clear hnil1 hgrow1))
  rw [Nat.zero_add, List.nil_append] at hown1
  have HF := Lib.hid (And.intro hg1 (And.intro hown1 hb1))
  clear hown1 hb1 hg1
  go_ret
  exact ⟨g1, c1, by simp, HF.out.1, HF.out.2.1, HF.out.2.2⟩
set_option maxRecDepth 100000 in
set_option maxHeartbeats 2000000 in
theorem cloneE_any {w : World} {B g n c : Nat} {L : List Int} (hm : n ≤ 1000) (h : IsIs w B (some ⟨g, 0, none⟩) n L) :
    Calls Try.prog 85 #[.slice (some ⟨g, 0, none⟩) n c] w fun e w' => ∃ g1 c1, e = .returned (.slice (some ⟨g1, 0, none⟩) n c1) ∧ w.heap.size ≤ g1 ∧ w'.ownsRow w.heap.size 3 1 (.slice (some ⟨g1, 0, none⟩) n c1) n (L.map (.int .i64)) ∧ Below w.heap.size w w' := by
  have heq := run_eql_slice_nil (P := Try.prog) w 30 3 (some ⟨g, 0, none⟩) n c Try.underlying30
  rw [Option.isNone_some] at heq
  obtain ⟨i0, hi, hz0, hz1, hz2⟩ := info_parts Try.infoInt'
  have HOWN : Hid ((w.alloc (.cells #[] 3)).ownsRow w.heap.size 3 1 (.slice (some ⟨w.heap.size, 0, none⟩) 0 0) 0 []) := Lib.hid (World.ownsRow_made w #[] 0 (Nat.le_refl _) (by unfold maxLen; omega) rfl)
  have HB := Lib.hid (below1 w (.cells #[] 3))
  have hl : (L.map (Value.int .i64)).length = n * 1 := by rw [List.length_map, h.len, Nat.mul_one]
  have HNEW : Hid (∀ j u, (L.map (Value.int .i64))[j]? = some u → (w.alloc (.cells #[] 3)).cell? ((⟨g, 0, none⟩ : Addr).add j) = some u) := Lib.hid (fun j u hu => by
    obtain ⟨a0, ea0, -, hc0⟩ := (h.below HB.out h.low).has j u hu
    injection ea0 with ea0
    subst ea0
    exact hc0)
  have HXO : Hid (∀ u ∈ L.map (Value.int .i64), u.oneCell' = true) := Lib.hid (fun u hu => by obtain ⟨q, -, rfl⟩ := List.mem_map.1 hu; rfl)
  have HLL := Lib.hid hl
  skip
  clear h hl
  generalize L.map (Value.int .i64) = xs at HNEW HXO HLL ⊢
  go_enter Try.func85, Try.ntmps85
  go_wp2_with (at_builtin; go_loud (refine wpList_append_own _ rfl (.tmp 5) (.tmp 6) 30 rfl w.heap.size 3 i0 (.int .i64 0) 1 8 Try.underlying30 hi hz0 hz1 hz2 rfl (by decide) (.slice (some ⟨w.heap.size, 0, none⟩) 0 0) 0 _ rfl HOWN.out ⟨g, 0, none⟩ n c xs rfl HLL.out HNEW.out HXO.out (by unfold maxLen; omega) (by omega) HB.out.size ?_; intro v1 w1 hown1 hgrow1 hnil1; obtain ⟨g1, c1, rfl, hg1⟩ := own_some hown1 (fun e => nomatch (hnil1.1 e).1); have hb1 := HB.out.grown hgrow1 HB.out.size (fun q hq => by cases hq; exact Nat.le_refl _); clear hnil1 hgrow1))
  rw [Nat.zero_add, List.nil_append] at hown1
  have HF := Lib.hid (And.intro hg1 (And.intro hown1 hb1))
  clear hown1 hb1 hg1
  go_ret
  exact ⟨g1, c1, by simp, HF.out.1, HF.out.2.1, HF.out.2.2⟩
theorem is_cellE {w : World} {B g n : Nat} {L : List Int} (h : IsIs w B (some ⟨g, 0, none⟩) n L) {k : Nat} (hk : k < n) : w.cell? ⟨g, k, none⟩ = some (.int .i64 (L.getD k 0)) ∧ g < B := by
  obtain ⟨a, ea, hb, hc⟩ := Has.numAt h.has (k := k) (by rw [h.len]; exact hk)
  injection ea with ea
  subst ea
  rw [addO, Nat.zero_add] at hc
  exact ⟨hc, hb⟩
set_option maxRecDepth 100000 in
set_option maxHeartbeats 2000000 in
theorem l9Swap_any {w : World} {B g n : Nat} {L : List Int} (c : Nat) (hm : n ≤ 1000) (h : IsIs w B (some ⟨g, 0, none⟩) n L) (k : Nat) (hk : k + 1 < n) :
    Calls Try.prog 64 #[.slice (some ⟨g, 0, none⟩) n c, .int .i64 (k : Int)] w fun e w' => ∃ v, e = .returned v ∧ OwnZ w w' (swp L k) n v := by
  have C := Lib.hid (l1OwnE_any (c := c) hm h)
  have hlen := h.len
  obtain ⟨x0, hgB⟩ := is_cellE h (k := k) (by omega)
  obtain ⟨x1, -⟩ := is_cellE h (k := k + 1) hk
  have hB := h.low
  have HSW : Hid (swp L k = (L.set k (L.getD (k + 1) 0)).set (k + 1) (L.getD k 0)) := Lib.hid rfl
  generalize L.getD k 0 = y0 at x0 HSW
  generalize L.getD (k + 1) 0 = y1 at x1 HSW
  clear h
  go_enter Try.func64, Try.ntmps64
  go_wp2_with fail
  refine C.out.mono ?_
  rintro e w1 ⟨g1, c1, rfl, hg1, hown, hb⟩
  have e0 : w1.cell? ⟨g1, k, none⟩ = some (.int .i64 (L.getD k 0)) := (hown.cellAt k (by omega)).trans (by rw [List.getElem?_map, List.getElem?_eq_getElem (by omega), List.getD_eq_getElem?_getD, List.getElem?_eq_getElem (by omega)]; rfl)
  have e1 : w1.cell? ⟨g1, k + 1, none⟩ = some (.int .i64 (L.getD (k + 1) 0)) := (hown.cellAt (k + 1) (by omega)).trans (by rw [List.getElem?_map, List.getElem?_eq_getElem (by omega), List.getD_eq_getElem?_getD, List.getElem?_eq_getElem (by omega)]; rfl)
  replace x0 := (hb.cell (World.block_lt_of_cell? _ _ x0)).trans x0
  replace x1 := (hb.cell (World.block_lt_of_cell? _ _ x1)).trans x1
  have f0 := hown.frozenAt k
  have f1 := hown.frozenAt (k + 1)
  have hne : g ≠ g1 := by omega
  have hne2 : g1 ≠ g := by omega
  have HO := Lib.hid hown
  have HB := Lib.hid hb
  have hj0 : (0 : Int) ≤ (k : Int) := by omega
  have hj1 : (k : Int) < (n : Int) := by omega
  have hj2 : (k : Int) + 1 < (n : Int) := by omega
  have hj3 : (0 : Int) ≤ (k : Int) + 1 := by omega
  generalize L.getD k 0 = z0 at e0
  generalize L.getD (k + 1) 0 = z1 at e1
  clear hown hb C hlen
  go_wp2_with fail
  have s0 := HO.out.stored k (.int .i64 y1)
  have s1 := s0.1.stored (k + 1) (.int .i64 y0)
  go_ret
  refine ⟨_, rfl, g1, c1, rfl, hg1, ?_, ?_⟩
  · rw [HSW.out, List.map_set, List.map_set]; exact s1.1
  · exact (HB.out.setCell hg1 _).setCell hg1 _
set_option maxRecDepth 100000 in
set_option maxHeartbeats 2000000 in
theorem exch_any {w : World} {B g n : Nat} {L : List Int} (c : Nat) (hm : n ≤ 1000) (h : IsIs w B (some ⟨g, 0, none⟩) n L) (k : Nat) (hk : k + 1 < n) :
    Calls Try.prog 61 #[.slice (some ⟨g, 0, none⟩) n c, .int .i64 (k : Int)] w fun e w' => ∃ v, e = .returned v ∧ OwnZ w w' (swp L k) n v := by
  have C := Lib.hid (cloneE_any (c := c) hm h)
  have hlen := h.len
  obtain ⟨x0, hgB⟩ := is_cellE h (k := k) (by omega)
  obtain ⟨x1, -⟩ := is_cellE h (k := k + 1) hk
  have hB := h.low
  have HSW : Hid (swp L k = (L.set k (L.getD (k + 1) 0)).set (k + 1) (L.getD k 0)) := Lib.hid rfl
  generalize L.getD k 0 = y0 at x0 HSW
  generalize L.getD (k + 1) 0 = y1 at x1 HSW
  clear h
  go_enter Try.func61, Try.ntmps61
  go_wp2_with fail
  refine C.out.mono ?_
  rintro e w1 ⟨g1, c1, rfl, hg1, hown, hb⟩
  have e0 : w1.cell? ⟨g1, k, none⟩ = some (.int .i64 (L.getD k 0)) := (hown.cellAt k (by omega)).trans (by rw [List.getElem?_map, List.getElem?_eq_getElem (by omega), List.getD_eq_getElem?_getD, List.getElem?_eq_getElem (by omega)]; rfl)
  have e1 : w1.cell? ⟨g1, k + 1, none⟩ = some (.int .i64 (L.getD (k + 1) 0)) := (hown.cellAt (k + 1) (by omega)).trans (by rw [List.getElem?_map, List.getElem?_eq_getElem (by omega), List.getD_eq_getElem?_getD, List.getElem?_eq_getElem (by omega)]; rfl)
  replace x0 := (hb.cell (World.block_lt_of_cell? _ _ x0)).trans x0
  replace x1 := (hb.cell (World.block_lt_of_cell? _ _ x1)).trans x1
  have f0 := hown.frozenAt k
  have f1 := hown.frozenAt (k + 1)
  have hne : g ≠ g1 := by omega
  have hne2 : g1 ≠ g := by omega
  have HO := Lib.hid hown
  have HB := Lib.hid hb
  have hj0 : (0 : Int) ≤ (k : Int) := by omega
  have hj1 : (k : Int) < (n : Int) := by omega
  have hj2 : (k : Int) + 1 < (n : Int) := by omega
  have hj3 : (0 : Int) ≤ (k : Int) + 1 := by omega
  generalize L.getD k 0 = z0 at e0
  generalize L.getD (k + 1) 0 = z1 at e1
  clear hown hb C hlen
  go_wp2_with fail
  go_region
  go_wp2_with fail
  have s0 := HO.out.stored k (.int .i64 y1)
  have s1 := s0.1.stored (k + 1) (.int .i64 y0)
  go_ret
  refine ⟨_, rfl, g1, c1, rfl, hg1, ?_, ?_⟩
  · rw [HSW.out, List.map_set, List.map_set]; exact s1.1
  · exact ((HB.out.setCell hg1 _).setCell hg1 _).trans ((Drawn.one _ 1).below _)
end Go.Proofs.Ytkdolpgnaabdaaa
