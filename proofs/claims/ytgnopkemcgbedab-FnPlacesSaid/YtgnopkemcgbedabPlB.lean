/- Chapter 2: any waterway that the laws draw. -/
import Derived.Test.YtgnopkemcgbedabPlA
namespace Go.Proofs.Ytgnopkemcgbedab
open Go.RowKit Go.PlainAid Go.Sort
set_option linter.unusedVariables false
set_option linter.unusedSimpArgs false

theorem cell_1W (w : World) (a : Value) (t : TypeId) : ∀ j u, [a][j]? = some u → (w.alloc (.cells #[a] t)).cell? ((⟨w.heap.size, 0, none⟩ : Addr).add j) = some u := by
  intro j u h
  rw [addOW, Nat.zero_add, sNew]
  simpa using h
theorem cell_3W (w : World) (a b c : Value) (t : TypeId) : ∀ j u, [a, b, c][j]? = some u → (w.alloc (.cells #[a, b, c] t)).cell? ((⟨w.heap.size, 0, none⟩ : Addr).add j) = some u := by
  intro j u h
  rw [addOW, Nat.zero_add, sNew]
  simpa using h
theorem heap_setS (w : World) (p : Addr) (u : Value) : (w.setCell p u).heap.size = w.heap.size := by simp [World.setCell]
theorem memC {z : Int} (h : z ∈ [0, 100, 101]) : 0 ≤ z ∧ z ≤ 101 := by
  simp only [List.mem_cons, List.not_mem_nil, or_false] at h
  omega
theorem okR.put {R : List (Int × Int × Int)} (h : okR R) {x y z : Int} (hx : 0 ≤ x ∧ x ≤ 101) : okR (R.set 0 (x, y, z)) := fun r hr => by
  rcases List.mem_or_eq_of_mem_set hr with h1 | h1
  · exact h r h1
  · subst h1
    exact hx
theorem flat_set0 : ∀ (R : List (Int × Int × Int)) (x y z : Int), ((((flat R).set 0 (.int .i64 x)).set 1 (.int .i64 y)).set 2 (.int .i64 z)) = flat (R.set 0 (x, y, z))
  | [], _, _, _ => rfl
  | r :: R, _, _, _ => rfl
section
variable {B : Nat} {W : World} {b0 b3 g1 nR c1 nZ : Nat} {v1 v2 u1 u2 : Value} {R : List (Int × Int × Int)} {Z : List Int}
/-- The first reach written over. -/
theorem WyS.setR (h : WyS B W b0 b3 v1 v2 (.slice (some ⟨g1, 0, none⟩) nR c1) u2 nR nZ R Z) (hn : 0 < nR) (hl : R.length = nR) (x y z : Int) :
    WyS B (((W.setCell ⟨g1, 0, none⟩ (.int .i64 x)).setCell ⟨g1, 1, none⟩ (.int .i64 y)).setCell ⟨g1, 2, none⟩ (.int .i64 z)) b0 b3 v1 v2 (.slice (some ⟨g1, 0, none⟩) nR c1) u2 nR nZ (R.set 0 (x, y, z)) Z ∧
    W.grownBy (((W.setCell ⟨g1, 0, none⟩ (.int .i64 x)).setCell ⟨g1, 1, none⟩ (.int .i64 y)).setCell ⟨g1, 2, none⟩ (.int .i64 z)) (some g1) := by
  have s0 := h.r.stored 0 (.int .i64 x)
  have s1 := s0.1.stored 1 (.int .i64 y)
  have s2 := s1.1.stored 2 (.int .i64 z)
  have hg := (s0.2.trans s1.2).trans s2.2
  have ho := s2.1
  rw [flat_set0] at ho
  exact ⟨h.appR (by simpa [Value.ownBlock] using hg) ho, hg⟩
theorem WyS.cellsR (h : WyS B W b0 b3 v1 v2 (.slice (some ⟨g1, 0, none⟩) nR c1) u2 nR nZ R Z) (hn : 0 < nR) : ∃ a b c : Value, W.cell? ⟨g1, 0, none⟩ = some a ∧ W.cell? ⟨g1, 1, none⟩ = some b ∧ W.cell? ⟨g1, 2, none⟩ = some c ∧ W.frozen? ⟨g1, 0, none⟩ = false ∧ W.frozen? ⟨g1, 1, none⟩ = false ∧ W.frozen? ⟨g1, 2, none⟩ = false := by
  have hl := h.r.1
  have k : ∀ j, j < 3 → ∃ a, W.cell? ⟨g1, j, none⟩ = some a := fun j hj => by
    have := h.r.cellAt j (by omega)
    exact ⟨_, this.trans (List.getElem?_eq_getElem (by omega))⟩
  obtain ⟨a, ha⟩ := k 0 (by omega)
  obtain ⟨b, hb⟩ := k 1 (by omega)
  obtain ⟨c, hc⟩ := k 2 (by omega)
  exact ⟨a, b, c, ha, hb, hc, h.r.frozenAt 0, h.r.frozenAt 1, h.r.frozenAt 2⟩
/-- The first rise written over. -/
theorem WyS.setZ {g2 c2 : Nat} (h : WyS B W b0 b3 v1 v2 u1 (.slice (some ⟨g2, 0, none⟩) nZ c2) nR nZ R Z) (x : Int) :
    WyS B (W.setCell ⟨g2, 0, none⟩ (.int .i64 x)) b0 b3 v1 v2 u1 (.slice (some ⟨g2, 0, none⟩) nZ c2) nR nZ R (Z.set 0 x) ∧ W.grownBy (W.setCell ⟨g2, 0, none⟩ (.int .i64 x)) (some g2) := by
  have s0 := h.z.stored 0 (.int .i64 x)
  exact ⟨h.appZ (by simpa [Value.ownBlock] using s0.2) (by rw [List.map_set]; exact s0.1), s0.2⟩
end
set_option maxRecDepth 100000 in
set_option maxHeartbeats 8000000 in
theorem anyWaterway_at {g : Nat} {A : Option Addr} {n c : Nat} {p : Int} {zs : List Int} {B : Nat} {w : World} (h : CurAt w g A n c p zs B) (hp : p ≤ 800000000) :
    Calls Try.prog 49 #[.pointer (some ⟨g, 0, none⟩)] w (GivesWy 7 200 w g A n c p) := by
  obtain ⟨i0, hi, hz0, hz1, hz2⟩ := info_parts Try.infoInt'
  obtain ⟨j0, hj, jz0, jz1, jz2⟩ := info_parts Try.infoReach'
  have H := Lib.hid h
  have hgl := h.lt
  have hp0 := h.p0
  have S1 := Lib.hid ((CurStep.refl h.cur).alloc (wayO (.slice none 0 0) (.slice none 0 0)))
  clear h
  go_enter Try.func49, Try.ntmps49
  go_wp2_with fail
  obtain ⟨r5, r50, r51, H5⟩ := S1.out.at H.out
  refine (waterway_at H5 (by omega)).mono ?_
  rintro e w1 ⟨g1, A2, nR, c1, nZ, c2, R, Z, rfl, hn0, hn6, hz7, hRl, hZl, hok, hor, hoz, hs⟩
  have S2 := Lib.hid ((S1.out.then hs r50 r51).alloc (wayO (.slice (some ⟨g1, 0, none⟩) nR c1) (.slice A2 nZ c2)))
  have P2 : Hid (WyS w.heap.size (w1.alloc (wayO (.slice (some ⟨g1, 0, none⟩) nR c1) (.slice A2 nZ c2))) w.heap.size w1.heap.size (.slice (some ⟨g1, 0, none⟩) nR c1) (.slice A2 nZ c2) (.slice (some ⟨g1, 0, none⟩) nR c1) (.slice A2 nZ c2) nR nZ R Z) := Lib.hid
    ⟨(heap_alloc_old _ _ (by have := hs.grown.size; simp at this; omega)).trans ((hs.grown.block _ (by simp) (fun e => by injection e; omega)).trans (heap_alloc_new w _)), heap_alloc_new w1 _, own_below (own_low hor (by simp)) (below1x _ _), own_below (own_low hoz (by simp)) (below1x _ _)⟩
  have hsz := S2.out.grown.size
  have hsz1 : w.heap.size + 1 ≤ w1.heap.size := by have := hs.grown.size; simpa using this
  have hg1 : w.heap.size ≤ g1 := by have := (hor.lt g1 rfl).1; simp at this; omega
  have HOK := Lib.hid hok
  have HLZ : Hid (∀ g2, A2 = some ⟨g2, 0, none⟩ → w.heap.size ≤ g2) := Lib.hid (fun g2 e => by subst e; have := (hoz.lt g2 rfl).1; simp at this; omega)
  have HZF : Hid (0 < nZ → ∃ g2, A2 = some ⟨g2, 0, none⟩) := Lib.hid (fun h0 => by
    obtain ⟨g2, cc, e, -⟩ := own_some hoz (fun e => by injection e; omega)
    injection e with e1
    exact ⟨g2, e1⟩)
  clear hs hor hoz hok S1 H5 r50 r51
  go_wp2_with fail
  obtain ⟨w2, hw2⟩ : ∃ x, w1.alloc (wayO (.slice (some ⟨g1, 0, none⟩) nR c1) (.slice A2 nZ c2)) = x := ⟨_, rfl⟩
  rw [hw2] at S2 P2 hsz ⊢
  obtain ⟨b0, hb0⟩ : ∃ x, w.heap.size = x := ⟨_, rfl⟩
  obtain ⟨b3, hb3⟩ : ∃ x, w1.heap.size = x := ⟨_, rfl⟩
  have hgb : w.heap.size ≤ b0 := by omega
  have hgb3 : w.heap.size ≤ b3 := by omega
  have hne03 : b0 ≠ b3 := by omega
  rw [hb3] at P2
  rw [show WyS w.heap.size w2 w.heap.size b3 = WyS w.heap.size w2 b0 b3 from by rw [hb0]] at P2
  try simp only [hb3]
  try simp only [hb0]
  clear hw2 hb3 hsz hsz1
  obtain ⟨r5, r50, r51, H5⟩ := S2.out.at H.out
  refine (pick_at H5 (by omega) 24 (by omega)).mono ?_
  rintro e w3 ⟨b6, b60, b61, rfl, hs⟩
  obtain ⟨D9, hD9⟩ : ∃ d : Int, d = 0 + 100 + 2 := ⟨_, rfl⟩
  have S6 : Hid (CurStep w w3 g A n c p D9) := Lib.hid ((S2.out.then hs r50 r51).mono (by omega))
  have P6 := Lib.hid (P2.out.kept hs.grown (by omega) hgb hgb3)
  clear hs S2 P2 H5 r50 r51 b60 b61
  obtain ⟨w2, hw2⟩ : ∃ x, x = w3 := ⟨_, rfl⟩
  subst hw2
  have HD9 := Lib.hid hD9
  have hD100 : D9 ≤ 102 := by omega
  clear hD9
  by_cases n0 : b6 = 0
  · subst n0
    have C0 := P6.out.c0
    have C1 := P6.out.c1
    have HPA := Lib.hid (P6.out.below (below1x w2 (.cells #[.int .i64 5] 3)))
    have HSA := Lib.hid (S6.out.alloc (.cells #[.int .i64 5] 3))
    have HSZ := Lib.hid S6.out.grown.size
    clear P6 S6
    go_wp2_with (at_builtin; go_loud (refine wpList_append_own _ rfl (.tmp 11) (.tmp 12) 25 rfl w.heap.size 3 i0 (.int .i64 0) 1 8 Try.underlying25 hi hz0 hz1 hz2 rfl (by decide) (.slice A2 nZ c2) nZ _ rfl HPA.out.z ⟨w2.heap.size, 0, none⟩ 1 1 [.int .i64 5] rfl rfl (cell_1W _ _ _) (by simp [Value.oneCell']) (by unfold maxLen; omega) (by omega) (by have := HSZ.out; simp; omega) ?_; intro v1 w6 hown1 hgrow1 hnil1; obtain ⟨g5, c5, rfl, hg5⟩ := own_some hown1 (fun e => absurd (hnil1.1 e).2 (by decide)); refine Hid.out ?_))
    have hon : w6.ownsRow w.heap.size 3 1 (.slice (some ⟨g5, 0, none⟩) (nZ + 1) c5) (nZ + 1) ((Z ++ [5]).map (.int .i64)) := by rw [List.map_append]; exact hown1
    have hw9 := HPA.out.appZ hgrow1 hon
    have PN := Lib.hid (hw9.putZ hne03)
    have SN := Lib.hid ((HSA.out.row hgrow1 HPA.out.z hgl).own (grown_setW w6 b3 1 (.slice (some ⟨g5, 0, none⟩) (nZ + 1) c5)) hgb3 (by omega))
    have e0 := hw9.c0
    have e1 := hw9.c1
    have fz := hw9.f1
    have hZ5 : (Z ++ [5]).length = nZ + 1 := by rw [List.length_append, hZl]; rfl
    clear hw9 hon hown1 hgrow1 hnil1 hg5 HPA HSA HSZ C0 C1
    refine Lib.hid ?_
    have C0 := PN.out.c0
    have C1 := PN.out.c1
    have d0 := cell_of_row _ _ 0 _ _ _ PN.out.res
    have d1 := cell_of_row _ _ 1 _ _ _ PN.out.res
    have f0 := frozen_of_row _ _ 0 _ _ PN.out.res
    have f1 := frozen_of_row _ _ 1 _ _ PN.out.res
    go_wp2_with fail
    refine bodyPost_ret (v := .agg #[.slice (some ⟨g1, 0, none⟩) nR c1, .slice (some ⟨g5, 0, none⟩) (nZ + 1) c5]) ?_ rfl ?_
    · exact results_cell_at rfl _ _ b0 [.slice (some ⟨g1, 0, none⟩) nR c1, .slice (some ⟨g5, 0, none⟩) (nZ + 1) c5] _ rfl (res_range PN.out.res) Try.underlying27 rfl (by kernel_rfl)
    exact ⟨g1, (some ⟨g5, 0, none⟩), nR, c1, (nZ + 1), c5, _, _, rfl, hn0, by omega, by omega, hRl, hZ5, HOK.out, PN.out.done.1, PN.out.done.2, (SN.out.sets2 _ _ hgb (by omega)).mono (by omega)⟩
  by_cases n1 : b6 = 1
  · subst n1
    clear n0
    go_wp2_with fail
    refine region_inv (by kernel_rfl) (by kernel_rfl) (fun Fl9 ac W => ∃ (x17 x18 x19 x20 x21 x22 x23 : Value), ac = { tmps := #[Value.pointer (some ⟨g, 0, none⟩), undef, Value.pointer (some ⟨b0, 0, none⟩), Value.pointer (some ⟨b3, 0, none⟩), Value.pointer (some ⟨g, 0, none⟩), Value.agg #[Value.slice (some ⟨g1, 0, none⟩) nR c1, Value.slice A2 nZ c2], Value.pointer (some ⟨g, 0, none⟩), Value.int IntKind.i64 1, Value.bool false, Value.bool false, undef, undef, undef, undef, undef, Value.bool true, Value.bool true, x17, x18, x19, x20, x21, x22, x23, undef, undef, undef, undef, undef, undef, undef, undef, undef, undef, undef, undef, undef, undef, undef, undef, undef, undef, undef, undef, undef, undef, undef, undef, undef, undef, undef, undef, undef, undef, undef, undef, undef, undef, undef, undef, undef, undef, undef, undef, undef, undef, undef, undef, undef], defers := [] } ∧ UpW w2.heap.size w2 W ∧
          (Fl9 0 = true → x17 = .pointer (some ⟨b3, 0, none⟩)) ∧
          (Fl9 1 = true → x18 = .slice (some ⟨g1, 0, none⟩) nR c1) ∧
          (Fl9 2 = true → x19 = .pointer (some ⟨g, 0, none⟩)) ∧
          (Fl9 3 = true → Fl9 7 = false → ∃ g9, x20 = .slice (some ⟨g9, 0, none⟩) 3 3 ∧ LstS W g g9 (([0, 100, 101] : List Int).map (.int .i64))) ∧
          (Fl9 4 = true → ∃ z9 : Int, x21 = .int .i64 z9 ∧ z9 ∈ ([0, 100, 101] : List Int)) ∧
          (Fl9 5 = true → ∃ y1 y2 y3 : Int, x22 = .agg #[.int .i64 y1, .int .i64 y2, .int .i64 y3] ∧ (0 ≤ y1 ∧ y1 ≤ 101)) ∧
          (Fl9 6 = true → x23 = .pointer (some ⟨g1, 0, none⟩)) ∧
          (Fl9 7 = true → ∃ y1 y2 y3 : Int, (0 ≤ y1 ∧ y1 ≤ 101) ∧ WyS w.heap.size W b0 b3 (.slice (some ⟨g1, 0, none⟩) nR c1) (.slice A2 nZ c2) (.slice (some ⟨g1, 0, none⟩) nR c1) (.slice A2 nZ c2) nR nZ (R.set 0 (y1, y2, y3)) Z) ∧
          (Fl9 7 = false → WyS w.heap.size W b0 b3 (.slice (some ⟨g1, 0, none⟩) nR c1) (.slice A2 nZ c2) (.slice (some ⟨g1, 0, none⟩) nR c1) (.slice A2 nZ c2) nR nZ R Z) ∧
          (True → CurStep w W g A n c p (D9 + 2 * (((Fl9 4).toNat : Int)))) ∧
          (Fl9 7 = true → Fl9 1 = true) ∧
          (Fl9 7 = true → Fl9 4 = true)) ?_ ?_ ?_
    · exact ⟨_, _, _, _, _, _, _, rfl, UpW.of ((Drawn.one w2 1).below _), (fun q0 => nomatch q0), (fun q0 => nomatch q0), (fun q0 => nomatch q0), (fun q0 => nomatch q0), (fun q0 => nomatch q0), (fun q0 => nomatch q0), (fun q0 => nomatch q0), (fun q0 => nomatch q0), (fun _ => P6.out.below ((Drawn.one w2 1).below _)), (fun _ => (S6.out.on ((Drawn.one w2 1).below _)).mono (by simp)), (fun q0 => nomatch q0), (fun q0 => nomatch q0)⟩
    · intro Fl9 ac W i9 o9 hJ ho hL hdep K9 hK
      obtain ⟨x17, x18, x19, x20, x21, x22, x23, rfl, hB, hh0, hh1, hh2, hh3, hh4, hh5, hh6, hh7, hx0, hx1, hx2, hx3⟩ := hJ
      have hi9 : i9 < 8 := by simpa using (Array.getElem?_eq_some_iff.1 ho).1
      obtain rfl | rfl | rfl | rfl | rfl | rfl | rfl | rfl : i9 = 0 ∨ i9 = 1 ∨ i9 = 2 ∨ i9 = 3 ∨ i9 = 4 ∨ i9 = 5 ∨ i9 = 6 ∨ i9 = 7 := by omega
      · -- operation 0
        cases ho
        go_simp
        exact hK _ _ ⟨_, _, _, _, _, _, _, rfl, hB, fun _ => rfl, hh1, hh2, hh3, hh4, hh5, hh6, hh7, hx0, hx1, hx2, hx3⟩
      · -- operation 1
        cases ho
        obtain rfl := hh0 (hdep ⟨0, .data⟩ (by simp) rfl)
        have hT : Fl9 7 = false := Bool.eq_false_iff.2 (fun h => absurd (hx2 h) (by rw [hL]; simp))
        have C9 := (hx0 hT).c0
        go_simp
        exact hK _ _ ⟨_, _, _, _, _, _, _, rfl, hB, hh0, fun _ => rfl, hh2, hh3, hh4, hh5, hh6, hh7, hx0, hx1, fun _ => rfl, hx3⟩
      · -- operation 2
        cases ho
        go_simp
        exact hK _ _ ⟨_, _, _, _, _, _, _, rfl, hB, hh0, hh1, fun _ => rfl, hh3, hh4, hh5, hh6, hh7, hx0, hx1, hx2, hx3⟩
      · -- operation 3
        cases ho
        go_simp
        exact hK _ _ ⟨_, _, _, _, _, _, _, rfl, hB.trans ((UpW.of (Below.alloc (Below.refl W.heap.size W) (Nat.le_refl _) _)).mono hB.size), hh0, hh1, hh2, fun _ _ => ⟨_, rfl, LstS.new W _ _ (hx1 trivial).lt⟩, hh4, hh5, hh6, fun q0 => (fun ⟨y1, y2, y3, hy, h⟩ => ⟨y1, y2, y3, hy, h.below (Below.alloc (Below.refl W.heap.size W) (Nat.le_refl _) _)⟩) (hh7 q0), fun q0 => (fun h => h.below (Below.alloc (Below.refl W.heap.size W) (Nat.le_refl _) _)) (hx0 q0), fun q0 => (fun h => h.on (Below.alloc (Below.refl W.heap.size W) (Nat.le_refl _) _)) (hx1 q0), hx2, hx3⟩
      · -- operation 4
        cases ho
        have hT : Fl9 7 = false := Bool.eq_false_iff.2 (fun h => absurd (hx3 h) (by rw [hL]; simp))
        have hbn4 := bN (Fl9 4)
        obtain ⟨g9, rfl, hl9⟩ := hh3 (hdep ⟨3, .data⟩ (by simp) rfl) hT
        obtain rfl := hh2 (hdep ⟨2, .data⟩ (by simp) rfl)
        obtain ⟨q9, q90, q91, H9⟩ := (hx1 trivial).at H.out
        go_simp
        refine (amongN_at H9 (by omega) g9 3 3 [0, 100, 101] rfl (by omega) (by omega) hl9.nums hl9.ne).mono ?_
        rintro e w9 ⟨z9, hz9, rfl, hs9⟩
        exact hK _ _ ⟨_, _, _, _, _, _, _, rfl, hB.trans ((UpW.grown hs9.grown).mono hB.size), hh0, hh1, hh2, (fun q0 r0 => (fun ⟨g9, e, h⟩ => ⟨g9, e, h.kept hs9.grown⟩) (hh3 q0 r0)), fun _ => ⟨_, rfl, hz9⟩, hh5, hh6, (fun q0 => (fun ⟨y1, y2, y3, hy, h⟩ => ⟨y1, y2, y3, hy, h.kept hs9.grown (by omega) hgb hgb3⟩) (hh7 q0)), fun q0 => (hx0 q0).kept hs9.grown (by omega) hgb hgb3, fun _ => ((hx1 trivial).then hs9 q90 q91).mono (by simp [hL] <;> omega), hx2, fun _ => rfl⟩
      · -- operation 5
        cases ho
        obtain ⟨z21, rfl, hz21⟩ := hh4 (hdep ⟨4, .data⟩ (by simp) rfl)
        go_simp
        exact hK _ _ ⟨_, _, _, _, _, _, _, rfl, hB, hh0, hh1, hh2, hh3, hh4, fun _ => ⟨_, _, _, rfl, memC hz21⟩, hh6, hh7, hx0, hx1, hx2, hx3⟩
      · -- operation 6
        cases ho
        obtain rfl := hh1 (hdep ⟨1, .data⟩ (by simp) rfl)
        have hn9 : (0 : Int) < (nR : Int) := by omega
        go_simp
        exact hK _ _ ⟨_, _, _, _, _, _, _, rfl, hB, hh0, hh1, hh2, hh3, hh4, hh5, fun _ => rfl, hh7, hx0, hx1, hx2, hx3⟩
      · -- operation 7
        cases ho
        have hp1 := hdep ⟨1, .phase⟩ (by simp) rfl
        have hp4 := hdep ⟨4, .phase⟩ (by simp) rfl
        obtain ⟨y1, y2, y3, rfl, hy1⟩ := hh5 (hdep ⟨5, .data⟩ (by simp) rfl)
        obtain rfl := hh6 (hdep ⟨6, .data⟩ (by simp) rfl)
        have hst := (hx0 hL).setR hn0 hRl y1 y2 y3
        have ce := (hx0 hL).cellsR hn0
        obtain ⟨ce0, ce1, ce2, cf0, cf1, cf2⟩ := ce
        go_simp
        exact hK _ _ ⟨_, _, _, _, _, _, _, rfl, hB.trans ((UpW.grown hst.2).mono hB.size), hh0, (fun _ => rfl), hh2, (fun _ q0 => nomatch q0), hh4, hh5, hh6, fun _ => ⟨y1, y2, y3, hy1, hst.1⟩, (fun q0 => nomatch q0), fun _ => (hx1 trivial).own hst.2 hg1 (by omega), fun _ => hp1, fun _ => hp4⟩
    intro Fl9 ac W hJ hall
    obtain ⟨x17, x18, x19, x20, x21, x22, x23, rfl, hB, hh0, hh1, hh2, hh3, hh4, hh5, hh6, hh7, -, hcs9, -, -⟩ := hJ
    obtain rfl := hh0 (hall 0 (by decide))
    obtain rfl := hh1 (hall 1 (by decide))
    obtain rfl := hh2 (hall 2 (by decide))
    obtain rfl := hh6 (hall 6 (by decide))
    obtain - := hh3 (hall 3 (by decide))
    obtain - := hh4 (hall 4 (by decide))
    obtain - := hh5 (hall 5 (by decide))
    obtain ⟨y1, y2, y3, hy1, P7⟩ := hh7 (hall 7 (by decide))
    clear hall
    have S7 := Lib.hid (hcs9 trivial)
    have P7 := Lib.hid P7
    have hbn := bN (Fl9 4)
    have hR5 : (R.set 0 (y1, y2, y3)).length = nR := by rw [List.length_set, hRl]
    clear hcs9 hB P6 S6
    have C0 := P7.out.c0
    have C1 := P7.out.c1
    have d0 := cell_of_row _ _ 0 _ _ _ P7.out.res
    have d1 := cell_of_row _ _ 1 _ _ _ P7.out.res
    have f0 := frozen_of_row _ _ 0 _ _ P7.out.res
    have f1 := frozen_of_row _ _ 1 _ _ P7.out.res
    go_wp2_with fail
    refine bodyPost_ret (v := .agg #[.slice (some ⟨g1, 0, none⟩) nR c1, .slice A2 nZ c2]) ?_ rfl ?_
    · exact results_cell_at rfl _ _ b0 [.slice (some ⟨g1, 0, none⟩) nR c1, .slice A2 nZ c2] _ rfl (res_range P7.out.res) Try.underlying27 rfl (by kernel_rfl)
    exact ⟨g1, A2, nR, c1, nZ, c2, _, _, rfl, hn0, by omega, by omega, hR5, hZl, (HOK.out.put hy1), P7.out.done.1, P7.out.done.2, (S7.out.sets2 _ _ hgb (by omega)).mono (by omega)⟩
  by_cases n2 : b6 = 2
  · subst n2
    clear n0 n1
    go_wp2_with fail
    refine region_inv (by kernel_rfl) (by kernel_rfl) (fun Fl9 ac W => ∃ (x26 x27 x28 x29 x30 x31 x32 x33 x34 x35 : Value), ac = { tmps := #[Value.pointer (some ⟨g, 0, none⟩), undef, Value.pointer (some ⟨b0, 0, none⟩), Value.pointer (some ⟨b3, 0, none⟩), Value.pointer (some ⟨g, 0, none⟩), Value.agg #[Value.slice (some ⟨g1, 0, none⟩) nR c1, Value.slice A2 nZ c2], Value.pointer (some ⟨g, 0, none⟩), Value.int IntKind.i64 2, Value.bool false, Value.bool false, undef, undef, undef, undef, undef, Value.bool false, Value.bool false, undef, undef, undef, undef, undef, undef, undef, Value.bool true, Value.bool true, x26, x27, x28, x29, x30, x31, x32, x33, x34, x35, undef, undef, undef, undef, undef, undef, undef, undef, undef, undef, undef, undef, undef, undef, undef, undef, undef, undef, undef, undef, undef, undef, undef, undef, undef, undef, undef, undef, undef, undef, undef, undef, undef], defers := [] } ∧ UpW w2.heap.size w2 W ∧
          (Fl9 0 = true → x26 = .pointer (some ⟨b3, 0, none⟩)) ∧
          (Fl9 1 = true → x27 = .slice (some ⟨g1, 0, none⟩) nR c1) ∧
          (Fl9 2 = true → x28 = .pointer (some ⟨g, 0, none⟩)) ∧
          (Fl9 3 = true → Fl9 10 = false → ∃ g9, x29 = .slice (some ⟨g9, 0, none⟩) 3 3 ∧ LstS W g g9 (([99, 901, 900] : List Int).map (.int .i64))) ∧
          (Fl9 4 = true → ∃ z9 : Int, x30 = .int .i64 z9 ∧ z9 ∈ ([99, 901, 900] : List Int)) ∧
          (Fl9 5 = true → x31 = .pointer (some ⟨g, 0, none⟩)) ∧
          (Fl9 6 = true → Fl9 10 = false → ∃ g9, x32 = .slice (some ⟨g9, 0, none⟩) 3 3 ∧ LstS W g g9 (([0, 20, 21] : List Int).map (.int .i64))) ∧
          (Fl9 7 = true → ∃ z9 : Int, x33 = .int .i64 z9 ∧ z9 ∈ ([0, 20, 21] : List Int)) ∧
          (Fl9 8 = true → ∃ y1 y2 y3 : Int, x34 = .agg #[.int .i64 y1, .int .i64 y2, .int .i64 y3] ∧ (0 ≤ y1 ∧ y1 ≤ 101)) ∧
          (Fl9 9 = true → x35 = .pointer (some ⟨g1, 0, none⟩)) ∧
          (Fl9 10 = true → ∃ y1 y2 y3 : Int, (0 ≤ y1 ∧ y1 ≤ 101) ∧ WyS w.heap.size W b0 b3 (.slice (some ⟨g1, 0, none⟩) nR c1) (.slice A2 nZ c2) (.slice (some ⟨g1, 0, none⟩) nR c1) (.slice A2 nZ c2) nR nZ (R.set 0 (y1, y2, y3)) Z) ∧
          (Fl9 10 = false → WyS w.heap.size W b0 b3 (.slice (some ⟨g1, 0, none⟩) nR c1) (.slice A2 nZ c2) (.slice (some ⟨g1, 0, none⟩) nR c1) (.slice A2 nZ c2) nR nZ R Z) ∧
          (True → CurStep w W g A n c p (D9 + 2 * (((Fl9 4).toNat : Int) + ((Fl9 7).toNat : Int)))) ∧
          (Fl9 10 = true → Fl9 1 = true) ∧
          (Fl9 10 = true → Fl9 4 = true) ∧
          (Fl9 10 = true → Fl9 7 = true)) ?_ ?_ ?_
    · exact ⟨_, _, _, _, _, _, _, _, _, _, rfl, UpW.of ((Drawn.one w2 1).below _), (fun q0 => nomatch q0), (fun q0 => nomatch q0), (fun q0 => nomatch q0), (fun q0 => nomatch q0), (fun q0 => nomatch q0), (fun q0 => nomatch q0), (fun q0 => nomatch q0), (fun q0 => nomatch q0), (fun q0 => nomatch q0), (fun q0 => nomatch q0), (fun q0 => nomatch q0), (fun _ => P6.out.below ((Drawn.one w2 1).below _)), (fun _ => (S6.out.on ((Drawn.one w2 1).below _)).mono (by simp)), (fun q0 => nomatch q0), (fun q0 => nomatch q0), (fun q0 => nomatch q0)⟩
    · intro Fl9 ac W i9 o9 hJ ho hL hdep K9 hK
      obtain ⟨x26, x27, x28, x29, x30, x31, x32, x33, x34, x35, rfl, hB, hh0, hh1, hh2, hh3, hh4, hh5, hh6, hh7, hh8, hh9, hh10, hx0, hx1, hx2, hx3, hx4⟩ := hJ
      have hi9 : i9 < 11 := by simpa using (Array.getElem?_eq_some_iff.1 ho).1
      obtain rfl | rfl | rfl | rfl | rfl | rfl | rfl | rfl | rfl | rfl | rfl : i9 = 0 ∨ i9 = 1 ∨ i9 = 2 ∨ i9 = 3 ∨ i9 = 4 ∨ i9 = 5 ∨ i9 = 6 ∨ i9 = 7 ∨ i9 = 8 ∨ i9 = 9 ∨ i9 = 10 := by omega
      · -- operation 0
        cases ho
        go_simp
        exact hK _ _ ⟨_, _, _, _, _, _, _, _, _, _, rfl, hB, fun _ => rfl, hh1, hh2, hh3, hh4, hh5, hh6, hh7, hh8, hh9, hh10, hx0, hx1, hx2, hx3, hx4⟩
      · -- operation 1
        cases ho
        obtain rfl := hh0 (hdep ⟨0, .data⟩ (by simp) rfl)
        have hT : Fl9 10 = false := Bool.eq_false_iff.2 (fun h => absurd (hx2 h) (by rw [hL]; simp))
        have C9 := (hx0 hT).c0
        go_simp
        exact hK _ _ ⟨_, _, _, _, _, _, _, _, _, _, rfl, hB, hh0, fun _ => rfl, hh2, hh3, hh4, hh5, hh6, hh7, hh8, hh9, hh10, hx0, hx1, fun _ => rfl, hx3, hx4⟩
      · -- operation 2
        cases ho
        go_simp
        exact hK _ _ ⟨_, _, _, _, _, _, _, _, _, _, rfl, hB, hh0, hh1, fun _ => rfl, hh3, hh4, hh5, hh6, hh7, hh8, hh9, hh10, hx0, hx1, hx2, hx3, hx4⟩
      · -- operation 3
        cases ho
        go_simp
        exact hK _ _ ⟨_, _, _, _, _, _, _, _, _, _, rfl, hB.trans ((UpW.of (Below.alloc (Below.refl W.heap.size W) (Nat.le_refl _) _)).mono hB.size), hh0, hh1, hh2, fun _ _ => ⟨_, rfl, LstS.new W _ _ (hx1 trivial).lt⟩, hh4, hh5, fun q0 r0 => (fun ⟨g9, e, h⟩ => ⟨g9, e, h.below (Below.alloc (Below.refl W.heap.size W) (Nat.le_refl _) _)⟩) (hh6 q0 r0), hh7, hh8, hh9, fun q0 => (fun ⟨y1, y2, y3, hy, h⟩ => ⟨y1, y2, y3, hy, h.below (Below.alloc (Below.refl W.heap.size W) (Nat.le_refl _) _)⟩) (hh10 q0), fun q0 => (fun h => h.below (Below.alloc (Below.refl W.heap.size W) (Nat.le_refl _) _)) (hx0 q0), fun q0 => (fun h => h.on (Below.alloc (Below.refl W.heap.size W) (Nat.le_refl _) _)) (hx1 q0), hx2, hx3, hx4⟩
      · -- operation 4
        cases ho
        have hT : Fl9 10 = false := Bool.eq_false_iff.2 (fun h => absurd (hx3 h) (by rw [hL]; simp))
        have hbn4 := bN (Fl9 4)
        have hbn7 := bN (Fl9 7)
        obtain ⟨g9, rfl, hl9⟩ := hh3 (hdep ⟨3, .data⟩ (by simp) rfl) hT
        obtain rfl := hh2 (hdep ⟨2, .data⟩ (by simp) rfl)
        obtain ⟨q9, q90, q91, H9⟩ := (hx1 trivial).at H.out
        go_simp
        refine (amongN_at H9 (by omega) g9 3 3 [99, 901, 900] rfl (by omega) (by omega) hl9.nums hl9.ne).mono ?_
        rintro e w9 ⟨z9, hz9, rfl, hs9⟩
        exact hK _ _ ⟨_, _, _, _, _, _, _, _, _, _, rfl, hB.trans ((UpW.grown hs9.grown).mono hB.size), hh0, hh1, hh2, (fun q0 r0 => (fun ⟨g9, e, h⟩ => ⟨g9, e, h.kept hs9.grown⟩) (hh3 q0 r0)), fun _ => ⟨_, rfl, hz9⟩, hh5, (fun q0 r0 => (fun ⟨g9, e, h⟩ => ⟨g9, e, h.kept hs9.grown⟩) (hh6 q0 r0)), hh7, hh8, hh9, (fun q0 => (fun ⟨y1, y2, y3, hy, h⟩ => ⟨y1, y2, y3, hy, h.kept hs9.grown (by omega) hgb hgb3⟩) (hh10 q0)), fun q0 => (hx0 q0).kept hs9.grown (by omega) hgb hgb3, fun _ => ((hx1 trivial).then hs9 q90 q91).mono (by simp [hL] <;> omega), hx2, fun _ => rfl, hx4⟩
      · -- operation 5
        cases ho
        go_simp
        exact hK _ _ ⟨_, _, _, _, _, _, _, _, _, _, rfl, hB, hh0, hh1, hh2, hh3, hh4, fun _ => rfl, hh6, hh7, hh8, hh9, hh10, hx0, hx1, hx2, hx3, hx4⟩
      · -- operation 6
        cases ho
        go_simp
        exact hK _ _ ⟨_, _, _, _, _, _, _, _, _, _, rfl, hB.trans ((UpW.of (Below.alloc (Below.refl W.heap.size W) (Nat.le_refl _) _)).mono hB.size), hh0, hh1, hh2, fun q0 r0 => (fun ⟨g9, e, h⟩ => ⟨g9, e, h.below (Below.alloc (Below.refl W.heap.size W) (Nat.le_refl _) _)⟩) (hh3 q0 r0), hh4, hh5, fun _ _ => ⟨_, rfl, LstS.new W _ _ (hx1 trivial).lt⟩, hh7, hh8, hh9, fun q0 => (fun ⟨y1, y2, y3, hy, h⟩ => ⟨y1, y2, y3, hy, h.below (Below.alloc (Below.refl W.heap.size W) (Nat.le_refl _) _)⟩) (hh10 q0), fun q0 => (fun h => h.below (Below.alloc (Below.refl W.heap.size W) (Nat.le_refl _) _)) (hx0 q0), fun q0 => (fun h => h.on (Below.alloc (Below.refl W.heap.size W) (Nat.le_refl _) _)) (hx1 q0), hx2, hx3, hx4⟩
      · -- operation 7
        cases ho
        have hT : Fl9 10 = false := Bool.eq_false_iff.2 (fun h => absurd (hx4 h) (by rw [hL]; simp))
        have hbn4 := bN (Fl9 4)
        have hbn7 := bN (Fl9 7)
        obtain ⟨g9, rfl, hl9⟩ := hh6 (hdep ⟨6, .data⟩ (by simp) rfl) hT
        obtain rfl := hh5 (hdep ⟨5, .data⟩ (by simp) rfl)
        obtain ⟨q9, q90, q91, H9⟩ := (hx1 trivial).at H.out
        go_simp
        refine (amongN_at H9 (by omega) g9 3 3 [0, 20, 21] rfl (by omega) (by omega) hl9.nums hl9.ne).mono ?_
        rintro e w9 ⟨z9, hz9, rfl, hs9⟩
        exact hK _ _ ⟨_, _, _, _, _, _, _, _, _, _, rfl, hB.trans ((UpW.grown hs9.grown).mono hB.size), hh0, hh1, hh2, (fun q0 r0 => (fun ⟨g9, e, h⟩ => ⟨g9, e, h.kept hs9.grown⟩) (hh3 q0 r0)), hh4, hh5, (fun q0 r0 => (fun ⟨g9, e, h⟩ => ⟨g9, e, h.kept hs9.grown⟩) (hh6 q0 r0)), fun _ => ⟨_, rfl, hz9⟩, hh8, hh9, (fun q0 => (fun ⟨y1, y2, y3, hy, h⟩ => ⟨y1, y2, y3, hy, h.kept hs9.grown (by omega) hgb hgb3⟩) (hh10 q0)), fun q0 => (hx0 q0).kept hs9.grown (by omega) hgb hgb3, fun _ => ((hx1 trivial).then hs9 q90 q91).mono (by simp [hL] <;> omega), hx2, hx3, fun _ => rfl⟩
      · -- operation 8
        cases ho
        obtain ⟨z30, rfl, hz30⟩ := hh4 (hdep ⟨4, .data⟩ (by simp) rfl)
        obtain ⟨z33, rfl, hz33⟩ := hh7 (hdep ⟨7, .data⟩ (by simp) rfl)
        go_simp
        exact hK _ _ ⟨_, _, _, _, _, _, _, _, _, _, rfl, hB, hh0, hh1, hh2, hh3, hh4, hh5, hh6, hh7, fun _ => ⟨_, _, _, rfl, (by omega)⟩, hh9, hh10, hx0, hx1, hx2, hx3, hx4⟩
      · -- operation 9
        cases ho
        obtain rfl := hh1 (hdep ⟨1, .data⟩ (by simp) rfl)
        have hn9 : (0 : Int) < (nR : Int) := by omega
        go_simp
        exact hK _ _ ⟨_, _, _, _, _, _, _, _, _, _, rfl, hB, hh0, hh1, hh2, hh3, hh4, hh5, hh6, hh7, hh8, fun _ => rfl, hh10, hx0, hx1, hx2, hx3, hx4⟩
      · -- operation 10
        cases ho
        have hp1 := hdep ⟨1, .phase⟩ (by simp) rfl
        have hp4 := hdep ⟨4, .phase⟩ (by simp) rfl
        have hp7 := hdep ⟨7, .phase⟩ (by simp) rfl
        obtain ⟨y1, y2, y3, rfl, hy1⟩ := hh8 (hdep ⟨8, .data⟩ (by simp) rfl)
        obtain rfl := hh9 (hdep ⟨9, .data⟩ (by simp) rfl)
        have hst := (hx0 hL).setR hn0 hRl y1 y2 y3
        have ce := (hx0 hL).cellsR hn0
        obtain ⟨ce0, ce1, ce2, cf0, cf1, cf2⟩ := ce
        go_simp
        exact hK _ _ ⟨_, _, _, _, _, _, _, _, _, _, rfl, hB.trans ((UpW.grown hst.2).mono hB.size), hh0, (fun _ => rfl), hh2, (fun _ q0 => nomatch q0), hh4, hh5, (fun _ q0 => nomatch q0), hh7, hh8, hh9, fun _ => ⟨y1, y2, y3, hy1, hst.1⟩, (fun q0 => nomatch q0), fun _ => (hx1 trivial).own hst.2 hg1 (by omega), fun _ => hp1, fun _ => hp4, fun _ => hp7⟩
    intro Fl9 ac W hJ hall
    obtain ⟨x26, x27, x28, x29, x30, x31, x32, x33, x34, x35, rfl, hB, hh0, hh1, hh2, hh3, hh4, hh5, hh6, hh7, hh8, hh9, hh10, -, hcs9, -, -, -⟩ := hJ
    obtain rfl := hh0 (hall 0 (by decide))
    obtain rfl := hh1 (hall 1 (by decide))
    obtain rfl := hh2 (hall 2 (by decide))
    obtain rfl := hh5 (hall 5 (by decide))
    obtain rfl := hh9 (hall 9 (by decide))
    obtain - := hh3 (hall 3 (by decide))
    obtain - := hh4 (hall 4 (by decide))
    obtain - := hh6 (hall 6 (by decide))
    obtain - := hh7 (hall 7 (by decide))
    obtain - := hh8 (hall 8 (by decide))
    obtain ⟨y1, y2, y3, hy1, P7⟩ := hh10 (hall 10 (by decide))
    clear hall
    have S7 := Lib.hid (hcs9 trivial)
    have P7 := Lib.hid P7
    have hbn := bN (Fl9 4)
    have hbn2 := bN (Fl9 7)
    have hR5 : (R.set 0 (y1, y2, y3)).length = nR := by rw [List.length_set, hRl]
    clear hcs9 hB P6 S6
    have C0 := P7.out.c0
    have C1 := P7.out.c1
    have d0 := cell_of_row _ _ 0 _ _ _ P7.out.res
    have d1 := cell_of_row _ _ 1 _ _ _ P7.out.res
    have f0 := frozen_of_row _ _ 0 _ _ P7.out.res
    have f1 := frozen_of_row _ _ 1 _ _ P7.out.res
    go_wp2_with fail
    refine bodyPost_ret (v := .agg #[.slice (some ⟨g1, 0, none⟩) nR c1, .slice A2 nZ c2]) ?_ rfl ?_
    · exact results_cell_at rfl _ _ b0 [.slice (some ⟨g1, 0, none⟩) nR c1, .slice A2 nZ c2] _ rfl (res_range P7.out.res) Try.underlying27 rfl (by kernel_rfl)
    exact ⟨g1, A2, nR, c1, nZ, c2, _, _, rfl, hn0, by omega, by omega, hR5, hZl, (HOK.out.put hy1), P7.out.done.1, P7.out.done.2, (S7.out.sets2 _ _ hgb (by omega)).mono (by omega)⟩
  by_cases n3 : b6 = 3
  · subst n3
    clear n0 n1 n2
    go_wp2_with fail
    have S6' : Hid (CurStep w w2 g A n c p (103 + 2 * (nR : Int))) := Lib.hid (S6.out.mono (by omega))
    generalize (Value.agg #[.slice (some ⟨g1, 0, none⟩) nR c1, .slice A2 nZ c2] : Value) = u5q
    go_loopg [] (8 - nR) (fun gh wr => ∃ (g1 nR c1 nZ c2 : Nat) (A2 : Option Addr) (R : List (Int × Int × Int)) (Z : List Int), gh + nR = 8 ∧ 0 < nR ∧ nR ≤ 7 ∧ nZ ≤ nR + 59 ∧ R.length = nR ∧ Z.length = nZ ∧ Hid (okR R) ∧ Hid (WyS w.heap.size wr b0 b3 (.slice (some ⟨g1, 0, none⟩) nR c1) (.slice A2 nZ c2) (.slice (some ⟨g1, 0, none⟩) nR c1) (.slice A2 nZ c2) nR nZ R Z) ∧ Hid (CurStep w wr g A n c p (103 + 2 * (nR : Int))))
    case atStart => exact ⟨g1, nR, c1, nZ, c2, A2, R, Z, by omega, hn0, by omega, by omega, hRl, hZl, HOK, P6, S6'⟩
    case round =>
      clear P6 S6 S6' HOK hRl hZl hn0 hn6 hz7 hg1 HLZ HZF HD9 hD100
      obtain ⟨g1, nR, c1, nZ, c2, A2, R, Z, hgh, hn0, hn7, hz7, hRl, hZl, HOK, P6, S6⟩ := hrel
      obtain ⟨D9, hD9⟩ : ∃ d : Int, d = 103 + 2 * (nR : Int) := ⟨_, rfl⟩
      rw [← hD9] at S6
      have HD9 := Lib.hid hD9
      have hD100 : D9 ≤ 120 := by omega
      clear hD9
      go_wp2_with fail
      refine region_inv (by kernel_rfl) (by kernel_rfl) (fun Fl9 ac W => ∃ (x38 x39 x40 x41 x42 x43 x44 : Value), ac = { tmps := #[Value.pointer (some ⟨g, 0, none⟩), undef, Value.pointer (some ⟨b0, 0, none⟩), Value.pointer (some ⟨b3, 0, none⟩), Value.pointer (some ⟨g, 0, none⟩), u5q, Value.pointer (some ⟨g, 0, none⟩), Value.int IntKind.i64 3, Value.bool false, Value.bool false, undef, undef, undef, undef, undef, Value.bool false, Value.bool false, undef, undef, undef, undef, undef, undef, undef, Value.bool false, Value.bool false, undef, undef, undef, undef, undef, undef, undef, undef, undef, undef, Value.bool true, Value.bool true, x38, x39, x40, x41, x42, x43, x44, u45, u46, u47, u48, u49, u50, u51, u52, u53, u54, u55, undef, undef, undef, undef, undef, undef, undef, undef, undef, undef, undef, undef, undef], defers := [] } ∧ UpW wr.heap.size wr W ∧
            (Fl9 0 = true → x38 = .pointer (some ⟨b3, 0, none⟩)) ∧
            (Fl9 1 = true → x39 = .slice (some ⟨g1, 0, none⟩) nR c1) ∧
            (Fl9 2 = true → x40 = .int .i64 nR) ∧
            (Fl9 3 = true → x41 = .pointer (some ⟨g, 0, none⟩)) ∧
            (Fl9 4 = true → ∃ z9 : Int, x42 = .int .i64 z9 ∧ 0 ≤ z9 ∧ z9 ≤ 1) ∧
            (Fl9 5 = true → ∃ z9 : Int, x43 = .int .i64 z9 ∧ 6 ≤ z9 ∧ z9 ≤ 7) ∧
            (Fl9 6 = true → ∃ b9 : Bool, x44 = .bool b9 ∧ (b9 = true → nR ≤ 6)) ∧
            (True → WyS w.heap.size W b0 b3 (.slice (some ⟨g1, 0, none⟩) nR c1) (.slice A2 nZ c2) (.slice (some ⟨g1, 0, none⟩) nR c1) (.slice A2 nZ c2) nR nZ R Z) ∧
            (True → CurStep w W g A n c p (D9 + 2 * (((Fl9 4).toNat : Int)))) ∧
            (True → True) ∧
            (True → True)) ?_ ?_ ?_
      · exact ⟨_, _, _, _, _, _, _, rfl, UpW.of ((Drawn.one wr 1).below _), (fun q0 => nomatch q0), (fun q0 => nomatch q0), (fun q0 => nomatch q0), (fun q0 => nomatch q0), (fun q0 => nomatch q0), (fun q0 => nomatch q0), (fun q0 => nomatch q0), (fun _ => P6.out.below ((Drawn.one wr 1).below _)), (fun _ => (S6.out.on ((Drawn.one wr 1).below _)).mono (by simp)), (fun _ => trivial), (fun _ => trivial)⟩
      · intro Fl9 ac W i9 o9 hJ ho hL hdep K9 hK
        obtain ⟨x38, x39, x40, x41, x42, x43, x44, rfl, hB, hh0, hh1, hh2, hh3, hh4, hh5, hh6, hx0, hx1, hx2, hx3⟩ := hJ
        have hi9 : i9 < 7 := by simpa using (Array.getElem?_eq_some_iff.1 ho).1
        obtain rfl | rfl | rfl | rfl | rfl | rfl | rfl : i9 = 0 ∨ i9 = 1 ∨ i9 = 2 ∨ i9 = 3 ∨ i9 = 4 ∨ i9 = 5 ∨ i9 = 6 := by omega
        · -- operation 0
          cases ho
          go_simp
          exact hK _ _ ⟨_, _, _, _, _, _, _, rfl, hB, fun _ => rfl, hh1, hh2, hh3, hh4, hh5, hh6, hx0, hx1, hx2, hx3⟩
        · -- operation 1
          cases ho
          obtain rfl := hh0 (hdep ⟨0, .data⟩ (by simp) rfl)
          have C9 := (hx0 trivial).c0
          go_simp
          exact hK _ _ ⟨_, _, _, _, _, _, _, rfl, hB, hh0, fun _ => rfl, hh2, hh3, hh4, hh5, hh6, hx0, hx1, hx2, hx3⟩
        · -- operation 2
          cases ho
          obtain rfl := hh1 (hdep ⟨1, .data⟩ (by simp) rfl)
          go_simp
          exact hK _ _ ⟨_, _, _, _, _, _, _, rfl, hB, hh0, hh1, fun _ => rfl, hh3, hh4, hh5, hh6, hx0, hx1, hx2, hx3⟩
        · -- operation 3
          cases ho
          go_simp
          exact hK _ _ ⟨_, _, _, _, _, _, _, rfl, hB, hh0, hh1, hh2, fun _ => rfl, hh4, hh5, hh6, hx0, hx1, hx2, hx3⟩
        · -- operation 4
          cases ho
          have hbn4 := bN (Fl9 4)
          obtain rfl := hh3 (hdep ⟨3, .data⟩ (by simp) rfl)
          obtain ⟨q9, q90, q91, H9⟩ := (hx1 trivial).at H.out
          go_simp
          refine (pick_at H9 (by omega) 2 (by omega)).mono ?_
          rintro e w9 ⟨z9, hb90, hb91, rfl, hs9⟩
          exact hK _ _ ⟨_, _, _, _, _, _, _, rfl, hB.trans ((UpW.grown hs9.grown).mono hB.size), hh0, hh1, hh2, hh3, fun _ => ⟨_, rfl, hb90, by omega⟩, hh5, hh6, fun q0 => (hx0 q0).kept hs9.grown (by omega) hgb hgb3, fun _ => ((hx1 trivial).then hs9 q90 q91).mono (by simp [hL] <;> omega), hx2, hx3⟩
        · -- operation 5
          cases ho
          obtain ⟨z42, rfl, hz42⟩ := hh4 (hdep ⟨4, .data⟩ (by simp) rfl)
          go_simp
          try rw [show IntKind.i64.wrap (6 + z42) = 6 + z42 from (by rw [IntKind.wrap_i64]; omega)]
          exact hK _ _ ⟨_, _, _, _, _, _, _, rfl, hB, hh0, hh1, hh2, hh3, hh4, fun _ => ⟨_, rfl, by omega⟩, hh6, hx0, hx1, hx2, hx3⟩
        · -- operation 6
          cases ho
          obtain ⟨z43, rfl, hz43⟩ := hh5 (hdep ⟨5, .data⟩ (by simp) rfl)
          obtain rfl := hh2 (hdep ⟨2, .data⟩ (by simp) rfl)
          go_simp
          exact hK _ _ ⟨_, _, _, _, _, _, _, rfl, hB, hh0, hh1, hh2, hh3, hh4, hh5, fun _ => ⟨_, rfl, fun q => by simp at q; omega⟩, hx0, hx1, hx2, hx3⟩
      intro Fl9 ac W hJ hall
      obtain ⟨x38, x39, x40, x41, x42, x43, x44, rfl, hB, hh0, hh1, hh2, hh3, hh4, hh5, hh6, hwy9, hcs9, -, -⟩ := hJ
      obtain rfl := hh0 (hall 0 (by decide))
      obtain rfl := hh1 (hall 1 (by decide))
      obtain rfl := hh2 (hall 2 (by decide))
      obtain rfl := hh3 (hall 3 (by decide))
      obtain - := hh4 (hall 4 (by decide))
      obtain - := hh5 (hall 5 (by decide))
      obtain ⟨b9, rfl, hb44⟩ := hh6 (hall 6 (by decide))
      clear hall
      have S7 : Hid (CurStep w W g A n c p (D9 + 2)) := Lib.hid ((hcs9 trivial).mono (by have := bN (Fl9 4); omega))
      have P7 := Lib.hid (hwy9 trivial)
      clear hcs9 hwy9 hB P6 S6
      cases b9 with
      | false =>
        have C0 := P7.out.c0
        have C1 := P7.out.c1
        have d0 := cell_of_row _ _ 0 _ _ _ P7.out.res
        have d1 := cell_of_row _ _ 1 _ _ _ P7.out.res
        have f0 := frozen_of_row _ _ 0 _ _ P7.out.res
        have f1 := frozen_of_row _ _ 1 _ _ P7.out.res
        go_wp2_with fail
        refine bodyPost_ret (v := .agg #[.slice (some ⟨g1, 0, none⟩) nR c1, .slice A2 nZ c2]) ?_ rfl ?_
        · exact results_cell_at rfl _ _ b0 [.slice (some ⟨g1, 0, none⟩) nR c1, .slice A2 nZ c2] _ rfl (res_range P7.out.res) Try.underlying27 rfl (by kernel_rfl)
        exact ⟨g1, A2, nR, c1, nZ, c2, _, _, rfl, hn0, by omega, by omega, hRl, hZl, HOK.out, P7.out.done.1, P7.out.done.2, (S7.out.sets2 _ _ hgb (by omega)).mono (by omega)⟩
      | true =>
        have hn6 := hb44 rfl
        clear hb44
        have C0 := P7.out.c0
        have C1 := P7.out.c1
        have HPA := Lib.hid (P7.out.below (below1x W (.cells #[.int .i64 4, .int .i64 200, .int .i64 6] 83)))
        have HSA := Lib.hid (S7.out.alloc (.cells #[.int .i64 4, .int .i64 200, .int .i64 6] 83))
        have HSZ := Lib.hid S7.out.grown.size
        clear P7 S7
        go_wp2_with (at_builtin; go_loud (refine wpList_append_own _ rfl (.tmp 46) (.tmp 48) 24 rfl w.heap.size 83 j0 (.agg #[.int .i64 0, .int .i64 0, .int .i64 0]) 3 24 Try.underlying24 hj jz0 jz1 jz2 rfl (by decide) (.slice (some ⟨g1, 0, none⟩) nR c1) nR _ rfl HPA.out.r ⟨W.heap.size, 0, none⟩ 1 1 [.int .i64 4, .int .i64 200, .int .i64 6] rfl rfl (cell_3W _ _ _ _ _) (by simp [Value.oneCell']) (by unfold maxLen; omega) (by omega) (by have := HSZ.out; simp; omega) ?_; intro v1 w6 hown1 hgrow1 hnil1; obtain ⟨g5, c5, rfl, hg5⟩ := own_some hown1 (fun e => absurd (hnil1.1 e).2 (by decide)); refine Hid.out ?_))
        have hon : w6.ownsRow w.heap.size 83 3 (.slice (some ⟨g5, 0, none⟩) (nR + 1) c5) (nR + 1) (flat (R ++ [(4, 200, 6)])) := by rw [flat_appW]; exact hown1
        have hw9 := HPA.out.appR hgrow1 hon
        have PN := Lib.hid (hw9.putR hne03)
        have SN := Lib.hid ((HSA.out.row hgrow1 HPA.out.r hgl).own (grown_setW w6 b3 0 (.slice (some ⟨g5, 0, none⟩) (nR + 1) c5)) hgb3 (by omega))
        have e0 := hw9.c0
        have e1 := hw9.c1
        have fz := hw9.f0
        have hR5 : (R ++ [((4 : Int), (200 : Int), (6 : Int))]).length = nR + 1 := by rw [List.length_append, hRl]; rfl
        have HOK5 := Lib.hid (HOK.out.add (x := 4) (y := 200) (z := 6) (by omega))
        obtain ⟨W5, hW5⟩ : ∃ x, w6.setCell ⟨b3, 0, none⟩ (.slice (some ⟨g5, 0, none⟩) (nR + 1) c5) = x := ⟨_, rfl⟩
        have HPB := Lib.hid (PN.out.below (below1x (w6.setCell ⟨b3, 0, none⟩ (.slice (some ⟨g5, 0, none⟩) (nR + 1) c5)) (.cells #[.int .i64 (-1000)] 3)))
        have HSB := Lib.hid (SN.out.alloc (.cells #[.int .i64 (-1000)] 3))
        have HSZ2 := Lib.hid SN.out.grown.size
        have k0 := PN.out.c0
        have k1 := PN.out.c1
        clear hw9 hon hown1 hgrow1 hnil1 HPA HSA HSZ C0 C1 PN SN hW5
        refine Lib.hid ?_
        go_wp2_with (at_builtin; go_loud (refine wpList_append_own _ rfl (.tmp 52) (.tmp 53) 25 rfl w.heap.size 3 i0 (.int .i64 0) 1 8 Try.underlying25 hi hz0 hz1 hz2 rfl (by decide) (.slice A2 nZ c2) nZ _ rfl HPB.out.z ⟨w6.heap.size, 0, none⟩ 1 1 [.int .i64 (-1000)] rfl rfl (by have k := cell_1W (w6.setCell ⟨b3, 0, none⟩ (.slice (some ⟨g5, 0, none⟩) (nR + 1) c5)) (.int .i64 (-1000)) 3; rwa [heap_setS] at k) (by simp [Value.oneCell']) (by unfold maxLen; omega) (by omega) (by have := HSZ2.out; simp; simp at this; omega) ?_; intro v1 w8 hown1 hgrow1 hnil1; obtain ⟨g7, c7, rfl, hg7⟩ := own_some hown1 (fun e => absurd (hnil1.1 e).2 (by decide)); refine Hid.out ?_))
        have hon : w8.ownsRow w.heap.size 3 1 (.slice (some ⟨g7, 0, none⟩) (nZ + 1) c7) (nZ + 1) ((Z ++ [-1000]).map (.int .i64)) := by rw [List.map_append]; exact hown1
        have hw9 := HPB.out.appZ hgrow1 hon
        have PN := Lib.hid (hw9.putZ hne03)
        have SN := Lib.hid ((HSB.out.row hgrow1 HPB.out.z hgl).own (grown_setW w8 b3 1 (.slice (some ⟨g7, 0, none⟩) (nZ + 1) c7)) hgb3 (by omega))
        clear e0 e1 fz k0 k1
        have e0 := hw9.c0
        have e1 := hw9.c1
        have fz := hw9.f1
        have hZ5 : (Z ++ [(-1000 : Int)]).length = nZ + 1 := by rw [List.length_append, hZl]; rfl
        clear hw9 hon hown1 hgrow1 hnil1 HPB HSB HSZ2
        refine Lib.hid ?_
        go_wp2_with fail
        go_roundg (gk - 1)
        case rel => exact ⟨g5, nR + 1, c5, nZ + 1, c7, (some ⟨g7, 0, none⟩), _, _, by omega, by omega, by omega, by omega, hR5, hZ5, HOK5, PN, Lib.hid (SN.out.mono (by have := HD9.out; push_cast; omega))⟩
        case measure => omega
  by_cases n4 : b6 = 4
  · subst n4
    clear n0 n1 n2 n3
    have C0 := P6.out.c0
    have C1 := P6.out.c1
    by_cases hz0l : 0 < nZ
    · obtain ⟨g2, rfl⟩ := HZF.out hz0l
      have hg2 := HLZ.out g2 rfl
      have hz0i : (0 : Int) < (nZ : Int) := by omega
      go_wp2_with fail
      clear C0 C1
      refine region_inv (by kernel_rfl) (by kernel_rfl) (fun Fl9 ac W => ∃ (x62 x63 x64 x65 x66 x67 : Value), ac = { tmps := #[Value.pointer (some ⟨g, 0, none⟩), undef, Value.pointer (some ⟨b0, 0, none⟩), Value.pointer (some ⟨b3, 0, none⟩), Value.pointer (some ⟨g, 0, none⟩), Value.agg #[Value.slice (some ⟨g1, 0, none⟩) nR c1, Value.slice (some ⟨g2, 0, none⟩) nZ c2], Value.pointer (some ⟨g, 0, none⟩), Value.int IntKind.i64 4, Value.bool false, Value.bool false, undef, undef, undef, undef, undef, Value.bool false, Value.bool false, undef, undef, undef, undef, undef, undef, undef, Value.bool false, Value.bool false, undef, undef, undef, undef, undef, undef, undef, undef, undef, undef, Value.bool false, Value.bool false, undef, undef, undef, undef, undef, undef, undef, undef, undef, undef, undef, undef, undef, undef, undef, undef, undef, undef, Value.bool true, Value.bool true, Value.pointer (some ⟨b3, 1, none⟩), Value.slice (some ⟨g2, 0, none⟩) nZ c2, Value.int IntKind.i64 (nZ : Int), Value.bool true, x62, x63, x64, x65, x66, x67, undef], defers := [] } ∧ UpW w2.heap.size w2 W ∧
            (Fl9 0 = true → x62 = .pointer (some ⟨b3, 1, none⟩)) ∧
            (Fl9 1 = true → x63 = .slice (some ⟨g2, 0, none⟩) nZ c2) ∧
            (Fl9 2 = true → x64 = .pointer (some ⟨g, 0, none⟩)) ∧
            (Fl9 3 = true → Fl9 6 = false → ∃ g9, x65 = .slice (some ⟨g9, 0, none⟩) 2 2 ∧ LstS W g g9 (([1001, (-1001)] : List Int).map (.int .i64))) ∧
            (Fl9 4 = true → ∃ z9 : Int, x66 = .int .i64 z9 ∧ z9 ∈ ([1001, -1001] : List Int)) ∧
            (Fl9 5 = true → x67 = .pointer (some ⟨g2, 0, none⟩)) ∧
            (Fl9 6 = true → ∃ z9 : Int, WyS w.heap.size W b0 b3 (.slice (some ⟨g1, 0, none⟩) nR c1) (.slice (some ⟨g2, 0, none⟩) nZ c2) (.slice (some ⟨g1, 0, none⟩) nR c1) (.slice (some ⟨g2, 0, none⟩) nZ c2) nR nZ R (Z.set 0 z9)) ∧
            (Fl9 6 = false → WyS w.heap.size W b0 b3 (.slice (some ⟨g1, 0, none⟩) nR c1) (.slice (some ⟨g2, 0, none⟩) nZ c2) (.slice (some ⟨g1, 0, none⟩) nR c1) (.slice (some ⟨g2, 0, none⟩) nZ c2) nR nZ R Z) ∧
            (True → CurStep w W g A n c p (D9 + 2 * (((Fl9 4).toNat : Int)))) ∧
            (Fl9 6 = true → Fl9 1 = true) ∧
            (Fl9 6 = true → Fl9 4 = true)) ?_ ?_ ?_
      · exact ⟨_, _, _, _, _, _, rfl, UpW.of ((Drawn.one w2 1).below _), (fun q0 => nomatch q0), (fun q0 => nomatch q0), (fun q0 => nomatch q0), (fun q0 => nomatch q0), (fun q0 => nomatch q0), (fun q0 => nomatch q0), (fun q0 => nomatch q0), (fun _ => P6.out.below ((Drawn.one w2 1).below _)), (fun _ => (S6.out.on ((Drawn.one w2 1).below _)).mono (by simp)), (fun q0 => nomatch q0), (fun q0 => nomatch q0)⟩
      · intro Fl9 ac W i9 o9 hJ ho hL hdep K9 hK
        obtain ⟨x62, x63, x64, x65, x66, x67, rfl, hB, hh0, hh1, hh2, hh3, hh4, hh5, hh6, hx0, hx1, hx2, hx3⟩ := hJ
        have hi9 : i9 < 7 := by simpa using (Array.getElem?_eq_some_iff.1 ho).1
        obtain rfl | rfl | rfl | rfl | rfl | rfl | rfl : i9 = 0 ∨ i9 = 1 ∨ i9 = 2 ∨ i9 = 3 ∨ i9 = 4 ∨ i9 = 5 ∨ i9 = 6 := by omega
        · -- operation 0
          cases ho
          go_simp
          exact hK _ _ ⟨_, _, _, _, _, _, rfl, hB, fun _ => rfl, hh1, hh2, hh3, hh4, hh5, hh6, hx0, hx1, hx2, hx3⟩
        · -- operation 1
          cases ho
          obtain rfl := hh0 (hdep ⟨0, .data⟩ (by simp) rfl)
          have hT : Fl9 6 = false := Bool.eq_false_iff.2 (fun h => absurd (hx2 h) (by rw [hL]; simp))
          have C9 := (hx0 hT).c1
          go_simp
          exact hK _ _ ⟨_, _, _, _, _, _, rfl, hB, hh0, fun _ => rfl, hh2, hh3, hh4, hh5, hh6, hx0, hx1, fun _ => rfl, hx3⟩
        · -- operation 2
          cases ho
          go_simp
          exact hK _ _ ⟨_, _, _, _, _, _, rfl, hB, hh0, hh1, fun _ => rfl, hh3, hh4, hh5, hh6, hx0, hx1, hx2, hx3⟩
        · -- operation 3
          cases ho
          go_simp
          exact hK _ _ ⟨_, _, _, _, _, _, rfl, hB.trans ((UpW.of (Below.alloc (Below.refl W.heap.size W) (Nat.le_refl _) _)).mono hB.size), hh0, hh1, hh2, fun _ _ => ⟨_, rfl, LstS.new W _ _ (hx1 trivial).lt⟩, hh4, hh5, fun q0 => (fun ⟨z9, h⟩ => ⟨z9, h.below (Below.alloc (Below.refl W.heap.size W) (Nat.le_refl _) _)⟩) (hh6 q0), fun q0 => (fun h => h.below (Below.alloc (Below.refl W.heap.size W) (Nat.le_refl _) _)) (hx0 q0), fun q0 => (fun h => h.on (Below.alloc (Below.refl W.heap.size W) (Nat.le_refl _) _)) (hx1 q0), hx2, hx3⟩
        · -- operation 4
          cases ho
          have hT : Fl9 6 = false := Bool.eq_false_iff.2 (fun h => absurd (hx3 h) (by rw [hL]; simp))
          have hbn4 := bN (Fl9 4)
          obtain ⟨g9, rfl, hl9⟩ := hh3 (hdep ⟨3, .data⟩ (by simp) rfl) hT
          obtain rfl := hh2 (hdep ⟨2, .data⟩ (by simp) rfl)
          obtain ⟨q9, q90, q91, H9⟩ := (hx1 trivial).at H.out
          go_simp
          refine (amongN_at H9 (by omega) g9 2 2 [1001, -1001] rfl (by omega) (by omega) hl9.nums hl9.ne).mono ?_
          rintro e w9 ⟨z9, hz9, rfl, hs9⟩
          exact hK _ _ ⟨_, _, _, _, _, _, rfl, hB.trans ((UpW.grown hs9.grown).mono hB.size), hh0, hh1, hh2, (fun q0 r0 => (fun ⟨g9, e, h⟩ => ⟨g9, e, h.kept hs9.grown⟩) (hh3 q0 r0)), fun _ => ⟨_, rfl, hz9⟩, hh5, (fun q0 => (fun ⟨z9, h⟩ => ⟨z9, h.kept hs9.grown (by omega) hgb hgb3⟩) (hh6 q0)), fun q0 => (hx0 q0).kept hs9.grown (by omega) hgb hgb3, fun _ => ((hx1 trivial).then hs9 q90 q91).mono (by simp [hL] <;> omega), hx2, fun _ => rfl⟩
        · -- operation 5
          cases ho
          obtain rfl := hh1 (hdep ⟨1, .data⟩ (by simp) rfl)
          have hn9 : (0 : Int) < (nZ : Int) := by omega
          go_simp
          exact hK _ _ ⟨_, _, _, _, _, _, rfl, hB, hh0, hh1, hh2, hh3, hh4, fun _ => rfl, hh6, hx0, hx1, hx2, hx3⟩
        · -- operation 6
          cases ho
          have hp1 := hdep ⟨1, .phase⟩ (by simp) rfl
          have hp4 := hdep ⟨4, .phase⟩ (by simp) rfl
          obtain ⟨z66, rfl, hz66⟩ := hh4 (hdep ⟨4, .data⟩ (by simp) rfl)
          obtain rfl := hh5 (hdep ⟨5, .data⟩ (by simp) rfl)
          have hst := (hx0 hL).setZ z66
          have ce := (hx0 hL).z.cellAt 0 (by omega)
          have cf := (hx0 hL).z.frozenAt 0
          go_simp
          exact hK _ _ ⟨_, _, _, _, _, _, rfl, hB.trans ((UpW.grown hst.2).mono hB.size), hh0, (fun _ => rfl), hh2, (fun _ q0 => nomatch q0), hh4, hh5, fun _ => ⟨z66, hst.1⟩, (fun q0 => nomatch q0), fun _ => (hx1 trivial).own hst.2 hg2 (by omega), fun _ => hp1, fun _ => hp4⟩
      intro Fl9 ac W hJ hall
      obtain ⟨x62, x63, x64, x65, x66, x67, rfl, hB, hh0, hh1, hh2, hh3, hh4, hh5, hh6, -, hcs9, -, -⟩ := hJ
      obtain rfl := hh0 (hall 0 (by decide))
      obtain rfl := hh1 (hall 1 (by decide))
      obtain rfl := hh2 (hall 2 (by decide))
      obtain rfl := hh5 (hall 5 (by decide))
      obtain - := hh3 (hall 3 (by decide))
      obtain - := hh4 (hall 4 (by decide))
      obtain ⟨z9, P7⟩ := hh6 (hall 6 (by decide))
      clear hall
      have S7 := Lib.hid (hcs9 trivial)
      have P7 := Lib.hid P7
      have hbn := bN (Fl9 4)
      have hZ5 : (Z.set 0 z9).length = nZ := by rw [List.length_set, hZl]
      clear hcs9 hB P6 S6
      have C0 := P7.out.c0
      have C1 := P7.out.c1
      have d0 := cell_of_row _ _ 0 _ _ _ P7.out.res
      have d1 := cell_of_row _ _ 1 _ _ _ P7.out.res
      have f0 := frozen_of_row _ _ 0 _ _ P7.out.res
      have f1 := frozen_of_row _ _ 1 _ _ P7.out.res
      go_wp2_with fail
      refine bodyPost_ret (v := .agg #[.slice (some ⟨g1, 0, none⟩) nR c1, .slice (some ⟨g2, 0, none⟩) nZ c2]) ?_ rfl ?_
      · exact results_cell_at rfl _ _ b0 [.slice (some ⟨g1, 0, none⟩) nR c1, .slice (some ⟨g2, 0, none⟩) nZ c2] _ rfl (res_range P7.out.res) Try.underlying27 rfl (by kernel_rfl)
      exact ⟨g1, (some ⟨g2, 0, none⟩), nR, c1, nZ, c2, _, _, rfl, hn0, by omega, by omega, hRl, hZ5, HOK.out, P7.out.done.1, P7.out.done.2, (S7.out.sets2 _ _ hgb (by omega)).mono (by omega)⟩
    · have hz0i : ¬ (0 : Int) < (nZ : Int) := by omega
      clear C0 C1
      have C0 := P6.out.c0
      have C1 := P6.out.c1
      have d0 := cell_of_row _ _ 0 _ _ _ P6.out.res
      have d1 := cell_of_row _ _ 1 _ _ _ P6.out.res
      have f0 := frozen_of_row _ _ 0 _ _ P6.out.res
      have f1 := frozen_of_row _ _ 1 _ _ P6.out.res
      go_wp2_with fail
      refine bodyPost_ret (v := .agg #[.slice (some ⟨g1, 0, none⟩) nR c1, .slice A2 nZ c2]) ?_ rfl ?_
      · exact results_cell_at rfl _ _ b0 [.slice (some ⟨g1, 0, none⟩) nR c1, .slice A2 nZ c2] _ rfl (res_range P6.out.res) Try.underlying27 rfl (by kernel_rfl)
      exact ⟨g1, A2, nR, c1, nZ, c2, _, _, rfl, hn0, by omega, by omega, hRl, hZl, HOK.out, P6.out.done.1, P6.out.done.2, (S6.out.sets2 _ _ hgb (by omega)).mono (by omega)⟩
  have m0 : (b6 == 0) = false := by simp [n0]
  have m1 : (b6 == 1) = false := by simp [n1]
  have m2 : (b6 == 2) = false := by simp [n2]
  have m3 : (b6 == 3) = false := by simp [n3]
  have m4 : (b6 == 4) = false := by simp [n4]
  clear n0 n1 n2 n3 n4
  have C0 := P6.out.c0
  have C1 := P6.out.c1
  have d0 := cell_of_row _ _ 0 _ _ _ P6.out.res
  have d1 := cell_of_row _ _ 1 _ _ _ P6.out.res
  have f0 := frozen_of_row _ _ 0 _ _ P6.out.res
  have f1 := frozen_of_row _ _ 1 _ _ P6.out.res
  go_wp2_with fail
  refine bodyPost_ret (v := .agg #[.slice (some ⟨g1, 0, none⟩) nR c1, .slice A2 nZ c2]) ?_ rfl ?_
  · exact results_cell_at rfl _ _ b0 [.slice (some ⟨g1, 0, none⟩) nR c1, .slice A2 nZ c2] _ rfl (res_range P6.out.res) Try.underlying27 rfl (by kernel_rfl)
  exact ⟨g1, A2, nR, c1, nZ, c2, _, _, rfl, hn0, by omega, by omega, hRl, hZl, HOK.out, P6.out.done.1, P6.out.done.2, (S6.out.sets2 _ _ hgb (by omega)).mono (by omega)⟩
end Go.Proofs.Ytgnopkemcgbedab
