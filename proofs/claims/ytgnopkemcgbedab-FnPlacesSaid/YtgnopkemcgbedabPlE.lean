/- Chapter 2: the draw of a place, and of the length of the first reach. -/
import Derived.Test.YtgnopkemcgbedabPlD
namespace Go.Proofs.Ytgnopkemcgbedab
open Go.RowKit Go.PlainAid Go.Sort
set_option linter.unusedVariables false
set_option linter.unusedSimpArgs false

structure BxS (B : Nat) (W : World) (b3 : Nat) (v1 v2 : Value) (nR nZ : Nat) (R : List (Int × Int × Int)) (Z : List Int) : Prop where
  box : W.heap[b3]? = some (.cells #[v1, v2] 27 (0, 0))
  r : W.ownsRow B 83 3 v1 nR (flat R)
  z : W.ownsRow B 3 1 v2 nZ (Z.map (.int .i64))
  ne : True
section
variable {B : Nat} {w W W' : World} {b0 b3 g1 nR c1 nZ c2 : Nat} {A2 : Option Addr} {v1 v2 u1 u2 : Value} {R : List (Int × Int × Int)} {Z : List Int}
theorem DrS.bx (h : DrS B W b0 b3 v1 v2 nR nZ R Z) : BxS B W b3 v1 v2 nR nZ R Z := ⟨h.box, h.r, h.z, trivial⟩
theorem BxS.below (h : BxS B W b3 v1 v2 nR nZ R Z) (hb : Below W.heap.size W W') : BxS B W' b3 v1 v2 nR nZ R Z :=
  ⟨(hb.block _ (lt_of_heap h.box)).trans h.box, own_below h.r hb, own_below h.z hb, trivial⟩
theorem BxS.cA (h : BxS B W b3 v1 v2 nR nZ R Z) : W.cell? ⟨b3, 0, none⟩ = some v1 := cell_of_row _ _ 0 _ _ _ h.box
theorem BxS.cB (h : BxS B W b3 v1 v2 nR nZ R Z) : W.cell? ⟨b3, 1, none⟩ = some v2 := cell_of_row _ _ 1 _ _ _ h.box
theorem BxS.first {z0 y0 s0 : Int} (h : BxS B W b3 (.slice (some ⟨g1, 0, none⟩) nR c1) v2 nR nZ ((z0, y0, s0) :: R) Z) (hn : 0 < nR) : W.cell? ⟨g1, 0, none⟩ = some (.int .i64 z0) :=
  (h.r.cellAt 0 (by omega)).trans rfl
theorem BxS.put (h : BxS B W b3 v1 v2 nR nZ R Z) (hne : b0 ≠ b3) (res : W.heap[b0]? = some (.cells #[.slice none 0 0, .slice none 0 0] 27 (0, 0))) : BxS B ((W.setCell ⟨b0, 0, none⟩ u1).setCell ⟨b0, 1, none⟩ u2) b3 v1 v2 nR nZ R Z := by
  have k := heap_setA (u' := u1) res
  have hg1 := grown_setW W b0 0 u1
  have hg2 := grown_setW (W.setCell ⟨b0, 0, none⟩ u1) b0 1 u2
  have r1 := h.r.kept hg1 (.inr (own_off h.r res ne_wr))
  have z1 := h.z.kept hg1 (.inr (own_off h.z res ne_wi))
  have b1 := (hg1.block _ (lt_of_heap h.box) (fun e => hne (by injection e with e; exact e.symm))).trans h.box
  exact ⟨(hg2.block _ (lt_of_heap b1) (fun e => hne (by injection e with e; exact e.symm))).trans b1, r1.kept hg2 (.inr (own_off r1 k ne_wr)), z1.kept hg2 (.inr (own_off z1 k ne_wi)), trivial⟩
theorem BxS.done (h : BxS B W b3 (.slice (some ⟨g1, 0, none⟩) nR c1) (.slice A2 nZ c2) nR nZ R Z) (res : W.heap[b0]? = some (.cells #[.slice none 0 0, .slice none 0 0] 27 (0, 0))) (hb : Below w.heap.size w W) (hge : w.heap.size ≤ b0) (hR : R.length = nR) (hZ : Z.length = nZ) :
    DnS w ((W.setCell ⟨b0, 0, none⟩ (.slice (some ⟨g1, 0, none⟩) nR c1)).setCell ⟨b0, 1, none⟩ (.slice A2 nZ c2)) b0 g1 nR c1 A2 nZ c2 R Z :=
  DrS.done (b3 := b3) ⟨res, h.box, h.r, h.z⟩ hb hge hR hZ
end
set_option maxRecDepth 100000 in
set_option maxHeartbeats 4000000 in
theorem drawRch_any {w : World} {A : Option Addr} {n : Nat} {zs : List Int} {B : Nat} (c : Nat) (h : Code_ w A n zs B) :
    Calls Try.prog 12 #[.slice A n c] w (DrwY1 w) := by
  have h1 := h.up (wayO (.slice none 0 0) (.slice none 0 0))
  have H := Lib.hid (h1.start c)
  obtain ⟨W0, hW0⟩ : ∃ x, (w.alloc (wayO (.slice none 0 0) (.slice none 0 0))).alloc (.cells #[.slice A n c, .int .i64 0, .int .u64 0] 75) = x := ⟨_, rfl⟩
  have hbs : Hid (∀ W, W0.grownBy W (some (w.heap.size + 1)) → Below w.heap.size w W) := Lib.hid (fun W h => (below1x w _).trans ((below_start (w := w.alloc (wayO (.slice none 0 0) (.slice none 0 0))) (by rw [hW0]; simpa using h)).mono (by simp)))
  have RS : Hid (W0.heap[w.heap.size]? = some (.cells #[.slice none 0 0, .slice none 0 0] 27 (0, 0))) := Lib.hid (by rw [← hW0]; exact (heap_alloc_old _ _ (by simp)).trans (heap_alloc_new w _))
  have hs0 : W0.heap.size = w.heap.size + 2 := by rw [← hW0]; simp
  rw [hW0] at H
  rw [World.size_alloc] at H
  clear h h1
  go_enter Try.func12, Try.ntmps12
  go_wp2_with fail
  obtain ⟨g, hg⟩ : ∃ x, w.heap.size + 1 = x := ⟨_, rfl⟩
  obtain ⟨b0, hb0⟩ : ∃ x, w.heap.size = x := ⟨_, rfl⟩
  try rw [hW0]
  rw [hg] at H hbs
  rw [hb0] at RS
  try simp only [hg]
  try simp only [hb0]
  clear hW0
  refine (anyWaterway_at H.out (by omega)).mono ?_
  rintro e w1 ⟨g1, A2, nR, c1, nZ, c2, R, Z, rfl, hn0, hn7, hz7, hRl, hZl, hok, hor, hoz, hs⟩
  have hk1 := own_capO hor
  have hk2 := own_capO hoz
  have hsz := hs.grown.size
  obtain ⟨BB, hBB⟩ : ∃ x, W0.heap.size = x := ⟨_, rfl⟩
  have hgB : g < BB := by omega
  have hg0 : b0 ≠ g := by omega
  have hgw : w.heap.size ≤ b0 := by omega
  have P2 : Hid (DrS BB (w1.alloc (wayO (.slice (some ⟨g1, 0, none⟩) nR c1) (.slice A2 nZ c2))) b0 w1.heap.size (.slice (some ⟨g1, 0, none⟩) nR c1) (.slice A2 nZ c2) nR nZ R Z) := Lib.hid
    ⟨(heap_alloc_old _ _ (by omega)).trans ((hs.grown.block _ (by omega) (fun e => hg0 (by injection e))).trans RS.out), heap_alloc_new w1 _, own_below (by rw [← hBB]; exact hor) (below1x _ _), own_below (by rw [← hBB]; exact hoz) (below1x _ _)⟩
  have S2 := Lib.hid (hs.alloc (wayO (.slice (some ⟨g1, 0, none⟩) nR c1) (.slice A2 nZ c2)))
  have HOK := Lib.hid hok
  have hg3 : w1.heap.size ≠ g := by omega
  clear hs hor hoz hok RS
  go_wp2_with fail
  obtain ⟨w2, hw2⟩ : ∃ x, w1.alloc (wayO (.slice (some ⟨g1, 0, none⟩) nR c1) (.slice A2 nZ c2)) = x := ⟨_, rfl⟩
  obtain ⟨b3, hb3⟩ : ∃ x, w1.heap.size = x := ⟨_, rfl⟩
  rw [hw2, hb3] at P2
  rw [hw2] at S2
  try rw [hw2]
  try simp only [hb3]
  rw [hb3] at hg3
  clear hw2 hb3 hsz hs0 hBB
  obtain ⟨D9, hD9⟩ : ∃ d : Int, d = 200 := ⟨_, rfl⟩
  rw [← hD9] at S2
  have hg2 := S2.out.lt
  have P6 := P2
  have S6 := S2
  clear P2 S2
  obtain ⟨r5, r50, r51, H5⟩ := S6.out.at H.out
  refine (one_at H5 (by omega) 3 (by omega)).mono ?_
  rintro e w3 ⟨y, rfl, hs⟩
  have S7 := Lib.hid ((S6.out.then hs r50 r51).mono (d' := 202) (by omega))
  have P7 := Lib.hid (P6.out.kept hs.grown hgB hg0 hg3)
  clear hs H5 r50 r51 S6 P6 hg2
  obtain ⟨w2, hw2⟩ : ∃ x, x = w3 := ⟨_, rfl⟩
  subst hw2
  have P6 := P7
  obtain ⟨D9, hD9⟩ : ∃ d : Int, d = 202 := ⟨_, rfl⟩
  have S6 : Hid (CurStep W0 w2 g A n c 0 D9) := Lib.hid (by rw [hD9]; exact S7.out)
  have hg2 := S6.out.lt
  have hne03 : b0 ≠ b3 := by
    intro e
    have h1 := P6.out.res
    have h2 := P6.out.box
    rw [e, h2] at h1
    simp at h1
  clear S7 P7
  have C0 := P6.out.cA
  by_cases hn1 : 1 < nR
  · have hn1i : (1 : Int) < (nR : Int) := by omega
    cases y with
    | true =>
      obtain ⟨⟨z0, y0, s0⟩, R, rfl⟩ : ∃ r R', R = r :: R' := by
        match R, hRl with
        | r :: R', _ => exact ⟨r, R', rfl⟩
        | [], h => simp at h; omega
      have hz00 := HOK.out _ (List.mem_cons_self)
      dsimp only at hz00
      go_wp2_with fail
      clear C0
      refine region_inv (by kernel_rfl) (by kernel_rfl) (fun Fl9 ac W => ∃ (x19 x20 x21 x22 x23 x24 x3 : Value), ac = { tmps := #[Value.slice A n c, undef, Value.pointer (some ⟨b0, 0, none⟩), x3, Value.pointer (some ⟨g, 0, none⟩), Value.pointer (some ⟨b3, 0, none⟩), Value.slice A n c, Value.agg #[Value.slice A n c, Value.int IntKind.i64 0, Value.int IntKind.u64 0], Value.pointer (some ⟨g, 0, none⟩), Value.pointer (some ⟨g, 0, none⟩), Value.agg #[Value.slice (some ⟨g1, 0, none⟩) nR c1, Value.slice A2 nZ c2], Value.pointer (some ⟨g, 0, none⟩), Value.bool true, Value.bool true, Value.pointer (some ⟨b3, 0, none⟩), Value.slice (some ⟨g1, 0, none⟩) nR c1, Value.int IntKind.i64 (nR : Int), Value.bool true, Value.bool true, x19, x20, x21, x22, x23, x24, undef, undef, undef, undef], defers := [] } ∧ UpW w2.heap.size w2 W ∧
            (Fl9 0 = true → x19 = .agg #[.slice (some ⟨g1, 0, none⟩) nR c1, .slice A2 nZ c2]) ∧
            (Fl9 1 = true → x20 = .pointer (some ⟨b3, 0, none⟩)) ∧
            (Fl9 2 = true → x21 = .slice (some ⟨g1, 0, none⟩) nR c1) ∧
            (Fl9 3 = true → x22 = .pointer (some ⟨g1, 0, none⟩)) ∧
            (Fl9 4 = true → x23 = .pointer (some ⟨g1, 0, none⟩)) ∧
            (Fl9 5 = true → x24 = .int .i64 z0) ∧
            (Fl9 6 = true → DnS w W b0 g1 nR c1 A2 nZ c2 ((z0, y0, s0) :: R) Z) ∧
            (Fl9 7 = true → x3 = .int .i64 z0) ∧
            (True → BxS BB W b3 (.slice (some ⟨g1, 0, none⟩) nR c1) (.slice A2 nZ c2) nR nZ ((z0, y0, s0) :: R) Z) ∧
            (True → Below w.heap.size w W) ∧
            (Fl9 6 = false → W.heap[b0]? = some (.cells #[.slice none 0 0, .slice none 0 0] 27 (0, 0)))) ?_ ?_ ?_
      · exact ⟨_, _, _, _, _, _, _, rfl, UpW.of ((Drawn.one w2 1).below _), (fun q0 => nomatch q0), (fun q0 => nomatch q0), (fun q0 => nomatch q0), (fun q0 => nomatch q0), (fun q0 => nomatch q0), (fun q0 => nomatch q0), (fun q0 => nomatch q0), (fun q0 => nomatch q0), (fun _ => P6.out.bx.below ((Drawn.one w2 1).below _)), (fun _ => hbs.out _ (S6.out.on ((Drawn.one w2 1).below _)).grown), (fun _ => (((Drawn.one w2 1).below w2.heap.size).block _ (lt_of_heap P6.out.res)).trans P6.out.res)⟩
      · intro Fl9 ac W i9 o9 hJ ho hL hdep K9 hK
        obtain ⟨x19, x20, x21, x22, x23, x24, x3, rfl, hB, hh0, hh1, hh2, hh3, hh4, hh5, hh6, hh7, hx0, hx1, hx2⟩ := hJ
        have hi9 : i9 < 8 := by simpa using (Array.getElem?_eq_some_iff.1 ho).1
        obtain rfl | rfl | rfl | rfl | rfl | rfl | rfl | rfl : i9 = 0 ∨ i9 = 1 ∨ i9 = 2 ∨ i9 = 3 ∨ i9 = 4 ∨ i9 = 5 ∨ i9 = 6 ∨ i9 = 7 := by omega
        · -- operation 0
          cases ho
          have C9 := (hx0 trivial).cA
          have C8 := (hx0 trivial).cB
          go_simp
          exact hK _ _ ⟨_, _, _, _, _, _, _, rfl, hB, fun _ => rfl, hh1, hh2, hh3, hh4, hh5, hh6, hh7, hx0, hx1, hx2⟩
        · -- operation 1
          cases ho
          go_simp
          exact hK _ _ ⟨_, _, _, _, _, _, _, rfl, hB, hh0, fun _ => rfl, hh2, hh3, hh4, hh5, hh6, hh7, hx0, hx1, hx2⟩
        · -- operation 2
          cases ho
          obtain rfl := hh1 (hdep ⟨1, .data⟩ (by simp) rfl)
          have C9 := (hx0 trivial).cA
          go_simp
          exact hK _ _ ⟨_, _, _, _, _, _, _, rfl, hB, hh0, hh1, fun _ => rfl, hh3, hh4, hh5, hh6, hh7, hx0, hx1, hx2⟩
        · -- operation 3
          cases ho
          obtain rfl := hh2 (hdep ⟨2, .data⟩ (by simp) rfl)
          go_simp
          exact hK _ _ ⟨_, _, _, _, _, _, _, rfl, hB, hh0, hh1, hh2, fun _ => rfl, hh4, hh5, hh6, hh7, hx0, hx1, hx2⟩
        · -- operation 4
          cases ho
          obtain rfl := hh3 (hdep ⟨3, .data⟩ (by simp) rfl)
          go_simp
          exact hK _ _ ⟨_, _, _, _, _, _, _, rfl, hB, hh0, hh1, hh2, hh3, fun _ => rfl, hh5, hh6, hh7, hx0, hx1, hx2⟩
        · -- operation 5
          cases ho
          obtain rfl := hh4 (hdep ⟨4, .data⟩ (by simp) rfl)
          have C9 := (hx0 trivial).first hn0
          go_simp
          exact hK _ _ ⟨_, _, _, _, _, _, _, rfl, hB, hh0, hh1, hh2, hh3, hh4, fun _ => rfl, hh6, hh7, hx0, hx1, hx2⟩
        · -- operation 6
          cases ho
          obtain rfl := hh0 (hdep ⟨0, .data⟩ (by simp) rfl)
          have re := hx2 hL
          have re0 := cell_of_row _ _ 0 _ _ _ re
          have re1 := cell_of_row _ _ 1 _ _ _ re
          have rf0 := frozen_of_row _ _ 0 _ _ re
          have rf1 := frozen_of_row _ _ 1 _ _ re
          go_simp
          exact hK _ _ ⟨_, _, _, _, _, _, _, rfl, (hB.set _ _).set _ _, hh0, hh1, hh2, hh3, hh4, hh5, fun _ => (hx0 trivial).done (hx2 hL) (hx1 trivial) hgw hRl hZl, hh7, fun _ => (hx0 trivial).put hne03 (hx2 hL), fun _ => ((hx1 trivial).setCell (p := ⟨b0, 0, none⟩) hgw _).setCell (p := ⟨b0, 1, none⟩) hgw _, (fun q0 => nomatch q0)⟩
        · -- operation 7
          cases ho
          obtain rfl := hh5 (hdep ⟨5, .data⟩ (by simp) rfl)
          go_simp
          exact hK _ _ ⟨_, _, _, _, _, _, _, rfl, hB, hh0, hh1, hh2, hh3, hh4, hh5, hh6, fun _ => rfl, hx0, hx1, hx2⟩
      intro Fl9 ac W hJ hall
      obtain ⟨x19, x20, x21, x22, x23, x24, x3, rfl, hB, hh0, hh1, hh2, hh3, hh4, hh5, hh6, hh7, -, -, -⟩ := hJ
      obtain rfl := hh0 (hall 0 (by decide))
      obtain rfl := hh1 (hall 1 (by decide))
      obtain rfl := hh2 (hall 2 (by decide))
      obtain rfl := hh3 (hall 3 (by decide))
      obtain rfl := hh4 (hall 4 (by decide))
      obtain rfl := hh5 (hall 5 (by decide))
      obtain rfl := hh7 (hall 7 (by decide))
      obtain P7 := hh6 (hall 6 (by decide))
      clear hall
      have P7 := Lib.hid P7
      clear hB P6 S6
      go_wp2_with fail
      refine bodyPost_ret (results_wy1 rfl _ _ b0 [.slice (some ⟨g1, 0, none⟩) nR c1, .slice A2 nZ c2] _ rfl P7.out.range Try.underlying27 rfl (by kernel_rfl)) rfl ?_
      exact ⟨g1, nR, c1, A2, nZ, c2, _, Z, z0, P7.out.wayD hn0 hn7 hk1 hk2, (by omega), rfl⟩
    | false =>
      go_wp2_with fail
      clear C0
      refine region_inv (by kernel_rfl) (by kernel_rfl) (fun Fl9 ac W => ∃ (x25 x26 x27 x28 x3 : Value), ac = { tmps := #[Value.slice A n c, undef, Value.pointer (some ⟨b0, 0, none⟩), x3, Value.pointer (some ⟨g, 0, none⟩), Value.pointer (some ⟨b3, 0, none⟩), Value.slice A n c, Value.agg #[Value.slice A n c, Value.int IntKind.i64 0, Value.int IntKind.u64 0], Value.pointer (some ⟨g, 0, none⟩), Value.pointer (some ⟨g, 0, none⟩), Value.agg #[Value.slice (some ⟨g1, 0, none⟩) nR c1, Value.slice A2 nZ c2], Value.pointer (some ⟨g, 0, none⟩), Value.bool false, Value.bool false, undef, undef, undef, undef, Value.bool false, undef, undef, undef, undef, undef, undef, x25, x26, x27, x28], defers := [] } ∧ UpW w2.heap.size w2 W ∧
            (Fl9 0 = true → x25 = .agg #[.slice (some ⟨g1, 0, none⟩) nR c1, .slice A2 nZ c2]) ∧
            (Fl9 1 = true → x26 = .pointer (some ⟨g, 0, none⟩)) ∧
            (Fl9 2 = true → x27 = .agg #[.slice (some ⟨g1, 0, none⟩) nR c1, .slice A2 nZ c2]) ∧
            (Fl9 3 = true → ∃ z9 : Int, x28 = .int .i64 z9 ∧ (-1 ≤ z9 ∧ z9 ≤ 2000000)) ∧
            (Fl9 4 = true → DnS w W b0 g1 nR c1 A2 nZ c2 R Z) ∧
            (Fl9 5 = true → ∃ z9 : Int, x3 = .int .i64 z9 ∧ (-1 ≤ z9 ∧ z9 ≤ 2000000)) ∧
            (Fl9 4 = false → DrS BB W b0 b3 (.slice (some ⟨g1, 0, none⟩) nR c1) (.slice A2 nZ c2) nR nZ R Z) ∧
            (Fl9 4 = false → CurStep W0 W g A n c 0 (D9 + 10 * (((Fl9 3).toNat : Int)))) ∧
            (Fl9 4 = true → Fl9 0 = true) ∧
            (Fl9 4 = true → Fl9 2 = true) ∧
            (Fl9 4 = true → Fl9 3 = true) ∧
            (Fl9 3 = true → Fl9 2 = true)) ?_ ?_ ?_
      · exact ⟨_, _, _, _, _, rfl, UpW.of ((Drawn.one w2 1).below _), (fun q0 => nomatch q0), (fun q0 => nomatch q0), (fun q0 => nomatch q0), (fun q0 => nomatch q0), (fun q0 => nomatch q0), (fun q0 => nomatch q0), (fun _ => P6.out.below ((Drawn.one w2 1).below _)), (fun _ => (S6.out.on ((Drawn.one w2 1).below _)).mono (by simp)), (fun q0 => nomatch q0), (fun q0 => nomatch q0), (fun q0 => nomatch q0), (fun q0 => nomatch q0)⟩
      · intro Fl9 ac W i9 o9 hJ ho hL hdep K9 hK
        obtain ⟨x25, x26, x27, x28, x3, rfl, hB, hh0, hh1, hh2, hh3, hh4, hh5, hx0, hx1, hx2, hx3, hx4, hx5⟩ := hJ
        have hi9 : i9 < 6 := by simpa using (Array.getElem?_eq_some_iff.1 ho).1
        obtain rfl | rfl | rfl | rfl | rfl | rfl : i9 = 0 ∨ i9 = 1 ∨ i9 = 2 ∨ i9 = 3 ∨ i9 = 4 ∨ i9 = 5 := by omega
        · -- operation 0
          cases ho
          have hT : Fl9 4 = false := Bool.eq_false_iff.2 (fun h => absurd (hx2 h) (by rw [hL]; simp))
          have C9 := (hx0 hT).cA
          have C8 := (hx0 hT).cB
          go_simp
          exact hK _ _ ⟨_, _, _, _, _, rfl, hB, fun _ => rfl, hh1, hh2, hh3, hh4, hh5, hx0, hx1, fun _ => rfl, hx3, hx4, hx5⟩
        · -- operation 1
          cases ho
          go_simp
          exact hK _ _ ⟨_, _, _, _, _, rfl, hB, hh0, fun _ => rfl, hh2, hh3, hh4, hh5, hx0, hx1, hx2, hx3, hx4, hx5⟩
        · -- operation 2
          cases ho
          have hT : Fl9 4 = false := Bool.eq_false_iff.2 (fun h => absurd (hx3 h) (by rw [hL]; simp))
          have C9 := (hx0 hT).cA
          have C8 := (hx0 hT).cB
          go_simp
          exact hK _ _ ⟨_, _, _, _, _, rfl, hB, hh0, hh1, fun _ => rfl, hh3, hh4, hh5, hx0, hx1, hx2, fun _ => rfl, hx4, fun _ => rfl⟩
        · -- operation 3
          cases ho
          have hT : Fl9 4 = false := Bool.eq_false_iff.2 (fun h => absurd (hx4 h) (by rw [hL]; simp))
          have hbn3 := bN (Fl9 3)
          obtain rfl := hh1 (hdep ⟨1, .data⟩ (by simp) rfl)
          obtain rfl := hh2 (hdep ⟨2, .data⟩ (by simp) rfl)
          obtain ⟨q9, q90, q91, H9⟩ := (hx1 hT).at H.out
          go_simp
          refine (placeOf_at H9 (by omega) (some ⟨g1, 0, none⟩) A2 nR c1 nZ c2 W.heap.size (by omega) R hRl HOK.out (Nat.le_refl _) (own_hasv (hx0 hT).r)).mono ?_
          rintro e w9 ⟨z9, hz9, rfl, hs9⟩
          exact hK _ _ ⟨_, _, _, _, _, rfl, hB.trans ((UpW.grown hs9.grown).mono hB.size), hh0, hh1, hh2, fun _ => ⟨_, rfl, hz9⟩, (fun q0 => absurd (hx4 q0) (by rw [hL]; simp)), hh5, fun q0 => (hx0 q0).kept hs9.grown hgB hg0 hg3, fun q0 => ((hx1 q0).then hs9 q90 q91).mono (by simp [hL] <;> omega), hx2, hx3, fun _ => rfl, fun _ => hdep ⟨2, .data⟩ (by simp) rfl⟩
        · -- operation 4
          cases ho
          have hp3 := hdep ⟨3, .chain⟩ (by simp) rfl
          have hp0 := hdep ⟨0, .data⟩ (by simp) rfl
          obtain rfl := hh0 hp0
          have hp2 := hx5 hp3
          obtain ⟨re0, re1, rf0, rf1⟩ := (hx0 hL).rs
          go_simp
          exact hK _ _ ⟨_, _, _, _, _, rfl, (hB.set _ _).set _ _, (fun _ => rfl), hh1, (fun _ => rfl), hh3, fun _ => (hx0 hL).done (hbs.out _ (hx1 hL).grown) hgw hRl hZl, hh5, (fun q0 => nomatch q0), (fun q0 => nomatch q0), fun _ => hp0, fun _ => hp2, fun _ => hp3, hx5⟩
        · -- operation 5
          cases ho
          have hd3 := hdep ⟨3, .data⟩ (by simp) rfl
          obtain ⟨z28, rfl, hz28⟩ := hh3 hd3
          go_simp
          exact hK _ _ ⟨_, _, _, _, _, rfl, hB, hh0, hh1, (fun _ => rfl), hh3, hh4, fun _ => ⟨_, rfl, hz28⟩, hx0, hx1, hx2, hx3, hx4, hx5⟩
      intro Fl9 ac W hJ hall
      obtain ⟨x25, x26, x27, x28, x3, rfl, hB, hh0, hh1, hh2, hh3, hh4, hh5, -, -, -, -, -, -⟩ := hJ
      obtain rfl := hh0 (hall 0 (by decide))
      obtain rfl := hh1 (hall 1 (by decide))
      obtain rfl := hh2 (hall 2 (by decide))
      obtain - := hh3 (hall 3 (by decide))
      obtain P7 := hh4 (hall 4 (by decide))
      obtain ⟨z3, rfl, hz3⟩ := hh5 (hall 5 (by decide))
      clear hall
      have P7 := Lib.hid P7
      clear hB P6 S6
      go_wp2_with fail
      refine bodyPost_ret (results_wy1 rfl _ _ b0 [.slice (some ⟨g1, 0, none⟩) nR c1, .slice A2 nZ c2] _ rfl P7.out.range Try.underlying27 rfl (by kernel_rfl)) rfl ?_
      exact ⟨g1, nR, c1, A2, nZ, c2, _, Z, z3, P7.out.wayD hn0 hn7 hk1 hk2, (by omega), rfl⟩
  · have hn1i : ¬ (1 : Int) < (nR : Int) := by omega
    cases y with
    | true =>
      go_wp2_with fail
      clear C0
      refine region_inv (by kernel_rfl) (by kernel_rfl) (fun Fl9 ac W => ∃ (x25 x26 x27 x28 x3 : Value), ac = { tmps := #[Value.slice A n c, undef, Value.pointer (some ⟨b0, 0, none⟩), x3, Value.pointer (some ⟨g, 0, none⟩), Value.pointer (some ⟨b3, 0, none⟩), Value.slice A n c, Value.agg #[Value.slice A n c, Value.int IntKind.i64 0, Value.int IntKind.u64 0], Value.pointer (some ⟨g, 0, none⟩), Value.pointer (some ⟨g, 0, none⟩), Value.agg #[Value.slice (some ⟨g1, 0, none⟩) nR c1, Value.slice A2 nZ c2], Value.pointer (some ⟨g, 0, none⟩), Value.bool true, Value.bool true, Value.pointer (some ⟨b3, 0, none⟩), Value.slice (some ⟨g1, 0, none⟩) nR c1, Value.int IntKind.i64 (nR : Int), Value.bool (decide (1 < (nR : Int))), Value.bool (decide (1 < (nR : Int))), undef, undef, undef, undef, undef, undef, x25, x26, x27, x28], defers := [] } ∧ UpW w2.heap.size w2 W ∧
            (Fl9 0 = true → x25 = .agg #[.slice (some ⟨g1, 0, none⟩) nR c1, .slice A2 nZ c2]) ∧
            (Fl9 1 = true → x26 = .pointer (some ⟨g, 0, none⟩)) ∧
            (Fl9 2 = true → x27 = .agg #[.slice (some ⟨g1, 0, none⟩) nR c1, .slice A2 nZ c2]) ∧
            (Fl9 3 = true → ∃ z9 : Int, x28 = .int .i64 z9 ∧ (-1 ≤ z9 ∧ z9 ≤ 2000000)) ∧
            (Fl9 4 = true → DnS w W b0 g1 nR c1 A2 nZ c2 R Z) ∧
            (Fl9 5 = true → ∃ z9 : Int, x3 = .int .i64 z9 ∧ (-1 ≤ z9 ∧ z9 ≤ 2000000)) ∧
            (Fl9 4 = false → DrS BB W b0 b3 (.slice (some ⟨g1, 0, none⟩) nR c1) (.slice A2 nZ c2) nR nZ R Z) ∧
            (Fl9 4 = false → CurStep W0 W g A n c 0 (D9 + 10 * (((Fl9 3).toNat : Int)))) ∧
            (Fl9 4 = true → Fl9 0 = true) ∧
            (Fl9 4 = true → Fl9 2 = true) ∧
            (Fl9 4 = true → Fl9 3 = true) ∧
            (Fl9 3 = true → Fl9 2 = true)) ?_ ?_ ?_
      · exact ⟨_, _, _, _, _, rfl, UpW.of ((Drawn.one w2 1).below _), (fun q0 => nomatch q0), (fun q0 => nomatch q0), (fun q0 => nomatch q0), (fun q0 => nomatch q0), (fun q0 => nomatch q0), (fun q0 => nomatch q0), (fun _ => P6.out.below ((Drawn.one w2 1).below _)), (fun _ => (S6.out.on ((Drawn.one w2 1).below _)).mono (by simp)), (fun q0 => nomatch q0), (fun q0 => nomatch q0), (fun q0 => nomatch q0), (fun q0 => nomatch q0)⟩
      · intro Fl9 ac W i9 o9 hJ ho hL hdep K9 hK
        obtain ⟨x25, x26, x27, x28, x3, rfl, hB, hh0, hh1, hh2, hh3, hh4, hh5, hx0, hx1, hx2, hx3, hx4, hx5⟩ := hJ
        have hi9 : i9 < 6 := by simpa using (Array.getElem?_eq_some_iff.1 ho).1
        obtain rfl | rfl | rfl | rfl | rfl | rfl : i9 = 0 ∨ i9 = 1 ∨ i9 = 2 ∨ i9 = 3 ∨ i9 = 4 ∨ i9 = 5 := by omega
        · -- operation 0
          cases ho
          have hT : Fl9 4 = false := Bool.eq_false_iff.2 (fun h => absurd (hx2 h) (by rw [hL]; simp))
          have C9 := (hx0 hT).cA
          have C8 := (hx0 hT).cB
          go_simp
          exact hK _ _ ⟨_, _, _, _, _, rfl, hB, fun _ => rfl, hh1, hh2, hh3, hh4, hh5, hx0, hx1, fun _ => rfl, hx3, hx4, hx5⟩
        · -- operation 1
          cases ho
          go_simp
          exact hK _ _ ⟨_, _, _, _, _, rfl, hB, hh0, fun _ => rfl, hh2, hh3, hh4, hh5, hx0, hx1, hx2, hx3, hx4, hx5⟩
        · -- operation 2
          cases ho
          have hT : Fl9 4 = false := Bool.eq_false_iff.2 (fun h => absurd (hx3 h) (by rw [hL]; simp))
          have C9 := (hx0 hT).cA
          have C8 := (hx0 hT).cB
          go_simp
          exact hK _ _ ⟨_, _, _, _, _, rfl, hB, hh0, hh1, fun _ => rfl, hh3, hh4, hh5, hx0, hx1, hx2, fun _ => rfl, hx4, fun _ => rfl⟩
        · -- operation 3
          cases ho
          have hT : Fl9 4 = false := Bool.eq_false_iff.2 (fun h => absurd (hx4 h) (by rw [hL]; simp))
          have hbn3 := bN (Fl9 3)
          obtain rfl := hh1 (hdep ⟨1, .data⟩ (by simp) rfl)
          obtain rfl := hh2 (hdep ⟨2, .data⟩ (by simp) rfl)
          obtain ⟨q9, q90, q91, H9⟩ := (hx1 hT).at H.out
          go_simp
          refine (placeOf_at H9 (by omega) (some ⟨g1, 0, none⟩) A2 nR c1 nZ c2 W.heap.size (by omega) R hRl HOK.out (Nat.le_refl _) (own_hasv (hx0 hT).r)).mono ?_
          rintro e w9 ⟨z9, hz9, rfl, hs9⟩
          exact hK _ _ ⟨_, _, _, _, _, rfl, hB.trans ((UpW.grown hs9.grown).mono hB.size), hh0, hh1, hh2, fun _ => ⟨_, rfl, hz9⟩, (fun q0 => absurd (hx4 q0) (by rw [hL]; simp)), hh5, fun q0 => (hx0 q0).kept hs9.grown hgB hg0 hg3, fun q0 => ((hx1 q0).then hs9 q90 q91).mono (by simp [hL] <;> omega), hx2, hx3, fun _ => rfl, fun _ => hdep ⟨2, .data⟩ (by simp) rfl⟩
        · -- operation 4
          cases ho
          have hp3 := hdep ⟨3, .chain⟩ (by simp) rfl
          have hp0 := hdep ⟨0, .data⟩ (by simp) rfl
          obtain rfl := hh0 hp0
          have hp2 := hx5 hp3
          obtain ⟨re0, re1, rf0, rf1⟩ := (hx0 hL).rs
          go_simp
          exact hK _ _ ⟨_, _, _, _, _, rfl, (hB.set _ _).set _ _, (fun _ => rfl), hh1, (fun _ => rfl), hh3, fun _ => (hx0 hL).done (hbs.out _ (hx1 hL).grown) hgw hRl hZl, hh5, (fun q0 => nomatch q0), (fun q0 => nomatch q0), fun _ => hp0, fun _ => hp2, fun _ => hp3, hx5⟩
        · -- operation 5
          cases ho
          have hd3 := hdep ⟨3, .data⟩ (by simp) rfl
          obtain ⟨z28, rfl, hz28⟩ := hh3 hd3
          go_simp
          exact hK _ _ ⟨_, _, _, _, _, rfl, hB, hh0, hh1, (fun _ => rfl), hh3, hh4, fun _ => ⟨_, rfl, hz28⟩, hx0, hx1, hx2, hx3, hx4, hx5⟩
      intro Fl9 ac W hJ hall
      obtain ⟨x25, x26, x27, x28, x3, rfl, hB, hh0, hh1, hh2, hh3, hh4, hh5, -, -, -, -, -, -⟩ := hJ
      obtain rfl := hh0 (hall 0 (by decide))
      obtain rfl := hh1 (hall 1 (by decide))
      obtain rfl := hh2 (hall 2 (by decide))
      obtain - := hh3 (hall 3 (by decide))
      obtain P7 := hh4 (hall 4 (by decide))
      obtain ⟨z3, rfl, hz3⟩ := hh5 (hall 5 (by decide))
      clear hall
      have P7 := Lib.hid P7
      clear hB P6 S6
      go_wp2_with fail
      refine bodyPost_ret (results_wy1 rfl _ _ b0 [.slice (some ⟨g1, 0, none⟩) nR c1, .slice A2 nZ c2] _ rfl P7.out.range Try.underlying27 rfl (by kernel_rfl)) rfl ?_
      exact ⟨g1, nR, c1, A2, nZ, c2, _, Z, z3, P7.out.wayD hn0 hn7 hk1 hk2, (by omega), rfl⟩
    | false =>
      go_wp2_with fail
      clear C0
      refine region_inv (by kernel_rfl) (by kernel_rfl) (fun Fl9 ac W => ∃ (x25 x26 x27 x28 x3 : Value), ac = { tmps := #[Value.slice A n c, undef, Value.pointer (some ⟨b0, 0, none⟩), x3, Value.pointer (some ⟨g, 0, none⟩), Value.pointer (some ⟨b3, 0, none⟩), Value.slice A n c, Value.agg #[Value.slice A n c, Value.int IntKind.i64 0, Value.int IntKind.u64 0], Value.pointer (some ⟨g, 0, none⟩), Value.pointer (some ⟨g, 0, none⟩), Value.agg #[Value.slice (some ⟨g1, 0, none⟩) nR c1, Value.slice A2 nZ c2], Value.pointer (some ⟨g, 0, none⟩), Value.bool false, Value.bool false, undef, undef, undef, undef, Value.bool false, undef, undef, undef, undef, undef, undef, x25, x26, x27, x28], defers := [] } ∧ UpW w2.heap.size w2 W ∧
            (Fl9 0 = true → x25 = .agg #[.slice (some ⟨g1, 0, none⟩) nR c1, .slice A2 nZ c2]) ∧
            (Fl9 1 = true → x26 = .pointer (some ⟨g, 0, none⟩)) ∧
            (Fl9 2 = true → x27 = .agg #[.slice (some ⟨g1, 0, none⟩) nR c1, .slice A2 nZ c2]) ∧
            (Fl9 3 = true → ∃ z9 : Int, x28 = .int .i64 z9 ∧ (-1 ≤ z9 ∧ z9 ≤ 2000000)) ∧
            (Fl9 4 = true → DnS w W b0 g1 nR c1 A2 nZ c2 R Z) ∧
            (Fl9 5 = true → ∃ z9 : Int, x3 = .int .i64 z9 ∧ (-1 ≤ z9 ∧ z9 ≤ 2000000)) ∧
            (Fl9 4 = false → DrS BB W b0 b3 (.slice (some ⟨g1, 0, none⟩) nR c1) (.slice A2 nZ c2) nR nZ R Z) ∧
            (Fl9 4 = false → CurStep W0 W g A n c 0 (D9 + 10 * (((Fl9 3).toNat : Int)))) ∧
            (Fl9 4 = true → Fl9 0 = true) ∧
            (Fl9 4 = true → Fl9 2 = true) ∧
            (Fl9 4 = true → Fl9 3 = true) ∧
            (Fl9 3 = true → Fl9 2 = true)) ?_ ?_ ?_
      · exact ⟨_, _, _, _, _, rfl, UpW.of ((Drawn.one w2 1).below _), (fun q0 => nomatch q0), (fun q0 => nomatch q0), (fun q0 => nomatch q0), (fun q0 => nomatch q0), (fun q0 => nomatch q0), (fun q0 => nomatch q0), (fun _ => P6.out.below ((Drawn.one w2 1).below _)), (fun _ => (S6.out.on ((Drawn.one w2 1).below _)).mono (by simp)), (fun q0 => nomatch q0), (fun q0 => nomatch q0), (fun q0 => nomatch q0), (fun q0 => nomatch q0)⟩
      · intro Fl9 ac W i9 o9 hJ ho hL hdep K9 hK
        obtain ⟨x25, x26, x27, x28, x3, rfl, hB, hh0, hh1, hh2, hh3, hh4, hh5, hx0, hx1, hx2, hx3, hx4, hx5⟩ := hJ
        have hi9 : i9 < 6 := by simpa using (Array.getElem?_eq_some_iff.1 ho).1
        obtain rfl | rfl | rfl | rfl | rfl | rfl : i9 = 0 ∨ i9 = 1 ∨ i9 = 2 ∨ i9 = 3 ∨ i9 = 4 ∨ i9 = 5 := by omega
        · -- operation 0
          cases ho
          have hT : Fl9 4 = false := Bool.eq_false_iff.2 (fun h => absurd (hx2 h) (by rw [hL]; simp))
          have C9 := (hx0 hT).cA
          have C8 := (hx0 hT).cB
          go_simp
          exact hK _ _ ⟨_, _, _, _, _, rfl, hB, fun _ => rfl, hh1, hh2, hh3, hh4, hh5, hx0, hx1, fun _ => rfl, hx3, hx4, hx5⟩
        · -- operation 1
          cases ho
          go_simp
          exact hK _ _ ⟨_, _, _, _, _, rfl, hB, hh0, fun _ => rfl, hh2, hh3, hh4, hh5, hx0, hx1, hx2, hx3, hx4, hx5⟩
        · -- operation 2
          cases ho
          have hT : Fl9 4 = false := Bool.eq_false_iff.2 (fun h => absurd (hx3 h) (by rw [hL]; simp))
          have C9 := (hx0 hT).cA
          have C8 := (hx0 hT).cB
          go_simp
          exact hK _ _ ⟨_, _, _, _, _, rfl, hB, hh0, hh1, fun _ => rfl, hh3, hh4, hh5, hx0, hx1, hx2, fun _ => rfl, hx4, fun _ => rfl⟩
        · -- operation 3
          cases ho
          have hT : Fl9 4 = false := Bool.eq_false_iff.2 (fun h => absurd (hx4 h) (by rw [hL]; simp))
          have hbn3 := bN (Fl9 3)
          obtain rfl := hh1 (hdep ⟨1, .data⟩ (by simp) rfl)
          obtain rfl := hh2 (hdep ⟨2, .data⟩ (by simp) rfl)
          obtain ⟨q9, q90, q91, H9⟩ := (hx1 hT).at H.out
          go_simp
          refine (placeOf_at H9 (by omega) (some ⟨g1, 0, none⟩) A2 nR c1 nZ c2 W.heap.size (by omega) R hRl HOK.out (Nat.le_refl _) (own_hasv (hx0 hT).r)).mono ?_
          rintro e w9 ⟨z9, hz9, rfl, hs9⟩
          exact hK _ _ ⟨_, _, _, _, _, rfl, hB.trans ((UpW.grown hs9.grown).mono hB.size), hh0, hh1, hh2, fun _ => ⟨_, rfl, hz9⟩, (fun q0 => absurd (hx4 q0) (by rw [hL]; simp)), hh5, fun q0 => (hx0 q0).kept hs9.grown hgB hg0 hg3, fun q0 => ((hx1 q0).then hs9 q90 q91).mono (by simp [hL] <;> omega), hx2, hx3, fun _ => rfl, fun _ => hdep ⟨2, .data⟩ (by simp) rfl⟩
        · -- operation 4
          cases ho
          have hp3 := hdep ⟨3, .chain⟩ (by simp) rfl
          have hp0 := hdep ⟨0, .data⟩ (by simp) rfl
          obtain rfl := hh0 hp0
          have hp2 := hx5 hp3
          obtain ⟨re0, re1, rf0, rf1⟩ := (hx0 hL).rs
          go_simp
          exact hK _ _ ⟨_, _, _, _, _, rfl, (hB.set _ _).set _ _, (fun _ => rfl), hh1, (fun _ => rfl), hh3, fun _ => (hx0 hL).done (hbs.out _ (hx1 hL).grown) hgw hRl hZl, hh5, (fun q0 => nomatch q0), (fun q0 => nomatch q0), fun _ => hp0, fun _ => hp2, fun _ => hp3, hx5⟩
        · -- operation 5
          cases ho
          have hd3 := hdep ⟨3, .data⟩ (by simp) rfl
          obtain ⟨z28, rfl, hz28⟩ := hh3 hd3
          go_simp
          exact hK _ _ ⟨_, _, _, _, _, rfl, hB, hh0, hh1, (fun _ => rfl), hh3, hh4, fun _ => ⟨_, rfl, hz28⟩, hx0, hx1, hx2, hx3, hx4, hx5⟩
      intro Fl9 ac W hJ hall
      obtain ⟨x25, x26, x27, x28, x3, rfl, hB, hh0, hh1, hh2, hh3, hh4, hh5, -, -, -, -, -, -⟩ := hJ
      obtain rfl := hh0 (hall 0 (by decide))
      obtain rfl := hh1 (hall 1 (by decide))
      obtain rfl := hh2 (hall 2 (by decide))
      obtain - := hh3 (hall 3 (by decide))
      obtain P7 := hh4 (hall 4 (by decide))
      obtain ⟨z3, rfl, hz3⟩ := hh5 (hall 5 (by decide))
      clear hall
      have P7 := Lib.hid P7
      clear hB P6 S6
      go_wp2_with fail
      refine bodyPost_ret (results_wy1 rfl _ _ b0 [.slice (some ⟨g1, 0, none⟩) nR c1, .slice A2 nZ c2] _ rfl P7.out.range Try.underlying27 rfl (by kernel_rfl)) rfl ?_
      exact ⟨g1, nR, c1, A2, nZ, c2, _, Z, z3, P7.out.wayD hn0 hn7 hk1 hk2, (by omega), rfl⟩
end Go.Proofs.Ytgnopkemcgbedab
