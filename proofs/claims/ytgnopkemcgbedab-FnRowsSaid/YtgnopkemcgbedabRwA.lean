/- Chapter 7: a list and cells that FnRows draws. -/
import Derived.Test.YtgnopkemcgbedabDgJ
import Derived.Test.YtgnopkemcgbedabDraw
namespace Go.Proofs.Ytgnopkemcgbedab
open Go.RowKit Go.PlainAid Go.Sort
set_option linter.unusedVariables false
set_option linter.unusedSimpArgs false

theorem own_capR {w : World} {base : Nat} {e : TypeId} {g n c : Nat} {xs : List Value} {z : Nat} (h : w.ownsRow base e z (.slice (some ⟨g, 0, none⟩) n c) n xs) : n ≤ c := by
  rcases h.2 with ⟨h1, h2⟩ | ⟨g, cap, cur, h1, -, -, h2, -⟩
  · cases h1
  · injection h1 with _ _ h3; omega
theorem OwnC.onR {w W W' : World} {g1 q c1 : Nat} (h : OwnC w W g1 q c1) (hb : Below W.heap.size W W') : OwnC w W' g1 q c1 := by
  obtain ⟨L, h1, h2⟩ := h
  exact ⟨L, h1, own_below h2 hb⟩
/-- Nothing below B turns but blocks bb and sb. -/
structure KeepW (bb sb B : Nat) (w W : World) : Prop where
  os : W.os = w.os
  tape : W.tape = w.tape
  output : W.output = w.output
  size : w.heap.size ≤ W.heap.size
  block : ∀ k, k < B → k ≠ bb → k ≠ sb → W.heap[k]? = w.heap[k]?
section
variable {bb sb B : Nat} {w W W' : World}
theorem KeepW.of (h : Below B w W) : KeepW bb sb B w W := ⟨h.os, h.tape, h.output, h.size, fun k hk _ _ => h.block k hk⟩
theorem KeepW.trans (h : KeepW bb sb B w W) (k : KeepW bb sb B W W') : KeepW bb sb B w W' := ⟨k.os.trans h.os, k.tape.trans h.tape, k.output.trans h.output, Nat.le_trans h.size k.size, fun j hj hn hm => (k.block j hj hn hm).trans (h.block j hj hn hm)⟩
theorem KeepW.mono {B' : Nat} (h : KeepW bb sb B w W) (hb : B' ≤ B) : KeepW bb sb B' w W := ⟨h.os, h.tape, h.output, h.size, fun k hk hn hm => h.block k (Nat.lt_of_lt_of_le hk hb) hn hm⟩
theorem KeepW.grown (h : w.grownBy W (some bb)) : KeepW bb sb w.heap.size w W := ⟨h.os, h.tape, h.output, h.size, fun k hk hn _ => h.block k hk (fun e => hn (by cases e; rfl))⟩
theorem KeepW.grown2 (h : w.grownBy W (some sb)) : KeepW bb sb w.heap.size w W := ⟨h.os, h.tape, h.output, h.size, fun k hk _ hn => h.block k hk (fun e => hn (by cases e; rfl))⟩
end
/-- Drawn vessels and drawn cells. -/
def DrwQ (w : World) (e : Ending) (w' : World) : Prop :=
  ∃ (g1 q c1 : Nat) (vs : List TCargo) (g2 m c2 : Nat) (cs : List Int), e = .returned (.tuple #[.slice (some ⟨g1, 0, none⟩) q c1, .slice (some ⟨g2, 0, none⟩) m c2]) ∧ q ≤ 8 ∧ q ≤ c1 ∧ cs.length = m ∧ m ≤ 10 ∧
    IsCargos w' w'.heap.size (some ⟨g1, 0, none⟩) q vs ∧ Has w' w'.heap.size (some ⟨g2, 0, none⟩) (cs.map (.int .i64)) ∧ Below w.heap.size w w'
theorem drwQ_of {w w0 W : World} {g1 q c1 g2 m c2 : Nat} (hk : OwnK w0 W g1 q c1) (hc : OwnC w0 W g2 m c2) (hq : q ≤ 8) (hm : m ≤ 10) (hb : Below w.heap.size w W) :
    DrwQ w (.returned (.tuple #[.slice (some ⟨g1, 0, none⟩) q c1, .slice (some ⟨g2, 0, none⟩) m c2])) W := by
  obtain ⟨vs, h1, h2⟩ := hk
  obtain ⟨L, h3, h4⟩ := hc
  exact ⟨g1, q, c1, vs, g2, m, c2, L, rfl, hq, own_capR h2, by have := h4.1; rw [List.length_map] at this; omega, hm, own_Cargos h2, ownS_has h4, hb⟩
theorem ck_ne {w w' W : World} {g1 q c1 g2 m c2 : Nat} (hk : OwnK w W g1 q c1) (hc : OwnC w' W g2 m c2) : g2 ≠ g1 := by
  obtain ⟨L, -, h⟩ := hk
  obtain ⟨M, -, k⟩ := hc
  rintro rfl
  rcases own_ne h k (by decide) with h1 | h1
  · exact absurd h1 (by simp [Value.ownBlock])
  · exact h1 rfl
set_option maxRecDepth 100000 in
set_option maxHeartbeats 8000000 in
theorem drawSafe_any {w : World} {A : Option Addr} {n : Nat} {zs : List Int} {B : Nat} (c : Nat) (h : Code_ w A n zs B) :
    Calls Try.prog 35 #[.slice A n c] w (DrwQ w) := by
  obtain ⟨i0, hi, hz0, hz1, hz2⟩ := info_parts Try.infoInt'
  have H := Lib.hid (h.start c)
  have hbs := Lib.hid (fun w' (h : (w.alloc (.cells #[.slice A n c, .int .i64 0, .int .u64 0] 75)).grownBy w' (some w.heap.size)) => below_start h)
  have C := Lib.hid (cargos_at (h.start c) (by omega) 5 (by omega))
  have hw0 : (w.alloc (.cells #[.slice A n c, .int .i64 0, .int .u64 0] 75)).heap.size = w.heap.size + 1 := by simp
  clear h
  go_enter Try.func35, Try.ntmps35
  go_wp2_with fail
  refine C.out.mono ?_
  rintro e w1 ⟨gK, q, cK, rfl, hq, ho, hs⟩
  have hgK := ho.g
  rw [hw0] at hgK
  have K1 := Lib.hid ho
  have S1 := Lib.hid hs
  obtain ⟨vs, -, hov⟩ := ho
  obtain ⟨L, x, hA⟩ := placeA_ex vs
  have C1 := Lib.hid (placeS_any cK (own_Cargos hov) (by omega) (own_capR hov) L x hA L.length rfl)
  have hL6 := Lib.hid (PlaceA.len hA)
  have hgK1 : gK < w1.heap.size := (hov.lt gK rfl).2
  have hw1 : w.heap.size + 1 ≤ w1.heap.size := by have := hs.grown.size; rw [hw0] at this; exact this
  clear hs hov C hA
  go_wp2_with fail
  refine C1.out.mono ?_
  rintro e w2 ⟨gC, cC, rfl, hoC, hb⟩
  have hgC : w1.heap.size ≤ gC := (hoC.lt gC rfl).1
  have K2 := Lib.hid (OwnK.below K1.out hb)
  have S2 := Lib.hid (S1.out.on hb)
  have O2 : Hid (OwnC (w.alloc (.cells #[.slice A n c, .int .i64 0, .int .u64 0] 75)) w2 gC L.length cC) := Lib.hid ⟨L, by rw [hw0]; omega, own_low hoC (by rw [hw0]; exact hw1)⟩
  clear hoC hb K1 S1 C1
  have hm6 := hL6.out
  generalize L.length = m at O2 hm6 ⊢
  clear hL6
  cases x with
  | true =>
    obtain ⟨r5, r50, r51, H5⟩ := S2.out.at H.out
    go_wp2_with fail
    refine (one_at H5 (by omega) 2 (by omega)).mono ?_
    rintro e w3 ⟨b3, rfl, hs⟩
    have S3b := Lib.hid (S2.out.then hs r50 r51)
    have K3b := Lib.hid (OwnK.kept K2.out hs.grown (by omega))
    have O3b := Lib.hid (OwnC.kept O2.out hs.grown (by omega))
    clear hs S2 K2 O2 H5 r50 r51
    cases b3 with
    | true =>
      rcases Nat.eq_zero_or_pos m with h0 | h0
      · subst h0
        go_wp2_with fail
        refine bodyPost_ret (results_tmp2 rfl _ _ _) rfl ?_
        exact drwQ_of K3b.out O3b.out (by omega) (by omega) (hbs.out _ S3b.out.grown)
      · have hm0 : (0 : Int) < (m : Int) := by omega
        obtain ⟨r5, r50, r51, H5⟩ := S3b.out.at H.out
        go_wp2_with fail
        refine (one_at H5 (by omega) 2 (by omega)).mono ?_
        rintro e w4 ⟨b4, rfl, hs⟩
        have S4 := Lib.hid (S3b.out.then hs r50 r51)
        have K4 := Lib.hid (OwnK.kept K3b.out hs.grown (by omega))
        have O4 := Lib.hid (OwnC.kept O3b.out hs.grown (by omega))
        clear hs S3b K3b O3b H5 r50 r51
        cases b4 with
        | true =>
          obtain ⟨r5, r50, r51, H5⟩ := S4.out.at H.out
          go_wp2_with fail
          refine (pick_at H5 (by omega) (m : Int) (by omega)).mono ?_
          rintro e w5 ⟨b, b0, b1, rfl, hs⟩
          obtain ⟨j, rfl⟩ : ∃ k : Nat, b = (k : Int) := ⟨b.toNat, by omega⟩
          have hj0 : (0 : Int) ≤ (j : Int) := by omega
          have hj1 : (j : Int) < (m : Int) := by omega
          have S5 := Lib.hid ((S4.out.then hs r50 r51).mono (d' := 206) (by omega))
          have K5 := Lib.hid (OwnK.kept K4.out hs.grown (by omega))
          have O5 := Lib.hid (OwnC.kept O4.out hs.grown (by omega))
          clear hs S4 K4 O4 H5 r50 r51 b0 b1
          obtain ⟨M, hgM, hoM⟩ := O5.out
          have hMl : M.length = m := by have := hoM.1; rw [List.length_map] at this; omega
          have HCELL := Lib.hid (fun (W : World) (ho : W.ownsRow (w.alloc (.cells #[.slice A n c, .int .i64 0, .int .u64 0] 75)).heap.size 3 1 (.slice (some ⟨gC, 0, none⟩) m cC) m (M.map (.int .i64))) => (show W.cell? ⟨gC, j, none⟩ = some (.int .i64 (M.getD j 0)) from (ho.cellAt j (by omega)).trans (by rw [List.getElem?_map, List.getElem?_eq_getElem (by omega), List.getD_eq_getElem?_getD, List.getElem?_eq_getElem (by omega)]; rfl)))
          have HOM := Lib.hid hoM
          have HGM := Lib.hid hgM
          have hneC : gC ≠ w.heap.size := by omega
          have hneK : gK ≠ w.heap.size := by omega
          have hneKC : gK ≠ gC := by omega
          generalize M.getD j 0 = y at HCELL
          clear hoM hgM hMl O5
          go_wp2_with fail
          refine region_inv (by kernel_rfl) (by kernel_rfl) (fun Fl9 ac W => ∃ (x37 x38 x39 x40 x41 x42 x43 x44 x45 x46 x47 x48 : Value), ac = { tmps := #[Value.slice A n c, undef, Value.slice none 0 0, Value.slice none 0 0, Value.pointer (some ⟨w.heap.size, 0, none⟩), Value.slice (some ⟨gK, 0, none⟩) q cK, Value.slice (some ⟨gC, 0, none⟩) m cC, Value.bool true, Value.int IntKind.i64 (j : Int), undef, undef, Value.slice A n c, Value.agg #[Value.slice A n c, Value.int IntKind.i64 0, Value.int IntKind.u64 0], Value.pointer (some ⟨w.heap.size, 0, none⟩), Value.pointer (some ⟨w.heap.size, 0, none⟩), Value.slice (some ⟨gK, 0, none⟩) q cK, Value.tuple #[Value.slice (some ⟨gC, 0, none⟩) m cC, Value.bool true], Value.slice (some ⟨gK, 0, none⟩) q cK, Value.tuple #[Value.slice (some ⟨gC, 0, none⟩) m cC, Value.bool true], Value.slice (some ⟨gC, 0, none⟩) m cC, Value.bool true, Value.bool true, Value.bool true, Value.pointer (some ⟨w.heap.size, 0, none⟩), Value.bool true, Value.bool true, Value.slice (some ⟨gC, 0, none⟩) m cC, Value.int IntKind.i64 (m : Int), Value.bool true, Value.bool true, Value.pointer (some ⟨w.heap.size, 0, none⟩), Value.bool true, Value.bool true, Value.pointer (some ⟨w.heap.size, 0, none⟩), Value.slice (some ⟨gC, 0, none⟩) m cC, Value.int IntKind.i64 (m : Int), Value.int IntKind.i64 (j : Int), x37, x38, x39, x40, x41, x42, x43, x44, x45, x46, x47, x48, undef, undef, undef, undef, undef, undef, undef, undef, undef, undef, undef, undef, undef, undef, undef, undef, undef, undef, undef, undef, undef, undef, undef, undef, undef, undef, undef], defers := [] } ∧ KeepW w.heap.size gC w5.heap.size w5 W ∧
                (Fl9 0 = true → x37 = .slice (some ⟨gC, 0, none⟩) m cC) ∧
                (Fl9 1 = true → x38 = .int .i64 (j : Int)) ∧
                (Fl9 2 = true → x39 = .slice (some ⟨gC, 0, none⟩) m cC) ∧
                (Fl9 3 = true → x40 = .int .i64 (j : Int)) ∧
                (Fl9 4 = true → x41 = .pointer (some ⟨gC, j, none⟩)) ∧
                (Fl9 5 = true → x42 = .int .i64 y) ∧
                (Fl9 6 = true → x43 = .pointer (some ⟨w.heap.size, 0, none⟩)) ∧
                (Fl9 7 = true → Fl9 8 = false → ∃ g9, x44 = .slice (some ⟨g9, 0, none⟩) 3 3 ∧ g9 ≠ w.heap.size ∧ ∀ k (hk : k < ([-1, 1, 3] : List Int).length), W.cell? ⟨g9, k, none⟩ = some (.int .i64 ([-1, 1, 3] : List Int)[k])) ∧
                (Fl9 8 = true → (∃ b9, x45 = .int .i64 b9) ∧ (Fl9 12 = false → CurStep (w.alloc (.cells #[.slice A n c, .int .i64 0, .int .u64 0] 75)) W w.heap.size A n c 0 208)) ∧
                (Fl9 9 = true → ∃ z9, x46 = .int .i64 z9) ∧
                (Fl9 10 = true → ∃ z9, x47 = .int .i64 z9) ∧
                (Fl9 11 = true → x48 = .pointer (some ⟨gC, j, none⟩)) ∧
                (Fl9 12 = true → CurStep (w.alloc (.cells #[.slice A n c, .int .i64 0, .int .u64 0] 75)) W w.heap.size A n c 0 208 ∧ OwnK (w.alloc (.cells #[.slice A n c, .int .i64 0, .int .u64 0] 75)) W gK q cK ∧ OwnC (w.alloc (.cells #[.slice A n c, .int .i64 0, .int .u64 0] 75)) W gC m cC) ∧
                (Fl9 12 = false → W.ownsRow (w.alloc (.cells #[.slice A n c, .int .i64 0, .int .u64 0] 75)).heap.size 3 1 (.slice (some ⟨gC, 0, none⟩) m cC) m (M.map (.int .i64))) ∧
                (Fl9 8 = false → CurStep (w.alloc (.cells #[.slice A n c, .int .i64 0, .int .u64 0] 75)) W w.heap.size A n c 0 206) ∧
                (OwnK (w.alloc (.cells #[.slice A n c, .int .i64 0, .int .u64 0] 75)) W gK q cK) ∧
                (Fl9 12 = true → Fl9 5 = true) ∧
                (Fl9 12 = true → Fl9 7 = true) ∧
                (Fl9 12 = true → Fl9 8 = true)) ?_ ?_ ?_
          · exact ⟨_, _, _, _, _, _, _, _, _, _, _, _, rfl, (KeepW.of ((Drawn.one w5 1).below _)), (fun q0 => nomatch q0), (fun q0 => nomatch q0), (fun q0 => nomatch q0), (fun q0 => nomatch q0), (fun q0 => nomatch q0), (fun q0 => nomatch q0), (fun q0 => nomatch q0), (fun q0 => nomatch q0), (fun q0 => nomatch q0), (fun q0 => nomatch q0), (fun q0 => nomatch q0), (fun q0 => nomatch q0), (fun q0 => nomatch q0), (fun _ => own_below HOM.out ((Drawn.one w5 1).below _)), (fun _ => S5.out.on ((Drawn.one w5 1).below _)), (OwnK.below K5.out ((Drawn.one w5 1).below _)), (fun q0 => nomatch q0), (fun q0 => nomatch q0), (fun q0 => nomatch q0)⟩
          · intro Fl9 ac W i9 o9 hJ ho hL hdep K9 hK
            obtain ⟨x37, x38, x39, x40, x41, x42, x43, x44, x45, x46, x47, x48, rfl, hB, hh0, hh1, hh2, hh3, hh4, hh5, hh6, hh7, hh8, hh9, hh10, hh11, hh12, hx0, hx1, hx2, hx3, hx4, hx5⟩ := hJ
            have hi9 : i9 < 13 := by simpa using (Array.getElem?_eq_some_iff.1 ho).1
            obtain rfl | rfl | rfl | rfl | rfl | rfl | rfl | rfl | rfl | rfl | rfl | rfl | rfl : i9 = 0 ∨ i9 = 1 ∨ i9 = 2 ∨ i9 = 3 ∨ i9 = 4 ∨ i9 = 5 ∨ i9 = 6 ∨ i9 = 7 ∨ i9 = 8 ∨ i9 = 9 ∨ i9 = 10 ∨ i9 = 11 ∨ i9 = 12 := by omega
            · -- operation 0
              cases ho
              go_simp
              exact hK _ _ ⟨_, _, _, _, _, _, _, _, _, _, _, _, rfl, hB, fun _ => rfl, hh1, hh2, hh3, hh4, hh5, hh6, hh7, hh8, hh9, hh10, hh11, hh12, hx0, hx1, hx2, hx3, hx4, hx5⟩
            · -- operation 1
              cases ho
              go_simp
              exact hK _ _ ⟨_, _, _, _, _, _, _, _, _, _, _, _, rfl, hB, hh0, fun _ => rfl, hh2, hh3, hh4, hh5, hh6, hh7, hh8, hh9, hh10, hh11, hh12, hx0, hx1, hx2, hx3, hx4, hx5⟩
            · -- operation 2
              cases ho
              go_simp
              exact hK _ _ ⟨_, _, _, _, _, _, _, _, _, _, _, _, rfl, hB, hh0, hh1, fun _ => rfl, hh3, hh4, hh5, hh6, hh7, hh8, hh9, hh10, hh11, hh12, hx0, hx1, hx2, hx3, hx4, hx5⟩
            · -- operation 3
              cases ho
              go_simp
              exact hK _ _ ⟨_, _, _, _, _, _, _, _, _, _, _, _, rfl, hB, hh0, hh1, hh2, fun _ => rfl, hh4, hh5, hh6, hh7, hh8, hh9, hh10, hh11, hh12, hx0, hx1, hx2, hx3, hx4, hx5⟩
            · -- operation 4
              cases ho
              obtain rfl := hh2 (hdep ⟨2, .data⟩ (by simp) rfl)
              obtain rfl := hh3 (hdep ⟨3, .data⟩ (by simp) rfl)
              go_simp
              exact hK _ _ ⟨_, _, _, _, _, _, _, _, _, _, _, _, rfl, hB, hh0, hh1, hh2, hh3, fun _ => rfl, hh5, hh6, hh7, hh8, hh9, hh10, hh11, hh12, hx0, hx1, hx2, hx3, hx4, hx5⟩
            · -- operation 5
              cases ho
              have h12 : Fl9 12 = false := Bool.eq_false_iff.2 (fun h => absurd (hx3 h) (by rw [hL]; simp))
              obtain rfl := hh4 (hdep ⟨4, .data⟩ (by simp) rfl)
              have hc9 := HCELL.out W (hx0 h12)
              go_simp
              exact hK _ _ ⟨_, _, _, _, _, _, _, _, _, _, _, _, rfl, hB, hh0, hh1, hh2, hh3, hh4, fun _ => rfl, hh6, hh7, hh8, hh9, hh10, hh11, hh12, hx0, hx1, hx2, fun _ => rfl, hx4, hx5⟩
            · -- operation 6
              cases ho
              go_simp
              exact hK _ _ ⟨_, _, _, _, _, _, _, _, _, _, _, _, rfl, hB, hh0, hh1, hh2, hh3, hh4, hh5, fun _ => rfl, hh7, hh8, hh9, hh10, hh11, hh12, hx0, hx1, hx2, hx3, hx4, hx5⟩
            · -- operation 7
              cases ho
              go_simp
              exact hK _ _ ⟨_, _, _, _, _, _, _, _, _, _, _, _, rfl, hB.trans ((KeepW.of (bb := w.heap.size) (sb := gC) (Below.alloc (Below.refl W.heap.size W) (Nat.le_refl _) _)).mono hB.size), hh0, hh1, hh2, hh3, hh4, hh5, hh6, fun _ _ => ⟨_, rfl, (by have := hB.size; have := S5.out.grown.size; rw [hw0] at this; omega), fun k hk => (by rw [sNew, List.getElem?_toArray, show ([Value.int .i64 (-1), .int .i64 1, .int .i64 3] : List Value) = ([-1, 1, 3] : List Int).map (.int .i64) from rfl, List.getElem?_map, List.getElem?_eq_getElem hk]; rfl)⟩, fun q0 => (fun ⟨h1, h⟩ => ⟨h1, fun q => (h q).on (Below.alloc (Below.refl W.heap.size W) (Nat.le_refl _) _)⟩) (hh8 q0), hh9, hh10, hh11, (fun q0 => absurd (hx4 q0) (by rw [hL]; simp)), fun q0 => (fun h => own_below h (Below.alloc (Below.refl W.heap.size W) (Nat.le_refl _) _)) (hx0 q0), fun q0 => (fun h => h.on (Below.alloc (Below.refl W.heap.size W) (Nat.le_refl _) _)) (hx1 q0), (OwnK.below hx2 (Below.alloc (Below.refl W.heap.size W) (Nat.le_refl _) _)), hx3, fun _ => rfl, hx5⟩
            · -- operation 8
              cases ho
              have h12 : Fl9 12 = false := Bool.eq_false_iff.2 (fun h => absurd (hx5 h) (by rw [hL]; simp))
              have hd7 := hdep ⟨7, .data⟩ (by simp) rfl
              obtain ⟨g9, rfl, hg9, hc9⟩ := hh7 hd7 hL
              obtain rfl := hh6 (hdep ⟨6, .data⟩ (by simp) rfl)
              obtain ⟨q9, q90, q91, H9⟩ := (hx1 hL).at H.out
              go_simp
              refine (amongN_at H9 (by omega) g9 3 3 [-1, 1, 3] rfl (by omega) (by omega) hc9 hg9).mono ?_
              rintro e w9 ⟨b9, -, rfl, hs9⟩
              exact hK _ _ ⟨_, _, _, _, _, _, _, _, _, _, _, _, rfl, hB.trans ((KeepW.grown hs9.grown).mono hB.size), hh0, hh1, hh2, hh3, hh4, hh5, hh6, (fun _ q0 => nomatch q0), fun _ => ⟨⟨b9, rfl⟩, fun _ => (hx1 hL).then hs9 q90 q91⟩, hh9, hh10, hh11, (fun q0 => absurd (hx5 q0) (by rw [hL]; simp)), fun _ => (hx0 h12).kept hs9.grown (.inr (by simp [Value.ownBlock]; exact hneC)), (fun q0 => nomatch q0), (OwnK.kept hx2 hs9.grown hneK), hx3, hx4, fun _ => rfl⟩
            · -- operation 9
              cases ho
              obtain rfl := hh5 (hdep ⟨5, .data⟩ (by simp) rfl)
              obtain ⟨⟨b9, rfl⟩, -⟩ := hh8 (hdep ⟨8, .data⟩ (by simp) rfl)
              go_simp
              exact hK _ _ ⟨_, _, _, _, _, _, _, _, _, _, _, _, rfl, hB, hh0, hh1, hh2, hh3, hh4, hh5, hh6, hh7, hh8, fun _ => ⟨_, rfl⟩, hh10, hh11, hh12, hx0, hx1, hx2, hx3, hx4, hx5⟩
            · -- operation 10
              cases ho
              obtain ⟨z9, rfl⟩ := hh9 (hdep ⟨9, .data⟩ (by simp) rfl)
              go_simp
              refine (l1Most_any 0 _ W).mono ?_
              rintro e w9 ⟨rfl, rfl⟩
              exact hK _ _ ⟨_, _, _, _, _, _, _, _, _, _, _, _, rfl, hB, hh0, hh1, hh2, hh3, hh4, hh5, hh6, hh7, hh8, hh9, fun _ => ⟨_, rfl⟩, hh11, hh12, hx0, hx1, hx2, hx3, hx4, hx5⟩
            · -- operation 11
              cases ho
              obtain rfl := hh0 (hdep ⟨0, .data⟩ (by simp) rfl)
              obtain rfl := hh1 (hdep ⟨1, .data⟩ (by simp) rfl)
              go_simp
              exact hK _ _ ⟨_, _, _, _, _, _, _, _, _, _, _, _, rfl, hB, hh0, hh1, hh2, hh3, hh4, hh5, hh6, hh7, hh8, hh9, hh10, fun _ => rfl, hh12, hx0, hx1, hx2, hx3, hx4, hx5⟩
            · -- operation 12
              cases ho
              obtain rfl := hh11 (hdep ⟨11, .data⟩ (by simp) rfl)
              obtain ⟨z9, rfl⟩ := hh10 (hdep ⟨10, .data⟩ (by simp) rfl)
              have hp5 := hdep ⟨5, .phase⟩ (by simp) rfl
              have hp7 := hdep ⟨7, .phase⟩ (by simp) rfl
              have hp8 := hdep ⟨8, .phase⟩ (by simp) rfl
              have ho9 := hx0 hL
              have hc9 := HCELL.out W ho9
              have hf9 := ho9.frozenAt j
              have s0 := ho9.stored j (.int .i64 z9)
              go_simp
              exact hK _ _ ⟨_, _, _, _, _, _, _, _, _, _, _, _, rfl, hB.trans ((KeepW.grown2 s0.2).mono hB.size), hh0, hh1, hh2, hh3, hh4, (fun _ => rfl), hh6, (fun _ q0 => absurd (hp8.symm.trans q0) (by simp)), (fun q0 => ⟨(hh8 q0).1, fun q => nomatch q⟩), hh9, hh10, hh11, fun _ => ⟨((hh8 hp8).2 hL).own s0.2 HGM.out hneC, OwnK.kept hx2 s0.2 hneKC, ⟨M.set j z9, HGM.out, by rw [List.map_set]; exact s0.1⟩⟩, (fun q0 => nomatch q0), (fun q0 => absurd (hp8.symm.trans q0) (by simp)), (OwnK.kept hx2 s0.2 hneKC), fun _ => hp5, fun _ => hp7, fun _ => hp8⟩
          intro Fl9 ac W hJ hall
          obtain ⟨x37, x38, x39, x40, x41, x42, x43, x44, x45, x46, x47, x48, rfl, hB, hh0, hh1, hh2, hh3, hh4, hh5, hh6, hh7, hh8, hh9, hh10, hh11, hh12, -, -, -, -, -, -⟩ := hJ
          obtain rfl := hh0 (hall 0 (by decide))
          obtain rfl := hh1 (hall 1 (by decide))
          obtain rfl := hh2 (hall 2 (by decide))
          obtain rfl := hh3 (hall 3 (by decide))
          obtain rfl := hh4 (hall 4 (by decide))
          obtain rfl := hh6 (hall 6 (by decide))
          obtain rfl := hh11 (hall 11 (by decide))
          obtain - := hh5 (hall 5 (by decide))
          obtain - := hh7 (hall 7 (by decide))
          obtain - := hh8 (hall 8 (by decide))
          obtain - := hh9 (hall 9 (by decide))
          obtain - := hh10 (hall 10 (by decide))
          obtain ⟨S9x, K9x, O9x⟩ := hh12 (hall 12 (by decide))
          clear hall
          have S9 := Lib.hid S9x
          have K9 := Lib.hid K9x
          have O9 := Lib.hid O9x
          clear S9x K9x O9x S5 K5
          go_wp2_with fail
          refine bodyPost_ret (results_tmp2 rfl _ _ _) rfl ?_
          exact drwQ_of K9.out O9.out (by omega) (by omega) (hbs.out _ S9.out.grown)
        | false =>
          go_wp2_with fail
          refine bodyPost_ret (results_tmp2 rfl _ _ _) rfl ?_
          exact drwQ_of K4.out O4.out (by omega) (by omega) (hbs.out _ S4.out.grown)
    | false =>
      have S3' := Lib.hid (S3b.out.mono (d' := 210 + 4 * ((0 : Nat) : Int)) (by omega))
      have S3 := Lib.hid (S3'.out.alloc (.cells #[] 3))
      have K3 := Lib.hid (OwnK.below K3b.out (below1x w3 (.cells #[] 3)))
      have hsz3 := S3b.out.grown.size
      have O3 : Hid (OwnC (w.alloc (.cells #[.slice A n c, .int .i64 0, .int .u64 0] 75)) (w3.alloc (.cells #[] 3)) w3.heap.size 0 0) := Lib.hid ⟨[], hsz3, own_low (World.ownsRow_made w3 #[] 0 (Nat.le_refl _) (by unfold maxLen; omega) rfl) hsz3⟩
      have hbK : w3.heap.size ≠ gK := by
        obtain ⟨Lk, -, hok⟩ := K3b.out
        have := (hok.lt gK rfl).2
        omega
      clear S3' S3b K3b O3b
      go_wp2_with fail
      obtain ⟨W3, hW3⟩ : ∃ x, w3.alloc (.cells #[] 3) = x := ⟨_, rfl⟩
      rw [hW3] at S3 K3 O3 ⊢
      obtain ⟨xb, hxb⟩ : ∃ x, w3.heap.size = x := ⟨_, rfl⟩
      rw [hxb] at O3 hbK
      try simp only [hxb]
      clear hW3 hxb hsz3
      go_loopw [9, 10] (fun v i wr => ∃ (k m g1 c1 : Nat), v = .slice (some ⟨g1, 0, none⟩) m c1 ∧ i = .int .i64 k ∧ k ≤ q ∧ m = k ∧ Hid (OwnC (w.alloc (.cells #[.slice A n c, .int .i64 0, .int .u64 0] 75)) wr g1 m c1) ∧ Hid (OwnK (w.alloc (.cells #[.slice A n c, .int .i64 0, .int .u64 0] 75)) wr gK q cK) ∧ g1 ≠ gK ∧ Hid (CurStep (w.alloc (.cells #[.slice A n c, .int .i64 0, .int .u64 0] 75)) wr w.heap.size A n c 0 (210 + 4 * (k : Int)))) (fun _ i _ => q - (intOf i).toNat)
      case atStart => exact ⟨0, 0, xb, 0, rfl, rfl, Nat.zero_le _, rfl, O3, K3, hbK, S3⟩
      case round =>
        clear O3 K3 S3 hbK
        obtain ⟨k, m, g1, c1, rfl, rfl, hk, hmk, O4, K4, hne4, S4⟩ := hrel
        subst hmk
        have hgg : w.heap.size + 1 ≤ g1 := by have := O4.out.g; rw [hw0] at this; exact this
        by_cases hlt : m < q
        · have hk1 : (m : Int) < (q : Int) := by omega
          obtain ⟨r5, r50, r51, H5⟩ := S4.out.at H.out
          have HH5 := Lib.hid H5
          go_wp2_with fail
          refine (pick_at (H5.kept (World.grownBy_alloc wr _ none) (by simp) (fun r e => by cases e)) (by omega) 60 (by omega)).mono ?_
          rintro e w5 ⟨b1, b10, b11, rfl, hs1'⟩
          have hs1 : CurStep (wr.alloc (.cells (([0, 3, 8, 12, 20, 30, 200, -1, 201] : List Int).map (Value.int .i64)).toArray 3)) w5 w.heap.size A n c r5 2 := hs1'
          obtain ⟨q1, q10, q11, H1⟩ := (HH5.out.kept (World.grownBy_alloc wr (.cells (([0, 3, 8, 12, 20, 30, 200, -1, 201] : List Int).map (Value.int .i64)).toArray 3) none) (by simp) (fun r e => by cases e)).step hs1
          have hp5 := HH5.out.p0
          have CA := Lib.hid (fun m c2 hm hm0 hm1 => among_cut [0, 3, 8, 12, 20, 30, 200, -1, 201] HH5.out hs1 hp5 (.inr trivial) q1 H1 (by omega) m c2 hm hm0 hm1)
          have S5 := Lib.hid (S4.out.then hs1.pre r50 r51)
          have K5 := Lib.hid (OwnK.kept K4.out (hs1.pre).grown (by omega))
          have O5 := Lib.hid (OwnC.kept O4.out (hs1.pre).grown (by omega))
          clear hs1 hs1' S4 K4 O4 HH5 H5 H1
          rcases (show b1 / 29 = 0 ∨ b1 / 29 = 1 ∨ b1 / 29 = 2 by omega) with hd | hd | hd
          all_goals
            go_wp2_with fail
            refine (CA.out _ _ (by simp) (by omega) (by omega)).mono ?_
            rintro e w6 ⟨z, rfl, hs3⟩
            have S6 := Lib.hid (S5.out.then hs3 (by omega) (by omega))
            have K6 := Lib.hid (OwnK.kept K5.out hs3.grown (by omega))
            have O6 := Lib.hid (OwnC.kept O5.out hs3.grown (by omega))
            clear hs3 S5 K5 O5 CA hd b10 b11 q10 q11 hp5 r50 r51
            obtain ⟨L7, hg7, ho7⟩ := O6.out
            have hne7 : g1 ≠ w.heap.size := by omega
            have hsz7 := S6.out.grown.size
            rw [hw0] at hsz7
            have HS7 := Lib.hid (S6.out.alloc (.cells #[.int .i64 (z)] 3))
            have HK7 := Lib.hid (OwnK.below K6.out (below1x w6 (.cells #[.int .i64 (z)] 3)))
            clear O6 S6 K6
            go_wp2_with (at_builtin; go_loud (refine wpList_append_own _ rfl (.tmp 58) (.tmp 67) 25 rfl (w.alloc (.cells #[.slice A n c, .int .i64 0, .int .u64 0] 75)).heap.size 3 i0 (.int .i64 0) 1 8 Try.underlying25 hi hz0 hz1 hz2 rfl (by decide) (.slice (some ⟨g1, 0, none⟩) m c1) m _ rfl (ho7.alloc (.cells #[.int .i64 (z)] 3)) ⟨w6.heap.size, 0, none⟩ 1 1 [.int .i64 (z)] rfl rfl (cell_one_new _ _ _) (by simp [Value.oneCell']) (by unfold maxLen; omega) (by omega) (by simp; omega) ?_; intro v1 w1 hown1 hgrow1 hnil1; obtain ⟨g9, c9, rfl, hg9⟩ := own_some hown1 (fun e => nomatch (hnil1.1 e).1); have S9 := Lib.hid (HS7.out.own hgrow1 hg7 hne7); have K9 := Lib.hid (OwnK.kept HK7.out hgrow1 (fun e => hne4 e.symm)); have O9 : Hid (OwnC (w.alloc (.cells #[.slice A n c, .int .i64 0, .int .u64 0] 75)) w1 g9 (m + 1) c9) := Lib.hid ⟨L7 ++ [z], hg9, (by rw [List.map_append]; exact hown1)⟩; clear hnil1 hgrow1 hown1 HS7 HK7 ho7))
            go_roundw
            case rel => exact ⟨m + 1, m + 1, g9, c9, rfl, by go_num, by omega, rfl, O9, K9, ck_ne K9.out O9.out, Lib.hid (S9.out.mono (by push_cast; omega))⟩
            case measure => simp [intOf]; omega
        · obtain rfl : m = q := by omega
          obtain ⟨r5, r50, r51, H5⟩ := S4.out.at H.out
          go_wp2_with fail
          refine (one_at H5 (by omega) 16 (by omega)).mono ?_
          rintro e w8 ⟨x8, rfl, hs⟩
          have S8 := Lib.hid (S4.out.then hs r50 r51)
          have K8 := Lib.hid (OwnK.kept K4.out hs.grown (by omega))
          have O8 := Lib.hid (OwnC.kept O4.out hs.grown (by omega))
          clear hs S4 K4 O4 H5 r50 r51
          cases x8 with
          | true =>
            obtain ⟨L7, hg7, ho7⟩ := O8.out
            have hne7 : g1 ≠ w.heap.size := by omega
            have hsz7 := S8.out.grown.size
            rw [hw0] at hsz7
            have HS7 := Lib.hid (S8.out.alloc (.cells #[.int .i64 (0)] 3))
            have HK7 := Lib.hid (OwnK.below K8.out (below1x w8 (.cells #[.int .i64 (0)] 3)))
            clear O8 S8 K8
            go_wp2_with (at_builtin; go_loud (refine wpList_append_own _ rfl (.tmp 71) (.tmp 72) 25 rfl (w.alloc (.cells #[.slice A n c, .int .i64 0, .int .u64 0] 75)).heap.size 3 i0 (.int .i64 0) 1 8 Try.underlying25 hi hz0 hz1 hz2 rfl (by decide) (.slice (some ⟨g1, 0, none⟩) m c1) m _ rfl (ho7.alloc (.cells #[.int .i64 (0)] 3)) ⟨w8.heap.size, 0, none⟩ 1 1 [.int .i64 (0)] rfl rfl (cell_one_new _ _ _) (by simp [Value.oneCell']) (by unfold maxLen; omega) (by omega) (by simp; omega) ?_; intro v1 w1 hown1 hgrow1 hnil1; obtain ⟨g9, c9, rfl, hg9⟩ := own_some hown1 (fun e => nomatch (hnil1.1 e).1); have S9 := Lib.hid (HS7.out.own hgrow1 hg7 hne7); have K9 := Lib.hid (OwnK.kept HK7.out hgrow1 (fun e => hne4 e.symm)); have O9 : Hid (OwnC (w.alloc (.cells #[.slice A n c, .int .i64 0, .int .u64 0] 75)) w1 g9 (m + 1) c9) := Lib.hid ⟨L7 ++ [0], hg9, (by rw [List.map_append]; exact hown1)⟩; clear hnil1 hgrow1 hown1 HS7 HK7 ho7))
            go_wp2_with fail
            refine bodyPost_ret (results_tmp2 rfl _ _ _) rfl ?_
            exact drwQ_of K9.out O9.out (by omega) (by omega) (hbs.out _ S9.out.grown)
          | false =>
            go_wp2_with fail
            refine bodyPost_ret (results_tmp2 rfl _ _ _) rfl ?_
            exact drwQ_of K8.out O8.out (by omega) (by omega) (hbs.out _ S8.out.grown)
  | false =>
    have S3' := Lib.hid (S2.out.mono (d' := 210 + 4 * ((0 : Nat) : Int)) (by omega))
    have S3 := Lib.hid (S3'.out.alloc (.cells #[] 3))
    have K3 := Lib.hid (OwnK.below K2.out (below1x w2 (.cells #[] 3)))
    have hsz3 := S2.out.grown.size
    have O3 : Hid (OwnC (w.alloc (.cells #[.slice A n c, .int .i64 0, .int .u64 0] 75)) (w2.alloc (.cells #[] 3)) w2.heap.size 0 0) := Lib.hid ⟨[], hsz3, own_low (World.ownsRow_made w2 #[] 0 (Nat.le_refl _) (by unfold maxLen; omega) rfl) hsz3⟩
    have hbK : w2.heap.size ≠ gK := by
      obtain ⟨Lk, -, hok⟩ := K2.out
      have := (hok.lt gK rfl).2
      omega
    clear S3' S2 K2 O2
    go_wp2_with fail
    obtain ⟨W3, hW3⟩ : ∃ x, w2.alloc (.cells #[] 3) = x := ⟨_, rfl⟩
    rw [hW3] at S3 K3 O3 ⊢
    obtain ⟨xb, hxb⟩ : ∃ x, w2.heap.size = x := ⟨_, rfl⟩
    rw [hxb] at O3 hbK
    try simp only [hxb]
    clear hW3 hxb hsz3
    go_loopw [9, 10] (fun v i wr => ∃ (k m g1 c1 : Nat), v = .slice (some ⟨g1, 0, none⟩) m c1 ∧ i = .int .i64 k ∧ k ≤ q ∧ m = k ∧ Hid (OwnC (w.alloc (.cells #[.slice A n c, .int .i64 0, .int .u64 0] 75)) wr g1 m c1) ∧ Hid (OwnK (w.alloc (.cells #[.slice A n c, .int .i64 0, .int .u64 0] 75)) wr gK q cK) ∧ g1 ≠ gK ∧ Hid (CurStep (w.alloc (.cells #[.slice A n c, .int .i64 0, .int .u64 0] 75)) wr w.heap.size A n c 0 (210 + 4 * (k : Int)))) (fun _ i _ => q - (intOf i).toNat)
    case atStart => exact ⟨0, 0, xb, 0, rfl, rfl, Nat.zero_le _, rfl, O3, K3, hbK, S3⟩
    case round =>
      clear O3 K3 S3 hbK
      obtain ⟨k, m, g1, c1, rfl, rfl, hk, hmk, O4, K4, hne4, S4⟩ := hrel
      subst hmk
      have hgg : w.heap.size + 1 ≤ g1 := by have := O4.out.g; rw [hw0] at this; exact this
      by_cases hlt : m < q
      · have hk1 : (m : Int) < (q : Int) := by omega
        obtain ⟨r5, r50, r51, H5⟩ := S4.out.at H.out
        have HH5 := Lib.hid H5
        go_wp2_with fail
        refine (pick_at (H5.kept (World.grownBy_alloc wr _ none) (by simp) (fun r e => by cases e)) (by omega) 60 (by omega)).mono ?_
        rintro e w5 ⟨b1, b10, b11, rfl, hs1'⟩
        have hs1 : CurStep (wr.alloc (.cells (([0, 3, 8, 12, 20, 30, 200, -1, 201] : List Int).map (Value.int .i64)).toArray 3)) w5 w.heap.size A n c r5 2 := hs1'
        obtain ⟨q1, q10, q11, H1⟩ := (HH5.out.kept (World.grownBy_alloc wr (.cells (([0, 3, 8, 12, 20, 30, 200, -1, 201] : List Int).map (Value.int .i64)).toArray 3) none) (by simp) (fun r e => by cases e)).step hs1
        have hp5 := HH5.out.p0
        have CA := Lib.hid (fun m c2 hm hm0 hm1 => among_cut [0, 3, 8, 12, 20, 30, 200, -1, 201] HH5.out hs1 hp5 (.inr trivial) q1 H1 (by omega) m c2 hm hm0 hm1)
        have S5 := Lib.hid (S4.out.then hs1.pre r50 r51)
        have K5 := Lib.hid (OwnK.kept K4.out (hs1.pre).grown (by omega))
        have O5 := Lib.hid (OwnC.kept O4.out (hs1.pre).grown (by omega))
        clear hs1 hs1' S4 K4 O4 HH5 H5 H1
        rcases (show b1 / 29 = 0 ∨ b1 / 29 = 1 ∨ b1 / 29 = 2 by omega) with hd | hd | hd
        all_goals
          go_wp2_with fail
          refine (CA.out _ _ (by simp) (by omega) (by omega)).mono ?_
          rintro e w6 ⟨z, rfl, hs3⟩
          have S6 := Lib.hid (S5.out.then hs3 (by omega) (by omega))
          have K6 := Lib.hid (OwnK.kept K5.out hs3.grown (by omega))
          have O6 := Lib.hid (OwnC.kept O5.out hs3.grown (by omega))
          clear hs3 S5 K5 O5 CA hd b10 b11 q10 q11 hp5 r50 r51
          obtain ⟨L7, hg7, ho7⟩ := O6.out
          have hne7 : g1 ≠ w.heap.size := by omega
          have hsz7 := S6.out.grown.size
          rw [hw0] at hsz7
          have HS7 := Lib.hid (S6.out.alloc (.cells #[.int .i64 (z)] 3))
          have HK7 := Lib.hid (OwnK.below K6.out (below1x w6 (.cells #[.int .i64 (z)] 3)))
          clear O6 S6 K6
          go_wp2_with (at_builtin; go_loud (refine wpList_append_own _ rfl (.tmp 58) (.tmp 67) 25 rfl (w.alloc (.cells #[.slice A n c, .int .i64 0, .int .u64 0] 75)).heap.size 3 i0 (.int .i64 0) 1 8 Try.underlying25 hi hz0 hz1 hz2 rfl (by decide) (.slice (some ⟨g1, 0, none⟩) m c1) m _ rfl (ho7.alloc (.cells #[.int .i64 (z)] 3)) ⟨w6.heap.size, 0, none⟩ 1 1 [.int .i64 (z)] rfl rfl (cell_one_new _ _ _) (by simp [Value.oneCell']) (by unfold maxLen; omega) (by omega) (by simp; omega) ?_; intro v1 w1 hown1 hgrow1 hnil1; obtain ⟨g9, c9, rfl, hg9⟩ := own_some hown1 (fun e => nomatch (hnil1.1 e).1); have S9 := Lib.hid (HS7.out.own hgrow1 hg7 hne7); have K9 := Lib.hid (OwnK.kept HK7.out hgrow1 (fun e => hne4 e.symm)); have O9 : Hid (OwnC (w.alloc (.cells #[.slice A n c, .int .i64 0, .int .u64 0] 75)) w1 g9 (m + 1) c9) := Lib.hid ⟨L7 ++ [z], hg9, (by rw [List.map_append]; exact hown1)⟩; clear hnil1 hgrow1 hown1 HS7 HK7 ho7))
          go_roundw
          case rel => exact ⟨m + 1, m + 1, g9, c9, rfl, by go_num, by omega, rfl, O9, K9, ck_ne K9.out O9.out, Lib.hid (S9.out.mono (by push_cast; omega))⟩
          case measure => simp [intOf]; omega
      · obtain rfl : m = q := by omega
        obtain ⟨r5, r50, r51, H5⟩ := S4.out.at H.out
        go_wp2_with fail
        refine (one_at H5 (by omega) 16 (by omega)).mono ?_
        rintro e w8 ⟨x8, rfl, hs⟩
        have S8 := Lib.hid (S4.out.then hs r50 r51)
        have K8 := Lib.hid (OwnK.kept K4.out hs.grown (by omega))
        have O8 := Lib.hid (OwnC.kept O4.out hs.grown (by omega))
        clear hs S4 K4 O4 H5 r50 r51
        cases x8 with
        | true =>
          obtain ⟨L7, hg7, ho7⟩ := O8.out
          have hne7 : g1 ≠ w.heap.size := by omega
          have hsz7 := S8.out.grown.size
          rw [hw0] at hsz7
          have HS7 := Lib.hid (S8.out.alloc (.cells #[.int .i64 (0)] 3))
          have HK7 := Lib.hid (OwnK.below K8.out (below1x w8 (.cells #[.int .i64 (0)] 3)))
          clear O8 S8 K8
          go_wp2_with (at_builtin; go_loud (refine wpList_append_own _ rfl (.tmp 71) (.tmp 72) 25 rfl (w.alloc (.cells #[.slice A n c, .int .i64 0, .int .u64 0] 75)).heap.size 3 i0 (.int .i64 0) 1 8 Try.underlying25 hi hz0 hz1 hz2 rfl (by decide) (.slice (some ⟨g1, 0, none⟩) m c1) m _ rfl (ho7.alloc (.cells #[.int .i64 (0)] 3)) ⟨w8.heap.size, 0, none⟩ 1 1 [.int .i64 (0)] rfl rfl (cell_one_new _ _ _) (by simp [Value.oneCell']) (by unfold maxLen; omega) (by omega) (by simp; omega) ?_; intro v1 w1 hown1 hgrow1 hnil1; obtain ⟨g9, c9, rfl, hg9⟩ := own_some hown1 (fun e => nomatch (hnil1.1 e).1); have S9 := Lib.hid (HS7.out.own hgrow1 hg7 hne7); have K9 := Lib.hid (OwnK.kept HK7.out hgrow1 (fun e => hne4 e.symm)); have O9 : Hid (OwnC (w.alloc (.cells #[.slice A n c, .int .i64 0, .int .u64 0] 75)) w1 g9 (m + 1) c9) := Lib.hid ⟨L7 ++ [0], hg9, (by rw [List.map_append]; exact hown1)⟩; clear hnil1 hgrow1 hown1 HS7 HK7 ho7))
          go_wp2_with fail
          refine bodyPost_ret (results_tmp2 rfl _ _ _) rfl ?_
          exact drwQ_of K9.out O9.out (by omega) (by omega) (hbs.out _ S9.out.grown)
        | false =>
          go_wp2_with fail
          refine bodyPost_ret (results_tmp2 rfl _ _ _) rfl ?_
          exact drwQ_of K8.out O8.out (by omega) (by omega) (hbs.out _ S8.out.grown)
end Go.Proofs.Ytgnopkemcgbedab
