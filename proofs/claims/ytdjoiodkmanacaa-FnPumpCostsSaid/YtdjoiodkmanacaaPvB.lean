/- Chapter 12: the draw of a PumpTask. -/
import Derived.Test.YtdjoiodkmanacaaPvA
import Derived.Test.YtdjoiodkmanacaaPuT
import Derived.Test.YtdjoiodkmanacaaCurX
namespace Go.Proofs.Ytdjoiodkmanacaa
open Go.RowKit Go.PlainAid Go.Sort
set_option linter.unusedVariables false
set_option linter.unusedSimpArgs false

/-- What a draw of a PumpTask hands back. -/
def GivesTk (w : World) (g : Nat) (A : Option Addr) (n c : Nat) (p : Int) (e : Ending) (w' : World) : Prop :=
  ∃ (a b d : Int) (A1 A2 : Option Addr) (nZ c1 nV c2 : Nat) (Z : List Int) (V : List TPump), e = .returned (.agg #[.int .i64 a, .int .i64 b, .int .i64 d, .slice A1 nZ c1, .slice A2 nV c2]) ∧ nZ ≤ 10 ∧ nV ≤ 3 ∧ Z.length = nZ ∧ V.length = nV ∧
    w'.ownsRow w.heap.size 3 1 (.slice A1 nZ c1) nZ (Z.map (.int .i64)) ∧ w'.ownsRow w.heap.size 69 3 (.slice A2 nV c2) nV (flatPump V) ∧ CurStep w w' g A n c p 60
theorem own_cut0 {w : World} {base : Nat} {e : TypeId} {size n c g : Nat} {xs : List Value} (h : w.ownsRow base e size (.slice (some ⟨g, 0, none⟩) n c) n xs) : w.ownsRow base e size (.slice (some ⟨g, 0, none⟩) 0 c) 0 [] := by
  rcases h.2 with ⟨h', _⟩ | ⟨g', cap', cur, h', hb, hg, hnc, hcm, hcs, -⟩
  · simp at h'
  · simp only [Value.slice.injEq, Option.some.injEq, Addr.mk.injEq, and_true, true_and] at h'
    obtain ⟨rfl, rfl⟩ := h'
    exact ⟨by simp, .inr ⟨g, c, cur, rfl, hb, hg, Nat.zero_le _, hcm, hcs, by simp⟩⟩
theorem CurStep.sets5 {w W : World} {g : Nat} {A : Option Addr} {n c : Nat} {p d : Int} (h : CurStep w W g A n c p d) {b0 : Nat} (v0 v1 v2 v3 v4 : Value) (hb : w.heap.size ≤ b0) (hne : b0 ≠ g) : CurStep w (sets5 W b0 v0 v1 v2 v3 v4) g A n c p d :=
  ((((h.own (grown_setW W b0 0 v0) hb hne).own (grown_setW _ b0 1 v1) hb hne).own (grown_setW _ b0 2 v2) hb hne).own (grown_setW _ b0 3 v3) hb hne).own (grown_setW _ b0 4 v4) hb hne
theorem TkS.done {B : Nat} {W : World} {b0 b3 : Nat} {a b c : Int} {v1 v2 u1 u2 : Value} {nZ nV : Nat} {Z : List Int} {V : List TPump} (h : TkS B W b0 b3 a b c v1 v2 u1 u2 nZ nV Z V) (x0 x1 x2 x3 x4 : Value) :
    (sets5 W b0 x0 x1 x2 x3 x4).ownsRow B 3 1 u1 nZ (Z.map (.int .i64)) ∧ (sets5 W b0 x0 x1 x2 x3 x4).ownsRow B 69 3 u2 nV (flatPump V) :=
  ⟨own_sets5 h.z _ _ _ _ _ _ (own_off h.z h.res ne_it), own_sets5 h.r _ _ _ _ _ _ (own_off h.r h.res ne_ut)⟩
theorem cell_five_new (w : World) (z : Int) (t : TypeId) : ∀ j u, ([.int .i64 z, .int .i64 z, .int .i64 z, .int .i64 z, .int .i64 z] : List Value)[j]? = some u → (w.alloc (.cells #[.int .i64 z, .int .i64 z, .int .i64 z, .int .i64 z, .int .i64 z] t)).cell? ((⟨w.heap.size, 0, none⟩ : Addr).add j) = some u := by
  intro j u hu
  rw [addOW, Nat.zero_add, sNew]
  simpa using hu
set_option maxRecDepth 100000 in
set_option maxHeartbeats 8000000 in
theorem pumpTask_at {g : Nat} {A : Option Addr} {n c : Nat} {p : Int} {zs : List Int} {B : Nat} {w : World} (h : CurAt w g A n c p zs B) (hp : p ≤ 800000000) :
    Calls Try.prog 48 #[.pointer (some ⟨g, 0, none⟩)] w (GivesTk w g A n c p) := by
  obtain ⟨i0, hi, hz0, hz1, hz2⟩ := info_parts Try.infoInt'
  obtain ⟨j0, hj, jz0, jz1, jz2⟩ := info_parts Try.infoPump'
  have H := Lib.hid h
  have hgl := h.lt
  have hp0 := h.p0
  have S1 := Lib.hid ((CurStep.refl h.cur).alloc (taskO 0 0 0 (.slice none 0 0) (.slice none 0 0)))
  have R1 := Lib.hid (BoxT.new w 0 0 0 none 0 0 none 0 0)
  have hbg : w.heap.size ≠ g := by omega
  clear h
  go_enter Try.func48, Try.ntmps48
  go_wp2_with fail
  obtain ⟨W1, hW1⟩ : ∃ x, w.alloc (taskO 0 0 0 (.slice none 0 0) (.slice none 0 0)) = x := ⟨_, rfl⟩
  have hs1 : W1.heap.size = w.heap.size + 1 := by rw [← hW1]; simp
  rw [hW1] at S1 R1 ⊢
  clear hW1
  obtain ⟨b0, hb00⟩ : ∃ x, w.heap.size = x := ⟨_, rfl⟩
  have hgb : w.heap.size ≤ b0 := by omega
  rw [hb00] at hbg hs1
  rw [show BoxT W1 w.heap.size = BoxT W1 b0 from by rw [hb00]] at R1
  try simp only [hb00]
  have HB0 := Lib.hid hb00
  clear hb00
  obtain ⟨r5, r50, r51, H5⟩ := S1.out.at H.out
  refine (among_new H5 (by omega) [0, 10, 100] 3 rfl (by omega) (by omega) (b0 + 1) hs1).mono ?_
  rintro e w2 ⟨a1, -, rfl, hs⟩
  have S2 := Lib.hid (S1.out.then hs r50 r51)
  have R2 := Lib.hid (R1.out.kept hs.grown (fun e => hbg (by injection e)))
  clear hs S1 R1 H5 r50 r51
  clear hs1
  obtain ⟨r5, r50, r51, H5⟩ := S2.out.at H.out
  go_wp2_with fail
  refine (among_new H5 (by omega) [100, 105, 110, 120] 4 rfl (by omega) (by omega) w2.heap.size rfl).mono ?_
  rintro e w3 ⟨a3, -, rfl, hs⟩
  have S3 := Lib.hid (S2.out.then hs r50 r51)
  have R3 := Lib.hid (R2.out.kept hs.grown (fun e => hbg (by injection e)))
  clear hs S2 R2 H5 r50 r51
  obtain ⟨r5, r50, r51, H5⟩ := S3.out.at H.out
  go_wp2_with fail
  refine (among_new H5 (by omega) [120, 130, 150, 500] 4 rfl (by omega) (by omega) w3.heap.size rfl).mono ?_
  rintro e w4 ⟨a2, -, rfl, hs⟩
  have S4 := Lib.hid (S3.out.then hs r50 r51)
  have R4 := Lib.hid (R3.out.kept hs.grown (fun e => hbg (by injection e)))
  clear hs S3 R3 H5 r50 r51
  go_wp2_with fail
  have hrl := R4.out.lt
  have hsw := S4.out.grown.size
  have S5 := Lib.hid (S4.out.alloc (taskO a1 a2 a3 (.slice none 0 0) (.slice none 0 0)))
  have P5 : Hid (TkS w.heap.size (w4.alloc (taskO a1 a2 a3 (.slice none 0 0) (.slice none 0 0))) b0 w4.heap.size a1 a2 a3 (.slice none 0 0) (.slice none 0 0) (.slice none 0 0) (.slice none 0 0) 0 0 [] []) := Lib.hid
    ⟨(heap_alloc_old _ _ hrl).trans R4.out, heap_alloc_new w4 _, own_nothing, own_nothing⟩
  clear S4 R4
  obtain ⟨W5, hW5⟩ : ∃ x, w4.alloc (taskO a1 a2 a3 (.slice none 0 0) (.slice none 0 0)) = x := ⟨_, rfl⟩
  obtain ⟨b3, hb3⟩ : ∃ x, w4.heap.size = x := ⟨_, rfl⟩
  rw [hW5] at S5 P5 ⊢
  rw [hb3] at P5 hrl hsw
  try simp only [hb3]
  clear hW5 hb3
  have hgb3 : w.heap.size ≤ b3 := hsw
  have hb3g : b3 ≠ g := by omega
  have hne03 : b0 ≠ b3 := by omega
  clear hsw hrl
  obtain ⟨r5, r50, r51, H5⟩ := S5.out.at H.out
  refine (pick_at H5 (by omega) 5 (by omega)).mono ?_
  rintro e w6 ⟨b6, b60, b61, rfl, hs⟩
  obtain ⟨k6, rfl⟩ : ∃ k : Nat, b6 = (k : Int) := ⟨b6.toNat, by omega⟩
  have hk6 : k6 ≤ 4 := by omega
  have S6 := Lib.hid ((S5.out.then hs r50 r51).mono (d' := 10 + 2 * (5 - ((k6 + 1 : Nat) : Int))) (by push_cast; omega))
  have P6 := Lib.hid (P5.out.kept hs.grown hgl hgb hgb3)
  clear hs S5 P5 H5 r50 r51 b60 b61
  go_wp2_with fail
  go_loopw [4] (fun i wr => ∃ (k nZ c1 : Nat) (A1 : Option Addr) (Z : List Int), k ≤ 5 ∧ i = .int .i64 k ∧ nZ + k ≤ 5 ∧ (0 < nZ ∨ 0 < k) ∧ Z.length = nZ ∧ (0 < nZ → ∃ g1, A1 = some ⟨g1, 0, none⟩) ∧ Hid (TkS w.heap.size wr b0 b3 a1 a2 a3 (.slice A1 nZ c1) (.slice none 0 0) (.slice A1 nZ c1) (.slice none 0 0) nZ 0 Z []) ∧ Hid (CurStep w wr g A n c p (10 + 2 * (5 - (k : Int))))) (fun i _ => (intOf i).toNat)
  case atStart => exact ⟨k6 + 1, 0, 0, none, [], by omega, by go_num, by omega, by omega, rfl, fun h => absurd h (by omega), P6, S6⟩
  case round =>
    clear P6 S6 hk6
    obtain ⟨k, nZ, c1, A1, Z, hk, rfl, hq, hq3, hZl, hA1, P6, S6⟩ := hrel
    have HA1 := Lib.hid hA1
    clear hA1
    by_cases hlt : 0 < (k : Int)
    · obtain ⟨k, rfl⟩ : ∃ j, k = j + 1 := ⟨k - 1, by omega⟩
      obtain ⟨D9, hD9⟩ : ∃ d : Int, d = 10 + 2 * (5 - ((k + 1 : Nat) : Int)) := ⟨_, rfl⟩
      rw [← hD9] at S6
      have hD60 : D9 ≤ 60 := by omega
      have HD9 := Lib.hid hD9
      clear hD9
      go_wp2_with fail
      refine region_inv (by kernel_rfl) (by kernel_rfl) (fun Fl9 ac W => ∃ (x23 x24 x25 x26 x27 x28 x29 x30 : Value), ac = { tmps := #[Value.pointer (some ⟨g, 0, none⟩), undef, Value.pointer (some ⟨b0, 0, none⟩), Value.pointer (some ⟨b3, 0, none⟩), Value.int IntKind.i64 ↑(k + 1), undef, Value.pointer (some ⟨g, 0, none⟩), Value.slice (some ⟨b0 + 1, 0, none⟩) 3 3, Value.int IntKind.i64 a1, Value.pointer (some ⟨g, 0, none⟩), Value.slice (some ⟨w2.heap.size, 0, none⟩) 4 4, Value.int IntKind.i64 a3, Value.pointer (some ⟨g, 0, none⟩), Value.slice (some ⟨w3.heap.size, 0, none⟩) 4 4, Value.int IntKind.i64 a2, Value.agg #[Value.int IntKind.i64 a1, Value.int IntKind.i64 a2, Value.int IntKind.i64 a3, Value.slice none 0 0, Value.slice none 0 0], Value.pointer (some ⟨g, 0, none⟩), Value.int IntKind.i64 (k6 : Int), Value.int IntKind.i64 (1 + (k6 : Int)), Value.int IntKind.i64 ↑(k + 1), Value.bool true, u21, u22, x23, x24, x25, x26, x27, x28, x29, x30, undef, undef, undef, undef, undef, undef, undef, undef, undef, undef, undef, undef, undef, undef, undef, undef, undef, undef, undef, undef, undef, undef, undef, undef, undef, undef, undef, undef, undef, undef, undef, undef, undef, undef, undef, undef, undef, undef, undef, undef, undef, undef, undef, undef, undef, undef, undef, undef, undef, undef, undef, undef, undef, undef, undef, undef, undef, undef, undef, undef, undef, undef, undef, undef, undef, undef, undef, undef, undef, undef, undef, undef, undef, undef], defers := [] } ∧ UpW wr.heap.size wr W ∧
            (Fl9 0 = true → x23 = .pointer (some ⟨b3, 3, none⟩)) ∧
            (Fl9 1 = true → x24 = .slice A1 nZ c1) ∧
            (Fl9 2 = true → x25 = .pointer (some ⟨g, 0, none⟩)) ∧
            (Fl9 3 = true → Fl9 6 = false → ∃ g9, x26 = .slice (some ⟨g9, 0, none⟩) 7 7 ∧ LstS W g g9 (([0, 5, 10, 20, 50, (-10), (-50)] : List Int).map (.int .i64))) ∧
            (Fl9 4 = true → ∃ z9 : Int, x27 = .int .i64 z9 ∧ z9 ∈ ([0, 5, 10, 20, 50, -10, -50] : List Int)) ∧
            (Fl9 5 = true → Fl9 6 = false → ∃ g9, x28 = .slice (some ⟨g9, 0, none⟩) 1 1 ∧ ∃ z9, LstS W g g9 [.int .i64 z9]) ∧
            (Fl9 6 = true → Fl9 8 = false → ∃ (z9 : Int) (g5 c5 : Nat), x29 = (.slice (some ⟨g5, 0, none⟩) (nZ + 1) c5) ∧ TkS w.heap.size W b0 b3 a1 a2 a3 (.slice A1 nZ c1) (.slice none 0 0) (.slice (some ⟨g5, 0, none⟩) (nZ + 1) c5) (.slice none 0 0) (nZ + 1) 0 (Z ++ [z9]) []) ∧
            (Fl9 7 = true → x30 = .pointer (some ⟨b3, 3, none⟩)) ∧
            (Fl9 8 = true → ∃ (z9 : Int) (g5 c5 : Nat), x29 = (.slice (some ⟨g5, 0, none⟩) (nZ + 1) c5) ∧ TkS w.heap.size W b0 b3 a1 a2 a3 (.slice (some ⟨g5, 0, none⟩) (nZ + 1) c5) (.slice none 0 0) (.slice (some ⟨g5, 0, none⟩) (nZ + 1) c5) (.slice none 0 0) (nZ + 1) 0 (Z ++ [z9]) []) ∧
            (Fl9 6 = false → TkS w.heap.size W b0 b3 a1 a2 a3 (.slice A1 nZ c1) (.slice none 0 0) (.slice A1 nZ c1) (.slice none 0 0) nZ 0 Z []) ∧
            (True → CurStep w W g A n c p (D9 + 2 * (((Fl9 4).toNat : Int)))) ∧
            (Fl9 6 = true → Fl9 1 = true) ∧
            (Fl9 6 = true → Fl9 4 = true) ∧
            (Fl9 8 = true → Fl9 6 = true)) ?_ ?_ ?_
      · exact ⟨_, _, _, _, _, _, _, _, rfl, UpW.of ((Drawn.one wr 1).below _), (fun q0 => nomatch q0), (fun q0 => nomatch q0), (fun q0 => nomatch q0), (fun q0 => nomatch q0), (fun q0 => nomatch q0), (fun q0 => nomatch q0), (fun q0 => nomatch q0), (fun q0 => nomatch q0), (fun q0 => nomatch q0), (fun _ => P6.out.below ((Drawn.one wr 1).below _)), (fun _ => (S6.out.on ((Drawn.one wr 1).below _)).mono (by simp)), (fun q0 => nomatch q0), (fun q0 => nomatch q0), (fun q0 => nomatch q0)⟩
      · intro Fl9 ac W i9 o9 hJ ho hL hdep K9 hK
        obtain ⟨x23, x24, x25, x26, x27, x28, x29, x30, rfl, hB, hh0, hh1, hh2, hh3, hh4, hh5, hh6, hh7, hh8, hx0, hx1, hx2, hx3, hx4⟩ := hJ
        have hi9 : i9 < 9 := by simpa using (Array.getElem?_eq_some_iff.1 ho).1
        obtain rfl | rfl | rfl | rfl | rfl | rfl | rfl | rfl | rfl : i9 = 0 ∨ i9 = 1 ∨ i9 = 2 ∨ i9 = 3 ∨ i9 = 4 ∨ i9 = 5 ∨ i9 = 6 ∨ i9 = 7 ∨ i9 = 8 := by omega
        · -- operation 0
          cases ho
          go_simp
          exact hK _ _ ⟨_, _, _, _, _, _, _, _, rfl, hB, fun _ => rfl, hh1, hh2, hh3, hh4, hh5, hh6, hh7, hh8, hx0, hx1, hx2, hx3, hx4⟩
        · -- operation 1
          cases ho
          obtain rfl := hh0 (hdep ⟨0, .data⟩ (by simp) rfl)
          have hT : Fl9 6 = false := Bool.eq_false_iff.2 (fun h => absurd (hx2 h) (by rw [hL]; simp))
          have C9 := (hx0 hT).c3
          go_simp
          exact hK _ _ ⟨_, _, _, _, _, _, _, _, rfl, hB, hh0, fun _ => rfl, hh2, hh3, hh4, hh5, hh6, hh7, hh8, hx0, hx1, fun _ => rfl, hx3, hx4⟩
        · -- operation 2
          cases ho
          go_simp
          exact hK _ _ ⟨_, _, _, _, _, _, _, _, rfl, hB, hh0, hh1, fun _ => rfl, hh3, hh4, hh5, hh6, hh7, hh8, hx0, hx1, hx2, hx3, hx4⟩
        · -- operation 3
          cases ho
          go_simp
          exact hK _ _ ⟨_, _, _, _, _, _, _, _, rfl, hB.trans ((UpW.of (Below.alloc (Below.refl W.heap.size W) (Nat.le_refl _) _)).mono hB.size), hh0, hh1, hh2, fun _ _ => ⟨_, rfl, LstS.new W _ _ (hx1 trivial).lt⟩, hh4, fun q0 r0 => (fun ⟨g9, e, z9, h⟩ => ⟨g9, e, z9, h.below (Below.alloc (Below.refl W.heap.size W) (Nat.le_refl _) _)⟩) (hh5 q0 r0), fun q0 r0 => (fun ⟨z9, g5, c5, e, h⟩ => ⟨z9, g5, c5, e, h.below (Below.alloc (Below.refl W.heap.size W) (Nat.le_refl _) _)⟩) (hh6 q0 r0), hh7, fun q0 => (fun ⟨z9, g5, c5, e, h⟩ => ⟨z9, g5, c5, e, h.below (Below.alloc (Below.refl W.heap.size W) (Nat.le_refl _) _)⟩) (hh8 q0), fun q0 => (fun h => h.below (Below.alloc (Below.refl W.heap.size W) (Nat.le_refl _) _)) (hx0 q0), fun q0 => (fun h => h.on (Below.alloc (Below.refl W.heap.size W) (Nat.le_refl _) _)) (hx1 q0), hx2, hx3, hx4⟩
        · -- operation 4
          cases ho
          have hT : Fl9 6 = false := Bool.eq_false_iff.2 (fun h => absurd (hx3 h) (by rw [hL]; simp))
          have hbn4 := bN (Fl9 4)
          obtain ⟨g9, rfl, hl9⟩ := hh3 (hdep ⟨3, .data⟩ (by simp) rfl) hT
          obtain rfl := hh2 (hdep ⟨2, .data⟩ (by simp) rfl)
          obtain ⟨q9, q90, q91, H9⟩ := (hx1 trivial).at H.out
          go_simp
          refine (amongN_at H9 (by omega) g9 7 7 [0, 5, 10, 20, 50, -10, -50] rfl (by omega) (by omega) hl9.nums hl9.ne).mono ?_
          rintro e w9 ⟨z9, hz9, rfl, hs9⟩
          exact hK _ _ ⟨_, _, _, _, _, _, _, _, rfl, hB.trans ((UpW.grown hs9.grown).mono hB.size), hh0, hh1, hh2, (fun q0 r0 => (fun ⟨g9, e, h⟩ => ⟨g9, e, h.kept hs9.grown⟩) (hh3 q0 r0)), fun _ => ⟨_, rfl, hz9⟩, (fun q0 r0 => (fun ⟨g9, e, z9, h⟩ => ⟨g9, e, z9, h.kept hs9.grown⟩) (hh5 q0 r0)), (fun q0 r0 => (fun ⟨z9, g5, c5, e, h⟩ => ⟨z9, g5, c5, e, h.kept hs9.grown (by omega) hgb hgb3⟩) (hh6 q0 r0)), hh7, (fun q0 => (fun ⟨z9, g5, c5, e, h⟩ => ⟨z9, g5, c5, e, h.kept hs9.grown (by omega) hgb hgb3⟩) (hh8 q0)), fun q0 => (hx0 q0).kept hs9.grown (by omega) hgb hgb3, fun _ => ((hx1 trivial).then hs9 q90 q91).mono (by simp [hL] <;> omega), hx2, fun _ => rfl, hx4⟩
        · -- operation 5
          cases ho
          have hd4 := hdep ⟨4, .data⟩ (by simp) rfl
          obtain ⟨z27, rfl, hz27⟩ := hh4 hd4
          go_simp
          exact hK _ _ ⟨_, _, _, _, _, _, _, _, rfl, hB.trans ((UpW.of (Below.alloc (Below.refl W.heap.size W) (Nat.le_refl _) _)).mono hB.size), hh0, hh1, hh2, fun q0 r0 => (fun ⟨g9, e, h⟩ => ⟨g9, e, h.below (Below.alloc (Below.refl W.heap.size W) (Nat.le_refl _) _)⟩) (hh3 q0 r0), hh4, fun _ _ => ⟨_, rfl, _, LstS.new W _ _ (hx1 trivial).lt⟩, fun q0 r0 => (fun ⟨z9, g5, c5, e, h⟩ => ⟨z9, g5, c5, e, h.below (Below.alloc (Below.refl W.heap.size W) (Nat.le_refl _) _)⟩) (hh6 q0 r0), hh7, fun q0 => (fun ⟨z9, g5, c5, e, h⟩ => ⟨z9, g5, c5, e, h.below (Below.alloc (Below.refl W.heap.size W) (Nat.le_refl _) _)⟩) (hh8 q0), fun q0 => (fun h => h.below (Below.alloc (Below.refl W.heap.size W) (Nat.le_refl _) _)) (hx0 q0), fun q0 => (fun h => h.on (Below.alloc (Below.refl W.heap.size W) (Nat.le_refl _) _)) (hx1 q0), hx2, hx3, hx4⟩
        · -- operation 6
          cases ho
          have hp1 := hdep ⟨1, .data⟩ (by simp) rfl
          have hp4 := hdep ⟨4, .chain⟩ (by simp) rfl
          obtain rfl := hh1 hp1
          obtain ⟨g9, rfl, z9, hl9⟩ := hh5 (hdep ⟨5, .data⟩ (by simp) rfl) hL
          refine step_append1 rfl (.tmp 24) (.tmp 28) 24 rfl w.heap.size 3 i0 (.int .i64 0) 1 8 Try.underlying24 hi hz0 hz1 hz2 rfl (by decide) _ nZ _ rfl (hx0 hL).z ⟨g9, 0, none⟩ 1 [.int .i64 z9] rfl rfl hl9.cells (by simp [Value.oneCell']) (by unfold maxLen; omega) (by omega) (hx1 trivial).grown.size ?_
          intro g5 c5 w9 hg5 hown hgr
          exact hK _ _ ⟨_, _, _, _, _, _, _, _, rfl, hB.trans ((UpW.grown hgr).mono hB.size), hh0, hh1, hh2, (fun _ q0 => nomatch q0), hh4, (fun _ q0 => nomatch q0), fun _ => fun _ => ⟨z9, g5, c5, rfl, (hx0 hL).appZ hgr (by rw [List.map_append]; exact hown)⟩, hh7, (fun q0 => absurd (hx4 q0) (by rw [hL]; simp)), (fun q0 => nomatch q0), fun _ => (hx1 trivial).row hgr (hx0 hL).z hgl, fun _ => hp1, fun _ => hp4, fun _ => rfl⟩
        · -- operation 7
          cases ho
          go_simp
          exact hK _ _ ⟨_, _, _, _, _, _, _, _, rfl, hB, hh0, hh1, hh2, hh3, hh4, hh5, hh6, fun _ => rfl, hh8, hx0, hx1, hx2, hx3, hx4⟩
        · -- operation 8
          cases ho
          have hdT := hdep ⟨6, .data⟩ (by simp) rfl
          obtain ⟨z9, g5, c5, rfl, hw9⟩ := hh6 hdT hL
          obtain rfl := hh7 (hdep ⟨7, .data⟩ (by simp) rfl)
          have fz := hw9.fz 3
          have cc := hw9.c3
          go_simp
          exact hK _ _ ⟨_, _, _, _, _, _, _, _, rfl, hB.set _ _, hh0, (fun _ => rfl), hh2, (fun _ q0 => absurd (hdT.symm.trans q0) (by simp)), hh4, (fun _ q0 => absurd (hdT.symm.trans q0) (by simp)), (fun _ q0 => nomatch q0), hh7, fun _ => ⟨z9, g5, c5, rfl, hw9.putZ hne03⟩, (fun q0 => absurd (hdT.symm.trans q0) (by simp)), fun _ => (hx1 trivial).own (grown_setW _ _ _ _) hgb3 (by omega), hx2, hx3, fun _ => hdT⟩
      intro Fl9 ac W hJ hall
      obtain ⟨x23, x24, x25, x26, x27, x28, x29, x30, rfl, hB, hh0, hh1, hh2, hh3, hh4, hh5, hh6, hh7, hh8, -, hcs9, -, -, -⟩ := hJ
      obtain rfl := hh0 (hall 0 (by decide))
      obtain rfl := hh1 (hall 1 (by decide))
      obtain rfl := hh2 (hall 2 (by decide))
      obtain rfl := hh7 (hall 7 (by decide))
      obtain - := hh3 (hall 3 (by decide))
      obtain - := hh4 (hall 4 (by decide))
      obtain - := hh5 (hall 5 (by decide))
      obtain - := hh6 (hall 6 (by decide))
      obtain ⟨z9, g5, c5, rfl, P7⟩ := hh8 (hall 8 (by decide))
      clear hall
      have S7 : Hid (CurStep w W g A n c p (D9 + 2)) := Lib.hid ((hcs9 trivial).mono (by have := bN (Fl9 4); omega))
      have P7 := Lib.hid P7
      have hZ5 : (Z ++ [z9]).length = nZ + 1 := by rw [List.length_append, hZl]; rfl
      clear hcs9 hB
      go_wp2_with fail
      go_roundw
      case rel => exact ⟨k, _, _, _, _, by omega, by go_num, by omega, by omega, hZ5, fun _ => ⟨_, rfl⟩, P7, Lib.hid (S7.out.mono (by have := HD9.out; push_cast at *; omega))⟩
      case measure => simp [intOf]
    · obtain rfl : k = 0 := by omega
      have hn0 : 0 < nZ := by omega
      obtain ⟨g1, rfl⟩ := HA1.out hn0
      clear HA1
      have hg1 := ((P6.out.z).lt g1 rfl).1
      go_wp2_with fail
      obtain ⟨r5, r50, r51, H5⟩ := S6.out.at H.out
      refine (pick_at H5 (by omega) 3 (by omega)).mono ?_
      rintro e w7 ⟨b7, b70, b71, rfl, hs⟩
      obtain ⟨k7, rfl⟩ : ∃ k : Nat, b7 = (k : Int) := ⟨b7.toNat, by omega⟩
      have hk7 : k7 ≤ 2 := by omega
      have S7 := Lib.hid ((S6.out.then hs r50 r51).mono (d' := 24 + 6 * (2 - (k7 : Int))) (by push_cast; omega))
      have P7 := Lib.hid (P6.out.kept hs.grown hgl hgb hgb3)
      clear hs S6 P6 H5 r50 r51 b70 b71
      go_wp2_with fail
      go_loopw [5] (fun i wr => ∃ (k nV c2 : Nat) (A2 : Option Addr) (V : List TPump), k ≤ 2 ∧ i = .int .i64 k ∧ nV + k ≤ 2 ∧ V.length = nV ∧ Hid (TkS w.heap.size wr b0 b3 a1 a2 a3 (.slice (some ⟨g1, 0, none⟩) nZ c1) (.slice A2 nV c2) (.slice (some ⟨g1, 0, none⟩) nZ c1) (.slice A2 nV c2) nZ nV Z V) ∧ Hid (CurStep w wr g A n c p (24 + 6 * (2 - (k : Int))))) (fun i _ => (intOf i).toNat)
      case atStart => exact ⟨k7, 0, 0, none, [], by omega, by go_num, by omega, rfl, P7, S7⟩
      case round =>
        clear P7 S7 hk7
        obtain ⟨k, nV, c2, A2, V, hk2, rfl, hq2, hVl, P6, S6⟩ := hrel
        by_cases hlt2 : 0 < (k : Int)
        · obtain ⟨k, rfl⟩ : ∃ j, k = j + 1 := ⟨k - 1, by omega⟩
          obtain ⟨D9, hD9⟩ : ∃ d : Int, d = 24 + 6 * (2 - ((k + 1 : Nat) : Int)) := ⟨_, rfl⟩
          rw [← hD9] at S6
          have hD60 : D9 ≤ 60 := by omega
          have HD9 := Lib.hid hD9
          clear hD9
          go_wp2_with fail
          refine region_inv (by kernel_rfl) (by kernel_rfl) (fun Fl9 ac W => ∃ (x37 x38 x39 x40 x41 x42 x43 x44 x45 x46 x47 x48 x49 x50 x51 : Value), ac = { tmps := #[Value.pointer (some ⟨g, 0, none⟩), undef, Value.pointer (some ⟨b0, 0, none⟩), Value.pointer (some ⟨b3, 0, none⟩), Value.int IntKind.i64 0, Value.int IntKind.i64 ↑(k + 1), Value.pointer (some ⟨g, 0, none⟩), Value.slice (some ⟨b0 + 1, 0, none⟩) 3 3, Value.int IntKind.i64 a1, Value.pointer (some ⟨g, 0, none⟩), Value.slice (some ⟨w2.heap.size, 0, none⟩) 4 4, Value.int IntKind.i64 a3, Value.pointer (some ⟨g, 0, none⟩), Value.slice (some ⟨w3.heap.size, 0, none⟩) 4 4, Value.int IntKind.i64 a2, Value.agg #[Value.int IntKind.i64 a1, Value.int IntKind.i64 a2, Value.int IntKind.i64 a3, Value.slice none 0 0, Value.slice none 0 0], Value.pointer (some ⟨g, 0, none⟩), Value.int IntKind.i64 (k6 : Int), Value.int IntKind.i64 (1 + (k6 : Int)), Value.int IntKind.i64 0, Value.bool false, u21, u22, u23, u24, u25, u26, u27, u28, u29, u30, Value.pointer (some ⟨g, 0, none⟩), Value.int IntKind.i64 (k7 : Int), Value.int IntKind.i64 ↑(k + 1), Value.bool true, u35, u36, x37, x38, x39, x40, x41, x42, x43, x44, x45, x46, x47, x48, x49, x50, x51, undef, undef, undef, undef, undef, undef, undef, undef, undef, undef, undef, undef, undef, undef, undef, undef, undef, undef, undef, undef, undef, undef, undef, undef, undef, undef, undef, undef, undef, undef, undef, undef, undef, undef, undef, undef, undef, undef, undef, undef, undef, undef, undef, undef, undef, undef, undef, undef, undef, undef, undef, undef, undef], defers := [] } ∧ UpW wr.heap.size wr W ∧
                (Fl9 0 = true → x37 = .pointer (some ⟨b3, 4, none⟩)) ∧
                (Fl9 1 = true → x38 = .slice A2 nV c2) ∧
                (Fl9 2 = true → x39 = .pointer (some ⟨g, 0, none⟩)) ∧
                (Fl9 3 = true → Fl9 13 = false → ∃ g9, x40 = .slice (some ⟨g9, 0, none⟩) 5 5 ∧ LstS W g g9 (([1, 5, 10, 20, 50] : List Int).map (.int .i64))) ∧
                (Fl9 4 = true → ∃ z9 : Int, x41 = .int .i64 z9 ∧ z9 ∈ ([1, 5, 10, 20, 50] : List Int)) ∧
                (Fl9 5 = true → x42 = .pointer (some ⟨g, 0, none⟩)) ∧
                (Fl9 6 = true → Fl9 13 = false → ∃ g9, x43 = .slice (some ⟨g9, 0, none⟩) 4 4 ∧ LstS W g g9 (([0, 1, 3, 20] : List Int).map (.int .i64))) ∧
                (Fl9 7 = true → ∃ z9 : Int, x44 = .int .i64 z9 ∧ z9 ∈ ([0, 1, 3, 20] : List Int)) ∧
                (Fl9 8 = true → x45 = .pointer (some ⟨g, 0, none⟩)) ∧
                (Fl9 9 = true → Fl9 13 = false → ∃ g9, x46 = .slice (some ⟨g9, 0, none⟩) 4 4 ∧ LstS W g g9 (([0, 2, 10, 50] : List Int).map (.int .i64))) ∧
                (Fl9 10 = true → ∃ z9 : Int, x47 = .int .i64 z9 ∧ z9 ∈ ([0, 2, 10, 50] : List Int)) ∧
                (Fl9 11 = true → ∃ y1 y2 y3 : Int, x48 = .agg #[.int .i64 y1, .int .i64 y2, .int .i64 y3]) ∧
                (Fl9 12 = true → Fl9 13 = false → ∃ g9, x49 = .slice (some ⟨g9, 0, none⟩) 1 1 ∧ ∃ y1 y2 y3 : Int, LstS W g g9 [.int .i64 y1, .int .i64 y2, .int .i64 y3]) ∧
                (Fl9 13 = true → Fl9 15 = false → ∃ (y1 y2 y3 : Int) (g6 c6 : Nat), x50 = (.slice (some ⟨g6, 0, none⟩) (nV + 1) c6) ∧ TkS w.heap.size W b0 b3 a1 a2 a3 (.slice (some ⟨g1, 0, none⟩) nZ c1) (.slice A2 nV c2) (.slice (some ⟨g1, 0, none⟩) nZ c1) (.slice (some ⟨g6, 0, none⟩) (nV + 1) c6) nZ (nV + 1) Z (V ++ [(⟨y1, y2, y3⟩ : TPump)])) ∧
                (Fl9 14 = true → x51 = .pointer (some ⟨b3, 4, none⟩)) ∧
                (Fl9 15 = true → ∃ (y1 y2 y3 : Int) (g6 c6 : Nat), x50 = (.slice (some ⟨g6, 0, none⟩) (nV + 1) c6) ∧ TkS w.heap.size W b0 b3 a1 a2 a3 (.slice (some ⟨g1, 0, none⟩) nZ c1) (.slice (some ⟨g6, 0, none⟩) (nV + 1) c6) (.slice (some ⟨g1, 0, none⟩) nZ c1) (.slice (some ⟨g6, 0, none⟩) (nV + 1) c6) nZ (nV + 1) Z (V ++ [(⟨y1, y2, y3⟩ : TPump)])) ∧
                (Fl9 13 = false → TkS w.heap.size W b0 b3 a1 a2 a3 (.slice (some ⟨g1, 0, none⟩) nZ c1) (.slice A2 nV c2) (.slice (some ⟨g1, 0, none⟩) nZ c1) (.slice A2 nV c2) nZ nV Z V) ∧
                (True → CurStep w W g A n c p (D9 + 2 * (((Fl9 4).toNat : Int) + ((Fl9 7).toNat : Int) + ((Fl9 10).toNat : Int)))) ∧
                (Fl9 13 = true → Fl9 1 = true) ∧
                (Fl9 13 = true → Fl9 4 = true) ∧
                (Fl9 13 = true → Fl9 7 = true) ∧
                (Fl9 13 = true → Fl9 10 = true) ∧
                (Fl9 10 = true → Fl9 7 = true) ∧
                (Fl9 7 = true → Fl9 4 = true) ∧
                (Fl9 15 = true → Fl9 13 = true)) ?_ ?_ ?_
          · exact ⟨_, _, _, _, _, _, _, _, _, _, _, _, _, _, _, rfl, UpW.of ((Drawn.one wr 1).below _), (fun q0 => nomatch q0), (fun q0 => nomatch q0), (fun q0 => nomatch q0), (fun q0 => nomatch q0), (fun q0 => nomatch q0), (fun q0 => nomatch q0), (fun q0 => nomatch q0), (fun q0 => nomatch q0), (fun q0 => nomatch q0), (fun q0 => nomatch q0), (fun q0 => nomatch q0), (fun q0 => nomatch q0), (fun q0 => nomatch q0), (fun q0 => nomatch q0), (fun q0 => nomatch q0), (fun q0 => nomatch q0), (fun _ => P6.out.below ((Drawn.one wr 1).below _)), (fun _ => (S6.out.on ((Drawn.one wr 1).below _)).mono (by simp)), (fun q0 => nomatch q0), (fun q0 => nomatch q0), (fun q0 => nomatch q0), (fun q0 => nomatch q0), (fun q0 => nomatch q0), (fun q0 => nomatch q0), (fun q0 => nomatch q0)⟩
          · intro Fl9 ac W i9 o9 hJ ho hL hdep K9 hK
            obtain ⟨x37, x38, x39, x40, x41, x42, x43, x44, x45, x46, x47, x48, x49, x50, x51, rfl, hB, hh0, hh1, hh2, hh3, hh4, hh5, hh6, hh7, hh8, hh9, hh10, hh11, hh12, hh13, hh14, hh15, hx0, hx1, hx2, hx3, hx4, hx5, hx6, hx7, hx8⟩ := hJ
            have hi9 : i9 < 16 := by simpa using (Array.getElem?_eq_some_iff.1 ho).1
            obtain rfl | rfl | rfl | rfl | rfl | rfl | rfl | rfl | rfl | rfl | rfl | rfl | rfl | rfl | rfl | rfl : i9 = 0 ∨ i9 = 1 ∨ i9 = 2 ∨ i9 = 3 ∨ i9 = 4 ∨ i9 = 5 ∨ i9 = 6 ∨ i9 = 7 ∨ i9 = 8 ∨ i9 = 9 ∨ i9 = 10 ∨ i9 = 11 ∨ i9 = 12 ∨ i9 = 13 ∨ i9 = 14 ∨ i9 = 15 := by omega
            · -- operation 0
              cases ho
              go_simp
              exact hK _ _ ⟨_, _, _, _, _, _, _, _, _, _, _, _, _, _, _, rfl, hB, fun _ => rfl, hh1, hh2, hh3, hh4, hh5, hh6, hh7, hh8, hh9, hh10, hh11, hh12, hh13, hh14, hh15, hx0, hx1, hx2, hx3, hx4, hx5, hx6, hx7, hx8⟩
            · -- operation 1
              cases ho
              obtain rfl := hh0 (hdep ⟨0, .data⟩ (by simp) rfl)
              have hT : Fl9 13 = false := Bool.eq_false_iff.2 (fun h => absurd (hx2 h) (by rw [hL]; simp))
              have C9 := (hx0 hT).c4
              go_simp
              exact hK _ _ ⟨_, _, _, _, _, _, _, _, _, _, _, _, _, _, _, rfl, hB, hh0, fun _ => rfl, hh2, hh3, hh4, hh5, hh6, hh7, hh8, hh9, hh10, hh11, hh12, hh13, hh14, hh15, hx0, hx1, fun _ => rfl, hx3, hx4, hx5, hx6, hx7, hx8⟩
            · -- operation 2
              cases ho
              go_simp
              exact hK _ _ ⟨_, _, _, _, _, _, _, _, _, _, _, _, _, _, _, rfl, hB, hh0, hh1, fun _ => rfl, hh3, hh4, hh5, hh6, hh7, hh8, hh9, hh10, hh11, hh12, hh13, hh14, hh15, hx0, hx1, hx2, hx3, hx4, hx5, hx6, hx7, hx8⟩
            · -- operation 3
              cases ho
              go_simp
              exact hK _ _ ⟨_, _, _, _, _, _, _, _, _, _, _, _, _, _, _, rfl, hB.trans ((UpW.of (Below.alloc (Below.refl W.heap.size W) (Nat.le_refl _) _)).mono hB.size), hh0, hh1, hh2, fun _ _ => ⟨_, rfl, LstS.new W _ _ (hx1 trivial).lt⟩, hh4, hh5, fun q0 r0 => (fun ⟨g9, e, h⟩ => ⟨g9, e, h.below (Below.alloc (Below.refl W.heap.size W) (Nat.le_refl _) _)⟩) (hh6 q0 r0), hh7, hh8, fun q0 r0 => (fun ⟨g9, e, h⟩ => ⟨g9, e, h.below (Below.alloc (Below.refl W.heap.size W) (Nat.le_refl _) _)⟩) (hh9 q0 r0), hh10, hh11, fun q0 r0 => (fun ⟨g9, e, y1, y2, y3, h⟩ => ⟨g9, e, y1, y2, y3, h.below (Below.alloc (Below.refl W.heap.size W) (Nat.le_refl _) _)⟩) (hh12 q0 r0), fun q0 r0 => (fun ⟨y1, y2, y3, g6, c6, e, h⟩ => ⟨y1, y2, y3, g6, c6, e, h.below (Below.alloc (Below.refl W.heap.size W) (Nat.le_refl _) _)⟩) (hh13 q0 r0), hh14, fun q0 => (fun ⟨y1, y2, y3, g6, c6, e, h⟩ => ⟨y1, y2, y3, g6, c6, e, h.below (Below.alloc (Below.refl W.heap.size W) (Nat.le_refl _) _)⟩) (hh15 q0), fun q0 => (fun h => h.below (Below.alloc (Below.refl W.heap.size W) (Nat.le_refl _) _)) (hx0 q0), fun q0 => (fun h => h.on (Below.alloc (Below.refl W.heap.size W) (Nat.le_refl _) _)) (hx1 q0), hx2, hx3, hx4, hx5, hx6, hx7, hx8⟩
            · -- operation 4
              cases ho
              have hT : Fl9 13 = false := Bool.eq_false_iff.2 (fun h => absurd (hx3 h) (by rw [hL]; simp))
              have hbn4 := bN (Fl9 4)
              have hbn7 := bN (Fl9 7)
              have hbn10 := bN (Fl9 10)
              obtain ⟨g9, rfl, hl9⟩ := hh3 (hdep ⟨3, .data⟩ (by simp) rfl) hT
              obtain rfl := hh2 (hdep ⟨2, .data⟩ (by simp) rfl)
              obtain ⟨q9, q90, q91, H9⟩ := (hx1 trivial).at H.out
              go_simp
              refine (amongN_at H9 (by omega) g9 5 5 [1, 5, 10, 20, 50] rfl (by omega) (by omega) hl9.nums hl9.ne).mono ?_
              rintro e w9 ⟨z9, hz9, rfl, hs9⟩
              exact hK _ _ ⟨_, _, _, _, _, _, _, _, _, _, _, _, _, _, _, rfl, hB.trans ((UpW.grown hs9.grown).mono hB.size), hh0, hh1, hh2, (fun q0 r0 => (fun ⟨g9, e, h⟩ => ⟨g9, e, h.kept hs9.grown⟩) (hh3 q0 r0)), fun _ => ⟨_, rfl, hz9⟩, hh5, (fun q0 r0 => (fun ⟨g9, e, h⟩ => ⟨g9, e, h.kept hs9.grown⟩) (hh6 q0 r0)), hh7, hh8, (fun q0 r0 => (fun ⟨g9, e, h⟩ => ⟨g9, e, h.kept hs9.grown⟩) (hh9 q0 r0)), hh10, hh11, (fun q0 r0 => (fun ⟨g9, e, y1, y2, y3, h⟩ => ⟨g9, e, y1, y2, y3, h.kept hs9.grown⟩) (hh12 q0 r0)), (fun q0 r0 => (fun ⟨y1, y2, y3, g6, c6, e, h⟩ => ⟨y1, y2, y3, g6, c6, e, h.kept hs9.grown (by omega) hgb hgb3⟩) (hh13 q0 r0)), hh14, (fun q0 => (fun ⟨y1, y2, y3, g6, c6, e, h⟩ => ⟨y1, y2, y3, g6, c6, e, h.kept hs9.grown (by omega) hgb hgb3⟩) (hh15 q0)), fun q0 => (hx0 q0).kept hs9.grown (by omega) hgb hgb3, fun _ => ((hx1 trivial).then hs9 q90 q91).mono (by simp [hL] <;> omega), hx2, fun _ => rfl, hx4, hx5, hx6, fun _ => rfl, hx8⟩
            · -- operation 5
              cases ho
              go_simp
              exact hK _ _ ⟨_, _, _, _, _, _, _, _, _, _, _, _, _, _, _, rfl, hB, hh0, hh1, hh2, hh3, hh4, fun _ => rfl, hh6, hh7, hh8, hh9, hh10, hh11, hh12, hh13, hh14, hh15, hx0, hx1, hx2, hx3, hx4, hx5, hx6, hx7, hx8⟩
            · -- operation 6
              cases ho
              go_simp
              exact hK _ _ ⟨_, _, _, _, _, _, _, _, _, _, _, _, _, _, _, rfl, hB.trans ((UpW.of (Below.alloc (Below.refl W.heap.size W) (Nat.le_refl _) _)).mono hB.size), hh0, hh1, hh2, fun q0 r0 => (fun ⟨g9, e, h⟩ => ⟨g9, e, h.below (Below.alloc (Below.refl W.heap.size W) (Nat.le_refl _) _)⟩) (hh3 q0 r0), hh4, hh5, fun _ _ => ⟨_, rfl, LstS.new W _ _ (hx1 trivial).lt⟩, hh7, hh8, fun q0 r0 => (fun ⟨g9, e, h⟩ => ⟨g9, e, h.below (Below.alloc (Below.refl W.heap.size W) (Nat.le_refl _) _)⟩) (hh9 q0 r0), hh10, hh11, fun q0 r0 => (fun ⟨g9, e, y1, y2, y3, h⟩ => ⟨g9, e, y1, y2, y3, h.below (Below.alloc (Below.refl W.heap.size W) (Nat.le_refl _) _)⟩) (hh12 q0 r0), fun q0 r0 => (fun ⟨y1, y2, y3, g6, c6, e, h⟩ => ⟨y1, y2, y3, g6, c6, e, h.below (Below.alloc (Below.refl W.heap.size W) (Nat.le_refl _) _)⟩) (hh13 q0 r0), hh14, fun q0 => (fun ⟨y1, y2, y3, g6, c6, e, h⟩ => ⟨y1, y2, y3, g6, c6, e, h.below (Below.alloc (Below.refl W.heap.size W) (Nat.le_refl _) _)⟩) (hh15 q0), fun q0 => (fun h => h.below (Below.alloc (Below.refl W.heap.size W) (Nat.le_refl _) _)) (hx0 q0), fun q0 => (fun h => h.on (Below.alloc (Below.refl W.heap.size W) (Nat.le_refl _) _)) (hx1 q0), hx2, hx3, hx4, hx5, hx6, hx7, hx8⟩
            · -- operation 7
              cases ho
              have hT : Fl9 13 = false := Bool.eq_false_iff.2 (fun h => absurd (hx4 h) (by rw [hL]; simp))
              have hbn4 := bN (Fl9 4)
              have hbn7 := bN (Fl9 7)
              have hbn10 := bN (Fl9 10)
              obtain ⟨g9, rfl, hl9⟩ := hh6 (hdep ⟨6, .data⟩ (by simp) rfl) hT
              obtain rfl := hh5 (hdep ⟨5, .data⟩ (by simp) rfl)
              obtain ⟨q9, q90, q91, H9⟩ := (hx1 trivial).at H.out
              go_simp
              refine (amongN_at H9 (by omega) g9 4 4 [0, 1, 3, 20] rfl (by omega) (by omega) hl9.nums hl9.ne).mono ?_
              rintro e w9 ⟨z9, hz9, rfl, hs9⟩
              exact hK _ _ ⟨_, _, _, _, _, _, _, _, _, _, _, _, _, _, _, rfl, hB.trans ((UpW.grown hs9.grown).mono hB.size), hh0, hh1, hh2, (fun q0 r0 => (fun ⟨g9, e, h⟩ => ⟨g9, e, h.kept hs9.grown⟩) (hh3 q0 r0)), hh4, hh5, (fun q0 r0 => (fun ⟨g9, e, h⟩ => ⟨g9, e, h.kept hs9.grown⟩) (hh6 q0 r0)), fun _ => ⟨_, rfl, hz9⟩, hh8, (fun q0 r0 => (fun ⟨g9, e, h⟩ => ⟨g9, e, h.kept hs9.grown⟩) (hh9 q0 r0)), hh10, hh11, (fun q0 r0 => (fun ⟨g9, e, y1, y2, y3, h⟩ => ⟨g9, e, y1, y2, y3, h.kept hs9.grown⟩) (hh12 q0 r0)), (fun q0 r0 => (fun ⟨y1, y2, y3, g6, c6, e, h⟩ => ⟨y1, y2, y3, g6, c6, e, h.kept hs9.grown (by omega) hgb hgb3⟩) (hh13 q0 r0)), hh14, (fun q0 => (fun ⟨y1, y2, y3, g6, c6, e, h⟩ => ⟨y1, y2, y3, g6, c6, e, h.kept hs9.grown (by omega) hgb hgb3⟩) (hh15 q0)), fun q0 => (hx0 q0).kept hs9.grown (by omega) hgb hgb3, fun _ => ((hx1 trivial).then hs9 q90 q91).mono (by simp [hL] <;> omega), hx2, hx3, fun _ => rfl, hx5, fun _ => rfl, fun _ => hdep ⟨4, .chain⟩ (by simp) rfl, hx8⟩
            · -- operation 8
              cases ho
              go_simp
              exact hK _ _ ⟨_, _, _, _, _, _, _, _, _, _, _, _, _, _, _, rfl, hB, hh0, hh1, hh2, hh3, hh4, hh5, hh6, hh7, fun _ => rfl, hh9, hh10, hh11, hh12, hh13, hh14, hh15, hx0, hx1, hx2, hx3, hx4, hx5, hx6, hx7, hx8⟩
            · -- operation 9
              cases ho
              go_simp
              exact hK _ _ ⟨_, _, _, _, _, _, _, _, _, _, _, _, _, _, _, rfl, hB.trans ((UpW.of (Below.alloc (Below.refl W.heap.size W) (Nat.le_refl _) _)).mono hB.size), hh0, hh1, hh2, fun q0 r0 => (fun ⟨g9, e, h⟩ => ⟨g9, e, h.below (Below.alloc (Below.refl W.heap.size W) (Nat.le_refl _) _)⟩) (hh3 q0 r0), hh4, hh5, fun q0 r0 => (fun ⟨g9, e, h⟩ => ⟨g9, e, h.below (Below.alloc (Below.refl W.heap.size W) (Nat.le_refl _) _)⟩) (hh6 q0 r0), hh7, hh8, fun _ _ => ⟨_, rfl, LstS.new W _ _ (hx1 trivial).lt⟩, hh10, hh11, fun q0 r0 => (fun ⟨g9, e, y1, y2, y3, h⟩ => ⟨g9, e, y1, y2, y3, h.below (Below.alloc (Below.refl W.heap.size W) (Nat.le_refl _) _)⟩) (hh12 q0 r0), fun q0 r0 => (fun ⟨y1, y2, y3, g6, c6, e, h⟩ => ⟨y1, y2, y3, g6, c6, e, h.below (Below.alloc (Below.refl W.heap.size W) (Nat.le_refl _) _)⟩) (hh13 q0 r0), hh14, fun q0 => (fun ⟨y1, y2, y3, g6, c6, e, h⟩ => ⟨y1, y2, y3, g6, c6, e, h.below (Below.alloc (Below.refl W.heap.size W) (Nat.le_refl _) _)⟩) (hh15 q0), fun q0 => (fun h => h.below (Below.alloc (Below.refl W.heap.size W) (Nat.le_refl _) _)) (hx0 q0), fun q0 => (fun h => h.on (Below.alloc (Below.refl W.heap.size W) (Nat.le_refl _) _)) (hx1 q0), hx2, hx3, hx4, hx5, hx6, hx7, hx8⟩
            · -- operation 10
              cases ho
              have hT : Fl9 13 = false := Bool.eq_false_iff.2 (fun h => absurd (hx5 h) (by rw [hL]; simp))
              have hbn4 := bN (Fl9 4)
              have hbn7 := bN (Fl9 7)
              have hbn10 := bN (Fl9 10)
              obtain ⟨g9, rfl, hl9⟩ := hh9 (hdep ⟨9, .data⟩ (by simp) rfl) hT
              obtain rfl := hh8 (hdep ⟨8, .data⟩ (by simp) rfl)
              obtain ⟨q9, q90, q91, H9⟩ := (hx1 trivial).at H.out
              go_simp
              refine (amongN_at H9 (by omega) g9 4 4 [0, 2, 10, 50] rfl (by omega) (by omega) hl9.nums hl9.ne).mono ?_
              rintro e w9 ⟨z9, hz9, rfl, hs9⟩
              exact hK _ _ ⟨_, _, _, _, _, _, _, _, _, _, _, _, _, _, _, rfl, hB.trans ((UpW.grown hs9.grown).mono hB.size), hh0, hh1, hh2, (fun q0 r0 => (fun ⟨g9, e, h⟩ => ⟨g9, e, h.kept hs9.grown⟩) (hh3 q0 r0)), hh4, hh5, (fun q0 r0 => (fun ⟨g9, e, h⟩ => ⟨g9, e, h.kept hs9.grown⟩) (hh6 q0 r0)), hh7, hh8, (fun q0 r0 => (fun ⟨g9, e, h⟩ => ⟨g9, e, h.kept hs9.grown⟩) (hh9 q0 r0)), fun _ => ⟨_, rfl, hz9⟩, hh11, (fun q0 r0 => (fun ⟨g9, e, y1, y2, y3, h⟩ => ⟨g9, e, y1, y2, y3, h.kept hs9.grown⟩) (hh12 q0 r0)), (fun q0 r0 => (fun ⟨y1, y2, y3, g6, c6, e, h⟩ => ⟨y1, y2, y3, g6, c6, e, h.kept hs9.grown (by omega) hgb hgb3⟩) (hh13 q0 r0)), hh14, (fun q0 => (fun ⟨y1, y2, y3, g6, c6, e, h⟩ => ⟨y1, y2, y3, g6, c6, e, h.kept hs9.grown (by omega) hgb hgb3⟩) (hh15 q0)), fun q0 => (hx0 q0).kept hs9.grown (by omega) hgb hgb3, fun _ => ((hx1 trivial).then hs9 q90 q91).mono (by simp [hL] <;> omega), hx2, hx3, hx4, fun _ => rfl, fun _ => hdep ⟨7, .chain⟩ (by simp) rfl, hx7, hx8⟩
            · -- operation 11
              cases ho
              obtain ⟨z1, rfl, -⟩ := hh4 (hdep ⟨4, .data⟩ (by simp) rfl)
              obtain ⟨z2, rfl, -⟩ := hh7 (hdep ⟨7, .data⟩ (by simp) rfl)
              obtain ⟨z3, rfl, -⟩ := hh10 (hdep ⟨10, .data⟩ (by simp) rfl)
              go_simp
              exact hK _ _ ⟨_, _, _, _, _, _, _, _, _, _, _, _, _, _, _, rfl, hB, hh0, hh1, hh2, hh3, hh4, hh5, hh6, hh7, hh8, hh9, hh10, fun _ => ⟨_, _, _, rfl⟩, hh12, hh13, hh14, hh15, hx0, hx1, hx2, hx3, hx4, hx5, hx6, hx7, hx8⟩
            · -- operation 12
              cases ho
              have hd11 := hdep ⟨11, .data⟩ (by simp) rfl
              obtain ⟨y1, y2, y3, rfl⟩ := hh11 hd11
              go_simp
              exact hK _ _ ⟨_, _, _, _, _, _, _, _, _, _, _, _, _, _, _, rfl, hB.trans ((UpW.of (Below.alloc (Below.refl W.heap.size W) (Nat.le_refl _) _)).mono hB.size), hh0, hh1, hh2, fun q0 r0 => (fun ⟨g9, e, h⟩ => ⟨g9, e, h.below (Below.alloc (Below.refl W.heap.size W) (Nat.le_refl _) _)⟩) (hh3 q0 r0), hh4, hh5, fun q0 r0 => (fun ⟨g9, e, h⟩ => ⟨g9, e, h.below (Below.alloc (Below.refl W.heap.size W) (Nat.le_refl _) _)⟩) (hh6 q0 r0), hh7, hh8, fun q0 r0 => (fun ⟨g9, e, h⟩ => ⟨g9, e, h.below (Below.alloc (Below.refl W.heap.size W) (Nat.le_refl _) _)⟩) (hh9 q0 r0), hh10, hh11, fun _ _ => ⟨_, rfl, _, _, _, LstS.new W _ _ (hx1 trivial).lt⟩, fun q0 r0 => (fun ⟨y1, y2, y3, g6, c6, e, h⟩ => ⟨y1, y2, y3, g6, c6, e, h.below (Below.alloc (Below.refl W.heap.size W) (Nat.le_refl _) _)⟩) (hh13 q0 r0), hh14, fun q0 => (fun ⟨y1, y2, y3, g6, c6, e, h⟩ => ⟨y1, y2, y3, g6, c6, e, h.below (Below.alloc (Below.refl W.heap.size W) (Nat.le_refl _) _)⟩) (hh15 q0), fun q0 => (fun h => h.below (Below.alloc (Below.refl W.heap.size W) (Nat.le_refl _) _)) (hx0 q0), fun q0 => (fun h => h.on (Below.alloc (Below.refl W.heap.size W) (Nat.le_refl _) _)) (hx1 q0), hx2, hx3, hx4, hx5, hx6, hx7, hx8⟩
            · -- operation 13
              cases ho
              have hp1 := hdep ⟨1, .data⟩ (by simp) rfl
              have hp10 := hdep ⟨10, .chain⟩ (by simp) rfl
              have hp7 := hx6 hp10
              have hp4 := hx7 hp7
              obtain rfl := hh1 hp1
              obtain ⟨g9, rfl, y1, y2, y3, hl9⟩ := hh12 (hdep ⟨12, .data⟩ (by simp) rfl) hL
              refine step_append1 rfl (.tmp 38) (.tmp 49) 25 rfl w.heap.size 69 j0 (.agg #[.int .i64 0, .int .i64 0, .int .i64 0]) 3 24 Try.underlying25 hj jz0 jz1 jz2 rfl (by decide) _ nV _ rfl (hx0 hL).r ⟨g9, 0, none⟩ 1 [.int .i64 y1, .int .i64 y2, .int .i64 y3] rfl rfl hl9.cells (by simp [Value.oneCell']) (by unfold maxLen; omega) (by omega) (hx1 trivial).grown.size ?_
              intro g6 c6 w9 hg6 hown hgr
              exact hK _ _ ⟨_, _, _, _, _, _, _, _, _, _, _, _, _, _, _, rfl, hB.trans ((UpW.grown hgr).mono hB.size), hh0, hh1, hh2, (fun _ q0 => nomatch q0), hh4, hh5, (fun _ q0 => nomatch q0), hh7, hh8, (fun _ q0 => nomatch q0), hh10, hh11, (fun _ q0 => nomatch q0), fun _ => fun _ => ⟨y1, y2, y3, g6, c6, rfl, (hx0 hL).appR hgr (by rw [flatPump_append]; exact hown)⟩, hh14, (fun q0 => absurd (hx8 q0) (by rw [hL]; simp)), (fun q0 => nomatch q0), fun _ => (hx1 trivial).row hgr (hx0 hL).r hgl, fun _ => hp1, fun _ => hp4, fun _ => hp7, fun _ => hp10, hx6, hx7, fun _ => rfl⟩
            · -- operation 14
              cases ho
              go_simp
              exact hK _ _ ⟨_, _, _, _, _, _, _, _, _, _, _, _, _, _, _, rfl, hB, hh0, hh1, hh2, hh3, hh4, hh5, hh6, hh7, hh8, hh9, hh10, hh11, hh12, hh13, fun _ => rfl, hh15, hx0, hx1, hx2, hx3, hx4, hx5, hx6, hx7, hx8⟩
            · -- operation 15
              cases ho
              have hdT := hdep ⟨13, .data⟩ (by simp) rfl
              obtain ⟨y1, y2, y3, g6, c6, rfl, hw9⟩ := hh13 hdT hL
              obtain rfl := hh14 (hdep ⟨14, .data⟩ (by simp) rfl)
              have fz := hw9.fz 4
              have cc := hw9.c4
              go_simp
              exact hK _ _ ⟨_, _, _, _, _, _, _, _, _, _, _, _, _, _, _, rfl, hB.set _ _, hh0, (fun _ => rfl), hh2, (fun _ q0 => absurd (hdT.symm.trans q0) (by simp)), hh4, hh5, (fun _ q0 => absurd (hdT.symm.trans q0) (by simp)), hh7, hh8, (fun _ q0 => absurd (hdT.symm.trans q0) (by simp)), hh10, hh11, (fun _ q0 => absurd (hdT.symm.trans q0) (by simp)), (fun _ q0 => nomatch q0), hh14, fun _ => ⟨y1, y2, y3, g6, c6, rfl, hw9.putR hne03⟩, (fun q0 => absurd (hdT.symm.trans q0) (by simp)), fun _ => (hx1 trivial).own (grown_setW _ _ _ _) hgb3 (by omega), hx2, hx3, hx4, hx5, hx6, hx7, fun _ => hdT⟩
          intro Fl9 ac W hJ hall
          obtain ⟨x37, x38, x39, x40, x41, x42, x43, x44, x45, x46, x47, x48, x49, x50, x51, rfl, hB, hh0, hh1, hh2, hh3, hh4, hh5, hh6, hh7, hh8, hh9, hh10, hh11, hh12, hh13, hh14, hh15, -, hcs9, -, -, -, -, -, -, -⟩ := hJ
          obtain rfl := hh0 (hall 0 (by decide))
          obtain rfl := hh1 (hall 1 (by decide))
          obtain rfl := hh2 (hall 2 (by decide))
          obtain rfl := hh5 (hall 5 (by decide))
          obtain rfl := hh8 (hall 8 (by decide))
          obtain rfl := hh14 (hall 14 (by decide))
          obtain - := hh3 (hall 3 (by decide))
          obtain - := hh4 (hall 4 (by decide))
          obtain - := hh6 (hall 6 (by decide))
          obtain - := hh7 (hall 7 (by decide))
          obtain - := hh9 (hall 9 (by decide))
          obtain - := hh10 (hall 10 (by decide))
          obtain - := hh11 (hall 11 (by decide))
          obtain - := hh12 (hall 12 (by decide))
          obtain - := hh13 (hall 13 (by decide))
          obtain ⟨y1, y2, y3, g6, c6, rfl, P7⟩ := hh15 (hall 15 (by decide))
          clear hall
          have S7 : Hid (CurStep w W g A n c p (D9 + 6)) := Lib.hid ((hcs9 trivial).mono (by have := bN (Fl9 4); have := bN (Fl9 7); have := bN (Fl9 10); omega))
          have P7 := Lib.hid P7
          have hV5 : (V ++ [(⟨y1, y2, y3⟩ : TPump)]).length = nV + 1 := by rw [List.length_append, hVl]; rfl
          clear hcs9 hB
          go_wp2_with fail
          go_roundw
          case rel => exact ⟨k, _, _, _, _, by omega, by go_num, by omega, hV5, P7, Lib.hid (S7.out.mono (by have := HD9.out; push_cast at *; omega))⟩
          case measure => simp [intOf]
        · obtain rfl : k = 0 := by omega
          go_wp2_with fail
          obtain ⟨r5, r50, r51, H5⟩ := S6.out.at H.out
          refine (pick_at H5 (by omega) 60 (by omega)).mono ?_
          rintro e w20 ⟨b, b80, b81, rfl, hs⟩
          have S20 := Lib.hid ((S6.out.then hs r50 r51).mono (d' := 40) (by omega))
          have P20 := Lib.hid (P6.out.kept hs.grown hgl hgb hgb3)
          clear hs S6 P6 H5 r50 r51 b80 b81
          by_cases n0 : b = 0
          · skip
            subst n0
            obtain ⟨r5, r50, r51, H5⟩ := S20.out.at H.out
            go_wp2_with fail
            refine (among_new H5 (by omega) [-1, 200] 2 rfl (by omega) (by omega) w20.heap.size rfl).mono ?_
            rintro e w21 ⟨z, -, rfl, hs⟩
            have S21 := Lib.hid (S20.out.then hs r50 r51)
            have P21 := Lib.hid (P20.out.kept hs.grown hgl hgb hgb3)
            clear hs S20 P20 H5 r50 r51
            have x0 := P21.out.c0
            have zf := P21.out.fz 0
            have SX := Lib.hid (S21.out.own (grown_setW w21 b3 0 (.int .i64 z)) hgb3 hb3g)
            have PX := Lib.hid (P21.out.put0 hne03 z)
            clear S21
            have x0 := PX.out.c0
            have x1 := PX.out.c1
            have x2 := PX.out.c2
            have x3 := PX.out.c3
            have x4 := PX.out.c4
            have RS := Lib.hid (show BoxT _ b0 0 0 0 none 0 0 none 0 0 from PX.out.res)
            have y0 := RS.out.c0
            have y1 := RS.out.c1
            have y2 := RS.out.c2
            have y3 := RS.out.c3
            have y4 := RS.out.c4
            have zz0 := RS.out.fz 0
            have zz1 := RS.out.fz 1
            have zz2 := RS.out.fz 2
            have zz3 := RS.out.fz 3
            have zz4 := RS.out.fz 4
            go_wp2_with fail
            refine bodyPost_ret (results_row0 rfl _ _ b0 [_, _, _, _, _] _ rfl (BoxT.rangeAt (BoxT.sets RS.out _ _ _ _ _ _ _ _ _)) Try.underlying27 rfl (by kernel_rfl)) rfl ?_
            exact ⟨_, _, _, _, _, _, _, _, _, _, _, rfl, (by omega), (by omega), hZl, hVl, (PX.out.done _ _ _ _ _).1, (PX.out.done _ _ _ _ _).2, (SX.out.sets5 _ _ _ _ _ hgb hbg).mono (by omega)⟩
          · by_cases n1 : b = 1
            · skip
              subst n1
              obtain ⟨r5, r50, r51, H5⟩ := S20.out.at H.out
              go_wp2_with fail
              refine (among_new H5 (by omega) [99, 501] 2 rfl (by omega) (by omega) w20.heap.size rfl).mono ?_
              rintro e w21 ⟨z, -, rfl, hs⟩
              have S21 := Lib.hid (S20.out.then hs r50 r51)
              have P21 := Lib.hid (P20.out.kept hs.grown hgl hgb hgb3)
              clear hs S20 P20 H5 r50 r51
              have x1 := P21.out.c1
              have zf := P21.out.fz 1
              have SX := Lib.hid (S21.out.own (grown_setW w21 b3 1 (.int .i64 z)) hgb3 hb3g)
              have PX := Lib.hid (P21.out.put1 hne03 z)
              clear S21
              have x0 := PX.out.c0
              have x1 := PX.out.c1
              have x2 := PX.out.c2
              have x3 := PX.out.c3
              have x4 := PX.out.c4
              have RS := Lib.hid (show BoxT _ b0 0 0 0 none 0 0 none 0 0 from PX.out.res)
              have y0 := RS.out.c0
              have y1 := RS.out.c1
              have y2 := RS.out.c2
              have y3 := RS.out.c3
              have y4 := RS.out.c4
              have zz0 := RS.out.fz 0
              have zz1 := RS.out.fz 1
              have zz2 := RS.out.fz 2
              have zz3 := RS.out.fz 3
              have zz4 := RS.out.fz 4
              go_wp2_with fail
              refine bodyPost_ret (results_row0 rfl _ _ b0 [_, _, _, _, _] _ rfl (BoxT.rangeAt (BoxT.sets RS.out _ _ _ _ _ _ _ _ _)) Try.underlying27 rfl (by kernel_rfl)) rfl ?_
              exact ⟨_, _, _, _, _, _, _, _, _, _, _, rfl, (by omega), (by omega), hZl, hVl, (PX.out.done _ _ _ _ _).1, (PX.out.done _ _ _ _ _).2, (SX.out.sets5 _ _ _ _ _ hgb hbg).mono (by omega)⟩
            · by_cases n2 : b = 2
              · subst n2
                have S6 := S20
                have P6 := P20
                obtain ⟨D9, hD9⟩ : ∃ d : Int, d = 40 := ⟨_, rfl⟩
                rw [← hD9] at S6
                clear S20 P20
                go_wp2_with fail
                refine region_inv (by kernel_rfl) (by kernel_rfl) (fun Fl9 ac W => ∃ (x68 x69 x70 x71 x72 x73 : Value), ac = { tmps := #[Value.pointer (some ⟨g, 0, none⟩), undef, Value.pointer (some ⟨b0, 0, none⟩), Value.pointer (some ⟨b3, 0, none⟩), Value.int IntKind.i64 0, Value.int IntKind.i64 0, Value.pointer (some ⟨g, 0, none⟩), Value.slice (some ⟨b0 + 1, 0, none⟩) 3 3, Value.int IntKind.i64 a1, Value.pointer (some ⟨g, 0, none⟩), Value.slice (some ⟨w2.heap.size, 0, none⟩) 4 4, Value.int IntKind.i64 a3, Value.pointer (some ⟨g, 0, none⟩), Value.slice (some ⟨w3.heap.size, 0, none⟩) 4 4, Value.int IntKind.i64 a2, Value.agg #[Value.int IntKind.i64 a1, Value.int IntKind.i64 a2, Value.int IntKind.i64 a3, Value.slice none 0 0, Value.slice none 0 0], Value.pointer (some ⟨g, 0, none⟩), Value.int IntKind.i64 (k6 : Int), Value.int IntKind.i64 (1 + (k6 : Int)), Value.int IntKind.i64 0, Value.bool false, u21, u22, u23, u24, u25, u26, u27, u28, u29, u30, Value.pointer (some ⟨g, 0, none⟩), Value.int IntKind.i64 (k7 : Int), Value.int IntKind.i64 0, Value.bool false, u35, u36, u37, u38, u39, u40, u41, u42, u43, u44, u45, u46, u47, u48, u49, u50, u51, Value.pointer (some ⟨g, 0, none⟩), Value.int IntKind.i64 2, Value.bool false, Value.bool false, undef, undef, undef, undef, Value.bool false, Value.bool false, undef, undef, undef, undef, Value.bool true, Value.bool true, x68, x69, x70, x71, x72, x73, undef, undef, undef, undef, undef, undef, undef, undef, undef, undef, undef, undef, undef, undef, undef, undef, undef, undef, undef, undef, undef, undef, undef, undef, undef, undef, undef, undef, undef, undef, undef], defers := [] } ∧ UpW w20.heap.size w20 W ∧
                      (Fl9 0 = true → x68 = .pointer (some ⟨b3, 3, none⟩)) ∧
                      (Fl9 1 = true → x69 = .slice (some ⟨g1, 0, none⟩) nZ c1) ∧
                      (Fl9 2 = true → x70 = .pointer (some ⟨g, 0, none⟩)) ∧
                      (Fl9 3 = true → Fl9 6 = false → ∃ g9, x71 = .slice (some ⟨g9, 0, none⟩) 2 2 ∧ LstS W g g9 (([51, (-51)] : List Int).map (.int .i64))) ∧
                      (Fl9 4 = true → ∃ z9 : Int, x72 = .int .i64 z9 ∧ z9 ∈ ([51, -51] : List Int)) ∧
                      (Fl9 5 = true → x73 = .pointer (some ⟨g1, 0, none⟩)) ∧
                      (Fl9 6 = true → ∃ z9 : Int, TkS w.heap.size W b0 b3 a1 a2 a3 (.slice (some ⟨g1, 0, none⟩) nZ c1) (.slice A2 nV c2) (.slice (some ⟨g1, 0, none⟩) nZ c1) (.slice A2 nV c2) nZ nV (Z.set 0 z9) V) ∧
                      (Fl9 6 = false → TkS w.heap.size W b0 b3 a1 a2 a3 (.slice (some ⟨g1, 0, none⟩) nZ c1) (.slice A2 nV c2) (.slice (some ⟨g1, 0, none⟩) nZ c1) (.slice A2 nV c2) nZ nV Z V) ∧
                      (True → CurStep w W g A n c p (D9 + 2 * (((Fl9 4).toNat : Int)))) ∧
                      (Fl9 6 = true → Fl9 1 = true) ∧
                      (Fl9 6 = true → Fl9 4 = true)) ?_ ?_ ?_
                · exact ⟨_, _, _, _, _, _, rfl, UpW.of ((Drawn.one w20 1).below _), (fun q0 => nomatch q0), (fun q0 => nomatch q0), (fun q0 => nomatch q0), (fun q0 => nomatch q0), (fun q0 => nomatch q0), (fun q0 => nomatch q0), (fun q0 => nomatch q0), (fun _ => P6.out.below ((Drawn.one w20 1).below _)), (fun _ => (S6.out.on ((Drawn.one w20 1).below _)).mono (by simp)), (fun q0 => nomatch q0), (fun q0 => nomatch q0)⟩
                · intro Fl9 ac W i9 o9 hJ ho hL hdep K9 hK
                  obtain ⟨x68, x69, x70, x71, x72, x73, rfl, hB, hh0, hh1, hh2, hh3, hh4, hh5, hh6, hx0, hx1, hx2, hx3⟩ := hJ
                  have hi9 : i9 < 7 := by simpa using (Array.getElem?_eq_some_iff.1 ho).1
                  obtain rfl | rfl | rfl | rfl | rfl | rfl | rfl : i9 = 0 ∨ i9 = 1 ∨ i9 = 2 ∨ i9 = 3 ∨ i9 = 4 ∨ i9 = 5 ∨ i9 = 6 := by omega
                  · -- operation 0
                    cases ho
                    go_simp
                    exact hK _ _ ⟨_, _, _, _, _, _, rfl, hB, fun _ => rfl, hh1, hh2, hh3, hh4, hh5, hh6, hx0, hx1, hx2, hx3⟩
                  · -- operation 1
                    cases ho
                    obtain rfl := hh0 (hdep ⟨0, .data⟩ (by simp) rfl)
                    have hT : Fl9 6 = false := Bool.eq_false_iff.2 (fun h => absurd (hx2 h) (by rw [hL]; simp))
                    have C9 := (hx0 hT).c3
                    go_simp
                    exact hK _ _ ⟨_, _, _, _, _, _, rfl, hB, hh0, fun _ => rfl, hh2, hh3, hh4, hh5, hh6, hx0, hx1, fun _ => rfl, hx3⟩
                  · -- operation 2
                    cases ho
                    go_simp
                    exact hK _ _ ⟨_, _, _, _, _, _, rfl, hB, hh0, hh1, fun _ => rfl, hh3, hh4, hh5, hh6, hx0, hx1, hx2, hx3⟩
                  · -- operation 3
                    cases ho
                    go_simp
                    exact hK _ _ ⟨_, _, _, _, _, _, rfl, hB.trans ((UpW.of (Below.alloc (Below.refl W.heap.size W) (Nat.le_refl _) _)).mono hB.size), hh0, hh1, hh2, fun _ _ => ⟨_, rfl, LstS.new W _ _ (hx1 trivial).lt⟩, hh4, hh5, fun q0 => (fun ⟨z9, h⟩ => ⟨z9, h.below (Below.alloc (Below.refl W.heap.size W) (Nat.le_refl _) _)⟩) (hh6 q0), fun q0 => (fun h => h.below (Below.alloc (Below.refl W.heap.size W) (Nat.le_refl _) _)) (hx0 q0), fun q0 => (fun h => h.on (Below.alloc (Below.refl W.heap.size W) (Nat.le_refl _) _)) (hx1 q0), hx2, hx3⟩
                  · -- operation 4
                    cases ho
                    have hT : Fl9 6 = false := Bool.eq_false_iff.2 (fun h => absurd (hx3 h) (by rw [hL]; simp))
                    have hbn4 := bN (Fl9 4)
                    obtain ⟨g9, rfl, hl9⟩ := hh3 (hdep ⟨3, .data⟩ (by simp) rfl) hT
                    obtain rfl := hh2 (hdep ⟨2, .data⟩ (by simp) rfl)
                    obtain ⟨q9, q90, q91, H9⟩ := (hx1 trivial).at H.out
                    go_simp
                    refine (amongN_at H9 (by omega) g9 2 2 [51, -51] rfl (by omega) (by omega) hl9.nums hl9.ne).mono ?_
                    rintro e w9 ⟨z9, hz9, rfl, hs9⟩
                    exact hK _ _ ⟨_, _, _, _, _, _, rfl, hB.trans ((UpW.grown hs9.grown).mono hB.size), hh0, hh1, hh2, (fun q0 r0 => (fun ⟨g9, e, h⟩ => ⟨g9, e, h.kept hs9.grown⟩) (hh3 q0 r0)), fun _ => ⟨_, rfl, hz9⟩, hh5, (fun q0 => (fun ⟨z9, h⟩ => ⟨z9, h.kept hs9.grown (by omega) hgb hgb3⟩) (hh6 q0)), fun q0 => (hx0 q0).kept hs9.grown (by omega) hgb hgb3, fun _ => ((hx1 trivial).then hs9 q90 q91).mono (by simp [hL] <;> omega), hx2, fun _ => rfl⟩
                  · -- operation 5
                    cases ho
                    obtain rfl := hh1 (hdep ⟨1, .data⟩ (by simp) rfl)
                    have hn9 : (0 : Int) < (nZ : Int) := by omega
                    go_simp
                    exact hK _ _ ⟨_, _, _, _, _, _, rfl, hB, hh0, hh1, hh2, hh3, hh4, fun _ => rfl, hh6, hx0, hx1, hx2, hx3⟩
                  · -- operation 6
                    cases ho
                    have hp1 := hdep ⟨1, .phase⟩ (by simp) rfl
                    have hp4 := hdep ⟨4, .phase⟩ (by simp) rfl
                    obtain ⟨z66, rfl, hz66⟩ := hh4 (hdep ⟨4, .data⟩ (by simp) rfl)
                    obtain rfl := hh5 (hdep ⟨5, .data⟩ (by simp) rfl)
                    have hst := (hx0 hL).setZ z66
                    have ce := (hx0 hL).z.cellAt 0 (by omega)
                    have cf := (hx0 hL).z.frozenAt 0
                    go_simp
                    exact hK _ _ ⟨_, _, _, _, _, _, rfl, hB.trans ((UpW.grown hst.2).mono hB.size), hh0, (fun _ => rfl), hh2, (fun _ q0 => nomatch q0), hh4, hh5, fun _ => ⟨z66, hst.1⟩, (fun q0 => nomatch q0), fun _ => (hx1 trivial).own hst.2 hg1 (by omega), fun _ => hp1, fun _ => hp4⟩
                intro Fl9 ac W hJ hall
                obtain ⟨x68, x69, x70, x71, x72, x73, rfl, hB, hh0, hh1, hh2, hh3, hh4, hh5, hh6, -, hcs9, -, -⟩ := hJ
                obtain rfl := hh0 (hall 0 (by decide))
                obtain rfl := hh1 (hall 1 (by decide))
                obtain rfl := hh2 (hall 2 (by decide))
                obtain rfl := hh5 (hall 5 (by decide))
                obtain - := hh3 (hall 3 (by decide))
                obtain - := hh4 (hall 4 (by decide))
                obtain ⟨z9, P7⟩ := hh6 (hall 6 (by decide))
                clear hall
                have S7 : Hid (CurStep w W g A n c p (D9 + 2)) := Lib.hid ((hcs9 trivial).mono (by have := bN (Fl9 4); omega))
                have P7 := Lib.hid P7
                have hZ5 : (Z.set 0 z9).length = nZ := by rw [List.length_set, hZl]
                clear hcs9 hB
                have x0 := P7.out.c0
                have x1 := P7.out.c1
                have x2 := P7.out.c2
                have x3 := P7.out.c3
                have x4 := P7.out.c4
                have RS := Lib.hid (show BoxT _ b0 0 0 0 none 0 0 none 0 0 from P7.out.res)
                have y0 := RS.out.c0
                have y1 := RS.out.c1
                have y2 := RS.out.c2
                have y3 := RS.out.c3
                have y4 := RS.out.c4
                have zz0 := RS.out.fz 0
                have zz1 := RS.out.fz 1
                have zz2 := RS.out.fz 2
                have zz3 := RS.out.fz 3
                have zz4 := RS.out.fz 4
                go_wp2_with fail
                refine bodyPost_ret (results_row0 rfl _ _ b0 [_, _, _, _, _] _ rfl (BoxT.rangeAt (BoxT.sets RS.out _ _ _ _ _ _ _ _ _)) Try.underlying27 rfl (by kernel_rfl)) rfl ?_
                exact ⟨_, _, _, _, _, _, _, _, _, _, _, rfl, (by omega), (by omega), hZ5, hVl, (P7.out.done _ _ _ _ _).1, (P7.out.done _ _ _ _ _).2, (S7.out.sets5 _ _ _ _ _ hgb hbg).mono (by omega)⟩
              · by_cases n3 : b = 3
                · subst n3
                  have x3 := P20.out.c3
                  have zf := P20.out.fz 3
                  have PA := Lib.hid (P20.out.below (below1x w20 (.cells #[.int .i64 0, .int .i64 0, .int .i64 0, .int .i64 0, .int .i64 0] 3)))
                  have SA := Lib.hid (S20.out.alloc (.cells #[.int .i64 0, .int .i64 0, .int .i64 0, .int .i64 0, .int .i64 0] 3))
                  have hwz := S20.out.grown.size
                  clear S20 P20
                  go_wp2_with (at_builtin; go_loud (refine wpList_append_own _ rfl (.tmp 77) (.tmp 78) 24 rfl w.heap.size 3 i0 (.int .i64 0) 1 8 Try.underlying24 hi hz0 hz1 hz2 rfl (by decide) (.slice (some ⟨g1, 0, none⟩) nZ c1) nZ _ rfl PA.out.z ⟨w20.heap.size, 0, none⟩ 5 5 [.int .i64 0, .int .i64 0, .int .i64 0, .int .i64 0, .int .i64 0] rfl rfl (cell_five_new _ _ _) (by simp [Value.oneCell']) (by unfold maxLen; omega) (by omega) (by simp; omega) ?_; intro v1 w1 hown1 hgrow1 hnil1; obtain ⟨g2, c9, rfl, hg2⟩ := own_some hown1 (fun e => nomatch (hnil1.1 e).1); have S21 := Lib.hid (SA.out.row hgrow1 PA.out.z hgl); have ho21 : w1.ownsRow w.heap.size 3 1 (.slice (some ⟨g2, 0, none⟩) (nZ + 5) c9) (nZ + 5) ((Z ++ [0, 0, 0, 0, 0]).map (.int .i64)) := (by rw [List.map_append]; exact hown1); have P21 := Lib.hid (PA.out.appZ hgrow1 ho21); have PX := Lib.hid (P21.out.putZ hne03); have SX := Lib.hid (S21.out.own (grown_setW _ b3 3 (.slice (some ⟨g2, 0, none⟩) (nZ + 5) c9)) hgb3 hb3g); have cc := P21.out.c3; have ff := P21.out.fz 3; clear x3 zf hown1 hgrow1 hnil1 PA SA P21 S21; have x0 := PX.out.c0; have x1 := PX.out.c1; have x2 := PX.out.c2; have x3 := PX.out.c3; have x4 := PX.out.c4; have RS := Lib.hid (show BoxT _ b0 0 0 0 none 0 0 none 0 0 from PX.out.res); have y0 := RS.out.c0; have y1 := RS.out.c1; have y2 := RS.out.c2; have y3 := RS.out.c3; have y4 := RS.out.c4; have zz0 := RS.out.fz 0; have zz1 := RS.out.fz 1; have zz2 := RS.out.fz 2; have zz3 := RS.out.fz 3; have zz4 := RS.out.fz 4))
                  refine bodyPost_ret (results_row0 rfl _ _ b0 [_, _, _, _, _] _ rfl (BoxT.rangeAt (BoxT.sets RS.out _ _ _ _ _ _ _ _ _)) Try.underlying27 rfl (by kernel_rfl)) rfl ?_
                  exact ⟨_, _, _, _, _, _, _, _, _, _, _, rfl, (by omega), (by omega), (by rw [List.length_append, hZl]; rfl), hVl, (PX.out.done _ _ _ _ _).1, (PX.out.done _ _ _ _ _).2, (SX.out.sets5 _ _ _ _ _ hgb hbg).mono (by omega)⟩
                · by_cases n4 : b = 4
                  · subst n4
                    have S6 := S20
                    have P6 := P20
                    obtain ⟨D9, hD9⟩ : ∃ d : Int, d = 40 := ⟨_, rfl⟩
                    rw [← hD9] at S6
                    clear S20 P20
                    go_wp2_with fail
                    refine region_inv (by kernel_rfl) (by kernel_rfl) (fun Fl9 ac W => ∃ (x83 x84 x85 x86 x87 x88 x89 x90 x91 x92 x93 x94 x95 x96 x97 : Value), ac = { tmps := #[Value.pointer (some ⟨g, 0, none⟩), undef, Value.pointer (some ⟨b0, 0, none⟩), Value.pointer (some ⟨b3, 0, none⟩), Value.int IntKind.i64 0, Value.int IntKind.i64 0, Value.pointer (some ⟨g, 0, none⟩), Value.slice (some ⟨b0 + 1, 0, none⟩) 3 3, Value.int IntKind.i64 a1, Value.pointer (some ⟨g, 0, none⟩), Value.slice (some ⟨w2.heap.size, 0, none⟩) 4 4, Value.int IntKind.i64 a3, Value.pointer (some ⟨g, 0, none⟩), Value.slice (some ⟨w3.heap.size, 0, none⟩) 4 4, Value.int IntKind.i64 a2, Value.agg #[Value.int IntKind.i64 a1, Value.int IntKind.i64 a2, Value.int IntKind.i64 a3, Value.slice none 0 0, Value.slice none 0 0], Value.pointer (some ⟨g, 0, none⟩), Value.int IntKind.i64 (k6 : Int), Value.int IntKind.i64 (1 + (k6 : Int)), Value.int IntKind.i64 0, Value.bool false, u21, u22, u23, u24, u25, u26, u27, u28, u29, u30, Value.pointer (some ⟨g, 0, none⟩), Value.int IntKind.i64 (k7 : Int), Value.int IntKind.i64 0, Value.bool false, u35, u36, u37, u38, u39, u40, u41, u42, u43, u44, u45, u46, u47, u48, u49, u50, u51, Value.pointer (some ⟨g, 0, none⟩), Value.int IntKind.i64 4, Value.bool false, Value.bool false, undef, undef, undef, undef, Value.bool false, Value.bool false, undef, undef, undef, undef, Value.bool false, Value.bool false, undef, undef, undef, undef, undef, undef, Value.bool false, Value.bool false, undef, undef, undef, undef, undef, Value.bool true, Value.bool true, x83, x84, x85, x86, x87, x88, x89, x90, x91, x92, x93, x94, x95, x96, x97, undef, undef, undef, undef, undef, undef, undef], defers := [] } ∧ UpW w20.heap.size w20 W ∧
                          (Fl9 0 = true → x83 = .pointer (some ⟨b3, 4, none⟩)) ∧
                          (Fl9 1 = true → x84 = .slice A2 nV c2) ∧
                          (Fl9 2 = true → x85 = .pointer (some ⟨g, 0, none⟩)) ∧
                          (Fl9 3 = true → Fl9 13 = false → ∃ g9, x86 = .slice (some ⟨g9, 0, none⟩) 3 3 ∧ LstS W g g9 (([0, 1, 51] : List Int).map (.int .i64))) ∧
                          (Fl9 4 = true → ∃ z9 : Int, x87 = .int .i64 z9 ∧ z9 ∈ ([0, 1, 51] : List Int)) ∧
                          (Fl9 5 = true → x88 = .pointer (some ⟨g, 0, none⟩)) ∧
                          (Fl9 6 = true → Fl9 13 = false → ∃ g9, x89 = .slice (some ⟨g9, 0, none⟩) 2 2 ∧ LstS W g g9 (([0, 21] : List Int).map (.int .i64))) ∧
                          (Fl9 7 = true → ∃ z9 : Int, x90 = .int .i64 z9 ∧ z9 ∈ ([0, 21] : List Int)) ∧
                          (Fl9 8 = true → x91 = .pointer (some ⟨g, 0, none⟩)) ∧
                          (Fl9 9 = true → Fl9 13 = false → ∃ g9, x92 = .slice (some ⟨g9, 0, none⟩) 2 2 ∧ LstS W g g9 (([0, 51] : List Int).map (.int .i64))) ∧
                          (Fl9 10 = true → ∃ z9 : Int, x93 = .int .i64 z9 ∧ z9 ∈ ([0, 51] : List Int)) ∧
                          (Fl9 11 = true → ∃ y1 y2 y3 : Int, x94 = .agg #[.int .i64 y1, .int .i64 y2, .int .i64 y3]) ∧
                          (Fl9 12 = true → Fl9 13 = false → ∃ g9, x95 = .slice (some ⟨g9, 0, none⟩) 1 1 ∧ ∃ y1 y2 y3 : Int, LstS W g g9 [.int .i64 y1, .int .i64 y2, .int .i64 y3]) ∧
                          (Fl9 13 = true → Fl9 15 = false → ∃ (y1 y2 y3 : Int) (g6 c6 : Nat), x96 = (.slice (some ⟨g6, 0, none⟩) (nV + 1) c6) ∧ TkS w.heap.size W b0 b3 a1 a2 a3 (.slice (some ⟨g1, 0, none⟩) nZ c1) (.slice A2 nV c2) (.slice (some ⟨g1, 0, none⟩) nZ c1) (.slice (some ⟨g6, 0, none⟩) (nV + 1) c6) nZ (nV + 1) Z (V ++ [(⟨y1, y2, y3⟩ : TPump)])) ∧
                          (Fl9 14 = true → x97 = .pointer (some ⟨b3, 4, none⟩)) ∧
                          (Fl9 15 = true → ∃ (y1 y2 y3 : Int) (g6 c6 : Nat), x96 = (.slice (some ⟨g6, 0, none⟩) (nV + 1) c6) ∧ TkS w.heap.size W b0 b3 a1 a2 a3 (.slice (some ⟨g1, 0, none⟩) nZ c1) (.slice (some ⟨g6, 0, none⟩) (nV + 1) c6) (.slice (some ⟨g1, 0, none⟩) nZ c1) (.slice (some ⟨g6, 0, none⟩) (nV + 1) c6) nZ (nV + 1) Z (V ++ [(⟨y1, y2, y3⟩ : TPump)])) ∧
                          (Fl9 13 = false → TkS w.heap.size W b0 b3 a1 a2 a3 (.slice (some ⟨g1, 0, none⟩) nZ c1) (.slice A2 nV c2) (.slice (some ⟨g1, 0, none⟩) nZ c1) (.slice A2 nV c2) nZ nV Z V) ∧
                          (True → CurStep w W g A n c p (D9 + 2 * (((Fl9 4).toNat : Int) + ((Fl9 7).toNat : Int) + ((Fl9 10).toNat : Int)))) ∧
                          (Fl9 13 = true → Fl9 1 = true) ∧
                          (Fl9 13 = true → Fl9 4 = true) ∧
                          (Fl9 13 = true → Fl9 7 = true) ∧
                          (Fl9 13 = true → Fl9 10 = true) ∧
                          (Fl9 10 = true → Fl9 7 = true) ∧
                          (Fl9 7 = true → Fl9 4 = true) ∧
                          (Fl9 15 = true → Fl9 13 = true)) ?_ ?_ ?_
                    · exact ⟨_, _, _, _, _, _, _, _, _, _, _, _, _, _, _, rfl, UpW.of ((Drawn.one w20 1).below _), (fun q0 => nomatch q0), (fun q0 => nomatch q0), (fun q0 => nomatch q0), (fun q0 => nomatch q0), (fun q0 => nomatch q0), (fun q0 => nomatch q0), (fun q0 => nomatch q0), (fun q0 => nomatch q0), (fun q0 => nomatch q0), (fun q0 => nomatch q0), (fun q0 => nomatch q0), (fun q0 => nomatch q0), (fun q0 => nomatch q0), (fun q0 => nomatch q0), (fun q0 => nomatch q0), (fun q0 => nomatch q0), (fun _ => P6.out.below ((Drawn.one w20 1).below _)), (fun _ => (S6.out.on ((Drawn.one w20 1).below _)).mono (by simp)), (fun q0 => nomatch q0), (fun q0 => nomatch q0), (fun q0 => nomatch q0), (fun q0 => nomatch q0), (fun q0 => nomatch q0), (fun q0 => nomatch q0), (fun q0 => nomatch q0)⟩
                    · intro Fl9 ac W i9 o9 hJ ho hL hdep K9 hK
                      obtain ⟨x83, x84, x85, x86, x87, x88, x89, x90, x91, x92, x93, x94, x95, x96, x97, rfl, hB, hh0, hh1, hh2, hh3, hh4, hh5, hh6, hh7, hh8, hh9, hh10, hh11, hh12, hh13, hh14, hh15, hx0, hx1, hx2, hx3, hx4, hx5, hx6, hx7, hx8⟩ := hJ
                      have hi9 : i9 < 16 := by simpa using (Array.getElem?_eq_some_iff.1 ho).1
                      obtain rfl | rfl | rfl | rfl | rfl | rfl | rfl | rfl | rfl | rfl | rfl | rfl | rfl | rfl | rfl | rfl : i9 = 0 ∨ i9 = 1 ∨ i9 = 2 ∨ i9 = 3 ∨ i9 = 4 ∨ i9 = 5 ∨ i9 = 6 ∨ i9 = 7 ∨ i9 = 8 ∨ i9 = 9 ∨ i9 = 10 ∨ i9 = 11 ∨ i9 = 12 ∨ i9 = 13 ∨ i9 = 14 ∨ i9 = 15 := by omega
                      · -- operation 0
                        cases ho
                        go_simp
                        exact hK _ _ ⟨_, _, _, _, _, _, _, _, _, _, _, _, _, _, _, rfl, hB, fun _ => rfl, hh1, hh2, hh3, hh4, hh5, hh6, hh7, hh8, hh9, hh10, hh11, hh12, hh13, hh14, hh15, hx0, hx1, hx2, hx3, hx4, hx5, hx6, hx7, hx8⟩
                      · -- operation 1
                        cases ho
                        obtain rfl := hh0 (hdep ⟨0, .data⟩ (by simp) rfl)
                        have hT : Fl9 13 = false := Bool.eq_false_iff.2 (fun h => absurd (hx2 h) (by rw [hL]; simp))
                        have C9 := (hx0 hT).c4
                        go_simp
                        exact hK _ _ ⟨_, _, _, _, _, _, _, _, _, _, _, _, _, _, _, rfl, hB, hh0, fun _ => rfl, hh2, hh3, hh4, hh5, hh6, hh7, hh8, hh9, hh10, hh11, hh12, hh13, hh14, hh15, hx0, hx1, fun _ => rfl, hx3, hx4, hx5, hx6, hx7, hx8⟩
                      · -- operation 2
                        cases ho
                        go_simp
                        exact hK _ _ ⟨_, _, _, _, _, _, _, _, _, _, _, _, _, _, _, rfl, hB, hh0, hh1, fun _ => rfl, hh3, hh4, hh5, hh6, hh7, hh8, hh9, hh10, hh11, hh12, hh13, hh14, hh15, hx0, hx1, hx2, hx3, hx4, hx5, hx6, hx7, hx8⟩
                      · -- operation 3
                        cases ho
                        go_simp
                        exact hK _ _ ⟨_, _, _, _, _, _, _, _, _, _, _, _, _, _, _, rfl, hB.trans ((UpW.of (Below.alloc (Below.refl W.heap.size W) (Nat.le_refl _) _)).mono hB.size), hh0, hh1, hh2, fun _ _ => ⟨_, rfl, LstS.new W _ _ (hx1 trivial).lt⟩, hh4, hh5, fun q0 r0 => (fun ⟨g9, e, h⟩ => ⟨g9, e, h.below (Below.alloc (Below.refl W.heap.size W) (Nat.le_refl _) _)⟩) (hh6 q0 r0), hh7, hh8, fun q0 r0 => (fun ⟨g9, e, h⟩ => ⟨g9, e, h.below (Below.alloc (Below.refl W.heap.size W) (Nat.le_refl _) _)⟩) (hh9 q0 r0), hh10, hh11, fun q0 r0 => (fun ⟨g9, e, y1, y2, y3, h⟩ => ⟨g9, e, y1, y2, y3, h.below (Below.alloc (Below.refl W.heap.size W) (Nat.le_refl _) _)⟩) (hh12 q0 r0), fun q0 r0 => (fun ⟨y1, y2, y3, g6, c6, e, h⟩ => ⟨y1, y2, y3, g6, c6, e, h.below (Below.alloc (Below.refl W.heap.size W) (Nat.le_refl _) _)⟩) (hh13 q0 r0), hh14, fun q0 => (fun ⟨y1, y2, y3, g6, c6, e, h⟩ => ⟨y1, y2, y3, g6, c6, e, h.below (Below.alloc (Below.refl W.heap.size W) (Nat.le_refl _) _)⟩) (hh15 q0), fun q0 => (fun h => h.below (Below.alloc (Below.refl W.heap.size W) (Nat.le_refl _) _)) (hx0 q0), fun q0 => (fun h => h.on (Below.alloc (Below.refl W.heap.size W) (Nat.le_refl _) _)) (hx1 q0), hx2, hx3, hx4, hx5, hx6, hx7, hx8⟩
                      · -- operation 4
                        cases ho
                        have hT : Fl9 13 = false := Bool.eq_false_iff.2 (fun h => absurd (hx3 h) (by rw [hL]; simp))
                        have hbn4 := bN (Fl9 4)
                        have hbn7 := bN (Fl9 7)
                        have hbn10 := bN (Fl9 10)
                        obtain ⟨g9, rfl, hl9⟩ := hh3 (hdep ⟨3, .data⟩ (by simp) rfl) hT
                        obtain rfl := hh2 (hdep ⟨2, .data⟩ (by simp) rfl)
                        obtain ⟨q9, q90, q91, H9⟩ := (hx1 trivial).at H.out
                        go_simp
                        refine (amongN_at H9 (by omega) g9 3 3 [0, 1, 51] rfl (by omega) (by omega) hl9.nums hl9.ne).mono ?_
                        rintro e w9 ⟨z9, hz9, rfl, hs9⟩
                        exact hK _ _ ⟨_, _, _, _, _, _, _, _, _, _, _, _, _, _, _, rfl, hB.trans ((UpW.grown hs9.grown).mono hB.size), hh0, hh1, hh2, (fun q0 r0 => (fun ⟨g9, e, h⟩ => ⟨g9, e, h.kept hs9.grown⟩) (hh3 q0 r0)), fun _ => ⟨_, rfl, hz9⟩, hh5, (fun q0 r0 => (fun ⟨g9, e, h⟩ => ⟨g9, e, h.kept hs9.grown⟩) (hh6 q0 r0)), hh7, hh8, (fun q0 r0 => (fun ⟨g9, e, h⟩ => ⟨g9, e, h.kept hs9.grown⟩) (hh9 q0 r0)), hh10, hh11, (fun q0 r0 => (fun ⟨g9, e, y1, y2, y3, h⟩ => ⟨g9, e, y1, y2, y3, h.kept hs9.grown⟩) (hh12 q0 r0)), (fun q0 r0 => (fun ⟨y1, y2, y3, g6, c6, e, h⟩ => ⟨y1, y2, y3, g6, c6, e, h.kept hs9.grown (by omega) hgb hgb3⟩) (hh13 q0 r0)), hh14, (fun q0 => (fun ⟨y1, y2, y3, g6, c6, e, h⟩ => ⟨y1, y2, y3, g6, c6, e, h.kept hs9.grown (by omega) hgb hgb3⟩) (hh15 q0)), fun q0 => (hx0 q0).kept hs9.grown (by omega) hgb hgb3, fun _ => ((hx1 trivial).then hs9 q90 q91).mono (by simp [hL] <;> omega), hx2, fun _ => rfl, hx4, hx5, hx6, fun _ => rfl, hx8⟩
                      · -- operation 5
                        cases ho
                        go_simp
                        exact hK _ _ ⟨_, _, _, _, _, _, _, _, _, _, _, _, _, _, _, rfl, hB, hh0, hh1, hh2, hh3, hh4, fun _ => rfl, hh6, hh7, hh8, hh9, hh10, hh11, hh12, hh13, hh14, hh15, hx0, hx1, hx2, hx3, hx4, hx5, hx6, hx7, hx8⟩
                      · -- operation 6
                        cases ho
                        go_simp
                        exact hK _ _ ⟨_, _, _, _, _, _, _, _, _, _, _, _, _, _, _, rfl, hB.trans ((UpW.of (Below.alloc (Below.refl W.heap.size W) (Nat.le_refl _) _)).mono hB.size), hh0, hh1, hh2, fun q0 r0 => (fun ⟨g9, e, h⟩ => ⟨g9, e, h.below (Below.alloc (Below.refl W.heap.size W) (Nat.le_refl _) _)⟩) (hh3 q0 r0), hh4, hh5, fun _ _ => ⟨_, rfl, LstS.new W _ _ (hx1 trivial).lt⟩, hh7, hh8, fun q0 r0 => (fun ⟨g9, e, h⟩ => ⟨g9, e, h.below (Below.alloc (Below.refl W.heap.size W) (Nat.le_refl _) _)⟩) (hh9 q0 r0), hh10, hh11, fun q0 r0 => (fun ⟨g9, e, y1, y2, y3, h⟩ => ⟨g9, e, y1, y2, y3, h.below (Below.alloc (Below.refl W.heap.size W) (Nat.le_refl _) _)⟩) (hh12 q0 r0), fun q0 r0 => (fun ⟨y1, y2, y3, g6, c6, e, h⟩ => ⟨y1, y2, y3, g6, c6, e, h.below (Below.alloc (Below.refl W.heap.size W) (Nat.le_refl _) _)⟩) (hh13 q0 r0), hh14, fun q0 => (fun ⟨y1, y2, y3, g6, c6, e, h⟩ => ⟨y1, y2, y3, g6, c6, e, h.below (Below.alloc (Below.refl W.heap.size W) (Nat.le_refl _) _)⟩) (hh15 q0), fun q0 => (fun h => h.below (Below.alloc (Below.refl W.heap.size W) (Nat.le_refl _) _)) (hx0 q0), fun q0 => (fun h => h.on (Below.alloc (Below.refl W.heap.size W) (Nat.le_refl _) _)) (hx1 q0), hx2, hx3, hx4, hx5, hx6, hx7, hx8⟩
                      · -- operation 7
                        cases ho
                        have hT : Fl9 13 = false := Bool.eq_false_iff.2 (fun h => absurd (hx4 h) (by rw [hL]; simp))
                        have hbn4 := bN (Fl9 4)
                        have hbn7 := bN (Fl9 7)
                        have hbn10 := bN (Fl9 10)
                        obtain ⟨g9, rfl, hl9⟩ := hh6 (hdep ⟨6, .data⟩ (by simp) rfl) hT
                        obtain rfl := hh5 (hdep ⟨5, .data⟩ (by simp) rfl)
                        obtain ⟨q9, q90, q91, H9⟩ := (hx1 trivial).at H.out
                        go_simp
                        refine (amongN_at H9 (by omega) g9 2 2 [0, 21] rfl (by omega) (by omega) hl9.nums hl9.ne).mono ?_
                        rintro e w9 ⟨z9, hz9, rfl, hs9⟩
                        exact hK _ _ ⟨_, _, _, _, _, _, _, _, _, _, _, _, _, _, _, rfl, hB.trans ((UpW.grown hs9.grown).mono hB.size), hh0, hh1, hh2, (fun q0 r0 => (fun ⟨g9, e, h⟩ => ⟨g9, e, h.kept hs9.grown⟩) (hh3 q0 r0)), hh4, hh5, (fun q0 r0 => (fun ⟨g9, e, h⟩ => ⟨g9, e, h.kept hs9.grown⟩) (hh6 q0 r0)), fun _ => ⟨_, rfl, hz9⟩, hh8, (fun q0 r0 => (fun ⟨g9, e, h⟩ => ⟨g9, e, h.kept hs9.grown⟩) (hh9 q0 r0)), hh10, hh11, (fun q0 r0 => (fun ⟨g9, e, y1, y2, y3, h⟩ => ⟨g9, e, y1, y2, y3, h.kept hs9.grown⟩) (hh12 q0 r0)), (fun q0 r0 => (fun ⟨y1, y2, y3, g6, c6, e, h⟩ => ⟨y1, y2, y3, g6, c6, e, h.kept hs9.grown (by omega) hgb hgb3⟩) (hh13 q0 r0)), hh14, (fun q0 => (fun ⟨y1, y2, y3, g6, c6, e, h⟩ => ⟨y1, y2, y3, g6, c6, e, h.kept hs9.grown (by omega) hgb hgb3⟩) (hh15 q0)), fun q0 => (hx0 q0).kept hs9.grown (by omega) hgb hgb3, fun _ => ((hx1 trivial).then hs9 q90 q91).mono (by simp [hL] <;> omega), hx2, hx3, fun _ => rfl, hx5, fun _ => rfl, fun _ => hdep ⟨4, .chain⟩ (by simp) rfl, hx8⟩
                      · -- operation 8
                        cases ho
                        go_simp
                        exact hK _ _ ⟨_, _, _, _, _, _, _, _, _, _, _, _, _, _, _, rfl, hB, hh0, hh1, hh2, hh3, hh4, hh5, hh6, hh7, fun _ => rfl, hh9, hh10, hh11, hh12, hh13, hh14, hh15, hx0, hx1, hx2, hx3, hx4, hx5, hx6, hx7, hx8⟩
                      · -- operation 9
                        cases ho
                        go_simp
                        exact hK _ _ ⟨_, _, _, _, _, _, _, _, _, _, _, _, _, _, _, rfl, hB.trans ((UpW.of (Below.alloc (Below.refl W.heap.size W) (Nat.le_refl _) _)).mono hB.size), hh0, hh1, hh2, fun q0 r0 => (fun ⟨g9, e, h⟩ => ⟨g9, e, h.below (Below.alloc (Below.refl W.heap.size W) (Nat.le_refl _) _)⟩) (hh3 q0 r0), hh4, hh5, fun q0 r0 => (fun ⟨g9, e, h⟩ => ⟨g9, e, h.below (Below.alloc (Below.refl W.heap.size W) (Nat.le_refl _) _)⟩) (hh6 q0 r0), hh7, hh8, fun _ _ => ⟨_, rfl, LstS.new W _ _ (hx1 trivial).lt⟩, hh10, hh11, fun q0 r0 => (fun ⟨g9, e, y1, y2, y3, h⟩ => ⟨g9, e, y1, y2, y3, h.below (Below.alloc (Below.refl W.heap.size W) (Nat.le_refl _) _)⟩) (hh12 q0 r0), fun q0 r0 => (fun ⟨y1, y2, y3, g6, c6, e, h⟩ => ⟨y1, y2, y3, g6, c6, e, h.below (Below.alloc (Below.refl W.heap.size W) (Nat.le_refl _) _)⟩) (hh13 q0 r0), hh14, fun q0 => (fun ⟨y1, y2, y3, g6, c6, e, h⟩ => ⟨y1, y2, y3, g6, c6, e, h.below (Below.alloc (Below.refl W.heap.size W) (Nat.le_refl _) _)⟩) (hh15 q0), fun q0 => (fun h => h.below (Below.alloc (Below.refl W.heap.size W) (Nat.le_refl _) _)) (hx0 q0), fun q0 => (fun h => h.on (Below.alloc (Below.refl W.heap.size W) (Nat.le_refl _) _)) (hx1 q0), hx2, hx3, hx4, hx5, hx6, hx7, hx8⟩
                      · -- operation 10
                        cases ho
                        have hT : Fl9 13 = false := Bool.eq_false_iff.2 (fun h => absurd (hx5 h) (by rw [hL]; simp))
                        have hbn4 := bN (Fl9 4)
                        have hbn7 := bN (Fl9 7)
                        have hbn10 := bN (Fl9 10)
                        obtain ⟨g9, rfl, hl9⟩ := hh9 (hdep ⟨9, .data⟩ (by simp) rfl) hT
                        obtain rfl := hh8 (hdep ⟨8, .data⟩ (by simp) rfl)
                        obtain ⟨q9, q90, q91, H9⟩ := (hx1 trivial).at H.out
                        go_simp
                        refine (amongN_at H9 (by omega) g9 2 2 [0, 51] rfl (by omega) (by omega) hl9.nums hl9.ne).mono ?_
                        rintro e w9 ⟨z9, hz9, rfl, hs9⟩
                        exact hK _ _ ⟨_, _, _, _, _, _, _, _, _, _, _, _, _, _, _, rfl, hB.trans ((UpW.grown hs9.grown).mono hB.size), hh0, hh1, hh2, (fun q0 r0 => (fun ⟨g9, e, h⟩ => ⟨g9, e, h.kept hs9.grown⟩) (hh3 q0 r0)), hh4, hh5, (fun q0 r0 => (fun ⟨g9, e, h⟩ => ⟨g9, e, h.kept hs9.grown⟩) (hh6 q0 r0)), hh7, hh8, (fun q0 r0 => (fun ⟨g9, e, h⟩ => ⟨g9, e, h.kept hs9.grown⟩) (hh9 q0 r0)), fun _ => ⟨_, rfl, hz9⟩, hh11, (fun q0 r0 => (fun ⟨g9, e, y1, y2, y3, h⟩ => ⟨g9, e, y1, y2, y3, h.kept hs9.grown⟩) (hh12 q0 r0)), (fun q0 r0 => (fun ⟨y1, y2, y3, g6, c6, e, h⟩ => ⟨y1, y2, y3, g6, c6, e, h.kept hs9.grown (by omega) hgb hgb3⟩) (hh13 q0 r0)), hh14, (fun q0 => (fun ⟨y1, y2, y3, g6, c6, e, h⟩ => ⟨y1, y2, y3, g6, c6, e, h.kept hs9.grown (by omega) hgb hgb3⟩) (hh15 q0)), fun q0 => (hx0 q0).kept hs9.grown (by omega) hgb hgb3, fun _ => ((hx1 trivial).then hs9 q90 q91).mono (by simp [hL] <;> omega), hx2, hx3, hx4, fun _ => rfl, fun _ => hdep ⟨7, .chain⟩ (by simp) rfl, hx7, hx8⟩
                      · -- operation 11
                        cases ho
                        obtain ⟨z1, rfl, -⟩ := hh4 (hdep ⟨4, .data⟩ (by simp) rfl)
                        obtain ⟨z2, rfl, -⟩ := hh7 (hdep ⟨7, .data⟩ (by simp) rfl)
                        obtain ⟨z3, rfl, -⟩ := hh10 (hdep ⟨10, .data⟩ (by simp) rfl)
                        go_simp
                        exact hK _ _ ⟨_, _, _, _, _, _, _, _, _, _, _, _, _, _, _, rfl, hB, hh0, hh1, hh2, hh3, hh4, hh5, hh6, hh7, hh8, hh9, hh10, fun _ => ⟨_, _, _, rfl⟩, hh12, hh13, hh14, hh15, hx0, hx1, hx2, hx3, hx4, hx5, hx6, hx7, hx8⟩
                      · -- operation 12
                        cases ho
                        have hd11 := hdep ⟨11, .data⟩ (by simp) rfl
                        obtain ⟨y1, y2, y3, rfl⟩ := hh11 hd11
                        go_simp
                        exact hK _ _ ⟨_, _, _, _, _, _, _, _, _, _, _, _, _, _, _, rfl, hB.trans ((UpW.of (Below.alloc (Below.refl W.heap.size W) (Nat.le_refl _) _)).mono hB.size), hh0, hh1, hh2, fun q0 r0 => (fun ⟨g9, e, h⟩ => ⟨g9, e, h.below (Below.alloc (Below.refl W.heap.size W) (Nat.le_refl _) _)⟩) (hh3 q0 r0), hh4, hh5, fun q0 r0 => (fun ⟨g9, e, h⟩ => ⟨g9, e, h.below (Below.alloc (Below.refl W.heap.size W) (Nat.le_refl _) _)⟩) (hh6 q0 r0), hh7, hh8, fun q0 r0 => (fun ⟨g9, e, h⟩ => ⟨g9, e, h.below (Below.alloc (Below.refl W.heap.size W) (Nat.le_refl _) _)⟩) (hh9 q0 r0), hh10, hh11, fun _ _ => ⟨_, rfl, _, _, _, LstS.new W _ _ (hx1 trivial).lt⟩, fun q0 r0 => (fun ⟨y1, y2, y3, g6, c6, e, h⟩ => ⟨y1, y2, y3, g6, c6, e, h.below (Below.alloc (Below.refl W.heap.size W) (Nat.le_refl _) _)⟩) (hh13 q0 r0), hh14, fun q0 => (fun ⟨y1, y2, y3, g6, c6, e, h⟩ => ⟨y1, y2, y3, g6, c6, e, h.below (Below.alloc (Below.refl W.heap.size W) (Nat.le_refl _) _)⟩) (hh15 q0), fun q0 => (fun h => h.below (Below.alloc (Below.refl W.heap.size W) (Nat.le_refl _) _)) (hx0 q0), fun q0 => (fun h => h.on (Below.alloc (Below.refl W.heap.size W) (Nat.le_refl _) _)) (hx1 q0), hx2, hx3, hx4, hx5, hx6, hx7, hx8⟩
                      · -- operation 13
                        cases ho
                        have hp1 := hdep ⟨1, .data⟩ (by simp) rfl
                        have hp10 := hdep ⟨10, .chain⟩ (by simp) rfl
                        have hp7 := hx6 hp10
                        have hp4 := hx7 hp7
                        obtain rfl := hh1 hp1
                        obtain ⟨g9, rfl, y1, y2, y3, hl9⟩ := hh12 (hdep ⟨12, .data⟩ (by simp) rfl) hL
                        refine step_append1 rfl (.tmp 84) (.tmp 95) 25 rfl w.heap.size 69 j0 (.agg #[.int .i64 0, .int .i64 0, .int .i64 0]) 3 24 Try.underlying25 hj jz0 jz1 jz2 rfl (by decide) _ nV _ rfl (hx0 hL).r ⟨g9, 0, none⟩ 1 [.int .i64 y1, .int .i64 y2, .int .i64 y3] rfl rfl hl9.cells (by simp [Value.oneCell']) (by unfold maxLen; omega) (by omega) (hx1 trivial).grown.size ?_
                        intro g6 c6 w9 hg6 hown hgr
                        exact hK _ _ ⟨_, _, _, _, _, _, _, _, _, _, _, _, _, _, _, rfl, hB.trans ((UpW.grown hgr).mono hB.size), hh0, hh1, hh2, (fun _ q0 => nomatch q0), hh4, hh5, (fun _ q0 => nomatch q0), hh7, hh8, (fun _ q0 => nomatch q0), hh10, hh11, (fun _ q0 => nomatch q0), fun _ => fun _ => ⟨y1, y2, y3, g6, c6, rfl, (hx0 hL).appR hgr (by rw [flatPump_append]; exact hown)⟩, hh14, (fun q0 => absurd (hx8 q0) (by rw [hL]; simp)), (fun q0 => nomatch q0), fun _ => (hx1 trivial).row hgr (hx0 hL).r hgl, fun _ => hp1, fun _ => hp4, fun _ => hp7, fun _ => hp10, hx6, hx7, fun _ => rfl⟩
                      · -- operation 14
                        cases ho
                        go_simp
                        exact hK _ _ ⟨_, _, _, _, _, _, _, _, _, _, _, _, _, _, _, rfl, hB, hh0, hh1, hh2, hh3, hh4, hh5, hh6, hh7, hh8, hh9, hh10, hh11, hh12, hh13, fun _ => rfl, hh15, hx0, hx1, hx2, hx3, hx4, hx5, hx6, hx7, hx8⟩
                      · -- operation 15
                        cases ho
                        have hdT := hdep ⟨13, .data⟩ (by simp) rfl
                        obtain ⟨y1, y2, y3, g6, c6, rfl, hw9⟩ := hh13 hdT hL
                        obtain rfl := hh14 (hdep ⟨14, .data⟩ (by simp) rfl)
                        have fz := hw9.fz 4
                        have cc := hw9.c4
                        go_simp
                        exact hK _ _ ⟨_, _, _, _, _, _, _, _, _, _, _, _, _, _, _, rfl, hB.set _ _, hh0, (fun _ => rfl), hh2, (fun _ q0 => absurd (hdT.symm.trans q0) (by simp)), hh4, hh5, (fun _ q0 => absurd (hdT.symm.trans q0) (by simp)), hh7, hh8, (fun _ q0 => absurd (hdT.symm.trans q0) (by simp)), hh10, hh11, (fun _ q0 => absurd (hdT.symm.trans q0) (by simp)), (fun _ q0 => nomatch q0), hh14, fun _ => ⟨y1, y2, y3, g6, c6, rfl, hw9.putR hne03⟩, (fun q0 => absurd (hdT.symm.trans q0) (by simp)), fun _ => (hx1 trivial).own (grown_setW _ _ _ _) hgb3 (by omega), hx2, hx3, hx4, hx5, hx6, hx7, fun _ => hdT⟩
                    intro Fl9 ac W hJ hall
                    obtain ⟨x83, x84, x85, x86, x87, x88, x89, x90, x91, x92, x93, x94, x95, x96, x97, rfl, hB, hh0, hh1, hh2, hh3, hh4, hh5, hh6, hh7, hh8, hh9, hh10, hh11, hh12, hh13, hh14, hh15, -, hcs9, -, -, -, -, -, -, -⟩ := hJ
                    obtain rfl := hh0 (hall 0 (by decide))
                    obtain rfl := hh1 (hall 1 (by decide))
                    obtain rfl := hh2 (hall 2 (by decide))
                    obtain rfl := hh5 (hall 5 (by decide))
                    obtain rfl := hh8 (hall 8 (by decide))
                    obtain rfl := hh14 (hall 14 (by decide))
                    obtain - := hh3 (hall 3 (by decide))
                    obtain - := hh4 (hall 4 (by decide))
                    obtain - := hh6 (hall 6 (by decide))
                    obtain - := hh7 (hall 7 (by decide))
                    obtain - := hh9 (hall 9 (by decide))
                    obtain - := hh10 (hall 10 (by decide))
                    obtain - := hh11 (hall 11 (by decide))
                    obtain - := hh12 (hall 12 (by decide))
                    obtain - := hh13 (hall 13 (by decide))
                    obtain ⟨y1, y2, y3, g6, c6, rfl, P7⟩ := hh15 (hall 15 (by decide))
                    clear hall
                    have S7 : Hid (CurStep w W g A n c p (D9 + 6)) := Lib.hid ((hcs9 trivial).mono (by have := bN (Fl9 4); have := bN (Fl9 7); have := bN (Fl9 10); omega))
                    have P7 := Lib.hid P7
                    have hV5 : (V ++ [(⟨y1, y2, y3⟩ : TPump)]).length = nV + 1 := by rw [List.length_append, hVl]; rfl
                    clear hcs9 hB
                    have x0 := P7.out.c0
                    have x1 := P7.out.c1
                    have x2 := P7.out.c2
                    have x3 := P7.out.c3
                    have x4 := P7.out.c4
                    have RS := Lib.hid (show BoxT _ b0 0 0 0 none 0 0 none 0 0 from P7.out.res)
                    have y0 := RS.out.c0
                    have y1 := RS.out.c1
                    have y2 := RS.out.c2
                    have y3 := RS.out.c3
                    have y4 := RS.out.c4
                    have zz0 := RS.out.fz 0
                    have zz1 := RS.out.fz 1
                    have zz2 := RS.out.fz 2
                    have zz3 := RS.out.fz 3
                    have zz4 := RS.out.fz 4
                    go_wp2_with fail
                    refine bodyPost_ret (results_row0 rfl _ _ b0 [_, _, _, _, _] _ rfl (BoxT.rangeAt (BoxT.sets RS.out _ _ _ _ _ _ _ _ _)) Try.underlying27 rfl (by kernel_rfl)) rfl ?_
                    exact ⟨_, _, _, _, _, _, _, _, _, _, _, rfl, (by omega), (by omega), hZl, hV5, (P7.out.done _ _ _ _ _).1, (P7.out.done _ _ _ _ _).2, (S7.out.sets5 _ _ _ _ _ hgb hbg).mono (by omega)⟩
                  · by_cases n5 : b = 5
                    · subst n5
                      have x3 := P20.out.c3
                      have zf := P20.out.fz 3
                      have PX := Lib.hid (P20.out.cutZ hne03)
                      have PX := Lib.hid (⟨PX.out.res, PX.out.box, own_cut0 PX.out.z, PX.out.r⟩ : TkS w.heap.size _ b0 b3 a1 a2 a3 _ _ (.slice (some ⟨g1, 0, none⟩) 0 c1) _ 0 nV [] V)
                      have SX := Lib.hid (S20.out.own (grown_setW w20 b3 3 (.slice (some ⟨g1, 0, none⟩) 0 c1)) hgb3 hb3g)
                      have x0 := PX.out.c0
                      have x1 := PX.out.c1
                      have x2 := PX.out.c2
                      have x3 := PX.out.c3
                      have x4 := PX.out.c4
                      have RS := Lib.hid (show BoxT _ b0 0 0 0 none 0 0 none 0 0 from PX.out.res)
                      have y0 := RS.out.c0
                      have y1 := RS.out.c1
                      have y2 := RS.out.c2
                      have y3 := RS.out.c3
                      have y4 := RS.out.c4
                      have zz0 := RS.out.fz 0
                      have zz1 := RS.out.fz 1
                      have zz2 := RS.out.fz 2
                      have zz3 := RS.out.fz 3
                      have zz4 := RS.out.fz 4
                      go_wp2_with fail
                      refine bodyPost_ret (results_row0 rfl _ _ b0 [_, _, _, _, _] _ rfl (BoxT.rangeAt (BoxT.sets RS.out _ _ _ _ _ _ _ _ _)) Try.underlying27 rfl (by kernel_rfl)) rfl ?_
                      exact ⟨_, _, _, _, _, _, _, _, _, _, _, rfl, (by omega), (by omega), rfl, hVl, (PX.out.done _ _ _ _ _).1, (PX.out.done _ _ _ _ _).2, (SX.out.sets5 _ _ _ _ _ hgb hbg).mono (by omega)⟩
                    · have m0 : (b == 0) = false := by simp [n0]
                      have m1 : (b == 1) = false := by simp [n1]
                      have m2 : (b == 2) = false := by simp [n2]
                      have m3 : (b == 3) = false := by simp [n3]
                      have m4 : (b == 4) = false := by simp [n4]
                      have m5 : (b == 5) = false := by simp [n5]
                      clear n0 n1 n2 n3 n4 n5
                      have x0 := P20.out.c0
                      have x1 := P20.out.c1
                      have x2 := P20.out.c2
                      have x3 := P20.out.c3
                      have x4 := P20.out.c4
                      have RS := Lib.hid (show BoxT _ b0 0 0 0 none 0 0 none 0 0 from P20.out.res)
                      have y0 := RS.out.c0
                      have y1 := RS.out.c1
                      have y2 := RS.out.c2
                      have y3 := RS.out.c3
                      have y4 := RS.out.c4
                      have zz0 := RS.out.fz 0
                      have zz1 := RS.out.fz 1
                      have zz2 := RS.out.fz 2
                      have zz3 := RS.out.fz 3
                      have zz4 := RS.out.fz 4
                      go_wp2_with fail
                      refine bodyPost_ret (results_row0 rfl _ _ b0 [_, _, _, _, _] _ rfl (BoxT.rangeAt (BoxT.sets RS.out _ _ _ _ _ _ _ _ _)) Try.underlying27 rfl (by kernel_rfl)) rfl ?_
                      exact ⟨_, _, _, _, _, _, _, _, _, _, _, rfl, (by omega), (by omega), hZl, hVl, (P20.out.done _ _ _ _ _).1, (P20.out.done _ _ _ _ _).2, (S20.out.sets5 _ _ _ _ _ hgb hbg).mono (by omega)⟩
end Go.Proofs.Ytdjoiodkmanacaa
