/- Chapter 7: lists of vessels that the laws draw. -/
import Derived.Test.YtgnopkemcgbedabDgI
import Derived.Test.YtgnopkemcgbedabCurX
namespace Go.Proofs.Ytgnopkemcgbedab
open Go.RowKit Go.PlainAid Go.Sort
set_option linter.unusedVariables false
set_option linter.unusedSimpArgs false

/-- Vessels in a row of one's own. -/
def OwnK (w W : World) (g1 q c1 : Nat) : Prop := ∃ L : List TCargo, w.heap.size ≤ g1 ∧ W.ownsRow w.heap.size 54 3 (.slice (some ⟨g1, 0, none⟩) q c1) q (flatCargo L)
theorem OwnK.kept {w W W' : World} {g1 q c1 : Nat} {g : Nat} (h : OwnK w W g1 q c1) (hg : W.grownBy W' (some g)) (hne : g1 ≠ g) : OwnK w W' g1 q c1 := by
  obtain ⟨L, h1, h2⟩ := h
  exact ⟨L, h1, h2.kept hg (.inr (by simp [Value.ownBlock]; exact hne))⟩
theorem OwnK.below {w W W' : World} {g1 q c1 : Nat} (h : OwnK w W g1 q c1) (hb : Below W.heap.size W W') : OwnK w W' g1 q c1 := by
  obtain ⟨L, h1, h2⟩ := h
  exact ⟨L, h1, own_below h2 hb⟩
theorem OwnK.g {w W : World} {g1 q c1 : Nat} (h : OwnK w W g1 q c1) : w.heap.size ≤ g1 := by
  obtain ⟨L, h1, h2⟩ := h
  exact h1
/-- What a draw of vessels hands back. -/
def GivesK (w : World) (g : Nat) (A : Option Addr) (n c : Nat) (p : Int) (e : Ending) (w' : World) : Prop :=
  ∃ g1 q c1, e = .returned (.slice (some ⟨g1, 0, none⟩) q c1) ∧ q ≤ 8 ∧ OwnK w w' g1 q c1 ∧ CurStep w w' g A n c p 200

theorem box_ne {W : World} {xg x y z base g2 q c : Nat} {X Y Z : Int} {L : List TCargo} (h : BoxC W xg X Y Z) (ho : W.ownsRow base 54 3 (.slice (some ⟨g2, 0, none⟩) q c) q (flatCargo L)) (hq : 2 ≤ q) : g2 ≠ xg := by
  rintro rfl
  have hl : L.length = q := by have := ho.1; rw [flatCargo_len] at this; omega
  obtain ⟨c0, -, -⟩ := own_atC ho hl (k := 1) (by omega)
  unfold BoxC at h
  simp [World.cell?, h] at c0
set_option maxRecDepth 100000 in
set_option maxHeartbeats 4000000 in
theorem cargos_at {g : Nat} {A : Option Addr} {n c : Nat} {p : Int} {zs : List Int} {B : Nat} {w : World} (h : CurAt w g A n c p zs B) (hp : p ≤ 800000000) (m : Nat) (hm : m ≤ 6) :
    Calls Try.prog 66 #[.pointer (some ⟨g, 0, none⟩), .int .i64 m] w (GivesK w g A n c p) := by
  obtain ⟨i0, hi, hz0, hz1, hz2⟩ := info_parts Try.infoCargo'
  have H := Lib.hid h
  have hgl := h.lt
  have hp0 := h.p0
  have S1 := Lib.hid ((CurStep.refl h.cur).alloc (.cells #[] 54))
  have O1 : Hid (OwnK w (w.alloc (.cells #[] 54)) w.heap.size 0 0) := Lib.hid ⟨[], Nat.le_refl _, World.ownsRow_made w #[] 0 (Nat.le_refl _) (by unfold maxLen; omega) rfl⟩
  have hbg : w.heap.size ≠ g := by omega
  clear h
  go_enter Try.func66, Try.ntmps66
  go_wp2_with fail
  obtain ⟨W1, hW1⟩ : ∃ x, w.alloc (.cells #[] 54) = x := ⟨_, rfl⟩
  rw [hW1] at S1 O1 ⊢
  obtain ⟨xb, hxb⟩ : ∃ x, w.heap.size = x := ⟨_, rfl⟩
  rw [hxb] at O1 hbg
  try simp only [hxb]
  obtain ⟨r5, r50, r51, H5⟩ := S1.out.at H.out
  refine (pick_at H5 (by omega) _ (by omega)).mono ?_
  rintro e w6 ⟨b6, b60, b61, rfl, hs⟩
  obtain ⟨k6, rfl⟩ : ∃ k : Nat, b6 = (k : Int) := ⟨b6.toNat, by omega⟩
  have hk6 : k6 ≤ 6 := by omega
  have S6 := Lib.hid ((S1.out.then hs r50 r51).mono (d' := 10 + 6 * (6 - (k6 : Int))) (by omega))
  have O6 := Lib.hid (O1.out.kept hs.grown (by omega))
  clear hs S1 O1 H5 r50 r51 b60 b61 hW1
  go_wp2_with fail
  go_loopw [5, 6] (fun v i wr => ∃ (k q g1 c1 : Nat), k ≤ 6 ∧ i = .int .i64 k ∧ v = .slice (some ⟨g1, 0, none⟩) q c1 ∧ q ≤ 6 - k ∧ Hid (OwnK w wr g1 q c1) ∧ Hid (CurStep w wr g A n c p (10 + 6 * (6 - (k : Int))))) (fun _ i _ => (intOf i).toNat)
  case atStart => exact ⟨k6, 0, xb, 0, by omega, rfl, rfl, by omega, O6, S6⟩
  case round =>
    clear O6 S6 hk6
    obtain ⟨k, q, g1, c1, hk, rfl, rfl, hq, O6, S6⟩ := hrel
    have hgg := O6.out.g
    by_cases hlt : 0 < (k : Int)
    · obtain ⟨k, rfl⟩ : ∃ j, k = j + 1 := ⟨k - 1, by omega⟩
      obtain ⟨r5, r50, r51, H5⟩ := S6.out.at H.out
      go_wp2_with fail
      refine (pick_at H5 (by push_cast at r51; omega) 12 (by omega)).mono ?_
      rintro e w6 ⟨x6, x60, x61, rfl, hs⟩
      have hx6 : x6 ≤ 12 := by omega
      have S6b := Lib.hid (S6.out.then hs r50 r51)
      have O6b := Lib.hid (O6.out.kept hs.grown (by omega))
      clear hs S6 O6 H5 r50 r51 x61
      obtain ⟨r5, r50, r51, H5⟩ := S6b.out.at H.out
      go_wp2_with fail
      refine (pick_at H5 (by push_cast at r51; omega) 5 (by omega)).mono ?_
      rintro e w7 ⟨x7, x70, x71, rfl, hs⟩
      have hx7 : x7 ≤ 5 := by omega
      have S7 := Lib.hid (S6b.out.then hs r50 r51)
      have O7 := Lib.hid (O6b.out.kept hs.grown (by omega))
      clear hs S6b O6b H5 r50 r51 x71
      obtain ⟨r5, r50, r51, H5⟩ := S7.out.at H.out
      go_wp2_with fail
      refine (among_new H5 (by push_cast at r51; omega) [0, 0, 0, 1, 1, 2, 3] 7 rfl (by omega) (by omega) w7.heap.size rfl).mono ?_
      rintro e w8 ⟨x8, hx8, rfl, hs⟩
      have S8 := Lib.hid (S7.out.then hs r50 r51)
      have O8 := Lib.hid (O7.out.kept hs.grown (by omega))
      clear hs S7 O7 H5 r50 r51 hx8
      go_wp2_with fail
      obtain ⟨L, hL1, hL2⟩ := O8.out
      have hO2 := own_below hL2 (below1 w8 (.cells #[.int .i64 (1 + x6), .int .i64 (1 + x7), .int .i64 x8] 54))
      have hSA := S8.out.alloc (.cells #[.int .i64 (1 + x6), .int .i64 (1 + x7), .int .i64 x8] 54)
      have hBX := BoxC.new w8 (1 + x6) (1 + x7) x8
      obtain ⟨wi, hwi⟩ : ∃ W, w8.alloc (.cells #[.int .i64 (1 + x6), .int .i64 (1 + x7), .int .i64 x8] 54) = W := ⟨_, rfl⟩
      obtain ⟨xg, hxg⟩ : ∃ x, w8.heap.size = x := ⟨_, rfl⟩
      rw [hwi] at hO2 hSA hBX ⊢
      rw [hxg] at hBX ⊢
      obtain ⟨vd, hvd⟩ : ∃ v, 1 + x6 = v := ⟨_, rfl⟩
      obtain ⟨vl, hvl⟩ : ∃ v, 1 + x7 = v := ⟨_, rfl⟩
      rw [hvd, hvl] at hBX ⊢
      generalize x8 = vq at hBX ⊢
      have HBX := Lib.hid hBX
      have HO2 := Lib.hid hO2
      have SA := Lib.hid hSA
      have HLR : Hid ((flatCargo L).length = q * 3) := Lib.hid hO2.1
      have HNR := Lib.hid (fun W (hq : Below wi.heap.size wi W) => hasC_at (own_Cargos (own_below HO2.out hq)))
      clear hO2 hSA hBX hwi hxg hvd hvl O8 S8 hL2
      refine region_inv (by kernel_rfl) (by kernel_rfl) (fun Fl9 ac W => ∃ (x30 x31 x32 x33 x34 x35 x8 : Value), ac = { tmps := #[Value.pointer (some ⟨g, 0, none⟩), Value.int IntKind.i64 (m : Int), undef, undef, Value.slice none 0 0, Value.slice (some ⟨g1, 0, none⟩) q c1, Value.int IntKind.i64 ((k : Int) + 1), Value.pointer (some ⟨xg, 0, none⟩), x8, undef, undef, Value.slice (some ⟨xb, 0, none⟩) 0 0, Value.pointer (some ⟨g, 0, none⟩), Value.int IntKind.i64 (m : Int), Value.int IntKind.i64 ((m : Int) + 1), Value.int IntKind.i64 (k6 : Int), Value.int IntKind.i64 ((k : Int) + 1), Value.bool true, u18, u19, Value.pointer (some ⟨g, 0, none⟩), Value.int IntKind.i64 x6, Value.int IntKind.i64 vd, Value.pointer (some ⟨g, 0, none⟩), Value.int IntKind.i64 x7, Value.int IntKind.i64 vl, Value.pointer (some ⟨g, 0, none⟩), Value.slice (some ⟨w7.heap.size, 0, none⟩) 7 7, Value.int IntKind.i64 vq, Value.agg #[Value.int IntKind.i64 vd, Value.int IntKind.i64 vl, Value.int IntKind.i64 vq], x30, x31, x32, x33, x34, x35, u36, u37, u38, undef, undef, undef, undef, undef, undef, undef, undef, undef, undef, undef, undef, undef, undef, undef, undef, undef, undef, undef, undef, undef, undef, undef, undef, undef, undef, undef, undef, undef, undef, undef, undef, undef, undef, undef, undef, undef, undef, undef, undef, undef, undef, undef, undef, undef, undef, undef, undef, undef, undef, undef, undef, undef, undef, undef, undef], defers := [] } ∧ Below wi.heap.size wi W ∧
            (Fl9 0 = true → Fl9 2 = false → ∃ g, x30 = .slice (some ⟨g, 0, none⟩) 0 0 ∧ W.ownsRow wi.heap.size 54 3 (.slice (some ⟨g, 0, none⟩) 0 0) 0 []) ∧
            (Fl9 1 = true → x31 = .slice (some ⟨g1, 0, none⟩) q c1) ∧
            (Fl9 2 = true → Fl9 5 = false → ∃ g c9, x32 = .slice (some ⟨g, 0, none⟩) q c9 ∧ W.ownsRow wi.heap.size 54 3 (.slice (some ⟨g, 0, none⟩) q c9) q (flatCargo L)) ∧
            (Fl9 3 = true → x33 = .agg #[.int .i64 vd, .int .i64 vl, .int .i64 vq]) ∧
            (Fl9 4 = true → Fl9 5 = false → ∃ g, x34 = .slice (some ⟨g, 0, none⟩) 1 1 ∧ ∀ j u, [Value.int .i64 vd, Value.int .i64 vl, Value.int .i64 vq][j]? = some u → W.cell? ((⟨g, 0, none⟩ : Addr).add j) = some u) ∧
            (Fl9 5 = true → ∃ g c9, x35 = .slice (some ⟨g, 0, none⟩) (q + 1) c9 ∧ W.ownsRow wi.heap.size 54 3 (.slice (some ⟨g, 0, none⟩) (q + 1) c9) (q + 1) (flatCargo L ++ [Value.int .i64 vd, Value.int .i64 vl, Value.int .i64 vq])) ∧
            (Fl9 6 = true → ∃ g c9, x8 = .slice (some ⟨g, 0, none⟩) (q + 1) c9 ∧ W.ownsRow wi.heap.size 54 3 (.slice (some ⟨g, 0, none⟩) (q + 1) c9) (q + 1) (flatCargo L ++ [Value.int .i64 vd, Value.int .i64 vl, Value.int .i64 vq])) ∧
            (Fl9 5 = true → Fl9 2 = true) ∧
            (Fl9 6 = true → Fl9 5 = true)) ?_ ?_ ?_
      · exact ⟨_, _, _, _, _, _, _, rfl, (Drawn.one wi 1).below _, (fun q0 => nomatch q0), (fun q0 => nomatch q0), (fun q0 => nomatch q0), (fun q0 => nomatch q0), (fun q0 => nomatch q0), (fun q0 => nomatch q0), (fun q0 => nomatch q0), (fun q0 => nomatch q0), (fun q0 => nomatch q0)⟩
      · intro Fl9 ac W i9 o9 hJ ho hL hdep K9 hK
        obtain ⟨x30, x31, x32, x33, x34, x35, x8, rfl, hB, hh0, hh1, hh2, hh3, hh4, hh5, hh6, hx0, hx1⟩ := hJ
        have hi9 : i9 < 7 := by simpa using (Array.getElem?_eq_some_iff.1 ho).1
        have BX := HBX.out.all hB
        have C0 := BX.c0
        have C1 := BX.c1
        have C2 := BX.c2
        obtain rfl | rfl | rfl | rfl | rfl | rfl | rfl : i9 = 0 ∨ i9 = 1 ∨ i9 = 2 ∨ i9 = 3 ∨ i9 = 4 ∨ i9 = 5 ∨ i9 = 6 := by omega
        · -- operation 0
          cases ho
          go_simp
          exact hK _ _ ⟨_, _, _, _, _, _, _, rfl, hB.trans ((Below.alloc (Below.refl W.heap.size W) (Nat.le_refl _) _).mono hB.size), fun _ _ => ⟨_, rfl, own_low (World.ownsRow_made W #[] 0 (Nat.le_refl _) (by unfold maxLen; omega) rfl) hB.size⟩, hh1, fun q0 r0 => (fun ⟨g, c9, e, o⟩ => ⟨g, c9, e, own_below o (Below.alloc (Below.refl W.heap.size W) (Nat.le_refl _) _)⟩) (hh2 q0 r0), hh3, fun q0 r0 => (fun ⟨g, e, h⟩ => ⟨g, e, fun j u hu => (Below.cell (Below.alloc (Below.refl W.heap.size W) (Nat.le_refl _) _) (World.block_lt_of_cell? W _ (h j u hu))).trans (h j u hu)⟩) (hh4 q0 r0), fun q0 => (fun ⟨g, c9, e, o⟩ => ⟨g, c9, e, own_below o (Below.alloc (Below.refl W.heap.size W) (Nat.le_refl _) _)⟩) (hh5 q0), fun q0 => (fun ⟨g, c9, e, o⟩ => ⟨g, c9, e, own_below o (Below.alloc (Below.refl W.heap.size W) (Nat.le_refl _) _)⟩) (hh6 q0), hx0, hx1⟩
        · -- operation 1
          cases ho
          go_simp
          exact hK _ _ ⟨_, _, _, _, _, _, _, rfl, hB, hh0, fun _ => rfl, hh2, hh3, hh4, hh5, hh6, hx0, hx1⟩
        · -- operation 2
          cases ho
          have hd0 := hdep ⟨0, .data⟩ (by simp) rfl
          obtain ⟨g9, rfl, oe⟩ := hh0 hd0 hL
          obtain rfl := hh1 (hdep ⟨1, .data⟩ (by simp) rfl)
          refine step_append rfl (.tmp 30) (.tmp 31) 42 rfl wi.heap.size 54 i0 (.agg #[.int .i64 0, .int .i64 0, .int .i64 0]) 3 24 Try.underlying42 hi hz0 hz1 hz2 rfl (by decide) _ 0 _ rfl oe ⟨g1, 0, none⟩ q c1 (flatCargo L) rfl HLR.out (HNR.out W hB) (flatCargo_one _) (by unfold maxLen; omega) (by omega) hB.size (fun e => nomatch e) ?_
          intro g1 cap w9 hown hgr
          rw [Nat.zero_add, List.nil_append] at hown
          rw [Nat.zero_add]
          have keep10 : (∃ g, x34 = .slice (some ⟨g, 0, none⟩) 1 1 ∧ ∀ j u, [Value.int .i64 vd, Value.int .i64 vl, Value.int .i64 vq][j]? = some u → W.cell? ((⟨g, 0, none⟩ : Addr).add j) = some u) → ∃ g, x34 = .slice (some ⟨g, 0, none⟩) 1 1 ∧ ∀ j u, [Value.int .i64 vd, Value.int .i64 vl, Value.int .i64 vq][j]? = some u → w9.cell? ((⟨g, 0, none⟩ : Addr).add j) = some u := fun ⟨gq, e, h⟩ => ⟨gq, e, keep_empty oe hgr h⟩
          exact hK _ _ ⟨_, _, _, _, _, _, _, rfl, hB.grown hgr hB.size (fun q e => (oe.lt q e).1), (fun _ q0 => nomatch q0), hh1, fun _ => fun _ => ⟨_, _, rfl, hown⟩, hh3, (fun q0 r0 => keep10 (hh4 q0 r0)), (fun q0 => absurd (hx0 q0) (by rw [hL]; simp)), (fun q0 => absurd (hx0 (hx1 q0)) (by rw [hL]; simp)), fun _ => rfl, hx1⟩
        · -- operation 3
          cases ho
          go_simp
          exact hK _ _ ⟨_, _, _, _, _, _, _, rfl, hB, hh0, hh1, hh2, fun _ => rfl, hh4, hh5, hh6, hx0, hx1⟩
        · -- operation 4
          cases ho
          obtain rfl := hh3 (hdep ⟨3, .data⟩ (by simp) rfl)
          go_simp
          exact hK _ _ ⟨_, _, _, _, _, _, _, rfl, hB.trans ((Below.alloc (Below.refl W.heap.size W) (Nat.le_refl _) _).mono hB.size), fun q0 r0 => (fun ⟨g, e, o⟩ => ⟨g, e, own_below o (Below.alloc (Below.refl W.heap.size W) (Nat.le_refl _) _)⟩) (hh0 q0 r0), hh1, fun q0 r0 => (fun ⟨g, c9, e, o⟩ => ⟨g, c9, e, own_below o (Below.alloc (Below.refl W.heap.size W) (Nat.le_refl _) _)⟩) (hh2 q0 r0), hh3, fun _ _ => ⟨_, rfl, cell_three_new W _ _ _ _⟩, fun q0 => (fun ⟨g, c9, e, o⟩ => ⟨g, c9, e, own_below o (Below.alloc (Below.refl W.heap.size W) (Nat.le_refl _) _)⟩) (hh5 q0), fun q0 => (fun ⟨g, c9, e, o⟩ => ⟨g, c9, e, own_below o (Below.alloc (Below.refl W.heap.size W) (Nat.le_refl _) _)⟩) (hh6 q0), hx0, hx1⟩
        · -- operation 5
          cases ho
          have hd2 := hdep ⟨2, .data⟩ (by simp) rfl
          obtain ⟨g9, c9, rfl, oe⟩ := hh2 hd2 hL
          have hd4 := hdep ⟨4, .data⟩ (by simp) rfl
          obtain ⟨gn, rfl, hnew⟩ := hh4 hd4 hL
          refine step_append rfl (.tmp 32) (.tmp 34) 42 rfl wi.heap.size 54 i0 (.agg #[.int .i64 0, .int .i64 0, .int .i64 0]) 3 24 Try.underlying42 hi hz0 hz1 hz2 rfl (by decide) _ q _ rfl oe ⟨gn, 0, none⟩ 1 1 [Value.int .i64 vd, Value.int .i64 vl, Value.int .i64 vq] rfl rfl hnew (by simp [Value.oneCell']) (by unfold maxLen; omega) (by omega) hB.size (fun e => nomatch e) ?_
          intro g1 cap w9 hown hgr
          exact hK _ _ ⟨_, _, _, _, _, _, _, rfl, hB.grown hgr hB.size (fun q e => (oe.lt q e).1), (fun _ q0 => absurd ((show Fl9 2 = false from q0).symm.trans hd2) (by simp)), hh1, (fun _ q0 => nomatch q0), hh3, (fun _ q0 => nomatch q0), fun _ => ⟨_, _, rfl, hown⟩, (fun q0 => absurd (hx1 q0) (by rw [hL]; simp)), fun _ => hd2, fun _ => rfl⟩
        · -- operation 6
          cases ho
          have hd5 := hdep ⟨5, .data⟩ (by simp) rfl
          obtain ⟨g9, c9, rfl, ho9⟩ := hh5 hd5
          go_simp
          exact hK _ _ ⟨_, _, _, _, _, _, _, rfl, hB, hh0, hh1, hh2, hh3, hh4, hh5, fun _ => ⟨_, _, rfl, ho9⟩, hx0, fun _ => hd5⟩
      intro Fl9 ac W hJ hall
      obtain ⟨x30, x31, x32, x33, x34, x35, x8, rfl, hB, hh0, hh1, hh2, hh3, hh4, hh5, hh6, -, -⟩ := hJ
      obtain rfl := hh1 (hall 1 (by decide))
      obtain rfl := hh3 (hall 3 (by decide))
      clear hh0
      clear hh2
      clear hh4
      clear hh5
      obtain ⟨gf, cf, rfl, hof⟩ := hh6 (hall 6 (by decide))
      clear hall
      have SB := Lib.hid (SA.out.on hB)
      have hwi0 := SA.out.grown.size
      have HON : Hid (OwnK w W gf (q + 1) cf) := Lib.hid ⟨L ++ [⟨vd, vl, vq⟩], by have := (hof.lt gf rfl).1; omega, by rw [flatCargo_append]; exact own_low hof hwi0⟩
      have HOO : Hid (OwnK w W g1 q c1) := Lib.hid ⟨L, hL1, own_below HO2.out hB⟩
      have C := Lib.hid (l7Good_any cf (own_Cargos (vs := L ++ [⟨vd, vl, vq⟩]) (by rw [flatCargo_append]; exact hof)) (by unfold maxLen; omega))
      obtain ⟨G, hG⟩ : ∃ G, gCs (L ++ [(⟨vd, vl, vq⟩ : TCargo)]) = G := ⟨_, rfl⟩
      rw [hG] at C
      clear hB hof hG HBX HO2 SA HLR HNR
      go_wp2_with fail
      refine C.out.mono ?_
      rintro e w9 ⟨rfl, hb⟩
      have S9 := Lib.hid (SB.out.on hb)
      have ON := Lib.hid (HON.out.below hb)
      have OO := Lib.hid (HOO.out.below hb)
      clear hb C SB HON HOO
      cases G with
      | true =>
        go_wp2_with fail
        go_roundw
        case rel => exact ⟨k, q + 1, gf, cf, by omega, by go_num, rfl, by omega, ON, Lib.hid (S9.out.mono (by push_cast; omega))⟩
        case measure => simp [intOf]
      | false =>
        go_wp2_with fail
        go_roundw
        case rel => exact ⟨k, q, g1, c1, by omega, by go_num, rfl, by omega, OO, Lib.hid (S9.out.mono (by push_cast; omega))⟩
        case measure => simp [intOf]
    · obtain rfl : k = 0 := by omega
      have SR := Lib.hid (S6.out.mono (d' := 46) (by omega))
      have OR := O6
      clear S6 O6 hlt
      rcases Nat.eq_zero_or_pos q with h0 | h0
      · subst h0
        go_wp2_with fail
        refine bodyPost_ret (results_tmp rfl _ _ _) rfl ?_
        exact ⟨g1, 0, _, rfl, by omega, OR.out, SR.out.mono (by omega)⟩
      · have hq0 : ((q : Int) == 0) = false := by simp; omega
        have hq1 : (1 : Int) ≤ (q : Int) := by omega
        go_wp2_with fail
        obtain ⟨r5, r50, r51, H5⟩ := SR.out.at H.out
        refine (pick_at H5 (by omega) (q : Int) (by omega)).mono ?_
        rintro e w8 ⟨b8, b80, b81, rfl, hs⟩
        obtain ⟨j, rfl⟩ : ∃ j : Nat, b8 = (j : Int) := ⟨b8.toNat, by omega⟩
        have hjq : j < q := by omega
        have S8 := Lib.hid (SR.out.then hs r50 r51)
        have O8 := Lib.hid (OR.out.kept hs.grown (by omega))
        clear hs SR OR H5 r50 r51 b80 b81
        obtain ⟨L, hL1, hL2⟩ := O8.out
        have hLl : L.length = q := by have := hL2.1; rw [flatCargo_len] at this; omega
        obtain ⟨f0, f1, f2⟩ := own_atC hL2 hLl hjq
        generalize L.getD j noCargo = V at f0 f1 f2
        obtain ⟨vd, vl, vq⟩ := V
        dsimp only at f0 f1 f2
        have hj0 : (0 : Int) ≤ (j : Int) := by omega
        have hj1 : (j : Int) < (q : Int) := by omega
        clear hL2 hq0
        go_wp2_with fail
        have hgw : g < w8.heap.size := Nat.lt_of_lt_of_le hgl S8.out.grown.size
        have hg1 : g1 < w8.heap.size := World.block_lt_of_cell? w8 _ f0
        have hws := S8.out.grown.size
        have hO2 := O8.out.below (below1 w8 (.cells #[.int .i64 vd, .int .i64 vl, .int .i64 vq] 54))
        have hSA := S8.out.alloc (.cells #[.int .i64 vd, .int .i64 vl, .int .i64 vq] 54)
        have hBX := BoxC.new w8 vd vl vq
        obtain ⟨wi, hwi⟩ : ∃ W, w8.alloc (.cells #[.int .i64 vd, .int .i64 vl, .int .i64 vq] 54) = W := ⟨_, rfl⟩
        obtain ⟨xg, hxg⟩ : ∃ x, w8.heap.size = x := ⟨_, rfl⟩
        rw [hwi] at hO2 hSA hBX ⊢
        rw [hxg] at hBX hgw hg1 hws
        try simp only [hxg]
        clear hwi hxg f0 f1 f2 O8 S8 hLl
        have hxgg : xg ≠ g := by omega
        have hgx1 : g1 ≠ xg := by omega
        obtain ⟨r5, r50, r51, H5⟩ := hSA.at H.out
        refine (pick_at H5 (by omega) 40 (by omega)).mono ?_
        rintro e w9 ⟨b, b80, b81, rfl, hs⟩
        have S9 := Lib.hid (hSA.then hs r50 r51)
        have O9 := Lib.hid (hO2.kept hs.grown (by omega))
        have B9 := Lib.hid (hBX.kept hs.grown (by simp; omega))
        clear hs hSA hO2 hBX H5 r50 r51 b80 b81
        by_cases n0 : b = 0
        · subst n0
          obtain ⟨L9, hL91, hL92⟩ := O9.out
          have hL9l : L9.length = q := by have := hL92.1; rw [flatCargo_len] at this; omega
          obtain ⟨e0, -, -⟩ := own_atC hL92 hL9l (k := 0) (by omega)
          generalize (L9.getD 0 noCargo).x0 = u0 at e0
          rw [Nat.zero_mul] at e0
          have hq9 : (0 : Int) < (q : Int) := by omega
          clear hL92
          obtain ⟨r5, r50, r51, H5⟩ := S9.out.at H.out
          go_wp2_with fail
          refine (among_new H5 (by omega) [0, 99, 100, u0] 4 rfl (by omega) (by omega) w9.heap.size rfl).mono ?_
          rintro e w10 ⟨z, -, rfl, hs⟩
          -- a field of the box written over
          have S10 := Lib.hid (S9.out.then hs r50 r51)
          have O10 := Lib.hid (O9.out.kept hs.grown (by omega))
          have B10 := Lib.hid (B9.out.kept hs.grown (by simp; omega))
          have yf := B10.out.fz 0
          have S11 := Lib.hid (S10.out.own (grown_set w10 xg 0 (.int .i64 z)) hws hxgg)
          have O11 := Lib.hid (O10.out.kept (grown_set w10 xg 0 (.int .i64 z)) hgx1)
          have B11 := Lib.hid (B10.out.set0 z)
          clear hs H5 r50 r51 S9 O9 B9 S10
          -- the vessel goes back into its place
          obtain ⟨L9, hL91, hL92⟩ := O11.out
          have hL9l : L9.length = q := by have := hL92.1; rw [flatCargo_len] at this; omega
          obtain ⟨L8, hL81, hL82⟩ := O10.out
          have hL8l : L8.length = q := by have := hL82.1; rw [flatCargo_len] at this; omega
          obtain ⟨e0, e1, e2⟩ := own_atC hL82 hL8l (k := j) (by omega)
          have z0 := hL82.frozenAt (j * 3)
          have z1 := hL82.frozenAt (j * 3 + 1)
          have z2 := hL82.frozenAt (j * 3 + 2)
          have y0 := B10.out.c0
          have y1 := B10.out.c1
          have y2 := B10.out.c2
          have hxl := B10.out.lt
          have HF := Lib.hid (own_setC hL92 hL9l (k := j) (by omega) z vl vq)
          have hjq2 : (j : Int) < ((q : Nat) : Int) := by omega
          have hne9 : g1 ≠ g := by omega
          clear hL92 hL82
          go_wp2_with fail
          refine bodyPost_ret (results_tmp rfl _ _ _) rfl ?_
          exact ⟨g1, q, _, rfl, by omega, ⟨_, hL91, HF.out.1⟩, (S11.out.own HF.out.2 hL91 hne9).mono (by omega)⟩
        · by_cases n1 : b = 1
          · subst n1
            obtain ⟨r5, r50, r51, H5⟩ := S9.out.at H.out
            go_wp2_with fail
            refine (among_new H5 (by omega) [0, 8, 9] 3 rfl (by omega) (by omega) w9.heap.size rfl).mono ?_
            rintro e w10 ⟨z, -, rfl, hs⟩
            -- a field of the box written over
            have S10 := Lib.hid (S9.out.then hs r50 r51)
            have O10 := Lib.hid (O9.out.kept hs.grown (by omega))
            have B10 := Lib.hid (B9.out.kept hs.grown (by simp; omega))
            have yf := B10.out.fz 1
            have S11 := Lib.hid (S10.out.own (grown_set w10 xg 1 (.int .i64 z)) hws hxgg)
            have O11 := Lib.hid (O10.out.kept (grown_set w10 xg 1 (.int .i64 z)) hgx1)
            have B11 := Lib.hid (B10.out.set1 z)
            clear hs H5 r50 r51 S9 O9 B9 S10
            -- the vessel goes back into its place
            obtain ⟨L9, hL91, hL92⟩ := O11.out
            have hL9l : L9.length = q := by have := hL92.1; rw [flatCargo_len] at this; omega
            obtain ⟨L8, hL81, hL82⟩ := O10.out
            have hL8l : L8.length = q := by have := hL82.1; rw [flatCargo_len] at this; omega
            obtain ⟨e0, e1, e2⟩ := own_atC hL82 hL8l (k := j) (by omega)
            have z0 := hL82.frozenAt (j * 3)
            have z1 := hL82.frozenAt (j * 3 + 1)
            have z2 := hL82.frozenAt (j * 3 + 2)
            have y0 := B10.out.c0
            have y1 := B10.out.c1
            have y2 := B10.out.c2
            have hxl := B10.out.lt
            have HF := Lib.hid (own_setC hL92 hL9l (k := j) (by omega) vd z vq)
            have hjq2 : (j : Int) < ((q : Nat) : Int) := by omega
            have hne9 : g1 ≠ g := by omega
            clear hL92 hL82
            go_wp2_with fail
            refine bodyPost_ret (results_tmp rfl _ _ _) rfl ?_
            exact ⟨g1, q, _, rfl, by omega, ⟨_, hL91, HF.out.1⟩, (S11.out.own HF.out.2 hL91 hne9).mono (by omega)⟩
          · by_cases n2 : b = 2
            · subst n2
              obtain ⟨r5, r50, r51, H5⟩ := S9.out.at H.out
              go_wp2_with fail
              refine (among_new H5 (by omega) [-1, 4] 2 rfl (by omega) (by omega) w9.heap.size rfl).mono ?_
              rintro e w10 ⟨z, -, rfl, hs⟩
              -- a field of the box written over
              have S10 := Lib.hid (S9.out.then hs r50 r51)
              have O10 := Lib.hid (O9.out.kept hs.grown (by omega))
              have B10 := Lib.hid (B9.out.kept hs.grown (by simp; omega))
              have yf := B10.out.fz 2
              have S11 := Lib.hid (S10.out.own (grown_set w10 xg 2 (.int .i64 z)) hws hxgg)
              have O11 := Lib.hid (O10.out.kept (grown_set w10 xg 2 (.int .i64 z)) hgx1)
              have B11 := Lib.hid (B10.out.set2 z)
              clear hs H5 r50 r51 S9 O9 B9 S10
              -- the vessel goes back into its place
              obtain ⟨L9, hL91, hL92⟩ := O11.out
              have hL9l : L9.length = q := by have := hL92.1; rw [flatCargo_len] at this; omega
              obtain ⟨L8, hL81, hL82⟩ := O10.out
              have hL8l : L8.length = q := by have := hL82.1; rw [flatCargo_len] at this; omega
              obtain ⟨e0, e1, e2⟩ := own_atC hL82 hL8l (k := j) (by omega)
              have z0 := hL82.frozenAt (j * 3)
              have z1 := hL82.frozenAt (j * 3 + 1)
              have z2 := hL82.frozenAt (j * 3 + 2)
              have y0 := B10.out.c0
              have y1 := B10.out.c1
              have y2 := B10.out.c2
              have hxl := B10.out.lt
              have HF := Lib.hid (own_setC hL92 hL9l (k := j) (by omega) vd vl z)
              have hjq2 : (j : Int) < ((q : Nat) : Int) := by omega
              have hne9 : g1 ≠ g := by omega
              clear hL92 hL82
              go_wp2_with fail
              refine bodyPost_ret (results_tmp rfl _ _ _) rfl ?_
              exact ⟨g1, q, _, rfl, by omega, ⟨_, hL91, HF.out.1⟩, (S11.out.own HF.out.2 hL91 hne9).mono (by omega)⟩
            · by_cases n3 : b = 3
              · subst n3
                clear n0 n1 n2 hgg
                have S9' := Lib.hid (S9.out.mono (d' := 100 + 2 * (q : Int)) (by omega))
                clear S9
                go_wp2_with fail
                go_loopw [5] (fun v wr => ∃ (q g1 c1 : Nat), v = .slice (some ⟨g1, 0, none⟩) q c1 ∧ j < q ∧ q ≤ 8 ∧ g1 ≠ xg ∧ Hid (OwnK w wr g1 q c1) ∧ Hid (BoxC wr xg vd vl vq) ∧ Hid (CurStep w wr g A n c p (100 + 2 * (q : Int)))) (fun v _ => 9 - lenV v)
                case atStart => exact ⟨q, g1, c1, rfl, hjq, by omega, hgx1, O9, B9, S9'⟩
                case round =>
                  clear O9 B9 S9' hgx1 hg1 hj1 hq1 hjq hq h0
                  obtain ⟨q, g1, c1, rfl, hjq, hq8, hgx1, O8, B8, S8⟩ := hrel
                  have hgg := O8.out.g
                  obtain ⟨r5, r50, r51, H5⟩ := S8.out.at H.out
                  go_wp2_with fail
                  refine (pick_at H5 (by omega) 2 (by omega)).mono ?_
                  rintro e w7 ⟨b7, b70, b71, rfl, hs⟩
                  have S7 := Lib.hid (S8.out.then hs r50 r51)
                  have O7 := Lib.hid (O8.out.kept hs.grown (by omega))
                  have B7 := Lib.hid (B8.out.kept hs.grown (by simp; omega))
                  clear hs S8 O8 B8 H5 r50 r51
                  by_cases hlt : (q : Int) < 6 + b7
                  · obtain ⟨L7, hg7, ho7⟩ := O7.out
                    have hne7 : g1 ≠ g := by omega
                    have HB7 := Lib.hid (B7.out.all (below1 w7 (.cells #[.int .i64 (40 + (q : Int)), .int .i64 1, .int .i64 0] 54)))
                    clear O7 B7
                    go_wp2_with (at_builtin; go_loud (refine wpList_append_own _ rfl (.tmp 83) (.tmp 88) 42 rfl w.heap.size 54 i0 (.agg #[.int .i64 0, .int .i64 0, .int .i64 0]) 3 24 Try.underlying42 hi hz0 hz1 hz2 rfl (by decide) (.slice (some ⟨g1, 0, none⟩) q c1) q _ rfl (ho7.alloc (.cells #[.int .i64 (40 + (q : Int)), .int .i64 1, .int .i64 0] 54)) ⟨w7.heap.size, 0, none⟩ 1 1 [.int .i64 (40 + (q : Int)), .int .i64 1, .int .i64 0] rfl rfl (cell_three_new _ _ _ _ _) (by simp [Value.oneCell']) (by unfold maxLen; omega) (by omega) (by have := S7.out.grown.size; simp; omega) ?_; intro v1 w1 hown1 hgrow1 hnil1; obtain ⟨g2, c2, rfl, hg2⟩ := own_some hown1 (fun e => nomatch (hnil1.1 e).1); have S9 := Lib.hid ((S7.out.alloc (.cells #[.int .i64 (40 + (q : Int)), .int .i64 1, .int .i64 0] 54)).own hgrow1 hg7 hne7); have hwo : w1.ownsRow w.heap.size 54 3 (.slice (some ⟨g2, 0, none⟩) (q + 1) c2) (q + 1) (flatCargo (L7 ++ [(⟨40 + (q : Int), 1, 0⟩ : TCargo)])) := (by rw [flatCargo_append]; exact hown1); have O9 : Hid (OwnK w w1 g2 (q + 1) c2) := Lib.hid ⟨_, hg2, hwo⟩; have hB1 := HB7.out.kept hgrow1 (by simp [Value.ownBlock]; exact fun e => hgx1 e.symm); have hne1 := box_ne (x := 0) (y := 0) (z := 0) hB1 hwo (by omega); have B9 := Lib.hid hB1; clear hnil1 hgrow1 hown1 hwo hB1))
                    go_roundw
                    case rel => exact ⟨q + 1, g2, c2, rfl, by omega, by omega, hne1, O9, B9, Lib.hid (S9.out.mono (by push_cast; omega))⟩
                    case measure => simp [lenV]; omega
                  · -- the vessel goes back into its place
                    obtain ⟨L9, hL91, hL92⟩ := O7.out
                    have hL9l : L9.length = q := by have := hL92.1; rw [flatCargo_len] at this; omega
                    obtain ⟨L8, hL81, hL82⟩ := O7.out
                    have hL8l : L8.length = q := by have := hL82.1; rw [flatCargo_len] at this; omega
                    obtain ⟨e0, e1, e2⟩ := own_atC hL82 hL8l (k := j) (by omega)
                    have z0 := hL82.frozenAt (j * 3)
                    have z1 := hL82.frozenAt (j * 3 + 1)
                    have z2 := hL82.frozenAt (j * 3 + 2)
                    have y0 := B7.out.c0
                    have y1 := B7.out.c1
                    have y2 := B7.out.c2
                    have hxl := B7.out.lt
                    have HF := Lib.hid (own_setC hL92 hL9l (k := j) (by omega) vd vl vq)
                    have hjq2 : (j : Int) < ((q : Nat) : Int) := by omega
                    have hne9 : g1 ≠ g := by omega
                    clear hL92 hL82
                    go_wp2_with fail
                    refine bodyPost_ret (results_tmp rfl _ _ _) rfl ?_
                    exact ⟨g1, q, _, rfl, by omega, ⟨_, hL91, HF.out.1⟩, (S7.out.own HF.out.2 hL91 hne9).mono (by omega)⟩
              · have m0 : (b == 0) = false := by simp [n0]
                have m1 : (b == 1) = false := by simp [n1]
                have m2 : (b == 2) = false := by simp [n2]
                have m3 : (b == 3) = false := by simp [n3]
                clear n0 n1 n2 n3
                -- the vessel goes back into its place
                obtain ⟨L9, hL91, hL92⟩ := O9.out
                have hL9l : L9.length = q := by have := hL92.1; rw [flatCargo_len] at this; omega
                obtain ⟨L8, hL81, hL82⟩ := O9.out
                have hL8l : L8.length = q := by have := hL82.1; rw [flatCargo_len] at this; omega
                obtain ⟨e0, e1, e2⟩ := own_atC hL82 hL8l (k := j) (by omega)
                have z0 := hL82.frozenAt (j * 3)
                have z1 := hL82.frozenAt (j * 3 + 1)
                have z2 := hL82.frozenAt (j * 3 + 2)
                have y0 := B9.out.c0
                have y1 := B9.out.c1
                have y2 := B9.out.c2
                have hxl := B9.out.lt
                have HF := Lib.hid (own_setC hL92 hL9l (k := j) (by omega) vd vl vq)
                have hjq2 : (j : Int) < ((q : Nat) : Int) := by omega
                have hne9 : g1 ≠ g := by omega
                clear hL92 hL82
                go_wp2_with fail
                refine bodyPost_ret (results_tmp rfl _ _ _) rfl ?_
                exact ⟨g1, q, _, rfl, by omega, ⟨_, hL91, HF.out.1⟩, (S9.out.own HF.out.2 hL91 hne9).mono (by omega)⟩
end Go.Proofs.Ytgnopkemcgbedab
