/- Chapter 12: the draw of a plan. -/
import Derived.Test.YtdjoiodkmanacaaPvB
import Derived.Test.YtdjoiodkmanacaaPuL
namespace Go.Proofs.Ytdjoiodkmanacaa
open Go.RowKit Go.PlainAid Go.Sort
set_option linter.unusedVariables false
set_option linter.unusedSimpArgs false

theorem l1LeastP_any (x y : Int) (w : World) :
    Calls Try.prog 81 #[.int .i64 x, .int .i64 y] w fun e w' => e = .returned (.int .i64 (min x y)) ∧ w = w' := by
  by_cases h : x < y
  · have hm : min x y = x := by omega
    rw [hm]
    clear hm
    go_enter Try.func81, Try.ntmps81
    go_wp2_with fail
    go_ret
    exact ⟨rfl, rfl⟩
  · have hm : min x y = y := by omega
    rw [hm]
    clear hm
    go_enter Try.func81, Try.ntmps81
    go_wp2_with fail
    go_ret
    exact ⟨rfl, rfl⟩
/-- What a draw of a plan hands back. -/
def GivesPn (w : World) (g : Nat) (A : Option Addr) (n c : Nat) (p : Int) (e : Ending) (w' : World) : Prop :=
  ∃ (g1 q c1 : Nat) (L : List Int), e = .returned (.slice (some ⟨g1, 0, none⟩) q c1) ∧ q ≤ 11 ∧ L.length = q ∧ w.heap.size ≤ g1 ∧ w'.ownsRow w.heap.size 3 1 (.slice (some ⟨g1, 0, none⟩) q c1) q (L.map (.int .i64)) ∧ CurStep w w' g A n c p 60
theorem cell_one_new (w : World) (u0 : Value) (t : TypeId) : ∀ j u, ([u0] : List Value)[j]? = some u → (w.alloc (.cells #[u0] t)).cell? ((⟨w.heap.size, 0, none⟩ : Addr).add j) = some u := by
  intro j u hu
  rw [addOW, Nat.zero_add, sNew]
  simpa using hu
set_option maxRecDepth 100000 in
set_option maxHeartbeats 8000000 in
theorem plan12_at {g : Nat} {A : Option Addr} {n c : Nat} {p : Int} {zs : List Int} {B : Nat} {w : World} (h : CurAt w g A n c p zs B) (hp : p ≤ 800000000) {BT nZ m : Nat} {A1 D : Option Addr} {Z : List Int} {V : List TPump} (a b d : Int) (q r : Nat) (hT : IsTs w BT A1 nZ Z D m V) (hmz : nZ ≤ 10) (hmv : m ≤ 3) :
    Calls Try.prog 49 #[.pointer (some ⟨g, 0, none⟩), .agg #[.int .i64 a, .int .i64 b, .int .i64 d, .slice A1 nZ q, .slice D m r]] w (GivesPn w g A n c p) := by
  obtain ⟨i0, hi, hz0, hz1, hz2⟩ := info_parts Try.infoInt'
  have H := Lib.hid h
  have hgl := h.lt
  have hp0 := h.p0
  obtain ⟨L0, z0, x0, hCh⟩ := cheA_ex ⟨a, b, d, Z, V⟩
  have hL5 := hCh.len
  have S1 := Lib.hid ((CurStep.refl h.cur).alloc (.cells #[.int .i64 a, .int .i64 b, .int .i64 d, .slice A1 nZ q, .slice D m r] 27))
  have B1 := Lib.hid (BoxT.new w a b d A1 nZ q D m r)
  have C := Lib.hid (cheapS_any a b d q r (hT.upB (below1x w (.cells #[.int .i64 a, .int .i64 b, .int .i64 d, .slice A1 nZ q, .slice D m r] 27))) (by omega) (by omega) L0 z0 x0 hCh L0.length rfl)
  have CL := Lib.hid (fun (x y : Int) (W : World) => l1LeastP_any x y W)
  clear h hT hCh
  go_enter Try.func49, Try.ntmps49
  obtain ⟨W1, hW1⟩ : ∃ x, w.alloc (.cells #[.int .i64 a, .int .i64 b, .int .i64 d, .slice A1 nZ q, .slice D m r] 27) = x := ⟨_, rfl⟩
  obtain ⟨b0, hb0⟩ : ∃ x, w.heap.size = x := ⟨_, rfl⟩
  have hb0g : b0 ≠ g := by omega
  rw [hW1] at S1 B1 C
  rw [show BoxT W1 w.heap.size = BoxT W1 b0 from by rw [hb0]] at B1
  have y0 := B1.out.c0
  have y1 := B1.out.c1
  have y2 := B1.out.c2
  have y3 := B1.out.c3
  have y4 := B1.out.c4
  have hw1 : w.heap.size ≤ W1.heap.size := S1.out.grown.size
  go_wp2_with (rw [hW1])
  try rw [hW1]
  try simp only [hb0]
  refine C.out.mono ?_
  rintro e w2 ⟨g1, c1, rfl, ho, hbl⟩
  have S2 := Lib.hid (S1.out.on hbl)
  have B2 := Lib.hid (B1.out.all hbl)
  have O2 := Lib.hid (own_low ho hw1)
  have hg1 := (ho.lt g1 rfl).1
  clear S1 B1 C ho hbl y0 y1 y2 y3 y4 hW1
  cases x0 with
  | false =>
    have hsw := S2.out.grown.size
    have S4 := Lib.hid (S2.out.alloc (.cells #[] 3))
    have B4 := Lib.hid (B2.out.all (below1x w2 (.cells #[] 3)))
    have O4 : Hid ((w2.alloc (.cells #[] 3)).ownsRow w.heap.size 3 1 (.slice (some ⟨w2.heap.size, 0, none⟩) 0 0) 0 (([] : List Int).map (.int .i64))) := Lib.hid (World.ownsRow_made w2 #[] 0 hsw (by unfold maxLen; omega) rfl)
    clear S2 B2
    go_wp2_with fail
    go_loopw [8, 9] (fun v i wr => ∃ (k g1 c1 : Nat) (L : List Int), i = .int .i64 k ∧ v = .slice (some ⟨g1, 0, none⟩) k c1 ∧ k ≤ nZ ∧ L.length = k ∧ w.heap.size ≤ g1 ∧ Hid (wr.ownsRow w.heap.size 3 1 (.slice (some ⟨g1, 0, none⟩) k c1) k (L.map (.int .i64))) ∧ Hid (BoxT wr b0 a b d A1 nZ q D m r) ∧ Hid (CurStep w wr g A n c p (10 + 2 * (k : Int)))) (fun _ i _ => nZ - (intOf i).toNat)
    case atStart => exact ⟨0, _, 0, [], by go_num, rfl, Nat.zero_le _, rfl, hsw, O4, B4, Lib.hid (S4.out.mono (by omega))⟩
    case round =>
      clear O4 B4 S4
      obtain ⟨k, g1, c1, L, rfl, rfl, hk, hL, hg1, O1, B1, S1⟩ := hrel
      have x3 := B1.out.c3
      have x4 := B1.out.c4
      by_cases hlt : (k : Int) < (nZ : Int)
      · go_wp2_with fail
        refine (CL.out _ _ _).mono ?_
        rintro e w5 ⟨rfl, rfl⟩
        obtain ⟨r5, r50, r51, H5⟩ := S1.out.at H.out
        rcases (show min (m : Int) 2 = 0 ∨ min (m : Int) 2 = 1 ∨ min (m : Int) 2 = 2 by omega) with hm0 | hm0 | hm0
        · rw [hm0]
          go_wp2_with fail
          refine (pick_at H5 (by omega) 1 (by omega)).mono ?_
          rintro e w2 ⟨z9, z90, z91, rfl, hs⟩
          have S3 := Lib.hid (S1.out.then hs r50 r51)
          have O3 := Lib.hid ((O1.out.kept hs.grown (.inr (own_past O1.out hgl))).alloc (.cells #[.int .i64 z9] 3))
          have B3 := Lib.hid ((B1.out.kept hs.grown (by simp; omega)).all (below1x w2 (.cells #[.int .i64 z9] 3)))
          have hwz := S3.out.grown.size
          have S4 := Lib.hid (S3.out.alloc (.cells #[.int .i64 z9] 3))
          clear hs S1 O1 B1 H5 r50 r51 S3 x3 x4
          go_wp2_with (at_builtin; go_loud (refine wpList_append_own _ rfl (.tmp 30) (.tmp 39) 24 rfl w.heap.size 3 i0 (.int .i64 0) 1 8 Try.underlying24 hi hz0 hz1 hz2 rfl (by decide) (.slice (some ⟨g1, 0, none⟩) k c1) k _ rfl O3.out ⟨w2.heap.size, 0, none⟩ 1 1 [.int .i64 z9] rfl rfl (cell_one_new _ _ _) (by simp [Value.oneCell']) (by unfold maxLen; omega) (by omega) (by simp; omega) ?_; intro v1 w1 hown1 hgrow1 hnil1; obtain ⟨g2, c2, rfl, hg2⟩ := own_some hown1 (fun e => nomatch (hnil1.1 e).1); have ho2 : w1.ownsRow w.heap.size 3 1 (.slice (some ⟨g2, 0, none⟩) (k + 1) c2) (k + 1) ((L ++ [z9]).map (.int .i64)) := (by rw [List.map_append]; exact hown1); have O2 := Lib.hid ho2; have S2 := Lib.hid (S4.out.row hgrow1 O3.out hgl); have B2 := Lib.hid (B3.out.kept hgrow1 (fun e => own_off O3.out B3.out ne_it e.symm)); clear hown1 hgrow1 hnil1 ho2))
          go_roundw
          case rel => exact ⟨k + 1, g2, c2, L ++ [z9], by go_num, rfl, by omega, by rw [List.length_append, hL]; rfl, hg2, O2, B2, Lib.hid (S2.out.mono (by push_cast; omega))⟩
          case measure => simp [intOf]; omega
        · rw [hm0]
          go_wp2_with fail
          refine (pick_at H5 (by omega) 2 (by omega)).mono ?_
          rintro e w2 ⟨z9, z90, z91, rfl, hs⟩
          have S3 := Lib.hid (S1.out.then hs r50 r51)
          have O3 := Lib.hid ((O1.out.kept hs.grown (.inr (own_past O1.out hgl))).alloc (.cells #[.int .i64 z9] 3))
          have B3 := Lib.hid ((B1.out.kept hs.grown (by simp; omega)).all (below1x w2 (.cells #[.int .i64 z9] 3)))
          have hwz := S3.out.grown.size
          have S4 := Lib.hid (S3.out.alloc (.cells #[.int .i64 z9] 3))
          clear hs S1 O1 B1 H5 r50 r51 S3 x3 x4
          go_wp2_with (at_builtin; go_loud (refine wpList_append_own _ rfl (.tmp 30) (.tmp 39) 24 rfl w.heap.size 3 i0 (.int .i64 0) 1 8 Try.underlying24 hi hz0 hz1 hz2 rfl (by decide) (.slice (some ⟨g1, 0, none⟩) k c1) k _ rfl O3.out ⟨w2.heap.size, 0, none⟩ 1 1 [.int .i64 z9] rfl rfl (cell_one_new _ _ _) (by simp [Value.oneCell']) (by unfold maxLen; omega) (by omega) (by simp; omega) ?_; intro v1 w1 hown1 hgrow1 hnil1; obtain ⟨g2, c2, rfl, hg2⟩ := own_some hown1 (fun e => nomatch (hnil1.1 e).1); have ho2 : w1.ownsRow w.heap.size 3 1 (.slice (some ⟨g2, 0, none⟩) (k + 1) c2) (k + 1) ((L ++ [z9]).map (.int .i64)) := (by rw [List.map_append]; exact hown1); have O2 := Lib.hid ho2; have S2 := Lib.hid (S4.out.row hgrow1 O3.out hgl); have B2 := Lib.hid (B3.out.kept hgrow1 (fun e => own_off O3.out B3.out ne_it e.symm)); clear hown1 hgrow1 hnil1 ho2))
          go_roundw
          case rel => exact ⟨k + 1, g2, c2, L ++ [z9], by go_num, rfl, by omega, by rw [List.length_append, hL]; rfl, hg2, O2, B2, Lib.hid (S2.out.mono (by push_cast; omega))⟩
          case measure => simp [intOf]; omega
        · rw [hm0]
          go_wp2_with fail
          refine (pick_at H5 (by omega) 4 (by omega)).mono ?_
          rintro e w2 ⟨z9, z90, z91, rfl, hs⟩
          have S3 := Lib.hid (S1.out.then hs r50 r51)
          have O3 := Lib.hid ((O1.out.kept hs.grown (.inr (own_past O1.out hgl))).alloc (.cells #[.int .i64 z9] 3))
          have B3 := Lib.hid ((B1.out.kept hs.grown (by simp; omega)).all (below1x w2 (.cells #[.int .i64 z9] 3)))
          have hwz := S3.out.grown.size
          have S4 := Lib.hid (S3.out.alloc (.cells #[.int .i64 z9] 3))
          clear hs S1 O1 B1 H5 r50 r51 S3 x3 x4
          go_wp2_with (at_builtin; go_loud (refine wpList_append_own _ rfl (.tmp 30) (.tmp 39) 24 rfl w.heap.size 3 i0 (.int .i64 0) 1 8 Try.underlying24 hi hz0 hz1 hz2 rfl (by decide) (.slice (some ⟨g1, 0, none⟩) k c1) k _ rfl O3.out ⟨w2.heap.size, 0, none⟩ 1 1 [.int .i64 z9] rfl rfl (cell_one_new _ _ _) (by simp [Value.oneCell']) (by unfold maxLen; omega) (by omega) (by simp; omega) ?_; intro v1 w1 hown1 hgrow1 hnil1; obtain ⟨g2, c2, rfl, hg2⟩ := own_some hown1 (fun e => nomatch (hnil1.1 e).1); have ho2 : w1.ownsRow w.heap.size 3 1 (.slice (some ⟨g2, 0, none⟩) (k + 1) c2) (k + 1) ((L ++ [z9]).map (.int .i64)) := (by rw [List.map_append]; exact hown1); have O2 := Lib.hid ho2; have S2 := Lib.hid (S4.out.row hgrow1 O3.out hgl); have B2 := Lib.hid (B3.out.kept hgrow1 (fun e => own_off O3.out B3.out ne_it e.symm)); clear hown1 hgrow1 hnil1 ho2))
          go_roundw
          case rel => exact ⟨k + 1, g2, c2, L ++ [z9], by go_num, rfl, by omega, by rw [List.length_append, hL]; rfl, hg2, O2, B2, Lib.hid (S2.out.mono (by push_cast; omega))⟩
          case measure => simp [intOf]; omega
      · obtain rfl : k = nZ := by omega
        go_wp2_with fail
        obtain ⟨r5, r50, r51, H5⟩ := S1.out.at H.out
        refine (pick_at H5 (by omega) 24 (by omega)).mono ?_
        rintro e w6 ⟨b6, b60, b61, rfl, hs⟩
        have S6 := Lib.hid (S1.out.then hs r50 r51)
        have O6 := Lib.hid (O1.out.kept hs.grown (.inr (own_past O1.out hgl)))
        have B6 := Lib.hid (B1.out.kept hs.grown (by simp; omega))
        clear hs S1 O1 B1 H5 r50 r51 x3 x4 b60 b61
        by_cases n0 : b6 = 0
        · subst n0
          have hwz := S6.out.grown.size
          have O3 := Lib.hid (O6.out.alloc (.cells #[.int .i64 0] 3))
          have B3 := Lib.hid (B6.out.all (below1x w6 (.cells #[.int .i64 0] 3)))
          have S4 := Lib.hid (S6.out.alloc (.cells #[.int .i64 0] 3))
          clear S6 O6 B6
          go_wp2_with (at_builtin; go_loud (refine wpList_append_own _ rfl (.tmp 45) (.tmp 46) 24 rfl w.heap.size 3 i0 (.int .i64 0) 1 8 Try.underlying24 hi hz0 hz1 hz2 rfl (by decide) (.slice (some ⟨g1, 0, none⟩) k c1) k _ rfl O3.out ⟨w6.heap.size, 0, none⟩ 1 1 [.int .i64 0] rfl rfl (cell_one_new _ _ _) (by simp [Value.oneCell']) (by unfold maxLen; omega) (by omega) (by simp; omega) ?_; intro v1 w1 hown1 hgrow1 hnil1; obtain ⟨g2, c2, rfl, hg2⟩ := own_some hown1 (fun e => nomatch (hnil1.1 e).1); have ho2 : w1.ownsRow w.heap.size 3 1 (.slice (some ⟨g2, 0, none⟩) (k + 1) c2) (k + 1) ((L ++ [0]).map (.int .i64)) := (by rw [List.map_append]; exact hown1); have O2 := Lib.hid ho2; have S2 := Lib.hid (S4.out.row hgrow1 O3.out hgl); have B2 := Lib.hid (B3.out.kept hgrow1 (fun e => own_off O3.out B3.out ne_it e.symm)); clear hown1 hgrow1 hnil1 ho2))
          go_ret
          exact ⟨g2, k + 1, c2, L ++ [0], rfl, by omega, by rw [List.length_append, hL]; rfl, hg2, O2.out, S2.out.mono (by omega)⟩
        · by_cases n1 : b6 = 1
          · subst n1
            by_cases hk0 : 0 < (k : Int)
            · obtain ⟨y, L', rfl⟩ : ∃ y L', L = y :: L' := by
                cases L with
                | nil => simp at hL; omega
                | cons y L' => exact ⟨y, L', rfl⟩
              obtain ⟨r5, r50, r51, H5⟩ := S6.out.at H.out
              go_wp2_with fail
              refine (among_new H5 (by omega) [-1, 4, 2] 3 rfl (by omega) (by omega) w6.heap.size rfl).mono ?_
              rintro e w7 ⟨z, -, rfl, hs⟩
              have S7 := Lib.hid (S6.out.then hs r50 r51)
              have O7 := Lib.hid (O6.out.kept hs.grown (.inr (own_past O6.out hgl)))
              clear hs S6 O6 B6 H5 r50 r51
              have hst := O7.out.stored 0 (.int .i64 z)
              have ce : w7.cell? ⟨g1, 0, none⟩ = some (.int .i64 y) := by
                have := O7.out.cellAt 0 (by omega)
                simpa using this
              have cf := O7.out.frozenAt 0
              have HST := Lib.hid hst
              clear hst
              go_wp2_with fail
              go_ret
              exact ⟨g1, k, c1, z :: L', rfl, by omega, by simpa using hL, hg1, by simpa using HST.out.1, (S7.out.own HST.out.2 hg1 (by omega)).mono (by omega)⟩
            · go_wp2_with fail
              go_ret
              exact ⟨g1, k, c1, L, rfl, by omega, hL, hg1, O6.out, S6.out.mono (by omega)⟩
          · have m0 : (b6 == 0) = false := by simp [n0]
            have m1 : (b6 == 1) = false := by simp [n1]
            clear n0 n1
            go_wp2_with fail
            go_ret
            exact ⟨g1, k, c1, L, rfl, by omega, hL, hg1, O6.out, S6.out.mono (by omega)⟩
  | true =>
    go_wp2_with fail
    obtain ⟨r5, r50, r51, H5⟩ := S2.out.at H.out
    refine (one_at H5 (by omega) 3 (by omega)).mono ?_
    rintro e w3 ⟨b3, rfl, hs⟩
    have S3 := Lib.hid (S2.out.then hs r50 r51)
    have B3 := Lib.hid (B2.out.kept hs.grown (by simp; omega))
    have O3 := Lib.hid (O2.out.kept hs.grown (.inr (own_past O2.out hgl)))
    clear hs S2 B2 O2 H5 r50 r51
    cases b3 with
    | true =>
      go_wp2_with fail
      go_ret
      exact ⟨g1, L0.length, c1, L0, rfl, by omega, rfl, by omega, O3.out, S3.out.mono (by omega)⟩
    | false =>
      clear O3
      have hsw := S3.out.grown.size
      have S4 := Lib.hid (S3.out.alloc (.cells #[] 3))
      have B4 := Lib.hid (B3.out.all (below1x w3 (.cells #[] 3)))
      have O4 : Hid ((w3.alloc (.cells #[] 3)).ownsRow w.heap.size 3 1 (.slice (some ⟨w3.heap.size, 0, none⟩) 0 0) 0 (([] : List Int).map (.int .i64))) := Lib.hid (World.ownsRow_made w3 #[] 0 hsw (by unfold maxLen; omega) rfl)
      clear S3 B3
      go_wp2_with fail
      go_loopw [8, 9] (fun v i wr => ∃ (k g1 c1 : Nat) (L : List Int), i = .int .i64 k ∧ v = .slice (some ⟨g1, 0, none⟩) k c1 ∧ k ≤ nZ ∧ L.length = k ∧ w.heap.size ≤ g1 ∧ Hid (wr.ownsRow w.heap.size 3 1 (.slice (some ⟨g1, 0, none⟩) k c1) k (L.map (.int .i64))) ∧ Hid (BoxT wr b0 a b d A1 nZ q D m r) ∧ Hid (CurStep w wr g A n c p (10 + 2 * (k : Int)))) (fun _ i _ => nZ - (intOf i).toNat)
      case atStart => exact ⟨0, _, 0, [], by go_num, rfl, Nat.zero_le _, rfl, hsw, O4, B4, Lib.hid (S4.out.mono (by omega))⟩
      case round =>
        clear O4 B4 S4
        obtain ⟨k, g1, c1, L, rfl, rfl, hk, hL, hg1, O1, B1, S1⟩ := hrel
        have x3 := B1.out.c3
        have x4 := B1.out.c4
        by_cases hlt : (k : Int) < (nZ : Int)
        · go_wp2_with fail
          refine (CL.out _ _ _).mono ?_
          rintro e w5 ⟨rfl, rfl⟩
          obtain ⟨r5, r50, r51, H5⟩ := S1.out.at H.out
          rcases (show min (m : Int) 2 = 0 ∨ min (m : Int) 2 = 1 ∨ min (m : Int) 2 = 2 by omega) with hm0 | hm0 | hm0
          · rw [hm0]
            go_wp2_with fail
            refine (pick_at H5 (by omega) 1 (by omega)).mono ?_
            rintro e w2 ⟨z9, z90, z91, rfl, hs⟩
            have S3 := Lib.hid (S1.out.then hs r50 r51)
            have O3 := Lib.hid ((O1.out.kept hs.grown (.inr (own_past O1.out hgl))).alloc (.cells #[.int .i64 z9] 3))
            have B3 := Lib.hid ((B1.out.kept hs.grown (by simp; omega)).all (below1x w2 (.cells #[.int .i64 z9] 3)))
            have hwz := S3.out.grown.size
            have S4 := Lib.hid (S3.out.alloc (.cells #[.int .i64 z9] 3))
            clear hs S1 O1 B1 H5 r50 r51 S3 x3 x4
            go_wp2_with (at_builtin; go_loud (refine wpList_append_own _ rfl (.tmp 30) (.tmp 39) 24 rfl w.heap.size 3 i0 (.int .i64 0) 1 8 Try.underlying24 hi hz0 hz1 hz2 rfl (by decide) (.slice (some ⟨g1, 0, none⟩) k c1) k _ rfl O3.out ⟨w2.heap.size, 0, none⟩ 1 1 [.int .i64 z9] rfl rfl (cell_one_new _ _ _) (by simp [Value.oneCell']) (by unfold maxLen; omega) (by omega) (by simp; omega) ?_; intro v1 w1 hown1 hgrow1 hnil1; obtain ⟨g2, c2, rfl, hg2⟩ := own_some hown1 (fun e => nomatch (hnil1.1 e).1); have ho2 : w1.ownsRow w.heap.size 3 1 (.slice (some ⟨g2, 0, none⟩) (k + 1) c2) (k + 1) ((L ++ [z9]).map (.int .i64)) := (by rw [List.map_append]; exact hown1); have O2 := Lib.hid ho2; have S2 := Lib.hid (S4.out.row hgrow1 O3.out hgl); have B2 := Lib.hid (B3.out.kept hgrow1 (fun e => own_off O3.out B3.out ne_it e.symm)); clear hown1 hgrow1 hnil1 ho2))
            go_roundw
            case rel => exact ⟨k + 1, g2, c2, L ++ [z9], by go_num, rfl, by omega, by rw [List.length_append, hL]; rfl, hg2, O2, B2, Lib.hid (S2.out.mono (by push_cast; omega))⟩
            case measure => simp [intOf]; omega
          · rw [hm0]
            go_wp2_with fail
            refine (pick_at H5 (by omega) 2 (by omega)).mono ?_
            rintro e w2 ⟨z9, z90, z91, rfl, hs⟩
            have S3 := Lib.hid (S1.out.then hs r50 r51)
            have O3 := Lib.hid ((O1.out.kept hs.grown (.inr (own_past O1.out hgl))).alloc (.cells #[.int .i64 z9] 3))
            have B3 := Lib.hid ((B1.out.kept hs.grown (by simp; omega)).all (below1x w2 (.cells #[.int .i64 z9] 3)))
            have hwz := S3.out.grown.size
            have S4 := Lib.hid (S3.out.alloc (.cells #[.int .i64 z9] 3))
            clear hs S1 O1 B1 H5 r50 r51 S3 x3 x4
            go_wp2_with (at_builtin; go_loud (refine wpList_append_own _ rfl (.tmp 30) (.tmp 39) 24 rfl w.heap.size 3 i0 (.int .i64 0) 1 8 Try.underlying24 hi hz0 hz1 hz2 rfl (by decide) (.slice (some ⟨g1, 0, none⟩) k c1) k _ rfl O3.out ⟨w2.heap.size, 0, none⟩ 1 1 [.int .i64 z9] rfl rfl (cell_one_new _ _ _) (by simp [Value.oneCell']) (by unfold maxLen; omega) (by omega) (by simp; omega) ?_; intro v1 w1 hown1 hgrow1 hnil1; obtain ⟨g2, c2, rfl, hg2⟩ := own_some hown1 (fun e => nomatch (hnil1.1 e).1); have ho2 : w1.ownsRow w.heap.size 3 1 (.slice (some ⟨g2, 0, none⟩) (k + 1) c2) (k + 1) ((L ++ [z9]).map (.int .i64)) := (by rw [List.map_append]; exact hown1); have O2 := Lib.hid ho2; have S2 := Lib.hid (S4.out.row hgrow1 O3.out hgl); have B2 := Lib.hid (B3.out.kept hgrow1 (fun e => own_off O3.out B3.out ne_it e.symm)); clear hown1 hgrow1 hnil1 ho2))
            go_roundw
            case rel => exact ⟨k + 1, g2, c2, L ++ [z9], by go_num, rfl, by omega, by rw [List.length_append, hL]; rfl, hg2, O2, B2, Lib.hid (S2.out.mono (by push_cast; omega))⟩
            case measure => simp [intOf]; omega
          · rw [hm0]
            go_wp2_with fail
            refine (pick_at H5 (by omega) 4 (by omega)).mono ?_
            rintro e w2 ⟨z9, z90, z91, rfl, hs⟩
            have S3 := Lib.hid (S1.out.then hs r50 r51)
            have O3 := Lib.hid ((O1.out.kept hs.grown (.inr (own_past O1.out hgl))).alloc (.cells #[.int .i64 z9] 3))
            have B3 := Lib.hid ((B1.out.kept hs.grown (by simp; omega)).all (below1x w2 (.cells #[.int .i64 z9] 3)))
            have hwz := S3.out.grown.size
            have S4 := Lib.hid (S3.out.alloc (.cells #[.int .i64 z9] 3))
            clear hs S1 O1 B1 H5 r50 r51 S3 x3 x4
            go_wp2_with (at_builtin; go_loud (refine wpList_append_own _ rfl (.tmp 30) (.tmp 39) 24 rfl w.heap.size 3 i0 (.int .i64 0) 1 8 Try.underlying24 hi hz0 hz1 hz2 rfl (by decide) (.slice (some ⟨g1, 0, none⟩) k c1) k _ rfl O3.out ⟨w2.heap.size, 0, none⟩ 1 1 [.int .i64 z9] rfl rfl (cell_one_new _ _ _) (by simp [Value.oneCell']) (by unfold maxLen; omega) (by omega) (by simp; omega) ?_; intro v1 w1 hown1 hgrow1 hnil1; obtain ⟨g2, c2, rfl, hg2⟩ := own_some hown1 (fun e => nomatch (hnil1.1 e).1); have ho2 : w1.ownsRow w.heap.size 3 1 (.slice (some ⟨g2, 0, none⟩) (k + 1) c2) (k + 1) ((L ++ [z9]).map (.int .i64)) := (by rw [List.map_append]; exact hown1); have O2 := Lib.hid ho2; have S2 := Lib.hid (S4.out.row hgrow1 O3.out hgl); have B2 := Lib.hid (B3.out.kept hgrow1 (fun e => own_off O3.out B3.out ne_it e.symm)); clear hown1 hgrow1 hnil1 ho2))
            go_roundw
            case rel => exact ⟨k + 1, g2, c2, L ++ [z9], by go_num, rfl, by omega, by rw [List.length_append, hL]; rfl, hg2, O2, B2, Lib.hid (S2.out.mono (by push_cast; omega))⟩
            case measure => simp [intOf]; omega
        · obtain rfl : k = nZ := by omega
          go_wp2_with fail
          obtain ⟨r5, r50, r51, H5⟩ := S1.out.at H.out
          refine (pick_at H5 (by omega) 24 (by omega)).mono ?_
          rintro e w6 ⟨b6, b60, b61, rfl, hs⟩
          have S6 := Lib.hid (S1.out.then hs r50 r51)
          have O6 := Lib.hid (O1.out.kept hs.grown (.inr (own_past O1.out hgl)))
          have B6 := Lib.hid (B1.out.kept hs.grown (by simp; omega))
          clear hs S1 O1 B1 H5 r50 r51 x3 x4 b60 b61
          by_cases n0 : b6 = 0
          · subst n0
            have hwz := S6.out.grown.size
            have O3 := Lib.hid (O6.out.alloc (.cells #[.int .i64 0] 3))
            have B3 := Lib.hid (B6.out.all (below1x w6 (.cells #[.int .i64 0] 3)))
            have S4 := Lib.hid (S6.out.alloc (.cells #[.int .i64 0] 3))
            clear S6 O6 B6
            go_wp2_with (at_builtin; go_loud (refine wpList_append_own _ rfl (.tmp 45) (.tmp 46) 24 rfl w.heap.size 3 i0 (.int .i64 0) 1 8 Try.underlying24 hi hz0 hz1 hz2 rfl (by decide) (.slice (some ⟨g1, 0, none⟩) k c1) k _ rfl O3.out ⟨w6.heap.size, 0, none⟩ 1 1 [.int .i64 0] rfl rfl (cell_one_new _ _ _) (by simp [Value.oneCell']) (by unfold maxLen; omega) (by omega) (by simp; omega) ?_; intro v1 w1 hown1 hgrow1 hnil1; obtain ⟨g2, c2, rfl, hg2⟩ := own_some hown1 (fun e => nomatch (hnil1.1 e).1); have ho2 : w1.ownsRow w.heap.size 3 1 (.slice (some ⟨g2, 0, none⟩) (k + 1) c2) (k + 1) ((L ++ [0]).map (.int .i64)) := (by rw [List.map_append]; exact hown1); have O2 := Lib.hid ho2; have S2 := Lib.hid (S4.out.row hgrow1 O3.out hgl); have B2 := Lib.hid (B3.out.kept hgrow1 (fun e => own_off O3.out B3.out ne_it e.symm)); clear hown1 hgrow1 hnil1 ho2))
            go_ret
            exact ⟨g2, k + 1, c2, L ++ [0], rfl, by omega, by rw [List.length_append, hL]; rfl, hg2, O2.out, S2.out.mono (by omega)⟩
          · by_cases n1 : b6 = 1
            · subst n1
              by_cases hk0 : 0 < (k : Int)
              · obtain ⟨y, L', rfl⟩ : ∃ y L', L = y :: L' := by
                  cases L with
                  | nil => simp at hL; omega
                  | cons y L' => exact ⟨y, L', rfl⟩
                obtain ⟨r5, r50, r51, H5⟩ := S6.out.at H.out
                go_wp2_with fail
                refine (among_new H5 (by omega) [-1, 4, 2] 3 rfl (by omega) (by omega) w6.heap.size rfl).mono ?_
                rintro e w7 ⟨z, -, rfl, hs⟩
                have S7 := Lib.hid (S6.out.then hs r50 r51)
                have O7 := Lib.hid (O6.out.kept hs.grown (.inr (own_past O6.out hgl)))
                clear hs S6 O6 B6 H5 r50 r51
                have hst := O7.out.stored 0 (.int .i64 z)
                have ce : w7.cell? ⟨g1, 0, none⟩ = some (.int .i64 y) := by
                  have := O7.out.cellAt 0 (by omega)
                  simpa using this
                have cf := O7.out.frozenAt 0
                have HST := Lib.hid hst
                clear hst
                go_wp2_with fail
                go_ret
                exact ⟨g1, k, c1, z :: L', rfl, by omega, by simpa using hL, hg1, by simpa using HST.out.1, (S7.out.own HST.out.2 hg1 (by omega)).mono (by omega)⟩
              · go_wp2_with fail
                go_ret
                exact ⟨g1, k, c1, L, rfl, by omega, hL, hg1, O6.out, S6.out.mono (by omega)⟩
            · have m0 : (b6 == 0) = false := by simp [n0]
              have m1 : (b6 == 1) = false := by simp [n1]
              clear n0 n1
              go_wp2_with fail
              go_ret
              exact ⟨g1, k, c1, L, rfl, by omega, hL, hg1, O6.out, S6.out.mono (by omega)⟩
end Go.Proofs.Ytdjoiodkmanacaa
