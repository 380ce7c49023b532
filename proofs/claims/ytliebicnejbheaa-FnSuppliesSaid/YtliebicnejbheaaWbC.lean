/- Chapter 10: the lists of flows that the laws draw. -/
import Derived.Test.YtliebicnejbheaaWbB
namespace Go.Proofs.Ytliebicnejbheaa
open Go.RowKit Go.PlainAid Go.Sort
set_option linter.unusedVariables false
set_option linter.unusedSimpArgs false

/-- Flows in a row of one's own. -/
def OwnFl (w W : World) (g1 q c1 : Nat) : Prop := ∃ L : List TFlow, w.heap.size ≤ g1 ∧ W.ownsRow w.heap.size 38 3 (.slice (some ⟨g1, 0, none⟩) q c1) q (flatFlow L)
theorem OwnFl.kept {w W W' : World} {g1 q c1 : Nat} {g : Nat} (h : OwnFl w W g1 q c1) (hg : W.grownBy W' (some g)) (hne : g1 ≠ g) : OwnFl w W' g1 q c1 := by
  obtain ⟨L, h1, h2⟩ := h
  exact ⟨L, h1, h2.kept hg (.inr (by simp [Value.ownBlock]; exact hne))⟩
theorem OwnFl.below {w W W' : World} {g1 q c1 : Nat} (h : OwnFl w W g1 q c1) (hb : Below W.heap.size W W') : OwnFl w W' g1 q c1 := by
  obtain ⟨L, h1, h2⟩ := h
  exact ⟨L, h1, own_below h2 hb⟩
theorem OwnFl.g {w W : World} {g1 q c1 : Nat} (h : OwnFl w W g1 q c1) : w.heap.size ≤ g1 := by
  obtain ⟨L, h1, h2⟩ := h
  exact h1
def GivesFl (w : World) (g : Nat) (A : Option Addr) (n c : Nat) (p : Int) (e : Ending) (w' : World) : Prop :=
  ∃ g1 q c1, e = .returned (.slice (some ⟨g1, 0, none⟩) q c1) ∧ q ≤ 16 ∧ OwnFl w w' g1 q c1 ∧ CurStep w w' g A n c p 400
set_option maxRecDepth 100000 in
set_option maxHeartbeats 4000000 in
theorem flows_at {g : Nat} {A : Option Addr} {n c : Nat} {p : Int} {zs : List Int} {B : Nat} {w : World} (h : CurAt w g A n c p zs B) (hp : p ≤ 700000000) (m : Nat) (hm : m ≤ 100) :
    Calls Try.prog 57 #[.pointer (some ⟨g, 0, none⟩), .int .i64 (m : Int)] w (GivesFl w g A n c p) := by
  obtain ⟨i0, hi, hz0, hz1, hz2⟩ := info_parts Try.infoFlow'
  have H := Lib.hid h
  have hgl := h.lt
  have hp0 := h.p0
  have CG := Lib.hid (fun f0 f1 f2 W => l10Flow_any m f0 f1 f2 W (by unfold maxLen; omega))
  have S1 := Lib.hid ((CurStep.refl h.cur).alloc (.cells #[] 38))
  have O1 : Hid (OwnFl w (w.alloc (.cells #[] 38)) w.heap.size 0 0) := Lib.hid ⟨[], Nat.le_refl _, World.ownsRow_made w #[] 0 (Nat.le_refl _) (by unfold maxLen; omega) rfl⟩
  have hbg : w.heap.size ≠ g := by omega
  clear h
  go_enter Try.func57, Try.ntmps57
  go_wp2_with fail
  obtain ⟨W1, hW1⟩ : ∃ x, w.alloc (.cells #[] 38) = x := ⟨_, rfl⟩
  rw [hW1] at S1 O1 ⊢
  obtain ⟨xb, hxb⟩ : ∃ x, w.heap.size = x := ⟨_, rfl⟩
  rw [hxb] at O1 hbg
  try simp only [hxb]
  obtain ⟨r5, r50, r51, H5⟩ := S1.out.at H.out
  refine (pick_at H5 (by omega) _ (by omega)).mono ?_
  rintro e w6 ⟨b6, b60, b61, rfl, hs⟩
  obtain ⟨k6, rfl⟩ : ∃ k : Nat, b6 = (k : Int) := ⟨b6.toNat, by omega⟩
  have hk6 : k6 ≤ 7 := by omega
  have S6 := Lib.hid ((S1.out.then hs r50 r51).mono (d' := 10 + 30 * (8 - (k6 : Int))) (by omega))
  have O6 := Lib.hid (O1.out.kept hs.grown (by omega))
  clear hs S1 O1 H5 r50 r51 b60 b61 hW1
  go_wp2_with fail
  go_loopw [5, 6] (fun v i wr => ∃ (k q g1 c1 : Nat), k ≤ 7 ∧ i = .int .i64 k ∧ v = .slice (some ⟨g1, 0, none⟩) q c1 ∧ q + k ≤ 7 ∧ Hid (OwnFl w wr g1 q c1) ∧ Hid (CurStep w wr g A n c p (10 + 30 * (8 - (k : Int))))) (fun _ i _ => (intOf i).toNat)
  case atStart => exact ⟨k6, 0, xb, 0, by omega, rfl, rfl, by omega, O6, S6⟩
  case round =>
    clear O6 S6 hk6
    obtain ⟨k, q, g1, c1, hk, rfl, rfl, hq, O6, S6⟩ := hrel
    have hgg := O6.out.g
    by_cases hlt : 0 < (k : Int)
    · obtain ⟨k, rfl⟩ : ∃ j, k = j + 1 := ⟨k - 1, by omega⟩
      obtain ⟨r5, r50, r51, H5⟩ := S6.out.at H.out
      go_wp2_with fail
      refine (flow_at H5 (by push_cast at r51; omega) m hm).mono ?_
      rintro e w7 ⟨f0, f1, f2, rfl, hs⟩
      have S7 := Lib.hid ((S6.out.then hs r50 r51).alloc (.cells #[.int .i64 f0, .int .i64 f1, .int .i64 f2] 38))
      have O7 := Lib.hid ((O6.out.kept hs.grown (by omega)).below (below1 w7 (.cells #[.int .i64 f0, .int .i64 f1, .int .i64 f2] 38)))
      have BX7 := Lib.hid (BoxF.new w7 f0 f1 f2)
      have hgl7 : g < w7.heap.size := Nat.lt_of_lt_of_le hgl (Nat.le_trans S6.out.grown.size hs.grown.size)
      clear hs S6 O6 H5 r50 r51
      go_wp2_with fail
      obtain ⟨wi, hwi⟩ : ∃ W, w7.alloc (.cells #[.int .i64 f0, .int .i64 f1, .int .i64 f2] 38) = W := ⟨_, rfl⟩
      obtain ⟨xf, hxf⟩ : ∃ x, w7.heap.size = x := ⟨_, rfl⟩
      rw [hwi] at S7 O7 BX7 ⊢
      rw [hxf] at BX7 hgl7
      try simp only [hxf]
      clear hwi hxf
      have D := Lib.hid (CG.out f0 f1 f2 wi)
      generalize gF m ⟨f0, f1, f2⟩ = G at D
      refine D.out.mono ?_
      rintro e w8 ⟨rfl, hb⟩
      have S8 := Lib.hid (S7.out.on hb)
      have O8 := Lib.hid (O7.out.below hb)
      have BX8 := Lib.hid (BX7.out.all hb)
      have hfg : xf ≠ g := by omega
      clear hb D S7 O7 BX7
      cases G with
      | true =>
        have y0 := BX8.out.c0
        have y1 := BX8.out.c1
        have y2 := BX8.out.c2
        obtain ⟨L7, hg7, ho7⟩ := O8.out
        have hne7 : g1 ≠ g := by omega
        have hsz7 := S8.out.grown.size
        have HS7 := Lib.hid (S8.out.alloc (.cells #[.int .i64 f0, .int .i64 f1, .int .i64 f2] 38))
        clear O8 S8
        go_wp2_with (at_builtin; go_loud (refine wpList_append_own _ rfl (.tmp 26) (.tmp 28) 25 rfl w.heap.size 38 i0 (.agg #[.int .i64 0, .int .i64 0, .int .i64 0]) 3 24 Try.underlying25 hi hz0 hz1 hz2 rfl (by decide) (.slice (some ⟨g1, 0, none⟩) q c1) q _ rfl (ho7.alloc (.cells #[.int .i64 f0, .int .i64 f1, .int .i64 f2] 38)) ⟨w8.heap.size, 0, none⟩ 1 1 [.int .i64 f0, .int .i64 f1, .int .i64 f2] rfl rfl (cell_three_new _ _ _ _ _) (by simp [Value.oneCell']) (by unfold maxLen; omega) (by omega) (by simp; omega) ?_; intro v1 w1 hown1 hgrow1 hnil1; obtain ⟨g2, c2, rfl, hg2⟩ := own_some hown1 (fun e => nomatch (hnil1.1 e).1); have S9 := Lib.hid (HS7.out.own hgrow1 hg7 hne7); have O9 : Hid (OwnFl w w1 g2 (q + 1) c2) := Lib.hid ⟨L7 ++ [(⟨f0, f1, f2⟩ : TFlow)], hg2, (by rw [flatFlow_append]; exact hown1)⟩; clear hnil1 hgrow1 hown1 HS7 ho7))
        go_roundw
        case rel => exact ⟨k, q + 1, g2, c2, by omega, by go_num, rfl, by omega, O9, Lib.hid (S9.out.mono (by push_cast; omega))⟩
        case measure => simp [intOf]
      | false =>
        obtain ⟨r5, r50, r51, H5⟩ := S8.out.at H.out
        go_wp2_with fail
        refine (one_at H5 (by push_cast at r51; omega) 12 (by omega)).mono ?_
        rintro e w9 ⟨bb, rfl, hs⟩
        have SA := Lib.hid (S8.out.then hs r50 r51)
        have OA := Lib.hid (O8.out.kept hs.grown (by omega))
        have BXA := Lib.hid (BX8.out.kept hs.grown (fun e => hfg (by injection e)))
        clear hs S8 O8 BX8 H5 r50 r51
        cases bb with
        | true =>
          have y0 := BXA.out.c0
          have y1 := BXA.out.c1
          have y2 := BXA.out.c2
          obtain ⟨L7, hg7, ho7⟩ := OA.out
          have hne7 : g1 ≠ g := by omega
          have hsz7 := SA.out.grown.size
          have HS7 := Lib.hid (SA.out.alloc (.cells #[.int .i64 f0, .int .i64 f1, .int .i64 f2] 38))
          clear OA SA
          go_wp2_with (at_builtin; go_loud (refine wpList_append_own _ rfl (.tmp 26) (.tmp 28) 25 rfl w.heap.size 38 i0 (.agg #[.int .i64 0, .int .i64 0, .int .i64 0]) 3 24 Try.underlying25 hi hz0 hz1 hz2 rfl (by decide) (.slice (some ⟨g1, 0, none⟩) q c1) q _ rfl (ho7.alloc (.cells #[.int .i64 f0, .int .i64 f1, .int .i64 f2] 38)) ⟨w9.heap.size, 0, none⟩ 1 1 [.int .i64 f0, .int .i64 f1, .int .i64 f2] rfl rfl (cell_three_new _ _ _ _ _) (by simp [Value.oneCell']) (by unfold maxLen; omega) (by omega) (by simp; omega) ?_; intro v1 w1 hown1 hgrow1 hnil1; obtain ⟨g2, c2, rfl, hg2⟩ := own_some hown1 (fun e => nomatch (hnil1.1 e).1); have S9 := Lib.hid (HS7.out.own hgrow1 hg7 hne7); have O9 : Hid (OwnFl w w1 g2 (q + 1) c2) := Lib.hid ⟨L7 ++ [(⟨f0, f1, f2⟩ : TFlow)], hg2, (by rw [flatFlow_append]; exact hown1)⟩; clear hnil1 hgrow1 hown1 HS7 ho7))
          go_roundw
          case rel => exact ⟨k, q + 1, g2, c2, by omega, by go_num, rfl, by omega, O9, Lib.hid (S9.out.mono (by push_cast; omega))⟩
          case measure => simp [intOf]
        | false =>
          go_wp2_with fail
          go_roundw
          case rel => exact ⟨k, q, g1, c1, by omega, by go_num, rfl, by omega, OA, Lib.hid (SA.out.mono (by push_cast; omega))⟩
          case measure => simp [intOf]
    · obtain rfl : k = 0 := by omega
      have SR := Lib.hid (S6.out.mono (d' := 250) (by omega))
      have OR := O6
      clear S6 O6 hlt CG
      go_wp2_with fail
      obtain ⟨r5, r50, r51, H5⟩ := SR.out.at H.out
      refine (one_at H5 (by omega) 24 (by omega)).mono ?_
      rintro e w7 ⟨b, rfl, hs⟩
      have S7 := Lib.hid (SR.out.then hs r50 r51)
      have O7 := Lib.hid (OR.out.kept hs.grown (by omega))
      clear hs SR OR H5 r50 r51
      cases b with
      | false => 
        go_wp2_with fail
        refine bodyPost_ret (results_tmp rfl _ _ _) rfl ?_
        exact ⟨g1, q, _, rfl, by omega, O7.out, S7.out.mono (by omega)⟩
      | true =>
        have S7' := Lib.hid (S7.out.mono (d' := 260 + 2 * ((0 : Nat) : Int)) (by omega))
        clear S7 hgg
        go_wp2_with fail
        go_loopw [5, 8] (fun v i wr => ∃ (j q g1 c1 : Nat), v = .slice (some ⟨g1, 0, none⟩) q c1 ∧ i = .int .i64 j ∧ j ≤ 14 ∧ q ≤ 13 ∧ Hid (OwnFl w wr g1 q c1) ∧ Hid (CurStep w wr g A n c p (260 + 2 * (j : Int)))) (fun v i _ => 15 - (intOf i).toNat)
        case atStart => exact ⟨0, q, g1, c1, rfl, rfl, by omega, by omega, O7, S7'⟩
        case round =>
          clear O7 S7' hq
          obtain ⟨j, q, g1, c1, rfl, rfl, hj, hq, O8, S8⟩ := hrel
          have hgg := O8.out.g
          obtain ⟨r5, r50, r51, H5⟩ := S8.out.at H.out
          go_wp2_with fail
          refine (pick_at H5 (by omega) 2 (by omega)).mono ?_
          rintro e w7 ⟨b7, b70, b71, rfl, hs⟩
          have S7 := Lib.hid (S8.out.then hs r50 r51)
          have O7 := Lib.hid (O8.out.kept hs.grown (by omega))
          clear hs S8 O8 H5 r50 r51
          by_cases hlt : (q : Int) < 12 + b7
          · by_cases hj8 : (j : Int) < 14
            · have hj0 : (0 : Int) ≤ (j : Int) := by omega
              obtain ⟨L7, hg7, ho7⟩ := O7.out
              have hne7 : g1 ≠ g := by omega
              have hsz7 := S7.out.grown.size
              have HS7 := Lib.hid (S7.out.alloc (.cells #[.int .i64 (-1), .int .i64 0, .int .i64 1] 38))
              clear O7 S7
              go_wp2_with (at_builtin; go_loud (refine wpList_append_own _ rfl (.tmp 44) (.tmp 46) 25 rfl w.heap.size 38 i0 (.agg #[.int .i64 0, .int .i64 0, .int .i64 0]) 3 24 Try.underlying25 hi hz0 hz1 hz2 rfl (by decide) (.slice (some ⟨g1, 0, none⟩) q c1) q _ rfl (ho7.alloc (.cells #[.int .i64 (-1), .int .i64 0, .int .i64 1] 38)) ⟨w7.heap.size, 0, none⟩ 1 1 [.int .i64 (-1), .int .i64 0, .int .i64 1] rfl rfl (cell_three_new _ _ _ _ _) (by simp [Value.oneCell']) (by unfold maxLen; omega) (by omega) (by simp; omega) ?_; intro v1 w1 hown1 hgrow1 hnil1; obtain ⟨g2, c2, rfl, hg2⟩ := own_some hown1 (fun e => nomatch (hnil1.1 e).1); have S9 := Lib.hid (HS7.out.own hgrow1 hg7 hne7); have O9 : Hid (OwnFl w w1 g2 (q + 1) c2) := Lib.hid ⟨L7 ++ [(⟨-1, 0, 1⟩ : TFlow)], hg2, (by rw [flatFlow_append]; exact hown1)⟩; clear hnil1 hgrow1 hown1 HS7 ho7))
              go_roundw
              case rel => exact ⟨j + 1, q + 1, g2, c2, rfl, by go_num, by omega, by omega, O9, Lib.hid (S9.out.mono (by push_cast; omega))⟩
              case measure => simp [intOf]; omega
            · go_wp2_with fail
              refine bodyPost_ret (results_tmp rfl _ _ _) rfl ?_
              exact ⟨g1, q, _, rfl, by omega, O7.out, S7.out.mono (by omega)⟩
          · go_wp2_with fail
            refine bodyPost_ret (results_tmp rfl _ _ _) rfl ?_
            exact ⟨g1, q, _, rfl, by omega, O7.out, S7.out.mono (by omega)⟩
end Go.Proofs.Ytliebicnejbheaa
