/- Chapter 6: bounds that the laws draw. -/
import Derived.Test.YteeljlpbijmhlaaSeDr
import Derived.Test.YteeljlpbijmhlaaSBound
import Derived.Maps.AppendAt
namespace Go.Proofs.Yteeljlpbijmhlaa
open Go.RowKit Go.PlainAid Go.Sort
set_option linter.unusedVariables false
set_option linter.unusedSimpArgs false

/-- Bounds in a row of one's own. -/
def OwnB (w W : World) (g1 q c1 : Nat) : Prop := ∃ L : List TBound, w.heap.size ≤ g1 ∧ W.ownsRow w.heap.size 46 2 (.slice (some ⟨g1, 0, none⟩) q c1) q (flatBound L)
theorem OwnB.kept {w W W' : World} {g1 q c1 : Nat} {g : Nat} (h : OwnB w W g1 q c1) (hg : W.grownBy W' (some g)) (hne : g1 ≠ g) : OwnB w W' g1 q c1 := by
  obtain ⟨L, h1, h2⟩ := h
  exact ⟨L, h1, h2.kept hg (.inr (by simp [Value.ownBlock]; exact hne))⟩
theorem OwnB.g {w W : World} {g1 q c1 : Nat} (h : OwnB w W g1 q c1) : w.heap.size ≤ g1 := by
  obtain ⟨L, h1, h2⟩ := h
  exact h1
/-- Bounds that lie in a block. -/
def RowB (W : World) (g1 q : Nat) (vs : List TBound) : Prop := vs.length = q ∧ ∀ k u, (flatBound vs)[k]? = some u → W.cell? ⟨g1, k, none⟩ = some u
theorem RowB.kept {W W' : World} {g1 q g : Nat} {vs : List TBound} (h : RowB W g1 q vs) (hg : W.grownBy W' (some g)) (hne : g1 ≠ g) : RowB W' g1 q vs :=
  ⟨h.1, fun k u hu => by
    have hc := h.2 k u hu
    have hl := World.block_lt_of_cell? W ⟨g1, k, none⟩ hc
    exact (World.cell?_of_block (a := ⟨g1, k, none⟩) (hg.block g1 hl (fun e => hne (by cases e; rfl)))).trans hc⟩
theorem RowB.isB {W : World} {g1 q : Nat} {vs : List TBound} (h : RowB W g1 q vs) : IsBounds W W.heap.size (some ⟨g1, 0, none⟩) q vs :=
  ⟨h.1, Nat.le_refl _, fun k u hu => ⟨⟨g1, 0, none⟩, rfl, World.block_lt_of_cell? W ⟨g1, k, none⟩ (h.2 k u hu), by
    have := h.2 k u hu
    unfold Addr.add
    split
    · next h0 => subst h0; exact this
    · simpa using this⟩⟩
theorem OwnB.row {w W : World} {g1 q c1 : Nat} (h : OwnB w W g1 q c1) : q ≤ c1 ∧ ∃ vs, RowB W g1 q vs := by
  obtain ⟨L, h1, h2⟩ := h
  refine ⟨?_, L, by have := h2.1; rw [flatBound_len] at this; omega, fun k u hu => ?_⟩
  · rcases h2.2 with ⟨e, -⟩ | ⟨g', cap, cur, e, -, -, h3, -⟩
    · cases e
    · injection e with e1 e2 e3
      omega
  · have hk := (List.getElem?_eq_some_iff.1 hu).1
    rw [← hu, ← h2.cellAt k (by have := h2.1; omega)]
theorem cell_two6 (w : World) (a b : Value) (t : TypeId) : ∀ j u, [a, b][j]? = some u → (w.alloc (.cells #[a, b] t)).cell? ((⟨w.heap.size, 0, none⟩ : Addr).add j) = some u := by
  intro j u hu
  match j, hu with
  | 0, hu => exact (sNew w #[a, b] t 0).trans hu
  | 1, hu => exact (sNew w #[a, b] t 1).trans hu
theorem rowB_nil (W : World) (g1 : Nat) : RowB W g1 0 [] := ⟨rfl, fun k u hu => by simp [flatBound] at hu⟩

set_option maxRecDepth 100000 in
set_option maxHeartbeats 4000000 in
theorem bounds_at {g : Nat} {A : Option Addr} {n c : Nat} {p : Int} {zs : List Int} {B : Nat} {w : World} (h : CurAt w g A n c p zs B) (hp : p ≤ 800000000) :
    Calls Try.prog 90 #[.pointer (some ⟨g, 0, none⟩)] w fun e w' => ∃ g1 q c1 vs, e = .returned (.slice (some ⟨g1, 0, none⟩) q c1) ∧ q ≤ 10 ∧ q ≤ c1 ∧ g1 ≠ g ∧ RowB w' g1 q vs ∧ CurStep w w' g A n c p 300 := by
  obtain ⟨i0, hi, hz0, hz1, hz2⟩ := info_parts Try.infoBound'
  have H := Lib.hid h
  have hgl := h.lt
  have hp0 := h.p0
  have S1 := Lib.hid ((CurStep.refl h.cur).alloc (.cells #[] 46))
  have O1 : Hid (OwnB w (w.alloc (.cells #[] 46)) w.heap.size 0 0) := Lib.hid ⟨[], Nat.le_refl _, World.ownsRow_made w #[] 0 (Nat.le_refl _) (by unfold maxLen; omega) rfl⟩
  have hbg : w.heap.size ≠ g := by omega
  clear h
  go_enter Try.func90, Try.ntmps90
  go_wp2_with fail
  obtain ⟨W1, hW1⟩ : ∃ x, w.alloc (.cells #[] 46) = x := ⟨_, rfl⟩
  have hw1 : w.heap.size + 1 = W1.heap.size := by rw [← hW1]; simp
  rw [hW1] at S1 O1 ⊢
  obtain ⟨xb, hxb⟩ : ∃ x, w.heap.size = x := ⟨_, rfl⟩
  rw [hxb] at O1 hbg
  try simp only [hxb]
  obtain ⟨r5, r50, r51, H5⟩ := S1.out.at H.out
  refine (pick_at H5 (by omega) 6 (by omega)).mono ?_
  rintro e w6 ⟨b6, b60, b61, rfl, hs⟩
  obtain ⟨k6, rfl⟩ : ∃ k : Nat, b6 = (k : Int) := ⟨b6.toNat, by omega⟩
  have hk6 : k6 ≤ 5 := by omega
  have S6 := Lib.hid ((S1.out.then hs r50 r51).mono (d' := 10 + 4 * (6 - ((k6 + 1 : Nat) : Int))) (by omega))
  have O6 := Lib.hid (O1.out.kept hs.grown (by omega))
  clear hs S1 O1 H5 r50 r51 b60 b61 hw1 hW1
  go_wp2_with fail
  go_loopw [3, 4] (fun v i wr => ∃ (k q g1 c1 : Nat), k ≤ 6 ∧ i = .int .i64 k ∧ v = .slice (some ⟨g1, 0, none⟩) q c1 ∧ q ≤ 6 - k ∧ Hid (OwnB w wr g1 q c1) ∧ Hid (CurStep w wr g A n c p (10 + 4 * (6 - (k : Int))))) (fun _ i _ => (intOf i).toNat)
  case atStart => exact ⟨k6 + 1, 0, xb, 0, by omega, by first | rfl | go_num | (congr 1; omega), rfl, by omega, O6, S6⟩
  case round =>
    clear O6 S6 hk6
    obtain ⟨k, q, g1, c1, hk, rfl, rfl, hq, O6, S6⟩ := hrel
    have hgg := O6.out.g
    by_cases hlt : 0 < (k : Int)
    · obtain ⟨k, rfl⟩ : ∃ j, k = j + 1 := ⟨k - 1, by omega⟩
      obtain ⟨r5, r50, r51, H5⟩ := S6.out.at H.out
      go_wp2_with fail
      refine (among_new H5 (by push_cast at r51; omega) [0, 90, 95, 100, 105, 300] 6 rfl (by omega) (by omega) wr.heap.size rfl).mono ?_
      rintro e w6 ⟨x6, hx6, rfl, hs⟩
      have hx9 : 0 ≤ x6 ∧ x6 ≤ 300 := by simp at hx6; omega
      have S6b := Lib.hid (S6.out.then hs r50 r51)
      have O6b := Lib.hid (O6.out.kept hs.grown (by omega))
      clear hs S6 O6 H5 r50 r51 hx6
      obtain ⟨r5, r50, r51, H5⟩ := S6b.out.at H.out
      go_wp2_with fail
      refine (among_new H5 (by push_cast at r51; omega) [0, 5, 10, 20, 200] 5 rfl (by omega) (by omega) w6.heap.size rfl).mono ?_
      rintro e w7 ⟨z7, hz7, rfl, hs⟩
      have hz9 : 0 ≤ z7 ∧ z7 ≤ 200 := by simp at hz7; omega
      have S7 := Lib.hid (S6b.out.then hs r50 r51)
      have O7 := Lib.hid (O6b.out.kept hs.grown (by omega))
      obtain ⟨L7, hg7, ho7⟩ := O7.out
      have hne7 : g1 ≠ g := by omega
      clear hs S6b O6b O7 H5 r50 r51 hz7
      go_wp2_with (at_builtin; refine wpList_append_own _ rfl (.tmp 17) (.tmp 25) 49 rfl w.heap.size 46 i0 (.agg #[.int .i64 0, .int .i64 0]) 2 16 Try.underlying49 hi hz0 hz1 hz2 rfl (by decide) (.slice (some ⟨g1, 0, none⟩) q c1) q _ rfl (ho7.alloc _) ⟨w7.heap.size, 0, none⟩ 1 1 [.int .i64 (x6), .int .i64 (x6 + z7)] rfl rfl (cell_two6 _ _ _ _) (by simp [Value.oneCell']) (by unfold maxLen; omega) (by omega) (by have := S7.out.grown.size; simp; omega) ?_; intro v1 w1 hown1 hgrow1 hnil1; obtain ⟨g2, c2, rfl, hg2⟩ := own_some hown1 (fun e => nomatch (hnil1.1 e).1); have S9 := Lib.hid ((S7.out.alloc (.cells #[.int .i64 (x6), .int .i64 (x6 + z7)] 46)).own hgrow1 hg7 hne7); have O9 : Hid (OwnB w w1 g2 (q + 1) c2) := Lib.hid ⟨L7 ++ [⟨x6, x6 + z7⟩], hg2, by rw [flatBound_append]; exact hown1⟩; clear hnil1 hgrow1 hown1)
      go_roundw
      case rel => exact ⟨k, q + 1, g2, c2, by omega, by go_num, rfl, by omega, O9, Lib.hid (S9.out.mono (by push_cast; omega))⟩
      case measure => simp [intOf]
    · obtain rfl : k = 0 := by omega
      have SR := Lib.hid (S6.out.mono (d' := 34) (by omega))
      have OR := O6
      clear S6 O6 hlt hgg
      go_wp2_with fail
      obtain ⟨r5, r50, r51, H5⟩ := SR.out.at H.out
      refine (pick_at H5 (by omega) 30 (by omega)).mono ?_
      rintro e w8 ⟨b8, b80, b81, rfl, hs⟩
      have S8 := Lib.hid (SR.out.then hs r50 r51)
      have hgg := OR.out.g
      have O8 := Lib.hid (OR.out.kept hs.grown (by omega))
      clear hs SR OR H5 r50 r51 b80 b81
      by_cases h0 : b8 = 0
      · subst h0
        obtain ⟨r5, r50, r51, H5⟩ := S8.out.at H.out
        go_wp2_with fail
        refine (level6_at H5 (by omega)).mono ?_
        rintro e w6 ⟨z6, rfl, hs⟩
        have S6 := Lib.hid (S8.out.then hs r50 r51)
        have O6 := Lib.hid (O8.out.kept hs.grown (by omega))
        clear hs S8 O8 H5 r50 r51
        obtain ⟨r5, r50, r51, H5⟩ := S6.out.at H.out
        go_wp2_with fail
        refine (level6_at H5 (by omega)).mono ?_
        rintro e w7 ⟨z7, rfl, hs⟩
        have S7 := Lib.hid (S6.out.then hs r50 r51)
        have O7 := Lib.hid (O6.out.kept hs.grown (by omega))
        obtain ⟨L7, hg7, ho7⟩ := O7.out
        have hne7 : g1 ≠ g := by omega
        clear hs S6 O6 O7 H5 r50 r51
        go_wp2_with (at_builtin; refine wpList_append_own _ rfl (.tmp 31) (.tmp 37) 49 rfl w.heap.size 46 i0 (.agg #[.int .i64 0, .int .i64 0]) 2 16 Try.underlying49 hi hz0 hz1 hz2 rfl (by decide) (.slice (some ⟨g1, 0, none⟩) q c1) q _ rfl (ho7.alloc _) ⟨w7.heap.size, 0, none⟩ 1 1 [.int .i64 (z6), .int .i64 (z7)] rfl rfl (cell_two6 _ _ _ _) (by simp [Value.oneCell']) (by unfold maxLen; omega) (by omega) (by have := S7.out.grown.size; simp; omega) ?_; intro v1 w1 hown1 hgrow1 hnil1; obtain ⟨g2, c2, rfl, hg2⟩ := own_some hown1 (fun e => nomatch (hnil1.1 e).1); have S9 := Lib.hid ((S7.out.alloc (.cells #[.int .i64 (z6), .int .i64 (z7)] 46)).own hgrow1 hg7 hne7); have O9 : Hid (OwnB w w1 g2 (q + 1) c2) := Lib.hid ⟨L7 ++ [⟨z6, z7⟩], hg2, by rw [flatBound_append]; exact hown1⟩; clear hnil1 hgrow1 hown1)
        refine bodyPost_ret (results_tmp rfl _ _ _) rfl ?_
        obtain ⟨hqc, vs, hvs⟩ := O9.out.row
        exact ⟨g2, _, c2, vs, rfl, by omega, hqc, by omega, hvs, S9.out.mono (by omega)⟩
      · by_cases h1 : b8 = 1
        · subst h1
          clear h0
          have S8' := Lib.hid (S8.out.mono (d' := 100 + 2 * (q : Int)) (by omega))
          clear S8
          go_wp2_with fail
          go_loopw [3] (fun v wr => ∃ (q g1 c1 : Nat), v = .slice (some ⟨g1, 0, none⟩) q c1 ∧ q ≤ 9 ∧ Hid (OwnB w wr g1 q c1) ∧ Hid (CurStep w wr g A n c p (100 + 2 * (q : Int)))) (fun v _ => 9 - lenV v)
          case atStart => exact ⟨q, g1, c1, rfl, by omega, O8, S8'⟩
          case round =>
            clear O8 S8' hgg
            obtain ⟨q, g1, c1, rfl, hq61, O8, S8⟩ := hrel
            have hgg := O8.out.g
            obtain ⟨r5, r50, r51, H5⟩ := S8.out.at H.out
            go_wp2_with fail
            refine (pick_at H5 (by omega) 2 (by omega)).mono ?_
            rintro e w7 ⟨b7, b70, b71, rfl, hs⟩
            have S7 := Lib.hid (S8.out.then hs r50 r51)
            have O7 := Lib.hid (O8.out.kept hs.grown (by omega))
            clear hs S8 O8 H5 r50 r51
            by_cases hlt : (q : Int) < 8 + b7
            · obtain ⟨L7, hg7, ho7⟩ := O7.out
              have hne7 : g1 ≠ g := by omega
              clear O7
              go_wp2_with (at_builtin; refine wpList_append_own _ rfl (.tmp 47) (.tmp 49) 49 rfl w.heap.size 46 i0 (.agg #[.int .i64 0, .int .i64 0]) 2 16 Try.underlying49 hi hz0 hz1 hz2 rfl (by decide) (.slice (some ⟨g1, 0, none⟩) q c1) q _ rfl (ho7.alloc _) ⟨w7.heap.size, 0, none⟩ 1 1 [.int .i64 (90), .int .i64 (110)] rfl rfl (cell_two6 _ _ _ _) (by simp [Value.oneCell']) (by unfold maxLen; omega) (by omega) (by have := S7.out.grown.size; simp; omega) ?_; intro v1 w1 hown1 hgrow1 hnil1; obtain ⟨g2, c2, rfl, hg2⟩ := own_some hown1 (fun e => nomatch (hnil1.1 e).1); have S9 := Lib.hid ((S7.out.alloc (.cells #[.int .i64 (90), .int .i64 (110)] 46)).own hgrow1 hg7 hne7); have O9 : Hid (OwnB w w1 g2 (q + 1) c2) := Lib.hid ⟨L7 ++ [⟨90, 110⟩], hg2, by rw [flatBound_append]; exact hown1⟩; clear hnil1 hgrow1 hown1)
              go_roundw
              case rel => exact ⟨q + 1, g2, c2, rfl, by omega, O9, Lib.hid (S9.out.mono (by push_cast; omega))⟩
              case measure => simp [lenV]; omega
            · go_wp2_with fail
              refine bodyPost_ret (results_tmp rfl _ _ _) rfl ?_
              obtain ⟨hqc, vs, hvs⟩ := O7.out.row
              exact ⟨g1, q, c1, vs, rfl, by omega, hqc, by omega, hvs, S7.out.mono (by omega)⟩
        · by_cases h2 : b8 = 2
          · subst h2
            clear h0 h1
            go_wp2_with fail
            refine bodyPost_ret (results_tmp rfl _ _ _) rfl ?_
            exact ⟨g1, 0, _, [], rfl, by omega, by omega, by omega, rowB_nil _ _, S8.out.mono (by omega)⟩
          · have n0 : (b8 == 0) = false := by simp [h0]
            have n1 : (b8 == 1) = false := by simp [h1]
            have n2 : (b8 == 2) = false := by simp [h2]
            clear h0 h1 h2
            go_wp2_with fail
            refine bodyPost_ret (results_tmp rfl _ _ _) rfl ?_
            obtain ⟨hqc, vs, hvs⟩ := O8.out.row
            exact ⟨g1, q, c1, vs, rfl, by omega, hqc, by omega, hvs, S8.out.mono (by omega)⟩
end Go.Proofs.Yteeljlpbijmhlaa
