/- Chapter 6: levels, greatest differences and series that the laws draw. -/
import Derived.Test.YteeljlpbijmhlaaCurX
import Derived.Test.YteeljlpbijmhlaaSeX
namespace Go.Proofs.Yteeljlpbijmhlaa
open Go.RowKit Go.PlainAid Go.Sort
set_option linter.unusedVariables false
set_option linter.unusedSimpArgs false

set_option maxHeartbeats 1000000 in
theorem level6_at {g : Nat} {A : Option Addr} {n c : Nat} {p : Int} {zs : List Int} {B : Nat} {w : World} (h : CurAt w g A n c p zs B) (hp : p ≤ 850000000) :
    Calls Try.prog 98 #[.pointer (some ⟨g, 0, none⟩)] w fun e w' => ∃ z : Int, e = .returned (.int .i64 z) ∧ CurStep w w' g A n c p 4 := by
  have H := Lib.hid h
  have hlt := h.lt
  clear h
  go_enter Try.func98, Try.ntmps98
  go_wp2_with fail
  refine (pick_at (H.out.kept (World.grownBy_alloc w _ none) (by simp) (fun r e => by cases e)) (by omega) 60 (by omega)).mono ?_
  rintro e w1 ⟨b1, b10, b11, rfl, hs1'⟩
  have hs1 : CurStep (w.alloc (.cells (([0, 100, 100, 101, 103, 110, 500, 2000, -1, 2001] : List Int).map (Value.int .i64)).toArray 3)) w1 g A n c p 2 := hs1'
  obtain ⟨q1, q10, q11, H1⟩ := (H.out.kept (World.grownBy_alloc w (.cells (([0, 100, 100, 101, 103, 110, 500, 2000, -1, 2001] : List Int).map (Value.int .i64)).toArray 3) none) (by simp) (fun r e => by cases e)).step hs1
  have hp0 := H.out.p0
  have CA := Lib.hid (fun m c2 hm hm0 hm1 => among_cut [0, 100, 100, 101, 103, 110, 500, 2000, -1, 2001] H.out hs1 hp0 (.inr trivial) q1 H1 (by omega) m c2 hm hm0 hm1)
  have HS := Lib.hid hs1
  clear hs1' hp0
  rcases (show b1 / 29 = 0 ∨ b1 / 29 = 1 ∨ b1 / 29 = 2 by omega) with hd | hd | hd
  all_goals
    go_wp2_with fail
    refine (CA.out _ _ (by simp) (by omega) (by omega)).mono ?_
    rintro e w2 ⟨z, rfl, hs2⟩
    have HS2 := Lib.hid (HS.out.trans hs2 q10 q11).pre
    clear hs2
    go_wp2_with fail
    go_ret
    exact ⟨z, rfl, HS2.out⟩
set_option maxHeartbeats 1000000 in
theorem most6_at {g : Nat} {A : Option Addr} {n c : Nat} {p : Int} {zs : List Int} {B : Nat} {w : World} (h : CurAt w g A n c p zs B) (hp : p ≤ 850000000) :
    Calls Try.prog 87 #[.pointer (some ⟨g, 0, none⟩)] w fun e w' => ∃ z : Int, e = .returned (.int .i64 z) ∧ CurStep w w' g A n c p 4 := by
  have H := Lib.hid h
  have hlt := h.lt
  clear h
  go_enter Try.func87, Try.ntmps87
  go_wp2_with fail
  refine (pick_at (H.out.kept (World.grownBy_alloc w _ none) (by simp) (fun r e => by cases e)) (by omega) 24 (by omega)).mono ?_
  rintro e w1 ⟨b1, b10, b11, rfl, hs1'⟩
  have hs1 : CurStep (w.alloc (.cells (([0, 1, 3, 10, 400, 2000, -1, 2001] : List Int).map (Value.int .i64)).toArray 3)) w1 g A n c p 2 := hs1'
  obtain ⟨q1, q10, q11, H1⟩ := (H.out.kept (World.grownBy_alloc w (.cells (([0, 1, 3, 10, 400, 2000, -1, 2001] : List Int).map (Value.int .i64)).toArray 3) none) (by simp) (fun r e => by cases e)).step hs1
  have hp0 := H.out.p0
  have CA := Lib.hid (fun m c2 hm hm0 hm1 => among_cut [0, 1, 3, 10, 400, 2000, -1, 2001] H.out hs1 hp0 (.inr trivial) q1 H1 (by omega) m c2 hm hm0 hm1)
  have HS := Lib.hid hs1
  clear hs1' hp0
  rcases (show b1 / 11 = 0 ∨ b1 / 11 = 1 ∨ b1 / 11 = 2 by omega) with hd | hd | hd
  all_goals
    go_wp2_with fail
    refine (CA.out _ _ (by simp) (by omega) (by omega)).mono ?_
    rintro e w2 ⟨z, rfl, hs2⟩
    have HS2 := Lib.hid (HS.out.trans hs2 q10 q11).pre
    clear hs2
    go_wp2_with fail
    go_ret
    exact ⟨z, rfl, HS2.out⟩

set_option maxRecDepth 100000 in
set_option maxHeartbeats 4000000 in
theorem series_at {g : Nat} {A : Option Addr} {n c : Nat} {p : Int} {zs : List Int} {B : Nat} {w : World} (h : CurAt w g A n c p zs B) (hp : p ≤ 800000000) :
    Calls Try.prog 88 #[.pointer (some ⟨g, 0, none⟩)] w fun e w' => ∃ g1 q c1, e = .returned (.slice (some ⟨g1, 0, none⟩) q c1) ∧ q ≤ 30 ∧ OwnC w w' g1 q c1 ∧ CurStep w w' g A n c p 300 := by
  obtain ⟨i0, hi, hz0, hz1, hz2⟩ := info_parts Try.infoInt'
  have H := Lib.hid h
  have hgl := h.lt
  have hp0 := h.p0
  have CL : Hid (∀ (x y : Int) W, Calls Try.prog 91 #[.int .i64 x, .int .i64 y] W fun e w' => ∃ z : Int, e = .returned (.int .i64 z) ∧ W = w') := Lib.hid (fun x y W => (l1Most6_any x y W).mono fun _ _ ⟨a, b⟩ => ⟨_, a, b⟩)
  have S1 := Lib.hid ((CurStep.refl h.cur).alloc (.cells #[] 3))
  have O1 : Hid (OwnC w (w.alloc (.cells #[] 3)) w.heap.size 0 0) := Lib.hid ⟨[], Nat.le_refl _, World.ownsRow_made w #[] 0 (Nat.le_refl _) (by unfold maxLen; omega) rfl⟩
  have hbg : w.heap.size ≠ g := by omega
  clear h
  go_enter Try.func88, Try.ntmps88
  go_wp2_with fail
  obtain ⟨W1, hW1⟩ : ∃ x, w.alloc (.cells #[] 3) = x := ⟨_, rfl⟩
  have hw1 : w.heap.size + 1 = W1.heap.size := by rw [← hW1]; simp
  rw [hW1] at S1 O1 ⊢
  obtain ⟨xb, hxb⟩ : ∃ x, w.heap.size = x := ⟨_, rfl⟩
  rw [hxb] at O1 hbg
  try simp only [hxb]
  obtain ⟨r5, r50, r51, H5⟩ := S1.out.at H.out
  refine (among_new H5 (by omega) [100, 500, 0] 3 rfl (by omega) (by omega) (xb + 1) (by omega)).mono ?_
  rintro e w2 ⟨z2, -, rfl, hs⟩
  have S2 := Lib.hid (S1.out.then hs r50 r51)
  have O2 := Lib.hid (O1.out.kept hs.grown (by omega))
  clear hs S1 O1 H5 r50 r51
  obtain ⟨r5, r50, r51, H5⟩ := S2.out.at H.out
  go_wp2_with fail
  refine (pick_at H5 (by omega) 10 (by omega)).mono ?_
  rintro e w6 ⟨b6, b60, b61, rfl, hs⟩
  obtain ⟨k6, rfl⟩ : ∃ k : Nat, b6 = (k : Int) := ⟨b6.toNat, by omega⟩
  have hk6 : k6 ≤ 9 := by omega
  have S6 := Lib.hid ((S2.out.then hs r50 r51).mono (d' := 10 + 2 * (9 - (k6 : Int))) (by omega))
  have O6 := Lib.hid (O2.out.kept hs.grown (by omega))
  clear hs S2 O2 H5 r50 r51 b60 b61 hw1 hW1
  go_wp2_with fail
  go_loopw [3, 4, 5] (fun v x i wr => ∃ (k q g1 c1 : Nat) (x0 : Int), k ≤ 9 ∧ i = .int .i64 k ∧ x = .int .i64 x0 ∧ v = .slice (some ⟨g1, 0, none⟩) q c1 ∧ q ≤ 9 - k ∧ Hid (OwnC w wr g1 q c1) ∧ Hid (CurStep w wr g A n c p (10 + 2 * (9 - (k : Int))))) (fun _ _ i _ => (intOf i).toNat)
  case atStart => exact ⟨k6, 0, xb, 0, z2, hk6, rfl, rfl, rfl, by omega, O6, S6⟩
  case round =>
    clear O6 S6 hk6
    obtain ⟨k, q, g1, c1, x0, hk, rfl, rfl, rfl, hq, O6, S6⟩ := hrel
    have hgg := O6.out.g
    by_cases hlt : 0 < (k : Int)
    · obtain ⟨k, rfl⟩ : ∃ j, k = j + 1 := ⟨k - 1, by omega⟩
      obtain ⟨r5, r50, r51, H5⟩ := S6.out.at H.out
      go_wp2_with fail
      refine (among_new H5 (by push_cast at r51; omega) [0, 0, 0, 1, -1, 3, -7, 50] 8 rfl (by omega) (by omega) wr.heap.size rfl).mono ?_
      rintro e w7 ⟨z7, -, rfl, hs⟩
      have S7 := Lib.hid (S6.out.then hs r50 r51)
      have O7 := Lib.hid (O6.out.kept hs.grown (by omega))
      obtain ⟨L7, hg7, ho7⟩ := O7.out
      have hne7 : g1 ≠ g := by omega
      clear hs S6 O6 O7 H5 r50 r51
      go_wp2_with fail
      refine (CL.out _ _ _).mono ?_
      rintro e w8 ⟨y, rfl, rfl⟩
      go_wp2_with (at_builtin; refine wpList_append_own _ rfl (.tmp 22) (.tmp 24) 22 rfl w.heap.size 3 i0 (.int .i64 0) 1 8 Try.underlying22 hi hz0 hz1 hz2 rfl (by decide) (.slice (some ⟨g1, 0, none⟩) q c1) q _ rfl (ho7.alloc _) ⟨w7.heap.size, 0, none⟩ 1 1 [.int .i64 (y)] rfl rfl (cell_one_new _ _ _) (by simp [Value.oneCell']) (by unfold maxLen; omega) (by omega) (by have := S7.out.grown.size; simp; omega) ?_; intro v1 w1 hown1 hgrow1 hnil1; obtain ⟨g2, c2, rfl, hg2⟩ := own_some hown1 (fun e => nomatch (hnil1.1 e).1); have S9 := Lib.hid ((S7.out.alloc (.cells #[.int .i64 (y)] 3)).own hgrow1 hg7 hne7); have O9 : Hid (OwnC w w1 g2 (q + 1) c2) := Lib.hid ⟨L7 ++ [y], hg2, by rw [List.map_append]; exact hown1⟩; clear hnil1 hgrow1 hown1)
      go_roundw
      case rel => exact ⟨k, q + 1, g2, c2, y, by omega, by go_num, rfl, rfl, by omega, O9, Lib.hid (S9.out.mono (by push_cast; omega))⟩
      case measure => simp [intOf]
    · obtain rfl : k = 0 := by omega
      have SR := Lib.hid (S6.out.mono (d' := 28) (by omega))
      have OR := O6
      clear S6 O6 hlt hgg
      go_wp2_with fail
      obtain ⟨r5, r50, r51, H5⟩ := SR.out.at H.out
      refine (pick_at H5 (by omega) 24 (by omega)).mono ?_
      rintro e w8 ⟨b8, b80, b81, rfl, hs⟩
      have S8 := Lib.hid (SR.out.then hs r50 r51)
      have hgg := OR.out.g
      have O8 := Lib.hid (OR.out.kept hs.grown (by omega))
      clear hs SR OR H5 r50 r51 b80 b81
      by_cases h0 : b8 = 0
      · subst h0
        obtain ⟨r5, r50, r51, H5⟩ := S8.out.at H.out
        go_wp2_with fail
        refine (level6_at H5 (by omega)).mono ?_
        rintro e w7 ⟨z7, rfl, hs⟩
        have S7 := Lib.hid (S8.out.then hs r50 r51)
        have O7 := Lib.hid (O8.out.kept hs.grown (by omega))
        obtain ⟨L7, hg7, ho7⟩ := O7.out
        have hne7 : g1 ≠ g := by omega
        clear hs S8 O8 O7 H5 r50 r51
        go_wp2_with (at_builtin; refine wpList_append_own _ rfl (.tmp 30) (.tmp 33) 22 rfl w.heap.size 3 i0 (.int .i64 0) 1 8 Try.underlying22 hi hz0 hz1 hz2 rfl (by decide) (.slice (some ⟨g1, 0, none⟩) q c1) q _ rfl (ho7.alloc _) ⟨w7.heap.size, 0, none⟩ 1 1 [.int .i64 (z7)] rfl rfl (cell_one_new _ _ _) (by simp [Value.oneCell']) (by unfold maxLen; omega) (by omega) (by have := S7.out.grown.size; simp; omega) ?_; intro v1 w1 hown1 hgrow1 hnil1; obtain ⟨g2, c2, rfl, hg2⟩ := own_some hown1 (fun e => nomatch (hnil1.1 e).1); have S9 := Lib.hid ((S7.out.alloc (.cells #[.int .i64 (z7)] 3)).own hgrow1 hg7 hne7); have O9 : Hid (OwnC w w1 g2 (q + 1) c2) := Lib.hid ⟨L7 ++ [z7], hg2, by rw [List.map_append]; exact hown1⟩; clear hnil1 hgrow1 hown1)
        refine bodyPost_ret (results_tmp rfl _ _ _) rfl ?_
        exact ⟨g2, _, c2, rfl, by omega, O9.out, S9.out.mono (by omega)⟩
      · by_cases h1 : b8 = 1
        · subst h1
          clear h0
          have S8' := Lib.hid (S8.out.mono (d' := 100 + 2 * (q : Int)) (by omega))
          clear S8
          go_wp2_with fail
          go_loopw [3] (fun v wr => ∃ (q g1 c1 : Nat), v = .slice (some ⟨g1, 0, none⟩) q c1 ∧ q ≤ 21 ∧ Hid (OwnC w wr g1 q c1) ∧ Hid (CurStep w wr g A n c p (100 + 2 * (q : Int)))) (fun v _ => 21 - lenV v)
          case atStart => exact ⟨q, g1, c1, rfl, by omega, O8, S8'⟩
          case round =>
            clear O8 S8' hgg
            obtain ⟨q, g1, c1, rfl, hq61, O8, S8⟩ := hrel
            have hgg := O8.out.g
            obtain ⟨r5, r50, r51, H5⟩ := S8.out.at H.out
            go_wp2_with fail
            refine (pick_at H5 (by omega) 2 (by omega)).mono ?_
            rintro e w7 ⟨b7, b70, b71, rfl, hs⟩
            have S7 := Lib.hid (S8.out.then hs r50 r51)
            have O7 := Lib.hid (O8.out.kept hs.grown (by omega))
            clear hs S8 O8 H5 r50 r51
            by_cases hlt : (q : Int) < 20 + b7
            · obtain ⟨L7, hg7, ho7⟩ := O7.out
              have hne7 : g1 ≠ g := by omega
              clear O7
              go_wp2_with (at_builtin; refine wpList_append_own _ rfl (.tmp 43) (.tmp 44) 22 rfl w.heap.size 3 i0 (.int .i64 0) 1 8 Try.underlying22 hi hz0 hz1 hz2 rfl (by decide) (.slice (some ⟨g1, 0, none⟩) q c1) q _ rfl (ho7.alloc _) ⟨w7.heap.size, 0, none⟩ 1 1 [.int .i64 (7)] rfl rfl (cell_one_new _ _ _) (by simp [Value.oneCell']) (by unfold maxLen; omega) (by omega) (by have := S7.out.grown.size; simp; omega) ?_; intro v1 w1 hown1 hgrow1 hnil1; obtain ⟨g2, c2, rfl, hg2⟩ := own_some hown1 (fun e => nomatch (hnil1.1 e).1); have S9 := Lib.hid ((S7.out.alloc (.cells #[.int .i64 (7)] 3)).own hgrow1 hg7 hne7); have O9 : Hid (OwnC w w1 g2 (q + 1) c2) := Lib.hid ⟨L7 ++ [7], hg2, by rw [List.map_append]; exact hown1⟩; clear hnil1 hgrow1 hown1)
              go_roundw
              case rel => exact ⟨q + 1, g2, c2, rfl, by omega, O9, Lib.hid (S9.out.mono (by push_cast; omega))⟩
              case measure => simp [lenV]; omega
            · go_wp2_with fail
              refine bodyPost_ret (results_tmp rfl _ _ _) rfl ?_
              exact ⟨g1, q, c1, rfl, by omega, O7.out, S7.out.mono (by omega)⟩
        · have n0 : (b8 == 0) = false := by simp [h0]
          have n1 : (b8 == 1) = false := by simp [h1]
          clear h0 h1
          go_wp2_with fail
          refine bodyPost_ret (results_tmp rfl _ _ _) rfl ?_
          exact ⟨g1, q, c1, rfl, by omega, O8.out, S8.out.mono (by omega)⟩
end Go.Proofs.Yteeljlpbijmhlaa
