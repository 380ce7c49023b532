/- Chapter 4: the hulls that the laws draw. -/
import Derived.Test.YtdleidlmjliapaaSHull
import Derived.Test.YtdleidlmjliapaaSChamber
import Derived.Test.YtdleidlmjliapaaInv
import Derived.Test.YtdleidlmjliapaaChA
import Derived.Test.YtdleidlmjliapaaCurX
namespace Go.Proofs.Ytdleidlmjliapaa
open Go.RowKit Go.PlainAid Go.Sort
set_option linter.unusedVariables false
set_option linter.unusedSimpArgs false

theorem addO (g o j : Nat) : (⟨g, o, none⟩ : Addr).add j = ⟨g, o + j, none⟩ := by unfold Addr.add; split <;> simp_all
theorem cell_three_newH (w : World) (a b c : Value) (t : TypeId) : ∀ j u, [a, b, c][j]? = some u → (w.alloc (.cells #[a, b, c] t)).cell? ((⟨w.heap.size, 0, none⟩ : Addr).add j) = some u := by
  intro j u h
  rw [addO, Nat.zero_add, sNew]
  simpa using h
/-- Hulls in a row of one's own. -/
def OwnH (w W : World) (g1 q c1 : Nat) : Prop := ∃ L : List THull, w.heap.size ≤ g1 ∧ W.ownsRow w.heap.size 40 3 (.slice (some ⟨g1, 0, none⟩) q c1) q (flatHull L)
theorem OwnH.kept {w W W' : World} {g1 q c1 : Nat} {g : Nat} (h : OwnH w W g1 q c1) (hg : W.grownBy W' (some g)) (hne : g1 ≠ g) : OwnH w W' g1 q c1 := by
  obtain ⟨L, h1, h2⟩ := h
  exact ⟨L, h1, h2.kept hg (.inr (by simp [Value.ownBlock]; exact hne))⟩
theorem OwnH.below {w W W' : World} {g1 q c1 : Nat} (h : OwnH w W g1 q c1) (hb : Below W.heap.size W W') : OwnH w W' g1 q c1 := by
  obtain ⟨L, h1, h2⟩ := h
  exact ⟨L, h1, own_below h2 hb⟩
theorem OwnH.g {w W : World} {g1 q c1 : Nat} (h : OwnH w W g1 q c1) : w.heap.size ≤ g1 := by
  obtain ⟨L, h1, h2⟩ := h
  exact h1
/-- What a draw of hulls hands back. -/
def GivesH (w : World) (g : Nat) (A : Option Addr) (n c : Nat) (p : Int) (e : Ending) (w' : World) : Prop :=
  ∃ g1 q c1, e = .returned (.slice (some ⟨g1, 0, none⟩) q c1) ∧ q ≤ 8 ∧ OwnH w w' g1 q c1 ∧ CurStep w w' g A n c p 200
set_option maxRecDepth 100000 in
set_option maxHeartbeats 4000000 in
theorem hulls_at {g : Nat} {A : Option Addr} {n c : Nat} {p : Int} {zs : List Int} {B : Nat} {w : World} (h : CurAt w g A n c p zs B) (hp : p ≤ 800000000) :
    Calls Try.prog 33 #[.pointer (some ⟨g, 0, none⟩)] w (GivesH w g A n c p) := by
  obtain ⟨i0, hi, hz0, hz1, hz2⟩ := info_parts Try.infoHull'
  have H := Lib.hid h
  have hgl := h.lt
  have hp0 := h.p0
  have S1 := Lib.hid ((CurStep.refl h.cur).alloc (.cells #[] 40))
  have O1 : Hid (OwnH w (w.alloc (.cells #[] 40)) w.heap.size 0 0) := Lib.hid ⟨[], Nat.le_refl _, World.ownsRow_made w #[] 0 (Nat.le_refl _) (by unfold maxLen; omega) rfl⟩
  have hbg : w.heap.size ≠ g := by omega
  clear h
  go_enter Try.func33, Try.ntmps33
  go_wp2_with fail
  obtain ⟨W1, hW1⟩ : ∃ x, w.alloc (.cells #[] 40) = x := ⟨_, rfl⟩
  rw [hW1] at S1 O1 ⊢
  obtain ⟨xb, hxb⟩ : ∃ x, w.heap.size = x := ⟨_, rfl⟩
  rw [hxb] at O1 hbg
  try simp only [hxb]
  obtain ⟨r5, r50, r51, H5⟩ := S1.out.at H.out
  refine (pick_at H5 (by omega) _ (by omega)).mono ?_
  rintro e w6 ⟨b6, b60, b61, rfl, hs⟩
  obtain ⟨k6, rfl⟩ : ∃ k : Nat, b6 = (k : Int) := ⟨b6.toNat, by omega⟩
  have hk6 : k6 ≤ 5 := by omega
  have S6 := Lib.hid ((S1.out.then hs r50 r51).mono (d' := 10 + 8 * (6 - (k6 : Int))) (by omega))
  have O6 := Lib.hid (O1.out.kept hs.grown (by omega))
  clear hs S1 O1 H5 r50 r51 b60 b61 hW1
  go_wp2_with fail
  go_loopw [3, 4, 5] (fun v d i wr => ∃ (k q g1 c1 : Nat) (x : Int), k ≤ 5 ∧ i = .int .i64 k ∧ d = .int .i64 x ∧ (0 ≤ x ∧ x ≤ 10 * (5 - (k : Int))) ∧ v = .slice (some ⟨g1, 0, none⟩) q c1 ∧ q ≤ 5 - k ∧ Hid (OwnH w wr g1 q c1) ∧ Hid (CurStep w wr g A n c p (10 + 8 * (6 - (k : Int))))) (fun _ _ i _ => (intOf i).toNat)
  case atStart => exact ⟨k6, 0, xb, 0, 0, by omega, rfl, rfl, by omega, rfl, by omega, O6, S6⟩
  case round =>
    clear O6 S6 hk6
    obtain ⟨k, q, g1, c1, x, hk, rfl, rfl, hx, rfl, hq, O6, S6⟩ := hrel
    have hgg := O6.out.g
    by_cases hlt : 0 < (k : Int)
    · obtain ⟨k, rfl⟩ : ∃ j, k = j + 1 := ⟨k - 1, by omega⟩
      obtain ⟨r5, r50, r51, H5⟩ := S6.out.at H.out
      go_wp2_with fail
      refine (pick_at H5 (by push_cast at r51; omega) 5 (by omega)).mono ?_
      rintro e w6 ⟨x6, x60, x61, rfl, hs⟩
      have hx6 : x6 ≤ 4 := by omega
      have S6b := Lib.hid (S6.out.then hs r50 r51)
      have O6b := Lib.hid (O6.out.kept hs.grown (by omega))
      clear hs S6 O6 H5 r50 r51 x61
      obtain ⟨r5, r50, r51, H5⟩ := S6b.out.at H.out
      go_wp2_with fail
      refine (among_new H5 (by push_cast at r51; omega) [1, 1, 2, 2, 3, 4] 6 rfl (by omega) (by omega) w6.heap.size rfl).mono ?_
      rintro e w8 ⟨x8, hx8, rfl, hs⟩
      have S8 := Lib.hid (S6b.out.then hs r50 r51)
      have O8 := Lib.hid (O6b.out.kept hs.grown (by omega))
      clear hs S6b O6b H5 r50 r51 hx8
      obtain ⟨r5, r50, r51, H5⟩ := S8.out.at H.out
      go_wp2_with fail
      refine (among_new H5 (by push_cast at r51; omega) [1, 1, 1, 2] 4 rfl (by omega) (by omega) w8.heap.size rfl).mono ?_
      rintro e w9 ⟨x9, hx9, rfl, hs⟩
      have SA := Lib.hid (S8.out.then hs r50 r51)
      have OA := Lib.hid (O8.out.kept hs.grown (by omega))
      clear hs S8 O8 H5 r50 r51 hx9
      obtain ⟨L7, hg7, ho7⟩ := OA.out
      have hne7 : g1 ≠ g := by omega
      have hsz7 := SA.out.grown.size
      have HS7 := Lib.hid (SA.out.alloc (.cells #[.int .i64 (x + 1 + x6), .int .i64 x8, .int .i64 x9] 40))
      clear OA SA
      go_wp2_with (at_builtin; go_loud (refine wpList_append_own _ rfl (.tmp 18) (.tmp 27) 26 rfl w.heap.size 40 i0 (.agg #[.int .i64 0, .int .i64 0, .int .i64 0]) 3 24 Try.underlying26 hi hz0 hz1 hz2 rfl (by decide) (.slice (some ⟨g1, 0, none⟩) q c1) q _ rfl (ho7.alloc (.cells #[.int .i64 (x + 1 + x6), .int .i64 x8, .int .i64 x9] 40)) ⟨w9.heap.size, 0, none⟩ 1 1 [.int .i64 (x + 1 + x6), .int .i64 x8, .int .i64 x9] rfl rfl (cell_three_newH _ _ _ _ _) (by simp [Value.oneCell']) (by unfold maxLen; omega) (by omega) (by simp; omega) ?_; intro v1 w1 hown1 hgrow1 hnil1; obtain ⟨g2, c2, rfl, hg2⟩ := own_some hown1 (fun e => nomatch (hnil1.1 e).1); have S9 := Lib.hid (HS7.out.own hgrow1 hg7 hne7); have O9 : Hid (OwnH w w1 g2 (q + 1) c2) := Lib.hid ⟨L7 ++ [(⟨x + 1 + x6, x8, x9⟩ : THull)], hg2, (by rw [flatHull_append]; exact hown1)⟩; clear hnil1 hgrow1 hown1 HS7 ho7))
      go_roundw
      case rel => exact ⟨k, q + 1, g2, c2, x + 1 + x6, by omega, by go_num, rfl, by push_cast at hx ⊢; omega, rfl, by omega, O9, Lib.hid (S9.out.mono (by push_cast; omega))⟩
      case measure => simp [intOf]
    · obtain rfl : k = 0 := by omega
      have SR := Lib.hid (S6.out.mono (d' := 58) (by omega))
      have OR := O6
      clear S6 O6 hlt hx
      go_wp2_with fail
      obtain ⟨r5, r50, r51, H5⟩ := SR.out.at H.out
      refine (pick_at H5 (by omega) 24 (by omega)).mono ?_
      rintro e w7 ⟨b, b80, b81, rfl, hs⟩
      have S7 := Lib.hid (SR.out.then hs r50 r51)
      have O7 := Lib.hid (OR.out.kept hs.grown (by omega))
      clear hs SR OR H5 r50 r51 b80 b81
      by_cases n0 : b = 0
      · subst n0
        obtain ⟨r5, r50, r51, H5⟩ := S7.out.at H.out
        go_wp2_with fail
        refine (among_new H5 (by omega) [0, 99, 100] 3 rfl (by omega) (by omega) w7.heap.size rfl).mono ?_
        rintro e w8 ⟨x8, hx8, rfl, hs⟩
        have S8 := Lib.hid (S7.out.then hs r50 r51)
        have O8 := Lib.hid (O7.out.kept hs.grown (by omega))
        clear hs S7 O7 H5 r50 r51 hx8
        obtain ⟨L7, hg7, ho7⟩ := O8.out
        have hne7 : g1 ≠ g := by omega
        have hsz7 := S8.out.grown.size
        have HS7 := Lib.hid (S8.out.alloc (.cells #[.int .i64 x8, .int .i64 1, .int .i64 1] 40))
        clear O8 S8
        go_wp2_with (at_builtin; go_loud (refine wpList_append_own _ rfl (.tmp 33) (.tmp 38) 26 rfl w.heap.size 40 i0 (.agg #[.int .i64 0, .int .i64 0, .int .i64 0]) 3 24 Try.underlying26 hi hz0 hz1 hz2 rfl (by decide) (.slice (some ⟨g1, 0, none⟩) q c1) q _ rfl (ho7.alloc (.cells #[.int .i64 x8, .int .i64 1, .int .i64 1] 40)) ⟨w8.heap.size, 0, none⟩ 1 1 [.int .i64 x8, .int .i64 1, .int .i64 1] rfl rfl (cell_three_newH _ _ _ _ _) (by simp [Value.oneCell']) (by unfold maxLen; omega) (by omega) (by simp; omega) ?_; intro v1 w1 hown1 hgrow1 hnil1; obtain ⟨g2, c2, rfl, hg2⟩ := own_some hown1 (fun e => nomatch (hnil1.1 e).1); have S9 := Lib.hid (HS7.out.own hgrow1 hg7 hne7); have O9 : Hid (OwnH w w1 g2 (q + 1) c2) := Lib.hid ⟨L7 ++ [(⟨x8, 1, 1⟩ : THull)], hg2, (by rw [flatHull_append]; exact hown1)⟩; clear hnil1 hgrow1 hown1 HS7 ho7))
        go_wp2_with fail
        refine bodyPost_ret (results_tmp rfl _ _ _) rfl ?_
        exact ⟨g2, q + 1, _, rfl, by omega, O9.out, S9.out.mono (by omega)⟩
      · by_cases n1 : b = 1
        · subst n1
          obtain ⟨r5, r50, r51, H5⟩ := S7.out.at H.out
          go_wp2_with fail
          refine (among_new H5 (by omega) [0, 6, 7] 3 rfl (by omega) (by omega) w7.heap.size rfl).mono ?_
          rintro e w8 ⟨x8, hx8, rfl, hs⟩
          have S8 := Lib.hid (S7.out.then hs r50 r51)
          have O8 := Lib.hid (O7.out.kept hs.grown (by omega))
          clear hs S7 O7 H5 r50 r51 hx8
          obtain ⟨r5, r50, r51, H5⟩ := S8.out.at H.out
          go_wp2_with fail
          refine (among_new H5 (by omega) [1, 3, 4] 3 rfl (by omega) (by omega) w8.heap.size rfl).mono ?_
          rintro e w9 ⟨x9, hx9, rfl, hs⟩
          have SA := Lib.hid (S8.out.then hs r50 r51)
          have OA := Lib.hid (O8.out.kept hs.grown (by omega))
          clear hs S8 O8 H5 r50 r51 hx9
          obtain ⟨L7, hg7, ho7⟩ := OA.out
          have hne7 : g1 ≠ g := by omega
          have hsz7 := SA.out.grown.size
          have HS7 := Lib.hid (SA.out.alloc (.cells #[.int .i64 90, .int .i64 x8, .int .i64 x9] 40))
          clear OA SA
          go_wp2_with (at_builtin; go_loud (refine wpList_append_own _ rfl (.tmp 42) (.tmp 50) 26 rfl w.heap.size 40 i0 (.agg #[.int .i64 0, .int .i64 0, .int .i64 0]) 3 24 Try.underlying26 hi hz0 hz1 hz2 rfl (by decide) (.slice (some ⟨g1, 0, none⟩) q c1) q _ rfl (ho7.alloc (.cells #[.int .i64 90, .int .i64 x8, .int .i64 x9] 40)) ⟨w9.heap.size, 0, none⟩ 1 1 [.int .i64 90, .int .i64 x8, .int .i64 x9] rfl rfl (cell_three_newH _ _ _ _ _) (by simp [Value.oneCell']) (by unfold maxLen; omega) (by omega) (by simp; omega) ?_; intro v1 w1 hown1 hgrow1 hnil1; obtain ⟨g2, c2, rfl, hg2⟩ := own_some hown1 (fun e => nomatch (hnil1.1 e).1); have S9 := Lib.hid (HS7.out.own hgrow1 hg7 hne7); have O9 : Hid (OwnH w w1 g2 (q + 1) c2) := Lib.hid ⟨L7 ++ [(⟨90, x8, x9⟩ : THull)], hg2, (by rw [flatHull_append]; exact hown1)⟩; clear hnil1 hgrow1 hown1 HS7 ho7))
          go_wp2_with fail
          refine bodyPost_ret (results_tmp rfl _ _ _) rfl ?_
          exact ⟨g2, q + 1, _, rfl, by omega, O9.out, S9.out.mono (by omega)⟩
        · have m0 : (b == 0) = false := by simp [n0]
          have m1 : (b == 1) = false := by simp [n1]
          clear n0 n1
          go_wp2_with fail
          refine bodyPost_ret (results_tmp rfl _ _ _) rfl ?_
          exact ⟨g1, q, _, rfl, by omega, O7.out, S7.out.mono (by omega)⟩
end Go.Proofs.Ytdleidlmjliapaa
