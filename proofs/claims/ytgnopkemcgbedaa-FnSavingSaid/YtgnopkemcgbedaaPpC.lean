/- Chapter 11: what the laws draw. -/
import Derived.Test.YtgnopkemcgbedaaPpB
import Derived.Test.YtgnopkemcgbedaaVInt
namespace Go.Proofs.Ytgnopkemcgbedaa
open Go.RowKit Go.PlainAid Go.Sort
set_option linter.unusedVariables false
set_option linter.unusedSimpArgs false

theorem OwnC.on {w W W' : World} {g1 q c1 : Nat} (h : OwnC w W g1 q c1) (hb : Below W.heap.size W W') : OwnC w W' g1 q c1 := by
  obtain ⟨L, h1, h2⟩ := h
  exact ⟨L, h1, own_below h2 hb⟩
/-- What a draw of an order hands back. -/
def GivesOr (w : World) (g : Nat) (A : Option Addr) (n c : Nat) (p : Int) (e : Ending) (w' : World) : Prop :=
  ∃ g1 m c1, e = .returned (.slice (some ⟨g1, 0, none⟩) m c1) ∧ m ≤ 12 ∧ OwnC w w' g1 m c1 ∧ CurStep w w' g A n c p 100
set_option maxRecDepth 100000 in
set_option maxHeartbeats 8000000 in
theorem order_at {g : Nat} {A : Option Addr} {n c : Nat} {p : Int} {zs : List Int} {B : Nat} {w : World} (h : CurAt w g A n c p zs B) (hp : p ≤ 850000000) (X : Option Addr) (q cA : Nat) (hq8 : q ≤ 8) :
    Calls Try.prog 70 #[.pointer (some ⟨g, 0, none⟩), .slice X q cA] w (GivesOr w g A n c p) := by
  obtain ⟨i0, hi, hz0, hz1, hz2⟩ := info_parts Try.infoInt'
  have H := Lib.hid h
  have hgl := h.lt
  have hp0 := h.p0
  have S1 := Lib.hid ((CurStep.refl h.cur).alloc (.cells #[] 3))
  have O1 : Hid (OwnC w (w.alloc (.cells #[] 3)) w.heap.size 0 0) := Lib.hid ⟨[], Nat.le_refl _, World.ownsRow_made w #[] 0 (Nat.le_refl _) (by unfold maxLen; omega) rfl⟩
  have hbg : w.heap.size ≠ g := by omega
  clear h
  go_enter Try.func70, Try.ntmps70
  go_wp2_with fail
  obtain ⟨W1, hW1⟩ : ∃ x, w.alloc (.cells #[] 3) = x := ⟨_, rfl⟩
  rw [hW1] at S1 O1 ⊢
  obtain ⟨xb, hxb⟩ : ∃ x, w.heap.size = x := ⟨_, rfl⟩
  rw [hxb] at O1 hbg
  try simp only [hxb]
  obtain ⟨r5, r50, r51, H5⟩ := S1.out.at H.out
  refine (pick_at H5 (by omega) _ (by omega)).mono ?_
  rintro e w6 ⟨b6, b60, b61, rfl, hs⟩
  obtain ⟨k6, rfl⟩ : ∃ k : Nat, b6 = (k : Int) := ⟨b6.toNat, by omega⟩
  have hk6 : k6 ≤ 8 := by omega
  have S6 := Lib.hid ((S1.out.then hs r50 r51).mono (d' := 10 + 6 * (9 - (k6 : Int))) (by omega))
  have O6 := Lib.hid (O1.out.kept hs.grown (by omega))
  clear hs S1 O1 H5 r50 r51 b60 b61 hW1 hxb
  go_wp2_with fail
  go_loopw [5, 6] (fun v i wr => ∃ (k m g1 c1 : Nat), k ≤ 9 ∧ i = .int .i64 k ∧ v = .slice (some ⟨g1, 0, none⟩) m c1 ∧ m + k ≤ 9 ∧ Hid (OwnC w wr g1 m c1) ∧ Hid (CurStep w wr g A n c p (10 + 6 * (9 - (k : Int))))) (fun _ i _ => (intOf i).toNat)
  case atStart => exact ⟨k6, 0, xb, 0, by omega, rfl, rfl, by omega, O6, S6⟩
  case round =>
    clear O6 S6 hk6
    obtain ⟨k, m, g1, c1, hk, rfl, rfl, hmk, O6, S6⟩ := hrel
    have hgg := O6.out.g
    by_cases hlt : 0 < (k : Int)
    · obtain ⟨k, rfl⟩ : ∃ j, k = j + 1 := ⟨k - 1, by omega⟩
      obtain ⟨r5, r50, r51, H5⟩ := S6.out.at H.out
      go_wp2_with fail
      refine (pick_at H5 (by push_cast at r51; omega) _ (by omega)).mono ?_
      rintro e w7 ⟨b, b0, b1, rfl, hs⟩
      have S7 := Lib.hid (S6.out.then hs r50 r51)
      have O7 := Lib.hid (O6.out.kept hs.grown (by omega))
      clear hs S6 O6 H5 r50 r51 b1
      by_cases hb : 0 < b
      · have HI : Hid (∃ L : List Int, IsIs w7 w7.heap.size (some ⟨g1, 0, none⟩) m L) := Lib.hid (by obtain ⟨L, _, h2⟩ := O7.out; exact ⟨L, own_IsIs h2⟩)
        obtain ⟨L, hL⟩ := HI.out
        have CH := Lib.hid (l1HasP_any c1 b (by omega) hL)
        generalize L.contains b = t at CH
        clear hL HI
        go_wp2_with fail
        refine CH.out.mono ?_
        rintro e w8 ⟨rfl, rfl⟩
        clear CH
        cases t with
        | true =>
          go_wp2_with fail
          go_roundw
          case rel => exact ⟨k, m, g1, c1, by omega, by go_num, rfl, by omega, O7, Lib.hid (S7.out.mono (by push_cast; omega))⟩
          case measure => simp [intOf]
        | false =>
          obtain ⟨L7, hg7, ho7⟩ := O7.out
          have hne7 : g1 ≠ g := by omega
          have hsz7 := S7.out.grown.size
          have HS7 := Lib.hid (S7.out.alloc (.cells #[.int .i64 (b)] 3))
          clear O7 S7
          go_wp2_with (at_builtin; (refine wpList_append_own _ rfl (.tmp 30) (.tmp 32) 43 rfl w.heap.size 3 i0 (.int .i64 0) 1 8 Try.underlying43 hi hz0 hz1 hz2 rfl (by decide) (.slice (some ⟨g1, 0, none⟩) m c1) m _ rfl (ho7.alloc (.cells #[.int .i64 (b)] 3)) ⟨w7.heap.size, 0, none⟩ 1 1 [.int .i64 (b)] rfl rfl (cell_one_new _ _ _) (by simp [Value.oneCell']) (by unfold maxLen; omega) (by omega) (by simp; omega) ?_; intro v1 w1 hown1 hgrow1 hnil1; obtain ⟨g2, c2, rfl, hg2⟩ := own_some hown1 (fun e => nomatch (hnil1.1 e).1); have S9 := Lib.hid (HS7.out.own hgrow1 hg7 hne7); have O9 : Hid (OwnC w w1 g2 (m + 1) c2) := Lib.hid ⟨L7 ++ [b], hg2, (by rw [List.map_append]; exact hown1)⟩; clear hnil1 hgrow1 hown1 HS7 ho7))
          go_roundw
          case rel => exact ⟨k, m + 1, g2, c2, by omega, by go_num, rfl, by omega, O9, Lib.hid (S9.out.mono (by push_cast; omega))⟩
          case measure => simp [intOf]
      · go_wp2_with fail
        go_roundw
        case rel => exact ⟨k, m, g1, c1, by omega, by go_num, rfl, by omega, O7, Lib.hid (S7.out.mono (by push_cast; omega))⟩
        case measure => simp [intOf]
    · obtain rfl : k = 0 := by omega
      have SR := Lib.hid (S6.out.mono (d' := 70) (by omega))
      clear S6 hlt
      obtain ⟨r5, r50, r51, H5⟩ := SR.out.at H.out
      go_wp2_with fail
      refine (one_at H5 (by omega) 16 (by omega)).mono ?_
      rintro e w7 ⟨t, rfl, hs⟩
      have S7 := Lib.hid (SR.out.then hs r50 r51)
      have O7 := Lib.hid (O6.out.kept hs.grown (by omega))
      clear hs SR O6 H5 r50 r51
      cases t with
      | false =>
        go_wp2_with fail
        refine bodyPost_ret (results_tmp rfl _ _ _) rfl ?_
        exact ⟨g1, m, _, rfl, by omega, O7.out, S7.out.mono (by omega)⟩
      | true =>
        obtain ⟨r5, r50, r51, H5⟩ := S7.out.at H.out
        go_wp2_with fail
        refine (among_new H5 (by omega) [0, 1, (q : Int)] 3 rfl (by omega) (by omega) w7.heap.size rfl).mono ?_
        rintro e w8 ⟨z, -, rfl, hs⟩
        have S8 := Lib.hid (S7.out.then hs r50 r51)
        have O8 := Lib.hid (O7.out.kept hs.grown (by omega))
        clear hs S7 O7 H5 r50 r51
        obtain ⟨L7, hg7, ho7⟩ := O8.out
        have hne7 : g1 ≠ g := by omega
        have hsz7 := S8.out.grown.size
        have HS7 := Lib.hid (S8.out.alloc (.cells #[.int .i64 (z)] 3))
        clear O8 S8
        go_wp2_with (at_builtin; (refine wpList_append_own _ rfl (.tmp 36) (.tmp 42) 43 rfl w.heap.size 3 i0 (.int .i64 0) 1 8 Try.underlying43 hi hz0 hz1 hz2 rfl (by decide) (.slice (some ⟨g1, 0, none⟩) m c1) m _ rfl (ho7.alloc (.cells #[.int .i64 (z)] 3)) ⟨w8.heap.size, 0, none⟩ 1 1 [.int .i64 (z)] rfl rfl (cell_one_new _ _ _) (by simp [Value.oneCell']) (by unfold maxLen; omega) (by omega) (by simp; omega) ?_; intro v1 w1 hown1 hgrow1 hnil1; obtain ⟨g2, c2, rfl, hg2⟩ := own_some hown1 (fun e => nomatch (hnil1.1 e).1); have S9 := Lib.hid (HS7.out.own hgrow1 hg7 hne7); have O9 : Hid (OwnC w w1 g2 (m + 1) c2) := Lib.hid ⟨L7 ++ [z], hg2, (by rw [List.map_append]; exact hown1)⟩; clear hnil1 hgrow1 hown1 HS7 ho7))
        go_wp2_with fail
        refine bodyPost_ret (results_tmp rfl _ _ _) rfl ?_
        exact ⟨g2, m + 1, _, rfl, by omega, O9.out, S9.out.mono (by omega)⟩
def DrwQ (w : World) (e : Ending) (w' : World) : Prop :=
  ∃ (g c q : Nat) (vs : List TPool), e = .returned (.slice (some ⟨g, 0, none⟩) q c) ∧ q ≤ 8 ∧ q ≤ c ∧ IsPools w' w'.heap.size (some ⟨g, 0, none⟩) q vs ∧ Below w.heap.size w w'
def DrwQij (w : World) (e : Ending) (w' : World) : Prop :=
  ∃ (g c q : Nat) (vs : List TPool) (i j : Int), e = .returned (.tuple #[.slice (some ⟨g, 0, none⟩) q c, .int .i64 i, .int .i64 j]) ∧ q ≤ 8 ∧ q ≤ c ∧ IsPools w' w'.heap.size (some ⟨g, 0, none⟩) q vs ∧ Below w.heap.size w w'
def DrwQo (w : World) (e : Ending) (w' : World) : Prop :=
  ∃ (g c q : Nat) (vs : List TPool) (g2 c2 m : Nat) (os : List Int), e = .returned (.tuple #[.slice (some ⟨g, 0, none⟩) q c, .slice (some ⟨g2, 0, none⟩) m c2]) ∧ q ≤ 8 ∧ q ≤ c ∧ m ≤ 12 ∧ m ≤ c2 ∧ IsPools w' w'.heap.size (some ⟨g, 0, none⟩) q vs ∧ IsIs w' w'.heap.size (some ⟨g2, 0, none⟩) m os ∧ Below w.heap.size w w'
def DrwPl (w : World) (e : Ending) (w' : World) : Prop :=
  ∃ f0 f1 f2 : Int, e = .returned (.agg #[.int .i64 f0, .int .i64 f1, .int .i64 f2]) ∧ Below w.heap.size w w'
def DrwPl2 (w : World) (e : Ending) (w' : World) : Prop :=
  ∃ f0 f1 f2 h0 h1 h2 : Int, e = .returned (.tuple #[.agg #[.int .i64 f0, .int .i64 f1, .int .i64 f2], .agg #[.int .i64 h0, .int .i64 h1, .int .i64 h2]]) ∧ Below w.heap.size w w'
set_option maxHeartbeats 1000000 in
theorem drawQ_any {w : World} {A : Option Addr} {n : Nat} {zs : List Int} {B : Nat} (c : Nat) (h : Code_ w A n zs B) :
    Calls Try.prog 30 #[.slice A n c] w (DrwQ w) := by
  have H := Lib.hid (h.start c)
  have hbs := Lib.hid (fun w' (h : (w.alloc (.cells #[.slice A n c, .int .i64 0, .int .u64 0] 67)).grownBy w' (some w.heap.size)) => below_start h)
  have C := Lib.hid (pools_at (h.start c) (by omega))
  clear h
  go_enter Try.func30, Try.ntmps30
  go_wp2_with fail
  refine C.out.mono ?_
  rintro e w1 ⟨g1, q, c1, rfl, hq, ⟨vs, -, hqc, hvs⟩, hs⟩
  have HR := Lib.hid hvs
  have HB := Lib.hid (hbs.out _ hs.grown)
  clear hs hvs H C
  go_wp2_with fail
  refine bodyPost_ret (results_tmp rfl _ _ _) rfl ?_
  exact ⟨g1, c1, q, vs, rfl, hq, hqc, HR.out, HB.out⟩
set_option maxHeartbeats 2000000 in
theorem drawLF_any {w : World} {A : Option Addr} {n : Nat} {zs : List Int} {B : Nat} (c : Nat) (h : Code_ w A n zs B) :
    Calls Try.prog 16 #[.slice A n c] w (DrwQij w) := by
  have H := Lib.hid (h.start c)
  have hbs := Lib.hid (fun w' (h : (w.alloc (.cells #[.slice A n c, .int .i64 0, .int .u64 0] 67)).grownBy w' (some w.heap.size)) => below_start h)
  have C := Lib.hid (pools_at (h.start c) (by omega))
  clear h
  obtain ⟨W0, hW0⟩ : ∃ W, w.alloc (.cells #[.slice A n c, .int .i64 0, .int .u64 0] 67) = W := ⟨_, rfl⟩
  obtain ⟨xc, hxc⟩ : ∃ x, w.heap.size = x := ⟨_, rfl⟩
  rw [hW0, hxc] at H hbs C
  go_enter Try.func16, Try.ntmps16
  go_wp2_with fail
  (try rw [hW0])
  (try simp only [hxc])
  refine C.out.mono ?_
  rintro e w1 ⟨g1, q, c1, rfl, hq, hO, hs⟩
  have S1 := Lib.hid hs
  have O1 := Lib.hid hO
  have hne1 : g1 ≠ xc := by obtain ⟨_, h1, _⟩ := hO; have := H.out.lt; omega
  clear hs hO C hW0
  obtain ⟨r5, r50, r51, H5⟩ := S1.out.at H.out
  go_wp2_with fail
  refine (pick_at H5 (by omega) _ (by omega)).mono ?_
  rintro e w2 ⟨b1, b10, b11, rfl, hs⟩
  have S2 := Lib.hid (S1.out.then hs r50 r51)
  have O2 := Lib.hid (O1.out.kept hs.grown hne1)
  clear hs S1 O1 H5 r50 r51
  obtain ⟨r5, r50, r51, H5⟩ := S2.out.at H.out
  go_wp2_with fail
  refine (pick_at H5 (by omega) _ (by omega)).mono ?_
  rintro e w3 ⟨b2, b20, b21, rfl, hs⟩
  have S3 := Lib.hid (S2.out.then hs r50 r51)
  have O3 := Lib.hid (O2.out.kept hs.grown hne1)
  clear hs S2 O2 H5 r50 r51
  obtain ⟨r5, r50, r51, H5⟩ := S3.out.at H.out
  go_wp2_with fail
  refine (pick_at H5 (by omega) 16 (by omega)).mono ?_
  rintro e w4 ⟨b3, b30, b31, rfl, hs⟩
  have S4 := Lib.hid (S3.out.then hs r50 r51)
  have O4 := Lib.hid (O3.out.kept hs.grown hne1)
  have hd : 0 ≤ b3 / 15 ∧ b3 / 15 ≤ 1 := by omega
  have HB := Lib.hid (hbs.out _ S4.out.grown)
  clear hs S3 O3 H5 r50 r51 S4
  obtain ⟨hd0, hd1⟩ := hd
  obtain ⟨vs, -, hqc, hvs⟩ := O4.out
  have HV := Lib.hid hvs
  have hw1 : -100 ≤ b2 - b3 / 15 := by omega
  have hw2 : b2 - b3 / 15 ≤ 100 := by omega
  clear hvs O4
  go_wp2_with fail
  refine bodyPost_ret (results_tmp3 rfl _ _ _) rfl ?_
  exact ⟨g1, c1, q, vs, b1, b2 - b3 / 15, rfl, hq, hqc, HV.out, by rw [hxc]; exact HB.out⟩
set_option maxHeartbeats 2000000 in
theorem drawDr_any {w : World} {A : Option Addr} {n : Nat} {zs : List Int} {B : Nat} (c : Nat) (h : Code_ w A n zs B) :
    Calls Try.prog 32 #[.slice A n c] w (DrwQo w) := by
  have H := Lib.hid (h.start c)
  have hbs := Lib.hid (fun w' (h : (w.alloc (.cells #[.slice A n c, .int .i64 0, .int .u64 0] 67)).grownBy w' (some w.heap.size)) => below_start h)
  have C := Lib.hid (pools_at (h.start c) (by omega))
  clear h
  obtain ⟨W0, hW0⟩ : ∃ W, w.alloc (.cells #[.slice A n c, .int .i64 0, .int .u64 0] 67) = W := ⟨_, rfl⟩
  obtain ⟨xc, hxc⟩ : ∃ x, w.heap.size = x := ⟨_, rfl⟩
  rw [hW0, hxc] at H hbs C
  go_enter Try.func32, Try.ntmps32
  go_wp2_with fail
  (try rw [hW0])
  (try simp only [hxc])
  refine C.out.mono ?_
  rintro e w1 ⟨g1, q, c1, rfl, hq, hO, hs⟩
  have S1 := Lib.hid hs
  have O1 := Lib.hid hO
  have hne1 : g1 ≠ xc := by obtain ⟨_, h1, _⟩ := hO; have := H.out.lt; omega
  clear hs hO C hW0
  obtain ⟨r5, r50, r51, H5⟩ := S1.out.at H.out
  go_wp2_with fail
  refine (order_at H5 (by omega) _ q c1 hq).mono ?_
  rintro e w2 ⟨g2, m, c2, rfl, hm, hC, hs⟩
  have S2 := Lib.hid (S1.out.then hs r50 r51)
  have O2 := Lib.hid (O1.out.kept hs.grown hne1)
  have HB := Lib.hid (hbs.out _ S2.out.grown)
  obtain ⟨os, -, hos⟩ := hC
  have hmc := own_capP hos
  have HOS := Lib.hid (own_IsIs hos)
  obtain ⟨vs, -, hqc, hvs⟩ := O2.out
  have HV := Lib.hid hvs
  clear hs S1 O1 H5 r50 r51 hos hvs S2 O2
  go_wp2_with fail
  refine bodyPost_ret (results_tmp2 rfl _ _ _) rfl ?_
  exact ⟨g1, c1, q, vs, g2, c2, m, os, rfl, hq, hqc, hm, hmc, HV.out, HOS.out, by rw [hxc]; exact HB.out⟩
set_option maxHeartbeats 1000000 in
theorem drawSh_any {w : World} {A : Option Addr} {n : Nat} {zs : List Int} {B : Nat} (c : Nat) (h : Code_ w A n zs B) :
    Calls Try.prog 40 #[.slice A n c] w (DrwQo w) := by
  have C := Lib.hid (drawDr_any c h)
  clear h
  go_enter Try.func40, Try.ntmps40
  go_wp2_with fail
  refine C.out.mono ?_
  rintro e w1 ⟨g1, c1, q, vs, g2, c2, m, os, rfl, h1, h2, h3, h4, h5, h6, h7⟩
  have H5 := Lib.hid h5
  have H6 := Lib.hid h6
  have H7 := Lib.hid h7
  clear h5 h6 h7 C
  go_wp2_with fail
  refine bodyPost_ret (results_tmp2 rfl _ _ _) rfl ?_
  exact ⟨g1, c1, q, vs, g2, c2, m, os, rfl, h1, h2, h3, h4, H5.out, H6.out, H7.out⟩
end Go.Proofs.Ytgnopkemcgbedaa
