/- Chapter 5: drawn commands. -/
import Derived.Test.YtmnagjjpncancaaLoU
namespace Go.Proofs.Ytmnagjjpncancaa
open Go.RowKit Go.PlainAid Go.Sort
set_option linter.unusedVariables false
set_option linter.unusedSimpArgs false

def lenV : Value → Nat
  | .slice _ n _ => n
  | _ => 0
theorem planS_ex (l u v : Int) (a b c d high : Bool) (w : World) :
    Calls Try.prog 27 #[.agg #[.int .i64 l, .int .i64 u, .int .i64 v, .bool a, .bool b, .bool c, .bool d], .bool high] w fun e w' => ∃ (L : List Int) (g c' : Nat) (x : Bool), e = .returned (.tuple #[.slice (some ⟨g, 0, none⟩) L.length c', .bool x]) ∧ L.length ≤ 44 ∧
      w'.ownsRow w.heap.size 3 1 (.slice (some ⟨g, 0, none⟩) L.length c') L.length (L.map (.int .i64)) ∧ Below w.heap.size w w' := by
  obtain ⟨L, x, hA⟩ := ansP_ex ⟨l, u, v, a, b, c, d⟩ high
  refine (planS_any l u v a b c d high L x hA L.length rfl w).mono ?_
  rintro e w' ⟨g, c', rfl, ho, hb⟩
  exact ⟨L, g, c', x, rfl, hA.len, ho, hb⟩
/-- Commands in a row of one's own. -/
def OwnC (w W : World) (g1 q c1 : Nat) : Prop := ∃ L : List Int, w.heap.size ≤ g1 ∧ W.ownsRow w.heap.size 3 1 (.slice (some ⟨g1, 0, none⟩) q c1) q (L.map (.int .i64))
theorem OwnC.kept {w W W' : World} {g1 q c1 : Nat} {g : Nat} (h : OwnC w W g1 q c1) (hg : W.grownBy W' (some g)) (hne : g1 ≠ g) : OwnC w W' g1 q c1 := by
  obtain ⟨L, h1, h2⟩ := h
  exact ⟨L, h1, h2.kept hg (.inr (by simp [Value.ownBlock]; exact hne))⟩
theorem OwnC.g {w W : World} {g1 q c1 : Nat} (h : OwnC w W g1 q c1) : w.heap.size ≤ g1 := by
  obtain ⟨L, h1, h2⟩ := h
  exact h1
set_option maxRecDepth 100000 in
set_option maxHeartbeats 4000000 in
theorem commands_at {g : Nat} {A : Option Addr} {n c : Nat} {p : Int} {zs : List Int} {B : Nat} {w : World} (h : CurAt w g A n c p zs B) (hp : p ≤ 800000000) (l u v : Int) (a b cc d : Bool) :
    Calls Try.prog 57 #[.pointer (some ⟨g, 0, none⟩), .agg #[.int .i64 l, .int .i64 u, .int .i64 v, .bool a, .bool b, .bool cc, .bool d]] w fun e w' => ∃ g1 q c1, e = .returned (.slice (some ⟨g1, 0, none⟩) q c1) ∧ q ≤ 61 ∧ OwnC w w' g1 q c1 ∧ CurStep w w' g A n c p 300 := by
  obtain ⟨i0, hi, hz0, hz1, hz2⟩ := info_parts Try.infoInt'
  have H := Lib.hid h
  have hgl := h.lt
  have hp0 := h.p0
  have CP := Lib.hid (fun y W => planS_ex l u v a b cc d y W)
  have S1 := Lib.hid ((CurStep.refl h.cur).alloc (.cells #[.int .i64 l, .int .i64 u, .int .i64 v, .bool a, .bool b, .bool cc, .bool d] 23))
  have Q1 := Lib.hid (BoxL.new w l u v a b cc d)
  have hbg : w.heap.size ≠ g := by omega
  clear h
  go_enter Try.func57, Try.ntmps57
  go_wp2_with fail
  obtain ⟨W1, hW1⟩ : ∃ x, w.alloc (.cells #[.int .i64 l, .int .i64 u, .int .i64 v, .bool a, .bool b, .bool cc, .bool d] 23) = x := ⟨_, rfl⟩
  have hw1 : w.heap.size ≤ W1.heap.size := by rw [← hW1]; simp
  rw [hW1] at S1 Q1 ⊢
  obtain ⟨xb, hxb⟩ : ∃ x, w.heap.size = x := ⟨_, rfl⟩
  rw [hxb] at Q1 hbg
  try simp only [hxb]
  clear hW1 hxb
  refine region_inv (by kernel_rfl) (by kernel_rfl) (fun Fl9 ac W => ∃ (x9 x10 x11 x12 x8 x13 x14 x5 x6 : Value), ac = { tmps := #[Value.pointer (some ⟨g, 0, none⟩), Value.agg #[Value.int IntKind.i64 l, Value.int IntKind.i64 u, Value.int IntKind.i64 v, Value.bool a, Value.bool b, Value.bool cc, Value.bool d], undef, Value.pointer (some ⟨xb, 0, none⟩), Value.slice none 0 0, x5, x6, undef, x8, x9, x10, x11, x12, x13, x14, undef, undef, undef, undef, undef, undef, undef, undef, undef, undef, undef, undef, undef, undef, undef, undef, undef, undef, undef, undef, undef, undef, undef, undef, undef, undef, undef, undef, undef, undef, undef, undef, undef, undef, undef, undef, undef, undef, undef, undef], defers := [] } ∧ BelowX g W1.heap.size W1 W ∧
        (Fl9 0 = true → x9 = .agg #[.int .i64 l, .int .i64 u, .int .i64 v, .bool a, .bool b, .bool cc, .bool d]) ∧
        (Fl9 1 = true → x10 = .pointer (some ⟨g, 0, none⟩)) ∧
        (Fl9 2 = true → (∃ b9, x11 = .bool b9) ∧ CurStep w W g A n c p 2) ∧
        (Fl9 3 = true → ∃ (L : List Int) (g1 c1 : Nat) (y : Bool), x12 = .tuple #[.slice (some ⟨g1, 0, none⟩) L.length c1, .bool y] ∧ L.length ≤ 44 ∧ w.heap.size ≤ g1 ∧ W.ownsRow w.heap.size 3 1 (.slice (some ⟨g1, 0, none⟩) L.length c1) L.length (L.map (.int .i64))) ∧
        (Fl9 4 = true → ∃ (L : List Int) (g1 c1 : Nat) (y : Bool), x8 = .tuple #[.slice (some ⟨g1, 0, none⟩) L.length c1, .bool y] ∧ L.length ≤ 44 ∧ w.heap.size ≤ g1 ∧ W.ownsRow w.heap.size 3 1 (.slice (some ⟨g1, 0, none⟩) L.length c1) L.length (L.map (.int .i64))) ∧
        (Fl9 5 = true → ∃ (L : List Int) (g1 c1 : Nat), x13 = .slice (some ⟨g1, 0, none⟩) L.length c1 ∧ L.length ≤ 44 ∧ w.heap.size ≤ g1 ∧ W.ownsRow w.heap.size 3 1 (.slice (some ⟨g1, 0, none⟩) L.length c1) L.length (L.map (.int .i64))) ∧
        (Fl9 6 = true → ∃ y9, x14 = .bool y9) ∧
        (Fl9 7 = true → ∃ (L : List Int) (g1 c1 : Nat), x5 = .slice (some ⟨g1, 0, none⟩) L.length c1 ∧ L.length ≤ 44 ∧ w.heap.size ≤ g1 ∧ W.ownsRow w.heap.size 3 1 (.slice (some ⟨g1, 0, none⟩) L.length c1) L.length (L.map (.int .i64))) ∧
        (Fl9 8 = true → ∃ y9, x6 = .bool y9) ∧
        (Fl9 2 = false → CurStep w W g A n c p 0) ∧
        (Fl9 3 = true → Fl9 2 = true) ∧
        (Fl9 4 = true → Fl9 2 = true) ∧
        (Fl9 5 = true → Fl9 2 = true) ∧
        (Fl9 7 = true → Fl9 2 = true)) ?_ ?_ ?_
  · exact ⟨_, _, _, _, _, _, _, _, _, rfl, BelowX.of ((Drawn.one W1 1).below _), (fun q0 => nomatch q0), (fun q0 => nomatch q0), (fun q0 => nomatch q0), (fun q0 => nomatch q0), (fun q0 => nomatch q0), (fun q0 => nomatch q0), (fun q0 => nomatch q0), (fun q0 => nomatch q0), (fun q0 => nomatch q0), (fun _ => S1.out.on ((Drawn.one W1 1).below _)), (fun q0 => nomatch q0), (fun q0 => nomatch q0), (fun q0 => nomatch q0), (fun q0 => nomatch q0)⟩
  · intro Fl9 ac W i9 o9 hJ ho hL hdep K9 hK
    obtain ⟨x9, x10, x11, x12, x8, x13, x14, x5, x6, rfl, hB, hh0, hh1, hh2, hh3, hh4, hh5, hh6, hh7, hh8, hx0, hx1, hx2, hx3, hx4⟩ := hJ
    have hi9 : i9 < 9 := by simpa using (Array.getElem?_eq_some_iff.1 ho).1
    have QW := Q1.out.allX hB hbg
    have C0 := QW.c0
    have C1 := QW.c1
    have C2 := QW.c2
    have C3 := QW.c3
    have C4 := QW.c4
    have C5 := QW.c5
    have C6 := QW.c6
    clear QW
    obtain rfl | rfl | rfl | rfl | rfl | rfl | rfl | rfl | rfl : i9 = 0 ∨ i9 = 1 ∨ i9 = 2 ∨ i9 = 3 ∨ i9 = 4 ∨ i9 = 5 ∨ i9 = 6 ∨ i9 = 7 ∨ i9 = 8 := by omega
    · -- operation 0
      cases ho
      go_simp
      exact hK _ _ ⟨_, _, _, _, _, _, _, _, _, rfl, hB, fun _ => rfl, hh1, hh2, hh3, hh4, hh5, hh6, hh7, hh8, hx0, hx1, hx2, hx3, hx4⟩
    · -- operation 1
      cases ho
      go_simp
      exact hK _ _ ⟨_, _, _, _, _, _, _, _, _, rfl, hB, hh0, fun _ => rfl, hh2, hh3, hh4, hh5, hh6, hh7, hh8, hx0, hx1, hx2, hx3, hx4⟩
    · -- operation 2
      cases ho
      obtain rfl := hh1 (hdep ⟨1, .data⟩ (by simp) rfl)
      have hcs := hx0 hL
      obtain ⟨q9, q90, q91, H9⟩ := hcs.at H.out
      go_simp
      refine (one_at H9 (by omega) 2 (by omega)).mono ?_
      rintro e w9 ⟨b9, rfl, hs9⟩
      have hx9 := BelowX.grown hs9.grown
      exact hK _ _ ⟨_, _, _, _, _, _, _, _, _, rfl, hB.trans (hx9.mono hB.size), hh0, hh1, fun _ => ⟨⟨b9, rfl⟩, hcs.then hs9 q90 q91⟩, (fun q0 => absurd (hx1 q0) (by rw [hL]; simp)), (fun q0 => absurd (hx2 q0) (by rw [hL]; simp)), (fun q0 => absurd (hx3 q0) (by rw [hL]; simp)), hh6, (fun q0 => absurd (hx4 q0) (by rw [hL]; simp)), hh8, (fun q0 => nomatch q0), fun _ => rfl, fun _ => rfl, fun _ => rfl, fun _ => rfl⟩
    · -- operation 3
      cases ho
      obtain rfl := hh0 (hdep ⟨0, .data⟩ (by simp) rfl)
      have hd2 := hdep ⟨2, .data⟩ (by simp) rfl
      obtain ⟨⟨b9, rfl⟩, hcs2⟩ := hh2 hd2
      go_simp
      refine (CP.out b9 W).mono ?_
      rintro e w9 ⟨L9, g9, c9, y9, rfl, hl9, ho9, hb9⟩
      exact hK _ _ ⟨_, _, _, _, _, _, _, _, _, rfl, hB.trans ((BelowX.of (g := g) hb9).mono hB.size), hh0, hh1, fun q0 => (fun ⟨h1, h⟩ => ⟨h1, h.on hb9⟩) (hh2 q0), fun _ => ⟨_, _, _, _, rfl, hl9, Nat.le_trans (Nat.le_trans hw1 hB.size) (ho9.lt g9 rfl).1, own_low ho9 (Nat.le_trans hw1 hB.size)⟩, fun q0 => (fun ⟨L9, g9, c9, y9, e, h1, h2, h⟩ => ⟨L9, g9, c9, y9, e, h1, h2, own_below h hb9⟩) (hh4 q0), fun q0 => (fun ⟨L9, g9, c9, e, h1, h2, h⟩ => ⟨L9, g9, c9, e, h1, h2, own_below h hb9⟩) (hh5 q0), hh6, fun q0 => (fun ⟨L9, g9, c9, e, h1, h2, h⟩ => ⟨L9, g9, c9, e, h1, h2, own_below h hb9⟩) (hh7 q0), hh8, fun q0 => (fun h => h.on hb9) (hx0 q0), fun _ => hd2, hx2, hx3, hx4⟩
    · -- operation 4
      cases ho
      have hd3 := hdep ⟨3, .data⟩ (by simp) rfl
      obtain ⟨L9, g9, c9, y9, rfl, hl9, hg9, ho9⟩ := hh3 hd3
      go_simp
      exact hK _ _ ⟨_, _, _, _, _, _, _, _, _, rfl, hB, hh0, hh1, hh2, hh3, fun _ => ⟨_, _, _, _, rfl, hl9, hg9, ho9⟩, hh5, hh6, hh7, hh8, hx0, hx1, fun _ => hx1 hd3, hx3, hx4⟩
    · -- operation 5
      cases ho
      have hd4 := hdep ⟨4, .data⟩ (by simp) rfl
      obtain ⟨L9, g9, c9, y9, rfl, hl9, hg9, ho9⟩ := hh4 hd4
      go_simp
      exact hK _ _ ⟨_, _, _, _, _, _, _, _, _, rfl, hB, hh0, hh1, hh2, hh3, hh4, fun _ => ⟨_, _, _, rfl, hl9, hg9, ho9⟩, hh6, hh7, hh8, hx0, hx1, hx2, fun _ => hx2 hd4, hx4⟩
    · -- operation 6
      cases ho
      have hd4 := hdep ⟨4, .data⟩ (by simp) rfl
      obtain ⟨L9, g9, c9, y9, rfl, hl9, hg9, ho9⟩ := hh4 hd4
      go_simp
      exact hK _ _ ⟨_, _, _, _, _, _, _, _, _, rfl, hB, hh0, hh1, hh2, hh3, hh4, hh5, fun _ => ⟨_, rfl⟩, hh7, hh8, hx0, hx1, hx2, hx3, hx4⟩
    · -- operation 7
      cases ho
      have hd5 := hdep ⟨5, .data⟩ (by simp) rfl
      obtain ⟨L9, g9, c9, rfl, hl9, hg9, ho9⟩ := hh5 hd5
      go_simp
      exact hK _ _ ⟨_, _, _, _, _, _, _, _, _, rfl, hB, hh0, hh1, hh2, hh3, hh4, hh5, hh6, fun _ => ⟨_, _, _, rfl, hl9, hg9, ho9⟩, hh8, hx0, hx1, hx2, hx3, fun _ => hx3 hd5⟩
    · -- operation 8
      cases ho
      have hd6 := hdep ⟨6, .data⟩ (by simp) rfl
      obtain ⟨y9, rfl⟩ := hh6 hd6
      go_simp
      exact hK _ _ ⟨_, _, _, _, _, _, _, _, _, rfl, hB, hh0, hh1, hh2, hh3, hh4, hh5, hh6, hh7, fun _ => ⟨_, rfl⟩, hx0, hx1, hx2, hx3, hx4⟩
  intro Fl9 ac W hJ hall
  obtain ⟨x9, x10, x11, x12, x8, x13, x14, x5, x6, rfl, hB, hh0, hh1, hh2, hh3, hh4, hh5, hh6, hh7, hh8, -, -, -, -, -⟩ := hJ
  obtain rfl := hh0 (hall 0 (by decide))
  obtain rfl := hh1 (hall 1 (by decide))
  obtain ⟨⟨b9, rfl⟩, hcs2⟩ := hh2 (hall 2 (by decide))
  clear hh3
  clear hh4
  clear hh5
  clear hh6
  obtain ⟨L0, g0, c0, rfl, hl0, hg0, ho0⟩ := hh7 (hall 7 (by decide))
  obtain ⟨y, rfl⟩ := hh8 (hall 8 (by decide))
  clear hall
  obtain ⟨q0, hq0⟩ : ∃ q, L0.length = q := ⟨_, rfl⟩
  have O3 : Hid (OwnC w W g0 q0 c0) := Lib.hid ⟨L0, hg0, hq0 ▸ ho0⟩
  have S3 := Lib.hid hcs2
  simp only [hq0]
  rw [hq0] at hl0
  clear hB ho0 hcs2 hq0 Q1 S1 CP hg0
  cases y with
  | false =>
    go_wp2_with fail
    obtain ⟨r5, r50, r51, H5⟩ := S3.out.at H.out
    refine (pick_at H5 (by omega) 8 (by omega)).mono ?_
    rintro e w6 ⟨b6, b60, b61, rfl, hs⟩
    obtain ⟨k6, rfl⟩ : ∃ k : Nat, b6 = (k : Int) := ⟨b6.toNat, by omega⟩
    have hk6 : k6 ≤ 7 := by omega
    have hgg := O3.out.g
    have S6 := Lib.hid ((S3.out.then hs r50 r51).mono (d' := 10 + 2 * (7 - (k6 : Int))) (by omega))
    have O6 := Lib.hid (O3.out.kept hs.grown (by omega))
    clear hs S3 O3 H5 r50 r51 b60 b61
    go_wp2_with fail
    go_loopw [5, 7] (fun v i wr => ∃ (k q g1 c1 : Nat), k ≤ 7 ∧ i = .int .i64 k ∧ v = .slice (some ⟨g1, 0, none⟩) q c1 ∧ q ≤ 44 + (7 - k) ∧ Hid (OwnC w wr g1 q c1) ∧ Hid (CurStep w wr g A n c p (10 + 2 * (7 - (k : Int))))) (fun _ i _ => (intOf i).toNat)
    case atStart => exact ⟨k6, q0, g0, c0, hk6, rfl, rfl, by omega, O6, S6⟩
    case round =>
      clear O6 S6 hk6 hgg
      obtain ⟨k, q, g1, c1, hk, rfl, rfl, hq, O6, S6⟩ := hrel
      have hgg := O6.out.g
      by_cases hlt : 0 < (k : Int)
      · obtain ⟨k, rfl⟩ : ∃ j, k = j + 1 := ⟨k - 1, by omega⟩
        obtain ⟨r5, r50, r51, H5⟩ := S6.out.at H.out
        go_wp2_with fail
        refine (pick_at H5 (by push_cast at r51; omega) 9 (by omega)).mono ?_
        rintro e w7 ⟨b7, b70, b71, rfl, hs⟩
        have S7 := Lib.hid (S6.out.then hs r50 r51)
        have O7 := Lib.hid (O6.out.kept hs.grown (by omega))
        obtain ⟨L7, hg7, ho7⟩ := O7.out
        have hne7 : g1 ≠ g := by omega
        clear hs S6 O6 O7 H5 r50 r51
        go_wp2_with (at_builtin; refine wpList_append_own _ rfl (.tmp 27) (.tmp 31) 34 rfl w.heap.size 3 i0 (.int .i64 0) 1 8 Try.underlying34 hi hz0 hz1 hz2 rfl (by decide) (.slice (some ⟨g1, 0, none⟩) q c1) q _ rfl (ho7.alloc _) ⟨w7.heap.size, 0, none⟩ 1 1 [.int .i64 (1 + b7)] rfl rfl (cell_one_new _ _ _) (by simp [Value.oneCell']) (by unfold maxLen; omega) (by omega) (by have := S7.out.grown.size; simp; omega) ?_; intro v1 w1 hown1 hgrow1 hnil1; obtain ⟨g2, c2, rfl, hg2⟩ := own_some hown1 (fun e => nomatch (hnil1.1 e).1); have S9 := Lib.hid ((S7.out.alloc (.cells #[.int .i64 (1 + b7)] 3)).own hgrow1 hg7 hne7); have O9 : Hid (OwnC w w1 g2 (q + 1) c2) := Lib.hid ⟨L7 ++ [1 + b7], hg2, by rw [List.map_append]; exact hown1⟩; clear hnil1 hgrow1 hown1)
        go_roundw
        case rel => exact ⟨k, q + 1, g2, c2, by omega, by go_num, rfl, by omega, O9, Lib.hid (S9.out.mono (by push_cast; omega))⟩
        case measure => simp [intOf]
      · obtain rfl : k = 0 := by omega
        have SR := Lib.hid (S6.out.mono (d' := 24) (by omega))
        have OR := O6
        clear S6 O6 hlt
        go_wp2_with fail
        obtain ⟨r5, r50, r51, H5⟩ := SR.out.at H.out
        refine (pick_at H5 (by omega) 24 (by omega)).mono ?_
        rintro e w8 ⟨b8, b80, b81, rfl, hs⟩
        have S8 := Lib.hid (SR.out.then hs r50 r51)
        have hgg := OR.out.g
        have O8 := Lib.hid (OR.out.kept hs.grown (by omega))
        clear hs SR OR H5 r50 r51 b80 b81
        by_cases h0 : b8 = 0
        · subst h0
          obtain ⟨r5, r50, r51, H5⟩ := S8.out.at H.out
          go_wp2_with fail
          refine (among_new H5 (by omega) [0, 10] 2 rfl (by omega) (by omega) w8.heap.size rfl).mono ?_
          rintro e w7 ⟨z7, -, rfl, hs⟩
          have S7 := Lib.hid (S8.out.then hs r50 r51)
          have O7 := Lib.hid (O8.out.kept hs.grown (by omega))
          obtain ⟨L7, hg7, ho7⟩ := O7.out
          have hne7 : g1 ≠ g := by omega
          clear hs S8 O8 O7 H5 r50 r51
          go_wp2_with (at_builtin; refine wpList_append_own _ rfl (.tmp 37) (.tmp 41) 34 rfl w.heap.size 3 i0 (.int .i64 0) 1 8 Try.underlying34 hi hz0 hz1 hz2 rfl (by decide) (.slice (some ⟨g1, 0, none⟩) q c1) q _ rfl (ho7.alloc _) ⟨w7.heap.size, 0, none⟩ 1 1 [.int .i64 (z7)] rfl rfl (cell_one_new _ _ _) (by simp [Value.oneCell']) (by unfold maxLen; omega) (by omega) (by have := S7.out.grown.size; simp; omega) ?_; intro v1 w1 hown1 hgrow1 hnil1; obtain ⟨g2, c2, rfl, hg2⟩ := own_some hown1 (fun e => nomatch (hnil1.1 e).1); have S9 := Lib.hid ((S7.out.alloc (.cells #[.int .i64 (z7)] 3)).own hgrow1 hg7 hne7); have O9 : Hid (OwnC w w1 g2 (q + 1) c2) := Lib.hid ⟨L7 ++ [z7], hg2, by rw [List.map_append]; exact hown1⟩; clear hnil1 hgrow1 hown1)
          refine bodyPost_ret (results_tmp rfl _ _ _) rfl ?_
          exact ⟨g2, _, c2, rfl, by omega, O9.out, S9.out.mono (by omega)⟩
        · by_cases h1 : b8 = 1
          · subst h1
            clear h0
            have S8' := Lib.hid (S8.out.mono (d' := 100 + 2 * (q : Int)) (by omega))
            clear S8
            go_wp2_with fail
            go_loopw [5] (fun v wr => ∃ (q g1 c1 : Nat), v = .slice (some ⟨g1, 0, none⟩) q c1 ∧ q ≤ 61 ∧ Hid (OwnC w wr g1 q c1) ∧ Hid (CurStep w wr g A n c p (100 + 2 * (q : Int)))) (fun v _ => 61 - lenV v)
            case atStart => exact ⟨q, g1, c1, rfl, by omega, O8, S8'⟩
            case round =>
              clear O8 S8' hgg
              obtain ⟨q, g1, c1, rfl, hq61, O8, S8⟩ := hrel
              have hgg := O8.out.g
              obtain ⟨r5, r50, r51, H5⟩ := S8.out.at H.out
              go_wp2_with fail
              refine (pick_at H5 (by omega) 2 (by omega)).mono ?_
              rintro e w7 ⟨b7, b70, b71, rfl, hs⟩
              have S7 := Lib.hid (S8.out.then hs r50 r51)
              have O7 := Lib.hid (O8.out.kept hs.grown (by omega))
              clear hs S8 O8 H5 r50 r51
              by_cases hlt : (q : Int) < 60 + b7
              · obtain ⟨L7, hg7, ho7⟩ := O7.out
                have hne7 : g1 ≠ g := by omega
                clear O7
                go_wp2_with (at_builtin; refine wpList_append_own _ rfl (.tmp 51) (.tmp 52) 34 rfl w.heap.size 3 i0 (.int .i64 0) 1 8 Try.underlying34 hi hz0 hz1 hz2 rfl (by decide) (.slice (some ⟨g1, 0, none⟩) q c1) q _ rfl (ho7.alloc _) ⟨w7.heap.size, 0, none⟩ 1 1 [.int .i64 (9)] rfl rfl (cell_one_new _ _ _) (by simp [Value.oneCell']) (by unfold maxLen; omega) (by omega) (by have := S7.out.grown.size; simp; omega) ?_; intro v1 w1 hown1 hgrow1 hnil1; obtain ⟨g2, c2, rfl, hg2⟩ := own_some hown1 (fun e => nomatch (hnil1.1 e).1); have S9 := Lib.hid ((S7.out.alloc (.cells #[.int .i64 (9)] 3)).own hgrow1 hg7 hne7); have O9 : Hid (OwnC w w1 g2 (q + 1) c2) := Lib.hid ⟨L7 ++ [9], hg2, by rw [List.map_append]; exact hown1⟩; clear hnil1 hgrow1 hown1)
                go_roundw
                case rel => exact ⟨q + 1, g2, c2, rfl, by omega, O9, Lib.hid (S9.out.mono (by push_cast; omega))⟩
                case measure => simp [lenV]; omega
              · go_wp2_with fail
                refine bodyPost_ret (results_tmp rfl _ _ _) rfl ?_
                exact ⟨g1, q, c1, rfl, by omega, O7.out, S7.out.mono (by omega)⟩
          · have n0 : (b8 == 0) = false := by simp [h0]
            have n1 : (b8 == 1) = false := by simp [h1]
            clear h0 h1
            go_wp2_with fail
            refine bodyPost_ret (results_tmp rfl _ _ _) rfl ?_
            exact ⟨g1, q, c1, rfl, by omega, O8.out, S8.out.mono (by omega)⟩
  | true =>
    obtain ⟨r5, r50, r51, H5⟩ := S3.out.at H.out
    go_wp2_with fail
    refine (one_at H5 (by omega) 3 (by omega)).mono ?_
    rintro e w5 ⟨y5, rfl, hs⟩
    have hgg := O3.out.g
    have S5 := Lib.hid (S3.out.then hs r50 r51)
    have O5 := Lib.hid (O3.out.kept hs.grown (by omega))
    clear hs S3 O3 H5 r50 r51
    have S3 := S5
    have O3 := O5
    clear S5 O5
    cases y5 with
    | true =>
      go_wp2_with fail
      obtain ⟨r5, r50, r51, H5⟩ := S3.out.at H.out
      refine (pick_at H5 (by omega) 8 (by omega)).mono ?_
      rintro e w6 ⟨b6, b60, b61, rfl, hs⟩
      obtain ⟨k6, rfl⟩ : ∃ k : Nat, b6 = (k : Int) := ⟨b6.toNat, by omega⟩
      have hk6 : k6 ≤ 7 := by omega
      have hgg := O3.out.g
      have S6 := Lib.hid ((S3.out.then hs r50 r51).mono (d' := 10 + 2 * (7 - (k6 : Int))) (by omega))
      have O6 := Lib.hid (O3.out.kept hs.grown (by omega))
      clear hs S3 O3 H5 r50 r51 b60 b61
      go_wp2_with fail
      go_loopw [5, 7] (fun v i wr => ∃ (k q g1 c1 : Nat), k ≤ 7 ∧ i = .int .i64 k ∧ v = .slice (some ⟨g1, 0, none⟩) q c1 ∧ q ≤ 44 + (7 - k) ∧ Hid (OwnC w wr g1 q c1) ∧ Hid (CurStep w wr g A n c p (10 + 2 * (7 - (k : Int))))) (fun _ i _ => (intOf i).toNat)
      case atStart => exact ⟨k6, q0, g0, c0, hk6, rfl, rfl, by omega, O6, S6⟩
      case round =>
        clear O6 S6 hk6 hgg
        obtain ⟨k, q, g1, c1, hk, rfl, rfl, hq, O6, S6⟩ := hrel
        have hgg := O6.out.g
        by_cases hlt : 0 < (k : Int)
        · obtain ⟨k, rfl⟩ : ∃ j, k = j + 1 := ⟨k - 1, by omega⟩
          obtain ⟨r5, r50, r51, H5⟩ := S6.out.at H.out
          go_wp2_with fail
          refine (pick_at H5 (by push_cast at r51; omega) 9 (by omega)).mono ?_
          rintro e w7 ⟨b7, b70, b71, rfl, hs⟩
          have S7 := Lib.hid (S6.out.then hs r50 r51)
          have O7 := Lib.hid (O6.out.kept hs.grown (by omega))
          obtain ⟨L7, hg7, ho7⟩ := O7.out
          have hne7 : g1 ≠ g := by omega
          clear hs S6 O6 O7 H5 r50 r51
          go_wp2_with (at_builtin; refine wpList_append_own _ rfl (.tmp 27) (.tmp 31) 34 rfl w.heap.size 3 i0 (.int .i64 0) 1 8 Try.underlying34 hi hz0 hz1 hz2 rfl (by decide) (.slice (some ⟨g1, 0, none⟩) q c1) q _ rfl (ho7.alloc _) ⟨w7.heap.size, 0, none⟩ 1 1 [.int .i64 (1 + b7)] rfl rfl (cell_one_new _ _ _) (by simp [Value.oneCell']) (by unfold maxLen; omega) (by omega) (by have := S7.out.grown.size; simp; omega) ?_; intro v1 w1 hown1 hgrow1 hnil1; obtain ⟨g2, c2, rfl, hg2⟩ := own_some hown1 (fun e => nomatch (hnil1.1 e).1); have S9 := Lib.hid ((S7.out.alloc (.cells #[.int .i64 (1 + b7)] 3)).own hgrow1 hg7 hne7); have O9 : Hid (OwnC w w1 g2 (q + 1) c2) := Lib.hid ⟨L7 ++ [1 + b7], hg2, by rw [List.map_append]; exact hown1⟩; clear hnil1 hgrow1 hown1)
          go_roundw
          case rel => exact ⟨k, q + 1, g2, c2, by omega, by go_num, rfl, by omega, O9, Lib.hid (S9.out.mono (by push_cast; omega))⟩
          case measure => simp [intOf]
        · obtain rfl : k = 0 := by omega
          have SR := Lib.hid (S6.out.mono (d' := 24) (by omega))
          have OR := O6
          clear S6 O6 hlt
          go_wp2_with fail
          obtain ⟨r5, r50, r51, H5⟩ := SR.out.at H.out
          refine (pick_at H5 (by omega) 24 (by omega)).mono ?_
          rintro e w8 ⟨b8, b80, b81, rfl, hs⟩
          have S8 := Lib.hid (SR.out.then hs r50 r51)
          have hgg := OR.out.g
          have O8 := Lib.hid (OR.out.kept hs.grown (by omega))
          clear hs SR OR H5 r50 r51 b80 b81
          by_cases h0 : b8 = 0
          · subst h0
            obtain ⟨r5, r50, r51, H5⟩ := S8.out.at H.out
            go_wp2_with fail
            refine (among_new H5 (by omega) [0, 10] 2 rfl (by omega) (by omega) w8.heap.size rfl).mono ?_
            rintro e w7 ⟨z7, -, rfl, hs⟩
            have S7 := Lib.hid (S8.out.then hs r50 r51)
            have O7 := Lib.hid (O8.out.kept hs.grown (by omega))
            obtain ⟨L7, hg7, ho7⟩ := O7.out
            have hne7 : g1 ≠ g := by omega
            clear hs S8 O8 O7 H5 r50 r51
            go_wp2_with (at_builtin; refine wpList_append_own _ rfl (.tmp 37) (.tmp 41) 34 rfl w.heap.size 3 i0 (.int .i64 0) 1 8 Try.underlying34 hi hz0 hz1 hz2 rfl (by decide) (.slice (some ⟨g1, 0, none⟩) q c1) q _ rfl (ho7.alloc _) ⟨w7.heap.size, 0, none⟩ 1 1 [.int .i64 (z7)] rfl rfl (cell_one_new _ _ _) (by simp [Value.oneCell']) (by unfold maxLen; omega) (by omega) (by have := S7.out.grown.size; simp; omega) ?_; intro v1 w1 hown1 hgrow1 hnil1; obtain ⟨g2, c2, rfl, hg2⟩ := own_some hown1 (fun e => nomatch (hnil1.1 e).1); have S9 := Lib.hid ((S7.out.alloc (.cells #[.int .i64 (z7)] 3)).own hgrow1 hg7 hne7); have O9 : Hid (OwnC w w1 g2 (q + 1) c2) := Lib.hid ⟨L7 ++ [z7], hg2, by rw [List.map_append]; exact hown1⟩; clear hnil1 hgrow1 hown1)
            refine bodyPost_ret (results_tmp rfl _ _ _) rfl ?_
            exact ⟨g2, _, c2, rfl, by omega, O9.out, S9.out.mono (by omega)⟩
          · by_cases h1 : b8 = 1
            · subst h1
              clear h0
              have S8' := Lib.hid (S8.out.mono (d' := 100 + 2 * (q : Int)) (by omega))
              clear S8
              go_wp2_with fail
              go_loopw [5] (fun v wr => ∃ (q g1 c1 : Nat), v = .slice (some ⟨g1, 0, none⟩) q c1 ∧ q ≤ 61 ∧ Hid (OwnC w wr g1 q c1) ∧ Hid (CurStep w wr g A n c p (100 + 2 * (q : Int)))) (fun v _ => 61 - lenV v)
              case atStart => exact ⟨q, g1, c1, rfl, by omega, O8, S8'⟩
              case round =>
                clear O8 S8' hgg
                obtain ⟨q, g1, c1, rfl, hq61, O8, S8⟩ := hrel
                have hgg := O8.out.g
                obtain ⟨r5, r50, r51, H5⟩ := S8.out.at H.out
                go_wp2_with fail
                refine (pick_at H5 (by omega) 2 (by omega)).mono ?_
                rintro e w7 ⟨b7, b70, b71, rfl, hs⟩
                have S7 := Lib.hid (S8.out.then hs r50 r51)
                have O7 := Lib.hid (O8.out.kept hs.grown (by omega))
                clear hs S8 O8 H5 r50 r51
                by_cases hlt : (q : Int) < 60 + b7
                · obtain ⟨L7, hg7, ho7⟩ := O7.out
                  have hne7 : g1 ≠ g := by omega
                  clear O7
                  go_wp2_with (at_builtin; refine wpList_append_own _ rfl (.tmp 51) (.tmp 52) 34 rfl w.heap.size 3 i0 (.int .i64 0) 1 8 Try.underlying34 hi hz0 hz1 hz2 rfl (by decide) (.slice (some ⟨g1, 0, none⟩) q c1) q _ rfl (ho7.alloc _) ⟨w7.heap.size, 0, none⟩ 1 1 [.int .i64 (9)] rfl rfl (cell_one_new _ _ _) (by simp [Value.oneCell']) (by unfold maxLen; omega) (by omega) (by have := S7.out.grown.size; simp; omega) ?_; intro v1 w1 hown1 hgrow1 hnil1; obtain ⟨g2, c2, rfl, hg2⟩ := own_some hown1 (fun e => nomatch (hnil1.1 e).1); have S9 := Lib.hid ((S7.out.alloc (.cells #[.int .i64 (9)] 3)).own hgrow1 hg7 hne7); have O9 : Hid (OwnC w w1 g2 (q + 1) c2) := Lib.hid ⟨L7 ++ [9], hg2, by rw [List.map_append]; exact hown1⟩; clear hnil1 hgrow1 hown1)
                  go_roundw
                  case rel => exact ⟨q + 1, g2, c2, rfl, by omega, O9, Lib.hid (S9.out.mono (by push_cast; omega))⟩
                  case measure => simp [lenV]; omega
                · go_wp2_with fail
                  refine bodyPost_ret (results_tmp rfl _ _ _) rfl ?_
                  exact ⟨g1, q, c1, rfl, by omega, O7.out, S7.out.mono (by omega)⟩
            · have n0 : (b8 == 0) = false := by simp [h0]
              have n1 : (b8 == 1) = false := by simp [h1]
              clear h0 h1
              go_wp2_with fail
              refine bodyPost_ret (results_tmp rfl _ _ _) rfl ?_
              exact ⟨g1, q, c1, rfl, by omega, O8.out, S8.out.mono (by omega)⟩
    | false =>
      have SR := Lib.hid (S3.out.mono (d' := 24) (by omega))
      have OR := O3
      clear S3 O3
      obtain ⟨q, hq⟩ : ∃ q, q = q0 := ⟨_, rfl⟩
      obtain ⟨g1, hg1⟩ : ∃ q, q = g0 := ⟨_, rfl⟩
      obtain ⟨c1, hc1⟩ : ∃ q, q = c0 := ⟨_, rfl⟩
      subst hq hg1 hc1
      go_wp2_with fail
      obtain ⟨r5, r50, r51, H5⟩ := SR.out.at H.out
      refine (pick_at H5 (by omega) 24 (by omega)).mono ?_
      rintro e w8 ⟨b8, b80, b81, rfl, hs⟩
      have S8 := Lib.hid (SR.out.then hs r50 r51)
      have hgg := OR.out.g
      have O8 := Lib.hid (OR.out.kept hs.grown (by omega))
      clear hs SR OR H5 r50 r51 b80 b81
      by_cases h0 : b8 = 0
      · subst h0
        obtain ⟨r5, r50, r51, H5⟩ := S8.out.at H.out
        go_wp2_with fail
        refine (among_new H5 (by omega) [0, 10] 2 rfl (by omega) (by omega) w8.heap.size rfl).mono ?_
        rintro e w7 ⟨z7, -, rfl, hs⟩
        have S7 := Lib.hid (S8.out.then hs r50 r51)
        have O7 := Lib.hid (O8.out.kept hs.grown (by omega))
        obtain ⟨L7, hg7, ho7⟩ := O7.out
        have hne7 : g1 ≠ g := by omega
        clear hs S8 O8 O7 H5 r50 r51
        go_wp2_with (at_builtin; refine wpList_append_own _ rfl (.tmp 37) (.tmp 41) 34 rfl w.heap.size 3 i0 (.int .i64 0) 1 8 Try.underlying34 hi hz0 hz1 hz2 rfl (by decide) (.slice (some ⟨g1, 0, none⟩) q c1) q _ rfl (ho7.alloc _) ⟨w7.heap.size, 0, none⟩ 1 1 [.int .i64 (z7)] rfl rfl (cell_one_new _ _ _) (by simp [Value.oneCell']) (by unfold maxLen; omega) (by omega) (by have := S7.out.grown.size; simp; omega) ?_; intro v1 w1 hown1 hgrow1 hnil1; obtain ⟨g2, c2, rfl, hg2⟩ := own_some hown1 (fun e => nomatch (hnil1.1 e).1); have S9 := Lib.hid ((S7.out.alloc (.cells #[.int .i64 (z7)] 3)).own hgrow1 hg7 hne7); have O9 : Hid (OwnC w w1 g2 (q + 1) c2) := Lib.hid ⟨L7 ++ [z7], hg2, by rw [List.map_append]; exact hown1⟩; clear hnil1 hgrow1 hown1)
        refine bodyPost_ret (results_tmp rfl _ _ _) rfl ?_
        exact ⟨g2, _, c2, rfl, by omega, O9.out, S9.out.mono (by omega)⟩
      · by_cases h1 : b8 = 1
        · subst h1
          clear h0
          have S8' := Lib.hid (S8.out.mono (d' := 100 + 2 * (q : Int)) (by omega))
          clear S8
          go_wp2_with fail
          go_loopw [5] (fun v wr => ∃ (q g1 c1 : Nat), v = .slice (some ⟨g1, 0, none⟩) q c1 ∧ q ≤ 61 ∧ Hid (OwnC w wr g1 q c1) ∧ Hid (CurStep w wr g A n c p (100 + 2 * (q : Int)))) (fun v _ => 61 - lenV v)
          case atStart => exact ⟨q, g1, c1, rfl, by omega, O8, S8'⟩
          case round =>
            clear O8 S8' hgg
            obtain ⟨q, g1, c1, rfl, hq61, O8, S8⟩ := hrel
            have hgg := O8.out.g
            obtain ⟨r5, r50, r51, H5⟩ := S8.out.at H.out
            go_wp2_with fail
            refine (pick_at H5 (by omega) 2 (by omega)).mono ?_
            rintro e w7 ⟨b7, b70, b71, rfl, hs⟩
            have S7 := Lib.hid (S8.out.then hs r50 r51)
            have O7 := Lib.hid (O8.out.kept hs.grown (by omega))
            clear hs S8 O8 H5 r50 r51
            by_cases hlt : (q : Int) < 60 + b7
            · obtain ⟨L7, hg7, ho7⟩ := O7.out
              have hne7 : g1 ≠ g := by omega
              clear O7
              go_wp2_with (at_builtin; refine wpList_append_own _ rfl (.tmp 51) (.tmp 52) 34 rfl w.heap.size 3 i0 (.int .i64 0) 1 8 Try.underlying34 hi hz0 hz1 hz2 rfl (by decide) (.slice (some ⟨g1, 0, none⟩) q c1) q _ rfl (ho7.alloc _) ⟨w7.heap.size, 0, none⟩ 1 1 [.int .i64 (9)] rfl rfl (cell_one_new _ _ _) (by simp [Value.oneCell']) (by unfold maxLen; omega) (by omega) (by have := S7.out.grown.size; simp; omega) ?_; intro v1 w1 hown1 hgrow1 hnil1; obtain ⟨g2, c2, rfl, hg2⟩ := own_some hown1 (fun e => nomatch (hnil1.1 e).1); have S9 := Lib.hid ((S7.out.alloc (.cells #[.int .i64 (9)] 3)).own hgrow1 hg7 hne7); have O9 : Hid (OwnC w w1 g2 (q + 1) c2) := Lib.hid ⟨L7 ++ [9], hg2, by rw [List.map_append]; exact hown1⟩; clear hnil1 hgrow1 hown1)
              go_roundw
              case rel => exact ⟨q + 1, g2, c2, rfl, by omega, O9, Lib.hid (S9.out.mono (by push_cast; omega))⟩
              case measure => simp [lenV]; omega
            · go_wp2_with fail
              refine bodyPost_ret (results_tmp rfl _ _ _) rfl ?_
              exact ⟨g1, q, c1, rfl, by omega, O7.out, S7.out.mono (by omega)⟩
        · have n0 : (b8 == 0) = false := by simp [h0]
          have n1 : (b8 == 1) = false := by simp [h1]
          clear h0 h1
          go_wp2_with fail
          refine bodyPost_ret (results_tmp rfl _ _ _) rfl ?_
          exact ⟨g1, q, c1, rfl, by omega, O8.out, S8.out.mono (by omega)⟩
end Go.Proofs.Ytmnagjjpncancaa
