/- Chapter 10: the basins that the laws draw. -/
import Derived.Test.YtliebicnejbheaaWaG
import Derived.Test.YtliebicnejbheaaCurX
namespace Go.Proofs.Ytliebicnejbheaa
open Go.RowKit Go.PlainAid Go.Sort
set_option linter.unusedVariables false
set_option linter.unusedSimpArgs false

theorem cell_three_new (w : World) (a b c : Value) (t : TypeId) : ∀ j u, [a, b, c][j]? = some u → (w.alloc (.cells #[a, b, c] t)).cell? ((⟨w.heap.size, 0, none⟩ : Addr).add j) = some u := by
  intro j u hu
  rw [addO, Nat.zero_add, sNew]
  match j, hu with
  | 0, hu => exact hu
  | 1, hu => exact hu
  | 2, hu => exact hu
def BoxN (W : World) (g : Nat) (a b c : Int) : Prop := W.heap[g]? = some (.cells #[.int .i64 a, .int .i64 b, .int .i64 c] 53 (0, 0))
section
variable {W : World} {g : Nat} {a b c : Int}
theorem BoxN.c0 (h : BoxN W g a b c) : W.cell? ⟨g, 0, none⟩ = some (.int .i64 a) := cell_of_row W g 0 _ _ _ h
theorem BoxN.c1 (h : BoxN W g a b c) : W.cell? ⟨g, 1, none⟩ = some (.int .i64 b) := cell_of_row W g 1 _ _ _ h
theorem BoxN.c2 (h : BoxN W g a b c) : W.cell? ⟨g, 2, none⟩ = some (.int .i64 c) := cell_of_row W g 2 _ _ _ h
theorem BoxN.fz (h : BoxN W g a b c) (k : Nat) : W.frozen? ⟨g, k, none⟩ = false := frozen_of_row W g k _ _ h
theorem BoxN.lt (h : BoxN W g a b c) : g < W.heap.size := (Array.getElem?_eq_some_iff.1 h).1
theorem BoxN.below {w' : World} {B : Nat} (h : BoxN W g a b c) (hb : Below B W w') (hg : g < B) : BoxN w' g a b c := (hb.block g hg).trans h
theorem BoxN.kept {w' : World} {row : Option Nat} (h : BoxN W g a b c) (hg : W.grownBy w' row) (hne : some g ≠ row) : BoxN w' g a b c := (hg.block g h.lt hne).trans h
theorem BoxN.new (W : World) (a b c : Int) : BoxN (W.alloc (.cells #[.int .i64 a, .int .i64 b, .int .i64 c] 53)) W.heap.size a b c := heap_alloc_new W _
theorem BoxN.set0 (h : BoxN W g a b c) (a' : Int) : BoxN (W.setCell ⟨g, 0, none⟩ (.int .i64 a')) g a' b c := by
  unfold BoxN at *
  simp [World.setCell, Array.getElem?_modify, h]
end

/-- Basins in a row of one's own, their Leasts and Mosts no great numbers. -/
def okN (v : TBasin) : Prop := (0 ≤ v.x1 ∧ v.x1 ≤ 100000) ∧ (0 ≤ v.x2 ∧ v.x2 ≤ 100000)
def OwnN (w W : World) (g1 q c1 : Nat) : Prop := ∃ L : List TBasin, (∀ v ∈ L, okN v) ∧ w.heap.size ≤ g1 ∧ W.ownsRow w.heap.size 53 3 (.slice (some ⟨g1, 0, none⟩) q c1) q (flatBasin L)
theorem OwnN.kept {w W W' : World} {g1 q c1 : Nat} {g : Nat} (h : OwnN w W g1 q c1) (hg : W.grownBy W' (some g)) (hne : g1 ≠ g) : OwnN w W' g1 q c1 := by
  obtain ⟨L, h0, h1, h2⟩ := h
  exact ⟨L, h0, h1, h2.kept hg (.inr (by simp [Value.ownBlock]; exact hne))⟩
theorem OwnN.below {w W W' : World} {g1 q c1 : Nat} (h : OwnN w W g1 q c1) (hb : Below W.heap.size W W') : OwnN w W' g1 q c1 := by
  obtain ⟨L, h0, h1, h2⟩ := h
  exact ⟨L, h0, h1, own_below h2 hb⟩
theorem OwnN.g {w W : World} {g1 q c1 : Nat} (h : OwnN w W g1 q c1) : w.heap.size ≤ g1 := by
  obtain ⟨L, h0, h1, h2⟩ := h
  exact h1
/-- What a draw of basins hands back. -/
def GivesN (w : World) (g : Nat) (A : Option Addr) (n c : Nat) (p : Int) (e : Ending) (w' : World) : Prop :=
  ∃ g1 q c1, e = .returned (.slice (some ⟨g1, 0, none⟩) q c1) ∧ q ≤ 8 ∧ OwnN w w' g1 q c1 ∧ CurStep w w' g A n c p 200
set_option maxRecDepth 100000 in
set_option maxHeartbeats 4000000 in
theorem basins_at {g : Nat} {A : Option Addr} {n c : Nat} {p : Int} {zs : List Int} {B : Nat} {w : World} (h : CurAt w g A n c p zs B) (hp : p ≤ 800000000) :
    Calls Try.prog 56 #[.pointer (some ⟨g, 0, none⟩)] w (GivesN w g A n c p) := by
  obtain ⟨i0, hi, hz0, hz1, hz2⟩ := info_parts Try.infoBasin'
  have H := Lib.hid h
  have hgl := h.lt
  have hp0 := h.p0
  have S1 := Lib.hid ((CurStep.refl h.cur).alloc (.cells #[] 53))
  have O1 : Hid (OwnN w (w.alloc (.cells #[] 53)) w.heap.size 0 0) := Lib.hid ⟨[], (fun v hv => nomatch hv), Nat.le_refl _, World.ownsRow_made w #[] 0 (Nat.le_refl _) (by unfold maxLen; omega) rfl⟩
  have hbg : w.heap.size ≠ g := by omega
  clear h
  go_enter Try.func56, Try.ntmps56
  go_wp2_with fail
  obtain ⟨W1, hW1⟩ : ∃ x, w.alloc (.cells #[] 53) = x := ⟨_, rfl⟩
  rw [hW1] at S1 O1 ⊢
  obtain ⟨xb, hxb⟩ : ∃ x, w.heap.size = x := ⟨_, rfl⟩
  rw [hxb] at O1 hbg
  try simp only [hxb]
  obtain ⟨r5, r50, r51, H5⟩ := S1.out.at H.out
  refine (pick_at H5 (by omega) _ (by omega)).mono ?_
  rintro e w6 ⟨b6, b60, b61, rfl, hs⟩
  obtain ⟨k6, rfl⟩ : ∃ k : Nat, b6 = (k : Int) := ⟨b6.toNat, by omega⟩
  have hk6 : k6 ≤ 5 := by omega
  have S6 := Lib.hid ((S1.out.then hs r50 r51).mono (d' := 10 + 8 * (6 - ((k6 + 1 : Nat) : Int))) (by omega))
  have O6 := Lib.hid (O1.out.kept hs.grown (by omega))
  clear hs S1 O1 H5 r50 r51 b60 b61 hW1
  go_wp2_with fail
  go_loopw [3, 4] (fun v i wr => ∃ (k q g1 c1 : Nat), k ≤ 6 ∧ i = .int .i64 k ∧ v = .slice (some ⟨g1, 0, none⟩) q c1 ∧ q + k ≤ 6 ∧ 1 ≤ q + k ∧ Hid (OwnN w wr g1 q c1) ∧ Hid (CurStep w wr g A n c p (10 + 8 * (6 - (k : Int))))) (fun _ i _ => (intOf i).toNat)
  case atStart => exact ⟨k6 + 1, 0, xb, 0, by omega, by go_num, rfl, by omega, by omega, O6, S6⟩
  case round =>
    clear O6 S6 hk6
    obtain ⟨k, q, g1, c1, hk, rfl, rfl, hq, hq1, O6, S6⟩ := hrel
    have hgg := O6.out.g
    by_cases hlt : 0 < (k : Int)
    · obtain ⟨k, rfl⟩ : ∃ j, k = j + 1 := ⟨k - 1, by omega⟩
      obtain ⟨r5, r50, r51, H5⟩ := S6.out.at H.out
      go_wp2_with fail
      refine (among_new H5 (by push_cast at r51; omega) [0, 5, 10] 3 rfl (by omega) (by omega) wr.heap.size rfl).mono ?_
      rintro e w7 ⟨x, hx, rfl, hs⟩
      have hx0 : 0 ≤ x ∧ x ≤ 10 := by simp at hx; omega
      have S7 := Lib.hid (S6.out.then hs r50 r51)
      have O7 := Lib.hid (O6.out.kept hs.grown (by omega))
      clear hs S6 O6 H5 r50 r51 hx
      obtain ⟨r5, r50, r51, H5⟩ := S7.out.at H.out
      go_wp2_with fail
      refine (among_new H5 (by push_cast at r51; omega) [0, 10, 30, 60] 4 rfl (by omega) (by omega) w7.heap.size rfl).mono ?_
      rintro e w8 ⟨y, hy, rfl, hs⟩
      have hy0 : 0 ≤ y ∧ y ≤ 60 := by simp at hy; omega
      have S8 := Lib.hid (S7.out.then hs r50 r51)
      have O8 := Lib.hid (O7.out.kept hs.grown (by omega))
      clear hs S7 O7 H5 r50 r51 hy
      obtain ⟨r5, r50, r51, H5⟩ := S8.out.at H.out
      obtain ⟨mo, hmo⟩ : ∃ z, x + y = z := ⟨_, rfl⟩
      go_wp2_with fail
      try rw [hmo]
      have hmo0 : x ≤ mo ∧ mo ≤ 70 := by omega
      clear hmo
      refine (pick_at H5 (by push_cast at r51; omega) _ (by omega)).mono ?_
      rintro e w9 ⟨u, u0, u1, rfl, hs⟩
      have hu : u ≤ 70 := by omega
      have SA := Lib.hid (S8.out.then hs r50 r51)
      have OA := Lib.hid (O8.out.kept hs.grown (by omega))
      clear hs S8 O8 H5 r50 r51 u1
      obtain ⟨L7, hL7, hg7, ho7⟩ := OA.out
      have hne7 : g1 ≠ g := by omega
      have hsz7 := SA.out.grown.size
      have HS7 := Lib.hid (SA.out.alloc (.cells #[.int .i64 (x + u), .int .i64 x, .int .i64 mo] 53))
      have HPL : Hid (∀ v ∈ L7 ++ [(⟨x + u, x, mo⟩ : TBasin)], okN v) := Lib.hid (fun v hv => by
        rcases List.mem_append.1 hv with h | h
        · exact hL7 v h
        · rw [List.mem_singleton.1 h]; exact ⟨by dsimp only; omega, by dsimp only; omega⟩)
      clear OA SA
      go_wp2_with (at_builtin; go_loud (refine wpList_append_own _ rfl (.tmp 24) (.tmp 36) 24 rfl w.heap.size 53 i0 (.agg #[.int .i64 0, .int .i64 0, .int .i64 0]) 3 24 Try.underlying24 hi hz0 hz1 hz2 rfl (by decide) (.slice (some ⟨g1, 0, none⟩) q c1) q _ rfl (ho7.alloc (.cells #[.int .i64 (x + u), .int .i64 x, .int .i64 mo] 53)) ⟨w9.heap.size, 0, none⟩ 1 1 [.int .i64 (x + u), .int .i64 x, .int .i64 mo] rfl rfl (cell_three_new _ _ _ _ _) (by simp [Value.oneCell']) (by unfold maxLen; omega) (by omega) (by simp; omega) ?_; intro v1 w1 hown1 hgrow1 hnil1; obtain ⟨g2, c2, rfl, hg2⟩ := own_some hown1 (fun e => nomatch (hnil1.1 e).1); have S9 := Lib.hid (HS7.out.own hgrow1 hg7 hne7); have O9 : Hid (OwnN w w1 g2 (q + 1) c2) := Lib.hid ⟨L7 ++ [(⟨x + u, x, mo⟩ : TBasin)], HPL.out, hg2, (by rw [flatBasin_append]; exact hown1)⟩; clear hnil1 hgrow1 hown1 HS7 ho7))
      go_roundw
      case rel => exact ⟨k, q + 1, g2, c2, by omega, by go_num, rfl, by omega, by omega, O9, Lib.hid (S9.out.mono (by push_cast; omega))⟩
      case measure => simp [intOf]
    · obtain rfl : k = 0 := by omega
      have SR := Lib.hid (S6.out.mono (d' := 58) (by omega))
      have OR := O6
      clear S6 O6 hlt
      go_wp2_with fail
      obtain ⟨r5, r50, r51, H5⟩ := SR.out.at H.out
      refine (pick_at H5 (by omega) 24 (by omega)).mono ?_
      rintro e w7 ⟨b, b80, b81, rfl, hs⟩
      have S7 := Lib.hid (SR.out.then hs r50 r51)
      have O7 := Lib.hid (OR.out.kept hs.grown (by omega))
      clear hs SR OR H5 r50 r51 b80 b81
      by_cases n0 : b = 0
      · subst n0
        have hq0 : 0 < q := by omega
        have hqi : (0 : Int) < (q : Int) := by omega
        obtain ⟨L, hL0, hL1, hL2⟩ := O7.out
        have hLl := own_lenB hL2
        obtain ⟨f0, f1, f2⟩ := own_atB hL2 (k := 0) hq0
        simp only [Nat.zero_mul, Nat.zero_add] at f0 f1 f2
        obtain ⟨⟨hl0, hl1⟩, hm0, hm1⟩ : okN (L.getD 0 noBasin) := by rw [getBasin (by omega)]; exact hL0 _ (List.getElem_mem _)
        generalize L.getD 0 noBasin = V at f0 f1 f2 hl0 hl1 hm0 hm1
        obtain ⟨vd, vl, vm⟩ := V
        dsimp only at f0 f1 f2 hl0 hl1 hm0 hm1
        have hg1 : g1 < w7.heap.size := World.block_lt_of_cell? w7 _ f0
        have hgw : g < w7.heap.size := Nat.lt_of_lt_of_le hgl S7.out.grown.size
        have hws := S7.out.grown.size
        have hSA := S7.out.alloc (.cells #[.int .i64 vd, .int .i64 vl, .int .i64 vm] 53)
        have hO2 := O7.out.below (below1 w7 (.cells #[.int .i64 vd, .int .i64 vl, .int .i64 vm] 53))
        have hBX := BoxN.new w7 vd vl vm
        have hsz : (w7.alloc (.cells #[.int .i64 vd, .int .i64 vl, .int .i64 vm] 53)).heap.size = w7.heap.size + 1 := by simp
        clear hL2 hL1 hL0 O7 S7
        go_wp2_with fail
        obtain ⟨wi, hwi⟩ : ∃ W, w7.alloc (.cells #[.int .i64 vd, .int .i64 vl, .int .i64 vm] 53) = W := ⟨_, rfl⟩
        obtain ⟨xg, hxg⟩ : ∃ x, w7.heap.size = x := ⟨_, rfl⟩
        rw [hwi] at hO2 hSA hBX hsz ⊢
        rw [hxg] at hBX hgw hg1 hws hsz
        try simp only [hxg]
        clear hwi hxg f0 f1 f2
        have hxgg : xg ≠ g := by omega
        have hgx1 : g1 ≠ xg := by omega
        have hne9 : g1 ≠ g := by omega
        obtain ⟨r5, r50, r51, H5⟩ := hSA.at H.out
        refine (among_new H5 (by omega) [vl - 1, vm + 1, vm] 3 rfl (by omega) (by omega) (xg + 1) hsz).mono ?_
        rintro e w9 ⟨z, -, rfl, hs⟩
        have S9 := Lib.hid (hSA.then hs r50 r51)
        have O9 := Lib.hid (hO2.kept hs.grown (by omega))
        have B9 := Lib.hid (hBX.kept hs.grown (by simp; omega))
        clear hs hSA hO2 hBX H5 r50 r51 hsz
        obtain ⟨L9, hL90, hL91, hL92⟩ := O9.out
        obtain ⟨e0, e1, e2⟩ := own_atB hL92 (k := 0) hq0
        have z0 := hL92.frozenAt 0
        have z1 := hL92.frozenAt 1
        have z2 := hL92.frozenAt 2
        simp only [Nat.zero_mul, Nat.zero_add] at e0 e1 e2
        have y0 := B9.out.c0
        have y1 := B9.out.c1
        have y2 := B9.out.c2
        have yf := B9.out.fz 0
        have hl9 := own_lenB hL92
        have HF := own_setB (own_set hL92 xg 0 (.int .i64 z) (by simp [Value.ownBlock]; exact hgx1)) hl9 (k := 0) hq0 z vl vm
        simp only [Nat.zero_mul, Nat.zero_add] at HF
        have HFF := Lib.hid HF
        have HOK : Hid (∀ v ∈ L9.set 0 ⟨z, vl, vm⟩, okN v) := Lib.hid (fun v hv => by
          rcases List.mem_or_eq_of_mem_set hv with h | h
          · exact hL90 v h
          · rw [h]; exact ⟨⟨hl0, hl1⟩, hm0, hm1⟩)
        have SF := Lib.hid ((S9.out.own (grown_set w9 xg 0 (.int .i64 z)) hws hxgg).own HF.2 hL91 hne9)
        clear HF hL92 hL90 hl9
        go_wp2_with fail
        refine bodyPost_ret (results_tmp rfl _ _ _) rfl ?_
        exact ⟨g1, q, c1, rfl, by omega, ⟨_, HOK.out, hgg, HFF.out.1⟩, SF.out.mono (by omega)⟩
      · by_cases n1 : b = 1
        · subst n1
          have hsg := S7.out.grown.size
          have S8 := Lib.hid (S7.out.alloc (.cells #[] 53))
          have O8 : Hid (OwnN w (w7.alloc (.cells #[] 53)) w7.heap.size 0 0) := Lib.hid ⟨[], (fun v hv => nomatch hv), hsg, own_low (World.ownsRow_made w7 #[] 0 (Nat.le_refl _) (by unfold maxLen; omega) rfl) hsg⟩
          clear S7 O7
          go_wp2_with fail
          refine bodyPost_ret (results_tmp rfl _ _ _) rfl ?_
          exact ⟨w7.heap.size, 0, _, rfl, by omega, O8.out, S8.out.mono (by omega)⟩
        · by_cases n2 : b = 2
          · subst n2
            clear n0 n1 hgg
            have S7' := Lib.hid (S7.out.mono (d' := 60 + 2 * (q : Int)) (by omega))
            clear S7
            go_wp2_with fail
            go_loopw [3] (fun v wr => ∃ (q g1 c1 : Nat), v = .slice (some ⟨g1, 0, none⟩) q c1 ∧ q ≤ 8 ∧ Hid (OwnN w wr g1 q c1) ∧ Hid (CurStep w wr g A n c p (60 + 2 * (q : Int)))) (fun v _ => 9 - lenV v)
            case atStart => exact ⟨q, g1, c1, rfl, by omega, O7, S7'⟩
            case round =>
              clear O7 S7' hq hq1
              obtain ⟨q, g1, c1, rfl, hq8, O8, S8⟩ := hrel
              have hgg := O8.out.g
              obtain ⟨r5, r50, r51, H5⟩ := S8.out.at H.out
              go_wp2_with fail
              refine (pick_at H5 (by omega) 2 (by omega)).mono ?_
              rintro e w7 ⟨b7, b70, b71, rfl, hs⟩
              have S7 := Lib.hid (S8.out.then hs r50 r51)
              have O7 := Lib.hid (O8.out.kept hs.grown (by omega))
              clear hs S8 O8 H5 r50 r51
              by_cases hlt : (q : Int) < 6 + b7
              · skip
                obtain ⟨L7, hL7, hg7, ho7⟩ := O7.out
                have hne7 : g1 ≠ g := by omega
                have hsz7 := S7.out.grown.size
                have HS7 := Lib.hid (S7.out.alloc (.cells #[.int .i64 100000, .int .i64 0, .int .i64 100000] 53))
                have HPL : Hid (∀ v ∈ L7 ++ [(⟨100000, 0, 100000⟩ : TBasin)], okN v) := Lib.hid (fun v hv => by
                  rcases List.mem_append.1 hv with h | h
                  · exact hL7 v h
                  · rw [List.mem_singleton.1 h]; exact ⟨by dsimp only; omega, by dsimp only; omega⟩)
                clear O7 S7
                go_wp2_with (at_builtin; go_loud (refine wpList_append_own _ rfl (.tmp 71) (.tmp 73) 24 rfl w.heap.size 53 i0 (.agg #[.int .i64 0, .int .i64 0, .int .i64 0]) 3 24 Try.underlying24 hi hz0 hz1 hz2 rfl (by decide) (.slice (some ⟨g1, 0, none⟩) q c1) q _ rfl (ho7.alloc (.cells #[.int .i64 100000, .int .i64 0, .int .i64 100000] 53)) ⟨w7.heap.size, 0, none⟩ 1 1 [.int .i64 100000, .int .i64 0, .int .i64 100000] rfl rfl (cell_three_new _ _ _ _ _) (by simp [Value.oneCell']) (by unfold maxLen; omega) (by omega) (by simp; omega) ?_; intro v1 w1 hown1 hgrow1 hnil1; obtain ⟨g2, c2, rfl, hg2⟩ := own_some hown1 (fun e => nomatch (hnil1.1 e).1); have S9 := Lib.hid (HS7.out.own hgrow1 hg7 hne7); have O9 : Hid (OwnN w w1 g2 (q + 1) c2) := Lib.hid ⟨L7 ++ [(⟨100000, 0, 100000⟩ : TBasin)], HPL.out, hg2, (by rw [flatBasin_append]; exact hown1)⟩; clear hnil1 hgrow1 hown1 HS7 ho7))
                go_roundw
                case rel => exact ⟨q + 1, g2, c2, rfl, by omega, O9, Lib.hid (S9.out.mono (by push_cast; omega))⟩
                case measure => simp [lenV]; omega
              · go_wp2_with fail
                refine bodyPost_ret (results_tmp rfl _ _ _) rfl ?_
                exact ⟨g1, q, _, rfl, by omega, O7.out, S7.out.mono (by omega)⟩
          · have m0 : (b == 0) = false := by simp [n0]
            have m1 : (b == 1) = false := by simp [n1]
            have m2 : (b == 2) = false := by simp [n2]
            clear n0 n1 n2
            go_wp2_with fail
            refine bodyPost_ret (results_tmp rfl _ _ _) rfl ?_
            exact ⟨g1, q, _, rfl, by omega, O7.out, S7.out.mono (by omega)⟩
end Go.Proofs.Ytliebicnejbheaa
