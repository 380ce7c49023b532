/- Chapter 6: the lists of triples that FnSensors draws. -/
import Derived.Test.YteeljlpbijmhlaaSeG
namespace Go.Proofs.Yteeljlpbijmhlaa
open Go.RowKit Go.PlainAid Go.Sort
set_option linter.unusedVariables false
set_option linter.unusedSimpArgs false

theorem own_base6 {w : World} {b b' : Nat} {e : TypeId} {s n : Nat} {v : Value} {xs : List Value} (h : w.ownsRow b e s v n xs) (hb : b' ≤ b) : w.ownsRow b' e s v n xs := by
  obtain ⟨h1, h2⟩ := h
  refine ⟨h1, ?_⟩
  rcases h2 with h3 | ⟨g, cap, cur, e1, h3, h4⟩
  · exact .inl h3
  · exact .inr ⟨g, cap, cur, e1, by omega, h4⟩
theorem cell_two_new6 (w : World) (a : Obj) (x : Value) (t : TypeId) : ∀ j u, [x][j]? = some u → ((w.alloc a).alloc (.cells #[x] t)).cell? ((⟨w.heap.size + 1, 0, none⟩ : Addr).add j) = some u := by
  intro j u h
  have := cell_one_new (w.alloc a) x t j u h
  simpa using this
set_option maxRecDepth 100000 in
set_option maxHeartbeats 4000000 in
theorem drawSus_any {w : World} {A : Option Addr} {n : Nat} {zs : List Int} {B : Nat} (c : Nat) (h : Code_ w A n zs B) :
    Calls Try.prog 52 #[.slice A n c] w (DrwSS w) := by
  obtain ⟨j0, hj, hy0, hy1, hy2⟩ := info_parts Try.infoSl'
  have H := Lib.hid (h.start c)
  have hbs := Lib.hid (fun w' (h : (w.alloc (.cells #[.slice A n c, .int .i64 0, .int .u64 0] 85)).grownBy w' (some w.heap.size)) => below_start h)
  clear h
  obtain ⟨w0, hw0⟩ : ∃ W, w.alloc (.cells #[.slice A n c, .int .i64 0, .int .u64 0] 85) = W := ⟨_, rfl⟩
  have hgw0 : w.heap.size + 1 = w0.heap.size := by rw [← hw0]; simp
  rw [hw0] at H hbs
  have HW0 := Lib.hid hw0
  obtain ⟨g, hg⟩ : ∃ g, w.heap.size = g := ⟨_, rfl⟩
  rw [hg] at H hgw0 hbs
  have hgw : g < w0.heap.size := by omega
  have HG := Lib.hid hg
  have S1 := Lib.hid ((CurStep.refl H.out.cur).alloc (.cells #[] 22))
  have O1 : Hid (OwnS w0 (w0.alloc (.cells #[] 22)) w0.heap.size 0 0) := Lib.hid ⟨[], Nat.le_refl _, World.ownsRow_made w0 #[] 0 (Nat.le_refl _) (by unfold maxLen; omega) rfl, fun j hj => absurd hj (by omega)⟩
  clear hw0 hg
  go_enter Try.func52, Try.ntmps52
  go_wp2_with fail
  simp only [HW0.out, HG.out]
  obtain ⟨W1, hW1⟩ : ∃ x, w0.alloc (.cells #[] 22) = x := ⟨_, rfl⟩
  have hw1 : w0.heap.size ≤ W1.heap.size := by rw [← hW1]; simp
  rw [hW1] at S1 O1

  try simp only [hW1]

  obtain ⟨r5, r50, r51, H5⟩ := S1.out.at H.out
  refine (pick_at H5 (by omega) 6 (by omega)).mono ?_
  rintro e w6 ⟨b6, b60, b61, rfl, hs⟩
  obtain ⟨k6, rfl⟩ : ∃ k : Nat, b6 = (k : Int) := ⟨b6.toNat, by omega⟩
  have hk6 : k6 ≤ 5 := by omega
  have S6 := Lib.hid ((S1.out.then hs r50 r51).mono (d' := 10 + 30 * (5 - (k6 : Int))) (by omega))
  have O6 := Lib.hid (O1.out.kept hs.grown hgw)
  clear hs S1 O1 H5 r50 r51 b60 b61 hw1 hW1
  go_wp2_with fail
  go_loopw [5, 6] (fun v i wr => ∃ (k q g1 c1 : Nat), k ≤ 5 ∧ i = .int .i64 k ∧ v = .slice (some ⟨g1, 0, none⟩) q c1 ∧ q ≤ 5 - k ∧ Hid (OwnS w0 wr g1 q c1) ∧ Hid (CurStep w0 wr g A n c 0 (10 + 30 * (5 - (k : Int))))) (fun _ i _ => (intOf i).toNat)
  case atStart => exact ⟨k6, 0, _, 0, hk6, rfl, rfl, by omega, O6, S6⟩
  case round =>
    clear O6 S6 hk6
    obtain ⟨k, q, g1, c1, hk, rfl, rfl, hq, O6, S6⟩ := hrel
    have hgg := O6.out.g
    by_cases hlt : 0 < (k : Int)
    · obtain ⟨k, rfl⟩ : ∃ j, k = j + 1 := ⟨k - 1, by omega⟩
      obtain ⟨r5, r50, r51, H5⟩ := S6.out.at H.out
      have hsz := S6.out.grown.size
      go_wp2_with fail
      refine (triple_at H5 (by push_cast at r51; omega)).mono ?_
      rintro e w7 ⟨b, n', c', rfl, hn', ho, hs⟩
      have S7 := Lib.hid (S6.out.then hs r50 r51)
      have O7 := Lib.hid (O6.out.kept hs.grown hgw)
      obtain ⟨vs, hg7, ho7, h37⟩ := O7.out
      obtain ⟨L3, hgb, hob⟩ := ho
      replace hob := own_base6 hob hsz
      have hlv : vs.length = q := by have := ho7.1; simpa [flatSl] using this
      have hne7 : g1 ≠ g := by omega
      clear hs S6 O6 O7 H5 r50 r51
      go_wp2_with (at_builtin; refine wpList_append_own _ rfl (.tmp 17) (.tmp 20) 33 rfl w0.heap.size 22 j0 (.slice none 0 0) 1 24 Try.underlying33 hj hy0 hy1 hy2 rfl (by decide) (.slice (some ⟨g1, 0, none⟩) q c1) q _ rfl (ho7.alloc _) ⟨w7.heap.size, 0, none⟩ 1 1 [.slice (some ⟨b, 0, none⟩) n' c'] rfl rfl (cell_one_new _ _ _) (by simp [Value.oneCell']) (by unfold maxLen; omega) (by omega) (by have := S7.out.grown.size; simp; omega) ?_; intro v1 w1 hown1 hgrow1 hnil1; obtain ⟨g2, c2, rfl, hg2⟩ := own_some hown1 (fun e => nomatch (hnil1.1 e).1); have S9 := Lib.hid ((S7.out.alloc (.cells #[.slice (some ⟨b, 0, none⟩) n' c'] 22)).own hgrow1 hg7 hne7); have O9 : Hid (OwnS w0 w1 g2 (q + 1) c2) := Lib.hid (OwnS.more (zs := L3) hlv (fun j hj => let ⟨b', e1, e2, e3⟩ := h37 j hj; ⟨b', e1, e2, e3.alloc _⟩) (hob.alloc _) hn' (ho7.alloc _) hg2 hgrow1 hown1); clear hnil1 hgrow1 hown1)
      go_roundw
      case rel => exact ⟨k, q + 1, g2, c2, by omega, by go_num, rfl, by omega, O9, Lib.hid (S9.out.mono (by push_cast; omega))⟩
      case measure => simp [intOf]
    · obtain rfl : k = 0 := by omega
      have SR := Lib.hid (S6.out.mono (d' := 180) (by omega))
      have OR := O6
      clear S6 O6 hlt
      go_wp2_with fail
      obtain ⟨r5, r50, r51, H5⟩ := SR.out.at H.out
      refine (one_at H5 (by omega) 24 (by omega)).mono ?_
      rintro e w8 ⟨b8, rfl, hs⟩
      have S8 := Lib.hid (SR.out.then hs r50 r51)
      have O8 := Lib.hid (OR.out.kept hs.grown hgw)
      clear hs SR OR H5 r50 r51
      rcases b8 with _ | _
      · have S7 := S8
        have O7 := O8
        clear S8 O8
        go_wp2_with fail
        obtain ⟨r5, r50, r51, H5⟩ := S7.out.at H.out
        go_wp2_with fail
        refine (most6_at H5 (by omega)).mono ?_
        rintro e w9 ⟨z, rfl, hs2⟩
        have HO2 := Lib.hid (O7.out.kept hs2.grown hgw)
        have HB := Lib.hid (hbs.out _ (S7.out.grown.trans hs2.grown))
        clear hs2 O7 S7 H5 r50 r51
        go_wp2_with fail
        refine bodyPost_ret (results_tmp2 rfl _ _ _) rfl ?_
        obtain ⟨hqc, vs, hvs, hn4⟩ := HO2.out.isS
        exact ⟨g1, c1, q, vs, z, rfl, by omega, hn4, hvs, by rw [HG.out]; exact HB.out⟩
      · have S8' := Lib.hid (S8.out.mono (d' := 200 + 2 * (q : Int)) (by omega))
        clear S8
        go_wp2_with fail
        go_loopw [5] (fun v wr => ∃ (q g1 c1 : Nat), v = .slice (some ⟨g1, 0, none⟩) q c1 ∧ q ≤ 21 ∧ Hid (OwnS w0 wr g1 q c1) ∧ Hid (CurStep w0 wr g A n c 0 (200 + 2 * (q : Int)))) (fun v _ => 21 - lenV v)
        case atStart => exact ⟨q, g1, c1, rfl, by omega, O8, S8'⟩
        case round =>
          clear O8 S8' hgg
          obtain ⟨q, g1, c1, rfl, hq61, O8, S8⟩ := hrel
          have hgg := O8.out.g
          obtain ⟨r5, r50, r51, H5⟩ := S8.out.at H.out
          go_wp2_with fail
          refine (pick_at H5 (by omega) 2 (by omega)).mono ?_
          rintro e w6 ⟨b7, b70, b71, rfl, hs⟩
          have S7 := Lib.hid (S8.out.then hs r50 r51)
          have O7 := Lib.hid (O8.out.kept hs.grown hgw)
          clear hs S8 O8 H5 r50 r51
          by_cases hlt : (q : Int) < 20 + b7
          · have hsz6 := S7.out.grown.size
            obtain ⟨vs, hg7, ho7, h37⟩ := O7.out
            have hlv : vs.length = q := by have := ho7.1; simpa [flatSl] using this
            have hne7 : g1 ≠ g := by omega
            have hob := own_base6 (ownI_full #[.int .i64 100, .int .i64 101, .int .i64 110] 3 rfl (Nat.le_refl w6.heap.size) (by unfold maxLen; omega)) hsz6
            clear O7
            go_wp2_with (at_builtin; refine wpList_append_own _ rfl (.tmp 30) (.tmp 32) 33 rfl w0.heap.size 22 j0 (.slice none 0 0) 1 24 Try.underlying33 hj hy0 hy1 hy2 rfl (by decide) (.slice (some ⟨g1, 0, none⟩) q c1) q _ rfl ((ho7.alloc _).alloc _) ⟨w6.heap.size + 1, 0, none⟩ 1 1 [.slice (some ⟨w6.heap.size, 0, none⟩) 3 3] rfl rfl (cell_two_new6 _ _ _ _) (by simp [Value.oneCell']) (by unfold maxLen; omega) (by omega) (by have := S7.out.grown.size; simp; omega) ?_; intro v1 w1 hown1 hgrow1 hnil1; obtain ⟨g2, c2, rfl, hg2⟩ := own_some hown1 (fun e => nomatch (hnil1.1 e).1); have S9 := Lib.hid (((S7.out.alloc (.cells #[.int .i64 100, .int .i64 101, .int .i64 110] 3)).alloc (.cells #[.slice (some ⟨w6.heap.size, 0, none⟩) 3 3] 22)).own hgrow1 hg7 hne7); have O9 : Hid (OwnS w0 w1 g2 (q + 1) c2) := Lib.hid (OwnS.more (zs := [100, 101, 110]) hlv (fun j hj => let ⟨b', e1, e2, e3⟩ := h37 j hj; ⟨b', e1, e2, (e3.alloc _).alloc _⟩) (hob.alloc _) (by omega) ((ho7.alloc _).alloc _) hg2 hgrow1 hown1); clear hnil1 hgrow1 hown1)
            go_roundw
            case rel => exact ⟨q + 1, g2, c2, rfl, by omega, O9, Lib.hid (S9.out.mono (by push_cast; omega))⟩
            case measure => simp [lenV]; omega
          · go_wp2_with fail
            obtain ⟨r5, r50, r51, H5⟩ := S7.out.at H.out
            go_wp2_with fail
            refine (most6_at H5 (by omega)).mono ?_
            rintro e w9 ⟨z, rfl, hs2⟩
            have HO2 := Lib.hid (O7.out.kept hs2.grown hgw)
            have HB := Lib.hid (hbs.out _ (S7.out.grown.trans hs2.grown))
            clear hs2 O7 S7 H5 r50 r51
            go_wp2_with fail
            refine bodyPost_ret (results_tmp2 rfl _ _ _) rfl ?_
            obtain ⟨hqc, vs, hvs, hn4⟩ := HO2.out.isS
            exact ⟨g1, c1, q, vs, z, rfl, by omega, hn4, hvs, by rw [HG.out]; exact HB.out⟩
end Go.Proofs.Yteeljlpbijmhlaa
