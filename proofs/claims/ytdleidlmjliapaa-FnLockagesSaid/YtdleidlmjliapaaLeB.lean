/- Chapter 8: the order of lockages that the laws draw. -/
import Derived.Test.YtdleidlmjliapaaLeA
import Derived.Test.YtdleidlmjliapaaLkD
namespace Go.Proofs.Ytdleidlmjliapaa
open Go.RowKit Go.PlainAid Go.Sort
set_option linter.unusedVariables false
set_option linter.unusedSimpArgs false

theorem least_ex (vs : List TArrival) (P : Nat → Prop) : ∀ m, (∃ k, k < m ∧ P k) → ∃ k, k < m ∧ P k ∧ ∀ j, j < m → P j → ¬ bef (vs.getD j noArrival) (vs.getD k noArrival)
  | 0, ⟨k, hk, _⟩ => absurd hk (by omega)
  | m + 1, ⟨k, hk, hp⟩ => by
    by_cases h : ∃ k, k < m ∧ P k
    · obtain ⟨r, hr, hpr, hl⟩ := least_ex vs P m h
      by_cases hm : P m ∧ bef (vs.getD m noArrival) (vs.getD r noArrival)
      · refine ⟨m, by omega, hm.1, fun j hj hpj hb => ?_⟩
        by_cases e : j = m
        · subst e; exact bef_irr _ hb
        · exact hl j (by omega) hpj (bef_trans hb hm.2)
      · refine ⟨r, by omega, hpr, fun j hj hpj hb => ?_⟩
        by_cases e : j = m
        · subst e; exact hm ⟨hpj, hb⟩
        · exact hl j (by omega) hpj hb
    · obtain rfl : k = m := by
        by_cases e : k = m
        · exact e
        · exact absurd ⟨k, by omega, hp⟩ h
      refine ⟨k, by omega, hp, fun j hj hpj hb => ?_⟩
      by_cases e : j = k
      · subst e; exact bef_irr _ hb
      · exact h ⟨j, by omega, hpj⟩
theorem next_ex (vs : List TArrival) (L : List Int) (h : L.length < vs.length) : ∃ t, t < vs.length ∧ nextA vs L (t : Int) := by
  have h1 : ∃ k, k < vs.length ∧ (k : Int) ∉ L := by
    by_cases hc : ∃ k, k < vs.length ∧ (k : Int) ∉ L
    · exact hc
    · exfalso
      have hall : ∀ k, k < vs.length → (k : Int) ∈ L := fun k hk => by
        by_cases hm : (k : Int) ∈ L
        · exact hm
        · exact absurd ⟨k, hk, hm⟩ hc
      have := nodup_le ((List.range vs.length).map (fun j : Nat => (j : Int))) L (by
        rw [List.Nodup, List.pairwise_map]
        exact (List.nodup_range (n := vs.length)).imp (fun hne e => hne (by omega))) (fun x hx => by
        rw [List.mem_map] at hx
        obtain ⟨j, hj, rfl⟩ := hx
        exact hall j (List.mem_range.1 hj))
      simp at this
      omega
  obtain ⟨t, ht, hp, hl⟩ := least_ex vs (fun k => (k : Int) ∉ L) vs.length h1
  refine ⟨t, ht, hp, fun k hk hx hb => ?_⟩
  rw [atA_cast] at hb
  by_cases hm : (k : Int) ∈ L
  · exact hm
  · exact absurd hb (hl k hk hm)
def ds (q t k : Nat) : Nat := if k ≤ t then t - k else t + q - k
theorem ds_next {q t k : Nat} (ht : t < q) (hk : k < q) (hne : k ≠ t) : ∃ r, r < q ∧ ((k : Int) + 1) % (q : Int) = (r : Int) ∧ ds q t r < ds q t k := by
  by_cases h : k + 1 = q
  · refine ⟨0, by omega, ?_, ?_⟩
    · rw [show ((k : Int) + 1) = (q : Int) by omega, Int.emod_self]; rfl
    · unfold ds; repeat' split
      all_goals omega
  · refine ⟨k + 1, by omega, ?_, ?_⟩
    · rw [Int.emod_eq_of_lt (by omega) (by omega)]; omega
    · unfold ds; repeat' split
      all_goals omega
theorem OwnC.on {w W W' : World} {g1 q c1 : Nat} (h : OwnC w W g1 q c1) (hb : Below W.heap.size W W') : OwnC w W' g1 q c1 := by
  obtain ⟨L, h1, h2⟩ := h
  exact ⟨L, h1, own_below h2 hb⟩
/-- What a draw of an order hands back. -/
def GivesC (w : World) (g : Nat) (A : Option Addr) (n c : Nat) (p : Int) (e : Ending) (w' : World) : Prop :=
  ∃ g1 m c1, e = .returned (.slice (some ⟨g1, 0, none⟩) m c1) ∧ m ≤ 9 ∧ OwnC w w' g1 m c1 ∧ CurStep w w' g A n c p 100
set_option maxRecDepth 100000 in
set_option maxHeartbeats 4000000 in
theorem lockageOrder_at {g : Nat} {A : Option Addr} {n c : Nat} {p : Int} {zs : List Int} {B : Nat} {w : World} (h : CurAt w g A n c p zs B) (hp : p ≤ 800000000)
    {base gA q cA : Nat} {vs : List TArrival} (hv : w.ownsRow base 58 4 (.slice (some ⟨gA, 0, none⟩) q cA) q (flatArrival vs)) (hgA : gA ≠ g) (hq8 : q ≤ 8) :
    Calls Try.prog 82 #[.pointer (some ⟨g, 0, none⟩), .slice (some ⟨gA, 0, none⟩) q cA] w (GivesC w g A n c p) := by
  obtain ⟨i0, hi, hz0, hz1, hz2⟩ := info_parts Try.infoInt'
  have H := Lib.hid h
  have hgl := h.lt
  have hp0 := h.p0
  have HA := Lib.hid (fun (W : World) (d : Int) (hS : CurStep w W g A n c p d) => own_Arrivals (hv.kept hS.grown (.inr (by simp [Value.ownBlock]; exact hgA))))
  have hvl : vs.length = q := (HA.out w 0 (CurStep.refl h.cur)).len
  have HT := Lib.hid (fun (L : List Int) (hL : L.length < q) => by have := next_ex vs L (by rw [hvl]; exact hL); rwa [hvl] at this)
  have S1 := Lib.hid ((CurStep.refl h.cur).alloc (.cells #[] 3))
  have O1 : Hid (OwnC w (w.alloc (.cells #[] 3)) w.heap.size 0 0) := Lib.hid ⟨[], Nat.le_refl _, World.ownsRow_made w #[] 0 (Nat.le_refl _) (by unfold maxLen; omega) rfl⟩
  have hbg : w.heap.size ≠ g := by omega
  clear h hv hvl
  go_enter Try.func82, Try.ntmps82
  go_wp2_with fail
  obtain ⟨W1, hW1⟩ : ∃ x, w.alloc (.cells #[] 3) = x := ⟨_, rfl⟩
  rw [hW1] at S1 O1 ⊢
  obtain ⟨xb, hxb⟩ : ∃ x, w.heap.size = x := ⟨_, rfl⟩
  rw [hxb] at O1 hbg
  try simp only [hxb]
  have S1' := Lib.hid (S1.out.mono (d' := 10 + 2 * ((0 : Nat) : Int)) (by omega))
  clear S1 hW1
  go_loopw [5] (fun v wr => ∃ (m g1 c1 : Nat), v = .slice (some ⟨g1, 0, none⟩) m c1 ∧ m ≤ q ∧ Hid (OwnC w wr g1 m c1) ∧ Hid (CurStep w wr g A n c p (10 + 2 * (m : Int)))) (fun v _ => q - lenV v)
  case atStart => exact ⟨0, xb, 0, rfl, by omega, O1, S1'⟩
  case round =>
    clear O1 S1'
    obtain ⟨m, g1, c1, rfl, hmq, O1, S1⟩ := hrel
    have hgg := O1.out.g
    by_cases hlt : (m : Int) < (q : Int)
    · obtain ⟨r5, r50, r51, H5⟩ := S1.out.at H.out
      go_wp2_with fail
      refine (pick_at H5 (by omega) (q : Int) (by omega)).mono ?_
      rintro e w6 ⟨b, b0, b1, rfl, hs⟩
      obtain ⟨k6, rfl⟩ : ∃ k : Nat, b = (k : Int) := ⟨b.toNat, by omega⟩
      have hk6 : k6 < q := by omega
      have S6 := Lib.hid (S1.out.then hs r50 r51)
      have O6 := Lib.hid (O1.out.kept hs.grown (by omega))
      clear hs S1 O1 H5 r50 r51 b0 b1
      obtain ⟨L, hgL, hoL⟩ := O6.out
      have hLl : L.length = m := by have := hoL.1; rw [List.length_map] at this; omega
      obtain ⟨t, htq, htn⟩ := HT.out L (by omega)
      have HL := Lib.hid hoL
      have HTN := Lib.hid htn
      clear hoL htn hLl
      go_wp2_with fail
      go_loopw [6] (fun v wi => ∃ k : Nat, k < q ∧ v = .int .i64 k ∧ Below w6.heap.size w6 wi) (fun v _ => ds q t (intOf v).toNat)
      case atStart => exact ⟨k6, hk6, rfl, Below.refl _ _⟩
      case round =>
        clear hk6
        obtain ⟨k, hk, rfl, hb⟩ := hrel
        have S7 := Lib.hid (S6.out.on hb)
        have O7 := Lib.hid (OwnC.on O6.out hb)
        have C := Lib.hid (l8Next_any cA c1 (HA.out wr _ S7.out) (by omega) (own_IsIs (own_below HL.out hb)) (by omega) (k : Int) (show inA q (k : Int) by unfold inA; omega))
        have HR := Lib.hid (nxA_iff vs L (k : Int))
        generalize nxA vs L (k : Int) = R at C HR
        have HB := Lib.hid hb
        clear hb
        go_wp2_with fail
        refine C.out.mono ?_
        rintro e w7 ⟨rfl, hb7⟩
        have S8 := Lib.hid (S7.out.on hb7)
        have O8 := Lib.hid (OwnC.on O7.out hb7)
        have HB7 := Lib.hid (HB.out.trans (hb7.mono HB.out.size))
        clear C S7 O7 hb7
        cases R with
        | true =>
          obtain ⟨L7, hg7, ho7⟩ := O8.out
          have hne7 : g1 ≠ g := by omega
          have hsz7 := S8.out.grown.size
          have HS7 := Lib.hid (S8.out.alloc (.cells #[.int .i64 ((k : Int))] 3))
          clear O8 S8
          go_wp2_with (at_builtin; go_loud (refine wpList_append_own _ rfl (.tmp 29) (.tmp 31) 46 rfl w.heap.size 3 i0 (.int .i64 0) 1 8 Try.underlying46 hi hz0 hz1 hz2 rfl (by decide) (.slice (some ⟨g1, 0, none⟩) m c1) m _ rfl (ho7.alloc (.cells #[.int .i64 ((k : Int))] 3)) ⟨w7.heap.size, 0, none⟩ 1 1 [.int .i64 ((k : Int))] rfl rfl (cell_one_new _ _ _) (by simp [Value.oneCell']) (by unfold maxLen; omega) (by omega) (by simp; omega) ?_; intro v1 w1 hown1 hgrow1 hnil1; obtain ⟨g2, c2, rfl, hg2⟩ := own_some hown1 (fun e => nomatch (hnil1.1 e).1); have S9 := Lib.hid (HS7.out.own hgrow1 hg7 hne7); have O9 : Hid (OwnC w w1 g2 (m + 1) c2) := Lib.hid ⟨L7 ++ [(k : Int)], hg2, (by rw [List.map_append]; exact hown1)⟩; clear hnil1 hgrow1 hown1 HS7 ho7))
          go_roundw
          case rel => exact ⟨m + 1, g2, c2, rfl, by omega, O9, Lib.hid (S9.out.mono (by push_cast; omega))⟩
          case measure => simp [lenV]; omega
        | false =>
          have hkt : k ≠ t := by
            rintro rfl
            have := HR.out.2 HTN.out
            cases this
          obtain ⟨r, hr, er, hd⟩ := ds_next htq hk hkt
          have hq0 : ((q : Int) == 0) = false := by simp; omega
          have hq1 : (0 : Int) < (q : Int) := by omega
          have hk0 : (0 : Int) ≤ (k : Int) + 1 := by omega
          have HER := Lib.hid er
          clear HR er O8 S8
          go_wp2_with fail
          go_roundw
          case rel => exact ⟨r, hr, by rw [← HER.out], HB7.out⟩
          case measure => rw [HER.out]; simpa [intOf] using hd
    · obtain rfl : m = q := by omega
      have S2 := Lib.hid (S1.out.mono (d' := 30) (by omega))
      have O2 := O1
      clear S1 O1 hlt HT HA
      by_cases h1 : (1 : Int) < (m : Int)
      · obtain ⟨r5, r50, r51, H5⟩ := S2.out.at H.out
        go_wp2_with fail
        refine (one_at H5 (by omega) 8 (by omega)).mono ?_
        rintro e w6 ⟨x6, rfl, hs⟩
        have S6 := Lib.hid (S2.out.then hs r50 r51)
        have O6 := Lib.hid (OwnC.kept O2.out hs.grown (by omega))
        clear hs S2 O2 H5 r50 r51
        cases x6 with
        | true =>
          obtain ⟨r5, r50, r51, H5⟩ := S6.out.at H.out
          go_wp2_with fail
          refine (pick_at H5 (by omega) ((m : Int) - 1) (by omega)).mono ?_
          rintro e w7 ⟨b, b0, b1, rfl, hs⟩
          obtain ⟨j, rfl⟩ : ∃ k : Nat, b = (k : Int) := ⟨b.toNat, by omega⟩
          have hj : (j : Int) + 1 < (m : Int) := by omega
          have hj0 : (0 : Int) ≤ (j : Int) := by omega
          have hj1 : (j : Int) < (m : Int) := by omega
          have hj2 : (0 : Int) ≤ (j : Int) + 1 := by omega
          have S7 := Lib.hid (S6.out.then hs r50 r51)
          have O7 := Lib.hid (OwnC.kept O6.out hs.grown (by omega))
          clear hs S6 O6 H5 r50 r51 b0 b1
          obtain ⟨L, hgL, hoL⟩ := O7.out
          have hLl : L.length = m := by have := hoL.1; rw [List.length_map] at this; omega
          have e0 : w7.cell? ⟨g1, j, none⟩ = some (.int .i64 (L.getD j 0)) := (hoL.cellAt j (by omega)).trans (by rw [List.getElem?_map, List.getElem?_eq_getElem (by omega), List.getD_eq_getElem?_getD, List.getElem?_eq_getElem (by omega)]; rfl)
          have e1 : w7.cell? ⟨g1, j + 1, none⟩ = some (.int .i64 (L.getD (j + 1) 0)) := (hoL.cellAt (j + 1) (by omega)).trans (by rw [List.getElem?_map, List.getElem?_eq_getElem (by omega), List.getD_eq_getElem?_getD, List.getElem?_eq_getElem (by omega)]; rfl)
          have f0 := hoL.frozenAt j
          have f1 := hoL.frozenAt (j + 1)
          have HO := Lib.hid hoL
          generalize L.getD j 0 = y0 at e0
          generalize L.getD (j + 1) 0 = y1 at e1
          clear hoL hLl O7
          go_wp2_with fail
          have s0 := HO.out.stored j (.int .i64 y1)
          have s1 := s0.1.stored (j + 1) (.int .i64 y0)
          have hne1 : g1 ≠ g := by omega
          have S9 := Lib.hid ((S7.out.own s0.2 hgL hne1).own s1.2 hgL hne1)
          have O9 : Hid (OwnC w _ g1 m c1) := Lib.hid ⟨(L.set j y1).set (j + 1) y0, hgL, by rw [List.map_set, List.map_set]; exact s1.1⟩
          clear s0 s1 HO S7 e0 e1 f0 f1 hj hj0 hj1 hj2
          obtain ⟨W9, hW9⟩ : ∃ x, (w7.setCell ⟨g1, j, none⟩ (.int .i64 y1)).setCell ⟨g1, j + 1, none⟩ (.int .i64 y0) = x := ⟨_, rfl⟩
          rw [hW9] at S9 O9 ⊢
          clear hW9
          obtain ⟨r5, r50, r51, H5⟩ := S9.out.at H.out
          go_wp2_with fail
          refine (one_at H5 (by omega) 24 (by omega)).mono ?_
          rintro e w8 ⟨x8, rfl, hs⟩
          have S8 := Lib.hid (S9.out.then hs r50 r51)
          have O8 := Lib.hid (OwnC.kept O9.out hs.grown (by omega))
          clear hs S9 O9 H5 r50 r51
          cases x8 with
          | true =>
            obtain ⟨L7, hg7, ho7⟩ := O8.out
            have hne7 : g1 ≠ g := by omega
            have hsz7 := S8.out.grown.size
            have HS7 := Lib.hid (S8.out.alloc (.cells #[.int .i64 (0)] 3))
            clear O8 S8
            go_wp2_with (at_builtin; go_loud (refine wpList_append_own _ rfl (.tmp 64) (.tmp 65) 46 rfl w.heap.size 3 i0 (.int .i64 0) 1 8 Try.underlying46 hi hz0 hz1 hz2 rfl (by decide) (.slice (some ⟨g1, 0, none⟩) m c1) m _ rfl (ho7.alloc (.cells #[.int .i64 (0)] 3)) ⟨w8.heap.size, 0, none⟩ 1 1 [.int .i64 (0)] rfl rfl (cell_one_new _ _ _) (by simp [Value.oneCell']) (by unfold maxLen; omega) (by omega) (by simp; omega) ?_; intro v1 w1 hown1 hgrow1 hnil1; obtain ⟨g2, c2, rfl, hg2⟩ := own_some hown1 (fun e => nomatch (hnil1.1 e).1); have S9 := Lib.hid (HS7.out.own hgrow1 hg7 hne7); have O9 : Hid (OwnC w w1 g2 (m + 1) c2) := Lib.hid ⟨L7 ++ [0], hg2, (by rw [List.map_append]; exact hown1)⟩; clear hnil1 hgrow1 hown1 HS7 ho7))
            go_wp2_with fail
            refine bodyPost_ret (results_tmp rfl _ _ _) rfl ?_
            exact ⟨g2, m + 1, _, rfl, by omega, O9.out, S9.out.mono (by omega)⟩
          | false =>
            go_wp2_with fail
            refine bodyPost_ret (results_tmp rfl _ _ _) rfl ?_
            exact ⟨g1, m, _, rfl, by omega, O8.out, S8.out.mono (by omega)⟩
        | false =>
          obtain ⟨r5, r50, r51, H5⟩ := S6.out.at H.out
          go_wp2_with fail
          refine (one_at H5 (by omega) 24 (by omega)).mono ?_
          rintro e w8 ⟨x8, rfl, hs⟩
          have S8 := Lib.hid (S6.out.then hs r50 r51)
          have O8 := Lib.hid (OwnC.kept O6.out hs.grown (by omega))
          clear hs S6 O6 H5 r50 r51
          cases x8 with
          | true =>
            obtain ⟨L7, hg7, ho7⟩ := O8.out
            have hne7 : g1 ≠ g := by omega
            have hsz7 := S8.out.grown.size
            have HS7 := Lib.hid (S8.out.alloc (.cells #[.int .i64 (0)] 3))
            clear O8 S8
            go_wp2_with (at_builtin; go_loud (refine wpList_append_own _ rfl (.tmp 64) (.tmp 65) 46 rfl w.heap.size 3 i0 (.int .i64 0) 1 8 Try.underlying46 hi hz0 hz1 hz2 rfl (by decide) (.slice (some ⟨g1, 0, none⟩) m c1) m _ rfl (ho7.alloc (.cells #[.int .i64 (0)] 3)) ⟨w8.heap.size, 0, none⟩ 1 1 [.int .i64 (0)] rfl rfl (cell_one_new _ _ _) (by simp [Value.oneCell']) (by unfold maxLen; omega) (by omega) (by simp; omega) ?_; intro v1 w1 hown1 hgrow1 hnil1; obtain ⟨g2, c2, rfl, hg2⟩ := own_some hown1 (fun e => nomatch (hnil1.1 e).1); have S9 := Lib.hid (HS7.out.own hgrow1 hg7 hne7); have O9 : Hid (OwnC w w1 g2 (m + 1) c2) := Lib.hid ⟨L7 ++ [0], hg2, (by rw [List.map_append]; exact hown1)⟩; clear hnil1 hgrow1 hown1 HS7 ho7))
            go_wp2_with fail
            refine bodyPost_ret (results_tmp rfl _ _ _) rfl ?_
            exact ⟨g2, m + 1, _, rfl, by omega, O9.out, S9.out.mono (by omega)⟩
          | false =>
            go_wp2_with fail
            refine bodyPost_ret (results_tmp rfl _ _ _) rfl ?_
            exact ⟨g1, m, _, rfl, by omega, O8.out, S8.out.mono (by omega)⟩
      · obtain ⟨r5, r50, r51, H5⟩ := S2.out.at H.out
        go_wp2_with fail
        refine (one_at H5 (by omega) 24 (by omega)).mono ?_
        rintro e w8 ⟨x8, rfl, hs⟩
        have S8 := Lib.hid (S2.out.then hs r50 r51)
        have O8 := Lib.hid (OwnC.kept O2.out hs.grown (by omega))
        clear hs S2 O2 H5 r50 r51
        cases x8 with
        | true =>
          obtain ⟨L7, hg7, ho7⟩ := O8.out
          have hne7 : g1 ≠ g := by omega
          have hsz7 := S8.out.grown.size
          have HS7 := Lib.hid (S8.out.alloc (.cells #[.int .i64 (0)] 3))
          clear O8 S8
          go_wp2_with (at_builtin; go_loud (refine wpList_append_own _ rfl (.tmp 64) (.tmp 65) 46 rfl w.heap.size 3 i0 (.int .i64 0) 1 8 Try.underlying46 hi hz0 hz1 hz2 rfl (by decide) (.slice (some ⟨g1, 0, none⟩) m c1) m _ rfl (ho7.alloc (.cells #[.int .i64 (0)] 3)) ⟨w8.heap.size, 0, none⟩ 1 1 [.int .i64 (0)] rfl rfl (cell_one_new _ _ _) (by simp [Value.oneCell']) (by unfold maxLen; omega) (by omega) (by simp; omega) ?_; intro v1 w1 hown1 hgrow1 hnil1; obtain ⟨g2, c2, rfl, hg2⟩ := own_some hown1 (fun e => nomatch (hnil1.1 e).1); have S9 := Lib.hid (HS7.out.own hgrow1 hg7 hne7); have O9 : Hid (OwnC w w1 g2 (m + 1) c2) := Lib.hid ⟨L7 ++ [0], hg2, (by rw [List.map_append]; exact hown1)⟩; clear hnil1 hgrow1 hown1 HS7 ho7))
          go_wp2_with fail
          refine bodyPost_ret (results_tmp rfl _ _ _) rfl ?_
          exact ⟨g2, m + 1, _, rfl, by omega, O9.out, S9.out.mono (by omega)⟩
        | false =>
          go_wp2_with fail
          refine bodyPost_ret (results_tmp rfl _ _ _) rfl ?_
          exact ⟨g1, m, _, rfl, by omega, O8.out, S8.out.mono (by omega)⟩
end Go.Proofs.Ytdleidlmjliapaa
