/- Chapter 6: CommonBound of the program. -/
import Derived.Test.YteeljlpbijmhlaaSeP
namespace Go.Proofs.Yteeljlpbijmhlaa
open Go.RowKit Go.PlainAid Go.Sort
set_option linter.unusedVariables false
set_option linter.unusedSimpArgs false

theorem addB (b o k : Nat) : (⟨b, o, none⟩ : Addr).add k = ⟨b, o + k, none⟩ := by
  unfold Addr.add
  split
  · next h => subst h; rfl
  · rfl
theorem flatBound_drop : ∀ (hs : List TBound) (b : Nat), flatBound (hs.drop b) = (flatBound hs).drop (b * 2)
  | _, 0 => by simp
  | [], b + 1 => by simp [flatBound]
  | h :: t, b + 1 => by
    rw [List.drop_succ_cons, flatBound_drop t b, show (b + 1) * 2 = b * 2 + 1 + 1 by omega]
    simp [flatBound]
/-- All but the first. -/
theorem bounds_tail {w : World} {B : Nat} {a : Addr} {n : Nat} {vs : List TBound} (h : IsBounds w B (some a) (n + 1) vs) : IsBounds w B (some (a.add 2)) n (vs.drop 1) := by
  refine ⟨by rw [List.length_drop, h.len]; omega, h.low, ?_⟩
  intro j u hu
  rw [flatBound_drop, List.getElem?_drop] at hu
  obtain ⟨a', e, hb', hc⟩ := h.has _ _ hu
  injection e with e
  subst e
  exact ⟨_, rfl, by rw [addBlock]; exact hb', by rw [Go.Deep.add_add]; exact hc⟩

set_option maxRecDepth 100000 in
set_option maxHeartbeats 4000000 in
theorem comI_any {w : World} {B n : Nat} {A : Option Addr} {vs : List TBound} (c : Nat) (hc : n ≤ c) (h : IsBounds w B A n vs) (hm : n ≤ 1048576) (R0 R1 : Int) (x : Bool) (hA : ComA vs R0 R1 x) :
    Calls Try.prog 40 #[.slice A n c] w fun e w' => e = .returned (.tuple #[.agg #[.int .i64 R0, .int .i64 R1], .bool x]) ∧ Below w.heap.size w w' := by
  have hb0 := below1q w (.cells #[.int .i64 0, .int .i64 0] 46)
  have C1 := Lib.hid (areB_any c (h.below hb0 h.low) hm)
  have P0 := Lib.hid (BoxB.new w 0 0)
  have PB := Lib.hid hb0
  by_cases hs : bndS vs
  · rw [decide_eq_true hs] at C1
    have h1n : 1 ≤ n := by rw [← h.len]; exact hs.2.1
    have hn8 : n ≤ 8 := by rw [← h.len]; exact hs.2.2
    obtain ⟨r, rfl⟩ : ∃ r, n = r + 1 := ⟨n - 1, by omega⟩
    obtain ⟨a, ha, -, -⟩ := h.at (k := 0) (by omega)
    subst ha
    have HI := Lib.hid h
    have HT := Lib.hid (bounds_tail h)
    have HA : Hid ((loK vs r ≤ hiK vs r → R0 = loK vs r ∧ R1 = hiK vs r ∧ x = true) ∧ (¬ loK vs r ≤ hiK vs r → R0 = 0 ∧ R1 = 0 ∧ x = false)) := Lib.hid (by
      obtain ⟨t1, t2⟩ := trust_common hs
      have h1 := hA.1
      have h2 := hA.2
      rw [h.len, Nat.add_sub_cancel] at t1 t2
      rw [h.len] at h1 h2
      exact ⟨fun g => by rw [← (t2 g).1, ← (t2 g).2]; exact h1 ⟨hs, t1.2 g⟩, fun g => h2 (fun q => g (t1.1 q.2))⟩)
    clear hA h hm hs hb0
    go_enter Try.func40, Try.ntmps40
    go_wp2_with fail
    refine C1.out.mono ?_
    rintro e w1 ⟨rfl, hb1⟩
    have HB1 := Lib.hid (PB.out.trans (hb1.mono (by simp)))
    have Q0 := Lib.hid (P0.out.all hb1)
    clear hb1 C1 P0 PB
    obtain ⟨a', ha', -, HV⟩ := (HI.out.below HB1.out HI.out.low).at (k := 0) (by omega)
    injection ha' with ha'
    subst ha'
    have HL0 : Hid (loK vs 0 = (vs.getD 0 noBound).x0 ∧ hiK vs 0 = (vs.getD 0 noBound).x1) := Lib.hid ⟨rfl, rfl⟩
    generalize vs.getD 0 noBound = V at HV HL0
    obtain ⟨x0, y0⟩ := V
    obtain ⟨e0, e1⟩ := HV
    dsimp only at e0 e1 HL0
    simp only [Nat.zero_mul] at e0 e1
    rw [show a.add 0 = a from rfl] at e0 e1
    have P4 := Lib.hid (BoxB.new w1 x0 y0)
    have hg0 := Q0.out.lt
    have P0 := Lib.hid (Q0.out.all (below1q w1 (.cells #[.int .i64 x0, .int .i64 y0] 46)))
    have PB := Lib.hid (HB1.out.trans ((below1q w1 (.cells #[.int .i64 x0, .int .i64 y0] 46)).mono HB1.out.size))
    obtain ⟨g7, hg7⟩ : ∃ g, w1.heap.size = g := ⟨_, rfl⟩
    rw [hg7] at P4 hg0
    have HG7 := Lib.hid hg7
    have hc1 : 1 ≤ c := by omega
    clear Q0 HB1
    rcases Nat.eq_or_lt_of_le hc1 with hce | hce
    · subst hce
      obtain rfl : r = 0 := by omega
      clear hg7
      go_wp2_with fail
      try simp only [HG7.out]
      go_loopw [17] (fun i wr => ∃ k : Nat, k = 0 ∧ i = .int .i64 k ∧ Hid (BoxB wr g7 (loK vs k) (hiK vs k)) ∧ Hid (BoxB wr w.heap.size 0 0) ∧ Below w.heap.size w wr) (fun i _ => 0)
      case atStart => exact ⟨0, rfl, rfl, Lib.hid (by rw [HL0.out.1, HL0.out.2]; exact P4.out), P0, PB.out⟩
      case round =>
        clear P4 P0 PB
        obtain ⟨k, rfl, rfl, hbx, hb0, hb⟩ := hrel
        have HB := Lib.hid hb
        obtain ⟨k, hk0⟩ : ∃ k : Nat, k = 0 := ⟨0, rfl⟩
        rw [← hk0] at hbx HA
        clear hk0
        by_cases hh : loK vs k ≤ hiK vs k
        · obtain ⟨rfl, rfl, rfl⟩ := HA.out.1 (by first | exact hh | omega)
          obtain ⟨lv, hlv⟩ : ∃ x, loK vs k = x := ⟨_, rfl⟩
          obtain ⟨hv, hhv⟩ : ∃ x, hiK vs k = x := ⟨_, rfl⟩
          rw [hlv, hhv] at hbx hh
          have HL := Lib.hid (And.intro hlv hhv)
          have hgt : ¬ hv < lv := by omega
          clear hlv hhv HA hb hh
          have c0 := hb0.out.c0
          have c1 := hb0.out.c1
          have f0 := hb0.out.fz 0
          have f1 := hb0.out.fz 1
          have d0 := hbx.out.c0
          have d1 := hbx.out.c1
          go_wp2_with fail
          refine bodyPost_ret (results_rowB rfl _ _ w.heap.size [.int .i64 lv, .int .i64 hv] _ rfl (hb0.out.sets lv hv).rangeAt Try.underlying46 rfl (by kernel_rfl)) rfl ?_
          exact ⟨by rw [HL.out.1, HL.out.2]; rfl, sets2_below HB.out (Nat.le_refl _) _ _⟩
        · obtain ⟨rfl, rfl, rfl⟩ := HA.out.2 (by first | exact hh | omega)
          obtain ⟨lv, hlv⟩ : ∃ x, loK vs k = x := ⟨_, rfl⟩
          obtain ⟨hv, hhv⟩ : ∃ x, hiK vs k = x := ⟨_, rfl⟩
          rw [hlv, hhv] at hbx hh
          have hgt : hv < lv := by omega
          clear hlv hhv HA hb hh
          have d0 := hbx.out.c0
          have d1 := hbx.out.c1
          have c0 := hb0.out.c0
          have c1 := hb0.out.c1
          have f0 := hb0.out.fz 0
          have f1 := hb0.out.fz 1
          go_wp2_with fail
          refine bodyPost_ret (results_rowB rfl _ _ w.heap.size [.int .i64 0, .int .i64 0] _ rfl (hb0.out.sets 0 0).rangeAt Try.underlying46 rfl (by kernel_rfl)) rfl ?_
          exact ⟨rfl, sets2_below HB.out (Nat.le_refl _) _ _⟩
    · have hce2 : c ≠ 1 := by omega
      rw [addFormS _ _ (by omega)] at HT
      clear hg7
      go_wp2_with fail
      try simp only [HG7.out]
      go_loopw [17] (fun i wr => ∃ k : Nat, k ≤ r ∧ i = .int .i64 k ∧ Hid (BoxB wr g7 (loK vs k) (hiK vs k)) ∧ Hid (BoxB wr w.heap.size 0 0) ∧ Below w.heap.size w wr) (fun i _ => r - (intOf i).toNat)
      case atStart => exact ⟨0, Nat.zero_le _, rfl, Lib.hid (by rw [HL0.out.1, HL0.out.2]; exact P4.out), P0, PB.out⟩
      case round =>
        clear P4 P0 PB
        obtain ⟨k, hkk, rfl, hbx, hb0, hb⟩ := hrel
        have HB := Lib.hid hb
        by_cases hlt : k < r
        · obtain ⟨a1, ha1, hab, HV⟩ := (HT.out.below hb HT.out.low).at hlt
          injection ha1 with ha1
          subst ha1
          rw [show (vs.drop 1).getD k noBound = vs.getD (k + 1) noBound by simp [List.getD_eq_getElem?_getD, Nat.add_comm]] at HV
          have HS : Hid (loK vs (k + 1) = max (loK vs k) (vs.getD (k + 1) noBound).x0 ∧ hiK vs (k + 1) = min (hiK vs k) (vs.getD (k + 1) noBound).x1) := Lib.hid ⟨rfl, rfl⟩
          generalize vs.getD (k + 1) noBound = V at HV HS
          obtain ⟨x2, y2⟩ := V
          obtain ⟨e2, e3⟩ := HV
          rw [addB] at e2 e3
          dsimp only at e2 e3 HS
          have hk0 : (0 : Int) ≤ (k : Int) := by omega
          have hk1 : (k : Int) < (r : Int) := by omega
          have hlt7 := hbx.out.lt
          have P7 := Lib.hid hbx.out
          have P0 := Lib.hid hb0.out
          obtain ⟨lv, hlv⟩ : ∃ x, loK vs k = x := ⟨_, rfl⟩
          obtain ⟨hv, hhv⟩ : ∃ x, hiK vs k = x := ⟨_, rfl⟩
          rw [hlv] at P7 HS
          rw [hhv] at P7 HS
          clear hlv hhv hb HA hbx hb0
          have d0 := P7.out.c0
          have d1 := P7.out.c1
          have dz0 := P7.out.fz 0
          have dz1 := P7.out.fz 1
          by_cases h1 : lv < x2
          · by_cases h2 : y2 < hv
            · skip
              have HN1 : Hid (BoxB ((sets2 wr g7 x2 y2).alloc (.cells #[.int .i64 x2, .int .i64 y2] 46)) g7 (loK vs (k + 1)) (hiK vs (k + 1))) := Lib.hid (by rw [HS.out.1, HS.out.2, show max lv x2 = x2 by omega, show min hv y2 = y2 by omega]; exact (P7.out.sets _ _).all (below1q _ _))
              have HN0 := Lib.hid (((P0.out.other (g' := g7) (i := 0) (u := .int .i64 x2) (by omega)).other (g' := g7) (i := 1) (u := .int .i64 y2) (by omega)).all (below1q (sets2 wr g7 x2 y2) (.cells #[.int .i64 x2, .int .i64 y2] 46)))
              have HNB := Lib.hid ((sets2_below HB.out (show w.heap.size ≤ g7 by omega) x2 y2).alloc (by have := HB.out.size; simp; omega) (.cells #[.int .i64 x2, .int .i64 y2] 46))
              clear HS P0 P7
              go_wp2_with fail
              go_roundw
              case rel => exact ⟨k + 1, by omega, by go_num, HN1, HN0, HNB.out⟩
              case measure => simp [intOf]; omega
            · skip
              have HN1 : Hid (BoxB ((sets2 wr g7 x2 hv).alloc (.cells #[.int .i64 x2, .int .i64 y2] 46)) g7 (loK vs (k + 1)) (hiK vs (k + 1))) := Lib.hid (by rw [HS.out.1, HS.out.2, show max lv x2 = x2 by omega, show min hv y2 = hv by omega]; exact (P7.out.sets _ _).all (below1q _ _))
              have HN0 := Lib.hid (((P0.out.other (g' := g7) (i := 0) (u := .int .i64 x2) (by omega)).other (g' := g7) (i := 1) (u := .int .i64 hv) (by omega)).all (below1q (sets2 wr g7 x2 hv) (.cells #[.int .i64 x2, .int .i64 y2] 46)))
              have HNB := Lib.hid ((sets2_below HB.out (show w.heap.size ≤ g7 by omega) x2 hv).alloc (by have := HB.out.size; simp; omega) (.cells #[.int .i64 x2, .int .i64 y2] 46))
              clear HS P0 P7
              go_wp2_with fail
              go_roundw
              case rel => exact ⟨k + 1, by omega, by go_num, HN1, HN0, HNB.out⟩
              case measure => simp [intOf]; omega
          · by_cases h2 : y2 < hv
            · skip
              have HN1 : Hid (BoxB ((sets2 wr g7 lv y2).alloc (.cells #[.int .i64 x2, .int .i64 y2] 46)) g7 (loK vs (k + 1)) (hiK vs (k + 1))) := Lib.hid (by rw [HS.out.1, HS.out.2, show max lv x2 = lv by omega, show min hv y2 = y2 by omega]; exact (P7.out.sets _ _).all (below1q _ _))
              have HN0 := Lib.hid (((P0.out.other (g' := g7) (i := 0) (u := .int .i64 lv) (by omega)).other (g' := g7) (i := 1) (u := .int .i64 y2) (by omega)).all (below1q (sets2 wr g7 lv y2) (.cells #[.int .i64 x2, .int .i64 y2] 46)))
              have HNB := Lib.hid ((sets2_below HB.out (show w.heap.size ≤ g7 by omega) lv y2).alloc (by have := HB.out.size; simp; omega) (.cells #[.int .i64 x2, .int .i64 y2] 46))
              clear HS P0 P7
              go_wp2_with fail
              go_roundw
              case rel => exact ⟨k + 1, by omega, by go_num, HN1, HN0, HNB.out⟩
              case measure => simp [intOf]; omega
            · skip
              have HN1 : Hid (BoxB ((sets2 wr g7 lv hv).alloc (.cells #[.int .i64 x2, .int .i64 y2] 46)) g7 (loK vs (k + 1)) (hiK vs (k + 1))) := Lib.hid (by rw [HS.out.1, HS.out.2, show max lv x2 = lv by omega, show min hv y2 = hv by omega]; exact (P7.out.sets _ _).all (below1q _ _))
              have HN0 := Lib.hid (((P0.out.other (g' := g7) (i := 0) (u := .int .i64 lv) (by omega)).other (g' := g7) (i := 1) (u := .int .i64 hv) (by omega)).all (below1q (sets2 wr g7 lv hv) (.cells #[.int .i64 x2, .int .i64 y2] 46)))
              have HNB := Lib.hid ((sets2_below HB.out (show w.heap.size ≤ g7 by omega) lv hv).alloc (by have := HB.out.size; simp; omega) (.cells #[.int .i64 x2, .int .i64 y2] 46))
              clear HS P0 P7
              go_wp2_with fail
              go_roundw
              case rel => exact ⟨k + 1, by omega, by go_num, HN1, HN0, HNB.out⟩
              case measure => simp [intOf]; omega
        · obtain rfl : k = r := by omega
          by_cases hh : loK vs k ≤ hiK vs k
          · obtain ⟨rfl, rfl, rfl⟩ := HA.out.1 (by first | exact hh | omega)
            obtain ⟨lv, hlv⟩ : ∃ x, loK vs k = x := ⟨_, rfl⟩
            obtain ⟨hv, hhv⟩ : ∃ x, hiK vs k = x := ⟨_, rfl⟩
            rw [hlv, hhv] at hbx hh
            have HL := Lib.hid (And.intro hlv hhv)
            have hgt : ¬ hv < lv := by omega
            clear hlv hhv HA hb hh
            have c0 := hb0.out.c0
            have c1 := hb0.out.c1
            have f0 := hb0.out.fz 0
            have f1 := hb0.out.fz 1
            have d0 := hbx.out.c0
            have d1 := hbx.out.c1
            go_wp2_with fail
            refine bodyPost_ret (results_rowB rfl _ _ w.heap.size [.int .i64 lv, .int .i64 hv] _ rfl (hb0.out.sets lv hv).rangeAt Try.underlying46 rfl (by kernel_rfl)) rfl ?_
            exact ⟨by rw [HL.out.1, HL.out.2]; rfl, sets2_below HB.out (Nat.le_refl _) _ _⟩
          · obtain ⟨rfl, rfl, rfl⟩ := HA.out.2 (by first | exact hh | omega)
            obtain ⟨lv, hlv⟩ : ∃ x, loK vs k = x := ⟨_, rfl⟩
            obtain ⟨hv, hhv⟩ : ∃ x, hiK vs k = x := ⟨_, rfl⟩
            rw [hlv, hhv] at hbx hh
            have hgt : hv < lv := by omega
            clear hlv hhv HA hb hh
            have d0 := hbx.out.c0
            have d1 := hbx.out.c1
            have c0 := hb0.out.c0
            have c1 := hb0.out.c1
            have f0 := hb0.out.fz 0
            have f1 := hb0.out.fz 1
            go_wp2_with fail
            refine bodyPost_ret (results_rowB rfl _ _ w.heap.size [.int .i64 0, .int .i64 0] _ rfl (hb0.out.sets 0 0).rangeAt Try.underlying46 rfl (by kernel_rfl)) rfl ?_
            exact ⟨rfl, sets2_below HB.out (Nat.le_refl _) _ _⟩
  · obtain ⟨rfl, rfl, rfl⟩ := hA.2 (fun g => hs g.1)
    rw [decide_eq_false hs] at C1
    clear hA h hm hs hb0
    go_enter Try.func40, Try.ntmps40
    go_wp2_with fail
    refine C1.out.mono ?_
    rintro e w1 ⟨rfl, hb1⟩
    have HB1 := Lib.hid (PB.out.trans (hb1.mono (by simp)))
    have Q0 := Lib.hid (P0.out.all hb1)
    clear hb1 C1 P0 PB
    have c0 := Q0.out.c0
    have c1 := Q0.out.c1
    have f0 := Q0.out.fz 0
    have f1 := Q0.out.fz 1
    go_wp2_with fail
    refine bodyPost_ret (results_rowB rfl _ _ w.heap.size [.int .i64 0, .int .i64 0] _ rfl (Q0.out.sets 0 0).rangeAt Try.underlying46 rfl (by kernel_rfl)) rfl ?_
    exact ⟨rfl, sets2_below HB1.out (Nat.le_refl _) _ _⟩
end Go.Proofs.Yteeljlpbijmhlaa
