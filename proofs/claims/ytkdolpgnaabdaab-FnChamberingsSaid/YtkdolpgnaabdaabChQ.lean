/- Chapter 4: groups of hulls: the model and the program. -/
import Derived.Test.YtkdolpgnaabdaabChP
namespace Go.Proofs.Ytkdolpgnaabdaab
open Go.RowKit Go.PlainAid Go.Sort
set_option linter.unusedVariables false
set_option linter.unusedSimpArgs false

theorem bit_and : ∀ s : Nat, s < 16 → ∀ k : Nat, k < 4 → (bits BinOp.and IntKind.i64 ((s : Int) / 2 ^ k) 1 == 1) = s.testBit k := by decide +kernel
theorem own_capQ {w : World} {base : Nat} {e : TypeId} {z g n c : Nat} {xs : List Value} (h : w.ownsRow base e z (.slice (some ⟨g, 0, none⟩) n c) n xs) : n ≤ c := by
  rcases h.2 with ⟨e, -⟩ | ⟨g, cap, cur, e, -, -, h1, -⟩
  · cases e
  · injection e with e1 e2 e3; omega
set_option maxRecDepth 100000 in
set_option maxHeartbeats 1000000 in
theorem l4Chosen_any {w : World} {B : Nat} {A : Option Addr} {n : Nat} {hs : List THull} (set c : Nat) (h : IsHulls w B A n hs) (hn4 : n ≤ 4) (hs16 : set < 16) (K : Nat) (hK : (chosen hs set).length = K) :
    Calls Try.prog 63 #[.slice A n c, .int .i64 set] w fun e w' => ∃ g1 c1 g2 c2, e = .returned (.tuple #[.slice (some ⟨g1, 0, none⟩) K c1, .slice (some ⟨g2, 0, none⟩) K c2]) ∧ K ≤ c1 ∧
      w'.ownsRow w.heap.size 51 3 (.slice (some ⟨g1, 0, none⟩) K c1) K (flatHull (chosen hs set)) ∧ w'.ownsRow w.heap.size 3 1 (.slice (some ⟨g2, 0, none⟩) K c2) K ((idsOf (chosen hs set)).map (.int .i64)) ∧ Below w.heap.size w w' := by
  obtain ⟨i0, hi, hz0, hz1, hz2⟩ := info_parts Try.infoI'
  obtain ⟨j0, hj, hy0, hy1, hy2⟩ := info_parts Try.infoHull'
  have HH := Lib.hid h
  have HO1 := Lib.hid (World.ownsRow_made (size := 3) (e := 51) w #[] 0 (Nat.le_refl _) (by unfold maxLen; omega) rfl)
  have HBit := Lib.hid (fun k hk => bit_and set hs16 k hk)
  have HOh := Lib.hid ((World.ownsRow_made (size := 3) (e := 51) w #[] 0 (Nat.le_refl _) (by unfold maxLen; omega) rfl).alloc (.cells #[] 3))
  have HOi := Lib.hid (World.ownsRow_made (size := 1) (e := 3) (w.alloc (.cells #[] 51)) #[] 0 (base := w.heap.size) (by simp) (by unfold maxLen; omega) rfl)
  have HK := Lib.hid hK
  clear h hs16 hK
  go_enter Try.func63, Try.ntmps63
  go_wp2_with fail
  go_loopw [6, 7, 8] (fun v u i wr => ∃ (k m g1 c1 g2 c2 : Nat) (T : List THull), k ≤ n ∧ i = .int .i64 k ∧ Hid (chosenN hs set k = T) ∧ Hid (T.length = m) ∧ m ≤ k ∧ v = .slice (some ⟨g1, 0, none⟩) m c1 ∧ u = .slice (some ⟨g2, 0, none⟩) m c2 ∧ w.heap.size ≤ g1 ∧ w.heap.size ≤ g2 ∧ m ≤ c1 ∧
    wr.ownsRow w.heap.size 51 3 (.slice (some ⟨g1, 0, none⟩) m c1) m (flatHull T) ∧
    wr.ownsRow w.heap.size 3 1 (.slice (some ⟨g2, 0, none⟩) m c2) m ((idsOf T).map (.int .i64)) ∧ Below w.heap.size w wr) (fun _ _ i _ => n - (intOf i).toNat)
  case atStart => exact ⟨0, 0, w.heap.size, 0, w.heap.size + 1, 0, [], Nat.zero_le _, rfl, Lib.hid rfl, Lib.hid rfl, Nat.le_refl _, rfl, rfl, Nat.le_refl _, by omega, Nat.le_refl _, HOh.out, by have := HOi.out; simpa using this, below2 w _ _⟩
  case round =>
    clear HOh HOi
    obtain ⟨k, m, g1, c1, g2, c2, T, hk, rfl, hT, hTl, hmk, rfl, rfl, hg1, hg2, hmc, ho1, ho2, hb⟩ := hrel
    by_cases hlt : k < n
    · have hk0 : (0 : Int) ≤ (k : Int) := by omega
      have hk1 : (k : Int) < (n : Int) := by omega
      have hbit := HBit.out k (by omega)
      have HCN := Lib.hid (show chosenN hs set (k + 1) = if set.testBit k then chosenN hs set k ++ [hs.getD k noHull] else chosenN hs set k from rfl)
      cases hX : set.testBit k with
      | false =>
        rw [hX] at hbit
        have HN : Hid (chosenN hs set (k + 1) = T) := Lib.hid (by rw [HCN.out, hX]; exact hT.out)
        clear HCN hX
        go_wp2_with fail
        go_roundw
        case rel => exact ⟨k + 1, m, g1, c1, g2, c2, T, by omega, by go_num, HN, hTl, by omega, rfl, rfl, hg1, hg2, hmc, ho1, ho2, hb⟩
        case measure => simp [intOf]; omega
      | true =>
        rw [hX] at hbit
        have hkh : k < hs.length := by rw [HH.out.len]; exact hlt
        obtain ⟨aH, rfl, hab, HV⟩ := (HH.out.below hb HH.out.low).has.Hull hkh
        have HHC := Lib.hid (fun W (hB : Below w.heap.size w W) => show HullAt W aH k (hs.getD k noHull) by
          obtain ⟨a, e, -, hv⟩ := (HH.out.below hB HH.out.low).has.Hull hkh
          injection e with e
          subst e
          exact hv)
        have HN : Hid (chosenN hs set (k + 1) = T ++ [hs.getD k noHull]) := Lib.hid (by rw [HCN.out, hX, if_pos rfl, hT.out])
        generalize hs.getD k noHull = VH at HV HN HHC
        obtain ⟨hd, hl, hbb⟩ := VH
        obtain ⟨e0, e1, e2⟩ := HV
        dsimp only at e0 e1 e2
        have HO2 := Lib.hid ho2
        have HM := Lib.hid hmc
        clear HCN hX ho2 hmc
        go_wp2_with (at_builtin; refine wpList_append_own _ rfl (.tmp 23) (.tmp 28) 44 rfl w.heap.size 51 j0 (.agg #[.int .i64 0, .int .i64 0, .int .i64 0]) 3 24 Try.underlying44 hj hy0 hy1 hy2 rfl (by decide) (.slice (some ⟨g1, 0, none⟩) (m) c1) (m) _ rfl (ho1.alloc _) ⟨wr.heap.size, 0, none⟩ 1 1 [.int .i64 hd, .int .i64 hl, .int .i64 hbb] rfl rfl (cell_three_new _ _ _ _ _) (by simp [Value.oneCell']) (by unfold maxLen; omega) (by omega) (by have := (hb).size; simp; omega) ?_; intro v1 w1 hown1 hgrow1 hnil1; obtain ⟨g1, c1, rfl, hg1⟩ := own_some hown1 (fun e => nomatch (hnil1.1 e).1); have hb1 := ((hb).alloc (hb).size (.cells #[.int .i64 hd, .int .i64 hl, .int .i64 hbb] 51)).grown hgrow1 (by have := (hb).size; simp; omega) (fun q hq => by cases hq; assumption); have HO2b := Lib.hid ((HO2.out.alloc (.cells #[.int .i64 hd, .int .i64 hl, .int .i64 hbb] 51)).kept hgrow1 (own_ne (e := 3) (e' := 51) (HO2.out.alloc (.cells #[.int .i64 hd, .int .i64 hl, .int .i64 hbb] 51)) (ho1.alloc (.cells #[.int .i64 hd, .int .i64 hl, .int .i64 hbb] 51)) (by decide))); clear hnil1 hgrow1 ho1 hb e0 e1 e2; refine Hid.out ?_)
        have f0 := (HHC.out _ hb1).c0
        have hcc := own_capQ hown1
        dsimp only at f0
        have HO1 := Lib.hid hown1
        have HB1 := Lib.hid hb1
        have hs1 := hb1.size
        have hgg : w.heap.size ≤ g1 := by assumption
        clear hown1 hb1
        refine Lib.hid ?_
        go_wp2_with (at_builtin; refine wpList_append_own _ rfl (.tmp 30) (.tmp 36) 25 rfl w.heap.size 3 i0 (.int .i64 0) 1 8 Try.underlying25 hi hz0 hz1 hz2 rfl (by decide) (.slice (some ⟨g2, 0, none⟩) (m) c2) (m) _ rfl (HO2b.out.alloc _) ⟨w1.heap.size, 0, none⟩ 1 1 [.int .i64 hd] rfl rfl (cell_one_new _ _ _) (by simp [Value.oneCell']) (by unfold maxLen; omega) (by omega) (by have := (HB1.out).size; simp; omega) ?_; intro v1 w1 hown1 hgrow1 hnil1; obtain ⟨g1, c1, rfl, hg1⟩ := own_some hown1 (fun e => nomatch (hnil1.1 e).1); have hb1 := ((HB1.out).alloc (HB1.out).size (.cells #[.int .i64 hd] 3)).grown hgrow1 (by have := (HB1.out).size; simp; omega) (fun q hq => by cases hq; assumption); have HO1b := Lib.hid ((HO1.out.alloc (.cells #[.int .i64 hd] 3)).kept hgrow1 (own_ne (e := 51) (e' := 3) (HO1.out.alloc (.cells #[.int .i64 hd] 3)) (HO2b.out.alloc (.cells #[.int .i64 hd] 3)) (by decide))); clear hnil1 hgrow1 )
        go_roundw
        case rel => exact ⟨k + 1, m + 1, _, _, g1, c1, T ++ [⟨hd, hl, hbb⟩], by omega, by go_num, HN, Lib.hid (by rw [List.length_append, hTl.out]; rfl), by omega, rfl, rfl, hgg, hg1, hcc, by rw [flatHull_append]; exact HO1b.out, by rw [show idsOf (T ++ [⟨hd, hl, hbb⟩]) = idsOf T ++ [hd] by simp [idsOf], List.map_append]; exact hown1, hb1⟩
        case measure => simp [intOf]; omega
    · obtain rfl : k = n := by omega
      have hTe : T = chosen hs set := by rw [← hT.out, ← HH.out.len]
      obtain rfl : m = K := by rw [← hTl.out, hTe, HK.out]
      subst hTe
      clear HBit hT hTl
      go_wp2_with fail
      refine bodyPost_ret (results_tmp2 rfl _ _ _) rfl ?_
      exact ⟨g1, c1, g2, c2, rfl, hmc, ho1, ho2, hb⟩

set_option maxRecDepth 100000 in
set_option maxHeartbeats 1000000 in
theorem hullsOf_any {w : World} {B : Nat} {A : Option Addr} {n : Nat} {hs : List THull} (set c : Nat) (h : IsHulls w B A n hs) (hn4 : n ≤ 4) (hs16 : set < 16) (K : Nat) (hK : (chosen hs set).length = K) :
    Calls Try.prog 55 #[.slice A n c, .int .i64 set] w fun e w' => ∃ g1 c1, e = .returned (.slice (some ⟨g1, 0, none⟩) K c1) ∧ K ≤ c1 ∧
      w'.ownsRow w.heap.size 51 3 (.slice (some ⟨g1, 0, none⟩) K c1) K (flatHull (chosen hs set)) ∧ Below w.heap.size w w' := by
  obtain ⟨j0, hj, hy0, hy1, hy2⟩ := info_parts Try.infoHull'
  have HH := Lib.hid h
  have HBit := Lib.hid (fun k hk => bit_and set hs16 k hk)
  have HOh := Lib.hid (World.ownsRow_made (size := 3) (e := 51) w #[] 0 (Nat.le_refl _) (by unfold maxLen; omega) rfl)
  have HK := Lib.hid hK
  clear h hs16 hK
  go_enter Try.func55, Try.ntmps55
  go_wp2_with fail
  go_loopw [5, 11] (fun v i wr => ∃ (k m g1 c1 : Nat) (T : List THull), k ≤ n ∧ i = .int .i64 k ∧ Hid (chosenN hs set k = T) ∧ Hid (T.length = m) ∧ m ≤ k ∧ v = .slice (some ⟨g1, 0, none⟩) m c1 ∧ w.heap.size ≤ g1 ∧ m ≤ c1 ∧
    wr.ownsRow w.heap.size 51 3 (.slice (some ⟨g1, 0, none⟩) m c1) m (flatHull T) ∧ Below w.heap.size w wr) (fun _ i _ => n - (intOf i).toNat)
  case atStart => exact ⟨0, 0, w.heap.size, 0, [], Nat.zero_le _, rfl, Lib.hid rfl, Lib.hid rfl, Nat.le_refl _, rfl, Nat.le_refl _, Nat.le_refl _, HOh.out, below1 w _⟩
  case round =>
    clear HOh
    obtain ⟨k, m, g1, c1, T, hk, rfl, hT, hTl, hmk, rfl, hg1, hmc, ho1, hb⟩ := hrel
    by_cases hlt : k < n
    · have hk0 : (0 : Int) ≤ (k : Int) := by omega
      have hk1 : (k : Int) < (n : Int) := by omega
      have hbit := HBit.out k (by omega)
      have HCN := Lib.hid (show chosenN hs set (k + 1) = if set.testBit k then chosenN hs set k ++ [hs.getD k noHull] else chosenN hs set k from rfl)
      have hkh : k < hs.length := by rw [HH.out.len]; exact hlt
      obtain ⟨aH, rfl, hab, HV⟩ := (HH.out.below hb HH.out.low).has.Hull hkh
      generalize hs.getD k noHull = VH at HV HCN
      obtain ⟨hd, hl, hbb⟩ := VH
      obtain ⟨e0, e1, e2⟩ := HV
      dsimp only at e0 e1 e2
      have HB5 := Lib.hid (hb.alloc hb.size (.cells #[.int .i64 hd, .int .i64 hl, .int .i64 hbb] 51))
      have HO5 := Lib.hid (ho1.alloc (.cells #[.int .i64 hd, .int .i64 hl, .int .i64 hbb] 51))
      clear hb ho1
      cases hX : set.testBit k with
      | false =>
        rw [hX] at hbit
        have HN : Hid (chosenN hs set (k + 1) = T) := Lib.hid (by rw [HCN.out, hX]; exact hT.out)
        clear HCN hX
        go_wp2_with fail
        go_roundw
        case rel => exact ⟨k + 1, m, g1, c1, T, by omega, by go_num, HN, hTl, by omega, rfl, hg1, hmc, HO5.out, HB5.out⟩
        case measure => simp [intOf]; omega
      | true =>
        rw [hX] at hbit
        have HN : Hid (chosenN hs set (k + 1) = T ++ [⟨hd, hl, hbb⟩]) := Lib.hid (by rw [HCN.out, hX, if_pos rfl, hT.out])
        have hws : w.heap.size ≤ wr.heap.size + 1 := by have := HB5.out.size; simpa using this
        have HM := Lib.hid hmc
        clear HCN hX hmc
        go_wp2_with (at_builtin; refine wpList_append_own _ rfl (.tmp 21) (.tmp 23) 44 rfl w.heap.size 51 j0 (.agg #[.int .i64 0, .int .i64 0, .int .i64 0]) 3 24 Try.underlying44 hj hy0 hy1 hy2 rfl (by decide) (.slice (some ⟨g1, 0, none⟩) (m) c1) (m) _ rfl (HO5.out.alloc _) ⟨wr.heap.size + 1, 0, none⟩ 1 1 [.int .i64 hd, .int .i64 hl, .int .i64 hbb] rfl rfl ((by have := cell_three_new (wr.alloc (.cells #[.int .i64 hd, .int .i64 hl, .int .i64 hbb] 51)) (.int .i64 hd) (.int .i64 hl) (.int .i64 hbb) 51; rw [show (wr.alloc (.cells #[.int .i64 hd, .int .i64 hl, .int .i64 hbb] 51)).heap.size = wr.heap.size + 1 by simp] at this; exact this)) (by simp [Value.oneCell']) (by unfold maxLen; omega) (by omega) (by have := (HB5.out).size; simp; omega) ?_; intro v1 w1 hown1 hgrow1 hnil1; obtain ⟨g1, c1, rfl, hg1⟩ := own_some hown1 (fun e => nomatch (hnil1.1 e).1); have hb1 := ((HB5.out).alloc (HB5.out).size (.cells #[.int .i64 hd, .int .i64 hl, .int .i64 hbb] 51)).grown hgrow1 (by have := (HB5.out).size; simp; omega) (fun q hq => by cases hq; assumption); clear hnil1 hgrow1 e0 e1 e2)
        have hcc := own_capQ hown1
        go_roundw
        case rel => exact ⟨k + 1, m + 1, g1, c1, T ++ [⟨hd, hl, hbb⟩], by omega, by go_num, HN, Lib.hid (by rw [List.length_append, hTl.out]; rfl), by omega, rfl, hg1, hcc, by rw [flatHull_append]; exact hown1, hb1⟩
        case measure => simp [intOf]; omega
    · obtain rfl : k = n := by omega
      have hTe : T = chosen hs set := by rw [← hT.out, ← HH.out.len]
      obtain rfl : m = K := by rw [← hTl.out, hTe, HK.out]
      subst hTe
      clear HBit hT hTl
      go_wp2_with fail
      go_ret
      exact ⟨g1, c1, rfl, hmc, ho1, hb⟩

set_option maxRecDepth 100000 in
set_option maxHeartbeats 1000000 in
theorem idsOf_any {w : World} {B : Nat} {A : Option Addr} {n : Nat} {hs : List THull} (c : Nat) (h : IsHulls w B A n hs) (hn4 : n ≤ 4) :
    Calls Try.prog 56 #[.slice A n c] w fun e w' => ∃ g1 c1, e = .returned (.slice (some ⟨g1, 0, none⟩) n c1) ∧
      w'.ownsRow w.heap.size 3 1 (.slice (some ⟨g1, 0, none⟩) n c1) n ((idsOf hs).map (.int .i64)) ∧ Below w.heap.size w w' := by
  obtain ⟨i0, hi, hz0, hz1, hz2⟩ := info_parts Try.infoI'
  have HH := Lib.hid h
  have HOh := Lib.hid (World.ownsRow_made (size := 1) (e := 3) w #[] 0 (Nat.le_refl _) (by unfold maxLen; omega) rfl)
  clear h
  go_enter Try.func56, Try.ntmps56
  go_wp2_with fail
  go_loopw [3, 9] (fun v i wr => ∃ (k g1 c1 : Nat), k ≤ n ∧ i = .int .i64 k ∧ v = .slice (some ⟨g1, 0, none⟩) k c1 ∧ w.heap.size ≤ g1 ∧
    wr.ownsRow w.heap.size 3 1 (.slice (some ⟨g1, 0, none⟩) k c1) k ((idsOf (hs.take k)).map (.int .i64)) ∧ Below w.heap.size w wr) (fun _ i _ => n - (intOf i).toNat)
  case atStart => exact ⟨0, w.heap.size, 0, Nat.zero_le _, rfl, rfl, Nat.le_refl _, by simpa using HOh.out, below1 w _⟩
  case round =>
    clear HOh
    obtain ⟨k, g1, c1, hk, rfl, rfl, hg1, ho1, hb⟩ := hrel
    by_cases hlt : k < n
    · have hk0 : (0 : Int) ≤ (k : Int) := by omega
      have hk1 : (k : Int) < (n : Int) := by omega
      have hkh : k < hs.length := by rw [HH.out.len]; exact hlt
      obtain ⟨aH, rfl, hab, HV⟩ := (HH.out.below hb HH.out.low).has.Hull hkh
      have HN : Hid (idsOf (hs.take (k + 1)) = idsOf (hs.take k) ++ [(hs.getD k noHull).x0]) := Lib.hid (by rw [List.take_succ_eq_append_getElem hkh, getHull hkh]; show List.map THull.x0 (hs.take k ++ [hs[k]]) = _; rw [List.map_append]; rfl)
      generalize hs.getD k noHull = VH at HV HN
      obtain ⟨hd, hl, hbb⟩ := VH
      obtain ⟨e0, e1, e2⟩ := HV
      dsimp only at e0 e1 e2 HN
      have HB5 := Lib.hid (hb.alloc hb.size (.cells #[.int .i64 hd, .int .i64 hl, .int .i64 hbb] 51))
      have HO5 := Lib.hid (ho1.alloc (.cells #[.int .i64 hd, .int .i64 hl, .int .i64 hbb] 51))
      have hws : w.heap.size ≤ wr.heap.size + 1 := by have := HB5.out.size; simpa using this
      have HC := Lib.hid (show ∀ j u, [Value.int .i64 hd][j]? = some u → ((wr.alloc (.cells #[.int .i64 hd, .int .i64 hl, .int .i64 hbb] 51)).alloc (.cells #[.int .i64 hd] 3)).cell? ((⟨wr.heap.size + 1, 0, none⟩ : Addr).add j) = some u by
        have := cell_one_new (wr.alloc (.cells #[.int .i64 hd, .int .i64 hl, .int .i64 hbb] 51)) (.int .i64 hd) 3
        rw [show (wr.alloc (.cells #[.int .i64 hd, .int .i64 hl, .int .i64 hbb] 51)).heap.size = wr.heap.size + 1 by simp] at this
        exact this)
      clear hb ho1
      go_wp2_with (at_builtin; refine wpList_append_own _ rfl (.tmp 13) (.tmp 16) 25 rfl w.heap.size 3 i0 (.int .i64 0) 1 8 Try.underlying25 hi hz0 hz1 hz2 rfl (by decide) (.slice (some ⟨g1, 0, none⟩) (k) c1) (k) _ rfl (HO5.out.alloc _) ⟨wr.heap.size + 1, 0, none⟩ 1 1 [.int .i64 hd] rfl rfl (HC.out) (by simp [Value.oneCell']) (by unfold maxLen; omega) (by omega) (by have := (HB5.out).size; simp; omega) ?_; intro v1 w1 hown1 hgrow1 hnil1; obtain ⟨g1, c1, rfl, hg1⟩ := own_some hown1 (fun e => nomatch (hnil1.1 e).1); have hb1 := ((HB5.out).alloc (HB5.out).size (.cells #[.int .i64 hd] 3)).grown hgrow1 (by have := (HB5.out).size; simp; omega) (fun q hq => by cases hq; assumption); clear hnil1 hgrow1 e0 e1 e2)
      go_roundw
      case rel => exact ⟨k + 1, g1, c1, by omega, by go_num, rfl, hg1, by rw [HN.out, List.map_append]; exact hown1, hb1⟩
      case measure => simp [intOf]; omega
    · obtain rfl : k = n := by omega
      have HO : Hid (wr.ownsRow w.heap.size 3 1 (.slice (some ⟨g1, 0, none⟩) k c1) k ((idsOf hs).map (.int .i64))) := Lib.hid (by rw [List.take_of_length_le (by rw [HH.out.len]; exact Nat.le_refl _)] at ho1; exact ho1)
      clear ho1
      go_wp2_with fail
      go_ret
      exact ⟨g1, c1, rfl, HO.out, hb⟩
end Go.Proofs.Ytkdolpgnaabdaab
