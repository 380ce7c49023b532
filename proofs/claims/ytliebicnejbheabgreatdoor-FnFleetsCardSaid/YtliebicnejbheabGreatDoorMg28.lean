/- Texts that are joined: VesPar, VesKin. -/
import Derived.Test.YtliebicnejbheabGreatDoorMg25
import Derived.Test.YtliebicnejbheabGreatDoorMg27
/- Chapter 3: the text of a vessel, split into words, as plain words. -/
namespace Go.Proofs.YtliebicnejbheabGreatDoor
open Go.RowKit Go.PlainAid

def wDr : ByteArray := ⟨#[100, 114, 97, 117, 103, 104, 116]⟩
def kXx : ByteArray := ⟨#[120]⟩
/-- Length and width. -/
def wLW (l b : Int) : ByteArray := numB l ++ kXx ++ numB b
theorem vtxt_cat (i : Int) (s : ByteArray) (l b d : Int) (word : ByteArray) : vtxt i s l b d word = catB kSp [numB i, s, word, wLW l b, wDr, numB d] := by
  apply bytes_ext
  simp [vtxt, catB, kSp, wLW, wDr, kXx]
theorem words_V (i : Int) (s : ByteArray) (l b d : Int) (word : ByteArray) (hs : (32 : UInt8) ∉ s.data.toList) (hw : (32 : UInt8) ∉ word.data.toList) : parts (vtxt i s l b d word) 32 = [numB i, s, word, wLW l b, wDr, numB d] := by
  rw [vtxt_cat]
  have N := fun n => no_holds (numB n) 32 (num_no 32 (by decide) (by decide) n)
  have K : ∀ x : ByteArray, (32 : UInt8) ∉ x.data.toList → ¬ holdsB x 32 := fun x h => no_holds x 32 h
  have hlw : (32 : UInt8) ∉ (wLW l b).data.toList := by
    have h1 := num_no 32 (by decide) (by decide) l
    have h2 := num_no 32 (by decide) (by decide) b
    simp only [wLW, ByteArray.data_append, Array.toList_append, List.mem_append, not_or]
    exact ⟨⟨h1, by decide⟩, h2⟩
  exact parts_catB kSp 32 rfl (by decide) _ (by simp) (List.forall_mem_cons.2 ⟨N i, List.forall_mem_cons.2 ⟨K _ hs, List.forall_mem_cons.2 ⟨K _ hw, List.forall_mem_cons.2 ⟨K _ hlw, List.forall_mem_cons.2 ⟨K _ (by decide), List.forall_mem_cons.2 ⟨N d, by simp⟩⟩⟩⟩⟩⟩)
theorem sides_V (l b : Int) : parts (wLW l b) 120 = [numB l, numB b] := by
  have h1 := no_holds (numB l) 120 (num_no 120 (by decide) (by decide) l)
  have h2 := no_holds (numB b) 120 (num_no 120 (by decide) (by decide) b)
  have := parts_catB kXx 120 rfl (by decide) [numB l, numB b] (by simp) (List.forall_mem_cons.2 ⟨h1, List.forall_mem_cons.2 ⟨h2, by simp⟩⟩)
  rw [← this]
  congr 1
theorem kindB_inj {q q' : Int} (h : 1 ≤ q ∧ q ≤ 4) (h' : 1 ≤ q' ∧ q' ≤ 4) (e : kindB q = kindB q') : q = q' := by
  obtain rfl | rfl | rfl | rfl : q = 1 ∨ q = 2 ∨ q = 3 ∨ q = 4 := by omega
  all_goals obtain rfl | rfl | rfl | rfl : q' = 1 ∨ q' = 2 ∨ q' = 3 ∨ q' = 4 := by omega
  all_goals first | rfl | (exfalso; revert e; decide +kernel)
/-- Two good vessels of one text are one. -/
theorem vtxt_one {v v' : Ves} (hg : goodV v) (hg' : goodV v') (h : vtxt v.id v.name v.len v.wid v.dr (kindB v.kind) = vtxt v'.id v'.name v'.len v'.wid v'.dr (kindB v'.kind)) : v = v' := by
  have w1 := words_V v.id v.name v.len v.wid v.dr (kindB v.kind) (no_small hg.2.1 32 (by decide)) (kind_no _ 32 (by decide))
  have w2 := words_V v'.id v'.name v'.len v'.wid v'.dr (kindB v'.kind) (no_small hg'.2.1 32 (by decide)) (kind_no _ 32 (by decide))
  rw [h, w2] at w1
  obtain ⟨e1, e2, e3, e4, -, e6⟩ : numB v'.id = numB v.id ∧ v'.name = v.name ∧ kindB v'.kind = kindB v.kind ∧ wLW v'.len v'.wid = wLW v.len v.wid ∧ True ∧ numB v'.dr = numB v.dr := by
    simp only [List.cons.injEq] at w1
    exact ⟨w1.1, w1.2.1, w1.2.2.1, w1.2.2.2.1, trivial, w1.2.2.2.2.2.1⟩
  have s1 := sides_V v.len v.wid
  have s2 := sides_V v'.len v'.wid
  rw [e4, s1] at s2
  simp only [List.cons.injEq] at s2
  obtain ⟨i, s, l, b, d, q⟩ := v
  obtain ⟨i', s', l', b', d', q'⟩ := v'
  have h1 := numB_inj _ _ e1
  have h3 := kindB_inj hg'.2.2.2.2.2 hg.2.2.2.2.2 e3
  have h4 := numB_inj _ _ s2.1
  have h5 := numB_inj _ _ s2.2.1
  have h6 := numB_inj _ _ e6
  dsimp only at h1 e2 h3 h4 h5 h6
  rw [h1, e2, h3, h4, h5, h6]
end Go.Proofs.YtliebicnejbheabGreatDoor

/- Chapter 3: the kind of a word, the model and the program; a text cut at a byte. -/
namespace Go.Proofs.YtliebicnejbheabGreatDoor
open Go.RowKit Go.PlainAid Go.Sort

/-- The kind that has this word, or 0. -/
noncomputable def kix (s : ByteArray) : Int :=
  open Classical in if kindB 1 = s then 1 else if kindB 2 = s then 2 else if kindB 3 = s then 3 else if kindB 4 = s then 4 else 0
theorem kix_of {q : Int} (h : 1 ≤ q ∧ q ≤ 4) : kix (kindB q) = q := by
  unfold kix
  obtain rfl | rfl | rfl | rfl : q = 1 ∨ q = 2 ∨ q = 3 ∨ q = 4 := by omega
  · rw [if_pos rfl]
  · rw [if_neg (fun e => by have := kindB_inj (q := 1) (q' := 2) (by omega) (by omega) e; omega), if_pos rfl]
  · rw [if_neg (fun e => by have := kindB_inj (q := 1) (q' := 3) (by omega) (by omega) e; omega), if_neg (fun e => by have := kindB_inj (q := 2) (q' := 3) (by omega) (by omega) e; omega), if_pos rfl]
  · rw [if_neg (fun e => by have := kindB_inj (q := 1) (q' := 4) (by omega) (by omega) e; omega), if_neg (fun e => by have := kindB_inj (q := 2) (q' := 4) (by omega) (by omega) e; omega), if_neg (fun e => by have := kindB_inj (q := 3) (q' := 4) (by omega) (by omega) e; omega), if_pos rfl]
theorem kix_bd (s : ByteArray) : 0 ≤ kix s ∧ kix s ≤ 4 := by
  unfold kix
  split
  · omega
  · split
    · omega
    · split
      · omega
      · split <;> omega
theorem kix_pos {s : ByteArray} (h : 1 ≤ kix s) : kindB (kix s) = s := by
  unfold kix at h ⊢
  split
  · next e => exact e
  · split
    · next e => exact e
    · split
      · next e => exact e
      · split
        · next e => exact e
        · next h1 h2 h3 h4 =>
          rw [if_neg h1, if_neg h2, if_neg h3, if_neg h4] at h
          omega
theorem kix_step {s : ByteArray} {k : Nat} (h0 : 1 ≤ k) (h4 : k ≤ 4) (e : kindB (k : Int) = s) : kix s = k := by
  rw [← e]
  exact kix_of (by omega)
theorem kix_none {s : ByteArray} (hall : ∀ j : Nat, 1 ≤ j → j < 5 → kindB (j : Int) ≠ s) : kix s = 0 := by
  unfold kix
  rw [if_neg (show ¬ kindB 1 = s from hall 1 (by omega) (by omega)), if_neg (show ¬ kindB 2 = s from hall 2 (by omega) (by omega)), if_neg (show ¬ kindB 3 = s from hall 3 (by omega) (by omega)), if_neg (show ¬ kindB 4 = s from hall 4 (by omega) (by omega))]

set_option maxHeartbeats 1000000 in
theorem kindOfWord_any (s : ByteArray) (w : World) : Calls Tryz.prog 30 #[.string s] w fun e w' => e = .returned (.int .i64 (kix s)) ∧ w = w' := by
  have C := Lib.hid (fun k W => kindWord_any k W)
  have HS := Lib.hid (fun (k : Nat) (h0 : 1 ≤ k) (h4 : k ≤ 4) (e : kindB (k : Int) = s) => kix_step h0 h4 e)
  have HN := Lib.hid (fun (hall : ∀ j : Nat, 1 ≤ j → j < 5 → kindB (j : Int) ≠ s) => kix_none hall)
  go_enter Tryz.func30, Tryz.ntmps30
  go_wp2_with fail
  go_loop [3] (fun i => ∃ k : Nat, 1 ≤ k ∧ k ≤ 5 ∧ i = .int .i64 k ∧ Hid (∀ j : Nat, 1 ≤ j → j < k → kindB (j : Int) ≠ s)) (fun i => 5 - (intOf i).toNat)
  case atStart => exact ⟨1, by omega, by omega, rfl, Lib.hid (fun j h1 h2 => absurd h2 (by omega))⟩
  case round =>
    obtain ⟨k, hk0, hk5, rfl, hall⟩ := hrel
    by_cases hlt : k ≤ 4
    · have hlt' : (k : Int) ≤ 4 := by omega
      have HE : Hid (kindB (k : Int) = s → kix s = k) := Lib.hid (fun e => HS.out k hk0 hlt e)
      have HA : Hid (kindB (k : Int) ≠ s → ∀ j : Nat, 1 ≤ j → j < k + 1 → kindB (j : Int) ≠ s) := Lib.hid (fun h j h1 h2 => by
        rcases Nat.lt_succ_iff_lt_or_eq.1 h2 with h3 | h3
        · exact hall.out j h1 h3
        · rw [h3]; exact h)
      have Ck := Lib.hid (fun W => C.out (k : Int) W)
      generalize kindB (k : Int) = word at HE HA Ck
      clear HS HN C hall
      go_wp2_with fail
      refine (Ck.out _).mono ?_
      rintro e w1 ⟨rfl, rfl⟩
      by_cases hst : word = s
      · have HR := Lib.hid (HE.out hst)
        subst hst
        have hself : (word.toList == word.toList) = true := beq_self_eq_true _
        clear HE HA Ck
        go_wp2_with fail
        go_ret
        exact ⟨ret_int HR.out.symm, rfl⟩
      · have HR := Lib.hid (HA.out hst)
        have hne := toList_ne hst
        clear HE HA Ck hst
        go_wp2_with fail
        go_round
        case rel => exact ⟨k + 1, by omega, by omega, by go_num, HR⟩
        case measure => simp [intOf]; omega
    · obtain rfl : k = 5 := by omega
      have HR := Lib.hid (HN.out hall.out)
      clear HS HN C hall
      go_wp2_with fail
      go_ret
      exact ⟨ret_int HR.out.symm, rfl⟩

set_option maxHeartbeats 1000000 in
/-- The model's place of a word in the list of the kinds' words. -/
theorem l3Index_any (g : Nat) (s : ByteArray) (w : World) (h : w.heap[g]? = some (.cells #[.string ⟨#[]⟩, .string ⟨#[98, 97, 114, 103, 101]⟩, .string ⟨#[116, 97, 110, 107, 101, 114]⟩, .string ⟨#[112, 97, 115, 115, 101, 110, 103, 101, 114]⟩, .string ⟨#[112, 108, 101, 97, 115, 117, 114, 101]⟩] 9 (0, 0))) :
    Calls Tryz.prog 37 #[.slice (some ⟨g, 0, none⟩) 5 5, .string s] w fun e w' => e = .returned (.int .i64 (kix s)) ∧ w = w' := by
  have HC : Hid (∀ k : Nat, 1 ≤ k → k ≤ 4 → w.cell? ⟨g, k, none⟩ = some (.string (kindB k))) := Lib.hid (fun k h0 h4 => (cell_of_row w g k _ _ _ h).trans (kind_at (by omega)))
  have HS := Lib.hid (fun (k : Nat) (h0 : 1 ≤ k) (h4 : k ≤ 4) (e : kindB (k : Int) = s) => kix_step h0 h4 e)
  have HN := Lib.hid (fun (hall : ∀ j : Nat, 1 ≤ j → j < 5 → kindB (j : Int) ≠ s) => kix_none hall)
  clear h
  go_enter Tryz.func37, Tryz.ntmps37
  go_wp2_with fail
  go_loop [5] (fun i => ∃ k : Nat, 1 ≤ k ∧ k ≤ 5 ∧ i = .int .i64 k ∧ Hid (∀ j : Nat, 1 ≤ j → j < k → kindB (j : Int) ≠ s)) (fun i => 5 - (intOf i).toNat)
  case atStart => exact ⟨1, by omega, by omega, rfl, Lib.hid (fun j h1 h2 => absurd h2 (by omega))⟩
  case round =>
    obtain ⟨k, hk0, hk5, rfl, hall⟩ := hrel
    by_cases hlt : k ≤ 4
    · have hlt' : (k : Int) < 5 := by omega
      have hk00 : (0 : Int) ≤ (k : Int) := by omega
      have HE : Hid (kindB (k : Int) = s → kix s = k) := Lib.hid (fun e => HS.out k hk0 hlt e)
      have HA : Hid (kindB (k : Int) ≠ s → ∀ j : Nat, 1 ≤ j → j < k + 1 → kindB (j : Int) ≠ s) := Lib.hid (fun h j h1 h2 => by
        rcases Nat.lt_succ_iff_lt_or_eq.1 h2 with h3 | h3
        · exact hall.out j h1 h3
        · rw [h3]; exact h)
      have e0 := HC.out k hk0 hlt
      generalize kindB (k : Int) = word at HE HA e0
      clear HS HN HC hall
      by_cases hst : word = s
      · have HR := Lib.hid (HE.out hst)
        subst hst
        have hself : (word.toList == word.toList) = true := beq_self_eq_true _
        clear HE HA
        go_wp2
        go_ret
        exact ⟨ret_int HR.out.symm, rfl⟩
      · have HR := Lib.hid (HA.out hst)
        have hne := toList_ne hst
        clear HE HA hst
        go_wp2
        go_round
        case rel => exact ⟨k + 1, by omega, by omega, by go_num, HR⟩
        case measure => simp [intOf]; omega
    · obtain rfl : k = 5 := by omega
      have HR := Lib.hid (HN.out hall.out)
      clear HS HN HC hall
      go_wp2
      go_ret
      exact ⟨ret_int HR.out.symm, rfl⟩
end Go.Proofs.YtliebicnejbheabGreatDoor
