/- Chapter 6: SuspectSensor: which numbers are in a list, counts of three. -/
import Derived.Test.YteeljlpbijmhlaaSeL
import Derived.Test.YteeljlpbijmhlaaSeU
namespace Go.Proofs.Yteeljlpbijmhlaa
open Go.RowKit Go.PlainAid Go.Sort
set_option linter.unusedVariables false
set_option linter.unusedSimpArgs false

/-- Integers of a slice of one's own, to be read. -/
structure IsL6 (w : World) (g n : Nat) (L : List Int) : Prop where
  len : L.length = n
  get : ∀ k, k < n → w.cell? ⟨g, k, none⟩ = some (.int .i64 (L.getD k 0))
theorem OwnL6.isL {w w' : World} {l : List Int} {g c : Nat} (h : w'.ownsRow w.heap.size 3 1 (.slice (some ⟨g, 0, none⟩) l.length c) l.length (l.map (.int .i64))) : IsL6 w' g l.length l :=
  ⟨rfl, fun k hk => by have := own_ints h hk; rwa [addZ] at this⟩

theorem has_not {L : List Int} {x : Int} (h : ∀ j, j < L.length → L.getD j 0 ≠ x) : L.contains x = false := by
  rw [Bool.eq_false_iff]
  intro hc
  rw [List.contains_iff_mem] at hc
  obtain ⟨j, hj, e⟩ := List.getElem_of_mem hc
  exact h j hj (by simp [List.getD_eq_getElem?_getD, hj, e])
theorem has_one6 {L : List Int} {x : Int} {j : Nat} (hj : j < L.length) (h : L.getD j 0 = x) : L.contains x = true := by
  rw [List.contains_iff_mem, ← h, List.getD_eq_getElem?_getD, List.getElem?_eq_getElem hj]
  exact List.getElem_mem hj

set_option maxHeartbeats 1000000 in
theorem l1Has6_any (g n c : Nat) (L : List Int) (x : Int) (w : World) (hm : n ≤ 1048576) (h : IsL6 w g n L) :
    Calls Try.prog 69 #[.slice (some ⟨g, 0, none⟩) n c, .int .i64 x] w fun e w' => e = .returned (.bool (L.contains x)) ∧ w = w' := by
  have HI := Lib.hid h
  obtain ⟨b, hb⟩ : ∃ b, L.contains x = b := ⟨_, rfl⟩
  rw [hb]
  have HY : Hid (∀ j, j < n → L.getD j 0 = x → b = true) := Lib.hid (fun j hj e => by rw [← hb]; exact has_one6 (by rw [h.len]; exact hj) e)
  have HN : Hid ((∀ j, j < n → L.getD j 0 ≠ x) → b = false) := Lib.hid (fun g => by rw [← hb]; exact has_not (by rw [h.len]; exact g))
  clear hb h
  go_enter Try.func69, Try.ntmps69
  go_wp2_with fail
  go_loop [5] (fun i => ∃ q : Nat, q ≤ n ∧ i = .int .i64 q ∧ Hid (∀ j, j < q → L.getD j 0 ≠ x)) (fun i => n - (intOf i).toNat)
  case atStart => exact ⟨0, Nat.zero_le _, rfl, Lib.hid (fun j hj => absurd hj (by omega))⟩
  case round =>
    obtain ⟨q, hq, rfl, hno⟩ := hrel
    by_cases hlt : q < n
    · have ez := HI.out.get q hlt
      have HYq := Lib.hid (HY.out q hlt)
      have HNq : Hid (L.getD q 0 ≠ x → ∀ j, j < q + 1 → L.getD j 0 ≠ x) := Lib.hid (fun h j hj => by
        rcases Nat.lt_succ_iff_lt_or_eq.1 hj with h1 | rfl
        · exact hno.out j h1
        · exact h)
      generalize L.getD q 0 = z at ez HYq HNq
      have hq0 : (0 : Int) ≤ (q : Int) := by omega
      have hq1 : (q : Int) < (n : Int) := by omega
      clear hno HY
      by_cases hz : z = x
      · obtain rfl : b = true := HYq.out hz
        have hzb : (z == x) = true := by simp [hz]
        clear HYq HNq HN hz
        go_wp2_with fail
        go_ret
        exact ⟨rfl, rfl⟩
      · have HR := Lib.hid (HNq.out hz)
        have hzb : (z == x) = false := by simp [hz]
        clear HYq HNq hz
        go_wp2_with fail
        go_round
        case rel => exact ⟨q + 1, by omega, by go_num, HR⟩
        case measure => simp [intOf]; omega
    · obtain rfl : q = n := by omega
      obtain rfl : b = false := HN.out hno.out
      clear hno HY HI
      go_wp2_with fail
      go_ret
      exact ⟨rfl, rfl⟩

/-- The first place of a number, or -1. -/
def IdxA (L : List Int) (x : Int) (r : Int) : Prop := (∃ j : Nat, r = j ∧ j < L.length ∧ L.getD j 0 = x ∧ ∀ i, i < j → L.getD i 0 ≠ x) ∨ (r = -1 ∧ ∀ j, j < L.length → L.getD j 0 ≠ x)
set_option maxHeartbeats 1000000 in
theorem index6_any (g n c : Nat) (L : List Int) (x : Int) (w : World) (hm : n ≤ 1048576) (h : IsL6 w g n L) :
    Calls Try.prog 72 #[.slice (some ⟨g, 0, none⟩) n c, .int .i64 x] w fun e w' => ∃ r : Int, e = .returned (.int .i64 r) ∧ IdxA L x r ∧ w = w' := by
  have HI := Lib.hid h
  have HL := Lib.hid h.len
  clear h
  go_enter Try.func72, Try.ntmps72
  go_wp2_with fail
  go_loop [8] (fun i => ∃ q : Nat, q ≤ n ∧ i = .int .i64 q ∧ Hid (∀ j, j < q → L.getD j 0 ≠ x)) (fun i => n - (intOf i).toNat)
  case atStart => exact ⟨0, Nat.zero_le _, rfl, Lib.hid (fun j hj => absurd hj (by omega))⟩
  case round =>
    obtain ⟨q, hq, rfl, hno⟩ := hrel
    by_cases hlt : q < n
    · have ez := HI.out.get q hlt
      have HYq : Hid (L.getD q 0 = x → IdxA L x q) := Lib.hid (fun e => .inl ⟨q, rfl, by rw [HL.out]; exact hlt, e, hno.out⟩)
      have HNq : Hid (L.getD q 0 ≠ x → ∀ j, j < q + 1 → L.getD j 0 ≠ x) := Lib.hid (fun h j hj => by
        rcases Nat.lt_succ_iff_lt_or_eq.1 hj with h1 | rfl
        · exact hno.out j h1
        · exact h)
      generalize L.getD q 0 = z at ez HYq HNq
      have hq0 : (0 : Int) ≤ (q : Int) := by omega
      have hq1 : (q : Int) < (n : Int) := by omega
      clear hno
      by_cases hz : z = x
      · have HR := Lib.hid (HYq.out hz)
        have hzb : (x == z) = true := by simp [hz]
        clear HYq HNq hz
        go_wp2_with fail
        go_ret
        exact ⟨q, rfl, HR.out, rfl⟩
      · have HR := Lib.hid (HNq.out hz)
        have hzb : (x == z) = false := by rw [beq_eq_false_iff_ne]; exact fun e => hz e.symm
        clear HYq HNq hz
        go_wp2_with fail
        go_round
        case rel => exact ⟨q + 1, by omega, by go_num, HR⟩
        case measure => simp [intOf]; omega
    · obtain rfl : q = n := by omega
      have HR : Hid (IdxA L x (-1)) := Lib.hid (.inr ⟨rfl, by rw [HL.out]; exact hno.out⟩)
      clear hno HI
      go_wp2_with fail
      go_ret
      exact ⟨-1, rfl, HR.out, rfl⟩
set_option maxHeartbeats 1000000 in
theorem contains6_any (g n c : Nat) (L : List Int) (x : Int) (w : World) (hm : n ≤ 1048576) (h : IsL6 w g n L) :
    Calls Try.prog 70 #[.slice (some ⟨g, 0, none⟩) n c, .int .i64 x] w fun e w' => e = .returned (.bool (L.contains x)) ∧ w = w' := by
  have C := Lib.hid (index6_any g n c L x w hm h)
  have HX : Hid (∀ r, IdxA L x r → decide (0 ≤ r) = L.contains x) := Lib.hid (fun r hr => by
    rcases hr with ⟨j, rfl, hj, e, -⟩ | ⟨rfl, hn⟩
    · rw [has_one6 hj e]; simp
    · rw [has_not hn]; rfl)
  generalize L.contains x = b at HX ⊢
  clear h
  go_enter Try.func70, Try.ntmps70
  go_wp2_with fail
  refine C.out.mono ?_
  rintro e w1 ⟨r, rfl, hr, rfl⟩
  have HD := Lib.hid (HX.out r hr)
  clear HX C hr
  go_wp2_with fail
  refine bodyPost_ret (results_tmp rfl _ _ _) rfl ?_
  exact ⟨by rw [← HD.out]; rfl, rfl⟩

/-- Counts of three in a row of one's own. -/
def cn3 (x y z : Nat) : List Int := [(x : Int), (y : Int), (z : Int)]
theorem big3_max (x y z : Nat) : (cn3 x y z).getD (big3 x y z) 0 = ((max x (max y z) : Nat) : Int) := by
  unfold big3 cn3
  split
  · show (x : Int) = _
    omega
  · split
    · show (y : Int) = _
      omega
    · show (z : Int) = _
      omega
theorem big3_first (x y z : Nat) : ∀ i, i < big3 x y z → (cn3 x y z).getD i 0 ≠ ((max x (max y z) : Nat) : Int) := by
  intro i hi
  unfold big3 at hi
  split at hi
  · omega
  · split at hi
    · obtain rfl : i = 0 := by omega
      show (x : Int) ≠ _
      omega
    · match i, hi with
      | 0, _ => show (x : Int) ≠ _; omega
      | 1, _ => show (y : Int) ≠ _; omega
theorem big3_lt (x y z : Nat) : big3 x y z < 3 := by unfold big3; split; omega; split <;> omega
theorem idx_big {x y z : Nat} {r : Int} (h : IdxA (cn3 x y z) ((max x (max y z) : Nat) : Int) r) : r = (big3 x y z : Nat) := by
  rcases h with ⟨j, rfl, hj, e, hn⟩ | ⟨-, hn⟩
  · have hl := big3_lt x y z
    rcases Nat.lt_trichotomy j (big3 x y z) with c | c | c
    · exact absurd e (big3_first x y z j c)
    · rw [c]
    · exact absurd (big3_max x y z) (hn _ c)
  · exact absurd (big3_max x y z) (hn _ (by have := big3_lt x y z; simpa [cn3] using this))
theorem mx_cn3 (x y z : Nat) : mxK (cn3 x y z) 2 = ((max x (max y z) : Nat) : Int) := by
  show max (max (x : Int) (y : Int)) (z : Int) = _
  omega
/-- The best of the first k. -/
def bst (x y z k : Nat) : Nat := if k ≤ 1 then 0 else if k = 2 then (if x < y then 1 else 0) else big3 x y z
theorem bst_lt (x y z k : Nat) : bst x y z k < 3 := by
  unfold bst
  have := big3_lt x y z
  repeat' split
  all_goals omega
theorem bst_new {x y z k : Nat} (h1 : 1 ≤ k) (hk : k < 3) (h : (cn3 x y z).getD (bst x y z k) 0 < (cn3 x y z).getD k 0) : bst x y z (k + 1) = k := by
  match k, h1, hk with
  | 1, _, _ =>
    have h' : (x : Int) < (y : Int) := h
    simp [bst]; omega
  | 2, _, _ =>
    have h' : (cn3 x y z).getD (if x < y then 1 else 0) 0 < (z : Int) := h
    show big3 x y z = 2
    unfold big3
    split at h'
    · have h2 : (y : Int) < (z : Int) := h'
      rw [if_neg (by omega), if_neg (by omega)]
    · have h2 : (x : Int) < (z : Int) := h'
      rw [if_neg (by omega), if_neg (by omega)]
theorem bst_old {x y z k : Nat} (h1 : 1 ≤ k) (hk : k < 3) (h : ¬ (cn3 x y z).getD (bst x y z k) 0 < (cn3 x y z).getD k 0) : bst x y z (k + 1) = bst x y z k := by
  match k, h1, hk with
  | 1, _, _ =>
    have h' : ¬ (x : Int) < (y : Int) := h
    simp [bst]; omega
  | 2, _, _ =>
    have h' : ¬ (cn3 x y z).getD (if x < y then 1 else 0) 0 < (z : Int) := h
    show big3 x y z = if x < y then 1 else 0
    unfold big3
    split at h'
    · have h2 : ¬ (y : Int) < (z : Int) := h'
      rw [if_neg (by omega), if_pos (by omega), if_pos (by assumption)]
    · have h2 : ¬ (x : Int) < (z : Int) := h'
      rw [if_pos (by omega), if_neg (by assumption)]
/-- The row of counts when the first k of the sensors have been counted for the triple t. -/
def cntRow (x y z : Nat) (t : List Int) (q : Int) (k : Nat) : List Int :=
  cn3 (if 0 < k ∧ (agr t q).contains 0 = false then x + 1 else x) (if 1 < k ∧ (agr t q).contains 1 = false then y + 1 else y) (if 2 < k ∧ (agr t q).contains 2 = false then z + 1 else z)
theorem cntRow_zero (x y z : Nat) (t : List Int) (q : Int) : cntRow x y z t q 0 = cn3 x y z := by simp [cntRow]
theorem cntRow_len (x y z : Nat) (t : List Int) (q : Int) (k : Nat) : (cntRow x y z t q k).length = 3 := rfl
theorem cntRow_yes (x y z : Nat) (t : List Int) (q : Int) (k : Nat) (hk : k < 3) (h : (agr t q).contains (k : Int) = true) : cntRow x y z t q (k + 1) = cntRow x y z t q k := by
  match k, hk with
  | 0, _ => have h' : (agr t q).contains 0 = true := h
            unfold cntRow; rw [h']; simp
  | 1, _ => have h' : (agr t q).contains 1 = true := h
            unfold cntRow; rw [h']; simp
  | 2, _ => have h' : (agr t q).contains 2 = true := h
            unfold cntRow; rw [h']; simp
theorem cntRow_no (x y z : Nat) (t : List Int) (q : Int) (k : Nat) (hk : k < 3) (h : (agr t q).contains (k : Int) = false) : (cntRow x y z t q (k + 1)) = (cntRow x y z t q k).set k ((cntRow x y z t q k).getD k 0 + 1) := by
  match k, hk with
  | 0, _ => have h' : (agr t q).contains 0 = false := h
            unfold cntRow; rw [h']; simp [cn3]
  | 1, _ => have h' : (agr t q).contains 1 = false := h
            unfold cntRow; rw [h']; simp [cn3]
  | 2, _ => have h' : (agr t q).contains 2 = false := h
            unfold cntRow; rw [h']; simp [cn3]
theorem cntRow_three (ts : List (List Int)) (q : Int) (j : Nat) (hj : j < ts.length) : cntRow (strK ts q j 0) (strK ts q j 1) (strK ts q j 2) ts[j] q 3 = cn3 (strK ts q (j + 1) 0) (strK ts q (j + 1) 1) (strK ts q (j + 1) 2) := by
  have h0 := strK_yes ts q j 0 hj
  have h1 := strK_yes ts q j 1 hj
  have h2 := strK_yes ts q j 2 hj
  have g0 := strK_no ts q j 0 hj
  have g1 := strK_no ts q j 1 hj
  have g2 := strK_no ts q j 2 hj
  unfold cntRow
  congr 1
  · cases hc : (agr ts[j] q).contains 0
    · rw [g0 hc]; simp
    · rw [h0 hc]; simp
  · cases hc : (agr ts[j] q).contains 1
    · rw [g1 hc]; simp
    · rw [h1 hc]; simp
  · cases hc : (agr ts[j] q).contains 2
    · rw [g2 hc]; simp
    · rw [h2 hc]; simp
theorem cn3_in (ts : List (List Int)) (q : Int) (j k : Nat) (h20 : j ≤ 20) : 0 ≤ (cn3 (strK ts q j 0) (strK ts q j 1) (strK ts q j 2)).getD k 0 ∧ (cn3 (strK ts q j 0) (strK ts q j 1) (strK ts q j 2)).getD k 0 ≤ 20 := by
  have h0 := strK_le ts q j 0
  have h1 := strK_le ts q j 1
  have h2 := strK_le ts q j 2
  match k with
  | 0 => show 0 ≤ ((strK ts q j 0 : Nat) : Int) ∧ ((strK ts q j 0 : Nat) : Int) ≤ 20; omega
  | 1 => show 0 ≤ ((strK ts q j 1 : Nat) : Int) ∧ ((strK ts q j 1 : Nat) : Int) ≤ 20; omega
  | 2 => show 0 ≤ ((strK ts q j 2 : Nat) : Int) ∧ ((strK ts q j 2 : Nat) : Int) ≤ 20; omega
  | k + 3 => show 0 ≤ (0 : Int) ∧ (0 : Int) ≤ 20; omega
theorem cntRow_in {x y z : Nat} {t : List Int} {q : Int} {k i : Nat} (hx : x ≤ 20) (hy : y ≤ 20) (hz : z ≤ 20) : 0 ≤ (cntRow x y z t q k).getD i 0 ∧ (cntRow x y z t q k).getD i 0 ≤ 21 := by
  unfold cntRow cn3
  match i with
  | 0 => show 0 ≤ (((if 0 < k ∧ (agr t q).contains 0 = false then x + 1 else x) : Nat) : Int) ∧ (((if 0 < k ∧ (agr t q).contains 0 = false then x + 1 else x) : Nat) : Int) ≤ 21; split <;> omega
  | 1 => show 0 ≤ (((if 1 < k ∧ (agr t q).contains 1 = false then y + 1 else y) : Nat) : Int) ∧ (((if 1 < k ∧ (agr t q).contains 1 = false then y + 1 else y) : Nat) : Int) ≤ 21; split <;> omega
  | 2 => show 0 ≤ (((if 2 < k ∧ (agr t q).contains 2 = false then z + 1 else z) : Nat) : Int) ∧ (((if 2 < k ∧ (agr t q).contains 2 = false then z + 1 else z) : Nat) : Int) ≤ 21; split <;> omega
  | i + 3 => show 0 ≤ (0 : Int) ∧ (0 : Int) ≤ 21; omega
end Go.Proofs.Yteeljlpbijmhlaa
