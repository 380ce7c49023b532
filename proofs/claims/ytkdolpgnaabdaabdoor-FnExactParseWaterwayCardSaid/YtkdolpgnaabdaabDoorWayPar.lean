/- Chapter 2: the text of a waterway, split into lines and words. -/
import Derived.Test.YtkdolpgnaabdaabDoorTxt
import Derived.Test.YtkdolpgnaabdaabDoorWayTxt
import Derived.Test.YtkdolpgnaabdaabDoorPartsC
namespace Go.Proofs.YtkdolpgnaabdaabDoor
open Go.RowKit Go.PlainAid

theorem digits_no (c : UInt8) (hc : ∀ i : Fin 10, c ≠ UInt8.ofNat (48 + i.val)) (u : Nat) : c ∉ Lib.decDigits u := by
  induction u using Nat.strongRecOn with
  | _ u ih =>
    rw [Lib.decDigits]
    have one : ∀ x : Nat, x < 10 → c ≠ UInt8.ofNat (48 + x) := fun x hx => hc ⟨x, hx⟩
    split
    · next h => simpa using one u h
    · next h =>
      simp only [List.mem_append, List.mem_singleton, not_or]
      exact ⟨ih (u / 10) (by omega), one (u % 10) (by omega)⟩
theorem num_no (c : UInt8) (hc : ∀ i : Fin 10, c ≠ UInt8.ofNat (48 + i.val)) (h45 : c ≠ 45) (n : Int) : c ∉ (numB n).data.toList := by
  show c ∉ (Lib.itoa n).toArray.toList
  simp only
  unfold Lib.itoa
  split
  · simp only [List.mem_cons, not_or]
    exact ⟨h45, digits_no c hc _⟩
  · exact digits_no c hc _
theorem no_holds (x : ByteArray) (c : UInt8) (h : c ∉ x.data.toList) : ¬ holdsB x (c.toNat : Int) := by
  rintro ⟨k, hk, e⟩
  rw [bt_list x k hk] at e
  have hk' : k < x.data.toList.length := by simpa using hk
  have e2 : x.data.toList[k]'hk' = c := UInt8.toNat_inj.1 (by exact_mod_cast e)
  exact h (e2 ▸ List.getElem_mem hk')
def wReach : ByteArray := ⟨#[114, 101, 97, 99, 104]⟩
def wKm : ByteArray := ⟨#[107, 109]⟩
def wCm : ByteArray := ⟨#[99, 109]⟩
def wKmh : ByteArray := ⟨#[107, 109, 47, 104]⟩
def wLock : ByteArray := ⟨#[108, 111, 99, 107]⟩
def kSp : ByteArray := ⟨#[32]⟩
theorem lineR_cat (l d s : Int) : lineR l d s = catB kSp [wReach, numB l, wKm, numB d, wCm, numB s, wKmh] := by
  apply bytes_ext
  simp [lineR, catB, kReach, kKm, kCm, kKmh, wReach, wKm, wCm, wKmh, kSp]
theorem lineL_cat (z : Int) : lineL z = catB kSp [wLock, numB z] := by
  apply bytes_ext
  simp [lineL, catB, kLock, wLock, kSp]
theorem words_R (l d s : Int) : parts (lineR l d s) 32 = [wReach, numB l, wKm, numB d, wCm, numB s, wKmh] := by
  rw [lineR_cat]
  have N := fun n => no_holds (numB n) 32 (num_no 32 (by decide) (by decide) n)
  have K : ∀ x : ByteArray, (32 : UInt8) ∉ x.data.toList → ¬ holdsB x 32 := fun x h => no_holds x 32 h
  exact parts_catB kSp 32 rfl (by decide) _ (by simp) (List.forall_mem_cons.2 ⟨K _ (by decide), List.forall_mem_cons.2 ⟨N l, List.forall_mem_cons.2 ⟨K _ (by decide), List.forall_mem_cons.2 ⟨N d, List.forall_mem_cons.2 ⟨K _ (by decide), List.forall_mem_cons.2 ⟨N s, List.forall_mem_cons.2 ⟨K _ (by decide), by simp⟩⟩⟩⟩⟩⟩⟩)
theorem words_L (z : Int) : parts (lineL z) 32 = [wLock, numB z] := by
  rw [lineL_cat]
  have N := fun n => no_holds (numB n) 32 (num_no 32 (by decide) (by decide) n)
  have K : ∀ x : ByteArray, (32 : UInt8) ∉ x.data.toList → ¬ holdsB x 32 := fun x h => no_holds x 32 h
  exact parts_catB kSp 32 rfl (by decide) _ (by simp) (List.forall_mem_cons.2 ⟨K _ (by decide), List.forall_mem_cons.2 ⟨N z, by simp⟩⟩)
theorem no_nl_R (l d s : Int) : ¬ holdsB (lineR l d s) 10 := by
  refine no_holds _ 10 ?_
  have N := fun n => num_no 10 (by decide) (by decide) n
  have n1 := N l
  have n2 := N d
  have n3 := N s
  simp only [lineR, ByteArray.data_append, Array.toList_append, List.mem_append, not_or]
  exact ⟨⟨⟨⟨⟨⟨by decide, n1⟩, by decide⟩, n2⟩, by decide⟩, n3⟩, by decide⟩
theorem no_nl_L (z : Int) : ¬ holdsB (lineL z) 10 := by
  refine no_holds _ 10 ?_
  have n1 := num_no 10 (by decide) (by decide) z
  simp only [lineL, ByteArray.data_append, Array.toList_append, List.mem_append, not_or]
  exact ⟨by decide, n1⟩
/-- The lines of the first k reaches and the locks between them. -/
def lines (rs : List (Int × Int × Int)) (zs : List Int) : Nat → List ByteArray
  | 0 => []
  | k + 1 => (if k = 0 then lines rs zs k else lines rs zs k ++ [lineL (zs.getD (k - 1) 0)]) ++ [lineR (rs.getD k (0, 0, 0)).1 (rs.getD k (0, 0, 0)).2.1 (rs.getD k (0, 0, 0)).2.2]
theorem lines_len (rs : List (Int × Int × Int)) (zs : List Int) : ∀ k, (lines rs zs (k + 1)).length = 2 * k + 1
  | 0 => by simp [lines]
  | k + 1 => by
    have ih := lines_len rs zs k
    rw [lines, if_neg (by omega), List.length_append, List.length_append, ih]
    simp
    omega
theorem parts_nl (a : ByteArray) : parts (a ++ kNl) 10 = parts a 10 ++ [⟨#[]⟩] := by
  have := parts_snoc a kNl ⟨#[]⟩ 10 rfl (by decide) (by rintro ⟨k, hk, -⟩; exact Nat.not_lt_zero k hk)
  rwa [show a ++ kNl ++ (⟨#[]⟩ : ByteArray) = a ++ kNl from bytes_ext (by simp)] at this
/-- The text's lines, without the last newline. -/
theorem txt_lines (rs : List (Int × Int × Int)) (zs : List Int) : ∀ k, ∃ b, txt rs zs (k + 1) = b ++ kNl ∧ parts b 10 = lines rs zs (k + 1)
  | 0 => by
    refine ⟨lineR (rs.getD 0 (0, 0, 0)).1 (rs.getD 0 (0, 0, 0)).2.1 (rs.getD 0 (0, 0, 0)).2.2, ?_, ?_⟩
    · rw [txt, if_pos rfl]
      apply bytes_ext
      simp [txt]
    · rw [parts_one _ 10 (no_nl_R _ _ _), lines, if_pos rfl]
      rfl
  | k + 1 => by
    obtain ⟨b, hb, hp⟩ := txt_lines rs zs k
    refine ⟨b ++ kNl ++ lineL (zs.getD k 0) ++ kNl ++ lineR (rs.getD (k + 1) (0, 0, 0)).1 (rs.getD (k + 1) (0, 0, 0)).2.1 (rs.getD (k + 1) (0, 0, 0)).2.2, ?_, ?_⟩
    · rw [txt, if_neg (by omega), hb]
      apply bytes_ext
      simp
    · rw [parts_snoc _ kNl _ 10 rfl (by decide) (no_nl_R _ _ _), parts_snoc _ kNl _ 10 rfl (by decide) (no_nl_L _), hp]
      rw [lines.eq_2 rs zs (k + 1), if_neg (by omega)]
      simp
/-- The text split by newlines. -/
theorem parts_txt (rs : List (Int × Int × Int)) (zs : List Int) (k : Nat) : parts (txt rs zs (k + 1)) 10 = lines rs zs (k + 1) ++ [⟨#[]⟩] := by
  obtain ⟨b, hb, hp⟩ := txt_lines rs zs k
  rw [hb, parts_nl, hp]
theorem lines_even (rs : List (Int × Int × Int)) (zs : List Int) : ∀ k j, j ≤ k → (lines rs zs (k + 1))[2 * j]? = some (lineR (rs.getD j (0, 0, 0)).1 (rs.getD j (0, 0, 0)).2.1 (rs.getD j (0, 0, 0)).2.2)
  | 0, j, h => by
    obtain rfl : j = 0 := by omega
    simp [lines]
  | k + 1, j, h => by
    have hl := lines_len rs zs k
    rw [lines.eq_2 rs zs (k + 1), if_neg (by omega)]
    by_cases hj : j ≤ k
    · rw [List.getElem?_append_left (by rw [List.length_append, hl]; omega), List.getElem?_append_left (by omega)]
      exact lines_even rs zs k j hj
    · obtain rfl : j = k + 1 := by omega
      rw [List.getElem?_append_right (by rw [List.length_append, hl, List.length_singleton]; omega), List.length_append, hl]
      simp
      rw [show 2 * (k + 1) - (2 * k + 1 + 1) = 0 by omega]
      rfl
theorem lines_odd (rs : List (Int × Int × Int)) (zs : List Int) : ∀ k j, j < k → (lines rs zs (k + 1))[2 * j + 1]? = some (lineL (zs.getD j 0))
  | 0, j, h => absurd h (by omega)
  | k + 1, j, h => by
    have hl := lines_len rs zs k
    rw [lines.eq_2 rs zs (k + 1), if_neg (by omega)]
    by_cases hj : j < k
    · rw [List.getElem?_append_left (by rw [List.length_append, hl]; omega), List.getElem?_append_left (by omega)]
      exact lines_odd rs zs k j hj
    · obtain rfl : j = k := by omega
      rw [List.getElem?_append_left (by rw [List.length_append, hl, List.length_singleton]; omega), List.getElem?_append_right (by omega), hl]
      rw [show 2 * j + 1 - (2 * j + 1) = 0 by omega]
      rfl
end Go.Proofs.YtkdolpgnaabdaabDoor
