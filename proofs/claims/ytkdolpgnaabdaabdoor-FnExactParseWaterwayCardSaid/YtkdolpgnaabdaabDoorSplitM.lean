/- Plain words on splitting a string at a byte. -/
import Derived.Test.YtkdolpgnaabdaabDoorJoinM
namespace Go.Proofs.YtkdolpgnaabdaabDoor
open Go.RowKit Go.PlainAid

/-- What has been cut off before place k, and where the next part begins. -/
def spl (s : ByteArray) (v : Int) : Nat → List ByteArray × Nat
  | 0 => ([], 0)
  | k + 1 => if bt s k = v then ((spl s v k).1 ++ [s.extract (spl s v k).2 k], k + 1) else spl s v k
theorem spl_hit {s : ByteArray} {v : Int} {k : Nat} (h : bt s k = v) : spl s v (k + 1) = ((spl s v k).1 ++ [s.extract (spl s v k).2 k], k + 1) := by simp [spl, h]
theorem spl_miss {s : ByteArray} {v : Int} {k : Nat} (h : bt s k ≠ v) : spl s v (k + 1) = spl s v k := by simp [spl, h]
theorem spl_le (s : ByteArray) (v : Int) (k : Nat) : (spl s v k).2 ≤ k ∧ (spl s v k).1.length ≤ k := by
  induction k with
  | zero => exact ⟨Nat.le_refl _, Nat.le_refl _⟩
  | succ k ih =>
    by_cases h : bt s k = v
    · rw [spl_hit h]; simp; omega
    · rw [spl_miss h]; omega
/-- All parts. -/
def parts (s : ByteArray) (v : Int) : List ByteArray := (spl s v s.size).1 ++ [s.extract (spl s v s.size).2 s.size]
theorem parts_len (s : ByteArray) (v : Int) : (parts s v).length ≤ s.size + 1 := by
  have := (spl_le s v s.size).2
  simp [parts]; omega

theorem ext_list {a b : ByteArray} (h : a.data.toList = b.data.toList) : a = b := ByteArray.ext (Array.ext' h)
theorem extract_list (s : ByteArray) (a b : Nat) : (s.extract a b).data.toList = (s.data.toList.drop a).take (b - a) := by simp
theorem bt_list (s : ByteArray) (j : Nat) (h : j < s.size) : bt s j = ((s.data.toList[j]'(by simpa using h)).toNat : Int) := (get_bt s j h).symm
theorem bt_extract (s : ByteArray) (a b j : Nat) (hb : b ≤ s.size) (hj : a + j < b) : bt (s.extract a b) j = bt s (a + j) := by
  have h1 : j < (s.extract a b).size := by rw [ByteArray.size_extract]; omega
  rw [bt_list _ j h1, bt_list s (a + j) (by omega)]
  simp only [extract_list, List.getElem_take, List.getElem_drop]
theorem extract_size (s : ByteArray) (a b : Nat) (hb : b ≤ s.size) : (s.extract a b).size = b - a := by rw [ByteArray.size_extract]; omega
theorem spl_clean (s : ByteArray) (v : Int) (k : Nat) (hk : k ≤ s.size) : (∀ p ∈ (spl s v k).1, ¬ holdsB p v) ∧ ∀ j, (spl s v k).2 ≤ j → j < k → bt s j ≠ v := by
  induction k with
  | zero => exact ⟨fun p hp => by simp [spl] at hp, fun j _ hj => absurd hj (by omega)⟩
  | succ k ih =>
    obtain ⟨h1, h2⟩ := ih (by omega)
    by_cases h : bt s k = v
    · rw [spl_hit h]
      refine ⟨fun p hp => ?_, fun j a b => absurd b (by simp at a; omega)⟩
      rcases List.mem_append.1 hp with hp | hp
      · exact h1 p hp
      · have : p = s.extract (spl s v k).2 k := by simpa using hp
        subst this
        rintro ⟨j, hj, e⟩
        rw [extract_size s _ _ (by omega)] at hj
        rw [bt_extract s _ _ _ (by omega) (by omega)] at e
        exact h2 _ (by omega) (by omega) e
    · rw [spl_miss h]
      refine ⟨h1, fun j a b => ?_⟩
      by_cases e : j = k
      · subst e; exact h
      · exact h2 j a (by omega)
/-- No part holds the byte at which it was cut. -/
theorem parts_clean (s : ByteArray) (v : Int) : ∀ p ∈ parts s v, ¬ holdsB p v := by
  obtain ⟨h1, h2⟩ := spl_clean s v s.size (Nat.le_refl _)
  intro p hp
  rcases List.mem_append.1 hp with hp | hp
  · exact h1 p hp
  · have : p = s.extract (spl s v s.size).2 s.size := by simpa using hp
    subst this
    rintro ⟨j, hj, e⟩
    rw [extract_size s _ _ (Nat.le_refl _)] at hj
    rw [bt_extract s _ _ _ (Nat.le_refl _) (by omega)] at e
    exact h2 _ (by omega) (by omega) e
theorem catB_last (sep : ByteArray) (l : List ByteArray) (x y : ByteArray) : catB sep (l ++ [x ++ y]) = catB sep (l ++ [x]) ++ y := by
  rw [catB_snoc, catB_snoc]
  by_cases h : l = []
  · simp [h]
  · simp only [h, if_false, ByteArray.append_assoc]
theorem extract_add (s : ByteArray) (a b c : Nat) (h1 : a ≤ b) (h2 : b ≤ c) : s.extract a c = s.extract a b ++ s.extract b c := by
  apply ext_list
  simp only [ByteArray.data_append, Array.toList_append, extract_list]
  have e : c - a = (b - a) + (c - b) := by omega
  rw [e, List.take_add, List.drop_drop, show a + (b - a) = b by omega]
theorem extract_one (s sep : ByteArray) (k : Nat) (hk : k < s.size) (h1 : sep.size = 1) (h : bt s k = bt sep 0) : s.extract k (k + 1) = sep := by
  apply ext_list
  apply List.ext_getElem
  · have := extract_size s k (k + 1) (by omega)
    simp at this ⊢; omega
  · intro i hi1 hi2
    have hi : i = 0 := by
      have : sep.data.toList.length = sep.size := by simp
      omega
    subst hi
    have e1 := bt_list (s.extract k (k + 1)) 0 (by rw [extract_size s _ _ (by omega)]; omega)
    have e2 := bt_list sep 0 (by omega)
    rw [bt_extract s k (k + 1) 0 (by omega) (by omega), Nat.add_zero, h, e2] at e1
    apply UInt8.toNat_inj.1
    omega
theorem spl_join (s sep : ByteArray) (h1 : sep.size = 1) (k : Nat) (hk : k ≤ s.size) :
    catB sep ((spl s (bt sep 0) k).1 ++ [s.extract (spl s (bt sep 0) k).2 k]) = s.extract 0 k := by
  induction k with
  | zero => simp [spl, catB]
  | succ k ih =>
    have hle := (spl_le s (bt sep 0) k).1
    by_cases h : bt s k = bt sep 0
    · rw [spl_hit h, catB_snoc, if_neg (by simp), ih (by omega), extract_add s 0 k (k + 1) (by omega) (by omega), extract_one s sep k (by omega) h1 h]
      have e : s.extract (k + 1) (k + 1) = ⟨#[]⟩ := ext_list (by rw [extract_list]; simp)
      simp only [e]
      apply ext_list; simp
    · rw [spl_miss h, extract_add s (spl s (bt sep 0) k).2 k (k + 1) (by omega) (by omega), catB_last, ih (by omega), ← extract_add s 0 k (k + 1) (by omega) (by omega)]
/-- The parts joined again are the string. -/
theorem parts_join (s sep : ByteArray) (h1 : sep.size = 1) : catB sep (parts s (bt sep 0)) = s := by
  unfold parts
  rw [spl_join s sep h1 s.size (Nat.le_refl _)]
  apply ext_list; rw [extract_list]; simp
  exact List.take_of_length_le (by simp)
theorem parts_pos (s : ByteArray) (v : Int) : 0 < (parts s v).length := by simp [parts]
end Go.Proofs.YtkdolpgnaabdaabDoor
