/- Chapter 3: the text of a vessel, the program. -/
import Derived.Test.YtgadceelbeacgaaDoorVesTx
import Derived.Test.YtgadceelbeacgaaDoorWayFil
import Derived.Test.YtgadceelbeacgaaDoorPartsC
namespace Go.Proofs.YtgadceelbeacgaaDoor
open Go.RowKit Go.PlainAid Go.Sort

theorem no_small {s : ByteArray} (h : goodN s) (c : UInt8) (hc : c.toNat < 97) : c ∉ s.data.toList := by
  intro hm
  obtain ⟨j, hj, e⟩ := List.mem_iff_getElem.1 hm
  have hj' : j < s.size := by simpa using hj
  have h1 := (h.2 j hj').1
  rw [bt_list s j hj', e] at h1
  omega
theorem kind_no (q : Int) (c : UInt8) (hc : c.toNat < 97) : c ∉ (kindB q).data.toList := by
  have H : ∀ x : UInt8, x ∈ ([98, 97, 114, 103, 101] ++ [116, 97, 110, 107, 101, 114] ++ [112, 97, 115, 115, 101, 110, 103, 101, 114] ++ [112, 108, 101, 97, 115, 117, 114, 101] : List UInt8) → 97 ≤ x.toNat := by decide
  intro hm
  have : 97 ≤ c.toNat := by
    apply H
    unfold kindB at hm
    simp only [List.mem_append]
    split at hm
    · exact .inl (.inl (.inl hm))
    · split at hm
      · exact .inl (.inl (.inr hm))
      · split at hm
        · exact .inl (.inr hm)
        · split at hm
          · exact .inr hm
          · simp at hm
  omega
theorem kind_size (q : Int) : (kindB q).size ≤ 10 := by
  unfold kindB
  split
  · decide
  · split
    · decide
    · split
      · decide
      · split <;> decide
/-- The form of the program. -/
def vform (s word : ByteArray) : ByteArray := ⟨#[63, 32]⟩ ++ s ++ ⟨#[32]⟩ ++ word ++ ⟨#[32, 63, 120, 63, 32, 100, 114, 97, 117, 103, 104, 116, 32, 63]⟩
def vDr : ByteArray := ⟨#[32, 100, 114, 97, 117, 103, 104, 116, 32]⟩
theorem vf0 (s word : ByteArray) : vform s word = (⟨#[]⟩ : ByteArray) ++ ⟨#[63]⟩ ++ (⟨#[32]⟩ ++ s ++ ⟨#[32]⟩ ++ word ++ ⟨#[32]⟩ ++ ⟨#[63]⟩ ++ ⟨#[120]⟩ ++ ⟨#[63]⟩ ++ vDr ++ ⟨#[63]⟩) := by
  apply bytes_ext
  simp [vform, vDr]
theorem vfill1 (i l b d : Int) (s word : ByteArray) : fillB (vform s word) [i, l, b, d] 1 = (numB i ++ ⟨#[32]⟩ ++ s ++ ⟨#[32]⟩ ++ word ++ ⟨#[32]⟩) ++ ⟨#[63]⟩ ++ (⟨#[120]⟩ ++ ⟨#[63]⟩ ++ vDr ++ ⟨#[63]⟩) := by
  rw [fillB_step _ _ 0 (by simp), show fillB (vform s word) [i, l, b, d] 0 = vform s word from rfl, vf0, repB_at _ _ _ (by decide)]
  apply bytes_ext
  simp
theorem vfill2 (i l b d : Int) {s word : ByteArray} (hs : (63 : UInt8) ∉ s.data.toList) (hw : (63 : UInt8) ∉ word.data.toList) : fillB (vform s word) [i, l, b, d] 2 = (numB i ++ ⟨#[32]⟩ ++ s ++ ⟨#[32]⟩ ++ word ++ ⟨#[32]⟩ ++ numB l ++ ⟨#[120]⟩) ++ ⟨#[63]⟩ ++ (vDr ++ ⟨#[63]⟩) := by
  rw [fillB_step _ _ 1 (by simp), vfill1, repB_at _ _ _ (by
    have h1 := noq i
    simp only [ByteArray.data_append, Array.toList_append, List.mem_append, not_or]
    exact ⟨⟨⟨⟨⟨h1, by decide⟩, hs⟩, by decide⟩, hw⟩, by decide⟩)]
  apply bytes_ext
  simp
theorem vfill3 (i l b d : Int) {s word : ByteArray} (hs : (63 : UInt8) ∉ s.data.toList) (hw : (63 : UInt8) ∉ word.data.toList) : fillB (vform s word) [i, l, b, d] 3 = (numB i ++ ⟨#[32]⟩ ++ s ++ ⟨#[32]⟩ ++ word ++ ⟨#[32]⟩ ++ numB l ++ ⟨#[120]⟩ ++ numB b ++ vDr) ++ ⟨#[63]⟩ ++ ⟨#[]⟩ := by
  rw [fillB_step _ _ 2 (by simp), vfill2 i l b d hs hw, repB_at _ _ _ (by
    have h1 := noq i
    have h2 := noq l
    simp only [ByteArray.data_append, Array.toList_append, List.mem_append, not_or]
    exact ⟨⟨⟨⟨⟨⟨⟨h1, by decide⟩, hs⟩, by decide⟩, hw⟩, by decide⟩, h2⟩, by decide⟩)]
  apply bytes_ext
  simp
theorem vfill4 (i l b d : Int) {s word : ByteArray} (hs : (63 : UInt8) ∉ s.data.toList) (hw : (63 : UInt8) ∉ word.data.toList) : fillB (vform s word) [i, l, b, d] 4 = vtxt i s l b d word := by
  rw [fillB_step _ _ 3 (by simp), vfill3 i l b d hs hw, repB_at _ _ _ (by
    have h1 := noq i
    have h2 := noq l
    have h3 := noq b
    simp only [ByteArray.data_append, Array.toList_append, List.mem_append, not_or]
    exact ⟨⟨⟨⟨⟨⟨⟨⟨⟨h1, by decide⟩, hs⟩, by decide⟩, hw⟩, by decide⟩, h2⟩, by decide⟩, h3⟩, by decide⟩)]
  apply bytes_ext
  simp [vtxt, vDr]
theorem vfill_small (i l b d : Int) {s word : ByteArray} (hi : 0 ≤ i ∧ i ≤ 1000) (hl : 0 ≤ l ∧ l ≤ 1000) (hb : 0 ≤ b ∧ b ≤ 1000) (hd : 0 ≤ d ∧ d ≤ 1000) (hs : (63 : UInt8) ∉ s.data.toList) (hw : (63 : UInt8) ∉ word.data.toList) (hz : s.size ≤ 10) (hzw : word.size ≤ 10) : ∀ k, k ≤ 4 → (fillB (vform s word) [i, l, b, d] k).size ≤ 1000 := by
  have n1 := numB_size i (by omega) (by omega)
  have n2 := numB_size l (by omega) (by omega)
  have n3 := numB_size b (by omega) (by omega)
  have n4 := numB_size d (by omega) (by omega)
  have z0 : (⟨#[]⟩ : ByteArray).size = 0 := rfl
  have z1 : (⟨#[32]⟩ : ByteArray).size = 1 := rfl
  have z2 : (⟨#[120]⟩ : ByteArray).size = 1 := rfl
  have z3 : (⟨#[32, 100, 114, 97, 117, 103, 104, 116, 32]⟩ : ByteArray).size = 9 := rfl
  have z4 : (⟨#[63]⟩ : ByteArray).size = 1 := rfl
  have z5 : vDr.size = 9 := rfl
  have z6 : (⟨#[63, 32]⟩ : ByteArray).size = 2 := rfl
  have z7 : (⟨#[32, 63, 120, 63, 32, 100, 114, 97, 117, 103, 104, 116, 32, 63]⟩ : ByteArray).size = 14 := rfl
  intro k hk
  match k, hk with
  | 0, _ => show (vform s word).size ≤ 1000; unfold vform; simp only [ByteArray.size_append]; omega
  | 1, _ => rw [vfill1]; simp only [ByteArray.size_append]; omega
  | 2, _ => rw [vfill2 i l b d hs hw]; simp only [ByteArray.size_append]; omega
  | 3, _ => rw [vfill3 i l b d hs hw]; simp only [ByteArray.size_append]; omega
  | 4, _ => rw [vfill4 i l b d hs hw]; unfold vtxt; simp only [ByteArray.size_append]; omega
end Go.Proofs.YtgadceelbeacgaaDoor
