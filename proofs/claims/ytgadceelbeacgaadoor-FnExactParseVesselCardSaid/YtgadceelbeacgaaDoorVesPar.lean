/- Chapter 3: the text of a vessel, split into words, as plain words. -/
import Derived.Test.YtgadceelbeacgaaDoorVesTx2
import Derived.Test.YtgadceelbeacgaaDoorWayPaM
namespace Go.Proofs.YtgadceelbeacgaaDoor
open Go.RowKit Go.PlainAid

def wDr : ByteArray := ⟨#[100, 114, 97, 117, 103, 104, 116]⟩
def kXx : ByteArray := ⟨#[120]⟩
/-- Length and width. -/
def wLW (l b : Int) : ByteArray := numB l ++ kXx ++ numB b
theorem vtxt_cat (i : Int) (s : ByteArray) (l b d : Int) (word : ByteArray) : vtxt i s l b d word = catB kSp [numB i, s, word, wLW l b, wDr, numB d] := by
  apply bytes_ext
  simp [vtxt, catB, kSp, wLW, wDr, kXx]
theorem words_V (i : Int) (s : ByteArray) (l b d : Int) (word : ByteArray) (hs : (32 : UInt8) ∉ s.data.toList) (hw : (32 : UInt8) ∉ word.data.toList) : parts (vtxt i s l b d word) 32 = [numB i, s, word, wLW l b, wDr, numB d] := by
  rw [vtxt_cat]
  have N := fun n => no_holds (numB n) 32 (num_no 32 (by decide) (by decide) n)
  have K : ∀ x : ByteArray, (32 : UInt8) ∉ x.data.toList → ¬ holdsB x 32 := fun x h => no_holds x 32 h
  have hlw : (32 : UInt8) ∉ (wLW l b).data.toList := by
    have h1 := num_no 32 (by decide) (by decide) l
    have h2 := num_no 32 (by decide) (by decide) b
    simp only [wLW, ByteArray.data_append, Array.toList_append, List.mem_append, not_or]
    exact ⟨⟨h1, by decide⟩, h2⟩
  exact parts_catB kSp 32 rfl (by decide) _ (by simp) (List.forall_mem_cons.2 ⟨N i, List.forall_mem_cons.2 ⟨K _ hs, List.forall_mem_cons.2 ⟨K _ hw, List.forall_mem_cons.2 ⟨K _ hlw, List.forall_mem_cons.2 ⟨K _ (by decide), List.forall_mem_cons.2 ⟨N d, by simp⟩⟩⟩⟩⟩⟩)
theorem sides_V (l b : Int) : parts (wLW l b) 120 = [numB l, numB b] := by
  have h1 := no_holds (numB l) 120 (num_no 120 (by decide) (by decide) l)
  have h2 := no_holds (numB b) 120 (num_no 120 (by decide) (by decide) b)
  have := parts_catB kXx 120 rfl (by decide) [numB l, numB b] (by simp) (List.forall_mem_cons.2 ⟨h1, List.forall_mem_cons.2 ⟨h2, by simp⟩⟩)
  rw [← this]
  congr 1
theorem kindB_inj {q q' : Int} (h : 1 ≤ q ∧ q ≤ 4) (h' : 1 ≤ q' ∧ q' ≤ 4) (e : kindB q = kindB q') : q = q' := by
  obtain rfl | rfl | rfl | rfl : q = 1 ∨ q = 2 ∨ q = 3 ∨ q = 4 := by omega
  all_goals obtain rfl | rfl | rfl | rfl : q' = 1 ∨ q' = 2 ∨ q' = 3 ∨ q' = 4 := by omega
  all_goals first | rfl | (exfalso; revert e; decide +kernel)
/-- Two good vessels of one text are one. -/
theorem vtxt_one {v v' : Ves} (hg : goodV v) (hg' : goodV v') (h : vtxt v.id v.name v.len v.wid v.dr (kindB v.kind) = vtxt v'.id v'.name v'.len v'.wid v'.dr (kindB v'.kind)) : v = v' := by
  have w1 := words_V v.id v.name v.len v.wid v.dr (kindB v.kind) (no_small hg.2.1 32 (by decide)) (kind_no _ 32 (by decide))
  have w2 := words_V v'.id v'.name v'.len v'.wid v'.dr (kindB v'.kind) (no_small hg'.2.1 32 (by decide)) (kind_no _ 32 (by decide))
  rw [h, w2] at w1
  obtain ⟨e1, e2, e3, e4, -, e6⟩ : numB v'.id = numB v.id ∧ v'.name = v.name ∧ kindB v'.kind = kindB v.kind ∧ wLW v'.len v'.wid = wLW v.len v.wid ∧ True ∧ numB v'.dr = numB v.dr := by
    simp only [List.cons.injEq] at w1
    exact ⟨w1.1, w1.2.1, w1.2.2.1, w1.2.2.2.1, trivial, w1.2.2.2.2.2.1⟩
  have s1 := sides_V v.len v.wid
  have s2 := sides_V v'.len v'.wid
  rw [e4, s1] at s2
  simp only [List.cons.injEq] at s2
  obtain ⟨i, s, l, b, d, q⟩ := v
  obtain ⟨i', s', l', b', d', q'⟩ := v'
  have h1 := numB_inj _ _ e1
  have h3 := kindB_inj hg'.2.2.2.2.2 hg.2.2.2.2.2 e3
  have h4 := numB_inj _ _ s2.1
  have h5 := numB_inj _ _ s2.2.1
  have h6 := numB_inj _ _ e6
  dsimp only at h1 e2 h3 h4 h5 h6
  rw [h1, e2, h3, h4, h5, h6]
end Go.Proofs.YtgadceelbeacgaaDoor
