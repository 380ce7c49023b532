/- Texts that are joined: SplitM, PartsC, VesTxI. -/
import Derived.Test.YtliebicnejbheabGreatDoorMg23
import Derived.Test.YtliebicnejbheabGreatDoorMg22
/- Plain words on splitting a string at a byte. -/
namespace Go.Proofs.YtliebicnejbheabGreatDoor
open Go.RowKit Go.PlainAid

/-- What has been cut off before place k, and where the next part begins. -/
def spl (s : ByteArray) (v : Int) : Nat → List ByteArray × Nat
  | 0 => ([], 0)
  | k + 1 => if bt s k = v then ((spl s v k).1 ++ [s.extract (spl s v k).2 k], k + 1) else spl s v k
theorem spl_hit {s : ByteArray} {v : Int} {k : Nat} (h : bt s k = v) : spl s v (k + 1) = ((spl s v k).1 ++ [s.extract (spl s v k).2 k], k + 1) := by simp [spl, h]
theorem spl_miss {s : ByteArray} {v : Int} {k : Nat} (h : bt s k ≠ v) : spl s v (k + 1) = spl s v k := by simp [spl, h]
theorem spl_le (s : ByteArray) (v : Int) (k : Nat) : (spl s v k).2 ≤ k ∧ (spl s v k).1.length ≤ k := by
  induction k with
  | zero => exact ⟨Nat.le_refl _, Nat.le_refl _⟩
  | succ k ih =>
    by_cases h : bt s k = v
    · rw [spl_hit h]; simp; omega
    · rw [spl_miss h]; omega
/-- All parts. -/
def parts (s : ByteArray) (v : Int) : List ByteArray := (spl s v s.size).1 ++ [s.extract (spl s v s.size).2 s.size]
theorem parts_len (s : ByteArray) (v : Int) : (parts s v).length ≤ s.size + 1 := by
  have := (spl_le s v s.size).2
  simp [parts]; omega

theorem ext_list {a b : ByteArray} (h : a.data.toList = b.data.toList) : a = b := ByteArray.ext (Array.ext' h)
theorem extract_list (s : ByteArray) (a b : Nat) : (s.extract a b).data.toList = (s.data.toList.drop a).take (b - a) := by simp
theorem bt_list (s : ByteArray) (j : Nat) (h : j < s.size) : bt s j = ((s.data.toList[j]'(by simpa using h)).toNat : Int) := (get_bt s j h).symm
theorem bt_extract (s : ByteArray) (a b j : Nat) (hb : b ≤ s.size) (hj : a + j < b) : bt (s.extract a b) j = bt s (a + j) := by
  have h1 : j < (s.extract a b).size := by rw [ByteArray.size_extract]; omega
  rw [bt_list _ j h1, bt_list s (a + j) (by omega)]
  simp only [extract_list, List.getElem_take, List.getElem_drop]
theorem extract_size (s : ByteArray) (a b : Nat) (hb : b ≤ s.size) : (s.extract a b).size = b - a := by rw [ByteArray.size_extract]; omega
theorem spl_clean (s : ByteArray) (v : Int) (k : Nat) (hk : k ≤ s.size) : (∀ p ∈ (spl s v k).1, ¬ holdsB p v) ∧ ∀ j, (spl s v k).2 ≤ j → j < k → bt s j ≠ v := by
  induction k with
  | zero => exact ⟨fun p hp => by simp [spl] at hp, fun j _ hj => absurd hj (by omega)⟩
  | succ k ih =>
    obtain ⟨h1, h2⟩ := ih (by omega)
    by_cases h : bt s k = v
    · rw [spl_hit h]
      refine ⟨fun p hp => ?_, fun j a b => absurd b (by simp at a; omega)⟩
      rcases List.mem_append.1 hp with hp | hp
      · exact h1 p hp
      · have : p = s.extract (spl s v k).2 k := by simpa using hp
        subst this
        rintro ⟨j, hj, e⟩
        rw [extract_size s _ _ (by omega)] at hj
        rw [bt_extract s _ _ _ (by omega) (by omega)] at e
        exact h2 _ (by omega) (by omega) e
    · rw [spl_miss h]
      refine ⟨h1, fun j a b => ?_⟩
      by_cases e : j = k
      · subst e; exact h
      · exact h2 j a (by omega)
/-- No part holds the byte at which it was cut. -/
theorem parts_clean (s : ByteArray) (v : Int) : ∀ p ∈ parts s v, ¬ holdsB p v := by
  obtain ⟨h1, h2⟩ := spl_clean s v s.size (Nat.le_refl _)
  intro p hp
  rcases List.mem_append.1 hp with hp | hp
  · exact h1 p hp
  · have : p = s.extract (spl s v s.size).2 s.size := by simpa using hp
    subst this
    rintro ⟨j, hj, e⟩
    rw [extract_size s _ _ (Nat.le_refl _)] at hj
    rw [bt_extract s _ _ _ (Nat.le_refl _) (by omega)] at e
    exact h2 _ (by omega) (by omega) e
theorem catB_last (sep : ByteArray) (l : List ByteArray) (x y : ByteArray) : catB sep (l ++ [x ++ y]) = catB sep (l ++ [x]) ++ y := by
  rw [catB_snoc, catB_snoc]
  by_cases h : l = []
  · simp [h]
  · simp only [h, if_false, ByteArray.append_assoc]
theorem extract_add (s : ByteArray) (a b c : Nat) (h1 : a ≤ b) (h2 : b ≤ c) : s.extract a c = s.extract a b ++ s.extract b c := by
  apply ext_list
  simp only [ByteArray.data_append, Array.toList_append, extract_list]
  have e : c - a = (b - a) + (c - b) := by omega
  rw [e, List.take_add, List.drop_drop, show a + (b - a) = b by omega]
theorem extract_one (s sep : ByteArray) (k : Nat) (hk : k < s.size) (h1 : sep.size = 1) (h : bt s k = bt sep 0) : s.extract k (k + 1) = sep := by
  apply ext_list
  apply List.ext_getElem
  · have := extract_size s k (k + 1) (by omega)
    simp at this ⊢; omega
  · intro i hi1 hi2
    have hi : i = 0 := by
      have : sep.data.toList.length = sep.size := by simp
      omega
    subst hi
    have e1 := bt_list (s.extract k (k + 1)) 0 (by rw [extract_size s _ _ (by omega)]; omega)
    have e2 := bt_list sep 0 (by omega)
    rw [bt_extract s k (k + 1) 0 (by omega) (by omega), Nat.add_zero, h, e2] at e1
    apply UInt8.toNat_inj.1
    omega
theorem spl_join (s sep : ByteArray) (h1 : sep.size = 1) (k : Nat) (hk : k ≤ s.size) :
    catB sep ((spl s (bt sep 0) k).1 ++ [s.extract (spl s (bt sep 0) k).2 k]) = s.extract 0 k := by
  induction k with
  | zero => simp [spl, catB]
  | succ k ih =>
    have hle := (spl_le s (bt sep 0) k).1
    by_cases h : bt s k = bt sep 0
    · rw [spl_hit h, catB_snoc, if_neg (by simp), ih (by omega), extract_add s 0 k (k + 1) (by omega) (by omega), extract_one s sep k (by omega) h1 h]
      have e : s.extract (k + 1) (k + 1) = ⟨#[]⟩ := ext_list (by rw [extract_list]; simp)
      simp only [e]
      apply ext_list; simp
    · rw [spl_miss h, extract_add s (spl s (bt sep 0) k).2 k (k + 1) (by omega) (by omega), catB_last, ih (by omega), ← extract_add s 0 k (k + 1) (by omega) (by omega)]
/-- The parts joined again are the string. -/
theorem parts_join (s sep : ByteArray) (h1 : sep.size = 1) : catB sep (parts s (bt sep 0)) = s := by
  unfold parts
  rw [spl_join s sep h1 s.size (Nat.le_refl _)]
  apply ext_list; rw [extract_list]; simp
  exact List.take_of_length_le (by simp)
theorem parts_pos (s : ByteArray) (v : Int) : 0 < (parts s v).length := by simp [parts]
end Go.Proofs.YtliebicnejbheabGreatDoor

/- Splitting what was put together by a byte gives the parts back. -/
namespace Go.Proofs.YtliebicnejbheabGreatDoor
open Go.RowKit Go.PlainAid

theorem bt_left (a t : ByteArray) (k : Nat) (h : k < a.size) : bt (a ++ t) k = bt a k := by
  have h2 : k < (a ++ t).size := by rw [ByteArray.size_append]; omega
  rw [bt_list _ _ h2, bt_list _ _ h]
  simp only [ByteArray.data_append, Array.toList_append]
  rw [List.getElem_append_left]
theorem bt_right (a t : ByteArray) (k : Nat) (h : k < t.size) : bt (a ++ t) (a.size + k) = bt t k := by
  have h2 : a.size + k < (a ++ t).size := by rw [ByteArray.size_append]; omega
  rw [bt_list _ _ h2, bt_list _ _ h]
  simp only [ByteArray.data_append, Array.toList_append]
  rw [List.getElem_append_right (by simp)]
  congr 2
  simp
theorem extract_left (a t : ByteArray) (i k : Nat) (h : k ≤ a.size) : (a ++ t).extract i k = a.extract i k := by
  apply ext_list
  have hl : a.data.toList.length = a.size := by simp
  rw [extract_list, extract_list, ByteArray.data_append, Array.toList_append, List.drop_append, List.take_append]
  have e : k - i - (a.data.toList.drop i).length = 0 := by rw [List.length_drop]; omega
  rw [e]
  simp
theorem spl_left (a t : ByteArray) (v : Int) : ∀ k, k ≤ a.size → spl (a ++ t) v k = spl a v k
  | 0, _ => rfl
  | k + 1, h => by
    have ih := spl_left a t v k (by omega)
    simp only [spl, ih, bt_left a t k (by omega)]
    rw [extract_left a t _ k (by omega)]
theorem spl_still (s : ByteArray) (v : Int) (k : Nat) : ∀ d, (∀ j, k ≤ j → j < k + d → bt s j ≠ v) → spl s v (k + d) = spl s v k
  | 0, _ => rfl
  | d + 1, h => by
    rw [show k + (d + 1) = (k + d) + 1 by omega, spl_miss (h (k + d) (by omega) (by omega))]
    exact spl_still s v k d (fun j h1 h2 => h j h1 (by omega))
theorem parts_one (x : ByteArray) (v : Int) (h : ¬ holdsB x v) : parts x v = [x] := by
  have e : spl x v x.size = ([], 0) := by
    have := spl_still x v 0 x.size (fun j _ hj e => h ⟨j, by omega, e⟩)
    rw [Nat.zero_add] at this
    rw [this]
    rfl
  unfold parts
  rw [e]
  simp
theorem parts_snoc (a sep x : ByteArray) (v : Int) (h1 : sep.size = 1) (hv : bt sep 0 = v) (h : ¬ holdsB x v) : parts (a ++ sep ++ x) v = parts a v ++ [x] := by
  have hsz : (a ++ sep ++ x).size = a.size + 1 + x.size := by rw [ByteArray.size_append, ByteArray.size_append, h1]
  have e0 : spl (a ++ sep ++ x) v a.size = spl a v a.size := by
    rw [ByteArray.append_assoc]
    exact spl_left a _ v _ (Nat.le_refl _)
  have e1 : bt (a ++ sep ++ x) a.size = v := by
    rw [bt_left _ _ _ (by rw [ByteArray.size_append, h1]; omega)]
    have := bt_right a sep 0 (by omega)
    rw [Nat.add_zero] at this
    rw [this, hv]
  have e2 : spl (a ++ sep ++ x) v (a ++ sep ++ x).size = ((spl a v a.size).1 ++ [a.extract (spl a v a.size).2 a.size], a.size + 1) := by
    rw [hsz, spl_still _ v (a.size + 1) x.size (fun j h2 h3 e => h ⟨j - (a.size + 1), by omega, by
      have hs2 : (a ++ sep).size = a.size + 1 := by rw [ByteArray.size_append, h1]
      have := bt_right (a ++ sep) x (j - (a.size + 1)) (by omega)
      rw [hs2, show a.size + 1 + (j - (a.size + 1)) = j by omega] at this
      rw [← this, e]⟩), spl_hit e1, e0]
    rw [ByteArray.append_assoc, extract_left a _ _ _ (Nat.le_refl _)]
  have e3 : (a ++ sep ++ x).extract (a.size + 1) (a ++ sep ++ x).size = x := by
    apply ext_list
    have hl : (a ++ sep).data.toList.length = a.size + 1 := by
      have : (a ++ sep).size = a.size + 1 := by rw [ByteArray.size_append, h1]
      simpa using this
    rw [extract_list, hsz, ByteArray.data_append (l := a ++ sep), Array.toList_append, ← hl, List.drop_left]
    rw [List.take_of_length_le]
    have : x.data.toList.length = x.size := by simp
    rw [this]
    omega
  unfold parts
  rw [e2]
  show _ ++ [(a ++ sep ++ x).extract (a.size + 1) (a ++ sep ++ x).size] = _
  rw [e3]
theorem parts_cat (sep : ByteArray) (v : Int) (h1 : sep.size = 1) (hv : bt sep 0 = v) (x : ByteArray) (hx : ¬ holdsB x v) : ∀ l : List ByteArray, (∀ p ∈ l, ¬ holdsB p v) → parts (l.foldl (fun acc y => acc ++ sep ++ y) x) v = x :: l := by
  suffices H : ∀ (l : List ByteArray), (∀ p ∈ l, ¬ holdsB p v) → ∀ a : ByteArray, parts (l.foldl (fun acc y => acc ++ sep ++ y) a) v = parts a v ++ l by
    intro l hl
    rw [H l hl x, parts_one x v hx]
    rfl
  intro l
  induction l with
  | nil => intro _ a; simp
  | cons y t ih =>
    intro hl a
    rw [List.foldl_cons, ih (fun p hp => hl p (List.mem_cons_of_mem _ hp)), parts_snoc a sep y v h1 hv (hl y List.mem_cons_self)]
    simp
/-- The parts of what was put together are what was put together. -/
theorem parts_catB (sep : ByteArray) (v : Int) (h1 : sep.size = 1) (hv : bt sep 0 = v) (l : List ByteArray) (hn : l ≠ []) (hl : ∀ p ∈ l, ¬ holdsB p v) : parts (catB sep l) v = l := by
  cases l with
  | nil => exact absurd rfl hn
  | cons x t => exact parts_cat sep v h1 hv x (hl x List.mem_cons_self) t (fun p hp => hl p (List.mem_cons_of_mem _ hp))
end Go.Proofs.YtliebicnejbheabGreatDoor

/- Chapter 3: the text of a vessel, the program. -/
namespace Go.Proofs.YtliebicnejbheabGreatDoor
open Go.RowKit Go.PlainAid Go.Sort

theorem no_small {s : ByteArray} (h : goodN s) (c : UInt8) (hc : c.toNat < 97) : c ∉ s.data.toList := by
  intro hm
  obtain ⟨j, hj, e⟩ := List.mem_iff_getElem.1 hm
  have hj' : j < s.size := by simpa using hj
  have h1 := (h.2 j hj').1
  rw [bt_list s j hj', e] at h1
  omega
theorem kind_no (q : Int) (c : UInt8) (hc : c.toNat < 97) : c ∉ (kindB q).data.toList := by
  have H : ∀ x : UInt8, x ∈ ([98, 97, 114, 103, 101] ++ [116, 97, 110, 107, 101, 114] ++ [112, 97, 115, 115, 101, 110, 103, 101, 114] ++ [112, 108, 101, 97, 115, 117, 114, 101] : List UInt8) → 97 ≤ x.toNat := by decide
  intro hm
  have : 97 ≤ c.toNat := by
    apply H
    unfold kindB at hm
    simp only [List.mem_append]
    split at hm
    · exact .inl (.inl (.inl hm))
    · split at hm
      · exact .inl (.inl (.inr hm))
      · split at hm
        · exact .inl (.inr hm)
        · split at hm
          · exact .inr hm
          · simp at hm
  omega
theorem kind_size (q : Int) : (kindB q).size ≤ 10 := by
  unfold kindB
  split
  · decide
  · split
    · decide
    · split
      · decide
      · split <;> decide
/-- The form of the program. -/
def vform (s word : ByteArray) : ByteArray := ⟨#[63, 32]⟩ ++ s ++ ⟨#[32]⟩ ++ word ++ ⟨#[32, 63, 120, 63, 32, 100, 114, 97, 117, 103, 104, 116, 32, 63]⟩
def vDr : ByteArray := ⟨#[32, 100, 114, 97, 117, 103, 104, 116, 32]⟩
theorem vf0 (s word : ByteArray) : vform s word = (⟨#[]⟩ : ByteArray) ++ ⟨#[63]⟩ ++ (⟨#[32]⟩ ++ s ++ ⟨#[32]⟩ ++ word ++ ⟨#[32]⟩ ++ ⟨#[63]⟩ ++ ⟨#[120]⟩ ++ ⟨#[63]⟩ ++ vDr ++ ⟨#[63]⟩) := by
  apply bytes_ext
  simp [vform, vDr]
theorem vfill1 (i l b d : Int) (s word : ByteArray) : fillB (vform s word) [i, l, b, d] 1 = (numB i ++ ⟨#[32]⟩ ++ s ++ ⟨#[32]⟩ ++ word ++ ⟨#[32]⟩) ++ ⟨#[63]⟩ ++ (⟨#[120]⟩ ++ ⟨#[63]⟩ ++ vDr ++ ⟨#[63]⟩) := by
  rw [fillB_step _ _ 0 (by simp), show fillB (vform s word) [i, l, b, d] 0 = vform s word from rfl, vf0, repB_at _ _ _ (by decide)]
  apply bytes_ext
  simp
theorem vfill2 (i l b d : Int) {s word : ByteArray} (hs : (63 : UInt8) ∉ s.data.toList) (hw : (63 : UInt8) ∉ word.data.toList) : fillB (vform s word) [i, l, b, d] 2 = (numB i ++ ⟨#[32]⟩ ++ s ++ ⟨#[32]⟩ ++ word ++ ⟨#[32]⟩ ++ numB l ++ ⟨#[120]⟩) ++ ⟨#[63]⟩ ++ (vDr ++ ⟨#[63]⟩) := by
  rw [fillB_step _ _ 1 (by simp), vfill1, repB_at _ _ _ (by
    have h1 := noq i
    simp only [ByteArray.data_append, Array.toList_append, List.mem_append, not_or]
    exact ⟨⟨⟨⟨⟨h1, by decide⟩, hs⟩, by decide⟩, hw⟩, by decide⟩)]
  apply bytes_ext
  simp
theorem vfill3 (i l b d : Int) {s word : ByteArray} (hs : (63 : UInt8) ∉ s.data.toList) (hw : (63 : UInt8) ∉ word.data.toList) : fillB (vform s word) [i, l, b, d] 3 = (numB i ++ ⟨#[32]⟩ ++ s ++ ⟨#[32]⟩ ++ word ++ ⟨#[32]⟩ ++ numB l ++ ⟨#[120]⟩ ++ numB b ++ vDr) ++ ⟨#[63]⟩ ++ ⟨#[]⟩ := by
  rw [fillB_step _ _ 2 (by simp), vfill2 i l b d hs hw, repB_at _ _ _ (by
    have h1 := noq i
    have h2 := noq l
    simp only [ByteArray.data_append, Array.toList_append, List.mem_append, not_or]
    exact ⟨⟨⟨⟨⟨⟨⟨h1, by decide⟩, hs⟩, by decide⟩, hw⟩, by decide⟩, h2⟩, by decide⟩)]
  apply bytes_ext
  simp
theorem vfill4 (i l b d : Int) {s word : ByteArray} (hs : (63 : UInt8) ∉ s.data.toList) (hw : (63 : UInt8) ∉ word.data.toList) : fillB (vform s word) [i, l, b, d] 4 = vtxt i s l b d word := by
  rw [fillB_step _ _ 3 (by simp), vfill3 i l b d hs hw, repB_at _ _ _ (by
    have h1 := noq i
    have h2 := noq l
    have h3 := noq b
    simp only [ByteArray.data_append, Array.toList_append, List.mem_append, not_or]
    exact ⟨⟨⟨⟨⟨⟨⟨⟨⟨h1, by decide⟩, hs⟩, by decide⟩, hw⟩, by decide⟩, h2⟩, by decide⟩, h3⟩, by decide⟩)]
  apply bytes_ext
  simp [vtxt, vDr]
theorem vfill_small (i l b d : Int) {s word : ByteArray} (hi : 0 ≤ i ∧ i ≤ 1000) (hl : 0 ≤ l ∧ l ≤ 1000) (hb : 0 ≤ b ∧ b ≤ 1000) (hd : 0 ≤ d ∧ d ≤ 1000) (hs : (63 : UInt8) ∉ s.data.toList) (hw : (63 : UInt8) ∉ word.data.toList) (hz : s.size ≤ 10) (hzw : word.size ≤ 10) : ∀ k, k ≤ 4 → (fillB (vform s word) [i, l, b, d] k).size ≤ 1000 := by
  have n1 := numB_size i (by omega) (by omega)
  have n2 := numB_size l (by omega) (by omega)
  have n3 := numB_size b (by omega) (by omega)
  have n4 := numB_size d (by omega) (by omega)
  have z0 : (⟨#[]⟩ : ByteArray).size = 0 := rfl
  have z1 : (⟨#[32]⟩ : ByteArray).size = 1 := rfl
  have z2 : (⟨#[120]⟩ : ByteArray).size = 1 := rfl
  have z3 : (⟨#[32, 100, 114, 97, 117, 103, 104, 116, 32]⟩ : ByteArray).size = 9 := rfl
  have z4 : (⟨#[63]⟩ : ByteArray).size = 1 := rfl
  have z5 : vDr.size = 9 := rfl
  have z6 : (⟨#[63, 32]⟩ : ByteArray).size = 2 := rfl
  have z7 : (⟨#[32, 63, 120, 63, 32, 100, 114, 97, 117, 103, 104, 116, 32, 63]⟩ : ByteArray).size = 14 := rfl
  intro k hk
  match k, hk with
  | 0, _ => show (vform s word).size ≤ 1000; unfold vform; simp only [ByteArray.size_append]; omega
  | 1, _ => rw [vfill1]; simp only [ByteArray.size_append]; omega
  | 2, _ => rw [vfill2 i l b d hs hw]; simp only [ByteArray.size_append]; omega
  | 3, _ => rw [vfill3 i l b d hs hw]; simp only [ByteArray.size_append]; omega
  | 4, _ => rw [vfill4 i l b d hs hw]; unfold vtxt; simp only [ByteArray.size_append]; omega
end Go.Proofs.YtliebicnejbheabGreatDoor
