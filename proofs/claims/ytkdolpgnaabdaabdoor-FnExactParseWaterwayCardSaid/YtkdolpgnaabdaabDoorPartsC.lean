/- Splitting what was put together by a byte gives the parts back. -/
import Derived.Test.YtkdolpgnaabdaabDoorSplitM
namespace Go.Proofs.YtkdolpgnaabdaabDoor
open Go.RowKit Go.PlainAid

theorem bt_left (a t : ByteArray) (k : Nat) (h : k < a.size) : bt (a ++ t) k = bt a k := by
  have h2 : k < (a ++ t).size := by rw [ByteArray.size_append]; omega
  rw [bt_list _ _ h2, bt_list _ _ h]
  simp only [ByteArray.data_append, Array.toList_append]
  rw [List.getElem_append_left]
theorem bt_right (a t : ByteArray) (k : Nat) (h : k < t.size) : bt (a ++ t) (a.size + k) = bt t k := by
  have h2 : a.size + k < (a ++ t).size := by rw [ByteArray.size_append]; omega
  rw [bt_list _ _ h2, bt_list _ _ h]
  simp only [ByteArray.data_append, Array.toList_append]
  rw [List.getElem_append_right (by simp)]
  congr 2
  simp
theorem extract_left (a t : ByteArray) (i k : Nat) (h : k ≤ a.size) : (a ++ t).extract i k = a.extract i k := by
  apply ext_list
  have hl : a.data.toList.length = a.size := by simp
  rw [extract_list, extract_list, ByteArray.data_append, Array.toList_append, List.drop_append, List.take_append]
  have e : k - i - (a.data.toList.drop i).length = 0 := by rw [List.length_drop]; omega
  rw [e]
  simp
theorem spl_left (a t : ByteArray) (v : Int) : ∀ k, k ≤ a.size → spl (a ++ t) v k = spl a v k
  | 0, _ => rfl
  | k + 1, h => by
    have ih := spl_left a t v k (by omega)
    simp only [spl, ih, bt_left a t k (by omega)]
    rw [extract_left a t _ k (by omega)]
theorem spl_still (s : ByteArray) (v : Int) (k : Nat) : ∀ d, (∀ j, k ≤ j → j < k + d → bt s j ≠ v) → spl s v (k + d) = spl s v k
  | 0, _ => rfl
  | d + 1, h => by
    rw [show k + (d + 1) = (k + d) + 1 by omega, spl_miss (h (k + d) (by omega) (by omega))]
    exact spl_still s v k d (fun j h1 h2 => h j h1 (by omega))
theorem parts_one (x : ByteArray) (v : Int) (h : ¬ holdsB x v) : parts x v = [x] := by
  have e : spl x v x.size = ([], 0) := by
    have := spl_still x v 0 x.size (fun j _ hj e => h ⟨j, by omega, e⟩)
    rw [Nat.zero_add] at this
    rw [this]
    rfl
  unfold parts
  rw [e]
  simp
theorem parts_snoc (a sep x : ByteArray) (v : Int) (h1 : sep.size = 1) (hv : bt sep 0 = v) (h : ¬ holdsB x v) : parts (a ++ sep ++ x) v = parts a v ++ [x] := by
  have hsz : (a ++ sep ++ x).size = a.size + 1 + x.size := by rw [ByteArray.size_append, ByteArray.size_append, h1]
  have e0 : spl (a ++ sep ++ x) v a.size = spl a v a.size := by
    rw [ByteArray.append_assoc]
    exact spl_left a _ v _ (Nat.le_refl _)
  have e1 : bt (a ++ sep ++ x) a.size = v := by
    rw [bt_left _ _ _ (by rw [ByteArray.size_append, h1]; omega)]
    have := bt_right a sep 0 (by omega)
    rw [Nat.add_zero] at this
    rw [this, hv]
  have e2 : spl (a ++ sep ++ x) v (a ++ sep ++ x).size = ((spl a v a.size).1 ++ [a.extract (spl a v a.size).2 a.size], a.size + 1) := by
    rw [hsz, spl_still _ v (a.size + 1) x.size (fun j h2 h3 e => h ⟨j - (a.size + 1), by omega, by
      have hs2 : (a ++ sep).size = a.size + 1 := by rw [ByteArray.size_append, h1]
      have := bt_right (a ++ sep) x (j - (a.size + 1)) (by omega)
      rw [hs2, show a.size + 1 + (j - (a.size + 1)) = j by omega] at this
      rw [← this, e]⟩), spl_hit e1, e0]
    rw [ByteArray.append_assoc, extract_left a _ _ _ (Nat.le_refl _)]
  have e3 : (a ++ sep ++ x).extract (a.size + 1) (a ++ sep ++ x).size = x := by
    apply ext_list
    have hl : (a ++ sep).data.toList.length = a.size + 1 := by
      have : (a ++ sep).size = a.size + 1 := by rw [ByteArray.size_append, h1]
      simpa using this
    rw [extract_list, hsz, ByteArray.data_append (l := a ++ sep), Array.toList_append, ← hl, List.drop_left]
    rw [List.take_of_length_le]
    have : x.data.toList.length = x.size := by simp
    rw [this]
    omega
  unfold parts
  rw [e2]
  show _ ++ [(a ++ sep ++ x).extract (a.size + 1) (a ++ sep ++ x).size] = _
  rw [e3]
theorem parts_cat (sep : ByteArray) (v : Int) (h1 : sep.size = 1) (hv : bt sep 0 = v) (x : ByteArray) (hx : ¬ holdsB x v) : ∀ l : List ByteArray, (∀ p ∈ l, ¬ holdsB p v) → parts (l.foldl (fun acc y => acc ++ sep ++ y) x) v = x :: l := by
  suffices H : ∀ (l : List ByteArray), (∀ p ∈ l, ¬ holdsB p v) → ∀ a : ByteArray, parts (l.foldl (fun acc y => acc ++ sep ++ y) a) v = parts a v ++ l by
    intro l hl
    rw [H l hl x, parts_one x v hx]
    rfl
  intro l
  induction l with
  | nil => intro _ a; simp
  | cons y t ih =>
    intro hl a
    rw [List.foldl_cons, ih (fun p hp => hl p (List.mem_cons_of_mem _ hp)), parts_snoc a sep y v h1 hv (hl y List.mem_cons_self)]
    simp
/-- The parts of what was put together are what was put together. -/
theorem parts_catB (sep : ByteArray) (v : Int) (h1 : sep.size = 1) (hv : bt sep 0 = v) (l : List ByteArray) (hn : l ≠ []) (hl : ∀ p ∈ l, ¬ holdsB p v) : parts (catB sep l) v = l := by
  cases l with
  | nil => exact absurd rfl hn
  | cons x t => exact parts_cat sep v h1 hv x (hl x List.mem_cons_self) t (fun p hp => hl p (List.mem_cons_of_mem _ hp))
end Go.Proofs.YtkdolpgnaabdaabDoor
