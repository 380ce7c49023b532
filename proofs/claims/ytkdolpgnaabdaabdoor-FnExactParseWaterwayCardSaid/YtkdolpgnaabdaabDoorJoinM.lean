/- Plain words on strings: which strings hold a byte, and what joining gives. -/
import Derived.Test.YtkdolpgnaabdaabDoorMem
import Derived.Lib.AppendStr
namespace Go.Proofs.YtkdolpgnaabdaabDoor
open Go.RowKit Go.PlainAid

/-- The string s holds the byte v. -/
def holdsB (s : ByteArray) (v : Int) : Prop := ∃ k, k < s.size ∧ bt s k = v
def catB (sep : ByteArray) : List ByteArray → ByteArray
  | [] => ByteArray.empty
  | x :: r => r.foldl (fun acc y => acc ++ sep ++ y) x
theorem catB_snoc (sep : ByteArray) (l : List ByteArray) (x : ByteArray) : catB sep (l ++ [x]) = if l = [] then x else catB sep l ++ sep ++ x := by
  cases l with
  | nil => rfl
  | cons a r => simp [catB, List.foldl_append]
theorem catB_zero (sep : ByteArray) (ss : List ByteArray) (h : 0 < ss.length) : catB sep (ss.take 1) = ss[0] := by
  cases ss with
  | nil => simp at h
  | cons a r => rfl
theorem catB_succ (sep : ByteArray) (ss : List ByteArray) (k : Nat) (hk : 0 < k) (h : k < ss.length) : catB sep (ss.take (k + 1)) = catB sep (ss.take k) ++ sep ++ ss[k] := by
  rw [List.take_succ_eq_append_getElem h, catB_snoc, if_neg]
  intro e
  have := congrArg List.length e
  rw [List.length_take, List.length_nil] at this
  omega
theorem catB_mono (sep : ByteArray) (ss : List ByteArray) (k : Nat) (h : k < ss.length) : (catB sep (ss.take k)).size ≤ (catB sep (ss.take (k + 1))).size := by
  by_cases hk : k = 0
  · subst hk; simp [catB]
  · rw [catB_succ sep ss k (by omega) h]; simp [ByteArray.size_append]; omega
theorem catB_le (sep : ByteArray) (ss : List ByteArray) : ∀ (d k : Nat), k + d = ss.length → (catB sep (ss.take k)).size ≤ (catB sep ss).size := by
  intro d
  induction d with
  | zero => intro k h; rw [List.take_of_length_le (by omega)]; exact Nat.le_refl _
  | succ d ih => intro k h; exact Nat.le_trans (catB_mono sep ss k (by omega)) (ih (k + 1) (by omega))
/-- What may be joined. -/
def goodJ (sep : ByteArray) (ss : List ByteArray) : Prop := sep.size = 1 ∧ ss ≠ [] ∧ (∀ s ∈ ss, ¬ holdsB s (bt sep 0)) ∧ (catB sep ss).size ≤ 4000
theorem nil_app (x : ByteArray) : (⟨#[]⟩ : ByteArray) ++ x = x := by
  apply ByteArray.ext
  simp
theorem strCells_app (a b : ByteArray) : Lib.strCells (a ++ b) = Lib.strCells a ++ Lib.strCells b := by
  simp [Lib.strCells]
theorem strCells_one (s : ByteArray) (h : s.size = 1) : Lib.strCells s = [Value.int .u8 (bt s 0)] := by
  have h0 : 0 < s.size := by omega
  rw [← get_bt s 0 h0]
  have hl : s.data.toList.length = 1 := by simpa using h
  obtain ⟨c, hc⟩ : ∃ c, s.data.toList = [c] := by
    match hq : s.data.toList, hl with
    | [c], _ => exact ⟨c, rfl⟩
  have he : s[0] = c := by
    have e1 : s[0] = s.data.toList[0]'(by rw [hl]; omega) := rfl
    rw [e1]
    simp [hc]
  rw [he, Lib.strCells, hc]
  rfl
theorem of_strCells (s : ByteArray) : (⟨(s.data.toList).toArray⟩ : ByteArray) = s := by
  apply ByteArray.ext; simp
end Go.Proofs.YtkdolpgnaabdaabDoor
