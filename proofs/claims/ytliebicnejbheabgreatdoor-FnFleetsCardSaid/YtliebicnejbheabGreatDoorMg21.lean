/- Texts that are joined: Txt. -/
import Derived.Test.YtliebicnejbheabGreatDoorMg20
import Derived.Test.YtliebicnejbheabGreatDoorMg17
import Derived.Lib.Replace
import Derived.Lib.SplitLaws
/- Chapter 2: the text of a waterway, as plain words; strings.Replace of one blank. -/
namespace Go.Proofs.YtliebicnejbheabGreatDoor
open Go.RowKit Go.PlainAid

theorem digits_noq (u : Nat) : (63 : UInt8) ∉ Lib.decDigits u := by
  induction u using Nat.strongRecOn with
  | _ u ih =>
    rw [Lib.decDigits]
    have one : ∀ x : Nat, x < 10 → (63 : UInt8) ≠ UInt8.ofNat (48 + x) := fun x hx => by
      have : ∀ i : Fin 10, (63 : UInt8) ≠ UInt8.ofNat (48 + i.val) := by decide
      exact this ⟨x, hx⟩
    split
    · next h => simpa using one u h
    · next h =>
      simp only [List.mem_append, List.mem_singleton, not_or]
      exact ⟨ih (u / 10) (by omega), one (u % 10) (by omega)⟩
/-- A number's text holds no blank. -/
theorem noq (n : Int) : (63 : UInt8) ∉ (numB n).data.toList := by
  show (63 : UInt8) ∉ (Lib.itoa n).toArray.toList
  simp only
  unfold Lib.itoa
  split
  · simp only [List.mem_cons, not_or]
    exact ⟨by decide, digits_noq _⟩
  · exact digits_noq _

theorem index_blank (pre post : List UInt8) (h : (63 : UInt8) ∉ pre) : Lib.index (pre ++ 63 :: post) [63] = (pre.length : Int) := by
  induction pre with
  | nil => simp [Lib.index]
  | cons b t ih =>
    have hb : b ≠ 63 := fun e => h (by simp [e])
    have ht : (63 : UInt8) ∉ t := fun e => h (by simp [e])
    have := ih ht
    rw [Lib.index_one] at this ⊢
    simp only [List.cons_append, Lib.indexByte]
    rw [this]
    have hbf : (b == 63) = false := by simpa using hb
    simp [hbf]
theorem replace_blank (pre post new : List UInt8) (h : (63 : UInt8) ∉ pre) (hn : (63 : UInt8) ∉ new) : Lib.replace (pre ++ 63 :: post) [63] new 1 = pre ++ new ++ post := by
  have hne : (([63] : List UInt8) == new) = false := by
    rw [beq_eq_false_iff_ne]
    intro e
    exact hn (by rw [← e]; simp)
  have hc : Lib.count (pre ++ 63 :: post) [63] ≠ 0 := by
    rw [Lib.count_one, List.count_append, List.count_cons_self]
    omega
  have hk : Lib.replaceNum (pre ++ 63 :: post) [63] 1 = 1 := by
    unfold Lib.replaceNum
    rw [if_neg (by omega)]
    rfl
  unfold Lib.replace
  rw [hne, hk]
  simp only [Bool.false_eq_true, if_false]
  rw [Lib.replaceK_hit _ _ _ _ _ (index_blank pre post h)]
  simp [Lib.replaceK]

/-- One blank filled. -/
def repB (s : ByteArray) (n : Int) : ByteArray := ⟨(Lib.replace s.data.toList [63] (numB n).data.toList 1).toArray⟩
theorem bytes_ext {a b : ByteArray} (h : a.data.toList = b.data.toList) : a = b := ByteArray.ext (Array.ext' h)
theorem repB_at (a b : ByteArray) (n : Int) (h : (63 : UInt8) ∉ a.data.toList) : repB (a ++ ⟨#[63]⟩ ++ b) n = a ++ numB n ++ b := by
  apply bytes_ext
  have e : (a ++ ⟨#[63]⟩ ++ b).data.toList = a.data.toList ++ 63 :: b.data.toList := by simp
  unfold repB
  rw [e, replace_blank _ _ _ h (noq n)]
  simp
/-- The blanks of a form filled, the first k of them. -/
def fillB (form : ByteArray) (ns : List Int) : Nat → ByteArray
  | 0 => form
  | k + 1 => repB (fillB form ns k) (ns.getD k 0)
theorem fillB_step (form : ByteArray) (ns : List Int) (k : Nat) (h : k < ns.length) : fillB form ns (k + 1) = repB (fillB form ns k) ns[k] := by
  simp [fillB, List.getD_eq_getElem?_getD, List.getElem?_eq_getElem h]

def kReach : ByteArray := ⟨#[114, 101, 97, 99, 104, 32]⟩
def kKm : ByteArray := ⟨#[32, 107, 109, 32]⟩
def kCm : ByteArray := ⟨#[32, 99, 109, 32]⟩
def kKmh : ByteArray := ⟨#[32, 107, 109, 47, 104]⟩
def kLock : ByteArray := ⟨#[108, 111, 99, 107, 32]⟩
def kNl : ByteArray := ⟨#[10]⟩
def kQ : ByteArray := ⟨#[63]⟩
def reachForm : ByteArray := ⟨#[114, 101, 97, 99, 104, 32, 63, 32, 107, 109, 32, 63, 32, 99, 109, 32, 63, 32, 107, 109, 47, 104]⟩
def lockForm : ByteArray := ⟨#[108, 111, 99, 107, 32, 63]⟩
theorem reachForm_is : reachForm = kReach ++ kQ ++ (kKm ++ kQ ++ (kCm ++ kQ ++ kKmh)) := bytes_ext (by decide)
theorem lockForm_is : lockForm = kLock ++ kQ ++ ⟨#[]⟩ := bytes_ext (by decide)
/-- The line of a reach, and that of a lock. -/
def lineR (l d s : Int) : ByteArray := kReach ++ numB l ++ kKm ++ numB d ++ kCm ++ numB s ++ kKmh
def lineL (z : Int) : ByteArray := kLock ++ numB z
theorem fill_lock (z : Int) : fillB lockForm [z] 1 = lineL z := by
  rw [fillB_step _ _ 0 (by simp), show fillB lockForm [z] 0 = kLock ++ ⟨#[63]⟩ ++ ⟨#[]⟩ from lockForm_is]
  rw [repB_at _ _ _ (by decide)]
  unfold lineL
  apply bytes_ext
  simp
theorem fill_reach1 (l d s : Int) : fillB reachForm [l, d, s] 1 = (kReach ++ numB l ++ kKm) ++ ⟨#[63]⟩ ++ (kCm ++ kQ ++ kKmh) := by
  rw [fillB_step _ _ 0 (by simp), show fillB reachForm [l, d, s] 0 = kReach ++ ⟨#[63]⟩ ++ (kKm ++ kQ ++ (kCm ++ kQ ++ kKmh)) from reachForm_is]
  rw [repB_at _ _ _ (by decide)]
  apply bytes_ext
  simp [kQ]
theorem fill_reach2 (l d s : Int) : fillB reachForm [l, d, s] 2 = (kReach ++ numB l ++ kKm ++ numB d ++ kCm) ++ ⟨#[63]⟩ ++ kKmh := by
  rw [fillB_step _ _ 1 (by simp), fill_reach1]
  rw [repB_at _ _ _ (by
    have := noq l
    simp only [ByteArray.data_append, Array.toList_append, List.mem_append, not_or]
    exact ⟨⟨by decide, this⟩, by decide⟩)]
  apply bytes_ext
  simp [kQ]
theorem fill_reach (l d s : Int) : fillB reachForm [l, d, s] 3 = lineR l d s := by
  rw [fillB_step _ _ 2 (by simp), fill_reach2]
  rw [repB_at _ _ _ (by
    have h1 := noq l
    have h2 := noq d
    simp only [ByteArray.data_append, Array.toList_append, List.mem_append, not_or]
    exact ⟨⟨⟨⟨by decide, h1⟩, by decide⟩, h2⟩, by decide⟩)]
  apply bytes_ext
  simp [lineR]

/-- The text of the first k reaches, and the locks between them. -/
def txt (rs : List (Int × Int × Int)) (zs : List Int) : Nat → ByteArray
  | 0 => ⟨#[]⟩
  | k + 1 => (if k = 0 then txt rs zs k else txt rs zs k ++ (lineL (zs.getD (k - 1) 0) ++ kNl)) ++ (lineR (rs.getD k (0, 0, 0)).1 (rs.getD k (0, 0, 0)).2.1 (rs.getD k (0, 0, 0)).2.2 ++ kNl)
theorem lineR_size (l d s : Int) (h1 : -1000000 ≤ l ∧ l ≤ 1000000) (h2 : -1000000 ≤ d ∧ d ≤ 1000000) (h3 : -1000000 ≤ s ∧ s ≤ 1000000) : (lineR l d s).size ≤ 100 := by
  have := numB_size l (by omega) (by omega)
  have := numB_size d (by omega) (by omega)
  have := numB_size s (by omega) (by omega)
  simp only [lineR, ByteArray.size_append]
  have e1 : kReach.size = 6 := by decide
  have e2 : kKm.size = 4 := by decide
  have e3 : kCm.size = 4 := by decide
  have e4 : kKmh.size = 5 := by decide
  omega
theorem lineL_size (z : Int) (h : -1000000 ≤ z ∧ z ≤ 1000000) : (lineL z).size ≤ 30 := by
  have := numB_size z (by omega) (by omega)
  simp only [lineL, ByteArray.size_append]
  have e1 : kLock.size = 5 := by decide
  omega
end Go.Proofs.YtliebicnejbheabGreatDoor
