/- Plain words on reading a decimal number. -/
import Derived.Test.YtkdolpgnaabdaabDoorNum
import Derived.Lib.AtoiTie
namespace Go.Proofs.YtkdolpgnaabdaabDoor
open Go.RowKit Go.PlainAid

def pvs (t : ByteArray) : Nat → Int
  | 0 => 0
  | k + 1 => 10 * pvs t k + (bt t k - 48)
def digs (t : ByteArray) (k : Nat) : Prop := ∀ j, j < k → 48 ≤ bt t j ∧ bt t j ≤ 57
theorem digs_succ {t : ByteArray} {k : Nat} (h : digs t k) (h1 : 48 ≤ bt t k ∧ bt t k ≤ 57) : digs t (k + 1) := fun j hj => by
  by_cases e : j = k
  · subst e; exact h1
  · exact h j (by omega)
theorem pvs_bd (t : ByteArray) : ∀ k, digs t k → 0 ≤ pvs t k ∧ pvs t k < (10 : Int) ^ k
  | 0, _ => ⟨Int.le_refl _, by show (0 : Int) < 1; omega⟩
  | k + 1, h => by
    have ih := pvs_bd t k (fun j hj => h j (by omega))
    have hk := h k (by omega)
    have e : (10 : Int) ^ (k + 1) = 10 * 10 ^ k := by rw [Int.pow_succ]; omega
    rw [e]
    simp only [pvs]
    omega
theorem pow_le (k m : Nat) (h : k ≤ m) : (10 : Int) ^ k ≤ 10 ^ m := by
  have : (10 : Nat) ^ k ≤ 10 ^ m := Nat.pow_le_pow_right (by decide) h
  have h2 : ((10 ^ k : Nat) : Int) ≤ ((10 ^ m : Nat) : Int) := by omega
  simpa using h2
theorem pvs_6 (t : ByteArray) (k : Nat) (h : digs t k) (hk : k ≤ 6) : 0 ≤ pvs t k ∧ pvs t k ≤ 999999 := by
  have h1 := pvs_bd t k h
  have h2 := pow_le k 6 hk
  have h3 : (10 : Int) ^ 6 = 1000000 := by decide
  omega
/-- t is a row of one to six digits. -/
def rdd (t : ByteArray) : Prop := 1 ≤ t.size ∧ t.size ≤ 6 ∧ digs t t.size
def rdv (t : ByteArray) : Int := pvs t t.size

def pv (l : List UInt8) : Int := l.foldl (fun a c => 10 * a + ((c.toNat : Int) - 48)) 0
theorem pv_snoc (l : List UInt8) (c : UInt8) : pv (l ++ [c]) = 10 * pv l + ((c.toNat : Int) - 48) := by simp [pv, List.foldl_append]
theorem take_snoc' (s : ByteArray) (k : Nat) (h : k < s.size) : s.data.toList.take (k + 1) = s.data.toList.take k ++ [s[k]] := by
  rw [List.take_succ_eq_append_getElem (by simpa using h)]; rfl
theorem pvs_pv (t : ByteArray) : ∀ k, k ≤ t.size → pvs t k = pv (t.data.toList.take k)
  | 0, _ => rfl
  | k + 1, h => by
    rw [take_snoc' t k (by omega), pv_snoc, ← pvs_pv t k (by omega), get_bt t k (by omega)]
    rfl
theorem rdv_pv (t : ByteArray) : rdv t = pv t.data.toList := by
  unfold rdv
  rw [pvs_pv t _ (Nat.le_refl _), List.take_of_length_le (by simp)]
theorem chr_val (d : Nat) (h : d < 10) : ((UInt8.ofNat (48 + d)).toNat : Int) = 48 + d := by rw [UInt8.toNat_ofNat']; omega
theorem pv_dec : ∀ x : Nat, pv (Lib.decDigits x) = x := by
  intro x
  induction x using Nat.strongRecOn with
  | ind x ih =>
    by_cases h : x < 10
    · rw [Lib.decDigits_one h]; simp [pv]; omega
    · rw [Lib.decDigits, dif_neg h, pv_snoc, ih (x / 10) (by omega), chr_val _ (by omega)]; omega
theorem dig_dec : ∀ x : Nat, ∀ c ∈ Lib.decDigits x, 48 ≤ c.toNat ∧ c.toNat ≤ 57 := by
  intro x
  induction x using Nat.strongRecOn with
  | ind x ih =>
    intro c hc
    by_cases h : x < 10
    · rw [Lib.decDigits_one h] at hc
      have : c = UInt8.ofNat (48 + x) := by simpa using hc
      subst this
      rw [UInt8.toNat_ofNat']; omega
    · rw [Lib.decDigits, dif_neg h] at hc
      rcases List.mem_append.1 hc with hc | hc
      · exact ih (x / 10) (by omega) c hc
      · have : c = UInt8.ofNat (48 + x % 10) := by simpa using hc
        subst this
        rw [UInt8.toNat_ofNat']; omega
theorem nDig_le (x k : Nat) (h : x < 10 ^ (k + 1)) : Lib.nDigits x ≤ k + 1 := by
  induction k generalizing x with
  | zero => rw [Lib.nDigits_small (by simpa using h)]; exact Nat.le_refl _
  | succ k ih =>
    by_cases hx : x < 10
    · rw [Lib.nDigits_small hx]; omega
    · rw [Lib.nDigits_big hx]
      have := ih (x / 10) (by rw [Nat.pow_succ] at h; omega)
      omega
theorem numB_nn (x : Nat) : numB (x : Int) = ⟨(Lib.decDigits x).toArray⟩ := by
  unfold numB Lib.itoa; rw [if_neg (by omega)]; rfl
theorem numB_data (x : Nat) : (numB (x : Int)).data.toList = Lib.decDigits x := by rw [numB_nn]
theorem numB_sz (x : Nat) : (numB (x : Int)).size = Lib.nDigits x := by
  rw [numB_nn, ← Lib.decDigits_length]; show (Lib.decDigits x).toArray.size = _; simp
theorem bt_mem (s : ByteArray) (j : Nat) (h : j < s.size) : ∃ c ∈ s.data.toList, bt s j = (c.toNat : Int) := by
  refine ⟨s[j], ?_, (get_bt s j h).symm⟩
  have : s[j] = s.data.toList[j]'(by simpa using h) := rfl
  rw [this]
  exact List.getElem_mem _
theorem rdd_num (x : Nat) (h : x ≤ 999999) : rdd (numB (x : Int)) := by
  refine ⟨by rw [numB_sz]; exact Lib.nDigits_pos x, by rw [numB_sz]; exact nDig_le x 5 (by omega), ?_⟩
  intro j hj
  obtain ⟨c, hc, e⟩ := bt_mem _ j hj
  rw [numB_data] at hc
  have := dig_dec x c hc
  rw [e]; omega
theorem rdv_num (x : Nat) : rdv (numB (x : Int)) = x := by rw [rdv_pv, numB_data, pv_dec]
theorem num_first (x : Nat) : 48 ≤ bt (numB (x : Int)) 0 := by
  have hp : 0 < (numB (x : Int)).size := by rw [numB_sz]; exact Lib.nDigits_pos x
  obtain ⟨c, hc, e⟩ := bt_mem _ 0 hp
  rw [numB_data] at hc
  have := dig_dec x c hc
  rw [e]; omega
/-- A negative number's text: its size, its first byte, the rest. -/
theorem neg_parts (x : Nat) (h : 0 < x) : 1 < (numB (-(x : Int))).size ∧ bt (numB (-(x : Int))) 0 = 45 ∧ (numB (-(x : Int))).extract 1 (numB (-(x : Int))).size = numB (x : Int) := by
  have hp : 0 < (numB (x : Int)).size := by rw [numB_sz]; exact Lib.nDigits_pos x
  have hs : (numB (-(x : Int))).size = 1 + (numB (x : Int)).size := by rw [numB_neg x h, ByteArray.size_append]; rfl
  refine ⟨by omega, ?_, ?_⟩
  · have h0 : 0 < (numB (-(x : Int))).size := by omega
    rw [← get_bt _ 0 h0]
    have e : (numB (-(x : Int))).data.toList = 45 :: (numB (x : Int)).data.toList := by rw [numB_neg x h]; simp
    have e2 : (numB (-(x : Int)))[0] = (numB (-(x : Int))).data.toList[0]'(by simpa using h0) := rfl
    rw [e2]
    simp [e]
  · rw [hs, numB_neg x h]
    apply ByteArray.ext
    apply Array.ext'
    simp
    exact List.take_of_length_le (by simp)

theorem decFrom_app (l : List UInt8) : ∀ (acc : Nat) (c : UInt8), Lib.decFrom acc (l ++ [c]) = (Lib.decFrom acc l).bind fun n => (Lib.digitVal c).map fun d => n * 10 + d := by
  induction l with
  | nil => intro acc c; simp only [List.nil_append, Lib.decFrom]; cases Lib.digitVal c <;> rfl
  | cons a t ih =>
    intro acc c
    simp only [List.cons_append, Lib.decFrom]
    cases Lib.digitVal a with
    | none => rfl
    | some d => exact ih _ c
theorem digVal (d : Nat) (h : d < 10) : Lib.digitVal (UInt8.ofNat (48 + d)) = some d := by
  unfold Lib.digitVal
  have : (UInt8.ofNat (48 + d)).toNat = 48 + d := by rw [UInt8.toNat_ofNat']; omega
  rw [this, if_pos (by omega)]
  congr 1; omega
theorem decFrom_dec : ∀ x : Nat, Lib.decFrom 0 (Lib.decDigits x) = some x := by
  intro x
  induction x using Nat.strongRecOn with
  | ind x ih =>
    by_cases h : x < 10
    · rw [Lib.decDigits_one h]; simp only [Lib.decFrom, digVal x h]; simp
    · rw [Lib.decDigits, dif_neg h, decFrom_app, ih (x / 10) (by omega), digVal _ (by omega)]
      simp; omega
theorem decNat_dec (x : Nat) : Lib.decNat (Lib.decDigits x) = some x := by
  unfold Lib.decNat
  rw [if_neg, decFrom_dec]
  have := Lib.nDigits_pos x
  rw [← Lib.decDigits_length] at this
  intro e
  rw [List.isEmpty_iff] at e
  rw [e] at this
  simp at this
theorem atoi_dec (x : Nat) : Lib.atoi (Lib.decDigits x) = some (x : Int) := by
  have hd := dig_dec x
  have hn := decNat_dec x
  match hl : Lib.decDigits x with
  | [] => rw [hl] at hn; simp [Lib.decNat] at hn
  | b :: r =>
    rw [hl] at hd hn
    have hb := hd b (by simp)
    have h45 : (b == 45) = false := beq_eq_false_iff_ne.2 (fun e => by rw [e] at hb; simp at hb)
    have h43 : (b == 43) = false := beq_eq_false_iff_ne.2 (fun e => by rw [e] at hb; simp at hb)
    simp [Lib.atoi, h45, h43, hn]
theorem atoi_num (n : Int) (h0 : -999999 ≤ n) (h1 : n ≤ 999999) : Lib.atoiAll (numB n).data.toList = .ok n := by
  by_cases hn : n < 0
  · obtain ⟨x, rfl⟩ : ∃ x : Nat, n = -(x : Int) := ⟨n.natAbs, by omega⟩
    have e : (numB (-(x : Int))).data.toList = 45 :: Lib.decDigits x := by
      rw [numB_neg x (by omega)]; simp [numB_data]
    have hl := nDig_le x 5 (by omega)
    rw [e, Lib.atoiAll_short _ (by simp [Lib.decDigits_length]; omega)]
    simp [Lib.atoi, decNat_dec, Lib.NumEnd.ofOption]
  · obtain ⟨x, rfl⟩ : ∃ x : Nat, n = (x : Int) := ⟨n.toNat, by omega⟩
    have hl := nDig_le x 5 (by omega)
    rw [numB_data, Lib.atoiAll_short _ (by rw [Lib.decDigits_length]; omega), atoi_dec]
    rfl
theorem toList_inj {a b : ByteArray} (h : a.toList = b.toList) : a = b := by
  rw [ByteArray.toList_eq, ByteArray.toList_eq] at h
  exact ByteArray.ext (Array.ext' h)
theorem toList_ne {a b : ByteArray} (h : a ≠ b) : (a.toList == b.toList) = false := beq_eq_false_iff_ne.2 (fun e => h (toList_inj e))
end Go.Proofs.YtkdolpgnaabdaabDoor
