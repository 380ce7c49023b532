/- The checksums of the program and of the reference model, each as one contract. -/
import Derived.Test.YtcbdifmnbolgpaaDoorRows
import Derived.WalkKit
import Derived.ProofKit
import Derived.PlainAid
import Derived.Lib.Hide
namespace Go.Proofs.YtcbdifmnbolgpaaDoor
open Go.RowKit Go.PlainAid

def ck (l : List UInt8) : Int := l.foldl (fun h c => (41 * h + (c.toNat : Int) + 1) % 999979) 7
theorem ck_snoc (l : List UInt8) (c : UInt8) : ck (l ++ [c]) = (41 * ck l + (c.toNat : Int) + 1) % 999979 := by simp [ck, List.foldl_append]
theorem ck_bd (l : List UInt8) : 0 ≤ ck l ∧ ck l < 999979 := by
  unfold ck
  suffices ∀ (l : List UInt8) (a : Int), 0 ≤ a ∧ a < 999979 → 0 ≤ l.foldl (fun h c => (41 * h + (c.toNat : Int) + 1) % 999979) a ∧ l.foldl (fun h c => (41 * h + (c.toNat : Int) + 1) % 999979) a < 999979 from this l 7 (by omega)
  intro l
  induction l with
  | nil => intro a h; exact h
  | cons c l ih => intro a h; exact ih _ (by show 0 ≤ (41 * a + (c.toNat : Int) + 1) % 999979 ∧ (41 * a + (c.toNat : Int) + 1) % 999979 < 999979; omega)
theorem take_snoc (s : ByteArray) (k : Nat) (h : k < s.size) : s.data.toList.take (k + 1) = s.data.toList.take k ++ [s[k]] := by
  rw [List.take_succ_eq_append_getElem (by simpa using h)]; rfl
def cks (s : ByteArray) (k : Nat) : Int := ck (s.data.toList.take k)
theorem cks_zero (s : ByteArray) : cks s 0 = 7 := rfl
theorem cks_succ (s : ByteArray) (k : Nat) (h : k < s.size) : cks s (k + 1) = (41 * cks s k + bt s k + 1) % 999979 := by
  unfold cks
  rw [take_snoc s k h, ck_snoc, get_bt s k h]
theorem cks_bd (s : ByteArray) (k : Nat) : 0 ≤ cks s k ∧ cks s k < 999979 := ck_bd _

set_option maxHeartbeats 400000 in
theorem implCk_ok (s : ByteArray) (w : World) (hs : s.size ≤ 4000) :
    Calls Tryd.prog 31 #[.string s] w fun e w' => e = .returned (.tuple #[.int .i64 (cks s s.size), .bool true]) ∧ w = w' := by
  go_enter Tryd.func31, Tryd.ntmps31
  go_wp2
  go_loop [4, 11] (fun n i => ∃ k : Nat, k ≤ s.size ∧ i = .int .i64 k ∧ n = .int .i64 (cks s k)) (fun _ i => s.size - (intOf i).toNat)
  case atStart => exact ⟨0, Nat.zero_le _, rfl, rfl⟩
  case round =>
    obtain ⟨k, hk, rfl, rfl⟩ := hrel
    obtain ⟨b0, b1⟩ := cks_bd s k
    have c0 := bt_nonneg s k
    have c1 := bt_le s k
    have hb := get_bt s
    by_cases hlt : k < s.size
    · have HS := Lib.hid (cks_succ s k hlt)
      go_wp2
      go_round
      case rel => exact ⟨k + 1, by omega, by go_num, by rw [HS.out]⟩
      case measure => simp [intOf]; omega
    · obtain rfl : k = s.size := by omega
      go_wp2
      go_ret2
      exact ⟨rfl, rfl⟩

set_option maxHeartbeats 400000 in
theorem implCk_no (s : ByteArray) (w : World) (hs : 4000 < s.size) (hm : s.size ≤ maxLen) :
    Calls Tryd.prog 31 #[.string s] w fun e w' => e = .returned (.tuple #[.int .i64 0, .bool false]) ∧ w = w' := by
  unfold maxLen at hm
  go_enter Tryd.func31, Tryd.ntmps31
  go_wp2
  go_ret2
  exact ⟨rfl, rfl⟩

set_option maxHeartbeats 400000 in
theorem specSum (s : ByteArray) (w : World) (hm : s.size ≤ maxLen) :
    Calls Tryd.prog 41 #[.string s] w fun e w' => e = .returned (.int .i64 (cks s s.size)) ∧ w = w' := by
  unfold maxLen at hm
  go_enter Tryd.func41, Tryd.ntmps41
  go_wp2
  go_loop [3, 4] (fun n i => ∃ k : Nat, k ≤ s.size ∧ i = .int .i64 k ∧ n = .int .i64 (cks s k)) (fun _ i => s.size - (intOf i).toNat)
  case atStart => exact ⟨0, Nat.zero_le _, rfl, rfl⟩
  case round =>
    obtain ⟨k, hk, rfl, rfl⟩ := hrel
    obtain ⟨b0, b1⟩ := cks_bd s k
    have c0 := bt_nonneg s k
    have c1 := bt_le s k
    have hb := get_bt s
    by_cases hlt : k < s.size
    · have HS := Lib.hid (cks_succ s k hlt)
      go_wp2
      go_round
      case rel => exact ⟨k + 1, by omega, by go_num, by rw [HS.out]⟩
      case measure => simp [intOf]; omega
    · obtain rfl : k = s.size := by omega
      go_wp2
      go_ret
      exact ⟨rfl, rfl⟩


end Go.Proofs.YtcbdifmnbolgpaaDoor
