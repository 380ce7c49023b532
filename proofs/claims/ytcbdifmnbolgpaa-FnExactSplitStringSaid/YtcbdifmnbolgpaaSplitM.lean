/- Plain words on splitting a string at a byte. -/
import Derived.Test.YtcbdifmnbolgpaaMem
namespace Go.Proofs.Ytcbdifmnbolgpaa
open Go.RowKit Go.PlainAid

/-- What has been cut off before place k, and where the next part begins. -/
def spl (s : ByteArray) (v : Int) : Nat → List ByteArray × Nat
  | 0 => ([], 0)
  | k + 1 => if bt s k = v then ((spl s v k).1 ++ [s.extract (spl s v k).2 k], k + 1) else spl s v k
theorem spl_hit {s : ByteArray} {v : Int} {k : Nat} (h : bt s k = v) : spl s v (k + 1) = ((spl s v k).1 ++ [s.extract (spl s v k).2 k], k + 1) := by simp [spl, h]
theorem spl_miss {s : ByteArray} {v : Int} {k : Nat} (h : bt s k ≠ v) : spl s v (k + 1) = spl s v k := by simp [spl, h]
theorem spl_le (s : ByteArray) (v : Int) (k : Nat) : (spl s v k).2 ≤ k ∧ (spl s v k).1.length ≤ k := by
  induction k with
  | zero => exact ⟨Nat.le_refl _, Nat.le_refl _⟩
  | succ k ih =>
    by_cases h : bt s k = v
    · rw [spl_hit h]; simp; omega
    · rw [spl_miss h]; omega
/-- All parts. -/
def parts (s : ByteArray) (v : Int) : List ByteArray := (spl s v s.size).1 ++ [s.extract (spl s v s.size).2 s.size]
theorem parts_len (s : ByteArray) (v : Int) : (parts s v).length ≤ s.size + 1 := by
  have := (spl_le s v s.size).2
  simp [parts]; omega
end Go.Proofs.Ytcbdifmnbolgpaa
