/- The given tests' helpers over slices of integers: equality, size, copy, marks. -/
import Derived.Test.YtdleidlmjliapaaMem
import Derived.Deep.LoopGhost
import Derived.Lib.QuietBelow
import Derived.Maps.AppendAt
namespace Go.Proofs.Ytdleidlmjliapaa
open Go.RowKit Go.PlainAid Go.Sort

theorem Try.infoInt' : (Try.prog.info? 3).map (fun i => (i.zero, i.size, i.bytes)) = some (some (.int .i64 0), 1, 8) := by kernel_rfl
theorem grownBelow {w w' : World} (h : Below w.heap.size w w') (row : Option Nat) : w.grownBy w' row := ⟨h.os, h.tape, h.output, h.size, fun k hk _ => h.block k hk⟩

/-- n numbers from m on. -/
def nums (m : Int) (n : Nat) : List Value := (List.range n).map fun (j : Nat) => Value.int .i64 (m + (j : Int))
theorem nums_len (m : Int) (n : Nat) : (nums m n).length = n := by simp [nums]
theorem nums_at (m : Int) (n k : Nat) (h : k < n) : (nums m n)[k]? = some (.int .i64 (m + (k : Int))) := by simp [nums, h]

theorem own_form {w : World} {base : Nat} {e : TypeId} {size n : Nat} {v : Value} {xs : List Value} (h : w.ownsRow base e size v n xs) : ∃ A c, v = .slice A n c := by
  rcases h.2 with ⟨rfl, rfl⟩ | ⟨g, cap, cur, rfl, _⟩
  · exact ⟨none, 0, rfl⟩
  · exact ⟨_, _, rfl⟩

end Go.Proofs.Ytdleidlmjliapaa
