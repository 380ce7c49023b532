/- The given tests' equality of two slices of integers; the room of a row. -/
import Derived.Test.YtgnopkemcgbedaaIntS
namespace Go.Proofs.Ytgnopkemcgbedaa
open Go.RowKit Go.PlainAid Go.Sort

theorem own_cap {w : World} {base : Nat} {e : TypeId} {g n c : Nat} {xs : List Value} {z : Nat} (h : w.ownsRow base e z (.slice (some ⟨g, 0, none⟩) n c) n xs) : n ≤ c ∧ c ≤ maxLen := by
  rcases h.2 with ⟨e1, -⟩ | ⟨g', cap, cur, e1, -, -, hl⟩
  · cases e1
  · injection e1 with e1 e2 e3
    subst e3
    exact ⟨hl.1, hl.2.1⟩
end Go.Proofs.Ytgnopkemcgbedaa
