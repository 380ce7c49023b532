/- A slice of integers that a call hands back, and the part of it that is there already. -/
import Derived.Test.YtgnopkemcgbedabIntS
namespace Go.Proofs.Ytgnopkemcgbedab
open Go.RowKit Go.PlainAid Go.Sort

/-- The call hands back a slice of its own with the integers L, and b. -/
def GivesInts (w : World) (L : List Int) (b : Bool) (e : Ending) (w' : World) : Prop :=
  ∃ g c, e = .returned (.tuple #[.slice (some ⟨g, 0, none⟩) L.length c, .bool b]) ∧ w.heap.size ≤ g ∧ w'.ownsRow w.heap.size 3 1 (.slice (some ⟨g, 0, none⟩) L.length c) L.length (L.map (.int .i64)) ∧ Below w.heap.size w w'
/-- The first k of the integers L lie in a slice of one's own. -/
def Part (w w' : World) (L : List Int) (k : Nat) (v : Value) : Prop :=
  ∃ g c, v = .slice (some ⟨g, 0, none⟩) k c ∧ w.heap.size ≤ g ∧ w'.ownsRow w.heap.size 3 1 (.slice (some ⟨g, 0, none⟩) k c) k ((L.take k).map (.int .i64)) ∧ Below w.heap.size w w'
theorem Part.nil {w w0 : World} (hb : Below w.heap.size w w0) (L : List Int) : Part w (w0.alloc (.cells #[] 3)) L 0 (.slice (some ⟨w0.heap.size, 0, none⟩) 0 0) :=
  ⟨w0.heap.size, 0, rfl, hb.size, own_low (World.ownsRow_made w0 #[] 0 (Nat.le_refl _) (by unfold maxLen; omega) rfl) hb.size, hb.alloc hb.size _⟩

theorem Part.below {w w0 w' : World} {L : List Int} {k : Nat} {v : Value} (h : Part w w0 L k v) (hb : Go.RowKit.Below w0.heap.size w0 w') : Part w w' L k v := by
  obtain ⟨g, c, rfl, hg, ho, hb0⟩ := h
  exact ⟨g, c, rfl, hg, ho.kept (grownBelow hb none) (.inr (by simp [Value.ownBlock])), hb0.trans (hb.mono hb0.size)⟩
theorem Part.gives {w w' : World} {L : List Int} {k : Nat} {v : Value} (h : Part w w' L k v) (hk : k = L.length) (b : Bool) : GivesInts w L b (.returned (.tuple #[v, .bool b])) w' := by
  obtain ⟨g, c, rfl, hg, ho, hb⟩ := h
  subst hk
  rw [List.take_length] at ho
  exact ⟨g, c, rfl, hg, ho, hb⟩

end Go.Proofs.Ytgnopkemcgbedab
