/- Chapter 3: the vessels that pass a depth, the model and the program. -/
import Derived.Test.YtgadceelbeacgabVesV
import Derived.Test.YtgadceelbeacgabInts
import Derived.Maps.AppendAt
namespace Go.Proofs.Ytgadceelbeacgab
open Go.RowKit Go.PlainAid Go.Sort

/-- The integers l lie in a slice of one's own. -/
def OwnL (w w' : World) (l : List Int) (v : Value) : Prop :=
  ∃ g c, v = .slice (some ⟨g, 0, none⟩) l.length c ∧ w.heap.size ≤ g ∧ w'.ownsRow w.heap.size 3 1 (.slice (some ⟨g, 0, none⟩) l.length c) l.length (l.map (.int .i64)) ∧ Below w.heap.size w w'
theorem OwnL.nil {w w0 : World} (hb : Below w.heap.size w w0) : OwnL w (w0.alloc (.cells #[] 3)) [] (.slice (some ⟨w0.heap.size, 0, none⟩) 0 0) :=
  ⟨w0.heap.size, 0, rfl, hb.size, own_low (World.ownsRow_made w0 #[] 0 (Nat.le_refl _) (by unfold maxLen; omega) rfl) hb.size, hb.alloc hb.size _⟩
theorem OwnL.below {w w0 w' : World} {l : List Int} {v : Value} (h : OwnL w w0 l v) (hb : Go.RowKit.Below w0.heap.size w0 w') : OwnL w w' l v := by
  obtain ⟨g, c, rfl, hg, ho, hb0⟩ := h
  exact ⟨g, c, rfl, hg, ho.kept (grownBelow hb none) (.inr (by simp [Value.ownBlock])), hb0.trans (hb.mono hb0.size)⟩
theorem OwnL.gives {w w' : World} {l : List Int} {v : Value} (h : OwnL w w' l v) (b : Bool) : GivesInts w l b (.returned (.tuple #[v, .bool b])) w' := by
  obtain ⟨g, c, rfl, hg, ho, hb⟩ := h
  exact ⟨g, c, rfl, hg, ho, hb⟩
theorem OwnL.low {w w' : World} {l : List Int} {v : Value} (h : OwnL w w' l v) : Go.RowKit.Below w.heap.size w w' := by
  obtain ⟨g, c, rfl, hg, ho, hb⟩ := h
  exact hb

/-- The Ids of those of the first k vessels that pass. -/
def pasL (vs : List Ves) (depth keel : Int) : Nat → List Int
  | 0 => []
  | k + 1 => if (vs.getD k noVes).dr + keel ≤ depth then pasL vs depth keel k ++ [(vs.getD k noVes).id] else pasL vs depth keel k
theorem pasL_len (vs : List Ves) (depth keel : Int) : ∀ k, (pasL vs depth keel k).length ≤ k
  | 0 => Nat.le_refl _
  | k + 1 => by
    have ih := pasL_len vs depth keel k
    rw [pasL]
    split
    · rw [List.length_append, List.length_singleton]; omega
    · omega

/-- What both are asked for. -/
theorem pas_two (vs : List Ves) (n : Nat) (hn : vs.length = n) (depth keel : Int) : ∃ (L : List Int) (x : Bool), L.length ≤ 8 ∧
    (gF vs = true → (0 ≤ depth ∧ depth ≤ 1000) → (0 ≤ keel ∧ keel ≤ 100) → L = pasL vs depth keel n ∧ x = true) ∧
    (¬ (gF vs = true ∧ (0 ≤ depth ∧ depth ≤ 1000) ∧ (0 ≤ keel ∧ keel ≤ 100)) → L = [] ∧ x = false) := by
  by_cases h : gF vs = true ∧ (0 ≤ depth ∧ depth ≤ 1000) ∧ (0 ≤ keel ∧ keel ≤ 100)
  · exact ⟨pasL vs depth keel n, true, by have h1 := pasL_len vs depth keel n; have h2 := ((gF_iff vs).1 h.1).1; omega, fun _ _ _ => ⟨rfl, rfl⟩, fun g => absurd h g⟩
  · exact ⟨[], false, by simp, fun h1 h2 h3 => absurd ⟨h1, h2, h3⟩ h, fun _ => ⟨rfl, rfl⟩⟩
end Go.Proofs.Ytgadceelbeacgab
