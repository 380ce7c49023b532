/- Chapter 7: what FnCones draws; the most dangerous one has the most cones. -/
import Derived.Test.YtgnopkemcgbedabDgJ
import Derived.Test.YtgnopkemcgbedabDraw
namespace Go.Proofs.Ytgnopkemcgbedab
open Go.RowKit Go.PlainAid Go.Sort
set_option linter.unusedVariables false
set_option linter.unusedSimpArgs false

theorem mostC_max (vs : List TCargo) : ∀ k j, j ≤ k → (vs.getD j noCargo).x2 ≤ (mostC vs k).x2
  | 0, j, h => by
    obtain rfl : j = 0 := by omega
    exact Int.le_refl _
  | k + 1, j, h => by
    have ih := mostC_max vs k
    rw [mostC]
    split
    · next hm =>
      unfold MoreD at hm
      rcases Nat.lt_succ_iff_lt_or_eq.1 (Nat.lt_succ_of_le h) with h1 | rfl
      · have := ih j (by omega)
        omega
      · exact Int.le_refl _
    · next hm =>
      unfold MoreD at hm
      rcases Nat.lt_succ_iff_lt_or_eq.1 (Nat.lt_succ_of_le h) with h1 | rfl
      · exact ih j (by omega)
      · omega

/-- Drawn vessels. -/
def DrwK (w : World) (e : Ending) (w' : World) : Prop :=
  ∃ (g c q : Nat) (vs : List TCargo), e = .returned (.slice (some ⟨g, 0, none⟩) q c) ∧ q ≤ 8 ∧ q ≤ c ∧ IsCargos w' w'.heap.size (some ⟨g, 0, none⟩) q vs ∧ Below w.heap.size w w'
/-- Drawn vessels and a drawn number. -/
def DrwKN (w : World) (e : Ending) (w' : World) : Prop :=
  ∃ (g c q : Nat) (vs : List TCargo) (z : Int), e = .returned (.tuple #[.slice (some ⟨g, 0, none⟩) q c, .int .i64 z]) ∧ q ≤ 8 ∧ q ≤ c ∧ IsCargos w' w'.heap.size (some ⟨g, 0, none⟩) q vs ∧ Below w.heap.size w w'
/-- Two drawn numbers. -/
def Drw2 (w : World) (e : Ending) (w' : World) : Prop :=
  ∃ (y z : Int), e = .returned (.tuple #[.int .i64 y, .int .i64 z]) ∧ Below w.heap.size w w'
theorem OwnK.is {w W : World} {g1 q c1 : Nat} (h : OwnK w W g1 q c1) : q ≤ c1 ∧ ∃ vs, IsCargos W W.heap.size (some ⟨g1, 0, none⟩) q vs := by
  obtain ⟨L, h1, h2⟩ := h
  exact ⟨own_capC h2, L, own_Cargos h2⟩
end Go.Proofs.Ytgnopkemcgbedab
