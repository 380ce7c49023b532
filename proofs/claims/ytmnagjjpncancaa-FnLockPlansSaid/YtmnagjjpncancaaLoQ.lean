/- Chapter 5: the planned commands: the program, at every state and side. -/
import Derived.Test.YtmnagjjpncancaaLoO
namespace Go.Proofs.Ytmnagjjpncancaa
open Go.RowKit Go.PlainAid Go.Sort
set_option linter.unusedVariables false
set_option linter.unusedSimpArgs false

theorem planI_any (l u v : Int) (a b c d high : Bool) (L : List Int) (x : Bool) (hA : AnsP ⟨l, u, v, a, b, c, d⟩ high L x) (m : Nat) (hm : L.length = m) (w : World) :
    Calls Try.prog 28 #[.agg #[.int .i64 l, .int .i64 u, .int .i64 v, .bool a, .bool b, .bool c, .bool d], .bool high] w (GivesP w L m x) := by
  obtain ⟨r, y, hN⟩ := ansN_ex (minO ⟨l, u, v, a, b, c, d⟩ high)
  have hxy : y = x ∧ (x = true → r = (minL ⟨l, u, v, a, b, c, d⟩ high : Int) ∧ goodL ⟨l, u, v, a, b, c, d⟩ = true) := by
    unfold minO at hN
    rcases hA with ⟨hg, -, rfl⟩ | ⟨hg, -, rfl⟩
    · rw [if_pos hg] at hN
      rcases hN with ⟨h, rfl⟩ | ⟨h, -⟩
      · injection h with h
        exact ⟨rfl, fun _ => ⟨h.symm, hg⟩⟩
      · cases h
    · rw [hg] at hN
      rcases hN with ⟨h, -⟩ | ⟨-, -, rfl⟩
      · cases h
      · exact ⟨rfl, fun h => by cases h⟩
  obtain ⟨rfl, hx⟩ := hxy
  by_cases hy : y = true
  · obtain ⟨hr, hg⟩ := hx hy
    have hN40 := (minL_le hg high).1
    rcases hA with ⟨-, hL, -⟩ | ⟨h, -⟩
    · cases high with
      | false =>
        exact planI_core l u v a b c d false (v - l) (u - v) a c b d 1 2 5 6 3 4 7 8 r y (minL ⟨l, u, v, a, b, c, d⟩ false) hN40 (fun W => minI_any l u v a b c d false r y hN W)
          (fun _ W => sideLow_any l u v a b c d W (goodL_levs hg)) (fun _ W => sideHigh_any l u v a b c d W (goodL_levs hg)) (fun _ => hr) L
          (.inl ⟨hy, by rw [hL]; simp [planL, planV, preL, gateL, paddL]⟩) m hm w
      | true =>
        exact planI_core l u v a b c d true (u - v) (v - l) b d a c 3 4 7 8 1 2 5 6 r y (minL ⟨l, u, v, a, b, c, d⟩ true) hN40 (fun W => minI_any l u v a b c d true r y hN W)
          (fun _ W => sideHigh_any l u v a b c d W (goodL_levs hg)) (fun _ W => sideLow_any l u v a b c d W (goodL_levs hg)) (fun _ => hr) L
          (.inl ⟨hy, by rw [hL]; simp [planL, planV, preL, gateL, paddL]⟩) m hm w
    · rw [hg] at h; cases h
  · have hy' : y = false := by simpa using hy
    rcases hA with ⟨-, -, h⟩ | ⟨-, hL, -⟩
    · exact absurd h hy
    · exact planI_core l u v a b c d high 0 0 a c b d 1 2 5 6 3 4 7 8 r y 0 (by omega) (fun W => minI_any l u v a b c d high r y hN W)
        (fun h => absurd h hy) (fun h => absurd h hy) (fun h => absurd h hy) L (.inr ⟨hy', hL⟩) m hm w
end Go.Proofs.Ytmnagjjpncancaa
