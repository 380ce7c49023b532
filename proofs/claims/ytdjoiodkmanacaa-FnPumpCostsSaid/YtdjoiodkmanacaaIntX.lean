/- The copy of a slice of integers, its block under a name. -/
import Derived.Test.YtdjoiodkmanacaaIntS
namespace Go.Proofs.Ytdjoiodkmanacaa
open Go.RowKit Go.PlainAid Go.Sort

theorem toI_ex (A : Option Addr) (n c B : Nat) (zs : List Int) (w : World) (hn : zs.length = n) (hm : n ≤ 1048576)
    (hB : B ≤ w.heap.size) (h : Has w B A (zs.map (.int .i64))) :
    Calls Try.prog 42 #[.slice A n c] w fun e w' => ∃ g, e = .returned (.slice (some ⟨g, 0, none⟩) n n) ∧
      w'.ownsRow w.heap.size 3 1 (.slice (some ⟨g, 0, none⟩) n n) n (zs.map (.int .i64)) ∧ Below w.heap.size w w' := by
  refine (toI_any A n c B zs w hn hm hB h).mono ?_
  rintro e w' ⟨rfl, ho, hb⟩
  exact ⟨_, rfl, ho, hb⟩
end Go.Proofs.Ytdjoiodkmanacaa
