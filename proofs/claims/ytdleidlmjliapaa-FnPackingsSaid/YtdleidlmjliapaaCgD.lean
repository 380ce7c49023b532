/- What FnChamberings compares: a number among others, spots beside spots. -/
import Derived.Test.YtdleidlmjliapaaCgC
import Derived.Test.YtdleidlmjliapaaSSpot
import Derived.Test.YtdleidlmjliapaaVInt
namespace Go.Proofs.Ytdleidlmjliapaa
open Go.RowKit Go.PlainAid Go.Sort
set_option linter.unusedVariables false
set_option linter.unusedSimpArgs false

set_option maxHeartbeats 1000000 in
theorem vSpots_same {w : World} {B1 B2 : Nat} {A1 A2 : Option Addr} {n : Nat} {vs : List TSpot} (c1 c2 : Nat) (h1 : IsSpots w B1 A1 n vs) (h2 : IsSpots w B2 A2 n vs) (hm : n ≤ maxLen) :
    Calls Try.prog 9 #[.slice A1 n c1, .slice A2 n c2] w fun e w' => e = .returned (.bool true) ∧ Below w.heap.size w w' := by
  unfold maxLen at hm
  have HL := Lib.hid h1.len
  have H1 := Lib.hid h1
  have H2 := Lib.hid h2
  clear h1 h2
  go_enter Try.func9, Try.ntmps9
  go_wp2
  go_loopw [5] (fun i wr => ∃ k : Nat, k ≤ n ∧ i = .int .i64 k ∧ Below w.heap.size w wr) (fun i _ => n - (intOf i).toNat)
  case atStart => exact ⟨0, Nat.zero_le _, rfl, Below.refl _ _⟩
  case round =>
    obtain ⟨k, hk, rfl, hb⟩ := hrel
    by_cases hlt : k < n
    · have hkl : k < vs.length := by rw [HL.out]; exact hlt
      obtain ⟨a1, rfl, _, hs1⟩ := (H1.out.has.below (hb.mono H1.out.low)).Spot hkl
      obtain ⟨a2, rfl, _, hs2⟩ := (H2.out.has.below (hb.mono H2.out.low)).Spot hkl
      have e0 := hs1.c0
      have e1 := hs1.c1
      have g0 := hs2.c0
      have g1 := hs2.c1
      clear hs1 hs2
      generalize vs.getD k noSpot = V at e0 e1 g0 g1
      obtain ⟨x, y⟩ := V
      dsimp only at e0 e1 g0 g1
      have E0 := fun (d : Nat) (os : Array Obj) => cell_regrown e0 d os
      have E1 := fun (d : Nat) (os : Array Obj) => cell_regrown e1 d os
      have G0 := fun (d : Nat) (os : Array Obj) => cell_regrown g0 d os
      have G1 := fun (d : Nat) (os : Array Obj) => cell_regrown g1 d os
      have hk0 : (0 : Int) ≤ (k : Int) := by omega
      have hk1 : (k : Int) < (n : Int) := by omega
      have HB := Lib.hid hb
      clear hb H1 H2 e0 e1 g0 g1
      go_wp2
      refine wp_region_quiet_below (by kernel_rfl) (by kernel_rfl) ?_
      repeat (go_big_quiet_step (first | fail))
      refine wpQuiet_nil ?_
      intro _ hw'
      obtain ⟨⟨dq, osq⟩, hw''⟩ := hw'
      subst hw''
      have HB1 := Lib.hid (HB.out.trans ((below_regrown wr dq osq).mono HB.out.size))
      go_wp2
      go_roundw
      case rel => exact ⟨k + 1, by omega, by go_num, HB1.out⟩
      case measure => simp [intOf]; omega
    · obtain rfl : k = n := by omega
      clear H1 H2
      go_wp2
      go_ret
      exact ⟨rfl, hb⟩
end Go.Proofs.Ytdleidlmjliapaa
