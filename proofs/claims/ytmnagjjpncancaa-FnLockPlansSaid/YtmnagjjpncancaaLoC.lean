/- Chapter 5: a new lock, heads and minutes: the model and the program. -/
import Derived.Test.YtmnagjjpncancaaLoB
import Derived.Test.YtmnagjjpncancaaLoR
namespace Go.Proofs.Ytmnagjjpncancaa
open Go.RowKit Go.PlainAid Go.Sort
set_option linter.unusedVariables false
set_option linter.unusedSimpArgs false

/-- What is answered of a state that there may be. -/
def AnsL (o : Option TLockState) (R0 R1 R2 : Int) (R3 R4 R5 R6 x : Bool) : Prop :=
  (o = some ⟨R0, R1, R2, R3, R4, R5, R6⟩ ∧ x = true) ∨ (o = none ∧ (R0 = 0 ∧ R1 = 0 ∧ R2 = 0 ∧ R3 = false ∧ R4 = false ∧ R5 = false ∧ R6 = false) ∧ x = false)
theorem ansL_ex (o : Option TLockState) : ∃ R0 R1 R2 R3 R4 R5 R6 x, AnsL o R0 R1 R2 R3 R4 R5 R6 x := by
  cases o with
  | none => exact ⟨0, 0, 0, false, false, false, false, false, .inr ⟨rfl, ⟨rfl, rfl, rfl, rfl, rfl, rfl, rfl⟩, rfl⟩⟩
  | some t => exact ⟨t.x0, t.x1, t.x2, t.x3, t.x4, t.x5, t.x6, true, .inl ⟨rfl, rfl⟩⟩
def newL (lo hi : Int) : Option TLockState := if goodL ⟨lo, hi, lo, false, false, false, false⟩ = true then some ⟨lo, hi, lo, false, false, false, false⟩ else none
theorem newL_lev (lo hi : Int) : goodL ⟨lo, hi, lo, false, false, false, false⟩ = levL ⟨lo, hi, lo, false, false, false, false⟩ := by
  simp [goodL, levL]

set_option maxRecDepth 100000 in
set_option maxHeartbeats 1000000 in
theorem newS_any (lo hi : Int) (R0 R1 R2 : Int) (R3 R4 R5 R6 x : Bool) (hA : AnsL (newL lo hi) R0 R1 R2 R3 R4 R5 R6 x) (w : World) :
    Calls Try.prog 13 #[.int .i64 lo, .int .i64 hi] w fun e w' => e = .returned (.tuple #[.agg #[.int .i64 R0, .int .i64 R1, .int .i64 R2, .bool R3, .bool R4, .bool R5, .bool R6], .bool x]) ∧ Below w.heap.size w w' := by
  have C := Lib.hid (fun W => l5Good_any lo hi lo false false false false W)
  have HB0 := Lib.hid (below2 w (.cells #[.int .i64 0, .int .i64 0, .int .i64 0, .bool false, .bool false, .bool false, .bool false] 23) (.cells #[.int .i64 lo, .int .i64 hi, .int .i64 lo, .bool false, .bool false, .bool false, .bool false] 23))
  have P1 := Lib.hid (BoxL.new (w.alloc (.cells #[.int .i64 0, .int .i64 0, .int .i64 0, .bool false, .bool false, .bool false, .bool false] 23)) lo hi lo false false false false)
  have P0 := Lib.hid ((BoxL.new w 0 0 0 false false false false).all (below1 _ (.cells #[.int .i64 lo, .int .i64 hi, .int .i64 lo, .bool false, .bool false, .bool false, .bool false] 23)))
  have HN : Hid ((goodL ⟨lo, hi, lo, false, false, false, false⟩ = true → newL lo hi = some ⟨lo, hi, lo, false, false, false, false⟩) ∧ (goodL ⟨lo, hi, lo, false, false, false, false⟩ = false → newL lo hi = none)) := Lib.hid ⟨fun h => by unfold newL; rw [if_pos h], fun h => by unfold newL; rw [h]; rfl⟩
  skip
  generalize goodL ⟨lo, hi, lo, false, false, false, false⟩ = G at C HN
  generalize newL lo hi = o at HN hA
  rw [World.size_alloc] at P1
  go_enter Try.func13, Try.ntmps13
  go_wp2_with fail
  refine (C.out _).mono ?_
  rintro e w1 ⟨rfl, hb⟩
  have HB1 := Lib.hid (HB0.out.trans (hb.mono HB0.out.size))
  have Q0 := Lib.hid (P0.out.all hb)
  have Q1 := Lib.hid (P1.out.all hb)
  clear hb C HB0 P0 P1
  cases G with
  | false =>
    obtain rfl : o = none := HN.out.2 rfl
    rcases hA with ⟨h, -⟩ | ⟨-, ⟨rfl, rfl, rfl, rfl, rfl, rfl, rfl⟩, rfl⟩
    · cases h
    clear HN
    have c0 := Q0.out.c0
    have c1 := Q0.out.c1
    have c2 := Q0.out.c2
    have c3 := Q0.out.c3
    have c4 := Q0.out.c4
    have c5 := Q0.out.c5
    have c6 := Q0.out.c6
    have f0 := Q0.out.fz 0
    have f1 := Q0.out.fz 1
    have f2 := Q0.out.fz 2
    have f3 := Q0.out.fz 3
    have f4 := Q0.out.fz 4
    have f5 := Q0.out.fz 5
    have f6 := Q0.out.fz 6
    go_wp2_with fail
    refine bodyPost_ret (results_row1 rfl _ _ w.heap.size [.int .i64 0, .int .i64 0, .int .i64 0, .bool false, .bool false, .bool false, .bool false] _ rfl (Q0.out.sets _ _ _ _ _ _ _).rangeAt Try.underlying23 rfl (by kernel_rfl)) rfl ?_
    exact ⟨rfl, sets7_below HB1.out (Nat.le_refl _) _ _ _ _ _ _ _⟩
  | true =>
    obtain rfl : o = some ⟨lo, hi, lo, false, false, false, false⟩ := HN.out.1 rfl
    rcases hA with ⟨h, rfl⟩ | ⟨h, -⟩
    · injection h with h
      obtain ⟨rfl, rfl, rfl, rfl, rfl, rfl, rfl⟩ := TLockState.mk.inj h
      clear HN h
      have c0 := Q0.out.c0
      have c1 := Q0.out.c1
      have c2 := Q0.out.c2
      have c3 := Q0.out.c3
      have c4 := Q0.out.c4
      have c5 := Q0.out.c5
      have c6 := Q0.out.c6
      have f0 := Q0.out.fz 0
      have f1 := Q0.out.fz 1
      have f2 := Q0.out.fz 2
      have f3 := Q0.out.fz 3
      have f4 := Q0.out.fz 4
      have f5 := Q0.out.fz 5
      have f6 := Q0.out.fz 6
      have d0 := Q1.out.c0
      have d1 := Q1.out.c1
      have d2 := Q1.out.c2
      have d3 := Q1.out.c3
      have d4 := Q1.out.c4
      have d5 := Q1.out.c5
      have d6 := Q1.out.c6
      go_wp2_with fail
      refine bodyPost_ret (results_row1 rfl _ _ w.heap.size [_, _, _, _, _, _, _] _ rfl (Q0.out.sets _ _ _ _ _ _ _).rangeAt Try.underlying23 rfl (by kernel_rfl)) rfl ?_
      exact ⟨rfl, sets7_below HB1.out (Nat.le_refl _) _ _ _ _ _ _ _⟩
    · cases h
set_option maxRecDepth 100000 in
set_option maxHeartbeats 1000000 in
theorem newI_any (lo hi : Int) (R0 R1 R2 : Int) (R3 R4 R5 R6 x : Bool) (hA : AnsL (newL lo hi) R0 R1 R2 R3 R4 R5 R6 x) (w : World) :
    Calls Try.prog 14 #[.int .i64 lo, .int .i64 hi] w fun e w' => e = .returned (.tuple #[.agg #[.int .i64 R0, .int .i64 R1, .int .i64 R2, .bool R3, .bool R4, .bool R5, .bool R6], .bool x]) ∧ Below w.heap.size w w' := by
  have C := Lib.hid (fun W => hasLevels_any lo hi lo false false false false W)
  have HB0 := Lib.hid (below2 w (.cells #[.int .i64 0, .int .i64 0, .int .i64 0, .bool false, .bool false, .bool false, .bool false] 23) (.cells #[.int .i64 lo, .int .i64 hi, .int .i64 lo, .bool false, .bool false, .bool false, .bool false] 23))
  have P1 := Lib.hid (BoxL.new (w.alloc (.cells #[.int .i64 0, .int .i64 0, .int .i64 0, .bool false, .bool false, .bool false, .bool false] 23)) lo hi lo false false false false)
  have P0 := Lib.hid ((BoxL.new w 0 0 0 false false false false).all (below1 _ (.cells #[.int .i64 lo, .int .i64 hi, .int .i64 lo, .bool false, .bool false, .bool false, .bool false] 23)))
  have HN : Hid ((goodL ⟨lo, hi, lo, false, false, false, false⟩ = true → newL lo hi = some ⟨lo, hi, lo, false, false, false, false⟩) ∧ (goodL ⟨lo, hi, lo, false, false, false, false⟩ = false → newL lo hi = none)) := Lib.hid ⟨fun h => by unfold newL; rw [if_pos h], fun h => by unfold newL; rw [h]; rfl⟩
  rw [newL_lev] at HN
  generalize levL ⟨lo, hi, lo, false, false, false, false⟩ = G at C HN
  generalize newL lo hi = o at HN hA
  rw [World.size_alloc] at P1
  go_enter Try.func14, Try.ntmps14
  go_wp2_with fail
  refine (C.out _).mono ?_
  rintro e w1 ⟨rfl, hb⟩
  have HB1 := Lib.hid (HB0.out.trans (hb.mono HB0.out.size))
  have Q0 := Lib.hid (P0.out.all hb)
  have Q1 := Lib.hid (P1.out.all hb)
  clear hb C HB0 P0 P1
  cases G with
  | false =>
    obtain rfl : o = none := HN.out.2 rfl
    rcases hA with ⟨h, -⟩ | ⟨-, ⟨rfl, rfl, rfl, rfl, rfl, rfl, rfl⟩, rfl⟩
    · cases h
    clear HN
    have c0 := Q0.out.c0
    have c1 := Q0.out.c1
    have c2 := Q0.out.c2
    have c3 := Q0.out.c3
    have c4 := Q0.out.c4
    have c5 := Q0.out.c5
    have c6 := Q0.out.c6
    have f0 := Q0.out.fz 0
    have f1 := Q0.out.fz 1
    have f2 := Q0.out.fz 2
    have f3 := Q0.out.fz 3
    have f4 := Q0.out.fz 4
    have f5 := Q0.out.fz 5
    have f6 := Q0.out.fz 6
    go_wp2_with fail
    refine bodyPost_ret (results_row1 rfl _ _ w.heap.size [.int .i64 0, .int .i64 0, .int .i64 0, .bool false, .bool false, .bool false, .bool false] _ rfl (Q0.out.sets _ _ _ _ _ _ _).rangeAt Try.underlying23 rfl (by kernel_rfl)) rfl ?_
    exact ⟨rfl, sets7_below HB1.out (Nat.le_refl _) _ _ _ _ _ _ _⟩
  | true =>
    obtain rfl : o = some ⟨lo, hi, lo, false, false, false, false⟩ := HN.out.1 rfl
    rcases hA with ⟨h, rfl⟩ | ⟨h, -⟩
    · injection h with h
      obtain ⟨rfl, rfl, rfl, rfl, rfl, rfl, rfl⟩ := TLockState.mk.inj h
      clear HN h
      have c0 := Q0.out.c0
      have c1 := Q0.out.c1
      have c2 := Q0.out.c2
      have c3 := Q0.out.c3
      have c4 := Q0.out.c4
      have c5 := Q0.out.c5
      have c6 := Q0.out.c6
      have f0 := Q0.out.fz 0
      have f1 := Q0.out.fz 1
      have f2 := Q0.out.fz 2
      have f3 := Q0.out.fz 3
      have f4 := Q0.out.fz 4
      have f5 := Q0.out.fz 5
      have f6 := Q0.out.fz 6
      have d0 := Q1.out.c0
      have d1 := Q1.out.c1
      have d2 := Q1.out.c2
      have d3 := Q1.out.c3
      have d4 := Q1.out.c4
      have d5 := Q1.out.c5
      have d6 := Q1.out.c6
      go_wp2_with fail
      refine bodyPost_ret (results_row1 rfl _ _ w.heap.size [_, _, _, _, _, _, _] _ rfl (Q0.out.sets _ _ _ _ _ _ _).rangeAt Try.underlying23 rfl (by kernel_rfl)) rfl ?_
      exact ⟨rfl, sets7_below HB1.out (Nat.le_refl _) _ _ _ _ _ _ _⟩
    · cases h
end Go.Proofs.Ytmnagjjpncancaa
