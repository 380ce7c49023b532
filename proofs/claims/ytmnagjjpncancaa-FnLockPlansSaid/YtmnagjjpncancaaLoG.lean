/- Chapter 5: one command, the model's and the program's way. -/
import Derived.Test.YtmnagjjpncancaaLoF
namespace Go.Proofs.Ytmnagjjpncancaa
open Go.RowKit Go.PlainAid Go.Sort
set_option linter.unusedVariables false
set_option linter.unusedSimpArgs false

theorem ansL_none {R0 R1 R2 : Int} {R3 R4 R5 R6 x : Bool} (h : AnsL none R0 R1 R2 R3 R4 R5 R6 x) : R0 = 0 ∧ R1 = 0 ∧ R2 = 0 ∧ R3 = false ∧ R4 = false ∧ R5 = false ∧ R6 = false ∧ x = false := by
  rcases h with ⟨h, -⟩ | ⟨-, ⟨h0, h1, h2, h3, h4, h5, h6⟩, h7⟩
  · cases h
  · exact ⟨h0, h1, h2, h3, h4, h5, h6, h7⟩
theorem ansL_some {T0 T1 T2 : Int} {T3 T4 T5 T6 : Bool} {R0 R1 R2 : Int} {R3 R4 R5 R6 x : Bool} (h : AnsL (some ⟨T0, T1, T2, T3, T4, T5, T6⟩) R0 R1 R2 R3 R4 R5 R6 x) : T0 = R0 ∧ T1 = R1 ∧ T2 = R2 ∧ T3 = R3 ∧ T4 = R4 ∧ T5 = R5 ∧ T6 = R6 ∧ x = true := by
  rcases h with ⟨h, h7⟩ | ⟨h, -⟩
  · injection h with h
    obtain ⟨h0, h1, h2, h3, h4, h5, h6⟩ := TLockState.mk.inj h
    exact ⟨h0, h1, h2, h3, h4, h5, h6, h7⟩
  · cases h
theorem stepL_turn {s : TLockState} (k : Int) (h : goodL s = true) : stepL s k = if (turnL s k).2 = true then (if goodL (turnL s k).1 = true then some (turnL s k).1 else none) else none := by
  unfold stepL
  rw [if_pos h, setL_turn]
  split <;> rfl

set_option maxRecDepth 100000 in
set_option maxHeartbeats 2000000 in
theorem stepI_any (l u v : Int) (a b c d : Bool) (k : Int) (R0 R1 R2 : Int) (R3 R4 R5 R6 x : Bool) (hA : AnsL (stepL ⟨l, u, v, a, b, c, d⟩ k) R0 R1 R2 R3 R4 R5 R6 x) (w : World) :
    Calls Try.prog 20 #[.agg #[.int .i64 l, .int .i64 u, .int .i64 v, .bool a, .bool b, .bool c, .bool d], .int .i64 k] w fun e w' => e = .returned (.tuple #[.agg #[.int .i64 R0, .int .i64 R1, .int .i64 R2, .bool R3, .bool R4, .bool R5, .bool R6], .bool x]) ∧ Below w.heap.size w w' := by
  have C := Lib.hid (fun W => safeI_any l u v a b c d W)
  have CG := Lib.hid (fun l u v a b c d W => safeI_any l u v a b c d W)
  have HB0 := Lib.hid (below2 w (.cells #[.int .i64 l, .int .i64 u, .int .i64 v, .bool a, .bool b, .bool c, .bool d] 23) (.cells #[.int .i64 0, .int .i64 0, .int .i64 0, .bool false, .bool false, .bool false, .bool false] 23))
  have P0 := Lib.hid ((BoxL.new w l u v a b c d).all (below1 _ (.cells #[.int .i64 0, .int .i64 0, .int .i64 0, .bool false, .bool false, .bool false, .bool false] 23)))
  have P1 := Lib.hid (BoxL.new (w.alloc (.cells #[.int .i64 l, .int .i64 u, .int .i64 v, .bool a, .bool b, .bool c, .bool d] 23)) 0 0 0 false false false false)
  rw [World.size_alloc] at P1
  go_enter Try.func20, Try.ntmps20
  go_wp2_with fail
  refine (C.out _).mono ?_
  rintro e w1 ⟨rfl, hb⟩
  have HB1 := Lib.hid (HB0.out.trans (hb.mono HB0.out.size))
  have Q0 := Lib.hid (P0.out.all hb)
  have Q1 := Lib.hid (P1.out.all hb)
  clear hb C HB0 P0 P1
  cases hG : goodL ⟨l, u, v, a, b, c, d⟩ with
  | false =>
    rw [show stepL ⟨l, u, v, a, b, c, d⟩ k = none by unfold stepL; rw [hG]; rfl] at hA
    obtain ⟨rfl, rfl, rfl, rfl, rfl, rfl, rfl, rfl⟩ := ansL_none hA
    clear hA hG CG
    have c0 := Q1.out.c0
    have c1 := Q1.out.c1
    have c2 := Q1.out.c2
    have c3 := Q1.out.c3
    have c4 := Q1.out.c4
    have c5 := Q1.out.c5
    have c6 := Q1.out.c6
    have f0 := Q1.out.fz 0
    have f1 := Q1.out.fz 1
    have f2 := Q1.out.fz 2
    have f3 := Q1.out.fz 3
    have f4 := Q1.out.fz 4
    have f5 := Q1.out.fz 5
    have f6 := Q1.out.fz 6
    go_wp2_with fail
    refine bodyPost_ret (results_row1 rfl _ _ (w.heap.size + 1) [.int .i64 0, .int .i64 0, .int .i64 0, .bool false, .bool false, .bool false, .bool false] _ rfl (Q1.out.sets _ _ _ _ _ _ _).rangeAt Try.underlying23 rfl (by kernel_rfl)) rfl ?_
    exact ⟨rfl, sets7_below HB1.out (by omega) _ _ _ _ _ _ _⟩
  | true =>
    have CT := Lib.hid (fun W => afterC_any l u v a b c d k W (goodL_levs hG))
    obtain ⟨⟨⟨T0, T1, T2, T3, T4, T5, T6⟩, y⟩, hT⟩ : ∃ p, turnL ⟨l, u, v, a, b, c, d⟩ k = p := ⟨_, rfl⟩
    have HN : Hid ((y = false ∨ goodL ⟨T0, T1, T2, T3, T4, T5, T6⟩ = false) → AnsL none R0 R1 R2 R3 R4 R5 R6 x) := Lib.hid (fun hn => by
      rw [stepL_turn k hG, hT] at hA
      dsimp only at hA
      rcases hn with hn | hn
      · rw [hn] at hA; exact hA
      · rw [hn] at hA
        cases y <;> exact hA)
    have HY : Hid ((y = true ∧ goodL ⟨T0, T1, T2, T3, T4, T5, T6⟩ = true) → AnsL (some ⟨T0, T1, T2, T3, T4, T5, T6⟩) R0 R1 R2 R3 R4 R5 R6 x) := Lib.hid (fun hn => by
      rw [stepL_turn k hG, hT] at hA
      dsimp only at hA
      rw [hn.1, hn.2] at hA
      exact hA)
    rw [hT] at CT
    dsimp only at CT
    clear hA hT hG
    have c0 := Q0.out.c0
    have c1 := Q0.out.c1
    have c2 := Q0.out.c2
    have c3 := Q0.out.c3
    have c4 := Q0.out.c4
    have c5 := Q0.out.c5
    have c6 := Q0.out.c6
    go_wp2_with fail
    clear c0 c1 c2 c3 c4 c5 c6
    refine (CT.out _).mono ?_
    rintro e w2 ⟨rfl, hb⟩
    have HB2 := Lib.hid ((HB1.out.trans (hb.mono HB1.out.size)).alloc (HB1.out.trans (hb.mono HB1.out.size)).size (.cells #[.int .i64 T0, .int .i64 T1, .int .i64 T2, .bool T3, .bool T4, .bool T5, .bool T6] 23))
    have Q12 := Lib.hid ((Q1.out.all hb).all (below1 w2 (.cells #[.int .i64 T0, .int .i64 T1, .int .i64 T2, .bool T3, .bool T4, .bool T5, .bool T6] 23)))
    have Q2 := Lib.hid (BoxL.new w2 T0 T1 T2 T3 T4 T5 T6)
    clear hb HB1 Q0 Q1
    cases y with
    | false =>
      obtain ⟨rfl, rfl, rfl, rfl, rfl, rfl, rfl, rfl⟩ := ansL_none (HN.out (by simp))
      clear HN HY Q2
      have c0 := Q12.out.c0
      have c1 := Q12.out.c1
      have c2 := Q12.out.c2
      have c3 := Q12.out.c3
      have c4 := Q12.out.c4
      have c5 := Q12.out.c5
      have c6 := Q12.out.c6
      have f0 := Q12.out.fz 0
      have f1 := Q12.out.fz 1
      have f2 := Q12.out.fz 2
      have f3 := Q12.out.fz 3
      have f4 := Q12.out.fz 4
      have f5 := Q12.out.fz 5
      have f6 := Q12.out.fz 6
      go_wp2_with fail
      refine bodyPost_ret (results_row1 rfl _ _ (w.heap.size + 1) [.int .i64 0, .int .i64 0, .int .i64 0, .bool false, .bool false, .bool false, .bool false] _ rfl (Q12.out.sets _ _ _ _ _ _ _).rangeAt Try.underlying23 rfl (by kernel_rfl)) rfl ?_
      exact ⟨rfl, sets7_below HB2.out (by omega) _ _ _ _ _ _ _⟩
    | true =>
      go_wp2_with fail
      refine (CG.out T0 T1 T2 T3 T4 T5 T6 _).mono ?_
      rintro e w3 ⟨rfl, hb⟩
      have HB3 := Lib.hid (HB2.out.trans (hb.mono HB2.out.size))
      have Q13 := Lib.hid (Q12.out.all hb)
      have Q23 := Lib.hid (Q2.out.all hb)
      clear hb HB2 Q12 Q2
      cases hG : goodL ⟨T0, T1, T2, T3, T4, T5, T6⟩ with
      | false =>
        obtain ⟨rfl, rfl, rfl, rfl, rfl, rfl, rfl, rfl⟩ := ansL_none (HN.out (by simp [hG]))
        clear HN HY Q23 hG
        have c0 := Q13.out.c0
        have c1 := Q13.out.c1
        have c2 := Q13.out.c2
        have c3 := Q13.out.c3
        have c4 := Q13.out.c4
        have c5 := Q13.out.c5
        have c6 := Q13.out.c6
        have f0 := Q13.out.fz 0
        have f1 := Q13.out.fz 1
        have f2 := Q13.out.fz 2
        have f3 := Q13.out.fz 3
        have f4 := Q13.out.fz 4
        have f5 := Q13.out.fz 5
        have f6 := Q13.out.fz 6
        go_wp2_with fail
        refine bodyPost_ret (results_row1 rfl _ _ (w.heap.size + 1) [.int .i64 0, .int .i64 0, .int .i64 0, .bool false, .bool false, .bool false, .bool false] _ rfl (Q13.out.sets _ _ _ _ _ _ _).rangeAt Try.underlying23 rfl (by kernel_rfl)) rfl ?_
        exact ⟨rfl, sets7_below HB3.out (by omega) _ _ _ _ _ _ _⟩
      | true =>
        obtain ⟨rfl, rfl, rfl, rfl, rfl, rfl, rfl, rfl⟩ := ansL_some (HY.out (by simp [hG]))
        clear HN HY hG
        have e0 := Q23.out.c0
        have e1 := Q23.out.c1
        have e2 := Q23.out.c2
        have e3 := Q23.out.c3
        have e4 := Q23.out.c4
        have e5 := Q23.out.c5
        have e6 := Q23.out.c6
        have c0 := Q13.out.c0
        have c1 := Q13.out.c1
        have c2 := Q13.out.c2
        have c3 := Q13.out.c3
        have c4 := Q13.out.c4
        have c5 := Q13.out.c5
        have c6 := Q13.out.c6
        have f0 := Q13.out.fz 0
        have f1 := Q13.out.fz 1
        have f2 := Q13.out.fz 2
        have f3 := Q13.out.fz 3
        have f4 := Q13.out.fz 4
        have f5 := Q13.out.fz 5
        have f6 := Q13.out.fz 6
        go_wp2_with fail
        refine bodyPost_ret (results_row1 rfl _ _ (w.heap.size + 1) [_, _, _, _, _, _, _] _ rfl (Q13.out.sets _ _ _ _ _ _ _).rangeAt Try.underlying23 rfl (by kernel_rfl)) rfl ?_
        exact ⟨rfl, sets7_below HB3.out (by omega) _ _ _ _ _ _ _⟩
set_option maxRecDepth 100000 in
set_option maxHeartbeats 2000000 in
theorem stepS_any (l u v : Int) (a b c d : Bool) (k : Int) (R0 R1 R2 : Int) (R3 R4 R5 R6 x : Bool) (hA : AnsL (stepL ⟨l, u, v, a, b, c, d⟩ k) R0 R1 R2 R3 R4 R5 R6 x) (w : World) :
    Calls Try.prog 19 #[.agg #[.int .i64 l, .int .i64 u, .int .i64 v, .bool a, .bool b, .bool c, .bool d], .int .i64 k] w fun e w' => e = .returned (.tuple #[.agg #[.int .i64 R0, .int .i64 R1, .int .i64 R2, .bool R3, .bool R4, .bool R5, .bool R6], .bool x]) ∧ Below w.heap.size w w' := by
  have CI := Lib.hid (fun W => l1In_any k 1 9 W)
  have C := Lib.hid (fun W => l5Good_any l u v a b c d W)
  have CG := Lib.hid (fun l u v a b c d W => l5Good_any l u v a b c d W)
  have HB0 := Lib.hid (below2 w (.cells #[.int .i64 l, .int .i64 u, .int .i64 v, .bool a, .bool b, .bool c, .bool d] 23) (.cells #[.int .i64 0, .int .i64 0, .int .i64 0, .bool false, .bool false, .bool false, .bool false] 23))
  have P0 := Lib.hid ((BoxL.new w l u v a b c d).all (below1 _ (.cells #[.int .i64 0, .int .i64 0, .int .i64 0, .bool false, .bool false, .bool false, .bool false] 23)))
  have P1 := Lib.hid (BoxL.new (w.alloc (.cells #[.int .i64 l, .int .i64 u, .int .i64 v, .bool a, .bool b, .bool c, .bool d] 23)) 0 0 0 false false false false)
  rw [World.size_alloc] at P1
  go_enter Try.func19, Try.ntmps19
  go_wp2_with fail
  refine (C.out _).mono ?_
  rintro e w1 ⟨rfl, hb⟩
  have HB1 := Lib.hid (HB0.out.trans (hb.mono HB0.out.size))
  have Q0 := Lib.hid (P0.out.all hb)
  have Q1 := Lib.hid (P1.out.all hb)
  clear hb C HB0 P0 P1
  cases hG : goodL ⟨l, u, v, a, b, c, d⟩ with
  | false =>
    rw [show stepL ⟨l, u, v, a, b, c, d⟩ k = none by unfold stepL; rw [hG]; rfl] at hA
    obtain ⟨rfl, rfl, rfl, rfl, rfl, rfl, rfl, rfl⟩ := ansL_none hA
    clear hA hG CG CI
    have c0 := Q1.out.c0
    have c1 := Q1.out.c1
    have c2 := Q1.out.c2
    have c3 := Q1.out.c3
    have c4 := Q1.out.c4
    have c5 := Q1.out.c5
    have c6 := Q1.out.c6
    have f0 := Q1.out.fz 0
    have f1 := Q1.out.fz 1
    have f2 := Q1.out.fz 2
    have f3 := Q1.out.fz 3
    have f4 := Q1.out.fz 4
    have f5 := Q1.out.fz 5
    have f6 := Q1.out.fz 6
    go_wp2_with fail
    refine bodyPost_ret (results_row1 rfl _ _ (w.heap.size + 1) [.int .i64 0, .int .i64 0, .int .i64 0, .bool false, .bool false, .bool false, .bool false] _ rfl (Q1.out.sets _ _ _ _ _ _ _).rangeAt Try.underlying23 rfl (by kernel_rfl)) rfl ?_
    exact ⟨rfl, sets7_below HB1.out (by omega) _ _ _ _ _ _ _⟩
  | true =>
    go_wp2_with fail
    refine (CI.out _).mono ?_
    rintro e w1' ⟨rfl, rfl⟩
    clear CI
    by_cases hk : 1 ≤ k ∧ k ≤ 9
    · rw [decide_eq_true hk]
      by_cases h9 : k = 9
      · subst h9
        have CT := Lib.hid (fun W => l5Wait_any l u v a b c d W (goodL_levs hG) (((goodL_iff _).1 hG).2.2.1))
        rw [waitL_step hG] at hA
        dsimp only at hA
        generalize waitL ⟨l, u, v, a, b, c, d⟩ = z at CT hA
        obtain ⟨rfl, rfl, rfl, rfl, rfl, rfl, rfl, rfl⟩ := ansL_some hA
        clear hA hG hk CG
        have c0 := Q0.out.c0
        have c1 := Q0.out.c1
        have c2 := Q0.out.c2
        have c3 := Q0.out.c3
        have c4 := Q0.out.c4
        have c5 := Q0.out.c5
        have c6 := Q0.out.c6
        go_wp2_with fail
        refine (CT.out _).mono ?_
        rintro e w2 ⟨rfl, hb⟩
        have HB2 := Lib.hid (HB1.out.trans (hb.mono HB1.out.size))
        have Q12 := Lib.hid (Q1.out.all hb)
        clear hb HB1 Q0 Q1 CT c0 c1 c2 c3 c4 c5 c6
        have c0 := Q12.out.c0
        have c1 := Q12.out.c1
        have c2 := Q12.out.c2
        have c3 := Q12.out.c3
        have c4 := Q12.out.c4
        have c5 := Q12.out.c5
        have c6 := Q12.out.c6
        have f0 := Q12.out.fz 0
        have f1 := Q12.out.fz 1
        have f2 := Q12.out.fz 2
        have f3 := Q12.out.fz 3
        have f4 := Q12.out.fz 4
        have f5 := Q12.out.fz 5
        have f6 := Q12.out.fz 6
        go_wp2_with fail
        refine bodyPost_ret (results_row1 rfl _ _ (w.heap.size + 1) [_, _, _, _, _, _, _] _ rfl (Q12.out.sets _ _ _ _ _ _ _).rangeAt Try.underlying23 rfl (by kernel_rfl)) rfl ?_
        exact ⟨rfl, sets7_below HB2.out (by omega) _ _ _ _ _ _ _⟩
      · have CT := Lib.hid (fun W => l5Turn_any l u v a b c d k W (by omega))
        obtain ⟨⟨⟨T0, T1, T2, T3, T4, T5, T6⟩, y⟩, hT⟩ : ∃ p, turnL ⟨l, u, v, a, b, c, d⟩ k = p := ⟨_, rfl⟩
        have HN : Hid ((y = false ∨ goodL ⟨T0, T1, T2, T3, T4, T5, T6⟩ = false) → AnsL none R0 R1 R2 R3 R4 R5 R6 x) := Lib.hid (fun hn => by
          rw [stepL_turn k hG, hT] at hA
          dsimp only at hA
          rcases hn with hn | hn
          · rw [hn] at hA; exact hA
          · rw [hn] at hA
            cases y <;> exact hA)
        have HY : Hid ((y = true ∧ goodL ⟨T0, T1, T2, T3, T4, T5, T6⟩ = true) → AnsL (some ⟨T0, T1, T2, T3, T4, T5, T6⟩) R0 R1 R2 R3 R4 R5 R6 x) := Lib.hid (fun hn => by
          rw [stepL_turn k hG, hT] at hA
          dsimp only at hA
          rw [hn.1, hn.2] at hA
          exact hA)
        rw [hT] at CT
        dsimp only at CT
        have hk9 : (k == 9) = false := by simp [h9]
        clear hA hT hG hk
        have c0 := Q0.out.c0
        have c1 := Q0.out.c1
        have c2 := Q0.out.c2
        have c3 := Q0.out.c3
        have c4 := Q0.out.c4
        have c5 := Q0.out.c5
        have c6 := Q0.out.c6
        go_wp2_with fail
        clear c0 c1 c2 c3 c4 c5 c6
        refine (CT.out _).mono ?_
        rintro e w2 ⟨rfl, hb⟩
        have HB2 := Lib.hid ((HB1.out.trans (hb.mono HB1.out.size)).alloc (HB1.out.trans (hb.mono HB1.out.size)).size (.cells #[.int .i64 T0, .int .i64 T1, .int .i64 T2, .bool T3, .bool T4, .bool T5, .bool T6] 23))
        have Q12 := Lib.hid ((Q1.out.all hb).all (below1 w2 (.cells #[.int .i64 T0, .int .i64 T1, .int .i64 T2, .bool T3, .bool T4, .bool T5, .bool T6] 23)))
        have Q2 := Lib.hid (BoxL.new w2 T0 T1 T2 T3 T4 T5 T6)
        clear hb HB1 Q0 Q1
        cases y with
        | false =>
          obtain ⟨rfl, rfl, rfl, rfl, rfl, rfl, rfl, rfl⟩ := ansL_none (HN.out (by simp))
          clear HN HY Q2
          have c0 := Q12.out.c0
          have c1 := Q12.out.c1
          have c2 := Q12.out.c2
          have c3 := Q12.out.c3
          have c4 := Q12.out.c4
          have c5 := Q12.out.c5
          have c6 := Q12.out.c6
          have f0 := Q12.out.fz 0
          have f1 := Q12.out.fz 1
          have f2 := Q12.out.fz 2
          have f3 := Q12.out.fz 3
          have f4 := Q12.out.fz 4
          have f5 := Q12.out.fz 5
          have f6 := Q12.out.fz 6
          go_wp2_with fail
          refine bodyPost_ret (results_row1 rfl _ _ (w.heap.size + 1) [.int .i64 0, .int .i64 0, .int .i64 0, .bool false, .bool false, .bool false, .bool false] _ rfl (Q12.out.sets _ _ _ _ _ _ _).rangeAt Try.underlying23 rfl (by kernel_rfl)) rfl ?_
          exact ⟨rfl, sets7_below HB2.out (by omega) _ _ _ _ _ _ _⟩
        | true =>
          go_wp2_with fail
          refine (CG.out T0 T1 T2 T3 T4 T5 T6 _).mono ?_
          rintro e w3 ⟨rfl, hb⟩
          have HB3 := Lib.hid (HB2.out.trans (hb.mono HB2.out.size))
          have Q13 := Lib.hid (Q12.out.all hb)
          have Q23 := Lib.hid (Q2.out.all hb)
          clear hb HB2 Q12 Q2
          cases hG : goodL ⟨T0, T1, T2, T3, T4, T5, T6⟩ with
          | false =>
            obtain ⟨rfl, rfl, rfl, rfl, rfl, rfl, rfl, rfl⟩ := ansL_none (HN.out (by simp [hG]))
            clear HN HY Q23 hG
            have c0 := Q13.out.c0
            have c1 := Q13.out.c1
            have c2 := Q13.out.c2
            have c3 := Q13.out.c3
            have c4 := Q13.out.c4
            have c5 := Q13.out.c5
            have c6 := Q13.out.c6
            have f0 := Q13.out.fz 0
            have f1 := Q13.out.fz 1
            have f2 := Q13.out.fz 2
            have f3 := Q13.out.fz 3
            have f4 := Q13.out.fz 4
            have f5 := Q13.out.fz 5
            have f6 := Q13.out.fz 6
            go_wp2_with fail
            refine bodyPost_ret (results_row1 rfl _ _ (w.heap.size + 1) [.int .i64 0, .int .i64 0, .int .i64 0, .bool false, .bool false, .bool false, .bool false] _ rfl (Q13.out.sets _ _ _ _ _ _ _).rangeAt Try.underlying23 rfl (by kernel_rfl)) rfl ?_
            exact ⟨rfl, sets7_below HB3.out (by omega) _ _ _ _ _ _ _⟩
          | true =>
            obtain ⟨rfl, rfl, rfl, rfl, rfl, rfl, rfl, rfl⟩ := ansL_some (HY.out (by simp [hG]))
            clear HN HY hG
            have e0 := Q23.out.c0
            have e1 := Q23.out.c1
            have e2 := Q23.out.c2
            have e3 := Q23.out.c3
            have e4 := Q23.out.c4
            have e5 := Q23.out.c5
            have e6 := Q23.out.c6
            have c0 := Q13.out.c0
            have c1 := Q13.out.c1
            have c2 := Q13.out.c2
            have c3 := Q13.out.c3
            have c4 := Q13.out.c4
            have c5 := Q13.out.c5
            have c6 := Q13.out.c6
            have f0 := Q13.out.fz 0
            have f1 := Q13.out.fz 1
            have f2 := Q13.out.fz 2
            have f3 := Q13.out.fz 3
            have f4 := Q13.out.fz 4
            have f5 := Q13.out.fz 5
            have f6 := Q13.out.fz 6
            go_wp2_with fail
            refine bodyPost_ret (results_row1 rfl _ _ (w.heap.size + 1) [_, _, _, _, _, _, _] _ rfl (Q13.out.sets _ _ _ _ _ _ _).rangeAt Try.underlying23 rfl (by kernel_rfl)) rfl ?_
            exact ⟨rfl, sets7_below HB3.out (by omega) _ _ _ _ _ _ _⟩
    · rw [decide_eq_false hk]
      rw [show stepL ⟨l, u, v, a, b, c, d⟩ k = none by rw [stepL_turn k hG, show turnL ⟨l, u, v, a, b, c, d⟩ k = (⟨l, u, v, a, b, c, d⟩, false) by (unfold turnL; rw [if_neg (by omega), if_neg (by omega), if_neg (by omega), if_neg (by omega), if_neg (by omega), if_neg (by omega), if_neg (by omega), if_neg (by omega), if_neg (by omega)])]; rfl] at hA
      obtain ⟨rfl, rfl, rfl, rfl, rfl, rfl, rfl, rfl⟩ := ansL_none hA
      clear hA hG CG hk
      have c0 := Q1.out.c0
      have c1 := Q1.out.c1
      have c2 := Q1.out.c2
      have c3 := Q1.out.c3
      have c4 := Q1.out.c4
      have c5 := Q1.out.c5
      have c6 := Q1.out.c6
      have f0 := Q1.out.fz 0
      have f1 := Q1.out.fz 1
      have f2 := Q1.out.fz 2
      have f3 := Q1.out.fz 3
      have f4 := Q1.out.fz 4
      have f5 := Q1.out.fz 5
      have f6 := Q1.out.fz 6
      go_wp2_with fail
      refine bodyPost_ret (results_row1 rfl _ _ (w.heap.size + 1) [.int .i64 0, .int .i64 0, .int .i64 0, .bool false, .bool false, .bool false, .bool false] _ rfl (Q1.out.sets _ _ _ _ _ _ _).rangeAt Try.underlying23 rfl (by kernel_rfl)) rfl ?_
      exact ⟨rfl, sets7_below HB1.out (by omega) _ _ _ _ _ _ _⟩
end Go.Proofs.Ytmnagjjpncancaa
