/- Chapter 5: commands one after the other: the program. -/
import Derived.Test.YtmnagjjpncancaaLoG
namespace Go.Proofs.Ytmnagjjpncancaa
open Go.RowKit Go.PlainAid Go.Sort
set_option linter.unusedVariables false
set_option linter.unusedSimpArgs false

theorem grown_sets7 (W : World) (g : Nat) (l u v : Int) (a b c d : Bool) : W.grownBy (sets7 W g l u v a b c d) (some g) :=
  ((((((grown_setL W g 0 _).trans (grown_setL _ g 1 _)).trans (grown_setL _ g 2 _)).trans (grown_setL _ g 3 _)).trans (grown_setL _ g 4 _)).trans (grown_setL _ g 5 _)).trans (grown_setL _ g 6 _)
/-- What is answered of the commands made. -/
def AnsR (ok : Prop) (p : TLockState × Nat) (R0 R1 R2 : Int) (R3 R4 R5 R6 : Bool) (m : Int) (x : Bool) : Prop :=
  (ok ∧ p.1 = ⟨R0, R1, R2, R3, R4, R5, R6⟩ ∧ (p.2 : Int) = m ∧ x = true) ∨ (¬ ok ∧ (R0 = 0 ∧ R1 = 0 ∧ R2 = 0 ∧ R3 = false ∧ R4 = false ∧ R5 = false ∧ R6 = false) ∧ m = 0 ∧ x = false)
theorem ansR_ex (ok : Prop) (p : TLockState × Nat) : ∃ R0 R1 R2 R3 R4 R5 R6 m x, AnsR ok p R0 R1 R2 R3 R4 R5 R6 m x := by
  by_cases h : ok
  · exact ⟨p.1.x0, p.1.x1, p.1.x2, p.1.x3, p.1.x4, p.1.x5, p.1.x6, p.2, true, .inl ⟨h, rfl, rfl, rfl⟩⟩
  · exact ⟨0, 0, 0, false, false, false, false, 0, false, .inr ⟨h, ⟨rfl, rfl, rfl, rfl, rfl, rfl, rfl⟩, rfl, rfl⟩⟩
theorem getD_at {zs : List Int} {k : Nat} (h : k < zs.length) : zs.getD k 0 = zs[k] := by
  rw [List.getD_eq_getElem?_getD, List.getElem?_eq_getElem h]
  rfl
theorem runL_end (s : TLockState) (zs : List Int) : runL s (zs.drop zs.length) = (s, 0) ∧ riseL s (zs.drop zs.length) = 0 := by
  rw [List.drop_length]
  exact ⟨rfl, rfl⟩

set_option maxRecDepth 100000 in
set_option maxHeartbeats 4000000 in
theorem runI_any (l u v : Int) (a b c d : Bool) (A : Option Addr) (n cp B : Nat) (zs : List Int) (R0 R1 R2 : Int) (R3 R4 R5 R6 : Bool) (m : Int) (x : Bool) (hA : AnsR (goodL ⟨l, u, v, a, b, c, d⟩ = true ∧ n ≤ 60) (runL ⟨l, u, v, a, b, c, d⟩ zs) R0 R1 R2 R3 R4 R5 R6 m x)
    (w : World) (hn : zs.length = n) (hm : n ≤ maxLen) (hB : B ≤ w.heap.size) (h : Has w B A (zs.map (.int .i64))) :
    Calls Try.prog 23 #[.agg #[.int .i64 l, .int .i64 u, .int .i64 v, .bool a, .bool b, .bool c, .bool d], .slice A n cp] w fun e w' => e = .returned (.tuple #[.agg #[.int .i64 R0, .int .i64 R1, .int .i64 R2, .bool R3, .bool R4, .bool R5, .bool R6], .int .i64 m, .bool x]) ∧ Below w.heap.size w w' := by
  have C := Lib.hid (fun W => safeI_any l u v a b c d W)
  have CS := Lib.hid (fun l u v a b c d k R0 R1 R2 R3 R4 R5 R6 x hA W => stepI_any l u v a b c d k R0 R1 R2 R3 R4 R5 R6 x hA W)
  have HZ := Lib.hid (fun W (hb : Below w.heap.size w W) => h.below (hb.mono hB))
  have HLn := Lib.hid hn
  have HB0 := Lib.hid (below2 w (.cells #[.int .i64 l, .int .i64 u, .int .i64 v, .bool a, .bool b, .bool c, .bool d] 23) (.cells #[.int .i64 0, .int .i64 0, .int .i64 0, .bool false, .bool false, .bool false, .bool false] 23))
  have P0 := Lib.hid ((BoxL.new w l u v a b c d).all (below1 _ (.cells #[.int .i64 0, .int .i64 0, .int .i64 0, .bool false, .bool false, .bool false, .bool false] 23)))
  have P1 := Lib.hid (BoxL.new (w.alloc (.cells #[.int .i64 l, .int .i64 u, .int .i64 v, .bool a, .bool b, .bool c, .bool d] 23)) 0 0 0 false false false false)
  have HXB0 := Lib.hid (Nat.le_refl w.heap.size)
  rw [World.size_alloc] at P1
  unfold maxLen at hm
  have hnn : (n : Int) ≤ 9223372036854775807 := by omega
  clear hn h hB
  go_enter Try.func23, Try.ntmps23
  go_wp2_with fail
  refine (C.out _).mono ?_
  rintro e w1 ⟨rfl, hb⟩
  have HB1 := Lib.hid (HB0.out.trans (hb.mono HB0.out.size))
  have Q0 := Lib.hid (P0.out.all hb)
  have Q1 := Lib.hid (P1.out.all hb)
  clear hb C HB0 P0 P1
  cases hG : goodL ⟨l, u, v, a, b, c, d⟩ with
  | false =>
    rcases hA with ⟨⟨h, -⟩, -⟩ | ⟨-, ⟨rfl, rfl, rfl, rfl, rfl, rfl, rfl⟩, rfl, rfl⟩
    · rw [hG] at h; cases h
    clear hG CS HZ HLn
    have c0 := Q1.out.c0
    have c1 := Q1.out.c1
    have c2 := Q1.out.c2
    have c3 := Q1.out.c3
    have c4 := Q1.out.c4
    have c5 := Q1.out.c5
    have c6 := Q1.out.c6
    have f0 := Q1.out.fz 0
    have f1 := Q1.out.fz 1
    have f2 := Q1.out.fz 2
    have f3 := Q1.out.fz 3
    have f4 := Q1.out.fz 4
    have f5 := Q1.out.fz 5
    have f6 := Q1.out.fz 6
    go_wp2_with fail
    refine bodyPost_ret (results_row2 rfl _ _ (w.heap.size + 1) [.int .i64 0, .int .i64 0, .int .i64 0, .bool false, .bool false, .bool false, .bool false] _ rfl (Q1.out.sets _ _ _ _ _ _ _).rangeAt Try.underlying23 rfl (by kernel_rfl)) rfl ?_
    exact ⟨rfl, sets7_below HB1.out (by omega) _ _ _ _ _ _ _⟩
  | true =>
    by_cases hn60 : n ≤ 60
    · rcases hA with ⟨-, hp, hpm, rfl⟩ | ⟨h, -⟩
      · have HP := Lib.hid hp
        have HPM := Lib.hid hpm
        have hi60 : ¬ (60 : Int) < (n : Int) := by omega
        obtain ⟨xb, hxb⟩ : ∃ y, w.heap.size = y := ⟨_, rfl⟩
        have HXB := Lib.hid hxb
        rw [hxb] at Q0 Q1
        clear hG hp hpm
        go_wp2_with fail
        try simp only [hxb]
        clear hxb
        go_loopw [22] (fun i wr => ∃ (k : Nat) (S0 S1 S2 : Int) (S3 S4 S5 S6 : Bool), k ≤ n ∧ i = .int .i64 k ∧ Hid (runL ⟨l, u, v, a, b, c, d⟩ zs = ((runL ⟨S0, S1, S2, S3, S4, S5, S6⟩ (zs.drop k)).1, (runL ⟨S0, S1, S2, S3, S4, S5, S6⟩ (zs.drop k)).2 + k)) ∧ Hid (Below w.heap.size w wr) ∧ Hid (BoxL wr xb S0 S1 S2 S3 S4 S5 S6) ∧ Hid (BoxL wr (xb + 1) 0 0 0 false false false false)) (fun i _ => n - (intOf i).toNat)
        case atStart => exact ⟨0, l, u, v, a, b, c, d, Nat.zero_le _, rfl, Lib.hid rfl, HB1, Q0, Q1⟩
        case round =>
          clear HB1 Q0 Q1
          obtain ⟨k, S0, S1, S2, S3, S4, S5, S6, hk, rfl, hrun, HB1, Q0, Q1⟩ := hrel
          by_cases hlt : k < n
          · have hkl : k < zs.length := by rw [HLn.out]; exact hlt
            obtain ⟨a1, rfl, hab, e1⟩ := (HZ.out _ HB1.out).intAt hkl
            have HNX := Lib.hid (fun t (h : stepL ⟨S0, S1, S2, S3, S4, S5, S6⟩ zs[k] = some t) => (runL_next (s := ⟨S0, S1, S2, S3, S4, S5, S6⟩) (t := t) hkl (by rw [getD_at hkl]; exact h)).1)
            have HNO := Lib.hid (fun (h : stepL ⟨S0, S1, S2, S3, S4, S5, S6⟩ zs[k] = none) => (runL_stop (s := ⟨S0, S1, S2, S3, S4, S5, S6⟩) hkl (by rw [getD_at hkl]; exact h)).1)
            generalize zs[k] = z at e1 HNX HNO
            obtain ⟨T0, T1, T2, T3, T4, T5, T6, y, hT⟩ := ansL_ex (stepL ⟨S0, S1, S2, S3, S4, S5, S6⟩ z)
            have CS2 := Lib.hid (fun W => CS.out S0 S1 S2 S3 S4 S5 S6 z T0 T1 T2 T3 T4 T5 T6 y hT W)
            have hk0 : (0 : Int) ≤ (k : Int) := by omega
            have hk1 : (k : Int) < (n : Int) := by omega
            have c0 := Q0.out.c0
            have c1 := Q0.out.c1
            have c2 := Q0.out.c2
            have c3 := Q0.out.c3
            have c4 := Q0.out.c4
            have c5 := Q0.out.c5
            have c6 := Q0.out.c6
            go_wp2_with fail
            refine (CS2.out _).mono ?_
            rintro e w2 ⟨rfl, hb⟩
            have HB2 := Lib.hid ((HB1.out.trans (hb.mono HB1.out.size)).alloc (HB1.out.trans (hb.mono HB1.out.size)).size (.cells #[.int .i64 T0, .int .i64 T1, .int .i64 T2, .bool T3, .bool T4, .bool T5, .bool T6] 23))
            have Q2 := Lib.hid ((Q0.out.all hb).all (below1 w2 (.cells #[.int .i64 T0, .int .i64 T1, .int .i64 T2, .bool T3, .bool T4, .bool T5, .bool T6] 23)))
            have Q3 := Lib.hid ((Q1.out.all hb).all (below1 w2 (.cells #[.int .i64 T0, .int .i64 T1, .int .i64 T2, .bool T3, .bool T4, .bool T5, .bool T6] 23)))
            clear hb CS2 HB1 Q0 Q1 c0 c1 c2 c3 c4 c5 c6
            rcases hT with ⟨hs, rfl⟩ | ⟨hs, ⟨rfl, rfl, rfl, rfl, rfl, rfl, rfl⟩, rfl⟩
            · have HR : Hid (runL ⟨l, u, v, a, b, c, d⟩ zs = ((runL ⟨T0, T1, T2, T3, T4, T5, T6⟩ (zs.drop (k + 1))).1, (runL ⟨T0, T1, T2, T3, T4, T5, T6⟩ (zs.drop (k + 1))).2 + (k + 1))) := Lib.hid (by
                rw [hrun.out, HNX.out _ hs]
                congr 1
                dsimp only
                omega)
              clear hs hrun HNX HNO
              have c0 := Q2.out.c0
              have c1 := Q2.out.c1
              have c2 := Q2.out.c2
              have c3 := Q2.out.c3
              have c4 := Q2.out.c4
              have c5 := Q2.out.c5
              have c6 := Q2.out.c6
              have f0 := Q2.out.fz 0
              have f1 := Q2.out.fz 1
              have f2 := Q2.out.fz 2
              have f3 := Q2.out.fz 3
              have f4 := Q2.out.fz 4
              have f5 := Q2.out.fz 5
              have f6 := Q2.out.fz 6
              go_wp2_with fail
              go_roundw
              case rel => exact ⟨k + 1, T0, T1, T2, T3, T4, T5, T6, by omega, by go_num, HR, Lib.hid (sets7_below HB2.out (by have := HXB.out; omega) _ _ _ _ _ _ _), Lib.hid (Q2.out.sets _ _ _ _ _ _ _), Lib.hid (Q3.out.kept (grown_sets7 _ _ _ _ _ _ _ _ _) (by simp))⟩
              case measure => simp [intOf]; omega
            · have hr := hrun.out
              rw [HNO.out hs] at hr
              rw [hr] at HP HPM
              dsimp only at HP HPM
              obtain ⟨rfl, rfl, rfl, rfl, rfl, rfl, rfl⟩ := TLockState.mk.inj HP.out
              obtain rfl : (k : Int) = m := by have := HPM.out; omega
              clear hs hrun HNX HNO hr HP HPM
              have e0 := Q2.out.c0
              have e1 := Q2.out.c1
              have e2 := Q2.out.c2
              have e3 := Q2.out.c3
              have e4 := Q2.out.c4
              have e5 := Q2.out.c5
              have e6 := Q2.out.c6
              have c0 := Q3.out.c0
              have c1 := Q3.out.c1
              have c2 := Q3.out.c2
              have c3 := Q3.out.c3
              have c4 := Q3.out.c4
              have c5 := Q3.out.c5
              have c6 := Q3.out.c6
              have f0 := Q3.out.fz 0
              have f1 := Q3.out.fz 1
              have f2 := Q3.out.fz 2
              have f3 := Q3.out.fz 3
              have f4 := Q3.out.fz 4
              have f5 := Q3.out.fz 5
              have f6 := Q3.out.fz 6
              go_wp2_with fail
              refine bodyPost_ret (results_row2 rfl _ _ (xb + 1) [_, _, _, _, _, _, _] _ rfl (Q3.out.sets _ _ _ _ _ _ _).rangeAt Try.underlying23 rfl (by kernel_rfl)) rfl ?_
              exact ⟨rfl, sets7_below HB2.out (by have := HXB.out; omega) _ _ _ _ _ _ _⟩
          · obtain rfl : k = n := by omega
            have hr := hrun.out
            rw [← HLn.out, (runL_end _ zs).1, HLn.out] at hr
            rw [hr] at HP HPM
            dsimp only at HP HPM
            obtain ⟨rfl, rfl, rfl, rfl, rfl, rfl, rfl⟩ := TLockState.mk.inj HP.out
            obtain rfl : (k : Int) = m := by have := HPM.out; omega
            clear hrun hr HP HPM
            have e0 := Q0.out.c0
            have e1 := Q0.out.c1
            have e2 := Q0.out.c2
            have e3 := Q0.out.c3
            have e4 := Q0.out.c4
            have e5 := Q0.out.c5
            have e6 := Q0.out.c6
            have c0 := Q1.out.c0
            have c1 := Q1.out.c1
            have c2 := Q1.out.c2
            have c3 := Q1.out.c3
            have c4 := Q1.out.c4
            have c5 := Q1.out.c5
            have c6 := Q1.out.c6
            have f0 := Q1.out.fz 0
            have f1 := Q1.out.fz 1
            have f2 := Q1.out.fz 2
            have f3 := Q1.out.fz 3
            have f4 := Q1.out.fz 4
            have f5 := Q1.out.fz 5
            have f6 := Q1.out.fz 6
            go_wp2_with fail
            refine bodyPost_ret (results_row2 rfl _ _ (xb + 1) [_, _, _, _, _, _, _] _ rfl (Q1.out.sets _ _ _ _ _ _ _).rangeAt Try.underlying23 rfl (by kernel_rfl)) rfl ?_
            exact ⟨rfl, sets7_below HB1.out (by have := HXB.out; omega) _ _ _ _ _ _ _⟩
      · exact absurd ⟨hG, hn60⟩ h
    · rcases hA with ⟨⟨-, h⟩, -⟩ | ⟨-, ⟨rfl, rfl, rfl, rfl, rfl, rfl, rfl⟩, rfl, rfl⟩
      · exact absurd h hn60
      have hi60 : (60 : Int) < (n : Int) := by omega
      clear hG CS HZ HLn
      have c0 := Q1.out.c0
      have c1 := Q1.out.c1
      have c2 := Q1.out.c2
      have c3 := Q1.out.c3
      have c4 := Q1.out.c4
      have c5 := Q1.out.c5
      have c6 := Q1.out.c6
      have f0 := Q1.out.fz 0
      have f1 := Q1.out.fz 1
      have f2 := Q1.out.fz 2
      have f3 := Q1.out.fz 3
      have f4 := Q1.out.fz 4
      have f5 := Q1.out.fz 5
      have f6 := Q1.out.fz 6
      go_wp2_with fail
      refine bodyPost_ret (results_row2 rfl _ _ (w.heap.size + 1) [.int .i64 0, .int .i64 0, .int .i64 0, .bool false, .bool false, .bool false, .bool false] _ rfl (Q1.out.sets _ _ _ _ _ _ _).rangeAt Try.underlying23 rfl (by kernel_rfl)) rfl ?_
      exact ⟨rfl, sets7_below HB1.out (by omega) _ _ _ _ _ _ _⟩
end Go.Proofs.Ytmnagjjpncancaa
