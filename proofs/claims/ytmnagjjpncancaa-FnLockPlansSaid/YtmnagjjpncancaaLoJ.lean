/- Chapter 5: commands one after the other and the water drawn. -/
import Derived.Test.YtmnagjjpncancaaLoI
namespace Go.Proofs.Ytmnagjjpncancaa
open Go.RowKit Go.PlainAid Go.Sort
set_option linter.unusedVariables false
set_option linter.unusedSimpArgs false

set_option maxRecDepth 100000 in
set_option maxHeartbeats 2000000 in
theorem runS_any (l u v : Int) (a b c d : Bool) (A : Option Addr) (n cp B : Nat) (zs : List Int) (R0 R1 R2 : Int) (R3 R4 R5 R6 : Bool) (m : Int) (x : Bool) (hA : AnsR (goodL ⟨l, u, v, a, b, c, d⟩ = true ∧ n ≤ 60) (runL ⟨l, u, v, a, b, c, d⟩ zs) R0 R1 R2 R3 R4 R5 R6 m x)
    (w : World) (hn : zs.length = n) (hm : n ≤ maxLen) (hB : B ≤ w.heap.size) (h : Has w B A (zs.map (.int .i64))) :
    Calls Try.prog 21 #[.agg #[.int .i64 l, .int .i64 u, .int .i64 v, .bool a, .bool b, .bool c, .bool d], .slice A n cp] w fun e w' => e = .returned (.tuple #[.agg #[.int .i64 R0, .int .i64 R1, .int .i64 R2, .bool R3, .bool R4, .bool R5, .bool R6], .int .i64 m, .bool x]) ∧ Below w.heap.size w w' := by
  have C := Lib.hid (fun W => l5Good_any l u v a b c d W)
  have HB0 := Lib.hid (below2 w (.cells #[.int .i64 l, .int .i64 u, .int .i64 v, .bool a, .bool b, .bool c, .bool d] 23) (.cells #[.int .i64 0, .int .i64 0, .int .i64 0, .bool false, .bool false, .bool false, .bool false] 23))
  have CR := Lib.hid (fun (h60 : n ≤ 60) W (hb : Below w.heap.size w W) => l5Run_any l u v a b c d A n cp B zs W hn (by omega) (Nat.le_trans hB hb.size) (h.below (hb.mono hB)))
  have P0 := Lib.hid ((BoxL.new w l u v a b c d).all (below1 _ (.cells #[.int .i64 0, .int .i64 0, .int .i64 0, .bool false, .bool false, .bool false, .bool false] 23)))
  have P1 := Lib.hid (BoxL.new (w.alloc (.cells #[.int .i64 l, .int .i64 u, .int .i64 v, .bool a, .bool b, .bool c, .bool d] 23)) 0 0 0 false false false false)
  rw [World.size_alloc] at P1
  unfold maxLen at hm
  have hnn : (n : Int) ≤ 9223372036854775807 := by omega
  clear hn h hB
  go_enter Try.func21, Try.ntmps21
  go_wp2_with fail
  refine (C.out _).mono ?_
  rintro e w1 ⟨rfl, hb⟩
  have HB1 := Lib.hid (HB0.out.trans (hb.mono HB0.out.size))
  have Q0 := Lib.hid (P0.out.all hb)
  have Q1 := Lib.hid (P1.out.all hb)
  clear hb C HB0 P0 P1
  cases hG : goodL ⟨l, u, v, a, b, c, d⟩ with
  | false =>
    rcases hA with ⟨⟨h, -⟩, -⟩ | ⟨-, ⟨rfl, rfl, rfl, rfl, rfl, rfl, rfl⟩, rfl, rfl⟩
    · rw [hG] at h; cases h
    clear hG CR
    have c0 := Q1.out.c0
    have c1 := Q1.out.c1
    have c2 := Q1.out.c2
    have c3 := Q1.out.c3
    have c4 := Q1.out.c4
    have c5 := Q1.out.c5
    have c6 := Q1.out.c6
    have f0 := Q1.out.fz 0
    have f1 := Q1.out.fz 1
    have f2 := Q1.out.fz 2
    have f3 := Q1.out.fz 3
    have f4 := Q1.out.fz 4
    have f5 := Q1.out.fz 5
    have f6 := Q1.out.fz 6
    go_wp2_with fail
    refine bodyPost_ret (results_row2 rfl _ _ (w.heap.size + 1) [.int .i64 0, .int .i64 0, .int .i64 0, .bool false, .bool false, .bool false, .bool false] _ rfl (Q1.out.sets _ _ _ _ _ _ _).rangeAt Try.underlying23 rfl (by kernel_rfl)) rfl ?_
    exact ⟨rfl, sets7_below HB1.out (by omega) _ _ _ _ _ _ _⟩
  | true =>
    by_cases hn60 : n ≤ 60
    · rcases hA with ⟨-, hp, hpm, rfl⟩ | ⟨h, -⟩
      · have CR2 := Lib.hid (CR.out hn60)
        have hi60 : ¬ (60 : Int) < (n : Int) := by omega
        rw [hp, hpm] at CR2
        generalize riseL ⟨l, u, v, a, b, c, d⟩ zs = q at CR2
        clear hG hp hpm CR hn60
        have c0 := Q0.out.c0
        have c1 := Q0.out.c1
        have c2 := Q0.out.c2
        have c3 := Q0.out.c3
        have c4 := Q0.out.c4
        have c5 := Q0.out.c5
        have c6 := Q0.out.c6
        go_wp2_with fail
        refine (CR2.out _ HB1.out).mono ?_
        rintro e w2 ⟨rfl, hb⟩
        have HB2 := Lib.hid ((HB1.out.trans (hb.mono HB1.out.size)).alloc (HB1.out.trans (hb.mono HB1.out.size)).size (.cells #[.int .i64 R0, .int .i64 R1, .int .i64 R2, .bool R3, .bool R4, .bool R5, .bool R6] 23))
        have Q12 := Lib.hid ((Q1.out.all hb).all (below1 w2 (.cells #[.int .i64 R0, .int .i64 R1, .int .i64 R2, .bool R3, .bool R4, .bool R5, .bool R6] 23)))
        clear hb CR2 HB1 Q0 Q1 c0 c1 c2 c3 c4 c5 c6
        have c0 := Q12.out.c0
        have c1 := Q12.out.c1
        have c2 := Q12.out.c2
        have c3 := Q12.out.c3
        have c4 := Q12.out.c4
        have c5 := Q12.out.c5
        have c6 := Q12.out.c6
        have f0 := Q12.out.fz 0
        have f1 := Q12.out.fz 1
        have f2 := Q12.out.fz 2
        have f3 := Q12.out.fz 3
        have f4 := Q12.out.fz 4
        have f5 := Q12.out.fz 5
        have f6 := Q12.out.fz 6
        go_wp2_with fail
        refine bodyPost_ret (results_row2 rfl _ _ (w.heap.size + 1) [_, _, _, _, _, _, _] _ rfl (Q12.out.sets _ _ _ _ _ _ _).rangeAt Try.underlying23 rfl (by kernel_rfl)) rfl ?_
        exact ⟨rfl, sets7_below HB2.out (by omega) _ _ _ _ _ _ _⟩
      · exact absurd ⟨hG, hn60⟩ h
    · rcases hA with ⟨⟨-, h⟩, -⟩ | ⟨-, ⟨rfl, rfl, rfl, rfl, rfl, rfl, rfl⟩, rfl, rfl⟩
      · exact absurd h hn60
      have hi60 : (60 : Int) < (n : Int) := by omega
      clear hG CR
      have c0 := Q1.out.c0
      have c1 := Q1.out.c1
      have c2 := Q1.out.c2
      have c3 := Q1.out.c3
      have c4 := Q1.out.c4
      have c5 := Q1.out.c5
      have c6 := Q1.out.c6
      have f0 := Q1.out.fz 0
      have f1 := Q1.out.fz 1
      have f2 := Q1.out.fz 2
      have f3 := Q1.out.fz 3
      have f4 := Q1.out.fz 4
      have f5 := Q1.out.fz 5
      have f6 := Q1.out.fz 6
      go_wp2_with fail
      refine bodyPost_ret (results_row2 rfl _ _ (w.heap.size + 1) [.int .i64 0, .int .i64 0, .int .i64 0, .bool false, .bool false, .bool false, .bool false] _ rfl (Q1.out.sets _ _ _ _ _ _ _).rangeAt Try.underlying23 rfl (by kernel_rfl)) rfl ?_
      exact ⟨rfl, sets7_below HB1.out (by omega) _ _ _ _ _ _ _⟩

def waterO (s : TLockState) (zs : List Int) (n : Nat) : Option Int := if goodL s = true ∧ n ≤ 60 then some (riseL s zs) else none
set_option maxRecDepth 100000 in
set_option maxHeartbeats 2000000 in
theorem waterS_any (l u v : Int) (a b c d : Bool) (A : Option Addr) (n cp B : Nat) (zs : List Int) (r : Int) (x : Bool) (hA : AnsN (waterO ⟨l, u, v, a, b, c, d⟩ zs n) r x)
    (w : World) (hn : zs.length = n) (hm : n ≤ maxLen) (hB : B ≤ w.heap.size) (h : Has w B A (zs.map (.int .i64))) :
    Calls Try.prog 31 #[.agg #[.int .i64 l, .int .i64 u, .int .i64 v, .bool a, .bool b, .bool c, .bool d], .slice A n cp] w fun e w' => e = .returned (.tuple #[.int .i64 r, .bool x]) ∧ Below w.heap.size w w' := by
  have C := Lib.hid (fun W => l5Good_any l u v a b c d W)
  have HB0 := Lib.hid (below1 w (.cells #[.int .i64 l, .int .i64 u, .int .i64 v, .bool a, .bool b, .bool c, .bool d] 23))
  have CR := Lib.hid (fun (h60 : n ≤ 60) W (hb : Below w.heap.size w W) => l5Run_any l u v a b c d A n cp B zs W hn (by omega) (Nat.le_trans hB hb.size) (h.below (hb.mono hB)))
  have P0 := Lib.hid (BoxL.new w l u v a b c d)
  unfold maxLen at hm
  unfold waterO at hA
  have hnn : (n : Int) ≤ 9223372036854775807 := by omega
  clear hn h hB
  go_enter Try.func31, Try.ntmps31
  go_wp2_with fail
  refine (C.out _).mono ?_
  rintro e w1 ⟨rfl, hb⟩
  have HB1 := Lib.hid (HB0.out.trans (hb.mono HB0.out.size))
  have Q0 := Lib.hid (P0.out.all hb)
  clear hb C HB0 P0
  cases hG : goodL ⟨l, u, v, a, b, c, d⟩ with
  | false =>
    rw [if_neg (by rw [hG]; simp)] at hA
    rcases hA with ⟨h, -⟩ | ⟨-, rfl, rfl⟩
    · cases h
    clear hG CR
    go_wp2_with fail
    refine bodyPost_ret (results_tmp2 rfl _ _ _) rfl ?_
    exact ⟨rfl, HB1.out⟩
  | true =>
    by_cases hn60 : n ≤ 60
    · rw [if_pos ⟨hG, hn60⟩] at hA
      rcases hA with ⟨h, rfl⟩ | ⟨h, -⟩
      · injection h with h
        have CR2 := Lib.hid (CR.out hn60)
        have hi60 : ¬ (60 : Int) < (n : Int) := by omega
        rw [h] at CR2
        obtain ⟨⟨⟨R0, R1, R2, R3, R4, R5, R6⟩, m⟩, hP⟩ : ∃ p, runL ⟨l, u, v, a, b, c, d⟩ zs = p := ⟨_, rfl⟩
        rw [hP] at CR2
        dsimp only at CR2
        clear hG h hP CR hn60
        have c0 := Q0.out.c0
        have c1 := Q0.out.c1
        have c2 := Q0.out.c2
        have c3 := Q0.out.c3
        have c4 := Q0.out.c4
        have c5 := Q0.out.c5
        have c6 := Q0.out.c6
        go_wp2_with fail
        refine (CR2.out _ HB1.out).mono ?_
        rintro e w2 ⟨rfl, hb⟩
        have HB2 := Lib.hid ((HB1.out.trans (hb.mono HB1.out.size)).alloc (HB1.out.trans (hb.mono HB1.out.size)).size (.cells #[.int .i64 R0, .int .i64 R1, .int .i64 R2, .bool R3, .bool R4, .bool R5, .bool R6] 23))
        clear hb CR2 HB1 Q0 c0 c1 c2 c3 c4 c5 c6
        go_wp2_with fail
        refine bodyPost_ret (results_tmp2 rfl _ _ _) rfl ?_
        exact ⟨rfl, HB2.out⟩
      · cases h
    · rw [if_neg (fun h => hn60 h.2)] at hA
      rcases hA with ⟨h, -⟩ | ⟨-, rfl, rfl⟩
      · cases h
      have hi60 : (60 : Int) < (n : Int) := by omega
      clear hG CR
      go_wp2_with fail
      refine bodyPost_ret (results_tmp2 rfl _ _ _) rfl ?_
      exact ⟨rfl, HB1.out⟩

theorem riseL_none {s : TLockState} : ∀ {L : List Int}, (runL s L).2 = 0 → riseL s L = 0
  | [], _ => rfl
  | c :: cs, h => by
    cases hs : stepL s c with
    | none => simp [riseL, hs]
    | some t => simp [runL, hs] at h
attribute [local go_sem] ite_minL ite_maxL
set_option maxRecDepth 100000 in
set_option maxHeartbeats 4000000 in
theorem waterI_any (l u v : Int) (a b c d : Bool) (ad : Addr) (n cp B : Nat) (zs : List Int) (r : Int) (x : Bool) (hA : AnsN (waterO ⟨l, u, v, a, b, c, d⟩ zs n) r x)
    (w : World) (hn : zs.length = n) (hm : n ≤ maxLen) (hcp : n ≤ cp) (hcm : cp ≤ maxLen) (hB : B ≤ w.heap.size) (h : Has w B (some ad) (zs.map (.int .i64))) :
    Calls Try.prog 32 #[.agg #[.int .i64 l, .int .i64 u, .int .i64 v, .bool a, .bool b, .bool c, .bool d], .slice (some ad) n cp] w fun e w' => e = .returned (.tuple #[.int .i64 r, .bool x]) ∧ Below w.heap.size w w' := by
  obtain ⟨R0, R1, R2, R3, R4, R5, R6, m', y, hR⟩ := ansR_ex (goodL ⟨l, u, v, a, b, c, d⟩ = true ∧ n ≤ 60) (runL ⟨l, u, v, a, b, c, d⟩ zs)
  have CR := Lib.hid (fun W (hb : Below w.heap.size w W) => runI_any l u v a b c d (some ad) n cp B zs R0 R1 R2 R3 R4 R5 R6 m' y hR W hn hm (Nat.le_trans hB hb.size) (h.below (hb.mono hB)))
  have CS := Lib.hid (fun l u v a b c d k R0 R1 R2 R3 R4 R5 R6 x hA W => stepI_any l u v a b c d k R0 R1 R2 R3 R4 R5 R6 x hA W)
  have HZ := Lib.hid (fun W (hb : Below w.heap.size w W) => h.below (hb.mono hB))
  have HB0 := Lib.hid (below1 w (.cells #[.int .i64 l, .int .i64 u, .int .i64 v, .bool a, .bool b, .bool c, .bool d] 23))
  have P0 := Lib.hid (BoxL.new w l u v a b c d)
  have hle := runL_le zs ⟨l, u, v, a, b, c, d⟩
  have HLn := Lib.hid hn
  have HR := Lib.hid hR
  rw [hn] at hle
  unfold maxLen at hm hcm
  unfold waterO at hA
  clear hn h hB hR
  go_enter Try.func32, Try.ntmps32
  go_wp2_with fail
  refine (CR.out _ HB0.out).mono ?_
  rintro e w1 ⟨rfl, hb⟩
  have HB1 := Lib.hid ((HB0.out.trans (hb.mono HB0.out.size)).alloc (HB0.out.trans (hb.mono HB0.out.size)).size (.cells #[.int .i64 R0, .int .i64 R1, .int .i64 R2, .bool R3, .bool R4, .bool R5, .bool R6] 23))
  have Q0 := Lib.hid ((P0.out.all hb).all (below1 w1 (.cells #[.int .i64 R0, .int .i64 R1, .int .i64 R2, .bool R3, .bool R4, .bool R5, .bool R6] 23)))
  clear hb CR HB0 P0
  rcases HR.out with ⟨hok, hp, hpm, rfl⟩ | ⟨hok, -, -, rfl⟩
  · rw [if_pos hok] at hA
    rcases hA with ⟨h, rfl⟩ | ⟨h, -⟩
    · injection h with h
      obtain ⟨m, hm2⟩ : ∃ m, (runL ⟨l, u, v, a, b, c, d⟩ zs).2 = m := ⟨_, rfl⟩
      rw [hm2] at hle hpm
      subst hpm
      have HM := Lib.hid hm2
      have HRR := Lib.hid h
      have hn60 : n ≤ 60 := hok.2
      have hm0 : (0 : Int) ≤ (m : Int) := by omega
      have hm1 : (m : Int) ≤ (cp : Int) := by omega
      have hm60 : m ≤ 60 := by omega
      clear h hm2 hp hok HR
      obtain ⟨xb, hxb⟩ : ∃ y, w.heap.size = y := ⟨_, rfl⟩
      have HXB := Lib.hid hxb
      rw [hxb] at Q0
      go_wp2_with fail
      try simp only [hxb]
      clear hxb
      go_loopw [9, 27] (fun q i wr => ∃ (k : Nat) (S0 S1 S2 : Int) (S3 S4 S5 S6 : Bool) (g : Int), k ≤ m ∧ i = .int .i64 k ∧ q = .int .i64 g ∧ (0 ≤ g ∧ g ≤ 2000 * (k : Int)) ∧ Hid (runL ⟨l, u, v, a, b, c, d⟩ zs = ((runL ⟨S0, S1, S2, S3, S4, S5, S6⟩ (zs.drop k)).1, (runL ⟨S0, S1, S2, S3, S4, S5, S6⟩ (zs.drop k)).2 + k) ∧ riseL ⟨l, u, v, a, b, c, d⟩ zs = g + riseL ⟨S0, S1, S2, S3, S4, S5, S6⟩ (zs.drop k)) ∧ Hid (Below w.heap.size w wr) ∧ Hid (BoxL wr xb S0 S1 S2 S3 S4 S5 S6)) (fun _ i _ => m - (intOf i).toNat)
      case atStart => exact ⟨0, l, u, v, a, b, c, d, 0, Nat.zero_le _, rfl, rfl, ⟨by omega, by omega⟩, Lib.hid ⟨rfl, by simp⟩, HB1, Q0⟩
      case round =>
        clear HB1 Q0
        obtain ⟨k, S0, S1, S2, S3, S4, S5, S6, g, hk, rfl, rfl, ⟨g0, g1⟩, hrun, HB1, Q0⟩ := hrel
        by_cases hlt : k < m
        · have hkl : k < zs.length := by rw [HLn.out]; omega
          obtain ⟨a1, hae, hab, e1⟩ := (HZ.out _ HB1.out).intAt hkl
          injection hae with hae
          subst hae
          have HNX := Lib.hid (fun t (h : stepL ⟨S0, S1, S2, S3, S4, S5, S6⟩ zs[k] = some t) => (runL_next (s := ⟨S0, S1, S2, S3, S4, S5, S6⟩) (t := t) hkl (by rw [getD_at hkl]; exact h)))
          have HNO := Lib.hid (fun (h : stepL ⟨S0, S1, S2, S3, S4, S5, S6⟩ zs[k] = none) => (runL_stop (s := ⟨S0, S1, S2, S3, S4, S5, S6⟩) hkl (by rw [getD_at hkl]; exact h)))
          generalize zs[k] = z at e1 HNX HNO
          obtain ⟨T0, T1, T2, T3, T4, T5, T6, y, hT⟩ := ansL_ex (stepL ⟨S0, S1, S2, S3, S4, S5, S6⟩ z)
          have CS2 := Lib.hid (fun W => CS.out S0 S1 S2 S3 S4 S5 S6 z T0 T1 T2 T3 T4 T5 T6 y hT W)
          rcases hT with ⟨hs, rfl⟩ | ⟨hs, -⟩
          · obtain ⟨⟨lv0, lv1⟩, lv2, lv3⟩ := stepL_lev hs
            dsimp only at lv0 lv1 lv2 lv3
            obtain ⟨y1, hy1⟩ : ∃ y, max (T2 - S2) 0 = y := ⟨_, rfl⟩
            have hyb : 0 ≤ y1 ∧ y1 ≤ 2000 := by omega
            have HY1 := Lib.hid hy1
            have HRN : Hid (runL ⟨l, u, v, a, b, c, d⟩ zs = ((runL ⟨T0, T1, T2, T3, T4, T5, T6⟩ (zs.drop (k + 1))).1, (runL ⟨T0, T1, T2, T3, T4, T5, T6⟩ (zs.drop (k + 1))).2 + (k + 1)) ∧ riseL ⟨l, u, v, a, b, c, d⟩ zs = g + y1 + riseL ⟨T0, T1, T2, T3, T4, T5, T6⟩ (zs.drop (k + 1))) := Lib.hid (by
              obtain ⟨n1, n2⟩ := HNX.out _ hs
              refine ⟨?_, ?_⟩
              · rw [hrun.out.1, n1]
                congr 1
                dsimp only
                omega
              · rw [hrun.out.2, n2]
                dsimp only
                omega)
            obtain ⟨yb0, yb1⟩ := hyb
            have hk0 : (0 : Int) ≤ (k : Int) := by omega
            have hk1 : (k : Int) < (m : Int) := by omega
            clear hs hrun HNX HNO hy1 CS
            have c0 := Q0.out.c0
            have c1 := Q0.out.c1
            have c2 := Q0.out.c2
            have c3 := Q0.out.c3
            have c4 := Q0.out.c4
            have c5 := Q0.out.c5
            have c6 := Q0.out.c6
            go_wp2_with fail
            refine (CS2.out _).mono ?_
            rintro e w2 ⟨rfl, hb⟩
            have HB2 := Lib.hid ((HB1.out.trans (hb.mono HB1.out.size)).alloc (HB1.out.trans (hb.mono HB1.out.size)).size (.cells #[.int .i64 T0, .int .i64 T1, .int .i64 T2, .bool T3, .bool T4, .bool T5, .bool T6] 23))
            have Q2 := Lib.hid ((Q0.out.all hb).all (below1 w2 (.cells #[.int .i64 T0, .int .i64 T1, .int .i64 T2, .bool T3, .bool T4, .bool T5, .bool T6] 23)))
            clear hb CS2 HB1 Q0 c0 c1 c2 c3 c4 c5 c6
            have hy2 := HY1.out
            have c0 := Q2.out.c0
            have c1 := Q2.out.c1
            have c2 := Q2.out.c2
            have c3 := Q2.out.c3
            have c4 := Q2.out.c4
            have c5 := Q2.out.c5
            have c6 := Q2.out.c6
            have f0 := Q2.out.fz 0
            have f1 := Q2.out.fz 1
            have f2 := Q2.out.fz 2
            have f3 := Q2.out.fz 3
            have f4 := Q2.out.fz 4
            have f5 := Q2.out.fz 5
            have f6 := Q2.out.fz 6
            go_wp2_with fail
            go_roundw
            case rel => exact ⟨k + 1, T0, T1, T2, T3, T4, T5, T6, g + y1, by omega, by go_num, by go_num, ⟨by omega, by push_cast; omega⟩, HRN, Lib.hid (sets7_below HB2.out (by have := HXB.out; omega) _ _ _ _ _ _ _), Lib.hid (Q2.out.sets _ _ _ _ _ _ _)⟩
            case measure => simp [intOf]; omega
          · exfalso
            have h1 := hrun.out.1
            rw [(HNO.out hs).1] at h1
            have h2 := HM.out
            rw [h1] at h2
            dsimp only at h2
            omega
        · obtain rfl : k = m := by omega
          have hr2 := hrun.out.2
          rw [riseL_none (s := ⟨S0, S1, S2, S3, S4, S5, S6⟩) (L := zs.drop k) (by have h1 := HM.out; rw [hrun.out.1] at h1; dsimp only at h1; omega)] at hr2
          obtain rfl : g = r := by have := HRR.out; omega
          clear hrun hr2 CS
          go_wp2_with fail
          refine bodyPost_ret (results_tmp2 rfl _ _ _) rfl ?_
          exact ⟨rfl, HB1.out⟩
    · cases h
  · rw [if_neg hok] at hA
    rcases hA with ⟨h, -⟩ | ⟨-, rfl, rfl⟩
    · cases h
    clear HR hok
    go_wp2_with fail
    refine bodyPost_ret (results_tmp2 rfl _ _ _) rfl ?_
    exact ⟨rfl, HB1.out⟩
end Go.Proofs.Ytmnagjjpncancaa
