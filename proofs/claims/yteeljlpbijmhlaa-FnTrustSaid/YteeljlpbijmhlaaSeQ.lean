/- Chapter 6: whether bounds are bounds; in how many a level is: the model and the program. -/
import Derived.Test.YteeljlpbijmhlaaSeN
import Derived.Test.YteeljlpbijmhlaaSeA
import Derived.BigQuiet
namespace Go.Proofs.Yteeljlpbijmhlaa
open Go.RowKit Go.PlainAid Go.Sort
set_option linter.unusedVariables false
set_option linter.unusedSimpArgs false

theorem toBelow7 {P : Program} {f : FuncId} {args : Array Value} {w : World} {E : Ending} (h : Calls P f args w fun e w' => e = E ∧ w = w') : Calls P f args w fun e w' => e = E ∧ Below w.heap.size w w' :=
  h.mono fun _ _ ⟨a, b⟩ => ⟨a, b ▸ Below.refl _ _⟩
theorem IsBounds.at {w : World} {B n : Nat} {A : Option Addr} {vs : List TBound} (h : IsBounds w B A n vs) {k : Nat} (hk : k < n) : ∃ a, A = some a ∧ a.block < B ∧ BoundAt w a k (vs.getD k noBound) := h.has.Bound (by rw [h.len]; exact hk)
theorem below1q (w : World) (o : Obj) : Below w.heap.size w (w.alloc o) := (Below.refl _ _).alloc (Nat.le_refl _) _

set_option maxHeartbeats 1000000 in
theorem areB_any {w : World} {B n : Nat} {A : Option Addr} {vs : List TBound} (c : Nat) (h : IsBounds w B A n vs) (hm : n ≤ 1048576) :
    Calls Try.prog 81 #[.slice A n c] w fun e w' => e = .returned (.bool (decide (bndS vs))) ∧ Below w.heap.size w w' := by
  have CI := Lib.hid (fun (x a b : Int) (W : World) => inRange_any x a b W)
  have HI := Lib.hid h
  obtain ⟨R, hR⟩ : ∃ R, decide (bndS vs) = R := ⟨_, rfl⟩
  rw [hR]
  have C0 := Lib.hid (fun W => inRange_any (n : Int) 1 8 W)
  by_cases h8 : 1 ≤ (n : Int) ∧ (n : Int) ≤ 8
  · have HN : Hid (∀ k, k < n → ¬ goodB (vs.getD k noBound) → R = false) := Lib.hid (fun k hk hg => by
      rw [← hR]
      exact decide_eq_false fun hs => hg (bndS_at hs (by rw [h.len]; exact hk)))
    have HY : Hid ((∀ k, k < n → goodB (vs.getD k noBound)) → R = true) := Lib.hid (fun hg => by
      rw [← hR]
      refine decide_eq_true ⟨fun v hv => ?_, by rw [h.len]; omega, by rw [h.len]; omega⟩
      obtain ⟨k, hk, rfl⟩ := List.getElem_of_mem hv
      rw [← getBound hk]
      exact hg k (by rw [← h.len]; exact hk))
    rw [decide_eq_true h8] at C0
    clear h hR
    go_enter Try.func81, Try.ntmps81
    go_wp2_with fail
    refine (C0.out _).mono ?_
    rintro e w1 ⟨rfl, rfl⟩
    clear C0
    go_wp2_with fail
    go_loopw [11] (fun i wr => ∃ k : Nat, k ≤ n ∧ i = .int .i64 k ∧ Hid (∀ j, j < k → goodB (vs.getD j noBound)) ∧ Below w.heap.size w wr) (fun i _ => n - (intOf i).toNat)
    case atStart => exact ⟨0, Nat.zero_le _, rfl, Lib.hid (fun j hj => absurd hj (by omega)), Below.refl _ _⟩
    case round =>
      obtain ⟨k, hk, rfl, hall, hb⟩ := hrel
      have HB := Lib.hid hb
      by_cases hlt : k < n
      · obtain ⟨a1, ha1, hab, HV⟩ := (HI.out.below hb HI.out.low).at hlt
        have HF := Lib.hid (HN.out k hlt)
        have HA : Hid (goodB (vs.getD k noBound) → ∀ j, j < k + 1 → goodB (vs.getD j noBound)) := Lib.hid (fun h j hj => by
          rcases Nat.lt_succ_iff_lt_or_eq.1 hj with h1 | h1
          · exact hall.out j h1
          · exact h1 ▸ h)
        subst ha1
        generalize vs.getD k noBound = V at HV HF HA
        obtain ⟨x, y⟩ := V
        obtain ⟨e0, e1⟩ := HV
        dsimp only at e0 e1
        have hk0 : (0 : Int) ≤ (k : Int) := by omega
        have hk1 : (k : Int) < (n : Int) := by omega
        have HB2 := Lib.hid (HB.out.trans ((below1q wr (.cells #[.int .i64 x, .int .i64 y] 46)).mono HB.out.size))
        have C1 := Lib.hid (fun W => CI.out x 0 y W)
        clear hall hb HN CI
        by_cases g0 : 0 ≤ x ∧ x ≤ y
        · rw [decide_eq_true g0] at C1
          by_cases g1 : y ≤ 2000
          · have hd : ¬ (2000 < y) := by omega
            have HR := Lib.hid (HA.out ⟨g0.1, g0.2, g1⟩)
            clear HA HF g0 g1
            go_wp2_with fail
            refine (C1.out _).mono ?_
            rintro e w2 ⟨rfl, rfl⟩
            clear C1
            go_wp2_with fail
            go_roundw
            case rel => exact ⟨k + 1, by omega, by go_num, HR, HB2.out⟩
            case measure => simp [intOf]; omega
          · obtain rfl : R = false := HF.out (fun g => g1 g.2.2)
            have hd : 2000 < y := by omega
            clear HA HF g0 g1 HY
            go_wp2_with fail
            refine (C1.out _).mono ?_
            rintro e w2 ⟨rfl, rfl⟩
            clear C1
            go_wp2_with fail
            go_ret
            exact ⟨rfl, HB2.out⟩
        · obtain rfl : R = false := HF.out (fun g => g0 ⟨g.1, g.2.1⟩)
          rw [decide_eq_false g0] at C1
          clear HA HF g0 HY
          go_wp2_with fail
          refine (C1.out _).mono ?_
          rintro e w2 ⟨rfl, rfl⟩
          clear C1
          go_wp2_with fail
          go_ret
          exact ⟨rfl, HB2.out⟩
      · obtain rfl : k = n := by omega
        obtain rfl : R = true := HY.out hall.out
        clear HN HI CI hall hb
        go_wp2_with fail
        go_ret
        exact ⟨rfl, HB.out⟩
  · obtain rfl : R = false := by
      rw [← hR]
      exact decide_eq_false fun g => h8 (by have h1 := g.2.1; have h2 := g.2.2; rw [h.len] at h1 h2; omega)
    rw [decide_eq_false h8] at C0
    clear h hR HI CI
    go_enter Try.func81, Try.ntmps81
    go_wp2_with fail
    refine (C0.out _).mono ?_
    rintro e w1 ⟨rfl, rfl⟩
    go_wp2_with fail
    go_ret
    exact ⟨rfl, Below.refl _ _⟩

set_option maxHeartbeats 1000000 in
theorem l6Bounds_any {w : World} {B n : Nat} {A : Option Addr} {vs : List TBound} (c : Nat) (h : IsBounds w B A n vs) (hm : n ≤ 1048576) :
    Calls Try.prog 78 #[.slice A n c] w fun e w' => e = .returned (.bool (decide (bndS vs))) ∧ Below w.heap.size w w' := by
  have CI := Lib.hid (fun (x : Int) (W : World) => toBelow7 (l6Level_any x W))
  have HI := Lib.hid h
  obtain ⟨R, hR⟩ : ∃ R, decide (bndS vs) = R := ⟨_, rfl⟩
  rw [hR]
  have C0 := Lib.hid (fun W => l1In_any (n : Int) 1 8 W)
  have HN : Hid (∀ k, k < n → ¬ goodB (vs.getD k noBound) → R = false) := Lib.hid (fun k hk hg => by
    rw [← hR]
    exact decide_eq_false fun hs => hg (bndS_at hs (by rw [h.len]; exact hk)))
  have HY : Hid ((∀ k, k < n → goodB (vs.getD k noBound)) → R = decide (1 ≤ (n : Int) ∧ (n : Int) ≤ 8)) := Lib.hid (fun hg => by
    rw [← hR]
    refine decide_eq_decide.2 ⟨fun hs => by have h1 := hs.2.1; have h2 := hs.2.2; rw [h.len] at h1 h2; omega, fun h8 => ⟨fun v hv => ?_, by rw [h.len]; omega, by rw [h.len]; omega⟩⟩
    obtain ⟨k, hk, rfl⟩ := List.getElem_of_mem hv
    rw [← getBound hk]
    exact hg k (by rw [← h.len]; exact hk))
  generalize decide (1 ≤ (n : Int) ∧ (n : Int) ≤ 8) = b8 at C0 HY
  clear h hR
  go_enter Try.func78, Try.ntmps78
  go_wp2_with fail
  go_loopw [3] (fun i wr => ∃ k : Nat, k ≤ n ∧ i = .int .i64 k ∧ Hid (∀ j, j < k → goodB (vs.getD j noBound)) ∧ Below w.heap.size w wr) (fun i _ => n - (intOf i).toNat)
  case atStart => exact ⟨0, Nat.zero_le _, rfl, Lib.hid (fun j hj => absurd hj (by omega)), Below.refl _ _⟩
  case round =>
    obtain ⟨k, hk, rfl, hall, hb⟩ := hrel
    have HB := Lib.hid hb
    by_cases hlt : k < n
    · obtain ⟨a1, ha1, hab, HV⟩ := (HI.out.below hb HI.out.low).at hlt
      have HF := Lib.hid (HN.out k hlt)
      have HA : Hid (goodB (vs.getD k noBound) → ∀ j, j < k + 1 → goodB (vs.getD j noBound)) := Lib.hid (fun h j hj => by
        rcases Nat.lt_succ_iff_lt_or_eq.1 hj with h1 | h1
        · exact hall.out j h1
        · exact h1 ▸ h)
      subst ha1
      generalize vs.getD k noBound = V at HV HF HA
      obtain ⟨x, y⟩ := V
      obtain ⟨e0, e1⟩ := HV
      dsimp only at e0 e1
      have E0 := fun (d : Nat) (os : Array Obj) => cell_regrown e0 d os
      have E1 := fun (d : Nat) (os : Array Obj) => cell_regrown e1 d os
      have hk0 : (0 : Int) ≤ (k : Int) := by omega
      have hk1 : (k : Int) < (n : Int) := by omega
      have C1 := Lib.hid (CI.out x)
      have C2 := Lib.hid (CI.out y)
      clear hall hb HN CI e0 e1
      by_cases g0 : 0 ≤ x ∧ x ≤ 2000
      · rw [decide_eq_true g0] at C1
        by_cases g1 : 0 ≤ y ∧ y ≤ 2000
        · rw [decide_eq_true g1] at C2
          have c1 := fun (dr : Nat) (os : Array Obj) => Calls.regrown_of (w := wr) (d := dr) (os := os) (C1.out _)
          have c2 := fun (dr : Nat) (os : Array Obj) => Calls.regrown_of (w := wr) (d := dr) (os := os) (C2.out _)
          by_cases g2 : x ≤ y
          · have hd : ¬ (y < x) := by omega
            have HR := Lib.hid (HA.out ⟨g0.1, g2, g1.2⟩)
            clear HA HF g0 g1 C1 C2
            go_wp2_with fail
            refine wp_region_quiet_below (by kernel_rfl) (by kernel_rfl) ?_
            repeat (go_big_quiet_step (first | with_reducible exact c1 _ _ | with_reducible exact c2 _ _))
            refine wpQuiet_nil ?_
            intro _ hw'
            obtain ⟨⟨dq, osq⟩, hw''⟩ := hw'
            subst hw''
            have HB1 := Lib.hid (HB.out.trans ((below_regrown wr dq osq).mono HB.out.size))
            clear E0 E1 c1 c2
            go_wp2_with fail
            go_roundw
            case rel => exact ⟨k + 1, by omega, by go_num, HR, HB1.out⟩
            case measure => simp [intOf]; omega
          · obtain rfl : R = false := HF.out (fun g => g2 g.2.1)
            have hd : y < x := by omega
            clear HA HF g0 g1 C1 C2 HY
            go_wp2_with fail
            refine wp_region_quiet_below (by kernel_rfl) (by kernel_rfl) ?_
            repeat (go_big_quiet_step (first | with_reducible exact c1 _ _ | with_reducible exact c2 _ _))
            refine wpQuiet_nil ?_
            intro _ hw'
            obtain ⟨⟨dq, osq⟩, hw''⟩ := hw'
            subst hw''
            have HB1 := Lib.hid (HB.out.trans ((below_regrown wr dq osq).mono HB.out.size))
            clear E0 E1 c1 c2
            go_wp2_with fail
            go_ret
            exact ⟨rfl, HB1.out⟩
        · obtain rfl : R = false := HF.out (fun g => g1 ⟨by have h1 := g.1; have h2 := g.2.1; dsimp only at h1 h2; omega, g.2.2⟩)
          rw [decide_eq_false g1] at C2
          have c1 := fun (dr : Nat) (os : Array Obj) => Calls.regrown_of (w := wr) (d := dr) (os := os) (C1.out _)
          have c2 := fun (dr : Nat) (os : Array Obj) => Calls.regrown_of (w := wr) (d := dr) (os := os) (C2.out _)
          clear HA HF g0 g1 C1 C2 HY
          go_wp2_with fail
          refine wp_region_quiet_below (by kernel_rfl) (by kernel_rfl) ?_
          repeat (go_big_quiet_step (first | with_reducible exact c1 _ _ | with_reducible exact c2 _ _))
          refine wpQuiet_nil ?_
          intro _ hw'
          obtain ⟨⟨dq, osq⟩, hw''⟩ := hw'
          subst hw''
          have HB1 := Lib.hid (HB.out.trans ((below_regrown wr dq osq).mono HB.out.size))
          clear E0 E1 c1 c2
          go_wp2_with fail
          go_ret
          exact ⟨rfl, HB1.out⟩
      · obtain rfl : R = false := HF.out (fun g => g0 ⟨g.1, by have h1 := g.2.1; have h2 := g.2.2; dsimp only at h1 h2; omega⟩)
        rw [decide_eq_false g0] at C1
        have c1 := fun (dr : Nat) (os : Array Obj) => Calls.regrown_of (w := wr) (d := dr) (os := os) (C1.out _)
        clear HA HF g0 C1 C2 HY
        go_wp2_with fail
        refine wp_region_quiet_below (by kernel_rfl) (by kernel_rfl) ?_
        repeat (go_big_quiet_step (first | with_reducible exact c1 _ _))
        refine wpQuiet_nil ?_
        intro _ hw'
        obtain ⟨⟨dq, osq⟩, hw''⟩ := hw'
        subst hw''
        have HB1 := Lib.hid (HB.out.trans ((below_regrown wr dq osq).mono HB.out.size))
        clear E0 E1 c1
        go_wp2_with fail
        go_ret
        exact ⟨rfl, HB1.out⟩
    · obtain rfl : k = n := by omega
      obtain rfl : R = b8 := HY.out hall.out
      clear HN HI CI hall hb HY
      go_wp2_with fail
      refine (C0.out _).mono ?_
      rintro e w2 ⟨rfl, rfl⟩
      go_wp2_with fail
      go_ret
      exact ⟨rfl, HB.out⟩

set_option maxHeartbeats 1000000 in
theorem around_any {w : World} {B n : Nat} {A : Option Addr} {vs : List TBound} (c : Nat) (h : IsBounds w B A n vs) (hm : n ≤ 1048576) (x : Int) :
    Calls Try.prog 82 #[.slice A n c, .int .i64 x] w fun e w' => e = .returned (.int .i64 (cntB vs x)) ∧ Below w.heap.size w w' := by
  have CI := Lib.hid (fun (a b : Int) (W : World) => inRange_any x a b W)
  have HI := Lib.hid h
  have HC : Hid (cntB vs x = cntK vs x n) := Lib.hid (by unfold cntB; rw [h.len])
  have HL := Lib.hid (fun k => cntK_le vs x k)
  clear h
  rw [HC.out]
  clear HC
  go_enter Try.func82, Try.ntmps82
  go_wp2_with fail
  go_loopw [5, 10] (fun m i wr => ∃ k : Nat, k ≤ n ∧ i = .int .i64 k ∧ m = .int .i64 (cntK vs x k) ∧ Below w.heap.size w wr) (fun _ i _ => n - (intOf i).toNat)
  case atStart => exact ⟨0, Nat.zero_le _, rfl, by simp [cntK], Below.refl _ _⟩
  case round =>
    obtain ⟨k, hk, rfl, rfl, hb⟩ := hrel
    have HB := Lib.hid hb
    have hck := HL.out k
    by_cases hlt : k < n
    · obtain ⟨a1, ha1, hab, HV⟩ := (HI.out.below hb HI.out.low).at hlt
      have HY := Lib.hid (cntK_yes (vs := vs) (x := x) (k := k))
      have HN := Lib.hid (cntK_no (vs := vs) (x := x) (k := k))
      subst ha1
      generalize vs.getD k noBound = V at HV HY HN
      obtain ⟨y, z⟩ := V
      obtain ⟨e0, e1⟩ := HV
      dsimp only at e0 e1
      have hk0 : (0 : Int) ≤ (k : Int) := by omega
      have hk1 : (k : Int) < (n : Int) := by omega
      have HB2 := Lib.hid (HB.out.trans ((below1q wr (.cells #[.int .i64 y, .int .i64 z] 46)).mono HB.out.size))
      have C1 := Lib.hid (fun W => CI.out y z W)
      clear hb CI HL
      by_cases g : y ≤ x ∧ x ≤ z
      · have HS := Lib.hid (HY.out g)
        rw [decide_eq_true g] at C1
        clear HY HN g
        generalize cntK vs x k = m at hck HS ⊢
        go_wp2_with fail
        refine (C1.out _).mono ?_
        rintro e w2 ⟨rfl, rfl⟩
        clear C1
        go_wp2_with fail
        go_roundw
        case rel => exact ⟨k + 1, by omega, by go_num, by rw [HS.out]; go_num, HB2.out⟩
        case measure => simp [intOf]; omega
      · have HS := Lib.hid (HN.out g)
        rw [decide_eq_false g] at C1
        clear HY HN g
        generalize cntK vs x k = m at hck HS ⊢
        go_wp2_with fail
        refine (C1.out _).mono ?_
        rintro e w2 ⟨rfl, rfl⟩
        clear C1
        go_wp2_with fail
        go_roundw
        case rel => exact ⟨k + 1, by omega, by go_num, by rw [HS.out], HB2.out⟩
        case measure => simp [intOf]; omega
    · obtain rfl : k = n := by omega
      clear hb CI HI HL
      go_wp2_with fail
      go_ret
      exact ⟨rfl, HB.out⟩

set_option maxHeartbeats 1000000 in
theorem l6Count_any {w : World} {B n : Nat} {A : Option Addr} {vs : List TBound} (c : Nat) (h : IsBounds w B A n vs) (hm : n ≤ 1048576) (x : Int) :
    Calls Try.prog 97 #[.slice A n c, .int .i64 x] w fun e w' => e = .returned (.int .i64 (cntB vs x)) ∧ Below w.heap.size w w' := by
  have CI := Lib.hid (fun (a b : Int) (W : World) => toBelow7 (l1In_any x a b W))
  have HI := Lib.hid h
  have HC : Hid (cntB vs x = cntK vs x n) := Lib.hid (by unfold cntB; rw [h.len])
  have HL := Lib.hid (fun k => cntK_le vs x k)
  clear h
  rw [HC.out]
  clear HC
  go_enter Try.func97, Try.ntmps97
  go_wp2_with fail
  go_loopw [5, 6] (fun m i wr => ∃ k : Nat, k ≤ n ∧ i = .int .i64 k ∧ m = .int .i64 (cntK vs x k) ∧ Below w.heap.size w wr) (fun _ i _ => n - (intOf i).toNat)
  case atStart => exact ⟨0, Nat.zero_le _, rfl, by simp [cntK], Below.refl _ _⟩
  case round =>
    obtain ⟨k, hk, rfl, rfl, hb⟩ := hrel
    have HB := Lib.hid hb
    have hck := HL.out k
    by_cases hlt : k < n
    · obtain ⟨a1, ha1, hab, HV⟩ := (HI.out.below hb HI.out.low).at hlt
      have HY := Lib.hid (cntK_yes (vs := vs) (x := x) (k := k))
      have HN := Lib.hid (cntK_no (vs := vs) (x := x) (k := k))
      subst ha1
      generalize vs.getD k noBound = V at HV HY HN
      obtain ⟨y, z⟩ := V
      obtain ⟨e0, e1⟩ := HV
      dsimp only at e0 e1
      have E0 := fun (d : Nat) (os : Array Obj) => cell_regrown e0 d os
      have E1 := fun (d : Nat) (os : Array Obj) => cell_regrown e1 d os
      have hk0 : (0 : Int) ≤ (k : Int) := by omega
      have hk1 : (k : Int) < (n : Int) := by omega
      have C1 := Lib.hid (CI.out y z)
      clear hb CI HL e0 e1
      by_cases g : y ≤ x ∧ x ≤ z
      · have HS := Lib.hid (HY.out g)
        rw [decide_eq_true g] at C1
        have c1 := fun (dr : Nat) (os : Array Obj) => Calls.regrown_of (w := wr) (d := dr) (os := os) (C1.out _)
        clear HY HN g C1
        generalize cntK vs x k = m at hck HS ⊢
        go_wp2_with fail
        refine wp_region_quiet_below (by kernel_rfl) (by kernel_rfl) ?_
        repeat (go_big_quiet_step (first | exact c1 _ _))
        refine wpQuiet_nil ?_
        intro _ hw'
        obtain ⟨⟨dq, osq⟩, hw''⟩ := hw'
        subst hw''
        have HB1 := Lib.hid (HB.out.trans ((below_regrown wr dq osq).mono HB.out.size))
        clear E0 E1 c1
        go_wp2_with fail
        go_roundw
        case rel => exact ⟨k + 1, by omega, by go_num, by rw [HS.out]; go_num, HB1.out⟩
        case measure => simp [intOf]; omega
      · have HS := Lib.hid (HN.out g)
        rw [decide_eq_false g] at C1
        have c1 := fun (dr : Nat) (os : Array Obj) => Calls.regrown_of (w := wr) (d := dr) (os := os) (C1.out _)
        clear HY HN g C1
        generalize cntK vs x k = m at hck HS ⊢
        go_wp2_with fail
        refine wp_region_quiet_below (by kernel_rfl) (by kernel_rfl) ?_
        repeat (go_big_quiet_step (first | exact c1 _ _))
        refine wpQuiet_nil ?_
        intro _ hw'
        obtain ⟨⟨dq, osq⟩, hw''⟩ := hw'
        subst hw''
        have HB1 := Lib.hid (HB.out.trans ((below_regrown wr dq osq).mono HB.out.size))
        clear E0 E1 c1
        go_wp2_with fail
        go_roundw
        case rel => exact ⟨k + 1, by omega, by go_num, by rw [HS.out], HB1.out⟩
        case measure => simp [intOf]; omega
    · obtain rfl : k = n := by omega
      clear hb CI HI HL
      go_wp2_with fail
      go_ret
      exact ⟨rfl, HB.out⟩
end Go.Proofs.Yteeljlpbijmhlaa
