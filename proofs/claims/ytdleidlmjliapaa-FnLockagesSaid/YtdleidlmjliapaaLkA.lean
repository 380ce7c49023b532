/- Chapter 8: valid arrivals: the model and the program. -/
import Derived.Test.YtdleidlmjliapaaLkN
import Derived.Test.YtdleidlmjliapaaRng
import Derived.Deep.QuietTactic
import Derived.Deep.RegionWith
namespace Go.Proofs.Ytdleidlmjliapaa
open Go.RowKit Go.PlainAid Go.Sort
set_option linter.unusedVariables false
set_option linter.unusedSimpArgs false

theorem below1 (w : World) (a : Obj) : Below w.heap.size w (w.alloc a) := (Below.refl _ _).alloc (Nat.le_refl _) _
theorem below2 (w : World) (a b : Obj) : Below w.heap.size w ((w.alloc a).alloc b) := (below1 w a).alloc (by simp) _
theorem ret_bool {a b : Bool} (h : a = b) : Ending.returned (.bool a) = .returned (.bool b) := by rw [h]
theorem toBelow {P : Program} {f : FuncId} {args : Array Value} {w : World} {E : Ending} (h : Calls P f args w fun e w' => e = E ∧ w = w') : Calls P f args w fun e w' => e = E ∧ Below w.heap.size w w' :=
  h.mono fun _ _ ⟨a, b⟩ => ⟨a, b ▸ Below.refl _ _⟩

set_option maxHeartbeats 800000 in
theorem isArrival_any (d : Int) (u : Bool) (m g : Int) (w : World) :
    Calls Try.prog 69 #[.agg #[.int .i64 d, .bool u, .int .i64 m, .int .i64 g]] w fun e w' => e = .returned (.bool (decide (goodA ⟨d, u, m, g⟩))) ∧ Below w.heap.size w w' := by
  have C0 := Lib.hid (fun W => inRange_any d 1 99 W)
  have C1 := Lib.hid (fun W => inRange_any m 0 9999 W)
  have C2 := Lib.hid (fun W => inRange_any g 1 9 W)
  have hv := Lib.hid (show decide (goodA ⟨d, u, m, g⟩) = (decide (1 ≤ d ∧ d ≤ 99) && (decide (0 ≤ m ∧ m ≤ 9999) && decide (1 ≤ g ∧ g ≤ 9))) by rw [Bool.eq_iff_iff]; simp only [Bool.and_eq_true, decide_eq_true_eq]; exact Iff.rfl)
  generalize decide (goodA ⟨d, u, m, g⟩) = B at hv ⊢
  generalize decide (1 ≤ d ∧ d ≤ 99) = b0 at C0 hv
  generalize decide (0 ≤ m ∧ m ≤ 9999) = b1 at C1 hv
  generalize decide (1 ≤ g ∧ g ≤ 9) = b2 at C2 hv
  go_enter Try.func69, Try.ntmps69
  go_wp2_with fail
  refine (C0.out _).mono ?_
  rintro e w1 ⟨rfl, rfl⟩
  cases b0 with
  | false =>
    obtain rfl : B = false := by have := hv.out; simpa using this
    go_wp2_with fail
    go_ret
    exact ⟨rfl, below1 _ _⟩
  | true =>
    go_wp2_with fail
    refine (C1.out _).mono ?_
    rintro e w1 ⟨rfl, rfl⟩
    cases b1 with
    | false =>
      obtain rfl : B = false := by have := hv.out; simpa using this
      go_wp2_with fail
      go_ret
      exact ⟨rfl, below1 _ _⟩
    | true =>
      obtain rfl : B = b2 := by have := hv.out; simpa using this
      go_wp2_with fail
      refine (C2.out _).mono ?_
      rintro e w1 ⟨rfl, rfl⟩
      go_wp2_with fail
      go_ret
      exact ⟨rfl, below1 _ _⟩
set_option maxHeartbeats 400000 in
theorem l8Minute_any (x : Int) (w : World) : Calls Try.prog 85 #[.int .i64 x] w fun e w' => e = .returned (.bool (decide (0 ≤ x ∧ x ≤ 9999))) ∧ w = w' := by
  have C := Lib.hid (fun W => l1In_any x 0 9999 W)
  generalize decide (0 ≤ x ∧ x ≤ 9999) = b at C ⊢
  go_enter Try.func85, Try.ntmps85
  go_wp2_with fail
  refine (C.out _).mono ?_
  rintro e w1 ⟨rfl, rfl⟩
  go_wp2_with fail
  go_ret
  exact ⟨rfl, rfl⟩
set_option maxHeartbeats 400000 in
theorem l8Minutes_any (x : Int) (w : World) : Calls Try.prog 52 #[.int .i64 x] w fun e w' => e = .returned (.bool (decide (1 ≤ x ∧ x ≤ 60))) ∧ w = w' := by
  have C := Lib.hid (fun W => l1In_any x 1 60 W)
  generalize decide (1 ≤ x ∧ x ≤ 60) = b at C ⊢
  go_enter Try.func52, Try.ntmps52
  go_wp2_with fail
  refine (C.out _).mono ?_
  rintro e w1 ⟨rfl, rfl⟩
  go_wp2_with fail
  go_ret
  exact ⟨rfl, rfl⟩

set_option maxRecDepth 100000 in
set_option maxHeartbeats 2000000 in
theorem areArrivals_any {w : World} {B : Nat} {A : Option Addr} {n : Nat} {vs : List TArrival} (c : Nat) (h : IsArrivals w B A n vs) (hm : n ≤ maxLen) :
    Calls Try.prog 31 #[.slice A n c] w fun e w' => e = .returned (.bool (gAs vs)) ∧ Below w.heap.size w w' := by
  unfold maxLen at hm
  have CI := Lib.hid (fun (d : Int) (u : Bool) (m g : Int) (W : World) => isArrival_any d u m g W)
  have HI := Lib.hid h
  have HY := Lib.hid (fun h : goodAs vs => gAs_yes h)
  have HN := Lib.hid (fun h : ¬ goodAs vs => gAs_no h)
  generalize gAs vs = R at HY HN ⊢
  clear h
  by_cases h4 : (6 : Int) < (n : Int)
  · obtain rfl : R = false := HN.out (fun g => by have := g.1; rw [HI.out.len] at this; omega)
    clear HY HN HI CI
    go_enter Try.func31, Try.ntmps31
    go_wp2
    go_ret
    exact ⟨rfl, Below.refl _ _⟩
  go_enter Try.func31, Try.ntmps31
  go_wp2_with fail
  go_loopw [10] (fun i wr => ∃ k : Nat, k ≤ n ∧ i = .int .i64 k ∧ Hid (∀ j, j < k → okAs vs j) ∧ Below w.heap.size w wr) (fun i _ => n - (intOf i).toNat)
  case atStart => exact ⟨0, Nat.zero_le _, rfl, Lib.hid (by simp), Below.refl _ _⟩
  case round =>
    obtain ⟨k, hk, rfl, hall, hb⟩ := hrel
    by_cases hlt : k < n
    · skip
      have hkl : k < vs.length := by rw [HI.out.len]; exact hlt
      obtain ⟨a1, rfl, hab, HV⟩ := (HI.out.below hb HI.out.low).has.Arrival hkl
      have HOK : Hid (okAs vs k ↔ goodA (vs.getD k noArrival) ∧ (0 < k → (vs.getD (k - 1) noArrival).x0 < (vs.getD k noArrival).x0)) := Lib.hid Iff.rfl
      have HF : Hid (¬ okAs vs k → R = false) := Lib.hid (fun h => HN.out (fun g => h (g.2 k hkl)))
      have HA : Hid (okAs vs k → ∀ j, j < k + 1 → okAs vs j) := Lib.hid (fun h j hj => by
        rcases Nat.lt_succ_iff_lt_or_eq.1 hj with h1 | h1
        · exact hall.out j h1
        · exact h1 ▸ h)
      obtain ⟨V, hV⟩ : ∃ V, vs.getD k noArrival = V := ⟨_, rfl⟩
      rw [hV] at HV HOK
      clear hV
      obtain ⟨d, u, m, g⟩ := V
      obtain ⟨e0, e1, e2, e3⟩ := HV
      have HOK' : Hid (okAs vs k ↔ goodA ⟨d, u, m, g⟩ ∧ (0 < k → (vs.getD (k - 1) noArrival).x0 < d)) := HOK
      dsimp only at e0 e1 e2 e3
      have HB := Lib.hid hb
      have hk0 : (0 : Int) ≤ (k : Int) := by omega
      have hk1 : (k : Int) < (n : Int) := by omega
      clear hb hall HOK
      have CG := Lib.hid (CI.out d u m g)
      have cG := fun (W : World) (dr : Nat) (os : Array Obj) => Calls.regrown_of (w := W) (d := dr) (os := os) (CG.out _)
      by_cases hg : goodA ⟨d, u, m, g⟩
      · have HG := Lib.hid hg
        rw [decide_eq_true hg] at cG
        clear hg CI CG
        rcases Nat.eq_zero_or_pos k with h0 | h0
        · have HR := Lib.hid (HA.out (HOK'.out.2 ⟨HG.out, fun h => absurd h (by omega)⟩))
          have hkz : ¬ 0 < k := by omega
          have HK0 := Lib.hid h0
          clear h0 HOK' HF HA
          go_wp2_with fail
          obtain ⟨W5, hW5⟩ : ∃ W, World.alloc wr (.cells #[.int .i64 d, .bool u, .int .i64 m, .int .i64 g] 58) = W := ⟨_, rfl⟩
          obtain ⟨xb, hxb⟩ : ∃ x, (wr : World).heap.size = x := ⟨_, rfl⟩
          have cxb0 : W5.cell? ⟨xb, 0, none⟩ = some (.int .i64 d) := by rw [← hW5, ← hxb, sNew]; rfl
          have cxb1 : W5.cell? ⟨xb, 1, none⟩ = some (.bool u) := by rw [← hW5, ← hxb, sNew]; rfl
          have cxb2 : W5.cell? ⟨xb, 2, none⟩ = some (.int .i64 m) := by rw [← hW5, ← hxb, sNew]; rfl
          have cxb3 : W5.cell? ⟨xb, 3, none⟩ = some (.int .i64 g) := by rw [← hW5, ← hxb, sNew]; rfl
          have HB5 := Lib.hid (show Below w.heap.size w W5 by rw [← hW5]; exact HB.out.alloc HB.out.size _)
          have hwl : Below wr.heap.size wr W5 := by rw [← hW5]; exact below1 _ _
          skip
          rw [hW5, hxb]
          clear hW5 hxb hwl
          have E0 := fun (d : Nat) (os : Array Obj) => cell_regrown cxb0 d os
          have E1 := fun (d : Nat) (os : Array Obj) => cell_regrown cxb1 d os
          have E2 := fun (d : Nat) (os : Array Obj) => cell_regrown cxb2 d os
          have E3 := fun (d : Nat) (os : Array Obj) => cell_regrown cxb3 d os
          clear e0 e1 e2 e3 cxb0 cxb1 cxb2 cxb3
          have cM := cG W5
          clear cG
          refine wp_region_quiet_below (by kernel_rfl) (by kernel_rfl) ?_
          repeat (go_big_quiet_step (first | (go_at_call 69; exact cM _ _)))
          refine wpQuiet_nil ?_
          intro _ hw'
          obtain ⟨⟨dq, osq⟩, hw''⟩ := hw'
          subst hw''
          have HB6 := Lib.hid (HB5.out.trans ((below_regrown W5 dq osq).mono HB5.out.size))
          clear E0 E1 E2 E3 cM hkz
          go_wp2_with fail
          go_roundw
          case rel => exact ⟨k + 1, by omega, by go_num, HR, HB6.out⟩
          case measure => simp [intOf]; omega
        · skip
          obtain ⟨kp, rfl⟩ : ∃ kp, k = kp + 1 := ⟨k - 1, by omega⟩
          obtain ⟨a5, e5, -, HP⟩ := (HI.out.below HB.out HI.out.low).has.Arrival (k := kp) (by omega)
          injection e5 with e5
          subst e5
          have HOK2 : Hid (okAs vs (kp + 1) ↔ goodA ⟨d, u, m, g⟩ ∧ (vs.getD kp noArrival).x0 < d) := Lib.hid (by
            have := HOK'.out
            rw [Nat.add_sub_cancel] at this
            exact this.trans (and_congr_right fun _ => ⟨fun h => h (by omega), fun h _ => h⟩))
          have q0 := HP.c0
          generalize (vs.getD kp noArrival).x0 = pi at q0 HOK2
          have hkp : 0 < kp + 1 := by omega
          have hp0 : (0 : Int) ≤ (kp : Int) := by omega
          have hp1 : (kp : Int) < (n : Int) := by omega
          clear HP h0 HOK'
          by_cases hpi : d ≤ pi
          · obtain rfl : R = false := HF.out (fun h => by have := (HOK2.out.1 h).2; omega)
            clear HOK2 HF HA HY HN HI
            go_wp2_with fail
            obtain ⟨W5, hW5⟩ : ∃ W, World.alloc wr (.cells #[.int .i64 d, .bool u, .int .i64 m, .int .i64 g] 58) = W := ⟨_, rfl⟩
            obtain ⟨xb, hxb⟩ : ∃ x, (wr : World).heap.size = x := ⟨_, rfl⟩
            have cxb0 : W5.cell? ⟨xb, 0, none⟩ = some (.int .i64 d) := by rw [← hW5, ← hxb, sNew]; rfl
            have cxb1 : W5.cell? ⟨xb, 1, none⟩ = some (.bool u) := by rw [← hW5, ← hxb, sNew]; rfl
            have cxb2 : W5.cell? ⟨xb, 2, none⟩ = some (.int .i64 m) := by rw [← hW5, ← hxb, sNew]; rfl
            have cxb3 : W5.cell? ⟨xb, 3, none⟩ = some (.int .i64 g) := by rw [← hW5, ← hxb, sNew]; rfl
            have HB5 := Lib.hid (show Below w.heap.size w W5 by rw [← hW5]; exact HB.out.alloc HB.out.size _)
            have hwl : Below wr.heap.size wr W5 := by rw [← hW5]; exact below1 _ _
            have q1 := (hwl.cell (World.block_lt_of_cell? _ _ q0)).trans q0
            rw [hW5, hxb]
            clear hW5 hxb hwl
            have E0 := fun (d : Nat) (os : Array Obj) => cell_regrown cxb0 d os
            have E1 := fun (d : Nat) (os : Array Obj) => cell_regrown cxb1 d os
            have E2 := fun (d : Nat) (os : Array Obj) => cell_regrown cxb2 d os
            have E3 := fun (d : Nat) (os : Array Obj) => cell_regrown cxb3 d os
            clear e0 e1 e2 e3 cxb0 cxb1 cxb2 cxb3
            have Q0 := fun (d : Nat) (os : Array Obj) => cell_regrown q1 d os
            have cM := cG W5
            clear cG q0 q1
            refine wp_region_quiet_below (by kernel_rfl) (by kernel_rfl) ?_
            repeat (go_big_quiet_step (first | (go_at_call 69; exact cM _ _)))
            refine wpQuiet_nil ?_
            intro _ hw'
            obtain ⟨⟨dq, osq⟩, hw''⟩ := hw'
            subst hw''
            have HB6 := Lib.hid (HB5.out.trans ((below_regrown W5 dq osq).mono HB5.out.size))
            clear E0 E1 E2 E3 cM Q0
            go_wp2_with fail
            go_ret
            exact ⟨rfl, HB6.out⟩
          · have HR := Lib.hid (HA.out (HOK2.out.2 ⟨HG.out, by omega⟩))
            clear HOK2 HF HA
            go_wp2_with fail
            obtain ⟨W5, hW5⟩ : ∃ W, World.alloc wr (.cells #[.int .i64 d, .bool u, .int .i64 m, .int .i64 g] 58) = W := ⟨_, rfl⟩
            obtain ⟨xb, hxb⟩ : ∃ x, (wr : World).heap.size = x := ⟨_, rfl⟩
            have cxb0 : W5.cell? ⟨xb, 0, none⟩ = some (.int .i64 d) := by rw [← hW5, ← hxb, sNew]; rfl
            have cxb1 : W5.cell? ⟨xb, 1, none⟩ = some (.bool u) := by rw [← hW5, ← hxb, sNew]; rfl
            have cxb2 : W5.cell? ⟨xb, 2, none⟩ = some (.int .i64 m) := by rw [← hW5, ← hxb, sNew]; rfl
            have cxb3 : W5.cell? ⟨xb, 3, none⟩ = some (.int .i64 g) := by rw [← hW5, ← hxb, sNew]; rfl
            have HB5 := Lib.hid (show Below w.heap.size w W5 by rw [← hW5]; exact HB.out.alloc HB.out.size _)
            have hwl : Below wr.heap.size wr W5 := by rw [← hW5]; exact below1 _ _
            have q1 := (hwl.cell (World.block_lt_of_cell? _ _ q0)).trans q0
            rw [hW5, hxb]
            clear hW5 hxb hwl
            have E0 := fun (d : Nat) (os : Array Obj) => cell_regrown cxb0 d os
            have E1 := fun (d : Nat) (os : Array Obj) => cell_regrown cxb1 d os
            have E2 := fun (d : Nat) (os : Array Obj) => cell_regrown cxb2 d os
            have E3 := fun (d : Nat) (os : Array Obj) => cell_regrown cxb3 d os
            clear e0 e1 e2 e3 cxb0 cxb1 cxb2 cxb3
            have Q0 := fun (d : Nat) (os : Array Obj) => cell_regrown q1 d os
            have cM := cG W5
            clear cG q0 q1
            refine wp_region_quiet_below (by kernel_rfl) (by kernel_rfl) ?_
            repeat (go_big_quiet_step (first | (go_at_call 69; exact cM _ _)))
            refine wpQuiet_nil ?_
            intro _ hw'
            obtain ⟨⟨dq, osq⟩, hw''⟩ := hw'
            subst hw''
            have HB6 := Lib.hid (HB5.out.trans ((below_regrown W5 dq osq).mono HB5.out.size))
            clear E0 E1 E2 E3 cM Q0
            go_wp2_with fail
            go_roundw
            case rel => exact ⟨kp + 1 + 1, by omega, by go_num, HR, HB6.out⟩
            case measure => simp [intOf]; omega
      · obtain rfl : R = false := HF.out (fun h => hg (HOK'.out.1 h).1)
        rw [decide_eq_false hg] at cG
        clear hg CI CG
        clear HOK' HF HA HY HN HI 
        go_wp2_with fail
        obtain ⟨W5, hW5⟩ : ∃ W, World.alloc wr (.cells #[.int .i64 d, .bool u, .int .i64 m, .int .i64 g] 58) = W := ⟨_, rfl⟩
        obtain ⟨xb, hxb⟩ : ∃ x, (wr : World).heap.size = x := ⟨_, rfl⟩
        have cxb0 : W5.cell? ⟨xb, 0, none⟩ = some (.int .i64 d) := by rw [← hW5, ← hxb, sNew]; rfl
        have cxb1 : W5.cell? ⟨xb, 1, none⟩ = some (.bool u) := by rw [← hW5, ← hxb, sNew]; rfl
        have cxb2 : W5.cell? ⟨xb, 2, none⟩ = some (.int .i64 m) := by rw [← hW5, ← hxb, sNew]; rfl
        have cxb3 : W5.cell? ⟨xb, 3, none⟩ = some (.int .i64 g) := by rw [← hW5, ← hxb, sNew]; rfl
        have HB5 := Lib.hid (show Below w.heap.size w W5 by rw [← hW5]; exact HB.out.alloc HB.out.size _)
        have hwl : Below wr.heap.size wr W5 := by rw [← hW5]; exact below1 _ _
        skip
        rw [hW5, hxb]
        clear hW5 hxb hwl
        have E0 := fun (d : Nat) (os : Array Obj) => cell_regrown cxb0 d os
        have E1 := fun (d : Nat) (os : Array Obj) => cell_regrown cxb1 d os
        have E2 := fun (d : Nat) (os : Array Obj) => cell_regrown cxb2 d os
        have E3 := fun (d : Nat) (os : Array Obj) => cell_regrown cxb3 d os
        clear e0 e1 e2 e3 cxb0 cxb1 cxb2 cxb3
        have cM := cG W5
        refine wp_region_quiet_below (by kernel_rfl) (by kernel_rfl) ?_
        repeat (go_big_quiet_step (first | (go_at_call 69; exact cM _ _)))
        refine wpQuiet_nil ?_
        intro _ hw'
        obtain ⟨⟨dq, osq⟩, hw''⟩ := hw'
        subst hw''
        have HB6 := Lib.hid (HB5.out.trans ((below_regrown W5 dq osq).mono HB5.out.size))
        clear E0 E1 E2 E3
        go_wp2_with fail
        go_ret
        exact ⟨rfl, HB6.out⟩
    · obtain rfl : k = n := by omega
      obtain rfl : R = true := HY.out ⟨by rw [HI.out.len]; omega, fun j hj => hall.out j (by rw [HI.out.len] at hj; exact hj)⟩
      clear HY HN HI CI hall
      go_wp2
      go_ret
      exact ⟨rfl, hb⟩

set_option maxRecDepth 100000 in
set_option maxHeartbeats 8000000 in
theorem l8Good_any {w : World} {B : Nat} {A : Option Addr} {n : Nat} {vs : List TArrival} (c : Nat) (h : IsArrivals w B A n vs) (hm : n ≤ maxLen) :
    Calls Try.prog 58 #[.slice A n c] w fun e w' => e = .returned (.bool (gAs vs)) ∧ Below w.heap.size w w' := by
  unfold maxLen at hm
  have CI := Lib.hid (fun (x a b : Int) (W : World) => l1In_any x a b W)
  have CN := Lib.hid (fun (x : Int) (W : World) => l8Minute_any x W)
  have HI := Lib.hid h
  have HY := Lib.hid (fun h : goodAs vs => gAs_yes h)
  have HN := Lib.hid (fun h : ¬ goodAs vs => gAs_no h)
  generalize gAs vs = R at HY HN ⊢
  clear h
  go_enter Try.func58, Try.ntmps58
  go_wp2_with fail
  go_loopw [3] (fun i wr => ∃ k : Nat, k ≤ n ∧ i = .int .i64 k ∧ Hid (∀ j, j < k → okAs vs j) ∧ Below w.heap.size w wr) (fun i _ => n - (intOf i).toNat)
  case atStart => exact ⟨0, Nat.zero_le _, rfl, Lib.hid (by simp), Below.refl _ _⟩
  case round =>
    obtain ⟨k, hk, rfl, hall, hb⟩ := hrel
    by_cases hlt : k < n
    · skip
      have hkl : k < vs.length := by rw [HI.out.len]; exact hlt
      obtain ⟨a1, rfl, hab, HV⟩ := (HI.out.below hb HI.out.low).has.Arrival hkl
      have HOK : Hid (okAs vs k ↔ goodA (vs.getD k noArrival) ∧ (0 < k → (vs.getD (k - 1) noArrival).x0 < (vs.getD k noArrival).x0)) := Lib.hid Iff.rfl
      have HF : Hid (¬ okAs vs k → R = false) := Lib.hid (fun h => HN.out (fun g => h (g.2 k hkl)))
      have HA : Hid (okAs vs k → ∀ j, j < k + 1 → okAs vs j) := Lib.hid (fun h j hj => by
        rcases Nat.lt_succ_iff_lt_or_eq.1 hj with h1 | h1
        · exact hall.out j h1
        · exact h1 ▸ h)
      obtain ⟨V, hV⟩ : ∃ V, vs.getD k noArrival = V := ⟨_, rfl⟩
      rw [hV] at HV HOK
      clear hV
      obtain ⟨d, u, m, g⟩ := V
      obtain ⟨e0, e1, e2, e3⟩ := HV
      have HOK' : Hid (okAs vs k ↔ goodA ⟨d, u, m, g⟩ ∧ (0 < k → (vs.getD (k - 1) noArrival).x0 < d)) := HOK
      dsimp only at e0 e1 e2 e3
      have HB := Lib.hid hb
      have hk0 : (0 : Int) ≤ (k : Int) := by omega
      have hk1 : (k : Int) < (n : Int) := by omega
      clear hb hall HOK
      have hg0 : goodA ⟨d, u, m, g⟩ ↔ (1 ≤ d ∧ d ≤ 99) ∧ (0 ≤ m ∧ m ≤ 9999) ∧ (1 ≤ g ∧ g ≤ 9) := Iff.rfl
      have c1 := fun (W : World) (dr : Nat) (os : Array Obj) => Calls.regrown_of (w := W) (d := dr) (os := os) (toBelow (CI.out d 1 99 _))
      have c2 := fun (W : World) (dr : Nat) (os : Array Obj) => Calls.regrown_of (w := W) (d := dr) (os := os) (toBelow (CN.out m _))
      have c3 := fun (W : World) (dr : Nat) (os : Array Obj) => Calls.regrown_of (w := W) (d := dr) (os := os) (toBelow (CI.out g 1 9 _))
      clear CI CN
      by_cases g1 : 1 ≤ d ∧ d ≤ 99
      · rw [decide_eq_true g1] at c1
        by_cases g2 : 0 ≤ m ∧ m ≤ 9999
        · rw [decide_eq_true g2] at c2
          by_cases g3 : 1 ≤ g ∧ g ≤ 9
          · rw [decide_eq_true g3] at c3
            have HG : Hid (goodA ⟨d, u, m, g⟩) := Lib.hid ⟨g1, g2, g3⟩
            clear g1 g2 g3 hg0
            rcases Nat.eq_zero_or_pos k with h0 | h0
            · have HR := Lib.hid (HA.out (HOK'.out.2 ⟨HG.out, fun h => absurd h (by omega)⟩))
              have hkz : ¬ 0 < k := by omega
              have HK0 := Lib.hid h0
              clear h0 HOK' HF HA
              go_wp2_with fail
              obtain ⟨W5, hW5⟩ : ∃ W, World.alloc wr (.cells #[.int .i64 d, .bool u, .int .i64 m, .int .i64 g] 58) = W := ⟨_, rfl⟩
              obtain ⟨xb, hxb⟩ : ∃ x, (wr : World).heap.size = x := ⟨_, rfl⟩
              have cxb0 : W5.cell? ⟨xb, 0, none⟩ = some (.int .i64 d) := by rw [← hW5, ← hxb, sNew]; rfl
              have cxb1 : W5.cell? ⟨xb, 1, none⟩ = some (.bool u) := by rw [← hW5, ← hxb, sNew]; rfl
              have cxb2 : W5.cell? ⟨xb, 2, none⟩ = some (.int .i64 m) := by rw [← hW5, ← hxb, sNew]; rfl
              have cxb3 : W5.cell? ⟨xb, 3, none⟩ = some (.int .i64 g) := by rw [← hW5, ← hxb, sNew]; rfl
              have HB5 := Lib.hid (show Below w.heap.size w W5 by rw [← hW5]; exact HB.out.alloc HB.out.size _)
              have hwl : Below wr.heap.size wr W5 := by rw [← hW5]; exact below1 _ _
              skip
              rw [hW5, hxb]
              clear hW5 hxb hwl
              have E0 := fun (d : Nat) (os : Array Obj) => cell_regrown cxb0 d os
              have E1 := fun (d : Nat) (os : Array Obj) => cell_regrown cxb1 d os
              have E2 := fun (d : Nat) (os : Array Obj) => cell_regrown cxb2 d os
              have E3 := fun (d : Nat) (os : Array Obj) => cell_regrown cxb3 d os
              clear e0 e1 e2 e3 cxb0 cxb1 cxb2 cxb3
              have d1 := c1 W5
              have d2 := c2 W5
              have d3 := c3 W5
              clear c1 c2 c3
              refine wp_region_quiet_below (by kernel_rfl) (by kernel_rfl) ?_
              repeat (go_big_quiet_step (first | (go_at_call_of 73 (Value.int .i64 d); exact d1 _ _) | (go_at_call 85; exact d2 _ _) | (go_at_call_of 73 (Value.int .i64 g); exact d3 _ _)))
              refine wpQuiet_nil ?_
              intro _ hw'
              obtain ⟨⟨dq, osq⟩, hw''⟩ := hw'
              subst hw''
              have HB6 := Lib.hid (HB5.out.trans ((below_regrown W5 dq osq).mono HB5.out.size))
              clear E0 E1 E2 E3 d1 d2 d3 hkz
              go_wp2_with fail
              go_roundw
              case rel => exact ⟨k + 1, by omega, by go_num, HR, HB6.out⟩
              case measure => simp [intOf]; omega
            · skip
              obtain ⟨kp, rfl⟩ : ∃ kp, k = kp + 1 := ⟨k - 1, by omega⟩
              obtain ⟨a5, e5, -, HP⟩ := (HI.out.below HB.out HI.out.low).has.Arrival (k := kp) (by omega)
              injection e5 with e5
              subst e5
              have HOK2 : Hid (okAs vs (kp + 1) ↔ goodA ⟨d, u, m, g⟩ ∧ (vs.getD kp noArrival).x0 < d) := Lib.hid (by
                have := HOK'.out
                rw [Nat.add_sub_cancel] at this
                exact this.trans (and_congr_right fun _ => ⟨fun h => h (by omega), fun h _ => h⟩))
              have q0 := HP.c0
              generalize (vs.getD kp noArrival).x0 = pi at q0 HOK2
              have hkp : 0 < kp + 1 := by omega
              have hp0 : (0 : Int) ≤ (kp : Int) := by omega
              have hp1 : (kp : Int) < (n : Int) := by omega
              clear HP h0 HOK'
              by_cases hpi : d ≤ pi
              · obtain rfl : R = false := HF.out (fun h => by have := (HOK2.out.1 h).2; omega)
                clear HOK2 HF HA HY HN HI
                go_wp2_with fail
                obtain ⟨W5, hW5⟩ : ∃ W, World.alloc wr (.cells #[.int .i64 d, .bool u, .int .i64 m, .int .i64 g] 58) = W := ⟨_, rfl⟩
                obtain ⟨xb, hxb⟩ : ∃ x, (wr : World).heap.size = x := ⟨_, rfl⟩
                have cxb0 : W5.cell? ⟨xb, 0, none⟩ = some (.int .i64 d) := by rw [← hW5, ← hxb, sNew]; rfl
                have cxb1 : W5.cell? ⟨xb, 1, none⟩ = some (.bool u) := by rw [← hW5, ← hxb, sNew]; rfl
                have cxb2 : W5.cell? ⟨xb, 2, none⟩ = some (.int .i64 m) := by rw [← hW5, ← hxb, sNew]; rfl
                have cxb3 : W5.cell? ⟨xb, 3, none⟩ = some (.int .i64 g) := by rw [← hW5, ← hxb, sNew]; rfl
                have HB5 := Lib.hid (show Below w.heap.size w W5 by rw [← hW5]; exact HB.out.alloc HB.out.size _)
                have hwl : Below wr.heap.size wr W5 := by rw [← hW5]; exact below1 _ _
                have q1 := (hwl.cell (World.block_lt_of_cell? _ _ q0)).trans q0
                rw [hW5, hxb]
                clear hW5 hxb hwl
                have E0 := fun (d : Nat) (os : Array Obj) => cell_regrown cxb0 d os
                have E1 := fun (d : Nat) (os : Array Obj) => cell_regrown cxb1 d os
                have E2 := fun (d : Nat) (os : Array Obj) => cell_regrown cxb2 d os
                have E3 := fun (d : Nat) (os : Array Obj) => cell_regrown cxb3 d os
                clear e0 e1 e2 e3 cxb0 cxb1 cxb2 cxb3
                have Q0 := fun (d : Nat) (os : Array Obj) => cell_regrown q1 d os
                have d1 := c1 W5
                have d2 := c2 W5
                have d3 := c3 W5
                clear c1 c2 c3 q0 q1
                refine wp_region_quiet_below (by kernel_rfl) (by kernel_rfl) ?_
                repeat (go_big_quiet_step (first | (go_at_call_of 73 (Value.int .i64 d); exact d1 _ _) | (go_at_call 85; exact d2 _ _) | (go_at_call_of 73 (Value.int .i64 g); exact d3 _ _)))
                refine wpQuiet_nil ?_
                intro _ hw'
                obtain ⟨⟨dq, osq⟩, hw''⟩ := hw'
                subst hw''
                have HB6 := Lib.hid (HB5.out.trans ((below_regrown W5 dq osq).mono HB5.out.size))
                clear E0 E1 E2 E3 d1 d2 d3 Q0
                go_wp2_with fail
                go_ret
                exact ⟨rfl, HB6.out⟩
              · have HR := Lib.hid (HA.out (HOK2.out.2 ⟨HG.out, by omega⟩))
                clear HOK2 HF HA
                go_wp2_with fail
                obtain ⟨W5, hW5⟩ : ∃ W, World.alloc wr (.cells #[.int .i64 d, .bool u, .int .i64 m, .int .i64 g] 58) = W := ⟨_, rfl⟩
                obtain ⟨xb, hxb⟩ : ∃ x, (wr : World).heap.size = x := ⟨_, rfl⟩
                have cxb0 : W5.cell? ⟨xb, 0, none⟩ = some (.int .i64 d) := by rw [← hW5, ← hxb, sNew]; rfl
                have cxb1 : W5.cell? ⟨xb, 1, none⟩ = some (.bool u) := by rw [← hW5, ← hxb, sNew]; rfl
                have cxb2 : W5.cell? ⟨xb, 2, none⟩ = some (.int .i64 m) := by rw [← hW5, ← hxb, sNew]; rfl
                have cxb3 : W5.cell? ⟨xb, 3, none⟩ = some (.int .i64 g) := by rw [← hW5, ← hxb, sNew]; rfl
                have HB5 := Lib.hid (show Below w.heap.size w W5 by rw [← hW5]; exact HB.out.alloc HB.out.size _)
                have hwl : Below wr.heap.size wr W5 := by rw [← hW5]; exact below1 _ _
                have q1 := (hwl.cell (World.block_lt_of_cell? _ _ q0)).trans q0
                rw [hW5, hxb]
                clear hW5 hxb hwl
                have E0 := fun (d : Nat) (os : Array Obj) => cell_regrown cxb0 d os
                have E1 := fun (d : Nat) (os : Array Obj) => cell_regrown cxb1 d os
                have E2 := fun (d : Nat) (os : Array Obj) => cell_regrown cxb2 d os
                have E3 := fun (d : Nat) (os : Array Obj) => cell_regrown cxb3 d os
                clear e0 e1 e2 e3 cxb0 cxb1 cxb2 cxb3
                have Q0 := fun (d : Nat) (os : Array Obj) => cell_regrown q1 d os
                have d1 := c1 W5
                have d2 := c2 W5
                have d3 := c3 W5
                clear c1 c2 c3 q0 q1
                refine wp_region_quiet_below (by kernel_rfl) (by kernel_rfl) ?_
                repeat (go_big_quiet_step (first | (go_at_call_of 73 (Value.int .i64 d); exact d1 _ _) | (go_at_call 85; exact d2 _ _) | (go_at_call_of 73 (Value.int .i64 g); exact d3 _ _)))
                refine wpQuiet_nil ?_
                intro _ hw'
                obtain ⟨⟨dq, osq⟩, hw''⟩ := hw'
                subst hw''
                have HB6 := Lib.hid (HB5.out.trans ((below_regrown W5 dq osq).mono HB5.out.size))
                clear E0 E1 E2 E3 d1 d2 d3 Q0
                go_wp2_with fail
                go_roundw
                case rel => exact ⟨kp + 1 + 1, by omega, by go_num, HR, HB6.out⟩
                case measure => simp [intOf]; omega
          · obtain rfl : R = false := HF.out (fun h => g3 (hg0.1 (HOK'.out.1 h).1).2.2)
            rw [decide_eq_false g3] at c3
            clear g1 g2 g3 hg0
            clear HOK' HF HA HY HN HI 
            go_wp2_with fail
            obtain ⟨W5, hW5⟩ : ∃ W, World.alloc wr (.cells #[.int .i64 d, .bool u, .int .i64 m, .int .i64 g] 58) = W := ⟨_, rfl⟩
            obtain ⟨xb, hxb⟩ : ∃ x, (wr : World).heap.size = x := ⟨_, rfl⟩
            have cxb0 : W5.cell? ⟨xb, 0, none⟩ = some (.int .i64 d) := by rw [← hW5, ← hxb, sNew]; rfl
            have cxb1 : W5.cell? ⟨xb, 1, none⟩ = some (.bool u) := by rw [← hW5, ← hxb, sNew]; rfl
            have cxb2 : W5.cell? ⟨xb, 2, none⟩ = some (.int .i64 m) := by rw [← hW5, ← hxb, sNew]; rfl
            have cxb3 : W5.cell? ⟨xb, 3, none⟩ = some (.int .i64 g) := by rw [← hW5, ← hxb, sNew]; rfl
            have HB5 := Lib.hid (show Below w.heap.size w W5 by rw [← hW5]; exact HB.out.alloc HB.out.size _)
            have hwl : Below wr.heap.size wr W5 := by rw [← hW5]; exact below1 _ _
            skip
            rw [hW5, hxb]
            clear hW5 hxb hwl
            have E0 := fun (d : Nat) (os : Array Obj) => cell_regrown cxb0 d os
            have E1 := fun (d : Nat) (os : Array Obj) => cell_regrown cxb1 d os
            have E2 := fun (d : Nat) (os : Array Obj) => cell_regrown cxb2 d os
            have E3 := fun (d : Nat) (os : Array Obj) => cell_regrown cxb3 d os
            clear e0 e1 e2 e3 cxb0 cxb1 cxb2 cxb3
            (have d1 := c1 W5; have d2 := c2 W5; have d3 := c3 W5)
            refine wp_region_quiet_below (by kernel_rfl) (by kernel_rfl) ?_
            repeat (go_big_quiet_step (first | (go_at_call_of 73 (Value.int .i64 d); exact d1 _ _) | (go_at_call 85; exact d2 _ _) | (go_at_call_of 73 (Value.int .i64 g); exact d3 _ _)))
            refine wpQuiet_nil ?_
            intro _ hw'
            obtain ⟨⟨dq, osq⟩, hw''⟩ := hw'
            subst hw''
            have HB6 := Lib.hid (HB5.out.trans ((below_regrown W5 dq osq).mono HB5.out.size))
            clear E0 E1 E2 E3
            go_wp2_with fail
            go_ret
            exact ⟨rfl, HB6.out⟩
        · obtain rfl : R = false := HF.out (fun h => g2 (hg0.1 (HOK'.out.1 h).1).2.1)
          rw [decide_eq_false g2] at c2
          clear g1 g2 hg0
          clear HOK' HF HA HY HN HI c3
          go_wp2_with fail
          obtain ⟨W5, hW5⟩ : ∃ W, World.alloc wr (.cells #[.int .i64 d, .bool u, .int .i64 m, .int .i64 g] 58) = W := ⟨_, rfl⟩
          obtain ⟨xb, hxb⟩ : ∃ x, (wr : World).heap.size = x := ⟨_, rfl⟩
          have cxb0 : W5.cell? ⟨xb, 0, none⟩ = some (.int .i64 d) := by rw [← hW5, ← hxb, sNew]; rfl
          have cxb1 : W5.cell? ⟨xb, 1, none⟩ = some (.bool u) := by rw [← hW5, ← hxb, sNew]; rfl
          have cxb2 : W5.cell? ⟨xb, 2, none⟩ = some (.int .i64 m) := by rw [← hW5, ← hxb, sNew]; rfl
          have cxb3 : W5.cell? ⟨xb, 3, none⟩ = some (.int .i64 g) := by rw [← hW5, ← hxb, sNew]; rfl
          have HB5 := Lib.hid (show Below w.heap.size w W5 by rw [← hW5]; exact HB.out.alloc HB.out.size _)
          have hwl : Below wr.heap.size wr W5 := by rw [← hW5]; exact below1 _ _
          skip
          rw [hW5, hxb]
          clear hW5 hxb hwl
          have E0 := fun (d : Nat) (os : Array Obj) => cell_regrown cxb0 d os
          have E1 := fun (d : Nat) (os : Array Obj) => cell_regrown cxb1 d os
          have E2 := fun (d : Nat) (os : Array Obj) => cell_regrown cxb2 d os
          have E3 := fun (d : Nat) (os : Array Obj) => cell_regrown cxb3 d os
          clear e0 e1 e2 e3 cxb0 cxb1 cxb2 cxb3
          (have d1 := c1 W5; have d2 := c2 W5)
          refine wp_region_quiet_below (by kernel_rfl) (by kernel_rfl) ?_
          repeat (go_big_quiet_step (first | (go_at_call_of 73 (Value.int .i64 d); exact d1 _ _) | (go_at_call 85; exact d2 _ _)))
          refine wpQuiet_nil ?_
          intro _ hw'
          obtain ⟨⟨dq, osq⟩, hw''⟩ := hw'
          subst hw''
          have HB6 := Lib.hid (HB5.out.trans ((below_regrown W5 dq osq).mono HB5.out.size))
          clear E0 E1 E2 E3
          go_wp2_with fail
          go_ret
          exact ⟨rfl, HB6.out⟩
      · obtain rfl : R = false := HF.out (fun h => g1 (hg0.1 (HOK'.out.1 h).1).1)
        rw [decide_eq_false g1] at c1
        clear g1 hg0
        clear HOK' HF HA HY HN HI c2 c3
        go_wp2_with fail
        obtain ⟨W5, hW5⟩ : ∃ W, World.alloc wr (.cells #[.int .i64 d, .bool u, .int .i64 m, .int .i64 g] 58) = W := ⟨_, rfl⟩
        obtain ⟨xb, hxb⟩ : ∃ x, (wr : World).heap.size = x := ⟨_, rfl⟩
        have cxb0 : W5.cell? ⟨xb, 0, none⟩ = some (.int .i64 d) := by rw [← hW5, ← hxb, sNew]; rfl
        have cxb1 : W5.cell? ⟨xb, 1, none⟩ = some (.bool u) := by rw [← hW5, ← hxb, sNew]; rfl
        have cxb2 : W5.cell? ⟨xb, 2, none⟩ = some (.int .i64 m) := by rw [← hW5, ← hxb, sNew]; rfl
        have cxb3 : W5.cell? ⟨xb, 3, none⟩ = some (.int .i64 g) := by rw [← hW5, ← hxb, sNew]; rfl
        have HB5 := Lib.hid (show Below w.heap.size w W5 by rw [← hW5]; exact HB.out.alloc HB.out.size _)
        have hwl : Below wr.heap.size wr W5 := by rw [← hW5]; exact below1 _ _
        skip
        rw [hW5, hxb]
        clear hW5 hxb hwl
        have E0 := fun (d : Nat) (os : Array Obj) => cell_regrown cxb0 d os
        have E1 := fun (d : Nat) (os : Array Obj) => cell_regrown cxb1 d os
        have E2 := fun (d : Nat) (os : Array Obj) => cell_regrown cxb2 d os
        have E3 := fun (d : Nat) (os : Array Obj) => cell_regrown cxb3 d os
        clear e0 e1 e2 e3 cxb0 cxb1 cxb2 cxb3
        have d1 := c1 W5
        refine wp_region_quiet_below (by kernel_rfl) (by kernel_rfl) ?_
        repeat (go_big_quiet_step (first | (go_at_call_of 73 (Value.int .i64 d); exact d1 _ _)))
        refine wpQuiet_nil ?_
        intro _ hw'
        obtain ⟨⟨dq, osq⟩, hw''⟩ := hw'
        subst hw''
        have HB6 := Lib.hid (HB5.out.trans ((below_regrown W5 dq osq).mono HB5.out.size))
        clear E0 E1 E2 E3
        go_wp2_with fail
        go_ret
        exact ⟨rfl, HB6.out⟩
    · obtain rfl : k = n := by omega
      by_cases h4 : (k : Int) ≤ 6
      · obtain rfl : R = true := HY.out ⟨by rw [HI.out.len]; omega, fun j hj => hall.out j (by rw [HI.out.len] at hj; exact hj)⟩
        clear HY HN HI CI hall
        go_wp2_with fail
        go_ret
        exact ⟨ret_bool (by simp), hb⟩
      · obtain rfl : R = false := HN.out (fun g => by have := g.1; rw [HI.out.len] at this; omega)
        clear HY HN HI CI hall
        go_wp2_with fail
        go_ret
        exact ⟨ret_bool (by simp), hb⟩
end Go.Proofs.Ytdleidlmjliapaa
