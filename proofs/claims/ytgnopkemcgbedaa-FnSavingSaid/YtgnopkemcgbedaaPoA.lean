/- Chapter 11: valid Pools: the model and the program. -/
import Derived.Test.YtgnopkemcgbedaaPoX
import Derived.Test.YtgnopkemcgbedaaRng
import Derived.Deep.QuietTactic
import Derived.Deep.RegionWith
namespace Go.Proofs.Ytgnopkemcgbedaa
open Go.RowKit Go.PlainAid Go.Sort
set_option linter.unusedVariables false
set_option linter.unusedSimpArgs false

theorem below1 (w : World) (a : Obj) : Below w.heap.size w (w.alloc a) := (Below.refl _ _).alloc (Nat.le_refl _) _
theorem below2 (w : World) (a b : Obj) : Below w.heap.size w ((w.alloc a).alloc b) := (below1 w a).alloc (by simp) _
theorem ret_bool {a b : Bool} (h : a = b) : Ending.returned (.bool a) = .returned (.bool b) := by rw [h]
theorem toBelow {P : Program} {f : FuncId} {args : Array Value} {w : World} {E : Ending} (h : Calls P f args w fun e w' => e = E ∧ w = w') : Calls P f args w fun e w' => e = E ∧ Below w.heap.size w w' :=
  h.mono fun _ _ ⟨a, b⟩ => ⟨a, b ▸ Below.refl _ _⟩

set_option maxHeartbeats 800000 in
theorem isPool_any (a f v : Int) (w : World) :
    Calls Try.prog 29 #[.agg #[.int .i64 a, .int .i64 f, .int .i64 v]] w fun e w' => e = .returned (.bool (decide (goodP ⟨a, f, v⟩))) ∧ Below w.heap.size w w' := by
  have C0 := Lib.hid (fun W => inRange_any a 1 100 W)
  have C1 := Lib.hid (fun W => inRange_any f 0 2000 W)
  have C2 := Lib.hid (fun W => inRange_any v 0 100000 W)
  have hv := Lib.hid (show decide (goodP ⟨a, f, v⟩) = (decide (1 ≤ a ∧ a ≤ 100) && (decide (0 ≤ f ∧ f ≤ 2000) && decide (0 ≤ v ∧ v ≤ 100000))) by rw [Bool.eq_iff_iff]; simp only [Bool.and_eq_true, decide_eq_true_eq]; exact Iff.rfl)
  generalize decide (goodP ⟨a, f, v⟩) = B at hv ⊢
  generalize decide (1 ≤ a ∧ a ≤ 100) = b0 at C0 hv
  generalize decide (0 ≤ f ∧ f ≤ 2000) = b1 at C1 hv
  generalize decide (0 ≤ v ∧ v ≤ 100000) = b2 at C2 hv
  go_enter Try.func29, Try.ntmps29
  go_wp2_with fail
  refine (C0.out _).mono ?_
  rintro e w1 ⟨rfl, rfl⟩
  cases b0 with
  | false =>
    obtain rfl : B = false := by have := hv.out; simpa using this
    go_wp2_with fail
    go_ret
    exact ⟨rfl, below1 _ _⟩
  | true =>
    go_wp2_with fail
    refine (C1.out _).mono ?_
    rintro e w1 ⟨rfl, rfl⟩
    cases b1 with
    | false =>
      obtain rfl : B = false := by have := hv.out; simpa using this
      go_wp2_with fail
      go_ret
      exact ⟨rfl, below1 _ _⟩
    | true =>
      obtain rfl : B = b2 := by have := hv.out; simpa using this
      go_wp2_with fail
      refine (C2.out _).mono ?_
      rintro e w1 ⟨rfl, rfl⟩
      go_wp2_with fail
      go_ret
      exact ⟨rfl, below1 _ _⟩
set_option maxHeartbeats 800000 in
theorem l11Good_any (a f v : Int) (w : World) :
    Calls Try.prog 64 #[.agg #[.int .i64 a, .int .i64 f, .int .i64 v]] w fun e w' => e = .returned (.bool (decide (goodP ⟨a, f, v⟩))) ∧ Below w.heap.size w w' := by
  have C0 := Lib.hid (fun W => l1In_any a 1 100 W)
  have C1 := Lib.hid (fun W => l1In_any f 0 2000 W)
  have C2 := Lib.hid (fun W => l1In_any v 0 100000 W)
  have hv := Lib.hid (show decide (goodP ⟨a, f, v⟩) = (decide (1 ≤ a ∧ a ≤ 100) && (decide (0 ≤ f ∧ f ≤ 2000) && decide (0 ≤ v ∧ v ≤ 100000))) by rw [Bool.eq_iff_iff]; simp only [Bool.and_eq_true, decide_eq_true_eq]; exact Iff.rfl)
  generalize decide (goodP ⟨a, f, v⟩) = B at hv ⊢
  generalize decide (1 ≤ a ∧ a ≤ 100) = b0 at C0 hv
  generalize decide (0 ≤ f ∧ f ≤ 2000) = b1 at C1 hv
  generalize decide (0 ≤ v ∧ v ≤ 100000) = b2 at C2 hv
  go_enter Try.func64, Try.ntmps64
  go_wp2_with fail
  refine (C0.out _).mono ?_
  rintro e w1 ⟨rfl, rfl⟩
  cases b0 with
  | false =>
    obtain rfl : B = false := by have := hv.out; simpa using this
    go_wp2_with fail
    go_ret
    exact ⟨rfl, below1 _ _⟩
  | true =>
    go_wp2_with fail
    refine (C1.out _).mono ?_
    rintro e w1 ⟨rfl, rfl⟩
    cases b1 with
    | false =>
      obtain rfl : B = false := by have := hv.out; simpa using this
      go_wp2_with fail
      go_ret
      exact ⟨rfl, below1 _ _⟩
    | true =>
      obtain rfl : B = b2 := by have := hv.out; simpa using this
      go_wp2_with fail
      refine (C2.out _).mono ?_
      rintro e w1 ⟨rfl, rfl⟩
      go_wp2_with fail
      go_ret
      exact ⟨rfl, below1 _ _⟩
set_option maxHeartbeats 400000 in
theorem isPoolS_any (a f v : Int) (w : World) :
    Calls Try.prog 43 #[.agg #[.int .i64 a, .int .i64 f, .int .i64 v]] w fun e w' => e = .returned (.bool (decide (goodP ⟨a, f, v⟩))) ∧ Below w.heap.size w w' := by
  have C := Lib.hid (fun W => l11Good_any a f v W)
  generalize decide (goodP ⟨a, f, v⟩) = R at C ⊢
  go_enter Try.func43, Try.ntmps43
  go_wp2_with fail
  refine (C.out _).mono ?_
  rintro e w1 ⟨rfl, hb⟩
  have HB := Lib.hid ((below1 w (.cells #[.int .i64 a, .int .i64 f, .int .i64 v] 35)).trans (hb.mono (by simp)))
  clear hb
  go_wp2_with fail
  go_ret
  exact ⟨rfl, HB.out⟩

set_option maxRecDepth 100000 in
set_option maxHeartbeats 2000000 in
theorem arePools_any {w : World} {B : Nat} {A : Option Addr} {n : Nat} {vs : List TPool} (c : Nat) (h : IsPools w B A n vs) (hm : n ≤ maxLen) :
    Calls Try.prog 20 #[.slice A n c] w fun e w' => e = .returned (.bool (gPs vs)) ∧ Below w.heap.size w w' := by
  unfold maxLen at hm
  have CI := Lib.hid (fun (v l m : Int) (W : World) => isPool_any v l m W)
  have C0 := Lib.hid (fun W => inRange_any (n : Int) 2 5 W)
  have HI := Lib.hid h
  have HY := Lib.hid (fun h : goodPs vs => gPs_yes h)
  have HN := Lib.hid (fun h : ¬ goodPs vs => gPs_no h)
  generalize gPs vs = R at HY HN ⊢
  clear h
  by_cases h4 : 2 ≤ (n : Int) ∧ (n : Int) ≤ 5
  · rw [decide_eq_true h4] at C0
    go_enter Try.func20, Try.ntmps20
    go_wp2_with fail
    refine (C0.out _).mono ?_
    rintro e w1 ⟨rfl, rfl⟩
    clear C0
    go_wp2_with fail
    go_loopw [11] (fun i wr => ∃ k : Nat, k ≤ n ∧ i = .int .i64 k ∧ Hid (∀ j, j < k → goodP (vs.getD j noPool)) ∧ Below w.heap.size w wr) (fun i _ => n - (intOf i).toNat)
    case atStart => exact ⟨0, Nat.zero_le _, rfl, Lib.hid (by simp), Below.refl _ _⟩
    case round =>
      obtain ⟨k, hk, rfl, hall, hb⟩ := hrel
      by_cases hlt : k < n
      · skip
        have hkl : k < vs.length := by rw [HI.out.len]; exact hlt
        obtain ⟨a1, rfl, hab, HV⟩ := (HI.out.below hb HI.out.low).has.Pool hkl
        have HF : Hid (¬ goodP (vs.getD k noPool) → R = false) := Lib.hid (fun h => HN.out (fun g => h (g.2 k hkl)))
        have HA : Hid (goodP (vs.getD k noPool) → ∀ j, j < k + 1 → goodP (vs.getD j noPool)) := Lib.hid (fun h j hj => by
          rcases Nat.lt_succ_iff_lt_or_eq.1 hj with h1 | h1
          · exact hall.out j h1
          · exact h1 ▸ h)
        obtain ⟨V, hV⟩ : ∃ V, vs.getD k noPool = V := ⟨_, rfl⟩
        rw [hV] at HV HF HA
        clear hV
        obtain ⟨d, l, b⟩ := V
        obtain ⟨e0, e1, e2⟩ := HV
        dsimp only at e0 e1 e2
        have HB := Lib.hid hb
        have hk0 : (0 : Int) ≤ (k : Int) := by omega
        have hk1 : (k : Int) < (n : Int) := by omega
        have D0 := Lib.hid (CI.out d l b)
        obtain ⟨G, hG⟩ : ∃ G, decide (goodP ⟨d, l, b⟩) = G := ⟨_, rfl⟩
        rw [hG] at D0
        have HG := Lib.hid hG
        clear hb hall hG
        clear CI
        go_wp2_with fail
        refine (D0.out _).mono ?_
        rintro e w6 ⟨rfl, hb6⟩
        have HB6 := Lib.hid (((HB.out.alloc HB.out.size _).trans (hb6.mono (HB.out.alloc HB.out.size _).size)))
        clear hb6 D0
        cases G with
        | true =>
          have HR := Lib.hid (HA.out (of_decide_eq_true HG.out))
          clear HF HA HG HY HN
          go_wp2_with fail
          go_roundw
          case rel => exact ⟨k + 1, by omega, by go_num, HR, HB6.out⟩
          case measure => simp [intOf]; omega
        | false =>
          obtain rfl : R = false := HF.out (of_decide_eq_false HG.out)
          clear HF HA HG HY HN HI
          go_wp2_with fail
          go_ret
          exact ⟨rfl, HB6.out⟩
      · obtain rfl : k = n := by omega
        obtain rfl : R = true := HY.out ⟨by rw [HI.out.len]; omega, fun j hj => hall.out j (by rw [HI.out.len] at hj; exact hj)⟩
        clear HY HN HI CI hall
        go_wp2
        go_ret
        exact ⟨rfl, hb⟩
  · obtain rfl : R = false := HN.out (fun g => by have := g.1; rw [HI.out.len] at this; omega)
    rw [decide_eq_false h4] at C0
    clear HY HN HI CI
    go_enter Try.func20, Try.ntmps20
    go_wp2_with fail
    refine (C0.out _).mono ?_
    rintro e w1 ⟨rfl, rfl⟩
    go_wp2_with fail
    go_ret
    exact ⟨rfl, Below.refl _ _⟩
set_option maxRecDepth 100000 in
set_option maxHeartbeats 2000000 in
theorem l11List_any {w : World} {B : Nat} {A : Option Addr} {n : Nat} {vs : List TPool} (c : Nat) (h : IsPools w B A n vs) (hm : n ≤ maxLen) :
    Calls Try.prog 58 #[.slice A n c] w fun e w' => e = .returned (.bool (gPs vs)) ∧ Below w.heap.size w w' := by
  unfold maxLen at hm
  have CI := Lib.hid (fun (v l m : Int) (W : World) => l11Good_any v l m W)
  have C0 := Lib.hid (fun W => l1In_any (n : Int) 2 5 W)
  have HI := Lib.hid h
  have HY := Lib.hid (fun h : goodPs vs => gPs_yes h)
  have HN := Lib.hid (fun h : ¬ goodPs vs => gPs_no h)
  generalize gPs vs = R at HY HN ⊢
  clear h
  go_enter Try.func58, Try.ntmps58
  go_wp2_with fail
  go_loopw [3] (fun i wr => ∃ k : Nat, k ≤ n ∧ i = .int .i64 k ∧ Hid (∀ j, j < k → goodP (vs.getD j noPool)) ∧ Below w.heap.size w wr) (fun i _ => n - (intOf i).toNat)
  case atStart => exact ⟨0, Nat.zero_le _, rfl, Lib.hid (by simp), Below.refl _ _⟩
  case round =>
    obtain ⟨k, hk, rfl, hall, hb⟩ := hrel
    by_cases hlt : k < n
    · skip
      have hkl : k < vs.length := by rw [HI.out.len]; exact hlt
      obtain ⟨a1, rfl, hab, HV⟩ := (HI.out.below hb HI.out.low).has.Pool hkl
      have HF : Hid (¬ goodP (vs.getD k noPool) → R = false) := Lib.hid (fun h => HN.out (fun g => h (g.2 k hkl)))
      have HA : Hid (goodP (vs.getD k noPool) → ∀ j, j < k + 1 → goodP (vs.getD j noPool)) := Lib.hid (fun h j hj => by
        rcases Nat.lt_succ_iff_lt_or_eq.1 hj with h1 | h1
        · exact hall.out j h1
        · exact h1 ▸ h)
      obtain ⟨V, hV⟩ : ∃ V, vs.getD k noPool = V := ⟨_, rfl⟩
      rw [hV] at HV HF HA
      clear hV
      obtain ⟨d, l, b⟩ := V
      obtain ⟨e0, e1, e2⟩ := HV
      dsimp only at e0 e1 e2
      have HB := Lib.hid hb
      have hk0 : (0 : Int) ≤ (k : Int) := by omega
      have hk1 : (k : Int) < (n : Int) := by omega
      have D0 := Lib.hid (CI.out d l b)
      obtain ⟨G, hG⟩ : ∃ G, decide (goodP ⟨d, l, b⟩) = G := ⟨_, rfl⟩
      rw [hG] at D0
      have HG := Lib.hid hG
      clear hb hall hG
      clear CI
      go_wp2_with fail
      refine (D0.out _).mono ?_
      rintro e w6 ⟨rfl, hb6⟩
      have HB6 := Lib.hid ((HB.out.trans (hb6.mono HB.out.size)))
      clear hb6 D0
      cases G with
      | true =>
        have HR := Lib.hid (HA.out (of_decide_eq_true HG.out))
        clear HF HA HG HY HN
        go_wp2_with fail
        go_roundw
        case rel => exact ⟨k + 1, by omega, by go_num, HR, HB6.out⟩
        case measure => simp [intOf]; omega
      | false =>
        obtain rfl : R = false := HF.out (of_decide_eq_false HG.out)
        clear HF HA HG HY HN HI
        go_wp2_with fail
        go_ret
        exact ⟨rfl, HB6.out⟩
    · obtain rfl : k = n := by omega
      have HE : Hid (R = decide (2 ≤ (k : Int) ∧ (k : Int) ≤ 5)) := Lib.hid (by
        by_cases h4 : 2 ≤ (k : Int) ∧ (k : Int) ≤ 5
        · rw [decide_eq_true h4]
          exact HY.out ⟨by rw [HI.out.len]; omega, fun j hj => hall.out j (by rw [HI.out.len] at hj; exact hj)⟩
        · rw [decide_eq_false h4]
          exact HN.out (fun g => by have := g.1; rw [HI.out.len] at this; omega))
      clear HY HN HI CI hall
      generalize decide (2 ≤ (k : Int) ∧ (k : Int) ≤ 5) = z at C0 HE
      obtain rfl := HE.out
      clear HE
      go_wp2_with fail
      refine (C0.out _).mono ?_
      rintro e w1 ⟨rfl, rfl⟩
      go_wp2_with fail
      go_ret
      exact ⟨rfl, hb⟩
set_option maxHeartbeats 400000 in
theorem arePoolsS_any {w : World} {B : Nat} {A : Option Addr} {n : Nat} {vs : List TPool} (c : Nat) (h : IsPools w B A n vs) (hm : n ≤ maxLen) :
    Calls Try.prog 21 #[.slice A n c] w fun e w' => e = .returned (.bool (gPs vs)) ∧ Below w.heap.size w w' := by
  have C := Lib.hid (l11List_any c h hm)
  generalize gPs vs = R at C ⊢
  clear h hm
  go_enter Try.func21, Try.ntmps21
  go_wp2_with fail
  refine C.out.mono ?_
  rintro e w1 ⟨rfl, hb⟩
  go_wp2_with fail
  go_ret
  exact ⟨rfl, hb⟩
end Go.Proofs.Ytgnopkemcgbedaa
