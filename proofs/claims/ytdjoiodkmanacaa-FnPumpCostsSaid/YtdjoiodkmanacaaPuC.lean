/- Chapter 12: valid tasks: the model. -/
import Derived.Test.YtdjoiodkmanacaaPuB
namespace Go.Proofs.Ytdjoiodkmanacaa
open Go.RowKit Go.PlainAid Go.Sort
set_option linter.unusedVariables false
set_option linter.unusedSimpArgs false

set_option maxRecDepth 100000 in
set_option maxHeartbeats 4000000 in
theorem l12Good_any {w : World} {B : Nat} {A D : Option Addr} {n m : Nat} {zs : List Int} {vs : List TPump} (a b c : Int) (q r : Nat) (h : IsTs w B A n zs D m vs) (hm : n ≤ 1048576) (hp : m ≤ 1048576) :
    Calls Try.prog 58 #[.agg #[.int .i64 a, .int .i64 b, .int .i64 c, .slice A n q, .slice D m r]] w fun e w' => e = .returned (.bool (gT ⟨a, b, c, zs, vs⟩)) ∧ Below w.heap.size w w' := by
  have HT := Lib.hid h
  have CI := Lib.hid (fun (z lo hi : Int) W => l1In_any z lo hi W)
  have C2 := Lib.hid (fun W => l1In_any (n : Int) 1 5 W)
  have HIFF := goodT_of (a := a) (b := b) (c := c) h.ints.len h.pumps.len.symm
  have HY := Lib.hid (fun g => gT_yes (HIFF.2 g))
  have HN0 := Lib.hid (show ¬ goodT ⟨a, b, c, zs, vs⟩ → gT ⟨a, b, c, zs, vs⟩ = false from gT_no)
  rw [HIFF] at HN0
  generalize gT ⟨a, b, c, zs, vs⟩ = R at HY HN0 ⊢
  clear HIFF h
  have HNI := Lib.hid (fun (g : ¬ allIn (-50) 50 zs) => HN0.out (fun k => g k.2.2.2.2.2.1))
  have HN := Lib.hid (fun (g : ¬ ∀ k, k < m → goodU (vs.getD k noPump)) => HN0.out (fun k => g k.2.2.2.2.2.2))
  have HNZ := Lib.hid (fun (g : ¬ ((0 : Int) ≤ a ∧ a ≤ c ∧ c ≤ b ∧ b ≤ 500 ∧ (1 ≤ (n : Int) ∧ (n : Int) ≤ 5) ∧ (m : Int) ≤ 2)) => HN0.out (fun k => g ⟨k.1.1, k.2.2.1.1, k.2.2.1.2, by have := k.2.1; omega, k.2.2.2.1, by have := k.2.2.2.2.1; omega⟩))
  have HYA := Lib.hid (fun (g : (0 : Int) ≤ a ∧ a ≤ c ∧ c ≤ b ∧ b ≤ 500 ∧ (1 ≤ (n : Int) ∧ (n : Int) ≤ 5) ∧ (m : Int) ≤ 2) (g1 : allIn (-50) 50 zs) (g2 : ∀ k, k < m → goodU (vs.getD k noPump)) => HY.out ⟨⟨g.1, by omega⟩, by omega, by omega, g.2.2.2.2.1, by omega, g1, g2⟩)
  clear HY HN0
  go_enter Try.func58, Try.ntmps58
  go_wp2_with fail
  obtain ⟨W5, hW5, X5, B5, z5⟩ := box_in w a b c A n q D m r
  rw [hW5]
  clear hW5 z5
  go_loopw [3] (fun i wr => ∃ k : Nat, k ≤ n ∧ i = .int .i64 k ∧ Hid (∀ j, j < k → -50 ≤ zs.getD j 0 ∧ zs.getD j 0 ≤ 50) ∧ BoxT wr w.heap.size a b c A n q D m r ∧ Below w.heap.size w wr) (fun i _ => n - (intOf i).toNat)
  case atStart => exact ⟨0, Nat.zero_le _, rfl, Lib.hid (fun j hj => absurd hj (by omega)), X5, B5⟩
  case round =>
    obtain ⟨k, hk, rfl, hall, hx, hb⟩ := hrel
    clear X5 B5
    have HB := Lib.hid hb
    have HX := Lib.hid hx
    have c3 := hx.c3
    by_cases hlt : k < n
    · obtain ⟨a2, rfl, hab2, ez⟩ := intGet (HT.out.below hb HT.out.low).ints.has (k := k) (by rw [HT.out.ints.len]; exact hlt)
      have HF2 := Lib.hid (fun (g : ¬ (-50 ≤ zs.getD k 0 ∧ zs.getD k 0 ≤ 50)) => HNI.out (fun h => g (allIn_getD h (by rw [HT.out.ints.len]; exact hlt))))
      have HA2 : Hid ((-50 ≤ zs.getD k 0 ∧ zs.getD k 0 ≤ 50) → ∀ j, j < k + 1 → -50 ≤ zs.getD j 0 ∧ zs.getD j 0 ≤ 50) := Lib.hid (fun h j hj => by
        rcases Nat.lt_succ_iff_lt_or_eq.1 hj with h1 | h1
        · exact hall.out j h1
        · subst h1; exact h)
      generalize zs.getD k 0 = z at ez HF2 HA2
      have CZ := Lib.hid (fun W => CI.out z (-50) 50 W)
      have hq0 : (0 : Int) ≤ (k : Int) := by omega
      have hq1 : (k : Int) < (n : Int) := by omega
      clear hall HNI HYA CI HN HNZ HT hb hx C2
      by_cases hz : -50 ≤ z ∧ z ≤ 50
      · rw [decide_eq_true hz] at CZ
        have HR := Lib.hid (HA2.out hz)
        clear HF2 HA2 hz
        go_wp2_with fail
        refine (CZ.out _).mono ?_
        rintro e w3 ⟨rfl, rfl⟩
        clear CZ
        go_wp2_with fail
        go_roundw
        case rel => exact ⟨k + 1, by omega, by go_num, HR, HX.out, HB.out⟩
        case measure => simp [intOf]; omega
      · rw [decide_eq_false hz] at CZ
        obtain rfl : R = false := HF2.out hz
        clear HF2 HA2 hz
        go_wp2_with fail
        refine (CZ.out _).mono ?_
        rintro e w3 ⟨rfl, rfl⟩
        go_wp2_with fail
        go_ret
        exact ⟨rfl, HB.out⟩
    · obtain rfl : n = k := by omega
      have HYB := Lib.hid (fun g g2 => HYA.out g (fun z hz => by
        obtain ⟨j, hj, rfl⟩ := List.getElem_of_mem hz
        have := hall.out j (by rw [← HT.out.ints.len]; exact hj)
        rwa [List.getD_eq_getElem?_getD, List.getElem?_eq_getElem hj] at this) g2)
      have c4 := hx.c4
      clear hall HNI HYA hlt
      go_wp2_with fail
      clear c3 c4
      go_loopw [4] (fun i wr => ∃ k : Nat, k ≤ m ∧ i = .int .i64 k ∧ Hid (∀ j, j < k → goodU (vs.getD j noPump)) ∧ BoxT wr w.heap.size a b c A n q D m r ∧ Below w.heap.size w wr) (fun i _ => m - (intOf i).toNat)
      case atStart => exact ⟨0, Nat.zero_le _, rfl, Lib.hid (by simp), HX.out, HB.out⟩
      case round =>
        clear hx hb HB HX
        obtain ⟨k, hk, rfl, hall, hx, hb⟩ := hrel
        have c4 := hx.c4
        by_cases hlt : k < m
        · skip
          have hkl : k < vs.length := by rw [HT.out.pumps.len]; exact hlt
          obtain ⟨a1, rfl, hab, HV⟩ := (HT.out.below hb HT.out.low).pumps.has.Pump hkl
          have HF : Hid (¬ goodU (vs.getD k noPump) → R = false) := Lib.hid (fun h => HN.out (fun g => h (g k hlt)))
          have HA : Hid (goodU (vs.getD k noPump) → ∀ j, j < k + 1 → goodU (vs.getD j noPump)) := Lib.hid (fun h j hj => by
            rcases Nat.lt_succ_iff_lt_or_eq.1 hj with h1 | h1
            · exact hall.out j h1
            · exact h1 ▸ h)
          obtain ⟨V, hV⟩ : ∃ V, vs.getD k noPump = V := ⟨_, rfl⟩
          rw [hV] at HV HF HA
          clear hV
          obtain ⟨d, l, x⟩ := V
          obtain ⟨e0, e1, e2⟩ := HV
          dsimp only at e0 e1 e2
          have HB := Lib.hid hb
          have HX := Lib.hid hx
          have hk0 : (0 : Int) ≤ (k : Int) := by omega
          have hk1 : (k : Int) < (m : Int) := by omega
          have C0 := Lib.hid (CI.out d 1 50)
          have C1 := Lib.hid (CI.out l 0 20)
          have CX := Lib.hid (CI.out x 0 50)
          obtain ⟨b0, hb0⟩ : ∃ y, decide (1 ≤ d ∧ d ≤ 50) = y := ⟨_, rfl⟩
          obtain ⟨b1, hb1⟩ : ∃ y, decide (0 ≤ l ∧ l ≤ 20) = y := ⟨_, rfl⟩
          obtain ⟨b2, hb2⟩ : ∃ y, decide (0 ≤ x ∧ x ≤ 50) = y := ⟨_, rfl⟩
          rw [hb0] at C0
          rw [hb1] at C1
          rw [hb2] at CX
          have H0 := Lib.hid hb0
          have H1 := Lib.hid hb1
          have H2 := Lib.hid hb2
          have HB5 := Lib.hid (hb.alloc hb.size (.cells #[.int .i64 d, .int .i64 l, .int .i64 x] 69))
          have HX5 := Lib.hid (hx.all (below1 _ (.cells #[.int .i64 d, .int .i64 l, .int .i64 x] 69)))
          clear hb hall hx CI C2 HNZ HYB HT hb0 hb1 hb2
          go_wp2_with fail
          refine (C0.out _).mono ?_
          rintro e w6 ⟨rfl, rfl⟩
          clear C0
          cases b0 with
          | false =>
            · skip
              obtain rfl : R = false := HF.out (fun g => by have h := of_decide_eq_false H0.out; exact h g.1)
              clear HF HA H0 HN
              go_wp2_with fail
              go_ret
              exact ⟨rfl, HB5.out⟩
          | true =>
            go_wp2_with fail
            refine (C1.out _).mono ?_
            rintro e w6 ⟨rfl, rfl⟩
            clear C1
            cases b1 with
            | false =>
              · skip
                obtain rfl : R = false := HF.out (fun g => by have h := of_decide_eq_false H1.out; exact h g.2.1)
                clear HF HA H0 HN
                go_wp2_with fail
                go_ret
                exact ⟨rfl, HB5.out⟩
            | true =>
              go_wp2_with fail
              refine (CX.out _).mono ?_
              rintro e w6 ⟨rfl, rfl⟩
              clear CX
              cases b2 with
              | false =>
                · skip
                  obtain rfl : R = false := HF.out (fun g => by have h := of_decide_eq_false H2.out; exact h g.2.2)
                  clear HF HA H0 HN
                  go_wp2_with fail
                  go_ret
                  exact ⟨rfl, HB5.out⟩
              | true =>
                have HR := Lib.hid (HA.out ⟨of_decide_eq_true H0.out, of_decide_eq_true H1.out, of_decide_eq_true H2.out⟩)
                clear HF HA HN H0 H1 H2
                go_wp2_with fail
                go_roundw
                case rel => exact ⟨k + 1, by omega, by go_num, HR, HX5.out, HB5.out⟩
                case measure => simp [intOf]; omega
        · obtain rfl : m = k := by omega
          have HYZ := Lib.hid (fun g => HYB.out g (fun j hj => hall.out j hj))
          have HB := Lib.hid hb
          have c0 := hx.c0
          have c1 := hx.c1
          have c2 := hx.c2
          have c3 := hx.c3
          clear HYB hall hb hx HN CI hlt HT
          by_cases h1 : 0 ≤ a
          case neg =>
            obtain rfl : R = false := HNZ.out (fun g => absurd g.1 (by omega))
            clear HYZ HNZ C2
            go_wp2_with fail
            go_ret
            exact ⟨rfl, HB.out⟩
          by_cases h2 : a ≤ c
          case neg =>
            obtain rfl : R = false := HNZ.out (fun g => absurd g.2.1 (by omega))
            clear HYZ HNZ C2
            go_wp2_with fail
            go_ret
            exact ⟨rfl, HB.out⟩
          by_cases h3 : c ≤ b
          case neg =>
            obtain rfl : R = false := HNZ.out (fun g => absurd g.2.2.1 (by omega))
            clear HYZ HNZ C2
            go_wp2_with fail
            go_ret
            exact ⟨rfl, HB.out⟩
          by_cases h4 : b ≤ 500
          case neg =>
            obtain rfl : R = false := HNZ.out (fun g => absurd g.2.2.2.1 (by omega))
            clear HYZ HNZ C2
            go_wp2_with fail
            go_ret
            exact ⟨rfl, HB.out⟩
          obtain ⟨b0, hb0⟩ : ∃ y, decide (1 ≤ (n : Int) ∧ (n : Int) ≤ 5) = y := ⟨_, rfl⟩
          rw [hb0] at C2
          have H0 := Lib.hid hb0
          clear hb0
          go_wp2_with fail
          refine (C2.out _).mono ?_
          rintro e w6 ⟨rfl, rfl⟩
          clear C2
          cases b0 with
          | false =>
            obtain rfl : R = false := HNZ.out (fun g => of_decide_eq_false H0.out g.2.2.2.2.1)
            clear HYZ HNZ H0
            go_wp2_with fail
            go_ret
            exact ⟨rfl, HB.out⟩
          | true =>
            obtain rfl : R = decide ((m : Int) ≤ 2) := by
              by_cases h5 : (m : Int) ≤ 2
              · rw [decide_eq_true h5]; exact HYZ.out ⟨h1, h2, h3, h4, of_decide_eq_true H0.out, h5⟩
              · rw [decide_eq_false h5]; exact HNZ.out (fun g => h5 g.2.2.2.2.2)
            clear HYZ HNZ H0
            go_wp2_with fail
            go_ret
            exact ⟨rfl, HB.out⟩
set_option maxHeartbeats 400000 in
theorem goodS_any {w : World} {B : Nat} {A D : Option Addr} {n m : Nat} {zs : List Int} {vs : List TPump} (a b c : Int) (q r : Nat) (h : IsTs w B A n zs D m vs) (hm : n ≤ 1048576) (hp : m ≤ 1048576) :
    Calls Try.prog 20 #[.agg #[.int .i64 a, .int .i64 b, .int .i64 c, .slice A n q, .slice D m r]] w fun e w' => e = .returned (.bool (gT ⟨a, b, c, zs, vs⟩)) ∧ Below w.heap.size w w' := by
  obtain ⟨W5, hW5, X5, B5, z5⟩ := box_in w a b c A n q D m r
  have c0 := X5.c0
  have c1 := X5.c1
  have c2 := X5.c2
  have c3 := X5.c3
  have c4 := X5.c4
  have C := Lib.hid (l12Good_any a b c q r (h.upB B5) hm hp)
  have HB5 := Lib.hid B5
  generalize gT ⟨a, b, c, zs, vs⟩ = R at C ⊢
  clear h X5 B5 z5
  go_enter Try.func20, Try.ntmps20
  go_wp2_with fail
  (try rw [hW5])
  refine C.out.mono ?_
  rintro e w1 ⟨rfl, hb⟩
  have HB := Lib.hid (HB5.out.trans (hb.mono HB5.out.size))
  clear hb
  go_wp2_with fail
  go_ret
  exact ⟨rfl, HB.out⟩
end Go.Proofs.Ytdjoiodkmanacaa
