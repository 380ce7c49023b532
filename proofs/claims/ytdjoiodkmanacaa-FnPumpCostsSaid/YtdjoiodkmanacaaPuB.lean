/- Chapter 12: valid tasks: the model and the program. -/
import Derived.Test.YtdjoiodkmanacaaPuA
namespace Go.Proofs.Ytdjoiodkmanacaa
open Go.RowKit Go.PlainAid Go.Sort
set_option linter.unusedVariables false
set_option linter.unusedSimpArgs false

set_option maxHeartbeats 800000 in
theorem isPump_any (a f v : Int) (w : World) :
    Calls Try.prog 56 #[.agg #[.int .i64 a, .int .i64 f, .int .i64 v]] w fun e w' => e = .returned (.bool (decide (goodU ⟨a, f, v⟩))) ∧ Below w.heap.size w w' := by
  have C0 := Lib.hid (fun W => inRange_any a 1 50 W)
  have C1 := Lib.hid (fun W => inRange_any f 0 20 W)
  have C2 := Lib.hid (fun W => inRange_any v 0 50 W)
  have hv := Lib.hid (show decide (goodU ⟨a, f, v⟩) = (decide (1 ≤ a ∧ a ≤ 50) && (decide (0 ≤ f ∧ f ≤ 20) && decide (0 ≤ v ∧ v ≤ 50))) by rw [Bool.eq_iff_iff]; simp only [Bool.and_eq_true, decide_eq_true_eq]; exact Iff.rfl)
  generalize decide (goodU ⟨a, f, v⟩) = B at hv ⊢
  generalize decide (1 ≤ a ∧ a ≤ 50) = b0 at C0 hv
  generalize decide (0 ≤ f ∧ f ≤ 20) = b1 at C1 hv
  generalize decide (0 ≤ v ∧ v ≤ 50) = b2 at C2 hv
  go_enter Try.func56, Try.ntmps56
  go_wp2_with fail
  refine (C0.out _).mono ?_
  rintro e w1 ⟨rfl, rfl⟩
  cases b0 with
  | false =>
    obtain rfl : B = false := by have := hv.out; simpa using this
    go_wp2_with fail
    go_ret
    exact ⟨rfl, below1 _ _⟩
  | true =>
    go_wp2_with fail
    refine (C1.out _).mono ?_
    rintro e w1 ⟨rfl, rfl⟩
    cases b1 with
    | false =>
      obtain rfl : B = false := by have := hv.out; simpa using this
      go_wp2_with fail
      go_ret
      exact ⟨rfl, below1 _ _⟩
    | true =>
      obtain rfl : B = b2 := by have := hv.out; simpa using this
      go_wp2_with fail
      refine (C2.out _).mono ?_
      rintro e w1 ⟨rfl, rfl⟩
      go_wp2_with fail
      go_ret
      exact ⟨rfl, below1 _ _⟩
set_option maxHeartbeats 800000 in
theorem isWithin_any (a b c : Int) (A : Option Addr) (n q : Nat) (D : Option Addr) (m r : Nat) (z : Int) (w : World) :
    Calls Try.prog 55 #[.agg #[.int .i64 a, .int .i64 b, .int .i64 c, .slice A n q, .slice D m r], .int .i64 z] w fun e w' => e = .returned (.bool (decide (a ≤ z ∧ z ≤ b))) ∧ Below w.heap.size w w' := by
  have C0 := Lib.hid (fun W => inRange_any z a b W)
  generalize decide (a ≤ z ∧ z ≤ b) = b0 at C0 ⊢
  go_enter Try.func55, Try.ntmps55
  go_wp2_with fail
  refine (C0.out _).mono ?_
  rintro e w1 ⟨rfl, rfl⟩
  go_wp2_with fail
  go_ret
  exact ⟨rfl, below1 _ _⟩
theorem goodT_of {a b c : Int} {n m : Nat} {zs : List Int} {vs : List TPump} (hn : zs.length = n) (hm : m = vs.length) :
    goodT ⟨a, b, c, zs, vs⟩ ↔ (0 ≤ a ∧ a ≤ b) ∧ ¬ 500 < b ∧ (a ≤ c ∧ c ≤ b) ∧ (1 ≤ (n : Int) ∧ (n : Int) ≤ 5) ∧ ¬ 2 < (m : Int) ∧ allIn (-50) 50 zs ∧ ∀ k, k < m → goodU (vs.getD k noPump) := by
  subst hm hn
  have e : allIn (-50) 50 zs ↔ allFl zs := by
    constructor
    · intro h k hk; exact allIn_getD h hk
    · intro h z hz
      obtain ⟨k, hk, rfl⟩ := List.getElem_of_mem hz
      have := h k hk
      rwa [List.getD_eq_getElem?_getD, List.getElem?_eq_getElem hk] at this
  unfold goodT
  dsimp only
  rw [e]
  constructor
  · rintro ⟨h1, h2, h3, h4, h5⟩
    exact ⟨by omega, by omega, by omega, by omega, by omega, h4, h5⟩
  · rintro ⟨h1, h2, h3, h4, h5, h6, h7⟩
    exact ⟨by omega, by omega, by omega, h6, h7⟩

set_option maxRecDepth 100000 in
set_option maxHeartbeats 4000000 in
theorem goodI_any {w : World} {B : Nat} {A D : Option Addr} {n m : Nat} {zs : List Int} {vs : List TPump} (a b c : Int) (q r : Nat) (h : IsTs w B A n zs D m vs) (hm : n ≤ 1048576) (hp : m ≤ 1048576) :
    Calls Try.prog 19 #[.agg #[.int .i64 a, .int .i64 b, .int .i64 c, .slice A n q, .slice D m r]] w fun e w' => e = .returned (.bool (gT ⟨a, b, c, zs, vs⟩)) ∧ Below w.heap.size w w' := by
  have HT := Lib.hid h
  have C0 := Lib.hid (fun W => inRange_any a 0 b W)
  have C1 := Lib.hid (fun W => isWithin_any a b c A n q D m r c W)
  have C2 := Lib.hid (fun W => inRange_any (n : Int) 1 5 W)
  have CP := Lib.hid (fun d l x W => isPump_any d l x W)
  have CA := Lib.hid (fun W (hb : Below w.heap.size w W) => areIn_any (-50) 50 A n q B zs W h.ints.len hm (h.below hb h.low).ints.has)
  have HIFF := goodT_of (a := a) (b := b) (c := c) h.ints.len h.pumps.len.symm
  have HY := Lib.hid (fun g => gT_yes (HIFF.2 g))
  have HN := Lib.hid (show ¬ goodT ⟨a, b, c, zs, vs⟩ → gT ⟨a, b, c, zs, vs⟩ = false from gT_no)
  rw [HIFF] at HN
  generalize gT ⟨a, b, c, zs, vs⟩ = R at HY HN ⊢
  clear HIFF h
  obtain ⟨b0, hb0⟩ : ∃ x, decide (0 ≤ a ∧ a ≤ b) = x := ⟨_, rfl⟩
  obtain ⟨b1, hb1⟩ : ∃ x, decide (a ≤ c ∧ c ≤ b) = x := ⟨_, rfl⟩
  obtain ⟨b2, hb2⟩ : ∃ x, decide (1 ≤ (n : Int) ∧ (n : Int) ≤ 5) = x := ⟨_, rfl⟩
  rw [hb0] at C0
  rw [hb1] at C1
  rw [hb2] at C2
  have H0 := Lib.hid hb0
  have H1 := Lib.hid hb1
  have H2 := Lib.hid hb2
  clear hb0 hb1 hb2
  go_enter Try.func19, Try.ntmps19
  go_wp2_with fail
  have HB1 := Lib.hid (below1 w (.cells #[.int .i64 a, .int .i64 b, .int .i64 c, .slice A n q, .slice D m r] 27))
  refine (C0.out _).mono ?_
  rintro e w1 ⟨rfl, rfl⟩
  clear C0
  cases b0 with
  | false =>
    clear C1 C2 CP CA
    · skip
      obtain rfl : R = false := HN.out (fun g => (by have h := of_decide_eq_false H0.out; exact h g.1))
      clear HN HY
      go_wp2_with fail
      go_ret
      exact ⟨rfl, HB1.out⟩
  | true =>
    have H0t := of_decide_eq_true H0.out
    by_cases h5 : 500 < b
    · clear C1 C2 CP CA
      obtain rfl : R = false := HN.out (fun g => absurd g.2.1 (by omega))
      clear HN HY
      go_wp2_with fail
      go_ret
      exact ⟨rfl, HB1.out⟩
    · go_wp2_with fail
      refine (C1.out _).mono ?_
      rintro e w1 ⟨rfl, hb⟩
      obtain ⟨W5, hW5, X5, -, z5⟩ := box_in w a b c A n q D m r
      rw [hW5] at hb HB1
      clear hW5
      have HB2 := Lib.hid (HB1.out.trans (hb.mono HB1.out.size))
      have X1 := Lib.hid (X5.all hb)
      clear hb X5 HB1 C1
      cases b1 with
      | false =>
        clear C2 CP CA
        obtain rfl : R = false := HN.out (fun g => of_decide_eq_false H1.out g.2.2.1)
        clear HN HY X1
        go_wp2_with fail
        go_ret
        exact ⟨rfl, HB2.out⟩
      | true =>
        have c3 := X1.out.c3
        have c4 := X1.out.c4
        go_wp2_with fail
        refine (C2.out _).mono ?_
        rintro e w2 ⟨rfl, rfl⟩
        clear C2
        cases b2 with
        | false =>
          clear CP CA
          obtain rfl : R = false := HN.out (fun g => of_decide_eq_false H2.out g.2.2.2.1)
          clear HN HY X1
          go_wp2_with fail
          go_ret
          exact ⟨rfl, HB2.out⟩
        | true =>
          by_cases h2 : 2 < (m : Int)
          · clear CP CA
            obtain rfl : R = false := HN.out (fun g => absurd g.2.2.2.2.1 (by omega))
            clear HN HY X1
            go_wp2_with fail
            go_ret
            exact ⟨rfl, HB2.out⟩
          · have HY2 := Lib.hid (fun g1 g2 => HY.out ⟨H0t, h5, of_decide_eq_true H1.out, of_decide_eq_true H2.out, by omega, g1, g2⟩)
            have HN1 := Lib.hid (fun (g : ¬ allIn (-50) 50 zs) => HN.out (fun k => g k.2.2.2.2.2.1))
            replace HN := Lib.hid (fun (g : ¬ ∀ k, k < m → goodU (vs.getD k noPump)) => HN.out (fun k => g k.2.2.2.2.2.2))
            clear HY H0t h5 H1 H2 H0
            go_wp2_with fail
            go_loopw [37] (fun i wr => ∃ k : Nat, k ≤ m ∧ i = .int .i64 k ∧ Hid (∀ j, j < k → goodU (vs.getD j noPump)) ∧ BoxT wr w.heap.size a b c A n q D m r ∧ Below w.heap.size w wr) (fun i _ => m - (intOf i).toNat)
            case atStart => exact ⟨0, Nat.zero_le _, rfl, Lib.hid (by simp), X1.out, HB2.out⟩
            case round =>
              obtain ⟨k, hk, rfl, hall, hx, hb⟩ := hrel
              clear c3 c4
              by_cases hlt : k < m
              · skip
                have hkl : k < vs.length := by rw [HT.out.pumps.len]; exact hlt
                obtain ⟨a1, rfl, hab, HV⟩ := (HT.out.below hb HT.out.low).pumps.has.Pump hkl
                have HF : Hid (¬ goodU (vs.getD k noPump) → R = false) := Lib.hid (fun h => HN.out (fun g => h (g k hlt)))
                have HA : Hid (goodU (vs.getD k noPump) → ∀ j, j < k + 1 → goodU (vs.getD j noPump)) := Lib.hid (fun h j hj => by
                  rcases Nat.lt_succ_iff_lt_or_eq.1 hj with h1 | h1
                  · exact hall.out j h1
                  · exact h1 ▸ h)
                obtain ⟨V, hV⟩ : ∃ V, vs.getD k noPump = V := ⟨_, rfl⟩
                rw [hV] at HV HF HA
                clear hV
                obtain ⟨d, l, x⟩ := V
                obtain ⟨e0, e1, e2⟩ := HV
                dsimp only at e0 e1 e2
                have HB := Lib.hid hb
                have HX := Lib.hid hx
                have hk0 : (0 : Int) ≤ (k : Int) := by omega
                have hk1 : (k : Int) < (m : Int) := by omega
                have D0 := Lib.hid (CP.out d l x)
                obtain ⟨G, hG⟩ : ∃ G, decide (goodU ⟨d, l, x⟩) = G := ⟨_, rfl⟩
                rw [hG] at D0
                have HG := Lib.hid hG
                clear hb hall hG hx CP CA HY2 HN1 X1 HB2
                go_wp2_with fail
                refine (D0.out _).mono ?_
                rintro e w6 ⟨rfl, hb6⟩
                have HB6 := Lib.hid ((HB.out.alloc HB.out.size _).trans (hb6.mono (HB.out.alloc HB.out.size _).size))
                have HX6 := Lib.hid ((HX.out.all (below1 _ _)).all hb6)
                clear hb6 D0 HX HB
                cases G with
                | true =>
                  have HR := Lib.hid (HA.out (of_decide_eq_true HG.out))
                  clear HF HA HG HN e0 e1 e2
                  go_wp2_with fail
                  go_roundw
                  case rel => exact ⟨k + 1, by omega, by go_num, HR, HX6.out, HB6.out⟩
                  case measure => simp [intOf]; omega
                | false =>
                  obtain rfl : R = false := HF.out (of_decide_eq_false HG.out)
                  clear HF HA HG HN e0 e1 e2
                  go_wp2_with fail
                  go_ret
                  exact ⟨rfl, HB6.out⟩
              · obtain rfl : k = m := by omega
                have HY3 := Lib.hid (fun g1 => HY2.out g1 (fun j hj => hall.out j hj))
                have CAr := Lib.hid (CA.out wr hb)
                have c3 := hx.c3
                have HB := Lib.hid hb
                obtain ⟨G, hG⟩ : ∃ G, decide (allIn (-50) 50 zs) = G := ⟨_, rfl⟩
                rw [hG] at CAr
                obtain rfl : G = R := by
                  cases G with
                  | true => exact (HY3.out (of_decide_eq_true hG)).symm
                  | false => exact (HN1.out (of_decide_eq_false hG)).symm
                clear HY3 HN1 HN CA CP hb hx hG hall HY2 X1 HB2
                go_wp2_with fail
                refine CAr.out.mono ?_
                rintro e w7 ⟨rfl, rfl⟩
                go_wp2_with fail
                go_ret
                exact ⟨rfl, HB.out⟩
end Go.Proofs.Ytdjoiodkmanacaa
