/- Chapter 7: whether a list is valid: the program and the model. -/
import Derived.Test.YtgnopkemcgbedabDgA
namespace Go.Proofs.Ytgnopkemcgbedab
open Go.RowKit Go.PlainAid Go.Sort
set_option linter.unusedVariables false
set_option linter.unusedSimpArgs false


set_option maxRecDepth 100000 in
set_option maxHeartbeats 2000000 in
theorem isCargoList_any {w : World} {B : Nat} {A : Option Addr} {n : Nat} {vs : List TCargo} (c : Nat) (h : IsCargos w B A n vs) (hm : n ≤ maxLen) (hnc : n ≤ c) :
    Calls Try.prog 67 #[.slice A n c] w fun e w' => e = .returned (.bool (gCs vs)) ∧ Below w.heap.size w w' := by
  unfold maxLen at hm
  have CI := Lib.hid (fun (d l b : Int) (W : World) => isCargo_any d l b W)
  have CS := Lib.hid (fun (k : Nat) (hk : k < n) (h6 : n ≤ 6) (d : Int) (xb : Nat) (W : World) (hb : Below w.heap.size w W) (hc : W.cell? ⟨xb, 0, none⟩ = some (.int .i64 d)) (R : Bool) hR => same_con A k c B vs d xb W (by rw [h.len]; omega) (by omega) (Nat.le_trans h.low hb.size) (h.below hb h.low).has hc R hR)
  have HI := Lib.hid h
  have HY := Lib.hid (fun h : goodCs vs => gCs_yes h)
  have HN := Lib.hid (fun h : ¬ goodCs vs => gCs_no h)
  generalize gCs vs = R at HY HN ⊢
  clear h
  by_cases h4 : (6 : Int) < (n : Int)
  · obtain rfl : R = false := HN.out (fun g => by have := g.1; rw [HI.out.len] at this; omega)
    clear HY HN HI CI
    go_enter Try.func67, Try.ntmps67
    go_wp2
    go_ret
    exact ⟨rfl, Below.refl _ _⟩
  go_enter Try.func67, Try.ntmps67
  go_wp2_with fail
  go_loopw [11] (fun i wr => ∃ k : Nat, k ≤ n ∧ i = .int .i64 k ∧ Hid (∀ j, j < k → okCs vs j) ∧ Below w.heap.size w wr) (fun i _ => n - (intOf i).toNat)
  case atStart => exact ⟨0, Nat.zero_le _, rfl, Lib.hid (by simp), Below.refl _ _⟩
  case round =>
    obtain ⟨k, hk, rfl, hall, hb⟩ := hrel
    by_cases hlt : k < n
    · skip
      have hkl : k < vs.length := by rw [HI.out.len]; exact hlt
      obtain ⟨a1, rfl, hab, HV⟩ := (HI.out.below hb HI.out.low).has.Cargo hkl
      have HOK : Hid (okCs vs k ↔ goodC (vs.getD k noCargo) ∧ ∀ j, j < k → (vs.getD j noCargo).x0 ≠ (vs.getD k noCargo).x0) := Lib.hid Iff.rfl
      have HF : Hid (¬ okCs vs k → R = false) := Lib.hid (fun h => HN.out (fun g => h (g.2 k hkl)))
      have HA : Hid (okCs vs k → ∀ j, j < k + 1 → okCs vs j) := Lib.hid (fun h j hj => by
        rcases Nat.lt_succ_iff_lt_or_eq.1 hj with h1 | h1
        · exact hall.out j h1
        · exact h1 ▸ h)
      obtain ⟨V, hV⟩ : ∃ V, vs.getD k noCargo = V := ⟨_, rfl⟩
      rw [hV] at HV HOK
      clear hV
      obtain ⟨d, l, b⟩ := V
      obtain ⟨e0, e1, e2⟩ := HV
      have HOK' : Hid (okCs vs k ↔ goodC ⟨d, l, b⟩ ∧ ∀ j, j < k → (vs.getD j noCargo).x0 ≠ d) := HOK
      dsimp only at e0 e1 e2
      have HB := Lib.hid hb
      have hk0 : (0 : Int) ≤ (k : Int) := by omega
      have hk1 : (k : Int) < (n : Int) := by omega
      clear hb hall HOK
      have hkc : (k : Int) ≤ (c : Int) := by omega
      have h6 : n ≤ 6 := by omega
      go_wp2_with fail
      obtain ⟨W5, hW5⟩ : ∃ W, World.alloc wr (.cells #[.int .i64 d, .int .i64 l, .int .i64 b] 54) = W := ⟨_, rfl⟩
      obtain ⟨xb, hxb⟩ : ∃ x, (wr : World).heap.size = x := ⟨_, rfl⟩
      have cxb0 : W5.cell? ⟨xb, 0, none⟩ = some (.int .i64 d) := by rw [← hW5, ← hxb, sNew]; rfl
      have cxb1 : W5.cell? ⟨xb, 1, none⟩ = some (.int .i64 l) := by rw [← hW5, ← hxb, sNew]; rfl
      have cxb2 : W5.cell? ⟨xb, 2, none⟩ = some (.int .i64 b) := by rw [← hW5, ← hxb, sNew]; rfl
      have HB5 := Lib.hid (show Below w.heap.size w W5 by rw [← hW5]; exact HB.out.alloc HB.out.size _)
      rw [hW5, hxb]
      clear hW5 hxb
      clear e0 e1 e2
      have D0 := Lib.hid (CI.out d l b)
      obtain ⟨S, hS⟩ : ∃ S : Bool, S = true ↔ ∃ j, j < k ∧ (vs.getD j noCargo).x0 = d := by
        by_cases g : ∃ j, j < k ∧ (vs.getD j noCargo).x0 = d
        · exact ⟨true, by simpa using g⟩
        · exact ⟨false, by simpa using g⟩
      have D1 := Lib.hid (fun W hb hc => CS.out k hlt h6 d xb W hb hc S hS)
      have HS := Lib.hid hS
      clear CI CS hS HI
      have hxl := World.block_lt_of_cell? W5 _ cxb0
      have HX := Lib.hid (fun W (hq : Below W5.heap.size W5 W) => show W.cell? ⟨xb, 0, none⟩ = some (.int .i64 d) from (hq.cell hxl).trans cxb0)
      have HX1 := Lib.hid (fun W (hq : Below W5.heap.size W5 W) => show W.cell? ⟨xb, 1, none⟩ = some (.int .i64 l) from (hq.cell (p := ⟨xb, 1, none⟩) hxl).trans cxb1)
      have HX2 := Lib.hid (fun W (hq : Below W5.heap.size W5 W) => show W.cell? ⟨xb, 2, none⟩ = some (.int .i64 b) from (hq.cell (p := ⟨xb, 2, none⟩) hxl).trans cxb2)
      clear hxl
      obtain ⟨G, hG⟩ : ∃ G, decide (goodC ⟨d, l, b⟩) = G := ⟨_, rfl⟩
      rw [hG] at D0
      have HG := Lib.hid hG
      clear hG
      go_wp2_with fail
      refine (D0.out _).mono ?_
      rintro e w6 ⟨rfl, hb6⟩
      have Y0 := HX.out _ hb6
      have Y1 := HX1.out _ hb6
      have Y2 := HX2.out _ hb6
      have HB6 := Lib.hid (HB5.out.trans (hb6.mono HB5.out.size))
      clear hb6 HX HX1 HX2 D0 cxb0 cxb1 cxb2
      cases G with
      | true =>
        have HGG : Hid (goodC ⟨d, l, b⟩) := Lib.hid (of_decide_eq_true HG.out)
        have D2 := Lib.hid (D1.out _ HB6.out Y0)
        clear HG D1
        cases S with
        | false =>
          have HR := Lib.hid (HA.out (HOK'.out.2 ⟨HGG.out, fun j hj e => by have := HS.out.2 ⟨j, hj, e⟩; cases this⟩))
          clear HA HF HS HGG HY HN HOK'
          go_wp2_with fail
          refine D2.out.mono ?_
          rintro e w7 ⟨rfl, hb7⟩
          have HB7 := Lib.hid (HB6.out.trans (hb7.mono HB6.out.size))
          clear hb7 HB6 Y0 Y1 Y2 D2
          go_wp2_with fail
          go_roundw
          case rel => exact ⟨k + 1, by omega, by go_num, HR, HB7.out⟩
          case measure => simp [intOf]; omega
        | true =>
          obtain rfl : R = false := HF.out (fun h => by obtain ⟨j, hj, e⟩ := HS.out.1 rfl; exact (HOK'.out.1 h).2 j hj e)
          clear HA HF HS HGG HY HN HOK'
          go_wp2_with fail
          refine D2.out.mono ?_
          rintro e w7 ⟨rfl, hb7⟩
          have HB7 := Lib.hid (HB6.out.trans (hb7.mono HB6.out.size))
          clear hb7 HB6 Y0 Y1 Y2 D2
          go_wp2_with fail
          go_ret
          exact ⟨rfl, HB7.out⟩
      | false =>
        obtain rfl : R = false := HF.out (fun h => of_decide_eq_false HG.out (HOK'.out.1 h).1)
        clear D1 HA HF HS HY HN HOK' HG
        go_wp2_with fail
        go_ret
        exact ⟨rfl, HB6.out⟩
    · obtain rfl : k = n := by omega
      obtain rfl : R = true := HY.out ⟨by rw [HI.out.len]; omega, fun j hj => hall.out j (by rw [HI.out.len] at hj; exact hj)⟩
      clear HY HN HI CI hall CS
      go_wp2
      go_ret
      exact ⟨rfl, hb⟩

set_option maxRecDepth 100000 in
set_option maxHeartbeats 2000000 in
theorem l7Good_any {w : World} {B : Nat} {A : Option Addr} {n : Nat} {vs : List TCargo} (c : Nat) (h : IsCargos w B A n vs) (hm : n ≤ maxLen) :
    Calls Try.prog 74 #[.slice A n c] w fun e w' => e = .returned (.bool (gCs vs)) ∧ Below w.heap.size w w' := by
  unfold maxLen at hm
  have CI := Lib.hid (fun (x a b : Int) (W : World) => l1In_any x a b W)
  have HI := Lib.hid h
  have HY := Lib.hid (fun h : goodCs vs => gCs_yes h)
  have HN := Lib.hid (fun h : ¬ goodCs vs => gCs_no h)
  generalize gCs vs = R at HY HN ⊢
  clear h
  go_enter Try.func74, Try.ntmps74
  go_wp2_with fail
  go_loopw [3] (fun i wr => ∃ k : Nat, k ≤ n ∧ k ≤ 7 ∧ i = .int .i64 k ∧ Hid (∀ j, j < k → okCs vs j) ∧ Below w.heap.size w wr) (fun i _ => n - (intOf i).toNat)
  case atStart => exact ⟨0, Nat.zero_le _, by omega, rfl, Lib.hid (by simp), Below.refl _ _⟩
  case round =>
    obtain ⟨k, hk, hk7, rfl, hall, hb⟩ := hrel
    by_cases hlt : k < n
    · by_cases hk6 : (k : Int) ≤ 6
      · skip
        have hkl : k < vs.length := by rw [HI.out.len]; exact hlt
        obtain ⟨a1, rfl, hab, HV⟩ := (HI.out.below hb HI.out.low).has.Cargo hkl
        have HOK : Hid (okCs vs k ↔ goodC (vs.getD k noCargo) ∧ ∀ j, j < k → (vs.getD j noCargo).x0 ≠ (vs.getD k noCargo).x0) := Lib.hid Iff.rfl
        have HF : Hid (¬ okCs vs k → R = false) := Lib.hid (fun h => HN.out (fun g => h (g.2 k hkl)))
        have HA : Hid (okCs vs k → ∀ j, j < k + 1 → okCs vs j) := Lib.hid (fun h j hj => by
          rcases Nat.lt_succ_iff_lt_or_eq.1 hj with h1 | h1
          · exact hall.out j h1
          · exact h1 ▸ h)
        obtain ⟨V, hV⟩ : ∃ V, vs.getD k noCargo = V := ⟨_, rfl⟩
        rw [hV] at HV HOK
        clear hV
        obtain ⟨d, l, b⟩ := V
        obtain ⟨e0, e1, e2⟩ := HV
        have HOK' : Hid (okCs vs k ↔ goodC ⟨d, l, b⟩ ∧ ∀ j, j < k → (vs.getD j noCargo).x0 ≠ d) := HOK
        dsimp only at e0 e1 e2
        have HB := Lib.hid hb
        have hk0 : (0 : Int) ≤ (k : Int) := by omega
        have hk1 : (k : Int) < (n : Int) := by omega
        clear hb hall HOK
        go_wp2_with fail
        obtain ⟨W5, hW5⟩ : ∃ W, World.alloc wr (.cells #[.int .i64 d, .int .i64 l, .int .i64 b] 54) = W := ⟨_, rfl⟩
        obtain ⟨xb, hxb⟩ : ∃ x, (wr : World).heap.size = x := ⟨_, rfl⟩
        have cxb0 : W5.cell? ⟨xb, 0, none⟩ = some (.int .i64 d) := by rw [← hW5, ← hxb, sNew]; rfl
        have cxb1 : W5.cell? ⟨xb, 1, none⟩ = some (.int .i64 l) := by rw [← hW5, ← hxb, sNew]; rfl
        have cxb2 : W5.cell? ⟨xb, 2, none⟩ = some (.int .i64 b) := by rw [← hW5, ← hxb, sNew]; rfl
        have HB5 := Lib.hid (show Below w.heap.size w W5 by rw [← hW5]; exact HB.out.alloc HB.out.size _)
        rw [hW5, hxb]
        clear hW5 hxb
        clear e0 e1 e2
        have D0 := Lib.hid (CI.out d 1 99)
        have D1 := Lib.hid (CI.out l 1 8)
        have D2 := Lib.hid (CI.out b 0 3)
        clear CI
        by_cases g0 : 1 ≤ d ∧ d ≤ 99
        · by_cases g1 : 1 ≤ l ∧ l ≤ 8
          · by_cases g2 : 0 ≤ b ∧ b ≤ 3
            · have HG : Hid (goodC ⟨d, l, b⟩) := Lib.hid ⟨g0, g1, g2⟩
              rw [decide_eq_true g0] at D0
              rw [decide_eq_true g1] at D1
              rw [decide_eq_true g2] at D2
              clear g0 g1 g2
              go_wp2_with fail
              refine (D0.out _).mono ?_
              rintro e w6 ⟨rfl, rfl⟩
              go_wp2_with fail
              refine (D1.out _).mono ?_
              rintro e w6 ⟨rfl, rfl⟩
              go_wp2_with fail
              refine (D2.out _).mono ?_
              rintro e w6 ⟨rfl, rfl⟩
              have HX := Lib.hid (fun W (hq : Below W5.heap.size W5 W) => (hq.cell (World.block_lt_of_cell? W5 _ cxb0)).trans cxb0)
              have HB2 := HB5
              clear HB5 D0 D1 D2
              go_wp2_with fail
              clear cxb0 cxb1 cxb2
              go_loopw [5] (fun j wr => ∃ q : Nat, q ≤ k ∧ j = .int .i64 q ∧ Hid (∀ j, j < q → (vs.getD j noCargo).x0 ≠ d) ∧ Below W5.heap.size W5 wr) (fun j _ => k - (intOf j).toNat)
              case atStart => exact ⟨0, Nat.zero_le _, rfl, Lib.hid (by simp), Below.refl _ _⟩
              case round =>
                obtain ⟨q, hq, rfl, hdif, hb⟩ := hrel
                by_cases hqk : q < k
                · have hql : q < vs.length := by rw [HI.out.len]; omega
                  obtain ⟨a2, ea2, -, HV2⟩ := (HI.out.below (HB2.out.trans (hb.mono HB2.out.size)) HI.out.low).has.Cargo hql
                  injection ea2 with ea2
                  subst ea2
                  have HD : Hid ((vs.getD q noCargo).x0 ≠ d → ∀ j, j < q + 1 → (vs.getD j noCargo).x0 ≠ d) := Lib.hid (fun h j hj => by
                    rcases Nat.lt_succ_iff_lt_or_eq.1 hj with h1 | h1
                    · exact hdif.out j h1
                    · exact h1 ▸ h)
                  have HE : Hid ((vs.getD q noCargo).x0 = d → R = false) := Lib.hid (fun e => HF.out (fun h => (HOK'.out.1 h).2 q hqk e))
                  have e0 := HV2.c0
                  clear HV2
                  generalize (vs.getD q noCargo).x0 = z at e0 HD HE
                  have E0 := fun (d : Nat) (os : Array Obj) => cell_regrown e0 d os
                  have F0 := fun (dd : Nat) (os : Array Obj) => cell_regrown (HX.out _ hb) dd os
                  have HBW := Lib.hid hb
                  have hq0 : (0 : Int) ≤ (q : Int) := by omega
                  have hq1 : (q : Int) < (k : Int) := by omega
                  have hq2 : (q : Int) < (n : Int) := by omega
                  clear hb hdif e0
                  go_wp2_with fail
                  refine wp_region_quiet_below (by kernel_rfl) (by kernel_rfl) ?_
                  repeat (go_big_quiet_step (first | fail))
                  refine wpQuiet_nil ?_
                  intro _ hw'
                  obtain ⟨⟨dq, osq⟩, hw''⟩ := hw'
                  subst hw''
                  have HBX := Lib.hid (HBW.out.trans ((below_regrown wr dq osq).mono HBW.out.size))
                  clear E0 F0
                  by_cases hz : z = d
                  · obtain rfl : R = false := HE.out hz
                    have hzb : (z == d) = true := by simp [hz]
                    clear HE HD hz HA HF HOK' HY HN
                    go_wp2_with fail
                    go_ret
                    exact ⟨rfl, HB2.out.trans (HBX.out.mono HB2.out.size)⟩
                  · have hzb : (z == d) = false := by simp [hz]
                    have HT := Lib.hid (HD.out hz)
                    clear HE HD hz HA HF HOK' HY HN
                    go_wp2_with fail
                    go_roundw
                    case rel => exact ⟨q + 1, by omega, by go_num, HT, HBX.out⟩
                    case measure => simp [intOf]; omega
                · obtain rfl : q = k := by omega
                  have HR := Lib.hid (HA.out (HOK'.out.2 ⟨HG.out, hdif.out⟩))
                  have HB3 := Lib.hid (HB2.out.trans (hb.mono HB2.out.size))
                  clear HA HF HOK' HY HN hdif HG hb HX
                  go_wp2_with fail
                  go_roundw
                  case rel => exact ⟨q + 1, by omega, by omega, by go_num, HR, HB3.out⟩
                  case measure => simp [intOf]; omega
            · obtain rfl : R = false := HF.out (fun h => g2 (HOK'.out.1 h).1.2.2)
              rw [decide_eq_true g0] at D0
              rw [decide_eq_true g1] at D1
              rw [decide_eq_false g2] at D2
              clear g0 g1 g2
              clear HA HF HOK' HY HN HI
              go_wp2_with fail
              refine (D0.out _).mono ?_
              rintro e w6 ⟨rfl, rfl⟩
              go_wp2_with fail
              refine (D1.out _).mono ?_
              rintro e w6 ⟨rfl, rfl⟩
              go_wp2_with fail
              refine (D2.out _).mono ?_
              rintro e w6 ⟨rfl, rfl⟩
              go_wp2_with fail
              go_ret
              exact ⟨rfl, HB5.out⟩
          · obtain rfl : R = false := HF.out (fun h => g1 (HOK'.out.1 h).1.2.1)
            rw [decide_eq_true g0] at D0
            rw [decide_eq_false g1] at D1
            clear g0 g1
            clear HA HF HOK' HY HN HI
            go_wp2_with fail
            refine (D0.out _).mono ?_
            rintro e w6 ⟨rfl, rfl⟩
            go_wp2_with fail
            refine (D1.out _).mono ?_
            rintro e w6 ⟨rfl, rfl⟩
            go_wp2_with fail
            go_ret
            exact ⟨rfl, HB5.out⟩
        · obtain rfl : R = false := HF.out (fun h => g0 (HOK'.out.1 h).1.1)
          rw [decide_eq_false g0] at D0
          clear g0
          clear HA HF HOK' HY HN HI
          go_wp2_with fail
          refine (D0.out _).mono ?_
          rintro e w6 ⟨rfl, rfl⟩
          go_wp2_with fail
          go_ret
          exact ⟨rfl, HB5.out⟩
      · obtain rfl : R = false := HN.out (fun g => by have := g.1; rw [HI.out.len] at this; omega)
        have hk0 : (0 : Int) ≤ (k : Int) := by omega
        have hk1 : (k : Int) < (n : Int) := by omega
        have hn6 : ¬ ((n : Int) ≤ 6) := by omega
        clear HY HN HI CI hall
        go_wp2_with fail
        go_ret
        exact ⟨rfl, hb⟩
    · obtain rfl : k = n := by omega
      by_cases h4 : (k : Int) ≤ 6
      · obtain rfl : R = true := HY.out ⟨by rw [HI.out.len]; omega, fun j hj => hall.out j (by rw [HI.out.len] at hj; exact hj)⟩
        clear HY HN HI CI hall
        go_wp2_with fail
        go_ret
        exact ⟨ret_bool (by simp), hb⟩
      · obtain rfl : R = false := HN.out (fun g => by have := g.1; rw [HI.out.len] at this; omega)
        clear HY HN HI CI hall
        go_wp2_with fail
        go_ret
        exact ⟨ret_bool (by simp), hb⟩
end Go.Proofs.Ytgnopkemcgbedab
