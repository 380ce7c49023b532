/- Chapter 2: the locks between two places: the program's and the model's. -/
import Derived.Test.YtgnopkemcgbedabWayMin
import Derived.Test.YtgnopkemcgbedabWayRev
import Derived.Test.YtgnopkemcgbedabInts
namespace Go.Proofs.Ytgnopkemcgbedab
open Go.RowKit Go.PlainAid Go.Sort

/-- m numbers from a on. -/
def upL (a m : Nat) : List Int := (List.range m).map fun j => ((a + j : Nat) : Int)
theorem upL_len (a m : Nat) : (upL a m).length = m := by simp [upL]
theorem upL_take (a m k : Nat) (h : k < m) : (upL a m).take (k + 1) = (upL a m).take k ++ [((a + k : Nat) : Int)] := by
  rw [List.take_succ_eq_append_getElem (by rw [upL_len]; exact h)]
  simp [upL]
theorem dnL_take (b m k : Nat) (h : k < m) : (upL b m).reverse.take (k + 1) = (upL b m).reverse.take k ++ [((b + (m - 1 - k) : Nat) : Int)] := by
  have hl : k < (upL b m).reverse.length := by simp [upL]; exact h
  rw [List.take_succ_eq_append_getElem hl]
  congr 2
  rw [List.getElem_reverse]
  simp [upL]
/-- The locks from the reach a to the reach b. -/
def locksL (a b : Nat) : List Int := if a ≤ b then upL a (b - a) else (upL b (a - b)).reverse
theorem locksL_len (a b : Nat) : (locksL a b).length = if a ≤ b then b - a else a - b := by
  unfold locksL
  split <;> simp [upL]

set_option maxRecDepth 100000 in
set_option maxHeartbeats 2000000 in
theorem specLks_any {w : World} {B : Nat} {A A2 : Option Addr} {n n2 : Nat} {rs : List (Int × Int × Int)} {zs : List Int} (c c2 : Nat) (h : IsWay w B A n A2 n2 rs zs) (hm : n ≤ maxLen) (i k : Int) (L : List Int) (y : Bool)
    (hyes : ∀ a b, ((goodW rs zs ∧ 0 ≤ i ∧ i ≤ tot rs n) ∧ (0 ≤ k ∧ k ≤ tot rs n)) → PlaceAt rs i a → PlaceAt rs k b → L = locksL a b ∧ y = true)
    (hno : ¬ ((goodW rs zs ∧ 0 ≤ i ∧ i ≤ tot rs n) ∧ (0 ≤ k ∧ k ≤ tot rs n)) → L = [] ∧ y = false) :
    Calls Try.prog 10 #[.agg #[.slice A n c, .slice A2 n2 c2], .int .i64 i, .int .i64 k] w (GivesInts w L y) := by
  obtain ⟨i0, hi, hz0, hz1, hz2⟩ := info_parts Try.infoInt'
  have HW := Lib.hid h
  have CR := Lib.hid (fun (W : World) (hW : Below w.heap.size w W) i b => l2Place_any c c2 (h.below hW h.low) hm i b)
  have hba := fun o o' => ((Below.refl w.heap.size w).alloc (Nat.le_refl _) o).alloc (by simp) o'
  clear h
  by_cases hg1 : goodW rs zs ∧ 0 ≤ i ∧ i ≤ tot rs n
  · have R1 := Lib.hid (fun W hW => CR.out W hW i true (fun _ => rfl) (fun g => absurd hg1 g))
    by_cases hg2 : 0 ≤ k ∧ k ≤ tot rs n
    · have R2 := Lib.hid (fun W hW => CR.out W hW k true (fun _ => rfl) (fun g => absurd ⟨hg1.1, hg2⟩ g))
      obtain ⟨a, ha⟩ := placeAt_ex HW.out.len hg1.1 hg1.2.2
      obtain ⟨b, hb⟩ := placeAt_ex HW.out.len hg1.1 hg2.2
      obtain ⟨hL, rfl⟩ := hyes a b ⟨hg1, hg2⟩ ha hb
      have HL := Lib.hid hL
      have hn6 : n ≤ 6 := by rw [← HW.out.len]; exact hg1.1.1.2
      have htot := (tot_bd rs (goodW_len hg1.1) n (by rw [HW.out.len]; omega)).2
      have CA := Lib.hid (fun W (hW : IsWay W B A n A2 n2 rs zs) => l2At_any c c2 hW (goodW_len hg1.1) (by omega) i hg1.2.1 (by omega) a ha)
      have CB := Lib.hid (fun W (hW : IsWay W B A n A2 n2 rs zs) => l2At_any c c2 hW (goodW_len hg1.1) (by omega) k hg2.1 (by omega) b hb)
      have ha6 : a < 6 := by have := ha.lt; have := HW.out.len; omega
      have hb6 : b < 6 := by have := hb.lt; have := HW.out.len; omega
      clear CR hyes hno hg1 hg2 hm hL ha hb htot
      go_enter Try.func10, Try.ntmps10
      go_wp2_with fail
      refine (R1.out _ (hba _ _)).mono ?_
      rintro e w1 ⟨rfl, hb⟩
      simp only [World.size_alloc] at hb
      have c0 : w1.cell? ⟨w.heap.size, 0, none⟩ = some (.slice A n c) := (hb.cell (by simp; omega)).trans ((World.cell?_alloc_lt _ _ _ (by simp)).trans (by rw [cellNew]; rfl))
      have c1 : w1.cell? ⟨w.heap.size, 1, none⟩ = some (.slice A2 n2 c2) := (hb.cell (by simp; omega)).trans ((World.cell?_alloc_lt _ _ _ (by simp)).trans (by rw [cellNew]; rfl))
      have B1 := Lib.hid ((hba (.cells #[.slice A n c, .slice A2 n2 c2] 27) (.cells #[] 3)).trans (hb.mono (by omega)))
      have z1 : w.heap.size < w1.heap.size := by have := hb.size; simp at this; omega
      have P0 := Part.nil ((Below.refl w.heap.size w).alloc (Nat.le_refl _) (.cells #[.slice A n c, .slice A2 n2 c2] 27)) L
      have P1 := Lib.hid (P0.below (by simpa using hb))
      rw [World.size_alloc] at P1
      clear hb R1 P0 hba
      go_wp2_with fail
      refine (R2.out _ B1.out).mono ?_
      rintro e w2 ⟨rfl, hb⟩
      replace c0 := (hb.cell (p := ⟨w.heap.size, 0, none⟩) z1).trans c0
      replace c1 := (hb.cell (p := ⟨w.heap.size, 1, none⟩) z1).trans c1
      have B2 := Lib.hid (B1.out.trans (hb.mono B1.out.size))
      have I2 := Lib.hid (HW.out.below B2.out HW.out.low)
      have P2 := Lib.hid (P1.out.below hb)
      clear hb R2 HW B1 P1
      have E0 := fun (d : Nat) (os : Array Obj) => cell_regrown c0 d os
      have E1 := fun (d : Nat) (os : Array Obj) => cell_regrown c1 d os
      have cA := fun (dr : Nat) (os : Array Obj) => Calls.regrown_of (w := w2) (d := dr) (os := os) (CA.out _ (I2.out.below (below_regrown w2 dr os) I2.out.low))
      have cB := fun (dr : Nat) (os : Array Obj) => Calls.regrown_of (w := w2) (d := dr) (os := os) (CB.out _ (I2.out.below (below_regrown w2 dr os) I2.out.low))
      have P3 := Lib.hid (fun d os => P2.out.below (below_regrown w2 d os))
      clear CA CB c0 c1
      go_wp2_with fail
      refine wp_region_quiet_below (by kernel_rfl) (by kernel_rfl) ?_
      quiet_step (fail)
      quiet_step (fail)
      quiet_step (exact cA _ _)
      quiet_step (fail)
      quiet_step (fail)
      quiet_step (exact cB _ _)
      quiet_step (fail)
      quiet_step (fail)
      refine wpQuiet_nil ?_
      intro _ hw'
      obtain ⟨⟨dq, osq⟩, hw''⟩ := hw'
      subst hw''
      have P4 := Lib.hid (P3.out dq osq)
      obtain ⟨w3, hw3⟩ : ∃ w3, grow (redrawn w2 dq) osq = w3 := ⟨_, rfl⟩
      rw [hw3] at P4
      simp only [hw3]
      clear hw3 cA cB E0 E1 P3 P2 I2 B2
      go_wp2_with fail
      by_cases hab : a ≤ b
      · have hLl : L.length = b - a := by rw [HL.out, locksL_len, if_pos hab]
        have HT : Hid (∀ q, q < b - a → L.take (q + 1) = L.take q ++ [((a + q : Nat) : Int)]) := Lib.hid (fun q hq => by rw [HL.out]; simp only [locksL, if_pos hab]; exact upL_take a (b - a) q hq)
        have HLl := Lib.hid hLl
        clear hLl HL
        go_loopw [8, 11] (fun o j wr => ∃ q : Nat, q ≤ b - a ∧ j = .int .i64 ((a + q : Nat) : Int) ∧ Part w wr L q o) (fun _ j _ => b - (intOf j).toNat)
        case atStart => exact ⟨0, by omega, rfl, P4.out⟩
        case round =>
          obtain ⟨q, hq, rfl, hP⟩ := hrel
          obtain ⟨m, hm⟩ : ∃ m, a + q = m := ⟨_, rfl⟩
          rw [hm]
          have hm0 : (0 : Int) ≤ (m : Int) := by omega
          by_cases hlt : m < b
          · have HS := Lib.hid (HT.out q (by omega))
            rw [hm] at HS
            obtain ⟨g0, cp, rfl, hg0, hown, hb⟩ := hP
            have hlt1 : (m : Int) < (b : Int) := by omega
            clear P4 HT
            go_wp2_with (at_builtin; refine wpList_append_own _ rfl (.tmp 37) (.tmp 39) 25 rfl w.heap.size 3 i0 (.int .i64 0) 1 8 Try.underlying25 hi hz0 hz1 hz2 rfl (by decide) (.slice (some ⟨g0, 0, none⟩) q cp) q _ rfl (hown.alloc _) ⟨wr.heap.size, 0, none⟩ 1 1 [.int .i64 (m : Int)] rfl rfl (cell_one_new _ _ _) (by simp [Value.oneCell']) (by unfold maxLen; omega) (by omega) (by have := hb.size; simp; omega) ?_; intro v1 w1 hown1 hgrow1 hnil1; obtain ⟨g1, c1, rfl, hg1⟩ := own_some hown1 (fun e => nomatch (hnil1.1 e).1); have hb1 := (hb.alloc hb.size (.cells #[.int .i64 (m : Int)] 3)).grown hgrow1 (by have := hb.size; simp; omega) (fun q hq => by cases hq; assumption); clear hown hnil1 hgrow1 hb)
            go_roundw
            case rel => exact ⟨q + 1, by omega, by rw [← Nat.add_assoc, hm]; go_num, g1, c1, rfl, hg1, by rw [HS.out, List.map_append]; exact hown1, hb1⟩
            case measure => simp [intOf]; omega
          · obtain rfl : m = b := by omega
            have hlt1 : ¬ (m : Int) < (m : Int) := by omega
            have hP' := Lib.hid hP
            clear P4 HT hP
            go_wp2_with fail
            go_loopw [8, 12] (fun o j w' => Part w w' L q o ∧ j = .int .i64 ((a : Int) - 1)) (fun _ _ _ => 0)
            case atStart => exact ⟨hP'.out, rfl⟩
            case round =>
              obtain ⟨hP, rfl⟩ := hrel
              have hlt2 : ¬ (m : Int) ≤ (a : Int) - 1 := by omega
              have HPg := Lib.hid (hP.gives (by rw [HLl.out]; omega) true)
              clear hP hP'
              go_wp2_with fail
              refine bodyPost_ret (results_tmp2 rfl _ _ _) rfl ?_
              exact HPg.out
      · have hLl : L.length = a - b := by rw [HL.out, locksL_len, if_neg hab]
        have HT : Hid (∀ q, q < a - b → L.take (q + 1) = L.take q ++ [((b + (a - b - 1 - q) : Nat) : Int)]) := Lib.hid (fun q hq => by rw [HL.out]; simp only [locksL, if_neg hab]; exact dnL_take b (a - b) q hq)
        have HLl := Lib.hid hLl
        clear hLl HL
        go_loopw [8, 11] (fun o j wr => Part w wr L 0 o ∧ j = .int .i64 (a : Int)) (fun _ _ _ => 0)
        case atStart => exact ⟨P4.out, rfl⟩
        case round =>
          obtain ⟨hP, rfl⟩ := hrel
          have hlt2 : ¬ (a : Int) < (b : Int) := by omega
          have hP' := Lib.hid hP
          clear hP P4
          go_wp2_with fail
          go_loopw [8, 12] (fun o j wr => ∃ q : Nat, q ≤ a - b ∧ j = .int .i64 ((a : Int) - 1 - q) ∧ Part w wr L q o) (fun _ j _ => (intOf j + 1 - b).toNat)
          case atStart => exact ⟨0, by omega, by simp, hP'.out⟩
          case round =>
            obtain ⟨q, hq, rfl, hP⟩ := hrel
            clear hP'
            by_cases hlt : q < a - b
            · obtain ⟨m, hm⟩ : ∃ m, b + (a - b - 1 - q) = m := ⟨_, rfl⟩
              have hmi : (a : Int) - 1 - q = (m : Int) := by omega
              have HS := Lib.hid (HT.out q hlt)
              rw [hm] at HS
              have HMI := Lib.hid hmi
              rw [hmi]
              have hm0 : (0 : Int) ≤ (m : Int) := by omega
              have hm1 : (b : Int) ≤ (m : Int) := by omega
              have hm2 : (m : Int) ≤ 6 := by omega
              obtain ⟨g0, cp, rfl, hg0, hown, hb⟩ := hP
              clear HT hmi
              go_wp2_with (at_builtin; refine wpList_append_own _ rfl (.tmp 48) (.tmp 50) 25 rfl w.heap.size 3 i0 (.int .i64 0) 1 8 Try.underlying25 hi hz0 hz1 hz2 rfl (by decide) (.slice (some ⟨g0, 0, none⟩) q cp) q _ rfl (hown.alloc _) ⟨wr.heap.size, 0, none⟩ 1 1 [.int .i64 (m : Int)] rfl rfl (cell_one_new _ _ _) (by simp [Value.oneCell']) (by unfold maxLen; omega) (by omega) (by have := hb.size; simp; omega) ?_; intro v1 w1 hown1 hgrow1 hnil1; obtain ⟨g1, c1, rfl, hg1⟩ := own_some hown1 (fun e => nomatch (hnil1.1 e).1); have hb1 := (hb.alloc hb.size (.cells #[.int .i64 (m : Int)] 3)).grown hgrow1 (by have := hb.size; simp; omega) (fun q hq => by cases hq; assumption); clear hown hnil1 hgrow1 hb)
              go_roundw
              case rel => exact ⟨q + 1, by omega, by have := HMI.out; congr 1; push_cast; omega, g1, c1, rfl, hg1, by rw [HS.out, List.map_append]; exact hown1, hb1⟩
              case measure => simp [intOf]; omega
            · obtain rfl : q = a - b := by omega
              have hlt3 : ¬ (b : Int) ≤ (a : Int) - 1 - ((a - b : Nat) : Int) := by omega
              have HPg := Lib.hid (hP.gives HLl.out.symm true)
              obtain ⟨z, hz⟩ : ∃ z, (a : Int) - 1 - ((a - b : Nat) : Int) = z := ⟨_, rfl⟩
              rw [hz] at hlt3 ⊢
              clear hP hz
              go_wp2_with fail
              refine bodyPost_ret (results_tmp2 rfl _ _ _) rfl ?_
              exact HPg.out
    · obtain ⟨rfl, rfl⟩ := hno (fun g => hg2 g.2)
      have R2 := Lib.hid (fun W hW => CR.out W hW k false (fun g => absurd g.2 hg2) (fun _ => rfl))
      clear CR hyes hno hg1 hg2 hm
      go_enter Try.func10, Try.ntmps10
      go_wp2_with fail
      refine (R1.out _ (hba _ _)).mono ?_
      rintro e w1 ⟨rfl, hb⟩
      simp only [World.size_alloc] at hb
      have c0 : w1.cell? ⟨w.heap.size, 0, none⟩ = some (.slice A n c) := (hb.cell (by simp; omega)).trans ((World.cell?_alloc_lt _ _ _ (by simp)).trans (by rw [cellNew]; rfl))
      have c1 : w1.cell? ⟨w.heap.size, 1, none⟩ = some (.slice A2 n2 c2) := (hb.cell (by simp; omega)).trans ((World.cell?_alloc_lt _ _ _ (by simp)).trans (by rw [cellNew]; rfl))
      have B1 := Lib.hid ((hba (.cells #[.slice A n c, .slice A2 n2 c2] 27) (.cells #[] 3)).trans (hb.mono (by omega)))
      have P0 := Part.nil ((Below.refl w.heap.size w).alloc (Nat.le_refl _) (.cells #[.slice A n c, .slice A2 n2 c2] 27)) []
      have P1 := Lib.hid (P0.below (by simpa using hb))
      rw [World.size_alloc] at P1
      clear hb R1 P0 hba
      go_wp2_with fail
      refine (R2.out _ B1.out).mono ?_
      rintro e w2 ⟨rfl, hb⟩
      have HPg := Lib.hid ((P1.out.below hb).gives rfl false)
      clear hb R2 HW B1 P1
      go_wp2_with fail
      refine bodyPost_ret (results_tmp2 rfl _ _ _) rfl ?_
      exact HPg.out
  · obtain ⟨rfl, rfl⟩ := hno (fun g => hg1 g.1)
    have R1 := Lib.hid (fun W hW => CR.out W hW i false (fun g => absurd g hg1) (fun _ => rfl))
    clear CR hyes hno hg1 hm
    go_enter Try.func10, Try.ntmps10
    go_wp2_with fail
    refine (R1.out _ (hba _ _)).mono ?_
    rintro e w1 ⟨rfl, hb⟩
    simp only [World.size_alloc] at hb
    have P0 := Part.nil ((Below.refl w.heap.size w).alloc (Nat.le_refl _) (.cells #[.slice A n c, .slice A2 n2 c2] 27)) []
    have P1 := P0.below (by simpa using hb)
    rw [World.size_alloc] at P1
    have HPg := Lib.hid (P1.gives rfl false)
    clear hb R1 P0 hba P1
    go_wp2_with fail
    refine bodyPost_ret (results_tmp2 rfl _ _ _) rfl ?_
    exact HPg.out

theorem ite_minN (a b : Nat) : (if b < a then (b : Int) else (a : Int)) = min (a : Int) (b : Int) := by split <;> omega
theorem ite_maxN (a b : Nat) : (if a < b then (b : Int) else (a : Int)) = max (a : Int) (b : Int) := by split <;> omega
attribute [local go_sem] ite_min ite_max ite_minN ite_maxN

set_option maxRecDepth 100000 in
set_option maxHeartbeats 2000000 in
theorem implLks_any {w : World} {B : Nat} {A A2 : Option Addr} {n n2 : Nat} {rs : List (Int × Int × Int)} {zs : List Int} (c c2 : Nat) (h : IsWay w B A n A2 n2 rs zs) (hm : n ≤ maxLen) (i k : Int) (L : List Int) (y : Bool)
    (hyes : ∀ a b, ((goodW rs zs ∧ 0 ≤ i ∧ i ≤ tot rs n) ∧ (0 ≤ k ∧ k ≤ tot rs n)) → PlaceAt rs i a → PlaceAt rs k b → L = locksL a b ∧ y = true)
    (hno : ¬ ((goodW rs zs ∧ 0 ≤ i ∧ i ≤ tot rs n) ∧ (0 ≤ k ∧ k ≤ tot rs n)) → L = [] ∧ y = false) :
    Calls Try.prog 9 #[.agg #[.slice A n c, .slice A2 n2 c2], .int .i64 i, .int .i64 k] w (GivesInts w L y) := by
  obtain ⟨i0, hi, hz0, hz1, hz2⟩ := info_parts Try.infoInt'
  have HW := Lib.hid h
  have hba := fun o => (Below.refl w.heap.size w).alloc (Nat.le_refl _) o
  -- the reach of each place, or none
  have two : ∀ p : Int, ∃ (x : Int) (b : Bool), (∀ W, Below w.heap.size w W → Calls Try.prog 13 #[.agg #[.slice A n c, .slice A2 n2 c2], .int .i64 p] W fun e w' => e = .returned (.tuple #[.int .i64 x, .bool b]) ∧ Below W.heap.size W w') ∧
      ((b = true ∧ ∃ a, PlaceAt rs p a ∧ x = (a : Int) ∧ goodW rs zs ∧ 0 ≤ p ∧ p ≤ tot rs n) ∨ (b = false ∧ ¬ (goodW rs zs ∧ 0 ≤ p ∧ p ≤ tot rs n))) := fun p => by
    by_cases hg : goodW rs zs ∧ 0 ≤ p ∧ p ≤ tot rs n
    · obtain ⟨a, ha⟩ := placeAt_ex h.len hg.1 hg.2.2
      exact ⟨a, true, fun W hW => implReach_any c c2 (h.below hW h.low) hm _ _ _ (fun j _ _ _ hj => ⟨by rw [placeAt_unique ha hj], rfl⟩) (fun g => absurd hg g), .inl ⟨rfl, a, ha, rfl, hg⟩⟩
    · exact ⟨0, false, fun W hW => implReach_any c c2 (h.below hW h.low) hm _ _ _ (fun j h1 h2 h3 _ => absurd ⟨h1, h2, h3⟩ hg) (fun _ => ⟨rfl, rfl⟩), .inr ⟨rfl, hg⟩⟩
  obtain ⟨x1, b1, hC1, h1⟩ := two i
  obtain ⟨x2, b2, hC2, h2⟩ := two k
  have C1 := Lib.hid hC1
  have C2 := Lib.hid hC2
  have HLn := Lib.hid h.len
  clear hC1 hC2 two h HW
  by_cases hb : b1 = true ∧ b2 = true
  · obtain ⟨rfl, rfl⟩ := hb
    rcases h1 with ⟨-, a, ha, rfl, hg1⟩ | ⟨h, -⟩
    · rcases h2 with ⟨-, b, hb, rfl, hg2⟩ | ⟨h, -⟩
      · obtain ⟨hL, rfl⟩ := hyes a b ⟨hg1, hg2.2⟩ ha hb
        have HL := Lib.hid hL
        have hn6 : n ≤ 6 := by rw [← HLn.out]; exact hg1.1.1.2
        have ha6 : a < 6 := by have := ha.lt; have := HLn.out; omega
        have hb6 : b < 6 := by have := hb.lt; have := HLn.out; omega
        clear hyes hno hg1 hg2 hm hL ha hb
        go_enter Try.func9, Try.ntmps9
        go_wp2_with fail
        refine (C1.out _ (hba _)).mono ?_
        rintro e w1 ⟨rfl, hb⟩
        have c0 : w1.cell? ⟨w.heap.size, 0, none⟩ = some (.slice A n c) := (hb.cell (by simp)).trans (by rw [cellNew]; rfl)
        have c1 : w1.cell? ⟨w.heap.size, 1, none⟩ = some (.slice A2 n2 c2) := (hb.cell (by simp)).trans (by rw [cellNew]; rfl)
        have B1 := Lib.hid ((hba _).trans (hb.mono (by simp)))
        clear hb C1 hba
        go_wp2_with fail
        refine (C2.out _ B1.out).mono ?_
        rintro e w2 ⟨rfl, hb⟩
        have B2 := Lib.hid (B1.out.trans (hb.mono B1.out.size))
        clear hb C2 B1 c0 c1
        obtain ⟨lo, hlo⟩ : ∃ lo : Nat, min (a : Int) (b : Int) = (lo : Int) := ⟨min a b, by omega⟩
        obtain ⟨hi', hhi⟩ : ∃ hi' : Nat, max (a : Int) (b : Int) = (hi' : Int) := ⟨max a b, by omega⟩
        have HLO := Lib.hid hlo
        have HHI := Lib.hid hhi
        have hlh : lo ≤ hi' := by omega
        have hhi6 : hi' ≤ 6 := by omega
        have hfull : Hid ((upL lo (hi' - lo)).length = hi' - lo) := Lib.hid (upL_len _ _)
        have HT : Hid (∀ q, q < hi' - lo → (upL lo (hi' - lo)).take (q + 1) = (upL lo (hi' - lo)).take q ++ [((lo + q : Nat) : Int)]) := Lib.hid (fun q hq => upL_take lo (hi' - lo) q hq)
        have HE1 : Hid (a ≤ b → L = upL lo (hi' - lo)) := Lib.hid (fun hab => by
          obtain rfl : lo = a := by omega
          obtain rfl : hi' = b := by omega
          rw [HL.out]; simp only [locksL, if_pos hab])
        have HE2 : Hid (¬ a ≤ b → L = (upL lo (hi' - lo)).reverse) := Lib.hid (fun hab => by
          obtain rfl : lo = b := by omega
          obtain rfl : hi' = a := by omega
          rw [HL.out]; simp only [locksL, if_neg hab])
        generalize upL lo (hi' - lo) = U at hfull HT HE1 HE2
        have P2 := Lib.hid (Part.nil B2.out U)
        clear hlo hhi HL
        go_wp2_with fail
        rw [HLO.out]
        go_loopw [12, 13] (fun o j wr => ∃ q : Nat, q ≤ hi' - lo ∧ j = .int .i64 ((lo + q : Nat) : Int) ∧ Part w wr U q o) (fun _ j _ => hi' - (intOf j).toNat)
        case atStart => exact ⟨0, by omega, rfl, P2.out⟩
        case round =>
          obtain ⟨q, hq, rfl, hP⟩ := hrel
          obtain ⟨m, hm⟩ : ∃ m, lo + q = m := ⟨_, rfl⟩
          rw [hm]
          have hm0 : (0 : Int) ≤ (m : Int) := by omega
          by_cases hlt : m < hi'
          · have HS := Lib.hid (HT.out q (by omega))
            rw [hm] at HS
            obtain ⟨g0, cp, rfl, hg0, hown, hb⟩ := hP
            have hlt1 : (m : Int) < max (a : Int) (b : Int) := by rw [HHI.out]; omega
            clear P2 HT
            go_wp2_with (at_builtin; refine wpList_append_own _ rfl (.tmp 44) (.tmp 46) 25 rfl w.heap.size 3 i0 (.int .i64 0) 1 8 Try.underlying25 hi hz0 hz1 hz2 rfl (by decide) (.slice (some ⟨g0, 0, none⟩) q cp) q _ rfl (hown.alloc _) ⟨wr.heap.size, 0, none⟩ 1 1 [.int .i64 (m : Int)] rfl rfl (cell_one_new _ _ _) (by simp [Value.oneCell']) (by unfold maxLen; omega) (by omega) (by have := hb.size; simp; omega) ?_; intro v1 w1 hown1 hgrow1 hnil1; obtain ⟨g1, c1, rfl, hg1⟩ := own_some hown1 (fun e => nomatch (hnil1.1 e).1); have hb1 := (hb.alloc hb.size (.cells #[.int .i64 (m : Int)] 3)).grown hgrow1 (by have := hb.size; simp; omega) (fun q hq => by cases hq; assumption); clear hown hnil1 hgrow1 hb)
            go_roundw
            case rel => exact ⟨q + 1, by omega, by rw [← Nat.add_assoc, hm]; go_num, g1, c1, rfl, hg1, by rw [HS.out, List.map_append]; exact hown1, hb1⟩
            case measure => simp [intOf]; omega
          · obtain rfl : m = hi' := by omega
            have hlt1 : ¬ (m : Int) < max (a : Int) (b : Int) := by rw [HHI.out]; omega
            obtain rfl : q = m - lo := by omega
            by_cases hab : a ≤ b
            · have hlt2 : ¬ (b : Int) < (a : Int) := by omega
              obtain rfl := HE1.out hab
              have HPg := Lib.hid (hP.gives hfull.out.symm true)
              clear P2 HT hP HE1 HE2
              go_wp2_with fail
              refine bodyPost_ret (results_tmp2 rfl _ _ _) rfl ?_
              exact HPg.out
            · have hlt2 : (b : Int) < (a : Int) := by omega
              obtain ⟨g0, cp, rfl, hg0, hown, hb⟩ := hP
              rw [List.take_of_length_le (by rw [hfull.out]; exact Nat.le_refl _)] at hown
              have HR := Lib.hid (rev_any g0 (m - lo) cp w.heap.size U wr hfull.out (by omega) hown)
              have HLr := Lib.hid (HE2.out hab)
              clear P2 HT HE1 HE2 hown
              go_wp2_with fail
              refine HR.out.mono ?_
              rintro e w4 ⟨rfl, hown, hgr⟩
              go_wp2_with fail
              refine bodyPost_ret (results_tmp2 rfl _ _ _) rfl ?_
              obtain rfl := HLr.out
              have hl : U.reverse.length = m - lo := by rw [List.length_reverse]; exact hfull.out
              refine ⟨g0, cp, by rw [hl]; rfl, hg0, by rw [hl]; exact hown, hb.grown hgr hb.size (fun q hq => by cases hq; exact hg0)⟩
      · exact absurd h (by simp)
    · exact absurd h (by simp)
  · obtain ⟨rfl, rfl⟩ := hno (fun g => hb (by
      rcases h1 with ⟨h, -⟩ | ⟨-, h⟩
      · rcases h2 with ⟨h', -⟩ | ⟨-, h'⟩
        · exact ⟨h, h'⟩
        · exact absurd ⟨g.1.1, g.2⟩ h'
      · exact absurd g.1 h))
    clear hyes hno h1 h2 hm
    go_enter Try.func9, Try.ntmps9
    go_wp2_with fail
    refine (C1.out _ (hba _)).mono ?_
    rintro e w1 ⟨rfl, hb1⟩
    have c0 : w1.cell? ⟨w.heap.size, 0, none⟩ = some (.slice A n c) := (hb1.cell (by simp)).trans (by rw [cellNew]; rfl)
    have c1 : w1.cell? ⟨w.heap.size, 1, none⟩ = some (.slice A2 n2 c2) := (hb1.cell (by simp)).trans (by rw [cellNew]; rfl)
    have B1 := Lib.hid ((hba _).trans (hb1.mono (by simp)))
    clear hb1 C1 hba
    go_wp2_with fail
    refine (C2.out _ B1.out).mono ?_
    rintro e w2 ⟨rfl, hb2⟩
    have HPg := Lib.hid ((Part.nil (B1.out.trans (hb2.mono B1.out.size)) []).gives rfl false)
    clear hb2 C2 B1 c0 c1
    cases b1 with
    | false =>
      go_wp2_with fail
      refine bodyPost_ret (results_tmp2 rfl _ _ _) rfl ?_
      exact HPg.out
    | true =>
      cases b2 with
      | false =>
        go_wp2_with fail
        refine bodyPost_ret (results_tmp2 rfl _ _ _) rfl ?_
        exact HPg.out
      | true => exact absurd ⟨rfl, rfl⟩ hb

theorem two_LocksBetween (n n2 : Nat) (rs : List (Int × Int × Int)) (zs : List Int) (i k : Int) (hl : rs.length = n) (hm : n ≤ maxLen) : ∃ (L : List Int) (y : Bool), L.length ≤ 6 ∧
    (∀ (w : World) (B : Nat) (A A2 : Option Addr) (c c2 : Nat), IsWay w B A n A2 n2 rs zs → Calls Try.prog 10 #[.agg #[.slice A n c, .slice A2 n2 c2], .int .i64 i, .int .i64 k] w (GivesInts w L y)) ∧
    (∀ (w : World) (B : Nat) (A A2 : Option Addr) (c c2 : Nat), IsWay w B A n A2 n2 rs zs → Calls Try.prog 9 #[.agg #[.slice A n c, .slice A2 n2 c2], .int .i64 i, .int .i64 k] w (GivesInts w L y)) := by
  by_cases hg : (goodW rs zs ∧ 0 ≤ i ∧ i ≤ tot rs n) ∧ (0 ≤ k ∧ k ≤ tot rs n)
  · obtain ⟨a, ha⟩ := placeAt_ex hl hg.1.1 hg.1.2.2
    obtain ⟨b, hb⟩ := placeAt_ex hl hg.1.1 hg.2.2
    have h6 := hg.1.1.1.2
    have hy : ∀ a' b', ((goodW rs zs ∧ 0 ≤ i ∧ i ≤ tot rs n) ∧ (0 ≤ k ∧ k ≤ tot rs n)) → PlaceAt rs i a' → PlaceAt rs k b' → locksL a b = locksL a' b' ∧ true = true := fun a' b' _ h1 h2 => by
      rw [placeAt_unique ha h1, placeAt_unique hb h2]; exact ⟨rfl, rfl⟩
    refine ⟨locksL a b, true, ?_, fun w B A A2 c c2 h => specLks_any c c2 h hm _ _ _ _ hy (fun g => absurd hg g), fun w B A A2 c c2 h => implLks_any c c2 h hm _ _ _ _ hy (fun g => absurd hg g)⟩
    rw [locksL_len]
    have := ha.lt
    have := hb.lt
    split <;> omega
  · exact ⟨[], false, by simp, fun w B A A2 c c2 h => specLks_any c c2 h hm _ _ _ _ (fun _ _ g => absurd g hg) (fun _ => ⟨rfl, rfl⟩), fun w B A A2 c c2 h => implLks_any c c2 h hm _ _ _ _ (fun _ _ g => absurd g hg) (fun _ => ⟨rfl, rfl⟩)⟩
end Go.Proofs.Ytgnopkemcgbedab
