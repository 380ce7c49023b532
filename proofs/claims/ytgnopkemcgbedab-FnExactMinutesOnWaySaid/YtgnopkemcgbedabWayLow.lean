/- Chapter 2: the shallowest depth: the program's and the model's. -/
import Derived.Test.YtgnopkemcgbedabWayRch
namespace Go.Proofs.Ytgnopkemcgbedab
open Go.RowKit Go.PlainAid

theorem goodW_dep {rs : List (Int × Int × Int)} {zs : List Int} (h : goodW rs zs) : ∀ r ∈ rs, 100 ≤ r.2.1 ∧ r.2.1 ≤ 900 := by
  intro r hr
  obtain ⟨j, hj, rfl⟩ := List.getElem_of_mem hr
  exact (((goodW_iff rs zs).1 h).2.2.1 j hj).2.1
/-- The least of d and the depths of k reaches from lo on. -/
def lowD (rs : List (Int × Int × Int)) (d : Int) (lo : Nat) : Nat → Int
  | 0 => d
  | k + 1 => min (lowD rs d lo k) (rs.getD (lo + k) (0, 0, 0)).2.1
theorem lowD_step (rs : List (Int × Int × Int)) (d : Int) (lo k : Nat) (h : lo + k < rs.length) : lowD rs d lo (k + 1) = min (lowD rs d lo k) (rs[lo + k]'h).2.1 := by
  simp [lowD, List.getD_eq_getElem?_getD, List.getElem?_eq_getElem h]

theorem l1Least_any (x y : Int) (w : World) :
    Calls Try.prog 60 #[.int .i64 x, .int .i64 y] w fun e w' => e = .returned (.int .i64 (min x y)) ∧ w = w' := by
  by_cases h : x < y
  · have e : min x y = x := by omega
    rw [e]
    clear e
    go_enter Try.func60, Try.ntmps60
    go_wp2
    go_ret
    exact ⟨rfl, rfl⟩
  · have e : min x y = y := by omega
    rw [e]
    clear e
    go_enter Try.func60, Try.ntmps60
    go_wp2
    go_ret
    exact ⟨rfl, rfl⟩
theorem l1Most_any (x y : Int) (w : World) :
    Calls Try.prog 61 #[.int .i64 x, .int .i64 y] w fun e w' => e = .returned (.int .i64 (max x y)) ∧ w = w' := by
  by_cases h : y < x
  · have e : max x y = x := by omega
    rw [e]
    clear e
    go_enter Try.func61, Try.ntmps61
    go_wp2
    go_ret
    exact ⟨rfl, rfl⟩
  · have e : max x y = y := by omega
    rw [e]
    clear e
    go_enter Try.func61, Try.ntmps61
    go_wp2
    go_ret
    exact ⟨rfl, rfl⟩

/-- The two numbers are those of reaches, and lo is the smaller, hi the greater. -/
structure EndsAt (rs : List (Int × Int × Int)) (i k : Int) (a lo hi : Nat) : Prop where
  ia : i = (a : Int)
  al : a < rs.length
  elo : min i k = (lo : Int)
  ehi : max i k = (hi : Int)
  lh : lo ≤ hi
  hl : hi < rs.length
theorem ends_of {rs : List (Int × Int × Int)} {i k : Int} {n : Nat} (hl : rs.length = n) (h1 : 0 ≤ i ∧ i ≤ (n : Int) - 1) (h2 : 0 ≤ k ∧ k ≤ (n : Int) - 1) : EndsAt rs i k i.toNat (min i k).toNat (max i k).toNat :=
  ⟨by omega, by omega, by omega, by omega, by omega, by omega⟩

set_option maxHeartbeats 1000000 in
theorem specLow_any {w : World} {B : Nat} {A A2 : Option Addr} {n n2 : Nat} {rs : List (Int × Int × Int)} {zs : List Int} (c c2 : Nat) (h : IsWay w B A n A2 n2 rs zs) (hm : n ≤ maxLen) (i k : Int) (x : Int) (b : Bool)
    (hyes : (goodW rs zs ∧ (0 ≤ i ∧ i ≤ (n : Int) - 1) ∧ (0 ≤ k ∧ k ≤ (n : Int) - 1)) → (∀ a lo hi (hE : EndsAt rs i k a lo hi), x = lowD rs (rs[a]'hE.al).2.1 lo (hi + 1 - lo) ∧ b = true)) (hno : ¬ (goodW rs zs ∧ (0 ≤ i ∧ i ≤ (n : Int) - 1) ∧ (0 ≤ k ∧ k ≤ (n : Int) - 1)) → x = 0 ∧ b = false) :
    Calls Try.prog 20 #[.agg #[.slice A n c, .slice A2 n2 c2], .int .i64 i, .int .i64 k] w fun e w' => e = .returned (.tuple #[.int .i64 x, .bool b]) ∧ Below w.heap.size w w' := by
  have HW := Lib.hid h
  have CR := Lib.hid (fun (W : World) (hW : Below w.heap.size w W) i b => l2Reach_any c c2 (h.below hW h.low) hm i b)
  clear h
  by_cases hg1 : goodW rs zs ∧ 0 ≤ i ∧ i ≤ (n : Int) - 1
  · have R1 := Lib.hid (fun W hW => CR.out W hW i true (fun _ => rfl) (fun g => absurd hg1 g))
    by_cases hg2 : 0 ≤ k ∧ k ≤ (n : Int) - 1
    · obtain ⟨a, lo, hi, hE⟩ : ∃ a lo hi, EndsAt rs i k a lo hi := ⟨_, _, _, ends_of HW.out.len hg1.2 hg2⟩
      obtain ⟨hx1, hx2⟩ := hyes ⟨hg1.1, hg1.2, hg2⟩ _ _ _ hE
      clear hyes hno
      subst hx2
      have R2 := Lib.hid (fun W hW => CR.out W hW k true (fun _ => rfl) (fun g => absurd ⟨hg1.1, hg2⟩ g))
      have hEd := hE.al
      have HX1 : Hid (x = lowD rs (rs[a]'hEd).2.1 lo (hi + 1 - lo)) := Lib.hid hx1
      have ha := hE.ia
      have hlo := hE.elo
      have hhi := hE.ehi
      have hlh := hE.lh
      have hhl := hE.hl
      clear hx1 hE
      have HL := Lib.hid (l1Least_any i k)
      have HM := Lib.hid (l1Most_any i k)
      have HD := Lib.hid (goodW_dep hg1.1)
      have hi0 : (0 : Int) ≤ i := hg1.2.1
      have hi1 : i < (n : Int) := by omega
      have hn6 : n ≤ 6 := by rw [← HW.out.len]; exact hg1.1.1.2
      rw [hlo] at HL
      rw [hhi] at HM
      subst ha
      have hhn : (hi : Int) < (n : Int) := by have := HW.out.len; omega
      have hlh' : (lo : Int) ≤ (hi : Int) := by omega
      have HX := Lib.hid hhl
      clear CR hg1 hg2 hm hlo hhi hhl
      go_enter Try.func20, Try.ntmps20
      go_wp2_with fail
      have hba := (Below.refl w.heap.size w).alloc (Nat.le_refl _) (.cells #[.slice A n c, .slice A2 n2 c2] 27)
      refine (R1.out _ hba).mono ?_
      rintro e w1 ⟨rfl, hb⟩
      have c0 : w1.cell? ⟨w.heap.size, 0, none⟩ = some (.slice A n c) := (hb.cell (by simp)).trans (by rw [cellNew]; rfl)
      have c1 : w1.cell? ⟨w.heap.size, 1, none⟩ = some (.slice A2 n2 c2) := (hb.cell (by simp)).trans (by rw [cellNew]; rfl)
      have B1 := Lib.hid (hba.trans (hb.mono (by simp)))
      have z1 : w.heap.size < w1.heap.size := by have := hb.size; simp at this; omega
      clear hb hba R1
      go_wp2_with fail
      refine (R2.out _ B1.out).mono ?_
      rintro e w2 ⟨rfl, hb⟩
      replace c0 := (hb.cell (p := ⟨w.heap.size, 0, none⟩) z1).trans c0
      replace c1 := (hb.cell (p := ⟨w.heap.size, 1, none⟩) z1).trans c1
      have B2 := Lib.hid (B1.out.trans (hb.mono B1.out.size))
      have I2 := Lib.hid (HW.out.below B2.out HW.out.low)
      clear hb R2 HW B1
      obtain ⟨a1, rfl, _, e0, e1, e2⟩ := I2.out.has.reachAt hEd
      obtain ⟨f1, f2⟩ := reach_forms e1 e2
      have HDa := Lib.hid (HD.out _ (List.getElem_mem hEd))
      generalize (rs[a]'hEd).2.1 = d at e1 f1 HDa HX1
      go_wp2_with fail
      refine (HL.out _).mono ?_
      rintro e w3 ⟨rfl, rfl⟩
      clear HL e0 e1 e2 f1 f2
      go_wp2_with fail
      have LE := Lib.hid (fun x y W => l1Least_any x y W)
      go_loop [8, 9] (fun q e => ∃ j : Nat, lo + j ≤ hi + 1 ∧ e = .int .i64 ((lo + j : Nat) : Int) ∧ q = .int .i64 (lowD rs d lo j)) (fun _ e => hi + 1 - (intOf e).toNat)
      case atStart => exact ⟨0, by omega, rfl, rfl⟩
      case round =>
        obtain ⟨j, hj, rfl, rfl⟩ := hrel
        obtain ⟨m, hm⟩ : ∃ m, lo + j = m := ⟨_, rfl⟩
        rw [hm]
        have hm0 : (0 : Int) ≤ (m : Int) := by omega
        by_cases hlt : m ≤ hi
        · have hml : m < rs.length := by have := HX.out; omega
          obtain ⟨a2, ha2, _, g0, g1, g2⟩ := I2.out.has.reachAt hml
          injection ha2 with ha2
          subst ha2
          obtain ⟨g1, g2⟩ := reach_forms g1 g2
          have HS : Hid (lowD rs d lo (j + 1) = min (lowD rs d lo j) (rs[m]'hml).2.1) := Lib.hid (by subst hm; exact lowD_step rs d lo j hml)
          generalize (rs[m]'hml).2.1 = d' at g1 HS
          generalize lowD rs d lo j = t at HS
          have hm1 : (m : Int) ≤ (hi : Int) := by omega
          have hm2 : (m : Int) < (n : Int) := by omega
          clear I2 g0 g2
          go_wp2_with fail
          refine (HM.out _).mono ?_
          rintro e w4 ⟨rfl, rfl⟩
          go_wp2_with fail
          refine (LE.out _ _ _).mono ?_
          rintro e w4 ⟨rfl, rfl⟩
          go_wp2_with fail
          go_round
          case rel => exact ⟨j + 1, by omega, by rw [← Nat.add_assoc, hm]; go_num, by rw [HS.out]⟩
          case measure => simp [intOf]; omega
        · have HJ : Hid (x = lowD rs d lo j) := Lib.hid (by rw [HX1.out]; congr 1; omega)
          have hm1 : ¬ (m : Int) ≤ (hi : Int) := by omega
          generalize lowD rs d lo j = t at HJ
          clear I2
          go_wp2_with fail
          refine (HM.out _).mono ?_
          rintro e w4 ⟨rfl, rfl⟩
          go_wp2_with fail
          refine bodyPost_ret (results_tmp2 rfl _ _ _) rfl ?_
          obtain rfl := HJ.out
          exact ⟨rfl, B2.out⟩
    · obtain ⟨rfl, rfl⟩ := hno (fun g => hg2 g.2.2)
      have R2 := Lib.hid (fun W hW => CR.out W hW k false (fun g => absurd g.2 hg2) (fun _ => rfl))
      clear CR hyes hno hg1 hg2
      go_enter Try.func20, Try.ntmps20
      go_wp2_with fail
      have hba := (Below.refl w.heap.size w).alloc (Nat.le_refl _) (.cells #[.slice A n c, .slice A2 n2 c2] 27)
      refine (R1.out _ hba).mono ?_
      rintro e w1 ⟨rfl, hb⟩
      have c0 : w1.cell? ⟨w.heap.size, 0, none⟩ = some (.slice A n c) := (hb.cell (by simp)).trans (by rw [cellNew]; rfl)
      have c1 : w1.cell? ⟨w.heap.size, 1, none⟩ = some (.slice A2 n2 c2) := (hb.cell (by simp)).trans (by rw [cellNew]; rfl)
      have B1 := Lib.hid (hba.trans (hb.mono (by simp)))
      clear hb hba R1
      go_wp2_with fail
      refine (R2.out _ B1.out).mono ?_
      rintro e w2 ⟨rfl, hb⟩
      go_wp2_with fail
      refine bodyPost_ret (results_tmp2 rfl _ _ _) rfl ?_
      exact ⟨rfl, B1.out.trans (hb.mono B1.out.size)⟩
  · obtain ⟨rfl, rfl⟩ := hno (fun g => hg1 ⟨g.1, g.2.1⟩)
    have R1 := Lib.hid (fun W hW => CR.out W hW i false (fun g => absurd g hg1) (fun _ => rfl))
    clear CR hyes hno hg1
    go_enter Try.func20, Try.ntmps20
    go_wp2_with fail
    have hba := (Below.refl w.heap.size w).alloc (Nat.le_refl _) (.cells #[.slice A n c, .slice A2 n2 c2] 27)
    refine (R1.out _ hba).mono ?_
    rintro e w1 ⟨rfl, hb⟩
    go_wp2_with fail
    refine bodyPost_ret (results_tmp2 rfl _ _ _) rfl ?_
    exact ⟨rfl, hba.trans (hb.mono (by simp))⟩

set_option maxHeartbeats 1000000 in
theorem implLow_any {w : World} {B : Nat} {A A2 : Option Addr} {n n2 : Nat} {rs : List (Int × Int × Int)} {zs : List Int} (c c2 : Nat) (hc : n ≤ c) (h : IsWay w B A n A2 n2 rs zs) (hm : n ≤ maxLen) (i k : Int) (x : Int) (b : Bool)
    (hyes : (goodW rs zs ∧ (0 ≤ i ∧ i ≤ (n : Int) - 1) ∧ (0 ≤ k ∧ k ≤ (n : Int) - 1)) → (∀ a lo hi (hE : EndsAt rs i k a lo hi), x = lowD rs (rs[a]'hE.al).2.1 lo (hi + 1 - lo) ∧ b = true)) (hno : ¬ (goodW rs zs ∧ (0 ≤ i ∧ i ≤ (n : Int) - 1) ∧ (0 ≤ k ∧ k ≤ (n : Int) - 1)) → x = 0 ∧ b = false) :
    Calls Try.prog 19 #[.agg #[.slice A n c, .slice A2 n2 c2], .int .i64 i, .int .i64 k] w fun e w' => e = .returned (.tuple #[.int .i64 x, .bool b]) ∧ Below w.heap.size w w' := by
  have HW := Lib.hid h
  have CR := Lib.hid (fun (o : Obj) (b : Bool) (hy : (goodW rs zs ∧ (0 ≤ i ∧ i ≤ (n : Int) - 1) ∧ (0 ≤ k ∧ k ≤ (n : Int) - 1)) → b = true) (hn : ¬ (goodW rs zs ∧ (0 ≤ i ∧ i ≤ (n : Int) - 1) ∧ (0 ≤ k ∧ k ≤ (n : Int) - 1)) → b = false) =>
    hasReaches_any c c2 (h.below (((Below.refl _ w).alloc (Nat.le_refl _) o).alloc (by simp) (.cells #[.int .i64 i, .int .i64 k] 3)) h.low) hm
      (some ⟨(w.alloc o).heap.size, 0, none⟩) 2 2 ((w.alloc o).heap.size + 1) [i, k] rfl (by omega) (by simp) (has_new2 (w.alloc o) (.int .i64 i) (.int .i64 k) 3) b (fun g => hy ⟨g.1, (two_all (P := fun z => 0 ≤ z ∧ z ≤ (n : Int) - 1)).1 g.2⟩) (fun g => hn (fun g' => g ⟨g'.1, (two_all (P := fun z => 0 ≤ z ∧ z ≤ (n : Int) - 1)).2 g'.2⟩)))
  clear h
  simp only [World.size_alloc] at CR
  by_cases hg : goodW rs zs ∧ (0 ≤ i ∧ i ≤ (n : Int) - 1) ∧ (0 ≤ k ∧ k ≤ (n : Int) - 1)
  · have R := Lib.hid (fun o => CR.out o true (fun _ => rfl) (fun g => absurd hg g))
    obtain ⟨a, lo, hi, hE⟩ : ∃ a lo hi, EndsAt rs i k a lo hi := ⟨_, _, _, ends_of HW.out.len hg.2.1 hg.2.2⟩
    obtain ⟨hx1, hx2⟩ := hyes hg _ _ _ hE
    clear hyes hno CR
    subst hx2
    have hEd := hE.al
    have HX1 : Hid (x = lowD rs (rs[a]'hEd).2.1 lo (hi + 1 - lo)) := Lib.hid hx1
    have ha := hE.ia
    have hlo := hE.elo
    have hhi := hE.ehi
    have hlh := hE.lh
    have HX := Lib.hid hE.hl
    have hhl := hE.hl
    clear hx1 hE
    have hi0 : (0 : Int) ≤ i := hg.2.1.1
    have hi1 : i < (n : Int) := by omega
    have hn6 : n ≤ 6 := by rw [← HW.out.len]; exact hg.1.1.2
    have hhn : (hi : Int) < (n : Int) := by have := HW.out.len; omega
    have hlh' : (lo : Int) ≤ (hi : Int) := by omega
    have hlo0 : (lo : Int) ≤ (hi : Int) + 1 := by omega
    have hhc : (hi : Int) + 1 ≤ (c : Int) := by omega
    clear hg hm hhl
    subst ha
    go_enter Try.func19, Try.ntmps19
    go_wp2_with fail
    refine (R.out _).mono ?_
    rintro e w1 ⟨rfl, hb⟩
    have c0 : w1.cell? ⟨w.heap.size, 0, none⟩ = some (.slice A n c) := (hb.cell (by simp; omega)).trans ((World.cell?_alloc_lt _ _ _ (by simp)).trans (by rw [cellNew]; rfl))
    have B1 := Lib.hid ((((Below.refl _ w).alloc (Nat.le_refl _) (.cells #[.slice A n c, .slice A2 n2 c2] 27)).alloc (by simp) (.cells #[.int .i64 a, .int .i64 k] 3)).trans (hb.mono (by omega)))
    have I1 := Lib.hid (HW.out.below B1.out HW.out.low)
    clear hb R HW
    obtain ⟨a1, rfl, _, e0, e1, e2⟩ := I1.out.has.reachAt hEd
    obtain ⟨f1, f2⟩ := reach_forms e1 e2
    generalize (rs[a]'hEd).2.1 = d at e1 f1 HX1
    clear e0 e2 f2
    obtain ⟨kk, rfl⟩ : ∃ kk : Nat, k = (kk : Int) := ⟨k.toNat, by omega⟩
    rcases Nat.lt_trichotomy a kk with hak | hak | hak
    · obtain rfl : lo = a := by omega
      obtain rfl : hi = kk := by omega
      have t1 : (lo : Int) < (hi : Int) := by omega
      have t2 : ¬ (hi : Int) < (lo : Int) := by omega
      have t3 : ¬ (hi : Int) ≤ (lo : Int) := by omega
      go_wp2_with fail
      generalize hM : hi + 1 - lo = M at HX1 ⊢
      go_loopw [8, 34] (fun q e wr => ∃ j : Nat, j ≤ M ∧ e = .int .i64 (j : Int) ∧ q = .int .i64 (lowD rs d lo j) ∧ Below w1.heap.size w1 wr) (fun _ e _ => M - (intOf e).toNat)
      case atStart => exact ⟨0, by omega, rfl, rfl, Below.refl _ _⟩
      case round =>
        obtain ⟨j, hj, rfl, rfl, hb⟩ := hrel
        have hj0 : (0 : Int) ≤ (j : Int) := by omega
        by_cases hlt : j < M
        · have hml : lo + j < rs.length := by have := HX.out; omega
          obtain ⟨a2, ha2, _, g0, g1, g2⟩ := (I1.out.below hb I1.out.low).has.reachAt hml
          injection ha2 with ha2
          subst ha2
          have HS := Lib.hid (lowD_step rs d lo j hml)
          generalize (rs[lo + j]'hml).1 = l' at g0
          generalize (rs[lo + j]'hml).2.1 = d' at g1 HS
          generalize (rs[lo + j]'hml).2.2 = s' at g2
          rw [show (lo + j) * 3 = lo * 3 + j * 3 by omega, ← Go.Deep.add_add] at g0
          rw [show (lo + j) * 3 + 1 = lo * 3 + (j * 3 + 1) by omega, ← Go.Deep.add_add] at g1
          rw [show (lo + j) * 3 + 2 = lo * 3 + (j * 3 + 2) by omega, ← Go.Deep.add_add] at g2
          obtain ⟨f1, f2⟩ := reach_forms g1 g2
          generalize lowD rs d lo j = t at HS
          have hj1 : (j : Int) < ((M : Nat) : Int) := by omega
          have HBw := Lib.hid (hb.alloc hb.size)
          clear I1 g1 g2 hb
          go_wp2
          go_roundw
          case rel => exact ⟨j + 1, by omega, by go_num, by rw [HS.out]; congr 1; split <;> omega, HBw.out _⟩
          case measure => simp [intOf]; omega
        · have HJ : Hid (x = lowD rs d lo j) := Lib.hid (by rw [HX1.out]; congr 1; omega)
          have hj1 : ¬ (j : Int) < ((M : Nat) : Int) := by omega
          generalize lowD rs d lo j = t at HJ
          clear I1
          go_wp2_with fail
          refine bodyPost_ret (results_tmp2 rfl _ _ _) rfl ?_
          obtain rfl := HJ.out
          exact ⟨rfl, B1.out.trans (hb.mono B1.out.size)⟩
    · obtain rfl : lo = a := by omega
      obtain rfl : kk = lo := by omega
      obtain rfl : hi = kk := by omega
      rw [show hi + 1 - hi = 1 by omega] at HX1
      go_wp2_with fail
      go_loopw [8, 34] (fun q e wr => ∃ j : Nat, j ≤ 1 ∧ e = .int .i64 (j : Int) ∧ q = .int .i64 (lowD rs d hi j) ∧ Below w1.heap.size w1 wr) (fun _ e _ => 1 - (intOf e).toNat)
      case atStart => exact ⟨0, by omega, rfl, rfl, Below.refl _ _⟩
      case round =>
        obtain ⟨j, hj, rfl, rfl, hb⟩ := hrel
        have hj0 : (0 : Int) ≤ (j : Int) := by omega
        by_cases hlt : j < 1
        · have hml : hi + j < rs.length := by have := HX.out; omega
          obtain ⟨a2, ha2, _, g0, g1, g2⟩ := (I1.out.below hb I1.out.low).has.reachAt hml
          injection ha2 with ha2
          subst ha2
          have HS := Lib.hid (lowD_step rs d hi j hml)
          generalize (rs[hi + j]'hml).1 = l' at g0
          generalize (rs[hi + j]'hml).2.1 = d' at g1 HS
          generalize (rs[hi + j]'hml).2.2 = s' at g2
          rw [show (hi + j) * 3 = hi * 3 + j * 3 by omega, ← Go.Deep.add_add] at g0
          rw [show (hi + j) * 3 + 1 = hi * 3 + (j * 3 + 1) by omega, ← Go.Deep.add_add] at g1
          rw [show (hi + j) * 3 + 2 = hi * 3 + (j * 3 + 2) by omega, ← Go.Deep.add_add] at g2
          obtain ⟨f1, f2⟩ := reach_forms g1 g2
          generalize lowD rs d hi j = t at HS
          have hj1 : (j : Int) < ((1 : Nat) : Int) := by omega
          have HBw := Lib.hid (hb.alloc hb.size)
          clear I1 g1 g2 hb
          go_wp2
          go_roundw
          case rel => exact ⟨j + 1, by omega, by go_num, by rw [HS.out]; congr 1; split <;> omega, HBw.out _⟩
          case measure => simp [intOf]; omega
        · have HJ : Hid (x = lowD rs d hi j) := Lib.hid (by rw [HX1.out]; congr 1; omega)
          have hj1 : ¬ (j : Int) < ((1 : Nat) : Int) := by omega
          generalize lowD rs d hi j = t at HJ
          clear I1
          go_wp2_with fail
          refine bodyPost_ret (results_tmp2 rfl _ _ _) rfl ?_
          obtain rfl := HJ.out
          exact ⟨rfl, B1.out.trans (hb.mono B1.out.size)⟩
    · obtain rfl : lo = kk := by omega
      obtain rfl : hi = a := by omega
      have t1 : (lo : Int) < (hi : Int) := by omega
      have t2 : ¬ (hi : Int) < (lo : Int) := by omega
      have t3 : ¬ (hi : Int) ≤ (lo : Int) := by omega
      go_wp2_with fail
      generalize hM : hi + 1 - lo = M at HX1 ⊢
      go_loopw [8, 34] (fun q e wr => ∃ j : Nat, j ≤ M ∧ e = .int .i64 (j : Int) ∧ q = .int .i64 (lowD rs d lo j) ∧ Below w1.heap.size w1 wr) (fun _ e _ => M - (intOf e).toNat)
      case atStart => exact ⟨0, by omega, rfl, rfl, Below.refl _ _⟩
      case round =>
        obtain ⟨j, hj, rfl, rfl, hb⟩ := hrel
        have hj0 : (0 : Int) ≤ (j : Int) := by omega
        by_cases hlt : j < M
        · have hml : lo + j < rs.length := by have := HX.out; omega
          obtain ⟨a2, ha2, _, g0, g1, g2⟩ := (I1.out.below hb I1.out.low).has.reachAt hml
          injection ha2 with ha2
          subst ha2
          have HS := Lib.hid (lowD_step rs d lo j hml)
          generalize (rs[lo + j]'hml).1 = l' at g0
          generalize (rs[lo + j]'hml).2.1 = d' at g1 HS
          generalize (rs[lo + j]'hml).2.2 = s' at g2
          rw [show (lo + j) * 3 = lo * 3 + j * 3 by omega, ← Go.Deep.add_add] at g0
          rw [show (lo + j) * 3 + 1 = lo * 3 + (j * 3 + 1) by omega, ← Go.Deep.add_add] at g1
          rw [show (lo + j) * 3 + 2 = lo * 3 + (j * 3 + 2) by omega, ← Go.Deep.add_add] at g2
          obtain ⟨f1, f2⟩ := reach_forms g1 g2
          generalize lowD rs d lo j = t at HS
          have hj1 : (j : Int) < ((M : Nat) : Int) := by omega
          have HBw := Lib.hid (hb.alloc hb.size)
          clear I1 g1 g2 hb
          go_wp2
          go_roundw
          case rel => exact ⟨j + 1, by omega, by go_num, by rw [HS.out]; congr 1; split <;> omega, HBw.out _⟩
          case measure => simp [intOf]; omega
        · have HJ : Hid (x = lowD rs d lo j) := Lib.hid (by rw [HX1.out]; congr 1; omega)
          have hj1 : ¬ (j : Int) < ((M : Nat) : Int) := by omega
          generalize lowD rs d lo j = t at HJ
          clear I1
          go_wp2_with fail
          refine bodyPost_ret (results_tmp2 rfl _ _ _) rfl ?_
          obtain rfl := HJ.out
          exact ⟨rfl, B1.out.trans (hb.mono B1.out.size)⟩
  · obtain ⟨rfl, rfl⟩ := hno hg
    have R := Lib.hid (fun o => CR.out o false (fun g => absurd g hg) (fun _ => rfl))
    clear CR hyes hno hg
    go_enter Try.func19, Try.ntmps19
    go_wp2_with fail
    refine (R.out _).mono ?_
    rintro e w1 ⟨rfl, hb⟩
    go_wp2_with fail
    refine bodyPost_ret (results_tmp2 rfl _ _ _) rfl ?_
    exact ⟨rfl, (((Below.refl _ w).alloc (Nat.le_refl _) _).alloc (by simp) _).trans (hb.mono (by omega))⟩

theorem two_ShallowestDepth (n n2 : Nat) (rs : List (Int × Int × Int)) (zs : List Int) (i k : Int) (hm : n ≤ maxLen) (_ : (Lit.int .i64 i).wf = true) (_ : (Lit.int .i64 k).wf = true) : ∃ (x : Int) (y : Bool),
    (∀ (w : World) (B : Nat) (A A2 : Option Addr) (c c2 : Nat), IsWay w B A n A2 n2 rs zs → n ≤ c → n2 ≤ c2 → Calls Try.prog 20 #[.agg #[.slice A n c, .slice A2 n2 c2], .int .i64 i, .int .i64 k] w fun e w' => e = .returned (.tuple #[.int .i64 x, .bool y]) ∧ Below w.heap.size w w') ∧
    (∀ (w : World) (B : Nat) (A A2 : Option Addr) (c c2 : Nat), IsWay w B A n A2 n2 rs zs → n ≤ c → n2 ≤ c2 → Calls Try.prog 19 #[.agg #[.slice A n c, .slice A2 n2 c2], .int .i64 i, .int .i64 k] w fun e w' => e = .returned (.tuple #[.int .i64 x, .bool y]) ∧ Below w.heap.size w w') := by
  by_cases hl : rs.length = n
  · by_cases hg : goodW rs zs ∧ (0 ≤ i ∧ i ≤ (n : Int) - 1) ∧ (0 ≤ k ∧ k ≤ (n : Int) - 1)
    · obtain ⟨a, lo, hi, hE⟩ : ∃ a lo hi, EndsAt rs i k a lo hi := ⟨_, _, _, ends_of hl hg.2.1 hg.2.2⟩
      have same : ∀ a' lo' hi' (hE' : EndsAt rs i k a' lo' hi'), lowD rs (rs[a]'hE.al).2.1 lo (hi + 1 - lo) = lowD rs (rs[a']'hE'.al).2.1 lo' (hi' + 1 - lo') ∧ true = true := fun a' lo' hi' hE' => by
        obtain rfl : a = a' := by have := hE.ia; have := hE'.ia; omega
        obtain rfl : lo = lo' := by have := hE.elo; have := hE'.elo; omega
        obtain rfl : hi = hi' := by have := hE.ehi; have := hE'.ehi; omega
        exact ⟨rfl, rfl⟩
      exact ⟨_, true, fun w B A A2 c c2 h _ _ => specLow_any c c2 h hm _ _ _ _ (fun _ => same) (fun g => absurd hg g), fun w B A A2 c c2 h hc _ => implLow_any c c2 hc h hm _ _ _ _ (fun _ => same) (fun g => absurd hg g)⟩
    · exact ⟨0, false, fun w B A A2 c c2 h _ _ => specLow_any c c2 h hm _ _ _ _ (fun g => absurd g hg) (fun _ => ⟨rfl, rfl⟩), fun w B A A2 c c2 h hc _ => implLow_any c c2 hc h hm _ _ _ _ (fun g => absurd g hg) (fun _ => ⟨rfl, rfl⟩)⟩
  · exact ⟨0, true, fun w B A A2 c c2 h _ _ => absurd h.len hl, fun w B A A2 c c2 h _ _ => absurd h.len hl⟩
end Go.Proofs.Ytgnopkemcgbedab
