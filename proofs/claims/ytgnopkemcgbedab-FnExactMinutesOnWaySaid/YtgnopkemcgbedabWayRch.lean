/- Chapter 2: the reach of a place: the program's and the model's. -/
import Derived.Test.YtgnopkemcgbedabWayLev
namespace Go.Proofs.Ytgnopkemcgbedab
open Go.RowKit Go.PlainAid

/-- A place of a valid waterway lies in one reach. -/
theorem placeAt_ex {rs : List (Int × Int × Int)} {zs : List Int} {n : Nat} {p : Int} (hl : rs.length = n) (hg : goodW rs zs) (hp : p ≤ tot rs n) : ∃ i, PlaceAt rs p i :=
  placeAt_of rs p n (by omega) (by have := hg.1.1; omega) hp

set_option maxHeartbeats 1000000 in
theorem specReach_any {w : World} {B : Nat} {A A2 : Option Addr} {n n2 : Nat} {rs : List (Int × Int × Int)} {zs : List Int} (c c2 : Nat) (h : IsWay w B A n A2 n2 rs zs) (hm : n ≤ maxLen) (p : Int) (x : Int) (b : Bool)
    (hyes : ∀ i, goodW rs zs → 0 ≤ p → p ≤ tot rs n → PlaceAt rs p i → x = (i : Int) ∧ b = true) (hno : ¬ (goodW rs zs ∧ 0 ≤ p ∧ p ≤ tot rs n) → x = 0 ∧ b = false) :
    Calls Try.prog 14 #[.agg #[.slice A n c, .slice A2 n2 c2], .int .i64 p] w fun e w' => e = .returned (.tuple #[.int .i64 x, .bool b]) ∧ Below w.heap.size w w' := by
  have HW := Lib.hid h
  have CR := Lib.hid (fun (o : Obj) b => l2Place_any c c2 (h.below ((Below.refl _ w).alloc (Nat.le_refl _) o) h.low) hm p b)
  clear h
  by_cases hg : goodW rs zs ∧ 0 ≤ p ∧ p ≤ tot rs n
  · obtain ⟨i, hi⟩ := placeAt_ex HW.out.len hg.1 hg.2.2
    obtain ⟨rfl, rfl⟩ := hyes i hg.1 hg.2.1 hg.2.2 hi
    have R := Lib.hid (fun o => CR.out o true (fun _ => rfl) (fun g => absurd hg g))
    have hn6 : n ≤ 6 := by rw [← HW.out.len]; exact hg.1.1.2
    have hb0 := goodW_len hg.1
    have htot := (tot_bd rs hb0 n (by rw [HW.out.len]; omega)).2
    have CA := Lib.hid (fun W (hW : IsWay W B A n A2 n2 rs zs) => l2At_any c c2 hW hb0 (by omega) p hg.2.1 (by omega) i hi)
    clear CR hyes hno hg hm hi hb0 htot hn6
    go_enter Try.func14, Try.ntmps14
    go_wp2_with fail
    refine (R.out _).mono ?_
    rintro e w1 ⟨rfl, hb⟩
    have c0 : w1.cell? ⟨w.heap.size, 0, none⟩ = some (.slice A n c) := (hb.cell (by simp)).trans (by rw [cellNew]; rfl)
    have c1 : w1.cell? ⟨w.heap.size, 1, none⟩ = some (.slice A2 n2 c2) := (hb.cell (by simp)).trans (by rw [cellNew]; rfl)
    have B1 := Lib.hid (((Below.refl _ w).alloc (Nat.le_refl _) _).trans (hb.mono (by simp)))
    have I1 := Lib.hid (HW.out.below B1.out HW.out.low)
    clear hb R HW
    go_wp2_with fail
    refine (CA.out _ I1.out).mono ?_
    rintro e w2 ⟨rfl, hb⟩
    go_wp2_with fail
    refine bodyPost_ret (results_tmp2 rfl _ _ _) rfl ?_
    exact ⟨rfl, B1.out.trans (hb.mono B1.out.size)⟩
  · obtain ⟨rfl, rfl⟩ := hno hg
    have R := Lib.hid (fun o => CR.out o false (fun g => absurd g hg) (fun _ => rfl))
    clear CR hyes hno hg
    go_enter Try.func14, Try.ntmps14
    go_wp2_with fail
    refine (R.out _).mono ?_
    rintro e w1 ⟨rfl, hb⟩
    go_wp2_with fail
    refine bodyPost_ret (results_tmp2 rfl _ _ _) rfl ?_
    exact ⟨rfl, ((Below.refl _ w).alloc (Nat.le_refl _) _).trans (hb.mono (by simp))⟩

set_option maxHeartbeats 1000000 in
theorem implReach_any {w : World} {B : Nat} {A A2 : Option Addr} {n n2 : Nat} {rs : List (Int × Int × Int)} {zs : List Int} (c c2 : Nat) (h : IsWay w B A n A2 n2 rs zs) (hm : n ≤ maxLen) (p : Int) (x : Int) (b : Bool)
    (hyes : ∀ i, goodW rs zs → 0 ≤ p → p ≤ tot rs n → PlaceAt rs p i → x = (i : Int) ∧ b = true) (hno : ¬ (goodW rs zs ∧ 0 ≤ p ∧ p ≤ tot rs n) → x = 0 ∧ b = false) :
    Calls Try.prog 13 #[.agg #[.slice A n c, .slice A2 n2 c2], .int .i64 p] w fun e w' => e = .returned (.tuple #[.int .i64 x, .bool b]) ∧ Below w.heap.size w w' := by
  have HW := Lib.hid h
  have CR := Lib.hid (fun (o : Obj) (b : Bool) (hy : (goodW rs zs ∧ 0 ≤ p ∧ p ≤ tot rs n) → b = true) (hn : ¬ (goodW rs zs ∧ 0 ≤ p ∧ p ≤ tot rs n) → b = false) =>
    hasPlaces_any c c2 (h.below (((Below.refl _ w).alloc (Nat.le_refl _) o).alloc (by simp) (.cells #[.int .i64 p] 3)) h.low) hm
      (some ⟨(w.alloc o).heap.size, 0, none⟩) 1 1 ((w.alloc o).heap.size + 1) [p] rfl (by omega) (by simp) (has_new1 (w.alloc o) (.int .i64 p) 3) b (fun g => hy ⟨g.1, (one_all (P := fun z => 0 ≤ z ∧ z ≤ tot rs n)).1 g.2⟩) (fun g => hn (fun g' => g ⟨g'.1, (one_all (P := fun z => 0 ≤ z ∧ z ≤ tot rs n)).2 g'.2⟩)))
  clear h
  simp only [World.size_alloc] at CR
  by_cases hg : goodW rs zs ∧ 0 ≤ p ∧ p ≤ tot rs n
  · obtain ⟨i, hi⟩ := placeAt_ex HW.out.len hg.1 hg.2.2
    obtain ⟨rfl, rfl⟩ := hyes i hg.1 hg.2.1 hg.2.2 hi
    have R := Lib.hid (fun o => CR.out o true (fun _ => rfl) (fun g => absurd hg g))
    have hn6 : n ≤ 6 := by rw [← HW.out.len]; exact hg.1.1.2
    have HB := Lib.hid (goodW_len hg.1)
    have HI := Lib.hid hi
    clear CR hyes hno hg hm hi
    go_enter Try.func13, Try.ntmps13
    go_wp2_with fail
    refine (R.out _).mono ?_
    rintro e w1 ⟨rfl, hb⟩
    have c0 : w1.cell? ⟨w.heap.size, 0, none⟩ = some (.slice A n c) := (hb.cell (by simp; omega)).trans ((World.cell?_alloc_lt _ _ _ (by simp)).trans (by rw [cellNew]; rfl))
    have B1 := Lib.hid ((((Below.refl _ w).alloc (Nat.le_refl _) (.cells #[.slice A n c, .slice A2 n2 c2] 27)).alloc (by simp) (.cells #[.int .i64 p] 3)).trans (hb.mono (by omega)))
    have I1 := Lib.hid (HW.out.below B1.out HW.out.low)
    have h0l : 0 < rs.length := by have := HI.out.lt; omega
    have hn0 : (0 : Int) < (n : Int) := by have := HW.out.len; omega
    obtain ⟨a1, rfl, _, e0, -, -⟩ := I1.out.has.reachAt h0l
    obtain ⟨l0, l1⟩ := HB.out _ (List.getElem_mem h0l)
    have HT : Hid (tot rs 1 = (rs[0]'h0l).1) := Lib.hid (by rw [tot_step rs 0 h0l]; simp [tot])
    have e0' : w1.cell? a1 = some (.int .i64 (rs[0]'h0l).1) := by simpa [Addr.add] using e0
    generalize (rs[0]'h0l).1 = l at e0 e0' l0 l1 HT
    clear hb R HW
    go_wp2_with fail
    go_loop [6, 7] (fun q e => ∃ k : Nat, k ≤ i ∧ q = .int .i64 k ∧ e = .int .i64 (tot rs (k + 1))) (fun q _ => i - (intOf q).toNat)
    case atStart => exact ⟨0, Nat.zero_le _, rfl, by rw [HT.out]⟩
    case round =>
      obtain ⟨k, hk, rfl, rfl⟩ := hrel
      clear e0 e0'
      obtain ⟨t0, t1⟩ := tot_bd rs HB.out (k + 1) (by have := HI.out.lt; omega)
      have hki : k < rs.length := by have := HI.out.lt; omega
      have hk6 : k < 6 := by have := I1.out.len; omega
      have hk0 : (0 : Int) ≤ (k : Int) := by omega
      by_cases hlt : k < i
      · have hgt : tot rs (k + 1) < p := HI.out.first k hlt
        have hkl : k + 1 < rs.length := by have := HI.out.lt; omega
        have hk1 : (k : Int) + 1 < (n : Int) := by have := I1.out.len; omega
        obtain ⟨a2, ha2, _, g0, -, -⟩ := I1.out.has.reachAt hkl
        injection ha2 with ha2
        subst ha2
        obtain ⟨m0, m1⟩ := HB.out _ (List.getElem_mem hkl)
        have HS := Lib.hid (tot_step rs (k + 1) hkl)
        generalize (rs[k + 1]'hkl).1 = l' at g0 m0 m1 HS
        generalize tot rs (k + 1) = t at t0 t1 HS hgt
        clear I1
        go_wp2_with fail
        go_round
        case rel => exact ⟨k + 1, by omega, by go_num, by rw [HS.out]⟩
        case measure => simp [intOf]; omega
      · obtain rfl : k = i := by omega
        have hgt : ¬ tot rs (k + 1) < p := by have := HI.out.le; omega
        generalize tot rs (k + 1) = t at t0 t1 hgt
        clear I1
        go_wp2_with fail
        refine bodyPost_ret (results_tmp2 rfl _ _ _) rfl ?_
        exact ⟨rfl, B1.out⟩
  · obtain ⟨rfl, rfl⟩ := hno hg
    have R := Lib.hid (fun o => CR.out o false (fun g => absurd g hg) (fun _ => rfl))
    clear CR hyes hno hg
    go_enter Try.func13, Try.ntmps13
    go_wp2_with fail
    refine (R.out _).mono ?_
    rintro e w1 ⟨rfl, hb⟩
    go_wp2_with fail
    refine bodyPost_ret (results_tmp2 rfl _ _ _) rfl ?_
    exact ⟨rfl, (((Below.refl _ w).alloc (Nat.le_refl _) _).alloc (by simp) _).trans (hb.mono (by omega))⟩

theorem two_ReachAt (n n2 : Nat) (rs : List (Int × Int × Int)) (zs : List Int) (p : Int) (hm : n ≤ maxLen) (_ : (Lit.int .i64 p).wf = true) : ∃ (x : Int) (y : Bool),
    (∀ (w : World) (B : Nat) (A A2 : Option Addr) (c c2 : Nat), IsWay w B A n A2 n2 rs zs → n ≤ c → n2 ≤ c2 → Calls Try.prog 14 #[.agg #[.slice A n c, .slice A2 n2 c2], .int .i64 p] w fun e w' => e = .returned (.tuple #[.int .i64 x, .bool y]) ∧ Below w.heap.size w w') ∧
    (∀ (w : World) (B : Nat) (A A2 : Option Addr) (c c2 : Nat), IsWay w B A n A2 n2 rs zs → n ≤ c → n2 ≤ c2 → Calls Try.prog 13 #[.agg #[.slice A n c, .slice A2 n2 c2], .int .i64 p] w fun e w' => e = .returned (.tuple #[.int .i64 x, .bool y]) ∧ Below w.heap.size w w') := by
  by_cases hg : goodW rs zs ∧ 0 ≤ p ∧ p ≤ tot rs n
  · by_cases hl : rs.length = n
    · obtain ⟨i, hi⟩ := placeAt_ex hl hg.1 hg.2.2
      exact ⟨i, true, fun w B A A2 c c2 h _ _ => specReach_any c c2 h hm _ _ _ (fun j _ _ _ hj => ⟨by rw [placeAt_unique hi hj], rfl⟩) (fun g => absurd hg g), fun w B A A2 c c2 h _ _ => implReach_any c c2 h hm _ _ _ (fun j _ _ _ hj => ⟨by rw [placeAt_unique hi hj], rfl⟩) (fun g => absurd hg g)⟩
    · exact ⟨0, true, fun w B A A2 c c2 h _ _ => absurd h.len hl, fun w B A A2 c c2 h _ _ => absurd h.len hl⟩
  · exact ⟨0, false, fun w B A A2 c c2 h _ _ => specReach_any c c2 h hm _ _ _ (fun i a b d _ => absurd ⟨a, b, d⟩ hg) (fun _ => ⟨rfl, rfl⟩), fun w B A A2 c c2 h _ _ => implReach_any c c2 h hm _ _ _ (fun i a b d _ => absurd ⟨a, b, d⟩ hg) (fun _ => ⟨rfl, rfl⟩)⟩
end Go.Proofs.Ytgnopkemcgbedab
