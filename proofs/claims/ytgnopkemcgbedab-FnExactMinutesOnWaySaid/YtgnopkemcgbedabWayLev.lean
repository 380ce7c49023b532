/- Chapter 2: the level of a reach: the program's and the model's. -/
import Derived.Test.YtgnopkemcgbedabWayPos
namespace Go.Proofs.Ytgnopkemcgbedab
open Go.RowKit Go.PlainAid

def lev (zs : List Int) (k : Nat) : Int := (zs.take k).sum
theorem lev_step (zs : List Int) (k : Nat) (h : k < zs.length) : lev zs (k + 1) = lev zs k + zs[k] := by
  unfold lev
  rw [List.take_succ_eq_append_getElem h, List.sum_append]
  simp
theorem lev_bd (zs : List Int) (hb : ∀ j (h : j < zs.length), -1000 ≤ zs[j] ∧ zs[j] ≤ 1000) : ∀ k, k ≤ zs.length → -1000 * (k : Int) ≤ lev zs k ∧ lev zs k ≤ 1000 * k
  | 0, _ => by simp [lev]
  | k + 1, h => by
    have ih := lev_bd zs hb k (by omega)
    have := hb k (by omega)
    rw [lev_step zs k (by omega)]
    omega

set_option maxHeartbeats 1000000 in
theorem specLevel_any {w : World} {B : Nat} {A A2 : Option Addr} {n n2 : Nat} {rs : List (Int × Int × Int)} {zs : List Int} (c c2 : Nat) (h : IsWay w B A n A2 n2 rs zs) (hm : n ≤ maxLen) (i : Int) (x : Int) (b : Bool)
    (hyes : (goodW rs zs ∧ 0 ≤ i ∧ i ≤ (n : Int) - 1) → x = lev zs i.toNat ∧ b = true) (hno : ¬ (goodW rs zs ∧ 0 ≤ i ∧ i ≤ (n : Int) - 1) → x = 0 ∧ b = false) :
    Calls Try.prog 23 #[.agg #[.slice A n c, .slice A2 n2 c2], .int .i64 i] w fun e w' => e = .returned (.tuple #[.int .i64 x, .bool b]) ∧ Below w.heap.size w w' := by
  have HW := Lib.hid h
  have CR := Lib.hid (fun (o : Obj) b => l2Reach_any c c2 (h.below ((Below.refl _ w).alloc (Nat.le_refl _) o) h.low) hm i b)
  clear h
  by_cases hg : goodW rs zs ∧ 0 ≤ i ∧ i ≤ (n : Int) - 1
  · obtain ⟨rfl, rfl⟩ := hyes hg
    have R := Lib.hid (fun o => CR.out o true (fun _ => rfl) (fun g => absurd hg g))
    obtain ⟨⟨hg1, hz1, -, hz⟩, hi0, hi1⟩ : ((1 ≤ rs.length ∧ rs.length ≤ 6) ∧ zs.length + 1 = rs.length ∧ _ ∧ (∀ j (h : j < zs.length), -1000 ≤ zs[j] ∧ zs[j] ≤ 1000)) ∧ 0 ≤ i ∧ i ≤ (n : Int) - 1 := ⟨(goodW_iff rs zs).1 hg.1, hg.2⟩
    obtain ⟨k, rfl⟩ : ∃ k : Nat, i = (k : Int) := ⟨i.toNat, by omega⟩
    rw [Int.toNat_natCast]
    rw [HW.out.len] at hg1 hz1
    have HZ := Lib.hid hz
    have hkz : k ≤ zs.length := by omega
    clear CR hyes hno hg hm hz hi0
    go_enter Try.func23, Try.ntmps23
    go_wp2_with fail
    refine (R.out _).mono ?_
    rintro e w1 ⟨rfl, hb⟩
    have c1 : w1.cell? ⟨w.heap.size, 1, none⟩ = some (.slice A2 n2 c2) := (hb.cell (by simp)).trans (by rw [cellNew]; rfl)
    have B1 := Lib.hid (((Below.refl _ w).alloc (Nat.le_refl _) _).trans (hb.mono (by simp)))
    have I1 := Lib.hid (HW.out.below B1.out HW.out.low)
    clear hb R HW
    go_wp2_with fail
    go_loop [6, 7] (fun q i => ∃ j : Nat, j ≤ k ∧ i = .int .i64 j ∧ q = .int .i64 (lev zs j)) (fun _ i => k - (intOf i).toNat)
    case atStart => exact ⟨0, Nat.zero_le _, rfl, by simp [lev]⟩
    case round =>
      obtain ⟨j, hj, rfl, rfl⟩ := hrel
      obtain ⟨t0, t1⟩ := lev_bd zs HZ.out j (by omega)
      by_cases hlt : j < k
      · have hjl : j < zs.length := by omega
        obtain ⟨a1, rfl, _, e0⟩ := I1.out.has2.intAt hjl
        obtain ⟨l0, l1⟩ := HZ.out j hjl
        have HS := Lib.hid (lev_step zs j hjl)
        have hj0 : (0 : Int) ≤ (j : Int) := by omega
        have hj1 : (j : Int) < (k : Int) := by omega
        have hj2 : (j : Int) < (n2 : Int) := by have := I1.out.len2; omega
        generalize (zs[j]'hjl) = z at e0 l0 l1 HS
        generalize lev zs j = t at t0 t1 HS
        clear I1
        go_wp2_with fail
        go_round
        case rel => exact ⟨j + 1, by omega, by go_num, by rw [HS.out]⟩
        case measure => simp [intOf]; omega
      · obtain rfl : j = k := by omega
        have hlt4 : ¬ (j : Int) < (j : Int) := by omega
        clear I1
        go_wp2_with fail
        refine bodyPost_ret (results_tmp2 rfl _ _ _) rfl ?_
        exact ⟨rfl, B1.out⟩
  · obtain ⟨rfl, rfl⟩ := hno hg
    have R := Lib.hid (fun o => CR.out o false (fun g => absurd g hg) (fun _ => rfl))
    clear CR hyes hno hg
    go_enter Try.func23, Try.ntmps23
    go_wp2_with fail
    refine (R.out _).mono ?_
    rintro e w1 ⟨rfl, hb⟩
    go_wp2_with fail
    refine bodyPost_ret (results_tmp2 rfl _ _ _) rfl ?_
    exact ⟨rfl, ((Below.refl _ w).alloc (Nat.le_refl _) _).trans (hb.mono (by simp))⟩

/-- One number, as the program's lists of numbers have it. -/
theorem one_all {P : Int → Prop} {i : Int} : (∀ j (h : j < [i].length), P [i][j]) ↔ P i := ⟨fun g => g 0 (by simp), fun g j h => by
  obtain rfl : j = 0 := by simpa using h
  exact g⟩
theorem two_all {P : Int → Prop} {i k : Int} : (∀ j (h : j < [i, k].length), P [i, k][j]) ↔ P i ∧ P k := ⟨fun g => ⟨g 0 (by simp), g 1 (by simp)⟩, fun g j h => by
  match j, h with
  | 0, _ => exact g.1
  | 1, _ => exact g.2⟩

set_option maxHeartbeats 1000000 in
theorem implLevel_any {w : World} {B : Nat} {A A2 : Option Addr} {n n2 : Nat} {rs : List (Int × Int × Int)} {zs : List Int} (c c2 : Nat) (hc : n2 ≤ c2) (h : IsWay w B A n A2 n2 rs zs) (hm : n ≤ maxLen) (i : Int) (x : Int) (b : Bool)
    (hyes : (goodW rs zs ∧ 0 ≤ i ∧ i ≤ (n : Int) - 1) → x = lev zs i.toNat ∧ b = true) (hno : ¬ (goodW rs zs ∧ 0 ≤ i ∧ i ≤ (n : Int) - 1) → x = 0 ∧ b = false) :
    Calls Try.prog 22 #[.agg #[.slice A n c, .slice A2 n2 c2], .int .i64 i] w fun e w' => e = .returned (.tuple #[.int .i64 x, .bool b]) ∧ Below w.heap.size w w' := by
  have HW := Lib.hid h
  have CR := Lib.hid (fun (o : Obj) (b : Bool) (hy : (goodW rs zs ∧ 0 ≤ i ∧ i ≤ (n : Int) - 1) → b = true) (hn : ¬ (goodW rs zs ∧ 0 ≤ i ∧ i ≤ (n : Int) - 1) → b = false) =>
    hasReaches_any c c2 (h.below (((Below.refl _ w).alloc (Nat.le_refl _) o).alloc (by simp) (.cells #[.int .i64 i] 3)) h.low) hm
      (some ⟨(w.alloc o).heap.size, 0, none⟩) 1 1 ((w.alloc o).heap.size + 1) [i] rfl (by omega) (by simp) (has_new1 (w.alloc o) (.int .i64 i) 3) b (fun g => hy ⟨g.1, (one_all (P := fun z => 0 ≤ z ∧ z ≤ (n : Int) - 1)).1 g.2⟩) (fun g => hn (fun g' => g ⟨g'.1, (one_all (P := fun z => 0 ≤ z ∧ z ≤ (n : Int) - 1)).2 g'.2⟩)))
  clear h
  simp only [World.size_alloc] at CR
  by_cases hg : goodW rs zs ∧ 0 ≤ i ∧ i ≤ (n : Int) - 1
  · obtain ⟨rfl, rfl⟩ := hyes hg
    have R := Lib.hid (fun o => CR.out o true (fun _ => rfl) (fun g => absurd hg g))
    obtain ⟨⟨hg1, hz1, -, hz⟩, hi0, hi1⟩ : ((1 ≤ rs.length ∧ rs.length ≤ 6) ∧ zs.length + 1 = rs.length ∧ _ ∧ (∀ j (h : j < zs.length), -1000 ≤ zs[j] ∧ zs[j] ≤ 1000)) ∧ 0 ≤ i ∧ i ≤ (n : Int) - 1 := ⟨(goodW_iff rs zs).1 hg.1, hg.2⟩
    obtain ⟨k, rfl⟩ : ∃ k : Nat, i = (k : Int) := ⟨i.toNat, by omega⟩
    rw [Int.toNat_natCast]
    rw [HW.out.len] at hg1 hz1
    have HZ := Lib.hid hz
    have hkz : k ≤ zs.length := by omega
    have hkc : k ≤ c2 := by have := HW.out.len2; omega
    clear CR hyes hno hg hm hz hi0
    go_enter Try.func22, Try.ntmps22
    go_wp2_with fail
    refine (R.out _).mono ?_
    rintro e w1 ⟨rfl, hb⟩
    have c1 : w1.cell? ⟨w.heap.size, 1, none⟩ = some (.slice A2 n2 c2) := (hb.cell (by simp; omega)).trans ((World.cell?_alloc_lt _ _ _ (by simp)).trans (by rw [cellNew]; rfl))
    have B1 := Lib.hid ((((Below.refl _ w).alloc (Nat.le_refl _) (.cells #[.slice A n c, .slice A2 n2 c2] 27)).alloc (by simp) (.cells #[.int .i64 k] 3)).trans (hb.mono (by omega)))
    have I1 := Lib.hid (HW.out.below B1.out HW.out.low)
    clear hb R HW
    go_wp2_with fail
    go_loop [6, 19] (fun q i => ∃ j : Nat, j ≤ k ∧ i = .int .i64 j ∧ q = .int .i64 (lev zs j)) (fun _ i => k - (intOf i).toNat)
    case atStart => exact ⟨0, Nat.zero_le _, rfl, by simp [lev]⟩
    case round =>
      obtain ⟨j, hj, rfl, rfl⟩ := hrel
      obtain ⟨t0, t1⟩ := lev_bd zs HZ.out j (by omega)
      by_cases hlt : j < k
      · have hjl : j < zs.length := by omega
        obtain ⟨a1, rfl, _, e0⟩ := I1.out.has2.intAt hjl
        obtain ⟨l0, l1⟩ := HZ.out j hjl
        have HS := Lib.hid (lev_step zs j hjl)
        have hj0 : (0 : Int) ≤ (j : Int) := by omega
        have hj1 : (j : Int) < (k : Int) := by omega
        generalize (zs[j]'hjl) = z at e0 l0 l1 HS
        generalize lev zs j = t at t0 t1 HS
        clear I1
        go_wp2_with fail
        go_round
        case rel => exact ⟨j + 1, by omega, by go_num, by rw [HS.out]⟩
        case measure => simp [intOf]; omega
      · obtain rfl : j = k := by omega
        have hlt4 : ¬ (j : Int) < (j : Int) := by omega
        clear I1
        go_wp2_with fail
        refine bodyPost_ret (results_tmp2 rfl _ _ _) rfl ?_
        exact ⟨rfl, B1.out⟩
  · obtain ⟨rfl, rfl⟩ := hno hg
    have R := Lib.hid (fun o => CR.out o false (fun g => absurd g hg) (fun _ => rfl))
    clear CR hyes hno hg
    go_enter Try.func22, Try.ntmps22
    go_wp2_with fail
    refine (R.out _).mono ?_
    rintro e w1 ⟨rfl, hb⟩
    go_wp2_with fail
    refine bodyPost_ret (results_tmp2 rfl _ _ _) rfl ?_
    exact ⟨rfl, (((Below.refl _ w).alloc (Nat.le_refl _) _).alloc (by simp) _).trans (hb.mono (by omega))⟩

theorem two_LevelOf (n n2 : Nat) (rs : List (Int × Int × Int)) (zs : List Int) (i : Int) (hm : n ≤ maxLen) (_ : (Lit.int .i64 i).wf = true) : ∃ (x : Int) (y : Bool),
    (∀ (w : World) (B : Nat) (A A2 : Option Addr) (c c2 : Nat), IsWay w B A n A2 n2 rs zs → n ≤ c → n2 ≤ c2 → Calls Try.prog 23 #[.agg #[.slice A n c, .slice A2 n2 c2], .int .i64 i] w fun e w' => e = .returned (.tuple #[.int .i64 x, .bool y]) ∧ Below w.heap.size w w') ∧
    (∀ (w : World) (B : Nat) (A A2 : Option Addr) (c c2 : Nat), IsWay w B A n A2 n2 rs zs → n ≤ c → n2 ≤ c2 → Calls Try.prog 22 #[.agg #[.slice A n c, .slice A2 n2 c2], .int .i64 i] w fun e w' => e = .returned (.tuple #[.int .i64 x, .bool y]) ∧ Below w.heap.size w w') := by
  by_cases hg : goodW rs zs ∧ 0 ≤ i ∧ i ≤ (n : Int) - 1
  · exact ⟨lev zs i.toNat, true, fun w B A A2 c c2 h _ _ => specLevel_any c c2 h hm _ _ _ (fun _ => ⟨rfl, rfl⟩) (fun g => absurd hg g), fun w B A A2 c c2 h _ hc => implLevel_any c c2 hc h hm _ _ _ (fun _ => ⟨rfl, rfl⟩) (fun g => absurd hg g)⟩
  · exact ⟨0, false, fun w B A A2 c c2 h _ _ => specLevel_any c c2 h hm _ _ _ (fun g => absurd g hg) (fun _ => ⟨rfl, rfl⟩), fun w B A A2 c c2 h _ hc => implLevel_any c c2 hc h hm _ _ _ (fun g => absurd g hg) (fun _ => ⟨rfl, rfl⟩)⟩
end Go.Proofs.Ytgnopkemcgbedab
