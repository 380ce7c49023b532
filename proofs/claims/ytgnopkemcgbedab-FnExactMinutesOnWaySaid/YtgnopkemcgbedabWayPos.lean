/- Chapter 2: numbers of reaches, places; the level of a reach, the reach of a place: the program's and the model's. -/
import Derived.Test.YtgnopkemcgbedabWayNum
namespace Go.Proofs.Ytgnopkemcgbedab
open Go.RowKit Go.PlainAid

set_option maxHeartbeats 1000000 in
theorem hasReaches_any {w : World} {B : Nat} {A A2 : Option Addr} {n n2 : Nat} {rs : List (Int × Int × Int)} {zs : List Int} (c c2 : Nat) (h : IsWay w B A n A2 n2 rs zs) (hm : n ≤ maxLen)
    (D : Option Addr) (m cd BD : Nat) (ns : List Int) (hD : ns.length = m) (hm2 : m ≤ 1000) (hBD : BD ≤ w.heap.size) (hh : Has w BD D (ns.map (.int .i64))) (b : Bool)
    (hyes : (goodW rs zs ∧ ∀ j (h : j < ns.length), 0 ≤ ns[j] ∧ ns[j] ≤ (n : Int) - 1) → b = true) (hno : ¬ (goodW rs zs ∧ ∀ j (h : j < ns.length), 0 ≤ ns[j] ∧ ns[j] ≤ (n : Int) - 1) → b = false) :
    Calls Try.prog 64 #[.agg #[.slice A n c, .slice A2 n2 c2], .slice D m cd] w fun e w' => e = .returned (.bool b) ∧ Below w.heap.size w w' := by
  have HG := Lib.hid (fun (b : Bool) (hy : goodW rs zs → b = true) (hn : ¬ goodW rs zs → b = false) (o : Obj) => (good_two c c2 (h.below ((Below.refl _ w).alloc (Nat.le_refl _) o) h.low) hm b hy hn).2)
  have HLen := Lib.hid h.len
  clear h
  by_cases hg : goodW rs zs
  · have G := Lib.hid (HG.out true (fun _ => rfl) (fun h => absurd hg h))
    have hn6 : n ≤ 6 := by rw [← HLen.out]; exact hg.1.2
    have AI := Lib.hid (fun W (hW : Below w.heap.size w W) => areIn_any D m cd BD ns 0 ((n : Int) - 1) W b hD hm2 (hh.below (hW.mono hBD)) (fun g => hyes ⟨hg, g⟩) (fun g => hno (fun g' => g g'.2)))
    clear hno HG hg hyes hm hh hD
    go_enter Try.func64, Try.ntmps64
    go_wp2_with fail
    refine (G.out _).mono ?_
    rintro e w1 ⟨rfl, hb⟩
    have c0 : w1.cell? ⟨w.heap.size, 0, none⟩ = some (.slice A n c) := (hb.cell (by simp)).trans (by rw [cellNew]; rfl)
    have B1 := Lib.hid (((Below.refl _ w).alloc (Nat.le_refl _) _).trans (hb.mono (by simp)))
    clear hb G
    go_wp2_with fail
    refine (AI.out _ B1.out).mono ?_
    rintro e w2 ⟨rfl, rfl⟩
    go_wp2_with fail
    go_ret
    exact ⟨rfl, B1.out⟩
  · have G := Lib.hid (HG.out false (fun h => absurd h hg) (fun _ => rfl))
    obtain rfl : b = false := hno (fun g => hg g.1)
    clear HG hyes hno hh hD
    go_enter Try.func64, Try.ntmps64
    go_wp2_with fail
    refine (G.out _).mono ?_
    rintro e w1 ⟨rfl, hb⟩
    go_wp2_with fail
    go_ret
    exact ⟨rfl, ((Below.refl _ w).alloc (Nat.le_refl _) _).trans (hb.mono (by simp))⟩
set_option maxHeartbeats 1000000 in
theorem hasPlaces_any {w : World} {B : Nat} {A A2 : Option Addr} {n n2 : Nat} {rs : List (Int × Int × Int)} {zs : List Int} (c c2 : Nat) (h : IsWay w B A n A2 n2 rs zs) (hm : n ≤ maxLen)
    (D : Option Addr) (m cd BD : Nat) (ns : List Int) (hD : ns.length = m) (hm2 : m ≤ 1000) (hBD : BD ≤ w.heap.size) (hh : Has w BD D (ns.map (.int .i64))) (b : Bool)
    (hyes : (goodW rs zs ∧ ∀ j (h : j < ns.length), 0 ≤ ns[j] ∧ ns[j] ≤ tot rs n) → b = true) (hno : ¬ (goodW rs zs ∧ ∀ j (h : j < ns.length), 0 ≤ ns[j] ∧ ns[j] ≤ tot rs n) → b = false) :
    Calls Try.prog 55 #[.agg #[.slice A n c, .slice A2 n2 c2], .slice D m cd] w fun e w' => e = .returned (.bool b) ∧ Below w.heap.size w w' := by
  have HG := Lib.hid (fun (x : Int) (b : Bool) (hy : goodW rs zs → x = tot rs n ∧ b = true) (hn : ¬ goodW rs zs → x = 0 ∧ b = false) (o : Obj) => implTotal_any c c2 (h.below ((Below.refl _ w).alloc (Nat.le_refl _) o) h.low) hm x b hy hn)
  clear h
  by_cases hg : goodW rs zs
  · have G := Lib.hid (HG.out (tot rs n) true (fun _ => ⟨rfl, rfl⟩) (fun h => absurd hg h))
    have AI := Lib.hid (fun W (hW : Below w.heap.size w W) => areIn_any D m cd BD ns 0 (tot rs n) W b hD hm2 (hh.below (hW.mono hBD)) (fun g => hyes ⟨hg, g⟩) (fun g => hno (fun g' => g g'.2)))
    clear hno HG hg hyes hm hh hD
    go_enter Try.func55, Try.ntmps55
    go_wp2_with fail
    refine (G.out _).mono ?_
    rintro e w1 ⟨rfl, hb⟩
    have B1 := Lib.hid (((Below.refl _ w).alloc (Nat.le_refl _) _).trans (hb.mono (by simp)))
    clear hb G
    go_wp2_with fail
    refine (AI.out _ B1.out).mono ?_
    rintro e w2 ⟨rfl, rfl⟩
    go_wp2_with fail
    go_ret
    exact ⟨rfl, B1.out⟩
  · have G := Lib.hid (HG.out 0 false (fun h => absurd h hg) (fun _ => ⟨rfl, rfl⟩))
    obtain rfl : b = false := hno (fun g => hg g.1)
    clear HG hyes hno hh hD
    go_enter Try.func55, Try.ntmps55
    go_wp2_with fail
    refine (G.out _).mono ?_
    rintro e w1 ⟨rfl, hb⟩
    go_wp2_with fail
    go_ret
    exact ⟨rfl, ((Below.refl _ w).alloc (Nat.le_refl _) _).trans (hb.mono (by simp))⟩
set_option maxHeartbeats 1000000 in
theorem l2Reach_any {w : World} {B : Nat} {A A2 : Option Addr} {n n2 : Nat} {rs : List (Int × Int × Int)} {zs : List Int} (c c2 : Nat) (h : IsWay w B A n A2 n2 rs zs) (hm : n ≤ maxLen) (i : Int) (b : Bool)
    (hyes : (goodW rs zs ∧ 0 ≤ i ∧ i ≤ (n : Int) - 1) → b = true) (hno : ¬ (goodW rs zs ∧ 0 ≤ i ∧ i ≤ (n : Int) - 1) → b = false) :
    Calls Try.prog 65 #[.agg #[.slice A n c, .slice A2 n2 c2], .int .i64 i] w fun e w' => e = .returned (.bool b) ∧ Below w.heap.size w w' := by
  have HG := Lib.hid (fun (b : Bool) (hy : goodW rs zs → b = true) (hn : ¬ goodW rs zs → b = false) (o : Obj) => (good_two c c2 (h.below ((Below.refl _ w).alloc (Nat.le_refl _) o) h.low) hm b hy hn).1)
  have HLen := Lib.hid h.len
  clear h
  by_cases hg : goodW rs zs
  · have G := Lib.hid (HG.out true (fun _ => rfl) (fun h => absurd hg h))
    have hn6 : n ≤ 6 := by rw [← HLen.out]; exact hg.1.2
    have hb0 : decide (0 ≤ i ∧ i ≤ (n : Int) - 1) = b := by
      by_cases hi : 0 ≤ i ∧ i ≤ (n : Int) - 1
      · rw [decide_eq_true hi, hyes ⟨hg, hi⟩]
      · rw [decide_eq_false hi, hno (fun g => hi g.2)]
    have AI := Lib.hid (fun W => hb0 ▸ l1In_any i 0 ((n : Int) - 1) W)
    clear hno HG hg hyes hm hb0
    go_enter Try.func65, Try.ntmps65
    go_wp2_with fail
    refine (G.out _).mono ?_
    rintro e w1 ⟨rfl, hb⟩
    have c0 : w1.cell? ⟨w.heap.size, 0, none⟩ = some (.slice A n c) := (hb.cell (by simp)).trans (by rw [cellNew]; rfl)
    have B1 := Lib.hid (((Below.refl _ w).alloc (Nat.le_refl _) _).trans (hb.mono (by simp)))
    clear hb G
    go_wp2_with fail
    refine (AI.out _).mono ?_
    rintro e w2 ⟨rfl, rfl⟩
    go_wp2_with fail
    go_ret
    exact ⟨rfl, B1.out⟩
  · have G := Lib.hid (HG.out false (fun h => absurd h hg) (fun _ => rfl))
    obtain rfl : b = false := hno (fun g => hg g.1)
    clear HG hyes hno
    go_enter Try.func65, Try.ntmps65
    go_wp2_with fail
    refine (G.out _).mono ?_
    rintro e w1 ⟨rfl, hb⟩
    go_wp2_with fail
    go_ret
    exact ⟨rfl, ((Below.refl _ w).alloc (Nat.le_refl _) _).trans (hb.mono (by simp))⟩
set_option maxHeartbeats 1000000 in
theorem l2Place_any {w : World} {B : Nat} {A A2 : Option Addr} {n n2 : Nat} {rs : List (Int × Int × Int)} {zs : List Int} (c c2 : Nat) (h : IsWay w B A n A2 n2 rs zs) (hm : n ≤ maxLen) (i : Int) (b : Bool)
    (hyes : (goodW rs zs ∧ 0 ≤ i ∧ i ≤ tot rs n) → b = true) (hno : ¬ (goodW rs zs ∧ 0 ≤ i ∧ i ≤ tot rs n) → b = false) :
    Calls Try.prog 52 #[.agg #[.slice A n c, .slice A2 n2 c2], .int .i64 i] w fun e w' => e = .returned (.bool b) ∧ Below w.heap.size w w' := by
  have HG := Lib.hid (fun (b : Bool) (hy : goodW rs zs → b = true) (hn : ¬ goodW rs zs → b = false) (o : Obj) => (good_two c c2 (h.below ((Below.refl _ w).alloc (Nat.le_refl _) o) h.low) hm b hy hn).1)
  have HW := Lib.hid h
  clear h
  by_cases hg : goodW rs zs
  · have G := Lib.hid (HG.out true (fun _ => rfl) (fun h => absurd hg h))
    have hn6 : n ≤ 1000 := by rw [← HW.out.len]; exact Nat.le_trans hg.1.2 (by omega)
    have HB := Lib.hid (goodW_len hg)
    have hb0 : decide (0 ≤ i ∧ i ≤ tot rs n) = b := by
      by_cases hi : 0 ≤ i ∧ i ≤ tot rs n
      · rw [decide_eq_true hi, hyes ⟨hg, hi⟩]
      · rw [decide_eq_false hi, hno (fun g => hi g.2)]
    have AI := Lib.hid (fun W => hb0 ▸ l1In_any i 0 (tot rs n) W)
    clear hno HG hg hyes hm hb0
    go_enter Try.func52, Try.ntmps52
    go_wp2_with fail
    refine (G.out _).mono ?_
    rintro e w1 ⟨rfl, hb⟩
    have c0 : w1.cell? ⟨w.heap.size, 0, none⟩ = some (.slice A n c) := (hb.cell (by simp)).trans (by rw [cellNew]; rfl)
    have c1 : w1.cell? ⟨w.heap.size, 1, none⟩ = some (.slice A2 n2 c2) := (hb.cell (by simp)).trans (by rw [cellNew]; rfl)
    have B1 := Lib.hid (((Below.refl _ w).alloc (Nat.le_refl _) _).trans (hb.mono (by simp)))
    have I1 := HW.out.below B1.out HW.out.low
    have T := Lib.hid (l2Total_any A A2 n c n2 c2 B rs w1 I1.len hn6 HB.out I1.low I1.has)
    clear hb G HW I1
    go_wp2_with fail
    refine T.out.mono ?_
    rintro e w2 ⟨rfl, hb⟩
    have B2 := Lib.hid (B1.out.trans (hb.mono B1.out.size))
    clear hb
    go_wp2_with fail
    refine (AI.out _).mono ?_
    rintro e w3 ⟨rfl, rfl⟩
    go_wp2_with fail
    go_ret
    exact ⟨rfl, B2.out⟩
  · have G := Lib.hid (HG.out false (fun h => absurd h hg) (fun _ => rfl))
    obtain rfl : b = false := hno (fun g => hg g.1)
    clear HG hyes hno
    go_enter Try.func52, Try.ntmps52
    go_wp2_with fail
    refine (G.out _).mono ?_
    rintro e w1 ⟨rfl, hb⟩
    go_wp2_with fail
    go_ret
    exact ⟨rfl, ((Below.refl _ w).alloc (Nat.le_refl _) _).trans (hb.mono (by simp))⟩
/-- Where a place lies: i is the first reach that does not end before it. -/
structure PlaceAt (rs : List (Int × Int × Int)) (p : Int) (i : Nat) : Prop where
  lt : i < rs.length
  le : p ≤ tot rs (i + 1)
  first : ∀ j, j < i → tot rs (j + 1) < p
theorem placeAt_of (rs : List (Int × Int × Int)) (p : Int) : ∀ m, m ≤ rs.length → 0 < m → p ≤ tot rs m → ∃ i, PlaceAt rs p i
  | m + 1, hm, _, hp => by
    by_cases h : 0 < m ∧ p ≤ tot rs m
    · exact placeAt_of rs p m (by omega) h.1 h.2
    · by_cases hq : ∃ j, j < m ∧ p ≤ tot rs (j + 1)
      · obtain ⟨j, hj, hjp⟩ := hq
        exact placeAt_of rs p (j + 1) (by omega) (by omega) hjp
      · exact ⟨m, by omega, hp, fun j hj => by
          rcases Int.lt_or_le (tot rs (j + 1)) p with h1 | h1
          · exact h1
          · exact absurd ⟨j, hj, h1⟩ hq⟩
  termination_by m => m
theorem placeAt_unique {rs : List (Int × Int × Int)} {p : Int} {i j : Nat} (h : PlaceAt rs p i) (g : PlaceAt rs p j) : i = j := by
  have h1 := h.le
  have h2 := g.le
  rcases Nat.lt_trichotomy i j with a | a | a
  · have := g.first i a; omega
  · exact a
  · have := h.first j a; omega

set_option maxHeartbeats 1000000 in
theorem l2At_any {w : World} {B : Nat} {A A2 : Option Addr} {n n2 : Nat} {rs : List (Int × Int × Int)} {zs : List Int} (c c2 : Nat) (h : IsWay w B A n A2 n2 rs zs) (hb : ∀ r ∈ rs, 0 ≤ r.1 ∧ r.1 ≤ 1000) (hm : n ≤ 1000) (p : Int) (h0 : 0 ≤ p) (hp : p ≤ 1000000) (i : Nat) (hi : PlaceAt rs p i) :
    Calls Try.prog 53 #[.agg #[.slice A n c, .slice A2 n2 c2], .int .i64 p] w fun e w' => e = .returned (.int .i64 (i : Int)) ∧ Below w.heap.size w w' := by
  have HB := Lib.hid hb
  have HW := Lib.hid (fun (o : Obj) => h.below ((Below.refl _ w).alloc (Nat.le_refl _) o) h.low)
  have HL := Lib.hid h.len
  have HI := Lib.hid hi
  clear h hb hi
  go_enter Try.func53, Try.ntmps53
  go_wp2_with fail
  go_loop [1, 5] (fun q j => ∃ k : Nat, k ≤ i ∧ j = .int .i64 k ∧ q = .int .i64 (p - tot rs k)) (fun _ j => i - (intOf j).toNat)
  case atStart => exact ⟨0, Nat.zero_le _, rfl, by simp [tot]⟩
  case round =>
    obtain ⟨k, hk, rfl, rfl⟩ := hrel
    have hkl : k < rs.length := by have := HI.out.lt; omega
    obtain ⟨a1, rfl, _, e0, -, -⟩ := (HW.out (.cells #[.slice A n c, .slice A2 n2 c2] 27)).has.reachAt hkl
    obtain ⟨t0, t1⟩ := tot_bd rs HB.out k (by omega)
    have hk6 : k < n := by rw [← HL.out]; exact hkl
    obtain ⟨l0, l1⟩ := HB.out _ (List.getElem_mem hkl)
    have HS := Lib.hid (tot_step rs k hkl)
    have hk0 : (0 : Int) ≤ (k : Int) := by omega
    have hk1 : (k : Int) < (n : Int) := by omega
    by_cases hlt : k < i
    · have hgt : (rs[k]'hkl).1 < p - tot rs k := by have := HI.out.first k hlt; have := HS.out; omega
      generalize (rs[k]'hkl).1 = l at e0 l0 l1 HS hgt
      generalize tot rs k = t at t0 t1 HS hgt
      clear HW
      go_wp2_with fail
      go_round
      case rel => exact ⟨k + 1, by omega, by go_num, by rw [HS.out]; go_num⟩
      case measure => simp [intOf]; omega
    · obtain rfl : k = i := by omega
      have hgt : ¬ (rs[k]'hkl).1 < p - tot rs k := by have := HI.out.le; have := HS.out; omega
      generalize (rs[k]'hkl).1 = l at e0 l0 l1 HS hgt
      generalize tot rs k = t at t0 t1 HS hgt
      clear HW
      go_wp2_with fail
      go_ret
      exact ⟨rfl, (Below.refl _ w).alloc (Nat.le_refl _) _⟩
end Go.Proofs.Ytgnopkemcgbedab
