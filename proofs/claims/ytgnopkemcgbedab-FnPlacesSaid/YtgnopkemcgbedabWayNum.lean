/- Chapter 2: the length of a waterway; whether numbers are those of its reaches or places: the program's and the model's. -/
import Derived.Test.YtgnopkemcgbedabWayWay
namespace Go.Proofs.Ytgnopkemcgbedab
open Go.RowKit Go.PlainAid

theorem goodW_len {rs : List (Int × Int × Int)} {zs : List Int} (h : goodW rs zs) : ∀ r ∈ rs, 0 ≤ r.1 ∧ r.1 ≤ 1000 := by
  intro r hr
  obtain ⟨j, hj, rfl⟩ := List.getElem_of_mem hr
  have := ((goodW_iff rs zs).1 h).2.2.1 j hj
  unfold goodR at this
  omega
theorem has_new1 (w : World) (x : Value) (t : TypeId) : Has (w.alloc (.cells #[x] t)) (w.heap.size + 1) (some ⟨w.heap.size, 0, none⟩) [x] := by
  intro k u hu
  match k, hu with
  | 0, hu => exact ⟨_, rfl, Nat.lt_succ_self _, by rw [show (⟨w.heap.size, 0, none⟩ : Addr).add 0 = ⟨w.heap.size, 0, none⟩ from rfl, cellNew]; exact hu⟩
theorem has_new2 (w : World) (x y : Value) (t : TypeId) : Has (w.alloc (.cells #[x, y] t)) (w.heap.size + 1) (some ⟨w.heap.size, 0, none⟩) [x, y] := by
  intro k u hu
  match k, hu with
  | 0, hu => exact ⟨_, rfl, Nat.lt_succ_self _, by rw [show (⟨w.heap.size, 0, none⟩ : Addr).add 0 = ⟨w.heap.size, 0, none⟩ from rfl, cellNew]; exact hu⟩
  | 1, hu => exact ⟨_, rfl, Nat.lt_succ_self _, by rw [show (⟨w.heap.size, 0, none⟩ : Addr).add 1 = ⟨w.heap.size, 1, none⟩ from rfl, cellNew]; exact hu⟩

set_option maxHeartbeats 1000000 in
theorem areIn_any (A : Option Addr) (n c B : Nat) (zs : List Int) (lo hi : Int) (w : World) (b : Bool) (hn : zs.length = n) (hm : n ≤ 1000) (h : Has w B A (zs.map (.int .i64)))
    (hyes : (∀ j (h : j < zs.length), lo ≤ zs[j] ∧ zs[j] ≤ hi) → b = true) (hno : (¬ ∀ j (h : j < zs.length), lo ≤ zs[j] ∧ zs[j] ≤ hi) → b = false) :
    Calls Try.prog 78 #[.int .i64 lo, .int .i64 hi, .slice A n c] w fun e w' => e = .returned (.bool b) ∧ w = w' := by
  have CI := Lib.hid (fun (z : Int) W => inRange_any z lo hi W)
  have HY := Lib.hid hyes
  have HN := Lib.hid hno
  have HL := Lib.hid hn
  have H := Lib.hid h
  clear hyes hno hn h
  go_enter Try.func78, Try.ntmps78
  go_wp2_with fail
  go_loop [11] (fun i => ∃ q : Nat, q ≤ n ∧ i = .int .i64 q ∧ Hid (∀ j (h : j < zs.length), j < q → lo ≤ zs[j] ∧ zs[j] ≤ hi)) (fun i => n - (intOf i).toNat)
  case atStart => exact ⟨0, Nat.zero_le _, rfl, Lib.hid (by simp)⟩
  case round =>
    obtain ⟨q, hq, rfl, hall2⟩ := hrel
    by_cases hlt3 : q < n
    · have hql : q < zs.length := by rw [HL.out]; exact hlt3
      obtain ⟨a2, rfl, hab2, ez⟩ := H.out.intAt (k := q) hql
      have HF2 : Hid (¬ (lo ≤ zs[q] ∧ zs[q] ≤ hi) → b = false) := Lib.hid (fun h => HN.out (fun g => h (g q hql)))
      have HA2 : Hid ((lo ≤ zs[q] ∧ zs[q] ≤ hi) → ∀ j (h : j < zs.length), j < q + 1 → lo ≤ zs[j] ∧ zs[j] ≤ hi) := Lib.hid (fun h j hj hj2 => by
        rcases Nat.lt_succ_iff_lt_or_eq.1 hj2 with h1 | h1
        · exact hall2.out j hj h1
        · subst h1; exact h)
      have CZ := Lib.hid (fun W => CI.out zs[q] W)
      generalize zs[q] = z at ez HF2 HA2 CZ
      have hq0 : (0 : Int) ≤ (q : Int) := by omega
      have hq1 : (q : Int) < (n : Int) := by omega
      clear hall2 HN HY CI H
      by_cases hz : lo ≤ z ∧ z ≤ hi
      · rw [decide_eq_true hz] at CZ
        have HR := Lib.hid (HA2.out hz)
        clear HF2 HA2 hz
        go_wp2_with fail
        refine (CZ.out _).mono ?_
        rintro e w3 ⟨rfl, rfl⟩
        go_wp2_with fail
        go_round
        case rel => exact ⟨q + 1, by omega, by go_num, HR⟩
        case measure => simp [intOf]; omega
      · rw [decide_eq_false hz] at CZ
        obtain rfl : b = false := HF2.out hz
        clear HF2 HA2 hz
        go_wp2_with fail
        refine (CZ.out _).mono ?_
        rintro e w3 ⟨rfl, rfl⟩
        go_wp2_with fail
        go_ret
        exact ⟨rfl, rfl⟩
    · obtain rfl : q = n := by omega
      obtain rfl : b = true := HY.out (fun j h => hall2.out j h (by rw [HL.out] at h; exact h))
      have hlt4 : ¬ (q : Int) < (q : Int) := by omega
      clear hall2 HN HY H
      go_wp2_with fail
      go_ret
      exact ⟨rfl, rfl⟩

set_option maxHeartbeats 1000000 in
theorem implTotal_any {w : World} {B : Nat} {A A2 : Option Addr} {n n2 : Nat} {rs : List (Int × Int × Int)} {zs : List Int} (c c2 : Nat) (h : IsWay w B A n A2 n2 rs zs) (hm : n ≤ maxLen) (x : Int) (b : Bool)
    (hyes : goodW rs zs → x = tot rs n ∧ b = true) (hno : ¬ goodW rs zs → x = 0 ∧ b = false) :
    Calls Try.prog 95 #[.agg #[.slice A n c, .slice A2 n2 c2]] w fun e w' => e = .returned (.tuple #[.int .i64 x, .bool b]) ∧ Below w.heap.size w w' := by
  have HG := Lib.hid (fun (b : Bool) (hy : goodW rs zs → b = true) (hn : ¬ goodW rs zs → b = false) (o : Obj) => (good_two c c2 (h.below ((Below.refl _ w).alloc (Nat.le_refl _) o) h.low) hm b hy hn).2)
  have HW := Lib.hid h
  clear h
  by_cases hg : goodW rs zs
  · obtain ⟨rfl, rfl⟩ := hyes hg
    have G := Lib.hid (HG.out true (fun _ => rfl) (fun h => absurd hg h))
    have HB := Lib.hid (goodW_len hg)
    have hn6 : n ≤ 6 := by rw [← HW.out.len]; exact hg.1.2
    clear hno HG hg hyes hm
    go_enter Try.func95, Try.ntmps95
    go_wp2_with fail
    refine (G.out _).mono ?_
    rintro e w1 ⟨rfl, hb⟩
    have c0 : w1.cell? ⟨w.heap.size, 0, none⟩ = some (.slice A n c) := (hb.cell (by simp)).trans (by rw [cellNew]; rfl)
    have I1 := Lib.hid (HW.out.below (((Below.refl _ w).alloc (Nat.le_refl _) _).trans (hb.mono (by simp))) HW.out.low)
    have B1 := Lib.hid (((Below.refl _ w).alloc (Nat.le_refl _) _).trans (hb.mono (by simp)))
    clear hb G HW
    go_wp2_with fail
    go_loopw [4, 13] (fun q i wr => ∃ k : Nat, k ≤ n ∧ i = .int .i64 k ∧ q = .int .i64 (tot rs k) ∧ Below w1.heap.size w1 wr) (fun _ i _ => n - (intOf i).toNat)
    case atStart => exact ⟨0, Nat.zero_le _, rfl, by simp [tot], Below.refl _ _⟩
    case round =>
      obtain ⟨k, hk, rfl, rfl, hb⟩ := hrel
      by_cases hlt : k < n
      · have hkl : k < rs.length := by rw [I1.out.len]; exact hlt
        obtain ⟨a1, rfl, _, e0, e1, e2⟩ := (I1.out.below hb I1.out.low).has.reachAt hkl
        obtain ⟨t0, t1⟩ := tot_bd rs HB.out k (by omega)
        obtain ⟨l0, l1⟩ := HB.out _ (List.getElem_mem hkl)
        have HS := Lib.hid (tot_step rs k hkl)
        obtain ⟨f1, f2⟩ := reach_forms e1 e2
        generalize (rs[k]'hkl).1 = l at e0 l0 l1 HS
        generalize tot rs k = t at t0 t1 HS
        have hk0 : (0 : Int) ≤ (k : Int) := by omega
        have hk1 : (k : Int) < (n : Int) := by omega
        have HBw := Lib.hid (hb.alloc hb.size)
        clear I1 e1 e2 hb
        go_wp2
        go_roundw
        case rel => exact ⟨k + 1, by omega, by go_num, by rw [HS.out], HBw.out _⟩
        case measure => simp [intOf]; omega
      · obtain rfl : k = n := by omega
        have hlt4 : ¬ (k : Int) < (k : Int) := by omega
        clear I1
        go_wp2_with fail
        refine bodyPost_ret (results_tmp2 rfl _ _ _) rfl ?_
        exact ⟨rfl, B1.out.trans (hb.mono B1.out.size)⟩
  · obtain ⟨rfl, rfl⟩ := hno hg
    have G := Lib.hid (HG.out false (fun h => absurd h hg) (fun _ => rfl))
    clear HG hyes hno
    go_enter Try.func95, Try.ntmps95
    go_wp2_with fail
    refine (G.out _).mono ?_
    rintro e w1 ⟨rfl, hb⟩
    go_wp2_with fail
    refine bodyPost_ret (results_tmp2 rfl _ _ _) rfl ?_
    exact ⟨rfl, ((Below.refl _ w).alloc (Nat.le_refl _) _).trans (hb.mono (by simp))⟩
end Go.Proofs.Ytgnopkemcgbedab
