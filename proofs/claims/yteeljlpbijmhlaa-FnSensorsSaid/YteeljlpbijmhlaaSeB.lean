/- Chapter 6, the program: series, the greatest and the smallest level. -/
import Derived.Test.YteeljlpbijmhlaaSeA
import Derived.Test.YteeljlpbijmhlaaStk
namespace Go.Proofs.Yteeljlpbijmhlaa
open Go.RowKit Go.PlainAid Go.Sort
set_option linter.unusedVariables false
set_option linter.unusedSimpArgs false

/-- All are levels. -/
def allL (zs : List Int) : Prop := ∀ z ∈ zs, 0 ≤ z ∧ z ≤ 2000
instance (zs : List Int) : Decidable (allL zs) := by unfold allL; infer_instance
theorem allL_getD {zs : List Int} (h : allL zs) (i : Nat) : 0 ≤ zs.getD i 0 ∧ zs.getD i 0 ≤ 2000 := by
  rw [List.getD_eq_getElem?_getD]
  by_cases hi : i < zs.length
  · rw [List.getElem?_eq_getElem hi]
    exact h _ (List.getElem_mem hi)
  · rw [List.getElem?_eq_none (by omega)]
    simp
theorem mx_in {zs : List Int} (h : allL zs) (k : Nat) : 0 ≤ mxK zs k ∧ mxK zs k ≤ 2000 := by
  obtain ⟨j, -, e⟩ := mxK_mem zs k
  rw [e]
  exact allL_getD h j
theorem mn_in {zs : List Int} (h : allL zs) (k : Nat) : 0 ≤ mnK zs k ∧ mnK zs k ≤ 2000 := by
  obtain ⟨j, -, e⟩ := mnK_mem zs k
  rw [e]
  exact allL_getD h j
theorem intGet {w : World} {B : Nat} {A : Option Addr} {zs : List Int} (h : Has w B A (zs.map (.int .i64))) {k : Nat} (hk : k < zs.length) :
    ∃ a, A = some a ∧ a.block < B ∧ w.cell? (a.add k) = some (.int .i64 (zs.getD k 0)) := by
  obtain ⟨a, e, hb, hc⟩ := h.intAt hk
  exact ⟨a, e, hb, by rw [hc]; simp [List.getD_eq_getElem?_getD, hk]⟩
theorem has_drop {w : World} {B : Nat} {a : Addr} {xs : List Value} (h : Has w B (some a) xs) (b : Nat) : Has w B (some (a.add b)) (xs.drop b) := by
  intro j u hu
  rw [List.getElem?_drop] at hu
  obtain ⟨a', e, hb', hc⟩ := h _ _ hu
  injection e with e
  subst e
  exact ⟨_, rfl, by rw [addBlock]; exact hb', by rw [Go.Deep.add_add]; exact hc⟩
theorem has_take {w : World} {B : Nat} {A : Option Addr} {xs : List Value} (h : Has w B A xs) (m : Nat) : Has w B A (xs.take m) := by
  intro j u hu
  rw [List.getElem?_take] at hu
  split at hu
  · exact h _ _ hu
  · cases hu

set_option maxHeartbeats 1000000 in
theorem areIn6_any (A : Option Addr) (n c B : Nat) (zs : List Int) (w : World) (hn : zs.length = n) (hm : n ≤ 1048576) (h : Has w B A (zs.map (.int .i64))) :
    Calls Try.prog 61 #[.int .i64 0, .int .i64 2000, .slice A n c] w fun e w' => e = .returned (.bool (decide (allL zs))) ∧ w = w' := by
  have CI := Lib.hid (fun (z : Int) W => inRange_any z 0 2000 W)
  have HL := Lib.hid hn
  have H := Lib.hid h
  obtain ⟨b, hb⟩ : ∃ b, decide (allL zs) = b := ⟨_, rfl⟩
  rw [hb]
  have HN : Hid (∀ q, q < n → ¬ (0 ≤ zs.getD q 0 ∧ zs.getD q 0 ≤ 2000) → b = false) := Lib.hid (fun q hq hz => by
    rw [← hb]
    refine decide_eq_false fun hs => hz (allL_getD hs q))
  have HY : Hid ((∀ q, q < n → 0 ≤ zs.getD q 0 ∧ zs.getD q 0 ≤ 2000) → b = true) := Lib.hid (fun hz => by
    rw [← hb]
    refine decide_eq_true (fun z hz2 => ?_)
    obtain ⟨q, hq, rfl⟩ := List.getElem_of_mem hz2
    have := hz q (by omega)
    simpa [List.getD_eq_getElem?_getD, hq] using this)
  clear hb hn h
  go_enter Try.func61, Try.ntmps61
  go_wp2_with fail
  go_loop [11] (fun i => ∃ q : Nat, q ≤ n ∧ i = .int .i64 q ∧ Hid (∀ j, j < q → 0 ≤ zs.getD j 0 ∧ zs.getD j 0 ≤ 2000)) (fun i => n - (intOf i).toNat)
  case atStart => exact ⟨0, Nat.zero_le _, rfl, Lib.hid (fun j hj => absurd hj (by omega))⟩
  case round =>
    obtain ⟨q, hq, rfl, hall⟩ := hrel
    by_cases hlt : q < n
    · obtain ⟨a2, rfl, hab2, ez⟩ := intGet H.out (k := q) (by rw [HL.out]; exact hlt)
      have HF2 := Lib.hid (HN.out q hlt)
      have HA2 : Hid ((0 ≤ zs.getD q 0 ∧ zs.getD q 0 ≤ 2000) → ∀ j, j < q + 1 → 0 ≤ zs.getD j 0 ∧ zs.getD j 0 ≤ 2000) := Lib.hid (fun h j hj => by
        rcases Nat.lt_succ_iff_lt_or_eq.1 hj with h1 | h1
        · exact hall.out j h1
        · subst h1; exact h)
      generalize zs.getD q 0 = z at ez HF2 HA2
      have CZ := Lib.hid (fun W => CI.out z W)
      have hq0 : (0 : Int) ≤ (q : Int) := by omega
      have hq1 : (q : Int) < (n : Int) := by omega
      clear hall HN HY CI H
      by_cases hz : 0 ≤ z ∧ z ≤ 2000
      · rw [decide_eq_true hz] at CZ
        have HR := Lib.hid (HA2.out hz)
        clear HF2 HA2 hz
        go_wp2_with fail
        refine (CZ.out _).mono ?_
        rintro e w3 ⟨rfl, rfl⟩
        go_wp2_with fail
        go_round
        case rel => exact ⟨q + 1, by omega, by go_num, HR⟩
        case measure => simp [intOf]; omega
      · rw [decide_eq_false hz] at CZ
        obtain rfl : b = false := HF2.out hz
        clear HF2 HA2 hz
        go_wp2_with fail
        refine (CZ.out _).mono ?_
        rintro e w3 ⟨rfl, rfl⟩
        go_wp2_with fail
        go_ret
        exact ⟨rfl, rfl⟩
    · obtain rfl : q = n := by omega
      obtain rfl : b = true := HY.out (fun j h => hall.out j h)
      clear hall HN CI H
      go_wp2_with fail
      go_ret
      exact ⟨rfl, rfl⟩

set_option maxHeartbeats 1000000 in
theorem isSeries_any (A : Option Addr) (n c B : Nat) (zs : List Int) (w : World) (hn : zs.length = n) (hm : n ≤ 1048576) (h : Has w B A (zs.map (.int .i64))) :
    Calls Try.prog 74 #[.slice A n c] w fun e w' => e = .returned (.bool (decide (serS zs))) ∧ w = w' := by
  have C := Lib.hid (fun W hW => areIn6_any A n c B zs W hn hm hW)
  have H := Lib.hid h
  by_cases h20 : n ≤ 20
  · have e : decide (serS zs) = decide (allL zs) := decide_eq_decide.2 ⟨fun h => h.1, fun h => ⟨h, by omega⟩⟩
    rw [e]
    have hd : decide ((n : Int) ≤ 20) = true := by simp; omega
    generalize decide (allL zs) = b at C ⊢
    clear hn h e
    go_enter Try.func74, Try.ntmps74
    go_wp2_with fail
    refine (C.out _ H.out).mono ?_
    rintro e w1 ⟨rfl, rfl⟩
    go_wp2_with fail
    go_ret
    exact ⟨rfl, rfl⟩
  · have e : decide (serS zs) = false := decide_eq_false fun h => h20 (by rw [← hn]; exact h.2)
    rw [e]
    have hd : decide ((n : Int) ≤ 20) = false := by simp; omega
    clear hn h e C H
    go_enter Try.func74, Try.ntmps74
    go_wp2_with fail
    go_ret
    exact ⟨rfl, rfl⟩

theorem ite_mx6 (x y : Int) : (if x < y then y else x) = max x y := by split <;> omega
theorem ite_mn6 (x y : Int) : (if y < x then y else x) = min x y := by split <;> omega
set_option maxHeartbeats 1000000 in
theorem max6_any (A : Option Addr) (n c B : Nat) (zs : List Int) (w : World) (hn : zs.length = n) (hm : n ≤ 1048576) (h0 : 0 < n) (h : Has w B A (zs.map (.int .i64))) :
    Calls Try.prog 71 #[.slice A n c] w fun e w' => e = .returned (.int .i64 (mxK zs (n - 1))) ∧ w = w' := by
  have HL := Lib.hid hn
  have H := Lib.hid h
  obtain ⟨a2, rfl, hab2, ez⟩ := intGet h (k := 0) (by omega)
  rw [show a2.add 0 = a2 from rfl] at ez
  have hn1 : ¬ ((n : Int) < 1) := by omega
  have HZ : Hid (zs.getD 0 0 = mxK zs 0) := Lib.hid rfl
  clear hn h
  generalize zs.getD 0 0 = z0 at ez HZ
  go_enter Try.func71, Try.ntmps71
  go_wp2_with fail
  go_loop [3, 4] (fun m i => ∃ q : Nat, 1 ≤ q ∧ q ≤ n ∧ i = .int .i64 q ∧ m = .int .i64 (mxK zs (q - 1))) (fun _ i => n - (intOf i).toNat)
  case atStart => exact ⟨1, Nat.le_refl _, by omega, rfl, by rw [HZ.out]⟩
  case round =>
    obtain ⟨q, hq1, hq, rfl, rfl⟩ := hrel
    by_cases hlt : q < n
    · obtain ⟨a3, e3, hab3, ez3⟩ := intGet H.out (k := q) (by rw [HL.out]; exact hlt)
      injection e3 with e3
      subst e3
      have HS : Hid (max (mxK zs (q - 1)) (zs.getD q 0) = mxK zs (q + 1 - 1)) := Lib.hid (by
        obtain ⟨p, rfl⟩ : ∃ p, q = p + 1 := ⟨q - 1, by omega⟩
        rfl)
      generalize zs.getD q 0 = z at ez3 HS
      generalize mxK zs (q - 1) = m at HS ⊢
      have hq0 : (0 : Int) ≤ (q : Int) := by omega
      have hq1' : (q : Int) < (n : Int) := by omega
      clear H ez HZ
      go_wp2_with fail
      go_round
      case rel => exact ⟨q + 1, by omega, by omega, by go_num, by rw [← HS.out, ite_mx6]⟩
      case measure => simp [intOf]; omega
    · obtain rfl : q = n := by omega
      clear H ez HZ
      go_wp2_with fail
      go_ret
      exact ⟨rfl, rfl⟩
set_option maxHeartbeats 1000000 in
theorem min6_any (A : Option Addr) (n c B : Nat) (zs : List Int) (w : World) (hn : zs.length = n) (hm : n ≤ 1048576) (h0 : 0 < n) (h : Has w B A (zs.map (.int .i64))) :
    Calls Try.prog 96 #[.slice A n c] w fun e w' => e = .returned (.int .i64 (mnK zs (n - 1))) ∧ w = w' := by
  have HL := Lib.hid hn
  have H := Lib.hid h
  obtain ⟨a2, rfl, hab2, ez⟩ := intGet h (k := 0) (by omega)
  rw [show a2.add 0 = a2 from rfl] at ez
  have hn1 : ¬ ((n : Int) < 1) := by omega
  have HZ : Hid (zs.getD 0 0 = mnK zs 0) := Lib.hid rfl
  clear hn h
  generalize zs.getD 0 0 = z0 at ez HZ
  go_enter Try.func96, Try.ntmps96
  go_wp2_with fail
  go_loop [3, 4] (fun m i => ∃ q : Nat, 1 ≤ q ∧ q ≤ n ∧ i = .int .i64 q ∧ m = .int .i64 (mnK zs (q - 1))) (fun _ i => n - (intOf i).toNat)
  case atStart => exact ⟨1, Nat.le_refl _, by omega, rfl, by rw [HZ.out]⟩
  case round =>
    obtain ⟨q, hq1, hq, rfl, rfl⟩ := hrel
    by_cases hlt : q < n
    · obtain ⟨a3, e3, hab3, ez3⟩ := intGet H.out (k := q) (by rw [HL.out]; exact hlt)
      injection e3 with e3
      subst e3
      have HS : Hid (min (mnK zs (q - 1)) (zs.getD q 0) = mnK zs (q + 1 - 1)) := Lib.hid (by
        obtain ⟨p, rfl⟩ : ∃ p, q = p + 1 := ⟨q - 1, by omega⟩
        rfl)
      generalize zs.getD q 0 = z at ez3 HS
      generalize mnK zs (q - 1) = m at HS ⊢
      have hq0 : (0 : Int) ≤ (q : Int) := by omega
      have hq1' : (q : Int) < (n : Int) := by omega
      clear H ez HZ
      go_wp2_with fail
      go_round
      case rel => exact ⟨q + 1, by omega, by omega, by go_num, by rw [← HS.out, ite_mn6]⟩
      case measure => simp [intOf]; omega
    · obtain rfl : q = n := by omega
      clear H ez HZ
      go_wp2_with fail
      go_ret
      exact ⟨rfl, rfl⟩

set_option maxHeartbeats 400000 in
/-- The difference of the greatest and the smallest of some levels. -/
theorem spread_any (A : Option Addr) (n c B : Nat) (zs : List Int) (w : World) (hn : zs.length = n) (hm : n ≤ 1048576) (h0 : 0 < n) (ha : allL zs) (h : Has w B A (zs.map (.int .i64))) :
    Calls Try.prog 75 #[.slice A n c] w fun e w' => e = .returned (.int .i64 (sprd zs)) ∧ w = w' := by
  have C1 := Lib.hid (fun W hW => max6_any A n c B zs W hn hm h0 hW)
  have C2 := Lib.hid (fun W hW => min6_any A n c B zs W hn hm h0 hW)
  have H := Lib.hid h
  have hx := mx_in ha (n - 1)
  have hy := mn_in ha (n - 1)
  unfold sprd
  rw [hn]
  generalize mxK zs (n - 1) = x at C1 hx ⊢
  generalize mnK zs (n - 1) = y at C2 hy ⊢
  clear hn h ha
  go_enter Try.func75, Try.ntmps75
  go_wp2_with fail
  refine (C1.out _ H.out).mono ?_
  rintro e w1 ⟨rfl, rfl⟩
  go_wp2_with fail
  refine (C2.out _ H.out).mono ?_
  rintro e w1 ⟨rfl, rfl⟩
  go_wp2_with fail
  refine bodyPost_ret (results_tmp rfl _ _ _) rfl ?_
  exact ⟨ret_int (by go_num), rfl⟩
end Go.Proofs.Yteeljlpbijmhlaa
