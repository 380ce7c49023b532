/- Chapter 4: lists of numbers in lexicographic order: the model's comparison and the library's. -/
import Derived.Test.YtkdolpgnaabdaabChQ
namespace Go.Proofs.Ytkdolpgnaabdaab
open Go.RowKit Go.PlainAid Go.Sort
set_option linter.unusedVariables false
set_option linter.unusedSimpArgs false

def cmpI (x y : Int) : Int := if x < y then -1 else if y < x then 1 else 0
def cmpL : List Int → List Int → Int
  | [], [] => 0
  | [], _ :: _ => -1
  | _ :: _, [] => 1
  | a :: s, b :: t => if a = b then cmpL s t else cmpI a b
theorem cmpL_less : ∀ (a b : List Int), (0 < cmpL b a) ↔ lessL a b = true
  | [], [] => by simp [cmpL, lessL]
  | [], _ :: _ => by simp [cmpL, lessL]
  | _ :: _, [] => by simp [cmpL, lessL]
  | x :: s, y :: t => by
    simp only [cmpL, lessL]
    by_cases h : x = y
    · rw [if_pos h, if_pos h.symm]; exact cmpL_less s t
    · rw [if_neg h, if_neg (Ne.symm h)]
      unfold cmpI
      split
      · simp; omega
      · split
        · simp; omega
        · simp; omega
theorem cmpL_at : ∀ (k : Nat) (a b : List Int), k ≤ a.length → k ≤ b.length → a.take k = b.take k → cmpL a b = cmpL (a.drop k) (b.drop k)
  | 0, _, _, _, _, _ => rfl
  | k + 1, a, b, h1, h2, h => by
    cases a with
    | nil => simp at h1
    | cons x s =>
      cases b with
      | nil => simp at h2
      | cons y t =>
        simp only [List.take_succ_cons, List.cons.injEq] at h
        obtain ⟨rfl, h⟩ := h
        simp only [List.drop_succ_cons, cmpL, if_true]
        exact cmpL_at k s t (by simpa using h1) (by simpa using h2) h
theorem getI {a : List Int} {k : Nat} (h : k < a.length) : a.getD k 0 = a[k] := by
  rw [List.getD_eq_getElem?_getD, List.getElem?_eq_getElem h]
  rfl
theorem take_eq_succ {a b : List Int} {k : Nat} (h : a.take k = b.take k) (h1 : k < a.length) (h2 : k < b.length) (he : a.getD k 0 = b.getD k 0) : a.take (k + 1) = b.take (k + 1) := by
  rw [getI h1, getI h2] at he
  rw [List.take_succ_eq_append_getElem h1, List.take_succ_eq_append_getElem h2, h, he]
theorem lessL_ne {a b : List Int} {k : Nat} (h : a.take k = b.take k) (h1 : k < a.length) (h2 : k < b.length) (hn : a.getD k 0 ≠ b.getD k 0) : lessL a b = decide (a.getD k 0 < b.getD k 0) := by
  rw [lessL_at k a b (by omega) (by omega) h, List.drop_eq_getElem_cons h1, List.drop_eq_getElem_cons h2]
  rw [getI h1, getI h2] at *
  rw [lessL, if_neg hn]
theorem lessL_end {a b : List Int} {k : Nat} (h : a.take k = b.take k) (h1 : k ≤ a.length) (h2 : k ≤ b.length) (hk : k = a.length ∨ k = b.length) : lessL a b = decide (a.length < b.length) := by
  rw [lessL_at k a b h1 h2 h]
  rcases Nat.lt_or_ge k b.length with g | g
  · have : k = a.length := by omega
    subst this
    rw [List.drop_length, List.drop_eq_getElem_cons g]
    simp [lessL, g]
  · have : k = b.length := by omega
    subst this
    rw [List.drop_length]
    have : ¬ a.length < b.length := by omega
    cases a.drop b.length <;> simp [lessL, this]
theorem cmpL_ne {a b : List Int} {k : Nat} (h : a.take k = b.take k) (h1 : k < a.length) (h2 : k < b.length) (hn : a.getD k 0 ≠ b.getD k 0) : cmpL a b = cmpI (a.getD k 0) (b.getD k 0) := by
  rw [cmpL_at k a b (by omega) (by omega) h, List.drop_eq_getElem_cons h1, List.drop_eq_getElem_cons h2]
  rw [getI h1, getI h2] at *
  rw [cmpL, if_neg hn]
theorem cmpL_more {a b : List Int} {k : Nat} (h : a.take k = b.take k) (h1 : k < a.length) (h2 : k = b.length) : cmpL a b = 1 := by
  subst h2
  rw [cmpL_at b.length a b (by omega) (by omega) h, List.drop_length, List.drop_eq_getElem_cons h1, cmpL]
theorem cmpL_end {a b : List Int} {k : Nat} (h : a.take k = b.take k) (h1 : k = a.length) (h2 : k ≤ b.length) : cmpL a b = if a.length < b.length then -1 else 0 := by
  subst h1
  rw [cmpL_at a.length a b (by omega) (by omega) h, List.drop_length]
  rcases Nat.lt_or_ge a.length b.length with g | g
  · rw [List.drop_eq_getElem_cons g, cmpL, if_pos g]
  · rw [List.drop_of_length_le g, cmpL, if_neg (by omega)]
theorem cmpI_zero (x y : Int) : cmpI x y = 0 ↔ x = y := by
  unfold cmpI
  split
  · omega
  · split <;> omega
/-- The first number of several that is not zero. -/
theorem better_or (ids best : List Int) : decide (0 < (if cmpI ids.length best.length = 0 then cmpL best ids else cmpI ids.length best.length)) = betterL ids best := by
  unfold betterL
  have h := cmpL_less ids best
  rcases Nat.lt_trichotomy ids.length best.length with g | g | g
  · have e : cmpI ids.length best.length = -1 := by unfold cmpI; rw [if_pos (by omega)]
    rw [e]
    simp; omega
  · have e : cmpI ids.length best.length = 0 := by unfold cmpI; rw [if_neg (by omega), if_neg (by omega)]
    rw [e, if_pos rfl]
    simp [g, h]
  · have e : cmpI ids.length best.length = 1 := by unfold cmpI; rw [if_neg (by omega), if_pos (by omega)]
    rw [e]
    simp [g]
theorem mostN_no {c : TChamber} {hs : List THull} {k : Nat} (h : betterL (idsOf (chosen hs k)) (mostN c hs k) = false ∨ fits c (chosen hs k) = false) : mostN c hs (k + 1) = mostN c hs k := by
  rw [mostN, if_neg]
  rintro ⟨h1, h2⟩
  rcases h with h | h
  · rw [h] at h1; cases h1
  · rw [h] at h2; cases h2
theorem mostN_yes {c : TChamber} {hs : List THull} {k : Nat} (h1 : betterL (idsOf (chosen hs k)) (mostN c hs k) = true) (h2 : fits c (chosen hs k) = true) : mostN c hs (k + 1) = idsOf (chosen hs k) := by
  rw [mostN, if_pos ⟨h1, h2⟩]
theorem better_spec (ids best : List Int) : (decide (ids.length < best.length) || (decide (ids.length = best.length) && !lessL ids best)) = !betterL ids best := by
  unfold betterL
  rcases Nat.lt_trichotomy ids.length best.length with g | g | g
  · have h1 : ¬ best.length < ids.length := by omega
    have h2 : ids.length ≠ best.length := by omega
    simp [g, h1, h2]
  · simp [g]
  · have h1 : ¬ ids.length < best.length := by omega
    have h2 : ids.length ≠ best.length := by omega
    rw [decide_eq_false h1, decide_eq_false h2, decide_eq_true g]
    rfl

/-- A row of numbers. -/
theorem Has.numAt {w : World} {B : Nat} {A : Option Addr} {zs : List Int} (h : Has w B A (zs.map (.int .i64))) {k : Nat} (hk : k < zs.length) :
    ∃ a, A = some a ∧ a.block < B ∧ w.cell? (a.add k) = some (.int .i64 (zs.getD k 0)) := by
  rw [getI hk]
  exact h.intAt hk

set_option maxRecDepth 100000 in
set_option maxHeartbeats 1000000 in
theorem l4Less_any {w : World} {B : Nat} {A1 A2 : Option Addr} (n1 n2 c1 c2 : Nat) (a b : List Int) (h1 : a.length = n1) (h2 : b.length = n2) (hm1 : n1 ≤ 1000) (hm2 : n2 ≤ 1000) (hB : B ≤ w.heap.size) (ha : Has w B A1 (a.map (.int .i64))) (hb : Has w B A2 (b.map (.int .i64))) :
    Calls Try.prog 64 #[.slice A1 n1 c1, .slice A2 n2 c2] w fun e w' => e = .returned (.bool (lessL a b)) ∧ Below w.heap.size w w' := by
  have HA := Lib.hid ha
  have HB := Lib.hid hb
  have H1 := Lib.hid h1
  have H2 := Lib.hid h2
  have HNE := Lib.hid (fun k => lessL_ne (a := a) (b := b) (k := k))
  have HEN := Lib.hid (fun k => lessL_end (a := a) (b := b) (k := k))
  obtain ⟨R, hR⟩ : ∃ R, lessL a b = R := ⟨_, rfl⟩
  rw [hR] at HNE HEN ⊢
  clear ha hb h1 h2 hR
  go_enter Try.func64, Try.ntmps64
  go_wp2_with fail
  go_loopw [5] (fun i wr => ∃ k : Nat, k ≤ n1 ∧ k ≤ n2 ∧ i = .int .i64 k ∧ Hid (a.take k = b.take k) ∧ Below w.heap.size w wr) (fun i _ => n1 - (intOf i).toNat)
  case atStart => exact ⟨0, Nat.zero_le _, Nat.zero_le _, rfl, Lib.hid rfl, Below.refl _ _⟩
  case round =>
    obtain ⟨k, hk1, hk2, rfl, ht, hq⟩ := hrel
    by_cases hl1 : (k : Int) < (n1 : Int)
    · by_cases hl2 : (k : Int) < (n2 : Int)
      · have hka : k < a.length := by rw [H1.out]; omega
        have hkb : k < b.length := by rw [H2.out]; omega
        obtain ⟨a1, rfl, _, e1⟩ := (HA.out.below (hq.mono hB)).numAt hka
        obtain ⟨a2, rfl, _, e2⟩ := (HB.out.below (hq.mono hB)).numAt hkb
        have HTS := Lib.hid (take_eq_succ ht.out hka hkb)
        have HNk := Lib.hid (HNE.out k ht.out hka hkb)
        generalize a.getD k 0 = x at e1 HTS HNk
        generalize b.getD k 0 = y at e2 HTS HNk
        have hk0 : (0 : Int) ≤ (k : Int) := by omega
        have Q := Lib.hid hq
        have E1 := fun (d : Nat) (os : Array Obj) => cell_regrown e1 d os
        have E2 := fun (d : Nat) (os : Array Obj) => cell_regrown e2 d os
        clear hq e1 e2 HNE HEN
        by_cases hxy : x = y
        · have hxb : (x != y) = false := by simp [hxy]
          have HT := Lib.hid (HTS.out hxy)
          clear HTS HNk hxy
          go_wp2
          refine wp_region_quiet_below (by kernel_rfl) (by kernel_rfl) ?_
          repeat (go_big_quiet_step (first | exact trivial))
          refine wpQuiet_nil ?_
          intro _ hw'
          obtain ⟨⟨dq, osq⟩, hw''⟩ := hw'
          subst hw''
          have Q2 := Lib.hid (Q.out.trans ((below_regrown wr dq osq).mono Q.out.size))
          clear E1 E2
          go_wp2
          go_roundw
          case rel => exact ⟨k + 1, by omega, by omega, by go_num, HT, Q2.out⟩
          case measure => simp [intOf]; omega
        · have hxb : (x != y) = true := by simp [hxy]
          obtain rfl : R = decide (x < y) := HNk.out hxy
          clear HTS HNk hxy
          go_wp2
          refine wp_region_quiet_below (by kernel_rfl) (by kernel_rfl) ?_
          repeat (go_big_quiet_step (first | exact trivial))
          refine wpQuiet_nil ?_
          intro _ hw'
          obtain ⟨⟨dq, osq⟩, hw''⟩ := hw'
          subst hw''
          have Q2 := Lib.hid (Q.out.trans ((below_regrown wr dq osq).mono Q.out.size))
          have F1 := fun (d : Nat) (os : Array Obj) => cell_regrown (E1 dq osq) d os
          have F2 := fun (d : Nat) (os : Array Obj) => cell_regrown (E2 dq osq) d os
          obtain ⟨W3, hW3⟩ : ∃ W, grow (redrawn wr dq) osq = W := ⟨_, rfl⟩
          rw [hW3] at Q2 F1 F2
          simp only [hW3]
          clear hW3 E1 E2
          go_wp2
          refine wp_region_quiet_below (by kernel_rfl) (by kernel_rfl) ?_
          repeat (go_big_quiet_step (first | exact trivial))
          refine wpQuiet_nil ?_
          intro _ hw'
          obtain ⟨⟨dq, osq⟩, hw''⟩ := hw'
          subst hw''
          have Q3 := Lib.hid (Q2.out.trans ((below_regrown W3 dq osq).mono Q2.out.size))
          clear F1 F2
          go_wp2
          go_ret
          exact ⟨rfl, Q3.out⟩
      · obtain rfl : R = decide (n1 < n2) := by rw [← H1.out, ← H2.out]; exact HEN.out k ht.out (by rw [H1.out]; exact hk1) (by rw [H2.out]; exact hk2) (.inr (by rw [H2.out]; omega))
        clear HNE HEN ht
        go_wp2_with fail
        go_ret
        exact ⟨by simp, hq⟩
    · obtain rfl : R = decide (n1 < n2) := by rw [← H1.out, ← H2.out]; exact HEN.out k ht.out (by rw [H1.out]; exact hk1) (by rw [H2.out]; exact hk2) (.inl (by rw [H1.out]; omega))
      clear HNE HEN ht
      go_wp2_with fail
      go_ret
      exact ⟨by simp, hq⟩

theorem isNaN_any (x : Int) (w : World) : Calls Try.prog 87 #[.int .i64 x] w fun e w' => e = .returned (.bool false) ∧ w = w' := by
  have h : (x != x) = false := by simp
  go_enter Try.func87, Try.ntmps87
  go_wp2
  go_ret
  exact ⟨rfl, rfl⟩
set_option maxHeartbeats 400000 in
theorem cmpInt_any (x y : Int) (w : World) : Calls Try.prog 58 #[.int .i64 x, .int .i64 y] w fun e w' => e = .returned (.int .i64 (cmpI x y)) ∧ w = w' := by
  have C := Lib.hid (fun z W => isNaN_any z W)
  unfold cmpI
  by_cases h1 : x < y
  · rw [if_pos h1]
    go_enter Try.func58, Try.ntmps58
    go_wp2_with fail
    refine (C.out _ _).mono ?_
    rintro e w1 ⟨rfl, rfl⟩
    go_wp2_with fail
    refine (C.out _ _).mono ?_
    rintro e w1 ⟨rfl, rfl⟩
    go_wp2_with fail
    go_ret
    exact ⟨rfl, rfl⟩
  · rw [if_neg h1]
    by_cases h2 : y < x
    · rw [if_pos h2]
      go_enter Try.func58, Try.ntmps58
      go_wp2_with fail
      refine (C.out _ _).mono ?_
      rintro e w1 ⟨rfl, rfl⟩
      go_wp2_with fail
      refine (C.out _ _).mono ?_
      rintro e w1 ⟨rfl, rfl⟩
      go_wp2_with fail
      go_ret
      exact ⟨rfl, rfl⟩
    · rw [if_neg h2]
      go_enter Try.func58, Try.ntmps58
      go_wp2_with fail
      refine (C.out _ _).mono ?_
      rintro e w1 ⟨rfl, rfl⟩
      go_wp2_with fail
      refine (C.out _ _).mono ?_
      rintro e w1 ⟨rfl, rfl⟩
      go_wp2_with fail
      go_ret
      exact ⟨rfl, rfl⟩

set_option maxRecDepth 100000 in
set_option maxHeartbeats 1000000 in
theorem sliceCmp_any {w : World} {B : Nat} {A1 A2 : Option Addr} (n1 n2 c1 c2 : Nat) (a b : List Int) (h1 : a.length = n1) (h2 : b.length = n2) (hm1 : n1 ≤ 1000) (hm2 : n2 ≤ 1000) (hB : B ≤ w.heap.size) (ha : Has w B A1 (a.map (.int .i64))) (hb : Has w B A2 (b.map (.int .i64))) :
    Calls Try.prog 59 #[.slice A1 n1 c1, .slice A2 n2 c2] w fun e w' => e = .returned (.int .i64 (cmpL a b)) ∧ Below w.heap.size w w' := by
  have HA := Lib.hid ha
  have HB := Lib.hid hb
  have H1 := Lib.hid h1
  have H2 := Lib.hid h2
  have CC := Lib.hid (fun x y W => cmpInt_any x y W)
  have HNE := Lib.hid (fun k => cmpL_ne (a := a) (b := b) (k := k))
  have HMO := Lib.hid (fun k => cmpL_more (a := a) (b := b) (k := k))
  have HEN := Lib.hid (fun k => cmpL_end (a := a) (b := b) (k := k))
  obtain ⟨R, hR⟩ : ∃ R, cmpL a b = R := ⟨_, rfl⟩
  rw [hR] at HNE HEN HMO ⊢
  clear ha hb h1 h2 hR
  go_enter Try.func59, Try.ntmps59
  go_wp2_with fail
  go_loopw [11] (fun i wr => ∃ k : Nat, k ≤ n1 ∧ k ≤ n2 ∧ i = .int .i64 k ∧ Hid (a.take k = b.take k) ∧ Below w.heap.size w wr) (fun i _ => n1 - (intOf i).toNat)
  case atStart => exact ⟨0, Nat.zero_le _, Nat.zero_le _, rfl, Lib.hid rfl, Below.refl _ _⟩
  case round =>
    obtain ⟨k, hk1, hk2, rfl, ht, hq⟩ := hrel
    have hk0 : (0 : Int) ≤ (k : Int) := by omega
    by_cases hl1 : (k : Int) < (n1 : Int)
    · have hka : k < a.length := by rw [H1.out]; omega
      obtain ⟨a1, rfl, _, e1⟩ := (HA.out.below (hq.mono hB)).numAt hka
      by_cases hl2 : (k : Int) < (n2 : Int)
      · have hkb : k < b.length := by rw [H2.out]; omega
        obtain ⟨a2, rfl, _, e2⟩ := (HB.out.below (hq.mono hB)).numAt hkb
        have HTS := Lib.hid (take_eq_succ ht.out hka hkb)
        have HNk := Lib.hid (HNE.out k ht.out hka hkb)
        generalize a.getD k 0 = x at e1 HTS HNk
        generalize b.getD k 0 = y at e2 HTS HNk
        have hzz := cmpI_zero x y
        have CCk := Lib.hid (CC.out x y)
        by_cases hxy : x = y
        · have HT := Lib.hid (HTS.out hxy)
          have hz := hzz.2 hxy
          rw [hz] at CCk
          clear HTS HNk hxy HNE HEN HMO hzz hz CC
          go_wp2_with fail
          refine (CCk.out _).mono ?_
          rintro e w1 ⟨rfl, rfl⟩
          go_wp2_with fail
          go_roundw
          case rel => exact ⟨k + 1, by omega, by omega, by go_num, HT, hq⟩
          case measure => simp [intOf]; omega
        · have hRx : R = cmpI x y := HNk.out hxy
          have hz : (cmpI x y != 0) = true := by
            rw [bne_iff_ne]
            exact fun h => hxy (hzz.1 h)
          rw [← hRx] at hz CCk
          clear HTS HNk hxy hRx HNE HEN HMO hzz CC
          go_wp2_with fail
          refine (CCk.out _).mono ?_
          rintro e w1 ⟨rfl, rfl⟩
          go_wp2_with fail
          go_ret
          exact ⟨rfl, hq⟩
      · obtain rfl : R = 1 := HMO.out k ht.out hka (by rw [H2.out]; omega)
        have hge : (n2 : Int) ≤ (k : Int) := by omega
        clear HNE HEN HMO CC
        go_wp2_with fail
        go_ret
        exact ⟨rfl, hq⟩
    · have hR : R = if n1 < n2 then -1 else 0 := by rw [← H1.out, ← H2.out]; exact HEN.out k ht.out (by rw [H1.out]; omega) (by rw [H2.out]; exact hk2)
      have HRE := Lib.hid hR
      clear HNE HEN HMO CC ht hR
      by_cases hnn : (n1 : Int) < (n2 : Int)
      · obtain rfl : R = -1 := by rw [HRE.out, if_pos (by omega)]
        go_wp2_with fail
        go_ret
        exact ⟨rfl, hq⟩
      · obtain rfl : R = 0 := by rw [HRE.out, if_neg (by omega)]
        go_wp2_with fail
        go_ret
        exact ⟨rfl, hq⟩
end Go.Proofs.Ytkdolpgnaabdaab
