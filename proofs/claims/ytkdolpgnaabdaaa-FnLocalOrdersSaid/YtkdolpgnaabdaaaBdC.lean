/- Chapter 9: the queue bound of the program, the lower bound, gaps, proven orders. -/
import Derived.Test.YtkdolpgnaabdaaaBdB
import Derived.Test.YtkdolpgnaabdaaaLkL
namespace Go.Proofs.Ytkdolpgnaabdaaa
open Go.RowKit Go.PlainAid Go.Sort
set_option linter.unusedVariables false
set_option linter.unusedSimpArgs false
attribute [local go_sem] ite_mx7 ite_mx ite_mn7 ite_mn

set_option maxRecDepth 100000 in
set_option maxHeartbeats 4000000 in
theorem queueI_any {w : World} {B : Nat} {A : Option Addr} {n : Nat} {vs : List TArrival} (c : Nat) (h : IsArrivals w B A n vs) (hm : n ≤ 1048576) (m : Int) (z : Int) (x : Bool) (hA : QueueA vs m z x) :
    Calls Try.prog 17 #[.slice A n c, .int .i64 m] w fun e w' => e = .returned (.tuple #[.int .i64 z, .bool x]) ∧ Below w.heap.size w w' := by
  have C : Hid (Calls Try.prog 47 #[.slice A n c, .int .i64 m] w fun e w' => e = .returned (.bool (gM vs m)) ∧ Below w.heap.size w w') := Lib.hid (canLock_any c h hm m)
  have HI := Lib.hid h
  obtain ⟨hx, hz⟩ := hA
  obtain ⟨K, hK⟩ : ∃ K, gM vs m = K := ⟨_, rfl⟩
  rw [hK] at C hx hz
  subst hx
  have HK := Lib.hid hK
  have HZ := Lib.hid hz
  clear h hK hz
  go_enter Try.func17, Try.ntmps17
  go_wp2_with fail
  refine C.out.mono ?_
  rintro e w1 ⟨rfl, hb⟩
  have HB1 := Lib.hid hb
  clear hb C
  cases x with
  | false =>
    obtain rfl : z = 0 := HZ.out
    go_wp2_with fail
    refine bodyPost_ret (results_tmp2 rfl _ _ _) rfl ?_
    exact ⟨rfl, HB1.out⟩
  | true =>
  have HGM := Lib.hid ((gM_iff vs m).1 HK.out)
  have hn6 : n ≤ 6 := by rw [← HI.out.len]; exact HGM.out.1.1
  replace HZ : Hid (z = quL vs m (comeO vs)) := Lib.hid HZ.out
  clear HK
  have HN6 := Lib.hid hn6
  have hcA := comeA_comeO vs
  rw [gAs_yes HGM.out.1] at hcA
  have HCI := Lib.hid (come_in HGM.out.1 HI.out.len)
  have CF := Lib.hid (comeI_any c (HI.out.below HB1.out HI.out.low) hm _ true hcA n HCI.out.1)
  clear hcA
  go_wp2_with fail
  refine CF.out.mono ?_
  rintro e w2 ⟨g9, c9, rfl, hown, hb⟩
  have HO := Lib.hid (own_IsIs hown)
  have HB2 := Lib.hid (HB1.out.trans (hb.mono HB1.out.size))
  clear hown hb CF HB1
  obtain ⟨os, hos⟩ : ∃ os, comeO vs = os := ⟨_, rfl⟩
  rw [hos] at HO HCI
  have HEND : Hid (∀ fr su wt, quSt vs m (os.take n) = (fr, su, wt) → wt * su = z) := Lib.hid (fun fr su wt e => by rw [HZ.out, hos]; unfold quL; rw [← HO.out.len, List.take_length] at e; rw [e])
  clear hos
  have HR := Lib.hid HCI.out.2.1
  have HGA := Lib.hid HCI.out.2.2
  have HQB := Lib.hid (fun k (hk : k ≤ os.length) => quSt_bd (vs := vs) (m := m) (os := os) HGM.out.2 (fun p hp => HGA.out p (by rw [← HO.out.len]; exact hp)) k hk)
  clear HCI
  go_wp2_with fail
  go_loopw [8, 9, 10, 26] (fun f s t i wr => ∃ (k : Nat) (fr su wt : Int), quSt vs m (os.take k) = (fr, su, wt) ∧ k ≤ n ∧ i = .int .i64 k ∧ f = .int .i64 fr ∧ s = .int .i64 su ∧ t = .int .i64 wt ∧ Below w2.heap.size w2 wr) (fun _ _ _ i _ => n - (intOf i).toNat)
  case atStart => exact ⟨0, 0, 0, 9, rfl, Nat.zero_le _, rfl, rfl, rfl, rfl, Below.refl _ _⟩
  case round =>
    obtain ⟨k, fr, su, wt, hst, hk, rfl, rfl, rfl, rfl, hbo⟩ := hrel
    have HST := Lib.hid hst
    have HBO := Lib.hid hbo
    have hb := HB2.out.trans (hbo.mono HB2.out.size)
    clear hst
    by_cases hlt : k < n
    · skip
      have hB := HQB.out k (by rw [HO.out.len]; omega)
      rw [HST.out] at hB
      dsimp only at hB
      have hgk := HGA.out k hlt
      obtain ⟨a2, ea2, -, f0⟩ := Has.numAt (HO.out.below hbo HO.out.low).has (k := k) (by rw [HO.out.len]; exact hlt)
      injection ea2 with ea2
      subst ea2
      obtain ⟨j, hj, hjn⟩ := inA_nat (HR.out k hlt)
      have HSX := Lib.hid (fun V (ea : atA vs (j : Int) = V) b (eb : max fr V.x2 = b) => quSt_next (by rw [HO.out.len]; exact hlt) HST.out hj ea b eb)
      rw [hj, atA_cast] at hgk
      rw [hj] at f0
      obtain ⟨a1, rfl, -, HV⟩ := (HI.out.below hb HI.out.low).has.Arrival (k := j) (by rw [HI.out.len]; exact hjn)
      replace HSX := Lib.hid (HSX.out _ (atA_cast vs j))
      generalize vs.getD j noArrival = V at HV hgk HSX
      obtain ⟨d, u, mi, g⟩ := V
      obtain ⟨e0, e1, e2, e3⟩ := HV
      dsimp only at e0 e1 e2 e3 hgk
      replace HSX : Hid (∀ b, max fr mi = b → quSt vs m (os.take (k + 1)) = (b + m, su + (b - mi), min wt g)) := HSX
      obtain ⟨-, hg2, hg3⟩ := hgk
      dsimp only at hg2 hg3
      have f1 := f0
      rw [addO, Nat.zero_add] at f1
      have hk0 : (0 : Int) ≤ (k : Int) := by omega
      have hk1 : (k : Int) < (n : Int) := by omega
      have hj0 : (0 : Int) ≤ (j : Int) := by omega
      have hj1 : (j : Int) < (n : Int) := by omega
      have hn6 := HN6.out
      have hmm := HGM.out.2
      have hfr2 : fr ≤ 10359 := by omega
      have hfr0 : 0 ≤ fr := by omega
      have hsu0 : 0 ≤ su := by omega
      have hsu1 : su ≤ 62154 := by have := Int.mul_le_mul_of_nonneg_left (show (k : Int) ≤ 6 by omega) (show (0 : Int) ≤ 9999 + 60 * (os.length : Int) by omega); have := HO.out.len; omega
      have hwt0 : 1 ≤ wt ∧ wt ≤ 9 := by omega
      have hmx : 0 ≤ max fr mi ∧ max fr mi ≤ 10719 ∧ mi ≤ max fr mi := by omega
      have hmn : 1 ≤ min wt g ∧ min wt g ≤ 9 := by omega
      clear hB hbo hj
      have hlx := HO.out.low
      have HB := Lib.hid hb
      clear hb
      have HS2 := Lib.hid (HSX.out _ rfl)
      have HBN := Lib.hid (HBO.out.alloc HBO.out.size (.cells #[.int .i64 d, .bool u, .int .i64 mi, .int .i64 g] 58))
      clear HSX
      go_wp2_with fail
      go_roundw
      case rel => exact ⟨k + 1, _, _, _, HS2.out, by omega, by go_num, rfl, rfl, rfl, HBN.out⟩
      case measure => simp [intOf]; omega
    · obtain rfl : k = n := by omega
      have hB := HQB.out k (by rw [HO.out.len]; exact Nat.le_refl _)
      rw [HST.out] at hB
      dsimp only at hB
      have hsu1 : su ≤ 62154 := by have := HN6.out; have := Int.mul_le_mul_of_nonneg_left (show (k : Int) ≤ 6 by omega) (show (0 : Int) ≤ 9999 + 60 * (os.length : Int) by omega); have := HO.out.len; omega
      have hp : 0 ≤ wt * su ∧ wt * su ≤ 600000 := by
        refine ⟨Int.mul_nonneg (by omega) hB.2.1.1, ?_⟩
        have := Int.mul_le_mul_of_nonneg_right (show wt ≤ 9 by omega) hB.2.1.1
        omega
      have HE := Lib.hid (HEND.out _ _ _ HST.out)
      have HB := Lib.hid hb
      clear hB hbo hb
      go_wp2_with fail
      refine bodyPost_ret (results_tmp2 rfl _ _ _) rfl ?_
      exact ⟨by rw [← HE.out]; rfl, HB.out⟩
set_option maxRecDepth 100000 in
set_option maxHeartbeats 2000000 in
theorem l9Lower_any {w : World} {B : Nat} {A : Option Addr} {n : Nat} {vs : List TArrival} (c : Nat) (h : IsArrivals w B A n vs) (hnc : n ≤ c) (hg : goodAs vs) (hi : Bool) (m : Int) (hmm : 1 ≤ m ∧ m ≤ 60) :
    Calls Try.prog 46 #[.slice A n c, .bool hi, .int .i64 m] w fun e w' => e = .returned (.int .i64 (lowL vs hi m)) ∧ Below w.heap.size w w' := by
  have C1 := Lib.hid (l9Alone_any c h (by rw [← h.len]; exact hg.1) hnc hg hi m hmm)
  have C2 := Lib.hid (fun W (hb : Below w.heap.size w W) => l9Queue_any c (h.below hb h.low) hg m hmm)
  have HL : Hid (lowL vs hi m = max (alS vs hi m n) (quL vs m (comeO vs))) := Lib.hid (by rw [← h.len]; rfl)
  have HB0 := Lib.hid (Below.refl w.heap.size w)
  clear h hg
  go_enter Try.func46, Try.ntmps46
  go_wp2_with fail
  refine C1.out.mono ?_
  rintro e w1 ⟨rfl, hb⟩
  have HB1 := Lib.hid (HB0.out.trans (hb.mono HB0.out.size))
  clear hb C1 HB0
  have C3 := Lib.hid (C2.out _ HB1.out)
  go_wp2_with fail
  refine C3.out.mono ?_
  rintro e w2 ⟨rfl, hb⟩
  have HB2 := Lib.hid (HB1.out.trans (hb.mono HB1.out.size))
  clear hb C3 HB1
  go_wp2_with fail
  refine (l1Most_any _ _ _).mono ?_
  rintro e w3 ⟨rfl, rfl⟩
  go_wp2_with fail
  go_ret
  exact ⟨ret_int HL.out.symm, HB2.out⟩
set_option maxRecDepth 100000 in
set_option maxHeartbeats 2000000 in
theorem lowS_any {w : World} {B : Nat} {A : Option Addr} {n : Nat} {vs : List TArrival} (c : Nat) (h : IsArrivals w B A n vs) (hm : n ≤ 1048576) (hnc : n ≤ c) (hi : Bool) (m : Int) (z : Int) (x : Bool) (hA : LowA vs hi m z x) :
    Calls Try.prog 15 #[.slice A n c, .bool hi, .int .i64 m] w fun e w' => e = .returned (.tuple #[.int .i64 z, .bool x]) ∧ Below w.heap.size w w' := by
  have C := Lib.hid (asked_any c h hm m)
  have HI := Lib.hid h
  obtain ⟨hx, hz⟩ := hA
  obtain ⟨K, hK⟩ : ∃ K, gM vs m = K := ⟨_, rfl⟩
  rw [hK] at C hx hz
  subst hx
  have HK := Lib.hid hK
  have HZ := Lib.hid hz
  clear h hK hz
  go_enter Try.func15, Try.ntmps15
  go_wp2_with fail
  refine C.out.mono ?_
  rintro e w1 ⟨rfl, hb⟩
  have HB1 := Lib.hid hb
  clear hb C
  cases x with
  | false =>
    obtain rfl : z = 0 := HZ.out
    go_wp2_with fail
    refine bodyPost_ret (results_tmp2 rfl _ _ _) rfl ?_
    exact ⟨rfl, HB1.out⟩
  | true =>
  have HGM := Lib.hid ((gM_iff vs m).1 HK.out)
  have hn6 : n ≤ 6 := by rw [← HI.out.len]; exact HGM.out.1.1
  replace HZ : Hid (z = lowL vs hi m) := Lib.hid HZ.out
  clear HK
  have CT := Lib.hid (l9Lower_any c (HI.out.below HB1.out HI.out.low) hnc HGM.out.1 hi m HGM.out.2)
  go_wp2_with fail
  refine CT.out.mono ?_
  rintro e w3 ⟨rfl, hb⟩
  have HB3 := Lib.hid (HB1.out.trans (hb.mono HB1.out.size))
  clear hb CT HB1
  go_wp2_with fail
  refine bodyPost_ret (results_tmp2 rfl _ _ _) rfl ?_
  exact ⟨by rw [HZ.out]; rfl, HB3.out⟩
theorem low_of {vs : List TArrival} {hi : Bool} {m a q : Int} {x y : Bool} (h1 : AloneA vs hi m a x) (h2 : QueueA vs m q y) {z : Int} {v : Bool} (h3 : LowA vs hi m z v) : z = max a q ∧ v = x := by
  obtain ⟨rfl, rfl⟩ := h1
  obtain ⟨rfl, rfl⟩ := h2
  obtain ⟨rfl, rfl⟩ := h3
  refine ⟨?_, rfl⟩
  cases gM vs m with
  | true => rfl
  | false => rfl
set_option maxRecDepth 100000 in
set_option maxHeartbeats 2000000 in
theorem lowI_any {w : World} {B : Nat} {A : Option Addr} {n : Nat} {vs : List TArrival} (c : Nat) (h : IsArrivals w B A n vs) (hm : n ≤ 1048576) (hi : Bool) (m : Int) (z : Int) (x : Bool) (hA : LowA vs hi m z x) :
    Calls Try.prog 14 #[.slice A n c, .bool hi, .int .i64 m] w fun e w' => e = .returned (.tuple #[.int .i64 z, .bool x]) ∧ Below w.heap.size w w' := by
  obtain ⟨a, x1, h1⟩ := aloneA_ex vs hi m
  obtain ⟨q, x2, h2⟩ := queueA_ex vs m
  have C1 := Lib.hid (aloneI_any c h hm hi m a x1 h1)
  have C2 := Lib.hid (fun W (hb : Below w.heap.size w W) => queueI_any c (h.below hb h.low) hm m q x2 h2)
  obtain ⟨rfl, rfl⟩ := low_of h1 h2 hA
  have HB0 := Lib.hid (Below.refl w.heap.size w)
  clear h hA h1 h2
  go_enter Try.func14, Try.ntmps14
  go_wp2_with fail
  refine C1.out.mono ?_
  rintro e w1 ⟨rfl, hb⟩
  have HB1 := Lib.hid (HB0.out.trans (hb.mono HB0.out.size))
  clear hb C1 HB0
  have C3 := Lib.hid (C2.out _ HB1.out)
  go_wp2_with fail
  refine C3.out.mono ?_
  rintro e w2 ⟨rfl, hb⟩
  have HB2 := Lib.hid (HB1.out.trans (hb.mono HB1.out.size))
  clear hb C3 HB1
  go_wp2_with fail
  refine bodyPost_ret (results_tmp2 rfl _ _ _) rfl ?_
  exact ⟨rfl, HB2.out⟩
theorem gap_of {vs : List TArrival} {hi : Bool} {m : Int} {os : List Int} {d z : Int} {y x : Bool} (hD : DelayA vs hi m os d y) (hA : GapA vs hi m os z x) : x = y ∧ (y = true → ∃ l, LowA vs hi m l true ∧ z = d - l ∧ (0 ≤ d ∧ d ≤ 600000) ∧ (0 ≤ l ∧ l ≤ 600000)) ∧ (y = false → z = 0) := by
  obtain ⟨rfl, rfl⟩ := delayA_is hD
  obtain ⟨rfl, rfl⟩ := hA
  refine ⟨rfl, fun e => ?_, fun e => by rw [e]; rfl⟩
  have hgm := gO_gM e
  obtain ⟨ho, hmm⟩ := (gO_iff _ _ _).1 e
  exact ⟨lowL vs hi m, ⟨hgm.symm, by rw [if_pos hgm]⟩, by rw [if_pos e, if_pos e], by rw [if_pos e]; exact dly_bd hi hmm ho, lowL_all hi hgm⟩
set_option maxRecDepth 100000 in
set_option maxHeartbeats 2000000 in
theorem gapI_any {w : World} {B B2 : Nat} {A A2 : Option Addr} {n n2 : Nat} {vs : List TArrival} {os : List Int} (c c2 : Nat) (h : IsArrivals w B A n vs) (hm : n ≤ 1048576) (h2 : IsIs w B2 A2 n2 os) (hm2 : n2 ≤ 1048576) (hnc : n2 ≤ c2) (hi : Bool) (m : Int) (z : Int) (x : Bool) (hA : GapA vs hi m os z x) :
    Calls Try.prog 21 #[.slice A n c, .bool hi, .int .i64 m, .slice A2 n2 c2] w fun e w' => e = .returned (.tuple #[.int .i64 z, .bool x]) ∧ Below w.heap.size w w' := by
  obtain ⟨d, y, hD⟩ := delayA_ex vs hi m os
  have C1 := Lib.hid (delayI_any c c2 h hm h2 hm2 hnc hi m d y hD)
  obtain ⟨rfl, hyes, hno⟩ := gap_of hD hA
  have HI := Lib.hid h
  have HYES := Lib.hid hyes
  have HNO := Lib.hid hno
  have HB0 := Lib.hid (Below.refl w.heap.size w)
  clear h h2 hA hD hyes hno
  go_enter Try.func21, Try.ntmps21
  go_wp2_with fail
  refine C1.out.mono ?_
  rintro e w1 ⟨rfl, hb⟩
  have HB1 := Lib.hid (HB0.out.trans (hb.mono HB0.out.size))
  clear hb C1 HB0
  cases x with
  | false =>
    obtain rfl := HNO.out rfl
    clear HYES HNO
    go_wp2_with fail
    refine bodyPost_ret (results_tmp2 rfl _ _ _) rfl ?_
    exact ⟨rfl, HB1.out⟩
  | true =>
    obtain ⟨l, hl, rfl, hd0, hl0⟩ := HYES.out rfl
    have C2 := Lib.hid (lowI_any c (HI.out.below HB1.out HI.out.low) hm hi m l true hl)
    clear HYES HNO hl
    go_wp2_with fail
    refine C2.out.mono ?_
    rintro e w2 ⟨rfl, hb⟩
    have HB2 := Lib.hid (HB1.out.trans (hb.mono HB1.out.size))
    clear hb C2 HB1
    go_wp2_with fail
    refine bodyPost_ret (results_tmp2 rfl _ _ _) rfl ?_
    exact ⟨rfl, HB2.out⟩
set_option maxRecDepth 100000 in
set_option maxHeartbeats 2000000 in
theorem provI_any {w : World} {B B2 : Nat} {A A2 : Option Addr} {n n2 : Nat} {vs : List TArrival} {os : List Int} (c c2 : Nat) (h : IsArrivals w B A n vs) (hm : n ≤ 1048576) (h2 : IsIs w B2 A2 n2 os) (hm2 : n2 ≤ 1048576) (hnc : n2 ≤ c2) (hi : Bool) (m : Int) (b : Bool) (x : Bool) (hA : ProvA vs hi m os b x) :
    Calls Try.prog 22 #[.slice A n c, .bool hi, .int .i64 m, .slice A2 n2 c2] w fun e w' => e = .returned (.tuple #[.bool b, .bool x]) ∧ Below w.heap.size w w' := by
  obtain ⟨z, hz, rfl⟩ := hA
  have C1 := Lib.hid (gapI_any c c2 h hm h2 hm2 hnc hi m z x hz)
  have HB0 := Lib.hid (Below.refl w.heap.size w)
  clear h h2 hz
  go_enter Try.func22, Try.ntmps22
  go_wp2_with fail
  refine C1.out.mono ?_
  rintro e w1 ⟨rfl, hb⟩
  have HB1 := Lib.hid (HB0.out.trans (hb.mono HB0.out.size))
  clear hb C1 HB0
  cases x with
  | false =>
    go_wp2_with fail
    refine bodyPost_ret (results_tmp2 rfl _ _ _) rfl ?_
    exact ⟨rfl, HB1.out⟩
  | true =>
    by_cases h0 : z = 0
    · subst h0
      go_wp2_with fail
      refine bodyPost_ret (results_tmp2 rfl _ _ _) rfl ?_
      exact ⟨rfl, HB1.out⟩
    · have hz0 : (z == 0) = false := by simpa using h0
      go_wp2_with fail
      refine bodyPost_ret (results_tmp2 rfl _ _ _) rfl ?_
      exact ⟨by simp [h0], HB1.out⟩
theorem GapA.ways {vs : List TArrival} {h : Bool} {m : Int} {os : List Int} {z : Int} {x : Bool} (hA : GapA vs h m os z x) : Ways vs m os (z = dly vs m h os - lowL vs h m ∧ x = true) (z = 0 ∧ x = false) := by
  obtain ⟨rfl, rfl⟩ := hA
  exact ⟨fun a b => by rw [gO_true a b]; exact ⟨rfl, rfl⟩, fun a => by rw [gO_false a]; exact ⟨rfl, rfl⟩⟩
set_option maxRecDepth 100000 in
set_option maxHeartbeats 2000000 in
theorem gapS_any {w : World} {B B2 : Nat} {A A2 : Option Addr} {n n2 : Nat} {vs : List TArrival} {os : List Int} (c c2 : Nat) (h : IsArrivals w B A n vs) (hm : n ≤ 1048576) (hc : n ≤ c) (h2 : IsIs w B2 A2 n2 os) (hm2 : n2 ≤ 1048576) (hnc : n2 ≤ c2) (hi : Bool) (m : Int) (z : Int) (x : Bool) (hA : GapA vs hi m os z x) :
    Calls Try.prog 27 #[.slice A n c, .bool hi, .int .i64 m, .slice A2 n2 c2] w fun e w' => e = .returned (.tuple #[.int .i64 z, .bool x]) ∧ Below w.heap.size w w' := by
  have CO := Lib.hid (l8Order_any c c2 h hm h2 hm2 hnc)
  have CM := Lib.hid (fun W => l8Minutes_any m W)
  have HI := Lib.hid h
  have HO := Lib.hid h2
  have HNO := Lib.hid hA.ways.2
  have HYES := Lib.hid hA.ways.1
  obtain ⟨G, hG⟩ : ∃ G, oA vs os = G := ⟨_, rfl⟩
  obtain ⟨D, hD⟩ : ∃ D, decide (1 ≤ m ∧ m ≤ 60) = D := ⟨_, rfl⟩
  rw [hG, hD] at HNO HYES
  rw [hG] at CO
  rw [hD] at CM
  have HGE := Lib.hid hG
  have HDE := Lib.hid hD
  clear h h2 hA hG hD
  go_enter Try.func27, Try.ntmps27
  go_wp2_with fail
  refine CO.out.mono ?_
  rintro e w1 ⟨rfl, hb⟩
  have HB1 := Lib.hid hb
  clear hb CO
  cases G with
  | false =>
    obtain ⟨rfl, rfl⟩ : z = 0 ∧ x = false := HNO.out (.inl rfl)
    clear HNO HYES CM
    go_wp2_with fail
    refine bodyPost_ret (results_tmp2 rfl _ _ _) rfl ?_
    exact ⟨rfl, HB1.out⟩
  | true =>
  replace HYES := Lib.hid (HYES.out rfl)
  replace HNO := Lib.hid (fun d => HNO.out (.inr d))
  go_wp2_with fail
  refine (CM.out _).mono ?_
  rintro e w2 ⟨rfl, rfl⟩
  cases D with
  | false =>
    obtain ⟨rfl, rfl⟩ : z = 0 ∧ x = false := HNO.out rfl
    clear HNO HYES CM
    go_wp2_with fail
    refine bodyPost_ret (results_tmp2 rfl _ _ _) rfl ?_
    exact ⟨rfl, HB1.out⟩
  | true =>
  have HOR := Lib.hid ((oA_iff vs os).1 HGE.out)
  have HMM := Lib.hid (of_decide_eq_true HDE.out)
  obtain ⟨hz, rfl⟩ := HYES.out rfl
  have h26 : n2 ≤ 6 := by rw [← HO.out.len]; exact HOR.out.le6
  have hn6 : n ≤ 6 := by have hn2 : n = n2 := by rw [← HI.out.len, ← HO.out.len]; exact HOR.out.2.1.symm
                         omega
  have HR : Hid (∀ p, p < n2 → inA n (os.getD p 0)) := Lib.hid (fun p hp => by rw [← HI.out.len]; exact HOR.out.inn (by rw [HO.out.len]; exact hp))
  have HZ := Lib.hid hz
  clear HNO HYES CM HGE HDE hz
  have C2 := Lib.hid (l8Delay_any c c2 (HI.out.below HB1.out HI.out.low) hn6 (HO.out.below HB1.out HO.out.low) h26 hi m HMM.out HOR.out.1 HR.out)
  have hd0 := dly_bd hi HMM.out HOR.out
  have hgm := (gM_iff vs m).2 ⟨HOR.out.1, HMM.out⟩
  have hl0 := lowL_all hi hgm
  unfold dly at hd0 HZ
  generalize delL vs (lks vs m hi os) = d at C2 hd0 HZ
  go_wp2_with fail
  refine C2.out.mono ?_
  rintro e w2 ⟨rfl, hb⟩
  have HB2 := Lib.hid (HB1.out.trans (hb.mono HB1.out.size))
  clear hb C2 HB1
  have C3 := Lib.hid (l9Lower_any c (HI.out.below HB2.out HI.out.low) hc HOR.out.1 hi m HMM.out)
  generalize lowL vs hi m = l at C3 hl0 HZ
  go_wp2_with fail
  refine C3.out.mono ?_
  rintro e w3 ⟨rfl, hb⟩
  have HB3 := Lib.hid (HB2.out.trans (hb.mono HB2.out.size))
  clear hb C3 HB2
  go_wp2_with fail
  refine bodyPost_ret (results_tmp2 rfl _ _ _) rfl ?_
  exact ⟨by rw [HZ.out]; rfl, HB3.out⟩
set_option maxRecDepth 100000 in
set_option maxHeartbeats 2000000 in
theorem provS_any {w : World} {B B2 : Nat} {A A2 : Option Addr} {n n2 : Nat} {vs : List TArrival} {os : List Int} (c c2 : Nat) (h : IsArrivals w B A n vs) (hm : n ≤ 1048576) (hc : n ≤ c) (h2 : IsIs w B2 A2 n2 os) (hm2 : n2 ≤ 1048576) (hnc : n2 ≤ c2) (hi : Bool) (m : Int) (b : Bool) (x : Bool) (hA : ProvA vs hi m os b x) :
    Calls Try.prog 24 #[.slice A n c, .bool hi, .int .i64 m, .slice A2 n2 c2] w fun e w' => e = .returned (.tuple #[.bool b, .bool x]) ∧ Below w.heap.size w w' := by
  obtain ⟨z, hz, rfl⟩ := hA
  have C1 := Lib.hid (gapS_any c c2 h hm hc h2 hm2 hnc hi m z x hz)
  have HB0 := Lib.hid (Below.refl w.heap.size w)
  clear h h2 hz
  go_enter Try.func24, Try.ntmps24
  go_wp2_with fail
  refine C1.out.mono ?_
  rintro e w1 ⟨rfl, hb⟩
  have HB1 := Lib.hid (HB0.out.trans (hb.mono HB0.out.size))
  clear hb C1 HB0
  cases x with
  | false =>
    go_wp2_with fail
    refine bodyPost_ret (results_tmp2 rfl _ _ _) rfl ?_
    exact ⟨rfl, HB1.out⟩
  | true =>
    by_cases h0 : z = 0
    · subst h0
      go_wp2_with fail
      refine bodyPost_ret (results_tmp2 rfl _ _ _) rfl ?_
      exact ⟨rfl, HB1.out⟩
    · have hz0 : (z == 0) = false := by simpa using h0
      go_wp2_with fail
      refine bodyPost_ret (results_tmp2 rfl _ _ _) rfl ?_
      exact ⟨by simp [h0], HB1.out⟩
end Go.Proofs.Ytkdolpgnaabdaaa
