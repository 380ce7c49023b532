/- Chapter 9, the queue bound: the model and the program. -/
import Derived.Test.YtkdolpgnaabdaaaBdA
import Derived.Test.YtkdolpgnaabdaaaLkK
namespace Go.Proofs.Ytkdolpgnaabdaaa
open Go.RowKit Go.PlainAid Go.Sort
set_option linter.unusedVariables false
set_option linter.unusedSimpArgs false

theorem ite_mn7 (x y : Int) : (if x < y then x else y) = min x y := by split <;> omega
theorem ite_mn (x y : Int) : (if y < x then y else x) = min x y := by split <;> omega
theorem l1Least_any (x y : Int) (w : World) : Calls Try.prog 78 #[.int .i64 x, .int .i64 y] w fun e w' => e = .returned (.int .i64 (min x y)) ∧ w = w' := by
  by_cases h : x < y
  · rw [show min x y = x by omega]
    go_enter Try.func78, Try.ntmps78
    go_wp2
    go_ret
    exact ⟨rfl, rfl⟩
  · rw [show min x y = y by omega]
    go_enter Try.func78, Try.ntmps78
    go_wp2
    go_ret
    exact ⟨rfl, rfl⟩
theorem quSt_next {vs : List TArrival} {m : Int} {os : List Int} {k : Nat} {fr su wt : Int} {V : TArrival} {i : Int} (hk : k < os.length) (e : quSt vs m (os.take k) = (fr, su, wt)) (ei : os.getD k 0 = i) (ea : atA vs i = V) (b : Int) (eb : max fr V.x2 = b) :
    quSt vs m (os.take (k + 1)) = (b + m, su + (b - V.x2), min wt V.x3) := by
  rw [quSt_take vs m hk, e, ei]
  unfold quStep
  dsimp only
  rw [ea, eb]
theorem come_in {vs : List TArrival} (hg : goodAs vs) {n : Nat} (hn : vs.length = n) : (comeO vs).length = n ∧ (∀ p, p < n → inA n ((comeO vs).getD p 0)) ∧ ∀ p, p < n → goodA (atA vs ((comeO vs).getD p 0)) := by
  have hf := comeO_is hg
  have ho := first_ord hg hf
  rw [hn] at hf
  have hl := hf.len
  exact ⟨hl, fun p hp => hf.inn (by omega), fun p hp => ho.good (by omega)⟩
set_option maxRecDepth 100000 in
set_option maxHeartbeats 4000000 in
theorem l9Queue_any {w : World} {B : Nat} {A : Option Addr} {n : Nat} {vs : List TArrival} (c : Nat) (h : IsArrivals w B A n vs) (hg : goodAs vs) (m : Int) (hmm : 1 ≤ m ∧ m ≤ 60) :
    Calls Try.prog 49 #[.slice A n c, .int .i64 m] w fun e w' => e = .returned (.int .i64 (quL vs m (comeO vs))) ∧ Below w.heap.size w w' := by
  have CF := Lib.hid (l8FirstCome_any c h hg)
  have CM := Lib.hid (fun (x y : Int) (W : World) => l1Most_any x y W)
  have CL := Lib.hid (fun (x y : Int) (W : World) => l1Least_any x y W)
  have HI := Lib.hid h
  have HGM : Hid (goodAs vs ∧ 1 ≤ m ∧ m ≤ 60) := Lib.hid ⟨hg, hmm⟩
  have HN6 : Hid (n ≤ 6) := Lib.hid (by rw [← h.len]; exact hg.1)
  have HCI := Lib.hid (come_in hg h.len)
  have HCE : Hid (∀ os, FirstA vs n os → os = comeO vs) := Lib.hid (fun os hos => first_one hos (by have := comeO_is hg; rwa [h.len] at this))
  clear h hg hmm
  go_enter Try.func49, Try.ntmps49
  go_wp2_with fail
  refine CF.out.mono ?_
  rintro e w1 ⟨v, os, rfl, hos, hO⟩
  obtain rfl := HCE.out os hos
  obtain ⟨g9, c9, rfl, hO9⟩ := hO.is
  have HB1 := Lib.hid hO.low
  have HO := Lib.hid hO9
  clear hO hO9 CF HCE hos
  obtain ⟨os, hos⟩ : ∃ os, comeO vs = os := ⟨_, rfl⟩
  rw [hos] at HO HCI
  have HEND : Hid (∀ fr su wt, quSt vs m (os.take n) = (fr, su, wt) → wt * su = quL vs m (comeO vs)) := Lib.hid (fun fr su wt e => by rw [hos]; unfold quL; rw [← HO.out.len, List.take_length] at e; rw [e])
  clear hos
  have HR := Lib.hid HCI.out.2.1
  have HGA := Lib.hid HCI.out.2.2
  have HQB := Lib.hid (fun k (hk : k ≤ os.length) => quSt_bd (vs := vs) (m := m) (os := os) HGM.out.2 (fun p hp => HGA.out p (by rw [← HO.out.len]; exact hp)) k hk)
  clear HCI
  go_wp2_with fail
  go_loopw [6, 7, 8, 9] (fun f s t i wr => ∃ (k : Nat) (fr su wt : Int), quSt vs m (os.take k) = (fr, su, wt) ∧ k ≤ n ∧ i = .int .i64 k ∧ f = .int .i64 fr ∧ s = .int .i64 su ∧ t = .int .i64 wt ∧ Below w1.heap.size w1 wr) (fun _ _ _ i _ => n - (intOf i).toNat)
  case atStart => exact ⟨0, 0, 0, 9, rfl, Nat.zero_le _, rfl, rfl, rfl, rfl, Below.refl _ _⟩
  case round =>
    obtain ⟨k, fr, su, wt, hst, hk, rfl, rfl, rfl, rfl, hbo⟩ := hrel
    have HST := Lib.hid hst
    have HBO := Lib.hid hbo
    have hb := HB1.out.trans (hbo.mono HB1.out.size)
    clear hst
    by_cases hlt : k < n
    · skip
      have hB := HQB.out k (by rw [HO.out.len]; omega)
      rw [HST.out] at hB
      dsimp only at hB
      have hgk := HGA.out k hlt
      obtain ⟨a2, ea2, -, f0⟩ := Has.numAt (HO.out.below hbo HO.out.low).has (k := k) (by rw [HO.out.len]; exact hlt)
      injection ea2 with ea2
      subst ea2
      obtain ⟨j, hj, hjn⟩ := inA_nat (HR.out k hlt)
      have HSX := Lib.hid (fun V (ea : atA vs (j : Int) = V) b (eb : max fr V.x2 = b) => quSt_next (by rw [HO.out.len]; exact hlt) HST.out hj ea b eb)
      rw [hj, atA_cast] at hgk
      rw [hj] at f0
      obtain ⟨a1, rfl, -, HV⟩ := (HI.out.below hb HI.out.low).has.Arrival (k := j) (by rw [HI.out.len]; exact hjn)
      replace HSX := Lib.hid (HSX.out _ (atA_cast vs j))
      generalize vs.getD j noArrival = V at HV hgk HSX
      obtain ⟨d, u, mi, g⟩ := V
      obtain ⟨e0, e1, e2, e3⟩ := HV
      dsimp only at e0 e1 e2 e3 hgk
      replace HSX : Hid (∀ b, max fr mi = b → quSt vs m (os.take (k + 1)) = (b + m, su + (b - mi), min wt g)) := HSX
      obtain ⟨-, hg2, hg3⟩ := hgk
      dsimp only at hg2 hg3
      have f1 := f0
      rw [addO, Nat.zero_add] at f1
      have hk0 : (0 : Int) ≤ (k : Int) := by omega
      have hk1 : (k : Int) < (n : Int) := by omega
      have hj0 : (0 : Int) ≤ (j : Int) := by omega
      have hj1 : (j : Int) < (n : Int) := by omega
      have hn6 := HN6.out
      have hmm := HGM.out.2
      have hfr2 : fr ≤ 10359 := by omega
      have hfr0 : 0 ≤ fr := by omega
      have hsu0 : 0 ≤ su := by omega
      have hsu1 : su ≤ 62154 := by have := Int.mul_le_mul_of_nonneg_left (show (k : Int) ≤ 6 by omega) (show (0 : Int) ≤ 9999 + 60 * (os.length : Int) by omega); have := HO.out.len; omega
      have hwt0 : 1 ≤ wt ∧ wt ≤ 9 := by omega
      have hmx : 0 ≤ max fr mi ∧ max fr mi ≤ 10719 ∧ mi ≤ max fr mi := by omega
      have hmn : 1 ≤ min wt g ∧ min wt g ≤ 9 := by omega
      clear hB hbo hj
      have hlx := HO.out.low
      have HB := Lib.hid hb
      clear hb
      go_wp2_with fail
      refine (CM.out _ _ _).mono ?_
      rintro e w6 ⟨rfl, rfl⟩
      obtain ⟨b, hbb⟩ : ∃ b, max fr mi = b := ⟨_, rfl⟩
      have HS2 := Lib.hid (HSX.out b hbb)
      rw [hbb] at hmx ⊢
      clear hbb HSX
      go_wp2_with fail
      refine (CL.out _ _ _).mono ?_
      rintro e w7 ⟨rfl, rfl⟩
      have HBN := Lib.hid (HBO.out.alloc HBO.out.size (.cells #[.int .i64 d, .bool u, .int .i64 mi, .int .i64 g] 58))
      go_wp2_with fail
      go_roundw
      case rel => exact ⟨k + 1, _, _, _, HS2.out, by omega, by go_num, rfl, by rw [show su + (b - mi) = su + b - mi by omega], rfl, HBN.out⟩
      case measure => simp [intOf]; omega
    · obtain rfl : k = n := by omega
      have hB := HQB.out k (by rw [HO.out.len]; exact Nat.le_refl _)
      rw [HST.out] at hB
      dsimp only at hB
      have hsu1 : su ≤ 62154 := by have := HN6.out; have := Int.mul_le_mul_of_nonneg_left (show (k : Int) ≤ 6 by omega) (show (0 : Int) ≤ 9999 + 60 * (os.length : Int) by omega); have := HO.out.len; omega
      have hp : 0 ≤ wt * su ∧ wt * su ≤ 600000 := by
        refine ⟨Int.mul_nonneg (by omega) hB.2.1.1, ?_⟩
        have := Int.mul_le_mul_of_nonneg_right (show wt ≤ 9 by omega) hB.2.1.1
        omega
      have HE := Lib.hid (HEND.out _ _ _ HST.out)
      have HB := Lib.hid hb
      clear hB hbo hb
      go_wp2_with fail
      go_ret
      exact ⟨ret_int HE.out, HB.out⟩
set_option maxRecDepth 100000 in
set_option maxHeartbeats 2000000 in
theorem queueS_any {w : World} {B : Nat} {A : Option Addr} {n : Nat} {vs : List TArrival} (c : Nat) (h : IsArrivals w B A n vs) (hm : n ≤ 1048576) (m : Int) (z : Int) (x : Bool) (hA : QueueA vs m z x) :
    Calls Try.prog 19 #[.slice A n c, .int .i64 m] w fun e w' => e = .returned (.tuple #[.int .i64 z, .bool x]) ∧ Below w.heap.size w w' := by
  have C := Lib.hid (asked_any c h hm m)
  have HI := Lib.hid h
  obtain ⟨hx, hz⟩ := hA
  obtain ⟨K, hK⟩ : ∃ K, gM vs m = K := ⟨_, rfl⟩
  rw [hK] at C hx hz
  subst hx
  have HK := Lib.hid hK
  have HZ := Lib.hid hz
  clear h hK hz
  go_enter Try.func19, Try.ntmps19
  go_wp2_with fail
  refine C.out.mono ?_
  rintro e w1 ⟨rfl, hb⟩
  have HB1 := Lib.hid hb
  clear hb C
  cases x with
  | false =>
    obtain rfl : z = 0 := HZ.out
    go_wp2_with fail
    refine bodyPost_ret (results_tmp2 rfl _ _ _) rfl ?_
    exact ⟨rfl, HB1.out⟩
  | true =>
  have HGM := Lib.hid ((gM_iff vs m).1 HK.out)
  have hn6 : n ≤ 6 := by rw [← HI.out.len]; exact HGM.out.1.1
  replace HZ : Hid (z = quL vs m (comeO vs)) := Lib.hid HZ.out
  clear HK
  have CT := Lib.hid (l9Queue_any c (HI.out.below HB1.out HI.out.low) HGM.out.1 m HGM.out.2)
  go_wp2_with fail
  refine CT.out.mono ?_
  rintro e w3 ⟨rfl, hb⟩
  have HB3 := Lib.hid (HB1.out.trans (hb.mono HB1.out.size))
  clear hb CT HB1
  go_wp2_with fail
  refine bodyPost_ret (results_tmp2 rfl _ _ _) rfl ?_
  exact ⟨by rw [HZ.out]; rfl, HB3.out⟩
end Go.Proofs.Ytkdolpgnaabdaaa
