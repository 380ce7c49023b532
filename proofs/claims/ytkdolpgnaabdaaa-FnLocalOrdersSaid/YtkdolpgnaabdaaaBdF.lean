/- Chapter 9: gains of exchanges, of the model and of the program. -/
import Derived.Test.YtkdolpgnaabdaaaBdE
namespace Go.Proofs.Ytkdolpgnaabdaaa
open Go.RowKit Go.PlainAid Go.Sort
set_option linter.unusedVariables false
set_option linter.unusedSimpArgs false

theorem OwnZ.full {w w' : World} {L : List Int} {n : Nat} {v : Value} (h : OwnZ w w' L n v) : ∃ g c, v = .slice (some ⟨g, 0, none⟩) n c ∧ n ≤ c ∧ IsIs w' w'.heap.size (some ⟨g, 0, none⟩) n L := by
  obtain ⟨g, c, rfl, h1, h2, h3⟩ := h
  exact ⟨g, c, rfl, own_capE h2, own_IsIs h2⟩
set_option maxRecDepth 100000 in
set_option maxHeartbeats 4000000 in
theorem l9Gain_any {w : World} {B B2 g2 : Nat} {A : Option Addr} {n n2 : Nat} {vs : List TArrival} {os : List Int} (c c2 : Nat) (h : IsArrivals w B A n vs) (h2 : IsIs w B2 (some ⟨g2, 0, none⟩) n2 os) (hnc : n2 ≤ c2) (hi : Bool) (m : Int) (hmm : 1 ≤ m ∧ m ≤ 60) (ho : OrdA vs os) (k : Nat) (hk : k + 1 < n2) :
    Calls Try.prog 63 #[.slice A n c, .bool hi, .int .i64 m, .slice (some ⟨g2, 0, none⟩) n2 c2, .int .i64 (k : Int)] w fun e w' => e = .returned (.tuple #[.int .i64 (gnA vs m hi os k), .bool (oA vs (swp os k))]) ∧ Below w.heap.size w w' := by
  have hn2 : n2 ≤ 6 := by rw [← h2.len]; exact ho.le6
  have hn : n ≤ 6 := by rw [← h.len]; exact ho.1.1
  have C1 := Lib.hid (l9Swap_any c2 (by omega) h2 k hk)
  have HI := Lib.hid h
  have HO := Lib.hid h2
  have HOR := Lib.hid ho
  have HR : Hid (∀ p, p < n2 → inA n (os.getD p 0)) := Lib.hid (fun p hp => by rw [← h.len]; exact ho.inn (by rw [h2.len]; exact hp))
  have hd0 := dly_bd hi hmm ho
  obtain ⟨G, hG⟩ : ∃ G, oA vs (swp os k) = G := ⟨_, rfl⟩
  have HGE := Lib.hid hG
  have HGN : Hid (gnA vs m hi os k = if G = true then dly vs m hi os - dly vs m hi (swp os k) else 0) := Lib.hid (by unfold gnA; rw [hG])
  rw [hG]
  obtain ⟨z, hz⟩ : ∃ z, gnA vs m hi os k = z := ⟨_, rfl⟩
  rw [hz] at HGN ⊢
  clear h h2 ho hG hz
  go_enter Try.func63, Try.ntmps63
  go_wp2_with fail
  refine C1.out.mono ?_
  rintro e w1 ⟨v, rfl, hO⟩
  obtain ⟨g9, c9, rfl, hc9, hN⟩ := hO.full
  have HB1 := Lib.hid hO.low
  have HN := Lib.hid hN
  have C2 := Lib.hid (l8Order_any c c9 (HI.out.below HB1.out HI.out.low) (by omega) hN (by omega) hc9)
  rw [HGE.out] at C2
  clear hO hN C1
  go_wp2_with fail
  refine C2.out.mono ?_
  rintro e w2 ⟨rfl, hb⟩
  have HB2 := Lib.hid (HB1.out.trans (hb.mono HB1.out.size))
  have HN2 := Lib.hid (HN.out.below hb HN.out.low)
  clear hb C2 HB1 HN
  cases G with
  | false =>
    obtain rfl : z = 0 := HGN.out
    go_wp2_with fail
    refine bodyPost_ret (results_tmp2 rfl _ _ _) rfl ?_
    exact ⟨rfl, HB2.out⟩
  | true =>
    have HO2 := Lib.hid ((oA_iff _ _).1 HGE.out)
    have hd1 := dly_bd hi hmm HO2.out
    have HZ : Hid (z = dly vs m hi os - dly vs m hi (swp os k)) := Lib.hid HGN.out
    have C3 := Lib.hid (l8Delay_any c c2 (HI.out.below HB2.out HI.out.low) hn (HO.out.below HB2.out HO.out.low) hn2 hi m hmm HOR.out.1 HR.out)
    have C4 := Lib.hid (fun W (hb : Below w2.heap.size w2 W) => l8Delay_any c c9 (HI.out.below (HB2.out.trans (hb.mono HB2.out.size)) HI.out.low) hn (HN2.out.below hb HN2.out.low) hn2 hi m hmm HOR.out.1 (fun p hp => by rw [← HI.out.len]; exact HO2.out.inn (by rw [HN2.out.len]; exact hp)))
    unfold dly at hd0 hd1 HZ
    generalize delL vs (lks vs m hi os) = d at C3 hd0 HZ
    generalize delL vs (lks vs m hi (swp os k)) = d2 at C4 hd1 HZ
    go_wp2_with fail
    refine C3.out.mono ?_
    rintro e w3 ⟨rfl, hb⟩
    have HB3 := Lib.hid (HB2.out.trans (hb.mono HB2.out.size))
    have C5 := Lib.hid (C4.out _ hb)
    clear hb C3 C4 HB2
    go_wp2_with fail
    refine C5.out.mono ?_
    rintro e w4 ⟨rfl, hb⟩
    have HB4 := Lib.hid (HB3.out.trans (hb.mono HB3.out.size))
    clear hb C5 HB3
    go_wp2_with fail
    refine bodyPost_ret (results_tmp2 rfl _ _ _) rfl ?_
    exact ⟨by rw [HZ.out]; rfl, HB4.out⟩
theorem gainA_no {vs : List TArrival} {hi : Bool} {m : Int} {os : List Int} {k z : Int} {x : Bool} (hA : GainA vs hi m os k z x) (h : gG vs m os k = false) : z = 0 ∧ x = false := by
  obtain ⟨rfl, rfl⟩ := hA
  rw [h]; exact ⟨rfl, rfl⟩
theorem gG_no {vs : List TArrival} {m : Int} {os : List Int} {k : Int} (h : gO vs m os = false ∨ ¬ (0 ≤ k ∧ k ≤ (os.length : Int) - 2)) : gG vs m os k = false := by
  unfold gG
  rcases h with h | h
  · rw [h]; rfl
  · rw [decide_eq_false h]; simp
theorem gainA_in {vs : List TArrival} {hi : Bool} {m : Int} {os : List Int} {k : Nat} {z : Int} {x : Bool} (hA : GainA vs hi m os k z x) (h : gO vs m os = true) (hk : k + 1 < os.length) : z = gnA vs m hi os k ∧ x = oA vs (swp os k) := by
  obtain ⟨rfl, rfl⟩ := hA
  have e : gG vs m os (k : Int) = oA vs (swp os k) := by
    unfold gG; rw [h, decide_eq_true (by omega), Int.toNat_natCast]; rfl
  rw [e, Int.toNat_natCast]
  exact ⟨rfl, rfl⟩
theorem in_nat {k : Int} {n : Nat} (h : 0 ≤ k ∧ k ≤ (n : Int) - 2) : ∃ j : Nat, k = (j : Int) ∧ j + 1 < n := ⟨k.toNat, by omega, by omega⟩
set_option maxRecDepth 100000 in
set_option maxHeartbeats 4000000 in
theorem gainS_any {w : World} {B B2 g2 : Nat} {A : Option Addr} {n n2 : Nat} {vs : List TArrival} {os : List Int} (c c2 : Nat) (h : IsArrivals w B A n vs) (hm : n ≤ 1048576) (h2 : IsIs w B2 (some ⟨g2, 0, none⟩) n2 os) (hm2 : n2 ≤ 1048576) (hnc : n2 ≤ c2) (hi : Bool) (m k : Int) (z : Int) (x : Bool) (hA : GainA vs hi m os k z x) :
    Calls Try.prog 35 #[.slice A n c, .bool hi, .int .i64 m, .slice (some ⟨g2, 0, none⟩) n2 c2, .int .i64 k] w fun e w' => e = .returned (.tuple #[.int .i64 z, .bool x]) ∧ Below w.heap.size w w' := by
  have CO := Lib.hid (l8Order_any c c2 h hm h2 hm2 hnc)
  have CM := Lib.hid (fun W => l8Minutes_any m W)
  have CR := Lib.hid (fun W => l1In_any k 0 ((n2 : Int) - 2) W)
  have HI := Lib.hid h
  have HO := Lib.hid h2
  have HA := Lib.hid hA
  have HNO := Lib.hid (fun hn => gainA_no hA (gG_no hn))
  obtain ⟨G, hG⟩ : ∃ G, oA vs os = G := ⟨_, rfl⟩
  obtain ⟨D, hD⟩ : ∃ D, decide (1 ≤ m ∧ m ≤ 60) = D := ⟨_, rfl⟩
  obtain ⟨R, hR⟩ : ∃ R, decide (0 ≤ k ∧ k ≤ (n2 : Int) - 2) = R := ⟨_, rfl⟩
  rw [hG] at CO
  rw [hD] at CM
  rw [hR] at CR
  have HGE := Lib.hid hG
  have HDE := Lib.hid hD
  have HRE := Lib.hid hR
  clear h h2 hA hG hD hR
  go_enter Try.func35, Try.ntmps35
  go_wp2_with fail
  refine CO.out.mono ?_
  rintro e w1 ⟨rfl, hb⟩
  have HB1 := Lib.hid hb
  clear hb CO
  cases G with
  | false =>
    obtain ⟨rfl, rfl⟩ := HNO.out (.inl (gO_false (.inl HGE.out)))
    go_wp2_with fail
    refine bodyPost_ret (results_tmp2 rfl _ _ _) rfl ?_
    exact ⟨rfl, HB1.out⟩
  | true =>
  go_wp2_with fail
  refine (CM.out _).mono ?_
  rintro e w2 ⟨rfl, rfl⟩
  cases D with
  | false =>
    obtain ⟨rfl, rfl⟩ := HNO.out (.inl (gO_false (.inr HDE.out)))
    go_wp2_with fail
    refine bodyPost_ret (results_tmp2 rfl _ _ _) rfl ?_
    exact ⟨rfl, HB1.out⟩
  | true =>
  go_wp2_with fail
  refine (CR.out _).mono ?_
  rintro e w2 ⟨rfl, rfl⟩
  cases R with
  | false =>
    obtain ⟨rfl, rfl⟩ := HNO.out (.inr (by rw [HO.out.len]; exact of_decide_eq_false HRE.out))
    go_wp2_with fail
    refine bodyPost_ret (results_tmp2 rfl _ _ _) rfl ?_
    exact ⟨rfl, HB1.out⟩
  | true =>
  obtain ⟨j, rfl, hj⟩ := in_nat (of_decide_eq_true HRE.out)
  have HGO := gO_true HGE.out HDE.out
  obtain ⟨ho, hmm⟩ := (gO_iff _ _ _).1 HGO
  obtain ⟨hz, hx⟩ := gainA_in HA.out HGO (by rw [HO.out.len]; exact hj)
  have CG := Lib.hid (l9Gain_any c c2 (HI.out.below HB1.out HI.out.low) (HO.out.below HB1.out HO.out.low) hnc hi m hmm ho j hj)
  rw [← hz, ← hx] at CG
  clear hz hx HNO HA HGE HDE HRE ho HGO CM CR
  go_wp2_with fail
  refine CG.out.mono ?_
  rintro e w2 ⟨rfl, hb⟩
  have HB2 := Lib.hid (HB1.out.trans (hb.mono HB1.out.size))
  clear hb CG HB1
  go_wp2_with fail
  refine bodyPost_ret (results_tmp2 rfl _ _ _) rfl ?_
  exact ⟨rfl, HB2.out⟩
set_option maxRecDepth 100000 in
set_option maxHeartbeats 4000000 in
theorem gainI_any {w : World} {B B2 g2 : Nat} {A : Option Addr} {n n2 : Nat} {vs : List TArrival} {os : List Int} (c c2 : Nat) (h : IsArrivals w B A n vs) (hm : n ≤ 1048576) (h2 : IsIs w B2 (some ⟨g2, 0, none⟩) n2 os) (hm2 : n2 ≤ 1048576) (hnc : n2 ≤ c2) (hi : Bool) (m k : Int) (z : Int) (x : Bool) (hA : GainA vs hi m os k z x) :
    Calls Try.prog 33 #[.slice A n c, .bool hi, .int .i64 m, .slice (some ⟨g2, 0, none⟩) n2 c2, .int .i64 k] w fun e w' => e = .returned (.tuple #[.int .i64 z, .bool x]) ∧ Below w.heap.size w w' := by
  obtain ⟨d, y, hD⟩ := delayA_ex vs hi m os
  have C1 := Lib.hid (delayI_any c c2 h hm h2 hm2 hnc hi m d y hD)
  obtain ⟨hy, hd⟩ := delayA_is hD
  have CR := Lib.hid (fun W => inRange_any k 0 ((n2 : Int) - 2) W)
  have HI := Lib.hid h
  have HO := Lib.hid h2
  have HA := Lib.hid hA
  have HNO := Lib.hid (fun hn => gainA_no hA (gG_no hn))
  have HY := Lib.hid hy
  have HD := Lib.hid hd
  obtain ⟨R, hR⟩ : ∃ R, decide (0 ≤ k ∧ k ≤ (n2 : Int) - 2) = R := ⟨_, rfl⟩
  rw [hR] at CR
  have HRE := Lib.hid hR
  have HB0 := Lib.hid (Below.refl w.heap.size w)
  clear h h2 hA hR hD hy hd
  go_enter Try.func33, Try.ntmps33
  go_wp2_with fail
  refine C1.out.mono ?_
  rintro e w1 ⟨rfl, hb⟩
  have HB1 := Lib.hid (HB0.out.trans (hb.mono HB0.out.size))
  clear hb C1 HB0
  cases y with
  | false =>
    obtain ⟨rfl, rfl⟩ := HNO.out (.inl HY.out.symm)
    go_wp2_with fail
    refine bodyPost_ret (results_tmp2 rfl _ _ _) rfl ?_
    exact ⟨rfl, HB1.out⟩
  | true =>
  go_wp2_with fail
  refine (CR.out _).mono ?_
  rintro e w2 ⟨rfl, rfl⟩
  cases R with
  | false =>
    obtain ⟨rfl, rfl⟩ := HNO.out (.inr (by rw [HO.out.len]; exact of_decide_eq_false HRE.out))
    go_wp2_with fail
    refine bodyPost_ret (results_tmp2 rfl _ _ _) rfl ?_
    exact ⟨rfl, HB1.out⟩
  | true =>
  obtain ⟨j, rfl, hj⟩ := in_nat (of_decide_eq_true HRE.out)
  obtain ⟨ho, hmm⟩ := (gO_iff _ _ _).1 HY.out.symm
  obtain ⟨hz, hx⟩ := gainA_in HA.out HY.out.symm (by rw [HO.out.len]; exact hj)
  have HZ := Lib.hid hz
  have HX := Lib.hid hx
  clear hz hx
  have hd0 := dly_bd hi hmm ho
  have hn2 : n2 ≤ 6 := by rw [← HO.out.len]; exact ho.le6
  have HDD : Hid (d = dly vs m hi os) := Lib.hid (by rw [HD.out, ← HY.out]; rfl)
  rw [← HDD.out] at hd0
  have C2 := Lib.hid (exch_any c2 (by omega) (HO.out.below HB1.out HO.out.low) j hj)
  have HOR := Lib.hid ho
  clear HNO HA HRE ho CR
  go_wp2_with fail
  refine C2.out.mono ?_
  rintro e w2 ⟨v, rfl, hO⟩
  obtain ⟨g9, c9, rfl, hc9, hN⟩ := hO.full
  have HB2 := Lib.hid (HB1.out.trans (hO.low.mono HB1.out.size))
  obtain ⟨d2, y2, hD2⟩ := delayA_ex vs hi m (swp os j)
  have C3 := Lib.hid (delayI_any c c9 (HI.out.below HB2.out HI.out.low) hm hN (by omega) hc9 hi m d2 y2 hD2)
  obtain ⟨hy2, hdd2⟩ := delayA_is hD2
  have HE : Hid (y2 = oA vs (swp os j)) := Lib.hid (by rw [hy2]; unfold gO; rw [decide_eq_true hmm]; simp)
  have HD2 : Hid (d2 = if y2 = true then dly vs m hi (swp os j) else 0) := Lib.hid (by rw [hdd2, hy2])
  obtain rfl : x = y2 := HX.out.trans HE.out.symm
  have HG : Hid (z = if x = true then d - dly vs m hi (swp os j) else 0) := Lib.hid (by rw [HZ.out, HX.out, HDD.out]; rfl)
  have HOO := Lib.hid (fun (e : x = true) => (oA_iff _ _).1 (HE.out.symm.trans e))
  clear hO hN C2 HB1 hD2 hy2 hdd2 HE HX HZ
  go_wp2_with fail
  refine C3.out.mono ?_
  rintro e w3 ⟨rfl, hb⟩
  have HB3 := Lib.hid (HB2.out.trans (hb.mono HB2.out.size))
  clear hb C3 HB2
  cases x with
  | false =>
    obtain rfl : z = 0 := HG.out
    go_wp2_with fail
    refine bodyPost_ret (results_tmp2 rfl _ _ _) rfl ?_
    exact ⟨rfl, HB3.out⟩
  | true =>
    have hd1 := dly_bd hi hmm (HOO.out rfl)
    rw [← show d2 = dly vs m hi (swp os j) from HD2.out] at hd1
    have HZ : Hid (z = d - d2) := Lib.hid (by rw [show d2 = dly vs m hi (swp os j) from HD2.out]; exact HG.out)
    clear HG HD2 HOO HD HDD
    go_wp2_with fail
    refine bodyPost_ret (results_tmp2 rfl _ _ _) rfl ?_
    exact ⟨by rw [HZ.out]; rfl, HB3.out⟩
end Go.Proofs.Ytkdolpgnaabdaaa
