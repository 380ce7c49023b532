/- Chapter 4: MostHulls of the program. -/
import Derived.Test.YtkdolpgnaabdaabChS
namespace Go.Proofs.Ytkdolpgnaabdaab
open Go.RowKit Go.PlainAid Go.Sort
set_option linter.unusedVariables false
set_option linter.unusedSimpArgs false

theorem or_at {x y : Int} {k : Nat} (h2 : k < 2) (h1 : 1 ≤ k → x = 0) (hz : [x, y].getD k 0 ≠ 0) : (if x = 0 then y else x) = [x, y].getD k 0 := by
  match k, h2 with
  | 0, _ => rw [if_neg (by simpa using hz)]; rfl
  | 1, _ => rw [if_pos (h1 (Nat.le_refl _))]; rfl
set_option maxRecDepth 100000 in
set_option maxHeartbeats 1000000 in
theorem or2_any {w : World} {B : Nat} {A : Option Addr} (c : Nat) (x y : Int) (hB : B ≤ w.heap.size) (h : Has w B A ([x, y].map (.int .i64))) :
    Calls Try.prog 57 #[.slice A 2 c] w fun e w' => e = .returned (.int .i64 (if x = 0 then y else x)) ∧ Below w.heap.size w w' := by
  have HA := Lib.hid h
  have HAT := Lib.hid (fun k => or_at (x := x) (y := y) (k := k))
  obtain ⟨R, hR⟩ : ∃ R, (if x = 0 then y else x) = R := ⟨_, rfl⟩
  have HR := Lib.hid hR
  rw [hR] at HAT ⊢
  clear h hR
  go_enter Try.func57, Try.ntmps57
  go_wp2_with fail
  go_loopw [8] (fun i wr => ∃ k : Nat, k ≤ 2 ∧ i = .int .i64 k ∧ Hid ((1 ≤ k → x = 0) ∧ (2 ≤ k → y = 0)) ∧ Below w.heap.size w wr) (fun i _ => 2 - (intOf i).toNat)
  case atStart => exact ⟨0, Nat.zero_le _, rfl, Lib.hid ⟨fun h => absurd h (by omega), fun h => absurd h (by omega)⟩, Below.refl _ _⟩
  case round =>
    obtain ⟨k, hk, rfl, hz, hq⟩ := hrel
    have hk0 : (0 : Int) ≤ (k : Int) := by omega
    by_cases hlt : (k : Int) < 2
    · have hk2 : k < 2 := by omega
      obtain ⟨a1, rfl, _, e1⟩ := (HA.out.below (hq.mono hB)).numAt (k := k) (by simpa using hk2)
      have HATk := Lib.hid (HAT.out k hk2 hz.out.1)
      have HZ : Hid ([x, y].getD k 0 = 0 → (1 ≤ k + 1 → x = 0) ∧ (2 ≤ k + 1 → y = 0)) := Lib.hid (fun h => by
        match k, hk2 with
        | 0, _ => exact ⟨fun _ => by simpa using h, fun h => absurd h (by omega)⟩
        | 1, _ => exact ⟨fun _ => hz.out.1 (Nat.le_refl _), fun _ => by simpa using h⟩)
      generalize [x, y].getD k 0 = z at e1 HATk HZ
      have hk2' : (k : Int) < ((2 : Nat) : Int) := by omega
      clear HAT HR hz hk2
      by_cases hz0 : z = 0
      · have hzb : (z != 0) = false := by simp [hz0]
        have HT := Lib.hid (HZ.out hz0)
        clear HZ HATk hz0
        go_wp2_with fail
        go_roundw
        case rel => exact ⟨k + 1, by omega, by go_num, HT, hq⟩
        case measure => simp [intOf]; omega
      · have hzb : (z != 0) = true := by simp [hz0]
        obtain rfl : R = z := HATk.out hz0
        clear HZ HATk hz0
        go_wp2_with fail
        go_ret
        exact ⟨rfl, hq⟩
    · obtain rfl : R = 0 := by
        have h1 := hz.out.1 (by omega)
        have h2 := hz.out.2 (by omega)
        rw [← HR.out, if_pos h1, h2]
      clear HAT HR hz
      go_wp2_with fail
      go_ret
      exact ⟨rfl, hq⟩


set_option maxRecDepth 100000 in
set_option maxHeartbeats 2000000 in
theorem mostI_any {w : World} {B : Nat} {A : Option Addr} {n : Nat} {hs : List THull} (cl cb : Int) (c : Nat) (h : IsHulls w B A n hs) (hm : n ≤ 1048576) (hnc : n ≤ c) (L : List Int) (x : Bool) (hA : MostA ⟨cl, cb⟩ hs L x) (m : Nat) (hl : L.length = m) :
    Calls Try.prog 23 #[.agg #[.int .i64 cl, .int .i64 cb], .slice A n c] w fun e w' => ∃ g c', e = .returned (.tuple #[.slice (some ⟨g, 0, none⟩) m c', .bool x]) ∧
      w'.ownsRow w.heap.size 3 1 (.slice (some ⟨g, 0, none⟩) m c') m (L.map (.int .i64)) ∧ Below w.heap.size w w' := by
  have CAN := Lib.hid (fun W (hb : Below w.heap.size w W) => canPack_any cl cb c (h.below hb h.low) hm)
  have CF := Lib.hid (fun (hc : goodC ⟨cl, cb⟩) (hg : goodHs hs) s W g K q (hW : IsHulls W W.heap.size (some ⟨g, 0, none⟩) K (chosen hs s)) (hK : K ≤ 4) (hq : K ≤ q) => hasPacking_any cl cb q hW (by omega) hq hc (goodHs_sub hg (chosen_sub hs s)))
  have CH := Lib.hid (fun (hn4 : n ≤ 4) s (hs16 : s < 16) K (hK : (chosen hs s).length = K) W (hb : Below w.heap.size w W) => hullsOf_any s c (h.below hb h.low) hn4 hs16 K hK)
  have COR := Lib.hid (fun W g c x y (h : Has W W.heap.size (some ⟨g, 0, none⟩) ([x, y].map (.int .i64))) => or2_any c x y (Nat.le_refl W.heap.size) h)
  have CCM := Lib.hid (fun x y W => cmpInt_any x y W)
  have HH := Lib.hid h
  have HA := Lib.hid hA
  have HGD := Lib.hid (fun h => good_of (c := ⟨cl, cb⟩) (hs := hs) h)
  have HM := Lib.hid hl
  have HEMP := Lib.hid (fun (W : World) (hb : Below w.heap.size w W) => (World.ownsRow_made (size := 1) (e := 3) W #[] 0 hb.size (by unfold maxLen; omega) rfl))
  obtain ⟨xb, hxb⟩ : ∃ x, w.heap.size = x := ⟨_, rfl⟩
  obtain ⟨W1, hW1⟩ : ∃ W, w.alloc (.cells #[.int .i64 cl, .int .i64 cb] 43) = W := ⟨_, rfl⟩
  have HB1 := Lib.hid (show Below w.heap.size w W1 by rw [← hW1]; exact below1 w _)
  have x0 : W1.cell? ⟨xb, 0, none⟩ = some (.int .i64 cl) := by rw [← hW1, ← hxb, sNew]; rfl
  have x1 : W1.cell? ⟨xb, 1, none⟩ = some (.int .i64 cb) := by rw [← hW1, ← hxb, sNew]; rfl
  have hlx := World.block_lt_of_cell? _ _ x0
  have X := Lib.hid (fun W (hq : Below W1.heap.size W1 W) => show W.cell? ⟨xb, 0, none⟩ = some (.int .i64 cl) ∧ W.cell? ⟨xb, 1, none⟩ = some (.int .i64 cb) from ⟨(hq.cell hlx).trans x0, (hq.cell (p := ⟨xb, 1, none⟩) hlx).trans x1⟩)
  have BW := Lib.hid (fun W (hq : Below W1.heap.size W1 W) => HB1.out.trans (hq.mono HB1.out.size))
  obtain ⟨R, hR⟩ : ∃ R, (decide (goodC ⟨cl, cb⟩) && gHs hs) = R := ⟨_, rfl⟩
  have HR := Lib.hid hR
  rw [hR] at CAN
  clear h hA hl hR hlx
  go_enter Try.func23, Try.ntmps23
  go_wp2_with fail
  try rw [hW1]
  clear hW1
  refine (CAN.out _ HB1.out).mono ?_
  rintro e w1 ⟨rfl, hb⟩
  have Q1 := Lib.hid hb
  clear hb CAN x0 x1
  cases R with
  | false =>
    obtain ⟨rfl, rfl⟩ := HA.out.bad HR.out
    obtain rfl : 0 = m := HM.out
    clear HA CF CH X
    go_wp2_with fail
    refine bodyPost_ret (results_tmp2 rfl _ _ _) rfl ?_
    exact ⟨_, 0, rfl, by first | exact HEMP.out _ (BW.out _ Q1.out) | (rw [← hxb]; exact HEMP.out _ (BW.out _ Q1.out)), by first | exact (BW.out _ Q1.out).alloc (BW.out _ Q1.out).size _ | (rw [← hxb]; exact (BW.out _ Q1.out).alloc (BW.out _ Q1.out).size _)⟩
  | true =>
    obtain ⟨hc, hg⟩ := HGD.out HR.out
    obtain ⟨hL, rfl⟩ := HA.out.yes hc hg
    have HL := Lib.hid hL
    have CFk := Lib.hid (CF.out hc hg)
    have hn4 : n ≤ 4 := by rw [← HH.out.len]; exact hg.1
    have CHk := Lib.hid (CH.out hn4)
    have HCL := Lib.hid (fun s => Nat.le_trans (chosenN_len hs s hs.length) hg.1)
    have HST := Lib.hid (fun s => mostN_no (c := ⟨cl, cb⟩) (hs := hs) (k := s))
    have HSY := Lib.hid (fun s => mostN_yes (c := ⟨cl, cb⟩) (hs := hs) (k := s))
    have O2 := Lib.hid (World.ownsRow_made (size := 1) (e := 3) w1 #[] 0 (base := W1.heap.size) Q1.out.size (by unfold maxLen; omega) rfl)
    have Q2 := Lib.hid (Q1.out.alloc Q1.out.size (.cells #[] 3))
    have hq1 := Q1.out.size
    have hp16 := pow16 hn4
    rw [HH.out.len] at HL
    obtain ⟨N, hN⟩ : ∃ N, 2 ^ n = N := ⟨_, rfl⟩
    have hNi : (2 : Int) ^ n = (N : Int) := by rw [← hN]; simp
    rw [hN] at HL hp16
    have HNE := Lib.hid hN
    clear HA CF CH hL hN HGD hc hg
    go_wp2_with fail
    go_loopw [6, 20] (fun v i wr => ∃ (s q g0 cp : Nat) (b : List Int), s ≤ N ∧ i = .int .i64 s ∧ Hid (mostN ⟨cl, cb⟩ hs s = b) ∧ Hid (b.length = q) ∧ q ≤ 4 ∧ v = .slice (some ⟨g0, 0, none⟩) q cp ∧ W1.heap.size ≤ g0 ∧
      wr.ownsRow W1.heap.size 3 1 (.slice (some ⟨g0, 0, none⟩) q cp) q (b.map (.int .i64)) ∧ Below W1.heap.size W1 wr) (fun _ i _ => N - (intOf i).toNat)
    case atStart => exact ⟨0, 0, _, 0, [], Nat.zero_le _, rfl, Lib.hid rfl, Lib.hid rfl, Nat.zero_le _, rfl, hq1, O2.out, Q2.out⟩
    case round =>
      clear O2 Q2
      obtain ⟨s, q, g0, cp, b, hsN, rfl, hmo, hbl, hq4, rfl, hg0, hown, hq⟩ := hrel
      by_cases hlt : (s : Int) < (N : Int)
      · obtain ⟨T, hT⟩ : ∃ T, chosen hs s = T := ⟨_, rfl⟩
        obtain ⟨K, hK⟩ : ∃ K, T.length = K := ⟨_, rfl⟩
        have hK4 : K ≤ 4 := by have := HCL.out s; rw [show chosenN hs s hs.length = T from hT, hK] at this; exact this
        have CHs := Lib.hid (CHk.out s (by omega) K (by rw [hT]; exact hK))
        have CFs := Lib.hid (CFk.out s)
        have HSTs := Lib.hid (HST.out s)
        have HSYs := Lib.hid (HSY.out s)
        rw [hT, hmo.out] at HSTs
        rw [hT, hmo.out] at HSYs
        rw [hT] at CHs CFs
        have HIL : Hid ((idsOf T).length = K) := Lib.hid (by rw [List.length_map]; exact hK)
        have HBET := Lib.hid (better_or (idsOf T) b)
        rw [HIL.out, hbl.out] at HBET
        obtain ⟨F, hF⟩ : ∃ F, fits ⟨cl, cb⟩ T = F := ⟨_, rfl⟩
        rw [hF] at CFs HSTs HSYs
        obtain ⟨BT, hBT⟩ : ∃ BT, betterL (idsOf T) b = BT := ⟨_, rfl⟩
        rw [hBT] at HSTs HSYs HBET
        have Q := Lib.hid hq
        have O := Lib.hid hown
        have hw1 := hq.size
        have CID := Lib.hid (fun (W : World) g c (h : IsHulls W W.heap.size (some ⟨g, 0, none⟩) K T) => idsOf_any c h hK4)
        have CLE := Lib.hid (fun (W : World) g1 g2 c1 c2 (h1 : Has W W.heap.size (some ⟨g1, 0, none⟩) ((idsOf T).map (.int .i64))) (h2 : Has W W.heap.size (some ⟨g2, 0, none⟩) (b.map (.int .i64))) => sliceCmp_any q K c2 c1 b (idsOf T) hbl.out HIL.out (by omega) (by omega) (Nat.le_refl _) h2 h1)
        have CCk := Lib.hid (CCM.out (K : Int) (q : Int))
        obtain ⟨C1, hC1⟩ : ∃ z, cmpI (K : Int) (q : Int) = z := ⟨_, rfl⟩
        obtain ⟨C2, hC2⟩ : ∃ z, cmpL b (idsOf T) = z := ⟨_, rfl⟩
        rw [hC1] at CCk HBET
        rw [hC2] at CLE HBET
        have CORk := Lib.hid (fun W g c => COR.out W g c C1 C2)
        obtain ⟨ORV, hORV⟩ : ∃ z, (if C1 = 0 then C2 else C1) = z := ⟨_, rfl⟩
        rw [hORV] at CORk HBET
        have hbt : decide (0 < ORV) = BT := HBET.out
        have HBT := Lib.hid hbt
        have hlt' : s < N := by omega
        clear hT hK hF hBT hq hown HCL CFk CHk HST HSY hmo hC1 hC2 hORV HBET COR CCM hbt
        go_wp2_with fail
        refine (CHs.out wr (BW.out _ Q.out)).mono ?_
        rintro e w4 ⟨g1, c1, rfl, hkc, ho1, hb⟩
        have Q4 := Lib.hid (Q.out.trans (hb.mono Q.out.size))
        have O4 := Lib.hid (own_below O.out hb)
        have H4 := Lib.hid (own_Hulls ho1)
        clear hb ho1 Q O CHs
        go_wp2_with fail
        refine (CID.out w4 g1 c1 H4.out).mono ?_
        rintro e w5 ⟨g2, c2, rfl, ho2, hb⟩
        have Q5 := Lib.hid (Q4.out.trans (hb.mono Q4.out.size))
        have O5 := Lib.hid (own_below O4.out hb)
        have I5 := Lib.hid (own_low ho2 Q4.out.size)
        have H5 := Lib.hid ((H4.out.below hb (Nat.le_refl _)).all)
        have hg2 : W1.heap.size ≤ g2 := Nat.le_trans Q4.out.size (ho2.lt g2 rfl).1
        clear hb ho2 Q4 O4 H4 CID
        go_wp2_with fail
        refine (CCk.out _).mono ?_
        rintro e w6 ⟨rfl, rfl⟩
        clear CCk
        go_wp2_with fail
        refine (CLE.out w5 g2 g0 c2 cp (own_hasv I5.out) (own_hasv O5.out)).mono ?_
        rintro e w6 ⟨rfl, hb⟩
        have Q6 := Lib.hid (Q5.out.trans (hb.mono Q5.out.size))
        have O6 := Lib.hid (own_below O5.out hb)
        have I6 := Lib.hid (own_below I5.out hb)
        have H6 := Lib.hid ((H5.out.below hb (Nat.le_refl _)).all)
        have HNEW := Lib.hid (show Has (w6.alloc (.cells #[.int .i64 C1, .int .i64 C2] 3)) (w6.alloc (.cells #[.int .i64 C1, .int .i64 C2] 3)).heap.size (some ⟨w6.heap.size, 0, none⟩) ([C1, C2].map (.int .i64)) from fun j u hu => ⟨_, rfl, by simp, cell_two_new w6 _ _ _ j u hu⟩)
        clear hb CLE Q5 O5 I5 H5
        go_wp2_with fail
        refine (CORk.out _ _ _ HNEW.out).mono ?_
        rintro e w7 ⟨rfl, hb⟩
        have hb7 := ((Below.refl w6.heap.size w6).alloc (Nat.le_refl _) (.cells #[.int .i64 C1, .int .i64 C2] 3)).trans (hb.mono (by simp))
        have Q7 := Lib.hid (Q6.out.trans (hb7.mono Q6.out.size))
        have O7 := Lib.hid (own_below O6.out hb7)
        have I7 := Lib.hid (own_below I6.out hb7)
        have H7 := Lib.hid ((H6.out.below hb7 (Nat.le_refl _)).all)
        obtain ⟨x0, x1⟩ := X.out _ Q7.out
        clear hb hb7 CORk Q6 O6 I6 H6 HNEW
        by_cases hpos : 0 < ORV
        · obtain rfl : BT = true := by rw [← HBT.out]; exact decide_eq_true hpos
          clear HBT
          go_wp2_with fail
          refine (CFs.out w7 g1 K c1 H7.out hK4 hkc).mono ?_
          rintro e w8 ⟨rfl, hb⟩
          have Q8 := Lib.hid (Q7.out.trans (hb.mono Q7.out.size))
          have O8 := Lib.hid (own_below O7.out hb)
          have I8 := Lib.hid (own_below I7.out hb)
          clear hb CFs x0 x1
          cases F with
          | false =>
            have HN := Lib.hid (HSTs.out (.inr rfl))
            clear HSTs HSYs
            go_wp2_with fail
            go_roundw
            case rel => exact ⟨s + 1, q, g0, cp, b, by omega, by go_num, HN, hbl, hq4, rfl, hg0, O8.out, Q8.out⟩
            case measure => simp [intOf]; omega
          | true =>
            have HN := Lib.hid (HSYs.out (by first | exact rfl | trivial) (by first | exact rfl | trivial))
            clear HSTs HSYs
            go_wp2_with fail
            go_roundw
            case rel => exact ⟨s + 1, K, g2, c2, idsOf T, by omega, by go_num, HN, HIL, hK4, rfl, hg2, I8.out, Q8.out⟩
            case measure => simp [intOf]; omega
        · obtain rfl : BT = false := by rw [← HBT.out]; exact decide_eq_false hpos
          have HN := Lib.hid (HSTs.out (.inl rfl))
          clear HBT HSTs HSYs CFs
          go_wp2_with fail
          go_roundw
          case rel => exact ⟨s + 1, q, g0, cp, b, by omega, by go_num, HN, hbl, hq4, rfl, hg0, O7.out, Q7.out⟩
          case measure => simp [intOf]; omega
      · obtain rfl : s = N := by omega
        obtain rfl : q = m := by rw [← hbl.out, ← HM.out, HL.out, hmo.out]
        have HB : Hid (L = b) := Lib.hid (HL.out.trans hmo.out)
        have O5 := Lib.hid (own_low hown HB1.out.size)
        have Q := Lib.hid hq
        clear HST HSY CFk CHk hown hq hmo HL hbl HNE
        obtain rfl := HB.out
        go_wp2_with fail
        refine bodyPost_ret (results_tmp2 rfl _ _ _) rfl ?_
        exact ⟨g0, cp, rfl, by first | exact O5.out | (rw [← hxb]; exact O5.out), by first | exact BW.out _ Q.out | (rw [← hxb]; exact BW.out _ Q.out)⟩
end Go.Proofs.Ytkdolpgnaabdaab
