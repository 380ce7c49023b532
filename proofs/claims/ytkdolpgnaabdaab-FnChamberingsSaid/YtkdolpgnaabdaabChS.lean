/- Chapter 4: MostHulls of the model and of the program. -/
import Derived.Test.YtkdolpgnaabdaabChR
import Derived.Test.YtkdolpgnaabdaabSt0
namespace Go.Proofs.Ytkdolpgnaabdaab
open Go.RowKit Go.PlainAid Go.Sort
set_option linter.unusedVariables false
set_option linter.unusedSimpArgs false

/-- What MostHulls answers. -/
structure MostA (c : TChamber) (hs : List THull) (L : List Int) (x : Bool) : Prop where
  bad : (decide (goodC c) && gHs hs) = false → L = [] ∧ x = false
  yes : goodC c → goodHs hs → L = mostN c hs (2 ^ hs.length) ∧ x = true
theorem mostA_ex (c : TChamber) (hs : List THull) : ∃ L x, MostA c hs L x := by
  by_cases h : (decide (goodC c) && gHs hs) = false
  · exact ⟨[], false, fun _ => ⟨rfl, rfl⟩, fun h1 h2 => by rw [decide_eq_true h1, gHs_yes h2] at h; cases h⟩
  · exact ⟨_, true, fun g => absurd g h, fun _ _ => ⟨rfl, rfl⟩⟩
theorem MostA.len {c : TChamber} {hs : List THull} {L : List Int} {x : Bool} (h : MostA c hs L x) : L.length ≤ 4 := by
  by_cases g : (decide (goodC c) && gHs hs) = false
  · rw [(h.bad g).1]; simp
  · obtain ⟨hc, hg⟩ := good_of (by simpa using g : (decide (goodC c) && gHs hs) = true)
    rw [(h.yes hc hg).1]
    exact Nat.le_trans (mostN_len c hs _) hg.1
theorem pow16 {n : Nat} (h : n ≤ 4) : 2 ^ n ≤ 16 := Nat.pow_le_pow_right (by omega) h

set_option maxRecDepth 100000 in
set_option maxHeartbeats 2000000 in
theorem mostS_any {w : World} {B : Nat} {A : Option Addr} {n : Nat} {hs : List THull} (cl cb : Int) (c : Nat) (h : IsHulls w B A n hs) (hm : n ≤ 1048576) (hnc : n ≤ c) (L : List Int) (x : Bool) (hA : MostA ⟨cl, cb⟩ hs L x) (m : Nat) (hl : L.length = m) :
    Calls Try.prog 24 #[.agg #[.int .i64 cl, .int .i64 cb], .slice A n c] w fun e w' => ∃ g c', e = .returned (.tuple #[.slice (some ⟨g, 0, none⟩) m c', .bool x]) ∧
      w'.ownsRow w.heap.size 3 1 (.slice (some ⟨g, 0, none⟩) m c') m (L.map (.int .i64)) ∧ Below w.heap.size w w' := by
  have CC := Lib.hid (fun W => l4Chamber_any cl cb W)
  have CG := Lib.hid (fun W (hb : Below w.heap.size w W) => l4Good_any c (h.below hb h.low) (Nat.le_trans hm (by unfold maxLen; omega)))
  have CF := Lib.hid (fun (hc : goodC ⟨cl, cb⟩) (hg : goodHs hs) s W g K q (hW : IsHulls W W.heap.size (some ⟨g, 0, none⟩) K (chosen hs s)) => l4Fits_any cl cb q hW hc (goodHs_sub hg (chosen_sub hs s)))
  have CH := Lib.hid (fun (hn4 : n ≤ 4) s (hs16 : s < 16) K (hK : (chosen hs s).length = K) W (hb : Below w.heap.size w W) => l4Chosen_any s c (h.below hb h.low) hn4 hs16 K hK)
  have HH := Lib.hid h
  have HA := Lib.hid hA
  have HGI := Lib.hid (gHs_iff hs)
  have HM := Lib.hid hl
  obtain ⟨xb, hxb⟩ : ∃ x, w.heap.size = x := ⟨_, rfl⟩
  obtain ⟨W1, hW1⟩ : ∃ W, w.alloc (.cells #[.int .i64 cl, .int .i64 cb] 43) = W := ⟨_, rfl⟩
  have HB1 := Lib.hid (show Below w.heap.size w W1 by rw [← hW1]; exact below1 w _)
  have x0 : W1.cell? ⟨xb, 0, none⟩ = some (.int .i64 cl) := by rw [← hW1, ← hxb, sNew]; rfl
  have x1 : W1.cell? ⟨xb, 1, none⟩ = some (.int .i64 cb) := by rw [← hW1, ← hxb, sNew]; rfl
  have HOW := Lib.hid (World.ownsRow_made (size := 1) (e := 3) W1 #[] 0 (Nat.le_refl _) (by unfold maxLen; omega) rfl)
  have HBe := Lib.hid ((Below.refl W1.heap.size W1).alloc (Nat.le_refl _) (.cells #[] 3))
  have hlx := World.block_lt_of_cell? _ _ x0
  clear h hA hl
  go_enter Try.func24, Try.ntmps24
  go_wp2_with fail
  try rw [hW1]
  obtain ⟨W2, hW2⟩ : ∃ W, W1.alloc (.cells #[] 3) = W := ⟨_, rfl⟩
  rw [hW2] at HOW HBe ⊢
  have X := Lib.hid (fun W (hq : Below W1.heap.size W1 W) => show W.cell? ⟨xb, 0, none⟩ = some (.int .i64 cl) ∧ W.cell? ⟨xb, 1, none⟩ = some (.int .i64 cb) from ⟨(hq.cell hlx).trans x0, (hq.cell (p := ⟨xb, 1, none⟩) hlx).trans x1⟩)
  have BW := Lib.hid (fun W (hq : Below W1.heap.size W1 W) => HB1.out.trans (hq.mono HB1.out.size))
  clear x0 x1 hlx hW1 hW2
  refine (CC.out _).mono ?_
  rintro e w1 ⟨rfl, hb⟩
  have Q1 := Lib.hid (HBe.out.trans (hb.mono HBe.out.size))
  have O1 := Lib.hid (own_below HOW.out hb)
  clear hb CC HOW HBe
  by_cases hc : goodC ⟨cl, cb⟩
  · rw [decide_eq_true hc]
    have HC := Lib.hid hc
    clear hc
    go_wp2_with fail
    refine (CG.out _ (BW.out _ Q1.out)).mono ?_
    rintro e w2 ⟨rfl, hb⟩
    have Q2 := Lib.hid (Q1.out.trans (hb.mono Q1.out.size))
    have O2 := Lib.hid (own_below O1.out hb)
    clear hb CG Q1 O1
    obtain ⟨G, hG⟩ : ∃ G, gHs hs = G := ⟨_, rfl⟩
    rw [hG] at HGI ⊢
    have HGE := Lib.hid hG
    clear hG
    cases G with
    | false =>
      obtain ⟨rfl, rfl⟩ := HA.out.bad (by rw [HGE.out, Bool.and_false])
      obtain rfl : 0 = m := HM.out
      clear HA CF HGI X CH
      go_wp2_with fail
      refine bodyPost_ret (results_tmp2 rfl _ _ _) rfl ?_
      exact ⟨_, 0, rfl, own_low O2.out HB1.out.size, by first | exact BW.out _ Q2.out | (rw [← hxb]; exact BW.out _ Q2.out)⟩
    | true =>
      have HG := Lib.hid (HGI.out.1 rfl)
      obtain ⟨hL, rfl⟩ := HA.out.yes HC.out HG.out
      have HL := Lib.hid hL
      have CFk := Lib.hid (CF.out HC.out HG.out)
      have hn4 : n ≤ 4 := by rw [← HH.out.len]; exact HG.out.1
      have CHk := Lib.hid (CH.out hn4)
      have HCL := Lib.hid (fun s => Nat.le_trans (chosenN_len hs s hs.length) HG.out.1)
      have HML := Lib.hid (fun s => Nat.le_trans (mostN_len ⟨cl, cb⟩ hs s) HG.out.1)
      have HST := Lib.hid (fun s => mostN_no (c := ⟨cl, cb⟩) (hs := hs) (k := s))
      have HSY := Lib.hid (fun s => mostN_yes (c := ⟨cl, cb⟩) (hs := hs) (k := s))
      have hp16 := pow16 hn4
      rw [HH.out.len] at HL
      clear HA CF HGI CH hL
      obtain ⟨N, hN⟩ : ∃ N, 2 ^ n = N := ⟨_, rfl⟩
      have hNi : (2 : Int) ^ n = (N : Int) := by rw [← hN]; simp
      rw [hN] at HL hp16
      have HNE := Lib.hid hN
      go_wp2_with fail
      go_loopw [6, 7] (fun v i wr => ∃ (s q g0 cp : Nat) (b : List Int), s ≤ N ∧ i = .int .i64 s ∧ Hid (mostN ⟨cl, cb⟩ hs s = b) ∧ Hid (b.length = q) ∧ q ≤ 4 ∧ v = .slice (some ⟨g0, 0, none⟩) q cp ∧ W1.heap.size ≤ g0 ∧
        wr.ownsRow W1.heap.size 3 1 (.slice (some ⟨g0, 0, none⟩) q cp) q (b.map (.int .i64)) ∧ Below W1.heap.size W1 wr) (fun _ i _ => N - (intOf i).toNat)
      case atStart => exact ⟨0, 0, _, 0, [], Nat.zero_le _, rfl, Lib.hid rfl, Lib.hid rfl, Nat.zero_le _, rfl, Nat.le_refl _, O2.out, Q2.out⟩
      case round =>
        clear O2 Q2
        obtain ⟨s, q, g0, cp, b, hsN, rfl, hmo, hbl, hq4, rfl, hg0, hown, hq⟩ := hrel
        by_cases hlt : (s : Int) < (N : Int)
        · obtain ⟨T, hT⟩ : ∃ T, chosen hs s = T := ⟨_, rfl⟩
          obtain ⟨K, hK⟩ : ∃ K, T.length = K := ⟨_, rfl⟩
          have hK4 : K ≤ 4 := by have := HCL.out s; rw [show chosenN hs s hs.length = T from hT, hK] at this; exact this
          have CHs := Lib.hid (CHk.out s (by omega) K (by rw [hT]; exact hK))
          have CFs := Lib.hid (CFk.out s)
          have HSTs := Lib.hid (HST.out s)
          have HSYs := Lib.hid (HSY.out s)
          rw [hT, hmo.out] at HSTs
          rw [hT, hmo.out] at HSYs
          rw [hT] at CHs CFs
          have HBET : Hid (betterL (idsOf T) b = (decide (q < K) || (decide (K = q) && lessL (idsOf T) b))) := Lib.hid (by unfold betterL; rw [List.length_map, hK, hbl.out])
          have HIL : Hid ((idsOf T).length = K) := Lib.hid (by rw [List.length_map]; exact hK)
          obtain ⟨F, hF⟩ : ∃ F, fits ⟨cl, cb⟩ T = F := ⟨_, rfl⟩
          rw [hF] at CFs HSTs HSYs
          obtain ⟨BT, hBT⟩ : ∃ BT, betterL (idsOf T) b = BT := ⟨_, rfl⟩
          rw [hBT] at HSTs HSYs HBET
          have Q := Lib.hid hq
          have O := Lib.hid hown
          have hw1 := hq.size
          have CLE := Lib.hid (fun (W : World) g1 g2 c1 c2 (h1 : Has W W.heap.size (some ⟨g1, 0, none⟩) ((idsOf T).map (.int .i64))) (h2 : Has W W.heap.size (some ⟨g2, 0, none⟩) (b.map (.int .i64))) => l4Less_any K q c1 c2 (idsOf T) b HIL.out hbl.out (by omega) (by omega) (Nat.le_refl _) h1 h2)
          obtain ⟨LR, hLR⟩ : ∃ r, lessL (idsOf T) b = r := ⟨_, rfl⟩
          rw [hLR] at CLE HBET
          have hlt' : s < N := by omega
          clear hT hK hF hBT hLR hq hown HCL HML CFk CHk HST HSY hmo
          go_wp2_with fail
          refine (CHs.out wr (BW.out _ Q.out)).mono ?_
          rintro e w4 ⟨g1, c1, g2, c2, rfl, hkc, ho1, ho2, hb⟩
          have Q4 := Lib.hid (Q.out.trans (hb.mono Q.out.size))
          have O4 := Lib.hid (own_below O.out hb)
          have I4 := Lib.hid (own_low ho2 hw1)
          have H4 := Lib.hid (own_Hulls ho1)
          have hg2 : W1.heap.size ≤ g2 := Nat.le_trans hw1 (ho2.lt g2 rfl).1
          obtain ⟨x0, x1⟩ := X.out _ Q4.out
          clear hb ho1 ho2 Q O CHs
          by_cases h1 : (K : Int) < (q : Int)
          · obtain rfl : BT = false := by rw [HBET.out, decide_eq_false (by omega), decide_eq_false (by omega)]; rfl
            have HN := Lib.hid (HSTs.out (.inl rfl))
            clear HSTs HSYs HBET CFs CLE
            go_wp2_with fail
            go_roundw
            case rel => exact ⟨s + 1, q, g0, cp, b, by omega, by go_num, HN, hbl, hq4, rfl, hg0, O4.out, Q4.out⟩
            case measure => simp [intOf]; omega
          · by_cases h2 : K = q
            · subst h2
              have hbt : BT = LR := by rw [HBET.out, decide_eq_false (by omega), decide_eq_true rfl]; cases LR <;> rfl
              subst hbt
              have hkk : ((K : Int) == (K : Int)) = true := by simp
              clear HBET
              go_wp2_with fail
              refine (CLE.out w4 g2 g0 c2 cp (own_hasv I4.out) (own_hasv O4.out)).mono ?_
              rintro e w5 ⟨rfl, hb⟩
              have Q5 := Lib.hid (Q4.out.trans (hb.mono Q4.out.size))
              have O5 := Lib.hid (own_below O4.out hb)
              have I5 := Lib.hid (own_below I4.out hb)
              have H5 := Lib.hid ((H4.out.below hb (Nat.le_refl _)).all)
              obtain ⟨y0, y1⟩ := X.out _ Q5.out
              clear hb CLE Q4 O4 I4 H4 x0 x1
              cases BT with
              | false =>
                have HN := Lib.hid (HSTs.out (.inl rfl))
                clear HSTs HSYs CFs
                go_wp2_with fail
                go_roundw
                case rel => exact ⟨s + 1, _, g0, cp, b, by omega, by go_num, HN, hbl, by assumption, rfl, hg0, O5.out, Q5.out⟩
                case measure => simp [intOf]; omega
              | true =>
                go_wp2_with fail
                refine (CFs.out w5 g1 K c1 H5.out).mono ?_
                rintro e w6 ⟨rfl, hb⟩
                have Q6 := Lib.hid (Q5.out.trans (hb.mono Q5.out.size))
                have O6 := Lib.hid (own_below O5.out hb)
                have I6 := Lib.hid (own_below I5.out hb)
                clear hb CFs y0 y1
                cases F with
                | false =>
                  have HN := Lib.hid (HSTs.out (.inr rfl))
                  clear HSTs HSYs
                  go_wp2_with fail
                  go_roundw
                  case rel => exact ⟨s + 1, _, g0, cp, b, by omega, by go_num, HN, hbl, by assumption, rfl, hg0, O6.out, Q6.out⟩
                  case measure => simp [intOf]; omega
                | true =>
                  have HN := Lib.hid (HSYs.out (by first | exact rfl | trivial) (by first | exact rfl | trivial))
                  clear HSTs HSYs
                  go_wp2_with fail
                  go_roundw
                  case rel => exact ⟨s + 1, K, g2, c2, idsOf T, by omega, by go_num, HN, HIL, hK4, rfl, hg2, I6.out, Q6.out⟩
                  case measure => simp [intOf]; omega
            · obtain rfl : BT = true := by rw [HBET.out, decide_eq_true (by omega)]; rfl
              have hkk : ((K : Int) == (q : Int)) = false := by simp; omega
              clear HBET CLE
              go_wp2_with fail
              refine (CFs.out w4 g1 K c1 H4.out).mono ?_
              rintro e w6 ⟨rfl, hb⟩
              have Q6 := Lib.hid (Q4.out.trans (hb.mono Q4.out.size))
              have O6 := Lib.hid (own_below O4.out hb)
              have I6 := Lib.hid (own_below I4.out hb)
              clear hb CFs x0 x1
              cases F with
              | false =>
                have HN := Lib.hid (HSTs.out (.inr rfl))
                clear HSTs HSYs
                go_wp2_with fail
                go_roundw
                case rel => exact ⟨s + 1, _, g0, cp, b, by omega, by go_num, HN, hbl, by assumption, rfl, hg0, O6.out, Q6.out⟩
                case measure => simp [intOf]; omega
              | true =>
                have HN := Lib.hid (HSYs.out (by first | exact rfl | trivial) (by first | exact rfl | trivial))
                clear HSTs HSYs
                go_wp2_with fail
                go_roundw
                case rel => exact ⟨s + 1, K, g2, c2, idsOf T, by omega, by go_num, HN, HIL, hK4, rfl, hg2, I6.out, Q6.out⟩
                case measure => simp [intOf]; omega
        · obtain rfl : s = N := by omega
          obtain rfl : q = m := by rw [← hbl.out, ← HM.out, HL.out, hmo.out]
          have HB : Hid (L = b) := Lib.hid (HL.out.trans hmo.out)
          have O5 := Lib.hid (own_low hown HB1.out.size)
          have Q := Lib.hid hq
          clear HST HSY CFk CHk hown hq hmo HL hbl HNE
          obtain rfl := HB.out
          go_wp2_with fail
          refine bodyPost_ret (results_tmp2 rfl _ _ _) rfl ?_
          exact ⟨g0, cp, rfl, by first | exact O5.out | (rw [← hxb]; exact O5.out), by first | exact BW.out _ Q.out | (rw [← hxb]; exact BW.out _ Q.out)⟩
  · rw [decide_eq_false hc]
    obtain ⟨rfl, rfl⟩ := HA.out.bad (by rw [decide_eq_false hc, Bool.false_and])
    obtain rfl : 0 = m := HM.out
    clear HA CF HGI hc CG X CH
    go_wp2_with fail
    refine bodyPost_ret (results_tmp2 rfl _ _ _) rfl ?_
    exact ⟨_, 0, rfl, own_low O1.out HB1.out.size, by first | exact BW.out _ Q1.out | (rw [← hxb]; exact BW.out _ Q1.out)⟩
end Go.Proofs.Ytkdolpgnaabdaab
