/- Chapter 4: FewestLockages of the program. -/
import Derived.Test.YtkdolpgnaabdaabChU
namespace Go.Proofs.Ytkdolpgnaabdaab
open Go.RowKit Go.PlainAid Go.Sort
set_option linter.unusedVariables false
set_option linter.unusedSimpArgs false

/-- The entry of the program's table. -/
def encN (n : Nat) : Option Nat → Int
  | none => (n : Int) + 1
  | some m => (m : Int)
theorem encN_take {n : Nat} {q u : Option Nat} (hq : ∀ a, q = some a → a ≤ n) (hu : ∀ m, u = some m → m ≤ n) : encN n (minO q (u.map (· + 1))) = min (encN n q) (1 + encN n u) := by
  cases u with
  | none =>
    rw [Option.map_none, minO_none]
    cases q with
    | none => show (n : Int) + 1 = min ((n : Int) + 1) (1 + ((n : Int) + 1)); omega
    | some a => have := hq a rfl; show (a : Int) = min (a : Int) (1 + ((n : Int) + 1)); omega
  | some m =>
    have := hu m rfl
    cases q with
    | none => show ((m + 1 : Nat) : Int) = min ((n : Int) + 1) (1 + (m : Int)); omega
    | some a => have := hq a rfl; show ((min a (m + 1) : Nat) : Int) = min (a : Int) (1 + (m : Int)); omega
theorem and_next : ∀ p : Nat, p < 16 → 0 < p → ∀ s : Nat, s < 16 → bits BinOp.and IntKind.i64 ((p : Int) - 1) (s : Int) = (((p - 1) &&& s : Nat) : Int) := by decide +kernel
/-- The table is right below s. -/
def TabR (f : Nat → Bool) (n : Nat) (ys : List Value) (s : Nat) : Prop := ∀ j, j < s → ∃ o, FewR f j o ∧ ys[j]? = some (.int .i64 (encN n o))
theorem TabR.set {f : Nat → Bool} {n : Nat} {ys : List Value} {s : Nat} (h : TabR f n ys s) (v : Value) : TabR f n (ys.set s v) s := fun j hj => by
  obtain ⟨o, h1, h2⟩ := h j hj
  exact ⟨o, h1, by rw [List.getElem?_set_ne (by omega)]; exact h2⟩
theorem TabR.next {f : Nat → Bool} {n : Nat} {ys : List Value} {s : Nat} (h : TabR f n ys s) {q : Option Nat} (hq : FewR f s q) (hx : ys[s]? = some (.int .i64 (encN n q))) : TabR f n ys (s + 1) := fun j hj => by
  rcases Nat.lt_succ_iff_lt_or_eq.1 hj with g | g
  · exact h j g
  · subst g; exact ⟨q, hq, hx⟩

set_option maxRecDepth 100000 in
set_option maxHeartbeats 2000000 in
theorem fewI_any {w : World} {B : Nat} {A : Option Addr} {n : Nat} {hs : List THull} (cl cb : Int) (c : Nat) (h : IsHulls w B A n hs) (hm : n ≤ 1048576) (hnc : n ≤ c) (x : Int) (y : Bool) (hA : FewA ⟨cl, cb⟩ hs x y) :
    Calls Try.prog 25 #[.agg #[.int .i64 cl, .int .i64 cb], .slice A n c] w fun e w' => e = .returned (.tuple #[.int .i64 x, .bool y]) ∧ Below w.heap.size w w' := by
  obtain ⟨i0, hi, hz0, hz1, hz2⟩ := info_parts Try.infoI'
  have CAN := Lib.hid (fun W (hb : Below w.heap.size w W) => canPack_any cl cb c (h.below hb h.low) hm)
  have CF := Lib.hid (fun (hc : goodC ⟨cl, cb⟩) (hg : goodHs hs) s W g K q (hW : IsHulls W W.heap.size (some ⟨g, 0, none⟩) K (chosen hs s)) (hK : K ≤ 4) (hq : K ≤ q) => hasPacking_any cl cb q hW (by omega) hq hc (goodHs_sub hg (chosen_sub hs s)))
  have CH := Lib.hid (fun (hn4 : n ≤ 4) s (hs16 : s < 16) K (hK : (chosen hs s).length = K) W (hb : Below w.heap.size w W) => hullsOf_any s c (h.below hb h.low) hn4 hs16 K hK)
  have HH := Lib.hid h
  have HA := Lib.hid hA
  have HGD := Lib.hid (fun h => good_of (c := ⟨cl, cb⟩) (hs := hs) h)
  obtain ⟨xb, hxb⟩ : ∃ x, w.heap.size = x := ⟨_, rfl⟩
  obtain ⟨W1, hW1⟩ : ∃ W, w.alloc (.cells #[.int .i64 cl, .int .i64 cb] 43) = W := ⟨_, rfl⟩
  have HB1 := Lib.hid (show Below w.heap.size w W1 by rw [← hW1]; exact below1 w _)
  have x0 : W1.cell? ⟨xb, 0, none⟩ = some (.int .i64 cl) := by rw [← hW1, ← hxb, sNew]; rfl
  have x1 : W1.cell? ⟨xb, 1, none⟩ = some (.int .i64 cb) := by rw [← hW1, ← hxb, sNew]; rfl
  have hlx := World.block_lt_of_cell? _ _ x0
  have X := Lib.hid (fun W (hq : Below W1.heap.size W1 W) => show W.cell? ⟨xb, 0, none⟩ = some (.int .i64 cl) ∧ W.cell? ⟨xb, 1, none⟩ = some (.int .i64 cb) from ⟨(hq.cell hlx).trans x0, (hq.cell (p := ⟨xb, 1, none⟩) hlx).trans x1⟩)
  have BW := Lib.hid (fun W (hq : Below W1.heap.size W1 W) => HB1.out.trans (hq.mono HB1.out.size))
  obtain ⟨R, hR⟩ : ∃ R, (decide (goodC ⟨cl, cb⟩) && gHs hs) = R := ⟨_, rfl⟩
  have HR := Lib.hid hR
  rw [hR] at CAN
  clear h hA hR hlx
  go_enter Try.func25, Try.ntmps25
  go_wp2_with fail
  try rw [hW1]
  clear hW1
  refine (CAN.out _ HB1.out).mono ?_
  rintro e w1 ⟨rfl, hb⟩
  have Q1 := Lib.hid hb
  clear hb CAN x0 x1
  cases R with
  | false =>
    obtain ⟨rfl, rfl⟩ := HA.out.bad HR.out
    clear HA CF CH X
    go_wp2_with fail
    refine bodyPost_ret (results_tmp2 rfl _ _ _) rfl ?_
    exact ⟨rfl, by first | exact BW.out _ Q1.out | (rw [← hxb]; exact BW.out _ Q1.out)⟩
  | true =>
    obtain ⟨hc, hg⟩ := HGD.out HR.out
    have hn4 : n ≤ 4 := by rw [← HH.out.len]; exact hg.1
    have HY := Lib.hid (fun o => HA.out.yes o hc hg)
    have CFk := Lib.hid (CF.out hc hg)
    have CHk := Lib.hid (CH.out hn4)
    have HCL := Lib.hid (fun s => Nat.le_trans (chosenN_len hs s hs.length) hg.1)
    have HFG := Lib.hid (fun p => show fitG ⟨cl, cb⟩ hs p = fits ⟨cl, cb⟩ (chosen hs p) from rfl)
    rw [HH.out.len] at HY
    obtain ⟨f, hf⟩ : ∃ f, fitG ⟨cl, cb⟩ hs = f := ⟨_, rfl⟩
    rw [hf] at HFG HY
    obtain ⟨N, hN⟩ : ∃ N, 2 ^ n = N := ⟨_, rfl⟩
    have hN0 : 0 < N := by rw [← hN]; exact Nat.two_pow_pos n
    have hN16 : N ≤ 16 := by rw [← hN]; exact pow16 hn4
    have HBD := Lib.hid (fun s (hs' : s < N) m (hm : Grp f s m) => grp_le hm hn4 (by rw [hN]; exact hs'))
    have hNi : (2 : Int) ^ n = (N : Int) := by rw [← hN]; simp
    rw [hN] at HY
    obtain ⟨M, hM⟩ : ∃ M, N = M + 1 := ⟨N - 1, by omega⟩
    have hN2 : (N : Int) - 1 = (M : Int) := by omega
    have hN3 : (M : Int) + 1 = (N : Int) := by omega
    rw [show N - 1 = M by omega] at HY
    have HMN := Lib.hid hM
    clear hM
    have hq1 := Q1.out.size
    clear HA CF CH HGD hc hg hf hN
    go_wp2_with (at_make; refine wpList_make_full _ rfl _ _ 25 rfl w1.heap.size 3 i0 (.int .i64 0) 1 Try.underlying25 hi hz0 hz1 _ _ _ _ N rfl rfl rfl rfl ?b2 ?b3 (Nat.le_refl _) ?_)
    case b2 => rw [hz2]; omega
    case b3 => unfold maxLen; omega
    intro w2 hown2 hgrow2
    rw [toList_madeCells_one] at hown2
    obtain ⟨gt, hgt⟩ : ∃ g, w1.heap.size = g := ⟨_, rfl⟩
    have Q2 := Lib.hid (Q1.out.grown hgrow2 Q1.out.size (fun k h => by cases h))
    have O2 := Lib.hid (own_low hown2 hq1)
    rw [hgt] at O2 hq1
    simp only [hgt]
    have HT1 : Hid (TabR f n (List.replicate N (.int .i64 0)) 1) := Lib.hid (fun j hj => ⟨some 0, by rw [show j = 0 by omega]; exact FewR.zero f, by rw [show j = 0 by omega, List.getElem?_replicate, if_pos hN0]; rfl⟩)
    clear hown2 hgrow2 hgt Q1
    go_wp2_with fail
    go_loopw [8] (fun i wr => ∃ (s : Nat) (ys : List Value), 1 ≤ s ∧ s ≤ N ∧ i = .int .i64 s ∧ Hid (TabR f n ys s) ∧ wr.ownsRow W1.heap.size 3 1 (.slice (some ⟨gt, 0, none⟩) N N) N ys ∧ Below W1.heap.size W1 wr) (fun i _ => N - (intOf i).toNat)
    case atStart => exact ⟨1, _, Nat.le_refl _, by omega, rfl, HT1, O2.out, Q2.out⟩
    case round =>
      clear HT1 O2 Q2
      obtain ⟨s, ys, hs1, hsN, rfl, hT, hown, hq⟩ := hrel
      by_cases hlt : (s : Int) ≤ (M : Int)
      · have hsN' : s < N := by have := HMN.out; omega
        have hyl : ys.length = N := by have := hown.1; omega
        have hs0 : (0 : Int) ≤ (s : Int) := by omega
        have hs2 : (s : Int) < (N : Int) := by omega
        obtain ⟨v0, g0⟩ : ∃ v, wr.cell? ⟨gt, s, none⟩ = some v := ⟨_, (hown.cellAt _ (by omega)).trans (List.getElem?_eq_getElem (by omega))⟩
        have r0 := hown.frozenAt s
        have s1 := hown.stored s (.int .i64 ((n : Int) + 1))
        have O3 := Lib.hid s1.1
        have Q3 := Lib.hid (hq.setCell (p := ⟨gt, s, none⟩) hq1 (.int .i64 ((n : Int) + 1)))
        have HT3 := Lib.hid (hT.out.set (.int .i64 ((n : Int) + 1)))
        have HE3 : Hid ((ys.set s (.int .i64 ((n : Int) + 1)))[s]? = some (.int .i64 (encN n none))) := Lib.hid (by rw [List.getElem?_set_self (by omega)]; rfl)
        have HST : Hid (PartR f s (fun z => s < z) none) := Lib.hid ⟨fun _ h => (nomatch h), fun p k hp h0 h1 => by have := part_le h1; exact absurd hp (by omega)⟩
        clear hT hown hq s1 hyl
        go_wp2_with fail
        obtain ⟨W3, hW3⟩ : ∃ W, wr.setCell ⟨gt, s, none⟩ (.int .i64 ((n : Int) + 1)) = W := ⟨_, rfl⟩
        rw [hW3] at O3 Q3 ⊢
        clear hW3 g0 r0
        go_loopw [9] (fun i wr => ∃ (p : Nat) (q : Option Nat) (ys : List Value), p ≤ s ∧ Hid (p &&& s = p) ∧ i = .int .i64 p ∧ Hid (PartR f s (fun z => p < z) q) ∧ Hid (TabR f n ys s) ∧ Hid (ys[s]? = some (.int .i64 (encN n q))) ∧ wr.ownsRow W1.heap.size 3 1 (.slice (some ⟨gt, 0, none⟩) N N) N ys ∧ Below W1.heap.size W1 wr) (fun i _ => (intOf i).toNat)
        case atStart => exact ⟨s, none, _, Nat.le_refl _, Lib.hid (Nat.and_self s), rfl, HST, HT3, HE3, O3.out, Q3.out⟩
        case round =>
          clear HST HT3 HE3 O3 Q3
          obtain ⟨p, q, zs, hps, hpa, rfl, hpr, hT, hE, hown, hq⟩ := hrel
          by_cases hp0 : 0 < (p : Int)
          · have hp0' : 0 < p := by omega
            have hnx := and_next p (by omega) hp0' s (by omega)
            have hnl := (next_part1 s (by omega) p (by omega) hp0').2
            have HNA := Lib.hid (next_part1 s (by omega) p (by omega) hp0').1
            have HNQ : Hid (∀ z, (p - 1) &&& s < z → z &&& s = z → p < z ∨ z = p) := Lib.hid (fun z hz hzs => by
              rcases Nat.lt_or_ge z p with g | g
              · have := next_part2 s (by omega) p (by omega) z (by omega) ⟨hpa.out, hzs, g⟩; omega
              · omega)
            obtain ⟨p', hp'⟩ : ∃ z, (p - 1) &&& s = z := ⟨_, rfl⟩
            rw [hp'] at hnx hnl HNA HNQ
            obtain ⟨T, hTT⟩ : ∃ T, chosen hs p = T := ⟨_, rfl⟩
            obtain ⟨K, hK⟩ : ∃ K, T.length = K := ⟨_, rfl⟩
            have hK4 : K ≤ 4 := by have := HCL.out p; rw [show chosenN hs p hs.length = T from hTT, hK] at this; exact this
            have CHp := Lib.hid (CHk.out p (by omega) K (by rw [hTT]; exact hK))
            have CFp := Lib.hid (CFk.out p)
            have HFp := HFG.out p
            rw [hTT] at CHp CFp HFp
            obtain ⟨F, hF⟩ : ∃ F, fits ⟨cl, cb⟩ T = F := ⟨_, rfl⟩
            rw [hF] at CFp HFp
            have HFP := Lib.hid HFp
            have Q := Lib.hid hq
            have O := Lib.hid hown
            obtain ⟨x0, x1⟩ := X.out _ hq
            have lx := World.block_lt_of_cell? _ _ x0
            clear hTT hK hF hq HFp hp' hown CHk CFk
            go_wp2_with fail
            refine region_inv (by kernel_rfl) (by kernel_rfl) (fun Fl9 ac W => ∃ (x39 x40 x41 x42 x43 : Value), ac = { tmps := #[Value.agg #[Value.int IntKind.i64 cl, Value.int IntKind.i64 cb], Value.slice A n c, Value.pointer (some ⟨xb, 0, none⟩), undef, Value.int IntKind.i64 0, Value.bool false, Value.int IntKind.i64 (M : Int), Value.slice (some ⟨gt, 0, none⟩) N N, Value.int IntKind.i64 (s : Int), Value.int IntKind.i64 (p : Int), Value.agg #[Value.int IntKind.i64 cl, Value.int IntKind.i64 cb], Value.slice A n c, Value.bool true, Value.bool false, Value.slice A n c, Value.int IntKind.i64 (n : Int), Value.int IntKind.i64 (N : Int), Value.int IntKind.i64 (M : Int), Value.int IntKind.i64 (M : Int), Value.int IntKind.i64 (N : Int), Value.slice (some ⟨gt, 0, none⟩) N N, Value.int IntKind.i64 (s : Int), Value.int IntKind.i64 (M : Int), Value.bool true, u24, u25, Value.slice (some ⟨gt, 0, none⟩) N N, Value.int IntKind.i64 (s : Int), Value.slice A n c, Value.int IntKind.i64 (n : Int), Value.int IntKind.i64 ((n : Int) + 1), Value.pointer (some ⟨gt, s, none⟩), Value.int IntKind.i64 (s : Int), Value.int IntKind.i64 (p : Int), Value.bool true, u35, u36, u37, u38, x39, x40, x41, x42, x43, u44, u45, u46, u47, u48, u49, u50, u51, u52, u53, u54, u55, u56, u57, u58, undef, undef, undef, undef, undef, undef, undef, undef, undef, undef, undef], defers := [] } ∧ Below wr.heap.size wr W ∧
                  (Fl9 0 = true → x39 = .agg #[.int .i64 cl, .int .i64 cb]) ∧
                  (Fl9 1 = true → x40 = .slice A n c) ∧
                  (Fl9 2 = true → x41 = .int .i64 (p : Int)) ∧
                  (Fl9 3 = true → ∃ g c1, x42 = .slice (some ⟨g, 0, none⟩) K c1 ∧ K ≤ c1 ∧ IsHulls W W.heap.size (some ⟨g, 0, none⟩) K T) ∧
                  (Fl9 4 = true → x43 = .bool F)) ?_ ?_ ?_
            · exact ⟨_, _, _, _, _, rfl, (Drawn.one wr 1).below _, (fun q0 => nomatch q0), (fun q0 => nomatch q0), (fun q0 => nomatch q0), (fun q0 => nomatch q0), (fun q0 => nomatch q0)⟩
            · intro Fl9 ac W i9 o9 hJ ho hL hdep K9 hK
              obtain ⟨x39, x40, x41, x42, x43, rfl, hB, hh0, hh1, hh2, hh3, hh4⟩ := hJ
              have hi9 : i9 < 5 := by simpa using (Array.getElem?_eq_some_iff.1 ho).1
              have C0 := (hB.cell lx).trans x0
              have C1 := (hB.cell (p := ⟨xb, 1, none⟩) lx).trans x1
              obtain rfl | rfl | rfl | rfl | rfl : i9 = 0 ∨ i9 = 1 ∨ i9 = 2 ∨ i9 = 3 ∨ i9 = 4 := by omega
              · -- operation 0
                cases ho
                go_simp
                exact hK _ _ ⟨_, _, _, _, _, rfl, hB, fun _ => rfl, hh1, hh2, hh3, hh4⟩
              · -- operation 1
                cases ho
                go_simp
                exact hK _ _ ⟨_, _, _, _, _, rfl, hB, hh0, fun _ => rfl, hh2, hh3, hh4⟩
              · -- operation 2
                cases ho
                go_simp
                exact hK _ _ ⟨_, _, _, _, _, rfl, hB, hh0, hh1, fun _ => rfl, hh3, hh4⟩
              · -- operation 3
                cases ho
                obtain rfl := hh1 (hdep ⟨1, .data⟩ (by simp) rfl)
                obtain rfl := hh2 (hdep ⟨2, .data⟩ (by simp) rfl)
                go_simp
                refine (CHp.out W (BW.out _ (Q.out.trans (hB.mono Q.out.size)))).mono ?_
                rintro e w9 ⟨g, c1, rfl, hkc, ho1, hb9⟩
                exact hK _ _ ⟨_, _, _, _, _, rfl, hB.trans (hb9.mono hB.size), hh0, hh1, hh2, fun _ => ⟨_, _, rfl, hkc, own_Hulls ho1⟩, hh4⟩
              · -- operation 4
                cases ho
                obtain rfl := hh0 (hdep ⟨0, .data⟩ (by simp) rfl)
                have hd3 := hdep ⟨3, .data⟩ (by simp) rfl
                obtain ⟨g, c1, rfl, hkc, hih⟩ := hh3 hd3
                go_simp
                refine (CFp.out W g K c1 hih hK4 hkc).mono ?_
                rintro e w9 ⟨rfl, hb9⟩
                exact hK _ _ ⟨_, _, _, _, _, rfl, hB.trans (hb9.mono hB.size), hh0, hh1, hh2, fun q0 => (fun ⟨g, c1, e, k, h⟩ => ⟨g, c1, e, k, (h.below hb9 (Nat.le_refl _)).all⟩) (hh3 q0), fun _ => rfl⟩
            intro Fl9 ac W hJ hall
            obtain ⟨x39, x40, x41, x42, x43, rfl, hB, hh0, hh1, hh2, hh3, hh4⟩ := hJ
            obtain rfl := hh0 (hall 0 (by decide))
            obtain rfl := hh1 (hall 1 (by decide))
            obtain rfl := hh2 (hall 2 (by decide))
            clear hh3
            obtain rfl := hh4 (hall 4 (by decide))
            clear hall
            have Q4 := Lib.hid (Q.out.trans (hB.mono Q.out.size))
            have O4 := Lib.hid (own_below O.out hB)
            clear x0 x1 lx hB Q O CHp CFp
            cases F with
            | false =>
              have HN : Hid (PartR f s (fun z => p' < z) q) := Lib.hid (hpr.out.skip p (fun h => by rw [HFP.out] at h; cases h.2) HNQ.out)
              clear HFP
              go_wp2_with fail
              go_roundw
              case rel => exact ⟨p', q, zs, by omega, HNA, by go_num, HN, hT, hE, O4.out, Q4.out⟩
              case measure => simp [intOf]; omega
            | true =>
              obtain ⟨u, hu, hyu⟩ := hT.out (s - p) (by omega)
              have HUb := Lib.hid (fun m (hm : u = some m) => HBD.out (s - p) (by omega) m (hu.is m hm))
              have HQb := Lib.hid (fun m (hm : q = some m) => HBD.out s (by omega) m (hpr.out.is m hm))
              have HN : Hid (PartR f s (fun z => p' < z) (minO q (u.map (· + 1)))) := Lib.hid (hpr.out.take p hp0' hpa.out HFP.out hu HNQ.out)
              have HTK := Lib.hid (encN_take HQb.out HUb.out)
              have hzl : zs.length = N := by have := O4.out.1; omega
              have c1 := (O4.out.cellAt s (by omega)).trans hE.out
              have c2 := (O4.out.cellAt (s - p) (by omega)).trans hyu
              have r1 := O4.out.frozenAt s
              have hsp : (s : Int) - (p : Int) = ((s - p : Nat) : Int) := by omega
              have hsp0 : (0 : Int) ≤ ((s - p : Nat) : Int) := by omega
              have hsp1 : ((s - p : Nat) : Int) < (N : Int) := by omega
              have hb1 : 0 ≤ encN n q ∧ encN n q ≤ 5 := by
                cases q with
                | none => show 0 ≤ (n : Int) + 1 ∧ (n : Int) + 1 ≤ 5; omega
                | some a => have := HQb.out a rfl; show 0 ≤ (a : Int) ∧ (a : Int) ≤ 5; omega
              have hb2 : 0 ≤ encN n u ∧ encN n u ≤ 5 := by
                cases u with
                | none => show 0 ≤ (n : Int) + 1 ∧ (n : Int) + 1 ≤ 5; omega
                | some a => have := HUb.out a rfl; show 0 ≤ (a : Int) ∧ (a : Int) ≤ 5; omega
              have HTS := Lib.hid (fun v => hT.out.set v)
              have HES := Lib.hid (fun (v : Value) => show (zs.set s v)[s]? = some v by rw [List.getElem?_set_self (by omega)])
              generalize encN n q = a at c1 hb1 HTK
              generalize encN n u = b at c2 hb2 HTK
              clear HFP hu hyu hzl HUb HQb hT hE
              by_cases hab : 1 + b < a
              · have HNV : Hid (encN n (minO q (u.map (· + 1))) = 1 + b) := Lib.hid (by rw [HTK.out]; omega)
                have s1 := Lib.hid (O4.out.stored s (.int .i64 (1 + b)))
                have hbl : -100 ≤ 1 + b ∧ 1 + b ≤ 100 := by omega
                clear HTK
                go_wp2_with fail
                go_region
                go_wp2_with fail
                go_roundw
                case rel => exact ⟨p', minO q (u.map (· + 1)), _, by omega, HNA, by go_num, HN, Lib.hid (HTS.out (.int .i64 (1 + b))), Lib.hid (by rw [HNV.out]; exact HES.out _), (Drawn.one _ 1).own s1.out.1, (Q4.out.setCell (p := ⟨gt, s, none⟩) hq1 _).trans ((Drawn.one _ 1).below _)⟩
                case measure => simp [intOf]; omega
              · have HNV : Hid (encN n (minO q (u.map (· + 1))) = a) := Lib.hid (by rw [HTK.out]; omega)
                have s1 := Lib.hid (O4.out.stored s (.int .i64 (a)))
                have hbl : -100 ≤ a ∧ a ≤ 100 := by omega
                clear HTK
                go_wp2_with fail
                go_region
                go_wp2_with fail
                go_roundw
                case rel => exact ⟨p', minO q (u.map (· + 1)), _, by omega, HNA, by go_num, HN, Lib.hid (HTS.out (.int .i64 (a))), Lib.hid (by rw [HNV.out]; exact HES.out _), (Drawn.one _ 1).own s1.out.1, (Q4.out.setCell (p := ⟨gt, s, none⟩) hq1 _).trans ((Drawn.one _ 1).below _)⟩
                case measure => simp [intOf]; omega
          · obtain rfl : p = 0 := by omega
            have HF : Hid (FewR f s q) := Lib.hid (hpr.out.all (by omega) (fun z hz _ => hz))
            have HN := Lib.hid (hT.out.next HF.out hE.out)
            clear hpr hpa HF
            go_wp2_with fail
            go_roundw
            case rel => exact ⟨s + 1, zs, by omega, by omega, by go_num, HN, hown, hq⟩
            case measure => simp [intOf]; omega
      · obtain rfl : s = N := by have := HMN.out; omega
        obtain ⟨o, ho, hyo⟩ := hT.out M (by have := HMN.out; omega)
        obtain ⟨hno, hyes⟩ := HY.out o ho
        have hyl : ys.length = s := by have := hown.1; omega
        have c1 := (hown.cellAt M (by have := HMN.out; omega)).trans hyo
        have hM0 : (0 : Int) ≤ (M : Int) := by omega
        have hM1 : (M : Int) < (s : Int) := by have := HMN.out; omega
        have Q := Lib.hid hq
        have HBo := Lib.hid (fun m (hm : o = some m) => HBD.out M (by have := HMN.out; omega) m (ho.is m hm))
        clear hT hown hq ho hyo hyl HY CFk CHk
        cases o with
        | none =>
          obtain ⟨rfl, rfl⟩ := hno rfl
          have he : encN n none = (n : Int) + 1 := rfl
          rw [he] at c1
          clear hno hyes he
          go_wp2_with fail
          refine bodyPost_ret (results_tmp2 rfl _ _ _) rfl ?_
          exact ⟨rfl, by first | exact BW.out _ Q.out | (rw [← hxb]; exact BW.out _ Q.out)⟩
        | some m =>
          obtain ⟨rfl, rfl⟩ := hyes m rfl
          have he : encN n (some m) = (m : Int) := rfl
          have hmn : (m : Int) ≤ (n : Int) := by have := HBo.out m rfl; omega
          rw [he] at c1
          clear hno hyes he
          go_wp2_with fail
          refine bodyPost_ret (results_tmp2 rfl _ _ _) rfl ?_
          exact ⟨rfl, by first | exact BW.out _ Q.out | (rw [← hxb]; exact BW.out _ Q.out)⟩
end Go.Proofs.Ytkdolpgnaabdaab
