/- Chapter 8, the model: the best order. -/
import Derived.Test.YtdleidlmjliapaaLkK
import Derived.Test.YtdleidlmjliapaaLkY
namespace Go.Proofs.Ytdleidlmjliapaa
open Go.RowKit Go.PlainAid Go.Sort
set_option linter.unusedVariables false
set_option linter.unusedSimpArgs false

set_option maxRecDepth 100000 in
set_option maxHeartbeats 2000000 in
theorem l1Own_any {w : World} {base g n c : Nat} {L : List Int} (hm : n ≤ 1000) (h : w.ownsRow base 3 1 (.slice (some ⟨g, 0, none⟩) n c) n (L.map (.int .i64))) :
    Calls Try.prog 86 #[.slice (some ⟨g, 0, none⟩) n c] w fun e w' => ∃ g1 c1, e = .returned (.slice (some ⟨g1, 0, none⟩) n c1) ∧ w.heap.size ≤ g1 ∧ w'.ownsRow w.heap.size 3 1 (.slice (some ⟨g1, 0, none⟩) n c1) n (L.map (.int .i64)) ∧ Below w.heap.size w w' := by
  obtain ⟨i0, hi, hz0, hz1, hz2⟩ := info_parts Try.infoInt'
  have HOWN : Hid ((w.alloc (.cells #[] 3)).ownsRow w.heap.size 3 1 (.slice (some ⟨w.heap.size, 0, none⟩) 0 0) 0 []) := Lib.hid (World.ownsRow_made w #[] 0 (Nat.le_refl _) (by unfold maxLen; omega) rfl)
  have HB := Lib.hid (below1 w (.cells #[] 3))
  have hl := h.1
  have HNEW : Hid (∀ j u, (L.map (Value.int .i64))[j]? = some u → (w.alloc (.cells #[] 3)).cell? ((⟨g, 0, none⟩ : Addr).add j) = some u) := Lib.hid (fun j u hu => by
    have hj := (List.getElem?_eq_some_iff.1 hu).1
    rw [addO, Nat.zero_add]
    have h1 := h.cellAt j (by have := h.1; omega)
    rw [hu] at h1
    exact (HB.out.cell (World.block_lt_of_cell? _ _ h1)).trans h1)
  have HXO : Hid (∀ u ∈ L.map (Value.int .i64), u.oneCell' = true) := Lib.hid (fun u hu => by obtain ⟨q, -, rfl⟩ := List.mem_map.1 hu; rfl)
  have HLL := Lib.hid hl
  clear h hl
  generalize L.map (Value.int .i64) = xs at HNEW HXO HLL ⊢
  go_enter Try.func86, Try.ntmps86
  go_wp2_with (at_builtin; refine wpList_append_own _ rfl (.tmp 3) (.tmp 4) 46 rfl w.heap.size 3 i0 (.int .i64 0) 1 8 Try.underlying46 hi hz0 hz1 hz2 rfl (by decide) (.slice (some ⟨w.heap.size, 0, none⟩) 0 0) 0 _ rfl HOWN.out ⟨g, 0, none⟩ n c xs rfl HLL.out HNEW.out HXO.out (by unfold maxLen; omega) (by omega) HB.out.size ?_; intro v1 w1 hown1 hgrow1 hnil1; obtain ⟨g1, c1, rfl, hg1⟩ := own_some hown1 (fun e => nomatch (hnil1.1 e).1); have hb1 := HB.out.grown hgrow1 HB.out.size (fun q hq => by cases hq; exact Nat.le_refl _); clear hnil1 hgrow1)
  rw [Nat.zero_add, List.nil_append] at hown1
  have HF := Lib.hid (And.intro hg1 (And.intro hown1 hb1))
  clear hown1 hb1 hg1
  go_ret
  exact ⟨g1, c1, by simp, HF.out.1, HF.out.2.1, HF.out.2.2⟩
set_option maxRecDepth 100000 in
set_option maxHeartbeats 8000000 in
theorem l8Best_any {B : Nat} {A : Option Addr} {n : Nat} {vs : List TArrival} (c : Nat) (hm : n ≤ 6) (hg : goodAs vs) (hn : vs.length = n) (h : Bool) (m : Int) (hmm : 1 ≤ m ∧ m ≤ 60) : ∀ (f : Nat) (Bg : List Int) (w : World) (gb nb cb Bd : Nat), IsArrivals w B A n vs → w.ownsRow Bd 3 1 (.slice (some ⟨gb, 0, none⟩) nb cb) nb (Bg.map (.int .i64)) → Bd ≤ w.heap.size → Goes vs Bg f → nb + f = n →
    Calls Try.prog 59 #[.slice A n c, .bool h, .int .i64 m, .slice (some ⟨gb, 0, none⟩) nb cb] w fun e w' => ∃ gx cx q, e = .returned (.tuple #[.slice (some ⟨gx, 0, none⟩) q cx, .int .i64 (fm (dly vs m h) ([], MX) (exts vs f Bg)).2]) ∧
      w'.ownsRow Bd 3 1 (.slice (some ⟨gx, 0, none⟩) q cx) q ((fm (dly vs m h) ([], MX) (exts vs f Bg)).1.map (.int .i64)) ∧ Below w.heap.size w w' := by
  intro f
  induction f with
  | zero =>
    intro Bg w gb nb cb Bd hI hR hBd hgo hnf
    have hBl : Bg.length = nb := by have := hR.1; simpa using this
    have hor := hgo.ord hg Bg (by simp [exts])
    have hbd := dly_bd h hmm hor
    have hfm : fm (dly vs m h) ([], MX) (exts vs 0 Bg) = (Bg, dly vs m h Bg) := by
      show fmS (dly vs m h) ([], MX) Bg = _
      unfold fmS
      rw [if_pos (show dly vs m h Bg < MX by unfold MX; omega)]
    rw [hfm]
    have C := Lib.hid (l8Delay_any c cb hI hm (own_IsIs hR) (by omega) h m hmm hg (fun p hp => by rw [← hn]; exact hor.inn (by omega)))
    have HR := Lib.hid hR
    obtain rfl : nb = n := by omega
    clear hI hR hgo hBl hor hfm
    change Hid (Calls _ _ _ _ fun e w' => e = .returned (.int .i64 (dly vs m h Bg)) ∧ _) at C
    generalize dly vs m h Bg = z at C hbd ⊢
    go_enter Try.func59, Try.ntmps59
    go_wp2_with fail
    refine C.out.mono ?_
    rintro e w1 ⟨rfl, hb⟩
    have HB := Lib.hid hb
    have HR1 := Lib.hid (own_below HR.out hb)
    clear C HR hb
    go_wp2_with fail
    go_ret2
    exact ⟨gb, cb, nb, rfl, HR1.out, HB.out⟩
  | succ f ih =>
    intro Bg w gb nb cb Bd hI hR hBd hgo hnf
    obtain ⟨i0, hi, hz0, hz1, hz2⟩ := info_parts Try.infoInt'
    have hBl : Bg.length = nb := by have := hR.1; simpa using this
    have HIH := Lib.hid ih
    have HI := Lib.hid hI
    have HR := Lib.hid hR
    have HGO := Lib.hid hgo
    have HG := Lib.hid hg
    have HNL := Lib.hid hn
    have HMM := Lib.hid hmm
    have hnb : ((nb : Int) == (n : Int)) = false := by simp; omega
    have hn6 : nb ≤ 6 := by omega
    have CN := Lib.hid (fun (k : Nat) (hk : k < n) (W : World) (hb : Below w.heap.size w W) => l8Next_any c cb (hI.below hb hI.low) (by omega) ((own_IsIs hR).below hb (Nat.le_refl _)) (by omega) (k : Int) (by unfold inA; omega))
    have HEB := Lib.hid (fun k (hk : k ≤ n) O (hO : O ∈ extK vs f Bg k) => dly_bd h hmm (hgo.ord hg O (extK_sub (by omega) O hO)))
    have HEND : Hid (stB (dly vs m h) (extK vs f Bg n) = fm (dly vs m h) ([], MX) (exts vs (f + 1) Bg)) := Lib.hid (by rw [← hn, extK_end, stB_ne hgo.ne])
    have HST := Lib.hid (show (w.alloc (.cells #[] 3)).ownsRow Bd 3 1 (.slice (some ⟨w.heap.size, 0, none⟩) 0 0) 0 ([] : List Value) from own_low (World.ownsRow_made w #[] 0 (Nat.le_refl _) (by unfold maxLen; omega) rfl) hBd)
    clear ih hI hR hgo hg hn hmm hBl
    go_enter Try.func59, Try.ntmps59
    go_wp2_with fail
    go_loopw [10, 11, 12] (fun v z i wr => ∃ k : Nat, k ≤ n ∧ i = .int .i64 k ∧ z = .int .i64 (stB (dly vs m h) (extK vs f Bg k)).2 ∧ (∃ gx cx q, v = .slice (some ⟨gx, 0, none⟩) q cx ∧ wr.ownsRow Bd 3 1 (.slice (some ⟨gx, 0, none⟩) q cx) q ((stB (dly vs m h) (extK vs f Bg k)).1.map (.int .i64))) ∧ Below w.heap.size w wr) (fun _ _ i _ => n - (intOf i).toNat)
    case atStart => exact ⟨0, Nat.zero_le _, rfl, by rw [extK_zero, stB_nil], ⟨_, _, _, rfl, by rw [extK_zero, stB_nil]; exact HST.out⟩, (Below.refl _ _).alloc (Nat.le_refl _) _⟩
    case round =>
      obtain ⟨k, hk, rfl, rfl, ⟨gx, cx, q, rfl, hX⟩, hb⟩ := hrel
      have HX := Lib.hid hX
      have HB := Lib.hid hb
      clear hX hb HST
      by_cases hlt : k < n
      · have hk0 : (0 : Int) ≤ (k : Int) := by omega
        have hk1 : (k : Int) < (n : Int) := by omega
        obtain ⟨acc, hacc⟩ : ∃ x, stB (dly vs m h) (extK vs f Bg k) = x := ⟨_, rfl⟩
        have HAC := Lib.hid hacc
        rw [hacc] at HX ⊢
        clear hacc
        obtain ⟨aR, az⟩ := acc
        dsimp only at HX ⊢
        have CNk := Lib.hid (CN.out k hlt _ HB.out)
        obtain ⟨M, hM⟩ : ∃ M, nxA vs Bg (k : Int) = M := ⟨_, rfl⟩
        rw [hM] at CNk
        have HM := Lib.hid hM
        clear hM
        go_wp2_with fail
        refine CNk.out.mono ?_
        rintro e w2 ⟨rfl, hb2⟩
        have HB2 := Lib.hid (HB.out.trans (hb2.mono HB.out.size))
        have HX2 := Lib.hid (own_below HX.out hb2)
        clear hb2 HB HX CNk
        cases M with
        | false =>
          have HE := Lib.hid (extK_no (vs := vs) (f := f) (B := Bg) (k := k) HM.out)
          go_wp2_with fail
          go_roundw
          case rel => exact ⟨k + 1, by omega, by go_num, by rw [HE.out, HAC.out], ⟨gx, cx, q, rfl, by rw [HE.out, HAC.out]; exact HX2.out⟩, HB2.out⟩
          case measure => simp [intOf]; omega
        | true =>
          have HNX := Lib.hid (HGO.out.next (by rw [HNL.out]; exact hlt) ((nxA_iff _ _ _).1 HM.out))
          have HE := Lib.hid (extK_yes (vs := vs) (f := f) (B := Bg) (k := k) HM.out)
          have HSB := Lib.hid (stB_step (D := dly vs m h) HNX.out.ne (HEB.out k hk))
          rw [HAC.out] at HSB
          dsimp only at HSB
          have HRb := Lib.hid (own_below HR.out HB2.out)
          have CO := Lib.hid (l1Own_any (by omega) HRb.out)
          clear HM HAC
          go_wp2_with fail
          refine CO.out.mono ?_
          rintro e w3 ⟨g0, cp, rfl, hg0, hown, hb⟩
          clear CO
          have HBD := Lib.hid (Nat.le_trans hBd HB2.out.size)
          go_wp2_with (at_builtin; refine wpList_append_own _ rfl (.tmp 43) (.tmp 45) 46 rfl w2.heap.size 3 i0 (.int .i64 0) 1 8 Try.underlying46 hi hz0 hz1 hz2 rfl (by decide) (.slice (some ⟨g0, 0, none⟩) (nb) cp) (nb) _ rfl (hown.alloc _) ⟨w3.heap.size, 0, none⟩ 1 1 [.int .i64 (k : Int)] rfl rfl (cell_one_new _ _ _) (by simp [Value.oneCell']) (by unfold maxLen; omega) (by omega) (by have := (hb).size; simp; omega) ?_; intro v1 w1 hown1 hgrow1 hnil1; obtain ⟨g1, c1, rfl, hg1⟩ := own_some hown1 (fun e => nomatch (hnil1.1 e).1); have hb1 := ((hb).alloc (hb).size (.cells #[.int .i64 (k : Int)] 3)).grown hgrow1 (by have := (hb).size; simp; omega) (fun q hq => by cases hq; assumption); clear hnil1 hgrow1 hown hb)
          have HX4 := Lib.hid (own_below HX2.out hb1)
          have HB4 := Lib.hid (HB2.out.trans (hb1.mono HB2.out.size))
          have CR := Lib.hid (HIH.out (Bg ++ [(k : Int)]) w1 g1 (nb + 1) c1 Bd (HI.out.below HB4.out HI.out.low) (own_low (by rw [List.map_append]; exact hown1) HBD.out) (Nat.le_trans HBD.out hb1.size) HNX.out (by omega))
          obtain ⟨BL, hBL⟩ : ∃ x, fm (dly vs m h) ([], MX) (exts vs f (Bg ++ [(k : Int)])) = x := ⟨_, rfl⟩
          rw [hBL] at CR HSB
          clear hb1 hown1 HX2 hBL HRb hg0 hg1
          refine CR.out.mono ?_
          rintro e w5 ⟨gy, cy, qy, rfl, hY, hb5⟩
          have HX5 := Lib.hid (own_below HX4.out hb5)
          have HB5 := Lib.hid (HB4.out.trans (hb5.mono HB4.out.size))
          have HY := Lib.hid hY
          rw [← HE.out] at HSB
          clear hb5 hY CR HX4 HE HNX
          by_cases h1 : az < 0
          · have HF : Hid (stB (dly vs m h) (extK vs f Bg (k + 1)) = BL) := Lib.hid (by rw [HSB.out, if_pos (.inl h1)])
            clear HSB
            go_wp2_with fail
            go_roundw
            case rel => exact ⟨k + 1, by omega, by go_num, by rw [HF.out], ⟨_, _, _, rfl, by rw [HF.out]; exact HY.out⟩, HB5.out⟩
            case measure => simp [intOf]; omega
          · by_cases h2 : BL.2 < az
            · have HF : Hid (stB (dly vs m h) (extK vs f Bg (k + 1)) = BL) := Lib.hid (by rw [HSB.out, if_pos (.inr h2)])
              clear HSB
              go_wp2_with fail
              go_roundw
              case rel => exact ⟨k + 1, by omega, by go_num, by rw [HF.out], ⟨_, _, _, rfl, by rw [HF.out]; exact HY.out⟩, HB5.out⟩
              case measure => simp [intOf]; omega
            · have HF : Hid (stB (dly vs m h) (extK vs f Bg (k + 1)) = (aR, az)) := Lib.hid (by rw [HSB.out, if_neg (by omega)])
              clear HSB
              go_wp2_with fail
              go_roundw
              case rel => exact ⟨k + 1, by omega, by go_num, by rw [HF.out], ⟨_, _, _, rfl, by rw [HF.out]; exact HX5.out⟩, HB5.out⟩
              case measure => simp [intOf]; omega
      · have hk1 : ¬ (k : Int) < (n : Int) := by omega
        obtain rfl : k = n := by omega
        go_wp2_with fail
        go_ret2
        exact ⟨gx, cx, q, by first | rfl | (rw [HEND.out]; rfl), by first | exact HX.out | (rw [← HEND.out]; exact HX.out), HB.out⟩
def GivesZ3 (w : World) (L : List Int) (l : Nat) (z : Int) (x : Bool) (e : Ending) (w' : World) : Prop :=
  ∃ g c', e = .returned (.tuple #[.slice (some ⟨g, 0, none⟩) l c', .int .i64 z, .bool x]) ∧ w'.ownsRow w.heap.size 3 1 (.slice (some ⟨g, 0, none⟩) l c') l (L.map (.int .i64)) ∧ Below w.heap.size w w'
theorem OwnZ.gives3 {w w' : World} {L : List Int} {n : Nat} {v : Value} (h : OwnZ w w' L n v) (z : Int) (x : Bool) : GivesZ3 w L n z x (.returned (.tuple #[v, .int .i64 z, .bool x])) w' := by
  obtain ⟨g, c, rfl, h1, h2, h3⟩ := h
  exact ⟨g, c, rfl, h2, h3⟩
set_option maxRecDepth 100000 in
set_option maxHeartbeats 2000000 in
theorem bestS_any {w : World} {B : Nat} {A : Option Addr} {n : Nat} {vs : List TArrival} (c : Nat) (h : IsArrivals w B A n vs) (hm : n ≤ 1048576) (hgh : Bool) (m : Int) (L : List Int) (z : Int) (x : Bool) (hA : BestA vs hgh m L z x) (l : Nat) (hl : L.length = l) :
    Calls Try.prog 23 #[.slice A n c, .bool hgh, .int .i64 m] w (GivesZ3 w L l z x) := by
  have C := Lib.hid (l8Good_any c h (Nat.le_trans hm (by unfold maxLen; omega)))
  have CM := Lib.hid (fun W => l8Minutes_any m W)
  have HI := Lib.hid h
  have HNO := Lib.hid hA.2
  have HYES := Lib.hid hA.1
  have HM := Lib.hid hl
  obtain ⟨G, hG⟩ : ∃ G, gAs vs = G := ⟨_, rfl⟩
  obtain ⟨D, hD⟩ : ∃ D, decide (1 ≤ m ∧ m ≤ 60) = D := ⟨_, rfl⟩
  rw [hG, hD] at HNO HYES
  rw [hG] at C
  rw [hD] at CM
  have HGE := Lib.hid hG
  have HDE := Lib.hid hD
  clear h hA hG hl hD
  go_enter Try.func23, Try.ntmps23
  go_wp2_with fail
  refine C.out.mono ?_
  rintro e w1 ⟨rfl, hb⟩
  have HB1 := Lib.hid hb
  clear hb C
  cases G with
  | false =>
    obtain ⟨rfl, rfl, rfl⟩ := HNO.out (.inl rfl)
    obtain rfl : 0 = l := HM.out
    clear HNO HYES CM
    go_wp2_with fail
    go_ret3
    exact (OwnZ.nil HB1.out).gives3 0 false
  | true =>
  replace HYES := Lib.hid (HYES.out rfl)
  replace HNO := Lib.hid (fun d => HNO.out (.inr d))
  go_wp2_with fail
  refine (CM.out _).mono ?_
  rintro e w2 ⟨rfl, rfl⟩
  cases D with
  | false =>
    obtain ⟨rfl, rfl, rfl⟩ := HNO.out rfl
    obtain rfl : 0 = l := HM.out
    clear HNO HYES CM
    go_wp2_with fail
    go_ret3
    exact (OwnZ.nil HB1.out).gives3 0 false
  | true =>
  obtain ⟨hL, hz, rfl⟩ := HYES.out rfl
  have hgg := (gAs_iff vs).1 HGE.out
  obtain ⟨os, hos⟩ := first_ex hgg vs.length (Nat.le_refl _)
  have hn6 : n ≤ 6 := by rw [← HI.out.len]; exact hgg.1
  obtain ⟨W5, hW5⟩ : ∃ W, w1.alloc (.cells #[] 3) = W := ⟨_, rfl⟩
  have hb5 : Below w1.heap.size w1 W5 := by rw [← hW5]; exact below1 _ _
  have hO5 : W5.ownsRow w1.heap.size 3 1 (.slice (some ⟨w1.heap.size, 0, none⟩) 0 0) 0 (([] : List Int).map (.int .i64)) := by rw [← hW5]; exact World.ownsRow_made w1 #[] 0 (Nat.le_refl _) (by unfold maxLen; omega) rfl
  have HB5 := Lib.hid (HB1.out.trans (hb5.mono HB1.out.size))
  have CB := Lib.hid (l8Best_any c hn6 hgg HI.out.len hgh m (of_decide_eq_true HDE.out) n [] W5 w1.heap.size 0 0 w1.heap.size (HI.out.below HB5.out HI.out.low) hO5 hb5.size (by rw [← HI.out.len]; exact goes_start hgg hos) (by omega))
  have HBE : Hid (fm (dly vs m hgh) ([], MX) (exts vs n []) = bestO vs m hgh) := Lib.hid (by rw [← HI.out.len]; rfl)
  rw [HBE.out] at CB
  rw [← hL, ← hz] at CB
  have HSZ := Lib.hid HB1.out.size
  clear HNO HYES CM hL hz hos hO5 hb5
  go_wp2_with fail
  (try rw [hW5])
  refine CB.out.mono ?_
  rintro e w3 ⟨gx, cx, q, rfl, hX, hb⟩
  have hql : q = L.length := by have := hX.1; simpa using this.symm
  obtain rfl : q = l := by rw [hql, HM.out]
  have HF := Lib.hid (And.intro hX (HB5.out.trans (hb.mono HB5.out.size)))
  clear hX hb CB HB1 HB5 hql hW5
  go_wp2_with fail
  go_ret3
  exact ⟨gx, cx, rfl, own_low HF.out.1 HSZ.out, HF.out.2⟩
end Go.Proofs.Ytdleidlmjliapaa
