/- Chapter 4: whether spots are a packing, asked by the model with everything else. -/
import Derived.Test.YtdleidlmjliapaaChC
namespace Go.Proofs.Ytdleidlmjliapaa
open Go.RowKit Go.PlainAid Go.Sort
set_option linter.unusedVariables false
set_option linter.unusedSimpArgs false

set_option maxHeartbeats 2000000 in
theorem l4Asked_any {w : World} {B B' : Nat} {A A' : Option Addr} {n n' : Nat} {hs : List THull} {ss : List TSpot} (cl cb : Int) (c c' : Nat) (h : IsHulls w B A n hs) (h' : IsSpots w B' A' n' ss) (hm : n ≤ 1048576) (hm' : n' ≤ 1048576) :
    Calls Try.prog 45 #[.agg #[.int .i64 cl, .int .i64 cb], .slice A n c, .slice A' n' c'] w fun e w' => e = .returned (.bool (gP ⟨cl, cb⟩ hs ss)) ∧ Below w.heap.size w w' := by
  have CC := Lib.hid (fun W => l4Chamber_any cl cb W)
  have CG := Lib.hid (fun W (hb : Below w.heap.size w W) => l4Good_any c (h.below hb h.low) (Nat.le_trans hm (by unfold maxLen; omega)))
  have CP := Lib.hid (fun W (hb : Below w.heap.size w W) hc hg hn => l4Packing_any cl cb c c' (h.below hb h.low) (h'.below hb h'.low) hc hg hn)
  have hv := Lib.hid (gP_eq ⟨cl, cb⟩ hs ss)
  have HL := Lib.hid h.len
  have HL' := Lib.hid h'.len
  have HGI := Lib.hid (gHs_iff hs)
  obtain ⟨R, hR⟩ : ∃ R, gP ⟨cl, cb⟩ hs ss = R := ⟨_, rfl⟩
  rw [hR] at hv ⊢
  clear h h' hR
  go_enter Try.func45, Try.ntmps45
  go_wp2_with fail
  obtain ⟨xb, hxb⟩ : ∃ x, w.heap.size = x := ⟨_, rfl⟩
  refine (CC.out _).mono ?_
  rintro e w1 ⟨rfl, hb⟩
  have HB1 := Lib.hid ((below1 w (.cells #[.int .i64 cl, .int .i64 cb] 25)).trans (hb.mono (by simp)))
  have cc0 : w1.cell? ⟨xb, 0, none⟩ = some (.int .i64 cl) := (hb.cell (by simp [← hxb])).trans (by rw [← hxb, sNew]; rfl)
  have cc1 : w1.cell? ⟨xb, 1, none⟩ = some (.int .i64 cb) := (hb.cell (by simp [← hxb])).trans (by rw [← hxb, sNew]; rfl)
  have HXB : Hid (xb < w1.heap.size) := Lib.hid (by have := World.block_lt_of_cell? _ _ cc0; exact this)
  clear hb CC
  by_cases hc : goodC ⟨cl, cb⟩
  · rw [decide_eq_true hc, Bool.true_and] at hv
    rw [decide_eq_true hc]
    have HC := Lib.hid hc
    clear hc
    go_wp2_with fail
    refine (CG.out _ HB1.out).mono ?_
    rintro e w2 ⟨rfl, hb⟩
    have HB2 := Lib.hid (HB1.out.trans (hb.mono HB1.out.size))
    have dd0 := (hb.cell (p := ⟨xb, 0, none⟩) HXB.out).trans cc0
    have dd1 := (hb.cell (p := ⟨xb, 1, none⟩) HXB.out).trans cc1
    clear hb CG cc0 cc1
    obtain ⟨G, hG⟩ : ∃ G, gHs hs = G := ⟨_, rfl⟩
    rw [hG] at hv HGI ⊢
    cases G with
    | true =>
      rw [Bool.true_and] at hv
      have HG := Lib.hid (HGI.out.1 rfl)
      rw [HL.out, HL'.out] at hv
      have hn63 : n ≤ 2 ^ 63 - 1 := by omega
      have hn63' : n' ≤ 2 ^ 63 - 1 := by omega
      clear hG
      by_cases hnn : n' = n
      · subst hnn
        rw [decide_eq_true rfl, Bool.true_and] at hv
        have CPk := Lib.hid (CP.out _ HB2.out HC.out HG.out (Nat.le_refl _))
        rw [← hv.out] at CPk
        clear hv CP
        go_wp2_with fail
        refine CPk.out.mono ?_
        rintro e w3 ⟨rfl, hb⟩
        have HB3 := Lib.hid (HB2.out.trans (hb.mono HB2.out.size))
        clear hb CPk dd0 dd1
        go_wp2_with fail
        go_ret
        exact ⟨rfl, HB3.out⟩
      · rw [decide_eq_false hnn, Bool.false_and] at hv
        obtain rfl : R = false := hv.out
        have hne : ((n' : Int) == (n : Int)) = false := by simp; omega
        clear hv CP
        go_wp2_with fail
        go_ret
        exact ⟨rfl, HB2.out⟩
    | false =>
      rw [Bool.false_and] at hv
      obtain rfl : R = false := hv.out
      clear hv CP hG
      go_wp2_with fail
      go_ret
      exact ⟨rfl, HB2.out⟩
  · rw [decide_eq_false hc, Bool.false_and] at hv
    rw [decide_eq_false hc]
    obtain rfl : R = false := hv.out
    clear hv CP CG hc
    go_wp2_with fail
    go_ret
    exact ⟨rfl, HB1.out⟩
end Go.Proofs.Ytdleidlmjliapaa
