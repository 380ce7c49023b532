/- Chapter 10: leveling out: the program. -/
import Derived.Test.YtliebicnejbheaaWaG
import Derived.Deep.LoopGhost
namespace Go.Proofs.Ytliebicnejbheaa
open Go.RowKit Go.PlainAid Go.Sort
set_option linter.unusedVariables false
set_option linter.unusedSimpArgs false

set_option maxRecDepth 100000 in
set_option maxHeartbeats 4000000 in
theorem levI_any {w : World} {B : Nat} {A : Option Addr} {n : Nat} {vs : List TBasin} (c : Nat) (h : IsBasins w B A n vs) (hm : n ≤ 1048576) (L : List TBasin) (x : Bool) (hA : LevA vs L x) (m : Nat) (hl : L.length = m) :
    Calls Try.prog 35 #[.slice A n c] w (GivesB w L m x) := by
  have C := Lib.hid (areBasins_any c h (Nat.le_trans hm (by unfold maxLen; omega)))
  have HI := Lib.hid h
  have HNO := Lib.hid hA.2
  have HYES := Lib.hid hA.1
  have HM := Lib.hid hl
  obtain ⟨G, hG⟩ : ∃ G, gBs vs = G := ⟨_, rfl⟩
  rw [hG] at HNO HYES C
  have HGE := Lib.hid hG
  clear h hA hG hl
  go_enter Try.func35, Try.ntmps35
  go_wp2_with fail
  refine C.out.mono ?_
  rintro e w1 ⟨rfl, hb⟩
  have HB1 := Lib.hid hb
  clear hb C
  cases G with
  | false =>
    obtain ⟨rfl, rfl⟩ := HNO.out rfl
    obtain rfl : 0 = m := HM.out
    clear HNO HYES HGE
    go_wp2_with fail
    refine bodyPost_ret (results_tmp2 rfl _ _ _) rfl ?_
    exact (OwnB.nil HB1.out).gives false
  | true =>
  obtain ⟨⟨T, hT, hL⟩, rfl⟩ := HYES.out rfl
  have hgood := (gBs_iff vs).1 HGE.out
  have hn6 : n ≤ 6 := by rw [← HI.out.len]; exact hgood.1.2
  have hn1 : 0 < n := by rw [← HI.out.len]; exact hgood.1.1
  obtain ⟨a, rfl⟩ := some_of HI.out hn1
  obtain rfl : n = m := by rw [← HM.out, hL, lvK_len, HI.out.len]
  have HL := Lib.hid hL
  have HGK := Lib.hid (fun t (ht : t ≤ T) => lv_good hgood t (fun s hs => hT.2 s (by omega)))
  have HLN := Lib.hid (fun t => (lvK_len vs t).trans HI.out.len)
  have HSN := Lib.hid (fun t (ht : t < T) => hT.2 t ht)
  have HSY := Lib.hid hT.1
  clear HNO HYES HM HGE hL hT hgood
  have CC := Lib.hid (cloneB_any c (HI.out.below HB1.out HI.out.low) (by omega))
  go_wp2_with fail
  refine CC.out.mono ?_
  rintro e w2 ⟨v, rfl, hO⟩
  have HO0 := hO.base HB1.out
  obtain ⟨g, cg, rfl, hg1, hg2, hg3⟩ := HO0
  have HOW := Lib.hid hg2
  have HB2 := Lib.hid hg3
  have CL := Lib.hid (fun W base (us : List TBasin) (ho : World.ownsRow W base 53 3 (.slice (some ⟨g, 0, none⟩) n cg) n (flatBasin us)) (hg : goodBs us) => lvf_any cg (own_Basins ho) hn6 hn1 (fun k hk => hg.2 k (by rw [own_lenB ho]; exact hk)))
  have CP := Lib.hid (fun W base (us : List TBasin) (ho : World.ownsRow W base 53 3 (.slice (some ⟨g, 0, none⟩) n cg) n (flatBasin us)) f0 f1 f2 hf hbd => pour_any ho hn6 f0 f1 f2 hf hbd)
  clear hO hg2 hg3 HB1 CC
  have D := Lib.hid (CL.out w2 _ _ HOW.out (HGK.out 0 (by omega)))
  go_wp2_with fail
  refine D.out.mono ?_
  rintro e w3 ⟨rfl, hb⟩
  have HB3 := Lib.hid (HB2.out.trans (hb.mono HB2.out.size))
  have HOW3 := Lib.hid (own_below HOW.out hb)
  clear hb D HB2 HOW
  have HLS : Hid (∀ us, lvStop us → lvN us = ⟨0, 0, 0⟩) := Lib.hid (fun us h => if_pos h)
  have HLF : Hid (∀ us, ¬ lvStop us → lvN us = lvF us) := Lib.hid (fun us h => if_neg h)
  have HZ0 : Hid (lvK vs 0 = vs) := Lib.hid rfl
  generalize hf0 : lvN vs = F0
  have HF0 : Hid (lvN (lvK vs 0) = F0) := Lib.hid hf0
  clear hf0
  obtain ⟨f0, f1, f2⟩ := F0
  dsimp only
  go_wp2_with fail
  have HBX := Lib.hid (BoxF.new w3 f0 f1 f2)
  have HXG : Hid (w3.heap.size ≠ g) := Lib.hid (by have := (HOW3.out.lt g rfl).2; omega)
  have HOW4 := Lib.hid (own_below HOW3.out (below1 w3 (.cells #[.int .i64 f0, .int .i64 f1, .int .i64 f2] 38)))
  have HB4 := Lib.hid (HB3.out.alloc HB3.out.size (.cells #[.int .i64 f0, .int .i64 f1, .int .i64 f2] 38))
  have HXL := Lib.hid HB3.out.size
  obtain ⟨w4, hw4⟩ : ∃ W, World.alloc w3 (.cells #[.int .i64 f0, .int .i64 f1, .int .i64 f2] 38) = W := ⟨_, rfl⟩
  obtain ⟨xb, hxb⟩ : ∃ x, (w3 : World).heap.size = x := ⟨_, rfl⟩
  rw [hw4, hxb] at HBX
  rw [hxb] at HXG HXL
  rw [hw4] at HOW4 HB4
  rw [hw4, hxb]
  clear hw4 hxb HB3 HOW3
  go_loopg [5] T (fun gh p wr => ∃ (t xb f0 f1 f2 : _), t + gh = T ∧ p = .pointer (some ⟨xb, 0, none⟩) ∧ Hid (lvN (lvK vs t) = ⟨f0, f1, f2⟩) ∧ Hid (BoxF wr xb f0 f1 f2) ∧ Hid (xb ≠ g) ∧ Hid (w.heap.size ≤ xb) ∧ Hid (wr.ownsRow w.heap.size 53 3 (.slice (some ⟨g, 0, none⟩) n cg) n (flatBasin (lvK vs t))) ∧ Hid (Below w.heap.size w wr))
  case atStart => exact ⟨0, xb, f0, f1, f2, by omega, rfl, HF0, HBX, HXG, HXL, HOW4, HB4⟩
  case round =>
    clear HF0 HBX HXG HXL HOW4 HB4
    obtain ⟨t, xb, f0, f1, f2, htg, rfl, HF, HBX, HXG, HXL, HOW, HB⟩ := hrel
    have x0 := HBX.out.c0
    have x1 := HBX.out.c1
    have x2 := HBX.out.c2
    cases gk with
    | succ gh =>
      have htT : t < T := by omega
      have hns := HSN.out t htT
      have hfe := (HLF.out _ hns).symm.trans HF.out
      have hst := lv_step (HGK.out t (by omega)) hns
      rw [hfe] at hst
      obtain ⟨-, -, -, hgf, -⟩ := hst
      rw [HLN.out] at hgf
      have hf2 : f2 = 1 := by have : (lvF (lvK vs t)).x2 = f2 := by rw [hfe]
                              rw [← this]; rfl
      have D := Lib.hid (CP.out wr _ _ HOW.out f0 f1 f2 hgf ((HGK.out t (by omega)).bd.le (by omega)))
      have HMV : Hid (move (lvK vs t) ⟨f0, f1, f2⟩ = lvK vs (t + 1)) := Lib.hid (by rw [← hfe]; rfl)
      rw [HMV.out] at D
      subst hf2
      clear hfe hgf hns HF
      go_wp2_with fail
      refine D.out.mono ?_
      rintro e w5 ⟨rfl, ho, hgr⟩
      have HBX5 := Lib.hid (HBX.out.kept hgr (fun e => HXG.out (by injection e)))
      have HB5 := Lib.hid (HB.out.grown hgr HB.out.size (fun q hq => by cases hq; exact hg1))
      have HOW5 := Lib.hid ho
      clear ho hgr D HBX HB HOW x0 x1 x2 HXG HXL
      have y0 := HBX5.out.c0
      have y1 := HBX5.out.c1
      have y2 := HBX5.out.c2
      have HBN := Lib.hid (BoxF.new w5 f0 f1 1)
      have HXG : Hid (w5.heap.size ≠ g) := Lib.hid (by have := (HOW5.out.lt g rfl).2; omega)
      have HXL := Lib.hid HB5.out.size
      have HOW6 := Lib.hid (own_below HOW5.out (below1 w5 (.cells #[.int .i64 f0, .int .i64 f1, .int .i64 1] 38)))
      have HB6 := Lib.hid (HB5.out.alloc HB5.out.size (.cells #[.int .i64 f0, .int .i64 f1, .int .i64 1] 38))
      have D := Lib.hid (CL.out _ _ _ HOW6.out (HGK.out (t + 1) (by omega)))
      obtain ⟨F0, hF0⟩ : ∃ F, lvN (lvK vs (t + 1)) = F := ⟨_, rfl⟩
      rw [hF0] at D
      have HF := Lib.hid hF0
      obtain ⟨h0, h1, h2⟩ := F0
      dsimp only at D
      clear hF0 HOW5 HB5
      go_wp2_with fail
      refine D.out.mono ?_
      rintro e w6 ⟨rfl, hb⟩
      have HBX7 := Lib.hid (HBN.out.all hb)
      have HOW7 := Lib.hid (own_below HOW6.out hb)
      have HB7 := Lib.hid (HB6.out.trans (hb.mono HB6.out.size))
      clear hb D HOW6 HB6 HBN y0 y1 y2 HBX5
      obtain ⟨xn, hxn⟩ : ∃ x, (w5 : World).heap.size = x := ⟨_, rfl⟩
      rw [hxn] at HBX7 HXG HXL ⊢
      clear hxn
      have x0 := HBX7.out.c0
      have x1 := HBX7.out.c1
      have x2 := HBX7.out.c2
      have z0 := HBX7.out.fz 0
      have z1 := HBX7.out.fz 1
      have z2 := HBX7.out.fz 2
      go_wp2_with fail
      go_roundg gh
      case rel => exact ⟨t + 1, xn, h0, h1, h2, by omega, rfl, HF, Lib.hid (HBX7.out.sets h0 h1 h2), HXG, HXL, Lib.hid (own_set (own_set (own_set HOW7.out xn 0 _ (by simp [Value.ownBlock]; exact fun e => HXG.out e.symm)) xn 1 _ (by simp [Value.ownBlock]; exact fun e => HXG.out e.symm)) xn 2 _ (by simp [Value.ownBlock]; exact fun e => HXG.out e.symm)), Lib.hid (sets3_below HB7.out HXL.out _ _ _)⟩
      case measure => omega
    | zero =>
      obtain rfl : t = T := by omega
      have hfe := (HLS.out _ HSY.out).symm.trans HF.out
      injection hfe with q0 q1 q2
      subst q0
      subst q1
      subst q2
      have HLL := Lib.hid HL.out
      clear HF
      go_wp2_with fail
      refine bodyPost_ret (results_tmp2 rfl _ _ _) rfl ?_
      rw [HLL.out]
      exact ⟨g, cg, rfl, HOW.out, HB.out⟩
end Go.Proofs.Ytliebicnejbheaa
