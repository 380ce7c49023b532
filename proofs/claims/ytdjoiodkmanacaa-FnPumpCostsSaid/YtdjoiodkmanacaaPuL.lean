/- Chapter 12: the cheapest plan: what the model answers. -/
import Derived.Test.YtdjoiodkmanacaaPuK
namespace Go.Proofs.Ytdjoiodkmanacaa
open Go.RowKit Go.PlainAid Go.Sort
set_option linter.unusedVariables false
set_option linter.unusedSimpArgs false

set_option maxRecDepth 100000 in
set_option maxHeartbeats 2000000 in
theorem cheapS_any {w : World} {B : Nat} {A D : Option Addr} {n m : Nat} {zs : List Int} {vs : List TPump} (a b c : Int) (q r : Nat) (h : IsTs w B A n zs D m vs) (hm : n ≤ 1048576) (hm2 : m ≤ 1048576) (L : List Int) (z : Int) (x : Bool) (hA : CheA ⟨a, b, c, zs, vs⟩ L z x) (l : Nat) (hl : L.length = l) :
    Calls Try.prog 38 #[.agg #[.int .i64 a, .int .i64 b, .int .i64 c, .slice A n q, .slice D m r]] w (GivesY3 w L l z x) := by
  obtain ⟨W5, hW5, X5, B5, z5⟩ := box_in w a b c A n q D m r
  have cT0 := X5.c0
  have cT1 := X5.c1
  have cT2 := X5.c2
  have cT3 := X5.c3
  have cT4 := X5.c4
  have HB5 := Lib.hid B5
  have HX5 := Lib.hid X5
  have C1 := Lib.hid (l12Good_any a b c q r (h.upB B5) hm hm2)
  have HT := Lib.hid (h.upB B5)
  have HNO := Lib.hid hA.2
  have HYES := Lib.hid hA.1
  have HM := Lib.hid hl
  have HG := Lib.hid (gT_iff ⟨a, b, c, zs, vs⟩)
  generalize gT ⟨a, b, c, zs, vs⟩ = T at HG C1
  clear h X5 B5 z5 hA hl
  go_enter Try.func38, Try.ntmps38
  go_wp2_with fail
  (try rw [hW5])
  clear hW5 cT0 cT1 cT2 cT3 cT4
  refine C1.out.mono ?_
  rintro e w1 ⟨rfl, hb⟩
  have HX1 := Lib.hid (HX5.out.all hb)
  have HB1 := Lib.hid (HB5.out.trans (hb.mono HB5.out.size))
  have HT1 := Lib.hid (HT.out.upB hb)
  clear hb C1 HX5 HB5 HT
  cases T with
  | false =>
    obtain ⟨rfl, rfl, rfl⟩ := HNO.out (fun g => by have := HG.out.2 g.1; cases this)
    obtain rfl : 0 = l := HM.out
    clear HNO HYES HG
    go_wp2_with fail
    go_ret3
    exact (OwnY.nil HB1.out).gives3 0 false
  | true =>
  have HGD := Lib.hid (HG.out.1 rfl)
  obtain ⟨W7, hW7⟩ : ∃ W, w1.alloc (.cells #[] 3) = W := ⟨_, rfl⟩
  have hb7 : Below w1.heap.size w1 W7 := by rw [← hW7]; exact below1 _ _
  have hO7 : W7.ownsRow w1.heap.size 3 1 (.slice (some ⟨w1.heap.size, 0, none⟩) 0 0) 0 (([] : List Int).map (.int .i64)) := by rw [← hW7]; exact World.ownsRow_made w1 #[] 0 (Nat.le_refl _) (by unfold maxLen; omega) rfl
  have hX7 := HX1.out
  have cT0 := hX7.c0
  have cT1 := hX7.c1
  have cT2 := hX7.c2
  have cT3 := hX7.c3
  have cT4 := hX7.c4
  have HB7 := Lib.hid (HB1.out.trans (hb7.mono HB1.out.size))
  have CB := Lib.hid (bestM_any a b c q r HGD.out HT1.out.ints.len HT1.out.pumps.len n [] W7 w1.heap.size 0 0 w1.heap.size (HT1.out.upB hb7) hO7 hb7.size (fun k hk => absurd hk (by simp)) (by omega))
  have HE : Hid (cheapU ⟨a, b, c, zs, vs⟩ = bestU ⟨a, b, c, zs, vs⟩ (extsU (numM m) n [])) := Lib.hid (by unfold cheapU numU; dsimp only; rw [HT1.out.ints.len, HT1.out.pumps.len])
  have HSZ := Lib.hid HB1.out.size
  rw [← HE.out] at CB
  obtain ⟨E, hE⟩ : ∃ E, cheapU ⟨a, b, c, zs, vs⟩ = E := ⟨_, rfl⟩
  rw [hE] at CB HYES HNO
  obtain ⟨EL, EZ⟩ := E
  have CB2 := CB.out
  dsimp only at HYES HNO CB2
  have CB3 := Lib.hid CB2
  clear hO7 hb7 HG HE hE CB CB2 hX7
  go_wp2_with fail
  (try rw [hW7])
  clear hW7 cT0 cT1 cT2 cT3 cT4
  refine CB3.out.mono ?_
  rintro e w3 ⟨gx, cx, q9, rfl, hX, hb⟩
  have HB3 := Lib.hid (HB7.out.trans (hb.mono HB7.out.size))
  have HX := Lib.hid (own_low hX HSZ.out)
  clear hX hb CB3 HB1 HB7 HSZ
  by_cases hz : 0 ≤ EZ
  · obtain ⟨rfl, rfl, rfl⟩ := HYES.out ⟨HGD.out, hz⟩
    obtain rfl : q9 = l := by have := HX.out.1; rw [← HM.out]; simpa using this.symm
    clear HNO HYES HM HGD
    go_wp2_with fail
    go_ret3
    exact ⟨gx, cx, rfl, HX.out, HB3.out⟩
  · obtain ⟨rfl, rfl, rfl⟩ := HNO.out (fun g => hz g.2)
    obtain rfl : 0 = l := HM.out
    clear HNO HYES HGD
    go_wp2_with fail
    go_ret3
    exact (OwnY.nil HB3.out).gives3 0 false
end Go.Proofs.Ytdjoiodkmanacaa
