/- Chapter 11: a chamber drained and filled: the model and the program. -/
import Derived.Test.YtgnopkemcgbedaaPoG
namespace Go.Proofs.Ytgnopkemcgbedaa
open Go.RowKit Go.PlainAid Go.Sort
set_option linter.unusedVariables false
set_option linter.unusedSimpArgs false

def fromI (d : Bool) (z : Int) : Int := if d = true then 0 else z
def toI (d : Bool) (z : Int) : Int := if d = true then z else 0
theorem letA_step {vs : List TPool} {os : List Int} {d : Bool} {k : Nat} (ho : okO vs.length os) (hk : k < os.length) (h0 : goodPs (runL vs os d k)) :
    (goodPs (runL vs os d (k + 1)) → LetA (runL vs os d k) (fromI d (os.getD k 0)) (toI d (os.getD k 0)) (runL vs os d (k + 1)) (fl (runL vs os d k) (fromP d (os.getD k 0)) (toP d (os.getD k 0))) true) ∧
    (¬ goodPs (runL vs os d (k + 1)) → LetA (runL vs os d k) (fromI d (os.getD k 0)) (toI d (os.getD k 0)) [] 0 false) := by
  have hz := (ho k hk).1
  have he := ends_ok ho d hk
  have e1 : (fromI d (os.getD k 0)).toNat = fromP d (os.getD k 0) := by cases d <;> rfl
  have e2 : (toI d (os.getD k 0)).toNat = toP d (os.getD k 0) := by cases d <;> rfl
  have hc : canL (runL vs os d k) (fromI d (os.getD k 0)) (toI d (os.getD k 0)) := by
    refine ⟨h0, ?_, ?_, ?_⟩
    · rw [runL_len]; cases d <;> simp only [fromI, if_true, if_false, Bool.false_eq_true] <;> omega
    · rw [runL_len]; cases d <;> simp only [toI, if_true, if_false, Bool.false_eq_true] <;> omega
    · cases d <;> simp only [fromI, toI, if_true, if_false, Bool.false_eq_true] <;> omega
  unfold LetA
  rw [e1, e2]
  exact ⟨fun h => ⟨fun _ => ⟨rfl, rfl, rfl⟩, fun g => absurd ⟨hc, h⟩ g⟩, fun h => ⟨fun g => absurd g.2 h, fun _ => ⟨rfl, rfl, rfl⟩⟩⟩

theorem ends_true (z : Int) (w : World) : Calls Try.prog 72 #[.int .i64 z] w fun e w' => e = .returned (.tuple #[.int .i64 (fromI true z), .int .i64 (toI true z)]) ∧ w = w' := by
  go_enter Try.func72, Try.ntmps72
  go_wp2
  refine bodyPost_ret (results_tmp2 rfl _ _ _) rfl ?_
  exact ⟨rfl, rfl⟩
theorem ends_false (z : Int) (w : World) : Calls Try.prog 74 #[.int .i64 z] w fun e w' => e = .returned (.tuple #[.int .i64 (fromI false z), .int .i64 (toI false z)]) ∧ w = w' := by
  go_enter Try.func74, Try.ntmps74
  go_wp2
  refine bodyPost_ret (results_tmp2 rfl _ _ _) rfl ?_
  exact ⟨rfl, rfl⟩
set_option maxRecDepth 100000 in
set_option maxHeartbeats 4000000 in
theorem turnD_any {w : World} {B B2 : Nat} {A A2 : Option Addr} {n n2 : Nat} {vs : List TPool} {os : List Int} (c c2 : Nat) (h : IsPools w B A n vs) (hm : n ≤ 1048576) (h2 : IsIs w B2 A2 n2 os) (hm2 : n2 ≤ 1048576) (hnc : n2 ≤ c2) (L : List TPool) (z : Int) (x : Bool) (hA : RunPA vs os true L z x) (q : Nat) (hl : L.length = q) :
    Calls Try.prog 71 #[.slice A n c, .slice A2 n2 c2, .func (.func 72) #[] #[]] w (GivesP3 w L q z x) := by
  have C := Lib.hid (isOrder_any c c2 h hm h2 hm2 hnc)
  have CE := Lib.hid (fun z W => ends_true z W)
  have HI := Lib.hid h
  have HJ := Lib.hid h2
  have HNO := Lib.hid hA.2
  have HYES := Lib.hid hA.1
  have HM := Lib.hid hl
  have HG1 := Lib.hid (gPs_iff vs)
  have HG2 : Hid (gO n os = true ↔ okO vs.length os) := Lib.hid (by rw [h.len]; exact gO_iff _ _)
  generalize gPs vs = b0 at C HG1
  generalize gO n os = b1 at C HG2
  clear h h2 hA hl
  go_enter Try.func71, Try.ntmps71
  go_wp2_with fail
  refine C.out.mono ?_
  rintro e w1 ⟨rfl, hb⟩
  have HB1 := Lib.hid hb
  clear hb C
  cases b0 with
  | false =>
    rw [Bool.false_and]
    obtain ⟨rfl, rfl, rfl⟩ := HNO.out (fun g => by have := HG1.out.2 g.1; cases this)
    obtain rfl : 0 = q := HM.out
    clear HNO HYES HG1 HG2 CE
    go_wp2_with fail
    go_ret3
    exact (OwnP.nil HB1.out).gives3 0 false
  | true =>
  rw [Bool.true_and]
  cases b1 with
  | false =>
    obtain ⟨rfl, rfl, rfl⟩ := HNO.out (fun g => by have := HG2.out.2 g.2.1; cases this)
    obtain rfl : 0 = q := HM.out
    clear HNO HYES HG1 HG2 CE
    go_wp2_with fail
    go_ret3
    exact (OwnP.nil HB1.out).gives3 0 false
  | true =>
  have HGD := Lib.hid (HG1.out.1 rfl)
  have HOK := Lib.hid (HG2.out.1 rfl)
  clear HG1 HG2
  have hn5 : n ≤ 5 := by rw [← HI.out.len]; exact HGD.out.1.2
  have hn1 : 0 < n := by rw [← HI.out.len]; have := HGD.out.1; omega
  have HLR := Lib.hid (fun k => (runL_len vs os true k).trans HI.out.len)
  have HST := Lib.hid (fun k (hk : k < n2) h0 => letA_step (vs := vs) (os := os) (d := true) (k := k) HOK.out (by rw [HJ.out.len]; exact hk) h0)
  have HFB := Lib.hid (fun k (hk : k < n2) (h0 : goodPs (runL vs os true k)) => run_step HOK.out (d := true) (k := k) (by rw [HJ.out.len]; exact hk) h0)
  have HZB := Lib.hid (fun k (hk : k ≤ n2) (h0 : ∀ j, j < k → goodPs (runL vs os true j)) => runZ_bd HOK.out (d := true) k (by rw [HJ.out.len]; exact hk) h0)
  have HG0 : Hid (∀ k, (∀ j, j < k → goodPs (runL vs os true (j + 1))) → ∀ j, j ≤ k → goodPs (runL vs os true j)) := Lib.hid (fun k h j hj => by
    cases j with
    | zero => exact HGD.out
    | succ j => exact h j (by omega))
  obtain ⟨a, rfl⟩ := some_ofP HI.out hn1
  have CC := Lib.hid (cloneP_any c (HI.out.below HB1.out HI.out.low) (by omega))
  go_wp2_with fail
  refine CC.out.mono ?_
  rintro e w2 ⟨v, rfl, hO⟩
  have HO0 := Lib.hid (hO.base HB1.out)
  clear hO CC HB1
  go_wp2_with fail
  go_loopw [9, 10, 27] (fun v s i wr => ∃ k : Nat, k ≤ n2 ∧ i = .int .i64 k ∧ s = .int .i64 (runZ vs os true k) ∧ OwnP w wr (runL vs os true k) n v ∧ Hid (∀ j, j < k → goodPs (runL vs os true (j + 1)))) (fun _ _ i _ => n2 - (intOf i).toNat)
  case atStart => exact ⟨0, Nat.zero_le _, rfl, rfl, HO0.out, Lib.hid (fun j hj => absurd hj (by omega))⟩
  case round =>
    clear HO0
    obtain ⟨k, hk, rfl, rfl, hO, hall⟩ := hrel
    have hzb := HZB.out k hk (fun j hj => HG0.out k hall.out j (by omega))
    by_cases hlt : k < n2
    · obtain ⟨a2, rfl, hab2, ez⟩ := Has.numAt (HJ.out.below hO.low HJ.out.low).has (k := k) (by rw [HJ.out.len]; exact hlt)
      have hgk := HG0.out k hall.out k (Nat.le_refl _)
      have HS := Lib.hid (HST.out k hlt hgk)
      have hfb := HFB.out k hlt hgk
      have HZN : Hid (runZ vs os true (k + 1) = runZ vs os true k + fl (runL vs os true k) (fromP true (os.getD k 0)) (toP true (os.getD k 0))) := Lib.hid rfl
      generalize fl (runL vs os true k) (fromP true (os.getD k 0)) (toP true (os.getD k 0)) = zz at HS hfb HZN
      generalize os.getD k 0 = y at ez HS
      generalize runZ vs os true k = s at hzb HZN ⊢
      have HO := Lib.hid hO
      obtain ⟨g, cg, rfl, hg1, hg2, hg3⟩ := hO
      have CM := Lib.hid (fun W L x z hA q hl (hb : Below wr.heap.size wr W) => letI_any cg ((own_Pools hg2).below hb (Nat.le_refl _)) hm (fromI true y) (toI true y) L z x hA q hl)
      have HHA := Lib.hid hall
      have HH3 := Lib.hid hg3
      have hk0 : (0 : Int) ≤ (k : Int) := by omega
      have hk1 : (k : Int) < (n2 : Int) := by omega
      have CEy := Lib.hid (CE.out y)
      clear hall hg1 hg2 hg3 hgk HST HFB CE HZB
      go_wp2_with fail
      refine (CEy.out _).mono ?_
      rintro e w3 ⟨rfl, rfl⟩
      clear CEy
      by_cases hnext : goodPs (runL vs os true (k + 1))
      · have D := Lib.hid (CM.out _ _ true _ (HS.out.1 hnext) n (HLR.out (k + 1)) (Below.refl _ _))
        have HAL : Hid (∀ j, j < k + 1 → goodPs (runL vs os true (j + 1))) := Lib.hid (fun j hj => by
          rcases Nat.lt_succ_iff_lt_or_eq.1 hj with h1 | h1
          · exact HHA.out.out j h1
          · exact h1 ▸ hnext)
        clear CM HS hnext HHA
        go_wp2_with fail
        refine D.out.mono ?_
        rintro e w5 ⟨g5, c5, rfl, hown5, hb5⟩
        have HB6 := Lib.hid (HH3.out.trans (hb5.mono HH3.out.size))
        have hg5 := (hown5.lt g5 rfl).1
        have HO6 : Hid (OwnP w w5 (runL vs os true (k + 1)) n (.slice (some ⟨g5, 0, none⟩) n c5)) := Lib.hid ⟨g5, c5, rfl, by have := HH3.out.size; omega, own_low hown5 HH3.out.size, HB6.out⟩
        clear hown5 hb5 D HB6 hg5 HO HH3
        go_wp2_with fail
        go_roundw
        case rel => exact ⟨k + 1, by omega, by go_num, by rw [HZN.out], HO6.out, HAL⟩
        case measure => simp [intOf]; omega
      · have D := Lib.hid (CM.out _ _ false _ (HS.out.2 hnext) 0 rfl (Below.refl _ _))
        have HNE : Hid (¬ canR vs os true) := Lib.hid (fun g => hnext (g.2.2 k (by rw [HJ.out.len]; exact hlt)))
        clear CM HS hnext HHA
        go_wp2_with fail
        refine D.out.mono ?_
        rintro e w5 ⟨g5, c5, rfl, hown5, hb5⟩
        have HB6 := Lib.hid (HH3.out.trans (hb5.mono HH3.out.size))
        clear hown5 hb5 D HO HH3
        obtain ⟨rfl, rfl, rfl⟩ := HNO.out HNE.out
        obtain rfl : 0 = q := HM.out
        clear HNO HYES HZN HG0
        go_wp2_with fail
        go_ret3
        exact (OwnP.nil HB6.out).gives3 0 false
    · obtain rfl : k = n2 := by omega
      have hL := HYES.out ⟨HGD.out, HOK.out, fun j hj => hall.out j (by rw [← HJ.out.len]; exact hj)⟩
      rw [HJ.out.len] at hL
      obtain ⟨hL, hz, rfl⟩ := hL
      obtain rfl : n = q := by rw [← HM.out, hL, HLR.out]
      have HL := Lib.hid hL
      have HZ := Lib.hid hz
      have HO := Lib.hid hO
      obtain ⟨g, cg, rfl, -⟩ := hO
      clear hall hL hz HST HFB HZB HG0 HYES HNO CE
      go_wp2_with fail
      go_ret3
      rw [HL.out, HZ.out]
      exact HO.out.gives3 _ true
set_option maxRecDepth 100000 in
set_option maxHeartbeats 4000000 in
theorem turnF_any {w : World} {B B2 : Nat} {A A2 : Option Addr} {n n2 : Nat} {vs : List TPool} {os : List Int} (c c2 : Nat) (h : IsPools w B A n vs) (hm : n ≤ 1048576) (h2 : IsIs w B2 A2 n2 os) (hm2 : n2 ≤ 1048576) (hnc : n2 ≤ c2) (L : List TPool) (z : Int) (x : Bool) (hA : RunPA vs os false L z x) (q : Nat) (hl : L.length = q) :
    Calls Try.prog 71 #[.slice A n c, .slice A2 n2 c2, .func (.func 74) #[] #[]] w (GivesP3 w L q z x) := by
  have C := Lib.hid (isOrder_any c c2 h hm h2 hm2 hnc)
  have CE := Lib.hid (fun z W => ends_false z W)
  have HI := Lib.hid h
  have HJ := Lib.hid h2
  have HNO := Lib.hid hA.2
  have HYES := Lib.hid hA.1
  have HM := Lib.hid hl
  have HG1 := Lib.hid (gPs_iff vs)
  have HG2 : Hid (gO n os = true ↔ okO vs.length os) := Lib.hid (by rw [h.len]; exact gO_iff _ _)
  generalize gPs vs = b0 at C HG1
  generalize gO n os = b1 at C HG2
  clear h h2 hA hl
  go_enter Try.func71, Try.ntmps71
  go_wp2_with fail
  refine C.out.mono ?_
  rintro e w1 ⟨rfl, hb⟩
  have HB1 := Lib.hid hb
  clear hb C
  cases b0 with
  | false =>
    rw [Bool.false_and]
    obtain ⟨rfl, rfl, rfl⟩ := HNO.out (fun g => by have := HG1.out.2 g.1; cases this)
    obtain rfl : 0 = q := HM.out
    clear HNO HYES HG1 HG2 CE
    go_wp2_with fail
    go_ret3
    exact (OwnP.nil HB1.out).gives3 0 false
  | true =>
  rw [Bool.true_and]
  cases b1 with
  | false =>
    obtain ⟨rfl, rfl, rfl⟩ := HNO.out (fun g => by have := HG2.out.2 g.2.1; cases this)
    obtain rfl : 0 = q := HM.out
    clear HNO HYES HG1 HG2 CE
    go_wp2_with fail
    go_ret3
    exact (OwnP.nil HB1.out).gives3 0 false
  | true =>
  have HGD := Lib.hid (HG1.out.1 rfl)
  have HOK := Lib.hid (HG2.out.1 rfl)
  clear HG1 HG2
  have hn5 : n ≤ 5 := by rw [← HI.out.len]; exact HGD.out.1.2
  have hn1 : 0 < n := by rw [← HI.out.len]; have := HGD.out.1; omega
  have HLR := Lib.hid (fun k => (runL_len vs os false k).trans HI.out.len)
  have HST := Lib.hid (fun k (hk : k < n2) h0 => letA_step (vs := vs) (os := os) (d := false) (k := k) HOK.out (by rw [HJ.out.len]; exact hk) h0)
  have HFB := Lib.hid (fun k (hk : k < n2) (h0 : goodPs (runL vs os false k)) => run_step HOK.out (d := false) (k := k) (by rw [HJ.out.len]; exact hk) h0)
  have HZB := Lib.hid (fun k (hk : k ≤ n2) (h0 : ∀ j, j < k → goodPs (runL vs os false j)) => runZ_bd HOK.out (d := false) k (by rw [HJ.out.len]; exact hk) h0)
  have HG0 : Hid (∀ k, (∀ j, j < k → goodPs (runL vs os false (j + 1))) → ∀ j, j ≤ k → goodPs (runL vs os false j)) := Lib.hid (fun k h j hj => by
    cases j with
    | zero => exact HGD.out
    | succ j => exact h j (by omega))
  obtain ⟨a, rfl⟩ := some_ofP HI.out hn1
  have CC := Lib.hid (cloneP_any c (HI.out.below HB1.out HI.out.low) (by omega))
  go_wp2_with fail
  refine CC.out.mono ?_
  rintro e w2 ⟨v, rfl, hO⟩
  have HO0 := Lib.hid (hO.base HB1.out)
  clear hO CC HB1
  go_wp2_with fail
  go_loopw [9, 10, 27] (fun v s i wr => ∃ k : Nat, k ≤ n2 ∧ i = .int .i64 k ∧ s = .int .i64 (runZ vs os false k) ∧ OwnP w wr (runL vs os false k) n v ∧ Hid (∀ j, j < k → goodPs (runL vs os false (j + 1)))) (fun _ _ i _ => n2 - (intOf i).toNat)
  case atStart => exact ⟨0, Nat.zero_le _, rfl, rfl, HO0.out, Lib.hid (fun j hj => absurd hj (by omega))⟩
  case round =>
    clear HO0
    obtain ⟨k, hk, rfl, rfl, hO, hall⟩ := hrel
    have hzb := HZB.out k hk (fun j hj => HG0.out k hall.out j (by omega))
    by_cases hlt : k < n2
    · obtain ⟨a2, rfl, hab2, ez⟩ := Has.numAt (HJ.out.below hO.low HJ.out.low).has (k := k) (by rw [HJ.out.len]; exact hlt)
      have hgk := HG0.out k hall.out k (Nat.le_refl _)
      have HS := Lib.hid (HST.out k hlt hgk)
      have hfb := HFB.out k hlt hgk
      have HZN : Hid (runZ vs os false (k + 1) = runZ vs os false k + fl (runL vs os false k) (fromP false (os.getD k 0)) (toP false (os.getD k 0))) := Lib.hid rfl
      generalize fl (runL vs os false k) (fromP false (os.getD k 0)) (toP false (os.getD k 0)) = zz at HS hfb HZN
      generalize os.getD k 0 = y at ez HS
      generalize runZ vs os false k = s at hzb HZN ⊢
      have HO := Lib.hid hO
      obtain ⟨g, cg, rfl, hg1, hg2, hg3⟩ := hO
      have CM := Lib.hid (fun W L x z hA q hl (hb : Below wr.heap.size wr W) => letI_any cg ((own_Pools hg2).below hb (Nat.le_refl _)) hm (fromI false y) (toI false y) L z x hA q hl)
      have HHA := Lib.hid hall
      have HH3 := Lib.hid hg3
      have hk0 : (0 : Int) ≤ (k : Int) := by omega
      have hk1 : (k : Int) < (n2 : Int) := by omega
      have CEy := Lib.hid (CE.out y)
      clear hall hg1 hg2 hg3 hgk HST HFB CE HZB
      go_wp2_with fail
      refine (CEy.out _).mono ?_
      rintro e w3 ⟨rfl, rfl⟩
      clear CEy
      by_cases hnext : goodPs (runL vs os false (k + 1))
      · have D := Lib.hid (CM.out _ _ true _ (HS.out.1 hnext) n (HLR.out (k + 1)) (Below.refl _ _))
        have HAL : Hid (∀ j, j < k + 1 → goodPs (runL vs os false (j + 1))) := Lib.hid (fun j hj => by
          rcases Nat.lt_succ_iff_lt_or_eq.1 hj with h1 | h1
          · exact HHA.out.out j h1
          · exact h1 ▸ hnext)
        clear CM HS hnext HHA
        go_wp2_with fail
        refine D.out.mono ?_
        rintro e w5 ⟨g5, c5, rfl, hown5, hb5⟩
        have HB6 := Lib.hid (HH3.out.trans (hb5.mono HH3.out.size))
        have hg5 := (hown5.lt g5 rfl).1
        have HO6 : Hid (OwnP w w5 (runL vs os false (k + 1)) n (.slice (some ⟨g5, 0, none⟩) n c5)) := Lib.hid ⟨g5, c5, rfl, by have := HH3.out.size; omega, own_low hown5 HH3.out.size, HB6.out⟩
        clear hown5 hb5 D HB6 hg5 HO HH3
        go_wp2_with fail
        go_roundw
        case rel => exact ⟨k + 1, by omega, by go_num, by rw [HZN.out], HO6.out, HAL⟩
        case measure => simp [intOf]; omega
      · have D := Lib.hid (CM.out _ _ false _ (HS.out.2 hnext) 0 rfl (Below.refl _ _))
        have HNE : Hid (¬ canR vs os false) := Lib.hid (fun g => hnext (g.2.2 k (by rw [HJ.out.len]; exact hlt)))
        clear CM HS hnext HHA
        go_wp2_with fail
        refine D.out.mono ?_
        rintro e w5 ⟨g5, c5, rfl, hown5, hb5⟩
        have HB6 := Lib.hid (HH3.out.trans (hb5.mono HH3.out.size))
        clear hown5 hb5 D HO HH3
        obtain ⟨rfl, rfl, rfl⟩ := HNO.out HNE.out
        obtain rfl : 0 = q := HM.out
        clear HNO HYES HZN HG0
        go_wp2_with fail
        go_ret3
        exact (OwnP.nil HB6.out).gives3 0 false
    · obtain rfl : k = n2 := by omega
      have hL := HYES.out ⟨HGD.out, HOK.out, fun j hj => hall.out j (by rw [← HJ.out.len]; exact hj)⟩
      rw [HJ.out.len] at hL
      obtain ⟨hL, hz, rfl⟩ := hL
      obtain rfl : n = q := by rw [← HM.out, hL, HLR.out]
      have HL := Lib.hid hL
      have HZ := Lib.hid hz
      have HO := Lib.hid hO
      obtain ⟨g, cg, rfl, -⟩ := hO
      clear hall hL hz HST HFB HZB HG0 HYES HNO CE
      go_wp2_with fail
      go_ret3
      rw [HL.out, HZ.out]
      exact HO.out.gives3 _ true
set_option maxHeartbeats 1000000 in
theorem drainI_any {w : World} {B B2 : Nat} {A A2 : Option Addr} {n n2 : Nat} {vs : List TPool} {os : List Int} (c c2 : Nat) (h : IsPools w B A n vs) (hm : n ≤ 1048576) (h2 : IsIs w B2 A2 n2 os) (hm2 : n2 ≤ 1048576) (hnc : n2 ≤ c2) (L : List TPool) (z : Int) (x : Bool) (hA : RunPA vs os true L z x) (q : Nat) (hl : L.length = q) :
    Calls Try.prog 33 #[.slice A n c, .slice A2 n2 c2] w (GivesP3 w L q z x) := by
  have C := Lib.hid (turnD_any c c2 h hm h2 hm2 hnc L z x hA q hl)
  clear h h2 hA hl
  go_enter Try.func33, Try.ntmps33
  go_wp2_with fail
  refine C.out.mono ?_
  rintro e w1 ⟨g, cg, rfl, ho, hb⟩
  have HO := Lib.hid (And.intro ho hb)
  clear C ho hb
  go_wp2_with fail
  go_ret3
  exact ⟨g, cg, rfl, HO.out.1, HO.out.2⟩
set_option maxHeartbeats 1000000 in
theorem fillI_any {w : World} {B B2 : Nat} {A A2 : Option Addr} {n n2 : Nat} {vs : List TPool} {os : List Int} (c c2 : Nat) (h : IsPools w B A n vs) (hm : n ≤ 1048576) (h2 : IsIs w B2 A2 n2 os) (hm2 : n2 ≤ 1048576) (hnc : n2 ≤ c2) (L : List TPool) (z : Int) (x : Bool) (hA : RunPA vs os false L z x) (q : Nat) (hl : L.length = q) :
    Calls Try.prog 35 #[.slice A n c, .slice A2 n2 c2] w (GivesP3 w L q z x) := by
  have C := Lib.hid (turnF_any c c2 h hm h2 hm2 hnc L z x hA q hl)
  clear h h2 hA hl
  go_enter Try.func35, Try.ntmps35
  go_wp2_with fail
  refine C.out.mono ?_
  rintro e w1 ⟨g, cg, rfl, ho, hb⟩
  have HO := Lib.hid (And.intro ho hb)
  clear C ho hb
  go_wp2_with fail
  go_ret3
  exact ⟨g, cg, rfl, HO.out.1, HO.out.2⟩
end Go.Proofs.Ytgnopkemcgbedaa
