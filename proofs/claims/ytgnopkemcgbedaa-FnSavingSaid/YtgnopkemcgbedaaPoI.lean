/- Chapter 11: a chamber drained and filled: the model. -/
import Derived.Test.YtgnopkemcgbedaaPoH
namespace Go.Proofs.Ytgnopkemcgbedaa
open Go.RowKit Go.PlainAid Go.Sort
set_option linter.unusedVariables false
set_option linter.unusedSimpArgs false

theorem letI2_any {w : World} {B n : Nat} {a : Addr} {vs : List TPool} (c : Nat) (h : IsPools w B (some a) n vs) (hm : n ≤ 5) (hg : goodPs vs) (i j : Int) (p r : Nat) (hi : i = (p : Int)) (hj : j = (r : Int)) (hp : p < n) (hr : r < n) (hpr : p ≠ r) :
    Calls Try.prog 60 #[.slice (some a) n c, .int .i64 i, .int .i64 j] w fun e w' => ∃ v, e = .returned (.tuple #[v, .int .i64 (fl vs p r), .bool (gPs (letP vs p r))]) ∧ OwnP w w' (letP vs p r) n v := by
  subst hi hj
  exact l11Let_any c h hm hg p r hp hr hpr
set_option maxRecDepth 100000 in
set_option maxHeartbeats 4000000 in
theorem l11Run_any {w : World} {B B2 : Nat} {A2 : Option Addr} {a : Addr} {n n2 : Nat} {vs : List TPool} {os : List Int} (d : Bool) (c c2 : Nat) (h : IsPools w B (some a) n vs) (hm : n ≤ 1048576) (h2 : IsIs w B2 A2 n2 os) (hm2 : n2 ≤ 1048576) (hnc : n2 ≤ c2) (L : List TPool) (z : Int) (x : Bool) (hA : RunPA vs os d L z x) (q : Nat) (hl : L.length = q) :
    Calls Try.prog 73 #[.slice (some a) n c, .slice A2 n2 c2, .bool d] w (GivesP3 w L q z x) := by
  have C := Lib.hid (fun W (hb : Below w.heap.size w W) => l11List_any c (h.below hb h.low) (Nat.le_trans hm (by unfold maxLen; omega)))
  have CO := Lib.hid (fun W (hb : Below w.heap.size w W) (hn : n ≤ 1000) => l11Order_any (A := some a) (n := n) c c2 hn (h2.below hb h2.low) hm2 hnc)
  have HI := Lib.hid h
  have HJ := Lib.hid h2
  have HNO := Lib.hid hA.2
  have HYES := Lib.hid hA.1
  have HM := Lib.hid hl
  have HG1 := Lib.hid (gPs_iff vs)
  have HG2 : Hid (gO n os = true ↔ okO vs.length os) := Lib.hid (by rw [h.len]; exact gO_iff _ _)
  have HB0 := Lib.hid (Below.refl w.heap.size w)
  generalize gPs vs = b0 at C HG1
  generalize gO n os = b1 at CO HG2
  clear h h2 hA hl
  go_enter Try.func73, Try.ntmps73
  obtain ⟨i0, hi, hz0, hz1, hz2⟩ := info_parts Try.infoPool'
  have hfl : (flatPool vs).length = n * 3 := by rw [flatPool_len, HI.out.len]; omega
  have HN : Hid (∀ j u, (flatPool vs)[j]? = some u → (w.alloc (.cells #[] 35)).cell? (a.add j) = some u) := Lib.hid (fun j u hu => by
    obtain ⟨a', e, hb, hc⟩ := (HI.out.below (HB0.out.alloc HB0.out.size (.cells #[] 35)) HI.out.low).has j u hu
    injection e with e
    subst e
    exact hc)
  have HOC : Hid (∀ u ∈ flatPool vs, u.oneCell' = true) := Lib.hid (flatPool_one vs)
  have HR := Lib.hid (World.ownsRow_made (size := 3) (e := 35) w #[] 0 (Nat.le_refl _) (by unfold maxLen; omega) rfl)
  obtain ⟨xs, hxs⟩ : ∃ xs, flatPool vs = xs := ⟨_, rfl⟩
  rw [hxs] at hfl HN HOC
  have HXS := Lib.hid hxs
  clear hxs
  go_wp2_with (at_builtin; refine wpList_append_own _ rfl (.tmp 17) (.tmp 18) 24 rfl w.heap.size 35 i0 (.agg #[.int .i64 0, .int .i64 0, .int .i64 0]) 3 24 Try.underlying24 hi hz0 hz1 hz2 rfl (by decide) (.slice (some ⟨w.heap.size, 0, none⟩) 0 0) 0 [] rfl HR.out a n c xs rfl hfl HN.out HOC.out (by unfold maxLen; omega) (by omega) (by simp) ?_; intro v1 w2 hown1 hgrow1 hnil1; obtain ⟨g1, c1, rfl, hg1⟩ := own_some hown1 (fun e => nomatch (hnil1.1 e).1); have HB9 := Lib.hid (((Below.refl w.heap.size w).alloc (Nat.le_refl _) (.cells #[] 35)).grown hgrow1 (by simp) (fun q hq => by cases hq; exact Nat.le_refl _)); rw [Nat.zero_add, List.nil_append] at hown1; have HOWN := Lib.hid hown1; clear hown1 hgrow1 hnil1 HR HN HOC)
  rw [← HXS.out] at HOWN
  have HO0 : Hid (OwnP w w2 vs n (.slice (some ⟨g1, 0, none⟩) n c1)) := Lib.hid (OwnP.base ⟨g1, c1, rfl, hg1, HOWN.out, HB9.out⟩ HB0.out)
  clear HOWN HB9 HXS hg1 hfl
  have HB2 := Lib.hid HO0.out.low
  go_wp2_with fail
  refine (C.out _ HB2.out).mono ?_
  rintro e w3 ⟨rfl, hb⟩
  have HB3 := Lib.hid (HB2.out.trans (hb.mono HB2.out.size))
  have HO3 := Lib.hid (HO0.out.below hb)
  clear hb C HB2 HO0
  cases b0 with
  | false =>
    obtain ⟨rfl, rfl, rfl⟩ := HNO.out (fun g => by have := HG1.out.2 g.1; cases this)
    obtain rfl : 0 = q := HM.out
    clear HNO HYES HG1 HG2 CO
    go_wp2_with fail
    go_ret3
    exact (OwnP.nil HB3.out).gives3 0 false
  | true =>
  have HGD := Lib.hid (HG1.out.1 rfl)
  have CO2 := Lib.hid (CO.out _ HB3.out (by have := HGD.out.1.2; rw [HI.out.len] at this; omega))
  clear HG1 CO
  go_wp2_with fail
  refine CO2.out.mono ?_
  rintro e w4 ⟨rfl, hb⟩
  have HO4 := Lib.hid (HO3.out.below hb)
  clear hb CO2 HB3 HO3
  cases b1 with
  | false =>
    obtain ⟨rfl, rfl, rfl⟩ := HNO.out (fun g => by have := HG2.out.2 g.2.1; cases this)
    obtain rfl : 0 = q := HM.out
    clear HNO HYES HG2
    go_wp2_with fail
    go_ret3
    exact (OwnP.nil HO4.out.low).gives3 0 false
  | true =>
  have HOK := Lib.hid (HG2.out.1 rfl)
  clear HG2
  have hn5 : n ≤ 5 := by rw [← HI.out.len]; exact HGD.out.1.2
  have hn1 : 0 < n := by rw [← HI.out.len]; have := HGD.out.1; omega
  have HLR := Lib.hid (fun k => (runL_len vs os d k).trans HI.out.len)
  have HST := Lib.hid (fun k (hk : k < n2) h0 => letA_step (vs := vs) (os := os) (d := d) (k := k) HOK.out (by rw [HJ.out.len]; exact hk) h0)
  have HFB := Lib.hid (fun k (hk : k < n2) (h0 : goodPs (runL vs os d k)) => run_step HOK.out (d := d) (k := k) (by rw [HJ.out.len]; exact hk) h0)
  have HZB := Lib.hid (fun k (hk : k ≤ n2) (h0 : ∀ j, j < k → goodPs (runL vs os d j)) => runZ_bd HOK.out (d := d) k (by rw [HJ.out.len]; exact hk) h0)
  have HG0 : Hid (∀ k, (∀ j, j < k → goodPs (runL vs os d (j + 1))) → ∀ j, j ≤ k → goodPs (runL vs os d j)) := Lib.hid (fun k h j hj => by
    cases j with
    | zero => exact HGD.out
    | succ j => exact h j (by omega))
  have HEN := Lib.hid (fun k (hk : k < n2) => ends_ok HOK.out d (by rw [HJ.out.len]; exact hk))
  have HOK2 := Lib.hid (fun k (hk : k < n2) => (HOK.out k (by rw [HJ.out.len]; exact hk)).1)
  go_wp2_with fail
  go_loopw [9, 10, 11] (fun v s i wr => ∃ k : Nat, k ≤ n2 ∧ i = .int .i64 k ∧ s = .int .i64 (runZ vs os d k) ∧ OwnP w wr (runL vs os d k) n v ∧ Hid (∀ j, j < k → goodPs (runL vs os d (j + 1)))) (fun _ _ i _ => n2 - (intOf i).toNat)
  case atStart => exact ⟨0, Nat.zero_le _, rfl, rfl, HO4.out, Lib.hid (fun j hj => absurd hj (by omega))⟩
  case round =>
    clear HO4
    obtain ⟨k, hk, rfl, rfl, hO, hall⟩ := hrel
    have hzb := HZB.out k hk (fun j hj => HG0.out k hall.out j (by omega))
    by_cases hlt : k < n2
    · obtain ⟨a2, rfl, hab2, ez⟩ := Has.numAt (HJ.out.below hO.low HJ.out.low).has (k := k) (by rw [HJ.out.len]; exact hlt)
      have hgk := HG0.out k hall.out k (Nat.le_refl _)
      have hfb := HFB.out k hlt hgk
      have HZN : Hid (runZ vs os d (k + 1) = runZ vs os d k + fl (runL vs os d k) (fromP d (os.getD k 0)) (toP d (os.getD k 0))) := Lib.hid rfl
      have HLN2 : Hid (runL vs os d (k + 1) = letP (runL vs os d k) (fromP d (os.getD k 0)) (toP d (os.getD k 0))) := Lib.hid rfl
      have hen := HEN.out k hlt
      have hok := HOK2.out k hlt
      have HO := Lib.hid hO
      obtain ⟨g, cg, rfl, hg1, hg2, hg3⟩ := hO
      have CM := Lib.hid (fun W i j hi hj (hb : Below wr.heap.size wr W) => letI2_any cg ((own_Pools hg2).below hb (Nat.le_refl _)) hn5 (by exact hgk) i j (fromP d (os.getD k 0)) (toP d (os.getD k 0)) hi hj (by have := HI.out.len; omega) (by have := HI.out.len; omega) hen.2.2)
      rw [← HLN2.out] at CM
      have HNX := Lib.hid (gPs_iff (runL vs os d (k + 1)))
      generalize gPs (runL vs os d (k + 1)) = b2 at CM HNX
      have HHA := Lib.hid hall
      have HH3 := Lib.hid hg3
      have hk0 : (0 : Int) ≤ (k : Int) := by omega
      have hk1 : (k : Int) < (n2 : Int) := by omega
      generalize fl (runL vs os d k) (fromP d (os.getD k 0)) (toP d (os.getD k 0)) = zz at CM hfb HZN
      generalize runZ vs os d k = s at hzb HZN ⊢
      clear hall hg1 hg2 hg3 hgk HST HFB HZB HEN HOK2 hen
      cases d with
      | true =>
        have CM2 := Lib.hid (CM.out wr 0 (os.getD k 0) rfl (by show os.getD k 0 = ((os.getD k 0).toNat : Int); omega) (Below.refl _ _))
        generalize os.getD k 0 = y at ez CM2
        clear CM hok
        go_wp2_with fail
        refine CM2.out.mono ?_
        rintro e w5 ⟨v5, rfl, hO5⟩
        have HO5 := Lib.hid (hO5.base HH3.out)
        obtain ⟨g5, c5, rfl, -⟩ := hO5
        clear CM2 HO HH3
        cases b2 with
        | true =>
          have HAL : Hid (∀ j, j < k + 1 → goodPs (runL vs os true (j + 1))) := Lib.hid (fun j hj => by
            rcases Nat.lt_succ_iff_lt_or_eq.1 hj with h1 | h1
            · exact HHA.out.out j h1
            · exact h1 ▸ HNX.out.1 rfl)
          have HO6 := HO5
          clear HNX HHA HLN2 HO5
          go_wp2_with fail
          go_roundw
          case rel => exact ⟨k + 1, by omega, by go_num, by rw [HZN.out], HO6.out, HAL⟩
          case measure => simp [intOf]; omega
        | false =>
          have HNE : Hid (¬ canR vs os true) := Lib.hid (fun g => by have := HNX.out.2 (g.2.2 k (by rw [HJ.out.len]; exact hlt)); cases this)
          clear HNX HHA HLN2
          obtain ⟨rfl, rfl, rfl⟩ := HNO.out HNE.out
          obtain rfl : 0 = q := HM.out
          clear HNO HYES HZN HG0
          go_wp2_with fail
          go_ret3
          exact (OwnP.nil HO5.out.low).gives3 0 false
      | false =>
        have CM2 := Lib.hid (CM.out wr (os.getD k 0) 0 (by show os.getD k 0 = ((os.getD k 0).toNat : Int); omega) rfl (Below.refl _ _))
        generalize os.getD k 0 = y at ez CM2
        clear CM hok
        go_wp2_with fail
        refine CM2.out.mono ?_
        rintro e w5 ⟨v5, rfl, hO5⟩
        have HO5 := Lib.hid (hO5.base HH3.out)
        obtain ⟨g5, c5, rfl, -⟩ := hO5
        clear CM2 HO HH3
        cases b2 with
        | true =>
          have HAL : Hid (∀ j, j < k + 1 → goodPs (runL vs os false (j + 1))) := Lib.hid (fun j hj => by
            rcases Nat.lt_succ_iff_lt_or_eq.1 hj with h1 | h1
            · exact HHA.out.out j h1
            · exact h1 ▸ HNX.out.1 rfl)
          have HO6 := HO5
          clear HNX HHA HLN2 HO5
          go_wp2_with fail
          go_roundw
          case rel => exact ⟨k + 1, by omega, by go_num, by rw [HZN.out], HO6.out, HAL⟩
          case measure => simp [intOf]; omega
        | false =>
          have HNE : Hid (¬ canR vs os false) := Lib.hid (fun g => by have := HNX.out.2 (g.2.2 k (by rw [HJ.out.len]; exact hlt)); cases this)
          clear HNX HHA HLN2
          obtain ⟨rfl, rfl, rfl⟩ := HNO.out HNE.out
          obtain rfl : 0 = q := HM.out
          clear HNO HYES HZN HG0
          go_wp2_with fail
          go_ret3
          exact (OwnP.nil HO5.out.low).gives3 0 false
    · obtain rfl : k = n2 := by omega
      have hL := HYES.out ⟨HGD.out, HOK.out, fun j hj => hall.out j (by rw [← HJ.out.len]; exact hj)⟩
      rw [HJ.out.len] at hL
      obtain ⟨hL, hz, rfl⟩ := hL
      obtain rfl : n = q := by rw [← HM.out, hL, HLR.out]
      have HL := Lib.hid hL
      have HZ := Lib.hid hz
      have HO := Lib.hid hO
      obtain ⟨g, cg, rfl, -⟩ := hO
      clear hall hL hz HST HFB HZB HG0 HYES HNO HEN HOK2
      go_wp2_with fail
      go_ret3
      rw [HL.out, HZ.out]
      exact HO.out.gives3 _ true
set_option maxHeartbeats 1000000 in
theorem drainS_any {w : World} {B B2 : Nat} {A2 : Option Addr} {a : Addr} {n n2 : Nat} {vs : List TPool} {os : List Int} (c c2 : Nat) (h : IsPools w B (some a) n vs) (hm : n ≤ 1048576) (h2 : IsIs w B2 A2 n2 os) (hm2 : n2 ≤ 1048576) (hnc : n2 ≤ c2) (L : List TPool) (z : Int) (x : Bool) (hA : RunPA vs os true L z x) (q : Nat) (hl : L.length = q) :
    Calls Try.prog 34 #[.slice (some a) n c, .slice A2 n2 c2] w (GivesP3 w L q z x) := by
  have C := Lib.hid (l11Run_any true c c2 h hm h2 hm2 hnc L z x hA q hl)
  clear h h2 hA hl
  go_enter Try.func34, Try.ntmps34
  go_wp2_with fail
  refine C.out.mono ?_
  rintro e w1 ⟨g, cg, rfl, ho, hb⟩
  have HO := Lib.hid (And.intro ho hb)
  clear C ho hb
  go_wp2_with fail
  go_ret3
  exact ⟨g, cg, rfl, HO.out.1, HO.out.2⟩
set_option maxHeartbeats 1000000 in
theorem fillS_any {w : World} {B B2 : Nat} {A2 : Option Addr} {a : Addr} {n n2 : Nat} {vs : List TPool} {os : List Int} (c c2 : Nat) (h : IsPools w B (some a) n vs) (hm : n ≤ 1048576) (h2 : IsIs w B2 A2 n2 os) (hm2 : n2 ≤ 1048576) (hnc : n2 ≤ c2) (L : List TPool) (z : Int) (x : Bool) (hA : RunPA vs os false L z x) (q : Nat) (hl : L.length = q) :
    Calls Try.prog 36 #[.slice (some a) n c, .slice A2 n2 c2] w (GivesP3 w L q z x) := by
  have C := Lib.hid (l11Run_any false c c2 h hm h2 hm2 hnc L z x hA q hl)
  clear h h2 hA hl
  go_enter Try.func36, Try.ntmps36
  go_wp2_with fail
  refine C.out.mono ?_
  rintro e w1 ⟨g, cg, rfl, ho, hb⟩
  have HO := Lib.hid (And.intro ho hb)
  clear C ho hb
  go_wp2_with fail
  go_ret3
  exact ⟨g, cg, rfl, HO.out.1, HO.out.2⟩
end Go.Proofs.Ytgnopkemcgbedaa
