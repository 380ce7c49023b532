/- Chapter 10: several Flows made, sums, units: the model and the program. -/
import Derived.Test.YtliebicnejbheaaWaD
namespace Go.Proofs.Ytliebicnejbheaa
open Go.RowKit Go.PlainAid Go.Sort
set_option linter.unusedVariables false
set_option linter.unusedSimpArgs false

def GivesB3 (w : World) (L : List TBasin) (m : Nat) (z : Int) (x : Bool) (e : Ending) (w' : World) : Prop :=
  ∃ g c', e = .returned (.tuple #[.slice (some ⟨g, 0, none⟩) m c', .int .i64 z, .bool x]) ∧ w'.ownsRow w.heap.size 53 3 (.slice (some ⟨g, 0, none⟩) m c') m (flatBasin L) ∧ Below w.heap.size w w'
theorem OwnB.gives3 {w w' : World} {L : List TBasin} {n : Nat} {v : Value} (h : OwnB w w' L n v) (z : Int) (x : Bool) : GivesB3 w L n z x (.returned (.tuple #[v, .int .i64 z, .bool x])) w' := by
  obtain ⟨g, c, rfl, h1, h2, h3⟩ := h
  exact ⟨g, c, rfl, h2, h3⟩
/-- What is asked of one Flow more. -/
theorem movA_step {vs : List TBasin} {fs : List TFlow} {k : Nat} (h0 : goodBs (moves vs fs k)) (hf : goodF vs.length (fs.getD k noFlow)) :
    (goodBs (moves vs fs (k + 1)) → MovA (moves vs fs k) (fs.getD k noFlow) (moves vs fs (k + 1)) true) ∧ (¬ goodBs (moves vs fs (k + 1)) → MovA (moves vs fs k) (fs.getD k noFlow) [] false) := by
  have hf' : goodF (moves vs fs k).length (fs.getD k noFlow) := by rw [moves_len]; exact hf
  exact ⟨fun h => ⟨fun _ => ⟨rfl, rfl⟩, fun g => absurd ⟨h0, hf', h⟩ g⟩, fun h => ⟨fun g => absurd g.2.2 h, fun _ => ⟨rfl, rfl⟩⟩⟩
set_option maxRecDepth 100000 in
set_option maxHeartbeats 4000000 in
theorem runI_any {w : World} {B B2 : Nat} {A A2 : Option Addr} {n m : Nat} {vs : List TBasin} {fs : List TFlow} (c c2 : Nat) (h : IsBasins w B A n vs) (hm : n ≤ 1048576) (h2 : IsFlows w B2 A2 m fs) (hm2 : m ≤ 1048576)
    (L : List TBasin) (z : Int) (x : Bool) (hA : RunA vs fs L z x) (q : Nat) (hl : L.length = q) :
    Calls Try.prog 16 #[.slice A n c, .slice A2 m c2] w (GivesB3 w L q z x) := by
  have C := Lib.hid (canTry_any c c2 h (Nat.le_trans hm (by unfold maxLen; omega)) h2 (Nat.le_trans hm2 (by unfold maxLen; omega)))
  have HI := Lib.hid h
  have HJ := Lib.hid h2
  have HNO := Lib.hid hA.2
  have HYES := Lib.hid hA.1
  have HM := Lib.hid hl
  obtain ⟨G, hG⟩ : ∃ G, gT vs fs = G := ⟨_, rfl⟩
  rw [hG] at HNO HYES C
  have HGE := Lib.hid hG
  clear h h2 hA hG hl
  go_enter Try.func16, Try.ntmps16
  go_wp2_with fail
  refine C.out.mono ?_
  rintro e w1 ⟨rfl, hb⟩
  have HB1 := Lib.hid hb
  clear hb C
  cases G with
  | false =>
    obtain ⟨rfl, rfl, rfl⟩ := HNO.out rfl
    obtain rfl : 0 = q := HM.out
    clear HNO HYES HGE
    go_wp2_with fail
    go_ret3
    exact (OwnB.nil HB1.out).gives3 0 false
  | true =>
  obtain ⟨hL, hz, rfl⟩ := HYES.out rfl
  have hcan := (gT_iff vs fs).1 HGE.out
  have hn6 : n ≤ 6 := by rw [← HI.out.len]; exact hcan.1.1.2
  have hn1 : 0 < n := by rw [← HI.out.len]; exact hcan.1.1.1
  have hm12 : m ≤ 12 := by rw [← HJ.out.len]; exact hcan.2.1
  obtain ⟨a, rfl⟩ := some_of HI.out hn1
  obtain rfl : n = q := by rw [← HM.out, hL, moves_len, HI.out.len]
  rw [HJ.out.len] at hL hz
  have HL := Lib.hid hL
  have HZ := Lib.hid hz
  have HF := Lib.hid (fun k (hk : k < m) => show goodF vs.length (fs.getD k noFlow) from hcan.2.2 k (by rw [HJ.out.len]; exact hk))
  have HG0 := Lib.hid hcan.1
  have HLM := Lib.hid (fun k => (moves_len vs fs k).trans HI.out.len)
  have HBD := Lib.hid (fun k (hk : k ≤ m) => (moves_bd hcan k (by rw [HJ.out.len]; exact hk)).le (by omega : k ≤ 12))
  clear HNO HYES HM HGE hL hz hcan
  have CC := Lib.hid (cloneB_any c (HI.out.below HB1.out HI.out.low) (by omega))
  go_wp2_with fail
  refine CC.out.mono ?_
  rintro e w2 ⟨v, rfl, hO⟩
  have HO0 := Lib.hid (hO.base HB1.out)
  clear hO CC HB1
  go_wp2_with fail
  go_loopw [7, 21] (fun v i wr => ∃ k : Nat, k ≤ m ∧ i = .int .i64 k ∧ OwnB w wr (moves vs fs k) n v ∧ Hid (∀ j, j < k → goodBs (moves vs fs (j + 1)))) (fun _ i _ => m - (intOf i).toNat)
  case atStart => exact ⟨0, Nat.zero_le _, rfl, HO0.out, Lib.hid (by simp)⟩
  case round =>
    clear HO0
    obtain ⟨k, hk, rfl, hO, hall⟩ := hrel
    by_cases hlt : k < m
    · skip
      obtain ⟨a2, ea2, -, HV⟩ := (HJ.out.below hO.low HJ.out.low).has.Flow (k := k) (by rw [HJ.out.len]; exact hlt)
      obtain rfl := ea2
      have hfk := HF.out k hlt
      obtain ⟨V, hV⟩ : ∃ V, fs.getD k noFlow = V := ⟨_, rfl⟩
      rw [hV] at HV hfk
      have HVK := Lib.hid hV
      obtain ⟨f0, f1, f2⟩ := V
      obtain ⟨e0, e1, e2⟩ := HV
      dsimp only at e0 e1 e2
      have hk0 : (0 : Int) ≤ (k : Int) := by omega
      have hk1 : (k : Int) < (m : Int) := by omega
      have hgk : goodBs (moves vs fs k) := by
        cases k with
        | zero => exact HG0.out
        | succ k => exact hall.out k (by omega)
      have HST := Lib.hid (movA_step hgk (HF.out k hlt))
      rw [HVK.out] at HST
      have HB5 := Lib.hid (below1 wr (.cells #[.int .i64 f0, .int .i64 f1, .int .i64 f2] 38))
      have HO := Lib.hid hO
      obtain ⟨g, cg, rfl, hg1, hg2, hg3⟩ := hO
      have CM := Lib.hid (fun L x hA q hl => moveI_any cg ((own_Basins hg2).below HB5.out (Nat.le_refl _)) hm f0 f1 f2 L x hA q hl)
      have HHG := Lib.hid hgk
      have HHA := Lib.hid hall
      have HH3 := Lib.hid hg3
      clear hall hg1 hg2 hg3 hgk
      by_cases hnext : goodBs (moves vs fs (k + 1))
      · have D := Lib.hid (CM.out _ true (HST.out.1 hnext) n (HLM.out _))
        have HAL : Hid (∀ j, j < k + 1 → goodBs (moves vs fs (j + 1))) := Lib.hid (fun j hj => by
          rcases Nat.lt_succ_iff_lt_or_eq.1 hj with h1 | h1
          · exact HHA.out.out j h1
          · exact h1 ▸ hnext)
        clear CM HST hnext HHG HHA
        go_wp2_with fail
        refine D.out.mono ?_
        rintro e w5 ⟨g5, c5, rfl, hown5, hb5⟩
        have HB6 := Lib.hid (HH3.out.trans ((HB5.out.trans (hb5.mono HB5.out.size)).mono HH3.out.size))
        have hg5 := (hown5.lt g5 rfl).1
        have HO6 : Hid (OwnB w w5 (moves vs fs (k + 1)) n (.slice (some ⟨g5, 0, none⟩) n c5)) := Lib.hid ⟨g5, c5, rfl, by have := HB5.out.size; have := HH3.out.size; omega, own_low hown5 (Nat.le_trans HH3.out.size HB5.out.size), HB6.out⟩
        clear hown5 hb5 D HB6 hg5 HO HB5 HH3
        go_wp2_with fail
        go_roundw
        case rel => exact ⟨k + 1, by omega, by go_num, HO6.out, HAL⟩
        case measure => simp [intOf]; omega
      · have D := Lib.hid (CM.out _ false (HST.out.2 hnext) 0 rfl)
        obtain rfl : z = (k : Int) := by rw [HZ.out, made_hit HHA.out.out hnext m hlt]
        have HLL : Hid (L = moves vs fs k) := Lib.hid (by rw [HL.out, made_hit HHA.out.out hnext m hlt])
        clear CM HST hnext HHG HHA HL HZ
        go_wp2_with fail
        refine D.out.mono ?_
        rintro e w5 ⟨g5, c5, rfl, hown5, hb5⟩
        have HO6 := Lib.hid (HO.out.below (HB5.out.trans (hb5.mono HB5.out.size)))
        clear hown5 hb5 D HO HB5 HH3
        go_wp2_with fail
        go_ret3
        rw [HLL.out]
        exact HO6.out.gives3 _ true
    · obtain rfl : k = m := by omega
      obtain rfl : z = (k : Int) := by rw [HZ.out, made_all k hall.out]
      have HLL : Hid (L = moves vs fs k) := Lib.hid (by rw [HL.out, made_all k hall.out])
      have HO := Lib.hid hO
      obtain ⟨g, cg, rfl, -⟩ := hO
      clear hall HL HZ
      go_wp2_with fail
      go_ret3
      rw [HLL.out]
      exact HO.out.gives3 _ true

set_option maxRecDepth 100000 in
set_option maxHeartbeats 4000000 in
theorem runS_any {w : World} {B B2 : Nat} {A A2 : Option Addr} {n m : Nat} {vs : List TBasin} {fs : List TFlow} (c c2 : Nat) (h : IsBasins w B A n vs) (hm : n ≤ 1048576) (h2 : IsFlows w B2 A2 m fs) (hm2 : m ≤ 1048576)
    (L : List TBasin) (z : Int) (x : Bool) (hA : RunA vs fs L z x) (q : Nat) (hl : L.length = q) :
    Calls Try.prog 17 #[.slice A n c, .slice A2 m c2] w (GivesB3 w L q z x) := by
  have C := Lib.hid (l10Flows_any c c2 h (Nat.le_trans hm (by unfold maxLen; omega)) h2 (Nat.le_trans hm2 (by unfold maxLen; omega)))
  have HI := Lib.hid h
  have HJ := Lib.hid h2
  have HNO := Lib.hid hA.2
  have HYES := Lib.hid hA.1
  have HM := Lib.hid hl
  obtain ⟨G, hG⟩ : ∃ G, gT vs fs = G := ⟨_, rfl⟩
  rw [hG] at HNO HYES C
  have HGE := Lib.hid hG
  clear h h2 hA hG hl
  go_enter Try.func17, Try.ntmps17
  go_wp2_with fail
  refine C.out.mono ?_
  rintro e w1 ⟨rfl, hb⟩
  have HB1 := Lib.hid hb
  clear hb C
  cases G with
  | false =>
    obtain ⟨rfl, rfl, rfl⟩ := HNO.out rfl
    obtain rfl : 0 = q := HM.out
    clear HNO HYES HGE
    go_wp2_with fail
    go_ret3
    exact (OwnB.nil HB1.out).gives3 0 false
  | true =>
  obtain ⟨hL, hz, rfl⟩ := HYES.out rfl
  have hcan := (gT_iff vs fs).1 HGE.out
  have hn6 : n ≤ 6 := by rw [← HI.out.len]; exact hcan.1.1.2
  have hn1 : 0 < n := by rw [← HI.out.len]; exact hcan.1.1.1
  have hm12 : m ≤ 12 := by rw [← HJ.out.len]; exact hcan.2.1
  obtain ⟨a, rfl⟩ := some_of HI.out hn1
  obtain rfl : n = q := by rw [← HM.out, hL, moves_len, HI.out.len]
  rw [HJ.out.len] at hL hz
  have HL := Lib.hid hL
  have HZ := Lib.hid hz
  have HF := Lib.hid (fun k (hk : k < m) => show goodF vs.length (fs.getD k noFlow) from hcan.2.2 k (by rw [HJ.out.len]; exact hk))
  have HG0 := Lib.hid hcan.1
  have HLM := Lib.hid (fun k => (moves_len vs fs k).trans HI.out.len)
  have HBD := Lib.hid (fun k (hk : k ≤ m) => (moves_bd hcan k (by rw [HJ.out.len]; exact hk)).le (by omega : k ≤ 12))
  clear HNO HYES HM HGE hL hz hcan
  obtain ⟨i0, hi, hz0, hz1, hz2⟩ := info_parts Try.infoBasin'
  have hfl : (flatBasin vs).length = n * 3 := by rw [flatBasin_len, HI.out.len]; omega
  have HN : Hid (∀ j u, (flatBasin vs)[j]? = some u → (w1.alloc (.cells #[] 53)).cell? (a.add j) = some u) := Lib.hid (fun j u hu => by
    obtain ⟨a', e, hb, hc⟩ := (HI.out.below (HB1.out.alloc HB1.out.size (.cells #[] 53)) HI.out.low).has j u hu
    injection e with e
    subst e
    exact hc)
  have HOC : Hid (∀ u ∈ flatBasin vs, u.oneCell' = true) := Lib.hid (flatBasin_one vs)
  have HR := Lib.hid (World.ownsRow_made (size := 3) (e := 53) w1 #[] 0 (Nat.le_refl _) (by unfold maxLen; omega) rfl)
  obtain ⟨xs, hxs⟩ : ∃ xs, flatBasin vs = xs := ⟨_, rfl⟩
  rw [hxs] at hfl HN HOC
  have HXS := Lib.hid hxs
  clear hxs
  go_wp2_with (at_builtin; refine wpList_append_own _ rfl (.tmp 15) (.tmp 16) 24 rfl w1.heap.size 53 i0 (.agg #[.int .i64 0, .int .i64 0, .int .i64 0]) 3 24 Try.underlying24 hi hz0 hz1 hz2 rfl (by decide) (.slice (some ⟨w1.heap.size, 0, none⟩) 0 0) 0 [] rfl HR.out a n c xs rfl hfl HN.out HOC.out (by unfold maxLen; omega) (by omega) (by simp) ?_; intro v1 w2 hown1 hgrow1 hnil1; obtain ⟨g1, c1, rfl, hg1⟩ := own_some hown1 (fun e => nomatch (hnil1.1 e).1); have HB9 := Lib.hid (((Below.refl w1.heap.size w1).alloc (Nat.le_refl _) (.cells #[] 53)).grown hgrow1 (by simp) (fun q hq => by cases hq; exact Nat.le_refl _)); rw [Nat.zero_add, List.nil_append] at hown1; have HOWN := Lib.hid hown1; clear hown1 hgrow1 hnil1 HR HN HOC)
  rw [← HXS.out] at HOWN
  have HO0 : Hid (OwnB w w2 vs n (.slice (some ⟨g1, 0, none⟩) n c1)) := Lib.hid (OwnB.base ⟨g1, c1, rfl, hg1, HOWN.out, HB9.out⟩ HB1.out)
  clear HOWN HB9 HXS hg1 hfl
  clear HB1
  go_wp2_with fail
  go_loopw [7, 8] (fun v i wr => ∃ k : Nat, k ≤ m ∧ i = .int .i64 k ∧ OwnB w wr (moves vs fs k) n v ∧ Hid (∀ j, j < k → goodBs (moves vs fs (j + 1)))) (fun _ i _ => m - (intOf i).toNat)
  case atStart => exact ⟨0, Nat.zero_le _, rfl, HO0.out, Lib.hid (by simp)⟩
  case round =>
    clear HO0
    obtain ⟨k, hk, rfl, hO, hall⟩ := hrel
    by_cases hlt : k < m
    · skip
      obtain ⟨a2, ea2, -, HV⟩ := (HJ.out.below hO.low HJ.out.low).has.Flow (k := k) (by rw [HJ.out.len]; exact hlt)
      obtain rfl := ea2
      have hfk := HF.out k hlt
      obtain ⟨V, hV⟩ : ∃ V, fs.getD k noFlow = V := ⟨_, rfl⟩
      rw [hV] at HV hfk
      have HVK := Lib.hid hV
      obtain ⟨f0, f1, f2⟩ := V
      obtain ⟨e0, e1, e2⟩ := HV
      dsimp only at e0 e1 e2
      have hk0 : (0 : Int) ≤ (k : Int) := by omega
      have hk1 : (k : Int) < (m : Int) := by omega
      have hfn : goodF n ⟨f0, f1, f2⟩ := by rw [← HI.out.len]; exact hfk
      have HO := Lib.hid hO
      have HMV : Hid (move (moves vs fs k) ⟨f0, f1, f2⟩ = moves vs fs (k + 1)) := Lib.hid (by rw [← HVK.out]; rfl)
      obtain ⟨g, cg, rfl, hg1, hg2, hg3⟩ := hO
      have CM := Lib.hid (l10Move_any cg (own_Basins hg2) hn6 f0 f1 f2 hfn (HBD.out k hk))
      rw [HMV.out] at CM
      have CV := Lib.hid (fun W a c h hm => l10Good_any (w := W) (B := W.heap.size) (A := some a) (n := n) (vs := moves vs fs (k + 1)) c h hm)
      have HG2 := Lib.hid (gBs_iff (moves vs fs (k + 1)))
      generalize gBs (moves vs fs (k + 1)) = b2 at CV HG2
      have HHA := Lib.hid hall
      have HH3 := Lib.hid hg3
      clear hall hg1 hg2 hg3 hfn hfk HMV HVK
      go_wp2_with fail
      refine CM.out.mono ?_
      rintro e w5 ⟨v5, rfl, hO5⟩
      have HO5 := Lib.hid (hO5.base HH3.out)
      have HLW := Lib.hid hO5.low
      obtain ⟨g5, c5, rfl, -, hg6, -⟩ := hO5
      have D := Lib.hid (CV.out w5 _ c5 (own_Basins hg6) (Nat.le_trans hm (by unfold maxLen; omega)))
      clear hg6 CM CV HH3
      go_wp2_with fail
      refine D.out.mono ?_
      rintro e w6 ⟨rfl, hb⟩
      have HO6 := Lib.hid (HO5.out.below hb)
      have HO7 := Lib.hid (HO.out.below (HLW.out.trans (hb.mono HLW.out.size)))
      clear hb D HO5 HLW HO
      cases b2 with
      | true =>
        have HAL : Hid (∀ j, j < k + 1 → goodBs (moves vs fs (j + 1))) := Lib.hid (fun j hj => by
          rcases Nat.lt_succ_iff_lt_or_eq.1 hj with h1 | h1
          · exact HHA.out.out j h1
          · exact h1 ▸ HG2.out.1 rfl)
        clear HG2 HHA HO7
        go_wp2_with fail
        go_roundw
        case rel => exact ⟨k + 1, by omega, by go_num, HO6.out, HAL⟩
        case measure => simp [intOf]; omega
      | false =>
        have hnext : ¬ goodBs (moves vs fs (k + 1)) := fun g => by have := HG2.out.2 g; cases this
        obtain rfl : z = (k : Int) := by rw [HZ.out, made_hit HHA.out.out hnext m hlt]
        have HLL : Hid (L = moves vs fs k) := Lib.hid (by rw [HL.out, made_hit HHA.out.out hnext m hlt])
        clear HG2 hnext HHA HL HZ HO6
        go_wp2_with fail
        go_ret3
        rw [HLL.out]
        exact HO7.out.gives3 _ true
    · obtain rfl : k = m := by omega
      obtain rfl : z = (k : Int) := by rw [HZ.out, made_all k hall.out]
      have HLL : Hid (L = moves vs fs k) := Lib.hid (by rw [HL.out, made_all k hall.out])
      have HO := Lib.hid hO
      obtain ⟨g, cg, rfl, -⟩ := hO
      clear hall HL HZ
      go_wp2_with fail
      go_ret3
      rw [HLL.out]
      exact HO.out.gives3 _ true

set_option maxRecDepth 100000 in
set_option maxHeartbeats 2000000 in
theorem totI_any {w : World} {B : Nat} {A : Option Addr} {n : Nat} {vs : List TBasin} (c : Nat) (h : IsBasins w B A n vs) (hm : n ≤ 1048576) (z : Int) (x : Bool) (hA : TotA vs z x) :
    Calls Try.prog 19 #[.slice A n c] w fun e w' => e = .returned (.tuple #[.int .i64 z, .bool x]) ∧ Below w.heap.size w w' := by
  have C := Lib.hid (areBasins_any c h (Nat.le_trans hm (by unfold maxLen; omega)))
  have HI := Lib.hid h
  have HNO := Lib.hid hA.2
  have HYES := Lib.hid hA.1
  obtain ⟨G, hG⟩ : ∃ G, gBs vs = G := ⟨_, rfl⟩
  rw [hG] at HNO HYES C
  have HGE := Lib.hid hG
  clear h hA hG
  go_enter Try.func19, Try.ntmps19
  go_wp2_with fail
  refine C.out.mono ?_
  rintro e w1 ⟨rfl, hb⟩
  have HB1 := Lib.hid hb
  clear hb C
  cases G with
  | false =>
    obtain ⟨rfl, rfl⟩ := HNO.out rfl
    clear HNO HYES HGE
    go_wp2_with fail
    refine bodyPost_ret (results_tmp2 rfl _ _ _) rfl ?_
    exact ⟨rfl, HB1.out⟩
  | true =>
  obtain ⟨hz, rfl⟩ := HYES.out rfl
  have hgood := (gBs_iff vs).1 HGE.out
  have hn6 : n ≤ 6 := by rw [← HI.out.len]; exact hgood.1.2
  rw [HI.out.len] at hz
  have HZ := Lib.hid hz
  have HBD := Lib.hid (fun k (hk : k ≤ n) => totK_bd hgood k (by rw [HI.out.len]; exact hk))
  have HGK := Lib.hid (fun k (hk : k < n) => hgood.2 k (by rw [HI.out.len]; exact hk))
  clear HNO HYES HGE hz hgood
  go_wp2_with fail
  go_loopw [4, 12] (fun s i wr => ∃ k : Nat, k ≤ n ∧ i = .int .i64 k ∧ s = .int .i64 (totK vs k) ∧ Below w.heap.size w wr) (fun _ i _ => n - (intOf i).toNat)
  case atStart => exact ⟨0, Nat.zero_le _, rfl, rfl, HB1.out⟩
  case round =>
    clear HB1
    obtain ⟨k, hk, rfl, rfl, hb⟩ := hrel
    by_cases hlt : k < n
    · obtain ⟨a1, rfl, hab, HV⟩ := (HI.out.below hb HI.out.low).has.Basin (k := k) (by rw [HI.out.len]; exact hlt)
      have hbd := HBD.out k hk
      obtain ⟨⟨g1, g2⟩, g3, g4⟩ := HGK.out k hlt
      have HST : Hid (totK vs (k + 1) = totK vs k + (vs.getD k noBasin).x0) := Lib.hid rfl
      generalize vs.getD k noBasin = V at HV HST g1 g2 g3 g4
      obtain ⟨d, l, b⟩ := V
      obtain ⟨e0, e1, e2⟩ := HV
      dsimp only at e0 e1 e2 HST g1 g2 g3 g4
      generalize totK vs k = t at HST hbd ⊢
      have HB := Lib.hid hb
      have hk0 : (0 : Int) ≤ (k : Int) := by omega
      have hk1 : (k : Int) < (n : Int) := by omega
      clear hb HBD HGK
      go_wp2_with fail
      go_roundw
      case rel => exact ⟨k + 1, by omega, by go_num, by rw [HST.out], HB.out.alloc HB.out.size _⟩
      case measure => simp [intOf]; omega
    · obtain rfl : k = n := by omega
      obtain rfl := HZ.out
      clear HBD HGK HZ
      go_wp2_with fail
      refine bodyPost_ret (results_tmp2 rfl _ _ _) rfl ?_
      exact ⟨rfl, hb⟩
set_option maxRecDepth 100000 in
set_option maxHeartbeats 2000000 in
theorem totS_any {w : World} {B : Nat} {A : Option Addr} {n : Nat} {vs : List TBasin} (c : Nat) (h : IsBasins w B A n vs) (hm : n ≤ 1048576) (z : Int) (x : Bool) (hA : TotA vs z x) :
    Calls Try.prog 30 #[.slice A n c] w fun e w' => e = .returned (.tuple #[.int .i64 z, .bool x]) ∧ Below w.heap.size w w' := by
  have C := Lib.hid (l10Good_any c h (Nat.le_trans hm (by unfold maxLen; omega)))
  have HI := Lib.hid h
  have HNO := Lib.hid hA.2
  have HYES := Lib.hid hA.1
  obtain ⟨G, hG⟩ : ∃ G, gBs vs = G := ⟨_, rfl⟩
  rw [hG] at HNO HYES C
  have HGE := Lib.hid hG
  clear h hA hG
  go_enter Try.func30, Try.ntmps30
  go_wp2_with fail
  refine C.out.mono ?_
  rintro e w1 ⟨rfl, hb⟩
  have HB1 := Lib.hid hb
  clear hb C
  cases G with
  | false =>
    obtain ⟨rfl, rfl⟩ := HNO.out rfl
    clear HNO HYES HGE
    go_wp2_with fail
    refine bodyPost_ret (results_tmp2 rfl _ _ _) rfl ?_
    exact ⟨rfl, HB1.out⟩
  | true =>
  obtain ⟨hz, rfl⟩ := HYES.out rfl
  have hgood := (gBs_iff vs).1 HGE.out
  have hn6 : n ≤ 6 := by rw [← HI.out.len]; exact hgood.1.2
  rw [HI.out.len] at hz
  have HZ := Lib.hid hz
  have HBD := Lib.hid (fun k (hk : k ≤ n) => totK_bd hgood k (by rw [HI.out.len]; exact hk))
  have HGK := Lib.hid (fun k (hk : k < n) => hgood.2 k (by rw [HI.out.len]; exact hk))
  clear HNO HYES HGE hz hgood
  go_wp2_with fail
  go_loopw [4, 5] (fun s i wr => ∃ k : Nat, k ≤ n ∧ i = .int .i64 k ∧ s = .int .i64 (totK vs k) ∧ Below w.heap.size w wr) (fun _ i _ => n - (intOf i).toNat)
  case atStart => exact ⟨0, Nat.zero_le _, rfl, rfl, HB1.out⟩
  case round =>
    clear HB1
    obtain ⟨k, hk, rfl, rfl, hb⟩ := hrel
    by_cases hlt : k < n
    · obtain ⟨a1, rfl, hab, HV⟩ := (HI.out.below hb HI.out.low).has.Basin (k := k) (by rw [HI.out.len]; exact hlt)
      have hbd := HBD.out k hk
      obtain ⟨⟨g1, g2⟩, g3, g4⟩ := HGK.out k hlt
      have HST : Hid (totK vs (k + 1) = totK vs k + (vs.getD k noBasin).x0) := Lib.hid rfl
      generalize vs.getD k noBasin = V at HV HST g1 g2 g3 g4
      obtain ⟨d, l, b⟩ := V
      obtain ⟨e0, e1, e2⟩ := HV
      dsimp only at e0 e1 e2 HST g1 g2 g3 g4
      generalize totK vs k = t at HST hbd ⊢
      have HB := Lib.hid hb
      have hk0 : (0 : Int) ≤ (k : Int) := by omega
      have hk1 : (k : Int) < (n : Int) := by omega
      clear hb HBD HGK
      go_wp2_with fail
      go_roundw
      case rel => exact ⟨k + 1, by omega, by go_num, by rw [HST.out], HB.out⟩
      case measure => simp [intOf]; omega
    · obtain rfl : k = n := by omega
      obtain rfl := HZ.out
      clear HBD HGK HZ
      go_wp2_with fail
      refine bodyPost_ret (results_tmp2 rfl _ _ _) rfl ?_
      exact ⟨rfl, hb⟩

set_option maxRecDepth 100000 in
set_option maxHeartbeats 2000000 in
theorem netI_any {w : World} {B B2 : Nat} {A A2 : Option Addr} {n m : Nat} {vs : List TBasin} {fs : List TFlow} (c c2 : Nat) (h : IsBasins w B A n vs) (hm : n ≤ 1048576) (h2 : IsFlows w B2 A2 m fs) (hm2 : m ≤ 1048576) (z : Int) (x : Bool) (hA : NetA vs fs z x) :
    Calls Try.prog 20 #[.slice A n c, .slice A2 m c2] w fun e w' => e = .returned (.tuple #[.int .i64 z, .bool x]) ∧ Below w.heap.size w w' := by
  have C := Lib.hid (canTry_any c c2 h (Nat.le_trans hm (by unfold maxLen; omega)) h2 (Nat.le_trans hm2 (by unfold maxLen; omega)))
  have HJ := Lib.hid h2
  have HNO := Lib.hid hA.2
  have HYES := Lib.hid hA.1
  obtain ⟨G, hG⟩ : ∃ G, gT vs fs = G := ⟨_, rfl⟩
  rw [hG] at HNO HYES C
  have HGE := Lib.hid hG
  clear h h2 hA hG
  go_enter Try.func20, Try.ntmps20
  go_wp2_with fail
  refine C.out.mono ?_
  rintro e w1 ⟨rfl, hb⟩
  have HB1 := Lib.hid hb
  clear hb C
  cases G with
  | false =>
    obtain ⟨rfl, rfl⟩ := HNO.out rfl
    clear HNO HYES HGE
    go_wp2_with fail
    refine bodyPost_ret (results_tmp2 rfl _ _ _) rfl ?_
    exact ⟨rfl, HB1.out⟩
  | true =>
  obtain ⟨hz, rfl⟩ := HYES.out rfl
  have hcan := (gT_iff vs fs).1 HGE.out
  have hm12 : m ≤ 12 := by rw [← HJ.out.len]; exact hcan.2.1
  rw [HJ.out.len] at hz
  have HZ := Lib.hid hz
  have HBD := Lib.hid (fun k (hk : k ≤ m) => netK_bd hcan.2 k (by rw [HJ.out.len]; exact hk))
  have HGK := Lib.hid (fun k (hk : k < m) => hcan.2.2 k (by rw [HJ.out.len]; exact hk))
  clear HNO HYES HGE hz hcan
  go_wp2_with fail
  go_loopw [6, 15] (fun s i wr => ∃ k : Nat, k ≤ m ∧ i = .int .i64 k ∧ s = .int .i64 (netK fs k) ∧ Below w.heap.size w wr) (fun _ i _ => m - (intOf i).toNat)
  case atStart => exact ⟨0, Nat.zero_le _, rfl, rfl, HB1.out⟩
  case round =>
    clear HB1
    obtain ⟨k, hk, rfl, rfl, hb⟩ := hrel
    by_cases hlt : k < m
    · obtain ⟨a1, rfl, hab, HV⟩ := (HJ.out.below hb HJ.out.low).has.Flow (k := k) (by rw [HJ.out.len]; exact hlt)
      have hbd := HBD.out k hk
      obtain ⟨⟨g1, g2⟩, ⟨g3, g4⟩, g5, g6, g7⟩ := HGK.out k hlt
      have HST : Hid (netK fs (k + 1) = netK fs k + ((if (fs.getD k noFlow).x0 = -1 then (fs.getD k noFlow).x2 else 0) - (if (fs.getD k noFlow).x1 = -1 then (fs.getD k noFlow).x2 else 0))) := Lib.hid rfl
      generalize fs.getD k noFlow = V at HV HST g1 g2 g3 g4 g5 g6 g7
      obtain ⟨f0, f1, f2⟩ := V
      obtain ⟨e0, e1, e2⟩ := HV
      dsimp only at e0 e1 e2 HST g1 g2 g3 g4 g5 g6 g7
      generalize netK fs k = t at HST hbd ⊢
      have HB := Lib.hid hb
      have hk0 : (0 : Int) ≤ (k : Int) := by omega
      have hk1 : (k : Int) < (m : Int) := by omega
      clear hb HBD HGK
      by_cases c0 : f0 = -1
      · have c1 : ¬ f1 = -1 := by omega
        rw [if_pos c0, if_neg c1] at HST
        have b0 : (-1 == f0) = true := by simp [c0]
        have b1 : (-1 == f1) = false := by simp; omega
        have HE := Lib.hid (HST.out.trans (show t + (f2 - 0) = t + f2 by omega))
        clear c0 c1 HST g5
        go_wp2_with fail
        go_roundw
        case rel => exact ⟨k + 1, by omega, by go_num, by rw [HE.out], HB.out.alloc HB.out.size _⟩
        case measure => simp [intOf]; omega
      · have b0 : (-1 == f0) = false := by simp; omega
        by_cases c1 : f1 = -1
        · rw [if_neg c0, if_pos c1] at HST
          have b1 : (-1 == f1) = true := by simp [c1]
          have HE := Lib.hid (HST.out.trans (show t + (0 - f2) = t - f2 by omega))
          clear c0 c1 HST g5
          go_wp2_with fail
          go_roundw
          case rel => exact ⟨k + 1, by omega, by go_num, by rw [HE.out], HB.out.alloc HB.out.size _⟩
          case measure => simp [intOf]; omega
        · rw [if_neg c0, if_neg c1] at HST
          have b1 : (-1 == f1) = false := by simp; omega
          have HE := Lib.hid (HST.out.trans (show t + (0 - 0) = t by omega))
          clear c0 c1 HST g5
          go_wp2_with fail
          go_roundw
          case rel => exact ⟨k + 1, by omega, by go_num, by rw [HE.out], HB.out.alloc HB.out.size _⟩
          case measure => simp [intOf]; omega
    · obtain rfl : k = m := by omega
      obtain rfl := HZ.out
      clear HBD HGK HZ
      go_wp2_with fail
      refine bodyPost_ret (results_tmp2 rfl _ _ _) rfl ?_
      exact ⟨rfl, hb⟩
set_option maxRecDepth 100000 in
set_option maxHeartbeats 2000000 in
theorem netS_any {w : World} {B B2 : Nat} {A A2 : Option Addr} {n m : Nat} {vs : List TBasin} {fs : List TFlow} (c c2 : Nat) (h : IsBasins w B A n vs) (hm : n ≤ 1048576) (h2 : IsFlows w B2 A2 m fs) (hm2 : m ≤ 1048576) (z : Int) (x : Bool) (hA : NetA vs fs z x) :
    Calls Try.prog 28 #[.slice A n c, .slice A2 m c2] w fun e w' => e = .returned (.tuple #[.int .i64 z, .bool x]) ∧ Below w.heap.size w w' := by
  have C := Lib.hid (l10Flows_any c c2 h (Nat.le_trans hm (by unfold maxLen; omega)) h2 (Nat.le_trans hm2 (by unfold maxLen; omega)))
  have HJ := Lib.hid h2
  have HNO := Lib.hid hA.2
  have HYES := Lib.hid hA.1
  obtain ⟨G, hG⟩ : ∃ G, gT vs fs = G := ⟨_, rfl⟩
  rw [hG] at HNO HYES C
  have HGE := Lib.hid hG
  clear h h2 hA hG
  go_enter Try.func28, Try.ntmps28
  go_wp2_with fail
  refine C.out.mono ?_
  rintro e w1 ⟨rfl, hb⟩
  have HB1 := Lib.hid hb
  clear hb C
  cases G with
  | false =>
    obtain ⟨rfl, rfl⟩ := HNO.out rfl
    clear HNO HYES HGE
    go_wp2_with fail
    refine bodyPost_ret (results_tmp2 rfl _ _ _) rfl ?_
    exact ⟨rfl, HB1.out⟩
  | true =>
  obtain ⟨hz, rfl⟩ := HYES.out rfl
  have hcan := (gT_iff vs fs).1 HGE.out
  have hm12 : m ≤ 12 := by rw [← HJ.out.len]; exact hcan.2.1
  rw [HJ.out.len] at hz
  have HZ := Lib.hid hz
  have HBD := Lib.hid (fun k (hk : k ≤ m) => netK_bd hcan.2 k (by rw [HJ.out.len]; exact hk))
  have HGK := Lib.hid (fun k (hk : k < m) => hcan.2.2 k (by rw [HJ.out.len]; exact hk))
  clear HNO HYES HGE hz hcan
  go_wp2_with fail
  go_loopw [6, 7] (fun s i wr => ∃ k : Nat, k ≤ m ∧ i = .int .i64 k ∧ s = .int .i64 (netK fs k) ∧ Below w.heap.size w wr) (fun _ i _ => m - (intOf i).toNat)
  case atStart => exact ⟨0, Nat.zero_le _, rfl, rfl, HB1.out⟩
  case round =>
    clear HB1
    obtain ⟨k, hk, rfl, rfl, hb⟩ := hrel
    by_cases hlt : k < m
    · obtain ⟨a1, rfl, hab, HV⟩ := (HJ.out.below hb HJ.out.low).has.Flow (k := k) (by rw [HJ.out.len]; exact hlt)
      have hbd := HBD.out k hk
      obtain ⟨⟨g1, g2⟩, ⟨g3, g4⟩, g5, g6, g7⟩ := HGK.out k hlt
      have HST : Hid (netK fs (k + 1) = netK fs k + ((if (fs.getD k noFlow).x0 = -1 then (fs.getD k noFlow).x2 else 0) - (if (fs.getD k noFlow).x1 = -1 then (fs.getD k noFlow).x2 else 0))) := Lib.hid rfl
      generalize fs.getD k noFlow = V at HV HST g1 g2 g3 g4 g5 g6 g7
      obtain ⟨f0, f1, f2⟩ := V
      obtain ⟨e0, e1, e2⟩ := HV
      dsimp only at e0 e1 e2 HST g1 g2 g3 g4 g5 g6 g7
      generalize netK fs k = t at HST hbd ⊢
      have HB := Lib.hid hb
      have hk0 : (0 : Int) ≤ (k : Int) := by omega
      have hk1 : (k : Int) < (m : Int) := by omega
      clear hb HBD HGK
      by_cases c0 : f0 = -1
      · have c1 : ¬ f1 = -1 := by omega
        rw [if_pos c0, if_neg c1] at HST
        have b0 : (f0 == -1) = true := by simp [c0]
        have b1 : (f1 == -1) = false := by simp; omega
        have HE := Lib.hid (HST.out.trans (show t + (f2 - 0) = t + f2 by omega))
        clear c0 c1 HST g5
        go_wp2_with fail
        go_roundw
        case rel => exact ⟨k + 1, by omega, by go_num, by rw [HE.out], HB.out⟩
        case measure => simp [intOf]; omega
      · have b0 : (f0 == -1) = false := by simp; omega
        by_cases c1 : f1 = -1
        · rw [if_neg c0, if_pos c1] at HST
          have b1 : (f1 == -1) = true := by simp [c1]
          have HE := Lib.hid (HST.out.trans (show t + (0 - f2) = t - f2 by omega))
          clear c0 c1 HST g5
          go_wp2_with fail
          go_roundw
          case rel => exact ⟨k + 1, by omega, by go_num, by rw [HE.out], HB.out⟩
          case measure => simp [intOf]; omega
        · rw [if_neg c0, if_neg c1] at HST
          have b1 : (f1 == -1) = false := by simp; omega
          have HE := Lib.hid (HST.out.trans (show t + (0 - 0) = t by omega))
          clear c0 c1 HST g5
          go_wp2_with fail
          go_roundw
          case rel => exact ⟨k + 1, by omega, by go_num, by rw [HE.out], HB.out⟩
          case measure => simp [intOf]; omega
    · obtain rfl : k = m := by omega
      obtain rfl := HZ.out
      clear HBD HGK HZ
      go_wp2_with fail
      refine bodyPost_ret (results_tmp2 rfl _ _ _) rfl ?_
      exact ⟨rfl, hb⟩
end Go.Proofs.Ytliebicnejbheaa
