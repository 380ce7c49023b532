/- Chapter 4: FirstPacking and hasPacking of the program. -/
import Derived.Test.YtdleidlmjliapaaChK
namespace Go.Proofs.Ytdleidlmjliapaa
open Go.RowKit Go.PlainAid Go.Sort
set_option linter.unusedVariables false
set_option linter.unusedSimpArgs false

abbrev spotsOf (r : List (THull × TSpot)) : List TSpot := (r.map Prod.snd).reverse
/-- What FirstPacking answers. -/
structure FirstA (c : TChamber) (hs : List THull) (L : List TSpot) (x : Bool) : Prop where
  bad : (decide (goodC c) && gHs hs) = false → L = [] ∧ x = false
  no : goodC c → goodHs hs → search c hs [] = none → L = [] ∧ x = false
  yes : ∀ r, goodC c → goodHs hs → search c hs [] = some r → L = spotsOf r ∧ x = true
theorem firstA_ex (c : TChamber) (hs : List THull) : ∃ L x, FirstA c hs L x := by
  by_cases h : (decide (goodC c) && gHs hs) = false
  · exact ⟨[], false, fun _ => ⟨rfl, rfl⟩, fun _ _ _ => ⟨rfl, rfl⟩, fun r h1 h2 _ => by rw [decide_eq_true h1, gHs_yes h2] at h; cases h⟩
  · cases e : search c hs [] with
    | none => exact ⟨[], false, fun g => absurd g h, fun _ _ _ => ⟨rfl, rfl⟩, fun r _ _ g => by rw [e] at g; cases g⟩
    | some r => exact ⟨spotsOf r, true, fun g => absurd g h, fun _ _ g => (by rw [e] at g; cases g), fun r' _ _ g => (by rw [e] at g; injection g with g; subst g; exact ⟨rfl, rfl⟩)⟩
theorem good_of {c : TChamber} {hs : List THull} (h : (decide (goodC c) && gHs hs) = true) : goodC c ∧ goodHs hs := by
  rw [Bool.and_eq_true] at h
  exact ⟨of_decide_eq_true h.1, (gHs_iff hs).1 h.2⟩
theorem FirstA.len {c : TChamber} {hs : List THull} {L : List TSpot} {x : Bool} (h : FirstA c hs L x) : L.length ≤ 4 := by
  by_cases g : (decide (goodC c) && gHs hs) = false
  · rw [(h.bad g).1]; simp
  · obtain ⟨hc, hg⟩ := good_of (by simpa using g : (decide (goodC c) && gHs hs) = true)
    cases e : search c hs [] with
    | none => rw [(h.no hc hg e).1]; simp
    | some r =>
      obtain ⟨-, e', hr, hm⟩ := search_some hs [] r trivial e
      rw [(h.yes r hc hg e).1]
      rw [List.append_nil] at hr
      subst hr
      have := congrArg List.length hm
      simp at this
      simp [this, hg.1]
theorem FirstA.fits {c : TChamber} {hs : List THull} {L : List TSpot} {x : Bool} (h : FirstA c hs L x) (hc : goodC c) (hg : goodHs hs) : x = fits c hs := by
  unfold Go.Proofs.Ytdleidlmjliapaa.fits
  cases e : search c hs [] with
  | none => rw [(h.no hc hg e).2]; rfl
  | some r => rw [(h.yes r hc hg e).2]; rfl
theorem search_len {c : TChamber} {hs : List THull} {r : List (THull × TSpot)} (h : search c hs [] = some r) : r.length = hs.length := by
  obtain ⟨-, e', hr, hm⟩ := search_some hs [] r trivial h
  rw [List.append_nil] at hr
  subst hr
  have := congrArg List.length hm
  simpa using this
abbrev emptyS (w : World) : w.heap.size ≤ w.heap.size := Nat.le_refl _

set_option maxRecDepth 100000 in
set_option maxHeartbeats 1000000 in
theorem firstI_any {w : World} {B : Nat} {A : Option Addr} {n : Nat} {hs : List THull} (cl cb : Int) (c : Nat) (h : IsHulls w B A n hs) (hm : n ≤ 1048576) (hnc : n ≤ c) (L : List TSpot) (x : Bool) (hA : FirstA ⟨cl, cb⟩ hs L x) :
    Calls Try.prog 7 #[.agg #[.int .i64 cl, .int .i64 cb], .slice A n c] w fun e w' => ∃ g c', e = .returned (.tuple #[.slice (some ⟨g, 0, none⟩) L.length c', .bool x]) ∧
      w'.ownsRow w.heap.size 42 2 (.slice (some ⟨g, 0, none⟩) L.length c') L.length (flatSpot L) ∧ Below w.heap.size w w' := by
  obtain ⟨i0, hi, hz0, hz1, hz2⟩ := info_parts Try.infoSpot'
  have CAN := Lib.hid (fun W (hb : Below w.heap.size w W) => canPack_any cl cb c (h.below hb h.low) hm)
  have CLA := Lib.hid (fun (hc : goodC ⟨cl, cb⟩) (hg : goodHs hs) W (hb : Below w.heap.size w W) => layAll_any cl cb hc hs W B A n c [] (.pointer none) (h.below hb h.low) hnc (by rw [← h.len]; exact hg.1) (goodHs_all hg) rfl (by simp))
  have HH := Lib.hid h
  have HA := Lib.hid hA
  have HGD := Lib.hid (fun h => good_of (c := ⟨cl, cb⟩) (hs := hs) h)
  have HSL := Lib.hid (fun r h => search_len (c := ⟨cl, cb⟩) (hs := hs) (r := r) h)
  obtain ⟨R, hR⟩ : ∃ R, (decide (goodC ⟨cl, cb⟩) && gHs hs) = R := ⟨_, rfl⟩
  have HR := Lib.hid hR
  rw [hR] at CAN
  clear h hA hR
  have HEMP := Lib.hid (fun (W : World) (hb : Below w.heap.size w W) => (World.ownsRow_made (size := 2) (e := 42) W #[] 0 hb.size (by unfold maxLen; omega) rfl))
  obtain ⟨xb, hxb⟩ : ∃ x, w.heap.size = x := ⟨_, rfl⟩
  go_enter Try.func7, Try.ntmps7
  go_wp2_with fail
  refine (CAN.out _ (below1 _ _)).mono ?_
  rintro e w1 ⟨rfl, hb⟩
  have HB1 := Lib.hid ((below1 w (.cells #[.int .i64 cl, .int .i64 cb] 25)).trans (hb.mono (by simp)))
  have cc0 : w1.cell? ⟨xb, 0, none⟩ = some (.int .i64 cl) := (hb.cell (by simp [← hxb])).trans (by rw [← hxb, sNew]; rfl)
  have cc1 : w1.cell? ⟨xb, 1, none⟩ = some (.int .i64 cb) := (hb.cell (by simp [← hxb])).trans (by rw [← hxb, sNew]; rfl)
  clear hb CAN
  cases R with
  | false =>
    obtain ⟨rfl, rfl⟩ := HA.out.bad HR.out
    clear HA CLA HGD HSL
    go_wp2_with fail
    refine bodyPost_ret (results_tmp2 rfl _ _ _) rfl ?_
    exact ⟨_, 0, rfl, HEMP.out _ HB1.out, HB1.out.alloc HB1.out.size _⟩
  | true =>
    obtain ⟨hc, hg⟩ := HGD.out HR.out
    have CL := Lib.hid (CLA.out hc hg)
    have HANO := Lib.hid (HA.out.no hc hg)
    have HAYES := Lib.hid (fun r => HA.out.yes r hc hg)
    have hn4 : n ≤ 4 := by have := hg.1; rw [HH.out.len] at this; exact this
    obtain ⟨RK, hRK⟩ : ∃ o, search ⟨cl, cb⟩ hs [] = o := ⟨_, rfl⟩
    have HRK := Lib.hid hRK
    rw [hRK] at CL HANO HAYES HSL
    clear HA CLA HGD hc hg hRK
    go_wp2_with fail
    refine (CL.out _ HB1.out).mono ?_
    rintro e w2 ⟨⟨r, rfl, hr⟩, hb⟩
    have HB2 := Lib.hid (HB1.out.trans (hb.mono HB1.out.size))
    clear hb CL cc0 cc1
    cases RK with
    | none =>
      obtain ⟨rfl, rfl⟩ := HANO.out rfl
      clear HANO HAYES HSL
      go_wp2_with fail
      refine bodyPost_ret (results_tmp2 rfl _ _ _) rfl ?_
      exact ⟨_, 0, rfl, HEMP.out _ HB2.out, HB2.out.alloc HB2.out.size _⟩
    | some res =>
      obtain ⟨hL, rfl⟩ := HAYES.out res rfl
      have HL := Lib.hid hL
      have HCH := Lib.hid (hr.out res rfl)
      have hrl : res.length = n := by rw [HSL.out res rfl, HH.out.len]
      have hgl := HB2.out.size
      have HOW := Lib.hid (World.ownsRow_made (size := 2) (e := 42) w2 #[] 0 (Nat.le_refl _) (by unfold maxLen; omega) rfl)
      clear hL HANO HAYES HSL hr
      go_wp2_with fail
      go_loopg [8, 9] res.length (fun gh v q wr => ∃ (pre rest : List (THull × TSpot)) (g0 cp : Nat), res = pre ++ rest ∧ rest.length = gh ∧ v = .slice (some ⟨g0, 0, none⟩) pre.length cp ∧ w2.heap.size ≤ g0 ∧ Lays w2 w2.heap.size q rest ∧ wr.ownsRow w2.heap.size 42 2 (.slice (some ⟨g0, 0, none⟩) pre.length cp) pre.length (flatSpot (pre.map Prod.snd)) ∧ Below w2.heap.size w2 wr)
      case atStart => exact ⟨[], res, _, 0, rfl, rfl, rfl, Nat.le_refl _, HCH.out, HOW.out, (Below.refl w2.heap.size w2).alloc (Nat.le_refl _) _⟩
      case round =>
        obtain ⟨pre, rest, g0, cp, hpr, hrs, rfl, hg0, hch, hown, hb⟩ := hrel
        cases gk with
        | succ gh =>
          obtain ⟨p, rest', rfl⟩ : ∃ p r, rest = p :: r := by
            cases rest with
            | nil => cases hrs
            | cons p r => exact ⟨p, r, rfl⟩
          obtain ⟨g, u, rfl, hgb, HLA, hch'⟩ := hch
          have HLA5 := HLA.c5
          obtain ⟨k0, k1, k2, k3, k4, k5⟩ := HLA.below hb hgb
          have hpl : pre.length ≤ 4 := by have := congrArg List.length hpr; simp at this; omega
          obtain ⟨ph, ⟨s0, s1⟩⟩ := p
          dsimp only at k3 k4
          have HPR := Lib.hid hpr
          have HRS := Lib.hid hrs
          clear hpr hrs k0 k1 k2 HLA hrl
          go_wp2_with (at_builtin; refine wpList_append_own _ rfl (.tmp 32) (.tmp 37) 29 rfl w2.heap.size 42 i0 (.agg #[.int .i64 0, .int .i64 0]) 2 16 Try.underlying29 hi hz0 hz1 hz2 rfl (by decide) (.slice (some ⟨g0, 0, none⟩) (pre.length) cp) (pre.length) _ rfl (hown.alloc _) ⟨wr.heap.size, 0, none⟩ 1 1 [.int .i64 s0, .int .i64 s1] rfl rfl (cell_two_new _ _ _ _) (by simp [Value.oneCell']) (by unfold maxLen; omega) (by omega) (by have := (hb).size; simp; omega) ?_; intro v1 w1 hown1 hgrow1 hnil1; obtain ⟨g1, c1, rfl, hg1⟩ := own_some hown1 (fun e => nomatch (hnil1.1 e).1); have hb1 := ((hb).alloc (hb).size (.cells #[.int .i64 s0, .int .i64 s1] 42)).grown hgrow1 (by have := (hb).size; simp; omega) (fun q hq => by cases hq; assumption); have kk := (hb1.cell (p := ⟨g, 5, none⟩) hgb).trans HLA5; clear hnil1 hgrow1 hown hb k3 k4 k5)
          go_roundg gh
          case rel => exact ⟨pre ++ [(ph, ⟨s0, s1⟩)], rest', g1, c1, by simp [HPR.out], by have := HRS.out; simpa using this, by simp, hg1, hch', by rw [List.map_append, flatSpot_append, List.length_append]; exact hown1, hb1⟩
          case measure => omega
        | zero =>
          obtain rfl : rest = [] := List.eq_nil_of_length_eq_zero hrs
          obtain rfl : _ = Value.pointer none := hch
          obtain rfl : res = pre := by simpa using hpr
          obtain rfl := HL.out
          have CREV := Lib.hid (revS_any g0 res.length cp w2.heap.size (res.map Prod.snd) wr (by simp) (by omega) hown)
          have HOW2 := Lib.hid hown
          clear hpr hrs hown HOW HCH HL hrl
          go_wp2_with fail
          refine CREV.out.mono ?_
          rintro e w3 ⟨rfl, hown3, hg3⟩
          have hb3 := hb.grown hg3 hb.size (fun q e => by cases e; exact hg0)
          have hll : (spotsOf res).length = res.length := by simp
          clear CREV
          go_wp2_with fail
          refine bodyPost_ret (results_tmp2 rfl _ _ _) rfl ?_
          refine ⟨g0, cp, ?_, ?_, HB2.out.trans (hb3.mono HB2.out.size)⟩
          · rw [hll]; rfl
          · rw [hll]; exact own_low hown3 HB2.out.size

end Go.Proofs.Ytdleidlmjliapaa
