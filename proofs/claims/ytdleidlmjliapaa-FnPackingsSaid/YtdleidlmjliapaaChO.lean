/- Chapter 4: l4Fits and FirstPacking of the model. -/
import Derived.Test.YtdleidlmjliapaaChN
namespace Go.Proofs.Ytdleidlmjliapaa
open Go.RowKit Go.PlainAid Go.Sort
set_option linter.unusedVariables false
set_option linter.unusedSimpArgs false

theorem mulC_bd {c : TChamber} (h : goodC c) : 1 ≤ c.x0 * c.x1 ∧ c.x0 * c.x1 ≤ 18 := by
  obtain ⟨h1, h2⟩ := h
  obtain h3 | h3 | h3 : c.x1 = 1 ∨ c.x1 = 2 ∨ c.x1 = 3 := by omega
  all_goals rw [h3]; omega
set_option maxRecDepth 100000 in
set_option maxHeartbeats 2000000 in
theorem l4Fits_any {w : World} {B : Nat} {A : Option Addr} {n : Nat} {hs : List THull} (cl cb : Int) (c : Nat) (h : IsHulls w B A n hs) (hc : goodC ⟨cl, cb⟩) (hg : goodHs hs) :
    Calls Try.prog 39 #[.agg #[.int .i64 cl, .int .i64 cb], .slice A n c] w fun e w' => e = .returned (.bool (fits ⟨cl, cb⟩ hs)) ∧ Below w.heap.size w w' := by
  have HH := Lib.hid h
  have HALL := Lib.hid (goodHs_all hg)
  have HGG := Lib.hid (fun k hk => (hg.2 k hk).1)
  have hmul := mulC_bd hc
  have hn4 : n ≤ 4 := by rw [← h.len]; exact hg.1
  have HAR := Lib.hid (fun hf => fits_area (c := ⟨cl, cb⟩) (hs := hs) hc (goodHs_all hg) hf)
  have CF := Lib.hid (fun W (hb : Below w.heap.size w W) g c' (ho : W.ownsRow W.heap.size 42 2 (.slice (some ⟨g, 0, none⟩) 0 c') 0 []) => l4First_any cl cb hc hs hs [] W B W.heap.size A n c g 0 c' rfl hg trivial (h.below hb h.low) rfl (Nat.le_refl _))
  have CF2 := Lib.hid (fun W (hb : Below w.heap.size w W) => l4First_any cl cb hc hs hs [] (W.alloc (.cells #[] 42)) B W.heap.size A n c W.heap.size 0 0 rfl hg trivial (h.below (hb.alloc hb.size _) h.low) rfl (by simp) (Nat.le_refl _) (World.ownsRow_made (size := 2) (e := 42) W #[] 0 (Nat.le_refl _) (by unfold maxLen; omega) rfl))
  have HB1 := Lib.hid (below1 w (.cells #[.int .i64 cl, .int .i64 cb] 25))
  have hfit : fits ⟨cl, cb⟩ hs = (search ⟨cl, cb⟩ hs []).isSome := rfl
  have HFIT := Lib.hid hfit
  obtain ⟨F, hF⟩ : ∃ F, fits ⟨cl, cb⟩ hs = F := ⟨_, rfl⟩
  rw [hF] at HAR HFIT ⊢
  have HCEL : Hid (celH hs n = (areaH hs : Int)) := Lib.hid (by rw [celH_take (goodHs_all hg) n (by rw [h.len]; exact Nat.le_refl _), ← h.len, List.take_length])
  dsimp only at hmul
  clear h hc hg hF hfit CF
  obtain ⟨xb, hxb⟩ : ∃ x, w.heap.size = x := ⟨_, rfl⟩
  obtain ⟨W1, hW1⟩ : ∃ W, w.alloc (.cells #[.int .i64 cl, .int .i64 cb] 25) = W := ⟨_, rfl⟩
  have x0 : W1.cell? ⟨xb, 0, none⟩ = some (.int .i64 cl) := by rw [← hW1, ← hxb, sNew]; rfl
  have x1 : W1.cell? ⟨xb, 1, none⟩ = some (.int .i64 cb) := by rw [← hW1, ← hxb, sNew]; rfl
  rw [hW1] at HB1
  go_enter Try.func39, Try.ntmps39
  go_wp2_with fail
  try rw [hW1]
  clear hW1
  go_loopw [5, 6] (fun m q wr => ∃ k : Nat, k ≤ n ∧ q = .int .i64 k ∧ m = .int .i64 (celH hs k) ∧ Below w.heap.size w wr ∧ wr.cell? ⟨xb, 0, none⟩ = some (.int .i64 cl) ∧ wr.cell? ⟨xb, 1, none⟩ = some (.int .i64 cb)) (fun _ q _ => n - (intOf q).toNat)
  case atStart => exact ⟨0, Nat.zero_le _, rfl, rfl, HB1.out, x0, x1⟩
  case round =>
    clear x0 x1
    obtain ⟨k, hk, rfl, rfl, hb, x0, x1⟩ := hrel
    by_cases hlt : k < n
    · have hkh : k < hs.length := by rw [HH.out.len]; exact hlt
      obtain ⟨aH, rfl, _, HV⟩ := (HH.out.below hb HH.out.low).has.Hull hkh
      have hb1 := cellH_bd (HGG.out k hkh)
      have hbd := celH_bd HALL.out k (by omega)
      have HN : Hid (celH hs (k + 1) = celH hs k + (hs.getD k noHull).x1 * (hs.getD k noHull).x2) := Lib.hid rfl
      obtain ⟨a, ha⟩ : ∃ a, celH hs k = a := ⟨_, rfl⟩
      rw [ha] at hbd HN ⊢
      generalize hs.getD k noHull = VH at HV hb1 HN
      obtain ⟨hd, hl, hbb⟩ := VH
      obtain ⟨e0, e1, e2⟩ := HV
      dsimp only at e0 e1 e2 hb1 HN
      have hbd2 : 0 ≤ a ∧ a ≤ 1000 := by omega
      have hk0 : (0 : Int) ≤ (k : Int) := by omega
      have hk1 : (k : Int) < (n : Int) := by omega
      have HB := Lib.hid hb
      have X0 := fun (d : Nat) (os : Array Obj) => cell_regrown x0 d os
      have X1 := fun (d : Nat) (os : Array Obj) => cell_regrown x1 d os
      have E1 := fun (d : Nat) (os : Array Obj) => cell_regrown e1 d os
      have E2 := fun (d : Nat) (os : Array Obj) => cell_regrown e2 d os
      clear hb ha hbd e0 e1 e2 x0 x1
      go_wp2
      refine wp_region_quiet_below (by kernel_rfl) (by kernel_rfl) ?_
      repeat (go_big_quiet_step (first | exact trivial))
      refine wpQuiet_nil ?_
      intro _ hw'
      obtain ⟨⟨dq, osq⟩, hw''⟩ := hw'
      subst hw''
      have HB3 := Lib.hid (HB.out.trans ((below_regrown wr dq osq).mono HB.out.size))
      have k0 := X0 dq osq
      have k1 := X1 dq osq
      clear X0 X1 E1 E2
      go_wp2
      go_roundw
      case rel => exact ⟨k + 1, by omega, by go_num, by rw [HN.out], HB3.out, k0, k1⟩
      case measure => simp [intOf]; omega
    · obtain rfl : k = n := by omega
      have hbd := celH_bd HALL.out k (by rw [HH.out.len]; exact Nat.le_refl _)
      have HC2 := Lib.hid HCEL.out
      obtain ⟨a, ha⟩ : ∃ a, celH hs k = a := ⟨_, rfl⟩
      rw [ha] at hbd HC2 ⊢
      have HB := Lib.hid hb
      clear ha hb
      by_cases hgt : a > cl * cb
      · obtain rfl : F = false := by
          cases F with
          | false => rfl
          | true => have h1 : (areaH hs : Int) ≤ cl * cb := HAR.out rfl; have h2 := HC2.out; omega
        clear HAR HC2 HFIT CF2
        go_wp2_with fail
        go_ret
        exact ⟨rfl, HB.out⟩
      · have CFk := Lib.hid (CF2.out wr HB.out)
        rw [← HFIT.out] at CFk
        clear HAR HC2 HFIT CF2
        go_wp2_with fail
        refine CFk.out.mono ?_
        rintro e w3 ⟨g2, c2, rfl, -, -, hb⟩
        clear x0 x1 CFk
        go_wp2_with fail
        go_ret
        exact ⟨rfl, (HB.out.alloc HB.out.size (.cells #[] 42)).trans (hb.mono (by have := HB.out.size; simp; omega))⟩

set_option maxRecDepth 100000 in
set_option maxHeartbeats 2000000 in
theorem firstS_any {w : World} {B : Nat} {A : Option Addr} {n : Nat} {hs : List THull} (cl cb : Int) (c : Nat) (h : IsHulls w B A n hs) (hm : n ≤ 1048576) (L : List TSpot) (x : Bool) (hA : FirstA ⟨cl, cb⟩ hs L x) :
    Calls Try.prog 8 #[.agg #[.int .i64 cl, .int .i64 cb], .slice A n c] w fun e w' => ∃ g c', e = .returned (.tuple #[.slice (some ⟨g, 0, none⟩) L.length c', .bool x]) ∧
      w'.ownsRow w.heap.size 42 2 (.slice (some ⟨g, 0, none⟩) L.length c') L.length (flatSpot L) ∧ Below w.heap.size w w' := by
  have CC := Lib.hid (fun W => l4Chamber_any cl cb W)
  have CG := Lib.hid (fun W (hb : Below w.heap.size w W) => l4Good_any c (h.below hb h.low) (Nat.le_trans hm (by unfold maxLen; omega)))
  have CF := Lib.hid (fun W (hb : Below w.heap.size w W) hc hg => l4Fits_any cl cb c (h.below hb h.low) hc hg)
  have C4 := Lib.hid (fun W (hb : Below w.heap.size w W) hc hg => l4First_any cl cb hc hs hs [] (W.alloc (.cells #[] 42)) B W.heap.size A n c W.heap.size 0 0 rfl hg trivial (h.below (hb.alloc hb.size _) h.low) rfl (by simp) (Nat.le_refl _) (World.ownsRow_made (size := 2) (e := 42) W #[] 0 (Nat.le_refl _) (by unfold maxLen; omega) rfl))
  have HEMP := Lib.hid (fun (W : World) (hb : Below w.heap.size w W) => (World.ownsRow_made (size := 2) (e := 42) W #[] 0 hb.size (by unfold maxLen; omega) rfl))
  have HA := Lib.hid hA
  have HGI := Lib.hid (gHs_iff hs)
  have HB1 := Lib.hid (below1 w (.cells #[.int .i64 cl, .int .i64 cb] 25))
  clear h hA
  obtain ⟨xb, hxb⟩ : ∃ x, w.heap.size = x := ⟨_, rfl⟩
  obtain ⟨W1, hW1⟩ : ∃ W, w.alloc (.cells #[.int .i64 cl, .int .i64 cb] 25) = W := ⟨_, rfl⟩
  have x0 : W1.cell? ⟨xb, 0, none⟩ = some (.int .i64 cl) := by rw [← hW1, ← hxb, sNew]; rfl
  have x1 : W1.cell? ⟨xb, 1, none⟩ = some (.int .i64 cb) := by rw [← hW1, ← hxb, sNew]; rfl
  rw [hW1] at HB1
  go_enter Try.func8, Try.ntmps8
  go_wp2_with fail
  try rw [hW1]
  clear hW1
  refine (CC.out _).mono ?_
  rintro e w1 ⟨rfl, hb⟩
  have HB2 := Lib.hid (HB1.out.trans (hb.mono HB1.out.size))
  have lx := World.block_lt_of_cell? _ _ x0
  have k0 := (hb.cell lx).trans x0
  have k1 := (hb.cell (p := ⟨xb, 1, none⟩) lx).trans x1
  clear hb CC x0 x1 lx HB1
  by_cases hc : goodC ⟨cl, cb⟩
  · rw [decide_eq_true hc]
    have HC := Lib.hid hc
    clear hc
    go_wp2_with fail
    refine (CG.out _ HB2.out).mono ?_
    rintro e w2 ⟨rfl, hb⟩
    have HB3 := Lib.hid (HB2.out.trans (hb.mono HB2.out.size))
    have lx := World.block_lt_of_cell? _ _ k0
    have j0 := (hb.cell lx).trans k0
    have j1 := (hb.cell (p := ⟨xb, 1, none⟩) lx).trans k1
    clear hb CG k0 k1 lx HB2
    obtain ⟨G, hG⟩ : ∃ G, gHs hs = G := ⟨_, rfl⟩
    rw [hG] at HGI ⊢
    have HGE := Lib.hid hG
    clear hG
    cases G with
    | false =>
      obtain ⟨rfl, rfl⟩ := HA.out.bad (by rw [HGE.out, Bool.and_false])
      clear HA CF C4 HGI
      go_wp2_with fail
      refine bodyPost_ret (results_tmp2 rfl _ _ _) rfl ?_
      exact ⟨_, 0, rfl, HEMP.out _ HB3.out, by first | exact HB3.out.alloc HB3.out.size _ | (rw [← hxb]; exact HB3.out.alloc HB3.out.size _)⟩
    | true =>
      have HG := Lib.hid (HGI.out.1 rfl)
      have hx := HA.out.fits HC.out HG.out
      have HANO := Lib.hid (HA.out.no HC.out HG.out)
      have HAYES := Lib.hid (fun r => HA.out.yes r HC.out HG.out)
      have CFk := Lib.hid (fun W hb => CF.out W hb HC.out HG.out)
      have C4k := Lib.hid (fun W hb => C4.out W hb HC.out HG.out)
      rw [← hx] at CFk
      have HX : Hid (x = (search ⟨cl, cb⟩ hs []).isSome) := Lib.hid hx
      obtain ⟨RK, hRK⟩ : ∃ o, search ⟨cl, cb⟩ hs [] = o := ⟨_, rfl⟩
      rw [hRK] at HANO HAYES C4k HX
      clear HA CF C4 HGI hx hRK HC HG
      go_wp2_with fail
      refine (CFk.out _ HB3.out).mono ?_
      rintro e w3 ⟨rfl, hb⟩
      have HB4 := Lib.hid (HB3.out.trans (hb.mono HB3.out.size))
      have lx := World.block_lt_of_cell? _ _ j0
      have i0 := (hb.cell lx).trans j0
      have i1 := (hb.cell (p := ⟨xb, 1, none⟩) lx).trans j1
      clear hb CFk j0 j1 lx HB3
      cases RK with
      | none =>
        obtain ⟨rfl, rfl⟩ := HANO.out rfl
        clear HANO HAYES C4k HX
        go_wp2_with fail
        refine bodyPost_ret (results_tmp2 rfl _ _ _) rfl ?_
        exact ⟨_, 0, rfl, HEMP.out _ HB4.out, by first | exact HB4.out.alloc HB4.out.size _ | (rw [← hxb]; exact HB4.out.alloc HB4.out.size _)⟩
      | some res =>
        obtain ⟨hL, rfl⟩ := HAYES.out res rfl
        have HL := Lib.hid hL
        have C4w := Lib.hid (C4k.out w3 HB4.out)
        clear HANO HAYES C4k HX hL
        go_wp2_with fail
        refine C4w.out.mono ?_
        rintro e w4 ⟨g2, c2, rfl, hg2, hown2, hb⟩
        have HB5 := Lib.hid ((HB4.out.alloc HB4.out.size (.cells #[] 42)).trans (hb.mono (by have := HB4.out.size; simp; omega)))
        have HOW := Lib.hid (own_low hown2 HB4.out.size)
        obtain rfl := HL.out
        clear hb hown2 C4w i0 i1 HL
        go_wp2_with fail
        refine bodyPost_ret (results_tmp2 rfl _ _ _) rfl ?_
        exact ⟨g2, c2, rfl, HOW.out, by first | exact HB5.out | (rw [← hxb]; exact HB5.out)⟩
  · rw [decide_eq_false hc]
    obtain ⟨rfl, rfl⟩ := HA.out.bad (by rw [decide_eq_false hc, Bool.false_and])
    clear HA CF C4 HGI hc CG
    go_wp2_with fail
    refine bodyPost_ret (results_tmp2 rfl _ _ _) rfl ?_
    exact ⟨_, 0, rfl, HEMP.out _ HB2.out, by first | exact HB2.out.alloc HB2.out.size _ | (rw [← hxb]; exact HB2.out.alloc HB2.out.size _)⟩
end Go.Proofs.Ytdleidlmjliapaa
