/- Chapter 4: CoveredCells of the model and of the program. -/
import Derived.Test.YtdleidlmjliapaaChH
namespace Go.Proofs.Ytdleidlmjliapaa
open Go.RowKit Go.PlainAid Go.Sort
set_option linter.unusedVariables false
set_option linter.unusedSimpArgs false

theorem mul_bd {c : TChamber} (h : goodC c) : 1 ≤ c.x0 * c.x1 ∧ c.x0 * c.x1 ≤ 18 := by
  obtain ⟨h1, h2⟩ := h
  obtain h3 | h3 | h3 : c.x1 = 1 ∨ c.x1 = 2 ∨ c.x1 = 3 := by omega
  all_goals rw [h3]; omega
/-- What CoveredCells answers. -/
structure CovA (c : TChamber) (hs : List THull) (ss : List TSpot) (x y : Int) (z : Bool) : Prop where
  yes : gP c hs ss = true → x = celH hs hs.length ∧ y = c.x0 * c.x1 - x ∧ z = true
  no : gP c hs ss = false → x = 0 ∧ y = 0 ∧ z = false
theorem covA_ex (c : TChamber) (hs : List THull) (ss : List TSpot) : ∃ x y z, CovA c hs ss x y z := by
  cases h : gP c hs ss with
  | true => exact ⟨_, _, _, fun _ => ⟨rfl, rfl, rfl⟩, fun g => by rw [h] at g; cases g⟩
  | false => exact ⟨_, _, _, fun g => (by rw [h] at g; cases g), fun _ => ⟨rfl, rfl, rfl⟩⟩


set_option maxHeartbeats 4000000 in
theorem covS_any {w : World} {B B' : Nat} {A A' : Option Addr} {n n' : Nat} {hs : List THull} {ss : List TSpot} (cl cb : Int) (c c' : Nat) (h : IsHulls w B A n hs) (h' : IsSpots w B' A' n' ss) (hm : n ≤ 1048576) (hm' : n' ≤ 1048576) (x y : Int) (z : Bool) (hx : CovA ⟨cl, cb⟩ hs ss x y z) :
    Calls Try.prog 15 #[.agg #[.int .i64 cl, .int .i64 cb], .slice A n c, .slice A' n' c'] w fun e w' => e = .returned (.tuple #[.int .i64 x, .int .i64 y, .bool z]) ∧ Below w.heap.size w w' := by
  have CA := Lib.hid (fun W (hb : Below w.heap.size w W) => l4Asked_any cl cb c c' (h.below hb h.low) (h'.below hb h'.low) hm hm')
  have CV := Lib.hid (fun (hp : packing ⟨cl, cb⟩ hs ss) (hnn : n' = n) (i j : Nat) W (hb : Below w.heap.size w W) (hi : i ≤ 12) (hj : j ≤ 12) => l4Cover_any i j c c' (h.below hb h.low) (hnn ▸ h'.below hb h'.low) hp hi hj)
  have HH := Lib.hid h
  have HS := Lib.hid h'
  have HX := Lib.hid hx
  have HP := Lib.hid (fun g => (gP_iff ⟨cl, cb⟩ hs ss).1 g)
  obtain ⟨R, hR⟩ : ∃ R, gP ⟨cl, cb⟩ hs ss = R := ⟨_, rfl⟩
  have HR := Lib.hid hR
  rw [hR] at CA
  clear h h' hx hR
  go_enter Try.func15, Try.ntmps15
  go_wp2_with fail
  obtain ⟨xb, hxb⟩ : ∃ x, w.heap.size = x := ⟨_, rfl⟩
  refine (CA.out _ (below1 _ _)).mono ?_
  rintro e w1 ⟨rfl, hb⟩
  have HB1 := Lib.hid ((below1 w (.cells #[.int .i64 cl, .int .i64 cb] 25)).trans (hb.mono (by simp)))
  have cc0 : w1.cell? ⟨xb, 0, none⟩ = some (.int .i64 cl) := (hb.cell (by simp [← hxb])).trans (by rw [← hxb, sNew]; rfl)
  have cc1 : w1.cell? ⟨xb, 1, none⟩ = some (.int .i64 cb) := (hb.cell (by simp [← hxb])).trans (by rw [← hxb, sNew]; rfl)
  clear hb CA
  cases R with
  | false =>
    obtain ⟨rfl, rfl, rfl⟩ := HX.out.no HR.out
    clear HX HP HH HS CV
    go_wp2_with fail
    go_ret3
    exact ⟨rfl, HB1.out⟩
  | true =>
    have HPk := Lib.hid (HP.out HR.out)
    have hxyz := HX.out.yes HR.out
    have hz : z = true := hxyz.2.2
    subst hz
    have HX1 := Lib.hid hxyz.1
    have HY1 := Lib.hid hxyz.2.1
    have hnn : n' = n := by have := HPk.out.2.2.1; rw [HH.out.len, HS.out.len] at this; exact this
    subst hnn
    have CW := Lib.hid (CV.out HPk.out rfl)
    have hcl := HPk.out.1.1
    have hcb := HPk.out.1.2
    have hmul := mul_bd HPk.out.1
    have HT : Hid ((cntA ⟨cl, cb⟩ hs ss cl.toNat : Int) = x) := Lib.hid ((cntA_all HPk.out).trans HX1.out.symm)
    have HLe := Lib.hid (fun k => cntA_le (c := ⟨cl, cb⟩) hcb.2 hs ss k)
    dsimp only at hcl hcb hmul
    clear HX HP hxyz CV
    go_wp2_with fail
    go_loopw [9, 10] (fun m q wr => ∃ k : Nat, k ≤ cl.toNat ∧ q = .int .i64 k ∧ m = .int .i64 (cntA ⟨cl, cb⟩ hs ss k) ∧ Below w.heap.size w wr ∧ wr.cell? ⟨xb, 0, none⟩ = some (.int .i64 cl) ∧ wr.cell? ⟨xb, 1, none⟩ = some (.int .i64 cb)) (fun _ q _ => cl.toNat - (intOf q).toNat)
    case atStart => exact ⟨0, Nat.zero_le _, rfl, rfl, HB1.out, cc0, cc1⟩
    case round =>
      clear cc0 cc1
      obtain ⟨k, hk, rfl, rfl, hb, cc0, cc1⟩ := hrel
      by_cases hlt : (k : Int) < cl
      · have HAk := Lib.hid (cntA_succ ⟨cl, cb⟩ hs ss k)
        have hle := HLe.out k
        obtain ⟨a, ha⟩ : ∃ a, cntA ⟨cl, cb⟩ hs ss k = a := ⟨_, rfl⟩
        rw [ha] at HAk hle ⊢
        clear ha
        go_wp2_with fail
        go_loopw [9, 11] (fun m q wr => ∃ j : Nat, j ≤ cb.toNat ∧ q = .int .i64 j ∧ m = .int .i64 ((a + cntR hs ss k j : Nat) : Int) ∧ Below w.heap.size w wr ∧ wr.cell? ⟨xb, 0, none⟩ = some (.int .i64 cl) ∧ wr.cell? ⟨xb, 1, none⟩ = some (.int .i64 cb)) (fun _ q _ => cb.toNat - (intOf q).toNat)
        case atStart => exact ⟨0, Nat.zero_le _, rfl, rfl, hb, cc0, cc1⟩
        case round =>
          clear cc0 cc1 hb
          obtain ⟨j, hj, rfl, rfl, hb, cc0, cc1⟩ := hrel
          by_cases hjlt : (j : Int) < cb
          · have HRj := Lib.hid (cntR_succ hs ss k j)
            have hle2 := cntR_le hs ss k j
            obtain ⟨b, hbE⟩ : ∃ b, a + cntR hs ss k j = b := ⟨_, rfl⟩
            have HBE := Lib.hid hbE
            rw [hbE]
            have hbb : b ≤ 1000 := by omega
            clear hbE hle2
            have HB := Lib.hid hb
            clear hb
            go_wp2_with fail
            refine (CW.out k j _ HB.out (by omega) (by omega)).mono ?_
            rintro e w3 ⟨⟨r, rfl, hr⟩, hb⟩
            have HB3 := Lib.hid (HB.out.trans (hb.mono HB.out.size))
            have d0 := (hb.cell (p := ⟨xb, 0, none⟩) (World.block_lt_of_cell? _ _ cc0)).trans cc0
            have d1 := (hb.cell (p := ⟨xb, 1, none⟩) (World.block_lt_of_cell? _ _ cc1)).trans cc1
            clear hb cc0 cc1
            have HC := coverR_iff HPk.out.2.2.1 hr.out
            by_cases hcv : isCov hs ss k j
            · have hr0 := HC.1 hcv
              have HN : Hid (a + cntR hs ss k (j + 1) = b + 1) := Lib.hid (by rw [HRj.out, if_pos hcv, ← Nat.add_assoc, HBE.out])
              clear HC HRj HBE hr hcv
              go_wp2_with fail
              go_roundw
              case rel => exact ⟨j + 1, by omega, by go_num, by rw [HN.out]; go_num, HB3.out, d0, d1⟩
              case measure => simp [intOf]; omega
            · have hr0 : r = -1 := HC.2.1 hcv
              subst hr0
              have HN : Hid (a + cntR hs ss k (j + 1) = b) := Lib.hid (by rw [HRj.out, if_neg hcv, Nat.add_zero, HBE.out])
              clear HC HRj HBE hr hcv
              go_wp2_with fail
              go_roundw
              case rel => exact ⟨j + 1, by omega, by go_num, by rw [HN.out], HB3.out, d0, d1⟩
              case measure => simp [intOf]; omega
          · have hje : j = cb.toNat := by omega
            have HN : Hid (a + cntR hs ss k j = cntA ⟨cl, cb⟩ hs ss (k + 1)) := Lib.hid (by rw [HAk.out, hje])
            clear hje
            go_wp2_with fail
            go_roundw
            case rel => exact ⟨k + 1, by omega, by go_num, by rw [HN.out], hb, cc0, cc1⟩
            case measure => simp [intOf]; omega
      · have hke : k = cl.toNat := by omega
        have HN : Hid ((cntA ⟨cl, cb⟩ hs ss k : Int) = x) := Lib.hid (by rw [hke]; exact HT.out)
        have hxb2 : 0 ≤ x ∧ x ≤ 36 := by have := HLe.out k; have := HN.out; omega
        rw [HN.out]
        have HYE : Hid (cl * cb - x = y) := Lib.hid HY1.out.symm
        clear HT HLe HX1 HY1 HN hke
        go_wp2
        have C0 := fun (d : Nat) (os : Array Obj) => cell_regrown cc0 d os
        have C1 := fun (d : Nat) (os : Array Obj) => cell_regrown cc1 d os
        have HB := Lib.hid hb
        clear cc0 cc1 hb
        refine wp_region_quiet_below (by kernel_rfl) (by kernel_rfl) ?_
        repeat (go_big_quiet_step (first | exact trivial))
        refine wpQuiet_nil ?_
        intro _ hw'
        obtain ⟨⟨dq, osq⟩, hw''⟩ := hw'
        subst hw''
        have HB2 := Lib.hid (HB.out.trans ((below_regrown wr dq osq).mono HB.out.size))
        clear C0 C1
        go_wp2
        go_ret3
        exact ⟨by rw [HYE.out]; rfl, HB2.out⟩

set_option maxHeartbeats 4000000 in
theorem covI_any {w : World} {B B' : Nat} {A A' : Option Addr} {n n' : Nat} {hs : List THull} {ss : List TSpot} (cl cb : Int) (c c' : Nat) (h : IsHulls w B A n hs) (h' : IsSpots w B' A' n' ss) (hm : n ≤ 1048576) (hm' : n' ≤ 1048576) (x y : Int) (z : Bool) (hx : CovA ⟨cl, cb⟩ hs ss x y z) :
    Calls Try.prog 14 #[.agg #[.int .i64 cl, .int .i64 cb], .slice A n c, .slice A' n' c'] w fun e w' => e = .returned (.tuple #[.int .i64 x, .int .i64 y, .bool z]) ∧ Below w.heap.size w w' := by
  have CA := Lib.hid (fun W (hb : Below w.heap.size w W) => isPacking_any cl cb c c' (h.below hb h.low) (h'.below hb h'.low) hm hm')
  have HH := Lib.hid h
  have HS := Lib.hid h'
  have HX := Lib.hid hx
  have HP := Lib.hid (fun g => (gP_iff ⟨cl, cb⟩ hs ss).1 g)
  obtain ⟨R, hR⟩ : ∃ R, gP ⟨cl, cb⟩ hs ss = R := ⟨_, rfl⟩
  have HR := Lib.hid hR
  rw [hR] at CA
  clear h h' hx hR
  go_enter Try.func14, Try.ntmps14
  go_wp2_with fail
  obtain ⟨xb, hxb⟩ : ∃ x, w.heap.size = x := ⟨_, rfl⟩
  refine (CA.out _ (below1 _ _)).mono ?_
  rintro e w1 ⟨rfl, hb⟩
  have HB1 := Lib.hid ((below1 w (.cells #[.int .i64 cl, .int .i64 cb] 25)).trans (hb.mono (by simp)))
  have cc0 : w1.cell? ⟨xb, 0, none⟩ = some (.int .i64 cl) := (hb.cell (by simp [← hxb])).trans (by rw [← hxb, sNew]; rfl)
  have cc1 : w1.cell? ⟨xb, 1, none⟩ = some (.int .i64 cb) := (hb.cell (by simp [← hxb])).trans (by rw [← hxb, sNew]; rfl)
  clear hb CA
  cases R with
  | false =>
    obtain ⟨rfl, rfl, rfl⟩ := HX.out.no HR.out
    clear HX HP HH HS
    go_wp2_with fail
    go_ret3
    exact ⟨rfl, HB1.out⟩
  | true =>
    have HPk := Lib.hid (HP.out HR.out)
    have hxyz := HX.out.yes HR.out
    have hz : z = true := hxyz.2.2
    subst hz
    have HX1 := Lib.hid hxyz.1
    have HY1 := Lib.hid hxyz.2.1
    have HALL := Lib.hid (goodHs_all HPk.out.2.1)
    have hmul := mul_bd HPk.out.1
    have hn4 : n ≤ 4 := by have := HPk.out.2.1.1; rw [HH.out.len] at this; exact this
    dsimp only at hmul
    clear HX HP hxyz
    go_wp2_with fail
    go_loopw [9, 19] (fun m q wr => ∃ k : Nat, k ≤ n ∧ q = .int .i64 k ∧ m = .int .i64 (celH hs k) ∧ Below w.heap.size w wr ∧ wr.cell? ⟨xb, 0, none⟩ = some (.int .i64 cl) ∧ wr.cell? ⟨xb, 1, none⟩ = some (.int .i64 cb)) (fun _ q _ => n - (intOf q).toNat)
    case atStart => exact ⟨0, Nat.zero_le _, rfl, rfl, HB1.out, cc0, cc1⟩
    case round =>
      clear cc0 cc1
      obtain ⟨k, hk, rfl, rfl, hb, cc0, cc1⟩ := hrel
      by_cases hlt : k < n
      · have hkh : k < hs.length := by rw [HH.out.len]; omega
        obtain ⟨aH, rfl, _, HV⟩ := (HH.out.below hb HH.out.low).has.Hull hkh
        have hbd := celH_bd HALL.out k (by omega)
        have hb1 := cellH_bd ((HPk.out.2.1.2 k hkh).1)
        have HN : Hid (celH hs (k + 1) = celH hs k + (hs.getD k noHull).x1 * (hs.getD k noHull).x2) := Lib.hid rfl
        obtain ⟨a, ha⟩ : ∃ a, celH hs k = a := ⟨_, rfl⟩
        rw [ha] at hbd HN ⊢
        generalize hs.getD k noHull = VH at HV hb1 HN
        obtain ⟨hd, hl, hbb⟩ := VH
        obtain ⟨e0, e1, e2⟩ := HV
        dsimp only at e0 e1 e2 hb1 HN
        have hk0 : (0 : Int) ≤ (k : Int) := by omega
        have hk1 : (k : Int) < (n : Int) := by omega
        have hbd2 : 0 ≤ a ∧ a ≤ 1000 := by omega
        have HB := Lib.hid hb
        have d0 := (World.cell?_alloc_lt wr (.cells #[.int .i64 hd, .int .i64 hl, .int .i64 hbb] 40) ⟨xb, 0, none⟩ (World.block_lt_of_cell? _ _ cc0)).trans cc0
        have d1 := (World.cell?_alloc_lt wr (.cells #[.int .i64 hd, .int .i64 hl, .int .i64 hbb] 40) ⟨xb, 1, none⟩ (World.block_lt_of_cell? _ _ cc1)).trans cc1
        have HB5 := Lib.hid (HB.out.alloc HB.out.size (.cells #[.int .i64 hd, .int .i64 hl, .int .i64 hbb] 40))
        clear hb ha hbd cc0 cc1
        go_wp2_with fail
        go_roundw
        case rel => exact ⟨k + 1, by omega, by go_num, by rw [HN.out], HB5.out, d0, d1⟩
        case measure => simp [intOf]; omega
      · obtain rfl : k = n := by omega
        have HN : Hid (celH hs k = x) := Lib.hid (by rw [← HH.out.len]; exact HX1.out.symm)
        have hxb2 : 0 ≤ x ∧ x ≤ 100 := by have := celH_bd HALL.out k (by rw [HH.out.len]; exact Nat.le_refl _); have := HN.out; omega
        rw [HN.out]
        have HYE : Hid (cl * cb - x = y) := Lib.hid HY1.out.symm
        clear HX1 HY1 HN HALL HH HS HPk
        go_wp2
        have C0 := fun (d : Nat) (os : Array Obj) => cell_regrown cc0 d os
        have C1 := fun (d : Nat) (os : Array Obj) => cell_regrown cc1 d os
        have HB := Lib.hid hb
        clear cc0 cc1 hb
        refine wp_region_quiet_below (by kernel_rfl) (by kernel_rfl) ?_
        repeat (go_big_quiet_step (first | exact trivial))
        refine wpQuiet_nil ?_
        intro _ hw'
        obtain ⟨⟨dq, osq⟩, hw''⟩ := hw'
        subst hw''
        have HB2 := Lib.hid (HB.out.trans ((below_regrown wr dq osq).mono HB.out.size))
        clear C0 C1
        go_wp2
        go_ret3
        exact ⟨by rw [HYE.out]; rfl, HB2.out⟩
end Go.Proofs.Ytdleidlmjliapaa
