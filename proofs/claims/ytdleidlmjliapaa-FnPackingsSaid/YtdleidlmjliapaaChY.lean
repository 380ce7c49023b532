/- Chapter 4: ChamberPicture of the model. -/
import Derived.Test.YtdleidlmjliapaaChH
namespace Go.Proofs.Ytdleidlmjliapaa
open Go.RowKit Go.PlainAid Go.Sort
set_option linter.unusedVariables false
set_option linter.unusedSimpArgs false

/-- The last of the first k hulls that covers a cell, one more than its number. -/
def cvUp (hs : List THull) (ss : List TSpot) (i j : Nat) : Nat → Nat
  | 0 => 0
  | k + 1 => if cov (hs.getD k noHull, ss.getD k noSpot) i j then k + 1 else cvUp hs ss i j k
theorem cvUp_le (hs : List THull) (ss : List TSpot) (i j : Nat) : ∀ k, cvUp hs ss i j k ≤ k
  | 0 => Nat.le_refl _
  | k + 1 => by
    have := cvUp_le hs ss i j k
    rw [cvUp]
    split
    · exact Nat.le_refl _
    · omega
abbrev cv (hs : List THull) (ss : List TSpot) (i j : Nat) : Nat := cvUp hs ss i j hs.length
theorem cvUp_zero {hs : List THull} {ss : List TSpot} {i j : Nat} : ∀ m, (∀ k, k < m → ¬ cov (hs.getD k noHull, ss.getD k noSpot) i j) → cvUp hs ss i j m = 0
  | 0, _ => rfl
  | m + 1, h => by rw [cvUp, if_neg (h m (by omega)), cvUp_zero m (fun k hk => h k (by omega))]
theorem cvUp_one {hs : List THull} {ss : List TSpot} {i j k : Nat} (hc : cov (hs.getD k noHull, ss.getD k noSpot) i j) : ∀ m, (∀ l, l < m → l ≠ k → ¬ cov (hs.getD l noHull, ss.getD l noSpot) i j) → k < m → cvUp hs ss i j m = k + 1
  | 0, _, h => absurd h (by omega)
  | m + 1, h, hk => by
    rw [cvUp]
    by_cases e : m = k
    · subst e; rw [if_pos hc]
    · rw [if_neg (h m (by omega) e)]
      exact cvUp_one hc m (fun l hl hn => h l (by omega) hn) (by omega)
theorem cov_uniq {c : TChamber} {hs : List THull} {ss : List TSpot} (hp : packing c hs ss) {i j k l : Nat} (hk : k < hs.length) (hl : l < hs.length) (h1 : cov (hs.getD k noHull, ss.getD k noSpot) i j) (h2 : cov (hs.getD l noHull, ss.getD l noSpot) i j) : l = k := by
  rcases Nat.lt_trichotomy l k with g | g | g
  · exact absurd (cov_meet h1 h2) ((hp.2.2.2 k (by rw [hp.2.2.1]; exact hk)).2 l g)
  · exact g
  · exact absurd (cov_meet h2 h1) ((hp.2.2.2 l (by rw [hp.2.2.1]; exact hl)).2 k g)
theorem cover_cv {c : TChamber} {hs : List THull} {ss : List TSpot} (hp : packing c hs ss) {i j : Nat} {r : Int} (h : coverR hs ss i j r) : r + 1 = (cv hs ss i j : Int) := by
  rcases h with ⟨rfl, h⟩ | ⟨k, hk, rfl, h⟩
  · rw [show cv hs ss i j = 0 from cvUp_zero _ (fun k hk hc => h ⟨_, (laid_mem hp.2.2.1).2 ⟨k, hk, rfl⟩, hc⟩)]
    rfl
  · rw [show cv hs ss i j = k + 1 from cvUp_one h _ (fun l hl hn hc => hn (cov_uniq hp hk hl h hc)) hk]
    rfl
def letterB (k : Nat) : UInt8 := if k = 0 then 46 else UInt8.ofNat (96 + k)
def rowB (hs : List THull) (ss : List TSpot) (j n : Nat) : List UInt8 := (List.range n).map fun i => letterB (cv hs ss i j)
theorem rowB_succ (hs : List THull) (ss : List TSpot) (j n : Nat) : rowB hs ss j (n + 1) = rowB hs ss j n ++ [letterB (cv hs ss n j)] := by
  unfold rowB
  rw [List.range_succ, List.map_append]
  rfl
theorem rowB_len (hs : List THull) (ss : List TSpot) (j n : Nat) : (rowB hs ss j n).length = n := by simp [rowB]
def picB (c : TChamber) (hs : List THull) (ss : List TSpot) : Nat → List UInt8
  | 0 => []
  | j + 1 => picB c hs ss j ++ rowB hs ss j c.x0.toNat ++ [10]
theorem picB_len {c : TChamber} (hc : c.x0 ≤ 6) (hs : List THull) (ss : List TSpot) : ∀ j, (picB c hs ss j).length ≤ 7 * j
  | 0 => by simp [picB]
  | j + 1 => by
    have := picB_len hc hs ss j
    simp only [picB, List.length_append, rowB_len, List.length_cons, List.length_nil]
    omega
abbrev mkB (L : List UInt8) : ByteArray := ⟨L.toArray⟩
theorem mkB_app (L M : List UInt8) : mkB L ++ mkB M = mkB (L ++ M) := by
  apply ByteArray.ext
  simp [mkB]
theorem mkB_size (L : List UInt8) : (mkB L).size = L.length := by simp [ByteArray.size]
/-- What ChamberPicture answers. -/
structure PicA (c : TChamber) (hs : List THull) (ss : List TSpot) (S : ByteArray) (x : Bool) : Prop where
  bad : gP c hs ss = false → S = mkB [] ∧ x = false
  yes : gP c hs ss = true → S = mkB (picB c hs ss c.x1.toNat) ∧ x = true
theorem picA_ex (c : TChamber) (hs : List THull) (ss : List TSpot) : ∃ S x, PicA c hs ss S x := by
  cases h : gP c hs ss with
  | false => exact ⟨_, false, fun _ => ⟨rfl, rfl⟩, fun g => by rw [h] at g; cases g⟩
  | true => exact ⟨_, true, fun g => (by rw [h] at g; cases g), fun _ => ⟨rfl, rfl⟩⟩

set_option maxRecDepth 100000 in
set_option maxHeartbeats 4000000 in
theorem picS_any {w : World} {B B' : Nat} {A A' : Option Addr} {n n' : Nat} {hs : List THull} {ss : List TSpot} (cl cb : Int) (c c' : Nat) (h : IsHulls w B A n hs) (h' : IsSpots w B' A' n' ss) (hm : n ≤ 1048576) (hm' : n' ≤ 1048576) (S : ByteArray) (x : Bool) (hx : PicA ⟨cl, cb⟩ hs ss S x) :
    Calls Try.prog 18 #[.agg #[.int .i64 cl, .int .i64 cb], .slice A n c, .slice A' n' c'] w fun e w' => e = .returned (.tuple #[.string S, .bool x]) ∧ Below w.heap.size w w' := by
  have CA := Lib.hid (fun W (hb : Below w.heap.size w W) => l4Asked_any cl cb c c' (h.below hb h.low) (h'.below hb h'.low) hm hm')
  have CV := Lib.hid (fun (hp : packing ⟨cl, cb⟩ hs ss) (hnn : n' = n) (i j : Nat) W (hb : Below w.heap.size w W) (hi : i ≤ 12) (hj : j ≤ 12) => l4Cover_any i j c c' (h.below hb h.low) (hnn ▸ h'.below hb h'.low) hp hi hj)
  have HHL := Lib.hid h.len
  have HSL := Lib.hid h'.len
  have HX := Lib.hid hx
  have HP := Lib.hid (fun g => (gP_iff ⟨cl, cb⟩ hs ss).1 g)
  obtain ⟨R, hR⟩ : ∃ R, gP ⟨cl, cb⟩ hs ss = R := ⟨_, rfl⟩
  have HR := Lib.hid hR
  rw [hR] at CA
  clear h h' hx hR
  go_enter Try.func18, Try.ntmps18
  go_wp2_with fail
  obtain ⟨xb, hxb⟩ : ∃ x, w.heap.size = x := ⟨_, rfl⟩
  refine (CA.out _ (below1 _ _)).mono ?_
  rintro e w1 ⟨rfl, hb⟩
  have HB1 := Lib.hid ((below1 w (.cells #[.int .i64 cl, .int .i64 cb] 25)).trans (hb.mono (by simp)))
  have cc0 : w1.cell? ⟨xb, 0, none⟩ = some (.int .i64 cl) := (hb.cell (by simp [← hxb])).trans (by rw [← hxb, sNew]; rfl)
  have cc1 : w1.cell? ⟨xb, 1, none⟩ = some (.int .i64 cb) := (hb.cell (by simp [← hxb])).trans (by rw [← hxb, sNew]; rfl)
  clear hb CA
  cases R with
  | false =>
    obtain ⟨hS, rfl⟩ := HX.out.bad HR.out
    have HS := Lib.hid hS
    clear HX HP CV hS
    go_wp2_with fail
    refine bodyPost_ret (results_tmp2 rfl _ _ _) rfl ?_
    exact ⟨by rw [HS.out]; rfl, HB1.out⟩
  | true =>
    have HPk := Lib.hid (HP.out HR.out)
    obtain ⟨hS, rfl⟩ := HX.out.yes HR.out
    have HS := Lib.hid hS
    have hnn : n' = n := by have := HPk.out.2.2.1; rw [HHL.out, HSL.out] at this; exact this
    subst hnn
    have CW := Lib.hid (CV.out HPk.out rfl)
    have hcl := HPk.out.1.1
    have hcb := HPk.out.1.2
    have HPL := Lib.hid (picB_len (c := ⟨cl, cb⟩) hcl.2 hs ss)
    have HL4 := Lib.hid HPk.out.2.1.1
    dsimp only at hcl hcb
    clear HX HP hS CV
    go_wp2_with fail
    go_loopw [8, 9] (fun v q wr => ∃ (j : Nat) (T : ByteArray), j ≤ cb.toNat ∧ q = .int .i64 j ∧ v = .string T ∧ Hid (T = mkB (picB ⟨cl, cb⟩ hs ss j)) ∧ Below w.heap.size w wr ∧ wr.cell? ⟨xb, 0, none⟩ = some (.int .i64 cl) ∧ wr.cell? ⟨xb, 1, none⟩ = some (.int .i64 cb)) (fun _ q _ => cb.toNat - (intOf q).toNat)
    case atStart => exact ⟨0, _, Nat.zero_le _, rfl, rfl, Lib.hid rfl, HB1.out, cc0, cc1⟩
    case round =>
      clear cc0 cc1
      obtain ⟨j, T, hj, rfl, rfl, hT, hb, cc0, cc1⟩ := hrel
      by_cases hlt : (j : Int) < cb
      · have hpl := HPL.out j
        have HPE := Lib.hid (show picB ⟨cl, cb⟩ hs ss (j + 1) = picB ⟨cl, cb⟩ hs ss j ++ rowB hs ss j cl.toNat ++ [10] from rfl)
        obtain ⟨PL, hPL⟩ : ∃ L, picB ⟨cl, cb⟩ hs ss j = L := ⟨_, rfl⟩
        rw [hPL] at hpl HPE hT
        have hplen : PL.length ≤ 21 := by omega
        clear hPL hpl
        go_wp2_with fail
        go_loopw [8, 10] (fun v q wr => ∃ (i : Nat) (S : ByteArray), i ≤ cl.toNat ∧ q = .int .i64 i ∧ v = .string S ∧ Hid (S = mkB (PL ++ rowB hs ss j i)) ∧ Below w.heap.size w wr ∧ wr.cell? ⟨xb, 0, none⟩ = some (.int .i64 cl) ∧ wr.cell? ⟨xb, 1, none⟩ = some (.int .i64 cb)) (fun _ q _ => cl.toNat - (intOf q).toNat)
        case atStart => exact ⟨0, T, Nat.zero_le _, rfl, rfl, Lib.hid (by rw [hT.out]; simp [rowB]), hb, cc0, cc1⟩
        case round =>
          clear cc0 cc1 hb
          obtain ⟨i, S', hi, rfl, rfl, hS, hb, cc0, cc1⟩ := hrel
          have hsz : S'.size ≤ 60 := by rw [hS.out, mkB_size, List.length_append, rowB_len]; omega
          by_cases hlt2 : (i : Int) < cl
          · have HB := Lib.hid hb
            clear hb
            go_wp2_with fail
            refine (CW.out i j _ HB.out (by omega) (by omega)).mono ?_
            rintro e w3 ⟨⟨r, rfl, hr⟩, hb⟩
            have HB3 := Lib.hid (HB.out.trans (hb.mono HB.out.size))
            have d0 := (hb.cell (p := ⟨xb, 0, none⟩) (World.block_lt_of_cell? _ _ cc0)).trans cc0
            have d1 := (hb.cell (p := ⟨xb, 1, none⟩) (World.block_lt_of_cell? _ _ cc1)).trans cc1
            clear hb cc0 cc1
            have hcv := cover_cv HPk.out hr.out
            have hle : cv hs ss i j ≤ 4 := Nat.le_trans (cvUp_le hs ss i j _) HL4.out
            obtain ⟨κ, hκ⟩ : ∃ κ, cv hs ss i j = κ := ⟨_, rfl⟩
            rw [hκ] at hcv hle
            have hcases : κ = 0 ∨ κ = 1 ∨ κ = 2 ∨ κ = 3 ∨ κ = 4 := by omega
            rcases hcases with rfl | rfl | rfl | rfl | rfl
            · obtain rfl : r = -1 := by omega
              have HN : Hid (rowB hs ss j (i + 1) = rowB hs ss j i ++ [46]) := Lib.hid (by rw [rowB_succ, hκ]; rfl)
              clear hκ hr
              go_wp2_with fail
              go_roundw
              case rel => exact ⟨i + 1, _, by omega, by go_num, rfl, Lib.hid (by rw [HN.out, ← List.append_assoc, ← mkB_app, ← hS.out]; rfl), HB3.out, d0, d1⟩
              case measure => simp [intOf]; omega
            · obtain rfl : r = 0 := by omega
              have HN : Hid (rowB hs ss j (i + 1) = rowB hs ss j i ++ [97]) := Lib.hid (by rw [rowB_succ, hκ]; rfl)
              clear hκ hr
              go_wp2_with fail
              go_roundw
              case rel => exact ⟨i + 1, _, by omega, by go_num, rfl, Lib.hid (by rw [HN.out, ← List.append_assoc, ← mkB_app, ← hS.out]; rfl), HB3.out, d0, d1⟩
              case measure => simp [intOf]; omega
            · obtain rfl : r = 1 := by omega
              have HN : Hid (rowB hs ss j (i + 1) = rowB hs ss j i ++ [98]) := Lib.hid (by rw [rowB_succ, hκ]; rfl)
              clear hκ hr
              go_wp2_with fail
              go_roundw
              case rel => exact ⟨i + 1, _, by omega, by go_num, rfl, Lib.hid (by rw [HN.out, ← List.append_assoc, ← mkB_app, ← hS.out]; rfl), HB3.out, d0, d1⟩
              case measure => simp [intOf]; omega
            · obtain rfl : r = 2 := by omega
              have HN : Hid (rowB hs ss j (i + 1) = rowB hs ss j i ++ [99]) := Lib.hid (by rw [rowB_succ, hκ]; rfl)
              clear hκ hr
              go_wp2_with fail
              go_roundw
              case rel => exact ⟨i + 1, _, by omega, by go_num, rfl, Lib.hid (by rw [HN.out, ← List.append_assoc, ← mkB_app, ← hS.out]; rfl), HB3.out, d0, d1⟩
              case measure => simp [intOf]; omega
            · obtain rfl : r = 3 := by omega
              have HN : Hid (rowB hs ss j (i + 1) = rowB hs ss j i ++ [100]) := Lib.hid (by rw [rowB_succ, hκ]; rfl)
              clear hκ hr
              go_wp2_with fail
              go_roundw
              case rel => exact ⟨i + 1, _, by omega, by go_num, rfl, Lib.hid (by rw [HN.out, ← List.append_assoc, ← mkB_app, ← hS.out]; rfl), HB3.out, d0, d1⟩
              case measure => simp [intOf]; omega
          · have hie : i = cl.toNat := by omega
            have HN : Hid (S' ++ mkB [10] = mkB (picB ⟨cl, cb⟩ hs ss (j + 1))) := Lib.hid (by rw [hS.out, mkB_app, HPE.out, hie])
            clear hie
            go_wp2_with fail
            go_roundw
            case rel => exact ⟨j + 1, _, by omega, by go_num, rfl, Lib.hid HN.out, hb, cc0, cc1⟩
            case measure => simp [intOf]; omega
      · have hje : j = cb.toNat := by omega
        have HN : Hid (T = S) := Lib.hid (by rw [hT.out, HS.out, hje])
        clear hje
        go_wp2_with fail
        refine bodyPost_ret (results_tmp2 rfl _ _ _) rfl ?_
        exact ⟨by rw [HN.out]; rfl, by first | exact hb | (rw [← hxb]; exact hb)⟩
end Go.Proofs.Ytdleidlmjliapaa
