/- Chapter 4: cells that are covered: the model and the program. -/
import Derived.Test.YtdleidlmjliapaaChG
namespace Go.Proofs.Ytdleidlmjliapaa
open Go.RowKit Go.PlainAid Go.Sort
set_option linter.unusedVariables false
set_option linter.unusedSimpArgs false

set_option maxHeartbeats 4000000 in
theorem l4Cover_any {w : World} {B B' : Nat} {A A' : Option Addr} {n : Nat} {hs : List THull} {ss : List TSpot} {C : TChamber} (i j : Nat) (c c' : Nat) (h : IsHulls w B A n hs) (h' : IsSpots w B' A' n ss) (hp : packing C hs ss) (hi : i ≤ 12) (hj : j ≤ 12) :
    Calls Try.prog 46 #[.slice A n c, .slice A' n c', .int .i64 i, .int .i64 j] w fun e w' => (∃ r : Int, e = .returned (.int .i64 r) ∧ Hid (coverR hs ss i j r)) ∧ Below w.heap.size w w' := by
  have hn4 : n ≤ 4 := by have := hp.2.1.1; rw [h.len] at this; exact this
  have CME := Lib.hid (fun ad al ab s0 s1 bd bl bb t0 t1 W h1 h2 h3 h4 k1 k2 k3 k4 => l4Meet_any ad al ab s0 s1 bd bl bb t0 t1 W h1 h2 h3 h4 k1 k2 k3 k4)
  have HH := Lib.hid h
  have HS := Lib.hid h'
  have HP := Lib.hid hp
  have hb00 := Lib.hid (Below.refl w.heap.size w)
  clear h h' hp
  go_enter Try.func46, Try.ntmps46
  go_wp2_with fail
  obtain ⟨W5, hW5⟩ : ∃ W, World.alloc w (.cells #[.int .i64 0, .int .i64 1, .int .i64 1] 40) = W := ⟨_, rfl⟩
  obtain ⟨xb, hxb⟩ : ∃ x, (w : World).heap.size = x := ⟨_, rfl⟩
  have cxb0 : W5.cell? ⟨xb, 0, none⟩ = some (.int .i64 0) := by rw [← hW5, ← hxb, sNew]; rfl
  have cxb1 : W5.cell? ⟨xb, 1, none⟩ = some (.int .i64 1) := by rw [← hW5, ← hxb, sNew]; rfl
  have cxb2 : W5.cell? ⟨xb, 2, none⟩ = some (.int .i64 1) := by rw [← hW5, ← hxb, sNew]; rfl
  have HB5 := Lib.hid (show Below w.heap.size w W5 by rw [← hW5]; exact hb00.out.alloc hb00.out.size _)
  rw [hW5, hxb]
  clear hW5 hxb
  have Exb0 := fun (d : Nat) (os : Array Obj) => cell_regrown cxb0 d os
  have Exb1 := fun (d : Nat) (os : Array Obj) => cell_regrown cxb1 d os
  have Exb2 := fun (d : Nat) (os : Array Obj) => cell_regrown cxb2 d os
  clear cxb0 cxb1 cxb2
  have c5a := Exb0 0 #[]
  have c5b := Exb1 0 #[]
  have c5c := Exb2 0 #[]
  clear Exb0 Exb1 Exb2
  go_loopw [10] (fun q wr => ∃ k : Nat, k ≤ n ∧ q = .int .i64 k ∧ Hid (∀ m, m < k → ¬ cov (hs.getD m noHull, ss.getD m noSpot) i j) ∧ Below w.heap.size w wr ∧ wr.cell? ⟨xb, 0, none⟩ = some (.int .i64 0) ∧ wr.cell? ⟨xb, 1, none⟩ = some (.int .i64 1) ∧ wr.cell? ⟨xb, 2, none⟩ = some (.int .i64 1)) (fun q _ => n - (intOf q).toNat)
  case atStart => exact ⟨0, Nat.zero_le _, rfl, Lib.hid (by simp), HB5.out, c5a, c5b, c5c⟩
  case round =>
    clear c5a c5b c5c
    obtain ⟨k, hk, rfl, hall, hb, cc0, cc1, cc2⟩ := hrel
    by_cases hlt : k < n
    · have hkh : k < hs.length := by rw [HH.out.len]; omega
      have hks : k < ss.length := by rw [HS.out.len]; omega
      obtain ⟨aH, rfl, _, HV⟩ := (HH.out.below hb HH.out.low).has.Hull hkh
      obtain ⟨aS, rfl, _, HW⟩ := (HS.out.below hb HS.out.low).has.Spot hks
      have hgk := (HP.out.2.1.2 k hkh).1
      have hik : inside C (hs.getD k noHull) (ss.getD k noSpot) := (HP.out.2.2.2 k hks).1
      have hbd := inside_bd HP.out.1 hgk hik
      have HA : Hid (¬ cov (hs.getD k noHull, ss.getD k noSpot) i j → ∀ m, m < k + 1 → ¬ cov (hs.getD m noHull, ss.getD m noSpot) i j) := Lib.hid (fun h m hm => by
        rcases Nat.lt_succ_iff_lt_or_eq.1 hm with h1 | h1
        · exact hall.out m h1
        · exact h1 ▸ h)
      have HY : Hid (cov (hs.getD k noHull, ss.getD k noSpot) i j → coverR hs ss i j (k : Int)) := Lib.hid (fun h => .inr ⟨k, hkh, rfl, h⟩)
      generalize hs.getD k noHull = VH at HV hgk hik hbd HA HY
      generalize ss.getD k noSpot = VS at HW hik hbd HA HY
      obtain ⟨hd, hl, hbb⟩ := VH
      obtain ⟨s0, s1⟩ := VS
      obtain ⟨e0, e1, e2⟩ := HV
      obtain ⟨f0, f1⟩ := HW
      dsimp only at e0 e1 e2 f0 f1 hbd
      have hm1 : (-12 ≤ hl ∧ hl ≤ 12) ∧ (-12 ≤ hbb ∧ hbb ≤ 12) := by obtain ⟨-, ⟨a, b⟩, d, e⟩ := hgk; dsimp only at a b d e; omega
      have CMk := Lib.hid (fun W => CME.out hd hl hbb s0 s1 0 1 1 i j W hm1.1 hm1.2 (by omega) (by omega) (by omega) (by omega) (by omega) (by omega))
      have hk0 : (0 : Int) ≤ (k : Int) := by omega
      have hk1 : (k : Int) < (n : Int) := by omega
      have HB := Lib.hid hb
      have C0 := fun (d : Nat) (os : Array Obj) => cell_regrown cc0 d os
      have C1 := fun (d : Nat) (os : Array Obj) => cell_regrown cc1 d os
      have C2 := fun (d : Nat) (os : Array Obj) => cell_regrown cc2 d os
      have E0 := fun (d : Nat) (os : Array Obj) => cell_regrown e0 d os
      have E1 := fun (d : Nat) (os : Array Obj) => cell_regrown e1 d os
      have E2 := fun (d : Nat) (os : Array Obj) => cell_regrown e2 d os
      have F0 := fun (d : Nat) (os : Array Obj) => cell_regrown f0 d os
      have F1 := fun (d : Nat) (os : Array Obj) => cell_regrown f1 d os
      clear hb cc0 cc1 cc2 e0 e1 e2 f0 f1 hm1 hbd hik hgk CME
      by_cases hme : cov (⟨hd, hl, hbb⟩, ⟨s0, s1⟩) i j
      · rw [decide_eq_true (meet_cov.2 hme)] at CMk
        have cM := fun (dr : Nat) (os : Array Obj) => Calls.regrown_of (w := wr) (d := dr) (os := os) (CMk.out _)
        have HR := Lib.hid (HY.out hme)
        clear CMk hme HA HY
        go_wp2
        refine wp_region_quiet_below (by kernel_rfl) (by kernel_rfl) ?_
        repeat (go_big_quiet_step (first | exact cM _ _))
        refine wpQuiet_nil ?_
        intro _ hw'
        obtain ⟨⟨dq, osq⟩, hw''⟩ := hw'
        subst hw''
        have HB4 := Lib.hid (HB.out.trans ((below_regrown wr dq osq).mono HB.out.size))
        clear C0 C1 C2 E0 E1 E2 F0 F1 cM
        go_wp2
        go_ret
        exact ⟨⟨_, rfl, HR⟩, HB4.out⟩
      · rw [decide_eq_false (fun g => hme (meet_cov.1 g))] at CMk
        have cM := fun (dr : Nat) (os : Array Obj) => Calls.regrown_of (w := wr) (d := dr) (os := os) (CMk.out _)
        have HR := Lib.hid (HA.out hme)
        clear CMk hme HA HY
        go_wp2
        refine wp_region_quiet_below (by kernel_rfl) (by kernel_rfl) ?_
        repeat (go_big_quiet_step (first | exact cM _ _))
        refine wpQuiet_nil ?_
        intro _ hw'
        obtain ⟨⟨dq, osq⟩, hw''⟩ := hw'
        subst hw''
        have HB4 := Lib.hid (HB.out.trans ((below_regrown wr dq osq).mono HB.out.size))
        have g0 := C0 dq osq
        have g1 := C1 dq osq
        have g2 := C2 dq osq
        clear C0 C1 C2 E0 E1 E2 F0 F1 cM
        go_wp2
        go_roundw
        case rel => exact ⟨k + 1, by omega, by go_num, HR, HB4.out, g0, g1, g2⟩
        case measure => simp [intOf]; omega
    · obtain rfl : k = n := by omega
      have HR : Hid (coverR hs ss i j (-1)) := Lib.hid (.inl ⟨rfl, not_cov HP.out.2.2.1 (fun m hm => hall.out m (by rw [HH.out.len] at hm; exact hm))⟩)
      clear HH HS HP CME hall cc0 cc1 cc2
      go_wp2
      go_ret
      exact ⟨⟨_, rfl, HR⟩, hb⟩
end Go.Proofs.Ytdleidlmjliapaa
