/- Chapter 4: whether spots are a packing: the model and the program. -/
import Derived.Test.YtdleidlmjliapaaChB
namespace Go.Proofs.Ytdleidlmjliapaa
open Go.RowKit Go.PlainAid Go.Sort
set_option linter.unusedVariables false
set_option linter.unusedSimpArgs false

theorem pack_len {hs : List THull} (h : goodHs hs) : hs.length ≤ 4 := h.1
theorem getH_good {hs : List THull} (h : goodHs hs) {k : Nat} (hk : k < hs.length) : goodH (hs.getD k noHull) := (h.2 k hk).1
theorem inside_bd {c : TChamber} {h : THull} {s : TSpot} (hc : goodC c) (hh : goodH h) (hi : inside c h s) : (0 ≤ s.x0 ∧ s.x0 ≤ 6) ∧ (0 ≤ s.x1 ∧ s.x1 ≤ 3) := by
  obtain ⟨⟨c0, c1⟩, c2, c3⟩ := hc
  obtain ⟨-, ⟨h0, h1⟩, h2, h3⟩ := hh
  obtain ⟨⟨i0, i1⟩, i2, i3⟩ := hi
  omega
noncomputable def gPk (c : TChamber) (hs : List THull) (ss : List TSpot) : Bool := decide (pack c hs ss)
theorem gPk_yes {c : TChamber} {hs : List THull} {ss : List TSpot} (h : pack c hs ss) : gPk c hs ss = true := decide_eq_true h
theorem gPk_no {c : TChamber} {hs : List THull} {ss : List TSpot} (h : ¬ pack c hs ss) : gPk c hs ss = false := decide_eq_false h
theorem gPk_iff (c : TChamber) (hs : List THull) (ss : List TSpot) : gPk c hs ss = true ↔ pack c hs ss := decide_eq_true_iff
theorem gP_eq (c : TChamber) (hs : List THull) (ss : List TSpot) : gP c hs ss = (decide (goodC c) && (gHs hs && (decide (ss.length = hs.length) && gPk c hs ss))) := by
  rw [Bool.eq_iff_iff, gP_iff]
  simp only [Bool.and_eq_true, decide_eq_true_eq, gHs_iff, gPk_iff]
  exact Iff.rfl


set_option maxHeartbeats 4000000 in
theorem l4Packing_any {w : World} {B B' : Nat} {A A' : Option Addr} {n n' : Nat} {hs : List THull} {ss : List TSpot} (cl cb : Int) (c c' : Nat) (h : IsHulls w B A n hs) (h' : IsSpots w B' A' n' ss) (hc : goodC ⟨cl, cb⟩) (hg : goodHs hs) (hn : n' ≤ n) :
    Calls Try.prog 74 #[.agg #[.int .i64 cl, .int .i64 cb], .slice A n c, .slice A' n' c'] w fun e w' => e = .returned (.bool (gPk ⟨cl, cb⟩ hs ss)) ∧ Below w.heap.size w w' := by
  have hn4 : n ≤ 4 := by have := hg.1; rw [h.len] at this; exact this
  have hcb : (-12 ≤ cl ∧ cl ≤ 12) ∧ (-12 ≤ cb ∧ cb ≤ 12) := by obtain ⟨⟨a, b⟩, d, e⟩ := hc; dsimp only at a b d e; omega
  have CIN := Lib.hid (fun (d l b s0 s1 : Int) (W : World) (h1 : -12 ≤ l ∧ l ≤ 12) (h2 : -12 ≤ b ∧ b ≤ 12) => l4Inside_any cl cb d l b s0 s1 W h1 h2 hcb.1 hcb.2)
  have CME := Lib.hid (fun ad al ab s0 s1 bd bl bb t0 t1 W h1 h2 h3 h4 k1 k2 k3 k4 => l4Meet_any ad al ab s0 s1 bd bl bb t0 t1 W h1 h2 h3 h4 k1 k2 k3 k4)
  have HH := Lib.hid h
  have HS := Lib.hid h'
  have HG := Lib.hid hg
  have HC := Lib.hid hc
  have HY := Lib.hid (fun h : pack ⟨cl, cb⟩ hs ss => gPk_yes h)
  have HN := Lib.hid (fun h : ¬ pack ⟨cl, cb⟩ hs ss => gPk_no h)
  generalize gPk ⟨cl, cb⟩ hs ss = R at HY HN ⊢
  clear h h' hc hg hcb
  go_enter Try.func74, Try.ntmps74
  go_wp2_with fail
  obtain ⟨xb, hxb⟩ : ∃ x, w.heap.size = x := ⟨_, rfl⟩
  go_loopw [7] (fun i wr => ∃ k : Nat, k ≤ n' ∧ i = .int .i64 k ∧ Hid (∀ j, j < k → okP ⟨cl, cb⟩ hs ss j) ∧ Below w.heap.size w wr ∧ wr.cell? ⟨xb, 0, none⟩ = some (.int .i64 cl) ∧ wr.cell? ⟨xb, 1, none⟩ = some (.int .i64 cb) ∧ Hid (xb < wr.heap.size)) (fun i _ => n' - (intOf i).toNat)
  case atStart => exact ⟨0, Nat.zero_le _, rfl, Lib.hid (by simp), below1 _ _, by rw [← hxb, sNew]; rfl, by rw [← hxb, sNew]; rfl, Lib.hid (by rw [← hxb]; simp)⟩
  case round =>
    obtain ⟨k, hk, rfl, hall, hb, cc0, cc1, hxw⟩ := hrel
    by_cases hlt : k < n'
    · have hkh : k < hs.length := by rw [HH.out.len]; omega
      have hks : k < ss.length := by rw [HS.out.len]; omega
      have HOK : Hid (okP ⟨cl, cb⟩ hs ss k ↔ inside ⟨cl, cb⟩ (hs.getD k noHull) (ss.getD k noSpot) ∧ ∀ j, j < k → ¬ meet (hs.getD k noHull) (ss.getD k noSpot) (hs.getD j noHull) (ss.getD j noSpot)) := Lib.hid Iff.rfl
      have HF : Hid (¬ okP ⟨cl, cb⟩ hs ss k → R = false) := Lib.hid (fun h => HN.out (fun g => h (g k hks)))
      have HA : Hid (okP ⟨cl, cb⟩ hs ss k → ∀ j, j < k + 1 → okP ⟨cl, cb⟩ hs ss j) := Lib.hid (fun h j hj => by
        rcases Nat.lt_succ_iff_lt_or_eq.1 hj with h1 | h1
        · exact hall.out j h1
        · exact h1 ▸ h)
      have HALL := Lib.hid hall.out
      obtain ⟨aH, rfl, _, HV⟩ := (HH.out.below hb HH.out.low).has.Hull hkh
      obtain ⟨aS, rfl, _, HW⟩ := (HS.out.below hb HS.out.low).has.Spot hks
      obtain ⟨VH, hVH⟩ : ∃ V, hs.getD k noHull = V := ⟨_, rfl⟩
      obtain ⟨VS, hVS⟩ : ∃ V, ss.getD k noSpot = V := ⟨_, rfl⟩
      rw [hVH] at HV
      rw [hVS] at HW
      have hGk := Lib.hid (show goodH VH by rw [← hVH]; exact getH_good HG.out hkh)
      have HVH := Lib.hid hVH
      have HVS := Lib.hid hVS
      clear hVH hVS
      rw [HVH.out, HVS.out] at HOK
      obtain ⟨hd, hl, hbb⟩ := VH
      obtain ⟨s0, s1⟩ := VS
      obtain ⟨e0, e1, e2⟩ := HV
      obtain ⟨f0, f1⟩ := HW
      dsimp only at e0 e1 e2 f0 f1
      have hbd : (-12 ≤ hl ∧ hl ≤ 12) ∧ (-12 ≤ hbb ∧ hbb ≤ 12) := by obtain ⟨-, ⟨a, b⟩, d, e⟩ := hGk.out; dsimp only at a b d e; omega
      have CINk := Lib.hid (fun W => CIN.out hd hl hbb s0 s1 W hbd.1 hbd.2)
      have hk0 : (0 : Int) ≤ (k : Int) := by omega
      have hk1 : (k : Int) < (n : Int) := by omega
      have hk2 : (k : Int) < (n' : Int) := by omega
      have HB := Lib.hid hb
      have HCC := Lib.hid (⟨cc0, cc1⟩ : wr.cell? ⟨xb, 0, none⟩ = some (.int .i64 cl) ∧ wr.cell? ⟨xb, 1, none⟩ = some (.int .i64 cb))
      have C0 := fun (d : Nat) (os : Array Obj) => cell_regrown cc0 d os
      have C1 := fun (d : Nat) (os : Array Obj) => cell_regrown cc1 d os
      have E0 := fun (d : Nat) (os : Array Obj) => cell_regrown e0 d os
      have E1 := fun (d : Nat) (os : Array Obj) => cell_regrown e1 d os
      have E2 := fun (d : Nat) (os : Array Obj) => cell_regrown e2 d os
      have F0 := fun (d : Nat) (os : Array Obj) => cell_regrown f0 d os
      have F1 := fun (d : Nat) (os : Array Obj) => cell_regrown f1 d os
      clear hb hall cc0 cc1 e0 e1 e2 f0 f1 hbd
      by_cases hins : inside ⟨cl, cb⟩ ⟨hd, hl, hbb⟩ ⟨s0, s1⟩
      · rw [decide_eq_true hins] at CINk
        have cM := fun (dr : Nat) (os : Array Obj) => Calls.regrown_of (w := wr) (d := dr) (os := os) (CINk.out _)
        have HIN := Lib.hid hins
        clear CINk hins CIN
        go_wp2
        refine wp_region_quiet_below (by kernel_rfl) (by kernel_rfl) ?_
        repeat (go_big_quiet_step (first | exact cM _ _))
        refine wpQuiet_nil ?_
        intro _ hw'
        obtain ⟨⟨dq, osq⟩, hw''⟩ := hw'
        subst hw''
        have HB2 := Lib.hid (HB.out.trans ((below_regrown wr dq osq).mono HB.out.size))
        obtain ⟨W2, hW2⟩ : ∃ W, grow (redrawn wr dq) osq = W := ⟨_, rfl⟩
        have k0 := C0 dq osq
        have k1 := C1 dq osq
        have HX2 : Hid (xb < W2.heap.size) := Lib.hid (by rw [← hW2]; exact Nat.lt_of_lt_of_le hxw.out (below_regrown wr dq osq).size)
        rw [hW2] at HB2 k0 k1
        simp only [hW2]
        clear hW2 C0 C1 E0 E1 E2 F0 F1 cM
        go_wp2_with fail
        go_loopw [8] (fun i wr => ∃ j : Nat, j ≤ k ∧ i = .int .i64 j ∧ Hid (∀ i, i < j → ¬ meet ⟨hd, hl, hbb⟩ ⟨s0, s1⟩ (hs.getD i noHull) (ss.getD i noSpot)) ∧ Below w.heap.size w wr ∧ wr.cell? ⟨xb, 0, none⟩ = some (.int .i64 cl) ∧ wr.cell? ⟨xb, 1, none⟩ = some (.int .i64 cb) ∧ Hid (xb < wr.heap.size)) (fun i _ => k - (intOf i).toNat)
        case atStart => exact ⟨0, Nat.zero_le _, rfl, Lib.hid (by simp), HB2.out, k0, k1, HX2⟩
        case round =>
          obtain ⟨j, hj, rfl, hin, hb2, cc0, cc1, hxw2⟩ := hrel
          by_cases hjk : j < k
          · have hjh : j < hs.length := by omega
            have hjs : j < ss.length := by omega
            obtain ⟨a3, e3, -, HJ⟩ := (HH.out.below hb2 HH.out.low).has.Hull hjh
            obtain ⟨a4, e4, -, HK⟩ := (HH.out.below hb2 HH.out.low).has.Hull hkh
            obtain ⟨a5, e5, -, HSJ⟩ := (HS.out.below hb2 HS.out.low).has.Spot hjs
            obtain ⟨a6, e6, -, HSK⟩ := (HS.out.below hb2 HS.out.low).has.Spot hks
            injection e3 with e3
            subst e3
            injection e4 with e4
            subst e4
            injection e5 with e5
            subst e5
            injection e6 with e6
            subst e6
            rw [HVH.out] at HK
            rw [HVS.out] at HSK
            have hGj := getH_good HG.out hjh
            have hij : inside ⟨cl, cb⟩ (hs.getD j noHull) (ss.getD j noSpot) := (HALL.out j hjk).1
            have hbj := inside_bd HC.out hGj hij
            have hbk := inside_bd HC.out hGk.out HIN.out
            have HI : Hid (¬ meet ⟨hd, hl, hbb⟩ ⟨s0, s1⟩ (hs.getD j noHull) (ss.getD j noSpot) → ∀ i, i < j + 1 → ¬ meet ⟨hd, hl, hbb⟩ ⟨s0, s1⟩ (hs.getD i noHull) (ss.getD i noSpot)) := Lib.hid (fun h i hi => by
              rcases Nat.lt_succ_iff_lt_or_eq.1 hi with h1 | h1
              · exact hin.out i h1
              · exact h1 ▸ h)
            have HX : Hid (meet ⟨hd, hl, hbb⟩ ⟨s0, s1⟩ (hs.getD j noHull) (ss.getD j noSpot) → R = false) := Lib.hid (fun h => HF.out (fun g => (HOK.out.1 g).2 j hjk h))
            generalize hs.getD j noHull = VH at HJ hGj hbj HI HX
            generalize ss.getD j noSpot = VS at HSJ hbj HI HX
            obtain ⟨jd, jl, jb⟩ := VH
            obtain ⟨t0, t1⟩ := VS
            obtain ⟨p0, p1, p2⟩ := HJ
            obtain ⟨q0, q1, q2⟩ := HK
            obtain ⟨r0, r1⟩ := HSJ
            obtain ⟨u0, u1⟩ := HSK
            dsimp only at p0 p1 p2 q0 q1 q2 r0 r1 u0 u1 hbj hbk
            have hm1 : (-12 ≤ jl ∧ jl ≤ 12) ∧ (-12 ≤ jb ∧ jb ≤ 12) := by obtain ⟨-, ⟨a, b⟩, d, e⟩ := hGj; dsimp only at a b d e; omega
            have hm2 : (-12 ≤ hl ∧ hl ≤ 12) ∧ (-12 ≤ hbb ∧ hbb ≤ 12) := by obtain ⟨-, ⟨a, b⟩, d, e⟩ := hGk.out; dsimp only at a b d e; omega
            have CMk := Lib.hid (fun W => CME.out hd hl hbb s0 s1 jd jl jb t0 t1 W hm2.1 hm2.2 hm1.1 hm1.2 (by omega) (by omega) (by omega) (by omega))
            have hj0 : (0 : Int) ≤ (j : Int) := by omega
            have hj1 : (j : Int) < (k : Int) := by omega
            have HB3 := Lib.hid hb2
            have G0 := fun (d : Nat) (os : Array Obj) => cell_regrown cc0 d os
            have G1 := fun (d : Nat) (os : Array Obj) => cell_regrown cc1 d os
            have P0 := fun (d : Nat) (os : Array Obj) => cell_regrown p0 d os
            have P1 := fun (d : Nat) (os : Array Obj) => cell_regrown p1 d os
            have P2 := fun (d : Nat) (os : Array Obj) => cell_regrown p2 d os
            have Q0 := fun (d : Nat) (os : Array Obj) => cell_regrown q0 d os
            have Q1 := fun (d : Nat) (os : Array Obj) => cell_regrown q1 d os
            have Q2 := fun (d : Nat) (os : Array Obj) => cell_regrown q2 d os
            have R0 := fun (d : Nat) (os : Array Obj) => cell_regrown r0 d os
            have R1 := fun (d : Nat) (os : Array Obj) => cell_regrown r1 d os
            have U0 := fun (d : Nat) (os : Array Obj) => cell_regrown u0 d os
            have U1 := fun (d : Nat) (os : Array Obj) => cell_regrown u1 d os
            clear p0 p1 p2 q0 q1 q2 r0 r1 u0 u1 hm1 hm2 hbj hbk hij hGj hb2 hin HF HOK HN cc0 cc1 CME
            by_cases hme : meet ⟨hd, hl, hbb⟩ ⟨s0, s1⟩ ⟨jd, jl, jb⟩ ⟨t0, t1⟩
            · obtain rfl : R = false := HX.out hme
              rw [decide_eq_true hme] at CMk
              have cM := fun (dr : Nat) (os : Array Obj) => Calls.regrown_of (w := wr) (d := dr) (os := os) (CMk.out _)
              clear CMk hme HI HX
              go_wp2
              refine wp_region_quiet_below (by kernel_rfl) (by kernel_rfl) ?_
              repeat (go_big_quiet_step (first | exact cM _ _))
              refine wpQuiet_nil ?_
              intro _ hw'
              obtain ⟨⟨dq, osq⟩, hw''⟩ := hw'
              subst hw''
              have HB4 := Lib.hid (HB3.out.trans ((below_regrown wr dq osq).mono HB3.out.size))
              clear P0 P1 P2 Q0 Q1 Q2 R0 R1 U0 U1 cM G0 G1
              go_wp2
              go_ret
              exact ⟨rfl, HB4.out⟩
            · rw [decide_eq_false hme] at CMk
              have HI2 := Lib.hid (HI.out hme)
              have cM := fun (dr : Nat) (os : Array Obj) => Calls.regrown_of (w := wr) (d := dr) (os := os) (CMk.out _)
              clear CMk hme HI HX
              go_wp2
              refine wp_region_quiet_below (by kernel_rfl) (by kernel_rfl) ?_
              repeat (go_big_quiet_step (first | exact cM _ _))
              refine wpQuiet_nil ?_
              intro _ hw'
              obtain ⟨⟨dq, osq⟩, hw''⟩ := hw'
              subst hw''
              have HB4 := Lib.hid (HB3.out.trans ((below_regrown wr dq osq).mono HB3.out.size))
              have g0 := G0 dq osq
              have g1 := G1 dq osq
              have HX4 : Hid (xb < (grow (redrawn wr dq) osq).heap.size) := Lib.hid (Nat.lt_of_lt_of_le hxw2.out (below_regrown wr dq osq).size)
              clear P0 P1 P2 Q0 Q1 Q2 R0 R1 U0 U1 cM G0 G1
              go_wp2
              go_roundw
              case rel => exact ⟨j + 1, by omega, by go_num, HI2, HB4.out, g0, g1, HX4⟩
              case measure => simp [intOf]; omega
          · obtain rfl : j = k := by omega
            have HR := Lib.hid (HA.out (HOK.out.2 ⟨HIN.out, hin.out⟩))
            clear HA HOK HF HY HN HH HS HG HC CME hin HALL HVH HVS hGk HIN
            go_wp2
            go_roundw
            case rel => exact ⟨j + 1, by omega, by go_num, HR, hb2, cc0, cc1, hxw2⟩
            case measure => simp [intOf]; omega
      · obtain rfl : R = false := HF.out (fun g => hins (HOK.out.1 g).1)
        rw [decide_eq_false hins] at CINk
        have cM := fun (dr : Nat) (os : Array Obj) => Calls.regrown_of (w := wr) (d := dr) (os := os) (CINk.out _)
        clear CINk hins CIN HF HOK HA HY HN
        go_wp2
        refine wp_region_quiet_below (by kernel_rfl) (by kernel_rfl) ?_
        repeat (go_big_quiet_step (first | exact cM _ _))
        refine wpQuiet_nil ?_
        intro _ hw'
        obtain ⟨⟨dq, osq⟩, hw''⟩ := hw'
        subst hw''
        have HB2 := Lib.hid (HB.out.trans ((below_regrown wr dq osq).mono HB.out.size))
        clear C0 C1 E0 E1 E2 F0 F1 cM
        go_wp2
        go_ret
        exact ⟨rfl, HB2.out⟩
    · obtain rfl : k = n' := by omega
      obtain rfl : R = true := HY.out (fun j hj => hall.out j (by rw [HS.out.len] at hj; exact hj))
      clear HY HN HH HS CIN CME hall
      go_wp2
      go_ret
      exact ⟨rfl, hb⟩
end Go.Proofs.Ytdleidlmjliapaa
