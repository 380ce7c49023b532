/- Chapter 4: whether spots are a packing, the program. -/
import Derived.Test.YtdleidlmjliapaaChD
namespace Go.Proofs.Ytdleidlmjliapaa
open Go.RowKit Go.PlainAid Go.Sort
set_option linter.unusedVariables false
set_option linter.unusedSimpArgs false

set_option maxHeartbeats 2000000 in
theorem canPack_any {w : World} {B : Nat} {A : Option Addr} {n : Nat} {hs : List THull} (cl cb : Int) (c : Nat) (h : IsHulls w B A n hs) (hm : n ≤ 1048576) :
    Calls Try.prog 34 #[.agg #[.int .i64 cl, .int .i64 cb], .slice A n c] w fun e w' => e = .returned (.bool (decide (goodC ⟨cl, cb⟩) && gHs hs)) ∧ Below w.heap.size w w' := by
  have CC := Lib.hid (fun W => isChamber_any cl cb W)
  have CG := Lib.hid (fun W (hb : Below w.heap.size w W) => areHulls_any c (h.below hb h.low) (Nat.le_trans hm (by unfold maxLen; omega)))
  generalize gHs hs = G at CG ⊢
  generalize decide (goodC ⟨cl, cb⟩) = D at CC ⊢
  clear h hm
  go_enter Try.func34, Try.ntmps34
  go_wp2_with fail
  refine (CC.out _).mono ?_
  rintro e w1 ⟨rfl, hb⟩
  have HB1 := Lib.hid ((below1 w (.cells #[.int .i64 cl, .int .i64 cb] 25)).trans (hb.mono (by simp)))
  clear hb CC
  cases D with
  | false =>
    go_wp2_with fail
    go_ret
    exact ⟨rfl, HB1.out⟩
  | true =>
    go_wp2_with fail
    refine (CG.out _ HB1.out).mono ?_
    rintro e w2 ⟨rfl, hb⟩
    have HB2 := Lib.hid (HB1.out.trans (hb.mono HB1.out.size))
    clear hb CG
    go_wp2_with fail
    go_ret
    exact ⟨rfl, HB2.out⟩

set_option maxHeartbeats 4000000 in
theorem isPacking_any {w : World} {B B' : Nat} {A A' : Option Addr} {n n' : Nat} {hs : List THull} {ss : List TSpot} (cl cb : Int) (c c' : Nat) (h : IsHulls w B A n hs) (h' : IsSpots w B' A' n' ss) (hm : n ≤ 1048576) (hm' : n' ≤ 1048576) :
    Calls Try.prog 12 #[.agg #[.int .i64 cl, .int .i64 cb], .slice A n c, .slice A' n' c'] w fun e w' => e = .returned (.bool (gP ⟨cl, cb⟩ hs ss)) ∧ Below w.heap.size w w' := by
  have CAN := Lib.hid (fun W (hb : Below w.heap.size w W) => canPack_any cl cb c (h.below hb h.low) hm)
  have CIN := Lib.hid (fun (hcb : (-12 ≤ cl ∧ cl ≤ 12) ∧ (-12 ≤ cb ∧ cb ≤ 12)) (d l b s0 s1 : Int) (W : World) (h1 : -12 ≤ l ∧ l ≤ 12) (h2 : -12 ≤ b ∧ b ≤ 12) => isInside_any cl cb d l b s0 s1 W h1 h2 hcb.1 hcb.2)
  have CME := Lib.hid (fun ad al ab s0 s1 bd bl bb t0 t1 W h1 h2 h3 h4 k1 k2 k3 k4 => meet_any ad al ab s0 s1 bd bl bb t0 t1 W h1 h2 h3 h4 k1 k2 k3 k4)
  have HH := Lib.hid h
  have HS := Lib.hid h'
  have HY := Lib.hid (fun h : packing ⟨cl, cb⟩ hs ss => (gP_iff _ _ _).2 h)
  have HN := Lib.hid (fun h : ¬ packing ⟨cl, cb⟩ hs ss => Bool.eq_false_iff.2 (fun g => h ((gP_iff _ _ _).1 g)))
  generalize gP ⟨cl, cb⟩ hs ss = R at HY HN ⊢
  clear h h'
  have hn63 : n ≤ 2 ^ 63 - 1 := by omega
  have hn63' : n' ≤ 2 ^ 63 - 1 := by omega
  go_enter Try.func12, Try.ntmps12
  go_wp2_with fail
  obtain ⟨xb, hxb⟩ : ∃ x, w.heap.size = x := ⟨_, rfl⟩
  refine (CAN.out _ (below1 _ _)).mono ?_
  rintro e w1 ⟨rfl, hb⟩
  have HB1 := Lib.hid ((below1 w (.cells #[.int .i64 cl, .int .i64 cb] 25)).trans (hb.mono (by simp)))
  have cc0 : w1.cell? ⟨xb, 0, none⟩ = some (.int .i64 cl) := (hb.cell (by simp [← hxb])).trans (by rw [← hxb, sNew]; rfl)
  have cc1 : w1.cell? ⟨xb, 1, none⟩ = some (.int .i64 cb) := (hb.cell (by simp [← hxb])).trans (by rw [← hxb, sNew]; rfl)
  have HXB : Hid (xb < w1.heap.size) := Lib.hid (World.block_lt_of_cell? _ _ cc0)
  clear hb CAN
  by_cases hcg : (decide (goodC ⟨cl, cb⟩) && gHs hs) = false
  · rw [hcg]
    obtain rfl : R = false := HN.out (fun g => by
      rw [decide_eq_true g.1, gHs_yes g.2.1] at hcg
      cases hcg)
    clear HY HN HH HS CIN CME hcg
    go_wp2_with fail
    go_ret
    exact ⟨rfl, HB1.out⟩
  have hcg' : (decide (goodC ⟨cl, cb⟩) && gHs hs) = true := by simpa using hcg
  rw [hcg']
  have hcc : decide (goodC ⟨cl, cb⟩) = true ∧ gHs hs = true := by rw [Bool.and_eq_true] at hcg'; exact hcg'
  have HC := Lib.hid (of_decide_eq_true hcc.1)
  have HG := Lib.hid ((gHs_iff hs).1 hcc.2)
  clear hcg hcg' hcc
  have hn4 : n ≤ 4 := by have := HG.out.1; rw [HH.out.len] at this; exact this
  by_cases hnn : ¬ n' = n
  · obtain rfl : R = false := HN.out (fun g => hnn (by have := g.2.2.1; rw [HH.out.len, HS.out.len] at this; exact this))
    have hne : ((n' : Int) != (n : Int)) = true := by simp; omega
    clear HY HN HH HS CIN CME
    go_wp2_with fail
    go_ret
    exact ⟨rfl, HB1.out⟩
  obtain rfl : n' = n := Classical.not_not.1 hnn
  clear hnn
  have hne : ((n' : Int) != (n' : Int)) = false := by simp
  have hcb : (-12 ≤ cl ∧ cl ≤ 12) ∧ (-12 ≤ cb ∧ cb ≤ 12) := by obtain ⟨⟨a, b⟩, d, e⟩ := HC.out; dsimp only at a b d e; omega
  have CIN2 := Lib.hid (CIN.out hcb)
  have HYP : Hid (pack ⟨cl, cb⟩ hs ss → R = true) := Lib.hid (fun h => HY.out ⟨HC.out, HG.out, by rw [HH.out.len, HS.out.len], h⟩)
  have HNP : Hid (¬ pack ⟨cl, cb⟩ hs ss → R = false) := Lib.hid (fun h => HN.out (fun g => h g.2.2.2))
  clear CIN hcb HY HN
  go_wp2_with fail
  go_loopw [23] (fun i wr => ∃ k : Nat, k ≤ n' ∧ i = .int .i64 k ∧ Hid (∀ j, j < k → okP ⟨cl, cb⟩ hs ss j) ∧ Below w.heap.size w wr ∧ wr.cell? ⟨xb, 0, none⟩ = some (.int .i64 cl) ∧ wr.cell? ⟨xb, 1, none⟩ = some (.int .i64 cb)) (fun i _ => n' - (intOf i).toNat)
  case atStart => exact ⟨0, Nat.zero_le _, rfl, Lib.hid (by simp), HB1.out, cc0, cc1⟩
  case round =>
    clear cc0 cc1 HXB
    obtain ⟨k, hk, rfl, hall, hb, cc0, cc1⟩ := hrel
    by_cases hlt : k < n'
    · have hkh : k < hs.length := by rw [HH.out.len]; omega
      have hks : k < ss.length := by rw [HS.out.len]; omega
      have HOK : Hid (okP ⟨cl, cb⟩ hs ss k ↔ inside ⟨cl, cb⟩ (hs.getD k noHull) (ss.getD k noSpot) ∧ ∀ j, j < k → ¬ meet (hs.getD k noHull) (ss.getD k noSpot) (hs.getD j noHull) (ss.getD j noSpot)) := Lib.hid Iff.rfl
      have HF : Hid (¬ okP ⟨cl, cb⟩ hs ss k → R = false) := Lib.hid (fun h => HNP.out (fun g => h (g k hks)))
      have HA : Hid (okP ⟨cl, cb⟩ hs ss k → ∀ j, j < k + 1 → okP ⟨cl, cb⟩ hs ss j) := Lib.hid (fun h j hj => by
        rcases Nat.lt_succ_iff_lt_or_eq.1 hj with h1 | h1
        · exact hall.out j h1
        · exact h1 ▸ h)
      have HALL := Lib.hid hall.out
      obtain ⟨aS, rfl, _, HW⟩ := (HS.out.below hb HS.out.low).has.Spot hks
      obtain ⟨VS, hVS⟩ : ∃ V, ss.getD k noSpot = V := ⟨_, rfl⟩
      obtain ⟨VH, hVH⟩ : ∃ V, hs.getD k noHull = V := ⟨_, rfl⟩
      rw [hVS] at HW
      have hGk := Lib.hid (show goodH VH by rw [← hVH]; exact getH_good HG.out hkh)
      have HVS := Lib.hid hVS
      have HVH := Lib.hid hVH
      clear hVS hVH
      rw [HVH.out, HVS.out] at HOK
      obtain ⟨hd, hl, hbb⟩ := VH
      obtain ⟨s0, s1⟩ := VS
      obtain ⟨f0, f1⟩ := HW
      dsimp only at f0 f1
      have hbd : (-12 ≤ hl ∧ hl ≤ 12) ∧ (-12 ≤ hbb ∧ hbb ≤ 12) := by obtain ⟨-, ⟨a, b⟩, d, e⟩ := hGk.out; dsimp only at a b d e; omega
      have CINk := Lib.hid (fun W => CIN2.out hd hl hbb s0 s1 W hbd.1 hbd.2)
      have hk0 : (0 : Int) ≤ (k : Int) := by omega
      have hk2 : (k : Int) < (n' : Int) := by omega
      have HB := Lib.hid hb
      have HXW : Hid (xb < wr.heap.size) := Lib.hid (World.block_lt_of_cell? _ _ cc0)
      clear hb hall hbd
      go_wp2_with fail
      have c5a : (wr.alloc (.cells #[.int .i64 s0, .int .i64 s1] 42)).cell? ⟨xb, 0, none⟩ = some (.int .i64 cl) := (World.cell?_alloc_lt wr _ ⟨xb, 0, none⟩ HXW.out).trans cc0
      have c5b : (wr.alloc (.cells #[.int .i64 s0, .int .i64 s1] 42)).cell? ⟨xb, 1, none⟩ = some (.int .i64 cb) := (World.cell?_alloc_lt wr _ ⟨xb, 1, none⟩ HXW.out).trans cc1
      obtain ⟨W5, hW5⟩ : ∃ W, wr.alloc (.cells #[.int .i64 s0, .int .i64 s1] 42) = W := ⟨_, rfl⟩
      obtain ⟨sb, hsb⟩ : ∃ x, wr.heap.size = x := ⟨_, rfl⟩
      have s5a : W5.cell? ⟨sb, 0, none⟩ = some (.int .i64 s0) := by rw [← hW5, ← hsb, sNew]; rfl
      have s5b : W5.cell? ⟨sb, 1, none⟩ = some (.int .i64 s1) := by rw [← hW5, ← hsb, sNew]; rfl
      have HB5 := Lib.hid (show Below w.heap.size w W5 by rw [← hW5]; exact HB.out.alloc HB.out.size _)
      rw [hW5] at c5a c5b
      rw [hW5, hsb]
      clear hW5 hsb cc0 cc1 f0 f1 HXW
      obtain ⟨aH, rfl, _, HV⟩ := (HH.out.below HB5.out HH.out.low).has.Hull hkh
      rw [HVH.out] at HV
      obtain ⟨e0, e1, e2⟩ := HV
      dsimp only at e0 e1 e2
      have C0 := fun (d : Nat) (os : Array Obj) => cell_regrown c5a d os
      have C1 := fun (d : Nat) (os : Array Obj) => cell_regrown c5b d os
      have F0 := fun (d : Nat) (os : Array Obj) => cell_regrown s5a d os
      have F1 := fun (d : Nat) (os : Array Obj) => cell_regrown s5b d os
      have E0 := fun (d : Nat) (os : Array Obj) => cell_regrown e0 d os
      have E1 := fun (d : Nat) (os : Array Obj) => cell_regrown e1 d os
      have E2 := fun (d : Nat) (os : Array Obj) => cell_regrown e2 d os
      clear c5a c5b s5a s5b e0 e1 e2
      by_cases hins : inside ⟨cl, cb⟩ ⟨hd, hl, hbb⟩ ⟨s0, s1⟩
      · rw [decide_eq_true hins] at CINk
        have cM := fun (dr : Nat) (os : Array Obj) => Calls.regrown_of (w := W5) (d := dr) (os := os) (CINk.out _)
        have HIN := Lib.hid hins
        clear CINk hins
        refine wp_region_quiet_below (by kernel_rfl) (by kernel_rfl) ?_
        repeat (go_big_quiet_step (first | exact cM _ _))
        refine wpQuiet_nil ?_
        intro _ hw'
        obtain ⟨⟨dq, osq⟩, hw''⟩ := hw'
        subst hw''
        have HB2 := Lib.hid (HB5.out.trans ((below_regrown W5 dq osq).mono HB5.out.size))
        obtain ⟨W2, hW2⟩ : ∃ W, grow (redrawn W5 dq) osq = W := ⟨_, rfl⟩
        have k0 := C0 dq osq
        have k1 := C1 dq osq
        have k2 := F0 dq osq
        have k3 := F1 dq osq
        rw [hW2] at HB2 k0 k1 k2 k3
        simp only [hW2]
        clear hW2 C0 C1 E0 E1 E2 F0 F1 cM
        go_wp2_with fail
        go_loopw [37] (fun i wr => ∃ j : Nat, j ≤ k ∧ i = .int .i64 j ∧ Hid (∀ i, i < j → ¬ meet ⟨hd, hl, hbb⟩ ⟨s0, s1⟩ (hs.getD i noHull) (ss.getD i noSpot)) ∧ Below w.heap.size w wr ∧ wr.cell? ⟨xb, 0, none⟩ = some (.int .i64 cl) ∧ wr.cell? ⟨xb, 1, none⟩ = some (.int .i64 cb) ∧ wr.cell? ⟨sb, 0, none⟩ = some (.int .i64 s0) ∧ wr.cell? ⟨sb, 1, none⟩ = some (.int .i64 s1)) (fun i _ => k - (intOf i).toNat)
        case atStart => exact ⟨0, Nat.zero_le _, rfl, Lib.hid (by simp), HB2.out, k0, k1, k2, k3⟩
        case round =>
          clear k0 k1 k2 k3
          obtain ⟨j, hj, rfl, hin, hb2, cc0, cc1, u0, u1⟩ := hrel
          by_cases hjk : j < k
          · have hjh : j < hs.length := by omega
            have hjs : j < ss.length := by omega
            obtain ⟨a3, e3, -, HJ⟩ := (HH.out.below hb2 HH.out.low).has.Hull hjh
            obtain ⟨a4, e4, -, HK⟩ := (HH.out.below hb2 HH.out.low).has.Hull hkh
            obtain ⟨a5, e5, -, HSJ⟩ := (HS.out.below hb2 HS.out.low).has.Spot hjs
            injection e3 with e3
            subst e3
            injection e4 with e4
            subst e4
            injection e5 with e5
            subst e5
            rw [HVH.out] at HK
            have hGj := getH_good HG.out hjh
            have hij : inside ⟨cl, cb⟩ (hs.getD j noHull) (ss.getD j noSpot) := (HALL.out j hjk).1
            have hbj := inside_bd HC.out hGj hij
            have hbk := inside_bd HC.out hGk.out HIN.out
            have HI : Hid (¬ meet ⟨hd, hl, hbb⟩ ⟨s0, s1⟩ (hs.getD j noHull) (ss.getD j noSpot) → ∀ i, i < j + 1 → ¬ meet ⟨hd, hl, hbb⟩ ⟨s0, s1⟩ (hs.getD i noHull) (ss.getD i noSpot)) := Lib.hid (fun h i hi => by
              rcases Nat.lt_succ_iff_lt_or_eq.1 hi with h1 | h1
              · exact hin.out i h1
              · exact h1 ▸ h)
            have HX : Hid (meet ⟨hd, hl, hbb⟩ ⟨s0, s1⟩ (hs.getD j noHull) (ss.getD j noSpot) → R = false) := Lib.hid (fun h => HF.out (fun g => (HOK.out.1 g).2 j hjk h))
            generalize hs.getD j noHull = VH at HJ hGj hbj HI HX
            generalize ss.getD j noSpot = VS at HSJ hbj HI HX
            obtain ⟨jd, jl, jb⟩ := VH
            obtain ⟨t0, t1⟩ := VS
            obtain ⟨p0, p1, p2⟩ := HJ
            obtain ⟨q0, q1, q2⟩ := HK
            obtain ⟨r0, r1⟩ := HSJ
            dsimp only at p0 p1 p2 q0 q1 q2 r0 r1 hbj hbk
            have hm1 : (-12 ≤ jl ∧ jl ≤ 12) ∧ (-12 ≤ jb ∧ jb ≤ 12) := by obtain ⟨-, ⟨a, b⟩, d, e⟩ := hGj; dsimp only at a b d e; omega
            have hm2 : (-12 ≤ hl ∧ hl ≤ 12) ∧ (-12 ≤ hbb ∧ hbb ≤ 12) := by obtain ⟨-, ⟨a, b⟩, d, e⟩ := hGk.out; dsimp only at a b d e; omega
            have CMk := Lib.hid (fun W => CME.out hd hl hbb s0 s1 jd jl jb t0 t1 W hm2.1 hm2.2 hm1.1 hm1.2 (by omega) (by omega) (by omega) (by omega))
            have hj0 : (0 : Int) ≤ (j : Int) := by omega
            have hj1 : (j : Int) < (k : Int) := by omega
            have HB3 := Lib.hid hb2
            have G0 := fun (d : Nat) (os : Array Obj) => cell_regrown cc0 d os
            have G1 := fun (d : Nat) (os : Array Obj) => cell_regrown cc1 d os
            have P0 := fun (d : Nat) (os : Array Obj) => cell_regrown p0 d os
            have P1 := fun (d : Nat) (os : Array Obj) => cell_regrown p1 d os
            have P2 := fun (d : Nat) (os : Array Obj) => cell_regrown p2 d os
            have Q0 := fun (d : Nat) (os : Array Obj) => cell_regrown q0 d os
            have Q1 := fun (d : Nat) (os : Array Obj) => cell_regrown q1 d os
            have Q2 := fun (d : Nat) (os : Array Obj) => cell_regrown q2 d os
            have R0 := fun (d : Nat) (os : Array Obj) => cell_regrown r0 d os
            have R1 := fun (d : Nat) (os : Array Obj) => cell_regrown r1 d os
            have U0 := fun (d : Nat) (os : Array Obj) => cell_regrown u0 d os
            have U1 := fun (d : Nat) (os : Array Obj) => cell_regrown u1 d os
            clear p0 p1 p2 q0 q1 q2 r0 r1 u0 u1 hm1 hm2 hbj hbk hij hGj hb2 hin HF HOK HNP cc0 cc1 CME
            by_cases hme : meet ⟨hd, hl, hbb⟩ ⟨s0, s1⟩ ⟨jd, jl, jb⟩ ⟨t0, t1⟩
            · obtain rfl : R = false := HX.out hme
              rw [decide_eq_true hme] at CMk
              have cM := fun (dr : Nat) (os : Array Obj) => Calls.regrown_of (w := wr) (d := dr) (os := os) (CMk.out _)
              clear CMk hme HI HX
              go_wp2
              refine wp_region_quiet_below (by kernel_rfl) (by kernel_rfl) ?_
              repeat (go_big_quiet_step (first | exact cM _ _))
              refine wpQuiet_nil ?_
              intro _ hw'
              obtain ⟨⟨dq, osq⟩, hw''⟩ := hw'
              subst hw''
              have HB4 := Lib.hid (HB3.out.trans ((below_regrown wr dq osq).mono HB3.out.size))
              clear P0 P1 P2 Q0 Q1 Q2 R0 R1 U0 U1 cM G0 G1
              go_wp2
              go_ret
              exact ⟨rfl, HB4.out⟩
            · rw [decide_eq_false hme] at CMk
              have HI2 := Lib.hid (HI.out hme)
              have cM := fun (dr : Nat) (os : Array Obj) => Calls.regrown_of (w := wr) (d := dr) (os := os) (CMk.out _)
              clear CMk hme HI HX
              go_wp2
              refine wp_region_quiet_below (by kernel_rfl) (by kernel_rfl) ?_
              repeat (go_big_quiet_step (first | exact cM _ _))
              refine wpQuiet_nil ?_
              intro _ hw'
              obtain ⟨⟨dq, osq⟩, hw''⟩ := hw'
              subst hw''
              have HB4 := Lib.hid (HB3.out.trans ((below_regrown wr dq osq).mono HB3.out.size))
              have g0 := G0 dq osq
              have g1 := G1 dq osq
              have g2 := U0 dq osq
              have g3 := U1 dq osq
              clear P0 P1 P2 Q0 Q1 Q2 R0 R1 U0 U1 cM G0 G1
              go_wp2
              go_roundw
              case rel => exact ⟨j + 1, by omega, by go_num, HI2, HB4.out, g0, g1, g2, g3⟩
              case measure => simp [intOf]; omega
          · obtain rfl : j = k := by omega
            have HR := Lib.hid (HA.out (HOK.out.2 ⟨HIN.out, hin.out⟩))
            clear HA HOK HF HYP HNP HH HS HG HC CME hin HALL HVH HVS hGk HIN u0 u1
            go_wp2
            go_roundw
            case rel => exact ⟨j + 1, by omega, by go_num, HR, hb2, cc0, cc1⟩
            case measure => simp [intOf]; omega
      · obtain rfl : R = false := HF.out (fun g => hins (HOK.out.1 g).1)
        rw [decide_eq_false hins] at CINk
        have cM := fun (dr : Nat) (os : Array Obj) => Calls.regrown_of (w := W5) (d := dr) (os := os) (CINk.out _)
        clear CINk hins HF HOK HA HYP HNP
        refine wp_region_quiet_below (by kernel_rfl) (by kernel_rfl) ?_
        repeat (go_big_quiet_step (first | exact cM _ _))
        refine wpQuiet_nil ?_
        intro _ hw'
        obtain ⟨⟨dq, osq⟩, hw''⟩ := hw'
        subst hw''
        have HB2 := Lib.hid (HB5.out.trans ((below_regrown W5 dq osq).mono HB5.out.size))
        clear C0 C1 E0 E1 E2 F0 F1 cM
        go_wp2
        go_ret
        exact ⟨rfl, HB2.out⟩
    · obtain rfl : k = n' := by omega
      obtain rfl : R = true := HYP.out (fun j hj => hall.out j (by rw [HS.out.len] at hj; exact hj))
      clear HYP HNP HH HS CIN2 CME hall
      go_wp2
      go_ret
      exact ⟨rfl, hb⟩
end Go.Proofs.Ytdleidlmjliapaa
