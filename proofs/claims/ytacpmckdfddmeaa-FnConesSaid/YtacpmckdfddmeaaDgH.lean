/- Chapter 7: MostDangerous: slices.MinFunc and the program. -/
import Derived.Test.YtacpmckdfddmeaaDgG
namespace Go.Proofs.Ytacpmckdfddmeaa
open Go.RowKit Go.PlainAid Go.Sort
set_option linter.unusedVariables false
set_option linter.unusedSimpArgs false

/-- What MostDangerous answers. -/
def MostA (vs : List TCargo) (z : Int) (x : Bool) : Prop := ((gCs vs = true ∧ vs ≠ []) → z = (mostC vs (vs.length - 1)).x0 ∧ x = true) ∧ (¬ (gCs vs = true ∧ vs ≠ []) → z = 0 ∧ x = false)
theorem mostA_ex (vs : List TCargo) : ∃ z x, MostA vs z x := by
  by_cases h : gCs vs = true ∧ vs ≠ []
  · exact ⟨_, true, fun _ => ⟨rfl, rfl⟩, fun k => absurd h k⟩
  · exact ⟨0, false, fun k => absurd k h, fun _ => ⟨rfl, rfl⟩⟩
theorem mostC_step {vs : List TCargo} {k : Nat} {V M : TCargo} (hV : vs.getD (k + 1) noCargo = V) (hM : mostC vs k = M) : mostC vs (k + 1) = if MoreD V M then V else M := by
  rw [mostC, hV, hM]

set_option maxRecDepth 100000 in
set_option maxHeartbeats 2000000 in
theorem minC_any {w : World} {B : Nat} {A : Option Addr} {n : Nat} {vs : List TCargo} (c : Nat) (h : IsCargos w B A n vs) (h0 : 0 < n) (hm : n ≤ 1048576) (R0 R1 R2 : Int) (hR : mostC vs (n - 1) = ⟨R0, R1, R2⟩) :
    Calls Try.prog 78 #[.slice A n c, .func (.func 79) #[] #[]] w fun e w' => e = .returned (.agg #[.int .i64 R0, .int .i64 R1, .int .i64 R2]) ∧ Below w.heap.size w w' := by
  have HI := Lib.hid h
  have HR := Lib.hid hR
  have CC := Lib.hid (fun (i l q i2 l2 q2 : Int) (W : World) => (cmpC_any i l q i2 l2 q2 W).mono (fun e w' h => (⟨h.1, h.2.b⟩ : e = .returned (.int .i64 (or3 (cmpI q2 q) (cmpI l2 l) (cmpI i i2))) ∧ Below W.heap.size W w')))
  obtain ⟨a1, rfl, hab, HV⟩ := h.has.Cargo (k := 0) (by rw [h.len]; exact h0)
  have HM0 : Hid (mostC vs 0 = vs.getD 0 noCargo) := Lib.hid rfl
  obtain ⟨V, hV⟩ : ∃ V, vs.getD 0 noCargo = V := ⟨_, rfl⟩
  rw [hV] at HV HM0
  obtain ⟨i0, l0, q0⟩ := V
  obtain ⟨e0, e1, e2⟩ := HV
  have hz : a1.add (0 * 3) = a1 := rfl
  rw [hz] at e0 e1 e2
  dsimp only at e0 e1 e2
  have hn1 : ¬ ((n : Int) < 1) := by omega
  have hn0 : (0 : Int) < (n : Int) := by omega
  obtain ⟨g4, hg4⟩ : ∃ g, w.heap.size = g := ⟨_, rfl⟩
  obtain ⟨W1, hW1⟩ : ∃ W, w.alloc (.cells #[.int .i64 0, .int .i64 0, .int .i64 0] 40) = W := ⟨_, rfl⟩
  have hW1s : W1.heap.size = g4 + 1 := by rw [← hW1, ← hg4]; simp
  obtain ⟨W2, hW2⟩ : ∃ W, W1.alloc (.cells #[.int .i64 i0, .int .i64 l0, .int .i64 q0] 40) = W := ⟨_, rfl⟩
  have P4 : Hid (BoxC W2 g4 0 0 0) := Lib.hid (by
    rw [← hW2, ← hW1, ← hg4]
    exact (BoxC.new w 0 0 0).all (below1 _ _))
  have P5 : Hid (BoxC W2 (g4 + 1) i0 l0 q0) := Lib.hid (by
    rw [← hW2, ← hW1s]
    exact BoxC.new W1 i0 l0 q0)
  have HB2 : Hid (Below w.heap.size w W2) := Lib.hid (by rw [← hW2, ← hW1]; exact below2 _ _ _)
  have f0 : W1.cell? a1 = some (.int .i64 i0) := by rw [← hW1]; exact ((below1 w _).cell (World.block_lt_of_cell? _ _ e0)).trans e0
  have f1 : W1.cell? ⟨a1.block, a1.off + 1, none⟩ = some (.int .i64 l0) := by rw [← hW1]; exact ((below1 w _).cell (World.block_lt_of_cell? _ _ e1)).trans e1
  have f2 : W1.cell? ⟨a1.block, a1.off + 2, none⟩ = some (.int .i64 q0) := by rw [← hW1]; exact ((below1 w _).cell (World.block_lt_of_cell? _ _ e2)).trans e2
  clear h hR hV e0 e1 e2 hz
  go_enter Try.func78, Try.ntmps78
  go_wp2_with fail
  try rw [hW1]
  try rw [hW2]
  try rw [hg4]
  clear hW1 hW2 f0 f1 f2
  go_loopw [6] (fun i wr => ∃ (k : Nat) (x y z : Int), k + 1 ≤ n ∧ i = .int .i64 (((k + 1 : Nat) : Int)) ∧ Hid (mostC vs k = ⟨x, y, z⟩) ∧ Hid (BoxC wr (g4 + 1) x y z) ∧ Hid (BoxC wr g4 0 0 0) ∧ Below w.heap.size w wr) (fun i _ => n - (intOf i).toNat)
  case atStart => exact ⟨0, i0, l0, q0, by omega, rfl, HM0, P5, P4, HB2.out⟩
  case round =>
    clear P4 P5 HB2
    obtain ⟨k, x, y, z, hk, rfl, hM, P5, P4, hb⟩ := hrel
    have HB := Lib.hid hb
    obtain ⟨p, hp⟩ : ∃ p, k + 1 = p := ⟨_, rfl⟩
    rw [hp] at hk ⊢
    by_cases hlt : p < n
    · have hkl : p < vs.length := by rw [HI.out.len]; exact hlt
      have HVW := Lib.hid (fun W (hb : Below w.heap.size w W) => (HI.out.below hb HI.out.low).has.Cargo hkl)
      have HST := Lib.hid (fun V (hV : vs.getD p noCargo = V) => mostC_step (vs := vs) (k := k) (V := V) (M := ⟨x, y, z⟩) (by rw [hp]; exact hV) hM.out)
      rw [hp] at HST
      obtain ⟨V, hV⟩ : ∃ V, vs.getD p noCargo = V := ⟨_, rfl⟩
      rw [hV] at HVW
      have HS := Lib.hid (HST.out V hV)
      clear hV HST
      obtain ⟨i, l, q⟩ := V
      obtain ⟨a2, ea2, -, HV⟩ := HVW.out _ hb
      injection ea2 with ea2
      subst ea2
      obtain ⟨e0, e1, e2⟩ := HV
      dsimp only at e0 e1 e2
      have E0 := fun (d : Nat) (os : Array Obj) => cell_regrown e0 d os
      have E1 := fun (d : Nat) (os : Array Obj) => cell_regrown e1 d os
      have E2 := fun (d : Nat) (os : Array Obj) => cell_regrown e2 d os
      have X0 := fun (d : Nat) (os : Array Obj) => cell_regrown P5.out.c0 d os
      have X1 := fun (d : Nat) (os : Array Obj) => cell_regrown P5.out.c1 d os
      have X2 := fun (d : Nat) (os : Array Obj) => cell_regrown P5.out.c2 d os
      have C1 := Lib.hid (fun W => CC.out i l q x y z W)
      have HMD := Lib.hid (moreD_or i l q x y z)
      generalize or3 (cmpI z q) (cmpI y l) (cmpI i x) = o at C1 HMD
      have c1 := fun (dr : Nat) (os : Array Obj) => Calls.regrown_of (w := wr) (d := dr) (os := os) (C1.out _)
      have hp0 : (0 : Int) ≤ (p : Int) := by omega
      have hp1 : (p : Int) < (n : Int) := by omega
      have hg5 := P5.out.lt
      clear e0 e1 e2 hb C1 HI
      by_cases hmd : o < 0
      · have HS2 : Hid (mostC vs p = ⟨i, l, q⟩) := Lib.hid (by rw [HS.out, if_pos (HMD.out.1 hmd)])
        clear HS HMD
        go_wp2_with fail
        refine wp_region_quiet_below (by kernel_rfl) (by kernel_rfl) ?_
        repeat (go_big_quiet_step (first | exact c1 _ _))
        refine wpQuiet_nil ?_
        intro _ hw'
        obtain ⟨⟨dq, osq⟩, hw''⟩ := hw'
        subst hw''
        have HBX := Lib.hid (HB.out.trans ((below_regrown wr dq osq).mono HB.out.size))
        have P5x := Lib.hid (P5.out.all (below_regrown wr dq osq))
        have P4x := Lib.hid (P4.out.all (below_regrown wr dq osq))
        obtain ⟨W3, hW3⟩ : ∃ W, grow (redrawn wr dq) osq = W := ⟨_, rfl⟩
        rw [hW3] at HBX P5x P4x
        try simp only [hW3]
        obtain ⟨a2, ea2, -, HV⟩ := HVW.out _ HBX.out
        injection ea2 with ea2
        subst ea2
        obtain ⟨e0, e1, e2⟩ := HV
        dsimp only at e0 e1 e2
        have f0 := P5x.out.fz 0
        have f1 := P5x.out.fz 1
        have f2 := P5x.out.fz 2
        have y0 := P5x.out.c0
        have y1 := P5x.out.c1
        have y2 := P5x.out.c2
        clear E0 E1 E2 X0 X1 X2 c1 hW3 P5 P4 HB HVW
        go_wp2_with fail
        go_roundw
        case rel => exact ⟨p, i, l, q, by omega, by go_num, HS2, Lib.hid (P5x.out.sets i l q), Lib.hid (((P4x.out.kept (grown_setC _ _ _ _) (by simp)).kept (grown_setC _ _ _ _) (by simp)).kept (grown_setC _ _ _ _) (by simp)), sets3_below HBX.out (by omega) _ _ _⟩
        case measure => simp [intOf]; omega
      · have HS2 : Hid (mostC vs p = ⟨x, y, z⟩) := Lib.hid (by rw [HS.out, if_neg (fun h => hmd (HMD.out.2 h))])
        clear HS HMD
        go_wp2_with fail
        refine wp_region_quiet_below (by kernel_rfl) (by kernel_rfl) ?_
        repeat (go_big_quiet_step (first | exact c1 _ _))
        refine wpQuiet_nil ?_
        intro _ hw'
        obtain ⟨⟨dq, osq⟩, hw''⟩ := hw'
        subst hw''
        have HBX := Lib.hid (HB.out.trans ((below_regrown wr dq osq).mono HB.out.size))
        have P5x := Lib.hid (P5.out.all (below_regrown wr dq osq))
        have P4x := Lib.hid (P4.out.all (below_regrown wr dq osq))
        obtain ⟨W3, hW3⟩ : ∃ W, grow (redrawn wr dq) osq = W := ⟨_, rfl⟩
        rw [hW3] at HBX P5x P4x
        try simp only [hW3]
        clear E0 E1 E2 X0 X1 X2 c1 hW3 P5 P4 HB HVW
        go_wp2_with fail
        go_roundw
        case rel => exact ⟨p, x, y, z, by omega, by go_num, HS2, P5x, P4x, HBX.out⟩
        case measure => simp [intOf]; omega
    · obtain rfl : p = n := by omega
      have hnn : p - 1 = k := by omega
      have hRR := HR.out
      rw [hnn, hM.out] at hRR
      injection hRR with r0 r1 r2
      subst r0 r1 r2
      have e0 := P5.out.c0
      have e1 := P5.out.c1
      have e2 := P5.out.c2
      have f0 := P4.out.fz 0
      have f1 := P4.out.fz 1
      have f2 := P4.out.fz 2
      have y0 := P4.out.c0
      have y1 := P4.out.c1
      have y2 := P4.out.c2
      clear hb HI CC
      go_wp2_with fail
      refine bodyPost_ret (results_rowC rfl _ _ g4 _ _ rfl (P4.out.sets x y z).rangeAt Try.underlying40 rfl (by kernel_rfl)) rfl ?_
      exact ⟨rfl, sets3_below HB.out (by omega) _ _ _⟩
set_option maxHeartbeats 2000000 in
theorem mostI_any {w : World} {B : Nat} {A : Option Addr} {n : Nat} {vs : List TCargo} (c : Nat) (h : IsCargos w B A n vs) (hm : n ≤ 1048576) (hnc : n ≤ c) (z : Int) (x : Bool) (hA : MostA vs z x) :
    Calls Try.prog 36 #[.slice A n c] w fun e w' => e = .returned (.tuple #[.int .i64 z, .bool x]) ∧ Below w.heap.size w w' := by
  have C := Lib.hid (isCargoList_any c h (Nat.le_trans hm (by unfold maxLen; omega)) hnc)
  have HI := Lib.hid h
  have HNO := Lib.hid hA.2
  have HYES := Lib.hid hA.1
  obtain ⟨G, hG⟩ : ∃ G, gCs vs = G := ⟨_, rfl⟩
  rw [hG] at HNO HYES C
  clear h hA hG
  go_enter Try.func36, Try.ntmps36
  go_wp2_with fail
  refine C.out.mono ?_
  rintro e w1 ⟨rfl, hb⟩
  have HB1 := Lib.hid hb
  clear hb C
  cases G with
  | false =>
    obtain ⟨rfl, rfl⟩ := HNO.out (fun h => nomatch h.1)
    clear HNO HYES
    go_wp2_with fail
    refine bodyPost_ret (results_tmp2 rfl _ _ _) rfl ?_
    exact ⟨rfl, HB1.out⟩
  | true =>
  rcases Nat.eq_zero_or_pos n with h0 | h0
  · obtain ⟨rfl, rfl⟩ := HNO.out (fun h => h.2 (List.eq_nil_of_length_eq_zero (by rw [HI.out.len]; exact h0)))
    subst h0
    clear HNO HYES
    go_wp2_with fail
    refine bodyPost_ret (results_tmp2 rfl _ _ _) rfl ?_
    exact ⟨rfl, HB1.out⟩
  · obtain ⟨hz, rfl⟩ := HYES.out ⟨rfl, fun e => by have := HI.out.len; rw [e] at this; simp at this; omega⟩
    rw [HI.out.len] at hz
    obtain ⟨M, hM⟩ : ∃ M, mostC vs (n - 1) = M := ⟨_, rfl⟩
    rw [hM] at hz
    obtain ⟨m0, m1, m2⟩ := M
    obtain rfl : z = m0 := hz
    have CM := Lib.hid (minC_any c (HI.out.below HB1.out HI.out.low) h0 hm z m1 m2 hM)
    have hn0 : ((n : Int) == 0) = false := by simp; omega
    clear HNO HYES hM h0
    go_wp2_with fail
    refine CM.out.mono ?_
    rintro e w2 ⟨rfl, hb⟩
    have HB2 := Lib.hid ((HB1.out.trans (hb.mono HB1.out.size)).trans ((below1 w2 (.cells #[.int .i64 z, .int .i64 m1, .int .i64 m2] 40)).mono (Nat.le_trans HB1.out.size hb.size)))
    clear hb CM HB1
    go_wp2_with fail
    refine bodyPost_ret (results_tmp2 rfl _ _ _) rfl ?_
    exact ⟨rfl, HB2.out⟩
set_option maxRecDepth 100000 in
set_option maxHeartbeats 4000000 in
theorem mostS_any {w : World} {B : Nat} {A : Option Addr} {n : Nat} {vs : List TCargo} (c : Nat) (h : IsCargos w B A n vs) (hm : n ≤ 1048576) (z9 : Int) (x9 : Bool) (hA : MostA vs z9 x9) :
    Calls Try.prog 37 #[.slice A n c] w fun e w' => e = .returned (.tuple #[.int .i64 z9, .bool x9]) ∧ Below w.heap.size w w' := by
  have C := Lib.hid (l7Good_any c h (Nat.le_trans hm (by unfold maxLen; omega)))
  have HI := Lib.hid h
  have HNO := Lib.hid hA.2
  have HYES := Lib.hid hA.1
  obtain ⟨G, hG⟩ : ∃ G, gCs vs = G := ⟨_, rfl⟩
  rw [hG] at HNO HYES C
  clear h hA hG
  go_enter Try.func37, Try.ntmps37
  go_wp2_with fail
  refine C.out.mono ?_
  rintro e w1 ⟨rfl, hb⟩
  have HB1 := Lib.hid hb
  clear hb C
  cases G with
  | false =>
    obtain ⟨rfl, rfl⟩ := HNO.out (fun h => nomatch h.1)
    clear HNO HYES
    go_wp2_with fail
    refine bodyPost_ret (results_tmp2 rfl _ _ _) rfl ?_
    exact ⟨rfl, HB1.out⟩
  | true =>
  rcases Nat.eq_zero_or_pos n with h0 | h0
  · obtain ⟨rfl, rfl⟩ := HNO.out (fun h => h.2 (List.eq_nil_of_length_eq_zero (by rw [HI.out.len]; exact h0)))
    subst h0
    clear HNO HYES
    go_wp2_with fail
    refine bodyPost_ret (results_tmp2 rfl _ _ _) rfl ?_
    exact ⟨rfl, HB1.out⟩
  obtain ⟨hz, rfl⟩ := HYES.out ⟨rfl, fun e => by have := HI.out.len; rw [e] at this; simp at this; omega⟩
  rw [HI.out.len] at hz
  have HZ := Lib.hid hz
  clear hz
  obtain ⟨a1, rfl, hab, HV⟩ := (HI.out.below HB1.out HI.out.low).has.Cargo (k := 0) (by rw [HI.out.len]; exact h0)
  have HM0 : Hid (mostC vs 0 = vs.getD 0 noCargo) := Lib.hid rfl
  obtain ⟨V, hV⟩ : ∃ V, vs.getD 0 noCargo = V := ⟨_, rfl⟩
  rw [hV] at HV HM0
  obtain ⟨i0, l0, q0⟩ := V
  obtain ⟨e0, e1, e2⟩ := HV
  have hz : a1.add (0 * 3) = a1 := rfl
  rw [hz] at e0 e1 e2
  dsimp only at e0 e1 e2
  have hn1 : ((n : Int) == 0) = false := by simp; omega
  have hn0 : (0 : Int) < (n : Int) := by omega
  clear HNO HYES hV hz
  go_wp2_with fail
  obtain ⟨g4, hg4⟩ : ∃ g, w1.heap.size = g := ⟨_, rfl⟩
  obtain ⟨W2, hW2⟩ : ∃ W, w1.alloc (.cells #[.int .i64 i0, .int .i64 l0, .int .i64 q0] 40) = W := ⟨_, rfl⟩
  have P4 : Hid (BoxC W2 g4 i0 l0 q0) := Lib.hid (by
    rw [← hW2, ← hg4]
    exact BoxC.new w1 i0 l0 q0)
  have HB2 : Hid (Below w.heap.size w W2) := Lib.hid (by rw [← hW2]; exact HB1.out.trans ((below1 _ _).mono HB1.out.size))
  have hgw : w.heap.size ≤ g4 := by rw [← hg4]; exact HB1.out.size
  try rw [hW2]
  try rw [hg4]
  clear hW2 hg4 e0 e1 e2 HB1
  go_loopw [5] (fun i wr => ∃ (k : Nat) (x y z : Int), k + 1 ≤ n ∧ i = .int .i64 (((k + 1 : Nat) : Int)) ∧ Hid (mostC vs k = ⟨x, y, z⟩) ∧ Hid (BoxC wr g4 x y z) ∧ Below w.heap.size w wr) (fun i _ => n - (intOf i).toNat)
  case atStart => exact ⟨0, i0, l0, q0, by omega, rfl, HM0, P4, HB2.out⟩
  case round =>
    clear P4 HB2 HM0
    obtain ⟨k, x, y, z, hk, rfl, hM, P4, hb⟩ := hrel
    have HB := Lib.hid hb
    obtain ⟨p, hp⟩ : ∃ p, k + 1 = p := ⟨_, rfl⟩
    rw [hp] at hk ⊢
    by_cases hlt : p < n
    · have hkl : p < vs.length := by rw [HI.out.len]; exact hlt
      have HST := Lib.hid (fun V (hV : vs.getD p noCargo = V) => mostC_step (vs := vs) (k := k) (V := V) (M := ⟨x, y, z⟩) (by rw [hp]; exact hV) hM.out)
      rw [hp] at HST
      obtain ⟨a2, ea2, -, HV⟩ := (HI.out.below hb HI.out.low).has.Cargo hkl
      injection ea2 with ea2
      subst ea2
      obtain ⟨V, hV⟩ : ∃ V, vs.getD p noCargo = V := ⟨_, rfl⟩
      rw [hV] at HV
      have HS := Lib.hid (HST.out V hV)
      clear hV HST
      obtain ⟨i, l, q⟩ := V
      obtain ⟨e0, e1, e2⟩ := HV
      dsimp only at e0 e1 e2
      have hp0 : (0 : Int) ≤ (p : Int) := by omega
      have hp1 : (p : Int) < (n : Int) := by omega
      have hg5 := P4.out.lt
      have P6 := BoxC.new wr i l q
      have P4x := Lib.hid (P4.out.all (below1 wr (.cells #[.int .i64 i, .int .i64 l, .int .i64 q] 40)))
      have HBX := Lib.hid (HB.out.trans ((below1 wr (.cells #[.int .i64 i, .int .i64 l, .int .i64 q] 40)).mono HB.out.size))
      obtain ⟨xb, hxb⟩ : ∃ g, wr.heap.size = g := ⟨_, rfl⟩
      obtain ⟨W3, hW3⟩ : ∃ W, wr.alloc (.cells #[.int .i64 i, .int .i64 l, .int .i64 q] 40) = W := ⟨_, rfl⟩
      rw [hW3, hxb] at P6
      rw [hW3] at P4x HBX
      have hne4 : g4 ≠ xb := by omega
      have f0 := P4x.out.fz 0
      have f1 := P4x.out.fz 1
      have f2 := P4x.out.fz 2
      have y0 := P4x.out.c0
      have y1 := P4x.out.c1
      have y2 := P4x.out.c2
      have x0 := P6.c0
      have x1 := P6.c1
      have x2 := P6.c2
      clear hb P4 HB P6 HI
      rcases Int.lt_trichotomy q z with h1 | h1 | h1
      · have h2 : (q == z) = false := by simp; omega
        have h3 : ¬ q > z := by omega
        have hMD : ¬ MoreD ⟨i, l, q⟩ ⟨x, y, z⟩ := by unfold MoreD; dsimp only; omega
        have HS2 : Hid (mostC vs p = ⟨x, y, z⟩) := Lib.hid (by rw [HS.out, if_neg hMD])
        clear HS hMD
        go_wp2_with fail
        go_roundw
        case rel => exact ⟨p, x, y, z, by omega, by go_num, HS2, P4x, HBX.out⟩
        case measure => simp [intOf]; omega
      · subst h1
        have h2 : (q == q) = true := by simp
        have h3 : ¬ q > q := by omega
        rcases Int.lt_trichotomy l y with h4 | h4 | h4
        · have h5 : (l == y) = false := by simp; omega
          have h6 : ¬ l > y := by omega
          have hMD : ¬ MoreD ⟨i, l, q⟩ ⟨x, y, q⟩ := by unfold MoreD; dsimp only; omega
          have HS2 : Hid (mostC vs p = ⟨x, y, q⟩) := Lib.hid (by rw [HS.out, if_neg hMD])
          clear HS hMD
          go_wp2_with fail
          go_roundw
          case rel => exact ⟨p, x, y, q, by omega, by go_num, HS2, P4x, HBX.out⟩
          case measure => simp [intOf]; omega
        · subst h4
          have h5 : (l == l) = true := by simp
          have h6 : ¬ l > l := by omega
          by_cases h7 : i < x
          · skip
            have hMD : MoreD ⟨i, l, q⟩ ⟨x, l, q⟩ := by unfold MoreD; dsimp only; omega
            have HS2 : Hid (mostC vs p = ⟨i, l, q⟩) := Lib.hid (by rw [HS.out, if_pos hMD])
            clear HS hMD
            go_wp2_with fail
            go_roundw
            case rel => exact ⟨p, i, l, q, by omega, by go_num, HS2, Lib.hid (P4x.out.sets i l q), sets3_below HBX.out (by omega) _ _ _⟩
            case measure => simp [intOf]; omega
          · skip
            have hMD : ¬ MoreD ⟨i, l, q⟩ ⟨x, l, q⟩ := by unfold MoreD; dsimp only; omega
            have HS2 : Hid (mostC vs p = ⟨x, l, q⟩) := Lib.hid (by rw [HS.out, if_neg hMD])
            clear HS hMD
            go_wp2_with fail
            go_roundw
            case rel => exact ⟨p, x, l, q, by omega, by go_num, HS2, P4x, HBX.out⟩
            case measure => simp [intOf]; omega
        · have h6 : l > y := by omega
          have hMD : MoreD ⟨i, l, q⟩ ⟨x, y, q⟩ := by unfold MoreD; dsimp only; omega
          have HS2 : Hid (mostC vs p = ⟨i, l, q⟩) := Lib.hid (by rw [HS.out, if_pos hMD])
          clear HS hMD
          go_wp2_with fail
          go_roundw
          case rel => exact ⟨p, i, l, q, by omega, by go_num, HS2, Lib.hid (P4x.out.sets i l q), sets3_below HBX.out (by omega) _ _ _⟩
          case measure => simp [intOf]; omega
      · have h3 : q > z := by omega
        have hMD : MoreD ⟨i, l, q⟩ ⟨x, y, z⟩ := by unfold MoreD; dsimp only; omega
        have HS2 : Hid (mostC vs p = ⟨i, l, q⟩) := Lib.hid (by rw [HS.out, if_pos hMD])
        clear HS hMD
        go_wp2_with fail
        go_roundw
        case rel => exact ⟨p, i, l, q, by omega, by go_num, HS2, Lib.hid (P4x.out.sets i l q), sets3_below HBX.out (by omega) _ _ _⟩
        case measure => simp [intOf]; omega
    · obtain rfl : p = n := by omega
      have hnn : p - 1 = k := by omega
      have hRR := HZ.out
      rw [hnn, hM.out] at hRR
      obtain rfl : z9 = x := hRR
      have e0 := P4.out.c0
      clear hb HI HZ
      go_wp2_with fail
      refine bodyPost_ret (results_tmp2 rfl _ _ _) rfl ?_
      exact ⟨rfl, HB.out⟩
end Go.Proofs.Ytacpmckdfddmeaa
