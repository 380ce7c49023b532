/- No command leads to a state that is not safe, and never are two gates open: FnInterlocks answers true at all bytes, and leaves them as they were. -/
import Derived.Test.YtmnagjjpncancaaLoW
import Derived.Test.YtmnagjjpncancaaLoX
import Derived.Test.YtmnagjjpncancaaBig
import Derived.Test.YtmnagjjpncancaaSt0
import Derived.OpenShut
import Derived.ShutString
import Derived.ChangeOld
import Derived.WalkLawsBesides
import Derived.Lib.SmallJoins
namespace Go.Proofs.Ytmnagjjpncancaa.fnInterlocks
open Go.ChangeShapes Go.WideShapes Go.ChangeAt Go.RowKit Go.PlainAid Go.Sort
open Go.ChangeMaps (open_string shut_string)
set_option linter.unusedVariables false
set_option linter.unusedSimpArgs false

theorem join_k {P : Program} {x y : Code} {Q : Exit → Act → World → Prop} {K R : Act → World → Prop} (hk : ∀ a w, (Code.seq x y).wp P Q a w → K a w) (hr : ∀ a w, R a w → y.wp P Q a w) : ∀ a w, x.wp P (Exit.then R Q) a w → K a w :=
  fun a w h => hk a w (wp_seq (Code.wp_mono (fun e a w q => by
    cases e
    case normal => exact hr _ _ q
    all_goals exact q) h))
set_option maxRecDepth 100000 in
set_option maxHeartbeats 8000000 in
theorem walk (A : Option Addr) (n c : Nat) (zs : List Int) (w : World) (hI : IsInts .u8 w A n zs) :
    Calls Try.prog 11 #[.slice A n c] w fun e w' => e = .returned (.bool true) ∧ Below w.heap.size w w' := by
  by_cases hbig : 65536 < n
  · have CB := Lib.hid (fun W => bigL_yes A n c W hbig hI.2.1)
    clear hI
    go_enter Try.func11, Try.ntmps11
    go_wp2_with fail
    refine (CB.out _).mono ?_
    rintro e w0 ⟨rfl, rfl⟩
    go_wp2_with fail
    go_ret
    exact ⟨rfl, Below.refl _ _⟩
  have HC := Lib.hid (Code_.of hI (by omega))
  have CB := Lib.hid (fun W => bigL_no A n c W (by omega))
  clear hI hbig
  go_enter Try.func11, Try.ntmps11
  go_wp2_with fail
  refine (CB.out _).mono ?_
  rintro e w0 ⟨rfl, rfl⟩
  clear CB
  go_wp2_with fail
  refine (drawStep c HC.out).mono ?_
  rintro e w1 ⟨l, u, v, a, b, cc, d, k, hk0, hk1, rfl, hb⟩
  obtain ⟨T0, T1, T2, T3, T4, T5, T6, x, hT⟩ := ansL_ex (stepL ⟨l, u, v, a, b, cc, d⟩ k)
  have HT := Lib.hid hT
  have HB1 := Lib.hid (hb.alloc hb.size (.cells #[.int .i64 l, .int .i64 u, .int .i64 v, .bool a, .bool b, .bool cc, .bool d] 23))
  have QS1 := Lib.hid (BoxL.new w1 l u v a b cc d)
  clear hb hT
  have s0 := QS1.out.c0
  have s1 := QS1.out.c1
  have s2 := QS1.out.c2
  have s3 := QS1.out.c3
  have s4 := QS1.out.c4
  have s5 := QS1.out.c5
  have s6 := QS1.out.c6
  go_wp2_with fail
  refine (stepI_any l u v a b cc d k T0 T1 T2 T3 T4 T5 T6 x HT.out _).mono ?_
  rintro e w2 ⟨rfl, hb⟩
  have HB2 := Lib.hid ((HB1.out.trans (hb.mono HB1.out.size)).alloc (HB1.out.trans (hb.mono HB1.out.size)).size (.cells #[.int .i64 T0, .int .i64 T1, .int .i64 T2, .bool T3, .bool T4, .bool T5, .bool T6] 23))
  have QS2 := Lib.hid ((QS1.out.all hb).all (below1 w2 (.cells #[.int .i64 T0, .int .i64 T1, .int .i64 T2, .bool T3, .bool T4, .bool T5, .bool T6] 23)))
  have QT2 := Lib.hid (BoxL.new w2 T0 T1 T2 T3 T4 T5 T6)
  obtain ⟨xs, hxs⟩ : ∃ y, w1.heap.size = y := ⟨_, rfl⟩
  rw [hxs] at QS2
  simp only [hxs]
  clear hb HB1 QS1 s0 s1 s2 s3 s4 s5 s6 hxs
  have s0 := QS2.out.c0
  have s1 := QS2.out.c1
  have s2 := QS2.out.c2
  have s3 := QS2.out.c3
  have s4 := QS2.out.c4
  have s5 := QS2.out.c5
  have s6 := QS2.out.c6
  go_wp2_with fail
  refine (stepS_any l u v a b cc d k T0 T1 T2 T3 T4 T5 T6 x HT.out _).mono ?_
  rintro e w3 ⟨rfl, hb⟩
  have HB3 := Lib.hid ((HB2.out.trans (hb.mono HB2.out.size)).alloc (HB2.out.trans (hb.mono HB2.out.size)).size (.cells #[.int .i64 T0, .int .i64 T1, .int .i64 T2, .bool T3, .bool T4, .bool T5, .bool T6] 23))
  have QS3 := Lib.hid ((QS2.out.all hb).all (below1 w3 (.cells #[.int .i64 T0, .int .i64 T1, .int .i64 T2, .bool T3, .bool T4, .bool T5, .bool T6] 23)))
  have QT3 := Lib.hid ((QT2.out.all hb).all (below1 w3 (.cells #[.int .i64 T0, .int .i64 T1, .int .i64 T2, .bool T3, .bool T4, .bool T5, .bool T6] 23)))
  have QW3 := Lib.hid (BoxL.new w3 T0 T1 T2 T3 T4 T5 T6)
  obtain ⟨xt, hxt⟩ : ∃ y, w2.heap.size = y := ⟨_, rfl⟩
  rw [hxt] at QT3
  simp only [hxt]
  clear hb HB2 QS2 QT2 s0 s1 s2 s3 s4 s5 s6 hxt
  go_wp2_with fail
  obtain ⟨wR, hwR⟩ : ∃ W, w3.alloc (.cells #[.int .i64 T0, .int .i64 T1, .int .i64 T2, .bool T3, .bool T4, .bool T5, .bool T6] 23) = W := ⟨_, rfl⟩
  obtain ⟨xw, hxw⟩ : ∃ y, w3.heap.size = y := ⟨_, rfl⟩
  rw [hxw] at QW3
  rw [hwR] at HB3 QS3 QT3 QW3 ⊢
  try simp only [hxw]
  clear hwR hxw
  have es0 := fun (dr : Nat) (os : Array Obj) => cell_regrown QS3.out.c0 dr os
  have es1 := fun (dr : Nat) (os : Array Obj) => cell_regrown QS3.out.c1 dr os
  have es2 := fun (dr : Nat) (os : Array Obj) => cell_regrown QS3.out.c2 dr os
  have es3 := fun (dr : Nat) (os : Array Obj) => cell_regrown QS3.out.c3 dr os
  have es4 := fun (dr : Nat) (os : Array Obj) => cell_regrown QS3.out.c4 dr os
  have es5 := fun (dr : Nat) (os : Array Obj) => cell_regrown QS3.out.c5 dr os
  have es6 := fun (dr : Nat) (os : Array Obj) => cell_regrown QS3.out.c6 dr os
  have et0 := fun (dr : Nat) (os : Array Obj) => cell_regrown QT3.out.c0 dr os
  have et1 := fun (dr : Nat) (os : Array Obj) => cell_regrown QT3.out.c1 dr os
  have et2 := fun (dr : Nat) (os : Array Obj) => cell_regrown QT3.out.c2 dr os
  have et3 := fun (dr : Nat) (os : Array Obj) => cell_regrown QT3.out.c3 dr os
  have et4 := fun (dr : Nat) (os : Array Obj) => cell_regrown QT3.out.c4 dr os
  have et5 := fun (dr : Nat) (os : Array Obj) => cell_regrown QT3.out.c5 dr os
  have et6 := fun (dr : Nat) (os : Array Obj) => cell_regrown QT3.out.c6 dr os
  have ew0 := fun (dr : Nat) (os : Array Obj) => cell_regrown QW3.out.c0 dr os
  have ew1 := fun (dr : Nat) (os : Array Obj) => cell_regrown QW3.out.c1 dr os
  have ew2 := fun (dr : Nat) (os : Array Obj) => cell_regrown QW3.out.c2 dr os
  have ew3 := fun (dr : Nat) (os : Array Obj) => cell_regrown QW3.out.c3 dr os
  have ew4 := fun (dr : Nat) (os : Array Obj) => cell_regrown QW3.out.c4 dr os
  have ew5 := fun (dr : Nat) (os : Array Obj) => cell_regrown QW3.out.c5 dr os
  have ew6 := fun (dr : Nat) (os : Array Obj) => cell_regrown QW3.out.c6 dr os
  obtain ⟨G, hG⟩ : ∃ G, goodL ⟨l, u, v, a, b, cc, d⟩ = G := ⟨_, rfl⟩
  have C1 := Lib.hid (fun W => safeI_any l u v a b cc d W)
  have C2 := Lib.hid (fun W => safeS_any l u v a b cc d W)
  rw [hG] at C1 C2
  have c1 := fun (dr : Nat) (os : Array Obj) => Calls.regrown_of (w := wR) (d := dr) (os := os) (C1.out _)
  have c2 := fun (dr : Nat) (os : Array Obj) => Calls.regrown_of (w := wR) (d := dr) (os := os) (C2.out _)
  clear C1 C2
  have hxx : (x != x) = false := by simp
  have hGG : (G != G) = false := by simp
  clear hG
  refine wp_region_quiet_below (by kernel_rfl) (by kernel_rfl) ?_
  repeat (go_big_quiet_step (first | (go_at_call 18; exact c1 _ _) | (go_at_call 16; exact c2 _ _)))
  refine wpQuiet_nil ?_
  intro _ hw'
  obtain ⟨⟨dq, osq⟩, hw''⟩ := hw'
  subst hw''
  have HB4 := Lib.hid (HB3.out.trans ((below_regrown wR dq osq).mono HB3.out.size))
  have QS4 := Lib.hid (QS3.out.all (below_regrown wR dq osq))
  have QT4 := Lib.hid (QT3.out.all (below_regrown wR dq osq))
  obtain ⟨w4, hw4⟩ : ∃ x, grow (redrawn wR dq) osq = x := ⟨_, rfl⟩
  rw [hw4] at HB4 QS4 QT4 ⊢
  clear hw4 es0 es1 es2 es3 es4 es5 es6 et0 et1 et2 et3 et4 et5 et6 ew0 ew1 ew2 ew3 ew4 ew5 ew6 c1 c2 HB3 QS3 QT3 QW3 hGG
  rename ∀ (a' : Act) (w' : World), Code.wp Try.prog (((Code.region 8 _ _).seq _).seq ((Code.region 20 _ _).seq _)) _ a' w' → _ => HK8
  obtain ⟨RJ, hRJ⟩ : ∃ R : Act → World → Prop, R = fun a' w' => ∃ U : Nat → Value, a' = { tmps := #[Value.slice A n c, undef, Value.bool false, U 3, U 4, U 5, U 6, U 7, U 8, U 9, U 10, U 11, U 12, U 13, U 14, U 15, undef, undef, undef, undef, undef, undef, undef, undef, undef, undef, undef, undef, undef, undef, undef, undef, U 32, U 33, U 34, U 35, U 36, U 37, U 38, U 39, U 40, U 41, U 42, U 43, U 44, U 45, U 46, U 47, U 48, U 49, U 50, U 51, U 52, U 53, U 54, U 55, U 56, U 57, U 58, U 59, U 60, U 61, U 62, U 63, U 64, U 65, U 66, U 67, U 68, U 69, U 70, U 71, U 72, U 73, U 74, U 75, U 76, U 77, U 78, U 79, U 80, U 81, U 82, U 83, U 84, U 85, U 86, U 87, U 88, U 89, U 90, U 91, U 92, U 93, U 94, U 95, U 96, U 97, U 98, U 99, U 100, U 101, U 102, U 103, U 104, U 105, U 106, U 107, U 108, U 109, U 110, U 111, U 112, U 113, U 114, U 115, U 116, U 117, U 118, U 119, U 120, U 121, U 122, U 123, U 124, U 125, U 126, U 127, U 128, U 129, U 130, U 131, U 132, U 133, U 134, U 135, U 136, U 137, U 138, U 139, U 140, U 141, U 142, U 143, U 144, U 145, U 146, U 147, U 148, U 149, U 150, U 151, U 152, undef, undef, undef, undef, undef, undef, undef, undef, undef, undef, undef, undef, undef, undef, undef, undef, undef, undef, undef, undef, undef, undef, undef, undef, undef, undef, undef, undef, undef, undef, undef, undef, undef, undef, undef, undef, undef, undef, undef, undef, undef, undef, undef, undef, undef, undef, undef, undef, undef, undef, undef, undef, undef, undef, undef, undef, undef, undef, undef, undef, undef, undef, undef, undef, undef, undef, undef, undef, undef, undef, undef, undef, undef, undef, undef, undef, undef, undef, undef, undef, undef, undef], defers := [] } ∧ Hid (Below w.heap.size w w') := ⟨_, rfl⟩
  have HRJ := Lib.hid (show ∀ (tm : Array Value) (W : World), tm = #[Value.slice A n c, undef, Value.bool false, tm.getD 3 undef, tm.getD 4 undef, tm.getD 5 undef, tm.getD 6 undef, tm.getD 7 undef, tm.getD 8 undef, tm.getD 9 undef, tm.getD 10 undef, tm.getD 11 undef, tm.getD 12 undef, tm.getD 13 undef, tm.getD 14 undef, tm.getD 15 undef, undef, undef, undef, undef, undef, undef, undef, undef, undef, undef, undef, undef, undef, undef, undef, undef, tm.getD 32 undef, tm.getD 33 undef, tm.getD 34 undef, tm.getD 35 undef, tm.getD 36 undef, tm.getD 37 undef, tm.getD 38 undef, tm.getD 39 undef, tm.getD 40 undef, tm.getD 41 undef, tm.getD 42 undef, tm.getD 43 undef, tm.getD 44 undef, tm.getD 45 undef, tm.getD 46 undef, tm.getD 47 undef, tm.getD 48 undef, tm.getD 49 undef, tm.getD 50 undef, tm.getD 51 undef, tm.getD 52 undef, tm.getD 53 undef, tm.getD 54 undef, tm.getD 55 undef, tm.getD 56 undef, tm.getD 57 undef, tm.getD 58 undef, tm.getD 59 undef, tm.getD 60 undef, tm.getD 61 undef, tm.getD 62 undef, tm.getD 63 undef, tm.getD 64 undef, tm.getD 65 undef, tm.getD 66 undef, tm.getD 67 undef, tm.getD 68 undef, tm.getD 69 undef, tm.getD 70 undef, tm.getD 71 undef, tm.getD 72 undef, tm.getD 73 undef, tm.getD 74 undef, tm.getD 75 undef, tm.getD 76 undef, tm.getD 77 undef, tm.getD 78 undef, tm.getD 79 undef, tm.getD 80 undef, tm.getD 81 undef, tm.getD 82 undef, tm.getD 83 undef, tm.getD 84 undef, tm.getD 85 undef, tm.getD 86 undef, tm.getD 87 undef, tm.getD 88 undef, tm.getD 89 undef, tm.getD 90 undef, tm.getD 91 undef, tm.getD 92 undef, tm.getD 93 undef, tm.getD 94 undef, tm.getD 95 undef, tm.getD 96 undef, tm.getD 97 undef, tm.getD 98 undef, tm.getD 99 undef, tm.getD 100 undef, tm.getD 101 undef, tm.getD 102 undef, tm.getD 103 undef, tm.getD 104 undef, tm.getD 105 undef, tm.getD 106 undef, tm.getD 107 undef, tm.getD 108 undef, tm.getD 109 undef, tm.getD 110 undef, tm.getD 111 undef, tm.getD 112 undef, tm.getD 113 undef, tm.getD 114 undef, tm.getD 115 undef, tm.getD 116 undef, tm.getD 117 undef, tm.getD 118 undef, tm.getD 119 undef, tm.getD 120 undef, tm.getD 121 undef, tm.getD 122 undef, tm.getD 123 undef, tm.getD 124 undef, tm.getD 125 undef, tm.getD 126 undef, tm.getD 127 undef, tm.getD 128 undef, tm.getD 129 undef, tm.getD 130 undef, tm.getD 131 undef, tm.getD 132 undef, tm.getD 133 undef, tm.getD 134 undef, tm.getD 135 undef, tm.getD 136 undef, tm.getD 137 undef, tm.getD 138 undef, tm.getD 139 undef, tm.getD 140 undef, tm.getD 141 undef, tm.getD 142 undef, tm.getD 143 undef, tm.getD 144 undef, tm.getD 145 undef, tm.getD 146 undef, tm.getD 147 undef, tm.getD 148 undef, tm.getD 149 undef, tm.getD 150 undef, tm.getD 151 undef, tm.getD 152 undef, undef, undef, undef, undef, undef, undef, undef, undef, undef, undef, undef, undef, undef, undef, undef, undef, undef, undef, undef, undef, undef, undef, undef, undef, undef, undef, undef, undef, undef, undef, undef, undef, undef, undef, undef, undef, undef, undef, undef, undef, undef, undef, undef, undef, undef, undef, undef, undef, undef, undef, undef, undef, undef, undef, undef, undef, undef, undef, undef, undef, undef, undef, undef, undef, undef, undef, undef, undef, undef, undef, undef, undef, undef, undef, undef, undef, undef, undef, undef, undef, undef, undef] → Hid (Below w.heap.size w W) → RJ { tmps := tm, defers := [] } W from fun tm W h hb => by
    rw [hRJ]
    exact ⟨fun i => tm.getD i undef, congrArg (fun t => ({ tmps := t, defers := [] } : Act)) h, hb⟩)
  have HK := join_k (R := RJ) HK8 (fun a' w' h => by
    rw [hRJ] at h
    obtain ⟨U, rfl, HBW⟩ := h
    clear hRJ HRJ HK8
    clear HT QS4 QT4 HB4 hk0 hk1
    go_wp2_with fail
    refine (drawRun c (HC.out.on HBW.out)).mono ?_
    rintro e w5 ⟨l, u, v, a, b, cc, d, g1, q, c1, rfl, hq61, ⟨L, hg, ho⟩, hb⟩
    have hLq : L.length = q := by have := ho.1; simpa using this
    have HLq := Lib.hid hLq
    have HHas := Lib.hid (own_hasv ho)
    obtain ⟨R0, R1, R2, R3, R4, R5, R6, m, y, hR⟩ := ansR_ex (goodL ⟨l, u, v, a, b, cc, d⟩ = true ∧ q ≤ 60) (runL ⟨l, u, v, a, b, cc, d⟩ L)
    have HR' := Lib.hid hR
    have HB5 := Lib.hid ((HBW.out.trans (hb.mono HBW.out.size)).alloc (HBW.out.trans (hb.mono HBW.out.size)).size (.cells #[.int .i64 l, .int .i64 u, .int .i64 v, .bool a, .bool b, .bool cc, .bool d] 23))
    have QX := Lib.hid (BoxL.new w5 l u v a b cc d)
    have hqm : q ≤ maxLen := by unfold maxLen; omega
    clear hb ho hg hR hLq HBW
    have s0 := QX.out.c0
    have s1 := QX.out.c1
    have s2 := QX.out.c2
    have s3 := QX.out.c3
    have s4 := QX.out.c4
    have s5 := QX.out.c5
    have s6 := QX.out.c6
    go_wp2_with fail
    refine (runI_any l u v a b cc d (some ⟨g1, 0, none⟩) q c1 w5.heap.size L R0 R1 R2 R3 R4 R5 R6 m y HR'.out _ HLq.out hqm (by simp) (HHas.out.alloc (Nat.le_refl _) _)).mono ?_
    rintro e w6 ⟨rfl, hb⟩
    have HB6 := Lib.hid ((HB5.out.trans (hb.mono HB5.out.size)).alloc (HB5.out.trans (hb.mono HB5.out.size)).size (.cells #[.int .i64 R0, .int .i64 R1, .int .i64 R2, .bool R3, .bool R4, .bool R5, .bool R6] 23))
    have QX6 := Lib.hid ((QX.out.all hb).all (below1 w6 (.cells #[.int .i64 R0, .int .i64 R1, .int .i64 R2, .bool R3, .bool R4, .bool R5, .bool R6] 23)))
    have QR := Lib.hid (BoxL.new w6 R0 R1 R2 R3 R4 R5 R6)
    have h56 : w5.heap.size ≤ w6.heap.size := by have := hb.size; simp at this; omega
    have HHas6 := Lib.hid ((HHas.out.alloc (Nat.le_refl _) (.cells #[.int .i64 l, .int .i64 u, .int .i64 v, .bool a, .bool b, .bool cc, .bool d] 23)).below (hb.mono (by simp)))
    clear hb HB5 QX HHas s0 s1 s2 s3 s4 s5 s6
    have s0 := QX6.out.c0
    have s1 := QX6.out.c1
    have s2 := QX6.out.c2
    have s3 := QX6.out.c3
    have s4 := QX6.out.c4
    have s5 := QX6.out.c5
    have s6 := QX6.out.c6
    go_wp2_with fail
    refine (runS_any l u v a b cc d (some ⟨g1, 0, none⟩) q c1 w5.heap.size L R0 R1 R2 R3 R4 R5 R6 m y HR'.out _ HLq.out hqm (by simp; omega) (HHas6.out.alloc h56 _)).mono ?_
    rintro e w7 ⟨rfl, hb⟩
    have HB7 := Lib.hid ((HB6.out.trans (hb.mono HB6.out.size)).alloc (HB6.out.trans (hb.mono HB6.out.size)).size (.cells #[.int .i64 R0, .int .i64 R1, .int .i64 R2, .bool R3, .bool R4, .bool R5, .bool R6] 23))
    have QR7 := Lib.hid ((QR.out.all hb).all (below1 w7 (.cells #[.int .i64 R0, .int .i64 R1, .int .i64 R2, .bool R3, .bool R4, .bool R5, .bool R6] 23)))
    have QV7 := Lib.hid (BoxL.new w7 R0 R1 R2 R3 R4 R5 R6)
    have HHas7 := Lib.hid ((HHas6.out.alloc h56 (.cells #[.int .i64 R0, .int .i64 R1, .int .i64 R2, .bool R3, .bool R4, .bool R5, .bool R6] 23)).below (hb.mono (by simp; omega)))
    have h57 : w5.heap.size ≤ w7.heap.size := by have := hb.size; simp at this; omega
    obtain ⟨xr, hxr⟩ : ∃ z, w6.heap.size = z := ⟨_, rfl⟩
    rw [hxr] at QR7
    simp only [hxr]
    clear hb HB6 QX6 QR HHas6 s0 s1 s2 s3 s4 s5 s6 hxr
    have s0 := QR7.out.c0
    have s1 := QR7.out.c1
    have s2 := QR7.out.c2
    have s3 := QR7.out.c3
    have s4 := QR7.out.c4
    have s5 := QR7.out.c5
    have s6 := QR7.out.c6
    have t0 := QV7.out.c0
    have t1 := QV7.out.c1
    have t2 := QV7.out.c2
    have t3 := QV7.out.c3
    have t4 := QV7.out.c4
    have t5 := QV7.out.c5
    have t6 := QV7.out.c6
    have hmm : (m != m) = false := by simp
    have hyy : (y != y) = false := by simp
    cases y with
    | false =>
      have HBz := HB7
      clear HR' HHas7 HB7 QR7 QV7
      go_wp2_with fail
      refine (drawNew c (HC.out.on HBz.out)).mono ?_
      rintro e w11 ⟨lo, hi, rfl, hb⟩
      obtain ⟨N0, N1, N2, N3, N4, N5, N6, xn, hN⟩ := ansL_ex (newL lo hi)
      have HN := Lib.hid hN
      have HB11 := Lib.hid (HBz.out.trans (hb.mono HBz.out.size))
      clear hb hN HBz
      go_wp2_with fail
      refine (newI_any lo hi N0 N1 N2 N3 N4 N5 N6 xn HN.out _).mono ?_
      rintro e w12 ⟨rfl, hb⟩
      have HB12 := Lib.hid ((HB11.out.trans (hb.mono HB11.out.size)).alloc (HB11.out.trans (hb.mono HB11.out.size)).size (.cells #[.int .i64 N0, .int .i64 N1, .int .i64 N2, .bool N3, .bool N4, .bool N5, .bool N6] 23))
      have QN := Lib.hid (BoxL.new w12 N0 N1 N2 N3 N4 N5 N6)
      clear hb HB11
      go_wp2_with fail
      refine (newS_any lo hi N0 N1 N2 N3 N4 N5 N6 xn HN.out _).mono ?_
      rintro e w13 ⟨rfl, hb⟩
      have HB13 := Lib.hid ((HB12.out.trans (hb.mono HB12.out.size)).alloc (HB12.out.trans (hb.mono HB12.out.size)).size (.cells #[.int .i64 N0, .int .i64 N1, .int .i64 N2, .bool N3, .bool N4, .bool N5, .bool N6] 23))
      have QN2 := Lib.hid ((QN.out.all hb).all (below1 w13 (.cells #[.int .i64 N0, .int .i64 N1, .int .i64 N2, .bool N3, .bool N4, .bool N5, .bool N6] 23)))
      have QM2 := Lib.hid (BoxL.new w13 N0 N1 N2 N3 N4 N5 N6)
      clear hb HB12 QN HN
      have s0 := QN2.out.c0
      have s1 := QN2.out.c1
      have s2 := QN2.out.c2
      have s3 := QN2.out.c3
      have s4 := QN2.out.c4
      have s5 := QN2.out.c5
      have s6 := QN2.out.c6
      have t0 := QM2.out.c0
      have t1 := QM2.out.c1
      have t2 := QM2.out.c2
      have t3 := QM2.out.c3
      have t4 := QM2.out.c4
      have t5 := QM2.out.c5
      have t6 := QM2.out.c6
      have hxn : (xn == xn) = true := by simp
      go_wp2_with fail
      refine bodyPost_ret (results_tmp rfl _ _ _) rfl ?_
      exact ⟨ret_bool (by simp), HB13.out⟩
    | true =>
      rcases HR'.out with ⟨⟨hgs, hq60⟩, hp, hpm, -⟩ | ⟨-, -, -, h⟩
      · have hgR : goodL ⟨R0, R1, R2, R3, R4, R5, R6⟩ = true := by have := runL_good L _ hgs; rw [hp] at this; exact this
        have CG := Lib.hid (fun W => safeI_any R0 R1 R2 R3 R4 R5 R6 W)
        rw [hgR] at CG
        have hstop := runL_stops L ⟨l, u, v, a, b, cc, d⟩
        rw [hp] at hstop
        obtain ⟨m9, hm9⟩ : ∃ k, (runL ⟨l, u, v, a, b, cc, d⟩ L).2 = k := ⟨_, rfl⟩
        rw [hm9] at hstop hpm
        subst hpm
        have HST := Lib.hid hstop
        clear hgs hp hgR HR' hm9 hstop
        go_wp2_with fail
        refine (CG.out _).mono ?_
        rintro e w8 ⟨rfl, hb⟩
        have HB8 := Lib.hid (HB7.out.trans (hb.mono HB7.out.size))
        have QR8 := Lib.hid (QR7.out.all hb)
        have HHas8 := Lib.hid ((HHas7.out.alloc h57 (.cells #[.int .i64 R0, .int .i64 R1, .int .i64 R2, .bool R3, .bool R4, .bool R5, .bool R6] 23)).below (hb.mono (by simp; omega)))
        have h58 : w5.heap.size ≤ w8.heap.size := by have := hb.size; simp at this; omega
        clear hb HB7 QR7 QV7 HHas7 CG s0 s1 s2 s3 s4 s5 s6 t0 t1 t2 t3 t4 t5 t6
        by_cases hlt : m9 < q
        · have hml : m9 < L.length := by rw [HLq.out]; exact hlt
          obtain ⟨aS, hae, hab, he1⟩ := HHas8.out.intAt hml
          have hno : stepL ⟨R0, R1, R2, R3, R4, R5, R6⟩ L[m9] = none := by have := HST.out hml; rw [getD_at hml] at this; exact this
          generalize L[m9] = z at he1 hno
          have CS2 := Lib.hid (fun W => stepI_any R0 R1 R2 R3 R4 R5 R6 z 0 0 0 false false false false false (.inr ⟨hno, ⟨rfl, rfl, rfl, rfl, rfl, rfl, rfl⟩, rfl⟩) W)
          have hm0 : (0 : Int) ≤ (m9 : Int) := by omega
          have hm1 : (m9 : Int) < (q : Int) := by omega
          injection hae with hae
          subst hae
          have he2 : w8.cell? ⟨g1, m9, none⟩ = some (.int .i64 z) := by
            have : (⟨g1, 0, none⟩ : Addr).add m9 = ⟨g1, m9, none⟩ := by unfold Addr.add; split <;> simp_all
            rw [this] at he1
            exact he1
          have HAB := Lib.hid (show (⟨g1, m9, none⟩ : Addr).block < w8.heap.size from World.block_lt_of_cell? _ _ he2)
          have HE1 := Lib.hid he2
          clear hab he1 he2 hno HST HHas8 hml
          have s0 := QR8.out.c0
          have s1 := QR8.out.c1
          have s2 := QR8.out.c2
          have s3 := QR8.out.c3
          have s4 := QR8.out.c4
          have s5 := QR8.out.c5
          have s6 := QR8.out.c6
          have ee := HE1.out
          go_wp2_with fail
          clear s0 s1 s2 s3 s4 s5 s6 ee
          refine region_inv (by kernel_rfl) (by kernel_rfl) (fun Fl9 ac W => ∃ (x201 x202 x203 x204 x205 x206 x200 x207 x208 x24 x25 : Value), ac = { tmps := #[Value.slice A n c, undef, Value.bool false, U 3, U 4, U 5, U 6, U 7, U 8, U 9, U 10, U 11, U 12, U 13, U 14, U 15, Value.pointer (some ⟨w5.heap.size, 0, none⟩), Value.slice (some ⟨g1, 0, none⟩) q c1, Value.pointer (some ⟨xr, 0, none⟩), Value.int IntKind.i64 (m9 : Int), Value.bool true, Value.pointer (some ⟨w7.heap.size, 0, none⟩), Value.int IntKind.i64 (m9 : Int), Value.bool true, x24, x25, undef, undef, undef, undef, undef, undef, U 32, U 33, U 34, U 35, U 36, U 37, U 38, U 39, U 40, U 41, U 42, U 43, U 44, U 45, U 46, U 47, U 48, U 49, U 50, U 51, U 52, U 53, U 54, U 55, U 56, U 57, U 58, U 59, U 60, U 61, U 62, U 63, U 64, U 65, U 66, U 67, U 68, U 69, U 70, U 71, U 72, U 73, U 74, U 75, U 76, U 77, U 78, U 79, U 80, U 81, U 82, U 83, U 84, U 85, U 86, U 87, U 88, U 89, U 90, U 91, U 92, U 93, U 94, U 95, U 96, U 97, U 98, U 99, U 100, U 101, U 102, U 103, U 104, U 105, U 106, U 107, U 108, U 109, U 110, U 111, U 112, U 113, U 114, U 115, U 116, U 117, U 118, U 119, U 120, U 121, U 122, U 123, U 124, U 125, U 126, U 127, U 128, U 129, U 130, U 131, U 132, U 133, U 134, U 135, U 136, U 137, U 138, U 139, U 140, U 141, U 142, U 143, U 144, U 145, U 146, U 147, U 148, U 149, U 150, U 151, U 152, Value.tuple #[Value.agg #[Value.int IntKind.i64 l, Value.int IntKind.i64 u, Value.int IntKind.i64 v, Value.bool a, Value.bool b, Value.bool cc, Value.bool d], Value.slice (some ⟨g1, 0, none⟩) q c1], Value.slice A n c, Value.tuple #[Value.agg #[Value.int IntKind.i64 l, Value.int IntKind.i64 u, Value.int IntKind.i64 v, Value.bool a, Value.bool b, Value.bool cc, Value.bool d], Value.slice (some ⟨g1, 0, none⟩) q c1], Value.agg #[Value.int IntKind.i64 l, Value.int IntKind.i64 u, Value.int IntKind.i64 v, Value.bool a, Value.bool b, Value.bool cc, Value.bool d], Value.slice (some ⟨g1, 0, none⟩) q c1, Value.tuple #[Value.agg #[Value.int IntKind.i64 R0, Value.int IntKind.i64 R1, Value.int IntKind.i64 R2, Value.bool R3, Value.bool R4, Value.bool R5, Value.bool R6], Value.int IntKind.i64 (m9 : Int), Value.bool true], Value.agg #[Value.int IntKind.i64 l, Value.int IntKind.i64 u, Value.int IntKind.i64 v, Value.bool a, Value.bool b, Value.bool cc, Value.bool d], Value.slice (some ⟨g1, 0, none⟩) q c1, Value.tuple #[Value.agg #[Value.int IntKind.i64 R0, Value.int IntKind.i64 R1, Value.int IntKind.i64 R2, Value.bool R3, Value.bool R4, Value.bool R5, Value.bool R6], Value.int IntKind.i64 (m9 : Int), Value.bool true], Value.agg #[Value.int IntKind.i64 R0, Value.int IntKind.i64 R1, Value.int IntKind.i64 R2, Value.bool R3, Value.bool R4, Value.bool R5, Value.bool R6], Value.int IntKind.i64 (m9 : Int), Value.bool true, Value.tuple #[Value.agg #[Value.int IntKind.i64 R0, Value.int IntKind.i64 R1, Value.int IntKind.i64 R2, Value.bool R3, Value.bool R4, Value.bool R5, Value.bool R6], Value.int IntKind.i64 (m9 : Int), Value.bool true], Value.agg #[Value.int IntKind.i64 l, Value.int IntKind.i64 u, Value.int IntKind.i64 v, Value.bool a, Value.bool b, Value.bool cc, Value.bool d], Value.slice (some ⟨g1, 0, none⟩) q c1, Value.tuple #[Value.agg #[Value.int IntKind.i64 R0, Value.int IntKind.i64 R1, Value.int IntKind.i64 R2, Value.bool R3, Value.bool R4, Value.bool R5, Value.bool R6], Value.int IntKind.i64 (m9 : Int), Value.bool true], Value.agg #[Value.int IntKind.i64 R0, Value.int IntKind.i64 R1, Value.int IntKind.i64 R2, Value.bool R3, Value.bool R4, Value.bool R5, Value.bool R6], Value.int IntKind.i64 (m9 : Int), Value.bool true, Value.agg #[Value.int IntKind.i64 R0, Value.int IntKind.i64 R1, Value.int IntKind.i64 R2, Value.bool R3, Value.bool R4, Value.bool R5, Value.bool R6], Value.agg #[Value.int IntKind.i64 R0, Value.int IntKind.i64 R1, Value.int IntKind.i64 R2, Value.bool R3, Value.bool R4, Value.bool R5, Value.bool R6], Value.bool false, Value.bool false, Value.int IntKind.i64 (m9 : Int), Value.int IntKind.i64 (m9 : Int), Value.bool false, Value.bool false, Value.bool false, Value.bool true, Value.bool true, Value.bool false, Value.bool false, Value.bool false, Value.bool true, Value.bool true, Value.agg #[Value.int IntKind.i64 R0, Value.int IntKind.i64 R1, Value.int IntKind.i64 R2, Value.bool R3, Value.bool R4, Value.bool R5, Value.bool R6], Value.bool true, Value.bool false, Value.bool false, Value.bool false, Value.bool true, Value.bool true, Value.int IntKind.i64 (m9 : Int), Value.slice (some ⟨g1, 0, none⟩) q c1, Value.int IntKind.i64 (q : Int), Value.bool true, Value.bool true, x200, x201, x202, x203, x204, x205, x206, x207, x208, undef, undef, undef, undef, undef, undef, undef, undef, undef, undef, undef, undef, undef, undef, undef, undef, undef, undef, undef, undef, undef, undef, undef, undef, undef, undef], defers := [] } ∧ Below w8.heap.size w8 W ∧
                (Fl9 0 = true → x201 = .agg #[.int .i64 R0, .int .i64 R1, .int .i64 R2, .bool R3, .bool R4, .bool R5, .bool R6]) ∧
                (Fl9 1 = true → x202 = .slice (some ⟨g1, 0, none⟩) q c1) ∧
                (Fl9 2 = true → x203 = .int .i64 (m9 : Int)) ∧
                (Fl9 3 = true → x204 = .pointer (some ⟨g1, m9, none⟩)) ∧
                (Fl9 4 = true → x205 = .int .i64 z) ∧
                (Fl9 5 = true → x206 = .tuple #[.agg #[.int .i64 0, .int .i64 0, .int .i64 0, .bool false, .bool false, .bool false, .bool false], .bool false]) ∧
                (Fl9 6 = true → x200 = .tuple #[.agg #[.int .i64 0, .int .i64 0, .int .i64 0, .bool false, .bool false, .bool false, .bool false], .bool false]) ∧
                (Fl9 7 = true → x207 = .agg #[.int .i64 0, .int .i64 0, .int .i64 0, .bool false, .bool false, .bool false, .bool false]) ∧
                (Fl9 8 = true → x208 = .bool false) ∧
                (Fl9 9 = true → ∃ g, x24 = .pointer (some ⟨g, 0, none⟩) ∧ w8.heap.size ≤ g ∧ ∃ l0 l1 l2 l3 l4 l5 l6, BoxL W g l0 l1 l2 l3 l4 l5 l6) ∧
                (Fl9 10 = true → ∃ g, x24 = .pointer (some ⟨g, 0, none⟩) ∧ w8.heap.size ≤ g ∧ BoxL W g 0 0 0 false false false false) ∧
                (Fl9 11 = true → x25 = .bool false) ∧
                (Fl9 10 = true → Fl9 9 = true)) ?_ ?_ ?_
          · exact ⟨_, _, _, _, _, _, _, _, _, _, _, rfl, (Drawn.one w8 1).below _, (fun q0 => nomatch q0), (fun q0 => nomatch q0), (fun q0 => nomatch q0), (fun q0 => nomatch q0), (fun q0 => nomatch q0), (fun q0 => nomatch q0), (fun q0 => nomatch q0), (fun q0 => nomatch q0), (fun q0 => nomatch q0), (fun q0 => nomatch q0), (fun q0 => nomatch q0), (fun q0 => nomatch q0), (fun q0 => nomatch q0)⟩
          · intro Fl9 ac W i9 o9 hJ ho hL hdep K9 hK
            obtain ⟨x201, x202, x203, x204, x205, x206, x200, x207, x208, x24, x25, rfl, hB, hh0, hh1, hh2, hh3, hh4, hh5, hh6, hh7, hh8, hh9, hh10, hh11, hx0⟩ := hJ
            have hi9 : i9 < 12 := by simpa using (Array.getElem?_eq_some_iff.1 ho).1
            have QW := QR8.out.all hB
            have C0 := QW.c0
            have C1 := QW.c1
            have C2 := QW.c2
            have C3 := QW.c3
            have C4 := QW.c4
            have C5 := QW.c5
            have C6 := QW.c6
            have CE := (hB.cell HAB.out).trans HE1.out
            clear QW
            obtain rfl | rfl | rfl | rfl | rfl | rfl | rfl | rfl | rfl | rfl | rfl | rfl : i9 = 0 ∨ i9 = 1 ∨ i9 = 2 ∨ i9 = 3 ∨ i9 = 4 ∨ i9 = 5 ∨ i9 = 6 ∨ i9 = 7 ∨ i9 = 8 ∨ i9 = 9 ∨ i9 = 10 ∨ i9 = 11 := by omega
            · -- operation 0
              cases ho
              go_simp
              exact hK _ _ ⟨_, _, _, _, _, _, _, _, _, _, _, rfl, hB, fun _ => rfl, hh1, hh2, hh3, hh4, hh5, hh6, hh7, hh8, hh9, hh10, hh11, hx0⟩
            · -- operation 1
              cases ho
              go_simp
              exact hK _ _ ⟨_, _, _, _, _, _, _, _, _, _, _, rfl, hB, hh0, fun _ => rfl, hh2, hh3, hh4, hh5, hh6, hh7, hh8, hh9, hh10, hh11, hx0⟩
            · -- operation 2
              cases ho
              go_simp
              exact hK _ _ ⟨_, _, _, _, _, _, _, _, _, _, _, rfl, hB, hh0, hh1, fun _ => rfl, hh3, hh4, hh5, hh6, hh7, hh8, hh9, hh10, hh11, hx0⟩
            · -- operation 3
              cases ho
              obtain rfl := hh1 (hdep ⟨1, .data⟩ (by simp) rfl)
              obtain rfl := hh2 (hdep ⟨2, .data⟩ (by simp) rfl)
              go_simp
              exact hK _ _ ⟨_, _, _, _, _, _, _, _, _, _, _, rfl, hB, hh0, hh1, hh2, fun _ => rfl, hh4, hh5, hh6, hh7, hh8, hh9, hh10, hh11, hx0⟩
            · -- operation 4
              cases ho
              obtain rfl := hh3 (hdep ⟨3, .data⟩ (by simp) rfl)
              go_simp
              exact hK _ _ ⟨_, _, _, _, _, _, _, _, _, _, _, rfl, hB, hh0, hh1, hh2, hh3, fun _ => rfl, hh5, hh6, hh7, hh8, hh9, hh10, hh11, hx0⟩
            · -- operation 5
              cases ho
              obtain rfl := hh0 (hdep ⟨0, .data⟩ (by simp) rfl)
              obtain rfl := hh4 (hdep ⟨4, .data⟩ (by simp) rfl)
              go_simp
              refine (CS2.out W).mono ?_
              rintro e w9 ⟨rfl, hb9⟩
              exact hK _ _ ⟨_, _, _, _, _, _, _, _, _, _, _, rfl, hB.trans (hb9.mono hB.size), hh0, hh1, hh2, hh3, hh4, fun _ => rfl, hh6, hh7, hh8, fun q0 => (fun ⟨g, e, hg, a0, a1, a2, a3, a4, a5, a6, h⟩ => ⟨g, e, hg, a0, a1, a2, a3, a4, a5, a6, h.all hb9⟩) (hh9 q0), fun q0 => (fun ⟨g, e, hg, h⟩ => ⟨g, e, hg, h.all hb9⟩) (hh10 q0), hh11, hx0⟩
            · -- operation 6
              cases ho
              have hd5 := hdep ⟨5, .data⟩ (by simp) rfl
              obtain rfl := hh5 hd5
              go_simp
              exact hK _ _ ⟨_, _, _, _, _, _, _, _, _, _, _, rfl, hB, hh0, hh1, hh2, hh3, hh4, hh5, fun _ => rfl, hh7, hh8, hh9, hh10, hh11, hx0⟩
            · -- operation 7
              cases ho
              obtain rfl := hh6 (hdep ⟨6, .data⟩ (by simp) rfl)
              go_simp
              exact hK _ _ ⟨_, _, _, _, _, _, _, _, _, _, _, rfl, hB, hh0, hh1, hh2, hh3, hh4, hh5, hh6, fun _ => rfl, hh8, hh9, hh10, hh11, hx0⟩
            · -- operation 8
              cases ho
              obtain rfl := hh6 (hdep ⟨6, .data⟩ (by simp) rfl)
              go_simp
              exact hK _ _ ⟨_, _, _, _, _, _, _, _, _, _, _, rfl, hB, hh0, hh1, hh2, hh3, hh4, hh5, hh6, hh7, fun _ => rfl, hh9, hh10, hh11, hx0⟩
            · -- operation 9
              cases ho
              go_simp
              exact hK _ _ ⟨_, _, _, _, _, _, _, _, _, _, _, rfl, hB.trans ((Below.alloc (Below.refl W.heap.size W) (Nat.le_refl _) _).mono hB.size), hh0, hh1, hh2, hh3, hh4, hh5, hh6, hh7, hh8, fun _ => ⟨_, rfl, hB.size, _, _, _, _, _, _, _, BoxL.new W _ _ _ _ _ _ _⟩, (fun q0 => absurd (hx0 q0) (by rw [hL]; simp)), hh11, fun _ => rfl⟩
            · -- operation 10
              cases ho
              obtain rfl := hh7 (hdep ⟨7, .data⟩ (by simp) rfl)
              have hd9 := hdep ⟨9, .data⟩ (by simp) rfl
              obtain ⟨g9, rfl, hg9, z0, z1, z2, z3, z4, z5, z6, hbx⟩ := hh9 hd9
              have i0 := hbx.c0
              have i1 := hbx.c1
              have i2 := hbx.c2
              have i3 := hbx.c3
              have i4 := hbx.c4
              have i5 := hbx.c5
              have i6 := hbx.c6
              have j0 := hbx.fz 0
              have j1 := hbx.fz 1
              have j2 := hbx.fz 2
              have j3 := hbx.fz 3
              have j4 := hbx.fz 4
              have j5 := hbx.fz 5
              have j6 := hbx.fz 6
              go_simp
              exact hK _ _ ⟨_, _, _, _, _, _, _, _, _, _, _, rfl, sets7_below hB hg9 _ _ _ _ _ _ _, hh0, hh1, hh2, hh3, hh4, hh5, hh6, hh7, hh8, fun _ => ⟨g9, rfl, hg9, _, _, _, _, _, _, _, hbx.sets _ _ _ _ _ _ _⟩, fun _ => ⟨g9, rfl, hg9, hbx.sets _ _ _ _ _ _ _⟩, hh11, fun _ => hd9⟩
            · -- operation 11
              cases ho
              obtain rfl := hh8 (hdep ⟨8, .data⟩ (by simp) rfl)
              go_simp
              exact hK _ _ ⟨_, _, _, _, _, _, _, _, _, _, _, rfl, hB, hh0, hh1, hh2, hh3, hh4, hh5, hh6, hh7, hh8, hh9, hh10, fun _ => rfl, hx0⟩
          intro Fl9 ac W hJ hall
          obtain ⟨x201, x202, x203, x204, x205, x206, x200, x207, x208, x24, x25, rfl, hB, hh0, hh1, hh2, hh3, hh4, hh5, hh6, hh7, hh8, hh9, hh10, hh11, -⟩ := hJ
          obtain rfl := hh0 (hall 0 (by decide))
          obtain rfl := hh1 (hall 1 (by decide))
          obtain rfl := hh2 (hall 2 (by decide))
          obtain rfl := hh3 (hall 3 (by decide))
          obtain rfl := hh4 (hall 4 (by decide))
          obtain rfl := hh6 (hall 6 (by decide))
          obtain rfl := hh7 (hall 7 (by decide))
          obtain rfl := hh8 (hall 8 (by decide))
          obtain rfl := hh11 (hall 11 (by decide))
          obtain rfl := hh5 (hall 5 (by decide))
          obtain ⟨gf, rfl, hgf, -⟩ := hh9 (hall 9 (by decide))
          obtain ⟨gz, ez, -, hbf⟩ := hh10 (hall 10 (by decide))
          clear hall
          obtain rfl : gf = gz := by injection ez with ez; injection ez with ez; injection ez with ez _ _
          clear ez
          have HBz := Lib.hid (HB8.out.trans (hB.mono HB8.out.size))
          clear hB hbf HB8 QR8 CS2 HAB HE1
          go_wp2_with fail
          refine (drawNew c (HC.out.on HBz.out)).mono ?_
          rintro e w11 ⟨lo, hi, rfl, hb⟩
          obtain ⟨N0, N1, N2, N3, N4, N5, N6, xn, hN⟩ := ansL_ex (newL lo hi)
          have HN := Lib.hid hN
          have HB11 := Lib.hid (HBz.out.trans (hb.mono HBz.out.size))
          clear hb hN HBz
          go_wp2_with fail
          refine (newI_any lo hi N0 N1 N2 N3 N4 N5 N6 xn HN.out _).mono ?_
          rintro e w12 ⟨rfl, hb⟩
          have HB12 := Lib.hid ((HB11.out.trans (hb.mono HB11.out.size)).alloc (HB11.out.trans (hb.mono HB11.out.size)).size (.cells #[.int .i64 N0, .int .i64 N1, .int .i64 N2, .bool N3, .bool N4, .bool N5, .bool N6] 23))
          have QN := Lib.hid (BoxL.new w12 N0 N1 N2 N3 N4 N5 N6)
          clear hb HB11
          go_wp2_with fail
          refine (newS_any lo hi N0 N1 N2 N3 N4 N5 N6 xn HN.out _).mono ?_
          rintro e w13 ⟨rfl, hb⟩
          have HB13 := Lib.hid ((HB12.out.trans (hb.mono HB12.out.size)).alloc (HB12.out.trans (hb.mono HB12.out.size)).size (.cells #[.int .i64 N0, .int .i64 N1, .int .i64 N2, .bool N3, .bool N4, .bool N5, .bool N6] 23))
          have QN2 := Lib.hid ((QN.out.all hb).all (below1 w13 (.cells #[.int .i64 N0, .int .i64 N1, .int .i64 N2, .bool N3, .bool N4, .bool N5, .bool N6] 23)))
          have QM2 := Lib.hid (BoxL.new w13 N0 N1 N2 N3 N4 N5 N6)
          clear hb HB12 QN HN
          have s0 := QN2.out.c0
          have s1 := QN2.out.c1
          have s2 := QN2.out.c2
          have s3 := QN2.out.c3
          have s4 := QN2.out.c4
          have s5 := QN2.out.c5
          have s6 := QN2.out.c6
          have t0 := QM2.out.c0
          have t1 := QM2.out.c1
          have t2 := QM2.out.c2
          have t3 := QM2.out.c3
          have t4 := QM2.out.c4
          have t5 := QM2.out.c5
          have t6 := QM2.out.c6
          have hxn : (xn == xn) = true := by simp
          go_wp2_with fail
          refine bodyPost_ret (results_tmp rfl _ _ _) rfl ?_
          exact ⟨ret_bool (by simp), HB13.out⟩
        · have hm1 : ¬ (m9 : Int) < (q : Int) := by omega
          have HBz := HB8
          clear HST HHas8 QR8 HB8
          go_wp2_with fail
          refine (drawNew c (HC.out.on HBz.out)).mono ?_
          rintro e w11 ⟨lo, hi, rfl, hb⟩
          obtain ⟨N0, N1, N2, N3, N4, N5, N6, xn, hN⟩ := ansL_ex (newL lo hi)
          have HN := Lib.hid hN
          have HB11 := Lib.hid (HBz.out.trans (hb.mono HBz.out.size))
          clear hb hN HBz
          go_wp2_with fail
          refine (newI_any lo hi N0 N1 N2 N3 N4 N5 N6 xn HN.out _).mono ?_
          rintro e w12 ⟨rfl, hb⟩
          have HB12 := Lib.hid ((HB11.out.trans (hb.mono HB11.out.size)).alloc (HB11.out.trans (hb.mono HB11.out.size)).size (.cells #[.int .i64 N0, .int .i64 N1, .int .i64 N2, .bool N3, .bool N4, .bool N5, .bool N6] 23))
          have QN := Lib.hid (BoxL.new w12 N0 N1 N2 N3 N4 N5 N6)
          clear hb HB11
          go_wp2_with fail
          refine (newS_any lo hi N0 N1 N2 N3 N4 N5 N6 xn HN.out _).mono ?_
          rintro e w13 ⟨rfl, hb⟩
          have HB13 := Lib.hid ((HB12.out.trans (hb.mono HB12.out.size)).alloc (HB12.out.trans (hb.mono HB12.out.size)).size (.cells #[.int .i64 N0, .int .i64 N1, .int .i64 N2, .bool N3, .bool N4, .bool N5, .bool N6] 23))
          have QN2 := Lib.hid ((QN.out.all hb).all (below1 w13 (.cells #[.int .i64 N0, .int .i64 N1, .int .i64 N2, .bool N3, .bool N4, .bool N5, .bool N6] 23)))
          have QM2 := Lib.hid (BoxL.new w13 N0 N1 N2 N3 N4 N5 N6)
          clear hb HB12 QN HN
          have s0 := QN2.out.c0
          have s1 := QN2.out.c1
          have s2 := QN2.out.c2
          have s3 := QN2.out.c3
          have s4 := QN2.out.c4
          have s5 := QN2.out.c5
          have s6 := QN2.out.c6
          have t0 := QM2.out.c0
          have t1 := QM2.out.c1
          have t2 := QM2.out.c2
          have t3 := QM2.out.c3
          have t4 := QM2.out.c4
          have t5 := QM2.out.c5
          have t6 := QM2.out.c6
          have hxn : (xn == xn) = true := by simp
          go_wp2_with fail
          refine bodyPost_ret (results_tmp rfl _ _ _) rfl ?_
          exact ⟨ret_bool (by simp), HB13.out⟩
      · cases h)
  clear HK8 hRJ
  cases x with
  | false =>
    clear HT QS4 QT4
    go_wp2_with fail
    exact HRJ.out _ _ rfl HB4
  | true =>
    rcases HT.out with ⟨hs, -⟩ | ⟨-, -, h⟩
    rotate_left
    · cases h
    have hg2 := (stepL_good hs).2.1
    have hcm := step_cmd hs
    have hlv := goodL_levs hg2
    have hif := (goodL_iff _).1 hg2
    dsimp only at hlv hif
    obtain ⟨-, h34, -, -, -, hg5, hh5⟩ := hif
    obtain ⟨p1, hp1⟩ : ∃ y, T2 - T0 = y := ⟨_, rfl⟩
    obtain ⟨p2, hp2⟩ : ∃ y, T1 - T2 = y := ⟨_, rfl⟩
    have CH0 := Lib.hid (fun W => headI_any T0 T1 T2 T3 T4 T5 T6 false p1 true (.inl ⟨by unfold headO; rw [if_pos hg2]; simp [headL, hp1], rfl⟩) W)
    have CH1 := Lib.hid (fun W => headI_any T0 T1 T2 T3 T4 T5 T6 true p2 true (.inl ⟨by unfold headO; rw [if_pos hg2]; simp [headL, hp2], rfl⟩) W)
    have CG := Lib.hid (fun W => safeI_any T0 T1 T2 T3 T4 T5 T6 W)
    rw [hg2] at CG
    have hsum : (p1 + p2 != T1 - T0) = false := by simp; omega
    have hpb : 0 ≤ p1 ∧ p1 ≤ 2000 ∧ 0 ≤ p2 ∧ p2 ≤ 2000 := by omega
    rw [hp1] at hg5
    rw [hp2] at hh5
    obtain ⟨pb0, pb1, pb2, pb3⟩ := hpb
    obtain ⟨lv0, lv1, lv2, lv3⟩ := hlv
    have HS := Lib.hid hs
    clear hs hg2 hp1 hp2 HT
    have t0 := QT4.out.c0
    have t1 := QT4.out.c1
    have t2 := QT4.out.c2
    have t3 := QT4.out.c3
    have t4 := QT4.out.c4
    have t5 := QT4.out.c5
    have t6 := QT4.out.c6
    go_wp2_with fail
    refine (CH0.out _).mono ?_
    rintro e w5 ⟨rfl, hb⟩
    have HB5 := Lib.hid (HB4.out.trans (hb.mono HB4.out.size))
    have QS5 := Lib.hid (QS4.out.all hb)
    have QT5 := Lib.hid (QT4.out.all hb)
    clear hb HB4 QS4 QT4 CH0 t0 t1 t2 t3 t4 t5 t6
    have t0 := QT5.out.c0
    have t1 := QT5.out.c1
    have t2 := QT5.out.c2
    have t3 := QT5.out.c3
    have t4 := QT5.out.c4
    have t5 := QT5.out.c5
    have t6 := QT5.out.c6
    go_wp2_with fail
    refine (CH1.out _).mono ?_
    rintro e w6 ⟨rfl, hb⟩
    have HB6 := Lib.hid (HB5.out.trans (hb.mono HB5.out.size))
    have QS6 := Lib.hid (QS5.out.all hb)
    have QT6 := Lib.hid (QT5.out.all hb)
    clear hb HB5 QS5 QT5 CH1 t0 t1 t2 t3 t4 t5 t6
    have t0 := QT6.out.c0
    have t1 := QT6.out.c1
    have t2 := QT6.out.c2
    have t3 := QT6.out.c3
    have t4 := QT6.out.c4
    have t5 := QT6.out.c5
    have t6 := QT6.out.c6
    go_wp2_with fail
    refine (CG.out _).mono ?_
    rintro e w7 ⟨rfl, hb⟩
    have HB7 := Lib.hid (HB6.out.trans (hb.mono HB6.out.size))
    have QS7 := Lib.hid (QS6.out.all hb)
    have QT7 := Lib.hid (QT6.out.all hb)
    clear hb HB6 QS6 QT6 CG t0 t1 t2 t3 t4 t5 t6
    cases T3 with
    | true =>
      have hp5 : p1 ≤ 5 := hg5 rfl
      cases T4 with
      | true => exact absurd ⟨rfl, rfl⟩ h34
      | false =>
        clear hg5 hh5 h34
        have t0 := QT7.out.c0
        have t1 := QT7.out.c1
        have t2 := QT7.out.c2
        have t3 := QT7.out.c3
        have t4 := QT7.out.c4
        have t5 := QT7.out.c5
        have t6 := QT7.out.c6
        by_cases h9 : k = 9
        · subst h9
          clear HS QS7 hcm
          go_wp2_with fail
          exact HRJ.out _ _ rfl HB7
        · have hk8 : 1 ≤ k ∧ k ≤ 8 := by omega
          have hk9 : (k != 9) = true := by simp [h9]
          have hback := step_back HS.out hk8
          obtain ⟨kk0, kk1⟩ := hk8
          have htm : Int.tmod k 2 = k % 2 := Int.tmod_eq_emod_of_nonneg (by omega)
          by_cases hev : k % 2 = 0
          · rw [show oppL k = k - 1 from if_pos hev] at hback
            have CSB := Lib.hid (fun W => stepI_any T0 T1 T2 true false T5 T6 (k - 1) l u v a b cc d true (.inl ⟨hback, rfl⟩) W)
            have e1 : (k % 2 == 0) = true := by simp [hev]
            have e2 : (k % 2 == 1) = false := by simp [hev]
            have e3 : (Int.tmod k 2 == 0) = true := by rw [htm]; exact e1
            have e4 : (Int.tmod k 2 == 1) = false := by rw [htm]; exact e2
            clear hback HS hev htm h9 hcm
            go_wp2_with fail
            refine (CSB.out _).mono ?_
            rintro e w8 ⟨rfl, hb⟩
            have HB8 := Lib.hid ((HB7.out.trans (hb.mono HB7.out.size)).alloc (HB7.out.trans (hb.mono HB7.out.size)).size (.cells #[.int .i64 l, .int .i64 u, .int .i64 v, .bool a, .bool b, .bool cc, .bool d] 23))
            have QS8 := Lib.hid ((QS7.out.all hb).all (below1 w8 (.cells #[.int .i64 l, .int .i64 u, .int .i64 v, .bool a, .bool b, .bool cc, .bool d] 23)))
            have QB8 := Lib.hid (BoxL.new w8 l u v a b cc d)
            clear hb HB7 QS7 QT7 CSB t0 t1 t2 t3 t4 t5 t6
            have t0 := QS8.out.c0
            have t1 := QS8.out.c1
            have t2 := QS8.out.c2
            have t3 := QS8.out.c3
            have t4 := QS8.out.c4
            have t5 := QS8.out.c5
            have t6 := QS8.out.c6
            have s0 := QB8.out.c0
            have s1 := QB8.out.c1
            have s2 := QB8.out.c2
            have s3 := QB8.out.c3
            have s4 := QB8.out.c4
            have s5 := QB8.out.c5
            have s6 := QB8.out.c6
            go_wp2_with fail
            exact HRJ.out _ _ rfl HB8
          · rw [show oppL k = k + 1 from if_neg hev] at hback
            have CSB := Lib.hid (fun W => stepI_any T0 T1 T2 true false T5 T6 (k + 1) l u v a b cc d true (.inl ⟨hback, rfl⟩) W)
            have h1 : k % 2 = 1 := by omega
            have e1 : (k % 2 == 0) = false := by simp [h1]
            have e2 : (k % 2 == 1) = true := by simp [h1]
            have e3 : (Int.tmod k 2 == 0) = false := by rw [htm]; exact e1
            have e4 : (Int.tmod k 2 == 1) = true := by rw [htm]; exact e2
            clear hback HS hev htm h9 h1 hcm
            go_wp2_with fail
            refine (CSB.out _).mono ?_
            rintro e w8 ⟨rfl, hb⟩
            have HB8 := Lib.hid ((HB7.out.trans (hb.mono HB7.out.size)).alloc (HB7.out.trans (hb.mono HB7.out.size)).size (.cells #[.int .i64 l, .int .i64 u, .int .i64 v, .bool a, .bool b, .bool cc, .bool d] 23))
            have QS8 := Lib.hid ((QS7.out.all hb).all (below1 w8 (.cells #[.int .i64 l, .int .i64 u, .int .i64 v, .bool a, .bool b, .bool cc, .bool d] 23)))
            have QB8 := Lib.hid (BoxL.new w8 l u v a b cc d)
            clear hb HB7 QS7 QT7 CSB t0 t1 t2 t3 t4 t5 t6
            have t0 := QS8.out.c0
            have t1 := QS8.out.c1
            have t2 := QS8.out.c2
            have t3 := QS8.out.c3
            have t4 := QS8.out.c4
            have t5 := QS8.out.c5
            have t6 := QS8.out.c6
            have s0 := QB8.out.c0
            have s1 := QB8.out.c1
            have s2 := QB8.out.c2
            have s3 := QB8.out.c3
            have s4 := QB8.out.c4
            have s5 := QB8.out.c5
            have s6 := QB8.out.c6
            go_wp2_with fail
            exact HRJ.out _ _ rfl HB8
    | false =>
      cases T4 with
      | true =>
        have hp5 : p2 ≤ 5 := hh5 rfl
        clear hg5 hh5 h34
        have t0 := QT7.out.c0
        have t1 := QT7.out.c1
        have t2 := QT7.out.c2
        have t3 := QT7.out.c3
        have t4 := QT7.out.c4
        have t5 := QT7.out.c5
        have t6 := QT7.out.c6
        by_cases h9 : k = 9
        · subst h9
          clear HS QS7 hcm
          go_wp2_with fail
          exact HRJ.out _ _ rfl HB7
        · have hk8 : 1 ≤ k ∧ k ≤ 8 := by omega
          have hk9 : (k != 9) = true := by simp [h9]
          have hback := step_back HS.out hk8
          obtain ⟨kk0, kk1⟩ := hk8
          have htm : Int.tmod k 2 = k % 2 := Int.tmod_eq_emod_of_nonneg (by omega)
          by_cases hev : k % 2 = 0
          · rw [show oppL k = k - 1 from if_pos hev] at hback
            have CSB := Lib.hid (fun W => stepI_any T0 T1 T2 false true T5 T6 (k - 1) l u v a b cc d true (.inl ⟨hback, rfl⟩) W)
            have e1 : (k % 2 == 0) = true := by simp [hev]
            have e2 : (k % 2 == 1) = false := by simp [hev]
            have e3 : (Int.tmod k 2 == 0) = true := by rw [htm]; exact e1
            have e4 : (Int.tmod k 2 == 1) = false := by rw [htm]; exact e2
            clear hback HS hev htm h9 hcm
            go_wp2_with fail
            refine (CSB.out _).mono ?_
            rintro e w8 ⟨rfl, hb⟩
            have HB8 := Lib.hid ((HB7.out.trans (hb.mono HB7.out.size)).alloc (HB7.out.trans (hb.mono HB7.out.size)).size (.cells #[.int .i64 l, .int .i64 u, .int .i64 v, .bool a, .bool b, .bool cc, .bool d] 23))
            have QS8 := Lib.hid ((QS7.out.all hb).all (below1 w8 (.cells #[.int .i64 l, .int .i64 u, .int .i64 v, .bool a, .bool b, .bool cc, .bool d] 23)))
            have QB8 := Lib.hid (BoxL.new w8 l u v a b cc d)
            clear hb HB7 QS7 QT7 CSB t0 t1 t2 t3 t4 t5 t6
            have t0 := QS8.out.c0
            have t1 := QS8.out.c1
            have t2 := QS8.out.c2
            have t3 := QS8.out.c3
            have t4 := QS8.out.c4
            have t5 := QS8.out.c5
            have t6 := QS8.out.c6
            have s0 := QB8.out.c0
            have s1 := QB8.out.c1
            have s2 := QB8.out.c2
            have s3 := QB8.out.c3
            have s4 := QB8.out.c4
            have s5 := QB8.out.c5
            have s6 := QB8.out.c6
            go_wp2_with fail
            exact HRJ.out _ _ rfl HB8
          · rw [show oppL k = k + 1 from if_neg hev] at hback
            have CSB := Lib.hid (fun W => stepI_any T0 T1 T2 false true T5 T6 (k + 1) l u v a b cc d true (.inl ⟨hback, rfl⟩) W)
            have h1 : k % 2 = 1 := by omega
            have e1 : (k % 2 == 0) = false := by simp [h1]
            have e2 : (k % 2 == 1) = true := by simp [h1]
            have e3 : (Int.tmod k 2 == 0) = false := by rw [htm]; exact e1
            have e4 : (Int.tmod k 2 == 1) = true := by rw [htm]; exact e2
            clear hback HS hev htm h9 h1 hcm
            go_wp2_with fail
            refine (CSB.out _).mono ?_
            rintro e w8 ⟨rfl, hb⟩
            have HB8 := Lib.hid ((HB7.out.trans (hb.mono HB7.out.size)).alloc (HB7.out.trans (hb.mono HB7.out.size)).size (.cells #[.int .i64 l, .int .i64 u, .int .i64 v, .bool a, .bool b, .bool cc, .bool d] 23))
            have QS8 := Lib.hid ((QS7.out.all hb).all (below1 w8 (.cells #[.int .i64 l, .int .i64 u, .int .i64 v, .bool a, .bool b, .bool cc, .bool d] 23)))
            have QB8 := Lib.hid (BoxL.new w8 l u v a b cc d)
            clear hb HB7 QS7 QT7 CSB t0 t1 t2 t3 t4 t5 t6
            have t0 := QS8.out.c0
            have t1 := QS8.out.c1
            have t2 := QS8.out.c2
            have t3 := QS8.out.c3
            have t4 := QS8.out.c4
            have t5 := QS8.out.c5
            have t6 := QS8.out.c6
            have s0 := QB8.out.c0
            have s1 := QB8.out.c1
            have s2 := QB8.out.c2
            have s3 := QB8.out.c3
            have s4 := QB8.out.c4
            have s5 := QB8.out.c5
            have s6 := QB8.out.c6
            go_wp2_with fail
            exact HRJ.out _ _ rfl HB8
      | false =>
        clear hg5 hh5 h34
        have t0 := QT7.out.c0
        have t1 := QT7.out.c1
        have t2 := QT7.out.c2
        have t3 := QT7.out.c3
        have t4 := QT7.out.c4
        have t5 := QT7.out.c5
        have t6 := QT7.out.c6
        by_cases h9 : k = 9
        · subst h9
          clear HS QS7 hcm
          go_wp2_with fail
          exact HRJ.out _ _ rfl HB7
        · have hk8 : 1 ≤ k ∧ k ≤ 8 := by omega
          have hk9 : (k != 9) = true := by simp [h9]
          have hback := step_back HS.out hk8
          obtain ⟨kk0, kk1⟩ := hk8
          have htm : Int.tmod k 2 = k % 2 := Int.tmod_eq_emod_of_nonneg (by omega)
          by_cases hev : k % 2 = 0
          · rw [show oppL k = k - 1 from if_pos hev] at hback
            have CSB := Lib.hid (fun W => stepI_any T0 T1 T2 false false T5 T6 (k - 1) l u v a b cc d true (.inl ⟨hback, rfl⟩) W)
            have e1 : (k % 2 == 0) = true := by simp [hev]
            have e2 : (k % 2 == 1) = false := by simp [hev]
            have e3 : (Int.tmod k 2 == 0) = true := by rw [htm]; exact e1
            have e4 : (Int.tmod k 2 == 1) = false := by rw [htm]; exact e2
            clear hback HS hev htm h9 hcm
            go_wp2_with fail
            refine (CSB.out _).mono ?_
            rintro e w8 ⟨rfl, hb⟩
            have HB8 := Lib.hid ((HB7.out.trans (hb.mono HB7.out.size)).alloc (HB7.out.trans (hb.mono HB7.out.size)).size (.cells #[.int .i64 l, .int .i64 u, .int .i64 v, .bool a, .bool b, .bool cc, .bool d] 23))
            have QS8 := Lib.hid ((QS7.out.all hb).all (below1 w8 (.cells #[.int .i64 l, .int .i64 u, .int .i64 v, .bool a, .bool b, .bool cc, .bool d] 23)))
            have QB8 := Lib.hid (BoxL.new w8 l u v a b cc d)
            clear hb HB7 QS7 QT7 CSB t0 t1 t2 t3 t4 t5 t6
            have t0 := QS8.out.c0
            have t1 := QS8.out.c1
            have t2 := QS8.out.c2
            have t3 := QS8.out.c3
            have t4 := QS8.out.c4
            have t5 := QS8.out.c5
            have t6 := QS8.out.c6
            have s0 := QB8.out.c0
            have s1 := QB8.out.c1
            have s2 := QB8.out.c2
            have s3 := QB8.out.c3
            have s4 := QB8.out.c4
            have s5 := QB8.out.c5
            have s6 := QB8.out.c6
            go_wp2_with fail
            exact HRJ.out _ _ rfl HB8
          · rw [show oppL k = k + 1 from if_neg hev] at hback
            have CSB := Lib.hid (fun W => stepI_any T0 T1 T2 false false T5 T6 (k + 1) l u v a b cc d true (.inl ⟨hback, rfl⟩) W)
            have h1 : k % 2 = 1 := by omega
            have e1 : (k % 2 == 0) = false := by simp [h1]
            have e2 : (k % 2 == 1) = true := by simp [h1]
            have e3 : (Int.tmod k 2 == 0) = false := by rw [htm]; exact e1
            have e4 : (Int.tmod k 2 == 1) = true := by rw [htm]; exact e2
            clear hback HS hev htm h9 h1 hcm
            go_wp2_with fail
            refine (CSB.out _).mono ?_
            rintro e w8 ⟨rfl, hb⟩
            have HB8 := Lib.hid ((HB7.out.trans (hb.mono HB7.out.size)).alloc (HB7.out.trans (hb.mono HB7.out.size)).size (.cells #[.int .i64 l, .int .i64 u, .int .i64 v, .bool a, .bool b, .bool cc, .bool d] 23))
            have QS8 := Lib.hid ((QS7.out.all hb).all (below1 w8 (.cells #[.int .i64 l, .int .i64 u, .int .i64 v, .bool a, .bool b, .bool cc, .bool d] 23)))
            have QB8 := Lib.hid (BoxL.new w8 l u v a b cc d)
            clear hb HB7 QS7 QT7 CSB t0 t1 t2 t3 t4 t5 t6
            have t0 := QS8.out.c0
            have t1 := QS8.out.c1
            have t2 := QS8.out.c2
            have t3 := QS8.out.c3
            have t4 := QS8.out.c4
            have t5 := QS8.out.c5
            have t6 := QS8.out.c6
            have s0 := QB8.out.c0
            have s1 := QB8.out.c1
            have s2 := QB8.out.c2
            have s3 := QB8.out.c3
            have s4 := QB8.out.c4
            have s5 := QB8.out.c5
            have s6 := QB8.out.c6
            go_wp2_with fail
            exact HRJ.out _ _ rfl HB8
theorem own : ownKnob Try.prog.godebug = none := by kernel_rfl
theorem laidOut : laidOutB Try.prog = true := by kernel_rfl

set_option maxRecDepth 100000 in
theorem lifted (os : Os) (started : os.Started) (H : Type) (enc : TypeId × Value → H) :
    ReturnsInHanded {} Try.checked os 11 .any (Rows.fnInterlocksSpec.pre6 enc Try.prog Try.f11 Rows.fnInterlocksRow.domain false) (Rows.fnInterlocksSpec.post enc Try.prog Try.f11 false true false false) := by
  refine returnsInHanded_of_change (C := Try.checked) own started (by kernel_rfl) Try.func11
    (ChangeSpec.witness6 (enc := enc) (C := Try.checked) false ⟨#[], #[.slice none 0 0], []⟩ 8 (by kernel_rfl) (by kernel_rfl) (by kernel_rfl) (by kernel_rfl)) ?_
  intro W base args ds gs before hval0 hW hcnd _
  have hval : ∀ (j : Nat) t v, Try.f11.params[j]? = some t → args[j]? = some v → Value.okWide Try.prog W .any base t v := hval0
  have hW' := hW
  obtain ⟨p, q, hA0, hV, rfl, hfz, hnd⟩ := hW
  have hA : DataW.TrodAll enc Try.prog W 0 (fun _ => true) true Try.f11.params.toList args.toList ds p := hA0
  rw [Try.params11] at hA hval
  obtain ⟨v0, vs0, d0, ds0, p0, q0, hargs, rfl, rfl, h0, r0⟩ := trodAll_cons hA
  obtain ⟨rfl, rfl, rfl⟩ := trodAll_nil r0
  obtain rfl : args = #[v0] := by cases args; simp_all
  obtain ⟨rfl, rfl⟩ := trodVars_none hV
  obtain ⟨a0, len0, cap0, rfl⟩ := okWide_slice Try.underlying47 (hval 0 47 v0 rfl rfl)
  have k0 := h0
  have lt0 : ∀ x ∈ p0, x.block < W.heap.size := by obtain ⟨m, hm⟩ := k0; exact DataW.trod_lt m _ _ _ hm
  obtain ⟨z0, w0⟩ : ∃ zs, IsInts .u8 W a0 len0 zs := by
    obtain ⟨fuel, hf⟩ := h0
    rcases open_ints Try.underlying47 Try.underlying5 (by kernel_rfl) hf with ⟨hcs, _⟩ | ⟨x, l, c, zs, hcs, _, hl, hm, hz, _, hcell, hwz⟩
    · simp [Value.cells] at hcs
      obtain ⟨rfl, rfl, rfl⟩ := hcs
      exact ⟨[], isInts_nil _ W⟩
    · simp [Value.cells] at hcs
      obtain ⟨rfl, rfl, rfl⟩ := hcs
      exact ⟨_, isInts_some hl hm (by simpa using hz) hcell hwz⟩
  clear hA0 hval0
  refine (walk a0 len0 cap0 z0 W w0).mono fun e W' ⟨he, bel⟩ => ?_
  subst he
  exact ⟨_, rfl, _, _, _, [], _, [], hW', trodAll_mk1 (shut_bool Try.underlying4 _), (trodAll_cons_mk (Below.trod laidOut (by kernel_rfl) (of_decide_eq_true (by kernel_rfl)) k0 bel lt0) trodAll_mk0), rfl, bel.frame _, fun h => by cases h⟩

theorem over : Rows.fnInterlocksRow.holds Try.pinned (OpenSpec.ofChange Rows.fnInterlocksSpec) :=
  OpenClaim.holds_of_wide 11 Try.f11 rfl rfl rfl rfl rfl rfl rfl ⟨rfl, rfl, rfl, rfl, rfl⟩ rfl rfl rfl rfl rfl (by kernel_rfl) Try.func11 (by kernel_rfl)
    (of_decide_eq_true (by kernel_rfl)) (by unfold Func.isWrapper; first | (rw [if_pos (by decide +kernel)]; kernel_rfl) | (rw [if_neg (by decide +kernel)]; exact ⟨rfl, rfl⟩))
    (fun os started H enc _ => lifted os started H enc)

/-- The statement. -/
theorem proved : Rows.FnInterlocksSaid := over
end Go.Proofs.Ytmnagjjpncancaa.fnInterlocks
