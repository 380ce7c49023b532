/- AddVessel answers as its model does, at every list of vessels and every vessel; it writes into no argument and its answer owns its memory. -/
import Derived.Test.YtgadceelbeacgaaVesAdS
import Derived.Test.YtgadceelbeacgaaVesMark
import Derived.Test.YtgadceelbeacgaaSt0
import Derived.OpenShut
import Derived.ShutString
import Derived.ChangeOld
import Derived.WalkLawsBesides
import Derived.Lib.SmallJoins
import Derived.Deep.RegionHeld3
namespace Go.Proofs.Ytgadceelbeacgaa.fnExactAddVessel
open Go.ChangeShapes Go.WideShapes Go.ChangeAt Go.RowKit
open Go.ChangeMaps (open_string shut_string)
set_option linter.unusedVariables false

/-- A row of integers. -/
abbrev ri (g n c : Nat) (xs : List Value) : RowOf := ⟨3, 1, .slice (some ⟨g, 0, none⟩) n c, n, xs⟩
/-- A row of vessels. -/
abbrev rv (g n c : Nat) (xs : List Value) : RowOf := ⟨53, 6, .slice (some ⟨g, 0, none⟩) n c, n, xs⟩

set_option maxRecDepth 100000 in
set_option maxHeartbeats 4000000 in
theorem walk (A : Option Addr) (n c : Nat) (vs : List Ves) (i : Int) (s : ByteArray) (l b d q : Int) (w : World) (hn : vs.length = n) (hm : n ≤ maxLen) (hs : ∀ v ∈ vs, v.name.size ≤ maxLen) (h : Has w w.heap.size A (flatV vs)) (hsz : s.size ≤ maxLen) :
    Calls Try.prog 7 #[.slice A n c, .agg #[.int .i64 i, .string s, .int .i64 l, .int .i64 b, .int .i64 d, .int .i64 q]] w fun e w' => e = .returned (.bool true) ∧ Below w.heap.size w w' := by
  have hv : IsVs w w.heap.size A n vs := ⟨hn, Nat.le_refl _, h, hs⟩
  obtain ⟨left, l0, l1, lf, hz⟩ := szVS_vs (c := c) w hv hm 1048576 (by omega) (by omega)
  have SZ := Lib.hid hz
  have IV := Lib.hid (fun W (hb : Below w.heap.size w W) => hv.below hb (Nat.le_refl _))
  have HM := Lib.hid hm
  have HSZ := Lib.hid hsz
  have HF := Lib.hid (fun h : 0 ≤ left => (by have := lf h; omega : n ≤ 1048576))
  obtain ⟨L, y, hL8, hadd⟩ := added_ex vs ⟨i, s, l, b, d, q⟩
  have HY := Lib.hid hadd
  have hney : (y != y) = false := by simp
  clear hn hm hs h hv hz lf hadd hsz
  go_enter Try.func7, Try.ntmps7
  have S0 : Hid (St w [(w.heap.size, 0, .int .i64 i), (w.heap.size, 1, .string s), (w.heap.size, 2, .int .i64 l), (w.heap.size, 3, .int .i64 b), (w.heap.size, 4, .int .i64 d), (w.heap.size, 5, .int .i64 q)] [] (w.alloc (.cells #[.int .i64 i, .string s, .int .i64 l, .int .i64 b, .int .i64 d, .int .i64 q] 55))) := Lib.hid (by
    have k := (St.start w).quiet ((Below.refl _ w).alloc (Nat.le_refl _) (.cells #[.int .i64 i, .string s, .int .i64 l, .int .i64 b, .int .i64 d, .int .i64 q] 55))
    refine k.cells (cs := []) (ds := [(w.heap.size, 0, .int .i64 i), (w.heap.size, 1, .string s), (w.heap.size, 2, .int .i64 l), (w.heap.size, 3, .int .i64 b), (w.heap.size, 4, .int .i64 d), (w.heap.size, 5, .int .i64 q)]) fun p hp => ?_
    simp only [List.mem_cons, List.not_mem_nil, or_false] at hp
    rcases hp with rfl | rfl | rfl | rfl | rfl | rfl
    · exact ⟨Nat.le_refl _, by rw [vNew]; rfl⟩
    · exact ⟨Nat.le_refl _, by rw [vNew]; rfl⟩
    · exact ⟨Nat.le_refl _, by rw [vNew]; rfl⟩
    · exact ⟨Nat.le_refl _, by rw [vNew]; rfl⟩
    · exact ⟨Nat.le_refl _, by rw [vNew]; rfl⟩
    · exact ⟨Nat.le_refl _, by rw [vNew]; rfl⟩)
  go_wp2_with fail
  refine (SZ.out _ ((Below.refl _ w).alloc (Nat.le_refl _) _)).mono ?_
  rintro e w1 ⟨rfl, hb⟩
  have S1 := Lib.hid (S0.out.quiet hb)
  clear hb SZ S0
  by_cases hneg : left < 0
  · go_wp2_with fail
    go_ret
    exact ⟨rfl, S1.out.low⟩
  · have hn1 := Lib.hid (HF.out (by omega))
    obtain ⟨left2, hl2, hl3⟩ : ∃ v : Int, ((s.size : Int) ≤ left → v = left - s.size) ∧ (¬ (s.size : Int) ≤ left → v = -1) := by
      by_cases h : (s.size : Int) ≤ left
      · exact ⟨_, fun _ => rfl, fun g => absurd h g⟩
      · exact ⟨_, fun g => absurd g h, fun _ => rfl⟩
    have SV := Lib.hid (fun W => szV_any i s l b d q left left2 W HSZ.out (by omega) l1 hl2 hl3)
    have hb0 : -1 ≤ left2 ∧ left2 ≤ 1048576 := by
      by_cases h : (s.size : Int) ≤ left
      · rw [hl2 h]; omega
      · rw [hl3 h]; omega
    obtain ⟨hb0, hb1⟩ := hb0
    clear hl2 hl3
    have c0 := (S1.out.cell (w.heap.size, 0, .int .i64 i) (by simp)).2
    have c1 := (S1.out.cell (w.heap.size, 1, .string s) (by simp)).2
    have c2 := (S1.out.cell (w.heap.size, 2, .int .i64 l) (by simp)).2
    have c3 := (S1.out.cell (w.heap.size, 3, .int .i64 b) (by simp)).2
    have c4 := (S1.out.cell (w.heap.size, 4, .int .i64 d) (by simp)).2
    have c5 := (S1.out.cell (w.heap.size, 5, .int .i64 q) (by simp)).2
    go_wp2_with fail
    refine (SV.out _).mono ?_
    rintro e w2 ⟨rfl, hb⟩
    have S2 := Lib.hid (S1.out.quiet hb)
    clear hb S1 SV c0 c1 c2 c3 c4 c5
    by_cases hneg2 : left2 < 0
    · go_wp2_with fail
      go_ret
      exact ⟨rfl, S2.out.low⟩
    have c0 := (S2.out.cell (w.heap.size, 0, .int .i64 i) (by simp)).2
    have c1 := (S2.out.cell (w.heap.size, 1, .string s) (by simp)).2
    have c2 := (S2.out.cell (w.heap.size, 2, .int .i64 l) (by simp)).2
    have c3 := (S2.out.cell (w.heap.size, 3, .int .i64 b) (by simp)).2
    have c4 := (S2.out.cell (w.heap.size, 4, .int .i64 d) (by simp)).2
    have c5 := (S2.out.cell (w.heap.size, 5, .int .i64 q) (by simp)).2
    have KEEP := Lib.hid (fun W (hb : Below w2.heap.size w2 W) => (⟨hb, ((S2.out.quiet hb).cell (w.heap.size, 0, .int .i64 i) (by simp)).2, ((S2.out.quiet hb).cell (w.heap.size, 1, .string s) (by simp)).2, ((S2.out.quiet hb).cell (w.heap.size, 2, .int .i64 l) (by simp)).2, ((S2.out.quiet hb).cell (w.heap.size, 3, .int .i64 b) (by simp)).2, ((S2.out.quiet hb).cell (w.heap.size, 4, .int .i64 d) (by simp)).2, ((S2.out.quiet hb).cell (w.heap.size, 5, .int .i64 q) (by simp)).2⟩ : Below w2.heap.size w2 W ∧ W.cell? ⟨w.heap.size, 0, none⟩ = some (.int .i64 i) ∧ W.cell? ⟨w.heap.size, 1, none⟩ = some (.string s) ∧ W.cell? ⟨w.heap.size, 2, none⟩ = some (.int .i64 l) ∧ W.cell? ⟨w.heap.size, 3, none⟩ = some (.int .i64 b) ∧ W.cell? ⟨w.heap.size, 4, none⟩ = some (.int .i64 d) ∧ W.cell? ⟨w.heap.size, 5, none⟩ = some (.int .i64 q)))
    have KD := Lib.hid (KEEP.out w2.drew ((Drawn.one w2 1).below _))
    have KT := Lib.hid (fun W W' (hb : Below w2.heap.size w2 W) (hb' : Below W.heap.size W W') => KEEP.out W' (hb.trans (hb'.mono hb.size)))
    have IA := Lib.hid (fun W (hb : Below w2.heap.size w2 W) => IV.out W (S2.out.quiet hb).low)
    clear c0 c1 c2 c3 c4 c5
    go_wp2_with fail
    go_region_held3 (fun W => Below w2.heap.size w2 W ∧ W.cell? ⟨w.heap.size, 0, none⟩ = some (.int .i64 i) ∧ W.cell? ⟨w.heap.size, 1, none⟩ = some (.string s) ∧ W.cell? ⟨w.heap.size, 2, none⟩ = some (.int .i64 l) ∧ W.cell? ⟨w.heap.size, 3, none⟩ = some (.int .i64 b) ∧ W.cell? ⟨w.heap.size, 4, none⟩ = some (.int .i64 d) ∧ W.cell? ⟨w.heap.size, 5, none⟩ = some (.int .i64 q))
      (first | exact KD.out | exact KT.out _ _ KD.out.1 hb6 | exact KT.out _ _ (KD.out.1.trans (hb6.mono KD.out.1.size)) hb7 | exact KT.out _ _ ((KD.out.1.trans (hb6.mono KD.out.1.size)).trans (hb7.mono (KD.out.1.trans (hb6.mono KD.out.1.size)).size)) hb8)
      (first
        | (go_at_call 50; refine (toVS_vs c (IA.out _ KD.out.1) hn1.out).mono ?_; rintro e w6 ⟨g, rfl, -, i6, hb6⟩)
        | (go_at_call 46; refine (toV_any i s l b d q _).mono ?_; rintro e w7 ⟨rfl, hb7⟩)
        | (go_at_call 53; refine (specAdd_any n (i6.below hb7 (Nat.le_refl _)) hn1.out (Nat.le_refl _) i s l b d q HSZ.out L y HY.out).mono ?_; rintro e w8 ⟨gw, cw, rfl, hgw, hown, hb8⟩))
    have X6 := KD.out.1.trans (hb6.mono KD.out.1.size)
    have X7 := X6.trans (hb7.mono X6.size)
    have X8 := X7.trans (hb8.mono X7.size)
    have S3 := Lib.hid ((S2.out.quiet X8).own (rv gw L.length cw (flatV L)) (own_low hown (Nat.le_trans S2.out.low.size X7.size)))
    have z3 := (hown.lt gw rfl).2
    have z3' : w.heap.size ≤ gw := Nat.le_trans (Nat.le_trans S2.out.low.size X7.size) hgw
    have z3n : w.heap.size < gw := by
      have h1 := World.block_lt_of_cell? w2 ⟨w.heap.size, 0, none⟩ (S2.out.cell (w.heap.size, 0, .int .i64 i) (by simp)).2
      have h2 := X7.size
      simp at h1
      omega
    clear KEEP KD KT IA hb6 hb7 hb8 i6 X6 X7 X8 hown hgw S2
    go_wp2_with fail
    refine (toVS_vs c (IV.out _ S3.out.low) hn1.out).mono ?_
    rintro e w4 ⟨x0, rfl, ho, i4, hb⟩
    have z4 := ho.lt x0 rfl
    obtain ⟨z4a, z4b⟩ := z4
    have S4 := Lib.hid ((S3.out.quiet hb).own (rv x0 n n (flatV vs)) (own_low ho S3.out.low.size))
    have I4 := Lib.hid i4
    have zz4 := S3.out.low.size
    clear hb i4 ho S3
    have c0 := (S4.out.cell (w.heap.size, 0, .int .i64 i) (by simp)).2
    have c1 := (S4.out.cell (w.heap.size, 1, .string s) (by simp)).2
    have c2 := (S4.out.cell (w.heap.size, 2, .int .i64 l) (by simp)).2
    have c3 := (S4.out.cell (w.heap.size, 3, .int .i64 b) (by simp)).2
    have c4 := (S4.out.cell (w.heap.size, 4, .int .i64 d) (by simp)).2
    have c5 := (S4.out.cell (w.heap.size, 5, .int .i64 q) (by simp)).2
    go_wp2_with fail
    refine (toV_any i s l b d q _).mono ?_
    rintro e w4' ⟨rfl, hb⟩
    have S4' := Lib.hid (S4.out.quiet hb)
    have I4' := Lib.hid (I4.out.below hb (Nat.le_refl _))
    have zz4' := hb.size
    clear hb S4 I4 c0 c1 c2 c3 c4 c5
    go_wp2_with fail
    refine (implAdd_any n I4'.out hn1.out (Nat.le_refl _) i s l b d q HSZ.out L y HY.out).mono ?_
    rintro e w5 ⟨gg, cg, rfl, hgg, hown, hb⟩
    have S5 := Lib.hid ((S4'.out.quiet hb).own (rv gg L.length cg (flatV L)) (own_low hown S4'.out.low.size))
    have I5 := Lib.hid (I4'.out.all.below hb (Nat.le_refl _))
    have zz5 := S4'.out.low.size
    clear hb S4' hown I4'
    go_wp2_with fail
    refine (eqVS_same _ _ L.length _ _ _ _ L _ rfl (by unfold maxLen; omega) (Nat.le_refl _) (Nat.le_refl _) (own_hasv (S5.out.row (rv gg L.length cg (flatV L)) (by simp))) (own_hasv (S5.out.row (rv gw L.length cw (flatV L)) (by simp)))).mono ?_
    rintro e w6 ⟨rfl, hD⟩
    have S6 := Lib.hid (S5.out.quiet hD)
    have I6 := Lib.hid (I5.out.all.below hD (Nat.le_refl _))
    clear hD S5 I5
    go_wp2_with fail
    refine (toVS_vs c (IV.out _ S6.out.low) hn1.out).mono ?_
    rintro e w7 ⟨g3, rfl, -, i7, hb⟩
    have S7 := Lib.hid (S6.out.quiet hb)
    have I7 := Lib.hid i7
    have I8 := Lib.hid (I6.out.all.below hb (Nat.le_refl _))
    clear hb i7 S6 I6
    go_wp2_with fail
    refine (eqVS_vs n n I8.out I7.out HM.out).mono ?_
    rintro e w8 ⟨rfl, hb⟩
    have S8 := Lib.hid (S7.out.quiet hb)
    clear hb S7 I7 I8
    go_wp2_with fail
    -- the argument is written over
    refine (markVS_any x0 n n w.heap.size 1 (flatV vs) _ (by omega) (by have := hn1.out; omega) (S8.out.row (rv x0 n n (flatV vs)) (by simp))).mono ?_
    rintro e w9 ⟨rfl, hoM, hg1⟩
    have T8 := S8.out.sub (rows' := [rv x0 n n (flatV vs), rv gg L.length cg (flatV L), rv gw L.length cw (flatV L)]) (by simp)
    have T9 := T8.turn (r' := rv x0 n n (flatV (mkV 1 n))) hg1 (fun q e => by cases e; omega) (by simp; omega) (by simp [Value.ownBlock]; omega) hoM
    have S9 := Lib.hid (T9.sub (rows' := [rv gg L.length cg (flatV L), rv gw L.length cw (flatV L)]) (by simp))
    clear hg1 hoM T8 T9 S8
    have hk1 : ¬ (1 + 6 * (n : Int) < 0) := by omega
    have hn1' := hn1.out
    go_wp2_with fail
    refine (eqVS_same _ _ L.length _ _ _ _ L _ rfl (by unfold maxLen; omega) (Nat.le_refl _) (Nat.le_refl _) (own_hasv (S9.out.row (rv gg L.length cg (flatV L)) (by simp))) (own_hasv (S9.out.row (rv gw L.length cw (flatV L)) (by simp)))).mono ?_
    rintro e w10 ⟨rfl, hD⟩
    have S10 := Lib.hid (S9.out.quiet hD)
    clear hD S9
    go_wp2_with fail
    -- the answer is marked, the marks are found
    refine (markVS_any gg L.length cg w.heap.size 1 (flatV L) _ (by omega) (by omega) (S10.out.row (rv gg L.length cg (flatV L)) (by simp))).mono ?_
    rintro e w11 ⟨rfl, hown, hg1⟩
    have S11 := Lib.hid (S10.out.turn (r' := rv gg L.length cg (flatV (mkV 1 L.length))) hg1 (fun q e => by cases e; omega) (by simp; omega) (by simp [Value.ownBlock]; omega) hown)
    clear hown hg1 S10
    have hL7 : (L.length : Int) ≤ 9 := by omega
    generalize hLn : L.length = Ln at *
    go_wp2_with fail
    refine (heldVS_any _ Ln cg _ 1 _ (by omega) (by omega) (Nat.le_refl _) (own_hasv (S11.out.row (rv gg Ln cg (flatV (mkV 1 Ln))) (by simp)))).mono ?_
    rintro e w12 ⟨rfl, hb⟩
    have S12 := Lib.hid (S11.out.quiet hb)
    clear hb S11
    have hq1 : ¬ (1 + 6 * (Ln : Int) < 0) := by omega
    have hq2 : ((1 + 6 * (Ln : Int)) != (1 + 6 * (Ln : Int))) = false := by simp
    have c0 := (S12.out.cell (w.heap.size, 0, .int .i64 i) (by simp)).2
    have c1 := (S12.out.cell (w.heap.size, 1, .string s) (by simp)).2
    have c2 := (S12.out.cell (w.heap.size, 2, .int .i64 l) (by simp)).2
    have c3 := (S12.out.cell (w.heap.size, 3, .int .i64 b) (by simp)).2
    have c4 := (S12.out.cell (w.heap.size, 4, .int .i64 d) (by simp)).2
    have c5 := (S12.out.cell (w.heap.size, 5, .int .i64 q) (by simp)).2
    -- asked again
    have KEEP := Lib.hid (fun W (hb : Below w12.heap.size w12 W) => (⟨hb, ((S12.out.quiet hb).cell (w.heap.size, 0, .int .i64 i) (by simp)).2, ((S12.out.quiet hb).cell (w.heap.size, 1, .string s) (by simp)).2, ((S12.out.quiet hb).cell (w.heap.size, 2, .int .i64 l) (by simp)).2, ((S12.out.quiet hb).cell (w.heap.size, 3, .int .i64 b) (by simp)).2, ((S12.out.quiet hb).cell (w.heap.size, 4, .int .i64 d) (by simp)).2, ((S12.out.quiet hb).cell (w.heap.size, 5, .int .i64 q) (by simp)).2⟩ : Below w12.heap.size w12 W ∧ W.cell? ⟨w.heap.size, 0, none⟩ = some (.int .i64 i) ∧ W.cell? ⟨w.heap.size, 1, none⟩ = some (.string s) ∧ W.cell? ⟨w.heap.size, 2, none⟩ = some (.int .i64 l) ∧ W.cell? ⟨w.heap.size, 3, none⟩ = some (.int .i64 b) ∧ W.cell? ⟨w.heap.size, 4, none⟩ = some (.int .i64 d) ∧ W.cell? ⟨w.heap.size, 5, none⟩ = some (.int .i64 q)))
    have KD := Lib.hid (KEEP.out w12.drew ((Drawn.one w12 1).below _))
    have KT := Lib.hid (fun W W' (hb : Below w12.heap.size w12 W) (hb' : Below W.heap.size W W') => KEEP.out W' (hb.trans (hb'.mono hb.size)))
    have IA := Lib.hid (fun W (hb : Below w12.heap.size w12 W) => IV.out W (S12.out.quiet hb).low)
    clear c0 c1 c2 c3 c4 c5
    go_wp2_with fail
    go_region_held3 (fun W => Below w12.heap.size w12 W ∧ W.cell? ⟨w.heap.size, 0, none⟩ = some (.int .i64 i) ∧ W.cell? ⟨w.heap.size, 1, none⟩ = some (.string s) ∧ W.cell? ⟨w.heap.size, 2, none⟩ = some (.int .i64 l) ∧ W.cell? ⟨w.heap.size, 3, none⟩ = some (.int .i64 b) ∧ W.cell? ⟨w.heap.size, 4, none⟩ = some (.int .i64 d) ∧ W.cell? ⟨w.heap.size, 5, none⟩ = some (.int .i64 q))
      (first | exact KD.out | exact KT.out _ _ KD.out.1 hb6 | exact KT.out _ _ (KD.out.1.trans (hb6.mono KD.out.1.size)) hb7 | exact KT.out _ _ ((KD.out.1.trans (hb6.mono KD.out.1.size)).trans (hb7.mono (KD.out.1.trans (hb6.mono KD.out.1.size)).size)) hb8)
      (first
        | (go_at_call 50; refine (toVS_vs c (IA.out _ KD.out.1) hn1.out).mono ?_; rintro e w6 ⟨g4, rfl, -, i6, hb6⟩)
        | (go_at_call 46; refine (toV_any i s l b d q _).mono ?_; rintro e w7 ⟨rfl, hb7⟩)
        | (go_at_call 54; refine (implAdd_any n (i6.below hb7 (Nat.le_refl _)) hn1.out (Nat.le_refl _) i s l b d q HSZ.out L y HY.out).mono ?_; rintro e w8 ⟨gh, ch, rfl, -, hown, hb8⟩))
    have X6 := KD.out.1.trans (hb6.mono KD.out.1.size)
    have X7 := X6.trans (hb7.mono X6.size)
    have X8 := X7.trans (hb8.mono X7.size)
    rw [hLn] at hown
    have S14 := Lib.hid ((S12.out.quiet X8).own (rv gh Ln ch (flatV L)) (own_low hown (Nat.le_trans S12.out.low.size X7.size)))
    clear KEEP KD KT IA hb6 hb7 hb8 i6 X6 X7 X8 hown S12
    go_wp2_with fail
    refine (eqVS_same _ _ Ln _ _ _ _ L _ hLn (by unfold maxLen; omega) (Nat.le_refl _) (Nat.le_refl _) (own_hasv (S14.out.row (rv gh Ln ch (flatV L)) (by simp))) (own_hasv (S14.out.row (rv gw Ln cw (flatV L)) (by simp)))).mono ?_
    rintro e w15 ⟨rfl, hD⟩
    have S15 := Lib.hid (S14.out.quiet hD)
    clear hD S14
    go_wp2_with fail
    refine (heldVS_any _ Ln cg _ 1 _ (by omega) (by omega) (Nat.le_refl _) (own_hasv (S15.out.row (rv gg Ln cg (flatV (mkV 1 Ln))) (by simp)))).mono ?_
    rintro e w16 ⟨rfl, hb⟩
    have S16 := Lib.hid (S15.out.quiet hb)
    clear hb S15
    go_wp2_with fail
    go_ret
    exact ⟨rfl, S16.out.low⟩
theorem own : ownKnob Try.prog.godebug = none := by kernel_rfl
theorem laidOut : laidOutB Try.prog = true := by kernel_rfl

set_option maxRecDepth 100000 in
theorem lifted (os : Os) (started : os.Started) (H : Type) (enc : TypeId × Value → H) :
    ReturnsInHanded {} Try.checked os 7 .any (Rows.fnExactAddVesselSpec.pre6 enc Try.prog Try.f7 Rows.fnExactAddVesselRow.domain false) (Rows.fnExactAddVesselSpec.post enc Try.prog Try.f7 false true false false) := by
  refine returnsInHanded_of_change (C := Try.checked) own started (by kernel_rfl) Try.func7
    (ChangeSpec.witness6 (enc := enc) (C := Try.checked) false ⟨#[], #[.slice none 0 0, .agg #[.int .i64 0, .string ByteArray.empty, .int .i64 0, .int .i64 0, .int .i64 0, .int .i64 0]], []⟩ 8 (by kernel_rfl) (by kernel_rfl) (by kernel_rfl) (by kernel_rfl)) ?_
  intro W base args ds gs before hval0 hW hcnd _
  have hval : ∀ (j : Nat) t v, Try.f7.params[j]? = some t → args[j]? = some v → Value.okWide Try.prog W .any base t v := hval0
  have hW' := hW
  obtain ⟨p, q, hA0, hV, rfl, hfz, hnd⟩ := hW
  have hA : DataW.TrodAll enc Try.prog W 0 (fun _ => true) true Try.f7.params.toList args.toList ds p := hA0
  rw [Try.params7] at hA hval
  obtain ⟨v0, vs0, d0, ds0, p0, q0, hargs, rfl, rfl, h0, r0⟩ := trodAll_cons hA
  obtain ⟨v1, vs1, d1, ds1, p1, q1, rfl, rfl, rfl, h1, r1⟩ := trodAll_cons r0
  obtain ⟨rfl, rfl, rfl⟩ := trodAll_nil r1
  obtain rfl : args = #[v0, v1] := by cases args; simp_all
  obtain ⟨rfl, rfl⟩ := trodVars_none hV
  have k0 := h0
  have lt0 : ∀ x ∈ p0, x.block < W.heap.size := by obtain ⟨m, hm⟩ := k0; exact DataW.trod_lt m _ _ _ hm
  obtain ⟨a0, len0, cap0, rfl⟩ := okWide_slice Try.underlying60 (hval 0 60 v0 rfl rfl)
  obtain ⟨z0, wl0, wm0, wz0, wh0⟩ : ∃ vs : List Ves, vs.length = len0 ∧ len0 ≤ maxLen ∧ (∀ v ∈ vs, v.name.size ≤ maxLen) ∧ Has W W.heap.size a0 (flatV vs) := by
    obtain ⟨fuel, hf⟩ := h0
    obtain ⟨A, l, c, vs, hcs, h1, h2, h3, h4⟩ := open_vess Try.underlying60 Try.underlying55 (by kernel_rfl) (by kernel_rfl) Try.underlying3 Try.underlying9 Try.underlying3 Try.underlying3 Try.underlying3 Try.underlying3 hf
    simp [Value.cells] at hcs
    obtain ⟨rfl, rfl, rfl⟩ := hcs
    exact ⟨vs, h1, h2, h3, h4⟩
  have k1 := h1
  have lt1 : ∀ x ∈ p1, x.block < W.heap.size := by obtain ⟨m, hm⟩ := k1; exact DataW.trod_lt m _ _ _ hm
  obtain ⟨i1v, s1v, l1v, b1v, d1v, q1v, rfl, w1⟩ := open_ves Try.underlying55 (by kernel_rfl) (by kernel_rfl) Try.underlying3 Try.underlying9 Try.underlying3 Try.underlying3 Try.underlying3 Try.underlying3 (hval 1 55 v1 rfl rfl) h1
  clear hA0 hval0
  refine (walk a0 len0 cap0 z0 i1v s1v l1v b1v d1v q1v W wl0 wm0 wz0 wh0 w1).mono fun e W' ⟨he, bel⟩ => ?_
  subst he
  exact ⟨_, rfl, _, _, _, [], _, [], hW', trodAll_mk1 (shut_bool Try.underlying4 _), (trodAll_cons_mk (Below.trod laidOut (by kernel_rfl) (of_decide_eq_true (by kernel_rfl)) k0 bel lt0) (trodAll_cons_mk (Below.trod laidOut (by kernel_rfl) (of_decide_eq_true (by kernel_rfl)) k1 bel lt1) trodAll_mk0)), rfl, bel.frame _, fun h => by cases h⟩

theorem over : Rows.fnExactAddVesselRow.holds Try.pinned (OpenSpec.ofChange Rows.fnExactAddVesselSpec) :=
  OpenClaim.holds_of_wide 7 Try.f7 rfl rfl rfl rfl rfl rfl rfl ⟨rfl, rfl, rfl, rfl, rfl⟩ rfl rfl rfl rfl rfl (by kernel_rfl) Try.func7 (by kernel_rfl)
    (of_decide_eq_true (by kernel_rfl)) (by unfold Func.isWrapper; first | (rw [if_pos (by decide +kernel)]; kernel_rfl) | (rw [if_neg (by decide +kernel)]; exact ⟨rfl, rfl⟩))
    (fun os started H enc _ => lifted os started H enc)

/-- The statement. -/
theorem proved : Rows.FnExactAddVesselSaid := over
end Go.Proofs.Ytgadceelbeacgaa.fnExactAddVessel
