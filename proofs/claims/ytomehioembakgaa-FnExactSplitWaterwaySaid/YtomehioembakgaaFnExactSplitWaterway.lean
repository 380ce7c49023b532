/- SplitWaterway answers as its model does, at every waterway and all numbers; it writes into no argument and its answers own their memory. -/
import Derived.Test.YtomehioembakgaaWayRow
import Derived.OpenShut
import Derived.ShutString
import Derived.ChangeOld
import Derived.WalkLawsBesides
import Derived.Lib.SmallJoins
import Derived.Deep.RegionHeld3
namespace Go.Proofs.Ytomehioembakgaa.fnExactSplitWaterway
open Go.ChangeShapes Go.WideShapes Go.ChangeAt Go.RowKit
open Go.ChangeMaps (open_string shut_string)
set_option linter.unusedVariables false

set_option maxRecDepth 100000 in
set_option maxHeartbeats 8000000 in
theorem walk (a : Option Addr) (n c : Nat) (rs : List (Int × Int × Int)) (b : Option Addr) (n2 c2 : Nat) (zs : List Int) (p : Int) (w : World) (hn : rs.length = n) (hm : n ≤ maxLen) (hr : Has w w.heap.size a (flat rs)) (hz : IsInts .i64 w b n2 zs) (kp : (Lit.int .i64 p).wf = true) :
    Calls Try.prog 11 #[.agg #[.slice a n c, .slice b n2 c2], .int .i64 p] w fun e w' => e = .returned (.bool true) ∧ Below w.heap.size w w' := by
  have hw : IsWay w w.heap.size a n b n2 rs zs := ⟨hn, hz.1, Nat.le_refl _, hr, hz.2.2.2⟩
  have hm2 := hz.2.1
  have HM2 := Lib.hid hm2
  have HM := Lib.hid hm
  by_cases hfit : (n : Int) + (n2 : Int) ≤ 1048576
  · obtain ⟨R, Z, R', Z', y, ⟨hR, hZ, hR', hZ'⟩, hCS, hCI⟩ := two_SplitWaterway n n2 rs zs p hn hz.1 hm (by omega)
    have CS := Lib.hid hCS
    have CI := Lib.hid hCI
    have HW := Lib.hid hw
    clear hCS hCI hn hr hz hw hm hm2
    have SZ := Lib.hid (fun W => szW_any a b n c n2 c2 1048576 W HM.out HM2.out (by omega) (by omega) (1048576 - n - n2) (fun _ => rfl) (fun h => absurd hfit h))
    have hney : (y != y) = false := by simp
    have hl1 : n ≤ 1048576 := by omega
    have hl2 : n2 ≤ 1048576 := by omega
    have hl3 : n ≤ maxLen := HM.out
    go_enter Try.func11, Try.ntmps11
    have S0 := Lib.hid ((St.start w).box (.slice a n c) (.slice b n2 c2) 44)
    go_wp2_with fail
    refine (SZ.out _).mono ?_
    rintro e w1 ⟨rfl, hb⟩
    have S1 := Lib.hid (S0.out.quiet hb)
    clear hb S0 SZ
    -- the copy for the model, the model's answer
    have c0 := (S1.out.cell (w.heap.size, 0, .slice a n c) (by simp)).2
    have c1 := (S1.out.cell (w.heap.size, 1, .slice b n2 c2) (by simp)).2
    go_wp2_with fail
    refine (toW_way c c2 (HW.out.below S1.out.low (Nat.le_refl _)) hl1 hl2).mono ?_
    rintro e w2 ⟨g, g2, rfl, -, -, -, i2, hb⟩
    have S2 := Lib.hid (S1.out.quiet hb)
    clear hb S1 c0 c1
    go_wp2_with fail
    refine (CS.out _ _ _ _ n n2 i2 (Nat.le_refl _) (Nat.le_refl _)).mono ?_
    rintro e w3 ⟨s1, s2, s3, s4, rfl, o1, o2, o3, o4, -, -, hb⟩
    have z2 := S2.out.low.size
    have ls1 := fun g e => o1.lt g e
    have ls2 := fun g e => o2.lt g e
    have ls3 := fun g e => o3.lt g e
    have ls4 := fun g e => o4.lt g e
    have S3 := Lib.hid (((S2.out.quiet hb).add4 (r1 := ra s1 R.length (flat R)) (r2 := ia s2 Z.length (Z.map (.int .i64))) (r3 := ra s3 R'.length (flat R')) (r4 := ia s4 Z'.length (Z'.map (.int .i64))) (own_low o1 z2) (own_low o2 z2) (own_low o3 z2) (own_low o4 z2)).box2 s1 s2 s3 s4 27 27)
    obtain ⟨A1, d1, rfl⟩ := own_form2 o1
    obtain ⟨A2, d2, rfl⟩ := own_form2 o2
    obtain ⟨A3, d3, rfl⟩ := own_form2 o3
    obtain ⟨A4, d4, rfl⟩ := own_form2 o4
    clear hb S2 i2 o1 o2 o3 o4
    have c0 := (S3.out.cell (w.heap.size, 0, .slice a n c) (by simp)).2
    have c1 := (S3.out.cell (w.heap.size, 1, .slice b n2 c2) (by simp)).2
    go_wp2_with fail
    obtain ⟨W3, hW3⟩ : ∃ W3, ((w3.alloc (.cells #[.slice A1 R.length d1, .slice A2 Z.length d2] 27)).alloc (.cells #[.slice A3 R'.length d3, .slice A4 Z'.length d4] 27)) = W3 := ⟨_, rfl⟩
    have z3 : W3.heap.size = w3.heap.size + 1 + 1 := by rw [← hW3]; simp
    obtain ⟨b6, hb6⟩ : ∃ b6, w3.heap.size = b6 := ⟨_, rfl⟩
    rw [hW3] at S3 c0 c1 ⊢
    rw [hb6] at S3 z3 ls1 ls2 ls3 ls4 ⊢
    clear hW3 hb6
    -- the copy for the program, its answer
    refine (toW_way c c2 (HW.out.below S3.out.low (Nat.le_refl _)) hl1 hl2).mono ?_
    rintro e w4 ⟨h, h2, rfl, hh, ho1, ho2, i4, hb⟩
    obtain ⟨y1, y2⟩ := ho1.lt h rfl
    obtain ⟨y3, y4⟩ := ho2.lt h2 rfl
    have S4 := Lib.hid ((((S3.out.quiet hb).own (ia (.slice (some ⟨h2, 0, none⟩) n2 n2) n2 (zs.map (.int .i64))) (own_low ho2 S3.out.low.size)).own (ra (.slice (some ⟨h, 0, none⟩) n n) n (flat rs)) (own_low ho1 S3.out.low.size)).box (.slice (some ⟨h, 0, none⟩) n n) (.slice (some ⟨h2, 0, none⟩) n2 n2) 27)
    have j4 := Lib.hid (fun o => i4.below ((Below.refl _ w4).alloc (Nat.le_refl _) o) (Nat.le_refl _))
    clear hb S3 c0 c1 ho1 ho2 i4
    go_wp2_with fail
    obtain ⟨xb, hxb⟩ : ∃ xb, w4.heap.size = xb := ⟨_, rfl⟩
    obtain ⟨W4, hW4⟩ : ∃ W4, w4.alloc (.cells #[.slice (some ⟨h, 0, none⟩) n n, .slice (some ⟨h2, 0, none⟩) n2 n2] 27) = W4 := ⟨_, rfl⟩
    have z4 : W4.heap.size = xb + 1 := by rw [← hW4, ← hxb]; simp
    replace j4 := j4.out (.cells #[.slice (some ⟨h, 0, none⟩) n n, .slice (some ⟨h2, 0, none⟩) n2 n2] 27)
    rw [hW4] at S4 j4 ⊢
    rw [hxb] at S4 j4 y2 y4 ⊢
    clear hW4 hxb
    refine (CI.out _ _ _ _ n n2 j4 (Nat.le_refl _) (Nat.le_refl _)).mono ?_
    rintro e w5 ⟨t1, t2, t3, t4, rfl, o1, o2, o3, o4, ne13, ne24, hb⟩
    have z5 := S4.out.low.size
    have lt1 := fun g e => o1.lt g e
    have lt2 := fun g e => o2.lt g e
    have lt3 := fun g e => o3.lt g e
    have lt4 := fun g e => o4.lt g e
    have S5 := Lib.hid (((S4.out.quiet hb).add4 (r1 := ra t1 R.length (flat R)) (r2 := ia t2 Z.length (Z.map (.int .i64))) (r3 := ra t3 R'.length (flat R')) (r4 := ia t4 Z'.length (Z'.map (.int .i64))) (own_low o1 z5) (own_low o2 z5) (own_low o3 z5) (own_low o4 z5)).box2 t1 t2 t3 t4 27 27)
    have j5 := Lib.hid (fun o o' => (j4.below hb (by omega)).below (((Below.refl w5.heap.size w5).alloc (Nat.le_refl _) o).alloc (by simp) o') (by have := hb.size; omega))
    have zb := hb.size
    obtain ⟨D1, f1, rfl⟩ := own_form2 o1
    obtain ⟨D2, f2, rfl⟩ := own_form2 o2
    obtain ⟨D3, f3, rfl⟩ := own_form2 o3
    obtain ⟨D4, f4, rfl⟩ := own_form2 o4
    clear hb S4 j4 o1 o2 o3 o4
    have e0 := (S5.out.cell (w5.heap.size, 0, .slice D1 R.length f1) (by simp)).2
    have e1 := (S5.out.cell (w5.heap.size, 1, .slice D2 Z.length f2) (by simp)).2
    have e2 := (S5.out.cell (w5.heap.size + 1, 0, .slice D3 R'.length f3) (by simp)).2
    have e3 := (S5.out.cell (w5.heap.size + 1, 1, .slice D4 Z'.length f4) (by simp)).2
    have g0 := (S5.out.cell (b6, 0, .slice A1 R.length d1) (by simp)).2
    have g1 := (S5.out.cell (b6, 1, .slice A2 Z.length d2) (by simp)).2
    have g2 := (S5.out.cell (b6 + 1, 0, .slice A3 R'.length d3) (by simp)).2
    have g3 := (S5.out.cell (b6 + 1, 1, .slice A4 Z'.length d4) (by simp)).2
    go_wp2_with fail
    obtain ⟨b10, hb10⟩ : ∃ b10, w5.heap.size = b10 := ⟨_, rfl⟩
    obtain ⟨W5, hW5⟩ : ∃ W5, ((w5.alloc (.cells #[.slice D1 R.length f1, .slice D2 Z.length f2] 27)).alloc (.cells #[.slice D3 R'.length f3, .slice D4 Z'.length f4] 27)) = W5 := ⟨_, rfl⟩
    have z7 : W5.heap.size = b10 + 1 + 1 := by rw [← hW5, ← hb10]; simp
    replace j5 := Lib.hid (j5.out (.cells #[.slice D1 R.length f1, .slice D2 Z.length f2] 27) (.cells #[.slice D3 R'.length f3, .slice D4 Z'.length f4] 27))
    rw [hW5] at S5 j5 e0 e1 e2 e3 g0 g1 g2 g3 ⊢
    rw [hb10] at S5 e0 e1 e2 e3 zb lt1 lt2 lt3 lt4 ⊢
    clear hW5 hb10
    have hmR : R.length ≤ maxLen := by unfold maxLen; omega
    have hmZ : Z.length ≤ maxLen := by unfold maxLen; omega
    have hmR' : R'.length ≤ maxLen := by unfold maxLen; omega
    have hmZ' : Z'.length ≤ maxLen := by unfold maxLen; omega
    refine (eqW_row (S5.out.row (ra (.slice D1 R.length f1) R.length (flat R)) (by simp)) (S5.out.row (ia (.slice D2 Z.length f2) Z.length (Z.map (.int .i64))) (by simp)) (S5.out.row (ra (.slice A1 R.length d1) R.length (flat R)) (by simp)) (S5.out.row (ia (.slice A2 Z.length d2) Z.length (Z.map (.int .i64))) (by simp)) hmR hmZ).mono ?_
    rintro e w6 ⟨rfl, hb⟩
    have S6 := Lib.hid (S5.out.quiet hb)
    have j6 := Lib.hid (j5.out.all.below hb (Nat.le_refl _))
    clear hb S5 j5
    have e2 := (S6.out.cell (b10 + 1, 0, .slice D3 R'.length f3) (by simp)).2
    have e3 := (S6.out.cell (b10 + 1, 1, .slice D4 Z'.length f4) (by simp)).2
    have g2 := (S6.out.cell (b6 + 1, 0, .slice A3 R'.length d3) (by simp)).2
    have g3 := (S6.out.cell (b6 + 1, 1, .slice A4 Z'.length d4) (by simp)).2
    go_wp2_with fail
    refine (eqW_row (S6.out.row (ra (.slice D3 R'.length f3) R'.length (flat R')) (by simp)) (S6.out.row (ia (.slice D4 Z'.length f4) Z'.length (Z'.map (.int .i64))) (by simp)) (S6.out.row (ra (.slice A3 R'.length d3) R'.length (flat R')) (by simp)) (S6.out.row (ia (.slice A4 Z'.length d4) Z'.length (Z'.map (.int .i64))) (by simp)) hmR' hmZ').mono ?_
    rintro e w7 ⟨rfl, hb⟩
    have S7 := Lib.hid (S6.out.quiet hb)
    have j7 := Lib.hid (j6.out.all.below hb (Nat.le_refl _))
    clear hb S6 j6
    have KEEP := Lib.hid (fun W (hb : Below w7.heap.size w7 W) => (⟨hb, (((S7.out.quiet hb).cell (xb, 0, .slice (some ⟨h, 0, none⟩) n n) (by simp)).2 : W.cell? ⟨xb, 0, none⟩ = _), (((S7.out.quiet hb).cell (xb, 1, .slice (some ⟨h2, 0, none⟩) n2 n2) (by simp)).2 : W.cell? ⟨xb, 1, none⟩ = _), (((S7.out.quiet hb).cell (w.heap.size, 0, .slice a n c) (by simp)).2 : W.cell? ⟨w.heap.size, 0, none⟩ = _), (((S7.out.quiet hb).cell (w.heap.size, 1, .slice b n2 c2) (by simp)).2 : W.cell? ⟨w.heap.size, 1, none⟩ = _)⟩ :
      Below w7.heap.size w7 W ∧ W.cell? ⟨xb, 0, none⟩ = some (.slice (some ⟨h, 0, none⟩) n n) ∧ W.cell? ⟨xb, 1, none⟩ = some (.slice (some ⟨h2, 0, none⟩) n2 n2) ∧ W.cell? ⟨w.heap.size, 0, none⟩ = some (.slice a n c) ∧ W.cell? ⟨w.heap.size, 1, none⟩ = some (.slice b n2 c2)))
    have KD := Lib.hid (KEEP.out w7.drew ((Drawn.one w7 1).below _))
    have KT := Lib.hid (fun W W' (hb : Below w7.heap.size w7 W) (hb' : Below W.heap.size W W') => KEEP.out W' (hb.trans (hb'.mono hb.size)))
    have IA := Lib.hid (fun W (hb : Below w7.heap.size w7 W) => HW.out.below (S7.out.quiet hb).low (Nat.le_refl _))
    have IX := Lib.hid (fun W (hb : Below w7.heap.size w7 W) => (j7.out.all.below hb (Nat.le_refl _)))
    clear e0 e1 e2 e3 g0 g1 g2 g3
    go_wp2_with fail
    go_region_held3 (fun W => Below w7.heap.size w7 W ∧ W.cell? ⟨xb, 0, none⟩ = some (.slice (some ⟨h, 0, none⟩) n n) ∧ W.cell? ⟨xb, 1, none⟩ = some (.slice (some ⟨h2, 0, none⟩) n2 n2) ∧ W.cell? ⟨w.heap.size, 0, none⟩ = some (.slice a n c) ∧ W.cell? ⟨w.heap.size, 1, none⟩ = some (.slice b n2 c2))
      (first | exact KD.out | exact KT.out _ _ KD.out.1 hb6 | exact KT.out _ _ (KD.out.1.trans (hb6.mono KD.out.1.size)) hb7)
      (first
        | (go_at_call 32; refine (toW_way c c2 (IA.out _ KD.out.1) hl1 hl2).mono ?_; rintro e w7a ⟨q1, q2, rfl, -, -, -, i6, hb6⟩)
        | (go_at_call 34; refine (eqW_way n n2 n n2 (IX.out _ (KD.out.1.trans (hb6.mono KD.out.1.size))) i6 hl3 HM2.out).mono ?_; rintro e w8 ⟨rfl, hb7⟩))
    have S8 := Lib.hid (S7.out.quiet (KT.out _ _ (KD.out.1.trans (hb6.mono KD.out.1.size)) hb7).1)
    have x0 := (S8.out.cell (xb, 0, .slice (some ⟨h, 0, none⟩) n n) (by simp)).2
    have x1 := (S8.out.cell (xb, 1, .slice (some ⟨h2, 0, none⟩) n2 n2) (by simp)).2
    clear KEEP KD KT IA IX hb6 hb7 i6 S7 j7
    have yb6 := (S8.out.cell (b6, 0, .slice A1 R.length d1) (by simp)).1
    have yb10 := (S8.out.cell (b10, 0, .slice D1 R.length f1) (by simp)).1
    have yxb := (S8.out.cell (xb, 0, .slice (some ⟨h, 0, none⟩) n n) (by simp)).1
    simp only at yb6 yb10 yxb
    go_wp2_with fail
    -- the argument is written over
    refine (markW_row _ _ n n2 w.heap.size 1 (flat rs) (zs.map (.int .i64)) _ (by omega) (by omega) (S8.out.row (ra (.slice (some ⟨h, 0, none⟩) n n) n (flat rs)) (by simp)) (S8.out.row (ia (.slice (some ⟨h2, 0, none⟩) n2 n2) n2 (zs.map (.int .i64))) (by simp)) (.inr (by simp [Value.ownBlock]; exact fun e => hh e.symm))).mono ?_
    rintro e w9 ⟨rfl, M, hg1, hg2, -, -⟩
    replace hg1 : _root_.Go.World.grownBy _ M (some h) := hg1
    replace hg2 : M.grownBy w9 (some h2) := hg2
    have T8 := S8.out.sub (rows' := [ra (.slice D1 R.length f1) R.length (flat R), ia (.slice D2 Z.length f2) Z.length (Z.map (.int .i64)), ra (.slice D3 R'.length f3) R'.length (flat R'), ia (.slice D4 Z'.length f4) Z'.length (Z'.map (.int .i64)), ra (.slice A1 R.length d1) R.length (flat R), ia (.slice A2 Z.length d2) Z.length (Z.map (.int .i64)), ra (.slice A3 R'.length d3) R'.length (flat R'), ia (.slice A4 Z'.length d4) Z'.length (Z'.map (.int .i64))]) (by simp)
    have T9 := T8.grown hg1 (fun q e => by cases e; omega) (by intro p hp e; have hq : p.1 = h := (by injection e); simp only [List.mem_cons, List.not_mem_nil, or_false] at hp; rcases hp with rfl | rfl | rfl | rfl | rfl | rfl | rfl | rfl | rfl | rfl | rfl | rfl <;> simp at hq <;> omega) (List.forall_mem_cons.2 ⟨ne_num lt1 (by omega), (List.forall_mem_cons.2 ⟨ne_num lt2 (by omega), (List.forall_mem_cons.2 ⟨ne_num lt3 (by omega), (List.forall_mem_cons.2 ⟨ne_num lt4 (by omega), (List.forall_mem_cons.2 ⟨ne_num ls1 (by omega), (List.forall_mem_cons.2 ⟨ne_num ls2 (by omega), (List.forall_mem_cons.2 ⟨ne_num ls3 (by omega), (List.forall_mem_cons.2 ⟨ne_num ls4 (by omega), (by simp)⟩)⟩)⟩)⟩)⟩)⟩)⟩)⟩)
    have S9 := Lib.hid (T9.grown hg2 (fun q e => by cases e; omega) (by intro p hp e; have hq : p.1 = h2 := (by injection e); simp only [List.mem_cons, List.not_mem_nil, or_false] at hp; rcases hp with rfl | rfl | rfl | rfl | rfl | rfl | rfl | rfl | rfl | rfl | rfl | rfl <;> simp at hq <;> omega) (List.forall_mem_cons.2 ⟨ne_num lt1 (by omega), (List.forall_mem_cons.2 ⟨ne_num lt2 (by omega), (List.forall_mem_cons.2 ⟨ne_num lt3 (by omega), (List.forall_mem_cons.2 ⟨ne_num lt4 (by omega), (List.forall_mem_cons.2 ⟨ne_num ls1 (by omega), (List.forall_mem_cons.2 ⟨ne_num ls2 (by omega), (List.forall_mem_cons.2 ⟨ne_num ls3 (by omega), (List.forall_mem_cons.2 ⟨ne_num ls4 (by omega), (by simp)⟩)⟩)⟩)⟩)⟩)⟩)⟩)⟩))
    clear hg1 hg2 T8 T9 S8 x0 x1
    have hk1 : ¬ (1 + 3 * (n : Int) + (n2 : Int) < 0) := by omega
    have e0 := (S9.out.cell (b10, 0, .slice D1 R.length f1) (by simp)).2
    have e1 := (S9.out.cell (b10, 1, .slice D2 Z.length f2) (by simp)).2
    have g0 := (S9.out.cell (b6, 0, .slice A1 R.length d1) (by simp)).2
    have g1 := (S9.out.cell (b6, 1, .slice A2 Z.length d2) (by simp)).2
    go_wp2_with fail
    refine (eqW_row (S9.out.row (ra (.slice D1 R.length f1) R.length (flat R)) (by simp)) (S9.out.row (ia (.slice D2 Z.length f2) Z.length (Z.map (.int .i64))) (by simp)) (S9.out.row (ra (.slice A1 R.length d1) R.length (flat R)) (by simp)) (S9.out.row (ia (.slice A2 Z.length d2) Z.length (Z.map (.int .i64))) (by simp)) hmR hmZ).mono ?_
    rintro e w10 ⟨rfl, hb⟩
    have S10 := Lib.hid (S9.out.quiet hb)
    clear hb S9
    clear e0 e1 g0 g1
    have e2 := (S10.out.cell (b10 + 1, 0, .slice D3 R'.length f3) (by simp)).2
    have e3 := (S10.out.cell (b10 + 1, 1, .slice D4 Z'.length f4) (by simp)).2
    have g2 := (S10.out.cell (b6 + 1, 0, .slice A3 R'.length d3) (by simp)).2
    have g3 := (S10.out.cell (b6 + 1, 1, .slice A4 Z'.length d4) (by simp)).2
    go_wp2_with fail
    refine (eqW_row (S10.out.row (ra (.slice D3 R'.length f3) R'.length (flat R')) (by simp)) (S10.out.row (ia (.slice D4 Z'.length f4) Z'.length (Z'.map (.int .i64))) (by simp)) (S10.out.row (ra (.slice A3 R'.length d3) R'.length (flat R')) (by simp)) (S10.out.row (ia (.slice A4 Z'.length d4) Z'.length (Z'.map (.int .i64))) (by simp)) hmR' hmZ').mono ?_
    rintro e w11 ⟨rfl, hb⟩
    have S11 := Lib.hid (S10.out.quiet hb)
    clear hb S10
    clear e2 e3 g2 g3
    have e0 := (S11.out.cell (b10, 0, .slice D1 R.length f1) (by simp)).2
    have e1 := (S11.out.cell (b10, 1, .slice D2 Z.length f2) (by simp)).2
    go_wp2_with fail
    refine (markW_row _ _ R.length Z.length w.heap.size 1 _ _ _ (by omega) (by omega) (S11.out.row (ra (.slice D1 R.length f1) R.length (flat R)) (by simp)) (S11.out.row (ia (.slice D2 Z.length f2) Z.length (Z.map (.int .i64))) (by simp)) (apart_of (S11.out.row (ia (.slice D2 Z.length f2) Z.length (Z.map (.int .i64))) (by simp)) (S11.out.row (ra (.slice D1 R.length f1) R.length (flat R)) (by simp)) ir_ne)).mono ?_
    rintro e w12 ⟨rfl, M, hg1, hg2, hoM, ho8⟩
    have T1 := S11.out.sub (rows' := [ra (.slice D1 R.length f1) R.length (flat R), ia (.slice D2 Z.length f2) Z.length (Z.map (.int .i64)), ra (.slice D3 R'.length f3) R'.length (flat R'), ia (.slice D4 Z'.length f4) Z'.length (Z'.map (.int .i64)), ra (.slice A1 R.length d1) R.length (flat R), ia (.slice A2 Z.length d2) Z.length (Z.map (.int .i64)), ra (.slice A3 R'.length d3) R'.length (flat R'), ia (.slice A4 Z'.length d4) Z'.length (Z'.map (.int .i64))]) (by simp)
    have T2 := T1.turn (r' := ra (.slice D1 R.length f1) R.length (nums 1 (3 * R.length))) hg1 (fun q e => by have := lt1 _ e; omega) (by intro p hp e; have hq := lt1 _ e.symm; simp only [List.mem_cons, List.not_mem_nil, or_false] at hp; rcases hp with rfl | rfl | rfl | rfl | rfl | rfl | rfl | rfl | rfl | rfl | rfl | rfl <;> simp at hq <;> omega) (List.forall_mem_cons.2 ⟨apart_of (S11.out.row (ia (.slice D2 Z.length f2) Z.length (Z.map (.int .i64))) (by simp)) (S11.out.row (ra (.slice D1 R.length f1) R.length (flat R)) (by simp)) ir_ne, (List.forall_mem_cons.2 ⟨ne_sym ne13, (List.forall_mem_cons.2 ⟨apart_of (S11.out.row (ia (.slice D4 Z'.length f4) Z'.length (Z'.map (.int .i64))) (by simp)) (S11.out.row (ra (.slice D1 R.length f1) R.length (flat R)) (by simp)) ir_ne, (List.forall_mem_cons.2 ⟨ne_of ls1 lt1 (by omega), (List.forall_mem_cons.2 ⟨ne_of ls2 lt1 (by omega), (List.forall_mem_cons.2 ⟨ne_of ls3 lt1 (by omega), (List.forall_mem_cons.2 ⟨ne_of ls4 lt1 (by omega), (by simp)⟩)⟩)⟩)⟩)⟩)⟩)⟩) hoM
    have T3 := Lib.hid (T2.sub (rows' := [ia (.slice D2 Z.length f2) Z.length (Z.map (.int .i64)), ra (.slice D1 R.length f1) R.length (nums 1 (3 * R.length)), ra (.slice D3 R'.length f3) R'.length (flat R'), ia (.slice D4 Z'.length f4) Z'.length (Z'.map (.int .i64)), ra (.slice A1 R.length d1) R.length (flat R), ia (.slice A2 Z.length d2) Z.length (Z.map (.int .i64)), ra (.slice A3 R'.length d3) R'.length (flat R'), ia (.slice A4 Z'.length d4) Z'.length (Z'.map (.int .i64))]) (by simp))
    clear T1 T2
    have T4 := T3.out.turn (r' := ia (.slice D2 Z.length f2) Z.length (nums (1 + 3 * R.length) Z.length)) hg2 (fun q e => by have := lt2 _ e; omega) (by intro p hp e; have hq := lt2 _ e.symm; simp only [List.mem_cons, List.not_mem_nil, or_false] at hp; rcases hp with rfl | rfl | rfl | rfl | rfl | rfl | rfl | rfl | rfl | rfl | rfl | rfl <;> simp at hq <;> omega) (List.forall_mem_cons.2 ⟨apart_of (T3.out.row (ra (.slice D1 R.length f1) R.length (nums 1 (3 * R.length))) (by simp)) (T3.out.row (ia (.slice D2 Z.length f2) Z.length (Z.map (.int .i64))) (by simp)) ri_ne, (List.forall_mem_cons.2 ⟨apart_of (T3.out.row (ra (.slice D3 R'.length f3) R'.length (flat R')) (by simp)) (T3.out.row (ia (.slice D2 Z.length f2) Z.length (Z.map (.int .i64))) (by simp)) ri_ne, (List.forall_mem_cons.2 ⟨ne_sym ne24, (List.forall_mem_cons.2 ⟨ne_of ls1 lt2 (by omega), (List.forall_mem_cons.2 ⟨ne_of ls2 lt2 (by omega), (List.forall_mem_cons.2 ⟨ne_of ls3 lt2 (by omega), (List.forall_mem_cons.2 ⟨ne_of ls4 lt2 (by omega), (by simp)⟩)⟩)⟩)⟩)⟩)⟩)⟩) ho8
    have S12 := Lib.hid (T4.sub (rows' := [ra (.slice D1 R.length f1) R.length (nums 1 (3 * R.length)), ia (.slice D2 Z.length f2) Z.length (nums (1 + 3 * R.length) Z.length), ra (.slice D3 R'.length f3) R'.length (flat R'), ia (.slice D4 Z'.length f4) Z'.length (Z'.map (.int .i64)), ra (.slice A1 R.length d1) R.length (flat R), ia (.slice A2 Z.length d2) Z.length (Z.map (.int .i64)), ra (.slice A3 R'.length d3) R'.length (flat R'), ia (.slice A4 Z'.length d4) Z'.length (Z'.map (.int .i64))]) (by simp))
    clear hg1 hg2 hoM ho8 T3 T4 S11
    clear e0 e1
    obtain ⟨m3, hm3⟩ : ∃ m3, 1 + 3 * (R.length : Int) + (Z.length : Int) = m3 := ⟨_, rfl⟩
    have HM3 := Lib.hid hm3
    have hm30 : 0 < m3 := by omega
    have hm31 : m3 ≤ 10000000 := by omega
    rw [hm3]
    clear hm3
    have e2 := (S12.out.cell (b10 + 1, 0, .slice D3 R'.length f3) (by simp)).2
    have e3 := (S12.out.cell (b10 + 1, 1, .slice D4 Z'.length f4) (by simp)).2
    go_wp2_with fail
    refine (markW_row _ _ R'.length Z'.length w.heap.size m3 _ _ _ (by omega) (by omega) (S12.out.row (ra (.slice D3 R'.length f3) R'.length (flat R')) (by simp)) (S12.out.row (ia (.slice D4 Z'.length f4) Z'.length (Z'.map (.int .i64))) (by simp)) (apart_of (S12.out.row (ia (.slice D4 Z'.length f4) Z'.length (Z'.map (.int .i64))) (by simp)) (S12.out.row (ra (.slice D3 R'.length f3) R'.length (flat R')) (by simp)) ir_ne)).mono ?_
    rintro e w13 ⟨rfl, M, hg1, hg2, hoM, ho8⟩
    have T1 := S12.out.sub (rows' := [ra (.slice D3 R'.length f3) R'.length (flat R'), ia (.slice D4 Z'.length f4) Z'.length (Z'.map (.int .i64)), ra (.slice D1 R.length f1) R.length (nums 1 (3 * R.length)), ia (.slice D2 Z.length f2) Z.length (nums (1 + 3 * R.length) Z.length), ra (.slice A1 R.length d1) R.length (flat R), ia (.slice A2 Z.length d2) Z.length (Z.map (.int .i64)), ra (.slice A3 R'.length d3) R'.length (flat R'), ia (.slice A4 Z'.length d4) Z'.length (Z'.map (.int .i64))]) (by simp)
    have T2 := T1.turn (r' := ra (.slice D3 R'.length f3) R'.length (nums m3 (3 * R'.length))) hg1 (fun q e => by have := lt3 _ e; omega) (by intro p hp e; have hq := lt3 _ e.symm; simp only [List.mem_cons, List.not_mem_nil, or_false] at hp; rcases hp with rfl | rfl | rfl | rfl | rfl | rfl | rfl | rfl | rfl | rfl | rfl | rfl <;> simp at hq <;> omega) (List.forall_mem_cons.2 ⟨apart_of (S12.out.row (ia (.slice D4 Z'.length f4) Z'.length (Z'.map (.int .i64))) (by simp)) (S12.out.row (ra (.slice D3 R'.length f3) R'.length (flat R')) (by simp)) ir_ne, (List.forall_mem_cons.2 ⟨ne13, (List.forall_mem_cons.2 ⟨apart_of (S12.out.row (ia (.slice D2 Z.length f2) Z.length (nums (1 + 3 * R.length) Z.length)) (by simp)) (S12.out.row (ra (.slice D3 R'.length f3) R'.length (flat R')) (by simp)) ir_ne, (List.forall_mem_cons.2 ⟨ne_of ls1 lt3 (by omega), (List.forall_mem_cons.2 ⟨ne_of ls2 lt3 (by omega), (List.forall_mem_cons.2 ⟨ne_of ls3 lt3 (by omega), (List.forall_mem_cons.2 ⟨ne_of ls4 lt3 (by omega), (by simp)⟩)⟩)⟩)⟩)⟩)⟩)⟩) hoM
    have T3 := Lib.hid (T2.sub (rows' := [ia (.slice D4 Z'.length f4) Z'.length (Z'.map (.int .i64)), ra (.slice D3 R'.length f3) R'.length (nums m3 (3 * R'.length)), ra (.slice D1 R.length f1) R.length (nums 1 (3 * R.length)), ia (.slice D2 Z.length f2) Z.length (nums (1 + 3 * R.length) Z.length), ra (.slice A1 R.length d1) R.length (flat R), ia (.slice A2 Z.length d2) Z.length (Z.map (.int .i64)), ra (.slice A3 R'.length d3) R'.length (flat R'), ia (.slice A4 Z'.length d4) Z'.length (Z'.map (.int .i64))]) (by simp))
    clear T1 T2
    have T4 := T3.out.turn (r' := ia (.slice D4 Z'.length f4) Z'.length (nums (m3 + 3 * R'.length) Z'.length)) hg2 (fun q e => by have := lt4 _ e; omega) (by intro p hp e; have hq := lt4 _ e.symm; simp only [List.mem_cons, List.not_mem_nil, or_false] at hp; rcases hp with rfl | rfl | rfl | rfl | rfl | rfl | rfl | rfl | rfl | rfl | rfl | rfl <;> simp at hq <;> omega) (List.forall_mem_cons.2 ⟨apart_of (T3.out.row (ra (.slice D3 R'.length f3) R'.length (nums m3 (3 * R'.length))) (by simp)) (T3.out.row (ia (.slice D4 Z'.length f4) Z'.length (Z'.map (.int .i64))) (by simp)) ri_ne, (List.forall_mem_cons.2 ⟨apart_of (T3.out.row (ra (.slice D1 R.length f1) R.length (nums 1 (3 * R.length))) (by simp)) (T3.out.row (ia (.slice D4 Z'.length f4) Z'.length (Z'.map (.int .i64))) (by simp)) ri_ne, (List.forall_mem_cons.2 ⟨ne24, (List.forall_mem_cons.2 ⟨ne_of ls1 lt4 (by omega), (List.forall_mem_cons.2 ⟨ne_of ls2 lt4 (by omega), (List.forall_mem_cons.2 ⟨ne_of ls3 lt4 (by omega), (List.forall_mem_cons.2 ⟨ne_of ls4 lt4 (by omega), (by simp)⟩)⟩)⟩)⟩)⟩)⟩)⟩) ho8
    have S13 := Lib.hid (T4.sub (rows' := [ra (.slice D3 R'.length f3) R'.length (nums m3 (3 * R'.length)), ia (.slice D4 Z'.length f4) Z'.length (nums (m3 + 3 * R'.length) Z'.length), ra (.slice D1 R.length f1) R.length (nums 1 (3 * R.length)), ia (.slice D2 Z.length f2) Z.length (nums (1 + 3 * R.length) Z.length), ra (.slice A1 R.length d1) R.length (flat R), ia (.slice A2 Z.length d2) Z.length (Z.map (.int .i64)), ra (.slice A3 R'.length d3) R'.length (flat R'), ia (.slice A4 Z'.length d4) Z'.length (Z'.map (.int .i64))]) (by simp))
    clear hg1 hg2 hoM ho8 T3 T4 S12
    clear e2 e3
    have e0 := (S13.out.cell (b10, 0, .slice D1 R.length f1) (by simp)).2
    have e1 := (S13.out.cell (b10, 1, .slice D2 Z.length f2) (by simp)).2
    go_wp2_with fail
    refine (heldW_row _ _ R.length Z.length w.heap.size 1 _ (by omega) (by omega) (S13.out.row (ra (.slice D1 R.length f1) R.length (nums 1 (3 * R.length))) (by simp)) (S13.out.row (ia (.slice D2 Z.length f2) Z.length (nums (1 + 3 * R.length) Z.length)) (by simp))).mono ?_
    rintro e w14 ⟨rfl, hb⟩
    have S14 := Lib.hid (S13.out.quiet hb)
    clear hb S13
    have hq1 : ¬ (m3 < 0) := by omega
    rw [HM3.out]
    clear e0 e1
    have e2 := (S14.out.cell (b10 + 1, 0, .slice D3 R'.length f3) (by simp)).2
    have e3 := (S14.out.cell (b10 + 1, 1, .slice D4 Z'.length f4) (by simp)).2
    go_wp2_with fail
    refine (heldW_row _ _ R'.length Z'.length w.heap.size m3 _ (by omega) (by omega) (S14.out.row (ra (.slice D3 R'.length f3) R'.length (nums m3 (3 * R'.length))) (by simp)) (S14.out.row (ia (.slice D4 Z'.length f4) Z'.length (nums (m3 + 3 * R'.length) Z'.length)) (by simp))).mono ?_
    rintro e w15 ⟨rfl, hb⟩
    have S15 := Lib.hid (S14.out.quiet hb)
    clear hb S14
    clear e2 e3
    obtain ⟨m4, hm4⟩ : ∃ m4, m3 + 3 * (R'.length : Int) + (Z'.length : Int) = m4 := ⟨_, rfl⟩
    have HM4 := Lib.hid hm4
    have hm40 : ¬ (m4 < 0) := by omega
    have hm41 : (m4 != m4) = false := by simp
    rw [hm4]
    clear hm4
    have c0 := (S15.out.cell (w.heap.size, 0, .slice a n c) (by simp)).2
    have c1 := (S15.out.cell (w.heap.size, 1, .slice b n2 c2) (by simp)).2
    go_wp2_with fail
    -- asked again
    refine (toW_way c c2 (HW.out.below S15.out.low (Nat.le_refl _)) hl1 hl2).mono ?_
    rintro e w16 ⟨k1, k2, rfl, -, -, -, i16, hb⟩
    have S16 := Lib.hid (S15.out.quiet hb)
    clear hb S15 c0 c1
    go_wp2_with fail
    refine (CI.out _ _ _ _ n n2 i16 (Nat.le_refl _) (Nat.le_refl _)).mono ?_
    rintro e w17 ⟨u1, u2, u3, u4, rfl, o1, o2, o3, o4, -, -, hb⟩
    have z16 := S16.out.low.size
    obtain ⟨U1, q1, rfl⟩ := own_form2 o1
    obtain ⟨U2, q2, rfl⟩ := own_form2 o2
    obtain ⟨U3, q3, rfl⟩ := own_form2 o3
    obtain ⟨U4, q4, rfl⟩ := own_form2 o4
    have S17 := Lib.hid (((S16.out.quiet hb).add4 (r1 := ra (.slice U1 R.length q1) R.length (flat R)) (r2 := ia (.slice U2 Z.length q2) Z.length (Z.map (.int .i64))) (r3 := ra (.slice U3 R'.length q3) R'.length (flat R')) (r4 := ia (.slice U4 Z'.length q4) Z'.length (Z'.map (.int .i64))) (own_low o1 z16) (own_low o2 z16) (own_low o3 z16) (own_low o4 z16)).box2 (.slice U1 R.length q1) (.slice U2 Z.length q2) (.slice U3 R'.length q3) (.slice U4 Z'.length q4) 27 27)
    clear hb S16 o1 o2 o3 o4 i16
    have k0 := (S17.out.cell (w17.heap.size, 0, .slice U1 R.length q1) (by simp)).2
    have k1 := (S17.out.cell (w17.heap.size, 1, .slice U2 Z.length q2) (by simp)).2
    have k2 := (S17.out.cell (w17.heap.size + 1, 0, .slice U3 R'.length q3) (by simp)).2
    have k3 := (S17.out.cell (w17.heap.size + 1, 1, .slice U4 Z'.length q4) (by simp)).2
    have g0 := (S17.out.cell (b6, 0, .slice A1 R.length d1) (by simp)).2
    have g1 := (S17.out.cell (b6, 1, .slice A2 Z.length d2) (by simp)).2
    have g2 := (S17.out.cell (b6 + 1, 0, .slice A3 R'.length d3) (by simp)).2
    have g3 := (S17.out.cell (b6 + 1, 1, .slice A4 Z'.length d4) (by simp)).2
    go_wp2_with fail
    obtain ⟨b16, hb16⟩ : ∃ b16, w17.heap.size = b16 := ⟨_, rfl⟩
    obtain ⟨W17, hW17⟩ : ∃ W17, ((w17.alloc (.cells #[.slice U1 R.length q1, .slice U2 Z.length q2] 27)).alloc (.cells #[.slice U3 R'.length q3, .slice U4 Z'.length q4] 27)) = W17 := ⟨_, rfl⟩
    rw [hW17] at S17 k0 k1 k2 k3 g0 g1 g2 g3 ⊢
    rw [hb16] at S17 k0 k1 k2 k3 ⊢
    clear hW17 hb16
    refine (eqW_row (S17.out.row (ra (.slice U1 R.length q1) R.length (flat R)) (by simp)) (S17.out.row (ia (.slice U2 Z.length q2) Z.length (Z.map (.int .i64))) (by simp)) (S17.out.row (ra (.slice A1 R.length d1) R.length (flat R)) (by simp)) (S17.out.row (ia (.slice A2 Z.length d2) Z.length (Z.map (.int .i64))) (by simp)) hmR hmZ).mono ?_
    rintro e w18 ⟨rfl, hb⟩
    have S18 := Lib.hid (S17.out.quiet hb)
    clear hb S17
    clear k0 k1 g0 g1 k2 k3 g2 g3
    have k2 := (S18.out.cell (b16 + 1, 0, .slice U3 R'.length q3) (by simp)).2
    have k3 := (S18.out.cell (b16 + 1, 1, .slice U4 Z'.length q4) (by simp)).2
    have g2 := (S18.out.cell (b6 + 1, 0, .slice A3 R'.length d3) (by simp)).2
    have g3 := (S18.out.cell (b6 + 1, 1, .slice A4 Z'.length d4) (by simp)).2
    go_wp2_with fail
    refine (eqW_row (S18.out.row (ra (.slice U3 R'.length q3) R'.length (flat R')) (by simp)) (S18.out.row (ia (.slice U4 Z'.length q4) Z'.length (Z'.map (.int .i64))) (by simp)) (S18.out.row (ra (.slice A3 R'.length d3) R'.length (flat R')) (by simp)) (S18.out.row (ia (.slice A4 Z'.length d4) Z'.length (Z'.map (.int .i64))) (by simp)) hmR' hmZ').mono ?_
    rintro e w19 ⟨rfl, hb⟩
    have S19 := Lib.hid (S18.out.quiet hb)
    clear hb S18
    clear k2 k3 g2 g3
    have e0 := (S19.out.cell (b10, 0, .slice D1 R.length f1) (by simp)).2
    have e1 := (S19.out.cell (b10, 1, .slice D2 Z.length f2) (by simp)).2
    go_wp2_with fail
    refine (heldW_row _ _ R.length Z.length w.heap.size 1 _ (by omega) (by omega) (S19.out.row (ra (.slice D1 R.length f1) R.length (nums 1 (3 * R.length))) (by simp)) (S19.out.row (ia (.slice D2 Z.length f2) Z.length (nums (1 + 3 * R.length) Z.length)) (by simp))).mono ?_
    rintro e w20 ⟨rfl, hb⟩
    have S20 := Lib.hid (S19.out.quiet hb)
    clear hb S19
    rw [HM3.out]
    clear e0 e1
    have e2 := (S20.out.cell (b10 + 1, 0, .slice D3 R'.length f3) (by simp)).2
    have e3 := (S20.out.cell (b10 + 1, 1, .slice D4 Z'.length f4) (by simp)).2
    go_wp2_with fail
    refine (heldW_row _ _ R'.length Z'.length w.heap.size m3 _ (by omega) (by omega) (S20.out.row (ra (.slice D3 R'.length f3) R'.length (nums m3 (3 * R'.length))) (by simp)) (S20.out.row (ia (.slice D4 Z'.length f4) Z'.length (nums (m3 + 3 * R'.length) Z'.length)) (by simp))).mono ?_
    rintro e w21 ⟨rfl, hb⟩
    have S21 := Lib.hid (S20.out.quiet hb)
    clear hb S20
    rw [HM4.out]
    clear e2 e3
    go_wp2_with fail
    go_ret
    exact ⟨rfl, S21.out.low⟩
  · clear hn hr hz hw hm hm2
    have SZ := Lib.hid (fun W => szW_any a b n c n2 c2 1048576 W HM.out HM2.out (by omega) (by omega) (-1) (fun h => absurd h hfit) (fun _ => rfl))
    clear hfit
    go_enter Try.func11, Try.ntmps11
    go_wp2_with fail
    refine (SZ.out _).mono ?_
    rintro e w1 ⟨rfl, hb⟩
    go_wp2_with fail
    go_ret
    exact ⟨rfl, ((Below.refl _ _).alloc (Nat.le_refl _) _).trans (hb.mono (by simp))⟩
theorem own : ownKnob Try.prog.godebug = none := by kernel_rfl
theorem laidOut : laidOutB Try.prog = true := by kernel_rfl

set_option maxRecDepth 100000 in
theorem lifted (os : Os) (started : os.Started) (H : Type) (enc : TypeId × Value → H) :
    ReturnsInHanded {} Try.checked os 11 .any (Rows.fnExactSplitWaterwaySpec.pre6 enc Try.prog Try.f11 Rows.fnExactSplitWaterwayRow.domain false) (Rows.fnExactSplitWaterwaySpec.post enc Try.prog Try.f11 false true false false) := by
  refine returnsInHanded_of_change (C := Try.checked) own started (by kernel_rfl) Try.func11
    (ChangeSpec.witness6 (enc := enc) (C := Try.checked) false ⟨#[], #[.agg #[.slice none 0 0, .slice none 0 0], .int .i64 0], []⟩ 8 (by kernel_rfl) (by kernel_rfl) (by kernel_rfl) (by kernel_rfl)) ?_
  intro W base args ds gs before hval0 hW hcnd _
  have hval : ∀ (j : Nat) t v, Try.f11.params[j]? = some t → args[j]? = some v → Value.okWide Try.prog W .any base t v := hval0
  have hW' := hW
  obtain ⟨p, q, hA0, hV, rfl, hfz, hnd⟩ := hW
  have hA : DataW.TrodAll enc Try.prog W 0 (fun _ => true) true Try.f11.params.toList args.toList ds p := hA0
  rw [Try.params11] at hA hval
  obtain ⟨v0, vs0, d0, ds0, p0, q0, hargs, rfl, rfl, h0, r0⟩ := trodAll_cons hA
  obtain ⟨v1, vs1, d1, ds1, p1, q1, rfl, rfl, rfl, h1, r1⟩ := trodAll_cons r0
  obtain ⟨rfl, rfl, rfl⟩ := trodAll_nil r1
  obtain rfl : args = #[v0, v1] := by cases args; simp_all
  obtain ⟨rfl, rfl⟩ := trodVars_none hV
  have k0 := h0
  have lt0 : ∀ x ∈ p0, x.block < W.heap.size := by obtain ⟨m, hm⟩ := k0; exact DataW.trod_lt m _ _ _ hm
  obtain ⟨c0, e0, y0, u0, m0, rfl, rfl, rfl, hy0, hu0⟩ := Go.Joins.open_agg2 Try.underlying44 (by kernel_rfl) (by kernel_rfl) (hval 0 44 v0 rfl rfl) h0
  obtain ⟨a0, len0, cap0, r0x, hcs, hrl0, hrm0, -, hrh0⟩ := open_reaches Try.underlying42 Try.underlying89 (by kernel_rfl) (by kernel_rfl) Try.underlying3 Try.underlying3 Try.underlying3 hy0
  injection hcs with hcs _
  subst hcs
  obtain ⟨b0, zen0, zap0, z0, hzs, w0⟩ : ∃ (b : Option Addr) (zen zap : Nat) (zs : List Int), e0 = .slice b zen zap ∧ IsInts .i64 W b zen zs := by
    rcases open_ints Try.underlying25 Try.underlying3 (by kernel_rfl) hu0 with ⟨hcs, _⟩ | ⟨x, l, c, zs, hcs, _, hl, hm, hz, _, hcell, hwz⟩
    · injection hcs with hcs _
      exact ⟨none, 0, 0, [], hcs, isInts_nil _ W⟩
    · injection hcs with hcs _
      exact ⟨_, _, _, _, hcs, isInts_some hl hm (by simpa using hz) hcell hwz⟩
  subst hzs
  obtain ⟨a1, rfl, rfl, rfl, w1⟩ := open_int Try.underlying3 (hval 1 3 v1 rfl rfl) h1
  clear hA0 hval0
  refine (walk a0 len0 cap0 r0x b0 zen0 zap0 z0 a1 W hrl0 hrm0 hrh0 w0 w1).mono fun e W' ⟨he, bel⟩ => ?_
  subst he
  exact ⟨_, rfl, _, _, _, [], _, [], hW', trodAll_mk1 (shut_bool Try.underlying4 _), (trodAll_cons_mk (Below.trod laidOut (by kernel_rfl) (of_decide_eq_true (by kernel_rfl)) k0 bel lt0) (trodAll_cons_mk (shut_int Try.underlying3 w1) trodAll_mk0)), rfl, bel.frame _, fun h => by cases h⟩

theorem over : Rows.fnExactSplitWaterwayRow.holds Try.pinned (OpenSpec.ofChange Rows.fnExactSplitWaterwaySpec) :=
  OpenClaim.holds_of_wide 11 Try.f11 rfl rfl rfl rfl rfl rfl rfl ⟨rfl, rfl, rfl, rfl, rfl⟩ rfl rfl rfl rfl rfl (by kernel_rfl) Try.func11 (by kernel_rfl)
    (of_decide_eq_true (by kernel_rfl)) (by unfold Func.isWrapper; first | (rw [if_pos (by decide +kernel)]; kernel_rfl) | (rw [if_neg (by decide +kernel)]; exact ⟨rfl, rfl⟩))
    (fun os started H enc _ => lifted os started H enc)

/-- The statement. -/
theorem proved : Rows.FnExactSplitWaterwaySaid := over
end Go.Proofs.Ytomehioembakgaa.fnExactSplitWaterway
