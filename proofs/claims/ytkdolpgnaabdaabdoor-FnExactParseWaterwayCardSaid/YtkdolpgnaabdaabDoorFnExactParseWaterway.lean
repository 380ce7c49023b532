/- What is proved: laws.FnExactParseWaterway, called with any string, returns true: the program's ParseWaterway answers as the reference model's, and its answer owns its memory. Condition: the library's tables and errors start as their text lays them (the card ties them to it). -/
import Derived.Test.YtkdolpgnaabdaabDoorPwD
import Derived.Test.YtkdolpgnaabdaabDoorWayMark
import Derived.Test.YtkdolpgnaabdaabDoorShaped
import Derived.Test.YtkdolpgnaabdaabDoorCards
import Derived.Test.YtkdolpgnaabdaabDoorTie
namespace Go.Proofs.YtkdolpgnaabdaabDoor.fnExactParseWaterway
open Go.ChangeShapes Go.WideShapes Go.ChangeAt Go.RowKit
open Go.ChangeMaps (open_string shut_string)
set_option linter.unusedVariables false
set_option linter.unusedSimpArgs false

theorem errs_of4 {x y z v u : String × DataW Unit} {w : World} (h : laidMet Tryd.prog (x :: y :: z :: v :: ("strconv.ErrRange", Rows.laid_strconv_ErrRange) :: ("strconv.ErrSyntax", Rows.laid_strconv_ErrSyntax) :: u :: []) w) : Errs w := by
  have h3 := h.tail.tail.tail.tail
  obtain ⟨a0, s0, hv0, -, -, -⟩ := laid_sentinel h3 gRng (show (Tryd.prog.globals[2]?).map (·.type) = some 61 by kernel_rfl) Tryd.underlying61 rowErr Tryd.underlying107 Tryd.underlying109 rfl rfl Tryd.underlying9 (by kernel_rfl) (by kernel_rfl)
  obtain ⟨a1, s1, hv1, -, -, -⟩ := laid_sentinel h3.tail gSyn (show (Tryd.prog.globals[1]?).map (·.type) = some 61 by kernel_rfl) Tryd.underlying61 rowErr Tryd.underlying107 Tryd.underlying109 rfl rfl Tryd.underlying9 (by kernel_rfl) (by kernel_rfl)
  exact ⟨⟨_, _, hv1⟩, ⟨_, _, hv0⟩⟩

/-- A row of integers, one of reaches. -/
abbrev ia (v : Value) (n : Nat) (xs : List Value) : RowOf := ⟨3, 1, v, n, xs⟩
abbrev ra (v : Value) (n : Nat) (xs : List Value) : RowOf := ⟨37, 3, v, n, xs⟩
theorem eqW_row {W : World} {base : Nat} {v1 v2 u1 u2 : Value} {R : List (Int × Int × Int)} {Z : List Int} (h1 : W.ownsRow base 37 3 v1 R.length (flat R)) (h2 : W.ownsRow base 3 1 v2 Z.length (Z.map (.int .i64))) (k1 : W.ownsRow base 37 3 u1 R.length (flat R)) (k2 : W.ownsRow base 3 1 u2 Z.length (Z.map (.int .i64)))
    (hm : R.length ≤ maxLen) (hm2 : Z.length ≤ maxLen) : Calls Tryd.prog 6 #[.agg #[v1, v2], .agg #[u1, u2]] W fun e w' => e = .returned (.bool true) ∧ Below W.heap.size W w' := by
  obtain ⟨A1, c1, rfl⟩ := own_form2 h1
  obtain ⟨A2, c2, rfl⟩ := own_form2 h2
  obtain ⟨D1, d1, rfl⟩ := own_form2 k1
  obtain ⟨D2, d2, rfl⟩ := own_form2 k2
  exact eqW_same A1 D1 A2 D2 R.length c1 d1 Z.length c2 d2 W.heap.size W.heap.size W.heap.size W.heap.size R Z W rfl hm rfl hm2 (Nat.le_refl _) (Nat.le_refl _) (Nat.le_refl _) (Nat.le_refl _) (own_hasv h1) (own_hasv k1) (own_hasv h2) (own_hasv k2)
theorem ne_num {v : Value} {lo hi h : Nat} (hv : ∀ g, v.ownBlock = some g → lo ≤ g ∧ g < hi) (hn : h < lo ∨ hi ≤ h) : v.ownBlock = none ∨ v.ownBlock ≠ some h := by
  cases e : v.ownBlock with
  | none => exact .inl rfl
  | some g =>
    refine .inr fun e2 => ?_
    have := hv g e
    injection e2 with e2
    omega
theorem ne_two {v u : Value} {a b c d : Nat} (hv : ∀ g, v.ownBlock = some g → a ≤ g ∧ g < b) (hu : ∀ g, u.ownBlock = some g → c ≤ g ∧ g < d) (hn : b ≤ c) : v.ownBlock = none ∨ v.ownBlock ≠ u.ownBlock := by
  cases e : v.ownBlock with
  | none => exact .inl rfl
  | some g =>
    refine .inr fun e2 => ?_
    have h1 := hv g e
    have h2 := hu g e2.symm
    omega
set_option maxRecDepth 100000 in
set_option maxHeartbeats 4000000 in
theorem walk (t : ByteArray) (w : World) (ht : t.size ≤ maxLen) (hL : laidMet Tryd.prog Rows.fnExactParseWaterwayRow.laid w) (hsh : w.ShapedOpen Tryd.prog) :
    Calls Tryd.prog 3 #[.string t] w fun e w' => e = .returned (.bool true) ∧ Below w.heap.size w w' := by
  have ht' : (t.size : Int) ≤ 9223372036854775807 := by unfold maxLen at ht; omega
  by_cases htl : (1048576 : Int) < (t.size : Int)
  · clear hL hsh
    go_enter Tryd.func3, Tryd.ntmps3
    go_wp2_with fail
    go_ret
    exact ⟨rfl, Below.refl _ _⟩
  have hT : Tab w := tab_of hL
  have hE : Errs w := errs_of4 hL
  have hM : Mx w := mx_ofS hsh
  obtain ⟨R, Z, x, hp⟩ := parsedW_ex t
  obtain ⟨hR6, hZ6⟩ := hp.len
  have CS := Lib.hid (fun W => specPW_any t W (by omega) R Z x hp)
  have CI := Lib.hid (fun W (hW : Below w.heap.size w W) => implPW_any t W (by omega) R Z x hp (hT.on hW (Nat.le_refl _)) (hE.on hW (Nat.le_refl _)) (hM.on hW (Nat.le_refl _)))
  have hxx : (x != x) = false := by simp
  have hmR : R.length ≤ maxLen := by unfold maxLen; omega
  have hmZ : Z.length ≤ maxLen := by unfold maxLen; omega
  have hq1 : ¬ (1 + 3 * (R.length : Int) + (Z.length : Int) < 0) := by omega
  have hq2 : ((1 + 3 * (R.length : Int) + (Z.length : Int)) != (1 + 3 * (R.length : Int) + (Z.length : Int))) = false := by simp
  clear hL hsh hT hE hM hp ht
  go_enter Tryd.func3, Tryd.ntmps3
  have S0 := Lib.hid (St.start w)
  go_wp2_with fail
  -- the model's answer
  refine (CS.out _).mono ?_
  rintro e w1 ⟨s1, s2, rfl, o1, o2, hb⟩
  have ls1 := fun g e => o1.lt g e
  have ls2 := fun g e => o2.lt g e
  have S1 := Lib.hid ((((S0.out.quiet hb).own (ia s2 Z.length (Z.map (.int .i64))) o2).own (ra s1 R.length (flat R)) o1).box s1 s2 25)
  obtain ⟨A1, d1, rfl⟩ := own_form2 o1
  obtain ⟨A2, d2, rfl⟩ := own_form2 o2
  have hw1 := hb.size
  clear hb S0 o1 o2 CS
  go_wp2_with fail
  obtain ⟨W1, hW1⟩ : ∃ W, w1.alloc (.cells #[.slice A1 R.length d1, .slice A2 Z.length d2] 25) = W := ⟨_, rfl⟩
  have z1 : W1.heap.size = w1.heap.size + 1 := by rw [← hW1]; simp
  obtain ⟨b1, hb1⟩ : ∃ b, w1.heap.size = b := ⟨_, rfl⟩
  rw [hW1] at S1 ⊢
  rw [hb1] at S1 z1 ls1 ls2 hw1 ⊢
  clear hW1 hb1
  -- the program's answer
  refine (CI.out _ S1.out.low).mono ?_
  rintro e w2 ⟨t1, t2, rfl, o3, o4, hb⟩
  have lt1 := fun g e => o3.lt g e
  have lt2 := fun g e => o4.lt g e
  have hw2 := hb.size
  have S2 := Lib.hid ((((S1.out.quiet hb).own (ia t2 Z.length (Z.map (.int .i64))) (own_low o4 S1.out.low.size)).own (ra t1 R.length (flat R)) (own_low o3 S1.out.low.size)).box t1 t2 25)
  obtain ⟨D1, f1, rfl⟩ := own_form2 o3
  obtain ⟨D2, f2, rfl⟩ := own_form2 o4
  clear hb S1 o3 o4
  have e0 := (S2.out.cell (w2.heap.size, 0, .slice D1 R.length f1) (by simp)).2
  have e1 := (S2.out.cell (w2.heap.size, 1, .slice D2 Z.length f2) (by simp)).2
  have g0 := (S2.out.cell (b1, 0, .slice A1 R.length d1) (by simp)).2
  have g1 := (S2.out.cell (b1, 1, .slice A2 Z.length d2) (by simp)).2
  go_wp2_with fail
  obtain ⟨W2, hW2⟩ : ∃ W, w2.alloc (.cells #[.slice D1 R.length f1, .slice D2 Z.length f2] 25) = W := ⟨_, rfl⟩
  have z2 : W2.heap.size = w2.heap.size + 1 := by rw [← hW2]; simp
  obtain ⟨b2, hb2⟩ : ∃ b, w2.heap.size = b := ⟨_, rfl⟩
  rw [hW2] at S2 ⊢
  rw [hb2] at S2 z2 lt1 lt2 hw2 ⊢
  clear hW2 hb2 e0 e1 g0 g1
  refine (eqW_row (S2.out.row (ra (.slice D1 R.length f1) R.length (flat R)) (by simp)) (S2.out.row (ia (.slice D2 Z.length f2) Z.length (Z.map (.int .i64))) (by simp)) (S2.out.row (ra (.slice A1 R.length d1) R.length (flat R)) (by simp)) (S2.out.row (ia (.slice A2 Z.length d2) Z.length (Z.map (.int .i64))) (by simp)) hmR hmZ).mono ?_
  rintro e w3 ⟨rfl, hb⟩
  have S3 := Lib.hid (S2.out.quiet hb)
  have hw3 := hb.size
  clear hb S2
  have x0 := (S3.out.cell (b2, 0, .slice D1 R.length f1) (by simp)).2
  have x1 := (S3.out.cell (b2, 1, .slice D2 Z.length f2) (by simp)).2
  go_wp2_with fail
  -- the answer is written over
  have r1 := S3.out.row (ra (.slice D1 R.length f1) R.length (flat R)) (by simp)
  have r2 := S3.out.row (ia (.slice D2 Z.length f2) Z.length (Z.map (.int .i64))) (by simp)
  have hne21 := own_ne r2 r1 ne_ir
  have hne12 := own_ne r1 r2 ne_ri
  refine (markW_row _ _ R.length Z.length w.heap.size 1 (flat R) (Z.map (.int .i64)) _ (by omega) (by omega) r1 r2 hne21).mono ?_
  rintro e w4 ⟨rfl, M, hg1, hg2, om1, om2⟩
  have T3 := S3.out.sub (rows' := [ra (.slice A1 R.length d1) R.length (flat R), ia (.slice A2 Z.length d2) Z.length (Z.map (.int .i64))]) (by simp)
  have T4 := T3.grown hg1 (fun q e => by have := (r1.lt q e).1; exact this) (by
    intro p hp e
    have hq := lt1 p.1 e.symm
    simp only [List.mem_cons, List.not_mem_nil, or_false] at hp
    rcases hp with rfl | rfl | rfl | rfl <;> simp at hq <;> omega) (List.forall_mem_cons.2 ⟨ne_two ls1 lt1 (by omega), List.forall_mem_cons.2 ⟨ne_two ls2 lt1 (by omega), by simp⟩⟩)
  have T5 := T4.grown hg2 (fun q e => by have := (r2.lt q e).1; exact this) (by
    intro p hp e
    have hq := lt2 p.1 e.symm
    simp only [List.mem_cons, List.not_mem_nil, or_false] at hp
    rcases hp with rfl | rfl | rfl | rfl <;> simp at hq <;> omega) (List.forall_mem_cons.2 ⟨ne_two ls1 lt2 (by omega), List.forall_mem_cons.2 ⟨ne_two ls2 lt2 (by omega), by simp⟩⟩)
  have S4 := Lib.hid ((T5.own (ia (.slice D2 Z.length f2) Z.length (nums (1 + 3 * R.length) Z.length)) om2).own (ra (.slice D1 R.length f1) R.length (nums 1 (3 * R.length))) (om1.kept hg2 hne12))
  clear T3 T4 T5 hg1 hg2 om1 om2 S3 r1 r2 x0 x1
  have x0 := (S4.out.cell (b2, 0, .slice D1 R.length f1) (by simp)).2
  have x1 := (S4.out.cell (b2, 1, .slice D2 Z.length f2) (by simp)).2
  go_wp2_with fail
  refine (heldW_row _ _ R.length Z.length w.heap.size 1 _ (by omega) (by omega) (S4.out.row (ra (.slice D1 R.length f1) R.length (nums 1 (3 * R.length))) (by simp)) (S4.out.row (ia (.slice D2 Z.length f2) Z.length (nums (1 + 3 * R.length) Z.length)) (by simp))).mono ?_
  rintro e w5 ⟨rfl, hb⟩
  have S5 := Lib.hid (S4.out.quiet hb)
  clear hb S4 x0 x1
  go_wp2_with fail
  -- once more
  refine (CI.out _ S5.out.low).mono ?_
  rintro e w6 ⟨u1, u2, rfl, o5, o6, hb⟩
  have S6 := Lib.hid ((((S5.out.quiet hb).own (ia u2 Z.length (Z.map (.int .i64))) (own_low o6 S5.out.low.size)).own (ra u1 R.length (flat R)) (own_low o5 S5.out.low.size)).box u1 u2 25)
  obtain ⟨E1, k1, rfl⟩ := own_form2 o5
  obtain ⟨E2, k2, rfl⟩ := own_form2 o6
  clear hb S5 o5 o6
  have e0 := (S6.out.cell (w6.heap.size, 0, .slice E1 R.length k1) (by simp)).2
  have e1 := (S6.out.cell (w6.heap.size, 1, .slice E2 Z.length k2) (by simp)).2
  have g0 := (S6.out.cell (b1, 0, .slice A1 R.length d1) (by simp)).2
  have g1 := (S6.out.cell (b1, 1, .slice A2 Z.length d2) (by simp)).2
  go_wp2_with fail
  clear e0 e1 g0 g1
  refine (eqW_row (S6.out.row (ra (.slice E1 R.length k1) R.length (flat R)) (by simp)) (S6.out.row (ia (.slice E2 Z.length k2) Z.length (Z.map (.int .i64))) (by simp)) (S6.out.row (ra (.slice A1 R.length d1) R.length (flat R)) (by simp)) (S6.out.row (ia (.slice A2 Z.length d2) Z.length (Z.map (.int .i64))) (by simp)) hmR hmZ).mono ?_
  rintro e w7 ⟨rfl, hb⟩
  have S7 := Lib.hid (S6.out.quiet hb)
  clear hb S6
  have x0 := (S7.out.cell (b2, 0, .slice D1 R.length f1) (by simp)).2
  have x1 := (S7.out.cell (b2, 1, .slice D2 Z.length f2) (by simp)).2
  go_wp2_with fail
  refine (heldW_row _ _ R.length Z.length w.heap.size 1 _ (by omega) (by omega) (S7.out.row (ra (.slice D1 R.length f1) R.length (nums 1 (3 * R.length))) (by simp)) (S7.out.row (ia (.slice D2 Z.length f2) Z.length (nums (1 + 3 * R.length) Z.length)) (by simp))).mono ?_
  rintro e w8 ⟨rfl, hb⟩
  have S8 := Lib.hid (S7.out.quiet hb)
  clear hb S7 x0 x1
  go_wp2_with fail
  go_ret
  exact ⟨rfl, S8.out.low⟩
theorem own : ownKnob Tryd.prog.godebug = none := by kernel_rfl
theorem laidOut : laidOutB Tryd.prog = true := by kernel_rfl

set_option maxRecDepth 100000 in
theorem lifted (os : Os) (started : os.Started) (H : Type) (enc : TypeId × Value → H) :
    ReturnsInHanded {} Tryd.checked os 3 .any (fun w args => (Rows.fnExactParseWaterwaySpec.pre enc Tryd.prog Tryd.f3 Rows.fnExactParseWaterwayRow.domain false w args ∧ laidMetH Tryd.prog Rows.fnExactParseWaterwayRow.laid w) ∧ sizedMet enc Tryd.prog Tryd.f3 (OpenSpec.ofChange Rows.fnExactParseWaterwaySpec) false w args)
      (Rows.fnExactParseWaterwaySpec.post enc Tryd.prog Tryd.f3 false true false false) := by
  refine handed_and_shaped (C := Tryd.checked) (X := fun w _ => laidMetH Tryd.prog Rows.fnExactParseWaterwayRow.laid w) (fun _ _ _ hh h => h.of_heap hh) own started (by kernel_rfl) Tryd.func3
    (ChangeSpec.witness_shaped (enc := enc) (C := Tryd.checked) (os := os) (X := fun w _ => laidMetH Tryd.prog Rows.fnExactParseWaterwayRow.laid w) false (World.laidAll Tryd.prog os Rows.fnExactParseWaterwayRow.laid) #[.string ByteArray.empty] 8 (World.laidAll_os _ _ _)
      (World.shaped_of_ZipB (by kernel_rfl) (by kernel_rfl)) (by kernel_rfl) (by kernel_rfl) (by kernel_rfl)
      (by rw [MakeChecks.laidMetH_plain _ _ _ (by kernel_rfl)]; exact laidMet_laidAll _ (by kernel_rfl) (by kernel_rfl))) ?_
  intro W base args ds gs before hval0 hW hcnd hsz0 hL hsh _
  rw [MakeChecks.laidMetH_plain _ _ _ (by kernel_rfl)] at hL
  have hval : ∀ (j : Nat) t v, Tryd.f3.params[j]? = some t → args[j]? = some v → Value.okWide Tryd.prog W .any base t v := hval0
  have hW' := hW
  obtain ⟨p, q, hA0, hV, rfl, hfz, hnd⟩ := hW
  have hA : DataW.TrodAll enc Tryd.prog W 0 (fun _ => true) true Tryd.f3.params.toList args.toList ds p := hA0
  rw [Tryd.params3] at hA hval
  obtain ⟨v0, vs0, d0, ds0, p0, q0, hargs, rfl, rfl, h0, r0⟩ := trodAll_cons hA
  obtain ⟨rfl, rfl, rfl⟩ := trodAll_nil r0
  obtain rfl : args = #[v0] := by cases args; simp_all
  obtain ⟨rfl, rfl⟩ := trodVars_none hV
  obtain ⟨a0, rfl, rfl, rfl, w0⟩ := open_string Tryd.underlying9 (hval 0 9 v0 rfl rfl) h0
  clear hA0 hval0
  refine (walk a0 W w0 hL hsh).mono fun e W' ⟨he, bel⟩ => ?_
  subst he
  exact ⟨_, rfl, _, _, _, [], _, [], hW', trodAll_mk1 (shut_bool Tryd.underlying4 _), (trodAll_cons_mk (shut_string Tryd.underlying9 w0) trodAll_mk0), rfl, bel.frame _, fun h => by cases h⟩

theorem over : Rows.fnExactParseWaterwayRow.holds Tryd.pinned (OpenSpec.ofChange Rows.fnExactParseWaterwaySpec) :=
  OpenClaim.holds_of_wide 3 Tryd.f3 rfl rfl rfl rfl rfl rfl rfl ⟨rfl, rfl, rfl, rfl, rfl⟩ rfl rfl rfl rfl rfl (by kernel_rfl) Tryd.func3 (by kernel_rfl)
    (of_decide_eq_true (by kernel_rfl)) (by unfold Func.isWrapper; first | (rw [if_pos (by decide +kernel)]; kernel_rfl) | (rw [if_neg (by decide +kernel)]; exact ⟨rfl, rfl⟩))
    (fun os started H enc _ => lifted os started H enc)

/-- The tied card: the statement. -/
theorem proved : Rows.FnExactParseWaterwayCardSaid :=
  Claim7.holds_tied_plain_at .later [] [.data, .data, .data, .data, .sentinel, .sentinel, .pinned] true (true, "2c0d319ded7b5d6061270b84631092abf585e2bdc1569f2077ad8897990d63ff") true
    over (fun _ h => by cases h) (by kernel_rfl) (fun _ h => by cases h) fnExactParseWaterway_row_tie rfl ⟨rfl, rfl⟩ (by kernel_rfl) rfl
    (fun f fn hf hfn => by
      obtain rfl : f = 3 := Option.some.inj ((show Tryd.prog.funcNamed "loop.example/g00924/laws.FnExactParseWaterway" = some 3 by kernel_rfl).symm.trans hf) |>.symm
      obtain rfl : fn = Tryd.f3 := (Option.some.inj (Tryd.func3.symm.trans hfn)).symm
      exact ⟨by kernel_rfl, fun j t ht => by
        rw [Tryd.params3] at ht
        rcases j with _ | j
        · have h3 : t = 9 := by simpa using ht.symm
          subst h3
          exact (show Tryd.prog.wantsStandIn 9 = false by kernel_rfl)
        · simp at ht⟩)
    (by kernel_rfl)
end Go.Proofs.YtkdolpgnaabdaabDoor.fnExactParseWaterway
