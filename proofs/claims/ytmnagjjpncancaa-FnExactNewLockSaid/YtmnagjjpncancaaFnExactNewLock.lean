/- NewLock answers as its model does, at all levels. -/
import Derived.Test.YtmnagjjpncancaaLoC
import Derived.Test.YtmnagjjpncancaaSt0
import Derived.OpenShut
import Derived.ShutString
import Derived.ChangeOld
import Derived.WalkLawsBesides
import Derived.Lib.SmallJoins
import Derived.Deep.RegionHeld3
namespace Go.Proofs.Ytmnagjjpncancaa.fnExactNewLock
open Go.ChangeShapes Go.WideShapes Go.ChangeAt Go.RowKit
open Go.ChangeMaps (open_string shut_string)
set_option linter.unusedVariables false
set_option linter.unusedSimpArgs false

abbrev ri (g n c : Nat) (xs : List Value) : RowOf := ⟨3, 1, .slice (some ⟨g, 0, none⟩) n c, n, xs⟩

set_option maxRecDepth 100000 in
set_option maxHeartbeats 4000000 in
theorem walk (lo : Int) (hi : Int) (w : World) (klo : (Lit.int .i64 lo).wf = true) (khi : (Lit.int .i64 hi).wf = true) :
    Calls Try.prog 3 #[.int .i64 lo, .int .i64 hi] w fun e w' => e = .returned (.bool true) ∧ Below w.heap.size w w' := by
  obtain ⟨R0, R1, R2, R3, R4, R5, R6, x, hA⟩ := ansL_ex (newL lo hi)
  have HA := Lib.hid hA
  have hxx : (x != x) = false := by simp
  clear hA klo khi
  go_enter Try.func3, Try.ntmps3
  have S0 := Lib.hid (St.start w)
  go_wp2_with fail
  refine (newS_any lo hi R0 R1 R2 R3 R4 R5 R6 x HA.out _).mono ?_
  rintro e w1 ⟨rfl, hb⟩
  have S1 := Lib.hid (S0.out.quiet hb)
  clear hb S0
  have zzw1 : w.heap.size ≤ w1.heap.size := S1.out.low.size
  have S2 := Lib.hid ((S1.out.quiet (Below.alloc (Below.refl _ w1) (Nat.le_refl _) (.cells #[.int .i64 R0, .int .i64 R1, .int .i64 R2, .bool R3, .bool R4, .bool R5, .bool R6] 23))).cells (ds := [(w1.heap.size, 0, .int .i64 R0), (w1.heap.size, 1, .int .i64 R1), (w1.heap.size, 2, .int .i64 R2), (w1.heap.size, 3, .bool R3), (w1.heap.size, 4, .bool R4), (w1.heap.size, 5, .bool R5), (w1.heap.size, 6, .bool R6)]) (fun p hp => by
      simp only [List.mem_cons, List.not_mem_nil, or_false] at hp
      rcases hp with rfl | rfl | rfl | rfl | rfl | rfl | rfl
      · exact ⟨zzw1, by rw [sNew]; rfl⟩
      · exact ⟨zzw1, by rw [sNew]; rfl⟩
      · exact ⟨zzw1, by rw [sNew]; rfl⟩
      · exact ⟨zzw1, by rw [sNew]; rfl⟩
      · exact ⟨zzw1, by rw [sNew]; rfl⟩
      · exact ⟨zzw1, by rw [sNew]; rfl⟩
      · exact ⟨zzw1, by rw [sNew]; rfl⟩))
  clear zzw1 S1
  have cc0 := (S2.out.cell (w1.heap.size, 0, .int .i64 R0) (by simp)).2
  have cc1 := (S2.out.cell (w1.heap.size, 1, .int .i64 R1) (by simp)).2
  have cc2 := (S2.out.cell (w1.heap.size, 2, .int .i64 R2) (by simp)).2
  have cc3 := (S2.out.cell (w1.heap.size, 3, .bool R3) (by simp)).2
  have cc4 := (S2.out.cell (w1.heap.size, 4, .bool R4) (by simp)).2
  have cc5 := (S2.out.cell (w1.heap.size, 5, .bool R5) (by simp)).2
  have cc6 := (S2.out.cell (w1.heap.size, 6, .bool R6) (by simp)).2
  go_wp2_with fail
  refine (newI_any lo hi R0 R1 R2 R3 R4 R5 R6 x HA.out _).mono ?_
  rintro e w2 ⟨rfl, hb⟩
  have S3 := Lib.hid (S2.out.quiet hb)
  clear cc0 cc1 cc2 cc3 cc4 cc5 cc6
  clear hb S2
  have zzw2 : w.heap.size ≤ w2.heap.size := S3.out.low.size
  have S4 := Lib.hid ((S3.out.quiet (Below.alloc (Below.refl _ w2) (Nat.le_refl _) (.cells #[.int .i64 R0, .int .i64 R1, .int .i64 R2, .bool R3, .bool R4, .bool R5, .bool R6] 23))).cells (ds := [(w2.heap.size, 0, .int .i64 R0), (w2.heap.size, 1, .int .i64 R1), (w2.heap.size, 2, .int .i64 R2), (w2.heap.size, 3, .bool R3), (w2.heap.size, 4, .bool R4), (w2.heap.size, 5, .bool R5), (w2.heap.size, 6, .bool R6)]) (fun p hp => by
      simp only [List.mem_cons, List.not_mem_nil, or_false] at hp
      rcases hp with rfl | rfl | rfl | rfl | rfl | rfl | rfl
      · exact ⟨zzw2, by rw [sNew]; rfl⟩
      · exact ⟨zzw2, by rw [sNew]; rfl⟩
      · exact ⟨zzw2, by rw [sNew]; rfl⟩
      · exact ⟨zzw2, by rw [sNew]; rfl⟩
      · exact ⟨zzw2, by rw [sNew]; rfl⟩
      · exact ⟨zzw2, by rw [sNew]; rfl⟩
      · exact ⟨zzw2, by rw [sNew]; rfl⟩))
  clear zzw2 S3
  have cc0 := (S4.out.cell (w2.heap.size, 0, .int .i64 R0) (by simp)).2
  have cc1 := (S4.out.cell (w2.heap.size, 1, .int .i64 R1) (by simp)).2
  have cc2 := (S4.out.cell (w2.heap.size, 2, .int .i64 R2) (by simp)).2
  have cc3 := (S4.out.cell (w2.heap.size, 3, .bool R3) (by simp)).2
  have cc4 := (S4.out.cell (w2.heap.size, 4, .bool R4) (by simp)).2
  have cc5 := (S4.out.cell (w2.heap.size, 5, .bool R5) (by simp)).2
  have cc6 := (S4.out.cell (w2.heap.size, 6, .bool R6) (by simp)).2
  have cc7 := (S4.out.cell (w1.heap.size, 0, .int .i64 R0) (by simp)).2
  have cc8 := (S4.out.cell (w1.heap.size, 1, .int .i64 R1) (by simp)).2
  have cc9 := (S4.out.cell (w1.heap.size, 2, .int .i64 R2) (by simp)).2
  have cc10 := (S4.out.cell (w1.heap.size, 3, .bool R3) (by simp)).2
  have cc11 := (S4.out.cell (w1.heap.size, 4, .bool R4) (by simp)).2
  have cc12 := (S4.out.cell (w1.heap.size, 5, .bool R5) (by simp)).2
  have cc13 := (S4.out.cell (w1.heap.size, 6, .bool R6) (by simp)).2
  go_wp2_with fail
  refine (eqLockState_same R0 R1 R2 R3 R4 R5 R6 _).mono ?_
  rintro e w3 ⟨rfl, hb⟩
  have S5 := Lib.hid (S4.out.quiet hb)
  clear cc0 cc1 cc2 cc3 cc4 cc5 cc6 cc7 cc8 cc9 cc10 cc11 cc12 cc13
  clear hb S4
  have cc0 := (S5.out.cell (w2.heap.size, 0, .int .i64 R0) (by simp)).2
  have cc1 := (S5.out.cell (w2.heap.size, 1, .int .i64 R1) (by simp)).2
  have cc2 := (S5.out.cell (w2.heap.size, 2, .int .i64 R2) (by simp)).2
  have cc3 := (S5.out.cell (w2.heap.size, 3, .bool R3) (by simp)).2
  have cc4 := (S5.out.cell (w2.heap.size, 4, .bool R4) (by simp)).2
  have cc5 := (S5.out.cell (w2.heap.size, 5, .bool R5) (by simp)).2
  have cc6 := (S5.out.cell (w2.heap.size, 6, .bool R6) (by simp)).2
  have cc7 := (S5.out.cell (w1.heap.size, 0, .int .i64 R0) (by simp)).2
  have cc8 := (S5.out.cell (w1.heap.size, 1, .int .i64 R1) (by simp)).2
  have cc9 := (S5.out.cell (w1.heap.size, 2, .int .i64 R2) (by simp)).2
  have cc10 := (S5.out.cell (w1.heap.size, 3, .bool R3) (by simp)).2
  have cc11 := (S5.out.cell (w1.heap.size, 4, .bool R4) (by simp)).2
  have cc12 := (S5.out.cell (w1.heap.size, 5, .bool R5) (by simp)).2
  have cc13 := (S5.out.cell (w1.heap.size, 6, .bool R6) (by simp)).2
  go_wp2_with fail
  go_ret
  exact ⟨rfl, S5.out.low⟩
theorem own : ownKnob Try.prog.godebug = none := by kernel_rfl
theorem laidOut : laidOutB Try.prog = true := by kernel_rfl

set_option maxRecDepth 100000 in
theorem lifted (os : Os) (started : os.Started) (H : Type) (enc : TypeId × Value → H) :
    ReturnsInHanded {} Try.checked os 3 .any (Rows.fnExactNewLockSpec.pre6 enc Try.prog Try.f3 Rows.fnExactNewLockRow.domain false) (Rows.fnExactNewLockSpec.post enc Try.prog Try.f3 false true false false) := by
  refine returnsInHanded_of_change (C := Try.checked) own started (by kernel_rfl) Try.func3
    (ChangeSpec.witness6 (enc := enc) (C := Try.checked) false ⟨#[], #[.int .i64 0, .int .i64 0], []⟩ 8 (by kernel_rfl) (by kernel_rfl) (by kernel_rfl) (by kernel_rfl)) ?_
  intro W base args ds gs before hval0 hW hcnd _
  have hval : ∀ (j : Nat) t v, Try.f3.params[j]? = some t → args[j]? = some v → Value.okWide Try.prog W .any base t v := hval0
  have hW' := hW
  obtain ⟨p, q, hA0, hV, rfl, hfz, hnd⟩ := hW
  have hA : DataW.TrodAll enc Try.prog W 0 (fun _ => true) true Try.f3.params.toList args.toList ds p := hA0
  rw [Try.params3] at hA hval
  obtain ⟨v0, vs0, d0, ds0, p0, q0, hargs, rfl, rfl, h0, r0⟩ := trodAll_cons hA
  obtain ⟨v1, vs1, d1, ds1, p1, q1, rfl, rfl, rfl, h1, r1⟩ := trodAll_cons r0
  obtain ⟨rfl, rfl, rfl⟩ := trodAll_nil r1
  obtain rfl : args = #[v0, v1] := by cases args; simp_all
  obtain ⟨rfl, rfl⟩ := trodVars_none hV
  obtain ⟨a0, rfl, rfl, rfl, w0⟩ := open_int Try.underlying3 (hval 0 3 v0 rfl rfl) h0
  obtain ⟨a1, rfl, rfl, rfl, w1⟩ := open_int Try.underlying3 (hval 1 3 v1 rfl rfl) h1
  clear hA0 hval0
  refine (walk a0 a1 W w0 w1).mono fun e W' ⟨he, bel⟩ => ?_
  subst he
  exact ⟨_, rfl, _, _, _, [], _, [], hW', trodAll_mk1 (shut_bool Try.underlying4 _), (trodAll_cons_mk (shut_int Try.underlying3 w0) (trodAll_cons_mk (shut_int Try.underlying3 w1) trodAll_mk0)), rfl, bel.frame _, fun h => by cases h⟩

theorem over : Rows.fnExactNewLockRow.holds Try.pinned (OpenSpec.ofChange Rows.fnExactNewLockSpec) :=
  OpenClaim.holds_of_wide 3 Try.f3 rfl rfl rfl rfl rfl rfl rfl ⟨rfl, rfl, rfl, rfl, rfl⟩ rfl rfl rfl rfl rfl (by kernel_rfl) Try.func3 (by kernel_rfl)
    (of_decide_eq_true (by kernel_rfl)) (by unfold Func.isWrapper; first | (rw [if_pos (by decide +kernel)]; kernel_rfl) | (rw [if_neg (by decide +kernel)]; exact ⟨rfl, rfl⟩))
    (fun os started H enc _ => lifted os started H enc)

/-- The statement. -/
theorem proved : Rows.FnExactNewLockSaid := over
end Go.Proofs.Ytmnagjjpncancaa.fnExactNewLock
