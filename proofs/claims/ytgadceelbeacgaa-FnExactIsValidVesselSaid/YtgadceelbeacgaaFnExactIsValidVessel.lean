/- IsValidVessel answers as its model does, at every vessel, and writes into no argument. -/
import Derived.Test.YtgadceelbeacgaaVesIn
import Derived.Test.YtgadceelbeacgaaVesImpl
import Derived.OpenShut
import Derived.ShutString
import Derived.ChangeOld
import Derived.WalkLawsBesides
import Derived.Lib.SmallJoins
namespace Go.Proofs.Ytgadceelbeacgaa.fnExactIsValidVessel
open Go.ChangeShapes Go.WideShapes Go.ChangeAt Go.RowKit
open Go.ChangeMaps (open_string shut_string)
set_option linter.unusedVariables false

set_option maxHeartbeats 1000000 in
theorem specIs (i : Int) (s : ByteArray) (l b d q : Int) (w : World) (hs : s.size ≤ maxLen) :
    Calls Try.prog 45 #[.agg #[.int .i64 i, .string s, .int .i64 l, .int .i64 b, .int .i64 d, .int .i64 q]] w fun e w' => e = .returned (.bool (gV ⟨i, s, l, b, d, q⟩)) ∧ Below w.heap.size w w' := by
  have C := Lib.hid (fun W => l3Good_any i s l b d q W hs)
  generalize gV ⟨i, s, l, b, d, q⟩ = x at C ⊢
  go_enter Try.func45, Try.ntmps45
  go_wp2_with fail
  refine (C.out _).mono ?_
  rintro e w1 ⟨rfl, hb⟩
  go_wp2_with fail
  go_ret
  exact ⟨rfl, ((Below.refl _ w).alloc (Nat.le_refl _) _).trans (hb.mono (by simp))⟩

set_option maxHeartbeats 1000000 in
theorem walk (i : Int) (s : ByteArray) (l b d q : Int) (w : World) (hs : s.size ≤ maxLen) :
    Calls Try.prog 5 #[.agg #[.int .i64 i, .string s, .int .i64 l, .int .i64 b, .int .i64 d, .int .i64 q]] w fun e w' => e = .returned (.bool true) ∧ Below w.heap.size w w' := by
  have CS := Lib.hid (fun W => specIs i s l b d q W hs)
  have CI := Lib.hid (fun W => implGoodV_any i s l b d q W hs)
  have CT := Lib.hid (fun W => toV_any i s l b d q W)
  generalize gV ⟨i, s, l, b, d, q⟩ = x at CS CI
  obtain ⟨left, hl, hn⟩ : ∃ v : Int, ((s.size : Int) ≤ 1048576 → v = 1048576 - s.size) ∧ (¬ (s.size : Int) ≤ 1048576 → v = -1) := by
    by_cases h : (s.size : Int) ≤ 1048576
    · exact ⟨_, fun _ => rfl, fun g => absurd h g⟩
    · exact ⟨_, fun g => absurd g h, fun _ => rfl⟩
  have SZ := Lib.hid (fun W => szV_any i s l b d q 1048576 left W hs (by omega) (by omega) hl hn)
  have hb0 : -1 ≤ left ∧ left ≤ 1048576 := by
    by_cases h : (s.size : Int) ≤ 1048576
    · rw [hl h]; omega
    · rw [hn h]; omega
  obtain ⟨hb0, hb1⟩ := hb0
  have hx : (x != x) = false := by simp
  clear hl hn hs
  go_enter Try.func5, Try.ntmps5
  go_wp2_with fail
  refine (SZ.out _).mono ?_
  rintro e w1 ⟨rfl, hb⟩
  have B0 := Lib.hid ((Below.refl (w.heap.size + 1) (w.alloc (.cells #[.int .i64 i, .string s, .int .i64 l, .int .i64 b, .int .i64 d, .int .i64 q] 55))).trans (hb.mono (by simp)))
  clear hb
  have box : ∀ W, Below (w.heap.size + 1) (w.alloc (.cells #[.int .i64 i, .string s, .int .i64 l, .int .i64 b, .int .i64 d, .int .i64 q] 55)) W → W.cell? ⟨w.heap.size, 0, none⟩ = some (.int .i64 i) ∧ W.cell? ⟨w.heap.size, 1, none⟩ = some (.string s) ∧ W.cell? ⟨w.heap.size, 2, none⟩ = some (.int .i64 l) ∧ W.cell? ⟨w.heap.size, 3, none⟩ = some (.int .i64 b) ∧ W.cell? ⟨w.heap.size, 4, none⟩ = some (.int .i64 d) ∧ W.cell? ⟨w.heap.size, 5, none⟩ = some (.int .i64 q) ∧ w.heap.size + 1 ≤ W.heap.size ∧ Below w.heap.size w W := fun W hb =>
    ⟨((hb.cell (by simp)).trans (by rw [vNew]; rfl)), ((hb.cell (by simp)).trans (by rw [vNew]; rfl)), ((hb.cell (by simp)).trans (by rw [vNew]; rfl)), ((hb.cell (by simp)).trans (by rw [vNew]; rfl)), ((hb.cell (by simp)).trans (by rw [vNew]; rfl)), ((hb.cell (by simp)).trans (by rw [vNew]; rfl)), by have := hb.size; simpa using this, ((Below.refl _ w).alloc (Nat.le_refl _) _).trans (hb.mono (by omega))⟩
  have BOX := Lib.hid box
  clear box
  by_cases hz : left < 0
  · have E := Lib.hid (BOX.out _ B0.out).2.2.2.2.2.2.2
    clear CS CI CT BOX B0 SZ
    go_wp2_with fail
    go_ret
    exact ⟨rfl, E.out⟩
  · obtain ⟨c0, c1, c2, c3, c4, c5, z0, -⟩ := BOX.out _ B0.out
    go_wp2_with fail
    refine (CT.out _).mono ?_
    rintro e w2 ⟨rfl, hb⟩
    have B1 := Lib.hid (B0.out.trans (hb.mono z0))
    clear hb c0 c1 c2 c3 c4 c5 z0 B0
    obtain ⟨c0, c1, c2, c3, c4, c5, z0, -⟩ := BOX.out _ B1.out
    go_wp2_with fail
    refine (CS.out _).mono ?_
    rintro e w3 ⟨rfl, hb⟩
    have B2 := Lib.hid (B1.out.trans (hb.mono z0))
    clear hb c0 c1 c2 c3 c4 c5 z0 B1
    obtain ⟨c0, c1, c2, c3, c4, c5, z0, -⟩ := BOX.out _ B2.out
    go_wp2_with fail
    refine (CT.out _).mono ?_
    rintro e w4 ⟨rfl, hb⟩
    have B3 := Lib.hid (B2.out.trans (hb.mono z0))
    clear hb c0 c1 c2 c3 c4 c5 z0 B2
    obtain ⟨c0, c1, c2, c3, c4, c5, z0, -⟩ := BOX.out _ B3.out
    go_wp2_with fail
    refine (CI.out _).mono ?_
    rintro e w5 ⟨rfl, hb⟩
    have B4 := Lib.hid (B3.out.trans (hb.mono z0))
    have E := Lib.hid (BOX.out _ B4.out).2.2.2.2.2.2.2
    clear hb c0 c1 c2 c3 c4 c5 z0 B3 B4 BOX
    go_wp2_with fail
    go_ret
    exact ⟨rfl, E.out⟩
theorem own : ownKnob Try.prog.godebug = none := by kernel_rfl
theorem laidOut : laidOutB Try.prog = true := by kernel_rfl

set_option maxRecDepth 100000 in
theorem lifted (os : Os) (started : os.Started) (H : Type) (enc : TypeId × Value → H) :
    ReturnsInHanded {} Try.checked os 5 .any (Rows.fnExactIsValidVesselSpec.pre6 enc Try.prog Try.f5 Rows.fnExactIsValidVesselRow.domain false) (Rows.fnExactIsValidVesselSpec.post enc Try.prog Try.f5 false true false false) := by
  refine returnsInHanded_of_change (C := Try.checked) own started (by kernel_rfl) Try.func5
    (ChangeSpec.witness6 (enc := enc) (C := Try.checked) false ⟨#[], #[.agg #[.int .i64 0, .string ByteArray.empty, .int .i64 0, .int .i64 0, .int .i64 0, .int .i64 0]], []⟩ 8 (by kernel_rfl) (by kernel_rfl) (by kernel_rfl) (by kernel_rfl)) ?_
  intro W base args ds gs before hval0 hW hcnd _
  have hval : ∀ (j : Nat) t v, Try.f5.params[j]? = some t → args[j]? = some v → Value.okWide Try.prog W .any base t v := hval0
  have hW' := hW
  obtain ⟨p, q, hA0, hV, rfl, hfz, hnd⟩ := hW
  have hA : DataW.TrodAll enc Try.prog W 0 (fun _ => true) true Try.f5.params.toList args.toList ds p := hA0
  rw [Try.params5] at hA hval
  obtain ⟨v0, vs0, d0, ds0, p0, q0, hargs, rfl, rfl, h0, r0⟩ := trodAll_cons hA
  obtain ⟨rfl, rfl, rfl⟩ := trodAll_nil r0
  obtain rfl : args = #[v0] := by cases args; simp_all
  obtain ⟨rfl, rfl⟩ := trodVars_none hV
  have k0 := h0
  have lt0 : ∀ x ∈ p0, x.block < W.heap.size := by obtain ⟨m, hm⟩ := k0; exact DataW.trod_lt m _ _ _ hm
  obtain ⟨i0v, s0v, l0v, b0v, d0v, q0v, rfl, w0⟩ := open_ves Try.underlying55 (by kernel_rfl) (by kernel_rfl) Try.underlying3 Try.underlying9 Try.underlying3 Try.underlying3 Try.underlying3 Try.underlying3 (hval 0 55 v0 rfl rfl) h0
  clear hA0 hval0
  refine (walk i0v s0v l0v b0v d0v q0v W w0).mono fun e W' ⟨he, bel⟩ => ?_
  subst he
  exact ⟨_, rfl, _, _, _, [], _, [], hW', trodAll_mk1 (shut_bool Try.underlying4 _), (trodAll_cons_mk (Below.trod laidOut (by kernel_rfl) (of_decide_eq_true (by kernel_rfl)) k0 bel lt0) trodAll_mk0), rfl, bel.frame _, fun h => by cases h⟩

theorem over : Rows.fnExactIsValidVesselRow.holds Try.pinned (OpenSpec.ofChange Rows.fnExactIsValidVesselSpec) :=
  OpenClaim.holds_of_wide 5 Try.f5 rfl rfl rfl rfl rfl rfl rfl ⟨rfl, rfl, rfl, rfl, rfl⟩ rfl rfl rfl rfl rfl (by kernel_rfl) Try.func5 (by kernel_rfl)
    (of_decide_eq_true (by kernel_rfl)) (by unfold Func.isWrapper; first | (rw [if_pos (by decide +kernel)]; kernel_rfl) | (rw [if_neg (by decide +kernel)]; exact ⟨rfl, rfl⟩))
    (fun os started H enc _ => lifted os started H enc)

/-- The statement. -/
theorem proved : Rows.FnExactIsValidVesselSaid := over
end Go.Proofs.Ytgadceelbeacgaa.fnExactIsValidVessel
