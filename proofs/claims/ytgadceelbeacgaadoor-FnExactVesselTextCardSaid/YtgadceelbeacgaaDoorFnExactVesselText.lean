/- What is proved: laws.FnExactVesselText, called with any vessel, returns true: the program's VesselText answers as the reference model's, and writes into no argument. Condition: the library's tables start as their text lays them (the card ties them to it). -/
import Derived.Test.YtgadceelbeacgaaDoorVesIn
import Derived.Test.YtgadceelbeacgaaDoorVesTx2
import Derived.Test.YtgadceelbeacgaaDoorShaped
import Derived.Test.YtgadceelbeacgaaDoorCards
import Derived.Test.YtgadceelbeacgaaDoorTie
namespace Go.Proofs.YtgadceelbeacgaaDoor.fnExactVesselText
open Go.ChangeShapes Go.WideShapes Go.ChangeAt Go.RowKit
open Go.ChangeMaps (open_string shut_string)
set_option linter.unusedVariables false

set_option maxHeartbeats 1000000 in
theorem walk (i : Int) (s : ByteArray) (l b d q : Int) (w : World) (hs : s.size ≤ maxLen) (hL : laidMet Tryd.prog Rows.fnExactVesselTextRow.laid w) (hsh : w.ShapedOpen Tryd.prog) :
    Calls Tryd.prog 4 #[.agg #[.int .i64 i, .string s, .int .i64 l, .int .i64 b, .int .i64 d, .int .i64 q]] w fun e w' => e = .returned (.bool true) ∧ Below w.heap.size w w' := by
  have ht : Tab w := tab_of hL
  have hxm : Mx w := mx_ofS hsh
  obtain ⟨T, x, hy, hno⟩ : ∃ (T : ByteArray) (x : Bool), (goodV ⟨i, s, l, b, d, q⟩ → T = vtxt i s l b d (kindB q) ∧ x = true) ∧ (¬ goodV ⟨i, s, l, b, d, q⟩ → T = ⟨#[]⟩ ∧ x = false) := by
    by_cases h : goodV ⟨i, s, l, b, d, q⟩
    · exact ⟨_, true, fun _ => ⟨rfl, rfl⟩, fun g => absurd h g⟩
    · exact ⟨_, false, fun g => absurd g h, fun _ => ⟨rfl, rfl⟩⟩
  have CS := Lib.hid (fun W => specVT_any i s l b d q W hs T x hy hno)
  have CI := Lib.hid (fun W (hW : Below w.heap.size w W) => implVT_any i s l b d q W hs T x hy hno (ht.on hW (Nat.le_refl _)) (hxm.on hW (Nat.le_refl _)))
  have hTT : (T.toList == T.toList) = true := beq_self_eq_true _
  clear ht hxm hL hsh hy hno
  have CT := Lib.hid (fun W => toV_any i s l b d q W)
  obtain ⟨left, hl, hn⟩ : ∃ v : Int, ((s.size : Int) ≤ 1048576 → v = 1048576 - s.size) ∧ (¬ (s.size : Int) ≤ 1048576 → v = -1) := by
    by_cases h : (s.size : Int) ≤ 1048576
    · exact ⟨_, fun _ => rfl, fun g => absurd h g⟩
    · exact ⟨_, fun g => absurd g h, fun _ => rfl⟩
  have SZ := Lib.hid (fun W => szV_any i s l b d q 1048576 left W hs (by omega) (by omega) hl hn)
  have hb0 : -1 ≤ left ∧ left ≤ 1048576 := by
    by_cases h : (s.size : Int) ≤ 1048576
    · rw [hl h]; omega
    · rw [hn h]; omega
  obtain ⟨hb0, hb1⟩ := hb0
  have hx : (x != x) = false := by simp
  clear hl hn hs
  go_enter Tryd.func4, Tryd.ntmps4
  go_wp2_with fail
  refine (SZ.out _).mono ?_
  rintro e w1 ⟨rfl, hb⟩
  have B0 := Lib.hid ((Below.refl (w.heap.size + 1) (w.alloc (.cells #[.int .i64 i, .string s, .int .i64 l, .int .i64 b, .int .i64 d, .int .i64 q] 32))).trans (hb.mono (by simp)))
  clear hb
  have box : ∀ W, Below (w.heap.size + 1) (w.alloc (.cells #[.int .i64 i, .string s, .int .i64 l, .int .i64 b, .int .i64 d, .int .i64 q] 32)) W → W.cell? ⟨w.heap.size, 0, none⟩ = some (.int .i64 i) ∧ W.cell? ⟨w.heap.size, 1, none⟩ = some (.string s) ∧ W.cell? ⟨w.heap.size, 2, none⟩ = some (.int .i64 l) ∧ W.cell? ⟨w.heap.size, 3, none⟩ = some (.int .i64 b) ∧ W.cell? ⟨w.heap.size, 4, none⟩ = some (.int .i64 d) ∧ W.cell? ⟨w.heap.size, 5, none⟩ = some (.int .i64 q) ∧ w.heap.size + 1 ≤ W.heap.size ∧ Below w.heap.size w W := fun W hb =>
    ⟨((hb.cell (by simp)).trans (by rw [vNew]; rfl)), ((hb.cell (by simp)).trans (by rw [vNew]; rfl)), ((hb.cell (by simp)).trans (by rw [vNew]; rfl)), ((hb.cell (by simp)).trans (by rw [vNew]; rfl)), ((hb.cell (by simp)).trans (by rw [vNew]; rfl)), ((hb.cell (by simp)).trans (by rw [vNew]; rfl)), by have := hb.size; simpa using this, ((Below.refl _ w).alloc (Nat.le_refl _) _).trans (hb.mono (by omega))⟩
  have BOX := Lib.hid box
  clear box
  by_cases hz : left < 0
  · have E := Lib.hid (BOX.out _ B0.out).2.2.2.2.2.2.2
    clear CS CI CT BOX B0 SZ
    go_wp2_with fail
    go_ret
    exact ⟨rfl, E.out⟩
  · obtain ⟨c0, c1, c2, c3, c4, c5, z0, -⟩ := BOX.out _ B0.out
    go_wp2_with fail
    refine (CT.out _).mono ?_
    rintro e w2 ⟨rfl, hb⟩
    have B1 := Lib.hid (B0.out.trans (hb.mono z0))
    clear hb c0 c1 c2 c3 c4 c5 z0 B0
    obtain ⟨c0, c1, c2, c3, c4, c5, z0, -⟩ := BOX.out _ B1.out
    go_wp2_with fail
    refine (CS.out _).mono ?_
    rintro e w3 ⟨rfl, hb⟩
    have B2 := Lib.hid (B1.out.trans (hb.mono z0))
    clear hb c0 c1 c2 c3 c4 c5 z0 B1
    obtain ⟨c0, c1, c2, c3, c4, c5, z0, -⟩ := BOX.out _ B2.out
    go_wp2_with fail
    refine (CT.out _).mono ?_
    rintro e w4 ⟨rfl, hb⟩
    have B3 := Lib.hid (B2.out.trans (hb.mono z0))
    clear hb c0 c1 c2 c3 c4 c5 z0 B2
    obtain ⟨c0, c1, c2, c3, c4, c5, z0, -⟩ := BOX.out _ B3.out
    go_wp2_with fail
    refine (CI.out _ (BOX.out _ B3.out).2.2.2.2.2.2.2).mono ?_
    rintro e w5 ⟨rfl, hb⟩
    have B4 := Lib.hid (B3.out.trans (hb.mono z0))
    have E := Lib.hid (BOX.out _ B4.out).2.2.2.2.2.2.2
    clear hb c0 c1 c2 c3 c4 c5 z0 B3 B4 BOX
    go_wp2_with fail
    go_ret
    exact ⟨rfl, E.out⟩
theorem own : ownKnob Tryd.prog.godebug = none := by kernel_rfl
theorem laidOut : laidOutB Tryd.prog = true := by kernel_rfl

set_option maxRecDepth 100000 in
theorem lifted (os : Os) (started : os.Started) (H : Type) (enc : TypeId × Value → H) :
    ReturnsInHanded {} Tryd.checked os 4 .any (fun w args => (Rows.fnExactVesselTextSpec.pre enc Tryd.prog Tryd.f4 Rows.fnExactVesselTextRow.domain false w args ∧ laidMetH Tryd.prog Rows.fnExactVesselTextRow.laid w) ∧ sizedMet enc Tryd.prog Tryd.f4 (OpenSpec.ofChange Rows.fnExactVesselTextSpec) false w args)
      (Rows.fnExactVesselTextSpec.post enc Tryd.prog Tryd.f4 false true false false) := by
  refine handed_and_shaped (C := Tryd.checked) (X := fun w _ => laidMetH Tryd.prog Rows.fnExactVesselTextRow.laid w) (fun _ _ _ hh h => h.of_heap hh) own started (by kernel_rfl) Tryd.func4
    (ChangeSpec.witness_shaped (enc := enc) (C := Tryd.checked) (os := os) (X := fun w _ => laidMetH Tryd.prog Rows.fnExactVesselTextRow.laid w) false (World.laidAll Tryd.prog os Rows.fnExactVesselTextRow.laid) #[.agg #[.int .i64 0, .string ByteArray.empty, .int .i64 0, .int .i64 0, .int .i64 0, .int .i64 0]] 8 (World.laidAll_os _ _ _)
      (World.shaped_of_ZipB (by kernel_rfl) (by kernel_rfl)) (by kernel_rfl) (by kernel_rfl) (by kernel_rfl)
      (by rw [MakeChecks.laidMetH_plain _ _ _ (by kernel_rfl)]; exact laidMet_laidAll _ (by kernel_rfl) (by kernel_rfl))) ?_
  intro W base args ds gs before hval0 hW hcnd hsz0 hL hsh _
  rw [MakeChecks.laidMetH_plain _ _ _ (by kernel_rfl)] at hL
  have hval : ∀ (j : Nat) t v, Tryd.f4.params[j]? = some t → args[j]? = some v → Value.okWide Tryd.prog W .any base t v := hval0
  have hW' := hW
  obtain ⟨p, q, hA0, hV, rfl, hfz, hnd⟩ := hW
  have hA : DataW.TrodAll enc Tryd.prog W 0 (fun _ => true) true Tryd.f4.params.toList args.toList ds p := hA0
  rw [Tryd.params4] at hA hval
  obtain ⟨v0, vs0, d0, ds0, p0, q0, hargs, rfl, rfl, h0, r0⟩ := trodAll_cons hA
  obtain ⟨rfl, rfl, rfl⟩ := trodAll_nil r0
  obtain rfl : args = #[v0] := by cases args; simp_all
  obtain ⟨rfl, rfl⟩ := trodVars_none hV
  have k0 := h0
  have lt0 : ∀ x ∈ p0, x.block < W.heap.size := by obtain ⟨m, hm⟩ := k0; exact DataW.trod_lt m _ _ _ hm
  obtain ⟨i0v, s0v, l0v, b0v, d0v, q0v, rfl, w0⟩ := open_ves Tryd.underlying32 (by kernel_rfl) (by kernel_rfl) Tryd.underlying3 Tryd.underlying9 Tryd.underlying3 Tryd.underlying3 Tryd.underlying3 Tryd.underlying3 (hval 0 32 v0 rfl rfl) h0
  clear hA0 hval0
  refine (walk i0v s0v l0v b0v d0v q0v W w0 hL hsh).mono fun e W' ⟨he, bel⟩ => ?_
  subst he
  exact ⟨_, rfl, _, _, _, [], _, [], hW', trodAll_mk1 (shut_bool Tryd.underlying4 _), (trodAll_cons_mk (Below.trod laidOut (by kernel_rfl) (of_decide_eq_true (by kernel_rfl)) k0 bel lt0) trodAll_mk0), rfl, bel.frame _, fun h => by cases h⟩

theorem over : Rows.fnExactVesselTextRow.holds Tryd.pinned (OpenSpec.ofChange Rows.fnExactVesselTextSpec) :=
  OpenClaim.holds_of_wide 4 Tryd.f4 rfl rfl rfl rfl rfl rfl rfl ⟨rfl, rfl, rfl, rfl, rfl⟩ rfl rfl rfl rfl rfl (by kernel_rfl) Tryd.func4 (by kernel_rfl)
    (of_decide_eq_true (by kernel_rfl)) (by unfold Func.isWrapper; first | (rw [if_pos (by decide +kernel)]; kernel_rfl) | (rw [if_neg (by decide +kernel)]; exact ⟨rfl, rfl⟩))
    (fun os started H enc _ => lifted os started H enc)

/-- The tied card: the statement. -/
theorem proved : Rows.FnExactVesselTextCardSaid :=
  Claim7.holds_tied_plain_at .later [] [.data, .data, .data, .data, .pinned] true (true, "91ac55b9b80e9bd36dd450aa680e30782c2f232c48225edf6c26a8a43838faa4") true
    over (fun _ h => by cases h) (by kernel_rfl) (fun _ h => by cases h) fnExactVesselText_row_tie rfl ⟨rfl, rfl⟩ (by kernel_rfl) rfl
    (fun f fn hf hfn => by
      obtain rfl : f = 4 := Option.some.inj ((show Tryd.prog.funcNamed "loop.example/g00924/laws.FnExactVesselText" = some 4 by kernel_rfl).symm.trans hf) |>.symm
      obtain rfl : fn = Tryd.f4 := (Option.some.inj (Tryd.func4.symm.trans hfn)).symm
      exact ⟨by kernel_rfl, fun j t ht => by
        rw [Tryd.params4] at ht
        rcases j with _ | j
        · have h3 : t = 32 := by simpa using ht.symm
          subst h3
          exact (show Tryd.prog.wantsStandIn 32 = false by kernel_rfl)
        · simp at ht⟩)
    (by kernel_rfl)
end Go.Proofs.YtgadceelbeacgaaDoor.fnExactVesselText
