/- What is proved: laws.FnExactParseVessel, called with any string, returns true: the program's ParseVessel answers as the reference model's. Condition: the library's tables and errors start as their text lays them (the card ties them to it). -/
import Derived.Test.YtgadceelbeacgaaDoorVesPI2
import Derived.Test.YtgadceelbeacgaaDoorShaped
import Derived.Test.YtgadceelbeacgaaDoorCards
import Derived.Test.YtgadceelbeacgaaDoorTie
namespace Go.Proofs.YtgadceelbeacgaaDoor.fnExactParseVessel
open Go.ChangeShapes Go.WideShapes Go.ChangeAt Go.RowKit
open Go.ChangeMaps (open_string shut_string)
set_option linter.unusedVariables false

theorem errs_of4 {x y z v u : String × DataW Unit} {w : World} (h : laidMet Tryd.prog (x :: y :: z :: v :: ("strconv.ErrRange", Rows.laid_strconv_ErrRange) :: ("strconv.ErrSyntax", Rows.laid_strconv_ErrSyntax) :: u :: []) w) : Errs w := by
  have h3 := h.tail.tail.tail.tail
  obtain ⟨a0, s0, hv0, -, -, -⟩ := laid_sentinel h3 gRng (show (Tryd.prog.globals[4]?).map (·.type) = some 78 by kernel_rfl) Tryd.underlying78 rowErr Tryd.underlying128 Tryd.underlying130 rfl rfl Tryd.underlying9 (by kernel_rfl) (by kernel_rfl)
  obtain ⟨a1, s1, hv1, -, -, -⟩ := laid_sentinel h3.tail gSyn (show (Tryd.prog.globals[3]?).map (·.type) = some 78 by kernel_rfl) Tryd.underlying78 rowErr Tryd.underlying128 Tryd.underlying130 rfl rfl Tryd.underlying9 (by kernel_rfl) (by kernel_rfl)
  exact ⟨⟨_, _, hv1⟩, ⟨_, _, hv0⟩⟩

set_option maxHeartbeats 1000000 in
theorem walk (t : ByteArray) (w : World) (ht : t.size ≤ maxLen) (hL : laidMet Tryd.prog Rows.fnExactParseVesselRow.laid w) (hsh : w.ShapedOpen Tryd.prog) :
    Calls Tryd.prog 5 #[.string t] w fun e w' => e = .returned (.bool true) ∧ Below w.heap.size w w' := by
  have ht' : (t.size : Int) ≤ 9223372036854775807 := by unfold maxLen at ht; omega
  by_cases htl : (1048576 : Int) < (t.size : Int)
  · clear hL hsh
    go_enter Tryd.func5, Tryd.ntmps5
    go_wp2_with fail
    go_ret
    exact ⟨rfl, Below.refl _ _⟩
  have hT : Tab w := tab_of hL
  have hE : Errs w := errs_of4 hL
  have hM : Mx w := mx_ofS hsh
  obtain ⟨v, x, hp⟩ := parsed_ex t
  obtain ⟨i, s, l, b, d, q⟩ := v
  have CS := Lib.hid (fun W => specPV_any t W (by omega) i s l b d q x hp)
  have CI := Lib.hid (fun W (hW : Below w.heap.size w W) => implPV_any t W (by omega) i s l b d q x hp (hT.on hW (Nat.le_refl _)) (hE.on hW (Nat.le_refl _)) (hM.on hW (Nat.le_refl _)))
  have EQ := Lib.hid (fun W => eqV_same i s l b d q W)
  have hxx : (x != x) = false := by simp
  clear hL hsh hT hE hM hp ht
  -- a vessel laid at the end of a world, in every later world
  have BX : Hid (∀ (W0 W : World), Below (W0.heap.size + 1) (W0.alloc (.cells #[.int .i64 i, .string s, .int .i64 l, .int .i64 b, .int .i64 d, .int .i64 q] 36)) W → W.cell? ⟨W0.heap.size, 0, none⟩ = some (.int .i64 i) ∧ W.cell? ⟨W0.heap.size, 1, none⟩ = some (.string s) ∧ W.cell? ⟨W0.heap.size, 2, none⟩ = some (.int .i64 l) ∧ W.cell? ⟨W0.heap.size, 3, none⟩ = some (.int .i64 b) ∧ W.cell? ⟨W0.heap.size, 4, none⟩ = some (.int .i64 d) ∧ W.cell? ⟨W0.heap.size, 5, none⟩ = some (.int .i64 q) ∧ W0.heap.size + 1 ≤ W.heap.size) := Lib.hid (fun W0 W hb =>
    ⟨(hb.cell (by simp)).trans (by rw [vNew]; rfl), (hb.cell (by simp)).trans (by rw [vNew]; rfl), (hb.cell (by simp)).trans (by rw [vNew]; rfl), (hb.cell (by simp)).trans (by rw [vNew]; rfl), (hb.cell (by simp)).trans (by rw [vNew]; rfl), (hb.cell (by simp)).trans (by rw [vNew]; rfl), by have := hb.size; simpa using this⟩)
  go_enter Tryd.func5, Tryd.ntmps5
  go_wp2_with fail
  refine (CS.out _).mono ?_
  rintro e w3 ⟨rfl, hb⟩
  have B3 := Lib.hid hb
  clear hb
  go_wp2_with fail
  have B3a := Lib.hid (B3.out.alloc B3.out.size (.cells #[.int .i64 i, .string s, .int .i64 l, .int .i64 b, .int .i64 d, .int .i64 q] 36))
  have X3a := Lib.hid (Below.refl (w3.heap.size + 1) (w3.alloc (.cells #[.int .i64 i, .string s, .int .i64 l, .int .i64 b, .int .i64 d, .int .i64 q] 36)))
  refine (CI.out _ B3a.out).mono ?_
  rintro e w5 ⟨rfl, hb⟩
  have B5 := Lib.hid (B3a.out.trans (hb.mono B3a.out.size))
  have X5 := Lib.hid (X3a.out.trans (hb.mono (by simp)))
  have X6 := Lib.hid (X5.out.alloc (BX.out _ _ X5.out).2.2.2.2.2.2 (.cells #[.int .i64 i, .string s, .int .i64 l, .int .i64 b, .int .i64 d, .int .i64 q] 36))
  have B6 := Lib.hid (B5.out.alloc B5.out.size (.cells #[.int .i64 i, .string s, .int .i64 l, .int .i64 b, .int .i64 d, .int .i64 q] 36))
  clear hb
  obtain ⟨c0, c1, c2, c3, c4, c5, -⟩ := BX.out _ _ X6.out
  go_wp2_with fail
  refine (EQ.out _).mono ?_
  rintro e w7 ⟨rfl, hb⟩
  have B7 := Lib.hid (B6.out.trans (hb.mono B6.out.size))
  clear hb c0 c1 c2 c3 c4 c5
  go_wp2_with fail
  go_ret
  exact ⟨rfl, B7.out⟩
theorem own : ownKnob Tryd.prog.godebug = none := by kernel_rfl
theorem laidOut : laidOutB Tryd.prog = true := by kernel_rfl

set_option maxRecDepth 100000 in
theorem lifted (os : Os) (started : os.Started) (H : Type) (enc : TypeId × Value → H) :
    ReturnsInHanded {} Tryd.checked os 5 .any (fun w args => (Rows.fnExactParseVesselSpec.pre enc Tryd.prog Tryd.f5 Rows.fnExactParseVesselRow.domain false w args ∧ laidMetH Tryd.prog Rows.fnExactParseVesselRow.laid w) ∧ sizedMet enc Tryd.prog Tryd.f5 (OpenSpec.ofChange Rows.fnExactParseVesselSpec) false w args)
      (Rows.fnExactParseVesselSpec.post enc Tryd.prog Tryd.f5 false true false false) := by
  refine handed_and_shaped (C := Tryd.checked) (X := fun w _ => laidMetH Tryd.prog Rows.fnExactParseVesselRow.laid w) (fun _ _ _ hh h => h.of_heap hh) own started (by kernel_rfl) Tryd.func5
    (ChangeSpec.witness_shaped (enc := enc) (C := Tryd.checked) (os := os) (X := fun w _ => laidMetH Tryd.prog Rows.fnExactParseVesselRow.laid w) false (World.laidAll Tryd.prog os Rows.fnExactParseVesselRow.laid) #[.string ByteArray.empty] 8 (World.laidAll_os _ _ _)
      (World.shaped_of_ZipB (by kernel_rfl) (by kernel_rfl)) (by kernel_rfl) (by kernel_rfl) (by kernel_rfl)
      (by rw [MakeChecks.laidMetH_plain _ _ _ (by kernel_rfl)]; exact laidMet_laidAll _ (by kernel_rfl) (by kernel_rfl))) ?_
  intro W base args ds gs before hval0 hW hcnd hsz0 hL hsh _
  rw [MakeChecks.laidMetH_plain _ _ _ (by kernel_rfl)] at hL
  have hval : ∀ (j : Nat) t v, Tryd.f5.params[j]? = some t → args[j]? = some v → Value.okWide Tryd.prog W .any base t v := hval0
  have hW' := hW
  obtain ⟨p, q, hA0, hV, rfl, hfz, hnd⟩ := hW
  have hA : DataW.TrodAll enc Tryd.prog W 0 (fun _ => true) true Tryd.f5.params.toList args.toList ds p := hA0
  rw [Tryd.params5] at hA hval
  obtain ⟨v0, vs0, d0, ds0, p0, q0, hargs, rfl, rfl, h0, r0⟩ := trodAll_cons hA
  obtain ⟨rfl, rfl, rfl⟩ := trodAll_nil r0
  obtain rfl : args = #[v0] := by cases args; simp_all
  obtain ⟨rfl, rfl⟩ := trodVars_none hV
  obtain ⟨a0, rfl, rfl, rfl, w0⟩ := open_string Tryd.underlying9 (hval 0 9 v0 rfl rfl) h0
  clear hA0 hval0
  refine (walk a0 W w0 hL hsh).mono fun e W' ⟨he, bel⟩ => ?_
  subst he
  exact ⟨_, rfl, _, _, _, [], _, [], hW', trodAll_mk1 (shut_bool Tryd.underlying4 _), (trodAll_cons_mk (shut_string Tryd.underlying9 w0) trodAll_mk0), rfl, bel.frame _, fun h => by cases h⟩

theorem over : Rows.fnExactParseVesselRow.holds Tryd.pinned (OpenSpec.ofChange Rows.fnExactParseVesselSpec) :=
  OpenClaim.holds_of_wide 5 Tryd.f5 rfl rfl rfl rfl rfl rfl rfl ⟨rfl, rfl, rfl, rfl, rfl⟩ rfl rfl rfl rfl rfl (by kernel_rfl) Tryd.func5 (by kernel_rfl)
    (of_decide_eq_true (by kernel_rfl)) (by unfold Func.isWrapper; first | (rw [if_pos (by decide +kernel)]; kernel_rfl) | (rw [if_neg (by decide +kernel)]; exact ⟨rfl, rfl⟩))
    (fun os started H enc _ => lifted os started H enc)

/-- The tied card: the statement. -/
theorem proved : Rows.FnExactParseVesselCardSaid :=
  Claim7.holds_tied_plain_at .later [] [.data, .data, .data, .data, .sentinel, .sentinel, .pinned] true (true, "91ac55b9b80e9bd36dd450aa680e30782c2f232c48225edf6c26a8a43838faa4") true
    over (fun _ h => by cases h) (by kernel_rfl) (fun _ h => by cases h) fnExactParseVessel_row_tie rfl ⟨rfl, rfl⟩ (by kernel_rfl) rfl
    (fun f fn hf hfn => by
      obtain rfl : f = 5 := Option.some.inj ((show Tryd.prog.funcNamed "loop.example/g00924/laws.FnExactParseVessel" = some 5 by kernel_rfl).symm.trans hf) |>.symm
      obtain rfl : fn = Tryd.f5 := (Option.some.inj (Tryd.func5.symm.trans hfn)).symm
      exact ⟨by kernel_rfl, fun j t ht => by
        rw [Tryd.params5] at ht
        rcases j with _ | j
        · have h3 : t = 9 := by simpa using ht.symm
          subst h3
          exact (show Tryd.prog.wantsStandIn 9 = false by kernel_rfl)
        · simp at ht⟩)
    (by kernel_rfl)
end Go.Proofs.YtgadceelbeacgaaDoor.fnExactParseVessel
