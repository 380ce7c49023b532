/- What is proved: laws.FnExactWaterwayText, called with any waterway, returns true: the program's WaterwayText answers as the reference model's, and writes into no argument. Condition: the library's tables start as their text lays them (the card ties them to it). -/
import Derived.Test.YtomehioembakgaaDoorWayTx2
import Derived.Test.YtomehioembakgaaDoorCards
import Derived.Test.YtomehioembakgaaDoorTie
import Derived.OpenShut
import Derived.ShutString
import Derived.ChangeOld
import Derived.LaidMore
import Derived.Lay
import Derived.SevenTiedAt
import Derived.Stop.Joined
import Derived.WalkLawsBesides
import Derived.Lib.SmallJoins
import Derived.Deep.RegionHeld3
import Derived.Shelf.Vars
namespace Go.Proofs.YtomehioembakgaaDoor.fnExactWaterwayText
open Go.ChangeShapes Go.WideShapes Go.ChangeAt Go.RowKit
open Go.ChangeMaps (open_string shut_string)
set_option linter.unusedVariables false

theorem mx_of {w : World} (h : w.ShapedOpen Tryd.prog) : Mx w :=
  cell_of_shapedOpen_int h (of_decide_eq_true (by kernel_rfl)) (zero := #[.int .i64 0]) (t := 3) (by kernel_rfl) rfl (by kernel_rfl) (by kernel_rfl) Tryd.underlying3

/-- The wrap of a law whose row lists package variables, with the world's shape handed on. -/
theorem handed_and_shaped {H : Type} {enc : TypeId × Value → H} {a : Assume} {C : Checked} {os : Os} {f : FuncId} {fn : Func} {s : ChangeSpec} {conds : List PathCond} {apart fresh handsOn again : Bool} {X : World → Array Value → Prop}
    (hX : ∀ (w w' : World) (args : Array Value), w.heap = w'.heap → X w args → X w' args) (own : ownKnob C.prog.godebug = none) (started : os.Started) (noInit : C.prog.inits.idxOf? f = none) (hfn : C.prog.funcs[f]? = some fn)
    (wit : ∃ (w : World) (tape : Tape) (i : Input), w.os = os ∧ (w.forCall tape i).Shaped C.prog ∧ i.vars = [] ∧ Input.okWide C.prog (w.forCall tape i) .any w.heap.size f i ∧
      ((s.pre enc C.prog fn conds apart (w.forCall tape i).memory i.args ∧ X (w.forCall tape i).memory i.args) ∧ sizedMet enc C.prog fn (OpenSpec.ofChange s) apart (w.forCall tape i).memory i.args) ∧ a.holds C.prog (lone (Frame.enter C.prog f i.args .normal) [] (w.forCall tape i)))
    (con : ∀ (W : World) (base : Nat) (args : Array Value) (ds gs : List (DataW H)) (before : List MemPlace),
      (∀ (j : Nat) t v, fn.params[j]? = some t → args[j]? = some v → Value.okWide C.prog W .any base t v) → DataW.Whole enc C.prog fn.params.toList s.vars apart W args.toList ds gs before →
      conds.all (PathCond.test C.prog ⟨fn.params.toList, ds, s.plain.varTypes C.prog, gs⟩) = true → (DataW.weightsEach C.prog (fn.params.toList ++ s.plain.varTypes C.prog) (ds ++ gs)).all (· ≤ reachBytes) = true → X W args → W.ShapedOpen C.prog →
      a.holds C.prog (lone (Frame.enter C.prog f args .normal) [] W) → Calls C.prog f args W fun e W' => ∃ v, e = .returned v ∧ s.post enc C.prog fn apart fresh handsOn again W args v W') :
    ReturnsInHanded a C os f .any (fun w args => (s.pre enc C.prog fn conds apart w args ∧ X w args) ∧ sizedMet enc C.prog fn (OpenSpec.ofChange s) apart w args) (s.post enc C.prog fn apart fresh handsOn again) := by
  apply returnsInHanded_of_calls own started noInit wit
  intro w tape i _ hshape _ hok hpre hh
  obtain ⟨-, -, -, fn2, hf2, -, -, -, -, hval⟩ := hok
  obtain rfl : fn2 = fn := Option.some.inj (hf2.symm.trans hfn)
  obtain ⟨⟨⟨ds, gs, before, hw, hc⟩, hx⟩, hz⟩ := hpre
  have hw2 := DataW.Whole.of_heap (w' := w.forCall tape i) (by rfl) hw
  have K := con (w.forCall tape i) w.heap.size i.args ds gs before hval hw2 hc (hz.weights hw) (hX _ _ _ (by rfl) hx) hshape hh
  refine K.mono fun e W' hv => ?_
  obtain ⟨v, rfl, hp⟩ := hv
  exact ChangeSpec.post_blind hp

theorem two_WaterwayText (n n2 : Nat) (rs : List (Int × Int × Int)) (zs : List Int) (w0 : World) (hm : n ≤ maxLen) (ht : Tab w0) (hx : Mx w0) : ∃ (x : ByteArray) (y : Bool),
    (∀ (w : World) (B : Nat) (A A2 : Option Addr) (c c2 : Nat), IsWay w B A n A2 n2 rs zs → Calls Tryd.prog 6 #[.agg #[.slice A n c, .slice A2 n2 c2]] w fun e w' => e = .returned (.tuple #[.string x, .bool y]) ∧ Below w.heap.size w w') ∧
    (∀ (w : World) (B : Nat) (A A2 : Option Addr) (c c2 : Nat), IsWay w B A n A2 n2 rs zs → Below w0.heap.size w0 w → Calls Tryd.prog 8 #[.agg #[.slice A n c, .slice A2 n2 c2]] w fun e w' => e = .returned (.tuple #[.string x, .bool y]) ∧ Below w.heap.size w w') := by
  by_cases hg : goodW rs zs
  · exact ⟨txt rs zs n, true, fun w B A A2 c c2 h => specTxt_any c c2 h hm _ _ (fun _ => ⟨rfl, rfl⟩) (fun g => absurd hg g), fun w B A A2 c c2 h hb => implTxt_any c c2 h hm _ _ (fun _ => ⟨rfl, rfl⟩) (fun g => absurd hg g) (ht.on hb (Nat.le_refl _)) (hx.on hb (Nat.le_refl _))⟩
  · exact ⟨⟨#[]⟩, false, fun w B A A2 c c2 h => specTxt_any c c2 h hm _ _ (fun g => absurd g hg) (fun _ => ⟨rfl, rfl⟩), fun w B A A2 c c2 h hb => implTxt_any c c2 h hm _ _ (fun g => absurd g hg) (fun _ => ⟨rfl, rfl⟩) (ht.on hb (Nat.le_refl _)) (hx.on hb (Nat.le_refl _))⟩

set_option maxHeartbeats 1000000 in
theorem walk (a : Option Addr) (n c : Nat) (rs : List (Int × Int × Int)) (b : Option Addr) (n2 c2 : Nat) (zs : List Int) (w : World) (hn : rs.length = n) (hm : n ≤ maxLen) (hr : Has w w.heap.size a (flat rs)) (hz : IsInts .i64 w b n2 zs) (hL : laidMet Tryd.prog Rows.fnExactWaterwayTextRow.laid w) (hsh : w.ShapedOpen Tryd.prog) :
    Calls Tryd.prog 3 #[.agg #[.slice a n c, .slice b n2 c2]] w fun e w' => e = .returned (.bool true) ∧ Below w.heap.size w w' := by
  have hw : IsWay w w.heap.size a n b n2 rs zs := ⟨hn, hz.1, Nat.le_refl _, hr, hz.2.2.2⟩
  have ht : Tab w := tab_of hL
  have hx : Mx w := mx_of hsh
  obtain ⟨x, y, hCS, hCI⟩ := two_WaterwayText n n2 rs zs w hm ht hx
  clear ht hx hL hsh
  have CS := Lib.hid hCS
  have CI := Lib.hid hCI
  clear hCS hCI
  have hm2 := hz.2.1
  clear hn hr hz
  have HW := Lib.hid hw
  have HM := Lib.hid hm
  have HM2 := Lib.hid hm2
  clear hw hm hm2
  by_cases hfit : (n : Int) + (n2 : Int) ≤ 1048576
  · have SZ := Lib.hid (fun W => szW_any a b n c n2 c2 1048576 W HM.out HM2.out (by omega) (by omega) (1048576 - n - n2) (fun _ => rfl) (fun h => absurd hfit h))
    have hney : (y != y) = false := by simp
    go_enter Tryd.func3, Tryd.ntmps3
    go_wp2_with fail
    refine (SZ.out _).mono ?_
    rintro e w1 ⟨rfl, hb⟩
    have hl1 : n ≤ 1048576 := by omega
    have hl2 : n2 ≤ 1048576 := by omega
    have hl3 : n ≤ maxLen := HM.out
    have B1 := Lib.hid ((Below.refl (w.heap.size + 1) (w.alloc (.cells #[.slice a n c, .slice b n2 c2] 25))).trans (hb.mono (by simp)))
    have Z1 := Lib.hid hb.size
    clear hb
    -- the box of the argument, in every world behind
    have box : ∀ W, Below (w.heap.size + 1) (w.alloc (.cells #[.slice a n c, .slice b n2 c2] 25)) W → W.cell? ⟨w.heap.size, 0, none⟩ = some (.slice a n c) ∧ W.cell? ⟨w.heap.size, 1, none⟩ = some (.slice b n2 c2) ∧ IsWay W w.heap.size a n b n2 rs zs ∧ w.heap.size + 1 ≤ W.heap.size := fun W hb =>
      ⟨(hb.cell (by simp)).trans (by rw [cellNew]; rfl), (hb.cell (by simp)).trans (by rw [cellNew]; rfl), (HW.out.below (((Below.refl _ w).alloc (Nat.le_refl _) _).trans (hb.mono (by omega))) (Nat.le_refl _)), by have := hb.size; simpa using this⟩
    have BOX := Lib.hid box
    clear box
    obtain ⟨c0, c1, i1, z1⟩ := BOX.out _ B1.out
    go_wp2_with fail
    refine (toW_way c c2 i1 hl1 hl2).mono ?_
    rintro e w2 ⟨g, g2, rfl, -, -, -, i2, hb⟩
    have B2 := Lib.hid (B1.out.trans (hb.mono z1))
    have hz := hb.size
    clear hb B1 c0 c1 i1
    go_wp2_with fail
    refine (CS.out _ _ _ _ n n2 i2).mono ?_
    rintro e w3 ⟨rfl, hb⟩
    have B3 := Lib.hid (B2.out.trans (hb.mono (by omega)))
    clear hb B2 i2 z1
    obtain ⟨c0, c1, i1, z1⟩ := BOX.out _ B3.out
    go_wp2_with fail
    refine (toW_way c c2 i1 hl1 hl2).mono ?_
    rintro e w4 ⟨h, h2, rfl, -, -, -, i4, hb⟩
    have B4 := Lib.hid (B3.out.trans (hb.mono z1))
    clear hb B3 c0 c1 i1 z1
    go_wp2_with fail
    obtain ⟨xb, hxb⟩ : ∃ xb, w4.heap.size = xb := ⟨_, rfl⟩
    obtain ⟨W4, hW4⟩ : ∃ W4, w4.alloc (.cells #[.slice (some ⟨h, 0, none⟩) n n, .slice (some ⟨h2, 0, none⟩) n2 n2] 31) = W4 := ⟨_, rfl⟩
    have z4 : W4.heap.size = xb + 1 := by rw [← hW4, ← hxb]; simp
    have j4 : IsWay W4 xb (some ⟨h, 0, none⟩) n (some ⟨h2, 0, none⟩) n2 rs zs := by rw [← hW4, ← hxb]; exact i4.below ((Below.refl _ _).alloc (Nat.le_refl _) _) (Nat.le_refl _)
    have B5 := Lib.hid (B4.out.alloc (by rw [hxb]; have := (BOX.out _ B4.out).2.2.2; omega) (.cells #[.slice (some ⟨h, 0, none⟩) n n, .slice (some ⟨h2, 0, none⟩) n2 n2] 31))
    have zx : w.heap.size + 1 ≤ xb := by rw [← hxb]; exact (BOX.out _ B4.out).2.2.2
    have d0 : W4.cell? ⟨xb, 0, none⟩ = some (.slice (some ⟨h, 0, none⟩) n n) := by rw [← hW4, ← hxb, cellNew]; rfl
    have d1 : W4.cell? ⟨xb, 1, none⟩ = some (.slice (some ⟨h2, 0, none⟩) n2 n2) := by rw [← hW4, ← hxb, cellNew]; rfl
    rw [hW4] at B5 ⊢
    rw [hxb]
    clear hW4 hxb i4 B4
    refine (CI.out _ _ _ _ n n2 j4 (((Below.refl _ w).alloc (Nat.le_refl _) _).trans (B5.out.mono (by omega)))).mono ?_
    rintro e w5 ⟨rfl, hb⟩
    have B6 := Lib.hid (B5.out.trans (hb.mono (by omega)))
    have j5 := Lib.hid (j4.below hb (by omega))
    have e0 := (hb.cell (p := ⟨xb, 0, none⟩) (by show xb < _; omega)).trans d0
    have e1 := (hb.cell (p := ⟨xb, 1, none⟩) (by show xb < _; omega)).trans d1
    have z5 : xb + 1 ≤ w5.heap.size := by have := hb.size; omega
    obtain ⟨c0, c1, -, -⟩ := BOX.out _ B6.out
    have KEEP := Lib.hid (fun W (hb : Below w5.heap.size w5 W) => (⟨hb, (hb.cell (p := ⟨xb, 0, none⟩) (by show xb < _; omega)).trans e0, (hb.cell (p := ⟨xb, 1, none⟩) (by show xb < _; omega)).trans e1, (hb.cell (p := ⟨w.heap.size, 0, none⟩) (by show w.heap.size < _; omega)).trans c0, (hb.cell (p := ⟨w.heap.size, 1, none⟩) (by show w.heap.size < _; omega)).trans c1⟩ :
      Below w5.heap.size w5 W ∧ W.cell? ⟨xb, 0, none⟩ = some (.slice (some ⟨h, 0, none⟩) n n) ∧ W.cell? ⟨xb, 1, none⟩ = some (.slice (some ⟨h2, 0, none⟩) n2 n2) ∧ W.cell? ⟨w.heap.size, 0, none⟩ = some (.slice a n c) ∧ W.cell? ⟨w.heap.size, 1, none⟩ = some (.slice b n2 c2)))
    have KD := Lib.hid (KEEP.out w5.drew ((Drawn.one w5 1).below _))
    have KT := Lib.hid (fun W W' (hb : Below w5.heap.size w5 W) (hb' : Below W.heap.size W W') => KEEP.out W' (hb.trans (hb'.mono hb.size)))
    have IA := Lib.hid (fun W (hb : Below w5.heap.size w5 W) => (BOX.out W (B6.out.trans (hb.mono (by omega)))).2.2.1)
    have IX := Lib.hid (fun W (hb : Below w5.heap.size w5 W) => (j5.out.all.below hb (Nat.le_refl _)))
    have EB := Lib.hid (fun W (hb : Below w5.heap.size w5 W) => (((Below.refl _ w).alloc (Nat.le_refl _) (.cells #[.slice a n c, .slice b n2 c2] 25)).trans ((B6.out.trans (hb.mono (by omega))).mono (by omega)) : Below w.heap.size w W))
    clear hb d0 d1 j4 z4 B5
    go_wp2_with fail
    go_region_held3 (fun W => Below w5.heap.size w5 W ∧ W.cell? ⟨xb, 0, none⟩ = some (.slice (some ⟨h, 0, none⟩) n n) ∧ W.cell? ⟨xb, 1, none⟩ = some (.slice (some ⟨h2, 0, none⟩) n2 n2) ∧ W.cell? ⟨w.heap.size, 0, none⟩ = some (.slice a n c) ∧ W.cell? ⟨w.heap.size, 1, none⟩ = some (.slice b n2 c2))
      (first | exact KD.out | exact KT.out _ _ KD.out.1 hb6 | exact KT.out _ _ (KD.out.1.trans (hb6.mono KD.out.1.size)) hb7)
      (first
        | (go_at_call 7; refine (toW_way c c2 (IA.out _ KD.out.1) hl1 hl2).mono ?_; rintro e w6 ⟨q, q2, rfl, -, -, -, i6, hb6⟩)
        | (go_at_call 9; refine (eqW_way n n2 n n2 (IX.out _ (KD.out.1.trans (hb6.mono KD.out.1.size))) i6 hl3 HM2.out).mono ?_; rintro e w7 ⟨rfl, hb7⟩))
    go_wp2_with fail
    go_ret
    exact ⟨rfl, EB.out _ (KT.out _ _ (KD.out.1.trans (hb6.mono KD.out.1.size)) hb7).1⟩
  · have SZ := Lib.hid (fun W => szW_any a b n c n2 c2 1048576 W HM.out HM2.out (by omega) (by omega) (-1) (fun h => absurd h hfit) (fun _ => rfl))
    clear hfit
    go_enter Tryd.func3, Tryd.ntmps3
    go_wp2_with fail
    refine (SZ.out _).mono ?_
    rintro e w1 ⟨rfl, hb⟩
    go_wp2_with fail
    go_ret
    exact ⟨rfl, ((Below.refl _ _).alloc (Nat.le_refl _) _).trans (hb.mono (by simp))⟩
theorem own : ownKnob Tryd.prog.godebug = none := by kernel_rfl
theorem laidOut : laidOutB Tryd.prog = true := by kernel_rfl

set_option maxRecDepth 100000 in
theorem lifted (os : Os) (started : os.Started) (H : Type) (enc : TypeId × Value → H) :
    ReturnsInHanded {} Tryd.checked os 3 .any (fun w args => (Rows.fnExactWaterwayTextSpec.pre enc Tryd.prog Tryd.f3 Rows.fnExactWaterwayTextRow.domain false w args ∧ laidMetH Tryd.prog Rows.fnExactWaterwayTextRow.laid w) ∧ sizedMet enc Tryd.prog Tryd.f3 (OpenSpec.ofChange Rows.fnExactWaterwayTextSpec) false w args)
      (Rows.fnExactWaterwayTextSpec.post enc Tryd.prog Tryd.f3 false true false false) := by
  refine handed_and_shaped (C := Tryd.checked) (X := fun w _ => laidMetH Tryd.prog Rows.fnExactWaterwayTextRow.laid w) (fun _ _ _ hh h => h.of_heap hh) own started (by kernel_rfl) Tryd.func3
    (ChangeSpec.witness_shaped (enc := enc) (C := Tryd.checked) (os := os) (X := fun w _ => laidMetH Tryd.prog Rows.fnExactWaterwayTextRow.laid w) false (World.laidAll Tryd.prog os Rows.fnExactWaterwayTextRow.laid) #[.agg #[.slice none 0 0, .slice none 0 0]] 8 (World.laidAll_os _ _ _)
      (World.shaped_of_ZipB (by kernel_rfl) (by kernel_rfl)) (by kernel_rfl) (by kernel_rfl) (by kernel_rfl)
      (by rw [MakeChecks.laidMetH_plain _ _ _ (by kernel_rfl)]; exact laidMet_laidAll _ (by kernel_rfl) (by kernel_rfl))) ?_
  intro W base args ds gs before hval0 hW hcnd hsz0 hL hsh _
  rw [MakeChecks.laidMetH_plain _ _ _ (by kernel_rfl)] at hL
  have hval : ∀ (j : Nat) t v, Tryd.f3.params[j]? = some t → args[j]? = some v → Value.okWide Tryd.prog W .any base t v := hval0
  have hW' := hW
  obtain ⟨p, q, hA0, hV, rfl, hfz, hnd⟩ := hW
  have hA : DataW.TrodAll enc Tryd.prog W 0 (fun _ => true) true Tryd.f3.params.toList args.toList ds p := hA0
  rw [Tryd.params3] at hA hval
  obtain ⟨v0, vs0, d0, ds0, p0, q0, hargs, rfl, rfl, h0, r0⟩ := trodAll_cons hA
  obtain ⟨rfl, rfl, rfl⟩ := trodAll_nil r0
  obtain rfl : args = #[v0] := by cases args; simp_all
  obtain ⟨rfl, rfl⟩ := trodVars_none hV
  have k0 := h0
  have lt0 : ∀ x ∈ p0, x.block < W.heap.size := by obtain ⟨m, hm⟩ := k0; exact DataW.trod_lt m _ _ _ hm
  obtain ⟨c0, e0, y0, u0, m0, rfl, rfl, rfl, hy0, hu0⟩ := Go.Joins.open_agg2 Tryd.underlying25 (by kernel_rfl) (by kernel_rfl) (hval 0 25 v0 rfl rfl) h0
  obtain ⟨a0, len0, cap0, r0x, hcs, hrl0, hrm0, -, hrh0⟩ := open_reaches Tryd.underlying22 Tryd.underlying60 (by kernel_rfl) (by kernel_rfl) Tryd.underlying3 Tryd.underlying3 Tryd.underlying3 hy0
  injection hcs with hcs _
  subst hcs
  obtain ⟨b0, zen0, zap0, z0, hzs, w0⟩ : ∃ (b : Option Addr) (zen zap : Nat) (zs : List Int), e0 = .slice b zen zap ∧ IsInts .i64 W b zen zs := by
    rcases open_ints Tryd.underlying23 Tryd.underlying3 (by kernel_rfl) hu0 with ⟨hcs, _⟩ | ⟨x, l, c, zs, hcs, _, hl, hm, hz, _, hcell, hwz⟩
    · injection hcs with hcs _
      exact ⟨none, 0, 0, [], hcs, isInts_nil _ W⟩
    · injection hcs with hcs _
      exact ⟨_, _, _, _, hcs, isInts_some hl hm (by simpa using hz) hcell hwz⟩
  subst hzs
  clear hA0 hval0
  refine (walk a0 len0 cap0 r0x b0 zen0 zap0 z0 W hrl0 hrm0 hrh0 w0 hL hsh).mono fun e W' ⟨he, bel⟩ => ?_
  subst he
  exact ⟨_, rfl, _, _, _, [], _, [], hW', trodAll_mk1 (shut_bool Tryd.underlying4 _), (trodAll_cons_mk (Below.trod laidOut (by kernel_rfl) (of_decide_eq_true (by kernel_rfl)) k0 bel lt0) trodAll_mk0), rfl, bel.frame _, fun h => by cases h⟩

theorem over : Rows.fnExactWaterwayTextRow.holds Tryd.pinned (OpenSpec.ofChange Rows.fnExactWaterwayTextSpec) :=
  OpenClaim.holds_of_wide 3 Tryd.f3 rfl rfl rfl rfl rfl rfl rfl ⟨rfl, rfl, rfl, rfl, rfl⟩ rfl rfl rfl rfl rfl (by kernel_rfl) Tryd.func3 (by kernel_rfl)
    (of_decide_eq_true (by kernel_rfl)) (by unfold Func.isWrapper; first | (rw [if_pos (by decide +kernel)]; kernel_rfl) | (rw [if_neg (by decide +kernel)]; exact ⟨rfl, rfl⟩))
    (fun os started H enc _ => lifted os started H enc)

/-- The tied card: the statement. -/
theorem proved : Rows.FnExactWaterwayTextCardSaid :=
  Claim7.holds_tied_plain_at .later [] [.data, .data, .data, .data, .pinned] true (true, "243a143370dec0d852a85154cc7d51c2ab477912153257ea14e458199ae80e7e") true
    over (fun _ h => by cases h) (by kernel_rfl) (fun _ h => by cases h) fnExactWaterwayText_row_tie rfl ⟨rfl, rfl⟩ (by kernel_rfl) rfl
    (fun f fn hf hfn => by
      obtain rfl : f = 3 := Option.some.inj ((show Tryd.prog.funcNamed "loop.example/g00924/laws.FnExactWaterwayText" = some 3 by kernel_rfl).symm.trans hf) |>.symm
      obtain rfl : fn = Tryd.f3 := (Option.some.inj (Tryd.func3.symm.trans hfn)).symm
      exact ⟨by kernel_rfl, fun j t ht => by
        rw [Tryd.params3] at ht
        rcases j with _ | j
        · have h3 : t = 25 := by simpa using ht.symm
          subst h3
          exact (show Tryd.prog.wantsStandIn 25 = false by kernel_rfl)
        · simp at ht⟩)
    (by kernel_rfl)
end Go.Proofs.YtomehioembakgaaDoor.fnExactWaterwayText
