/- Chapter 11: a Pool drawn, two Pools drawn; Pools beside Pools; what the laws ask of the answers. -/
import Derived.Test.YtgnopkemcgbedaaPpC
import Derived.Test.YtgnopkemcgbedaaPoX
namespace Go.Proofs.Ytgnopkemcgbedaa
open Go.RowKit Go.PlainAid Go.Sort
set_option linter.unusedVariables false
set_option linter.unusedSimpArgs false

theorem results_row2 {P : Program} {fn : Func} {p q : Tmp} {ty : TypeId} (h : fn.results = #[.cell p ty, .cell q ty]) (tmps : Array Value) (w : World) (g g2 : Nat) (cs cs2 : List Value) (d : TypeDesc)
    (hp : tmps.getD p undef = .pointer (some ⟨g, 0, none⟩)) (hq : tmps.getD q undef = .pointer (some ⟨g2, 0, none⟩)) (hc : w.rangeAt g 0 cs) (hc2 : w.rangeAt g2 0 cs2) (hu : P.underlying ty = some d) (hd : d.isRow = true) (hi : (P.info? ty).map (·.size) = some cs.length) (hi2 : (P.info? ty).map (·.size) = some cs2.length) :
    (results fn tmps).run P w = .ok (.tuple #[.agg cs.toArray, .agg cs2.toArray]) w := by
  have hp' : tmps[p]?.getD undef = .pointer (some ⟨g, 0, none⟩) := by simpa using hp
  have hq' : tmps[q]?.getD undef = .pointer (some ⟨g2, 0, none⟩) := by simpa using hq
  simp [results, h, hp', hq', asAddr, run_loadVar_mid w g 0 ty cs d hc hu hd hi, run_loadVar_mid w g2 0 ty cs2 d hc2 hu hd hi2]
set_option maxHeartbeats 2000000 in
theorem drawV_any {w : World} {A : Option Addr} {n : Nat} {zs : List Int} {B : Nat} (c : Nat) (h : Code_ w A n zs B) :
    Calls Try.prog 66 #[.slice A n c] w (DrwPl w) := by
  have hsz : (w.alloc (.cells #[.int .i64 0, .int .i64 0, .int .i64 0] 35)).heap.size = w.heap.size + 1 := by simp
  have h2 : Code_ (w.alloc (.cells #[.int .i64 0, .int .i64 0, .int .i64 0] 35)) A n zs B := h.on ((below1 w _).mono h.size)
  have H := Lib.hid (h2.start c)
  have BX := Lib.hid ((BoxP.new w 0 0 0).all (below1 _ (.cells #[.slice A n c, .int .i64 0, .int .u64 0] 67)))
  have hbs := Lib.hid (fun w' (h : ((w.alloc (.cells #[.int .i64 0, .int .i64 0, .int .i64 0] 35)).alloc (.cells #[.slice A n c, .int .i64 0, .int .u64 0] 67)).grownBy w' (some (w.alloc (.cells #[.int .i64 0, .int .i64 0, .int .i64 0] 35)).heap.size)) => (below1 w _).trans ((below_start h).mono (by simp)))
  have C := Lib.hid (pool_at (h2.start c) (by omega))
  rw [hsz] at H hbs C
  clear h h2
  go_enter Try.func66, Try.ntmps66
  go_wp2_with fail
  obtain ⟨W0, hW0⟩ : ∃ W, (w.alloc (.cells #[.int .i64 0, .int .i64 0, .int .i64 0] 35)).alloc (.cells #[.slice A n c, .int .i64 0, .int .u64 0] 67) = W := ⟨_, rfl⟩
  rw [hW0] at H BX hbs C ⊢
  clear hW0 hsz
  obtain ⟨xr, hxr⟩ : ∃ x, w.heap.size = x := ⟨_, rfl⟩
  rw [hxr] at BX H C
  have hbs2 : Hid (∀ w', W0.grownBy w' (some (xr + 1)) → Below w.heap.size w w') := Lib.hid (fun w' h => hbs.out w' (by rw [hxr]; exact h))
  clear hbs
  try simp only [hxr]
  have HXR : Hid (w.heap.size ≤ xr) := Lib.hid (by omega)
  clear hxr
  refine C.out.mono ?_
  rintro e w1 ⟨f0, f1, f2, rfl, hs⟩
  have HB := Lib.hid (hbs2.out _ hs.grown)
  have BX1 := Lib.hid (BX.out.kept hs.grown (by simp))
  clear hs C BX H hbs2
  have x0 := BX1.out.c0
  have x1 := BX1.out.c1
  have x2 := BX1.out.c2
  have z0 := BX1.out.fz 0
  have z1 := BX1.out.fz 1
  have z2 := BX1.out.fz 2
  go_wp2_with fail
  refine bodyPost_ret (results_row0 rfl _ _ xr [_, _, _] _ rfl (BoxP.rangeAt (BX1.out.sets f0 f1 f2)) Try.underlying35 rfl (by kernel_rfl)) rfl ?_
  exact ⟨f0, f1, f2, rfl, sets3P_below HB.out HXR.out _ _ _⟩
set_option maxHeartbeats 2000000 in
theorem drawLv_any {w : World} {A : Option Addr} {n : Nat} {zs : List Int} {B : Nat} (c : Nat) (h : Code_ w A n zs B) :
    Calls Try.prog 26 #[.slice A n c] w (DrwPl w) := by
  have C := Lib.hid (drawV_any c (h.on ((below1 w (.cells #[.int .i64 0, .int .i64 0, .int .i64 0] 35)).mono h.size)))
  have BX := Lib.hid (BoxP.new w 0 0 0)
  have HB0 := Lib.hid (below1 w (.cells #[.int .i64 0, .int .i64 0, .int .i64 0] 35))
  clear h
  go_enter Try.func26, Try.ntmps26
  go_wp2_with fail
  obtain ⟨W0, hW0⟩ : ∃ W, (w.alloc (.cells #[.int .i64 0, .int .i64 0, .int .i64 0] 35)) = W := ⟨_, rfl⟩
  rw [hW0] at BX HB0 C ⊢
  clear hW0
  obtain ⟨xr, hxr⟩ : ∃ x, w.heap.size = x := ⟨_, rfl⟩
  rw [hxr] at BX
  try simp only [hxr]
  have HXR : Hid (w.heap.size ≤ xr) := Lib.hid (by omega)
  clear hxr
  refine C.out.mono ?_
  rintro e w2 ⟨f0, f1, f2, rfl, hb⟩
  have BX2 := Lib.hid (BX.out.all hb)
  have HB2 := Lib.hid (HB0.out.trans (hb.mono HB0.out.size))
  clear C BX hb HB0
  have x0 := BX2.out.c0
  have x1 := BX2.out.c1
  have x2 := BX2.out.c2
  have z0 := BX2.out.fz 0
  have z1 := BX2.out.fz 1
  have z2 := BX2.out.fz 2
  go_wp2_with fail
  refine bodyPost_ret (results_row0 rfl _ _ xr [_, _, _] _ rfl (BoxP.rangeAt (BX2.out.sets f0 f1 f2)) Try.underlying35 rfl (by kernel_rfl)) rfl ?_
  exact ⟨f0, f1, f2, rfl, sets3P_below HB2.out HXR.out _ _ _⟩
set_option maxHeartbeats 4000000 in
theorem drawFB_any {w : World} {A : Option Addr} {n : Nat} {zs : List Int} {B : Nat} (c : Nat) (h : Code_ w A n zs B) :
    Calls Try.prog 24 #[.slice A n c] w (DrwPl2 w) := by
  obtain ⟨W2, hW2⟩ : ∃ W, (w.alloc (.cells #[.int .i64 0, .int .i64 0, .int .i64 0] 35)).alloc (.cells #[.int .i64 0, .int .i64 0, .int .i64 0] 35) = W := ⟨_, rfl⟩
  have hb2 : Below w.heap.size w W2 := by rw [← hW2]; exact below2 w _ _
  have hsz : W2.heap.size = w.heap.size + 1 + 1 := by rw [← hW2]; simp
  have BA : BoxP W2 w.heap.size 0 0 0 := by rw [← hW2]; exact (BoxP.new w 0 0 0).all (below1 _ _)
  have BB : BoxP W2 (w.heap.size + 1) 0 0 0 := by rw [← hW2]; exact World.size_alloc w _ ▸ BoxP.new _ 0 0 0
  have h2 : Code_ W2 A n zs B := h.on (hb2.mono h.size)
  have H := Lib.hid (h2.start c)
  have hb3 := below1 W2 (.cells #[.slice A n c, .int .i64 0, .int .u64 0] 67)
  have BXA := Lib.hid (BA.all hb3)
  have BXB := Lib.hid (BB.all hb3)
  have hbs := Lib.hid (fun w' (h : (W2.alloc (.cells #[.slice A n c, .int .i64 0, .int .u64 0] 67)).grownBy w' (some W2.heap.size)) => hb2.trans ((below_start h).mono (by omega)))
  have C := Lib.hid (pool_at (h2.start c) (by omega))
  rw [hsz] at H hbs C
  clear h h2 BA BB hb3 hb2
  go_enter Try.func24, Try.ntmps24
  go_wp2_with fail
  (try rw [hW2])
  (try rw [hsz])
  obtain ⟨W0, hW0⟩ : ∃ W, W2.alloc (.cells #[.slice A n c, .int .i64 0, .int .u64 0] 67) = W := ⟨_, rfl⟩
  rw [hW0] at H BXA BXB hbs C ⊢
  clear hW0 hsz hW2
  obtain ⟨xr, hxr⟩ : ∃ x, w.heap.size = x := ⟨_, rfl⟩
  rw [hxr] at BXA BXB H C
  have hbs2 : Hid (∀ w', W0.grownBy w' (some (xr + 1 + 1)) → Below w.heap.size w w') := Lib.hid (fun w' h => hbs.out w' (by rw [hxr]; exact h))
  clear hbs
  try simp only [hxr]
  have HXR : Hid (w.heap.size ≤ xr) := Lib.hid (by omega)
  clear hxr
  refine C.out.mono ?_
  rintro e w1 ⟨f0, f1, f2, rfl, hs⟩
  have S1 := Lib.hid hs
  have BA1 := Lib.hid (BXA.out.kept hs.grown (by simp; omega))
  have BB1 := Lib.hid (BXB.out.kept hs.grown (by simp))
  clear hs C BXA BXB
  obtain ⟨r5, r50, r51, H5⟩ := S1.out.at H.out
  go_wp2_with fail
  refine (pool_at H5 (by omega)).mono ?_
  rintro e w3 ⟨h0, h1, h2, rfl, hs⟩
  have HB := Lib.hid (hbs2.out _ (S1.out.grown.trans hs.grown))
  have BA2 := Lib.hid (BA1.out.kept hs.grown (by simp; omega))
  have BB2 := Lib.hid (BB1.out.kept hs.grown (by simp))
  clear hs S1 BA1 BB1 H5 r50 r51 hbs2 H
  have x0 := BA2.out.c0
  have x1 := BA2.out.c1
  have x2 := BA2.out.c2
  have z0 := BA2.out.fz 0
  have z1 := BA2.out.fz 1
  have z2 := BA2.out.fz 2
  have y0 := BB2.out.c0
  have y1 := BB2.out.c1
  have y2 := BB2.out.c2
  have q0 := BB2.out.fz 0
  have q1 := BB2.out.fz 1
  have q2 := BB2.out.fz 2
  have GA := BA2.out.sets f0 f1 f2
  have hgr := ((grown_setP w3 xr 0 (.int .i64 f0)).trans (grown_setP _ xr 1 (.int .i64 f1))).trans (grown_setP _ xr 2 (.int .i64 f2))
  have GB := (BB2.out.kept hgr (by simp)).sets h0 h1 h2
  have hgr2 := ((grown_setP (sets3P w3 xr f0 f1 f2) (xr + 1) 0 (.int .i64 h0)).trans (grown_setP _ (xr + 1) 1 (.int .i64 h1))).trans (grown_setP _ (xr + 1) 2 (.int .i64 h2))
  have HGA := Lib.hid (GA.kept hgr2 (by simp))
  have HGB := Lib.hid GB
  have HBF := Lib.hid (sets3P_below (sets3P_below HB.out HXR.out f0 f1 f2) (show w.heap.size ≤ xr + 1 by have := HXR.out; omega) h0 h1 h2)
  clear GA GB hgr hgr2
  go_wp2_with fail
  refine bodyPost_ret (results_row2 rfl _ _ xr (xr + 1) [_, _, _] [_, _, _] _ rfl rfl (BoxP.rangeAt HGA.out) (BoxP.rangeAt HGB.out) Try.underlying35 rfl (by kernel_rfl) (by kernel_rfl)) rfl ?_
  exact ⟨f0, f1, f2, h0, h1, h2, rfl, HBF.out⟩
set_option maxHeartbeats 1000000 in
theorem rPools_same {w : World} {B1 B2 : Nat} {A1 A2 : Option Addr} {n : Nat} {vs : List TPool} (c1 c2 : Nat) (h1 : IsPools w B1 A1 n vs) (h2 : IsPools w B2 A2 n vs) (hm : n ≤ 1048576) :
    Calls Try.prog 19 #[.slice A1 n c1, .slice A2 n c2] w fun e w' => e = .returned (.bool true) ∧ Below w.heap.size w w' := by
  have HL := Lib.hid h1.len
  have H1 := Lib.hid h1
  have H2 := Lib.hid h2
  clear h1 h2
  go_enter Try.func19, Try.ntmps19
  go_wp2
  go_loopw [5] (fun i wr => ∃ k : Nat, k ≤ n ∧ i = .int .i64 k ∧ Below w.heap.size w wr) (fun i _ => n - (intOf i).toNat)
  case atStart => exact ⟨0, Nat.zero_le _, rfl, Below.refl _ _⟩
  case round =>
    obtain ⟨k, hk, rfl, hb⟩ := hrel
    by_cases hlt : k < n
    · have hkl : k < vs.length := by rw [HL.out]; exact hlt
      obtain ⟨a1, rfl, _, hs1⟩ := (H1.out.has.below (hb.mono H1.out.low)).Pool hkl
      obtain ⟨a2, rfl, _, hs2⟩ := (H2.out.has.below (hb.mono H2.out.low)).Pool hkl
      have e0 := hs1.c0
      have e1 := hs1.c1
      have e2 := hs1.c2
      have g0 := hs2.c0
      have g1 := hs2.c1
      have g2 := hs2.c2
      clear hs1 hs2
      generalize vs.getD k noPool = V at e0 e1 e2 g0 g1 g2
      obtain ⟨x, y, z⟩ := V
      dsimp only at e0 e1 e2 g0 g1 g2
      have E0 := fun (d : Nat) (os : Array Obj) => cell_regrown e0 d os
      have E1 := fun (d : Nat) (os : Array Obj) => cell_regrown e1 d os
      have E2 := fun (d : Nat) (os : Array Obj) => cell_regrown e2 d os
      have G0 := fun (d : Nat) (os : Array Obj) => cell_regrown g0 d os
      have G1 := fun (d : Nat) (os : Array Obj) => cell_regrown g1 d os
      have G2 := fun (d : Nat) (os : Array Obj) => cell_regrown g2 d os
      have hk0 : (0 : Int) ≤ (k : Int) := by omega
      have hk1 : (k : Int) < (n : Int) := by omega
      have HB := Lib.hid hb
      clear hb H1 H2 e0 e1 e2 g0 g1 g2
      go_wp2
      refine wp_region_quiet_below (by kernel_rfl) (by kernel_rfl) ?_
      repeat (go_big_quiet_step (first | fail))
      refine wpQuiet_nil ?_
      intro _ hw'
      obtain ⟨⟨dq, osq⟩, hw''⟩ := hw'
      subst hw''
      have HB1 := Lib.hid (HB.out.trans ((below_regrown wr dq osq).mono HB.out.size))
      go_wp2
      go_roundw
      case rel => exact ⟨k + 1, by omega, by go_num, HB1.out⟩
      case measure => simp [intOf]; omega
    · obtain rfl : k = n := by omega
      clear H1 H2
      go_wp2
      go_ret
      exact ⟨rfl, hb⟩

/-! What the laws ask. -/
structure LetF (vs L : List TPool) (p r : Nat) (z t : Int) : Prop where
  g0 : goodPs vs
  g1 : goodPs L
  hp : p < vs.length
  hr : r < vs.length
  ne : p ≠ r
  len : L.length = vs.length
  a0 : AllA vs t true
  a1 : AllA L t true
  f0 : FloA (vs.getD p noPool) (vs.getD r noPool) z true
  f1 : FloA (L.getD p noPool) (L.getD r noPool) 0 true
  f2 : ∃ y, FloA (L.getD r noPool) (L.getD p noPool) y true ∧ (0 < z → y = 0)
theorem LetA.facts {vs L : List TPool} {i j z : Int} (h : LetA vs i j L z true) : ∃ (p r : Nat) (t : Int), i = (p : Int) ∧ j = (r : Int) ∧ LetF vs L p r z t := by
  have hc : canL vs i j ∧ goodPs (letP vs i.toNat j.toNat) := by
    by_cases hc : canL vs i j ∧ goodPs (letP vs i.toNat j.toNat)
    · exact hc
    · have := (h.2 hc).2.2; cases this
  obtain ⟨rfl, rfl, -⟩ := h.1 hc
  obtain ⟨⟨hg, hi, hj, hij⟩, hg2⟩ := hc
  have hp : i.toNat < vs.length := by omega
  have hr : j.toNat < vs.length := by omega
  have hne : i.toNat ≠ j.toNat := by omega
  have gp := hg.2 _ hp
  have gr := hg.2 _ hr
  have e1 : (letP vs i.toNat j.toNat).getD i.toNat noPool = subW (vs.getD i.toNat noPool) (fl vs i.toNat j.toNat) := by
    rw [letP_at hp, if_neg hne, if_pos rfl]
  have e2 : (letP vs i.toNat j.toNat).getD j.toNat noPool = addW (vs.getD j.toNat noPool) (fl vs i.toNat j.toNat) := by
    rw [letP_at hr, if_pos rfl]
  have gp2 := hg2.2 _ (by rw [letP_len]; exact hp)
  have gr2 := hg2.2 _ (by rw [letP_len]; exact hr)
  rw [e1] at gp2
  rw [e2] at gr2
  have hl := tot_let hp hr hne
  refine ⟨i.toNat, j.toNat, totP vs vs.length, by omega, by omega, hg, hg2, hp, hr, hne, letP_len _ _ _, ⟨fun _ => ⟨rfl, rfl⟩, fun h => by rw [gPs_yes hg] at h; cases h⟩, ⟨fun _ => ⟨by rw [letP_len, hl], rfl⟩, fun h => by rw [gPs_yes hg2] at h; cases h⟩, floA_yes gp gr, ?_, ?_⟩
  · rw [e1, e2]
    have := flo_again gp gr gr2.2.2.2
    have h2 := floA_yes gp2 gr2
    rw [show flo (subW (vs.getD i.toNat noPool) (fl vs i.toNat j.toNat)) (addW (vs.getD j.toNat noPool) (fl vs i.toNat j.toNat)) = 0 from this] at h2
    exact h2
  · rw [e1, e2]
    exact ⟨_, floA_yes gr2 gp2, fun h0 => flo_back gp gr h0 gr2.2.2.2⟩
theorem FloA.le {a b : TPool} {z : Int} {x : Bool} (h : FloA a b z x) : x = false ∨ z ≤ a.x2 := by
  by_cases e : goodP a ∧ goodP b
  · obtain ⟨rfl, -⟩ := h.1 e
    exact .inr (flo_bd e.1 e.2).2
  · exact .inl (h.2 e).2
theorem LvlA.told {a : TPool} {p q : Int} {x : Bool} (h : LvlA a p q x) : decide (goodP a) = x := by
  by_cases e : goodP a
  · rw [decide_eq_true e, (h.1 e).2.2]
  · rw [decide_eq_false e, (h.2 e).2.2]
/-- The level is the fraction that is told. -/
theorem LvlA.same {a : TPool} {p q : Int} (h : LvlA a p q true) : p * a.x0 = (a.x1 * a.x0 + a.x2) * q ∧ (0 ≤ p * a.x0 ∧ p * a.x0 ≤ 30000000) ∧ (0 ≤ a.x1 * a.x0 ∧ a.x1 * a.x0 ≤ 200000) ∧ (0 ≤ a.x2 ∧ a.x2 ≤ 100000) := by
  have hg : goodP a := by
    by_cases e : goodP a
    · exact e
    · have := (h.2 e).2.2; cases this
  obtain ⟨rfl, rfl, -⟩ := h.1 hg
  have hb := hgt_bd hg
  have hr := red_bd hb.1 (show 0 < a.x0 by have := hg.1; omega)
  refine ⟨red_same hb.1 (by have := hg.1; omega), mul_bdP (Y := 100) ⟨hr.1, Int.le_trans hr.2.1 hb.2.1⟩ (show 0 ≤ a.x0 ∧ a.x0 ≤ 100 by have := hg.1; omega), ⟨hb.2.2.1, hb.2.2.2⟩, hg.2.2⟩
theorem AllA.told {vs : List TPool} {z : Int} {x : Bool} (h : AllA vs z x) : gPs vs = x := by
  cases e : gPs vs with
  | true => rw [(h.1 e).2]
  | false => rw [(h.2 e).2]
end Go.Proofs.Ytgnopkemcgbedaa
