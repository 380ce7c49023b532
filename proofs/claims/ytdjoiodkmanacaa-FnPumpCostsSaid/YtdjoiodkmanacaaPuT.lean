/- Chapter 12: tasks in a law: their copy, their equality, their size, marks. -/
import Derived.Test.YtdjoiodkmanacaaPuA
import Derived.Test.YtdjoiodkmanacaaIntX
import Derived.Test.YtdjoiodkmanacaaSt0
import Derived.Test.YtdjoiodkmanacaaCur
namespace Go.Proofs.Ytdjoiodkmanacaa
open Go.RowKit Go.PlainAid Go.Sort
set_option linter.unusedVariables false
set_option linter.unusedSimpArgs false

theorem results_row0 {P : Program} {fn : Func} {p : Tmp} {ty : TypeId} (h : fn.results = #[.cell p ty]) (tmps : Array Value) (w : World) (g : Nat) (cs : List Value) (d : TypeDesc)
    (hp : tmps.getD p undef = .pointer (some ⟨g, 0, none⟩)) (hc : w.rangeAt g 0 cs) (hu : P.underlying ty = some d) (hd : d.isRow = true) (hi : (P.info? ty).map (·.size) = some cs.length) :
    (results fn tmps).run P w = .ok (.agg cs.toArray) w := by
  have hp' : tmps[p]?.getD undef = .pointer (some ⟨g, 0, none⟩) := by simpa using hp
  simp [results, h, hp', asAddr, run_loadVar_mid w g 0 ty cs d hc hu hd hi]
abbrev sets5 (W : World) (g : Nat) (v0 v1 v2 v3 v4 : Value) : World :=
  ((((W.setCell ⟨g, 0, none⟩ v0).setCell ⟨g, 1, none⟩ v1).setCell ⟨g, 2, none⟩ v2).setCell ⟨g, 3, none⟩ v3).setCell ⟨g, 4, none⟩ v4
theorem BoxT.sets {W : World} {g : Nat} {a b c : Int} {A D : Option Addr} {n q m r : Nat} (h : BoxT W g a b c A n q D m r) (a' b' c' : Int) (A' : Option Addr) (n' q' : Nat) (D' : Option Addr) (m' r' : Nat) :
    BoxT (sets5 W g (.int .i64 a') (.int .i64 b') (.int .i64 c') (.slice A' n' q') (.slice D' m' r')) g a' b' c' A' n' q' D' m' r' := by
  unfold BoxT at *
  simp [sets5, World.setCell, Array.getElem?_modify, h]
theorem BoxT.set3 {W : World} {g : Nat} {a b c : Int} {A D : Option Addr} {n q m r : Nat} (h : BoxT W g a b c A n q D m r) (A' : Option Addr) (n' q' : Nat) :
    BoxT (W.setCell ⟨g, 3, none⟩ (.slice A' n' q')) g a b c A' n' q' D m r := by
  unfold BoxT at *
  simp [World.setCell, Array.getElem?_modify, h]
theorem BoxT.set4 {W : World} {g : Nat} {a b c : Int} {A D : Option Addr} {n q m r : Nat} (h : BoxT W g a b c A n q D m r) (D' : Option Addr) (m' r' : Nat) :
    BoxT (W.setCell ⟨g, 4, none⟩ (.slice D' m' r')) g a b c A n q D' m' r' := by
  unfold BoxT at *
  simp [World.setCell, Array.getElem?_modify, h]
theorem BoxT.off {W : World} {g g' : Nat} {a b c : Int} {A D : Option Addr} {n q m r : Nat} (h : BoxT W g a b c A n q D m r) (hne : g ≠ g') (k : Nat) (u : Value) : BoxT (W.setCell ⟨g', k, none⟩ u) g a b c A n q D m r :=
  (Below.heap_setCell _ _ _ _ hne).trans h
theorem own_sets5 {W : World} {base : Nat} {e : TypeId} {size n : Nat} {v : Value} {xs : List Value} (h : W.ownsRow base e size v n xs) (g : Nat) (v0 v1 v2 v3 v4 : Value) (hne : v.ownBlock ≠ some g) : (sets5 W g v0 v1 v2 v3 v4).ownsRow base e size v n xs :=
  own_set (own_set (own_set (own_set (own_set h _ _ _ hne) _ _ _ hne) _ _ _ hne) _ _ _ hne) _ _ _ hne
theorem sets5_below {w W : World} {B : Nat} (h : Below B w W) {g : Nat} (hg : B ≤ g) (v0 v1 v2 v3 v4 : Value) : Below B w (sets5 W g v0 v1 v2 v3 v4) :=
  ((((h.setCell (p := ⟨g, 0, none⟩) hg _).setCell (p := ⟨g, 1, none⟩) hg _).setCell (p := ⟨g, 2, none⟩) hg _).setCell (p := ⟨g, 3, none⟩) hg _).setCell (p := ⟨g, 4, none⟩) hg _
set_option maxRecDepth 100000 in
set_option maxHeartbeats 4000000 in
theorem toT_any {w : World} {B : Nat} {A D : Option Addr} {n m : Nat} {zs : List Int} {vs : List TPump} (a b c : Int) (q r : Nat) (h : IsTs w B A n zs D m vs) (hm : n ≤ 1048576) (hm2 : m ≤ 1048576) :
    Calls Try.prog 40 #[.agg #[.int .i64 a, .int .i64 b, .int .i64 c, .slice A n q, .slice D m r]] w fun e w' => ∃ g g2, e = .returned (.agg #[.int .i64 a, .int .i64 b, .int .i64 c, .slice (some ⟨g, 0, none⟩) n n, .slice (some ⟨g2, 0, none⟩) m m]) ∧ g ≠ g2 ∧
      w'.ownsRow w.heap.size 3 1 (.slice (some ⟨g, 0, none⟩) n n) n (zs.map (.int .i64)) ∧ w'.ownsRow w.heap.size 69 3 (.slice (some ⟨g2, 0, none⟩) m m) m (flatPump vs) ∧ Below w.heap.size w w' := by
  have CI := Lib.hid (fun (W : World) (hb : Below w.heap.size w W) => toI_ex A n q B zs W h.ints.len hm (h.upB hb).low (h.upB hb).ints.has)
  have CP := Lib.hid (fun (W : World) (hb : Below w.heap.size w W) => toPumpS_is r (h.upB hb).pumps hm2)
  clear h
  go_enter Try.func40, Try.ntmps40
  go_wp2_with fail
  obtain ⟨Wa, hWa⟩ : ∃ W, w.alloc (.cells #[.int .i64 a, .int .i64 b, .int .i64 c, .slice A n q, .slice D m r] 48) = W := ⟨_, rfl⟩
  have sa : Wa.heap.size = w.heap.size + 1 := by rw [← hWa]; simp
  have ba : Below w.heap.size w Wa := by rw [← hWa]; exact below1 _ _
  have x4 : Wa.cell? ⟨w.heap.size, 4, none⟩ = some (.slice D m r) := by rw [← hWa, sNew]; rfl
  rw [hWa]
  obtain ⟨Wb, hWb⟩ : ∃ W, Wa.alloc (.cells #[.int .i64 0, .int .i64 0, .int .i64 0, .slice none 0 0, .slice none 0 0] 27) = W := ⟨_, rfl⟩
  have sb : Wb.heap.size = w.heap.size + 2 := by rw [← hWb]; simp [sa]
  have bb : Below Wa.heap.size Wa Wb := by rw [← hWb]; exact below1 _ _
  have y1 : BoxT Wb (w.heap.size + 1) 0 0 0 none 0 0 none 0 0 := by rw [← hWb, ← sa]; exact BoxT.new ..
  rw [hWb]
  obtain ⟨Wc, hWc⟩ : ∃ W, Wb.alloc (.cells #[.int .i64 a, .int .i64 b, .int .i64 c, .slice none 0 0, .slice none 0 0] 27) = W := ⟨_, rfl⟩
  have sc : Wc.heap.size = w.heap.size + 3 := by rw [← hWc]; simp [sb]
  have bc : Below Wb.heap.size Wb Wc := by rw [← hWc]; exact below1 _ _
  have y2 : BoxT Wc (w.heap.size + 2) a b c none 0 0 none 0 0 := by rw [← hWc, ← sb]; exact BoxT.new ..
  rw [hWc]
  have y1c : BoxT Wc (w.heap.size + 1) 0 0 0 none 0 0 none 0 0 := y1.all bc
  have x4c := (bc.cell (p := ⟨w.heap.size, 4, none⟩) (by show w.heap.size < _; omega)).trans ((bb.cell (p := ⟨w.heap.size, 4, none⟩) (by show w.heap.size < _; omega)).trans x4)
  have bw : Below w.heap.size w Wc := (ba.trans (bb.mono ba.size)).trans (bc.mono (by omega))
  clear hWa hWb hWc ba bb bc sa sb y1 x4
  refine (CI.out Wc bw).mono ?_
  rintro e w1 ⟨g, rfl, ho1, hb1⟩
  have hg1 := ho1.lt g rfl
  have y1d := y1c.all hb1
  have y2d := y2.all hb1
  have x4d := (hb1.cell (p := ⟨w.heap.size, 4, none⟩) (by show w.heap.size < _; omega)).trans x4c
  have bw1 : Below w.heap.size w w1 := bw.trans (hb1.mono bw.size)
  have s1 : w.heap.size + 3 ≤ w1.heap.size := by have := hb1.size; omega
  have HY1 := Lib.hid y1d
  have HY2 := Lib.hid y2d
  have HO1 := Lib.hid ho1
  have HBW := Lib.hid bw1
  have z3 := y2d.c3
  have f3 := y2d.fz 3
  have hgl : w.heap.size + 3 ≤ g := by omega
  have hlc : w.heap.size ≤ Wc.heap.size := by omega
  clear y1c y2 x4c bw hb1 y1d y2d ho1 bw1 CI hg1 sc
  go_wp2_with fail
  have e11 : w.heap.size + 1 + 1 = w.heap.size + 2 := rfl
  (try rw [e11])
  obtain ⟨W4, hW4⟩ : ∃ W, w1.setCell ⟨w.heap.size + 2, 3, none⟩ (.slice (some ⟨g, 0, none⟩) n n) = W := ⟨_, rfl⟩
  have y2e := HY2.out.set3 (some ⟨g, 0, none⟩) n n
  have y1e := HY1.out.off (g' := w.heap.size + 2) (by omega) 3 (.slice (some ⟨g, 0, none⟩) n n)
  have ho1e := own_set HO1.out (w.heap.size + 2) 3 (.slice (some ⟨g, 0, none⟩) n n) (by simp [Value.ownBlock]; omega)
  have bwe := HBW.out.setCell (p := ⟨w.heap.size + 2, 3, none⟩) (by show w.heap.size ≤ w.heap.size + 2; omega) (.slice (some ⟨g, 0, none⟩) n n)
  have s4 : W4.heap.size = w1.heap.size := by rw [← hW4]; simp [World.setCell]
  rw [hW4] at y2e y1e ho1e bwe ⊢
  clear hW4 HY1 HY2 HO1 HBW z3 f3
  refine (CP.out W4 bwe).mono ?_
  rintro e w2 ⟨g2, rfl, ho2, -, hb2⟩
  have hg2 := ho2.lt g2 rfl
  have hg1b := (ho1e.lt g rfl).2
  have y1f := y1e.all hb2
  have y2f := y2e.all hb2
  have HO1 := Lib.hid (own_below ho1e hb2)
  have HO2 := Lib.hid ho2
  have HB2 := Lib.hid (bwe.trans (hb2.mono bwe.size))
  have HY1 := Lib.hid y1f
  have a0 := y2f.c0
  have a1 := y2f.c1
  have a2 := y2f.c2
  have a3 := y2f.c3
  have a4 := y2f.c4
  have b4 := y2f.fz 4
  have d0 := y1f.c0
  have d1 := y1f.c1
  have d2 := y1f.c2
  have d3 := y1f.c3
  have d4 := y1f.c4
  have k0 := y1f.fz 0
  have k1 := y1f.fz 1
  have k2 := y1f.fz 2
  have k3 := y1f.fz 3
  have k4 := y1f.fz 4
  have hg2l : w.heap.size + 3 ≤ g2 := by omega
  have hgg : g ≠ g2 := by omega
  have hl4 : w.heap.size ≤ W4.heap.size := bwe.size
  clear y2e y1e ho1e bwe ho2 hb2 y1f y2f CP x4d hg2 hg1b s4
  go_wp2_with fail
  have hy := (HY1.out.off (g' := w.heap.size + 2) (by omega) 4 (.slice (some ⟨g2, 0, none⟩) m m)).sets a b c (some ⟨g, 0, none⟩) n n (some ⟨g2, 0, none⟩) m m
  refine bodyPost_ret (results_row0 rfl _ _ (w.heap.size + 1) _ _ rfl hy.rangeAt Try.underlying27 rfl (by kernel_rfl)) rfl ?_
  refine ⟨g, g2, rfl, hgg, ?_, ?_, ?_⟩
  · exact own_sets5 (own_set (own_low HO1.out hlc) _ _ _ (by simp [Value.ownBlock]; omega)) _ _ _ _ _ _ (by simp [Value.ownBlock]; omega)
  · exact own_sets5 (own_set (own_low HO2.out hl4) _ _ _ (by simp [Value.ownBlock]; omega)) _ _ _ _ _ _ (by simp [Value.ownBlock]; omega)
  · exact sets5_below (HB2.out.setCell (p := ⟨w.heap.size + 2, 4, none⟩) (by show w.heap.size ≤ w.heap.size + 2; omega) _) (by omega) _ _ _ _ _
theorem own_IsTs {w : World} {b1 b2 g g2 n m c1 c2 : Nat} {zs : List Int} {vs : List TPump} (h1 : w.ownsRow b1 3 1 (.slice (some ⟨g, 0, none⟩) n c1) n (zs.map (.int .i64))) (h2 : w.ownsRow b2 69 3 (.slice (some ⟨g2, 0, none⟩) m c2) m (flatPump vs)) : IsTs w w.heap.size (some ⟨g, 0, none⟩) n zs (some ⟨g2, 0, none⟩) m vs :=
  ⟨Nat.le_refl _, own_IsIs h1, own_Pumps h2⟩
set_option maxRecDepth 100000 in
set_option maxHeartbeats 2000000 in
theorem eqT_any {w : World} {B B' : Nat} {A A' D D' : Option Addr} {n m : Nat} {zs : List Int} {vs : List TPump} (a b c : Int) (q r q' r' : Nat) (h : IsTs w B A n zs D m vs) (h' : IsTs w B' A' n zs D' m vs) (hm : n ≤ maxLen) (hm2 : m ≤ maxLen) :
    Calls Try.prog 41 #[.agg #[.int .i64 a, .int .i64 b, .int .i64 c, .slice A n q, .slice D m r], .agg #[.int .i64 a, .int .i64 b, .int .i64 c, .slice A' n q', .slice D' m r']] w fun e w' => e = .returned (.bool true) ∧ Below w.heap.size w w' := by
  have CI := Lib.hid (fun (W : World) (hb : Below w.heap.size w W) => eqI_same A A' n q q' _ _ zs W h.ints.len hm (h.upB hb).ints.has (h'.upB hb).ints.has)
  have CP := Lib.hid (fun (W : World) (hb : Below w.heap.size w W) => eqPumpS_is r r' (h.upB hb).pumps (h'.upB hb).pumps hm2)
  have haa : (a != a) = false := by simp
  have hbb : (b != b) = false := by simp
  have hcc : (c != c) = false := by simp
  clear h h'
  go_enter Try.func41, Try.ntmps41
  go_wp2_with fail
  obtain ⟨Wa, hWa⟩ : ∃ W, w.alloc (.cells #[.int .i64 a, .int .i64 b, .int .i64 c, .slice A n q, .slice D m r] 27) = W := ⟨_, rfl⟩
  have sa : Wa.heap.size = w.heap.size + 1 := by rw [← hWa]; simp
  have ba : Below w.heap.size w Wa := by rw [← hWa]; exact below1 _ _
  have ya : BoxT Wa w.heap.size a b c A n q D m r := by rw [← hWa]; exact BoxT.new ..
  rw [hWa]
  obtain ⟨Wb, hWb⟩ : ∃ W, Wa.alloc (.cells #[.int .i64 a, .int .i64 b, .int .i64 c, .slice A' n q', .slice D' m r'] 27) = W := ⟨_, rfl⟩
  have bb : Below Wa.heap.size Wa Wb := by rw [← hWb]; exact below1 _ _
  have yb : BoxT Wb (w.heap.size + 1) a b c A' n q' D' m r' := by rw [← hWb, ← sa]; exact BoxT.new ..
  have ya2 := ya.all bb
  rw [hWb]
  have bw : Below w.heap.size w Wb := ba.trans (bb.mono ba.size)
  clear hWa hWb ba bb ya sa
  refine (CI.out Wb bw).mono ?_
  rintro e w1 ⟨rfl, hD⟩
  have hb1 := hD.below Wb.heap.size
  have yc := ya2.all hb1
  have yd := yb.all hb1
  have bw1 := bw.trans (hb1.mono bw.size)
  have x0 := yc.c4
  have x1 := yd.c4
  have HB := Lib.hid bw1
  clear CI hD hb1 ya2 yb bw yc yd bw1
  go_wp2_with fail
  refine (CP.out w1 HB.out).mono ?_
  rintro e w2 ⟨rfl, hb⟩
  have HB2 := Lib.hid (HB.out.trans (hb.mono HB.out.size))
  clear CP hb HB x0 x1
  go_wp2_with fail
  go_ret
  exact ⟨rfl, HB2.out⟩
theorem St.less {w W : World} {cs cs' : List (Nat × Nat × Value)} {rows : List RowOf} (h : St w cs rows W) (hs : ∀ p ∈ cs', p ∈ cs) : St w cs' rows W :=
  ⟨h.low, fun p hp => h.cell p (hs p hp), h.row⟩
set_option maxRecDepth 100000 in
set_option maxHeartbeats 1000000 in
theorem szT_is (a b c : Int) (A : Option Addr) (n q : Nat) (D : Option Addr) (m r : Nat) (hm : n ≤ maxLen) (hm2 : m ≤ maxLen) :
    ∃ v : Int, -1 ≤ v ∧ v ≤ 1048576 ∧ (0 ≤ v → (n : Int) + (m : Int) ≤ 1048576) ∧ ∀ W,
      Calls Try.prog 39 #[.agg #[.int .i64 a, .int .i64 b, .int .i64 c, .slice A n q, .slice D m r], .int .i64 1048576] W fun e w' => e = .returned (.int .i64 v) ∧ Below W.heap.size W w' := by
  by_cases hf1 : (n : Int) ≤ 1048576
  · have C1 := Lib.hid (fun W => szI_ok A n q 1048576 W hm (by omega) hf1)
    obtain ⟨v, h1, h2, h3, h4⟩ := szPumpS_is D m r (1048576 - n) hm2 (by omega) (by omega)
    have C2 := Lib.hid h4
    refine ⟨v, h1, by omega, fun h => by have := h3 h; omega, fun W => ?_⟩
    obtain ⟨Wa, hWa⟩ : ∃ W', W.alloc (.cells #[.int .i64 a, .int .i64 b, .int .i64 c, .slice A n q, .slice D m r] 48) = W' := ⟨_, rfl⟩
    have HB := Lib.hid (show Below W.heap.size W Wa by rw [← hWa]; exact below1 _ _)
    have x3 : Wa.cell? ⟨W.heap.size, 3, none⟩ = some (.slice A n q) := by rw [← hWa, sNew]; rfl
    have x4 : Wa.cell? ⟨W.heap.size, 4, none⟩ = some (.slice D m r) := by rw [← hWa, sNew]; rfl
    have hl0 : ¬ ((1048576 : Int) - n < 0) := by omega
    clear h4 hm hm2
    go_enter Try.func39, Try.ntmps39
    go_wp2_with fail
    (try rw [hWa])
    refine (C1.out _).mono ?_
    rintro e w1 ⟨rfl, rfl⟩
    clear C1
    go_wp2_with fail
    refine (C2.out _).mono ?_
    rintro e w1 ⟨rfl, rfl⟩
    clear C2
    by_cases hv : v < 0
    · obtain rfl : v = -1 := by omega
      go_wp2_with fail
      go_ret
      exact ⟨rfl, HB.out⟩
    · go_wp2_with fail
      go_ret
      exact ⟨rfl, HB.out⟩
  · have C1 := Lib.hid (fun W => szI_no A n q 1048576 W hm (by omega) (by omega) (by omega))
    refine ⟨-1, by omega, by omega, fun h => absurd h (by omega), fun W => ?_⟩
    have HB := Lib.hid (below1 W (.cells #[.int .i64 a, .int .i64 b, .int .i64 c, .slice A n q, .slice D m r] 48))
    clear hm hm2
    go_enter Try.func39, Try.ntmps39
    go_wp2_with fail
    refine (C1.out _).mono ?_
    rintro e w1 ⟨rfl, rfl⟩
    clear C1
    go_wp2_with fail
    go_ret
    exact ⟨rfl, HB.out⟩
set_option maxRecDepth 100000 in
set_option maxHeartbeats 2000000 in
theorem markT_row (a b c : Int) (g g2 n m q r base : Nat) (k : Int) (xs ys : List Value) (w : World) (hk0 : 0 < k) (hk1 : k + n + 3 * m ≤ 1000000000) (ho : w.ownsRow base 3 1 (.slice (some ⟨g, 0, none⟩) n q) n xs) (ho2 : w.ownsRow base 69 3 (.slice (some ⟨g2, 0, none⟩) m r) m ys) (hne : g2 ≠ g) :
    Calls Try.prog 44 #[.agg #[.int .i64 a, .int .i64 b, .int .i64 c, .slice (some ⟨g, 0, none⟩) n q, .slice (some ⟨g2, 0, none⟩) m r], .int .i64 k] w fun e w' => e = .returned (.int .i64 (k + n + 3 * m)) ∧
      ∃ M, w.grownBy M (some g) ∧ M.grownBy w' (some g2) ∧ M.ownsRow base 3 1 (.slice (some ⟨g, 0, none⟩) n q) n (nums k n) ∧ w'.ownsRow base 69 3 (.slice (some ⟨g2, 0, none⟩) m r) m (flatPump (mkPump (k + n) m)) := by
  obtain ⟨Wa, hWa⟩ : ∃ W, w.alloc (.cells #[.int .i64 a, .int .i64 b, .int .i64 c, .slice (some ⟨g, 0, none⟩) n q, .slice (some ⟨g2, 0, none⟩) m r] 27) = W := ⟨_, rfl⟩
  have ya : BoxT Wa w.heap.size a b c (some ⟨g, 0, none⟩) n q (some ⟨g2, 0, none⟩) m r := by rw [← hWa]; exact BoxT.new ..
  have hga : w.grownBy Wa (some g) := by rw [← hWa]; exact World.grownBy_alloc w _ _
  have hg1 := (ho.lt g rfl).2
  have ho' : Wa.ownsRow base 3 1 (.slice (some ⟨g, 0, none⟩) n q) n xs := by rw [← hWa]; exact ho.alloc _
  have ho2' : Wa.ownsRow base 69 3 (.slice (some ⟨g2, 0, none⟩) m r) m ys := by rw [← hWa]; exact ho2.alloc _
  have CI := Lib.hid (markI_any g n q base k xs Wa hk0 (by omega) ho')
  have CP := Lib.hid (fun W (h : W.ownsRow base 69 3 (.slice (some ⟨g2, 0, none⟩) m r) m ys) => markPumpS_any g2 m r base (k + n) ys W (by omega) (by omega) h)
  have x3 := ya.c3
  have HO2 := Lib.hid ho2'
  have HGA := Lib.hid hga
  have HYA := Lib.hid ya
  clear ho ho2 ho' ho2' hga ya
  go_enter Try.func44, Try.ntmps44
  go_wp2_with fail
  (try rw [hWa])
  clear hWa x3
  refine CI.out.mono ?_
  rintro e w1 ⟨rfl, hown, hg⟩
  have x4 := (HYA.out.kept hg (fun e => by injection e with e; omega)).c4
  have HO3 := Lib.hid (HO2.out.kept hg (.inr (by simp [Value.ownBlock]; omega)))
  have HM := Lib.hid hown
  have HG := Lib.hid (HGA.out.trans hg)
  clear hown hg CI HO2 HGA HYA
  go_wp2_with fail
  refine (CP.out _ HO3.out).mono ?_
  rintro e w2 ⟨rfl, hown, hg⟩
  have HM2 := Lib.hid hown
  have HG2 := Lib.hid hg
  clear hown hg CP HO3 x4
  go_wp2_with fail
  go_ret
  exact ⟨rfl, w1, HG.out, HG2.out, HM.out, HM2.out⟩
set_option maxRecDepth 100000 in
set_option maxHeartbeats 2000000 in
theorem heldT_row (a b c : Int) (g g2 n m q r base : Nat) (k : Int) (w : World) (hk0 : 0 < k) (hk1 : k + n + 3 * m ≤ 1000000000) (ho : w.ownsRow base 3 1 (.slice (some ⟨g, 0, none⟩) n q) n (nums k n)) (ho2 : w.ownsRow base 69 3 (.slice (some ⟨g2, 0, none⟩) m r) m (flatPump (mkPump (k + n) m))) :
    Calls Try.prog 47 #[.agg #[.int .i64 a, .int .i64 b, .int .i64 c, .slice (some ⟨g, 0, none⟩) n q, .slice (some ⟨g2, 0, none⟩) m r], .int .i64 k] w fun e w' => e = .returned (.int .i64 (k + n + 3 * m)) ∧ Below w.heap.size w w' := by
  obtain ⟨Wa, hWa⟩ : ∃ W, w.alloc (.cells #[.int .i64 a, .int .i64 b, .int .i64 c, .slice (some ⟨g, 0, none⟩) n q, .slice (some ⟨g2, 0, none⟩) m r] 27) = W := ⟨_, rfl⟩
  have ya : BoxT Wa w.heap.size a b c (some ⟨g, 0, none⟩) n q (some ⟨g2, 0, none⟩) m r := by rw [← hWa]; exact BoxT.new ..
  have hba : Below w.heap.size w Wa := by rw [← hWa]; exact below1 _ _
  have CI := Lib.hid (heldI_any (some ⟨g, 0, none⟩) n q w.heap.size k Wa hk0 (by omega) ((own_hasv ho).below hba))
  have CP := Lib.hid (fun W (hb : Below w.heap.size w W) => heldPumpS_any (some ⟨g2, 0, none⟩) m r w.heap.size (k + n) W (by omega) (by omega) hb.size ((own_hasv ho2).below hb))
  have x3 := ya.c3
  have x4 := ya.c4
  have HBA := Lib.hid hba
  have hn1 : ¬ (k + (n : Int) < 0) := by omega
  have hn2 : ¬ (k + (n : Int) + 3 * (m : Int) < 0) := by omega
  clear ho ho2 hba ya
  go_enter Try.func47, Try.ntmps47
  go_wp2_with fail
  (try rw [hWa])
  clear hWa
  refine CI.out.mono ?_
  rintro e w1 ⟨rfl, rfl⟩
  clear CI
  go_wp2_with fail
  refine (CP.out _ HBA.out).mono ?_
  rintro e w2 ⟨rfl, hb⟩
  have HB2 := Lib.hid (HBA.out.trans (hb.mono HBA.out.size))
  clear CP hb HBA x3 x4
  go_wp2_with fail
  go_ret
  exact ⟨rfl, HB2.out⟩
open Go.ChangeShapes Go.WideShapes Go.ChangeAt Go.Deep in
/-- A task that came in. -/
theorem open_task {H : Type} {enc : TypeId × Value → H} {P : Program} {w : World} {base : Nat} {held : Bool} {t e3 e4 : TypeId} {r : Reach} {b0 : Nat} {f0 f1 f2 f3 f4 g0 g1 g2 : Field} {v : Value} {D : DataW H} {p : List MemPlace}
    (hs : P.underlying t = some (.struct #[f0, f1, f2, f3, f4])) (hone : oneCellFields P #[f0, f1, f2, f3, f4] = true) (hC : P.cellsOf t = 5)
    (h0 : P.underlying f0.type = some (.int .i64)) (h1 : P.underlying f1.type = some (.int .i64)) (h2 : P.underlying f2.type = some (.int .i64))
    (h3 : P.underlying f3.type = some (.slice e3)) (k3 : P.underlying e3 = some (.int .i64)) (h4 : P.underlying f4.type = some (.slice e4)) (k4 : P.underlying e4 = some (.struct #[g0, g1, g2]))
    (hc3 : P.cellsOf e3 = 1) (hone4 : oneCellFields P #[g0, g1, g2] = true) (hC4 : P.cellsOf e4 = 3)
    (q0 : P.underlying g0.type = some (.int .i64)) (q1 : P.underlying g1.type = some (.int .i64)) (q2 : P.underlying g2.type = some (.int .i64))
    (hv : Value.okWide P w r b0 t v) (h : DataW.Trod enc P w base (fun _ => true) held t v D p) :
    ∃ (a b c : Int) (A : Option Addr) (n q : Nat) (zs : List Int) (B : Option Addr) (m d : Nat) (vs : List TPump), v = .agg #[.int .i64 a, .int .i64 b, .int .i64 c, .slice A n q, .slice B m d] ∧ IsInts .i64 w A n zs ∧ vs.length = m ∧ m ≤ maxLen ∧ Has w w.heap.size B (flatPump vs) := by
  obtain ⟨cs, rfl, hsz⟩ := okWide_struct hs hv
  rw [hC] at hsz
  obtain ⟨fuel, ht'⟩ := h
  obtain ⟨ys, n', _, _, _, hyl, hg⟩ := DataW.trod_struct hs ht'
  obtain ⟨o0, l0⟩ := hone_of hone 0 f0 rfl
  obtain ⟨o1, l1⟩ := hone_of hone 1 f1 rfl
  obtain ⟨o2, l2⟩ := hone_of hone 2 f2 rfl
  obtain ⟨o3, l3⟩ := hone_of hone 3 f3 rfl
  obtain ⟨o4, l4⟩ := hone_of hone 4 f4 rfl
  obtain ⟨L⟩ := cs
  match L, hsz, ys, hyl with
  | [c0, c1, c2, c3, c4], _, [y0, y1, y2, y3, y4], _ =>
    have j0 := hg 0 f0 rfl
    have j1 := hg 1 f1 rfl
    have j2 := hg 2 f2 rfl
    have j3 := hg 3 f3 rfl
    have j4 := hg 4 f4 rfl
    rw [o0, l0] at j0
    rw [o1, l1] at j1
    rw [o2, l2] at j2
    rw [o3, l3] at j3
    rw [o4, l4] at j4
    obtain ⟨x0, e0, -, -⟩ := DataW.trod_int h0 j0
    obtain ⟨x1, e1, -, -⟩ := DataW.trod_int h1 j1
    obtain ⟨x2, e2, -, -⟩ := DataW.trod_int h2 j2
    injection e0 with e0 _
    injection e1 with e1 _
    injection e2 with e2 _
    obtain ⟨A, n, q, zs, e5, hz⟩ : ∃ (A : Option Addr) (n q : Nat) (zs : List Int), c3 = .slice A n q ∧ IsInts .i64 w A n zs := by
      rcases open_ints h3 k3 hc3 j3 with ⟨hcs, _⟩ | ⟨x, l, c, zs, hcs, _, hl, hm, hz, _, hcell, hwz⟩
      · injection hcs with hcs _
        exact ⟨none, 0, 0, [], hcs, isInts_nil _ w⟩
      · injection hcs with hcs _
        exact ⟨_, _, _, _, hcs, isInts_some hl hm (by simpa using hz) hcell hwz⟩
    obtain ⟨B, m, d, vs, e6, i1, i2, i3⟩ := open_Pumps h4 k4 hone4 hC4 q0 q1 q2 j4
    injection e6 with e6 _
    exact ⟨x0, x1, x2, A, n, q, zs, B, m, d, vs, by rw [← e0, ← e1, ← e2, e5, e6], hz, i1, i2, i3⟩
end Go.Proofs.Ytdjoiodkmanacaa
