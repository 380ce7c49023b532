/- Chapter 11: the Pools that the laws draw. -/
import Derived.Test.YtgnopkemcgbedaaPoE
import Derived.Test.YtgnopkemcgbedaaCurX
namespace Go.Proofs.Ytgnopkemcgbedaa
open Go.RowKit Go.PlainAid Go.Sort
set_option linter.unusedVariables false
set_option linter.unusedSimpArgs false

theorem results_row0 {P : Program} {fn : Func} {p : Tmp} {ty : TypeId} (h : fn.results = #[.cell p ty]) (tmps : Array Value) (w : World) (g : Nat) (cs : List Value) (d : TypeDesc)
    (hp : tmps.getD p undef = .pointer (some ⟨g, 0, none⟩)) (hc : w.rangeAt g 0 cs) (hu : P.underlying ty = some d) (hd : d.isRow = true) (hi : (P.info? ty).map (·.size) = some cs.length) :
    (results fn tmps).run P w = .ok (.agg cs.toArray) w := by
  have hp' : tmps[p]?.getD undef = .pointer (some ⟨g, 0, none⟩) := by simpa using hp
  simp [results, h, hp', asAddr, run_loadVar_mid w g 0 ty cs d hc hu hd hi]

theorem cell_three_new (w : World) (a b c : Value) (t : TypeId) : ∀ j u, [a, b, c][j]? = some u → (w.alloc (.cells #[a, b, c] t)).cell? ((⟨w.heap.size, 0, none⟩ : Addr).add j) = some u := by
  intro j u hu
  rw [addO, Nat.zero_add, sNew]
  match j, hu with
  | 0, hu => exact hu
  | 1, hu => exact hu
  | 2, hu => exact hu
theorem BoxP.set0 {W : World} {g : Nat} {a b c : Int} (h : BoxP W g a b c) (a' : Int) : BoxP (W.setCell ⟨g, 0, none⟩ (.int .i64 a')) g a' b c := by
  unfold BoxP at *
  simp [World.setCell, Array.getElem?_modify, h]
theorem BoxP.set1 {W : World} {g : Nat} {a b c : Int} (h : BoxP W g a b c) (b' : Int) : BoxP (W.setCell ⟨g, 1, none⟩ (.int .i64 b')) g a b' c := by
  unfold BoxP at *
  simp [World.setCell, Array.getElem?_modify, h]
theorem BoxP.set2 {W : World} {g : Nat} {a b c : Int} (h : BoxP W g a b c) (c' : Int) : BoxP (W.setCell ⟨g, 2, none⟩ (.int .i64 c')) g a b c' := by
  unfold BoxP at *
  simp [World.setCell, Array.getElem?_modify, h]
theorem grown_setP (w : World) (g i : Nat) (u : Value) : w.grownBy (w.setCell ⟨g, i, none⟩ u) (some g) :=
  ⟨rfl, rfl, rfl, by simp [World.setCell], fun k _ hk => Below.heap_setCell _ _ _ _ (fun e => hk (by rw [e]))⟩
/-- What a draw of a Pool hands back. -/
def GivesPl (w : World) (g : Nat) (A : Option Addr) (n c : Nat) (p : Int) (e : Ending) (w' : World) : Prop :=
  ∃ f0 f1 f2, e = .returned (.agg #[.int .i64 f0, .int .i64 f1, .int .i64 f2]) ∧ CurStep w w' g A n c p 20
set_option maxRecDepth 100000 in
set_option maxHeartbeats 4000000 in
theorem pool_at {g : Nat} {A : Option Addr} {n c : Nat} {p : Int} {zs : List Int} {B : Nat} {w : World} (h : CurAt w g A n c p zs B) (hp : p ≤ 850000000) :
    Calls Try.prog 63 #[.pointer (some ⟨g, 0, none⟩)] w (GivesPl w g A n c p) := by
  have H := Lib.hid h
  have hgl := h.lt
  have hp0 := h.p0
  have S1 := Lib.hid ((CurStep.refl h.cur).alloc (.cells #[.int .i64 0, .int .i64 0, .int .i64 0] 35))
  have BR1 := Lib.hid (BoxP.new w 0 0 0)
  have hrg : w.heap.size ≠ g := by omega
  clear h
  go_enter Try.func63, Try.ntmps63
  go_wp2_with fail
  obtain ⟨W1, hW1⟩ : ∃ x, w.alloc (.cells #[.int .i64 0, .int .i64 0, .int .i64 0] 35) = x := ⟨_, rfl⟩
  have hs1 : W1.heap.size = w.heap.size + 1 := by rw [← hW1]; simp
  rw [hW1] at S1 BR1 ⊢
  clear hW1
  obtain ⟨xr, hxr0⟩ : ∃ x, w.heap.size = x := ⟨_, rfl⟩
  have hxr : w.heap.size ≤ xr := by omega
  rw [hxr0] at BR1 hrg hs1
  try simp only [hxr0]
  have HXR := Lib.hid hxr0
  clear hxr0
  obtain ⟨r5, r50, r51, H5⟩ := S1.out.at H.out
  refine (among_new H5 (by omega) [1, 2, 3, 10, 100] 5 rfl (by omega) (by omega) (xr + 1) hs1).mono ?_
  rintro e w2 ⟨a1, -, rfl, hs⟩
  have S2 := Lib.hid (S1.out.then hs r50 r51)
  have BR2 := Lib.hid (BR1.out.kept hs.grown (fun e => hrg (by injection e)))
  clear hs S1 BR1 H5 r50 r51 hs1
  obtain ⟨r5, r50, r51, H5⟩ := S2.out.at H.out
  go_wp2_with fail
  refine (among_new H5 (by omega) [0, 0, 5, 20, 100, 2000] 6 rfl (by omega) (by omega) w2.heap.size rfl).mono ?_
  rintro e w3 ⟨a2, -, rfl, hs⟩
  have S3 := Lib.hid (S2.out.then hs r50 r51)
  have BR3 := Lib.hid (BR2.out.kept hs.grown (fun e => hrg (by injection e)))
  clear hs S2 BR2 H5 r50 r51
  obtain ⟨r5, r50, r51, H5⟩ := S3.out.at H.out
  go_wp2_with fail
  refine (among_new H5 (by omega) [0, 0, 1, 7, 100, 5000, 100000] 7 rfl (by omega) (by omega) w3.heap.size rfl).mono ?_
  rintro e w4 ⟨a3, -, rfl, hs⟩
  have S4 := Lib.hid (S3.out.then hs r50 r51)
  have BR4 := Lib.hid (BR3.out.kept hs.grown (fun e => hrg (by injection e)))
  clear hs S3 BR3 H5 r50 r51
  go_wp2_with fail
  have HBF := Lib.hid (BoxP.new w4 a1 a2 a3)
  have SA := S4.out.alloc (.cells #[.int .i64 a1, .int .i64 a2, .int .i64 a3] 35)
  have BRA := BR4.out.kept (World.grownBy_alloc w4 (.cells #[.int .i64 a1, .int .i64 a2, .int .i64 a3] 35) none) (by simp)
  have hrl := BR4.out.lt
  have hgl3 : g < w4.heap.size := Nat.lt_of_lt_of_le hgl S4.out.grown.size
  have hsw := S4.out.grown.size
  obtain ⟨wi, hwi⟩ : ∃ W, w4.alloc (.cells #[.int .i64 a1, .int .i64 a2, .int .i64 a3] 35) = W := ⟨_, rfl⟩
  obtain ⟨xf, hxf0⟩ : ∃ x, w4.heap.size = x := ⟨_, rfl⟩
  rw [hwi] at HBF SA BRA ⊢
  rw [hxf0] at HBF hrl hgl3 hsw
  try simp only [hxf0]
  clear hwi hxf0 S4 BR4
  have hxf : w.heap.size ≤ xf := hsw
  have hfg : xf ≠ g := by omega
  have hrf : xr ≠ xf := by omega
  have S5 := Lib.hid SA
  have BF5 := HBF
  have BR5 := Lib.hid BRA
  clear SA HBF BRA
  obtain ⟨r5, r50, r51, H5⟩ := S5.out.at H.out
  refine (pick_at H5 (by omega) 80 (by omega)).mono ?_
  rintro e w20 ⟨b, b80, b81, rfl, hs⟩
  have S20 := Lib.hid (S5.out.then hs r50 r51)
  have BF20 := Lib.hid (BF5.out.kept hs.grown (fun e => hfg (by injection e)))
  have BR20 := Lib.hid (BR5.out.kept hs.grown (fun e => hrg (by injection e)))
  clear hs S5 BF5 BR5 H5 r50 r51
  clear b80 b81
  by_cases n0 : b = 0
  · skip
    subst n0
    obtain ⟨r5, r50, r51, H5⟩ := S20.out.at H.out
    go_wp2_with fail
    refine (among_new H5 (by omega) [0, 101] 2 rfl (by omega) (by omega) w20.heap.size rfl).mono ?_
    rintro e w21 ⟨z, -, rfl, hs⟩
    have S21 := Lib.hid (S20.out.then hs r50 r51)
    have BF21 := Lib.hid (BF20.out.kept hs.grown (fun e => hfg (by injection e)))
    have BR21 := Lib.hid (BR20.out.kept hs.grown (fun e => hrg (by injection e)))
    clear hs S20 BF20 BR20 H5 r50 r51
    have x0 := BF21.out.c0
    have x1 := BF21.out.c1
    have x2 := BF21.out.c2
    have zf := BF21.out.fz 0
    have SX := Lib.hid (S21.out.own (grown_setP w21 xf 0 (.int .i64 z)) hxf hfg)
    have BFX := Lib.hid (BF21.out.set0 z)
    have BRX := Lib.hid (BR21.out.kept (grown_setP w21 xf 0 (.int .i64 z)) (fun e => hrf (by injection e)))
    have y0 := BR21.out.c0
    have y1 := BR21.out.c1
    have y2 := BR21.out.c2
    have zz0 := BR21.out.fz 0
    have zz1 := BR21.out.fz 1
    have zz2 := BR21.out.fz 2
    go_wp2_with fail
    refine bodyPost_ret (results_row0 rfl _ _ xr [_, _, _] _ rfl (BoxP.rangeAt (BRX.out.sets z a2 a3)) Try.underlying35 rfl (by kernel_rfl)) rfl ?_
    exact ⟨_, _, _, rfl, (((SX.out.own (grown_setP _ xr 0 _) hxr hrg).own (grown_setP _ xr 1 _) hxr hrg).own (grown_setP _ xr 2 _) hxr hrg).mono (by omega)⟩
  · by_cases n1 : b = 1
    · skip
      subst n1
      obtain ⟨r5, r50, r51, H5⟩ := S20.out.at H.out
      go_wp2_with fail
      refine (among_new H5 (by omega) [-1, 2001] 2 rfl (by omega) (by omega) w20.heap.size rfl).mono ?_
      rintro e w21 ⟨z, -, rfl, hs⟩
      have S21 := Lib.hid (S20.out.then hs r50 r51)
      have BF21 := Lib.hid (BF20.out.kept hs.grown (fun e => hfg (by injection e)))
      have BR21 := Lib.hid (BR20.out.kept hs.grown (fun e => hrg (by injection e)))
      clear hs S20 BF20 BR20 H5 r50 r51
      have x0 := BF21.out.c0
      have x1 := BF21.out.c1
      have x2 := BF21.out.c2
      have zf := BF21.out.fz 1
      have SX := Lib.hid (S21.out.own (grown_setP w21 xf 1 (.int .i64 z)) hxf hfg)
      have BFX := Lib.hid (BF21.out.set1 z)
      have BRX := Lib.hid (BR21.out.kept (grown_setP w21 xf 1 (.int .i64 z)) (fun e => hrf (by injection e)))
      have y0 := BR21.out.c0
      have y1 := BR21.out.c1
      have y2 := BR21.out.c2
      have zz0 := BR21.out.fz 0
      have zz1 := BR21.out.fz 1
      have zz2 := BR21.out.fz 2
      go_wp2_with fail
      refine bodyPost_ret (results_row0 rfl _ _ xr [_, _, _] _ rfl (BoxP.rangeAt (BRX.out.sets a1 z a3)) Try.underlying35 rfl (by kernel_rfl)) rfl ?_
      exact ⟨_, _, _, rfl, (((SX.out.own (grown_setP _ xr 0 _) hxr hrg).own (grown_setP _ xr 1 _) hxr hrg).own (grown_setP _ xr 2 _) hxr hrg).mono (by omega)⟩
    · by_cases n2 : b = 2
      · skip
        subst n2
        obtain ⟨r5, r50, r51, H5⟩ := S20.out.at H.out
        go_wp2_with fail
        refine (among_new H5 (by omega) [-1, 100001] 2 rfl (by omega) (by omega) w20.heap.size rfl).mono ?_
        rintro e w21 ⟨z, -, rfl, hs⟩
        have S21 := Lib.hid (S20.out.then hs r50 r51)
        have BF21 := Lib.hid (BF20.out.kept hs.grown (fun e => hfg (by injection e)))
        have BR21 := Lib.hid (BR20.out.kept hs.grown (fun e => hrg (by injection e)))
        clear hs S20 BF20 BR20 H5 r50 r51
        have x0 := BF21.out.c0
        have x1 := BF21.out.c1
        have x2 := BF21.out.c2
        have zf := BF21.out.fz 2
        have SX := Lib.hid (S21.out.own (grown_setP w21 xf 2 (.int .i64 z)) hxf hfg)
        have BFX := Lib.hid (BF21.out.set2 z)
        have BRX := Lib.hid (BR21.out.kept (grown_setP w21 xf 2 (.int .i64 z)) (fun e => hrf (by injection e)))
        have y0 := BR21.out.c0
        have y1 := BR21.out.c1
        have y2 := BR21.out.c2
        have zz0 := BR21.out.fz 0
        have zz1 := BR21.out.fz 1
        have zz2 := BR21.out.fz 2
        go_wp2_with fail
        refine bodyPost_ret (results_row0 rfl _ _ xr [_, _, _] _ rfl (BoxP.rangeAt (BRX.out.sets a1 a2 z)) Try.underlying35 rfl (by kernel_rfl)) rfl ?_
        exact ⟨_, _, _, rfl, (((SX.out.own (grown_setP _ xr 0 _) hxr hrg).own (grown_setP _ xr 1 _) hxr hrg).own (grown_setP _ xr 2 _) hxr hrg).mono (by omega)⟩
      · have m0 : (b == 0) = false := by simp [n0]
        have m1 : (b == 1) = false := by simp [n1]
        have m2 : (b == 2) = false := by simp [n2]
        clear n0 n1 n2
        have x0 := BF20.out.c0
        have x1 := BF20.out.c1
        have x2 := BF20.out.c2
        have y0 := BR20.out.c0
        have y1 := BR20.out.c1
        have y2 := BR20.out.c2
        have zz0 := BR20.out.fz 0
        have zz1 := BR20.out.fz 1
        have zz2 := BR20.out.fz 2
        go_wp2_with fail
        refine bodyPost_ret (results_row0 rfl _ _ xr [_, _, _] _ rfl (BoxP.rangeAt (BR20.out.sets a1 a2 a3)) Try.underlying35 rfl (by kernel_rfl)) rfl ?_
        exact ⟨_, _, _, rfl, (((S20.out.own (grown_setP _ xr 0 _) hxr hrg).own (grown_setP _ xr 1 _) hxr hrg).own (grown_setP _ xr 2 _) hxr hrg).mono (by omega)⟩
end Go.Proofs.Ytgnopkemcgbedaa
