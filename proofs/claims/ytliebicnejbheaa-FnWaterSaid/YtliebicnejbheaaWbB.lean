/- Chapter 10: the flows that the laws draw. -/
import Derived.Test.YtliebicnejbheaaWbA
namespace Go.Proofs.Ytliebicnejbheaa
open Go.RowKit Go.PlainAid Go.Sort
set_option linter.unusedVariables false
set_option linter.unusedSimpArgs false

theorem BoxF.set1 {W : World} {g : Nat} {a b c : Int} (h : BoxF W g a b c) (b' : Int) : BoxF (W.setCell ⟨g, 1, none⟩ (.int .i64 b')) g a b' c := by
  unfold BoxF at *
  simp [World.setCell, Array.getElem?_modify, h]
theorem BoxF.set2 {W : World} {g : Nat} {a b c : Int} (h : BoxF W g a b c) (c' : Int) : BoxF (W.setCell ⟨g, 2, none⟩ (.int .i64 c')) g a b c' := by
  unfold BoxF at *
  simp [World.setCell, Array.getElem?_modify, h]
/-- What a draw of a flow hands back. -/
def GivesF (w : World) (g : Nat) (A : Option Addr) (n c : Nat) (p : Int) (e : Ending) (w' : World) : Prop :=
  ∃ f0 f1 f2, e = .returned (.agg #[.int .i64 f0, .int .i64 f1, .int .i64 f2]) ∧ CurStep w w' g A n c p 20
set_option maxRecDepth 100000 in
set_option maxHeartbeats 4000000 in
theorem flow_at {g : Nat} {A : Option Addr} {n c : Nat} {p : Int} {zs : List Int} {B : Nat} {w : World} (h : CurAt w g A n c p zs B) (hp : p ≤ 800000000) (m : Nat) (hm : m ≤ 100) :
    Calls Try.prog 81 #[.pointer (some ⟨g, 0, none⟩), .int .i64 (m : Int)] w (GivesF w g A n c p) := by
  have H := Lib.hid h
  have hgl := h.lt
  have hp0 := h.p0
  have S1 := Lib.hid ((CurStep.refl h.cur).alloc (.cells #[.int .i64 0, .int .i64 0, .int .i64 0] 38))
  have BR1 := Lib.hid (BoxF.new w 0 0 0)
  have hrg : w.heap.size ≠ g := by omega
  clear h
  go_enter Try.func81, Try.ntmps81
  go_wp2_with fail
  obtain ⟨W1, hW1⟩ : ∃ x, w.alloc (.cells #[.int .i64 0, .int .i64 0, .int .i64 0] 38) = x := ⟨_, rfl⟩
  have hs1 : W1.heap.size = w.heap.size + 1 := by rw [← hW1]; simp
  rw [hW1] at S1 BR1 ⊢
  clear hW1
  obtain ⟨xr, hxr0⟩ : ∃ x, w.heap.size = x := ⟨_, rfl⟩
  have hxr : w.heap.size ≤ xr := by omega
  rw [hxr0] at BR1 hrg
  try simp only [hxr0]
  have HXR := Lib.hid hxr0
  clear hxr0
  obtain ⟨r5, r50, r51, H5⟩ := S1.out.at H.out
  refine (pick_at H5 (by omega) _ (by omega)).mono ?_
  rintro e w2 ⟨b1, b10, b11, rfl, hs⟩
  have S2 := Lib.hid (S1.out.then hs r50 r51)
  have BR2 := Lib.hid (BR1.out.kept hs.grown (fun e => hrg (by injection e)))
  have hb1 : b1 ≤ 200 := by omega
  clear hs S1 BR1 H5 r50 r51 b11
  obtain ⟨r5, r50, r51, H5⟩ := S2.out.at H.out
  go_wp2_with fail
  refine (among_new H5 (by omega) [1, 2, 5, 10, 20] 5 rfl (by omega) (by omega) w2.heap.size rfl).mono ?_
  rintro e w3 ⟨v, hv, rfl, hs⟩
  have S3 := Lib.hid (S2.out.then hs r50 r51)
  have BR3 := Lib.hid (BR2.out.kept hs.grown (fun e => hrg (by injection e)))
  clear hs S2 BR2 H5 r50 r51 hv
  obtain ⟨d1, hd1⟩ : ∃ z, b1 - 1 = z := ⟨_, rfl⟩
  have hd : -1 ≤ d1 ∧ d1 ≤ 199 := by omega
  go_wp2_with fail
  try rw [hd1]
  have HBF := Lib.hid (BoxF.new w3 d1 0 v)
  have SA := S3.out.alloc (.cells #[.int .i64 d1, .int .i64 0, .int .i64 v] 38)
  have BRA := BR3.out.kept (World.grownBy_alloc w3 (.cells #[.int .i64 d1, .int .i64 0, .int .i64 v] 38) none) (by simp)
  have hrl := BR3.out.lt
  have hgl3 : g < w3.heap.size := Nat.lt_of_lt_of_le hgl S3.out.grown.size
  have hsw := S3.out.grown.size
  obtain ⟨wi, hwi⟩ : ∃ W, w3.alloc (.cells #[.int .i64 d1, .int .i64 0, .int .i64 v] 38) = W := ⟨_, rfl⟩
  obtain ⟨xf, hxf0⟩ : ∃ x, w3.heap.size = x := ⟨_, rfl⟩
  rw [hwi] at HBF SA BRA ⊢
  rw [hxf0] at HBF hrl hgl3 hsw
  try simp only [hxf0]
  clear hwi hxf0 S3 BR3
  have hxf : w.heap.size ≤ xf := hsw
  have hfg : xf ≠ g := by omega
  have hrf : xr ≠ xf := by omega
  have S4 := Lib.hid SA
  have BF4 := HBF
  have BR4 := Lib.hid BRA
  clear SA HBF BRA hd1 b10 hb1
  obtain ⟨r5, r50, r51, H5⟩ := S4.out.at H.out
  refine (pick_at H5 (by omega) _ (by omega)).mono ?_
  rintro e w5 ⟨b2, b20, b21, rfl, hs⟩
  have S5 := Lib.hid (S4.out.then hs r50 r51)
  have BF5 := Lib.hid (BF4.out.kept hs.grown (fun e => hfg (by injection e)))
  have BR5 := Lib.hid (BR4.out.kept hs.grown (fun e => hrg (by injection e)))
  clear hs S4 BF4 BR4 H5 r50 r51
  have hb2 : b2 ≤ 200 := by omega
  clear b21
  obtain ⟨d2, rfl⟩ : ∃ z, b2 = z + 1 := ⟨b2 - 1, by omega⟩
  have hdd : -1 ≤ d2 ∧ d2 ≤ 199 := by omega
  clear hb2
  by_cases heq : d2 = d1
  · have hbb : (d2 == d1) = true := by simp [heq]
    clear heq
    have x0 := BF5.out.c0
    have x1 := BF5.out.c1
    have x2 := BF5.out.c2
    have zf := BF5.out.fz 1
    go_wp2_with fail
    have S6 := Lib.hid (S5.out.own (grown_set w5 xf 1 (.int .i64 (d2))) hxf hfg)
    have BF6 := Lib.hid (BF5.out.set1 (d2))
    have BR6 := Lib.hid (BR5.out.kept (grown_set w5 xf 1 (.int .i64 (d2))) (fun e => hrf (by injection e)))
    clear x0 x1 x2 zf S5 BF5 BR5
    obtain ⟨r5, r50, r51, H5⟩ := S6.out.at H.out
    refine (pick_at H5 (by omega) _ (by omega)).mono ?_
    rintro e w7 ⟨b3, b30, b31, rfl, hs⟩
    have S7 := Lib.hid (S6.out.then hs r50 r51)
    have BF7 := Lib.hid (BF6.out.kept hs.grown (fun e => hfg (by injection e)))
    have BR7 := Lib.hid (BR6.out.kept hs.grown (fun e => hrg (by injection e)))
    clear hs S6 BF6 BR6 H5 r50 r51
    obtain ⟨d3, rfl⟩ : ∃ z, b3 = z + 1 := ⟨b3 - 1, by omega⟩
    have hd3 : -1 ≤ d3 ∧ d3 ≤ 199 := by omega
    clear b31
    have x0 := BF7.out.c0
    have x1 := BF7.out.c1
    have x2 := BF7.out.c2
    have zf := BF7.out.fz 1
    go_wp2_with fail
    have S8 := Lib.hid (S7.out.own (grown_set w7 xf 1 (.int .i64 (d3))) hxf hfg)
    have BF8 := Lib.hid (BF7.out.set1 (d3))
    have BR8 := Lib.hid (BR7.out.kept (grown_set w7 xf 1 (.int .i64 (d3))) (fun e => hrf (by injection e)))
    clear x0 x1 x2 zf S7 BF7 BR7
    obtain ⟨r5, r50, r51, H5⟩ := S8.out.at H.out
    refine (pick_at H5 (by omega) 32 (by omega)).mono ?_
    rintro e w20 ⟨b, b80, b81, rfl, hs⟩
    have S20 := Lib.hid (S8.out.then hs r50 r51)
    have BF20 := Lib.hid (BF8.out.kept hs.grown (fun e => hfg (by injection e)))
    have BR20 := Lib.hid (BR8.out.kept hs.grown (fun e => hrg (by injection e)))
    clear hs S8 BF8 BR8 H5 r50 r51
    clear b80 b81
    by_cases n0 : b = 0
    · subst n0
      obtain ⟨r5, r50, r51, H5⟩ := S20.out.at H.out
      go_wp2_with fail
      refine (among_new H5 (by omega) [0, 100000, 100001] 3 rfl (by omega) (by omega) w20.heap.size rfl).mono ?_
      rintro e w21 ⟨z, -, rfl, hs⟩
      have S21 := Lib.hid (S20.out.then hs r50 r51)
      have BF21 := Lib.hid (BF20.out.kept hs.grown (fun e => hfg (by injection e)))
      have BR21 := Lib.hid (BR20.out.kept hs.grown (fun e => hrg (by injection e)))
      clear hs S20 BF20 BR20 H5 r50 r51
      have x0 := BF21.out.c0
      have x1 := BF21.out.c1
      have x2 := BF21.out.c2
      have zf := BF21.out.fz 2
      have SX := Lib.hid (S21.out.own (grown_set w21 xf 2 (.int .i64 z)) hxf hfg)
      have BFX := Lib.hid (BF21.out.set2 z)
      have BRX := Lib.hid (BR21.out.kept (grown_set w21 xf 2 (.int .i64 z)) (fun e => hrf (by injection e)))
      have y0 := BR21.out.c0
      have y1 := BR21.out.c1
      have y2 := BR21.out.c2
      have zz0 := BR21.out.fz 0
      have zz1 := BR21.out.fz 1
      have zz2 := BR21.out.fz 2
      go_wp2_with fail
      refine bodyPost_ret (results_row0 rfl _ _ xr [_, _, _] _ rfl (BoxF.rangeAt (BRX.out.sets d1 d3 z)) Try.underlying38 rfl (by kernel_rfl)) rfl ?_
      exact ⟨_, _, _, rfl, (((SX.out.own (grown_set _ xr 0 _) hxr hrg).own (grown_set _ xr 1 _) hxr hrg).own (grown_set _ xr 2 _) hxr hrg).mono (by omega)⟩
    · by_cases n1 : b = 1
      · subst n1
        obtain ⟨r5, r50, r51, H5⟩ := S20.out.at H.out
        go_wp2_with fail
        refine (among_new H5 (by omega) [-2, (m : Int), 0] 3 rfl (by omega) (by omega) w20.heap.size rfl).mono ?_
        rintro e w21 ⟨z, -, rfl, hs⟩
        have S21 := Lib.hid (S20.out.then hs r50 r51)
        have BF21 := Lib.hid (BF20.out.kept hs.grown (fun e => hfg (by injection e)))
        have BR21 := Lib.hid (BR20.out.kept hs.grown (fun e => hrg (by injection e)))
        clear hs S20 BF20 BR20 H5 r50 r51
        have x0 := BF21.out.c0
        have x1 := BF21.out.c1
        have x2 := BF21.out.c2
        have zf := BF21.out.fz 1
        have SX := Lib.hid (S21.out.own (grown_set w21 xf 1 (.int .i64 z)) hxf hfg)
        have BFX := Lib.hid (BF21.out.set1 z)
        have BRX := Lib.hid (BR21.out.kept (grown_set w21 xf 1 (.int .i64 z)) (fun e => hrf (by injection e)))
        have y0 := BR21.out.c0
        have y1 := BR21.out.c1
        have y2 := BR21.out.c2
        have zz0 := BR21.out.fz 0
        have zz1 := BR21.out.fz 1
        have zz2 := BR21.out.fz 2
        go_wp2_with fail
        refine bodyPost_ret (results_row0 rfl _ _ xr [_, _, _] _ rfl (BoxF.rangeAt (BRX.out.sets d1 z v)) Try.underlying38 rfl (by kernel_rfl)) rfl ?_
        exact ⟨_, _, _, rfl, (((SX.out.own (grown_set _ xr 0 _) hxr hrg).own (grown_set _ xr 1 _) hxr hrg).own (grown_set _ xr 2 _) hxr hrg).mono (by omega)⟩
      · have m0 : (b == 0) = false := by simp [n0]
        have m1 : (b == 1) = false := by simp [n1]
        clear n0 n1
        have y0 := BF20.out.c0
        have y1 := BF20.out.c1
        have y2 := BF20.out.c2
        have x0 := BR20.out.c0
        have x1 := BR20.out.c1
        have x2 := BR20.out.c2
        have zz0 := BR20.out.fz 0
        have zz1 := BR20.out.fz 1
        have zz2 := BR20.out.fz 2
        go_wp2_with fail
        refine bodyPost_ret (results_row0 rfl _ _ xr [_, _, _] _ rfl (BoxF.rangeAt (BR20.out.sets d1 d3 v)) Try.underlying38 rfl (by kernel_rfl)) rfl ?_
        exact ⟨_, _, _, rfl, (((S20.out.own (grown_set _ xr 0 _) hxr hrg).own (grown_set _ xr 1 _) hxr hrg).own (grown_set _ xr 2 _) hxr hrg).mono (by omega)⟩
  · have hbb : (d2 == d1) = false := by simp [heq]
    clear heq
    have x0 := BF5.out.c0
    have x1 := BF5.out.c1
    have x2 := BF5.out.c2
    have zf := BF5.out.fz 1
    go_wp2_with fail
    have S8 := Lib.hid (S5.out.own (grown_set w5 xf 1 (.int .i64 (d2))) hxf hfg)
    have BF8 := Lib.hid (BF5.out.set1 (d2))
    have BR8 := Lib.hid (BR5.out.kept (grown_set w5 xf 1 (.int .i64 (d2))) (fun e => hrf (by injection e)))
    clear x0 x1 x2 zf S5 BF5 BR5
    obtain ⟨r5, r50, r51, H5⟩ := S8.out.at H.out
    refine (pick_at H5 (by omega) 32 (by omega)).mono ?_
    rintro e w20 ⟨b, b80, b81, rfl, hs⟩
    have S20 := Lib.hid (S8.out.then hs r50 r51)
    have BF20 := Lib.hid (BF8.out.kept hs.grown (fun e => hfg (by injection e)))
    have BR20 := Lib.hid (BR8.out.kept hs.grown (fun e => hrg (by injection e)))
    clear hs S8 BF8 BR8 H5 r50 r51
    clear b80 b81
    by_cases n0 : b = 0
    · subst n0
      obtain ⟨r5, r50, r51, H5⟩ := S20.out.at H.out
      go_wp2_with fail
      refine (among_new H5 (by omega) [0, 100000, 100001] 3 rfl (by omega) (by omega) w20.heap.size rfl).mono ?_
      rintro e w21 ⟨z, -, rfl, hs⟩
      have S21 := Lib.hid (S20.out.then hs r50 r51)
      have BF21 := Lib.hid (BF20.out.kept hs.grown (fun e => hfg (by injection e)))
      have BR21 := Lib.hid (BR20.out.kept hs.grown (fun e => hrg (by injection e)))
      clear hs S20 BF20 BR20 H5 r50 r51
      have x0 := BF21.out.c0
      have x1 := BF21.out.c1
      have x2 := BF21.out.c2
      have zf := BF21.out.fz 2
      have SX := Lib.hid (S21.out.own (grown_set w21 xf 2 (.int .i64 z)) hxf hfg)
      have BFX := Lib.hid (BF21.out.set2 z)
      have BRX := Lib.hid (BR21.out.kept (grown_set w21 xf 2 (.int .i64 z)) (fun e => hrf (by injection e)))
      have y0 := BR21.out.c0
      have y1 := BR21.out.c1
      have y2 := BR21.out.c2
      have zz0 := BR21.out.fz 0
      have zz1 := BR21.out.fz 1
      have zz2 := BR21.out.fz 2
      go_wp2_with fail
      refine bodyPost_ret (results_row0 rfl _ _ xr [_, _, _] _ rfl (BoxF.rangeAt (BRX.out.sets d1 d2 z)) Try.underlying38 rfl (by kernel_rfl)) rfl ?_
      exact ⟨_, _, _, rfl, (((SX.out.own (grown_set _ xr 0 _) hxr hrg).own (grown_set _ xr 1 _) hxr hrg).own (grown_set _ xr 2 _) hxr hrg).mono (by omega)⟩
    · by_cases n1 : b = 1
      · subst n1
        obtain ⟨r5, r50, r51, H5⟩ := S20.out.at H.out
        go_wp2_with fail
        refine (among_new H5 (by omega) [-2, (m : Int), 0] 3 rfl (by omega) (by omega) w20.heap.size rfl).mono ?_
        rintro e w21 ⟨z, -, rfl, hs⟩
        have S21 := Lib.hid (S20.out.then hs r50 r51)
        have BF21 := Lib.hid (BF20.out.kept hs.grown (fun e => hfg (by injection e)))
        have BR21 := Lib.hid (BR20.out.kept hs.grown (fun e => hrg (by injection e)))
        clear hs S20 BF20 BR20 H5 r50 r51
        have x0 := BF21.out.c0
        have x1 := BF21.out.c1
        have x2 := BF21.out.c2
        have zf := BF21.out.fz 1
        have SX := Lib.hid (S21.out.own (grown_set w21 xf 1 (.int .i64 z)) hxf hfg)
        have BFX := Lib.hid (BF21.out.set1 z)
        have BRX := Lib.hid (BR21.out.kept (grown_set w21 xf 1 (.int .i64 z)) (fun e => hrf (by injection e)))
        have y0 := BR21.out.c0
        have y1 := BR21.out.c1
        have y2 := BR21.out.c2
        have zz0 := BR21.out.fz 0
        have zz1 := BR21.out.fz 1
        have zz2 := BR21.out.fz 2
        go_wp2_with fail
        refine bodyPost_ret (results_row0 rfl _ _ xr [_, _, _] _ rfl (BoxF.rangeAt (BRX.out.sets d1 z v)) Try.underlying38 rfl (by kernel_rfl)) rfl ?_
        exact ⟨_, _, _, rfl, (((SX.out.own (grown_set _ xr 0 _) hxr hrg).own (grown_set _ xr 1 _) hxr hrg).own (grown_set _ xr 2 _) hxr hrg).mono (by omega)⟩
      · have m0 : (b == 0) = false := by simp [n0]
        have m1 : (b == 1) = false := by simp [n1]
        clear n0 n1
        have y0 := BF20.out.c0
        have y1 := BF20.out.c1
        have y2 := BF20.out.c2
        have x0 := BR20.out.c0
        have x1 := BR20.out.c1
        have x2 := BR20.out.c2
        have zz0 := BR20.out.fz 0
        have zz1 := BR20.out.fz 1
        have zz2 := BR20.out.fz 2
        go_wp2_with fail
        refine bodyPost_ret (results_row0 rfl _ _ xr [_, _, _] _ rfl (BoxF.rangeAt (BR20.out.sets d1 d2 v)) Try.underlying38 rfl (by kernel_rfl)) rfl ?_
        exact ⟨_, _, _, rfl, (((S20.out.own (grown_set _ xr 0 _) hxr hrg).own (grown_set _ xr 1 _) hxr hrg).own (grown_set _ xr 2 _) hxr hrg).mono (by omega)⟩
end Go.Proofs.Ytliebicnejbheaa
