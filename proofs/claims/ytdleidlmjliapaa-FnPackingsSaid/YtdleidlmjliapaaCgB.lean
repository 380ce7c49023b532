/- Chapter 4: the chamber that the laws draw. -/
import Derived.Test.YtdleidlmjliapaaCgA
namespace Go.Proofs.Ytdleidlmjliapaa
open Go.RowKit Go.PlainAid Go.Sort
set_option linter.unusedVariables false
set_option linter.unusedSimpArgs false

/-- A chamber in a block. -/
def BoxM (W : World) (g : Nat) (x y : Int) : Prop := W.heap[g]? = some (.cells #[.int .i64 x, .int .i64 y] 25 (0, 0))
section
variable {W : World} {g : Nat} {x y : Int}
theorem BoxM.c0 (h : BoxM W g x y) : W.cell? ⟨g, 0, none⟩ = some (.int .i64 x) := cell_of_row W g 0 _ _ _ h
theorem BoxM.c1 (h : BoxM W g x y) : W.cell? ⟨g, 1, none⟩ = some (.int .i64 y) := cell_of_row W g 1 _ _ _ h
theorem BoxM.fz (h : BoxM W g x y) (k : Nat) : W.frozen? ⟨g, k, none⟩ = false := frozen_of_row W g k _ _ h
theorem BoxM.lt (h : BoxM W g x y) : g < W.heap.size := (Array.getElem?_eq_some_iff.1 h).1
theorem BoxM.all {w' : World} (h : BoxM W g x y) (hb : Below W.heap.size W w') : BoxM w' g x y := (hb.block g h.lt).trans h
theorem BoxM.kept {w' : World} {row : Option Nat} (h : BoxM W g x y) (hg : W.grownBy w' row) (hne : some g ≠ row) : BoxM w' g x y := (hg.block g h.lt hne).trans h
theorem BoxM.new (W : World) (x y : Int) : BoxM (W.alloc (.cells #[.int .i64 x, .int .i64 y] 25)) W.heap.size x y := heap_alloc_new W _
theorem BoxM.rangeAt (h : BoxM W g x y) : W.rangeAt g 0 [.int .i64 x, .int .i64 y] := by
  intro j u hj
  match j, hj with
  | 0, hj => injection hj with hj; rw [← hj]; exact h.c0
  | 1, hj => injection hj with hj; rw [← hj]; exact h.c1
theorem BoxM.set0 (h : BoxM W g x y) (o : Int) : BoxM (W.setCell ⟨g, 0, none⟩ (.int .i64 o)) g o y := by
  unfold BoxM at *
  simp [World.setCell, Array.getElem?_modify, h]
theorem BoxM.set1 (h : BoxM W g x y) (o : Int) : BoxM (W.setCell ⟨g, 1, none⟩ (.int .i64 o)) g x o := by
  unfold BoxM at *
  simp [World.setCell, Array.getElem?_modify, h]
/-- Both cells written over. -/
abbrev setsM (W : World) (g : Nat) (x y : Int) : World := (W.setCell ⟨g, 0, none⟩ (.int .i64 x)).setCell ⟨g, 1, none⟩ (.int .i64 y)
theorem BoxM.sets (h : BoxM W g x y) (x' y' : Int) : BoxM (setsM W g x' y') g x' y' := (h.set0 x').set1 y'
theorem grown_setM (w : World) (g i : Nat) (u : Value) : w.grownBy (w.setCell ⟨g, i, none⟩ u) (some g) :=
  ⟨rfl, rfl, rfl, by simp [World.setCell], fun k _ hk => Below.heap_setCell _ _ _ _ (fun e => hk (by rw [e]))⟩
theorem grown_setsM (w : World) (g : Nat) (x y : Int) : w.grownBy (setsM w g x y) (some g) := (grown_setM w g 0 _).trans (grown_setM _ g 1 _)
end
/-- A struct in a block as an answer. -/
theorem results_rowM {P : Program} {fn : Func} {p : Tmp} {ty : TypeId} (h : fn.results = #[.cell p ty]) (tmps : Array Value) (w : World) (g : Nat) (cs : List Value) (d : TypeDesc)
    (hp : tmps.getD p undef = .pointer (some ⟨g, 0, none⟩)) (hc : w.rangeAt g 0 cs) (hu : P.underlying ty = some d) (hd : d.isRow = true) (hi : (P.info? ty).map (·.size) = some cs.length) :
    (results fn tmps).run P w = .ok (.agg cs.toArray) w := by
  have hp' : tmps[p]?.getD undef = .pointer (some ⟨g, 0, none⟩) := by simpa using hp
  simp [results, h, hp', asAddr, run_loadVar_mid w g 0 ty cs d hc hu hd hi]
set_option maxHeartbeats 4000000 in
theorem chamber_at {g : Nat} {A : Option Addr} {n c : Nat} {p : Int} {zs : List Int} {B : Nat} {w : World} (h : CurAt w g A n c p zs B) (hp : p ≤ 800000000) :
    Calls Try.prog 32 #[.pointer (some ⟨g, 0, none⟩)] w fun e w' => ∃ l d : Int, e = .returned (.agg #[.int .i64 l, .int .i64 d]) ∧ CurStep w w' g A n c p 20 := by
  have H := Lib.hid h
  have hgl := h.lt
  have hp0 := h.p0
  have S0 := Lib.hid ((CurStep.refl h.cur).alloc (.cells #[.int .i64 0, .int .i64 0] 25))
  have Z0 := Lib.hid (BoxM.new w 0 0)
  have hzg : w.heap.size ≠ g := by omega
  have hxz0 : w.heap.size ≤ w.heap.size := Nat.le_refl _
  clear h
  go_enter Try.func32, Try.ntmps32
  go_wp2_with fail
  obtain ⟨W0, hW0⟩ : ∃ x, w.alloc (.cells #[.int .i64 0, .int .i64 0] 25) = x := ⟨_, rfl⟩
  rw [hW0] at S0 Z0 ⊢
  clear hW0
  obtain ⟨xz, hxz⟩ : ∃ x, x = w.heap.size := ⟨_, rfl⟩
  rw [← hxz] at Z0 hzg ⊢
  replace hxz0 : w.heap.size ≤ xz := by omega
  clear hxz
  obtain ⟨r5, r50, r51, H5⟩ := S0.out.at H.out
  refine (pick_at H5 (by omega) 6 (by omega)).mono ?_
  rintro e w1 ⟨b1, b10, b11, rfl, hs⟩
  have hb1 : b1 ≤ 5 := by omega
  have S1 := Lib.hid (S0.out.then hs r50 r51)
  have Z1 := Lib.hid (BoxM.kept Z0.out hs.grown (by simp; omega))
  clear hs S0 Z0 H5 r50 r51 b11
  obtain ⟨r5, r50, r51, H5⟩ := S1.out.at H.out
  go_wp2_with fail
  refine (pick_at H5 (by omega) 3 (by omega)).mono ?_
  rintro e w2 ⟨b2, b20, b21, rfl, hs⟩
  have hb2 : b2 ≤ 2 := by omega
  have S2 := Lib.hid (S1.out.then hs r50 r51)
  have Z2 := Lib.hid (BoxM.kept Z1.out hs.grown (by simp; omega))
  clear hs S1 Z1 H5 r50 r51 b21
  have hs2 := S2.out.grown.size
  have hzl := Z2.out.lt
  have S3' := Lib.hid (S2.out.alloc (.cells #[.int .i64 (1 + b1), .int .i64 (1 + b2)] 25))
  have Z3' := Lib.hid (BoxM.all Z2.out (below1x w2 (.cells #[.int .i64 (1 + b1), .int .i64 (1 + b2)] 25)))
  have M3' := Lib.hid (BoxM.new w2 (1 + b1) (1 + b2))
  have hmg : w2.heap.size ≠ g := by omega
  have hmz : xz ≠ w2.heap.size := by omega
  clear S2 Z2
  go_wp2_with fail
  obtain ⟨w3, hw3⟩ : ∃ x, w2.alloc (.cells #[.int .i64 (1 + b1), .int .i64 (1 + b2)] 25) = x := ⟨_, rfl⟩
  obtain ⟨xm, hxm⟩ : ∃ x, x = w2.heap.size := ⟨_, rfl⟩
  rw [hw3] at S3' Z3' M3'
  rw [← hxm] at M3' hmg hmz hs2 hzl
  rw [hw3, ← hxm]
  clear hw3 hxm
  obtain ⟨vl, hvl⟩ : ∃ v, 1 + b1 = v := ⟨_, rfl⟩
  obtain ⟨vd, hvd⟩ : ∃ v, 1 + b2 = v := ⟨_, rfl⟩
  rw [hvl, hvd] at M3' ⊢
  obtain ⟨r5, r50, r51, H5⟩ := S3'.out.at H.out
  refine (pick_at H5 (by omega) 24 (by omega)).mono ?_
  rintro e w4 ⟨b, b40, b41, rfl, hs⟩
  have S4 := Lib.hid (S3'.out.then hs r50 r51)
  have Z4 := Lib.hid (BoxM.kept Z3'.out hs.grown (by simp; omega))
  have M4 := Lib.hid (BoxM.kept M3'.out hs.grown (by simp; omega))
  clear hs S3' Z3' M3' H5 r50 r51 b41 hvl hvd
  by_cases n0 : b = 0
  · subst n0
    obtain ⟨r5, r50, r51, H5⟩ := S4.out.at H.out
    go_wp2_with fail
    refine (among_new H5 (by omega) [0, 6, 7] 3 rfl (by omega) (by omega) w4.heap.size rfl).mono ?_
    rintro e w5 ⟨x8, -, rfl, hs⟩
    have S5 := Lib.hid (S4.out.then hs r50 r51)
    have Z5 := Lib.hid (BoxM.kept Z4.out hs.grown (by simp; omega))
    have M5 := Lib.hid (BoxM.kept M4.out hs.grown (by simp; omega))
    have f0 := M5.out.c0
    have f9 := M5.out.fz 0
    have S6 := Lib.hid (S5.out.own (grown_setM w5 xm 0 (.int .i64 x8)) hs2 hmg)
    have Z6 := Lib.hid (BoxM.kept Z5.out (grown_setM w5 xm 0 (.int .i64 x8)) (by simp; omega))
    have M6 := Lib.hid (BoxM.set0 M5.out x8)
    clear hs S4 Z4 M4 H5 r50 r51 S5 Z5 M5
    -- the box is read into the answer
    have m0 := M6.out.c0
    have m1 := M6.out.c1
    have z0 := Z6.out.c0
    have z1 := Z6.out.c1
    have zf0 := Z6.out.fz 0
    have zf1 := Z6.out.fz 1
    go_wp2_with fail
    have ZE := Z6.out.sets x8 vd
    have SE := S6.out.own (grown_setsM _ xz x8 vd) hxz0 hzg
    refine bodyPost_ret (results_rowM rfl _ _ xz [_, _] _ rfl ZE.rangeAt Try.underlying25 rfl (by kernel_rfl)) rfl ?_
    exact ⟨_, _, rfl, SE.mono (by omega)⟩
  · by_cases n1 : b = 1
    · subst n1
      obtain ⟨r5, r50, r51, H5⟩ := S4.out.at H.out
      go_wp2_with fail
      refine (among_new H5 (by omega) [0, 3, 4] 3 rfl (by omega) (by omega) w4.heap.size rfl).mono ?_
      rintro e w5 ⟨x8, -, rfl, hs⟩
      have S5 := Lib.hid (S4.out.then hs r50 r51)
      have Z5 := Lib.hid (BoxM.kept Z4.out hs.grown (by simp; omega))
      have M5 := Lib.hid (BoxM.kept M4.out hs.grown (by simp; omega))
      have f0 := M5.out.c1
      have f9 := M5.out.fz 1
      have S6 := Lib.hid (S5.out.own (grown_setM w5 xm 1 (.int .i64 x8)) hs2 hmg)
      have Z6 := Lib.hid (BoxM.kept Z5.out (grown_setM w5 xm 1 (.int .i64 x8)) (by simp; omega))
      have M6 := Lib.hid (BoxM.set1 M5.out x8)
      clear hs S4 Z4 M4 H5 r50 r51 S5 Z5 M5
      -- the box is read into the answer
      have m0 := M6.out.c0
      have m1 := M6.out.c1
      have z0 := Z6.out.c0
      have z1 := Z6.out.c1
      have zf0 := Z6.out.fz 0
      have zf1 := Z6.out.fz 1
      go_wp2_with fail
      have ZE := Z6.out.sets vl x8
      have SE := S6.out.own (grown_setsM _ xz vl x8) hxz0 hzg
      refine bodyPost_ret (results_rowM rfl _ _ xz [_, _] _ rfl ZE.rangeAt Try.underlying25 rfl (by kernel_rfl)) rfl ?_
      exact ⟨_, _, rfl, SE.mono (by omega)⟩
    · have m0 : (b == 0) = false := by simp [n0]
      have m1 : (b == 1) = false := by simp [n1]
      clear n0 n1
      -- the box is read into the answer
      have m0 := M4.out.c0
      have m1 := M4.out.c1
      have z0 := Z4.out.c0
      have z1 := Z4.out.c1
      have zf0 := Z4.out.fz 0
      have zf1 := Z4.out.fz 1
      go_wp2_with fail
      have ZE := Z4.out.sets vl vd
      have SE := S4.out.own (grown_setsM _ xz vl vd) hxz0 hzg
      refine bodyPost_ret (results_rowM rfl _ _ xz [_, _] _ rfl ZE.rangeAt Try.underlying25 rfl (by kernel_rfl)) rfl ?_
      exact ⟨_, _, rfl, SE.mono (by omega)⟩
end Go.Proofs.Ytdleidlmjliapaa
