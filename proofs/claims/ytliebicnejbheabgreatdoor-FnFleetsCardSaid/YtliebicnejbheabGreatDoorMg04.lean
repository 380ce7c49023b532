/- Texts that are joined: DrB. -/
import Derived.Test.YtliebicnejbheabGreatDoorMg02
import Derived.Test.YtliebicnejbheabGreatDoorMg03
/- The draws of chapter 3: a vessel. -/
namespace Go.Proofs.YtliebicnejbheabGreatDoor
open Go.RowKit Go.PlainAid Go.Sort
set_option linter.unusedVariables false
set_option linter.unusedSimpArgs false

/-- A vessel in a block. -/
def BoxV (W : World) (g : Nat) (i : Int) (s : ByteArray) (l b d q : Int) : Prop :=
  W.heap[g]? = some (.cells #[.int .i64 i, .string s, .int .i64 l, .int .i64 b, .int .i64 d, .int .i64 q] 25 (0, 0))
section
variable {W : World} {g : Nat} {i : Int} {s : ByteArray} {l b d q : Int}
theorem BoxV.c0 (h : BoxV W g i s l b d q) : W.cell? ⟨g, 0, none⟩ = some (.int .i64 i) := cell_of_row W g 0 _ _ _ h
theorem BoxV.c1 (h : BoxV W g i s l b d q) : W.cell? ⟨g, 1, none⟩ = some (.string s) := cell_of_row W g 1 _ _ _ h
theorem BoxV.c2 (h : BoxV W g i s l b d q) : W.cell? ⟨g, 2, none⟩ = some (.int .i64 l) := cell_of_row W g 2 _ _ _ h
theorem BoxV.c3 (h : BoxV W g i s l b d q) : W.cell? ⟨g, 3, none⟩ = some (.int .i64 b) := cell_of_row W g 3 _ _ _ h
theorem BoxV.c4 (h : BoxV W g i s l b d q) : W.cell? ⟨g, 4, none⟩ = some (.int .i64 d) := cell_of_row W g 4 _ _ _ h
theorem BoxV.c5 (h : BoxV W g i s l b d q) : W.cell? ⟨g, 5, none⟩ = some (.int .i64 q) := cell_of_row W g 5 _ _ _ h
theorem BoxV.fz (h : BoxV W g i s l b d q) (k : Nat) : W.frozen? ⟨g, k, none⟩ = false := frozen_of_row W g k _ _ h
theorem BoxV.lt (h : BoxV W g i s l b d q) : g < W.heap.size := (Array.getElem?_eq_some_iff.1 h).1
theorem BoxV.all {w' : World} (h : BoxV W g i s l b d q) (hb : Below W.heap.size W w') : BoxV w' g i s l b d q := (hb.block g h.lt).trans h
theorem BoxV.kept {w' : World} {row : Option Nat} (h : BoxV W g i s l b d q) (hg : W.grownBy w' row) (hne : some g ≠ row) : BoxV w' g i s l b d q := (hg.block g h.lt hne).trans h
theorem BoxV.new (W : World) (i : Int) (s : ByteArray) (l b d q : Int) : BoxV (W.alloc (.cells #[.int .i64 i, .string s, .int .i64 l, .int .i64 b, .int .i64 d, .int .i64 q] 25)) W.heap.size i s l b d q := heap_alloc_new W _
/-- All six cells written over. -/
abbrev sets6 (W : World) (g : Nat) (i : Int) (s : ByteArray) (l b d q : Int) : World :=
  ((((((W.setCell ⟨g, 0, none⟩ (.int .i64 i)).setCell ⟨g, 1, none⟩ (.string s)).setCell ⟨g, 2, none⟩ (.int .i64 l)).setCell ⟨g, 3, none⟩ (.int .i64 b)).setCell ⟨g, 4, none⟩ (.int .i64 d)).setCell ⟨g, 5, none⟩ (.int .i64 q))
theorem BoxV.range (h : BoxV W g i s l b d q) (i' : Int) (s' : ByteArray) (l' b' d' q' : Int) : (sets6 W g i' s' l' b' d' q').rangeAt g 0 [.int .i64 i', .string s', .int .i64 l', .int .i64 b', .int .i64 d', .int .i64 q'] := sets6_range h _ _ _ _ _ _
theorem grown_setV (w : World) (g i : Nat) (u : Value) : w.grownBy (w.setCell ⟨g, i, none⟩ u) (some g) :=
  ⟨rfl, rfl, rfl, by simp [World.setCell], fun k _ hk => Below.heap_setCell _ _ _ _ (fun e => hk (by rw [e]))⟩
theorem grown_sets6 (W : World) (g : Nat) (i : Int) (s : ByteArray) (l b d q : Int) : W.grownBy (sets6 W g i s l b d q) (some g) :=
  (((((grown_setV W g 0 _).trans (grown_setV _ g 1 _)).trans (grown_setV _ g 2 _)).trans (grown_setV _ g 3 _)).trans (grown_setV _ g 4 _)).trans (grown_setV _ g 5 _)
theorem BoxV.set0 (h : BoxV W g i s l b d q) (z : Int) : BoxV (W.setCell ⟨g, 0, none⟩ (.int .i64 z)) g z s l b d q := by unfold BoxV at *; simp [World.setCell, Array.getElem?_modify, h]
theorem BoxV.set1 (h : BoxV W g i s l b d q) (z : ByteArray) : BoxV (W.setCell ⟨g, 1, none⟩ (.string z)) g i z l b d q := by unfold BoxV at *; simp [World.setCell, Array.getElem?_modify, h]
theorem BoxV.set2 (h : BoxV W g i s l b d q) (z : Int) : BoxV (W.setCell ⟨g, 2, none⟩ (.int .i64 z)) g i s z b d q := by unfold BoxV at *; simp [World.setCell, Array.getElem?_modify, h]
theorem BoxV.set3 (h : BoxV W g i s l b d q) (z : Int) : BoxV (W.setCell ⟨g, 3, none⟩ (.int .i64 z)) g i s l z d q := by unfold BoxV at *; simp [World.setCell, Array.getElem?_modify, h]
theorem BoxV.set4 (h : BoxV W g i s l b d q) (z : Int) : BoxV (W.setCell ⟨g, 4, none⟩ (.int .i64 z)) g i s l b z q := by unfold BoxV at *; simp [World.setCell, Array.getElem?_modify, h]
theorem BoxV.set5 (h : BoxV W g i s l b d q) (z : Int) : BoxV (W.setCell ⟨g, 5, none⟩ (.int .i64 z)) g i s l b d z := by unfold BoxV at *; simp [World.setCell, Array.getElem?_modify, h]
end
theorem of_new {g : Nat} {A : Option Addr} {n c : Nat} {p : Int} {zs : List Int} {B : Nat} {W : World} (h : CurAt W g A n c p zs B) (hp1 : p ≤ 900000000) (ss : List ByteArray) (m : Nat) (hm : ss.length = m) (hm0 : 0 < m) (hm1 : m ≤ 1000000) (b : Nat) (hb : W.heap.size = b) :
    Calls Tryz.prog 46 #[.pointer (some ⟨g, 0, none⟩), .slice (some ⟨b, 0, none⟩) m m] (W.alloc (.cells (ss.map .string).toArray 9)) fun e w' => ∃ s ∈ ss, e = .returned (.string s) ∧ CurStep W w' g A n c p 2 := by
  subst hb
  have hl := h.lt
  refine (of_at (h.kept (World.grownBy_alloc W _ none) (by simp) (fun r e => by cases e)) hp1 W.heap.size m m ss hm hm0 hm1 (fun k hk => ?_) (by omega)).mono ?_
  · rw [vNew, List.getElem?_toArray, List.getElem?_map, List.getElem?_eq_getElem hk]
    rfl
  · rintro e w' ⟨z, hz, rfl, hs⟩
    exact ⟨z, hz, rfl, ⟨hs.cur, (World.grownBy_alloc W _ (some g)).trans hs.grown⟩⟩
theorem results_rowV {P : Program} {fn : Func} {p : Tmp} {ty : TypeId} (h : fn.results = #[.cell p ty]) (tmps : Array Value) (w : World) (g : Nat) (cs : List Value) (d : TypeDesc)
    (hp : tmps.getD p undef = .pointer (some ⟨g, 0, none⟩)) (hc : w.rangeAt g 0 cs) (hu : P.underlying ty = some d) (hd : d.isRow = true) (hi : (P.info? ty).map (·.size) = some cs.length) :
    (results fn tmps).run P w = .ok (.agg cs.toArray) w := by
  have hp' : tmps[p]?.getD undef = .pointer (some ⟨g, 0, none⟩) := by simpa using hp
  simp [results, h, hp', asAddr, run_loadVar_mid w g 0 ty cs d hc hu hd hi]
def shipNames : List ByteArray := [⟨#[109, 97, 114, 105, 97]⟩, ⟨#[97, 110, 110, 97]⟩, ⟨#[114, 104, 101, 105, 110]⟩, ⟨#[101, 108, 98, 101]⟩, ⟨#[111, 116, 116, 111]⟩, ⟨#[97]⟩, ⟨#[115, 119, 97, 110]⟩, ⟨#[108, 117, 110, 97]⟩, ⟨#[97, 98, 99, 100, 101, 102, 103, 104, 105, 106]⟩]
theorem shipNames_small : ∀ s ∈ shipNames, s.size ≤ 16 := by decide +kernel
def oddNames : List ByteArray := [⟨#[]⟩, ⟨#[77, 97, 114, 105, 97]⟩, ⟨#[97, 32, 98]⟩, ⟨#[97, 98, 99, 100, 101, 102, 103, 104, 105, 106, 107]⟩]
theorem oddNames_small : ∀ s ∈ oddNames, s.size ≤ 16 := by decide +kernel

set_option maxRecDepth 100000 in
set_option maxHeartbeats 4000000 in
theorem vessel_at {g : Nat} {A : Option Addr} {n c : Nat} {p : Int} {zs : List Int} {B : Nat} {w : World} (h : CurAt w g A n c p zs B) (hp : p ≤ 850000000) :
    Calls Tryz.prog 32 #[.pointer (some ⟨g, 0, none⟩)] w fun e w' => ∃ (i : Int) (s : ByteArray) (l b d q : Int), s.size ≤ 16 ∧ e = .returned (.agg #[.int .i64 i, .string s, .int .i64 l, .int .i64 b, .int .i64 d, .int .i64 q]) ∧ CurStep w w' g A n c p 30 := by
  have H := Lib.hid h
  have hgl := h.lt
  have hp0 := h.p0
  have S0 := Lib.hid ((CurStep.refl h.cur).alloc (.cells #[.int .i64 0, .string ⟨#[]⟩, .int .i64 0, .int .i64 0, .int .i64 0, .int .i64 0] 25))
  clear h
  go_enter Tryz.func32, Tryz.ntmps32
  go_wp2_with fail
  obtain ⟨q1, q10, q11, H1⟩ := S0.out.at H.out
  refine (pick_at H1 (by omega) 20 (by omega)).mono ?_
  rintro e w1 ⟨b1, b10, b11, rfl, hs⟩
  have S1 := Lib.hid (S0.out.then hs q10 q11)
  have QZ := Lib.hid ((BoxV.new w 0 ⟨#[]⟩ 0 0 0 0).kept hs.grown (by simp; omega))
  obtain ⟨xz, hxz⟩ : ∃ x, w.heap.size = x := ⟨_, rfl⟩
  have hzg : xz ≠ g := by omega
  have HXZ : Hid (w.heap.size ≤ xz) := Lib.hid (by omega)
  rw [hxz] at QZ
  try simp only [hxz]
  clear hs S0 H1 hxz q10 q11
  obtain ⟨q2, q20, q21, H2⟩ := S1.out.at H.out
  go_wp2_with fail
  refine (of_new H2 (by omega) shipNames 9 rfl (by omega) (by omega) w1.heap.size rfl).mono ?_
  rintro e w2 ⟨s, hsm, rfl, hs⟩
  have HNS := Lib.hid (shipNames_small s hsm)
  have S2 := Lib.hid (S1.out.then hs q20 q21)
  have QZ2 := Lib.hid (QZ.out.kept hs.grown (by simp; exact hzg))
  clear hs hsm S1 QZ H2 q20 q21
  obtain ⟨q3, q30, q31, H3⟩ := S2.out.at H.out
  go_wp2_with fail
  refine (pick_at H3 (by omega) 6 (by omega)).mono ?_
  rintro e w3 ⟨b3, b30, b31, rfl, hs⟩
  have S3 := Lib.hid (S2.out.then hs q30 q31)
  have QZ3 := Lib.hid (QZ2.out.kept hs.grown (by simp; exact hzg))
  clear hs S2 QZ2 H3 q30 q31
  obtain ⟨q4, q40, q41, H4⟩ := S3.out.at H.out
  go_wp2_with fail
  refine (pick_at H4 (by omega) 3 (by omega)).mono ?_
  rintro e w4 ⟨b4, b40, b41, rfl, hs⟩
  have S4 := Lib.hid (S3.out.then hs q40 q41)
  have QZ4 := Lib.hid (QZ3.out.kept hs.grown (by simp; exact hzg))
  clear hs S3 QZ3 H4 q40 q41
  obtain ⟨q5, q50, q51, H5⟩ := S4.out.at H.out
  go_wp2_with fail
  refine (among_new H5 (by omega) [50, 120, 200, 250, 250, 300, 500] 7 rfl (by omega) (by omega) w4.heap.size rfl).mono ?_
  rintro e w5 ⟨d5, -, rfl, hs⟩
  have S5 := Lib.hid (S4.out.then hs q50 q51)
  have QZ5 := Lib.hid (QZ4.out.kept hs.grown (by simp; exact hzg))
  clear hs S4 QZ4 H5 q50 q51
  obtain ⟨q6, q60, q61, H6⟩ := S5.out.at H.out
  go_wp2_with fail
  refine (pick_at H6 (by omega) 4 (by omega)).mono ?_
  rintro e w6 ⟨b6, b60, b61, rfl, hs⟩
  have S6 := Lib.hid ((S5.out.then hs q60 q61).alloc (.cells #[.int .i64 (1 + b1), .string s, .int .i64 (1 + b3), .int .i64 (1 + b4), .int .i64 d5, .int .i64 (1 + b6)] 25))
  have QZ6 := Lib.hid ((QZ5.out.kept hs.grown (by simp; exact hzg)).all (below1x w6 (.cells #[.int .i64 (1 + b1), .string s, .int .i64 (1 + b3), .int .i64 (1 + b4), .int .i64 d5, .int .i64 (1 + b6)] 25)))
  have Q6 := Lib.hid (BoxV.new w6 (1 + b1) s (1 + b3) (1 + b4) d5 (1 + b6))
  have hsz : w.heap.size ≤ w6.heap.size := (S5.out.then hs q60 q61).grown.size
  have hzl := (QZ5.out.kept hs.grown (by simp; exact hzg)).lt
  clear hs S5 QZ5 H6 q60 q61
  obtain ⟨q7, q70, q71, H7⟩ := S6.out.at H.out
  go_wp2_with fail
  refine (pick_at H7 (by omega) 60 (by omega)).mono ?_
  rintro e w8 ⟨b8, b80, b81, rfl, hs⟩
  have S8 := Lib.hid (S6.out.then hs q70 q71)
  have QZ8 := Lib.hid (QZ6.out.kept hs.grown (by simp; exact hzg))
  have Q8 := Lib.hid (Q6.out.kept hs.grown (by simp; omega))
  obtain ⟨xb, hxb⟩ : ∃ x, w6.heap.size = x := ⟨_, rfl⟩
  have hbg : xb ≠ g := by omega
  have HXB : Hid (w.heap.size ≤ xb) := Lib.hid (by omega)
  have hzb : xz ≠ xb := by omega
  rw [hxb] at Q8
  try simp only [hxb]
  clear hs S6 QZ6 Q6 H7 q70 q71 b80 b81 hsz hzl hxb
  generalize 1 + b1 = v1 at *
  generalize 1 + b3 = v3 at *
  generalize 1 + b4 = v4 at *
  generalize 1 + b6 = v6 at *
  by_cases h0 : b8 = 0
  · subst h0
    obtain ⟨q7, q70, q71, H7⟩ := S8.out.at H.out
    go_wp2_with fail
    refine (among_new H7 (by omega) [0, 99, 100] 3 rfl (by omega) (by omega) w8.heap.size rfl).mono ?_
    rintro e w9 ⟨z9, -, rfl, hs⟩
    have Q9 := Lib.hid (Q8.out.kept hs.grown (by simp; exact hbg))
    have QZ9 := Lib.hid (QZ8.out.kept hs.grown (by simp; exact hzg))
    have e6 := Q9.out.c0
    have g6 := Q9.out.fz 0
    have S9 := Lib.hid ((S8.out.then hs q70 q71).own (grown_setV w9 xb 0 (.int .i64 z9)) HXB.out hbg)
    have QX := Lib.hid (Q9.out.set0 z9)
    have QZX := Lib.hid (QZ9.out.kept (grown_setV w9 xb 0 (.int .i64 z9)) (by simp; exact hzb))
    clear hs S8 Q8 QZ8 H7 Q9 QZ9
    have k0 := QX.out.c0
    have k1 := QX.out.c1
    have k2 := QX.out.c2
    have k3 := QX.out.c3
    have k4 := QX.out.c4
    have k5 := QX.out.c5
    have f0 := QZX.out.fz 0
    have f1 := QZX.out.fz 1
    have f2 := QZX.out.fz 2
    have f3 := QZX.out.fz 3
    have f4 := QZX.out.fz 4
    have f5 := QZX.out.fz 5
    have z0 := QZX.out.c0
    have z1 := QZX.out.c1
    have z2 := QZX.out.c2
    have z3 := QZX.out.c3
    have z4 := QZX.out.c4
    have z5 := QZX.out.c5
    go_wp2_with fail
    refine bodyPost_ret (results_rowV rfl _ _ xz [_, _, _, _, _, _] _ rfl (QZX.out.range _ _ _ _ _ _) Tryz.underlying25 rfl (by kernel_rfl)) rfl ?_
    exact ⟨_, _, _, _, _, _, HNS.out, rfl, (S9.out.own (grown_sets6 _ _ _ _ _ _ _ _) HXZ.out hzg).mono (by omega)⟩
  have n0 : (b8 == 0) = false := by simp [h0]
  by_cases h1 : b8 = 1
  · subst h1
    obtain ⟨q7, q70, q71, H7⟩ := S8.out.at H.out
    go_wp2_with fail
    refine (of_new H7 (by omega) oddNames 4 rfl (by omega) (by omega) w8.heap.size rfl).mono ?_
    rintro e w9 ⟨z9, hz9, rfl, hs⟩
    have HNZ := Lib.hid (oddNames_small z9 hz9)
    have Q9 := Lib.hid (Q8.out.kept hs.grown (by simp; exact hbg))
    have QZ9 := Lib.hid (QZ8.out.kept hs.grown (by simp; exact hzg))
    have e6 := Q9.out.c1
    have g6 := Q9.out.fz 1
    have S9 := Lib.hid ((S8.out.then hs q70 q71).own (grown_setV w9 xb 1 (.string z9)) HXB.out hbg)
    have QX := Lib.hid (Q9.out.set1 z9)
    have QZX := Lib.hid (QZ9.out.kept (grown_setV w9 xb 1 (.string z9)) (by simp; exact hzb))
    clear hs hz9 S8 Q8 QZ8 H7 Q9 QZ9
    have k0 := QX.out.c0
    have k1 := QX.out.c1
    have k2 := QX.out.c2
    have k3 := QX.out.c3
    have k4 := QX.out.c4
    have k5 := QX.out.c5
    have f0 := QZX.out.fz 0
    have f1 := QZX.out.fz 1
    have f2 := QZX.out.fz 2
    have f3 := QZX.out.fz 3
    have f4 := QZX.out.fz 4
    have f5 := QZX.out.fz 5
    have z0 := QZX.out.c0
    have z1 := QZX.out.c1
    have z2 := QZX.out.c2
    have z3 := QZX.out.c3
    have z4 := QZX.out.c4
    have z5 := QZX.out.c5
    go_wp2_with fail
    refine bodyPost_ret (results_rowV rfl _ _ xz [_, _, _, _, _, _] _ rfl (QZX.out.range _ _ _ _ _ _) Tryz.underlying25 rfl (by kernel_rfl)) rfl ?_
    exact ⟨_, _, _, _, _, _, HNZ.out, rfl, (S9.out.own (grown_sets6 _ _ _ _ _ _ _ _) HXZ.out hzg).mono (by omega)⟩
  have n1 : (b8 == 1) = false := by simp [h1]
  by_cases h2 : b8 = 2
  · subst h2
    obtain ⟨q7, q70, q71, H7⟩ := S8.out.at H.out
    go_wp2_with fail
    refine (among_new H7 (by omega) [0, 8, 9] 3 rfl (by omega) (by omega) w8.heap.size rfl).mono ?_
    rintro e w9 ⟨z9, -, rfl, hs⟩
    have Q9 := Lib.hid (Q8.out.kept hs.grown (by simp; exact hbg))
    have QZ9 := Lib.hid (QZ8.out.kept hs.grown (by simp; exact hzg))
    have e6 := Q9.out.c2
    have g6 := Q9.out.fz 2
    have S9 := Lib.hid ((S8.out.then hs q70 q71).own (grown_setV w9 xb 2 (.int .i64 z9)) HXB.out hbg)
    have QX := Lib.hid (Q9.out.set2 z9)
    have QZX := Lib.hid (QZ9.out.kept (grown_setV w9 xb 2 (.int .i64 z9)) (by simp; exact hzb))
    clear hs S8 Q8 QZ8 H7 Q9 QZ9
    have k0 := QX.out.c0
    have k1 := QX.out.c1
    have k2 := QX.out.c2
    have k3 := QX.out.c3
    have k4 := QX.out.c4
    have k5 := QX.out.c5
    have f0 := QZX.out.fz 0
    have f1 := QZX.out.fz 1
    have f2 := QZX.out.fz 2
    have f3 := QZX.out.fz 3
    have f4 := QZX.out.fz 4
    have f5 := QZX.out.fz 5
    have z0 := QZX.out.c0
    have z1 := QZX.out.c1
    have z2 := QZX.out.c2
    have z3 := QZX.out.c3
    have z4 := QZX.out.c4
    have z5 := QZX.out.c5
    go_wp2_with fail
    refine bodyPost_ret (results_rowV rfl _ _ xz [_, _, _, _, _, _] _ rfl (QZX.out.range _ _ _ _ _ _) Tryz.underlying25 rfl (by kernel_rfl)) rfl ?_
    exact ⟨_, _, _, _, _, _, HNS.out, rfl, (S9.out.own (grown_sets6 _ _ _ _ _ _ _ _) HXZ.out hzg).mono (by omega)⟩
  have n2 : (b8 == 2) = false := by simp [h2]
  by_cases h3 : b8 = 3
  · subst h3
    obtain ⟨q7, q70, q71, H7⟩ := S8.out.at H.out
    go_wp2_with fail
    refine (among_new H7 (by omega) [0, 4] 2 rfl (by omega) (by omega) w8.heap.size rfl).mono ?_
    rintro e w9 ⟨z9, -, rfl, hs⟩
    have Q9 := Lib.hid (Q8.out.kept hs.grown (by simp; exact hbg))
    have QZ9 := Lib.hid (QZ8.out.kept hs.grown (by simp; exact hzg))
    have e6 := Q9.out.c3
    have g6 := Q9.out.fz 3
    have S9 := Lib.hid ((S8.out.then hs q70 q71).own (grown_setV w9 xb 3 (.int .i64 z9)) HXB.out hbg)
    have QX := Lib.hid (Q9.out.set3 z9)
    have QZX := Lib.hid (QZ9.out.kept (grown_setV w9 xb 3 (.int .i64 z9)) (by simp; exact hzb))
    clear hs S8 Q8 QZ8 H7 Q9 QZ9
    have k0 := QX.out.c0
    have k1 := QX.out.c1
    have k2 := QX.out.c2
    have k3 := QX.out.c3
    have k4 := QX.out.c4
    have k5 := QX.out.c5
    have f0 := QZX.out.fz 0
    have f1 := QZX.out.fz 1
    have f2 := QZX.out.fz 2
    have f3 := QZX.out.fz 3
    have f4 := QZX.out.fz 4
    have f5 := QZX.out.fz 5
    have z0 := QZX.out.c0
    have z1 := QZX.out.c1
    have z2 := QZX.out.c2
    have z3 := QZX.out.c3
    have z4 := QZX.out.c4
    have z5 := QZX.out.c5
    go_wp2_with fail
    refine bodyPost_ret (results_rowV rfl _ _ xz [_, _, _, _, _, _] _ rfl (QZX.out.range _ _ _ _ _ _) Tryz.underlying25 rfl (by kernel_rfl)) rfl ?_
    exact ⟨_, _, _, _, _, _, HNS.out, rfl, (S9.out.own (grown_sets6 _ _ _ _ _ _ _ _) HXZ.out hzg).mono (by omega)⟩
  have n3 : (b8 == 3) = false := by simp [h3]
  by_cases h4 : b8 = 4
  · subst h4
    obtain ⟨q7, q70, q71, H7⟩ := S8.out.at H.out
    go_wp2_with fail
    refine (among_new H7 (by omega) [49, 501] 2 rfl (by omega) (by omega) w8.heap.size rfl).mono ?_
    rintro e w9 ⟨z9, -, rfl, hs⟩
    have Q9 := Lib.hid (Q8.out.kept hs.grown (by simp; exact hbg))
    have QZ9 := Lib.hid (QZ8.out.kept hs.grown (by simp; exact hzg))
    have e6 := Q9.out.c4
    have g6 := Q9.out.fz 4
    have S9 := Lib.hid ((S8.out.then hs q70 q71).own (grown_setV w9 xb 4 (.int .i64 z9)) HXB.out hbg)
    have QX := Lib.hid (Q9.out.set4 z9)
    have QZX := Lib.hid (QZ9.out.kept (grown_setV w9 xb 4 (.int .i64 z9)) (by simp; exact hzb))
    clear hs S8 Q8 QZ8 H7 Q9 QZ9
    have k0 := QX.out.c0
    have k1 := QX.out.c1
    have k2 := QX.out.c2
    have k3 := QX.out.c3
    have k4 := QX.out.c4
    have k5 := QX.out.c5
    have f0 := QZX.out.fz 0
    have f1 := QZX.out.fz 1
    have f2 := QZX.out.fz 2
    have f3 := QZX.out.fz 3
    have f4 := QZX.out.fz 4
    have f5 := QZX.out.fz 5
    have z0 := QZX.out.c0
    have z1 := QZX.out.c1
    have z2 := QZX.out.c2
    have z3 := QZX.out.c3
    have z4 := QZX.out.c4
    have z5 := QZX.out.c5
    go_wp2_with fail
    refine bodyPost_ret (results_rowV rfl _ _ xz [_, _, _, _, _, _] _ rfl (QZX.out.range _ _ _ _ _ _) Tryz.underlying25 rfl (by kernel_rfl)) rfl ?_
    exact ⟨_, _, _, _, _, _, HNS.out, rfl, (S9.out.own (grown_sets6 _ _ _ _ _ _ _ _) HXZ.out hzg).mono (by omega)⟩
  have n4 : (b8 == 4) = false := by simp [h4]
  by_cases h5 : b8 = 5
  · subst h5
    obtain ⟨q7, q70, q71, H7⟩ := S8.out.at H.out
    go_wp2_with fail
    refine (among_new H7 (by omega) [0, 5] 2 rfl (by omega) (by omega) w8.heap.size rfl).mono ?_
    rintro e w9 ⟨z9, -, rfl, hs⟩
    have Q9 := Lib.hid (Q8.out.kept hs.grown (by simp; exact hbg))
    have QZ9 := Lib.hid (QZ8.out.kept hs.grown (by simp; exact hzg))
    have e6 := Q9.out.c5
    have g6 := Q9.out.fz 5
    have S9 := Lib.hid ((S8.out.then hs q70 q71).own (grown_setV w9 xb 5 (.int .i64 z9)) HXB.out hbg)
    have QX := Lib.hid (Q9.out.set5 z9)
    have QZX := Lib.hid (QZ9.out.kept (grown_setV w9 xb 5 (.int .i64 z9)) (by simp; exact hzb))
    clear hs S8 Q8 QZ8 H7 Q9 QZ9
    have k0 := QX.out.c0
    have k1 := QX.out.c1
    have k2 := QX.out.c2
    have k3 := QX.out.c3
    have k4 := QX.out.c4
    have k5 := QX.out.c5
    have f0 := QZX.out.fz 0
    have f1 := QZX.out.fz 1
    have f2 := QZX.out.fz 2
    have f3 := QZX.out.fz 3
    have f4 := QZX.out.fz 4
    have f5 := QZX.out.fz 5
    have z0 := QZX.out.c0
    have z1 := QZX.out.c1
    have z2 := QZX.out.c2
    have z3 := QZX.out.c3
    have z4 := QZX.out.c4
    have z5 := QZX.out.c5
    go_wp2_with fail
    refine bodyPost_ret (results_rowV rfl _ _ xz [_, _, _, _, _, _] _ rfl (QZX.out.range _ _ _ _ _ _) Tryz.underlying25 rfl (by kernel_rfl)) rfl ?_
    exact ⟨_, _, _, _, _, _, HNS.out, rfl, (S9.out.own (grown_sets6 _ _ _ _ _ _ _ _) HXZ.out hzg).mono (by omega)⟩
  have n5 : (b8 == 5) = false := by simp [h5]
  clear h0 h1 h2 h3 h4 h5
  have k0 := Q8.out.c0
  have k1 := Q8.out.c1
  have k2 := Q8.out.c2
  have k3 := Q8.out.c3
  have k4 := Q8.out.c4
  have k5 := Q8.out.c5
  have f0 := QZ8.out.fz 0
  have f1 := QZ8.out.fz 1
  have f2 := QZ8.out.fz 2
  have f3 := QZ8.out.fz 3
  have f4 := QZ8.out.fz 4
  have f5 := QZ8.out.fz 5
  have z0 := QZ8.out.c0
  have z1 := QZ8.out.c1
  have z2 := QZ8.out.c2
  have z3 := QZ8.out.c3
  have z4 := QZ8.out.c4
  have z5 := QZ8.out.c5
  go_wp2_with fail
  refine bodyPost_ret (results_rowV rfl _ _ xz [_, _, _, _, _, _] _ rfl (QZ8.out.range _ _ _ _ _ _) Tryz.underlying25 rfl (by kernel_rfl)) rfl ?_
  exact ⟨_, _, _, _, _, _, HNS.out, rfl, (S8.out.own (grown_sets6 _ _ _ _ _ _ _ _) HXZ.out hzg).mono (by omega)⟩
end Go.Proofs.YtliebicnejbheabGreatDoor
