/- Steps of the cursor among other steps; one of a list; integers in a row of one's own. -/
import Derived.Test.YtdjoiodkmanacaaAmong
import Derived.Test.YtdjoiodkmanacaaStk
namespace Go.Proofs.Ytdjoiodkmanacaa
open Go.RowKit Go.PlainAid Go.Sort
set_option linter.unusedVariables false
set_option linter.unusedSimpArgs false

theorem below1x (w : World) (o : Obj) : Below w.heap.size w (w.alloc o) := (Below.refl _ _).alloc (Nat.le_refl _) _
section
variable {w W W' : World} {g : Nat} {A : Option Addr} {n c : Nat} {p d : Int}
theorem Cur.lt {q : Int} (h : Cur W g A n c q) : g < W.heap.size := by
  obtain ⟨sd, hc⟩ := h
  exact (Array.getElem?_eq_some_iff.1 hc).1
theorem CurStep.refl (h : Cur w g A n c p) : CurStep w w g A n c p 0 := CurStep.here h (World.grownBy.refl _ _) (by omega)
theorem CurStep.on (h : CurStep w W g A n c p d) (hb : Below W.heap.size W W') : CurStep w W' g A n c p d := by
  obtain ⟨q, q0, q1, hq⟩ := h.cur
  have hl := hq.lt
  obtain ⟨sd, hc⟩ := hq
  exact ⟨⟨q, q0, q1, sd, (hb.block g hl).trans hc⟩, h.grown.trans (grownBelow hb _)⟩
theorem CurStep.alloc (h : CurStep w W g A n c p d) (o : Obj) : CurStep w (W.alloc o) g A n c p d := h.on (below1x W o)
/-- A block of one's own turns. -/
theorem CurStep.own {xb : Nat} (h : CurStep w W g A n c p d) (hg : W.grownBy W' (some xb)) (hx : w.heap.size ≤ xb) (hne : xb ≠ g) : CurStep w W' g A n c p d := by
  obtain ⟨q, q0, q1, hq⟩ := h.cur
  have hl := hq.lt
  obtain ⟨sd, hc⟩ := hq
  refine ⟨⟨q, q0, q1, sd, (hg.block g hl (fun e => hne (by cases e; rfl))).trans hc⟩, ?_⟩
  have k := h.grown
  exact ⟨hg.os.trans k.os, hg.tape.trans k.tape, hg.output.trans k.output, Nat.le_trans k.size hg.size, fun j hj hjn => (hg.block j (Nat.lt_of_lt_of_le hj k.size) (fun e => by cases e; omega)).trans (k.block j hj hjn)⟩
end
theorem CurStep.at {w W : World} {g : Nat} {A : Option Addr} {n c : Nat} {p d : Int} {zs : List Int} {B : Nat} (h : CurStep w W g A n c p d) (H : CurAt w g A n c p zs B) : ∃ q : Int, p ≤ q ∧ q ≤ p + d ∧ CurAt W g A n c q zs B := H.step h
theorem among_new {g : Nat} {A : Option Addr} {n c : Nat} {p : Int} {zs : List Int} {B : Nat} {W : World} (h : CurAt W g A n c p zs B) (hp1 : p ≤ 900000000) (ns : List Int) (m : Nat) (hm : ns.length = m) (hm0 : 0 < m) (hm1 : m ≤ 1000000) (b : Nat) (hb : W.heap.size = b) :
    Calls Try.prog 79 #[.pointer (some ⟨g, 0, none⟩), .slice (some ⟨b, 0, none⟩) m m] (W.alloc (.cells (ns.map (.int .i64)).toArray 3)) fun e w' => ∃ z ∈ ns, e = .returned (.int .i64 z) ∧ CurStep W w' g A n c p 2 := by
  subst hb
  have hl := h.lt
  refine (amongN_at (h.kept (World.grownBy_alloc W _ none) (by simp) (fun r e => by cases e)) hp1 W.heap.size m m ns hm hm0 hm1 (fun k hk => ?_) (by omega)).mono ?_
  · rw [sNew, List.getElem?_toArray, List.getElem?_map, List.getElem?_eq_getElem hk]
    rfl
  · rintro e w' ⟨z, hz, rfl, hs⟩
    exact ⟨z, hz, rfl, ⟨hs.cur, (World.grownBy_alloc W _ (some g)).trans hs.grown⟩⟩
/-- A call on the cursor behind other steps. -/
theorem CurStep.then {w W W' : World} {g : Nat} {A : Option Addr} {n c : Nat} {p q d d' : Int} (h : CurStep w W g A n c p d) (hs : CurStep W W' g A n c q d') (h0 : p ≤ q) (h1 : q ≤ p + d) : CurStep w W' g A n c p (d + d') := h.trans hs h0 h1
def lenV : Value → Nat
  | .slice _ n _ => n
  | _ => 0
/-- Integers in a row of one's own. -/
def OwnC (w W : World) (g1 q c1 : Nat) : Prop := ∃ L : List Int, w.heap.size ≤ g1 ∧ W.ownsRow w.heap.size 3 1 (.slice (some ⟨g1, 0, none⟩) q c1) q (L.map (.int .i64))
theorem OwnC.kept {w W W' : World} {g1 q c1 : Nat} {g : Nat} (h : OwnC w W g1 q c1) (hg : W.grownBy W' (some g)) (hne : g1 ≠ g) : OwnC w W' g1 q c1 := by
  obtain ⟨L, h1, h2⟩ := h
  exact ⟨L, h1, h2.kept hg (.inr (by simp [Value.ownBlock]; exact hne))⟩
theorem OwnC.g {w W : World} {g1 q c1 : Nat} (h : OwnC w W g1 q c1) : w.heap.size ≤ g1 := by
  obtain ⟨L, h1, h2⟩ := h
  exact h1
theorem CurStep.pre {w w' : World} {o : Obj} {g : Nat} {A : Option Addr} {n c : Nat} {p d : Int} (h : CurStep (w.alloc o) w' g A n c p d) : CurStep w w' g A n c p d := ⟨h.cur, (World.grownBy_alloc w _ _).trans h.grown⟩
/-- One of a part of a list that was laid before another draw. -/
theorem among_cut {g : Nat} {A : Option Addr} {n c : Nat} {p q : Int} {zs : List Int} {B : Nat} {W W1 : World} {d : Int} (ns : List Int) (h : CurAt W g A n c p zs B) (hs : CurStep (W.alloc (.cells (ns.map (.int .i64)).toArray 3)) W1 g A n c q d) (hq : 0 ≤ q) (h1 : CurAt W1 g A n c q zs B ∨ True)
    (p1 : Int) (H1 : CurAt W1 g A n c p1 zs B) (hp1 : p1 ≤ 900000000) (m c2 : Nat) (hm : m ≤ ns.length) (hm0 : 0 < m) (hm1 : m ≤ 1000000) :
    Calls Try.prog 79 #[.pointer (some ⟨g, 0, none⟩), .slice (some ⟨W.heap.size, 0, none⟩) m c2] W1 fun e w' => ∃ z : Int, e = .returned (.int .i64 z) ∧ CurStep W1 w' g A n c p1 2 := by
  have hl := h.lt
  refine (amongN_at H1 hp1 W.heap.size m c2 (ns.take m) (by rw [List.length_take]; omega) hm0 hm1 (fun k hk => ?_) (by omega)).mono ?_
  · rw [List.length_take] at hk
    have hc : (W.alloc (.cells (ns.map (.int .i64)).toArray 3)).cell? ⟨W.heap.size, k, none⟩ = some (.int .i64 (ns[k]'(by omega))) := by
      rw [sNew, List.getElem?_toArray, List.getElem?_map, List.getElem?_eq_getElem (by omega)]
      rfl
    rw [List.getElem_take]
    exact (World.cell?_of_block (a := ⟨W.heap.size, k, none⟩) (hs.grown.block W.heap.size (by simp) (fun e => by cases e; omega))).trans hc
  · rintro e w' ⟨z, -, rfl, hs2⟩
    exact ⟨z, rfl, hs2⟩
end Go.Proofs.Ytdjoiodkmanacaa
