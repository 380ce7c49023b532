/- Chapter 5: the states and commands that the laws draw. -/
import Derived.Test.YtmnagjjpncancaaAmong
import Derived.Test.YtmnagjjpncancaaLoJ
import Derived.Test.YtmnagjjpncancaaLoQ
namespace Go.Proofs.Ytmnagjjpncancaa
open Go.RowKit Go.PlainAid Go.Sort
set_option linter.unusedVariables false
set_option linter.unusedSimpArgs false

section
variable {w W W' : World} {g : Nat} {A : Option Addr} {n c : Nat} {p d : Int}
theorem Cur.lt {q : Int} (h : Cur W g A n c q) : g < W.heap.size := by
  obtain ⟨sd, hc⟩ := h
  exact (Array.getElem?_eq_some_iff.1 hc).1
theorem CurStep.refl (h : Cur w g A n c p) : CurStep w w g A n c p 0 := CurStep.here h (World.grownBy.refl _ _) (by omega)
theorem CurStep.on (h : CurStep w W g A n c p d) (hb : Below W.heap.size W W') : CurStep w W' g A n c p d := by
  obtain ⟨q, q0, q1, hq⟩ := h.cur
  have hl := hq.lt
  obtain ⟨sd, hc⟩ := hq
  exact ⟨⟨q, q0, q1, sd, (hb.block g hl).trans hc⟩, h.grown.trans (grownBelow hb _)⟩
theorem CurStep.alloc (h : CurStep w W g A n c p d) (o : Obj) : CurStep w (W.alloc o) g A n c p d := h.on (below1 W o)
/-- A block of one's own turns. -/
theorem CurStep.own {xb : Nat} (h : CurStep w W g A n c p d) (hg : W.grownBy W' (some xb)) (hx : w.heap.size ≤ xb) (hne : xb ≠ g) : CurStep w W' g A n c p d := by
  obtain ⟨q, q0, q1, hq⟩ := h.cur
  have hl := hq.lt
  obtain ⟨sd, hc⟩ := hq
  refine ⟨⟨q, q0, q1, sd, (hg.block g hl (fun e => hne (by cases e; rfl))).trans hc⟩, ?_⟩
  have k := h.grown
  exact ⟨hg.os.trans k.os, hg.tape.trans k.tape, hg.output.trans k.output, Nat.le_trans k.size hg.size, fun j hj hjn => (hg.block j (Nat.lt_of_lt_of_le hj k.size) (fun e => by cases e; omega)).trans (k.block j hj hjn)⟩
end
theorem CurStep.at {w W : World} {g : Nat} {A : Option Addr} {n c : Nat} {p d : Int} {zs : List Int} {B : Nat} (h : CurStep w W g A n c p d) (H : CurAt w g A n c p zs B) : ∃ q : Int, p ≤ q ∧ q ≤ p + d ∧ CurAt W g A n c q zs B := H.step h
theorem among_new {g : Nat} {A : Option Addr} {n c : Nat} {p : Int} {zs : List Int} {B : Nat} {W : World} (h : CurAt W g A n c p zs B) (hp1 : p ≤ 900000000) (ns : List Int) (m : Nat) (hm : ns.length = m) (hm0 : 0 < m) (hm1 : m ≤ 1000000) (b : Nat) (hb : W.heap.size = b) :
    Calls Try.prog 58 #[.pointer (some ⟨g, 0, none⟩), .slice (some ⟨b, 0, none⟩) m m] (W.alloc (.cells (ns.map (.int .i64)).toArray 3)) fun e w' => ∃ z ∈ ns, e = .returned (.int .i64 z) ∧ CurStep W w' g A n c p 2 := by
  subst hb
  have hl := h.lt
  refine (amongN_at (h.kept (World.grownBy_alloc W _ none) (by simp) (fun r e => by cases e)) hp1 W.heap.size m m ns hm hm0 hm1 (fun k hk => ?_) (by omega)).mono ?_
  · rw [sNew, List.getElem?_toArray, List.getElem?_map, List.getElem?_eq_getElem hk]
    rfl
  · rintro e w' ⟨z, hz, rfl, hs⟩
    exact ⟨z, hz, rfl, ⟨hs.cur, (World.grownBy_alloc W _ (some g)).trans hs.grown⟩⟩
/-- A call on the cursor behind other steps. -/
theorem CurStep.then {w W W' : World} {g : Nat} {A : Option Addr} {n c : Nat} {p q d d' : Int} (h : CurStep w W g A n c p d) (hs : CurStep W W' g A n c q d') (h0 : p ≤ q) (h1 : q ≤ p + d) : CurStep w W' g A n c p (d + d') := h.trans hs h0 h1
end Go.Proofs.Ytmnagjjpncancaa
