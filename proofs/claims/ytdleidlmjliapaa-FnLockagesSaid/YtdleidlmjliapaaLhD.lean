/- Chapter 8: what FnLockages draws. -/
import Derived.Test.YtdleidlmjliapaaLeC
namespace Go.Proofs.Ytdleidlmjliapaa
open Go.RowKit Go.PlainAid Go.Sort
set_option linter.unusedVariables false
set_option linter.unusedSimpArgs false

def DrwA (w : World) (e : Ending) (w' : World) : Prop :=
  ∃ (g1 q c1 : Nat) (vs : List TArrival), e = .returned (.slice (some ⟨g1, 0, none⟩) q c1) ∧ q ≤ 8 ∧ IsArrivals w' w'.heap.size (some ⟨g1, 0, none⟩) q vs ∧ Below w.heap.size w w'
set_option maxHeartbeats 1000000 in
theorem drawDel_any {w : World} {A : Option Addr} {n : Nat} {zs : List Int} {B : Nat} (c : Nat) (h : Code_ w A n zs B) :
    Calls Try.prog 19 #[.slice A n c] w (DrwO w) := by
  have C := Lib.hid (drawT_any c h)
  clear h
  go_enter Try.func19, Try.ntmps19
  go_wp2_with fail
  refine C.out.mono ?_
  rintro e w4 ⟨g1, q, c1, vs, hi, m, g2, q2, c2, os, rfl, hq, hq2, hcap, h1, h2, h3⟩
  have H1 := Lib.hid h1
  have H2 := Lib.hid h2
  have H3 := Lib.hid h3
  clear h1 h2 h3 C
  go_wp2_with fail
  refine bodyPost_ret (results_tmp4 rfl _ _ _) rfl ?_
  exact ⟨g1, q, c1, vs, hi, m, g2, q2, c2, os, rfl, hq, hq2, hcap, H1.out, H2.out, H3.out⟩
set_option maxHeartbeats 1000000 in
theorem drawAA_any {w : World} {A : Option Addr} {n : Nat} {zs : List Int} {B : Nat} (c : Nat) (h : Code_ w A n zs B) :
    Calls Try.prog 65 #[.slice A n c] w (DrwA w) := by
  have H := Lib.hid (h.start c)
  have hbs := Lib.hid (fun w' (h : (w.alloc (.cells #[.slice A n c, .int .i64 0, .int .u64 0] 65)).grownBy w' (some w.heap.size)) => below_start h)
  have C := Lib.hid (arrivals_at (h.start c) (by omega))
  clear h
  go_enter Try.func65, Try.ntmps65
  go_wp2_with fail
  refine C.out.mono ?_
  rintro e w1 ⟨g1, q, c1, rfl, hq, ⟨vs, hg1, hov⟩, hs⟩
  have HR := Lib.hid (own_Arrivals hov)
  have HB := Lib.hid (hbs.out _ hs.grown)
  clear hs hov H C
  go_wp2_with fail
  refine bodyPost_ret (results_tmp rfl _ _ _) rfl ?_
  exact ⟨g1, q, c1, vs, rfl, hq, HR.out, HB.out⟩
set_option maxHeartbeats 1000000 in
theorem drawFC_any {w : World} {A : Option Addr} {n : Nat} {zs : List Int} {B : Nat} (c : Nat) (h : Code_ w A n zs B) :
    Calls Try.prog 28 #[.slice A n c] w (DrwA w) := by
  have C := Lib.hid (drawAA_any c h)
  clear h
  go_enter Try.func28, Try.ntmps28
  go_wp2_with fail
  refine C.out.mono ?_
  rintro e w1 ⟨g1, q, c1, vs, rfl, hq, h1, h2⟩
  have H1 := Lib.hid h1
  have H2 := Lib.hid h2
  clear h1 h2 C
  go_wp2_with fail
  refine bodyPost_ret (results_tmp rfl _ _ _) rfl ?_
  exact ⟨g1, q, c1, vs, rfl, hq, H1.out, H2.out⟩
end Go.Proofs.Ytdleidlmjliapaa
