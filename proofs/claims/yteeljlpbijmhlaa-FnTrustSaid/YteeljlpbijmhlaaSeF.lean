/- Chapter 6: the arguments that FnTrust draws; what more faults tell. -/
import Derived.Test.YteeljlpbijmhlaaSeDB
import Derived.Test.YteeljlpbijmhlaaSeO
import Derived.Test.YteeljlpbijmhlaaSeK
namespace Go.Proofs.Yteeljlpbijmhlaa
open Go.RowKit Go.PlainAid Go.Sort
set_option linter.unusedVariables false
set_option linter.unusedSimpArgs false

/-- Drawn bounds. -/
def DrwB (w : World) (e : Ending) (w' : World) : Prop :=
  ∃ (g c q : Nat) (vs : List TBound), e = .returned (.slice (some ⟨g, 0, none⟩) q c) ∧ q ≤ 10 ∧ q ≤ c ∧ IsBounds w' w'.heap.size (some ⟨g, 0, none⟩) q vs ∧ Below w.heap.size w w'
/-- Drawn bounds and a drawn number. -/
def DrwT (w : World) (e : Ending) (w' : World) : Prop :=
  ∃ (g c q : Nat) (vs : List TBound) (z : Int), e = .returned (.tuple #[.slice (some ⟨g, 0, none⟩) q c, .int .i64 z]) ∧ q ≤ 10 ∧ q ≤ c ∧ -1 ≤ z ∧ z ≤ 10 ∧ IsBounds w' w'.heap.size (some ⟨g, 0, none⟩) q vs ∧ Below w.heap.size w w'
set_option maxHeartbeats 1000000 in
theorem drawC_any {w : World} {A : Option Addr} {n : Nat} {zs : List Int} {B : Nat} (c : Nat) (h : Code_ w A n zs B) :
    Calls Try.prog 58 #[.slice A n c] w (DrwB w) := by
  have H := Lib.hid (h.start c)
  have hbs := Lib.hid (fun w' (h : (w.alloc (.cells #[.slice A n c, .int .i64 0, .int .u64 0] 85)).grownBy w' (some w.heap.size)) => below_start h)
  clear h
  go_enter Try.func58, Try.ntmps58
  go_wp2_with fail
  refine (bounds_at H.out (by omega)).mono ?_
  rintro e w1 ⟨g1, q, c1, vs, rfl, hq, hqc, hne, hr, hs⟩
  have HR := Lib.hid hr
  have HB := Lib.hid (hbs.out _ hs.grown)
  clear hs hr H
  go_wp2_with fail
  refine bodyPost_ret (results_tmp rfl _ _ _) rfl ?_
  exact ⟨g1, c1, q, vs, rfl, hq, hqc, HR.out.isB, HB.out⟩
set_option maxHeartbeats 1000000 in
theorem drawF_any {w : World} {A : Option Addr} {n : Nat} {zs : List Int} {B : Nat} (c : Nat) (h : Code_ w A n zs B) :
    Calls Try.prog 57 #[.slice A n c] w (DrwB w) := by
  have C := Lib.hid (drawC_any c h)
  clear h
  go_enter Try.func57, Try.ntmps57
  go_wp2_with fail
  refine C.out.mono ?_
  rintro e w1 ⟨g1, c1, q, vs, rfl, h1, h2, h3, h4⟩
  have H3 := Lib.hid h3
  have H4 := Lib.hid h4
  clear h3 h4 C
  go_wp2_with fail
  refine bodyPost_ret (results_tmp rfl _ _ _) rfl ?_
  exact ⟨g1, c1, q, vs, rfl, h1, h2, H3.out, H4.out⟩
set_option maxHeartbeats 1000000 in
theorem drawT_any {w : World} {A : Option Addr} {n : Nat} {zs : List Int} {B : Nat} (c : Nat) (h : Code_ w A n zs B) :
    Calls Try.prog 56 #[.slice A n c] w (DrwT w) := by
  have H := Lib.hid (h.start c)
  have hbs := Lib.hid (fun w' (h : (w.alloc (.cells #[.slice A n c, .int .i64 0, .int .u64 0] 85)).grownBy w' (some w.heap.size)) => below_start h)
  clear h
  go_enter Try.func56, Try.ntmps56
  go_wp2_with fail
  refine (bounds_at H.out (by omega)).mono ?_
  rintro e w1 ⟨g1, q, c1, vs, rfl, hq, hqc, hne, hr, hs⟩
  obtain ⟨r5, r50, r51, H5⟩ := hs.at H.out
  have HR := Lib.hid hr
  have HS := Lib.hid hs
  clear hs hr
  go_wp2_with fail
  refine (pick_at H5 (by omega) ((q : Int) + 1) (by omega)).mono ?_
  rintro e w2 ⟨b2, b20, b21, rfl, hs2⟩
  obtain ⟨r6, r60, r61, H6⟩ := hs2.at H5
  have HR2 := Lib.hid (HR.out.kept hs2.grown hne)
  have HS2 := Lib.hid (HS.out.grown.trans hs2.grown)
  have hb2 : b2 ≤ 10 := by omega
  clear hs2 HR HS H5 b21
  go_wp2_with fail
  refine (pick_at H6 (by omega) 16 (by omega)).mono ?_
  rintro e w3 ⟨b3, b30, b31, rfl, hs3⟩
  have HR3 := Lib.hid (HR2.out.kept hs3.grown hne)
  have HB := Lib.hid (hbs.out _ (HS2.out.trans hs3.grown))
  have hd : 0 ≤ b3 / 15 ∧ b3 / 15 ≤ 1 := by omega
  clear hs3 HR2 HS2 H6 H hbs b31
  go_wp2_with fail
  refine bodyPost_ret (results_tmp2 rfl _ _ _) rfl ?_
  exact ⟨g1, c1, q, vs, _, rfl, hq, hqc, by omega, by omega, HR3.out.isB, HB.out⟩

theorem highK_mono {vs : List TBound} {m m' : Nat} (h : m' ≤ m) : ∀ k, highK vs m k ≤ highK vs m' k
  | 0 => Int.le_refl _
  | k + 1 => by
    have ih := highK_mono (vs := vs) h k
    by_cases c : m ≤ cntB vs (vs.getD k noBound).x1
    · rw [highK_yes c, highK_yes (Nat.le_trans h c)]
      omega
    · rw [highK_no c]
      by_cases d : m' ≤ cntB vs (vs.getD k noBound).x1
      · rw [highK_yes d]; omega
      · rw [highK_no d]; exact ih
theorem lowK_mono {vs : List TBound} {m m' : Nat} (h : m' ≤ m) : ∀ k, lowK vs m' k ≤ lowK vs m k
  | 0 => Int.le_refl _
  | k + 1 => by
    have ih := lowK_mono (vs := vs) h k
    by_cases c : m ≤ cntB vs (vs.getD k noBound).x0
    · rw [lowK_yes c, lowK_yes (Nat.le_trans h c)]
      omega
    · rw [lowK_no c]
      by_cases d : m' ≤ cntB vs (vs.getD k noBound).x0
      · rw [lowK_yes d]; omega
      · rw [lowK_no d]; exact ih
theorem tru_true {vs : List TBound} {f R0 R1 : Int} (h : TruA vs f R0 R1 true) : (bndS vs ∧ 0 ≤ f ∧ f ≤ (vs.length : Int) - 1 ∧ hasK vs (vs.length - f.toNat) vs.length) ∧ R0 = lowK vs (vs.length - f.toNat) vs.length ∧ R1 = highK vs (vs.length - f.toNat) vs.length := by
  by_cases g : bndS vs ∧ 0 ≤ f ∧ f ≤ (vs.length : Int) - 1 ∧ hasK vs (vs.length - f.toNat) vs.length
  · exact ⟨g, (h.1 g).1, (h.1 g).2.1⟩
  · have := (h.2 g).2.2
    cases this
theorem tru_wider {vs : List TBound} {f R0 R1 S0 S1 : Int} (h : TruA vs f R0 R1 true) (h' : TruA vs (f + 1) S0 S1 true) : S0 ≤ R0 ∧ R1 ≤ S1 := by
  obtain ⟨g, rfl, rfl⟩ := tru_true h
  obtain ⟨g', rfl, rfl⟩ := tru_true h'
  have h0 := g.2.1
  exact ⟨lowK_mono (by omega) _, highK_mono (by omega) _⟩
theorem few_true {vs : List TBound} {m R0 R1 : Int} {y : Bool} (h : FewA vs m true) (ht : TruA vs m R0 R1 y) : y = true := by
  rcases h with ⟨-, hs, f, rfl, h1, h2, -⟩ | ⟨h, -⟩
  · exact (ht.1 ⟨hs, by omega, by omega, by rw [Int.toNat_natCast]; exact h2⟩).2.2
  · cases h
theorem few_false {vs : List TBound} {m R0 R1 : Int} {y : Bool} (h : FewA vs m true) (ht : TruA vs (m - 1) R0 R1 y) : y = false := by
  rcases h with ⟨-, hs, f, rfl, h1, h2, h3⟩ | ⟨h, -⟩
  · refine (ht.2 (fun g => ?_)).2.2
    obtain ⟨-, g1, g2, g3⟩ := g
    obtain ⟨p, rfl⟩ : ∃ p, f = p + 1 := ⟨f - 1, by omega⟩
    rw [show ((((p + 1 : Nat) : Int) - 1).toNat) = p by omega] at g3
    exact h3 p (by omega) g3
  · cases h
theorem few_in {vs : List TBound} {m : Int} {x : Bool} (h : FewA vs m x) : 0 ≤ m ∧ m ≤ 8 := by
  rcases h with ⟨-, hs, f, rfl, h1, -⟩ | ⟨-, rfl, -⟩
  · have := hs.2.2; omega
  · omega
/-- The bound in common is the trusted one without faults. -/
theorem com_tru {vs : List TBound} {R0 R1 : Int} {x : Bool} (h : ComA vs R0 R1 x) : TruA vs 0 R0 R1 x := by
  have e : vs.length - (0 : Int).toNat = vs.length := by simp
  unfold TruA
  rw [e]
  exact ⟨fun g => h.1 ⟨g.1, g.2.2.2⟩, fun g => h.2 (fun q => g ⟨q.1, by omega, by have := q.1.2.1; omega, q.2⟩)⟩
end Go.Proofs.Yteeljlpbijmhlaa
