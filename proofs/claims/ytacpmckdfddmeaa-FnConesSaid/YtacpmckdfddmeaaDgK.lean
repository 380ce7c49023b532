/- Chapter 7: what FnCones draws; the most dangerous one has the most cones. -/
import Derived.Test.YtacpmckdfddmeaaDgJ
import Derived.Test.YtacpmckdfddmeaaDraw
namespace Go.Proofs.Ytacpmckdfddmeaa
open Go.RowKit Go.PlainAid Go.Sort
set_option linter.unusedVariables false
set_option linter.unusedSimpArgs false

theorem mostC_max (vs : List TCargo) : ∀ k j, j ≤ k → (vs.getD j noCargo).x2 ≤ (mostC vs k).x2
  | 0, j, h => by
    obtain rfl : j = 0 := by omega
    exact Int.le_refl _
  | k + 1, j, h => by
    have ih := mostC_max vs k
    rw [mostC]
    split
    · next hm =>
      unfold MoreD at hm
      rcases Nat.lt_succ_iff_lt_or_eq.1 (Nat.lt_succ_of_le h) with h1 | rfl
      · have := ih j (by omega)
        omega
      · exact Int.le_refl _
    · next hm =>
      unfold MoreD at hm
      rcases Nat.lt_succ_iff_lt_or_eq.1 (Nat.lt_succ_of_le h) with h1 | rfl
      · exact ih j (by omega)
      · omega

/-- Drawn vessels. -/
def DrwK (w : World) (e : Ending) (w' : World) : Prop :=
  ∃ (g c q : Nat) (vs : List TCargo), e = .returned (.slice (some ⟨g, 0, none⟩) q c) ∧ q ≤ 8 ∧ q ≤ c ∧ IsCargos w' w'.heap.size (some ⟨g, 0, none⟩) q vs ∧ Below w.heap.size w w'
/-- Drawn vessels and a drawn number. -/
def DrwKN (w : World) (e : Ending) (w' : World) : Prop :=
  ∃ (g c q : Nat) (vs : List TCargo) (z : Int), e = .returned (.tuple #[.slice (some ⟨g, 0, none⟩) q c, .int .i64 z]) ∧ q ≤ 8 ∧ q ≤ c ∧ IsCargos w' w'.heap.size (some ⟨g, 0, none⟩) q vs ∧ Below w.heap.size w w'
/-- Two drawn numbers. -/
def Drw2 (w : World) (e : Ending) (w' : World) : Prop :=
  ∃ (y z : Int), e = .returned (.tuple #[.int .i64 y, .int .i64 z]) ∧ Below w.heap.size w w'
theorem OwnK.is {w W : World} {g1 q c1 : Nat} (h : OwnK w W g1 q c1) : q ≤ c1 ∧ ∃ vs, IsCargos W W.heap.size (some ⟨g1, 0, none⟩) q vs := by
  obtain ⟨L, h1, h2⟩ := h
  exact ⟨own_capC h2, L, own_Cargos h2⟩
set_option maxHeartbeats 1000000 in
theorem drawL_any {w : World} {A : Option Addr} {n : Nat} {zs : List Int} {B : Nat} (c : Nat) (h : Code_ w A n zs B) :
    Calls Try.prog 77 #[.slice A n c] w (DrwK w) := by
  have H := Lib.hid (h.start c)
  have hbs := Lib.hid (fun w' (h : (w.alloc (.cells #[.slice A n c, .int .i64 0, .int .u64 0] 66)).grownBy w' (some w.heap.size)) => below_start h)
  have C := Lib.hid (cargos_at (h.start c) (by omega) 6 (by omega))
  clear h
  go_enter Try.func77, Try.ntmps77
  go_wp2_with fail
  refine C.out.mono ?_
  rintro e w1 ⟨g1, q, c1, rfl, hq, ho, hs⟩
  obtain ⟨hqc, vs, hvs⟩ := ho.is
  have HR := Lib.hid hvs
  have HB := Lib.hid (hbs.out _ hs.grown)
  clear hs ho hvs H C
  go_wp2_with fail
  refine bodyPost_ret (results_tmp rfl _ _ _) rfl ?_
  exact ⟨g1, c1, q, vs, rfl, hq, hqc, HR.out, HB.out⟩
set_option maxHeartbeats 1000000 in
theorem drawM_any {w : World} {A : Option Addr} {n : Nat} {zs : List Int} {B : Nat} (c : Nat) (h : Code_ w A n zs B) :
    Calls Try.prog 35 #[.slice A n c] w (DrwK w) := by
  have C := Lib.hid (drawL_any c h)
  clear h
  go_enter Try.func35, Try.ntmps35
  go_wp2_with fail
  refine C.out.mono ?_
  rintro e w1 ⟨g1, c1, q, vs, rfl, h1, h2, h3, h4⟩
  have H3 := Lib.hid h3
  have H4 := Lib.hid h4
  clear h3 h4 C
  go_wp2_with fail
  refine bodyPost_ret (results_tmp rfl _ _ _) rfl ?_
  exact ⟨g1, c1, q, vs, rfl, h1, h2, H3.out, H4.out⟩
set_option maxHeartbeats 2000000 in
theorem drawG_any {w : World} {A : Option Addr} {n : Nat} {zs : List Int} {B : Nat} (c : Nat) (h : Code_ w A n zs B) :
    Calls Try.prog 29 #[.slice A n c] w (Drw2 w) := by
  have H := Lib.hid (h.start c)
  have hbs := Lib.hid (fun w' (h : (w.alloc (.cells #[.slice A n c, .int .i64 0, .int .u64 0] 66)).grownBy w' (some w.heap.size)) => below_start h)
  clear h
  go_enter Try.func29, Try.ntmps29
  go_wp2_with fail
  refine (pick_at H.out (by omega) 5 (by omega)).mono ?_
  rintro e w1 ⟨b1, b10, b11, rfl, hs⟩
  obtain ⟨r5, r50, r51, H5⟩ := hs.at H.out
  have HS1 := Lib.hid hs.grown
  clear hs H
  have h15 : b1 ≤ 5 := by omega
  clear b11
  go_wp2_with fail
  refine (pick_at H5 (by omega) 12 (by omega)).mono ?_
  rintro e w2 ⟨b2, b20, b21, rfl, hs⟩
  obtain ⟨r6, r60, r61, H6⟩ := hs.at H5
  have HS2 := Lib.hid (HS1.out.trans hs.grown)
  have hd2 : 0 ≤ b2 / 11 ∧ b2 / 11 ≤ 1 := by omega
  clear hs H5 HS1 b21
  go_wp2_with fail
  refine (pick_at H6 (by omega) 5 (by omega)).mono ?_
  rintro e w3 ⟨b3, b30, b31, rfl, hs⟩
  obtain ⟨r7, r70, r71, H7⟩ := hs.at H6
  have HS3 := Lib.hid (HS2.out.trans hs.grown)
  have h35 : b3 ≤ 5 := by omega
  clear hs H6 HS2 b31
  go_wp2_with fail
  refine (pick_at H7 (by omega) 12 (by omega)).mono ?_
  rintro e w4 ⟨b4, b40, b41, rfl, hs⟩
  have HB := Lib.hid (hbs.out _ (HS3.out.trans hs.grown))
  have hd4 : 0 ≤ b4 / 11 ∧ b4 / 11 ≤ 1 := by omega
  clear hs H7 HS3 b41
  go_wp2_with fail
  refine bodyPost_ret (results_tmp2 rfl _ _ _) rfl ?_
  exact ⟨_, _, rfl, HB.out⟩
set_option maxHeartbeats 2000000 in
theorem drawY_any {w : World} {A : Option Addr} {n : Nat} {zs : List Int} {B : Nat} (c : Nat) (h : Code_ w A n zs B) :
    Calls Try.prog 32 #[.slice A n c] w (DrwKN w) := by
  have H := Lib.hid (h.start c)
  have hbs := Lib.hid (fun w' (h : (w.alloc (.cells #[.slice A n c, .int .i64 0, .int .u64 0] 66)).grownBy w' (some w.heap.size)) => below_start h)
  have C := Lib.hid (cargos_at (h.start c) (by omega) 6 (by omega))
  clear h
  go_enter Try.func32, Try.ntmps32
  go_wp2_with fail
  refine C.out.mono ?_
  rintro e w1 ⟨g1, q, c1, rfl, hq, ho, hs⟩
  obtain ⟨r5, r50, r51, H5⟩ := hs.at H.out
  have HS := Lib.hid hs
  have HO := Lib.hid ho
  have hgl := ho.g
  have hw1 := hs.grown.size
  simp at hgl hw1
  clear ho hs C
  have HH5 := Lib.hid H5
  go_wp2_with fail
  refine (pick_at (H5.kept (World.grownBy_alloc w1 _ none) (by simp) (fun r e => by cases e)) (by omega) 24 (by omega)).mono ?_
  rintro e w2 ⟨b1, b10, b11, rfl, hs1'⟩
  have hs1 : CurStep (w1.alloc (.cells (([0, 1, 200, 1000, -1, 1001] : List Int).map (Value.int .i64)).toArray 3)) w2 w.heap.size A n c r5 2 := hs1'
  obtain ⟨q1, q10, q11, H1⟩ := (HH5.out.kept (World.grownBy_alloc w1 (.cells (([0, 1, 200, 1000, -1, 1001] : List Int).map (Value.int .i64)).toArray 3) none) (by simp) (fun r e => by cases e)).step hs1
  have hp0 := HH5.out.p0
  have CA := Lib.hid (fun m c2 hm hm0 hm1 => among_cut [0, 1, 200, 1000, -1, 1001] HH5.out hs1 hp0 (.inr trivial) q1 H1 (by omega) m c2 hm hm0 hm1)
  have HO2 := Lib.hid (HO.out.kept (hs1.pre).grown (by omega))
  have HS2 := Lib.hid (HS.out.grown.trans (hs1.pre).grown)
  clear hs1' hp0 HO HS
  rcases (show b1 / 11 = 0 ∨ b1 / 11 = 1 ∨ b1 / 11 = 2 by omega) with hd | hd | hd
  all_goals
    go_wp2_with fail
    refine (CA.out _ _ (by simp) (by omega) (by omega)).mono ?_
    rintro e w3 ⟨z, rfl, hs3⟩
    have HO3 := Lib.hid (HO2.out.kept hs3.grown (by omega))
    have HB := Lib.hid (hbs.out _ (HS2.out.trans hs3.grown))
    obtain ⟨hqc, vs, hvs⟩ := HO3.out.is
    have HR := Lib.hid hvs
    clear hs3 hvs
    go_wp2_with fail
    refine bodyPost_ret (results_tmp2 rfl _ _ _) rfl ?_
    exact ⟨g1, c1, q, vs, z, rfl, hq, hqc, HR.out, HB.out⟩
end Go.Proofs.Ytacpmckdfddmeaa
