/- Chapter 6: the arguments that FnSeries draws; what calm runs and stuck sensors tell. -/
import Derived.Test.YteeljlpbijmhlaaSeDr
import Derived.Test.YteeljlpbijmhlaaSeY
import Derived.Test.YteeljlpbijmhlaaSeZ
namespace Go.Proofs.Yteeljlpbijmhlaa
open Go.RowKit Go.PlainAid Go.Sort
set_option linter.unusedVariables false
set_option linter.unusedSimpArgs false

/-- A drawn series and a drawn number. -/
def DrwS (w : World) (e : Ending) (w' : World) : Prop :=
  ∃ (g c q : Nat) (L : List Int) (z : Int), e = .returned (.tuple #[.slice (some ⟨g, 0, none⟩) q c, .int .i64 z]) ∧ q ≤ 30 ∧ q ≤ c ∧ IsI6 w' w'.heap.size (some ⟨g, 0, none⟩) q L ∧ Below w.heap.size w w'
theorem own_cap6 {w : World} {base g n c : Nat} {xs : List Value} (h : w.ownsRow base 3 1 (.slice (some ⟨g, 0, none⟩) n c) n xs) : n ≤ c := by
  rcases h.2 with ⟨e, -⟩ | ⟨g', cap, cur, e, -, -, h1, -⟩
  · cases e
  · injection e with e1 e2 e3
    omega
theorem OwnC.isI {w W : World} {g q c : Nat} (h : OwnC w W g q c) : q ≤ c ∧ ∃ L, IsI6 W W.heap.size (some ⟨g, 0, none⟩) q L := by
  obtain ⟨L, h1, h2⟩ := h
  exact ⟨own_cap6 h2, L, by have := h2.1; simpa using this, ownS_has h2, Nat.le_refl _⟩
set_option maxHeartbeats 1000000 in
theorem drawJ_any {w : World} {A : Option Addr} {n : Nat} {zs : List Int} {B : Nat} (c : Nat) (h : Code_ w A n zs B) :
    Calls Try.prog 54 #[.slice A n c] w (DrwS w) := by
  have H := Lib.hid (h.start c)
  have hbs := Lib.hid (fun w' (h : (w.alloc (.cells #[.slice A n c, .int .i64 0, .int .u64 0] 85)).grownBy w' (some w.heap.size)) => below_start h)
  clear h
  go_enter Try.func54, Try.ntmps54
  go_wp2_with fail
  refine (series_at H.out (by omega)).mono ?_
  rintro e w1 ⟨g1, q, c1, rfl, hq, ho, hs⟩
  obtain ⟨r5, r50, r51, H5⟩ := hs.at H.out
  have HS := Lib.hid hs
  have HO := Lib.hid ho
  have hgl := ho.g
  simp at hgl
  clear ho hs
  go_wp2_with fail
  refine (most6_at H5 (by omega)).mono ?_
  rintro e w2 ⟨z, rfl, hs2⟩
  have HO2 := Lib.hid (HO.out.kept hs2.grown (by omega))
  have HB := Lib.hid (hbs.out _ (HS.out.grown.trans hs2.grown))
  clear hs2 HO HS H5 r50 r51
  go_wp2_with fail
  refine bodyPost_ret (results_tmp2 rfl _ _ _) rfl ?_
  obtain ⟨hqc, L, hL⟩ := HO2.out.isI
  exact ⟨g1, c1, q, L, z, rfl, hq, hqc, hL, HB.out⟩
set_option maxHeartbeats 1000000 in
theorem drawL_any {w : World} {A : Option Addr} {n : Nat} {zs : List Int} {B : Nat} (c : Nat) (h : Code_ w A n zs B) :
    Calls Try.prog 53 #[.slice A n c] w (DrwS w) := by
  have C := Lib.hid (drawJ_any c h)
  clear h
  go_enter Try.func53, Try.ntmps53
  go_wp2_with fail
  refine C.out.mono ?_
  rintro e w1 ⟨g1, c1, q, L, z, rfl, h1, h2, h3, h4⟩
  have H3 := Lib.hid h3
  have H4 := Lib.hid h4
  clear h3 h4 C
  go_wp2_with fail
  refine bodyPost_ret (results_tmp2 rfl _ _ _) rfl ?_
  exact ⟨g1, c1, q, L, z, rfl, h1, h2, H3.out, H4.out⟩
set_option maxHeartbeats 1000000 in
theorem drawK_any {w : World} {A : Option Addr} {n : Nat} {zs : List Int} {B : Nat} (c : Nat) (h : Code_ w A n zs B) :
    Calls Try.prog 55 #[.slice A n c] w (DrwS w) := by
  have H := Lib.hid (h.start c)
  have hbs := Lib.hid (fun w' (h : (w.alloc (.cells #[.slice A n c, .int .i64 0, .int .u64 0] 85)).grownBy w' (some w.heap.size)) => below_start h)
  clear h
  go_enter Try.func55, Try.ntmps55
  go_wp2_with fail
  refine (series_at H.out (by omega)).mono ?_
  rintro e w1 ⟨g1, q, c1, rfl, hq, ho, hs⟩
  obtain ⟨r5, r50, r51, H5⟩ := hs.at H.out
  have HS := Lib.hid hs
  have HO := Lib.hid ho
  have hgl := ho.g
  have hw1 := hs.grown.size
  simp at hgl hw1
  clear ho hs
  have HH5 := Lib.hid H5
  go_wp2_with fail
  refine (pick_at (H5.kept (World.grownBy_alloc w1 _ none) (by simp) (fun r e => by cases e)) (by omega) 24 (by omega)).mono ?_
  rintro e w2 ⟨b1, b10, b11, rfl, hs1'⟩
  have hs1 : CurStep (w1.alloc (.cells (([2, 3, 4, 10, 20, 1, 21] : List Int).map (Value.int .i64)).toArray 3)) w2 w.heap.size A n c r5 2 := hs1'
  obtain ⟨q1, q10, q11, H1⟩ := (HH5.out.kept (World.grownBy_alloc w1 (.cells (([2, 3, 4, 10, 20, 1, 21] : List Int).map (Value.int .i64)).toArray 3) none) (by simp) (fun r e => by cases e)).step hs1
  have hp0 := HH5.out.p0
  have CA := Lib.hid (fun m c2 hm hm0 hm1 => among_cut [2, 3, 4, 10, 20, 1, 21] HH5.out hs1 hp0 (.inr trivial) q1 H1 (by omega) m c2 hm hm0 hm1)
  have HO2 := Lib.hid (HO.out.kept (hs1.pre).grown (by omega))
  have HS2 := Lib.hid (HS.out.grown.trans (hs1.pre).grown)
  clear hs1' hp0 HO HS
  rcases (show b1 / 11 = 0 ∨ b1 / 11 = 1 ∨ b1 / 11 = 2 by omega) with hd | hd | hd
  all_goals
    go_wp2_with fail
    refine (CA.out _ _ (by simp) (by omega) (by omega)).mono ?_
    rintro e w3 ⟨z, rfl, hs3⟩
    have HO3 := Lib.hid (HO2.out.kept hs3.grown (by omega))
    have HB := Lib.hid (hbs.out _ (HS2.out.trans hs3.grown))
    clear hs3
    go_wp2_with fail
    refine bodyPost_ret (results_tmp2 rfl _ _ _) rfl ?_
    obtain ⟨hqc, L, hL⟩ := HO3.out.isI
    exact ⟨g1, c1, q, L, z, rfl, hq, hqc, hL, HB.out⟩

/-- In a calm run there is no jump. -/
theorem calm_jump {zs : List Int} {q : Int} {a b : Nat} (h : calm zs q a b) (j : Nat) : ¬ jmpAt ((zs.drop a).take b) q j := by
  rintro ⟨h0, h1, h2⟩
  have hl : ((zs.drop a).take b).length ≤ b := by simp; omega
  have hget : ∀ i, i < b → ((zs.drop a).take b).getD i 0 = zs.getD (a + i) 0 := by intro i hi; simp [List.getD_eq_getElem?_getD, List.getElem?_take, hi]
  rw [hget _ (by omega), hget _ (by omega)] at h2
  have h3 := h.2 (a + (j - 1)) (a + j) (by omega) (by omega) (by omega) (by omega)
  have h4 := h.2 (a + j) (a + (j - 1)) (by omega) (by omega) (by omega) (by omega)
  omega
/-- Before the first jump there is none. -/
theorem first_jump {zs : List Int} {q : Int} {i : Nat} (hn : ∀ j, j < i → ¬ jmpAt zs q j) (j : Nat) : ¬ jmpAt (zs.take i) q j := by
  rintro ⟨h0, h1, h2⟩
  have hl : (zs.take i).length ≤ i := by simp; omega
  have hl2 : (zs.take i).length ≤ zs.length := by simp; omega
  have hget : ∀ k, k < i → (zs.take i).getD k 0 = zs.getD k 0 := by intro k hk; simp [List.getD_eq_getElem?_getD, List.getElem?_take, hk]
  rw [hget _ (by omega), hget _ (by omega)] at h2
  exact hn j (by omega) ⟨h0, by omega, h2⟩
theorem best_pos {zs : List Int} {q : Int} {a b : Nat} (hq : 0 ≤ q) (hz : 0 < zs.length) (h : BestK zs q zs.length a b) : 1 ≤ b ∧ calm zs q a b := by
  rcases h.2 with ⟨rfl, rfl⟩ | ⟨h1, h2, h3, -⟩
  · exact absurd (calm_one hz hq) (h.1 0 hz)
  · exact ⟨h2, h3⟩
theorem stuck_calm {zs : List Int} {n : Nat} (h0 : 0 < n) (h : stuckB zs n = true) : calm zs 0 (zs.length - n) n := by
  obtain ⟨h1, h2⟩ := of_decide_eq_true h
  refine ⟨by omega, fun a b q1 q2 q3 q4 => ?_⟩
  have e1 := h2 (a - (zs.length - n)) (by omega)
  have e2 := h2 (b - (zs.length - n)) (by omega)
  rw [show zs.length - n + (a - (zs.length - n)) = a by omega] at e1
  rw [show zs.length - n + (b - (zs.length - n)) = b by omega] at e2
  omega
theorem best_ge {zs : List Int} {q : Int} {a b i n : Nat} (h : BestK zs q zs.length a b) (hi : i < zs.length) (hc : calm zs q i n) : n ≤ b := by
  rcases Nat.lt_or_ge b n with c | c
  · exact absurd (calm_less hc (by omega)) (h.1 i hi)
  · exact c
end Go.Proofs.Yteeljlpbijmhlaa
