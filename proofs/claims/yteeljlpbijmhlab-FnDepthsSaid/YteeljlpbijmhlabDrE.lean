/- The draws of chapter 3: an Id of a drawn list; what is asked of lists. -/
import Derived.Test.YteeljlpbijmhlabDrD
namespace Go.Proofs.Yteeljlpbijmhlab
open Go.RowKit Go.PlainAid Go.Sort
set_option linter.unusedVariables false
set_option linter.unusedSimpArgs false

theorem addZV (g k : Nat) : (⟨g, 0, none⟩ : Addr).add k = ⟨g, k, none⟩ := by
  unfold Addr.add
  split
  · next h => subst h; rfl
  · simp
set_option maxHeartbeats 1000000 in
theorem vesselId_at {g : Nat} {A : Option Addr} {n c : Nat} {p : Int} {zs : List Int} {B : Nat} {w0 w : World} (h : CurAt w g A n c p zs B) (hp : p ≤ 800000000) {g1 q c1 : Nat} (ho : OwnVs w0 w g1 q c1) (hg : g < w0.heap.size) (hq : q ≤ 10) :
    Calls Try.prog 54 #[.pointer (some ⟨g, 0, none⟩), .slice (some ⟨g1, 0, none⟩) q c1] w fun e w' => ∃ z : Int, e = .returned (.int .i64 z) ∧ CurStep w w' g A n c p 10 := by
  have H := Lib.hid h
  have O := Lib.hid ho
  have hp0 := h.p0
  by_cases h0 : q = 0
  · subst h0
    clear h ho
    go_enter Try.func54, Try.ntmps54
    have H9 := Lib.hid H.out
    go_wp2_with fail
    refine (among_new H9.out (by omega) [0, 1, 50] 3 rfl (by omega) (by omega) w.heap.size rfl).mono ?_
    rintro e w9 ⟨z9, -, rfl, hs⟩
    have S9 := Lib.hid hs
    clear hs
    go_wp2_with fail
    refine bodyPost_ret (results_tmp rfl _ _ _) rfl ?_
    exact ⟨z9, rfl, S9.out.mono (by omega)⟩
  · have hq0 : ((q : Int) == 0) = false := by rw [beq_eq_false_iff_ne]; omega
    clear h ho
    go_enter Try.func54, Try.ntmps54
    go_wp2_with fail
    refine (one_at H.out (by omega) 8 (by omega)).mono ?_
    rintro e w1 ⟨b1, rfl, hs⟩
    have S1 := Lib.hid hs
    have O1 := Lib.hid (O.out.kept hs.grown hg)
    clear hs O
    obtain ⟨r5, r50, r51, H5⟩ := S1.out.at H.out
    cases b1 with
    | true =>
      have H9 := Lib.hid H5
      go_wp2_with fail
      refine (among_new H9.out (by omega) [0, 1, 50] 3 rfl (by omega) (by omega) w1.heap.size rfl).mono ?_
      rintro e w9 ⟨z9, -, rfl, hs⟩
      have S9 := Lib.hid (S1.out.then hs r50 r51)
      clear hs
      go_wp2_with fail
      refine bodyPost_ret (results_tmp rfl _ _ _) rfl ?_
      exact ⟨z9, rfl, S9.out.mono (by omega)⟩
    | false =>
      go_wp2_with fail
      refine (pick_at H5 (by omega) q (by omega)).mono ?_
      rintro e w2 ⟨b2, b20, b21, rfl, hs⟩
      obtain ⟨k, rfl⟩ : ∃ k : Nat, b2 = (k : Int) := ⟨b2.toNat, by omega⟩
      have S2 := Lib.hid (S1.out.then hs r50 r51)
      have O2 := Lib.hid (O1.out.kept hs.grown hg)
      obtain ⟨-, vs, hvs⟩ := O2.out.isV
      obtain ⟨a, ha, -, e0, -⟩ := hvs.has.vesAt (k := k) (by rw [hvs.len]; omega)
      injection ha with ha
      subst ha
      generalize (vs[k]'(by rw [hvs.len]; omega)).id = z at e0
      have e0' := e0
      rw [addZV] at e0'
      have hk0 : (0 : Int) ≤ (k : Int) := by omega
      have hk1 : (k : Int) < (q : Int) := by omega
      clear hs S1 O1 O2 H5 r50 r51 hvs
      go_wp2_with fail
      refine bodyPost_ret (results_tmp rfl _ _ _) rfl ?_
      exact ⟨z, rfl, S2.out.mono (by omega)⟩
theorem memBy {z : Int} (h : z ∈ [1, 50, 70, 200, 450, 0, -1, 451]) : z ≤ 2000 := by
  simp only [List.mem_cons, List.not_mem_nil, or_false] at h
  omega
set_option maxHeartbeats 1000000 in
theorem drawLig_any {w : World} {A : Option Addr} {n : Nat} {zs : List Int} {B : Nat} (c : Nat) (h : Code_ w A n zs B) :
    Calls Try.prog 7 #[.slice A n c] w (DrwV2 (fun z => z ≤ 2000) w) := by
  have H := Lib.hid (h.start c)
  have hbs := Lib.hid (fun w' (h : (w.alloc (.cells #[.slice A n c, .int .i64 0, .int .u64 0] 75)).grownBy w' (some w.heap.size)) => below_start h)
  clear h
  go_enter Try.func7, Try.ntmps7
  go_wp2_with fail
  refine (vessels_at H.out (by omega) 6 (by omega)).mono ?_
  rintro e w1 ⟨g1, q, c1, rfl, hq, ho, hs⟩
  obtain ⟨r5, r50, r51, H5⟩ := hs.at H.out
  have HS := Lib.hid hs
  have HO := Lib.hid ho
  have CV := Lib.hid (vesselId_at H5 (by omega) ho (by simp) hq)
  clear ho hs
  go_wp2_with fail
  refine CV.out.mono ?_
  rintro e w2 ⟨z1, rfl, hs⟩
  have HS2 := Lib.hid (HS.out.then hs r50 r51)
  have HO2 := Lib.hid (HO.out.kept hs.grown (by simp))
  clear hs HS HO CV H5 r50 r51
  obtain ⟨r5, r50, r51, H5⟩ := HS2.out.at H.out
  go_wp2_with fail
  refine (among_new H5 (by omega) [1, 50, 70, 200, 450, 0, -1, 451] 8 rfl (by omega) (by omega) w2.heap.size rfl).mono ?_
  rintro e w3 ⟨z2, hz2, rfl, hs⟩
  have hz := memBy hz2
  have HO3 := Lib.hid (HO2.out.kept hs.grown (by simp))
  have HB := Lib.hid (hbs.out _ (HS2.out.grown.trans hs.grown))
  clear hs HS2 HO2 H5 r50 r51 hz2
  go_wp2_with fail
  refine bodyPost_ret (results_tmp3 rfl _ _ _) rfl ?_
  obtain ⟨hqc, L, hL⟩ := HO3.out.isV
  exact ⟨g1, c1, q, L, z1, z2, rfl, hz, by omega, hqc, hL, HB.out⟩
set_option maxRecDepth 100000 in
set_option maxHeartbeats 4000000 in
theorem drawPas_any {w : World} {A : Option Addr} {n : Nat} {zs : List Int} {B : Nat} (c : Nat) (h : Code_ w A n zs B) :
    Calls Try.prog 11 #[.slice A n c] w (DrwV2 (fun _ => True) w) := by
  have H := Lib.hid (h.start c)
  have hbs := Lib.hid (fun w' (h : (w.alloc (.cells #[.slice A n c, .int .i64 0, .int .u64 0] 75)).grownBy w' (some w.heap.size)) => below_start h)
  clear h
  go_enter Try.func11, Try.ntmps11
  go_wp2_with fail
  refine (vessels_at H.out (by omega) 6 (by omega)).mono ?_
  rintro e w1 ⟨g1, q, c1, rfl, hq, ho, hs⟩
  obtain ⟨r5, r50, r51, H5⟩ := hs.at H.out
  have HS := Lib.hid hs
  have HO := Lib.hid ho
  clear ho hs
  -- one of a list whose length is drawn
  have HHa := Lib.hid H5
  go_wp2_with fail
  refine (pick_at (H5.kept (World.grownBy_alloc w1 _ none) (by simp) (fun r e => by cases e)) (by omega) 24 (by omega)).mono ?_
  rintro e w2a ⟨b1, b10, b11, rfl, hs1'⟩
  have hs1 : CurStep (w1.alloc (.cells (([0, 120, 250, 300, 350, 1000, -1, 1001] : List Int).map (Value.int .i64)).toArray 3)) w2a w.heap.size A n c r5 2 := hs1'
  obtain ⟨q1, q10, q11, H1⟩ := (HHa.out.kept (World.grownBy_alloc w1 (.cells (([0, 120, 250, 300, 350, 1000, -1, 1001] : List Int).map (Value.int .i64)).toArray 3) none) (by simp) (fun r e => by cases e)).step hs1
  have hp0 := HHa.out.p0
  have CA := Lib.hid (fun m c2 hm hm0 hm1 => among_cut [0, 120, 250, 300, 350, 1000, -1, 1001] HHa.out hs1 hp0 (.inr trivial) q1 H1 (by omega) m c2 hm hm0 hm1)
  have HO2a := Lib.hid (HO.out.kept (hs1.pre).grown (by simp))
  have HS2a := Lib.hid (HS.out.then hs1.pre r50 r51)
  clear hs1' hp0 HO HS H5
  rcases (show b1 / 11 = 0 ∨ b1 / 11 = 1 ∨ b1 / 11 = 2 by omega) with hd | hd | hd
  all_goals
    go_wp2_with fail
    refine (CA.out _ _ (by simp) (by omega) (by omega)).mono ?_
    rintro e w3 ⟨z1, rfl, hs⟩
    have HO3 := Lib.hid (HO2a.out.kept hs.grown (by simp))
    have HS3 := Lib.hid (HS2a.out.trans hs (by omega) (by omega))
    clear hs CA HO2a HS2a H1 q10 q11 HHa hd
    clear r50 r51 hs1
    obtain ⟨r5, r50, r51, H5⟩ := HS3.out.at H.out
    -- one of a list whose length is drawn
    have HHb := Lib.hid H5
    go_wp2_with fail
    refine (pick_at (H5.kept (World.grownBy_alloc w3 _ none) (by simp) (fun r e => by cases e)) (by omega) 24 (by omega)).mono ?_
    rintro e w2b ⟨b1, b10, b11, rfl, hs1'⟩
    have hs1 : CurStep (w3.alloc (.cells (([0, 20, 50, 100, -1, 101] : List Int).map (Value.int .i64)).toArray 3)) w2b w.heap.size A n c r5 2 := hs1'
    obtain ⟨q1, q10, q11, H1⟩ := (HHb.out.kept (World.grownBy_alloc w3 (.cells (([0, 20, 50, 100, -1, 101] : List Int).map (Value.int .i64)).toArray 3) none) (by simp) (fun r e => by cases e)).step hs1
    have hp0 := HHb.out.p0
    have CA := Lib.hid (fun m c2 hm hm0 hm1 => among_cut [0, 20, 50, 100, -1, 101] HHb.out hs1 hp0 (.inr trivial) q1 H1 (by omega) m c2 hm hm0 hm1)
    have HO2b := Lib.hid (HO3.out.kept (hs1.pre).grown (by simp))
    have HS2b := Lib.hid (HS3.out.then hs1.pre r50 r51)
    clear hs1' hp0 HO3 HS3 H5
    rcases (show b1 / 11 = 0 ∨ b1 / 11 = 1 ∨ b1 / 11 = 2 by omega) with hd | hd | hd
    all_goals
      go_wp2_with fail
      refine (CA.out _ _ (by simp) (by omega) (by omega)).mono ?_
      rintro e w4 ⟨z2, rfl, hs⟩
      have HO4 := Lib.hid (HO2b.out.kept hs.grown (by simp))
      have HB := Lib.hid (hbs.out _ (HS2b.out.grown.trans hs.grown))
      clear hs CA HO2b HS2b H1 HHb
      go_wp2_with fail
      refine bodyPost_ret (results_tmp3 rfl _ _ _) rfl ?_
      obtain ⟨hqc, L, hL⟩ := HO4.out.isV
      exact ⟨g1, c1, q, L, z1, z2, rfl, trivial, by omega, hqc, hL, HB.out⟩
end Go.Proofs.Yteeljlpbijmhlab
