/- Chapter 2: a waterway that can't be split; both ways in one word. -/
import Derived.Test.YtomehioembakgaaWaySpI
namespace Go.Proofs.Ytomehioembakgaa
open Go.RowKit Go.PlainAid

set_option maxRecDepth 100000 in
set_option maxHeartbeats 2000000 in
theorem specSpl_no {w : World} {B : Nat} {A A2 : Option Addr} {n n2 : Nat} {rs : List (Int × Int × Int)} {zs : List Int} (c c2 : Nat) (h : IsWay w B A n A2 n2 rs zs) (hm : n ≤ maxLen) (hm2 : n2 ≤ 1048576) (k : Int) (hno : ¬ (goodW rs zs ∧ 0 ≤ k ∧ k ≤ (n2 : Int) - 1)) :
    Calls Try.prog 41 #[.agg #[.slice A n c, .slice A2 n2 c2], .int .i64 k] w (GivesTwo w [] [] [] [] false) := by
  have HG := Lib.hid (fun (b : Bool) (hy : goodW rs zs → b = true) (hn : ¬ goodW rs zs → b = false) (W : World) (hW : Below w.heap.size w W) => (good_two c c2 (h.below hW h.low) hm b hy hn).1)
  clear h
  have hba : Below w.heap.size w (((w.alloc (.cells #[.slice A n c, .slice A2 n2 c2] 27)).alloc (.cells #[.slice none 0 0, .slice none 0 0] 27)).alloc (.cells #[.slice none 0 0, .slice none 0 0] 27)) :=
    (((Below.refl _ _).alloc (Nat.le_refl _) _).alloc (by simp) _).alloc (by simp; omega) _
  have fin : ∀ w1, Below (w.heap.size + 1 + 1 + 1) (((w.alloc (.cells #[.slice A n c, .slice A2 n2 c2] 27)).alloc (.cells #[.slice none 0 0, .slice none 0 0] 27)).alloc (.cells #[.slice none 0 0, .slice none 0 0] 27)) w1 →
      w1.heap[w.heap.size + 1]? = some (.cells #[.slice none 0 0, .slice none 0 0] 27 (0, 0)) ∧ w1.heap[w.heap.size + 1 + 1]? = some (.cells #[.slice none 0 0, .slice none 0 0] 27 (0, 0)) ∧
      w1.cell? ⟨w.heap.size, 0, none⟩ = some (.slice A n c) ∧ w1.cell? ⟨w.heap.size, 1, none⟩ = some (.slice A2 n2 c2) ∧ Below w.heap.size w w1 := fun w1 hb =>
    ⟨(hb.block _ (by omega)).trans ((heap_alloc_old ((w.alloc (.cells #[.slice A n c, .slice A2 n2 c2] 27)).alloc (.cells #[.slice none 0 0, .slice none 0 0] 27)) _ (by simp)).trans (heap_alloc2_new w _ _)),
     (hb.block _ (by omega)).trans (by
      have := heap_alloc_new ((w.alloc (.cells #[.slice A n c, .slice A2 n2 c2] 27)).alloc (.cells #[.slice none 0 0, .slice none 0 0] 27)) (.cells #[.slice none 0 0, .slice none 0 0] 27)
      simpa using this),
     (hb.cell (by simp; omega)).trans ((World.cell?_alloc_lt _ _ _ (by simp; omega)).trans ((World.cell?_alloc_lt _ _ _ (by simp)).trans (by rw [cellNew]; rfl))),
     (hb.cell (by simp; omega)).trans ((World.cell?_alloc_lt _ _ _ (by simp; omega)).trans ((World.cell?_alloc_lt _ _ _ (by simp)).trans (by rw [cellNew]; rfl))),
     hba.trans (hb.mono (by omega))⟩
  have FIN := Lib.hid fin
  clear fin
  by_cases hg : goodW rs zs
  · have G := Lib.hid (HG.out true (fun _ => rfl) (fun g => absurd hg g))
    have LI0 : ∀ W, Calls Try.prog 56 #[.int .i64 k, .int .i64 0, .int .i64 ((n2 : Int) - 1)] W fun e w' => e = .returned (.bool false) ∧ W = w' := fun W => by
      have := l1In_any k 0 ((n2 : Int) - 1) W
      rwa [decide_eq_false (fun g => hno ⟨hg, g⟩)] at this
    have LI := Lib.hid LI0
    clear LI0 HG hno hg
    go_enter Try.func41, Try.ntmps41
    go_wp2_with fail
    refine (G.out _ hba).mono ?_
    rintro e w1 ⟨rfl, hb⟩
    simp only [World.size_alloc] at hb
    obtain ⟨s1, s2, c0, c1, hB⟩ := FIN.out w1 hb
    have e10 := cell_of_row w1 _ 0 _ _ _ s1
    have e11 := cell_of_row w1 _ 1 _ _ _ s1
    have e1f := frozen_of_row w1 _ 0 _ _ s1
    have e1g := frozen_of_row w1 _ 1 _ _ s1
    have e20 := cell_of_row w1 _ 0 _ _ _ s2
    have e21 := cell_of_row w1 _ 1 _ _ _ s2
    have e2f := frozen_of_row w1 _ 0 _ _ s2
    have e2g := frozen_of_row w1 _ 1 _ _ s2
    have S1 := Lib.hid s1
    have S2 := Lib.hid s2
    have HB := Lib.hid hB
    clear hb s1 s2 hB G
    go_wp2_with fail
    refine (LI.out _).mono ?_
    rintro e w2 ⟨rfl, rfl⟩
    go_wp2_with fail
    have t1 := heap_set2 (u' := .slice none 0 0) (v' := .slice none 0 0) S1.out
    have t2 := (Below.heap_setCell (w1.setCell ⟨w.heap.size + 1, 0, none⟩ (.slice none 0 0)) ⟨w.heap.size + 1, 1, none⟩ (.slice none 0 0) (w.heap.size + 1 + 1) (by show w.heap.size + 1 + 1 ≠ w.heap.size + 1; omega)).trans ((Below.heap_setCell w1 ⟨w.heap.size + 1, 0, none⟩ (.slice none 0 0) (w.heap.size + 1 + 1) (by show w.heap.size + 1 + 1 ≠ w.heap.size + 1; omega)).trans S2.out)
    obtain ⟨W5, hW5⟩ : ∃ W5, (w1.setCell ⟨w.heap.size + 1, 0, none⟩ (.slice none 0 0)).setCell ⟨w.heap.size + 1, 1, none⟩ (.slice none 0 0) = W5 := ⟨_, rfl⟩
    rw [hW5] at t1 t2 ⊢
    have t3 := heap_set2 (u' := .slice none 0 0) (v' := .slice none 0 0) t2
    have t4 := (Below.heap_setCell (W5.setCell ⟨w.heap.size + 1 + 1, 0, none⟩ (.slice none 0 0)) ⟨w.heap.size + 1 + 1, 1, none⟩ (.slice none 0 0) (w.heap.size + 1) (by show w.heap.size + 1 ≠ w.heap.size + 1 + 1; omega)).trans ((Below.heap_setCell W5 ⟨w.heap.size + 1 + 1, 0, none⟩ (.slice none 0 0) (w.heap.size + 1) (by show w.heap.size + 1 ≠ w.heap.size + 1 + 1; omega)).trans t1)
    refine bodyPost_ret (results_cells2 rfl _ _ (w.heap.size + 1) (w.heap.size + 1 + 1) [.slice none 0 0, .slice none 0 0] [.slice none 0 0, .slice none 0 0] _ rfl rfl
      (range2 (cell_of_row _ _ 0 _ _ _ t4) (cell_of_row _ _ 1 _ _ _ t4)) (range2 (cell_of_row _ _ 0 _ _ _ t3) (cell_of_row _ _ 1 _ _ _ t3)) Try.underlying27 rfl (by kernel_rfl) (by kernel_rfl)) rfl ?_
    subst hW5
    refine ⟨_, _, _, _, rfl, ⟨rfl, .inl ⟨rfl, rfl⟩⟩, ⟨rfl, .inl ⟨rfl, rfl⟩⟩, ⟨rfl, .inl ⟨rfl, rfl⟩⟩, ⟨rfl, .inl ⟨rfl, rfl⟩⟩, .inl rfl, .inl rfl, ?_⟩
    exact (((HB.out.setCell (p := ⟨w.heap.size + 1, 0, none⟩) (by show w.heap.size ≤ w.heap.size + 1; omega) _).setCell (p := ⟨w.heap.size + 1, 1, none⟩) (by show w.heap.size ≤ w.heap.size + 1; omega) _).setCell (p := ⟨w.heap.size + 1 + 1, 0, none⟩) (by show w.heap.size ≤ w.heap.size + 1 + 1; omega) _).setCell (p := ⟨w.heap.size + 1 + 1, 1, none⟩) (by show w.heap.size ≤ w.heap.size + 1 + 1; omega) _
  · have G := Lib.hid (HG.out false (fun g => absurd g hg) (fun _ => rfl))
    clear HG hno hg
    go_enter Try.func41, Try.ntmps41
    go_wp2_with fail
    refine (G.out _ hba).mono ?_
    rintro e w1 ⟨rfl, hb⟩
    simp only [World.size_alloc] at hb
    obtain ⟨s1, s2, c0, c1, hB⟩ := FIN.out w1 hb
    have e10 := cell_of_row w1 _ 0 _ _ _ s1
    have e11 := cell_of_row w1 _ 1 _ _ _ s1
    have e1f := frozen_of_row w1 _ 0 _ _ s1
    have e1g := frozen_of_row w1 _ 1 _ _ s1
    have e20 := cell_of_row w1 _ 0 _ _ _ s2
    have e21 := cell_of_row w1 _ 1 _ _ _ s2
    have e2f := frozen_of_row w1 _ 0 _ _ s2
    have e2g := frozen_of_row w1 _ 1 _ _ s2
    have S1 := Lib.hid s1
    have S2 := Lib.hid s2
    have HB := Lib.hid hB
    clear hb s1 s2 hB G
    go_wp2_with fail
    have t1 := heap_set2 (u' := .slice none 0 0) (v' := .slice none 0 0) S1.out
    have t2 := (Below.heap_setCell (w1.setCell ⟨w.heap.size + 1, 0, none⟩ (.slice none 0 0)) ⟨w.heap.size + 1, 1, none⟩ (.slice none 0 0) (w.heap.size + 1 + 1) (by show w.heap.size + 1 + 1 ≠ w.heap.size + 1; omega)).trans ((Below.heap_setCell w1 ⟨w.heap.size + 1, 0, none⟩ (.slice none 0 0) (w.heap.size + 1 + 1) (by show w.heap.size + 1 + 1 ≠ w.heap.size + 1; omega)).trans S2.out)
    obtain ⟨W5, hW5⟩ : ∃ W5, (w1.setCell ⟨w.heap.size + 1, 0, none⟩ (.slice none 0 0)).setCell ⟨w.heap.size + 1, 1, none⟩ (.slice none 0 0) = W5 := ⟨_, rfl⟩
    rw [hW5] at t1 t2 ⊢
    have t3 := heap_set2 (u' := .slice none 0 0) (v' := .slice none 0 0) t2
    have t4 := (Below.heap_setCell (W5.setCell ⟨w.heap.size + 1 + 1, 0, none⟩ (.slice none 0 0)) ⟨w.heap.size + 1 + 1, 1, none⟩ (.slice none 0 0) (w.heap.size + 1) (by show w.heap.size + 1 ≠ w.heap.size + 1 + 1; omega)).trans ((Below.heap_setCell W5 ⟨w.heap.size + 1 + 1, 0, none⟩ (.slice none 0 0) (w.heap.size + 1) (by show w.heap.size + 1 ≠ w.heap.size + 1 + 1; omega)).trans t1)
    refine bodyPost_ret (results_cells2 rfl _ _ (w.heap.size + 1) (w.heap.size + 1 + 1) [.slice none 0 0, .slice none 0 0] [.slice none 0 0, .slice none 0 0] _ rfl rfl
      (range2 (cell_of_row _ _ 0 _ _ _ t4) (cell_of_row _ _ 1 _ _ _ t4)) (range2 (cell_of_row _ _ 0 _ _ _ t3) (cell_of_row _ _ 1 _ _ _ t3)) Try.underlying27 rfl (by kernel_rfl) (by kernel_rfl)) rfl ?_
    subst hW5
    refine ⟨_, _, _, _, rfl, ⟨rfl, .inl ⟨rfl, rfl⟩⟩, ⟨rfl, .inl ⟨rfl, rfl⟩⟩, ⟨rfl, .inl ⟨rfl, rfl⟩⟩, ⟨rfl, .inl ⟨rfl, rfl⟩⟩, .inl rfl, .inl rfl, ?_⟩
    exact (((HB.out.setCell (p := ⟨w.heap.size + 1, 0, none⟩) (by show w.heap.size ≤ w.heap.size + 1; omega) _).setCell (p := ⟨w.heap.size + 1, 1, none⟩) (by show w.heap.size ≤ w.heap.size + 1; omega) _).setCell (p := ⟨w.heap.size + 1 + 1, 0, none⟩) (by show w.heap.size ≤ w.heap.size + 1 + 1; omega) _).setCell (p := ⟨w.heap.size + 1 + 1, 1, none⟩) (by show w.heap.size ≤ w.heap.size + 1 + 1; omega) _

set_option maxRecDepth 100000 in
set_option maxHeartbeats 2000000 in
theorem implSpl_no {w : World} {B : Nat} {A A2 : Option Addr} {n n2 : Nat} {rs : List (Int × Int × Int)} {zs : List Int} (c c2 : Nat) (h : IsWay w B A n A2 n2 rs zs) (hm : n ≤ maxLen) (hm2 : n2 ≤ 1048576) (k : Int) (hno : ¬ (goodW rs zs ∧ 0 ≤ k ∧ k ≤ (n2 : Int) - 1)) :
    Calls Try.prog 42 #[.agg #[.slice A n c, .slice A2 n2 c2], .int .i64 k] w (GivesTwo w [] [] [] [] false) := by
  have HG := Lib.hid (fun (b : Bool) (hy : goodW rs zs → b = true) (hn : ¬ goodW rs zs → b = false) (W : World) (hW : Below w.heap.size w W) => (good_two c c2 (h.below hW h.low) hm b hy hn).2)
  clear h
  have hba : Below w.heap.size w (((w.alloc (.cells #[.slice A n c, .slice A2 n2 c2] 27)).alloc (.cells #[.slice none 0 0, .slice none 0 0] 27)).alloc (.cells #[.slice none 0 0, .slice none 0 0] 27)) :=
    (((Below.refl _ _).alloc (Nat.le_refl _) _).alloc (by simp) _).alloc (by simp; omega) _
  have fin : ∀ w1, Below (w.heap.size + 1 + 1 + 1) (((w.alloc (.cells #[.slice A n c, .slice A2 n2 c2] 27)).alloc (.cells #[.slice none 0 0, .slice none 0 0] 27)).alloc (.cells #[.slice none 0 0, .slice none 0 0] 27)) w1 →
      w1.heap[w.heap.size + 1]? = some (.cells #[.slice none 0 0, .slice none 0 0] 27 (0, 0)) ∧ w1.heap[w.heap.size + 1 + 1]? = some (.cells #[.slice none 0 0, .slice none 0 0] 27 (0, 0)) ∧
      w1.cell? ⟨w.heap.size, 0, none⟩ = some (.slice A n c) ∧ w1.cell? ⟨w.heap.size, 1, none⟩ = some (.slice A2 n2 c2) ∧ Below w.heap.size w w1 := fun w1 hb =>
    ⟨(hb.block _ (by omega)).trans ((heap_alloc_old ((w.alloc (.cells #[.slice A n c, .slice A2 n2 c2] 27)).alloc (.cells #[.slice none 0 0, .slice none 0 0] 27)) _ (by simp)).trans (heap_alloc2_new w _ _)),
     (hb.block _ (by omega)).trans (by
      have := heap_alloc_new ((w.alloc (.cells #[.slice A n c, .slice A2 n2 c2] 27)).alloc (.cells #[.slice none 0 0, .slice none 0 0] 27)) (.cells #[.slice none 0 0, .slice none 0 0] 27)
      simpa using this),
     (hb.cell (by simp; omega)).trans ((World.cell?_alloc_lt _ _ _ (by simp; omega)).trans ((World.cell?_alloc_lt _ _ _ (by simp)).trans (by rw [cellNew]; rfl))),
     (hb.cell (by simp; omega)).trans ((World.cell?_alloc_lt _ _ _ (by simp; omega)).trans ((World.cell?_alloc_lt _ _ _ (by simp)).trans (by rw [cellNew]; rfl))),
     hba.trans (hb.mono (by omega))⟩
  have FIN := Lib.hid fin
  clear fin
  by_cases hg : goodW rs zs
  · have G := Lib.hid (HG.out true (fun _ => rfl) (fun g => absurd hg g))
    have LI0 : ∀ W, Calls Try.prog 54 #[.int .i64 k, .int .i64 0, .int .i64 ((n2 : Int) - 1)] W fun e w' => e = .returned (.bool false) ∧ W = w' := fun W => by
      have := inRange_any k 0 ((n2 : Int) - 1) W
      rwa [decide_eq_false (fun g => hno ⟨hg, g⟩)] at this
    have LI := Lib.hid LI0
    clear LI0 HG hno hg
    go_enter Try.func42, Try.ntmps42
    go_wp2_with fail
    refine (G.out _ hba).mono ?_
    rintro e w1 ⟨rfl, hb⟩
    simp only [World.size_alloc] at hb
    obtain ⟨s1, s2, c0, c1, hB⟩ := FIN.out w1 hb
    have e10 := cell_of_row w1 _ 0 _ _ _ s1
    have e11 := cell_of_row w1 _ 1 _ _ _ s1
    have e1f := frozen_of_row w1 _ 0 _ _ s1
    have e1g := frozen_of_row w1 _ 1 _ _ s1
    have e20 := cell_of_row w1 _ 0 _ _ _ s2
    have e21 := cell_of_row w1 _ 1 _ _ _ s2
    have e2f := frozen_of_row w1 _ 0 _ _ s2
    have e2g := frozen_of_row w1 _ 1 _ _ s2
    have S1 := Lib.hid s1
    have S2 := Lib.hid s2
    have HB := Lib.hid hB
    clear hb s1 s2 hB G
    go_wp2_with fail
    refine (LI.out _).mono ?_
    rintro e w2 ⟨rfl, rfl⟩
    go_wp2_with fail
    have t1 := heap_set2 (u' := .slice none 0 0) (v' := .slice none 0 0) S1.out
    have t2 := (Below.heap_setCell (w1.setCell ⟨w.heap.size + 1, 0, none⟩ (.slice none 0 0)) ⟨w.heap.size + 1, 1, none⟩ (.slice none 0 0) (w.heap.size + 1 + 1) (by show w.heap.size + 1 + 1 ≠ w.heap.size + 1; omega)).trans ((Below.heap_setCell w1 ⟨w.heap.size + 1, 0, none⟩ (.slice none 0 0) (w.heap.size + 1 + 1) (by show w.heap.size + 1 + 1 ≠ w.heap.size + 1; omega)).trans S2.out)
    obtain ⟨W5, hW5⟩ : ∃ W5, (w1.setCell ⟨w.heap.size + 1, 0, none⟩ (.slice none 0 0)).setCell ⟨w.heap.size + 1, 1, none⟩ (.slice none 0 0) = W5 := ⟨_, rfl⟩
    rw [hW5] at t1 t2 ⊢
    have t3 := heap_set2 (u' := .slice none 0 0) (v' := .slice none 0 0) t2
    have t4 := (Below.heap_setCell (W5.setCell ⟨w.heap.size + 1 + 1, 0, none⟩ (.slice none 0 0)) ⟨w.heap.size + 1 + 1, 1, none⟩ (.slice none 0 0) (w.heap.size + 1) (by show w.heap.size + 1 ≠ w.heap.size + 1 + 1; omega)).trans ((Below.heap_setCell W5 ⟨w.heap.size + 1 + 1, 0, none⟩ (.slice none 0 0) (w.heap.size + 1) (by show w.heap.size + 1 ≠ w.heap.size + 1 + 1; omega)).trans t1)
    refine bodyPost_ret (results_cells2 rfl _ _ (w.heap.size + 1) (w.heap.size + 1 + 1) [.slice none 0 0, .slice none 0 0] [.slice none 0 0, .slice none 0 0] _ rfl rfl
      (range2 (cell_of_row _ _ 0 _ _ _ t4) (cell_of_row _ _ 1 _ _ _ t4)) (range2 (cell_of_row _ _ 0 _ _ _ t3) (cell_of_row _ _ 1 _ _ _ t3)) Try.underlying27 rfl (by kernel_rfl) (by kernel_rfl)) rfl ?_
    subst hW5
    refine ⟨_, _, _, _, rfl, ⟨rfl, .inl ⟨rfl, rfl⟩⟩, ⟨rfl, .inl ⟨rfl, rfl⟩⟩, ⟨rfl, .inl ⟨rfl, rfl⟩⟩, ⟨rfl, .inl ⟨rfl, rfl⟩⟩, .inl rfl, .inl rfl, ?_⟩
    exact (((HB.out.setCell (p := ⟨w.heap.size + 1, 0, none⟩) (by show w.heap.size ≤ w.heap.size + 1; omega) _).setCell (p := ⟨w.heap.size + 1, 1, none⟩) (by show w.heap.size ≤ w.heap.size + 1; omega) _).setCell (p := ⟨w.heap.size + 1 + 1, 0, none⟩) (by show w.heap.size ≤ w.heap.size + 1 + 1; omega) _).setCell (p := ⟨w.heap.size + 1 + 1, 1, none⟩) (by show w.heap.size ≤ w.heap.size + 1 + 1; omega) _
  · have G := Lib.hid (HG.out false (fun g => absurd g hg) (fun _ => rfl))
    clear HG hno hg
    go_enter Try.func42, Try.ntmps42
    go_wp2_with fail
    refine (G.out _ hba).mono ?_
    rintro e w1 ⟨rfl, hb⟩
    simp only [World.size_alloc] at hb
    obtain ⟨s1, s2, c0, c1, hB⟩ := FIN.out w1 hb
    have e10 := cell_of_row w1 _ 0 _ _ _ s1
    have e11 := cell_of_row w1 _ 1 _ _ _ s1
    have e1f := frozen_of_row w1 _ 0 _ _ s1
    have e1g := frozen_of_row w1 _ 1 _ _ s1
    have e20 := cell_of_row w1 _ 0 _ _ _ s2
    have e21 := cell_of_row w1 _ 1 _ _ _ s2
    have e2f := frozen_of_row w1 _ 0 _ _ s2
    have e2g := frozen_of_row w1 _ 1 _ _ s2
    have S1 := Lib.hid s1
    have S2 := Lib.hid s2
    have HB := Lib.hid hB
    clear hb s1 s2 hB G
    go_wp2_with fail
    have t1 := heap_set2 (u' := .slice none 0 0) (v' := .slice none 0 0) S1.out
    have t2 := (Below.heap_setCell (w1.setCell ⟨w.heap.size + 1, 0, none⟩ (.slice none 0 0)) ⟨w.heap.size + 1, 1, none⟩ (.slice none 0 0) (w.heap.size + 1 + 1) (by show w.heap.size + 1 + 1 ≠ w.heap.size + 1; omega)).trans ((Below.heap_setCell w1 ⟨w.heap.size + 1, 0, none⟩ (.slice none 0 0) (w.heap.size + 1 + 1) (by show w.heap.size + 1 + 1 ≠ w.heap.size + 1; omega)).trans S2.out)
    obtain ⟨W5, hW5⟩ : ∃ W5, (w1.setCell ⟨w.heap.size + 1, 0, none⟩ (.slice none 0 0)).setCell ⟨w.heap.size + 1, 1, none⟩ (.slice none 0 0) = W5 := ⟨_, rfl⟩
    rw [hW5] at t1 t2 ⊢
    have t3 := heap_set2 (u' := .slice none 0 0) (v' := .slice none 0 0) t2
    have t4 := (Below.heap_setCell (W5.setCell ⟨w.heap.size + 1 + 1, 0, none⟩ (.slice none 0 0)) ⟨w.heap.size + 1 + 1, 1, none⟩ (.slice none 0 0) (w.heap.size + 1) (by show w.heap.size + 1 ≠ w.heap.size + 1 + 1; omega)).trans ((Below.heap_setCell W5 ⟨w.heap.size + 1 + 1, 0, none⟩ (.slice none 0 0) (w.heap.size + 1) (by show w.heap.size + 1 ≠ w.heap.size + 1 + 1; omega)).trans t1)
    refine bodyPost_ret (results_cells2 rfl _ _ (w.heap.size + 1) (w.heap.size + 1 + 1) [.slice none 0 0, .slice none 0 0] [.slice none 0 0, .slice none 0 0] _ rfl rfl
      (range2 (cell_of_row _ _ 0 _ _ _ t4) (cell_of_row _ _ 1 _ _ _ t4)) (range2 (cell_of_row _ _ 0 _ _ _ t3) (cell_of_row _ _ 1 _ _ _ t3)) Try.underlying27 rfl (by kernel_rfl) (by kernel_rfl)) rfl ?_
    subst hW5
    refine ⟨_, _, _, _, rfl, ⟨rfl, .inl ⟨rfl, rfl⟩⟩, ⟨rfl, .inl ⟨rfl, rfl⟩⟩, ⟨rfl, .inl ⟨rfl, rfl⟩⟩, ⟨rfl, .inl ⟨rfl, rfl⟩⟩, .inl rfl, .inl rfl, ?_⟩
    exact (((HB.out.setCell (p := ⟨w.heap.size + 1, 0, none⟩) (by show w.heap.size ≤ w.heap.size + 1; omega) _).setCell (p := ⟨w.heap.size + 1, 1, none⟩) (by show w.heap.size ≤ w.heap.size + 1; omega) _).setCell (p := ⟨w.heap.size + 1 + 1, 0, none⟩) (by show w.heap.size ≤ w.heap.size + 1 + 1; omega) _).setCell (p := ⟨w.heap.size + 1 + 1, 1, none⟩) (by show w.heap.size ≤ w.heap.size + 1 + 1; omega) _

theorem two_SplitWaterway (n n2 : Nat) (rs : List (Int × Int × Int)) (zs : List Int) (k : Int) (hl : rs.length = n) (hl2 : zs.length = n2) (hm : n ≤ maxLen) (hm2 : n2 ≤ 1048576) : ∃ (R : List (Int × Int × Int)) (Z : List Int) (R' : List (Int × Int × Int)) (Z' : List Int) (y : Bool), (R.length ≤ n ∧ Z.length ≤ n2 ∧ R'.length ≤ n ∧ Z'.length ≤ n2) ∧
    (∀ (w : World) (B : Nat) (A A2 : Option Addr) (c c2 : Nat), IsWay w B A n A2 n2 rs zs → n ≤ c → n2 ≤ c2 → Calls Try.prog 41 #[.agg #[.slice A n c, .slice A2 n2 c2], .int .i64 k] w (GivesTwo w R Z R' Z' y)) ∧
    (∀ (w : World) (B : Nat) (A A2 : Option Addr) (c c2 : Nat), IsWay w B A n A2 n2 rs zs → n ≤ c → n2 ≤ c2 → Calls Try.prog 42 #[.agg #[.slice A n c, .slice A2 n2 c2], .int .i64 k] w (GivesTwo w R Z R' Z' y)) := by
  by_cases hg : goodW rs zs ∧ 0 ≤ k ∧ k ≤ (n2 : Int) - 1
  · obtain ⟨q, rfl⟩ : ∃ q : Nat, k = (q : Int) := ⟨k.toNat, by omega⟩
    exact ⟨_, _, _, _, true, by simp only [List.length_take, List.length_drop]; omega, fun w B A A2 c c2 h hc hc2 => specSpl_ok c c2 hc hc2 h hm q (by omega) hg.1, fun w B A A2 c c2 h hc hc2 => implSpl_ok c c2 hc hc2 h hm q (by omega) hg.1⟩
  · exact ⟨[], [], [], [], false, by simp, fun w B A A2 c c2 h _ _ => specSpl_no c c2 h hm hm2 k hg, fun w B A A2 c c2 h _ _ => implSpl_no c c2 h hm hm2 k hg⟩
end Go.Proofs.Ytomehioembakgaa
