/- Chapter 2: two waterways joined, both ways in one word. -/
import Derived.Test.YtomehioembakgaaWayJi
namespace Go.Proofs.Ytomehioembakgaa
open Go.RowKit Go.PlainAid

/-- Two cells more. -/
theorem St.two {w W : World} {cs : List (Nat × Nat × Value)} {rows : List RowOf} {g : Nat} {u v : Value} (h : St w cs rows W) (h0 : w.heap.size ≤ g) (h1 : W.cell? ⟨g, 0, none⟩ = some u) (h2 : W.cell? ⟨g, 1, none⟩ = some v) : St w ((g, 0, u) :: (g, 1, v) :: cs) rows W :=
  h.cells (ds := [(g, 0, u), (g, 1, v)]) (List.forall_mem_cons.2 ⟨⟨h0, h1⟩, List.forall_mem_cons.2 ⟨⟨h0, h2⟩, by simp⟩⟩)

set_option maxRecDepth 100000 in
set_option maxHeartbeats 4000000 in
theorem specJn_no {w : World} {B B' : Nat} {A1 A2 D1 D2 : Option Addr} {n n2 m m2 : Nat} {rs : List (Int × Int × Int)} {zs : List Int} {ts : List (Int × Int × Int)} {ys : List Int} (c c2 e' e2 : Nat) (h : IsWay w B A1 n A2 n2 rs zs) (k : IsWay w B' D1 m D2 m2 ts ys) (hm : n ≤ maxLen) (hm' : m ≤ maxLen) (rise : Int) (hno : ¬ (goodW rs zs ∧ goodW ts ys)) :
    Calls Try.prog 44 #[.agg #[.slice A1 n c, .slice A2 n2 c2], .agg #[.slice D1 m e', .slice D2 m2 e2], .int .i64 rise] w (GivesOne w [] [] false) := by
  have HG := Lib.hid (fun (b : Bool) (hy : goodW rs zs → b = true) (hn : ¬ goodW rs zs → b = false) (W : World) (hW : Below w.heap.size w W) => (good_two c c2 (h.below hW h.low) hm b hy hn).1)
  have HK := Lib.hid (fun (b : Bool) (hy : goodW ts ys → b = true) (hn : ¬ goodW ts ys → b = false) (W : World) (hW : Below w.heap.size w W) => (good_two e' e2 (k.below hW k.low) hm' b hy hn).1)
  clear h k
  have hba : Below w.heap.size w (((w.alloc (.cells #[.slice A1 n c, .slice A2 n2 c2] 27)).alloc (.cells #[.slice D1 m e', .slice D2 m2 e2] 27)).alloc (.cells #[.slice none 0 0, .slice none 0 0] 27)) :=
    (((Below.refl _ _).alloc (Nat.le_refl _) _).alloc (by simp) _).alloc (by simp; omega) _
  by_cases hg : goodW rs zs
  · have G := Lib.hid (HG.out true (fun _ => rfl) (fun g => absurd hg g))
    have K := Lib.hid (HK.out false (fun g => absurd ⟨hg, g⟩ hno) (fun _ => rfl))
    clear HG HK hno hg
    go_enter Try.func44, Try.ntmps44
    go_wp2_with fail
    refine (G.out _ hba).mono ?_
    rintro e w1 ⟨rfl, hb⟩
    simp only [World.size_alloc] at hb
    have k0 : w1.cell? ⟨w.heap.size + 1, 0, none⟩ = some (.slice D1 m e') := (hb.cell (by simp)).trans ((World.cell?_alloc_lt _ _ _ (by simp)).trans (by rw [show w.heap.size + 1 = (w.alloc (.cells #[.slice A1 n c, .slice A2 n2 c2] 27)).heap.size by simp]; rw [cellNew]; try rfl))
    have k1 : w1.cell? ⟨w.heap.size + 1, 1, none⟩ = some (.slice D2 m2 e2) := (hb.cell (by simp)).trans ((World.cell?_alloc_lt _ _ _ (by simp)).trans (by rw [show w.heap.size + 1 = (w.alloc (.cells #[.slice A1 n c, .slice A2 n2 c2] 27)).heap.size by simp]; rw [cellNew]; try rfl))
    have r1 : w1.heap[w.heap.size + 1 + 1]? = some (.cells #[.slice none 0 0, .slice none 0 0] 27 (0, 0)) := (hb.block _ (by omega)).trans (by
      have := heap_alloc_new ((w.alloc (.cells #[.slice A1 n c, .slice A2 n2 c2] 27)).alloc (.cells #[.slice D1 m e', .slice D2 m2 e2] 27)) (.cells #[.slice none 0 0, .slice none 0 0] 27)
      simpa using this)
    have B1 := Lib.hid (hba.trans (hb.mono (by omega)))
    clear hba hb
    have zz : w.heap.size + 3 ≤ w1.heap.size := by have := (Array.getElem?_eq_some_iff.1 r1).1; omega
    clear G
    go_wp2_with fail
    refine (K.out _ B1.out).mono ?_
    rintro e w2 ⟨rfl, hb⟩
    have r2 := (hb.block _ (by omega)).trans r1
    have B2 := Lib.hid (B1.out.trans (hb.mono B1.out.size))
    clear hb B1 r1 k0 k1 K
    have e0 := cell_of_row w2 _ 0 _ _ _ r2
    have e1 := cell_of_row w2 _ 1 _ _ _ r2
    have e0f := frozen_of_row w2 _ 0 _ _ r2
    have e1f := frozen_of_row w2 _ 1 _ _ r2
    have R4 := Lib.hid r2
    clear r2
    go_wp2_with fail
    have t1 := heap_set2 (u' := .slice none 0 0) (v' := .slice none 0 0) R4.out
    refine bodyPost_ret (results_cell_tmp rfl _ _ (w.heap.size + 1 + 1) [.slice none 0 0, .slice none 0 0] _ rfl (range2 (cell_of_row _ _ 0 _ _ _ t1) (cell_of_row _ _ 1 _ _ _ t1)) Try.underlying27 rfl (by kernel_rfl)) rfl ?_
    refine ⟨_, _, rfl, ⟨rfl, .inl ⟨rfl, rfl⟩⟩, ⟨rfl, .inl ⟨rfl, rfl⟩⟩, (B2.out.setCell (p := ⟨w.heap.size + 1 + 1, 0, none⟩) (by show w.heap.size ≤ w.heap.size + 1 + 1; omega) _).setCell (p := ⟨w.heap.size + 1 + 1, 1, none⟩) (by show w.heap.size ≤ w.heap.size + 1 + 1; omega) _⟩
  · have G := Lib.hid (HG.out false (fun g => absurd g hg) (fun _ => rfl))
    clear HG HK hno hg
    go_enter Try.func44, Try.ntmps44
    go_wp2_with fail
    refine (G.out _ hba).mono ?_
    rintro e w1 ⟨rfl, hb⟩
    simp only [World.size_alloc] at hb
    have k0 : w1.cell? ⟨w.heap.size + 1, 0, none⟩ = some (.slice D1 m e') := (hb.cell (by simp)).trans ((World.cell?_alloc_lt _ _ _ (by simp)).trans (by rw [show w.heap.size + 1 = (w.alloc (.cells #[.slice A1 n c, .slice A2 n2 c2] 27)).heap.size by simp]; rw [cellNew]; try rfl))
    have k1 : w1.cell? ⟨w.heap.size + 1, 1, none⟩ = some (.slice D2 m2 e2) := (hb.cell (by simp)).trans ((World.cell?_alloc_lt _ _ _ (by simp)).trans (by rw [show w.heap.size + 1 = (w.alloc (.cells #[.slice A1 n c, .slice A2 n2 c2] 27)).heap.size by simp]; rw [cellNew]; try rfl))
    have r1 : w1.heap[w.heap.size + 1 + 1]? = some (.cells #[.slice none 0 0, .slice none 0 0] 27 (0, 0)) := (hb.block _ (by omega)).trans (by
      have := heap_alloc_new ((w.alloc (.cells #[.slice A1 n c, .slice A2 n2 c2] 27)).alloc (.cells #[.slice D1 m e', .slice D2 m2 e2] 27)) (.cells #[.slice none 0 0, .slice none 0 0] 27)
      simpa using this)
    have B1 := Lib.hid (hba.trans (hb.mono (by omega)))
    clear hba hb
    clear G k0 k1
    have e0 := cell_of_row w1 _ 0 _ _ _ r1
    have e1 := cell_of_row w1 _ 1 _ _ _ r1
    have e0f := frozen_of_row w1 _ 0 _ _ r1
    have e1f := frozen_of_row w1 _ 1 _ _ r1
    have R4 := Lib.hid r1
    clear r1
    go_wp2_with fail
    have t1 := heap_set2 (u' := .slice none 0 0) (v' := .slice none 0 0) R4.out
    refine bodyPost_ret (results_cell_tmp rfl _ _ (w.heap.size + 1 + 1) [.slice none 0 0, .slice none 0 0] _ rfl (range2 (cell_of_row _ _ 0 _ _ _ t1) (cell_of_row _ _ 1 _ _ _ t1)) Try.underlying27 rfl (by kernel_rfl)) rfl ?_
    refine ⟨_, _, rfl, ⟨rfl, .inl ⟨rfl, rfl⟩⟩, ⟨rfl, .inl ⟨rfl, rfl⟩⟩, (B1.out.setCell (p := ⟨w.heap.size + 1 + 1, 0, none⟩) (by show w.heap.size ≤ w.heap.size + 1 + 1; omega) _).setCell (p := ⟨w.heap.size + 1 + 1, 1, none⟩) (by show w.heap.size ≤ w.heap.size + 1 + 1; omega) _⟩
set_option maxRecDepth 100000 in
set_option maxHeartbeats 4000000 in
theorem implJn_no {w : World} {B B' : Nat} {A1 A2 D1 D2 : Option Addr} {n n2 m m2 : Nat} {rs : List (Int × Int × Int)} {zs : List Int} {ts : List (Int × Int × Int)} {ys : List Int} (c c2 e' e2 : Nat) (h : IsWay w B A1 n A2 n2 rs zs) (k : IsWay w B' D1 m D2 m2 ts ys) (hm : n ≤ maxLen) (hm' : m ≤ maxLen) (rise : Int) (hno : ¬ (goodW rs zs ∧ goodW ts ys)) :
    Calls Try.prog 45 #[.agg #[.slice A1 n c, .slice A2 n2 c2], .agg #[.slice D1 m e', .slice D2 m2 e2], .int .i64 rise] w (GivesOne w [] [] false) := by
  have HG := Lib.hid (fun (b : Bool) (hy : goodW rs zs → b = true) (hn : ¬ goodW rs zs → b = false) (W : World) (hW : Below w.heap.size w W) => (good_two c c2 (h.below hW h.low) hm b hy hn).2)
  have HK := Lib.hid (fun (b : Bool) (hy : goodW ts ys → b = true) (hn : ¬ goodW ts ys → b = false) (W : World) (hW : Below w.heap.size w W) => (good_two e' e2 (k.below hW k.low) hm' b hy hn).2)
  clear h k
  have hba : Below w.heap.size w (((w.alloc (.cells #[.slice A1 n c, .slice A2 n2 c2] 27)).alloc (.cells #[.slice D1 m e', .slice D2 m2 e2] 27)).alloc (.cells #[.slice none 0 0, .slice none 0 0] 27)) :=
    (((Below.refl _ _).alloc (Nat.le_refl _) _).alloc (by simp) _).alloc (by simp; omega) _
  by_cases hg : goodW rs zs
  · have G := Lib.hid (HG.out true (fun _ => rfl) (fun g => absurd hg g))
    have K := Lib.hid (HK.out false (fun g => absurd ⟨hg, g⟩ hno) (fun _ => rfl))
    clear HG HK hno hg
    go_enter Try.func45, Try.ntmps45
    go_wp2_with fail
    refine (G.out _ hba).mono ?_
    rintro e w1 ⟨rfl, hb⟩
    simp only [World.size_alloc] at hb
    have k0 : w1.cell? ⟨w.heap.size + 1, 0, none⟩ = some (.slice D1 m e') := (hb.cell (by simp)).trans ((World.cell?_alloc_lt _ _ _ (by simp)).trans (by rw [show w.heap.size + 1 = (w.alloc (.cells #[.slice A1 n c, .slice A2 n2 c2] 27)).heap.size by simp]; rw [cellNew]; try rfl))
    have k1 : w1.cell? ⟨w.heap.size + 1, 1, none⟩ = some (.slice D2 m2 e2) := (hb.cell (by simp)).trans ((World.cell?_alloc_lt _ _ _ (by simp)).trans (by rw [show w.heap.size + 1 = (w.alloc (.cells #[.slice A1 n c, .slice A2 n2 c2] 27)).heap.size by simp]; rw [cellNew]; try rfl))
    have r1 : w1.heap[w.heap.size + 1 + 1]? = some (.cells #[.slice none 0 0, .slice none 0 0] 27 (0, 0)) := (hb.block _ (by omega)).trans (by
      have := heap_alloc_new ((w.alloc (.cells #[.slice A1 n c, .slice A2 n2 c2] 27)).alloc (.cells #[.slice D1 m e', .slice D2 m2 e2] 27)) (.cells #[.slice none 0 0, .slice none 0 0] 27)
      simpa using this)
    have B1 := Lib.hid (hba.trans (hb.mono (by omega)))
    clear hba hb
    have zz : w.heap.size + 3 ≤ w1.heap.size := by have := (Array.getElem?_eq_some_iff.1 r1).1; omega
    clear G
    go_wp2_with fail
    refine (K.out _ B1.out).mono ?_
    rintro e w2 ⟨rfl, hb⟩
    have r2 := (hb.block _ (by omega)).trans r1
    have B2 := Lib.hid (B1.out.trans (hb.mono B1.out.size))
    clear hb B1 r1 k0 k1 K
    have e0 := cell_of_row w2 _ 0 _ _ _ r2
    have e1 := cell_of_row w2 _ 1 _ _ _ r2
    have e0f := frozen_of_row w2 _ 0 _ _ r2
    have e1f := frozen_of_row w2 _ 1 _ _ r2
    have R4 := Lib.hid r2
    clear r2
    go_wp2_with fail
    have t1 := heap_set2 (u' := .slice none 0 0) (v' := .slice none 0 0) R4.out
    refine bodyPost_ret (results_cell_tmp rfl _ _ (w.heap.size + 1 + 1) [.slice none 0 0, .slice none 0 0] _ rfl (range2 (cell_of_row _ _ 0 _ _ _ t1) (cell_of_row _ _ 1 _ _ _ t1)) Try.underlying27 rfl (by kernel_rfl)) rfl ?_
    refine ⟨_, _, rfl, ⟨rfl, .inl ⟨rfl, rfl⟩⟩, ⟨rfl, .inl ⟨rfl, rfl⟩⟩, (B2.out.setCell (p := ⟨w.heap.size + 1 + 1, 0, none⟩) (by show w.heap.size ≤ w.heap.size + 1 + 1; omega) _).setCell (p := ⟨w.heap.size + 1 + 1, 1, none⟩) (by show w.heap.size ≤ w.heap.size + 1 + 1; omega) _⟩
  · have G := Lib.hid (HG.out false (fun g => absurd g hg) (fun _ => rfl))
    clear HG HK hno hg
    go_enter Try.func45, Try.ntmps45
    go_wp2_with fail
    refine (G.out _ hba).mono ?_
    rintro e w1 ⟨rfl, hb⟩
    simp only [World.size_alloc] at hb
    have k0 : w1.cell? ⟨w.heap.size + 1, 0, none⟩ = some (.slice D1 m e') := (hb.cell (by simp)).trans ((World.cell?_alloc_lt _ _ _ (by simp)).trans (by rw [show w.heap.size + 1 = (w.alloc (.cells #[.slice A1 n c, .slice A2 n2 c2] 27)).heap.size by simp]; rw [cellNew]; try rfl))
    have k1 : w1.cell? ⟨w.heap.size + 1, 1, none⟩ = some (.slice D2 m2 e2) := (hb.cell (by simp)).trans ((World.cell?_alloc_lt _ _ _ (by simp)).trans (by rw [show w.heap.size + 1 = (w.alloc (.cells #[.slice A1 n c, .slice A2 n2 c2] 27)).heap.size by simp]; rw [cellNew]; try rfl))
    have r1 : w1.heap[w.heap.size + 1 + 1]? = some (.cells #[.slice none 0 0, .slice none 0 0] 27 (0, 0)) := (hb.block _ (by omega)).trans (by
      have := heap_alloc_new ((w.alloc (.cells #[.slice A1 n c, .slice A2 n2 c2] 27)).alloc (.cells #[.slice D1 m e', .slice D2 m2 e2] 27)) (.cells #[.slice none 0 0, .slice none 0 0] 27)
      simpa using this)
    have B1 := Lib.hid (hba.trans (hb.mono (by omega)))
    clear hba hb
    clear G k0 k1
    have e0 := cell_of_row w1 _ 0 _ _ _ r1
    have e1 := cell_of_row w1 _ 1 _ _ _ r1
    have e0f := frozen_of_row w1 _ 0 _ _ r1
    have e1f := frozen_of_row w1 _ 1 _ _ r1
    have R4 := Lib.hid r1
    clear r1
    go_wp2_with fail
    have t1 := heap_set2 (u' := .slice none 0 0) (v' := .slice none 0 0) R4.out
    refine bodyPost_ret (results_cell_tmp rfl _ _ (w.heap.size + 1 + 1) [.slice none 0 0, .slice none 0 0] _ rfl (range2 (cell_of_row _ _ 0 _ _ _ t1) (cell_of_row _ _ 1 _ _ _ t1)) Try.underlying27 rfl (by kernel_rfl)) rfl ?_
    refine ⟨_, _, rfl, ⟨rfl, .inl ⟨rfl, rfl⟩⟩, ⟨rfl, .inl ⟨rfl, rfl⟩⟩, (B1.out.setCell (p := ⟨w.heap.size + 1 + 1, 0, none⟩) (by show w.heap.size ≤ w.heap.size + 1 + 1; omega) _).setCell (p := ⟨w.heap.size + 1 + 1, 1, none⟩) (by show w.heap.size ≤ w.heap.size + 1 + 1; omega) _⟩
/-- Both ways of joining, in one word. -/
theorem two_JoinWaterways (n n2 m m2 : Nat) (rs : List (Int × Int × Int)) (zs : List Int) (ts : List (Int × Int × Int)) (ys : List Int) (rise : Int) (hm : n ≤ maxLen) (hm' : m ≤ maxLen) : ∃ (R : List (Int × Int × Int)) (Z : List Int) (y : Bool), (R.length ≤ rs.length + ts.length ∧ Z.length ≤ zs.length + ys.length + 1 ∧ R.length ≤ 6 ∧ Z.length ≤ 6) ∧
    (∀ (w : World) (B B' : Nat) (a1 a2 d1 d2 : Addr) (c c2 e e2 : Nat), IsWay w B (some a1) n (some a2) n2 rs zs → IsWay w B' (some d1) m (some d2) m2 ts ys → Calls Try.prog 44 #[.agg #[.slice (some a1) n c, .slice (some a2) n2 c2], .agg #[.slice (some d1) m e, .slice (some d2) m2 e2], .int .i64 rise] w (GivesOne w R Z y)) ∧
    (∀ (w : World) (B B' : Nat) (a1 a2 d1 d2 : Addr) (c c2 e e2 : Nat), IsWay w B (some a1) n (some a2) n2 rs zs → IsWay w B' (some d1) m (some d2) m2 ts ys → Calls Try.prog 45 #[.agg #[.slice (some a1) n c, .slice (some a2) n2 c2], .agg #[.slice (some d1) m e, .slice (some d2) m2 e2], .int .i64 rise] w (GivesOne w R Z y)) := by
  by_cases hg : goodW rs zs ∧ goodW ts ys
  · by_cases hj : goodW (rs ++ ts) (zs ++ rise :: ys)
    · refine ⟨_, _, true, ⟨by rw [List.length_append]; exact Nat.le_refl _, by rw [List.length_append, List.length_cons]; omega, hj.1.2, ?_⟩, fun w B B' a1 a2 d1 d2 c c2 e e2 h k => specJn_ok c c2 e e2 h k rise hg.1 hg.2 true _ _ (fun _ => ⟨rfl, rfl, rfl⟩) (fun g => absurd hj g), fun w B B' a1 a2 d1 d2 c c2 e e2 h k => implJn_ok c c2 e e2 h k rise hg.1 hg.2 true _ _ (fun _ => ⟨rfl, rfl, rfl⟩) (fun g => absurd hj g)⟩
      have := hj.1.2
      have := hj.2.1
      omega
    · exact ⟨[], [], false, by simp, fun w B B' a1 a2 d1 d2 c c2 e e2 h k => specJn_ok c c2 e e2 h k rise hg.1 hg.2 false _ _ (fun g => absurd g hj) (fun _ => ⟨rfl, rfl, rfl⟩), fun w B B' a1 a2 d1 d2 c c2 e e2 h k => implJn_ok c c2 e e2 h k rise hg.1 hg.2 false _ _ (fun g => absurd g hj) (fun _ => ⟨rfl, rfl, rfl⟩)⟩
  · exact ⟨[], [], false, by simp, fun w B B' a1 a2 d1 d2 c c2 e e2 h k => specJn_no c c2 e e2 h k hm hm' rise hg, fun w B B' a1 a2 d1 d2 c c2 e e2 h k => implJn_no c c2 e e2 h k hm hm' rise hg⟩
end Go.Proofs.Ytomehioembakgaa
