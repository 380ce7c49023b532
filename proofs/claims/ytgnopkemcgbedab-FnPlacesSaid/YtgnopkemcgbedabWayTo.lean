/- Chapter 2: the copy of a waterway. -/
import Derived.Test.YtgnopkemcgbedabReachS
namespace Go.Proofs.Ytgnopkemcgbedab
open Go.RowKit Go.PlainAid

theorem results_cell_at {P : Program} {fn : Func} {p : Tmp} {ty : TypeId} (h : fn.results = #[.cell p ty]) (tmps : Array Value) (w : World) (g : Nat) (cs : List Value) (d : TypeDesc)
    (hp : tmps.getD p undef = .pointer (some ⟨g, 0, none⟩)) (hc : w.rangeAt g 0 cs) (hu : P.underlying ty = some d) (hd : d.isRow = true) (hi : (P.info? ty).map (·.size) = some cs.length) :
    (results fn tmps).run P w = .ok (.agg cs.toArray) w := by
  have hp' : tmps[p]?.getD undef = .pointer (some ⟨g, 0, none⟩) := by simpa using hp
  simp [results, h, hp', asAddr, run_loadVar_mid w g 0 ty cs d hc hu hd hi]
theorem range2 {w : World} {g : Nat} {u v : Value} (h0 : w.cell? ⟨g, 0, none⟩ = some u) (h1 : w.cell? ⟨g, 1, none⟩ = some v) : w.rangeAt g 0 [u, v] := by
  intro j x hj
  match j, hj with
  | 0, hj => injection hj with hj; rw [← hj]; exact h0
  | 1, hj => injection hj with hj; rw [← hj]; exact h1

theorem own_set {w : World} {base : Nat} {e : TypeId} {size n : Nat} {v : Value} {xs : List Value} (h : w.ownsRow base e size v n xs) (b o : Nat) (u : Value) (hne : v.ownBlock ≠ some b) : (w.setCell ⟨b, o, none⟩ u).ownsRow base e size v n xs :=
  h.kept (row := some b) ⟨rfl, rfl, rfl, by simp [World.setCell], fun k _ hk => Below.heap_setCell _ _ _ _ (fun e => hk (by rw [e]))⟩ (.inr hne)

set_option maxHeartbeats 2000000 in
theorem toW_any (A A2 : Option Addr) (n c n2 c2 B : Nat) (rs : List (Int × Int × Int)) (zs : List Int) (w : World) (hn : rs.length = n) (hn2 : zs.length = n2) (hm : n ≤ 1048576) (hm2 : n2 ≤ 1048576)
    (hB : B ≤ w.heap.size) (h1 : Has w B A (flat rs)) (h2 : Has w B A2 (zs.map (.int .i64))) :
    Calls Try.prog 40 #[.agg #[.slice A n c, .slice A2 n2 c2]] w fun e w' => ∃ g g2, e = .returned (.agg #[.slice (some ⟨g, 0, none⟩) n n, .slice (some ⟨g2, 0, none⟩) n2 n2]) ∧ g ≠ g2 ∧
      w'.ownsRow w.heap.size 83 3 (.slice (some ⟨g, 0, none⟩) n n) n (flat rs) ∧ w'.ownsRow w.heap.size 3 1 (.slice (some ⟨g2, 0, none⟩) n2 n2) n2 (zs.map (.int .i64)) ∧ Below w.heap.size w w' := by
  have CR := Lib.hid (fun (W : World) (hb : Below B w W) (hW : B ≤ W.heap.size) => toRS_any A n c B rs W hn hm hW (h1.below hb))
  have CI := Lib.hid (fun (W : World) (hb : Below B w W) (hW : B ≤ W.heap.size) => toI_any A2 n2 c2 B zs W hn2 hm2 hW (h2.below hb))
  clear hn hn2 h1 h2
  go_enter Try.func40, Try.ntmps40
  go_wp2_with fail
  have hba : Below w.heap.size w (((w.alloc (.cells #[.slice A n c, .slice A2 n2 c2] 60)).alloc (.cells #[.slice none 0 0, .slice none 0 0] 27)).alloc (.cells #[.slice none 0 0, .slice none 0 0] 27)) :=
    (((Below.refl _ _).alloc (Nat.le_refl _) _).alloc (by simp) _).alloc (by simp; omega) _
  have q0 := (heap_alloc_old ((w.alloc (.cells #[.slice A n c, .slice A2 n2 c2] 60)).alloc (.cells #[.slice none 0 0, .slice none 0 0] 27)) (.cells #[.slice none 0 0, .slice none 0 0] 27) (r := w.heap.size) (by simp; omega)).trans ((heap_alloc_old (w.alloc (.cells #[.slice A n c, .slice A2 n2 c2] 60)) (.cells #[.slice none 0 0, .slice none 0 0] 27) (r := w.heap.size) (by simp)).trans (heap_alloc_new w _))
  have q1 := (heap_alloc_old ((w.alloc (.cells #[.slice A n c, .slice A2 n2 c2] 60)).alloc (.cells #[.slice none 0 0, .slice none 0 0] 27)) (.cells #[.slice none 0 0, .slice none 0 0] 27) (r := w.heap.size + 1) (by simp)).trans (heap_alloc2_new w _ _)
  have q2 : (((w.alloc (.cells #[.slice A n c, .slice A2 n2 c2] 60)).alloc (.cells #[.slice none 0 0, .slice none 0 0] 27)).alloc (.cells #[.slice none 0 0, .slice none 0 0] 27)).heap[w.heap.size + 1 + 1]? = some (.cells #[.slice none 0 0, .slice none 0 0] 27) := by
    have := heap_alloc_new ((w.alloc (.cells #[.slice A n c, .slice A2 n2 c2] 60)).alloc (.cells #[.slice none 0 0, .slice none 0 0] 27)) (.cells #[.slice none 0 0, .slice none 0 0] 27)
    simpa using this
  have qs : (((w.alloc (.cells #[.slice A n c, .slice A2 n2 c2] 60)).alloc (.cells #[.slice none 0 0, .slice none 0 0] 27)).alloc (.cells #[.slice none 0 0, .slice none 0 0] 27)).heap.size = w.heap.size + 3 := by simp
  obtain ⟨W3, hW3⟩ : ∃ W, (((w.alloc (.cells #[.slice A n c, .slice A2 n2 c2] 60)).alloc (.cells #[.slice none 0 0, .slice none 0 0] 27)).alloc (.cells #[.slice none 0 0, .slice none 0 0] 27)) = W := ⟨_, rfl⟩
  rw [hW3] at hba q0 q1 q2 qs ⊢
  clear hW3
  refine (CR.out W3 (hba.mono hB) (by omega)).mono ?_
  rintro e w1 ⟨rfl, hown1, hb1⟩
  obtain ⟨g, hg⟩ : ∃ g, W3.heap.size = g := ⟨_, rfl⟩
  rw [hg] at hown1 hb1 qs ⊢
  have p0 := (hb1.block _ (by omega)).trans q0
  have p1 := (hb1.block _ (by omega)).trans q1
  have p2 := (hb1.block _ (by omega)).trans q2
  have hbw := hba.trans (hb1.mono (by omega))
  have hgs : g ≤ w1.heap.size := by have := hb1.size; omega
  have hlt := (hown1.lt g rfl).2
  clear hba q0 q1 q2 hb1
  have x0 := cell_of_row w1 _ 1 _ _ _ p0
  have x20 := cell_of_row w1 _ 0 _ _ _ p2
  have x2f := frozen_of_row w1 _ 0 _ _ p2
  have HP1 := Lib.hid p1
  have HP2 := Lib.hid p2
  have HO1 := Lib.hid hown1
  have HBW := Lib.hid hbw
  subst qs
  clear p0 p1 p2 hown1 hbw
  go_wp2_with fail
  obtain ⟨W4, hW4⟩ : ∃ W, w1.setCell ⟨w.heap.size + 1 + 1, 0, none⟩ (.slice (some ⟨w.heap.size + 3, 0, none⟩) n n) = W := ⟨_, rfl⟩
  rw [hW4]
  have z4 : W4.heap.size = w1.heap.size := by rw [← hW4]; simp [World.setCell]
  have HB4 := Lib.hid (HBW.out.setCell (p := ⟨w.heap.size + 1 + 1, 0, none⟩) (by show w.heap.size ≤ w.heap.size + 1 + 1; omega) (.slice (some ⟨w.heap.size + 3, 0, none⟩) n n))
  have p1 : W4.heap[w.heap.size + 1]? = some (.cells #[.slice none 0 0, .slice none 0 0] 27 (0, 0)) := by
    rw [← hW4]; simp [World.setCell, Array.getElem?_modify, HP1.out]
  have p2 : W4.heap[w.heap.size + 1 + 1]? = some (.cells #[.slice (some ⟨w.heap.size + 3, 0, none⟩) n n, .slice none 0 0] 27 (0, 0)) := by
    rw [← hW4]; simp [World.setCell, Array.getElem?_modify, HP2.out]
  have HO4 : Hid (W4.ownsRow (w.heap.size + 3) 83 3 (.slice (some ⟨w.heap.size + 3, 0, none⟩) n n) n (flat rs)) := Lib.hid (by
    rw [← hW4]
    exact HO1.out.kept (row := some (w.heap.size + 1 + 1)) ⟨rfl, rfl, rfl, by simp [World.setCell], fun k _ hk => Below.heap_setCell _ _ _ _ (fun e => hk (by rw [e]))⟩ (.inr (by simp [Value.ownBlock])))
  rw [hW4] at HB4
  clear hW4 x0 x20 x2f HP1 HP2 HO1 HBW
  refine (CI.out W4 (HB4.out.mono hB) (by omega)).mono ?_
  rintro e w2 ⟨rfl, hown2, hb2⟩
  rw [z4] at hown2 hb2 ⊢
  obtain ⟨g2, hg2⟩ : ∃ g2, w1.heap.size = g2 := ⟨_, rfl⟩
  rw [hg2] at hown2 hb2 hgs hlt z4 ⊢
  have r1 := (hb2.block _ (by omega)).trans p1
  have r2 := (hb2.block _ (by omega)).trans p2
  have HO2 := Lib.hid (HO4.out.kept (grownBelow (z4 ▸ hb2) none) (.inr (by simp [Value.ownBlock])))
  have HO3 := Lib.hid hown2
  have HB2 := Lib.hid (HB4.out.trans (hb2.mono (by omega)))
  have y10 := cell_of_row w2 _ 0 _ _ _ r1
  have y11 := cell_of_row w2 _ 1 _ _ _ r1
  have y1f := frozen_of_row w2 _ 0 _ _ r1
  have y1g := frozen_of_row w2 _ 1 _ _ r1
  have y20 := cell_of_row w2 _ 0 _ _ _ r2
  have y21 := cell_of_row w2 _ 1 _ _ _ r2
  have y2f := frozen_of_row w2 _ 1 _ _ r2
  clear p1 p2 r1 r2 hown2 hb2 HO4 HB4 CR CI
  go_wp2_with fail
  refine bodyPost_ret (results_cell_at rfl _ _ (w.heap.size + 1) [.slice (some ⟨w.heap.size + 3, 0, none⟩) n n, .slice (some ⟨g2, 0, none⟩) n2 n2] _ rfl (range2 ?_ ?_) Try.underlying27 rfl (by kernel_rfl)) rfl ?_
  · rw [World.cell?_setCell_other _ _ _ _ (by simp)]
    exact World.cell?_setCell_same _ _ _ ((World.cell?_setCell_other _ _ _ _ (by simp)).trans y10)
  · exact World.cell?_setCell_same _ _ _ ((World.cell?_setCell_other _ _ _ _ (by simp)).trans ((World.cell?_setCell_other _ _ _ _ (by simp)).trans y11))
  · refine ⟨w.heap.size + 3, g2, rfl, by omega, ?_, ?_, ?_⟩
    · exact own_set (own_set (own_set (own_low HO2.out (by omega)) _ _ _ (by simp [Value.ownBlock])) _ _ _ (by simp [Value.ownBlock])) _ _ _ (by simp [Value.ownBlock])
    · exact own_set (own_set (own_set (own_low HO3.out (by omega)) _ _ _ (by simp [Value.ownBlock]; omega)) _ _ _ (by simp [Value.ownBlock]; omega)) _ _ _ (by simp [Value.ownBlock]; omega)
    · exact ((HB2.out.setCell (p := ⟨w.heap.size + 1 + 1, 1, none⟩) (by show w.heap.size ≤ w.heap.size + 1 + 1; omega) _).setCell (p := ⟨w.heap.size + 1, 0, none⟩) (by show w.heap.size ≤ w.heap.size + 1; omega) _).setCell (p := ⟨w.heap.size + 1, 1, none⟩) (by show w.heap.size ≤ w.heap.size + 1; omega) _
end Go.Proofs.Ytgnopkemcgbedab
