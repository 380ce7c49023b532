/- Chapter 2: two waterways joined: the program's. -/
import Derived.Test.YtomehioembakgaaWayJn
namespace Go.Proofs.Ytomehioembakgaa
open Go.RowKit Go.PlainAid

theorem has_cell2 {w : World} {g : Nat} {u v : Value} {t : TypeId} (h : w.heap[g]? = some (.cells #[u, v] t (0, 0))) : Has w w.heap.size (some ⟨g, 0, none⟩) [u, v] := by
  intro k x hu
  have hg := (Array.getElem?_eq_some_iff.1 h).1
  match k, hu with
  | 0, hu => exact ⟨_, rfl, hg, (cell_of_row w g 0 _ _ _ h).trans hu⟩
  | 1, hu => exact ⟨_, rfl, hg, (cell_of_row w g 1 _ _ _ h).trans hu⟩
theorem has_cell3 {w : World} {g : Nat} {u v x : Value} {t : TypeId} (h : w.heap[g]? = some (.cells #[u, v, x] t (0, 0))) : Has w w.heap.size (some ⟨g, 0, none⟩) [u, v, x] := by
  intro k y hu
  have hg := (Array.getElem?_eq_some_iff.1 h).1
  match k, hu with
  | 0, hu => exact ⟨_, rfl, hg, (cell_of_row w g 0 _ _ _ h).trans hu⟩
  | 1, hu => exact ⟨_, rfl, hg, (cell_of_row w g 1 _ _ _ h).trans hu⟩
  | 2, hu => exact ⟨_, rfl, hg, (cell_of_row w g 2 _ _ _ h).trans hu⟩

set_option maxRecDepth 100000 in
set_option maxHeartbeats 4000000 in
theorem implJn_ok {w : World} {B B' : Nat} {a1 a2 d1 d2 : Addr} {n n2 m m2 : Nat} {rs : List (Int × Int × Int)} {zs : List Int} {ts : List (Int × Int × Int)} {ys : List Int} (c c2 e' e2 : Nat) (h : IsWay w B (some a1) n (some a2) n2 rs zs) (k : IsWay w B' (some d1) m (some d2) m2 ts ys) (rise : Int) (hg : goodW rs zs) (hk : goodW ts ys) (q : Bool) (R : List (Int × Int × Int)) (Z : List Int) (hy : goodW (rs ++ ts) (zs ++ rise :: ys) → q = true ∧ R = rs ++ ts ∧ Z = zs ++ rise :: ys) (hno : ¬ goodW (rs ++ ts) (zs ++ rise :: ys) → q = false ∧ R = [] ∧ Z = []) :
    Calls Try.prog 45 #[.agg #[.slice (some a1) n c, .slice (some a2) n2 c2], .agg #[.slice (some d1) m e', .slice (some d2) m2 e2], .int .i64 rise] w
      (GivesOne w R Z q) := by
  have hn6 : n ≤ 6 := by rw [← h.len]; exact hg.1.2
  have hn2 : n2 + 1 = n := by rw [← h.len, ← h.len2]; exact hg.2.1
  have hm6 : m ≤ 6 := by rw [← k.len]; exact hk.1.2
  have hm2 : m2 + 1 = m := by rw [← k.len, ← k.len2]; exact hk.2.1
  have HG := Lib.hid (fun (W : World) (hW : Below w.heap.size w W) => (good_two c c2 (h.below hW h.low) (by unfold maxLen; omega) true (fun _ => rfl) (fun g => absurd hg g)).2)
  have HK := Lib.hid (fun (W : World) (hW : Below w.heap.size w W) => (good_two e' e2 (k.below hW k.low) (by unfold maxLen; omega) true (fun _ => rfl) (fun g => absurd hk g)).2)
  have HW := Lib.hid h
  have KW := Lib.hid k
  obtain ⟨j0, hj, jz0, jz1, jz2⟩ := info_parts Try.infoReach'
  obtain ⟨i0, hi0, iz0, iz1, iz2⟩ := info_parts Try.infoInt'
  have HQ := Lib.hid (And.intro hy hno)
  have hn5 : n2 ≤ 6 := by omega
  have hm5 : m2 ≤ 6 := by omega
  have HN := Lib.hid (And.intro hn2 hm2)
  clear hn2 hm2
  clear h k hg hk hy hno
  go_enter Try.func45, Try.ntmps45
  go_wp2_with fail
  have hba : Below w.heap.size w (((w.alloc (.cells #[.slice (some a1) n c, .slice (some a2) n2 c2] 27)).alloc (.cells #[.slice (some d1) m e', .slice (some d2) m2 e2] 27)).alloc (.cells #[.slice none 0 0, .slice none 0 0] 27)) :=
    (((Below.refl _ _).alloc (Nat.le_refl _) _).alloc (by simp) _).alloc (by simp; omega) _
  refine (HG.out _ hba).mono ?_
  rintro e w1 ⟨rfl, hb⟩
  simp only [World.size_alloc] at hb
  have c0 : w1.cell? ⟨w.heap.size, 0, none⟩ = some (.slice (some a1) n c) := (hb.cell (by simp; omega)).trans ((World.cell?_alloc_lt _ _ _ (by simp; omega)).trans ((World.cell?_alloc_lt _ _ _ (by simp)).trans (by rw [cellNew]; rfl)))
  have c1 : w1.cell? ⟨w.heap.size, 1, none⟩ = some (.slice (some a2) n2 c2) := (hb.cell (by simp; omega)).trans ((World.cell?_alloc_lt _ _ _ (by simp; omega)).trans ((World.cell?_alloc_lt _ _ _ (by simp)).trans (by rw [cellNew]; rfl)))
  have k0 : w1.cell? ⟨w.heap.size + 1, 0, none⟩ = some (.slice (some d1) m e') := (hb.cell (by simp)).trans ((World.cell?_alloc_lt _ _ _ (by simp)).trans (by rw [show w.heap.size + 1 = (w.alloc (.cells #[.slice (some a1) n c, .slice (some a2) n2 c2] 27)).heap.size by simp]; rw [cellNew]; try rfl))
  have k1 : w1.cell? ⟨w.heap.size + 1, 1, none⟩ = some (.slice (some d2) m2 e2) := (hb.cell (by simp)).trans ((World.cell?_alloc_lt _ _ _ (by simp)).trans (by rw [show w.heap.size + 1 = (w.alloc (.cells #[.slice (some a1) n c, .slice (some a2) n2 c2] 27)).heap.size by simp]; rw [cellNew]; try rfl))
  have r2 : w1.heap[w.heap.size + 1 + 1]? = some (.cells #[.slice none 0 0, .slice none 0 0] 27 (0, 0)) := (hb.block _ (by omega)).trans (by
    have := heap_alloc_new ((w.alloc (.cells #[.slice (some a1) n c, .slice (some a2) n2 c2] 27)).alloc (.cells #[.slice (some d1) m e', .slice (some d2) m2 e2] 27)) (.cells #[.slice none 0 0, .slice none 0 0] 27)
    simpa using this)
  have B1 := Lib.hid (hba.trans (hb.mono (by omega)))
  have zz : w.heap.size + 3 ≤ w1.heap.size := by have := (Array.getElem?_eq_some_iff.1 r2).1; omega
  clear hba hb HG
  go_wp2_with fail
  refine (HK.out _ B1.out).mono ?_
  rintro e w2 ⟨rfl, hb⟩
  have B2 := Lib.hid (B1.out.trans (hb.mono B1.out.size))
  replace c0 := (hb.cell (by show w.heap.size < _; omega)).trans c0
  replace c1 := (hb.cell (by show w.heap.size < _; omega)).trans c1
  replace k0 := (hb.cell (by show w.heap.size + 1 < _; omega)).trans k0
  replace k1 := (hb.cell (by show w.heap.size + 1 < _; omega)).trans k1
  replace r2 := (hb.block _ (by omega)).trans r2
  replace zz : w.heap.size + 3 ≤ w2.heap.size := by have := hb.size; omega
  clear hb B1 HK
  have z0 : w.heap.size < w2.heap.size := by omega
  have z1 : w.heap.size + 1 < w2.heap.size := by omega
  have PT1 : Hid (∀ W, Below w.heap.size w W → ∀ s ∈ [(⟨a1, n, c, flat rs⟩ : Part'), ⟨d1, m, e', flat ts⟩], s.xs.length = s.n * 3 ∧ s.n ≤ 100 ∧ (∀ u ∈ s.xs, u.oneCell' = true) ∧ Has W W.heap.size (some s.a) s.xs) := Lib.hid (fun W hW =>
    List.forall_mem_cons.2 ⟨⟨by show (flat rs).length = n * 3; rw [flat_len, HW.out.len]; omega, by show n ≤ 100; omega, flat_one _, (HW.out.has.below (hW.mono HW.out.low)).more (Nat.le_trans HW.out.low hW.size)⟩,
      List.forall_mem_cons.2 ⟨⟨by show (flat ts).length = m * 3; rw [flat_len, KW.out.len]; omega, by show m ≤ 100; omega, flat_one _, (KW.out.has.below (hW.mono KW.out.low)).more (Nat.le_trans KW.out.low hW.size)⟩, by simp⟩⟩)
  have PT2 : Hid (∀ W, Below w.heap.size w W → (zs.map (Value.int .i64)).length = n2 * 1 ∧ n2 ≤ 100 ∧ (∀ u ∈ zs.map (Value.int .i64), u.oneCell' = true) ∧ Has W W.heap.size (some a2) (zs.map (.int .i64))) := Lib.hid (fun W hW =>
    ⟨by rw [List.length_map, HW.out.len2]; omega, by omega, ints_one _, (HW.out.has2.below (hW.mono HW.out.low)).more (Nat.le_trans HW.out.low hW.size)⟩)
  have PT3 : Hid (∀ W, Below w.heap.size w W → (ys.map (Value.int .i64)).length = m2 * 1 ∧ m2 ≤ 100 ∧ (∀ u ∈ ys.map (Value.int .i64), u.oneCell' = true) ∧ Has W W.heap.size (some d2) (ys.map (.int .i64))) := Lib.hid (fun W hW =>
    ⟨by rw [List.length_map, KW.out.len2]; omega, by omega, ints_one _, (KW.out.has2.below (hW.mono KW.out.low)).more (Nat.le_trans KW.out.low hW.size)⟩)
  go_wp2_with fail
  refine region_inv (by kernel_rfl) (by kernel_rfl) (fun L a W => ∃ (x18 x19 x20 x21 x22 x23 x24 x25 x26 x27 x28 x29 x30 x31 x32 x8 : Value), a = { tmps := #[Value.agg #[Value.slice (some a1) n c, Value.slice (some a2) n2 c2], Value.agg #[Value.slice (some d1) m e', Value.slice (some d2) m2 e2], Value.int IntKind.i64 rise, Value.pointer (some ⟨w.heap.size, 0, none⟩), Value.pointer (some ⟨w.heap.size + 1, 0, none⟩), undef, Value.pointer (some ⟨w.heap.size + 1 + 1, 0, none⟩), Value.bool false, x8, Value.agg #[Value.slice (some a1) n c, Value.slice (some a2) n2 c2], Value.bool true, Value.bool false, Value.bool false, Value.agg #[Value.slice (some d1) m e', Value.slice (some d2) m2 e2], Value.bool true, Value.bool false, Value.bool false, undef, x18, x19, x20, x21, x22, x23, x24, x25, x26, x27, x28, x29, x30, x31, x32, undef, undef, undef, undef, undef], defers := [] } ∧ Below w2.heap.size w2 W ∧
      (L 0 = true → x18 = .pointer (some ⟨w.heap.size, 0, none⟩)) ∧
      (L 1 = true → x19 = .slice (some a1) n c) ∧
      (L 2 = true → x20 = .pointer (some ⟨w.heap.size + 1, 0, none⟩)) ∧
      (L 3 = true → x21 = .slice (some d1) m e') ∧
      (L 4 = true → ∃ g, x22 = .slice (some ⟨g, 0, none⟩) 2 2 ∧ W.heap[g]? = some (.cells #[.slice (some a1) n c, .slice (some d1) m e'] 24 (0, 0))) ∧
      (L 5 = true → ∃ A c, x23 = .slice A (n + m) c ∧ W.ownsRow w2.heap.size 71 3 x23 (n + m) (flat rs ++ flat ts)) ∧
      (L 6 = true → x24 = .pointer (some ⟨w.heap.size, 1, none⟩)) ∧
      (L 7 = true → x25 = .slice (some a2) n2 c2) ∧
      (L 8 = true → x26 = .int .i64 rise) ∧
      (L 9 = true → ∃ g, x27 = .slice (some ⟨g, 0, none⟩) 1 1 ∧ W.heap[g]? = some (.cells #[.int .i64 rise] 3 (0, 0))) ∧
      (L 10 = true → x28 = .pointer (some ⟨w.heap.size + 1, 1, none⟩)) ∧
      (L 11 = true → x29 = .slice (some d2) m2 e2) ∧
      (L 12 = true → ∃ g, x30 = .slice (some ⟨g, 0, none⟩) 3 3 ∧ W.heap[g]? = some (.cells #[.slice (some a2) n2 c2, x27, .slice (some d2) m2 e2] 25 (0, 0))) ∧
      (L 13 = true → ∃ A c, x31 = .slice A (n2 + (1 + m2)) c ∧ W.ownsRow w2.heap.size 3 1 x31 (n2 + (1 + m2)) ((zs.map (.int .i64)) ++ ([.int .i64 rise] ++ (ys.map (.int .i64))))) ∧
      (L 14 = true → x32 = .agg #[x23, x31]) ∧
      (L 15 = true → L 16 = false → ∃ g, x8 = .pointer (some ⟨g, 0, none⟩) ∧ w2.heap.size ≤ g ∧ W.heap[g]? = some (.cells #[.slice none 0 0, .slice none 0 0] 27 (0, 0))) ∧
      (L 16 = true → ∃ g, x8 = .pointer (some ⟨g, 0, none⟩) ∧ w2.heap.size ≤ g ∧ W.heap[g]? = some (.cells #[x23, x31] 27 (0, 0))) ∧
      (L 12 = true → L 9 = true) ∧
      (L 14 = true → L 5 = true ∧ L 13 = true) ∧
      (L 16 = true → L 15 = true ∧ L 5 = true ∧ L 13 = true)) ?_ ?_ ?_
  · exact ⟨_, _, _, _, _, _, _, _, _, _, _, _, _, _, _, _, rfl, (Drawn.one w2 1).below _, (fun q => nomatch q), (fun q => nomatch q), (fun q => nomatch q), (fun q => nomatch q), (fun q => nomatch q), (fun q => nomatch q), (fun q => nomatch q), (fun q => nomatch q), (fun q => nomatch q), (fun q => nomatch q), (fun q => nomatch q), (fun q => nomatch q), (fun q => nomatch q), (fun q => nomatch q), (fun q => nomatch q), (fun q => nomatch q), (fun q => nomatch q), (fun q => nomatch q), (fun q => nomatch q), (fun q => nomatch q)⟩
  · intro L a W i o hJ ho hL hdep K' hK
    obtain ⟨x18, x19, x20, x21, x22, x23, x24, x25, x26, x27, x28, x29, x30, x31, x32, x8, rfl, hB, h0, h1, h2, h3, h4, h5, h6, h7, h8, h9, h10, h11, h12, h13, h14, h15, h16, c12, c14, c16⟩ := hJ
    have hi : i < 17 := by simpa using (Array.getElem?_eq_some_iff.1 ho).1
    have C0 : W.cell? ⟨w.heap.size, 0, none⟩ = some (.slice (some a1) n c) := (hB.cell z0).trans c0
    have C1 : W.cell? ⟨w.heap.size, 1, none⟩ = some (.slice (some a2) n2 c2) := (hB.cell z0).trans c1
    have K0 : W.cell? ⟨w.heap.size + 1, 0, none⟩ = some (.slice (some d1) m e') := (hB.cell z1).trans k0
    have K1 : W.cell? ⟨w.heap.size + 1, 1, none⟩ = some (.slice (some d2) m2 e2) := (hB.cell z1).trans k1
    obtain rfl | rfl | rfl | rfl | rfl | rfl | rfl | rfl | rfl | rfl | rfl | rfl | rfl | rfl | rfl | rfl | rfl : i = 0 ∨ i = 1 ∨ i = 2 ∨ i = 3 ∨ i = 4 ∨ i = 5 ∨ i = 6 ∨ i = 7 ∨ i = 8 ∨ i = 9 ∨ i = 10 ∨ i = 11 ∨ i = 12 ∨ i = 13 ∨ i = 14 ∨ i = 15 ∨ i = 16 := by omega
    · -- operation 0
      cases ho
      go_simp
      exact hK _ _ ⟨_, _, _, _, _, _, _, _, _, _, _, _, _, _, _, _, rfl, hB, fun _ => rfl, h1, h2, h3, h4, h5, h6, h7, h8, h9, h10, h11, h12, h13, h14, h15, h16, fun q => ((c12 q)), fun q => ⟨(c14 q).1, (c14 q).2⟩, fun q => ⟨(c16 q).1, (c16 q).2.1, (c16 q).2.2⟩⟩
    · -- operation 1
      cases ho
      obtain rfl := h0 (hdep ⟨0, .data⟩ (by simp) rfl)
      go_simp
      exact hK _ _ ⟨_, _, _, _, _, _, _, _, _, _, _, _, _, _, _, _, rfl, hB, h0, fun _ => rfl, h2, h3, h4, h5, h6, h7, h8, h9, h10, h11, h12, h13, h14, h15, h16, fun q => ((c12 q)), fun q => ⟨(c14 q).1, (c14 q).2⟩, fun q => ⟨(c16 q).1, (c16 q).2.1, (c16 q).2.2⟩⟩
    · -- operation 2
      cases ho
      go_simp
      exact hK _ _ ⟨_, _, _, _, _, _, _, _, _, _, _, _, _, _, _, _, rfl, hB, h0, h1, fun _ => rfl, h3, h4, h5, h6, h7, h8, h9, h10, h11, h12, h13, h14, h15, h16, fun q => ((c12 q)), fun q => ⟨(c14 q).1, (c14 q).2⟩, fun q => ⟨(c16 q).1, (c16 q).2.1, (c16 q).2.2⟩⟩
    · -- operation 3
      cases ho
      obtain rfl := h2 (hdep ⟨2, .data⟩ (by simp) rfl)
      go_simp
      exact hK _ _ ⟨_, _, _, _, _, _, _, _, _, _, _, _, _, _, _, _, rfl, hB, h0, h1, h2, fun _ => rfl, h4, h5, h6, h7, h8, h9, h10, h11, h12, h13, h14, h15, h16, fun q => ((c12 q)), fun q => ⟨(c14 q).1, (c14 q).2⟩, fun q => ⟨(c16 q).1, (c16 q).2.1, (c16 q).2.2⟩⟩
    · -- operation 4
      cases ho
      obtain rfl := h1 (hdep ⟨1, .data⟩ (by simp) rfl)
      obtain rfl := h3 (hdep ⟨3, .data⟩ (by simp) rfl)
      go_simp
      exact hK _ _ ⟨_, _, _, _, _, _, _, _, _, _, _, _, _, _, _, _, rfl, hB.alloc hB.size _, h0, fun _ => rfl, h2, fun _ => rfl, fun _ => ⟨_, rfl, heap_alloc_new W _⟩, fun q => let ⟨g, c, e, o⟩ := h5 q; ⟨g, c, e, o.alloc _⟩, h6, h7, h8, fun q => let ⟨g, e, hp⟩ := h9 q; ⟨g, e, heap_keep hp _⟩, h10, h11, fun q => let ⟨g, e, hp⟩ := h12 q; ⟨g, e, heap_keep hp _⟩, fun q => let ⟨g, c, e, o⟩ := h13 q; ⟨g, c, e, o.alloc _⟩, h14, fun q r => let ⟨g, e, l, hp⟩ := h15 q r; ⟨g, e, l, heap_keep hp _⟩, fun q => let ⟨g, e, l, hp⟩ := h16 q; ⟨g, e, l, heap_keep hp _⟩, fun q => ((c12 q)), fun q => ⟨(c14 q).1, (c14 q).2⟩, fun q => ⟨(c16 q).1, (c16 q).2.1, (c16 q).2.2⟩⟩
    · -- operation 5
      cases ho
      obtain ⟨g, rfl, hp0⟩ := h4 (hdep ⟨4, .data⟩ (by simp) rfl)
      go_simp
      refine (catR [⟨a1, n, c, flat rs⟩, ⟨d1, m, e', flat ts⟩] ⟨g, 0, none⟩ 2 2 W.heap.size W rfl (by omega) (Nat.le_refl _) (has_cell2 hp0) (PT1.out W (B2.out.trans (hB.mono B2.out.size))) (by simp only [total]; omega)).mono ?_
      rintro e w9 ⟨v, rfl, hown, hb9⟩
      simp only [total, allOf, Nat.add_zero, List.append_nil] at hown
      obtain ⟨A9, c9, rfl⟩ := own_form2 hown
      exact hK _ _ ⟨_, _, _, _, _, _, _, _, _, _, _, _, _, _, _, _, rfl, hB.trans (hb9.mono hB.size), h0, h1, h2, h3, fun _ => ⟨_, rfl, (hb9.block g (Array.getElem?_eq_some_iff.1 hp0).1).trans hp0⟩, fun _ => ⟨_, _, rfl, own_low hown hB.size⟩, h6, h7, h8, fun q => let ⟨g, e, hp⟩ := h9 q; ⟨g, e, (hb9.block g (Array.getElem?_eq_some_iff.1 hp).1).trans hp⟩, h10, h11, fun q => let ⟨g, e, hp⟩ := h12 q; ⟨g, e, (hb9.block g (Array.getElem?_eq_some_iff.1 hp).1).trans hp⟩, fun q => let ⟨g, c, e, o⟩ := h13 q; ⟨g, c, e, own_below o hb9⟩, (fun q => by have z := (c14 q).1; rw [hL] at z; exact nomatch z), fun q r => let ⟨g, e, l, hp⟩ := h15 q r; ⟨g, e, l, (hb9.block g (Array.getElem?_eq_some_iff.1 hp).1).trans hp⟩, (fun q => by have z := (c16 q).2.1; rw [hL] at z; exact nomatch z), fun q => ((c12 q)), fun q => ⟨rfl, (c14 q).2⟩, fun q => ⟨(c16 q).1, rfl, (c16 q).2.2⟩⟩
    · -- operation 6
      cases ho
      go_simp
      exact hK _ _ ⟨_, _, _, _, _, _, _, _, _, _, _, _, _, _, _, _, rfl, hB, h0, h1, h2, h3, h4, h5, fun _ => rfl, h7, h8, h9, h10, h11, h12, h13, h14, h15, h16, fun q => ((c12 q)), fun q => ⟨(c14 q).1, (c14 q).2⟩, fun q => ⟨(c16 q).1, (c16 q).2.1, (c16 q).2.2⟩⟩
    · -- operation 7
      cases ho
      obtain rfl := h6 (hdep ⟨6, .data⟩ (by simp) rfl)
      go_simp
      exact hK _ _ ⟨_, _, _, _, _, _, _, _, _, _, _, _, _, _, _, _, rfl, hB, h0, h1, h2, h3, h4, h5, h6, fun _ => rfl, h8, h9, h10, h11, h12, h13, h14, h15, h16, fun q => ((c12 q)), fun q => ⟨(c14 q).1, (c14 q).2⟩, fun q => ⟨(c16 q).1, (c16 q).2.1, (c16 q).2.2⟩⟩
    · -- operation 8
      cases ho
      go_simp
      exact hK _ _ ⟨_, _, _, _, _, _, _, _, _, _, _, _, _, _, _, _, rfl, hB, h0, h1, h2, h3, h4, h5, h6, h7, fun _ => rfl, h9, h10, h11, h12, h13, h14, h15, h16, fun q => ((c12 q)), fun q => ⟨(c14 q).1, (c14 q).2⟩, fun q => ⟨(c16 q).1, (c16 q).2.1, (c16 q).2.2⟩⟩
    · -- operation 9
      cases ho
      obtain rfl := h8 (hdep ⟨8, .data⟩ (by simp) rfl)
      go_simp
      exact hK _ _ ⟨_, _, _, _, _, _, _, _, _, _, _, _, _, _, _, _, rfl, hB.alloc hB.size _, h0, h1, h2, h3, fun q => let ⟨g, e, hp⟩ := h4 q; ⟨g, e, heap_keep hp _⟩, fun q => let ⟨g, c, e, o⟩ := h5 q; ⟨g, c, e, o.alloc _⟩, h6, h7, fun _ => rfl, fun _ => ⟨_, rfl, heap_alloc_new W _⟩, h10, h11, (fun q => by have z := (c12 q); rw [hL] at z; exact nomatch z), fun q => let ⟨g, c, e, o⟩ := h13 q; ⟨g, c, e, o.alloc _⟩, h14, fun q r => let ⟨g, e, l, hp⟩ := h15 q r; ⟨g, e, l, heap_keep hp _⟩, fun q => let ⟨g, e, l, hp⟩ := h16 q; ⟨g, e, l, heap_keep hp _⟩, fun q => (rfl), fun q => ⟨(c14 q).1, (c14 q).2⟩, fun q => ⟨(c16 q).1, (c16 q).2.1, (c16 q).2.2⟩⟩
    · -- operation 10
      cases ho
      go_simp
      exact hK _ _ ⟨_, _, _, _, _, _, _, _, _, _, _, _, _, _, _, _, rfl, hB, h0, h1, h2, h3, h4, h5, h6, h7, h8, h9, fun _ => rfl, h11, h12, h13, h14, h15, h16, fun q => ((c12 q)), fun q => ⟨(c14 q).1, (c14 q).2⟩, fun q => ⟨(c16 q).1, (c16 q).2.1, (c16 q).2.2⟩⟩
    · -- operation 11
      cases ho
      obtain rfl := h10 (hdep ⟨10, .data⟩ (by simp) rfl)
      go_simp
      exact hK _ _ ⟨_, _, _, _, _, _, _, _, _, _, _, _, _, _, _, _, rfl, hB, h0, h1, h2, h3, h4, h5, h6, h7, h8, h9, h10, fun _ => rfl, h12, h13, h14, h15, h16, fun q => ((c12 q)), fun q => ⟨(c14 q).1, (c14 q).2⟩, fun q => ⟨(c16 q).1, (c16 q).2.1, (c16 q).2.2⟩⟩
    · -- operation 12
      cases ho
      obtain rfl := h7 (hdep ⟨7, .data⟩ (by simp) rfl)
      have hdep9 := hdep ⟨9, .data⟩ (by simp) rfl
      obtain ⟨gd9, rfl, hpd9⟩ := h9 hdep9
      obtain rfl := h11 (hdep ⟨11, .data⟩ (by simp) rfl)
      go_simp
      exact hK _ _ ⟨_, _, _, _, _, _, _, _, _, _, _, _, _, _, _, _, rfl, hB.alloc hB.size _, h0, h1, h2, h3, fun q => let ⟨g, e, hp⟩ := h4 q; ⟨g, e, heap_keep hp _⟩, fun q => let ⟨g, c, e, o⟩ := h5 q; ⟨g, c, e, o.alloc _⟩, h6, fun _ => rfl, h8, fun q => let ⟨g, e, hp⟩ := h9 q; ⟨g, e, heap_keep hp _⟩, h10, fun _ => rfl, fun _ => ⟨_, rfl, heap_alloc_new W _⟩, fun q => let ⟨g, c, e, o⟩ := h13 q; ⟨g, c, e, o.alloc _⟩, h14, fun q r => let ⟨g, e, l, hp⟩ := h15 q r; ⟨g, e, l, heap_keep hp _⟩, fun q => let ⟨g, e, l, hp⟩ := h16 q; ⟨g, e, l, heap_keep hp _⟩, fun _ => (hdep9), fun q => ⟨(c14 q).1, (c14 q).2⟩, fun q => ⟨(c16 q).1, (c16 q).2.1, (c16 q).2.2⟩⟩
    · -- operation 13
      cases ho
      obtain ⟨g9, rfl, hp9⟩ := h9 (c12 (hdep ⟨12, .data⟩ (by simp) rfl))
      obtain ⟨g, rfl, hp0⟩ := h12 (hdep ⟨12, .data⟩ (by simp) rfl)
      go_simp
      refine (catI [⟨a2, n2, c2, zs.map (.int .i64)⟩, ⟨⟨g9, 0, none⟩, 1, 1, [.int .i64 rise]⟩, ⟨d2, m2, e2, ys.map (.int .i64)⟩] ⟨g, 0, none⟩ 3 3 W.heap.size W rfl (by omega) (Nat.le_refl _) (has_cell3 hp0) (List.forall_mem_cons.2 ⟨PT2.out W (B2.out.trans (hB.mono B2.out.size)), List.forall_mem_cons.2 ⟨⟨rfl, by show 1 ≤ 100; omega, by simp [Value.oneCell'], has_cell1 hp9⟩, List.forall_mem_cons.2 ⟨PT3.out W (B2.out.trans (hB.mono B2.out.size)), by simp⟩⟩⟩) (by simp only [total]; omega)).mono ?_
      rintro e w9 ⟨v, rfl, hown, hb9⟩
      simp only [total, allOf, Nat.add_zero, List.append_nil] at hown
      obtain ⟨A9, c9, rfl⟩ := own_form2 hown
      exact hK _ _ ⟨_, _, _, _, _, _, _, _, _, _, _, _, _, _, _, _, rfl, hB.trans (hb9.mono hB.size), h0, h1, h2, h3, fun q => let ⟨g, e, hp⟩ := h4 q; ⟨g, e, (hb9.block g (Array.getElem?_eq_some_iff.1 hp).1).trans hp⟩, fun q => let ⟨g, c, e, o⟩ := h5 q; ⟨g, c, e, own_below o hb9⟩, h6, h7, h8, fun q => let ⟨g, e, hp⟩ := h9 q; ⟨g, e, (hb9.block g (Array.getElem?_eq_some_iff.1 hp).1).trans hp⟩, h10, h11, fun _ => ⟨_, rfl, (hb9.block g (Array.getElem?_eq_some_iff.1 hp0).1).trans hp0⟩, fun _ => ⟨_, _, rfl, own_low hown hB.size⟩, (fun q => by have z := (c14 q).2; rw [hL] at z; exact nomatch z), fun q r => let ⟨g, e, l, hp⟩ := h15 q r; ⟨g, e, l, (hb9.block g (Array.getElem?_eq_some_iff.1 hp).1).trans hp⟩, (fun q => by have z := (c16 q).2.2; rw [hL] at z; exact nomatch z), fun q => ((c12 q)), fun q => ⟨(c14 q).1, rfl⟩, fun q => ⟨(c16 q).1, (c16 q).2.1, rfl⟩⟩
    · -- operation 14
      cases ho
      obtain ⟨ga5, ca5, rfl, oa5⟩ := h5 (hdep ⟨5, .data⟩ (by simp) rfl)
      have hdep5 : L 5 = true := hdep ⟨5, .data⟩ (by simp) rfl
      obtain ⟨ga13, ca13, rfl, oa13⟩ := h13 (hdep ⟨13, .data⟩ (by simp) rfl)
      have hdep13 : L 13 = true := hdep ⟨13, .data⟩ (by simp) rfl
      go_simp
      exact hK _ _ ⟨_, _, _, _, _, _, _, _, _, _, _, _, _, _, _, _, rfl, hB, h0, h1, h2, h3, h4, fun _ => ⟨_, _, rfl, oa5⟩, h6, h7, h8, h9, h10, h11, h12, fun _ => ⟨_, _, rfl, oa13⟩, fun _ => rfl, h15, h16, fun q => ((c12 q)), fun _ => ⟨hdep5, hdep13⟩, fun q => ⟨(c16 q).1, (c16 q).2.1, (c16 q).2.2⟩⟩
    · -- operation 15
      cases ho
      go_simp
      exact hK _ _ ⟨_, _, _, _, _, _, _, _, _, _, _, _, _, _, _, _, rfl, hB.alloc hB.size _, h0, h1, h2, h3, fun q => let ⟨g, e, hp⟩ := h4 q; ⟨g, e, heap_keep hp _⟩, fun q => let ⟨g, c, e, o⟩ := h5 q; ⟨g, c, e, o.alloc _⟩, h6, h7, h8, fun q => let ⟨g, e, hp⟩ := h9 q; ⟨g, e, heap_keep hp _⟩, h10, h11, fun q => let ⟨g, e, hp⟩ := h12 q; ⟨g, e, heap_keep hp _⟩, fun q => let ⟨g, c, e, o⟩ := h13 q; ⟨g, c, e, o.alloc _⟩, h14, fun _ _ => ⟨_, rfl, hB.size, heap_alloc_new W _⟩, (fun q => by have z := (c16 q).1; rw [hL] at z; exact nomatch z), fun q => ((c12 q)), fun q => ⟨(c14 q).1, (c14 q).2⟩, fun q => ⟨rfl, (c16 q).2.1, (c16 q).2.2⟩⟩
    · -- operation 16
      cases ho
      have hdep15 : L 15 = true := hdep ⟨15, .data⟩ (by simp) rfl
      have hbd : L 14 = true := hdep ⟨14, .data⟩ (by simp) rfl
      have hdep5 : L 5 = true := (c14 hbd).1
      have hdep13 : L 13 = true := (c14 hbd).2
      obtain ⟨g, rfl, hgl, hp0⟩ := h15 hdep15 hL
      obtain rfl := h14 hbd
      obtain ⟨ga5, ca5, rfl, oa5⟩ := h5 hdep5
      obtain ⟨ga13, ca13, rfl, oa13⟩ := h13 hdep13
      have s0 := cell_of_row W g 0 _ _ _ hp0
      have s1 := cell_of_row W g 1 _ _ _ hp0
      have s2 := frozen_of_row W g 0 _ _ hp0
      have s3 := frozen_of_row W g 1 _ _ hp0
      go_simp
      exact hK _ _ ⟨_, _, _, _, _, _, _, _, _, _, _, _, _, _, _, _, rfl, (hB.setCell (p := ⟨g, 0, none⟩) hgl _).setCell (p := ⟨g, 1, none⟩) hgl _, h0, h1, h2, h3, fun q => let ⟨g, e, hp⟩ := h4 q; ⟨g, e, heap_set_off hp hp0 (by decide)⟩, fun _ => ⟨_, _, rfl, own_set (own_set oa5 _ _ _ (own_off oa5 hp0 (by decide))) _ _ _ (own_off oa5 hp0 (by decide))⟩, h6, h7, h8, fun q => let ⟨g, e, hp⟩ := h9 q; ⟨g, e, heap_set_off hp hp0 (by decide)⟩, h10, h11, fun q => let ⟨g, e, hp⟩ := h12 q; ⟨g, e, heap_set_off hp hp0 (by decide)⟩, fun _ => ⟨_, _, rfl, own_set (own_set oa13 _ _ _ (own_off oa13 hp0 (by decide))) _ _ _ (own_off oa13 hp0 (by decide))⟩, (fun q => rfl), (fun _ q => nomatch q), fun _ => ⟨_, rfl, hgl, heap_set2 hp0⟩, fun q => ((c12 q)), fun q => ⟨(c14 q).1, (c14 q).2⟩, fun _ => ⟨hdep15, hdep5, hdep13⟩⟩
  intro L3 a3 W3 hJ hall
  obtain ⟨x18, x19, x20, x21, x22, x23, x24, x25, x26, x27, x28, x29, x30, x31, x32, x8, rfl, hB3, h0, h1, h2, h3, h4, h5, h6, h7, h8, h9, h10, h11, h12, h13, h14, h15, h16, -, -, -⟩ := hJ
  obtain rfl := h0 (hall 0 (by decide))
  obtain rfl := h1 (hall 1 (by decide))
  obtain rfl := h2 (hall 2 (by decide))
  obtain rfl := h3 (hall 3 (by decide))
  obtain ⟨go22, rfl, -⟩ := h4 (hall 4 (by decide))
  obtain rfl := h6 (hall 6 (by decide))
  obtain rfl := h7 (hall 7 (by decide))
  obtain rfl := h8 (hall 8 (by decide))
  obtain ⟨go27, rfl, -⟩ := h9 (hall 9 (by decide))
  obtain rfl := h10 (hall 10 (by decide))
  obtain rfl := h11 (hall 11 (by decide))
  obtain ⟨go30, rfl, -⟩ := h12 (hall 12 (by decide))
  clear h15
  obtain rfl := h14 (hall 14 (by decide))
  obtain ⟨gr23, cr23, rfl, or23⟩ := h5 (hall 5 (by decide))
  obtain ⟨gr31, cr31, rfl, or31⟩ := h13 (hall 13 (by decide))
  obtain ⟨gp8, rfl, gl8, hp8⟩ := h16 (hall 16 (by decide))
  have IW : IsWay W3 W3.heap.size gr23 (n + m) gr31 (n2 + (1 + m2)) (rs ++ ts) (zs ++ rise :: ys) := ⟨by rw [List.length_append, HW.out.len, KW.out.len], by rw [List.length_append, List.length_cons, HW.out.len2, KW.out.len2]; omega, Nat.le_refl _, by rw [flat_append]; exact own_hasv or23, by rw [show zs ++ rise :: ys = zs ++ ([rise] ++ ys) by simp, List.map_append, List.map_append]; exact own_hasv or31⟩
  have LN := Lib.hid (And.intro IW.len IW.len2)
  have r3 := (hB3.block (w.heap.size + 1 + 1) (by omega)).trans r2
  have d80 := cell_of_row W3 gp8 0 _ _ _ hp8
  have d81 := cell_of_row W3 gp8 1 _ _ _ hp8
  have B3 := Lib.hid (B2.out.trans (hB3.mono B2.out.size))
  have O1 := Lib.hid or23
  have O2 := Lib.hid or31
  have l1 := fun g e => or23.lt g e
  have l2 := fun g e => or31.lt g e
  have hsz := hB3.size
  have H8 := Lib.hid hp8
  have R3 := Lib.hid r3
  clear or23 or31 hp8 r2 r3 hB3 PT1 PT2 PT3 c0 c1 k0 k1
  have GG := Lib.hid (fun (b : Bool) (hy : goodW (rs ++ ts) (zs ++ rise :: ys) → b = true) (hn : ¬ goodW (rs ++ ts) (zs ++ rise :: ys) → b = false) (W : World) (hW : Below W3.heap.size W3 W) => (good_two cr23 cr31 (IW.below hW (Nat.le_refl _)) (by unfold maxLen; omega) b hy hn).2)
  clear IW
  go_wp2_with fail
  by_cases hj : goodW (rs ++ ts) (zs ++ rise :: ys)
  · obtain ⟨rfl, rfl, rfl⟩ := HQ.out.1 hj
    refine (GG.out true (fun _ => rfl) (fun g => absurd hj g) _ (Below.refl _ _)).mono ?_
    rintro e w4 ⟨rfl, hb⟩
    have r4 := (hb.block (w.heap.size + 1 + 1) (by omega)).trans R3.out
    have h9 := (hb.block gp8 (Array.getElem?_eq_some_iff.1 H8.out).1).trans H8.out
    have e0 := cell_of_row w4 _ 0 _ _ _ r4
    have e1 := cell_of_row w4 _ 1 _ _ _ r4
    have e0f := frozen_of_row w4 _ 0 _ _ r4
    have e1f := frozen_of_row w4 _ 1 _ _ r4
    have d0 := cell_of_row w4 _ 0 _ _ _ h9
    have dd1 := cell_of_row w4 _ 1 _ _ _ h9
    have B4 := Lib.hid (B3.out.trans (hb.mono B3.out.size))
    have P1 := Lib.hid (own_below O1.out hb)
    have P2 := Lib.hid (own_below O2.out hb)
    have R4 := Lib.hid r4
    clear hb r4 h9 GG HQ d80 d81 O1 O2 H8 R3 HW KW
    go_wp2_with fail
    have t1 := heap_set2 (u' := .slice gr23 (n + m) cr23) (v' := .slice gr31 (n2 + (1 + m2)) cr31) R4.out
    refine bodyPost_ret (results_cell_tmp rfl _ _ (w.heap.size + 1 + 1) [.slice gr23 (n + m) cr23, .slice gr31 (n2 + (1 + m2)) cr31] _ rfl (range2 (cell_of_row _ _ 0 _ _ _ t1) (cell_of_row _ _ 1 _ _ _ t1)) Try.underlying27 rfl (by kernel_rfl)) rfl ?_
    refine ⟨_, _, rfl, by rw [LN.out.1, flat_append]; exact own_set (own_set (own_low P1.out (by omega)) _ _ _ (fun e => by have := l1 _ e; omega)) _ _ _ (fun e => by have := l1 _ e; omega), by rw [LN.out.2, show zs ++ rise :: ys = zs ++ ([rise] ++ ys) by simp, List.map_append, List.map_append]; exact own_set (own_set (own_low P2.out (by omega)) _ _ _ (fun e => by have := l2 _ e; omega)) _ _ _ (fun e => by have := l2 _ e; omega), (B4.out.setCell (p := ⟨w.heap.size + 1 + 1, 0, none⟩) (by show w.heap.size ≤ w.heap.size + 1 + 1; omega) _).setCell (p := ⟨w.heap.size + 1 + 1, 1, none⟩) (by show w.heap.size ≤ w.heap.size + 1 + 1; omega) _⟩
  · obtain ⟨rfl, rfl, rfl⟩ := HQ.out.2 hj
    refine (GG.out false (fun g => absurd g hj) (fun _ => rfl) _ (Below.refl _ _)).mono ?_
    rintro e w4 ⟨rfl, hb⟩
    have r4 := (hb.block (w.heap.size + 1 + 1) (by omega)).trans R3.out
    have h9 := (hb.block gp8 (Array.getElem?_eq_some_iff.1 H8.out).1).trans H8.out
    have e0 := cell_of_row w4 _ 0 _ _ _ r4
    have e1 := cell_of_row w4 _ 1 _ _ _ r4
    have e0f := frozen_of_row w4 _ 0 _ _ r4
    have e1f := frozen_of_row w4 _ 1 _ _ r4
    have d0 := cell_of_row w4 _ 0 _ _ _ h9
    have dd1 := cell_of_row w4 _ 1 _ _ _ h9
    have B4 := Lib.hid (B3.out.trans (hb.mono B3.out.size))
    have P1 := Lib.hid (own_below O1.out hb)
    have P2 := Lib.hid (own_below O2.out hb)
    have R4 := Lib.hid r4
    clear hb r4 h9 GG HQ d80 d81 O1 O2 H8 R3 HW KW
    go_wp2_with fail
    have t1 := heap_set2 (u' := .slice none 0 0) (v' := .slice none 0 0) R4.out
    refine bodyPost_ret (results_cell_tmp rfl _ _ (w.heap.size + 1 + 1) [.slice none 0 0, .slice none 0 0] _ rfl (range2 (cell_of_row _ _ 0 _ _ _ t1) (cell_of_row _ _ 1 _ _ _ t1)) Try.underlying27 rfl (by kernel_rfl)) rfl ?_
    refine ⟨_, _, rfl, ⟨rfl, .inl ⟨rfl, rfl⟩⟩, ⟨rfl, .inl ⟨rfl, rfl⟩⟩, (B4.out.setCell (p := ⟨w.heap.size + 1 + 1, 0, none⟩) (by show w.heap.size ≤ w.heap.size + 1 + 1; omega) _).setCell (p := ⟨w.heap.size + 1 + 1, 1, none⟩) (by show w.heap.size ≤ w.heap.size + 1 + 1; omega) _⟩
end Go.Proofs.Ytomehioembakgaa
