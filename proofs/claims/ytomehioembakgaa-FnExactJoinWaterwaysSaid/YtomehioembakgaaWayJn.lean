/- Chapter 2: two waterways joined: the model's. -/
import Derived.Test.YtomehioembakgaaWaySpI
namespace Go.Proofs.Ytomehioembakgaa
open Go.RowKit Go.PlainAid

theorem Has.at' {w : World} {B : Nat} {a : Addr} {xs : List Value} (h : Has w B (some a) xs) : ∀ (j : Nat) (u : Value), xs[j]? = some u → w.cell? (a.add j) = some u := by
  intro j u hu
  obtain ⟨a', e, -, hc⟩ := h j u hu
  injection e with e
  subst e
  exact hc
/-- An empty row without room isn't a block with something in it. -/
theorem own_off0 {w : World} {b : Nat} {e e' : TypeId} {s : Nat} {g0 g : Nat} {cs : Array Value} {fr : Nat × Nat} (h : w.ownsRow b e s (.slice (some ⟨g0, 0, none⟩) 0 0) 0 []) (k : w.heap[g]? = some (.cells cs e' fr)) (hne : 0 < cs.size) : (Value.slice (some ⟨g0, 0, none⟩) 0 0).ownBlock ≠ some g := by
  intro hv
  have : g0 = g := by simpa [Value.ownBlock] using hv
  subst this
  rcases h.2 with ⟨e, -⟩ | ⟨g', cap, cur, e, -, hg, -, -, hcs, -⟩
  · cases e
  · injection e with e1 e2 e3
    injection e1 with e1
    injection e1 with e1
    subst e1
    subst e3
    rw [hg] at k
    injection k with k
    injection k with k1
    subst k1
    omega

theorem results_cell_tmp {P : Program} {fn : Func} {p t : Tmp} {ty : TypeId} (h : fn.results = #[.cell p ty, .tmp t]) (tmps : Array Value) (w : World) (g : Nat) (cs : List Value) (d : TypeDesc)
    (hp : tmps.getD p undef = .pointer (some ⟨g, 0, none⟩)) (hc : w.rangeAt g 0 cs) (hu : P.underlying ty = some d) (hd : d.isRow = true) (hi : (P.info? ty).map (·.size) = some cs.length) :
    (results fn tmps).run P w = .ok (.tuple #[.agg cs.toArray, tmps.getD t undef]) w := by
  have hp' : tmps[p]?.getD undef = .pointer (some ⟨g, 0, none⟩) := by simpa using hp
  simp [results, h, hp', asAddr, run_loadVar_mid w g 0 ty cs d hc hu hd hi]

def GivesOne (w : World) (rs : List (Int × Int × Int)) (zs : List Int) (b : Bool) (e : Ending) (w' : World) : Prop :=
  ∃ s1 s2 : Value, e = .returned (.tuple #[.agg #[s1, s2], .bool b]) ∧ w'.ownsRow w.heap.size 71 3 s1 rs.length (flat rs) ∧ w'.ownsRow w.heap.size 3 1 s2 zs.length (zs.map (.int .i64)) ∧ Below w.heap.size w w'

set_option maxRecDepth 100000 in
set_option maxHeartbeats 4000000 in
theorem specJn_ok {w : World} {B B' : Nat} {a1 a2 d1 d2 : Addr} {n n2 m m2 : Nat} {rs : List (Int × Int × Int)} {zs : List Int} {ts : List (Int × Int × Int)} {ys : List Int} (c c2 e' e2 : Nat) (h : IsWay w B (some a1) n (some a2) n2 rs zs) (k : IsWay w B' (some d1) m (some d2) m2 ts ys) (rise : Int) (hg : goodW rs zs) (hk : goodW ts ys) (q : Bool) (R : List (Int × Int × Int)) (Z : List Int) (hy : goodW (rs ++ ts) (zs ++ rise :: ys) → q = true ∧ R = rs ++ ts ∧ Z = zs ++ rise :: ys) (hno : ¬ goodW (rs ++ ts) (zs ++ rise :: ys) → q = false ∧ R = [] ∧ Z = []) :
    Calls Try.prog 44 #[.agg #[.slice (some a1) n c, .slice (some a2) n2 c2], .agg #[.slice (some d1) m e', .slice (some d2) m2 e2], .int .i64 rise] w
      (GivesOne w R Z q) := by
  have hn6 : n ≤ 6 := by rw [← h.len]; exact hg.1.2
  have hn2 : n2 + 1 = n := by rw [← h.len, ← h.len2]; exact hg.2.1
  have hm6 : m ≤ 6 := by rw [← k.len]; exact hk.1.2
  have hm2 : m2 + 1 = m := by rw [← k.len, ← k.len2]; exact hk.2.1
  have HG := Lib.hid (fun (W : World) (hW : Below w.heap.size w W) => (good_two c c2 (h.below hW h.low) (by unfold maxLen; omega) true (fun _ => rfl) (fun g => absurd hg g)).1)
  have HK := Lib.hid (fun (W : World) (hW : Below w.heap.size w W) => (good_two e' e2 (k.below hW k.low) (by unfold maxLen; omega) true (fun _ => rfl) (fun g => absurd hk g)).1)
  have HW := Lib.hid h
  have KW := Lib.hid k
  obtain ⟨j0, hj, jz0, jz1, jz2⟩ := info_parts Try.infoReach'
  obtain ⟨i0, hi0, iz0, iz1, iz2⟩ := info_parts Try.infoInt'
  have HQ := Lib.hid (And.intro hy hno)
  have hn5 : n2 ≤ 6 := by omega
  have hm5 : m2 ≤ 6 := by omega
  have HN := Lib.hid (And.intro hn2 hm2)
  clear hn2 hm2
  clear h k hg hk hy hno
  go_enter Try.func44, Try.ntmps44
  go_wp2_with fail
  have hba : Below w.heap.size w (((w.alloc (.cells #[.slice (some a1) n c, .slice (some a2) n2 c2] 27)).alloc (.cells #[.slice (some d1) m e', .slice (some d2) m2 e2] 27)).alloc (.cells #[.slice none 0 0, .slice none 0 0] 27)) :=
    (((Below.refl _ _).alloc (Nat.le_refl _) _).alloc (by simp) _).alloc (by simp; omega) _
  refine (HG.out _ hba).mono ?_
  rintro e w1 ⟨rfl, hb⟩
  simp only [World.size_alloc] at hb
  have c0 : w1.cell? ⟨w.heap.size, 0, none⟩ = some (.slice (some a1) n c) := (hb.cell (by simp; omega)).trans ((World.cell?_alloc_lt _ _ _ (by simp; omega)).trans ((World.cell?_alloc_lt _ _ _ (by simp)).trans (by rw [cellNew]; rfl)))
  have c1 : w1.cell? ⟨w.heap.size, 1, none⟩ = some (.slice (some a2) n2 c2) := (hb.cell (by simp; omega)).trans ((World.cell?_alloc_lt _ _ _ (by simp; omega)).trans ((World.cell?_alloc_lt _ _ _ (by simp)).trans (by rw [cellNew]; rfl)))
  have k0 : w1.cell? ⟨w.heap.size + 1, 0, none⟩ = some (.slice (some d1) m e') := (hb.cell (by simp)).trans ((World.cell?_alloc_lt _ _ _ (by simp)).trans (by rw [show w.heap.size + 1 = (w.alloc (.cells #[.slice (some a1) n c, .slice (some a2) n2 c2] 27)).heap.size by simp]; rw [cellNew]; try rfl))
  have k1 : w1.cell? ⟨w.heap.size + 1, 1, none⟩ = some (.slice (some d2) m2 e2) := (hb.cell (by simp)).trans ((World.cell?_alloc_lt _ _ _ (by simp)).trans (by rw [show w.heap.size + 1 = (w.alloc (.cells #[.slice (some a1) n c, .slice (some a2) n2 c2] 27)).heap.size by simp]; rw [cellNew]; try rfl))
  have r2 : w1.heap[w.heap.size + 1 + 1]? = some (.cells #[.slice none 0 0, .slice none 0 0] 27 (0, 0)) := (hb.block _ (by omega)).trans (by
    have := heap_alloc_new ((w.alloc (.cells #[.slice (some a1) n c, .slice (some a2) n2 c2] 27)).alloc (.cells #[.slice (some d1) m e', .slice (some d2) m2 e2] 27)) (.cells #[.slice none 0 0, .slice none 0 0] 27)
    simpa using this)
  have B1 := Lib.hid (hba.trans (hb.mono (by omega)))
  have zz : w.heap.size + 3 ≤ w1.heap.size := by have := (Array.getElem?_eq_some_iff.1 r2).1; omega
  clear hba hb HG
  go_wp2_with fail
  refine (HK.out _ B1.out).mono ?_
  rintro e w2 ⟨rfl, hb⟩
  have B2 := Lib.hid (B1.out.trans (hb.mono B1.out.size))
  replace c0 := (hb.cell (by show w.heap.size < _; omega)).trans c0
  replace c1 := (hb.cell (by show w.heap.size < _; omega)).trans c1
  replace k0 := (hb.cell (by show w.heap.size + 1 < _; omega)).trans k0
  replace k1 := (hb.cell (by show w.heap.size + 1 < _; omega)).trans k1
  replace r2 := (hb.block _ (by omega)).trans r2
  replace zz : w.heap.size + 3 ≤ w2.heap.size := by have := hb.size; omega
  clear hb B1 HK
  have z0 : w.heap.size < w2.heap.size := by omega
  have z1 : w.heap.size + 1 < w2.heap.size := by omega
  have F1 : Hid ((flat rs).length = n * 3) := Lib.hid (by rw [flat_len, HW.out.len]; omega)
  have F2 : Hid ((flat ts).length = m * 3) := Lib.hid (by rw [flat_len, KW.out.len]; omega)
  have F3 : Hid ((zs.map (Value.int .i64)).length = n2 * 1) := Lib.hid (by rw [List.length_map, HW.out.len2]; omega)
  have F4 : Hid ((ys.map (Value.int .i64)).length = m2 * 1) := Lib.hid (by rw [List.length_map, KW.out.len2]; omega)
  have N1 : Hid (∀ W, Below w.heap.size w W → ∀ (j : Nat) (u : Value), (flat rs)[j]? = some u → W.cell? (a1.add j) = some u) := Lib.hid (fun W hW => (HW.out.has.below (hW.mono HW.out.low)).at')
  have N2 : Hid (∀ W, Below w.heap.size w W → ∀ (j : Nat) (u : Value), (flat ts)[j]? = some u → W.cell? (d1.add j) = some u) := Lib.hid (fun W hW => (KW.out.has.below (hW.mono KW.out.low)).at')
  have N3 : Hid (∀ W, Below w.heap.size w W → ∀ (j : Nat) (u : Value), (zs.map (Value.int .i64))[j]? = some u → W.cell? (a2.add j) = some u) := Lib.hid (fun W hW => (HW.out.has2.below (hW.mono HW.out.low)).at')
  have N4 : Hid (∀ W, Below w.heap.size w W → ∀ (j : Nat) (u : Value), (ys.map (Value.int .i64))[j]? = some u → W.cell? (d2.add j) = some u) := Lib.hid (fun W hW => (KW.out.has2.below (hW.mono KW.out.low)).at')
  go_wp2_with fail
  refine region_inv (by kernel_rfl) (by kernel_rfl) (fun L a W => ∃ (x18 x19 x20 x21 x22 x23 x24 x25 x26 x27 x28 x29 x30 x31 x32 x33 x34 x35 x8 : Value), a = { tmps := #[Value.agg #[Value.slice (some a1) n c, Value.slice (some a2) n2 c2], Value.agg #[Value.slice (some d1) m e', Value.slice (some d2) m2 e2], Value.int IntKind.i64 rise, Value.pointer (some ⟨w.heap.size, 0, none⟩), Value.pointer (some ⟨w.heap.size + 1, 0, none⟩), undef, Value.pointer (some ⟨w.heap.size + 1 + 1, 0, none⟩), Value.bool false, x8, Value.agg #[Value.slice (some a1) n c, Value.slice (some a2) n2 c2], Value.bool true, Value.bool false, Value.bool false, Value.agg #[Value.slice (some d1) m e', Value.slice (some d2) m2 e2], Value.bool true, Value.bool false, Value.bool false, undef, x18, x19, x20, x21, x22, x23, x24, x25, x26, x27, x28, x29, x30, x31, x32, x33, x34, x35, undef, undef, undef, undef, undef], defers := [] } ∧ Below w2.heap.size w2 W ∧
      (L 0 = true → L 3 = false → ∃ g, x18 = .slice (some ⟨g, 0, none⟩) 0 0 ∧ W.ownsRow w2.heap.size 71 3 x18 0 []) ∧
      (L 1 = true → x19 = .pointer (some ⟨w.heap.size, 0, none⟩)) ∧
      (L 2 = true → x20 = .slice (some a1) n c) ∧
      (L 3 = true → L 6 = false → ∃ g c, x21 = .slice (some ⟨g, 0, none⟩) (n) c ∧ W.ownsRow w2.heap.size 71 3 x21 (n) (flat rs)) ∧
      (L 4 = true → x22 = .pointer (some ⟨w.heap.size + 1, 0, none⟩)) ∧
      (L 5 = true → x23 = .slice (some d1) m e') ∧
      (L 6 = true → ∃ g c, x24 = .slice (some ⟨g, 0, none⟩) (n + m) c ∧ W.ownsRow w2.heap.size 71 3 x24 (n + m) (flat rs ++ flat ts)) ∧
      (L 7 = true → L 10 = false → ∃ g, x25 = .slice (some ⟨g, 0, none⟩) 0 0 ∧ W.ownsRow w2.heap.size 3 1 x25 0 []) ∧
      (L 8 = true → x26 = .pointer (some ⟨w.heap.size, 1, none⟩)) ∧
      (L 9 = true → x27 = .slice (some a2) n2 c2) ∧
      (L 10 = true → L 13 = false → ∃ g c, x28 = .slice (some ⟨g, 0, none⟩) (n2) c ∧ W.ownsRow w2.heap.size 3 1 x28 (n2) (zs.map (.int .i64))) ∧
      (L 11 = true → x29 = .int .i64 rise) ∧
      (L 12 = true → L 13 = false → ∃ g, x30 = .slice (some ⟨g, 0, none⟩) 1 1 ∧ W.heap[g]? = some (.cells #[.int .i64 rise] 3 (0, 0))) ∧
      (L 13 = true → L 16 = false → ∃ g c, x31 = .slice (some ⟨g, 0, none⟩) (n2 + 1) c ∧ W.ownsRow w2.heap.size 3 1 x31 (n2 + 1) ((zs.map (.int .i64)) ++ [.int .i64 rise])) ∧
      (L 14 = true → x32 = .pointer (some ⟨w.heap.size + 1, 1, none⟩)) ∧
      (L 15 = true → x33 = .slice (some d2) m2 e2) ∧
      (L 16 = true → ∃ g c, x34 = .slice (some ⟨g, 0, none⟩) (n2 + 1 + m2) c ∧ W.ownsRow w2.heap.size 3 1 x34 (n2 + 1 + m2) (((zs.map (.int .i64)) ++ [.int .i64 rise]) ++ (ys.map (.int .i64)))) ∧
      (L 17 = true → x35 = .agg #[x24, x34]) ∧
      (L 18 = true → L 19 = false → ∃ g, x8 = .pointer (some ⟨g, 0, none⟩) ∧ w2.heap.size ≤ g ∧ W.heap[g]? = some (.cells #[.slice none 0 0, .slice none 0 0] 27 (0, 0))) ∧
      (L 19 = true → ∃ g, x8 = .pointer (some ⟨g, 0, none⟩) ∧ w2.heap.size ≤ g ∧ W.heap[g]? = some (.cells #[x24, x34] 27 (0, 0))) ∧
      (L 6 = true → L 3 = true) ∧
      (L 13 = true → L 10 = true) ∧
      (L 16 = true → L 13 = true ∧ L 10 = true) ∧
      (L 17 = true → L 6 = true ∧ L 16 = true) ∧
      (L 19 = true → L 18 = true ∧ L 6 = true ∧ L 16 = true)) ?_ ?_ ?_
  · exact ⟨_, _, _, _, _, _, _, _, _, _, _, _, _, _, _, _, _, _, _, rfl, (Drawn.one w2 1).below _, (fun q => nomatch q), (fun q => nomatch q), (fun q => nomatch q), (fun q => nomatch q), (fun q => nomatch q), (fun q => nomatch q), (fun q => nomatch q), (fun q => nomatch q), (fun q => nomatch q), (fun q => nomatch q), (fun q => nomatch q), (fun q => nomatch q), (fun q => nomatch q), (fun q => nomatch q), (fun q => nomatch q), (fun q => nomatch q), (fun q => nomatch q), (fun q => nomatch q), (fun q => nomatch q), (fun q => nomatch q), (fun q => nomatch q), (fun q => nomatch q), (fun q => nomatch q), (fun q => nomatch q), (fun q => nomatch q)⟩
  · intro L a W i o hJ ho hL hdep K' hK
    obtain ⟨x18, x19, x20, x21, x22, x23, x24, x25, x26, x27, x28, x29, x30, x31, x32, x33, x34, x35, x8, rfl, hB, h0, h1, h2, h3, h4, h5, h6, h7, h8, h9, h10, h11, h12, h13, h14, h15, h16, h17, h18, h19, c6, c13, c16, c17, c19⟩ := hJ
    have hi : i < 20 := by simpa using (Array.getElem?_eq_some_iff.1 ho).1
    have C0 : W.cell? ⟨w.heap.size, 0, none⟩ = some (.slice (some a1) n c) := (hB.cell z0).trans c0
    have C1 : W.cell? ⟨w.heap.size, 1, none⟩ = some (.slice (some a2) n2 c2) := (hB.cell z0).trans c1
    have K0 : W.cell? ⟨w.heap.size + 1, 0, none⟩ = some (.slice (some d1) m e') := (hB.cell z1).trans k0
    have K1 : W.cell? ⟨w.heap.size + 1, 1, none⟩ = some (.slice (some d2) m2 e2) := (hB.cell z1).trans k1
    obtain rfl | rfl | rfl | rfl | rfl | rfl | rfl | rfl | rfl | rfl | rfl | rfl | rfl | rfl | rfl | rfl | rfl | rfl | rfl | rfl : i = 0 ∨ i = 1 ∨ i = 2 ∨ i = 3 ∨ i = 4 ∨ i = 5 ∨ i = 6 ∨ i = 7 ∨ i = 8 ∨ i = 9 ∨ i = 10 ∨ i = 11 ∨ i = 12 ∨ i = 13 ∨ i = 14 ∨ i = 15 ∨ i = 16 ∨ i = 17 ∨ i = 18 ∨ i = 19 := by omega
    · -- operation 0
      cases ho
      go_simp
      exact hK _ _ ⟨_, _, _, _, _, _, _, _, _, _, _, _, _, _, _, _, _, _, _, rfl, hB.alloc hB.size _, fun _ _ => ⟨_, rfl, World.ownsRow_made W #[] 0 hB.size (by unfold maxLen; omega) rfl⟩, h1, h2, fun q r => let ⟨g, c, e, o⟩ := h3 q r; ⟨g, c, e, o.alloc _⟩, h4, h5, fun q => let ⟨g, c, e, o⟩ := h6 q; ⟨g, c, e, o.alloc _⟩, fun q r => let ⟨g, e, o⟩ := h7 q r; ⟨g, e, o.alloc _⟩, h8, h9, fun q r => let ⟨g, c, e, o⟩ := h10 q r; ⟨g, c, e, o.alloc _⟩, h11, fun q r => let ⟨g, e, hp⟩ := h12 q r; ⟨g, e, heap_keep hp _⟩, fun q r => let ⟨g, c, e, o⟩ := h13 q r; ⟨g, c, e, o.alloc _⟩, h14, h15, fun q => let ⟨g, c, e, o⟩ := h16 q; ⟨g, c, e, o.alloc _⟩, h17, fun q r => let ⟨g, e, l, hp⟩ := h18 q r; ⟨g, e, l, heap_keep hp _⟩, fun q => let ⟨g, e, l, hp⟩ := h19 q; ⟨g, e, l, heap_keep hp _⟩, fun q => ((c6 q)), fun q => ((c13 q)), fun q => ⟨(c16 q).1, (c16 q).2⟩, fun q => ⟨(c17 q).1, (c17 q).2⟩, fun q => ⟨(c19 q).1, (c19 q).2.1, (c19 q).2.2⟩⟩
    · -- operation 1
      cases ho
      go_simp
      exact hK _ _ ⟨_, _, _, _, _, _, _, _, _, _, _, _, _, _, _, _, _, _, _, rfl, hB, h0, fun _ => rfl, h2, h3, h4, h5, h6, h7, h8, h9, h10, h11, h12, h13, h14, h15, h16, h17, h18, h19, fun q => ((c6 q)), fun q => ((c13 q)), fun q => ⟨(c16 q).1, (c16 q).2⟩, fun q => ⟨(c17 q).1, (c17 q).2⟩, fun q => ⟨(c19 q).1, (c19 q).2.1, (c19 q).2.2⟩⟩
    · -- operation 2
      cases ho
      obtain rfl := h1 (hdep ⟨1, .data⟩ (by simp) rfl)
      go_simp
      exact hK _ _ ⟨_, _, _, _, _, _, _, _, _, _, _, _, _, _, _, _, _, _, _, rfl, hB, h0, h1, fun _ => rfl, h3, h4, h5, h6, h7, h8, h9, h10, h11, h12, h13, h14, h15, h16, h17, h18, h19, fun q => ((c6 q)), fun q => ((c13 q)), fun q => ⟨(c16 q).1, (c16 q).2⟩, fun q => ⟨(c17 q).1, (c17 q).2⟩, fun q => ⟨(c19 q).1, (c19 q).2.1, (c19 q).2.2⟩⟩
    · -- operation 3
      cases ho
      obtain ⟨g, rfl, oe⟩ := h0 (hdep ⟨0, .data⟩ (by simp) rfl) hL
      obtain rfl := h2 (hdep ⟨2, .data⟩ (by simp) rfl)
      refine step_append rfl (.tmp 18) (.tmp 20) 24 rfl w2.heap.size 71 j0 (.agg #[.int .i64 0, .int .i64 0, .int .i64 0]) 3 24 Try.underlying24 hj jz0 jz1 jz2 rfl (by decide) (.slice (some ⟨g, 0, none⟩) 0 0) 0 [] rfl oe a1 n c (flat rs) rfl F1.out (N1.out W (B2.out.trans (hB.mono B2.out.size))) (flat_one _) (by unfold maxLen; omega) (by omega) hB.size (by simp) ?_
      intro g1 cap w9 hown hgr
      rw [Nat.zero_add, List.nil_append] at hown
      rw [Nat.zero_add]
      exact hK _ _ ⟨_, _, _, _, _, _, _, _, _, _, _, _, _, _, _, _, _, _, _, rfl, hB.grown hgr hB.size (fun q e => (oe.lt q e).1), (fun _ q => nomatch q), h1, h2, fun _ _ => ⟨_, _, rfl, hown⟩, h4, h5, (fun q => by have z := (c6 q); rw [hL] at z; exact nomatch z), fun q r => let ⟨g, e, o⟩ := h7 q r; ⟨g, e, o.kept hgr (own_ne o oe (by decide))⟩, h8, h9, fun q r => let ⟨g, c, e, o⟩ := h10 q r; ⟨g, c, e, o.kept hgr (own_ne o oe (by decide))⟩, h11, fun q r => let ⟨g, e, hp⟩ := h12 q r; ⟨g, e, (hgr.block g (Array.getElem?_eq_some_iff.1 hp).1 (Ne.symm (own_off oe hp (by decide)))).trans hp⟩, fun q r => let ⟨g, c, e, o⟩ := h13 q r; ⟨g, c, e, o.kept hgr (own_ne o oe (by decide))⟩, h14, h15, fun q => let ⟨g, c, e, o⟩ := h16 q; ⟨g, c, e, o.kept hgr (own_ne o oe (by decide))⟩, h17, fun q r => let ⟨g, e, l, hp⟩ := h18 q r; ⟨g, e, l, (hgr.block g (Array.getElem?_eq_some_iff.1 hp).1 (Ne.symm (own_off oe hp (by decide)))).trans hp⟩, fun q => let ⟨g, e, l, hp⟩ := h19 q; ⟨g, e, l, (hgr.block g (Array.getElem?_eq_some_iff.1 hp).1 (Ne.symm (own_off oe hp (by decide)))).trans hp⟩, fun q => (rfl), fun q => ((c13 q)), fun q => ⟨(c16 q).1, (c16 q).2⟩, fun q => ⟨(c17 q).1, (c17 q).2⟩, fun q => ⟨(c19 q).1, (c19 q).2.1, (c19 q).2.2⟩⟩
    · -- operation 4
      cases ho
      go_simp
      exact hK _ _ ⟨_, _, _, _, _, _, _, _, _, _, _, _, _, _, _, _, _, _, _, rfl, hB, h0, h1, h2, h3, fun _ => rfl, h5, h6, h7, h8, h9, h10, h11, h12, h13, h14, h15, h16, h17, h18, h19, fun q => ((c6 q)), fun q => ((c13 q)), fun q => ⟨(c16 q).1, (c16 q).2⟩, fun q => ⟨(c17 q).1, (c17 q).2⟩, fun q => ⟨(c19 q).1, (c19 q).2.1, (c19 q).2.2⟩⟩
    · -- operation 5
      cases ho
      obtain rfl := h4 (hdep ⟨4, .data⟩ (by simp) rfl)
      go_simp
      exact hK _ _ ⟨_, _, _, _, _, _, _, _, _, _, _, _, _, _, _, _, _, _, _, rfl, hB, h0, h1, h2, h3, h4, fun _ => rfl, h6, h7, h8, h9, h10, h11, h12, h13, h14, h15, h16, h17, h18, h19, fun q => ((c6 q)), fun q => ((c13 q)), fun q => ⟨(c16 q).1, (c16 q).2⟩, fun q => ⟨(c17 q).1, (c17 q).2⟩, fun q => ⟨(c19 q).1, (c19 q).2.1, (c19 q).2.2⟩⟩
    · -- operation 6
      cases ho
      obtain ⟨g, cE, rfl, oe⟩ := h3 (hdep ⟨3, .data⟩ (by simp) rfl) hL
      have hdep3 := hdep ⟨3, .data⟩ (by simp) rfl
      obtain rfl := h5 (hdep ⟨5, .data⟩ (by simp) rfl)
      refine step_append rfl (.tmp 21) (.tmp 23) 24 rfl w2.heap.size 71 j0 (.agg #[.int .i64 0, .int .i64 0, .int .i64 0]) 3 24 Try.underlying24 hj jz0 jz1 jz2 rfl (by decide) (.slice (some ⟨g, 0, none⟩) n cE) n (flat rs) rfl oe d1 m e' (flat ts) rfl F2.out (N2.out W (B2.out.trans (hB.mono B2.out.size))) (flat_one _) (by unfold maxLen; omega) (by omega) hB.size (by simp) ?_
      intro g1 cap w9 hown hgr
      exact hK _ _ ⟨_, _, _, _, _, _, _, _, _, _, _, _, _, _, _, _, _, _, _, rfl, hB.grown hgr hB.size (fun q e => (oe.lt q e).1), (fun _ r => nomatch (hdep3.symm.trans r)), h1, h2, (fun _ q => nomatch q), h4, h5, fun _ => ⟨_, _, rfl, hown⟩, fun q r => let ⟨g, e, o⟩ := h7 q r; ⟨g, e, o.kept hgr (own_ne o oe (by decide))⟩, h8, h9, fun q r => let ⟨g, c, e, o⟩ := h10 q r; ⟨g, c, e, o.kept hgr (own_ne o oe (by decide))⟩, h11, fun q r => let ⟨g, e, hp⟩ := h12 q r; ⟨g, e, (hgr.block g (Array.getElem?_eq_some_iff.1 hp).1 (Ne.symm (own_off oe hp (by decide)))).trans hp⟩, fun q r => let ⟨g, c, e, o⟩ := h13 q r; ⟨g, c, e, o.kept hgr (own_ne o oe (by decide))⟩, h14, h15, fun q => let ⟨g, c, e, o⟩ := h16 q; ⟨g, c, e, o.kept hgr (own_ne o oe (by decide))⟩, (fun q => by have z := (c17 q).1; rw [hL] at z; exact nomatch z), fun q r => let ⟨g, e, l, hp⟩ := h18 q r; ⟨g, e, l, (hgr.block g (Array.getElem?_eq_some_iff.1 hp).1 (Ne.symm (own_off oe hp (by decide)))).trans hp⟩, (fun q => by have z := (c19 q).2.1; rw [hL] at z; exact nomatch z), fun _ => (hdep3), fun q => ((c13 q)), fun q => ⟨(c16 q).1, (c16 q).2⟩, fun q => ⟨rfl, (c17 q).2⟩, fun q => ⟨(c19 q).1, rfl, (c19 q).2.2⟩⟩
    · -- operation 7
      cases ho
      go_simp
      exact hK _ _ ⟨_, _, _, _, _, _, _, _, _, _, _, _, _, _, _, _, _, _, _, rfl, hB.alloc hB.size _, fun q r => let ⟨g, e, o⟩ := h0 q r; ⟨g, e, o.alloc _⟩, h1, h2, fun q r => let ⟨g, c, e, o⟩ := h3 q r; ⟨g, c, e, o.alloc _⟩, h4, h5, fun q => let ⟨g, c, e, o⟩ := h6 q; ⟨g, c, e, o.alloc _⟩, fun _ _ => ⟨_, rfl, World.ownsRow_made W #[] 0 hB.size (by unfold maxLen; omega) rfl⟩, h8, h9, fun q r => let ⟨g, c, e, o⟩ := h10 q r; ⟨g, c, e, o.alloc _⟩, h11, fun q r => let ⟨g, e, hp⟩ := h12 q r; ⟨g, e, heap_keep hp _⟩, fun q r => let ⟨g, c, e, o⟩ := h13 q r; ⟨g, c, e, o.alloc _⟩, h14, h15, fun q => let ⟨g, c, e, o⟩ := h16 q; ⟨g, c, e, o.alloc _⟩, h17, fun q r => let ⟨g, e, l, hp⟩ := h18 q r; ⟨g, e, l, heap_keep hp _⟩, fun q => let ⟨g, e, l, hp⟩ := h19 q; ⟨g, e, l, heap_keep hp _⟩, fun q => ((c6 q)), fun q => ((c13 q)), fun q => ⟨(c16 q).1, (c16 q).2⟩, fun q => ⟨(c17 q).1, (c17 q).2⟩, fun q => ⟨(c19 q).1, (c19 q).2.1, (c19 q).2.2⟩⟩
    · -- operation 8
      cases ho
      go_simp
      exact hK _ _ ⟨_, _, _, _, _, _, _, _, _, _, _, _, _, _, _, _, _, _, _, rfl, hB, h0, h1, h2, h3, h4, h5, h6, h7, fun _ => rfl, h9, h10, h11, h12, h13, h14, h15, h16, h17, h18, h19, fun q => ((c6 q)), fun q => ((c13 q)), fun q => ⟨(c16 q).1, (c16 q).2⟩, fun q => ⟨(c17 q).1, (c17 q).2⟩, fun q => ⟨(c19 q).1, (c19 q).2.1, (c19 q).2.2⟩⟩
    · -- operation 9
      cases ho
      obtain rfl := h8 (hdep ⟨8, .data⟩ (by simp) rfl)
      go_simp
      exact hK _ _ ⟨_, _, _, _, _, _, _, _, _, _, _, _, _, _, _, _, _, _, _, rfl, hB, h0, h1, h2, h3, h4, h5, h6, h7, h8, fun _ => rfl, h10, h11, h12, h13, h14, h15, h16, h17, h18, h19, fun q => ((c6 q)), fun q => ((c13 q)), fun q => ⟨(c16 q).1, (c16 q).2⟩, fun q => ⟨(c17 q).1, (c17 q).2⟩, fun q => ⟨(c19 q).1, (c19 q).2.1, (c19 q).2.2⟩⟩
    · -- operation 10
      cases ho
      obtain ⟨g, rfl, oe⟩ := h7 (hdep ⟨7, .data⟩ (by simp) rfl) hL
      obtain rfl := h9 (hdep ⟨9, .data⟩ (by simp) rfl)
      refine step_append rfl (.tmp 25) (.tmp 27) 25 rfl w2.heap.size 3 i0 (.int .i64 0) 1 8 Try.underlying25 hi0 iz0 iz1 iz2 rfl (by decide) (.slice (some ⟨g, 0, none⟩) 0 0) 0 [] rfl oe a2 n2 c2 (zs.map (.int .i64)) rfl F3.out (N3.out W (B2.out.trans (hB.mono B2.out.size))) (ints_one _) (by unfold maxLen; omega) (by omega) hB.size (by simp) ?_
      intro g1 cap w9 hown hgr
      rw [Nat.zero_add, List.nil_append] at hown
      rw [Nat.zero_add]
      exact hK _ _ ⟨_, _, _, _, _, _, _, _, _, _, _, _, _, _, _, _, _, _, _, rfl, hB.grown hgr hB.size (fun q e => (oe.lt q e).1), fun q r => let ⟨g, e, o⟩ := h0 q r; ⟨g, e, o.kept hgr (own_ne o oe (by decide))⟩, h1, h2, fun q r => let ⟨g, c, e, o⟩ := h3 q r; ⟨g, c, e, o.kept hgr (own_ne o oe (by decide))⟩, h4, h5, fun q => let ⟨g, c, e, o⟩ := h6 q; ⟨g, c, e, o.kept hgr (own_ne o oe (by decide))⟩, (fun _ q => nomatch q), h8, h9, fun _ _ => ⟨_, _, rfl, hown⟩, h11, fun q r => let ⟨g, e, hp⟩ := h12 q r; ⟨g, e, (hgr.block g (Array.getElem?_eq_some_iff.1 hp).1 (Ne.symm (own_off0 oe hp (by simp)))).trans hp⟩, (fun q => by have z := (c13 q); rw [hL] at z; exact nomatch z), h14, h15, (fun q => by have z := (c16 q).2; rw [hL] at z; exact nomatch z), h17, fun q r => let ⟨g, e, l, hp⟩ := h18 q r; ⟨g, e, l, (hgr.block g (Array.getElem?_eq_some_iff.1 hp).1 (Ne.symm (own_off oe hp (by decide)))).trans hp⟩, fun q => let ⟨g, e, l, hp⟩ := h19 q; ⟨g, e, l, (hgr.block g (Array.getElem?_eq_some_iff.1 hp).1 (Ne.symm (own_off oe hp (by decide)))).trans hp⟩, fun q => ((c6 q)), fun q => (rfl), fun q => ⟨(c16 q).1, rfl⟩, fun q => ⟨(c17 q).1, (c17 q).2⟩, fun q => ⟨(c19 q).1, (c19 q).2.1, (c19 q).2.2⟩⟩
    · -- operation 11
      cases ho
      go_simp
      exact hK _ _ ⟨_, _, _, _, _, _, _, _, _, _, _, _, _, _, _, _, _, _, _, rfl, hB, h0, h1, h2, h3, h4, h5, h6, h7, h8, h9, h10, fun _ => rfl, h12, h13, h14, h15, h16, h17, h18, h19, fun q => ((c6 q)), fun q => ((c13 q)), fun q => ⟨(c16 q).1, (c16 q).2⟩, fun q => ⟨(c17 q).1, (c17 q).2⟩, fun q => ⟨(c19 q).1, (c19 q).2.1, (c19 q).2.2⟩⟩
    · -- operation 12
      cases ho
      obtain rfl := h11 (hdep ⟨11, .data⟩ (by simp) rfl)
      go_simp
      exact hK _ _ ⟨_, _, _, _, _, _, _, _, _, _, _, _, _, _, _, _, _, _, _, rfl, hB.alloc hB.size _, fun q r => let ⟨g, e, o⟩ := h0 q r; ⟨g, e, o.alloc _⟩, h1, h2, fun q r => let ⟨g, c, e, o⟩ := h3 q r; ⟨g, c, e, o.alloc _⟩, h4, h5, fun q => let ⟨g, c, e, o⟩ := h6 q; ⟨g, c, e, o.alloc _⟩, fun q r => let ⟨g, e, o⟩ := h7 q r; ⟨g, e, o.alloc _⟩, h8, h9, fun q r => let ⟨g, c, e, o⟩ := h10 q r; ⟨g, c, e, o.alloc _⟩, fun _ => rfl, fun _ _ => ⟨_, rfl, heap_alloc_new W _⟩, fun q r => let ⟨g, c, e, o⟩ := h13 q r; ⟨g, c, e, o.alloc _⟩, h14, h15, fun q => let ⟨g, c, e, o⟩ := h16 q; ⟨g, c, e, o.alloc _⟩, h17, fun q r => let ⟨g, e, l, hp⟩ := h18 q r; ⟨g, e, l, heap_keep hp _⟩, fun q => let ⟨g, e, l, hp⟩ := h19 q; ⟨g, e, l, heap_keep hp _⟩, fun q => ((c6 q)), fun q => ((c13 q)), fun q => ⟨(c16 q).1, (c16 q).2⟩, fun q => ⟨(c17 q).1, (c17 q).2⟩, fun q => ⟨(c19 q).1, (c19 q).2.1, (c19 q).2.2⟩⟩
    · -- operation 13
      cases ho
      obtain ⟨g, cE, rfl, oe⟩ := h10 (hdep ⟨10, .data⟩ (by simp) rfl) hL
      have hdep10 := hdep ⟨10, .data⟩ (by simp) rfl
      obtain ⟨gs, rfl, hps⟩ := h12 (hdep ⟨12, .data⟩ (by simp) rfl) hL
      refine step_append rfl (.tmp 28) (.tmp 30) 25 rfl w2.heap.size 3 i0 (.int .i64 0) 1 8 Try.underlying25 hi0 iz0 iz1 iz2 rfl (by decide) (.slice (some ⟨g, 0, none⟩) n2 cE) n2 (zs.map (.int .i64)) rfl oe ⟨gs, 0, none⟩ 1 1 [.int .i64 rise] rfl rfl (fun j u hu => by obtain ⟨a', ea, -, hc⟩ := has_cell1 hps j u hu; injection ea with ea; subst ea; exact hc) (by simp [Value.oneCell']) (by unfold maxLen; omega) (by omega) hB.size (by simp) ?_
      intro g1 cap w9 hown hgr
      exact hK _ _ ⟨_, _, _, _, _, _, _, _, _, _, _, _, _, _, _, _, _, _, _, rfl, hB.grown hgr hB.size (fun q e => (oe.lt q e).1), fun q r => let ⟨g, e, o⟩ := h0 q r; ⟨g, e, o.kept hgr (own_ne o oe (by decide))⟩, h1, h2, fun q r => let ⟨g, c, e, o⟩ := h3 q r; ⟨g, c, e, o.kept hgr (own_ne o oe (by decide))⟩, h4, h5, fun q => let ⟨g, c, e, o⟩ := h6 q; ⟨g, c, e, o.kept hgr (own_ne o oe (by decide))⟩, (fun _ r => nomatch (hdep10.symm.trans r)), h8, h9, (fun _ q => nomatch q), h11, (fun _ q => nomatch q), fun _ _ => ⟨_, _, rfl, hown⟩, h14, h15, (fun q => by have z := (c16 q).1; rw [hL] at z; exact nomatch z), h17, fun q r => let ⟨g, e, l, hp⟩ := h18 q r; ⟨g, e, l, (hgr.block g (Array.getElem?_eq_some_iff.1 hp).1 (Ne.symm (own_off oe hp (by decide)))).trans hp⟩, fun q => let ⟨g, e, l, hp⟩ := h19 q; ⟨g, e, l, (hgr.block g (Array.getElem?_eq_some_iff.1 hp).1 (Ne.symm (own_off oe hp (by decide)))).trans hp⟩, fun q => ((c6 q)), fun _ => (hdep10), fun q => ⟨rfl, (c16 q).2⟩, fun q => ⟨(c17 q).1, (c17 q).2⟩, fun q => ⟨(c19 q).1, (c19 q).2.1, (c19 q).2.2⟩⟩
    · -- operation 14
      cases ho
      go_simp
      exact hK _ _ ⟨_, _, _, _, _, _, _, _, _, _, _, _, _, _, _, _, _, _, _, rfl, hB, h0, h1, h2, h3, h4, h5, h6, h7, h8, h9, h10, h11, h12, h13, fun _ => rfl, h15, h16, h17, h18, h19, fun q => ((c6 q)), fun q => ((c13 q)), fun q => ⟨(c16 q).1, (c16 q).2⟩, fun q => ⟨(c17 q).1, (c17 q).2⟩, fun q => ⟨(c19 q).1, (c19 q).2.1, (c19 q).2.2⟩⟩
    · -- operation 15
      cases ho
      obtain rfl := h14 (hdep ⟨14, .data⟩ (by simp) rfl)
      go_simp
      exact hK _ _ ⟨_, _, _, _, _, _, _, _, _, _, _, _, _, _, _, _, _, _, _, rfl, hB, h0, h1, h2, h3, h4, h5, h6, h7, h8, h9, h10, h11, h12, h13, h14, fun _ => rfl, h16, h17, h18, h19, fun q => ((c6 q)), fun q => ((c13 q)), fun q => ⟨(c16 q).1, (c16 q).2⟩, fun q => ⟨(c17 q).1, (c17 q).2⟩, fun q => ⟨(c19 q).1, (c19 q).2.1, (c19 q).2.2⟩⟩
    · -- operation 16
      cases ho
      obtain ⟨g, cE, rfl, oe⟩ := h13 (hdep ⟨13, .data⟩ (by simp) rfl) hL
      have hdep13 := hdep ⟨13, .data⟩ (by simp) rfl
      have hdep10 := c13 hdep13
      obtain rfl := h15 (hdep ⟨15, .data⟩ (by simp) rfl)
      refine step_append rfl (.tmp 31) (.tmp 33) 25 rfl w2.heap.size 3 i0 (.int .i64 0) 1 8 Try.underlying25 hi0 iz0 iz1 iz2 rfl (by decide) (.slice (some ⟨g, 0, none⟩) (n2 + 1) cE) (n2 + 1) ((zs.map (.int .i64)) ++ [.int .i64 rise]) rfl oe d2 m2 e2 (ys.map (.int .i64)) rfl F4.out (N4.out W (B2.out.trans (hB.mono B2.out.size))) (ints_one _) (by unfold maxLen; omega) (by omega) hB.size (by simp) ?_
      intro g1 cap w9 hown hgr
      exact hK _ _ ⟨_, _, _, _, _, _, _, _, _, _, _, _, _, _, _, _, _, _, _, rfl, hB.grown hgr hB.size (fun q e => (oe.lt q e).1), fun q r => let ⟨g, e, o⟩ := h0 q r; ⟨g, e, o.kept hgr (own_ne o oe (by decide))⟩, h1, h2, fun q r => let ⟨g, c, e, o⟩ := h3 q r; ⟨g, c, e, o.kept hgr (own_ne o oe (by decide))⟩, h4, h5, fun q => let ⟨g, c, e, o⟩ := h6 q; ⟨g, c, e, o.kept hgr (own_ne o oe (by decide))⟩, (fun _ r => nomatch (hdep10.symm.trans r)), h8, h9, (fun _ r => nomatch (hdep13.symm.trans r)), h11, (fun _ r => nomatch (hdep13.symm.trans r)), (fun _ q => nomatch q), h14, h15, fun _ => ⟨_, _, rfl, hown⟩, (fun q => by have z := (c17 q).2; rw [hL] at z; exact nomatch z), fun q r => let ⟨g, e, l, hp⟩ := h18 q r; ⟨g, e, l, (hgr.block g (Array.getElem?_eq_some_iff.1 hp).1 (Ne.symm (own_off oe hp (by decide)))).trans hp⟩, (fun q => by have z := (c19 q).2.2; rw [hL] at z; exact nomatch z), fun q => ((c6 q)), fun q => ((c13 q)), fun _ => ⟨hdep13, hdep10⟩, fun q => ⟨(c17 q).1, rfl⟩, fun q => ⟨(c19 q).1, (c19 q).2.1, rfl⟩⟩
    · -- operation 17
      cases ho
      obtain ⟨ga6, ca6, rfl, oa6⟩ := h6 (hdep ⟨6, .data⟩ (by simp) rfl)
      have hdep6 : L 6 = true := hdep ⟨6, .data⟩ (by simp) rfl
      obtain ⟨ga16, ca16, rfl, oa16⟩ := h16 (hdep ⟨16, .data⟩ (by simp) rfl)
      have hdep16 : L 16 = true := hdep ⟨16, .data⟩ (by simp) rfl
      go_simp
      exact hK _ _ ⟨_, _, _, _, _, _, _, _, _, _, _, _, _, _, _, _, _, _, _, rfl, hB, h0, h1, h2, h3, h4, h5, fun _ => ⟨_, _, rfl, oa6⟩, h7, h8, h9, h10, h11, h12, h13, h14, h15, fun _ => ⟨_, _, rfl, oa16⟩, fun _ => rfl, h18, h19, fun q => ((c6 q)), fun q => ((c13 q)), fun q => ⟨(c16 q).1, (c16 q).2⟩, fun _ => ⟨hdep6, hdep16⟩, fun q => ⟨(c19 q).1, (c19 q).2.1, (c19 q).2.2⟩⟩
    · -- operation 18
      cases ho
      go_simp
      exact hK _ _ ⟨_, _, _, _, _, _, _, _, _, _, _, _, _, _, _, _, _, _, _, rfl, hB.alloc hB.size _, fun q r => let ⟨g, e, o⟩ := h0 q r; ⟨g, e, o.alloc _⟩, h1, h2, fun q r => let ⟨g, c, e, o⟩ := h3 q r; ⟨g, c, e, o.alloc _⟩, h4, h5, fun q => let ⟨g, c, e, o⟩ := h6 q; ⟨g, c, e, o.alloc _⟩, fun q r => let ⟨g, e, o⟩ := h7 q r; ⟨g, e, o.alloc _⟩, h8, h9, fun q r => let ⟨g, c, e, o⟩ := h10 q r; ⟨g, c, e, o.alloc _⟩, h11, fun q r => let ⟨g, e, hp⟩ := h12 q r; ⟨g, e, heap_keep hp _⟩, fun q r => let ⟨g, c, e, o⟩ := h13 q r; ⟨g, c, e, o.alloc _⟩, h14, h15, fun q => let ⟨g, c, e, o⟩ := h16 q; ⟨g, c, e, o.alloc _⟩, h17, fun _ _ => ⟨_, rfl, hB.size, heap_alloc_new W _⟩, (fun q => by have z := (c19 q).1; rw [hL] at z; exact nomatch z), fun q => ((c6 q)), fun q => ((c13 q)), fun q => ⟨(c16 q).1, (c16 q).2⟩, fun q => ⟨(c17 q).1, (c17 q).2⟩, fun q => ⟨rfl, (c19 q).2.1, (c19 q).2.2⟩⟩
    · -- operation 19
      cases ho
      have hdep18 : L 18 = true := hdep ⟨18, .data⟩ (by simp) rfl
      have hbd : L 17 = true := hdep ⟨17, .data⟩ (by simp) rfl
      have hdep6 : L 6 = true := (c17 hbd).1
      have hdep16 : L 16 = true := (c17 hbd).2
      obtain ⟨g, rfl, hgl, hp0⟩ := h18 hdep18 hL
      obtain rfl := h17 hbd
      obtain ⟨ga6, ca6, rfl, oa6⟩ := h6 hdep6
      obtain ⟨ga16, ca16, rfl, oa16⟩ := h16 hdep16
      have s0 := cell_of_row W g 0 _ _ _ hp0
      have s1 := cell_of_row W g 1 _ _ _ hp0
      have s2 := frozen_of_row W g 0 _ _ hp0
      have s3 := frozen_of_row W g 1 _ _ hp0
      go_simp
      exact hK _ _ ⟨_, _, _, _, _, _, _, _, _, _, _, _, _, _, _, _, _, _, _, rfl, (hB.setCell (p := ⟨g, 0, none⟩) hgl _).setCell (p := ⟨g, 1, none⟩) hgl _, fun q r => let ⟨g, e, o⟩ := h0 q r; ⟨g, e, own_set (own_set o _ _ _ (own_off o hp0 (by decide))) _ _ _ (own_off o hp0 (by decide))⟩, h1, h2, fun q r => let ⟨g, c, e, o⟩ := h3 q r; ⟨g, c, e, own_set (own_set o _ _ _ (own_off o hp0 (by decide))) _ _ _ (own_off o hp0 (by decide))⟩, h4, h5, fun _ => ⟨_, _, rfl, own_set (own_set oa6 _ _ _ (own_off oa6 hp0 (by decide))) _ _ _ (own_off oa6 hp0 (by decide))⟩, fun q r => let ⟨g, e, o⟩ := h7 q r; ⟨g, e, own_set (own_set o _ _ _ (own_off o hp0 (by decide))) _ _ _ (own_off o hp0 (by decide))⟩, h8, h9, fun q r => let ⟨g, c, e, o⟩ := h10 q r; ⟨g, c, e, own_set (own_set o _ _ _ (own_off o hp0 (by decide))) _ _ _ (own_off o hp0 (by decide))⟩, h11, fun q r => let ⟨g, e, hp⟩ := h12 q r; ⟨g, e, heap_set_off hp hp0 (by decide)⟩, fun q r => let ⟨g, c, e, o⟩ := h13 q r; ⟨g, c, e, own_set (own_set o _ _ _ (own_off o hp0 (by decide))) _ _ _ (own_off o hp0 (by decide))⟩, h14, h15, fun _ => ⟨_, _, rfl, own_set (own_set oa16 _ _ _ (own_off oa16 hp0 (by decide))) _ _ _ (own_off oa16 hp0 (by decide))⟩, (fun q => rfl), (fun _ q => nomatch q), fun _ => ⟨_, rfl, hgl, heap_set2 hp0⟩, fun q => ((c6 q)), fun q => ((c13 q)), fun q => ⟨(c16 q).1, (c16 q).2⟩, fun q => ⟨(c17 q).1, (c17 q).2⟩, fun _ => ⟨hdep18, hdep6, hdep16⟩⟩
  intro L3 a3 W3 hJ hall
  obtain ⟨x18, x19, x20, x21, x22, x23, x24, x25, x26, x27, x28, x29, x30, x31, x32, x33, x34, x35, x8, rfl, hB3, h0, h1, h2, h3, h4, h5, h6, h7, h8, h9, h10, h11, h12, h13, h14, h15, h16, h17, h18, h19, -, -, -, -, -⟩ := hJ
  clear h0
  obtain rfl := h1 (hall 1 (by decide))
  obtain rfl := h2 (hall 2 (by decide))
  clear h3
  obtain rfl := h4 (hall 4 (by decide))
  obtain rfl := h5 (hall 5 (by decide))
  clear h7
  obtain rfl := h8 (hall 8 (by decide))
  obtain rfl := h9 (hall 9 (by decide))
  clear h10
  obtain rfl := h11 (hall 11 (by decide))
  clear h12
  clear h13
  obtain rfl := h14 (hall 14 (by decide))
  obtain rfl := h15 (hall 15 (by decide))
  clear h18
  obtain rfl := h17 (hall 17 (by decide))
  obtain ⟨gr24, cr24, rfl, or24⟩ := h6 (hall 6 (by decide))
  obtain ⟨gr34, cr34, rfl, or34⟩ := h16 (hall 16 (by decide))
  obtain ⟨gp8, rfl, gl8, hp8⟩ := h19 (hall 19 (by decide))
  have IW : IsWay W3 W3.heap.size (some ⟨gr24, 0, none⟩) (n + m) (some ⟨gr34, 0, none⟩) (n2 + 1 + m2) (rs ++ ts) (zs ++ rise :: ys) := ⟨by rw [List.length_append, HW.out.len, KW.out.len], by rw [List.length_append, List.length_cons, HW.out.len2, KW.out.len2]; omega, Nat.le_refl _, by rw [flat_append]; exact own_hasv or24, by rw [show zs ++ rise :: ys = zs ++ [rise] ++ ys by simp, List.map_append, List.map_append]; exact own_hasv or34⟩
  have LN := Lib.hid (And.intro IW.len IW.len2)
  have r3 := (hB3.block (w.heap.size + 1 + 1) (by omega)).trans r2
  have d80 := cell_of_row W3 gp8 0 _ _ _ hp8
  have d81 := cell_of_row W3 gp8 1 _ _ _ hp8
  have B3 := Lib.hid (B2.out.trans (hB3.mono B2.out.size))
  have O1 := Lib.hid or24
  have O2 := Lib.hid or34
  have l1 := or24.lt _ rfl
  have l2 := or34.lt _ rfl
  have hsz := hB3.size
  have H8 := Lib.hid hp8
  have R3 := Lib.hid r3
  clear or24 or34 hp8 r2 r3 hB3 N1 N2 N3 N4 F1 F2 F3 F4 c0 c1 k0 k1
  have GG := Lib.hid (fun (b : Bool) (hy : goodW (rs ++ ts) (zs ++ rise :: ys) → b = true) (hn : ¬ goodW (rs ++ ts) (zs ++ rise :: ys) → b = false) (W : World) (hW : Below W3.heap.size W3 W) => (good_two cr24 cr34 (IW.below hW (Nat.le_refl _)) (by unfold maxLen; omega) b hy hn).1)
  clear IW
  go_wp2_with fail
  by_cases hj : goodW (rs ++ ts) (zs ++ rise :: ys)
  · obtain ⟨rfl, rfl, rfl⟩ := HQ.out.1 hj
    refine (GG.out true (fun _ => rfl) (fun g => absurd hj g) _ (Below.refl _ _)).mono ?_
    rintro e w4 ⟨rfl, hb⟩
    have r4 := (hb.block (w.heap.size + 1 + 1) (by omega)).trans R3.out
    have h9 := (hb.block gp8 (Array.getElem?_eq_some_iff.1 H8.out).1).trans H8.out
    have e0 := cell_of_row w4 _ 0 _ _ _ r4
    have e1 := cell_of_row w4 _ 1 _ _ _ r4
    have e0f := frozen_of_row w4 _ 0 _ _ r4
    have e1f := frozen_of_row w4 _ 1 _ _ r4
    have d0 := cell_of_row w4 _ 0 _ _ _ h9
    have dd1 := cell_of_row w4 _ 1 _ _ _ h9
    have B4 := Lib.hid (B3.out.trans (hb.mono B3.out.size))
    have P1 := Lib.hid (own_below O1.out hb)
    have P2 := Lib.hid (own_below O2.out hb)
    have R4 := Lib.hid r4
    clear hb r4 h9 GG HQ d80 d81 O1 O2 H8 R3 HW KW
    go_wp2_with fail
    have t1 := heap_set2 (u' := .slice (some ⟨gr24, 0, none⟩) (n + m) cr24) (v' := .slice (some ⟨gr34, 0, none⟩) (n2 + 1 + m2) cr34) R4.out
    refine bodyPost_ret (results_cell_tmp rfl _ _ (w.heap.size + 1 + 1) [.slice (some ⟨gr24, 0, none⟩) (n + m) cr24, .slice (some ⟨gr34, 0, none⟩) (n2 + 1 + m2) cr34] _ rfl (range2 (cell_of_row _ _ 0 _ _ _ t1) (cell_of_row _ _ 1 _ _ _ t1)) Try.underlying27 rfl (by kernel_rfl)) rfl ?_
    refine ⟨_, _, rfl, by rw [LN.out.1, flat_append]; exact own_set (own_set (own_low P1.out (by omega)) _ _ _ (by simp [Value.ownBlock]; omega)) _ _ _ (by simp [Value.ownBlock]; omega), by rw [LN.out.2, show zs ++ rise :: ys = zs ++ [rise] ++ ys by simp, List.map_append, List.map_append]; exact own_set (own_set (own_low P2.out (by omega)) _ _ _ (by simp [Value.ownBlock]; omega)) _ _ _ (by simp [Value.ownBlock]; omega), (B4.out.setCell (p := ⟨w.heap.size + 1 + 1, 0, none⟩) (by show w.heap.size ≤ w.heap.size + 1 + 1; omega) _).setCell (p := ⟨w.heap.size + 1 + 1, 1, none⟩) (by show w.heap.size ≤ w.heap.size + 1 + 1; omega) _⟩
  · obtain ⟨rfl, rfl, rfl⟩ := HQ.out.2 hj
    refine (GG.out false (fun g => absurd g hj) (fun _ => rfl) _ (Below.refl _ _)).mono ?_
    rintro e w4 ⟨rfl, hb⟩
    have r4 := (hb.block (w.heap.size + 1 + 1) (by omega)).trans R3.out
    have h9 := (hb.block gp8 (Array.getElem?_eq_some_iff.1 H8.out).1).trans H8.out
    have e0 := cell_of_row w4 _ 0 _ _ _ r4
    have e1 := cell_of_row w4 _ 1 _ _ _ r4
    have e0f := frozen_of_row w4 _ 0 _ _ r4
    have e1f := frozen_of_row w4 _ 1 _ _ r4
    have d0 := cell_of_row w4 _ 0 _ _ _ h9
    have dd1 := cell_of_row w4 _ 1 _ _ _ h9
    have B4 := Lib.hid (B3.out.trans (hb.mono B3.out.size))
    have P1 := Lib.hid (own_below O1.out hb)
    have P2 := Lib.hid (own_below O2.out hb)
    have R4 := Lib.hid r4
    clear hb r4 h9 GG HQ d80 d81 O1 O2 H8 R3 HW KW
    go_wp2_with fail
    have t1 := heap_set2 (u' := .slice none 0 0) (v' := .slice none 0 0) R4.out
    refine bodyPost_ret (results_cell_tmp rfl _ _ (w.heap.size + 1 + 1) [.slice none 0 0, .slice none 0 0] _ rfl (range2 (cell_of_row _ _ 0 _ _ _ t1) (cell_of_row _ _ 1 _ _ _ t1)) Try.underlying27 rfl (by kernel_rfl)) rfl ?_
    refine ⟨_, _, rfl, ⟨rfl, .inl ⟨rfl, rfl⟩⟩, ⟨rfl, .inl ⟨rfl, rfl⟩⟩, (B4.out.setCell (p := ⟨w.heap.size + 1 + 1, 0, none⟩) (by show w.heap.size ≤ w.heap.size + 1 + 1; omega) _).setCell (p := ⟨w.heap.size + 1 + 1, 1, none⟩) (by show w.heap.size ≤ w.heap.size + 1 + 1; omega) _⟩
end Go.Proofs.Ytomehioembakgaa
