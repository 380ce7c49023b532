/- Chapter 2: a waterway split: the model's. -/
import Derived.Test.YtomehioembakgaaWayMark
import Derived.Test.YtomehioembakgaaWayPos
import Derived.Test.YtomehioembakgaaInv
namespace Go.Proofs.Ytomehioembakgaa
open Go.RowKit Go.PlainAid

theorem heap_keep {w : World} {g : Nat} {x : Obj} (h : w.heap[g]? = some x) (o : Obj) : (w.alloc o).heap[g]? = some x := (heap_alloc_old w o (Array.getElem?_eq_some_iff.1 h).1).trans h
theorem flat_take : ∀ (rs : List (Int × Int × Int)) (m : Nat), flat (rs.take m) = (flat rs).take (m * 3)
  | [], m => by simp [flat]
  | r :: t, 0 => by simp [flat]
  | r :: t, m + 1 => by
    have e : (m + 1) * 3 = m * 3 + 1 + 1 + 1 := by omega
    simp only [List.take_succ_cons, flat, e, flat_take t m]
theorem flat_drop : ∀ (rs : List (Int × Int × Int)) (m : Nat), flat (rs.drop m) = (flat rs).drop (m * 3)
  | [], m => by simp [flat]
  | r :: t, 0 => by simp
  | r :: t, m + 1 => by
    have e : (m + 1) * 3 = m * 3 + 1 + 1 + 1 := by omega
    simp only [List.drop_succ_cons, flat, e, flat_drop t m]
theorem flat_one : ∀ (rs : List (Int × Int × Int)), ∀ u ∈ flat rs, u.oneCell' = true
  | [], u, hu => by simp [flat] at hu
  | r :: t, u, hu => by
    simp only [flat, List.mem_cons] at hu
    rcases hu with rfl | rfl | rfl | hu
    · rfl
    · rfl
    · rfl
    · exact flat_one t u hu
theorem ints_one (zs : List Int) : ∀ u ∈ zs.map (Value.int .i64), u.oneCell' = true := by
  intro u hu
  obtain ⟨z, -, rfl⟩ := List.mem_map.1 hu
  rfl
theorem Has.pre {w : World} {B : Nat} {a : Addr} {xs : List Value} (h : Has w B (some a) xs) (m : Nat) : ∀ (j : Nat) (u : Value), (xs.take m)[j]? = some u → w.cell? (a.add j) = some u := by
  intro j u hu
  have hj : j < m := by
    have := (List.getElem?_eq_some_iff.1 hu).1
    rw [List.length_take] at this
    omega
  rw [List.getElem?_take, if_pos hj] at hu
  obtain ⟨a', e, -, hc⟩ := h j u hu
  injection e with e
  subst e
  exact hc
theorem Has.suf {w : World} {B : Nat} {a : Addr} {xs : List Value} (h : Has w B (some a) xs) (m : Nat) : ∀ (j : Nat) (u : Value), (xs.drop m)[j]? = some u → w.cell? ((a.add m).add j) = some u := by
  intro j u hu
  rw [List.getElem?_drop] at hu
  obtain ⟨a', e, -, hc⟩ := h _ u hu
  injection e with e
  subst e
  rw [Go.Deep.add_add]
  exact hc

theorem results_cells2 {P : Program} {fn : Func} {p1 p2 t : Tmp} {ty : TypeId} (h : fn.results = #[.cell p1 ty, .cell p2 ty, .tmp t]) (tmps : Array Value) (w : World) (g1 g2 : Nat) (cs1 cs2 : List Value) (d : TypeDesc)
    (hp1 : tmps.getD p1 undef = .pointer (some ⟨g1, 0, none⟩)) (hp2 : tmps.getD p2 undef = .pointer (some ⟨g2, 0, none⟩)) (hc1 : w.rangeAt g1 0 cs1) (hc2 : w.rangeAt g2 0 cs2) (hu : P.underlying ty = some d) (hd : d.isRow = true)
    (hi1 : (P.info? ty).map (·.size) = some cs1.length) (hi2 : (P.info? ty).map (·.size) = some cs2.length) :
    (results fn tmps).run P w = .ok (.tuple #[.agg cs1.toArray, .agg cs2.toArray, tmps.getD t undef]) w := by
  have hp1' : tmps[p1]?.getD undef = .pointer (some ⟨g1, 0, none⟩) := by simpa using hp1
  have hp2' : tmps[p2]?.getD undef = .pointer (some ⟨g2, 0, none⟩) := by simpa using hp2
  simp [results, h, hp1', hp2', asAddr, run_loadVar_mid w g1 0 ty cs1 d hc1 hu hd hi1, run_loadVar_mid w g2 0 ty cs2 d hc2 hu hd hi2]

/-- The call hands back two waterways in memory of its own, and b. -/
def GivesTwo (w : World) (rs : List (Int × Int × Int)) (zs : List Int) (rs' : List (Int × Int × Int)) (zs' : List Int) (b : Bool) (e : Ending) (w' : World) : Prop :=
  ∃ v1 v2 v3 v4 : Value, e = .returned (.tuple #[.agg #[v1, v2], .agg #[v3, v4], .bool b]) ∧ w'.ownsRow w.heap.size 71 3 v1 rs.length (flat rs) ∧ w'.ownsRow w.heap.size 3 1 v2 zs.length (zs.map (.int .i64)) ∧
    w'.ownsRow w.heap.size 71 3 v3 rs'.length (flat rs') ∧ w'.ownsRow w.heap.size 3 1 v4 zs'.length (zs'.map (.int .i64)) ∧
    (v1.ownBlock = none ∨ v1.ownBlock ≠ v3.ownBlock) ∧ (v2.ownBlock = none ∨ v2.ownBlock ≠ v4.ownBlock) ∧ Below w.heap.size w w'

set_option maxRecDepth 100000 in
set_option maxHeartbeats 4000000 in
theorem specSpl_ok {w : World} {B : Nat} {A A2 : Option Addr} {n n2 : Nat} {rs : List (Int × Int × Int)} {zs : List Int} (c c2 : Nat) (hc : n ≤ c) (hc2 : n2 ≤ c2) (h : IsWay w B A n A2 n2 rs zs) (hm : n ≤ maxLen) (k : Nat) (hk : k < n2) (hg : goodW rs zs) :
    Calls Try.prog 41 #[.agg #[.slice A n c, .slice A2 n2 c2], .int .i64 k] w (GivesTwo w (rs.take (k + 1)) (zs.take k) (rs.drop (k + 1)) (zs.drop (k + 1)) true) := by
  have HG := Lib.hid (fun (W : World) (hW : Below w.heap.size w W) => (good_two c c2 (h.below hW h.low) hm true (fun _ => rfl) (fun g => absurd hg g)).1)
  have HW := Lib.hid h
  obtain ⟨j0, hj, jz0, jz1, jz2⟩ := info_parts Try.infoReach'
  obtain ⟨i0, hi0, iz0, iz1, iz2⟩ := info_parts Try.infoInt'
  obtain ⟨a1, rfl, -, -⟩ := h.has.reachAt (k := 0) (by rw [h.len]; have := hg.2.1; have := h.len; have := h.len2; omega)
  obtain ⟨a2, rfl, -, -⟩ := h.has2.intAt (k := k) (by rw [h.len2]; exact hk)
  have HLS : Hid ((rs.take (k + 1)).length = k + 1 ∧ (zs.take k).length = k ∧ (rs.drop (k + 1)).length = n - (k + 1) ∧ (zs.drop (k + 1)).length = n2 - (k + 1)) := Lib.hid (by
    have := h.len
    have := h.len2
    have := hg.2.1
    refine ⟨?_, ?_, ?_, ?_⟩ <;> simp <;> omega)
  have FD : Hid ((flat (rs.drop (k + 1))).length = (n - (k + 1)) * 3) := Lib.hid (by rw [flat_len, List.length_drop, h.len]; omega)
  have ZD : Hid (((zs.drop (k + 1)).map (Value.int .i64)).length = (n2 - (k + 1)) * 1) := Lib.hid (by rw [List.length_map, List.length_drop, h.len2]; omega)
  have ND1 : Hid (∀ W, Below w.heap.size w W → ∀ (j : Nat) (u : Value), (flat (rs.drop (k + 1)))[j]? = some u → W.cell? ((a1.add ((k + 1) * 3)).add j) = some u) := Lib.hid (fun W hW => by rw [flat_drop]; exact (h.has.below (hW.mono h.low)).suf _)
  obtain ⟨az, HZ0, ND2⟩ : ∃ az, (if c2 = k + 1 then some a2 else some (⟨a2.block, a2.off + (k + 1), none⟩ : Addr)) = some az ∧ Hid (∀ W, Below w.heap.size w W → ∀ (j : Nat) (u : Value), ((zs.drop (k + 1)).map (Value.int .i64))[j]? = some u → W.cell? (az.add j) = some u) := by
    by_cases hcz : c2 = k + 1
    · refine ⟨a2, if_pos hcz, Lib.hid (fun W hW j u hu => ?_)⟩
      have : zs.drop (k + 1) = [] := List.drop_eq_nil_of_le (by rw [h.len2]; omega)
      rw [this] at hu
      simp at hu
    · exact ⟨a2.add (k + 1), by rw [if_neg hcz, add_form _ _ (by omega)], Lib.hid (fun W hW => by rw [List.map_drop]; exact (h.has2.below (hW.mono h.low)).suf _)⟩
  have HZ := Lib.hid HZ0
  clear HZ0
  have FT : Hid ((flat (rs.take (k + 1))).length = (k + 1) * 3) := Lib.hid (by rw [flat_len, List.length_take]; have := h.len; have := h.len2; have := hg.2.1; omega)
  have ZT : Hid (((zs.take k).map (Value.int .i64)).length = k * 1) := Lib.hid (by rw [List.length_map, List.length_take]; have := h.len2; omega)
  have NT1 : Hid (∀ W, Below w.heap.size w W → ∀ (j : Nat) (u : Value), (flat (rs.take (k + 1)))[j]? = some u → W.cell? (a1.add j) = some u) := Lib.hid (fun W hW => by rw [flat_take]; exact (h.has.below (hW.mono h.low)).pre _)
  have NT2 : Hid (∀ W, Below w.heap.size w W → ∀ (j : Nat) (u : Value), ((zs.take k).map (Value.int .i64))[j]? = some u → W.cell? (a2.add j) = some u) := Lib.hid (fun W hW => by rw [List.map_take]; exact (h.has2.below (hW.mono h.low)).pre _)
  have hn6 : n ≤ 6 := by rw [← h.len]; exact hg.1.2
  have hn2 : n2 + 1 = n := by rw [← h.len, ← h.len2]; exact hg.2.1
  have LI0 : ∀ W, Calls Try.prog 56 #[.int .i64 (k : Int), .int .i64 0, .int .i64 ((n2 : Int) - 1)] W fun e w' => e = .returned (.bool true) ∧ W = w' := fun W => by
    have := l1In_any (k : Int) 0 ((n2 : Int) - 1) W
    rwa [decide_eq_true (by omega)] at this
  have LI := Lib.hid LI0
  clear LI0
  clear h hg
  go_enter Try.func41, Try.ntmps41
  go_wp2_with fail
  have hba : Below w.heap.size w (((w.alloc (.cells #[.slice (some a1) n c, .slice (some a2) n2 c2] 27)).alloc (.cells #[.slice none 0 0, .slice none 0 0] 27)).alloc (.cells #[.slice none 0 0, .slice none 0 0] 27)) :=
    (((Below.refl _ _).alloc (Nat.le_refl _) _).alloc (by simp) _).alloc (by simp; omega) _
  refine (HG.out _ hba).mono ?_
  rintro e w1 ⟨rfl, hb⟩
  simp only [World.size_alloc] at hb
  have c1 : w1.cell? ⟨w.heap.size, 1, none⟩ = some (.slice (some a2) n2 c2) := (hb.cell (by simp; omega)).trans ((World.cell?_alloc_lt _ _ _ (by simp; omega)).trans ((World.cell?_alloc_lt _ _ _ (by simp)).trans (by rw [cellNew]; rfl)))
  have c0 : w1.cell? ⟨w.heap.size, 0, none⟩ = some (.slice (some a1) n c) := (hb.cell (by simp; omega)).trans ((World.cell?_alloc_lt _ _ _ (by simp; omega)).trans ((World.cell?_alloc_lt _ _ _ (by simp)).trans (by rw [cellNew]; rfl)))
  go_wp2_with fail
  refine (LI.out _).mono ?_
  rintro e w2 ⟨rfl, rfl⟩
  go_wp2_with fail
  have zw1 : w.heap.size < w1.heap.size := by have := hb.size; simp at this; omega
  have B1 := Lib.hid (hba.trans (hb.mono (by omega)))
  have r1 : w1.heap[w.heap.size + 1]? = some (.cells #[.slice none 0 0, .slice none 0 0] 27 (0, 0)) := (hb.block _ (by omega)).trans ((heap_alloc_old ((w.alloc (.cells #[.slice (some a1) n c, .slice (some a2) n2 c2] 27)).alloc (.cells #[.slice none 0 0, .slice none 0 0] 27)) _ (by simp)).trans (heap_alloc2_new w _ _))
  have r2 : w1.heap[w.heap.size + 1 + 1]? = some (.cells #[.slice none 0 0, .slice none 0 0] 27 (0, 0)) := (hb.block _ (by omega)).trans (by
    have := heap_alloc_new ((w.alloc (.cells #[.slice (some a1) n c, .slice (some a2) n2 c2] 27)).alloc (.cells #[.slice none 0 0, .slice none 0 0] 27)) (.cells #[.slice none 0 0, .slice none 0 0] 27)
    simpa using this)
  clear HG LI hba hb
  refine region_inv (by kernel_rfl) (by kernel_rfl) (fun L a W => ∃ (x23 x24 x25 x26 x27 x28 x29 x30 x31 x32 x33 x34 x35 x36 x7 : Value), a = { tmps := #[.agg #[.slice (some a1) n c, .slice (some a2) n2 c2], .int .i64 k, .pointer (some ⟨w.heap.size, 0, none⟩), undef, .pointer (some ⟨w.heap.size + 1, 0, none⟩), .pointer (some ⟨w.heap.size + 1 + 1, 0, none⟩), .bool false, x7, undef, .agg #[.slice (some a1) n c, .slice (some a2) n2 c2], .bool true, .bool false, .bool false, .int .i64 k, .pointer (some ⟨w.heap.size, 1, none⟩), .slice (some a2) n2 c2, .int .i64 n2, .int .i64 ((n2 : Int) - 1), .bool true, .bool false, .bool false, undef, undef, x23, x24, x25, x26, x27, x28, x29, x30, x31, x32, x33, x34, x35, x36, undef, undef, undef, undef, undef, undef, undef, undef, undef, undef, undef, undef, undef, undef, undef, undef, undef], defers := [] } ∧ Below w1.heap.size w1 W ∧
      (L 0 = true → L 6 = false → ∃ g, x23 = .slice (some ⟨g, 0, none⟩) 0 0 ∧ W.ownsRow w1.heap.size 71 3 x23 0 []) ∧
      (L 1 = true → x24 = .pointer (some ⟨w.heap.size, 0, none⟩)) ∧
      (L 2 = true → x25 = .slice (some a1) n c) ∧
      (L 3 = true → x26 = .int .i64 k) ∧
      (L 4 = true → x27 = .int .i64 ((k : Int) + 1)) ∧
      (L 5 = true → x28 = .slice (some a1) (k + 1) c) ∧
      (L 6 = true → ∃ g c, x29 = .slice (some ⟨g, 0, none⟩) (k + 1) c ∧ W.ownsRow w1.heap.size 71 3 x29 (k + 1) (flat (rs.take (k + 1)))) ∧
      (L 7 = true → L 12 = false → ∃ g, x30 = .slice (some ⟨g, 0, none⟩) 0 0 ∧ W.ownsRow w1.heap.size 3 1 x30 0 []) ∧
      (L 8 = true → x31 = .pointer (some ⟨w.heap.size, 1, none⟩)) ∧
      (L 9 = true → x32 = .slice (some a2) n2 c2) ∧
      (L 10 = true → x33 = .int .i64 k) ∧
      (L 11 = true → x34 = .slice (some a2) k c2) ∧
      (L 12 = true → ∃ g c, x35 = .slice (some ⟨g, 0, none⟩) (k) c ∧ W.ownsRow w1.heap.size 3 1 x35 (k) ((zs.take k).map (.int .i64))) ∧
      (L 13 = true → x36 = .agg #[x29, x35]) ∧
      (L 14 = true → L 15 = false → ∃ g, x7 = .pointer (some ⟨g, 0, none⟩) ∧ w1.heap.size ≤ g ∧ W.heap[g]? = some (.cells #[.slice none 0 0, .slice none 0 0] 27 (0, 0))) ∧
      (L 15 = true → ∃ g, x7 = .pointer (some ⟨g, 0, none⟩) ∧ w1.heap.size ≤ g ∧ W.heap[g]? = some (.cells #[x29, x35] 27 (0, 0))) ∧
      (L 13 = true → L 6 = true ∧ L 12 = true) ∧
      (L 15 = true → L 14 = true ∧ L 6 = true ∧ L 12 = true)) ?_ ?_ ?_
  · exact ⟨_, _, _, _, _, _, _, _, _, _, _, _, _, _, _, rfl, (Drawn.one w1 1).below _, (fun q => nomatch q), (fun q => nomatch q), (fun q => nomatch q), (fun q => nomatch q), (fun q => nomatch q), (fun q => nomatch q), (fun q => nomatch q), (fun q => nomatch q), (fun q => nomatch q), (fun q => nomatch q), (fun q => nomatch q), (fun q => nomatch q), (fun q => nomatch q), (fun q => nomatch q), (fun q => nomatch q), (fun q => nomatch q), (fun q => nomatch q), (fun q => nomatch q)⟩
  · intro L a W i o hJ ho hL hdep K' hK
    obtain ⟨x23, x24, x25, x26, x27, x28, x29, x30, x31, x32, x33, x34, x35, x36, x7, rfl, hB, h0, h1, h2, h3, h4, h5, h6, h7, h8, h9, h10, h11, h12, h13, h14, h15, c13, c15⟩ := hJ
    have hi : i < 16 := by simpa using (Array.getElem?_eq_some_iff.1 ho).1
    have C0 : W.cell? ⟨w.heap.size, 0, none⟩ = some (.slice (some a1) n c) := (hB.cell zw1).trans c0
    have C1 : W.cell? ⟨w.heap.size, 1, none⟩ = some (.slice (some a2) n2 c2) := (hB.cell zw1).trans c1
    obtain rfl | rfl | rfl | rfl | rfl | rfl | rfl | rfl | rfl | rfl | rfl | rfl | rfl | rfl | rfl | rfl : i = 0 ∨ i = 1 ∨ i = 2 ∨ i = 3 ∨ i = 4 ∨ i = 5 ∨ i = 6 ∨ i = 7 ∨ i = 8 ∨ i = 9 ∨ i = 10 ∨ i = 11 ∨ i = 12 ∨ i = 13 ∨ i = 14 ∨ i = 15 := by omega
    · -- operation 0
      cases ho
      go_simp
      exact hK _ _ ⟨_, _, _, _, _, _, _, _, _, _, _, _, _, _, _, rfl, hB.alloc hB.size _, fun _ _ => ⟨_, rfl, World.ownsRow_made W #[] 0 hB.size (by unfold maxLen; omega) rfl⟩, h1, h2, h3, h4, h5, fun q => let ⟨g, c, e, o⟩ := h6 q; ⟨g, c, e, o.alloc _⟩, fun q r => let ⟨g, e, o⟩ := h7 q r; ⟨g, e, o.alloc _⟩, h8, h9, h10, h11, fun q => let ⟨g, c, e, o⟩ := h12 q; ⟨g, c, e, o.alloc _⟩, h13, fun q r => let ⟨g, e, l, hp⟩ := h14 q r; ⟨g, e, l, heap_keep hp _⟩, fun q => let ⟨g, e, l, hp⟩ := h15 q; ⟨g, e, l, heap_keep hp _⟩, fun q => ⟨(c13 q).1, (c13 q).2⟩, fun q => ⟨(c15 q).1, (c15 q).2.1, (c15 q).2.2⟩⟩
    · -- operation 1
      cases ho
      go_simp
      exact hK _ _ ⟨_, _, _, _, _, _, _, _, _, _, _, _, _, _, _, rfl, hB, h0, fun _ => rfl, h2, h3, h4, h5, h6, h7, h8, h9, h10, h11, h12, h13, h14, h15, fun q => ⟨(c13 q).1, (c13 q).2⟩, fun q => ⟨(c15 q).1, (c15 q).2.1, (c15 q).2.2⟩⟩
    · -- operation 2
      cases ho
      obtain rfl := h1 (hdep ⟨1, .data⟩ (by simp) rfl)
      go_simp
      exact hK _ _ ⟨_, _, _, _, _, _, _, _, _, _, _, _, _, _, _, rfl, hB, h0, h1, fun _ => rfl, h3, h4, h5, h6, h7, h8, h9, h10, h11, h12, h13, h14, h15, fun q => ⟨(c13 q).1, (c13 q).2⟩, fun q => ⟨(c15 q).1, (c15 q).2.1, (c15 q).2.2⟩⟩
    · -- operation 3
      cases ho
      go_simp
      exact hK _ _ ⟨_, _, _, _, _, _, _, _, _, _, _, _, _, _, _, rfl, hB, h0, h1, h2, fun _ => rfl, h4, h5, h6, h7, h8, h9, h10, h11, h12, h13, h14, h15, fun q => ⟨(c13 q).1, (c13 q).2⟩, fun q => ⟨(c15 q).1, (c15 q).2.1, (c15 q).2.2⟩⟩
    · -- operation 4
      cases ho
      obtain rfl := h3 (hdep ⟨3, .data⟩ (by simp) rfl)
      go_simp
      exact hK _ _ ⟨_, _, _, _, _, _, _, _, _, _, _, _, _, _, _, rfl, hB, h0, h1, h2, h3, fun _ => (by rw [IntWalk.i64_left, IntWalk.wrap64_in _ ⟨by omega, by omega⟩]), h5, h6, h7, h8, h9, h10, h11, h12, h13, h14, h15, fun q => ⟨(c13 q).1, (c13 q).2⟩, fun q => ⟨(c15 q).1, (c15 q).2.1, (c15 q).2.2⟩⟩
    · -- operation 5
      cases ho
      obtain rfl := h2 (hdep ⟨2, .data⟩ (by simp) rfl)
      obtain rfl := h4 (hdep ⟨4, .data⟩ (by simp) rfl)
      go_simp
      rw [if_pos (by omega)]
      go_simp
      exact hK _ _ ⟨_, _, _, _, _, _, _, _, _, _, _, _, _, _, _, rfl, hB, h0, h1, h2, h3, h4, fun _ => rfl, h6, h7, h8, h9, h10, h11, h12, h13, h14, h15, fun q => ⟨(c13 q).1, (c13 q).2⟩, fun q => ⟨(c15 q).1, (c15 q).2.1, (c15 q).2.2⟩⟩
    · -- operation 6
      cases ho
      obtain ⟨g, rfl, oe⟩ := h0 (hdep ⟨0, .data⟩ (by simp) rfl) hL
      obtain rfl := h5 (hdep ⟨5, .data⟩ (by simp) rfl)
      refine step_append rfl (.tmp 23) (.tmp 28) 24 rfl w1.heap.size 71 j0 (.agg #[.int .i64 0, .int .i64 0, .int .i64 0]) 3 24 Try.underlying24 hj jz0 jz1 jz2 rfl (by decide) (.slice (some ⟨g, 0, none⟩) 0 0) 0 [] rfl oe a1 (k + 1) c (flat (rs.take (k + 1))) rfl FT.out (NT1.out W (B1.out.trans (hB.mono B1.out.size))) (flat_one _) (by unfold maxLen; omega) (by omega) hB.size (by simp) ?_
      intro g1 cap w9 hown hgr
      rw [Nat.zero_add, List.nil_append] at hown
      rw [Nat.zero_add]
      exact hK _ _ ⟨_, _, _, _, _, _, _, _, _, _, _, _, _, _, _, rfl, hB.grown hgr hB.size (fun q e => (oe.lt q e).1), (fun _ q => nomatch q), h1, h2, h3, h4, h5, fun _ => ⟨_, _, rfl, hown⟩, fun q r => let ⟨g, e, o⟩ := h7 q r; ⟨g, e, o.kept hgr (own_ne o oe (by decide))⟩, h8, h9, h10, h11, fun q => let ⟨g, c, e, o⟩ := h12 q; ⟨g, c, e, o.kept hgr (own_ne o oe (by decide))⟩, (fun q => by have z := (c13 q).1; rw [hL] at z; exact nomatch z), fun q r => let ⟨g, e, l, hp⟩ := h14 q r; ⟨g, e, l, (hgr.block g (Array.getElem?_eq_some_iff.1 hp).1 (Ne.symm (own_off oe hp (by decide)))).trans hp⟩, (fun q => by have z := (c15 q).2.1; rw [hL] at z; exact nomatch z), fun q => ⟨rfl, (c13 q).2⟩, fun q => ⟨(c15 q).1, rfl, (c15 q).2.2⟩⟩
    · -- operation 7
      cases ho
      go_simp
      exact hK _ _ ⟨_, _, _, _, _, _, _, _, _, _, _, _, _, _, _, rfl, hB.alloc hB.size _, fun q r => let ⟨g, e, o⟩ := h0 q r; ⟨g, e, o.alloc _⟩, h1, h2, h3, h4, h5, fun q => let ⟨g, c, e, o⟩ := h6 q; ⟨g, c, e, o.alloc _⟩, fun _ _ => ⟨_, rfl, World.ownsRow_made W #[] 0 hB.size (by unfold maxLen; omega) rfl⟩, h8, h9, h10, h11, fun q => let ⟨g, c, e, o⟩ := h12 q; ⟨g, c, e, o.alloc _⟩, h13, fun q r => let ⟨g, e, l, hp⟩ := h14 q r; ⟨g, e, l, heap_keep hp _⟩, fun q => let ⟨g, e, l, hp⟩ := h15 q; ⟨g, e, l, heap_keep hp _⟩, fun q => ⟨(c13 q).1, (c13 q).2⟩, fun q => ⟨(c15 q).1, (c15 q).2.1, (c15 q).2.2⟩⟩
    · -- operation 8
      cases ho
      go_simp
      exact hK _ _ ⟨_, _, _, _, _, _, _, _, _, _, _, _, _, _, _, rfl, hB, h0, h1, h2, h3, h4, h5, h6, h7, fun _ => rfl, h9, h10, h11, h12, h13, h14, h15, fun q => ⟨(c13 q).1, (c13 q).2⟩, fun q => ⟨(c15 q).1, (c15 q).2.1, (c15 q).2.2⟩⟩
    · -- operation 9
      cases ho
      obtain rfl := h8 (hdep ⟨8, .data⟩ (by simp) rfl)
      go_simp
      exact hK _ _ ⟨_, _, _, _, _, _, _, _, _, _, _, _, _, _, _, rfl, hB, h0, h1, h2, h3, h4, h5, h6, h7, h8, fun _ => rfl, h10, h11, h12, h13, h14, h15, fun q => ⟨(c13 q).1, (c13 q).2⟩, fun q => ⟨(c15 q).1, (c15 q).2.1, (c15 q).2.2⟩⟩
    · -- operation 10
      cases ho
      go_simp
      exact hK _ _ ⟨_, _, _, _, _, _, _, _, _, _, _, _, _, _, _, rfl, hB, h0, h1, h2, h3, h4, h5, h6, h7, h8, h9, fun _ => rfl, h11, h12, h13, h14, h15, fun q => ⟨(c13 q).1, (c13 q).2⟩, fun q => ⟨(c15 q).1, (c15 q).2.1, (c15 q).2.2⟩⟩
    · -- operation 11
      cases ho
      obtain rfl := h9 (hdep ⟨9, .data⟩ (by simp) rfl)
      obtain rfl := h10 (hdep ⟨10, .data⟩ (by simp) rfl)
      go_simp
      rw [if_pos (by omega)]
      go_simp
      exact hK _ _ ⟨_, _, _, _, _, _, _, _, _, _, _, _, _, _, _, rfl, hB, h0, h1, h2, h3, h4, h5, h6, h7, h8, h9, h10, fun _ => rfl, h12, h13, h14, h15, fun q => ⟨(c13 q).1, (c13 q).2⟩, fun q => ⟨(c15 q).1, (c15 q).2.1, (c15 q).2.2⟩⟩
    · -- operation 12
      cases ho
      obtain ⟨g, rfl, oe⟩ := h7 (hdep ⟨7, .data⟩ (by simp) rfl) hL
      obtain rfl := h11 (hdep ⟨11, .data⟩ (by simp) rfl)
      refine step_append rfl (.tmp 30) (.tmp 34) 25 rfl w1.heap.size 3 i0 (.int .i64 0) 1 8 Try.underlying25 hi0 iz0 iz1 iz2 rfl (by decide) (.slice (some ⟨g, 0, none⟩) 0 0) 0 [] rfl oe a2 k c2 ((zs.take k).map (.int .i64)) rfl ZT.out (NT2.out W (B1.out.trans (hB.mono B1.out.size))) (ints_one _) (by unfold maxLen; omega) (by omega) hB.size (by simp) ?_
      intro g1 cap w9 hown hgr
      rw [Nat.zero_add, List.nil_append] at hown
      rw [Nat.zero_add]
      exact hK _ _ ⟨_, _, _, _, _, _, _, _, _, _, _, _, _, _, _, rfl, hB.grown hgr hB.size (fun q e => (oe.lt q e).1), fun q r => let ⟨g, e, o⟩ := h0 q r; ⟨g, e, o.kept hgr (own_ne o oe (by decide))⟩, h1, h2, h3, h4, h5, fun q => let ⟨g, c, e, o⟩ := h6 q; ⟨g, c, e, o.kept hgr (own_ne o oe (by decide))⟩, (fun _ q => nomatch q), h8, h9, h10, h11, fun _ => ⟨_, _, rfl, hown⟩, (fun q => by have z := (c13 q).2; rw [hL] at z; exact nomatch z), fun q r => let ⟨g, e, l, hp⟩ := h14 q r; ⟨g, e, l, (hgr.block g (Array.getElem?_eq_some_iff.1 hp).1 (Ne.symm (own_off oe hp (by decide)))).trans hp⟩, (fun q => by have z := (c15 q).2.2; rw [hL] at z; exact nomatch z), fun q => ⟨(c13 q).1, rfl⟩, fun q => ⟨(c15 q).1, (c15 q).2.1, rfl⟩⟩
    · -- operation 13
      cases ho
      obtain ⟨ga6, ca6, rfl, oa6⟩ := h6 (hdep ⟨6, .data⟩ (by simp) rfl)
      have hdep6 : L 6 = true := hdep ⟨6, .data⟩ (by simp) rfl
      obtain ⟨ga12, ca12, rfl, oa12⟩ := h12 (hdep ⟨12, .data⟩ (by simp) rfl)
      have hdep12 : L 12 = true := hdep ⟨12, .data⟩ (by simp) rfl
      go_simp
      exact hK _ _ ⟨_, _, _, _, _, _, _, _, _, _, _, _, _, _, _, rfl, hB, h0, h1, h2, h3, h4, h5, fun _ => ⟨_, _, rfl, oa6⟩, h7, h8, h9, h10, h11, fun _ => ⟨_, _, rfl, oa12⟩, fun _ => rfl, h14, h15, fun _ => ⟨hdep6, hdep12⟩, fun q => ⟨(c15 q).1, (c15 q).2.1, (c15 q).2.2⟩⟩
    · -- operation 14
      cases ho
      go_simp
      exact hK _ _ ⟨_, _, _, _, _, _, _, _, _, _, _, _, _, _, _, rfl, hB.alloc hB.size _, fun q r => let ⟨g, e, o⟩ := h0 q r; ⟨g, e, o.alloc _⟩, h1, h2, h3, h4, h5, fun q => let ⟨g, c, e, o⟩ := h6 q; ⟨g, c, e, o.alloc _⟩, fun q r => let ⟨g, e, o⟩ := h7 q r; ⟨g, e, o.alloc _⟩, h8, h9, h10, h11, fun q => let ⟨g, c, e, o⟩ := h12 q; ⟨g, c, e, o.alloc _⟩, h13, fun _ _ => ⟨_, rfl, hB.size, heap_alloc_new W _⟩, (fun q => by have z := (c15 q).1; rw [hL] at z; exact nomatch z), fun q => ⟨(c13 q).1, (c13 q).2⟩, fun q => ⟨rfl, (c15 q).2.1, (c15 q).2.2⟩⟩
    · -- operation 15
      cases ho
      have hdep14 : L 14 = true := hdep ⟨14, .data⟩ (by simp) rfl
      have hbd : L 13 = true := hdep ⟨13, .data⟩ (by simp) rfl
      have hdep6 : L 6 = true := (c13 hbd).1
      have hdep12 : L 12 = true := (c13 hbd).2
      obtain ⟨g, rfl, hgl, hp0⟩ := h14 hdep14 hL
      obtain rfl := h13 hbd
      obtain ⟨ga6, ca6, rfl, oa6⟩ := h6 hdep6
      obtain ⟨ga12, ca12, rfl, oa12⟩ := h12 hdep12
      have s0 := cell_of_row W g 0 _ _ _ hp0
      have s1 := cell_of_row W g 1 _ _ _ hp0
      have s2 := frozen_of_row W g 0 _ _ hp0
      have s3 := frozen_of_row W g 1 _ _ hp0
      go_simp
      exact hK _ _ ⟨_, _, _, _, _, _, _, _, _, _, _, _, _, _, _, rfl, (hB.setCell (p := ⟨g, 0, none⟩) hgl _).setCell (p := ⟨g, 1, none⟩) hgl _, fun q r => let ⟨g, e, o⟩ := h0 q r; ⟨g, e, own_set (own_set o _ _ _ (own_off o hp0 (by decide))) _ _ _ (own_off o hp0 (by decide))⟩, h1, h2, h3, h4, h5, fun _ => ⟨_, _, rfl, own_set (own_set oa6 _ _ _ (own_off oa6 hp0 (by decide))) _ _ _ (own_off oa6 hp0 (by decide))⟩, fun q r => let ⟨g, e, o⟩ := h7 q r; ⟨g, e, own_set (own_set o _ _ _ (own_off o hp0 (by decide))) _ _ _ (own_off o hp0 (by decide))⟩, h8, h9, h10, h11, fun _ => ⟨_, _, rfl, own_set (own_set oa12 _ _ _ (own_off oa12 hp0 (by decide))) _ _ _ (own_off oa12 hp0 (by decide))⟩, (fun q => rfl), (fun _ q => nomatch q), fun _ => ⟨_, rfl, hgl, heap_set2 hp0⟩, fun q => ⟨(c13 q).1, (c13 q).2⟩, fun _ => ⟨hdep14, hdep6, hdep12⟩⟩
  intro L3 a3 W3 hJ hall
  obtain ⟨x23, x24, x25, x26, x27, x28, x29, x30, x31, x32, x33, x34, x35, x36, x7, rfl, hB3, h0, h1, h2, h3, h4, h5, h6, h7, h8, h9, h10, h11, h12, h13, h14, h15, -, -⟩ := hJ
  clear h0
  obtain rfl := h1 (hall 1 (by decide))
  obtain rfl := h2 (hall 2 (by decide))
  obtain rfl := h3 (hall 3 (by decide))
  obtain rfl := h4 (hall 4 (by decide))
  obtain rfl := h5 (hall 5 (by decide))
  clear h7
  obtain rfl := h8 (hall 8 (by decide))
  obtain rfl := h9 (hall 9 (by decide))
  obtain rfl := h10 (hall 10 (by decide))
  obtain rfl := h11 (hall 11 (by decide))
  clear h14
  obtain rfl := h13 (hall 13 (by decide))
  obtain ⟨gr29, cr29, rfl, or29⟩ := h6 (hall 6 (by decide))
  obtain ⟨gr35, cr35, rfl, or35⟩ := h12 (hall 12 (by decide))
  obtain ⟨gp7, rfl, gl7, hp7⟩ := h15 (hall 15 (by decide))
  have zw3 : w.heap.size < W3.heap.size := Nat.lt_of_lt_of_le zw1 hB3.size
  have c03 : W3.cell? ⟨w.heap.size, 0, none⟩ = some (.slice (some a1) n c) := (hB3.cell zw1).trans c0
  have c13 : W3.cell? ⟨w.heap.size, 1, none⟩ = some (.slice (some a2) n2 c2) := (hB3.cell zw1).trans c1
  have B3 := Lib.hid (B1.out.trans (hB3.mono B1.out.size))
  go_wp2_with fail
  refine region_inv (by kernel_rfl) (by kernel_rfl) (fun L a W => ∃ (x37 x38 x39 x40 x41 x42 x43 x44 x45 x46 x47 x48 x49 x50 x51 x8 : Value), a = { tmps := #[.agg #[.slice (some a1) n c, .slice (some a2) n2 c2], .int .i64 k, .pointer (some ⟨w.heap.size, 0, none⟩), undef, .pointer (some ⟨w.heap.size + 1, 0, none⟩), .pointer (some ⟨w.heap.size + 1 + 1, 0, none⟩), .bool false, .pointer (some ⟨gp7, 0, none⟩), x8, .agg #[.slice (some a1) n c, .slice (some a2) n2 c2], .bool true, .bool false, .bool false, .int .i64 k, .pointer (some ⟨w.heap.size, 1, none⟩), .slice (some a2) n2 c2, .int .i64 n2, .int .i64 ((n2 : Int) - 1), .bool true, .bool false, .bool false, undef, undef, x23, .pointer (some ⟨w.heap.size, 0, none⟩), .slice (some a1) n c, .int .i64 k, .int .i64 ((k : Int) + 1), .slice (some a1) (k + 1) c, .slice (some ⟨gr29, 0, none⟩) (k + 1) cr29, x30, .pointer (some ⟨w.heap.size, 1, none⟩), .slice (some a2) n2 c2, .int .i64 k, .slice (some a2) k c2, .slice (some ⟨gr35, 0, none⟩) k cr35, .agg #[.slice (some ⟨gr29, 0, none⟩) (k + 1) cr29, .slice (some ⟨gr35, 0, none⟩) k cr35], x37, x38, x39, x40, x41, x42, x43, x44, x45, x46, x47, x48, x49, x50, x51, undef, undef], defers := [] } ∧ Below W3.heap.size W3 W ∧
      (L 0 = true → L 6 = false → ∃ g, x37 = .slice (some ⟨g, 0, none⟩) 0 0 ∧ W.ownsRow W3.heap.size 71 3 x37 0 []) ∧
      (L 1 = true → x38 = .pointer (some ⟨w.heap.size, 0, none⟩)) ∧
      (L 2 = true → x39 = .slice (some a1) n c) ∧
      (L 3 = true → x40 = .int .i64 k) ∧
      (L 4 = true → x41 = .int .i64 ((k : Int) + 1)) ∧
      (L 5 = true → x42 = .slice (some (a1.add ((k + 1) * 3))) (n - (k + 1)) (c - (k + 1))) ∧
      (L 6 = true → ∃ g c, x43 = .slice (some ⟨g, 0, none⟩) (n - (k + 1)) c ∧ W.ownsRow W3.heap.size 71 3 x43 (n - (k + 1)) (flat (rs.drop (k + 1)))) ∧
      (L 7 = true → L 13 = false → ∃ g, x44 = .slice (some ⟨g, 0, none⟩) 0 0 ∧ W.ownsRow W3.heap.size 3 1 x44 0 []) ∧
      (L 8 = true → x45 = .pointer (some ⟨w.heap.size, 1, none⟩)) ∧
      (L 9 = true → x46 = .slice (some a2) n2 c2) ∧
      (L 10 = true → x47 = .int .i64 k) ∧
      (L 11 = true → x48 = .int .i64 ((k : Int) + 1)) ∧
      (L 12 = true → x49 = .slice (some az) (n2 - (k + 1)) (c2 - (k + 1))) ∧
      (L 13 = true → ∃ g c, x50 = .slice (some ⟨g, 0, none⟩) (n2 - (k + 1)) c ∧ W.ownsRow W3.heap.size 3 1 x50 (n2 - (k + 1)) ((zs.drop (k + 1)).map (.int .i64))) ∧
      (L 14 = true → x51 = .agg #[x43, x50]) ∧
      (L 15 = true → L 16 = false → ∃ g, x8 = .pointer (some ⟨g, 0, none⟩) ∧ W3.heap.size ≤ g ∧ W.heap[g]? = some (.cells #[.slice none 0 0, .slice none 0 0] 27 (0, 0))) ∧
      (L 16 = true → ∃ g, x8 = .pointer (some ⟨g, 0, none⟩) ∧ W3.heap.size ≤ g ∧ W.heap[g]? = some (.cells #[x43, x50] 27 (0, 0))) ∧
      (L 14 = true → L 6 = true ∧ L 13 = true) ∧
      (L 16 = true → L 15 = true ∧ L 6 = true ∧ L 13 = true)) ?_ ?_ ?_
  · exact ⟨_, _, _, _, _, _, _, _, _, _, _, _, _, _, _, _, rfl, (Drawn.one W3 1).below _, (fun q => nomatch q), (fun q => nomatch q), (fun q => nomatch q), (fun q => nomatch q), (fun q => nomatch q), (fun q => nomatch q), (fun q => nomatch q), (fun q => nomatch q), (fun q => nomatch q), (fun q => nomatch q), (fun q => nomatch q), (fun q => nomatch q), (fun q => nomatch q), (fun q => nomatch q), (fun q => nomatch q), (fun q => nomatch q), (fun q => nomatch q), (fun q => nomatch q), (fun q => nomatch q)⟩
  · intro L a W i o hJ ho hL hdep K' hK
    obtain ⟨x37, x38, x39, x40, x41, x42, x43, x44, x45, x46, x47, x48, x49, x50, x51, x8, rfl, hB, h0, h1, h2, h3, h4, h5, h6, h7, h8, h9, h10, h11, h12, h13, h14, h15, h16, c14, c16⟩ := hJ
    have hi : i < 17 := by simpa using (Array.getElem?_eq_some_iff.1 ho).1
    have C0 : W.cell? ⟨w.heap.size, 0, none⟩ = some (.slice (some a1) n c) := (hB.cell zw3).trans c03
    have C1 : W.cell? ⟨w.heap.size, 1, none⟩ = some (.slice (some a2) n2 c2) := (hB.cell zw3).trans c13
    obtain rfl | rfl | rfl | rfl | rfl | rfl | rfl | rfl | rfl | rfl | rfl | rfl | rfl | rfl | rfl | rfl | rfl : i = 0 ∨ i = 1 ∨ i = 2 ∨ i = 3 ∨ i = 4 ∨ i = 5 ∨ i = 6 ∨ i = 7 ∨ i = 8 ∨ i = 9 ∨ i = 10 ∨ i = 11 ∨ i = 12 ∨ i = 13 ∨ i = 14 ∨ i = 15 ∨ i = 16 := by omega
    · -- operation 0
      cases ho
      go_simp
      exact hK _ _ ⟨_, _, _, _, _, _, _, _, _, _, _, _, _, _, _, _, rfl, hB.alloc hB.size _, fun _ _ => ⟨_, rfl, World.ownsRow_made W #[] 0 hB.size (by unfold maxLen; omega) rfl⟩, h1, h2, h3, h4, h5, fun q => let ⟨g, c, e, o⟩ := h6 q; ⟨g, c, e, o.alloc _⟩, fun q r => let ⟨g, e, o⟩ := h7 q r; ⟨g, e, o.alloc _⟩, h8, h9, h10, h11, h12, fun q => let ⟨g, c, e, o⟩ := h13 q; ⟨g, c, e, o.alloc _⟩, h14, fun q r => let ⟨g, e, l, hp⟩ := h15 q r; ⟨g, e, l, heap_keep hp _⟩, fun q => let ⟨g, e, l, hp⟩ := h16 q; ⟨g, e, l, heap_keep hp _⟩, fun q => ⟨(c14 q).1, (c14 q).2⟩, fun q => ⟨(c16 q).1, (c16 q).2.1, (c16 q).2.2⟩⟩
    · -- operation 1
      cases ho
      go_simp
      exact hK _ _ ⟨_, _, _, _, _, _, _, _, _, _, _, _, _, _, _, _, rfl, hB, h0, fun _ => rfl, h2, h3, h4, h5, h6, h7, h8, h9, h10, h11, h12, h13, h14, h15, h16, fun q => ⟨(c14 q).1, (c14 q).2⟩, fun q => ⟨(c16 q).1, (c16 q).2.1, (c16 q).2.2⟩⟩
    · -- operation 2
      cases ho
      obtain rfl := h1 (hdep ⟨1, .data⟩ (by simp) rfl)
      go_simp
      exact hK _ _ ⟨_, _, _, _, _, _, _, _, _, _, _, _, _, _, _, _, rfl, hB, h0, h1, fun _ => rfl, h3, h4, h5, h6, h7, h8, h9, h10, h11, h12, h13, h14, h15, h16, fun q => ⟨(c14 q).1, (c14 q).2⟩, fun q => ⟨(c16 q).1, (c16 q).2.1, (c16 q).2.2⟩⟩
    · -- operation 3
      cases ho
      go_simp
      exact hK _ _ ⟨_, _, _, _, _, _, _, _, _, _, _, _, _, _, _, _, rfl, hB, h0, h1, h2, fun _ => rfl, h4, h5, h6, h7, h8, h9, h10, h11, h12, h13, h14, h15, h16, fun q => ⟨(c14 q).1, (c14 q).2⟩, fun q => ⟨(c16 q).1, (c16 q).2.1, (c16 q).2.2⟩⟩
    · -- operation 4
      cases ho
      obtain rfl := h3 (hdep ⟨3, .data⟩ (by simp) rfl)
      go_simp
      exact hK _ _ ⟨_, _, _, _, _, _, _, _, _, _, _, _, _, _, _, _, rfl, hB, h0, h1, h2, h3, fun _ => (by rw [IntWalk.i64_left, IntWalk.wrap64_in _ ⟨by omega, by omega⟩]), h5, h6, h7, h8, h9, h10, h11, h12, h13, h14, h15, h16, fun q => ⟨(c14 q).1, (c14 q).2⟩, fun q => ⟨(c16 q).1, (c16 q).2.1, (c16 q).2.2⟩⟩
    · -- operation 5
      cases ho
      obtain rfl := h2 (hdep ⟨2, .data⟩ (by simp) rfl)
      obtain rfl := h4 (hdep ⟨4, .data⟩ (by simp) rfl)
      go_simp
      rw [if_pos (by omega), if_neg (by omega)]
      go_simp
      exact hK _ _ ⟨_, _, _, _, _, _, _, _, _, _, _, _, _, _, _, _, rfl, hB, h0, h1, h2, h3, h4, fun _ => rfl, h6, h7, h8, h9, h10, h11, h12, h13, h14, h15, h16, fun q => ⟨(c14 q).1, (c14 q).2⟩, fun q => ⟨(c16 q).1, (c16 q).2.1, (c16 q).2.2⟩⟩
    · -- operation 6
      cases ho
      obtain ⟨g, rfl, oe⟩ := h0 (hdep ⟨0, .data⟩ (by simp) rfl) hL
      obtain rfl := h5 (hdep ⟨5, .data⟩ (by simp) rfl)
      refine step_append rfl (.tmp 37) (.tmp 42) 24 rfl W3.heap.size 71 j0 (.agg #[.int .i64 0, .int .i64 0, .int .i64 0]) 3 24 Try.underlying24 hj jz0 jz1 jz2 rfl (by decide) (.slice (some ⟨g, 0, none⟩) 0 0) 0 [] rfl oe (a1.add ((k + 1) * 3)) (n - (k + 1)) (c - (k + 1)) (flat (rs.drop (k + 1))) rfl FD.out (ND1.out W (B3.out.trans (hB.mono B3.out.size))) (flat_one _) (by unfold maxLen; omega) (by omega) hB.size (by simp) ?_
      intro g1 cap w9 hown hgr
      rw [Nat.zero_add, List.nil_append] at hown
      rw [Nat.zero_add]
      exact hK _ _ ⟨_, _, _, _, _, _, _, _, _, _, _, _, _, _, _, _, rfl, hB.grown hgr hB.size (fun q e => (oe.lt q e).1), (fun _ q => nomatch q), h1, h2, h3, h4, h5, fun _ => ⟨_, _, rfl, hown⟩, fun q r => let ⟨g, e, o⟩ := h7 q r; ⟨g, e, o.kept hgr (own_ne o oe (by decide))⟩, h8, h9, h10, h11, h12, fun q => let ⟨g, c, e, o⟩ := h13 q; ⟨g, c, e, o.kept hgr (own_ne o oe (by decide))⟩, (fun q => by have z := (c14 q).1; rw [hL] at z; exact nomatch z), fun q r => let ⟨g, e, l, hp⟩ := h15 q r; ⟨g, e, l, (hgr.block g (Array.getElem?_eq_some_iff.1 hp).1 (Ne.symm (own_off oe hp (by decide)))).trans hp⟩, (fun q => by have z := (c16 q).2.1; rw [hL] at z; exact nomatch z), fun q => ⟨rfl, (c14 q).2⟩, fun q => ⟨(c16 q).1, rfl, (c16 q).2.2⟩⟩
    · -- operation 7
      cases ho
      go_simp
      exact hK _ _ ⟨_, _, _, _, _, _, _, _, _, _, _, _, _, _, _, _, rfl, hB.alloc hB.size _, fun q r => let ⟨g, e, o⟩ := h0 q r; ⟨g, e, o.alloc _⟩, h1, h2, h3, h4, h5, fun q => let ⟨g, c, e, o⟩ := h6 q; ⟨g, c, e, o.alloc _⟩, fun _ _ => ⟨_, rfl, World.ownsRow_made W #[] 0 hB.size (by unfold maxLen; omega) rfl⟩, h8, h9, h10, h11, h12, fun q => let ⟨g, c, e, o⟩ := h13 q; ⟨g, c, e, o.alloc _⟩, h14, fun q r => let ⟨g, e, l, hp⟩ := h15 q r; ⟨g, e, l, heap_keep hp _⟩, fun q => let ⟨g, e, l, hp⟩ := h16 q; ⟨g, e, l, heap_keep hp _⟩, fun q => ⟨(c14 q).1, (c14 q).2⟩, fun q => ⟨(c16 q).1, (c16 q).2.1, (c16 q).2.2⟩⟩
    · -- operation 8
      cases ho
      go_simp
      exact hK _ _ ⟨_, _, _, _, _, _, _, _, _, _, _, _, _, _, _, _, rfl, hB, h0, h1, h2, h3, h4, h5, h6, h7, fun _ => rfl, h9, h10, h11, h12, h13, h14, h15, h16, fun q => ⟨(c14 q).1, (c14 q).2⟩, fun q => ⟨(c16 q).1, (c16 q).2.1, (c16 q).2.2⟩⟩
    · -- operation 9
      cases ho
      obtain rfl := h8 (hdep ⟨8, .data⟩ (by simp) rfl)
      go_simp
      exact hK _ _ ⟨_, _, _, _, _, _, _, _, _, _, _, _, _, _, _, _, rfl, hB, h0, h1, h2, h3, h4, h5, h6, h7, h8, fun _ => rfl, h10, h11, h12, h13, h14, h15, h16, fun q => ⟨(c14 q).1, (c14 q).2⟩, fun q => ⟨(c16 q).1, (c16 q).2.1, (c16 q).2.2⟩⟩
    · -- operation 10
      cases ho
      go_simp
      exact hK _ _ ⟨_, _, _, _, _, _, _, _, _, _, _, _, _, _, _, _, rfl, hB, h0, h1, h2, h3, h4, h5, h6, h7, h8, h9, fun _ => rfl, h11, h12, h13, h14, h15, h16, fun q => ⟨(c14 q).1, (c14 q).2⟩, fun q => ⟨(c16 q).1, (c16 q).2.1, (c16 q).2.2⟩⟩
    · -- operation 11
      cases ho
      obtain rfl := h10 (hdep ⟨10, .data⟩ (by simp) rfl)
      go_simp
      exact hK _ _ ⟨_, _, _, _, _, _, _, _, _, _, _, _, _, _, _, _, rfl, hB, h0, h1, h2, h3, h4, h5, h6, h7, h8, h9, h10, fun _ => (by rw [IntWalk.i64_left, IntWalk.wrap64_in _ ⟨by omega, by omega⟩]), h12, h13, h14, h15, h16, fun q => ⟨(c14 q).1, (c14 q).2⟩, fun q => ⟨(c16 q).1, (c16 q).2.1, (c16 q).2.2⟩⟩
    · -- operation 12
      cases ho
      obtain rfl := h9 (hdep ⟨9, .data⟩ (by simp) rfl)
      obtain rfl := h11 (hdep ⟨11, .data⟩ (by simp) rfl)
      go_simp
      rw [if_pos (by omega), HZ.out]
      go_simp
      exact hK _ _ ⟨_, _, _, _, _, _, _, _, _, _, _, _, _, _, _, _, rfl, hB, h0, h1, h2, h3, h4, h5, h6, h7, h8, h9, h10, h11, fun _ => rfl, h13, h14, h15, h16, fun q => ⟨(c14 q).1, (c14 q).2⟩, fun q => ⟨(c16 q).1, (c16 q).2.1, (c16 q).2.2⟩⟩
    · -- operation 13
      cases ho
      obtain ⟨g, rfl, oe⟩ := h7 (hdep ⟨7, .data⟩ (by simp) rfl) hL
      obtain rfl := h12 (hdep ⟨12, .data⟩ (by simp) rfl)
      refine step_append rfl (.tmp 44) (.tmp 49) 25 rfl W3.heap.size 3 i0 (.int .i64 0) 1 8 Try.underlying25 hi0 iz0 iz1 iz2 rfl (by decide) (.slice (some ⟨g, 0, none⟩) 0 0) 0 [] rfl oe az (n2 - (k + 1)) (c2 - (k + 1)) ((zs.drop (k + 1)).map (.int .i64)) rfl ZD.out (ND2.out W (B3.out.trans (hB.mono B3.out.size))) (ints_one _) (by unfold maxLen; omega) (by omega) hB.size (by simp) ?_
      intro g1 cap w9 hown hgr
      rw [Nat.zero_add, List.nil_append] at hown
      rw [Nat.zero_add]
      exact hK _ _ ⟨_, _, _, _, _, _, _, _, _, _, _, _, _, _, _, _, rfl, hB.grown hgr hB.size (fun q e => (oe.lt q e).1), fun q r => let ⟨g, e, o⟩ := h0 q r; ⟨g, e, o.kept hgr (own_ne o oe (by decide))⟩, h1, h2, h3, h4, h5, fun q => let ⟨g, c, e, o⟩ := h6 q; ⟨g, c, e, o.kept hgr (own_ne o oe (by decide))⟩, (fun _ q => nomatch q), h8, h9, h10, h11, h12, fun _ => ⟨_, _, rfl, hown⟩, (fun q => by have z := (c14 q).2; rw [hL] at z; exact nomatch z), fun q r => let ⟨g, e, l, hp⟩ := h15 q r; ⟨g, e, l, (hgr.block g (Array.getElem?_eq_some_iff.1 hp).1 (Ne.symm (own_off oe hp (by decide)))).trans hp⟩, (fun q => by have z := (c16 q).2.2; rw [hL] at z; exact nomatch z), fun q => ⟨(c14 q).1, rfl⟩, fun q => ⟨(c16 q).1, (c16 q).2.1, rfl⟩⟩
    · -- operation 14
      cases ho
      obtain ⟨ga6, ca6, rfl, oa6⟩ := h6 (hdep ⟨6, .data⟩ (by simp) rfl)
      have hdep6 : L 6 = true := hdep ⟨6, .data⟩ (by simp) rfl
      obtain ⟨ga13, ca13, rfl, oa13⟩ := h13 (hdep ⟨13, .data⟩ (by simp) rfl)
      have hdep13 : L 13 = true := hdep ⟨13, .data⟩ (by simp) rfl
      go_simp
      exact hK _ _ ⟨_, _, _, _, _, _, _, _, _, _, _, _, _, _, _, _, rfl, hB, h0, h1, h2, h3, h4, h5, fun _ => ⟨_, _, rfl, oa6⟩, h7, h8, h9, h10, h11, h12, fun _ => ⟨_, _, rfl, oa13⟩, fun _ => rfl, h15, h16, fun _ => ⟨hdep6, hdep13⟩, fun q => ⟨(c16 q).1, (c16 q).2.1, (c16 q).2.2⟩⟩
    · -- operation 15
      cases ho
      go_simp
      exact hK _ _ ⟨_, _, _, _, _, _, _, _, _, _, _, _, _, _, _, _, rfl, hB.alloc hB.size _, fun q r => let ⟨g, e, o⟩ := h0 q r; ⟨g, e, o.alloc _⟩, h1, h2, h3, h4, h5, fun q => let ⟨g, c, e, o⟩ := h6 q; ⟨g, c, e, o.alloc _⟩, fun q r => let ⟨g, e, o⟩ := h7 q r; ⟨g, e, o.alloc _⟩, h8, h9, h10, h11, h12, fun q => let ⟨g, c, e, o⟩ := h13 q; ⟨g, c, e, o.alloc _⟩, h14, fun _ _ => ⟨_, rfl, hB.size, heap_alloc_new W _⟩, (fun q => by have z := (c16 q).1; rw [hL] at z; exact nomatch z), fun q => ⟨(c14 q).1, (c14 q).2⟩, fun q => ⟨rfl, (c16 q).2.1, (c16 q).2.2⟩⟩
    · -- operation 16
      cases ho
      have hdep15 : L 15 = true := hdep ⟨15, .data⟩ (by simp) rfl
      have hbd : L 14 = true := hdep ⟨14, .data⟩ (by simp) rfl
      have hdep6 : L 6 = true := (c14 hbd).1
      have hdep13 : L 13 = true := (c14 hbd).2
      obtain ⟨g, rfl, hgl, hp0⟩ := h15 hdep15 hL
      obtain rfl := h14 hbd
      obtain ⟨ga6, ca6, rfl, oa6⟩ := h6 hdep6
      obtain ⟨ga13, ca13, rfl, oa13⟩ := h13 hdep13
      have s0 := cell_of_row W g 0 _ _ _ hp0
      have s1 := cell_of_row W g 1 _ _ _ hp0
      have s2 := frozen_of_row W g 0 _ _ hp0
      have s3 := frozen_of_row W g 1 _ _ hp0
      go_simp
      exact hK _ _ ⟨_, _, _, _, _, _, _, _, _, _, _, _, _, _, _, _, rfl, (hB.setCell (p := ⟨g, 0, none⟩) hgl _).setCell (p := ⟨g, 1, none⟩) hgl _, fun q r => let ⟨g, e, o⟩ := h0 q r; ⟨g, e, own_set (own_set o _ _ _ (own_off o hp0 (by decide))) _ _ _ (own_off o hp0 (by decide))⟩, h1, h2, h3, h4, h5, fun _ => ⟨_, _, rfl, own_set (own_set oa6 _ _ _ (own_off oa6 hp0 (by decide))) _ _ _ (own_off oa6 hp0 (by decide))⟩, fun q r => let ⟨g, e, o⟩ := h7 q r; ⟨g, e, own_set (own_set o _ _ _ (own_off o hp0 (by decide))) _ _ _ (own_off o hp0 (by decide))⟩, h8, h9, h10, h11, h12, fun _ => ⟨_, _, rfl, own_set (own_set oa13 _ _ _ (own_off oa13 hp0 (by decide))) _ _ _ (own_off oa13 hp0 (by decide))⟩, (fun q => rfl), (fun _ q => nomatch q), fun _ => ⟨_, rfl, hgl, heap_set2 hp0⟩, fun q => ⟨(c14 q).1, (c14 q).2⟩, fun _ => ⟨hdep15, hdep6, hdep13⟩⟩
  intro L4 a4 W4 hJ hall
  obtain ⟨x37, x38, x39, x40, x41, x42, x43, x44, x45, x46, x47, x48, x49, x50, x51, x8, rfl, hB4, h0, h1, h2, h3, h4, h5, h6, h7, h8, h9, h10, h11, h12, h13, h14, h15, h16, -, -⟩ := hJ
  clear h0
  obtain rfl := h1 (hall 1 (by decide))
  obtain rfl := h2 (hall 2 (by decide))
  obtain rfl := h3 (hall 3 (by decide))
  obtain rfl := h4 (hall 4 (by decide))
  obtain rfl := h5 (hall 5 (by decide))
  clear h7
  obtain rfl := h8 (hall 8 (by decide))
  obtain rfl := h9 (hall 9 (by decide))
  obtain rfl := h10 (hall 10 (by decide))
  obtain rfl := h11 (hall 11 (by decide))
  obtain rfl := h12 (hall 12 (by decide))
  clear h15
  obtain rfl := h14 (hall 14 (by decide))
  obtain ⟨gr43, cr43, rfl, or43⟩ := h6 (hall 6 (by decide))
  obtain ⟨gr50, cr50, rfl, or50⟩ := h13 (hall 13 (by decide))
  obtain ⟨gp8, rfl, gl8, hp8⟩ := h16 (hall 16 (by decide))

  have zp7 : gp7 < W4.heap.size := by have := (Array.getElem?_eq_some_iff.1 hp7).1; have := hB4.size; omega
  have q7 := (hB4.block gp7 (Array.getElem?_eq_some_iff.1 hp7).1).trans hp7
  have d70 := cell_of_row W4 gp7 0 _ _ _ q7
  have d71 := cell_of_row W4 gp7 1 _ _ _ q7
  have d80 := cell_of_row W4 gp8 0 _ _ _ hp8
  have d81 := cell_of_row W4 gp8 1 _ _ _ hp8
  have hz1 : w.heap.size + 3 ≤ w1.heap.size := by have := (Array.getElem?_eq_some_iff.1 r2).1; omega
  have s1 := (hB4.block (w.heap.size + 1) (by have := hB3.size; omega)).trans ((hB3.block (w.heap.size + 1) (by omega)).trans r1)
  have s2 := (hB4.block (w.heap.size + 1 + 1) (by have := hB3.size; omega)).trans ((hB3.block (w.heap.size + 1 + 1) (by omega)).trans r2)
  have e10 := cell_of_row W4 _ 0 _ _ _ s1
  have e11 := cell_of_row W4 _ 1 _ _ _ s1
  have e1f := frozen_of_row W4 _ 0 _ _ s1
  have e1g := frozen_of_row W4 _ 1 _ _ s1
  have e20 := cell_of_row W4 _ 0 _ _ _ s2
  have e21 := cell_of_row W4 _ 1 _ _ _ s2
  have e2f := frozen_of_row W4 _ 0 _ _ s2
  have e2g := frozen_of_row W4 _ 1 _ _ s2
  have B4 := Lib.hid (B3.out.trans (hB4.mono B3.out.size))
  have O29 := Lib.hid (or29.kept (grownBelow hB4 none) (.inr (by simp [Value.ownBlock])))
  have O35 := Lib.hid (or35.kept (grownBelow hB4 none) (.inr (by simp [Value.ownBlock])))
  have O43 := Lib.hid or43
  have O50 := Lib.hid or50
  have l29 := or29.lt _ rfl
  have l35 := or35.lt _ rfl
  have l43 := or43.lt _ rfl
  have l50 := or50.lt _ rfl
  have S1 := Lib.hid s1
  have S2 := Lib.hid s2
  have hsz := hB3.size
  clear or29 or35 or43 or50 r1 r2 s1 s2 q7 hp7 hp8 hB3 hB4
  go_wp2_with fail
  go_region
  go_wp2_with fail
  have t1 := heap_set2 (u' := .slice (some ⟨gr29, 0, none⟩) (k + 1) cr29) (v' := .slice (some ⟨gr35, 0, none⟩) k cr35) S1.out
  have t2 := (Below.heap_setCell (W4.setCell ⟨w.heap.size + 1, 0, none⟩ (.slice (some ⟨gr29, 0, none⟩) (k + 1) cr29)) ⟨w.heap.size + 1, 1, none⟩ (.slice (some ⟨gr35, 0, none⟩) k cr35) (w.heap.size + 1 + 1) (by show w.heap.size + 1 + 1 ≠ w.heap.size + 1; omega)).trans ((Below.heap_setCell W4 ⟨w.heap.size + 1, 0, none⟩ (.slice (some ⟨gr29, 0, none⟩) (k + 1) cr29) (w.heap.size + 1 + 1) (by show w.heap.size + 1 + 1 ≠ w.heap.size + 1; omega)).trans S2.out)
  obtain ⟨W5, hW5⟩ : ∃ W5, (W4.setCell ⟨w.heap.size + 1, 0, none⟩ (.slice (some ⟨gr29, 0, none⟩) (k + 1) cr29)).setCell ⟨w.heap.size + 1, 1, none⟩ (.slice (some ⟨gr35, 0, none⟩) k cr35) = W5 := ⟨_, rfl⟩
  rw [hW5] at t1 t2 ⊢
  have t3 := heap_set2 (u' := .slice (some ⟨gr43, 0, none⟩) (n - (k + 1)) cr43) (v' := .slice (some ⟨gr50, 0, none⟩) (n2 - (k + 1)) cr50) t2
  have t4 := (Below.heap_setCell (W5.setCell ⟨w.heap.size + 1 + 1, 0, none⟩ (.slice (some ⟨gr43, 0, none⟩) (n - (k + 1)) cr43)) ⟨w.heap.size + 1 + 1, 1, none⟩ (.slice (some ⟨gr50, 0, none⟩) (n2 - (k + 1)) cr50) (w.heap.size + 1) (by show w.heap.size + 1 ≠ w.heap.size + 1 + 1; omega)).trans ((Below.heap_setCell W5 ⟨w.heap.size + 1 + 1, 0, none⟩ (.slice (some ⟨gr43, 0, none⟩) (n - (k + 1)) cr43) (w.heap.size + 1) (by show w.heap.size + 1 ≠ w.heap.size + 1 + 1; omega)).trans t1)
  refine bodyPost_ret (results_cells2 rfl _ _ (w.heap.size + 1) (w.heap.size + 1 + 1) [.slice (some ⟨gr29, 0, none⟩) (k + 1) cr29, .slice (some ⟨gr35, 0, none⟩) k cr35] [.slice (some ⟨gr43, 0, none⟩) (n - (k + 1)) cr43, .slice (some ⟨gr50, 0, none⟩) (n2 - (k + 1)) cr50] _ rfl rfl
    (range2 (cell_of_row _ _ 0 _ _ _ t4) (cell_of_row _ _ 1 _ _ _ t4)) (range2 (cell_of_row _ _ 0 _ _ _ t3) (cell_of_row _ _ 1 _ _ _ t3)) Try.underlying27 rfl (by kernel_rfl) (by kernel_rfl)) rfl ?_
  obtain ⟨g1, g2, g3, g4⟩ := HLS.out
  subst hW5
  refine ⟨_, _, _, _, rfl, ?_, ?_, ?_, ?_, .inr (by simp [Value.ownBlock]; omega), .inr (by simp [Value.ownBlock]; omega), ?_⟩
  · rw [g1]; exact Drawn.own ⟨1, rfl⟩ (own_set (own_set (own_set (own_set (own_low O29.out (by omega)) _ _ _ (by simp [Value.ownBlock]; omega)) _ _ _ (by simp [Value.ownBlock]; omega)) _ _ _ (by simp [Value.ownBlock]; omega)) _ _ _ (by simp [Value.ownBlock]; omega))
  · rw [g2]; exact Drawn.own ⟨1, rfl⟩ (own_set (own_set (own_set (own_set (own_low O35.out (by omega)) _ _ _ (by simp [Value.ownBlock]; omega)) _ _ _ (by simp [Value.ownBlock]; omega)) _ _ _ (by simp [Value.ownBlock]; omega)) _ _ _ (by simp [Value.ownBlock]; omega))
  · rw [g3]; exact Drawn.own ⟨1, rfl⟩ (own_set (own_set (own_set (own_set (own_low O43.out (by omega)) _ _ _ (by simp [Value.ownBlock]; omega)) _ _ _ (by simp [Value.ownBlock]; omega)) _ _ _ (by simp [Value.ownBlock]; omega)) _ _ _ (by simp [Value.ownBlock]; omega))
  · rw [g4]; exact Drawn.own ⟨1, rfl⟩ (own_set (own_set (own_set (own_set (own_low O50.out (by omega)) _ _ _ (by simp [Value.ownBlock]; omega)) _ _ _ (by simp [Value.ownBlock]; omega)) _ _ _ (by simp [Value.ownBlock]; omega)) _ _ _ (by simp [Value.ownBlock]; omega))
  · exact ((((B4.out.setCell (p := ⟨w.heap.size + 1, 0, none⟩) (by show w.heap.size ≤ w.heap.size + 1; omega) _).setCell (p := ⟨w.heap.size + 1, 1, none⟩) (by show w.heap.size ≤ w.heap.size + 1; omega) _).setCell (p := ⟨w.heap.size + 1 + 1, 0, none⟩) (by show w.heap.size ≤ w.heap.size + 1 + 1; omega) _).setCell (p := ⟨w.heap.size + 1 + 1, 1, none⟩) (by show w.heap.size ≤ w.heap.size + 1 + 1; omega) _).trans ((Drawn.one _ 1).below _)
end Go.Proofs.Ytomehioembakgaa
