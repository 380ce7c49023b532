/- Chapter 2: what FnPlaces draws. -/
import Derived.Test.YtgnopkemcgbedabPlC
import Derived.Test.YtgnopkemcgbedabDraw
import Derived.Test.YtgnopkemcgbedabVInt
namespace Go.Proofs.Ytgnopkemcgbedab
open Go.RowKit Go.PlainAid Go.Sort
set_option linter.unusedVariables false
set_option linter.unusedSimpArgs false

/-- A drawn waterway ahead of the answer's store. -/
structure DrS (B : Nat) (W : World) (b0 b3 : Nat) (v1 v2 : Value) (nR nZ : Nat) (R : List (Int × Int × Int)) (Z : List Int) : Prop where
  res : W.heap[b0]? = some (.cells #[.slice none 0 0, .slice none 0 0] 27 (0, 0))
  box : W.heap[b3]? = some (.cells #[v1, v2] 27 (0, 0))
  r : W.ownsRow B 83 3 v1 nR (flat R)
  z : W.ownsRow B 3 1 v2 nZ (Z.map (.int .i64))
/-- .. and behind it. -/
structure DnS (w W : World) (b0 g1 nR c1 : Nat) (A2 : Option Addr) (nZ c2 : Nat) (R : List (Int × Int × Int)) (Z : List Int) : Prop where
  res : W.heap[b0]? = some (.cells #[.slice (some ⟨g1, 0, none⟩) nR c1, .slice A2 nZ c2] 27 (0, 0))
  way : IsWay W W.heap.size (some ⟨g1, 0, none⟩) nR A2 nZ R Z
  bel : Below w.heap.size w W
section
variable {B : Nat} {w W W' : World} {b0 b3 g1 nR c1 nZ c2 : Nat} {A2 : Option Addr} {v1 v2 : Value} {R : List (Int × Int × Int)} {Z : List Int}
theorem DrS.below (h : DrS B W b0 b3 v1 v2 nR nZ R Z) (hb : Below W.heap.size W W') : DrS B W' b0 b3 v1 v2 nR nZ R Z :=
  ⟨(hb.block _ (lt_of_heap h.res)).trans h.res, (hb.block _ (lt_of_heap h.box)).trans h.box, own_below h.r hb, own_below h.z hb⟩
theorem DrS.kept {g : Nat} (h : DrS B W b0 b3 v1 v2 nR nZ R Z) (hg : W.grownBy W' (some g)) (hB : g < B) (h0 : b0 ≠ g) (h3 : b3 ≠ g) : DrS B W' b0 b3 v1 v2 nR nZ R Z :=
  ⟨(hg.block _ (lt_of_heap h.res) (fun e => h0 (by injection e))).trans h.res, (hg.block _ (lt_of_heap h.box) (fun e => h3 (by injection e))).trans h.box, h.r.kept hg (.inr (own_past h.r hB)), h.z.kept hg (.inr (own_past h.z hB))⟩
theorem DrS.cA (h : DrS B W b0 b3 v1 v2 nR nZ R Z) : W.cell? ⟨b3, 0, none⟩ = some v1 := cell_of_row _ _ 0 _ _ _ h.box
theorem DrS.cB (h : DrS B W b0 b3 v1 v2 nR nZ R Z) : W.cell? ⟨b3, 1, none⟩ = some v2 := cell_of_row _ _ 1 _ _ _ h.box
theorem DrS.rs (h : DrS B W b0 b3 v1 v2 nR nZ R Z) : W.cell? ⟨b0, 0, none⟩ = some (.slice none 0 0) ∧ W.cell? ⟨b0, 1, none⟩ = some (.slice none 0 0) ∧ W.frozen? ⟨b0, 0, none⟩ = false ∧ W.frozen? ⟨b0, 1, none⟩ = false :=
  ⟨cell_of_row _ _ 0 _ _ _ h.res, cell_of_row _ _ 1 _ _ _ h.res, frozen_of_row _ _ 0 _ _ h.res, frozen_of_row _ _ 1 _ _ h.res⟩
theorem DrS.done (h : DrS B W b0 b3 (.slice (some ⟨g1, 0, none⟩) nR c1) (.slice A2 nZ c2) nR nZ R Z) (hb : Below w.heap.size w W) (hge : w.heap.size ≤ b0) (hR : R.length = nR) (hZ : Z.length = nZ) :
    DnS w ((W.setCell ⟨b0, 0, none⟩ (.slice (some ⟨g1, 0, none⟩) nR c1)).setCell ⟨b0, 1, none⟩ (.slice A2 nZ c2)) b0 g1 nR c1 A2 nZ c2 R Z := by
  have k := heap_setA (u' := .slice (some ⟨g1, 0, none⟩) nR c1) h.res
  have r1 := h.r.kept (grown_setW W b0 0 (.slice (some ⟨g1, 0, none⟩) nR c1)) (.inr (own_off h.r h.res ne_wr))
  have z1 := h.z.kept (grown_setW W b0 0 (.slice (some ⟨g1, 0, none⟩) nR c1)) (.inr (own_off h.z h.res ne_wi))
  have r2 := r1.kept (grown_setW _ b0 1 (.slice A2 nZ c2)) (.inr (own_off r1 k ne_wr))
  have z2 := z1.kept (grown_setW _ b0 1 (.slice A2 nZ c2)) (.inr (own_off z1 k ne_wi))
  exact ⟨heap_set2 h.res, ⟨hR, hZ, Nat.le_refl _, own_hasv r2, own_hasv z2⟩, (hb.setCell (p := ⟨b0, 0, none⟩) hge _).setCell (p := ⟨b0, 1, none⟩) hge _⟩
theorem DnS.below (h : DnS w W b0 g1 nR c1 A2 nZ c2 R Z) (hb : Below W.heap.size W W') : DnS w W' b0 g1 nR c1 A2 nZ c2 R Z :=
  ⟨(hb.block _ (lt_of_heap h.res)).trans h.res, (h.way.below hb (Nat.le_refl _)).all, h.bel.trans (hb.mono h.bel.size)⟩
theorem DnS.range (h : DnS w W b0 g1 nR c1 A2 nZ c2 R Z) : W.rangeAt b0 0 [.slice (some ⟨g1, 0, none⟩) nR c1, .slice A2 nZ c2] :=
  range2 (cell_of_row _ _ 0 _ _ _ h.res) (cell_of_row _ _ 1 _ _ _ h.res)
end
theorem memA {z : Int} (h : z ∈ [1, 6, 7, 10, 20, 0, 21, 13]) : -1 ≤ z ∧ z ≤ 2000000 := by
  simp only [List.mem_cons, List.not_mem_nil, or_false] at h
  omega
theorem results_wy1 {P : Program} {fn : Func} {p t : Tmp} {ty : TypeId} (h : fn.results = #[.cell p ty, .tmp t]) (tmps : Array Value) (w : World) (g : Nat) (cs : List Value) (d : TypeDesc)
    (hp : tmps.getD p undef = .pointer (some ⟨g, 0, none⟩)) (hc : w.rangeAt g 0 cs) (hu : P.underlying ty = some d) (hd : d.isRow = true) (hi : (P.info? ty).map (·.size) = some cs.length) :
    (results fn tmps).run P w = .ok (.tuple #[.agg cs.toArray, tmps.getD t undef]) w := by
  have hp' : tmps[p]?.getD undef = .pointer (some ⟨g, 0, none⟩) := by simpa using hp
  simp [results, h, hp', asAddr, run_loadVar_mid w g 0 ty cs d hc hu hd hi]
theorem results_wy2 {P : Program} {fn : Func} {p t q : Tmp} {ty : TypeId} (h : fn.results = #[.cell p ty, .tmp t, .tmp q]) (tmps : Array Value) (w : World) (g : Nat) (cs : List Value) (d : TypeDesc)
    (hp : tmps.getD p undef = .pointer (some ⟨g, 0, none⟩)) (hc : w.rangeAt g 0 cs) (hu : P.underlying ty = some d) (hd : d.isRow = true) (hi : (P.info? ty).map (·.size) = some cs.length) :
    (results fn tmps).run P w = .ok (.tuple #[.agg cs.toArray, tmps.getD t undef, tmps.getD q undef]) w := by
  have hp' : tmps[p]?.getD undef = .pointer (some ⟨g, 0, none⟩) := by simpa using hp
  simp [results, h, hp', asAddr, run_loadVar_mid w g 0 ty cs d hc hu hd hi]
theorem results_wy3 {P : Program} {fn : Func} {p t q r : Tmp} {ty : TypeId} (h : fn.results = #[.cell p ty, .tmp t, .tmp q, .tmp r]) (tmps : Array Value) (w : World) (g : Nat) (cs : List Value) (d : TypeDesc)
    (hp : tmps.getD p undef = .pointer (some ⟨g, 0, none⟩)) (hc : w.rangeAt g 0 cs) (hu : P.underlying ty = some d) (hd : d.isRow = true) (hi : (P.info? ty).map (·.size) = some cs.length) :
    (results fn tmps).run P w = .ok (.tuple #[.agg cs.toArray, tmps.getD t undef, tmps.getD q undef, tmps.getD r undef]) w := by
  have hp' : tmps[p]?.getD undef = .pointer (some ⟨g, 0, none⟩) := by simpa using hp
  simp [results, h, hp', asAddr, run_loadVar_mid w g 0 ty cs d hc hu hd hi]
theorem own_capO {w : World} {base : Nat} {e : TypeId} {A : Option Addr} {n c : Nat} {xs : List Value} {z : Nat} (h : w.ownsRow base e z (.slice A n c) n xs) : n ≤ c := by
  rcases h.2 with ⟨e1, h0⟩ | ⟨g', cap, cur, e1, -, -, hl⟩
  · omega
  · injection e1 with e1 e2 e3
    subst e3
    exact hl.1
/-- A drawn waterway in memory. -/
structure WayD (w W : World) (g1 nR c1 : Nat) (A2 : Option Addr) (nZ c2 : Nat) (R : List (Int × Int × Int)) (Z : List Int) : Prop where
  n0 : 0 < nR
  n7 : nR ≤ 7
  c1 : nR ≤ c1
  c2 : nZ ≤ c2
  way : IsWay W W.heap.size (some ⟨g1, 0, none⟩) nR A2 nZ R Z
  bel : Below w.heap.size w W
def DrwY1 (w : World) (e : Ending) (w' : World) : Prop := ∃ (g1 nR c1 : Nat) (A2 : Option Addr) (nZ c2 : Nat) (R : List (Int × Int × Int)) (Z : List Int) (x : Int), WayD w w' g1 nR c1 A2 nZ c2 R Z ∧ (-1 ≤ x ∧ x ≤ 2000000) ∧ e = .returned (.tuple #[.agg #[.slice (some ⟨g1, 0, none⟩) nR c1, .slice A2 nZ c2], .int .i64 x])
def DrwY2 (w : World) (e : Ending) (w' : World) : Prop := ∃ (g1 nR c1 : Nat) (A2 : Option Addr) (nZ c2 : Nat) (R : List (Int × Int × Int)) (Z : List Int) (x y : Int), WayD w w' g1 nR c1 A2 nZ c2 R Z ∧ (-1 ≤ x ∧ x ≤ 2000000) ∧ (-1 ≤ y ∧ y ≤ 2000000) ∧ e = .returned (.tuple #[.agg #[.slice (some ⟨g1, 0, none⟩) nR c1, .slice A2 nZ c2], .int .i64 x, .int .i64 y])
def DrwY3 (w : World) (e : Ending) (w' : World) : Prop := ∃ (g1 nR c1 : Nat) (A2 : Option Addr) (nZ c2 : Nat) (R : List (Int × Int × Int)) (Z : List Int) (x y v : Int), WayD w w' g1 nR c1 A2 nZ c2 R Z ∧ (-1 ≤ x ∧ x ≤ 2000000) ∧ (-1 ≤ y ∧ y ≤ 2000000) ∧ (-1 ≤ v ∧ v ≤ 2000000) ∧ e = .returned (.tuple #[.agg #[.slice (some ⟨g1, 0, none⟩) nR c1, .slice A2 nZ c2], .int .i64 x, .int .i64 y, .int .i64 v])
theorem Code_.up {w : World} {A : Option Addr} {n : Nat} {zs : List Int} {B : Nat} (h : Code_ w A n zs B) (o : Obj) : Code_ (w.alloc o) A n zs B :=
  ⟨h.len, h.small, h.bytes, h.has.alloc h.size _, by have := h.size; simp; omega⟩
theorem DnS.wayD {w W : World} {b0 g1 nR c1 nZ c2 : Nat} {A2 : Option Addr} {R : List (Int × Int × Int)} {Z : List Int} (h : DnS w W b0 g1 nR c1 A2 nZ c2 R Z) (h0 : 0 < nR) (h7 : nR ≤ 7) (k1 : nR ≤ c1) (k2 : nZ ≤ c2) : WayD w W g1 nR c1 A2 nZ c2 R Z := ⟨h0, h7, k1, k2, h.way, h.bel⟩
set_option maxRecDepth 100000 in
set_option maxHeartbeats 4000000 in
theorem drawLks_any {w : World} {A : Option Addr} {n : Nat} {zs : List Int} {B : Nat} (c : Nat) (h : Code_ w A n zs B) :
    Calls Try.prog 8 #[.slice A n c] w (DrwY2 w) := by
  have h1 := h.up (wayO (.slice none 0 0) (.slice none 0 0))
  have H := Lib.hid (h1.start c)
  obtain ⟨W0, hW0⟩ : ∃ x, (w.alloc (wayO (.slice none 0 0) (.slice none 0 0))).alloc (.cells #[.slice A n c, .int .i64 0, .int .u64 0] 75) = x := ⟨_, rfl⟩
  have hbs : Hid (∀ W, W0.grownBy W (some (w.heap.size + 1)) → Below w.heap.size w W) := Lib.hid (fun W h => (below1x w _).trans ((below_start (w := w.alloc (wayO (.slice none 0 0) (.slice none 0 0))) (by rw [hW0]; simpa using h)).mono (by simp)))
  have RS : Hid (W0.heap[w.heap.size]? = some (.cells #[.slice none 0 0, .slice none 0 0] 27 (0, 0))) := Lib.hid (by rw [← hW0]; exact (heap_alloc_old _ _ (by simp)).trans (heap_alloc_new w _))
  have hs0 : W0.heap.size = w.heap.size + 2 := by rw [← hW0]; simp
  rw [hW0] at H
  rw [World.size_alloc] at H
  clear h h1
  go_enter Try.func8, Try.ntmps8
  go_wp2_with fail
  obtain ⟨g, hg⟩ : ∃ x, w.heap.size + 1 = x := ⟨_, rfl⟩
  obtain ⟨b0, hb0⟩ : ∃ x, w.heap.size = x := ⟨_, rfl⟩
  try rw [hW0]
  rw [hg] at H hbs
  rw [hb0] at RS
  try simp only [hg]
  try simp only [hb0]
  clear hW0
  refine (anyWaterway_at H.out (by omega)).mono ?_
  rintro e w1 ⟨g1, A2, nR, c1, nZ, c2, R, Z, rfl, hn0, hn7, hz7, hRl, hZl, hok, hor, hoz, hs⟩
  have hk1 := own_capO hor
  have hk2 := own_capO hoz
  have hsz := hs.grown.size
  obtain ⟨BB, hBB⟩ : ∃ x, W0.heap.size = x := ⟨_, rfl⟩
  have hgB : g < BB := by omega
  have hg0 : b0 ≠ g := by omega
  have hgw : w.heap.size ≤ b0 := by omega
  have P2 : Hid (DrS BB (w1.alloc (wayO (.slice (some ⟨g1, 0, none⟩) nR c1) (.slice A2 nZ c2))) b0 w1.heap.size (.slice (some ⟨g1, 0, none⟩) nR c1) (.slice A2 nZ c2) nR nZ R Z) := Lib.hid
    ⟨(heap_alloc_old _ _ (by omega)).trans ((hs.grown.block _ (by omega) (fun e => hg0 (by injection e))).trans RS.out), heap_alloc_new w1 _, own_below (by rw [← hBB]; exact hor) (below1x _ _), own_below (by rw [← hBB]; exact hoz) (below1x _ _)⟩
  have S2 := Lib.hid (hs.alloc (wayO (.slice (some ⟨g1, 0, none⟩) nR c1) (.slice A2 nZ c2)))
  have HOK := Lib.hid hok
  have hg3 : w1.heap.size ≠ g := by omega
  clear hs hor hoz hok RS
  go_wp2_with fail
  obtain ⟨w2, hw2⟩ : ∃ x, w1.alloc (wayO (.slice (some ⟨g1, 0, none⟩) nR c1) (.slice A2 nZ c2)) = x := ⟨_, rfl⟩
  obtain ⟨b3, hb3⟩ : ∃ x, w1.heap.size = x := ⟨_, rfl⟩
  rw [hw2, hb3] at P2
  rw [hw2] at S2
  try rw [hw2]
  try simp only [hb3]
  rw [hb3] at hg3
  clear hw2 hb3 hsz hs0 hBB
  obtain ⟨D9, hD9⟩ : ∃ d : Int, d = 200 := ⟨_, rfl⟩
  rw [← hD9] at S2
  have hg2 := S2.out.lt
  have P6 := P2
  have S6 := S2
  clear P2 S2
  refine region_inv (by kernel_rfl) (by kernel_rfl) (fun Fl9 ac W => ∃ (x12 x13 x14 x15 x16 x17 x18 x3 x4 : Value), ac = { tmps := #[Value.slice A n c, undef, Value.pointer (some ⟨b0, 0, none⟩), x3, x4, Value.pointer (some ⟨g, 0, none⟩), Value.pointer (some ⟨b3, 0, none⟩), Value.slice A n c, Value.agg #[Value.slice A n c, Value.int IntKind.i64 0, Value.int IntKind.u64 0], Value.pointer (some ⟨g, 0, none⟩), Value.pointer (some ⟨g, 0, none⟩), Value.agg #[Value.slice (some ⟨g1, 0, none⟩) nR c1, Value.slice A2 nZ c2], x12, x13, x14, x15, x16, x17, x18], defers := [] } ∧ UpW w2.heap.size w2 W ∧
        (Fl9 0 = true → x12 = .agg #[.slice (some ⟨g1, 0, none⟩) nR c1, .slice A2 nZ c2]) ∧
        (Fl9 1 = true → x13 = .pointer (some ⟨g, 0, none⟩)) ∧
        (Fl9 2 = true → x14 = .agg #[.slice (some ⟨g1, 0, none⟩) nR c1, .slice A2 nZ c2]) ∧
        (Fl9 3 = true → ∃ z9 : Int, x15 = .int .i64 z9 ∧ (-1 ≤ z9 ∧ z9 ≤ 2000000)) ∧
        (Fl9 4 = true → x16 = .pointer (some ⟨g, 0, none⟩)) ∧
        (Fl9 5 = true → x17 = .agg #[.slice (some ⟨g1, 0, none⟩) nR c1, .slice A2 nZ c2]) ∧
        (Fl9 6 = true → ∃ z9 : Int, x18 = .int .i64 z9 ∧ (-1 ≤ z9 ∧ z9 ≤ 2000000)) ∧
        (Fl9 7 = true → DnS w W b0 g1 nR c1 A2 nZ c2 R Z) ∧
        (Fl9 8 = true → ∃ z9 : Int, x3 = .int .i64 z9 ∧ (-1 ≤ z9 ∧ z9 ≤ 2000000)) ∧
        (Fl9 9 = true → ∃ z9 : Int, x4 = .int .i64 z9 ∧ (-1 ≤ z9 ∧ z9 ≤ 2000000)) ∧
        (Fl9 7 = false → DrS BB W b0 b3 (.slice (some ⟨g1, 0, none⟩) nR c1) (.slice A2 nZ c2) nR nZ R Z) ∧
        (Fl9 7 = false → CurStep W0 W g A n c 0 (D9 + 10 * (((Fl9 3).toNat : Int) + ((Fl9 6).toNat : Int)))) ∧
        (Fl9 7 = true → Fl9 0 = true) ∧
        (Fl9 7 = true → Fl9 2 = true) ∧
        (Fl9 7 = true → Fl9 5 = true) ∧
        (Fl9 7 = true → Fl9 3 = true) ∧
        (Fl9 7 = true → Fl9 6 = true) ∧
        (Fl9 6 = true → Fl9 3 = true) ∧
        (Fl9 3 = true → Fl9 2 = true) ∧
        (Fl9 6 = true → Fl9 5 = true)) ?_ ?_ ?_
  · exact ⟨_, _, _, _, _, _, _, _, _, rfl, UpW.of ((Drawn.one w2 1).below _), (fun q0 => nomatch q0), (fun q0 => nomatch q0), (fun q0 => nomatch q0), (fun q0 => nomatch q0), (fun q0 => nomatch q0), (fun q0 => nomatch q0), (fun q0 => nomatch q0), (fun q0 => nomatch q0), (fun q0 => nomatch q0), (fun q0 => nomatch q0), (fun _ => P6.out.below ((Drawn.one w2 1).below _)), (fun _ => (S6.out.on ((Drawn.one w2 1).below _)).mono (by simp)), (fun q0 => nomatch q0), (fun q0 => nomatch q0), (fun q0 => nomatch q0), (fun q0 => nomatch q0), (fun q0 => nomatch q0), (fun q0 => nomatch q0), (fun q0 => nomatch q0), (fun q0 => nomatch q0)⟩
  · intro Fl9 ac W i9 o9 hJ ho hL hdep K9 hK
    obtain ⟨x12, x13, x14, x15, x16, x17, x18, x3, x4, rfl, hB, hh0, hh1, hh2, hh3, hh4, hh5, hh6, hh7, hh8, hh9, hx0, hx1, hx2, hx3, hx4, hx5, hx6, hx7, hx8, hx9⟩ := hJ
    have hi9 : i9 < 10 := by simpa using (Array.getElem?_eq_some_iff.1 ho).1
    obtain rfl | rfl | rfl | rfl | rfl | rfl | rfl | rfl | rfl | rfl : i9 = 0 ∨ i9 = 1 ∨ i9 = 2 ∨ i9 = 3 ∨ i9 = 4 ∨ i9 = 5 ∨ i9 = 6 ∨ i9 = 7 ∨ i9 = 8 ∨ i9 = 9 := by omega
    · -- operation 0
      cases ho
      have hT : Fl9 7 = false := Bool.eq_false_iff.2 (fun h => absurd (hx2 h) (by rw [hL]; simp))
      have C9 := (hx0 hT).cA
      have C8 := (hx0 hT).cB
      go_simp
      exact hK _ _ ⟨_, _, _, _, _, _, _, _, _, rfl, hB, fun _ => rfl, hh1, hh2, hh3, hh4, hh5, hh6, hh7, hh8, hh9, hx0, hx1, fun _ => rfl, hx3, hx4, hx5, hx6, hx7, hx8, hx9⟩
    · -- operation 1
      cases ho
      go_simp
      exact hK _ _ ⟨_, _, _, _, _, _, _, _, _, rfl, hB, hh0, fun _ => rfl, hh2, hh3, hh4, hh5, hh6, hh7, hh8, hh9, hx0, hx1, hx2, hx3, hx4, hx5, hx6, hx7, hx8, hx9⟩
    · -- operation 2
      cases ho
      have hT : Fl9 7 = false := Bool.eq_false_iff.2 (fun h => absurd (hx3 h) (by rw [hL]; simp))
      have C9 := (hx0 hT).cA
      have C8 := (hx0 hT).cB
      go_simp
      exact hK _ _ ⟨_, _, _, _, _, _, _, _, _, rfl, hB, hh0, hh1, fun _ => rfl, hh3, hh4, hh5, hh6, hh7, hh8, hh9, hx0, hx1, hx2, fun _ => rfl, hx4, hx5, hx6, hx7, fun _ => rfl, hx9⟩
    · -- operation 3
      cases ho
      have hT : Fl9 7 = false := Bool.eq_false_iff.2 (fun h => absurd (hx5 h) (by rw [hL]; simp))
      have hbn3 := bN (Fl9 3)
      have hbn6 := bN (Fl9 6)
      obtain rfl := hh1 (hdep ⟨1, .data⟩ (by simp) rfl)
      obtain rfl := hh2 (hdep ⟨2, .data⟩ (by simp) rfl)
      obtain ⟨q9, q90, q91, H9⟩ := (hx1 hT).at H.out
      go_simp
      refine (placeOf_at H9 (by omega) (some ⟨g1, 0, none⟩) A2 nR c1 nZ c2 W.heap.size (by omega) R hRl HOK.out (Nat.le_refl _) (own_hasv (hx0 hT).r)).mono ?_
      rintro e w9 ⟨z9, hz9, rfl, hs9⟩
      exact hK _ _ ⟨_, _, _, _, _, _, _, _, _, rfl, hB.trans ((UpW.grown hs9.grown).mono hB.size), hh0, hh1, hh2, fun _ => ⟨_, rfl, hz9⟩, hh4, hh5, hh6, (fun q0 => absurd (hx5 q0) (by rw [hL]; simp)), hh8, hh9, fun q0 => (hx0 q0).kept hs9.grown hgB hg0 hg3, fun q0 => ((hx1 q0).then hs9 q90 q91).mono (by simp [hL] <;> omega), hx2, hx3, hx4, fun _ => rfl, hx6, fun _ => rfl, fun _ => hdep ⟨2, .data⟩ (by simp) rfl, hx9⟩
    · -- operation 4
      cases ho
      go_simp
      exact hK _ _ ⟨_, _, _, _, _, _, _, _, _, rfl, hB, hh0, hh1, hh2, hh3, fun _ => rfl, hh5, hh6, hh7, hh8, hh9, hx0, hx1, hx2, hx3, hx4, hx5, hx6, hx7, hx8, hx9⟩
    · -- operation 5
      cases ho
      have hT : Fl9 7 = false := Bool.eq_false_iff.2 (fun h => absurd (hx4 h) (by rw [hL]; simp))
      have C9 := (hx0 hT).cA
      have C8 := (hx0 hT).cB
      go_simp
      exact hK _ _ ⟨_, _, _, _, _, _, _, _, _, rfl, hB, hh0, hh1, hh2, hh3, hh4, fun _ => rfl, hh6, hh7, hh8, hh9, hx0, hx1, hx2, hx3, fun _ => rfl, hx5, hx6, hx7, hx8, fun _ => rfl⟩
    · -- operation 6
      cases ho
      have hT : Fl9 7 = false := Bool.eq_false_iff.2 (fun h => absurd (hx6 h) (by rw [hL]; simp))
      have hbn3 := bN (Fl9 3)
      have hbn6 := bN (Fl9 6)
      obtain rfl := hh4 (hdep ⟨4, .data⟩ (by simp) rfl)
      obtain rfl := hh5 (hdep ⟨5, .data⟩ (by simp) rfl)
      obtain ⟨q9, q90, q91, H9⟩ := (hx1 hT).at H.out
      go_simp
      refine (placeOf_at H9 (by omega) (some ⟨g1, 0, none⟩) A2 nR c1 nZ c2 W.heap.size (by omega) R hRl HOK.out (Nat.le_refl _) (own_hasv (hx0 hT).r)).mono ?_
      rintro e w9 ⟨z9, hz9, rfl, hs9⟩
      exact hK _ _ ⟨_, _, _, _, _, _, _, _, _, rfl, hB.trans ((UpW.grown hs9.grown).mono hB.size), hh0, hh1, hh2, hh3, hh4, hh5, fun _ => ⟨_, rfl, hz9⟩, (fun q0 => absurd (hx6 q0) (by rw [hL]; simp)), hh8, hh9, fun q0 => (hx0 q0).kept hs9.grown hgB hg0 hg3, fun q0 => ((hx1 q0).then hs9 q90 q91).mono (by simp [hL] <;> omega), hx2, hx3, hx4, hx5, fun _ => rfl, fun _ => hdep ⟨3, .chain⟩ (by simp) rfl, hx8, fun _ => hdep ⟨5, .data⟩ (by simp) rfl⟩
    · -- operation 7
      cases ho
      have hp6 := hdep ⟨6, .chain⟩ (by simp) rfl
      have hp3 := hx7 hp6
      have hp0 := hdep ⟨0, .data⟩ (by simp) rfl
      obtain rfl := hh0 hp0
      have hp2 := hx8 hp3
      have hp5 := hx9 hp6
      obtain ⟨re0, re1, rf0, rf1⟩ := (hx0 hL).rs
      go_simp
      exact hK _ _ ⟨_, _, _, _, _, _, _, _, _, rfl, (hB.set _ _).set _ _, (fun _ => rfl), hh1, (fun _ => rfl), hh3, hh4, (fun _ => rfl), hh6, fun _ => (hx0 hL).done (hbs.out _ (hx1 hL).grown) hgw hRl hZl, hh8, hh9, (fun q0 => nomatch q0), (fun q0 => nomatch q0), fun _ => hp0, fun _ => hp2, fun _ => hp5, fun _ => hp3, fun _ => hp6, hx7, hx8, hx9⟩
    · -- operation 8
      cases ho
      have hd3 := hdep ⟨3, .data⟩ (by simp) rfl
      obtain ⟨z15, rfl, hz15⟩ := hh3 hd3
      go_simp
      exact hK _ _ ⟨_, _, _, _, _, _, _, _, _, rfl, hB, hh0, hh1, (fun _ => rfl), hh3, hh4, hh5, hh6, hh7, fun _ => ⟨_, rfl, hz15⟩, hh9, hx0, hx1, hx2, hx3, hx4, hx5, hx6, hx7, hx8, hx9⟩
    · -- operation 9
      cases ho
      have hd6 := hdep ⟨6, .data⟩ (by simp) rfl
      obtain ⟨z18, rfl, hz18⟩ := hh6 hd6
      go_simp
      exact hK _ _ ⟨_, _, _, _, _, _, _, _, _, rfl, hB, hh0, hh1, hh2, hh3, hh4, (fun _ => rfl), hh6, hh7, hh8, fun _ => ⟨_, rfl, hz18⟩, hx0, hx1, hx2, hx3, hx4, hx5, hx6, hx7, hx8, hx9⟩
  intro Fl9 ac W hJ hall
  obtain ⟨x12, x13, x14, x15, x16, x17, x18, x3, x4, rfl, hB, hh0, hh1, hh2, hh3, hh4, hh5, hh6, hh7, hh8, hh9, -, -, -, -, -, -, -, -, -, -⟩ := hJ
  obtain rfl := hh0 (hall 0 (by decide))
  obtain rfl := hh1 (hall 1 (by decide))
  obtain rfl := hh2 (hall 2 (by decide))
  obtain rfl := hh4 (hall 4 (by decide))
  obtain rfl := hh5 (hall 5 (by decide))
  obtain - := hh3 (hall 3 (by decide))
  obtain - := hh6 (hall 6 (by decide))
  obtain P7 := hh7 (hall 7 (by decide))
  obtain ⟨z3, rfl, hz3⟩ := hh8 (hall 8 (by decide))
  obtain ⟨z4, rfl, hz4⟩ := hh9 (hall 9 (by decide))
  clear hall
  have P7 := Lib.hid P7
  clear hB P6 S6
  go_wp2_with fail
  refine bodyPost_ret (results_wy2 rfl _ _ b0 [.slice (some ⟨g1, 0, none⟩) nR c1, .slice A2 nZ c2] _ rfl P7.out.range Try.underlying27 rfl (by kernel_rfl)) rfl ?_
  exact ⟨g1, nR, c1, A2, nZ, c2, R, Z, z3, z4, P7.out.wayD hn0 hn7 hk1 hk2, (by omega), (by omega), rfl⟩
set_option maxRecDepth 100000 in
set_option maxHeartbeats 4000000 in
theorem drawShl_any {w : World} {A : Option Addr} {n : Nat} {zs : List Int} {B : Nat} (c : Nat) (h : Code_ w A n zs B) :
    Calls Try.prog 18 #[.slice A n c] w (DrwY2 w) := by
  have h1 := h.up (wayO (.slice none 0 0) (.slice none 0 0))
  have H := Lib.hid (h1.start c)
  obtain ⟨W0, hW0⟩ : ∃ x, (w.alloc (wayO (.slice none 0 0) (.slice none 0 0))).alloc (.cells #[.slice A n c, .int .i64 0, .int .u64 0] 75) = x := ⟨_, rfl⟩
  have hbs : Hid (∀ W, W0.grownBy W (some (w.heap.size + 1)) → Below w.heap.size w W) := Lib.hid (fun W h => (below1x w _).trans ((below_start (w := w.alloc (wayO (.slice none 0 0) (.slice none 0 0))) (by rw [hW0]; simpa using h)).mono (by simp)))
  have RS : Hid (W0.heap[w.heap.size]? = some (.cells #[.slice none 0 0, .slice none 0 0] 27 (0, 0))) := Lib.hid (by rw [← hW0]; exact (heap_alloc_old _ _ (by simp)).trans (heap_alloc_new w _))
  have hs0 : W0.heap.size = w.heap.size + 2 := by rw [← hW0]; simp
  rw [hW0] at H
  rw [World.size_alloc] at H
  clear h h1
  go_enter Try.func18, Try.ntmps18
  go_wp2_with fail
  obtain ⟨g, hg⟩ : ∃ x, w.heap.size + 1 = x := ⟨_, rfl⟩
  obtain ⟨b0, hb0⟩ : ∃ x, w.heap.size = x := ⟨_, rfl⟩
  try rw [hW0]
  rw [hg] at H hbs
  rw [hb0] at RS
  try simp only [hg]
  try simp only [hb0]
  clear hW0
  refine (anyWaterway_at H.out (by omega)).mono ?_
  rintro e w1 ⟨g1, A2, nR, c1, nZ, c2, R, Z, rfl, hn0, hn7, hz7, hRl, hZl, hok, hor, hoz, hs⟩
  have hk1 := own_capO hor
  have hk2 := own_capO hoz
  have hsz := hs.grown.size
  obtain ⟨BB, hBB⟩ : ∃ x, W0.heap.size = x := ⟨_, rfl⟩
  have hgB : g < BB := by omega
  have hg0 : b0 ≠ g := by omega
  have hgw : w.heap.size ≤ b0 := by omega
  have P2 : Hid (DrS BB (w1.alloc (wayO (.slice (some ⟨g1, 0, none⟩) nR c1) (.slice A2 nZ c2))) b0 w1.heap.size (.slice (some ⟨g1, 0, none⟩) nR c1) (.slice A2 nZ c2) nR nZ R Z) := Lib.hid
    ⟨(heap_alloc_old _ _ (by omega)).trans ((hs.grown.block _ (by omega) (fun e => hg0 (by injection e))).trans RS.out), heap_alloc_new w1 _, own_below (by rw [← hBB]; exact hor) (below1x _ _), own_below (by rw [← hBB]; exact hoz) (below1x _ _)⟩
  have S2 := Lib.hid (hs.alloc (wayO (.slice (some ⟨g1, 0, none⟩) nR c1) (.slice A2 nZ c2)))
  have HOK := Lib.hid hok
  have hg3 : w1.heap.size ≠ g := by omega
  clear hs hor hoz hok RS
  go_wp2_with fail
  obtain ⟨w2, hw2⟩ : ∃ x, w1.alloc (wayO (.slice (some ⟨g1, 0, none⟩) nR c1) (.slice A2 nZ c2)) = x := ⟨_, rfl⟩
  obtain ⟨b3, hb3⟩ : ∃ x, w1.heap.size = x := ⟨_, rfl⟩
  rw [hw2, hb3] at P2
  rw [hw2] at S2
  try rw [hw2]
  try simp only [hb3]
  rw [hb3] at hg3
  clear hw2 hb3 hsz hs0 hBB
  obtain ⟨D9, hD9⟩ : ∃ d : Int, d = 200 := ⟨_, rfl⟩
  rw [← hD9] at S2
  have hg2 := S2.out.lt
  have P6 := P2
  have S6 := S2
  clear P2 S2
  refine region_inv (by kernel_rfl) (by kernel_rfl) (fun Fl9 ac W => ∃ (x12 x13 x14 x15 x16 x17 x18 x3 x4 : Value), ac = { tmps := #[Value.slice A n c, undef, Value.pointer (some ⟨b0, 0, none⟩), x3, x4, Value.pointer (some ⟨g, 0, none⟩), Value.pointer (some ⟨b3, 0, none⟩), Value.slice A n c, Value.agg #[Value.slice A n c, Value.int IntKind.i64 0, Value.int IntKind.u64 0], Value.pointer (some ⟨g, 0, none⟩), Value.pointer (some ⟨g, 0, none⟩), Value.agg #[Value.slice (some ⟨g1, 0, none⟩) nR c1, Value.slice A2 nZ c2], x12, x13, x14, x15, x16, x17, x18], defers := [] } ∧ UpW w2.heap.size w2 W ∧
        (Fl9 0 = true → x12 = .agg #[.slice (some ⟨g1, 0, none⟩) nR c1, .slice A2 nZ c2]) ∧
        (Fl9 1 = true → x13 = .pointer (some ⟨g, 0, none⟩)) ∧
        (Fl9 2 = true → x14 = .agg #[.slice (some ⟨g1, 0, none⟩) nR c1, .slice A2 nZ c2]) ∧
        (Fl9 3 = true → ∃ z9 : Int, x15 = .int .i64 z9 ∧ (-1 ≤ z9 ∧ z9 ≤ 1000)) ∧
        (Fl9 4 = true → x16 = .pointer (some ⟨g, 0, none⟩)) ∧
        (Fl9 5 = true → x17 = .agg #[.slice (some ⟨g1, 0, none⟩) nR c1, .slice A2 nZ c2]) ∧
        (Fl9 6 = true → ∃ z9 : Int, x18 = .int .i64 z9 ∧ (-1 ≤ z9 ∧ z9 ≤ 1000)) ∧
        (Fl9 7 = true → DnS w W b0 g1 nR c1 A2 nZ c2 R Z) ∧
        (Fl9 8 = true → ∃ z9 : Int, x3 = .int .i64 z9 ∧ (-1 ≤ z9 ∧ z9 ≤ 1000)) ∧
        (Fl9 9 = true → ∃ z9 : Int, x4 = .int .i64 z9 ∧ (-1 ≤ z9 ∧ z9 ≤ 1000)) ∧
        (Fl9 7 = false → DrS BB W b0 b3 (.slice (some ⟨g1, 0, none⟩) nR c1) (.slice A2 nZ c2) nR nZ R Z) ∧
        (Fl9 7 = false → CurStep W0 W g A n c 0 (D9 + 10 * (((Fl9 3).toNat : Int) + ((Fl9 6).toNat : Int)))) ∧
        (Fl9 7 = true → Fl9 0 = true) ∧
        (Fl9 7 = true → Fl9 2 = true) ∧
        (Fl9 7 = true → Fl9 5 = true) ∧
        (Fl9 7 = true → Fl9 3 = true) ∧
        (Fl9 7 = true → Fl9 6 = true) ∧
        (Fl9 6 = true → Fl9 3 = true) ∧
        (Fl9 3 = true → Fl9 2 = true) ∧
        (Fl9 6 = true → Fl9 5 = true)) ?_ ?_ ?_
  · exact ⟨_, _, _, _, _, _, _, _, _, rfl, UpW.of ((Drawn.one w2 1).below _), (fun q0 => nomatch q0), (fun q0 => nomatch q0), (fun q0 => nomatch q0), (fun q0 => nomatch q0), (fun q0 => nomatch q0), (fun q0 => nomatch q0), (fun q0 => nomatch q0), (fun q0 => nomatch q0), (fun q0 => nomatch q0), (fun q0 => nomatch q0), (fun _ => P6.out.below ((Drawn.one w2 1).below _)), (fun _ => (S6.out.on ((Drawn.one w2 1).below _)).mono (by simp)), (fun q0 => nomatch q0), (fun q0 => nomatch q0), (fun q0 => nomatch q0), (fun q0 => nomatch q0), (fun q0 => nomatch q0), (fun q0 => nomatch q0), (fun q0 => nomatch q0), (fun q0 => nomatch q0)⟩
  · intro Fl9 ac W i9 o9 hJ ho hL hdep K9 hK
    obtain ⟨x12, x13, x14, x15, x16, x17, x18, x3, x4, rfl, hB, hh0, hh1, hh2, hh3, hh4, hh5, hh6, hh7, hh8, hh9, hx0, hx1, hx2, hx3, hx4, hx5, hx6, hx7, hx8, hx9⟩ := hJ
    have hi9 : i9 < 10 := by simpa using (Array.getElem?_eq_some_iff.1 ho).1
    obtain rfl | rfl | rfl | rfl | rfl | rfl | rfl | rfl | rfl | rfl : i9 = 0 ∨ i9 = 1 ∨ i9 = 2 ∨ i9 = 3 ∨ i9 = 4 ∨ i9 = 5 ∨ i9 = 6 ∨ i9 = 7 ∨ i9 = 8 ∨ i9 = 9 := by omega
    · -- operation 0
      cases ho
      have hT : Fl9 7 = false := Bool.eq_false_iff.2 (fun h => absurd (hx2 h) (by rw [hL]; simp))
      have C9 := (hx0 hT).cA
      have C8 := (hx0 hT).cB
      go_simp
      exact hK _ _ ⟨_, _, _, _, _, _, _, _, _, rfl, hB, fun _ => rfl, hh1, hh2, hh3, hh4, hh5, hh6, hh7, hh8, hh9, hx0, hx1, fun _ => rfl, hx3, hx4, hx5, hx6, hx7, hx8, hx9⟩
    · -- operation 1
      cases ho
      go_simp
      exact hK _ _ ⟨_, _, _, _, _, _, _, _, _, rfl, hB, hh0, fun _ => rfl, hh2, hh3, hh4, hh5, hh6, hh7, hh8, hh9, hx0, hx1, hx2, hx3, hx4, hx5, hx6, hx7, hx8, hx9⟩
    · -- operation 2
      cases ho
      have hT : Fl9 7 = false := Bool.eq_false_iff.2 (fun h => absurd (hx3 h) (by rw [hL]; simp))
      have C9 := (hx0 hT).cA
      have C8 := (hx0 hT).cB
      go_simp
      exact hK _ _ ⟨_, _, _, _, _, _, _, _, _, rfl, hB, hh0, hh1, fun _ => rfl, hh3, hh4, hh5, hh6, hh7, hh8, hh9, hx0, hx1, hx2, fun _ => rfl, hx4, hx5, hx6, hx7, fun _ => rfl, hx9⟩
    · -- operation 3
      cases ho
      have hT : Fl9 7 = false := Bool.eq_false_iff.2 (fun h => absurd (hx5 h) (by rw [hL]; simp))
      have hbn3 := bN (Fl9 3)
      have hbn6 := bN (Fl9 6)
      obtain rfl := hh1 (hdep ⟨1, .data⟩ (by simp) rfl)
      obtain rfl := hh2 (hdep ⟨2, .data⟩ (by simp) rfl)
      obtain ⟨q9, q90, q91, H9⟩ := (hx1 hT).at H.out
      go_simp
      refine (reachOf_at H9 (by omega) (some ⟨g1, 0, none⟩) A2 nR c1 nZ c2 (by omega)).mono ?_
      rintro e w9 ⟨z9, hz9, rfl, hs9⟩
      exact hK _ _ ⟨_, _, _, _, _, _, _, _, _, rfl, hB.trans ((UpW.grown hs9.grown).mono hB.size), hh0, hh1, hh2, fun _ => ⟨_, rfl, hz9⟩, hh4, hh5, hh6, (fun q0 => absurd (hx5 q0) (by rw [hL]; simp)), hh8, hh9, fun q0 => (hx0 q0).kept hs9.grown hgB hg0 hg3, fun q0 => ((hx1 q0).then hs9 q90 q91).mono (by simp [hL] <;> omega), hx2, hx3, hx4, fun _ => rfl, hx6, fun _ => rfl, fun _ => hdep ⟨2, .data⟩ (by simp) rfl, hx9⟩
    · -- operation 4
      cases ho
      go_simp
      exact hK _ _ ⟨_, _, _, _, _, _, _, _, _, rfl, hB, hh0, hh1, hh2, hh3, fun _ => rfl, hh5, hh6, hh7, hh8, hh9, hx0, hx1, hx2, hx3, hx4, hx5, hx6, hx7, hx8, hx9⟩
    · -- operation 5
      cases ho
      have hT : Fl9 7 = false := Bool.eq_false_iff.2 (fun h => absurd (hx4 h) (by rw [hL]; simp))
      have C9 := (hx0 hT).cA
      have C8 := (hx0 hT).cB
      go_simp
      exact hK _ _ ⟨_, _, _, _, _, _, _, _, _, rfl, hB, hh0, hh1, hh2, hh3, hh4, fun _ => rfl, hh6, hh7, hh8, hh9, hx0, hx1, hx2, hx3, fun _ => rfl, hx5, hx6, hx7, hx8, fun _ => rfl⟩
    · -- operation 6
      cases ho
      have hT : Fl9 7 = false := Bool.eq_false_iff.2 (fun h => absurd (hx6 h) (by rw [hL]; simp))
      have hbn3 := bN (Fl9 3)
      have hbn6 := bN (Fl9 6)
      obtain rfl := hh4 (hdep ⟨4, .data⟩ (by simp) rfl)
      obtain rfl := hh5 (hdep ⟨5, .data⟩ (by simp) rfl)
      obtain ⟨q9, q90, q91, H9⟩ := (hx1 hT).at H.out
      go_simp
      refine (reachOf_at H9 (by omega) (some ⟨g1, 0, none⟩) A2 nR c1 nZ c2 (by omega)).mono ?_
      rintro e w9 ⟨z9, hz9, rfl, hs9⟩
      exact hK _ _ ⟨_, _, _, _, _, _, _, _, _, rfl, hB.trans ((UpW.grown hs9.grown).mono hB.size), hh0, hh1, hh2, hh3, hh4, hh5, fun _ => ⟨_, rfl, hz9⟩, (fun q0 => absurd (hx6 q0) (by rw [hL]; simp)), hh8, hh9, fun q0 => (hx0 q0).kept hs9.grown hgB hg0 hg3, fun q0 => ((hx1 q0).then hs9 q90 q91).mono (by simp [hL] <;> omega), hx2, hx3, hx4, hx5, fun _ => rfl, fun _ => hdep ⟨3, .chain⟩ (by simp) rfl, hx8, fun _ => hdep ⟨5, .data⟩ (by simp) rfl⟩
    · -- operation 7
      cases ho
      have hp6 := hdep ⟨6, .chain⟩ (by simp) rfl
      have hp3 := hx7 hp6
      have hp0 := hdep ⟨0, .data⟩ (by simp) rfl
      obtain rfl := hh0 hp0
      have hp2 := hx8 hp3
      have hp5 := hx9 hp6
      obtain ⟨re0, re1, rf0, rf1⟩ := (hx0 hL).rs
      go_simp
      exact hK _ _ ⟨_, _, _, _, _, _, _, _, _, rfl, (hB.set _ _).set _ _, (fun _ => rfl), hh1, (fun _ => rfl), hh3, hh4, (fun _ => rfl), hh6, fun _ => (hx0 hL).done (hbs.out _ (hx1 hL).grown) hgw hRl hZl, hh8, hh9, (fun q0 => nomatch q0), (fun q0 => nomatch q0), fun _ => hp0, fun _ => hp2, fun _ => hp5, fun _ => hp3, fun _ => hp6, hx7, hx8, hx9⟩
    · -- operation 8
      cases ho
      have hd3 := hdep ⟨3, .data⟩ (by simp) rfl
      obtain ⟨z15, rfl, hz15⟩ := hh3 hd3
      go_simp
      exact hK _ _ ⟨_, _, _, _, _, _, _, _, _, rfl, hB, hh0, hh1, (fun _ => rfl), hh3, hh4, hh5, hh6, hh7, fun _ => ⟨_, rfl, hz15⟩, hh9, hx0, hx1, hx2, hx3, hx4, hx5, hx6, hx7, hx8, hx9⟩
    · -- operation 9
      cases ho
      have hd6 := hdep ⟨6, .data⟩ (by simp) rfl
      obtain ⟨z18, rfl, hz18⟩ := hh6 hd6
      go_simp
      exact hK _ _ ⟨_, _, _, _, _, _, _, _, _, rfl, hB, hh0, hh1, hh2, hh3, hh4, (fun _ => rfl), hh6, hh7, hh8, fun _ => ⟨_, rfl, hz18⟩, hx0, hx1, hx2, hx3, hx4, hx5, hx6, hx7, hx8, hx9⟩
  intro Fl9 ac W hJ hall
  obtain ⟨x12, x13, x14, x15, x16, x17, x18, x3, x4, rfl, hB, hh0, hh1, hh2, hh3, hh4, hh5, hh6, hh7, hh8, hh9, -, -, -, -, -, -, -, -, -, -⟩ := hJ
  obtain rfl := hh0 (hall 0 (by decide))
  obtain rfl := hh1 (hall 1 (by decide))
  obtain rfl := hh2 (hall 2 (by decide))
  obtain rfl := hh4 (hall 4 (by decide))
  obtain rfl := hh5 (hall 5 (by decide))
  obtain - := hh3 (hall 3 (by decide))
  obtain - := hh6 (hall 6 (by decide))
  obtain P7 := hh7 (hall 7 (by decide))
  obtain ⟨z3, rfl, hz3⟩ := hh8 (hall 8 (by decide))
  obtain ⟨z4, rfl, hz4⟩ := hh9 (hall 9 (by decide))
  clear hall
  have P7 := Lib.hid P7
  clear hB P6 S6
  go_wp2_with fail
  refine bodyPost_ret (results_wy2 rfl _ _ b0 [.slice (some ⟨g1, 0, none⟩) nR c1, .slice A2 nZ c2] _ rfl P7.out.range Try.underlying27 rfl (by kernel_rfl)) rfl ?_
  exact ⟨g1, nR, c1, A2, nZ, c2, R, Z, z3, z4, P7.out.wayD hn0 hn7 hk1 hk2, (by omega), (by omega), rfl⟩
set_option maxRecDepth 100000 in
set_option maxHeartbeats 4000000 in
theorem drawLev_any {w : World} {A : Option Addr} {n : Nat} {zs : List Int} {B : Nat} (c : Nat) (h : Code_ w A n zs B) :
    Calls Try.prog 21 #[.slice A n c] w (DrwY1 w) := by
  have h1 := h.up (wayO (.slice none 0 0) (.slice none 0 0))
  have H := Lib.hid (h1.start c)
  obtain ⟨W0, hW0⟩ : ∃ x, (w.alloc (wayO (.slice none 0 0) (.slice none 0 0))).alloc (.cells #[.slice A n c, .int .i64 0, .int .u64 0] 75) = x := ⟨_, rfl⟩
  have hbs : Hid (∀ W, W0.grownBy W (some (w.heap.size + 1)) → Below w.heap.size w W) := Lib.hid (fun W h => (below1x w _).trans ((below_start (w := w.alloc (wayO (.slice none 0 0) (.slice none 0 0))) (by rw [hW0]; simpa using h)).mono (by simp)))
  have RS : Hid (W0.heap[w.heap.size]? = some (.cells #[.slice none 0 0, .slice none 0 0] 27 (0, 0))) := Lib.hid (by rw [← hW0]; exact (heap_alloc_old _ _ (by simp)).trans (heap_alloc_new w _))
  have hs0 : W0.heap.size = w.heap.size + 2 := by rw [← hW0]; simp
  rw [hW0] at H
  rw [World.size_alloc] at H
  clear h h1
  go_enter Try.func21, Try.ntmps21
  go_wp2_with fail
  obtain ⟨g, hg⟩ : ∃ x, w.heap.size + 1 = x := ⟨_, rfl⟩
  obtain ⟨b0, hb0⟩ : ∃ x, w.heap.size = x := ⟨_, rfl⟩
  try rw [hW0]
  rw [hg] at H hbs
  rw [hb0] at RS
  try simp only [hg]
  try simp only [hb0]
  clear hW0
  refine (anyWaterway_at H.out (by omega)).mono ?_
  rintro e w1 ⟨g1, A2, nR, c1, nZ, c2, R, Z, rfl, hn0, hn7, hz7, hRl, hZl, hok, hor, hoz, hs⟩
  have hk1 := own_capO hor
  have hk2 := own_capO hoz
  have hsz := hs.grown.size
  obtain ⟨BB, hBB⟩ : ∃ x, W0.heap.size = x := ⟨_, rfl⟩
  have hgB : g < BB := by omega
  have hg0 : b0 ≠ g := by omega
  have hgw : w.heap.size ≤ b0 := by omega
  have P2 : Hid (DrS BB (w1.alloc (wayO (.slice (some ⟨g1, 0, none⟩) nR c1) (.slice A2 nZ c2))) b0 w1.heap.size (.slice (some ⟨g1, 0, none⟩) nR c1) (.slice A2 nZ c2) nR nZ R Z) := Lib.hid
    ⟨(heap_alloc_old _ _ (by omega)).trans ((hs.grown.block _ (by omega) (fun e => hg0 (by injection e))).trans RS.out), heap_alloc_new w1 _, own_below (by rw [← hBB]; exact hor) (below1x _ _), own_below (by rw [← hBB]; exact hoz) (below1x _ _)⟩
  have S2 := Lib.hid (hs.alloc (wayO (.slice (some ⟨g1, 0, none⟩) nR c1) (.slice A2 nZ c2)))
  have HOK := Lib.hid hok
  have hg3 : w1.heap.size ≠ g := by omega
  clear hs hor hoz hok RS
  go_wp2_with fail
  obtain ⟨w2, hw2⟩ : ∃ x, w1.alloc (wayO (.slice (some ⟨g1, 0, none⟩) nR c1) (.slice A2 nZ c2)) = x := ⟨_, rfl⟩
  obtain ⟨b3, hb3⟩ : ∃ x, w1.heap.size = x := ⟨_, rfl⟩
  rw [hw2, hb3] at P2
  rw [hw2] at S2
  try rw [hw2]
  try simp only [hb3]
  rw [hb3] at hg3
  clear hw2 hb3 hsz hs0 hBB
  obtain ⟨D9, hD9⟩ : ∃ d : Int, d = 200 := ⟨_, rfl⟩
  rw [← hD9] at S2
  have hg2 := S2.out.lt
  have P6 := P2
  have S6 := S2
  clear P2 S2
  refine region_inv (by kernel_rfl) (by kernel_rfl) (fun Fl9 ac W => ∃ (x11 x12 x13 x14 x3 : Value), ac = { tmps := #[Value.slice A n c, undef, Value.pointer (some ⟨b0, 0, none⟩), x3, Value.pointer (some ⟨g, 0, none⟩), Value.pointer (some ⟨b3, 0, none⟩), Value.slice A n c, Value.agg #[Value.slice A n c, Value.int IntKind.i64 0, Value.int IntKind.u64 0], Value.pointer (some ⟨g, 0, none⟩), Value.pointer (some ⟨g, 0, none⟩), Value.agg #[Value.slice (some ⟨g1, 0, none⟩) nR c1, Value.slice A2 nZ c2], x11, x12, x13, x14], defers := [] } ∧ UpW w2.heap.size w2 W ∧
        (Fl9 0 = true → x11 = .agg #[.slice (some ⟨g1, 0, none⟩) nR c1, .slice A2 nZ c2]) ∧
        (Fl9 1 = true → x12 = .pointer (some ⟨g, 0, none⟩)) ∧
        (Fl9 2 = true → x13 = .agg #[.slice (some ⟨g1, 0, none⟩) nR c1, .slice A2 nZ c2]) ∧
        (Fl9 3 = true → ∃ z9 : Int, x14 = .int .i64 z9 ∧ (-1 ≤ z9 ∧ z9 ≤ 1000)) ∧
        (Fl9 4 = true → DnS w W b0 g1 nR c1 A2 nZ c2 R Z) ∧
        (Fl9 5 = true → ∃ z9 : Int, x3 = .int .i64 z9 ∧ (-1 ≤ z9 ∧ z9 ≤ 1000)) ∧
        (Fl9 4 = false → DrS BB W b0 b3 (.slice (some ⟨g1, 0, none⟩) nR c1) (.slice A2 nZ c2) nR nZ R Z) ∧
        (Fl9 4 = false → CurStep W0 W g A n c 0 (D9 + 10 * (((Fl9 3).toNat : Int)))) ∧
        (Fl9 4 = true → Fl9 0 = true) ∧
        (Fl9 4 = true → Fl9 2 = true) ∧
        (Fl9 4 = true → Fl9 3 = true) ∧
        (Fl9 3 = true → Fl9 2 = true)) ?_ ?_ ?_
  · exact ⟨_, _, _, _, _, rfl, UpW.of ((Drawn.one w2 1).below _), (fun q0 => nomatch q0), (fun q0 => nomatch q0), (fun q0 => nomatch q0), (fun q0 => nomatch q0), (fun q0 => nomatch q0), (fun q0 => nomatch q0), (fun _ => P6.out.below ((Drawn.one w2 1).below _)), (fun _ => (S6.out.on ((Drawn.one w2 1).below _)).mono (by simp)), (fun q0 => nomatch q0), (fun q0 => nomatch q0), (fun q0 => nomatch q0), (fun q0 => nomatch q0)⟩
  · intro Fl9 ac W i9 o9 hJ ho hL hdep K9 hK
    obtain ⟨x11, x12, x13, x14, x3, rfl, hB, hh0, hh1, hh2, hh3, hh4, hh5, hx0, hx1, hx2, hx3, hx4, hx5⟩ := hJ
    have hi9 : i9 < 6 := by simpa using (Array.getElem?_eq_some_iff.1 ho).1
    obtain rfl | rfl | rfl | rfl | rfl | rfl : i9 = 0 ∨ i9 = 1 ∨ i9 = 2 ∨ i9 = 3 ∨ i9 = 4 ∨ i9 = 5 := by omega
    · -- operation 0
      cases ho
      have hT : Fl9 4 = false := Bool.eq_false_iff.2 (fun h => absurd (hx2 h) (by rw [hL]; simp))
      have C9 := (hx0 hT).cA
      have C8 := (hx0 hT).cB
      go_simp
      exact hK _ _ ⟨_, _, _, _, _, rfl, hB, fun _ => rfl, hh1, hh2, hh3, hh4, hh5, hx0, hx1, fun _ => rfl, hx3, hx4, hx5⟩
    · -- operation 1
      cases ho
      go_simp
      exact hK _ _ ⟨_, _, _, _, _, rfl, hB, hh0, fun _ => rfl, hh2, hh3, hh4, hh5, hx0, hx1, hx2, hx3, hx4, hx5⟩
    · -- operation 2
      cases ho
      have hT : Fl9 4 = false := Bool.eq_false_iff.2 (fun h => absurd (hx3 h) (by rw [hL]; simp))
      have C9 := (hx0 hT).cA
      have C8 := (hx0 hT).cB
      go_simp
      exact hK _ _ ⟨_, _, _, _, _, rfl, hB, hh0, hh1, fun _ => rfl, hh3, hh4, hh5, hx0, hx1, hx2, fun _ => rfl, hx4, fun _ => rfl⟩
    · -- operation 3
      cases ho
      have hT : Fl9 4 = false := Bool.eq_false_iff.2 (fun h => absurd (hx4 h) (by rw [hL]; simp))
      have hbn3 := bN (Fl9 3)
      obtain rfl := hh1 (hdep ⟨1, .data⟩ (by simp) rfl)
      obtain rfl := hh2 (hdep ⟨2, .data⟩ (by simp) rfl)
      obtain ⟨q9, q90, q91, H9⟩ := (hx1 hT).at H.out
      go_simp
      refine (reachOf_at H9 (by omega) (some ⟨g1, 0, none⟩) A2 nR c1 nZ c2 (by omega)).mono ?_
      rintro e w9 ⟨z9, hz9, rfl, hs9⟩
      exact hK _ _ ⟨_, _, _, _, _, rfl, hB.trans ((UpW.grown hs9.grown).mono hB.size), hh0, hh1, hh2, fun _ => ⟨_, rfl, hz9⟩, (fun q0 => absurd (hx4 q0) (by rw [hL]; simp)), hh5, fun q0 => (hx0 q0).kept hs9.grown hgB hg0 hg3, fun q0 => ((hx1 q0).then hs9 q90 q91).mono (by simp [hL] <;> omega), hx2, hx3, fun _ => rfl, fun _ => hdep ⟨2, .data⟩ (by simp) rfl⟩
    · -- operation 4
      cases ho
      have hp3 := hdep ⟨3, .chain⟩ (by simp) rfl
      have hp0 := hdep ⟨0, .data⟩ (by simp) rfl
      obtain rfl := hh0 hp0
      have hp2 := hx5 hp3
      obtain ⟨re0, re1, rf0, rf1⟩ := (hx0 hL).rs
      go_simp
      exact hK _ _ ⟨_, _, _, _, _, rfl, (hB.set _ _).set _ _, (fun _ => rfl), hh1, (fun _ => rfl), hh3, fun _ => (hx0 hL).done (hbs.out _ (hx1 hL).grown) hgw hRl hZl, hh5, (fun q0 => nomatch q0), (fun q0 => nomatch q0), fun _ => hp0, fun _ => hp2, fun _ => hp3, hx5⟩
    · -- operation 5
      cases ho
      have hd3 := hdep ⟨3, .data⟩ (by simp) rfl
      obtain ⟨z14, rfl, hz14⟩ := hh3 hd3
      go_simp
      exact hK _ _ ⟨_, _, _, _, _, rfl, hB, hh0, hh1, (fun _ => rfl), hh3, hh4, fun _ => ⟨_, rfl, hz14⟩, hx0, hx1, hx2, hx3, hx4, hx5⟩
  intro Fl9 ac W hJ hall
  obtain ⟨x11, x12, x13, x14, x3, rfl, hB, hh0, hh1, hh2, hh3, hh4, hh5, -, -, -, -, -, -⟩ := hJ
  obtain rfl := hh0 (hall 0 (by decide))
  obtain rfl := hh1 (hall 1 (by decide))
  obtain rfl := hh2 (hall 2 (by decide))
  obtain - := hh3 (hall 3 (by decide))
  obtain P7 := hh4 (hall 4 (by decide))
  obtain ⟨z3, rfl, hz3⟩ := hh5 (hall 5 (by decide))
  clear hall
  have P7 := Lib.hid P7
  clear hB P6 S6
  go_wp2_with fail
  refine bodyPost_ret (results_wy1 rfl _ _ b0 [.slice (some ⟨g1, 0, none⟩) nR c1, .slice A2 nZ c2] _ rfl P7.out.range Try.underlying27 rfl (by kernel_rfl)) rfl ?_
  exact ⟨g1, nR, c1, A2, nZ, c2, R, Z, z3, P7.out.wayD hn0 hn7 hk1 hk2, (by omega), rfl⟩
set_option maxRecDepth 100000 in
set_option maxHeartbeats 4000000 in
theorem drawMin_any {w : World} {A : Option Addr} {n : Nat} {zs : List Int} {B : Nat} (c : Nat) (h : Code_ w A n zs B) :
    Calls Try.prog 15 #[.slice A n c] w (DrwY3 w) := by
  have h1 := h.up (wayO (.slice none 0 0) (.slice none 0 0))
  have H := Lib.hid (h1.start c)
  obtain ⟨W0, hW0⟩ : ∃ x, (w.alloc (wayO (.slice none 0 0) (.slice none 0 0))).alloc (.cells #[.slice A n c, .int .i64 0, .int .u64 0] 75) = x := ⟨_, rfl⟩
  have hbs : Hid (∀ W, W0.grownBy W (some (w.heap.size + 1)) → Below w.heap.size w W) := Lib.hid (fun W h => (below1x w _).trans ((below_start (w := w.alloc (wayO (.slice none 0 0) (.slice none 0 0))) (by rw [hW0]; simpa using h)).mono (by simp)))
  have RS : Hid (W0.heap[w.heap.size]? = some (.cells #[.slice none 0 0, .slice none 0 0] 27 (0, 0))) := Lib.hid (by rw [← hW0]; exact (heap_alloc_old _ _ (by simp)).trans (heap_alloc_new w _))
  have hs0 : W0.heap.size = w.heap.size + 2 := by rw [← hW0]; simp
  rw [hW0] at H
  rw [World.size_alloc] at H
  clear h h1
  go_enter Try.func15, Try.ntmps15
  go_wp2_with fail
  obtain ⟨g, hg⟩ : ∃ x, w.heap.size + 1 = x := ⟨_, rfl⟩
  obtain ⟨b0, hb0⟩ : ∃ x, w.heap.size = x := ⟨_, rfl⟩
  try rw [hW0]
  rw [hg] at H hbs
  rw [hb0] at RS
  try simp only [hg]
  try simp only [hb0]
  clear hW0
  refine (anyWaterway_at H.out (by omega)).mono ?_
  rintro e w1 ⟨g1, A2, nR, c1, nZ, c2, R, Z, rfl, hn0, hn7, hz7, hRl, hZl, hok, hor, hoz, hs⟩
  have hk1 := own_capO hor
  have hk2 := own_capO hoz
  have hsz := hs.grown.size
  obtain ⟨BB, hBB⟩ : ∃ x, W0.heap.size = x := ⟨_, rfl⟩
  have hgB : g < BB := by omega
  have hg0 : b0 ≠ g := by omega
  have hgw : w.heap.size ≤ b0 := by omega
  have P2 : Hid (DrS BB (w1.alloc (wayO (.slice (some ⟨g1, 0, none⟩) nR c1) (.slice A2 nZ c2))) b0 w1.heap.size (.slice (some ⟨g1, 0, none⟩) nR c1) (.slice A2 nZ c2) nR nZ R Z) := Lib.hid
    ⟨(heap_alloc_old _ _ (by omega)).trans ((hs.grown.block _ (by omega) (fun e => hg0 (by injection e))).trans RS.out), heap_alloc_new w1 _, own_below (by rw [← hBB]; exact hor) (below1x _ _), own_below (by rw [← hBB]; exact hoz) (below1x _ _)⟩
  have S2 := Lib.hid (hs.alloc (wayO (.slice (some ⟨g1, 0, none⟩) nR c1) (.slice A2 nZ c2)))
  have HOK := Lib.hid hok
  have hg3 : w1.heap.size ≠ g := by omega
  clear hs hor hoz hok RS
  go_wp2_with fail
  obtain ⟨w2, hw2⟩ : ∃ x, w1.alloc (wayO (.slice (some ⟨g1, 0, none⟩) nR c1) (.slice A2 nZ c2)) = x := ⟨_, rfl⟩
  obtain ⟨b3, hb3⟩ : ∃ x, w1.heap.size = x := ⟨_, rfl⟩
  rw [hw2, hb3] at P2
  rw [hw2] at S2
  try rw [hw2]
  try simp only [hb3]
  rw [hb3] at hg3
  clear hw2 hb3 hsz hs0 hBB
  obtain ⟨D9, hD9⟩ : ∃ d : Int, d = 200 := ⟨_, rfl⟩
  rw [← hD9] at S2
  have hg2 := S2.out.lt
  have P6 := P2
  have S6 := S2
  clear P2 S2
  refine region_inv (by kernel_rfl) (by kernel_rfl) (fun Fl9 ac W => ∃ (x13 x14 x15 x16 x17 x18 x19 x20 x21 x22 x3 x4 x5 : Value), ac = { tmps := #[Value.slice A n c, undef, Value.pointer (some ⟨b0, 0, none⟩), x3, x4, x5, Value.pointer (some ⟨g, 0, none⟩), Value.pointer (some ⟨b3, 0, none⟩), Value.slice A n c, Value.agg #[Value.slice A n c, Value.int IntKind.i64 0, Value.int IntKind.u64 0], Value.pointer (some ⟨g, 0, none⟩), Value.pointer (some ⟨g, 0, none⟩), Value.agg #[Value.slice (some ⟨g1, 0, none⟩) nR c1, Value.slice A2 nZ c2], x13, x14, x15, x16, x17, x18, x19, x20, x21, x22], defers := [] } ∧ UpW w2.heap.size w2 W ∧
        (Fl9 0 = true → x13 = .agg #[.slice (some ⟨g1, 0, none⟩) nR c1, .slice A2 nZ c2]) ∧
        (Fl9 1 = true → x14 = .pointer (some ⟨g, 0, none⟩)) ∧
        (Fl9 2 = true → x15 = .agg #[.slice (some ⟨g1, 0, none⟩) nR c1, .slice A2 nZ c2]) ∧
        (Fl9 3 = true → ∃ z9 : Int, x16 = .int .i64 z9 ∧ (-1 ≤ z9 ∧ z9 ≤ 2000000)) ∧
        (Fl9 4 = true → x17 = .pointer (some ⟨g, 0, none⟩)) ∧
        (Fl9 5 = true → x18 = .agg #[.slice (some ⟨g1, 0, none⟩) nR c1, .slice A2 nZ c2]) ∧
        (Fl9 6 = true → ∃ z9 : Int, x19 = .int .i64 z9 ∧ (-1 ≤ z9 ∧ z9 ≤ 2000000)) ∧
        (Fl9 7 = true → x20 = .pointer (some ⟨g, 0, none⟩)) ∧
        (Fl9 8 = true → Fl9 10 = false → ∃ g9, x21 = .slice (some ⟨g9, 0, none⟩) 8 8 ∧ LstS W g g9 (([1, 6, 7, 10, 20, 0, 21, 13] : List Int).map (.int .i64))) ∧
        (Fl9 9 = true → ∃ z9 : Int, x22 = .int .i64 z9 ∧ (-1 ≤ z9 ∧ z9 ≤ 2000000)) ∧
        (Fl9 10 = true → DnS w W b0 g1 nR c1 A2 nZ c2 R Z) ∧
        (Fl9 11 = true → ∃ z9 : Int, x3 = .int .i64 z9 ∧ (-1 ≤ z9 ∧ z9 ≤ 2000000)) ∧
        (Fl9 12 = true → ∃ z9 : Int, x4 = .int .i64 z9 ∧ (-1 ≤ z9 ∧ z9 ≤ 2000000)) ∧
        (Fl9 13 = true → ∃ z9 : Int, x5 = .int .i64 z9 ∧ (-1 ≤ z9 ∧ z9 ≤ 2000000)) ∧
        (Fl9 10 = false → DrS BB W b0 b3 (.slice (some ⟨g1, 0, none⟩) nR c1) (.slice A2 nZ c2) nR nZ R Z) ∧
        (Fl9 10 = false → CurStep W0 W g A n c 0 (D9 + 10 * (((Fl9 3).toNat : Int) + ((Fl9 6).toNat : Int) + ((Fl9 9).toNat : Int)))) ∧
        (Fl9 10 = true → Fl9 0 = true) ∧
        (Fl9 10 = true → Fl9 2 = true) ∧
        (Fl9 10 = true → Fl9 5 = true) ∧
        (Fl9 10 = true → Fl9 3 = true) ∧
        (Fl9 10 = true → Fl9 6 = true) ∧
        (Fl9 10 = true → Fl9 9 = true) ∧
        (Fl9 9 = true → Fl9 6 = true) ∧
        (Fl9 6 = true → Fl9 3 = true) ∧
        (Fl9 3 = true → Fl9 2 = true) ∧
        (Fl9 6 = true → Fl9 5 = true)) ?_ ?_ ?_
  · exact ⟨_, _, _, _, _, _, _, _, _, _, _, _, _, rfl, UpW.of ((Drawn.one w2 1).below _), (fun q0 => nomatch q0), (fun q0 => nomatch q0), (fun q0 => nomatch q0), (fun q0 => nomatch q0), (fun q0 => nomatch q0), (fun q0 => nomatch q0), (fun q0 => nomatch q0), (fun q0 => nomatch q0), (fun q0 => nomatch q0), (fun q0 => nomatch q0), (fun q0 => nomatch q0), (fun q0 => nomatch q0), (fun q0 => nomatch q0), (fun q0 => nomatch q0), (fun _ => P6.out.below ((Drawn.one w2 1).below _)), (fun _ => (S6.out.on ((Drawn.one w2 1).below _)).mono (by simp)), (fun q0 => nomatch q0), (fun q0 => nomatch q0), (fun q0 => nomatch q0), (fun q0 => nomatch q0), (fun q0 => nomatch q0), (fun q0 => nomatch q0), (fun q0 => nomatch q0), (fun q0 => nomatch q0), (fun q0 => nomatch q0), (fun q0 => nomatch q0)⟩
  · intro Fl9 ac W i9 o9 hJ ho hL hdep K9 hK
    obtain ⟨x13, x14, x15, x16, x17, x18, x19, x20, x21, x22, x3, x4, x5, rfl, hB, hh0, hh1, hh2, hh3, hh4, hh5, hh6, hh7, hh8, hh9, hh10, hh11, hh12, hh13, hx0, hx1, hx2, hx3, hx4, hx5, hx6, hx7, hx8, hx9, hx10, hx11⟩ := hJ
    have hi9 : i9 < 14 := by simpa using (Array.getElem?_eq_some_iff.1 ho).1
    obtain rfl | rfl | rfl | rfl | rfl | rfl | rfl | rfl | rfl | rfl | rfl | rfl | rfl | rfl : i9 = 0 ∨ i9 = 1 ∨ i9 = 2 ∨ i9 = 3 ∨ i9 = 4 ∨ i9 = 5 ∨ i9 = 6 ∨ i9 = 7 ∨ i9 = 8 ∨ i9 = 9 ∨ i9 = 10 ∨ i9 = 11 ∨ i9 = 12 ∨ i9 = 13 := by omega
    · -- operation 0
      cases ho
      have hT : Fl9 10 = false := Bool.eq_false_iff.2 (fun h => absurd (hx2 h) (by rw [hL]; simp))
      have C9 := (hx0 hT).cA
      have C8 := (hx0 hT).cB
      go_simp
      exact hK _ _ ⟨_, _, _, _, _, _, _, _, _, _, _, _, _, rfl, hB, fun _ => rfl, hh1, hh2, hh3, hh4, hh5, hh6, hh7, hh8, hh9, hh10, hh11, hh12, hh13, hx0, hx1, fun _ => rfl, hx3, hx4, hx5, hx6, hx7, hx8, hx9, hx10, hx11⟩
    · -- operation 1
      cases ho
      go_simp
      exact hK _ _ ⟨_, _, _, _, _, _, _, _, _, _, _, _, _, rfl, hB, hh0, fun _ => rfl, hh2, hh3, hh4, hh5, hh6, hh7, hh8, hh9, hh10, hh11, hh12, hh13, hx0, hx1, hx2, hx3, hx4, hx5, hx6, hx7, hx8, hx9, hx10, hx11⟩
    · -- operation 2
      cases ho
      have hT : Fl9 10 = false := Bool.eq_false_iff.2 (fun h => absurd (hx3 h) (by rw [hL]; simp))
      have C9 := (hx0 hT).cA
      have C8 := (hx0 hT).cB
      go_simp
      exact hK _ _ ⟨_, _, _, _, _, _, _, _, _, _, _, _, _, rfl, hB, hh0, hh1, fun _ => rfl, hh3, hh4, hh5, hh6, hh7, hh8, hh9, hh10, hh11, hh12, hh13, hx0, hx1, hx2, fun _ => rfl, hx4, hx5, hx6, hx7, hx8, hx9, fun _ => rfl, hx11⟩
    · -- operation 3
      cases ho
      have hT : Fl9 10 = false := Bool.eq_false_iff.2 (fun h => absurd (hx5 h) (by rw [hL]; simp))
      have hbn3 := bN (Fl9 3)
      have hbn6 := bN (Fl9 6)
      have hbn9 := bN (Fl9 9)
      obtain rfl := hh1 (hdep ⟨1, .data⟩ (by simp) rfl)
      obtain rfl := hh2 (hdep ⟨2, .data⟩ (by simp) rfl)
      obtain ⟨q9, q90, q91, H9⟩ := (hx1 hT).at H.out
      go_simp
      refine (placeOf_at H9 (by omega) (some ⟨g1, 0, none⟩) A2 nR c1 nZ c2 W.heap.size (by omega) R hRl HOK.out (Nat.le_refl _) (own_hasv (hx0 hT).r)).mono ?_
      rintro e w9 ⟨z9, hz9, rfl, hs9⟩
      exact hK _ _ ⟨_, _, _, _, _, _, _, _, _, _, _, _, _, rfl, hB.trans ((UpW.grown hs9.grown).mono hB.size), hh0, hh1, hh2, fun _ => ⟨_, rfl, hz9⟩, hh4, hh5, hh6, hh7, (fun q0 r0 => (fun ⟨g9, e, h⟩ => ⟨g9, e, h.kept hs9.grown⟩) (hh8 q0 r0)), hh9, (fun q0 => absurd (hx5 q0) (by rw [hL]; simp)), hh11, hh12, hh13, fun q0 => (hx0 q0).kept hs9.grown hgB hg0 hg3, fun q0 => ((hx1 q0).then hs9 q90 q91).mono (by simp [hL] <;> omega), hx2, hx3, hx4, fun _ => rfl, hx6, hx7, hx8, fun _ => rfl, fun _ => hdep ⟨2, .data⟩ (by simp) rfl, hx11⟩
    · -- operation 4
      cases ho
      go_simp
      exact hK _ _ ⟨_, _, _, _, _, _, _, _, _, _, _, _, _, rfl, hB, hh0, hh1, hh2, hh3, fun _ => rfl, hh5, hh6, hh7, hh8, hh9, hh10, hh11, hh12, hh13, hx0, hx1, hx2, hx3, hx4, hx5, hx6, hx7, hx8, hx9, hx10, hx11⟩
    · -- operation 5
      cases ho
      have hT : Fl9 10 = false := Bool.eq_false_iff.2 (fun h => absurd (hx4 h) (by rw [hL]; simp))
      have C9 := (hx0 hT).cA
      have C8 := (hx0 hT).cB
      go_simp
      exact hK _ _ ⟨_, _, _, _, _, _, _, _, _, _, _, _, _, rfl, hB, hh0, hh1, hh2, hh3, hh4, fun _ => rfl, hh6, hh7, hh8, hh9, hh10, hh11, hh12, hh13, hx0, hx1, hx2, hx3, fun _ => rfl, hx5, hx6, hx7, hx8, hx9, hx10, fun _ => rfl⟩
    · -- operation 6
      cases ho
      have hT : Fl9 10 = false := Bool.eq_false_iff.2 (fun h => absurd (hx6 h) (by rw [hL]; simp))
      have hbn3 := bN (Fl9 3)
      have hbn6 := bN (Fl9 6)
      have hbn9 := bN (Fl9 9)
      obtain rfl := hh4 (hdep ⟨4, .data⟩ (by simp) rfl)
      obtain rfl := hh5 (hdep ⟨5, .data⟩ (by simp) rfl)
      obtain ⟨q9, q90, q91, H9⟩ := (hx1 hT).at H.out
      go_simp
      refine (placeOf_at H9 (by omega) (some ⟨g1, 0, none⟩) A2 nR c1 nZ c2 W.heap.size (by omega) R hRl HOK.out (Nat.le_refl _) (own_hasv (hx0 hT).r)).mono ?_
      rintro e w9 ⟨z9, hz9, rfl, hs9⟩
      exact hK _ _ ⟨_, _, _, _, _, _, _, _, _, _, _, _, _, rfl, hB.trans ((UpW.grown hs9.grown).mono hB.size), hh0, hh1, hh2, hh3, hh4, hh5, fun _ => ⟨_, rfl, hz9⟩, hh7, (fun q0 r0 => (fun ⟨g9, e, h⟩ => ⟨g9, e, h.kept hs9.grown⟩) (hh8 q0 r0)), hh9, (fun q0 => absurd (hx6 q0) (by rw [hL]; simp)), hh11, hh12, hh13, fun q0 => (hx0 q0).kept hs9.grown hgB hg0 hg3, fun q0 => ((hx1 q0).then hs9 q90 q91).mono (by simp [hL] <;> omega), hx2, hx3, hx4, hx5, fun _ => rfl, hx7, fun _ => rfl, fun _ => hdep ⟨3, .chain⟩ (by simp) rfl, hx10, fun _ => hdep ⟨5, .data⟩ (by simp) rfl⟩
    · -- operation 7
      cases ho
      go_simp
      exact hK _ _ ⟨_, _, _, _, _, _, _, _, _, _, _, _, _, rfl, hB, hh0, hh1, hh2, hh3, hh4, hh5, hh6, fun _ => rfl, hh8, hh9, hh10, hh11, hh12, hh13, hx0, hx1, hx2, hx3, hx4, hx5, hx6, hx7, hx8, hx9, hx10, hx11⟩
    · -- operation 8
      cases ho
      have hb9 := below1x W (.cells (([1, 6, 7, 10, 20, 0, 21, 13] : List Int).map (.int .i64)).toArray 3)
      go_simp
      exact hK _ _ ⟨_, _, _, _, _, _, _, _, _, _, _, _, _, rfl, hB.trans ((UpW.of hb9).mono hB.size), hh0, hh1, hh2, hh3, hh4, hh5, hh6, hh7, fun _ => fun _ => ⟨_, rfl, LstS.new W _ _ (Nat.lt_of_lt_of_le hg2 hB.size)⟩, hh9, fun q0 => (fun h => h.below hb9) (hh10 q0), hh11, hh12, hh13, fun q0 => (fun h => h.below hb9) (hx0 q0), fun q0 => (fun h => h.on hb9) (hx1 q0), hx2, hx3, hx4, hx5, hx6, hx7, hx8, hx9, hx10, hx11⟩
    · -- operation 9
      cases ho
      have hT : Fl9 10 = false := Bool.eq_false_iff.2 (fun h => absurd (hx7 h) (by rw [hL]; simp))
      have hbn3 := bN (Fl9 3)
      have hbn6 := bN (Fl9 6)
      have hbn9 := bN (Fl9 9)
      obtain ⟨g9, rfl, hl9⟩ := hh8 (hdep ⟨8, .data⟩ (by simp) rfl) hT
      obtain rfl := hh7 (hdep ⟨7, .data⟩ (by simp) rfl)
      obtain ⟨q9, q90, q91, H9⟩ := (hx1 hT).at H.out
      go_simp
      refine (amongN_at H9 (by omega) g9 8 8 [1, 6, 7, 10, 20, 0, 21, 13] rfl (by omega) (by omega) hl9.nums hl9.ne).mono ?_
      rintro e w9 ⟨z9, hz9, rfl, hs9⟩
      exact hK _ _ ⟨_, _, _, _, _, _, _, _, _, _, _, _, _, rfl, hB.trans ((UpW.grown hs9.grown).mono hB.size), hh0, hh1, hh2, hh3, hh4, hh5, hh6, hh7, (fun q0 r0 => (fun ⟨g9, e, h⟩ => ⟨g9, e, h.kept hs9.grown⟩) (hh8 q0 r0)), fun _ => ⟨_, rfl, memA hz9⟩, (fun q0 => absurd (hx7 q0) (by rw [hL]; simp)), hh11, hh12, hh13, fun q0 => (hx0 q0).kept hs9.grown hgB hg0 hg3, fun q0 => ((hx1 q0).then hs9 q90 q91).mono (by simp [hL] <;> omega), hx2, hx3, hx4, hx5, hx6, fun _ => rfl, fun _ => hdep ⟨6, .chain⟩ (by simp) rfl, hx9, hx10, hx11⟩
    · -- operation 10
      cases ho
      have hp9 := hdep ⟨9, .chain⟩ (by simp) rfl
      have hp6 := hx8 hp9
      have hp3 := hx9 hp6
      have hp0 := hdep ⟨0, .data⟩ (by simp) rfl
      obtain rfl := hh0 hp0
      have hp2 := hx10 hp3
      have hp5 := hx11 hp6
      obtain ⟨re0, re1, rf0, rf1⟩ := (hx0 hL).rs
      go_simp
      exact hK _ _ ⟨_, _, _, _, _, _, _, _, _, _, _, _, _, rfl, (hB.set _ _).set _ _, (fun _ => rfl), hh1, (fun _ => rfl), hh3, hh4, (fun _ => rfl), hh6, hh7, (fun _ q0 => nomatch q0), hh9, fun _ => (hx0 hL).done (hbs.out _ (hx1 hL).grown) hgw hRl hZl, hh11, hh12, hh13, (fun q0 => nomatch q0), (fun q0 => nomatch q0), fun _ => hp0, fun _ => hp2, fun _ => hp5, fun _ => hp3, fun _ => hp6, fun _ => hp9, hx8, hx9, hx10, hx11⟩
    · -- operation 11
      cases ho
      have hd3 := hdep ⟨3, .data⟩ (by simp) rfl
      obtain ⟨z16, rfl, hz16⟩ := hh3 hd3
      go_simp
      exact hK _ _ ⟨_, _, _, _, _, _, _, _, _, _, _, _, _, rfl, hB, hh0, hh1, (fun _ => rfl), hh3, hh4, hh5, hh6, hh7, hh8, hh9, hh10, fun _ => ⟨_, rfl, hz16⟩, hh12, hh13, hx0, hx1, hx2, hx3, hx4, hx5, hx6, hx7, hx8, hx9, hx10, hx11⟩
    · -- operation 12
      cases ho
      have hd6 := hdep ⟨6, .data⟩ (by simp) rfl
      obtain ⟨z19, rfl, hz19⟩ := hh6 hd6
      go_simp
      exact hK _ _ ⟨_, _, _, _, _, _, _, _, _, _, _, _, _, rfl, hB, hh0, hh1, hh2, hh3, hh4, (fun _ => rfl), hh6, hh7, hh8, hh9, hh10, hh11, fun _ => ⟨_, rfl, hz19⟩, hh13, hx0, hx1, hx2, hx3, hx4, hx5, hx6, hx7, hx8, hx9, hx10, hx11⟩
    · -- operation 13
      cases ho
      have hd9 := hdep ⟨9, .data⟩ (by simp) rfl
      obtain ⟨z22, rfl, hz22⟩ := hh9 hd9
      go_simp
      exact hK _ _ ⟨_, _, _, _, _, _, _, _, _, _, _, _, _, rfl, hB, hh0, hh1, hh2, hh3, hh4, hh5, hh6, hh7, hh8, hh9, hh10, hh11, hh12, fun _ => ⟨_, rfl, hz22⟩, hx0, hx1, hx2, hx3, hx4, hx5, hx6, hx7, hx8, hx9, hx10, hx11⟩
  intro Fl9 ac W hJ hall
  obtain ⟨x13, x14, x15, x16, x17, x18, x19, x20, x21, x22, x3, x4, x5, rfl, hB, hh0, hh1, hh2, hh3, hh4, hh5, hh6, hh7, hh8, hh9, hh10, hh11, hh12, hh13, -, -, -, -, -, -, -, -, -, -, -, -⟩ := hJ
  obtain rfl := hh0 (hall 0 (by decide))
  obtain rfl := hh1 (hall 1 (by decide))
  obtain rfl := hh2 (hall 2 (by decide))
  obtain rfl := hh4 (hall 4 (by decide))
  obtain rfl := hh5 (hall 5 (by decide))
  obtain rfl := hh7 (hall 7 (by decide))
  obtain - := hh3 (hall 3 (by decide))
  obtain - := hh6 (hall 6 (by decide))
  obtain - := hh8 (hall 8 (by decide))
  obtain - := hh9 (hall 9 (by decide))
  obtain P7 := hh10 (hall 10 (by decide))
  obtain ⟨z3, rfl, hz3⟩ := hh11 (hall 11 (by decide))
  obtain ⟨z4, rfl, hz4⟩ := hh12 (hall 12 (by decide))
  obtain ⟨z5, rfl, hz5⟩ := hh13 (hall 13 (by decide))
  clear hall
  have P7 := Lib.hid P7
  clear hB P6 S6
  go_wp2_with fail
  refine bodyPost_ret (results_wy3 rfl _ _ b0 [.slice (some ⟨g1, 0, none⟩) nR c1, .slice A2 nZ c2] _ rfl P7.out.range Try.underlying27 rfl (by kernel_rfl)) rfl ?_
  exact ⟨g1, nR, c1, A2, nZ, c2, R, Z, z3, z4, z5, P7.out.wayD hn0 hn7 hk1 hk2, (by omega), (by omega), (by omega), rfl⟩
end Go.Proofs.Ytgnopkemcgbedab
