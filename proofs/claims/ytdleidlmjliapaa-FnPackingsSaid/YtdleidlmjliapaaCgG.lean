/- Chapter 4: what FnPackings draws; what FnChamberings draws for ShiftSpots. -/
import Derived.Test.YtdleidlmjliapaaCgE
import Derived.Test.YtdleidlmjliapaaDraw
namespace Go.Proofs.Ytdleidlmjliapaa
open Go.RowKit Go.PlainAid Go.Sort
set_option linter.unusedVariables false
set_option linter.unusedSimpArgs false

structure LstS (W : World) (g g9 : Nat) (xs : List Value) : Prop where
  ne : g9 ≠ g
  at' : ∀ j u, xs[j]? = some u → W.cell? ⟨g9, j, none⟩ = some u
theorem LstS.new (W : World) {g : Nat} (xs : List Value) (t : TypeId) (hg : g < W.heap.size) : LstS (W.alloc (.cells xs.toArray t)) g W.heap.size xs :=
  ⟨by omega, fun j u hu => by rw [sNew, List.getElem?_toArray]; exact hu⟩
theorem LstS.below {W W' : World} {g g9 : Nat} {xs : List Value} (h : LstS W g g9 xs) (hb : Below W.heap.size W W') : LstS W' g g9 xs :=
  ⟨h.ne, fun j u hu => (Below.cell hb (World.block_lt_of_cell? W _ (h.at' j u hu))).trans (h.at' j u hu)⟩
theorem LstS.kept {W W' : World} {g g9 : Nat} {xs : List Value} (h : LstS W g g9 xs) (hg : W.grownBy W' (some g)) : LstS W' g g9 xs :=
  ⟨h.ne, fun j u hu => (World.cell?_of_block (a := ⟨g9, j, none⟩) (hg.block g9 (World.block_lt_of_cell? W _ (h.at' j u hu)) (fun e => h.ne (by injection e)))).trans (h.at' j u hu)⟩
theorem LstS.nums {W : World} {g g9 : Nat} {ns : List Int} (h : LstS W g g9 (ns.map (.int .i64))) : ∀ k (hk : k < ns.length), W.cell? ⟨g9, k, none⟩ = some (.int .i64 ns[k]) := fun k hk =>
  h.at' k _ (by rw [List.getElem?_map, List.getElem?_eq_getElem hk]; rfl)
theorem memB {z : Int} (h : z ∈ [0, 1, 2, -1, 6, 7, -7]) : -7 ≤ z ∧ z ≤ 7 := by
  simp only [List.mem_cons, List.not_mem_nil, or_false] at h
  omega
theorem CurStep.lt {w W : World} {g : Nat} {A : Option Addr} {n c : Nat} {p d : Int} (h : CurStep w W g A n c p d) : g < W.heap.size := by
  obtain ⟨q, -, -, hq⟩ := h.cur
  exact hq.lt
theorem ne_hc : (40 : TypeId) ≠ 25 := by decide
theorem ne_sc : (42 : TypeId) ≠ 25 := by decide
theorem own_loG {w : World} {base : Nat} {e : TypeId} {g n c : Nat} {xs : List Value} {z : Nat} (h : w.ownsRow base e z (.slice (some ⟨g, 0, none⟩) n c) n xs) : base ≤ g := by
  rcases h.2 with ⟨h1, h2⟩ | ⟨g', cap, cur, h1, h3, -⟩
  · cases h1
  · injection h1 with h1 _ _
    injection h1 with h1
    injection h1 with h1 _ _
    omega
structure DrZ (B : Nat) (W : World) (b0 b3 : Nat) (l d : Int) (gH qH cH : Nat) (hs : List THull) : Prop where
  res : BoxM W b0 0 0
  box : BoxM W b3 l d
  h : W.ownsRow B 40 3 (.slice (some ⟨gH, 0, none⟩) qH cH) qH (flatHull hs)
structure DnZ (w W : World) (b0 : Nat) (l d : Int) (gH qH : Nat) (hs : List THull) (g2 q2 : Nat) (L : List TSpot) : Prop where
  res : BoxM W b0 l d
  h : IsHulls W W.heap.size (some ⟨gH, 0, none⟩) qH hs
  s : IsSpots W W.heap.size (some ⟨g2, 0, none⟩) q2 L
  bel : Below w.heap.size w W
  lo : w.heap.size ≤ g2
section
variable {B : Nat} {w W W' : World} {b0 b3 gH qH cH g2 q2 c2 : Nat} {l d : Int} {hs : List THull} {L : List TSpot}
theorem DrZ.below (h : DrZ B W b0 b3 l d gH qH cH hs) (hb : Below W.heap.size W W') : DrZ B W' b0 b3 l d gH qH cH hs := ⟨h.res.all hb, h.box.all hb, own_below h.h hb⟩
theorem DrZ.kept {g : Nat} (h : DrZ B W b0 b3 l d gH qH cH hs) (hg : W.grownBy W' (some g)) (hB : g < B) (h0 : b0 ≠ g) (h3 : b3 ≠ g) : DrZ B W' b0 b3 l d gH qH cH hs :=
  ⟨h.res.kept hg (fun e => h0 (by injection e)), h.box.kept hg (fun e => h3 (by injection e)), h.h.kept hg (.inr (own_past h.h hB))⟩
theorem DrZ.cA (h : DrZ B W b0 b3 l d gH qH cH hs) : W.cell? ⟨b3, 0, none⟩ = some (.int .i64 l) := h.box.c0
theorem DrZ.cB (h : DrZ B W b0 b3 l d gH qH cH hs) : W.cell? ⟨b3, 1, none⟩ = some (.int .i64 d) := h.box.c1
theorem DrZ.done (h : DrZ B W b0 b3 l d gH qH cH hs) (hb : Below w.heap.size w W) (hge : w.heap.size ≤ b0) (hwB : w.heap.size ≤ B) (hs2 : SpS B W g2 q2 c2 L) : DnZ w (setsM W b0 l d) b0 l d gH qH hs g2 q2 L := by
  have hg := grown_setsM W b0 l d
  have h1 := h.h.kept hg (.inr (own_off h.h h.res ne_hc))
  have h2 := hs2.r.kept hg (.inr (own_off hs2.r h.res ne_sc))
  exact ⟨h.res.sets l d, own_Hulls h1, own_Spots h2, (hb.setCell (p := ⟨b0, 0, none⟩) hge _).setCell (p := ⟨b0, 1, none⟩) hge _, Nat.le_trans hwB (own_loG hs2.r)⟩
theorem DnZ.below (h : DnZ w W b0 l d gH qH hs g2 q2 L) (hb : Below W.heap.size W W') : DnZ w W' b0 l d gH qH hs g2 q2 L :=
  ⟨h.res.all hb, (h.h.below hb (Nat.le_refl _)).all, (h.s.below hb (Nat.le_refl _)).all, h.bel.trans (hb.mono h.bel.size), h.lo⟩
end
theorem results_is2 {P : Program} {fn : Func} {p t q : Tmp} {ty : TypeId} (h : fn.results = #[.cell p ty, .tmp t, .tmp q]) (tmps : Array Value) (w : World) (g : Nat) (cs : List Value) (d : TypeDesc)
    (hp : tmps.getD p undef = .pointer (some ⟨g, 0, none⟩)) (hc : w.rangeAt g 0 cs) (hu : P.underlying ty = some d) (hd : d.isRow = true) (hi : (P.info? ty).map (·.size) = some cs.length) :
    (results fn tmps).run P w = .ok (.tuple #[.agg cs.toArray, tmps.getD t undef, tmps.getD q undef]) w := by
  have hp' : tmps[p]?.getD undef = .pointer (some ⟨g, 0, none⟩) := by simpa using hp
  simp [results, h, hp', asAddr, run_loadVar_mid w g 0 ty cs d hc hu hd hi]
theorem Code_.up {w : World} {A : Option Addr} {n : Nat} {zs : List Int} {B : Nat} (h : Code_ w A n zs B) (o : Obj) : Code_ (w.alloc o) A n zs B :=
  ⟨h.len, h.small, h.bytes, h.has.alloc h.size _, by have := h.size; simp; omega⟩
def DrwI (w : World) (e : Ending) (w' : World) : Prop := ∃ (l d : Int) (gH qH cH : Nat) (hs : List THull) (g2 q2 c2 : Nat) (L : List TSpot),
  e = .returned (.tuple #[.agg #[.int .i64 l, .int .i64 d], .slice (some ⟨gH, 0, none⟩) qH cH, .slice (some ⟨g2, 0, none⟩) q2 c2]) ∧ qH ≤ 8 ∧ qH ≤ cH ∧ q2 ≤ 40 ∧ q2 ≤ c2 ∧ w.heap.size ≤ gH ∧ w.heap.size ≤ g2 ∧
  IsHulls w' w'.heap.size (some ⟨gH, 0, none⟩) qH hs ∧ IsSpots w' w'.heap.size (some ⟨g2, 0, none⟩) q2 L ∧ Below w.heap.size w w'
set_option maxRecDepth 100000 in
set_option maxHeartbeats 4000000 in
theorem drawIsP_any {w : World} {A : Option Addr} {n : Nat} {zs : List Int} {B : Nat} (c : Nat) (h : Code_ w A n zs B) :
    Calls Try.prog 44 #[.slice A n c] w (DrwI w) := by
  have h1 := h.up (.cells #[.int .i64 0, .int .i64 0] 25)
  have H := Lib.hid (h1.start c)
  obtain ⟨W0, hW0⟩ : ∃ x, (w.alloc (.cells #[.int .i64 0, .int .i64 0] 25)).alloc (.cells #[.slice A n c, .int .i64 0, .int .u64 0] 65) = x := ⟨_, rfl⟩
  have hbs : Hid (∀ W, W0.grownBy W (some (w.heap.size + 1)) → Below w.heap.size w W) := Lib.hid (fun W h => (below1x w _).trans ((below_start (w := w.alloc (.cells #[.int .i64 0, .int .i64 0] 25)) (by rw [hW0]; simpa using h)).mono (by simp)))
  have RS : Hid (BoxM W0 w.heap.size 0 0) := Lib.hid (by rw [← hW0]; exact (BoxM.new w 0 0).all (below1x _ _))
  have hs0 : W0.heap.size = w.heap.size + 2 := by rw [← hW0]; simp
  rw [hW0] at H
  rw [World.size_alloc] at H
  clear h h1
  go_enter Try.func44, Try.ntmps44
  go_wp2_with fail
  obtain ⟨g, hg⟩ : ∃ x, w.heap.size + 1 = x := ⟨_, rfl⟩
  obtain ⟨b0, hb0⟩ : ∃ x, w.heap.size = x := ⟨_, rfl⟩
  try rw [hW0]
  rw [hg] at H hbs
  rw [hb0] at RS
  try simp only [hg]
  try simp only [hb0]
  clear hW0
  refine (chamber_at H.out (by omega)).mono ?_
  rintro e w1 ⟨l, d, rfl, hs⟩
  obtain ⟨r5, r50, r51, H5⟩ := hs.at H.out
  have HS1 := Lib.hid hs
  clear hs
  go_wp2_with fail
  refine (hulls_at H5 (by omega)).mono ?_
  rintro e w3 ⟨gH, qH, cH, rfl, hq8, ⟨hs, hg1, hov⟩, hst⟩
  have hcapH := own_capH hov
  have hs2 := HS1.out.then hst r50 r51
  have hsz1 := HS1.out.grown.size
  have hsz := hs2.grown.size
  obtain ⟨BB, hBB⟩ : ∃ x, W0.heap.size = x := ⟨_, rfl⟩
  have hgB : g < BB := by omega
  have hg0 : b0 ≠ g := by omega
  have hgw : w.heap.size ≤ b0 := by omega
  have hwB : w.heap.size ≤ BB := by omega
  have hgH : w.heap.size ≤ gH := Nat.le_trans hwB (by omega)
  have P2 : Hid (DrZ BB (w3.alloc (.cells #[.int .i64 l, .int .i64 d] 25)) b0 w3.heap.size l d gH qH cH hs) := Lib.hid
    ⟨(RS.out.kept hs2.grown (fun e => hg0 (by injection e))).all (below1x _ _), BoxM.new w3 l d, own_below (own_low hov (by omega)) (below1x _ _)⟩
  have S2 := Lib.hid (hs2.alloc (.cells #[.int .i64 l, .int .i64 d] 25))
  have hg3 : w3.heap.size ≠ g := by omega
  clear hs2 hst hov RS HS1 H5 r50 r51
  go_wp2_with fail
  obtain ⟨w2, hw2⟩ : ∃ x, w3.alloc (.cells #[.int .i64 l, .int .i64 d] 25) = x := ⟨_, rfl⟩
  obtain ⟨b3, hb3⟩ : ∃ x, w3.heap.size = x := ⟨_, rfl⟩
  have hBw : BB ≤ w2.heap.size := by rw [← hw2]; simp; omega
  rw [hw2, hb3] at P2
  rw [hw2] at S2
  try rw [hw2]
  try simp only [hb3]
  rw [hb3] at hg3
  clear hw2 hb3 hsz hs0 hBB hsz1 hg1
  obtain ⟨D9, hD9⟩ : ∃ d : Int, d = 300 := ⟨_, rfl⟩
  have S6 : Hid (CurStep W0 w2 g A n c 0 D9) := Lib.hid (S2.out.mono (by omega))
  have P6 := P2
  have hg2 := S6.out.lt
  clear P2 S2
  refine region_inv (by kernel_rfl) (by kernel_rfl) (fun Fl9 ac W => ∃ (x15 x16 x17 x18 x19 x20 x3 x4 : Value), ac = { tmps := #[Value.slice A n c, undef, Value.pointer (some ⟨b0, 0, none⟩), x3, x4, Value.pointer (some ⟨g, 0, none⟩), Value.pointer (some ⟨b3, 0, none⟩), Value.slice (some ⟨gH, 0, none⟩) qH cH, Value.slice A n c, Value.agg #[Value.slice A n c, Value.int IntKind.i64 0, Value.int IntKind.u64 0], Value.pointer (some ⟨g, 0, none⟩), Value.pointer (some ⟨g, 0, none⟩), Value.agg #[Value.int IntKind.i64 l, Value.int IntKind.i64 d], Value.pointer (some ⟨g, 0, none⟩), Value.slice (some ⟨gH, 0, none⟩) qH cH, x15, x16, x17, x18, x19, x20], defers := [] } ∧ UpW w2.heap.size w2 W ∧
        (Fl9 0 = true → x15 = .agg #[.int .i64 l, .int .i64 d]) ∧
        (Fl9 1 = true → x16 = .slice (some ⟨gH, 0, none⟩) qH cH) ∧
        (Fl9 2 = true → x17 = .pointer (some ⟨g, 0, none⟩)) ∧
        (Fl9 3 = true → x18 = .agg #[.int .i64 l, .int .i64 d]) ∧
        (Fl9 4 = true → x19 = .slice (some ⟨gH, 0, none⟩) qH cH) ∧
        (Fl9 5 = true → ∃ (g2 q2 c2 : Nat) (L : List TSpot), x20 = .slice (some ⟨g2, 0, none⟩) q2 c2 ∧ q2 ≤ 40 ∧ (Fl9 6 = false → SpS BB W g2 q2 c2 L)) ∧
        (Fl9 6 = true → ∃ (g2 q2 c2 : Nat) (L : List TSpot), x20 = .slice (some ⟨g2, 0, none⟩) q2 c2 ∧ q2 ≤ 40 ∧ q2 ≤ c2 ∧ DnZ w W b0 l d gH qH hs g2 q2 L) ∧
        (Fl9 7 = true → x3 = .slice (some ⟨gH, 0, none⟩) qH cH) ∧
        (Fl9 8 = true → x4 = x20) ∧
        (Fl9 6 = false → DrZ BB W b0 b3 l d gH qH cH hs) ∧
        (Fl9 6 = false → CurStep W0 W g A n c 0 (D9 + 200 * (((Fl9 5).toNat : Int)))) ∧
        (Fl9 6 = true → Fl9 0 = true) ∧
        (Fl9 6 = true → Fl9 5 = true) ∧
        (Fl9 5 = true → Fl9 3 = true) ∧
        (Fl9 6 = true → Fl9 3 = true) ∧
        (Fl9 8 = true → Fl9 5 = true)) ?_ ?_ ?_
  · exact ⟨_, _, _, _, _, _, _, _, rfl, UpW.of ((Drawn.one w2 1).below _), (fun q0 => nomatch q0), (fun q0 => nomatch q0), (fun q0 => nomatch q0), (fun q0 => nomatch q0), (fun q0 => nomatch q0), (fun q0 => nomatch q0), (fun q0 => nomatch q0), (fun q0 => nomatch q0), (fun q0 => nomatch q0), (fun _ => P6.out.below ((Drawn.one w2 1).below _)), (fun _ => (S6.out.on ((Drawn.one w2 1).below _)).mono (by simp)), (fun q0 => nomatch q0), (fun q0 => nomatch q0), (fun q0 => nomatch q0), (fun q0 => nomatch q0), (fun q0 => nomatch q0)⟩
  · intro Fl9 ac W i9 o9 hJ ho hL hdep K9 hK
    obtain ⟨x15, x16, x17, x18, x19, x20, x3, x4, rfl, hB, hh0, hh1, hh2, hh3, hh4, hh5, hh6, hh7, hh8, hx0, hx1, hx2, hx3, hx4, hx5, hx6⟩ := hJ
    have hi9 : i9 < 9 := by simpa using (Array.getElem?_eq_some_iff.1 ho).1
    obtain rfl | rfl | rfl | rfl | rfl | rfl | rfl | rfl | rfl : i9 = 0 ∨ i9 = 1 ∨ i9 = 2 ∨ i9 = 3 ∨ i9 = 4 ∨ i9 = 5 ∨ i9 = 6 ∨ i9 = 7 ∨ i9 = 8 := by omega
    · -- operation 0
      cases ho
      have hT : Fl9 6 = false := Bool.eq_false_iff.2 (fun h => absurd (hx2 h) (by rw [hL]; simp))
      have C9 := (hx0 hT).cA
      have C8 := (hx0 hT).cB
      go_simp
      exact hK _ _ ⟨_, _, _, _, _, _, _, _, rfl, hB, fun _ => rfl, hh1, hh2, hh3, hh4, hh5, hh6, hh7, hh8, hx0, hx1, fun _ => rfl, hx3, hx4, hx5, hx6⟩
    · -- operation 1
      cases ho
      go_simp
      exact hK _ _ ⟨_, _, _, _, _, _, _, _, rfl, hB, hh0, fun _ => rfl, hh2, hh3, hh4, hh5, hh6, hh7, hh8, hx0, hx1, hx2, hx3, hx4, hx5, hx6⟩
    · -- operation 2
      cases ho
      go_simp
      exact hK _ _ ⟨_, _, _, _, _, _, _, _, rfl, hB, hh0, hh1, fun _ => rfl, hh3, hh4, hh5, hh6, hh7, hh8, hx0, hx1, hx2, hx3, hx4, hx5, hx6⟩
    · -- operation 3
      cases ho
      have hT : Fl9 6 = false := Bool.eq_false_iff.2 (fun h => absurd (hx5 h) (by rw [hL]; simp))
      have C9 := (hx0 hT).cA
      have C8 := (hx0 hT).cB
      go_simp
      exact hK _ _ ⟨_, _, _, _, _, _, _, _, rfl, hB, hh0, hh1, hh2, fun _ => rfl, hh4, hh5, hh6, hh7, hh8, hx0, hx1, hx2, hx3, fun _ => rfl, fun _ => rfl, hx6⟩
    · -- operation 4
      cases ho
      go_simp
      exact hK _ _ ⟨_, _, _, _, _, _, _, _, rfl, hB, hh0, hh1, hh2, hh3, fun _ => rfl, hh5, hh6, hh7, hh8, hx0, hx1, hx2, hx3, hx4, hx5, hx6⟩
    · -- operation 5
      cases ho
      have hT : Fl9 6 = false := Bool.eq_false_iff.2 (fun h => absurd (hx3 h) (by rw [hL]; simp))
      have hbn5 := bN (Fl9 5)
      obtain rfl := hh2 (hdep ⟨2, .data⟩ (by simp) rfl)
      obtain rfl := hh3 (hdep ⟨3, .data⟩ (by simp) rfl)
      obtain rfl := hh4 (hdep ⟨4, .data⟩ (by simp) rfl)
      obtain ⟨q9, q90, q91, H9⟩ := (hx1 hT).at H.out
      go_simp
      refine (spots_at H9 (by omega) l d cH (own_Hulls (hx0 hT).h) hq8).mono ?_
      rintro e w9 ⟨g2, q2, c2, L, rfl, hq2, hsp, hs9⟩
      exact hK _ _ ⟨_, _, _, _, _, _, _, _, rfl, hB.trans ((UpW.grown hs9.grown).mono hB.size), hh0, hh1, hh2, hh3, hh4, fun _ => ⟨g2, q2, c2, L, rfl, hq2, fun _ => ⟨own_low hsp.r (Nat.le_trans hBw hB.size)⟩⟩, (fun q0 => absurd (hx3 q0) (by rw [hL]; simp)), hh7, (fun q0 => absurd (hx6 q0) (by rw [hL]; simp)), fun q0 => (hx0 q0).kept hs9.grown hgB hg0 hg3, fun q0 => ((hx1 q0).then hs9 q90 q91).mono (by simp [hL] <;> omega), hx2, fun _ => rfl, fun _ => hdep ⟨3, .data⟩ (by simp) rfl, hx5, fun _ => rfl⟩
    · -- operation 6
      cases ho
      have hp5 := hdep ⟨5, .chain⟩ (by simp) rfl
      have hp0 := hdep ⟨0, .data⟩ (by simp) rfl
      obtain rfl := hh0 hp0
      obtain ⟨g2, q2, c2, L, rfl, hq2, hsp⟩ := hh5 hp5
      have hsp2 := hsp hL
      have re0 := (hx0 hL).res.c0
      have re1 := (hx0 hL).res.c1
      have rf0 := (hx0 hL).res.fz 0
      have rf1 := (hx0 hL).res.fz 1
      go_simp
      exact hK _ _ ⟨_, _, _, _, _, _, _, _, rfl, (hB.set _ _).set _ _, (fun _ => rfl), hh1, hh2, (fun _ => rfl), hh4, (fun _ => ⟨g2, q2, c2, L, rfl, hq2, fun q => nomatch q⟩), fun _ => ⟨g2, q2, c2, L, rfl, hq2, own_capH hsp2.r, (hx0 hL).done (hbs.out _ (hx1 hL).grown) hgw hwB hsp2⟩, hh7, hh8, (fun q0 => nomatch q0), (fun q0 => nomatch q0), fun _ => hp0, fun _ => hp5, hx4, fun _ => hx4 hp5, hx6⟩
    · -- operation 7
      cases ho
      obtain rfl := hh1 (hdep ⟨1, .data⟩ (by simp) rfl)
      go_simp
      exact hK _ _ ⟨_, _, _, _, _, _, _, _, rfl, hB, hh0, hh1, hh2, hh3, hh4, hh5, hh6, fun _ => rfl, hh8, hx0, hx1, hx2, hx3, hx4, hx5, hx6⟩
    · -- operation 8
      cases ho
      go_simp
      exact hK _ _ ⟨_, _, _, _, _, _, _, _, rfl, hB, hh0, hh1, hh2, hh3, hh4, hh5, hh6, hh7, fun _ => rfl, hx0, hx1, hx2, hx3, hx4, hx5, fun _ => hdep ⟨5, .data⟩ (by simp) rfl⟩
  intro Fl9 ac W hJ hall
  obtain ⟨x15, x16, x17, x18, x19, x20, x3, x4, rfl, hB, hh0, hh1, hh2, hh3, hh4, hh5, hh6, hh7, hh8, -, -, -, -, -, -, -⟩ := hJ
  obtain rfl := hh0 (hall 0 (by decide))
  obtain rfl := hh1 (hall 1 (by decide))
  obtain rfl := hh2 (hall 2 (by decide))
  obtain rfl := hh3 (hall 3 (by decide))
  obtain rfl := hh4 (hall 4 (by decide))
  obtain rfl := hh7 (hall 7 (by decide))
  obtain - := hh5 (hall 5 (by decide))
  obtain ⟨g2, q2, c2, L, rfl, hq2, hqc2, P7⟩ := hh6 (hall 6 (by decide))
  obtain rfl := hh8 (hall 8 (by decide))
  clear hall
  have P7 := Lib.hid P7
  clear hB P6 S6
  go_wp2_with fail
  refine bodyPost_ret (results_is2 rfl _ _ b0 [.int .i64 l, .int .i64 d] _ rfl P7.out.res.rangeAt Try.underlying25 rfl (by kernel_rfl)) rfl ?_
  exact ⟨l, d, gH, qH, cH, hs, g2, q2, c2, L, rfl, hq8, hcapH, hq2, hqc2, hgH, P7.out.lo, P7.out.h, P7.out.s, P7.out.bel⟩
theorem has_off {W W' : World} {r g B : Nat} {xs : List Value} (h : Has W B (some ⟨g, 0, none⟩) xs) (hg : W.grownBy W' (some r)) (hB : B ≤ W.heap.size) (hne : g ≠ r) : Has W' B (some ⟨g, 0, none⟩) xs := fun k u hu => by
  obtain ⟨a, ea, hb, hc⟩ := h k u hu
  injection ea with ea
  subst ea
  have hbk : ((⟨g, 0, none⟩ : Addr).add k).block = g := by unfold Addr.add; split <;> rfl
  refine ⟨_, rfl, hb, (World.cell?_of_block (a := (⟨g, 0, none⟩ : Addr).add k) ?_).trans hc⟩
  rw [hbk]
  exact hg.block g (Nat.lt_of_lt_of_le hb hB) (fun e => hne (by injection e))
set_option maxHeartbeats 1000000 in
theorem drawCov_any {w : World} {A : Option Addr} {n : Nat} {zs : List Int} {B : Nat} (c : Nat) (h : Code_ w A n zs B) :
    Calls Try.prog 13 #[.slice A n c] w (DrwI w) := by
  have C := Lib.hid (drawIsP_any c (h.on ((below1x w (.cells #[.int .i64 0, .int .i64 0] 25)).mono h.size)))
  have BX := Lib.hid (BoxM.new w 0 0)
  have HB0 := Lib.hid (below1x w (.cells #[.int .i64 0, .int .i64 0] 25))
  clear h
  go_enter Try.func13, Try.ntmps13
  go_wp2_with fail
  obtain ⟨W0, hW0⟩ : ∃ W, (w.alloc (.cells #[.int .i64 0, .int .i64 0] 25)) = W := ⟨_, rfl⟩
  rw [hW0] at BX HB0 C ⊢
  clear hW0
  obtain ⟨xr, hxr⟩ : ∃ x, w.heap.size = x := ⟨_, rfl⟩
  rw [hxr] at BX
  try simp only [hxr]
  have HSW : Hid (w.heap.size ≤ W0.heap.size) := Lib.hid HB0.out.size
  have HXR : Hid (w.heap.size ≤ xr ∧ xr < W0.heap.size) := Lib.hid ⟨by omega, BX.out.lt⟩
  clear hxr
  refine C.out.mono ?_
  rintro e w2 ⟨l, d, gH, qH, cH, hs, g2, q2, c2, L, rfl, h1, h2, h3, h4, hgH, hg2, h5, h6, hb⟩
  have BX2 := Lib.hid (BX.out.all hb)
  have HB2 := Lib.hid (HB0.out.trans (hb.mono HB0.out.size))
  have hg := grown_setsM w2 xr l d
  have H5 := Lib.hid h5
  have H6 := Lib.hid h6
  have x0 := BX2.out.c0
  have x1 := BX2.out.c1
  have z0 := BX2.out.fz 0
  have z1 := BX2.out.fz 1
  clear C BX hb HB0 h5 h6
  go_wp2_with fail
  refine bodyPost_ret (results_is2 rfl _ _ xr [.int .i64 l, .int .i64 d] _ rfl (BX2.out.sets l d).rangeAt Try.underlying25 rfl (by kernel_rfl)) rfl ?_
  obtain ⟨hx1, hx2⟩ := HXR.out
  have e1 : IsHulls (setsM w2 xr l d) w2.heap.size (some ⟨gH, 0, none⟩) qH hs := ⟨H5.out.len, by simp [World.setCell], has_off H5.out.has hg (Nat.le_refl _) (by omega)⟩
  have e2 : IsSpots (setsM w2 xr l d) w2.heap.size (some ⟨g2, 0, none⟩) q2 L := ⟨H6.out.len, by simp [World.setCell], has_off H6.out.has hg (Nat.le_refl _) (by omega)⟩
  have hs0 := HB2.out.size
  have hsw := HSW.out
  exact ⟨l, d, gH, qH, cH, hs, g2, q2, c2, L, rfl, h1, h2, h3, h4, by omega, by omega, e1.all, e2.all, (HB2.out.setCell (p := ⟨xr, 0, none⟩) hx1 _).setCell (p := ⟨xr, 1, none⟩) hx1 _⟩
end Go.Proofs.Ytdleidlmjliapaa
