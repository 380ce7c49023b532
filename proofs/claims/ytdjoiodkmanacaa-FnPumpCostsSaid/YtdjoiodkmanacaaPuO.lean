/- Chapter 12: the cheapest plan: what the program answers. -/
import Derived.Test.YtdjoiodkmanacaaPuN
import Derived.Laws.OwnMore
namespace Go.Proofs.Ytdjoiodkmanacaa
open Go.RowKit Go.PlainAid Go.Sort
set_option linter.unusedVariables false
set_option linter.unusedSimpArgs false

/-- A make at a step: the new slice is a row of one's own. -/
theorem step_make {P : Program} {ops : Array Oper} {o : Oper} {a : Act} {w : World} {K : Act → World → Prop} {Q : Exit → Act → World → Prop} {E : Prop} (hgd : o.guard = none) (l c : Operand) (t : TypeId) (hop : o.op = Op.makeSlice t l c)
    (base : Nat) (e : TypeId) (i : TypeInfo) (z : Value) (size : Nat) (h1 : P.underlying t = some (.slice e)) (h2 : P.info? e = some i) (h3 : i.zero = some z) (h4 : i.size = size)
    (kl kc : IntKind) (L C : Int) (n : Nat) (hl : a.eval l = .int kl L) (hc : a.eval c = .int kc C) (hL : L = (n : Int)) (hC : C = (n : Int)) (b2 : i.bytes * n ≤ 281474976710656) (b3 : n ≤ maxLen) (b4 : base ≤ w.heap.size)
    (hK : ∀ w', w'.ownsRow base e size (.slice (some ⟨w.heap.size, 0, none⟩) n n) n (madeCells z.cells (n * size)).toList → w.grownBy w' none → K (a.put o.dst (.slice (some ⟨w.heap.size, 0, none⟩) n n)) w') :
    if Region.wanted o (yielded ops a.tmps) = true then Oper.wp P o a w K Q else E := by
  have hw : Region.wanted o (yielded ops a.tmps) = true := by simp [Region.wanted, hgd]
  rw [if_pos hw]
  obtain ⟨w', hrun, r1, r2⟩ := run_make_full (P := P) w base t e i z size h1 h2 h3 h4 kl kc n b2 b3 b4
  subst hL
  subst hC
  unfold Oper.wp
  simp [execOp, hop, hl, hc, hrun, Result.andThen]
  exact hK w' r1 r2
abbrev sets8 (W : World) (g : Nat) (v0 v1 v2 v3 v4 v5 v6 v7 : Value) : World :=
  (((((((W.setCell ⟨g, 0, none⟩ v0).setCell ⟨g, 1, none⟩ v1).setCell ⟨g, 2, none⟩ v2).setCell ⟨g, 3, none⟩ v3).setCell ⟨g, 4, none⟩ v4).setCell ⟨g, 5, none⟩ v5).setCell ⟨g, 6, none⟩ v6).setCell ⟨g, 7, none⟩ v7
theorem BoxS.store {W : World} {g : Nat} {u0 u1 u2 u3 u4 u5 u6 u7 : Value} (h : W.heap[g]? = some (.cells #[u0, u1, u2, u3, u4, u5, u6, u7] 81 (0, 0))) (a b c : Int) (A : Option Addr) (n q : Nat) (D : Option Addr) (m r pg pc : Nat) {bv : Value} {z : Int} :
    BoxS (sets8 W g (.int .i64 a) (.int .i64 b) (.int .i64 c) (.slice A n q) (.slice D m r) (.slice (some ⟨pg, 0, none⟩) n pc) bv (.int .i64 z)) g a b c A n q D m r pg pc bv z := by
  unfold BoxS
  simp [sets8, World.setCell, Array.getElem?_modify, h]
theorem own_sets8 {W : World} {base : Nat} {e : TypeId} {size n : Nat} {v : Value} {xs : List Value} (h : W.ownsRow base e size v n xs) (g : Nat) (v0 v1 v2 v3 v4 v5 v6 v7 : Value) (hne : v.ownBlock ≠ some g) : (sets8 W g v0 v1 v2 v3 v4 v5 v6 v7).ownsRow base e size v n xs :=
  own_set (own_set (own_set (own_set (own_set (own_set (own_set (own_set h _ _ _ hne) _ _ _ hne) _ _ _ hne) _ _ _ hne) _ _ _ hne) _ _ _ hne) _ _ _ hne) _ _ _ hne
theorem sets8_below {w W : World} {B : Nat} (h : Below B w W) {g : Nat} (hg : B ≤ g) (v0 v1 v2 v3 v4 v5 v6 v7 : Value) : Below B w (sets8 W g v0 v1 v2 v3 v4 v5 v6 v7) :=
  (((((((h.setCell (p := ⟨g, 0, none⟩) hg _).setCell (p := ⟨g, 1, none⟩) hg _).setCell (p := ⟨g, 2, none⟩) hg _).setCell (p := ⟨g, 3, none⟩) hg _).setCell (p := ⟨g, 4, none⟩) hg _).setCell (p := ⟨g, 5, none⟩) hg _).setCell (p := ⟨g, 6, none⟩) hg _).setCell (p := ⟨g, 7, none⟩) hg _
set_option maxRecDepth 100000 in
set_option maxHeartbeats 4000000 in
theorem cheapI_any {w : World} {B : Nat} {A D : Option Addr} {n m : Nat} {zs : List Int} {vs : List TPump} (a b c : Int) (q r : Nat) (h : IsTs w B A n zs D m vs) (hm : n ≤ 1048576) (hm2 : m ≤ 1048576) (L : List Int) (z : Int) (x : Bool) (hA : CheA ⟨a, b, c, zs, vs⟩ L z x) (l : Nat) (hl : L.length = l) :
    Calls Try.prog 37 #[.agg #[.int .i64 a, .int .i64 b, .int .i64 c, .slice A n q, .slice D m r]] w (GivesY3 w L l z x) := by
  obtain ⟨i0, hi, hz0, hz1, hz2⟩ := info_parts Try.infoInt'
  obtain ⟨W5, hW5, X5, B5, z5⟩ := box_in w a b c A n q D m r
  have cT0 := X5.c0
  have cT1 := X5.c1
  have cT2 := X5.c2
  have cT3 := X5.c3
  have cT4 := X5.c4
  have HB5 := Lib.hid B5
  have HX5 := Lib.hid X5
  have C1 := Lib.hid (goodI_any a b c q r (h.upB B5) hm hm2)
  have HT := Lib.hid (h.upB B5)
  have HNO := Lib.hid hA.2
  have HYES := Lib.hid hA.1
  have HM := Lib.hid hl
  have HLOW := Lib.hid h.low
  have HG := Lib.hid (gT_iff ⟨a, b, c, zs, vs⟩)
  generalize gT ⟨a, b, c, zs, vs⟩ = T at HG C1
  clear h X5 B5 z5 hA hl
  go_enter Try.func37, Try.ntmps37
  go_wp2_with fail
  (try rw [hW5])
  clear hW5 cT0 cT1 cT2 cT3 cT4
  refine C1.out.mono ?_
  rintro e w1 ⟨rfl, hb⟩
  have HX1 := Lib.hid (HX5.out.all hb)
  have HB1 := Lib.hid (HB5.out.trans (hb.mono HB5.out.size))
  have HT1 := Lib.hid (HT.out.upB hb)
  clear hb C1 HX5 HB5 HT
  cases T with
  | false =>
    obtain ⟨rfl, rfl, rfl⟩ := HNO.out (fun g => by have := HG.out.2 g.1; cases this)
    obtain rfl : 0 = l := HM.out
    clear HNO HYES HG
    go_wp2_with fail
    go_ret3
    exact (OwnY.nil HB1.out).gives3 0 false
  | true =>
  have HGD := Lib.hid (HG.out.1 rfl)
  have hn5 : n ≤ 5 := by rw [← HT1.out.ints.len]; exact HGD.out.2.1.2
  have hn1 : 1 ≤ n := by rw [← HT1.out.ints.len]; exact HGD.out.2.1.1
  have hX1 := HX1.out
  have cT0 := hX1.c0
  have cT1 := hX1.c1
  have cT2 := hX1.c2
  have cT3 := hX1.c3
  have cT4 := hX1.c4
  have lV := World.block_lt_of_cell? _ _ cT0
  clear hX1
  go_wp2_with fail
  refine region_inv (by kernel_rfl) (by kernel_rfl) (fun Fl9 ac W => ∃ (x10 x11 x12 x13 x14 x15 x5 : Value), ac = { tmps := #[Value.agg #[Value.int IntKind.i64 a, Value.int IntKind.i64 b, Value.int IntKind.i64 c, Value.slice A n q, Value.slice D m r], Value.pointer (some ⟨w.heap.size, 0, none⟩), Value.slice none 0 0, Value.int IntKind.i64 0, Value.bool false, x5, Value.agg #[Value.int IntKind.i64 a, Value.int IntKind.i64 b, Value.int IntKind.i64 c, Value.slice A n q, Value.slice D m r], Value.bool true, Value.bool false, undef, x10, x11, x12, x13, x14, x15, undef, undef, undef, undef, undef, undef, undef, undef, undef, undef, undef, undef], defers := [] } ∧ Below w1.heap.size w1 W ∧
        (Fl9 0 = true → x10 = .agg #[.int .i64 a, .int .i64 b, .int .i64 c, .slice A n q, .slice D m r]) ∧
        (Fl9 1 = true → x11 = .pointer (some ⟨w.heap.size, 3, none⟩)) ∧
        (Fl9 2 = true → x12 = .slice A n q) ∧
        (Fl9 3 = true → x13 = .int .i64 (n : Int)) ∧
        (Fl9 4 = true → ∃ g, x14 = .slice (some ⟨g, 0, none⟩) n n ∧ W.ownsRow w1.heap.size 3 1 (.slice (some ⟨g, 0, none⟩) n n) n (madeCells (Value.int .i64 0).cells (n * 1)).toList) ∧
        (Fl9 5 = true → ∃ g, x15 = .agg #[.int .i64 a, .int .i64 b, .int .i64 c, .slice A n q, .slice D m r, .slice (some ⟨g, 0, none⟩) n n, .slice none 0 0, .int .i64 9223372036854775807] ∧ W.ownsRow w1.heap.size 3 1 (.slice (some ⟨g, 0, none⟩) n n) n (madeCells (Value.int .i64 0).cells (n * 1)).toList) ∧
        (Fl9 6 = true → Fl9 7 = false → ∃ g, x5 = .pointer (some ⟨g, 0, none⟩) ∧ w1.heap.size ≤ g ∧ W.heap[g]? = some (.cells #[.int .i64 0, .int .i64 0, .int .i64 0, .slice none 0 0, .slice none 0 0, .slice none 0 0, .slice none 0 0, .int .i64 0] 81 (0, 0))) ∧
        (Fl9 7 = true → ∃ g pg, x5 = .pointer (some ⟨g, 0, none⟩) ∧ w1.heap.size ≤ g ∧ BoxS W g a b c A n q D m r pg n (.slice none 0 0) 9223372036854775807 ∧ W.ownsRow w1.heap.size 3 1 (.slice (some ⟨pg, 0, none⟩) n n) n (madeCells (Value.int .i64 0).cells (n * 1)).toList) ∧
        (Fl9 7 = true → Fl9 5 = true) ∧
        (Fl9 5 = true → Fl9 4 = true) ∧
        (Fl9 7 = true → Fl9 6 = true)) ?_ ?_ ?_
  · exact ⟨_, _, _, _, _, _, _, rfl, (Drawn.one w1 1).below _, (fun q0 => nomatch q0), (fun q0 => nomatch q0), (fun q0 => nomatch q0), (fun q0 => nomatch q0), (fun q0 => nomatch q0), (fun q0 => nomatch q0), (fun q0 => nomatch q0), (fun q0 => nomatch q0), (fun q0 => nomatch q0), (fun q0 => nomatch q0), (fun q0 => nomatch q0)⟩
  · intro Fl9 ac W i9 o9 hJ ho hL hdep K9 hK
    obtain ⟨x10, x11, x12, x13, x14, x15, x5, rfl, hB, hh0, hh1, hh2, hh3, hh4, hh5, hh6, hh7, hx0, hx1, hx2⟩ := hJ
    have hi9 : i9 < 8 := by simpa using (Array.getElem?_eq_some_iff.1 ho).1
    have C0 := (hB.cell lV).trans cT0
    have C1 := (hB.cell (p := ⟨w.heap.size, 1, none⟩) lV).trans cT1
    have C2 := (hB.cell (p := ⟨w.heap.size, 2, none⟩) lV).trans cT2
    have C3 := (hB.cell (p := ⟨w.heap.size, 3, none⟩) lV).trans cT3
    have C4 := (hB.cell (p := ⟨w.heap.size, 4, none⟩) lV).trans cT4
    obtain rfl | rfl | rfl | rfl | rfl | rfl | rfl | rfl : i9 = 0 ∨ i9 = 1 ∨ i9 = 2 ∨ i9 = 3 ∨ i9 = 4 ∨ i9 = 5 ∨ i9 = 6 ∨ i9 = 7 := by omega
    · -- operation 0
      cases ho
      go_simp
      exact hK _ _ ⟨_, _, _, _, _, _, _, rfl, hB, fun _ => rfl, hh1, hh2, hh3, hh4, hh5, hh6, hh7, hx0, hx1, hx2⟩
    · -- operation 1
      cases ho
      go_simp
      exact hK _ _ ⟨_, _, _, _, _, _, _, rfl, hB, hh0, fun _ => rfl, hh2, hh3, hh4, hh5, hh6, hh7, hx0, hx1, hx2⟩
    · -- operation 2
      cases ho
      obtain rfl := hh1 (hdep ⟨1, .data⟩ (by simp) rfl)
      go_simp
      exact hK _ _ ⟨_, _, _, _, _, _, _, rfl, hB, hh0, hh1, fun _ => rfl, hh3, hh4, hh5, hh6, hh7, hx0, hx1, hx2⟩
    · -- operation 3
      cases ho
      obtain rfl := hh2 (hdep ⟨2, .data⟩ (by simp) rfl)
      go_simp
      exact hK _ _ ⟨_, _, _, _, _, _, _, rfl, hB, hh0, hh1, hh2, fun _ => rfl, hh4, hh5, hh6, hh7, hx0, hx1, hx2⟩
    · -- operation 4
      cases ho
      obtain rfl := hh3 (hdep ⟨3, .data⟩ (by simp) rfl)
      refine step_make rfl (.tmp 13) (.tmp 13) 24 rfl w1.heap.size 3 i0 (.int .i64 0) 1 Try.underlying24 hi hz0 hz1 _ _ _ _ n rfl rfl rfl rfl (by rw [hz2]; omega) (by unfold maxLen; omega) hB.size ?_
      intro w9 hown hgr
      have hb9 : Below W.heap.size W w9 := (Below.refl _ _).grown hgr (Nat.le_refl _) (fun k h => by cases h)
      exact hK _ _ ⟨_, _, _, _, _, _, _, rfl, hB.trans (hb9.mono hB.size), hh0, hh1, hh2, hh3, fun _ => ⟨_, rfl, hown⟩, fun q0 => (fun ⟨g, e, o⟩ => ⟨g, e, own_below o hb9⟩) (hh5 q0), fun q0 r0 => (fun ⟨g, e, l9, h⟩ => ⟨g, e, l9, (hb9.block g (Array.getElem?_eq_some_iff.1 h).1).trans h⟩) (hh6 q0 r0), (fun q0 => absurd (hx1 (hx0 q0)) (by rw [hL]; simp)), hx0, fun _ => rfl, hx2⟩
    · -- operation 5
      cases ho
      obtain rfl := hh0 (hdep ⟨0, .data⟩ (by simp) rfl)
      have hd4 := hdep ⟨4, .data⟩ (by simp) rfl
      obtain ⟨g9, rfl, ho9⟩ := hh4 hd4
      go_simp
      exact hK _ _ ⟨_, _, _, _, _, _, _, rfl, hB, hh0, hh1, hh2, hh3, hh4, fun _ => ⟨g9, rfl, ho9⟩, hh6, hh7, fun _ => rfl, fun _ => hd4, hx2⟩
    · -- operation 6
      cases ho
      go_simp
      exact hK _ _ ⟨_, _, _, _, _, _, _, rfl, hB.trans ((Below.alloc (Below.refl W.heap.size W) (Nat.le_refl _) _).mono hB.size), hh0, hh1, hh2, hh3, fun q0 => (fun ⟨g, e, o⟩ => ⟨g, e, own_below o (Below.alloc (Below.refl W.heap.size W) (Nat.le_refl _) _)⟩) (hh4 q0), fun q0 => (fun ⟨g, e, o⟩ => ⟨g, e, own_below o (Below.alloc (Below.refl W.heap.size W) (Nat.le_refl _) _)⟩) (hh5 q0), fun _ _ => ⟨_, rfl, hB.size, heap_alloc_new W _⟩, (fun q0 => absurd (hx2 q0) (by rw [hL]; simp)), hx0, hx1, fun _ => rfl⟩
    · -- operation 7
      cases ho
      have hd5 := hdep ⟨5, .data⟩ (by simp) rfl
      obtain ⟨pg9, rfl, hp9⟩ := hh5 hd5
      have hd6 := hdep ⟨6, .data⟩ (by simp) rfl
      obtain ⟨g9, rfl, l9, hz9⟩ := hh6 hd6 hL
      have z0 := cell_of_row W g9 0 _ _ _ hz9
      have z1 := cell_of_row W g9 1 _ _ _ hz9
      have z2 := cell_of_row W g9 2 _ _ _ hz9
      have z3 := cell_of_row W g9 3 _ _ _ hz9
      have z4 := cell_of_row W g9 4 _ _ _ hz9
      have z5 := cell_of_row W g9 5 _ _ _ hz9
      have z6 := cell_of_row W g9 6 _ _ _ hz9
      have z7 := cell_of_row W g9 7 _ _ _ hz9
      have y0 := frozen_of_row W g9 0 _ _ hz9
      have y1 := frozen_of_row W g9 1 _ _ hz9
      have y2 := frozen_of_row W g9 2 _ _ hz9
      have y3 := frozen_of_row W g9 3 _ _ hz9
      have y4 := frozen_of_row W g9 4 _ _ hz9
      have y5 := frozen_of_row W g9 5 _ _ hz9
      have y6 := frozen_of_row W g9 6 _ _ hz9
      have y7 := frozen_of_row W g9 7 _ _ hz9
      have hne9 : pg9 ≠ g9 := fun e => own_off hp9 hz9 (by decide) (by simp [Value.ownBlock, e])
      obtain ⟨g4, rfl, ho4⟩ := hh4 (hx1 hd5)
      have hne4 : g4 ≠ g9 := fun e => own_off ho4 hz9 (by decide) (by simp [Value.ownBlock, e])
      go_simp
      have hrow9 := own_sets8 hp9 g9 (.int .i64 a) (.int .i64 b) (.int .i64 c) (.slice A n q) (.slice D m r) (.slice (some ⟨pg9, 0, none⟩) n n) (.slice none 0 0) (.int .i64 9223372036854775807) (by simpa [Value.ownBlock] using hne9)
      have hk4 := own_sets8 ho4 g9 (.int .i64 a) (.int .i64 b) (.int .i64 c) (.slice A n q) (.slice D m r) (.slice (some ⟨pg9, 0, none⟩) n n) (.slice none 0 0) (.int .i64 9223372036854775807) (by simpa [Value.ownBlock] using hne4)
      exact hK _ _ ⟨_, _, _, _, _, _, _, rfl, sets8_below hB l9 _ _ _ _ _ _ _ _, hh0, hh1, hh2, hh3, (fun _ => ⟨g4, rfl, hk4⟩), (fun _ => ⟨pg9, rfl, hrow9⟩), (fun _ q0 => nomatch q0), fun _ => ⟨g9, pg9, rfl, l9, BoxS.store hz9 _ _ _ _ _ _ _ _ _ _ _, hrow9⟩, fun _ => hd5, hx1, fun _ => hd6⟩
  intro Fl9 ac W hJ hall
  obtain ⟨x10, x11, x12, x13, x14, x15, x5, rfl, hB, hh0, hh1, hh2, hh3, hh4, hh5, hh6, hh7, -, -, -⟩ := hJ
  obtain rfl := hh0 (hall 0 (by decide))
  obtain rfl := hh1 (hall 1 (by decide))
  obtain rfl := hh2 (hall 2 (by decide))
  obtain rfl := hh3 (hall 3 (by decide))
  clear hh4
  clear hh5
  clear hh6
  obtain ⟨gs, pg, rfl, hgs, hbx, hro⟩ := hh7 (hall 7 (by decide))
  clear hall
  have hpg := (hro.lt pg rfl).1
  have hgp : gs ≠ pg := fun e => own_off hro hbx (by decide) (by simp [Value.ownBlock, e])
  have hmk : (madeCells (Value.int .i64 0).cells (n * 1)).toList = (List.replicate n (0 : Int)).map (Value.int .i64) := by
    rw [Nat.mul_one, List.map_replicate]
    exact toList_madeCells_one _ _
  rw [hmk] at hro
  have hx0 : inX m ([] ++ List.replicate n (0 : Int)) := by
    intro i hi
    rw [List.nil_append, List.length_replicate] at hi
    rw [List.nil_append, List.getD_eq_getElem?_getD, List.getElem?_replicate]
    simp only [hi, if_true, Option.getD_some]
    have := topU_bd m
    omega
  have HBW := Lib.hid (HB1.out.trans (hB.mono HB1.out.size))
  have CD := decide_any (B := B) (Bd := w1.heap.size) (g := gs) (pg := pg) (pc := n) a b c q r HGD.out HT1.out.ints.len HT1.out.pumps.len HT1.out.low hgs hpg hgp n [] (List.replicate n 0) 0 W (.slice none 0 0) [] 9223372036854775807 (HT1.out.upB hB) hbx (.inl ⟨rfl, rfl⟩) hro rfl (by omega) hx0 (fun j hj => absurd hj (by simp)) (by show (0 : Int) < _; omega) hB.size
  have HE : Hid (cheapU ⟨a, b, c, zs, vs⟩ = bestU ⟨a, b, c, zs, vs⟩ (extsU (numM m) n [])) := Lib.hid (by unfold cheapU numU; dsimp only; rw [HT1.out.ints.len, HT1.out.pumps.len])
  rw [← HE.out] at CD
  have HCH := Lib.hid (cheapU_of HGD.out)
  obtain ⟨E, hE⟩ : ∃ E, cheapU ⟨a, b, c, zs, vs⟩ = E := ⟨_, rfl⟩
  rw [hE] at CD HYES HNO HCH
  have HXL := Lib.hid (fun O (g : goodX ⟨a, b, c, zs, vs⟩ O) => show O.length = n from by rw [g.2.1]; exact HT1.out.ints.len)
  obtain ⟨EL, EZ⟩ := E
  have HY2 := HYES.out
  have HN2 := HNO.out
  dsimp only at HY2 HN2
  -- what the search leaves
  have HRES : Hid ((EZ < 0 ∧ stepU ([], 9223372036854775807) (EL, EZ) = ([], 9223372036854775807)) ∨ (0 ≤ EZ ∧ EL.length = n ∧ stepU ([], 9223372036854775807) (EL, EZ) = (EL, EZ))) := Lib.hid (by
    rcases HCH.out with ⟨-, e⟩ | ⟨O, h1, -, e, -⟩
    · injection e with e1 e2
      exact .inl ⟨by omega, stepU_none _ _ (by show EZ < 0; omega)⟩
    · injection e with e1 e2
      have hb := costU_bd HGD.out O O.length
      rw [HXL.out O h1] at e2 hb
      refine .inr ⟨by omega, by rw [e1]; exact HXL.out O h1, ?_⟩
      unfold stepU
      exact if_pos (by show 0 ≤ EZ ∧ ((9223372036854775807 : Int) < 0 ∨ EZ < 9223372036854775807); omega))
  have HYES2 := Lib.hid HY2
  have HNO2 := Lib.hid HN2
  obtain ⟨RR, hRR⟩ : ∃ x, stepU ([], 9223372036854775807) (EL, EZ) = x := ⟨_, rfl⟩
  rw [hRR] at CD HRES
  obtain ⟨RL, RZ⟩ := RR
  have CD2 := CD
  dsimp only at CD2
  have CD3 := Lib.hid CD2
  have cT2 := (hB.cell (p := ⟨w.heap.size, 2, none⟩) lV).trans cT2
  have HBS := Lib.hid hB.size
  have HLW : Hid (w.heap.size ≤ w1.heap.size) := Lib.hid HB1.out.size
  clear CD CD2 HY2 HN2 HYES HNO HCH HXL hE hRR HE hB hro hbx cT0 cT1 cT3 cT4 HG hx0
  go_wp2_with fail
  refine CD3.out.mono ?_
  rintro e w3 ⟨rfl, bv, R', hX, hH, -, -, hb⟩
  have HX3 := Lib.hid hX
  have HB3 := Lib.hid (HBW.out.trans (hb.mono HLW.out))
  have c6 := hX.c6
  have c7 := hX.c7
  clear CD3 hX hb HBW HBS cT2
  rcases HRES.out with ⟨hz, e⟩ | ⟨hz, hln, e⟩
  · injection e with e1 e2
    subst e1
    have HF : Hid (¬ (goodT ⟨a, b, c, zs, vs⟩ ∧ 0 ≤ EZ)) := Lib.hid (fun g => by have := g.2; omega)
    obtain ⟨rfl, rfl, rfl⟩ := HNO2.out HF.out
    obtain rfl : 0 = l := HM.out
    clear HNO2 HYES2 HRES HF HM hz
    rcases hH with ⟨-, rfl⟩ | ⟨gx, cx, rfl, -, -⟩
    · go_wp2_with fail
      go_ret3
      exact (OwnY.nil HB3.out).gives3 0 false
    · go_wp2_with fail
      go_ret3
      exact (OwnY.nil HB3.out).gives3 0 false
  · injection e with e1 e2
    subst e1 e2
    obtain ⟨rfl, rfl, rfl⟩ := HYES2.out ⟨HGD.out, hz⟩
    obtain rfl : n = l := by rw [← HM.out, hln]
    rcases hH with ⟨e, -⟩ | ⟨gx, cx, rfl, hO, -⟩
    · rw [e] at hln; simp at hln; omega
    · rw [hln] at hO c6
      have HO := Lib.hid (own_low hO HLW.out)
      have E6 := fun (d : Nat) (os : Array Obj) => cell_regrown c6 d os
      have E7 := fun (d : Nat) (os : Array Obj) => cell_regrown c7 d os
      have hne : ((n : Int) == 0) = false := by simp; omega
      clear hO HNO2 HYES2 HRES HM hz
      go_wp2_with fail
      have HBR := Lib.hid (Below.refl w3.heap.size w3)
      refine wp_region_quiet_below (by kernel_rfl) (by kernel_rfl) ?_
      repeat (go_big_quiet_step (first | fail))
      refine wpQuiet_nil ?_
      intro _ hw'
      obtain ⟨⟨dq, osq⟩, hw''⟩ := hw'
      subst hw''
      have hb7 := below_regrown w3 dq osq
      have HO7 := Lib.hid (own_below HO.out hb7)
      have HB7 := Lib.hid (HB3.out.trans (hb7.mono HB3.out.size))
      clear E6 E7 hb7
      go_wp2_with fail
      go_ret3
      exact ⟨gx, cx, rfl, HO7.out, HB7.out⟩
end Go.Proofs.Ytdjoiodkmanacaa
