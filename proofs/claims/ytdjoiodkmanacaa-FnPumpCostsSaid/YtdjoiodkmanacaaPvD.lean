/- Chapter 12: the draws of the laws: a task and a plan. -/
import Derived.Test.YtdjoiodkmanacaaPvC
namespace Go.Proofs.Ytdjoiodkmanacaa
open Go.RowKit Go.PlainAid Go.Sort
set_option linter.unusedVariables false
set_option linter.unusedSimpArgs false

theorem own_hasP {w : World} {base : Nat} {e : TypeId} {z n c : Nat} {A : Option Addr} {xs : List Value} (h : w.ownsRow base e z (.slice A n c) n xs) : Has w w.heap.size A xs := by
  rcases h.2 with ⟨h', h0⟩ | ⟨g, cap, cur, h', -⟩
  · simp only [Value.slice.injEq] at h'
    obtain ⟨rfl, rfl, rfl⟩ := h'
    have hl := h.1
    have : xs = [] := List.eq_nil_of_length_eq_zero (by simpa using hl)
    subst this
    exact nofun
  · simp only [Value.slice.injEq] at h'
    obtain ⟨rfl, -, rfl⟩ := h'
    exact ownS_has h
section
variable {B : Nat} {W W' : World} {b0 b3 : Nat} {a b d : Int} {v1 v2 u1 u2 : Value} {nZ nV c1 c2 : Nat} {A1 A2 : Option Addr} {Z : List Int} {V : List TPump}
theorem TkS.kept2 {g : Nat} (h : TkS B W b0 b3 a b d v1 v2 u1 u2 nZ nV Z V) (hg : W.grownBy W' (some g)) (hB : g < B) (h0 : b0 ≠ g) (h3 : b3 ≠ g) : TkS B W' b0 b3 a b d v1 v2 u1 u2 nZ nV Z V :=
  ⟨(hg.block _ (lt_of_heap h.res) (fun e => h0 (by injection e))).trans h.res, (hg.block _ (lt_of_heap h.box) (fun e => h3 (by injection e))).trans h.box, h.z.kept hg (.inr (own_past h.z hB)), h.r.kept hg (.inr (own_past h.r hB))⟩
theorem TkS.is (h : TkS B W b0 b3 a b d v1 v2 (.slice A1 nZ c1) (.slice A2 nV c2) nZ nV Z V) : IsTs W W.heap.size A1 nZ Z A2 nV V := by
  have h1 := h.z.1
  have h2 := h.r.1
  rw [List.length_map] at h1
  rw [flatPump_len] at h2
  exact ⟨Nat.le_refl _, ⟨by omega, Nat.le_refl _, own_hasP h.z⟩, ⟨by omega, Nat.le_refl _, own_hasP h.r⟩⟩
/-- What stands when the answer is stored. -/
structure DnK (BB : Nat) (w W : World) (b0 : Nat) (a b d : Int) (A1 A2 : Option Addr) (nZ c1 nV c2 : Nat) (Z : List Int) (V : List TPump) : Prop where
  res : BoxT W b0 a b d A1 nZ c1 A2 nV c2
  z : W.ownsRow BB 3 1 (.slice A1 nZ c1) nZ (Z.map (.int .i64))
  r : W.ownsRow BB 69 3 (.slice A2 nV c2) nV (flatPump V)
  low : Below w.heap.size w W
theorem DnK.below {w : World} (h : DnK B w W b0 a b d A1 A2 nZ c1 nV c2 Z V) (hb : Below W.heap.size W W') : DnK B w W' b0 a b d A1 A2 nZ c1 nV c2 Z V :=
  ⟨h.res.all hb, own_below h.z hb, own_below h.r hb, h.low.trans (hb.mono h.low.size)⟩
theorem TkS.done2 {w : World} (h : TkS B W b0 b3 a b d v1 v2 (.slice A1 nZ c1) (.slice A2 nV c2) nZ nV Z V) (hb : Below w.heap.size w W) (h0 : w.heap.size ≤ b0) : DnK B w (sets5 W b0 (.int .i64 a) (.int .i64 b) (.int .i64 d) (.slice A1 nZ c1) (.slice A2 nV c2)) b0 a b d A1 A2 nZ c1 nV c2 Z V :=
  ⟨BoxT.sets (show BoxT W b0 0 0 0 none 0 0 none 0 0 from h.res) _ _ _ _ _ _ _ _ _, (h.done _ _ _ _ _).1, (h.done _ _ _ _ _).2, sets5_below hb h0 _ _ _ _ _⟩
end
/-- A task and a plan are drawn. -/
def DrwTx (w : World) (e : Ending) (w' : World) : Prop :=
  ∃ (a b d : Int) (A1 A2 : Option Addr) (nZ c1 nV c2 : Nat) (Z : List Int) (V : List TPump) (g2 q2 c3 : Nat) (L : List Int), e = .returned (.tuple #[.agg #[.int .i64 a, .int .i64 b, .int .i64 d, .slice A1 nZ c1, .slice A2 nV c2], .slice (some ⟨g2, 0, none⟩) q2 c3]) ∧ nZ ≤ 10 ∧ nV ≤ 3 ∧ q2 ≤ 11 ∧ q2 ≤ c3 ∧ nV ≤ c2 ∧
    w'.ownsRow w.heap.size 3 1 (.slice A1 nZ c1) nZ (Z.map (.int .i64)) ∧ w'.ownsRow w.heap.size 69 3 (.slice A2 nV c2) nV (flatPump V) ∧ w'.ownsRow w.heap.size 3 1 (.slice (some ⟨g2, 0, none⟩) q2 c3) q2 (L.map (.int .i64)) ∧ Below w.heap.size w w'
/-- A task and a number are drawn. -/
def DrwTk (w : World) (e : Ending) (w' : World) : Prop :=
  ∃ (a b d : Int) (A1 A2 : Option Addr) (nZ c1 nV c2 : Nat) (Z : List Int) (V : List TPump) (k : Int), e = .returned (.tuple #[.agg #[.int .i64 a, .int .i64 b, .int .i64 d, .slice A1 nZ c1, .slice A2 nV c2], .int .i64 k]) ∧ nZ ≤ 10 ∧ nV ≤ 3 ∧ nV ≤ c2 ∧
    w'.ownsRow w.heap.size 3 1 (.slice A1 nZ c1) nZ (Z.map (.int .i64)) ∧ w'.ownsRow w.heap.size 69 3 (.slice A2 nV c2) nV (flatPump V) ∧ Below w.heap.size w w'
theorem own_capV {w : World} {base : Nat} {e : TypeId} {z n c : Nat} {A : Option Addr} {xs : List Value} (h : w.ownsRow base e z (.slice A n c) n xs) : n ≤ c := by
  rcases h.2 with ⟨h', h0⟩ | ⟨g, cap, cur, h', -, -, hnc, -⟩
  · omega
  · simp only [Value.slice.injEq] at h'
    omega
theorem DnK.is {B : Nat} {w W : World} {b0 : Nat} {a b d : Int} {A1 A2 : Option Addr} {nZ c1 nV c2 : Nat} {Z : List Int} {V : List TPump} (h : DnK B w W b0 a b d A1 A2 nZ c1 nV c2 Z V) : IsTs W W.heap.size A1 nZ Z A2 nV V := by
  have h1 := h.z.1
  have h2 := h.r.1
  rw [List.length_map] at h1
  rw [flatPump_len] at h2
  exact ⟨Nat.le_refl _, ⟨by omega, Nat.le_refl _, own_hasP h.z⟩, ⟨by omega, Nat.le_refl _, own_hasP h.r⟩⟩
theorem results_row_tmp {P : Program} {fn : Func} {p t : Tmp} {ty : TypeId} (h : fn.results = #[.cell p ty, .tmp t]) (tmps : Array Value) (w : World) (g : Nat) (cs : List Value) (u : Value) (d : TypeDesc)
    (hp : tmps.getD p undef = .pointer (some ⟨g, 0, none⟩)) (ht : tmps.getD t undef = u) (hc : w.rangeAt g 0 cs) (hu : P.underlying ty = some d) (hd : d.isRow = true) (hi : (P.info? ty).map (·.size) = some cs.length) :
    (results fn tmps).run P w = .ok (.tuple #[.agg cs.toArray, u]) w := by
  have hp' : tmps[p]?.getD undef = .pointer (some ⟨g, 0, none⟩) := by simpa using hp
  have ht' : tmps[t]?.getD undef = u := by simpa using ht
  simp [results, h, hp', ht', asAddr, run_loadVar_mid w g 0 ty cs d hc hu hd hi]
set_option maxHeartbeats 4000000 in
theorem drawLW_any {w : World} {A : Option Addr} {n : Nat} {zs : List Int} {B : Nat} (c : Nat) (h : Code_ w A n zs B) :
    Calls Try.prog 15 #[.slice A n c] w (DrwTx w) := by
  have hsz : (w.alloc (taskO 0 0 0 (.slice none 0 0) (.slice none 0 0))).heap.size = w.heap.size + 1 := by simp
  have h2 : Code_ (w.alloc (taskO 0 0 0 (.slice none 0 0) (.slice none 0 0))) A n zs B := h.on ((below1 w _).mono h.size)
  have H := Lib.hid (h2.start c)
  have BX := Lib.hid ((BoxT.new w 0 0 0 none 0 0 none 0 0).all (below1 _ (.cells #[.slice A n c, .int .i64 0, .int .u64 0] 60)))
  have hbs := Lib.hid (fun w' (h : ((w.alloc (taskO 0 0 0 (.slice none 0 0) (.slice none 0 0))).alloc (.cells #[.slice A n c, .int .i64 0, .int .u64 0] 60)).grownBy w' (some (w.alloc (taskO 0 0 0 (.slice none 0 0) (.slice none 0 0))).heap.size)) => (below1 w _).trans ((below_start h).mono (by simp)))
  have C := Lib.hid (pumpTask_at (h2.start c) (by omega))
  rw [hsz] at H hbs C
  clear h h2
  go_enter Try.func15, Try.ntmps15
  go_wp2_with fail
  have hs0 : ((w.alloc (taskO 0 0 0 (.slice none 0 0) (.slice none 0 0))).alloc (.cells #[.slice A n c, .int .i64 0, .int .u64 0] 60)).heap.size = w.heap.size + 1 + 1 := by simp
  obtain ⟨W0, hW0⟩ : ∃ W, (w.alloc (taskO 0 0 0 (.slice none 0 0) (.slice none 0 0))).alloc (.cells #[.slice A n c, .int .i64 0, .int .u64 0] 60) = W := ⟨_, rfl⟩
  rw [hW0] at H BX hbs C hs0 ⊢
  clear hW0 hsz
  obtain ⟨b0, hb0⟩ : ∃ x, w.heap.size = x := ⟨_, rfl⟩
  rw [hb0] at BX H C hs0
  have hb0w : w.heap.size ≤ b0 := by omega
  have hbs2 : Hid (∀ w', W0.grownBy w' (some (b0 + 1)) → Below w.heap.size w w') := Lib.hid (fun w' h => hbs.out w' (by rw [hb0]; exact h))
  clear hbs
  try simp only [hb0]
  obtain ⟨g, hg⟩ : ∃ x, b0 + 1 = x := ⟨_, rfl⟩
  rw [hg] at H C hs0
  have hbs : Hid (∀ w', W0.grownBy w' (some g) → Below w.heap.size w w') := Lib.hid (fun w' h => hbs2.out w' (by rw [hg]; exact h))
  clear hbs2
  try simp only [hg]
  obtain ⟨BB, hBB⟩ : ∃ x, W0.heap.size = x := ⟨_, rfl⟩
  have hgB : g < BB := by omega
  have hb0B : b0 < BB := by omega
  have h0g : b0 ≠ g := by omega
  have HHB := Lib.hid hb0
  clear hb0 hg
  refine C.out.mono ?_
  rintro e w1 ⟨a1, a2, a3, A1, A2, nZ, c1, nV, c2, Z, V, rfl, hmz, hmv, hZl, hVl, hz, hr, hs⟩
  rw [hBB] at hz hr
  go_wp2_with fail
  have hsw := hs.grown.size
  have BX1 := BX.out.kept hs.grown (by simp; omega)
  have S6 := Lib.hid (hs.alloc (taskO a1 a2 a3 (.slice A1 nZ c1) (.slice A2 nV c2)))
  have P6 : Hid (TkS BB (w1.alloc (taskO a1 a2 a3 (.slice A1 nZ c1) (.slice A2 nV c2))) b0 w1.heap.size a1 a2 a3 (.slice A1 nZ c1) (.slice A2 nV c2) (.slice A1 nZ c1) (.slice A2 nV c2) nZ nV Z V) := Lib.hid
    ⟨(heap_alloc_old _ _ BX1.lt).trans BX1, heap_alloc_new w1 _, hz.alloc _, hr.alloc _⟩
  have hw2s : (w1.alloc (taskO a1 a2 a3 (.slice A1 nZ c1) (.slice A2 nV c2))).heap.size = w1.heap.size + 1 := by simp
  clear hs BX BX1 C hz hr
  obtain ⟨w2, hw2⟩ : ∃ x, w1.alloc (taskO a1 a2 a3 (.slice A1 nZ c1) (.slice A2 nV c2)) = x := ⟨_, rfl⟩
  obtain ⟨b3, hb3⟩ : ∃ x, w1.heap.size = x := ⟨_, rfl⟩
  rw [hw2] at S6 P6 hw2s ⊢
  rw [hb3] at P6 hw2s
  try simp only [hb3]
  have h3g : b3 ≠ g := by omega
  have hB2 : BB ≤ w2.heap.size := by omega
  clear hw2 hb3 hsw hBB hs0 hw2s
  refine region_inv (by kernel_rfl) (by kernel_rfl) (fun Fl9 ac W => ∃ (x11 x12 x13 x14 x3 : Value), ac = { tmps := #[Value.slice A n c, undef, Value.pointer (some ⟨b0, 0, none⟩), x3, Value.pointer (some ⟨g, 0, none⟩), Value.pointer (some ⟨b3, 0, none⟩), Value.slice A n c, Value.agg #[Value.slice A n c, Value.int IntKind.i64 0, Value.int IntKind.u64 0], Value.pointer (some ⟨g, 0, none⟩), Value.pointer (some ⟨g, 0, none⟩), Value.agg #[Value.int IntKind.i64 a1, Value.int IntKind.i64 a2, Value.int IntKind.i64 a3, Value.slice A1 nZ c1, Value.slice A2 nV c2], x11, x12, x13, x14], defers := [] } ∧ UpW w2.heap.size w2 W ∧
        (Fl9 0 = true → x11 = .agg #[.int .i64 a1, .int .i64 a2, .int .i64 a3, .slice A1 nZ c1, .slice A2 nV c2]) ∧
        (Fl9 1 = true → x12 = .pointer (some ⟨g, 0, none⟩)) ∧
        (Fl9 2 = true → x13 = .agg #[.int .i64 a1, .int .i64 a2, .int .i64 a3, .slice A1 nZ c1, .slice A2 nV c2]) ∧
        (Fl9 3 = true → ∃ (g2 q2 c3 : Nat) (L : List Int), x14 = .slice (some ⟨g2, 0, none⟩) q2 c3 ∧ q2 ≤ 11 ∧ L.length = q2 ∧ W.ownsRow BB 3 1 (.slice (some ⟨g2, 0, none⟩) q2 c3) q2 (L.map (.int .i64))) ∧
        (Fl9 4 = true → DnK BB w W b0 a1 a2 a3 A1 A2 nZ c1 nV c2 Z V) ∧
        (Fl9 5 = true → x3 = x14) ∧
        (Fl9 4 = false → TkS BB W b0 b3 a1 a2 a3 (.slice A1 nZ c1) (.slice A2 nV c2) (.slice A1 nZ c1) (.slice A2 nV c2) nZ nV Z V) ∧
        (Fl9 4 = false → CurStep W0 W g A n c 0 (60 + 60 * ((Fl9 3).toNat : Int))) ∧
        (Fl9 4 = true → Fl9 0 = true) ∧
        (Fl9 4 = true → Fl9 2 = true) ∧
        (Fl9 4 = true → Fl9 3 = true) ∧
        (Fl9 3 = true → Fl9 2 = true) ∧
        (Fl9 5 = true → Fl9 3 = true)) ?_ ?_ ?_
  · exact ⟨_, _, _, _, _, rfl, UpW.of ((Drawn.one w2 1).below _), (fun q0 => nomatch q0), (fun q0 => nomatch q0), (fun q0 => nomatch q0), (fun q0 => nomatch q0), (fun q0 => nomatch q0), (fun q0 => nomatch q0), (fun _ => P6.out.below ((Drawn.one w2 1).below _)), (fun _ => (S6.out.on ((Drawn.one w2 1).below _)).mono (by simp)), (fun q0 => nomatch q0), (fun q0 => nomatch q0), (fun q0 => nomatch q0), (fun q0 => nomatch q0), (fun q0 => nomatch q0)⟩
  · intro Fl9 ac W i9 o9 hJ ho hL hdep K9 hK
    obtain ⟨x11, x12, x13, x14, x3, rfl, hB, hh0, hh1, hh2, hh3, hh4, hh5, hx0, hx1, hx2, hx3, hx4, hx5, hx6⟩ := hJ
    have hi9 : i9 < 6 := by simpa using (Array.getElem?_eq_some_iff.1 ho).1
    obtain rfl | rfl | rfl | rfl | rfl | rfl : i9 = 0 ∨ i9 = 1 ∨ i9 = 2 ∨ i9 = 3 ∨ i9 = 4 ∨ i9 = 5 := by omega
    · -- operation 0
      cases ho
      have hT : Fl9 4 = false := Bool.eq_false_iff.2 (fun h => absurd (hx2 h) (by rw [hL]; simp))
      have C0 := (hx0 hT).c0
      have C1 := (hx0 hT).c1
      have C2 := (hx0 hT).c2
      have C3 := (hx0 hT).c3
      have C4 := (hx0 hT).c4
      go_simp
      exact hK _ _ ⟨_, _, _, _, _, rfl, hB, fun _ => rfl, hh1, hh2, hh3, hh4, hh5, hx0, hx1, fun _ => rfl, hx3, hx4, hx5, hx6⟩
    · -- operation 1
      cases ho
      go_simp
      exact hK _ _ ⟨_, _, _, _, _, rfl, hB, hh0, fun _ => rfl, hh2, hh3, hh4, hh5, hx0, hx1, hx2, hx3, hx4, hx5, hx6⟩
    · -- operation 2
      cases ho
      have hT : Fl9 4 = false := Bool.eq_false_iff.2 (fun h => absurd (hx3 h) (by rw [hL]; simp))
      have C0 := (hx0 hT).c0
      have C1 := (hx0 hT).c1
      have C2 := (hx0 hT).c2
      have C3 := (hx0 hT).c3
      have C4 := (hx0 hT).c4
      go_simp
      exact hK _ _ ⟨_, _, _, _, _, rfl, hB, hh0, hh1, fun _ => rfl, hh3, hh4, hh5, hx0, hx1, hx2, fun _ => rfl, hx4, fun _ => rfl, hx6⟩
    · -- operation 3
      cases ho
      have hT : Fl9 4 = false := Bool.eq_false_iff.2 (fun h => absurd (hx4 h) (by rw [hL]; simp))
      have hbn3 := bN (Fl9 3)
      obtain rfl := hh1 (hdep ⟨1, .data⟩ (by simp) rfl)
      obtain rfl := hh2 (hdep ⟨2, .data⟩ (by simp) rfl)
      obtain ⟨q9, q90, q91, H9⟩ := (hx1 hT).at H.out
      have hBW : BB ≤ W.heap.size := Nat.le_trans hB2 hB.size
      go_simp
      refine (plan12_at H9 (by omega) a1 a2 a3 c1 c2 (hx0 hT).is hmz hmv).mono ?_
      rintro e w9 ⟨g9, q99, c9, L9, rfl, hq9, hl9, hg9, ho9, hs9⟩
      exact hK _ _ ⟨_, _, _, _, _, rfl, hB.trans ((UpW.grown hs9.grown).mono hB.size), hh0, hh1, hh2, fun _ => ⟨_, _, _, _, rfl, hq9, hl9, own_low ho9 hBW⟩, (fun q0 => absurd (hx4 q0) (by rw [hL]; simp)), (fun q0 => absurd (hx6 q0) (by rw [hL]; simp)), fun q0 => (hx0 q0).kept2 hs9.grown hgB h0g h3g, fun q0 => ((hx1 q0).then hs9 q90 q91).mono (by simp [hL] <;> omega), hx2, hx3, fun _ => rfl, fun _ => hdep ⟨2, .data⟩ (by simp) rfl, fun _ => rfl⟩
    · -- operation 4
      cases ho
      have hp3 := hdep ⟨3, .chain⟩ (by simp) rfl
      have hp0 := hdep ⟨0, .data⟩ (by simp) rfl
      obtain rfl := hh0 hp0
      have hp2 := hx5 hp3
      have RS := (show BoxT _ b0 0 0 0 none 0 0 none 0 0 from (hx0 hL).res)
      have y0 := RS.c0
      have y1 := RS.c1
      have y2 := RS.c2
      have y3 := RS.c3
      have y4 := RS.c4
      have zz0 := RS.fz 0
      have zz1 := RS.fz 1
      have zz2 := RS.fz 2
      have zz3 := RS.fz 3
      have zz4 := RS.fz 4
      go_simp
      exact hK _ _ ⟨_, _, _, _, _, rfl, ((((hB.set _ _).set _ _).set _ _).set _ _).set _ _, hh0, hh1, (fun _ => rfl), (fun q0 => (fun ⟨g2, q2, c3, L, e, h1, h2, h⟩ => ⟨g2, q2, c3, L, e, h1, h2, own_sets5 h _ _ _ _ _ _ (own_past h hb0B)⟩) (hh3 q0)), fun _ => (hx0 hL).done2 (hbs.out _ (hx1 hL).grown) hb0w, hh5, (fun q0 => nomatch q0), (fun q0 => nomatch q0), fun _ => hp0, fun _ => hp2, fun _ => hp3, hx5, hx6⟩
    · -- operation 5
      cases ho
      go_simp
      exact hK _ _ ⟨_, _, _, _, _, rfl, hB, hh0, hh1, hh2, hh3, hh4, fun _ => rfl, hx0, hx1, hx2, hx3, hx4, hx5, fun _ => hdep ⟨3, .data⟩ (by simp) rfl⟩
  intro Fl9 ac W hJ hall
  obtain ⟨x11, x12, x13, x14, x3, rfl, hB, hh0, hh1, hh2, hh3, hh4, hh5, -, -, -, -, -, -, -⟩ := hJ
  obtain rfl := hh0 (hall 0 (by decide))
  obtain rfl := hh1 (hall 1 (by decide))
  obtain rfl := hh2 (hall 2 (by decide))
  obtain ⟨g2, q2, c3, L, rfl, hq2, hL2, ho2⟩ := hh3 (hall 3 (by decide))
  obtain P7 := hh4 (hall 4 (by decide))
  obtain rfl := hh5 (hall 5 (by decide))
  clear hall
  have R0 := P7.res
  go_wp2_with fail
  refine bodyPost_ret (results_row_tmp rfl _ _ b0 [_, _, _, _, _] _ _ rfl rfl (BoxT.rangeAt R0) Try.underlying27 rfl (by kernel_rfl)) rfl ?_
  exact ⟨a1, a2, a3, A1, A2, nZ, c1, nV, c2, Z, V, g2, q2, c3, L, rfl, hmz, hmv, hq2, own_capV ho2, own_capV P7.r, own_low P7.z (by omega), own_low P7.r (by omega), own_low ho2 (by omega), P7.low⟩
set_option maxHeartbeats 4000000 in
theorem drawPC_any {w : World} {A : Option Addr} {n : Nat} {zs : List Int} {B : Nat} (c : Nat) (h : Code_ w A n zs B) :
    Calls Try.prog 32 #[.slice A n c] w (DrwTx w) := by
  have C := Lib.hid (drawLW_any c (h.on ((below1 w (taskO 0 0 0 (.slice none 0 0) (.slice none 0 0))).mono h.size)))
  have BX := Lib.hid (BoxT.new w 0 0 0 none 0 0 none 0 0)
  have HB0 := Lib.hid (below1 w (taskO 0 0 0 (.slice none 0 0) (.slice none 0 0)))
  have hsz : (w.alloc (taskO 0 0 0 (.slice none 0 0) (.slice none 0 0))).heap.size = w.heap.size + 1 := by simp
  clear h
  go_enter Try.func32, Try.ntmps32
  go_wp2_with fail
  obtain ⟨W0, hW0⟩ : ∃ W, w.alloc (taskO 0 0 0 (.slice none 0 0) (.slice none 0 0)) = W := ⟨_, rfl⟩
  rw [hW0] at BX HB0 C hsz ⊢
  clear hW0
  obtain ⟨b0, hb0⟩ : ∃ x, w.heap.size = x := ⟨_, rfl⟩
  rw [hb0] at BX
  try simp only [hb0]
  have hb0W : b0 < W0.heap.size := by omega
  have hb0w : w.heap.size ≤ b0 := by omega
  clear hb0 hsz
  refine C.out.mono ?_
  rintro e w2 ⟨a, b, d, A1, A2, nZ, c1, nV, c2, Z, V, g2, q2, c3, L, rfl, h1, h2, h3, h4, h5, hz, hr, hp, hb⟩
  have RS := Lib.hid (BX.out.all hb)
  have HB2 := Lib.hid (HB0.out.trans (hb.mono HB0.out.size))
  have HZ := Lib.hid hz
  have HR := Lib.hid hr
  have HP := Lib.hid hp
  clear C BX hb HB0 hz hr hp
  have y0 := RS.out.c0
  have y1 := RS.out.c1
  have y2 := RS.out.c2
  have y3 := RS.out.c3
  have y4 := RS.out.c4
  have zz0 := RS.out.fz 0
  have zz1 := RS.out.fz 1
  have zz2 := RS.out.fz 2
  have zz3 := RS.out.fz 3
  have zz4 := RS.out.fz 4
  go_wp2_with fail
  refine bodyPost_ret (results_row_tmp rfl _ _ b0 [_, _, _, _, _] _ _ rfl rfl (BoxT.rangeAt (RS.out.sets a b d A1 nZ c1 A2 nV c2)) Try.underlying27 rfl (by kernel_rfl)) rfl ?_
  have hlow : w.heap.size ≤ W0.heap.size := by omega
  exact ⟨a, b, d, A1, A2, nZ, c1, nV, c2, Z, V, g2, q2, c3, L, rfl, h1, h2, h3, h4, h5, own_low (own_sets5 HZ.out _ _ _ _ _ _ (own_past HZ.out hb0W)) hlow, own_low (own_sets5 HR.out _ _ _ _ _ _ (own_past HR.out hb0W)) hlow, own_low (own_sets5 HP.out _ _ _ _ _ _ (own_past HP.out hb0W)) hlow, sets5_below HB2.out hb0w _ _ _ _ _⟩
set_option maxHeartbeats 4000000 in
theorem drawWO_any {w : World} {A : Option Addr} {n : Nat} {zs : List Int} {B : Nat} (c : Nat) (h : Code_ w A n zs B) :
    Calls Try.prog 28 #[.slice A n c] w (DrwTk w) := by
  have hsz : (w.alloc (taskO 0 0 0 (.slice none 0 0) (.slice none 0 0))).heap.size = w.heap.size + 1 := by simp
  have h2 : Code_ (w.alloc (taskO 0 0 0 (.slice none 0 0) (.slice none 0 0))) A n zs B := h.on ((below1 w _).mono h.size)
  have H := Lib.hid (h2.start c)
  have BX := Lib.hid ((BoxT.new w 0 0 0 none 0 0 none 0 0).all (below1 _ (.cells #[.slice A n c, .int .i64 0, .int .u64 0] 60)))
  have hbs := Lib.hid (fun w' (h : ((w.alloc (taskO 0 0 0 (.slice none 0 0) (.slice none 0 0))).alloc (.cells #[.slice A n c, .int .i64 0, .int .u64 0] 60)).grownBy w' (some (w.alloc (taskO 0 0 0 (.slice none 0 0) (.slice none 0 0))).heap.size)) => (below1 w _).trans ((below_start h).mono (by simp)))
  have C := Lib.hid (pumpTask_at (h2.start c) (by omega))
  rw [hsz] at H hbs C
  clear h h2
  go_enter Try.func28, Try.ntmps28
  go_wp2_with fail
  have hs0 : ((w.alloc (taskO 0 0 0 (.slice none 0 0) (.slice none 0 0))).alloc (.cells #[.slice A n c, .int .i64 0, .int .u64 0] 60)).heap.size = w.heap.size + 1 + 1 := by simp
  obtain ⟨W0, hW0⟩ : ∃ W, (w.alloc (taskO 0 0 0 (.slice none 0 0) (.slice none 0 0))).alloc (.cells #[.slice A n c, .int .i64 0, .int .u64 0] 60) = W := ⟨_, rfl⟩
  rw [hW0] at H BX hbs C hs0 ⊢
  clear hW0 hsz
  obtain ⟨b0, hb0⟩ : ∃ x, w.heap.size = x := ⟨_, rfl⟩
  rw [hb0] at BX H C hs0
  have hb0w : w.heap.size ≤ b0 := by omega
  have hbs2 : Hid (∀ w', W0.grownBy w' (some (b0 + 1)) → Below w.heap.size w w') := Lib.hid (fun w' h => hbs.out w' (by rw [hb0]; exact h))
  clear hbs
  try simp only [hb0]
  obtain ⟨g, hg⟩ : ∃ x, b0 + 1 = x := ⟨_, rfl⟩
  rw [hg] at H C hs0
  have hbs : Hid (∀ w', W0.grownBy w' (some g) → Below w.heap.size w w') := Lib.hid (fun w' h => hbs2.out w' (by rw [hg]; exact h))
  clear hbs2
  try simp only [hg]
  obtain ⟨BB, hBB⟩ : ∃ x, W0.heap.size = x := ⟨_, rfl⟩
  have hgB : g < BB := by omega
  have hb0B : b0 < BB := by omega
  have h0g : b0 ≠ g := by omega
  have HHB := Lib.hid hb0
  clear hb0 hg
  refine C.out.mono ?_
  rintro e w1 ⟨a1, a2, a3, A1, A2, nZ, c1, nV, c2, Z, V, rfl, hmz, hmv, hZl, hVl, hz, hr, hs⟩
  rw [hBB] at hz hr
  go_wp2_with fail
  have hsw := hs.grown.size
  have BX1 := BX.out.kept hs.grown (by simp; omega)
  have S6 := Lib.hid (hs.alloc (taskO a1 a2 a3 (.slice A1 nZ c1) (.slice A2 nV c2)))
  have P6 : Hid (TkS BB (w1.alloc (taskO a1 a2 a3 (.slice A1 nZ c1) (.slice A2 nV c2))) b0 w1.heap.size a1 a2 a3 (.slice A1 nZ c1) (.slice A2 nV c2) (.slice A1 nZ c1) (.slice A2 nV c2) nZ nV Z V) := Lib.hid
    ⟨(heap_alloc_old _ _ BX1.lt).trans BX1, heap_alloc_new w1 _, hz.alloc _, hr.alloc _⟩
  have hw2s : (w1.alloc (taskO a1 a2 a3 (.slice A1 nZ c1) (.slice A2 nV c2))).heap.size = w1.heap.size + 1 := by simp
  clear hs BX BX1 C hz hr
  obtain ⟨w2, hw2⟩ : ∃ x, w1.alloc (taskO a1 a2 a3 (.slice A1 nZ c1) (.slice A2 nV c2)) = x := ⟨_, rfl⟩
  obtain ⟨b3, hb3⟩ : ∃ x, w1.heap.size = x := ⟨_, rfl⟩
  rw [hw2] at S6 P6 hw2s ⊢
  rw [hb3] at P6 hw2s
  try simp only [hb3]
  have h3g : b3 ≠ g := by omega
  have hB2 : BB ≤ w2.heap.size := by omega
  clear hw2 hb3 hsw hBB hs0 hw2s
  refine region_inv (by kernel_rfl) (by kernel_rfl) (fun Fl9 ac W => ∃ (x11 x12 x13 x14 x15 x16 x17 x3 : Value), ac = { tmps := #[Value.slice A n c, undef, Value.pointer (some ⟨b0, 0, none⟩), x3, Value.pointer (some ⟨g, 0, none⟩), Value.pointer (some ⟨b3, 0, none⟩), Value.slice A n c, Value.agg #[Value.slice A n c, Value.int IntKind.i64 0, Value.int IntKind.u64 0], Value.pointer (some ⟨g, 0, none⟩), Value.pointer (some ⟨g, 0, none⟩), Value.agg #[Value.int IntKind.i64 a1, Value.int IntKind.i64 a2, Value.int IntKind.i64 a3, Value.slice A1 nZ c1, Value.slice A2 nV c2], x11, x12, x13, x14, x15, x16, x17], defers := [] } ∧ UpW w2.heap.size w2 W ∧
        (Fl9 0 = true → x11 = .agg #[.int .i64 a1, .int .i64 a2, .int .i64 a3, .slice A1 nZ c1, .slice A2 nV c2]) ∧
        (Fl9 1 = true → x12 = .pointer (some ⟨g, 0, none⟩)) ∧
        (Fl9 2 = true → ∃ z9 : Int, x13 = .int .i64 z9) ∧
        (Fl9 3 = true → x14 = .pointer (some ⟨g, 0, none⟩)) ∧
        (Fl9 4 = true → ∃ z9 : Int, x15 = .int .i64 z9) ∧
        (Fl9 5 = true → ∃ z9 : Int, x16 = .int .i64 z9) ∧
        (Fl9 6 = true → ∃ z9 : Int, x17 = .int .i64 z9) ∧
        (Fl9 7 = true → DnK BB w W b0 a1 a2 a3 A1 A2 nZ c1 nV c2 Z V) ∧
        (Fl9 8 = true → ∃ z9 : Int, x3 = .int .i64 z9) ∧
        (Fl9 7 = false → TkS BB W b0 b3 a1 a2 a3 (.slice A1 nZ c1) (.slice A2 nV c2) (.slice A1 nZ c1) (.slice A2 nV c2) nZ nV Z V) ∧
        (Fl9 7 = false → CurStep W0 W g A n c 0 (60 + 2 * (((Fl9 2).toNat : Int) + ((Fl9 4).toNat : Int)))) ∧
        (Fl9 7 = true → Fl9 0 = true) ∧
        (Fl9 7 = true → Fl9 4 = true) ∧
        (Fl9 4 = true → Fl9 2 = true) ∧
        (Fl9 7 = true → Fl9 2 = true)) ?_ ?_ ?_
  · exact ⟨_, _, _, _, _, _, _, _, rfl, UpW.of ((Drawn.one w2 1).below _), (fun q0 => nomatch q0), (fun q0 => nomatch q0), (fun q0 => nomatch q0), (fun q0 => nomatch q0), (fun q0 => nomatch q0), (fun q0 => nomatch q0), (fun q0 => nomatch q0), (fun q0 => nomatch q0), (fun q0 => nomatch q0), (fun _ => P6.out.below ((Drawn.one w2 1).below _)), (fun _ => (S6.out.on ((Drawn.one w2 1).below _)).mono (by simp)), (fun q0 => nomatch q0), (fun q0 => nomatch q0), (fun q0 => nomatch q0), (fun q0 => nomatch q0)⟩
  · intro Fl9 ac W i9 o9 hJ ho hL hdep K9 hK
    obtain ⟨x11, x12, x13, x14, x15, x16, x17, x3, rfl, hB, hh0, hh1, hh2, hh3, hh4, hh5, hh6, hh7, hh8, hx0, hx1, hx2, hx3, hx4, hx5⟩ := hJ
    have hi9 : i9 < 9 := by simpa using (Array.getElem?_eq_some_iff.1 ho).1
    obtain rfl | rfl | rfl | rfl | rfl | rfl | rfl | rfl | rfl : i9 = 0 ∨ i9 = 1 ∨ i9 = 2 ∨ i9 = 3 ∨ i9 = 4 ∨ i9 = 5 ∨ i9 = 6 ∨ i9 = 7 ∨ i9 = 8 := by omega
    · -- operation 0
      cases ho
      have hT : Fl9 7 = false := Bool.eq_false_iff.2 (fun h => absurd (hx2 h) (by rw [hL]; simp))
      have C0 := (hx0 hT).c0
      have C1 := (hx0 hT).c1
      have C2 := (hx0 hT).c2
      have C3 := (hx0 hT).c3
      have C4 := (hx0 hT).c4
      go_simp
      exact hK _ _ ⟨_, _, _, _, _, _, _, _, rfl, hB, fun _ => rfl, hh1, hh2, hh3, hh4, hh5, hh6, hh7, hh8, hx0, hx1, fun _ => rfl, hx3, hx4, hx5⟩
    · -- operation 1
      cases ho
      go_simp
      exact hK _ _ ⟨_, _, _, _, _, _, _, _, rfl, hB, hh0, fun _ => rfl, hh2, hh3, hh4, hh5, hh6, hh7, hh8, hx0, hx1, hx2, hx3, hx4, hx5⟩
    · -- operation 2
      cases ho
      have hT : Fl9 7 = false := Bool.eq_false_iff.2 (fun h => absurd (hx5 h) (by rw [hL]; simp))
      have hbn2 := bN (Fl9 2)
      have hbn4 := bN (Fl9 4)
      obtain rfl := hh1 (hdep ⟨1, .data⟩ (by simp) rfl)
      obtain ⟨q9, q90, q91, H9⟩ := (hx1 hT).at H.out
      go_simp
      refine (pick_at H9 (by omega) 3 (by omega)).mono ?_
      rintro e w9 ⟨z9, hb90, hb91, rfl, hs9⟩
      exact hK _ _ ⟨_, _, _, _, _, _, _, _, rfl, hB.trans ((UpW.grown hs9.grown).mono hB.size), hh0, hh1, fun _ => ⟨_, rfl⟩, hh3, hh4, hh5, hh6, (fun q0 => absurd (hx5 q0) (by rw [hL]; simp)), hh8, fun q0 => (hx0 q0).kept2 hs9.grown hgB h0g h3g, fun q0 => ((hx1 q0).then hs9 q90 q91).mono (by simp [hL] <;> omega), hx2, hx3, fun _ => rfl, fun _ => rfl⟩
    · -- operation 3
      cases ho
      go_simp
      exact hK _ _ ⟨_, _, _, _, _, _, _, _, rfl, hB, hh0, hh1, hh2, fun _ => rfl, hh4, hh5, hh6, hh7, hh8, hx0, hx1, hx2, hx3, hx4, hx5⟩
    · -- operation 4
      cases ho
      have hT : Fl9 7 = false := Bool.eq_false_iff.2 (fun h => absurd (hx3 h) (by rw [hL]; simp))
      have hbn2 := bN (Fl9 2)
      have hbn4 := bN (Fl9 4)
      obtain rfl := hh3 (hdep ⟨3, .data⟩ (by simp) rfl)
      obtain ⟨q9, q90, q91, H9⟩ := (hx1 hT).at H.out
      go_simp
      refine (pick_at H9 (by omega) 12 (by omega)).mono ?_
      rintro e w9 ⟨z9, hb90, hb91, rfl, hs9⟩
      exact hK _ _ ⟨_, _, _, _, _, _, _, _, rfl, hB.trans ((UpW.grown hs9.grown).mono hB.size), hh0, hh1, hh2, hh3, fun _ => ⟨_, rfl⟩, hh5, hh6, (fun q0 => absurd (hx3 q0) (by rw [hL]; simp)), hh8, fun q0 => (hx0 q0).kept2 hs9.grown hgB h0g h3g, fun q0 => ((hx1 q0).then hs9 q90 q91).mono (by simp [hL] <;> omega), hx2, fun _ => rfl, fun _ => hdep ⟨2, .chain⟩ (by simp) rfl, hx5⟩
    · -- operation 5
      cases ho
      obtain ⟨z15, rfl⟩ := hh4 (hdep ⟨4, .data⟩ (by simp) rfl)
      go_simp
      exact hK _ _ ⟨_, _, _, _, _, _, _, _, rfl, hB, hh0, hh1, hh2, hh3, hh4, fun _ => ⟨_, rfl⟩, hh6, hh7, hh8, hx0, hx1, hx2, hx3, hx4, hx5⟩
    · -- operation 6
      cases ho
      obtain ⟨z13, rfl⟩ := hh2 (hdep ⟨2, .data⟩ (by simp) rfl)
      obtain ⟨z16, rfl⟩ := hh5 (hdep ⟨5, .data⟩ (by simp) rfl)
      go_simp
      exact hK _ _ ⟨_, _, _, _, _, _, _, _, rfl, hB, hh0, hh1, hh2, hh3, hh4, hh5, fun _ => ⟨_, rfl⟩, hh7, hh8, hx0, hx1, hx2, hx3, hx4, hx5⟩
    · -- operation 7
      cases ho
      have hp4 := hdep ⟨4, .chain⟩ (by simp) rfl
      have hp0 := hdep ⟨0, .data⟩ (by simp) rfl
      obtain rfl := hh0 hp0
      have hp2 := hx4 hp4
      have RS := (show BoxT _ b0 0 0 0 none 0 0 none 0 0 from (hx0 hL).res)
      have y0 := RS.c0
      have y1 := RS.c1
      have y2 := RS.c2
      have y3 := RS.c3
      have y4 := RS.c4
      have zz0 := RS.fz 0
      have zz1 := RS.fz 1
      have zz2 := RS.fz 2
      have zz3 := RS.fz 3
      have zz4 := RS.fz 4
      go_simp
      exact hK _ _ ⟨_, _, _, _, _, _, _, _, rfl, ((((hB.set _ _).set _ _).set _ _).set _ _).set _ _, hh0, hh1, hh2, hh3, hh4, hh5, hh6, fun _ => (hx0 hL).done2 (hbs.out _ (hx1 hL).grown) hb0w, hh8, (fun q0 => nomatch q0), (fun q0 => nomatch q0), fun _ => hp0, fun _ => hp4, hx4, fun _ => hp2⟩
    · -- operation 8
      cases ho
      obtain ⟨z17, rfl⟩ := hh6 (hdep ⟨6, .data⟩ (by simp) rfl)
      go_simp
      exact hK _ _ ⟨_, _, _, _, _, _, _, _, rfl, hB, hh0, hh1, hh2, hh3, hh4, hh5, hh6, hh7, fun _ => ⟨_, rfl⟩, hx0, hx1, hx2, hx3, hx4, hx5⟩
  intro Fl9 ac W hJ hall
  obtain ⟨x11, x12, x13, x14, x15, x16, x17, x3, rfl, hB, hh0, hh1, hh2, hh3, hh4, hh5, hh6, hh7, hh8, -, -, -, -, -, -⟩ := hJ
  obtain rfl := hh0 (hall 0 (by decide))
  obtain rfl := hh1 (hall 1 (by decide))
  obtain rfl := hh3 (hall 3 (by decide))
  obtain - := hh2 (hall 2 (by decide))
  obtain - := hh4 (hall 4 (by decide))
  obtain - := hh5 (hall 5 (by decide))
  obtain - := hh6 (hall 6 (by decide))
  obtain P7 := hh7 (hall 7 (by decide))
  obtain ⟨z3, rfl⟩ := hh8 (hall 8 (by decide))
  clear hall
  have R0 := P7.res
  go_wp2_with fail
  refine bodyPost_ret (results_row_tmp rfl _ _ b0 [_, _, _, _, _] _ _ rfl rfl (BoxT.rangeAt R0) Try.underlying27 rfl (by kernel_rfl)) rfl ?_
  exact ⟨a1, a2, a3, A1, A2, nZ, c1, nV, c2, Z, V, z3, rfl, hmz, hmv, own_capV P7.r, own_low P7.z (by omega), own_low P7.r (by omega), P7.low⟩
end Go.Proofs.Ytdjoiodkmanacaa
