/- Chapter 8, the program: the longest wait. -/
import Derived.Test.YtjlgabhkpoonkaaLkH
namespace Go.Proofs.Ytjlgabhkpoonkaa
open Go.RowKit Go.PlainAid Go.Sort
set_option linter.unusedVariables false
set_option linter.unusedSimpArgs false

/-- A lockage in a block. -/
def BoxL (W : World) (g : Nat) (v : Tlockage) : Prop := W.heap[g]? = some (.cells #[.int .i64 v.x0, .bool v.x1, .int .i64 v.x2, .int .i64 v.x3] 61 (0, 0))
section
variable {W : World} {g : Nat} {v : Tlockage}
theorem BoxL.c0 (h : BoxL W g v) : W.cell? ⟨g, 0, none⟩ = some (.int .i64 v.x0) := cell_of_row W g 0 _ _ _ h
theorem BoxL.c1 (h : BoxL W g v) : W.cell? ⟨g, 1, none⟩ = some (.bool v.x1) := cell_of_row W g 1 _ _ _ h
theorem BoxL.c2 (h : BoxL W g v) : W.cell? ⟨g, 2, none⟩ = some (.int .i64 v.x2) := cell_of_row W g 2 _ _ _ h
theorem BoxL.c3 (h : BoxL W g v) : W.cell? ⟨g, 3, none⟩ = some (.int .i64 v.x3) := cell_of_row W g 3 _ _ _ h
theorem BoxL.fz (h : BoxL W g v) (k : Nat) : W.frozen? ⟨g, k, none⟩ = false := frozen_of_row W g k _ _ h
theorem BoxL.lt (h : BoxL W g v) : g < W.heap.size := (Array.getElem?_eq_some_iff.1 h).1
theorem BoxL.below {w' : World} {B : Nat} (h : BoxL W g v) (hb : Below B W w') (hg : g < B) : BoxL w' g v := (hb.block g hg).trans h
theorem BoxL.all {w' : World} (h : BoxL W g v) (hb : Below W.heap.size W w') : BoxL w' g v := h.below hb h.lt
theorem BoxL.kept {w' : World} {row : Option Nat} (h : BoxL W g v) (hg : W.grownBy w' row) (hne : some g ≠ row) : BoxL w' g v := (hg.block g h.lt hne).trans h
theorem BoxL.new (W : World) (v : Tlockage) : BoxL (W.alloc (.cells #[.int .i64 v.x0, .bool v.x1, .int .i64 v.x2, .int .i64 v.x3] 61)) W.heap.size v := heap_alloc_new W _
end

section
variable {W : World} {g : Nat} {v : Tlockage}
theorem BoxL.rangeAt (h : BoxL W g v) : W.rangeAt g 0 [.int .i64 v.x0, .bool v.x1, .int .i64 v.x2, .int .i64 v.x3] := by
  intro j u hj
  match j, hj with
  | 0, hj => injection hj with hj; rw [← hj]; exact h.c0
  | 1, hj => injection hj with hj; rw [← hj]; exact h.c1
  | 2, hj => injection hj with hj; rw [← hj]; exact h.c2
  | 3, hj => injection hj with hj; rw [← hj]; exact h.c3
/-- All four cells written over. -/
abbrev sets4 (W : World) (g : Nat) (v : Tlockage) : World := (((W.setCell ⟨g, 0, none⟩ (.int .i64 v.x0)).setCell ⟨g, 1, none⟩ (.bool v.x1)).setCell ⟨g, 2, none⟩ (.int .i64 v.x2)).setCell ⟨g, 3, none⟩ (.int .i64 v.x3)
theorem BoxL.sets (h : BoxL W g v) (v' : Tlockage) : BoxL (sets4 W g v') g v' := by
  unfold BoxL sets4 at *
  simp [World.setCell, Array.getElem?_modify, h]
theorem sets4_below {w W : World} {B : Nat} (h : Below B w W) {g : Nat} (hg : B ≤ g) (v : Tlockage) : Below B w (sets4 W g v) := (((h.setCell (p := ⟨g, 0, none⟩) hg _).setCell (p := ⟨g, 1, none⟩) hg _).setCell (p := ⟨g, 2, none⟩) hg _).setCell (p := ⟨g, 3, none⟩) hg _
theorem grown_setL (w : World) (g i : Nat) (u : Value) : w.grownBy (w.setCell ⟨g, i, none⟩ u) (some g) :=
  ⟨rfl, rfl, rfl, by simp [World.setCell], fun k _ hk => Below.heap_setCell _ _ _ _ (fun e => hk (by rw [e]))⟩
theorem sets4_grown (w : World) (g : Nat) (v : Tlockage) {g' : Nat} {v' : Tlockage} (h : BoxL w g' v') (hne : g' ≠ g) : BoxL (sets4 w g v) g' v' :=
  (((h.kept (grown_setL _ _ _ _) (by simpa using hne)).kept (grown_setL _ _ _ _) (by simpa using hne)).kept (grown_setL _ _ _ _) (by simpa using hne)).kept (grown_setL _ _ _ _) (by simpa using hne)
end
/-- A struct in a block as an answer. -/
theorem results_rowL {P : Program} {fn : Func} {p : Tmp} {ty : TypeId} (h : fn.results = #[.cell p ty]) (tmps : Array Value) (w : World) (g : Nat) (cs : List Value) (d : TypeDesc)
    (hp : tmps.getD p undef = .pointer (some ⟨g, 0, none⟩)) (hc : w.rangeAt g 0 cs) (hu : P.underlying ty = some d) (hd : d.isRow = true) (hi : (P.info? ty).map (·.size) = some cs.length) :
    (results fn tmps).run P w = .ok (.agg cs.toArray) w := by
  have hp' : tmps[p]?.getD undef = .pointer (some ⟨g, 0, none⟩) := by simpa using hp
  simp [results, h, hp', asAddr, run_loadVar_mid w g 0 ty cs d hc hu hd hi]
def cmpW (a b : Tlockage) : Int := or2 (cmpI b.x3 a.x3) (cmpI a.x0 b.x0)
theorem cmpW_neg (a b : Tlockage) : cmpW a b < 0 ↔ MoreW a b := by
  unfold cmpW or2 cmpI MoreW
  repeat' split
  all_goals omega
theorem longL_step {L : List Tlockage} {k : Nat} {V M : Tlockage} (hV : L.getD (k + 1) nolockage = V) (hM : longL L k = M) : longL L (k + 1) = if MoreW V M then V else M := by
  rw [longL, hV, hM]
set_option maxRecDepth 100000 in
set_option maxHeartbeats 4000000 in
theorem cmpW_any (a b : Tlockage) (w : World) :
    Calls Try.prog 52 #[.agg #[.int .i64 a.x0, .bool a.x1, .int .i64 a.x2, .int .i64 a.x3], .agg #[.int .i64 b.x0, .bool b.x1, .int .i64 b.x2, .int .i64 b.x3]] w fun e w' =>
      e = .returned (.int .i64 (cmpW a b)) ∧ BelowD w.heap.size w w' := by
  unfold cmpW
  have CM := Lib.hid (fun x y W => (cmpInt_any x y W).mono (fun e w' (h : e = .returned (.int .i64 (cmpI x y)) ∧ W = w') => (show e = .returned (.int .i64 (cmpI x y)) ∧ BelowD W.heap.size W w' from ⟨h.1, h.2 ▸ BelowD.refl _ _⟩)))
  obtain ⟨i, u, m, q⟩ := a
  obtain ⟨i2, u2, m2, q2⟩ := b
  dsimp only
  have CX := Lib.hid (fun W => CM.out q2 q W)
  have CY := Lib.hid (fun W => CM.out i i2 W)
  clear CM
  generalize cmpI q2 q = X at CX ⊢
  generalize cmpI i i2 = Y at CY ⊢
  have CO := Lib.hid (fun W g (h : Has W W.heap.size (some ⟨g, 0, none⟩) ([X, Y].map (.int .i64))) => or2_any 2 X Y (Nat.le_refl W.heap.size) h)
  generalize or2 X Y = R at CO ⊢
  obtain ⟨g, hg⟩ : ∃ g, w.heap.size = g := ⟨_, rfl⟩
  obtain ⟨W1, hW1⟩ : ∃ W, (w.alloc (.cells #[.int .i64 i, .bool u, .int .i64 m, .int .i64 q] 61)).alloc (.cells #[.int .i64 i2, .bool u2, .int .i64 m2, .int .i64 q2] 61) = W := ⟨_, rfl⟩
  have hbW : BelowD w.heap.size w W1 := by rw [← hW1]; exact (BelowD.allocW w _).trans ((BelowD.allocW _ _).mono (by simp))
  have hsz : W1.heap.size = g + 1 + 1 := by rw [← hW1, ← hg]; simp
  have ca : BoxL W1 g ⟨i, u, m, q⟩ := by
    rw [← hW1, ← hg]
    exact (BoxL.new w ⟨i, u, m, q⟩).all (below1 _ _)
  have cb : BoxL W1 (g + 1) ⟨i2, u2, m2, q2⟩ := by
    rw [← hW1, ← hg]
    have := BoxL.new (w.alloc (.cells #[.int .i64 i, .bool u, .int .i64 m, .int .i64 q] 61)) ⟨i2, u2, m2, q2⟩
    rwa [World.size_alloc] at this
  have CA0 := Lib.hid (fun W (hq : Below W1.heap.size W1 W) => (ca.all hq).c0)
  have CA3 := Lib.hid (fun W (hq : Below W1.heap.size W1 W) => (ca.all hq).c3)
  have CB0 := Lib.hid (fun W (hq : Below W1.heap.size W1 W) => (cb.all hq).c0)
  have CB3 := Lib.hid (fun W (hq : Below W1.heap.size W1 W) => (cb.all hq).c3)
  have HB := Lib.hid hbW
  clear ca cb hbW
  go_enter Try.func52, Try.ntmps52
  go_wp2_with fail
  try rw [hW1]
  try rw [hg]
  clear hW1
  refine region_inv (by kernel_rfl) (by kernel_rfl) (fun Fl9 ac W => ∃ (x5 x6 x7 x8 x9 x10 x11 x12 x13 x14 x15 x16 x4 : Value), ac = { tmps := #[Value.agg #[Value.int IntKind.i64 i, Value.bool u, Value.int IntKind.i64 m, Value.int IntKind.i64 q], Value.agg #[Value.int IntKind.i64 i2, Value.bool u2, Value.int IntKind.i64 m2, Value.int IntKind.i64 q2], Value.pointer (some ⟨g, 0, none⟩), Value.pointer (some ⟨g + 1, 0, none⟩), x4, x5, x6, x7, x8, x9, x10, x11, x12, x13, x14, x15, x16], defers := [] } ∧ BelowD W1.heap.size W1 W ∧
        (Fl9 0 = true → x5 = .pointer (some ⟨g + 1, 3, none⟩)) ∧
        (Fl9 1 = true → x6 = .int .i64 q2) ∧
        (Fl9 2 = true → x7 = .pointer (some ⟨g, 3, none⟩)) ∧
        (Fl9 3 = true → x8 = .int .i64 q) ∧
        (Fl9 4 = true → x9 = .int .i64 X) ∧
        (Fl9 5 = true → x10 = .pointer (some ⟨g, 0, none⟩)) ∧
        (Fl9 6 = true → x11 = .int .i64 i) ∧
        (Fl9 7 = true → x12 = .pointer (some ⟨g + 1, 0, none⟩)) ∧
        (Fl9 8 = true → x13 = .int .i64 i2) ∧
        (Fl9 9 = true → x14 = .int .i64 Y) ∧
        (Fl9 10 = true → ∃ g9, x15 = .slice (some ⟨g9, 0, none⟩) 2 2 ∧ Has W W.heap.size (some ⟨g9, 0, none⟩) ([X, Y].map (.int .i64))) ∧
        (Fl9 11 = true → x16 = .int .i64 R) ∧
        (Fl9 12 = true → x4 = .int .i64 R)) ?_ ?_ ?_
  · exact ⟨_, _, _, _, _, _, _, _, _, _, _, _, _, rfl, ⟨(Drawn.one W1 1).below _, by simp⟩, (fun q0 => nomatch q0), (fun q0 => nomatch q0), (fun q0 => nomatch q0), (fun q0 => nomatch q0), (fun q0 => nomatch q0), (fun q0 => nomatch q0), (fun q0 => nomatch q0), (fun q0 => nomatch q0), (fun q0 => nomatch q0), (fun q0 => nomatch q0), (fun q0 => nomatch q0), (fun q0 => nomatch q0), (fun q0 => nomatch q0)⟩
  · intro Fl9 ac W i9 o9 hJ ho hL hdep K9 hK
    obtain ⟨x5, x6, x7, x8, x9, x10, x11, x12, x13, x14, x15, x16, x4, rfl, hB, hh0, hh1, hh2, hh3, hh4, hh5, hh6, hh7, hh8, hh9, hh10, hh11, hh12⟩ := hJ
    have hi9 : i9 < 13 := by simpa using (Array.getElem?_eq_some_iff.1 ho).1
    have A0 := CA0.out W hB.b
    have A3 := CA3.out W hB.b
    have B0 := CB0.out W hB.b
    have B3 := CB3.out W hB.b
    obtain rfl | rfl | rfl | rfl | rfl | rfl | rfl | rfl | rfl | rfl | rfl | rfl | rfl : i9 = 0 ∨ i9 = 1 ∨ i9 = 2 ∨ i9 = 3 ∨ i9 = 4 ∨ i9 = 5 ∨ i9 = 6 ∨ i9 = 7 ∨ i9 = 8 ∨ i9 = 9 ∨ i9 = 10 ∨ i9 = 11 ∨ i9 = 12 := by omega
    · -- operation 0
      cases ho
      go_simp
      exact hK _ _ ⟨_, _, _, _, _, _, _, _, _, _, _, _, _, rfl, hB, fun _ => rfl, hh1, hh2, hh3, hh4, hh5, hh6, hh7, hh8, hh9, hh10, hh11, hh12⟩
    · -- operation 1
      cases ho
      obtain rfl := hh0 (hdep ⟨0, .data⟩ (by simp) rfl)
      go_simp
      exact hK _ _ ⟨_, _, _, _, _, _, _, _, _, _, _, _, _, rfl, hB, hh0, fun _ => rfl, hh2, hh3, hh4, hh5, hh6, hh7, hh8, hh9, hh10, hh11, hh12⟩
    · -- operation 2
      cases ho
      go_simp
      exact hK _ _ ⟨_, _, _, _, _, _, _, _, _, _, _, _, _, rfl, hB, hh0, hh1, fun _ => rfl, hh3, hh4, hh5, hh6, hh7, hh8, hh9, hh10, hh11, hh12⟩
    · -- operation 3
      cases ho
      obtain rfl := hh2 (hdep ⟨2, .data⟩ (by simp) rfl)
      go_simp
      exact hK _ _ ⟨_, _, _, _, _, _, _, _, _, _, _, _, _, rfl, hB, hh0, hh1, hh2, fun _ => rfl, hh4, hh5, hh6, hh7, hh8, hh9, hh10, hh11, hh12⟩
    · -- operation 4
      cases ho
      obtain rfl := hh1 (hdep ⟨1, .data⟩ (by simp) rfl)
      obtain rfl := hh3 (hdep ⟨3, .data⟩ (by simp) rfl)
      go_simp
      refine (CX.out W).mono ?_
      rintro e w9 ⟨rfl, hb9⟩
      exact hK _ _ ⟨_, _, _, _, _, _, _, _, _, _, _, _, _, rfl, hB.trans (hb9.mono hB.size), hh0, hh1, hh2, hh3, fun _ => rfl, hh5, hh6, hh7, hh8, hh9, fun q0 => (fun ⟨g9, e, h⟩ => ⟨g9, e, (h.below hb9.b).more hb9.size⟩) (hh10 q0), hh11, hh12⟩
    · -- operation 5
      cases ho
      go_simp
      exact hK _ _ ⟨_, _, _, _, _, _, _, _, _, _, _, _, _, rfl, hB, hh0, hh1, hh2, hh3, hh4, fun _ => rfl, hh6, hh7, hh8, hh9, hh10, hh11, hh12⟩
    · -- operation 6
      cases ho
      obtain rfl := hh5 (hdep ⟨5, .data⟩ (by simp) rfl)
      go_simp
      exact hK _ _ ⟨_, _, _, _, _, _, _, _, _, _, _, _, _, rfl, hB, hh0, hh1, hh2, hh3, hh4, hh5, fun _ => rfl, hh7, hh8, hh9, hh10, hh11, hh12⟩
    · -- operation 7
      cases ho
      go_simp
      exact hK _ _ ⟨_, _, _, _, _, _, _, _, _, _, _, _, _, rfl, hB, hh0, hh1, hh2, hh3, hh4, hh5, hh6, fun _ => rfl, hh8, hh9, hh10, hh11, hh12⟩
    · -- operation 8
      cases ho
      obtain rfl := hh7 (hdep ⟨7, .data⟩ (by simp) rfl)
      go_simp
      exact hK _ _ ⟨_, _, _, _, _, _, _, _, _, _, _, _, _, rfl, hB, hh0, hh1, hh2, hh3, hh4, hh5, hh6, hh7, fun _ => rfl, hh9, hh10, hh11, hh12⟩
    · -- operation 9
      cases ho
      obtain rfl := hh6 (hdep ⟨6, .data⟩ (by simp) rfl)
      obtain rfl := hh8 (hdep ⟨8, .data⟩ (by simp) rfl)
      go_simp
      refine (CY.out W).mono ?_
      rintro e w9 ⟨rfl, hb9⟩
      exact hK _ _ ⟨_, _, _, _, _, _, _, _, _, _, _, _, _, rfl, hB.trans (hb9.mono hB.size), hh0, hh1, hh2, hh3, hh4, hh5, hh6, hh7, hh8, fun _ => rfl, fun q0 => (fun ⟨g9, e, h⟩ => ⟨g9, e, (h.below hb9.b).more hb9.size⟩) (hh10 q0), hh11, hh12⟩
    · -- operation 10
      cases ho
      have hd4 := hdep ⟨4, .data⟩ (by simp) rfl
      obtain rfl := hh4 hd4
      have hd9 := hdep ⟨9, .data⟩ (by simp) rfl
      obtain rfl := hh9 hd9
      go_simp
      exact hK _ _ ⟨_, _, _, _, _, _, _, _, _, _, _, _, _, rfl, hB.trans ((BelowD.allocW W _).mono hB.size), hh0, hh1, hh2, hh3, hh4, hh5, hh6, hh7, hh8, hh9, fun _ => ⟨_, rfl, by simpa using has_new2 W _ _ _⟩, hh11, hh12⟩
    · -- operation 11
      cases ho
      have hd10 := hdep ⟨10, .data⟩ (by simp) rfl
      obtain ⟨g9, rfl, hg9⟩ := hh10 hd10
      go_simp
      refine (CO.out W _ hg9).mono ?_
      rintro e w9 ⟨rfl, hb9⟩
      exact hK _ _ ⟨_, _, _, _, _, _, _, _, _, _, _, _, _, rfl, hB.trans (hb9.mono hB.size), hh0, hh1, hh2, hh3, hh4, hh5, hh6, hh7, hh8, hh9, fun q0 => (fun ⟨g9, e, h⟩ => ⟨g9, e, (h.below hb9.b).more hb9.size⟩) (hh10 q0), fun _ => rfl, hh12⟩
    · -- operation 12
      cases ho
      have hd11 := hdep ⟨11, .data⟩ (by simp) rfl
      obtain rfl := hh11 hd11
      go_simp
      exact hK _ _ ⟨_, _, _, _, _, _, _, _, _, _, _, _, _, rfl, hB, hh0, hh1, hh2, hh3, hh4, hh5, hh6, hh7, hh8, hh9, hh10, hh11, fun _ => rfl⟩
  intro Fl9 ac W hJ hall
  obtain ⟨x5, x6, x7, x8, x9, x10, x11, x12, x13, x14, x15, x16, x4, rfl, hB, hh0, hh1, hh2, hh3, hh4, hh5, hh6, hh7, hh8, hh9, hh10, hh11, hh12⟩ := hJ
  obtain rfl := hh0 (hall 0 (by decide))
  obtain rfl := hh1 (hall 1 (by decide))
  obtain rfl := hh2 (hall 2 (by decide))
  obtain rfl := hh3 (hall 3 (by decide))
  obtain rfl := hh5 (hall 5 (by decide))
  obtain rfl := hh6 (hall 6 (by decide))
  obtain rfl := hh7 (hall 7 (by decide))
  obtain rfl := hh8 (hall 8 (by decide))
  obtain rfl := hh12 (hall 12 (by decide))
  obtain rfl := hh4 (hall 4 (by decide))
  obtain rfl := hh9 (hall 9 (by decide))
  obtain ⟨gf, rfl, -⟩ := hh10 (hall 10 (by decide))
  obtain rfl := hh11 (hall 11 (by decide))
  clear hall
  go_wp2_with fail
  go_ret
  exact ⟨rfl, by first | exact HB.out.trans (hB.mono HB.out.size) | (rw [← hg]; exact HB.out.trans (hB.mono HB.out.size))⟩
set_option maxRecDepth 100000 in
set_option maxHeartbeats 2000000 in
theorem minL_any {w : World} {B : Nat} {A : Option Addr} {n : Nat} {vs : List Tlockage} (c : Nat) (h : Islockages w B A n vs) (h0 : 0 < n) (hm : n ≤ 1048576) (R : Tlockage) (hR : longL vs (n - 1) = R) :
    Calls Try.prog 51 #[.slice A n c, .func (.func 52) #[] #[]] w fun e w' => e = .returned (.agg #[.int .i64 R.x0, .bool R.x1, .int .i64 R.x2, .int .i64 R.x3]) ∧ Below w.heap.size w w' := by
  have HI := Lib.hid h
  have HR := Lib.hid hR
  have CC := Lib.hid (fun (a b : Tlockage) (W : World) => (cmpW_any a b W).mono (fun e w' h => (⟨h.1, h.2.b⟩ : e = .returned (.int .i64 (cmpW a b)) ∧ Below W.heap.size W w')))
  obtain ⟨a1, rfl, hab, HV⟩ := h.has.lockage (k := 0) (by rw [h.len]; exact h0)
  have HM0 : Hid (longL vs 0 = vs.getD 0 nolockage) := Lib.hid rfl
  obtain ⟨V, hV⟩ : ∃ V, vs.getD 0 nolockage = V := ⟨_, rfl⟩
  rw [hV] at HV HM0
  obtain ⟨i0, l0, q0, z0⟩ := V
  obtain ⟨e0, e1, e2, e3⟩ := HV
  have hz : a1.add (0 * 4) = a1 := rfl
  rw [hz] at e0 e1 e2 e3
  dsimp only at e0 e1 e2 e3
  have hn1 : ¬ ((n : Int) < 1) := by omega
  have hn0 : (0 : Int) < (n : Int) := by omega
  obtain ⟨g4, hg4⟩ : ∃ g, w.heap.size = g := ⟨_, rfl⟩
  obtain ⟨W1, hW1⟩ : ∃ W, w.alloc (.cells #[.int .i64 0, .bool false, .int .i64 0, .int .i64 0] 61) = W := ⟨_, rfl⟩
  have hW1s : W1.heap.size = g4 + 1 := by rw [← hW1, ← hg4]; simp
  obtain ⟨W2, hW2⟩ : ∃ W, W1.alloc (.cells #[.int .i64 i0, .bool l0, .int .i64 q0, .int .i64 z0] 61) = W := ⟨_, rfl⟩
  have P4 : Hid (BoxL W2 g4 ⟨0, false, 0, 0⟩) := Lib.hid (by
    rw [← hW2, ← hW1, ← hg4]
    exact (BoxL.new w ⟨0, false, 0, 0⟩).all (below1 _ _))
  have P5 : Hid (BoxL W2 (g4 + 1) ⟨i0, l0, q0, z0⟩) := Lib.hid (by
    rw [← hW2, ← hW1s]
    exact BoxL.new W1 ⟨i0, l0, q0, z0⟩)
  have HB2 : Hid (Below w.heap.size w W2) := Lib.hid (by rw [← hW2, ← hW1]; exact below2 _ _ _)
  have f0 : W1.cell? a1 = some (.int .i64 i0) := by rw [← hW1]; exact ((below1 w _).cell (World.block_lt_of_cell? _ _ e0)).trans e0
  have f1 : W1.cell? ⟨a1.block, a1.off + 1, none⟩ = some (.bool l0) := by rw [← hW1]; exact ((below1 w _).cell (World.block_lt_of_cell? _ _ e1)).trans e1
  have f2 : W1.cell? ⟨a1.block, a1.off + 2, none⟩ = some (.int .i64 q0) := by rw [← hW1]; exact ((below1 w _).cell (World.block_lt_of_cell? _ _ e2)).trans e2
  have f3 : W1.cell? ⟨a1.block, a1.off + 3, none⟩ = some (.int .i64 z0) := by rw [← hW1]; exact ((below1 w _).cell (World.block_lt_of_cell? _ _ e3)).trans e3
  clear h hR hV e0 e1 e2 e3 hz
  go_enter Try.func51, Try.ntmps51
  go_wp2_with fail
  try rw [hW1]
  try rw [hW2]
  try rw [hg4]
  clear hW1 hW2 f0 f1 f2 f3
  go_loopw [6] (fun i wr => ∃ (k : Nat) (M : Tlockage), k + 1 ≤ n ∧ i = .int .i64 (((k + 1 : Nat) : Int)) ∧ Hid (longL vs k = M) ∧ Hid (BoxL wr (g4 + 1) M) ∧ Hid (BoxL wr g4 ⟨0, false, 0, 0⟩) ∧ Below w.heap.size w wr) (fun i _ => n - (intOf i).toNat)
  case atStart => exact ⟨0, ⟨i0, l0, q0, z0⟩, by omega, rfl, HM0, P5, P4, HB2.out⟩
  case round =>
    clear P4 P5 HB2
    obtain ⟨k, M, hk, rfl, hM, P5, P4, hb⟩ := hrel
    have HB := Lib.hid hb
    obtain ⟨p, hp⟩ : ∃ p, k + 1 = p := ⟨_, rfl⟩
    rw [hp] at hk ⊢
    by_cases hlt : p < n
    · have hkl : p < vs.length := by rw [HI.out.len]; exact hlt
      have HVW := Lib.hid (fun W (hb : Below w.heap.size w W) => (HI.out.below hb HI.out.low).has.lockage hkl)
      have HST := Lib.hid (fun V (hV : vs.getD p nolockage = V) => longL_step (L := vs) (k := k) (V := V) (M := M) (by rw [hp]; exact hV) hM.out)
      rw [hp] at HST
      obtain ⟨V, hV⟩ : ∃ V, vs.getD p nolockage = V := ⟨_, rfl⟩
      rw [hV] at HVW
      have HS := Lib.hid (HST.out V hV)
      clear hV HST
      have C1 := Lib.hid (fun W => CC.out V M W)
      have HMD := Lib.hid (cmpW_neg V M)
      generalize cmpW V M = o at C1 HMD
      obtain ⟨i, l, q, z9⟩ := V
      obtain ⟨m0, m1, m2, m3⟩ := M
      dsimp only at C1 P5
      obtain ⟨a2, ea2, -, HV⟩ := HVW.out _ hb
      injection ea2 with ea2
      subst ea2
      obtain ⟨e0, e1, e2, e3⟩ := HV
      dsimp only at e0 e1 e2 e3
      have E0 := fun (d : Nat) (os : Array Obj) => cell_regrown e0 d os
      have E1 := fun (d : Nat) (os : Array Obj) => cell_regrown e1 d os
      have E2 := fun (d : Nat) (os : Array Obj) => cell_regrown e2 d os
      have E3 := fun (d : Nat) (os : Array Obj) => cell_regrown e3 d os
      have X0 := fun (d : Nat) (os : Array Obj) => cell_regrown P5.out.c0 d os
      have X1 := fun (d : Nat) (os : Array Obj) => cell_regrown P5.out.c1 d os
      have X2 := fun (d : Nat) (os : Array Obj) => cell_regrown P5.out.c2 d os
      have X3 := fun (d : Nat) (os : Array Obj) => cell_regrown P5.out.c3 d os
      dsimp only at X0 X1 X2 X3
      have c1 := fun (dr : Nat) (os : Array Obj) => Calls.regrown_of (w := wr) (d := dr) (os := os) (C1.out _)
      have hp0 : (0 : Int) ≤ (p : Int) := by omega
      have hp1 : (p : Int) < (n : Int) := by omega
      have hg5 := P5.out.lt
      clear e0 e1 e2 e3 hb C1 HI
      by_cases hmd : o < 0
      · have HS2 : Hid (longL vs p = ⟨i, l, q, z9⟩) := Lib.hid (by rw [HS.out, if_pos (HMD.out.1 hmd)])
        clear HS HMD
        go_wp2_with fail
        refine wp_region_quiet_below (by kernel_rfl) (by kernel_rfl) ?_
        repeat (go_big_quiet_step (first | (go_at_call 52; exact c1 _ _)))
        refine wpQuiet_nil ?_
        intro _ hw'
        obtain ⟨⟨dq, osq⟩, hw''⟩ := hw'
        subst hw''
        have HBX := Lib.hid (HB.out.trans ((below_regrown wr dq osq).mono HB.out.size))
        have P5x := Lib.hid (P5.out.all (below_regrown wr dq osq))
        have P4x := Lib.hid (P4.out.all (below_regrown wr dq osq))
        obtain ⟨W3, hW3⟩ : ∃ W, grow (redrawn wr dq) osq = W := ⟨_, rfl⟩
        rw [hW3] at HBX P5x P4x
        try simp only [hW3]
        obtain ⟨a2, ea2, -, HV⟩ := HVW.out _ HBX.out
        injection ea2 with ea2
        subst ea2
        obtain ⟨e0, e1, e2, e3⟩ := HV
        dsimp only at e0 e1 e2 e3
        have f0 := P5x.out.fz 0
        have f1 := P5x.out.fz 1
        have f2 := P5x.out.fz 2
        have f3 := P5x.out.fz 3
        have y0 := P5x.out.c0
        have y1 := P5x.out.c1
        have y2 := P5x.out.c2
        have y3 := P5x.out.c3
        dsimp only at y0 y1 y2 y3
        clear E0 E1 E2 E3 X0 X1 X2 X3 c1 hW3 P5 P4 HB HVW
        go_wp2_with fail
        go_roundw
        case rel => exact ⟨p, ⟨i, l, q, z9⟩, by omega, by go_num, HS2, Lib.hid (P5x.out.sets ⟨i, l, q, z9⟩), Lib.hid (sets4_grown W3 (g4 + 1) ⟨i, l, q, z9⟩ P4x.out (by omega)), sets4_below (g := g4 + 1) HBX.out (by omega) ⟨i, l, q, z9⟩⟩
        case measure => simp [intOf]; omega
      · have HS2 : Hid (longL vs p = ⟨m0, m1, m2, m3⟩) := Lib.hid (by rw [HS.out, if_neg (fun h => hmd (HMD.out.2 h))])
        clear HS HMD
        go_wp2_with fail
        refine wp_region_quiet_below (by kernel_rfl) (by kernel_rfl) ?_
        repeat (go_big_quiet_step (first | (go_at_call 52; exact c1 _ _)))
        refine wpQuiet_nil ?_
        intro _ hw'
        obtain ⟨⟨dq, osq⟩, hw''⟩ := hw'
        subst hw''
        have HBX := Lib.hid (HB.out.trans ((below_regrown wr dq osq).mono HB.out.size))
        have P5x := Lib.hid (P5.out.all (below_regrown wr dq osq))
        have P4x := Lib.hid (P4.out.all (below_regrown wr dq osq))
        obtain ⟨W3, hW3⟩ : ∃ W, grow (redrawn wr dq) osq = W := ⟨_, rfl⟩
        rw [hW3] at HBX P5x P4x
        try simp only [hW3]
        clear E0 E1 E2 E3 X0 X1 X2 X3 c1 hW3 P5 P4 HB HVW
        go_wp2_with fail
        go_roundw
        case rel => exact ⟨p, ⟨m0, m1, m2, m3⟩, by omega, by go_num, HS2, P5x, P4x, HBX.out⟩
        case measure => simp [intOf]; omega
    · obtain rfl : p = n := by omega
      have hnn : p - 1 = k := by omega
      have hRR := HR.out
      rw [hnn, hM.out] at hRR
      subst hRR
      obtain ⟨m0, m1, m2, m3⟩ := M
      have e0 := P5.out.c0
      have e1 := P5.out.c1
      have e2 := P5.out.c2
      have e3 := P5.out.c3
      have f3 := P4.out.fz 3
      have y3 := P4.out.c3
      dsimp only at e0 e1 e2 e3
      have f0 := P4.out.fz 0
      have f1 := P4.out.fz 1
      have f2 := P4.out.fz 2
      have y0 := P4.out.c0
      have y1 := P4.out.c1
      have y2 := P4.out.c2
      clear hb HI CC
      go_wp2_with fail
      refine bodyPost_ret (results_rowL rfl _ _ g4 _ _ rfl (P4.out.sets ⟨m0, m1, m2, m3⟩).rangeAt Try.underlying61 rfl (by kernel_rfl)) rfl ?_
      exact ⟨rfl, by first | exact sets4_below HB.out (by omega) ⟨m0, m1, m2, m3⟩ | exact sets4_below (show Below g4 w wr from hg4 ▸ HB.out) (Nat.le_refl _) ⟨m0, m1, m2, m3⟩⟩
set_option maxRecDepth 100000 in
set_option maxHeartbeats 4000000 in
theorem longI_any {w : World} {B B2 : Nat} {A A2 : Option Addr} {n n2 : Nat} {vs : List TArrival} {os : List Int} (c c2 : Nat) (h : IsArrivals w B A n vs) (hm : n ≤ 1048576) (h2 : IsIs w B2 A2 n2 os) (hm2 : n2 ≤ 1048576) (hnc : n2 ≤ c2) (hi : Bool) (m : Int) (z9 q9 : Int) (x9 : Bool) (hA : LongA vs hi m os z9 q9 x9) :
    Calls Try.prog 20 #[.slice A n c, .bool hi, .int .i64 m, .slice A2 n2 c2] w fun e w' => e = .returned (.tuple #[.int .i64 z9, .int .i64 q9, .bool x9]) ∧ Below w.heap.size w w' := by
  obtain ⟨L, y, hL, hyes, hno⟩ := hA
  have CT := Lib.hid (lockagesOf_any c c2 h hm h2 hm2 hnc hi m L y hL)
  have hl6 := lkA_len hL
  have HYES := Lib.hid hyes
  have HNO := Lib.hid hno
  obtain ⟨l, hl9⟩ : ∃ l, L.length = l := ⟨_, rfl⟩
  rw [hl9] at CT hl6
  have HLL := Lib.hid hl9
  clear h h2 hL hl9 hyes hno
  go_enter Try.func20, Try.ntmps20
  go_wp2_with fail
  refine CT.out.mono ?_
  rintro e w1 ⟨v, rfl, hO⟩
  obtain ⟨g9, c9, rfl, hL9⟩ := hO.is
  have HL9 := Lib.hid hL9
  have HB1 := Lib.hid hO.low
  clear hO CT hL9
  cases y with
  | false =>
    obtain ⟨rfl, rfl, rfl⟩ := HNO.out (fun g => nomatch g.1)
    clear HNO HYES
    go_wp2_with fail
    go_ret3
    exact ⟨rfl, HB1.out⟩
  | true =>
  rcases Nat.eq_zero_or_pos l with h0 | h0
  · obtain ⟨rfl, rfl, rfl⟩ := HNO.out (fun g => g.2 (List.eq_nil_of_length_eq_zero (by rw [HLL.out]; exact h0)))
    subst h0
    clear HNO HYES
    go_wp2_with fail
    go_ret3
    exact ⟨rfl, HB1.out⟩
  · obtain ⟨hz, hq, rfl⟩ := HYES.out ⟨rfl, fun e => by have := HLL.out; rw [e] at this; simp at this; omega⟩
    rw [HLL.out] at hz hq
    have CM := Lib.hid (minL_any c9 HL9.out h0 (by omega) _ rfl)
    generalize longL L (l - 1) = R at CM hz hq
    obtain ⟨r0, r1, r2, r3⟩ := R
    dsimp only at hz hq CM
    subst hz hq
    have hn1 : ((l : Int) == 0) = false := by simp; omega
    clear HYES HNO h0 HLL
    go_wp2_with fail
    refine CM.out.mono ?_
    rintro e w2 ⟨rfl, hb⟩
    have HB2 := Lib.hid (HB1.out.trans (hb.mono HB1.out.size))
    clear hb CM HB1
    go_wp2_with fail
    obtain ⟨W5, hW5⟩ : ∃ W, World.alloc w2 (.cells #[.int .i64 z9, .bool r1, .int .i64 r2, .int .i64 q9] 61) = W := ⟨_, rfl⟩
    obtain ⟨xb, hxb⟩ : ∃ x, (w2 : World).heap.size = x := ⟨_, rfl⟩
    have cx0 : W5.cell? ⟨xb, 0, none⟩ = some (.int .i64 z9) := by rw [← hW5, ← hxb, sNew]; rfl
    have cx3 : W5.cell? ⟨xb, 3, none⟩ = some (.int .i64 q9) := by rw [← hW5, ← hxb, sNew]; rfl
    have hb5 : Below w2.heap.size w2 W5 := by rw [← hW5]; exact below1 _ _
    have HB5 := Lib.hid (HB2.out.trans (hb5.mono HB2.out.size))
    (try rw [hW5]); (try rw [hxb])
    clear hW5 hxb hb5
    have E0 := fun (d : Nat) (os : Array Obj) => cell_regrown cx0 d os
    have E3 := fun (d : Nat) (os : Array Obj) => cell_regrown cx3 d os
    clear cx0 cx3
    refine wp_region_quiet_below (by kernel_rfl) (by kernel_rfl) ?_
    repeat (go_big_quiet_step (first | fail))
    refine wpQuiet_nil ?_
    intro _ hw'
    obtain ⟨⟨dq, osq⟩, hw''⟩ := hw'
    subst hw''
    have HB6 := Lib.hid (HB5.out.trans ((below_regrown W5 dq osq).mono HB5.out.size))
    clear E0 E3
    go_wp2_with fail
    go_ret3
    exact ⟨rfl, HB6.out⟩
end Go.Proofs.Ytjlgabhkpoonkaa
