/- Chapter 8: an arrival in a block; the comparison of two arrivals. -/
import Derived.Test.YtdleidlmjliapaaLkA
import Derived.Test.YtdleidlmjliapaaInv
import Derived.Test.YtdleidlmjliapaaSt0
namespace Go.Proofs.Ytdleidlmjliapaa
open Go.RowKit Go.PlainAid Go.Sort
set_option linter.unusedVariables false
set_option linter.unusedSimpArgs false

/-- An arrival in a block. -/
def BoxA (W : World) (g : Nat) (v : TArrival) : Prop := W.heap[g]? = some (.cells #[.int .i64 v.x0, .bool v.x1, .int .i64 v.x2, .int .i64 v.x3] 58 (0, 0))
section
variable {W : World} {g : Nat} {v : TArrival}
theorem BoxA.c0 (h : BoxA W g v) : W.cell? ⟨g, 0, none⟩ = some (.int .i64 v.x0) := cell_of_row W g 0 _ _ _ h
theorem BoxA.c1 (h : BoxA W g v) : W.cell? ⟨g, 1, none⟩ = some (.bool v.x1) := cell_of_row W g 1 _ _ _ h
theorem BoxA.c2 (h : BoxA W g v) : W.cell? ⟨g, 2, none⟩ = some (.int .i64 v.x2) := cell_of_row W g 2 _ _ _ h
theorem BoxA.c3 (h : BoxA W g v) : W.cell? ⟨g, 3, none⟩ = some (.int .i64 v.x3) := cell_of_row W g 3 _ _ _ h
theorem BoxA.fz (h : BoxA W g v) (k : Nat) : W.frozen? ⟨g, k, none⟩ = false := frozen_of_row W g k _ _ h
theorem BoxA.lt (h : BoxA W g v) : g < W.heap.size := (Array.getElem?_eq_some_iff.1 h).1
theorem BoxA.below {w' : World} {B : Nat} (h : BoxA W g v) (hb : Below B W w') (hg : g < B) : BoxA w' g v := (hb.block g hg).trans h
theorem BoxA.all {w' : World} (h : BoxA W g v) (hb : Below W.heap.size W w') : BoxA w' g v := h.below hb h.lt
theorem BoxA.kept {w' : World} {row : Option Nat} (h : BoxA W g v) (hg : W.grownBy w' row) (hne : some g ≠ row) : BoxA w' g v := (hg.block g h.lt hne).trans h
theorem BoxA.new (W : World) (v : TArrival) : BoxA (W.alloc (.cells #[.int .i64 v.x0, .bool v.x1, .int .i64 v.x2, .int .i64 v.x3] 58)) W.heap.size v := heap_alloc_new W _
end

def cmpI (x y : Int) : Int := if x < y then -1 else if y < x then 1 else 0
theorem cmpI_zero (x y : Int) : cmpI x y = 0 ↔ x = y := by
  unfold cmpI
  split
  · omega
  · split <;> omega
def or2 (x y : Int) : Int := if x = 0 then y else x
/-- How two arrivals are compared. -/
def cmpA (a b : TArrival) : Int := or2 (cmpI a.x2 b.x2) (cmpI a.x0 b.x0)
theorem cmpA_neg (a b : TArrival) : cmpA a b < 0 ↔ bef a b := by
  unfold cmpA or2 cmpI bef
  repeat' split
  all_goals omega
theorem isNaN_any (x : Int) (w : World) : Calls Try.prog 100 #[.int .i64 x] w fun e w' => e = .returned (.bool false) ∧ w = w' := by
  have h : (x != x) = false := by simp
  go_enter Try.func100, Try.ntmps100
  go_wp2
  go_ret
  exact ⟨rfl, rfl⟩
set_option maxHeartbeats 400000 in
theorem cmpInt_any (x y : Int) (w : World) : Calls Try.prog 89 #[.int .i64 x, .int .i64 y] w fun e w' => e = .returned (.int .i64 (cmpI x y)) ∧ w = w' := by
  have C := Lib.hid (fun z W => isNaN_any z W)
  unfold cmpI
  by_cases h1 : x < y
  · rw [if_pos h1]
    go_enter Try.func89, Try.ntmps89
    go_wp2_with fail
    refine (C.out _ _).mono ?_
    rintro e w1 ⟨rfl, rfl⟩
    go_wp2_with fail
    refine (C.out _ _).mono ?_
    rintro e w1 ⟨rfl, rfl⟩
    go_wp2_with fail
    go_ret
    exact ⟨rfl, rfl⟩
  · rw [if_neg h1]
    by_cases h2 : y < x
    · rw [if_pos h2]
      go_enter Try.func89, Try.ntmps89
      go_wp2_with fail
      refine (C.out _ _).mono ?_
      rintro e w1 ⟨rfl, rfl⟩
      go_wp2_with fail
      refine (C.out _ _).mono ?_
      rintro e w1 ⟨rfl, rfl⟩
      go_wp2_with fail
      go_ret
      exact ⟨rfl, rfl⟩
    · rw [if_neg h2]
      go_enter Try.func89, Try.ntmps89
      go_wp2_with fail
      refine (C.out _ _).mono ?_
      rintro e w1 ⟨rfl, rfl⟩
      go_wp2_with fail
      refine (C.out _ _).mono ?_
      rintro e w1 ⟨rfl, rfl⟩
      go_wp2_with fail
      go_ret
      exact ⟨rfl, rfl⟩

/-- Below B nothing turns, and the draws only grow. -/
structure BelowD (B : Nat) (w W : World) : Prop where
  b : Below B w W
  d : w.drawn ≤ W.drawn
theorem BelowD.refl (B : Nat) (w : World) : BelowD B w w := ⟨Below.refl _ _, Nat.le_refl _⟩
theorem BelowD.trans {B : Nat} {w W X : World} (h : BelowD B w W) (k : BelowD B W X) : BelowD B w X := ⟨h.b.trans k.b, Nat.le_trans h.d k.d⟩
theorem BelowD.mono {B C : Nat} {w W : World} (h : BelowD B w W) (hc : C ≤ B) : BelowD C w W := ⟨h.b.mono hc, h.d⟩
theorem BelowD.size {B : Nat} {w W : World} (h : BelowD B w W) : w.heap.size ≤ W.heap.size := h.b.size
theorem BelowD.allocW (w : World) (o : Obj) : BelowD w.heap.size w (w.alloc o) := ⟨(Below.refl _ _).alloc (Nat.le_refl _) o, Nat.le_refl _⟩
theorem or2_at {x y : Int} {k : Nat} (h2 : k < 2) (h1 : 1 ≤ k → x = 0) (hz : [x, y].getD k 0 ≠ 0) : or2 x y = [x, y].getD k 0 := by
  match k, h2 with
  | 0, _ => rw [or2, if_neg (by simpa using hz)]; rfl
  | 1, _ => rw [or2, if_pos (h1 (Nat.le_refl _))]; rfl
theorem Has.numAt {w : World} {B : Nat} {A : Option Addr} {zs : List Int} (h : Has w B A (zs.map (.int .i64))) {k : Nat} (hk : k < zs.length) :
    ∃ a, A = some a ∧ a.block < B ∧ w.cell? (a.add k) = some (.int .i64 (zs.getD k 0)) := by
  obtain ⟨a, e, hb, hc⟩ := h.intAt hk
  exact ⟨a, e, hb, by rw [hc]; simp [List.getD_eq_getElem?_getD, hk]⟩
set_option maxRecDepth 100000 in
set_option maxHeartbeats 1000000 in
theorem or2_any {w : World} {B : Nat} {A : Option Addr} (c : Nat) (x y : Int) (hB : B ≤ w.heap.size) (h : Has w B A ([x, y].map (.int .i64))) :
    Calls Try.prog 88 #[.slice A 2 c] w fun e w' => e = .returned (.int .i64 (or2 x y)) ∧ BelowD w.heap.size w w' := by
  have HA := Lib.hid h
  have HAT := Lib.hid (fun k => or2_at (x := x) (y := y) (k := k))
  obtain ⟨R, hR⟩ : ∃ R, or2 x y = R := ⟨_, rfl⟩
  have HR := Lib.hid hR
  rw [hR] at HAT ⊢
  clear h hR
  go_enter Try.func88, Try.ntmps88
  go_wp2_with fail
  go_loopw [8] (fun i wr => ∃ k : Nat, k ≤ 2 ∧ i = .int .i64 k ∧ Hid ((1 ≤ k → x = 0) ∧ (2 ≤ k → y = 0)) ∧ BelowD w.heap.size w wr) (fun i _ => 2 - (intOf i).toNat)
  case atStart => exact ⟨0, Nat.zero_le _, rfl, Lib.hid ⟨fun h => absurd h (by omega), fun h => absurd h (by omega)⟩, BelowD.refl _ _⟩
  case round =>
    obtain ⟨k, hk, rfl, hz, hq⟩ := hrel
    have hk0 : (0 : Int) ≤ (k : Int) := by omega
    by_cases hlt : (k : Int) < 2
    · have hk2 : k < 2 := by omega
      obtain ⟨a1, rfl, _, e1⟩ := (HA.out.below (hq.b.mono hB)).numAt (k := k) (by simpa using hk2)
      have HATk := Lib.hid (HAT.out k hk2 hz.out.1)
      have HZ : Hid ([x, y].getD k 0 = 0 → (1 ≤ k + 1 → x = 0) ∧ (2 ≤ k + 1 → y = 0)) := Lib.hid (fun h => by
        match k, hk2 with
        | 0, _ => exact ⟨fun _ => by simpa using h, fun h => absurd h (by omega)⟩
        | 1, _ => exact ⟨fun _ => hz.out.1 (Nat.le_refl _), fun _ => by simpa using h⟩)
      generalize [x, y].getD k 0 = z at e1 HATk HZ
      have hk2' : (k : Int) < ((2 : Nat) : Int) := by omega
      clear HAT HR hz hk2
      by_cases hz0 : z = 0
      · have hzb : (z != 0) = false := by simp [hz0]
        have HT := Lib.hid (HZ.out hz0)
        clear HZ HATk hz0
        go_wp2_with fail
        go_roundw
        case rel => exact ⟨k + 1, by omega, by go_num, HT, hq⟩
        case measure => simp [intOf]; omega
      · have hzb : (z != 0) = true := by simp [hz0]
        obtain rfl : R = z := HATk.out hz0
        clear HZ HATk hz0
        go_wp2_with fail
        go_ret
        exact ⟨rfl, hq⟩
    · obtain rfl : R = 0 := by
        have h1 := hz.out.1 (by omega)
        have h2 := hz.out.2 (by omega)
        rw [← HR.out, or2, if_pos h1, h2]
      clear HAT HR hz
      go_wp2_with fail
      go_ret
      exact ⟨rfl, hq⟩
theorem has_new2 (w : World) (x y : Value) (t : TypeId) : Has (w.alloc (.cells #[x, y] t)) (w.heap.size + 1) (some ⟨w.heap.size, 0, none⟩) [x, y] := by
  intro k u h
  refine ⟨_, rfl, Nat.lt_succ_self _, ?_⟩
  rw [show (⟨w.heap.size, 0, none⟩ : Addr).add k = ⟨w.heap.size, k, none⟩ from (by unfold Addr.add; split <;> simp_all), sNew]
  simpa using h
set_option maxRecDepth 100000 in
set_option maxHeartbeats 4000000 in
theorem cmpA_any (a b : TArrival) (w : World) :
    Calls Try.prog 63 #[.agg #[.int .i64 a.x0, .bool a.x1, .int .i64 a.x2, .int .i64 a.x3], .agg #[.int .i64 b.x0, .bool b.x1, .int .i64 b.x2, .int .i64 b.x3]] w fun e w' =>
      e = .returned (.int .i64 (cmpA a b)) ∧ BelowD w.heap.size w w' := by
  unfold cmpA
  have CM := Lib.hid (fun x y W => (cmpInt_any x y W).mono (fun e w' (h : e = .returned (.int .i64 (cmpI x y)) ∧ W = w') => (show e = .returned (.int .i64 (cmpI x y)) ∧ BelowD W.heap.size W w' from ⟨h.1, h.2 ▸ BelowD.refl _ _⟩)))
  obtain ⟨i, u, m, q⟩ := a
  obtain ⟨i2, u2, m2, q2⟩ := b
  dsimp only
  have CX := Lib.hid (fun W => CM.out m m2 W)
  have CY := Lib.hid (fun W => CM.out i i2 W)
  clear CM
  generalize cmpI m m2 = X at CX ⊢
  generalize cmpI i i2 = Y at CY ⊢
  have CO := Lib.hid (fun W g (h : Has W W.heap.size (some ⟨g, 0, none⟩) ([X, Y].map (.int .i64))) => or2_any 2 X Y (Nat.le_refl W.heap.size) h)
  generalize or2 X Y = R at CO ⊢
  obtain ⟨g, hg⟩ : ∃ g, w.heap.size = g := ⟨_, rfl⟩
  obtain ⟨W1, hW1⟩ : ∃ W, (w.alloc (.cells #[.int .i64 i, .bool u, .int .i64 m, .int .i64 q] 58)).alloc (.cells #[.int .i64 i2, .bool u2, .int .i64 m2, .int .i64 q2] 58) = W := ⟨_, rfl⟩
  have hbW : BelowD w.heap.size w W1 := by rw [← hW1]; exact (BelowD.allocW w _).trans ((BelowD.allocW _ _).mono (by simp))
  have hsz : W1.heap.size = g + 1 + 1 := by rw [← hW1, ← hg]; simp
  have ca : BoxA W1 g ⟨i, u, m, q⟩ := by
    rw [← hW1, ← hg]
    exact (BoxA.new w ⟨i, u, m, q⟩).all (below1 _ _)
  have cb : BoxA W1 (g + 1) ⟨i2, u2, m2, q2⟩ := by
    rw [← hW1, ← hg]
    have := BoxA.new (w.alloc (.cells #[.int .i64 i, .bool u, .int .i64 m, .int .i64 q] 58)) ⟨i2, u2, m2, q2⟩
    rwa [World.size_alloc] at this
  have CA0 := Lib.hid (fun W (hq : Below W1.heap.size W1 W) => (ca.all hq).c0)
  have CA2 := Lib.hid (fun W (hq : Below W1.heap.size W1 W) => (ca.all hq).c2)
  have CB0 := Lib.hid (fun W (hq : Below W1.heap.size W1 W) => (cb.all hq).c0)
  have CB2 := Lib.hid (fun W (hq : Below W1.heap.size W1 W) => (cb.all hq).c2)
  have HB := Lib.hid hbW
  clear ca cb hbW
  go_enter Try.func63, Try.ntmps63
  go_wp2_with fail
  try rw [hW1]
  try rw [hg]
  clear hW1
  refine region_inv (by kernel_rfl) (by kernel_rfl) (fun Fl9 ac W => ∃ (x5 x6 x7 x8 x9 x10 x11 x12 x13 x14 x15 x16 x4 : Value), ac = { tmps := #[Value.agg #[Value.int IntKind.i64 i, Value.bool u, Value.int IntKind.i64 m, Value.int IntKind.i64 q], Value.agg #[Value.int IntKind.i64 i2, Value.bool u2, Value.int IntKind.i64 m2, Value.int IntKind.i64 q2], Value.pointer (some ⟨g, 0, none⟩), Value.pointer (some ⟨g + 1, 0, none⟩), x4, x5, x6, x7, x8, x9, x10, x11, x12, x13, x14, x15, x16], defers := [] } ∧ BelowD W1.heap.size W1 W ∧
        (Fl9 0 = true → x5 = .pointer (some ⟨g, 2, none⟩)) ∧
        (Fl9 1 = true → x6 = .int .i64 m) ∧
        (Fl9 2 = true → x7 = .pointer (some ⟨g + 1, 2, none⟩)) ∧
        (Fl9 3 = true → x8 = .int .i64 m2) ∧
        (Fl9 4 = true → x9 = .int .i64 X) ∧
        (Fl9 5 = true → x10 = .pointer (some ⟨g, 0, none⟩)) ∧
        (Fl9 6 = true → x11 = .int .i64 i) ∧
        (Fl9 7 = true → x12 = .pointer (some ⟨g + 1, 0, none⟩)) ∧
        (Fl9 8 = true → x13 = .int .i64 i2) ∧
        (Fl9 9 = true → x14 = .int .i64 Y) ∧
        (Fl9 10 = true → ∃ g9, x15 = .slice (some ⟨g9, 0, none⟩) 2 2 ∧ Has W W.heap.size (some ⟨g9, 0, none⟩) ([X, Y].map (.int .i64))) ∧
        (Fl9 11 = true → x16 = .int .i64 R) ∧
        (Fl9 12 = true → x4 = .int .i64 R)) ?_ ?_ ?_
  · exact ⟨_, _, _, _, _, _, _, _, _, _, _, _, _, rfl, ⟨(Drawn.one W1 1).below _, by simp⟩, (fun q0 => nomatch q0), (fun q0 => nomatch q0), (fun q0 => nomatch q0), (fun q0 => nomatch q0), (fun q0 => nomatch q0), (fun q0 => nomatch q0), (fun q0 => nomatch q0), (fun q0 => nomatch q0), (fun q0 => nomatch q0), (fun q0 => nomatch q0), (fun q0 => nomatch q0), (fun q0 => nomatch q0), (fun q0 => nomatch q0)⟩
  · intro Fl9 ac W i9 o9 hJ ho hL hdep K9 hK
    obtain ⟨x5, x6, x7, x8, x9, x10, x11, x12, x13, x14, x15, x16, x4, rfl, hB, hh0, hh1, hh2, hh3, hh4, hh5, hh6, hh7, hh8, hh9, hh10, hh11, hh12⟩ := hJ
    have hi9 : i9 < 13 := by simpa using (Array.getElem?_eq_some_iff.1 ho).1
    have A0 := CA0.out W hB.b
    have A2 := CA2.out W hB.b
    have B0 := CB0.out W hB.b
    have B2 := CB2.out W hB.b
    obtain rfl | rfl | rfl | rfl | rfl | rfl | rfl | rfl | rfl | rfl | rfl | rfl | rfl : i9 = 0 ∨ i9 = 1 ∨ i9 = 2 ∨ i9 = 3 ∨ i9 = 4 ∨ i9 = 5 ∨ i9 = 6 ∨ i9 = 7 ∨ i9 = 8 ∨ i9 = 9 ∨ i9 = 10 ∨ i9 = 11 ∨ i9 = 12 := by omega
    · -- operation 0
      cases ho
      go_simp
      exact hK _ _ ⟨_, _, _, _, _, _, _, _, _, _, _, _, _, rfl, hB, fun _ => rfl, hh1, hh2, hh3, hh4, hh5, hh6, hh7, hh8, hh9, hh10, hh11, hh12⟩
    · -- operation 1
      cases ho
      obtain rfl := hh0 (hdep ⟨0, .data⟩ (by simp) rfl)
      go_simp
      exact hK _ _ ⟨_, _, _, _, _, _, _, _, _, _, _, _, _, rfl, hB, hh0, fun _ => rfl, hh2, hh3, hh4, hh5, hh6, hh7, hh8, hh9, hh10, hh11, hh12⟩
    · -- operation 2
      cases ho
      go_simp
      exact hK _ _ ⟨_, _, _, _, _, _, _, _, _, _, _, _, _, rfl, hB, hh0, hh1, fun _ => rfl, hh3, hh4, hh5, hh6, hh7, hh8, hh9, hh10, hh11, hh12⟩
    · -- operation 3
      cases ho
      obtain rfl := hh2 (hdep ⟨2, .data⟩ (by simp) rfl)
      go_simp
      exact hK _ _ ⟨_, _, _, _, _, _, _, _, _, _, _, _, _, rfl, hB, hh0, hh1, hh2, fun _ => rfl, hh4, hh5, hh6, hh7, hh8, hh9, hh10, hh11, hh12⟩
    · -- operation 4
      cases ho
      obtain rfl := hh1 (hdep ⟨1, .data⟩ (by simp) rfl)
      obtain rfl := hh3 (hdep ⟨3, .data⟩ (by simp) rfl)
      go_simp
      refine (CX.out W).mono ?_
      rintro e w9 ⟨rfl, hb9⟩
      exact hK _ _ ⟨_, _, _, _, _, _, _, _, _, _, _, _, _, rfl, hB.trans (hb9.mono hB.size), hh0, hh1, hh2, hh3, fun _ => rfl, hh5, hh6, hh7, hh8, hh9, fun q0 => (fun ⟨g9, e, h⟩ => ⟨g9, e, (h.below hb9.b).more hb9.size⟩) (hh10 q0), hh11, hh12⟩
    · -- operation 5
      cases ho
      go_simp
      exact hK _ _ ⟨_, _, _, _, _, _, _, _, _, _, _, _, _, rfl, hB, hh0, hh1, hh2, hh3, hh4, fun _ => rfl, hh6, hh7, hh8, hh9, hh10, hh11, hh12⟩
    · -- operation 6
      cases ho
      obtain rfl := hh5 (hdep ⟨5, .data⟩ (by simp) rfl)
      go_simp
      exact hK _ _ ⟨_, _, _, _, _, _, _, _, _, _, _, _, _, rfl, hB, hh0, hh1, hh2, hh3, hh4, hh5, fun _ => rfl, hh7, hh8, hh9, hh10, hh11, hh12⟩
    · -- operation 7
      cases ho
      go_simp
      exact hK _ _ ⟨_, _, _, _, _, _, _, _, _, _, _, _, _, rfl, hB, hh0, hh1, hh2, hh3, hh4, hh5, hh6, fun _ => rfl, hh8, hh9, hh10, hh11, hh12⟩
    · -- operation 8
      cases ho
      obtain rfl := hh7 (hdep ⟨7, .data⟩ (by simp) rfl)
      go_simp
      exact hK _ _ ⟨_, _, _, _, _, _, _, _, _, _, _, _, _, rfl, hB, hh0, hh1, hh2, hh3, hh4, hh5, hh6, hh7, fun _ => rfl, hh9, hh10, hh11, hh12⟩
    · -- operation 9
      cases ho
      obtain rfl := hh6 (hdep ⟨6, .data⟩ (by simp) rfl)
      obtain rfl := hh8 (hdep ⟨8, .data⟩ (by simp) rfl)
      go_simp
      refine (CY.out W).mono ?_
      rintro e w9 ⟨rfl, hb9⟩
      exact hK _ _ ⟨_, _, _, _, _, _, _, _, _, _, _, _, _, rfl, hB.trans (hb9.mono hB.size), hh0, hh1, hh2, hh3, hh4, hh5, hh6, hh7, hh8, fun _ => rfl, fun q0 => (fun ⟨g9, e, h⟩ => ⟨g9, e, (h.below hb9.b).more hb9.size⟩) (hh10 q0), hh11, hh12⟩
    · -- operation 10
      cases ho
      have hd4 := hdep ⟨4, .data⟩ (by simp) rfl
      obtain rfl := hh4 hd4
      have hd9 := hdep ⟨9, .data⟩ (by simp) rfl
      obtain rfl := hh9 hd9
      go_simp
      exact hK _ _ ⟨_, _, _, _, _, _, _, _, _, _, _, _, _, rfl, hB.trans ((BelowD.allocW W _).mono hB.size), hh0, hh1, hh2, hh3, hh4, hh5, hh6, hh7, hh8, hh9, fun _ => ⟨_, rfl, by simpa using has_new2 W _ _ _⟩, hh11, hh12⟩
    · -- operation 11
      cases ho
      have hd10 := hdep ⟨10, .data⟩ (by simp) rfl
      obtain ⟨g9, rfl, hg9⟩ := hh10 hd10
      go_simp
      refine (CO.out W _ hg9).mono ?_
      rintro e w9 ⟨rfl, hb9⟩
      exact hK _ _ ⟨_, _, _, _, _, _, _, _, _, _, _, _, _, rfl, hB.trans (hb9.mono hB.size), hh0, hh1, hh2, hh3, hh4, hh5, hh6, hh7, hh8, hh9, fun q0 => (fun ⟨g9, e, h⟩ => ⟨g9, e, (h.below hb9.b).more hb9.size⟩) (hh10 q0), fun _ => rfl, hh12⟩
    · -- operation 12
      cases ho
      have hd11 := hdep ⟨11, .data⟩ (by simp) rfl
      obtain rfl := hh11 hd11
      go_simp
      exact hK _ _ ⟨_, _, _, _, _, _, _, _, _, _, _, _, _, rfl, hB, hh0, hh1, hh2, hh3, hh4, hh5, hh6, hh7, hh8, hh9, hh10, hh11, fun _ => rfl⟩
  intro Fl9 ac W hJ hall
  obtain ⟨x5, x6, x7, x8, x9, x10, x11, x12, x13, x14, x15, x16, x4, rfl, hB, hh0, hh1, hh2, hh3, hh4, hh5, hh6, hh7, hh8, hh9, hh10, hh11, hh12⟩ := hJ
  obtain rfl := hh0 (hall 0 (by decide))
  obtain rfl := hh1 (hall 1 (by decide))
  obtain rfl := hh2 (hall 2 (by decide))
  obtain rfl := hh3 (hall 3 (by decide))
  obtain rfl := hh5 (hall 5 (by decide))
  obtain rfl := hh6 (hall 6 (by decide))
  obtain rfl := hh7 (hall 7 (by decide))
  obtain rfl := hh8 (hall 8 (by decide))
  obtain rfl := hh12 (hall 12 (by decide))
  obtain rfl := hh4 (hall 4 (by decide))
  obtain rfl := hh9 (hall 9 (by decide))
  obtain ⟨gf, rfl, -⟩ := hh10 (hall 10 (by decide))
  obtain rfl := hh11 (hall 11 (by decide))
  clear hall
  go_wp2_with fail
  go_ret
  exact ⟨rfl, by first | exact HB.out.trans (hB.mono HB.out.size) | (rw [← hg]; exact HB.out.trans (hB.mono HB.out.size))⟩
end Go.Proofs.Ytdleidlmjliapaa
