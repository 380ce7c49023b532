/- Chapter 3, the program: the comparison that OrderVessels sorts by. -/
import Derived.Test.YteeljlpbijmhlabSrtOr
namespace Go.Proofs.Yteeljlpbijmhlab
open Go.RowKit Go.PlainAid Go.Sort
set_option linter.unusedVariables false
set_option linter.unusedSimpArgs false

theorem getV0 (a b c d e f : Value) : #[a, b, c, d, e, f][0]? = some a := rfl
theorem getV1 (a b c d e f : Value) : #[a, b, c, d, e, f][1]? = some b := rfl
theorem getV2 (a b c d e f : Value) : #[a, b, c, d, e, f][2]? = some c := rfl
theorem getV3 (a b c d e f : Value) : #[a, b, c, d, e, f][3]? = some d := rfl
theorem getV4 (a b c d e f : Value) : #[a, b, c, d, e, f][4]? = some e := rfl
theorem getV5 (a b c d e f : Value) : #[a, b, c, d, e, f][5]? = some f := rfl
set_option maxHeartbeats 400000 in
theorem vesCellsD_any (i : Int) (s : ByteArray) (l b d q : Int) (w : World) (h0 : 0 ≤ l * b) (h1 : l * b ≤ 24) :
    Calls Try.prog 69 #[.agg #[.int .i64 i, .string s, .int .i64 l, .int .i64 b, .int .i64 d, .int .i64 q]] w fun e w' => e = .returned (.int .i64 (l * b)) ∧ BelowD w.heap.size w w' := by
  go_enter Try.func69, Try.ntmps69
  go_wp2
  go_ret
  exact ⟨rfl, BelowD.allocW _ _⟩
set_option maxRecDepth 100000 in
set_option maxHeartbeats 4000000 in
theorem cmpV_any (i : Int) (s : ByteArray) (l b d q : Int) (i2 : Int) (s2 : ByteArray) (l2 b2 d2 q2 : Int) (w : World) (h0 : 0 ≤ l * b) (h1 : l * b ≤ 24) (h2 : 0 ≤ l2 * b2) (h3 : l2 * b2 ≤ 24) :
    Calls Try.prog 66 #[.agg #[.int .i64 i, .string s, .int .i64 l, .int .i64 b, .int .i64 d, .int .i64 q], .agg #[.int .i64 i2, .string s2, .int .i64 l2, .int .i64 b2, .int .i64 d2, .int .i64 q2]] w fun e w' =>
      e = .returned (.int .i64 (or3 (cmpI (l2 * b2) (l * b)) (cmpI d2 d) (cmpI i i2))) ∧ BelowD w.heap.size w w' := by
  have C1 := Lib.hid (fun W => vesCellsD_any i s l b d q W h0 h1)
  have C2 := Lib.hid (fun W => vesCellsD_any i2 s2 l2 b2 d2 q2 W h2 h3)
  generalize l * b = u at C1 ⊢
  generalize l2 * b2 = u2 at C2 ⊢
  have CM := Lib.hid (fun x y W => (cmpInt_any x y W).mono (fun e w' (h : e = .returned (.int .i64 (cmpI x y)) ∧ W = w') => (show e = .returned (.int .i64 (cmpI x y)) ∧ BelowD W.heap.size W w' from ⟨h.1, h.2 ▸ BelowD.refl _ _⟩)))
  have CX := Lib.hid (fun W => CM.out u2 u W)
  have CY := Lib.hid (fun W => CM.out d2 d W)
  have CZ := Lib.hid (fun W => CM.out i i2 W)
  clear CM h0 h1 h2 h3
  generalize cmpI u2 u = X at CX ⊢
  generalize cmpI d2 d = Y at CY ⊢
  generalize cmpI i i2 = Z at CZ ⊢
  have CO := Lib.hid (fun W g (h : Has W W.heap.size (some ⟨g, 0, none⟩) ([X, Y, Z].map (.int .i64))) => or3_any 3 X Y Z (Nat.le_refl W.heap.size) h)
  generalize or3 X Y Z = R at CO ⊢
  obtain ⟨g, hg⟩ : ∃ g, w.heap.size = g := ⟨_, rfl⟩
  obtain ⟨W1, hW1⟩ : ∃ W, (w.alloc (.cells #[.int .i64 i, .string s, .int .i64 l, .int .i64 b, .int .i64 d, .int .i64 q] 38)).alloc (.cells #[.int .i64 i2, .string s2, .int .i64 l2, .int .i64 b2, .int .i64 d2, .int .i64 q2] 38) = W := ⟨_, rfl⟩
  have hbW : BelowD w.heap.size w W1 := by rw [← hW1]; exact (BelowD.allocW w _).trans ((BelowD.allocW _ _).mono (by simp))
  have hsz : W1.heap.size = g + 1 + 1 := by rw [← hW1, ← hg]; simp
  have ca : ∀ k, W1.cell? ⟨g, k, none⟩ = #[Value.int .i64 i, .string s, .int .i64 l, .int .i64 b, .int .i64 d, .int .i64 q][k]? := by
    intro k
    rw [← hW1, ← hg]
    exact (((Below.refl (w.alloc _).heap.size (w.alloc _)).alloc (Nat.le_refl _) _).cell (by simp)).trans (vNew w _ _ k)
  have cb : ∀ k, W1.cell? ⟨g + 1, k, none⟩ = #[Value.int .i64 i2, .string s2, .int .i64 l2, .int .i64 b2, .int .i64 d2, .int .i64 q2][k]? := by
    intro k
    rw [← hW1, ← hg]
    simp
  have CA := Lib.hid (fun W (hq : Below W1.heap.size W1 W) k => (hq.cell (p := ⟨g, k, none⟩) (by simp only [hsz]; omega)).trans (ca k))
  have CB := Lib.hid (fun W (hq : Below W1.heap.size W1 W) k => (hq.cell (p := ⟨g + 1, k, none⟩) (by simp only [hsz]; omega)).trans (cb k))
  have HB := Lib.hid hbW
  clear ca cb hbW
  go_enter Try.func66, Try.ntmps66
  go_wp2_with fail
  try rw [hW1]
  try rw [hg]
  clear hW1
  refine region_inv (by kernel_rfl) (by kernel_rfl) (fun Fl9 ac W => ∃ (x5 x6 x7 x8 x9 x10 x11 x12 x13 x14 x15 x16 x17 x18 x19 x20 x21 x4 : Value), ac = { tmps := #[Value.agg #[Value.int IntKind.i64 i, Value.string s, Value.int IntKind.i64 l, Value.int IntKind.i64 b, Value.int IntKind.i64 d, Value.int IntKind.i64 q], Value.agg #[Value.int IntKind.i64 i2, Value.string s2, Value.int IntKind.i64 l2, Value.int IntKind.i64 b2, Value.int IntKind.i64 d2, Value.int IntKind.i64 q2], Value.pointer (some ⟨g, 0, none⟩), Value.pointer (some ⟨g + 1, 0, none⟩), x4, x5, x6, x7, x8, x9, x10, x11, x12, x13, x14, x15, x16, x17, x18, x19, x20, x21], defers := [] } ∧ BelowD W1.heap.size W1 W ∧
        (Fl9 0 = true → x5 = .agg #[.int .i64 i2, .string s2, .int .i64 l2, .int .i64 b2, .int .i64 d2, .int .i64 q2]) ∧
        (Fl9 1 = true → x6 = .int .i64 u2) ∧
        (Fl9 2 = true → x7 = .agg #[.int .i64 i, .string s, .int .i64 l, .int .i64 b, .int .i64 d, .int .i64 q]) ∧
        (Fl9 3 = true → x8 = .int .i64 u) ∧
        (Fl9 4 = true → x9 = .int .i64 X) ∧
        (Fl9 5 = true → x10 = .pointer (some ⟨g + 1, 4, none⟩)) ∧
        (Fl9 6 = true → x11 = .int .i64 d2) ∧
        (Fl9 7 = true → x12 = .pointer (some ⟨g, 4, none⟩)) ∧
        (Fl9 8 = true → x13 = .int .i64 d) ∧
        (Fl9 9 = true → x14 = .int .i64 Y) ∧
        (Fl9 10 = true → x15 = .pointer (some ⟨g, 0, none⟩)) ∧
        (Fl9 11 = true → x16 = .int .i64 i) ∧
        (Fl9 12 = true → x17 = .pointer (some ⟨g + 1, 0, none⟩)) ∧
        (Fl9 13 = true → x18 = .int .i64 i2) ∧
        (Fl9 14 = true → x19 = .int .i64 Z) ∧
        (Fl9 15 = true → ∃ g9, x20 = .slice (some ⟨g9, 0, none⟩) 3 3 ∧ Has W W.heap.size (some ⟨g9, 0, none⟩) ([X, Y, Z].map (.int .i64))) ∧
        (Fl9 16 = true → x21 = .int .i64 R) ∧
        (Fl9 17 = true → x4 = .int .i64 R)) ?_ ?_ ?_
  · exact ⟨_, _, _, _, _, _, _, _, _, _, _, _, _, _, _, _, _, _, rfl, ⟨(Drawn.one W1 1).below _, by simp⟩, (fun q0 => nomatch q0), (fun q0 => nomatch q0), (fun q0 => nomatch q0), (fun q0 => nomatch q0), (fun q0 => nomatch q0), (fun q0 => nomatch q0), (fun q0 => nomatch q0), (fun q0 => nomatch q0), (fun q0 => nomatch q0), (fun q0 => nomatch q0), (fun q0 => nomatch q0), (fun q0 => nomatch q0), (fun q0 => nomatch q0), (fun q0 => nomatch q0), (fun q0 => nomatch q0), (fun q0 => nomatch q0), (fun q0 => nomatch q0), (fun q0 => nomatch q0)⟩
  · intro Fl9 ac W i9 o9 hJ ho hL hdep K9 hK
    obtain ⟨x5, x6, x7, x8, x9, x10, x11, x12, x13, x14, x15, x16, x17, x18, x19, x20, x21, x4, rfl, hB, hh0, hh1, hh2, hh3, hh4, hh5, hh6, hh7, hh8, hh9, hh10, hh11, hh12, hh13, hh14, hh15, hh16, hh17⟩ := hJ
    have hi9 : i9 < 18 := by simpa using (Array.getElem?_eq_some_iff.1 ho).1
    have A0 := CA.out W hB.b 0
    have A1 := CA.out W hB.b 1
    have A2 := CA.out W hB.b 2
    have A3 := CA.out W hB.b 3
    have A4 := CA.out W hB.b 4
    have A5 := CA.out W hB.b 5
    have B0 := CB.out W hB.b 0
    have B1 := CB.out W hB.b 1
    have B2 := CB.out W hB.b 2
    have B3 := CB.out W hB.b 3
    have B4 := CB.out W hB.b 4
    have B5 := CB.out W hB.b 5
    simp only [getV0, getV1, getV2, getV3, getV4, getV5] at A0 A1 A2 A3 A4 A5 B0 B1 B2 B3 B4 B5
    obtain rfl | rfl | rfl | rfl | rfl | rfl | rfl | rfl | rfl | rfl | rfl | rfl | rfl | rfl | rfl | rfl | rfl | rfl : i9 = 0 ∨ i9 = 1 ∨ i9 = 2 ∨ i9 = 3 ∨ i9 = 4 ∨ i9 = 5 ∨ i9 = 6 ∨ i9 = 7 ∨ i9 = 8 ∨ i9 = 9 ∨ i9 = 10 ∨ i9 = 11 ∨ i9 = 12 ∨ i9 = 13 ∨ i9 = 14 ∨ i9 = 15 ∨ i9 = 16 ∨ i9 = 17 := by omega
    · -- operation 0
      cases ho
      go_simp
      exact hK _ _ ⟨_, _, _, _, _, _, _, _, _, _, _, _, _, _, _, _, _, _, rfl, hB, fun _ => rfl, hh1, hh2, hh3, hh4, hh5, hh6, hh7, hh8, hh9, hh10, hh11, hh12, hh13, hh14, hh15, hh16, hh17⟩
    · -- operation 1
      cases ho
      obtain rfl := hh0 (hdep ⟨0, .data⟩ (by simp) rfl)
      go_simp
      refine (C2.out W).mono ?_
      rintro e w9 ⟨rfl, hb9⟩
      exact hK _ _ ⟨_, _, _, _, _, _, _, _, _, _, _, _, _, _, _, _, _, _, rfl, hB.trans (hb9.mono hB.size), hh0, fun _ => rfl, hh2, hh3, hh4, hh5, hh6, hh7, hh8, hh9, hh10, hh11, hh12, hh13, hh14, fun q0 => (fun ⟨g9, e, h⟩ => ⟨g9, e, (h.below hb9.b).more hb9.size⟩) (hh15 q0), hh16, hh17⟩
    · -- operation 2
      cases ho
      go_simp
      exact hK _ _ ⟨_, _, _, _, _, _, _, _, _, _, _, _, _, _, _, _, _, _, rfl, hB, hh0, hh1, fun _ => rfl, hh3, hh4, hh5, hh6, hh7, hh8, hh9, hh10, hh11, hh12, hh13, hh14, hh15, hh16, hh17⟩
    · -- operation 3
      cases ho
      obtain rfl := hh2 (hdep ⟨2, .data⟩ (by simp) rfl)
      go_simp
      refine (C1.out W).mono ?_
      rintro e w9 ⟨rfl, hb9⟩
      exact hK _ _ ⟨_, _, _, _, _, _, _, _, _, _, _, _, _, _, _, _, _, _, rfl, hB.trans (hb9.mono hB.size), hh0, hh1, hh2, fun _ => rfl, hh4, hh5, hh6, hh7, hh8, hh9, hh10, hh11, hh12, hh13, hh14, fun q0 => (fun ⟨g9, e, h⟩ => ⟨g9, e, (h.below hb9.b).more hb9.size⟩) (hh15 q0), hh16, hh17⟩
    · -- operation 4
      cases ho
      have hd1 := hdep ⟨1, .data⟩ (by simp) rfl
      obtain rfl := hh1 hd1
      have hd3 := hdep ⟨3, .data⟩ (by simp) rfl
      obtain rfl := hh3 hd3
      go_simp
      refine (CX.out W).mono ?_
      rintro e w9 ⟨rfl, hb9⟩
      exact hK _ _ ⟨_, _, _, _, _, _, _, _, _, _, _, _, _, _, _, _, _, _, rfl, hB.trans (hb9.mono hB.size), hh0, hh1, hh2, hh3, fun _ => rfl, hh5, hh6, hh7, hh8, hh9, hh10, hh11, hh12, hh13, hh14, fun q0 => (fun ⟨g9, e, h⟩ => ⟨g9, e, (h.below hb9.b).more hb9.size⟩) (hh15 q0), hh16, hh17⟩
    · -- operation 5
      cases ho
      go_simp
      exact hK _ _ ⟨_, _, _, _, _, _, _, _, _, _, _, _, _, _, _, _, _, _, rfl, hB, hh0, hh1, hh2, hh3, hh4, fun _ => rfl, hh6, hh7, hh8, hh9, hh10, hh11, hh12, hh13, hh14, hh15, hh16, hh17⟩
    · -- operation 6
      cases ho
      obtain rfl := hh5 (hdep ⟨5, .data⟩ (by simp) rfl)
      go_simp
      exact hK _ _ ⟨_, _, _, _, _, _, _, _, _, _, _, _, _, _, _, _, _, _, rfl, hB, hh0, hh1, hh2, hh3, hh4, hh5, fun _ => rfl, hh7, hh8, hh9, hh10, hh11, hh12, hh13, hh14, hh15, hh16, hh17⟩
    · -- operation 7
      cases ho
      go_simp
      exact hK _ _ ⟨_, _, _, _, _, _, _, _, _, _, _, _, _, _, _, _, _, _, rfl, hB, hh0, hh1, hh2, hh3, hh4, hh5, hh6, fun _ => rfl, hh8, hh9, hh10, hh11, hh12, hh13, hh14, hh15, hh16, hh17⟩
    · -- operation 8
      cases ho
      obtain rfl := hh7 (hdep ⟨7, .data⟩ (by simp) rfl)
      go_simp
      exact hK _ _ ⟨_, _, _, _, _, _, _, _, _, _, _, _, _, _, _, _, _, _, rfl, hB, hh0, hh1, hh2, hh3, hh4, hh5, hh6, hh7, fun _ => rfl, hh9, hh10, hh11, hh12, hh13, hh14, hh15, hh16, hh17⟩
    · -- operation 9
      cases ho
      obtain rfl := hh6 (hdep ⟨6, .data⟩ (by simp) rfl)
      obtain rfl := hh8 (hdep ⟨8, .data⟩ (by simp) rfl)
      go_simp
      refine (CY.out W).mono ?_
      rintro e w9 ⟨rfl, hb9⟩
      exact hK _ _ ⟨_, _, _, _, _, _, _, _, _, _, _, _, _, _, _, _, _, _, rfl, hB.trans (hb9.mono hB.size), hh0, hh1, hh2, hh3, hh4, hh5, hh6, hh7, hh8, fun _ => rfl, hh10, hh11, hh12, hh13, hh14, fun q0 => (fun ⟨g9, e, h⟩ => ⟨g9, e, (h.below hb9.b).more hb9.size⟩) (hh15 q0), hh16, hh17⟩
    · -- operation 10
      cases ho
      go_simp
      exact hK _ _ ⟨_, _, _, _, _, _, _, _, _, _, _, _, _, _, _, _, _, _, rfl, hB, hh0, hh1, hh2, hh3, hh4, hh5, hh6, hh7, hh8, hh9, fun _ => rfl, hh11, hh12, hh13, hh14, hh15, hh16, hh17⟩
    · -- operation 11
      cases ho
      obtain rfl := hh10 (hdep ⟨10, .data⟩ (by simp) rfl)
      go_simp
      exact hK _ _ ⟨_, _, _, _, _, _, _, _, _, _, _, _, _, _, _, _, _, _, rfl, hB, hh0, hh1, hh2, hh3, hh4, hh5, hh6, hh7, hh8, hh9, hh10, fun _ => rfl, hh12, hh13, hh14, hh15, hh16, hh17⟩
    · -- operation 12
      cases ho
      go_simp
      exact hK _ _ ⟨_, _, _, _, _, _, _, _, _, _, _, _, _, _, _, _, _, _, rfl, hB, hh0, hh1, hh2, hh3, hh4, hh5, hh6, hh7, hh8, hh9, hh10, hh11, fun _ => rfl, hh13, hh14, hh15, hh16, hh17⟩
    · -- operation 13
      cases ho
      obtain rfl := hh12 (hdep ⟨12, .data⟩ (by simp) rfl)
      go_simp
      exact hK _ _ ⟨_, _, _, _, _, _, _, _, _, _, _, _, _, _, _, _, _, _, rfl, hB, hh0, hh1, hh2, hh3, hh4, hh5, hh6, hh7, hh8, hh9, hh10, hh11, hh12, fun _ => rfl, hh14, hh15, hh16, hh17⟩
    · -- operation 14
      cases ho
      obtain rfl := hh11 (hdep ⟨11, .data⟩ (by simp) rfl)
      obtain rfl := hh13 (hdep ⟨13, .data⟩ (by simp) rfl)
      go_simp
      refine (CZ.out W).mono ?_
      rintro e w9 ⟨rfl, hb9⟩
      exact hK _ _ ⟨_, _, _, _, _, _, _, _, _, _, _, _, _, _, _, _, _, _, rfl, hB.trans (hb9.mono hB.size), hh0, hh1, hh2, hh3, hh4, hh5, hh6, hh7, hh8, hh9, hh10, hh11, hh12, hh13, fun _ => rfl, fun q0 => (fun ⟨g9, e, h⟩ => ⟨g9, e, (h.below hb9.b).more hb9.size⟩) (hh15 q0), hh16, hh17⟩
    · -- operation 15
      cases ho
      have hd4 := hdep ⟨4, .data⟩ (by simp) rfl
      obtain rfl := hh4 hd4
      have hd9 := hdep ⟨9, .data⟩ (by simp) rfl
      obtain rfl := hh9 hd9
      have hd14 := hdep ⟨14, .data⟩ (by simp) rfl
      obtain rfl := hh14 hd14
      go_simp
      exact hK _ _ ⟨_, _, _, _, _, _, _, _, _, _, _, _, _, _, _, _, _, _, rfl, hB.trans ((BelowD.allocW W _).mono hB.size), hh0, hh1, hh2, hh3, hh4, hh5, hh6, hh7, hh8, hh9, hh10, hh11, hh12, hh13, hh14, fun _ => ⟨_, rfl, by simpa using has_new3 W _ _ _ _⟩, hh16, hh17⟩
    · -- operation 16
      cases ho
      have hd15 := hdep ⟨15, .data⟩ (by simp) rfl
      obtain ⟨g9, rfl, hg9⟩ := hh15 hd15
      go_simp
      refine (CO.out W _ hg9).mono ?_
      rintro e w9 ⟨rfl, hb9⟩
      exact hK _ _ ⟨_, _, _, _, _, _, _, _, _, _, _, _, _, _, _, _, _, _, rfl, hB.trans (hb9.mono hB.size), hh0, hh1, hh2, hh3, hh4, hh5, hh6, hh7, hh8, hh9, hh10, hh11, hh12, hh13, hh14, fun q0 => (fun ⟨g9, e, h⟩ => ⟨g9, e, (h.below hb9.b).more hb9.size⟩) (hh15 q0), fun _ => rfl, hh17⟩
    · -- operation 17
      cases ho
      have hd16 := hdep ⟨16, .data⟩ (by simp) rfl
      obtain rfl := hh16 hd16
      go_simp
      exact hK _ _ ⟨_, _, _, _, _, _, _, _, _, _, _, _, _, _, _, _, _, _, rfl, hB, hh0, hh1, hh2, hh3, hh4, hh5, hh6, hh7, hh8, hh9, hh10, hh11, hh12, hh13, hh14, hh15, hh16, fun _ => rfl⟩
  intro Fl9 ac W hJ hall
  obtain ⟨x5, x6, x7, x8, x9, x10, x11, x12, x13, x14, x15, x16, x17, x18, x19, x20, x21, x4, rfl, hB, hh0, hh1, hh2, hh3, hh4, hh5, hh6, hh7, hh8, hh9, hh10, hh11, hh12, hh13, hh14, hh15, hh16, hh17⟩ := hJ
  obtain rfl := hh0 (hall 0 (by decide))
  obtain rfl := hh2 (hall 2 (by decide))
  obtain rfl := hh5 (hall 5 (by decide))
  obtain rfl := hh6 (hall 6 (by decide))
  obtain rfl := hh7 (hall 7 (by decide))
  obtain rfl := hh8 (hall 8 (by decide))
  obtain rfl := hh10 (hall 10 (by decide))
  obtain rfl := hh11 (hall 11 (by decide))
  obtain rfl := hh12 (hall 12 (by decide))
  obtain rfl := hh13 (hall 13 (by decide))
  obtain rfl := hh17 (hall 17 (by decide))
  obtain rfl := hh1 (hall 1 (by decide))
  obtain rfl := hh3 (hall 3 (by decide))
  obtain rfl := hh4 (hall 4 (by decide))
  obtain rfl := hh9 (hall 9 (by decide))
  obtain rfl := hh14 (hall 14 (by decide))
  obtain ⟨gf, rfl, -⟩ := hh15 (hall 15 (by decide))
  obtain rfl := hh16 (hall 16 (by decide))
  clear hall
  go_wp2_with fail
  go_ret
  exact ⟨rfl, by first | exact HB.out.trans (hB.mono HB.out.size) | (rw [← hg]; exact HB.out.trans (hB.mono HB.out.size))⟩
end Go.Proofs.Yteeljlpbijmhlab
