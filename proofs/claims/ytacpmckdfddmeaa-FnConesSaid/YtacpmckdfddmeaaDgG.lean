/- Chapter 7: the most dangerous vessel: the model and the program. -/
import Derived.Test.YtacpmckdfddmeaaDgO
import Derived.Test.YtacpmckdfddmeaaInv
namespace Go.Proofs.Ytacpmckdfddmeaa
open Go.RowKit Go.PlainAid Go.Sort
set_option linter.unusedVariables false
set_option linter.unusedSimpArgs false

theorem grown_setC (w : World) (g i : Nat) (u : Value) : w.grownBy (w.setCell ⟨g, i, none⟩ u) (some g) :=
  ⟨rfl, rfl, rfl, by simp [World.setCell], fun k _ hk => Below.heap_setCell _ _ _ _ (fun e => hk (by rw [e]))⟩
theorem moreD_or (i l q i2 l2 q2 : Int) : or3 (cmpI q2 q) (cmpI l2 l) (cmpI i i2) < 0 ↔ MoreD ⟨i, l, q⟩ ⟨i2, l2, q2⟩ := by
  unfold or3 MoreD cmpI
  repeat' split
  all_goals (simp only; omega)
set_option maxRecDepth 100000 in
set_option maxHeartbeats 4000000 in
theorem cmpC_any (i l q i2 l2 q2 : Int) (w : World) :
    Calls Try.prog 79 #[.agg #[.int .i64 i, .int .i64 l, .int .i64 q], .agg #[.int .i64 i2, .int .i64 l2, .int .i64 q2]] w fun e w' =>
      e = .returned (.int .i64 (or3 (cmpI q2 q) (cmpI l2 l) (cmpI i i2))) ∧ BelowD w.heap.size w w' := by
  have CM := Lib.hid (fun x y W => (cmpInt_any x y W).mono (fun e w' (h : e = .returned (.int .i64 (cmpI x y)) ∧ W = w') => (show e = .returned (.int .i64 (cmpI x y)) ∧ BelowD W.heap.size W w' from ⟨h.1, h.2 ▸ BelowD.refl _ _⟩)))
  have CX := Lib.hid (fun W => CM.out q2 q W)
  have CY := Lib.hid (fun W => CM.out l2 l W)
  have CZ := Lib.hid (fun W => CM.out i i2 W)
  clear CM
  generalize cmpI q2 q = X at CX ⊢
  generalize cmpI l2 l = Y at CY ⊢
  generalize cmpI i i2 = Z at CZ ⊢
  have CO := Lib.hid (fun W g (h : Has W W.heap.size (some ⟨g, 0, none⟩) ([X, Y, Z].map (.int .i64))) => or3_any 3 X Y Z (Nat.le_refl W.heap.size) h)
  generalize or3 X Y Z = R at CO ⊢
  obtain ⟨g, hg⟩ : ∃ g, w.heap.size = g := ⟨_, rfl⟩
  obtain ⟨W1, hW1⟩ : ∃ W, (w.alloc (.cells #[.int .i64 i, .int .i64 l, .int .i64 q] 40)).alloc (.cells #[.int .i64 i2, .int .i64 l2, .int .i64 q2] 40) = W := ⟨_, rfl⟩
  have hbW : BelowD w.heap.size w W1 := by rw [← hW1]; exact (BelowD.allocW w _).trans ((BelowD.allocW _ _).mono (by simp))
  have hsz : W1.heap.size = g + 1 + 1 := by rw [← hW1, ← hg]; simp
  have ca : BoxC W1 g i l q := by
    rw [← hW1, ← hg]
    exact (BoxC.new w i l q).all (below1 _ _)
  have cb : BoxC W1 (g + 1) i2 l2 q2 := by
    rw [← hW1, ← hg]
    have := BoxC.new (w.alloc (.cells #[.int .i64 i, .int .i64 l, .int .i64 q] 40)) i2 l2 q2
    rwa [World.size_alloc] at this
  have CA0 := Lib.hid (fun W (hq : Below W1.heap.size W1 W) => (ca.all hq).c0)
  have CA1 := Lib.hid (fun W (hq : Below W1.heap.size W1 W) => (ca.all hq).c1)
  have CA2 := Lib.hid (fun W (hq : Below W1.heap.size W1 W) => (ca.all hq).c2)
  have CB0 := Lib.hid (fun W (hq : Below W1.heap.size W1 W) => (cb.all hq).c0)
  have CB1 := Lib.hid (fun W (hq : Below W1.heap.size W1 W) => (cb.all hq).c1)
  have CB2 := Lib.hid (fun W (hq : Below W1.heap.size W1 W) => (cb.all hq).c2)
  have HB := Lib.hid hbW
  clear ca cb hbW
  go_enter Try.func79, Try.ntmps79
  go_wp2_with fail
  try rw [hW1]
  try rw [hg]
  clear hW1
  refine region_inv (by kernel_rfl) (by kernel_rfl) (fun Fl9 ac W => ∃ (x5 x6 x7 x8 x9 x10 x11 x12 x13 x14 x15 x16 x17 x18 x19 x20 x21 x4 : Value), ac = { tmps := #[.agg #[.int .i64 i, .int .i64 l, .int .i64 q], .agg #[.int .i64 i2, .int .i64 l2, .int .i64 q2], .pointer (some ⟨g, 0, none⟩), .pointer (some ⟨g + 1, 0, none⟩), x4, x5, x6, x7, x8, x9, x10, x11, x12, x13, x14, x15, x16, x17, x18, x19, x20, x21], defers := [] } ∧ BelowD W1.heap.size W1 W ∧
        (Fl9 0 = true → x5 = .pointer (some ⟨g + 1, 2, none⟩)) ∧
        (Fl9 1 = true → x6 = .int .i64 q2) ∧
        (Fl9 2 = true → x7 = .pointer (some ⟨g, 2, none⟩)) ∧
        (Fl9 3 = true → x8 = .int .i64 q) ∧
        (Fl9 4 = true → x9 = .int .i64 X) ∧
        (Fl9 5 = true → x10 = .pointer (some ⟨g + 1, 1, none⟩)) ∧
        (Fl9 6 = true → x11 = .int .i64 l2) ∧
        (Fl9 7 = true → x12 = .pointer (some ⟨g, 1, none⟩)) ∧
        (Fl9 8 = true → x13 = .int .i64 l) ∧
        (Fl9 9 = true → x14 = .int .i64 Y) ∧
        (Fl9 10 = true → x15 = .pointer (some ⟨g, 0, none⟩)) ∧
        (Fl9 11 = true → x16 = .int .i64 i) ∧
        (Fl9 12 = true → x17 = .pointer (some ⟨g + 1, 0, none⟩)) ∧
        (Fl9 13 = true → x18 = .int .i64 i2) ∧
        (Fl9 14 = true → x19 = .int .i64 Z) ∧
        (Fl9 15 = true → ∃ g9, x20 = .slice (some ⟨g9, 0, none⟩) 3 3 ∧ Has W W.heap.size (some ⟨g9, 0, none⟩) ([X, Y, Z].map (.int .i64))) ∧
        (Fl9 16 = true → x21 = .int .i64 R) ∧
        (Fl9 17 = true → x4 = .int .i64 R)) ?_ ?_ ?_
  · exact ⟨_, _, _, _, _, _, _, _, _, _, _, _, _, _, _, _, _, _, rfl, ⟨(Drawn.one W1 1).below _, by simp⟩, (fun q0 => nomatch q0), (fun q0 => nomatch q0), (fun q0 => nomatch q0), (fun q0 => nomatch q0), (fun q0 => nomatch q0), (fun q0 => nomatch q0), (fun q0 => nomatch q0), (fun q0 => nomatch q0), (fun q0 => nomatch q0), (fun q0 => nomatch q0), (fun q0 => nomatch q0), (fun q0 => nomatch q0), (fun q0 => nomatch q0), (fun q0 => nomatch q0), (fun q0 => nomatch q0), (fun q0 => nomatch q0), (fun q0 => nomatch q0), (fun q0 => nomatch q0)⟩
  · intro Fl9 ac W i9 o9 hJ ho hL hdep K9 hK
    obtain ⟨x5, x6, x7, x8, x9, x10, x11, x12, x13, x14, x15, x16, x17, x18, x19, x20, x21, x4, rfl, hB, hh0, hh1, hh2, hh3, hh4, hh5, hh6, hh7, hh8, hh9, hh10, hh11, hh12, hh13, hh14, hh15, hh16, hh17⟩ := hJ
    have hi9 : i9 < 18 := by simpa using (Array.getElem?_eq_some_iff.1 ho).1
    have A0 := CA0.out W hB.b
    have A1 := CA1.out W hB.b
    have A2 := CA2.out W hB.b
    have B0 := CB0.out W hB.b
    have B1 := CB1.out W hB.b
    have B2 := CB2.out W hB.b
    obtain rfl | rfl | rfl | rfl | rfl | rfl | rfl | rfl | rfl | rfl | rfl | rfl | rfl | rfl | rfl | rfl | rfl | rfl : i9 = 0 ∨ i9 = 1 ∨ i9 = 2 ∨ i9 = 3 ∨ i9 = 4 ∨ i9 = 5 ∨ i9 = 6 ∨ i9 = 7 ∨ i9 = 8 ∨ i9 = 9 ∨ i9 = 10 ∨ i9 = 11 ∨ i9 = 12 ∨ i9 = 13 ∨ i9 = 14 ∨ i9 = 15 ∨ i9 = 16 ∨ i9 = 17 := by omega
    · -- operation 0
      cases ho
      go_simp
      exact hK _ _ ⟨_, _, _, _, _, _, _, _, _, _, _, _, _, _, _, _, _, _, rfl, hB, fun _ => rfl, hh1, hh2, hh3, hh4, hh5, hh6, hh7, hh8, hh9, hh10, hh11, hh12, hh13, hh14, hh15, hh16, hh17⟩
    · -- operation 1
      cases ho
      obtain rfl := hh0 (hdep ⟨0, .data⟩ (by simp) rfl)
      go_simp
      exact hK _ _ ⟨_, _, _, _, _, _, _, _, _, _, _, _, _, _, _, _, _, _, rfl, hB, hh0, fun _ => rfl, hh2, hh3, hh4, hh5, hh6, hh7, hh8, hh9, hh10, hh11, hh12, hh13, hh14, hh15, hh16, hh17⟩
    · -- operation 2
      cases ho
      go_simp
      exact hK _ _ ⟨_, _, _, _, _, _, _, _, _, _, _, _, _, _, _, _, _, _, rfl, hB, hh0, hh1, fun _ => rfl, hh3, hh4, hh5, hh6, hh7, hh8, hh9, hh10, hh11, hh12, hh13, hh14, hh15, hh16, hh17⟩
    · -- operation 3
      cases ho
      obtain rfl := hh2 (hdep ⟨2, .data⟩ (by simp) rfl)
      go_simp
      exact hK _ _ ⟨_, _, _, _, _, _, _, _, _, _, _, _, _, _, _, _, _, _, rfl, hB, hh0, hh1, hh2, fun _ => rfl, hh4, hh5, hh6, hh7, hh8, hh9, hh10, hh11, hh12, hh13, hh14, hh15, hh16, hh17⟩
    · -- operation 4
      cases ho
      obtain rfl := hh1 (hdep ⟨1, .data⟩ (by simp) rfl)
      obtain rfl := hh3 (hdep ⟨3, .data⟩ (by simp) rfl)
      go_simp
      refine (CX.out W).mono ?_
      rintro e w9 ⟨rfl, hb9⟩
      exact hK _ _ ⟨_, _, _, _, _, _, _, _, _, _, _, _, _, _, _, _, _, _, rfl, hB.trans (hb9.mono hB.size), hh0, hh1, hh2, hh3, fun _ => rfl, hh5, hh6, hh7, hh8, hh9, hh10, hh11, hh12, hh13, hh14, fun q0 => (fun ⟨g9, e, h⟩ => ⟨g9, e, (h.below hb9.b).more hb9.size⟩) (hh15 q0), hh16, hh17⟩
    · -- operation 5
      cases ho
      go_simp
      exact hK _ _ ⟨_, _, _, _, _, _, _, _, _, _, _, _, _, _, _, _, _, _, rfl, hB, hh0, hh1, hh2, hh3, hh4, fun _ => rfl, hh6, hh7, hh8, hh9, hh10, hh11, hh12, hh13, hh14, hh15, hh16, hh17⟩
    · -- operation 6
      cases ho
      obtain rfl := hh5 (hdep ⟨5, .data⟩ (by simp) rfl)
      go_simp
      exact hK _ _ ⟨_, _, _, _, _, _, _, _, _, _, _, _, _, _, _, _, _, _, rfl, hB, hh0, hh1, hh2, hh3, hh4, hh5, fun _ => rfl, hh7, hh8, hh9, hh10, hh11, hh12, hh13, hh14, hh15, hh16, hh17⟩
    · -- operation 7
      cases ho
      go_simp
      exact hK _ _ ⟨_, _, _, _, _, _, _, _, _, _, _, _, _, _, _, _, _, _, rfl, hB, hh0, hh1, hh2, hh3, hh4, hh5, hh6, fun _ => rfl, hh8, hh9, hh10, hh11, hh12, hh13, hh14, hh15, hh16, hh17⟩
    · -- operation 8
      cases ho
      obtain rfl := hh7 (hdep ⟨7, .data⟩ (by simp) rfl)
      go_simp
      exact hK _ _ ⟨_, _, _, _, _, _, _, _, _, _, _, _, _, _, _, _, _, _, rfl, hB, hh0, hh1, hh2, hh3, hh4, hh5, hh6, hh7, fun _ => rfl, hh9, hh10, hh11, hh12, hh13, hh14, hh15, hh16, hh17⟩
    · -- operation 9
      cases ho
      obtain rfl := hh6 (hdep ⟨6, .data⟩ (by simp) rfl)
      obtain rfl := hh8 (hdep ⟨8, .data⟩ (by simp) rfl)
      go_simp
      refine (CY.out W).mono ?_
      rintro e w9 ⟨rfl, hb9⟩
      exact hK _ _ ⟨_, _, _, _, _, _, _, _, _, _, _, _, _, _, _, _, _, _, rfl, hB.trans (hb9.mono hB.size), hh0, hh1, hh2, hh3, hh4, hh5, hh6, hh7, hh8, fun _ => rfl, hh10, hh11, hh12, hh13, hh14, fun q0 => (fun ⟨g9, e, h⟩ => ⟨g9, e, (h.below hb9.b).more hb9.size⟩) (hh15 q0), hh16, hh17⟩
    · -- operation 10
      cases ho
      go_simp
      exact hK _ _ ⟨_, _, _, _, _, _, _, _, _, _, _, _, _, _, _, _, _, _, rfl, hB, hh0, hh1, hh2, hh3, hh4, hh5, hh6, hh7, hh8, hh9, fun _ => rfl, hh11, hh12, hh13, hh14, hh15, hh16, hh17⟩
    · -- operation 11
      cases ho
      obtain rfl := hh10 (hdep ⟨10, .data⟩ (by simp) rfl)
      go_simp
      exact hK _ _ ⟨_, _, _, _, _, _, _, _, _, _, _, _, _, _, _, _, _, _, rfl, hB, hh0, hh1, hh2, hh3, hh4, hh5, hh6, hh7, hh8, hh9, hh10, fun _ => rfl, hh12, hh13, hh14, hh15, hh16, hh17⟩
    · -- operation 12
      cases ho
      go_simp
      exact hK _ _ ⟨_, _, _, _, _, _, _, _, _, _, _, _, _, _, _, _, _, _, rfl, hB, hh0, hh1, hh2, hh3, hh4, hh5, hh6, hh7, hh8, hh9, hh10, hh11, fun _ => rfl, hh13, hh14, hh15, hh16, hh17⟩
    · -- operation 13
      cases ho
      obtain rfl := hh12 (hdep ⟨12, .data⟩ (by simp) rfl)
      go_simp
      exact hK _ _ ⟨_, _, _, _, _, _, _, _, _, _, _, _, _, _, _, _, _, _, rfl, hB, hh0, hh1, hh2, hh3, hh4, hh5, hh6, hh7, hh8, hh9, hh10, hh11, hh12, fun _ => rfl, hh14, hh15, hh16, hh17⟩
    · -- operation 14
      cases ho
      obtain rfl := hh11 (hdep ⟨11, .data⟩ (by simp) rfl)
      obtain rfl := hh13 (hdep ⟨13, .data⟩ (by simp) rfl)
      go_simp
      refine (CZ.out W).mono ?_
      rintro e w9 ⟨rfl, hb9⟩
      exact hK _ _ ⟨_, _, _, _, _, _, _, _, _, _, _, _, _, _, _, _, _, _, rfl, hB.trans (hb9.mono hB.size), hh0, hh1, hh2, hh3, hh4, hh5, hh6, hh7, hh8, hh9, hh10, hh11, hh12, hh13, fun _ => rfl, fun q0 => (fun ⟨g9, e, h⟩ => ⟨g9, e, (h.below hb9.b).more hb9.size⟩) (hh15 q0), hh16, hh17⟩
    · -- operation 15
      cases ho
      have hd4 := hdep ⟨4, .data⟩ (by simp) rfl
      obtain rfl := hh4 hd4
      have hd9 := hdep ⟨9, .data⟩ (by simp) rfl
      obtain rfl := hh9 hd9
      have hd14 := hdep ⟨14, .data⟩ (by simp) rfl
      obtain rfl := hh14 hd14
      go_simp
      exact hK _ _ ⟨_, _, _, _, _, _, _, _, _, _, _, _, _, _, _, _, _, _, rfl, hB.trans ((BelowD.allocW W _).mono hB.size), hh0, hh1, hh2, hh3, hh4, hh5, hh6, hh7, hh8, hh9, hh10, hh11, hh12, hh13, hh14, fun _ => ⟨_, rfl, by simpa using has_new3 W _ _ _ _⟩, hh16, hh17⟩
    · -- operation 16
      cases ho
      have hd15 := hdep ⟨15, .data⟩ (by simp) rfl
      obtain ⟨g9, rfl, hg9⟩ := hh15 hd15
      go_simp
      refine (CO.out W _ hg9).mono ?_
      rintro e w9 ⟨rfl, hb9⟩
      exact hK _ _ ⟨_, _, _, _, _, _, _, _, _, _, _, _, _, _, _, _, _, _, rfl, hB.trans (hb9.mono hB.size), hh0, hh1, hh2, hh3, hh4, hh5, hh6, hh7, hh8, hh9, hh10, hh11, hh12, hh13, hh14, fun q0 => (fun ⟨g9, e, h⟩ => ⟨g9, e, (h.below hb9.b).more hb9.size⟩) (hh15 q0), fun _ => rfl, hh17⟩
    · -- operation 17
      cases ho
      have hd16 := hdep ⟨16, .data⟩ (by simp) rfl
      obtain rfl := hh16 hd16
      go_simp
      exact hK _ _ ⟨_, _, _, _, _, _, _, _, _, _, _, _, _, _, _, _, _, _, rfl, hB, hh0, hh1, hh2, hh3, hh4, hh5, hh6, hh7, hh8, hh9, hh10, hh11, hh12, hh13, hh14, hh15, hh16, fun _ => rfl⟩
  intro Fl9 ac W hJ hall
  obtain ⟨x5, x6, x7, x8, x9, x10, x11, x12, x13, x14, x15, x16, x17, x18, x19, x20, x21, x4, rfl, hB, hh0, hh1, hh2, hh3, hh4, hh5, hh6, hh7, hh8, hh9, hh10, hh11, hh12, hh13, hh14, hh15, hh16, hh17⟩ := hJ
  obtain rfl := hh0 (hall 0 (by decide))
  obtain rfl := hh1 (hall 1 (by decide))
  obtain rfl := hh2 (hall 2 (by decide))
  obtain rfl := hh3 (hall 3 (by decide))
  obtain rfl := hh5 (hall 5 (by decide))
  obtain rfl := hh6 (hall 6 (by decide))
  obtain rfl := hh7 (hall 7 (by decide))
  obtain rfl := hh8 (hall 8 (by decide))
  obtain rfl := hh10 (hall 10 (by decide))
  obtain rfl := hh11 (hall 11 (by decide))
  obtain rfl := hh12 (hall 12 (by decide))
  obtain rfl := hh13 (hall 13 (by decide))
  obtain rfl := hh17 (hall 17 (by decide))
  obtain rfl := hh4 (hall 4 (by decide))
  obtain rfl := hh9 (hall 9 (by decide))
  obtain rfl := hh14 (hall 14 (by decide))
  obtain ⟨gf, rfl, -⟩ := hh15 (hall 15 (by decide))
  obtain rfl := hh16 (hall 16 (by decide))
  clear hall
  go_wp2_with fail
  go_ret
  exact ⟨rfl, by first | exact HB.out.trans (hB.mono HB.out.size) | (rw [← hg]; exact HB.out.trans (hB.mono HB.out.size))⟩

end Go.Proofs.Ytacpmckdfddmeaa
