/- Chapter 5: the planned commands: the program. -/
import Derived.Test.YtmnagjjpncancaaLoL
import Derived.Test.YtmnagjjpncancaaLoP
namespace Go.Proofs.Ytmnagjjpncancaa
open Go.RowKit Go.PlainAid Go.Sort
set_option linter.unusedVariables false
set_option linter.unusedSimpArgs false

theorem BoxS.below {W w' : World} {g B : Nat} {p : Int} {a b : Bool} {x y z t : Int} (h : BoxS W g p a b x y z t) (hb : Below B W w') (hg : g < B) : BoxS w' g p a b x y z t := (hb.block g hg).trans h
/-- The plan in the program's words. -/
def planV (ga pa gb pb : Bool) (x1 x3 y2 y4 : Int) (N : Nat) : List Int :=
  if ga = true then [] else (if gb = true then [y2] else []) ++ ((if pb = true then [y4] else []) ++ ((if 0 < N ∧ pa = false then [x3] else []) ++ (List.replicate N 9 ++ [x1])))
set_option maxRecDepth 100000 in
set_option maxHeartbeats 16000000 in
theorem planI_core (l u v : Int) (a b c d high : Bool) (p q : Int) (ga pa gb pb : Bool) (x1 x2 x3 x4 y1 y2 y3 y4 : Int) (r : Int) (x : Bool) (N : Nat) (hN40 : N ≤ 40)
    (hm0 : ∀ W, Calls Try.prog 26 #[.agg #[.int .i64 l, .int .i64 u, .int .i64 v, .bool a, .bool b, .bool c, .bool d], .bool high] W fun e w' => e = .returned (.tuple #[.int .i64 r, .bool x]) ∧ Below W.heap.size W w')
    (ct : x = true → ∀ W, Calls Try.prog 46 #[.agg #[.int .i64 l, .int .i64 u, .int .i64 v, .bool a, .bool b, .bool c, .bool d], .bool high] W fun e w' => e = .returned (.agg #[.int .i64 p, .bool ga, .bool pa, .int .i64 x1, .int .i64 x2, .int .i64 x3, .int .i64 x4]) ∧ Below W.heap.size W w')
    (co : x = true → ∀ W, Calls Try.prog 46 #[.agg #[.int .i64 l, .int .i64 u, .int .i64 v, .bool a, .bool b, .bool c, .bool d], .bool (!high)] W fun e w' => e = .returned (.agg #[.int .i64 q, .bool gb, .bool pb, .int .i64 y1, .int .i64 y2, .int .i64 y3, .int .i64 y4]) ∧ Below W.heap.size W w')
    (hr : x = true → r = (N : Int)) (L : List Int) (hL : (x = true ∧ L = planV ga pa gb pb x1 x3 y2 y4 N) ∨ (x = false ∧ L = [])) (m : Nat) (hm : L.length = m) (w : World) :
    Calls Try.prog 28 #[.agg #[.int .i64 l, .int .i64 u, .int .i64 v, .bool a, .bool b, .bool c, .bool d], .bool high] w (GivesP w L m x) := by
  obtain ⟨i0, hi, hz0, hz1, hz2⟩ := info_parts Try.infoInt'
  have CM := Lib.hid (fun W => hm0 W)
  have HBA := Lib.hid (below1 w (.cells #[.int .i64 l, .int .i64 u, .int .i64 v, .bool a, .bool b, .bool c, .bool d] 23))
  have QA := Lib.hid (BoxL.new w l u v a b c d)
  clear hm0
  go_enter Try.func28, Try.ntmps28
  go_wp2_with fail
  refine (CM.out _).mono ?_
  rintro e w1 ⟨rfl, hb⟩
  have HB1 := Lib.hid (HBA.out.trans (hb.mono HBA.out.size))
  have Q1 := Lib.hid (QA.out.all hb)
  clear hb CM HBA QA
  cases x with
  | false =>
    rcases hL with ⟨h, -⟩ | ⟨-, rfl⟩
    · cases h
    clear ct co hr
    go_wp2_with fail
    refine bodyPost_ret (results_tmp2 rfl _ _ _) rfl ?_
    exact givesP_mk (wA := w1) (g0 := w1.heap.size) false HB1.out HB1.out.size (o := []) (World.ownsRow_made (size := 1) (e := 3) w1 #[] 0 (Nat.le_refl _) (by unfold maxLen; omega) rfl) (below1 _ _) rfl hm
  | true =>
    rcases hL with ⟨-, hL⟩ | ⟨h, -⟩
    rotate_left
    · cases h
    obtain rfl := hr rfl
    have HL := Lib.hid hL
    have CT := Lib.hid (ct rfl)
    have CO := Lib.hid (co rfl)
    have hN0 : (0 : Int) ≤ (N : Int) := by omega
    have hNb : (N : Int) ≤ 40 := by omega
    clear ct co hr hL
    obtain ⟨xb, hxb⟩ : ∃ y, w.heap.size = y := ⟨_, rfl⟩
    rw [hxb] at Q1
    try simp only [hxb]
    clear hxb
    go_wp2_with fail
    refine region_inv (by kernel_rfl) (by kernel_rfl) (fun Fl9 ac W => ∃ (x20 x21 x22 x23 x24 x25 x26 x8 x9 : Value), ac = { tmps := #[Value.agg #[Value.int IntKind.i64 l, Value.int IntKind.i64 u, Value.int IntKind.i64 v, Value.bool a, Value.bool b, Value.bool c, Value.bool d], Value.bool high, Value.pointer (some ⟨xb, 0, none⟩), undef, Value.slice none 0 0, Value.bool false, Value.int IntKind.i64 (N : Int), Value.bool true, x8, x9, undef, Value.tuple #[Value.int IntKind.i64 (N : Int), Value.bool true], Value.agg #[Value.int IntKind.i64 l, Value.int IntKind.i64 u, Value.int IntKind.i64 v, Value.bool a, Value.bool b, Value.bool c, Value.bool d], Value.bool high, Value.tuple #[Value.int IntKind.i64 (N : Int), Value.bool true], Value.int IntKind.i64 (N : Int), Value.bool true, Value.bool true, Value.bool false, undef, x20, x21, x22, x23, x24, x25, x26, undef, undef, undef, undef, undef, undef, undef, undef, undef, undef, undef, undef, undef, undef, undef, undef, undef, undef, undef, undef, undef, undef, undef, undef, undef, undef, undef, undef, undef, undef, undef, undef, undef, undef, undef, undef, undef, undef, undef, undef], defers := [] } ∧ Below w1.heap.size w1 W ∧
          (Fl9 0 = true → x20 = .agg #[.int .i64 l, .int .i64 u, .int .i64 v, .bool a, .bool b, .bool c, .bool d]) ∧
          (Fl9 1 = true → x21 = .bool high) ∧
          (Fl9 2 = true → x22 = .agg #[.int .i64 p, .bool ga, .bool pa, .int .i64 x1, .int .i64 x2, .int .i64 x3, .int .i64 x4]) ∧
          (Fl9 3 = true → x23 = .agg #[.int .i64 l, .int .i64 u, .int .i64 v, .bool a, .bool b, .bool c, .bool d]) ∧
          (Fl9 4 = true → x24 = .bool high) ∧
          (Fl9 5 = true → x25 = .bool (!high)) ∧
          (Fl9 6 = true → x26 = .agg #[.int .i64 q, .bool gb, .bool pb, .int .i64 y1, .int .i64 y2, .int .i64 y3, .int .i64 y4]) ∧
          (Fl9 7 = true → ∃ g, x8 = .pointer (some ⟨g, 0, none⟩) ∧ w1.heap.size ≤ g ∧ ∃ a0 a1 a2 a3 a4 a5 a6, BoxS W g a0 a1 a2 a3 a4 a5 a6) ∧
          (Fl9 8 = true → ∃ g, x9 = .pointer (some ⟨g, 0, none⟩) ∧ w1.heap.size ≤ g ∧ ∃ a0 a1 a2 a3 a4 a5 a6, BoxS W g a0 a1 a2 a3 a4 a5 a6) ∧
          (Fl9 9 = true → ∃ g, x8 = .pointer (some ⟨g, 0, none⟩) ∧ w1.heap.size ≤ g ∧ BoxS W g p ga pa x1 x2 x3 x4) ∧
          (Fl9 10 = true → ∃ g, x9 = .pointer (some ⟨g, 0, none⟩) ∧ w1.heap.size ≤ g ∧ BoxS W g q gb pb y1 y2 y3 y4) ∧
          (Fl9 7 = true → Fl9 8 = true → x8 ≠ x9) ∧
          (Fl9 9 = true → Fl9 7 = true) ∧
          (Fl9 10 = true → Fl9 8 = true)) ?_ ?_ ?_
    · exact ⟨_, _, _, _, _, _, _, _, _, rfl, (Drawn.one w1 1).below _, (fun q0 => nomatch q0), (fun q0 => nomatch q0), (fun q0 => nomatch q0), (fun q0 => nomatch q0), (fun q0 => nomatch q0), (fun q0 => nomatch q0), (fun q0 => nomatch q0), (fun q0 => nomatch q0), (fun q0 => nomatch q0), (fun q0 => nomatch q0), (fun q0 => nomatch q0), (fun q0 => nomatch q0), (fun q0 => nomatch q0), (fun q0 => nomatch q0)⟩
    · intro Fl9 ac W i9 o9 hJ ho hL hdep K9 hK
      obtain ⟨x20, x21, x22, x23, x24, x25, x26, x8, x9, rfl, hB, hh0, hh1, hh2, hh3, hh4, hh5, hh6, hh7, hh8, hh9, hh10, hx0, hx1, hx2⟩ := hJ
      have hi9 : i9 < 11 := by simpa using (Array.getElem?_eq_some_iff.1 ho).1
      have QW := Q1.out.all hB
      have C0 := QW.c0
      have C1 := QW.c1
      have C2 := QW.c2
      have C3 := QW.c3
      have C4 := QW.c4
      have C5 := QW.c5
      have C6 := QW.c6
      clear QW
      obtain rfl | rfl | rfl | rfl | rfl | rfl | rfl | rfl | rfl | rfl | rfl : i9 = 0 ∨ i9 = 1 ∨ i9 = 2 ∨ i9 = 3 ∨ i9 = 4 ∨ i9 = 5 ∨ i9 = 6 ∨ i9 = 7 ∨ i9 = 8 ∨ i9 = 9 ∨ i9 = 10 := by omega
      · -- operation 0
        cases ho
        go_simp
        exact hK _ _ ⟨_, _, _, _, _, _, _, _, _, rfl, hB, fun _ => rfl, hh1, hh2, hh3, hh4, hh5, hh6, hh7, hh8, hh9, hh10, hx0, hx1, hx2⟩
      · -- operation 1
        cases ho
        go_simp
        exact hK _ _ ⟨_, _, _, _, _, _, _, _, _, rfl, hB, hh0, fun _ => rfl, hh2, hh3, hh4, hh5, hh6, hh7, hh8, hh9, hh10, hx0, hx1, hx2⟩
      · -- operation 2
        cases ho
        obtain rfl := hh0 (hdep ⟨0, .data⟩ (by simp) rfl)
        obtain rfl := hh1 (hdep ⟨1, .data⟩ (by simp) rfl)
        go_simp
        refine (CT.out W).mono ?_
        rintro e w9 ⟨rfl, hb9⟩
        exact hK _ _ ⟨_, _, _, _, _, _, _, _, _, rfl, hB.trans (hb9.mono hB.size), hh0, hh1, fun _ => rfl, hh3, hh4, hh5, hh6, fun q0 => (fun ⟨g, e, hg, a0, a1, a2, a3, a4, a5, a6, h⟩ => ⟨g, e, hg, a0, a1, a2, a3, a4, a5, a6, h.all hb9⟩) (hh7 q0), fun q0 => (fun ⟨g, e, hg, a0, a1, a2, a3, a4, a5, a6, h⟩ => ⟨g, e, hg, a0, a1, a2, a3, a4, a5, a6, h.all hb9⟩) (hh8 q0), fun q0 => (fun ⟨g, e, hg, h⟩ => ⟨g, e, hg, h.all hb9⟩) (hh9 q0), fun q0 => (fun ⟨g, e, hg, h⟩ => ⟨g, e, hg, h.all hb9⟩) (hh10 q0), hx0, hx1, hx2⟩
      · -- operation 3
        cases ho
        go_simp
        exact hK _ _ ⟨_, _, _, _, _, _, _, _, _, rfl, hB, hh0, hh1, hh2, fun _ => rfl, hh4, hh5, hh6, hh7, hh8, hh9, hh10, hx0, hx1, hx2⟩
      · -- operation 4
        cases ho
        go_simp
        exact hK _ _ ⟨_, _, _, _, _, _, _, _, _, rfl, hB, hh0, hh1, hh2, hh3, fun _ => rfl, hh5, hh6, hh7, hh8, hh9, hh10, hx0, hx1, hx2⟩
      · -- operation 5
        cases ho
        obtain rfl := hh4 (hdep ⟨4, .data⟩ (by simp) rfl)
        go_simp
        exact hK _ _ ⟨_, _, _, _, _, _, _, _, _, rfl, hB, hh0, hh1, hh2, hh3, hh4, fun _ => rfl, hh6, hh7, hh8, hh9, hh10, hx0, hx1, hx2⟩
      · -- operation 6
        cases ho
        obtain rfl := hh3 (hdep ⟨3, .data⟩ (by simp) rfl)
        obtain rfl := hh5 (hdep ⟨5, .data⟩ (by simp) rfl)
        go_simp
        refine (CO.out W).mono ?_
        rintro e w9 ⟨rfl, hb9⟩
        exact hK _ _ ⟨_, _, _, _, _, _, _, _, _, rfl, hB.trans (hb9.mono hB.size), hh0, hh1, hh2, hh3, hh4, hh5, fun _ => rfl, fun q0 => (fun ⟨g, e, hg, a0, a1, a2, a3, a4, a5, a6, h⟩ => ⟨g, e, hg, a0, a1, a2, a3, a4, a5, a6, h.all hb9⟩) (hh7 q0), fun q0 => (fun ⟨g, e, hg, a0, a1, a2, a3, a4, a5, a6, h⟩ => ⟨g, e, hg, a0, a1, a2, a3, a4, a5, a6, h.all hb9⟩) (hh8 q0), fun q0 => (fun ⟨g, e, hg, h⟩ => ⟨g, e, hg, h.all hb9⟩) (hh9 q0), fun q0 => (fun ⟨g, e, hg, h⟩ => ⟨g, e, hg, h.all hb9⟩) (hh10 q0), hx0, hx1, hx2⟩
      · -- operation 7
        cases ho
        go_simp
        exact hK _ _ ⟨_, _, _, _, _, _, _, _, _, rfl, hB.trans ((Below.alloc (Below.refl W.heap.size W) (Nat.le_refl _) _).mono hB.size), hh0, hh1, hh2, hh3, hh4, hh5, hh6, fun _ => ⟨_, rfl, hB.size, _, _, _, _, _, _, _, BoxS.new W _ _ _ _ _ _ _⟩, fun q0 => (fun ⟨g, e, hg, a0, a1, a2, a3, a4, a5, a6, h⟩ => ⟨g, e, hg, a0, a1, a2, a3, a4, a5, a6, h.all (Below.alloc (Below.refl W.heap.size W) (Nat.le_refl _) _)⟩) (hh8 q0), (fun q0 => absurd (hx1 q0) (by rw [hL]; simp)), fun q0 => (fun ⟨g, e, hg, h⟩ => ⟨g, e, hg, h.all (Below.alloc (Below.refl W.heap.size W) (Nat.le_refl _) _)⟩) (hh10 q0), fun _ q0 => (by obtain ⟨g, e, hg, a0, a1, a2, a3, a4, a5, a6, h⟩ := hh8 q0; intro e1; rw [e] at e1; injection e1 with e1; injection e1 with e1; injection e1 with e1 _ _; have := h.lt; omega), fun _ => rfl, hx2⟩
      · -- operation 8
        cases ho
        go_simp
        exact hK _ _ ⟨_, _, _, _, _, _, _, _, _, rfl, hB.trans ((Below.alloc (Below.refl W.heap.size W) (Nat.le_refl _) _).mono hB.size), hh0, hh1, hh2, hh3, hh4, hh5, hh6, fun q0 => (fun ⟨g, e, hg, a0, a1, a2, a3, a4, a5, a6, h⟩ => ⟨g, e, hg, a0, a1, a2, a3, a4, a5, a6, h.all (Below.alloc (Below.refl W.heap.size W) (Nat.le_refl _) _)⟩) (hh7 q0), fun _ => ⟨_, rfl, hB.size, _, _, _, _, _, _, _, BoxS.new W _ _ _ _ _ _ _⟩, fun q0 => (fun ⟨g, e, hg, h⟩ => ⟨g, e, hg, h.all (Below.alloc (Below.refl W.heap.size W) (Nat.le_refl _) _)⟩) (hh9 q0), (fun q0 => absurd (hx2 q0) (by rw [hL]; simp)), fun q0 _ => (by obtain ⟨g, e, hg, a0, a1, a2, a3, a4, a5, a6, h⟩ := hh7 q0; intro e1; rw [e] at e1; injection e1 with e1; injection e1 with e1; injection e1 with e1 _ _; have := h.lt; omega), hx1, fun _ => rfl⟩
      · -- operation 9
        cases ho
        obtain rfl := hh2 (hdep ⟨2, .data⟩ (by simp) rfl)
        have hd7 := hdep ⟨7, .data⟩ (by simp) rfl
        obtain ⟨gq, rfl, hgq, z0, z1, z2, z3, z4, z5, z6, hbx⟩ := hh7 hd7
        have ii0 := hbx.c0
        have ii1 := hbx.c1
        have ii2 := hbx.c2
        have ii3 := hbx.c3
        have ii4 := hbx.c4
        have ii5 := hbx.c5
        have ii6 := hbx.c6
        have jj0 := hbx.fz 0
        have jj1 := hbx.fz 1
        have jj2 := hbx.fz 2
        have jj3 := hbx.fz 3
        have jj4 := hbx.fz 4
        have jj5 := hbx.fz 5
        have jj6 := hbx.fz 6
        go_simp
        exact hK _ _ ⟨_, _, _, _, _, _, _, _, _, rfl, setsS_below hB hgq _ _ _ _ _ _ _, hh0, hh1, hh2, hh3, hh4, hh5, hh6, fun _ => ⟨gq, rfl, hgq, _, _, _, _, _, _, _, hbx.sets _ _ _ _ _ _ _⟩, fun q0 => (by obtain ⟨g, e, hg, a0, a1, a2, a3, a4, a5, a6, h⟩ := hh8 q0; exact ⟨g, e, hg, a0, a1, a2, a3, a4, a5, a6, h.kept (grown_setsS _ _ _ _ _ _ _ _ _) (by intro e1; have e2 : g = gq := (by injection e1); subst e2; exact hx0 hd7 q0 e.symm)⟩), fun _ => ⟨gq, rfl, hgq, hbx.sets _ _ _ _ _ _ _⟩, fun q0 => (by obtain ⟨g, e, hg, h⟩ := hh10 q0; exact ⟨g, e, hg, h.kept (grown_setsS _ _ _ _ _ _ _ _ _) (by intro e1; have e2 : g = gq := (by injection e1); subst e2; exact hx0 hd7 (hx2 q0) e.symm)⟩), hx0, fun _ => hd7, hx2⟩
      · -- operation 10
        cases ho
        obtain rfl := hh6 (hdep ⟨6, .data⟩ (by simp) rfl)
        have hd8 := hdep ⟨8, .data⟩ (by simp) rfl
        obtain ⟨gq, rfl, hgq, z0, z1, z2, z3, z4, z5, z6, hbx⟩ := hh8 hd8
        have ii0 := hbx.c0
        have ii1 := hbx.c1
        have ii2 := hbx.c2
        have ii3 := hbx.c3
        have ii4 := hbx.c4
        have ii5 := hbx.c5
        have ii6 := hbx.c6
        have jj0 := hbx.fz 0
        have jj1 := hbx.fz 1
        have jj2 := hbx.fz 2
        have jj3 := hbx.fz 3
        have jj4 := hbx.fz 4
        have jj5 := hbx.fz 5
        have jj6 := hbx.fz 6
        go_simp
        exact hK _ _ ⟨_, _, _, _, _, _, _, _, _, rfl, setsS_below hB hgq _ _ _ _ _ _ _, hh0, hh1, hh2, hh3, hh4, hh5, hh6, fun q0 => (by obtain ⟨g, e, hg, a0, a1, a2, a3, a4, a5, a6, h⟩ := hh7 q0; exact ⟨g, e, hg, a0, a1, a2, a3, a4, a5, a6, h.kept (grown_setsS _ _ _ _ _ _ _ _ _) (by intro e1; have e2 : g = gq := (by injection e1); subst e2; exact hx0 q0 hd8 e)⟩), fun _ => ⟨gq, rfl, hgq, _, _, _, _, _, _, _, hbx.sets _ _ _ _ _ _ _⟩, fun q0 => (by obtain ⟨g, e, hg, h⟩ := hh9 q0; exact ⟨g, e, hg, h.kept (grown_setsS _ _ _ _ _ _ _ _ _) (by intro e1; have e2 : g = gq := (by injection e1); subst e2; exact hx0 (hx1 q0) hd8 e)⟩), fun _ => ⟨gq, rfl, hgq, hbx.sets _ _ _ _ _ _ _⟩, hx0, hx1, fun _ => hd8⟩
    intro Fl9 ac W hJ hall
    obtain ⟨x20, x21, x22, x23, x24, x25, x26, x8, x9, rfl, hB, hh0, hh1, hh2, hh3, hh4, hh5, hh6, hh7, hh8, hh9, hh10, -, -, -⟩ := hJ
    obtain rfl := hh0 (hall 0 (by decide))
    obtain rfl := hh1 (hall 1 (by decide))
    obtain rfl := hh3 (hall 3 (by decide))
    obtain rfl := hh4 (hall 4 (by decide))
    obtain rfl := hh5 (hall 5 (by decide))
    obtain rfl := hh2 (hall 2 (by decide))
    obtain rfl := hh6 (hall 6 (by decide))
    obtain ⟨g8, rfl, hg8, -⟩ := hh7 (hall 7 (by decide))
    obtain ⟨g9, rfl, hg9, -⟩ := hh8 (hall 8 (by decide))
    obtain ⟨ga8, e8, -, hb8⟩ := hh9 (hall 9 (by decide))
    obtain ⟨ga9, e9, -, hb9⟩ := hh10 (hall 10 (by decide))
    clear hall
    obtain rfl : g8 = ga8 := by injection e8 with e8; injection e8 with e8; injection e8 with e8 _ _
    obtain rfl : g9 = ga9 := by injection e9 with e9; injection e9 with e9; injection e9 with e9 _ _
    clear e8 e9
    have HBW := Lib.hid (HB1.out.trans (hB.mono HB1.out.size))
    have QT := Lib.hid hb8
    have QO := Lib.hid hb9
    have hl8 := hb8.lt
    have hl9 := hb9.lt
    clear hB hb8 hb9 HB1 Q1 CT CO hg8 hg9
    have O3 := Lib.hid (World.ownsRow_made (size := 1) (e := 3) W #[] 0 (Nat.le_refl _) (by unfold maxLen; omega) rfl)
    have HB3 := Lib.hid (below1 W (.cells #[] 3))
    have hgle : W.heap.size ≤ W.heap.size := Nat.le_refl _
    have HG0 : Hid (w.heap.size ≤ W.heap.size) := Lib.hid HBW.out.size
    have HXT := Lib.hid hl8
    have HXO := Lib.hid hl9
    clear hl8 hl9
    -- LEAVES
    cases ga with
    | true =>
      have qt := BoxS.below QT.out HB3.out HXT.out
      have qo := BoxS.below QO.out HB3.out HXO.out
      have t1 := qt.c1
      have t2 := qt.c2
      have t3 := qt.c3
      have t5 := qt.c5
      have o1 := qo.c1
      have o2 := qo.c2
      have o4 := qo.c4
      have o6 := qo.c6
      clear qt qo
      go_wp2_with fail
      refine bodyPost_ret (results_tmp2 rfl _ _ _) rfl ?_
      exact givesP_mk true HBW.out HG0.out (o := []) O3.out HB3.out (by rw [HL.out]; rfl) hm
    | false =>
      cases gb with
      | true =>
        cases pb with
        | true =>
          by_cases hN : 0 < (N : Int)
          · cases pa with
            | true =>
              have HPL := Lib.hid (HL.out.trans (show planV false true true true x1 x3 y2 y4 N = ([y2, y4] : List Int) ++ (List.replicate N 9 ++ [x1]) from by simp [planV, (show 0 < N by omega)]))
              have qt := BoxS.below QT.out HB3.out HXT.out
              have qo := BoxS.below QO.out HB3.out HXO.out
              have t1 := qt.c1
              have t2 := qt.c2
              have t3 := qt.c3
              have t5 := qt.c5
              have o1 := qo.c1
              have o2 := qo.c2
              have o4 := qo.c4
              have o6 := qo.c6
              clear qt qo
              go_wp2_with (first | (at_builtin; refine wpList_append_own _ rfl (.tmp 33) (.tmp 36) 34 rfl W.heap.size 3 i0 (.int .i64 0) 1 8 Try.underlying34 hi hz0 hz1 hz2 rfl (by decide) (.slice (some ⟨W.heap.size, 0, none⟩) (0) 0) (0) _ rfl (O3.out.alloc _) ⟨W.heap.size + 1, 0, none⟩ 1 1 [.int .i64 y2] rfl rfl (by have h9 := cell_one_new (W.alloc (.cells #[] 3)) (.int .i64 y2) 3; rw [World.size_alloc] at h9; exact h9) (by simp [Value.oneCell']) (by unfold maxLen; omega) (by omega) (by have := (HB3.out).size; simp; omega) ?_; intro v1 w1 hown1 hgrow1 hnil1; obtain ⟨g1, c1, rfl, hg1⟩ := own_some hown1 (fun e => nomatch (hnil1.1 e).1); have hb1 := (HB3.out.alloc (Nat.le_trans hgle HB3.out.size) (.cells #[.int .i64 y2] 3)).grown hgrow1 (by have := (HB3.out).size; simp; omega) (fun q hq => by cases hq; assumption); clear t1 t2 t3 t5 o1 o2 o4 o6; have qt := BoxS.below QT.out hb1 HXT.out; have qo := BoxS.below QO.out hb1 HXO.out; have t1 := qt.c1; have t2 := qt.c2; have t3 := qt.c3; have t5 := qt.c5; have o1 := qo.c1; have o2 := qo.c2; have o4 := qo.c4; have o6 := qo.c6; clear qt qo; clear hnil1 hgrow1) | (at_builtin; refine wpList_append_own _ rfl (.tmp 40) (.tmp 43) 34 rfl W.heap.size 3 i0 (.int .i64 0) 1 8 Try.underlying34 hi hz0 hz1 hz2 rfl (by decide) (.slice (some ⟨g1, 0, none⟩) (1) c1) (1) _ rfl (hown1.alloc _) ⟨w1.heap.size, 0, none⟩ 1 1 [.int .i64 y4] rfl rfl (cell_one_new _ _ _) (by simp [Value.oneCell']) (by unfold maxLen; omega) (by omega) (by have := (hb1).size; simp; omega) ?_; intro v1 w1 hown1 hgrow1 hnil1; obtain ⟨g1, c1, rfl, hg1⟩ := own_some hown1 (fun e => nomatch (hnil1.1 e).1); have hb1 := (hb1.alloc (Nat.le_trans hgle hb1.size) (.cells #[.int .i64 y4] 3)).grown hgrow1 (by have := (hb1).size; simp; omega) (fun q hq => by cases hq; assumption); clear t1 t2 t3 t5 o1 o2 o4 o6; have qt := BoxS.below QT.out hb1 HXT.out; have qo := BoxS.below QO.out hb1 HXO.out; have t1 := qt.c1; have t2 := qt.c2; have t3 := qt.c3; have t5 := qt.c5; have o1 := qo.c1; have o2 := qo.c2; have o4 := qo.c4; have o6 := qo.c6; clear qt qo; clear hnil1 hgrow1))
              have O_9 : Hid (w1.ownsRow W.heap.size 3 1 (.slice (some ⟨g1, 0, none⟩) 2 c1) 2 (([y2, y4] : List Int).map (.int .i64))) := Lib.hid hown1
              have HB_9 : Hid (Below W.heap.size W w1) := Lib.hid hb1
              clear hown1 hb1 O3 HB3
              refine (repI_any N hN40 _ _ _ (sNew _ _ _ 0)).mono ?_
              rintro e w6 ⟨gr, rfl, -, hce, hb⟩
              have HB6 := Lib.hid ((HB_9.out.alloc (Nat.le_trans hgle HB_9.out.size) (.cells #[.int .i64 9] 3)).trans (hb.mono (by have := HB_9.out.size; simp; omega)))
              have O6 := Lib.hid (own_below (O_9.out.alloc (.cells #[.int .i64 9] 3)) hb)
              have HCE := Lib.hid (show ∀ j u', (List.replicate N (Value.int .i64 9))[j]? = some u' → w6.cell? ((⟨gr, 0, none⟩ : Addr).add j) = some u' from fun j u' hj => by
                rw [show (⟨gr, 0, none⟩ : Addr).add j = ⟨gr, j, none⟩ from (by unfold Addr.add; split <;> simp_all)]
                exact hce j u' hj)
              clear hb hce O_9 HB_9 t1 t2 t3 t5 o1 o2 o4 o6
              have hb6 := HB6.out
              have qt := BoxS.below QT.out HB6.out HXT.out
              have qo := BoxS.below QO.out HB6.out HXO.out
              have t1 := qt.c1
              have t2 := qt.c2
              have t3 := qt.c3
              have t5 := qt.c5
              have o1 := qo.c1
              have o2 := qo.c2
              have o4 := qo.c4
              have o6 := qo.c6
              clear qt qo
              clear hb6
              go_wp2_with (first | (at_builtin; refine wpList_append_own _ rfl (.tmp 57) (.tmp 60) 34 rfl W.heap.size 3 i0 (.int .i64 0) 1 8 Try.underlying34 hi hz0 hz1 hz2 rfl (by decide) (.slice (some ⟨g1, 0, none⟩) (2) c1) (2) _ rfl O6.out ⟨gr, 0, none⟩ N N (List.replicate N (.int .i64 9)) rfl (by rw [List.length_replicate, Nat.mul_one]) HCE.out (fun u hu => by rw [(List.mem_replicate.1 hu).2]; rfl) (by unfold maxLen; omega) (by omega) (by have := HB6.out.size; omega) ?_; intro v1 w1 hown1 hgrow1 hnil1; obtain ⟨g1, c1, rfl, hg1⟩ := own_some hown1 (fun e => nomatch (hnil1.1 e).1); have hb1 := HB6.out.grown hgrow1 (by have := HB6.out.size; omega) (fun q hq => by cases hq; assumption); clear t1 t2 t3 t5 o1 o2 o4 o6; have qt := BoxS.below QT.out hb1 HXT.out; have qo := BoxS.below QO.out hb1 HXO.out; have t1 := qt.c1; have t2 := qt.c2; have t3 := qt.c3; have t5 := qt.c5; have o1 := qo.c1; have o2 := qo.c2; have o4 := qo.c4; have o6 := qo.c6; clear qt qo; clear hnil1 hgrow1) | (at_builtin; refine wpList_append_own _ rfl (.tmp 62) (.tmp 65) 34 rfl W.heap.size 3 i0 (.int .i64 0) 1 8 Try.underlying34 hi hz0 hz1 hz2 rfl (by decide) (.slice (some ⟨g1, 0, none⟩) (2 + N) c1) (2 + N) _ rfl (hown1.alloc _) ⟨w1.heap.size, 0, none⟩ 1 1 [.int .i64 x1] rfl rfl (cell_one_new _ _ _) (by simp [Value.oneCell']) (by unfold maxLen; omega) (by omega) (by have := (hb1).size; simp; omega) ?_; intro v1 w1 hown1 hgrow1 hnil1; obtain ⟨g1, c1, rfl, hg1⟩ := own_some hown1 (fun e => nomatch (hnil1.1 e).1); have hb1 := (hb1.alloc (Nat.le_trans hgle hb1.size) (.cells #[.int .i64 x1] 3)).grown hgrow1 (by have := (hb1).size; simp; omega) (fun q hq => by cases hq; assumption); clear t1 t2 t3 t5 o1 o2 o4 o6; have qt := BoxS.below QT.out hb1 HXT.out; have qo := BoxS.below QO.out hb1 HXO.out; have t1 := qt.c1; have t2 := qt.c2; have t3 := qt.c3; have t5 := qt.c5; have o1 := qo.c1; have o2 := qo.c2; have o4 := qo.c4; have o6 := qo.c6; clear qt qo; clear hnil1 hgrow1))
              have O9 : Hid (w1.ownsRow W.heap.size 3 1 (.slice (some ⟨g1, 0, none⟩) (2 + N + 1) c1) (2 + N + 1) (([y2, y4] ++ (List.replicate N 9 ++ [x1]) : List Int).map (.int .i64))) := Lib.hid (by
                rw [show (([y2, y4] ++ (List.replicate N 9 ++ [x1]) : List Int).map (Value.int .i64)) = ((([y2, y4] : List Int).map (.int .i64)) ++ List.replicate N (.int .i64 9)) ++ [.int .i64 x1] from by simp]
                exact hown1)
              have HB9 : Hid (Below W.heap.size W w1) := Lib.hid hb1
              clear hown1 hb1 O6 HB6 HCE
              try go_wp2_with fail
              refine bodyPost_ret (results_tmp2 rfl _ _ _) rfl ?_
              exact givesP_mk true HBW.out HG0.out O9.out HB9.out HPL.out hm
            | false =>
              have HPL := Lib.hid (HL.out.trans (show planV false false true true x1 x3 y2 y4 N = ([y2, y4, x3] : List Int) ++ (List.replicate N 9 ++ [x1]) from by simp [planV, (show 0 < N by omega)]))
              have qt := BoxS.below QT.out HB3.out HXT.out
              have qo := BoxS.below QO.out HB3.out HXO.out
              have t1 := qt.c1
              have t2 := qt.c2
              have t3 := qt.c3
              have t5 := qt.c5
              have o1 := qo.c1
              have o2 := qo.c2
              have o4 := qo.c4
              have o6 := qo.c6
              clear qt qo
              go_wp2_with (first | (at_builtin; refine wpList_append_own _ rfl (.tmp 33) (.tmp 36) 34 rfl W.heap.size 3 i0 (.int .i64 0) 1 8 Try.underlying34 hi hz0 hz1 hz2 rfl (by decide) (.slice (some ⟨W.heap.size, 0, none⟩) (0) 0) (0) _ rfl (O3.out.alloc _) ⟨W.heap.size + 1, 0, none⟩ 1 1 [.int .i64 y2] rfl rfl (by have h9 := cell_one_new (W.alloc (.cells #[] 3)) (.int .i64 y2) 3; rw [World.size_alloc] at h9; exact h9) (by simp [Value.oneCell']) (by unfold maxLen; omega) (by omega) (by have := (HB3.out).size; simp; omega) ?_; intro v1 w1 hown1 hgrow1 hnil1; obtain ⟨g1, c1, rfl, hg1⟩ := own_some hown1 (fun e => nomatch (hnil1.1 e).1); have hb1 := (HB3.out.alloc (Nat.le_trans hgle HB3.out.size) (.cells #[.int .i64 y2] 3)).grown hgrow1 (by have := (HB3.out).size; simp; omega) (fun q hq => by cases hq; assumption); clear t1 t2 t3 t5 o1 o2 o4 o6; have qt := BoxS.below QT.out hb1 HXT.out; have qo := BoxS.below QO.out hb1 HXO.out; have t1 := qt.c1; have t2 := qt.c2; have t3 := qt.c3; have t5 := qt.c5; have o1 := qo.c1; have o2 := qo.c2; have o4 := qo.c4; have o6 := qo.c6; clear qt qo; clear hnil1 hgrow1) | (at_builtin; refine wpList_append_own _ rfl (.tmp 40) (.tmp 43) 34 rfl W.heap.size 3 i0 (.int .i64 0) 1 8 Try.underlying34 hi hz0 hz1 hz2 rfl (by decide) (.slice (some ⟨g1, 0, none⟩) (1) c1) (1) _ rfl (hown1.alloc _) ⟨w1.heap.size, 0, none⟩ 1 1 [.int .i64 y4] rfl rfl (cell_one_new _ _ _) (by simp [Value.oneCell']) (by unfold maxLen; omega) (by omega) (by have := (hb1).size; simp; omega) ?_; intro v1 w1 hown1 hgrow1 hnil1; obtain ⟨g1, c1, rfl, hg1⟩ := own_some hown1 (fun e => nomatch (hnil1.1 e).1); have hb1 := (hb1.alloc (Nat.le_trans hgle hb1.size) (.cells #[.int .i64 y4] 3)).grown hgrow1 (by have := (hb1).size; simp; omega) (fun q hq => by cases hq; assumption); clear t1 t2 t3 t5 o1 o2 o4 o6; have qt := BoxS.below QT.out hb1 HXT.out; have qo := BoxS.below QO.out hb1 HXO.out; have t1 := qt.c1; have t2 := qt.c2; have t3 := qt.c3; have t5 := qt.c5; have o1 := qo.c1; have o2 := qo.c2; have o4 := qo.c4; have o6 := qo.c6; clear qt qo; clear hnil1 hgrow1) | (at_builtin; refine wpList_append_own _ rfl (.tmp 52) (.tmp 55) 34 rfl W.heap.size 3 i0 (.int .i64 0) 1 8 Try.underlying34 hi hz0 hz1 hz2 rfl (by decide) (.slice (some ⟨g1, 0, none⟩) (2) c1) (2) _ rfl (hown1.alloc _) ⟨w1.heap.size, 0, none⟩ 1 1 [.int .i64 x3] rfl rfl (cell_one_new _ _ _) (by simp [Value.oneCell']) (by unfold maxLen; omega) (by omega) (by have := (hb1).size; simp; omega) ?_; intro v1 w1 hown1 hgrow1 hnil1; obtain ⟨g1, c1, rfl, hg1⟩ := own_some hown1 (fun e => nomatch (hnil1.1 e).1); have hb1 := (hb1.alloc (Nat.le_trans hgle hb1.size) (.cells #[.int .i64 x3] 3)).grown hgrow1 (by have := (hb1).size; simp; omega) (fun q hq => by cases hq; assumption); clear t1 t2 t3 t5 o1 o2 o4 o6; have qt := BoxS.below QT.out hb1 HXT.out; have qo := BoxS.below QO.out hb1 HXO.out; have t1 := qt.c1; have t2 := qt.c2; have t3 := qt.c3; have t5 := qt.c5; have o1 := qo.c1; have o2 := qo.c2; have o4 := qo.c4; have o6 := qo.c6; clear qt qo; clear hnil1 hgrow1))
              have O_9 : Hid (w1.ownsRow W.heap.size 3 1 (.slice (some ⟨g1, 0, none⟩) 3 c1) 3 (([y2, y4, x3] : List Int).map (.int .i64))) := Lib.hid hown1
              have HB_9 : Hid (Below W.heap.size W w1) := Lib.hid hb1
              clear hown1 hb1 O3 HB3
              refine (repI_any N hN40 _ _ _ (sNew _ _ _ 0)).mono ?_
              rintro e w6 ⟨gr, rfl, -, hce, hb⟩
              have HB6 := Lib.hid ((HB_9.out.alloc (Nat.le_trans hgle HB_9.out.size) (.cells #[.int .i64 9] 3)).trans (hb.mono (by have := HB_9.out.size; simp; omega)))
              have O6 := Lib.hid (own_below (O_9.out.alloc (.cells #[.int .i64 9] 3)) hb)
              have HCE := Lib.hid (show ∀ j u', (List.replicate N (Value.int .i64 9))[j]? = some u' → w6.cell? ((⟨gr, 0, none⟩ : Addr).add j) = some u' from fun j u' hj => by
                rw [show (⟨gr, 0, none⟩ : Addr).add j = ⟨gr, j, none⟩ from (by unfold Addr.add; split <;> simp_all)]
                exact hce j u' hj)
              clear hb hce O_9 HB_9 t1 t2 t3 t5 o1 o2 o4 o6
              have hb6 := HB6.out
              have qt := BoxS.below QT.out HB6.out HXT.out
              have qo := BoxS.below QO.out HB6.out HXO.out
              have t1 := qt.c1
              have t2 := qt.c2
              have t3 := qt.c3
              have t5 := qt.c5
              have o1 := qo.c1
              have o2 := qo.c2
              have o4 := qo.c4
              have o6 := qo.c6
              clear qt qo
              clear hb6
              go_wp2_with (first | (at_builtin; refine wpList_append_own _ rfl (.tmp 57) (.tmp 60) 34 rfl W.heap.size 3 i0 (.int .i64 0) 1 8 Try.underlying34 hi hz0 hz1 hz2 rfl (by decide) (.slice (some ⟨g1, 0, none⟩) (3) c1) (3) _ rfl O6.out ⟨gr, 0, none⟩ N N (List.replicate N (.int .i64 9)) rfl (by rw [List.length_replicate, Nat.mul_one]) HCE.out (fun u hu => by rw [(List.mem_replicate.1 hu).2]; rfl) (by unfold maxLen; omega) (by omega) (by have := HB6.out.size; omega) ?_; intro v1 w1 hown1 hgrow1 hnil1; obtain ⟨g1, c1, rfl, hg1⟩ := own_some hown1 (fun e => nomatch (hnil1.1 e).1); have hb1 := HB6.out.grown hgrow1 (by have := HB6.out.size; omega) (fun q hq => by cases hq; assumption); clear t1 t2 t3 t5 o1 o2 o4 o6; have qt := BoxS.below QT.out hb1 HXT.out; have qo := BoxS.below QO.out hb1 HXO.out; have t1 := qt.c1; have t2 := qt.c2; have t3 := qt.c3; have t5 := qt.c5; have o1 := qo.c1; have o2 := qo.c2; have o4 := qo.c4; have o6 := qo.c6; clear qt qo; clear hnil1 hgrow1) | (at_builtin; refine wpList_append_own _ rfl (.tmp 62) (.tmp 65) 34 rfl W.heap.size 3 i0 (.int .i64 0) 1 8 Try.underlying34 hi hz0 hz1 hz2 rfl (by decide) (.slice (some ⟨g1, 0, none⟩) (3 + N) c1) (3 + N) _ rfl (hown1.alloc _) ⟨w1.heap.size, 0, none⟩ 1 1 [.int .i64 x1] rfl rfl (cell_one_new _ _ _) (by simp [Value.oneCell']) (by unfold maxLen; omega) (by omega) (by have := (hb1).size; simp; omega) ?_; intro v1 w1 hown1 hgrow1 hnil1; obtain ⟨g1, c1, rfl, hg1⟩ := own_some hown1 (fun e => nomatch (hnil1.1 e).1); have hb1 := (hb1.alloc (Nat.le_trans hgle hb1.size) (.cells #[.int .i64 x1] 3)).grown hgrow1 (by have := (hb1).size; simp; omega) (fun q hq => by cases hq; assumption); clear t1 t2 t3 t5 o1 o2 o4 o6; have qt := BoxS.below QT.out hb1 HXT.out; have qo := BoxS.below QO.out hb1 HXO.out; have t1 := qt.c1; have t2 := qt.c2; have t3 := qt.c3; have t5 := qt.c5; have o1 := qo.c1; have o2 := qo.c2; have o4 := qo.c4; have o6 := qo.c6; clear qt qo; clear hnil1 hgrow1))
              have O9 : Hid (w1.ownsRow W.heap.size 3 1 (.slice (some ⟨g1, 0, none⟩) (3 + N + 1) c1) (3 + N + 1) (([y2, y4, x3] ++ (List.replicate N 9 ++ [x1]) : List Int).map (.int .i64))) := Lib.hid (by
                rw [show (([y2, y4, x3] ++ (List.replicate N 9 ++ [x1]) : List Int).map (Value.int .i64)) = ((([y2, y4, x3] : List Int).map (.int .i64)) ++ List.replicate N (.int .i64 9)) ++ [.int .i64 x1] from by simp]
                exact hown1)
              have HB9 : Hid (Below W.heap.size W w1) := Lib.hid hb1
              clear hown1 hb1 O6 HB6 HCE
              try go_wp2_with fail
              refine bodyPost_ret (results_tmp2 rfl _ _ _) rfl ?_
              exact givesP_mk true HBW.out HG0.out O9.out HB9.out HPL.out hm
          · have hN9 : N = 0 := by omega
            have HPL := Lib.hid (HL.out.trans (show planV false pa true true x1 x3 y2 y4 N = ([y2, y4] : List Int) ++ (List.replicate N 9 ++ [x1]) from by simp [planV, hN9]))
            clear hN9
            have qt := BoxS.below QT.out HB3.out HXT.out
            have qo := BoxS.below QO.out HB3.out HXO.out
            have t1 := qt.c1
            have t2 := qt.c2
            have t3 := qt.c3
            have t5 := qt.c5
            have o1 := qo.c1
            have o2 := qo.c2
            have o4 := qo.c4
            have o6 := qo.c6
            clear qt qo
            go_wp2_with (first | (at_builtin; refine wpList_append_own _ rfl (.tmp 33) (.tmp 36) 34 rfl W.heap.size 3 i0 (.int .i64 0) 1 8 Try.underlying34 hi hz0 hz1 hz2 rfl (by decide) (.slice (some ⟨W.heap.size, 0, none⟩) (0) 0) (0) _ rfl (O3.out.alloc _) ⟨W.heap.size + 1, 0, none⟩ 1 1 [.int .i64 y2] rfl rfl (by have h9 := cell_one_new (W.alloc (.cells #[] 3)) (.int .i64 y2) 3; rw [World.size_alloc] at h9; exact h9) (by simp [Value.oneCell']) (by unfold maxLen; omega) (by omega) (by have := (HB3.out).size; simp; omega) ?_; intro v1 w1 hown1 hgrow1 hnil1; obtain ⟨g1, c1, rfl, hg1⟩ := own_some hown1 (fun e => nomatch (hnil1.1 e).1); have hb1 := (HB3.out.alloc (Nat.le_trans hgle HB3.out.size) (.cells #[.int .i64 y2] 3)).grown hgrow1 (by have := (HB3.out).size; simp; omega) (fun q hq => by cases hq; assumption); clear t1 t2 t3 t5 o1 o2 o4 o6; have qt := BoxS.below QT.out hb1 HXT.out; have qo := BoxS.below QO.out hb1 HXO.out; have t1 := qt.c1; have t2 := qt.c2; have t3 := qt.c3; have t5 := qt.c5; have o1 := qo.c1; have o2 := qo.c2; have o4 := qo.c4; have o6 := qo.c6; clear qt qo; clear hnil1 hgrow1) | (at_builtin; refine wpList_append_own _ rfl (.tmp 40) (.tmp 43) 34 rfl W.heap.size 3 i0 (.int .i64 0) 1 8 Try.underlying34 hi hz0 hz1 hz2 rfl (by decide) (.slice (some ⟨g1, 0, none⟩) (1) c1) (1) _ rfl (hown1.alloc _) ⟨w1.heap.size, 0, none⟩ 1 1 [.int .i64 y4] rfl rfl (cell_one_new _ _ _) (by simp [Value.oneCell']) (by unfold maxLen; omega) (by omega) (by have := (hb1).size; simp; omega) ?_; intro v1 w1 hown1 hgrow1 hnil1; obtain ⟨g1, c1, rfl, hg1⟩ := own_some hown1 (fun e => nomatch (hnil1.1 e).1); have hb1 := (hb1.alloc (Nat.le_trans hgle hb1.size) (.cells #[.int .i64 y4] 3)).grown hgrow1 (by have := (hb1).size; simp; omega) (fun q hq => by cases hq; assumption); clear t1 t2 t3 t5 o1 o2 o4 o6; have qt := BoxS.below QT.out hb1 HXT.out; have qo := BoxS.below QO.out hb1 HXO.out; have t1 := qt.c1; have t2 := qt.c2; have t3 := qt.c3; have t5 := qt.c5; have o1 := qo.c1; have o2 := qo.c2; have o4 := qo.c4; have o6 := qo.c6; clear qt qo; clear hnil1 hgrow1))
            have O_9 : Hid (w1.ownsRow W.heap.size 3 1 (.slice (some ⟨g1, 0, none⟩) 2 c1) 2 (([y2, y4] : List Int).map (.int .i64))) := Lib.hid hown1
            have HB_9 : Hid (Below W.heap.size W w1) := Lib.hid hb1
            clear hown1 hb1 O3 HB3
            refine (repI_any N hN40 _ _ _ (sNew _ _ _ 0)).mono ?_
            rintro e w6 ⟨gr, rfl, -, hce, hb⟩
            have HB6 := Lib.hid ((HB_9.out.alloc (Nat.le_trans hgle HB_9.out.size) (.cells #[.int .i64 9] 3)).trans (hb.mono (by have := HB_9.out.size; simp; omega)))
            have O6 := Lib.hid (own_below (O_9.out.alloc (.cells #[.int .i64 9] 3)) hb)
            have HCE := Lib.hid (show ∀ j u', (List.replicate N (Value.int .i64 9))[j]? = some u' → w6.cell? ((⟨gr, 0, none⟩ : Addr).add j) = some u' from fun j u' hj => by
              rw [show (⟨gr, 0, none⟩ : Addr).add j = ⟨gr, j, none⟩ from (by unfold Addr.add; split <;> simp_all)]
              exact hce j u' hj)
            clear hb hce O_9 HB_9 t1 t2 t3 t5 o1 o2 o4 o6
            have hb6 := HB6.out
            have qt := BoxS.below QT.out HB6.out HXT.out
            have qo := BoxS.below QO.out HB6.out HXO.out
            have t1 := qt.c1
            have t2 := qt.c2
            have t3 := qt.c3
            have t5 := qt.c5
            have o1 := qo.c1
            have o2 := qo.c2
            have o4 := qo.c4
            have o6 := qo.c6
            clear qt qo
            clear hb6
            go_wp2_with (first | (at_builtin; refine wpList_append_own _ rfl (.tmp 57) (.tmp 60) 34 rfl W.heap.size 3 i0 (.int .i64 0) 1 8 Try.underlying34 hi hz0 hz1 hz2 rfl (by decide) (.slice (some ⟨g1, 0, none⟩) (2) c1) (2) _ rfl O6.out ⟨gr, 0, none⟩ N N (List.replicate N (.int .i64 9)) rfl (by rw [List.length_replicate, Nat.mul_one]) HCE.out (fun u hu => by rw [(List.mem_replicate.1 hu).2]; rfl) (by unfold maxLen; omega) (by omega) (by have := HB6.out.size; omega) ?_; intro v1 w1 hown1 hgrow1 hnil1; obtain ⟨g1, c1, rfl, hg1⟩ := own_some hown1 (fun e => nomatch (hnil1.1 e).1); have hb1 := HB6.out.grown hgrow1 (by have := HB6.out.size; omega) (fun q hq => by cases hq; assumption); clear t1 t2 t3 t5 o1 o2 o4 o6; have qt := BoxS.below QT.out hb1 HXT.out; have qo := BoxS.below QO.out hb1 HXO.out; have t1 := qt.c1; have t2 := qt.c2; have t3 := qt.c3; have t5 := qt.c5; have o1 := qo.c1; have o2 := qo.c2; have o4 := qo.c4; have o6 := qo.c6; clear qt qo; clear hnil1 hgrow1) | (at_builtin; refine wpList_append_own _ rfl (.tmp 62) (.tmp 65) 34 rfl W.heap.size 3 i0 (.int .i64 0) 1 8 Try.underlying34 hi hz0 hz1 hz2 rfl (by decide) (.slice (some ⟨g1, 0, none⟩) (2 + N) c1) (2 + N) _ rfl (hown1.alloc _) ⟨w1.heap.size, 0, none⟩ 1 1 [.int .i64 x1] rfl rfl (cell_one_new _ _ _) (by simp [Value.oneCell']) (by unfold maxLen; omega) (by omega) (by have := (hb1).size; simp; omega) ?_; intro v1 w1 hown1 hgrow1 hnil1; obtain ⟨g1, c1, rfl, hg1⟩ := own_some hown1 (fun e => nomatch (hnil1.1 e).1); have hb1 := (hb1.alloc (Nat.le_trans hgle hb1.size) (.cells #[.int .i64 x1] 3)).grown hgrow1 (by have := (hb1).size; simp; omega) (fun q hq => by cases hq; assumption); clear t1 t2 t3 t5 o1 o2 o4 o6; have qt := BoxS.below QT.out hb1 HXT.out; have qo := BoxS.below QO.out hb1 HXO.out; have t1 := qt.c1; have t2 := qt.c2; have t3 := qt.c3; have t5 := qt.c5; have o1 := qo.c1; have o2 := qo.c2; have o4 := qo.c4; have o6 := qo.c6; clear qt qo; clear hnil1 hgrow1))
            have O9 : Hid (w1.ownsRow W.heap.size 3 1 (.slice (some ⟨g1, 0, none⟩) (2 + N + 1) c1) (2 + N + 1) (([y2, y4] ++ (List.replicate N 9 ++ [x1]) : List Int).map (.int .i64))) := Lib.hid (by
              rw [show (([y2, y4] ++ (List.replicate N 9 ++ [x1]) : List Int).map (Value.int .i64)) = ((([y2, y4] : List Int).map (.int .i64)) ++ List.replicate N (.int .i64 9)) ++ [.int .i64 x1] from by simp]
              exact hown1)
            have HB9 : Hid (Below W.heap.size W w1) := Lib.hid hb1
            clear hown1 hb1 O6 HB6 HCE
            try go_wp2_with fail
            refine bodyPost_ret (results_tmp2 rfl _ _ _) rfl ?_
            exact givesP_mk true HBW.out HG0.out O9.out HB9.out HPL.out hm
        | false =>
          by_cases hN : 0 < (N : Int)
          · cases pa with
            | true =>
              have HPL := Lib.hid (HL.out.trans (show planV false true true false x1 x3 y2 y4 N = ([y2] : List Int) ++ (List.replicate N 9 ++ [x1]) from by simp [planV, (show 0 < N by omega)]))
              have qt := BoxS.below QT.out HB3.out HXT.out
              have qo := BoxS.below QO.out HB3.out HXO.out
              have t1 := qt.c1
              have t2 := qt.c2
              have t3 := qt.c3
              have t5 := qt.c5
              have o1 := qo.c1
              have o2 := qo.c2
              have o4 := qo.c4
              have o6 := qo.c6
              clear qt qo
              go_wp2_with (at_builtin; refine wpList_append_own _ rfl (.tmp 33) (.tmp 36) 34 rfl W.heap.size 3 i0 (.int .i64 0) 1 8 Try.underlying34 hi hz0 hz1 hz2 rfl (by decide) (.slice (some ⟨W.heap.size, 0, none⟩) (0) 0) (0) _ rfl (O3.out.alloc _) ⟨W.heap.size + 1, 0, none⟩ 1 1 [.int .i64 y2] rfl rfl (by have h9 := cell_one_new (W.alloc (.cells #[] 3)) (.int .i64 y2) 3; rw [World.size_alloc] at h9; exact h9) (by simp [Value.oneCell']) (by unfold maxLen; omega) (by omega) (by have := (HB3.out).size; simp; omega) ?_; intro v1 w1 hown1 hgrow1 hnil1; obtain ⟨g1, c1, rfl, hg1⟩ := own_some hown1 (fun e => nomatch (hnil1.1 e).1); have hb1 := (HB3.out.alloc (Nat.le_trans hgle HB3.out.size) (.cells #[.int .i64 y2] 3)).grown hgrow1 (by have := (HB3.out).size; simp; omega) (fun q hq => by cases hq; assumption); clear t1 t2 t3 t5 o1 o2 o4 o6; have qt := BoxS.below QT.out hb1 HXT.out; have qo := BoxS.below QO.out hb1 HXO.out; have t1 := qt.c1; have t2 := qt.c2; have t3 := qt.c3; have t5 := qt.c5; have o1 := qo.c1; have o2 := qo.c2; have o4 := qo.c4; have o6 := qo.c6; clear qt qo; clear hnil1 hgrow1)
              have O_9 : Hid (w1.ownsRow W.heap.size 3 1 (.slice (some ⟨g1, 0, none⟩) 1 c1) 1 (([y2] : List Int).map (.int .i64))) := Lib.hid hown1
              have HB_9 : Hid (Below W.heap.size W w1) := Lib.hid hb1
              clear hown1 hb1 O3 HB3
              refine (repI_any N hN40 _ _ _ (sNew _ _ _ 0)).mono ?_
              rintro e w6 ⟨gr, rfl, -, hce, hb⟩
              have HB6 := Lib.hid ((HB_9.out.alloc (Nat.le_trans hgle HB_9.out.size) (.cells #[.int .i64 9] 3)).trans (hb.mono (by have := HB_9.out.size; simp; omega)))
              have O6 := Lib.hid (own_below (O_9.out.alloc (.cells #[.int .i64 9] 3)) hb)
              have HCE := Lib.hid (show ∀ j u', (List.replicate N (Value.int .i64 9))[j]? = some u' → w6.cell? ((⟨gr, 0, none⟩ : Addr).add j) = some u' from fun j u' hj => by
                rw [show (⟨gr, 0, none⟩ : Addr).add j = ⟨gr, j, none⟩ from (by unfold Addr.add; split <;> simp_all)]
                exact hce j u' hj)
              clear hb hce O_9 HB_9 t1 t2 t3 t5 o1 o2 o4 o6
              have hb6 := HB6.out
              have qt := BoxS.below QT.out HB6.out HXT.out
              have qo := BoxS.below QO.out HB6.out HXO.out
              have t1 := qt.c1
              have t2 := qt.c2
              have t3 := qt.c3
              have t5 := qt.c5
              have o1 := qo.c1
              have o2 := qo.c2
              have o4 := qo.c4
              have o6 := qo.c6
              clear qt qo
              clear hb6
              go_wp2_with (first | (at_builtin; refine wpList_append_own _ rfl (.tmp 57) (.tmp 60) 34 rfl W.heap.size 3 i0 (.int .i64 0) 1 8 Try.underlying34 hi hz0 hz1 hz2 rfl (by decide) (.slice (some ⟨g1, 0, none⟩) (1) c1) (1) _ rfl O6.out ⟨gr, 0, none⟩ N N (List.replicate N (.int .i64 9)) rfl (by rw [List.length_replicate, Nat.mul_one]) HCE.out (fun u hu => by rw [(List.mem_replicate.1 hu).2]; rfl) (by unfold maxLen; omega) (by omega) (by have := HB6.out.size; omega) ?_; intro v1 w1 hown1 hgrow1 hnil1; obtain ⟨g1, c1, rfl, hg1⟩ := own_some hown1 (fun e => nomatch (hnil1.1 e).1); have hb1 := HB6.out.grown hgrow1 (by have := HB6.out.size; omega) (fun q hq => by cases hq; assumption); clear t1 t2 t3 t5 o1 o2 o4 o6; have qt := BoxS.below QT.out hb1 HXT.out; have qo := BoxS.below QO.out hb1 HXO.out; have t1 := qt.c1; have t2 := qt.c2; have t3 := qt.c3; have t5 := qt.c5; have o1 := qo.c1; have o2 := qo.c2; have o4 := qo.c4; have o6 := qo.c6; clear qt qo; clear hnil1 hgrow1) | (at_builtin; refine wpList_append_own _ rfl (.tmp 62) (.tmp 65) 34 rfl W.heap.size 3 i0 (.int .i64 0) 1 8 Try.underlying34 hi hz0 hz1 hz2 rfl (by decide) (.slice (some ⟨g1, 0, none⟩) (1 + N) c1) (1 + N) _ rfl (hown1.alloc _) ⟨w1.heap.size, 0, none⟩ 1 1 [.int .i64 x1] rfl rfl (cell_one_new _ _ _) (by simp [Value.oneCell']) (by unfold maxLen; omega) (by omega) (by have := (hb1).size; simp; omega) ?_; intro v1 w1 hown1 hgrow1 hnil1; obtain ⟨g1, c1, rfl, hg1⟩ := own_some hown1 (fun e => nomatch (hnil1.1 e).1); have hb1 := (hb1.alloc (Nat.le_trans hgle hb1.size) (.cells #[.int .i64 x1] 3)).grown hgrow1 (by have := (hb1).size; simp; omega) (fun q hq => by cases hq; assumption); clear t1 t2 t3 t5 o1 o2 o4 o6; have qt := BoxS.below QT.out hb1 HXT.out; have qo := BoxS.below QO.out hb1 HXO.out; have t1 := qt.c1; have t2 := qt.c2; have t3 := qt.c3; have t5 := qt.c5; have o1 := qo.c1; have o2 := qo.c2; have o4 := qo.c4; have o6 := qo.c6; clear qt qo; clear hnil1 hgrow1))
              have O9 : Hid (w1.ownsRow W.heap.size 3 1 (.slice (some ⟨g1, 0, none⟩) (1 + N + 1) c1) (1 + N + 1) (([y2] ++ (List.replicate N 9 ++ [x1]) : List Int).map (.int .i64))) := Lib.hid (by
                rw [show (([y2] ++ (List.replicate N 9 ++ [x1]) : List Int).map (Value.int .i64)) = ((([y2] : List Int).map (.int .i64)) ++ List.replicate N (.int .i64 9)) ++ [.int .i64 x1] from by simp]
                exact hown1)
              have HB9 : Hid (Below W.heap.size W w1) := Lib.hid hb1
              clear hown1 hb1 O6 HB6 HCE
              try go_wp2_with fail
              refine bodyPost_ret (results_tmp2 rfl _ _ _) rfl ?_
              exact givesP_mk true HBW.out HG0.out O9.out HB9.out HPL.out hm
            | false =>
              have HPL := Lib.hid (HL.out.trans (show planV false false true false x1 x3 y2 y4 N = ([y2, x3] : List Int) ++ (List.replicate N 9 ++ [x1]) from by simp [planV, (show 0 < N by omega)]))
              have qt := BoxS.below QT.out HB3.out HXT.out
              have qo := BoxS.below QO.out HB3.out HXO.out
              have t1 := qt.c1
              have t2 := qt.c2
              have t3 := qt.c3
              have t5 := qt.c5
              have o1 := qo.c1
              have o2 := qo.c2
              have o4 := qo.c4
              have o6 := qo.c6
              clear qt qo
              go_wp2_with (first | (at_builtin; refine wpList_append_own _ rfl (.tmp 33) (.tmp 36) 34 rfl W.heap.size 3 i0 (.int .i64 0) 1 8 Try.underlying34 hi hz0 hz1 hz2 rfl (by decide) (.slice (some ⟨W.heap.size, 0, none⟩) (0) 0) (0) _ rfl (O3.out.alloc _) ⟨W.heap.size + 1, 0, none⟩ 1 1 [.int .i64 y2] rfl rfl (by have h9 := cell_one_new (W.alloc (.cells #[] 3)) (.int .i64 y2) 3; rw [World.size_alloc] at h9; exact h9) (by simp [Value.oneCell']) (by unfold maxLen; omega) (by omega) (by have := (HB3.out).size; simp; omega) ?_; intro v1 w1 hown1 hgrow1 hnil1; obtain ⟨g1, c1, rfl, hg1⟩ := own_some hown1 (fun e => nomatch (hnil1.1 e).1); have hb1 := (HB3.out.alloc (Nat.le_trans hgle HB3.out.size) (.cells #[.int .i64 y2] 3)).grown hgrow1 (by have := (HB3.out).size; simp; omega) (fun q hq => by cases hq; assumption); clear t1 t2 t3 t5 o1 o2 o4 o6; have qt := BoxS.below QT.out hb1 HXT.out; have qo := BoxS.below QO.out hb1 HXO.out; have t1 := qt.c1; have t2 := qt.c2; have t3 := qt.c3; have t5 := qt.c5; have o1 := qo.c1; have o2 := qo.c2; have o4 := qo.c4; have o6 := qo.c6; clear qt qo; clear hnil1 hgrow1) | (at_builtin; refine wpList_append_own _ rfl (.tmp 52) (.tmp 55) 34 rfl W.heap.size 3 i0 (.int .i64 0) 1 8 Try.underlying34 hi hz0 hz1 hz2 rfl (by decide) (.slice (some ⟨g1, 0, none⟩) (1) c1) (1) _ rfl (hown1.alloc _) ⟨w1.heap.size, 0, none⟩ 1 1 [.int .i64 x3] rfl rfl (cell_one_new _ _ _) (by simp [Value.oneCell']) (by unfold maxLen; omega) (by omega) (by have := (hb1).size; simp; omega) ?_; intro v1 w1 hown1 hgrow1 hnil1; obtain ⟨g1, c1, rfl, hg1⟩ := own_some hown1 (fun e => nomatch (hnil1.1 e).1); have hb1 := (hb1.alloc (Nat.le_trans hgle hb1.size) (.cells #[.int .i64 x3] 3)).grown hgrow1 (by have := (hb1).size; simp; omega) (fun q hq => by cases hq; assumption); clear t1 t2 t3 t5 o1 o2 o4 o6; have qt := BoxS.below QT.out hb1 HXT.out; have qo := BoxS.below QO.out hb1 HXO.out; have t1 := qt.c1; have t2 := qt.c2; have t3 := qt.c3; have t5 := qt.c5; have o1 := qo.c1; have o2 := qo.c2; have o4 := qo.c4; have o6 := qo.c6; clear qt qo; clear hnil1 hgrow1))
              have O_9 : Hid (w1.ownsRow W.heap.size 3 1 (.slice (some ⟨g1, 0, none⟩) 2 c1) 2 (([y2, x3] : List Int).map (.int .i64))) := Lib.hid hown1
              have HB_9 : Hid (Below W.heap.size W w1) := Lib.hid hb1
              clear hown1 hb1 O3 HB3
              refine (repI_any N hN40 _ _ _ (sNew _ _ _ 0)).mono ?_
              rintro e w6 ⟨gr, rfl, -, hce, hb⟩
              have HB6 := Lib.hid ((HB_9.out.alloc (Nat.le_trans hgle HB_9.out.size) (.cells #[.int .i64 9] 3)).trans (hb.mono (by have := HB_9.out.size; simp; omega)))
              have O6 := Lib.hid (own_below (O_9.out.alloc (.cells #[.int .i64 9] 3)) hb)
              have HCE := Lib.hid (show ∀ j u', (List.replicate N (Value.int .i64 9))[j]? = some u' → w6.cell? ((⟨gr, 0, none⟩ : Addr).add j) = some u' from fun j u' hj => by
                rw [show (⟨gr, 0, none⟩ : Addr).add j = ⟨gr, j, none⟩ from (by unfold Addr.add; split <;> simp_all)]
                exact hce j u' hj)
              clear hb hce O_9 HB_9 t1 t2 t3 t5 o1 o2 o4 o6
              have hb6 := HB6.out
              have qt := BoxS.below QT.out HB6.out HXT.out
              have qo := BoxS.below QO.out HB6.out HXO.out
              have t1 := qt.c1
              have t2 := qt.c2
              have t3 := qt.c3
              have t5 := qt.c5
              have o1 := qo.c1
              have o2 := qo.c2
              have o4 := qo.c4
              have o6 := qo.c6
              clear qt qo
              clear hb6
              go_wp2_with (first | (at_builtin; refine wpList_append_own _ rfl (.tmp 57) (.tmp 60) 34 rfl W.heap.size 3 i0 (.int .i64 0) 1 8 Try.underlying34 hi hz0 hz1 hz2 rfl (by decide) (.slice (some ⟨g1, 0, none⟩) (2) c1) (2) _ rfl O6.out ⟨gr, 0, none⟩ N N (List.replicate N (.int .i64 9)) rfl (by rw [List.length_replicate, Nat.mul_one]) HCE.out (fun u hu => by rw [(List.mem_replicate.1 hu).2]; rfl) (by unfold maxLen; omega) (by omega) (by have := HB6.out.size; omega) ?_; intro v1 w1 hown1 hgrow1 hnil1; obtain ⟨g1, c1, rfl, hg1⟩ := own_some hown1 (fun e => nomatch (hnil1.1 e).1); have hb1 := HB6.out.grown hgrow1 (by have := HB6.out.size; omega) (fun q hq => by cases hq; assumption); clear t1 t2 t3 t5 o1 o2 o4 o6; have qt := BoxS.below QT.out hb1 HXT.out; have qo := BoxS.below QO.out hb1 HXO.out; have t1 := qt.c1; have t2 := qt.c2; have t3 := qt.c3; have t5 := qt.c5; have o1 := qo.c1; have o2 := qo.c2; have o4 := qo.c4; have o6 := qo.c6; clear qt qo; clear hnil1 hgrow1) | (at_builtin; refine wpList_append_own _ rfl (.tmp 62) (.tmp 65) 34 rfl W.heap.size 3 i0 (.int .i64 0) 1 8 Try.underlying34 hi hz0 hz1 hz2 rfl (by decide) (.slice (some ⟨g1, 0, none⟩) (2 + N) c1) (2 + N) _ rfl (hown1.alloc _) ⟨w1.heap.size, 0, none⟩ 1 1 [.int .i64 x1] rfl rfl (cell_one_new _ _ _) (by simp [Value.oneCell']) (by unfold maxLen; omega) (by omega) (by have := (hb1).size; simp; omega) ?_; intro v1 w1 hown1 hgrow1 hnil1; obtain ⟨g1, c1, rfl, hg1⟩ := own_some hown1 (fun e => nomatch (hnil1.1 e).1); have hb1 := (hb1.alloc (Nat.le_trans hgle hb1.size) (.cells #[.int .i64 x1] 3)).grown hgrow1 (by have := (hb1).size; simp; omega) (fun q hq => by cases hq; assumption); clear t1 t2 t3 t5 o1 o2 o4 o6; have qt := BoxS.below QT.out hb1 HXT.out; have qo := BoxS.below QO.out hb1 HXO.out; have t1 := qt.c1; have t2 := qt.c2; have t3 := qt.c3; have t5 := qt.c5; have o1 := qo.c1; have o2 := qo.c2; have o4 := qo.c4; have o6 := qo.c6; clear qt qo; clear hnil1 hgrow1))
              have O9 : Hid (w1.ownsRow W.heap.size 3 1 (.slice (some ⟨g1, 0, none⟩) (2 + N + 1) c1) (2 + N + 1) (([y2, x3] ++ (List.replicate N 9 ++ [x1]) : List Int).map (.int .i64))) := Lib.hid (by
                rw [show (([y2, x3] ++ (List.replicate N 9 ++ [x1]) : List Int).map (Value.int .i64)) = ((([y2, x3] : List Int).map (.int .i64)) ++ List.replicate N (.int .i64 9)) ++ [.int .i64 x1] from by simp]
                exact hown1)
              have HB9 : Hid (Below W.heap.size W w1) := Lib.hid hb1
              clear hown1 hb1 O6 HB6 HCE
              try go_wp2_with fail
              refine bodyPost_ret (results_tmp2 rfl _ _ _) rfl ?_
              exact givesP_mk true HBW.out HG0.out O9.out HB9.out HPL.out hm
          · have hN9 : N = 0 := by omega
            have HPL := Lib.hid (HL.out.trans (show planV false pa true false x1 x3 y2 y4 N = ([y2] : List Int) ++ (List.replicate N 9 ++ [x1]) from by simp [planV, hN9]))
            clear hN9
            have qt := BoxS.below QT.out HB3.out HXT.out
            have qo := BoxS.below QO.out HB3.out HXO.out
            have t1 := qt.c1
            have t2 := qt.c2
            have t3 := qt.c3
            have t5 := qt.c5
            have o1 := qo.c1
            have o2 := qo.c2
            have o4 := qo.c4
            have o6 := qo.c6
            clear qt qo
            go_wp2_with (at_builtin; refine wpList_append_own _ rfl (.tmp 33) (.tmp 36) 34 rfl W.heap.size 3 i0 (.int .i64 0) 1 8 Try.underlying34 hi hz0 hz1 hz2 rfl (by decide) (.slice (some ⟨W.heap.size, 0, none⟩) (0) 0) (0) _ rfl (O3.out.alloc _) ⟨W.heap.size + 1, 0, none⟩ 1 1 [.int .i64 y2] rfl rfl (by have h9 := cell_one_new (W.alloc (.cells #[] 3)) (.int .i64 y2) 3; rw [World.size_alloc] at h9; exact h9) (by simp [Value.oneCell']) (by unfold maxLen; omega) (by omega) (by have := (HB3.out).size; simp; omega) ?_; intro v1 w1 hown1 hgrow1 hnil1; obtain ⟨g1, c1, rfl, hg1⟩ := own_some hown1 (fun e => nomatch (hnil1.1 e).1); have hb1 := (HB3.out.alloc (Nat.le_trans hgle HB3.out.size) (.cells #[.int .i64 y2] 3)).grown hgrow1 (by have := (HB3.out).size; simp; omega) (fun q hq => by cases hq; assumption); clear t1 t2 t3 t5 o1 o2 o4 o6; have qt := BoxS.below QT.out hb1 HXT.out; have qo := BoxS.below QO.out hb1 HXO.out; have t1 := qt.c1; have t2 := qt.c2; have t3 := qt.c3; have t5 := qt.c5; have o1 := qo.c1; have o2 := qo.c2; have o4 := qo.c4; have o6 := qo.c6; clear qt qo; clear hnil1 hgrow1)
            have O_9 : Hid (w1.ownsRow W.heap.size 3 1 (.slice (some ⟨g1, 0, none⟩) 1 c1) 1 (([y2] : List Int).map (.int .i64))) := Lib.hid hown1
            have HB_9 : Hid (Below W.heap.size W w1) := Lib.hid hb1
            clear hown1 hb1 O3 HB3
            refine (repI_any N hN40 _ _ _ (sNew _ _ _ 0)).mono ?_
            rintro e w6 ⟨gr, rfl, -, hce, hb⟩
            have HB6 := Lib.hid ((HB_9.out.alloc (Nat.le_trans hgle HB_9.out.size) (.cells #[.int .i64 9] 3)).trans (hb.mono (by have := HB_9.out.size; simp; omega)))
            have O6 := Lib.hid (own_below (O_9.out.alloc (.cells #[.int .i64 9] 3)) hb)
            have HCE := Lib.hid (show ∀ j u', (List.replicate N (Value.int .i64 9))[j]? = some u' → w6.cell? ((⟨gr, 0, none⟩ : Addr).add j) = some u' from fun j u' hj => by
              rw [show (⟨gr, 0, none⟩ : Addr).add j = ⟨gr, j, none⟩ from (by unfold Addr.add; split <;> simp_all)]
              exact hce j u' hj)
            clear hb hce O_9 HB_9 t1 t2 t3 t5 o1 o2 o4 o6
            have hb6 := HB6.out
            have qt := BoxS.below QT.out HB6.out HXT.out
            have qo := BoxS.below QO.out HB6.out HXO.out
            have t1 := qt.c1
            have t2 := qt.c2
            have t3 := qt.c3
            have t5 := qt.c5
            have o1 := qo.c1
            have o2 := qo.c2
            have o4 := qo.c4
            have o6 := qo.c6
            clear qt qo
            clear hb6
            go_wp2_with (first | (at_builtin; refine wpList_append_own _ rfl (.tmp 57) (.tmp 60) 34 rfl W.heap.size 3 i0 (.int .i64 0) 1 8 Try.underlying34 hi hz0 hz1 hz2 rfl (by decide) (.slice (some ⟨g1, 0, none⟩) (1) c1) (1) _ rfl O6.out ⟨gr, 0, none⟩ N N (List.replicate N (.int .i64 9)) rfl (by rw [List.length_replicate, Nat.mul_one]) HCE.out (fun u hu => by rw [(List.mem_replicate.1 hu).2]; rfl) (by unfold maxLen; omega) (by omega) (by have := HB6.out.size; omega) ?_; intro v1 w1 hown1 hgrow1 hnil1; obtain ⟨g1, c1, rfl, hg1⟩ := own_some hown1 (fun e => nomatch (hnil1.1 e).1); have hb1 := HB6.out.grown hgrow1 (by have := HB6.out.size; omega) (fun q hq => by cases hq; assumption); clear t1 t2 t3 t5 o1 o2 o4 o6; have qt := BoxS.below QT.out hb1 HXT.out; have qo := BoxS.below QO.out hb1 HXO.out; have t1 := qt.c1; have t2 := qt.c2; have t3 := qt.c3; have t5 := qt.c5; have o1 := qo.c1; have o2 := qo.c2; have o4 := qo.c4; have o6 := qo.c6; clear qt qo; clear hnil1 hgrow1) | (at_builtin; refine wpList_append_own _ rfl (.tmp 62) (.tmp 65) 34 rfl W.heap.size 3 i0 (.int .i64 0) 1 8 Try.underlying34 hi hz0 hz1 hz2 rfl (by decide) (.slice (some ⟨g1, 0, none⟩) (1 + N) c1) (1 + N) _ rfl (hown1.alloc _) ⟨w1.heap.size, 0, none⟩ 1 1 [.int .i64 x1] rfl rfl (cell_one_new _ _ _) (by simp [Value.oneCell']) (by unfold maxLen; omega) (by omega) (by have := (hb1).size; simp; omega) ?_; intro v1 w1 hown1 hgrow1 hnil1; obtain ⟨g1, c1, rfl, hg1⟩ := own_some hown1 (fun e => nomatch (hnil1.1 e).1); have hb1 := (hb1.alloc (Nat.le_trans hgle hb1.size) (.cells #[.int .i64 x1] 3)).grown hgrow1 (by have := (hb1).size; simp; omega) (fun q hq => by cases hq; assumption); clear t1 t2 t3 t5 o1 o2 o4 o6; have qt := BoxS.below QT.out hb1 HXT.out; have qo := BoxS.below QO.out hb1 HXO.out; have t1 := qt.c1; have t2 := qt.c2; have t3 := qt.c3; have t5 := qt.c5; have o1 := qo.c1; have o2 := qo.c2; have o4 := qo.c4; have o6 := qo.c6; clear qt qo; clear hnil1 hgrow1))
            have O9 : Hid (w1.ownsRow W.heap.size 3 1 (.slice (some ⟨g1, 0, none⟩) (1 + N + 1) c1) (1 + N + 1) (([y2] ++ (List.replicate N 9 ++ [x1]) : List Int).map (.int .i64))) := Lib.hid (by
              rw [show (([y2] ++ (List.replicate N 9 ++ [x1]) : List Int).map (Value.int .i64)) = ((([y2] : List Int).map (.int .i64)) ++ List.replicate N (.int .i64 9)) ++ [.int .i64 x1] from by simp]
              exact hown1)
            have HB9 : Hid (Below W.heap.size W w1) := Lib.hid hb1
            clear hown1 hb1 O6 HB6 HCE
            try go_wp2_with fail
            refine bodyPost_ret (results_tmp2 rfl _ _ _) rfl ?_
            exact givesP_mk true HBW.out HG0.out O9.out HB9.out HPL.out hm
      | false =>
        cases pb with
        | true =>
          by_cases hN : 0 < (N : Int)
          · cases pa with
            | true =>
              have HPL := Lib.hid (HL.out.trans (show planV false true false true x1 x3 y2 y4 N = ([y4] : List Int) ++ (List.replicate N 9 ++ [x1]) from by simp [planV, (show 0 < N by omega)]))
              have qt := BoxS.below QT.out HB3.out HXT.out
              have qo := BoxS.below QO.out HB3.out HXO.out
              have t1 := qt.c1
              have t2 := qt.c2
              have t3 := qt.c3
              have t5 := qt.c5
              have o1 := qo.c1
              have o2 := qo.c2
              have o4 := qo.c4
              have o6 := qo.c6
              clear qt qo
              go_wp2_with (at_builtin; refine wpList_append_own _ rfl (.tmp 40) (.tmp 43) 34 rfl W.heap.size 3 i0 (.int .i64 0) 1 8 Try.underlying34 hi hz0 hz1 hz2 rfl (by decide) (.slice (some ⟨W.heap.size, 0, none⟩) (0) 0) (0) _ rfl (O3.out.alloc _) ⟨W.heap.size + 1, 0, none⟩ 1 1 [.int .i64 y4] rfl rfl (by have h9 := cell_one_new (W.alloc (.cells #[] 3)) (.int .i64 y4) 3; rw [World.size_alloc] at h9; exact h9) (by simp [Value.oneCell']) (by unfold maxLen; omega) (by omega) (by have := (HB3.out).size; simp; omega) ?_; intro v1 w1 hown1 hgrow1 hnil1; obtain ⟨g1, c1, rfl, hg1⟩ := own_some hown1 (fun e => nomatch (hnil1.1 e).1); have hb1 := (HB3.out.alloc (Nat.le_trans hgle HB3.out.size) (.cells #[.int .i64 y4] 3)).grown hgrow1 (by have := (HB3.out).size; simp; omega) (fun q hq => by cases hq; assumption); clear t1 t2 t3 t5 o1 o2 o4 o6; have qt := BoxS.below QT.out hb1 HXT.out; have qo := BoxS.below QO.out hb1 HXO.out; have t1 := qt.c1; have t2 := qt.c2; have t3 := qt.c3; have t5 := qt.c5; have o1 := qo.c1; have o2 := qo.c2; have o4 := qo.c4; have o6 := qo.c6; clear qt qo; clear hnil1 hgrow1)
              have O_9 : Hid (w1.ownsRow W.heap.size 3 1 (.slice (some ⟨g1, 0, none⟩) 1 c1) 1 (([y4] : List Int).map (.int .i64))) := Lib.hid hown1
              have HB_9 : Hid (Below W.heap.size W w1) := Lib.hid hb1
              clear hown1 hb1 O3 HB3
              refine (repI_any N hN40 _ _ _ (sNew _ _ _ 0)).mono ?_
              rintro e w6 ⟨gr, rfl, -, hce, hb⟩
              have HB6 := Lib.hid ((HB_9.out.alloc (Nat.le_trans hgle HB_9.out.size) (.cells #[.int .i64 9] 3)).trans (hb.mono (by have := HB_9.out.size; simp; omega)))
              have O6 := Lib.hid (own_below (O_9.out.alloc (.cells #[.int .i64 9] 3)) hb)
              have HCE := Lib.hid (show ∀ j u', (List.replicate N (Value.int .i64 9))[j]? = some u' → w6.cell? ((⟨gr, 0, none⟩ : Addr).add j) = some u' from fun j u' hj => by
                rw [show (⟨gr, 0, none⟩ : Addr).add j = ⟨gr, j, none⟩ from (by unfold Addr.add; split <;> simp_all)]
                exact hce j u' hj)
              clear hb hce O_9 HB_9 t1 t2 t3 t5 o1 o2 o4 o6
              have hb6 := HB6.out
              have qt := BoxS.below QT.out HB6.out HXT.out
              have qo := BoxS.below QO.out HB6.out HXO.out
              have t1 := qt.c1
              have t2 := qt.c2
              have t3 := qt.c3
              have t5 := qt.c5
              have o1 := qo.c1
              have o2 := qo.c2
              have o4 := qo.c4
              have o6 := qo.c6
              clear qt qo
              clear hb6
              go_wp2_with (first | (at_builtin; refine wpList_append_own _ rfl (.tmp 57) (.tmp 60) 34 rfl W.heap.size 3 i0 (.int .i64 0) 1 8 Try.underlying34 hi hz0 hz1 hz2 rfl (by decide) (.slice (some ⟨g1, 0, none⟩) (1) c1) (1) _ rfl O6.out ⟨gr, 0, none⟩ N N (List.replicate N (.int .i64 9)) rfl (by rw [List.length_replicate, Nat.mul_one]) HCE.out (fun u hu => by rw [(List.mem_replicate.1 hu).2]; rfl) (by unfold maxLen; omega) (by omega) (by have := HB6.out.size; omega) ?_; intro v1 w1 hown1 hgrow1 hnil1; obtain ⟨g1, c1, rfl, hg1⟩ := own_some hown1 (fun e => nomatch (hnil1.1 e).1); have hb1 := HB6.out.grown hgrow1 (by have := HB6.out.size; omega) (fun q hq => by cases hq; assumption); clear t1 t2 t3 t5 o1 o2 o4 o6; have qt := BoxS.below QT.out hb1 HXT.out; have qo := BoxS.below QO.out hb1 HXO.out; have t1 := qt.c1; have t2 := qt.c2; have t3 := qt.c3; have t5 := qt.c5; have o1 := qo.c1; have o2 := qo.c2; have o4 := qo.c4; have o6 := qo.c6; clear qt qo; clear hnil1 hgrow1) | (at_builtin; refine wpList_append_own _ rfl (.tmp 62) (.tmp 65) 34 rfl W.heap.size 3 i0 (.int .i64 0) 1 8 Try.underlying34 hi hz0 hz1 hz2 rfl (by decide) (.slice (some ⟨g1, 0, none⟩) (1 + N) c1) (1 + N) _ rfl (hown1.alloc _) ⟨w1.heap.size, 0, none⟩ 1 1 [.int .i64 x1] rfl rfl (cell_one_new _ _ _) (by simp [Value.oneCell']) (by unfold maxLen; omega) (by omega) (by have := (hb1).size; simp; omega) ?_; intro v1 w1 hown1 hgrow1 hnil1; obtain ⟨g1, c1, rfl, hg1⟩ := own_some hown1 (fun e => nomatch (hnil1.1 e).1); have hb1 := (hb1.alloc (Nat.le_trans hgle hb1.size) (.cells #[.int .i64 x1] 3)).grown hgrow1 (by have := (hb1).size; simp; omega) (fun q hq => by cases hq; assumption); clear t1 t2 t3 t5 o1 o2 o4 o6; have qt := BoxS.below QT.out hb1 HXT.out; have qo := BoxS.below QO.out hb1 HXO.out; have t1 := qt.c1; have t2 := qt.c2; have t3 := qt.c3; have t5 := qt.c5; have o1 := qo.c1; have o2 := qo.c2; have o4 := qo.c4; have o6 := qo.c6; clear qt qo; clear hnil1 hgrow1))
              have O9 : Hid (w1.ownsRow W.heap.size 3 1 (.slice (some ⟨g1, 0, none⟩) (1 + N + 1) c1) (1 + N + 1) (([y4] ++ (List.replicate N 9 ++ [x1]) : List Int).map (.int .i64))) := Lib.hid (by
                rw [show (([y4] ++ (List.replicate N 9 ++ [x1]) : List Int).map (Value.int .i64)) = ((([y4] : List Int).map (.int .i64)) ++ List.replicate N (.int .i64 9)) ++ [.int .i64 x1] from by simp]
                exact hown1)
              have HB9 : Hid (Below W.heap.size W w1) := Lib.hid hb1
              clear hown1 hb1 O6 HB6 HCE
              try go_wp2_with fail
              refine bodyPost_ret (results_tmp2 rfl _ _ _) rfl ?_
              exact givesP_mk true HBW.out HG0.out O9.out HB9.out HPL.out hm
            | false =>
              have HPL := Lib.hid (HL.out.trans (show planV false false false true x1 x3 y2 y4 N = ([y4, x3] : List Int) ++ (List.replicate N 9 ++ [x1]) from by simp [planV, (show 0 < N by omega)]))
              have qt := BoxS.below QT.out HB3.out HXT.out
              have qo := BoxS.below QO.out HB3.out HXO.out
              have t1 := qt.c1
              have t2 := qt.c2
              have t3 := qt.c3
              have t5 := qt.c5
              have o1 := qo.c1
              have o2 := qo.c2
              have o4 := qo.c4
              have o6 := qo.c6
              clear qt qo
              go_wp2_with (first | (at_builtin; refine wpList_append_own _ rfl (.tmp 40) (.tmp 43) 34 rfl W.heap.size 3 i0 (.int .i64 0) 1 8 Try.underlying34 hi hz0 hz1 hz2 rfl (by decide) (.slice (some ⟨W.heap.size, 0, none⟩) (0) 0) (0) _ rfl (O3.out.alloc _) ⟨W.heap.size + 1, 0, none⟩ 1 1 [.int .i64 y4] rfl rfl (by have h9 := cell_one_new (W.alloc (.cells #[] 3)) (.int .i64 y4) 3; rw [World.size_alloc] at h9; exact h9) (by simp [Value.oneCell']) (by unfold maxLen; omega) (by omega) (by have := (HB3.out).size; simp; omega) ?_; intro v1 w1 hown1 hgrow1 hnil1; obtain ⟨g1, c1, rfl, hg1⟩ := own_some hown1 (fun e => nomatch (hnil1.1 e).1); have hb1 := (HB3.out.alloc (Nat.le_trans hgle HB3.out.size) (.cells #[.int .i64 y4] 3)).grown hgrow1 (by have := (HB3.out).size; simp; omega) (fun q hq => by cases hq; assumption); clear t1 t2 t3 t5 o1 o2 o4 o6; have qt := BoxS.below QT.out hb1 HXT.out; have qo := BoxS.below QO.out hb1 HXO.out; have t1 := qt.c1; have t2 := qt.c2; have t3 := qt.c3; have t5 := qt.c5; have o1 := qo.c1; have o2 := qo.c2; have o4 := qo.c4; have o6 := qo.c6; clear qt qo; clear hnil1 hgrow1) | (at_builtin; refine wpList_append_own _ rfl (.tmp 52) (.tmp 55) 34 rfl W.heap.size 3 i0 (.int .i64 0) 1 8 Try.underlying34 hi hz0 hz1 hz2 rfl (by decide) (.slice (some ⟨g1, 0, none⟩) (1) c1) (1) _ rfl (hown1.alloc _) ⟨w1.heap.size, 0, none⟩ 1 1 [.int .i64 x3] rfl rfl (cell_one_new _ _ _) (by simp [Value.oneCell']) (by unfold maxLen; omega) (by omega) (by have := (hb1).size; simp; omega) ?_; intro v1 w1 hown1 hgrow1 hnil1; obtain ⟨g1, c1, rfl, hg1⟩ := own_some hown1 (fun e => nomatch (hnil1.1 e).1); have hb1 := (hb1.alloc (Nat.le_trans hgle hb1.size) (.cells #[.int .i64 x3] 3)).grown hgrow1 (by have := (hb1).size; simp; omega) (fun q hq => by cases hq; assumption); clear t1 t2 t3 t5 o1 o2 o4 o6; have qt := BoxS.below QT.out hb1 HXT.out; have qo := BoxS.below QO.out hb1 HXO.out; have t1 := qt.c1; have t2 := qt.c2; have t3 := qt.c3; have t5 := qt.c5; have o1 := qo.c1; have o2 := qo.c2; have o4 := qo.c4; have o6 := qo.c6; clear qt qo; clear hnil1 hgrow1))
              have O_9 : Hid (w1.ownsRow W.heap.size 3 1 (.slice (some ⟨g1, 0, none⟩) 2 c1) 2 (([y4, x3] : List Int).map (.int .i64))) := Lib.hid hown1
              have HB_9 : Hid (Below W.heap.size W w1) := Lib.hid hb1
              clear hown1 hb1 O3 HB3
              refine (repI_any N hN40 _ _ _ (sNew _ _ _ 0)).mono ?_
              rintro e w6 ⟨gr, rfl, -, hce, hb⟩
              have HB6 := Lib.hid ((HB_9.out.alloc (Nat.le_trans hgle HB_9.out.size) (.cells #[.int .i64 9] 3)).trans (hb.mono (by have := HB_9.out.size; simp; omega)))
              have O6 := Lib.hid (own_below (O_9.out.alloc (.cells #[.int .i64 9] 3)) hb)
              have HCE := Lib.hid (show ∀ j u', (List.replicate N (Value.int .i64 9))[j]? = some u' → w6.cell? ((⟨gr, 0, none⟩ : Addr).add j) = some u' from fun j u' hj => by
                rw [show (⟨gr, 0, none⟩ : Addr).add j = ⟨gr, j, none⟩ from (by unfold Addr.add; split <;> simp_all)]
                exact hce j u' hj)
              clear hb hce O_9 HB_9 t1 t2 t3 t5 o1 o2 o4 o6
              have hb6 := HB6.out
              have qt := BoxS.below QT.out HB6.out HXT.out
              have qo := BoxS.below QO.out HB6.out HXO.out
              have t1 := qt.c1
              have t2 := qt.c2
              have t3 := qt.c3
              have t5 := qt.c5
              have o1 := qo.c1
              have o2 := qo.c2
              have o4 := qo.c4
              have o6 := qo.c6
              clear qt qo
              clear hb6
              go_wp2_with (first | (at_builtin; refine wpList_append_own _ rfl (.tmp 57) (.tmp 60) 34 rfl W.heap.size 3 i0 (.int .i64 0) 1 8 Try.underlying34 hi hz0 hz1 hz2 rfl (by decide) (.slice (some ⟨g1, 0, none⟩) (2) c1) (2) _ rfl O6.out ⟨gr, 0, none⟩ N N (List.replicate N (.int .i64 9)) rfl (by rw [List.length_replicate, Nat.mul_one]) HCE.out (fun u hu => by rw [(List.mem_replicate.1 hu).2]; rfl) (by unfold maxLen; omega) (by omega) (by have := HB6.out.size; omega) ?_; intro v1 w1 hown1 hgrow1 hnil1; obtain ⟨g1, c1, rfl, hg1⟩ := own_some hown1 (fun e => nomatch (hnil1.1 e).1); have hb1 := HB6.out.grown hgrow1 (by have := HB6.out.size; omega) (fun q hq => by cases hq; assumption); clear t1 t2 t3 t5 o1 o2 o4 o6; have qt := BoxS.below QT.out hb1 HXT.out; have qo := BoxS.below QO.out hb1 HXO.out; have t1 := qt.c1; have t2 := qt.c2; have t3 := qt.c3; have t5 := qt.c5; have o1 := qo.c1; have o2 := qo.c2; have o4 := qo.c4; have o6 := qo.c6; clear qt qo; clear hnil1 hgrow1) | (at_builtin; refine wpList_append_own _ rfl (.tmp 62) (.tmp 65) 34 rfl W.heap.size 3 i0 (.int .i64 0) 1 8 Try.underlying34 hi hz0 hz1 hz2 rfl (by decide) (.slice (some ⟨g1, 0, none⟩) (2 + N) c1) (2 + N) _ rfl (hown1.alloc _) ⟨w1.heap.size, 0, none⟩ 1 1 [.int .i64 x1] rfl rfl (cell_one_new _ _ _) (by simp [Value.oneCell']) (by unfold maxLen; omega) (by omega) (by have := (hb1).size; simp; omega) ?_; intro v1 w1 hown1 hgrow1 hnil1; obtain ⟨g1, c1, rfl, hg1⟩ := own_some hown1 (fun e => nomatch (hnil1.1 e).1); have hb1 := (hb1.alloc (Nat.le_trans hgle hb1.size) (.cells #[.int .i64 x1] 3)).grown hgrow1 (by have := (hb1).size; simp; omega) (fun q hq => by cases hq; assumption); clear t1 t2 t3 t5 o1 o2 o4 o6; have qt := BoxS.below QT.out hb1 HXT.out; have qo := BoxS.below QO.out hb1 HXO.out; have t1 := qt.c1; have t2 := qt.c2; have t3 := qt.c3; have t5 := qt.c5; have o1 := qo.c1; have o2 := qo.c2; have o4 := qo.c4; have o6 := qo.c6; clear qt qo; clear hnil1 hgrow1))
              have O9 : Hid (w1.ownsRow W.heap.size 3 1 (.slice (some ⟨g1, 0, none⟩) (2 + N + 1) c1) (2 + N + 1) (([y4, x3] ++ (List.replicate N 9 ++ [x1]) : List Int).map (.int .i64))) := Lib.hid (by
                rw [show (([y4, x3] ++ (List.replicate N 9 ++ [x1]) : List Int).map (Value.int .i64)) = ((([y4, x3] : List Int).map (.int .i64)) ++ List.replicate N (.int .i64 9)) ++ [.int .i64 x1] from by simp]
                exact hown1)
              have HB9 : Hid (Below W.heap.size W w1) := Lib.hid hb1
              clear hown1 hb1 O6 HB6 HCE
              try go_wp2_with fail
              refine bodyPost_ret (results_tmp2 rfl _ _ _) rfl ?_
              exact givesP_mk true HBW.out HG0.out O9.out HB9.out HPL.out hm
          · have hN9 : N = 0 := by omega
            have HPL := Lib.hid (HL.out.trans (show planV false pa false true x1 x3 y2 y4 N = ([y4] : List Int) ++ (List.replicate N 9 ++ [x1]) from by simp [planV, hN9]))
            clear hN9
            have qt := BoxS.below QT.out HB3.out HXT.out
            have qo := BoxS.below QO.out HB3.out HXO.out
            have t1 := qt.c1
            have t2 := qt.c2
            have t3 := qt.c3
            have t5 := qt.c5
            have o1 := qo.c1
            have o2 := qo.c2
            have o4 := qo.c4
            have o6 := qo.c6
            clear qt qo
            go_wp2_with (at_builtin; refine wpList_append_own _ rfl (.tmp 40) (.tmp 43) 34 rfl W.heap.size 3 i0 (.int .i64 0) 1 8 Try.underlying34 hi hz0 hz1 hz2 rfl (by decide) (.slice (some ⟨W.heap.size, 0, none⟩) (0) 0) (0) _ rfl (O3.out.alloc _) ⟨W.heap.size + 1, 0, none⟩ 1 1 [.int .i64 y4] rfl rfl (by have h9 := cell_one_new (W.alloc (.cells #[] 3)) (.int .i64 y4) 3; rw [World.size_alloc] at h9; exact h9) (by simp [Value.oneCell']) (by unfold maxLen; omega) (by omega) (by have := (HB3.out).size; simp; omega) ?_; intro v1 w1 hown1 hgrow1 hnil1; obtain ⟨g1, c1, rfl, hg1⟩ := own_some hown1 (fun e => nomatch (hnil1.1 e).1); have hb1 := (HB3.out.alloc (Nat.le_trans hgle HB3.out.size) (.cells #[.int .i64 y4] 3)).grown hgrow1 (by have := (HB3.out).size; simp; omega) (fun q hq => by cases hq; assumption); clear t1 t2 t3 t5 o1 o2 o4 o6; have qt := BoxS.below QT.out hb1 HXT.out; have qo := BoxS.below QO.out hb1 HXO.out; have t1 := qt.c1; have t2 := qt.c2; have t3 := qt.c3; have t5 := qt.c5; have o1 := qo.c1; have o2 := qo.c2; have o4 := qo.c4; have o6 := qo.c6; clear qt qo; clear hnil1 hgrow1)
            have O_9 : Hid (w1.ownsRow W.heap.size 3 1 (.slice (some ⟨g1, 0, none⟩) 1 c1) 1 (([y4] : List Int).map (.int .i64))) := Lib.hid hown1
            have HB_9 : Hid (Below W.heap.size W w1) := Lib.hid hb1
            clear hown1 hb1 O3 HB3
            refine (repI_any N hN40 _ _ _ (sNew _ _ _ 0)).mono ?_
            rintro e w6 ⟨gr, rfl, -, hce, hb⟩
            have HB6 := Lib.hid ((HB_9.out.alloc (Nat.le_trans hgle HB_9.out.size) (.cells #[.int .i64 9] 3)).trans (hb.mono (by have := HB_9.out.size; simp; omega)))
            have O6 := Lib.hid (own_below (O_9.out.alloc (.cells #[.int .i64 9] 3)) hb)
            have HCE := Lib.hid (show ∀ j u', (List.replicate N (Value.int .i64 9))[j]? = some u' → w6.cell? ((⟨gr, 0, none⟩ : Addr).add j) = some u' from fun j u' hj => by
              rw [show (⟨gr, 0, none⟩ : Addr).add j = ⟨gr, j, none⟩ from (by unfold Addr.add; split <;> simp_all)]
              exact hce j u' hj)
            clear hb hce O_9 HB_9 t1 t2 t3 t5 o1 o2 o4 o6
            have hb6 := HB6.out
            have qt := BoxS.below QT.out HB6.out HXT.out
            have qo := BoxS.below QO.out HB6.out HXO.out
            have t1 := qt.c1
            have t2 := qt.c2
            have t3 := qt.c3
            have t5 := qt.c5
            have o1 := qo.c1
            have o2 := qo.c2
            have o4 := qo.c4
            have o6 := qo.c6
            clear qt qo
            clear hb6
            go_wp2_with (first | (at_builtin; refine wpList_append_own _ rfl (.tmp 57) (.tmp 60) 34 rfl W.heap.size 3 i0 (.int .i64 0) 1 8 Try.underlying34 hi hz0 hz1 hz2 rfl (by decide) (.slice (some ⟨g1, 0, none⟩) (1) c1) (1) _ rfl O6.out ⟨gr, 0, none⟩ N N (List.replicate N (.int .i64 9)) rfl (by rw [List.length_replicate, Nat.mul_one]) HCE.out (fun u hu => by rw [(List.mem_replicate.1 hu).2]; rfl) (by unfold maxLen; omega) (by omega) (by have := HB6.out.size; omega) ?_; intro v1 w1 hown1 hgrow1 hnil1; obtain ⟨g1, c1, rfl, hg1⟩ := own_some hown1 (fun e => nomatch (hnil1.1 e).1); have hb1 := HB6.out.grown hgrow1 (by have := HB6.out.size; omega) (fun q hq => by cases hq; assumption); clear t1 t2 t3 t5 o1 o2 o4 o6; have qt := BoxS.below QT.out hb1 HXT.out; have qo := BoxS.below QO.out hb1 HXO.out; have t1 := qt.c1; have t2 := qt.c2; have t3 := qt.c3; have t5 := qt.c5; have o1 := qo.c1; have o2 := qo.c2; have o4 := qo.c4; have o6 := qo.c6; clear qt qo; clear hnil1 hgrow1) | (at_builtin; refine wpList_append_own _ rfl (.tmp 62) (.tmp 65) 34 rfl W.heap.size 3 i0 (.int .i64 0) 1 8 Try.underlying34 hi hz0 hz1 hz2 rfl (by decide) (.slice (some ⟨g1, 0, none⟩) (1 + N) c1) (1 + N) _ rfl (hown1.alloc _) ⟨w1.heap.size, 0, none⟩ 1 1 [.int .i64 x1] rfl rfl (cell_one_new _ _ _) (by simp [Value.oneCell']) (by unfold maxLen; omega) (by omega) (by have := (hb1).size; simp; omega) ?_; intro v1 w1 hown1 hgrow1 hnil1; obtain ⟨g1, c1, rfl, hg1⟩ := own_some hown1 (fun e => nomatch (hnil1.1 e).1); have hb1 := (hb1.alloc (Nat.le_trans hgle hb1.size) (.cells #[.int .i64 x1] 3)).grown hgrow1 (by have := (hb1).size; simp; omega) (fun q hq => by cases hq; assumption); clear t1 t2 t3 t5 o1 o2 o4 o6; have qt := BoxS.below QT.out hb1 HXT.out; have qo := BoxS.below QO.out hb1 HXO.out; have t1 := qt.c1; have t2 := qt.c2; have t3 := qt.c3; have t5 := qt.c5; have o1 := qo.c1; have o2 := qo.c2; have o4 := qo.c4; have o6 := qo.c6; clear qt qo; clear hnil1 hgrow1))
            have O9 : Hid (w1.ownsRow W.heap.size 3 1 (.slice (some ⟨g1, 0, none⟩) (1 + N + 1) c1) (1 + N + 1) (([y4] ++ (List.replicate N 9 ++ [x1]) : List Int).map (.int .i64))) := Lib.hid (by
              rw [show (([y4] ++ (List.replicate N 9 ++ [x1]) : List Int).map (Value.int .i64)) = ((([y4] : List Int).map (.int .i64)) ++ List.replicate N (.int .i64 9)) ++ [.int .i64 x1] from by simp]
              exact hown1)
            have HB9 : Hid (Below W.heap.size W w1) := Lib.hid hb1
            clear hown1 hb1 O6 HB6 HCE
            try go_wp2_with fail
            refine bodyPost_ret (results_tmp2 rfl _ _ _) rfl ?_
            exact givesP_mk true HBW.out HG0.out O9.out HB9.out HPL.out hm
        | false =>
          by_cases hN : 0 < (N : Int)
          · cases pa with
            | true =>
              have HPL := Lib.hid (HL.out.trans (show planV false true false false x1 x3 y2 y4 N = ([] : List Int) ++ (List.replicate N 9 ++ [x1]) from by simp [planV, (show 0 < N by omega)]))
              have qt := BoxS.below QT.out HB3.out HXT.out
              have qo := BoxS.below QO.out HB3.out HXO.out
              have t1 := qt.c1
              have t2 := qt.c2
              have t3 := qt.c3
              have t5 := qt.c5
              have o1 := qo.c1
              have o2 := qo.c2
              have o4 := qo.c4
              have o6 := qo.c6
              clear qt qo
              go_wp2_with fail
              have O_9 : Hid ((W.alloc (.cells #[] 3)).ownsRow W.heap.size 3 1 (.slice (some ⟨W.heap.size, 0, none⟩) 0 0) 0 (([] : List Int).map (.int .i64))) := Lib.hid O3.out
              have HB_9 := HB3
              clear O3 HB3
              refine (repI_any N hN40 _ _ _ (by have h9 := sNew (W.alloc (.cells #[] 3)) #[.int .i64 9] 3 0; rw [World.size_alloc] at h9; exact h9)).mono ?_
              rintro e w6 ⟨gr, rfl, -, hce, hb⟩
              have HB6 := Lib.hid ((HB_9.out.alloc (Nat.le_trans hgle HB_9.out.size) (.cells #[.int .i64 9] 3)).trans (hb.mono (by have := HB_9.out.size; simp; omega)))
              have O6 := Lib.hid (own_below (O_9.out.alloc (.cells #[.int .i64 9] 3)) hb)
              have HCE := Lib.hid (show ∀ j u', (List.replicate N (Value.int .i64 9))[j]? = some u' → w6.cell? ((⟨gr, 0, none⟩ : Addr).add j) = some u' from fun j u' hj => by
                rw [show (⟨gr, 0, none⟩ : Addr).add j = ⟨gr, j, none⟩ from (by unfold Addr.add; split <;> simp_all)]
                exact hce j u' hj)
              clear hb hce O_9 HB_9 t1 t2 t3 t5 o1 o2 o4 o6
              have hb6 := HB6.out
              have qt := BoxS.below QT.out HB6.out HXT.out
              have qo := BoxS.below QO.out HB6.out HXO.out
              have t1 := qt.c1
              have t2 := qt.c2
              have t3 := qt.c3
              have t5 := qt.c5
              have o1 := qo.c1
              have o2 := qo.c2
              have o4 := qo.c4
              have o6 := qo.c6
              clear qt qo
              clear hb6
              go_wp2_with (first | (at_builtin; refine wpList_append_own _ rfl (.tmp 57) (.tmp 60) 34 rfl W.heap.size 3 i0 (.int .i64 0) 1 8 Try.underlying34 hi hz0 hz1 hz2 rfl (by decide) (.slice (some ⟨W.heap.size, 0, none⟩) (0) 0) (0) _ rfl O6.out ⟨gr, 0, none⟩ N N (List.replicate N (.int .i64 9)) rfl (by rw [List.length_replicate, Nat.mul_one]) HCE.out (fun u hu => by rw [(List.mem_replicate.1 hu).2]; rfl) (by unfold maxLen; omega) (by omega) (by have := HB6.out.size; omega) ?_; intro v1 w1 hown1 hgrow1 hnil1; rw [Nat.zero_add] at hown1; obtain ⟨g1, c1, rfl, hg1⟩ := own_some hown1 (fun e => nomatch (hnil1.1 e).1); have hb1 := HB6.out.grown hgrow1 (by have := HB6.out.size; omega) (fun q hq => by cases hq; assumption); clear t1 t2 t3 t5 o1 o2 o4 o6; have qt := BoxS.below QT.out hb1 HXT.out; have qo := BoxS.below QO.out hb1 HXO.out; have t1 := qt.c1; have t2 := qt.c2; have t3 := qt.c3; have t5 := qt.c5; have o1 := qo.c1; have o2 := qo.c2; have o4 := qo.c4; have o6 := qo.c6; clear qt qo; clear hnil1 hgrow1) | (at_builtin; refine wpList_append_own _ rfl (.tmp 62) (.tmp 65) 34 rfl W.heap.size 3 i0 (.int .i64 0) 1 8 Try.underlying34 hi hz0 hz1 hz2 rfl (by decide) (.slice (some ⟨g1, 0, none⟩) (N) c1) (N) _ rfl (hown1.alloc _) ⟨w1.heap.size, 0, none⟩ 1 1 [.int .i64 x1] rfl rfl (cell_one_new _ _ _) (by simp [Value.oneCell']) (by unfold maxLen; omega) (by omega) (by have := (hb1).size; simp; omega) ?_; intro v1 w1 hown1 hgrow1 hnil1; obtain ⟨g1, c1, rfl, hg1⟩ := own_some hown1 (fun e => nomatch (hnil1.1 e).1); have hb1 := (hb1.alloc (Nat.le_trans hgle hb1.size) (.cells #[.int .i64 x1] 3)).grown hgrow1 (by have := (hb1).size; simp; omega) (fun q hq => by cases hq; assumption); clear t1 t2 t3 t5 o1 o2 o4 o6; have qt := BoxS.below QT.out hb1 HXT.out; have qo := BoxS.below QO.out hb1 HXO.out; have t1 := qt.c1; have t2 := qt.c2; have t3 := qt.c3; have t5 := qt.c5; have o1 := qo.c1; have o2 := qo.c2; have o4 := qo.c4; have o6 := qo.c6; clear qt qo; clear hnil1 hgrow1))
              have O9 : Hid (w1.ownsRow W.heap.size 3 1 (.slice (some ⟨g1, 0, none⟩) (N + 1) c1) (N + 1) (([] ++ (List.replicate N 9 ++ [x1]) : List Int).map (.int .i64))) := Lib.hid (by
                rw [show (([] ++ (List.replicate N 9 ++ [x1]) : List Int).map (Value.int .i64)) = ((([] : List Int).map (.int .i64)) ++ List.replicate N (.int .i64 9)) ++ [.int .i64 x1] from by simp]
                exact hown1)
              have HB9 : Hid (Below W.heap.size W w1) := Lib.hid hb1
              clear hown1 hb1 O6 HB6 HCE
              try go_wp2_with fail
              refine bodyPost_ret (results_tmp2 rfl _ _ _) rfl ?_
              exact givesP_mk true HBW.out HG0.out O9.out HB9.out HPL.out hm
            | false =>
              have HPL := Lib.hid (HL.out.trans (show planV false false false false x1 x3 y2 y4 N = ([x3] : List Int) ++ (List.replicate N 9 ++ [x1]) from by simp [planV, (show 0 < N by omega)]))
              have qt := BoxS.below QT.out HB3.out HXT.out
              have qo := BoxS.below QO.out HB3.out HXO.out
              have t1 := qt.c1
              have t2 := qt.c2
              have t3 := qt.c3
              have t5 := qt.c5
              have o1 := qo.c1
              have o2 := qo.c2
              have o4 := qo.c4
              have o6 := qo.c6
              clear qt qo
              go_wp2_with (at_builtin; refine wpList_append_own _ rfl (.tmp 52) (.tmp 55) 34 rfl W.heap.size 3 i0 (.int .i64 0) 1 8 Try.underlying34 hi hz0 hz1 hz2 rfl (by decide) (.slice (some ⟨W.heap.size, 0, none⟩) (0) 0) (0) _ rfl (O3.out.alloc _) ⟨W.heap.size + 1, 0, none⟩ 1 1 [.int .i64 x3] rfl rfl (by have h9 := cell_one_new (W.alloc (.cells #[] 3)) (.int .i64 x3) 3; rw [World.size_alloc] at h9; exact h9) (by simp [Value.oneCell']) (by unfold maxLen; omega) (by omega) (by have := (HB3.out).size; simp; omega) ?_; intro v1 w1 hown1 hgrow1 hnil1; obtain ⟨g1, c1, rfl, hg1⟩ := own_some hown1 (fun e => nomatch (hnil1.1 e).1); have hb1 := (HB3.out.alloc (Nat.le_trans hgle HB3.out.size) (.cells #[.int .i64 x3] 3)).grown hgrow1 (by have := (HB3.out).size; simp; omega) (fun q hq => by cases hq; assumption); clear t1 t2 t3 t5 o1 o2 o4 o6; have qt := BoxS.below QT.out hb1 HXT.out; have qo := BoxS.below QO.out hb1 HXO.out; have t1 := qt.c1; have t2 := qt.c2; have t3 := qt.c3; have t5 := qt.c5; have o1 := qo.c1; have o2 := qo.c2; have o4 := qo.c4; have o6 := qo.c6; clear qt qo; clear hnil1 hgrow1)
              have O_9 : Hid (w1.ownsRow W.heap.size 3 1 (.slice (some ⟨g1, 0, none⟩) 1 c1) 1 (([x3] : List Int).map (.int .i64))) := Lib.hid hown1
              have HB_9 : Hid (Below W.heap.size W w1) := Lib.hid hb1
              clear hown1 hb1 O3 HB3
              refine (repI_any N hN40 _ _ _ (sNew _ _ _ 0)).mono ?_
              rintro e w6 ⟨gr, rfl, -, hce, hb⟩
              have HB6 := Lib.hid ((HB_9.out.alloc (Nat.le_trans hgle HB_9.out.size) (.cells #[.int .i64 9] 3)).trans (hb.mono (by have := HB_9.out.size; simp; omega)))
              have O6 := Lib.hid (own_below (O_9.out.alloc (.cells #[.int .i64 9] 3)) hb)
              have HCE := Lib.hid (show ∀ j u', (List.replicate N (Value.int .i64 9))[j]? = some u' → w6.cell? ((⟨gr, 0, none⟩ : Addr).add j) = some u' from fun j u' hj => by
                rw [show (⟨gr, 0, none⟩ : Addr).add j = ⟨gr, j, none⟩ from (by unfold Addr.add; split <;> simp_all)]
                exact hce j u' hj)
              clear hb hce O_9 HB_9 t1 t2 t3 t5 o1 o2 o4 o6
              have hb6 := HB6.out
              have qt := BoxS.below QT.out HB6.out HXT.out
              have qo := BoxS.below QO.out HB6.out HXO.out
              have t1 := qt.c1
              have t2 := qt.c2
              have t3 := qt.c3
              have t5 := qt.c5
              have o1 := qo.c1
              have o2 := qo.c2
              have o4 := qo.c4
              have o6 := qo.c6
              clear qt qo
              clear hb6
              go_wp2_with (first | (at_builtin; refine wpList_append_own _ rfl (.tmp 57) (.tmp 60) 34 rfl W.heap.size 3 i0 (.int .i64 0) 1 8 Try.underlying34 hi hz0 hz1 hz2 rfl (by decide) (.slice (some ⟨g1, 0, none⟩) (1) c1) (1) _ rfl O6.out ⟨gr, 0, none⟩ N N (List.replicate N (.int .i64 9)) rfl (by rw [List.length_replicate, Nat.mul_one]) HCE.out (fun u hu => by rw [(List.mem_replicate.1 hu).2]; rfl) (by unfold maxLen; omega) (by omega) (by have := HB6.out.size; omega) ?_; intro v1 w1 hown1 hgrow1 hnil1; obtain ⟨g1, c1, rfl, hg1⟩ := own_some hown1 (fun e => nomatch (hnil1.1 e).1); have hb1 := HB6.out.grown hgrow1 (by have := HB6.out.size; omega) (fun q hq => by cases hq; assumption); clear t1 t2 t3 t5 o1 o2 o4 o6; have qt := BoxS.below QT.out hb1 HXT.out; have qo := BoxS.below QO.out hb1 HXO.out; have t1 := qt.c1; have t2 := qt.c2; have t3 := qt.c3; have t5 := qt.c5; have o1 := qo.c1; have o2 := qo.c2; have o4 := qo.c4; have o6 := qo.c6; clear qt qo; clear hnil1 hgrow1) | (at_builtin; refine wpList_append_own _ rfl (.tmp 62) (.tmp 65) 34 rfl W.heap.size 3 i0 (.int .i64 0) 1 8 Try.underlying34 hi hz0 hz1 hz2 rfl (by decide) (.slice (some ⟨g1, 0, none⟩) (1 + N) c1) (1 + N) _ rfl (hown1.alloc _) ⟨w1.heap.size, 0, none⟩ 1 1 [.int .i64 x1] rfl rfl (cell_one_new _ _ _) (by simp [Value.oneCell']) (by unfold maxLen; omega) (by omega) (by have := (hb1).size; simp; omega) ?_; intro v1 w1 hown1 hgrow1 hnil1; obtain ⟨g1, c1, rfl, hg1⟩ := own_some hown1 (fun e => nomatch (hnil1.1 e).1); have hb1 := (hb1.alloc (Nat.le_trans hgle hb1.size) (.cells #[.int .i64 x1] 3)).grown hgrow1 (by have := (hb1).size; simp; omega) (fun q hq => by cases hq; assumption); clear t1 t2 t3 t5 o1 o2 o4 o6; have qt := BoxS.below QT.out hb1 HXT.out; have qo := BoxS.below QO.out hb1 HXO.out; have t1 := qt.c1; have t2 := qt.c2; have t3 := qt.c3; have t5 := qt.c5; have o1 := qo.c1; have o2 := qo.c2; have o4 := qo.c4; have o6 := qo.c6; clear qt qo; clear hnil1 hgrow1))
              have O9 : Hid (w1.ownsRow W.heap.size 3 1 (.slice (some ⟨g1, 0, none⟩) (1 + N + 1) c1) (1 + N + 1) (([x3] ++ (List.replicate N 9 ++ [x1]) : List Int).map (.int .i64))) := Lib.hid (by
                rw [show (([x3] ++ (List.replicate N 9 ++ [x1]) : List Int).map (Value.int .i64)) = ((([x3] : List Int).map (.int .i64)) ++ List.replicate N (.int .i64 9)) ++ [.int .i64 x1] from by simp]
                exact hown1)
              have HB9 : Hid (Below W.heap.size W w1) := Lib.hid hb1
              clear hown1 hb1 O6 HB6 HCE
              try go_wp2_with fail
              refine bodyPost_ret (results_tmp2 rfl _ _ _) rfl ?_
              exact givesP_mk true HBW.out HG0.out O9.out HB9.out HPL.out hm
          · have hN9 : N = 0 := by omega
            have HPL := Lib.hid (HL.out.trans (show planV false pa false false x1 x3 y2 y4 N = ([] : List Int) ++ (List.replicate N 9 ++ [x1]) from by simp [planV, hN9]))
            clear hN9
            have qt := BoxS.below QT.out HB3.out HXT.out
            have qo := BoxS.below QO.out HB3.out HXO.out
            have t1 := qt.c1
            have t2 := qt.c2
            have t3 := qt.c3
            have t5 := qt.c5
            have o1 := qo.c1
            have o2 := qo.c2
            have o4 := qo.c4
            have o6 := qo.c6
            clear qt qo
            go_wp2_with fail
            have O_9 : Hid ((W.alloc (.cells #[] 3)).ownsRow W.heap.size 3 1 (.slice (some ⟨W.heap.size, 0, none⟩) 0 0) 0 (([] : List Int).map (.int .i64))) := Lib.hid O3.out
            have HB_9 := HB3
            clear O3 HB3
            refine (repI_any N hN40 _ _ _ (by have h9 := sNew (W.alloc (.cells #[] 3)) #[.int .i64 9] 3 0; rw [World.size_alloc] at h9; exact h9)).mono ?_
            rintro e w6 ⟨gr, rfl, -, hce, hb⟩
            have HB6 := Lib.hid ((HB_9.out.alloc (Nat.le_trans hgle HB_9.out.size) (.cells #[.int .i64 9] 3)).trans (hb.mono (by have := HB_9.out.size; simp; omega)))
            have O6 := Lib.hid (own_below (O_9.out.alloc (.cells #[.int .i64 9] 3)) hb)
            have HCE := Lib.hid (show ∀ j u', (List.replicate N (Value.int .i64 9))[j]? = some u' → w6.cell? ((⟨gr, 0, none⟩ : Addr).add j) = some u' from fun j u' hj => by
              rw [show (⟨gr, 0, none⟩ : Addr).add j = ⟨gr, j, none⟩ from (by unfold Addr.add; split <;> simp_all)]
              exact hce j u' hj)
            clear hb hce O_9 HB_9 t1 t2 t3 t5 o1 o2 o4 o6
            have hb6 := HB6.out
            have qt := BoxS.below QT.out HB6.out HXT.out
            have qo := BoxS.below QO.out HB6.out HXO.out
            have t1 := qt.c1
            have t2 := qt.c2
            have t3 := qt.c3
            have t5 := qt.c5
            have o1 := qo.c1
            have o2 := qo.c2
            have o4 := qo.c4
            have o6 := qo.c6
            clear qt qo
            clear hb6
            go_wp2_with (first | (at_builtin; refine wpList_append_own _ rfl (.tmp 57) (.tmp 60) 34 rfl W.heap.size 3 i0 (.int .i64 0) 1 8 Try.underlying34 hi hz0 hz1 hz2 rfl (by decide) (.slice (some ⟨W.heap.size, 0, none⟩) (0) 0) (0) _ rfl O6.out ⟨gr, 0, none⟩ N N (List.replicate N (.int .i64 9)) rfl (by rw [List.length_replicate, Nat.mul_one]) HCE.out (fun u hu => by rw [(List.mem_replicate.1 hu).2]; rfl) (by unfold maxLen; omega) (by omega) (by have := HB6.out.size; omega) ?_; intro v1 w1 hown1 hgrow1 hnil1; rw [Nat.zero_add] at hown1; obtain ⟨g1, c1, rfl, hg1⟩ := own_some hown1 (fun e => nomatch (hnil1.1 e).1); have hb1 := HB6.out.grown hgrow1 (by have := HB6.out.size; omega) (fun q hq => by cases hq; assumption); clear t1 t2 t3 t5 o1 o2 o4 o6; have qt := BoxS.below QT.out hb1 HXT.out; have qo := BoxS.below QO.out hb1 HXO.out; have t1 := qt.c1; have t2 := qt.c2; have t3 := qt.c3; have t5 := qt.c5; have o1 := qo.c1; have o2 := qo.c2; have o4 := qo.c4; have o6 := qo.c6; clear qt qo; clear hnil1 hgrow1) | (at_builtin; refine wpList_append_own _ rfl (.tmp 62) (.tmp 65) 34 rfl W.heap.size 3 i0 (.int .i64 0) 1 8 Try.underlying34 hi hz0 hz1 hz2 rfl (by decide) (.slice (some ⟨g1, 0, none⟩) (N) c1) (N) _ rfl (hown1.alloc _) ⟨w1.heap.size, 0, none⟩ 1 1 [.int .i64 x1] rfl rfl (cell_one_new _ _ _) (by simp [Value.oneCell']) (by unfold maxLen; omega) (by omega) (by have := (hb1).size; simp; omega) ?_; intro v1 w1 hown1 hgrow1 hnil1; obtain ⟨g1, c1, rfl, hg1⟩ := own_some hown1 (fun e => nomatch (hnil1.1 e).1); have hb1 := (hb1.alloc (Nat.le_trans hgle hb1.size) (.cells #[.int .i64 x1] 3)).grown hgrow1 (by have := (hb1).size; simp; omega) (fun q hq => by cases hq; assumption); clear t1 t2 t3 t5 o1 o2 o4 o6; have qt := BoxS.below QT.out hb1 HXT.out; have qo := BoxS.below QO.out hb1 HXO.out; have t1 := qt.c1; have t2 := qt.c2; have t3 := qt.c3; have t5 := qt.c5; have o1 := qo.c1; have o2 := qo.c2; have o4 := qo.c4; have o6 := qo.c6; clear qt qo; clear hnil1 hgrow1))
            have O9 : Hid (w1.ownsRow W.heap.size 3 1 (.slice (some ⟨g1, 0, none⟩) (N + 1) c1) (N + 1) (([] ++ (List.replicate N 9 ++ [x1]) : List Int).map (.int .i64))) := Lib.hid (by
              rw [show (([] ++ (List.replicate N 9 ++ [x1]) : List Int).map (Value.int .i64)) = ((([] : List Int).map (.int .i64)) ++ List.replicate N (.int .i64 9)) ++ [.int .i64 x1] from by simp]
              exact hown1)
            have HB9 : Hid (Below W.heap.size W w1) := Lib.hid hb1
            clear hown1 hb1 O6 HB6 HCE
            try go_wp2_with fail
            refine bodyPost_ret (results_tmp2 rfl _ _ _) rfl ?_
            exact givesP_mk true HBW.out HG0.out O9.out HB9.out HPL.out hm
end Go.Proofs.Ytmnagjjpncancaa
