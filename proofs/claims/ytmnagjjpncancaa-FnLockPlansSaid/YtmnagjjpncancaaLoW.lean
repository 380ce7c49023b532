/- Chapter 5: what the laws draw. -/
import Derived.Test.YtmnagjjpncancaaLoV
namespace Go.Proofs.Ytmnagjjpncancaa
open Go.RowKit Go.PlainAid Go.Sort
set_option linter.unusedVariables false
set_option linter.unusedSimpArgs false

theorem BelowX.below {g B : Nat} {w W : World} (h : BelowX g B w W) (hg : B ≤ g) : Below B w W := ⟨h.os, h.tape, h.output, h.size, fun k hk => h.block k hk (by omega)⟩
/-- A cursor's steps leave what lies below alone. -/
theorem below_step {w W2 W : World} {G : Nat} {A : Option Addr} {n c : Nat} {p d : Int} (h0 : Below w.heap.size w W2) (h : CurStep W2 W G A n c p d) (hG : w.heap.size ≤ G) : Below w.heap.size w W :=
  h0.grown h.grown h0.size (fun q e => by cases e; exact hG)
theorem Code_.fresh {w : World} {A : Option Addr} {n : Nat} {zs : List Int} {B : Nat} (h : Code_ w A n zs B) (c : Nat) (o : Obj) (G : Nat) (hG : w.heap.size + 1 = G) :
    CurAt ((w.alloc o).alloc (.cells #[.slice A n c, .int .i64 0, .int .u64 0] 69)) G A n c 0 zs B := by
  have := (h.on ((Below.refl B w).alloc h.size o)).start c
  rw [World.size_alloc, hG] at this
  exact this
set_option maxRecDepth 100000 in
set_option maxHeartbeats 1000000 in
theorem drawStep {A : Option Addr} {n : Nat} {zs : List Int} {B : Nat} {w : World} (c : Nat) (h : Code_ w A n zs B) :
    Calls Try.prog 36 #[.slice A n c] w fun e w' => ∃ (l u v : Int) (a b cc d : Bool) (k : Int), 0 ≤ k ∧ k ≤ 10 ∧ e = .returned (.tuple #[.agg #[.int .i64 l, .int .i64 u, .int .i64 v, .bool a, .bool b, .bool cc, .bool d], .int .i64 k]) ∧ Below w.heap.size w w' := by
  obtain ⟨G, hG⟩ : ∃ G, w.heap.size + 1 = G := ⟨_, rfl⟩
  have H := Lib.hid (h.fresh c (.cells #[.int .i64 0, .int .i64 0, .int .i64 0, .bool false, .bool false, .bool false, .bool false] 23) G hG)
  have HB0 := Lib.hid (below2 w (.cells #[.int .i64 0, .int .i64 0, .int .i64 0, .bool false, .bool false, .bool false, .bool false] 23) (.cells #[.slice A n c, .int .i64 0, .int .u64 0] 69))
  have QZ := Lib.hid ((BoxL.new w 0 0 0 false false false false).all (below1 _ (.cells #[.slice A n c, .int .i64 0, .int .u64 0] 69)))
  have hGw : w.heap.size ≤ G := by omega
  have hzG : w.heap.size ≠ G := by omega
  clear h
  go_enter Try.func36, Try.ntmps36
  go_wp2_with fail
  try simp only [hG]
  clear hG
  refine (lockState_at H.out (by omega)).mono ?_
  rintro e w3 ⟨l, u, v, a, b, cc, d, rfl, hs⟩
  obtain ⟨q, q0, q1, H3⟩ := hs.at H.out
  have S3 := Lib.hid hs
  have QZ3 := Lib.hid (QZ.out.kept hs.grown (by simp; exact hzG))
  clear hs QZ
  go_wp2_with fail
  refine (pick_at H3 (by omega) 11 (by omega)).mono ?_
  rintro e w4 ⟨k, hk0, hk1, rfl, hs⟩
  have S4 := Lib.hid (S3.out.then hs q0 q1)
  have QZ4 := Lib.hid (QZ3.out.kept hs.grown (by simp; exact hzG))
  have HB4 := Lib.hid (below_step HB0.out S4.out hGw)
  clear hs S3 QZ3 H3 q0 q1 S4 HB0
  have k0 := QZ4.out.c0
  have k1 := QZ4.out.c1
  have k2 := QZ4.out.c2
  have k3 := QZ4.out.c3
  have k4 := QZ4.out.c4
  have k5 := QZ4.out.c5
  have k6 := QZ4.out.c6
  have f0 := QZ4.out.fz 0
  have f1 := QZ4.out.fz 1
  have f2 := QZ4.out.fz 2
  have f3 := QZ4.out.fz 3
  have f4 := QZ4.out.fz 4
  have f5 := QZ4.out.fz 5
  have f6 := QZ4.out.fz 6
  go_wp2_with fail
  refine bodyPost_ret (results_row1 rfl _ _ w.heap.size [_, _, _, _, _, _, _] _ rfl (QZ4.out.sets _ _ _ _ _ _ _).rangeAt Try.underlying23 rfl (by kernel_rfl)) rfl ?_
  exact ⟨l, u, v, a, b, cc, d, k, hk0, by omega, rfl, sets7_below HB4.out (Nat.le_refl _) _ _ _ _ _ _ _⟩
set_option maxRecDepth 100000 in
set_option maxHeartbeats 1000000 in
theorem drawMin {A : Option Addr} {n : Nat} {zs : List Int} {B : Nat} {w : World} (c : Nat) (h : Code_ w A n zs B) :
    Calls Try.prog 59 #[.slice A n c] w fun e w' => ∃ (l u v : Int) (a b cc d : Bool) (k : Bool), e = .returned (.tuple #[.agg #[.int .i64 l, .int .i64 u, .int .i64 v, .bool a, .bool b, .bool cc, .bool d], .bool k]) ∧ Below w.heap.size w w' := by
  obtain ⟨G, hG⟩ : ∃ G, w.heap.size + 1 = G := ⟨_, rfl⟩
  have H := Lib.hid (h.fresh c (.cells #[.int .i64 0, .int .i64 0, .int .i64 0, .bool false, .bool false, .bool false, .bool false] 23) G hG)
  have HB0 := Lib.hid (below2 w (.cells #[.int .i64 0, .int .i64 0, .int .i64 0, .bool false, .bool false, .bool false, .bool false] 23) (.cells #[.slice A n c, .int .i64 0, .int .u64 0] 69))
  have QZ := Lib.hid ((BoxL.new w 0 0 0 false false false false).all (below1 _ (.cells #[.slice A n c, .int .i64 0, .int .u64 0] 69)))
  have hGw : w.heap.size ≤ G := by omega
  have hzG : w.heap.size ≠ G := by omega
  clear h
  go_enter Try.func59, Try.ntmps59
  go_wp2_with fail
  try simp only [hG]
  clear hG
  refine (lockState_at H.out (by omega)).mono ?_
  rintro e w3 ⟨l, u, v, a, b, cc, d, rfl, hs⟩
  obtain ⟨q, q0, q1, H3⟩ := hs.at H.out
  have S3 := Lib.hid hs
  have QZ3 := Lib.hid (QZ.out.kept hs.grown (by simp; exact hzG))
  clear hs QZ
  go_wp2_with fail
  refine (one_at H3 (by omega) 2 (by omega)).mono ?_
  rintro e w4 ⟨k, rfl, hs⟩
  have S4 := Lib.hid (S3.out.then hs q0 q1)
  have QZ4 := Lib.hid (QZ3.out.kept hs.grown (by simp; exact hzG))
  have HB4 := Lib.hid (below_step HB0.out S4.out hGw)
  clear hs S3 QZ3 H3 q0 q1 S4 HB0
  have k0 := QZ4.out.c0
  have k1 := QZ4.out.c1
  have k2 := QZ4.out.c2
  have k3 := QZ4.out.c3
  have k4 := QZ4.out.c4
  have k5 := QZ4.out.c5
  have k6 := QZ4.out.c6
  have f0 := QZ4.out.fz 0
  have f1 := QZ4.out.fz 1
  have f2 := QZ4.out.fz 2
  have f3 := QZ4.out.fz 3
  have f4 := QZ4.out.fz 4
  have f5 := QZ4.out.fz 5
  have f6 := QZ4.out.fz 6
  go_wp2_with fail
  refine bodyPost_ret (results_row1 rfl _ _ w.heap.size [_, _, _, _, _, _, _] _ rfl (QZ4.out.sets _ _ _ _ _ _ _).rangeAt Try.underlying23 rfl (by kernel_rfl)) rfl ?_
  exact ⟨l, u, v, a, b, cc, d, k, rfl, sets7_below HB4.out (Nat.le_refl _) _ _ _ _ _ _ _⟩
set_option maxRecDepth 100000 in
set_option maxHeartbeats 1000000 in
theorem drawPlan {A : Option Addr} {n : Nat} {zs : List Int} {B : Nat} {w : World} (c : Nat) (h : Code_ w A n zs B) :
    Calls Try.prog 39 #[.slice A n c] w fun e w' => ∃ (l u v : Int) (a b cc d : Bool) (k : Bool), e = .returned (.tuple #[.agg #[.int .i64 l, .int .i64 u, .int .i64 v, .bool a, .bool b, .bool cc, .bool d], .bool k]) ∧ Below w.heap.size w w' := by
  have C := Lib.hid (fun o => drawMin c (h.on ((Below.refl B w).alloc h.size o)))
  clear h
  go_enter Try.func39, Try.ntmps39
  go_wp2_with fail
  refine (C.out _).mono ?_
  rintro e w3 ⟨l, u, v, a, b, cc, d, k, rfl, hb⟩
  have QZ := Lib.hid ((BoxL.new w 0 0 0 false false false false).all hb)
  have HB4 := Lib.hid ((below1 w (.cells #[.int .i64 0, .int .i64 0, .int .i64 0, .bool false, .bool false, .bool false, .bool false] 23)).trans (hb.mono (by simp)))
  clear hb C
  have k0 := QZ.out.c0
  have k1 := QZ.out.c1
  have k2 := QZ.out.c2
  have k3 := QZ.out.c3
  have k4 := QZ.out.c4
  have k5 := QZ.out.c5
  have k6 := QZ.out.c6
  have f0 := QZ.out.fz 0
  have f1 := QZ.out.fz 1
  have f2 := QZ.out.fz 2
  have f3 := QZ.out.fz 3
  have f4 := QZ.out.fz 4
  have f5 := QZ.out.fz 5
  have f6 := QZ.out.fz 6
  go_wp2_with fail
  refine bodyPost_ret (results_row1 rfl _ _ w.heap.size [_, _, _, _, _, _, _] _ rfl (QZ.out.sets _ _ _ _ _ _ _).rangeAt Try.underlying23 rfl (by kernel_rfl)) rfl ?_
  exact ⟨l, u, v, a, b, cc, d, k, rfl, sets7_below HB4.out (Nat.le_refl _) _ _ _ _ _ _ _⟩
set_option maxRecDepth 100000 in
set_option maxHeartbeats 1000000 in
theorem drawHead {A : Option Addr} {n : Nat} {zs : List Int} {B : Nat} {w : World} (c : Nat) (h : Code_ w A n zs B) :
    Calls Try.prog 42 #[.slice A n c] w fun e w' => ∃ (l u v : Int) (a b cc d : Bool) (k : Bool), e = .returned (.tuple #[.agg #[.int .i64 l, .int .i64 u, .int .i64 v, .bool a, .bool b, .bool cc, .bool d], .bool k]) ∧ Below w.heap.size w w' := by
  have C := Lib.hid (fun o => drawMin c (h.on ((Below.refl B w).alloc h.size o)))
  clear h
  go_enter Try.func42, Try.ntmps42
  go_wp2_with fail
  refine (C.out _).mono ?_
  rintro e w3 ⟨l, u, v, a, b, cc, d, k, rfl, hb⟩
  have QZ := Lib.hid ((BoxL.new w 0 0 0 false false false false).all hb)
  have HB4 := Lib.hid ((below1 w (.cells #[.int .i64 0, .int .i64 0, .int .i64 0, .bool false, .bool false, .bool false, .bool false] 23)).trans (hb.mono (by simp)))
  clear hb C
  have k0 := QZ.out.c0
  have k1 := QZ.out.c1
  have k2 := QZ.out.c2
  have k3 := QZ.out.c3
  have k4 := QZ.out.c4
  have k5 := QZ.out.c5
  have k6 := QZ.out.c6
  have f0 := QZ.out.fz 0
  have f1 := QZ.out.fz 1
  have f2 := QZ.out.fz 2
  have f3 := QZ.out.fz 3
  have f4 := QZ.out.fz 4
  have f5 := QZ.out.fz 5
  have f6 := QZ.out.fz 6
  go_wp2_with fail
  refine bodyPost_ret (results_row1 rfl _ _ w.heap.size [_, _, _, _, _, _, _] _ rfl (QZ.out.sets _ _ _ _ _ _ _).rangeAt Try.underlying23 rfl (by kernel_rfl)) rfl ?_
  exact ⟨l, u, v, a, b, cc, d, k, rfl, sets7_below HB4.out (Nat.le_refl _) _ _ _ _ _ _ _⟩

/-- A state and commands of one's own. -/
def DrawnRun (w : World) (e : Ending) (w' : World) : Prop := ∃ (l u v : Int) (a b cc d : Bool) (g1 q c1 : Nat), e = .returned (.tuple #[.agg #[.int .i64 l, .int .i64 u, .int .i64 v, .bool a, .bool b, .bool cc, .bool d], .slice (some ⟨g1, 0, none⟩) q c1]) ∧ q ≤ 61 ∧ OwnC w w' g1 q c1 ∧ Below w.heap.size w w'
theorem drawnRun_mk {w w' : World} {l u v : Int} {a b cc d : Bool} {g1 q c1 : Nat} (h1 : q ≤ 61) (h2 : OwnC w w' g1 q c1) (h3 : Below w.heap.size w w') : DrawnRun w (.returned (.tuple #[.agg #[.int .i64 l, .int .i64 u, .int .i64 v, .bool a, .bool b, .bool cc, .bool d], .slice (some ⟨g1, 0, none⟩) q c1])) w' :=
  ⟨l, u, v, a, b, cc, d, g1, q, c1, rfl, h1, h2, h3⟩
set_option maxRecDepth 100000 in
set_option maxHeartbeats 2000000 in
theorem drawRun {A : Option Addr} {n : Nat} {zs : List Int} {B : Nat} {w : World} (c : Nat) (h : Code_ w A n zs B) :
    Calls Try.prog 37 #[.slice A n c] w (DrawnRun w) := by
  obtain ⟨G, hG⟩ : ∃ G, w.heap.size + 1 = G := ⟨_, rfl⟩
  have H := Lib.hid (h.fresh c (.cells #[.int .i64 0, .int .i64 0, .int .i64 0, .bool false, .bool false, .bool false, .bool false] 23) G hG)
  have HB0 := Lib.hid (below2 w (.cells #[.int .i64 0, .int .i64 0, .int .i64 0, .bool false, .bool false, .bool false, .bool false] 23) (.cells #[.slice A n c, .int .i64 0, .int .u64 0] 69))
  have QZ0 := Lib.hid ((BoxL.new w 0 0 0 false false false false).all (below1 _ (.cells #[.slice A n c, .int .i64 0, .int .u64 0] 69)))
  have hGw : w.heap.size ≤ G := by omega
  have HGW := Lib.hid hGw
  have hzG : w.heap.size ≠ G := by omega
  have hBx : B ≤ w.heap.size := h.size
  clear h
  go_enter Try.func37, Try.ntmps37
  go_wp2_with fail
  try simp only [hG]
  clear hG
  refine (lockState_at H.out (by omega)).mono ?_
  rintro e w2 ⟨l, u, v, a, b, cc, d, rfl, hs⟩
  obtain ⟨qq, hq0, hq1, H3⟩ := hs.at H.out
  have QZ2 := Lib.hid (QZ0.out.kept hs.grown (by simp; exact hzG))
  have HB2 := Lib.hid (below_step HB0.out hs hGw)
  have hzl := QZ2.out.lt
  have hGl := H3.lt
  clear hs QZ0 H HB0
  go_wp2_with fail
  have HC := Lib.hid (H3.kept (World.grownBy_alloc w2 (.cells #[.int .i64 l, .int .i64 u, .int .i64 v, .bool a, .bool b, .bool cc, .bool d] 23) none) (by simp) (fun r e => by cases e))
  have QZ := Lib.hid (QZ2.out.all (below1 w2 (.cells #[.int .i64 l, .int .i64 u, .int .i64 v, .bool a, .bool b, .bool cc, .bool d] 23)))
  have Q3 := Lib.hid (BoxL.new w2 l u v a b cc d)
  have HB3 := Lib.hid (HB2.out.alloc HB2.out.size (.cells #[.int .i64 l, .int .i64 u, .int .i64 v, .bool a, .bool b, .bool cc, .bool d] 23))
  obtain ⟨xs, hxs⟩ : ∃ x, w2.heap.size = x := ⟨_, rfl⟩
  rw [hxs] at Q3
  obtain ⟨w3, hw3'⟩ : ∃ x, w2.alloc (.cells #[.int .i64 l, .int .i64 u, .int .i64 v, .bool a, .bool b, .bool cc, .bool d] 23) = x := ⟨_, rfl⟩
  rw [hw3'] at HC QZ Q3 HB3 ⊢
  obtain ⟨xz, hxz⟩ : ∃ x, w.heap.size = x := ⟨_, rfl⟩
  have hxzw : w.heap.size ≤ xz := by omega
  have hsG : xs ≠ G := by omega
  have hsz : xs ≠ xz := by omega
  rw [hxz] at QZ hzG hBx
  have hw3 : w.heap.size ≤ w3.heap.size := HB3.out.size
  try simp only [hxs]
  try simp only [hxz]
  clear hxs hw3' hxz H3 QZ2 HB2 hzl hGl hGw
  have hq1' : qq ≤ 200 := by omega
  clear hq1
  have hq1 := hq1'
  clear hq1'
  refine region_inv (by kernel_rfl) (by kernel_rfl) (fun Fl9 ac W => ∃ (x11 x12 x13 x14 x3 : Value), ac = { tmps := #[Value.slice A n c, undef, Value.pointer (some ⟨xz, 0, none⟩), x3, Value.pointer (some ⟨G, 0, none⟩), Value.pointer (some ⟨xs, 0, none⟩), Value.slice A n c, Value.agg #[Value.slice A n c, Value.int IntKind.i64 0, Value.int IntKind.u64 0], Value.pointer (some ⟨G, 0, none⟩), Value.pointer (some ⟨G, 0, none⟩), Value.agg #[Value.int IntKind.i64 l, Value.int IntKind.i64 u, Value.int IntKind.i64 v, Value.bool a, Value.bool b, Value.bool cc, Value.bool d], x11, x12, x13, x14], defers := [] } ∧ BelowX G w.heap.size w3 W ∧
        (Fl9 0 = true → x11 = .agg #[.int .i64 l, .int .i64 u, .int .i64 v, .bool a, .bool b, .bool cc, .bool d]) ∧
        (Fl9 1 = true → x12 = .pointer (some ⟨G, 0, none⟩)) ∧
        (Fl9 2 = true → x13 = .agg #[.int .i64 l, .int .i64 u, .int .i64 v, .bool a, .bool b, .bool cc, .bool d]) ∧
        (Fl9 3 = true → ∃ g1 q c1, x14 = .slice (some ⟨g1, 0, none⟩) q c1 ∧ q ≤ 61 ∧ OwnC w W g1 q c1) ∧
        (Fl9 4 = true → True) ∧
        (Fl9 5 = true → ∃ g1 q c1, x3 = .slice (some ⟨g1, 0, none⟩) q c1 ∧ q ≤ 61 ∧ OwnC w W g1 q c1) ∧
        (BoxL W xs l u v a b cc d) ∧
        (Fl9 3 = false → ∃ q, 0 ≤ q ∧ q ≤ 200 ∧ CurAt W G A n c q zs B) ∧
        (∃ l0 l1 l2 l3 l4 l5 l6, BoxL W xz l0 l1 l2 l3 l4 l5 l6 ∧ (Fl9 4 = true → l0 = l ∧ l1 = u ∧ l2 = v ∧ l3 = a ∧ l4 = b ∧ l5 = cc ∧ l6 = d)) ∧
        (Fl9 5 = true → Fl9 3 = true)) ?_ ?_ ?_
  · exact ⟨_, _, _, _, _, rfl, BelowX.of (((Drawn.one w3 1).below _)), (fun q0 => nomatch q0), (fun q0 => nomatch q0), (fun q0 => nomatch q0), (fun q0 => nomatch q0), (fun q0 => nomatch q0), (fun q0 => nomatch q0), (Q3.out.all ((Drawn.one w3 1).below _)), (fun _ => ⟨qq, hq0, hq1, HC.out.kept (grown_drawn (Drawn.one w3 1) none) (by simp) (fun r e => by cases e)⟩), ⟨_, _, _, _, _, _, _, QZ.out.all ((Drawn.one w3 1).below _), (fun q0 => nomatch q0)⟩, (fun q0 => nomatch q0)⟩
  · intro Fl9 ac W i9 o9 hJ ho hL hdep K9 hK
    obtain ⟨x11, x12, x13, x14, x3, rfl, hB, hh0, hh1, hh2, hh3, hh4, hh5, hx0, hx1, hx2, hx3⟩ := hJ
    have hi9 : i9 < 6 := by simpa using (Array.getElem?_eq_some_iff.1 ho).1
    have QW := hx0
    have C0 := QW.c0
    have C1 := QW.c1
    have C2 := QW.c2
    have C3 := QW.c3
    have C4 := QW.c4
    have C5 := QW.c5
    have C6 := QW.c6
    clear QW
    obtain rfl | rfl | rfl | rfl | rfl | rfl : i9 = 0 ∨ i9 = 1 ∨ i9 = 2 ∨ i9 = 3 ∨ i9 = 4 ∨ i9 = 5 := by omega
    · -- operation 0
      cases ho
      go_simp
      exact hK _ _ ⟨_, _, _, _, _, rfl, hB, fun _ => rfl, hh1, hh2, hh3, hh4, hh5, hx0, hx1, hx2, hx3⟩
    · -- operation 1
      cases ho
      go_simp
      exact hK _ _ ⟨_, _, _, _, _, rfl, hB, hh0, fun _ => rfl, hh2, hh3, hh4, hh5, hx0, hx1, hx2, hx3⟩
    · -- operation 2
      cases ho
      go_simp
      exact hK _ _ ⟨_, _, _, _, _, rfl, hB, hh0, hh1, fun _ => rfl, hh3, hh4, hh5, hx0, hx1, hx2, hx3⟩
    · -- operation 3
      cases ho
      obtain rfl := hh1 (hdep ⟨1, .data⟩ (by simp) rfl)
      obtain rfl := hh2 (hdep ⟨2, .data⟩ (by simp) rfl)
      obtain ⟨q9, q90, q91, H9⟩ := hx1 hL
      go_simp
      refine (commands_at H9 (by omega) l u v a b cc d).mono ?_
      rintro e w9 ⟨g1, q1, c1, rfl, hq61, ⟨L9, hg9, ho9⟩, hs9⟩
      have hx9 := BelowX.grown hs9.grown
      have hle9 : w.heap.size ≤ W.heap.size := Nat.le_trans hw3 hB.size
      replace ho9 : OwnC w w9 g1 q1 c1 := ⟨L9, Nat.le_trans hle9 hg9, own_low ho9 hle9⟩
      exact hK _ _ ⟨_, _, _, _, _, rfl, hB.trans (hx9.mono hle9), hh0, hh1, hh2, fun _ => ⟨_, _, _, rfl, hq61, ho9⟩, hh4, (fun q0 => absurd (hx3 q0) (by rw [hL]; simp)), (hx0.allX hx9 hsG), (fun q0 => nomatch q0), (by obtain ⟨l0, l1, l2, l3, l4, l5, l6, h9, k9⟩ := hx2; exact ⟨_, _, _, _, _, _, _, h9.allX hx9 hzG, k9⟩), fun _ => rfl⟩
    · -- operation 4
      cases ho
      obtain rfl := hh0 (hdep ⟨0, .data⟩ (by simp) rfl)
      obtain ⟨z0, z1, z2, z3, z4, z5, z6, hbz, -⟩ := hx2
      have ii0 := hbz.c0
      have ii1 := hbz.c1
      have ii2 := hbz.c2
      have ii3 := hbz.c3
      have ii4 := hbz.c4
      have ii5 := hbz.c5
      have ii6 := hbz.c6
      have jj0 := hbz.fz 0
      have jj1 := hbz.fz 1
      have jj2 := hbz.fz 2
      have jj3 := hbz.fz 3
      have jj4 := hbz.fz 4
      have jj5 := hbz.fz 5
      have jj6 := hbz.fz 6
      go_simp
      exact hK _ _ ⟨_, _, _, _, _, rfl, hB.setsX hxzw _ _ _ _ _ _ _, hh0, hh1, hh2, fun q0 => (by obtain ⟨g1, q1, c1, e, h1, L9, h2, h3⟩ := hh3 q0; exact ⟨g1, q1, c1, e, h1, L9, h2, h3.kept (grown_sets7 _ _ _ _ _ _ _ _ _) (.inr (own_off h3 hbz (by decide)))⟩), fun _ => trivial, fun q0 => (by obtain ⟨g1, q1, c1, e, h1, L9, h2, h3⟩ := hh5 q0; exact ⟨g1, q1, c1, e, h1, L9, h2, h3.kept (grown_sets7 _ _ _ _ _ _ _ _ _) (.inr (own_off h3 hbz (by decide)))⟩), (hx0.kept (grown_sets7 _ _ _ _ _ _ _ _ _) (by simp; exact hsz)), (fun q0 => (by obtain ⟨q9, q90, q91, h9⟩ := hx1 q0; exact ⟨q9, q90, q91, h9.kept (grown_sets7 _ _ _ _ _ _ _ _ _) (by simp; omega) (fun r e => by cases e; exact hBx)⟩)), ⟨_, _, _, _, _, _, _, hbz.sets _ _ _ _ _ _ _, fun _ => ⟨rfl, rfl, rfl, rfl, rfl, rfl, rfl⟩⟩, hx3⟩
    · -- operation 5
      cases ho
      have hd3 := hdep ⟨3, .data⟩ (by simp) rfl
      obtain ⟨g1, q1, c1, rfl, hq61, ho1⟩ := hh3 hd3
      go_simp
      exact hK _ _ ⟨_, _, _, _, _, rfl, hB, hh0, hh1, hh2, hh3, hh4, fun _ => ⟨_, _, _, rfl, hq61, ho1⟩, hx0, hx1, hx2, fun _ => hd3⟩
  intro Fl9 ac W hJ hall
  obtain ⟨x11, x12, x13, x14, x3, rfl, hB, hh0, hh1, hh2, hh3, hh4, hh5, hxs, -, hxz9, -⟩ := hJ
  obtain rfl := hh0 (hall 0 (by decide))
  obtain rfl := hh1 (hall 1 (by decide))
  obtain rfl := hh2 (hall 2 (by decide))
  clear hh3
  obtain - := hh4 (hall 4 (by decide))
  obtain ⟨gf, qf, cf, rfl, hqf, hof⟩ := hh5 (hall 5 (by decide))
  obtain ⟨l0, l1, l2, l3, l4, l5, l6, hbz, hbe⟩ := hxz9
  obtain ⟨rfl, rfl, rfl, rfl, rfl, rfl, rfl⟩ := hbe (hall 4 (by decide))
  clear hall
  have HB9 := Lib.hid (HB3.out.trans (hB.below HGW.out))
  clear hB hxs HB3 Q3 QZ HC
  try go_wp2_with fail
  refine bodyPost_ret (results_row1 rfl _ _ xz [_, _, _, _, _, _, _] _ rfl hbz.rangeAt Try.underlying23 rfl (by kernel_rfl)) rfl ?_
  exact drawnRun_mk hqf hof HB9.out
set_option maxRecDepth 100000 in
set_option maxHeartbeats 1000000 in
theorem drawWater {A : Option Addr} {n : Nat} {zs : List Int} {B : Nat} {w : World} (c : Nat) (h : Code_ w A n zs B) :
    Calls Try.prog 41 #[.slice A n c] w (DrawnRun w) := by
  have C := Lib.hid (fun o => drawRun c (h.on ((Below.refl B w).alloc h.size o)))
  clear h
  go_enter Try.func41, Try.ntmps41
  go_wp2_with fail
  refine (C.out _).mono ?_
  rintro e w3 ⟨l, u, v, a, b, cc, d, g1, q, c1, rfl, hq, ⟨L, hg, ho⟩, hb⟩
  have QZ := Lib.hid ((BoxL.new w 0 0 0 false false false false).all hb)
  have HB4 := Lib.hid ((below1 w (.cells #[.int .i64 0, .int .i64 0, .int .i64 0, .bool false, .bool false, .bool false, .bool false] 23)).trans (hb.mono (by simp)))
  have HO := Lib.hid (show OwnC w (sets7 w3 w.heap.size l u v a b cc d) g1 q c1 from ⟨L, Nat.le_trans (by simp) hg, (own_low ho (by simp)).kept (grown_sets7 _ _ _ _ _ _ _ _ _) (.inr (own_off ho QZ.out (by decide)))⟩)
  clear hb C ho hg
  have k0 := QZ.out.c0
  have k1 := QZ.out.c1
  have k2 := QZ.out.c2
  have k3 := QZ.out.c3
  have k4 := QZ.out.c4
  have k5 := QZ.out.c5
  have k6 := QZ.out.c6
  have f0 := QZ.out.fz 0
  have f1 := QZ.out.fz 1
  have f2 := QZ.out.fz 2
  have f3 := QZ.out.fz 3
  have f4 := QZ.out.fz 4
  have f5 := QZ.out.fz 5
  have f6 := QZ.out.fz 6
  go_wp2_with fail
  refine bodyPost_ret (results_row1 rfl _ _ w.heap.size [_, _, _, _, _, _, _] _ rfl (QZ.out.sets _ _ _ _ _ _ _).rangeAt Try.underlying23 rfl (by kernel_rfl)) rfl ?_
  exact drawnRun_mk hq HO.out (sets7_below HB4.out (Nat.le_refl _) _ _ _ _ _ _ _)
set_option maxRecDepth 100000 in
set_option maxHeartbeats 1000000 in
theorem drawNew {A : Option Addr} {n : Nat} {zs : List Int} {B : Nat} {w : World} (c : Nat) (h : Code_ w A n zs B) :
    Calls Try.prog 38 #[.slice A n c] w fun e w' => ∃ lo hi : Int, e = .returned (.tuple #[.int .i64 lo, .int .i64 hi]) ∧ Below w.heap.size w w' := by
  have H := Lib.hid (h.start c)
  have HB0 := Lib.hid (below1 w (.cells #[.slice A n c, .int .i64 0, .int .u64 0] 69))
  clear h
  go_enter Try.func38, Try.ntmps38
  go_wp2_with fail
  refine (among_new H.out (by omega) [0, 100, -1, 2000] 4 rfl (by omega) (by omega) (w.heap.size + 1) (by simp)).mono ?_
  rintro e w2 ⟨lo, hlo, rfl, hs⟩
  have hlo2 : -1 ≤ lo ∧ lo ≤ 2000 := by
    simp only [List.mem_cons, List.not_mem_nil, or_false] at hlo
    omega
  obtain ⟨q, q0, q1, H3⟩ := hs.at H.out
  have S2 := Lib.hid hs
  obtain ⟨lo0, lo1⟩ := hlo2
  clear hs hlo
  go_wp2_with fail
  refine (among_new H3 (by omega) [0, 300, -1, 1900, 2001] 5 rfl (by omega) (by omega) w2.heap.size rfl).mono ?_
  rintro e w4 ⟨dz, hdz, rfl, hs⟩
  have hdz2 : -1 ≤ dz ∧ dz ≤ 2001 := by
    simp only [List.mem_cons, List.not_mem_nil, or_false] at hdz
    omega
  obtain ⟨dz0, dz1⟩ := hdz2
  have HB4 := Lib.hid (below_step HB0.out (S2.out.then hs q0 q1) (Nat.le_refl _))
  clear hs hdz S2 H3 q0 q1 H HB0
  go_wp2_with fail
  refine bodyPost_ret (results_tmp2 rfl _ _ _) rfl ?_
  exact ⟨_, _, rfl, HB4.out⟩
end Go.Proofs.Ytmnagjjpncancaa
