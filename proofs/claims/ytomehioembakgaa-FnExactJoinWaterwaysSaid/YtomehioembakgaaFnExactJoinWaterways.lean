/- JoinWaterways answers as its model does, at all waterways and numbers; it writes into no argument and its answers own their memory. -/
import Derived.Test.YtomehioembakgaaWayRow
import Derived.Test.YtomehioembakgaaWayJt
import Derived.OpenShut
import Derived.ShutString
import Derived.ChangeOld
import Derived.WalkLawsBesides
import Derived.Lib.SmallJoins
import Derived.Deep.RegionHeld3
namespace Go.Proofs.Ytomehioembakgaa.fnExactJoinWaterways
open Go.ChangeShapes Go.WideShapes Go.ChangeAt Go.RowKit
open Go.ChangeMaps (open_string shut_string)
set_option linter.unusedVariables false

set_option maxRecDepth 100000 in
set_option maxHeartbeats 8000000 in
theorem walk (a : Option Addr) (n c : Nat) (rs : List (Int × Int × Int)) (b : Option Addr) (n2 c2 : Nat) (zs : List Int) (x : Option Addr) (m cx : Nat) (ts : List (Int × Int × Int)) (y : Option Addr) (m2 cy : Nat) (ys : List Int) (p : Int) (w : World) (hn : rs.length = n) (hm : n ≤ maxLen) (hr : Has w w.heap.size a (flat rs)) (hz : IsInts .i64 w b n2 zs) (kn : ts.length = m) (km : m ≤ maxLen) (kr : Has w w.heap.size x (flat ts)) (kz : IsInts .i64 w y m2 ys) (kp : (Lit.int .i64 p).wf = true) :
    Calls Try.prog 12 #[.agg #[.slice a n c, .slice b n2 c2], .agg #[.slice x m cx, .slice y m2 cy], .int .i64 p] w fun e w' => e = .returned (.bool true) ∧ Below w.heap.size w w' := by
  have hw : IsWay w w.heap.size a n b n2 rs zs := ⟨hn, hz.1, Nat.le_refl _, hr, hz.2.2.2⟩
  have kw : IsWay w w.heap.size x m y m2 ts ys := ⟨kn, kz.1, Nat.le_refl _, kr, kz.2.2.2⟩
  have HM := Lib.hid (And.intro hm hz.2.1)
  have KM := Lib.hid (And.intro km kz.2.1)
  by_cases hfit : (n : Int) + (n2 : Int) ≤ 1048576
  · have SZ := Lib.hid (fun W => szW_any a b n c n2 c2 1048576 W HM.out.1 HM.out.2 (by omega) (by omega) (1048576 - n - n2) (fun _ => rfl) (fun h => absurd hfit h))
    by_cases hfit2 : (m : Int) + (m2 : Int) ≤ 1048576 - n - n2
    · have SY := Lib.hid (fun W => szW_any x y m cx m2 cy (1048576 - n - n2) W KM.out.1 KM.out.2 (by omega) (by omega) (1048576 - n - n2 - m - m2) (fun _ => rfl) (fun h => absurd hfit2 h))
      obtain ⟨R, Z, ok, ⟨hR1, hZ1, hR, hZ⟩, hCS, hCI⟩ := two_JoinWaterways n n2 m m2 rs zs ts ys p hm km
      have CS := Lib.hid hCS
      have CI := Lib.hid hCI
      have HW := Lib.hid hw
      have KW := Lib.hid kw
      clear hCS hCI hn hr hz hw hm kn kr kz kw km hR1 hZ1
      have hney : (ok != ok) = false := by simp
      have hl1 : n ≤ 1048576 := by omega
      have hl2 : n2 ≤ 1048576 := by omega
      have hl3 : m ≤ 1048576 := by omega
      have hl4 : m2 ≤ 1048576 := by omega
      have hmR : R.length ≤ maxLen := by unfold maxLen; omega
      have hmZ : Z.length ≤ maxLen := by unfold maxLen; omega
      have hs0 : ¬ (1048576 - (n : Int) - (n2 : Int) < 0) := by omega
      have hs1 : ¬ (1048576 - (n : Int) - (n2 : Int) - (m : Int) - (m2 : Int) < 0) := by omega
      go_enter Try.func12, Try.ntmps12
      have S0 := Lib.hid ((St.start w).box2 (.slice a n c) (.slice b n2 c2) (.slice x m cx) (.slice y m2 cy) 44 44)
      go_wp2_with fail
      refine (SZ.out _).mono ?_
      rintro e w1 ⟨rfl, hb⟩
      have S1 := Lib.hid (S0.out.quiet hb)
      clear hb S0 SZ
      have c0 := (S1.out.cell (w.heap.size, 0, .slice a n c) (by simp)).2
      have c1 := (S1.out.cell (w.heap.size, 1, .slice b n2 c2) (by simp)).2
      have k0 := (S1.out.cell (w.heap.size + 1, 0, .slice x m cx) (by simp)).2
      have k1 := (S1.out.cell (w.heap.size + 1, 1, .slice y m2 cy) (by simp)).2
      go_wp2_with fail
      refine (SY.out _).mono ?_
      rintro e w2 ⟨rfl, hb⟩
      have S2 := Lib.hid (S1.out.quiet hb)
      clear hb S1
      have ZW : w.heap.size + 2 ≤ w2.heap.size := by have := World.block_lt_of_cell? w2 (a := ⟨w.heap.size + 1, 0, none⟩) (S2.out.cell (w.heap.size + 1, 0, .slice x m cx) (by simp)).2; simp only at this; omega
      clear SY c0 c1 k0 k1
      have c0 := (S2.out.cell (w.heap.size, 0, .slice a n c) (by simp)).2
      have c1 := (S2.out.cell (w.heap.size, 1, .slice b n2 c2) (by simp)).2
      have k0 := (S2.out.cell (w.heap.size + 1, 0, .slice x m cx) (by simp)).2
      have k1 := (S2.out.cell (w.heap.size + 1, 1, .slice y m2 cy) (by simp)).2
      go_wp2_with fail
      clear c0 c1 k0 k1
      refine region_inv (by kernel_rfl) (by kernel_rfl) (fun L ac W => ∃ (vp0 vq0 vp1 vq1 vpr vrj vt0 vf0 vf1 vpb vbk : Value) (A1 : Option Addr) (d1 : Nat) (A2 : Option Addr) (d2 : Nat), ac = { tmps := #[.agg #[.slice a n c, .slice b n2 c2], .agg #[.slice x m cx, .slice y m2 cy], .int .i64 p, .pointer (some ⟨w.heap.size, 0, none⟩), .pointer (some ⟨w.heap.size + 1, 0, none⟩), undef, .bool false, .int .i64 (1048576 - n - n2 - m - m2), vpb, vbk, undef, undef, undef, undef, undef, undef, undef, undef, undef, .agg #[.slice a n c, .slice b n2 c2], .int .i64 1048576, .int .i64 (1048576 - n - n2), .int .i64 (1048576 - n - n2), .bool (decide ((1048576 : Int) - n - n2 < 0)), .agg #[.slice x m cx, .slice y m2 cy], .int .i64 (1048576 - n - n2), .int .i64 (1048576 - n - n2 - m - m2), .int .i64 (1048576 - n - n2 - m - m2), .bool (decide ((1048576 : Int) - n - n2 - m - m2 < 0)), vt0, vp0, vq0, vp1, vq1, vpr, vrj, vf0, vf1, undef, undef, undef, undef, undef, undef, undef, undef, undef, undef, undef, undef, undef, undef, undef, undef, undef, undef, undef, undef, undef, undef, undef, undef, undef, undef, undef, undef, undef, undef, undef, undef, undef, undef, undef, undef, undef, undef, undef, undef, undef, undef, undef, undef, undef, undef, undef, undef, undef, undef, undef, undef, undef, undef, undef, undef, undef, undef, undef, undef, undef, undef, undef, undef, undef, undef, undef, undef, undef, undef, undef, undef, undef, undef, undef, undef, undef, undef, undef, undef, undef, undef, undef, undef, undef, undef], defers := [] } ∧ Below w2.heap.size w2 W ∧
          (L 0 = true → vp0 = .agg #[.slice a n c, .slice b n2 c2]) ∧
          (L 1 = true → L 5 = false → ∃ g g2, vq0 = .agg #[.slice (some ⟨g, 0, none⟩) n n, .slice (some ⟨g2, 0, none⟩) n2 n2] ∧ IsWay W W.heap.size (some ⟨g, 0, none⟩) n (some ⟨g2, 0, none⟩) n2 rs zs) ∧
          (L 2 = true → vp1 = .agg #[.slice x m cx, .slice y m2 cy]) ∧
          (L 3 = true → L 5 = false → ∃ g g2, vq1 = .agg #[.slice (some ⟨g, 0, none⟩) m m, .slice (some ⟨g2, 0, none⟩) m2 m2] ∧ IsWay W W.heap.size (some ⟨g, 0, none⟩) m (some ⟨g2, 0, none⟩) m2 ts ys) ∧
          (L 4 = true → vpr = .int .i64 p) ∧
          (L 5 = true → vrj = .tuple #[.agg #[.slice A1 R.length d1, .slice A2 Z.length d2], .bool ok] ∧ W.ownsRow w2.heap.size 71 3 (.slice A1 R.length d1) R.length (flat R) ∧ W.ownsRow w2.heap.size 3 1 (.slice A2 Z.length d2) Z.length (Z.map (.int .i64))) ∧
          (L 6 = true → vt0 = .tuple #[.agg #[.slice A1 R.length d1, .slice A2 Z.length d2], .bool ok]) ∧
          (L 7 = true → vf0 = .agg #[.slice A1 R.length d1, .slice A2 Z.length d2]) ∧
          (L 8 = true → vf1 = .bool ok) ∧
          (L 9 = true → L 10 = false → ∃ g, vpb = .pointer (some ⟨g, 0, none⟩) ∧ w2.heap.size ≤ g ∧ W.heap[g]? = some (.cells #[.slice none 0 0, .slice none 0 0] 27 (0, 0))) ∧
          (L 10 = true → ∃ g, vpb = .pointer (some ⟨g, 0, none⟩) ∧ w2.heap.size ≤ g ∧ W.heap[g]? = some (.cells #[.slice A1 R.length d1, .slice A2 Z.length d2] 27 (0, 0))) ∧
          (L 11 = true → vbk = .bool ok) ∧
          (L 6 = true → L 5 = true) ∧
          (L 7 = true → L 5 = true) ∧
          (L 10 = true → L 9 = true ∧ L 5 = true)) ?_ ?_ ?_
      · exact ⟨_, _, _, _, _, _, _, _, _, _, _, none, 0, none, 0, rfl, (Drawn.one w2 1).below _, (fun q => nomatch q), (fun q => nomatch q), (fun q => nomatch q), (fun q => nomatch q), (fun q => nomatch q), (fun q => nomatch q), (fun q => nomatch q), (fun q => nomatch q), (fun q => nomatch q), (fun q => nomatch q), (fun q => nomatch q), (fun q => nomatch q), (fun q => nomatch q), (fun q => nomatch q), (fun q => nomatch q)⟩
      · intro L ac W i o hJ ho hL hdep K' hK
        obtain ⟨vp0, vq0, vp1, vq1, vpr, vrj, vt0, vf0, vf1, vpb, vbk, A1, d1, A2, d2, rfl, hB, h0, h1, h2, h3, h4, h5, h6, h7, h8, h9, h10, h11, c6, c7, c10⟩ := hJ
        have hi : i < 12 := by simpa using (Array.getElem?_eq_some_iff.1 ho).1
        have C0 := ((S2.out.quiet hB).cell (w.heap.size, 0, .slice a n c) (by simp)).2
        have C1 := ((S2.out.quiet hB).cell (w.heap.size, 1, .slice b n2 c2) (by simp)).2
        have K0 := ((S2.out.quiet hB).cell (w.heap.size + 1, 0, .slice x m cx) (by simp)).2
        have K1 := ((S2.out.quiet hB).cell (w.heap.size + 1, 1, .slice y m2 cy) (by simp)).2
        obtain rfl | rfl | rfl | rfl | rfl | rfl | rfl | rfl | rfl | rfl | rfl | rfl : i = 0 ∨ i = 1 ∨ i = 2 ∨ i = 3 ∨ i = 4 ∨ i = 5 ∨ i = 6 ∨ i = 7 ∨ i = 8 ∨ i = 9 ∨ i = 10 ∨ i = 11 := by omega
        · -- operation 0
          cases ho
          go_simp
          exact hK _ _ ⟨_, _, _, _, _, _, _, _, _, _, _, A1, d1, A2, d2, rfl, hB, fun _ => rfl, h1, h2, h3, h4, h5, h6, h7, h8, h9, h10, h11, fun q => ((c6 q)), fun q => ((c7 q)), fun q => ⟨(c10 q).1, (c10 q).2⟩⟩
        · -- operation 1
          cases ho
          obtain rfl := h0 (hdep ⟨0, .data⟩ (by simp) rfl)
          go_simp
          refine (toW_way c c2 (HW.out.below (S2.out.quiet hB).low (Nat.le_refl _)) hl1 hl2).mono ?_
          rintro e w9 ⟨g, g2, rfl, -, -, -, i9, hb9⟩
          exact hK _ _ ⟨_, _, _, _, _, _, _, _, _, _, _, A1, d1, A2, d2, rfl, hB.trans (hb9.mono hB.size), h0, fun _ _ => ⟨_, _, rfl, i9⟩, h2, fun q r => let ⟨g, g2, e, i⟩ := h3 q r; ⟨g, g2, e, (i.below hb9 (Nat.le_refl _)).all⟩, h4, fun q => let ⟨e, o1, o2⟩ := h5 q; ⟨e, own_below o1 hb9, own_below o2 hb9⟩, h6, h7, h8, fun q r => let ⟨g, e, l, hp⟩ := h9 q r; ⟨g, e, l, (hb9.block g (Array.getElem?_eq_some_iff.1 hp).1).trans hp⟩, fun q => let ⟨g, e, l, hp⟩ := h10 q; ⟨g, e, l, (hb9.block g (Array.getElem?_eq_some_iff.1 hp).1).trans hp⟩, h11, fun q => ((c6 q)), fun q => ((c7 q)), fun q => ⟨(c10 q).1, (c10 q).2⟩⟩
        · -- operation 2
          cases ho
          go_simp
          exact hK _ _ ⟨_, _, _, _, _, _, _, _, _, _, _, A1, d1, A2, d2, rfl, hB, h0, h1, fun _ => rfl, h3, h4, h5, h6, h7, h8, h9, h10, h11, fun q => ((c6 q)), fun q => ((c7 q)), fun q => ⟨(c10 q).1, (c10 q).2⟩⟩
        · -- operation 3
          cases ho
          obtain rfl := h2 (hdep ⟨2, .data⟩ (by simp) rfl)
          go_simp
          refine (toW_way cx cy (KW.out.below (S2.out.quiet hB).low (Nat.le_refl _)) hl3 hl4).mono ?_
          rintro e w9 ⟨g, g2, rfl, -, -, -, i9, hb9⟩
          exact hK _ _ ⟨_, _, _, _, _, _, _, _, _, _, _, A1, d1, A2, d2, rfl, hB.trans (hb9.mono hB.size), h0, fun q r => let ⟨g, g2, e, i⟩ := h1 q r; ⟨g, g2, e, (i.below hb9 (Nat.le_refl _)).all⟩, h2, fun _ _ => ⟨_, _, rfl, i9⟩, h4, fun q => let ⟨e, o1, o2⟩ := h5 q; ⟨e, own_below o1 hb9, own_below o2 hb9⟩, h6, h7, h8, fun q r => let ⟨g, e, l, hp⟩ := h9 q r; ⟨g, e, l, (hb9.block g (Array.getElem?_eq_some_iff.1 hp).1).trans hp⟩, fun q => let ⟨g, e, l, hp⟩ := h10 q; ⟨g, e, l, (hb9.block g (Array.getElem?_eq_some_iff.1 hp).1).trans hp⟩, h11, fun q => ((c6 q)), fun q => ((c7 q)), fun q => ⟨(c10 q).1, (c10 q).2⟩⟩
        · -- operation 4
          cases ho
          go_simp
          exact hK _ _ ⟨_, _, _, _, _, _, _, _, _, _, _, A1, d1, A2, d2, rfl, hB, h0, h1, h2, h3, fun _ => rfl, h5, h6, h7, h8, h9, h10, h11, fun q => ((c6 q)), fun q => ((c7 q)), fun q => ⟨(c10 q).1, (c10 q).2⟩⟩
        · -- operation 5
          cases ho
          obtain ⟨g, g2, rfl, i1⟩ := h1 (hdep ⟨1, .data⟩ (by simp) rfl) hL
          obtain ⟨g', g2', rfl, i3⟩ := h3 (hdep ⟨3, .data⟩ (by simp) rfl) hL
          obtain rfl := h4 (hdep ⟨4, .data⟩ (by simp) rfl)
          go_simp
          refine (CS.out _ _ _ _ _ _ _ n n2 m m2 i1 i3).mono ?_
          rintro e w9 ⟨s1, s2, rfl, o1, o2, hb9⟩
          obtain ⟨E1, e1, rfl⟩ := own_form2 o1
          obtain ⟨E2, e2, rfl⟩ := own_form2 o2
          exact hK _ _ ⟨_, _, _, _, _, _, _, _, _, _, _, E1, e1, E2, e2, rfl, hB.trans (hb9.mono hB.size), h0, (fun _ r => nomatch r), h2, (fun _ r => nomatch r), h4, fun _ => ⟨rfl, own_low o1 hB.size, own_low o2 hB.size⟩, (fun q => by have z := (c6 q); rw [hL] at z; exact nomatch z), (fun q => by have z := (c7 q); rw [hL] at z; exact nomatch z), h8, fun q r => let ⟨g, e, l, hp⟩ := h9 q r; ⟨g, e, l, (hb9.block g (Array.getElem?_eq_some_iff.1 hp).1).trans hp⟩, (fun q => by have z := (c10 q).2; rw [hL] at z; exact nomatch z), h11, fun q => (rfl), fun q => (rfl), fun q => ⟨(c10 q).1, rfl⟩⟩
        · -- operation 6
          cases ho
          have hd5 := hdep ⟨5, .data⟩ (by simp) rfl
          obtain ⟨rfl, o1, o2⟩ := h5 hd5
          go_simp
          exact hK _ _ ⟨_, _, _, _, _, _, _, _, _, _, _, A1, d1, A2, d2, rfl, hB, h0, h1, h2, h3, h4, h5, fun _ => rfl, h7, h8, h9, h10, h11, fun _ => (hd5), fun q => ((c7 q)), fun q => ⟨(c10 q).1, (c10 q).2⟩⟩
        · -- operation 7
          cases ho
          have hd6 := hdep ⟨6, .data⟩ (by simp) rfl
          have hd5 := c6 hd6
          obtain ⟨rfl, -, -⟩ := h5 hd5
          obtain rfl := h6 hd6
          go_simp
          exact hK _ _ ⟨_, _, _, _, _, _, _, _, _, _, _, A1, d1, A2, d2, rfl, hB, h0, h1, h2, h3, h4, h5, h6, fun _ => rfl, h8, h9, h10, h11, fun q => ((c6 q)), fun _ => (hd5), fun q => ⟨(c10 q).1, (c10 q).2⟩⟩
        · -- operation 8
          cases ho
          obtain rfl := h6 (hdep ⟨6, .data⟩ (by simp) rfl)
          go_simp
          exact hK _ _ ⟨_, _, _, _, _, _, _, _, _, _, _, A1, d1, A2, d2, rfl, hB, h0, h1, h2, h3, h4, h5, h6, h7, fun _ => rfl, h9, h10, h11, fun q => ((c6 q)), fun q => ((c7 q)), fun q => ⟨(c10 q).1, (c10 q).2⟩⟩
        · -- operation 9
          cases ho
          go_simp
          exact hK _ _ ⟨_, _, _, _, _, _, _, _, _, _, _, A1, d1, A2, d2, rfl, hB.alloc hB.size _, h0, fun q r => let ⟨g, g2, e, i⟩ := h1 q r; ⟨g, g2, e, (i.below ((Below.refl _ W).alloc (Nat.le_refl _) _) (Nat.le_refl _)).all⟩, h2, fun q r => let ⟨g, g2, e, i⟩ := h3 q r; ⟨g, g2, e, (i.below ((Below.refl _ W).alloc (Nat.le_refl _) _) (Nat.le_refl _)).all⟩, h4, fun q => let ⟨e, o1, o2⟩ := h5 q; ⟨e, o1.alloc _, o2.alloc _⟩, h6, h7, h8, fun _ _ => ⟨_, rfl, hB.size, heap_alloc_new W _⟩, (fun q => by have z := (c10 q).1; rw [hL] at z; exact nomatch z), h11, fun q => ((c6 q)), fun q => ((c7 q)), fun q => ⟨rfl, (c10 q).2⟩⟩
        · -- operation 10
          cases ho
          have hd9 := hdep ⟨9, .data⟩ (by simp) rfl
          have hd7 := hdep ⟨7, .data⟩ (by simp) rfl
          have hd5 := c7 hd7
          obtain ⟨g, rfl, hgl, hp0⟩ := h9 hd9 hL
          obtain rfl := h7 hd7
          obtain ⟨rfl, o1, o2⟩ := h5 hd5
          have s0 := cell_of_row W g 0 _ _ _ hp0
          have s1 := cell_of_row W g 1 _ _ _ hp0
          have s2 := frozen_of_row W g 0 _ _ hp0
          have s3 := frozen_of_row W g 1 _ _ hp0
          go_simp
          exact hK _ _ ⟨_, _, _, _, _, _, _, _, _, _, _, A1, d1, A2, d2, rfl, (hB.setCell (p := ⟨g, 0, none⟩) hgl _).setCell (p := ⟨g, 1, none⟩) hgl _, h0, (fun _ r => nomatch (hd5.symm.trans r)), h2, (fun _ r => nomatch (hd5.symm.trans r)), h4, fun _ => ⟨rfl, own_set (own_set o1 _ _ _ (own_off o1 hp0 (by decide))) _ _ _ (own_off o1 hp0 (by decide)), own_set (own_set o2 _ _ _ (own_off o2 hp0 (by decide))) _ _ _ (own_off o2 hp0 (by decide))⟩, h6, h7, h8, (fun _ q => nomatch q), fun _ => ⟨_, rfl, hgl, heap_set2 hp0⟩, h11, fun q => ((c6 q)), fun q => ((c7 q)), fun _ => ⟨hd9, hd5⟩⟩
        · -- operation 11
          cases ho
          obtain rfl := h8 (hdep ⟨8, .data⟩ (by simp) rfl)
          go_simp
          exact hK _ _ ⟨_, _, _, _, _, _, _, _, _, _, _, A1, d1, A2, d2, rfl, hB, h0, h1, h2, h3, h4, h5, h6, h7, h8, h9, h10, fun _ => rfl, fun q => ((c6 q)), fun q => ((c7 q)), fun q => ⟨(c10 q).1, (c10 q).2⟩⟩
      intro L ac W5 hJ hall
      obtain ⟨zvp0, zvq0, zvp1, zvq1, zvpr, zvrj, zvt0, zvf0, zvf1, zvpb, zvbk, A1, d1, A2, d2, rfl, hB, h0, -, h2, -, h4, h5, h6, h7, h8, -, h10, h11, -, -, -⟩ := hJ
      obtain rfl := h0 (hall 0 (by decide))
      obtain rfl := h2 (hall 2 (by decide))
      obtain rfl := h4 (hall 4 (by decide))
      obtain ⟨rfl, o1, o2⟩ := h5 (hall 5 (by decide))
      obtain rfl := h6 (hall 6 (by decide))
      obtain rfl := h7 (hall 7 (by decide))
      obtain rfl := h8 (hall 8 (by decide))
      obtain rfl := h11 (hall 11 (by decide))
      obtain ⟨b6, rfl, hgl, hp⟩ := h10 (hall 10 (by decide))
      clear h0 h2 h4 h5 h6 h7 h8 h10 h11 hall
      have ls1 := fun g e => o1.lt g e
      have ls2 := fun g e => o2.lt g e
      have z2 := S2.out.low.size
      have S5 := Lib.hid ((((S2.out.quiet hB).own (ia (.slice A2 Z.length d2) Z.length (Z.map (.int .i64))) (own_low o2 z2)).own (ra (.slice A1 R.length d1) R.length (flat R)) (own_low o1 z2)).two (Nat.le_trans z2 hgl) (cell_of_row _ _ 0 _ _ _ hp) (cell_of_row _ _ 1 _ _ _ hp))
      have zb5 : b6 < W5.heap.size := (Array.getElem?_eq_some_iff.1 hp).1
      have zw5 : w.heap.size + 2 ≤ w2.heap.size := ZW
      have zz5 := hB.size
      clear hB hp o1 o2 S2 CS
      have c0 := (S5.out.cell (w.heap.size, 0, .slice a n c) (by simp)).2
      have c1 := (S5.out.cell (w.heap.size, 1, .slice b n2 c2) (by simp)).2
      go_wp2_with fail
      refine (toW_way c c2 (HW.out.below S5.out.low (Nat.le_refl _)) hl1 hl2).mono ?_
      rintro e w6 ⟨h, h2, rfl, hh, ho1, ho2, i6, hb⟩
      obtain ⟨y1, y2⟩ := ho1.lt h rfl
      obtain ⟨y3, y4⟩ := ho2.lt h2 rfl
      have S6 := Lib.hid ((((S5.out.quiet hb).own (ia (.slice (some ⟨h2, 0, none⟩) n2 n2) n2 (zs.map (.int .i64))) (own_low ho2 S5.out.low.size)).own (ra (.slice (some ⟨h, 0, none⟩) n n) n (flat rs)) (own_low ho1 S5.out.low.size)).box (.slice (some ⟨h, 0, none⟩) n n) (.slice (some ⟨h2, 0, none⟩) n2 n2) 27)
      have j6 := Lib.hid (fun o => i6.below ((Below.refl _ w6).alloc (Nat.le_refl _) o) (Nat.le_refl _))
      clear hb S5 c0 c1 ho1 ho2 i6
      have k0 := (S6.out.cell (w.heap.size + 1, 0, .slice x m cx) (by simp)).2
      have k1 := (S6.out.cell (w.heap.size + 1, 1, .slice y m2 cy) (by simp)).2
      go_wp2_with fail
      obtain ⟨xa, hxa⟩ : ∃ xa, w6.heap.size = xa := ⟨_, rfl⟩
      obtain ⟨W6, hW6⟩ : ∃ W6, w6.alloc (.cells #[.slice (some ⟨h, 0, none⟩) n n, .slice (some ⟨h2, 0, none⟩) n2 n2] 27) = W6 := ⟨_, rfl⟩
      have z6 : W6.heap.size = xa + 1 := by rw [← hW6, ← hxa]; simp
      replace j6 := Lib.hid (j6.out (.cells #[.slice (some ⟨h, 0, none⟩) n n, .slice (some ⟨h2, 0, none⟩) n2 n2] 27))
      rw [hW6] at S6 k0 k1 j6 ⊢
      rw [hxa] at S6 j6 y2 y4 ⊢
      clear hW6 hxa
      refine (toW_way cx cy (KW.out.below S6.out.low (Nat.le_refl _)) hl3 hl4).mono ?_
      rintro e w7 ⟨l, l2, rfl, hll, ho1, ho2, k7, hb⟩
      obtain ⟨y5, y6⟩ := ho1.lt l rfl
      obtain ⟨y7, y8⟩ := ho2.lt l2 rfl
      have zb6 := hb.size
      have S7 := Lib.hid ((((S6.out.quiet hb).own (ia (.slice (some ⟨l2, 0, none⟩) m2 m2) m2 (ys.map (.int .i64))) (own_low ho2 S6.out.low.size)).own (ra (.slice (some ⟨l, 0, none⟩) m m) m (flat ts)) (own_low ho1 S6.out.low.size)).box (.slice (some ⟨l, 0, none⟩) m m) (.slice (some ⟨l2, 0, none⟩) m2 m2) 27)
      have j7 := Lib.hid (fun o => (j6.out.below hb (by omega)).below ((Below.refl _ w7).alloc (Nat.le_refl _) o) (by omega))
      have k7' := Lib.hid (fun o => k7.below ((Below.refl _ w7).alloc (Nat.le_refl _) o) (Nat.le_refl _))
      clear hb S6 k0 k1 ho1 ho2 k7 j6
      have x0 := (S7.out.cell (xa, 0, .slice (some ⟨h, 0, none⟩) n n) (by simp)).2
      have x1 := (S7.out.cell (xa, 1, .slice (some ⟨h2, 0, none⟩) n2 n2) (by simp)).2
      have n0 := (S7.out.cell (w7.heap.size, 0, .slice (some ⟨l, 0, none⟩) m m) (by simp)).2
      have n1 := (S7.out.cell (w7.heap.size, 1, .slice (some ⟨l2, 0, none⟩) m2 m2) (by simp)).2
      go_wp2_with fail
      obtain ⟨xb, hxb⟩ : ∃ xb, w7.heap.size = xb := ⟨_, rfl⟩
      obtain ⟨W7, hW7⟩ : ∃ W7, w7.alloc (.cells #[.slice (some ⟨l, 0, none⟩) m m, .slice (some ⟨l2, 0, none⟩) m2 m2] 27) = W7 := ⟨_, rfl⟩
      have z7 : W7.heap.size = xb + 1 := by rw [← hW7, ← hxb]; simp
      replace j7 := j7.out (.cells #[.slice (some ⟨l, 0, none⟩) m m, .slice (some ⟨l2, 0, none⟩) m2 m2] 27)
      replace k7' := k7'.out (.cells #[.slice (some ⟨l, 0, none⟩) m m, .slice (some ⟨l2, 0, none⟩) m2 m2] 27)
      rw [hW7] at S7 j7 k7' x0 x1 n0 n1 ⊢
      rw [hxb] at S7 k7' n0 n1 y6 y8 zb6 ⊢
      clear hW7 hxb x0 x1 n0 n1
      refine (CI.out _ _ _ _ _ _ _ n n2 m m2 j7 k7').mono ?_
      rintro e w8 ⟨t1, t2, rfl, o1, o2, hb⟩
      have z8 := S7.out.low.size
      have lt1 := fun g e => o1.lt g e
      have lt2 := fun g e => o2.lt g e
      obtain ⟨D1, f1, rfl⟩ := own_form2 o1
      obtain ⟨D2, f2, rfl⟩ := own_form2 o2
      have S8 := Lib.hid ((((S7.out.quiet hb).own (ia (.slice D2 Z.length f2) Z.length (Z.map (.int .i64))) (own_low o2 z8)).own (ra (.slice D1 R.length f1) R.length (flat R)) (own_low o1 z8)).box (.slice D1 R.length f1) (.slice D2 Z.length f2) 27)
      have zb := hb.size
      have j8 := Lib.hid (fun o => (j7.below hb (by omega)).below ((Below.refl _ w8).alloc (Nat.le_refl _) o) (by omega))
      have k8 := Lib.hid (fun o => (k7'.below hb (by omega)).below ((Below.refl _ w8).alloc (Nat.le_refl _) o) (by omega))
      clear hb S7 j7 k7' o1 o2
      have e0 := (S8.out.cell (w8.heap.size, 0, .slice D1 R.length f1) (by simp)).2
      have e1 := (S8.out.cell (w8.heap.size, 1, .slice D2 Z.length f2) (by simp)).2
      have g0 := (S8.out.cell (b6, 0, .slice A1 R.length d1) (by simp)).2
      have g1 := (S8.out.cell (b6, 1, .slice A2 Z.length d2) (by simp)).2
      go_wp2_with fail
      obtain ⟨b10, hb10⟩ : ∃ b10, w8.heap.size = b10 := ⟨_, rfl⟩
      obtain ⟨W8, hW8⟩ : ∃ W8, w8.alloc (.cells #[.slice D1 R.length f1, .slice D2 Z.length f2] 27) = W8 := ⟨_, rfl⟩
      have z9 : W8.heap.size = b10 + 1 := by rw [← hW8, ← hb10]; simp
      replace j8 := Lib.hid (j8.out (.cells #[.slice D1 R.length f1, .slice D2 Z.length f2] 27))
      replace k8 := Lib.hid (k8.out (.cells #[.slice D1 R.length f1, .slice D2 Z.length f2] 27))
      rw [hW8] at S8 j8 k8 e0 e1 g0 g1 ⊢
      rw [hb10] at S8 e0 e1 lt1 lt2 zb ⊢
      clear hW8 hb10
      refine (eqW_row (S8.out.row (ra (.slice D1 R.length f1) R.length (flat R)) (by simp)) (S8.out.row (ia (.slice D2 Z.length f2) Z.length (Z.map (.int .i64))) (by simp)) (S8.out.row (ra (.slice A1 R.length d1) R.length (flat R)) (by simp)) (S8.out.row (ia (.slice A2 Z.length d2) Z.length (Z.map (.int .i64))) (by simp)) hmR hmZ).mono ?_
      rintro e w9 ⟨rfl, hb⟩
      have S9 := Lib.hid (S8.out.quiet hb)
      have j9 := Lib.hid (j8.out.all.below hb (Nat.le_refl _))
      have k9 := Lib.hid (k8.out.all.below hb (Nat.le_refl _))
      clear hb S8 j8 k8
      clear e0 e1 g0 g1
      have KEEP := Lib.hid (fun W (hb : Below w9.heap.size w9 W) => (⟨hb, (((S9.out.quiet hb).cell (xa, 0, .slice (some ⟨h, 0, none⟩) n n) (by simp)).2 : W.cell? ⟨xa, 0, none⟩ = _), (((S9.out.quiet hb).cell (xa, 1, .slice (some ⟨h2, 0, none⟩) n2 n2) (by simp)).2 : W.cell? ⟨xa, 1, none⟩ = _), (((S9.out.quiet hb).cell (w.heap.size, 0, .slice a n c) (by simp)).2 : W.cell? ⟨w.heap.size, 0, none⟩ = _), (((S9.out.quiet hb).cell (w.heap.size, 1, .slice b n2 c2) (by simp)).2 : W.cell? ⟨w.heap.size, 1, none⟩ = _)⟩ :
        Below w9.heap.size w9 W ∧ W.cell? ⟨xa, 0, none⟩ = some (.slice (some ⟨h, 0, none⟩) n n) ∧ W.cell? ⟨xa, 1, none⟩ = some (.slice (some ⟨h2, 0, none⟩) n2 n2) ∧ W.cell? ⟨w.heap.size, 0, none⟩ = some (.slice a n c) ∧ W.cell? ⟨w.heap.size, 1, none⟩ = some (.slice b n2 c2)))
      have KD := Lib.hid (KEEP.out w9.drew ((Drawn.one w9 1).below _))
      have KT := Lib.hid (fun W W' (hb : Below w9.heap.size w9 W) (hb' : Below W.heap.size W W') => KEEP.out W' (hb.trans (hb'.mono hb.size)))
      have IA := Lib.hid (fun W (hb : Below w9.heap.size w9 W) => HW.out.below (S9.out.quiet hb).low (Nat.le_refl _))
      have IX := Lib.hid (fun W (hb : Below w9.heap.size w9 W) => (j9.out.all.below hb (Nat.le_refl _)))
      have II := Lib.hid (fun W (hb : Below w9.heap.size w9 W) => (k9.out.all.below hb (Nat.le_refl _)))
      go_wp2_with fail
      go_region_held3 (fun W => Below w9.heap.size w9 W ∧ W.cell? ⟨xa, 0, none⟩ = some (.slice (some ⟨h, 0, none⟩) n n) ∧ W.cell? ⟨xa, 1, none⟩ = some (.slice (some ⟨h2, 0, none⟩) n2 n2) ∧ W.cell? ⟨w.heap.size, 0, none⟩ = some (.slice a n c) ∧ W.cell? ⟨w.heap.size, 1, none⟩ = some (.slice b n2 c2))
        (first | exact KD.out | exact KT.out _ _ KD.out.1 hb6 | exact KT.out _ _ (KD.out.1.trans (hb6.mono KD.out.1.size)) hb7)
        (first
          | (go_at_call 32; refine (toW_way c c2 (IA.out _ KD.out.1) hl1 hl2).mono ?_; rintro e w7a ⟨s9r1, s9r2, rfl, -, -, -, i6, hb6⟩)
          | (go_at_call 34; refine (eqW_way n n2 n n2 (IX.out _ (KD.out.1.trans (hb6.mono KD.out.1.size))) i6 HM.out.1 HM.out.2).mono ?_; rintro e w10 ⟨rfl, hb7⟩))
      have S10 := Lib.hid (S9.out.quiet (KT.out _ _ (KD.out.1.trans (hb6.mono KD.out.1.size)) hb7).1)
      have k92 := Lib.hid (II.out _ (KT.out _ _ (KD.out.1.trans (hb6.mono KD.out.1.size)) hb7).1)
      clear KEEP KD KT IA IX hb6 hb7 i6 S9 j9 II k9
      have KEEP := Lib.hid (fun W (hb : Below w10.heap.size w10 W) => (⟨hb, (((S10.out.quiet hb).cell (xb, 0, .slice (some ⟨l, 0, none⟩) m m) (by simp)).2 : W.cell? ⟨xb, 0, none⟩ = _), (((S10.out.quiet hb).cell (xb, 1, .slice (some ⟨l2, 0, none⟩) m2 m2) (by simp)).2 : W.cell? ⟨xb, 1, none⟩ = _), (((S10.out.quiet hb).cell (w.heap.size + 1, 0, .slice x m cx) (by simp)).2 : W.cell? ⟨w.heap.size + 1, 0, none⟩ = _), (((S10.out.quiet hb).cell (w.heap.size + 1, 1, .slice y m2 cy) (by simp)).2 : W.cell? ⟨w.heap.size + 1, 1, none⟩ = _)⟩ :
        Below w10.heap.size w10 W ∧ W.cell? ⟨xb, 0, none⟩ = some (.slice (some ⟨l, 0, none⟩) m m) ∧ W.cell? ⟨xb, 1, none⟩ = some (.slice (some ⟨l2, 0, none⟩) m2 m2) ∧ W.cell? ⟨w.heap.size + 1, 0, none⟩ = some (.slice x m cx) ∧ W.cell? ⟨w.heap.size + 1, 1, none⟩ = some (.slice y m2 cy)))
      have KD := Lib.hid (KEEP.out w10.drew ((Drawn.one w10 1).below _))
      have KT := Lib.hid (fun W W' (hb : Below w10.heap.size w10 W) (hb' : Below W.heap.size W W') => KEEP.out W' (hb.trans (hb'.mono hb.size)))
      have IA := Lib.hid (fun W (hb : Below w10.heap.size w10 W) => KW.out.below (S10.out.quiet hb).low (Nat.le_refl _))
      have IX := Lib.hid (fun W (hb : Below w10.heap.size w10 W) => (k92.out.all.below hb (Nat.le_refl _)))
      go_wp2_with fail
      go_region_held3 (fun W => Below w10.heap.size w10 W ∧ W.cell? ⟨xb, 0, none⟩ = some (.slice (some ⟨l, 0, none⟩) m m) ∧ W.cell? ⟨xb, 1, none⟩ = some (.slice (some ⟨l2, 0, none⟩) m2 m2) ∧ W.cell? ⟨w.heap.size + 1, 0, none⟩ = some (.slice x m cx) ∧ W.cell? ⟨w.heap.size + 1, 1, none⟩ = some (.slice y m2 cy))
        (first | exact KD.out | exact KT.out _ _ KD.out.1 hb6 | exact KT.out _ _ (KD.out.1.trans (hb6.mono KD.out.1.size)) hb7)
        (first
          | (go_at_call 32; refine (toW_way cx cy (IA.out _ KD.out.1) hl3 hl4).mono ?_; rintro e w7a ⟨s10r1, s10r2, rfl, -, -, -, i6, hb6⟩)
          | (go_at_call 34; refine (eqW_way m m2 m m2 (IX.out _ (KD.out.1.trans (hb6.mono KD.out.1.size))) i6 KM.out.1 KM.out.2).mono ?_; rintro e w11 ⟨rfl, hb7⟩))
      have S11 := Lib.hid (S10.out.quiet (KT.out _ _ (KD.out.1.trans (hb6.mono KD.out.1.size)) hb7).1)
      clear KEEP KD KT IA IX hb6 hb7 i6 S10 k92
      have x0 := (S11.out.cell (xa, 0, .slice (some ⟨h, 0, none⟩) n n) (by simp)).2
      have x1 := (S11.out.cell (xa, 1, .slice (some ⟨h2, 0, none⟩) n2 n2) (by simp)).2
      go_wp2_with fail
      have yb6 := (S11.out.cell (b6, 0, .slice A1 R.length d1) (by simp)).1
      have yb10 := (S11.out.cell (b10, 0, .slice D1 R.length f1) (by simp)).1
      have yxa := (S11.out.cell (xa, 0, .slice (some ⟨h, 0, none⟩) n n) (by simp)).1
      have yxb := (S11.out.cell (xb, 0, .slice (some ⟨l, 0, none⟩) m m) (by simp)).1
      have yw1 := (S11.out.cell (b6, 0, .slice A1 R.length d1) (by simp)).2
      simp only at yb6 yb10 yxa yxb
      clear yw1
      refine (markW_row _ _ n n2 w.heap.size 1 _ _ _ (by omega) (by omega) (S11.out.row (ra (.slice (some ⟨h, 0, none⟩) n n) n (flat rs)) (by simp)) (S11.out.row (ia (.slice (some ⟨h2, 0, none⟩) n2 n2) n2 (zs.map (.int .i64))) (by simp)) (.inr (by simp [Value.ownBlock]; exact fun e => hh e.symm))).mono ?_
      rintro e w12 ⟨rfl, M, hg1, hg2, -, -⟩
      replace hg1 : _root_.Go.World.grownBy _ M (some h) := hg1
      replace hg2 : M.grownBy w12 (some h2) := hg2
      have T8 := S11.out.sub (rows' := [ra (.slice (some ⟨l, 0, none⟩) m m) m (flat ts), ia (.slice (some ⟨l2, 0, none⟩) m2 m2) m2 (ys.map (.int .i64)), ra (.slice D1 R.length f1) R.length (flat R), ia (.slice D2 Z.length f2) Z.length (Z.map (.int .i64)), ra (.slice A1 R.length d1) R.length (flat R), ia (.slice A2 Z.length d2) Z.length (Z.map (.int .i64))]) (by simp)
      have T9 := T8.grown hg1 (fun q e => by cases e; omega) (by intro p hp e; have hq : p.1 = h := (by injection e); simp only [List.mem_cons, List.not_mem_nil, or_false] at hp; rcases hp with rfl | rfl | rfl | rfl | rfl | rfl | rfl | rfl | rfl | rfl | rfl | rfl <;> simp at hq <;> omega) (List.forall_mem_cons.2 ⟨.inr (by simp [Value.ownBlock]; omega), (List.forall_mem_cons.2 ⟨.inr (by simp [Value.ownBlock]; omega), (List.forall_mem_cons.2 ⟨ne_num lt1 (by omega), (List.forall_mem_cons.2 ⟨ne_num lt2 (by omega), (List.forall_mem_cons.2 ⟨ne_num ls1 (by omega), (List.forall_mem_cons.2 ⟨ne_num ls2 (by omega), (by simp)⟩)⟩)⟩)⟩)⟩)⟩)
      have S12 := Lib.hid (T9.grown hg2 (fun q e => by cases e; omega) (by intro p hp e; have hq : p.1 = h2 := (by injection e); simp only [List.mem_cons, List.not_mem_nil, or_false] at hp; rcases hp with rfl | rfl | rfl | rfl | rfl | rfl | rfl | rfl | rfl | rfl | rfl | rfl <;> simp at hq <;> omega) (List.forall_mem_cons.2 ⟨.inr (by simp [Value.ownBlock]; omega), (List.forall_mem_cons.2 ⟨.inr (by simp [Value.ownBlock]; omega), (List.forall_mem_cons.2 ⟨ne_num lt1 (by omega), (List.forall_mem_cons.2 ⟨ne_num lt2 (by omega), (List.forall_mem_cons.2 ⟨ne_num ls1 (by omega), (List.forall_mem_cons.2 ⟨ne_num ls2 (by omega), (by simp)⟩)⟩)⟩)⟩)⟩)⟩))
      clear hg1 hg2 T8 T9 S11
      clear x0 x1
      obtain ⟨k1', hk1'⟩ : ∃ k1', 1 + 3 * (n : Int) + (n2 : Int) = k1' := ⟨_, rfl⟩
      have hk2 : 0 < k1' := by omega
      have hk3 : k1' ≤ 10000000 := by omega
      rw [hk1']
      clear hk1'
      have y0 := (S12.out.cell (xb, 0, .slice (some ⟨l, 0, none⟩) m m) (by simp)).2
      have y1 := (S12.out.cell (xb, 1, .slice (some ⟨l2, 0, none⟩) m2 m2) (by simp)).2
      go_wp2_with fail
      refine (markW_row _ _ m m2 w.heap.size k1' _ _ _ (by omega) (by omega) (S12.out.row (ra (.slice (some ⟨l, 0, none⟩) m m) m (flat ts)) (by simp)) (S12.out.row (ia (.slice (some ⟨l2, 0, none⟩) m2 m2) m2 (ys.map (.int .i64))) (by simp)) (.inr (by simp [Value.ownBlock]; exact fun e => hll e.symm))).mono ?_
      rintro e w13 ⟨rfl, M, hg1, hg2, -, -⟩
      replace hg1 : _root_.Go.World.grownBy _ M (some l) := hg1
      replace hg2 : M.grownBy w13 (some l2) := hg2
      have T8 := S12.out.sub (rows' := [ra (.slice D1 R.length f1) R.length (flat R), ia (.slice D2 Z.length f2) Z.length (Z.map (.int .i64)), ra (.slice A1 R.length d1) R.length (flat R), ia (.slice A2 Z.length d2) Z.length (Z.map (.int .i64))]) (by simp)
      have T9 := T8.grown hg1 (fun q e => by cases e; omega) (by intro p hp e; have hq : p.1 = l := (by injection e); simp only [List.mem_cons, List.not_mem_nil, or_false] at hp; rcases hp with rfl | rfl | rfl | rfl | rfl | rfl | rfl | rfl | rfl | rfl | rfl | rfl <;> simp at hq <;> omega) (List.forall_mem_cons.2 ⟨ne_num lt1 (by omega), (List.forall_mem_cons.2 ⟨ne_num lt2 (by omega), (List.forall_mem_cons.2 ⟨ne_num ls1 (by omega), (List.forall_mem_cons.2 ⟨ne_num ls2 (by omega), (by simp)⟩)⟩)⟩)⟩)
      have S13 := Lib.hid (T9.grown hg2 (fun q e => by cases e; omega) (by intro p hp e; have hq : p.1 = l2 := (by injection e); simp only [List.mem_cons, List.not_mem_nil, or_false] at hp; rcases hp with rfl | rfl | rfl | rfl | rfl | rfl | rfl | rfl | rfl | rfl | rfl | rfl <;> simp at hq <;> omega) (List.forall_mem_cons.2 ⟨ne_num lt1 (by omega), (List.forall_mem_cons.2 ⟨ne_num lt2 (by omega), (List.forall_mem_cons.2 ⟨ne_num ls1 (by omega), (List.forall_mem_cons.2 ⟨ne_num ls2 (by omega), (by simp)⟩)⟩)⟩)⟩))
      clear hg1 hg2 T8 T9 S12
      clear y0 y1
      have hk4 : ¬ (k1' + 3 * (m : Int) + (m2 : Int) < 0) := by omega
      have e0 := (S13.out.cell (b10, 0, .slice D1 R.length f1) (by simp)).2
      have e1 := (S13.out.cell (b10, 1, .slice D2 Z.length f2) (by simp)).2
      have g0 := (S13.out.cell (b6, 0, .slice A1 R.length d1) (by simp)).2
      have g1 := (S13.out.cell (b6, 1, .slice A2 Z.length d2) (by simp)).2
      go_wp2_with fail
      refine (eqW_row (S13.out.row (ra (.slice D1 R.length f1) R.length (flat R)) (by simp)) (S13.out.row (ia (.slice D2 Z.length f2) Z.length (Z.map (.int .i64))) (by simp)) (S13.out.row (ra (.slice A1 R.length d1) R.length (flat R)) (by simp)) (S13.out.row (ia (.slice A2 Z.length d2) Z.length (Z.map (.int .i64))) (by simp)) hmR hmZ).mono ?_
      rintro e w14 ⟨rfl, hb⟩
      have S14 := Lib.hid (S13.out.quiet hb)
      clear hb S13 
      clear g0 g1 e0 e1
      have e0 := (S14.out.cell (b10, 0, .slice D1 R.length f1) (by simp)).2
      have e1 := (S14.out.cell (b10, 1, .slice D2 Z.length f2) (by simp)).2
      go_wp2_with fail
      refine (markW_row _ _ R.length Z.length w.heap.size 1 _ _ _ (by omega) (by omega) (S14.out.row (ra (.slice D1 R.length f1) R.length (flat R)) (by simp)) (S14.out.row (ia (.slice D2 Z.length f2) Z.length (Z.map (.int .i64))) (by simp)) (apart_of (S14.out.row (ia (.slice D2 Z.length f2) Z.length (Z.map (.int .i64))) (by simp)) (S14.out.row (ra (.slice D1 R.length f1) R.length (flat R)) (by simp)) ir_ne)).mono ?_
      rintro e w15 ⟨rfl, M, hg1, hg2, hoM, ho8⟩
      have T1 := S14.out.sub (rows' := [ra (.slice D1 R.length f1) R.length (flat R), ia (.slice D2 Z.length f2) Z.length (Z.map (.int .i64)), ra (.slice A1 R.length d1) R.length (flat R), ia (.slice A2 Z.length d2) Z.length (Z.map (.int .i64))]) (by simp)
      have T2 := T1.turn (r' := ra (.slice D1 R.length f1) R.length (nums 1 (3 * R.length))) hg1 (fun q e => by have := lt1 _ e; omega) (by intro p hp e; have hq := lt1 _ e.symm; simp only [List.mem_cons, List.not_mem_nil, or_false] at hp; rcases hp with rfl | rfl | rfl | rfl | rfl | rfl | rfl | rfl | rfl | rfl | rfl | rfl <;> simp at hq <;> omega) (List.forall_mem_cons.2 ⟨apart_of (S14.out.row (ia (.slice D2 Z.length f2) Z.length (Z.map (.int .i64))) (by simp)) (S14.out.row (ra (.slice D1 R.length f1) R.length (flat R)) (by simp)) ir_ne, (List.forall_mem_cons.2 ⟨ne_of ls1 lt1 (by omega), (List.forall_mem_cons.2 ⟨apart_of (S14.out.row (ia (.slice A2 Z.length d2) Z.length (Z.map (.int .i64))) (by simp)) (S14.out.row (ra (.slice D1 R.length f1) R.length (flat R)) (by simp)) ir_ne, (by simp)⟩)⟩)⟩) hoM
      have T3 := Lib.hid (T2.sub (rows' := [ia (.slice D2 Z.length f2) Z.length (Z.map (.int .i64)), ra (.slice D1 R.length f1) R.length (nums 1 (3 * R.length)), ra (.slice A1 R.length d1) R.length (flat R), ia (.slice A2 Z.length d2) Z.length (Z.map (.int .i64))]) (by simp))
      clear T1 T2
      have T4 := T3.out.turn (r' := ia (.slice D2 Z.length f2) Z.length (nums (1 + 3 * R.length) Z.length)) hg2 (fun q e => by have := lt2 _ e; omega) (by intro p hp e; have hq := lt2 _ e.symm; simp only [List.mem_cons, List.not_mem_nil, or_false] at hp; rcases hp with rfl | rfl | rfl | rfl | rfl | rfl | rfl | rfl | rfl | rfl | rfl | rfl <;> simp at hq <;> omega) (List.forall_mem_cons.2 ⟨apart_of (T3.out.row (ra (.slice D1 R.length f1) R.length (nums 1 (3 * R.length))) (by simp)) (T3.out.row (ia (.slice D2 Z.length f2) Z.length (Z.map (.int .i64))) (by simp)) ri_ne, (List.forall_mem_cons.2 ⟨apart_of (T3.out.row (ra (.slice A1 R.length d1) R.length (flat R)) (by simp)) (T3.out.row (ia (.slice D2 Z.length f2) Z.length (Z.map (.int .i64))) (by simp)) ri_ne, (List.forall_mem_cons.2 ⟨ne_of ls2 lt2 (by omega), (by simp)⟩)⟩)⟩) ho8
      have S15 := Lib.hid (T4.sub (rows' := [ra (.slice D1 R.length f1) R.length (nums 1 (3 * R.length)), ia (.slice D2 Z.length f2) Z.length (nums (1 + 3 * R.length) Z.length), ra (.slice A1 R.length d1) R.length (flat R), ia (.slice A2 Z.length d2) Z.length (Z.map (.int .i64))]) (by simp))
      clear hg1 hg2 hoM ho8 T3 T4 S14 e0 e1
      have e0 := (S15.out.cell (b10, 0, .slice D1 R.length f1) (by simp)).2
      have e1 := (S15.out.cell (b10, 1, .slice D2 Z.length f2) (by simp)).2
      go_wp2_with fail
      refine (heldW_row _ _ R.length Z.length w.heap.size 1 _ (by omega) (by omega) (S15.out.row (ra (.slice D1 R.length f1) R.length (nums 1 (3 * R.length))) (by simp)) (S15.out.row (ia (.slice D2 Z.length f2) Z.length (nums (1 + 3 * R.length) Z.length)) (by simp))).mono ?_
      rintro e w16 ⟨rfl, hb⟩
      have S16 := Lib.hid (S15.out.quiet hb)
      clear hb S15 e0 e1
      obtain ⟨m4, hm4⟩ : ∃ m4, 1 + 3 * (R.length : Int) + (Z.length : Int) = m4 := ⟨_, rfl⟩
      have HM4 := Lib.hid hm4
      have hm40 : ¬ (m4 < 0) := by omega
      have hm41 : (m4 != m4) = false := by simp
      rw [hm4]
      clear hm4
      have c0 := (S16.out.cell (w.heap.size, 0, .slice a n c) (by simp)).2
      have c1 := (S16.out.cell (w.heap.size, 1, .slice b n2 c2) (by simp)).2
      go_wp2_with fail
      clear c0 c1
      refine region_inv (by kernel_rfl) (by kernel_rfl) (fun L ac W => ∃ (vp0 vq0 vp1 vq1 vpr vrj vt0 vf0 vf1 vpb vbk : Value) (U1 : Option Addr) (q1 : Nat) (U2 : Option Addr) (q2 : Nat), ac = { tmps := #[Value.agg #[Value.slice a n c, Value.slice b n2 c2], Value.agg #[Value.slice x m cx, Value.slice y m2 cy], Value.int IntKind.i64 p, Value.pointer (some ⟨w.heap.size, 0, none⟩), Value.pointer (some ⟨w.heap.size + 1, 0, none⟩), undef, Value.bool false, Value.int IntKind.i64 (1048576 - ↑n - ↑n2 - ↑m - ↑m2), Value.pointer (some ⟨b6, 0, none⟩), Value.bool ok, Value.pointer (some ⟨xa, 0, none⟩), Value.pointer (some ⟨xb, 0, none⟩), Value.pointer (some ⟨b10, 0, none⟩), Value.bool ok, Value.int IntKind.i64 (k1' + 3 * ↑m + ↑m2), Value.int IntKind.i64 m4, Value.int IntKind.i64 m4, vpb, vbk, Value.agg #[Value.slice a n c, Value.slice b n2 c2], Value.int IntKind.i64 1048576, Value.int IntKind.i64 (1048576 - ↑n - ↑n2), Value.int IntKind.i64 (1048576 - ↑n - ↑n2), Value.bool (decide ((1048576 : Int) - ↑n - ↑n2 < 0)), Value.agg #[Value.slice x m cx, Value.slice y m2 cy], Value.int IntKind.i64 (1048576 - ↑n - ↑n2), Value.int IntKind.i64 (1048576 - ↑n - ↑n2 - ↑m - ↑m2), Value.int IntKind.i64 (1048576 - ↑n - ↑n2 - ↑m - ↑m2), Value.bool (decide ((1048576 : Int) - ↑n - ↑n2 - ↑m - ↑m2 < 0)), Value.tuple #[Value.agg #[Value.slice A1 R.length d1, Value.slice A2 Z.length d2], Value.bool ok], Value.agg #[Value.slice a n c, Value.slice b n2 c2], zvq0, Value.agg #[Value.slice x m cx, Value.slice y m2 cy], zvq1, Value.int IntKind.i64 p, Value.tuple #[Value.agg #[Value.slice A1 R.length d1, Value.slice A2 Z.length d2], Value.bool ok], Value.agg #[Value.slice A1 R.length d1, Value.slice A2 Z.length d2], Value.bool ok, Value.agg #[Value.slice a n c, Value.slice b n2 c2], Value.agg #[Value.slice (some ⟨h, 0, none⟩) n n, Value.slice (some ⟨h2, 0, none⟩) n2 n2], Value.agg #[Value.slice x m cx, Value.slice y m2 cy], Value.agg #[Value.slice (some ⟨l, 0, none⟩) m m, Value.slice (some ⟨l2, 0, none⟩) m2 m2], Value.tuple #[Value.agg #[Value.slice D1 R.length f1, Value.slice D2 Z.length f2], Value.bool ok], Value.agg #[Value.slice (some ⟨h, 0, none⟩) n n, Value.slice (some ⟨h2, 0, none⟩) n2 n2], Value.agg #[Value.slice (some ⟨l, 0, none⟩) m m, Value.slice (some ⟨l2, 0, none⟩) m2 m2], Value.int IntKind.i64 p, Value.tuple #[Value.agg #[Value.slice D1 R.length f1, Value.slice D2 Z.length f2], Value.bool ok], Value.agg #[Value.slice D1 R.length f1, Value.slice D2 Z.length f2], Value.bool ok, Value.agg #[Value.slice D1 R.length f1, Value.slice D2 Z.length f2], Value.agg #[Value.slice A1 R.length d1, Value.slice A2 Z.length d2], Value.bool true, Value.bool false, Value.bool false, Value.bool ok, Value.bool ok, Value.bool false, Value.bool false, Value.agg #[Value.slice (some ⟨h, 0, none⟩) n n, Value.slice (some ⟨h2, 0, none⟩) n2 n2], Value.agg #[Value.slice a n c, Value.slice b n2 c2], Value.agg #[Value.slice (some ⟨s9r1, 0, none⟩) n n, Value.slice (some ⟨s9r2, 0, none⟩) n2 n2], Value.bool true, Value.bool false, Value.agg #[Value.slice (some ⟨l, 0, none⟩) m m, Value.slice (some ⟨l2, 0, none⟩) m2 m2], Value.agg #[Value.slice x m cx, Value.slice y m2 cy], Value.agg #[Value.slice (some ⟨s10r1, 0, none⟩) m m, Value.slice (some ⟨s10r2, 0, none⟩) m2 m2], Value.bool true, Value.bool false, Value.agg #[Value.slice (some ⟨h, 0, none⟩) n n, Value.slice (some ⟨h2, 0, none⟩) n2 n2], Value.int IntKind.i64 1, Value.int IntKind.i64 k1', Value.agg #[Value.slice (some ⟨l, 0, none⟩) m m, Value.slice (some ⟨l2, 0, none⟩) m2 m2], Value.int IntKind.i64 k1', Value.int IntKind.i64 (k1' + 3 * ↑m + ↑m2), Value.int IntKind.i64 (k1' + 3 * ↑m + ↑m2), Value.bool (decide (k1' + 3 * ↑m + ↑m2 < 0)), Value.bool (decide (k1' + 3 * ↑m + ↑m2 < 0)), Value.agg #[Value.slice D1 R.length f1, Value.slice D2 Z.length f2], Value.agg #[Value.slice A1 R.length d1, Value.slice A2 Z.length d2], Value.bool true, Value.bool false, Value.bool (decide (k1' + 3 * ↑m + ↑m2 < 0)), Value.bool (decide (k1' + 3 * ↑m + ↑m2 < 0)), Value.bool ok, Value.bool ok, Value.bool false, Value.bool (decide (k1' + 3 * ↑m + ↑m2 < 0)), Value.agg #[Value.slice D1 R.length f1, Value.slice D2 Z.length f2], Value.int IntKind.i64 1, Value.int IntKind.i64 m4, Value.agg #[Value.slice D1 R.length f1, Value.slice D2 Z.length f2], Value.int IntKind.i64 1, Value.int IntKind.i64 m4, Value.int IntKind.i64 m4, Value.bool (decide (m4 < 0)), Value.int IntKind.i64 m4, Value.int IntKind.i64 m4, Value.bool false, vt0, vp0, vq0, vp1, vq1, vpr, vrj, vf0, vf1, undef, undef, undef, undef, undef, undef, undef, undef, undef, undef, undef, undef, undef, undef, undef, undef, undef], defers := [] } ∧ Below w16.heap.size w16 W ∧
          (L 0 = true → vp0 = .agg #[.slice a n c, .slice b n2 c2]) ∧
          (L 1 = true → L 5 = false → ∃ g g2, vq0 = .agg #[.slice (some ⟨g, 0, none⟩) n n, .slice (some ⟨g2, 0, none⟩) n2 n2] ∧ IsWay W W.heap.size (some ⟨g, 0, none⟩) n (some ⟨g2, 0, none⟩) n2 rs zs) ∧
          (L 2 = true → vp1 = .agg #[.slice x m cx, .slice y m2 cy]) ∧
          (L 3 = true → L 5 = false → ∃ g g2, vq1 = .agg #[.slice (some ⟨g, 0, none⟩) m m, .slice (some ⟨g2, 0, none⟩) m2 m2] ∧ IsWay W W.heap.size (some ⟨g, 0, none⟩) m (some ⟨g2, 0, none⟩) m2 ts ys) ∧
          (L 4 = true → vpr = .int .i64 p) ∧
          (L 5 = true → vrj = .tuple #[.agg #[.slice U1 R.length q1, .slice U2 Z.length q2], .bool ok] ∧ W.ownsRow w16.heap.size 71 3 (.slice U1 R.length q1) R.length (flat R) ∧ W.ownsRow w16.heap.size 3 1 (.slice U2 Z.length q2) Z.length (Z.map (.int .i64))) ∧
          (L 6 = true → vt0 = .tuple #[.agg #[.slice U1 R.length q1, .slice U2 Z.length q2], .bool ok]) ∧
          (L 7 = true → vf0 = .agg #[.slice U1 R.length q1, .slice U2 Z.length q2]) ∧
          (L 8 = true → vf1 = .bool ok) ∧
          (L 9 = true → L 10 = false → ∃ g, vpb = .pointer (some ⟨g, 0, none⟩) ∧ w16.heap.size ≤ g ∧ W.heap[g]? = some (.cells #[.slice none 0 0, .slice none 0 0] 27 (0, 0))) ∧
          (L 10 = true → ∃ g, vpb = .pointer (some ⟨g, 0, none⟩) ∧ w16.heap.size ≤ g ∧ W.heap[g]? = some (.cells #[.slice U1 R.length q1, .slice U2 Z.length q2] 27 (0, 0))) ∧
          (L 11 = true → vbk = .bool ok) ∧
          (L 6 = true → L 5 = true) ∧
          (L 7 = true → L 5 = true) ∧
          (L 10 = true → L 9 = true ∧ L 5 = true)) ?_ ?_ ?_
      · exact ⟨_, _, _, _, _, _, _, _, _, _, _, none, 0, none, 0, rfl, (Drawn.one w16 1).below _, (fun q => nomatch q), (fun q => nomatch q), (fun q => nomatch q), (fun q => nomatch q), (fun q => nomatch q), (fun q => nomatch q), (fun q => nomatch q), (fun q => nomatch q), (fun q => nomatch q), (fun q => nomatch q), (fun q => nomatch q), (fun q => nomatch q), (fun q => nomatch q), (fun q => nomatch q), (fun q => nomatch q)⟩
      · intro L ac W i o hJ ho hL hdep K' hK
        obtain ⟨vp0, vq0, vp1, vq1, vpr, vrj, vt0, vf0, vf1, vpb, vbk, U1, q1, U2, q2, rfl, hB, h0, h1, h2, h3, h4, h5, h6, h7, h8, h9, h10, h11, c6, c7, c10⟩ := hJ
        have hi : i < 12 := by simpa using (Array.getElem?_eq_some_iff.1 ho).1
        have C0 := ((S16.out.quiet hB).cell (w.heap.size, 0, .slice a n c) (by simp)).2
        have C1 := ((S16.out.quiet hB).cell (w.heap.size, 1, .slice b n2 c2) (by simp)).2
        have K0 := ((S16.out.quiet hB).cell (w.heap.size + 1, 0, .slice x m cx) (by simp)).2
        have K1 := ((S16.out.quiet hB).cell (w.heap.size + 1, 1, .slice y m2 cy) (by simp)).2
        obtain rfl | rfl | rfl | rfl | rfl | rfl | rfl | rfl | rfl | rfl | rfl | rfl : i = 0 ∨ i = 1 ∨ i = 2 ∨ i = 3 ∨ i = 4 ∨ i = 5 ∨ i = 6 ∨ i = 7 ∨ i = 8 ∨ i = 9 ∨ i = 10 ∨ i = 11 := by omega
        · -- operation 0
          cases ho
          go_simp
          exact hK _ _ ⟨_, _, _, _, _, _, _, _, _, _, _, U1, q1, U2, q2, rfl, hB, fun _ => rfl, h1, h2, h3, h4, h5, h6, h7, h8, h9, h10, h11, fun q => ((c6 q)), fun q => ((c7 q)), fun q => ⟨(c10 q).1, (c10 q).2⟩⟩
        · -- operation 1
          cases ho
          obtain rfl := h0 (hdep ⟨0, .data⟩ (by simp) rfl)
          go_simp
          refine (toW_way c c2 (HW.out.below (S16.out.quiet hB).low (Nat.le_refl _)) hl1 hl2).mono ?_
          rintro e w9 ⟨g, g2, rfl, -, -, -, i9, hb9⟩
          exact hK _ _ ⟨_, _, _, _, _, _, _, _, _, _, _, U1, q1, U2, q2, rfl, hB.trans (hb9.mono hB.size), h0, fun _ _ => ⟨_, _, rfl, i9⟩, h2, fun q r => let ⟨g, g2, e, i⟩ := h3 q r; ⟨g, g2, e, (i.below hb9 (Nat.le_refl _)).all⟩, h4, fun q => let ⟨e, o1, o2⟩ := h5 q; ⟨e, own_below o1 hb9, own_below o2 hb9⟩, h6, h7, h8, fun q r => let ⟨g, e, l, hp⟩ := h9 q r; ⟨g, e, l, (hb9.block g (Array.getElem?_eq_some_iff.1 hp).1).trans hp⟩, fun q => let ⟨g, e, l, hp⟩ := h10 q; ⟨g, e, l, (hb9.block g (Array.getElem?_eq_some_iff.1 hp).1).trans hp⟩, h11, fun q => ((c6 q)), fun q => ((c7 q)), fun q => ⟨(c10 q).1, (c10 q).2⟩⟩
        · -- operation 2
          cases ho
          go_simp
          exact hK _ _ ⟨_, _, _, _, _, _, _, _, _, _, _, U1, q1, U2, q2, rfl, hB, h0, h1, fun _ => rfl, h3, h4, h5, h6, h7, h8, h9, h10, h11, fun q => ((c6 q)), fun q => ((c7 q)), fun q => ⟨(c10 q).1, (c10 q).2⟩⟩
        · -- operation 3
          cases ho
          obtain rfl := h2 (hdep ⟨2, .data⟩ (by simp) rfl)
          go_simp
          refine (toW_way cx cy (KW.out.below (S16.out.quiet hB).low (Nat.le_refl _)) hl3 hl4).mono ?_
          rintro e w9 ⟨g, g2, rfl, -, -, -, i9, hb9⟩
          exact hK _ _ ⟨_, _, _, _, _, _, _, _, _, _, _, U1, q1, U2, q2, rfl, hB.trans (hb9.mono hB.size), h0, fun q r => let ⟨g, g2, e, i⟩ := h1 q r; ⟨g, g2, e, (i.below hb9 (Nat.le_refl _)).all⟩, h2, fun _ _ => ⟨_, _, rfl, i9⟩, h4, fun q => let ⟨e, o1, o2⟩ := h5 q; ⟨e, own_below o1 hb9, own_below o2 hb9⟩, h6, h7, h8, fun q r => let ⟨g, e, l, hp⟩ := h9 q r; ⟨g, e, l, (hb9.block g (Array.getElem?_eq_some_iff.1 hp).1).trans hp⟩, fun q => let ⟨g, e, l, hp⟩ := h10 q; ⟨g, e, l, (hb9.block g (Array.getElem?_eq_some_iff.1 hp).1).trans hp⟩, h11, fun q => ((c6 q)), fun q => ((c7 q)), fun q => ⟨(c10 q).1, (c10 q).2⟩⟩
        · -- operation 4
          cases ho
          go_simp
          exact hK _ _ ⟨_, _, _, _, _, _, _, _, _, _, _, U1, q1, U2, q2, rfl, hB, h0, h1, h2, h3, fun _ => rfl, h5, h6, h7, h8, h9, h10, h11, fun q => ((c6 q)), fun q => ((c7 q)), fun q => ⟨(c10 q).1, (c10 q).2⟩⟩
        · -- operation 5
          cases ho
          obtain ⟨g, g2, rfl, i1⟩ := h1 (hdep ⟨1, .data⟩ (by simp) rfl) hL
          obtain ⟨g', g2', rfl, i3⟩ := h3 (hdep ⟨3, .data⟩ (by simp) rfl) hL
          obtain rfl := h4 (hdep ⟨4, .data⟩ (by simp) rfl)
          go_simp
          refine (CI.out _ _ _ _ _ _ _ n n2 m m2 i1 i3).mono ?_
          rintro e w9 ⟨s1, s2, rfl, o1, o2, hb9⟩
          obtain ⟨E1, e1, rfl⟩ := own_form2 o1
          obtain ⟨E2, e2, rfl⟩ := own_form2 o2
          exact hK _ _ ⟨_, _, _, _, _, _, _, _, _, _, _, E1, e1, E2, e2, rfl, hB.trans (hb9.mono hB.size), h0, (fun _ r => nomatch r), h2, (fun _ r => nomatch r), h4, fun _ => ⟨rfl, own_low o1 hB.size, own_low o2 hB.size⟩, (fun q => by have z := (c6 q); rw [hL] at z; exact nomatch z), (fun q => by have z := (c7 q); rw [hL] at z; exact nomatch z), h8, fun q r => let ⟨g, e, l, hp⟩ := h9 q r; ⟨g, e, l, (hb9.block g (Array.getElem?_eq_some_iff.1 hp).1).trans hp⟩, (fun q => by have z := (c10 q).2; rw [hL] at z; exact nomatch z), h11, fun q => (rfl), fun q => (rfl), fun q => ⟨(c10 q).1, rfl⟩⟩
        · -- operation 6
          cases ho
          have hd5 := hdep ⟨5, .data⟩ (by simp) rfl
          obtain ⟨rfl, o1, o2⟩ := h5 hd5
          go_simp
          exact hK _ _ ⟨_, _, _, _, _, _, _, _, _, _, _, U1, q1, U2, q2, rfl, hB, h0, h1, h2, h3, h4, h5, fun _ => rfl, h7, h8, h9, h10, h11, fun _ => (hd5), fun q => ((c7 q)), fun q => ⟨(c10 q).1, (c10 q).2⟩⟩
        · -- operation 7
          cases ho
          have hd6 := hdep ⟨6, .data⟩ (by simp) rfl
          have hd5 := c6 hd6
          obtain ⟨rfl, -, -⟩ := h5 hd5
          obtain rfl := h6 hd6
          go_simp
          exact hK _ _ ⟨_, _, _, _, _, _, _, _, _, _, _, U1, q1, U2, q2, rfl, hB, h0, h1, h2, h3, h4, h5, h6, fun _ => rfl, h8, h9, h10, h11, fun q => ((c6 q)), fun _ => (hd5), fun q => ⟨(c10 q).1, (c10 q).2⟩⟩
        · -- operation 8
          cases ho
          obtain rfl := h6 (hdep ⟨6, .data⟩ (by simp) rfl)
          go_simp
          exact hK _ _ ⟨_, _, _, _, _, _, _, _, _, _, _, U1, q1, U2, q2, rfl, hB, h0, h1, h2, h3, h4, h5, h6, h7, fun _ => rfl, h9, h10, h11, fun q => ((c6 q)), fun q => ((c7 q)), fun q => ⟨(c10 q).1, (c10 q).2⟩⟩
        · -- operation 9
          cases ho
          go_simp
          exact hK _ _ ⟨_, _, _, _, _, _, _, _, _, _, _, U1, q1, U2, q2, rfl, hB.alloc hB.size _, h0, fun q r => let ⟨g, g2, e, i⟩ := h1 q r; ⟨g, g2, e, (i.below ((Below.refl _ W).alloc (Nat.le_refl _) _) (Nat.le_refl _)).all⟩, h2, fun q r => let ⟨g, g2, e, i⟩ := h3 q r; ⟨g, g2, e, (i.below ((Below.refl _ W).alloc (Nat.le_refl _) _) (Nat.le_refl _)).all⟩, h4, fun q => let ⟨e, o1, o2⟩ := h5 q; ⟨e, o1.alloc _, o2.alloc _⟩, h6, h7, h8, fun _ _ => ⟨_, rfl, hB.size, heap_alloc_new W _⟩, (fun q => by have z := (c10 q).1; rw [hL] at z; exact nomatch z), h11, fun q => ((c6 q)), fun q => ((c7 q)), fun q => ⟨rfl, (c10 q).2⟩⟩
        · -- operation 10
          cases ho
          have hd9 := hdep ⟨9, .data⟩ (by simp) rfl
          have hd7 := hdep ⟨7, .data⟩ (by simp) rfl
          have hd5 := c7 hd7
          obtain ⟨g, rfl, hgl, hp0⟩ := h9 hd9 hL
          obtain rfl := h7 hd7
          obtain ⟨rfl, o1, o2⟩ := h5 hd5
          have s0 := cell_of_row W g 0 _ _ _ hp0
          have s1 := cell_of_row W g 1 _ _ _ hp0
          have s2 := frozen_of_row W g 0 _ _ hp0
          have s3 := frozen_of_row W g 1 _ _ hp0
          go_simp
          exact hK _ _ ⟨_, _, _, _, _, _, _, _, _, _, _, U1, q1, U2, q2, rfl, (hB.setCell (p := ⟨g, 0, none⟩) hgl _).setCell (p := ⟨g, 1, none⟩) hgl _, h0, (fun _ r => nomatch (hd5.symm.trans r)), h2, (fun _ r => nomatch (hd5.symm.trans r)), h4, fun _ => ⟨rfl, own_set (own_set o1 _ _ _ (own_off o1 hp0 (by decide))) _ _ _ (own_off o1 hp0 (by decide)), own_set (own_set o2 _ _ _ (own_off o2 hp0 (by decide))) _ _ _ (own_off o2 hp0 (by decide))⟩, h6, h7, h8, (fun _ q => nomatch q), fun _ => ⟨_, rfl, hgl, heap_set2 hp0⟩, h11, fun q => ((c6 q)), fun q => ((c7 q)), fun _ => ⟨hd9, hd5⟩⟩
        · -- operation 11
          cases ho
          obtain rfl := h8 (hdep ⟨8, .data⟩ (by simp) rfl)
          go_simp
          exact hK _ _ ⟨_, _, _, _, _, _, _, _, _, _, _, U1, q1, U2, q2, rfl, hB, h0, h1, h2, h3, h4, h5, h6, h7, h8, h9, h10, fun _ => rfl, fun q => ((c6 q)), fun q => ((c7 q)), fun q => ⟨(c10 q).1, (c10 q).2⟩⟩
      intro L ac W19 hJ hall
      obtain ⟨yvp0, yvq0, yvp1, yvq1, yvpr, yvrj, yvt0, yvf0, yvf1, yvpb, yvbk, U1, q1, U2, q2, rfl, hB, h0, -, h2, -, h4, h5, h6, h7, h8, -, h10, h11, -, -, -⟩ := hJ
      obtain rfl := h0 (hall 0 (by decide))
      obtain rfl := h2 (hall 2 (by decide))
      obtain rfl := h4 (hall 4 (by decide))
      obtain ⟨rfl, o1, o2⟩ := h5 (hall 5 (by decide))
      obtain rfl := h6 (hall 6 (by decide))
      obtain rfl := h7 (hall 7 (by decide))
      obtain rfl := h8 (hall 8 (by decide))
      obtain rfl := h11 (hall 11 (by decide))
      obtain ⟨b16, rfl, hgl, hp⟩ := h10 (hall 10 (by decide))
      clear h0 h2 h4 h5 h6 h7 h8 h10 h11 hall
      have z18 := S16.out.low.size
      have S19 := Lib.hid ((((S16.out.quiet hB).own (ia (.slice U2 Z.length q2) Z.length (Z.map (.int .i64))) (own_low o2 z18)).own (ra (.slice U1 R.length q1) R.length (flat R)) (own_low o1 z18)).two (Nat.le_trans z18 hgl) (cell_of_row _ _ 0 _ _ _ hp) (cell_of_row _ _ 1 _ _ _ hp))
      clear hB hp o1 o2 S16 CI
      have u0 := (S19.out.cell (b16, 0, .slice U1 R.length q1) (by simp)).2
      have u1 := (S19.out.cell (b16, 1, .slice U2 Z.length q2) (by simp)).2
      have g0 := (S19.out.cell (b6, 0, .slice A1 R.length d1) (by simp)).2
      have g1 := (S19.out.cell (b6, 1, .slice A2 Z.length d2) (by simp)).2
      go_wp2_with fail
      refine (eqW_row (S19.out.row (ra (.slice U1 R.length q1) R.length (flat R)) (by simp)) (S19.out.row (ia (.slice U2 Z.length q2) Z.length (Z.map (.int .i64))) (by simp)) (S19.out.row (ra (.slice A1 R.length d1) R.length (flat R)) (by simp)) (S19.out.row (ia (.slice A2 Z.length d2) Z.length (Z.map (.int .i64))) (by simp)) hmR hmZ).mono ?_
      rintro e w20 ⟨rfl, hb⟩
      have S20 := Lib.hid (S19.out.quiet hb)
      clear hb S19 
      clear u0 u1 g0 g1
      have e0 := (S20.out.cell (b10, 0, .slice D1 R.length f1) (by simp)).2
      have e1 := (S20.out.cell (b10, 1, .slice D2 Z.length f2) (by simp)).2
      go_wp2_with fail
      refine (heldW_row _ _ R.length Z.length w.heap.size 1 _ (by omega) (by omega) (S20.out.row (ra (.slice D1 R.length f1) R.length (nums 1 (3 * R.length))) (by simp)) (S20.out.row (ia (.slice D2 Z.length f2) Z.length (nums (1 + 3 * R.length) Z.length)) (by simp))).mono ?_
      rintro e w21 ⟨rfl, hb⟩
      have S21 := Lib.hid (S20.out.quiet hb)
      clear hb S20 e0 e1
      rw [HM4.out]
      go_wp2_with fail
      go_ret
      exact ⟨rfl, S21.out.low⟩
    · have SY := Lib.hid (fun W => szW_any x y m cx m2 cy (1048576 - n - n2) W KM.out.1 KM.out.2 (by omega) (by omega) (-1) (fun h => absurd h hfit2) (fun _ => rfl))
      have hs0 : ¬ (1048576 - (n : Int) - (n2 : Int) < 0) := by omega
      clear hw kw hn hr hz hm kn kr kz km hfit hfit2
      go_enter Try.func12, Try.ntmps12
      have S0 := Lib.hid ((St.start w).box2 (.slice a n c) (.slice b n2 c2) (.slice x m cx) (.slice y m2 cy) 44 44)
      go_wp2_with fail
      refine (SZ.out _).mono ?_
      rintro e w1 ⟨rfl, hb⟩
      have S1 := Lib.hid (S0.out.quiet hb)
      clear hb S0 SZ
      have c0 := (S1.out.cell (w.heap.size, 0, .slice a n c) (by simp)).2
      have c1 := (S1.out.cell (w.heap.size, 1, .slice b n2 c2) (by simp)).2
      have k0 := (S1.out.cell (w.heap.size + 1, 0, .slice x m cx) (by simp)).2
      have k1 := (S1.out.cell (w.heap.size + 1, 1, .slice y m2 cy) (by simp)).2
      go_wp2_with fail
      refine (SY.out _).mono ?_
      rintro e w2 ⟨rfl, hb⟩
      have S2 := Lib.hid (S1.out.quiet hb)
      clear hb S1 SY
      go_wp2_with fail
      go_ret
      exact ⟨rfl, S2.out.low⟩
  · have SZ := Lib.hid (fun W => szW_any a b n c n2 c2 1048576 W HM.out.1 HM.out.2 (by omega) (by omega) (-1) (fun h => absurd h hfit) (fun _ => rfl))
    clear hw kw hn hr hz hm kn kr kz km hfit
    go_enter Try.func12, Try.ntmps12
    have S0 := Lib.hid ((St.start w).box2 (.slice a n c) (.slice b n2 c2) (.slice x m cx) (.slice y m2 cy) 44 44)
    go_wp2_with fail
    refine (SZ.out _).mono ?_
    rintro e w1 ⟨rfl, hb⟩
    have S1 := Lib.hid (S0.out.quiet hb)
    clear hb S0 SZ
    go_wp2_with fail
    go_ret
    exact ⟨rfl, S1.out.low⟩
theorem own : ownKnob Try.prog.godebug = none := by kernel_rfl
theorem laidOut : laidOutB Try.prog = true := by kernel_rfl

set_option maxRecDepth 100000 in
theorem lifted (os : Os) (started : os.Started) (H : Type) (enc : TypeId × Value → H) :
    ReturnsInHanded {} Try.checked os 12 .any (Rows.fnExactJoinWaterwaysSpec.pre6 enc Try.prog Try.f12 Rows.fnExactJoinWaterwaysRow.domain false) (Rows.fnExactJoinWaterwaysSpec.post enc Try.prog Try.f12 false true false false) := by
  refine returnsInHanded_of_change (C := Try.checked) own started (by kernel_rfl) Try.func12
    (ChangeSpec.witness6 (enc := enc) (C := Try.checked) false ⟨#[], #[.agg #[.slice none 0 0, .slice none 0 0], .agg #[.slice none 0 0, .slice none 0 0], .int .i64 0], []⟩ 8 (by kernel_rfl) (by kernel_rfl) (by kernel_rfl) (by kernel_rfl)) ?_
  intro W base args ds gs before hval0 hW hcnd _
  have hval : ∀ (j : Nat) t v, Try.f12.params[j]? = some t → args[j]? = some v → Value.okWide Try.prog W .any base t v := hval0
  have hW' := hW
  obtain ⟨p, q, hA0, hV, rfl, hfz, hnd⟩ := hW
  have hA : DataW.TrodAll enc Try.prog W 0 (fun _ => true) true Try.f12.params.toList args.toList ds p := hA0
  rw [Try.params12] at hA hval
  obtain ⟨v0, vs0, d0, ds0, p0, q0, hargs, rfl, rfl, h0, r0⟩ := trodAll_cons hA
  obtain ⟨v1, vs1, d1, ds1, p1, q1, rfl, rfl, rfl, h1, r1⟩ := trodAll_cons r0
  obtain ⟨v2, vs2, d2, ds2, p2, q2, rfl, rfl, rfl, h2, r2⟩ := trodAll_cons r1
  obtain ⟨rfl, rfl, rfl⟩ := trodAll_nil r2
  obtain rfl : args = #[v0, v1, v2] := by cases args; simp_all
  obtain ⟨rfl, rfl⟩ := trodVars_none hV
  have k0 := h0
  have lt0 : ∀ x ∈ p0, x.block < W.heap.size := by obtain ⟨m, hm⟩ := k0; exact DataW.trod_lt m _ _ _ hm
  obtain ⟨c0, e0, y0, u0, m0, rfl, rfl, rfl, hy0, hu0⟩ := Go.Joins.open_agg2 Try.underlying44 (by kernel_rfl) (by kernel_rfl) (hval 0 44 v0 rfl rfl) h0
  obtain ⟨a0, len0, cap0, r0x, hcs, hrl0, hrm0, -, hrh0⟩ := open_reaches Try.underlying42 Try.underlying89 (by kernel_rfl) (by kernel_rfl) Try.underlying3 Try.underlying3 Try.underlying3 hy0
  injection hcs with hcs _
  subst hcs
  obtain ⟨b0, zen0, zap0, z0, hzs, w0⟩ : ∃ (b : Option Addr) (zen zap : Nat) (zs : List Int), e0 = .slice b zen zap ∧ IsInts .i64 W b zen zs := by
    rcases open_ints Try.underlying25 Try.underlying3 (by kernel_rfl) hu0 with ⟨hcs, _⟩ | ⟨x, l, c, zs, hcs, _, hl, hm, hz, _, hcell, hwz⟩
    · injection hcs with hcs _
      exact ⟨none, 0, 0, [], hcs, isInts_nil _ W⟩
    · injection hcs with hcs _
      exact ⟨_, _, _, _, hcs, isInts_some hl hm (by simpa using hz) hcell hwz⟩
  subst hzs
  have k1 := h1
  have lt1 : ∀ x ∈ p1, x.block < W.heap.size := by obtain ⟨m, hm⟩ := k1; exact DataW.trod_lt m _ _ _ hm
  obtain ⟨c1, e1, y1, u1, m1, rfl, rfl, rfl, hy1, hu1⟩ := Go.Joins.open_agg2 Try.underlying44 (by kernel_rfl) (by kernel_rfl) (hval 1 44 v1 rfl rfl) h1
  obtain ⟨a1, len1, cap1, r1x, hcs, hrl1, hrm1, -, hrh1⟩ := open_reaches Try.underlying42 Try.underlying89 (by kernel_rfl) (by kernel_rfl) Try.underlying3 Try.underlying3 Try.underlying3 hy1
  injection hcs with hcs _
  subst hcs
  obtain ⟨b1, zen1, zap1, z1, hzs, w1⟩ : ∃ (b : Option Addr) (zen zap : Nat) (zs : List Int), e1 = .slice b zen zap ∧ IsInts .i64 W b zen zs := by
    rcases open_ints Try.underlying25 Try.underlying3 (by kernel_rfl) hu1 with ⟨hcs, _⟩ | ⟨x, l, c, zs, hcs, _, hl, hm, hz, _, hcell, hwz⟩
    · injection hcs with hcs _
      exact ⟨none, 0, 0, [], hcs, isInts_nil _ W⟩
    · injection hcs with hcs _
      exact ⟨_, _, _, _, hcs, isInts_some hl hm (by simpa using hz) hcell hwz⟩
  subst hzs
  obtain ⟨a2, rfl, rfl, rfl, w2⟩ := open_int Try.underlying3 (hval 2 3 v2 rfl rfl) h2
  clear hA0 hval0
  refine (walk a0 len0 cap0 r0x b0 zen0 zap0 z0 a1 len1 cap1 r1x b1 zen1 zap1 z1 a2 W hrl0 hrm0 hrh0 w0 hrl1 hrm1 hrh1 w1 w2).mono fun e W' ⟨he, bel⟩ => ?_
  subst he
  exact ⟨_, rfl, _, _, _, [], _, [], hW', trodAll_mk1 (shut_bool Try.underlying4 _), (trodAll_cons_mk (Below.trod laidOut (by kernel_rfl) (of_decide_eq_true (by kernel_rfl)) k0 bel lt0) (trodAll_cons_mk (Below.trod laidOut (by kernel_rfl) (of_decide_eq_true (by kernel_rfl)) k1 bel lt1) (trodAll_cons_mk (shut_int Try.underlying3 w2) trodAll_mk0))), rfl, bel.frame _, fun h => by cases h⟩

theorem over : Rows.fnExactJoinWaterwaysRow.holds Try.pinned (OpenSpec.ofChange Rows.fnExactJoinWaterwaysSpec) :=
  OpenClaim.holds_of_wide 12 Try.f12 rfl rfl rfl rfl rfl rfl rfl ⟨rfl, rfl, rfl, rfl, rfl⟩ rfl rfl rfl rfl rfl (by kernel_rfl) Try.func12 (by kernel_rfl)
    (of_decide_eq_true (by kernel_rfl)) (by unfold Func.isWrapper; first | (rw [if_pos (by decide +kernel)]; kernel_rfl) | (rw [if_neg (by decide +kernel)]; exact ⟨rfl, rfl⟩))
    (fun os started H enc _ => lifted os started H enc)

/-- The statement. -/
theorem proved : Rows.FnExactJoinWaterwaysSaid := over
end Go.Proofs.Ytomehioembakgaa.fnExactJoinWaterways
