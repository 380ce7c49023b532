/- Chapter 5: commands one after the other: the model. -/
import Derived.Test.YtmnagjjpncancaaLoH
import Derived.Test.YtmnagjjpncancaaInv
namespace Go.Proofs.Ytmnagjjpncancaa
open Go.RowKit Go.PlainAid Go.Sort
set_option linter.unusedVariables false
set_option linter.unusedSimpArgs false

theorem stepL_lev {s t : TLockState} {k : Int} (h : stepL s k = some t) : (0 ≤ s.x2 ∧ s.x2 ≤ 2000) ∧ (0 ≤ t.x2 ∧ t.x2 ≤ 2000) := by
  obtain ⟨h1, h2, -⟩ := stepL_good h
  have a := goodL_levs h1
  have b := goodL_levs h2
  omega
set_option maxRecDepth 100000 in
set_option maxHeartbeats 4000000 in
theorem l5Run_any (l u v : Int) (a b c d : Bool) (A : Option Addr) (n cp B : Nat) (zs : List Int)
    (w : World) (hn : zs.length = n) (hm : n ≤ 1000) (hB : B ≤ w.heap.size) (h : Has w B A (zs.map (.int .i64))) :
    Calls Try.prog 51 #[.agg #[.int .i64 l, .int .i64 u, .int .i64 v, .bool a, .bool b, .bool c, .bool d], .slice A n cp] w fun e w' => e = .returned (.tuple #[valLockState (runL ⟨l, u, v, a, b, c, d⟩ zs).1, .int .i64 ((runL ⟨l, u, v, a, b, c, d⟩ zs).2 : Int), .int .i64 (riseL ⟨l, u, v, a, b, c, d⟩ zs)]) ∧ Below w.heap.size w w' := by
  have CS := Lib.hid (fun l u v a b c d k R0 R1 R2 R3 R4 R5 R6 x hA W => stepS_any l u v a b c d k R0 R1 R2 R3 R4 R5 R6 x hA W)
  have CM := Lib.hid (fun x W => l1MostL_any 0 x W)
  have HZ := Lib.hid (fun W (hb : Below w.heap.size w W) => h.below (hb.mono hB))
  have HLn := Lib.hid hn
  have HBw := Lib.hid hB
  have HB1 := Lib.hid (below2 w (.cells #[.int .i64 l, .int .i64 u, .int .i64 v, .bool a, .bool b, .bool c, .bool d] 23) (.cells #[.int .i64 0, .int .i64 0, .int .i64 0, .bool false, .bool false, .bool false, .bool false] 23))
  have Q0 := Lib.hid ((BoxL.new w l u v a b c d).all (below1 _ (.cells #[.int .i64 0, .int .i64 0, .int .i64 0, .bool false, .bool false, .bool false, .bool false] 23)))
  have Q1 := Lib.hid (BoxL.new (w.alloc (.cells #[.int .i64 l, .int .i64 u, .int .i64 v, .bool a, .bool b, .bool c, .bool d] 23)) 0 0 0 false false false false)
  rw [World.size_alloc] at Q1
  obtain ⟨⟨⟨R0, R1, R2, R3, R4, R5, R6⟩, m⟩, hP⟩ : ∃ p, runL ⟨l, u, v, a, b, c, d⟩ zs = p := ⟨_, rfl⟩
  obtain ⟨r, hr⟩ : ∃ r, riseL ⟨l, u, v, a, b, c, d⟩ zs = r := ⟨_, rfl⟩
  rw [hP, hr]
  dsimp only
  have HP := Lib.hid hP
  have HR := Lib.hid hr
  have hnn : (n : Int) ≤ 1000 := by omega
  clear hn h hB hP hr
  go_enter Try.func51, Try.ntmps51
  go_wp2_with fail
  obtain ⟨xb, hxb⟩ : ∃ y, w.heap.size = y := ⟨_, rfl⟩
  have HXB := Lib.hid hxb
  rw [hxb] at Q0 Q1
  try simp only [hxb]
  clear hxb
  go_loopw [7, 8] (fun q i wr => ∃ (k : Nat) (S0 S1 S2 : Int) (S3 S4 S5 S6 : Bool) (g : Int), k ≤ n ∧ i = .int .i64 k ∧ q = .int .i64 g ∧ (0 ≤ g ∧ g ≤ 2000 * (k : Int)) ∧ Hid (runL ⟨l, u, v, a, b, c, d⟩ zs = ((runL ⟨S0, S1, S2, S3, S4, S5, S6⟩ (zs.drop k)).1, (runL ⟨S0, S1, S2, S3, S4, S5, S6⟩ (zs.drop k)).2 + k) ∧ riseL ⟨l, u, v, a, b, c, d⟩ zs = g + riseL ⟨S0, S1, S2, S3, S4, S5, S6⟩ (zs.drop k)) ∧ Hid (Below w.heap.size w wr) ∧ Hid (BoxL wr xb S0 S1 S2 S3 S4 S5 S6) ∧ Hid (BoxL wr (xb + 1) 0 0 0 false false false false)) (fun _ i _ => n - (intOf i).toNat)
  case atStart => exact ⟨0, l, u, v, a, b, c, d, 0, Nat.zero_le _, rfl, rfl, ⟨by omega, by omega⟩, Lib.hid ⟨rfl, by simp⟩, HB1, Q0, Q1⟩
  case round =>
    clear HB1 Q0 Q1
    obtain ⟨k, S0, S1, S2, S3, S4, S5, S6, g, hk, rfl, rfl, ⟨g0, g1⟩, hrun, HB1, Q0, Q1⟩ := hrel
    by_cases hlt : k < n
    · have hkl : k < zs.length := by rw [HLn.out]; exact hlt
      obtain ⟨a1, rfl, hab, e1⟩ := (HZ.out _ HB1.out).intAt hkl
      have hab2 : (a1.add k).block < wr.heap.size := by rw [addBlock]; exact Nat.lt_of_lt_of_le hab (Nat.le_trans HBw.out HB1.out.size)
      have HNX := Lib.hid (fun t (h : stepL ⟨S0, S1, S2, S3, S4, S5, S6⟩ zs[k] = some t) => (runL_next (s := ⟨S0, S1, S2, S3, S4, S5, S6⟩) (t := t) hkl (by rw [getD_at hkl]; exact h)))
      have HNO := Lib.hid (fun (h : stepL ⟨S0, S1, S2, S3, S4, S5, S6⟩ zs[k] = none) => (runL_stop (s := ⟨S0, S1, S2, S3, S4, S5, S6⟩) hkl (by rw [getD_at hkl]; exact h)))
      generalize zs[k] = z at e1 HNX HNO
      obtain ⟨T0, T1, T2, T3, T4, T5, T6, y, hT⟩ := ansL_ex (stepL ⟨S0, S1, S2, S3, S4, S5, S6⟩ z)
      have CS2 := Lib.hid (fun W => CS.out S0 S1 S2 S3 S4 S5 S6 z T0 T1 T2 T3 T4 T5 T6 y hT W)
      have hk0 : (0 : Int) ≤ (k : Int) := by omega
      have hk1 : (k : Int) < (n : Int) := by omega
      have HT := Lib.hid hT
      have HAB := Lib.hid hab2
      have HE1 := Lib.hid e1
      clear hT hab CS hab2 e1
      go_wp2_with fail
      refine region_inv (by kernel_rfl) (by kernel_rfl) (fun Fl9 ac W => ∃ (x18 x19 x20 x21 x22 x23 x17 x24 x25 x9 x10 : Value), ac = { tmps := #[Value.agg #[Value.int IntKind.i64 l, Value.int IntKind.i64 u, Value.int IntKind.i64 v, Value.bool a, Value.bool b, Value.bool c, Value.bool d], Value.slice (some a1) n cp, Value.pointer (some ⟨xb, 0, none⟩), undef, Value.pointer (some ⟨xb + 1, 0, none⟩), u5, u6, Value.int IntKind.i64 g, Value.int IntKind.i64 (k : Int), x9, x10, Value.int IntKind.i64 (k : Int), Value.slice (some a1) n cp, Value.int IntKind.i64 (n : Int), Value.bool true, u15, u16, x17, x18, x19, x20, x21, x22, x23, x24, x25, u26, u27, u28, u29, u30, u31, u32, u33, u34, u35, u36, u37, u38, u39, undef, undef, undef, undef], defers := [] } ∧ Below wr.heap.size wr W ∧
            (Fl9 0 = true → x18 = .agg #[.int .i64 S0, .int .i64 S1, .int .i64 S2, .bool S3, .bool S4, .bool S5, .bool S6]) ∧
            (Fl9 1 = true → x19 = .slice (some a1) n cp) ∧
            (Fl9 2 = true → x20 = .int .i64 (k : Int)) ∧
            (Fl9 3 = true → x21 = .pointer (some (a1.add k))) ∧
            (Fl9 4 = true → x22 = .int .i64 z) ∧
            (Fl9 5 = true → x23 = .tuple #[.agg #[.int .i64 T0, .int .i64 T1, .int .i64 T2, .bool T3, .bool T4, .bool T5, .bool T6], .bool y]) ∧
            (Fl9 6 = true → x17 = .tuple #[.agg #[.int .i64 T0, .int .i64 T1, .int .i64 T2, .bool T3, .bool T4, .bool T5, .bool T6], .bool y]) ∧
            (Fl9 7 = true → x24 = .agg #[.int .i64 T0, .int .i64 T1, .int .i64 T2, .bool T3, .bool T4, .bool T5, .bool T6]) ∧
            (Fl9 8 = true → x25 = .bool y) ∧
            (Fl9 9 = true → ∃ g, x9 = .pointer (some ⟨g, 0, none⟩) ∧ wr.heap.size ≤ g ∧ ∃ l0 l1 l2 l3 l4 l5 l6, BoxL W g l0 l1 l2 l3 l4 l5 l6) ∧
            (Fl9 10 = true → ∃ g, x9 = .pointer (some ⟨g, 0, none⟩) ∧ wr.heap.size ≤ g ∧ BoxL W g T0 T1 T2 T3 T4 T5 T6) ∧
            (Fl9 11 = true → x10 = .bool y) ∧
            (Fl9 10 = true → Fl9 9 = true)) ?_ ?_ ?_
      · exact ⟨_, _, _, _, _, _, _, _, _, _, _, rfl, (Drawn.one wr 1).below _, (fun q0 => nomatch q0), (fun q0 => nomatch q0), (fun q0 => nomatch q0), (fun q0 => nomatch q0), (fun q0 => nomatch q0), (fun q0 => nomatch q0), (fun q0 => nomatch q0), (fun q0 => nomatch q0), (fun q0 => nomatch q0), (fun q0 => nomatch q0), (fun q0 => nomatch q0), (fun q0 => nomatch q0), (fun q0 => nomatch q0)⟩
      · intro Fl9 ac W i9 o9 hJ ho hL hdep K9 hK
        obtain ⟨x18, x19, x20, x21, x22, x23, x17, x24, x25, x9, x10, rfl, hB, hh0, hh1, hh2, hh3, hh4, hh5, hh6, hh7, hh8, hh9, hh10, hh11, hx0⟩ := hJ
        have hi9 : i9 < 12 := by simpa using (Array.getElem?_eq_some_iff.1 ho).1
        have QW := Q0.out.all hB
        have C0 := QW.c0
        have C1 := QW.c1
        have C2 := QW.c2
        have C3 := QW.c3
        have C4 := QW.c4
        have C5 := QW.c5
        have C6 := QW.c6
        have CE := (hB.cell HAB.out).trans HE1.out
        clear QW
        obtain rfl | rfl | rfl | rfl | rfl | rfl | rfl | rfl | rfl | rfl | rfl | rfl : i9 = 0 ∨ i9 = 1 ∨ i9 = 2 ∨ i9 = 3 ∨ i9 = 4 ∨ i9 = 5 ∨ i9 = 6 ∨ i9 = 7 ∨ i9 = 8 ∨ i9 = 9 ∨ i9 = 10 ∨ i9 = 11 := by omega
        · -- operation 0
          cases ho
          go_simp
          exact hK _ _ ⟨_, _, _, _, _, _, _, _, _, _, _, rfl, hB, fun _ => rfl, hh1, hh2, hh3, hh4, hh5, hh6, hh7, hh8, hh9, hh10, hh11, hx0⟩
        · -- operation 1
          cases ho
          go_simp
          exact hK _ _ ⟨_, _, _, _, _, _, _, _, _, _, _, rfl, hB, hh0, fun _ => rfl, hh2, hh3, hh4, hh5, hh6, hh7, hh8, hh9, hh10, hh11, hx0⟩
        · -- operation 2
          cases ho
          go_simp
          exact hK _ _ ⟨_, _, _, _, _, _, _, _, _, _, _, rfl, hB, hh0, hh1, fun _ => rfl, hh3, hh4, hh5, hh6, hh7, hh8, hh9, hh10, hh11, hx0⟩
        · -- operation 3
          cases ho
          obtain rfl := hh1 (hdep ⟨1, .data⟩ (by simp) rfl)
          obtain rfl := hh2 (hdep ⟨2, .data⟩ (by simp) rfl)
          go_simp
          exact hK _ _ ⟨_, _, _, _, _, _, _, _, _, _, _, rfl, hB, hh0, hh1, hh2, fun _ => rfl, hh4, hh5, hh6, hh7, hh8, hh9, hh10, hh11, hx0⟩
        · -- operation 4
          cases ho
          obtain rfl := hh3 (hdep ⟨3, .data⟩ (by simp) rfl)
          go_simp
          exact hK _ _ ⟨_, _, _, _, _, _, _, _, _, _, _, rfl, hB, hh0, hh1, hh2, hh3, fun _ => rfl, hh5, hh6, hh7, hh8, hh9, hh10, hh11, hx0⟩
        · -- operation 5
          cases ho
          obtain rfl := hh0 (hdep ⟨0, .data⟩ (by simp) rfl)
          obtain rfl := hh4 (hdep ⟨4, .data⟩ (by simp) rfl)
          go_simp
          refine (CS2.out W).mono ?_
          rintro e w9 ⟨rfl, hb9⟩
          exact hK _ _ ⟨_, _, _, _, _, _, _, _, _, _, _, rfl, hB.trans (hb9.mono hB.size), hh0, hh1, hh2, hh3, hh4, fun _ => rfl, hh6, hh7, hh8, fun q0 => (fun ⟨g, e, hg, a0, a1, a2, a3, a4, a5, a6, h⟩ => ⟨g, e, hg, a0, a1, a2, a3, a4, a5, a6, h.all hb9⟩) (hh9 q0), fun q0 => (fun ⟨g, e, hg, h⟩ => ⟨g, e, hg, h.all hb9⟩) (hh10 q0), hh11, hx0⟩
        · -- operation 6
          cases ho
          have hd5 := hdep ⟨5, .data⟩ (by simp) rfl
          obtain rfl := hh5 hd5
          go_simp
          exact hK _ _ ⟨_, _, _, _, _, _, _, _, _, _, _, rfl, hB, hh0, hh1, hh2, hh3, hh4, hh5, fun _ => rfl, hh7, hh8, hh9, hh10, hh11, hx0⟩
        · -- operation 7
          cases ho
          obtain rfl := hh6 (hdep ⟨6, .data⟩ (by simp) rfl)
          go_simp
          exact hK _ _ ⟨_, _, _, _, _, _, _, _, _, _, _, rfl, hB, hh0, hh1, hh2, hh3, hh4, hh5, hh6, fun _ => rfl, hh8, hh9, hh10, hh11, hx0⟩
        · -- operation 8
          cases ho
          obtain rfl := hh6 (hdep ⟨6, .data⟩ (by simp) rfl)
          go_simp
          exact hK _ _ ⟨_, _, _, _, _, _, _, _, _, _, _, rfl, hB, hh0, hh1, hh2, hh3, hh4, hh5, hh6, hh7, fun _ => rfl, hh9, hh10, hh11, hx0⟩
        · -- operation 9
          cases ho
          go_simp
          exact hK _ _ ⟨_, _, _, _, _, _, _, _, _, _, _, rfl, hB.trans ((Below.alloc (Below.refl W.heap.size W) (Nat.le_refl _) _).mono hB.size), hh0, hh1, hh2, hh3, hh4, hh5, hh6, hh7, hh8, fun _ => ⟨_, rfl, hB.size, _, _, _, _, _, _, _, BoxL.new W _ _ _ _ _ _ _⟩, (fun q0 => absurd (hx0 q0) (by rw [hL]; simp)), hh11, fun _ => rfl⟩
        · -- operation 10
          cases ho
          obtain rfl := hh7 (hdep ⟨7, .data⟩ (by simp) rfl)
          have hd9 := hdep ⟨9, .data⟩ (by simp) rfl
          obtain ⟨g9, rfl, hg9, z0, z1, z2, z3, z4, z5, z6, hbx⟩ := hh9 hd9
          have i0 := hbx.c0
          have i1 := hbx.c1
          have i2 := hbx.c2
          have i3 := hbx.c3
          have i4 := hbx.c4
          have i5 := hbx.c5
          have i6 := hbx.c6
          have j0 := hbx.fz 0
          have j1 := hbx.fz 1
          have j2 := hbx.fz 2
          have j3 := hbx.fz 3
          have j4 := hbx.fz 4
          have j5 := hbx.fz 5
          have j6 := hbx.fz 6
          go_simp
          exact hK _ _ ⟨_, _, _, _, _, _, _, _, _, _, _, rfl, sets7_below hB hg9 _ _ _ _ _ _ _, hh0, hh1, hh2, hh3, hh4, hh5, hh6, hh7, hh8, fun _ => ⟨g9, rfl, hg9, _, _, _, _, _, _, _, hbx.sets _ _ _ _ _ _ _⟩, fun _ => ⟨g9, rfl, hg9, hbx.sets _ _ _ _ _ _ _⟩, hh11, fun _ => hd9⟩
        · -- operation 11
          cases ho
          obtain rfl := hh8 (hdep ⟨8, .data⟩ (by simp) rfl)
          go_simp
          exact hK _ _ ⟨_, _, _, _, _, _, _, _, _, _, _, rfl, hB, hh0, hh1, hh2, hh3, hh4, hh5, hh6, hh7, hh8, hh9, hh10, fun _ => rfl, hx0⟩
      intro Fl9 ac W hJ hall
      obtain ⟨x18, x19, x20, x21, x22, x23, x17, x24, x25, x9, x10, rfl, hB, hh0, hh1, hh2, hh3, hh4, hh5, hh6, hh7, hh8, hh9, hh10, hh11, -⟩ := hJ
      obtain rfl := hh0 (hall 0 (by decide))
      obtain rfl := hh1 (hall 1 (by decide))
      obtain rfl := hh2 (hall 2 (by decide))
      obtain rfl := hh3 (hall 3 (by decide))
      obtain rfl := hh4 (hall 4 (by decide))
      obtain rfl := hh6 (hall 6 (by decide))
      obtain rfl := hh7 (hall 7 (by decide))
      obtain rfl := hh8 (hall 8 (by decide))
      obtain rfl := hh11 (hall 11 (by decide))
      obtain rfl := hh5 (hall 5 (by decide))
      obtain ⟨gf, rfl, hgf, -⟩ := hh9 (hall 9 (by decide))
      obtain ⟨gz, ez, -, hbf⟩ := hh10 (hall 10 (by decide))
      clear hall
      obtain rfl : gf = gz := by injection ez with ez; injection ez with ez; injection ez with ez _ _
      clear ez
      have HB2 := Lib.hid (HB1.out.trans (hB.mono HB1.out.size))
      have Q2 := Lib.hid (Q0.out.all hB)
      have Q3 := Lib.hid (Q1.out.all hB)
      have QF := Lib.hid hbf
      clear hB hbf HB1 Q0 Q1 CS2 HAB HE1 hgf
      rcases HT.out with ⟨hs, rfl⟩ | ⟨hs, ⟨rfl, rfl, rfl, rfl, rfl, rfl, rfl⟩, rfl⟩
      · obtain ⟨⟨lv0, lv1⟩, lv2, lv3⟩ := stepL_lev hs
        dsimp only at lv0 lv1 lv2 lv3
        obtain ⟨y1, hy1⟩ : ∃ y, max 0 (T2 - S2) = y := ⟨_, rfl⟩
        have hyb : 0 ≤ y1 ∧ y1 ≤ 2000 := by omega
        have CM2 := Lib.hid (fun W => CM.out (T2 - S2) W)
        have HRN : Hid (runL ⟨l, u, v, a, b, c, d⟩ zs = ((runL ⟨T0, T1, T2, T3, T4, T5, T6⟩ (zs.drop (k + 1))).1, (runL ⟨T0, T1, T2, T3, T4, T5, T6⟩ (zs.drop (k + 1))).2 + (k + 1)) ∧ riseL ⟨l, u, v, a, b, c, d⟩ zs = g + y1 + riseL ⟨T0, T1, T2, T3, T4, T5, T6⟩ (zs.drop (k + 1))) := Lib.hid (by
          obtain ⟨n1, n2⟩ := HNX.out _ hs
          refine ⟨?_, ?_⟩
          · rw [hrun.out.1, n1]
            congr 1
            dsimp only
            omega
          · rw [hrun.out.2, n2]
            dsimp only
            omega)
        rw [hy1] at CM2
        obtain ⟨yb0, yb1⟩ := hyb
        clear hs hrun HNX HNO HT hy1 CM
        have c0 := Q2.out.c0
        have c1 := Q2.out.c1
        have c2 := Q2.out.c2
        have c3 := Q2.out.c3
        have c4 := Q2.out.c4
        have c5 := Q2.out.c5
        have c6 := Q2.out.c6
        have f0 := Q2.out.fz 0
        have f1 := Q2.out.fz 1
        have f2 := Q2.out.fz 2
        have f3 := Q2.out.fz 3
        have f4 := Q2.out.fz 4
        have f5 := Q2.out.fz 5
        have f6 := Q2.out.fz 6
        have d0 := QF.out.c0
        have d1 := QF.out.c1
        have d2 := QF.out.c2
        have d3 := QF.out.c3
        have d4 := QF.out.c4
        have d5 := QF.out.c5
        have d6 := QF.out.c6
        go_wp2_with fail
        refine (CM2.out _).mono ?_
        rintro e w7 ⟨rfl, rfl⟩
        go_wp2_with fail
        go_roundw
        case rel => exact ⟨k + 1, T0, T1, T2, T3, T4, T5, T6, g + y1, by omega, by go_num, by go_num, ⟨by omega, by push_cast; omega⟩, HRN, Lib.hid (sets7_below HB2.out (by have := HXB.out; omega) _ _ _ _ _ _ _), Lib.hid (Q2.out.sets _ _ _ _ _ _ _), Lib.hid (Q3.out.kept (grown_sets7 _ _ _ _ _ _ _ _ _) (by simp))⟩
        case measure => simp [intOf]; omega
      · obtain ⟨hr1, hr2⟩ := hrun.out
        rw [(HNO.out hs).1] at hr1
        rw [(HNO.out hs).2] at hr2
        rw [hr1] at HP
        rw [hr2] at HR
        dsimp only at HP
        obtain ⟨hp1, hp2⟩ := Prod.mk.inj HP.out
        obtain ⟨rfl, rfl, rfl, rfl, rfl, rfl, rfl⟩ := TLockState.mk.inj hp1
        obtain rfl : k = m := by omega
        obtain rfl : g = r := by have := HR.out; omega
        clear hs hrun HNX HNO hr1 hr2 HP HR hp1 hp2 HT CM
        have e0 := Q2.out.c0
        have e1 := Q2.out.c1
        have e2 := Q2.out.c2
        have e3 := Q2.out.c3
        have e4 := Q2.out.c4
        have e5 := Q2.out.c5
        have e6 := Q2.out.c6
        have c0 := Q3.out.c0
        have c1 := Q3.out.c1
        have c2 := Q3.out.c2
        have c3 := Q3.out.c3
        have c4 := Q3.out.c4
        have c5 := Q3.out.c5
        have c6 := Q3.out.c6
        have f0 := Q3.out.fz 0
        have f1 := Q3.out.fz 1
        have f2 := Q3.out.fz 2
        have f3 := Q3.out.fz 3
        have f4 := Q3.out.fz 4
        have f5 := Q3.out.fz 5
        have f6 := Q3.out.fz 6
        go_wp2_with fail
        refine bodyPost_ret (results_row2 rfl _ _ (xb + 1) [_, _, _, _, _, _, _] _ rfl (Q3.out.sets _ _ _ _ _ _ _).rangeAt Try.underlying23 rfl (by kernel_rfl)) rfl ?_
        exact ⟨rfl, sets7_below HB2.out (by have := HXB.out; omega) _ _ _ _ _ _ _⟩
    · obtain rfl : k = n := by omega
      obtain ⟨hr1, hr2⟩ := hrun.out
      rw [← HLn.out, (runL_end _ zs).1, HLn.out] at hr1
      rw [← HLn.out, (runL_end _ zs).2] at hr2
      rw [hr1] at HP
      rw [hr2] at HR
      dsimp only at HP
      obtain ⟨hp1, hp2⟩ := Prod.mk.inj HP.out
      obtain ⟨rfl, rfl, rfl, rfl, rfl, rfl, rfl⟩ := TLockState.mk.inj hp1
      obtain rfl : k = m := by omega
      obtain rfl : g = r := by have := HR.out; omega
      clear hrun hr1 hr2 HP HR hp1 hp2 CM CS
      have e0 := Q0.out.c0
      have e1 := Q0.out.c1
      have e2 := Q0.out.c2
      have e3 := Q0.out.c3
      have e4 := Q0.out.c4
      have e5 := Q0.out.c5
      have e6 := Q0.out.c6
      have c0 := Q1.out.c0
      have c1 := Q1.out.c1
      have c2 := Q1.out.c2
      have c3 := Q1.out.c3
      have c4 := Q1.out.c4
      have c5 := Q1.out.c5
      have c6 := Q1.out.c6
      have f0 := Q1.out.fz 0
      have f1 := Q1.out.fz 1
      have f2 := Q1.out.fz 2
      have f3 := Q1.out.fz 3
      have f4 := Q1.out.fz 4
      have f5 := Q1.out.fz 5
      have f6 := Q1.out.fz 6
      go_wp2_with fail
      refine bodyPost_ret (results_row2 rfl _ _ (xb + 1) [_, _, _, _, _, _, _] _ rfl (Q1.out.sets _ _ _ _ _ _ _).rangeAt Try.underlying23 rfl (by kernel_rfl)) rfl ?_
      exact ⟨rfl, sets7_below HB1.out (by have := HXB.out; omega) _ _ _ _ _ _ _⟩
end Go.Proofs.Ytmnagjjpncancaa
