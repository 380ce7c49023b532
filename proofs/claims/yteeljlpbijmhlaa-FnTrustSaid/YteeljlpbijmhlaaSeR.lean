/- Chapter 6: the trusted bound of the model. -/
import Derived.Test.YteeljlpbijmhlaaSeQ
namespace Go.Proofs.Yteeljlpbijmhlaa
open Go.RowKit Go.PlainAid Go.Sort
set_option linter.unusedVariables false
set_option linter.unusedSimpArgs false

/-- A bound in a block. -/
def BoxB (W : World) (g : Nat) (x y : Int) : Prop := W.heap[g]? = some (.cells #[.int .i64 x, .int .i64 y] 46 (0, 0))
section
variable {W : World} {g : Nat} {x y : Int}
theorem BoxB.c0 (h : BoxB W g x y) : W.cell? ⟨g, 0, none⟩ = some (.int .i64 x) := cell_of_row W g 0 _ _ _ h
theorem BoxB.c1 (h : BoxB W g x y) : W.cell? ⟨g, 1, none⟩ = some (.int .i64 y) := cell_of_row W g 1 _ _ _ h
theorem BoxB.fz (h : BoxB W g x y) (k : Nat) : W.frozen? ⟨g, k, none⟩ = false := frozen_of_row W g k _ _ h
theorem BoxB.lt (h : BoxB W g x y) : g < W.heap.size := (Array.getElem?_eq_some_iff.1 h).1
theorem BoxB.below {w' : World} {B : Nat} (h : BoxB W g x y) (hb : Below B W w') (hg : g < B) : BoxB w' g x y := (hb.block g hg).trans h
theorem BoxB.all {w' : World} (h : BoxB W g x y) (hb : Below W.heap.size W w') : BoxB w' g x y := h.below hb h.lt
theorem BoxB.new (W : World) (x y : Int) : BoxB (W.alloc (.cells #[.int .i64 x, .int .i64 y] 46)) W.heap.size x y := heap_alloc_new W _
theorem BoxB.rangeAt (h : BoxB W g x y) : W.rangeAt g 0 [.int .i64 x, .int .i64 y] := by
  intro j u hj
  match j, hj with
  | 0, hj => injection hj with hj; rw [← hj]; exact h.c0
  | 1, hj => injection hj with hj; rw [← hj]; exact h.c1
theorem BoxB.set0 (h : BoxB W g x y) (z : Int) : BoxB (W.setCell ⟨g, 0, none⟩ (.int .i64 z)) g z y := by
  unfold BoxB at *
  simp [World.setCell, Array.getElem?_modify, h]
theorem BoxB.set1 (h : BoxB W g x y) (z : Int) : BoxB (W.setCell ⟨g, 1, none⟩ (.int .i64 z)) g x z := by
  unfold BoxB at *
  simp [World.setCell, Array.getElem?_modify, h]
/-- Both cells written over. -/
abbrev sets2 (W : World) (g : Nat) (x y : Int) : World := (W.setCell ⟨g, 0, none⟩ (.int .i64 x)).setCell ⟨g, 1, none⟩ (.int .i64 y)
theorem BoxB.sets (h : BoxB W g x y) (x' y' : Int) : BoxB (sets2 W g x' y') g x' y' := (h.set0 x').set1 y'
theorem BoxB.other {g' i : Nat} {u : Value} (h : BoxB W g x y) (hne : g ≠ g') : BoxB (W.setCell ⟨g', i, none⟩ u) g x y := (Below.heap_setCell _ _ _ _ hne).trans h
theorem sets2_below {w W : World} {B : Nat} (h : Below B w W) {g : Nat} (hg : B ≤ g) (x y : Int) : Below B w (sets2 W g x y) := (h.setCell (p := ⟨g, 0, none⟩) hg _).setCell (p := ⟨g, 1, none⟩) hg _
end
/-- A struct in a block and a value as an answer. -/
theorem results_rowB {P : Program} {fn : Func} {p t : Tmp} {ty : TypeId} (h : fn.results = #[.cell p ty, .tmp t]) (tmps : Array Value) (w : World) (g : Nat) (cs : List Value) (d : TypeDesc)
    (hp : tmps.getD p undef = .pointer (some ⟨g, 0, none⟩)) (hc : w.rangeAt g 0 cs) (hu : P.underlying ty = some d) (hd : d.isRow = true) (hi : (P.info? ty).map (·.size) = some cs.length) :
    (results fn tmps).run P w = .ok (.tuple #[.agg cs.toArray, tmps.getD t undef]) w := by
  have hp' : tmps[p]?.getD undef = .pointer (some ⟨g, 0, none⟩) := by simpa using hp
  simp [results, h, hp', asAddr, run_loadVar_mid w g 0 ty cs d hc hu hd hi]

set_option maxRecDepth 100000 in
set_option maxHeartbeats 2000000 in
theorem l6Trusted_any {w : World} {B n : Nat} {A : Option Addr} {vs : List TBound} (c : Nat) (h : IsBounds w B A n vs) (hm : n ≤ 1048576) (hs : bndS vs) (m : Nat) (hm8 : m ≤ 8) :
    Calls Try.prog 79 #[.slice A n c, .int .i64 m] w fun e w' => e = .returned (.tuple #[.agg #[.int .i64 (lowV vs m n), .int .i64 (highK vs m n)], .bool (decide (hasK vs m n))]) ∧ Below w.heap.size w w' := by
  have CC := Lib.hid (fun (x : Int) (W : World) (hW : Below w.heap.size w W) => l6Count_any c (h.below hW h.low) hm x)
  have HI := Lib.hid h
  have HS := Lib.hid hs
  have hG0 : ∃ G, w.heap.size = G := ⟨_, rfl⟩
  have P0 : Hid (BoxB ((w.alloc (.cells #[.int .i64 0, .int .i64 0] 46)).alloc (.cells #[.int .i64 0, .int .i64 0] 46)) w.heap.size 0 0) := Lib.hid ((BoxB.new w 0 0).all (below1q _ _))
  have P1 : Hid (BoxB ((w.alloc (.cells #[.int .i64 0, .int .i64 0] 46)).alloc (.cells #[.int .i64 0, .int .i64 0] 46)) (w.heap.size + 1) 0 0) := Lib.hid (by
    have := BoxB.new (w.alloc (.cells #[.int .i64 0, .int .i64 0] 46)) 0 0
    rwa [World.size_alloc] at this)
  have PB : Hid (Below w.heap.size w ((w.alloc (.cells #[.int .i64 0, .int .i64 0] 46)).alloc (.cells #[.int .i64 0, .int .i64 0] 46))) := Lib.hid ((below1q w _).alloc (by simp) _)
  have HCL := Lib.hid (fun x => (show cntB vs x ≤ n by have := cntK_le vs x vs.length; unfold cntB; rw [h.len] at this ⊢; exact this))
  have hn8 : n ≤ 8 := by rw [← h.len]; exact hs.2.2
  clear h hs hG0
  go_enter Try.func79, Try.ntmps79
  go_wp2_with fail
  go_loopw [7, 8] (fun f i wr => ∃ k : Nat, k ≤ n ∧ i = .int .i64 k ∧ f = .bool (decide (hasK vs m k)) ∧ Hid (BoxB wr (w.heap.size + 1) (lowV vs m k) 0) ∧ Hid (BoxB wr w.heap.size 0 0) ∧ Below w.heap.size w wr) (fun _ i _ => n - (intOf i).toNat)
  case atStart => exact ⟨0, Nat.zero_le _, rfl, by simp [hasK_zero], Lib.hid (by rw [lowV_zero]; exact P1.out), P0, PB.out⟩
  case round =>
    clear P0 P1 PB
    obtain ⟨k, hk, rfl, rfl, hbx, hb0, hb⟩ := hrel
    have HB := Lib.hid hb
    by_cases hlt : k < n
    · obtain ⟨a1, ha1, hab, HV⟩ := (HI.out.below hb HI.out.low).at hlt
      have HNO := Lib.hid (fun h => lowV_no (vs := vs) (m := m) (k := k) h)
      have HNEW := Lib.hid (fun h g => lowV_new (vs := vs) (m := m) (k := k) HS.out (by rw [HI.out.len]; exact hlt) h g)
      have HOLD := Lib.hid (fun h d g => lowV_old (vs := vs) (m := m) (k := k) h d g)
      have C1 := Lib.hid (CC.out (vs.getD k noBound).x0)
      have hcl := HCL.out (vs.getD k noBound).x0
      subst ha1
      generalize vs.getD k noBound = V at HV HNO HNEW HOLD C1 hcl
      obtain ⟨x, y⟩ := V
      obtain ⟨e0, e1⟩ := HV
      dsimp only at e0 e1 HNO HNEW HOLD C1 hcl
      generalize cntB vs x = ct at HNO HNEW HOLD C1 hcl
      have hk0 : (0 : Int) ≤ (k : Int) := by omega
      have hk1 : (k : Int) < (n : Int) := by omega
      clear hb CC
      go_wp2_with fail
      refine (C1.out _ HB.out).mono ?_
      rintro e w2 ⟨rfl, hb2⟩
      have HB2 := Lib.hid (HB.out.trans (hb2.mono HB.out.size))
      have Q1 := Lib.hid (hbx.out.all hb2)
      have Q0 := Lib.hid (hb0.out.all hb2)
      clear hb2 hbx hb0 e0 e1 C1 HB
      by_cases hct : m ≤ ct
      · have hge : (m : Int) ≤ (ct : Int) := by omega
        by_cases hh : hasK vs m k
        · have hdd : decide (hasK vs m k) = true := decide_eq_true hh
          by_cases hx : x < lowV vs m k
          · obtain ⟨r1, r2⟩ := HNEW.out hct (.inr hx)
            have R1 := Lib.hid r1
            have R2 := Lib.hid (decide_eq_true r2)
            rw [hdd]
            have c0 := Q1.out.c0
            have fz := Q1.out.fz 0
            have HN1 := Lib.hid (Q1.out.set0 x)
            have HN0 := Lib.hid (Q0.out.other (g' := w.heap.size + 1) (i := 0) (u := .int .i64 x) (by omega))
            have HNB := Lib.hid (HB2.out.setCell (p := ⟨w.heap.size + 1, 0, none⟩) (by show w.heap.size ≤ w.heap.size + 1; omega) (.int .i64 x))
            clear HNO HNEW HOLD r1 r2 hh hdd Q1 Q0 HB2
            generalize lowV vs m k = lv at c0 hx
            go_wp2_with fail
            go_roundw
            case rel => exact ⟨k + 1, by omega, by go_num, by rw [R2.out], Lib.hid (by rw [R1.out]; exact HN1.out), HN0, HNB.out⟩
            case measure => simp [intOf]; omega
          · obtain ⟨r1, r2⟩ := HOLD.out hct hh (by omega)
            have R1 := Lib.hid r1
            have R2 := Lib.hid (decide_eq_true r2)
            rw [hdd]
            have c0 := Q1.out.c0
            clear HNO HNEW HOLD r1 r2 hh hdd
            have Q1' : Hid (BoxB w2 (w.heap.size + 1) (lowV vs m (k + 1)) 0) := Lib.hid (by rw [R1.out]; exact Q1.out)
            clear Q1 R1
            generalize lowV vs m k = lv at c0 hx
            go_wp2_with fail
            go_roundw
            case rel => exact ⟨k + 1, by omega, by go_num, by rw [R2.out], Q1', Q0, HB2.out⟩
            case measure => simp [intOf]; omega
        · have hdd : decide (hasK vs m k) = false := decide_eq_false hh
          obtain ⟨r1, r2⟩ := HNEW.out hct (.inl hh)
          have R1 := Lib.hid r1
          have R2 := Lib.hid (decide_eq_true r2)
          rw [hdd]
          have c0 := Q1.out.c0
          have fz := Q1.out.fz 0
          have HN1 := Lib.hid (Q1.out.set0 x)
          have HN0 := Lib.hid (Q0.out.other (g' := w.heap.size + 1) (i := 0) (u := .int .i64 x) (by omega))
          have HNB := Lib.hid (HB2.out.setCell (p := ⟨w.heap.size + 1, 0, none⟩) (by show w.heap.size ≤ w.heap.size + 1; omega) (.int .i64 x))
          clear HNO HNEW HOLD r1 r2 hh hdd Q1 Q0 HB2
          generalize lowV vs m k = lv at c0
          go_wp2_with fail
          go_roundw
          case rel => exact ⟨k + 1, by omega, by go_num, by rw [R2.out], Lib.hid (by rw [R1.out]; exact HN1.out), HN0, HNB.out⟩
          case measure => simp [intOf]; omega
      · obtain ⟨r1, r2⟩ := HNO.out hct
        have hge : ¬ ((m : Int) ≤ (ct : Int)) := by omega
        have R2 : Hid (decide (hasK vs m k) = decide (hasK vs m (k + 1))) := Lib.hid (decide_eq_decide.2 r2.symm)
        have Q1' : Hid (BoxB w2 (w.heap.size + 1) (lowV vs m (k + 1)) 0) := Lib.hid (by rw [r1]; exact Q1.out)
        rw [R2.out]
        clear HNO HNEW HOLD r1 r2 Q1 R2
        go_wp2_with fail
        go_roundw
        case rel => exact ⟨k + 1, by omega, by go_num, rfl, Q1', Q0, HB2.out⟩
        case measure => simp [intOf]; omega
    · obtain rfl : k = n := by omega
      have hkn : ¬ ((k : Int) < (k : Int)) := by omega
      obtain ⟨dh, hdh⟩ : ∃ b, decide (hasK vs m k) = b := ⟨_, rfl⟩
      have HDH := Lib.hid hdh
      rw [hdh]
      clear hdh
      clear hb
      go_wp2_with fail
      generalize wr = wo at *
      go_loopw [10] (fun i wr => ∃ j : Nat, j ≤ k ∧ i = .int .i64 j ∧ Hid (BoxB wr (w.heap.size + 1) (lowV vs m k) (highK vs m j)) ∧ Hid (BoxB wr w.heap.size 0 0) ∧ Below w.heap.size w wr) (fun i _ => k - (intOf i).toNat)
      case atStart => exact ⟨0, Nat.zero_le _, rfl, hbx, hb0, HB.out⟩
      case round =>
        clear hbx hb0 HB
        obtain ⟨j, hj, rfl, hbx, hb0, hb⟩ := hrel
        have HB := Lib.hid hb
        by_cases hlt : j < k
        · obtain ⟨a1, ha1, hab, HV⟩ := (HI.out.below hb HI.out.low).at hlt
          have HY := Lib.hid (fun h => highK_yes (vs := vs) (m := m) (k := j) h)
          have HN := Lib.hid (fun h => highK_no (vs := vs) (m := m) (k := j) h)
          have C1 := Lib.hid (CC.out (vs.getD j noBound).x1)
          have hcl := HCL.out (vs.getD j noBound).x1
          subst ha1
          generalize vs.getD j noBound = V at HV HY HN C1 hcl
          obtain ⟨x, y⟩ := V
          obtain ⟨e0, e1⟩ := HV
          dsimp only at e0 e1 HY HN C1 hcl
          generalize cntB vs y = ct at HY HN C1 hcl
          have hk0 : (0 : Int) ≤ (j : Int) := by omega
          have hk1 : (j : Int) < (k : Int) := by omega
          clear hb CC
          go_wp2_with fail
          refine (C1.out _ HB.out).mono ?_
          rintro e w2 ⟨rfl, hb2⟩
          have HB2 := Lib.hid (HB.out.trans (hb2.mono HB.out.size))
          have Q1 := Lib.hid (hbx.out.all hb2)
          have Q0 := Lib.hid (hb0.out.all hb2)
          clear hb2 hbx hb0 e0 e1 C1 HB
          by_cases hct : m ≤ ct
          · have hge : (m : Int) ≤ (ct : Int) := by omega
            have R1 := Lib.hid (HY.out hct)
            have c1 := Q1.out.c1
            by_cases hx : highK vs m j < y
            · have fz := Q1.out.fz 1
              have HN1 : Hid (BoxB (w2.setCell ⟨w.heap.size + 1, 1, none⟩ (.int .i64 y)) (w.heap.size + 1) (lowV vs m k) (highK vs m (j + 1))) := Lib.hid (by rw [R1.out, show max (highK vs m j) y = y by omega]; exact Q1.out.set1 y)
              have HN0 := Lib.hid (Q0.out.other (g' := w.heap.size + 1) (i := 1) (u := .int .i64 y) (by omega))
              have HNB := Lib.hid (HB2.out.setCell (p := ⟨w.heap.size + 1, 1, none⟩) (by show w.heap.size ≤ w.heap.size + 1; omega) (.int .i64 y))
              clear HY HN Q1 Q0 HB2 R1
              generalize highK vs m j = hv at c1 hx
              go_wp2_with fail
              go_roundw
              case rel => exact ⟨j + 1, by omega, by go_num, HN1, HN0, HNB.out⟩
              case measure => simp [intOf]; omega
            · have HN1 : Hid (BoxB w2 (w.heap.size + 1) (lowV vs m k) (highK vs m (j + 1))) := Lib.hid (by rw [R1.out, show max (highK vs m j) y = highK vs m j by omega]; exact Q1.out)
              clear HY HN Q1 R1
              generalize highK vs m j = hv at c1 hx
              go_wp2_with fail
              go_roundw
              case rel => exact ⟨j + 1, by omega, by go_num, HN1, Q0, HB2.out⟩
              case measure => simp [intOf]; omega
          · have hge : ¬ ((m : Int) ≤ (ct : Int)) := by omega
            have HN1 : Hid (BoxB w2 (w.heap.size + 1) (lowV vs m k) (highK vs m (j + 1))) := Lib.hid (by rw [HN.out hct]; exact Q1.out)
            clear HY HN Q1
            go_wp2_with fail
            go_roundw
            case rel => exact ⟨j + 1, by omega, by go_num, HN1, Q0, HB2.out⟩
            case measure => simp [intOf]; omega
        · obtain rfl : j = k := by omega
          obtain ⟨lv, hlv⟩ : ∃ x, lowV vs m j = x := ⟨_, rfl⟩
          obtain ⟨hv, hhv⟩ : ∃ x, highK vs m j = x := ⟨_, rfl⟩
          have HLV := Lib.hid hlv
          have HHV := Lib.hid hhv
          rw [hlv, hhv] at hbx
          clear hlv hhv
          have c0 := hbx.out.c0
          have c1 := hbx.out.c1
          have d0 := hb0.out.c0
          have d1 := hb0.out.c1
          have f0 := hb0.out.fz 0
          have f1 := hb0.out.fz 1
          clear hb CC HS HCL
          go_wp2_with fail
          refine bodyPost_ret (results_rowB rfl _ _ w.heap.size [.int .i64 lv, .int .i64 hv] _ rfl (hb0.out.sets lv hv).rangeAt Try.underlying46 rfl (by kernel_rfl)) rfl ?_
          exact ⟨by rw [HLV.out, HHV.out, HDH.out]; rfl, sets2_below HB.out (Nat.le_refl _) _ _⟩
end Go.Proofs.Yteeljlpbijmhlaa
