/- Texts that are joined: VesAdS. -/
import Derived.Test.YtliebicnejbheabGreatDoorMg13
/- Chapter 3: AddVessel, the model. -/
namespace Go.Proofs.YtliebicnejbheabGreatDoor
open Go.RowKit Go.PlainAid Go.Sort

theorem own_off0V {w : World} {b : Nat} {e e' : TypeId} {s : Nat} {g0 g : Nat} {cs : Array Value} {fr : Nat × Nat} (h : w.ownsRow b e s (.slice (some ⟨g0, 0, none⟩) 0 0) 0 []) (k : w.heap[g]? = some (.cells cs e' fr)) (hne : 0 < cs.size) : (Value.slice (some ⟨g0, 0, none⟩) 0 0).ownBlock ≠ some g := by
  intro hv
  have : g0 = g := by simpa [Value.ownBlock] using hv
  subst this
  rcases h.2 with ⟨e, -⟩ | ⟨g', cap, cur, e, -, hg, -, -, hcs, -⟩
  · cases e
  · injection e with e1 e2 e3
    injection e1 with e1
    injection e1 with e1
    subst e1
    subst e3
    rw [hg] at k
    injection k with k
    injection k with k1 _ _
    rw [← k1, hcs] at hne
    simp at hne
theorem has_at {w : World} {B : Nat} {a : Addr} {xs : List Value} (h : Has w B (some a) xs) : ∀ j u, xs[j]? = some u → w.cell? (a.add j) = some u := by
  intro j u hu
  obtain ⟨a', e, -, hc⟩ := h j u hu
  injection e with e
  subst e
  exact hc

set_option maxRecDepth 100000 in
set_option maxHeartbeats 8000000 in
theorem specAdd_any {w : World} {B : Nat} {a : Addr} {n : Nat} {vs : List Ves} (c : Nat) (h : IsVs w B (some a) n vs) (hm : n ≤ 1048576) (hc : n ≤ c) (i : Int) (s : ByteArray) (l b d q : Int) (hs : s.size ≤ maxLen) (R : List Ves) (x : Bool) (hx : Added vs ⟨i, s, l, b, d, q⟩ R x) :
    Calls Tryz.prog 14 #[.slice (some a) n c, .agg #[.int .i64 i, .string s, .int .i64 l, .int .i64 b, .int .i64 d, .int .i64 q]] w (GivesVs w R x) := by
  obtain ⟨i0, hi, hz0, hz1, hz2⟩ := info_parts Tryz.infoVes'
  have C1 := Lib.hid (fun o => l3Fleet_vs c (h.below ((Below.refl _ w).alloc (Nat.le_refl _) o) h.low) (by unfold maxLen; omega))
  have HI := Lib.hid h
  have HX := Lib.hid hx
  have HNS := Lib.hid (fun p => ins_names (p := p) (v := ⟨i, s, l, b, d, q⟩) h.nm hs)
  cases hg : gF vs with
  | false =>
    rw [hg] at C1
    obtain ⟨rfl, rfl⟩ := hx.bad hg
    clear HX hx hg HI h HNS hs
    go_enter Tryz.func14, Tryz.ntmps14
    go_wp2_with fail
    refine (C1.out _).mono ?_
    rintro e w1 ⟨rfl, hb⟩
    have HR := Lib.hid (givesVs_nil (((Below.refl w.heap.size w).alloc (Nat.le_refl _) (.cells #[.int .i64 i, .string s, .int .i64 l, .int .i64 b, .int .i64 d, .int .i64 q] 25)).trans (hb.mono (by simp))))
    clear hb
    go_wp2_with fail
    refine bodyPost_ret (results_tmp2 rfl _ _ _) rfl ?_
    exact HR.out
  | true =>
    rw [hg] at C1
    have HG := Lib.hid ((gF_iff vs).1 hg)
    have hn8 : n ≤ 8 := by have := ((gF_iff vs).1 hg).1; rw [h.len] at this; exact this
    clear hx h hg hs
    go_enter Tryz.func14, Tryz.ntmps14
    go_wp2_with fail
    refine (C1.out _).mono ?_
    rintro e w1 ⟨rfl, hb⟩
    have BX := Lib.hid (fun W (hW : Below w1.heap.size w1 W) => (⟨(hW.cell (by have := hb.size; simp at this; show w.heap.size < _; omega)).trans ((hb.cell (by simp)).trans (by rw [vNew]; rfl)), (hW.cell (by have := hb.size; simp at this; show w.heap.size < _; omega)).trans ((hb.cell (by simp)).trans (by rw [vNew]; rfl)), (hW.cell (by have := hb.size; simp at this; show w.heap.size < _; omega)).trans ((hb.cell (by simp)).trans (by rw [vNew]; rfl)), (hW.cell (by have := hb.size; simp at this; show w.heap.size < _; omega)).trans ((hb.cell (by simp)).trans (by rw [vNew]; rfl)), (hW.cell (by have := hb.size; simp at this; show w.heap.size < _; omega)).trans ((hb.cell (by simp)).trans (by rw [vNew]; rfl)), (hW.cell (by have := hb.size; simp at this; show w.heap.size < _; omega)).trans ((hb.cell (by simp)).trans (by rw [vNew]; rfl))⟩ :
      W.cell? ⟨w.heap.size, 0, none⟩ = some (.int .i64 i) ∧ W.cell? ⟨w.heap.size, 1, none⟩ = some (.string s) ∧ W.cell? ⟨w.heap.size, 2, none⟩ = some (.int .i64 l) ∧ W.cell? ⟨w.heap.size, 3, none⟩ = some (.int .i64 b) ∧ W.cell? ⟨w.heap.size, 4, none⟩ = some (.int .i64 d) ∧ W.cell? ⟨w.heap.size, 5, none⟩ = some (.int .i64 q)))
    have B1 := Lib.hid (((Below.refl w.heap.size w).alloc (Nat.le_refl _) (.cells #[.int .i64 i, .string s, .int .i64 l, .int .i64 b, .int .i64 d, .int .i64 q] 25)).trans (hb.mono (by simp)))
    clear hb C1
    go_wp2_with fail
    go_loopw [6] (fun t wr => ∃ p : Nat, p ≤ n ∧ t = .int .i64 p ∧ Hid (∀ j, j < p → (vs.getD j noVes).id < i) ∧ Below w1.heap.size w1 wr) (fun t _ => n - (intOf t).toNat)
    case atStart => exact ⟨0, Nat.zero_le _, rfl, Lib.hid (by simp), Below.refl _ _⟩
    case round =>
      obtain ⟨p, hp, rfl, hlo, hbr⟩ := hrel
      have HBR := Lib.hid hbr
      obtain ⟨c0, c1, c2, c3, c4, c5⟩ := BX.out wr hbr
      have hp0 : (0 : Int) ≤ (p : Int) := by omega
      clear hbr
      by_cases hlt : p < n
      · have hpl : p < vs.length := by rw [HI.out.len]; exact hlt
        obtain ⟨a1, ha1, -, HV⟩ := (HI.out.below (B1.out.trans (HBR.out.mono B1.out.size)) HI.out.low).has.ves hpl
        injection ha1 with ha1
        subst ha1
        have e0 := HV.c0
        have HA : Hid ((vs.getD p noVes).id < i → ∀ j, j < p + 1 → (vs.getD j noVes).id < i) := Lib.hid (fun h j hj => by
          rcases Nat.lt_succ_iff_lt_or_eq.1 hj with h1 | h1
          · exact hlo.out j h1
          · exact h1 ▸ h)
        have HZ : Hid (¬ (vs.getD p noVes).id < i → ∀ j, p ≤ j → j < vs.length → i ≤ (vs.getD j noVes).id) := Lib.hid (fun h j h1 h2 => by
          rcases Nat.lt_or_eq_of_le h1 with h3 | h3
          · have := asc_of HG.out p j h3 h2
            omega
          · rw [← h3]; omega)
        clear HV
        generalize (vs.getD p noVes).id = z at e0 HA HZ
        have E0 := fun (d : Nat) (os : Array Obj) => cell_regrown c0 d os
        have E1 := fun (d : Nat) (os : Array Obj) => cell_regrown e0 d os
        have hk1 : (p : Int) < (n : Int) := by omega
        have hk2 : (n : Int) ≤ 8 := by omega
        by_cases hzi : z < i
        · have HR := Lib.hid (HA.out hzi)
          clear HA HZ HX HNS HI HG c0 c1 c2 c3 c4 c5 e0 hlo
          go_wp2_with fail
          refine wp_region_quiet_below (by kernel_rfl) (by kernel_rfl) ?_
          repeat (go_big_quiet_step (fail))
          refine wpQuiet_nil ?_
          intro _ hw'
          obtain ⟨⟨dq, osq⟩, hw''⟩ := hw'
          subst hw''
          have HB2 := Lib.hid (HBR.out.trans ((below_regrown wr dq osq).mono HBR.out.size))
          clear E0 E1
          go_wp2
          go_roundw
          case rel => exact ⟨p + 1, by omega, by go_num, HR, HB2.out⟩
          case measure => simp [intOf]; omega
        · have HHI := Lib.hid (HZ.out hzi)
          clear HA HZ c0 c1 c2 c3 c4 c5 e0
          go_wp2_with fail
          refine wp_region_quiet_below (by kernel_rfl) (by kernel_rfl) ?_
          repeat (go_big_quiet_step (fail))
          refine wpQuiet_nil ?_
          intro _ hw'
          obtain ⟨⟨dq, osq⟩, hw''⟩ := hw'
          subst hw''
          have HB2 := Lib.hid (HBR.out.trans ((below_regrown wr dq osq).mono HBR.out.size))
          obtain ⟨c0, c1, c2, c3, c4, c5⟩ := BX.out _ HB2.out
          obtain ⟨w3, hw3⟩ : ∃ w3, grow (redrawn wr dq) osq = w3 := ⟨_, rfl⟩
          rw [hw3] at HB2 c0 c1 c2 c3 c4 c5
          simp only [hw3]
          clear E0 E1 hw3
          clear BX
          obtain ⟨a23, ha23⟩ : ∃ x, (if c = p then some a else some (a.add (p * 6))) = some x := by
            by_cases e : c = p
            · exact ⟨a, if_pos e⟩
            · exact ⟨_, if_neg e⟩
          have HA23 := Lib.hid ha23
          have B3 := Lib.hid (B1.out.trans (HB2.out.mono B1.out.size))
          have I0 := HI.out.below B3.out HI.out.low
          have hs0 := I0.has.more I0.low
          rw [flatV_split vs p] at hs0
          have hl0 := HI.out.len
          have F1 : Hid ((flatV (vs.take p)).length = p * 6) := Lib.hid (by rw [flatV_len, List.length_take]; omega)
          have F2 : Hid ((flatV (vs.drop p)).length = (n - p) * 6) := Lib.hid (by rw [flatV_len, List.length_drop]; omega)
          have hb0 := hs0.back
          rw [F1.out] at hb0
          have hb23 : Has w3 w3.heap.size (some a23) (flatV (vs.drop p)) := by
            by_cases e : c = p
            · have : vs.drop p = [] := List.drop_eq_nil_of_le (by omega)
              rw [this]
              exact Has.nil _ _ _
            · rw [if_neg e] at ha23
              injection ha23 with ha23
              rw [← ha23]
              exact hb0
          have N1 := Lib.hid (fun W (hW : Below w3.heap.size w3 W) => has_at (hs0.front.below hW))
          have N2 := Lib.hid (fun W (hW : Below w3.heap.size w3 W) => has_at (hb23.below hW))
          have HSO : Hid (Asc vs → (∀ j, j < p → (vs.getD j noVes).id < i) ∧ (∀ j, p ≤ j → j < vs.length → i ≤ (vs.getD j noVes).id)) := Lib.hid (fun _ => ⟨hlo.out, HHI.out⟩)
          have hpl2 : p ≤ vs.length := by omega
          have hn8' : n ≤ 8 := hn8
          have hp1 : (p : Int) ≤ (n : Int) := by omega
          have hp2 : (p : Int) ≤ (c : Int) := by omega
          have hn1 : (n : Int) ≤ (c : Int) := by omega
          clear ha23 I0 hs0 hl0 hb0 hb23 hlo HHI
          go_wp2_with fail
          refine region_inv (by kernel_rfl) (by kernel_rfl) (fun F ac W => ∃ (x28 x29 x30 x31 x32 x33 x34 x35 x36 x37 x38 x39 x7 : Value), ac = { tmps := #[.slice (some a) n c, .agg #[.int .i64 i, .string s, .int .i64 l, .int .i64 b, .int .i64 d, .int .i64 q], undef, .pointer (some ⟨w.heap.size, 0, none⟩), .slice none 0 0, .bool false, .int .i64 (p : Int), x7, .slice (some a) n c, .bool true, .bool false, undef, .int .i64 (p : Int), .slice (some a) n c, .int .i64 (n : Int), .bool true, .bool true, .slice (some a) n c, .int .i64 (p : Int), .pointer (some (a.add (p * 6))), .pointer (some (a.add (p * 6))), .int .i64 z, .pointer (some ⟨w.heap.size, 0, none⟩), .int .i64 i, .bool (decide (z < i)), .bool (decide (z < i)), u26, u27, x28, x29, x30, x31, x32, x33, x34, x35, x36, x37, x38, x39, undef, undef, undef, undef, undef], defers := [] } ∧ Below w3.heap.size w3 W ∧
                (F 0 = true → F 4 = false → ∃ g, x28 = .slice (some ⟨g, 0, none⟩) 0 0 ∧ W.ownsRow w3.heap.size 25 6 x28 (0) ([])) ∧
                (F 1 = true → x29 = .slice (some a) n c) ∧
                (F 2 = true → x30 = .int .i64 (p : Int)) ∧
                (F 3 = true → x31 = .slice (some a) p c) ∧
                (F 4 = true → F 7 = false → ∃ g c9, x32 = .slice (some ⟨g, 0, none⟩) p c9 ∧ W.ownsRow w3.heap.size 25 6 x32 (p) (flatV (vs.take p))) ∧
                (F 5 = true → x33 = .agg #[.int .i64 i, .string s, .int .i64 l, .int .i64 b, .int .i64 d, .int .i64 q]) ∧
                (F 6 = true → F 7 = false → ∃ g, x34 = .slice (some ⟨g, 0, none⟩) 1 1 ∧ W.heap[g]? = some (.cells #[.int .i64 i, .string s, .int .i64 l, .int .i64 b, .int .i64 d, .int .i64 q] 25 (0, 0))) ∧
                (F 7 = true → F 11 = false → ∃ g c9, x35 = .slice (some ⟨g, 0, none⟩) (p + 1) c9 ∧ W.ownsRow w3.heap.size 25 6 x35 (p + 1) (flatV (vs.take p) ++ flatV [(⟨i, s, l, b, d, q⟩ : Ves)])) ∧
                (F 8 = true → x36 = .slice (some a) n c) ∧
                (F 9 = true → x37 = .int .i64 (p : Int)) ∧
                (F 10 = true → x38 = .slice (some a23) (n - p) (c - p)) ∧
                (F 11 = true → ∃ g c9, x39 = .slice (some ⟨g, 0, none⟩) (p + 1 + (n - p)) c9 ∧ W.ownsRow w3.heap.size 25 6 x39 (p + 1 + (n - p)) (flatV (vs.take p) ++ flatV [(⟨i, s, l, b, d, q⟩ : Ves)] ++ flatV (vs.drop p))) ∧
                (F 12 = true → ∃ g c9, x7 = .slice (some ⟨g, 0, none⟩) (p + 1 + (n - p)) c9 ∧ W.ownsRow w3.heap.size 25 6 x7 (p + 1 + (n - p)) (flatV (vs.take p) ++ flatV [(⟨i, s, l, b, d, q⟩ : Ves)] ++ flatV (vs.drop p))) ∧
                (F 7 = true → F 4 = true ∧ F 6 = true) ∧
                (F 11 = true → F 7 = true ∧ F 4 = true ∧ F 6 = true) ∧
                (F 12 = true → F 11 = true ∧ F 7 = true ∧ F 4 = true ∧ F 6 = true)) ?_ ?_ ?_
          · exact ⟨_, _, _, _, _, _, _, _, _, _, _, _, _, rfl, (Drawn.one w3 1).below _, (fun q0 => nomatch q0), (fun q0 => nomatch q0), (fun q0 => nomatch q0), (fun q0 => nomatch q0), (fun q0 => nomatch q0), (fun q0 => nomatch q0), (fun q0 => nomatch q0), (fun q0 => nomatch q0), (fun q0 => nomatch q0), (fun q0 => nomatch q0), (fun q0 => nomatch q0), (fun q0 => nomatch q0), (fun q0 => nomatch q0), (fun q0 => nomatch q0), (fun q0 => nomatch q0), (fun q0 => nomatch q0)⟩
          · intro F ac W i9 o hJ ho hL hdep K' hK
            obtain ⟨x28, x29, x30, x31, x32, x33, x34, x35, x36, x37, x38, x39, x7, rfl, hB, h0, h1, h2, h3, h4, h5, h6, h7, h8, h9, h10, h11, h12, k7, k11, k12⟩ := hJ
            have hi9 : i9 < 13 := by simpa using (Array.getElem?_eq_some_iff.1 ho).1
            have C0 : W.cell? ⟨w.heap.size, 0, none⟩ = some (.int .i64 i) := (hB.cell (World.block_lt_of_cell? w3 _ c0)).trans c0
            have C1 : W.cell? ⟨w.heap.size, 1, none⟩ = some (.string s) := (hB.cell (World.block_lt_of_cell? w3 _ c1)).trans c1
            have C2 : W.cell? ⟨w.heap.size, 2, none⟩ = some (.int .i64 l) := (hB.cell (World.block_lt_of_cell? w3 _ c2)).trans c2
            have C3 : W.cell? ⟨w.heap.size, 3, none⟩ = some (.int .i64 b) := (hB.cell (World.block_lt_of_cell? w3 _ c3)).trans c3
            have C4 : W.cell? ⟨w.heap.size, 4, none⟩ = some (.int .i64 d) := (hB.cell (World.block_lt_of_cell? w3 _ c4)).trans c4
            have C5 : W.cell? ⟨w.heap.size, 5, none⟩ = some (.int .i64 q) := (hB.cell (World.block_lt_of_cell? w3 _ c5)).trans c5
            obtain rfl | rfl | rfl | rfl | rfl | rfl | rfl | rfl | rfl | rfl | rfl | rfl | rfl : i9 = 0 ∨ i9 = 1 ∨ i9 = 2 ∨ i9 = 3 ∨ i9 = 4 ∨ i9 = 5 ∨ i9 = 6 ∨ i9 = 7 ∨ i9 = 8 ∨ i9 = 9 ∨ i9 = 10 ∨ i9 = 11 ∨ i9 = 12 := by omega
            · -- operation 0
              cases ho
              go_simp
              exact hK _ _ ⟨_, _, _, _, _, _, _, _, _, _, _, _, _, rfl, hB.alloc hB.size _, fun _ _ => ⟨_, rfl, World.ownsRow_made W #[] 0 hB.size (by unfold maxLen; omega) rfl⟩, h1, h2, h3, fun q0 r0 => let ⟨g, c9, e, o⟩ := h4 q0 r0; ⟨g, c9, e, o.alloc _⟩, h5, fun q0 r0 => let ⟨g, e, hp⟩ := h6 q0 r0; ⟨g, e, heap_keepVa hp _⟩, fun q0 r0 => let ⟨g, c9, e, o⟩ := h7 q0 r0; ⟨g, c9, e, o.alloc _⟩, h8, h9, h10, fun q0 => let ⟨g, c9, e, o⟩ := h11 q0; ⟨g, c9, e, o.alloc _⟩, fun q0 => let ⟨g, c9, e, o⟩ := h12 q0; ⟨g, c9, e, o.alloc _⟩, fun q0 => ⟨(k7 q0).1, (k7 q0).2⟩, fun q0 => ⟨(k11 q0).1, (k11 q0).2.1, (k11 q0).2.2⟩, fun q0 => ⟨(k12 q0).1, (k12 q0).2.1, (k12 q0).2.2.1, (k12 q0).2.2.2⟩⟩
            · -- operation 1
              cases ho
              go_simp
              exact hK _ _ ⟨_, _, _, _, _, _, _, _, _, _, _, _, _, rfl, hB, h0, fun _ => rfl, h2, h3, h4, h5, h6, h7, h8, h9, h10, h11, h12, fun q0 => ⟨(k7 q0).1, (k7 q0).2⟩, fun q0 => ⟨(k11 q0).1, (k11 q0).2.1, (k11 q0).2.2⟩, fun q0 => ⟨(k12 q0).1, (k12 q0).2.1, (k12 q0).2.2.1, (k12 q0).2.2.2⟩⟩
            · -- operation 2
              cases ho
              go_simp
              exact hK _ _ ⟨_, _, _, _, _, _, _, _, _, _, _, _, _, rfl, hB, h0, h1, fun _ => rfl, h3, h4, h5, h6, h7, h8, h9, h10, h11, h12, fun q0 => ⟨(k7 q0).1, (k7 q0).2⟩, fun q0 => ⟨(k11 q0).1, (k11 q0).2.1, (k11 q0).2.2⟩, fun q0 => ⟨(k12 q0).1, (k12 q0).2.1, (k12 q0).2.2.1, (k12 q0).2.2.2⟩⟩
            · -- operation 3
              cases ho
              obtain rfl := h1 (hdep ⟨1, .data⟩ (by simp) rfl)
              obtain rfl := h2 (hdep ⟨2, .data⟩ (by simp) rfl)
              go_simp
              exact hK _ _ ⟨_, _, _, _, _, _, _, _, _, _, _, _, _, rfl, hB, h0, h1, h2, fun _ => rfl, h4, h5, h6, h7, h8, h9, h10, h11, h12, fun q0 => ⟨(k7 q0).1, (k7 q0).2⟩, fun q0 => ⟨(k11 q0).1, (k11 q0).2.1, (k11 q0).2.2⟩, fun q0 => ⟨(k12 q0).1, (k12 q0).2.1, (k12 q0).2.2.1, (k12 q0).2.2.2⟩⟩
            · -- operation 4
              cases ho
              have hd0 := hdep ⟨0, .data⟩ (by simp) rfl
              obtain ⟨g, rfl, oe⟩ := h0 hd0 hL
              obtain rfl := h3 (hdep ⟨3, .data⟩ (by simp) rfl)
              refine step_append rfl (.tmp 28) (.tmp 31) 33 rfl w3.heap.size 25 i0 (.agg #[.int .i64 0, .string ByteArray.empty, .int .i64 0, .int .i64 0, .int .i64 0, .int .i64 0]) 6 56 Tryz.underlying33 hi hz0 hz1 hz2 rfl (by decide) (.slice (some ⟨g, 0, none⟩) 0 0) 0 [] rfl oe a p c (flatV (vs.take p)) rfl F1.out (N1.out W hB) (flatV_one _) (by unfold maxLen; omega) (by omega) hB.size (by simp) ?_
              intro g1 cap w9 hown hgr
              rw [Nat.zero_add, List.nil_append] at hown
              rw [Nat.zero_add]
              exact hK _ _ ⟨_, _, _, _, _, _, _, _, _, _, _, _, _, rfl, hB.grown hgr hB.size (fun q e => (oe.lt q e).1), (fun _ q0 => nomatch q0), h1, h2, fun _ => rfl, fun _ _ => ⟨_, _, rfl, hown⟩, h5, fun q0 r0 => let ⟨g, e, hp⟩ := h6 q0 r0; ⟨g, e, (hgr.block g (Array.getElem?_eq_some_iff.1 hp).1 (Ne.symm (own_off0V oe hp (by simp)))).trans hp⟩, (fun q0 _ => by have z := (k7 q0).1; rw [hL] at z; exact nomatch z), h8, h9, h10, (fun q0 => by have z := (k11 q0).2.1; rw [hL] at z; exact nomatch z), (fun q0 => by have z := (k12 q0).2.2.1; rw [hL] at z; exact nomatch z), fun q0 => ⟨rfl, (k7 q0).2⟩, fun q0 => ⟨(k11 q0).1, rfl, (k11 q0).2.2⟩, fun q0 => ⟨(k12 q0).1, (k12 q0).2.1, rfl, (k12 q0).2.2.2⟩⟩
            · -- operation 5
              cases ho
              go_simp
              exact hK _ _ ⟨_, _, _, _, _, _, _, _, _, _, _, _, _, rfl, hB, h0, h1, h2, h3, h4, fun _ => rfl, h6, h7, h8, h9, h10, h11, h12, fun q0 => ⟨(k7 q0).1, (k7 q0).2⟩, fun q0 => ⟨(k11 q0).1, (k11 q0).2.1, (k11 q0).2.2⟩, fun q0 => ⟨(k12 q0).1, (k12 q0).2.1, (k12 q0).2.2.1, (k12 q0).2.2.2⟩⟩
            · -- operation 6
              cases ho
              obtain rfl := h5 (hdep ⟨5, .data⟩ (by simp) rfl)
              go_simp
              exact hK _ _ ⟨_, _, _, _, _, _, _, _, _, _, _, _, _, rfl, hB.alloc hB.size _, fun q0 r0 => let ⟨g, e, o⟩ := h0 q0 r0; ⟨g, e, o.alloc _⟩, h1, h2, h3, fun q0 r0 => let ⟨g, c9, e, o⟩ := h4 q0 r0; ⟨g, c9, e, o.alloc _⟩, h5, fun _ _ => ⟨_, rfl, heap_alloc_new W _⟩, fun q0 r0 => let ⟨g, c9, e, o⟩ := h7 q0 r0; ⟨g, c9, e, o.alloc _⟩, h8, h9, h10, fun q0 => let ⟨g, c9, e, o⟩ := h11 q0; ⟨g, c9, e, o.alloc _⟩, fun q0 => let ⟨g, c9, e, o⟩ := h12 q0; ⟨g, c9, e, o.alloc _⟩, fun q0 => ⟨(k7 q0).1, rfl⟩, fun q0 => ⟨(k11 q0).1, (k11 q0).2.1, rfl⟩, fun q0 => ⟨(k12 q0).1, (k12 q0).2.1, (k12 q0).2.2.1, rfl⟩⟩
            · -- operation 7
              cases ho
              have hd4 := hdep ⟨4, .data⟩ (by simp) rfl
              have hd6 := hdep ⟨6, .data⟩ (by simp) rfl
              obtain ⟨g, cE, rfl, oe⟩ := h4 hd4 hL
              obtain ⟨gs, rfl, hps⟩ := h6 hd6 hL
              refine step_append rfl (.tmp 32) (.tmp 34) 33 rfl w3.heap.size 25 i0 (.agg #[.int .i64 0, .string ByteArray.empty, .int .i64 0, .int .i64 0, .int .i64 0, .int .i64 0]) 6 56 Tryz.underlying33 hi hz0 hz1 hz2 rfl (by decide) (.slice (some ⟨g, 0, none⟩) p cE) p (flatV (vs.take p)) rfl oe ⟨gs, 0, none⟩ 1 1 (flatV [(⟨i, s, l, b, d, q⟩ : Ves)]) rfl rfl (has_at (has_row (xs := flatV [(⟨i, s, l, b, d, q⟩ : Ves)]) hps)) (flatV_one _) (by unfold maxLen; omega) (by omega) hB.size (by simp) ?_
              intro g1 cap w9 hown hgr
              exact hK _ _ ⟨_, _, _, _, _, _, _, _, _, _, _, _, _, rfl, hB.grown hgr hB.size (fun q e => (oe.lt q e).1), (fun _ r0 => nomatch (hd4.symm.trans r0)), h1, h2, h3, (fun _ q0 => nomatch q0), h5, (fun _ q0 => nomatch q0), fun _ _ => ⟨_, _, rfl, hown⟩, h8, h9, h10, (fun q0 => by have z := (k11 q0).1; rw [hL] at z; exact nomatch z), (fun q0 => by have z := (k12 q0).2.1; rw [hL] at z; exact nomatch z), fun _ => ⟨hd4, hd6⟩, fun q0 => ⟨rfl, (k11 q0).2.1, (k11 q0).2.2⟩, fun q0 => ⟨(k12 q0).1, rfl, (k12 q0).2.2.1, (k12 q0).2.2.2⟩⟩
            · -- operation 8
              cases ho
              go_simp
              exact hK _ _ ⟨_, _, _, _, _, _, _, _, _, _, _, _, _, rfl, hB, h0, h1, h2, h3, h4, h5, h6, h7, fun _ => rfl, h9, h10, h11, h12, fun q0 => ⟨(k7 q0).1, (k7 q0).2⟩, fun q0 => ⟨(k11 q0).1, (k11 q0).2.1, (k11 q0).2.2⟩, fun q0 => ⟨(k12 q0).1, (k12 q0).2.1, (k12 q0).2.2.1, (k12 q0).2.2.2⟩⟩
            · -- operation 9
              cases ho
              go_simp
              exact hK _ _ ⟨_, _, _, _, _, _, _, _, _, _, _, _, _, rfl, hB, h0, h1, h2, h3, h4, h5, h6, h7, h8, fun _ => rfl, h10, h11, h12, fun q0 => ⟨(k7 q0).1, (k7 q0).2⟩, fun q0 => ⟨(k11 q0).1, (k11 q0).2.1, (k11 q0).2.2⟩, fun q0 => ⟨(k12 q0).1, (k12 q0).2.1, (k12 q0).2.2.1, (k12 q0).2.2.2⟩⟩
            · -- operation 10
              cases ho
              obtain rfl := h8 (hdep ⟨8, .data⟩ (by simp) rfl)
              obtain rfl := h9 (hdep ⟨9, .data⟩ (by simp) rfl)
              go_simp
              exact hK _ _ ⟨_, _, _, _, _, _, _, _, _, _, _, _, _, rfl, hB, h0, h1, h2, h3, h4, h5, h6, h7, h8, h9, fun _ => (by rw [HA23.out]), h11, h12, fun q0 => ⟨(k7 q0).1, (k7 q0).2⟩, fun q0 => ⟨(k11 q0).1, (k11 q0).2.1, (k11 q0).2.2⟩, fun q0 => ⟨(k12 q0).1, (k12 q0).2.1, (k12 q0).2.2.1, (k12 q0).2.2.2⟩⟩
            · -- operation 11
              cases ho
              have hd7 := hdep ⟨7, .data⟩ (by simp) rfl
              have hd4 := (k7 hd7).1
              have hd6 := (k7 hd7).2
              obtain ⟨g, cE, rfl, oe⟩ := h7 hd7 hL
              obtain rfl := h10 (hdep ⟨10, .data⟩ (by simp) rfl)
              refine step_append rfl (.tmp 35) (.tmp 38) 33 rfl w3.heap.size 25 i0 (.agg #[.int .i64 0, .string ByteArray.empty, .int .i64 0, .int .i64 0, .int .i64 0, .int .i64 0]) 6 56 Tryz.underlying33 hi hz0 hz1 hz2 rfl (by decide) (.slice (some ⟨g, 0, none⟩) (p + 1) cE) (p + 1) (flatV (vs.take p) ++ flatV [(⟨i, s, l, b, d, q⟩ : Ves)]) rfl oe a23 (n - p) (c - p) (flatV (vs.drop p)) rfl F2.out (N2.out W hB) (flatV_one _) (by unfold maxLen; omega) (by omega) hB.size (by simp) ?_
              intro g1 cap w9 hown hgr
              exact hK _ _ ⟨_, _, _, _, _, _, _, _, _, _, _, _, _, rfl, hB.grown hgr hB.size (fun q e => (oe.lt q e).1), (fun _ r0 => nomatch (hd4.symm.trans r0)), h1, h2, h3, (fun _ r0 => nomatch (hd7.symm.trans r0)), h5, (fun _ r0 => nomatch (hd7.symm.trans r0)), (fun _ q0 => nomatch q0), h8, h9, fun _ => rfl, fun _ => ⟨_, _, rfl, hown⟩, (fun q0 => by have z := (k12 q0).1; rw [hL] at z; exact nomatch z), fun q0 => ⟨(k7 q0).1, (k7 q0).2⟩, fun _ => ⟨hd7, hd4, hd6⟩, fun q0 => ⟨rfl, (k12 q0).2.1, (k12 q0).2.2.1, (k12 q0).2.2.2⟩⟩
            · -- operation 12
              cases ho
              have hd11 := hdep ⟨11, .data⟩ (by simp) rfl
              obtain ⟨g, c9, rfl, o⟩ := h11 hd11
              go_simp
              exact hK _ _ ⟨_, _, _, _, _, _, _, _, _, _, _, _, _, rfl, hB, h0, h1, h2, h3, h4, h5, h6, h7, h8, h9, h10, fun _ => ⟨_, _, rfl, o⟩, fun _ => ⟨_, _, rfl, o⟩, fun q0 => ⟨(k7 q0).1, (k7 q0).2⟩, fun q0 => ⟨(k11 q0).1, (k11 q0).2.1, (k11 q0).2.2⟩, fun _ => ⟨hd11, (k11 hd11).1, (k11 hd11).2.1, (k11 hd11).2.2⟩⟩
          intro F ac W hJ hall
          obtain ⟨x28, x29, x30, x31, x32, x33, x34, x35, x36, x37, x38, x39, x7, rfl, hB, h0, h1, h2, h3, h4, h5, h6, h7, h8, h9, h10, h11, h12, -, -, -⟩ := hJ
          obtain ⟨gA, c9, rfl, hown⟩ := h12 (hall 12 (by decide))
          have B4 := Lib.hid (B3.out.trans (hB.mono B3.out.size))
          obtain ⟨m, hm1⟩ : ∃ m, p + 1 + (n - p) = m := ⟨_, rfl⟩
          have hmn : m = n + 1 := by omega
          rw [hm1, List.append_assoc, ins_flat] at hown
          rw [hm1]
          clear hm1
          subst hmn
          have hcc : n + 1 ≤ c9 := by
            rcases hown.2 with ⟨e, -⟩ | ⟨g, cap, cur, e, -, -, h1, -⟩
            · cases e
            · injection e with e1 e2 e3; omega
          have hgA := (hown.lt gA rfl).1
          have HO := Lib.hid (own_low hown B3.out.size)
          have hgw : w.heap.size ≤ gA := Nat.le_trans B3.out.size hgA
          have I3 := Lib.hid (own_vs HO.out (HNS.out p))
          clear hB hown h0 h1 h2 h3 h4 h5 h6 h7 h8 h9 h10 h11 h12 hall c0 c1 c2 c3 c4 c5 N1 N2 F1 F2 HA23 HBR HG
          go_wp2_with fail
          refine (l3Fleet_vs c9 I3.out (by unfold maxLen; omega)).mono ?_
          rintro e w5 ⟨rfl, hb⟩
          have B5 := Lib.hid (B4.out.trans (hb.mono B4.out.size))
          have HO5 := Lib.hid (HO.out.kept (grownBelow hb none) (.inr (by simp [Value.ownBlock])))
          clear hb
          cases hg : gF (ins vs p ⟨i, s, l, b, d, q⟩) with
          | false =>
            obtain ⟨rfl, rfl⟩ := HX.out.at hpl2 HSO.out hg
            have HR := Lib.hid (givesVs_nil B5.out)
            clear HX HI HSO HNS I3 HO HO5 hg
            go_wp2_with fail
            refine bodyPost_ret (results_tmp2 rfl _ _ _) rfl ?_
            exact HR.out
          | true =>
            obtain ⟨hR, rfl⟩ := HX.out.yes p hpl2 hg
            have HRn : Hid (R.length = n + 1) := Lib.hid (by rw [hR, ins_len hpl2, HI.out.len])
            have HR : Hid (GivesVs w R true (.returned (.tuple #[.slice (some ⟨gA, 0, none⟩) (n + 1) c9, .bool true])) w5) := Lib.hid (by
              rw [← HRn.out]
              refine ⟨gA, c9, rfl, hgw, ?_, B5.out⟩
              rw [HRn.out, hR]
              exact HO5.out)
            clear HX HI HSO HNS I3 HO HO5 hg hR
            go_wp2_with fail
            refine bodyPost_ret (results_tmp2 rfl _ _ _) rfl ?_
            exact HR.out
      · have hk1 : ¬ (p : Int) < (n : Int) := by omega
        have HHI : Hid (∀ j, p ≤ j → j < vs.length → i ≤ (vs.getD j noVes).id) := Lib.hid (fun j h1 h2 => absurd h2 (by rw [HI.out.len]; omega))
        have E0 := fun (d : Nat) (os : Array Obj) => cell_regrown c0 d os
        clear c0 c1 c2 c3 c4 c5
        go_wp2_with fail
        refine wp_region_quiet_below (by kernel_rfl) (by kernel_rfl) ?_
        repeat (go_big_quiet_step (fail))
        refine wpQuiet_nil ?_
        intro _ hw'
        obtain ⟨⟨dq, osq⟩, hw''⟩ := hw'
        subst hw''
        have HB2 := Lib.hid (HBR.out.trans ((below_regrown wr dq osq).mono HBR.out.size))
        obtain ⟨c0, c1, c2, c3, c4, c5⟩ := BX.out _ HB2.out
        obtain ⟨w3, hw3⟩ : ∃ w3, grow (redrawn wr dq) osq = w3 := ⟨_, rfl⟩
        rw [hw3] at HB2 c0 c1 c2 c3 c4 c5
        simp only [hw3]
        clear E0 hw3
        clear BX
        obtain ⟨a23, ha23⟩ : ∃ x, (if c = p then some a else some (a.add (p * 6))) = some x := by
          by_cases e : c = p
          · exact ⟨a, if_pos e⟩
          · exact ⟨_, if_neg e⟩
        have HA23 := Lib.hid ha23
        have B3 := Lib.hid (B1.out.trans (HB2.out.mono B1.out.size))
        have I0 := HI.out.below B3.out HI.out.low
        have hs0 := I0.has.more I0.low
        rw [flatV_split vs p] at hs0
        have hl0 := HI.out.len
        have F1 : Hid ((flatV (vs.take p)).length = p * 6) := Lib.hid (by rw [flatV_len, List.length_take]; omega)
        have F2 : Hid ((flatV (vs.drop p)).length = (n - p) * 6) := Lib.hid (by rw [flatV_len, List.length_drop]; omega)
        have hb0 := hs0.back
        rw [F1.out] at hb0
        have hb23 : Has w3 w3.heap.size (some a23) (flatV (vs.drop p)) := by
          by_cases e : c = p
          · have : vs.drop p = [] := List.drop_eq_nil_of_le (by omega)
            rw [this]
            exact Has.nil _ _ _
          · rw [if_neg e] at ha23
            injection ha23 with ha23
            rw [← ha23]
            exact hb0
        have N1 := Lib.hid (fun W (hW : Below w3.heap.size w3 W) => has_at (hs0.front.below hW))
        have N2 := Lib.hid (fun W (hW : Below w3.heap.size w3 W) => has_at (hb23.below hW))
        have HSO : Hid (Asc vs → (∀ j, j < p → (vs.getD j noVes).id < i) ∧ (∀ j, p ≤ j → j < vs.length → i ≤ (vs.getD j noVes).id)) := Lib.hid (fun _ => ⟨hlo.out, HHI.out⟩)
        have hpl2 : p ≤ vs.length := by omega
        have hn8' : n ≤ 8 := hn8
        have hp1 : (p : Int) ≤ (n : Int) := by omega
        have hp2 : (p : Int) ≤ (c : Int) := by omega
        have hn1 : (n : Int) ≤ (c : Int) := by omega
        clear ha23 I0 hs0 hl0 hb0 hb23 hlo HHI
        go_wp2_with fail
        refine region_inv (by kernel_rfl) (by kernel_rfl) (fun F ac W => ∃ (x28 x29 x30 x31 x32 x33 x34 x35 x36 x37 x38 x39 x7 : Value), ac = { tmps := #[.slice (some a) n c, .agg #[.int .i64 i, .string s, .int .i64 l, .int .i64 b, .int .i64 d, .int .i64 q], undef, .pointer (some ⟨w.heap.size, 0, none⟩), .slice none 0 0, .bool false, .int .i64 (p : Int), x7, .slice (some a) n c, .bool true, .bool false, undef, .int .i64 (p : Int), .slice (some a) n c, .int .i64 (n : Int), .bool false, .bool false, undef, undef, undef, undef, undef, undef, undef, undef, .bool false, u26, u27, x28, x29, x30, x31, x32, x33, x34, x35, x36, x37, x38, x39, undef, undef, undef, undef, undef], defers := [] } ∧ Below w3.heap.size w3 W ∧
              (F 0 = true → F 4 = false → ∃ g, x28 = .slice (some ⟨g, 0, none⟩) 0 0 ∧ W.ownsRow w3.heap.size 25 6 x28 (0) ([])) ∧
              (F 1 = true → x29 = .slice (some a) n c) ∧
              (F 2 = true → x30 = .int .i64 (p : Int)) ∧
              (F 3 = true → x31 = .slice (some a) p c) ∧
              (F 4 = true → F 7 = false → ∃ g c9, x32 = .slice (some ⟨g, 0, none⟩) p c9 ∧ W.ownsRow w3.heap.size 25 6 x32 (p) (flatV (vs.take p))) ∧
              (F 5 = true → x33 = .agg #[.int .i64 i, .string s, .int .i64 l, .int .i64 b, .int .i64 d, .int .i64 q]) ∧
              (F 6 = true → F 7 = false → ∃ g, x34 = .slice (some ⟨g, 0, none⟩) 1 1 ∧ W.heap[g]? = some (.cells #[.int .i64 i, .string s, .int .i64 l, .int .i64 b, .int .i64 d, .int .i64 q] 25 (0, 0))) ∧
              (F 7 = true → F 11 = false → ∃ g c9, x35 = .slice (some ⟨g, 0, none⟩) (p + 1) c9 ∧ W.ownsRow w3.heap.size 25 6 x35 (p + 1) (flatV (vs.take p) ++ flatV [(⟨i, s, l, b, d, q⟩ : Ves)])) ∧
              (F 8 = true → x36 = .slice (some a) n c) ∧
              (F 9 = true → x37 = .int .i64 (p : Int)) ∧
              (F 10 = true → x38 = .slice (some a23) (n - p) (c - p)) ∧
              (F 11 = true → ∃ g c9, x39 = .slice (some ⟨g, 0, none⟩) (p + 1 + (n - p)) c9 ∧ W.ownsRow w3.heap.size 25 6 x39 (p + 1 + (n - p)) (flatV (vs.take p) ++ flatV [(⟨i, s, l, b, d, q⟩ : Ves)] ++ flatV (vs.drop p))) ∧
              (F 12 = true → ∃ g c9, x7 = .slice (some ⟨g, 0, none⟩) (p + 1 + (n - p)) c9 ∧ W.ownsRow w3.heap.size 25 6 x7 (p + 1 + (n - p)) (flatV (vs.take p) ++ flatV [(⟨i, s, l, b, d, q⟩ : Ves)] ++ flatV (vs.drop p))) ∧
              (F 7 = true → F 4 = true ∧ F 6 = true) ∧
              (F 11 = true → F 7 = true ∧ F 4 = true ∧ F 6 = true) ∧
              (F 12 = true → F 11 = true ∧ F 7 = true ∧ F 4 = true ∧ F 6 = true)) ?_ ?_ ?_
        · exact ⟨_, _, _, _, _, _, _, _, _, _, _, _, _, rfl, (Drawn.one w3 1).below _, (fun q0 => nomatch q0), (fun q0 => nomatch q0), (fun q0 => nomatch q0), (fun q0 => nomatch q0), (fun q0 => nomatch q0), (fun q0 => nomatch q0), (fun q0 => nomatch q0), (fun q0 => nomatch q0), (fun q0 => nomatch q0), (fun q0 => nomatch q0), (fun q0 => nomatch q0), (fun q0 => nomatch q0), (fun q0 => nomatch q0), (fun q0 => nomatch q0), (fun q0 => nomatch q0), (fun q0 => nomatch q0)⟩
        · intro F ac W i9 o hJ ho hL hdep K' hK
          obtain ⟨x28, x29, x30, x31, x32, x33, x34, x35, x36, x37, x38, x39, x7, rfl, hB, h0, h1, h2, h3, h4, h5, h6, h7, h8, h9, h10, h11, h12, k7, k11, k12⟩ := hJ
          have hi9 : i9 < 13 := by simpa using (Array.getElem?_eq_some_iff.1 ho).1
          have C0 : W.cell? ⟨w.heap.size, 0, none⟩ = some (.int .i64 i) := (hB.cell (World.block_lt_of_cell? w3 _ c0)).trans c0
          have C1 : W.cell? ⟨w.heap.size, 1, none⟩ = some (.string s) := (hB.cell (World.block_lt_of_cell? w3 _ c1)).trans c1
          have C2 : W.cell? ⟨w.heap.size, 2, none⟩ = some (.int .i64 l) := (hB.cell (World.block_lt_of_cell? w3 _ c2)).trans c2
          have C3 : W.cell? ⟨w.heap.size, 3, none⟩ = some (.int .i64 b) := (hB.cell (World.block_lt_of_cell? w3 _ c3)).trans c3
          have C4 : W.cell? ⟨w.heap.size, 4, none⟩ = some (.int .i64 d) := (hB.cell (World.block_lt_of_cell? w3 _ c4)).trans c4
          have C5 : W.cell? ⟨w.heap.size, 5, none⟩ = some (.int .i64 q) := (hB.cell (World.block_lt_of_cell? w3 _ c5)).trans c5
          obtain rfl | rfl | rfl | rfl | rfl | rfl | rfl | rfl | rfl | rfl | rfl | rfl | rfl : i9 = 0 ∨ i9 = 1 ∨ i9 = 2 ∨ i9 = 3 ∨ i9 = 4 ∨ i9 = 5 ∨ i9 = 6 ∨ i9 = 7 ∨ i9 = 8 ∨ i9 = 9 ∨ i9 = 10 ∨ i9 = 11 ∨ i9 = 12 := by omega
          · -- operation 0
            cases ho
            go_simp
            exact hK _ _ ⟨_, _, _, _, _, _, _, _, _, _, _, _, _, rfl, hB.alloc hB.size _, fun _ _ => ⟨_, rfl, World.ownsRow_made W #[] 0 hB.size (by unfold maxLen; omega) rfl⟩, h1, h2, h3, fun q0 r0 => let ⟨g, c9, e, o⟩ := h4 q0 r0; ⟨g, c9, e, o.alloc _⟩, h5, fun q0 r0 => let ⟨g, e, hp⟩ := h6 q0 r0; ⟨g, e, heap_keepVa hp _⟩, fun q0 r0 => let ⟨g, c9, e, o⟩ := h7 q0 r0; ⟨g, c9, e, o.alloc _⟩, h8, h9, h10, fun q0 => let ⟨g, c9, e, o⟩ := h11 q0; ⟨g, c9, e, o.alloc _⟩, fun q0 => let ⟨g, c9, e, o⟩ := h12 q0; ⟨g, c9, e, o.alloc _⟩, fun q0 => ⟨(k7 q0).1, (k7 q0).2⟩, fun q0 => ⟨(k11 q0).1, (k11 q0).2.1, (k11 q0).2.2⟩, fun q0 => ⟨(k12 q0).1, (k12 q0).2.1, (k12 q0).2.2.1, (k12 q0).2.2.2⟩⟩
          · -- operation 1
            cases ho
            go_simp
            exact hK _ _ ⟨_, _, _, _, _, _, _, _, _, _, _, _, _, rfl, hB, h0, fun _ => rfl, h2, h3, h4, h5, h6, h7, h8, h9, h10, h11, h12, fun q0 => ⟨(k7 q0).1, (k7 q0).2⟩, fun q0 => ⟨(k11 q0).1, (k11 q0).2.1, (k11 q0).2.2⟩, fun q0 => ⟨(k12 q0).1, (k12 q0).2.1, (k12 q0).2.2.1, (k12 q0).2.2.2⟩⟩
          · -- operation 2
            cases ho
            go_simp
            exact hK _ _ ⟨_, _, _, _, _, _, _, _, _, _, _, _, _, rfl, hB, h0, h1, fun _ => rfl, h3, h4, h5, h6, h7, h8, h9, h10, h11, h12, fun q0 => ⟨(k7 q0).1, (k7 q0).2⟩, fun q0 => ⟨(k11 q0).1, (k11 q0).2.1, (k11 q0).2.2⟩, fun q0 => ⟨(k12 q0).1, (k12 q0).2.1, (k12 q0).2.2.1, (k12 q0).2.2.2⟩⟩
          · -- operation 3
            cases ho
            obtain rfl := h1 (hdep ⟨1, .data⟩ (by simp) rfl)
            obtain rfl := h2 (hdep ⟨2, .data⟩ (by simp) rfl)
            go_simp
            exact hK _ _ ⟨_, _, _, _, _, _, _, _, _, _, _, _, _, rfl, hB, h0, h1, h2, fun _ => rfl, h4, h5, h6, h7, h8, h9, h10, h11, h12, fun q0 => ⟨(k7 q0).1, (k7 q0).2⟩, fun q0 => ⟨(k11 q0).1, (k11 q0).2.1, (k11 q0).2.2⟩, fun q0 => ⟨(k12 q0).1, (k12 q0).2.1, (k12 q0).2.2.1, (k12 q0).2.2.2⟩⟩
          · -- operation 4
            cases ho
            have hd0 := hdep ⟨0, .data⟩ (by simp) rfl
            obtain ⟨g, rfl, oe⟩ := h0 hd0 hL
            obtain rfl := h3 (hdep ⟨3, .data⟩ (by simp) rfl)
            refine step_append rfl (.tmp 28) (.tmp 31) 33 rfl w3.heap.size 25 i0 (.agg #[.int .i64 0, .string ByteArray.empty, .int .i64 0, .int .i64 0, .int .i64 0, .int .i64 0]) 6 56 Tryz.underlying33 hi hz0 hz1 hz2 rfl (by decide) (.slice (some ⟨g, 0, none⟩) 0 0) 0 [] rfl oe a p c (flatV (vs.take p)) rfl F1.out (N1.out W hB) (flatV_one _) (by unfold maxLen; omega) (by omega) hB.size (by simp) ?_
            intro g1 cap w9 hown hgr
            rw [Nat.zero_add, List.nil_append] at hown
            rw [Nat.zero_add]
            exact hK _ _ ⟨_, _, _, _, _, _, _, _, _, _, _, _, _, rfl, hB.grown hgr hB.size (fun q e => (oe.lt q e).1), (fun _ q0 => nomatch q0), h1, h2, fun _ => rfl, fun _ _ => ⟨_, _, rfl, hown⟩, h5, fun q0 r0 => let ⟨g, e, hp⟩ := h6 q0 r0; ⟨g, e, (hgr.block g (Array.getElem?_eq_some_iff.1 hp).1 (Ne.symm (own_off0V oe hp (by simp)))).trans hp⟩, (fun q0 _ => by have z := (k7 q0).1; rw [hL] at z; exact nomatch z), h8, h9, h10, (fun q0 => by have z := (k11 q0).2.1; rw [hL] at z; exact nomatch z), (fun q0 => by have z := (k12 q0).2.2.1; rw [hL] at z; exact nomatch z), fun q0 => ⟨rfl, (k7 q0).2⟩, fun q0 => ⟨(k11 q0).1, rfl, (k11 q0).2.2⟩, fun q0 => ⟨(k12 q0).1, (k12 q0).2.1, rfl, (k12 q0).2.2.2⟩⟩
          · -- operation 5
            cases ho
            go_simp
            exact hK _ _ ⟨_, _, _, _, _, _, _, _, _, _, _, _, _, rfl, hB, h0, h1, h2, h3, h4, fun _ => rfl, h6, h7, h8, h9, h10, h11, h12, fun q0 => ⟨(k7 q0).1, (k7 q0).2⟩, fun q0 => ⟨(k11 q0).1, (k11 q0).2.1, (k11 q0).2.2⟩, fun q0 => ⟨(k12 q0).1, (k12 q0).2.1, (k12 q0).2.2.1, (k12 q0).2.2.2⟩⟩
          · -- operation 6
            cases ho
            obtain rfl := h5 (hdep ⟨5, .data⟩ (by simp) rfl)
            go_simp
            exact hK _ _ ⟨_, _, _, _, _, _, _, _, _, _, _, _, _, rfl, hB.alloc hB.size _, fun q0 r0 => let ⟨g, e, o⟩ := h0 q0 r0; ⟨g, e, o.alloc _⟩, h1, h2, h3, fun q0 r0 => let ⟨g, c9, e, o⟩ := h4 q0 r0; ⟨g, c9, e, o.alloc _⟩, h5, fun _ _ => ⟨_, rfl, heap_alloc_new W _⟩, fun q0 r0 => let ⟨g, c9, e, o⟩ := h7 q0 r0; ⟨g, c9, e, o.alloc _⟩, h8, h9, h10, fun q0 => let ⟨g, c9, e, o⟩ := h11 q0; ⟨g, c9, e, o.alloc _⟩, fun q0 => let ⟨g, c9, e, o⟩ := h12 q0; ⟨g, c9, e, o.alloc _⟩, fun q0 => ⟨(k7 q0).1, rfl⟩, fun q0 => ⟨(k11 q0).1, (k11 q0).2.1, rfl⟩, fun q0 => ⟨(k12 q0).1, (k12 q0).2.1, (k12 q0).2.2.1, rfl⟩⟩
          · -- operation 7
            cases ho
            have hd4 := hdep ⟨4, .data⟩ (by simp) rfl
            have hd6 := hdep ⟨6, .data⟩ (by simp) rfl
            obtain ⟨g, cE, rfl, oe⟩ := h4 hd4 hL
            obtain ⟨gs, rfl, hps⟩ := h6 hd6 hL
            refine step_append rfl (.tmp 32) (.tmp 34) 33 rfl w3.heap.size 25 i0 (.agg #[.int .i64 0, .string ByteArray.empty, .int .i64 0, .int .i64 0, .int .i64 0, .int .i64 0]) 6 56 Tryz.underlying33 hi hz0 hz1 hz2 rfl (by decide) (.slice (some ⟨g, 0, none⟩) p cE) p (flatV (vs.take p)) rfl oe ⟨gs, 0, none⟩ 1 1 (flatV [(⟨i, s, l, b, d, q⟩ : Ves)]) rfl rfl (has_at (has_row (xs := flatV [(⟨i, s, l, b, d, q⟩ : Ves)]) hps)) (flatV_one _) (by unfold maxLen; omega) (by omega) hB.size (by simp) ?_
            intro g1 cap w9 hown hgr
            exact hK _ _ ⟨_, _, _, _, _, _, _, _, _, _, _, _, _, rfl, hB.grown hgr hB.size (fun q e => (oe.lt q e).1), (fun _ r0 => nomatch (hd4.symm.trans r0)), h1, h2, h3, (fun _ q0 => nomatch q0), h5, (fun _ q0 => nomatch q0), fun _ _ => ⟨_, _, rfl, hown⟩, h8, h9, h10, (fun q0 => by have z := (k11 q0).1; rw [hL] at z; exact nomatch z), (fun q0 => by have z := (k12 q0).2.1; rw [hL] at z; exact nomatch z), fun _ => ⟨hd4, hd6⟩, fun q0 => ⟨rfl, (k11 q0).2.1, (k11 q0).2.2⟩, fun q0 => ⟨(k12 q0).1, rfl, (k12 q0).2.2.1, (k12 q0).2.2.2⟩⟩
          · -- operation 8
            cases ho
            go_simp
            exact hK _ _ ⟨_, _, _, _, _, _, _, _, _, _, _, _, _, rfl, hB, h0, h1, h2, h3, h4, h5, h6, h7, fun _ => rfl, h9, h10, h11, h12, fun q0 => ⟨(k7 q0).1, (k7 q0).2⟩, fun q0 => ⟨(k11 q0).1, (k11 q0).2.1, (k11 q0).2.2⟩, fun q0 => ⟨(k12 q0).1, (k12 q0).2.1, (k12 q0).2.2.1, (k12 q0).2.2.2⟩⟩
          · -- operation 9
            cases ho
            go_simp
            exact hK _ _ ⟨_, _, _, _, _, _, _, _, _, _, _, _, _, rfl, hB, h0, h1, h2, h3, h4, h5, h6, h7, h8, fun _ => rfl, h10, h11, h12, fun q0 => ⟨(k7 q0).1, (k7 q0).2⟩, fun q0 => ⟨(k11 q0).1, (k11 q0).2.1, (k11 q0).2.2⟩, fun q0 => ⟨(k12 q0).1, (k12 q0).2.1, (k12 q0).2.2.1, (k12 q0).2.2.2⟩⟩
          · -- operation 10
            cases ho
            obtain rfl := h8 (hdep ⟨8, .data⟩ (by simp) rfl)
            obtain rfl := h9 (hdep ⟨9, .data⟩ (by simp) rfl)
            go_simp
            exact hK _ _ ⟨_, _, _, _, _, _, _, _, _, _, _, _, _, rfl, hB, h0, h1, h2, h3, h4, h5, h6, h7, h8, h9, fun _ => (by rw [HA23.out]), h11, h12, fun q0 => ⟨(k7 q0).1, (k7 q0).2⟩, fun q0 => ⟨(k11 q0).1, (k11 q0).2.1, (k11 q0).2.2⟩, fun q0 => ⟨(k12 q0).1, (k12 q0).2.1, (k12 q0).2.2.1, (k12 q0).2.2.2⟩⟩
          · -- operation 11
            cases ho
            have hd7 := hdep ⟨7, .data⟩ (by simp) rfl
            have hd4 := (k7 hd7).1
            have hd6 := (k7 hd7).2
            obtain ⟨g, cE, rfl, oe⟩ := h7 hd7 hL
            obtain rfl := h10 (hdep ⟨10, .data⟩ (by simp) rfl)
            refine step_append rfl (.tmp 35) (.tmp 38) 33 rfl w3.heap.size 25 i0 (.agg #[.int .i64 0, .string ByteArray.empty, .int .i64 0, .int .i64 0, .int .i64 0, .int .i64 0]) 6 56 Tryz.underlying33 hi hz0 hz1 hz2 rfl (by decide) (.slice (some ⟨g, 0, none⟩) (p + 1) cE) (p + 1) (flatV (vs.take p) ++ flatV [(⟨i, s, l, b, d, q⟩ : Ves)]) rfl oe a23 (n - p) (c - p) (flatV (vs.drop p)) rfl F2.out (N2.out W hB) (flatV_one _) (by unfold maxLen; omega) (by omega) hB.size (by simp) ?_
            intro g1 cap w9 hown hgr
            exact hK _ _ ⟨_, _, _, _, _, _, _, _, _, _, _, _, _, rfl, hB.grown hgr hB.size (fun q e => (oe.lt q e).1), (fun _ r0 => nomatch (hd4.symm.trans r0)), h1, h2, h3, (fun _ r0 => nomatch (hd7.symm.trans r0)), h5, (fun _ r0 => nomatch (hd7.symm.trans r0)), (fun _ q0 => nomatch q0), h8, h9, fun _ => rfl, fun _ => ⟨_, _, rfl, hown⟩, (fun q0 => by have z := (k12 q0).1; rw [hL] at z; exact nomatch z), fun q0 => ⟨(k7 q0).1, (k7 q0).2⟩, fun _ => ⟨hd7, hd4, hd6⟩, fun q0 => ⟨rfl, (k12 q0).2.1, (k12 q0).2.2.1, (k12 q0).2.2.2⟩⟩
          · -- operation 12
            cases ho
            have hd11 := hdep ⟨11, .data⟩ (by simp) rfl
            obtain ⟨g, c9, rfl, o⟩ := h11 hd11
            go_simp
            exact hK _ _ ⟨_, _, _, _, _, _, _, _, _, _, _, _, _, rfl, hB, h0, h1, h2, h3, h4, h5, h6, h7, h8, h9, h10, fun _ => ⟨_, _, rfl, o⟩, fun _ => ⟨_, _, rfl, o⟩, fun q0 => ⟨(k7 q0).1, (k7 q0).2⟩, fun q0 => ⟨(k11 q0).1, (k11 q0).2.1, (k11 q0).2.2⟩, fun _ => ⟨hd11, (k11 hd11).1, (k11 hd11).2.1, (k11 hd11).2.2⟩⟩
        intro F ac W hJ hall
        obtain ⟨x28, x29, x30, x31, x32, x33, x34, x35, x36, x37, x38, x39, x7, rfl, hB, h0, h1, h2, h3, h4, h5, h6, h7, h8, h9, h10, h11, h12, -, -, -⟩ := hJ
        obtain ⟨gA, c9, rfl, hown⟩ := h12 (hall 12 (by decide))
        have B4 := Lib.hid (B3.out.trans (hB.mono B3.out.size))
        obtain ⟨m, hm1⟩ : ∃ m, p + 1 + (n - p) = m := ⟨_, rfl⟩
        have hmn : m = n + 1 := by omega
        rw [hm1, List.append_assoc, ins_flat] at hown
        rw [hm1]
        clear hm1
        subst hmn
        have hcc : n + 1 ≤ c9 := by
          rcases hown.2 with ⟨e, -⟩ | ⟨g, cap, cur, e, -, -, h1, -⟩
          · cases e
          · injection e with e1 e2 e3; omega
        have hgA := (hown.lt gA rfl).1
        have HO := Lib.hid (own_low hown B3.out.size)
        have hgw : w.heap.size ≤ gA := Nat.le_trans B3.out.size hgA
        have I3 := Lib.hid (own_vs HO.out (HNS.out p))
        clear hB hown h0 h1 h2 h3 h4 h5 h6 h7 h8 h9 h10 h11 h12 hall c0 c1 c2 c3 c4 c5 N1 N2 F1 F2 HA23 HBR HG
        go_wp2_with fail
        refine (l3Fleet_vs c9 I3.out (by unfold maxLen; omega)).mono ?_
        rintro e w5 ⟨rfl, hb⟩
        have B5 := Lib.hid (B4.out.trans (hb.mono B4.out.size))
        have HO5 := Lib.hid (HO.out.kept (grownBelow hb none) (.inr (by simp [Value.ownBlock])))
        clear hb
        cases hg : gF (ins vs p ⟨i, s, l, b, d, q⟩) with
        | false =>
          obtain ⟨rfl, rfl⟩ := HX.out.at hpl2 HSO.out hg
          have HR := Lib.hid (givesVs_nil B5.out)
          clear HX HI HSO HNS I3 HO HO5 hg
          go_wp2_with fail
          refine bodyPost_ret (results_tmp2 rfl _ _ _) rfl ?_
          exact HR.out
        | true =>
          obtain ⟨hR, rfl⟩ := HX.out.yes p hpl2 hg
          have HRn : Hid (R.length = n + 1) := Lib.hid (by rw [hR, ins_len hpl2, HI.out.len])
          have HR : Hid (GivesVs w R true (.returned (.tuple #[.slice (some ⟨gA, 0, none⟩) (n + 1) c9, .bool true])) w5) := Lib.hid (by
            rw [← HRn.out]
            refine ⟨gA, c9, rfl, hgw, ?_, B5.out⟩
            rw [HRn.out, hR]
            exact HO5.out)
          clear HX HI HSO HNS I3 HO HO5 hg hR
          go_wp2_with fail
          refine bodyPost_ret (results_tmp2 rfl _ _ _) rfl ?_
          exact HR.out
end Go.Proofs.YtliebicnejbheabGreatDoor
