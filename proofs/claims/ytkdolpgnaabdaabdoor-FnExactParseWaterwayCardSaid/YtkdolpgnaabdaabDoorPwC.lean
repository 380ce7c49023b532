/- Chapter 2: the program's reading of a line against a form. -/
import Derived.Test.YtkdolpgnaabdaabDoorPwB
namespace Go.Proofs.YtkdolpgnaabdaabDoor
open Go.RowKit Go.PlainAid Go.Sort
set_option linter.unusedVariables false
set_option linter.unusedSimpArgs false

/-- A form: its words, blanks at the odd places. -/
structure FormW (form : ByteArray) (F : List ByteArray) (cnt : Nat) : Prop where
  len : F.length = 2 * cnt ∨ F.length = 2 * cnt + 1
  odd : ∀ j, j < F.length → j % 2 = 1 → F.getD j ⟨#[]⟩ = ⟨#[63]⟩
  even : ∀ j, j < F.length → j % 2 = 0 → F.getD j ⟨#[]⟩ ≠ ⟨#[63]⟩
  sp : ∀ W, Mx W → Calls Tryd.prog 24 #[.string form, .string ⟨#[32]⟩] W fun e w' => e = .returned (.slice (some ⟨W.heap.size, 0, none⟩) F.length F.length) ∧ w' = W.alloc (.cells (F.map Value.string).toArray 9)
theorem lockF : FormW ⟨#[108, 111, 99, 107, 32, 63]⟩ [⟨#[108, 111, 99, 107]⟩, ⟨#[63]⟩] 1 := by
  refine ⟨.inl rfl, fun j hj h => ?_, fun j hj h => ?_, fun W hW => splitLock W hW⟩
  · have : j = 1 := by simp at hj; omega
    subst this; rfl
  · have : j = 0 := by simp at hj; omega
    subst this; decide
theorem reachF : FormW ⟨#[114, 101, 97, 99, 104, 32, 63, 32, 107, 109, 32, 63, 32, 99, 109, 32, 63, 32, 107, 109, 47, 104]⟩ [wReach, ⟨#[63]⟩, wKm, ⟨#[63]⟩, wCm, ⟨#[63]⟩, wKmh] 3 := by
  refine ⟨.inr rfl, fun j hj h => ?_, fun j hj h => ?_, fun W hW => splitWords _ wReach [⟨#[63]⟩, wKm, ⟨#[63]⟩, wCm, ⟨#[63]⟩, wKmh] W (by decide) rfl (by decide) hW⟩
  · have : j = 1 ∨ j = 3 ∨ j = 5 := by simp at hj; omega
    rcases this with rfl | rfl | rfl <;> rfl
  · have : j = 0 ∨ j = 2 ∨ j = 4 ∨ j = 6 := by simp at hj; omega
    rcases this with rfl | rfl | rfl | rfl <;> decide
theorem splitLine (line : ByteArray) (hl : line.size ≤ 1048576) (W : World) (hx : Mx W) : Calls Tryd.prog 24 #[.string line, .string ⟨#[32]⟩] W fun e w' => e = .returned (.slice (some ⟨W.heap.size, 0, none⟩) (wds line).length (wds line).length) ∧ w' = W.alloc (.cells ((wds line).map Value.string).toArray 9) := by
  obtain ⟨m, hm⟩ := hx
  have := Tryd.strings_Split line ⟨#[32]⟩ m W (by omega) hm (by decide)
  rw [wds_len]
  exact this
theorem strs_new (W : World) (ss : List ByteArray) {k : Nat} (hk : k < ss.length) : (W.alloc (.cells (ss.map Value.string).toArray 9)).cell? ⟨W.heap.size, k, none⟩ = some (.string (ss.getD k ⟨#[]⟩)) := by
  rw [sNew, List.getElem?_toArray, List.getElem?_map, List.getElem?_eq_getElem hk, List.getD_eq_getElem?_getD, List.getElem?_eq_getElem hk]
  rfl
theorem below1W (w : World) (o : Obj) : Below w.heap.size w (w.alloc o) := (Below.refl _ _).alloc (Nat.le_refl _) _
abbrev numsO (vs : List Int) (t : TypeId) : Obj := .cells (vs.map (Value.int .i64)).toArray t
theorem nums_cell {W : World} {g : Nat} {vs : List Int} {t : TypeId} {r : Nat × Nat} (h : W.heap[g]? = some (.cells (vs.map (Value.int .i64)).toArray t r)) {k : Nat} (hk : k < vs.length) : W.cell? ⟨g, k, none⟩ = some (.int .i64 (vs.getD k 0)) := by
  have := cell_of_row W g k _ t r h
  rw [this, List.getElem?_toArray, List.getElem?_map, List.getElem?_eq_getElem hk, List.getD_eq_getElem?_getD, List.getElem?_eq_getElem hk]
  rfl
theorem nums_set {W : World} {g : Nat} {vs : List Int} {t : TypeId} {r : Nat × Nat} (h : W.heap[g]? = some (.cells (vs.map (Value.int .i64)).toArray t r)) (k : Nat) (z : Int) : (W.setCell ⟨g, k, none⟩ (.int .i64 z)).heap[g]? = some (.cells ((vs.set k z).map (Value.int .i64)).toArray t r) := by
  have : (W.setCell ⟨g, k, none⟩ (.int .i64 z)).heap[g]? = some (.cells ((vs.map (Value.int .i64)).toArray.setIfInBounds k (.int .i64 z)) t r) := by
    simp [World.setCell, Array.getElem?_modify, h]
  rw [this]
  simp [List.map_set]
theorem list63 : (⟨#[63]⟩ : ByteArray).toList = [63] := by decide +kernel
theorem grown_cellW {W W' : World} {xb : Nat} (hg : W.grownBy W' (some xb)) {p : Addr} {v : Value} (h : W.cell? p = some v) (hne : p.block ≠ xb) : W'.cell? p = some v :=
  (World.cell?_of_block (hg.block _ (World.block_lt_of_cell? _ _ h) (fun e => hne (by injection e)))).trans h
theorem getD_set {vs : List Int} {q j : Nat} {z : Int} (hq : q < vs.length) : (vs.set q z).getD j 0 = if j = q then z else vs.getD j 0 := by
  rw [List.getD_eq_getElem?_getD, List.getElem?_set]
  by_cases h : q = j
  · subst h; simp [hq]
  · rw [if_neg h, if_neg (fun e => h e.symm), List.getD_eq_getElem?_getD]
set_option maxRecDepth 100000 in
set_option maxHeartbeats 8000000 in
theorem readForm_any {form : ByteArray} {F : List ByteArray} {cnt : Nat} (hF : FormW form F cnt) (h1 : 1 ≤ cnt) (h3 : cnt ≤ 3) (line : ByteArray) (hl : line.size ≤ 4000) (w w0 : World) (B0 pb xb : Nat) (tX : TypeId) (vs : List Int) (hvs : vs.length = cnt)
    (hp : ∀ j, j < cnt → w.cell? ⟨pb, j, none⟩ = some (.pointer (some ⟨xb, j, none⟩))) (hx : w.heap[xb]? = some (numsO vs tX)) (hpx : pb ≠ xb) (TT : ∀ W, Below B0 w0 W → Tab W ∧ Errs W ∧ Mx W) (hb0 : Below B0 w0 w) (hxb : B0 ≤ xb) :
    Calls Tryd.prog 11 #[.string form, .string line, .slice (some ⟨pb, 0, none⟩) cnt cnt] w fun e w' => ∃ b vs', e = .returned (.bool b) ∧ w'.heap[xb]? = some (numsO vs' tX) ∧ vs'.length = cnt ∧ (b = true → ∀ j, j < cnt → wd line (2 * j + 1) = some (vs'.getD j 0)) ∧
      (b = false → ∃ j, j < cnt ∧ wd line (2 * j + 1) = none) ∧ w.grownBy w' (some xb) := by
  have hxl := lt_of_heap hx
  have CL := Lib.hid (splitLine line (by omega) w (TT w hb0).2.2)
  have hbz : B0 ≤ w.heap.size := by omega
  have hb1 := hb0.alloc hbz (.cells ((wds line).map Value.string).toArray 9)
  have CF := Lib.hid (hF.sp _ (TT _ hb1).2.2)
  have hb2 := hb1.alloc (by simp; omega) (.cells (F.map Value.string).toArray 9)
  have HT := Lib.hid TT
  have HF := Lib.hid hF
  obtain ⟨W2, hW2⟩ : ∃ W, (w.alloc (.cells ((wds line).map Value.string).toArray 9)).alloc (.cells (F.map Value.string).toArray 9) = W := ⟨_, rfl⟩
  obtain ⟨gw, hgw⟩ : ∃ g, w.heap.size = g := ⟨_, rfl⟩
  have HCW : Hid (∀ k, k < (wds line).length → W2.cell? ⟨gw, k, none⟩ = some (.string ((wds line).getD k ⟨#[]⟩))) := Lib.hid (fun k hk => by
    have h := strs_new w (wds line) hk
    rw [← hW2, ← hgw]
    exact ((below1W _ _).cell (World.block_lt_of_cell? _ _ h)).trans h)
  have HCF : Hid (∀ k, k < F.length → W2.cell? ⟨gw + 1, k, none⟩ = some (.string (F.getD k ⟨#[]⟩))) := Lib.hid (fun k hk => by
    have h := strs_new (w.alloc (.cells ((wds line).map Value.string).toArray 9)) F hk
    rw [World.size_alloc] at h
    rw [← hW2, ← hgw]
    exact h)
  have hbw : Below w.heap.size w W2 := by rw [← hW2]; exact ((Below.refl _ w).alloc (Nat.le_refl _) _).alloc (by simp) _
  have HP2 : Hid (∀ j, j < cnt → W2.cell? ⟨pb, j, none⟩ = some (.pointer (some ⟨xb, j, none⟩))) := Lib.hid (fun j hj => (hbw.cell (World.block_lt_of_cell? _ _ (hp j hj))).trans (hp j hj))
  have HX2 := Lib.hid ((hbw.block _ hxl).trans hx)
  have HG2 := Lib.hid (grownBelow hbw (some xb))
  rw [hW2] at hb2
  have HB2 := Lib.hid hb2
  have hgs : W2.heap.size = gw + 2 := by rw [← hW2, ← hgw]; simp
  have HSZ := Lib.hid (wds_size line)
  obtain ⟨ws, hws⟩ : ∃ ws, wds line = ws := ⟨_, rfl⟩
  have HWD : Hid (∀ j, wd line j = (ws[j]?).bind rdO) := Lib.hid (fun j => by unfold wd; rw [hws])
  rw [hws] at CL CF HCW HSZ hW2
  obtain ⟨nw, hnw⟩ : ∃ n, ws.length = n := ⟨_, rfl⟩
  obtain ⟨nF, hnF⟩ : ∃ n, F.length = n := ⟨_, rfl⟩
  rw [hnw] at CL HCW
  rw [hnF] at CF HCF
  have HNW := Lib.hid hnw
  have HNF := Lib.hid hnF
  have hnF3 : nF = 2 * cnt ∨ nF = 2 * cnt + 1 := by rw [← hnF]; exact hF.len
  have hnw1 : nw ≤ 5000 := by
    have h1 := wds_len line
    have h2 := Lib.countB_le ⟨#[32]⟩ (by decide) line.size line (Nat.le_refl _)
    rw [hws, hnw] at h1
    omega
  rw [World.size_alloc, hgw] at CF
  rw [hgw] at CL
  clear hp hx hF hb0 hb1 hb2 hbw TT hnw hnF hws
  go_enter Tryd.func11, Tryd.ntmps11
  go_wp2_with fail
  refine CL.out.mono ?_
  rintro e w1 ⟨rfl, rfl⟩
  clear CL
  go_wp2_with fail
  refine CF.out.mono ?_
  rintro e w2 ⟨rfl, hw⟩
  rw [hW2] at hw
  obtain rfl : w2 = W2 := hw
  clear CF hW2
  go_wp2_with fail
  go_loopw [2, 17] (fun nv i wr => ∃ (k : Nat) (A : Option Addr) (p : Nat) (vs' : List Int), k ≤ nF ∧ i = .int .i64 k ∧ nv = .slice A p p ∧ p + k / 2 = cnt ∧ (0 < p → A = some ⟨pb, k / 2, none⟩) ∧ vs'.length = cnt ∧ Hid (∀ j, j < k / 2 → wd line (2 * j + 1) = some (vs'.getD j 0)) ∧ Hid (wr.heap[xb]? = some (numsO vs' tX)) ∧ Hid (w2.grownBy wr (some xb))) (fun _ i _ => nF - (intOf i).toNat)
  case atStart => exact ⟨0, _, cnt, vs, Nat.zero_le _, rfl, rfl, by omega, fun _ => rfl, hvs, Lib.hid (fun j hj => absurd hj (by omega)), HX2, Lib.hid (World.grownBy.refl _ _)⟩
  case round =>
    obtain ⟨k, A, p, vs', hk, rfl, rfl, hpk, hA, hvl, HD, HX, HG⟩ := hrel
    have hsz2 := HG.out.size
    have HBR := Lib.hid (HB2.out.grown HG.out (by omega) (fun q e => by cases e; exact hxb))
    by_cases hlt : k < nF
    · have hc := grown_cellW HG.out (HCF.out k hlt) (by show gw + 1 ≠ xb; omega)
      have hc2 : wr.cell? ((⟨gw + 1, 0, none⟩ : Addr).add k) = some (.string (F.getD k ⟨#[]⟩)) := by rw [addOW, Nat.zero_add]; exact hc
      have hk0 : (0 : Int) ≤ (k : Int) := by omega
      have hk1 : (k : Int) < (nF : Int) := by omega
      by_cases hpar : k % 2 = 0
      · have hne := HF.out.even k (by rw [HNF.out]; exact hlt) hpar
        have hs1 := strneW hne
        have hs2 := toList_ne hne
        rw [list63] at hs1 hs2
        obtain ⟨x, hx⟩ : ∃ x, F.getD k ⟨#[]⟩ = x := ⟨_, rfl⟩
        rw [hx] at hc hc2 hs1 hs2
        have hkk : (k + 1) / 2 = k / 2 := by omega
        have HA := Lib.hid hA
        have HKK := Lib.hid hkk
        clear hx hne hA hkk
        go_wp2_with fail
        go_roundw
        case rel => exact ⟨k + 1, A, p, vs', by omega, by go_num, rfl, by rw [HKK.out]; exact hpk, fun h => by rw [HKK.out]; exact HA.out h, hvl, by rw [HKK.out]; exact HD, HX, HG⟩
        case measure => simp [intOf]; omega
      · obtain ⟨q, rfl⟩ : ∃ q, k = 2 * q + 1 := ⟨k / 2, by omega⟩
        have hq2 : (2 * q + 1) / 2 = q := by omega
        rw [hq2] at hpk hA HD
        have ho := HF.out.odd (2 * q + 1) (by rw [HNF.out]; exact hlt) (by omega)
        rw [ho] at hc hc2
        have hself : ((⟨#[63]⟩ : ByteArray).toList != (⟨#[63]⟩ : ByteArray).toList) = false := by simp
        obtain ⟨p, rfl⟩ : ∃ p', p = p' + 1 := ⟨p - 1, by omega⟩
        obtain rfl := hA (by omega)
        clear ho hA hq2
        by_cases hw : 2 * q + 1 < nw
        · have hx1 := grown_cellW HG.out (HCW.out _ hw) (by show gw ≠ xb; omega)
          have hx2 : wr.cell? ((⟨gw, 0, none⟩ : Addr).add (2 * q + 1)) = some (.string (ws.getD (2 * q + 1) ⟨#[]⟩)) := by rw [addOW, Nat.zero_add]; exact hx1
          have hwl : 2 * q + 1 < ws.length := by rw [HNW.out]; exact hw
          have hsz : (ws.getD (2 * q + 1) ⟨#[]⟩).size ≤ 1048576 := by
            have h := HSZ.out _ (List.getElem_mem hwl)
            rw [List.getD_eq_getElem?_getD, List.getElem?_eq_getElem hwl]
            show ws[2 * q + 1].size ≤ _
            omega
          have hwd : wd line (2 * q + 1) = rdO (ws.getD (2 * q + 1) ⟨#[]⟩) := by
            rw [HWD.out, List.getD_eq_getElem?_getD, List.getElem?_eq_getElem hwl]; rfl
          have C := Lib.hid (implRd_any _ hsz wr (HT.out _ HBR.out).1 (HT.out _ HBR.out).2.1)
          obtain ⟨sw, hsw⟩ : ∃ s, ws.getD (2 * q + 1) ⟨#[]⟩ = s := ⟨_, rfl⟩
          rw [hsw] at hx1 hx2 hwd C
          have HWE := Lib.hid hwd
          have hkw : ((2 * q + 1 : Nat) : Int) < (nw : Int) := by omega
          have hge : ¬ (nw : Int) ≤ ((2 * q + 1 : Nat) : Int) := by omega
          obtain ⟨kk, hkk⟩ : ∃ kk, 2 * q + 1 = kk := ⟨_, rfl⟩
          rw [hkk] at hc hc2 hx1 hx2 hkw hge hk0 hk1 hlt ⊢
          have HKK := Lib.hid hkk
          clear hsw hwd hwl hsz hkk
          go_wp2_with fail
          refine C.out.mono ?_
          rintro e w6 ⟨rfl, hb⟩
          have HBW := Lib.hid hb
          have pc := (hb.cell (World.block_lt_of_cell? _ _ (grown_cellW HG.out (HP2.out q (by omega)) hpx))).trans (grown_cellW HG.out (HP2.out q (by omega)) hpx)
          have hx6 := (hb.block _ (lt_of_heap HX.out)).trans HX.out
          clear hb C hc hc2 hx1 hx2
          cases hr : rdO sw with
          | none =>
            have HNO : Hid (wd line (2 * q + 1) = none) := Lib.hid (by rw [HWE.out, hr])
            have HGF := Lib.hid ((HG2.out.trans HG.out).trans (grownBelow HBW.out (some xb)))
            have HXF := Lib.hid hx6
            clear hr hx6 pc
            go_wp2_with fail
            go_ret
            exact ⟨_, vs', rfl, HXF.out, hvl, (fun e => nomatch e), fun _ => ⟨q, by omega, HNO.out⟩, HGF.out⟩
          | some z =>
            have HYES : Hid (wd line (2 * q + 1) = some z) := Lib.hid (by rw [HWE.out, hr])
            obtain ⟨hz3, hz4, -⟩ := rdO_some hr
            have xc := nums_cell hx6 (k := q) (by omega)
            have fz := frozen_of_row _ _ q _ _ hx6
            have HXN := Lib.hid (nums_set hx6 q z)
            have HGN := Lib.hid ((HG.out.trans (grownBelow HBW.out (some xb))).trans (grown_setW w6 xb q (.int .i64 z)))
            have HDN : Hid (∀ j, j < q + 1 → wd line (2 * j + 1) = some ((vs'.set q z).getD j 0)) := Lib.hid (fun j hj => by
              rw [getD_set (by omega)]
              by_cases e : j = q
              · subst e; rw [if_pos rfl]; exact HYES.out
              · rw [if_neg e]; exact HD.out j (by omega))
            clear hr hx6
            by_cases hp0 : p = 0
            · subst hp0
              go_wp2_with fail
              have hk9 : (kk + 1) / 2 = q + 1 := by have := HKK.out; omega
              exact ⟨⟨kk + 1, _, _, vs'.set q z, by omega, by go_num, rfl, by omega, fun h => absurd h (by omega), by rw [List.length_set]; exact hvl, by rw [hk9]; exact HDN, HXN, HGN⟩, by simp [intOf]; omega⟩
            · go_wp2_with fail
              have hk9 : (kk + 1) / 2 = q + 1 := by have := HKK.out; omega
              exact ⟨⟨kk + 1, _, _, vs'.set q z, by omega, by go_num, rfl, by omega, fun _ => by rw [hk9], by rw [List.length_set]; exact hvl, by rw [hk9]; exact HDN, HXN, HGN⟩, by simp [intOf]; omega⟩
        · have HNO : Hid (wd line (2 * q + 1) = none) := Lib.hid (by rw [HWD.out, List.getElem?_eq_none (by rw [HNW.out]; omega)]; rfl)
          have HGF := Lib.hid (HG2.out.trans HG.out)
          have hge : (nw : Int) ≤ ((2 * q + 1 : Nat) : Int) := by omega
          obtain ⟨kk, hkk⟩ : ∃ kk, 2 * q + 1 = kk := ⟨_, rfl⟩
          have HKK := Lib.hid hkk
          rw [hkk] at hc hc2 hge hk0 hk1 hlt ⊢
          clear hkk
          go_wp2_with fail
          go_ret
          exact ⟨_, vs', rfl, HX.out, hvl, (fun e => nomatch e), fun _ => ⟨q, by omega, HNO.out⟩, HGF.out⟩
    · obtain rfl : k = nF := by omega
      have HGF := Lib.hid (HG2.out.trans HG.out)
      go_wp2_with fail
      go_ret
      exact ⟨_, vs', rfl, HX.out, hvl, fun _ j hj => HD.out j (by omega), (fun e => nomatch e), HGF.out⟩
end Go.Proofs.YtkdolpgnaabdaabDoor
