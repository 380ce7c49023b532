/- Chapter 3: rows of vessels: copy, equality, size. -/
import Derived.Test.YtmnagjjpncancabVesIn
import Derived.Maps.AppendAt
namespace Go.Proofs.Ytmnagjjpncancab
open Go.RowKit Go.PlainAid Go.Sort

theorem Try.infoVes' : (Try.prog.info? 76).map (fun i => (i.zero, i.size, i.bytes)) = some (some (.agg #[.int .i64 0, .string ByteArray.empty, .int .i64 0, .int .i64 0, .int .i64 0, .int .i64 0]), 6, 56) := by kernel_rfl

/-- The letters of the first k names. -/
def nsz (vs : List Ves) : Nat → Nat
  | 0 => 0
  | k + 1 => nsz vs k + (vs.getD k ⟨0, ⟨#[]⟩, 0, 0, 0, 0⟩).name.size
theorem nsz_at (vs : List Ves) (k : Nat) (h : k < vs.length) : nsz vs (k + 1) = nsz vs k + vs[k].name.size := by
  simp [nsz, List.getD_eq_getElem?_getD, List.getElem?_eq_getElem h]
theorem nsz_mono (vs : List Ves) (k : Nat) : ∀ d, nsz vs k ≤ nsz vs (k + d)
  | 0 => Nat.le_refl _
  | d + 1 => Nat.le_trans (nsz_mono vs k d) (Nat.le_add_right _ _)

set_option maxHeartbeats 1000000 in
theorem szVS_any (A : Option Addr) (n c B : Nat) (vs : List Ves) (left v : Int) (w : World) (hn : vs.length = n) (hm : n ≤ maxLen) (hs : ∀ v ∈ vs, v.name.size ≤ maxLen) (hB : B ≤ w.heap.size) (h : Has w B A (flatV vs))
    (h0 : 0 ≤ left) (hl : left ≤ 1048576) (hv : (n : Int) + (nsz vs n : Int) ≤ left → v = left - n - nsz vs n) (hv2 : ¬ (n : Int) + (nsz vs n : Int) ≤ left → v = -1) :
    Calls Try.prog 7 #[.slice A n c, .int .i64 left] w fun e w' => e = .returned (.int .i64 v) ∧ Below w.heap.size w w' := by
  unfold maxLen at hm
  have CZ := Lib.hid (fun (i : Int) (s : ByteArray) (l b d q left v : Int) (W : World) (hs : s.size ≤ maxLen) (h0 : 0 ≤ left) (hl : left ≤ 1048576) (hv : (s.size : Int) ≤ left → v = left - s.size) (hv2 : ¬ (s.size : Int) ≤ left → v = -1) => szV_any i s l b d q left v W hs h0 hl hv hv2)
  have HL := Lib.hid hn
  have HS := Lib.hid hs
  have H := Lib.hid h
  have HV := Lib.hid hv
  have HV2 := Lib.hid hv2
  clear hn hs h hv hv2
  by_cases hfit : (n : Int) ≤ left
  · go_enter Try.func7, Try.ntmps7
    go_wp2_with fail
    go_loopw [1, 5] (fun r i wr => ∃ (k : Nat) (m : Int), k ≤ n ∧ i = .int .i64 k ∧ r = .int .i64 m ∧ 0 ≤ m ∧ m ≤ 1048576 ∧ Hid (m = left - n - nsz vs k) ∧ Below w.heap.size w wr) (fun _ i _ => n - (intOf i).toNat)
    case atStart => exact ⟨0, left - n, Nat.zero_le _, rfl, rfl, by omega, by omega, Lib.hid (by simp [nsz]), Below.refl _ _⟩
    case round =>
      obtain ⟨k, m, hk, rfl, rfl, hm0, hm1, hM, hb⟩ := hrel
      by_cases hlt : k < n
      · have hkl : k < vs.length := by rw [HL.out]; exact hlt
        obtain ⟨a1, rfl, hb1, e0, e1, e2, e3, e4, e5⟩ := (H.out.below (hb.mono hB)).vesAt hkl
        have HN := Lib.hid (nsz_at vs k hkl)
        have hsz : (vs[k]'hkl).name.size ≤ maxLen := HS.out _ (List.getElem_mem hkl)
        have HT := Lib.hid (nsz_mono vs (k + 1) (n - (k + 1)))
        generalize vs[k]'hkl = V at e0 e1 e2 e3 e4 e5 hsz HN
        obtain ⟨i, s, l, b, d, q⟩ := V
        dsimp only at e0 e1 e2 e3 e4 e5 hsz
        have HN' : Hid (nsz vs (k + 1) = nsz vs k + s.size) := Lib.hid HN.out
        clear HN
        have HB := Lib.hid hb
        have hk0 : (0 : Int) ≤ (k : Int) := by omega
        have hk1 : (k : Int) < (n : Int) := by omega
        by_cases hs : (s.size : Int) ≤ m
        · have C := Lib.hid (fun W => CZ.out i s l b d q m (m - s.size) W hsz hm0 hm1 (fun _ => rfl) (fun h => by omega))
          have HM : Hid (m - s.size = left - n - nsz vs (k + 1)) := Lib.hid (by rw [HN'.out, hM.out]; omega)
          have hr0 : 0 ≤ m - (s.size : Int) := by omega
          have hr1 : m - (s.size : Int) ≤ 1048576 := by omega
          generalize m - (s.size : Int) = m2 at C HM hr0 hr1
          clear hb hs H HN' HT CZ hM HV HV2
          go_wp2_with fail
          refine (C.out _).mono ?_
          rintro e w2 ⟨rfl, hb2⟩
          have HB2 := Lib.hid (HB.out.trans (hb2.mono HB.out.size))
          clear hb2 e0 e1 e2 e3 e4 e5
          go_wp2_with fail
          refine ⟨⟨k + 1, m2, by omega, by go_num, rfl, hr0, hr1, HM, HB2.out⟩, by simp [intOf]; omega⟩
        · obtain rfl : v = -1 := HV2.out (by
            have h1 := HN'.out
            have h2 := HT.out
            have h3 := hM.out
            rw [show k + 1 + (n - (k + 1)) = n by omega] at h2
            omega)
          have C := Lib.hid (fun W => CZ.out i s l b d q m (-1) W hsz hm0 hm1 (fun h => by omega) (fun _ => rfl))
          clear hb hs H HN' HT CZ hM HV HV2
          go_wp2_with fail
          refine (C.out _).mono ?_
          rintro e w2 ⟨rfl, hb2⟩
          have HB2 := Lib.hid (HB.out.trans (hb2.mono HB.out.size))
          clear hb2 e0 e1 e2 e3 e4 e5
          go_wp2_with fail
          go_ret
          exact ⟨rfl, HB2.out⟩
      · obtain rfl : k = n := by omega
        obtain rfl : v = m := by
          have h3 := hM.out
          rw [h3]
          exact HV.out (by omega)
        clear H CZ HV HV2 hM HS HL
        go_wp2
        go_ret
        exact ⟨rfl, hb⟩
  · obtain rfl : v = -1 := HV2.out (by omega)
    clear HV HV2 CZ
    go_enter Try.func7, Try.ntmps7
    go_wp2
    go_ret
    exact ⟨rfl, Below.refl _ _⟩

set_option maxHeartbeats 1000000 in
/-- The copy of a slice of vessels: new memory, the same vessels. -/
theorem toVS_any (A : Option Addr) (n c B : Nat) (vs : List Ves) (w : World) (hn : vs.length = n) (hm : n ≤ 1048576)
    (hB : B ≤ w.heap.size) (h : Has w B A (flatV vs)) :
    Calls Try.prog 9 #[.slice A n c] w fun e w' => e = .returned (.slice (some ⟨w.heap.size, 0, none⟩) n n) ∧
      w'.ownsRow w.heap.size 76 6 (.slice (some ⟨w.heap.size, 0, none⟩) n n) n (flatV vs) ∧ Below w.heap.size w w' := by
  obtain ⟨i0, hi, hz0, hz1, hz2⟩ := info_parts Try.infoVes'
  have CT := Lib.hid (fun i s l b d q W => toV_any i s l b d q W)
  have HL := Lib.hid hn
  have H := Lib.hid h
  clear hn h
  go_enter Try.func9, Try.ntmps9
  go_wp2_with (at_make; refine wpList_make_full _ rfl _ _ 27 rfl w.heap.size 76 i0 (.agg #[.int .i64 0, .string ByteArray.empty, .int .i64 0, .int .i64 0, .int .i64 0, .int .i64 0]) 6 Try.underlying27 hi hz0 hz1 _ _ _ _ n rfl rfl rfl rfl ?b2 ?b3 (Nat.le_refl _) ?_)
  case b2 => rw [hz2]; omega
  case b3 => unfold maxLen; omega
  intro w0 hown0 hgrow0
  have hb0 : Below w.heap.size w w0 := (Below.refl _ _).grown hgrow0 (Nat.le_refl _) (fun k h => by cases h)
  clear hgrow0
  go_wp2
  go_loopw [4] (fun i wr => ∃ (k : Nat) (xs : List Value), k ≤ n ∧ i = .int .i64 k ∧ wr.ownsRow w.heap.size 76 6 (.slice (some ⟨w.heap.size, 0, none⟩) n n) n xs ∧ Hid (xs.take (k * 6) = (flatV vs).take (k * 6)) ∧ Below w.heap.size w wr)
    (fun i _ => n - (intOf i).toNat)
  case atStart => exact ⟨0, _, Nat.zero_le _, rfl, hown0, Lib.hid (by simp), hb0⟩
  case round =>
    obtain ⟨k, xs, hk, rfl, hown, hx, hb⟩ := hrel
    by_cases hlt : k < n
    · have hkl : k < vs.length := by rw [HL.out]; exact hlt
      obtain ⟨a1, rfl, hb1, e0, e1, e2, e3, e4, e5⟩ := (H.out.below (hb.mono hB)).vesAt hkl
      have HU := Lib.hid (flatV_at vs k hkl)
      generalize vs[k]'hkl = V at e0 e1 e2 e3 e4 e5 HU
      obtain ⟨i, s, l, b, d, q⟩ := V
      dsimp only at e0 e1 e2 e3 e4 e5
      have HT : Hid (((((((xs.set (k * 6) (.int .i64 i)).set (k * 6 + 1) (.string s)).set (k * 6 + 2) (.int .i64 l)).set (k * 6 + 3) (.int .i64 b)).set (k * 6 + 4) (.int .i64 d)).set (k * 6 + 5) (.int .i64 q)).take ((k + 1) * 6) = (flatV vs).take ((k + 1) * 6)) := Lib.hid (by
        have hxl : xs.length = n * 6 := hown.1
        have e : (k + 1) * 6 = k * 6 + 5 + 1 := by omega
        obtain ⟨u0, u1, u2, u3, u4, u5⟩ := HU.out
        rw [e]
        exact take_set_succ _ _ (k * 6 + 5) _ (by simp; omega) u5 (take_set_succ _ _ (k * 6 + 4) _ (by simp; omega) u4 (take_set_succ _ _ (k * 6 + 3) _ (by simp; omega) u3 (take_set_succ _ _ (k * 6 + 2) _ (by simp; omega) u2 (take_set_succ _ _ (k * 6 + 1) _ (by simp; omega) u1 (take_set_succ _ _ (k * 6) _ (by omega) u0 hx.out))))))
      have HOwn := Lib.hid hown
      have HB := Lib.hid hb
      have hk0 : (0 : Int) ≤ (k : Int) := by omega
      have hk1 : (k : Int) < (n : Int) := by omega
      clear hown hb hx HU
      go_wp2_with fail
      refine (CT.out i s l b d q _).mono ?_
      rintro e w2 ⟨rfl, hb2⟩
      have hg2 := grownBelow hb2 none
      have HOwn2 := Lib.hid (HOwn.out.kept hg2 (.inr (by simp [Value.ownBlock])))
      have hxl : xs.length = n * 6 := HOwn2.out.1
      obtain ⟨v0, g0⟩ : ∃ v, w2.cell? ⟨w.heap.size, k * 6, none⟩ = some v := ⟨_, (HOwn2.out.cellAt _ (by omega)).trans (List.getElem?_eq_getElem (by omega))⟩
      obtain ⟨v1, g1⟩ : ∃ v, w2.cell? ⟨w.heap.size, k * 6 + 1, none⟩ = some v := ⟨_, (HOwn2.out.cellAt _ (by omega)).trans (List.getElem?_eq_getElem (by omega))⟩
      obtain ⟨v2, g2⟩ : ∃ v, w2.cell? ⟨w.heap.size, k * 6 + 2, none⟩ = some v := ⟨_, (HOwn2.out.cellAt _ (by omega)).trans (List.getElem?_eq_getElem (by omega))⟩
      obtain ⟨v3, g3⟩ : ∃ v, w2.cell? ⟨w.heap.size, k * 6 + 3, none⟩ = some v := ⟨_, (HOwn2.out.cellAt _ (by omega)).trans (List.getElem?_eq_getElem (by omega))⟩
      obtain ⟨v4, g4⟩ : ∃ v, w2.cell? ⟨w.heap.size, k * 6 + 4, none⟩ = some v := ⟨_, (HOwn2.out.cellAt _ (by omega)).trans (List.getElem?_eq_getElem (by omega))⟩
      obtain ⟨v5, g5⟩ : ∃ v, w2.cell? ⟨w.heap.size, k * 6 + 5, none⟩ = some v := ⟨_, (HOwn2.out.cellAt _ (by omega)).trans (List.getElem?_eq_getElem (by omega))⟩
      have r0 := HOwn2.out.frozenAt (k * 6)
      have r1 := HOwn2.out.frozenAt (k * 6 + 1)
      have r2 := HOwn2.out.frozenAt (k * 6 + 2)
      have r3 := HOwn2.out.frozenAt (k * 6 + 3)
      have r4 := HOwn2.out.frozenAt (k * 6 + 4)
      have r5 := HOwn2.out.frozenAt (k * 6 + 5)
      have HB2 := Lib.hid (HB.out.trans (hb2.mono HB.out.size))
      clear hg2 hb2 e0 e1 e2 e3 e4 e5 hxl
      go_wp2_with fail
      have s0 := HOwn2.out.stored (k * 6) (.int .i64 i)
      have s1 := s0.1.stored (k * 6 + 1) (.string s)
      have s2 := s1.1.stored (k * 6 + 2) (.int .i64 l)
      have s3 := s2.1.stored (k * 6 + 3) (.int .i64 b)
      have s4 := s3.1.stored (k * 6 + 4) (.int .i64 d)
      have s5 := s4.1.stored (k * 6 + 5) (.int .i64 q)
      refine ⟨⟨k + 1, _, by omega, by go_num, s5.1, HT, ?_⟩, by simp [intOf]; omega⟩
      exact ((((((HB2.out.setCell (p := ⟨w.heap.size, k * 6, none⟩) (Nat.le_refl _) _).setCell (p := ⟨w.heap.size, k * 6 + 1, none⟩) (Nat.le_refl _) _).setCell (p := ⟨w.heap.size, k * 6 + 2, none⟩) (Nat.le_refl _) _).setCell (p := ⟨w.heap.size, k * 6 + 3, none⟩) (Nat.le_refl _) _).setCell (p := ⟨w.heap.size, k * 6 + 4, none⟩) (Nat.le_refl _) _).setCell (p := ⟨w.heap.size, k * 6 + 5, none⟩) (Nat.le_refl _) _)
    · obtain rfl : k = n := by omega
      have hxl : xs.length = k * 6 := hown.1
      have hall : xs = flatV vs := by
        have := hx.out
        rwa [List.take_of_length_le (by omega), List.take_of_length_le (by rw [flatV_len, HL.out]; omega)] at this
      subst hall
      clear H hxl hx
      go_wp2
      go_ret
      exact ⟨rfl, hown, hb⟩

set_option maxHeartbeats 1000000 in
theorem eqVS_same (A1 A2 : Option Addr) (n c1 c2 B1 B2 : Nat) (vs : List Ves) (w : World) (hn : vs.length = n) (hm : n ≤ maxLen) (hB1 : B1 ≤ w.heap.size) (hB2 : B2 ≤ w.heap.size)
    (h1 : Has w B1 A1 (flatV vs)) (h2 : Has w B2 A2 (flatV vs)) :
    Calls Try.prog 12 #[.slice A1 n c1, .slice A2 n c2] w fun e w' => e = .returned (.bool true) ∧ Below w.heap.size w w' := by
  unfold maxLen at hm
  have HL := Lib.hid hn
  have H1 := Lib.hid h1
  have H2 := Lib.hid h2
  clear hn h1 h2
  go_enter Try.func12, Try.ntmps12
  go_wp2
  go_loopw [5] (fun i wr => ∃ k : Nat, k ≤ n ∧ i = .int .i64 k ∧ Below w.heap.size w wr) (fun i _ => n - (intOf i).toNat)
  case atStart => exact ⟨0, Nat.zero_le _, rfl, Below.refl _ _⟩
  case round =>
    obtain ⟨k, hk, rfl, hb⟩ := hrel
    by_cases hlt : k < n
    · have hkl : k < vs.length := by rw [HL.out]; exact hlt
      obtain ⟨a1, rfl, _, e0, e1, e2, e3, e4, e5⟩ := (H1.out.below (hb.mono hB1)).vesAt hkl
      obtain ⟨a2, rfl, _, g0, g1, g2, g3, g4, g5⟩ := (H2.out.below (hb.mono hB2)).vesAt hkl
      generalize vs[k]'hkl = V at e0 e1 e2 e3 e4 e5 g0 g1 g2 g3 g4 g5
      obtain ⟨i, s, l, b, d, q⟩ := V
      dsimp only at e0 e1 e2 e3 e4 e5 g0 g1 g2 g3 g4 g5
      have E0 := fun (d : Nat) (os : Array Obj) => cell_regrown e0 d os
      have E1 := fun (d : Nat) (os : Array Obj) => cell_regrown e1 d os
      have E2 := fun (d : Nat) (os : Array Obj) => cell_regrown e2 d os
      have E3 := fun (d : Nat) (os : Array Obj) => cell_regrown e3 d os
      have E4 := fun (d : Nat) (os : Array Obj) => cell_regrown e4 d os
      have E5 := fun (d : Nat) (os : Array Obj) => cell_regrown e5 d os
      have G0 := fun (d : Nat) (os : Array Obj) => cell_regrown g0 d os
      have G1 := fun (d : Nat) (os : Array Obj) => cell_regrown g1 d os
      have G2 := fun (d : Nat) (os : Array Obj) => cell_regrown g2 d os
      have G3 := fun (d : Nat) (os : Array Obj) => cell_regrown g3 d os
      have G4 := fun (d : Nat) (os : Array Obj) => cell_regrown g4 d os
      have G5 := fun (d : Nat) (os : Array Obj) => cell_regrown g5 d os
      have cM := fun (dr : Nat) (os : Array Obj) => Calls.regrown_of (w := wr) (d := dr) (os := os) (eqV_same i s l b d q _)
      have hk0 : (0 : Int) ≤ (k : Int) := by omega
      have hk1 : (k : Int) < (n : Int) := by omega
      have HB := Lib.hid hb
      clear hb H1 H2 e0 e1 e2 e3 e4 e5 g0 g1 g2 g3 g4 g5
      go_wp2
      refine wp_region_quiet_below (by kernel_rfl) (by kernel_rfl) ?_
      repeat (quiet_step (exact cM _ _))
      refine wpQuiet_nil ?_
      intro _ hw'
      obtain ⟨⟨dq, osq⟩, hw''⟩ := hw'
      subst hw''
      go_wp2
      go_roundw
      case rel => exact ⟨k + 1, by omega, by go_num, HB.out.trans ((below_regrown wr dq osq).mono HB.out.size)⟩
      case measure => simp [intOf]; omega
    · obtain rfl : k = n := by omega
      clear H1 H2
      go_wp2
      go_ret
      exact ⟨rfl, hb⟩
end Go.Proofs.Ytmnagjjpncancab
