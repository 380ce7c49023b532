/- Chapter 2: ParseWaterway of the program and of the model. -/
import Derived.Test.YtkdolpgnaabdaabDoorPwC
namespace Go.Proofs.YtkdolpgnaabdaabDoor
open Go.RowKit Go.PlainAid Go.Sort
set_option linter.unusedVariables false
set_option linter.unusedSimpArgs false

theorem ne_own {w : World} {B : Nat} {e : TypeId} {s n : Nat} {v : Value} {xs : List Value} (h : w.ownsRow B e s v n xs) {xb : Nat} (hx : w.heap.size ≤ xb) : v.ownBlock = none ∨ v.ownBlock ≠ some xb := by
  cases hv : v.ownBlock with
  | none => exact .inl rfl
  | some g =>
    refine .inr fun e => ?_
    injection e with e
    have := (h.lt g hv).2
    omega
/-- Only a younger block turns. -/
theorem PwS.turned {B : Nat} {W W' : World} {b0 b3 xb : Nat} {v1 v2 : Value} {nR nZ : Nat} {R : List (Int × Int × Int)} {Z : List Int} (h : PwS B W b0 b3 v1 v2 nR nZ R Z) (hx : W.heap.size ≤ xb) (hg : W.grownBy W' (some xb)) : PwS B W' b0 b3 v1 v2 nR nZ R Z :=
  ⟨(hg.block _ (lt_of_heap h.res) (fun e => by have := lt_of_heap h.res; injection e; omega)).trans h.res, (hg.block _ (lt_of_heap h.box) (fun e => by have := lt_of_heap h.box; injection e; omega)).trans h.box, h.r.kept hg (ne_own h.r hx), h.z.kept hg (ne_own h.z hx)⟩
theorem implStep_odd {k : Nat} (hk : k % 2 = 1) (st : List (Int × Int × Int) × List Int) (line : ByteArray) : implStep k st line = (wd line 1).map fun z => (st.1, st.2 ++ [z]) := by unfold implStep; rw [if_pos hk]
theorem implStep_even {k : Nat} (hk : ¬ k % 2 = 1) (st : List (Int × Int × Int) × List Int) (line : ByteArray) : implStep k st line = match wd line 1, wd line 3, wd line 5 with
    | some l, some d, some s => some (st.1 ++ [(l, d, s)], st.2)
    | _, _, _ => none := by unfold implStep; rw [if_neg hk]; rfl
theorem one_list {vs : List Int} (h : vs.length = 1) : ∃ a, vs = [a] := by
  match vs, h with
  | [a], _ => exact ⟨a, rfl⟩
theorem three_list {vs : List Int} (h : vs.length = 3) : ∃ a b c, vs = [a, b, c] := by
  match vs, h with
  | [a, b, c], _ => exact ⟨a, b, c, rfl⟩
set_option maxRecDepth 100000 in
set_option maxHeartbeats 8000000 in
theorem implPW_any (t : ByteArray) (w : World) (ht : t.size ≤ 1048576) (R9 : List (Int × Int × Int)) (Z9 : List Int) (x9 : Bool) (hp : ParsedW t R9 Z9 x9) (hT : Tab w) (hE : Errs w) (hM : Mx w) :
    Calls Tryd.prog 5 #[.string t] w (GivesW w R9 Z9 x9) := by
  obtain ⟨i0, hi, hz0, hz1, hz2⟩ := info_parts Tryd.infoInt'
  obtain ⟨j0, hj, jz0, jz1, jz2⟩ := info_parts Tryd.infoReach'
  have HP := Lib.hid hp
  have HTT : Hid (∀ W, Below w.heap.size w W → Tab W ∧ Errs W ∧ Mx W) := Lib.hid (fun W hW => ⟨hT.on hW (Nat.le_refl _), hE.on hW (Nat.le_refl _), hM.on hW (Nat.le_refl _)⟩)
  obtain ⟨b0, hb0⟩ : ∃ b, w.heap.size = b := ⟨_, rfl⟩
  obtain ⟨W1, hW1⟩ : ∃ W, w.alloc (wayO (.slice none 0 0) (.slice none 0 0)) = W := ⟨_, rfl⟩
  have hres : W1.heap[b0]? = some (.cells #[.slice none 0 0, .slice none 0 0] 25 (0, 0)) := by
    rw [← hW1, ← hb0]; exact heap_alloc_new w _
  have HRES := Lib.hid hres
  have HB1 : Hid (Below w.heap.size w W1) := Lib.hid (by rw [← hW1]; exact (Below.refl _ w).alloc (Nat.le_refl _) _)
  have hge : w.heap.size ≤ b0 := by omega
  have hsz1 : W1.heap.size = b0 + 1 := by rw [← hW1, ← hb0]; simp
  clear hp hT hE hM hres
  go_enter Tryd.func5, Tryd.ntmps5
  go_wp2_with fail
  clear hW1 hb0
  by_cases hbig : t.size ≤ 4000
  · refine (implSplit_ok t ⟨#[10]⟩ W1 hbig rfl).mono ?_
    rintro e w1 ⟨gl, cl, rfl, hgl, hown, hb⟩
    have h10 : bt ⟨#[10]⟩ 0 = 10 := rfl
    rw [h10] at hown
    rw [h10]
    have HR1 := Lib.hid ((hb.block _ (by omega)).trans HRES.out)
    have HB2 := Lib.hid (HB1.out.trans (hb.mono HB1.out.size))
    have HL1 := Lib.hid hown
    have hs2 := hb.size
    have HSX := Lib.hid (parts_sizeW t 10)
    have HN0 := parts_ne t 10
    have HNL := parts_lenW t 10
    have HTX : Hid (∀ rs zs, goodW rs zs → txt rs zs rs.length = t → implK (parts t 10) ((parts t 10).length - 1) = some (rs, zs)) := Lib.hid (fun rs zs hg he => implK_txt hg he)
    clear hb hown HRES HB1 h10
    obtain ⟨ls, hls⟩ : ∃ ls, parts t 10 = ls := ⟨_, rfl⟩
    rw [hls] at HL1 HSX HN0 HNL HTX
    rw [hls]
    obtain ⟨m, hm⟩ : ∃ m, ls.length = m + 1 := ⟨ls.length - 1, by omega⟩
    have hcl : ls.length ≤ cl := by
      rcases HL1.out.2 with ⟨h1, h2⟩ | ⟨g, cap, cur, h1, -, -, h2, -⟩
      · cases h1
      · injection h1 with _ _ h3; omega
    rw [hm] at hcl HTX HNL
    rw [hm]
    have HM := Lib.hid hm
    obtain ⟨b3, hb3⟩ : ∃ b, w1.heap.size = b := ⟨_, rfl⟩
    obtain ⟨W2, hW2⟩ : ∃ W, w1.alloc (wayO (.slice none 0 0) (.slice none 0 0)) = W := ⟨_, rfl⟩
    have HP2 : Hid (PwS w.heap.size W2 b0 b3 (.slice none 0 0) (.slice none 0 0) 0 0 [] []) := Lib.hid ⟨by rw [← hW2]; exact (heap_alloc_old _ _ (by omega)).trans HR1.out, by rw [← hW2, ← hb3]; exact heap_alloc_new w1 _, own_nothing, own_nothing⟩
    have HB3 : Hid (Below w.heap.size w W2) := Lib.hid (by rw [← hW2]; exact HB2.out.alloc HB2.out.size _)
    have HL2 : Hid (W2.ownsRow W1.heap.size 9 1 (.slice (some ⟨gl, 0, none⟩) ls.length cl) ls.length (ls.map .string)) := Lib.hid (by rw [← hW2]; exact own_below HL1.out ((Below.refl _ _).alloc (Nat.le_refl _) _))
    obtain ⟨BL, hBL⟩ : ∃ b, W1.heap.size = b := ⟨_, rfl⟩
    rw [hBL] at HL2
    have hne03 : b0 ≠ b3 := by omega
    have hge3 : w.heap.size ≤ b3 := by omega
    have hsub : ((m + 1 : Nat) : Int) - 1 = (m : Int) := by omega
    have hm0 : (0 : Int) ≤ (m : Int) := by omega
    have hmc : (m : Int) ≤ (cl : Int) := by omega
    have HW2 := Lib.hid hW2
    have HB3E := Lib.hid hb3
    clear hls HL1 HR1 HB2 hm hBL HN0 hW2 hb3
    go_wp2_with fail
    rw [HW2.out, HB3E.out]
    clear HW2 HB3E
    go_loopw [28] (fun i wr => ∃ (k : Nat) (R : List (Int × Int × Int)) (Z : List Int) (nR nZ : Nat) (v1 v2 : Value), implK ls k = some (R, Z) ∧ k ≤ m ∧ i = .int .i64 k ∧ R.length = nR ∧ Z.length = nZ ∧ nR ≤ k ∧ nZ ≤ k ∧ Hid (PwS w.heap.size wr b0 b3 v1 v2 nR nZ R Z) ∧ Hid (Below w.heap.size w wr) ∧ Hid (wr.ownsRow BL 9 1 (.slice (some ⟨gl, 0, none⟩) ls.length cl) ls.length (ls.map .string))) (fun i _ => m - (intOf i).toNat)
    case atStart => exact ⟨0, [], [], 0, 0, _, _, rfl, Nat.zero_le _, rfl, rfl, rfl, Nat.le_refl _, Nat.le_refl _, HP2, HB3, HL2⟩
    case round =>
      clear HP2 HB3 HL2
      obtain ⟨k, R, Z, nR, nZ, v1, v2, hst, hk, rfl, hR, hZ, hRk, hZk, HPW, HB, HL⟩ := hrel
      have HST := Lib.hid hst
      have HRL := Lib.hid (And.intro hR hZ)
      clear hst hR hZ
      by_cases hlt : k < m
      · have hkl : k < ls.length := by have := HM.out; omega
        have f0 := strs_atW HL.out hkl
        have hlz : (ls[k]'hkl).size ≤ 4000 := by have := HSX.out _ (List.getElem_mem hkl); omega
        have hgd : ls.getD k ⟨#[]⟩ = ls[k]'hkl := by rw [List.getD_eq_getElem?_getD, List.getElem?_eq_getElem hkl]; rfl
        obtain ⟨line, hline⟩ : ∃ l, ls[k]'hkl = l := ⟨_, rfl⟩
        rw [hline] at f0 hlz hgd
        have f1 : wr.cell? ((⟨gl, 0, none⟩ : Addr).add k) = some (.string line) := by rw [addOW, Nat.zero_add]; exact f0
        have HNX : Hid (implK ls (k + 1) = implStep k (R, Z) line) := Lib.hid (by rw [implK, HST.out, hgd]; rfl)
        have HFAIL : Hid (implStep k (R, Z) line = none → R9 = [] ∧ Z9 = [] ∧ x9 = false) := Lib.hid (fun e => HP.out.not (fun rs zs hg he => by
          have h1 := HTX.out rs zs hg he
          have h3 := implK_none (HNX.out.trans e) (m - (k + 1))
          rw [show k + 1 + (m - (k + 1)) = m by omega] at h3
          rw [Nat.add_sub_cancel, h3] at h1
          cases h1))
        have hk0 : (0 : Int) ≤ (k : Int) := by omega
        have hk1 : (k : Int) < (m : Int) := by omega
        have hmod : (k : Int) % 2 = ((k % 2 : Nat) : Int) := by omega
        clear hline hgd HST
        by_cases hpar : k % 2 = 1
        · have hm1 : Int.tmod (k : Int) 2 = 1 := by rw [Int.tmod_eq_emod_of_nonneg hk0]; omega
          have HSB := Lib.hid (implStep_odd hpar (R, Z) line)
          have HMOD := Lib.hid hm1
          clear hmod hpar
          obtain ⟨W3, hW3⟩ : ∃ W, (wr.alloc (numsO [0] 3)).alloc (.cells #[.pointer (some ⟨wr.heap.size, 0, none⟩)] 35) = W := ⟨_, rfl⟩
          obtain ⟨xb, hxb⟩ : ∃ x, wr.heap.size = x := ⟨_, rfl⟩
          have hb3 : Below wr.heap.size wr W3 := by rw [← hW3]; exact ((Below.refl _ wr).alloc (Nat.le_refl _) _).alloc (by simp) _
          have hxx : W3.heap[xb]? = some (numsO [0] 3) := by rw [← hW3, ← hxb]; exact (heap_alloc_old _ _ (by simp)).trans (heap_alloc_new wr _)
          have hpp : ∀ j, j < 1 → W3.cell? ⟨xb + 1, j, none⟩ = some (.pointer (some ⟨xb, j, none⟩)) := fun j hj => by
            have h := sNew (wr.alloc (numsO [0] 3)) #[.pointer (some ⟨wr.heap.size, 0, none⟩)] 35 j
            rw [World.size_alloc] at h
            rw [← hW3, ← hxb]
            refine h.trans ?_
            (obtain rfl : j = 0 := (by omega); rfl)
          have hxw : w.heap.size ≤ xb := by have := HB.out.size; omega
          have C := Lib.hid (readForm_any lockF (by omega) (by omega) line hlz W3 w w.heap.size (xb + 1) xb 3 [0] rfl hpp hxx (by omega) HTT.out (HB.out.trans (hb3.mono HB.out.size)) hxw)
          have HGW := Lib.hid (grownBelow hb3 (some xb))
          have HW3 : Hid ((wr.alloc (.cells #[.int .i64 0] 3)).alloc (.cells #[.pointer (some ⟨wr.heap.size, 0, none⟩)] 35) = W3) := Lib.hid hW3
          have HXB := Lib.hid hxb
          clear hW3 hb3 hxx hpp hxb
          go_wp2_with fail
          rw [HW3.out, HXB.out]
          refine C.out.mono ?_
          rintro e w4 ⟨b, vs', rfl, hx4, hvl, hy, hn, hg⟩
          have hgw := HGW.out.trans hg
          have HP4 := Lib.hid (HPW.out.turned (Nat.le_of_eq HXB.out) hgw)
          have HB4 := Lib.hid (HB.out.grown hgw (by have := HB.out.size; have := HXB.out; omega) (fun q e => by injection e; omega))
          have HL4 := Lib.hid (HL.out.kept hgw (ne_own HL.out (Nat.le_of_eq HXB.out)))
          have HYN := Lib.hid (And.intro hy hn)
          have k0 := cell_of_row _ _ 0 _ _ _ HP4.out.box
          have k1 := cell_of_row _ _ 1 _ _ _ HP4.out.box
          clear hy hn hgw hg C HGW HW3 HXB HPW HB HL f0 f1
          obtain ⟨z, rfl⟩ := one_list hvl
          have x0 := nums_cell hx4 (k := 0) (by simp)
          replace x0 : w4.cell? ⟨xb, 0, none⟩ = some (.int .i64 z) := x0
          clear hx4 hvl
          cases b with
          | true =>
            have HN : Hid (implK ls (k + 1) = some (R, Z ++ [z])) := Lib.hid (by rw [HNX.out, HSB.out, HYN.out.1 rfl 0 (by omega)]; rfl)
            have HPA := Lib.hid (HP4.out.below ((Below.refl _ _).alloc (Nat.le_refl _) (.cells #[.int .i64 z] 3)))
            have HBA := Lib.hid (HB4.out.alloc HB4.out.size (.cells #[.int .i64 z] 3))
            have HLA := Lib.hid (own_below HL4.out ((Below.refl _ _).alloc (Nat.le_refl _) (.cells #[.int .i64 z] 3)))
            have HSZ := Lib.hid HB4.out.size
            go_wp2_with (at_builtin; go_loud (refine wpList_append_own _ rfl (.tmp 40) (.tmp 42) 23 rfl w.heap.size 3 i0 (.int .i64 0) 1 8 Tryd.underlying23 hi hz0 hz1 hz2 rfl (by decide) v2 nZ _ rfl HPA.out.z ⟨w4.heap.size, 0, none⟩ 1 1 [.int .i64 z] rfl rfl (cell_1W _ _ _) (by simp [Value.oneCell']) (by unfold maxLen; omega) (by omega) (by have := HSZ.out; simp; omega) ?_; intro v5 w5 hown1 hgrow1 hnil1; obtain ⟨g5, c5, rfl, hg5⟩ := own_some hown1 (fun e => by have h9 := (hnil1.1 e).2; simp at h9); refine Hid.out ?_))
            have hon : w5.ownsRow w.heap.size 3 1 (.slice (some ⟨g5, 0, none⟩) (nZ + 1) c5) (nZ + 1) ((Z ++ [z]).map (.int .i64)) := by rw [List.map_append]; exact hown1
            obtain ⟨q0, q3, qr⟩ := PwS.afterZ HPA.out hgrow1 hon
            have e0 := cell_of_row _ _ 0 _ _ _ q3
            have e1 := cell_of_row _ _ 1 _ _ _ q3
            have fz := frozen_of_row _ _ 1 _ _ q3
            have d0 := cell_of_row _ _ 0 _ _ _ q0
            have d1 := cell_of_row _ _ 1 _ _ _ q0
            have g0 := frozen_of_row _ _ 0 _ _ q0
            have g1 := frozen_of_row _ _ 1 _ _ q0
            have HPN := Lib.hid (PwS.putZ hne03 q0 q3 qr hon)
            have HLN := Lib.hid ((HLA.out.kept hgrow1 (own_ne HLA.out HPA.out.z ne_si)).kept (grown_setW w5 b3 1 (.slice (some ⟨g5, 0, none⟩) (nZ + 1) c5)) (.inr (own_off (HLA.out.kept hgrow1 (own_ne HLA.out HPA.out.z ne_si)) q3 ne_sw)))
            have HBN := Lib.hid ((HBA.out.grown hgrow1 (by have := HSZ.out; simp; omega) (fun q hq => (HPA.out.z.lt q hq).1)).setCell (p := ⟨b3, 1, none⟩) hge3 (.slice (some ⟨g5, 0, none⟩) (nZ + 1) c5))
            clear hg5 hon q0 q3 qr hown1 hgrow1 hnil1 HPA HBA HLA HSZ HP4 HB4 HL4 k0 k1
            refine Lib.hid ?_
            go_wp2_with fail
            go_roundw
            case rel => exact ⟨k + 1, _, _, nR, nZ + 1, _, _, HN.out, by omega, by go_num, HRL.out.1, by rw [List.length_append, HRL.out.2]; rfl, by omega, by omega, HPN, HBN, HLN⟩
            case measure => simp [intOf]; omega
          | false =>
            obtain ⟨j, hj9, hn⟩ := HYN.out.2 rfl
            obtain rfl : j = 0 := by omega
            obtain ⟨rfl, rfl, rfl⟩ := HFAIL.out (by rw [HSB.out, hn]; rfl)
            clear hn
            have HPA := Lib.hid (HP4.out.below ((Below.refl _ _).alloc (Nat.le_refl _) (.cells #[.int .i64 z] 3)))
            have HBA := Lib.hid (HB4.out.alloc HB4.out.size (.cells #[.int .i64 z] 3))
            have HLA := Lib.hid (own_below HL4.out ((Below.refl _ _).alloc (Nat.le_refl _) (.cells #[.int .i64 z] 3)))
            have HSZ := Lib.hid HB4.out.size
            go_wp2_with (at_builtin; go_loud (refine wpList_append_own _ rfl (.tmp 40) (.tmp 42) 23 rfl w.heap.size 3 i0 (.int .i64 0) 1 8 Tryd.underlying23 hi hz0 hz1 hz2 rfl (by decide) v2 nZ _ rfl HPA.out.z ⟨w4.heap.size, 0, none⟩ 1 1 [.int .i64 z] rfl rfl (cell_1W _ _ _) (by simp [Value.oneCell']) (by unfold maxLen; omega) (by omega) (by have := HSZ.out; simp; omega) ?_; intro v5 w5 hown1 hgrow1 hnil1; obtain ⟨g5, c5, rfl, hg5⟩ := own_some hown1 (fun e => by have h9 := (hnil1.1 e).2; simp at h9); refine Hid.out ?_))
            have hon : w5.ownsRow w.heap.size 3 1 (.slice (some ⟨g5, 0, none⟩) (nZ + 1) c5) (nZ + 1) ((Z ++ [z]).map (.int .i64)) := by rw [List.map_append]; exact hown1
            obtain ⟨q0, q3, qr⟩ := PwS.afterZ HPA.out hgrow1 hon
            have e0 := cell_of_row _ _ 0 _ _ _ q3
            have e1 := cell_of_row _ _ 1 _ _ _ q3
            have fz := frozen_of_row _ _ 1 _ _ q3
            have d0 := cell_of_row _ _ 0 _ _ _ q0
            have d1 := cell_of_row _ _ 1 _ _ _ q0
            have g0 := frozen_of_row _ _ 0 _ _ q0
            have g1 := frozen_of_row _ _ 1 _ _ q0
            have HPN := Lib.hid (PwS.putZ hne03 q0 q3 qr hon)
            have HLN := Lib.hid ((HLA.out.kept hgrow1 (own_ne HLA.out HPA.out.z ne_si)).kept (grown_setW w5 b3 1 (.slice (some ⟨g5, 0, none⟩) (nZ + 1) c5)) (.inr (own_off (HLA.out.kept hgrow1 (own_ne HLA.out HPA.out.z ne_si)) q3 ne_sw)))
            have HBN := Lib.hid ((HBA.out.grown hgrow1 (by have := HSZ.out; simp; omega) (fun q hq => (HPA.out.z.lt q hq).1)).setCell (p := ⟨b3, 1, none⟩) hge3 (.slice (some ⟨g5, 0, none⟩) (nZ + 1) c5))
            clear hg5 hon q0 q3 qr hown1 hgrow1 hnil1 HPA HBA HLA HSZ HP4 HB4 HL4 k0 k1
            refine Lib.hid ?_
            go_wp2_with fail
            refine bodyPost_ret (results_wayT rfl _ _ b0 [.slice none 0 0, .slice none 0 0] _ rfl (fail_range HPN.out.res) Tryd.underlying25 rfl (by kernel_rfl)) rfl ?_
            exact GivesW.fail HBN.out hge
        · have hm1 : Int.tmod (k : Int) 2 = 0 := by rw [Int.tmod_eq_emod_of_nonneg hk0]; omega
          have HSB := Lib.hid (implStep_even hpar (R, Z) line)
          have HMOD := Lib.hid hm1
          clear hmod hpar
          obtain ⟨W3, hW3⟩ : ∃ W, (wr.alloc (numsO [0, 0, 0] 37)).alloc (.cells #[.pointer (some ⟨wr.heap.size, 0, none⟩), .pointer (some ⟨wr.heap.size, 1, none⟩), .pointer (some ⟨wr.heap.size, 2, none⟩)] 35) = W := ⟨_, rfl⟩
          obtain ⟨xb, hxb⟩ : ∃ x, wr.heap.size = x := ⟨_, rfl⟩
          have hb3 : Below wr.heap.size wr W3 := by rw [← hW3]; exact ((Below.refl _ wr).alloc (Nat.le_refl _) _).alloc (by simp) _
          have hxx : W3.heap[xb]? = some (numsO [0, 0, 0] 37) := by rw [← hW3, ← hxb]; exact (heap_alloc_old _ _ (by simp)).trans (heap_alloc_new wr _)
          have hpp : ∀ j, j < 3 → W3.cell? ⟨xb + 1, j, none⟩ = some (.pointer (some ⟨xb, j, none⟩)) := fun j hj => by
            have h := sNew (wr.alloc (numsO [0, 0, 0] 37)) #[.pointer (some ⟨wr.heap.size, 0, none⟩), .pointer (some ⟨wr.heap.size, 1, none⟩), .pointer (some ⟨wr.heap.size, 2, none⟩)] 35 j
            rw [World.size_alloc] at h
            rw [← hW3, ← hxb]
            refine h.trans ?_
            (have h3 : j = 0 ∨ j = 1 ∨ j = 2 := (by omega); rcases h3 with rfl | rfl | rfl <;> rfl)
          have hxw : w.heap.size ≤ xb := by have := HB.out.size; omega
          have C := Lib.hid (readForm_any reachF (by omega) (by omega) line hlz W3 w w.heap.size (xb + 1) xb 37 [0, 0, 0] rfl hpp hxx (by omega) HTT.out (HB.out.trans (hb3.mono HB.out.size)) hxw)
          have HGW := Lib.hid (grownBelow hb3 (some xb))
          have HW3 : Hid ((wr.alloc (.cells #[.int .i64 0, .int .i64 0, .int .i64 0] 37)).alloc (.cells #[.pointer (some ⟨wr.heap.size, 0, none⟩), .pointer (some ⟨wr.heap.size, 1, none⟩), .pointer (some ⟨wr.heap.size, 2, none⟩)] 35) = W3) := Lib.hid hW3
          have HXB := Lib.hid hxb
          clear hW3 hb3 hxx hpp hxb
          go_wp2_with fail
          rw [HW3.out, HXB.out]
          refine C.out.mono ?_
          rintro e w4 ⟨b, vs', rfl, hx4, hvl, hy, hn, hg⟩
          have hgw := HGW.out.trans hg
          have HP4 := Lib.hid (HPW.out.turned (Nat.le_of_eq HXB.out) hgw)
          have HB4 := Lib.hid (HB.out.grown hgw (by have := HB.out.size; have := HXB.out; omega) (fun q e => by injection e; omega))
          have HL4 := Lib.hid (HL.out.kept hgw (ne_own HL.out (Nat.le_of_eq HXB.out)))
          have HYN := Lib.hid (And.intro hy hn)
          have k0 := cell_of_row _ _ 0 _ _ _ HP4.out.box
          have k1 := cell_of_row _ _ 1 _ _ _ HP4.out.box
          clear hy hn hgw hg C HGW HW3 HXB HPW HB HL f0 f1
          obtain ⟨y1, y2, y3, rfl⟩ := three_list hvl
          have x0 := nums_cell hx4 (k := 0) (by simp)
          have x1 := nums_cell hx4 (k := 1) (by simp)
          have x2 := nums_cell hx4 (k := 2) (by simp)
          replace x0 : w4.cell? ⟨xb, 0, none⟩ = some (.int .i64 y1) := x0
          replace x1 : w4.cell? ⟨xb, 1, none⟩ = some (.int .i64 y2) := x1
          replace x2 : w4.cell? ⟨xb, 2, none⟩ = some (.int .i64 y3) := x2
          clear hx4 hvl
          cases b with
          | true =>
            have HN : Hid (implK ls (k + 1) = some (R ++ [(y1, y2, y3)], Z)) := Lib.hid (by
              have h0 := HYN.out.1 rfl 0 (by omega)
              have h1 := HYN.out.1 rfl 1 (by omega)
              have h2 := HYN.out.1 rfl 2 (by omega)
              rw [HNX.out, HSB.out, show wd line 1 = _ from h0, show wd line 3 = _ from h1, show wd line 5 = _ from h2]; rfl)
            have HPA := Lib.hid (HP4.out.below ((Below.refl _ _).alloc (Nat.le_refl _) (.cells #[.int .i64 y1, .int .i64 y2, .int .i64 y3] 37)))
            have HBA := Lib.hid (HB4.out.alloc HB4.out.size (.cells #[.int .i64 y1, .int .i64 y2, .int .i64 y3] 37))
            have HLA := Lib.hid (own_below HL4.out ((Below.refl _ _).alloc (Nat.le_refl _) (.cells #[.int .i64 y1, .int .i64 y2, .int .i64 y3] 37)))
            have HSZ := Lib.hid HB4.out.size
            go_wp2_with (at_builtin; go_loud (refine wpList_append_own _ rfl (.tmp 53) (.tmp 55) 22 rfl w.heap.size 37 j0 (.agg #[.int .i64 0, .int .i64 0, .int .i64 0]) 3 24 Tryd.underlying22 hj jz0 jz1 jz2 rfl (by decide) v1 nR _ rfl HPA.out.r ⟨w4.heap.size, 0, none⟩ 1 1 [.int .i64 y1, .int .i64 y2, .int .i64 y3] rfl rfl (cell_3W _ _ _ _ _) (by simp [Value.oneCell']) (by unfold maxLen; omega) (by omega) (by have := HSZ.out; simp; omega) ?_; intro v5 w5 hown1 hgrow1 hnil1; obtain ⟨g5, c5, rfl, hg5⟩ := own_some hown1 (fun e => by have h9 := (hnil1.1 e).2; simp at h9); refine Hid.out ?_))
            have hon : w5.ownsRow w.heap.size 37 3 (.slice (some ⟨g5, 0, none⟩) (nR + 1) c5) (nR + 1) (flat (R ++ [(y1, y2, y3)])) := by rw [flat_appW]; exact hown1
            obtain ⟨q0, q3, qz⟩ := PwS.afterR HPA.out hgrow1 hon
            have e0 := cell_of_row _ _ 0 _ _ _ q3
            have e1 := cell_of_row _ _ 1 _ _ _ q3
            have fz := frozen_of_row _ _ 0 _ _ q3
            have d0 := cell_of_row _ _ 0 _ _ _ q0
            have d1 := cell_of_row _ _ 1 _ _ _ q0
            have g0 := frozen_of_row _ _ 0 _ _ q0
            have g1 := frozen_of_row _ _ 1 _ _ q0
            have HPN := Lib.hid (PwS.putR hne03 q0 q3 hon qz)
            have HLN := Lib.hid ((HLA.out.kept hgrow1 (own_ne HLA.out HPA.out.r ne_sr)).kept (grown_setW w5 b3 0 (.slice (some ⟨g5, 0, none⟩) (nR + 1) c5)) (.inr (own_off (HLA.out.kept hgrow1 (own_ne HLA.out HPA.out.r ne_sr)) q3 ne_sw)))
            have HBN := Lib.hid ((HBA.out.grown hgrow1 (by have := HSZ.out; simp; omega) (fun q hq => (HPA.out.r.lt q hq).1)).setCell (p := ⟨b3, 0, none⟩) hge3 (.slice (some ⟨g5, 0, none⟩) (nR + 1) c5))
            clear hg5 hon q0 q3 qz hown1 hgrow1 hnil1 HPA HBA HLA HSZ HP4 HB4 HL4 k0 k1
            refine Lib.hid ?_
            go_wp2_with fail
            go_roundw
            case rel => exact ⟨k + 1, _, _, nR + 1, nZ, _, _, HN.out, by omega, by go_num, by rw [List.length_append, HRL.out.1]; rfl, HRL.out.2, by omega, by omega, HPN, HBN, HLN⟩
            case measure => simp [intOf]; omega
          | false =>
            obtain ⟨j, hj9, hn⟩ := HYN.out.2 rfl
            obtain ⟨rfl, rfl, rfl⟩ := HFAIL.out (by
              rw [HSB.out]
              have h3 : j = 0 ∨ j = 1 ∨ j = 2 := by omega
              rcases h3 with rfl | rfl | rfl
              · rw [show wd line 1 = none from hn]
              · rw [show wd line 3 = none from hn]; cases wd line 1 <;> rfl
              · rw [show wd line 5 = none from hn]; cases wd line 1 <;> cases wd line 3 <;> rfl)
            clear hn
            have HPA := Lib.hid (HP4.out.below ((Below.refl _ _).alloc (Nat.le_refl _) (.cells #[.int .i64 y1, .int .i64 y2, .int .i64 y3] 37)))
            have HBA := Lib.hid (HB4.out.alloc HB4.out.size (.cells #[.int .i64 y1, .int .i64 y2, .int .i64 y3] 37))
            have HLA := Lib.hid (own_below HL4.out ((Below.refl _ _).alloc (Nat.le_refl _) (.cells #[.int .i64 y1, .int .i64 y2, .int .i64 y3] 37)))
            have HSZ := Lib.hid HB4.out.size
            go_wp2_with (at_builtin; go_loud (refine wpList_append_own _ rfl (.tmp 53) (.tmp 55) 22 rfl w.heap.size 37 j0 (.agg #[.int .i64 0, .int .i64 0, .int .i64 0]) 3 24 Tryd.underlying22 hj jz0 jz1 jz2 rfl (by decide) v1 nR _ rfl HPA.out.r ⟨w4.heap.size, 0, none⟩ 1 1 [.int .i64 y1, .int .i64 y2, .int .i64 y3] rfl rfl (cell_3W _ _ _ _ _) (by simp [Value.oneCell']) (by unfold maxLen; omega) (by omega) (by have := HSZ.out; simp; omega) ?_; intro v5 w5 hown1 hgrow1 hnil1; obtain ⟨g5, c5, rfl, hg5⟩ := own_some hown1 (fun e => by have h9 := (hnil1.1 e).2; simp at h9); refine Hid.out ?_))
            have hon : w5.ownsRow w.heap.size 37 3 (.slice (some ⟨g5, 0, none⟩) (nR + 1) c5) (nR + 1) (flat (R ++ [(y1, y2, y3)])) := by rw [flat_appW]; exact hown1
            obtain ⟨q0, q3, qz⟩ := PwS.afterR HPA.out hgrow1 hon
            have e0 := cell_of_row _ _ 0 _ _ _ q3
            have e1 := cell_of_row _ _ 1 _ _ _ q3
            have fz := frozen_of_row _ _ 0 _ _ q3
            have d0 := cell_of_row _ _ 0 _ _ _ q0
            have d1 := cell_of_row _ _ 1 _ _ _ q0
            have g0 := frozen_of_row _ _ 0 _ _ q0
            have g1 := frozen_of_row _ _ 1 _ _ q0
            have HPN := Lib.hid (PwS.putR hne03 q0 q3 hon qz)
            have HLN := Lib.hid ((HLA.out.kept hgrow1 (own_ne HLA.out HPA.out.r ne_sr)).kept (grown_setW w5 b3 0 (.slice (some ⟨g5, 0, none⟩) (nR + 1) c5)) (.inr (own_off (HLA.out.kept hgrow1 (own_ne HLA.out HPA.out.r ne_sr)) q3 ne_sw)))
            have HBN := Lib.hid ((HBA.out.grown hgrow1 (by have := HSZ.out; simp; omega) (fun q hq => (HPA.out.r.lt q hq).1)).setCell (p := ⟨b3, 0, none⟩) hge3 (.slice (some ⟨g5, 0, none⟩) (nR + 1) c5))
            clear hg5 hon q0 q3 qz hown1 hgrow1 hnil1 HPA HBA HLA HSZ HP4 HB4 HL4 k0 k1
            refine Lib.hid ?_
            go_wp2_with fail
            refine bodyPost_ret (results_wayT rfl _ _ b0 [.slice none 0 0, .slice none 0 0] _ rfl (fail_range HPN.out.res) Tryd.underlying25 rfl (by kernel_rfl)) rfl ?_
            exact GivesW.fail HBN.out hge
      · obtain rfl : k = m := by omega
        have HALL : Hid (∀ rs zs, goodW rs zs → txt rs zs rs.length = t → rs = R ∧ zs = Z) := Lib.hid (fun rs zs hg he => by
          have h1 := HTX.out rs zs hg he
          rw [Nat.add_sub_cancel, HST.out] at h1
          injection h1 with h1
          injection h1 with h2 h3
          exact ⟨h2.symm, h3.symm⟩)
        obtain ⟨rfl, rfl⟩ := HRL.out
        obtain ⟨A1, c1, rfl⟩ := own_form2 HPW.out.r
        obtain ⟨A2, c2, rfl⟩ := own_form2 HPW.out.z
        have HWAY := Lib.hid (HPW.out.way rfl rfl)
        have k0 := cell_of_row _ _ 0 _ _ _ HPW.out.box
        have k1 := cell_of_row _ _ 1 _ _ _ HPW.out.box
        have hR6 : R.length ≤ maxLen := by unfold maxLen; omega
        clear HL HST HSX HTX
        by_cases hg : goodW R Z
        · obtain ⟨T, hT⟩ : ∃ T, txt R Z R.length = T := ⟨_, rfl⟩
          have C1 := Lib.hid (implTxt_any c1 c2 HWAY.out hR6 T true (fun _ => ⟨hT.symm, rfl⟩) (fun g => absurd hg g) (HTT.out _ HB.out).1 (HTT.out _ HB.out).2.2)
          have HG := Lib.hid hg
          have HT := Lib.hid hT
          clear hg hT
          go_wp2_with fail
          refine C1.out.mono ?_
          rintro e w4 ⟨rfl, hb⟩
          have HP4 := Lib.hid (HPW.out.below hb)
          have HB4 := Lib.hid (HB.out.trans (hb.mono HB.out.size))
          clear hb C1 HPW HB k0 k1 HWAY
          by_cases he : T = t
          · subst he
            obtain ⟨rfl, rfl, rfl⟩ := HP.out.yes R Z HG.out HT.out
            have hself : (T.toList != T.toList) = false := by simp
            have hself2 : (T.toList == T.toList) = true := by simp
            have k0 := cell_of_row _ _ 0 _ _ _ HP4.out.box
            have k1 := cell_of_row _ _ 1 _ _ _ HP4.out.box
            have e0 := cell_of_row _ _ 0 _ _ _ HP4.out.res
            have e1 := cell_of_row _ _ 1 _ _ _ HP4.out.res
            have f0 := frozen_of_row _ _ 0 _ _ HP4.out.res
            have f1 := frozen_of_row _ _ 1 _ _ HP4.out.res
            go_wp2_with fail
            refine bodyPost_ret (results_wayT rfl _ _ b0 [.slice A1 R9.length c1, .slice A2 Z9.length c2] _ rfl (fail_range HP4.out.res) Tryd.underlying25 rfl (by kernel_rfl)) rfl ?_
            exact ⟨_, _, rfl, HP4.out.done.1, HP4.out.done.2, (HB4.out.setCell (p := ⟨b0, 0, none⟩) hge _).setCell (p := ⟨b0, 1, none⟩) hge _⟩
          · have hne := strneW he
            have hne2 := toList_ne he
            obtain ⟨rfl, rfl, rfl⟩ := HP.out.not (fun rs zs hg he2 => by
              obtain ⟨rfl, rfl⟩ := HALL.out rs zs hg he2
              exact he (HT.out.symm.trans he2))
            clear he
            have hC0 := cell_of_row _ _ 0 _ _ _ HP4.out.res
            have hC1 := cell_of_row _ _ 1 _ _ _ HP4.out.res
            have hF0 := frozen_of_row _ _ 0 _ _ HP4.out.res
            have hF1 := frozen_of_row _ _ 1 _ _ HP4.out.res
            go_wp2_with fail
            refine bodyPost_ret (results_wayT rfl _ _ b0 [.slice none 0 0, .slice none 0 0] _ rfl (fail_range HP4.out.res) Tryd.underlying25 rfl (by kernel_rfl)) rfl ?_
            exact GivesW.fail HB4.out hge
        · have C1 := Lib.hid (implTxt_any c1 c2 HWAY.out hR6 ⟨#[]⟩ false (fun g => absurd g hg) (fun _ => ⟨rfl, rfl⟩) (HTT.out _ HB.out).1 (HTT.out _ HB.out).2.2)
          obtain ⟨rfl, rfl, rfl⟩ := HP.out.not (fun rs zs hg2 he2 => by
            obtain ⟨rfl, rfl⟩ := HALL.out rs zs hg2 he2
            exact hg hg2)
          clear hg
          go_wp2_with fail
          refine C1.out.mono ?_
          rintro e w4 ⟨rfl, hb⟩
          have HP4 := Lib.hid (HPW.out.below hb)
          have HB4 := Lib.hid (HB.out.trans (hb.mono HB.out.size))
          clear hb C1 HPW HB HWAY k0 k1
          have hC0 := cell_of_row _ _ 0 _ _ _ HP4.out.res
          have hC1 := cell_of_row _ _ 1 _ _ _ HP4.out.res
          have hF0 := frozen_of_row _ _ 0 _ _ HP4.out.res
          have hF1 := frozen_of_row _ _ 1 _ _ HP4.out.res
          go_wp2_with fail
          refine bodyPost_ret (results_wayT rfl _ _ b0 [.slice none 0 0, .slice none 0 0] _ rfl (fail_range HP4.out.res) Tryd.underlying25 rfl (by kernel_rfl)) rfl ?_
          exact GivesW.fail HB4.out hge
  · refine (implSplit_no t ⟨#[10]⟩ W1 (by unfold maxLen; omega) (by decide) (fun h => hbig h.1)).mono ?_
    rintro e w1 ⟨gl, cl, rfl, hgl, hown, hb⟩
    obtain ⟨rfl, rfl, rfl⟩ := HP.out.not (fun rs zs hg he => by have := txt_400 hg he; omega)
    have hr := (hb.block _ (by omega)).trans HRES.out
    have HB2 := Lib.hid (HB1.out.trans (hb.mono HB1.out.size))
    have HR := Lib.hid hr
    have hC0 := cell_of_row _ _ 0 _ _ _ hr
    have hC1 := cell_of_row _ _ 1 _ _ _ hr
    have hF0 := frozen_of_row _ _ 0 _ _ hr
    have hF1 := frozen_of_row _ _ 1 _ _ hr
    clear hr hb hown
    go_wp2_with fail
    refine bodyPost_ret (results_wayT rfl _ _ b0 [.slice none 0 0, .slice none 0 0] _ rfl (fail_range HR.out) Tryd.underlying25 rfl (by kernel_rfl)) rfl ?_
    exact GivesW.fail HB2.out hge
set_option maxHeartbeats 1000000 in
theorem specPW_any (t : ByteArray) (w : World) (ht : t.size ≤ 1048576) (R9 : List (Int × Int × Int)) (Z9 : List Int) (x9 : Bool) (hp : ParsedW t R9 Z9 x9) :
    Calls Tryd.prog 4 #[.string t] w (GivesW w R9 Z9 x9) := by
  have C := Lib.hid (l2Parse_any t (w.alloc (wayO (.slice none 0 0) (.slice none 0 0))) ht R9 Z9 x9 hp)
  have hres : (w.alloc (wayO (.slice none 0 0) (.slice none 0 0))).heap[w.heap.size]? = some (.cells #[.slice none 0 0, .slice none 0 0] 25 (0, 0)) := heap_alloc_new w _
  have HB0 : Hid (Below w.heap.size w (w.alloc (wayO (.slice none 0 0) (.slice none 0 0)))) := Lib.hid ((Below.refl _ w).alloc (Nat.le_refl _) _)
  have HRES := Lib.hid hres
  clear hp hres
  go_enter Tryd.func4, Tryd.ntmps4
  go_wp2_with fail
  refine C.out.mono ?_
  rintro e w1 ⟨v1, v2, rfl, hr, hz, hb⟩
  have HR := Lib.hid ((hb.block _ (by simp)).trans HRES.out)
  have HB1 := Lib.hid (HB0.out.trans (hb.mono HB0.out.size))
  have HR1 := Lib.hid (own_low hr HB0.out.size)
  have HZ1 := Lib.hid (own_low hz HB0.out.size)
  obtain ⟨A1, c1, rfl⟩ := own_form2 hr
  obtain ⟨A2, c2, rfl⟩ := own_form2 hz
  have e0 := cell_of_row _ _ 0 _ _ _ HR.out
  have e1 := cell_of_row _ _ 1 _ _ _ HR.out
  have f0 := frozen_of_row _ _ 0 _ _ HR.out
  have f1 := frozen_of_row _ _ 1 _ _ HR.out
  clear hr hz hb C HRES HB0
  go_wp2_with fail
  refine bodyPost_ret (results_wayT rfl _ _ w.heap.size [.slice A1 R9.length c1, .slice A2 Z9.length c2] _ rfl (fail_range HR.out) Tryd.underlying25 rfl (by kernel_rfl)) rfl ?_
  have k := heap_setA (u' := .slice A1 R9.length c1) HR.out
  have r1 := HR1.out.kept (grown_setW w1 w.heap.size 0 (.slice A1 R9.length c1)) (.inr (own_off HR1.out HR.out ne_wr))
  have z1 := HZ1.out.kept (grown_setW w1 w.heap.size 0 (.slice A1 R9.length c1)) (.inr (own_off HZ1.out HR.out ne_wi))
  exact ⟨_, _, rfl, r1.kept (grown_setW _ w.heap.size 1 (.slice A2 Z9.length c2)) (.inr (own_off r1 k ne_wr)), z1.kept (grown_setW _ w.heap.size 1 (.slice A2 Z9.length c2)) (.inr (own_off z1 k ne_wi)), (HB1.out.setCell (p := ⟨w.heap.size, 0, none⟩) (Nat.le_refl _) _).setCell (p := ⟨w.heap.size, 1, none⟩) (Nat.le_refl _) _⟩
end Go.Proofs.YtkdolpgnaabdaabDoor
