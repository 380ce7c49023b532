/- FnChamberings holds: the greatest group packs, lockages are as few as told, spots move back; at every list of bytes. -/
import Derived.Test.YtkdolpgnaabdaabCgF
import Derived.Test.YtkdolpgnaabdaabCfM
import Derived.Test.YtkdolpgnaabdaabChV
import Derived.Test.YtkdolpgnaabdaabChX
import Derived.Test.YtkdolpgnaabdaabBig
import Derived.Test.YtkdolpgnaabdaabSt0
import Derived.Test.YtkdolpgnaabdaabVInt
import Derived.OpenShut
import Derived.ShutString
import Derived.ChangeOld
import Derived.WalkLawsBesides
import Derived.Lib.SmallJoins
namespace Go.Proofs.Ytkdolpgnaabdaab.fnChamberings
open Go.ChangeShapes Go.WideShapes Go.ChangeAt Go.RowKit Go.PlainAid Go.Sort
open Go.ChangeMaps (open_string shut_string)
set_option linter.unusedVariables false
set_option linter.unusedSimpArgs false

structure WC (W : World) (bx : Nat) (l d : Int) (gH qH : Nat) (hs : List THull) : Prop where
  box : BoxM W bx l d
  h : IsHulls W W.heap.size (some ⟨gH, 0, none⟩) qH hs
theorem WC.below {W W' : World} {bx gH qH : Nat} {l d : Int} {hs : List THull} (h : WC W bx l d gH qH hs) (hb : Below W.heap.size W W') : WC W' bx l d gH qH hs :=
  ⟨h.box.all hb, (h.h.below hb (Nat.le_refl _)).all⟩
theorem has_up {W W' : World} {A : Option Addr} {xs : List Value} (h : Has W W.heap.size A xs) (hb : Below W.heap.size W W') : Has W' W'.heap.size A xs := (h.below hb).more hb.size
theorem spots_up {W W' : World} {A : Option Addr} {n : Nat} {vs : List TSpot} (h : IsSpots W W.heap.size A n vs) (hb : Below W.heap.size W W') : IsSpots W' W'.heap.size A n vs := (h.below hb (Nat.le_refl _)).all
set_option maxRecDepth 100000 in
set_option maxHeartbeats 4000000 in
theorem walk (A : Option Addr) (n c : Nat) (zs : List Int) (w : World) (hI : IsInts .u8 w A n zs) :
    Calls Try.prog 4 #[.slice A n c] w fun e w' => e = .returned (.bool true) ∧ Below w.heap.size w w' := by
  by_cases hbig : 65536 < n
  · have CB := Lib.hid (fun W => bigL_yes A n c W hbig hI.2.1)
    clear hI
    go_enter Try.func4, Try.ntmps4
    go_wp2_with fail
    refine (CB.out _).mono ?_
    rintro e w0 ⟨rfl, rfl⟩
    go_wp2_with fail
    go_ret
    exact ⟨rfl, Below.refl _ _⟩
  have HC := Lib.hid (Code_.of hI (by omega))
  have CB := Lib.hid (fun W => bigL_no A n c W (by omega))
  have HB0 := Lib.hid (Below.refl w.heap.size w)
  obtain ⟨i0, hi, hz0, hz1, hz2⟩ := info_parts Try.infoHull'
  clear hI hbig
  go_enter Try.func4, Try.ntmps4
  go_wp2_with fail
  refine (CB.out _).mono ?_
  rintro e w0 ⟨rfl, rfl⟩
  clear CB
  go_wp2_with fail
  refine (drawMost_any c HC.out).mono ?_
  rintro e w1 ⟨l, d, gH, qH, cH, hs, rfl, hq8, hqc, hgH, hov, hb⟩
  have HB1 := Lib.hid ((HB0.out.trans (hb.mono HB0.out.size)).alloc (HB0.out.trans (hb.mono HB0.out.size)).size (.cells #[.int .i64 l, .int .i64 d] 43))
  have Q1 : Hid (WC (w1.alloc (.cells #[.int .i64 l, .int .i64 d] 43)) w1.heap.size l d gH qH hs) := Lib.hid ⟨BoxM.new w1 l d, ((own_Hulls hov).below (below1x w1 _) (Nat.le_refl _)).all⟩
  have hHl := (own_Hulls hov).len
  clear hb hov HB0 hgH
  obtain ⟨L, x, hM⟩ := mostA_ex ⟨l, d⟩ hs
  obtain ⟨f, y, hF⟩ := fewA_ex ⟨l, d⟩ hs
  obtain ⟨O, z, hO⟩ := lioA_ex ⟨l, d⟩ hs
  obtain ⟨rfl, kx, kz, kn⟩ := chamb hM hF hO
  obtain ⟨m, hm⟩ : ∃ m, L.length = m := ⟨_, rfl⟩
  obtain ⟨mo, hmo⟩ : ∃ m, O.length = m := ⟨_, rfl⟩
  have hm4 : m ≤ 4 := by rw [← hm]; exact hM.len
  have hmo4 : mo ≤ 4 := by rw [← hmo]; exact hO.len
  have HM := Lib.hid hM
  have HF := Lib.hid hF
  have HL := Lib.hid hO
  have KX := Lib.hid kx
  have KZ := Lib.hid kz
  have KN := Lib.hid kn
  have HMl := Lib.hid hm
  have HOl := Lib.hid hmo
  have HHL := Lib.hid hHl
  clear hM hF hO kx kz kn hm hmo hHl
  have k0 := Q1.out.box.c0
  have k1 := Q1.out.box.c1
  go_wp2_with fail
  refine (mostI_any l d cH Q1.out.h (by omega) hqc L x HM.out m HMl.out).mono ?_
  rintro e w2 ⟨ga, ca, rfl, hoa, hb⟩
  have HA2 := Lib.hid (own_hasv hoa)
  have HB2 := Lib.hid (HB1.out.trans (hb.mono HB1.out.size))
  have Q2 := Lib.hid (Q1.out.below hb)
  clear HB1 Q1 k0 k1
  have k0 := Q2.out.box.c0
  have k1 := Q2.out.box.c1
  clear hb hoa
  go_wp2_with fail
  refine (mostS_any l d cH Q2.out.h (by omega) hqc L x HM.out m HMl.out).mono ?_
  rintro e w3 ⟨gb, cb, rfl, hob, hb⟩
  have HE3 := Lib.hid (own_hasv hob)
  have HA3 := Lib.hid (has_up HA2.out hb)
  have HB3 := Lib.hid (HB2.out.trans (hb.mono HB2.out.size))
  have Q3 := Lib.hid (Q2.out.below hb)
  clear HB2 Q2 k0 k1
  have k0 := Q3.out.box.c0
  have k1 := Q3.out.box.c1
  clear hb hob HA2
  have hxx : (x != x) = false := by simp
  go_wp2_with fail
  refine (vInt_same (some ⟨ga, 0, none⟩) (some ⟨gb, 0, none⟩) m ca cb _ _ L _ HMl.out (by unfold maxLen; omega) HA3.out HE3.out).mono ?_
  rintro e w4 ⟨rfl, hD⟩
  have hb := hD.below w3.heap.size
  have HA4 := Lib.hid (has_up HA3.out hb)
  have HB4 := Lib.hid (HB3.out.trans (hb.mono HB3.out.size))
  have Q4 := Lib.hid (Q3.out.below hb)
  clear HB3 Q3 k0 k1
  have k0 := Q4.out.box.c0
  have k1 := Q4.out.box.c1
  clear hb hD HA3 HE3 hxx
  go_wp2_with fail
  refine (fewI_any l d cH Q4.out.h (by omega) hqc f z HF.out).mono ?_
  rintro e w5 ⟨rfl, hb⟩
  have HA5 := Lib.hid (has_up HA4.out hb)
  have HB5 := Lib.hid (HB4.out.trans (hb.mono HB4.out.size))
  have Q5 := Lib.hid (Q4.out.below hb)
  clear HB4 Q4 k0 k1
  have k0 := Q5.out.box.c0
  have k1 := Q5.out.box.c1
  clear hb HA4
  go_wp2_with fail
  refine (fewS_any l d cH Q5.out.h (by omega) hqc f z HF.out).mono ?_
  rintro e w6 ⟨rfl, hb⟩
  have HA6 := Lib.hid (has_up HA5.out hb)
  have HB6 := Lib.hid (HB5.out.trans (hb.mono HB5.out.size))
  have Q6 := Lib.hid (Q5.out.below hb)
  clear HB5 Q5 k0 k1
  have k0 := Q6.out.box.c0
  have k1 := Q6.out.box.c1
  clear hb HA5
  have hff : (f != f) = false := by simp
  have hzz : (z != z) = false := by simp
  go_wp2_with fail
  refine (lioI_any l d cH Q6.out.h (by omega) hqc O z HL.out mo HOl.out).mono ?_
  rintro e w7 ⟨gd, cd, rfl, hod, hb⟩
  have HO7 := Lib.hid (own_hasv hod)
  have HA7 := Lib.hid (has_up HA6.out hb)
  have HB7 := Lib.hid (HB6.out.trans (hb.mono HB6.out.size))
  have Q7 := Lib.hid (Q6.out.below hb)
  clear HB6 Q6 k0 k1
  have k0 := Q7.out.box.c0
  have k1 := Q7.out.box.c1
  clear hb hod HA6
  go_wp2_with fail
  refine (lioS_any l d cH Q7.out.h (by omega) hqc O z HL.out mo HOl.out).mono ?_
  rintro e w8 ⟨ge, ce, rfl, hoe, hb⟩
  have HE8 := Lib.hid (own_hasv hoe)
  have HO8 := Lib.hid (has_up HO7.out hb)
  have HA8 := Lib.hid (has_up HA7.out hb)
  have HB8 := Lib.hid (HB7.out.trans (hb.mono HB7.out.size))
  have Q8 := Lib.hid (Q7.out.below hb)
  clear HB7 Q7 k0 k1
  have k0 := Q8.out.box.c0
  have k1 := Q8.out.box.c1
  clear hb hoe HA7 HO7
  go_wp2_with fail
  refine (vInt_same (some ⟨gd, 0, none⟩) (some ⟨ge, 0, none⟩) mo cd ce _ _ O _ HOl.out (by unfold maxLen; omega) HO8.out HE8.out).mono ?_
  rintro e w9 ⟨rfl, hD⟩
  have hb := hD.below w8.heap.size
  have HA9 := Lib.hid (has_up HA8.out hb)
  have HO9 := Lib.hid (has_up HO8.out hb)
  have HB9 := Lib.hid (HB8.out.trans (hb.mono HB8.out.size))
  have Q9 := Lib.hid (Q8.out.below hb)
  clear HB8 Q8 k0 k1
  have k0 := Q9.out.box.c0
  have k1 := Q9.out.box.c1
  clear hb hD HA8 HO8 HE8 hff hzz HM HF HL
  cases x with
  | false =>
    have hzf : z = false := by
      cases z with
      | false => rfl
      | true => have := (KZ.out rfl).2; cases this
    subst hzf
    have HB0 := Lib.hid HB9.out
    clear HB9 Q9 HA9 HO9 KX KZ KN k0 k1 HMl HOl HHL
    go_wp2_with fail
    refine (drawShift_any c (HC.out.on HB0.out)).mono ?_
    rintro e w1 ⟨l, d, gH, qH, cH, hs, g2, q2, c2, ss, b, rfl, hq8, hqc, hq40, hqc2, hbz, hH, hS, hb⟩
    have HB1 := Lib.hid ((HB0.out.trans (hb.mono HB0.out.size)).alloc (HB0.out.trans (hb.mono HB0.out.size)).size (.cells #[.int .i64 l, .int .i64 d] 43))
    have Q1 : Hid (WC (w1.alloc (.cells #[.int .i64 l, .int .i64 d] 43)) w1.heap.size l d gH qH hs) := Lib.hid ⟨BoxM.new w1 l d, (hH.below (below1x w1 _) (Nat.le_refl _)).all⟩
    have HS1 := Lib.hid (spots_up hS (below1x w1 (.cells #[.int .i64 l, .int .i64 d] 43)))
    clear hb hH hS HB0
    obtain ⟨L, x, hA⟩ := shA_ex ⟨l, d⟩ hs ss b
    obtain ⟨m, hm⟩ : ∃ m, L.length = m := ⟨_, rfl⟩
    have hm4 : m ≤ 4 := by rw [← hm]; exact hA.len
    have HA := Lib.hid hA
    have HMl := Lib.hid hm
    clear hA hm
    have k0 := Q1.out.box.c0
    have k1 := Q1.out.box.c1
    go_wp2_with fail
    refine (shiftI_any l d cH c2 b Q1.out.h HS1.out (by omega) (by omega) L x HA.out m HMl.out).mono ?_
    rintro e w2 ⟨ga, ca, rfl, hoa, hb⟩
    have hmc := own_capH hoa
    have HO2 := Lib.hid (own_Spots hoa)
    have HS2 := Lib.hid (spots_up HS1.out hb)
    have HB2 := Lib.hid (HB1.out.trans (hb.mono HB1.out.size))
    have Q2 := Lib.hid (Q1.out.below hb)
    clear HB1 Q1 k0 k1
    have k0 := Q2.out.box.c0
    have k1 := Q2.out.box.c1
    clear hb hoa HS1
    go_wp2_with fail
    refine (shiftS_any l d cH c2 b Q2.out.h HS2.out (by omega) (by omega) L x HA.out m HMl.out).mono ?_
    rintro e w3 ⟨gb, cb, rfl, hob, hb⟩
    have HP3 := Lib.hid (own_Spots hob)
    have HO3 := Lib.hid (spots_up HO2.out hb)
    have HS3 := Lib.hid (spots_up HS2.out hb)
    have HB3 := Lib.hid (HB2.out.trans (hb.mono HB2.out.size))
    have Q3 := Lib.hid (Q2.out.below hb)
    clear HB2 Q2 k0 k1
    have k0 := Q3.out.box.c0
    have k1 := Q3.out.box.c1
    clear hb hob HS2 HO2
    have hxx : (x != x) = false := by simp
    go_wp2_with fail
    refine (vSpots_same ca cb HO3.out HP3.out (by unfold maxLen; omega)).mono ?_
    rintro e w4 ⟨rfl, hb⟩
    have HO4 := Lib.hid (spots_up HO3.out hb)
    have HS4 := Lib.hid (spots_up HS3.out hb)
    have HB4 := Lib.hid (HB3.out.trans (hb.mono HB3.out.size))
    have Q4 := Lib.hid (Q3.out.below hb)
    clear HB3 Q3 k0 k1
    have k0 := Q4.out.box.c0
    have k1 := Q4.out.box.c1
    clear hb HP3 HO3 HS3 hxx
    cases x with
    | false =>
      go_wp2_with fail
      refine bodyPost_ret (results_tmp rfl _ _ _) rfl ?_
      exact ⟨ret_bool rfl, HB4.out⟩
    | true =>
      obtain ⟨f1, f2, f3⟩ := shift_facts HA.out
      have hsl := HS4.out.len
      obtain rfl : q2 = m := by have := HMl.out; omega
      have F2 := Lib.hid f2
      have F3 := Lib.hid f3
      clear f1 f2 f3
      have hbw : IntKind.i64.wrap (-b) = -b := by rw [IntKind.wrap_i64]; omega
      have hbw2 : wrap64 (-b) = -b := by unfold wrap64; omega
      go_wp2_with fail
      refine (shiftI_any l d cH ca (-b) Q4.out.h HO4.out (by omega) (by omega) ss true F3.out q2 hsl).mono ?_
      rintro e w5 ⟨gd, cd, rfl, hod, hb⟩
      have HP5 := Lib.hid (own_Spots hod)
      have HO5 := Lib.hid (spots_up HO4.out hb)
      have HS5 := Lib.hid (spots_up HS4.out hb)
      have HB5 := Lib.hid (HB4.out.trans (hb.mono HB4.out.size))
      have Q5 := Lib.hid (Q4.out.below hb)
      clear HB4 Q4 k0 k1
      have k0 := Q5.out.box.c0
      have k1 := Q5.out.box.c1
      clear hb hod HO4 HS4
      go_wp2_with fail
      refine (vSpots_same cd c2 HP5.out HS5.out (by unfold maxLen; omega)).mono ?_
      rintro e w6 ⟨rfl, hb⟩
      have HO6 := Lib.hid (spots_up HO5.out hb)
      have HB6 := Lib.hid (HB5.out.trans (hb.mono HB5.out.size))
      have Q6 := Lib.hid (Q5.out.below hb)
      clear HB5 Q5 k0 k1
      have k0 := Q6.out.box.c0
      have k1 := Q6.out.box.c1
      clear hb HP5 HO5 HS5
      go_wp2_with fail
      refine (isPacking_any l d cH ca Q6.out.h HO6.out (by omega) (by omega)).mono ?_
      rintro e w7 ⟨rfl, hb⟩
      have HB7 := Lib.hid (HB6.out.trans (hb.mono HB6.out.size))
      rw [F2.out]
      clear hb HO6 HB6 Q6 k0 k1
      go_wp2_with fail
      refine bodyPost_ret (results_tmp rfl _ _ _) rfl ?_
      exact ⟨ret_bool rfl, HB7.out⟩
  | true =>
    obtain ⟨hc, hg, hfil, hall⟩ := KX.out rfl
    have hl4 : qH ≤ 4 := by have := hg.1; have := HHL.out; omega
    have HCC := Lib.hid hc
    have HG := Lib.hid hg
    have HFIL := Lib.hid hfil
    have HALL := Lib.hid hall
    clear hc hg hfil hall KX
    have HR0 := Lib.hid (World.ownsRow_made (size := 3) (e := 51) w9 #[] 0 (Nat.le_refl _) (by unfold maxLen; omega) rfl)
    have HRB := Lib.hid (below1x w9 (.cells #[] 51))
    go_wp2_with fail
    go_loopw [17, 18] (fun v i wr => ∃ (k q g1 c1 : Nat) (T : List THull), k ≤ qH ∧ i = .int .i64 k ∧ v = .slice (some ⟨g1, 0, none⟩) q c1 ∧ q ≤ k ∧ Hid (T = (hs.take k).filter (fun h => decide (h.x0 ∈ L))) ∧ Hid (wr.ownsRow w9.heap.size 51 3 (.slice (some ⟨g1, 0, none⟩) q c1) q (flatHull T)) ∧ Hid (Below w9.heap.size w9 wr)) (fun v i _ => qH - (intOf i).toNat)
    case atStart => exact ⟨0, 0, _, 0, [], by omega, rfl, rfl, by omega, Lib.hid (by simp), HR0, HRB⟩
    case round =>
      clear HR0 HRB
      obtain ⟨k, q, g1, c1, T, hk, rfl, rfl, hq, HT, HR, HRB⟩ := hrel
      by_cases hlt : k < qH
      · have hkl : k < hs.length := by rw [HHL.out]; exact hlt
        obtain ⟨a, ha, _, hh⟩ := (Q9.out.h.has.below (HRB.out)).Hull hkl
        injection ha with ha
        subst ha
        have e0 := hh.c0
        have e1 := hh.c1
        have e2 := hh.c2
        have HTK : Hid ((hs.take (k + 1)).filter (fun h => decide (h.x0 ∈ L)) = T ++ (if decide ((hs.getD k noHull).x0 ∈ L) = true then [hs.getD k noHull] else [])) := Lib.hid (by
          rw [HT.out, List.take_succ_eq_append_getElem hkl, List.filter_append, getHull hkl]
          congr 1
          rw [List.filter_cons, List.filter_nil])
        clear hh HT
        simp only [addO, Nat.zero_add] at e0 e1 e2
        generalize hs.getD k noHull = V at e0 e1 e2 HTK
        obtain ⟨h0, h1, h2⟩ := V
        dsimp only at e0 e1 e2 HTK
        obtain ⟨b, hb9⟩ : ∃ b, b = decide (h0 ∈ L) := ⟨_, rfl⟩
        have HB9b := Lib.hid hb9
        rw [← hb9] at HTK
        have hk0i : (0 : Int) ≤ (k : Int) := by omega
        have hk1i : (k : Int) < (qH : Int) := by omega
        have CV := Lib.hid (vHas_any ca HMl.out (HA9.out.below HRB.out) (by omega) h0 b hb9)
        clear hb9 hkl k0 k1
        go_wp2_with fail
        refine CV.out.mono ?_
        rintro e wv ⟨rfl, rfl⟩
        clear CV
        cases b with
        | true =>
          have HT2 : Hid (T ++ [⟨h0, h1, h2⟩] = (hs.take (k + 1)).filter (fun h => decide (h.x0 ∈ L))) := Lib.hid (by rw [HTK.out]; rfl)
          have HRA := Lib.hid (HR.out.alloc (.cells #[.int .i64 h0, .int .i64 h1, .int .i64 h2] 51))
          have HBA := Lib.hid (HRB.out.alloc HRB.out.size (.cells #[.int .i64 h0, .int .i64 h1, .int .i64 h2] 51))
          have HSZ := Lib.hid HRB.out.size
          clear HTK HR HRB
          go_wp2_with (at_builtin; go_loud (refine wpList_append_own _ rfl (.tmp 123) (.tmp 128) 44 rfl w9.heap.size 51 i0 (.agg #[.int .i64 0, .int .i64 0, .int .i64 0]) 3 24 Try.underlying44 hi hz0 hz1 hz2 rfl (by decide) (.slice (some ⟨g1, 0, none⟩) q c1) q _ rfl HRA.out ⟨wr.heap.size, 0, none⟩ 1 1 [.int .i64 h0, .int .i64 h1, .int .i64 h2] rfl rfl (cell_three_newH _ _ _ _ _) (by simp [Value.oneCell']) (by unfold maxLen; omega) (by omega) (by have := HSZ.out; simp; omega) ?_; intro v1 w6 hown1 hgrow1 hnil1; obtain ⟨g5, c5, rfl, hg5⟩ := own_some hown1 (fun e => absurd (hnil1.1 e).2 (by decide)); have HRN : Hid (w6.ownsRow w9.heap.size 51 3 (.slice (some ⟨g5, 0, none⟩) (q + 1) c5) (q + 1) (flatHull (T ++ [⟨h0, h1, h2⟩]))) := Lib.hid (by rw [flatHull_append]; exact hown1); have HBN := Lib.hid (HBA.out.grown hgrow1 (by have := HSZ.out; simp; omega) (fun r hr => (HRA.out.lt r hr).1)); clear hnil1 hgrow1 hown1 HRA HBA HSZ))
          go_roundw
          case rel => exact ⟨k + 1, q + 1, g5, c5, _, by omega, by go_num, rfl, by omega, HT2, HRN, HBN⟩
          case measure => simp [intOf]; omega
        | false =>
          have HT2 : Hid (T = (hs.take (k + 1)).filter (fun h => decide (h.x0 ∈ L))) := Lib.hid (by rw [HTK.out]; simp)
          clear HTK
          go_wp2_with fail
          go_roundw
          case rel => exact ⟨k + 1, q, g1, c1, T, by omega, by go_num, rfl, by omega, HT2, HR, HRB⟩
          case measure => simp [intOf]; omega
      · have hkq : k = qH := by omega
        have hTT : T = hs.filter (fun h => decide (h.x0 ∈ L)) := by rw [HT.out, hkq, ← HHL.out, List.take_length]
        have HB10 := Lib.hid (HB9.out.trans (HRB.out.mono HB9.out.size))
        have Q10 := Lib.hid (Q9.out.below HRB.out)
        have HA10 := Lib.hid (has_up HA9.out HRB.out)
        have HO10 := Lib.hid (has_up HO9.out HRB.out)
        have HI := Lib.hid (own_Hulls HR.out)
        have hcap := own_capH HR.out
        have hgT : goodHs T := by rw [hTT]; exact goodHs_sub HG.out (List.filter_sublist ..)
        have hfT : fits ⟨l, d⟩ T = true := by rw [hTT]; exact HFIL.out
        obtain ⟨L1, x1, hA1⟩ := firstA_ex ⟨l, d⟩ T
        obtain rfl : x1 = true := by rw [first_yes hA1 HCC.out hgT]; exact hfT
        obtain ⟨L2, x2, hA2⟩ := firstA_ex ⟨l, d⟩ hs
        have hx2 := first_yes hA2 HCC.out HG.out
        have HA1 := Lib.hid hA1
        have HA2 := Lib.hid hA2
        have HX2 := Lib.hid hx2
        have hend : ¬ (k : Int) < (qH : Int) := by omega
        clear hkq hTT hgT hfT hA1 hA2 hx2 HB9 Q9 HA9 HO9 HR HT HRB k0 k1 HFIL
        have k0 := Q10.out.box.c0
        have k1 := Q10.out.box.c1
        go_wp2_with fail
        refine (firstI_any l d c1 HI.out (by omega) hcap L1 true HA1.out).mono ?_
        rintro e w11 ⟨g11, c11, rfl, -, hb⟩
        have HO11 := Lib.hid (has_up HO10.out hb)
        have HB11 := Lib.hid (HB10.out.trans (hb.mono HB10.out.size))
        have Q11 := Lib.hid (Q10.out.below hb)
        clear HB10 Q10 k0 k1
        have k0 := Q11.out.box.c0
        have k1 := Q11.out.box.c1
        clear hb HO10 HI HA10
        go_wp2_with fail
        refine (firstI_any l d cH Q11.out.h (by omega) hqc L2 x2 HA2.out).mono ?_
        rintro e w12 ⟨g12, c12, rfl, -, hb⟩
        have HO12 := Lib.hid (has_up HO11.out hb)
        have HB12 := Lib.hid (HB11.out.trans (hb.mono HB11.out.size))
        clear hb HO11 HA1 HA2 HB11 Q11 k0 k1
        by_cases hmq : m = qH
        · have heq : ((m : Int) == (qH : Int)) = true := by simp [hmq]
          obtain rfl : x2 = true := by rw [HX2.out]; exact HALL.out.2 (by rw [HMl.out, HHL.out]; exact hmq)
          have HMQ := Lib.hid hmq
          clear hmq HX2
          cases z with
          | false =>
            have HB0 := Lib.hid HB12.out
            clear HB12 HO12 KZ KN HALL HMQ
            go_wp2_with fail
            refine (drawShift_any c (HC.out.on HB0.out)).mono ?_
            rintro e w1 ⟨l, d, gH, qH, cH, hs, g2, q2, c2, ss, b, rfl, hq8, hqc, hq40, hqc2, hbz, hH, hS, hb⟩
            have HB1 := Lib.hid ((HB0.out.trans (hb.mono HB0.out.size)).alloc (HB0.out.trans (hb.mono HB0.out.size)).size (.cells #[.int .i64 l, .int .i64 d] 43))
            have Q1 : Hid (WC (w1.alloc (.cells #[.int .i64 l, .int .i64 d] 43)) w1.heap.size l d gH qH hs) := Lib.hid ⟨BoxM.new w1 l d, (hH.below (below1x w1 _) (Nat.le_refl _)).all⟩
            have HS1 := Lib.hid (spots_up hS (below1x w1 (.cells #[.int .i64 l, .int .i64 d] 43)))
            clear hb hH hS HB0
            obtain ⟨L, x, hA⟩ := shA_ex ⟨l, d⟩ hs ss b
            obtain ⟨m, hm⟩ : ∃ m, L.length = m := ⟨_, rfl⟩
            have hm4 : m ≤ 4 := by rw [← hm]; exact hA.len
            have HA := Lib.hid hA
            have HMl := Lib.hid hm
            clear hA hm
            have k0 := Q1.out.box.c0
            have k1 := Q1.out.box.c1
            go_wp2_with fail
            refine (shiftI_any l d cH c2 b Q1.out.h HS1.out (by omega) (by omega) L x HA.out m HMl.out).mono ?_
            rintro e w2 ⟨ga, ca, rfl, hoa, hb⟩
            have hmc := own_capH hoa
            have HO2 := Lib.hid (own_Spots hoa)
            have HS2 := Lib.hid (spots_up HS1.out hb)
            have HB2 := Lib.hid (HB1.out.trans (hb.mono HB1.out.size))
            have Q2 := Lib.hid (Q1.out.below hb)
            clear HB1 Q1 k0 k1
            have k0 := Q2.out.box.c0
            have k1 := Q2.out.box.c1
            clear hb hoa HS1
            go_wp2_with fail
            refine (shiftS_any l d cH c2 b Q2.out.h HS2.out (by omega) (by omega) L x HA.out m HMl.out).mono ?_
            rintro e w3 ⟨gb, cb, rfl, hob, hb⟩
            have HP3 := Lib.hid (own_Spots hob)
            have HO3 := Lib.hid (spots_up HO2.out hb)
            have HS3 := Lib.hid (spots_up HS2.out hb)
            have HB3 := Lib.hid (HB2.out.trans (hb.mono HB2.out.size))
            have Q3 := Lib.hid (Q2.out.below hb)
            clear HB2 Q2 k0 k1
            have k0 := Q3.out.box.c0
            have k1 := Q3.out.box.c1
            clear hb hob HS2 HO2
            have hxx : (x != x) = false := by simp
            go_wp2_with fail
            refine (vSpots_same ca cb HO3.out HP3.out (by unfold maxLen; omega)).mono ?_
            rintro e w4 ⟨rfl, hb⟩
            have HO4 := Lib.hid (spots_up HO3.out hb)
            have HS4 := Lib.hid (spots_up HS3.out hb)
            have HB4 := Lib.hid (HB3.out.trans (hb.mono HB3.out.size))
            have Q4 := Lib.hid (Q3.out.below hb)
            clear HB3 Q3 k0 k1
            have k0 := Q4.out.box.c0
            have k1 := Q4.out.box.c1
            clear hb HP3 HO3 HS3 hxx
            cases x with
            | false =>
              go_wp2_with fail
              refine bodyPost_ret (results_tmp rfl _ _ _) rfl ?_
              exact ⟨ret_bool rfl, HB4.out⟩
            | true =>
              obtain ⟨f1, f2, f3⟩ := shift_facts HA.out
              have hsl := HS4.out.len
              obtain rfl : q2 = m := by have := HMl.out; omega
              have F2 := Lib.hid f2
              have F3 := Lib.hid f3
              clear f1 f2 f3
              have hbw : IntKind.i64.wrap (-b) = -b := by rw [IntKind.wrap_i64]; omega
              have hbw2 : wrap64 (-b) = -b := by unfold wrap64; omega
              go_wp2_with fail
              refine (shiftI_any l d cH ca (-b) Q4.out.h HO4.out (by omega) (by omega) ss true F3.out q2 hsl).mono ?_
              rintro e w5 ⟨gd, cd, rfl, hod, hb⟩
              have HP5 := Lib.hid (own_Spots hod)
              have HO5 := Lib.hid (spots_up HO4.out hb)
              have HS5 := Lib.hid (spots_up HS4.out hb)
              have HB5 := Lib.hid (HB4.out.trans (hb.mono HB4.out.size))
              have Q5 := Lib.hid (Q4.out.below hb)
              clear HB4 Q4 k0 k1
              have k0 := Q5.out.box.c0
              have k1 := Q5.out.box.c1
              clear hb hod HO4 HS4
              go_wp2_with fail
              refine (vSpots_same cd c2 HP5.out HS5.out (by unfold maxLen; omega)).mono ?_
              rintro e w6 ⟨rfl, hb⟩
              have HO6 := Lib.hid (spots_up HO5.out hb)
              have HB6 := Lib.hid (HB5.out.trans (hb.mono HB5.out.size))
              have Q6 := Lib.hid (Q5.out.below hb)
              clear HB5 Q5 k0 k1
              have k0 := Q6.out.box.c0
              have k1 := Q6.out.box.c1
              clear hb HP5 HO5 HS5
              go_wp2_with fail
              refine (isPacking_any l d cH ca Q6.out.h HO6.out (by omega) (by omega)).mono ?_
              rintro e w7 ⟨rfl, hb⟩
              have HB7 := Lib.hid (HB6.out.trans (hb.mono HB6.out.size))
              rw [F2.out]
              clear hb HO6 HB6 Q6 k0 k1
              go_wp2_with fail
              refine bodyPost_ret (results_tmp rfl _ _ _) rfl ?_
              exact ⟨ret_bool rfl, HB7.out⟩
          | true =>
            have hmoq : mo = qH := by have := (KZ.out rfl).1; rw [HOl.out, HHL.out] at this; exact this
            by_cases h0 : 0 < mo
            · obtain ⟨n1, n2, n3, n4, n5, n6⟩ := KN.out rfl (by rw [HHL.out, ← hmoq]; exact h0)
              rw [HHL.out, ← hmoq] at n1 n4 n6
              rw [HMl.out] at n4
              have N5 := Lib.hid n5
              have hfe : (f == 1) = true := by simp; exact (N5.out.2 (by rw [HMl.out, HHL.out]; exact HMQ.out))
              obtain ⟨j, hj⟩ : ∃ j : Nat, (mo : Int) - 1 = (j : Int) := ⟨mo - 1, by omega⟩
              have hjm : mo - 1 = j := by omega
              have hjl : j < O.length := by rw [HOl.out]; omega
              obtain ⟨a1, ha1, _, e1⟩ := HO12.out.intAt (k := j) hjl
              injection ha1 with ha1
              subst ha1
              rw [addO, Nat.zero_add] at e1
              have hgetd : O.getD (mo - 1) 0 = O[j] := by rw [hjm, List.getD_eq_getElem?_getD, List.getElem?_eq_getElem hjl]; rfl
              rw [hgetd] at n1 n6
              generalize O[j] = v at e1 n1 n6
              obtain ⟨pm, hpm⟩ : ∃ pm, f * (m : Int) = pm := ⟨_, rfl⟩
              have hpm0 : 0 ≤ pm ∧ pm ≤ 16 := by
                have : f = 1 ∨ f = 2 ∨ f = 3 ∨ f = 4 := by omega
                rcases this with e | e | e | e <;> (subst e; omega)
              rw [hpm] at n4
              have hc1 : ¬ v + 1 < f := by omega
              have hc2 : ¬ f < 1 := by omega
              have hc3 : ¬ pm < (mo : Int) := by omega
              have hj0 : (0 : Int) ≤ (j : Int) := by omega
              have hj1 : (j : Int) < (mo : Int) := by omega
              have h0i : (0 : Int) < (mo : Int) := by omega
              have heq2 : ((m : Int) == (mo : Int)) = true := by rw [hmoq]; exact heq
              have HB0 := Lib.hid HB12.out
              clear HB12 HO12 KZ KN HALL HMQ N5 n5 hgetd hjl hjm hmoq n4
              go_wp2_with fail
              refine (drawShift_any c (HC.out.on HB0.out)).mono ?_
              rintro e w1 ⟨l, d, gH, qH, cH, hs, g2, q2, c2, ss, b, rfl, hq8, hqc, hq40, hqc2, hbz, hH, hS, hb⟩
              have HB1 := Lib.hid ((HB0.out.trans (hb.mono HB0.out.size)).alloc (HB0.out.trans (hb.mono HB0.out.size)).size (.cells #[.int .i64 l, .int .i64 d] 43))
              have Q1 : Hid (WC (w1.alloc (.cells #[.int .i64 l, .int .i64 d] 43)) w1.heap.size l d gH qH hs) := Lib.hid ⟨BoxM.new w1 l d, (hH.below (below1x w1 _) (Nat.le_refl _)).all⟩
              have HS1 := Lib.hid (spots_up hS (below1x w1 (.cells #[.int .i64 l, .int .i64 d] 43)))
              clear hb hH hS HB0
              obtain ⟨L, x, hA⟩ := shA_ex ⟨l, d⟩ hs ss b
              obtain ⟨m, hm⟩ : ∃ m, L.length = m := ⟨_, rfl⟩
              have hm4 : m ≤ 4 := by rw [← hm]; exact hA.len
              have HA := Lib.hid hA
              have HMl := Lib.hid hm
              clear hA hm
              have k0 := Q1.out.box.c0
              have k1 := Q1.out.box.c1
              go_wp2_with fail
              refine (shiftI_any l d cH c2 b Q1.out.h HS1.out (by omega) (by omega) L x HA.out m HMl.out).mono ?_
              rintro e w2 ⟨ga, ca, rfl, hoa, hb⟩
              have hmc := own_capH hoa
              have HO2 := Lib.hid (own_Spots hoa)
              have HS2 := Lib.hid (spots_up HS1.out hb)
              have HB2 := Lib.hid (HB1.out.trans (hb.mono HB1.out.size))
              have Q2 := Lib.hid (Q1.out.below hb)
              clear HB1 Q1 k0 k1
              have k0 := Q2.out.box.c0
              have k1 := Q2.out.box.c1
              clear hb hoa HS1
              go_wp2_with fail
              refine (shiftS_any l d cH c2 b Q2.out.h HS2.out (by omega) (by omega) L x HA.out m HMl.out).mono ?_
              rintro e w3 ⟨gb, cb, rfl, hob, hb⟩
              have HP3 := Lib.hid (own_Spots hob)
              have HO3 := Lib.hid (spots_up HO2.out hb)
              have HS3 := Lib.hid (spots_up HS2.out hb)
              have HB3 := Lib.hid (HB2.out.trans (hb.mono HB2.out.size))
              have Q3 := Lib.hid (Q2.out.below hb)
              clear HB2 Q2 k0 k1
              have k0 := Q3.out.box.c0
              have k1 := Q3.out.box.c1
              clear hb hob HS2 HO2
              have hxx : (x != x) = false := by simp
              go_wp2_with fail
              refine (vSpots_same ca cb HO3.out HP3.out (by unfold maxLen; omega)).mono ?_
              rintro e w4 ⟨rfl, hb⟩
              have HO4 := Lib.hid (spots_up HO3.out hb)
              have HS4 := Lib.hid (spots_up HS3.out hb)
              have HB4 := Lib.hid (HB3.out.trans (hb.mono HB3.out.size))
              have Q4 := Lib.hid (Q3.out.below hb)
              clear HB3 Q3 k0 k1
              have k0 := Q4.out.box.c0
              have k1 := Q4.out.box.c1
              clear hb HP3 HO3 HS3 hxx
              cases x with
              | false =>
                go_wp2_with fail
                refine bodyPost_ret (results_tmp rfl _ _ _) rfl ?_
                exact ⟨ret_bool rfl, HB4.out⟩
              | true =>
                obtain ⟨f1, f2, f3⟩ := shift_facts HA.out
                have hsl := HS4.out.len
                obtain rfl : q2 = m := by have := HMl.out; omega
                have F2 := Lib.hid f2
                have F3 := Lib.hid f3
                clear f1 f2 f3
                have hbw : IntKind.i64.wrap (-b) = -b := by rw [IntKind.wrap_i64]; omega
                have hbw2 : wrap64 (-b) = -b := by unfold wrap64; omega
                go_wp2_with fail
                refine (shiftI_any l d cH ca (-b) Q4.out.h HO4.out (by omega) (by omega) ss true F3.out q2 hsl).mono ?_
                rintro e w5 ⟨gd, cd, rfl, hod, hb⟩
                have HP5 := Lib.hid (own_Spots hod)
                have HO5 := Lib.hid (spots_up HO4.out hb)
                have HS5 := Lib.hid (spots_up HS4.out hb)
                have HB5 := Lib.hid (HB4.out.trans (hb.mono HB4.out.size))
                have Q5 := Lib.hid (Q4.out.below hb)
                clear HB4 Q4 k0 k1
                have k0 := Q5.out.box.c0
                have k1 := Q5.out.box.c1
                clear hb hod HO4 HS4
                go_wp2_with fail
                refine (vSpots_same cd c2 HP5.out HS5.out (by unfold maxLen; omega)).mono ?_
                rintro e w6 ⟨rfl, hb⟩
                have HO6 := Lib.hid (spots_up HO5.out hb)
                have HB6 := Lib.hid (HB5.out.trans (hb.mono HB5.out.size))
                have Q6 := Lib.hid (Q5.out.below hb)
                clear HB5 Q5 k0 k1
                have k0 := Q6.out.box.c0
                have k1 := Q6.out.box.c1
                clear hb HP5 HO5 HS5
                go_wp2_with fail
                refine (isPacking_any l d cH ca Q6.out.h HO6.out (by omega) (by omega)).mono ?_
                rintro e w7 ⟨rfl, hb⟩
                have HB7 := Lib.hid (HB6.out.trans (hb.mono HB6.out.size))
                rw [F2.out]
                clear hb HO6 HB6 Q6 k0 k1
                go_wp2_with fail
                refine bodyPost_ret (results_tmp rfl _ _ _) rfl ?_
                exact ⟨ret_bool rfl, HB7.out⟩
            · have h0i : ¬ (0 : Int) < (mo : Int) := by omega
              have HB0 := Lib.hid HB12.out
              clear HB12 HO12 KZ KN HALL HMQ hmoq
              go_wp2_with fail
              refine (drawShift_any c (HC.out.on HB0.out)).mono ?_
              rintro e w1 ⟨l, d, gH, qH, cH, hs, g2, q2, c2, ss, b, rfl, hq8, hqc, hq40, hqc2, hbz, hH, hS, hb⟩
              have HB1 := Lib.hid ((HB0.out.trans (hb.mono HB0.out.size)).alloc (HB0.out.trans (hb.mono HB0.out.size)).size (.cells #[.int .i64 l, .int .i64 d] 43))
              have Q1 : Hid (WC (w1.alloc (.cells #[.int .i64 l, .int .i64 d] 43)) w1.heap.size l d gH qH hs) := Lib.hid ⟨BoxM.new w1 l d, (hH.below (below1x w1 _) (Nat.le_refl _)).all⟩
              have HS1 := Lib.hid (spots_up hS (below1x w1 (.cells #[.int .i64 l, .int .i64 d] 43)))
              clear hb hH hS HB0
              obtain ⟨L, x, hA⟩ := shA_ex ⟨l, d⟩ hs ss b
              obtain ⟨m, hm⟩ : ∃ m, L.length = m := ⟨_, rfl⟩
              have hm4 : m ≤ 4 := by rw [← hm]; exact hA.len
              have HA := Lib.hid hA
              have HMl := Lib.hid hm
              clear hA hm
              have k0 := Q1.out.box.c0
              have k1 := Q1.out.box.c1
              go_wp2_with fail
              refine (shiftI_any l d cH c2 b Q1.out.h HS1.out (by omega) (by omega) L x HA.out m HMl.out).mono ?_
              rintro e w2 ⟨ga, ca, rfl, hoa, hb⟩
              have hmc := own_capH hoa
              have HO2 := Lib.hid (own_Spots hoa)
              have HS2 := Lib.hid (spots_up HS1.out hb)
              have HB2 := Lib.hid (HB1.out.trans (hb.mono HB1.out.size))
              have Q2 := Lib.hid (Q1.out.below hb)
              clear HB1 Q1 k0 k1
              have k0 := Q2.out.box.c0
              have k1 := Q2.out.box.c1
              clear hb hoa HS1
              go_wp2_with fail
              refine (shiftS_any l d cH c2 b Q2.out.h HS2.out (by omega) (by omega) L x HA.out m HMl.out).mono ?_
              rintro e w3 ⟨gb, cb, rfl, hob, hb⟩
              have HP3 := Lib.hid (own_Spots hob)
              have HO3 := Lib.hid (spots_up HO2.out hb)
              have HS3 := Lib.hid (spots_up HS2.out hb)
              have HB3 := Lib.hid (HB2.out.trans (hb.mono HB2.out.size))
              have Q3 := Lib.hid (Q2.out.below hb)
              clear HB2 Q2 k0 k1
              have k0 := Q3.out.box.c0
              have k1 := Q3.out.box.c1
              clear hb hob HS2 HO2
              have hxx : (x != x) = false := by simp
              go_wp2_with fail
              refine (vSpots_same ca cb HO3.out HP3.out (by unfold maxLen; omega)).mono ?_
              rintro e w4 ⟨rfl, hb⟩
              have HO4 := Lib.hid (spots_up HO3.out hb)
              have HS4 := Lib.hid (spots_up HS3.out hb)
              have HB4 := Lib.hid (HB3.out.trans (hb.mono HB3.out.size))
              have Q4 := Lib.hid (Q3.out.below hb)
              clear HB3 Q3 k0 k1
              have k0 := Q4.out.box.c0
              have k1 := Q4.out.box.c1
              clear hb HP3 HO3 HS3 hxx
              cases x with
              | false =>
                go_wp2_with fail
                refine bodyPost_ret (results_tmp rfl _ _ _) rfl ?_
                exact ⟨ret_bool rfl, HB4.out⟩
              | true =>
                obtain ⟨f1, f2, f3⟩ := shift_facts HA.out
                have hsl := HS4.out.len
                obtain rfl : q2 = m := by have := HMl.out; omega
                have F2 := Lib.hid f2
                have F3 := Lib.hid f3
                clear f1 f2 f3
                have hbw : IntKind.i64.wrap (-b) = -b := by rw [IntKind.wrap_i64]; omega
                have hbw2 : wrap64 (-b) = -b := by unfold wrap64; omega
                go_wp2_with fail
                refine (shiftI_any l d cH ca (-b) Q4.out.h HO4.out (by omega) (by omega) ss true F3.out q2 hsl).mono ?_
                rintro e w5 ⟨gd, cd, rfl, hod, hb⟩
                have HP5 := Lib.hid (own_Spots hod)
                have HO5 := Lib.hid (spots_up HO4.out hb)
                have HS5 := Lib.hid (spots_up HS4.out hb)
                have HB5 := Lib.hid (HB4.out.trans (hb.mono HB4.out.size))
                have Q5 := Lib.hid (Q4.out.below hb)
                clear HB4 Q4 k0 k1
                have k0 := Q5.out.box.c0
                have k1 := Q5.out.box.c1
                clear hb hod HO4 HS4
                go_wp2_with fail
                refine (vSpots_same cd c2 HP5.out HS5.out (by unfold maxLen; omega)).mono ?_
                rintro e w6 ⟨rfl, hb⟩
                have HO6 := Lib.hid (spots_up HO5.out hb)
                have HB6 := Lib.hid (HB5.out.trans (hb.mono HB5.out.size))
                have Q6 := Lib.hid (Q5.out.below hb)
                clear HB5 Q5 k0 k1
                have k0 := Q6.out.box.c0
                have k1 := Q6.out.box.c1
                clear hb HP5 HO5 HS5
                go_wp2_with fail
                refine (isPacking_any l d cH ca Q6.out.h HO6.out (by omega) (by omega)).mono ?_
                rintro e w7 ⟨rfl, hb⟩
                have HB7 := Lib.hid (HB6.out.trans (hb.mono HB6.out.size))
                rw [F2.out]
                clear hb HO6 HB6 Q6 k0 k1
                go_wp2_with fail
                refine bodyPost_ret (results_tmp rfl _ _ _) rfl ?_
                exact ⟨ret_bool rfl, HB7.out⟩
        · have heq : ((m : Int) == (qH : Int)) = false := by simp; omega
          obtain rfl : x2 = false := by
            rw [HX2.out, Bool.eq_false_iff]
            intro hf
            have := HALL.out.1 hf
            rw [HMl.out, HHL.out] at this
            exact hmq this
          have HMQ := Lib.hid hmq
          clear hmq HX2
          cases z with
          | false =>
            have HB0 := Lib.hid HB12.out
            clear HB12 HO12 KZ KN HALL HMQ
            go_wp2_with fail
            refine (drawShift_any c (HC.out.on HB0.out)).mono ?_
            rintro e w1 ⟨l, d, gH, qH, cH, hs, g2, q2, c2, ss, b, rfl, hq8, hqc, hq40, hqc2, hbz, hH, hS, hb⟩
            have HB1 := Lib.hid ((HB0.out.trans (hb.mono HB0.out.size)).alloc (HB0.out.trans (hb.mono HB0.out.size)).size (.cells #[.int .i64 l, .int .i64 d] 43))
            have Q1 : Hid (WC (w1.alloc (.cells #[.int .i64 l, .int .i64 d] 43)) w1.heap.size l d gH qH hs) := Lib.hid ⟨BoxM.new w1 l d, (hH.below (below1x w1 _) (Nat.le_refl _)).all⟩
            have HS1 := Lib.hid (spots_up hS (below1x w1 (.cells #[.int .i64 l, .int .i64 d] 43)))
            clear hb hH hS HB0
            obtain ⟨L, x, hA⟩ := shA_ex ⟨l, d⟩ hs ss b
            obtain ⟨m, hm⟩ : ∃ m, L.length = m := ⟨_, rfl⟩
            have hm4 : m ≤ 4 := by rw [← hm]; exact hA.len
            have HA := Lib.hid hA
            have HMl := Lib.hid hm
            clear hA hm
            have k0 := Q1.out.box.c0
            have k1 := Q1.out.box.c1
            go_wp2_with fail
            refine (shiftI_any l d cH c2 b Q1.out.h HS1.out (by omega) (by omega) L x HA.out m HMl.out).mono ?_
            rintro e w2 ⟨ga, ca, rfl, hoa, hb⟩
            have hmc := own_capH hoa
            have HO2 := Lib.hid (own_Spots hoa)
            have HS2 := Lib.hid (spots_up HS1.out hb)
            have HB2 := Lib.hid (HB1.out.trans (hb.mono HB1.out.size))
            have Q2 := Lib.hid (Q1.out.below hb)
            clear HB1 Q1 k0 k1
            have k0 := Q2.out.box.c0
            have k1 := Q2.out.box.c1
            clear hb hoa HS1
            go_wp2_with fail
            refine (shiftS_any l d cH c2 b Q2.out.h HS2.out (by omega) (by omega) L x HA.out m HMl.out).mono ?_
            rintro e w3 ⟨gb, cb, rfl, hob, hb⟩
            have HP3 := Lib.hid (own_Spots hob)
            have HO3 := Lib.hid (spots_up HO2.out hb)
            have HS3 := Lib.hid (spots_up HS2.out hb)
            have HB3 := Lib.hid (HB2.out.trans (hb.mono HB2.out.size))
            have Q3 := Lib.hid (Q2.out.below hb)
            clear HB2 Q2 k0 k1
            have k0 := Q3.out.box.c0
            have k1 := Q3.out.box.c1
            clear hb hob HS2 HO2
            have hxx : (x != x) = false := by simp
            go_wp2_with fail
            refine (vSpots_same ca cb HO3.out HP3.out (by unfold maxLen; omega)).mono ?_
            rintro e w4 ⟨rfl, hb⟩
            have HO4 := Lib.hid (spots_up HO3.out hb)
            have HS4 := Lib.hid (spots_up HS3.out hb)
            have HB4 := Lib.hid (HB3.out.trans (hb.mono HB3.out.size))
            have Q4 := Lib.hid (Q3.out.below hb)
            clear HB3 Q3 k0 k1
            have k0 := Q4.out.box.c0
            have k1 := Q4.out.box.c1
            clear hb HP3 HO3 HS3 hxx
            cases x with
            | false =>
              go_wp2_with fail
              refine bodyPost_ret (results_tmp rfl _ _ _) rfl ?_
              exact ⟨ret_bool rfl, HB4.out⟩
            | true =>
              obtain ⟨f1, f2, f3⟩ := shift_facts HA.out
              have hsl := HS4.out.len
              obtain rfl : q2 = m := by have := HMl.out; omega
              have F2 := Lib.hid f2
              have F3 := Lib.hid f3
              clear f1 f2 f3
              have hbw : IntKind.i64.wrap (-b) = -b := by rw [IntKind.wrap_i64]; omega
              have hbw2 : wrap64 (-b) = -b := by unfold wrap64; omega
              go_wp2_with fail
              refine (shiftI_any l d cH ca (-b) Q4.out.h HO4.out (by omega) (by omega) ss true F3.out q2 hsl).mono ?_
              rintro e w5 ⟨gd, cd, rfl, hod, hb⟩
              have HP5 := Lib.hid (own_Spots hod)
              have HO5 := Lib.hid (spots_up HO4.out hb)
              have HS5 := Lib.hid (spots_up HS4.out hb)
              have HB5 := Lib.hid (HB4.out.trans (hb.mono HB4.out.size))
              have Q5 := Lib.hid (Q4.out.below hb)
              clear HB4 Q4 k0 k1
              have k0 := Q5.out.box.c0
              have k1 := Q5.out.box.c1
              clear hb hod HO4 HS4
              go_wp2_with fail
              refine (vSpots_same cd c2 HP5.out HS5.out (by unfold maxLen; omega)).mono ?_
              rintro e w6 ⟨rfl, hb⟩
              have HO6 := Lib.hid (spots_up HO5.out hb)
              have HB6 := Lib.hid (HB5.out.trans (hb.mono HB5.out.size))
              have Q6 := Lib.hid (Q5.out.below hb)
              clear HB5 Q5 k0 k1
              have k0 := Q6.out.box.c0
              have k1 := Q6.out.box.c1
              clear hb HP5 HO5 HS5
              go_wp2_with fail
              refine (isPacking_any l d cH ca Q6.out.h HO6.out (by omega) (by omega)).mono ?_
              rintro e w7 ⟨rfl, hb⟩
              have HB7 := Lib.hid (HB6.out.trans (hb.mono HB6.out.size))
              rw [F2.out]
              clear hb HO6 HB6 Q6 k0 k1
              go_wp2_with fail
              refine bodyPost_ret (results_tmp rfl _ _ _) rfl ?_
              exact ⟨ret_bool rfl, HB7.out⟩
          | true =>
            have hmoq : mo = qH := by have := (KZ.out rfl).1; rw [HOl.out, HHL.out] at this; exact this
            by_cases h0 : 0 < mo
            · obtain ⟨n1, n2, n3, n4, n5, n6⟩ := KN.out rfl (by rw [HHL.out, ← hmoq]; exact h0)
              rw [HHL.out, ← hmoq] at n1 n4 n6
              rw [HMl.out] at n4
              have N5 := Lib.hid n5
              have hfe : (f == 1) = false := by simp; exact (fun e9 => HMQ.out (by have := N5.out.1 e9; rw [HMl.out, HHL.out] at this; exact this))
              obtain ⟨j, hj⟩ : ∃ j : Nat, (mo : Int) - 1 = (j : Int) := ⟨mo - 1, by omega⟩
              have hjm : mo - 1 = j := by omega
              have hjl : j < O.length := by rw [HOl.out]; omega
              obtain ⟨a1, ha1, _, e1⟩ := HO12.out.intAt (k := j) hjl
              injection ha1 with ha1
              subst ha1
              rw [addO, Nat.zero_add] at e1
              have hgetd : O.getD (mo - 1) 0 = O[j] := by rw [hjm, List.getD_eq_getElem?_getD, List.getElem?_eq_getElem hjl]; rfl
              rw [hgetd] at n1 n6
              generalize O[j] = v at e1 n1 n6
              obtain ⟨pm, hpm⟩ : ∃ pm, f * (m : Int) = pm := ⟨_, rfl⟩
              have hpm0 : 0 ≤ pm ∧ pm ≤ 16 := by
                have : f = 1 ∨ f = 2 ∨ f = 3 ∨ f = 4 := by omega
                rcases this with e | e | e | e <;> (subst e; omega)
              rw [hpm] at n4
              have hc1 : ¬ v + 1 < f := by omega
              have hc2 : ¬ f < 1 := by omega
              have hc3 : ¬ pm < (mo : Int) := by omega
              have hj0 : (0 : Int) ≤ (j : Int) := by omega
              have hj1 : (j : Int) < (mo : Int) := by omega
              have h0i : (0 : Int) < (mo : Int) := by omega
              have heq2 : ((m : Int) == (mo : Int)) = false := by rw [hmoq]; exact heq
              have HB0 := Lib.hid HB12.out
              clear HB12 HO12 KZ KN HALL HMQ N5 n5 hgetd hjl hjm hmoq n4
              go_wp2_with fail
              refine (drawShift_any c (HC.out.on HB0.out)).mono ?_
              rintro e w1 ⟨l, d, gH, qH, cH, hs, g2, q2, c2, ss, b, rfl, hq8, hqc, hq40, hqc2, hbz, hH, hS, hb⟩
              have HB1 := Lib.hid ((HB0.out.trans (hb.mono HB0.out.size)).alloc (HB0.out.trans (hb.mono HB0.out.size)).size (.cells #[.int .i64 l, .int .i64 d] 43))
              have Q1 : Hid (WC (w1.alloc (.cells #[.int .i64 l, .int .i64 d] 43)) w1.heap.size l d gH qH hs) := Lib.hid ⟨BoxM.new w1 l d, (hH.below (below1x w1 _) (Nat.le_refl _)).all⟩
              have HS1 := Lib.hid (spots_up hS (below1x w1 (.cells #[.int .i64 l, .int .i64 d] 43)))
              clear hb hH hS HB0
              obtain ⟨L, x, hA⟩ := shA_ex ⟨l, d⟩ hs ss b
              obtain ⟨m, hm⟩ : ∃ m, L.length = m := ⟨_, rfl⟩
              have hm4 : m ≤ 4 := by rw [← hm]; exact hA.len
              have HA := Lib.hid hA
              have HMl := Lib.hid hm
              clear hA hm
              have k0 := Q1.out.box.c0
              have k1 := Q1.out.box.c1
              go_wp2_with fail
              refine (shiftI_any l d cH c2 b Q1.out.h HS1.out (by omega) (by omega) L x HA.out m HMl.out).mono ?_
              rintro e w2 ⟨ga, ca, rfl, hoa, hb⟩
              have hmc := own_capH hoa
              have HO2 := Lib.hid (own_Spots hoa)
              have HS2 := Lib.hid (spots_up HS1.out hb)
              have HB2 := Lib.hid (HB1.out.trans (hb.mono HB1.out.size))
              have Q2 := Lib.hid (Q1.out.below hb)
              clear HB1 Q1 k0 k1
              have k0 := Q2.out.box.c0
              have k1 := Q2.out.box.c1
              clear hb hoa HS1
              go_wp2_with fail
              refine (shiftS_any l d cH c2 b Q2.out.h HS2.out (by omega) (by omega) L x HA.out m HMl.out).mono ?_
              rintro e w3 ⟨gb, cb, rfl, hob, hb⟩
              have HP3 := Lib.hid (own_Spots hob)
              have HO3 := Lib.hid (spots_up HO2.out hb)
              have HS3 := Lib.hid (spots_up HS2.out hb)
              have HB3 := Lib.hid (HB2.out.trans (hb.mono HB2.out.size))
              have Q3 := Lib.hid (Q2.out.below hb)
              clear HB2 Q2 k0 k1
              have k0 := Q3.out.box.c0
              have k1 := Q3.out.box.c1
              clear hb hob HS2 HO2
              have hxx : (x != x) = false := by simp
              go_wp2_with fail
              refine (vSpots_same ca cb HO3.out HP3.out (by unfold maxLen; omega)).mono ?_
              rintro e w4 ⟨rfl, hb⟩
              have HO4 := Lib.hid (spots_up HO3.out hb)
              have HS4 := Lib.hid (spots_up HS3.out hb)
              have HB4 := Lib.hid (HB3.out.trans (hb.mono HB3.out.size))
              have Q4 := Lib.hid (Q3.out.below hb)
              clear HB3 Q3 k0 k1
              have k0 := Q4.out.box.c0
              have k1 := Q4.out.box.c1
              clear hb HP3 HO3 HS3 hxx
              cases x with
              | false =>
                go_wp2_with fail
                refine bodyPost_ret (results_tmp rfl _ _ _) rfl ?_
                exact ⟨ret_bool rfl, HB4.out⟩
              | true =>
                obtain ⟨f1, f2, f3⟩ := shift_facts HA.out
                have hsl := HS4.out.len
                obtain rfl : q2 = m := by have := HMl.out; omega
                have F2 := Lib.hid f2
                have F3 := Lib.hid f3
                clear f1 f2 f3
                have hbw : IntKind.i64.wrap (-b) = -b := by rw [IntKind.wrap_i64]; omega
                have hbw2 : wrap64 (-b) = -b := by unfold wrap64; omega
                go_wp2_with fail
                refine (shiftI_any l d cH ca (-b) Q4.out.h HO4.out (by omega) (by omega) ss true F3.out q2 hsl).mono ?_
                rintro e w5 ⟨gd, cd, rfl, hod, hb⟩
                have HP5 := Lib.hid (own_Spots hod)
                have HO5 := Lib.hid (spots_up HO4.out hb)
                have HS5 := Lib.hid (spots_up HS4.out hb)
                have HB5 := Lib.hid (HB4.out.trans (hb.mono HB4.out.size))
                have Q5 := Lib.hid (Q4.out.below hb)
                clear HB4 Q4 k0 k1
                have k0 := Q5.out.box.c0
                have k1 := Q5.out.box.c1
                clear hb hod HO4 HS4
                go_wp2_with fail
                refine (vSpots_same cd c2 HP5.out HS5.out (by unfold maxLen; omega)).mono ?_
                rintro e w6 ⟨rfl, hb⟩
                have HO6 := Lib.hid (spots_up HO5.out hb)
                have HB6 := Lib.hid (HB5.out.trans (hb.mono HB5.out.size))
                have Q6 := Lib.hid (Q5.out.below hb)
                clear HB5 Q5 k0 k1
                have k0 := Q6.out.box.c0
                have k1 := Q6.out.box.c1
                clear hb HP5 HO5 HS5
                go_wp2_with fail
                refine (isPacking_any l d cH ca Q6.out.h HO6.out (by omega) (by omega)).mono ?_
                rintro e w7 ⟨rfl, hb⟩
                have HB7 := Lib.hid (HB6.out.trans (hb.mono HB6.out.size))
                rw [F2.out]
                clear hb HO6 HB6 Q6 k0 k1
                go_wp2_with fail
                refine bodyPost_ret (results_tmp rfl _ _ _) rfl ?_
                exact ⟨ret_bool rfl, HB7.out⟩
            · have h0i : ¬ (0 : Int) < (mo : Int) := by omega
              have HB0 := Lib.hid HB12.out
              clear HB12 HO12 KZ KN HALL HMQ hmoq
              go_wp2_with fail
              refine (drawShift_any c (HC.out.on HB0.out)).mono ?_
              rintro e w1 ⟨l, d, gH, qH, cH, hs, g2, q2, c2, ss, b, rfl, hq8, hqc, hq40, hqc2, hbz, hH, hS, hb⟩
              have HB1 := Lib.hid ((HB0.out.trans (hb.mono HB0.out.size)).alloc (HB0.out.trans (hb.mono HB0.out.size)).size (.cells #[.int .i64 l, .int .i64 d] 43))
              have Q1 : Hid (WC (w1.alloc (.cells #[.int .i64 l, .int .i64 d] 43)) w1.heap.size l d gH qH hs) := Lib.hid ⟨BoxM.new w1 l d, (hH.below (below1x w1 _) (Nat.le_refl _)).all⟩
              have HS1 := Lib.hid (spots_up hS (below1x w1 (.cells #[.int .i64 l, .int .i64 d] 43)))
              clear hb hH hS HB0
              obtain ⟨L, x, hA⟩ := shA_ex ⟨l, d⟩ hs ss b
              obtain ⟨m, hm⟩ : ∃ m, L.length = m := ⟨_, rfl⟩
              have hm4 : m ≤ 4 := by rw [← hm]; exact hA.len
              have HA := Lib.hid hA
              have HMl := Lib.hid hm
              clear hA hm
              have k0 := Q1.out.box.c0
              have k1 := Q1.out.box.c1
              go_wp2_with fail
              refine (shiftI_any l d cH c2 b Q1.out.h HS1.out (by omega) (by omega) L x HA.out m HMl.out).mono ?_
              rintro e w2 ⟨ga, ca, rfl, hoa, hb⟩
              have hmc := own_capH hoa
              have HO2 := Lib.hid (own_Spots hoa)
              have HS2 := Lib.hid (spots_up HS1.out hb)
              have HB2 := Lib.hid (HB1.out.trans (hb.mono HB1.out.size))
              have Q2 := Lib.hid (Q1.out.below hb)
              clear HB1 Q1 k0 k1
              have k0 := Q2.out.box.c0
              have k1 := Q2.out.box.c1
              clear hb hoa HS1
              go_wp2_with fail
              refine (shiftS_any l d cH c2 b Q2.out.h HS2.out (by omega) (by omega) L x HA.out m HMl.out).mono ?_
              rintro e w3 ⟨gb, cb, rfl, hob, hb⟩
              have HP3 := Lib.hid (own_Spots hob)
              have HO3 := Lib.hid (spots_up HO2.out hb)
              have HS3 := Lib.hid (spots_up HS2.out hb)
              have HB3 := Lib.hid (HB2.out.trans (hb.mono HB2.out.size))
              have Q3 := Lib.hid (Q2.out.below hb)
              clear HB2 Q2 k0 k1
              have k0 := Q3.out.box.c0
              have k1 := Q3.out.box.c1
              clear hb hob HS2 HO2
              have hxx : (x != x) = false := by simp
              go_wp2_with fail
              refine (vSpots_same ca cb HO3.out HP3.out (by unfold maxLen; omega)).mono ?_
              rintro e w4 ⟨rfl, hb⟩
              have HO4 := Lib.hid (spots_up HO3.out hb)
              have HS4 := Lib.hid (spots_up HS3.out hb)
              have HB4 := Lib.hid (HB3.out.trans (hb.mono HB3.out.size))
              have Q4 := Lib.hid (Q3.out.below hb)
              clear HB3 Q3 k0 k1
              have k0 := Q4.out.box.c0
              have k1 := Q4.out.box.c1
              clear hb HP3 HO3 HS3 hxx
              cases x with
              | false =>
                go_wp2_with fail
                refine bodyPost_ret (results_tmp rfl _ _ _) rfl ?_
                exact ⟨ret_bool rfl, HB4.out⟩
              | true =>
                obtain ⟨f1, f2, f3⟩ := shift_facts HA.out
                have hsl := HS4.out.len
                obtain rfl : q2 = m := by have := HMl.out; omega
                have F2 := Lib.hid f2
                have F3 := Lib.hid f3
                clear f1 f2 f3
                have hbw : IntKind.i64.wrap (-b) = -b := by rw [IntKind.wrap_i64]; omega
                have hbw2 : wrap64 (-b) = -b := by unfold wrap64; omega
                go_wp2_with fail
                refine (shiftI_any l d cH ca (-b) Q4.out.h HO4.out (by omega) (by omega) ss true F3.out q2 hsl).mono ?_
                rintro e w5 ⟨gd, cd, rfl, hod, hb⟩
                have HP5 := Lib.hid (own_Spots hod)
                have HO5 := Lib.hid (spots_up HO4.out hb)
                have HS5 := Lib.hid (spots_up HS4.out hb)
                have HB5 := Lib.hid (HB4.out.trans (hb.mono HB4.out.size))
                have Q5 := Lib.hid (Q4.out.below hb)
                clear HB4 Q4 k0 k1
                have k0 := Q5.out.box.c0
                have k1 := Q5.out.box.c1
                clear hb hod HO4 HS4
                go_wp2_with fail
                refine (vSpots_same cd c2 HP5.out HS5.out (by unfold maxLen; omega)).mono ?_
                rintro e w6 ⟨rfl, hb⟩
                have HO6 := Lib.hid (spots_up HO5.out hb)
                have HB6 := Lib.hid (HB5.out.trans (hb.mono HB5.out.size))
                have Q6 := Lib.hid (Q5.out.below hb)
                clear HB5 Q5 k0 k1
                have k0 := Q6.out.box.c0
                have k1 := Q6.out.box.c1
                clear hb HP5 HO5 HS5
                go_wp2_with fail
                refine (isPacking_any l d cH ca Q6.out.h HO6.out (by omega) (by omega)).mono ?_
                rintro e w7 ⟨rfl, hb⟩
                have HB7 := Lib.hid (HB6.out.trans (hb.mono HB6.out.size))
                rw [F2.out]
                clear hb HO6 HB6 Q6 k0 k1
                go_wp2_with fail
                refine bodyPost_ret (results_tmp rfl _ _ _) rfl ?_
                exact ⟨ret_bool rfl, HB7.out⟩
theorem own : ownKnob Try.prog.godebug = none := by kernel_rfl
theorem laidOut : laidOutB Try.prog = true := by kernel_rfl

set_option maxRecDepth 100000 in
theorem lifted (os : Os) (started : os.Started) (H : Type) (enc : TypeId × Value → H) :
    ReturnsInHanded {} Try.checked os 4 .any (Rows.fnChamberingsSpec.pre6 enc Try.prog Try.f4 Rows.fnChamberingsRow.domain false) (Rows.fnChamberingsSpec.post enc Try.prog Try.f4 false true false false) := by
  refine returnsInHanded_of_change (C := Try.checked) own started (by kernel_rfl) Try.func4
    (ChangeSpec.witness6 (enc := enc) (C := Try.checked) false ⟨#[], #[.slice none 0 0], []⟩ 8 (by kernel_rfl) (by kernel_rfl) (by kernel_rfl) (by kernel_rfl)) ?_
  intro W base args ds gs before hval0 hW hcnd _
  have hval : ∀ (j : Nat) t v, Try.f4.params[j]? = some t → args[j]? = some v → Value.okWide Try.prog W .any base t v := hval0
  have hW' := hW
  obtain ⟨p, q, hA0, hV, rfl, hfz, hnd⟩ := hW
  have hA : DataW.TrodAll enc Try.prog W 0 (fun _ => true) true Try.f4.params.toList args.toList ds p := hA0
  rw [Try.params4] at hA hval
  obtain ⟨v0, vs0, d0, ds0, p0, q0, hargs, rfl, rfl, h0, r0⟩ := trodAll_cons hA
  obtain ⟨rfl, rfl, rfl⟩ := trodAll_nil r0
  obtain rfl : args = #[v0] := by cases args; simp_all
  obtain ⟨rfl, rfl⟩ := trodVars_none hV
  obtain ⟨a0, len0, cap0, rfl⟩ := okWide_slice Try.underlying22 (hval 0 22 v0 rfl rfl)
  have k0 := h0
  have lt0 : ∀ x ∈ p0, x.block < W.heap.size := by obtain ⟨m, hm⟩ := k0; exact DataW.trod_lt m _ _ _ hm
  obtain ⟨z0, w0⟩ : ∃ zs, IsInts .u8 W a0 len0 zs := by
    obtain ⟨fuel, hf⟩ := h0
    rcases open_ints Try.underlying22 Try.underlying5 (by kernel_rfl) hf with ⟨hcs, _⟩ | ⟨x, l, c, zs, hcs, _, hl, hm, hz, _, hcell, hwz⟩
    · simp [Value.cells] at hcs
      obtain ⟨rfl, rfl, rfl⟩ := hcs
      exact ⟨[], isInts_nil _ W⟩
    · simp [Value.cells] at hcs
      obtain ⟨rfl, rfl, rfl⟩ := hcs
      exact ⟨_, isInts_some hl hm (by simpa using hz) hcell hwz⟩
  clear hA0 hval0
  refine (walk a0 len0 cap0 z0 W w0).mono fun e W' ⟨he, bel⟩ => ?_
  subst he
  exact ⟨_, rfl, _, _, _, [], _, [], hW', trodAll_mk1 (shut_bool Try.underlying4 _), (trodAll_cons_mk (Below.trod laidOut (by kernel_rfl) (of_decide_eq_true (by kernel_rfl)) k0 bel lt0) trodAll_mk0), rfl, bel.frame _, fun h => by cases h⟩

theorem over : Rows.fnChamberingsRow.holds Try.pinned (OpenSpec.ofChange Rows.fnChamberingsSpec) :=
  OpenClaim.holds_of_wide 4 Try.f4 rfl rfl rfl rfl rfl rfl rfl ⟨rfl, rfl, rfl, rfl, rfl⟩ rfl rfl rfl rfl rfl (by kernel_rfl) Try.func4 (by kernel_rfl)
    (of_decide_eq_true (by kernel_rfl)) (by unfold Func.isWrapper; first | (rw [if_pos (by decide +kernel)]; kernel_rfl) | (rw [if_neg (by decide +kernel)]; exact ⟨rfl, rfl⟩))
    (fun os started H enc _ => lifted os started H enc)

/-- The statement. -/
theorem proved : Rows.FnChamberingsSaid := over
end Go.Proofs.Ytkdolpgnaabdaab.fnChamberings
