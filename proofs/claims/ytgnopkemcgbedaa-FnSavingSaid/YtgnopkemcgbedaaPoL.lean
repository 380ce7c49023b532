/- Chapter 11: the best order: the program. -/
import Derived.Test.YtgnopkemcgbedaaPoK
import Derived.Test.YtgnopkemcgbedaaPoO
import Derived.Deep.LoopGhost
namespace Go.Proofs.Ytgnopkemcgbedaa
open Go.RowKit Go.PlainAid Go.Sort
set_option linter.unusedVariables false
set_option linter.unusedSimpArgs false

theorem E_len (m : Nat) (h : m ≤ 4) : (extsG m m []).length = (prmN m).length := by rw [extsG_prm m h, List.length_map]
theorem E_at {m t : Nat} (h : m ≤ 4) (ht : t < (prmN m).length) : (extsG m m []).getD t [] = rowI ((prmN m).getD t []) := by
  rw [extsG_prm m h, getD_at [] (by rw [List.length_map]; exact ht), getD_at [] ht, List.getElem_map]
theorem prmN_plc {m t : Nat} (ht : t < (prmN m).length) : PlcI ((prmN m).getD t []) m := by
  rw [getD_at [] ht]
  have hp := prm_perm 9 (by simp) (List.getElem_mem ht)
  exact ⟨by rw [hp.length_eq]; simp, hp.nodup_iff.2 List.nodup_range⟩
theorem E_ok {m t : Nat} (h : m ≤ 4) (ht : t < (prmN m).length) : okO (m + 1) (rowI ((prmN m).getD t [])) ∧ (rowI ((prmN m).getD t [])).length = m ∧ rowI ((prmN m).getD t []) ∈ extsG m m [] := by
  have hm : rowI ((prmN m).getD t []) ∈ extsG m m [] := by
    rw [← E_at h ht, getD_at [] (by rw [E_len m h]; exact ht)]
    exact List.getElem_mem _
  obtain ⟨h1, h2⟩ := extsG_ok (okO_nil _) _ hm
  exact ⟨h1, by simpa using h2, hm⟩
theorem gI_end {vs : List TPool} {E : List (List Int)} (hg : goodPs vs) (hE : okE vs E) {N : Nat} (hN : E.length = N) (h0 : 0 < N) : gI vs E N = bestL vs E := by
  obtain ⟨M, rfl⟩ : ∃ M, N = M + 1 := ⟨N - 1, by omega⟩
  rw [gI_all hg hE M (by omega), ← hN, List.take_length]
theorem allD_at {vs : List TPool} {m : Nat} (hm : vs.length = m + 1) (h4 : m ≤ 4) (h : ∀ t, t < (prmN m).length → allR vs (rowI ((prmN m).getD t [])) true) : allD vs := by
  intro O hO
  rw [show vs.length - 1 = m by omega] at hO
  obtain ⟨t, ht, rfl⟩ := List.getElem_of_mem hO
  have ht2 : t < (prmN m).length := by rw [← E_len m h4]; exact ht
  rw [← getD_at [] ht, E_at h4 ht2]
  exact h t ht2
theorem rowI_range (k : Nat) : rowI (List.range (k + 1)) = rowI (List.range k) ++ [(k : Int) + 1] := by
  unfold rowI; rw [List.range_succ, List.map_append]; rfl
set_option maxRecDepth 100000 in
set_option maxHeartbeats 1000000 in
theorem cloneO_any {w : World} {base g n c : Nat} {L : List Int} (hm : n ≤ 1000) (h : w.ownsRow base 3 1 (.slice (some ⟨g, 0, none⟩) n c) n (L.map (.int .i64))) :
    Calls Try.prog 75 #[.slice (some ⟨g, 0, none⟩) n c] w fun e w' => ∃ v, e = .returned v ∧ OwnY w w' L n v := by
  obtain ⟨i0, hi, hz0, hz1, hz2⟩ := info_parts Try.infoInt'
  have HR := Lib.hid (World.ownsRow_made (size := 1) (e := 3) w #[] 0 (Nat.le_refl _) (by unfold maxLen; omega) rfl)
  have HB := below1 w (.cells #[] 3)
  have hfl := h.1
  have HN : Hid (∀ j u, (L.map (Value.int .i64))[j]? = some u → (w.alloc (.cells #[] 3)).cell? ((⟨g, 0, none⟩ : Addr).add j) = some u) := Lib.hid (fun j u hu => by
    have hj := (List.getElem?_eq_some_iff.1 hu).1
    rw [addO, Nat.zero_add]
    have h1 := h.cellAt j (by have := h.1; omega)
    rw [hu] at h1
    exact (HB.cell (World.block_lt_of_cell? _ _ h1)).trans h1)
  have HO : Hid (∀ u ∈ L.map (Value.int .i64), u.oneCell' = true) := Lib.hid (fun u hu => by obtain ⟨q, -, rfl⟩ := List.mem_map.1 hu; rfl)
  have heq := run_eql_slice_nil (P := Try.prog) w 43 3 (some ⟨g, 0, none⟩) n c Try.underlying43
  rw [Option.isNone_some] at heq
  unfold OwnY
  generalize L.map (Value.int .i64) = xs at hfl HN HO ⊢
  clear h HB
  go_enter Try.func75, Try.ntmps75
  go_wp2_with (at_builtin; refine wpList_append_own _ rfl (.tmp 5) (.tmp 6) 43 rfl w.heap.size 3 i0 (.int .i64 0) 1 8 Try.underlying43 hi hz0 hz1 hz2 rfl (by decide) (.slice (some ⟨w.heap.size, 0, none⟩) 0 0) 0 [] rfl HR.out ⟨g, 0, none⟩ n c xs rfl hfl HN.out HO.out (by unfold maxLen; omega) (by omega) (by simp) ?_; intro v1 w1 hown1 hgrow1 hnil1; obtain ⟨g1, c1, rfl, hg1⟩ := own_some hown1 (fun e => nomatch (hnil1.1 e).1); have HB1 := Lib.hid (((Below.refl w.heap.size w).alloc (Nat.le_refl _) (.cells #[] 3)).grown hgrow1 (by simp) (fun q hq => by cases hq; exact Nat.le_refl _)); rw [Nat.zero_add, List.nil_append] at hown1; have HOWN := Lib.hid hown1; clear hown1 hgrow1 hnil1)
  go_ret
  exact ⟨_, rfl, g1, c1, by simp, hg1, HOWN.out, HB1.out⟩
set_option maxRecDepth 100000 in
set_option maxHeartbeats 8000000 in
theorem bestI_any {w : World} {B : Nat} {A : Option Addr} {n : Nat} {vs : List TPool} (c : Nat) (h : IsPools w B A n vs) (hm : n ≤ 1048576) (L : List Int) (z : Int) (x : Bool) (hA : BesA vs L z x) (l : Nat) (hl : L.length = l) :
    Calls Try.prog 37 #[.slice A n c] w (GivesY3 w L l z x) := by
  obtain ⟨i0, hi, hz0, hz1, hz2⟩ := info_parts Try.infoInt'
  have C := Lib.hid (arePools_any c h (Nat.le_trans hm (by unfold maxLen; omega)))
  have CD := Lib.hid (fun (W : World) (hb : Below w.heap.size w W) A2 n2 c2 os (h2 : IsIs W W.heap.size A2 n2 os) hm2 hnc L z x hA => drainI_any c c2 (h.below hb h.low) hm h2 hm2 hnc L z x hA L.length rfl)
  have HI := Lib.hid h
  have HNO := Lib.hid hA.2
  have HYES := Lib.hid hA.1
  have HM := Lib.hid hl
  have HG0 := Lib.hid (gPs_iff vs)
  generalize gPs vs = G at C HG0
  clear h hA hl
  go_enter Try.func37, Try.ntmps37
  go_wp2_with fail
  refine C.out.mono ?_
  rintro e w1 ⟨rfl, hb⟩
  have HB1 := Lib.hid hb
  clear hb C
  cases G with
  | false =>
    obtain ⟨rfl, rfl, rfl⟩ := HNO.out (fun g => by have := HG0.out.2 g.1; cases this)
    obtain rfl : 0 = l := HM.out
    clear HNO HYES HG0 CD
    go_wp2_with fail
    go_ret3
    exact (OwnY.nil HB1.out).gives3 0 false
  | true =>
  have HGD := Lib.hid (HG0.out.1 rfl)
  obtain ⟨m, hm1⟩ : ∃ m, m + 1 = n := ⟨n - 1, by rw [← HI.out.len]; have := HGD.out.1; omega⟩
  have hm4 : m ≤ 4 := by have := HGD.out.1; rw [HI.out.len] at this; omega
  have hm0 : 0 < m := by have := HGD.out.1; rw [HI.out.len] at this; omega
  have HL1 : Hid (vs.length = m + 1) := Lib.hid (by rw [HI.out.len, hm1])
  have O0 := Lib.hid (OwnY.nil HB1.out)
  clear HG0
  go_wp2_with fail
  go_loopw [5, 6] (fun v i wr => ∃ k : Nat, k ≤ m ∧ i = .int .i64 ((k : Int) + 1) ∧ OwnY w wr (rowI (List.range k)) k v) (fun _ i _ => n - (intOf i).toNat)
  case atStart => exact ⟨0, Nat.zero_le _, rfl, O0.out⟩
  case round =>
    clear O0
    obtain ⟨k, hk, rfl, g0, cp, rfl, hg0, hown, hb⟩ := hrel
    by_cases hlt : k < m
    · have hk0 : (0 : Int) ≤ (k : Int) := by omega
      have hk1 : (k : Int) + 1 < (n : Int) := by omega
      go_wp2_with (at_builtin; refine wpList_append_own _ rfl (.tmp 24) (.tmp 26) 43 rfl w.heap.size 3 i0 (.int .i64 0) 1 8 Try.underlying43 hi hz0 hz1 hz2 rfl (by decide) (.slice (some ⟨g0, 0, none⟩) (k) cp) (k) _ rfl (hown.alloc _) ⟨wr.heap.size, 0, none⟩ 1 1 [.int .i64 ((k : Int) + 1)] rfl rfl (cell_one_new _ _ _) (by simp [Value.oneCell']) (by unfold maxLen; omega) (by omega) (by have := (hb).size; simp; omega) ?_; intro v1 w1 hown1 hgrow1 hnil1; obtain ⟨g1, c1, rfl, hg1⟩ := own_some hown1 (fun e => nomatch (hnil1.1 e).1); have hb1 := ((hb).alloc (hb).size (.cells #[.int .i64 ((k : Int) + 1)] 3)).grown hgrow1 (by have := (hb).size; simp; omega) (fun q hq => by cases hq; assumption); clear hnil1 hgrow1 hown hb)
      go_roundw
      case rel => exact ⟨k + 1, by omega, by go_num, g1, c1, rfl, hg1, by rw [rowI_range, List.map_append]; exact hown1, hb1⟩
      case measure => simp [intOf]; omega
    · obtain rfl : k = m := by omega
      have hk1 : ¬ (k : Int) + 1 < (n : Int) := by omega
      have HO := Lib.hid hown
      have HB := Lib.hid hb
      have hkc := own_capP hown
      have CC := Lib.hid (cloneO_any (by omega) hown)
      obtain ⟨N, hN⟩ : ∃ N, (prmN k).length = N := ⟨_, rfl⟩
      have hT0 : 0 < (prmN k).length := (List.getElem?_eq_some_iff.1 (first_all k (by omega))).1
      have HR0 : Hid ((prmN k).getD 0 [] = List.range k) := Lib.hid (by
        have := first_all k (by omega)
        rw [List.getElem?_eq_getElem hT0] at this
        rw [getD_at [] hT0]
        exact Option.some.inj this)
      have HEN : Hid ((extsG k k []).length = N) := Lib.hid (by rw [E_len k hm4, hN])
      have HEA := Lib.hid (fun t (ht : t < N) => E_at (m := k) (t := t) hm4 (by rw [hN]; exact ht))
      have HEO := Lib.hid (fun t (ht : t < N) => E_ok (m := k) (t := t) hm4 (by rw [hN]; exact ht))
      have HPL := Lib.hid (fun t (ht : t < N) => prmN_plc (m := k) (t := t) (by rw [hN]; exact ht))
      have HCH := Lib.hid (fun t (ht : t < N) => show nextI ((prmN k).getD t []) = (prmN k)[t + 1]? by
        rw [getD_at [] (by rw [hN]; exact ht)]
        exact chn_at (chn_all k (by omega)) (by rw [hN]; exact ht))
      have HNX := Lib.hid (fun t (ht : t + 1 < N) => show (prmN k)[t + 1]? = some ((prmN k).getD (t + 1) []) by
        rw [List.getElem?_eq_getElem (by rw [hN]; exact ht), getD_at [] (by rw [hN]; exact ht)])
      have HNN : Hid ((prmN k)[N]? = none) := Lib.hid (List.getElem?_eq_none (by rw [hN]; exact Nat.le_refl _))
      have HAD := Lib.hid (fun h => allD_at (vs := vs) (m := k) HL1.out hm4 (by rw [hN]; exact h))
      have HAX : Hid (∀ t, t < N → ¬ allR vs (rowI ((prmN k).getD t [])) true → ¬ (goodPs vs ∧ allD vs)) := Lib.hid (fun t ht hn2 g => hn2 (g.2 _ (by rw [show vs.length - 1 = k by rw [HL1.out]; rfl]; exact (HEO.out t ht).2.2)))
      have HGE := Lib.hid (fun (h : allD vs) => show gI vs (extsG k k []) N = bestD vs by
        have h1 := h.okE HGD.out
        rw [show vs.length - 1 = k by rw [HL1.out]; rfl] at h1
        rw [gI_end HGD.out h1 HEN.out (by omega)]
        unfold bestD
        rw [show vs.length - 1 = k by rw [HL1.out]; rfl])
      have hN0 : 0 < N := by omega
      have HGS := Lib.hid (fun t (ht : t < N) => show gI vs (extsG k k []) (t + 1) = stepG (gI vs (extsG k k []) t) (rowI ((prmN k).getD t []), svO vs (rowI ((prmN k).getD t []))) by rw [← HEA.out t ht]; rfl)
      have HG00 : Hid (gI vs (extsG k k []) 0 = (rowI (List.range k), 0)) := Lib.hid (by show ((extsG k k []).getD 0 [], (0 : Int)) = _; rw [HEA.out 0 hN0, HR0.out])
      clear hown hb hN hT0
      go_wp2_with fail
      refine CC.out.mono ?_
      rintro e w2 ⟨vv, rfl, hZ⟩
      have HB2 := Lib.hid (HB.out.trans (hZ.low.mono HB.out.size))
      have HO2 := Lib.hid (own_below HO.out hZ.low)
      have hgl := (HO.out.lt g0 rfl).2
      obtain ⟨gb, cb, rfl, hgb, hgo, -⟩ := hZ
      have HBO := Lib.hid (own_low hgo HB.out.size)
      have hgb0 : gb ≠ g0 := by omega
      have hgbw : w.heap.size ≤ gb := by have := HB.out.size; omega
      clear hgo CC HO HB
      go_wp2_with fail
      go_loopg [7, 8, 9] N (fun gh v s mo wr => ∃ (t gb cb : Nat), t + gh = N ∧ v = .slice (some ⟨gb, 0, none⟩) k cb ∧ gb ≠ g0 ∧ w.heap.size ≤ gb ∧ Hid (wr.ownsRow w.heap.size 3 1 (.slice (some ⟨gb, 0, none⟩) k cb) k ((gI vs (extsG k k []) t).1.map (.int .i64))) ∧ s = .int .i64 (gI vs (extsG k k []) t).2 ∧ mo = .bool (decide (0 < gh)) ∧ Hid (t < N → wr.ownsRow w.heap.size 3 1 (.slice (some ⟨g0, 0, none⟩) k cp) k ((rowI ((prmN k).getD t [])).map (.int .i64))) ∧ Hid (∀ j, j < t → allR vs (rowI ((prmN k).getD j [])) true) ∧ Hid (Below w.heap.size w wr))
      case atStart => exact ⟨0, gb, cb, by omega, rfl, hgb0, hgbw, by rw [HG00.out]; exact HBO, by rw [HG00.out], by rw [decide_eq_true hN0], Lib.hid (fun _ => by rw [HR0.out]; exact HO2.out), Lib.hid (fun j hj => absurd hj (by omega)), HB2⟩
      case round =>
        clear HBO HO2 HB2 HG00 HR0 hgb hgb0 hgbw
        obtain ⟨t, gb2, cb2, ht, rfl, hgb0, hgbw, HBO, rfl, rfl, HX, HALL, HB⟩ := hrel
        cases gk with
        | zero =>
          obtain rfl : t = N := by omega
          have hall := HAD.out HALL.out
          have hge := HGE.out hall
          obtain ⟨hL, hz, rfl⟩ := HYES.out ⟨HGD.out, hall⟩
          rw [hge] at HBO ⊢
          rw [← hL] at HBO
          rw [← hz]
          have hkl : k = l := by have := HBO.out.1; rw [← HM.out]; simpa using this.symm
          have HKL := Lib.hid hkl
          clear HX HALL hall hge hL hz hkl
          go_wp2_with fail
          go_ret3
          exact ⟨gb2, cb2, by rw [HKL.out]; rfl, by rw [← HKL.out]; exact HBO.out, HB.out⟩
        | succ gh =>
          have htN : t < N := by omega
          have hx := HX.out htN
          have heo := HEO.out t htN
          have HGSt := Lib.hid (HGS.out t htN)
          have HCHt := Lib.hid (HCH.out t htN)
          have HPLt := Lib.hid (HPL.out t htN)
          have HNot := Lib.hid (HAX.out t htN)
          have HOR := Lib.hid hx
          have HEOt : Hid (okO vs.length (rowI ((prmN k).getD t []))) := Lib.hid (by rw [HL1.out]; exact heo.1)
          obtain ⟨pt, hpt⟩ : ∃ p, (prmN k).getD t [] = p := ⟨_, rfl⟩
          have HPT := Lib.hid hpt
          rw [hpt] at HGSt HCHt HPLt HNot HOR HEOt
          obtain ⟨L9, z9, x9, hA9⟩ := runP_ex vs (rowI pt) true
          have CDt := Lib.hid (CD.out wr HB.out _ k cp (rowI pt) (own_IsIs HOR.out) (by omega) hkc L9 z9 x9 hA9)
          have HA9 := Lib.hid hA9
          have hd : decide (0 < gh + 1) = true := by simp
          clear hx heo hpt hA9 HX
          go_wp2_with fail
          refine CDt.out.mono ?_
          rintro e w5 ⟨g5, c5, rfl, -, hb5⟩
          have HB5 := Lib.hid (HB.out.trans (hb5.mono HB.out.size))
          have HBO5 := Lib.hid (own_below HBO.out hb5)
          have HOR5 := Lib.hid (own_below HOR.out hb5)
          clear hb5 CDt HB HBO HOR
          by_cases hcan : canR vs (rowI pt) true
          · obtain ⟨-, hz9, rfl⟩ := HA9.out.1 hcan
            have HGS2 : Hid (gI vs (extsG k k []) (t + 1) = if (gI vs (extsG k k []) t).2 < z9 then (rowI pt, z9) else gI vs (extsG k k []) t) := Lib.hid (by rw [HGSt.out, hz9]; rfl)
            have HALL2 : Hid (∀ j, j < t + 1 → allR vs (rowI ((prmN k).getD j [])) true) := Lib.hid (fun j hj => by
              rcases Nat.lt_succ_iff_lt_or_eq.1 hj with h1 | h1
              · exact HALL.out j h1
              · rw [h1, HPT.out]; exact hcan.2.2)
            have hso : (nextI pt).isSome = decide (0 < gh) := by
              rw [HCHt.out]
              by_cases h1 : t + 1 < N
              · rw [HNX.out t h1, decide_eq_true (by omega)]; rfl
              · rw [show t + 1 = N by omega, HNN.out, decide_eq_false (by omega)]; rfl
            have HNP : Hid (t + 1 < N → nextP pt = (prmN k).getD (t + 1) []) := Lib.hid (fun h1 => by rw [nextP, HCHt.out, HNX.out t h1]; rfl)
            have CNX := Lib.hid (fun (W : World) (ho : W.ownsRow w.heap.size 3 1 (.slice (some ⟨g0, 0, none⟩) k cp) k ((rowI pt).map (.int .i64))) => nextO_any HPLt.out hm0 (by omega) hkc ho)
            rw [hso] at CNX
            obtain ⟨acc, hacc⟩ : ∃ a, gI vs (extsG k k []) t = a := ⟨_, rfl⟩
            rw [hacc] at HBO5 HGS2 ⊢
            obtain ⟨aR, az⟩ := acc
            dsimp only at HBO5 HGS2 ⊢
            clear HGSt HCHt HPLt HNot HEOt HA9 HALL hcan hso hz9 hacc
            by_cases h1 : az < z9
            · rw [if_pos h1] at HGS2
              have CC := Lib.hid (cloneO_any (by omega) HOR5.out)
              go_wp2_with fail
              refine CC.out.mono ?_
              rintro e w6 ⟨v6, rfl, hZ⟩
              have HB6 := Lib.hid (HB5.out.trans (hZ.low.mono HB5.out.size))
              have HOR6 := Lib.hid (own_below HOR5.out hZ.low)
              have hgl5 := (HOR5.out.lt g0 rfl).2
              obtain ⟨g6, c6, rfl, hg6, hgo6, -⟩ := hZ
              have HBO6 := Lib.hid (own_low hgo6 HB5.out.size)
              have hne6 : g6 ≠ g0 := by omega
              have hgw6 : w.heap.size ≤ g6 := by have := HB5.out.size; omega
              have CN := Lib.hid (CNX.out w6 HOR6.out)
              clear hgo6 CC HBO5 HOR5 HB5 hgl5 hg6
              go_wp2_with fail
              refine CN.out.mono ?_
              rintro e w9 ⟨rfl, ho9, hgr9⟩
              have HB9 := Lib.hid (HB6.out.grown hgr9 HB6.out.size (fun q hq => by cases hq; exact hg0))
              have HBO9 := Lib.hid (HBO6.out.kept hgr9 (.inr (by simp [Value.ownBlock]; exact hne6)))
              have HX9 : Hid (t + 1 < N → w9.ownsRow w.heap.size 3 1 (.slice (some ⟨g0, 0, none⟩) k cp) k ((rowI ((prmN k).getD (t + 1) [])).map (.int .i64))) := Lib.hid (fun h9 => by rw [← HNP.out h9]; exact ho9)
              clear ho9 hgr9 CN CNX HNP
              go_wp2_with fail
              go_roundg gh
              case measure => omega
              case rel => exact ⟨t + 1, g6, c6, by omega, rfl, hne6, hgw6, by rw [HGS2.out]; exact HBO9, by rw [HGS2.out], rfl, HX9, HALL2, HB9⟩
            · rw [if_neg h1] at HGS2
              have CN := Lib.hid (CNX.out w5 HOR5.out)
              go_wp2_with fail
              refine CN.out.mono ?_
              rintro e w9 ⟨rfl, ho9, hgr9⟩
              have HB9 := Lib.hid (HB5.out.grown hgr9 HB5.out.size (fun q hq => by cases hq; exact hg0))
              have HBO9 := Lib.hid (HBO5.out.kept hgr9 (.inr (by simp [Value.ownBlock]; exact hgb0)))
              have HX9 : Hid (t + 1 < N → w9.ownsRow w.heap.size 3 1 (.slice (some ⟨g0, 0, none⟩) k cp) k ((rowI ((prmN k).getD (t + 1) [])).map (.int .i64))) := Lib.hid (fun h9 => by rw [← HNP.out h9]; exact ho9)
              clear ho9 hgr9 CN CNX HNP
              go_wp2_with fail
              go_roundg gh
              case measure => omega
              case rel => exact ⟨t + 1, gb2, cb2, by omega, rfl, hgb0, hgbw, by rw [HGS2.out]; exact HBO9, by rw [HGS2.out], rfl, HX9, HALL2, HB9⟩
          · obtain ⟨-, -, rfl⟩ := HA9.out.2 hcan
            have HNA := Lib.hid (HNot.out (fun h => hcan ⟨HGD.out, HEOt.out, h⟩))
            clear hcan HNot HGSt HCHt HPLt HEOt HA9 HALL
            obtain ⟨rfl, rfl, rfl⟩ := HNO.out HNA.out
            obtain rfl : 0 = l := HM.out
            clear HNO HYES HAX HGE HAD
            go_wp2_with fail
            go_ret3
            exact (OwnY.nil HB5.out).gives3 0 false
end Go.Proofs.Ytgnopkemcgbedaa
