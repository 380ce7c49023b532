/- Chapter 4: the search of the model. -/
import Derived.Test.YtdleidlmjliapaaChL
namespace Go.Proofs.Ytdleidlmjliapaa
open Go.RowKit Go.PlainAid Go.Sort
set_option linter.unusedVariables false
set_option linter.unusedSimpArgs false

def spotsO : Option (List (THull × TSpot)) → List TSpot
  | some r => spotsOf r
  | none => []

theorem own_cells {w : World} {base : Nat} {e : TypeId} {z g n c : Nat} {xs : List Value} (h : w.ownsRow base e z (.slice (some ⟨g, 0, none⟩) n c) n xs) : ∀ j u, xs[j]? = some u → w.cell? ((⟨g, 0, none⟩ : Addr).add j) = some u := by
  intro j u hu
  obtain ⟨a, e, -, hc⟩ := ownS_has h j u hu
  injection e with e
  subst e
  exact hc
theorem flatSpot_one : ∀ (vs : List TSpot), ∀ u ∈ flatSpot vs, u.oneCell' = true
  | [], u, h => by simp [flatSpot] at h
  | v :: t, u, h => by
    simp only [flatSpot, List.mem_cons] at h
    rcases h with rfl | rfl | h
    · rfl
    · rfl
    · exact flatSpot_one t u h

set_option maxRecDepth 100000 in
set_option maxHeartbeats 2000000 in
theorem l4First_any (cl cb : Int) (hc : goodC ⟨cl, cb⟩) (t : List THull) : ∀ (hs : List THull) (done : List (THull × TSpot)) (w : World) (B base : Nat) (A : Option Addr) (n c g m c' : Nat),
    hs = (done.map Prod.fst).reverse ++ t → goodHs hs → lies ⟨cl, cb⟩ done → IsHulls w B A n hs → done.length = m → base ≤ w.heap.size → base ≤ g →
    w.ownsRow base 42 2 (.slice (some ⟨g, 0, none⟩) m c') m (flatSpot (done.map Prod.snd).reverse) →
    Calls Try.prog 40 #[.agg #[.int .i64 cl, .int .i64 cb], .slice A n c, .slice (some ⟨g, 0, none⟩) m c'] w fun e w' =>
      ∃ g2 c2, e = .returned (.tuple #[.slice (some ⟨g2, 0, none⟩) (spotsO (search ⟨cl, cb⟩ t done)).length c2, .bool (search ⟨cl, cb⟩ t done).isSome]) ∧ base ≤ g2 ∧
        w'.ownsRow base 42 2 (.slice (some ⟨g2, 0, none⟩) (spotsO (search ⟨cl, cb⟩ t done)).length c2) (spotsO (search ⟨cl, cb⟩ t done)).length (flatSpot (spotsO (search ⟨cl, cb⟩ t done))) ∧ Below w.heap.size w w' := by
  induction t with
  | nil =>
    intro hs done w B base A n c g m c' hhs hg hl h hml hbase hbg hown
    have hnm : n = m := by rw [← h.len, hhs]; simp [hml]
    subst hnm
    have hll : (spotsO (search ⟨cl, cb⟩ [] done)).length = n := by simp [search, spotsO, hml]
    have HO := Lib.hid hown
    have HLL := Lib.hid hll
    have hnb : n ≤ 4 := by rw [← h.len]; exact hg.1
    have hnn : ((n : Int) == n) = true := by simp
    clear hhs hg hl h hown hll hml
    go_enter Try.func40, Try.ntmps40
    go_wp2_with fail
    refine bodyPost_ret (results_tmp2 rfl _ _ _) rfl ?_
    refine ⟨g, c', by rw [HLL.out]; rfl, hbg, ?_, below1 _ _⟩
    rw [HLL.out]
    exact HO.out.alloc _
  | cons h t ih =>
    intro hs done w B base A n c g m c' hhs hg hl hi hml hbase hbg hown
    obtain ⟨i0, hii, hz0, hz1, hz2⟩ := info_parts Try.infoSpot'
    have hlen : hs.length = m + 1 + t.length := by rw [hhs]; simp [hml]; omega
    have hmn : m < n := by rw [← hi.len, hlen]; omega
    have hn4 : n ≤ 4 := by rw [← hi.len]; exact hg.1
    have hgm : hs.getD m noHull = h := by rw [hhs, List.getD_eq_getElem?_getD]; simp [← hml]
    have hgh : goodH h := by have := (hg.2 m (by omega)).1; rwa [hgm] at this
    have hbd : ((1 ≤ h.x1 ∧ h.x1 ≤ 6) ∧ 1 ≤ h.x2 ∧ h.x2 ≤ 3) ∧ (1 ≤ cl ∧ cl ≤ 6) ∧ 1 ≤ cb ∧ cb ≤ 3 := ⟨⟨hgh.2.1, hgh.2.2⟩, hc.1, hc.2⟩
    have hmne : ((m : Int) == n) = false := by simp; omega
    have HH := Lib.hid hi
    have HO := Lib.hid hown
    have HG := Lib.hid hg
    have HGM := Lib.hid hgm
    have HSL := Lib.hid (show (done.map Prod.snd).reverse.length = m by simp [hml])
    have CP := Lib.hid (fun (i j : Nat) (hin : inside ⟨cl, cb⟩ h (sp i j)) W (hb : Below w.heap.size w W) g1 c1 (h' : IsSpots W W.heap.size (some ⟨g1, 0, none⟩) (m + 1) ((done.map Prod.snd).reverse ++ [sp i j])) => by
      have := l4Packing_any cl cb c c1 (hi.below hb hi.low) h' hc hg (by omega)
      rwa [gPk_lies (sp i j) hhs hl hin] at this)
    have IH := Lib.hid (fun (i j : Nat) (hin : inside ⟨cl, cb⟩ h (sp i j)) (hf : freeB h (sp i j) done = true) W (hb : Below w.heap.size w W) g1 c1 (hb1 : base ≤ g1) (ho : W.ownsRow base 42 2 (.slice (some ⟨g1, 0, none⟩) (m + 1) c1) (m + 1) (flatSpot ((done.map Prod.snd).reverse ++ [sp i j]))) =>
      ih hs ((h, sp i j) :: done) W B base A n c g1 (m + 1) c1 (by rw [hhs]; simp) hg ⟨⟨hin, (freeB_iff _ _ _).1 hf⟩, hl⟩ (hi.below hb hi.low) (by simp [hml]) (Nat.le_trans hbase hb.size) hb1 (by simpa using ho))
    have HSR := Lib.hid (fun i j x => search_row (c := ⟨cl, cb⟩) (h := h) (t := t) (done := done) (i := i) (j := j) (x := x))
    have HS0 := Lib.hid (search_cons ⟨cl, cb⟩ h t done)
    have hnA : nAt ⟨cl, cb⟩ h = (cl - h.x1 + 1).toNat := rfl
    have hnS : nSide ⟨cl, cb⟩ h = (cb - h.x2 + 1).toNat := rfl
    obtain ⟨R, hR⟩ : ∃ R, search ⟨cl, cb⟩ (h :: t) done = R := ⟨_, rfl⟩
    rw [hR] at HSR HS0 ⊢
    obtain ⟨SS, hSS⟩ : ∃ S, (done.map Prod.snd).reverse = S := ⟨_, rfl⟩
    rw [hSS] at HO HSL CP IH
    clear hR hi hg hl hown ih hgm hgh hSS hhs hlen hml
    obtain ⟨hd, hl, hbb⟩ := h
    dsimp only at hbd hnA hnS
    obtain ⟨xb, hxb⟩ : ∃ x, w.heap.size = x := ⟨_, rfl⟩
    obtain ⟨NA, hNA⟩ : ∃ k, nAt ⟨cl, cb⟩ ⟨hd, hl, hbb⟩ = k := ⟨_, rfl⟩
    obtain ⟨NS, hNS⟩ : ∃ k, nSide ⟨cl, cb⟩ ⟨hd, hl, hbb⟩ = k := ⟨_, rfl⟩
    rw [hNA] at HSR HS0 hnA
    rw [hNS] at HSR hnS
    have HROW := Lib.hid (fun i => (show tryRow ⟨cl, cb⟩ ⟨hd, hl, hbb⟩ t done i = fstS (tryAt ⟨cl, cb⟩ ⟨hd, hl, hbb⟩ t done i) NS by unfold tryRow; rw [hNS]))
    clear hNA hNS
    have hml : m < hs.length := by rw [HH.out.len]; exact hmn
    obtain ⟨aH, rfl, -, -⟩ := HH.out.has.Hull hml
    have HHC := Lib.hid (fun W (hb : Below w.heap.size w W) => show HullAt W aH m ⟨hd, hl, hbb⟩ by
      obtain ⟨a, e, -, hv⟩ := (HH.out.below hb HH.out.low).has.Hull hml
      injection e with e
      subst e
      rwa [HGM.out] at hv)
    have hm0 : (0 : Int) ≤ (m : Int) := by omega
    have hm1 : (m : Int) < (n : Int) := by omega
    have HFL : Hid ((flatSpot SS).length = m * 2) := Lib.hid (by rw [flatSpot_len, HSL.out]; omega)
    have HF1 := Lib.hid (flatSpot_one SS)
    have HB1 := Lib.hid (below1 w (.cells #[.int .i64 cl, .int .i64 cb] 25))
    obtain ⟨W1, hW1⟩ : ∃ W, w.alloc (.cells #[.int .i64 cl, .int .i64 cb] 25) = W := ⟨_, rfl⟩
    have x0 : W1.cell? ⟨xb, 0, none⟩ = some (.int .i64 cl) := by rw [← hW1, ← hxb, sNew]; rfl
    have x1 : W1.cell? ⟨xb, 1, none⟩ = some (.int .i64 cb) := by rw [← hW1, ← hxb, sNew]; rfl
    rw [hW1] at HB1
    go_enter Try.func40, Try.ntmps40
    go_wp2_with fail
    try rw [hW1]
    clear hW1
    go_loopw [9] (fun q wr => ∃ i : Nat, i ≤ NA ∧ q = .int .i64 i ∧ Hid (fstS (tryRow ⟨cl, cb⟩ ⟨hd, hl, hbb⟩ t done) i = none) ∧ Below w.heap.size w wr ∧ wr.cell? ⟨xb, 0, none⟩ = some (.int .i64 cl) ∧ wr.cell? ⟨xb, 1, none⟩ = some (.int .i64 cb)) (fun q _ => NA - (intOf q).toNat)
    case atStart => exact ⟨0, Nat.zero_le _, rfl, Lib.hid rfl, HB1.out, x0, x1⟩
    case round =>
      clear x0 x1
      obtain ⟨i, hi, rfl, hrow, hb, x0, x1⟩ := hrel
      have E1 := fun (d : Nat) (os : Array Obj) => cell_regrown (HHC.out _ hb).c1 d os
      have X0 := fun (d : Nat) (os : Array Obj) => cell_regrown x0 d os
      have X1 := fun (d : Nat) (os : Array Obj) => cell_regrown x1 d os
      dsimp only at E1
      have HB := Lib.hid hb
      clear x0 x1 hb
      by_cases hlt : (i : Int) + hl ≤ cl
      · go_wp2
        refine wp_region_quiet_below (by kernel_rfl) (by kernel_rfl) ?_
        repeat (go_big_quiet_step (first | exact trivial))
        refine wpQuiet_nil ?_
        intro _ hw'
        obtain ⟨⟨dq, osq⟩, hw''⟩ := hw'
        subst hw''
        have HB2 := Lib.hid (HB.out.trans ((below_regrown wr dq osq).mono HB.out.size))
        have k0 := X0 dq osq
        have k1 := X1 dq osq
        obtain ⟨W2, hW2⟩ : ∃ W, grow (redrawn wr dq) osq = W := ⟨_, rfl⟩
        rw [hW2] at HB2 k0 k1
        simp only [hW2]
        clear hW2 X0 X1 E1 HB
        go_wp2_with fail
        go_loopw [10] (fun q wr => ∃ j : Nat, j ≤ NS ∧ q = .int .i64 j ∧ Hid (fstS (tryAt ⟨cl, cb⟩ ⟨hd, hl, hbb⟩ t done i) j = none) ∧ Below w.heap.size w wr ∧ wr.cell? ⟨xb, 0, none⟩ = some (.int .i64 cl) ∧ wr.cell? ⟨xb, 1, none⟩ = some (.int .i64 cb)) (fun q _ => NS - (intOf q).toNat)
        case atStart => exact ⟨0, Nat.zero_le _, rfl, Lib.hid rfl, HB2.out, k0, k1⟩
        case round =>
          clear k0 k1 HB2
          obtain ⟨j, hj, rfl, hat, hb, x0, x1⟩ := hrel
          have E2 := fun (d : Nat) (os : Array Obj) => cell_regrown (HHC.out _ hb).c2 d os
          have X0 := fun (d : Nat) (os : Array Obj) => cell_regrown x0 d os
          have X1 := fun (d : Nat) (os : Array Obj) => cell_regrown x1 d os
          dsimp only at E2
          have HB := Lib.hid hb
          clear x0 x1 hb
          by_cases hjlt : (j : Int) + hbb ≤ cb
          · go_wp2
            refine wp_region_quiet_below (by kernel_rfl) (by kernel_rfl) ?_
            repeat (go_big_quiet_step (first | exact trivial))
            refine wpQuiet_nil ?_
            intro _ hw'
            obtain ⟨⟨dq, osq⟩, hw''⟩ := hw'
            subst hw''
            have HB3 := Lib.hid (HB.out.trans ((below_regrown wr dq osq).mono HB.out.size))
            have k0 := X0 dq osq
            have k1 := X1 dq osq
            obtain ⟨W3, hW3⟩ : ∃ W, grow (redrawn wr dq) osq = W := ⟨_, rfl⟩
            rw [hW3] at HB3 k0 k1
            simp only [hW3]
            clear hW3 X0 X1 E2 HB
            have hin : inside ⟨cl, cb⟩ ⟨hd, hl, hbb⟩ (sp i j) := by unfold inside sp; dsimp only; omega
            have CPk := Lib.hid (CP.out i j hin)
            have IHk := Lib.hid (IH.out i j hin)
            have HR := Lib.hid (World.ownsRow_made (size := 2) (e := 42) W3 #[] 0 (Nat.le_refl _) (by unfold maxLen; omega) rfl)
            have HN := Lib.hid (own_cells ((own_below HO.out HB3.out).alloc (.cells #[] 42)))
            have lx := World.block_lt_of_cell? _ _ k0
            clear CP IH hin
            go_wp2_with (at_builtin; refine wpList_append_own _ rfl (.tmp 45) (.tmp 46) 29 rfl W3.heap.size 42 i0 (.agg #[.int .i64 0, .int .i64 0]) 2 16 Try.underlying29 hii hz0 hz1 hz2 rfl (by decide) (.slice (some ⟨W3.heap.size, 0, none⟩) 0 0) 0 [] rfl HR.out ⟨g, 0, none⟩ m c' (flatSpot SS) rfl HFL.out HN.out HF1.out (by unfold maxLen; omega) (by omega) (by simp) ?_; intro va wa howna hgrowa hnila; obtain ⟨ga, ca, rfl, hga⟩ := own_some howna (fun e => nomatch (hnila.1 e).1); have HBa := Lib.hid (((Below.refl W3.heap.size W3).alloc (Nat.le_refl _) (.cells #[] 42)).grown hgrowa (by simp) (fun q hq => by cases hq; exact Nat.le_refl _)); rw [Nat.zero_add, List.nil_append] at howna; have HOWN := Lib.hid howna; clear howna hgrowa hnila; refine Hid.out ?_)
            have kb := HBa.out.size
            have k0a := (HBa.out.cell lx).trans k0
            have k1a := (HBa.out.cell (p := ⟨xb, 1, none⟩) lx).trans k1
            clear HN HR
            refine Lib.hid ?_
            go_wp2_with (at_builtin; refine wpList_append_own _ rfl (.tmp 47) (.tmp 51) 29 rfl W3.heap.size 42 i0 (.agg #[.int .i64 0, .int .i64 0]) 2 16 Try.underlying29 hii hz0 hz1 hz2 rfl (by decide) (.slice (some ⟨ga, 0, none⟩) (m) ca) (m) _ rfl (HOWN.out.alloc _) ⟨wa.heap.size, 0, none⟩ 1 1 [.int .i64 (i : Int), .int .i64 (j : Int)] rfl rfl (cell_two_new _ _ _ _) (by simp [Value.oneCell']) (by unfold maxLen; omega) (by omega) (by have := (HBa.out).size; simp; omega) ?_; intro v1 w1 hown1 hgrow1 hnil1; obtain ⟨g1, c1, rfl, hg1⟩ := own_some hown1 (fun e => nomatch (hnil1.1 e).1); have hb1 := ((HBa.out).alloc (HBa.out).size (.cells #[.int .i64 (i : Int), .int .i64 (j : Int)] 42)).grown hgrow1 (by have := (HBa.out).size; simp; omega) (fun q hq => by cases hq; assumption); have kk0 := (hb1.cell (p := ⟨xb, 0, none⟩) lx).trans k0; have kk1 := (hb1.cell (p := ⟨xb, 1, none⟩) lx).trans k1; have HOW1 := Lib.hid hown1; have HBb := Lib.hid hb1; clear hown1 hb1 k0a k1a; clear hnil1 hgrow1 )
            have HBw := Lib.hid (HB3.out.trans (HBb.out.mono HB3.out.size))
            have HOW2 := Lib.hid (show w1.ownsRow base 42 2 (.slice (some ⟨g1, 0, none⟩) (m + 1) c1) (m + 1) (flatSpot (SS ++ [sp i j])) by rw [flatSpot_append]; exact own_low HOW1.out (Nat.le_trans hbase HB3.out.size))
            have hbg1 : base ≤ g1 := Nat.le_trans (Nat.le_trans hbase HB3.out.size) hg1
            obtain ⟨F, hF⟩ : ∃ F, freeB ⟨hd, hl, hbb⟩ (sp i j) done = F := ⟨_, rfl⟩
            have HF := Lib.hid hF
            rw [hF] at CPk
            have HB3s := HB3.out.size
            clear hF k0 k1 lx HOWN HBa HOW1 HBb
            refine (CPk.out _ HBw.out g1 c1 (own_Spots HOW2.out)).mono ?_
            rintro e w4 ⟨rfl, hb⟩
            have HB5 := Lib.hid (HBw.out.trans (hb.mono HBw.out.size))
            have lx := World.block_lt_of_cell? _ _ kk0
            have k0 := (hb.cell lx).trans kk0
            have k1 := (hb.cell (p := ⟨xb, 1, none⟩) lx).trans kk1
            have HOW5 := Lib.hid (own_below HOW2.out hb)
            clear hb CPk kk0 kk1 lx HOW2 HBw
            cases F with
            | false =>
              have HT : Hid (fstS (tryAt ⟨cl, cb⟩ ⟨hd, hl, hbb⟩ t done i) (j + 1) = none) := Lib.hid (fstS_none hat.out (try_not HF.out))
              clear HF HOW5 IHk
              go_wp2_with fail
              go_roundw
              case rel => exact ⟨j + 1, by omega, by go_num, HT, HB5.out, k0, k1⟩
              case measure => simp [intOf]; omega
            | true =>
              obtain ⟨RK, hRK⟩ : ∃ x, search ⟨cl, cb⟩ t ((⟨hd, hl, hbb⟩, sp i j) :: done) = x := ⟨_, rfl⟩
              have HTRY : Hid (tryAt ⟨cl, cb⟩ ⟨hd, hl, hbb⟩ t done i j = RK) := Lib.hid ((try_free HF.out).trans hRK)
              have IH2 := Lib.hid (IHk.out HF.out)
              rw [hRK] at IH2
              clear hRK HF IHk
              go_wp2_with fail
              refine (IH2.out _ HB5.out g1 c1 hbg1 HOW5.out).mono ?_
              rintro e w6 ⟨g2, c2, rfl, hg2, hown2, hb⟩
              have HB7 := Lib.hid (HB5.out.trans (hb.mono HB5.out.size))
              have lx := World.block_lt_of_cell? _ _ k0
              have d0 := (hb.cell lx).trans k0
              have d1 := (hb.cell (p := ⟨xb, 1, none⟩) lx).trans k1
              have HOW7 := Lib.hid hown2
              clear hb IH2 k0 k1 lx HOW5 hown2
              cases RK with
              | none =>
                have HT : Hid (fstS (tryAt ⟨cl, cb⟩ ⟨hd, hl, hbb⟩ t done i) (j + 1) = none) := Lib.hid (fstS_none hat.out HTRY.out)
                clear HTRY HOW7
                go_wp2_with fail
                go_roundw
                case rel => exact ⟨j + 1, by omega, by go_num, HT, HB7.out, d0, d1⟩
                case measure => simp [intOf]; omega
              | some res =>
                obtain rfl : R = some res := HSR.out i j res hrow.out hat.out HTRY.out (by omega) (by omega)
                clear HTRY HSR HS0
                go_wp2_with fail
                refine bodyPost_ret (results_tmp2 rfl _ _ _) rfl ?_
                exact ⟨g2, c2, rfl, hg2, HOW7.out, by first | exact HB7.out | (rw [← hxb]; exact HB7.out)⟩
          · have hje : j = NS := by omega
            have HR : Hid (fstS (tryRow ⟨cl, cb⟩ ⟨hd, hl, hbb⟩ t done) (i + 1) = none) := Lib.hid (fstS_none hrow.out (by rw [HROW.out, ← hje]; exact hat.out))
            clear hje CP IH HO HSL
            go_wp2
            refine wp_region_quiet_below (by kernel_rfl) (by kernel_rfl) ?_
            repeat (go_big_quiet_step (first | exact trivial))
            refine wpQuiet_nil ?_
            intro _ hw'
            obtain ⟨⟨dq, osq⟩, hw''⟩ := hw'
            subst hw''
            have HB3 := Lib.hid (HB.out.trans ((below_regrown wr dq osq).mono HB.out.size))
            have k0 := X0 dq osq
            have k1 := X1 dq osq
            clear X0 X1 E2
            go_wp2
            go_roundw
            case rel => exact ⟨i + 1, by omega, by go_num, HR, HB3.out, k0, k1⟩
            case measure => simp [intOf]; omega
      · have hie : i = NA := by omega
        obtain rfl : R = none := HS0.out.trans (by rw [← hie]; exact hrow.out)
        clear hie CP IH HO HSL HS0 HSR HROW
        go_wp2
        refine wp_region_quiet_below (by kernel_rfl) (by kernel_rfl) ?_
        repeat (go_big_quiet_step (first | exact trivial))
        refine wpQuiet_nil ?_
        intro _ hw'
        obtain ⟨⟨dq, osq⟩, hw''⟩ := hw'
        subst hw''
        have HB3 := Lib.hid (HB.out.trans ((below_regrown wr dq osq).mono HB.out.size))
        clear X0 X1 E1
        obtain ⟨W6, hW6⟩ : ∃ W, grow (redrawn wr dq) osq = W := ⟨_, rfl⟩
        rw [hW6] at HB3
        simp only [hW6]
        clear hW6
        have HEMP := Lib.hid (World.ownsRow_made (size := 2) (e := 42) W6 #[] 0 (base := base) (Nat.le_trans hbase HB3.out.size) (by unfold maxLen; omega) rfl)
        go_wp2_with fail
        refine bodyPost_ret (results_tmp2 rfl _ _ _) rfl ?_
        exact ⟨_, 0, rfl, Nat.le_trans hbase HB3.out.size, HEMP.out, by first | exact HB3.out.alloc HB3.out.size _ | (rw [← hxb]; exact HB3.out.alloc HB3.out.size _)⟩
end Go.Proofs.Ytdleidlmjliapaa
