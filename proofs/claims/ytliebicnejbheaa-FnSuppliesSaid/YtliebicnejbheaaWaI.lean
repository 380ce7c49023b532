/- Chapter 10: leveling out: the model. -/
import Derived.Test.YtliebicnejbheaaWaG
import Derived.Deep.LoopGhost
namespace Go.Proofs.Ytliebicnejbheaa
open Go.RowKit Go.PlainAid Go.Sort
set_option linter.unusedVariables false
set_option linter.unusedSimpArgs false

/-- Three Basins of a row, their numbers apart. -/
theorem farK_step (d : TBasin → Int) (vs : List TBasin) (k : Nat) : (d (vs.getD (farK d vs k) noBasin) < d (vs.getD k noBasin) → farK d vs (k + 1) = k) ∧ (¬ d (vs.getD (farK d vs k) noBasin) < d (vs.getD k noBasin) → farK d vs (k + 1) = farK d vs k) :=
  ⟨fun h => if_pos h, fun h => if_neg h⟩
set_option maxRecDepth 100000 in
set_option maxHeartbeats 4000000 in
theorem levS_any {w : World} {B : Nat} {A : Option Addr} {n : Nat} {vs : List TBasin} (c : Nat) (h : IsBasins w B A n vs) (hm : n ≤ 1048576) (L : List TBasin) (x : Bool) (hA : LevA vs L x) (m : Nat) (hl : L.length = m) :
    Calls Try.prog 36 #[.slice A n c] w (GivesB w L m x) := by
  have C := Lib.hid (l10Good_any c h (Nat.le_trans hm (by unfold maxLen; omega)))
  have HI := Lib.hid h
  have HNO := Lib.hid hA.2
  have HYES := Lib.hid hA.1
  have HM := Lib.hid hl
  obtain ⟨G, hG⟩ : ∃ G, gBs vs = G := ⟨_, rfl⟩
  rw [hG] at HNO HYES C
  have HGE := Lib.hid hG
  clear h hA hG hl
  go_enter Try.func36, Try.ntmps36
  go_wp2_with fail
  refine C.out.mono ?_
  rintro e w1 ⟨rfl, hb⟩
  have HB1 := Lib.hid hb
  clear hb C
  cases G with
  | false =>
    obtain ⟨rfl, rfl⟩ := HNO.out rfl
    obtain rfl : 0 = m := HM.out
    clear HNO HYES HGE
    go_wp2_with fail
    refine bodyPost_ret (results_tmp2 rfl _ _ _) rfl ?_
    exact (OwnB.nil HB1.out).gives false
  | true =>
  obtain ⟨⟨T, hT, hL⟩, rfl⟩ := HYES.out rfl
  have hgood := (gBs_iff vs).1 HGE.out
  have hn6 : n ≤ 6 := by rw [← HI.out.len]; exact hgood.1.2
  have hn1 : 0 < n := by rw [← HI.out.len]; exact hgood.1.1
  obtain ⟨a, rfl⟩ := some_of HI.out hn1
  obtain rfl : n = m := by rw [← HM.out, hL, lvK_len, HI.out.len]
  have HL := Lib.hid hL
  have HGK := Lib.hid (fun t (ht : t ≤ T) => lv_good hgood t (fun s hs => hT.2 s (by omega)))
  have HLN := Lib.hid (fun t => (lvK_len vs t).trans HI.out.len)
  have HSN := Lib.hid (fun t (ht : t < T) => hT.2 t ht)
  have HSY := Lib.hid hT.1
  clear HNO HYES HM HGE hL hT hgood
  obtain ⟨i0, hi, hz0, hz1, hz2⟩ := info_parts Try.infoBasin'
  have hfl : (flatBasin vs).length = n * 3 := by rw [flatBasin_len, HI.out.len]; omega
  have HN : Hid (∀ j u, (flatBasin vs)[j]? = some u → (w1.alloc (.cells #[] 53)).cell? (a.add j) = some u) := Lib.hid (fun j u hu => by
    obtain ⟨a', e, hb, hc⟩ := (HI.out.below (HB1.out.alloc HB1.out.size (.cells #[] 53)) HI.out.low).has j u hu
    injection e with e
    subst e
    exact hc)
  have HOC : Hid (∀ u ∈ flatBasin vs, u.oneCell' = true) := Lib.hid (flatBasin_one vs)
  have HR := Lib.hid (World.ownsRow_made (size := 3) (e := 53) w1 #[] 0 (Nat.le_refl _) (by unfold maxLen; omega) rfl)
  obtain ⟨xs, hxs⟩ : ∃ xs, flatBasin vs = xs := ⟨_, rfl⟩
  rw [hxs] at hfl HN HOC
  have HXS := Lib.hid hxs
  clear hxs
  go_wp2_with (at_builtin; refine wpList_append_own _ rfl (.tmp 12) (.tmp 13) 24 rfl w1.heap.size 53 i0 (.agg #[.int .i64 0, .int .i64 0, .int .i64 0]) 3 24 Try.underlying24 hi hz0 hz1 hz2 rfl (by decide) (.slice (some ⟨w1.heap.size, 0, none⟩) 0 0) 0 [] rfl HR.out a n c xs rfl hfl HN.out HOC.out (by unfold maxLen; omega) (by omega) (by simp) ?_; intro v1 w2 hown1 hgrow1 hnil1; obtain ⟨g1, c1, rfl, hg1⟩ := own_some hown1 (fun e => nomatch (hnil1.1 e).1); have HB9 := Lib.hid (((Below.refl w1.heap.size w1).alloc (Nat.le_refl _) (.cells #[] 53)).grown hgrow1 (by simp) (fun q hq => by cases hq; exact Nat.le_refl _)); rw [Nat.zero_add, List.nil_append] at hown1; have HOWN := Lib.hid hown1; clear hown1 hgrow1 hnil1 HR HN HOC)
  rw [← HXS.out] at HOWN
  have HO0 : Hid (OwnB w w2 vs n (.slice (some ⟨g1, 0, none⟩) n c1)) := Lib.hid (OwnB.base ⟨g1, c1, rfl, hg1, HOWN.out, HB9.out⟩ HB1.out)
  clear HOWN HB9 HXS hg1 hfl
  have CA := Lib.hid (fun d l b W h1 h2 h3 => l10Above_any d l b W h1 h2 h3)
  clear HB1
  go_wp2_with fail
  go_loopg [4] T (fun gh v wr => ∃ t, t + gh = T ∧ Hid (OwnB w wr (lvK vs t) n v))
  case atStart => exact ⟨0, by omega, HO0⟩
  case round =>
    clear HO0
    obtain ⟨t, htg, hO⟩ := hrel
    have htT : t ≤ T := by omega
    have HG := Lib.hid (HGK.out t htT)
    have HUL := Lib.hid (HLN.out t)
    have HFD : Hid (∀ d, farK d (lvK vs t) n = farK d (lvK vs t) (lvK vs t).length) := Lib.hid (fun d => by rw [HUL.out])
    have HST : Hid (lvStop (lvK vs t) ↔ upB ((lvK vs t).getD (farK upB (lvK vs t) n) noBasin) < upB ((lvK vs t).getD (farK dnB (lvK vs t) n) noBasin) + 2 ∨ dnB ((lvK vs t).getD (farK dnB (lvK vs t) n) noBasin) = 0) := Lib.hid (by rw [HFD.out upB, HFD.out dnB]; exact Iff.rfl)
    have HLF : Hid (lvF (lvK vs t) = ⟨(farK upB (lvK vs t) n : Int), (farK dnB (lvK vs t) n : Int), 1⟩) := Lib.hid (by rw [HFD.out upB, HFD.out dnB]; rfl)
    have HNX : Hid (lvK vs (t + 1) = move (lvK vs t) (lvF (lvK vs t))) := Lib.hid rfl
    have HSF : Hid (¬ lvStop (lvK vs t) → goodF n (lvF (lvK vs t))) := Lib.hid (fun h => by have := (lv_step HG.out h).2.2.2.1; rwa [HUL.out] at this)
    have HSE : Hid (lvStop (lvK vs t) ↔ t = T) := Lib.hid ⟨fun h => by
      rcases Nat.lt_or_ge t T with h1 | h1
      · exact absurd h (HSN.out t h1)
      · omega, fun h => h ▸ HSY.out⟩
    obtain ⟨us, hus⟩ : ∃ us, lvK vs t = us := ⟨_, rfl⟩
    have HUS := Lib.hid hus
    rw [hus] at hO HG HUL HST HLF HNX HSF HSE
    clear hus HFD
    obtain ⟨g, cg, rfl, hg1, hg2, hg3⟩ := hO.out
    have HOWs := Lib.hid hg2
    have HBs := Lib.hid hg3
    clear hO hg2 hg3
    go_wp2_with fail
    go_loopw [5, 6, 7] (fun f q i wr => ∃ k : Nat, k ≤ n ∧ i = .int .i64 k ∧ f = .int .i64 (farK upB us k : Nat) ∧ q = .int .i64 (farK dnB us k : Nat) ∧ Hid (wr.ownsRow w.heap.size 53 3 (.slice (some ⟨g, 0, none⟩) n cg) n (flatBasin us)) ∧ Hid (Below w.heap.size w wr)) (fun _ _ i _ => n - (intOf i).toNat)
    case atStart => exact ⟨0, Nat.zero_le _, rfl, rfl, rfl, HOWs, HBs⟩
    case round =>
      clear HOWs HBs
      obtain ⟨k, hk, rfl, rfl, rfl, HOW, HB⟩ := hrel
      by_cases hlt : k < n
      · have hp : farK upB us k < n := by have := farK_le upB us k; omega
        have hq : farK dnB us k < n := by have := farK_le dnB us k; omega
        obtain ⟨hsu1, hsu2⟩ := farK_step upB us k
        obtain ⟨hsd1, hsd2⟩ := farK_step dnB us k
        obtain ⟨⟨g1, g2⟩, g3, g4⟩ := HG.out.2 k (by rw [HUL.out]; exact hlt)
        obtain ⟨⟨p1, p2⟩, p3, p4⟩ := HG.out.2 _ (by rw [HUL.out]; exact hp)
        obtain ⟨⟨q1, q2⟩, q3, q4⟩ := HG.out.2 _ (by rw [HUL.out]; exact hq)
        obtain ⟨Xa, Xb, Xc⟩ := own_atB HOW.out hlt
        obtain ⟨Ya, Yb, Yc⟩ := own_atB HOW.out hp
        obtain ⟨p, hp0⟩ : ∃ j, farK upB us k = j := ⟨_, rfl⟩
        obtain ⟨q, hq0⟩ : ∃ j, farK dnB us k = j := ⟨_, rfl⟩
        rw [hp0] at hsu1 hsu2 hp p1 p2 p3 p4 Ya Yb Yc ⊢
        rw [hq0] at hsd1 hsd2 hq q1 q2 q3 q4 ⊢
        clear hp0 hq0
        obtain ⟨V, hV⟩ : ∃ V, us.getD k noBasin = V := ⟨_, rfl⟩
        obtain ⟨U, hU⟩ : ∃ V, us.getD p noBasin = V := ⟨_, rfl⟩
        obtain ⟨T9, hT⟩ : ∃ V, us.getD q noBasin = V := ⟨_, rfl⟩
        have HV := Lib.hid hV
        have HT := Lib.hid hT
        rw [hV] at g1 g2 g3 g4 Xa Xb Xc hsu1 hsu2 hsd1 hsd2
        rw [hU] at p1 p2 p3 p4 Ya Yb Yc hsu1 hsu2
        rw [hT] at q1 q2 q3 q4 hsd1 hsd2
        clear hV hU hT
        obtain ⟨d, l, b⟩ := V
        obtain ⟨d2, l2, b2⟩ := U
        obtain ⟨d3, l3, b3⟩ := T9
        have HSU1 : Hid (d2 - l2 < d - l → farK upB us (k + 1) = k) := Lib.hid hsu1
        have HSU2 : Hid (¬ d2 - l2 < d - l → farK upB us (k + 1) = p) := Lib.hid hsu2
        have HSD1 : Hid (b3 - d3 < b - d → farK dnB us (k + 1) = k) := Lib.hid hsd1
        have HSD2 : Hid (¬ b3 - d3 < b - d → farK dnB us (k + 1) = q) := Lib.hid hsd2
        dsimp only at g1 g2 g3 g4 p1 p2 p3 p4 q1 q2 q3 q4 Xa Xb Xc Ya Yb Yc
        clear hsu1 hsu2 hsd1 hsd2
        have hk0 : (0 : Int) ≤ (k : Int) := by omega
        have hk1 : (k : Int) < (n : Int) := by omega
        have hp0 : (0 : Int) ≤ (p : Int) := by omega
        have hp1 : (p : Int) < (n : Int) := by omega
        have hq0 : (0 : Int) ≤ (q : Int) := by omega
        have hq1 : (q : Int) < (n : Int) := by omega
        have c1 := fun (dr : Nat) (os : Array Obj) => Calls.regrown_of (w := wr) (d := dr) (os := os) (CA.out d l b _ (by omega) (by omega) (by omega))
        have c2 := fun (dr : Nat) (os : Array Obj) => Calls.regrown_of (w := wr) (d := dr) (os := os) (CA.out d2 l2 b2 _ (by omega) (by omega) (by omega))
        have X0 := fun (d : Nat) (os : Array Obj) => cell_regrown Xa d os
        have X1 := fun (d : Nat) (os : Array Obj) => cell_regrown Xb d os
        have X2 := fun (d : Nat) (os : Array Obj) => cell_regrown Xc d os
        clear Xa Xb Xc
        have Y0 := fun (d : Nat) (os : Array Obj) => cell_regrown Ya d os
        have Y1 := fun (d : Nat) (os : Array Obj) => cell_regrown Yb d os
        have Y2 := fun (d : Nat) (os : Array Obj) => cell_regrown Yc d os
        clear Ya Yb Yc
        clear CA
        go_wp2_with fail
        refine wp_region_quiet_below (by kernel_rfl) (by kernel_rfl) ?_
        repeat (go_big_quiet_step (first | exact c1 _ _ | exact c2 _ _))
        refine wpQuiet_nil ?_
        intro _ hw'
        obtain ⟨⟨dq, osq⟩, hw''⟩ := hw'
        subst hw''
        have HB7 := Lib.hid (HB.out.trans ((below_regrown wr dq osq).mono HB.out.size))
        by_cases hc : d2 - l2 < d - l
        · have HP := Lib.hid (HSU1.out (by omega))
          dsimp only
          have HOW7 := Lib.hid (own_below HOW.out (below_regrown wr dq osq))
          generalize grow (redrawn wr dq) osq = W7 at HB7 HOW7 ⊢
          clear X0 X1 X2 Y0 Y1 Y2 c1 c2
          go_wp2_with fail
          obtain ⟨Za, Zb, Zc⟩ := own_atB HOW7.out hlt
          obtain ⟨Va, Vb, Vc⟩ := own_atB HOW7.out hq
          rw [HV.out] at Za Zb Zc
          rw [HT.out] at Va Vb Vc
          dsimp only at Za Zb Zc Va Vb Vc
          have Z0 := fun (d : Nat) (os : Array Obj) => cell_regrown Za d os
          have Z1 := fun (d : Nat) (os : Array Obj) => cell_regrown Zb d os
          have Z2 := fun (d : Nat) (os : Array Obj) => cell_regrown Zc d os
          clear Za Zb Zc
          have V0 := fun (d : Nat) (os : Array Obj) => cell_regrown Va d os
          have V1 := fun (d : Nat) (os : Array Obj) => cell_regrown Vb d os
          have V2 := fun (d : Nat) (os : Array Obj) => cell_regrown Vc d os
          clear Va Vb Vc
          refine wp_region_quiet_below (by kernel_rfl) (by kernel_rfl) ?_
          repeat (go_big_quiet_step (first | fail))
          refine wpQuiet_nil ?_
          intro _ hw'
          obtain ⟨⟨dq, osq⟩, hw''⟩ := hw'
          subst hw''
          have HB8 := Lib.hid (HB7.out.trans ((below_regrown W7 dq osq).mono HB7.out.size))
          have HOW8 := Lib.hid (own_below HOW7.out (below_regrown W7 dq osq))
          by_cases hd : b3 - d3 < b - d
          · have HQ := Lib.hid (HSD1.out (by omega))
            go_wp2_with fail
            go_roundw
            case rel => exact ⟨k + 1, by omega, by go_num, by rw [HP.out], by rw [HQ.out], HOW8, HB8⟩
            case measure => simp [intOf]; omega
          · have HQ := Lib.hid (HSD2.out (by omega))
            go_wp2_with fail
            go_roundw
            case rel => exact ⟨k + 1, by omega, by go_num, by rw [HP.out], by rw [HQ.out], HOW8, HB8⟩
            case measure => simp [intOf]; omega
        · have HP := Lib.hid (HSU2.out (by omega))
          dsimp only
          have HOW7 := Lib.hid (own_below HOW.out (below_regrown wr dq osq))
          generalize grow (redrawn wr dq) osq = W7 at HB7 HOW7 ⊢
          clear X0 X1 X2 Y0 Y1 Y2 c1 c2
          go_wp2_with fail
          obtain ⟨Za, Zb, Zc⟩ := own_atB HOW7.out hlt
          obtain ⟨Va, Vb, Vc⟩ := own_atB HOW7.out hq
          rw [HV.out] at Za Zb Zc
          rw [HT.out] at Va Vb Vc
          dsimp only at Za Zb Zc Va Vb Vc
          have Z0 := fun (d : Nat) (os : Array Obj) => cell_regrown Za d os
          have Z1 := fun (d : Nat) (os : Array Obj) => cell_regrown Zb d os
          have Z2 := fun (d : Nat) (os : Array Obj) => cell_regrown Zc d os
          clear Za Zb Zc
          have V0 := fun (d : Nat) (os : Array Obj) => cell_regrown Va d os
          have V1 := fun (d : Nat) (os : Array Obj) => cell_regrown Vb d os
          have V2 := fun (d : Nat) (os : Array Obj) => cell_regrown Vc d os
          clear Va Vb Vc
          refine wp_region_quiet_below (by kernel_rfl) (by kernel_rfl) ?_
          repeat (go_big_quiet_step (first | fail))
          refine wpQuiet_nil ?_
          intro _ hw'
          obtain ⟨⟨dq, osq⟩, hw''⟩ := hw'
          subst hw''
          have HB8 := Lib.hid (HB7.out.trans ((below_regrown W7 dq osq).mono HB7.out.size))
          have HOW8 := Lib.hid (own_below HOW7.out (below_regrown W7 dq osq))
          by_cases hd : b3 - d3 < b - d
          · have HQ := Lib.hid (HSD1.out (by omega))
            go_wp2_with fail
            go_roundw
            case rel => exact ⟨k + 1, by omega, by go_num, by rw [HP.out], by rw [HQ.out], HOW8, HB8⟩
            case measure => simp [intOf]; omega
          · have HQ := Lib.hid (HSD2.out (by omega))
            go_wp2_with fail
            go_roundw
            case rel => exact ⟨k + 1, by omega, by go_num, by rw [HP.out], by rw [HQ.out], HOW8, HB8⟩
            case measure => simp [intOf]; omega
      · obtain rfl : k = n := by omega
        have hp : farK upB us k < k := farK_lt upB us k hn1
        have hq : farK dnB us k < k := farK_lt dnB us k hn1
        obtain ⟨⟨p1, p2⟩, p3, p4⟩ := HG.out.2 _ (by rw [HUL.out]; exact hp)
        obtain ⟨⟨q1, q2⟩, q3, q4⟩ := HG.out.2 _ (by rw [HUL.out]; exact hq)
        obtain ⟨Ya, Yb, Yc⟩ := own_atB HOW.out hp
        obtain ⟨Va, Vb, Vc⟩ := own_atB HOW.out hq
        obtain ⟨p, hp0⟩ : ∃ j, farK upB us k = j := ⟨_, rfl⟩
        obtain ⟨q, hq0⟩ : ∃ j, farK dnB us k = j := ⟨_, rfl⟩
        rw [hp0] at HST HLF hp p1 p2 p3 p4 Ya Yb Yc ⊢
        rw [hq0] at HST HLF hq q1 q2 q3 q4 Va Vb Vc ⊢
        clear hp0 hq0
        obtain ⟨U, hU⟩ : ∃ V, us.getD p noBasin = V := ⟨_, rfl⟩
        obtain ⟨T9, hT⟩ : ∃ V, us.getD q noBasin = V := ⟨_, rfl⟩
        rw [hU] at p1 p2 p3 p4 Ya Yb Yc HST
        rw [hT] at q1 q2 q3 q4 Va Vb Vc HST
        clear hU hT
        obtain ⟨d, l, b⟩ := U
        obtain ⟨d2, l2, b2⟩ := T9
        have HS : Hid (lvStop us ↔ d - l < d2 - l2 + 2 ∨ b2 - d2 = 0) := HST
        clear HST
        dsimp only at p1 p2 p3 p4 q1 q2 q3 q4 Ya Yb Yc Va Vb Vc
        have hp0 : (0 : Int) ≤ (p : Int) := by omega
        have hp1 : (p : Int) < (k : Int) := by omega
        have hq0 : (0 : Int) ≤ (q : Int) := by omega
        have hq1 : (q : Int) < (k : Int) := by omega
        have k1 := fun (dr : Nat) (os : Array Obj) => Calls.regrown_of (w := wr) (d := dr) (os := os) (CA.out d l b _ (by omega) (by omega) (by omega))
        have k2 := fun (dr : Nat) (os : Array Obj) => Calls.regrown_of (w := wr) (d := dr) (os := os) (CA.out d2 l2 b2 _ (by omega) (by omega) (by omega))
        have Y0 := fun (d : Nat) (os : Array Obj) => cell_regrown Ya d os
        have Y1 := fun (d : Nat) (os : Array Obj) => cell_regrown Yb d os
        have Y2 := fun (d : Nat) (os : Array Obj) => cell_regrown Yc d os
        clear Ya Yb Yc
        have V0 := fun (d : Nat) (os : Array Obj) => cell_regrown Va d os
        have V1 := fun (d : Nat) (os : Array Obj) => cell_regrown Vb d os
        have V2 := fun (d : Nat) (os : Array Obj) => cell_regrown Vc d os
        clear Va Vb Vc
        by_cases c0 : d - l < d2 - l2 + 2
        · have HSS := Lib.hid (HS.out.2 (.inl c0))
          have b0 : decide (d - l < d2 - l2 + 2) = true := decide_eq_true c0
          clear HS
          have hte := HSE.out.1 HSS.out
          have HLL : Hid (L = us) := Lib.hid (by rw [HL.out, ← hte]; exact HUS.out)
          clear hte HSS
          go_wp2_with fail
          refine wp_region_quiet_below (by kernel_rfl) (by kernel_rfl) ?_
          repeat (first | go_big_quiet_step (first | exact k1 _ _ | exact k2 _ _) | rw [b0])
          refine wpQuiet_nil ?_
          intro _ hw'
          obtain ⟨⟨dq, osq⟩, hw''⟩ := hw'
          subst hw''
          have HB7 := Lib.hid (HB.out.trans ((below_regrown wr dq osq).mono HB.out.size))
          have HOW7 := Lib.hid (own_below HOW.out (below_regrown wr dq osq))
          go_wp2_with fail
          refine bodyPost_ret (results_tmp2 rfl _ _ _) rfl ?_
          rw [HLL.out]
          exact ⟨g, cg, rfl, HOW7.out, HB7.out⟩
        · have b0 : decide (d - l < d2 - l2 + 2) = false := decide_eq_false c0
          by_cases c1 : d2 = b2
          · have HSS := Lib.hid (HS.out.2 (.inr (by omega)))
            have b1 : (d2 == b2) = true := by simp [c1]
            clear HS c1
            have hte := HSE.out.1 HSS.out
            have HLL : Hid (L = us) := Lib.hid (by rw [HL.out, ← hte]; exact HUS.out)
            clear hte HSS
            go_wp2_with fail
            refine wp_region_quiet_below (by kernel_rfl) (by kernel_rfl) ?_
            repeat (first | go_big_quiet_step (first | exact k1 _ _ | exact k2 _ _) | rw [b0])
            refine wpQuiet_nil ?_
            intro _ hw'
            obtain ⟨⟨dq, osq⟩, hw''⟩ := hw'
            subst hw''
            have HB7 := Lib.hid (HB.out.trans ((below_regrown wr dq osq).mono HB.out.size))
            have HOW7 := Lib.hid (own_below HOW.out (below_regrown wr dq osq))
            go_wp2_with fail
            refine bodyPost_ret (results_tmp2 rfl _ _ _) rfl ?_
            rw [HLL.out]
            exact ⟨g, cg, rfl, HOW7.out, HB7.out⟩
          · have HSN2 := Lib.hid (fun h => (HS.out.1 h).elim c0 (fun e => c1 (by omega)))
            have b1 : (d2 == b2) = false := by simpa using c1
            clear HS c1
            cases gk with
            | zero => exact absurd (HSE.out.2 (by omega)) HSN2.out
            | succ gh =>
            have hgf := HSF.out HSN2.out
            have CM := Lib.hid (fun W (ho : World.ownsRow W w.heap.size 53 3 (.slice (some ⟨g, 0, none⟩) k cg) k (flatBasin us)) f0 f1 f2 hf => l10Move_any cg (own_Basins ho) hn6 f0 f1 f2 hf (HG.out.bd.le (by omega)))
            rw [HLF.out] at hgf HNX
            have HGF := Lib.hid hgf
            clear HSF HSN2 HSE hgf
            go_wp2_with fail
            refine wp_region_quiet_below (by kernel_rfl) (by kernel_rfl) ?_
            repeat (first | go_big_quiet_step (first | exact k1 _ _ | exact k2 _ _) | rw [b0])
            refine wpQuiet_nil ?_
            intro _ hw'
            obtain ⟨⟨dq, osq⟩, hw''⟩ := hw'
            subst hw''
            have HB7 := Lib.hid (HB.out.trans ((below_regrown wr dq osq).mono HB.out.size))
            have HOW7 := Lib.hid (own_below HOW.out (below_regrown wr dq osq))
            dsimp only
            generalize grow (redrawn wr dq) osq = W7 at HB7 HOW7 ⊢
            have D := Lib.hid (CM.out W7 HOW7.out _ _ _ HGF.out)
            rw [← HNX.out] at D
            clear Y0 Y1 Y2 V0 V1 V2 k1 k2 CM HOW HB
            go_wp2_with fail
            refine D.out.mono ?_
            rintro e w8 ⟨v8, rfl, hO8⟩
            have HO8 := Lib.hid (hO8.base HB7.out)
            clear hO8 D
            go_wp2_with fail
            go_roundg gh
            case rel => exact ⟨t + 1, by omega, HO8⟩
            case measure => omega
end Go.Proofs.Ytliebicnejbheaa
