/- Chapter 12: levels of a plan, hours that are not safe: the model. -/
import Derived.Test.YtdjoiodkmanacaaPuH
namespace Go.Proofs.Ytdjoiodkmanacaa
open Go.RowKit Go.PlainAid Go.Sort
set_option linter.unusedVariables false
set_option linter.unusedSimpArgs false

set_option maxRecDepth 100000 in
set_option maxHeartbeats 4000000 in
theorem levelsM_any {w : World} {B : Nat} {A D : Option Addr} {n m : Nat} {zs : List Int} {vs : List TPump} (a b c : Int) (q r : Nat) (h : IsTs w B A n zs D m vs) (hgd : goodT ⟨a, b, c, zs, vs⟩) {BG : Nat} {G : Option Addr} {l : Nat} {xs : List Int} (cx : Nat) (hp : IsIs w BG G l xs) (hln : l ≤ n) (hin : ∀ j, 0 ≤ xs.getD j 0 ∧ xs.getD j 0 ≤ 3) :
    Calls Try.prog 53 #[.agg #[.int .i64 a, .int .i64 b, .int .i64 c, .slice A n q, .slice D m r], .slice G l cx] w fun e w' => ∃ v, e = .returned v ∧ OwnY w w' (lvsU ⟨a, b, c, zs, vs⟩ xs l) l v := by
  obtain ⟨i0, hi, hz0, hz1, hz2⟩ := info_parts Try.infoInt'
  obtain ⟨W5, hW5, X5, B5, z5⟩ := box_in w a b c A n q D m r
  obtain ⟨W6, hW6⟩ : ∃ W, W5.alloc (.cells #[] 3) = W := ⟨_, rfl⟩
  obtain ⟨p, hpe⟩ : ∃ p, W5.heap.size = p := ⟨_, rfl⟩
  have hwp : w.heap.size < p := by omega
  have hB6 : Below p W5 W6 := by rw [← hW6, ← hpe]; exact below1 _ _
  have hO6 : W6.ownsRow p 3 1 (.slice (some ⟨p, 0, none⟩) 0 0) 0 ([] : List Value) := by rw [← hW6, ← hpe]; exact World.ownsRow_made W5 #[] 0 (Nat.le_refl _) (by unfold maxLen; omega) rfl
  have hBw : ∀ {W}, Below p W5 W → Below w.heap.size w W := fun hb => B5.trans (hb.mono (by omega))
  have HBW := Lib.hid (fun W (hb : Below p W5 W) => hBw hb)
  have HXW := Lib.hid (fun W (hb : Below p W5 W) => X5.below hb hwp)
  have HTW := Lib.hid (fun W (hb : Below p W5 W) => h.upB (hBw hb))
  have HPW := Lib.hid (fun W (hb : Below p W5 W) => hp.upB (hBw hb))
  have hX6 := HXW.out _ hB6
  have cT0 := hX6.c0
  have cT1 := hX6.c1
  have cT2 := hX6.c2
  have cT3 := hX6.c3
  have cT4 := hX6.c4
  have HP5 := Lib.hid (show p ≤ W5.heap.size by omega)
  have HB6 := Lib.hid hB6
  have HO6 := Lib.hid hO6
  have HLEN := Lib.hid hp.len
  have HLZ := Lib.hid h.ints.len
  have HGD := Lib.hid hgd
  have HIN := Lib.hid hin
  have hn5 : n ≤ 5 := by rw [← h.ints.len]; exact hgd.2.1.2
  have hm2 : m ≤ 2 := by rw [← h.pumps.len]; exact hgd.2.2.1
  clear h hp X5 B5 z5 hB6 hX6 hO6 hBw hgd hin
  go_enter Try.func53, Try.ntmps53
  go_wp2_with fail
  (try rw [hW5])
  (try rw [hpe])
  (try rw [hW6])
  clear hW5 hW6 hpe
  clear cT0 cT1 cT2 cT3 cT4
  go_loopw [5, 6, 7] (fun v s i wr => ∃ (k : Nat) (g0 cp : Nat), k ≤ l ∧ i = .int .i64 k ∧ s = .int .i64 (lvU ⟨a, b, c, zs, vs⟩ xs k) ∧ v = .slice (some ⟨g0, 0, none⟩) k cp ∧ wr.ownsRow p 3 1 (.slice (some ⟨g0, 0, none⟩) k cp) k ((lvsU ⟨a, b, c, zs, vs⟩ xs k).map (.int .i64)) ∧ Below p W5 wr) (fun _ _ i _ => l - (intOf i).toNat)
  case atStart => exact ⟨0, p, 0, Nat.zero_le _, rfl, rfl, rfl, HO6.out, HB6.out⟩
  case round =>
    obtain ⟨k, g0, cp, hk, rfl, rfl, rfl, hown, hb⟩ := hrel
    by_cases hlt : k < l
    · obtain ⟨aI, rfl, hab, ez⟩ := (HTW.out _ hb).ints.has.numAt (k := k) (by rw [HLZ.out]; omega)
      have hk0 : (0 : Int) ≤ (k : Int) := by omega
      have hk1 : (k : Int) < (l : Int) := by omega
      have hk2 : (k : Int) < (n : Int) := by omega
      have hX := HXW.out _ hb
      have cT0 := hX.c0
      have cT1 := hX.c1
      have cT2 := hX.c2
      have cT3 := hX.c3
      have cT4 := hX.c4
      have E0 := fun (d : Nat) (os : Array Obj) => cell_regrown cT0 d os
      have E1 := fun (d : Nat) (os : Array Obj) => cell_regrown cT1 d os
      have E2 := fun (d : Nat) (os : Array Obj) => cell_regrown cT2 d os
      have E3 := fun (d : Nat) (os : Array Obj) => cell_regrown cT3 d os
      have E4 := fun (d : Nat) (os : Array Obj) => cell_regrown cT4 d os
      have hbd := lvU_bd HGD.out xs k (by show k ≤ zs.length; rw [HLZ.out]; omega)
      have hf := HGD.out.2.2.2.1 k (by show k < zs.length; rw [HLZ.out]; omega)
      have hs := sumU_bd HGD.out.2.2.2.2 TPump.x0_bdU (xs.getD k 0) m (by show m ≤ vs.length; rw [(HTW.out _ hb).pumps.len]; exact Nat.le_refl _)
      have k1 := fun (dr : Nat) (os : Array Obj) => Calls.regrown_of (w := wr) (d := dr) (os := os) (outS_any (w := grow (redrawn wr dr) os) a b c (some aI) n q r ((HTW.out _ hb).pumps.below (below_regrown wr dr os) (HTW.out _ hb).low) hm2 HGD.out.2.2.2.2 cx ((HPW.out _ hb).below (below_regrown wr dr os) (HPW.out _ hb).low) (by omega) HIN.out k hlt)
      have hST : lvU ⟨a, b, c, zs, vs⟩ xs (k + 1) = lvU ⟨a, b, c, zs, vs⟩ xs k + zs.getD k 0 - sumU TPump.x0 vs (xs.getD k 0) m := by
        rw [lvU]; unfold outU; dsimp only; rw [(HTW.out _ hb).pumps.len]
      have HLS := Lib.hid (lvsU_succ ⟨a, b, c, zs, vs⟩ xs k)
      rw [hST] at HLS
      have HST := Lib.hid hST
      obtain ⟨S, hS⟩ : ∃ S, lvU ⟨a, b, c, zs, vs⟩ xs k = S := ⟨_, rfl⟩
      rw [hS] at HST HLS hbd ⊢
      dsimp only at hf
      generalize zs.getD k 0 = Y at ez hf HST HLS
      generalize sumU TPump.x0 vs (xs.getD k 0) m = Z at k1 hs HST HLS
      have EZ := fun (d : Nat) (os : Array Obj) => cell_regrown ez d os
      have HB := Lib.hid hb
      have HOWN := Lib.hid hown
      have HBR := Lib.hid (Below.refl wr.heap.size wr)
      clear hS hX hST hb hown cT0 cT1 cT2 cT3 cT4 ez
      go_wp2_with fail
      refine wp_region_quiet_below (by kernel_rfl) (by kernel_rfl) ?_
      repeat (go_big_quiet_step (first | exact k1 _ _))
      refine wpQuiet_nil ?_
      intro _ hw'
      obtain ⟨⟨dq, osq⟩, hw''⟩ := hw'
      subst hw''
      have hb3 := below_regrown wr dq osq
      have HB3 := Lib.hid (HB.out.trans (hb3.mono (Nat.le_trans HP5.out HB.out.size)))
      have hown := own_below HOWN.out hb3
      generalize grow (redrawn wr dq) osq = w3 at HB3 hown
      have hb := HB3.out
      have hp3 := Nat.le_trans HP5.out HB3.out.size
      have hp5 := HP5.out
      have hg0 : p ≤ g0 := (hown.lt g0 rfl).1
      clear hb3 k1 HOWN HB E0 E1 E2 E3 E4 EZ HBR
      go_wp2_with (at_builtin; refine wpList_append_own _ rfl (.tmp 29) (.tmp 31) 24 rfl p 3 i0 (.int .i64 0) 1 8 Try.underlying24 hi hz0 hz1 hz2 rfl (by decide) (.slice (some ⟨g0, 0, none⟩) (k) cp) (k) _ rfl (hown.alloc _) ⟨w3.heap.size, 0, none⟩ 1 1 [.int .i64 (S + Y - Z)] rfl rfl (cell_one_new _ _ _) (by simp [Value.oneCell']) (by unfold maxLen; omega) (by omega) (by have := (hb).size; simp; omega) ?_; intro v1 w1 hown1 hgrow1 hnil1; obtain ⟨g1, c1, rfl, hg1⟩ := own_some hown1 (fun e => nomatch (hnil1.1 e).1); have hb1 := (hb.alloc hp3 (.cells #[.int .i64 (S + Y - Z)] 3)).grown hgrow1 (by have := (hb).size; simp; omega) (fun q hq => by cases hq; assumption); clear hnil1 hgrow1 hown hb)
      have HO2 := Lib.hid hown1
      have HB2 := Lib.hid hb1
      clear hown1 hb1
      go_roundw
      case rel => exact ⟨k + 1, g1, c1, by omega, by go_num, by rw [HST.out], rfl, by rw [HLS.out, List.map_append]; exact HO2.out, HB2.out⟩
      case measure => simp [intOf]; omega
    · obtain rfl : l = k := by omega
      have HO := Lib.hid hown
      have HB := Lib.hid hb
      have hwg := (hown.lt g0 rfl).1
      clear hb hown
      go_wp2_with fail
      go_ret
      exact ⟨_, rfl, g0, cp, rfl, by omega, own_low HO.out (Nat.le_of_lt hwp), HBW.out _ HB.out⟩
set_option maxRecDepth 100000 in
set_option maxHeartbeats 2000000 in
theorem levelsS_any {w : World} {B : Nat} {A D : Option Addr} {n m : Nat} {zs : List Int} {vs : List TPump} (a b c : Int) (q r : Nat) (h : IsTs w B A n zs D m vs) (hm : n ≤ 1048576) (hm2 : m ≤ 1048576) {BG : Nat} {G : Option Addr} {l : Nat} {xs : List Int} (cx : Nat) (hp : IsIs w BG G l xs) (hl : l ≤ 1048576) (L : List Int) (x : Bool) (hA : LvsA ⟨a, b, c, zs, vs⟩ xs L x) (j : Nat) (hj : L.length = j) :
    Calls Try.prog 17 #[.agg #[.int .i64 a, .int .i64 b, .int .i64 c, .slice A n q, .slice D m r], .slice G l cx] w (GivesY w L j x) := by
  obtain ⟨W5, hW5, X5, B5, z5⟩ := box_in w a b c A n q D m r
  have cT0 := X5.c0
  have cT1 := X5.c1
  have cT2 := X5.c2
  have cT3 := X5.c3
  have cT4 := X5.c4
  have HB5 := Lib.hid B5
  have HX5 := Lib.hid X5
  have C1 := Lib.hid (planS_any a b c q r (h.upB B5) hm hm2 cx (hp.upB B5) hl)
  have HT := Lib.hid (h.upB B5)
  have HP := Lib.hid (hp.upB B5)
  have HNO := Lib.hid hA.2
  have HYES := Lib.hid hA.1
  have HM := Lib.hid hj
  have HG := Lib.hid (gX_iff ⟨a, b, c, zs, vs⟩ xs)
  generalize gX ⟨a, b, c, zs, vs⟩ xs = T at HG C1
  clear h hp X5 B5 z5 hA hj
  go_enter Try.func17, Try.ntmps17
  go_wp2_with fail
  (try rw [hW5])
  clear hW5 cT0 cT1 cT2 cT3 cT4
  refine C1.out.mono ?_
  rintro e w1 ⟨rfl, hb⟩
  have HX1 := Lib.hid (HX5.out.all hb)
  have HB1 := Lib.hid (HB5.out.trans (hb.mono HB5.out.size))
  have HT1 := Lib.hid (HT.out.upB hb)
  have HP1 := Lib.hid (HP.out.upB hb)
  clear hb C1 HX5 HB5 HT HP
  cases T with
  | false =>
    obtain ⟨rfl, rfl⟩ := HNO.out (fun g => by have := HG.out.2 g; cases this)
    obtain rfl : 0 = j := HM.out
    clear HNO HYES HG
    go_wp2_with fail
    go_ret2
    exact ⟨_, _, rfl, own_low (World.ownsRow_made w1 #[] 0 (Nat.le_refl _) (by unfold maxLen; omega) rfl) HB1.out.size, HB1.out.alloc HB1.out.size _⟩
  | true =>
    have HGD := Lib.hid (HG.out.1 rfl)
    obtain ⟨hL, rfl⟩ := HYES.out HGD.out
    rw [HP1.out.len] at hL
    obtain rfl : l = j := by rw [← HM.out, hL, lvsU_len]
    subst hL
    have hX1 := HX1.out
    have cT0 := hX1.c0
    have cT1 := hX1.c1
    have cT2 := hX1.c2
    have cT3 := hX1.c3
    have cT4 := hX1.c4
    have C2 := Lib.hid (levelsM_any a b c q r HT1.out HGD.out.1 cx HP1.out (by rw [← HP1.out.len, HGD.out.2.1]; exact Nat.le_of_eq HT1.out.ints.len) (fun i => inX_all HGD.out.2.2 i))
    clear HNO HYES HG hX1 HGD
    go_wp2_with fail
    refine C2.out.mono ?_
    rintro e w2 ⟨v, rfl, hv⟩
    have HV := Lib.hid (hv.base HB1.out)
    clear hv C2 cT0 cT1 cT2 cT3 cT4
    obtain ⟨g, cg, rfl, h1, h2, h3⟩ := HV.out
    have H2 := Lib.hid h2
    have H3 := Lib.hid h3
    clear h1 h2 h3 HV
    go_wp2_with fail
    go_ret2
    exact ⟨g, cg, rfl, H2.out, H3.out⟩
/-- The first hour that is not safe, or -1. -/
def UnsA (t : Tsk) (xs : List Int) (l : Nat) (v : Int) : Prop := (safeN t xs l → v = -1) ∧ ∀ k, fstU t xs l k → v = (k : Int)
theorem unsA_ex (t : Tsk) (xs : List Int) (l : Nat) : ∃ v, UnsA t xs l v := by
  by_cases e : safeN t xs l
  · exact ⟨-1, fun _ => rfl, fun k hk => absurd e (fstU_no hk)⟩
  · obtain ⟨k, hk⟩ := fstU_ex e
    exact ⟨(k : Int), fun h => absurd h e, fun j hj => by rw [fstU_one hk hj]⟩
set_option maxRecDepth 100000 in
set_option maxHeartbeats 2000000 in
theorem unsafe_any {w : World} {B : Nat} {A D : Option Addr} {n m : Nat} {zs : List Int} {vs : List TPump} (a b c : Int) (q r : Nat) (h : IsTs w B A n zs D m vs) (hgd : goodT ⟨a, b, c, zs, vs⟩) {BG : Nat} {G : Option Addr} {l : Nat} {xs : List Int} (cx : Nat) (hp : IsIs w BG G l xs) (hln : l ≤ n) (hin : ∀ j, 0 ≤ xs.getD j 0 ∧ xs.getD j 0 ≤ 3) (v : Int) (hv : UnsA ⟨a, b, c, zs, vs⟩ xs l v) :
    Calls Try.prog 61 #[.agg #[.int .i64 a, .int .i64 b, .int .i64 c, .slice A n q, .slice D m r], .slice G l cx] w fun e w' => e = .returned (.int .i64 v) ∧ Below w.heap.size w w' := by
  obtain ⟨W5, hW5, X5, B5, z5⟩ := box_in w a b c A n q D m r
  have cT0 := X5.c0
  have cT1 := X5.c1
  have cT2 := X5.c2
  have cT3 := X5.c3
  have cT4 := X5.c4
  have HB5 := Lib.hid B5
  have HX5 := Lib.hid X5
  have hn5 : n ≤ 5 := by rw [← h.ints.len]; exact hgd.2.1.2
  have C1 := Lib.hid (levelsM_any a b c q r (h.upB B5) hgd cx (hp.upB B5) hln hin)
  have CI := Lib.hid (fun z W => l1In_any z a b W)
  have HV := Lib.hid hv
  clear h hp X5 B5 z5 hgd hin hv
  go_enter Try.func61, Try.ntmps61
  go_wp2_with fail
  (try rw [hW5])
  clear hW5 cT0 cT1 cT2 cT3 cT4
  refine C1.out.mono ?_
  rintro e w1 ⟨v1, rfl, hv1⟩
  have hb := hv1.low
  have HX1 := Lib.hid (HX5.out.all hb)
  have HB1 := Lib.hid (HB5.out.trans (hb.mono HB5.out.size))
  obtain ⟨g, cg, rfl, hI⟩ := hv1.is
  have HI := Lib.hid hI
  clear hb C1 HX5 HB5 hv1 hI
  go_wp2_with fail
  go_loopw [6] (fun i wr => ∃ k : Nat, k ≤ l ∧ i = .int .i64 k ∧ Hid (safeN ⟨a, b, c, zs, vs⟩ xs k) ∧ Below w1.heap.size w1 wr) (fun i _ => l - (intOf i).toNat)
  case atStart => exact ⟨0, Nat.zero_le _, rfl, Lib.hid (fun j hj => absurd hj (by omega)), Below.refl _ _⟩
  case round =>
    obtain ⟨k, hk, rfl, hall, hb⟩ := hrel
    by_cases hlt : k < l
    · obtain ⟨aI, eI, hab, ez⟩ := (HI.out.upB hb).has.numAt (k := k) (by rw [HI.out.len]; exact hlt)
      injection eI with eI
      subst eI
      rw [lvsU_at _ _ hlt, addO, Nat.zero_add] at ez
      have hk0 : (0 : Int) ≤ (k : Int) := by omega
      have hk1 : (k : Int) < (l : Int) := by omega
      have hX := HX1.out.all hb
      have cT0 := hX.c0
      have cT1 := hX.c1
      have cT2 := hX.c2
      have cT3 := hX.c3
      have cT4 := hX.c4
      have E0 := fun (d : Nat) (os : Array Obj) => cell_regrown cT0 d os
      have E1 := fun (d : Nat) (os : Array Obj) => cell_regrown cT1 d os
      have E2 := fun (d : Nat) (os : Array Obj) => cell_regrown cT2 d os
      have E3 := fun (d : Nat) (os : Array Obj) => cell_regrown cT3 d os
      have E4 := fun (d : Nat) (os : Array Obj) => cell_regrown cT4 d os
      have HA := Lib.hid (fun (g : a ≤ lvU ⟨a, b, c, zs, vs⟩ xs (k + 1) ∧ lvU ⟨a, b, c, zs, vs⟩ xs (k + 1) ≤ b) => safeN_succ.2 ⟨hall.out, g⟩)
      have HF := Lib.hid (fun (g : ¬ (a ≤ lvU ⟨a, b, c, zs, vs⟩ xs (k + 1) ∧ lvU ⟨a, b, c, zs, vs⟩ xs (k + 1) ≤ b)) => HV.out.2 k ⟨hlt, hall.out, g⟩)
      generalize lvU ⟨a, b, c, zs, vs⟩ xs (k + 1) = Z at ez HA HF
      have k1 := fun (dr : Nat) (os : Array Obj) => Calls.regrown_of (w := wr) (d := dr) (os := os) (toBelow (CI.out Z (grow (redrawn wr dr) os)))
      have EZ := fun (d : Nat) (os : Array Obj) => cell_regrown ez d os
      obtain ⟨bb, hbb⟩ : ∃ y, decide (a ≤ Z ∧ Z ≤ b) = y := ⟨_, rfl⟩
      rw [hbb] at k1
      have HBB := Lib.hid hbb
      have HB := Lib.hid hb
      clear hall hb hX hbb ez HI HV CI cT0 cT1 cT2 cT3 cT4
      go_wp2_with fail
      refine wp_region_quiet_below (by kernel_rfl) (by kernel_rfl) ?_
      repeat (go_big_quiet_step (first | exact k1 _ _))
      refine wpQuiet_nil ?_
      intro _ hw'
      obtain ⟨⟨dq, osq⟩, hw''⟩ := hw'
      subst hw''
      have HB6 := Lib.hid (HB.out.trans ((below_regrown wr dq osq).mono HB.out.size))
      clear k1 E0 E1 E2 E3 E4 EZ HB
      cases bb with
      | true =>
        have HR := Lib.hid (HA.out (of_decide_eq_true HBB.out))
        clear HF HA HBB
        go_wp2_with fail
        go_roundw
        case rel => exact ⟨k + 1, by omega, by go_num, HR, HB6.out⟩
        case measure => simp [intOf]; omega
      | false =>
        obtain rfl : v = (k : Int) := HF.out (of_decide_eq_false HBB.out)
        have HBZ := Lib.hid (HB1.out.trans (HB6.out.mono HB1.out.size))
        clear HF HA HBB
        go_wp2_with fail
        go_ret
        exact ⟨rfl, HBZ.out⟩
    · obtain rfl : l = k := by omega
      obtain rfl : v = -1 := HV.out.1 hall.out
      have HBZ := Lib.hid (HB1.out.trans (hb.mono HB1.out.size))
      clear hb hall HV HI CI
      go_wp2_with fail
      go_ret
      exact ⟨rfl, HBZ.out⟩
end Go.Proofs.Ytdjoiodkmanacaa
