/- Chapter 11: water let flow between two of a list: the program. -/
import Derived.Test.YtgnopkemcgbedaaPoD
namespace Go.Proofs.Ytgnopkemcgbedaa
open Go.RowKit Go.PlainAid Go.Sort
set_option linter.unusedVariables false
set_option linter.unusedSimpArgs false

theorem floA_yes {a b : TPool} (ha : goodP a) (hb : goodP b) : FloA a b (flo a b) true := ⟨fun _ => ⟨rfl, rfl⟩, fun h => absurd ⟨ha, hb⟩ h⟩
set_option maxRecDepth 100000 in
set_option maxHeartbeats 4000000 in
theorem letI_any {w : World} {B : Nat} {A : Option Addr} {n : Nat} {vs : List TPool} (c : Nat) (h : IsPools w B A n vs) (hm : n ≤ 1048576) (i j : Int) (L : List TPool) (z : Int) (x : Bool) (hA : LetA vs i j L z x) (q : Nat) (hl : L.length = q) :
    Calls Try.prog 17 #[.slice A n c, .int .i64 i, .int .i64 j] w (GivesP3 w L q z x) := by
  have CG := Lib.hid (arePools_any c h (Nat.le_trans hm (by unfold maxLen; omega)))
  have C0 := Lib.hid (fun W => areIn_any 0 ((n : Int) - 1) (some ⟨W.heap.size, 0, none⟩) 2 2 (W.heap.size + 1) [i, j] (W.alloc (.cells #[.int .i64 i, .int .i64 j] 3)) rfl (by omega) (has_two_new W _ _ _))
  have HI := Lib.hid h
  have HNO := Lib.hid hA.2
  have HYES := Lib.hid hA.1
  have HM := Lib.hid hl
  have HG0 := Lib.hid (gPs_iff vs)
  have HLN := Lib.hid h.len
  clear h hA hl
  generalize gPs vs = b0 at CG HG0
  go_enter Try.func17, Try.ntmps17
  go_wp2_with fail
  refine CG.out.mono ?_
  rintro e w1 ⟨rfl, hb⟩
  have HB1 := Lib.hid hb
  clear hb CG
  cases b0 with
  | false =>
    obtain ⟨rfl, rfl, rfl⟩ := HNO.out (fun g => by have := HG0.out.2 g.1.1; cases this)
    obtain rfl : 0 = q := HM.out
    clear HNO HYES HG0 C0
    go_wp2_with fail
    go_ret3
    exact (OwnP.nil HB1.out).gives3 0 false
  | true =>
  have hgood := HG0.out.1 rfl
  have hn5 : n ≤ 5 := by rw [← HLN.out]; exact hgood.1.2
  have hn1 : 0 < n := by rw [← HLN.out]; have := hgood.1; omega
  have HGD := Lib.hid hgood
  have HB2 := Lib.hid (HB1.out.alloc HB1.out.size (.cells #[.int .i64 i, .int .i64 j] 3))
  clear HG0 hgood
  by_cases g0 : allIn 0 ((n : Int) - 1) [i, j]
  · rw [decide_eq_true g0] at C0
    by_cases g2 : i = j
    · have hbe : (i == j) = true := by simp [g2]
      have HG2 := Lib.hid g2
      clear g0 g2
      go_wp2_with fail
      refine (C0.out _).mono ?_
      rintro e w2 ⟨rfl, rfl⟩
      obtain ⟨W2, hW2⟩ : ∃ W, w1.alloc (.cells #[.int .i64 i, .int .i64 j] 3) = W := ⟨_, rfl⟩
      rw [hW2] at HB2 ⊢
      clear hW2
      obtain ⟨rfl, rfl, rfl⟩ := HNO.out (fun g => g.1.2.2.2 HG2.out)
      obtain rfl : 0 = q := HM.out
      clear HNO HYES C0
      go_wp2_with fail
      go_ret3
      exact (OwnP.nil HB2.out).gives3 0 false
    · have hbe : (i == j) = false := by simp [g2]
      obtain ⟨p, rfl⟩ : ∃ p : Nat, i = (p : Int) := ⟨i.toNat, by have := g0 i (by simp); omega⟩
      obtain ⟨r, rfl⟩ : ∃ r : Nat, j = (r : Int) := ⟨j.toNat, by have := g0 j (by simp); omega⟩
      have hp : p < n := by have := g0 (p : Int) (by simp); omega
      have hr : r < n := by have := g0 (r : Int) (by simp); omega
      have hpr : p ≠ r := by omega
      have HCL : Hid (canL vs (p : Int) (r : Int)) := Lib.hid ⟨HGD.out, by rw [HLN.out]; omega, by rw [HLN.out]; omega, g2⟩
      rw [Int.toNat_natCast, Int.toNat_natCast] at HNO HYES
      have HLG := Lib.hid (letP_good (vs := vs) (i := p) (j := r) HGD.out (by rw [HLN.out]; exact hp) (by rw [HLN.out]; exact hr) hpr)
      have HLD : Hid (letP vs p r = (vs.set p (subW (vs.getD p noPool) (fl vs p r))).set r (addW (vs.getD r noPool) (fl vs p r))) := Lib.hid rfl
      have HLL := Lib.hid ((letP_len vs p r).trans HLN.out)
      have HFL : Hid (fl vs p r = flo (vs.getD p noPool) (vs.getD r noPool)) := Lib.hid rfl
      have HGP := Lib.hid (HGD.out.2 p (by rw [HLN.out]; exact hp))
      have HGR := Lib.hid (HGD.out.2 r (by rw [HLN.out]; exact hr))
      have HSR := Lib.hid (fun (u : TPool) => setP_at (vs := vs) (i := p) (k := r) u (by rw [HLN.out]; exact hr))
      obtain ⟨a, ea, hab, HV⟩ := (HI.out.below HB2.out HI.out.low).has.Pool (k := p) (by rw [HLN.out]; exact hp)
      subst ea
      obtain ⟨a2, ea2, -, HU⟩ := (HI.out.below HB2.out HI.out.low).has.Pool (k := r) (by rw [HLN.out]; exact hr)
      injection ea2 with ea2
      subst ea2
      clear g0 g2
      go_wp2_with fail
      refine (C0.out _).mono ?_
      rintro e w2 ⟨rfl, rfl⟩
      obtain ⟨W2, hW2⟩ : ∃ W, w1.alloc (.cells #[.int .i64 (p : Int), .int .i64 (r : Int)] 3) = W := ⟨_, rfl⟩
      rw [hW2] at HV HU HB2 ⊢
      clear hW2 C0
      generalize hVV : vs.getD p noPool = V at HV HLD HFL HGP
      have HVE := Lib.hid hVV
      clear hVV
      generalize hUU : vs.getD r noPool = U at HU HLD HFL HGR HLG HSR
      have HUE := Lib.hid hUU
      clear hUU
      obtain ⟨d, f, v⟩ := V
      obtain ⟨d2, f2, v2⟩ := U
      obtain ⟨e0, e1, e2⟩ := HV
      obtain ⟨u0, u1, u2⟩ := HU
      dsimp only at e0 e1 e2 u0 u1 u2 HLG
      have hbd := flo_bd HGP.out HGR.out
      have hv := HGP.out.2.2
      have hv2 := HGR.out.2.2
      dsimp only at hbd hv hv2
      obtain ⟨zz, hzz⟩ : ∃ y, fl vs p r = y := ⟨_, rfl⟩
      have k1 := fun (dr : Nat) (os : Array Obj) => Calls.regrown_of (w := W2) (d := dr) (os := os) (flowI_any d f v d2 f2 v2 _ zz true (by rw [← hzz, HFL.out]; exact floA_yes HGP.out HGR.out))
      rw [← HFL.out, hzz] at hbd
      rw [hzz] at HYES HLG HLD
      have E0 := fun (d : Nat) (os : Array Obj) => cell_regrown e0 d os
      have E1 := fun (d : Nat) (os : Array Obj) => cell_regrown e1 d os
      have E2 := fun (d : Nat) (os : Array Obj) => cell_regrown e2 d os
      have U0 := fun (d : Nat) (os : Array Obj) => cell_regrown u0 d os
      have U1 := fun (d : Nat) (os : Array Obj) => cell_regrown u1 d os
      have U2 := fun (d : Nat) (os : Array Obj) => cell_regrown u2 d os
      have hp0 : (0 : Int) ≤ (p : Int) := by omega
      have hp1 : (p : Int) < (n : Int) := by omega
      have hr0 : (0 : Int) ≤ (r : Int) := by omega
      have hr1 : (r : Int) < (n : Int) := by omega
      clear hzz HFL HGP HGR e0 e1 e2 u0 u1 u2
      go_wp2_with fail
      refine wp_region_quiet_below (by kernel_rfl) (by kernel_rfl) ?_
      repeat (go_big_quiet_step (first | exact k1 _ _))
      refine wpQuiet_nil ?_
      intro _ hw'
      obtain ⟨⟨dq, osq⟩, hw''⟩ := hw'
      subst hw''
      have HB3 := Lib.hid (HB2.out.trans ((below_regrown W2 dq osq).mono HB2.out.size))
      clear E0 E1 E2 U0 U1 U2 k1
      obtain ⟨W3, hW3⟩ : ∃ W, grow (redrawn W2 dq) osq = W := ⟨_, rfl⟩
      rw [hW3] at HB3
      try simp only [hW3]
      clear hW3
      have CC := Lib.hid (cloneP_any c (HI.out.below HB3.out HI.out.low) (by omega))
      go_wp2_with fail
      refine CC.out.mono ?_
      rintro e w7 ⟨y, rfl, hO⟩
      obtain ⟨g, cg, rfl, hg1, hg2, hg3⟩ := hO
      have HB7 := Lib.hid (HB3.out.trans (hg3.mono HB3.out.size))
      have HO7 := Lib.hid (own_low hg2 HB3.out.size)
      have hgw : w.heap.size ≤ g := Nat.le_trans HB3.out.size hg1
      obtain ⟨-, -, z0⟩ := own_atP HO7.out (k := p) hp
      obtain ⟨-, -, y0⟩ := own_atP HO7.out (k := r) hr
      rw [HVE.out] at z0
      rw [HUE.out] at y0
      dsimp only at z0 y0
      have z1 := HO7.out.frozenAt (p * 3 + 2)
      have y1 := HO7.out.frozenAt (r * 3 + 2)
      have T0 := own_turnP HO7.out (k := p) hp (v - zz)
      have T1 := own_turnP T0.1 (k := r) hr (v2 + zz)
      rw [HSR.out, if_neg (fun e => hpr e.symm)] at T1
      have HT1 : Hid (World.ownsRow ((w7.setCell ⟨g, p * 3 + 2, none⟩ (.int .i64 (v - zz))).setCell ⟨g, r * 3 + 2, none⟩ (.int .i64 (v2 + zz))) w.heap.size 35 3 (.slice (some ⟨g, 0, none⟩) n cg) n (flatPool (letP vs p r))) := Lib.hid (by
        have := T1.1
        rw [HVE.out] at this
        rw [HLD.out]
        exact this)
      have HB8 : Hid (Below w.heap.size w ((w7.setCell ⟨g, p * 3 + 2, none⟩ (.int .i64 (v - zz))).setCell ⟨g, r * 3 + 2, none⟩ (.int .i64 (v2 + zz)))) := Lib.hid ((HB7.out.setCell (p := ⟨g, p * 3 + 2, none⟩) hgw _).setCell (p := ⟨g, r * 3 + 2, none⟩) hgw _)
      clear T0 T1 HO7 HB7 hg1 hg2 hg3 CC HB3 HSR
      by_cases hover : 100000 < v2 + zz
      · have HNG : Hid (¬ goodPs (letP vs p r)) := Lib.hid (fun g => by have := HLG.out.1 g; omega)
        clear HT1 HLG
        obtain ⟨rfl, rfl, rfl⟩ := HNO.out (fun g => HNG.out g.2)
        obtain rfl : 0 = q := HM.out
        have hs9 : ((w7.setCell ⟨g, p * 3 + 2, none⟩ (.int .i64 (v - zz))).setCell ⟨g, r * 3 + 2, none⟩ (.int .i64 (v2 + zz))).heap.size = w7.heap.size := by simp [World.setCell]
        have G9 := (OwnP.nil HB8.out).gives3 0 false
        rw [hs9] at G9
        have HG9 := Lib.hid G9
        clear G9 hs9 HNO HYES HLD HNG
        go_wp2_with fail
        go_ret3
        exact HG9.out
      · have hgl := HLG.out.2 (by omega)
        obtain ⟨hL, rfl, rfl⟩ := HYES.out ⟨HCL.out, hgl⟩
        obtain rfl : n = q := by rw [← HM.out, hL, HLL.out]
        have HL := Lib.hid hL
        clear hgl HLG HYES HNO HCL HM hL
        go_wp2_with fail
        go_ret3
        rw [HL.out]
        exact ⟨g, cg, rfl, HT1.out, HB8.out⟩
  · rw [decide_eq_false g0] at C0
    have HG3 := Lib.hid g0
    clear g0
    go_wp2_with fail
    refine (C0.out _).mono ?_
    rintro e w2 ⟨rfl, rfl⟩
    obtain ⟨W2, hW2⟩ : ∃ W, w1.alloc (.cells #[.int .i64 i, .int .i64 j] 3) = W := ⟨_, rfl⟩
    rw [hW2] at HB2 ⊢
    clear hW2
    obtain ⟨rfl, rfl, rfl⟩ := HNO.out (fun g => HG3.out (by have h2 := g.1.2.1; have h3 := g.1.2.2.1; rw [HLN.out] at h2 h3; intro u hu; simp at hu; rcases hu with rfl | rfl; exact h2; exact h3))
    obtain rfl : 0 = q := HM.out
    clear HNO HYES C0
    go_wp2_with fail
    go_ret3
    exact (OwnP.nil HB2.out).gives3 0 false
end Go.Proofs.Ytgnopkemcgbedaa
