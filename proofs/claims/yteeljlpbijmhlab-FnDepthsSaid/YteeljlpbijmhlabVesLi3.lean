/- Chapter 3: LightenVessel, the model. -/
import Derived.Test.YteeljlpbijmhlabVesLi2
namespace Go.Proofs.Yteeljlpbijmhlab
open Go.RowKit Go.PlainAid Go.Sort


set_option maxRecDepth 100000 in
set_option maxHeartbeats 2000000 in
theorem specLig_any {w : World} {B : Nat} {A : Option Addr} {n : Nat} {vs : List Ves} (c : Nat) (h : IsVs w B A n vs) (hm : n ≤ maxLen) (t z : Int) (L : List Ves) (x : Bool) (hl : Light vs n t z L x) :
    Calls Try.prog 9 #[.slice A n c, .int .i64 t, .int .i64 z] w (GivesVs w L x) := by
  obtain ⟨i0, hi, hz0, hz1, hz2⟩ := info_parts Try.infoVes'
  have C0 := Lib.hid (l3Find_any A n c B vs t w h.len hm h.has)
  have C1 := Lib.hid (l3Fleet_vs c h hm)
  have C2 := Lib.hid (fun W => l1In_any z 1 500 W)
  have HI := Lib.hid h
  have HX := Lib.hid hl
  have hfb : -1 ≤ fnd vs t n ∧ fnd vs t n ≤ n := by
    rcases fnd_or vs t n with h1 | ⟨k, hk, h1, h2⟩
    · rw [fnd_none n h1]; omega
    · have := fnd_hit h2 h1 (n - (k + 1))
      rw [show k + 1 + (n - (k + 1)) = n by omega] at this
      omega
  obtain ⟨hfb0, hfb1⟩ := hfb
  cases hg : gF vs with
  | false =>
    rw [hg] at C1
    obtain ⟨rfl, rfl⟩ := hl.bad hg
    generalize fnd vs t n = f at C0 hfb0 hfb1
    clear HX hl hg HI h C2
    go_enter Try.func9, Try.ntmps9
    go_wp2_with fail
    refine C0.out.mono ?_
    rintro e w0 ⟨rfl, rfl⟩
    go_wp2_with fail
    refine C1.out.mono ?_
    rintro e w1 ⟨rfl, hb⟩
    have HR := Lib.hid (givesVs_nil hb)
    clear hb
    go_wp2_with fail
    refine bodyPost_ret (results_tmp2 rfl _ _ _) rfl ?_
    exact HR.out
  | true =>
    rw [hg] at C1
    have HG := Lib.hid hg
    have hn8 : n ≤ 8 := by have := ((gF_iff vs).1 hg).1; rw [h.len] at this; exact this
    rcases fnd_or vs t n with h1 | ⟨k, hk, h1, h2⟩
    · rw [fnd_none n h1] at C0
      obtain ⟨rfl, rfl⟩ := hl.miss h1
      clear HX hl hg HI h h1 C2 hfb0 hfb1
      go_enter Try.func9, Try.ntmps9
      go_wp2_with fail
      refine C0.out.mono ?_
      rintro e w0 ⟨rfl, rfl⟩
      go_wp2_with fail
      refine C1.out.mono ?_
      rintro e w1 ⟨rfl, hb⟩
      have HR := Lib.hid (givesVs_nil hb)
      clear hb
      go_wp2_with fail
      refine bodyPost_ret (results_tmp2 rfl _ _ _) rfl ?_
      exact HR.out
    · have hf := fnd_hit h2 h1 (n - (k + 1))
      rw [show k + 1 + (n - (k + 1)) = n by omega] at hf
      rw [hf] at C0
      have HK := Lib.hid h1
      have hkl : k < vs.length := by rw [h.len]; exact hk
      have hk0 : (0 : Int) ≤ (k : Int) := by omega
      have hk1 : (k : Int) < (n : Int) := by omega
      by_cases hz : 1 ≤ z ∧ z ≤ 500
      · rw [decide_eq_true hz] at C2
        obtain ⟨a1, rfl, hab, HV⟩ := h.has.ves hkl
        have hfl : (flatV vs).length = n * 6 := by rw [flatV_len, h.len]; omega
        have HO : Hid (∀ u ∈ flatV vs, u.oneCell' = true) := Lib.hid (flatV_one vs)
        have HNW : Hid (∀ W, Below w.heap.size w W → ∀ j u, (flatV vs)[j]? = some u → (W.alloc (.cells #[] 38)).cell? (a1.add j) = some u) := Lib.hid (fun W hb j u hu => by
          obtain ⟨a', e, hb', hc⟩ := (h.has.below ((hb.mono h.low).alloc (by have := h.low; have := hb.size; omega) (.cells #[] 38))) j u hu
          injection e with e
          subst e
          exact hc)
        have HU := Lib.hid (flatV_at vs k hkl)
        rw [← getV hkl] at HU
        have HNM := Lib.hid (lt_names (z := z) hkl h.nm)
        have HFL := Lib.hid (fun v (hv : v = (⟨(vs.getD k noVes).id, (vs.getD k noVes).name, (vs.getD k noVes).len, (vs.getD k noVes).wid, (vs.getD k noVes).dr - z, (vs.getD k noVes).kind⟩ : Ves)) => (by rw [hv]; exact flatV_set vs k _ hkl : ((((((flatV vs).set (k * 6) (.int .i64 v.id)).set (k * 6 + 1) (.string v.name)).set (k * 6 + 2) (.int .i64 v.len)).set (k * 6 + 3) (.int .i64 v.wid)).set (k * 6 + 4) (.int .i64 v.dr)).set (k * 6 + 5) (.int .i64 v.kind) = flatV (lt vs k z)))
        obtain ⟨dr0, dr1⟩ := (((gF_iff vs).1 hg).2 k hkl).1.2.2.2.2.1
        have HLL := Lib.hid (lt_len vs k z)
        have HLL2 := Lib.hid h.len
        generalize hxs : flatV vs = xs at hfl HO HNW HU HFL
        generalize vs.getD k noVes = V at HU HFL dr0 dr1
        obtain ⟨i, s, l, b, d, q⟩ := V
        dsimp only at dr0 dr1
        obtain ⟨z1, z2⟩ := hz
        clear hl hg h h1 h2 hf hfb0 hfb1 hab HV hxs
        go_enter Try.func9, Try.ntmps9
        go_wp2_with fail
        refine C0.out.mono ?_
        rintro e w0 ⟨rfl, rfl⟩
        go_wp2_with fail
        refine C1.out.mono ?_
        rintro e w1 ⟨rfl, hb⟩
        have B1 := Lib.hid hb
        clear hb C1
        go_wp2_with fail
        refine (C2.out _).mono ?_
        rintro e w1' ⟨rfl, rfl⟩
        have HR := Lib.hid (World.ownsRow_made (size := 6) (e := 38) w1 #[] 0 (Nat.le_refl _) (by unfold maxLen; omega) rfl)
        have HN := Lib.hid (HNW.out w1 B1.out)
        clear HNW
        go_wp2_with (at_builtin; refine wpList_append_own _ rfl (.tmp 27) (.tmp 28) 24 rfl w1.heap.size 38 i0 (.agg #[.int .i64 0, .string ByteArray.empty, .int .i64 0, .int .i64 0, .int .i64 0, .int .i64 0]) 6 56 Try.underlying24 hi hz0 hz1 hz2 rfl (by decide) (.slice (some ⟨w1.heap.size, 0, none⟩) 0 0) 0 [] rfl HR.out a1 n c xs rfl hfl HN.out HO.out (by unfold maxLen; omega) (by omega) (by simp) ?_; intro v1 w2 hown1 hgrow1 hnil1; obtain ⟨g, c', rfl, hg1⟩ := own_some hown1 (fun e => nomatch (hnil1.1 e).1); have B2 := Lib.hid ((B1.out.alloc B1.out.size (.cells #[] 38)).grown hgrow1 (by have := B1.out.size; simp; omega) (fun q hq => by cases hq; exact B1.out.size)); rw [Nat.zero_add, List.nil_append] at hown1; have HOWN := Lib.hid hown1; clear hown1 hgrow1 hnil1; refine Hid.out ?_)
        refine Lib.hid ?_
        obtain ⟨u0, u1, u2, u3, u4, u5⟩ := HU.out
        have g0 : w2.cell? ⟨g, k * 6, none⟩ = some (.int .i64 i) := (HOWN.out.cellAt _ (by omega)).trans u0
        have g1 : w2.cell? ⟨g, k * 6 + 1, none⟩ = some (.string s) := (HOWN.out.cellAt _ (by omega)).trans u1
        have g2 : w2.cell? ⟨g, k * 6 + 2, none⟩ = some (.int .i64 l) := (HOWN.out.cellAt _ (by omega)).trans u2
        have g3 : w2.cell? ⟨g, k * 6 + 3, none⟩ = some (.int .i64 b) := (HOWN.out.cellAt _ (by omega)).trans u3
        have g4 : w2.cell? ⟨g, k * 6 + 4, none⟩ = some (.int .i64 d) := (HOWN.out.cellAt _ (by omega)).trans u4
        have g5 : w2.cell? ⟨g, k * 6 + 5, none⟩ = some (.int .i64 q) := (HOWN.out.cellAt _ (by omega)).trans u5
        clear u0 u1 u2 u3 u4 u5
        have r0 := HOWN.out.frozenAt (k * 6)
        have r1 := HOWN.out.frozenAt (k * 6 + 1)
        have r2 := HOWN.out.frozenAt (k * 6 + 2)
        have r3 := HOWN.out.frozenAt (k * 6 + 3)
        have r4 := HOWN.out.frozenAt (k * 6 + 4)
        have r5 := HOWN.out.frozenAt (k * 6 + 5)
        have hgl : g < w2.heap.size := (HOWN.out.lt g rfl).2
        have G0 := fun (o : Obj) => (World.cell?_alloc_lt w2 o ⟨g, k * 6, none⟩ hgl).trans g0
        have G1 := fun (o : Obj) => (World.cell?_alloc_lt w2 o ⟨g, k * 6 + 1, none⟩ hgl).trans g1
        have G2 := fun (o : Obj) => (World.cell?_alloc_lt w2 o ⟨g, k * 6 + 2, none⟩ hgl).trans g2
        have G3 := fun (o : Obj) => (World.cell?_alloc_lt w2 o ⟨g, k * 6 + 3, none⟩ hgl).trans g3
        have G4 := fun (o : Obj) => (World.cell?_alloc_lt w2 o ⟨g, k * 6 + 4, none⟩ hgl).trans g4
        have G5 := fun (o : Obj) => (World.cell?_alloc_lt w2 o ⟨g, k * 6 + 5, none⟩ hgl).trans g5
        have hgne : g ≠ w2.heap.size := by omega
        go_wp2_with fail
        have s0 := HOWN.out.stored (k * 6) (.int .i64 i)
        have s1 := s0.1.stored (k * 6 + 1) (.string s)
        have s2 := s1.1.stored (k * 6 + 2) (.int .i64 l)
        have s3 := s2.1.stored (k * 6 + 3) (.int .i64 b)
        have s4 := s3.1.stored (k * 6 + 4) (.int .i64 (d - z))
        have s5 := s4.1.stored (k * 6 + 5) (.int .i64 q)
        have O6 := s5.1
        rw [HFL.out ⟨i, s, l, b, d - z, q⟩ rfl] at O6
        have HO6 := Lib.hid (O6.alloc (.cells #[.int .i64 i, .string s, .int .i64 l, .int .i64 b, .int .i64 (d - z), .int .i64 q] 38))
        have hg2 : w.heap.size ≤ g := Nat.le_trans B1.out.size hg1
        have BS := (((((B2.out.setCell (p := ⟨g, k * 6, none⟩) hg2 (.int .i64 i)).setCell (p := ⟨g, k * 6 + 1, none⟩) hg2 (.string s)).setCell (p := ⟨g, k * 6 + 2, none⟩) hg2 (.int .i64 l)).setCell (p := ⟨g, k * 6 + 3, none⟩) hg2 (.int .i64 b)).setCell (p := ⟨g, k * 6 + 4, none⟩) hg2 (.int .i64 (d - z))).setCell (p := ⟨g, k * 6 + 5, none⟩) hg2 (.int .i64 q)
        have B6 := Lib.hid (BS.alloc BS.size (.cells #[.int .i64 i, .string s, .int .i64 l, .int .i64 b, .int .i64 (d - z), .int .i64 q] 38))
        clear s0 s1 s2 s3 s4 s5 O6 BS
        have I6 := Lib.hid (own_vs HO6.out HNM.out)
        refine (l3Fleet_vs c' I6.out hm).mono ?_
        rintro e w7 ⟨rfl, hb⟩
        have B7 := Lib.hid (B6.out.trans (hb.mono B6.out.size))
        have HO7 := Lib.hid (own_low (HO6.out.kept (grownBelow hb none) (.inr (by simp [Value.ownBlock]))) B1.out.size)
        clear hb g0 r0 G0 g1 r1 G1 g2 r2 G2 g3 r3 G3 g4 r4 G4 g5 r5 G5 B6 HO6 I6 HN HR HOWN B2
        cases hgl' : gF (lt vs k z) with
        | false =>
          obtain ⟨rfl, rfl⟩ := HX.out.fails HI.out.len HG.out hk HK.out hgl'
          have HRR := Lib.hid (givesVs_nil B7.out)
          clear HX HI HG hgl' HFL HNM HO7 HLL HU HK
          go_wp2_with fail
          refine bodyPost_ret (results_tmp2 rfl _ _ _) rfl ?_
          exact HRR.out
        | true =>
          obtain ⟨hL, rfl⟩ := HX.out.yes k hk HG.out HK.out (by omega) hgl'
          have HLn : Hid (L.length = n) := Lib.hid (by rw [hL, lt_len]; exact HI.out.len)
          have HRR : Hid (GivesVs w L true (.returned (.tuple #[.slice (some ⟨g, 0, none⟩) n c', .bool true])) w7) := Lib.hid (by
            rw [← HLn.out, hL]
            refine ⟨g, c', rfl, hg2, ?_, B7.out⟩
            rw [HLL.out, HLL2.out]
            exact HO7.out)
          clear HX HI HG hgl' HFL HNM HO7 HLL HU hL HK
          go_wp2_with fail
          refine bodyPost_ret (results_tmp2 rfl _ _ _) rfl ?_
          exact HRR.out
      · rw [decide_eq_false hz] at C2
        obtain ⟨rfl, rfl⟩ : L = [] ∧ x = false := by
          by_cases hz1 : 1 ≤ z
          · exact hl.big h.len (by omega)
          · exact hl.neg hz1
        clear HX hl hg HI h h1 h2 hf hfb0 hfb1
        go_enter Try.func9, Try.ntmps9
        go_wp2_with fail
        refine C0.out.mono ?_
        rintro e w0 ⟨rfl, rfl⟩
        go_wp2_with fail
        refine C1.out.mono ?_
        rintro e w1 ⟨rfl, hb⟩
        have HR := Lib.hid (givesVs_nil hb)
        clear hb
        go_wp2_with fail
        refine (C2.out _).mono ?_
        rintro e w1' ⟨rfl, rfl⟩
        go_wp2_with fail
        refine bodyPost_ret (results_tmp2 rfl _ _ _) rfl ?_
        exact HR.out
end Go.Proofs.Yteeljlpbijmhlab
