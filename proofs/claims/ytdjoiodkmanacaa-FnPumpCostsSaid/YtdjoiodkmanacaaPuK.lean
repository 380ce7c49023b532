/- Chapter 12: the cheapest plan: the model. -/
import Derived.Test.YtdjoiodkmanacaaPuJ
namespace Go.Proofs.Ytdjoiodkmanacaa
open Go.RowKit Go.PlainAid Go.Sort
set_option linter.unusedVariables false
set_option linter.unusedSimpArgs false

theorem shl_num {m : Nat} (hm : m ≤ 2) : wrap64 (2 ^ m) = ((numM m : Nat) : Int) := by
  have := shl_top hm
  have := numM_top m
  omega
set_option maxRecDepth 100000 in
set_option maxHeartbeats 8000000 in
theorem bestM_any {B : Nat} {A D : Option Addr} {n m : Nat} {zs : List Int} {vs : List TPump} (a b c : Int) (q r : Nat) (hgd : goodT ⟨a, b, c, zs, vs⟩) (hzn : zs.length = n) (hvm : vs.length = m) : ∀ (f : Nat) (P : List Int) (w : World) (gb nb cb Bd : Nat), IsTs w B A n zs D m vs → w.ownsRow Bd 3 1 (.slice (some ⟨gb, 0, none⟩) nb cb) nb (P.map (.int .i64)) → Bd ≤ w.heap.size → inX m P → nb + f = n →
    Calls Try.prog 72 #[.agg #[.int .i64 a, .int .i64 b, .int .i64 c, .slice A n q, .slice D m r], .slice (some ⟨gb, 0, none⟩) nb cb] w fun e w' => ∃ gx cx q9, e = .returned (.tuple #[.slice (some ⟨gx, 0, none⟩) q9 cx, .int .i64 (bestU ⟨a, b, c, zs, vs⟩ (extsU (numM m) f P)).2]) ∧
      w'.ownsRow Bd 3 1 (.slice (some ⟨gx, 0, none⟩) q9 cx) q9 ((bestU ⟨a, b, c, zs, vs⟩ (extsU (numM m) f P)).1.map (.int .i64)) ∧ Below w.heap.size w w' := by
  have hn5 : n ≤ 5 := by rw [← hzn]; exact hgd.2.1.2
  have hm2 : m ≤ 2 := by rw [← hvm]; exact hgd.2.2.1
  intro f
  induction f with
  | zero =>
    intro P w gb nb cb Bd hI hR hBd hin hnf
    obtain ⟨W5, hW5, X5, B5, z5⟩ := box_in w a b c A n q D m r
    have cT0 := X5.c0
    have cT1 := X5.c1
    have cT2 := X5.c2
    have cT3 := X5.c3
    have cT4 := X5.c4
    have HB5 := Lib.hid B5
    have HX5 := Lib.hid X5
    have hPl : P.length = nb := by have := hR.1; simpa using this
    have hIP := own_IsIs hR
    obtain ⟨v, hv⟩ := unsA_ex ⟨a, b, c, zs, vs⟩ P nb
    have C1 := Lib.hid (unsafe_any a b c q r (hI.upB B5) hgd cb (hIP.upB B5) (by omega) (fun j => inX_all hin j) v hv)
    have C2 := Lib.hid (fun W (hb : Below W5.heap.size W5 W) => costM_any a b c q r ((hI.upB B5).upB hb) hgd cb ((hIP.upB B5).upB hb) (by omega) hin)
    have HR := Lib.hid (own_below hR B5)
    have HBd := Lib.hid (Nat.le_trans hBd B5.size)
    have HBAD := Lib.hid (fun h => bestU_bad hgd (M := numM m) (f := 0) (P := P) h)
    have HONE := Lib.hid (fun h => bestU_one hgd (O := P) h)
    have HSF : Hid (SafO ⟨a, b, c, zs, vs⟩ P ↔ safeN ⟨a, b, c, zs, vs⟩ P nb) := Lib.hid (by unfold SafO; rw [hPl])
    have HPL := Lib.hid hPl
    have hbe : ((nb : Int) == (n : Int)) = true := by simp; omega
    obtain ⟨E, hE⟩ : ∃ E, bestU ⟨a, b, c, zs, vs⟩ (extsU (numM m) 0 P) = E := ⟨_, rfl⟩
    rw [hE] at HBAD ⊢
    have HE := Lib.hid hE
    obtain ⟨EL, EZ⟩ := E
    dsimp only at HBAD ⊢
    clear hI hR hBd hin X5 B5 z5 hPl hIP hE
    go_enter Try.func72, Try.ntmps72
    go_wp2_with fail
    (try rw [hW5])
    clear hW5 cT0 cT1 cT2 cT3 cT4
    refine C1.out.mono ?_
    rintro e w1 ⟨rfl, hb⟩
    have HB1 := Lib.hid (HB5.out.trans (hb.mono HB5.out.size))
    have HR1 := Lib.hid (own_below HR.out hb)
    have hX1 := HX5.out.all hb
    have C3 := Lib.hid (C2.out _ hb)
    have HBd1 := Lib.hid (Nat.le_trans HBd.out hb.size)
    clear hb C1 C2 HR HB5 HX5 HBd
    by_cases hs : safeN ⟨a, b, c, zs, vs⟩ P nb
    · obtain rfl := hv.1 hs
      have hEE : (EL, EZ) = (P, costU ⟨a, b, c, zs, vs⟩ P nb) := by have := HONE.out (HSF.out.2 hs); rw [HPL.out] at this; rw [← HE.out]; exact this
      injection hEE with he1 he2
      rw [← he2] at C3
      subst he1
      generalize startU EL nb = S2 at C3
      have cT0 := hX1.c0
      have cT1 := hX1.c1
      have cT2 := hX1.c2
      have cT3 := hX1.c3
      have cT4 := hX1.c4
      clear hX1 hv hs HBAD HONE HSF HE HPL he2
      go_wp2_with fail
      refine C3.out.mono ?_
      rintro e w2 ⟨rfl, hb⟩
      have HB2 := Lib.hid (HB1.out.trans (hb.mono HB1.out.size))
      have HR2 := Lib.hid (own_below HR1.out hb)
      clear hb C3 HR1 HB1 cT0 cT1 cT2 cT3 cT4
      go_wp2_with fail
      go_ret2
      exact ⟨gb, cb, nb, rfl, HR2.out, HB2.out⟩
    · have hv0 : 0 ≤ v := by obtain ⟨k, hk⟩ := fstU_ex hs; have := hv.2 k hk; omega
      have hEE : (EL, EZ) = ([], -1) := HBAD.out (fun h => hs (HSF.out.1 h))
      injection hEE with he1 he2
      subst he1 he2
      clear hX1 hv hs HBAD HONE HSF HE HPL C3
      go_wp2_with fail
      go_ret2
      exact ⟨_, _, _, rfl, own_low (World.ownsRow_made w1 #[] 0 (Nat.le_refl _) (by unfold maxLen; omega) rfl) HBd1.out, HB1.out.alloc HB1.out.size _⟩
  | succ f ih =>
    intro P w gb nb cb Bd hI hR hBd hin hnf
    obtain ⟨i0, hi, hz0, hz1, hz2⟩ := info_parts Try.infoInt'
    obtain ⟨W5, hW5, X5, B5, z5⟩ := box_in w a b c A n q D m r
    have cT0 := X5.c0
    have cT1 := X5.c1
    have cT2 := X5.c2
    have cT3 := X5.c3
    have cT4 := X5.c4
    have HB5 := Lib.hid B5
    have HX5 := Lib.hid X5
    have hPl : P.length = nb := by have := hR.1; simpa using this
    have hIP := own_IsIs hR
    obtain ⟨v, hv⟩ := unsA_ex ⟨a, b, c, zs, vs⟩ P nb
    have C1 := Lib.hid (unsafe_any a b c q r (hI.upB B5) hgd cb (hIP.upB B5) (by omega) (fun j => inX_all hin j) v hv)
    have HR := Lib.hid (own_below hR B5)
    have HBd := Lib.hid (Nat.le_trans hBd B5.size)
    have HBAD := Lib.hid (fun h => bestU_bad hgd (M := numM m) (f := f + 1) (P := P) h)
    have HSF : Hid (SafO ⟨a, b, c, zs, vs⟩ P ↔ safeN ⟨a, b, c, zs, vs⟩ P nb) := Lib.hid (by unfold SafO; rw [hPl])
    have hbe : ((nb : Int) == (n : Int)) = false := by simp; omega
    have HIH := Lib.hid ih
    have HTW := Lib.hid (fun W (hb : Below w.heap.size w W) => hI.upB hb)
    have HIX := Lib.hid (fun (k : Nat) (hk : k < numM m) => inX_snoc hin (x := (k : Int)) (by have := numM_top m; omega))
    have CO0 := Lib.hid (fun W (h : IsIs W W.heap.size (some ⟨gb, 0, none⟩) nb P) => l1OwnZ_any (w := W) cb (by omega) h)
    obtain ⟨E, hE⟩ : ∃ E, bestU ⟨a, b, c, zs, vs⟩ (extsU (numM m) (f + 1) P) = E := ⟨_, rfl⟩
    have HKE := Lib.hid (show bestU ⟨a, b, c, zs, vs⟩ (extKU (numM m) f P (numM m)) = E by rw [extKU_end, hE])
    rw [hE] at HBAD ⊢
    obtain ⟨EL, EZ⟩ := E
    dsimp only at HBAD ⊢
    clear hE
    have HKS := Lib.hid (fun k => extKU_succ (numM m) f P k)
    have HAP := Lib.hid (fun E F => bestU_append ⟨a, b, c, zs, vs⟩ E F)
    have hNum := numM_top m
    have hTop := topU_bd m
    obtain ⟨M, hM⟩ : ∃ M, numM m = M := ⟨_, rfl⟩
    have hM4 : M ≤ 4 := by rw [← hM]; omega
    have hshl : wrap64 (2 ^ m) = (M : Int) := by rw [shl_num hm2, hM]
    rw [hM] at HIH HIX HKE HKS hNum
    clear ih hI hR hBd hin X5 B5 z5 hPl hIP hM hNum hTop
    go_enter Try.func72, Try.ntmps72
    go_wp2_with fail
    (try rw [hW5])
    clear hW5 cT0 cT1 cT2 cT3 cT4
    refine C1.out.mono ?_
    rintro e w1 ⟨rfl, hb⟩
    have HB1 := Lib.hid (HB5.out.trans (hb.mono HB5.out.size))
    have HR1 := Lib.hid (own_below HR.out hb)
    have HX1 := Lib.hid (HX5.out.all hb)
    have HBd1 := Lib.hid (Nat.le_trans HBd.out hb.size)
    clear hb C1 HR HB5 HX5 HBd
    by_cases hs : safeN ⟨a, b, c, zs, vs⟩ P nb
    · obtain rfl := hv.1 hs
      have hX1 := HX1.out
      have cT0 := hX1.c0
      have cT1 := hX1.c1
      have cT2 := hX1.c2
      have cT3 := hX1.c3
      have cT4 := hX1.c4
      have HST := Lib.hid (show (w1.alloc (.cells #[] 3)).ownsRow Bd 3 1 (.slice (some ⟨w1.heap.size, 0, none⟩) 0 0) 0 ([] : List Value) from own_low (World.ownsRow_made w1 #[] 0 (Nat.le_refl _) (by unfold maxLen; omega) rfl) HBd1.out)
      have HSB := Lib.hid (below1 w1 (.cells #[] 3))
      clear hX1 hv hs HBAD HSF
      go_wp2_with fail
      clear cT0 cT1 cT2 cT3 cT4
      go_loopw [8, 9, 10] (fun v z i wr => ∃ k : Nat, k ≤ M ∧ i = .int .i64 k ∧ z = .int .i64 (bestU ⟨a, b, c, zs, vs⟩ (extKU M f P k)).2 ∧ (∃ gx cx q9, v = .slice (some ⟨gx, 0, none⟩) q9 cx ∧ wr.ownsRow Bd 3 1 (.slice (some ⟨gx, 0, none⟩) q9 cx) q9 ((bestU ⟨a, b, c, zs, vs⟩ (extKU M f P k)).1.map (.int .i64))) ∧ Below w1.heap.size w1 wr) (fun _ _ i _ => M - (intOf i).toNat)
      case atStart => exact ⟨0, Nat.zero_le _, rfl, by rw [extKU_zero, bestU_nil], ⟨_, _, _, rfl, by rw [extKU_zero, bestU_nil]; exact HST.out⟩, HSB.out⟩
      case round =>
        obtain ⟨k, hk, rfl, rfl, ⟨gx, cx, q9, rfl, hX⟩, hb⟩ := hrel
        have hXX := HX1.out.all hb
        have cT0 := hXX.c0
        have cT1 := hXX.c1
        have cT2 := hXX.c2
        have cT3 := hXX.c3
        have cT4 := hXX.c4
        by_cases hlt : k < M
        · have HB := Lib.hid hb
          have HX := Lib.hid hX
          have HNX : Hid (bestU ⟨a, b, c, zs, vs⟩ (extKU M f P (k + 1)) = stepU (bestU ⟨a, b, c, zs, vs⟩ (extKU M f P k)) (bestU ⟨a, b, c, zs, vs⟩ (extsU M f (P ++ [(k : Int)])))) := Lib.hid (by rw [HKS.out, HAP.out])
          have hk0 : (0 : Int) ≤ (k : Int) := by omega
          have hk1 : (k : Int) < (M : Int) := by omega
          have lV := World.block_lt_of_cell? _ _ cT0
          have HRk := Lib.hid (own_below HR1.out hb)
          have CO := Lib.hid (fun W (hq : Below wr.heap.size wr W) => CO0.out W (own_IsIs (own_below HRk.out hq)))
          have HBw := Lib.hid (HB1.out.trans (hb.mono HB1.out.size))
          have HBd2 := Lib.hid (Nat.le_trans HBd1.out hb.size)
          have CB0 := Lib.hid (fun (W : World) (g9 c9 : Nat) (hq : Below wr.heap.size wr W) (ho : W.ownsRow wr.heap.size 3 1 (.slice (some ⟨g9, 0, none⟩) (nb + 1) c9) (nb + 1) (P.map (.int .i64) ++ [Value.int .i64 (k : Int)])) =>
            HIH.out (P ++ [(k : Int)]) W g9 (nb + 1) c9 Bd (HTW.out W (HBw.out.trans (hq.mono HBw.out.size))) (own_low (by rw [List.map_append]; exact ho) HBd2.out) (Nat.le_trans HBd2.out hq.size) (HIX.out k hlt) (by omega))
          obtain ⟨acc, hacc⟩ : ∃ x, bestU ⟨a, b, c, zs, vs⟩ (extKU M f P k) = x := ⟨_, rfl⟩
          rw [hacc] at HX HNX ⊢
          obtain ⟨BB, hBB⟩ : ∃ x, bestU ⟨a, b, c, zs, vs⟩ (extsU M f (P ++ [(k : Int)])) = x := ⟨_, rfl⟩
          rw [hBB] at HNX CB0
          obtain ⟨aR, az⟩ := acc
          obtain ⟨BL, BZ⟩ := BB
          have CB := Lib.hid CB0.out
          dsimp only at HX CB ⊢
          clear hacc hBB hX hb hXX CB0 HIH HIX HKS HAP CO0 HST HSB
          go_wp2_with fail
          refine region_inv (by kernel_rfl) (by kernel_rfl) (fun Fl9 ac W => ∃ (x43 x44 x45 x46 x47 x48 x49 x42 x50 x51 x11 x12 : Value), ac = { tmps := #[Value.agg #[Value.int IntKind.i64 a, Value.int IntKind.i64 b, Value.int IntKind.i64 c, Value.slice A n q, Value.slice D m r], Value.slice (some ⟨gb, 0, none⟩) nb cb, Value.pointer (some ⟨w.heap.size, 0, none⟩), undef, Value.slice none 0 0, Value.int IntKind.i64 0, undef, undef, Value.slice (some ⟨gx, 0, none⟩) q9 cx, Value.int IntKind.i64 az, Value.int IntKind.i64 (k : Int), x11, x12, Value.agg #[Value.int IntKind.i64 a, Value.int IntKind.i64 b, Value.int IntKind.i64 c, Value.slice A n q, Value.slice D m r], Value.slice (some ⟨gb, 0, none⟩) nb cb, Value.int IntKind.i64 (-1), Value.bool false, undef, Value.slice (some ⟨gb, 0, none⟩) nb cb, Value.int IntKind.i64 (nb : Int), Value.pointer (some ⟨w.heap.size, 3, none⟩), Value.slice A n q, Value.int IntKind.i64 (n : Int), Value.bool false, undef, undef, undef, undef, undef, undef, undef, undef, Value.slice (some ⟨w1.heap.size, 0, none⟩) 0 0, Value.int IntKind.i64 (k : Int), Value.pointer (some ⟨w.heap.size, 4, none⟩), Value.slice D m r, Value.int IntKind.i64 (m : Int), Value.int IntKind.u64 (m : Int), Value.int IntKind.i64 (M : Int), Value.bool true, u40, u41, x42, x43, x44, x45, x46, x47, x48, x49, x50, x51, u52, u53, u54, u55, u56, u57, u58, u59, u60, u61, u62, u63, u64, undef, undef], defers := [] } ∧ Below wr.heap.size wr W ∧
                (Fl9 0 = true → x43 = .agg #[.int .i64 a, .int .i64 b, .int .i64 c, .slice A n q, .slice D m r]) ∧
                (Fl9 1 = true → x44 = .slice (some ⟨gb, 0, none⟩) nb cb) ∧
                (Fl9 2 = true → Fl9 5 = false → ∃ g c9, x45 = .slice (some ⟨g, 0, none⟩) nb c9 ∧ W.ownsRow wr.heap.size 3 1 (.slice (some ⟨g, 0, none⟩) nb c9) nb (P.map (.int .i64))) ∧
                (Fl9 3 = true → x46 = .int .i64 (k : Int)) ∧
                (Fl9 4 = true → Fl9 5 = false → ∃ g, x47 = .slice (some ⟨g, 0, none⟩) 1 1 ∧ ∀ j u, [Value.int .i64 (k : Int)][j]? = some u → W.cell? ((⟨g, 0, none⟩ : Addr).add j) = some u) ∧
                (Fl9 5 = true → ∃ g c9, x48 = .slice (some ⟨g, 0, none⟩) (nb + 1) c9 ∧ W.ownsRow wr.heap.size 3 1 (.slice (some ⟨g, 0, none⟩) (nb + 1) c9) (nb + 1) (P.map (.int .i64) ++ [Value.int .i64 (k : Int)])) ∧
                (Fl9 6 = true → ∃ g c9 q9, x49 = .tuple #[.slice (some ⟨g, 0, none⟩) q9 c9, .int .i64 BZ] ∧ W.ownsRow Bd 3 1 (.slice (some ⟨g, 0, none⟩) q9 c9) q9 (BL.map (.int .i64))) ∧
                (Fl9 7 = true → ∃ g c9 q9, x42 = .tuple #[.slice (some ⟨g, 0, none⟩) q9 c9, .int .i64 BZ] ∧ W.ownsRow Bd 3 1 (.slice (some ⟨g, 0, none⟩) q9 c9) q9 (BL.map (.int .i64))) ∧
                (Fl9 8 = true → ∃ g c9 q9, x50 = .slice (some ⟨g, 0, none⟩) q9 c9 ∧ W.ownsRow Bd 3 1 (.slice (some ⟨g, 0, none⟩) q9 c9) q9 (BL.map (.int .i64))) ∧
                (Fl9 9 = true → x51 = .int .i64 BZ) ∧
                (Fl9 10 = true → ∃ g c9 q9, x11 = .slice (some ⟨g, 0, none⟩) q9 c9 ∧ W.ownsRow Bd 3 1 (.slice (some ⟨g, 0, none⟩) q9 c9) q9 (BL.map (.int .i64))) ∧
                (Fl9 11 = true → x12 = .int .i64 BZ) ∧
                (Fl9 6 = true → Fl9 5 = true) ∧
                (Fl9 7 = true → Fl9 6 = true) ∧
                (Fl9 8 = true → Fl9 7 = true) ∧
                (Fl9 10 = true → Fl9 8 = true)) ?_ ?_ ?_
          · exact ⟨_, _, _, _, _, _, _, _, _, _, _, _, rfl, (Drawn.one wr 1).below _, (fun q0 => nomatch q0), (fun q0 => nomatch q0), (fun q0 => nomatch q0), (fun q0 => nomatch q0), (fun q0 => nomatch q0), (fun q0 => nomatch q0), (fun q0 => nomatch q0), (fun q0 => nomatch q0), (fun q0 => nomatch q0), (fun q0 => nomatch q0), (fun q0 => nomatch q0), (fun q0 => nomatch q0), (fun q0 => nomatch q0), (fun q0 => nomatch q0), (fun q0 => nomatch q0), (fun q0 => nomatch q0)⟩
          · intro Fl9 ac W i9 o9 hJ ho hL hdep K9 hK
            obtain ⟨x43, x44, x45, x46, x47, x48, x49, x42, x50, x51, x11, x12, rfl, hB, hh0, hh1, hh2, hh3, hh4, hh5, hh6, hh7, hh8, hh9, hh10, hh11, hx0, hx1, hx2, hx3⟩ := hJ
            have hi9 : i9 < 12 := by simpa using (Array.getElem?_eq_some_iff.1 ho).1
            have C0 := (hB.cell lV).trans cT0
            have C1 := (hB.cell (p := ⟨w.heap.size, 1, none⟩) lV).trans cT1
            have C2 := (hB.cell (p := ⟨w.heap.size, 2, none⟩) lV).trans cT2
            have C3 := (hB.cell (p := ⟨w.heap.size, 3, none⟩) lV).trans cT3
            have C4 := (hB.cell (p := ⟨w.heap.size, 4, none⟩) lV).trans cT4
            obtain rfl | rfl | rfl | rfl | rfl | rfl | rfl | rfl | rfl | rfl | rfl | rfl : i9 = 0 ∨ i9 = 1 ∨ i9 = 2 ∨ i9 = 3 ∨ i9 = 4 ∨ i9 = 5 ∨ i9 = 6 ∨ i9 = 7 ∨ i9 = 8 ∨ i9 = 9 ∨ i9 = 10 ∨ i9 = 11 := by omega
            · -- operation 0
              cases ho
              go_simp
              exact hK _ _ ⟨_, _, _, _, _, _, _, _, _, _, _, _, rfl, hB, fun _ => rfl, hh1, hh2, hh3, hh4, hh5, hh6, hh7, hh8, hh9, hh10, hh11, hx0, hx1, hx2, hx3⟩
            · -- operation 1
              cases ho
              go_simp
              exact hK _ _ ⟨_, _, _, _, _, _, _, _, _, _, _, _, rfl, hB, hh0, fun _ => rfl, hh2, hh3, hh4, hh5, hh6, hh7, hh8, hh9, hh10, hh11, hx0, hx1, hx2, hx3⟩
            · -- operation 2
              cases ho
              obtain rfl := hh1 (hdep ⟨1, .data⟩ (by simp) rfl)
              go_simp
              refine (CO.out W hB).mono ?_
              rintro e w9 ⟨g9, c9, rfl, -, ho9, hb9⟩
              exact hK _ _ ⟨_, _, _, _, _, _, _, _, _, _, _, _, rfl, hB.trans (hb9.mono hB.size), hh0, hh1, fun _ => fun _ => ⟨_, _, rfl, own_low ho9 hB.size⟩, hh3, fun q0 r0 => (fun ⟨g, e, h⟩ => ⟨g, e, fun j u hu => (Below.cell hb9 (World.block_lt_of_cell? W _ (h j u hu))).trans (h j u hu)⟩) (hh4 q0 r0), fun q0 => (fun ⟨g, c9, e, o⟩ => ⟨g, c9, e, own_below o hb9⟩) (hh5 q0), fun q0 => (fun ⟨g, c9, q9, e, o⟩ => ⟨g, c9, q9, e, own_below o hb9⟩) (hh6 q0), fun q0 => (fun ⟨g, c9, q9, e, o⟩ => ⟨g, c9, q9, e, own_below o hb9⟩) (hh7 q0), fun q0 => (fun ⟨g, c9, q9, e, o⟩ => ⟨g, c9, q9, e, own_below o hb9⟩) (hh8 q0), hh9, fun q0 => (fun ⟨g, c9, q9, e, o⟩ => ⟨g, c9, q9, e, own_below o hb9⟩) (hh10 q0), hh11, hx0, hx1, hx2, hx3⟩
            · -- operation 3
              cases ho
              go_simp
              exact hK _ _ ⟨_, _, _, _, _, _, _, _, _, _, _, _, rfl, hB, hh0, hh1, hh2, fun _ => rfl, hh4, hh5, hh6, hh7, hh8, hh9, hh10, hh11, hx0, hx1, hx2, hx3⟩
            · -- operation 4
              cases ho
              obtain rfl := hh3 (hdep ⟨3, .data⟩ (by simp) rfl)
              go_simp
              exact hK _ _ ⟨_, _, _, _, _, _, _, _, _, _, _, _, rfl, hB.trans ((Below.alloc (Below.refl W.heap.size W) (Nat.le_refl _) _).mono hB.size), hh0, hh1, fun q0 r0 => (fun ⟨g, c9, e, o⟩ => ⟨g, c9, e, own_below o (Below.alloc (Below.refl W.heap.size W) (Nat.le_refl _) _)⟩) (hh2 q0 r0), hh3, fun _ _ => ⟨_, rfl, cell_one_new W _ _⟩, fun q0 => (fun ⟨g, c9, e, o⟩ => ⟨g, c9, e, own_below o (Below.alloc (Below.refl W.heap.size W) (Nat.le_refl _) _)⟩) (hh5 q0), fun q0 => (fun ⟨g, c9, q9, e, o⟩ => ⟨g, c9, q9, e, own_below o (Below.alloc (Below.refl W.heap.size W) (Nat.le_refl _) _)⟩) (hh6 q0), fun q0 => (fun ⟨g, c9, q9, e, o⟩ => ⟨g, c9, q9, e, own_below o (Below.alloc (Below.refl W.heap.size W) (Nat.le_refl _) _)⟩) (hh7 q0), fun q0 => (fun ⟨g, c9, q9, e, o⟩ => ⟨g, c9, q9, e, own_below o (Below.alloc (Below.refl W.heap.size W) (Nat.le_refl _) _)⟩) (hh8 q0), hh9, fun q0 => (fun ⟨g, c9, q9, e, o⟩ => ⟨g, c9, q9, e, own_below o (Below.alloc (Below.refl W.heap.size W) (Nat.le_refl _) _)⟩) (hh10 q0), hh11, hx0, hx1, hx2, hx3⟩
            · -- operation 5
              cases ho
              have hd2 := hdep ⟨2, .data⟩ (by simp) rfl
              obtain ⟨g9, c9, rfl, oe⟩ := hh2 hd2 hL
              have hd4 := hdep ⟨4, .data⟩ (by simp) rfl
              obtain ⟨gn, rfl, hnew⟩ := hh4 hd4 hL
              refine step_append rfl (.tmp 45) (.tmp 47) 24 rfl wr.heap.size 3 i0 (.int .i64 0) 1 8 Try.underlying24 hi hz0 hz1 hz2 rfl (by decide) _ nb _ rfl oe ⟨gn, 0, none⟩ 1 1 [Value.int .i64 (k : Int)] rfl rfl hnew (by simp [Value.oneCell']) (by unfold maxLen; omega) (by omega) hB.size (fun e => nomatch e) ?_
              intro g1 cap w9 hown hgr
              exact hK _ _ ⟨_, _, _, _, _, _, _, _, _, _, _, _, rfl, hB.grown hgr hB.size (fun q e => (oe.lt q e).1), hh0, hh1, (fun _ q0 => nomatch q0), hh3, (fun _ q0 => nomatch q0), fun _ => ⟨_, _, rfl, hown⟩, (fun q0 => absurd (hx0 q0) (by rw [hL]; simp)), (fun q0 => absurd (hx0 (hx1 q0)) (by rw [hL]; simp)), (fun q0 => absurd (hx0 (hx1 (hx2 q0))) (by rw [hL]; simp)), hh9, (fun q0 => absurd (hx0 (hx1 (hx2 (hx3 q0)))) (by rw [hL]; simp)), hh11, fun _ => rfl, hx1, hx2, hx3⟩
            · -- operation 6
              cases ho
              obtain rfl := hh0 (hdep ⟨0, .data⟩ (by simp) rfl)
              have hd5 := hdep ⟨5, .data⟩ (by simp) rfl
              obtain ⟨g9, c9, rfl, ho9⟩ := hh5 hd5
              go_simp
              refine (CB.out W g9 c9 hB ho9).mono ?_
              rintro e w9 ⟨gx9, cx9, q9, rfl, hox, hb9⟩
              exact hK _ _ ⟨_, _, _, _, _, _, _, _, _, _, _, _, rfl, hB.trans (hb9.mono hB.size), hh0, hh1, fun q0 r0 => (fun ⟨g, c9, e, o⟩ => ⟨g, c9, e, own_below o hb9⟩) (hh2 q0 r0), hh3, fun q0 r0 => (fun ⟨g, e, h⟩ => ⟨g, e, fun j u hu => (Below.cell hb9 (World.block_lt_of_cell? W _ (h j u hu))).trans (h j u hu)⟩) (hh4 q0 r0), fun q0 => (fun ⟨g, c9, e, o⟩ => ⟨g, c9, e, own_below o hb9⟩) (hh5 q0), fun _ => ⟨gx9, cx9, q9, rfl, hox⟩, fun q0 => (fun ⟨g, c9, q9, e, o⟩ => ⟨g, c9, q9, e, own_below o hb9⟩) (hh7 q0), fun q0 => (fun ⟨g, c9, q9, e, o⟩ => ⟨g, c9, q9, e, own_below o hb9⟩) (hh8 q0), hh9, fun q0 => (fun ⟨g, c9, q9, e, o⟩ => ⟨g, c9, q9, e, own_below o hb9⟩) (hh10 q0), hh11, fun _ => hd5, fun _ => rfl, hx2, hx3⟩
            · -- operation 7
              cases ho
              have hd6 := hdep ⟨6, .data⟩ (by simp) rfl
              obtain ⟨gx9, cx9, q9, rfl, hox⟩ := hh6 hd6
              go_simp
              exact hK _ _ ⟨_, _, _, _, _, _, _, _, _, _, _, _, rfl, hB, hh0, hh1, hh2, hh3, hh4, hh5, hh6, fun _ => ⟨gx9, cx9, q9, rfl, hox⟩, hh8, hh9, hh10, hh11, hx0, fun _ => hd6, fun _ => rfl, hx3⟩
            · -- operation 8
              cases ho
              have hd7 := hdep ⟨7, .data⟩ (by simp) rfl
              obtain ⟨gx9, cx9, q9, rfl, hox⟩ := hh7 hd7
              go_simp
              exact hK _ _ ⟨_, _, _, _, _, _, _, _, _, _, _, _, rfl, hB, hh0, hh1, hh2, hh3, hh4, hh5, hh6, hh7, fun _ => ⟨gx9, cx9, q9, rfl, hox⟩, hh9, hh10, hh11, hx0, hx1, fun _ => hd7, fun _ => rfl⟩
            · -- operation 9
              cases ho
              have hd7 := hdep ⟨7, .data⟩ (by simp) rfl
              obtain ⟨gx9, cx9, q9, rfl, hox⟩ := hh7 hd7
              go_simp
              exact hK _ _ ⟨_, _, _, _, _, _, _, _, _, _, _, _, rfl, hB, hh0, hh1, hh2, hh3, hh4, hh5, hh6, hh7, hh8, fun _ => rfl, hh10, hh11, hx0, hx1, hx2, hx3⟩
            · -- operation 10
              cases ho
              have hd8 := hdep ⟨8, .data⟩ (by simp) rfl
              obtain ⟨gx9, cx9, q9, rfl, hox⟩ := hh8 hd8
              go_simp
              exact hK _ _ ⟨_, _, _, _, _, _, _, _, _, _, _, _, rfl, hB, hh0, hh1, hh2, hh3, hh4, hh5, hh6, hh7, hh8, hh9, fun _ => ⟨gx9, cx9, q9, rfl, hox⟩, hh11, hx0, hx1, hx2, fun _ => hd8⟩
            · -- operation 11
              cases ho
              have hd9 := hdep ⟨9, .data⟩ (by simp) rfl
              obtain rfl := hh9 hd9
              go_simp
              exact hK _ _ ⟨_, _, _, _, _, _, _, _, _, _, _, _, rfl, hB, hh0, hh1, hh2, hh3, hh4, hh5, hh6, hh7, hh8, hh9, hh10, fun _ => rfl, hx0, hx1, hx2, hx3⟩
          intro Fl9 ac W hJ hall
          obtain ⟨x43, x44, x45, x46, x47, x48, x49, x42, x50, x51, x11, x12, rfl, hB, hh0, hh1, hh2, hh3, hh4, hh5, hh6, hh7, hh8, hh9, hh10, hh11, -, -, -, -⟩ := hJ
          obtain rfl := hh0 (hall 0 (by decide))
          obtain rfl := hh1 (hall 1 (by decide))
          obtain rfl := hh3 (hall 3 (by decide))
          clear hh2
          clear hh4
          clear hh5
          clear hh6
          clear hh7
          clear hh8
          obtain rfl := hh9 (hall 9 (by decide))
          obtain ⟨gy, cy, qy, rfl, hoy⟩ := hh10 (hall 10 (by decide))
          obtain rfl := hh11 (hall 11 (by decide))
          clear hall
          have HY := Lib.hid hoy
          have HX2 := Lib.hid (own_below HX.out hB)
          have HBe := Lib.hid (HB.out.trans (hB.mono HB.out.size))
          clear hoy hB HX CB HRk CO HBw HBd2 cT0 cT1 cT2 cT3 cT4
          have HF : Hid (bestU ⟨a, b, c, zs, vs⟩ (extKU M f P (k + 1)) = if 0 ≤ BZ ∧ (az < 0 ∨ BZ < az) then (BL, BZ) else (aR, az)) := Lib.hid HNX.out
          clear HNX
          have hc := fun (h : 0 ≤ BZ ∧ (az < 0 ∨ BZ < az)) => HF.out.trans (if_pos h)
          have hd := fun (h : ¬ (0 ≤ BZ ∧ (az < 0 ∨ BZ < az))) => HF.out.trans (if_neg h)
          have HC := Lib.hid hc
          have HD := Lib.hid hd
          clear hc hd HF
          by_cases h1 : 0 ≤ BZ
          · by_cases h2 : az < 0
            · have HE := Lib.hid (HC.out ⟨h1, .inl h2⟩)
              clear HC HD
              go_wp2_with fail
              go_roundw
              case rel => exact ⟨k + 1, by omega, by go_num, by rw [HE.out], ⟨_, _, _, rfl, by rw [HE.out]; exact HY.out⟩, HBe.out⟩
              case measure => simp [intOf]; omega
            · by_cases h3 : BZ < az
              · have HE := Lib.hid (HC.out ⟨h1, .inr h3⟩)
                clear HC HD
                go_wp2_with fail
                go_roundw
                case rel => exact ⟨k + 1, by omega, by go_num, by rw [HE.out], ⟨_, _, _, rfl, by rw [HE.out]; exact HY.out⟩, HBe.out⟩
                case measure => simp [intOf]; omega
              · have HE := Lib.hid (HD.out (by omega))
                clear HC HD
                go_wp2_with fail
                go_roundw
                case rel => exact ⟨k + 1, by omega, by go_num, by rw [HE.out], ⟨_, _, _, rfl, by rw [HE.out]; exact HX2.out⟩, HBe.out⟩
                case measure => simp [intOf]; omega
          · have HE := Lib.hid (HD.out (by omega))
            clear HC HD
            go_wp2_with fail
            go_roundw
            case rel => exact ⟨k + 1, by omega, by go_num, by rw [HE.out], ⟨_, _, _, rfl, by rw [HE.out]; exact HX2.out⟩, HBe.out⟩
            case measure => simp [intOf]; omega
        · have hk1 : ¬ (k : Int) < (M : Int) := by omega
          obtain rfl : M = k := by omega
          have HX := Lib.hid hX
          have HBe := Lib.hid (HB1.out.trans (hb.mono HB1.out.size))
          rw [HKE.out] at HX ⊢
          dsimp only at HX ⊢
          clear hX hb hXX HIH HIX HKS HAP CO0 HST HSB HKE
          go_wp2_with fail
          go_ret2
          exact ⟨gx, cx, q9, rfl, HX.out, HBe.out⟩
    · have hv0 : 0 ≤ v := by obtain ⟨k, hk⟩ := fstU_ex hs; have := hv.2 k hk; omega
      have hEE : (EL, EZ) = ([], -1) := HBAD.out (fun h => hs (HSF.out.1 h))
      injection hEE with he1 he2
      subst he1 he2
      clear hv hs HBAD HSF HIH HIX HKS HAP CO0 HKE
      go_wp2_with fail
      go_ret2
      exact ⟨_, _, _, rfl, own_low (World.ownsRow_made w1 #[] 0 (Nat.le_refl _) (by unfold maxLen; omega) rfl) HBd1.out, HB1.out.alloc HB1.out.size _⟩
end Go.Proofs.Ytdjoiodkmanacaa
