/- CheapestPlan answers as its model does, at every task; it writes into no argument and its answer owns its memory. -/
import Derived.Test.YtdjoiodkmanacaaPuO
import Derived.Test.YtdjoiodkmanacaaPuT
import Derived.Test.YtdjoiodkmanacaaIntX
import Derived.Test.YtdjoiodkmanacaaSt0
import Derived.OpenShut
import Derived.ShutString
import Derived.ChangeOld
import Derived.WalkLawsBesides
import Derived.Lib.SmallJoins
import Derived.Deep.RegionHeld3
namespace Go.Proofs.Ytdjoiodkmanacaa.fnExactCheapestPlan
open Go.ChangeShapes Go.WideShapes Go.ChangeAt Go.RowKit
open Go.ChangeMaps (open_string shut_string)
set_option linter.unusedVariables false
set_option linter.unusedSimpArgs false

abbrev rPump (g n c : Nat) (xs : List Value) : RowOf := ⟨69, 3, .slice (some ⟨g, 0, none⟩) n c, n, xs⟩
abbrev ri (g n c : Nat) (xs : List Value) : RowOf := ⟨3, 1, .slice (some ⟨g, 0, none⟩) n c, n, xs⟩

set_option maxRecDepth 100000 in
set_option maxHeartbeats 8000000 in
theorem walk (aT bT cT : Int) (AT : Option Addr) (nT qT : Nat) (zT : List Int) (DT : Option Addr) (mT rT : Nat) (vT : List TPump) (w : World) (hIT : IsInts .i64 w AT nT zT) (hnT : vT.length = mT) (hmT : mT ≤ maxLen) (hhT : Has w w.heap.size DT (flatPump vT))  :
    Calls Try.prog 9 #[.agg #[.int .i64 aT, .int .i64 bT, .int .i64 cT, .slice AT nT qT, .slice DT mT rT]] w fun e w' => e = .returned (.bool true) ∧ Below w.heap.size w w' := by
  have iTT : IsTs w w.heap.size AT nT zT DT mT vT := ⟨Nat.le_refl _, ⟨hIT.1, Nat.le_refl _, hIT.2.2.2⟩, ⟨hnT, Nat.le_refl _, hhT⟩⟩
  have ITT := Lib.hid (fun W (hb : Below w.heap.size w W) => iTT.below hb (Nat.le_refl _))
  have HMT := Lib.hid hIT.2.1
  have HPT := Lib.hid hmT
  obtain ⟨L, z, x, hA⟩ := cheA_ex ⟨aT, bT, cT, zT, vT⟩
  have HA := Lib.hid hA
  have HLB : Hid (L.length ≤ 5) := Lib.hid HA.out.len
  have hzz : (z != z) = false := by simp
  have hxx : (x != x) = false := by simp
  clear hA
  clear hIT hnT hmT hhT iTT
  go_enter Try.func9, Try.ntmps9
  have S0 : Hid (St w [(w.heap.size, 0, .int .i64 aT), (w.heap.size, 1, .int .i64 bT), (w.heap.size, 2, .int .i64 cT), (w.heap.size, 3, .slice AT nT qT), (w.heap.size, 4, .slice DT mT rT)] [] (World.alloc w (.cells #[.int .i64 aT, .int .i64 bT, .int .i64 cT, .slice AT nT qT, .slice DT mT rT] 48))) := Lib.hid (by
    have k0 := ((St.start w)).quiet (Below.alloc (Below.refl _ w) (Nat.le_refl _) (.cells #[.int .i64 aT, .int .i64 bT, .int .i64 cT, .slice AT nT qT, .slice DT mT rT] 48))
    have j0 := k0.cells (ds := [(w.heap.size, 0, .int .i64 aT), (w.heap.size, 1, .int .i64 bT), (w.heap.size, 2, .int .i64 cT), (w.heap.size, 3, .slice AT nT qT), (w.heap.size, 4, .slice DT mT rT)]) (fun p hp => by
      simp only [List.mem_cons, List.not_mem_nil, or_false] at hp
      rcases hp with rfl | rfl | rfl | rfl | rfl
      · exact ⟨by omega, by rw [sNew]; rfl⟩
      · exact ⟨by omega, by rw [sNew]; rfl⟩
      · exact ⟨by omega, by rw [sNew]; rfl⟩
      · exact ⟨by omega, by rw [sNew]; rfl⟩
      · exact ⟨by omega, by rw [sNew]; rfl⟩)
    exact j0)
  obtain ⟨leftT, l0T, l1T, lfT, szT⟩ := szT_is aT bT cT AT nT qT DT mT rT HMT.out HPT.out
  have SZT := Lib.hid szT
  clear szT
  have cc0 := (S0.out.cell (w.heap.size, 0, .int .i64 aT) (.head _)).2
  have cc1 := (S0.out.cell (w.heap.size, 1, .int .i64 bT) (.tail _ (.head _))).2
  have cc2 := (S0.out.cell (w.heap.size, 2, .int .i64 cT) (.tail _ (.tail _ (.head _)))).2
  have cc3 := (S0.out.cell (w.heap.size, 3, .slice AT nT qT) (.tail _ (.tail _ (.tail _ (.head _))))).2
  have cc4 := (S0.out.cell (w.heap.size, 4, .slice DT mT rT) (.tail _ (.tail _ (.tail _ (.tail _ (.head _)))))).2
  go_wp2_with fail
  refine (SZT.out _).mono ?_
  rintro e w1 ⟨rfl, hb⟩
  have S1 := Lib.hid (S0.out.quiet hb)
  clear cc0 cc1 cc2 cc3 cc4
  clear hb S0
  clear SZT
  have cc0 := (S1.out.cell (w.heap.size, 0, .int .i64 aT) (.head _)).2
  have cc1 := (S1.out.cell (w.heap.size, 1, .int .i64 bT) (.tail _ (.head _))).2
  have cc2 := (S1.out.cell (w.heap.size, 2, .int .i64 cT) (.tail _ (.tail _ (.head _)))).2
  have cc3 := (S1.out.cell (w.heap.size, 3, .slice AT nT qT) (.tail _ (.tail _ (.tail _ (.head _))))).2
  have cc4 := (S1.out.cell (w.heap.size, 4, .slice DT mT rT) (.tail _ (.tail _ (.tail _ (.tail _ (.head _)))))).2
  by_cases negT : leftT < 0
  · go_wp2_with fail
    go_ret
    exact ⟨rfl, S1.out.low⟩
  clear cc0 cc1 cc2 cc3 cc4
  have HNT : Hid (nT ≤ 1048576) := Lib.hid (by have := lfT (by omega); omega)
  have HQT : Hid (mT ≤ 1048576) := Lib.hid (by have := lfT (by omega); omega)
  obtain ⟨Ln, hLn⟩ : ∃ k, L.length = k := ⟨_, rfl⟩
  have HLn := Lib.hid hLn
  have hLb : Ln ≤ 5 := by rw [← hLn]; exact HLB.out
  clear hLn
  have cc0 := (S1.out.cell (w.heap.size, 0, .int .i64 aT) (.head _)).2
  have cc1 := (S1.out.cell (w.heap.size, 1, .int .i64 bT) (.tail _ (.head _))).2
  have cc2 := (S1.out.cell (w.heap.size, 2, .int .i64 cT) (.tail _ (.tail _ (.head _)))).2
  have cc3 := (S1.out.cell (w.heap.size, 3, .slice AT nT qT) (.tail _ (.tail _ (.tail _ (.head _))))).2
  have cc4 := (S1.out.cell (w.heap.size, 4, .slice DT mT rT) (.tail _ (.tail _ (.tail _ (.tail _ (.head _)))))).2
  go_wp2_with fail
  refine (toT_any aT bT cT qT rT (ITT.out _ S1.out.low) HNT.out HQT.out).mono ?_
  rintro e w2 ⟨t1, u1, rfl, hnet1, hown, hown2, hb⟩
  have zt1 := hown.lt t1 rfl
  have zu1 := hown2.lt u1 rfl
  have bt1 : w.heap.size + 1 ≤ t1 := by have h1 := World.block_lt_of_cell? _ _ (S1.out.cell (w.heap.size, 4, .slice DT mT rT) (.tail _ (.tail _ (.tail _ (.tail _ (.head _)))))).2; have h2 := zt1.1; simp at h1; (try simp at h2); omega
  have qt1q : w.heap.size ≤ t1 := Nat.le_trans S1.out.low.size zt1.1
  have bu1 : w.heap.size + 1 ≤ u1 := by have h1 := World.block_lt_of_cell? _ _ (S1.out.cell (w.heap.size, 4, .slice DT mT rT) (.tail _ (.tail _ (.tail _ (.tail _ (.head _)))))).2; have h2 := zu1.1; simp at h1; (try simp at h2); omega
  have qu1q : w.heap.size ≤ u1 := Nat.le_trans S1.out.low.size zu1.1
  have S2 := Lib.hid (((S1.out.quiet hb).own (ri t1 nT nT (zT.map (.int .i64))) (own_low hown S1.out.low.size)).own (rPump u1 mT mT (flatPump vT)) (own_low hown2 S1.out.low.size))
  clear cc0 cc1 cc2 cc3 cc4
  clear hb hown hown2 zt1 zu1 S1
  go_wp2_with fail
  refine (cheapS_any _ _ _ _ _ (own_IsTs (S2.out.row (ri t1 nT nT (zT.map (.int .i64))) (by simp)) (S2.out.row (rPump u1 mT mT (flatPump vT)) (by simp))) HNT.out HQT.out L z x HA.out Ln HLn.out).mono ?_
  rintro e w3 ⟨gw, cgw, rfl, hown, hb⟩
  have zgw := hown.lt gw rfl
  have dgw_u1 : gw ≠ u1 := by have h1 := (S2.out.lt (r := rPump u1 mT mT (flatPump vT)) (by simp) (g := u1) rfl).2; have h2 := zgw.1; omega
  have dgw_t1 : gw ≠ t1 := by have h1 := (S2.out.lt (r := ri t1 nT nT (zT.map (.int .i64))) (by simp) (g := t1) rfl).2; have h2 := zgw.1; omega
  have bgw : w.heap.size + 1 ≤ gw := by have h1 := World.block_lt_of_cell? _ _ (S2.out.cell (w.heap.size, 4, .slice DT mT rT) (.tail _ (.tail _ (.tail _ (.tail _ (.head _)))))).2; have h2 := zgw.1; simp at h1; (try simp at h2); omega
  have qgw : w.heap.size ≤ gw := Nat.le_trans S2.out.low.size zgw.1
  have S3 := Lib.hid ((S2.out.quiet hb).own (ri gw Ln cgw (L.map (.int .i64))) (own_low hown S2.out.low.size))
  clear hb hown zgw S2
  have S4 := Lib.hid (S3.out.sub (rows' := [ri gw Ln cgw (L.map (.int .i64))]) (by simp))
  clear S3
  have cc0 := (S4.out.cell (w.heap.size, 0, .int .i64 aT) (.head _)).2
  have cc1 := (S4.out.cell (w.heap.size, 1, .int .i64 bT) (.tail _ (.head _))).2
  have cc2 := (S4.out.cell (w.heap.size, 2, .int .i64 cT) (.tail _ (.tail _ (.head _)))).2
  have cc3 := (S4.out.cell (w.heap.size, 3, .slice AT nT qT) (.tail _ (.tail _ (.tail _ (.head _))))).2
  have cc4 := (S4.out.cell (w.heap.size, 4, .slice DT mT rT) (.tail _ (.tail _ (.tail _ (.tail _ (.head _)))))).2
  go_wp2_with fail
  refine (toT_any aT bT cT qT rT (ITT.out _ S4.out.low) HNT.out HQT.out).mono ?_
  rintro e w4 ⟨xfT, xpT, rfl, hnexfT, hown, hown2, hb⟩
  have zxfT := hown.lt xfT rfl
  have zxpT := hown2.lt xpT rfl
  have dxfT_gw : xfT ≠ gw := by have h1 := (S4.out.lt (r := ri gw Ln cgw (L.map (.int .i64))) (by simp) (g := gw) rfl).2; have h2 := zxfT.1; omega
  have bxfT : w.heap.size + 1 ≤ xfT := by have h1 := World.block_lt_of_cell? _ _ (S4.out.cell (w.heap.size, 4, .slice DT mT rT) (.tail _ (.tail _ (.tail _ (.tail _ (.head _)))))).2; have h2 := zxfT.1; simp at h1; (try simp at h2); omega
  have qxfTq : w.heap.size ≤ xfT := Nat.le_trans S4.out.low.size zxfT.1
  have dxpT_gw : xpT ≠ gw := by have h1 := (S4.out.lt (r := ri gw Ln cgw (L.map (.int .i64))) (by simp) (g := gw) rfl).2; have h2 := zxpT.1; omega
  have bxpT : w.heap.size + 1 ≤ xpT := by have h1 := World.block_lt_of_cell? _ _ (S4.out.cell (w.heap.size, 4, .slice DT mT rT) (.tail _ (.tail _ (.tail _ (.tail _ (.head _)))))).2; have h2 := zxpT.1; simp at h1; (try simp at h2); omega
  have qxpTq : w.heap.size ≤ xpT := Nat.le_trans S4.out.low.size zxpT.1
  have S5 := Lib.hid (((S4.out.quiet hb).own (ri xfT nT nT (zT.map (.int .i64))) (own_low hown S4.out.low.size)).own (rPump xpT mT mT (flatPump vT)) (own_low hown2 S4.out.low.size))
  clear cc0 cc1 cc2 cc3 cc4
  clear hb hown hown2 zxfT zxpT S4
  have zzw4 : w.heap.size ≤ w4.heap.size := S5.out.low.size
  have zrw4 : xfT < w4.heap.size ∧ xpT < w4.heap.size := ⟨(S5.out.lt (r := ri xfT nT nT (zT.map (.int .i64))) (by simp) (g := xfT) rfl).2, (S5.out.lt (r := rPump xpT mT mT (flatPump vT)) (by simp) (g := xpT) rfl).2⟩
  have S6 := Lib.hid ((S5.out.quiet (Below.alloc (Below.refl _ w4) (Nat.le_refl _) (.cells #[.int .i64 aT, .int .i64 bT, .int .i64 cT, .slice (some ⟨xfT, 0, none⟩) nT nT, .slice (some ⟨xpT, 0, none⟩) mT mT] 27))).cells (ds := [(w4.heap.size, 0, .int .i64 aT), (w4.heap.size, 1, .int .i64 bT), (w4.heap.size, 2, .int .i64 cT), (w4.heap.size, 3, .slice (some ⟨xfT, 0, none⟩) nT nT), (w4.heap.size, 4, .slice (some ⟨xpT, 0, none⟩) mT mT)]) (fun p hp => by
      simp only [List.mem_cons, List.not_mem_nil, or_false] at hp
      rcases hp with rfl | rfl | rfl | rfl | rfl
      · exact ⟨zzw4, by rw [sNew]; rfl⟩
      · exact ⟨zzw4, by rw [sNew]; rfl⟩
      · exact ⟨zzw4, by rw [sNew]; rfl⟩
      · exact ⟨zzw4, by rw [sNew]; rfl⟩
      · exact ⟨zzw4, by rw [sNew]; rfl⟩))
  obtain ⟨bxT, hbxT⟩ : ∃ g, w4.heap.size = g := ⟨_, rfl⟩
  rw [hbxT] at S6 zzw4 zrw4
  obtain ⟨zrw4a, zrw4b⟩ := zrw4
  clear S5
  have cc0 := (S6.out.cell (bxT, 0, .int .i64 aT) (.head _)).2
  have cc1 := (S6.out.cell (bxT, 1, .int .i64 bT) (.tail _ (.head _))).2
  have cc2 := (S6.out.cell (bxT, 2, .int .i64 cT) (.tail _ (.tail _ (.head _)))).2
  have cc3 := (S6.out.cell (bxT, 3, .slice (some ⟨xfT, 0, none⟩) nT nT) (.tail _ (.tail _ (.tail _ (.head _))))).2
  have cc4 := (S6.out.cell (bxT, 4, .slice (some ⟨xpT, 0, none⟩) mT mT) (.tail _ (.tail _ (.tail _ (.tail _ (.head _)))))).2
  go_wp2_with fail
  refine (cheapI_any _ _ _ _ _ (own_IsTs (S6.out.row (ri xfT nT nT (zT.map (.int .i64))) (by simp)) (S6.out.row (rPump xpT mT mT (flatPump vT)) (by simp))) HNT.out HQT.out L z x HA.out Ln HLn.out).mono ?_
  rintro e w5 ⟨gg, cgg, rfl, hown, hb⟩
  have zgg := hown.lt gg rfl
  have dgg_xpT : gg ≠ xpT := by have h1 := (S6.out.lt (r := rPump xpT mT mT (flatPump vT)) (by simp) (g := xpT) rfl).2; have h2 := zgg.1; omega
  have dgg_xfT : gg ≠ xfT := by have h1 := (S6.out.lt (r := ri xfT nT nT (zT.map (.int .i64))) (by simp) (g := xfT) rfl).2; have h2 := zgg.1; omega
  have dgg_gw : gg ≠ gw := by have h1 := (S6.out.lt (r := ri gw Ln cgw (L.map (.int .i64))) (by simp) (g := gw) rfl).2; have h2 := zgg.1; omega
  have bgg : w.heap.size + 1 ≤ gg := by have h1 := World.block_lt_of_cell? _ _ (S6.out.cell (w.heap.size, 4, .slice DT mT rT) (.tail _ (.tail _ (.tail _ (.tail _ (.tail _ (.tail _ (.tail _ (.tail _ (.tail _ (.head _))))))))))).2; have h2 := zgg.1; simp at h1; (try simp at h2); omega
  have egg_bxT : gg ≠ bxT := by have h1 := World.block_lt_of_cell? _ _ (S6.out.cell (bxT, 0, .int .i64 aT) (.head _)).2; have h2 := zgg.1; simp at h1; (try simp at h2); omega
  have qgg : w.heap.size ≤ gg := Nat.le_trans S6.out.low.size zgg.1
  have S7 := Lib.hid ((S6.out.quiet hb).own (ri gg Ln cgg (L.map (.int .i64))) (own_low hown S6.out.low.size))
  clear cc0 cc1 cc2 cc3 cc4
  clear hb hown zgg S6
  go_wp2_with fail
  refine (eqI_same _ _ Ln _ _ _ _ L _ HLn.out (by unfold maxLen; omega) (own_hasv (S7.out.row (ri gg Ln cgg (L.map (.int .i64))) (by simp))) (own_hasv (S7.out.row (ri gw Ln cgw (L.map (.int .i64))) (by simp)))).mono ?_
  rintro e w6 ⟨rfl, hD⟩
  have S8 := Lib.hid (S7.out.drawn hD)
  clear hD S7
  have KEEP := Lib.hid (fun W (hb : Below w6.heap.size w6 W) => (⟨hb, ((S8.out.quiet hb).cell (bxT, 0, .int .i64 aT) (.head _)).2, ((S8.out.quiet hb).cell (bxT, 1, .int .i64 bT) (.tail _ (.head _))).2, ((S8.out.quiet hb).cell (bxT, 2, .int .i64 cT) (.tail _ (.tail _ (.head _)))).2, ((S8.out.quiet hb).cell (bxT, 3, .slice (some ⟨xfT, 0, none⟩) nT nT) (.tail _ (.tail _ (.tail _ (.head _))))).2, ((S8.out.quiet hb).cell (bxT, 4, .slice (some ⟨xpT, 0, none⟩) mT mT) (.tail _ (.tail _ (.tail _ (.tail _ (.head _)))))).2, ((S8.out.quiet hb).cell (w.heap.size, 0, .int .i64 aT) (.tail _ (.tail _ (.tail _ (.tail _ (.tail _ (.head _))))))).2, ((S8.out.quiet hb).cell (w.heap.size, 1, .int .i64 bT) (.tail _ (.tail _ (.tail _ (.tail _ (.tail _ (.tail _ (.head _)))))))).2, ((S8.out.quiet hb).cell (w.heap.size, 2, .int .i64 cT) (.tail _ (.tail _ (.tail _ (.tail _ (.tail _ (.tail _ (.tail _ (.head _))))))))).2, ((S8.out.quiet hb).cell (w.heap.size, 3, .slice AT nT qT) (.tail _ (.tail _ (.tail _ (.tail _ (.tail _ (.tail _ (.tail _ (.tail _ (.head _)))))))))).2, ((S8.out.quiet hb).cell (w.heap.size, 4, .slice DT mT rT) (.tail _ (.tail _ (.tail _ (.tail _ (.tail _ (.tail _ (.tail _ (.tail _ (.tail _ (.head _))))))))))).2⟩ : Below w6.heap.size w6 W ∧ W.cell? ⟨bxT, 0, none⟩ = some (.int .i64 aT) ∧ W.cell? ⟨bxT, 1, none⟩ = some (.int .i64 bT) ∧ W.cell? ⟨bxT, 2, none⟩ = some (.int .i64 cT) ∧ W.cell? ⟨bxT, 3, none⟩ = some (.slice (some ⟨xfT, 0, none⟩) nT nT) ∧ W.cell? ⟨bxT, 4, none⟩ = some (.slice (some ⟨xpT, 0, none⟩) mT mT) ∧ W.cell? ⟨w.heap.size, 0, none⟩ = some (.int .i64 aT) ∧ W.cell? ⟨w.heap.size, 1, none⟩ = some (.int .i64 bT) ∧ W.cell? ⟨w.heap.size, 2, none⟩ = some (.int .i64 cT) ∧ W.cell? ⟨w.heap.size, 3, none⟩ = some (.slice AT nT qT) ∧ W.cell? ⟨w.heap.size, 4, none⟩ = some (.slice DT mT rT)))
  have KD := Lib.hid (KEEP.out w6.drew ((Drawn.one w6 1).below _))
  have KT := Lib.hid (fun W W' (hb : Below w6.heap.size w6 W) (hb' : Below W.heap.size W W') => KEEP.out W' (hb.trans (hb'.mono hb.size)))
  have IA := Lib.hid (fun W (hb : Below w6.heap.size w6 W) => ITT.out W (S8.out.quiet hb).low)
  have IX := Lib.hid (fun W (hb : Below w6.heap.size w6 W) => own_IsTs ((S8.out.quiet hb).row (ri xfT nT nT (zT.map (.int .i64))) (by simp)) ((S8.out.quiet hb).row (rPump xpT mT mT (flatPump vT)) (by simp)))
  have cc0 := (S8.out.cell (bxT, 0, .int .i64 aT) (.head _)).2
  have cc1 := (S8.out.cell (bxT, 1, .int .i64 bT) (.tail _ (.head _))).2
  have cc2 := (S8.out.cell (bxT, 2, .int .i64 cT) (.tail _ (.tail _ (.head _)))).2
  have cc3 := (S8.out.cell (bxT, 3, .slice (some ⟨xfT, 0, none⟩) nT nT) (.tail _ (.tail _ (.tail _ (.head _))))).2
  have cc4 := (S8.out.cell (bxT, 4, .slice (some ⟨xpT, 0, none⟩) mT mT) (.tail _ (.tail _ (.tail _ (.tail _ (.head _)))))).2
  have cc5 := (S8.out.cell (w.heap.size, 0, .int .i64 aT) (.tail _ (.tail _ (.tail _ (.tail _ (.tail _ (.head _))))))).2
  have cc6 := (S8.out.cell (w.heap.size, 1, .int .i64 bT) (.tail _ (.tail _ (.tail _ (.tail _ (.tail _ (.tail _ (.head _)))))))).2
  have cc7 := (S8.out.cell (w.heap.size, 2, .int .i64 cT) (.tail _ (.tail _ (.tail _ (.tail _ (.tail _ (.tail _ (.tail _ (.head _))))))))).2
  have cc8 := (S8.out.cell (w.heap.size, 3, .slice AT nT qT) (.tail _ (.tail _ (.tail _ (.tail _ (.tail _ (.tail _ (.tail _ (.tail _ (.head _)))))))))).2
  have cc9 := (S8.out.cell (w.heap.size, 4, .slice DT mT rT) (.tail _ (.tail _ (.tail _ (.tail _ (.tail _ (.tail _ (.tail _ (.tail _ (.tail _ (.head _))))))))))).2
  go_wp2_with fail
  clear cc0 cc1 cc2 cc3 cc4 cc5 cc6 cc7 cc8 cc9
  go_region_held3 (fun W => Below w6.heap.size w6 W ∧ W.cell? ⟨bxT, 0, none⟩ = some (.int .i64 aT) ∧ W.cell? ⟨bxT, 1, none⟩ = some (.int .i64 bT) ∧ W.cell? ⟨bxT, 2, none⟩ = some (.int .i64 cT) ∧ W.cell? ⟨bxT, 3, none⟩ = some (.slice (some ⟨xfT, 0, none⟩) nT nT) ∧ W.cell? ⟨bxT, 4, none⟩ = some (.slice (some ⟨xpT, 0, none⟩) mT mT) ∧ W.cell? ⟨w.heap.size, 0, none⟩ = some (.int .i64 aT) ∧ W.cell? ⟨w.heap.size, 1, none⟩ = some (.int .i64 bT) ∧ W.cell? ⟨w.heap.size, 2, none⟩ = some (.int .i64 cT) ∧ W.cell? ⟨w.heap.size, 3, none⟩ = some (.slice AT nT qT) ∧ W.cell? ⟨w.heap.size, 4, none⟩ = some (.slice DT mT rT))
    (first | exact KD.out | exact KT.out _ _ KD.out.1 hb6 | exact KT.out _ _ (KD.out.1.trans (hb6.mono KD.out.1.size)) hb7)
    (first
      | (go_at_call 40; refine (toT_any aT bT cT qT rT (IA.out _ KD.out.1) HNT.out HQT.out).mono ?_; rintro e wa6 ⟨ga6, gb6, rfl, -, ho6, hp6, hb6⟩)
      | (go_at_call 41; refine (eqT_any aT bT cT nT mT nT mT (IX.out _ (KD.out.1.trans (hb6.mono KD.out.1.size))) (own_IsTs ho6 hp6) HMT.out HPT.out).mono ?_; rintro e w7 ⟨rfl, hb7⟩))
  have X6 := KD.out.1.trans (hb6.mono KD.out.1.size)
  have X7 := X6.trans (hb7.mono X6.size)
  have S9 := Lib.hid (S8.out.quiet X7)
  clear KEEP KD KT IA IX hb6 hb7 ho6 hp6 X6 X7 S8
  have hNT := HNT.out
  have hQT := HQT.out
  have cc0 := (S9.out.cell (bxT, 0, .int .i64 aT) (.head _)).2
  have cc1 := (S9.out.cell (bxT, 1, .int .i64 bT) (.tail _ (.head _))).2
  have cc2 := (S9.out.cell (bxT, 2, .int .i64 cT) (.tail _ (.tail _ (.head _)))).2
  have cc3 := (S9.out.cell (bxT, 3, .slice (some ⟨xfT, 0, none⟩) nT nT) (.tail _ (.tail _ (.tail _ (.head _))))).2
  have cc4 := (S9.out.cell (bxT, 4, .slice (some ⟨xpT, 0, none⟩) mT mT) (.tail _ (.tail _ (.tail _ (.tail _ (.head _)))))).2
  go_wp2_with fail
  refine (markT_row aT bT cT xfT xpT nT mT nT mT w.heap.size (1) _ _ _ (by omega) (by omega) (S9.out.row (ri xfT nT nT (zT.map (.int .i64))) (by simp)) (S9.out.row (rPump xpT mT mT (flatPump vT)) (by simp)) (Ne.symm hnexfT)).mono ?_
  rintro e w8 ⟨rfl, MT, hg1, hg2, ho1, ho2⟩
  clear cc0 cc1 cc2 cc3 cc4
  have T7 := S9.out.sub (rows' := [ri xfT nT nT (zT.map (.int .i64)), ri gg Ln cgg (L.map (.int .i64)), ri gw Ln cgw (L.map (.int .i64))]) (by simp)
  have T8 := T7.turn (r' := ri xfT nT nT (nums (1) nT)) hg1 (fun q e => by cases e; omega) (by simp; omega) (by first | (simp [Value.ownBlock]; omega) | simp [Value.ownBlock]) ho1
  have T9 := T8.sub (rows' := [ri gg Ln cgg (L.map (.int .i64)), ri gw Ln cgw (L.map (.int .i64))]) (by simp)
  have S10 := Lib.hid (T9.grown hg2 (fun q e => by cases e; omega) (by simp; omega) (by first | (simp [Value.ownBlock]; omega) | simp [Value.ownBlock]))
  clear T7 T8 T9 hg1 hg2 ho1 ho2 S9
  have S11 := Lib.hid (S10.out.less (cs' := [(w.heap.size, 0, .int .i64 aT), (w.heap.size, 1, .int .i64 bT), (w.heap.size, 2, .int .i64 cT), (w.heap.size, 3, .slice AT nT qT), (w.heap.size, 4, .slice DT mT rT)]) (fun p hp => by simp only [List.mem_cons, List.not_mem_nil, or_false] at hp; rcases hp with rfl | rfl | rfl | rfl | rfl <;> simp))
  clear S10
  have hkk : ¬ (1 + (nT : Int) + 3 * (mT : Int) < 0) := by omega
  go_wp2_with fail
  refine (eqI_same _ _ Ln _ _ _ _ L _ HLn.out (by unfold maxLen; omega) (own_hasv (S11.out.row (ri gg Ln cgg (L.map (.int .i64))) (by simp))) (own_hasv (S11.out.row (ri gw Ln cgw (L.map (.int .i64))) (by simp)))).mono ?_
  rintro e w9 ⟨rfl, hD⟩
  have S12 := Lib.hid (S11.out.drawn hD)
  clear hD S11
  go_wp2_with fail
  refine (markI_any gg Ln cgg w.heap.size (1) _ _ (by omega) (by omega) (S12.out.row (ri gg Ln cgg (L.map (.int .i64))) (by simp))).mono ?_
  rintro e w10 ⟨rfl, hoM, hgr⟩
  have T8 := S12.out.sub (rows' := [ri gg Ln cgg (L.map (.int .i64)), ri gw Ln cgw (L.map (.int .i64))]) (by simp)
  have S13 := Lib.hid (T8.turn (r' := ri gg Ln cgg (nums (1) Ln)) hgr (fun q e => by cases e; omega) (by first | (simp; omega) | simp) (by simp [Value.ownBlock]; omega) hoM)
  clear T8 hoM hgr S12
  go_wp2_with fail
  refine (heldI_any _ Ln cgg _ 1 _ (by omega) (by omega) (own_hasv (S13.out.row (ri gg Ln cgg (nums (1) Ln)) (by simp)))).mono ?_
  rintro e w11 ⟨rfl, rfl⟩
  have hq1 : ¬ (1 + (Ln : Int) < 0) := by omega
  have hq2 : ((1 + (Ln : Int)) != (1 + (Ln : Int))) = false := by simp
  have cc0 := (S13.out.cell (w.heap.size, 0, .int .i64 aT) (.head _)).2
  have cc1 := (S13.out.cell (w.heap.size, 1, .int .i64 bT) (.tail _ (.head _))).2
  have cc2 := (S13.out.cell (w.heap.size, 2, .int .i64 cT) (.tail _ (.tail _ (.head _)))).2
  have cc3 := (S13.out.cell (w.heap.size, 3, .slice AT nT qT) (.tail _ (.tail _ (.tail _ (.head _))))).2
  have cc4 := (S13.out.cell (w.heap.size, 4, .slice DT mT rT) (.tail _ (.tail _ (.tail _ (.tail _ (.head _)))))).2
  go_wp2_with fail
  refine (toT_any aT bT cT qT rT (ITT.out _ S13.out.low) HNT.out HQT.out).mono ?_
  rintro e w12 ⟨t2, u2, rfl, hnet2, hown, hown2, hb⟩
  have zt2 := hown.lt t2 rfl
  have zu2 := hown2.lt u2 rfl
  have dt2_gg : t2 ≠ gg := by have h1 := (S13.out.lt (r := ri gg Ln cgg (nums (1) Ln)) (by simp) (g := gg) rfl).2; have h2 := zt2.1; omega
  have dt2_gw : t2 ≠ gw := by have h1 := (S13.out.lt (r := ri gw Ln cgw (L.map (.int .i64))) (by simp) (g := gw) rfl).2; have h2 := zt2.1; omega
  have bt2 : w.heap.size + 1 ≤ t2 := by have h1 := World.block_lt_of_cell? _ _ (S13.out.cell (w.heap.size, 4, .slice DT mT rT) (.tail _ (.tail _ (.tail _ (.tail _ (.head _)))))).2; have h2 := zt2.1; simp at h1; (try simp at h2); omega
  have qt2q : w.heap.size ≤ t2 := Nat.le_trans S13.out.low.size zt2.1
  have du2_gg : u2 ≠ gg := by have h1 := (S13.out.lt (r := ri gg Ln cgg (nums (1) Ln)) (by simp) (g := gg) rfl).2; have h2 := zu2.1; omega
  have du2_gw : u2 ≠ gw := by have h1 := (S13.out.lt (r := ri gw Ln cgw (L.map (.int .i64))) (by simp) (g := gw) rfl).2; have h2 := zu2.1; omega
  have bu2 : w.heap.size + 1 ≤ u2 := by have h1 := World.block_lt_of_cell? _ _ (S13.out.cell (w.heap.size, 4, .slice DT mT rT) (.tail _ (.tail _ (.tail _ (.tail _ (.head _)))))).2; have h2 := zu2.1; simp at h1; (try simp at h2); omega
  have qu2q : w.heap.size ≤ u2 := Nat.le_trans S13.out.low.size zu2.1
  have S14 := Lib.hid (((S13.out.quiet hb).own (ri t2 nT nT (zT.map (.int .i64))) (own_low hown S13.out.low.size)).own (rPump u2 mT mT (flatPump vT)) (own_low hown2 S13.out.low.size))
  clear cc0 cc1 cc2 cc3 cc4
  clear hb hown hown2 zt2 zu2 S13
  go_wp2_with fail
  refine (cheapI_any _ _ _ _ _ (own_IsTs (S14.out.row (ri t2 nT nT (zT.map (.int .i64))) (by simp)) (S14.out.row (rPump u2 mT mT (flatPump vT)) (by simp))) HNT.out HQT.out L z x HA.out Ln HLn.out).mono ?_
  rintro e w13 ⟨gh, cgh, rfl, hown, hb⟩
  have zgh := hown.lt gh rfl
  have dgh_u2 : gh ≠ u2 := by have h1 := (S14.out.lt (r := rPump u2 mT mT (flatPump vT)) (by simp) (g := u2) rfl).2; have h2 := zgh.1; omega
  have dgh_t2 : gh ≠ t2 := by have h1 := (S14.out.lt (r := ri t2 nT nT (zT.map (.int .i64))) (by simp) (g := t2) rfl).2; have h2 := zgh.1; omega
  have dgh_gg : gh ≠ gg := by have h1 := (S14.out.lt (r := ri gg Ln cgg (nums (1) Ln)) (by simp) (g := gg) rfl).2; have h2 := zgh.1; omega
  have dgh_gw : gh ≠ gw := by have h1 := (S14.out.lt (r := ri gw Ln cgw (L.map (.int .i64))) (by simp) (g := gw) rfl).2; have h2 := zgh.1; omega
  have bgh : w.heap.size + 1 ≤ gh := by have h1 := World.block_lt_of_cell? _ _ (S14.out.cell (w.heap.size, 4, .slice DT mT rT) (.tail _ (.tail _ (.tail _ (.tail _ (.head _)))))).2; have h2 := zgh.1; simp at h1; (try simp at h2); omega
  have qgh : w.heap.size ≤ gh := Nat.le_trans S14.out.low.size zgh.1
  have S15 := Lib.hid ((S14.out.quiet hb).own (ri gh Ln cgh (L.map (.int .i64))) (own_low hown S14.out.low.size))
  clear hb hown zgh S14
  have S16 := Lib.hid (S15.out.sub (rows' := [ri gh Ln cgh (L.map (.int .i64)), ri gg Ln cgg (nums (1) Ln), ri gw Ln cgw (L.map (.int .i64))]) (by simp))
  clear S15
  go_wp2_with fail
  refine (eqI_same _ _ Ln _ _ _ _ L _ HLn.out (by unfold maxLen; omega) (own_hasv (S16.out.row (ri gh Ln cgh (L.map (.int .i64))) (by simp))) (own_hasv (S16.out.row (ri gw Ln cgw (L.map (.int .i64))) (by simp)))).mono ?_
  rintro e w14 ⟨rfl, hD⟩
  have S17 := Lib.hid (S16.out.drawn hD)
  clear hD S16
  go_wp2_with fail
  refine (heldI_any _ Ln cgg _ 1 _ (by omega) (by omega) (own_hasv (S17.out.row (ri gg Ln cgg (nums (1) Ln)) (by simp)))).mono ?_
  rintro e w15 ⟨rfl, rfl⟩
  go_wp2_with fail
  go_ret
  exact ⟨rfl, S17.out.low⟩
end Go.Proofs.Ytdjoiodkmanacaa.fnExactCheapestPlan
