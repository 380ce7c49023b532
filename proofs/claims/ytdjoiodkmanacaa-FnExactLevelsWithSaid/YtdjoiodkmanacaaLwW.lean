/- LevelsWith answers as its model does, at every task and plan; it writes into no argument and its answer owns its memory. -/
import Derived.Test.YtdjoiodkmanacaaPuJ
import Derived.Test.YtdjoiodkmanacaaPuT
import Derived.Test.YtdjoiodkmanacaaIntX
import Derived.Test.YtdjoiodkmanacaaSt0
import Derived.OpenShut
import Derived.ShutString
import Derived.ChangeOld
import Derived.WalkLawsBesides
import Derived.Lib.SmallJoins
import Derived.Deep.RegionHeld3
namespace Go.Proofs.Ytdjoiodkmanacaa.fnExactLevelsWith
open Go.ChangeShapes Go.WideShapes Go.ChangeAt Go.RowKit
open Go.ChangeMaps (open_string shut_string)
set_option linter.unusedVariables false
set_option linter.unusedSimpArgs false

abbrev rPump (g n c : Nat) (xs : List Value) : RowOf := ⟨69, 3, .slice (some ⟨g, 0, none⟩) n c, n, xs⟩
abbrev ri (g n c : Nat) (xs : List Value) : RowOf := ⟨3, 1, .slice (some ⟨g, 0, none⟩) n c, n, xs⟩

set_option maxRecDepth 100000 in
set_option maxHeartbeats 8000000 in
theorem walk (aT bT cT : Int) (AT : Option Addr) (nT qT : Nat) (zT : List Int) (DT : Option Addr) (mT rT : Nat) (vT : List TPump) (Ap : Option Addr) (np cp : Nat) (zp : List Int) (w : World) (hIT : IsInts .i64 w AT nT zT) (hnT : vT.length = mT) (hmT : mT ≤ maxLen) (hhT : Has w w.heap.size DT (flatPump vT)) (hIp : IsInts .i64 w Ap np zp)  :
    Calls Try.prog 6 #[.agg #[.int .i64 aT, .int .i64 bT, .int .i64 cT, .slice AT nT qT, .slice DT mT rT], .slice Ap np cp] w fun e w' => e = .returned (.bool true) ∧ Below w.heap.size w w' := by
  have HLp : Hid (zp.length = np) := Lib.hid hIp.1
  have IVp := Lib.hid (fun W (hb : Below w.heap.size w W) => hIp.2.2.2.below hb)
  have hMp : np ≤ 9223372036854775807 := Nat.le_trans hIp.2.1 (by unfold maxLen; omega)
  have iTT : IsTs w w.heap.size AT nT zT DT mT vT := ⟨Nat.le_refl _, ⟨hIT.1, Nat.le_refl _, hIT.2.2.2⟩, ⟨hnT, Nat.le_refl _, hhT⟩⟩
  have ITT := Lib.hid (fun W (hb : Below w.heap.size w W) => iTT.below hb (Nat.le_refl _))
  have HMT := Lib.hid hIT.2.1
  have HPT := Lib.hid hmT
  obtain ⟨L, x, hA⟩ := lvsA_ex ⟨aT, bT, cT, zT, vT⟩ zp
  have HA := Lib.hid hA
  have HLB : Hid (L.length ≤ 5) := Lib.hid HA.out.len
  have hxx : (x != x) = false := by simp
  clear hA
  clear hIT hnT hmT hhT iTT
  clear hIp
  go_enter Try.func6, Try.ntmps6
  have S0 : Hid (St w [(w.heap.size, 0, .int .i64 aT), (w.heap.size, 1, .int .i64 bT), (w.heap.size, 2, .int .i64 cT), (w.heap.size, 3, .slice AT nT qT), (w.heap.size, 4, .slice DT mT rT)] [] (World.alloc w (.cells #[.int .i64 aT, .int .i64 bT, .int .i64 cT, .slice AT nT qT, .slice DT mT rT] 48))) := Lib.hid (by
    have k0 := ((St.start w)).quiet (Below.alloc (Below.refl _ w) (Nat.le_refl _) (.cells #[.int .i64 aT, .int .i64 bT, .int .i64 cT, .slice AT nT qT, .slice DT mT rT] 48))
    have j0 := k0.cells (ds := [(w.heap.size, 0, .int .i64 aT), (w.heap.size, 1, .int .i64 bT), (w.heap.size, 2, .int .i64 cT), (w.heap.size, 3, .slice AT nT qT), (w.heap.size, 4, .slice DT mT rT)]) (fun p hp => by
      simp only [List.mem_cons, List.not_mem_nil, or_false] at hp
      rcases hp with rfl | rfl | rfl | rfl | rfl
      · exact ⟨by omega, by rw [sNew]; rfl⟩
      · exact ⟨by omega, by rw [sNew]; rfl⟩
      · exact ⟨by omega, by rw [sNew]; rfl⟩
      · exact ⟨by omega, by rw [sNew]; rfl⟩
      · exact ⟨by omega, by rw [sNew]; rfl⟩)
    exact j0)
  by_cases bigp : 1048576 < np
  · go_wp2_with fail
    go_ret
    exact ⟨rfl, S0.out.low⟩
  have HNp : Hid (np ≤ 1048576) := Lib.hid (by omega)
  obtain ⟨leftT, l0T, l1T, lfT, szT⟩ := szT_is aT bT cT AT nT qT DT mT rT HMT.out HPT.out
  have SZT := Lib.hid szT
  clear szT
  have cc0 := (S0.out.cell (w.heap.size, 0, .int .i64 aT) (.head _)).2
  have cc1 := (S0.out.cell (w.heap.size, 1, .int .i64 bT) (.tail _ (.head _))).2
  have cc2 := (S0.out.cell (w.heap.size, 2, .int .i64 cT) (.tail _ (.tail _ (.head _)))).2
  have cc3 := (S0.out.cell (w.heap.size, 3, .slice AT nT qT) (.tail _ (.tail _ (.tail _ (.head _))))).2
  have cc4 := (S0.out.cell (w.heap.size, 4, .slice DT mT rT) (.tail _ (.tail _ (.tail _ (.tail _ (.head _)))))).2
  go_wp2_with fail
  refine (SZT.out _).mono ?_
  rintro e w1 ⟨rfl, hb⟩
  have S1 := Lib.hid (S0.out.quiet hb)
  clear cc0 cc1 cc2 cc3 cc4
  clear hb S0
  clear SZT
  have cc0 := (S1.out.cell (w.heap.size, 0, .int .i64 aT) (.head _)).2
  have cc1 := (S1.out.cell (w.heap.size, 1, .int .i64 bT) (.tail _ (.head _))).2
  have cc2 := (S1.out.cell (w.heap.size, 2, .int .i64 cT) (.tail _ (.tail _ (.head _)))).2
  have cc3 := (S1.out.cell (w.heap.size, 3, .slice AT nT qT) (.tail _ (.tail _ (.tail _ (.head _))))).2
  have cc4 := (S1.out.cell (w.heap.size, 4, .slice DT mT rT) (.tail _ (.tail _ (.tail _ (.tail _ (.head _)))))).2
  by_cases negT : leftT < 0
  · go_wp2_with fail
    go_ret
    exact ⟨rfl, S1.out.low⟩
  clear cc0 cc1 cc2 cc3 cc4
  have HNT : Hid (nT ≤ 1048576) := Lib.hid (by have := lfT (by omega); omega)
  have HQT : Hid (mT ≤ 1048576) := Lib.hid (by have := lfT (by omega); omega)
  obtain ⟨Ln, hLn⟩ : ∃ k, L.length = k := ⟨_, rfl⟩
  have HLn := Lib.hid hLn
  have hLb : Ln ≤ 5 := by rw [← hLn]; exact HLB.out
  clear hLn
  have cc0 := (S1.out.cell (w.heap.size, 0, .int .i64 aT) (.head _)).2
  have cc1 := (S1.out.cell (w.heap.size, 1, .int .i64 bT) (.tail _ (.head _))).2
  have cc2 := (S1.out.cell (w.heap.size, 2, .int .i64 cT) (.tail _ (.tail _ (.head _)))).2
  have cc3 := (S1.out.cell (w.heap.size, 3, .slice AT nT qT) (.tail _ (.tail _ (.tail _ (.head _))))).2
  have cc4 := (S1.out.cell (w.heap.size, 4, .slice DT mT rT) (.tail _ (.tail _ (.tail _ (.tail _ (.head _)))))).2
  go_wp2_with fail
  refine (toT_any aT bT cT qT rT (ITT.out _ S1.out.low) HNT.out HQT.out).mono ?_
  rintro e w2 ⟨t1, u1, rfl, hnet1, hown, hown2, hb⟩
  have zt1 := hown.lt t1 rfl
  have zu1 := hown2.lt u1 rfl
  have bt1 : w.heap.size + 1 ≤ t1 := by have h1 := World.block_lt_of_cell? _ _ (S1.out.cell (w.heap.size, 4, .slice DT mT rT) (.tail _ (.tail _ (.tail _ (.tail _ (.head _)))))).2; have h2 := zt1.1; simp at h1; (try simp at h2); omega
  have qt1q : w.heap.size ≤ t1 := Nat.le_trans S1.out.low.size zt1.1
  have bu1 : w.heap.size + 1 ≤ u1 := by have h1 := World.block_lt_of_cell? _ _ (S1.out.cell (w.heap.size, 4, .slice DT mT rT) (.tail _ (.tail _ (.tail _ (.tail _ (.head _)))))).2; have h2 := zu1.1; simp at h1; (try simp at h2); omega
  have qu1q : w.heap.size ≤ u1 := Nat.le_trans S1.out.low.size zu1.1
  have S2 := Lib.hid (((S1.out.quiet hb).own (ri t1 nT nT (zT.map (.int .i64))) (own_low hown S1.out.low.size)).own (rPump u1 mT mT (flatPump vT)) (own_low hown2 S1.out.low.size))
  clear cc0 cc1 cc2 cc3 cc4
  clear hb hown hown2 zt1 zu1 S1
  go_wp2_with fail
  refine (toI_ex Ap np cp w.heap.size zp _ HLp.out HNp.out S2.out.low.size (IVp.out _ S2.out.low)).mono ?_
  rintro e w3 ⟨t2, rfl, hown, hb⟩
  have zt2 := hown.lt t2 rfl
  have dt2_u1 : t2 ≠ u1 := by have h1 := (S2.out.lt (r := rPump u1 mT mT (flatPump vT)) (by simp) (g := u1) rfl).2; have h2 := zt2.1; omega
  have dt2_t1 : t2 ≠ t1 := by have h1 := (S2.out.lt (r := ri t1 nT nT (zT.map (.int .i64))) (by simp) (g := t1) rfl).2; have h2 := zt2.1; omega
  have bt2 : w.heap.size + 1 ≤ t2 := by have h1 := World.block_lt_of_cell? _ _ (S2.out.cell (w.heap.size, 4, .slice DT mT rT) (.tail _ (.tail _ (.tail _ (.tail _ (.head _)))))).2; have h2 := zt2.1; simp at h1; (try simp at h2); omega
  have qt2 : w.heap.size ≤ t2 := Nat.le_trans S2.out.low.size zt2.1
  have S3 := Lib.hid ((S2.out.quiet hb).own (ri t2 np np (zp.map (.int .i64))) (own_low hown S2.out.low.size))
  clear hb hown zt2 S2
  go_wp2_with fail
  refine (levelsS_any _ _ _ _ _ (own_IsTs (S3.out.row (ri t1 nT nT (zT.map (.int .i64))) (by simp)) (S3.out.row (rPump u1 mT mT (flatPump vT)) (by simp))) HNT.out HQT.out _ (show IsIs _ _ _ _ _ from ⟨HLp.out, Nat.le_refl _, (own_hasv (S3.out.row (ri t2 np np (zp.map (.int .i64))) (by simp)))⟩) HNp.out L x HA.out Ln HLn.out).mono ?_
  rintro e w4 ⟨gw, cgw, rfl, hown, hb⟩
  have zgw := hown.lt gw rfl
  have dgw_t2 : gw ≠ t2 := by have h1 := (S3.out.lt (r := ri t2 np np (zp.map (.int .i64))) (by simp) (g := t2) rfl).2; have h2 := zgw.1; omega
  have dgw_u1 : gw ≠ u1 := by have h1 := (S3.out.lt (r := rPump u1 mT mT (flatPump vT)) (by simp) (g := u1) rfl).2; have h2 := zgw.1; omega
  have dgw_t1 : gw ≠ t1 := by have h1 := (S3.out.lt (r := ri t1 nT nT (zT.map (.int .i64))) (by simp) (g := t1) rfl).2; have h2 := zgw.1; omega
  have bgw : w.heap.size + 1 ≤ gw := by have h1 := World.block_lt_of_cell? _ _ (S3.out.cell (w.heap.size, 4, .slice DT mT rT) (.tail _ (.tail _ (.tail _ (.tail _ (.head _)))))).2; have h2 := zgw.1; simp at h1; (try simp at h2); omega
  have qgw : w.heap.size ≤ gw := Nat.le_trans S3.out.low.size zgw.1
  have S4 := Lib.hid ((S3.out.quiet hb).own (ri gw Ln cgw (L.map (.int .i64))) (own_low hown S3.out.low.size))
  clear hb hown zgw S3
  have S5 := Lib.hid (S4.out.sub (rows' := [ri gw Ln cgw (L.map (.int .i64))]) (by simp))
  clear S4
  clear hnet1 dt2_u1 dt2_t1 dgw_t2 dgw_u1 dgw_t1
  have cc0 := (S5.out.cell (w.heap.size, 0, .int .i64 aT) (.head _)).2
  have cc1 := (S5.out.cell (w.heap.size, 1, .int .i64 bT) (.tail _ (.head _))).2
  have cc2 := (S5.out.cell (w.heap.size, 2, .int .i64 cT) (.tail _ (.tail _ (.head _)))).2
  have cc3 := (S5.out.cell (w.heap.size, 3, .slice AT nT qT) (.tail _ (.tail _ (.tail _ (.head _))))).2
  have cc4 := (S5.out.cell (w.heap.size, 4, .slice DT mT rT) (.tail _ (.tail _ (.tail _ (.tail _ (.head _)))))).2
  go_wp2_with fail
  refine (toT_any aT bT cT qT rT (ITT.out _ S5.out.low) HNT.out HQT.out).mono ?_
  rintro e w5 ⟨xfT, xpT, rfl, hnexfT, hown, hown2, hb⟩
  have zxfT := hown.lt xfT rfl
  have zxpT := hown2.lt xpT rfl
  have dxfT_gw : xfT ≠ gw := by have h1 := (S5.out.lt (r := ri gw Ln cgw (L.map (.int .i64))) (by simp) (g := gw) rfl).2; have h2 := zxfT.1; omega
  have bxfT : w.heap.size + 1 ≤ xfT := by have h1 := World.block_lt_of_cell? _ _ (S5.out.cell (w.heap.size, 4, .slice DT mT rT) (.tail _ (.tail _ (.tail _ (.tail _ (.head _)))))).2; have h2 := zxfT.1; simp at h1; (try simp at h2); omega
  have qxfTq : w.heap.size ≤ xfT := Nat.le_trans S5.out.low.size zxfT.1
  have dxpT_gw : xpT ≠ gw := by have h1 := (S5.out.lt (r := ri gw Ln cgw (L.map (.int .i64))) (by simp) (g := gw) rfl).2; have h2 := zxpT.1; omega
  have bxpT : w.heap.size + 1 ≤ xpT := by have h1 := World.block_lt_of_cell? _ _ (S5.out.cell (w.heap.size, 4, .slice DT mT rT) (.tail _ (.tail _ (.tail _ (.tail _ (.head _)))))).2; have h2 := zxpT.1; simp at h1; (try simp at h2); omega
  have qxpTq : w.heap.size ≤ xpT := Nat.le_trans S5.out.low.size zxpT.1
  have S6 := Lib.hid (((S5.out.quiet hb).own (ri xfT nT nT (zT.map (.int .i64))) (own_low hown S5.out.low.size)).own (rPump xpT mT mT (flatPump vT)) (own_low hown2 S5.out.low.size))
  clear cc0 cc1 cc2 cc3 cc4
  clear hb hown hown2 zxfT zxpT S5
  have zzw5 : w.heap.size ≤ w5.heap.size := S6.out.low.size
  have zrw5 : xfT < w5.heap.size ∧ xpT < w5.heap.size := ⟨(S6.out.lt (r := ri xfT nT nT (zT.map (.int .i64))) (by simp) (g := xfT) rfl).2, (S6.out.lt (r := rPump xpT mT mT (flatPump vT)) (by simp) (g := xpT) rfl).2⟩
  have S7 := Lib.hid ((S6.out.quiet (Below.alloc (Below.refl _ w5) (Nat.le_refl _) (.cells #[.int .i64 aT, .int .i64 bT, .int .i64 cT, .slice (some ⟨xfT, 0, none⟩) nT nT, .slice (some ⟨xpT, 0, none⟩) mT mT] 27))).cells (ds := [(w5.heap.size, 0, .int .i64 aT), (w5.heap.size, 1, .int .i64 bT), (w5.heap.size, 2, .int .i64 cT), (w5.heap.size, 3, .slice (some ⟨xfT, 0, none⟩) nT nT), (w5.heap.size, 4, .slice (some ⟨xpT, 0, none⟩) mT mT)]) (fun p hp => by
      simp only [List.mem_cons, List.not_mem_nil, or_false] at hp
      rcases hp with rfl | rfl | rfl | rfl | rfl
      · exact ⟨zzw5, by rw [sNew]; rfl⟩
      · exact ⟨zzw5, by rw [sNew]; rfl⟩
      · exact ⟨zzw5, by rw [sNew]; rfl⟩
      · exact ⟨zzw5, by rw [sNew]; rfl⟩
      · exact ⟨zzw5, by rw [sNew]; rfl⟩))
  obtain ⟨bxT, hbxT⟩ : ∃ g, w5.heap.size = g := ⟨_, rfl⟩
  rw [hbxT] at S7 zzw5 zrw5
  obtain ⟨zrw5a, zrw5b⟩ := zrw5
  clear S6
  go_wp2_with fail
  refine (toI_ex Ap np cp w.heap.size zp _ HLp.out HNp.out S7.out.low.size (IVp.out _ S7.out.low)).mono ?_
  rintro e w6 ⟨xp, rfl, hown, hb⟩
  have zxp := hown.lt xp rfl
  have dxp_xpT : xp ≠ xpT := by have h1 := (S7.out.lt (r := rPump xpT mT mT (flatPump vT)) (by simp) (g := xpT) rfl).2; have h2 := zxp.1; omega
  have dxp_xfT : xp ≠ xfT := by have h1 := (S7.out.lt (r := ri xfT nT nT (zT.map (.int .i64))) (by simp) (g := xfT) rfl).2; have h2 := zxp.1; omega
  have dxp_gw : xp ≠ gw := by have h1 := (S7.out.lt (r := ri gw Ln cgw (L.map (.int .i64))) (by simp) (g := gw) rfl).2; have h2 := zxp.1; omega
  have bxp : w.heap.size + 1 ≤ xp := by have h1 := World.block_lt_of_cell? _ _ (S7.out.cell (w.heap.size, 4, .slice DT mT rT) (.tail _ (.tail _ (.tail _ (.tail _ (.tail _ (.tail _ (.tail _ (.tail _ (.tail _ (.head _))))))))))).2; have h2 := zxp.1; simp at h1; (try simp at h2); omega
  have exp_bxT : xp ≠ bxT := by have h1 := World.block_lt_of_cell? _ _ (S7.out.cell (bxT, 0, .int .i64 aT) (.head _)).2; have h2 := zxp.1; simp at h1; (try simp at h2); omega
  have qxp : w.heap.size ≤ xp := Nat.le_trans S7.out.low.size zxp.1
  have S8 := Lib.hid ((S7.out.quiet hb).own (ri xp np np (zp.map (.int .i64))) (own_low hown S7.out.low.size))
  clear hb hown zxp S7
  have cc0 := (S8.out.cell (bxT, 0, .int .i64 aT) (.head _)).2
  have cc1 := (S8.out.cell (bxT, 1, .int .i64 bT) (.tail _ (.head _))).2
  have cc2 := (S8.out.cell (bxT, 2, .int .i64 cT) (.tail _ (.tail _ (.head _)))).2
  have cc3 := (S8.out.cell (bxT, 3, .slice (some ⟨xfT, 0, none⟩) nT nT) (.tail _ (.tail _ (.tail _ (.head _))))).2
  have cc4 := (S8.out.cell (bxT, 4, .slice (some ⟨xpT, 0, none⟩) mT mT) (.tail _ (.tail _ (.tail _ (.tail _ (.head _)))))).2
  go_wp2_with fail
  refine (levelsI_any _ _ _ _ _ (own_IsTs (S8.out.row (ri xfT nT nT (zT.map (.int .i64))) (by simp)) (S8.out.row (rPump xpT mT mT (flatPump vT)) (by simp))) HNT.out HQT.out _ (show IsIs _ _ _ _ _ from ⟨HLp.out, Nat.le_refl _, (own_hasv (S8.out.row (ri xp np np (zp.map (.int .i64))) (by simp)))⟩) HNp.out L x HA.out Ln HLn.out).mono ?_
  rintro e w7 ⟨gg, cgg, rfl, hown, hb⟩
  have zgg := hown.lt gg rfl
  have dgg_xp : gg ≠ xp := by have h1 := (S8.out.lt (r := ri xp np np (zp.map (.int .i64))) (by simp) (g := xp) rfl).2; have h2 := zgg.1; omega
  have dgg_xpT : gg ≠ xpT := by have h1 := (S8.out.lt (r := rPump xpT mT mT (flatPump vT)) (by simp) (g := xpT) rfl).2; have h2 := zgg.1; omega
  have dgg_xfT : gg ≠ xfT := by have h1 := (S8.out.lt (r := ri xfT nT nT (zT.map (.int .i64))) (by simp) (g := xfT) rfl).2; have h2 := zgg.1; omega
  have dgg_gw : gg ≠ gw := by have h1 := (S8.out.lt (r := ri gw Ln cgw (L.map (.int .i64))) (by simp) (g := gw) rfl).2; have h2 := zgg.1; omega
  have bgg : w.heap.size + 1 ≤ gg := by have h1 := World.block_lt_of_cell? _ _ (S8.out.cell (w.heap.size, 4, .slice DT mT rT) (.tail _ (.tail _ (.tail _ (.tail _ (.tail _ (.tail _ (.tail _ (.tail _ (.tail _ (.head _))))))))))).2; have h2 := zgg.1; simp at h1; (try simp at h2); omega
  have egg_bxT : gg ≠ bxT := by have h1 := World.block_lt_of_cell? _ _ (S8.out.cell (bxT, 0, .int .i64 aT) (.head _)).2; have h2 := zgg.1; simp at h1; (try simp at h2); omega
  have qgg : w.heap.size ≤ gg := Nat.le_trans S8.out.low.size zgg.1
  have S9 := Lib.hid ((S8.out.quiet hb).own (ri gg Ln cgg (L.map (.int .i64))) (own_low hown S8.out.low.size))
  clear cc0 cc1 cc2 cc3 cc4
  clear hb hown zgg S8
  go_wp2_with fail
  refine (eqI_same _ _ Ln _ _ _ _ L _ HLn.out (by unfold maxLen; omega) (own_hasv (S9.out.row (ri gg Ln cgg (L.map (.int .i64))) (by simp))) (own_hasv (S9.out.row (ri gw Ln cgw (L.map (.int .i64))) (by simp)))).mono ?_
  rintro e w8 ⟨rfl, hD⟩
  have S10 := Lib.hid (S9.out.drawn hD)
  clear hD S9
  have KEEP := Lib.hid (fun W (hb : Below w8.heap.size w8 W) => (⟨hb, ((S10.out.quiet hb).cell (bxT, 0, .int .i64 aT) (.head _)).2, ((S10.out.quiet hb).cell (bxT, 1, .int .i64 bT) (.tail _ (.head _))).2, ((S10.out.quiet hb).cell (bxT, 2, .int .i64 cT) (.tail _ (.tail _ (.head _)))).2, ((S10.out.quiet hb).cell (bxT, 3, .slice (some ⟨xfT, 0, none⟩) nT nT) (.tail _ (.tail _ (.tail _ (.head _))))).2, ((S10.out.quiet hb).cell (bxT, 4, .slice (some ⟨xpT, 0, none⟩) mT mT) (.tail _ (.tail _ (.tail _ (.tail _ (.head _)))))).2, ((S10.out.quiet hb).cell (w.heap.size, 0, .int .i64 aT) (.tail _ (.tail _ (.tail _ (.tail _ (.tail _ (.head _))))))).2, ((S10.out.quiet hb).cell (w.heap.size, 1, .int .i64 bT) (.tail _ (.tail _ (.tail _ (.tail _ (.tail _ (.tail _ (.head _)))))))).2, ((S10.out.quiet hb).cell (w.heap.size, 2, .int .i64 cT) (.tail _ (.tail _ (.tail _ (.tail _ (.tail _ (.tail _ (.tail _ (.head _))))))))).2, ((S10.out.quiet hb).cell (w.heap.size, 3, .slice AT nT qT) (.tail _ (.tail _ (.tail _ (.tail _ (.tail _ (.tail _ (.tail _ (.tail _ (.head _)))))))))).2, ((S10.out.quiet hb).cell (w.heap.size, 4, .slice DT mT rT) (.tail _ (.tail _ (.tail _ (.tail _ (.tail _ (.tail _ (.tail _ (.tail _ (.tail _ (.head _))))))))))).2⟩ : Below w8.heap.size w8 W ∧ W.cell? ⟨bxT, 0, none⟩ = some (.int .i64 aT) ∧ W.cell? ⟨bxT, 1, none⟩ = some (.int .i64 bT) ∧ W.cell? ⟨bxT, 2, none⟩ = some (.int .i64 cT) ∧ W.cell? ⟨bxT, 3, none⟩ = some (.slice (some ⟨xfT, 0, none⟩) nT nT) ∧ W.cell? ⟨bxT, 4, none⟩ = some (.slice (some ⟨xpT, 0, none⟩) mT mT) ∧ W.cell? ⟨w.heap.size, 0, none⟩ = some (.int .i64 aT) ∧ W.cell? ⟨w.heap.size, 1, none⟩ = some (.int .i64 bT) ∧ W.cell? ⟨w.heap.size, 2, none⟩ = some (.int .i64 cT) ∧ W.cell? ⟨w.heap.size, 3, none⟩ = some (.slice AT nT qT) ∧ W.cell? ⟨w.heap.size, 4, none⟩ = some (.slice DT mT rT)))
  have KD := Lib.hid (KEEP.out w8.drew ((Drawn.one w8 1).below _))
  have KT := Lib.hid (fun W W' (hb : Below w8.heap.size w8 W) (hb' : Below W.heap.size W W') => KEEP.out W' (hb.trans (hb'.mono hb.size)))
  have IA := Lib.hid (fun W (hb : Below w8.heap.size w8 W) => ITT.out W (S10.out.quiet hb).low)
  have IX := Lib.hid (fun W (hb : Below w8.heap.size w8 W) => own_IsTs ((S10.out.quiet hb).row (ri xfT nT nT (zT.map (.int .i64))) (by simp)) ((S10.out.quiet hb).row (rPump xpT mT mT (flatPump vT)) (by simp)))
  have cc0 := (S10.out.cell (bxT, 0, .int .i64 aT) (.head _)).2
  have cc1 := (S10.out.cell (bxT, 1, .int .i64 bT) (.tail _ (.head _))).2
  have cc2 := (S10.out.cell (bxT, 2, .int .i64 cT) (.tail _ (.tail _ (.head _)))).2
  have cc3 := (S10.out.cell (bxT, 3, .slice (some ⟨xfT, 0, none⟩) nT nT) (.tail _ (.tail _ (.tail _ (.head _))))).2
  have cc4 := (S10.out.cell (bxT, 4, .slice (some ⟨xpT, 0, none⟩) mT mT) (.tail _ (.tail _ (.tail _ (.tail _ (.head _)))))).2
  have cc5 := (S10.out.cell (w.heap.size, 0, .int .i64 aT) (.tail _ (.tail _ (.tail _ (.tail _ (.tail _ (.head _))))))).2
  have cc6 := (S10.out.cell (w.heap.size, 1, .int .i64 bT) (.tail _ (.tail _ (.tail _ (.tail _ (.tail _ (.tail _ (.head _)))))))).2
  have cc7 := (S10.out.cell (w.heap.size, 2, .int .i64 cT) (.tail _ (.tail _ (.tail _ (.tail _ (.tail _ (.tail _ (.tail _ (.head _))))))))).2
  have cc8 := (S10.out.cell (w.heap.size, 3, .slice AT nT qT) (.tail _ (.tail _ (.tail _ (.tail _ (.tail _ (.tail _ (.tail _ (.tail _ (.head _)))))))))).2
  have cc9 := (S10.out.cell (w.heap.size, 4, .slice DT mT rT) (.tail _ (.tail _ (.tail _ (.tail _ (.tail _ (.tail _ (.tail _ (.tail _ (.tail _ (.head _))))))))))).2
  go_wp2_with fail
  clear cc0 cc1 cc2 cc3 cc4 cc5 cc6 cc7 cc8 cc9
  go_region_held3 (fun W => Below w8.heap.size w8 W ∧ W.cell? ⟨bxT, 0, none⟩ = some (.int .i64 aT) ∧ W.cell? ⟨bxT, 1, none⟩ = some (.int .i64 bT) ∧ W.cell? ⟨bxT, 2, none⟩ = some (.int .i64 cT) ∧ W.cell? ⟨bxT, 3, none⟩ = some (.slice (some ⟨xfT, 0, none⟩) nT nT) ∧ W.cell? ⟨bxT, 4, none⟩ = some (.slice (some ⟨xpT, 0, none⟩) mT mT) ∧ W.cell? ⟨w.heap.size, 0, none⟩ = some (.int .i64 aT) ∧ W.cell? ⟨w.heap.size, 1, none⟩ = some (.int .i64 bT) ∧ W.cell? ⟨w.heap.size, 2, none⟩ = some (.int .i64 cT) ∧ W.cell? ⟨w.heap.size, 3, none⟩ = some (.slice AT nT qT) ∧ W.cell? ⟨w.heap.size, 4, none⟩ = some (.slice DT mT rT))
    (first | exact KD.out | exact KT.out _ _ KD.out.1 hb6 | exact KT.out _ _ (KD.out.1.trans (hb6.mono KD.out.1.size)) hb7)
    (first
      | (go_at_call 40; refine (toT_any aT bT cT qT rT (IA.out _ KD.out.1) HNT.out HQT.out).mono ?_; rintro e wa6 ⟨ga6, gb6, rfl, -, ho6, hp6, hb6⟩)
      | (go_at_call 41; refine (eqT_any aT bT cT nT mT nT mT (IX.out _ (KD.out.1.trans (hb6.mono KD.out.1.size))) (own_IsTs ho6 hp6) HMT.out HPT.out).mono ?_; rintro e w9 ⟨rfl, hb7⟩))
  have X6 := KD.out.1.trans (hb6.mono KD.out.1.size)
  have X7 := X6.trans (hb7.mono X6.size)
  have S11 := Lib.hid (S10.out.quiet X7)
  clear KEEP KD KT IA IX hb6 hb7 ho6 hp6 X6 X7 S10
  go_wp2_with fail
  refine (toI_ex Ap np cp w.heap.size zp _ HLp.out HNp.out S11.out.low.size (IVp.out _ S11.out.low)).mono ?_
  rintro e w10 ⟨t3, rfl, hown, hb⟩
  have zt3 := hown.lt t3 rfl
  have dt3_gg : t3 ≠ gg := by have h1 := (S11.out.lt (r := ri gg Ln cgg (L.map (.int .i64))) (by simp) (g := gg) rfl).2; have h2 := zt3.1; omega
  have dt3_xp : t3 ≠ xp := by have h1 := (S11.out.lt (r := ri xp np np (zp.map (.int .i64))) (by simp) (g := xp) rfl).2; have h2 := zt3.1; omega
  have dt3_xpT : t3 ≠ xpT := by have h1 := (S11.out.lt (r := rPump xpT mT mT (flatPump vT)) (by simp) (g := xpT) rfl).2; have h2 := zt3.1; omega
  have dt3_xfT : t3 ≠ xfT := by have h1 := (S11.out.lt (r := ri xfT nT nT (zT.map (.int .i64))) (by simp) (g := xfT) rfl).2; have h2 := zt3.1; omega
  have dt3_gw : t3 ≠ gw := by have h1 := (S11.out.lt (r := ri gw Ln cgw (L.map (.int .i64))) (by simp) (g := gw) rfl).2; have h2 := zt3.1; omega
  have bt3 : w.heap.size + 1 ≤ t3 := by have h1 := World.block_lt_of_cell? _ _ (S11.out.cell (w.heap.size, 4, .slice DT mT rT) (.tail _ (.tail _ (.tail _ (.tail _ (.tail _ (.tail _ (.tail _ (.tail _ (.tail _ (.head _))))))))))).2; have h2 := zt3.1; simp at h1; (try simp at h2); omega
  have et3_bxT : t3 ≠ bxT := by have h1 := World.block_lt_of_cell? _ _ (S11.out.cell (bxT, 0, .int .i64 aT) (.head _)).2; have h2 := zt3.1; simp at h1; (try simp at h2); omega
  have qt3 : w.heap.size ≤ t3 := Nat.le_trans S11.out.low.size zt3.1
  have S12 := Lib.hid ((S11.out.quiet hb).own (ri t3 np np (zp.map (.int .i64))) (own_low hown S11.out.low.size))
  clear hb hown zt3 S11
  go_wp2_with fail
  refine (eqI_same _ _ np _ _ _ _ zp _ HLp.out (Nat.le_trans HNp.out (by unfold maxLen; omega)) (own_hasv (S12.out.row (ri xp np np (zp.map (.int .i64))) (by simp))) (own_hasv (S12.out.row (ri t3 np np (zp.map (.int .i64))) (by simp)))).mono ?_
  rintro e w11 ⟨rfl, hD⟩
  have S13 := Lib.hid (S12.out.drawn hD)
  clear hD S12
  have S14 := Lib.hid (S13.out.sub (rows' := [ri gg Ln cgg (L.map (.int .i64)), ri xp np np (zp.map (.int .i64)), rPump xpT mT mT (flatPump vT), ri xfT nT nT (zT.map (.int .i64)), ri gw Ln cgw (L.map (.int .i64))]) (by simp))
  clear S13
  clear dt3_gg dt3_xp dt3_xpT dt3_xfT dt3_gw et3_bxT
  have hNT := HNT.out
  have hQT := HQT.out
  have cc0 := (S14.out.cell (bxT, 0, .int .i64 aT) (.head _)).2
  have cc1 := (S14.out.cell (bxT, 1, .int .i64 bT) (.tail _ (.head _))).2
  have cc2 := (S14.out.cell (bxT, 2, .int .i64 cT) (.tail _ (.tail _ (.head _)))).2
  have cc3 := (S14.out.cell (bxT, 3, .slice (some ⟨xfT, 0, none⟩) nT nT) (.tail _ (.tail _ (.tail _ (.head _))))).2
  have cc4 := (S14.out.cell (bxT, 4, .slice (some ⟨xpT, 0, none⟩) mT mT) (.tail _ (.tail _ (.tail _ (.tail _ (.head _)))))).2
  go_wp2_with fail
  refine (markT_row aT bT cT xfT xpT nT mT nT mT w.heap.size (1) _ _ _ (by omega) (by omega) (S14.out.row (ri xfT nT nT (zT.map (.int .i64))) (by simp)) (S14.out.row (rPump xpT mT mT (flatPump vT)) (by simp)) (Ne.symm hnexfT)).mono ?_
  rintro e w12 ⟨rfl, MT, hg1, hg2, ho1, ho2⟩
  clear cc0 cc1 cc2 cc3 cc4
  have T7 := S14.out.sub (rows' := [ri xfT nT nT (zT.map (.int .i64)), ri gg Ln cgg (L.map (.int .i64)), ri xp np np (zp.map (.int .i64)), ri gw Ln cgw (L.map (.int .i64))]) (by simp)
  have T8 := T7.turn (r' := ri xfT nT nT (nums (1) nT)) hg1 (fun q e => by cases e; omega) (by simp; omega) (by first | (simp [Value.ownBlock]; omega) | simp [Value.ownBlock]) ho1
  have T9 := T8.sub (rows' := [ri gg Ln cgg (L.map (.int .i64)), ri xp np np (zp.map (.int .i64)), ri gw Ln cgw (L.map (.int .i64))]) (by simp)
  have S15 := Lib.hid (T9.grown hg2 (fun q e => by cases e; omega) (by simp; omega) (by first | (simp [Value.ownBlock]; omega) | simp [Value.ownBlock]))
  clear T7 T8 T9 hg1 hg2 ho1 ho2 S14
  have S16 := Lib.hid (S15.out.less (cs' := [(w.heap.size, 0, .int .i64 aT), (w.heap.size, 1, .int .i64 bT), (w.heap.size, 2, .int .i64 cT), (w.heap.size, 3, .slice AT nT qT), (w.heap.size, 4, .slice DT mT rT)]) (fun p hp => by simp only [List.mem_cons, List.not_mem_nil, or_false] at hp; rcases hp with rfl | rfl | rfl | rfl | rfl <;> simp))
  clear S15
  clear dxfT_gw dxpT_gw hnexfT dxp_xpT dxp_xfT exp_bxT dgg_xpT dgg_xfT egg_bxT
  have hNp := HNp.out
  go_wp2_with fail
  refine (markI_any xp np np w.heap.size (1 + (nT : Int) + 3 * (mT : Int)) _ _ (by omega) (by omega) (S16.out.row (ri xp np np (zp.map (.int .i64))) (by simp))).mono ?_
  rintro e w13 ⟨rfl, hoM, hgr⟩
  have T8 := S16.out.sub (rows' := [ri xp np np (zp.map (.int .i64)), ri gg Ln cgg (L.map (.int .i64)), ri gw Ln cgw (L.map (.int .i64))]) (by simp)
  have S17 := Lib.hid (T8.turn (r' := ri xp np np (nums (1 + (nT : Int) + 3 * (mT : Int)) np)) hgr (fun q e => by cases e; omega) (by first | (simp; omega) | simp) (by simp [Value.ownBlock]; omega) hoM)
  clear T8 hoM hgr S16
  have S18 := Lib.hid (S17.out.sub (rows' := [ri gg Ln cgg (L.map (.int .i64)), ri gw Ln cgw (L.map (.int .i64))]) (by simp))
  clear S17
  clear dxp_gw dgg_xp
  have hkk : ¬ (1 + (nT : Int) + 3 * (mT : Int) + (np : Int) < 0) := by omega
  go_wp2_with fail
  refine (eqI_same _ _ Ln _ _ _ _ L _ HLn.out (by unfold maxLen; omega) (own_hasv (S18.out.row (ri gg Ln cgg (L.map (.int .i64))) (by simp))) (own_hasv (S18.out.row (ri gw Ln cgw (L.map (.int .i64))) (by simp)))).mono ?_
  rintro e w14 ⟨rfl, hD⟩
  have S19 := Lib.hid (S18.out.drawn hD)
  clear hD S18
  go_wp2_with fail
  refine (markI_any gg Ln cgg w.heap.size (1) _ _ (by omega) (by omega) (S19.out.row (ri gg Ln cgg (L.map (.int .i64))) (by simp))).mono ?_
  rintro e w15 ⟨rfl, hoM, hgr⟩
  have T8 := S19.out.sub (rows' := [ri gg Ln cgg (L.map (.int .i64)), ri gw Ln cgw (L.map (.int .i64))]) (by simp)
  have S20 := Lib.hid (T8.turn (r' := ri gg Ln cgg (nums (1) Ln)) hgr (fun q e => by cases e; omega) (by first | (simp; omega) | simp) (by simp [Value.ownBlock]; omega) hoM)
  clear T8 hoM hgr S19
  go_wp2_with fail
  refine (heldI_any _ Ln cgg _ 1 _ (by omega) (by omega) (own_hasv (S20.out.row (ri gg Ln cgg (nums (1) Ln)) (by simp)))).mono ?_
  rintro e w16 ⟨rfl, rfl⟩
  have hq1 : ¬ (1 + (Ln : Int) < 0) := by omega
  have hq2 : ((1 + (Ln : Int)) != (1 + (Ln : Int))) = false := by simp
  have cc0 := (S20.out.cell (w.heap.size, 0, .int .i64 aT) (.head _)).2
  have cc1 := (S20.out.cell (w.heap.size, 1, .int .i64 bT) (.tail _ (.head _))).2
  have cc2 := (S20.out.cell (w.heap.size, 2, .int .i64 cT) (.tail _ (.tail _ (.head _)))).2
  have cc3 := (S20.out.cell (w.heap.size, 3, .slice AT nT qT) (.tail _ (.tail _ (.tail _ (.head _))))).2
  have cc4 := (S20.out.cell (w.heap.size, 4, .slice DT mT rT) (.tail _ (.tail _ (.tail _ (.tail _ (.head _)))))).2
  go_wp2_with fail
  refine (toT_any aT bT cT qT rT (ITT.out _ S20.out.low) HNT.out HQT.out).mono ?_
  rintro e w17 ⟨t4, u4, rfl, hnet4, hown, hown2, hb⟩
  have zt4 := hown.lt t4 rfl
  have zu4 := hown2.lt u4 rfl
  have dt4_gg : t4 ≠ gg := by have h1 := (S20.out.lt (r := ri gg Ln cgg (nums (1) Ln)) (by simp) (g := gg) rfl).2; have h2 := zt4.1; omega
  have dt4_gw : t4 ≠ gw := by have h1 := (S20.out.lt (r := ri gw Ln cgw (L.map (.int .i64))) (by simp) (g := gw) rfl).2; have h2 := zt4.1; omega
  have bt4 : w.heap.size + 1 ≤ t4 := by have h1 := World.block_lt_of_cell? _ _ (S20.out.cell (w.heap.size, 4, .slice DT mT rT) (.tail _ (.tail _ (.tail _ (.tail _ (.head _)))))).2; have h2 := zt4.1; simp at h1; (try simp at h2); omega
  have qt4q : w.heap.size ≤ t4 := Nat.le_trans S20.out.low.size zt4.1
  have du4_gg : u4 ≠ gg := by have h1 := (S20.out.lt (r := ri gg Ln cgg (nums (1) Ln)) (by simp) (g := gg) rfl).2; have h2 := zu4.1; omega
  have du4_gw : u4 ≠ gw := by have h1 := (S20.out.lt (r := ri gw Ln cgw (L.map (.int .i64))) (by simp) (g := gw) rfl).2; have h2 := zu4.1; omega
  have bu4 : w.heap.size + 1 ≤ u4 := by have h1 := World.block_lt_of_cell? _ _ (S20.out.cell (w.heap.size, 4, .slice DT mT rT) (.tail _ (.tail _ (.tail _ (.tail _ (.head _)))))).2; have h2 := zu4.1; simp at h1; (try simp at h2); omega
  have qu4q : w.heap.size ≤ u4 := Nat.le_trans S20.out.low.size zu4.1
  have S21 := Lib.hid (((S20.out.quiet hb).own (ri t4 nT nT (zT.map (.int .i64))) (own_low hown S20.out.low.size)).own (rPump u4 mT mT (flatPump vT)) (own_low hown2 S20.out.low.size))
  clear cc0 cc1 cc2 cc3 cc4
  clear hb hown hown2 zt4 zu4 S20
  go_wp2_with fail
  refine (toI_ex Ap np cp w.heap.size zp _ HLp.out HNp.out S21.out.low.size (IVp.out _ S21.out.low)).mono ?_
  rintro e w18 ⟨t5, rfl, hown, hb⟩
  have zt5 := hown.lt t5 rfl
  have dt5_u4 : t5 ≠ u4 := by have h1 := (S21.out.lt (r := rPump u4 mT mT (flatPump vT)) (by simp) (g := u4) rfl).2; have h2 := zt5.1; omega
  have dt5_t4 : t5 ≠ t4 := by have h1 := (S21.out.lt (r := ri t4 nT nT (zT.map (.int .i64))) (by simp) (g := t4) rfl).2; have h2 := zt5.1; omega
  have dt5_gg : t5 ≠ gg := by have h1 := (S21.out.lt (r := ri gg Ln cgg (nums (1) Ln)) (by simp) (g := gg) rfl).2; have h2 := zt5.1; omega
  have dt5_gw : t5 ≠ gw := by have h1 := (S21.out.lt (r := ri gw Ln cgw (L.map (.int .i64))) (by simp) (g := gw) rfl).2; have h2 := zt5.1; omega
  have bt5 : w.heap.size + 1 ≤ t5 := by have h1 := World.block_lt_of_cell? _ _ (S21.out.cell (w.heap.size, 4, .slice DT mT rT) (.tail _ (.tail _ (.tail _ (.tail _ (.head _)))))).2; have h2 := zt5.1; simp at h1; (try simp at h2); omega
  have qt5 : w.heap.size ≤ t5 := Nat.le_trans S21.out.low.size zt5.1
  have S22 := Lib.hid ((S21.out.quiet hb).own (ri t5 np np (zp.map (.int .i64))) (own_low hown S21.out.low.size))
  clear hb hown zt5 S21
  go_wp2_with fail
  refine (levelsI_any _ _ _ _ _ (own_IsTs (S22.out.row (ri t4 nT nT (zT.map (.int .i64))) (by simp)) (S22.out.row (rPump u4 mT mT (flatPump vT)) (by simp))) HNT.out HQT.out _ (show IsIs _ _ _ _ _ from ⟨HLp.out, Nat.le_refl _, (own_hasv (S22.out.row (ri t5 np np (zp.map (.int .i64))) (by simp)))⟩) HNp.out L x HA.out Ln HLn.out).mono ?_
  rintro e w19 ⟨gh, cgh, rfl, hown, hb⟩
  have zgh := hown.lt gh rfl
  have dgh_t5 : gh ≠ t5 := by have h1 := (S22.out.lt (r := ri t5 np np (zp.map (.int .i64))) (by simp) (g := t5) rfl).2; have h2 := zgh.1; omega
  have dgh_u4 : gh ≠ u4 := by have h1 := (S22.out.lt (r := rPump u4 mT mT (flatPump vT)) (by simp) (g := u4) rfl).2; have h2 := zgh.1; omega
  have dgh_t4 : gh ≠ t4 := by have h1 := (S22.out.lt (r := ri t4 nT nT (zT.map (.int .i64))) (by simp) (g := t4) rfl).2; have h2 := zgh.1; omega
  have dgh_gg : gh ≠ gg := by have h1 := (S22.out.lt (r := ri gg Ln cgg (nums (1) Ln)) (by simp) (g := gg) rfl).2; have h2 := zgh.1; omega
  have dgh_gw : gh ≠ gw := by have h1 := (S22.out.lt (r := ri gw Ln cgw (L.map (.int .i64))) (by simp) (g := gw) rfl).2; have h2 := zgh.1; omega
  have bgh : w.heap.size + 1 ≤ gh := by have h1 := World.block_lt_of_cell? _ _ (S22.out.cell (w.heap.size, 4, .slice DT mT rT) (.tail _ (.tail _ (.tail _ (.tail _ (.head _)))))).2; have h2 := zgh.1; simp at h1; (try simp at h2); omega
  have qgh : w.heap.size ≤ gh := Nat.le_trans S22.out.low.size zgh.1
  have S23 := Lib.hid ((S22.out.quiet hb).own (ri gh Ln cgh (L.map (.int .i64))) (own_low hown S22.out.low.size))
  clear hb hown zgh S22
  have S24 := Lib.hid (S23.out.sub (rows' := [ri gh Ln cgh (L.map (.int .i64)), ri gg Ln cgg (nums (1) Ln), ri gw Ln cgw (L.map (.int .i64))]) (by simp))
  clear S23
  clear dt4_gg dt4_gw du4_gg du4_gw hnet4 dt5_u4 dt5_t4 dt5_gg dt5_gw dgh_t5 dgh_u4 dgh_t4
  go_wp2_with fail
  refine (eqI_same _ _ Ln _ _ _ _ L _ HLn.out (by unfold maxLen; omega) (own_hasv (S24.out.row (ri gh Ln cgh (L.map (.int .i64))) (by simp))) (own_hasv (S24.out.row (ri gw Ln cgw (L.map (.int .i64))) (by simp)))).mono ?_
  rintro e w20 ⟨rfl, hD⟩
  have S25 := Lib.hid (S24.out.drawn hD)
  clear hD S24
  go_wp2_with fail
  refine (heldI_any _ Ln cgg _ 1 _ (by omega) (by omega) (own_hasv (S25.out.row (ri gg Ln cgg (nums (1) Ln)) (by simp)))).mono ?_
  rintro e w21 ⟨rfl, rfl⟩
  go_wp2_with fail
  go_ret
  exact ⟨rfl, S25.out.low⟩
end Go.Proofs.Ytdjoiodkmanacaa.fnExactLevelsWith
