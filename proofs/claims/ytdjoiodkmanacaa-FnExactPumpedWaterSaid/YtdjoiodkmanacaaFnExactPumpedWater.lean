/- PumpedWater answers as its model does, at every task and plan; it writes into no argument. -/
import Derived.Test.YtdjoiodkmanacaaPuJ
import Derived.Test.YtdjoiodkmanacaaPuT
import Derived.Test.YtdjoiodkmanacaaIntX
import Derived.Test.YtdjoiodkmanacaaSt0
import Derived.OpenShut
import Derived.ShutString
import Derived.ChangeOld
import Derived.WalkLawsBesides
import Derived.Lib.SmallJoins
import Derived.Deep.RegionHeld3
namespace Go.Proofs.Ytdjoiodkmanacaa.fnExactPumpedWater
open Go.ChangeShapes Go.WideShapes Go.ChangeAt Go.RowKit
open Go.ChangeMaps (open_string shut_string)
set_option linter.unusedVariables false
set_option linter.unusedSimpArgs false

abbrev rPump (g n c : Nat) (xs : List Value) : RowOf := ⟨69, 3, .slice (some ⟨g, 0, none⟩) n c, n, xs⟩
abbrev ri (g n c : Nat) (xs : List Value) : RowOf := ⟨3, 1, .slice (some ⟨g, 0, none⟩) n c, n, xs⟩

set_option maxRecDepth 100000 in
set_option maxHeartbeats 4000000 in
theorem walk (aT bT cT : Int) (AT : Option Addr) (nT qT : Nat) (zT : List Int) (DT : Option Addr) (mT rT : Nat) (vT : List TPump) (Ap : Option Addr) (np cp : Nat) (zp : List Int) (w : World) (hIT : IsInts .i64 w AT nT zT) (hnT : vT.length = mT) (hmT : mT ≤ maxLen) (hhT : Has w w.heap.size DT (flatPump vT)) (hIp : IsInts .i64 w Ap np zp)  :
    Calls Try.prog 12 #[.agg #[.int .i64 aT, .int .i64 bT, .int .i64 cT, .slice AT nT qT, .slice DT mT rT], .slice Ap np cp] w fun e w' => e = .returned (.bool true) ∧ Below w.heap.size w w' := by
  have HLp : Hid (zp.length = np) := Lib.hid hIp.1
  have IVp := Lib.hid (fun W (hb : Below w.heap.size w W) => hIp.2.2.2.below hb)
  have hMp : np ≤ 9223372036854775807 := Nat.le_trans hIp.2.1 (by unfold maxLen; omega)
  have iTT : IsTs w w.heap.size AT nT zT DT mT vT := ⟨Nat.le_refl _, ⟨hIT.1, Nat.le_refl _, hIT.2.2.2⟩, ⟨hnT, Nat.le_refl _, hhT⟩⟩
  have ITT := Lib.hid (fun W (hb : Below w.heap.size w W) => iTT.below hb (Nat.le_refl _))
  have HMT := Lib.hid hIT.2.1
  have HPT := Lib.hid hmT
  obtain ⟨z, x, hA⟩ := numA_ex (waterU ⟨aT, bT, cT, zT, vT⟩ zp zp.length) ⟨aT, bT, cT, zT, vT⟩ zp
  have HA := Lib.hid hA
  have hzz : (z != z) = false := by simp
  have hxx : (x != x) = false := by simp
  clear hA
  clear hIT hnT hmT hhT iTT
  clear hIp
  go_enter Try.func12, Try.ntmps12
  have S0 : Hid (St w [(w.heap.size, 0, .int .i64 aT), (w.heap.size, 1, .int .i64 bT), (w.heap.size, 2, .int .i64 cT), (w.heap.size, 3, .slice AT nT qT), (w.heap.size, 4, .slice DT mT rT)] [] (World.alloc w (.cells #[.int .i64 aT, .int .i64 bT, .int .i64 cT, .slice AT nT qT, .slice DT mT rT] 48))) := Lib.hid (by
    have k0 := ((St.start w)).quiet (Below.alloc (Below.refl _ w) (Nat.le_refl _) (.cells #[.int .i64 aT, .int .i64 bT, .int .i64 cT, .slice AT nT qT, .slice DT mT rT] 48))
    have j0 := k0.cells (ds := [(w.heap.size, 0, .int .i64 aT), (w.heap.size, 1, .int .i64 bT), (w.heap.size, 2, .int .i64 cT), (w.heap.size, 3, .slice AT nT qT), (w.heap.size, 4, .slice DT mT rT)]) (fun p hp => by
      simp only [List.mem_cons, List.not_mem_nil, or_false] at hp
      rcases hp with rfl | rfl | rfl | rfl | rfl
      · exact ⟨by omega, by rw [sNew]; rfl⟩
      · exact ⟨by omega, by rw [sNew]; rfl⟩
      · exact ⟨by omega, by rw [sNew]; rfl⟩
      · exact ⟨by omega, by rw [sNew]; rfl⟩
      · exact ⟨by omega, by rw [sNew]; rfl⟩)
    exact j0)
  by_cases bigp : 1048576 < np
  · go_wp2_with fail
    go_ret
    exact ⟨rfl, S0.out.low⟩
  have HNp : Hid (np ≤ 1048576) := Lib.hid (by omega)
  obtain ⟨leftT, l0T, l1T, lfT, szT⟩ := szT_is aT bT cT AT nT qT DT mT rT HMT.out HPT.out
  have SZT := Lib.hid szT
  clear szT
  have cc0 := (S0.out.cell (w.heap.size, 0, .int .i64 aT) (by simp)).2
  have cc1 := (S0.out.cell (w.heap.size, 1, .int .i64 bT) (by simp)).2
  have cc2 := (S0.out.cell (w.heap.size, 2, .int .i64 cT) (by simp)).2
  have cc3 := (S0.out.cell (w.heap.size, 3, .slice AT nT qT) (by simp)).2
  have cc4 := (S0.out.cell (w.heap.size, 4, .slice DT mT rT) (by simp)).2
  go_wp2_with fail
  refine (SZT.out _).mono ?_
  rintro e w1 ⟨rfl, hb⟩
  have S1 := Lib.hid (S0.out.quiet hb)
  clear cc0 cc1 cc2 cc3 cc4
  clear hb S0
  clear SZT
  have cc0 := (S1.out.cell (w.heap.size, 0, .int .i64 aT) (by simp)).2
  have cc1 := (S1.out.cell (w.heap.size, 1, .int .i64 bT) (by simp)).2
  have cc2 := (S1.out.cell (w.heap.size, 2, .int .i64 cT) (by simp)).2
  have cc3 := (S1.out.cell (w.heap.size, 3, .slice AT nT qT) (by simp)).2
  have cc4 := (S1.out.cell (w.heap.size, 4, .slice DT mT rT) (by simp)).2
  by_cases negT : leftT < 0
  · go_wp2_with fail
    go_ret
    exact ⟨rfl, S1.out.low⟩
  clear cc0 cc1 cc2 cc3 cc4
  have HNT : Hid (nT ≤ 1048576) := Lib.hid (by have := lfT (by omega); omega)
  have HQT : Hid (mT ≤ 1048576) := Lib.hid (by have := lfT (by omega); omega)
  have cc0 := (S1.out.cell (w.heap.size, 0, .int .i64 aT) (by simp)).2
  have cc1 := (S1.out.cell (w.heap.size, 1, .int .i64 bT) (by simp)).2
  have cc2 := (S1.out.cell (w.heap.size, 2, .int .i64 cT) (by simp)).2
  have cc3 := (S1.out.cell (w.heap.size, 3, .slice AT nT qT) (by simp)).2
  have cc4 := (S1.out.cell (w.heap.size, 4, .slice DT mT rT) (by simp)).2
  go_wp2_with fail
  refine (toT_any aT bT cT qT rT (ITT.out _ S1.out.low) HNT.out HQT.out).mono ?_
  rintro e w2 ⟨t1, u1, rfl, hnet1, hown, hown2, hb⟩
  have zt1 := hown.lt t1 rfl
  have zu1 := hown2.lt u1 rfl
  have bt1 : w.heap.size + 1 ≤ t1 := by have h1 := World.block_lt_of_cell? _ _ cc4; have h2 := zt1.1; simp at h1; (try simp at h2); omega
  have qt1q : w.heap.size ≤ t1 := Nat.le_trans S1.out.low.size zt1.1
  have bu1 : w.heap.size + 1 ≤ u1 := by have h1 := World.block_lt_of_cell? _ _ cc4; have h2 := zu1.1; simp at h1; (try simp at h2); omega
  have qu1q : w.heap.size ≤ u1 := Nat.le_trans S1.out.low.size zu1.1
  have S2 := Lib.hid (((S1.out.quiet hb).own (ri t1 nT nT (zT.map (.int .i64))) (own_low hown S1.out.low.size)).own (rPump u1 mT mT (flatPump vT)) (own_low hown2 S1.out.low.size))
  clear cc0 cc1 cc2 cc3 cc4
  clear hb hown hown2 zt1 zu1 S1
  have cc0 := (S2.out.cell (w.heap.size, 0, .int .i64 aT) (by simp)).2
  have cc1 := (S2.out.cell (w.heap.size, 1, .int .i64 bT) (by simp)).2
  have cc2 := (S2.out.cell (w.heap.size, 2, .int .i64 cT) (by simp)).2
  have cc3 := (S2.out.cell (w.heap.size, 3, .slice AT nT qT) (by simp)).2
  have cc4 := (S2.out.cell (w.heap.size, 4, .slice DT mT rT) (by simp)).2
  go_wp2_with fail
  refine (toI_ex Ap np cp w.heap.size zp _ HLp.out HNp.out S2.out.low.size (IVp.out _ S2.out.low)).mono ?_
  rintro e w3 ⟨t2, rfl, hown, hb⟩
  have zt2 := hown.lt t2 rfl
  have dt2_u1 : t2 ≠ u1 := by have h1 := (S2.out.lt (r := rPump u1 mT mT (flatPump vT)) (by simp) (g := u1) rfl).2; have h2 := zt2.1; omega
  have dt2_t1 : t2 ≠ t1 := by have h1 := (S2.out.lt (r := ri t1 nT nT (zT.map (.int .i64))) (by simp) (g := t1) rfl).2; have h2 := zt2.1; omega
  have bt2 : w.heap.size + 1 ≤ t2 := by have h1 := World.block_lt_of_cell? _ _ cc4; have h2 := zt2.1; simp at h1; (try simp at h2); omega
  have qt2 : w.heap.size ≤ t2 := Nat.le_trans S2.out.low.size zt2.1
  have S3 := Lib.hid ((S2.out.quiet hb).own (ri t2 np np (zp.map (.int .i64))) (own_low hown S2.out.low.size))
  clear cc0 cc1 cc2 cc3 cc4
  clear hb hown zt2 S2
  have cc0 := (S3.out.cell (w.heap.size, 0, .int .i64 aT) (by simp)).2
  have cc1 := (S3.out.cell (w.heap.size, 1, .int .i64 bT) (by simp)).2
  have cc2 := (S3.out.cell (w.heap.size, 2, .int .i64 cT) (by simp)).2
  have cc3 := (S3.out.cell (w.heap.size, 3, .slice AT nT qT) (by simp)).2
  have cc4 := (S3.out.cell (w.heap.size, 4, .slice DT mT rT) (by simp)).2
  go_wp2_with fail
  refine (waterS_any _ _ _ _ _ (own_IsTs (S3.out.row (ri t1 nT nT (zT.map (.int .i64))) (by simp)) (S3.out.row (rPump u1 mT mT (flatPump vT)) (by simp))) HNT.out HQT.out _ (show IsIs _ _ _ _ _ from ⟨HLp.out, Nat.le_refl _, (own_hasv (S3.out.row (ri t2 np np (zp.map (.int .i64))) (by simp)))⟩) HNp.out z x HA.out).mono ?_
  rintro e w4 ⟨rfl, hb⟩
  have S4 := Lib.hid (S3.out.quiet hb)
  clear cc0 cc1 cc2 cc3 cc4
  clear hb S3
  have S5 := Lib.hid (S4.out.sub (rows' := []) (by simp))
  clear S4
  have cc0 := (S5.out.cell (w.heap.size, 0, .int .i64 aT) (by simp)).2
  have cc1 := (S5.out.cell (w.heap.size, 1, .int .i64 bT) (by simp)).2
  have cc2 := (S5.out.cell (w.heap.size, 2, .int .i64 cT) (by simp)).2
  have cc3 := (S5.out.cell (w.heap.size, 3, .slice AT nT qT) (by simp)).2
  have cc4 := (S5.out.cell (w.heap.size, 4, .slice DT mT rT) (by simp)).2
  go_wp2_with fail
  refine (toT_any aT bT cT qT rT (ITT.out _ S5.out.low) HNT.out HQT.out).mono ?_
  rintro e w5 ⟨xfT, xpT, rfl, hnexfT, hown, hown2, hb⟩
  have zxfT := hown.lt xfT rfl
  have zxpT := hown2.lt xpT rfl
  have bxfT : w.heap.size + 1 ≤ xfT := by have h1 := World.block_lt_of_cell? _ _ cc4; have h2 := zxfT.1; simp at h1; (try simp at h2); omega
  have qxfTq : w.heap.size ≤ xfT := Nat.le_trans S5.out.low.size zxfT.1
  have bxpT : w.heap.size + 1 ≤ xpT := by have h1 := World.block_lt_of_cell? _ _ cc4; have h2 := zxpT.1; simp at h1; (try simp at h2); omega
  have qxpTq : w.heap.size ≤ xpT := Nat.le_trans S5.out.low.size zxpT.1
  have S6 := Lib.hid (((S5.out.quiet hb).own (ri xfT nT nT (zT.map (.int .i64))) (own_low hown S5.out.low.size)).own (rPump xpT mT mT (flatPump vT)) (own_low hown2 S5.out.low.size))
  clear cc0 cc1 cc2 cc3 cc4
  clear hb hown hown2 zxfT zxpT S5
  have zzw5 : w.heap.size ≤ w5.heap.size := S6.out.low.size
  have zrw5 : xfT < w5.heap.size ∧ xpT < w5.heap.size := ⟨(S6.out.lt (r := ri xfT nT nT (zT.map (.int .i64))) (by simp) (g := xfT) rfl).2, (S6.out.lt (r := rPump xpT mT mT (flatPump vT)) (by simp) (g := xpT) rfl).2⟩
  have S7 := Lib.hid ((S6.out.quiet (Below.alloc (Below.refl _ w5) (Nat.le_refl _) (.cells #[.int .i64 aT, .int .i64 bT, .int .i64 cT, .slice (some ⟨xfT, 0, none⟩) nT nT, .slice (some ⟨xpT, 0, none⟩) mT mT] 27))).cells (ds := [(w5.heap.size, 0, .int .i64 aT), (w5.heap.size, 1, .int .i64 bT), (w5.heap.size, 2, .int .i64 cT), (w5.heap.size, 3, .slice (some ⟨xfT, 0, none⟩) nT nT), (w5.heap.size, 4, .slice (some ⟨xpT, 0, none⟩) mT mT)]) (fun p hp => by
      simp only [List.mem_cons, List.not_mem_nil, or_false] at hp
      rcases hp with rfl | rfl | rfl | rfl | rfl
      · exact ⟨zzw5, by rw [sNew]; rfl⟩
      · exact ⟨zzw5, by rw [sNew]; rfl⟩
      · exact ⟨zzw5, by rw [sNew]; rfl⟩
      · exact ⟨zzw5, by rw [sNew]; rfl⟩
      · exact ⟨zzw5, by rw [sNew]; rfl⟩))
  obtain ⟨bxT, hbxT⟩ : ∃ g, w5.heap.size = g := ⟨_, rfl⟩
  rw [hbxT] at S7 zzw5 zrw5
  obtain ⟨zrw5a, zrw5b⟩ := zrw5
  clear S6
  have cc0 := (S7.out.cell (bxT, 0, .int .i64 aT) (by simp)).2
  have cc1 := (S7.out.cell (bxT, 1, .int .i64 bT) (by simp)).2
  have cc2 := (S7.out.cell (bxT, 2, .int .i64 cT) (by simp)).2
  have cc3 := (S7.out.cell (bxT, 3, .slice (some ⟨xfT, 0, none⟩) nT nT) (by simp)).2
  have cc4 := (S7.out.cell (bxT, 4, .slice (some ⟨xpT, 0, none⟩) mT mT) (by simp)).2
  have cc5 := (S7.out.cell (w.heap.size, 0, .int .i64 aT) (by simp)).2
  have cc6 := (S7.out.cell (w.heap.size, 1, .int .i64 bT) (by simp)).2
  have cc7 := (S7.out.cell (w.heap.size, 2, .int .i64 cT) (by simp)).2
  have cc8 := (S7.out.cell (w.heap.size, 3, .slice AT nT qT) (by simp)).2
  have cc9 := (S7.out.cell (w.heap.size, 4, .slice DT mT rT) (by simp)).2
  go_wp2_with fail
  refine (toI_ex Ap np cp w.heap.size zp _ HLp.out HNp.out S7.out.low.size (IVp.out _ S7.out.low)).mono ?_
  rintro e w6 ⟨xp, rfl, hown, hb⟩
  have zxp := hown.lt xp rfl
  have dxp_xpT : xp ≠ xpT := by have h1 := (S7.out.lt (r := rPump xpT mT mT (flatPump vT)) (by simp) (g := xpT) rfl).2; have h2 := zxp.1; omega
  have dxp_xfT : xp ≠ xfT := by have h1 := (S7.out.lt (r := ri xfT nT nT (zT.map (.int .i64))) (by simp) (g := xfT) rfl).2; have h2 := zxp.1; omega
  have bxp : w.heap.size + 1 ≤ xp := by have h1 := World.block_lt_of_cell? _ _ cc9; have h2 := zxp.1; simp at h1; (try simp at h2); omega
  have qxp : w.heap.size ≤ xp := Nat.le_trans S7.out.low.size zxp.1
  have S8 := Lib.hid ((S7.out.quiet hb).own (ri xp np np (zp.map (.int .i64))) (own_low hown S7.out.low.size))
  clear cc0 cc1 cc2 cc3 cc4 cc5 cc6 cc7 cc8 cc9
  clear hb hown zxp S7
  have cc0 := (S8.out.cell (bxT, 0, .int .i64 aT) (by simp)).2
  have cc1 := (S8.out.cell (bxT, 1, .int .i64 bT) (by simp)).2
  have cc2 := (S8.out.cell (bxT, 2, .int .i64 cT) (by simp)).2
  have cc3 := (S8.out.cell (bxT, 3, .slice (some ⟨xfT, 0, none⟩) nT nT) (by simp)).2
  have cc4 := (S8.out.cell (bxT, 4, .slice (some ⟨xpT, 0, none⟩) mT mT) (by simp)).2
  have cc5 := (S8.out.cell (w.heap.size, 0, .int .i64 aT) (by simp)).2
  have cc6 := (S8.out.cell (w.heap.size, 1, .int .i64 bT) (by simp)).2
  have cc7 := (S8.out.cell (w.heap.size, 2, .int .i64 cT) (by simp)).2
  have cc8 := (S8.out.cell (w.heap.size, 3, .slice AT nT qT) (by simp)).2
  have cc9 := (S8.out.cell (w.heap.size, 4, .slice DT mT rT) (by simp)).2
  go_wp2_with fail
  refine (waterI_any _ _ _ _ _ (own_IsTs (S8.out.row (ri xfT nT nT (zT.map (.int .i64))) (by simp)) (S8.out.row (rPump xpT mT mT (flatPump vT)) (by simp))) HNT.out HQT.out _ (show IsIs _ _ _ _ _ from ⟨HLp.out, Nat.le_refl _, (own_hasv (S8.out.row (ri xp np np (zp.map (.int .i64))) (by simp)))⟩) HNp.out z x HA.out).mono ?_
  rintro e w7 ⟨rfl, hb⟩
  have S9 := Lib.hid (S8.out.quiet hb)
  clear cc0 cc1 cc2 cc3 cc4 cc5 cc6 cc7 cc8 cc9
  clear hb S8
  have KEEP := Lib.hid (fun W (hb : Below w7.heap.size w7 W) => (⟨hb, ((S9.out.quiet hb).cell (bxT, 0, .int .i64 aT) (by simp)).2, ((S9.out.quiet hb).cell (bxT, 1, .int .i64 bT) (by simp)).2, ((S9.out.quiet hb).cell (bxT, 2, .int .i64 cT) (by simp)).2, ((S9.out.quiet hb).cell (bxT, 3, .slice (some ⟨xfT, 0, none⟩) nT nT) (by simp)).2, ((S9.out.quiet hb).cell (bxT, 4, .slice (some ⟨xpT, 0, none⟩) mT mT) (by simp)).2, ((S9.out.quiet hb).cell (w.heap.size, 0, .int .i64 aT) (by simp)).2, ((S9.out.quiet hb).cell (w.heap.size, 1, .int .i64 bT) (by simp)).2, ((S9.out.quiet hb).cell (w.heap.size, 2, .int .i64 cT) (by simp)).2, ((S9.out.quiet hb).cell (w.heap.size, 3, .slice AT nT qT) (by simp)).2, ((S9.out.quiet hb).cell (w.heap.size, 4, .slice DT mT rT) (by simp)).2⟩ : Below w7.heap.size w7 W ∧ W.cell? ⟨bxT, 0, none⟩ = some (.int .i64 aT) ∧ W.cell? ⟨bxT, 1, none⟩ = some (.int .i64 bT) ∧ W.cell? ⟨bxT, 2, none⟩ = some (.int .i64 cT) ∧ W.cell? ⟨bxT, 3, none⟩ = some (.slice (some ⟨xfT, 0, none⟩) nT nT) ∧ W.cell? ⟨bxT, 4, none⟩ = some (.slice (some ⟨xpT, 0, none⟩) mT mT) ∧ W.cell? ⟨w.heap.size, 0, none⟩ = some (.int .i64 aT) ∧ W.cell? ⟨w.heap.size, 1, none⟩ = some (.int .i64 bT) ∧ W.cell? ⟨w.heap.size, 2, none⟩ = some (.int .i64 cT) ∧ W.cell? ⟨w.heap.size, 3, none⟩ = some (.slice AT nT qT) ∧ W.cell? ⟨w.heap.size, 4, none⟩ = some (.slice DT mT rT)))
  have KD := Lib.hid (KEEP.out w7.drew ((Drawn.one w7 1).below _))
  have KT := Lib.hid (fun W W' (hb : Below w7.heap.size w7 W) (hb' : Below W.heap.size W W') => KEEP.out W' (hb.trans (hb'.mono hb.size)))
  have IA := Lib.hid (fun W (hb : Below w7.heap.size w7 W) => ITT.out W (S9.out.quiet hb).low)
  have IX := Lib.hid (fun W (hb : Below w7.heap.size w7 W) => own_IsTs ((S9.out.quiet hb).row (ri xfT nT nT (zT.map (.int .i64))) (by simp)) ((S9.out.quiet hb).row (rPump xpT mT mT (flatPump vT)) (by simp)))
  have cc0 := (S9.out.cell (bxT, 0, .int .i64 aT) (by simp)).2
  have cc1 := (S9.out.cell (bxT, 1, .int .i64 bT) (by simp)).2
  have cc2 := (S9.out.cell (bxT, 2, .int .i64 cT) (by simp)).2
  have cc3 := (S9.out.cell (bxT, 3, .slice (some ⟨xfT, 0, none⟩) nT nT) (by simp)).2
  have cc4 := (S9.out.cell (bxT, 4, .slice (some ⟨xpT, 0, none⟩) mT mT) (by simp)).2
  have cc5 := (S9.out.cell (w.heap.size, 0, .int .i64 aT) (by simp)).2
  have cc6 := (S9.out.cell (w.heap.size, 1, .int .i64 bT) (by simp)).2
  have cc7 := (S9.out.cell (w.heap.size, 2, .int .i64 cT) (by simp)).2
  have cc8 := (S9.out.cell (w.heap.size, 3, .slice AT nT qT) (by simp)).2
  have cc9 := (S9.out.cell (w.heap.size, 4, .slice DT mT rT) (by simp)).2
  go_wp2_with fail
  clear cc0 cc1 cc2 cc3 cc4 cc5 cc6 cc7 cc8 cc9
  go_region_held3 (fun W => Below w7.heap.size w7 W ∧ W.cell? ⟨bxT, 0, none⟩ = some (.int .i64 aT) ∧ W.cell? ⟨bxT, 1, none⟩ = some (.int .i64 bT) ∧ W.cell? ⟨bxT, 2, none⟩ = some (.int .i64 cT) ∧ W.cell? ⟨bxT, 3, none⟩ = some (.slice (some ⟨xfT, 0, none⟩) nT nT) ∧ W.cell? ⟨bxT, 4, none⟩ = some (.slice (some ⟨xpT, 0, none⟩) mT mT) ∧ W.cell? ⟨w.heap.size, 0, none⟩ = some (.int .i64 aT) ∧ W.cell? ⟨w.heap.size, 1, none⟩ = some (.int .i64 bT) ∧ W.cell? ⟨w.heap.size, 2, none⟩ = some (.int .i64 cT) ∧ W.cell? ⟨w.heap.size, 3, none⟩ = some (.slice AT nT qT) ∧ W.cell? ⟨w.heap.size, 4, none⟩ = some (.slice DT mT rT))
    (first | exact KD.out | exact KT.out _ _ KD.out.1 hb6 | exact KT.out _ _ (KD.out.1.trans (hb6.mono KD.out.1.size)) hb7)
    (first
      | (go_at_call 40; refine (toT_any aT bT cT qT rT (IA.out _ KD.out.1) HNT.out HQT.out).mono ?_; rintro e wa6 ⟨ga6, gb6, rfl, -, ho6, hp6, hb6⟩)
      | (go_at_call 41; refine (eqT_any aT bT cT nT mT nT mT (IX.out _ (KD.out.1.trans (hb6.mono KD.out.1.size))) (own_IsTs ho6 hp6) HMT.out HPT.out).mono ?_; rintro e w8 ⟨rfl, hb7⟩))
  have X6 := KD.out.1.trans (hb6.mono KD.out.1.size)
  have X7 := X6.trans (hb7.mono X6.size)
  have S10 := Lib.hid (S9.out.quiet X7)
  clear KEEP KD KT IA IX hb6 hb7 ho6 hp6 X6 X7 S9
  have cc0 := (S10.out.cell (bxT, 0, .int .i64 aT) (by simp)).2
  have cc1 := (S10.out.cell (bxT, 1, .int .i64 bT) (by simp)).2
  have cc2 := (S10.out.cell (bxT, 2, .int .i64 cT) (by simp)).2
  have cc3 := (S10.out.cell (bxT, 3, .slice (some ⟨xfT, 0, none⟩) nT nT) (by simp)).2
  have cc4 := (S10.out.cell (bxT, 4, .slice (some ⟨xpT, 0, none⟩) mT mT) (by simp)).2
  have cc5 := (S10.out.cell (w.heap.size, 0, .int .i64 aT) (by simp)).2
  have cc6 := (S10.out.cell (w.heap.size, 1, .int .i64 bT) (by simp)).2
  have cc7 := (S10.out.cell (w.heap.size, 2, .int .i64 cT) (by simp)).2
  have cc8 := (S10.out.cell (w.heap.size, 3, .slice AT nT qT) (by simp)).2
  have cc9 := (S10.out.cell (w.heap.size, 4, .slice DT mT rT) (by simp)).2
  go_wp2_with fail
  refine (toI_ex Ap np cp w.heap.size zp _ HLp.out HNp.out S10.out.low.size (IVp.out _ S10.out.low)).mono ?_
  rintro e w9 ⟨t3, rfl, hown, hb⟩
  have zt3 := hown.lt t3 rfl
  have dt3_xp : t3 ≠ xp := by have h1 := (S10.out.lt (r := ri xp np np (zp.map (.int .i64))) (by simp) (g := xp) rfl).2; have h2 := zt3.1; omega
  have dt3_xpT : t3 ≠ xpT := by have h1 := (S10.out.lt (r := rPump xpT mT mT (flatPump vT)) (by simp) (g := xpT) rfl).2; have h2 := zt3.1; omega
  have dt3_xfT : t3 ≠ xfT := by have h1 := (S10.out.lt (r := ri xfT nT nT (zT.map (.int .i64))) (by simp) (g := xfT) rfl).2; have h2 := zt3.1; omega
  have bt3 : w.heap.size + 1 ≤ t3 := by have h1 := World.block_lt_of_cell? _ _ cc9; have h2 := zt3.1; simp at h1; (try simp at h2); omega
  have qt3 : w.heap.size ≤ t3 := Nat.le_trans S10.out.low.size zt3.1
  have S11 := Lib.hid ((S10.out.quiet hb).own (ri t3 np np (zp.map (.int .i64))) (own_low hown S10.out.low.size))
  clear cc0 cc1 cc2 cc3 cc4 cc5 cc6 cc7 cc8 cc9
  clear hb hown zt3 S10
  have cc0 := (S11.out.cell (bxT, 0, .int .i64 aT) (by simp)).2
  have cc1 := (S11.out.cell (bxT, 1, .int .i64 bT) (by simp)).2
  have cc2 := (S11.out.cell (bxT, 2, .int .i64 cT) (by simp)).2
  have cc3 := (S11.out.cell (bxT, 3, .slice (some ⟨xfT, 0, none⟩) nT nT) (by simp)).2
  have cc4 := (S11.out.cell (bxT, 4, .slice (some ⟨xpT, 0, none⟩) mT mT) (by simp)).2
  have cc5 := (S11.out.cell (w.heap.size, 0, .int .i64 aT) (by simp)).2
  have cc6 := (S11.out.cell (w.heap.size, 1, .int .i64 bT) (by simp)).2
  have cc7 := (S11.out.cell (w.heap.size, 2, .int .i64 cT) (by simp)).2
  have cc8 := (S11.out.cell (w.heap.size, 3, .slice AT nT qT) (by simp)).2
  have cc9 := (S11.out.cell (w.heap.size, 4, .slice DT mT rT) (by simp)).2
  go_wp2_with fail
  refine (eqI_same _ _ np _ _ _ _ zp _ HLp.out (Nat.le_trans HNp.out (by unfold maxLen; omega)) (own_hasv (S11.out.row (ri xp np np (zp.map (.int .i64))) (by simp))) (own_hasv (S11.out.row (ri t3 np np (zp.map (.int .i64))) (by simp)))).mono ?_
  rintro e w10 ⟨rfl, hD⟩
  have S12 := Lib.hid (S11.out.drawn hD)
  clear cc0 cc1 cc2 cc3 cc4 cc5 cc6 cc7 cc8 cc9
  clear hD S11
  have S13 := Lib.hid (S12.out.sub (rows' := [ri xp np np (zp.map (.int .i64)), rPump xpT mT mT (flatPump vT), ri xfT nT nT (zT.map (.int .i64))]) (by simp))
  clear S12
  have cc0 := (S13.out.cell (bxT, 0, .int .i64 aT) (by simp)).2
  have cc1 := (S13.out.cell (bxT, 1, .int .i64 bT) (by simp)).2
  have cc2 := (S13.out.cell (bxT, 2, .int .i64 cT) (by simp)).2
  have cc3 := (S13.out.cell (bxT, 3, .slice (some ⟨xfT, 0, none⟩) nT nT) (by simp)).2
  have cc4 := (S13.out.cell (bxT, 4, .slice (some ⟨xpT, 0, none⟩) mT mT) (by simp)).2
  have cc5 := (S13.out.cell (w.heap.size, 0, .int .i64 aT) (by simp)).2
  have cc6 := (S13.out.cell (w.heap.size, 1, .int .i64 bT) (by simp)).2
  have cc7 := (S13.out.cell (w.heap.size, 2, .int .i64 cT) (by simp)).2
  have cc8 := (S13.out.cell (w.heap.size, 3, .slice AT nT qT) (by simp)).2
  have cc9 := (S13.out.cell (w.heap.size, 4, .slice DT mT rT) (by simp)).2
  go_wp2_with fail
  go_ret
  exact ⟨rfl, S13.out.low⟩
theorem own : ownKnob Try.prog.godebug = none := by kernel_rfl
theorem laidOut : laidOutB Try.prog = true := by kernel_rfl

set_option maxRecDepth 100000 in
theorem lifted (os : Os) (started : os.Started) (H : Type) (enc : TypeId × Value → H) :
    ReturnsInHanded {} Try.checked os 12 .any (Rows.fnExactPumpedWaterSpec.pre6 enc Try.prog Try.f12 Rows.fnExactPumpedWaterRow.domain false) (Rows.fnExactPumpedWaterSpec.post enc Try.prog Try.f12 false true false false) := by
  refine returnsInHanded_of_change (C := Try.checked) own started (by kernel_rfl) Try.func12
    (ChangeSpec.witness6 (enc := enc) (C := Try.checked) false ⟨#[], #[.agg #[.int .i64 0, .int .i64 0, .int .i64 0, .slice none 0 0, .slice none 0 0], .slice none 0 0], []⟩ 8 (by kernel_rfl) (by kernel_rfl) (by kernel_rfl) (by kernel_rfl)) ?_
  intro W base args ds gs before hval0 hW hcnd _
  have hval : ∀ (j : Nat) t v, Try.f12.params[j]? = some t → args[j]? = some v → Value.okWide Try.prog W .any base t v := hval0
  have hW' := hW
  obtain ⟨p, q, hA0, hV, rfl, hfz, hnd⟩ := hW
  have hA : DataW.TrodAll enc Try.prog W 0 (fun _ => true) true Try.f12.params.toList args.toList ds p := hA0
  rw [Try.params12] at hA hval
  obtain ⟨v0, vs0, d0, ds0, p0, q0, hargs, rfl, rfl, h0, r0⟩ := trodAll_cons hA
  obtain ⟨v1, vs1, d1, ds1, p1, q1, rfl, rfl, rfl, h1, r1⟩ := trodAll_cons r0
  obtain ⟨rfl, rfl, rfl⟩ := trodAll_nil r1
  obtain rfl : args = #[v0, v1] := by cases args; simp_all
  obtain ⟨rfl, rfl⟩ := trodVars_none hV
  have k0 := h0
  have lt0 : ∀ x ∈ p0, x.block < W.heap.size := by obtain ⟨m, hm⟩ := k0; exact DataW.trod_lt m _ _ _ hm
  obtain ⟨x0a, x0b, x0c, a0, len0, cap0, z0, b0, zen0, zap0, y0, rfl, w0, hl0, hm0, hh0⟩ := open_task Try.underlying48 (by kernel_rfl) (by kernel_rfl) Try.underlying3 Try.underlying3 Try.underlying3 Try.underlying24 Try.underlying3 Try.underlying46 Try.underlying103 (by kernel_rfl) (by kernel_rfl) (by kernel_rfl) Try.underlying3 Try.underlying3 Try.underlying3 (hval 0 48 v0 rfl rfl) h0
  obtain ⟨a1, len1, cap1, rfl⟩ := okWide_slice Try.underlying24 (hval 1 24 v1 rfl rfl)
  have k1 := h1
  have lt1 : ∀ x ∈ p1, x.block < W.heap.size := by obtain ⟨m, hm⟩ := k1; exact DataW.trod_lt m _ _ _ hm
  obtain ⟨z1, w1⟩ : ∃ zs, IsInts .i64 W a1 len1 zs := by
    obtain ⟨fuel, hf⟩ := h1
    rcases open_ints Try.underlying24 Try.underlying3 (by kernel_rfl) hf with ⟨hcs, _⟩ | ⟨x, l, c, zs, hcs, _, hl, hm, hz, _, hcell, hwz⟩
    · simp [Value.cells] at hcs
      obtain ⟨rfl, rfl, rfl⟩ := hcs
      exact ⟨[], isInts_nil _ W⟩
    · simp [Value.cells] at hcs
      obtain ⟨rfl, rfl, rfl⟩ := hcs
      exact ⟨_, isInts_some hl hm (by simpa using hz) hcell hwz⟩
  clear hA0 hval0
  refine (walk x0a x0b x0c a0 len0 cap0 z0 b0 zen0 zap0 y0 a1 len1 cap1 z1 W w0 hl0 hm0 hh0 w1).mono fun e W' ⟨he, bel⟩ => ?_
  subst he
  exact ⟨_, rfl, _, _, _, [], _, [], hW', trodAll_mk1 (shut_bool Try.underlying4 _), (trodAll_cons_mk (Below.trod laidOut (by kernel_rfl) (of_decide_eq_true (by kernel_rfl)) k0 bel lt0) (trodAll_cons_mk (Below.trod laidOut (by kernel_rfl) (of_decide_eq_true (by kernel_rfl)) k1 bel lt1) trodAll_mk0)), rfl, bel.frame _, fun h => by cases h⟩

theorem over : Rows.fnExactPumpedWaterRow.holds Try.pinned (OpenSpec.ofChange Rows.fnExactPumpedWaterSpec) :=
  OpenClaim.holds_of_wide 12 Try.f12 rfl rfl rfl rfl rfl rfl rfl ⟨rfl, rfl, rfl, rfl, rfl⟩ rfl rfl rfl rfl rfl (by kernel_rfl) Try.func12 (by kernel_rfl)
    (of_decide_eq_true (by kernel_rfl)) (by unfold Func.isWrapper; first | (rw [if_pos (by decide +kernel)]; kernel_rfl) | (rw [if_neg (by decide +kernel)]; exact ⟨rfl, rfl⟩))
    (fun os started H enc _ => lifted os started H enc)

/-- The statement. -/
theorem proved : Rows.FnExactPumpedWaterSaid := over
end Go.Proofs.Ytdjoiodkmanacaa.fnExactPumpedWater
