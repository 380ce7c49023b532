/- IsPumpTask answers as its model does, at every task; it writes into no argument. -/
import Derived.Test.YtdjoiodkmanacaaPuC
import Derived.Test.YtdjoiodkmanacaaPuT
import Derived.Test.YtdjoiodkmanacaaSt0
import Derived.OpenShut
import Derived.ShutString
import Derived.ChangeOld
import Derived.WalkLawsBesides
import Derived.Lib.SmallJoins
import Derived.Deep.RegionHeld3
namespace Go.Proofs.Ytdjoiodkmanacaa.fnExactIsPumpTask
open Go.ChangeShapes Go.WideShapes Go.ChangeAt Go.RowKit
open Go.ChangeMaps (open_string shut_string)
set_option linter.unusedVariables false
set_option linter.unusedSimpArgs false

abbrev rPump (g n c : Nat) (xs : List Value) : RowOf := ⟨69, 3, .slice (some ⟨g, 0, none⟩) n c, n, xs⟩
abbrev ri (g n c : Nat) (xs : List Value) : RowOf := ⟨3, 1, .slice (some ⟨g, 0, none⟩) n c, n, xs⟩

set_option maxRecDepth 100000 in
set_option maxHeartbeats 4000000 in
theorem walk (aT bT cT : Int) (AT : Option Addr) (nT qT : Nat) (zT : List Int) (DT : Option Addr) (mT rT : Nat) (vT : List TPump) (w : World) (hIT : IsInts .i64 w AT nT zT) (hnT : vT.length = mT) (hmT : mT ≤ maxLen) (hhT : Has w w.heap.size DT (flatPump vT))  :
    Calls Try.prog 5 #[.agg #[.int .i64 aT, .int .i64 bT, .int .i64 cT, .slice AT nT qT, .slice DT mT rT]] w fun e w' => e = .returned (.bool true) ∧ Below w.heap.size w w' := by
  have iTT : IsTs w w.heap.size AT nT zT DT mT vT := ⟨Nat.le_refl _, ⟨hIT.1, Nat.le_refl _, hIT.2.2.2⟩, ⟨hnT, Nat.le_refl _, hhT⟩⟩
  have ITT := Lib.hid (fun W (hb : Below w.heap.size w W) => iTT.below hb (Nat.le_refl _))
  have HMT := Lib.hid hIT.2.1
  have HPT := Lib.hid hmT
  obtain ⟨x, hx⟩ : ∃ x, gT ⟨aT, bT, cT, zT, vT⟩ = x := ⟨_, rfl⟩
  have HX := Lib.hid hx
  have hxx : (x != x) = false := by simp
  clear hx
  clear hIT hnT hmT hhT iTT
  go_enter Try.func5, Try.ntmps5
  have S0 : Hid (St w [(w.heap.size, 0, .int .i64 aT), (w.heap.size, 1, .int .i64 bT), (w.heap.size, 2, .int .i64 cT), (w.heap.size, 3, .slice AT nT qT), (w.heap.size, 4, .slice DT mT rT)] [] (World.alloc w (.cells #[.int .i64 aT, .int .i64 bT, .int .i64 cT, .slice AT nT qT, .slice DT mT rT] 48))) := Lib.hid (by
    have k0 := ((St.start w)).quiet (Below.alloc (Below.refl _ w) (Nat.le_refl _) (.cells #[.int .i64 aT, .int .i64 bT, .int .i64 cT, .slice AT nT qT, .slice DT mT rT] 48))
    have j0 := k0.cells (ds := [(w.heap.size, 0, .int .i64 aT), (w.heap.size, 1, .int .i64 bT), (w.heap.size, 2, .int .i64 cT), (w.heap.size, 3, .slice AT nT qT), (w.heap.size, 4, .slice DT mT rT)]) (fun p hp => by
      simp only [List.mem_cons, List.not_mem_nil, or_false] at hp
      rcases hp with rfl | rfl | rfl | rfl | rfl
      · exact ⟨by omega, by rw [sNew]; rfl⟩
      · exact ⟨by omega, by rw [sNew]; rfl⟩
      · exact ⟨by omega, by rw [sNew]; rfl⟩
      · exact ⟨by omega, by rw [sNew]; rfl⟩
      · exact ⟨by omega, by rw [sNew]; rfl⟩)
    exact j0)
  obtain ⟨leftT, l0T, l1T, lfT, szT⟩ := szT_is aT bT cT AT nT qT DT mT rT HMT.out HPT.out
  have SZT := Lib.hid szT
  clear szT
  have cc0 := (S0.out.cell (w.heap.size, 0, .int .i64 aT) (.head _)).2
  have cc1 := (S0.out.cell (w.heap.size, 1, .int .i64 bT) (.tail _ (.head _))).2
  have cc2 := (S0.out.cell (w.heap.size, 2, .int .i64 cT) (.tail _ (.tail _ (.head _)))).2
  have cc3 := (S0.out.cell (w.heap.size, 3, .slice AT nT qT) (.tail _ (.tail _ (.tail _ (.head _))))).2
  have cc4 := (S0.out.cell (w.heap.size, 4, .slice DT mT rT) (.tail _ (.tail _ (.tail _ (.tail _ (.head _)))))).2
  go_wp2_with fail
  refine (SZT.out _).mono ?_
  rintro e w1 ⟨rfl, hb⟩
  have S1 := Lib.hid (S0.out.quiet hb)
  clear cc0 cc1 cc2 cc3 cc4
  clear hb S0
  clear SZT
  have cc0 := (S1.out.cell (w.heap.size, 0, .int .i64 aT) (.head _)).2
  have cc1 := (S1.out.cell (w.heap.size, 1, .int .i64 bT) (.tail _ (.head _))).2
  have cc2 := (S1.out.cell (w.heap.size, 2, .int .i64 cT) (.tail _ (.tail _ (.head _)))).2
  have cc3 := (S1.out.cell (w.heap.size, 3, .slice AT nT qT) (.tail _ (.tail _ (.tail _ (.head _))))).2
  have cc4 := (S1.out.cell (w.heap.size, 4, .slice DT mT rT) (.tail _ (.tail _ (.tail _ (.tail _ (.head _)))))).2
  by_cases negT : leftT < 0
  · go_wp2_with fail
    go_ret
    exact ⟨rfl, S1.out.low⟩
  clear cc0 cc1 cc2 cc3 cc4
  have HNT : Hid (nT ≤ 1048576) := Lib.hid (by have := lfT (by omega); omega)
  have HQT : Hid (mT ≤ 1048576) := Lib.hid (by have := lfT (by omega); omega)
  have cc0 := (S1.out.cell (w.heap.size, 0, .int .i64 aT) (.head _)).2
  have cc1 := (S1.out.cell (w.heap.size, 1, .int .i64 bT) (.tail _ (.head _))).2
  have cc2 := (S1.out.cell (w.heap.size, 2, .int .i64 cT) (.tail _ (.tail _ (.head _)))).2
  have cc3 := (S1.out.cell (w.heap.size, 3, .slice AT nT qT) (.tail _ (.tail _ (.tail _ (.head _))))).2
  have cc4 := (S1.out.cell (w.heap.size, 4, .slice DT mT rT) (.tail _ (.tail _ (.tail _ (.tail _ (.head _)))))).2
  go_wp2_with fail
  refine (toT_any aT bT cT qT rT (ITT.out _ S1.out.low) HNT.out HQT.out).mono ?_
  rintro e w2 ⟨t1, u1, rfl, hnet1, hown, hown2, hb⟩
  have zt1 := hown.lt t1 rfl
  have zu1 := hown2.lt u1 rfl
  have bt1 : w.heap.size + 1 ≤ t1 := by have h1 := World.block_lt_of_cell? _ _ (S1.out.cell (w.heap.size, 4, .slice DT mT rT) (.tail _ (.tail _ (.tail _ (.tail _ (.head _)))))).2; have h2 := zt1.1; simp at h1; (try simp at h2); omega
  have qt1q : w.heap.size ≤ t1 := Nat.le_trans S1.out.low.size zt1.1
  have bu1 : w.heap.size + 1 ≤ u1 := by have h1 := World.block_lt_of_cell? _ _ (S1.out.cell (w.heap.size, 4, .slice DT mT rT) (.tail _ (.tail _ (.tail _ (.tail _ (.head _)))))).2; have h2 := zu1.1; simp at h1; (try simp at h2); omega
  have qu1q : w.heap.size ≤ u1 := Nat.le_trans S1.out.low.size zu1.1
  have S2 := Lib.hid (((S1.out.quiet hb).own (ri t1 nT nT (zT.map (.int .i64))) (own_low hown S1.out.low.size)).own (rPump u1 mT mT (flatPump vT)) (own_low hown2 S1.out.low.size))
  clear cc0 cc1 cc2 cc3 cc4
  clear hb hown hown2 zt1 zu1 S1
  go_wp2_with fail
  refine ((HX.out ▸ goodS_any _ _ _ _ _ (own_IsTs (S2.out.row (ri t1 nT nT (zT.map (.int .i64))) (by simp)) (S2.out.row (rPump u1 mT mT (flatPump vT)) (by simp))) HNT.out HQT.out)).mono ?_
  rintro e w3 ⟨rfl, hb⟩
  have S3 := Lib.hid (S2.out.quiet hb)
  clear hb S2
  have S4 := Lib.hid (S3.out.sub (rows' := []) (by simp))
  clear S3
  have cc0 := (S4.out.cell (w.heap.size, 0, .int .i64 aT) (.head _)).2
  have cc1 := (S4.out.cell (w.heap.size, 1, .int .i64 bT) (.tail _ (.head _))).2
  have cc2 := (S4.out.cell (w.heap.size, 2, .int .i64 cT) (.tail _ (.tail _ (.head _)))).2
  have cc3 := (S4.out.cell (w.heap.size, 3, .slice AT nT qT) (.tail _ (.tail _ (.tail _ (.head _))))).2
  have cc4 := (S4.out.cell (w.heap.size, 4, .slice DT mT rT) (.tail _ (.tail _ (.tail _ (.tail _ (.head _)))))).2
  go_wp2_with fail
  refine (toT_any aT bT cT qT rT (ITT.out _ S4.out.low) HNT.out HQT.out).mono ?_
  rintro e w4 ⟨xfT, xpT, rfl, hnexfT, hown, hown2, hb⟩
  have zxfT := hown.lt xfT rfl
  have zxpT := hown2.lt xpT rfl
  have bxfT : w.heap.size + 1 ≤ xfT := by have h1 := World.block_lt_of_cell? _ _ (S4.out.cell (w.heap.size, 4, .slice DT mT rT) (.tail _ (.tail _ (.tail _ (.tail _ (.head _)))))).2; have h2 := zxfT.1; simp at h1; (try simp at h2); omega
  have qxfTq : w.heap.size ≤ xfT := Nat.le_trans S4.out.low.size zxfT.1
  have bxpT : w.heap.size + 1 ≤ xpT := by have h1 := World.block_lt_of_cell? _ _ (S4.out.cell (w.heap.size, 4, .slice DT mT rT) (.tail _ (.tail _ (.tail _ (.tail _ (.head _)))))).2; have h2 := zxpT.1; simp at h1; (try simp at h2); omega
  have qxpTq : w.heap.size ≤ xpT := Nat.le_trans S4.out.low.size zxpT.1
  have S5 := Lib.hid (((S4.out.quiet hb).own (ri xfT nT nT (zT.map (.int .i64))) (own_low hown S4.out.low.size)).own (rPump xpT mT mT (flatPump vT)) (own_low hown2 S4.out.low.size))
  clear cc0 cc1 cc2 cc3 cc4
  clear hb hown hown2 zxfT zxpT S4
  have zzw4 : w.heap.size ≤ w4.heap.size := S5.out.low.size
  have zrw4 : xfT < w4.heap.size ∧ xpT < w4.heap.size := ⟨(S5.out.lt (r := ri xfT nT nT (zT.map (.int .i64))) (by simp) (g := xfT) rfl).2, (S5.out.lt (r := rPump xpT mT mT (flatPump vT)) (by simp) (g := xpT) rfl).2⟩
  have S6 := Lib.hid ((S5.out.quiet (Below.alloc (Below.refl _ w4) (Nat.le_refl _) (.cells #[.int .i64 aT, .int .i64 bT, .int .i64 cT, .slice (some ⟨xfT, 0, none⟩) nT nT, .slice (some ⟨xpT, 0, none⟩) mT mT] 27))).cells (ds := [(w4.heap.size, 0, .int .i64 aT), (w4.heap.size, 1, .int .i64 bT), (w4.heap.size, 2, .int .i64 cT), (w4.heap.size, 3, .slice (some ⟨xfT, 0, none⟩) nT nT), (w4.heap.size, 4, .slice (some ⟨xpT, 0, none⟩) mT mT)]) (fun p hp => by
      simp only [List.mem_cons, List.not_mem_nil, or_false] at hp
      rcases hp with rfl | rfl | rfl | rfl | rfl
      · exact ⟨zzw4, by rw [sNew]; rfl⟩
      · exact ⟨zzw4, by rw [sNew]; rfl⟩
      · exact ⟨zzw4, by rw [sNew]; rfl⟩
      · exact ⟨zzw4, by rw [sNew]; rfl⟩
      · exact ⟨zzw4, by rw [sNew]; rfl⟩))
  obtain ⟨bxT, hbxT⟩ : ∃ g, w4.heap.size = g := ⟨_, rfl⟩
  rw [hbxT] at S6 zzw4 zrw4
  obtain ⟨zrw4a, zrw4b⟩ := zrw4
  clear S5
  have cc0 := (S6.out.cell (bxT, 0, .int .i64 aT) (.head _)).2
  have cc1 := (S6.out.cell (bxT, 1, .int .i64 bT) (.tail _ (.head _))).2
  have cc2 := (S6.out.cell (bxT, 2, .int .i64 cT) (.tail _ (.tail _ (.head _)))).2
  have cc3 := (S6.out.cell (bxT, 3, .slice (some ⟨xfT, 0, none⟩) nT nT) (.tail _ (.tail _ (.tail _ (.head _))))).2
  have cc4 := (S6.out.cell (bxT, 4, .slice (some ⟨xpT, 0, none⟩) mT mT) (.tail _ (.tail _ (.tail _ (.tail _ (.head _)))))).2
  go_wp2_with fail
  refine ((HX.out ▸ goodI_any _ _ _ _ _ (own_IsTs (S6.out.row (ri xfT nT nT (zT.map (.int .i64))) (by simp)) (S6.out.row (rPump xpT mT mT (flatPump vT)) (by simp))) HNT.out HQT.out)).mono ?_
  rintro e w5 ⟨rfl, hb⟩
  have S7 := Lib.hid (S6.out.quiet hb)
  clear cc0 cc1 cc2 cc3 cc4
  clear hb S6
  have KEEP := Lib.hid (fun W (hb : Below w5.heap.size w5 W) => (⟨hb, ((S7.out.quiet hb).cell (bxT, 0, .int .i64 aT) (.head _)).2, ((S7.out.quiet hb).cell (bxT, 1, .int .i64 bT) (.tail _ (.head _))).2, ((S7.out.quiet hb).cell (bxT, 2, .int .i64 cT) (.tail _ (.tail _ (.head _)))).2, ((S7.out.quiet hb).cell (bxT, 3, .slice (some ⟨xfT, 0, none⟩) nT nT) (.tail _ (.tail _ (.tail _ (.head _))))).2, ((S7.out.quiet hb).cell (bxT, 4, .slice (some ⟨xpT, 0, none⟩) mT mT) (.tail _ (.tail _ (.tail _ (.tail _ (.head _)))))).2, ((S7.out.quiet hb).cell (w.heap.size, 0, .int .i64 aT) (.tail _ (.tail _ (.tail _ (.tail _ (.tail _ (.head _))))))).2, ((S7.out.quiet hb).cell (w.heap.size, 1, .int .i64 bT) (.tail _ (.tail _ (.tail _ (.tail _ (.tail _ (.tail _ (.head _)))))))).2, ((S7.out.quiet hb).cell (w.heap.size, 2, .int .i64 cT) (.tail _ (.tail _ (.tail _ (.tail _ (.tail _ (.tail _ (.tail _ (.head _))))))))).2, ((S7.out.quiet hb).cell (w.heap.size, 3, .slice AT nT qT) (.tail _ (.tail _ (.tail _ (.tail _ (.tail _ (.tail _ (.tail _ (.tail _ (.head _)))))))))).2, ((S7.out.quiet hb).cell (w.heap.size, 4, .slice DT mT rT) (.tail _ (.tail _ (.tail _ (.tail _ (.tail _ (.tail _ (.tail _ (.tail _ (.tail _ (.head _))))))))))).2⟩ : Below w5.heap.size w5 W ∧ W.cell? ⟨bxT, 0, none⟩ = some (.int .i64 aT) ∧ W.cell? ⟨bxT, 1, none⟩ = some (.int .i64 bT) ∧ W.cell? ⟨bxT, 2, none⟩ = some (.int .i64 cT) ∧ W.cell? ⟨bxT, 3, none⟩ = some (.slice (some ⟨xfT, 0, none⟩) nT nT) ∧ W.cell? ⟨bxT, 4, none⟩ = some (.slice (some ⟨xpT, 0, none⟩) mT mT) ∧ W.cell? ⟨w.heap.size, 0, none⟩ = some (.int .i64 aT) ∧ W.cell? ⟨w.heap.size, 1, none⟩ = some (.int .i64 bT) ∧ W.cell? ⟨w.heap.size, 2, none⟩ = some (.int .i64 cT) ∧ W.cell? ⟨w.heap.size, 3, none⟩ = some (.slice AT nT qT) ∧ W.cell? ⟨w.heap.size, 4, none⟩ = some (.slice DT mT rT)))
  have KD := Lib.hid (KEEP.out w5.drew ((Drawn.one w5 1).below _))
  have KT := Lib.hid (fun W W' (hb : Below w5.heap.size w5 W) (hb' : Below W.heap.size W W') => KEEP.out W' (hb.trans (hb'.mono hb.size)))
  have IA := Lib.hid (fun W (hb : Below w5.heap.size w5 W) => ITT.out W (S7.out.quiet hb).low)
  have IX := Lib.hid (fun W (hb : Below w5.heap.size w5 W) => own_IsTs ((S7.out.quiet hb).row (ri xfT nT nT (zT.map (.int .i64))) (by simp)) ((S7.out.quiet hb).row (rPump xpT mT mT (flatPump vT)) (by simp)))
  have cc0 := (S7.out.cell (bxT, 0, .int .i64 aT) (.head _)).2
  have cc1 := (S7.out.cell (bxT, 1, .int .i64 bT) (.tail _ (.head _))).2
  have cc2 := (S7.out.cell (bxT, 2, .int .i64 cT) (.tail _ (.tail _ (.head _)))).2
  have cc3 := (S7.out.cell (bxT, 3, .slice (some ⟨xfT, 0, none⟩) nT nT) (.tail _ (.tail _ (.tail _ (.head _))))).2
  have cc4 := (S7.out.cell (bxT, 4, .slice (some ⟨xpT, 0, none⟩) mT mT) (.tail _ (.tail _ (.tail _ (.tail _ (.head _)))))).2
  have cc5 := (S7.out.cell (w.heap.size, 0, .int .i64 aT) (.tail _ (.tail _ (.tail _ (.tail _ (.tail _ (.head _))))))).2
  have cc6 := (S7.out.cell (w.heap.size, 1, .int .i64 bT) (.tail _ (.tail _ (.tail _ (.tail _ (.tail _ (.tail _ (.head _)))))))).2
  have cc7 := (S7.out.cell (w.heap.size, 2, .int .i64 cT) (.tail _ (.tail _ (.tail _ (.tail _ (.tail _ (.tail _ (.tail _ (.head _))))))))).2
  have cc8 := (S7.out.cell (w.heap.size, 3, .slice AT nT qT) (.tail _ (.tail _ (.tail _ (.tail _ (.tail _ (.tail _ (.tail _ (.tail _ (.head _)))))))))).2
  have cc9 := (S7.out.cell (w.heap.size, 4, .slice DT mT rT) (.tail _ (.tail _ (.tail _ (.tail _ (.tail _ (.tail _ (.tail _ (.tail _ (.tail _ (.head _))))))))))).2
  go_wp2_with fail
  clear cc0 cc1 cc2 cc3 cc4 cc5 cc6 cc7 cc8 cc9
  go_region_held3 (fun W => Below w5.heap.size w5 W ∧ W.cell? ⟨bxT, 0, none⟩ = some (.int .i64 aT) ∧ W.cell? ⟨bxT, 1, none⟩ = some (.int .i64 bT) ∧ W.cell? ⟨bxT, 2, none⟩ = some (.int .i64 cT) ∧ W.cell? ⟨bxT, 3, none⟩ = some (.slice (some ⟨xfT, 0, none⟩) nT nT) ∧ W.cell? ⟨bxT, 4, none⟩ = some (.slice (some ⟨xpT, 0, none⟩) mT mT) ∧ W.cell? ⟨w.heap.size, 0, none⟩ = some (.int .i64 aT) ∧ W.cell? ⟨w.heap.size, 1, none⟩ = some (.int .i64 bT) ∧ W.cell? ⟨w.heap.size, 2, none⟩ = some (.int .i64 cT) ∧ W.cell? ⟨w.heap.size, 3, none⟩ = some (.slice AT nT qT) ∧ W.cell? ⟨w.heap.size, 4, none⟩ = some (.slice DT mT rT))
    (first | exact KD.out | exact KT.out _ _ KD.out.1 hb6 | exact KT.out _ _ (KD.out.1.trans (hb6.mono KD.out.1.size)) hb7)
    (first
      | (go_at_call 40; refine (toT_any aT bT cT qT rT (IA.out _ KD.out.1) HNT.out HQT.out).mono ?_; rintro e wa6 ⟨ga6, gb6, rfl, -, ho6, hp6, hb6⟩)
      | (go_at_call 41; refine (eqT_any aT bT cT nT mT nT mT (IX.out _ (KD.out.1.trans (hb6.mono KD.out.1.size))) (own_IsTs ho6 hp6) HMT.out HPT.out).mono ?_; rintro e w6 ⟨rfl, hb7⟩))
  have X6 := KD.out.1.trans (hb6.mono KD.out.1.size)
  have X7 := X6.trans (hb7.mono X6.size)
  have S8 := Lib.hid (S7.out.quiet X7)
  clear KEEP KD KT IA IX hb6 hb7 ho6 hp6 X6 X7 S7
  go_wp2_with fail
  go_ret
  exact ⟨rfl, S8.out.low⟩
theorem own : ownKnob Try.prog.godebug = none := by kernel_rfl
theorem laidOut : laidOutB Try.prog = true := by kernel_rfl

set_option maxRecDepth 100000 in
theorem lifted (os : Os) (started : os.Started) (H : Type) (enc : TypeId × Value → H) :
    ReturnsInHanded {} Try.checked os 5 .any (Rows.fnExactIsPumpTaskSpec.pre6 enc Try.prog Try.f5 Rows.fnExactIsPumpTaskRow.domain false) (Rows.fnExactIsPumpTaskSpec.post enc Try.prog Try.f5 false true false false) := by
  refine returnsInHanded_of_change (C := Try.checked) own started (by kernel_rfl) Try.func5
    (ChangeSpec.witness6 (enc := enc) (C := Try.checked) false ⟨#[], #[.agg #[.int .i64 0, .int .i64 0, .int .i64 0, .slice none 0 0, .slice none 0 0]], []⟩ 8 (by kernel_rfl) (by kernel_rfl) (by kernel_rfl) (by kernel_rfl)) ?_
  intro W base args ds gs before hval0 hW hcnd _
  have hval : ∀ (j : Nat) t v, Try.f5.params[j]? = some t → args[j]? = some v → Value.okWide Try.prog W .any base t v := hval0
  have hW' := hW
  obtain ⟨p, q, hA0, hV, rfl, hfz, hnd⟩ := hW
  have hA : DataW.TrodAll enc Try.prog W 0 (fun _ => true) true Try.f5.params.toList args.toList ds p := hA0
  rw [Try.params5] at hA hval
  obtain ⟨v0, vs0, d0, ds0, p0, q0, hargs, rfl, rfl, h0, r0⟩ := trodAll_cons hA
  obtain ⟨rfl, rfl, rfl⟩ := trodAll_nil r0
  obtain rfl : args = #[v0] := by cases args; simp_all
  obtain ⟨rfl, rfl⟩ := trodVars_none hV
  have k0 := h0
  have lt0 : ∀ x ∈ p0, x.block < W.heap.size := by obtain ⟨m, hm⟩ := k0; exact DataW.trod_lt m _ _ _ hm
  obtain ⟨x0a, x0b, x0c, a0, len0, cap0, z0, b0, zen0, zap0, y0, rfl, w0, hl0, hm0, hh0⟩ := open_task Try.underlying48 (by kernel_rfl) (by kernel_rfl) Try.underlying3 Try.underlying3 Try.underlying3 Try.underlying24 Try.underlying3 Try.underlying46 Try.underlying103 (by kernel_rfl) (by kernel_rfl) (by kernel_rfl) Try.underlying3 Try.underlying3 Try.underlying3 (hval 0 48 v0 rfl rfl) h0
  clear hA0 hval0
  refine (walk x0a x0b x0c a0 len0 cap0 z0 b0 zen0 zap0 y0 W w0 hl0 hm0 hh0).mono fun e W' ⟨he, bel⟩ => ?_
  subst he
  exact ⟨_, rfl, _, _, _, [], _, [], hW', trodAll_mk1 (shut_bool Try.underlying4 _), (trodAll_cons_mk (Below.trod laidOut (by kernel_rfl) (of_decide_eq_true (by kernel_rfl)) k0 bel lt0) trodAll_mk0), rfl, bel.frame _, fun h => by cases h⟩

theorem over : Rows.fnExactIsPumpTaskRow.holds Try.pinned (OpenSpec.ofChange Rows.fnExactIsPumpTaskSpec) :=
  OpenClaim.holds_of_wide 5 Try.f5 rfl rfl rfl rfl rfl rfl rfl ⟨rfl, rfl, rfl, rfl, rfl⟩ rfl rfl rfl rfl rfl (by kernel_rfl) Try.func5 (by kernel_rfl)
    (of_decide_eq_true (by kernel_rfl)) (by unfold Func.isWrapper; first | (rw [if_pos (by decide +kernel)]; kernel_rfl) | (rw [if_neg (by decide +kernel)]; exact ⟨rfl, rfl⟩))
    (fun os started H enc _ => lifted os started H enc)

/-- The statement. -/
theorem proved : Rows.FnExactIsPumpTaskSaid := over
end Go.Proofs.Ytdjoiodkmanacaa.fnExactIsPumpTask
