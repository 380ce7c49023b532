/- WithoutPump answers as its model does, at every task and index; it writes into no argument and its answer owns its memory. -/
import Derived.Test.YtdjoiodkmanacaaPuR
import Derived.Test.YtdjoiodkmanacaaIntX
import Derived.Test.YtdjoiodkmanacaaSt0
import Derived.OpenShut
import Derived.ShutString
import Derived.ChangeOld
import Derived.WalkLawsBesides
import Derived.Lib.SmallJoins
import Derived.Deep.RegionHeld3
namespace Go.Proofs.Ytdjoiodkmanacaa.fnExactWithoutPump
open Go.ChangeShapes Go.WideShapes Go.ChangeAt Go.RowKit
open Go.ChangeMaps (open_string shut_string)
set_option linter.unusedVariables false
set_option linter.unusedSimpArgs false

theorem apart_rows {W W' : World} {b : Nat} {e e' : TypeId} {z z' n n' : Nat} {v v' : Value} {xs xs' : List Value} (h : W.ownsRow b e z v n xs) (k : W'.ownsRow W.heap.size e' z' v' n' xs') : (v.ownBlock = none ∨ v.ownBlock ≠ v'.ownBlock) ∧ (v'.ownBlock = none ∨ v'.ownBlock ≠ v.ownBlock) := by
  cases hv : v.ownBlock with
  | none => exact ⟨.inl rfl, by cases hw : v'.ownBlock with
    | none => exact .inl rfl
    | some q => exact .inr (fun e => by cases e)⟩
  | some q =>
    have h1 := (h.lt q hv).2
    refine ⟨.inr (fun e => ?_), .inr (fun e => ?_)⟩
    · have h2 := (k.lt q e.symm).1; omega
    · have h2 := (k.lt q e).1; omega
theorem apart_box {W W' : World} {g j : Nat} {u : Value} {e : TypeId} {z n : Nat} {v : Value} {xs : List Value} (hc : W.cell? ⟨g, j, none⟩ = some u) (k : W'.ownsRow W.heap.size e z v n xs) : some g ≠ v.ownBlock := fun e1 => by
  have h1 : g < W.heap.size := World.block_lt_of_cell? _ _ hc
  have h2 := (k.lt g e1.symm).1
  omega
theorem apart_new {W : World} {b : Nat} {e : TypeId} {z n : Nat} {v : Value} {xs : List Value} (h : W.ownsRow b e z v n xs) : some W.heap.size ≠ v.ownBlock := fun e1 => by
  have := (h.lt _ e1.symm).2
  omega
set_option maxRecDepth 100000 in
set_option maxHeartbeats 8000000 in
theorem walk (aT bT cT : Int) (AT : Option Addr) (nT qT : Nat) (zT : List Int) (DT : Option Addr) (mT rT : Nat) (vT : List TPump) (i : Int) (w : World) (hIT : IsInts .i64 w AT nT zT) (hnT : vT.length = mT) (hmT : mT ≤ maxLen) (hhT : Has w w.heap.size DT (flatPump vT)) (ki : (Lit.int .i64 i).wf = true) :
    Calls Try.prog 13 #[.agg #[.int .i64 aT, .int .i64 bT, .int .i64 cT, .slice AT nT qT, .slice DT mT rT], .int .i64 i] w fun e w' => e = .returned (.bool true) ∧ Below w.heap.size w w' := by
  have iTT : IsTs w w.heap.size AT nT zT DT mT vT := ⟨Nat.le_refl _, ⟨hIT.1, Nat.le_refl _, hIT.2.2.2⟩, ⟨hnT, Nat.le_refl _, hhT⟩⟩
  have ITT := Lib.hid (fun W (hb : Below w.heap.size w W) => iTT.below hb (Nat.le_refl _))
  have HMT := Lib.hid hIT.2.1
  have HPT := Lib.hid hmT
  obtain ⟨⟨sa, sb, sc, zS, vS⟩, x, hA⟩ := wouA_ex ⟨aT, bT, cT, zT, vT⟩ i
  obtain ⟨hl1, hl2⟩ := wouA_len hA
  dsimp only at hl1 hl2
  obtain ⟨KF, hKF⟩ : ∃ k, zS.length = k := ⟨_, rfl⟩
  obtain ⟨KE, hKE⟩ : ∃ k, vS.length = k := ⟨_, rfl⟩
  rw [hKF] at hl1
  rw [hKE] at hl2
  have CS := Lib.hid (fun W (n : Option Addr) (q : Nat) (D : Option Addr) (m : Nat) (h : IsTs W W.heap.size n q zT D m vT) (h1 : q ≤ 1048576) (h2 : m ≤ 1048576) => (woS_any aT bT cT q m h h1 h2 (Nat.le_refl _) i _ x hA).mono fun e w' (g : GivesW W ⟨sa, sb, sc, zS, vS⟩ x e w') => g.v hKF hKE)
  have CI := Lib.hid (fun W (n : Option Addr) (q : Nat) (D : Option Addr) (m : Nat) (h : IsTs W W.heap.size n q zT D m vT) (h1 : q ≤ 1048576) (h2 : m ≤ 1048576) => (woI_any aT bT cT q m h h1 h2 (Nat.le_refl _) i _ x hA).mono fun e w' (g : GivesW W ⟨sa, sb, sc, zS, vS⟩ x e w') => g.v hKF hKE)
  have hxx : (x != x) = false := by simp
  have HLF : Hid (KF ≤ maxLen) := Lib.hid (by unfold maxLen; omega)
  have HLE : Hid (KE ≤ maxLen) := Lib.hid (by unfold maxLen; omega)
  clear hIT hnT hmT hhT iTT hA hKF hKE
  go_enter Try.func13, Try.ntmps13
  have S0 : Hid (St w [(w.heap.size, 0, .int .i64 aT), (w.heap.size, 1, .int .i64 bT), (w.heap.size, 2, .int .i64 cT), (w.heap.size, 3, .slice AT nT qT), (w.heap.size, 4, .slice DT mT rT)] [] (World.alloc w (.cells #[.int .i64 aT, .int .i64 bT, .int .i64 cT, .slice AT nT qT, .slice DT mT rT] 48))) := Lib.hid (by
    have k0 := (St.start w).quiet (Below.alloc (Below.refl _ w) (Nat.le_refl _) (.cells #[.int .i64 aT, .int .i64 bT, .int .i64 cT, .slice AT nT qT, .slice DT mT rT] 48))
    have j0 := k0.cells (ds := [(w.heap.size, 0, .int .i64 aT), (w.heap.size, 1, .int .i64 bT), (w.heap.size, 2, .int .i64 cT), (w.heap.size, 3, .slice AT nT qT), (w.heap.size, 4, .slice DT mT rT)]) (fun p hp => by
      simp only [List.mem_cons, List.not_mem_nil, or_false] at hp
      rcases hp with rfl | rfl | rfl | rfl | rfl <;> exact ⟨Nat.le_refl _, by rw [sNew]; rfl⟩)
    exact j0)
  obtain ⟨leftT, l0T, l1T, lfT, szT⟩ := szT_is aT bT cT AT nT qT DT mT rT HMT.out HPT.out
  have SZT := Lib.hid szT
  clear szT
  have cc0 := (S0.out.cell (w.heap.size, 0, .int .i64 aT) (.head _)).2
  have cc1 := (S0.out.cell (w.heap.size, 1, .int .i64 bT) (.tail _ (.head _))).2
  have cc2 := (S0.out.cell (w.heap.size, 2, .int .i64 cT) (.tail _ (.tail _ (.head _)))).2
  have cc3 := (S0.out.cell (w.heap.size, 3, .slice AT nT qT) (.tail _ (.tail _ (.tail _ (.head _))))).2
  have cc4 := (S0.out.cell (w.heap.size, 4, .slice DT mT rT) (.tail _ (.tail _ (.tail _ (.tail _ (.head _)))))).2
  go_wp2_with fail
  refine (SZT.out _).mono ?_
  rintro e w1 ⟨rfl, hb⟩
  clear cc0 cc1 cc2 cc3 cc4
  have S1 := Lib.hid (S0.out.quiet hb)
  clear S0 hb
  clear SZT
  by_cases negT : leftT < 0
  · go_wp2_with fail
    go_ret
    exact ⟨rfl, S1.out.low⟩
  have HNT : Hid (nT ≤ 1048576) := Lib.hid (by have := lfT (by omega); omega)
  have HQT : Hid (mT ≤ 1048576) := Lib.hid (by have := lfT (by omega); omega)
  have cc0 := (S1.out.cell (w.heap.size, 0, .int .i64 aT) (.head _)).2
  have cc1 := (S1.out.cell (w.heap.size, 1, .int .i64 bT) (.tail _ (.head _))).2
  have cc2 := (S1.out.cell (w.heap.size, 2, .int .i64 cT) (.tail _ (.tail _ (.head _)))).2
  have cc3 := (S1.out.cell (w.heap.size, 3, .slice AT nT qT) (.tail _ (.tail _ (.tail _ (.head _))))).2
  have cc4 := (S1.out.cell (w.heap.size, 4, .slice DT mT rT) (.tail _ (.tail _ (.tail _ (.tail _ (.head _)))))).2
  go_wp2_with fail
  refine (toT_any aT bT cT qT rT (ITT.out _ S1.out.low) HNT.out HQT.out).mono ?_
  rintro e w2 ⟨t1, u1, rfl, -, ho, hp, hb⟩
  clear cc0 cc1 cc2 cc3 cc4
  have dd_t1_u1 := own_ne ho hp (by decide)
  have dd_u1_t1 := own_ne hp ho (by decide)
  have ee_w_t1 := apart_box (S1.out.cell (w.heap.size, 0, .int .i64 aT) (.head _)).2 ho
  have ee_w_u1 := apart_box (S1.out.cell (w.heap.size, 0, .int .i64 aT) (.head _)).2 hp
  have S2 := Lib.hid (((S1.out.quiet hb).own (riv (some ⟨t1, 0, none⟩) nT nT (zT.map (.int .i64))) (own_low ho S1.out.low.size)).own (rpv (some ⟨u1, 0, none⟩) mT mT (flatPump vT)) (own_low hp S1.out.low.size))
  clear S1 hb ho hp
  go_wp2_with fail
  refine (CS.out _ _ _ _ _ (own_IsTv (S2.out.row (riv (some ⟨t1, 0, none⟩) nT nT (zT.map (.int .i64))) (.tail _ (.head _))) (S2.out.row (rpv (some ⟨u1, 0, none⟩) mT mT (flatPump vT)) (.head _))) HNT.out HQT.out).mono ?_
  rintro e w3 ⟨F0, c0, E0, d0, rfl, ho, hp, hb⟩
  obtain ⟨dd_u1_F0, dd_F0_u1⟩ := apart_rows (S2.out.row (rpv (some ⟨u1, 0, none⟩) mT mT (flatPump vT)) (.head _)) ho
  obtain ⟨dd_u1_E0, dd_E0_u1⟩ := apart_rows (S2.out.row (rpv (some ⟨u1, 0, none⟩) mT mT (flatPump vT)) (.head _)) hp
  obtain ⟨dd_t1_F0, dd_F0_t1⟩ := apart_rows (S2.out.row (riv (some ⟨t1, 0, none⟩) nT nT (zT.map (.int .i64))) (.tail _ (.head _))) ho
  obtain ⟨dd_t1_E0, dd_E0_t1⟩ := apart_rows (S2.out.row (riv (some ⟨t1, 0, none⟩) nT nT (zT.map (.int .i64))) (.tail _ (.head _))) hp
  have dd_F0_E0 := own_ne ho hp (by decide)
  have dd_E0_F0 := own_ne hp ho (by decide)
  have ee_w_F0 := apart_box (S2.out.cell (w.heap.size, 0, .int .i64 aT) (.head _)).2 ho
  have ee_w_E0 := apart_box (S2.out.cell (w.heap.size, 0, .int .i64 aT) (.head _)).2 hp
  have S3 := Lib.hid (((S2.out.quiet hb).own (riv F0 KF c0 (zS.map (.int .i64))) (own_low ho S2.out.low.size)).own (rpv E0 KE d0 (flatPump vS)) (own_low hp S2.out.low.size))
  clear S2 hb ho hp
  have S4 := Lib.hid (S3.out.sub (rows' := [rpv E0 KE d0 (flatPump vS), riv F0 KF c0 (zS.map (.int .i64))]) (by simp))
  clear S3 
  clear dd_t1_u1 dd_u1_t1 ee_w_t1 ee_w_u1 dd_u1_F0 dd_F0_u1 dd_u1_E0 dd_E0_u1 dd_t1_F0 dd_F0_t1 dd_t1_E0 dd_E0_t1
  have ee_bw_E0 := apart_new (S4.out.row (rpv E0 KE d0 (flatPump vS)) (.head _))
  have ee_bw_F0 := apart_new (S4.out.row (riv F0 KF c0 (zS.map (.int .i64))) (.tail _ (.head _)))
  have zz : w.heap.size ≤ w3.heap.size := S4.out.low.size
  have S5 := Lib.hid ((S4.out.quiet (Below.alloc (Below.refl _ w3) (Nat.le_refl _) (.cells #[.int .i64 sa, .int .i64 sb, .int .i64 sc, .slice F0 KF c0, .slice E0 KE d0] 27))).cells (ds := [(w3.heap.size, 0, .int .i64 sa), (w3.heap.size, 1, .int .i64 sb), (w3.heap.size, 2, .int .i64 sc), (w3.heap.size, 3, .slice F0 KF c0), (w3.heap.size, 4, .slice E0 KE d0)]) (fun p hp => by
      simp only [List.mem_cons, List.not_mem_nil, or_false] at hp
      rcases hp with rfl | rfl | rfl | rfl | rfl <;> exact ⟨zz, by rw [sNew]; rfl⟩))
  obtain ⟨bw, hbw⟩ : ∃ g, w3.heap.size = g := ⟨_, rfl⟩
  rw [hbw] at S5 ee_bw_E0 ee_bw_F0
  clear zz S4
  have cc5 := (S5.out.cell (w.heap.size, 0, .int .i64 aT) (.tail _ (.tail _ (.tail _ (.tail _ (.tail _ (.head _))))))).2
  have cc6 := (S5.out.cell (w.heap.size, 1, .int .i64 bT) (.tail _ (.tail _ (.tail _ (.tail _ (.tail _ (.tail _ (.head _)))))))).2
  have cc7 := (S5.out.cell (w.heap.size, 2, .int .i64 cT) (.tail _ (.tail _ (.tail _ (.tail _ (.tail _ (.tail _ (.tail _ (.head _))))))))).2
  have cc8 := (S5.out.cell (w.heap.size, 3, .slice AT nT qT) (.tail _ (.tail _ (.tail _ (.tail _ (.tail _ (.tail _ (.tail _ (.tail _ (.head _)))))))))).2
  have cc9 := (S5.out.cell (w.heap.size, 4, .slice DT mT rT) (.tail _ (.tail _ (.tail _ (.tail _ (.tail _ (.tail _ (.tail _ (.tail _ (.tail _ (.head _))))))))))).2
  go_wp2_with fail
  refine (toT_any aT bT cT qT rT (ITT.out _ S5.out.low) HNT.out HQT.out).mono ?_
  rintro e w4 ⟨xf, xp, rfl, -, ho, hp, hb⟩
  clear cc5 cc6 cc7 cc8 cc9
  obtain ⟨dd_E0_xf, dd_xf_E0⟩ := apart_rows (S5.out.row (rpv E0 KE d0 (flatPump vS)) (.head _)) ho
  obtain ⟨dd_E0_xp, dd_xp_E0⟩ := apart_rows (S5.out.row (rpv E0 KE d0 (flatPump vS)) (.head _)) hp
  obtain ⟨dd_F0_xf, dd_xf_F0⟩ := apart_rows (S5.out.row (riv F0 KF c0 (zS.map (.int .i64))) (.tail _ (.head _))) ho
  obtain ⟨dd_F0_xp, dd_xp_F0⟩ := apart_rows (S5.out.row (riv F0 KF c0 (zS.map (.int .i64))) (.tail _ (.head _))) hp
  have dd_xf_xp := own_ne ho hp (by decide)
  have dd_xp_xf := own_ne hp ho (by decide)
  have ee_bw_xf := apart_box (S5.out.cell (bw, 0, .int .i64 sa) (.head _)).2 ho
  have ee_bw_xp := apart_box (S5.out.cell (bw, 0, .int .i64 sa) (.head _)).2 hp
  have ee_w_xf := apart_box (S5.out.cell (w.heap.size, 0, .int .i64 aT) (.tail _ (.tail _ (.tail _ (.tail _ (.tail _ (.head _))))))).2 ho
  have ee_w_xp := apart_box (S5.out.cell (w.heap.size, 0, .int .i64 aT) (.tail _ (.tail _ (.tail _ (.tail _ (.tail _ (.head _))))))).2 hp
  have S6 := Lib.hid (((S5.out.quiet hb).own (riv (some ⟨xf, 0, none⟩) nT nT (zT.map (.int .i64))) (own_low ho S5.out.low.size)).own (rpv (some ⟨xp, 0, none⟩) mT mT (flatPump vT)) (own_low hp S5.out.low.size))
  clear S5 hb ho hp
  have ee_bx_xp := apart_new (S6.out.row (rpv (some ⟨xp, 0, none⟩) mT mT (flatPump vT)) (.head _))
  have ee_bx_xf := apart_new (S6.out.row (riv (some ⟨xf, 0, none⟩) nT nT (zT.map (.int .i64))) (.tail _ (.head _)))
  have ee_bx_E0 := apart_new (S6.out.row (rpv E0 KE d0 (flatPump vS)) (.tail _ (.tail _ (.head _))))
  have ee_bx_F0 := apart_new (S6.out.row (riv F0 KF c0 (zS.map (.int .i64))) (.tail _ (.tail _ (.tail _ (.head _)))))
  have zz : w.heap.size ≤ w4.heap.size := S6.out.low.size
  have S7 := Lib.hid ((S6.out.quiet (Below.alloc (Below.refl _ w4) (Nat.le_refl _) (.cells #[.int .i64 aT, .int .i64 bT, .int .i64 cT, .slice (some ⟨xf, 0, none⟩) nT nT, .slice (some ⟨xp, 0, none⟩) mT mT] 27))).cells (ds := [(w4.heap.size, 0, .int .i64 aT), (w4.heap.size, 1, .int .i64 bT), (w4.heap.size, 2, .int .i64 cT), (w4.heap.size, 3, .slice (some ⟨xf, 0, none⟩) nT nT), (w4.heap.size, 4, .slice (some ⟨xp, 0, none⟩) mT mT)]) (fun p hp => by
      simp only [List.mem_cons, List.not_mem_nil, or_false] at hp
      rcases hp with rfl | rfl | rfl | rfl | rfl <;> exact ⟨zz, by rw [sNew]; rfl⟩))
  obtain ⟨bx, hbx⟩ : ∃ g, w4.heap.size = g := ⟨_, rfl⟩
  rw [hbx] at S7 ee_bx_xp ee_bx_xf ee_bx_E0 ee_bx_F0
  clear zz S6
  have cc0 := (S7.out.cell (bx, 0, .int .i64 aT) (.head _)).2
  have cc1 := (S7.out.cell (bx, 1, .int .i64 bT) (.tail _ (.head _))).2
  have cc2 := (S7.out.cell (bx, 2, .int .i64 cT) (.tail _ (.tail _ (.head _)))).2
  have cc3 := (S7.out.cell (bx, 3, .slice (some ⟨xf, 0, none⟩) nT nT) (.tail _ (.tail _ (.tail _ (.head _))))).2
  have cc4 := (S7.out.cell (bx, 4, .slice (some ⟨xp, 0, none⟩) mT mT) (.tail _ (.tail _ (.tail _ (.tail _ (.head _)))))).2
  go_wp2_with fail
  refine (CI.out _ _ _ _ _ (own_IsTv (S7.out.row (riv (some ⟨xf, 0, none⟩) nT nT (zT.map (.int .i64))) (.tail _ (.head _))) (S7.out.row (rpv (some ⟨xp, 0, none⟩) mT mT (flatPump vT)) (.head _))) HNT.out HQT.out).mono ?_
  rintro e w5 ⟨F1, c1, E1, d1, rfl, ho, hp, hb⟩
  clear cc0 cc1 cc2 cc3 cc4
  obtain ⟨dd_xp_F1, dd_F1_xp⟩ := apart_rows (S7.out.row (rpv (some ⟨xp, 0, none⟩) mT mT (flatPump vT)) (.head _)) ho
  obtain ⟨dd_xp_E1, dd_E1_xp⟩ := apart_rows (S7.out.row (rpv (some ⟨xp, 0, none⟩) mT mT (flatPump vT)) (.head _)) hp
  obtain ⟨dd_xf_F1, dd_F1_xf⟩ := apart_rows (S7.out.row (riv (some ⟨xf, 0, none⟩) nT nT (zT.map (.int .i64))) (.tail _ (.head _))) ho
  obtain ⟨dd_xf_E1, dd_E1_xf⟩ := apart_rows (S7.out.row (riv (some ⟨xf, 0, none⟩) nT nT (zT.map (.int .i64))) (.tail _ (.head _))) hp
  obtain ⟨dd_E0_F1, dd_F1_E0⟩ := apart_rows (S7.out.row (rpv E0 KE d0 (flatPump vS)) (.tail _ (.tail _ (.head _)))) ho
  obtain ⟨dd_E0_E1, dd_E1_E0⟩ := apart_rows (S7.out.row (rpv E0 KE d0 (flatPump vS)) (.tail _ (.tail _ (.head _)))) hp
  obtain ⟨dd_F0_F1, dd_F1_F0⟩ := apart_rows (S7.out.row (riv F0 KF c0 (zS.map (.int .i64))) (.tail _ (.tail _ (.tail _ (.head _))))) ho
  obtain ⟨dd_F0_E1, dd_E1_F0⟩ := apart_rows (S7.out.row (riv F0 KF c0 (zS.map (.int .i64))) (.tail _ (.tail _ (.tail _ (.head _))))) hp
  have dd_F1_E1 := own_ne ho hp (by decide)
  have dd_E1_F1 := own_ne hp ho (by decide)
  have ee_bx_F1 := apart_box (S7.out.cell (bx, 0, .int .i64 aT) (.head _)).2 ho
  have ee_bx_E1 := apart_box (S7.out.cell (bx, 0, .int .i64 aT) (.head _)).2 hp
  have ee_bw_F1 := apart_box (S7.out.cell (bw, 0, .int .i64 sa) (.tail _ (.tail _ (.tail _ (.tail _ (.tail _ (.head _))))))).2 ho
  have ee_bw_E1 := apart_box (S7.out.cell (bw, 0, .int .i64 sa) (.tail _ (.tail _ (.tail _ (.tail _ (.tail _ (.head _))))))).2 hp
  have ee_w_F1 := apart_box (S7.out.cell (w.heap.size, 0, .int .i64 aT) (.tail _ (.tail _ (.tail _ (.tail _ (.tail _ (.tail _ (.tail _ (.tail _ (.tail _ (.tail _ (.head _)))))))))))).2 ho
  have ee_w_E1 := apart_box (S7.out.cell (w.heap.size, 0, .int .i64 aT) (.tail _ (.tail _ (.tail _ (.tail _ (.tail _ (.tail _ (.tail _ (.tail _ (.tail _ (.tail _ (.head _)))))))))))).2 hp
  have S8 := Lib.hid (((S7.out.quiet hb).own (riv F1 KF c1 (zS.map (.int .i64))) (own_low ho S7.out.low.size)).own (rpv E1 KE d1 (flatPump vS)) (own_low hp S7.out.low.size))
  clear S7 hb ho hp
  have ee_bg_E1 := apart_new (S8.out.row (rpv E1 KE d1 (flatPump vS)) (.head _))
  have ee_bg_F1 := apart_new (S8.out.row (riv F1 KF c1 (zS.map (.int .i64))) (.tail _ (.head _)))
  have ee_bg_xp := apart_new (S8.out.row (rpv (some ⟨xp, 0, none⟩) mT mT (flatPump vT)) (.tail _ (.tail _ (.head _))))
  have ee_bg_xf := apart_new (S8.out.row (riv (some ⟨xf, 0, none⟩) nT nT (zT.map (.int .i64))) (.tail _ (.tail _ (.tail _ (.head _)))))
  have ee_bg_E0 := apart_new (S8.out.row (rpv E0 KE d0 (flatPump vS)) (.tail _ (.tail _ (.tail _ (.tail _ (.head _))))))
  have ee_bg_F0 := apart_new (S8.out.row (riv F0 KF c0 (zS.map (.int .i64))) (.tail _ (.tail _ (.tail _ (.tail _ (.tail _ (.head _)))))))
  have zz : w.heap.size ≤ w5.heap.size := S8.out.low.size
  have S9 := Lib.hid ((S8.out.quiet (Below.alloc (Below.refl _ w5) (Nat.le_refl _) (.cells #[.int .i64 sa, .int .i64 sb, .int .i64 sc, .slice F1 KF c1, .slice E1 KE d1] 27))).cells (ds := [(w5.heap.size, 0, .int .i64 sa), (w5.heap.size, 1, .int .i64 sb), (w5.heap.size, 2, .int .i64 sc), (w5.heap.size, 3, .slice F1 KF c1), (w5.heap.size, 4, .slice E1 KE d1)]) (fun p hp => by
      simp only [List.mem_cons, List.not_mem_nil, or_false] at hp
      rcases hp with rfl | rfl | rfl | rfl | rfl <;> exact ⟨zz, by rw [sNew]; rfl⟩))
  obtain ⟨bg, hbg⟩ : ∃ g, w5.heap.size = g := ⟨_, rfl⟩
  rw [hbg] at S9 ee_bg_E1 ee_bg_F1 ee_bg_xp ee_bg_xf ee_bg_E0 ee_bg_F0
  clear zz S8
  have cc0 := (S9.out.cell (bg, 0, .int .i64 sa) (.head _)).2
  have cc1 := (S9.out.cell (bg, 1, .int .i64 sb) (.tail _ (.head _))).2
  have cc2 := (S9.out.cell (bg, 2, .int .i64 sc) (.tail _ (.tail _ (.head _)))).2
  have cc3 := (S9.out.cell (bg, 3, .slice F1 KF c1) (.tail _ (.tail _ (.tail _ (.head _))))).2
  have cc4 := (S9.out.cell (bg, 4, .slice E1 KE d1) (.tail _ (.tail _ (.tail _ (.tail _ (.head _)))))).2
  have cc10 := (S9.out.cell (bw, 0, .int .i64 sa) (.tail _ (.tail _ (.tail _ (.tail _ (.tail _ (.tail _ (.tail _ (.tail _ (.tail _ (.tail _ (.head _)))))))))))).2
  have cc11 := (S9.out.cell (bw, 1, .int .i64 sb) (.tail _ (.tail _ (.tail _ (.tail _ (.tail _ (.tail _ (.tail _ (.tail _ (.tail _ (.tail _ (.tail _ (.head _))))))))))))).2
  have cc12 := (S9.out.cell (bw, 2, .int .i64 sc) (.tail _ (.tail _ (.tail _ (.tail _ (.tail _ (.tail _ (.tail _ (.tail _ (.tail _ (.tail _ (.tail _ (.tail _ (.head _)))))))))))))).2
  have cc13 := (S9.out.cell (bw, 3, .slice F0 KF c0) (.tail _ (.tail _ (.tail _ (.tail _ (.tail _ (.tail _ (.tail _ (.tail _ (.tail _ (.tail _ (.tail _ (.tail _ (.tail _ (.head _))))))))))))))).2
  have cc14 := (S9.out.cell (bw, 4, .slice E0 KE d0) (.tail _ (.tail _ (.tail _ (.tail _ (.tail _ (.tail _ (.tail _ (.tail _ (.tail _ (.tail _ (.tail _ (.tail _ (.tail _ (.tail _ (.head _)))))))))))))))).2
  go_wp2_with fail
  refine (eqT_any sa sb sc c1 d1 c0 d0 (own_IsTv (S9.out.row (riv F1 KF c1 (zS.map (.int .i64))) (.tail _ (.head _))) (S9.out.row (rpv E1 KE d1 (flatPump vS)) (.head _))) (own_IsTv (S9.out.row (riv F0 KF c0 (zS.map (.int .i64))) (.tail _ (.tail _ (.tail _ (.tail _ (.tail _ (.head _))))))) (S9.out.row (rpv E0 KE d0 (flatPump vS)) (.tail _ (.tail _ (.tail _ (.tail _ (.head _))))))) HLF.out HLE.out).mono ?_
  rintro e w6 ⟨rfl, hb⟩
  clear cc0 cc1 cc2 cc3 cc4 cc10 cc11 cc12 cc13 cc14
  have S10 := Lib.hid (S9.out.quiet hb)
  clear S9 hb
  have KEEP := Lib.hid (fun W (hb : Below w6.heap.size w6 W) => (⟨hb, ((S10.out.quiet hb).cell (bx, 0, .int .i64 aT) (.tail _ (.tail _ (.tail _ (.tail _ (.tail _ (.head _))))))).2, ((S10.out.quiet hb).cell (bx, 1, .int .i64 bT) (.tail _ (.tail _ (.tail _ (.tail _ (.tail _ (.tail _ (.head _)))))))).2, ((S10.out.quiet hb).cell (bx, 2, .int .i64 cT) (.tail _ (.tail _ (.tail _ (.tail _ (.tail _ (.tail _ (.tail _ (.head _))))))))).2, ((S10.out.quiet hb).cell (bx, 3, .slice (some ⟨xf, 0, none⟩) nT nT) (.tail _ (.tail _ (.tail _ (.tail _ (.tail _ (.tail _ (.tail _ (.tail _ (.head _)))))))))).2, ((S10.out.quiet hb).cell (bx, 4, .slice (some ⟨xp, 0, none⟩) mT mT) (.tail _ (.tail _ (.tail _ (.tail _ (.tail _ (.tail _ (.tail _ (.tail _ (.tail _ (.head _))))))))))).2, ((S10.out.quiet hb).cell (w.heap.size, 0, .int .i64 aT) (.tail _ (.tail _ (.tail _ (.tail _ (.tail _ (.tail _ (.tail _ (.tail _ (.tail _ (.tail _ (.tail _ (.tail _ (.tail _ (.tail _ (.tail _ (.head _))))))))))))))))).2, ((S10.out.quiet hb).cell (w.heap.size, 1, .int .i64 bT) (.tail _ (.tail _ (.tail _ (.tail _ (.tail _ (.tail _ (.tail _ (.tail _ (.tail _ (.tail _ (.tail _ (.tail _ (.tail _ (.tail _ (.tail _ (.tail _ (.head _)))))))))))))))))).2, ((S10.out.quiet hb).cell (w.heap.size, 2, .int .i64 cT) (.tail _ (.tail _ (.tail _ (.tail _ (.tail _ (.tail _ (.tail _ (.tail _ (.tail _ (.tail _ (.tail _ (.tail _ (.tail _ (.tail _ (.tail _ (.tail _ (.tail _ (.head _))))))))))))))))))).2, ((S10.out.quiet hb).cell (w.heap.size, 3, .slice AT nT qT) (.tail _ (.tail _ (.tail _ (.tail _ (.tail _ (.tail _ (.tail _ (.tail _ (.tail _ (.tail _ (.tail _ (.tail _ (.tail _ (.tail _ (.tail _ (.tail _ (.tail _ (.tail _ (.head _)))))))))))))))))))).2, ((S10.out.quiet hb).cell (w.heap.size, 4, .slice DT mT rT) (.tail _ (.tail _ (.tail _ (.tail _ (.tail _ (.tail _ (.tail _ (.tail _ (.tail _ (.tail _ (.tail _ (.tail _ (.tail _ (.tail _ (.tail _ (.tail _ (.tail _ (.tail _ (.tail _ (.head _))))))))))))))))))))).2⟩ : Below w6.heap.size w6 W ∧ W.cell? ⟨bx, 0, none⟩ = some (.int .i64 aT) ∧ W.cell? ⟨bx, 1, none⟩ = some (.int .i64 bT) ∧ W.cell? ⟨bx, 2, none⟩ = some (.int .i64 cT) ∧ W.cell? ⟨bx, 3, none⟩ = some (.slice (some ⟨xf, 0, none⟩) nT nT) ∧ W.cell? ⟨bx, 4, none⟩ = some (.slice (some ⟨xp, 0, none⟩) mT mT) ∧ W.cell? ⟨w.heap.size, 0, none⟩ = some (.int .i64 aT) ∧ W.cell? ⟨w.heap.size, 1, none⟩ = some (.int .i64 bT) ∧ W.cell? ⟨w.heap.size, 2, none⟩ = some (.int .i64 cT) ∧ W.cell? ⟨w.heap.size, 3, none⟩ = some (.slice AT nT qT) ∧ W.cell? ⟨w.heap.size, 4, none⟩ = some (.slice DT mT rT)))
  have KD := Lib.hid (KEEP.out w6.drew ((Drawn.one w6 1).below _))
  have KT := Lib.hid (fun W W' (hb : Below w6.heap.size w6 W) (hb' : Below W.heap.size W W') => KEEP.out W' (hb.trans (hb'.mono hb.size)))
  have IA := Lib.hid (fun W (hb : Below w6.heap.size w6 W) => ITT.out W (S10.out.quiet hb).low)
  have IX := Lib.hid (fun W (hb : Below w6.heap.size w6 W) => own_IsTv ((S10.out.quiet hb).row (riv (some ⟨xf, 0, none⟩) nT nT (zT.map (.int .i64))) (.tail _ (.tail _ (.tail _ (.head _))))) ((S10.out.quiet hb).row (rpv (some ⟨xp, 0, none⟩) mT mT (flatPump vT)) (.tail _ (.tail _ (.head _)))))
  have cc5 := (S10.out.cell (bx, 0, .int .i64 aT) (.tail _ (.tail _ (.tail _ (.tail _ (.tail _ (.head _))))))).2
  have cc6 := (S10.out.cell (bx, 1, .int .i64 bT) (.tail _ (.tail _ (.tail _ (.tail _ (.tail _ (.tail _ (.head _)))))))).2
  have cc7 := (S10.out.cell (bx, 2, .int .i64 cT) (.tail _ (.tail _ (.tail _ (.tail _ (.tail _ (.tail _ (.tail _ (.head _))))))))).2
  have cc8 := (S10.out.cell (bx, 3, .slice (some ⟨xf, 0, none⟩) nT nT) (.tail _ (.tail _ (.tail _ (.tail _ (.tail _ (.tail _ (.tail _ (.tail _ (.head _)))))))))).2
  have cc9 := (S10.out.cell (bx, 4, .slice (some ⟨xp, 0, none⟩) mT mT) (.tail _ (.tail _ (.tail _ (.tail _ (.tail _ (.tail _ (.tail _ (.tail _ (.tail _ (.head _))))))))))).2
  have cc15 := (S10.out.cell (w.heap.size, 0, .int .i64 aT) (.tail _ (.tail _ (.tail _ (.tail _ (.tail _ (.tail _ (.tail _ (.tail _ (.tail _ (.tail _ (.tail _ (.tail _ (.tail _ (.tail _ (.tail _ (.head _))))))))))))))))).2
  have cc16 := (S10.out.cell (w.heap.size, 1, .int .i64 bT) (.tail _ (.tail _ (.tail _ (.tail _ (.tail _ (.tail _ (.tail _ (.tail _ (.tail _ (.tail _ (.tail _ (.tail _ (.tail _ (.tail _ (.tail _ (.tail _ (.head _)))))))))))))))))).2
  have cc17 := (S10.out.cell (w.heap.size, 2, .int .i64 cT) (.tail _ (.tail _ (.tail _ (.tail _ (.tail _ (.tail _ (.tail _ (.tail _ (.tail _ (.tail _ (.tail _ (.tail _ (.tail _ (.tail _ (.tail _ (.tail _ (.tail _ (.head _))))))))))))))))))).2
  have cc18 := (S10.out.cell (w.heap.size, 3, .slice AT nT qT) (.tail _ (.tail _ (.tail _ (.tail _ (.tail _ (.tail _ (.tail _ (.tail _ (.tail _ (.tail _ (.tail _ (.tail _ (.tail _ (.tail _ (.tail _ (.tail _ (.tail _ (.tail _ (.head _)))))))))))))))))))).2
  have cc19 := (S10.out.cell (w.heap.size, 4, .slice DT mT rT) (.tail _ (.tail _ (.tail _ (.tail _ (.tail _ (.tail _ (.tail _ (.tail _ (.tail _ (.tail _ (.tail _ (.tail _ (.tail _ (.tail _ (.tail _ (.tail _ (.tail _ (.tail _ (.tail _ (.head _))))))))))))))))))))).2
  go_wp2_with fail
  clear cc5 cc6 cc7 cc8 cc9 cc15 cc16 cc17 cc18 cc19
  go_region_held3 (fun W => Below w6.heap.size w6 W ∧ W.cell? ⟨bx, 0, none⟩ = some (.int .i64 aT) ∧ W.cell? ⟨bx, 1, none⟩ = some (.int .i64 bT) ∧ W.cell? ⟨bx, 2, none⟩ = some (.int .i64 cT) ∧ W.cell? ⟨bx, 3, none⟩ = some (.slice (some ⟨xf, 0, none⟩) nT nT) ∧ W.cell? ⟨bx, 4, none⟩ = some (.slice (some ⟨xp, 0, none⟩) mT mT) ∧ W.cell? ⟨w.heap.size, 0, none⟩ = some (.int .i64 aT) ∧ W.cell? ⟨w.heap.size, 1, none⟩ = some (.int .i64 bT) ∧ W.cell? ⟨w.heap.size, 2, none⟩ = some (.int .i64 cT) ∧ W.cell? ⟨w.heap.size, 3, none⟩ = some (.slice AT nT qT) ∧ W.cell? ⟨w.heap.size, 4, none⟩ = some (.slice DT mT rT))
    (first | exact KD.out | exact KT.out _ _ KD.out.1 hb6 | exact KT.out _ _ (KD.out.1.trans (hb6.mono KD.out.1.size)) hb7)
    (first
      | (go_at_call 40; refine (toT_any aT bT cT qT rT (IA.out _ KD.out.1) HNT.out HQT.out).mono ?_; rintro e wa6 ⟨ga6, gb6, rfl, -, ho6, hp6, hb6⟩)
      | (go_at_call 41; refine (eqT_any aT bT cT nT mT nT mT (IX.out _ (KD.out.1.trans (hb6.mono KD.out.1.size))) (own_IsTv ho6 hp6) HMT.out HPT.out).mono ?_; rintro e w7 ⟨rfl, hb7⟩))
  have X6 := KD.out.1.trans (hb6.mono KD.out.1.size)
  have X7 := X6.trans (hb7.mono X6.size)
  have S11 := Lib.hid (S10.out.quiet X7)
  clear S10 KEEP KD KT IA IX hb6 hb7 ho6 hp6 X6 X7
  have hNT := HNT.out
  have hQT := HQT.out
  have cc5 := (S11.out.cell (bx, 0, .int .i64 aT) (.tail _ (.tail _ (.tail _ (.tail _ (.tail _ (.head _))))))).2
  have cc6 := (S11.out.cell (bx, 1, .int .i64 bT) (.tail _ (.tail _ (.tail _ (.tail _ (.tail _ (.tail _ (.head _)))))))).2
  have cc7 := (S11.out.cell (bx, 2, .int .i64 cT) (.tail _ (.tail _ (.tail _ (.tail _ (.tail _ (.tail _ (.tail _ (.head _))))))))).2
  have cc8 := (S11.out.cell (bx, 3, .slice (some ⟨xf, 0, none⟩) nT nT) (.tail _ (.tail _ (.tail _ (.tail _ (.tail _ (.tail _ (.tail _ (.tail _ (.head _)))))))))).2
  have cc9 := (S11.out.cell (bx, 4, .slice (some ⟨xp, 0, none⟩) mT mT) (.tail _ (.tail _ (.tail _ (.tail _ (.tail _ (.tail _ (.tail _ (.tail _ (.tail _ (.head _))))))))))).2
  go_wp2_with fail
  refine (markT_gen aT bT cT _ _ nT mT nT mT w.heap.size 1 _ _ _ (by omega) (by omega) (S11.out.row (riv (some ⟨xf, 0, none⟩) nT nT (zT.map (.int .i64))) (.tail _ (.tail _ (.tail _ (.head _))))) (S11.out.row (rpv (some ⟨xp, 0, none⟩) mT mT (flatPump vT)) (.tail _ (.tail _ (.head _))))).mono ?_
  rintro e w8 ⟨rfl, M1, hg1, hg2, ho1, ho2⟩
  clear cc5 cc6 cc7 cc8 cc9
  have S12 := Lib.hid (S11.out.less (cs' := [(bg, 0, .int .i64 sa), (bg, 1, .int .i64 sb), (bg, 2, .int .i64 sc), (bg, 3, .slice F1 KF c1), (bg, 4, .slice E1 KE d1), (bw, 0, .int .i64 sa), (bw, 1, .int .i64 sb), (bw, 2, .int .i64 sc), (bw, 3, .slice F0 KF c0), (bw, 4, .slice E0 KE d0), (w.heap.size, 0, .int .i64 aT), (w.heap.size, 1, .int .i64 bT), (w.heap.size, 2, .int .i64 cT), (w.heap.size, 3, .slice AT nT qT), (w.heap.size, 4, .slice DT mT rT)]) (fun p hp => by simp only [List.mem_cons, List.not_mem_nil, or_false] at hp; rcases hp with rfl | rfl | rfl | rfl | rfl | rfl | rfl | rfl | rfl | rfl | rfl | rfl | rfl | rfl | rfl <;> simp))
  clear S11 
  clear ee_bx_xp ee_bx_xf ee_bx_E0 ee_bx_F0 ee_bx_F1 ee_bx_E1
  have S13 := Lib.hid (S12.out.sub (rows' := [riv (some ⟨xf, 0, none⟩) nT nT (zT.map (.int .i64)), rpv E1 KE d1 (flatPump vS), riv F1 KF c1 (zS.map (.int .i64)), rpv (some ⟨xp, 0, none⟩) mT mT (flatPump vT), rpv E0 KE d0 (flatPump vS), riv F0 KF c0 (zS.map (.int .i64))]) (by simp))
  clear S12 
  have S14 := Lib.hid (S13.out.turn (r' := riv (some ⟨xf, 0, none⟩) nT nT (nums 1 nT)) hg1 (fun q e => ((S13.out.row (riv (some ⟨xf, 0, none⟩) nT nT (zT.map (.int .i64))) (.head _)).lt q e).1) (fun p hp => by
      simp only [List.mem_cons, List.not_mem_nil, or_false] at hp
      rcases hp with rfl | rfl | rfl | rfl | rfl | rfl | rfl | rfl | rfl | rfl | rfl | rfl | rfl | rfl | rfl
      · exact ee_bg_xf
      · exact ee_bg_xf
      · exact ee_bg_xf
      · exact ee_bg_xf
      · exact ee_bg_xf
      · exact ee_bw_xf
      · exact ee_bw_xf
      · exact ee_bw_xf
      · exact ee_bw_xf
      · exact ee_bw_xf
      · exact ee_w_xf
      · exact ee_w_xf
      · exact ee_w_xf
      · exact ee_w_xf
      · exact ee_w_xf) (fun r hr => by
      simp only [List.mem_cons, List.not_mem_nil, or_false] at hr
      rcases hr with rfl | rfl | rfl | rfl | rfl
      · exact dd_E1_xf
      · exact dd_F1_xf
      · exact dd_xp_xf
      · exact dd_E0_xf
      · exact dd_F0_xf) ho1)
  clear S13
  have S15 := Lib.hid (S14.out.sub (rows' := [rpv (some ⟨xp, 0, none⟩) mT mT (flatPump vT), riv (some ⟨xf, 0, none⟩) nT nT (nums 1 nT), rpv E1 KE d1 (flatPump vS), riv F1 KF c1 (zS.map (.int .i64)), rpv E0 KE d0 (flatPump vS), riv F0 KF c0 (zS.map (.int .i64))]) (by simp))
  clear S14 
  have S16 := Lib.hid (S15.out.turn (r' := rpv (some ⟨xp, 0, none⟩) mT mT (flatPump (mkPump (1 + nT) mT))) hg2 (fun q e => ((S15.out.row (rpv (some ⟨xp, 0, none⟩) mT mT (flatPump vT)) (.head _)).lt q e).1) (fun p hp => by
      simp only [List.mem_cons, List.not_mem_nil, or_false] at hp
      rcases hp with rfl | rfl | rfl | rfl | rfl | rfl | rfl | rfl | rfl | rfl | rfl | rfl | rfl | rfl | rfl
      · exact ee_bg_xp
      · exact ee_bg_xp
      · exact ee_bg_xp
      · exact ee_bg_xp
      · exact ee_bg_xp
      · exact ee_bw_xp
      · exact ee_bw_xp
      · exact ee_bw_xp
      · exact ee_bw_xp
      · exact ee_bw_xp
      · exact ee_w_xp
      · exact ee_w_xp
      · exact ee_w_xp
      · exact ee_w_xp
      · exact ee_w_xp) (fun r hr => by
      simp only [List.mem_cons, List.not_mem_nil, or_false] at hr
      rcases hr with rfl | rfl | rfl | rfl | rfl
      · exact dd_xf_xp
      · exact dd_E1_xp
      · exact dd_F1_xp
      · exact dd_E0_xp
      · exact dd_F0_xp) ho2)
  clear S15
  clear hg1 hg2 ho1 ho2
  have S17 := Lib.hid (S16.out.sub (rows' := [rpv E1 KE d1 (flatPump vS), riv F1 KF c1 (zS.map (.int .i64)), rpv E0 KE d0 (flatPump vS), riv F0 KF c0 (zS.map (.int .i64))]) (by simp))
  clear S16 
  clear dd_E0_xf dd_xf_E0 dd_E0_xp dd_xp_E0 dd_F0_xf dd_xf_F0 dd_F0_xp dd_xp_F0 dd_xf_xp dd_xp_xf ee_bw_xf ee_bw_xp ee_w_xf ee_w_xp dd_xp_F1 dd_F1_xp dd_xp_E1 dd_E1_xp dd_xf_F1 dd_F1_xf dd_xf_E1 dd_E1_xf ee_bg_xp ee_bg_xf
  have hkk : ¬ (1 + (nT : Int) + 3 * (mT : Int) < 0) := by omega
  have cc0 := (S17.out.cell (bg, 0, .int .i64 sa) (.head _)).2
  have cc1 := (S17.out.cell (bg, 1, .int .i64 sb) (.tail _ (.head _))).2
  have cc2 := (S17.out.cell (bg, 2, .int .i64 sc) (.tail _ (.tail _ (.head _)))).2
  have cc3 := (S17.out.cell (bg, 3, .slice F1 KF c1) (.tail _ (.tail _ (.tail _ (.head _))))).2
  have cc4 := (S17.out.cell (bg, 4, .slice E1 KE d1) (.tail _ (.tail _ (.tail _ (.tail _ (.head _)))))).2
  have cc5 := (S17.out.cell (bw, 0, .int .i64 sa) (.tail _ (.tail _ (.tail _ (.tail _ (.tail _ (.head _))))))).2
  have cc6 := (S17.out.cell (bw, 1, .int .i64 sb) (.tail _ (.tail _ (.tail _ (.tail _ (.tail _ (.tail _ (.head _)))))))).2
  have cc7 := (S17.out.cell (bw, 2, .int .i64 sc) (.tail _ (.tail _ (.tail _ (.tail _ (.tail _ (.tail _ (.tail _ (.head _))))))))).2
  have cc8 := (S17.out.cell (bw, 3, .slice F0 KF c0) (.tail _ (.tail _ (.tail _ (.tail _ (.tail _ (.tail _ (.tail _ (.tail _ (.head _)))))))))).2
  have cc9 := (S17.out.cell (bw, 4, .slice E0 KE d0) (.tail _ (.tail _ (.tail _ (.tail _ (.tail _ (.tail _ (.tail _ (.tail _ (.tail _ (.head _))))))))))).2
  go_wp2_with fail
  refine (eqT_any sa sb sc c1 d1 c0 d0 (own_IsTv (S17.out.row (riv F1 KF c1 (zS.map (.int .i64))) (.tail _ (.head _))) (S17.out.row (rpv E1 KE d1 (flatPump vS)) (.head _))) (own_IsTv (S17.out.row (riv F0 KF c0 (zS.map (.int .i64))) (.tail _ (.tail _ (.tail _ (.head _))))) (S17.out.row (rpv E0 KE d0 (flatPump vS)) (.tail _ (.tail _ (.head _))))) HLF.out HLE.out).mono ?_
  rintro e w9 ⟨rfl, hb⟩
  clear cc0 cc1 cc2 cc3 cc4 cc5 cc6 cc7 cc8 cc9
  have S18 := Lib.hid (S17.out.quiet hb)
  clear S17 hb
  have cc0 := (S18.out.cell (bg, 0, .int .i64 sa) (.head _)).2
  have cc1 := (S18.out.cell (bg, 1, .int .i64 sb) (.tail _ (.head _))).2
  have cc2 := (S18.out.cell (bg, 2, .int .i64 sc) (.tail _ (.tail _ (.head _)))).2
  have cc3 := (S18.out.cell (bg, 3, .slice F1 KF c1) (.tail _ (.tail _ (.tail _ (.head _))))).2
  have cc4 := (S18.out.cell (bg, 4, .slice E1 KE d1) (.tail _ (.tail _ (.tail _ (.tail _ (.head _)))))).2
  go_wp2_with fail
  refine (markT_gen sa sb sc _ _ KF KE c1 d1 w.heap.size 1 _ _ _ (by omega) (by omega) (S18.out.row (riv F1 KF c1 (zS.map (.int .i64))) (.tail _ (.head _))) (S18.out.row (rpv E1 KE d1 (flatPump vS)) (.head _))).mono ?_
  rintro e w10 ⟨rfl, M2, hg1, hg2, ho1, ho2⟩
  clear cc0 cc1 cc2 cc3 cc4
  have S19 := Lib.hid (S18.out.sub (rows' := [riv F1 KF c1 (zS.map (.int .i64)), rpv E1 KE d1 (flatPump vS), rpv E0 KE d0 (flatPump vS), riv F0 KF c0 (zS.map (.int .i64))]) (by simp))
  clear S18 
  have S20 := Lib.hid (S19.out.turn (r' := riv F1 KF c1 (nums 1 KF)) hg1 (fun q e => ((S19.out.row (riv F1 KF c1 (zS.map (.int .i64))) (.head _)).lt q e).1) (fun p hp => by
      simp only [List.mem_cons, List.not_mem_nil, or_false] at hp
      rcases hp with rfl | rfl | rfl | rfl | rfl | rfl | rfl | rfl | rfl | rfl | rfl | rfl | rfl | rfl | rfl
      · exact ee_bg_F1
      · exact ee_bg_F1
      · exact ee_bg_F1
      · exact ee_bg_F1
      · exact ee_bg_F1
      · exact ee_bw_F1
      · exact ee_bw_F1
      · exact ee_bw_F1
      · exact ee_bw_F1
      · exact ee_bw_F1
      · exact ee_w_F1
      · exact ee_w_F1
      · exact ee_w_F1
      · exact ee_w_F1
      · exact ee_w_F1) (fun r hr => by
      simp only [List.mem_cons, List.not_mem_nil, or_false] at hr
      rcases hr with rfl | rfl | rfl
      · exact dd_E1_F1
      · exact dd_E0_F1
      · exact dd_F0_F1) ho1)
  clear S19
  have S21 := Lib.hid (S20.out.sub (rows' := [rpv E1 KE d1 (flatPump vS), riv F1 KF c1 (nums 1 KF), rpv E0 KE d0 (flatPump vS), riv F0 KF c0 (zS.map (.int .i64))]) (by simp))
  clear S20 
  have S22 := Lib.hid (S21.out.turn (r' := rpv E1 KE d1 (flatPump (mkPump (1 + KF) KE))) hg2 (fun q e => ((S21.out.row (rpv E1 KE d1 (flatPump vS)) (.head _)).lt q e).1) (fun p hp => by
      simp only [List.mem_cons, List.not_mem_nil, or_false] at hp
      rcases hp with rfl | rfl | rfl | rfl | rfl | rfl | rfl | rfl | rfl | rfl | rfl | rfl | rfl | rfl | rfl
      · exact ee_bg_E1
      · exact ee_bg_E1
      · exact ee_bg_E1
      · exact ee_bg_E1
      · exact ee_bg_E1
      · exact ee_bw_E1
      · exact ee_bw_E1
      · exact ee_bw_E1
      · exact ee_bw_E1
      · exact ee_bw_E1
      · exact ee_w_E1
      · exact ee_w_E1
      · exact ee_w_E1
      · exact ee_w_E1
      · exact ee_w_E1) (fun r hr => by
      simp only [List.mem_cons, List.not_mem_nil, or_false] at hr
      rcases hr with rfl | rfl | rfl
      · exact dd_F1_E1
      · exact dd_E0_E1
      · exact dd_F0_E1) ho2)
  clear S21
  clear hg1 hg2 ho1 ho2
  have cc0 := (S22.out.cell (bg, 0, .int .i64 sa) (.head _)).2
  have cc1 := (S22.out.cell (bg, 1, .int .i64 sb) (.tail _ (.head _))).2
  have cc2 := (S22.out.cell (bg, 2, .int .i64 sc) (.tail _ (.tail _ (.head _)))).2
  have cc3 := (S22.out.cell (bg, 3, .slice F1 KF c1) (.tail _ (.tail _ (.tail _ (.head _))))).2
  have cc4 := (S22.out.cell (bg, 4, .slice E1 KE d1) (.tail _ (.tail _ (.tail _ (.tail _ (.head _)))))).2
  go_wp2_with fail
  refine (heldT_gen sa sb sc _ _ KF KE c1 d1 _ _ 1 _ (by omega) (by omega) (S22.out.row (riv F1 KF c1 (nums 1 KF)) (.tail _ (.head _))) (S22.out.row (rpv E1 KE d1 (flatPump (mkPump (1 + KF) KE))) (.head _))).mono ?_
  rintro e w11 ⟨rfl, hb⟩
  clear cc0 cc1 cc2 cc3 cc4
  have S23 := Lib.hid (S22.out.quiet hb)
  clear S22 hb
  have hq1 : ¬ (1 + (KF : Int) + 3 * (KE : Int) < 0) := by omega
  have hq2 : ((1 + (KF : Int) + 3 * (KE : Int)) != (1 + (KF : Int) + 3 * (KE : Int))) = false := by simp
  have cc10 := (S23.out.cell (w.heap.size, 0, .int .i64 aT) (.tail _ (.tail _ (.tail _ (.tail _ (.tail _ (.tail _ (.tail _ (.tail _ (.tail _ (.tail _ (.head _)))))))))))).2
  have cc11 := (S23.out.cell (w.heap.size, 1, .int .i64 bT) (.tail _ (.tail _ (.tail _ (.tail _ (.tail _ (.tail _ (.tail _ (.tail _ (.tail _ (.tail _ (.tail _ (.head _))))))))))))).2
  have cc12 := (S23.out.cell (w.heap.size, 2, .int .i64 cT) (.tail _ (.tail _ (.tail _ (.tail _ (.tail _ (.tail _ (.tail _ (.tail _ (.tail _ (.tail _ (.tail _ (.tail _ (.head _)))))))))))))).2
  have cc13 := (S23.out.cell (w.heap.size, 3, .slice AT nT qT) (.tail _ (.tail _ (.tail _ (.tail _ (.tail _ (.tail _ (.tail _ (.tail _ (.tail _ (.tail _ (.tail _ (.tail _ (.tail _ (.head _))))))))))))))).2
  have cc14 := (S23.out.cell (w.heap.size, 4, .slice DT mT rT) (.tail _ (.tail _ (.tail _ (.tail _ (.tail _ (.tail _ (.tail _ (.tail _ (.tail _ (.tail _ (.tail _ (.tail _ (.tail _ (.tail _ (.head _)))))))))))))))).2
  go_wp2_with fail
  refine (toT_any aT bT cT qT rT (ITT.out _ S23.out.low) HNT.out HQT.out).mono ?_
  rintro e w12 ⟨t2, u2, rfl, -, ho, hp, hb⟩
  clear cc10 cc11 cc12 cc13 cc14
  obtain ⟨dd_E1_t2, dd_t2_E1⟩ := apart_rows (S23.out.row (rpv E1 KE d1 (flatPump (mkPump (1 + KF) KE))) (.head _)) ho
  obtain ⟨dd_E1_u2, dd_u2_E1⟩ := apart_rows (S23.out.row (rpv E1 KE d1 (flatPump (mkPump (1 + KF) KE))) (.head _)) hp
  obtain ⟨dd_F1_t2, dd_t2_F1⟩ := apart_rows (S23.out.row (riv F1 KF c1 (nums 1 KF)) (.tail _ (.head _))) ho
  obtain ⟨dd_F1_u2, dd_u2_F1⟩ := apart_rows (S23.out.row (riv F1 KF c1 (nums 1 KF)) (.tail _ (.head _))) hp
  obtain ⟨dd_E0_t2, dd_t2_E0⟩ := apart_rows (S23.out.row (rpv E0 KE d0 (flatPump vS)) (.tail _ (.tail _ (.head _)))) ho
  obtain ⟨dd_E0_u2, dd_u2_E0⟩ := apart_rows (S23.out.row (rpv E0 KE d0 (flatPump vS)) (.tail _ (.tail _ (.head _)))) hp
  obtain ⟨dd_F0_t2, dd_t2_F0⟩ := apart_rows (S23.out.row (riv F0 KF c0 (zS.map (.int .i64))) (.tail _ (.tail _ (.tail _ (.head _))))) ho
  obtain ⟨dd_F0_u2, dd_u2_F0⟩ := apart_rows (S23.out.row (riv F0 KF c0 (zS.map (.int .i64))) (.tail _ (.tail _ (.tail _ (.head _))))) hp
  have dd_t2_u2 := own_ne ho hp (by decide)
  have dd_u2_t2 := own_ne hp ho (by decide)
  have ee_bg_t2 := apart_box (S23.out.cell (bg, 0, .int .i64 sa) (.head _)).2 ho
  have ee_bg_u2 := apart_box (S23.out.cell (bg, 0, .int .i64 sa) (.head _)).2 hp
  have ee_bw_t2 := apart_box (S23.out.cell (bw, 0, .int .i64 sa) (.tail _ (.tail _ (.tail _ (.tail _ (.tail _ (.head _))))))).2 ho
  have ee_bw_u2 := apart_box (S23.out.cell (bw, 0, .int .i64 sa) (.tail _ (.tail _ (.tail _ (.tail _ (.tail _ (.head _))))))).2 hp
  have ee_w_t2 := apart_box (S23.out.cell (w.heap.size, 0, .int .i64 aT) (.tail _ (.tail _ (.tail _ (.tail _ (.tail _ (.tail _ (.tail _ (.tail _ (.tail _ (.tail _ (.head _)))))))))))).2 ho
  have ee_w_u2 := apart_box (S23.out.cell (w.heap.size, 0, .int .i64 aT) (.tail _ (.tail _ (.tail _ (.tail _ (.tail _ (.tail _ (.tail _ (.tail _ (.tail _ (.tail _ (.head _)))))))))))).2 hp
  have S24 := Lib.hid (((S23.out.quiet hb).own (riv (some ⟨t2, 0, none⟩) nT nT (zT.map (.int .i64))) (own_low ho S23.out.low.size)).own (rpv (some ⟨u2, 0, none⟩) mT mT (flatPump vT)) (own_low hp S23.out.low.size))
  clear S23 hb ho hp
  go_wp2_with fail
  refine (CI.out _ _ _ _ _ (own_IsTv (S24.out.row (riv (some ⟨t2, 0, none⟩) nT nT (zT.map (.int .i64))) (.tail _ (.head _))) (S24.out.row (rpv (some ⟨u2, 0, none⟩) mT mT (flatPump vT)) (.head _))) HNT.out HQT.out).mono ?_
  rintro e w13 ⟨F2, c2, E2, d2, rfl, ho, hp, hb⟩
  obtain ⟨dd_u2_F2, dd_F2_u2⟩ := apart_rows (S24.out.row (rpv (some ⟨u2, 0, none⟩) mT mT (flatPump vT)) (.head _)) ho
  obtain ⟨dd_u2_E2, dd_E2_u2⟩ := apart_rows (S24.out.row (rpv (some ⟨u2, 0, none⟩) mT mT (flatPump vT)) (.head _)) hp
  obtain ⟨dd_t2_F2, dd_F2_t2⟩ := apart_rows (S24.out.row (riv (some ⟨t2, 0, none⟩) nT nT (zT.map (.int .i64))) (.tail _ (.head _))) ho
  obtain ⟨dd_t2_E2, dd_E2_t2⟩ := apart_rows (S24.out.row (riv (some ⟨t2, 0, none⟩) nT nT (zT.map (.int .i64))) (.tail _ (.head _))) hp
  obtain ⟨dd_E1_F2, dd_F2_E1⟩ := apart_rows (S24.out.row (rpv E1 KE d1 (flatPump (mkPump (1 + KF) KE))) (.tail _ (.tail _ (.head _)))) ho
  obtain ⟨dd_E1_E2, dd_E2_E1⟩ := apart_rows (S24.out.row (rpv E1 KE d1 (flatPump (mkPump (1 + KF) KE))) (.tail _ (.tail _ (.head _)))) hp
  obtain ⟨dd_F1_F2, dd_F2_F1⟩ := apart_rows (S24.out.row (riv F1 KF c1 (nums 1 KF)) (.tail _ (.tail _ (.tail _ (.head _))))) ho
  obtain ⟨dd_F1_E2, dd_E2_F1⟩ := apart_rows (S24.out.row (riv F1 KF c1 (nums 1 KF)) (.tail _ (.tail _ (.tail _ (.head _))))) hp
  obtain ⟨dd_E0_F2, dd_F2_E0⟩ := apart_rows (S24.out.row (rpv E0 KE d0 (flatPump vS)) (.tail _ (.tail _ (.tail _ (.tail _ (.head _)))))) ho
  obtain ⟨dd_E0_E2, dd_E2_E0⟩ := apart_rows (S24.out.row (rpv E0 KE d0 (flatPump vS)) (.tail _ (.tail _ (.tail _ (.tail _ (.head _)))))) hp
  obtain ⟨dd_F0_F2, dd_F2_F0⟩ := apart_rows (S24.out.row (riv F0 KF c0 (zS.map (.int .i64))) (.tail _ (.tail _ (.tail _ (.tail _ (.tail _ (.head _))))))) ho
  obtain ⟨dd_F0_E2, dd_E2_F0⟩ := apart_rows (S24.out.row (riv F0 KF c0 (zS.map (.int .i64))) (.tail _ (.tail _ (.tail _ (.tail _ (.tail _ (.head _))))))) hp
  have dd_F2_E2 := own_ne ho hp (by decide)
  have dd_E2_F2 := own_ne hp ho (by decide)
  have ee_bg_F2 := apart_box (S24.out.cell (bg, 0, .int .i64 sa) (.head _)).2 ho
  have ee_bg_E2 := apart_box (S24.out.cell (bg, 0, .int .i64 sa) (.head _)).2 hp
  have ee_bw_F2 := apart_box (S24.out.cell (bw, 0, .int .i64 sa) (.tail _ (.tail _ (.tail _ (.tail _ (.tail _ (.head _))))))).2 ho
  have ee_bw_E2 := apart_box (S24.out.cell (bw, 0, .int .i64 sa) (.tail _ (.tail _ (.tail _ (.tail _ (.tail _ (.head _))))))).2 hp
  have ee_w_F2 := apart_box (S24.out.cell (w.heap.size, 0, .int .i64 aT) (.tail _ (.tail _ (.tail _ (.tail _ (.tail _ (.tail _ (.tail _ (.tail _ (.tail _ (.tail _ (.head _)))))))))))).2 ho
  have ee_w_E2 := apart_box (S24.out.cell (w.heap.size, 0, .int .i64 aT) (.tail _ (.tail _ (.tail _ (.tail _ (.tail _ (.tail _ (.tail _ (.tail _ (.tail _ (.tail _ (.head _)))))))))))).2 hp
  have S25 := Lib.hid (((S24.out.quiet hb).own (riv F2 KF c2 (zS.map (.int .i64))) (own_low ho S24.out.low.size)).own (rpv E2 KE d2 (flatPump vS)) (own_low hp S24.out.low.size))
  clear S24 hb ho hp
  have S26 := Lib.hid (S25.out.sub (rows' := [rpv E2 KE d2 (flatPump vS), riv F2 KF c2 (zS.map (.int .i64)), rpv E1 KE d1 (flatPump (mkPump (1 + KF) KE)), riv F1 KF c1 (nums 1 KF), rpv E0 KE d0 (flatPump vS), riv F0 KF c0 (zS.map (.int .i64))]) (by simp))
  clear S25 
  clear dd_E1_t2 dd_t2_E1 dd_E1_u2 dd_u2_E1 dd_F1_t2 dd_t2_F1 dd_F1_u2 dd_u2_F1 dd_E0_t2 dd_t2_E0 dd_E0_u2 dd_u2_E0 dd_F0_t2 dd_t2_F0 dd_F0_u2 dd_u2_F0 dd_t2_u2 dd_u2_t2 ee_bg_t2 ee_bg_u2 ee_bw_t2 ee_bw_u2 ee_w_t2 ee_w_u2 dd_u2_F2 dd_F2_u2 dd_u2_E2 dd_E2_u2 dd_t2_F2 dd_F2_t2 dd_t2_E2 dd_E2_t2
  have ee_bh_E2 := apart_new (S26.out.row (rpv E2 KE d2 (flatPump vS)) (.head _))
  have ee_bh_F2 := apart_new (S26.out.row (riv F2 KF c2 (zS.map (.int .i64))) (.tail _ (.head _)))
  have ee_bh_E1 := apart_new (S26.out.row (rpv E1 KE d1 (flatPump (mkPump (1 + KF) KE))) (.tail _ (.tail _ (.head _))))
  have ee_bh_F1 := apart_new (S26.out.row (riv F1 KF c1 (nums 1 KF)) (.tail _ (.tail _ (.tail _ (.head _)))))
  have ee_bh_E0 := apart_new (S26.out.row (rpv E0 KE d0 (flatPump vS)) (.tail _ (.tail _ (.tail _ (.tail _ (.head _))))))
  have ee_bh_F0 := apart_new (S26.out.row (riv F0 KF c0 (zS.map (.int .i64))) (.tail _ (.tail _ (.tail _ (.tail _ (.tail _ (.head _)))))))
  have zz : w.heap.size ≤ w13.heap.size := S26.out.low.size
  have S27 := Lib.hid ((S26.out.quiet (Below.alloc (Below.refl _ w13) (Nat.le_refl _) (.cells #[.int .i64 sa, .int .i64 sb, .int .i64 sc, .slice F2 KF c2, .slice E2 KE d2] 27))).cells (ds := [(w13.heap.size, 0, .int .i64 sa), (w13.heap.size, 1, .int .i64 sb), (w13.heap.size, 2, .int .i64 sc), (w13.heap.size, 3, .slice F2 KF c2), (w13.heap.size, 4, .slice E2 KE d2)]) (fun p hp => by
      simp only [List.mem_cons, List.not_mem_nil, or_false] at hp
      rcases hp with rfl | rfl | rfl | rfl | rfl <;> exact ⟨zz, by rw [sNew]; rfl⟩))
  obtain ⟨bh, hbh⟩ : ∃ g, w13.heap.size = g := ⟨_, rfl⟩
  rw [hbh] at S27 ee_bh_E2 ee_bh_F2 ee_bh_E1 ee_bh_F1 ee_bh_E0 ee_bh_F0
  clear zz S26
  have cc0 := (S27.out.cell (bh, 0, .int .i64 sa) (.head _)).2
  have cc1 := (S27.out.cell (bh, 1, .int .i64 sb) (.tail _ (.head _))).2
  have cc2 := (S27.out.cell (bh, 2, .int .i64 sc) (.tail _ (.tail _ (.head _)))).2
  have cc3 := (S27.out.cell (bh, 3, .slice F2 KF c2) (.tail _ (.tail _ (.tail _ (.head _))))).2
  have cc4 := (S27.out.cell (bh, 4, .slice E2 KE d2) (.tail _ (.tail _ (.tail _ (.tail _ (.head _)))))).2
  have cc10 := (S27.out.cell (bw, 0, .int .i64 sa) (.tail _ (.tail _ (.tail _ (.tail _ (.tail _ (.tail _ (.tail _ (.tail _ (.tail _ (.tail _ (.head _)))))))))))).2
  have cc11 := (S27.out.cell (bw, 1, .int .i64 sb) (.tail _ (.tail _ (.tail _ (.tail _ (.tail _ (.tail _ (.tail _ (.tail _ (.tail _ (.tail _ (.tail _ (.head _))))))))))))).2
  have cc12 := (S27.out.cell (bw, 2, .int .i64 sc) (.tail _ (.tail _ (.tail _ (.tail _ (.tail _ (.tail _ (.tail _ (.tail _ (.tail _ (.tail _ (.tail _ (.tail _ (.head _)))))))))))))).2
  have cc13 := (S27.out.cell (bw, 3, .slice F0 KF c0) (.tail _ (.tail _ (.tail _ (.tail _ (.tail _ (.tail _ (.tail _ (.tail _ (.tail _ (.tail _ (.tail _ (.tail _ (.tail _ (.head _))))))))))))))).2
  have cc14 := (S27.out.cell (bw, 4, .slice E0 KE d0) (.tail _ (.tail _ (.tail _ (.tail _ (.tail _ (.tail _ (.tail _ (.tail _ (.tail _ (.tail _ (.tail _ (.tail _ (.tail _ (.tail _ (.head _)))))))))))))))).2
  go_wp2_with fail
  refine (eqT_any sa sb sc c2 d2 c0 d0 (own_IsTv (S27.out.row (riv F2 KF c2 (zS.map (.int .i64))) (.tail _ (.head _))) (S27.out.row (rpv E2 KE d2 (flatPump vS)) (.head _))) (own_IsTv (S27.out.row (riv F0 KF c0 (zS.map (.int .i64))) (.tail _ (.tail _ (.tail _ (.tail _ (.tail _ (.head _))))))) (S27.out.row (rpv E0 KE d0 (flatPump vS)) (.tail _ (.tail _ (.tail _ (.tail _ (.head _))))))) HLF.out HLE.out).mono ?_
  rintro e w14 ⟨rfl, hb⟩
  clear cc0 cc1 cc2 cc3 cc4 cc10 cc11 cc12 cc13 cc14
  have S28 := Lib.hid (S27.out.quiet hb)
  clear S27 hb
  have cc5 := (S28.out.cell (bg, 0, .int .i64 sa) (.tail _ (.tail _ (.tail _ (.tail _ (.tail _ (.head _))))))).2
  have cc6 := (S28.out.cell (bg, 1, .int .i64 sb) (.tail _ (.tail _ (.tail _ (.tail _ (.tail _ (.tail _ (.head _)))))))).2
  have cc7 := (S28.out.cell (bg, 2, .int .i64 sc) (.tail _ (.tail _ (.tail _ (.tail _ (.tail _ (.tail _ (.tail _ (.head _))))))))).2
  have cc8 := (S28.out.cell (bg, 3, .slice F1 KF c1) (.tail _ (.tail _ (.tail _ (.tail _ (.tail _ (.tail _ (.tail _ (.tail _ (.head _)))))))))).2
  have cc9 := (S28.out.cell (bg, 4, .slice E1 KE d1) (.tail _ (.tail _ (.tail _ (.tail _ (.tail _ (.tail _ (.tail _ (.tail _ (.tail _ (.head _))))))))))).2
  go_wp2_with fail
  refine (heldT_gen sa sb sc _ _ KF KE c1 d1 _ _ 1 _ (by omega) (by omega) (S28.out.row (riv F1 KF c1 (nums 1 KF)) (.tail _ (.tail _ (.tail _ (.head _))))) (S28.out.row (rpv E1 KE d1 (flatPump (mkPump (1 + KF) KE))) (.tail _ (.tail _ (.head _))))).mono ?_
  rintro e w15 ⟨rfl, hb⟩
  clear cc5 cc6 cc7 cc8 cc9
  have S29 := Lib.hid (S28.out.quiet hb)
  clear S28 hb
  go_wp2_with fail
  go_ret
  exact ⟨rfl, S29.out.low⟩
end Go.Proofs.Ytdjoiodkmanacaa.fnExactWithoutPump
