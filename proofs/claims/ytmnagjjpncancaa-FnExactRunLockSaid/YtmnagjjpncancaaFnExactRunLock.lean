/- RunLock answers as its model does, at every state and list of commands, and writes into no argument. -/
import Derived.Test.YtmnagjjpncancaaLoJ
import Derived.Test.YtmnagjjpncancaaIntX
import Derived.Test.YtmnagjjpncancaaCur
import Derived.Test.YtmnagjjpncancaaSt0
import Derived.OpenShut
import Derived.ShutString
import Derived.ChangeOld
import Derived.WalkLawsBesides
import Derived.Lib.SmallJoins
import Derived.Deep.RegionHeld3
namespace Go.Proofs.Ytmnagjjpncancaa.fnExactRunLock
open Go.ChangeShapes Go.WideShapes Go.ChangeAt Go.RowKit
open Go.ChangeMaps (open_string shut_string)
set_option linter.unusedVariables false
set_option linter.unusedSimpArgs false

abbrev ri (g n c : Nat) (xs : List Value) : RowOf := ⟨3, 1, .slice (some ⟨g, 0, none⟩) n c, n, xs⟩

set_option maxRecDepth 100000 in
set_option maxHeartbeats 4000000 in
theorem walk (s0 : Int) (s1 : Int) (s2 : Int) (s3 : Bool) (s4 : Bool) (s5 : Bool) (s6 : Bool) (Ac : Option Addr) (nc cc : Nat) (zc : List Int) (w : World) (hIc : IsInts .i64 w Ac nc zc) :
    Calls Try.prog 6 #[.agg #[.int .i64 s0, .int .i64 s1, .int .i64 s2, .bool s3, .bool s4, .bool s5, .bool s6], .slice Ac nc cc] w fun e w' => e = .returned (.bool true) ∧ Below w.heap.size w w' := by
  have HLc : Hid (zc.length = nc) := Lib.hid hIc.1
  have IVc := Lib.hid (fun W (hb : Below w.heap.size w W) => hIc.2.2.2.below hb)
  have hMc : nc ≤ 9223372036854775807 := Nat.le_trans hIc.2.1 (by unfold maxLen; omega)
  obtain ⟨R0, R1, R2, R3, R4, R5, R6, m, x, hA⟩ := ansR_ex (goodL ⟨s0, s1, s2, s3, s4, s5, s6⟩ = true ∧ nc ≤ 60) (runL ⟨s0, s1, s2, s3, s4, s5, s6⟩ zc)
  have HA := Lib.hid hA
  have hmm : (m != m) = false := by simp
  have hxx : (x != x) = false := by simp
  clear hA
  clear hIc
  go_enter Try.func6, Try.ntmps6
  have S0 : Hid (St w [(w.heap.size, 0, .int .i64 s0), (w.heap.size, 1, .int .i64 s1), (w.heap.size, 2, .int .i64 s2), (w.heap.size, 3, .bool s3), (w.heap.size, 4, .bool s4), (w.heap.size, 5, .bool s5), (w.heap.size, 6, .bool s6)] [] (World.alloc w (.cells #[.int .i64 s0, .int .i64 s1, .int .i64 s2, .bool s3, .bool s4, .bool s5, .bool s6] 28))) := Lib.hid (by
    have k0 := ((St.start w)).quiet (Below.alloc (Below.refl _ w) (Nat.le_refl _) (.cells #[.int .i64 s0, .int .i64 s1, .int .i64 s2, .bool s3, .bool s4, .bool s5, .bool s6] 28))
    have j0 := k0.cells (ds := [(w.heap.size, 0, .int .i64 s0), (w.heap.size, 1, .int .i64 s1), (w.heap.size, 2, .int .i64 s2), (w.heap.size, 3, .bool s3), (w.heap.size, 4, .bool s4), (w.heap.size, 5, .bool s5), (w.heap.size, 6, .bool s6)]) (fun p hp => by
      simp only [List.mem_cons, List.not_mem_nil, or_false] at hp
      rcases hp with rfl | rfl | rfl | rfl | rfl | rfl | rfl
      · exact ⟨by omega, by rw [sNew]; rfl⟩
      · exact ⟨by omega, by rw [sNew]; rfl⟩
      · exact ⟨by omega, by rw [sNew]; rfl⟩
      · exact ⟨by omega, by rw [sNew]; rfl⟩
      · exact ⟨by omega, by rw [sNew]; rfl⟩
      · exact ⟨by omega, by rw [sNew]; rfl⟩
      · exact ⟨by omega, by rw [sNew]; rfl⟩)
    exact j0)
  by_cases bigc : 1048576 < nc
  · go_wp2_with fail
    go_ret
    exact ⟨rfl, S0.out.low⟩
  have HNc : Hid (nc ≤ 1048576) := Lib.hid (by omega)
  have cc0 := (S0.out.cell (w.heap.size, 0, .int .i64 s0) (by simp)).2
  have cc1 := (S0.out.cell (w.heap.size, 1, .int .i64 s1) (by simp)).2
  have cc2 := (S0.out.cell (w.heap.size, 2, .int .i64 s2) (by simp)).2
  have cc3 := (S0.out.cell (w.heap.size, 3, .bool s3) (by simp)).2
  have cc4 := (S0.out.cell (w.heap.size, 4, .bool s4) (by simp)).2
  have cc5 := (S0.out.cell (w.heap.size, 5, .bool s5) (by simp)).2
  have cc6 := (S0.out.cell (w.heap.size, 6, .bool s6) (by simp)).2
  go_wp2_with fail
  refine (toLockState_any s0 s1 s2 s3 s4 s5 s6 _).mono ?_
  rintro e w1 ⟨rfl, hb⟩
  have S1 := Lib.hid (S0.out.quiet hb)
  clear cc0 cc1 cc2 cc3 cc4 cc5 cc6
  clear hb S0
  have cc0 := (S1.out.cell (w.heap.size, 0, .int .i64 s0) (by simp)).2
  have cc1 := (S1.out.cell (w.heap.size, 1, .int .i64 s1) (by simp)).2
  have cc2 := (S1.out.cell (w.heap.size, 2, .int .i64 s2) (by simp)).2
  have cc3 := (S1.out.cell (w.heap.size, 3, .bool s3) (by simp)).2
  have cc4 := (S1.out.cell (w.heap.size, 4, .bool s4) (by simp)).2
  have cc5 := (S1.out.cell (w.heap.size, 5, .bool s5) (by simp)).2
  have cc6 := (S1.out.cell (w.heap.size, 6, .bool s6) (by simp)).2
  go_wp2_with fail
  refine (toI_ex Ac nc cc w.heap.size zc _ HLc.out HNc.out S1.out.low.size (IVc.out _ S1.out.low)).mono ?_
  rintro e w2 ⟨t1, rfl, hown, hb⟩
  have zt1 := hown.lt t1 rfl
  have bt1 : w.heap.size + 1 ≤ t1 := by have h1 := World.block_lt_of_cell? _ _ cc6; have h2 := zt1.1; simp at h1; (try simp at h2); omega
  have qt1 : w.heap.size ≤ t1 := Nat.le_trans S1.out.low.size zt1.1
  have S2 := Lib.hid ((S1.out.quiet hb).own (ri t1 nc nc (zc.map (.int .i64))) (own_low hown S1.out.low.size))
  clear cc0 cc1 cc2 cc3 cc4 cc5 cc6
  clear hb hown zt1 S1
  have cc0 := (S2.out.cell (w.heap.size, 0, .int .i64 s0) (by simp)).2
  have cc1 := (S2.out.cell (w.heap.size, 1, .int .i64 s1) (by simp)).2
  have cc2 := (S2.out.cell (w.heap.size, 2, .int .i64 s2) (by simp)).2
  have cc3 := (S2.out.cell (w.heap.size, 3, .bool s3) (by simp)).2
  have cc4 := (S2.out.cell (w.heap.size, 4, .bool s4) (by simp)).2
  have cc5 := (S2.out.cell (w.heap.size, 5, .bool s5) (by simp)).2
  have cc6 := (S2.out.cell (w.heap.size, 6, .bool s6) (by simp)).2
  go_wp2_with fail
  refine (runS_any s0 s1 s2 s3 s4 s5 s6 _ _ _ _ zc R0 R1 R2 R3 R4 R5 R6 m x HA.out _ HLc.out (Nat.le_trans HNc.out (by unfold maxLen; omega)) (Nat.le_refl _) (own_hasv (S2.out.row (ri t1 nc nc (zc.map (.int .i64))) (by simp)))).mono ?_
  rintro e w3 ⟨rfl, hb⟩
  have S3 := Lib.hid (S2.out.quiet hb)
  clear cc0 cc1 cc2 cc3 cc4 cc5 cc6
  clear hb S2
  have zzw3 : w.heap.size ≤ w3.heap.size := S3.out.low.size
  have S4 := Lib.hid ((S3.out.quiet (Below.alloc (Below.refl _ w3) (Nat.le_refl _) (.cells #[.int .i64 R0, .int .i64 R1, .int .i64 R2, .bool R3, .bool R4, .bool R5, .bool R6] 23))).cells (ds := [(w3.heap.size, 0, .int .i64 R0), (w3.heap.size, 1, .int .i64 R1), (w3.heap.size, 2, .int .i64 R2), (w3.heap.size, 3, .bool R3), (w3.heap.size, 4, .bool R4), (w3.heap.size, 5, .bool R5), (w3.heap.size, 6, .bool R6)]) (fun p hp => by
      simp only [List.mem_cons, List.not_mem_nil, or_false] at hp
      rcases hp with rfl | rfl | rfl | rfl | rfl | rfl | rfl
      · exact ⟨zzw3, by rw [sNew]; rfl⟩
      · exact ⟨zzw3, by rw [sNew]; rfl⟩
      · exact ⟨zzw3, by rw [sNew]; rfl⟩
      · exact ⟨zzw3, by rw [sNew]; rfl⟩
      · exact ⟨zzw3, by rw [sNew]; rfl⟩
      · exact ⟨zzw3, by rw [sNew]; rfl⟩
      · exact ⟨zzw3, by rw [sNew]; rfl⟩))
  clear zzw3 S3
  have S5 := Lib.hid (S4.out.sub (rows' := []) (by simp))
  clear S4
  have cc0 := (S5.out.cell (w3.heap.size, 0, .int .i64 R0) (by simp)).2
  have cc1 := (S5.out.cell (w3.heap.size, 1, .int .i64 R1) (by simp)).2
  have cc2 := (S5.out.cell (w3.heap.size, 2, .int .i64 R2) (by simp)).2
  have cc3 := (S5.out.cell (w3.heap.size, 3, .bool R3) (by simp)).2
  have cc4 := (S5.out.cell (w3.heap.size, 4, .bool R4) (by simp)).2
  have cc5 := (S5.out.cell (w3.heap.size, 5, .bool R5) (by simp)).2
  have cc6 := (S5.out.cell (w3.heap.size, 6, .bool R6) (by simp)).2
  have cc7 := (S5.out.cell (w.heap.size, 0, .int .i64 s0) (by simp)).2
  have cc8 := (S5.out.cell (w.heap.size, 1, .int .i64 s1) (by simp)).2
  have cc9 := (S5.out.cell (w.heap.size, 2, .int .i64 s2) (by simp)).2
  have cc10 := (S5.out.cell (w.heap.size, 3, .bool s3) (by simp)).2
  have cc11 := (S5.out.cell (w.heap.size, 4, .bool s4) (by simp)).2
  have cc12 := (S5.out.cell (w.heap.size, 5, .bool s5) (by simp)).2
  have cc13 := (S5.out.cell (w.heap.size, 6, .bool s6) (by simp)).2
  go_wp2_with fail
  refine (toI_ex Ac nc cc w.heap.size zc _ HLc.out HNc.out S5.out.low.size (IVc.out _ S5.out.low)).mono ?_
  rintro e w4 ⟨xc, rfl, hown, hb⟩
  have zxc := hown.lt xc rfl
  have bxc : w.heap.size + 1 ≤ xc := by have h1 := World.block_lt_of_cell? _ _ cc13; have h2 := zxc.1; simp at h1; (try simp at h2); omega
  have qxc : w.heap.size ≤ xc := Nat.le_trans S5.out.low.size zxc.1
  have S6 := Lib.hid ((S5.out.quiet hb).own (ri xc nc nc (zc.map (.int .i64))) (own_low hown S5.out.low.size))
  clear cc0 cc1 cc2 cc3 cc4 cc5 cc6 cc7 cc8 cc9 cc10 cc11 cc12 cc13
  clear hb hown zxc S5
  have cc0 := (S6.out.cell (w3.heap.size, 0, .int .i64 R0) (by simp)).2
  have cc1 := (S6.out.cell (w3.heap.size, 1, .int .i64 R1) (by simp)).2
  have cc2 := (S6.out.cell (w3.heap.size, 2, .int .i64 R2) (by simp)).2
  have cc3 := (S6.out.cell (w3.heap.size, 3, .bool R3) (by simp)).2
  have cc4 := (S6.out.cell (w3.heap.size, 4, .bool R4) (by simp)).2
  have cc5 := (S6.out.cell (w3.heap.size, 5, .bool R5) (by simp)).2
  have cc6 := (S6.out.cell (w3.heap.size, 6, .bool R6) (by simp)).2
  have cc7 := (S6.out.cell (w.heap.size, 0, .int .i64 s0) (by simp)).2
  have cc8 := (S6.out.cell (w.heap.size, 1, .int .i64 s1) (by simp)).2
  have cc9 := (S6.out.cell (w.heap.size, 2, .int .i64 s2) (by simp)).2
  have cc10 := (S6.out.cell (w.heap.size, 3, .bool s3) (by simp)).2
  have cc11 := (S6.out.cell (w.heap.size, 4, .bool s4) (by simp)).2
  have cc12 := (S6.out.cell (w.heap.size, 5, .bool s5) (by simp)).2
  have cc13 := (S6.out.cell (w.heap.size, 6, .bool s6) (by simp)).2
  go_wp2_with fail
  refine (toLockState_any s0 s1 s2 s3 s4 s5 s6 _).mono ?_
  rintro e w5 ⟨rfl, hb⟩
  have S7 := Lib.hid (S6.out.quiet hb)
  clear cc0 cc1 cc2 cc3 cc4 cc5 cc6 cc7 cc8 cc9 cc10 cc11 cc12 cc13
  clear hb S6
  have cc0 := (S7.out.cell (w3.heap.size, 0, .int .i64 R0) (by simp)).2
  have cc1 := (S7.out.cell (w3.heap.size, 1, .int .i64 R1) (by simp)).2
  have cc2 := (S7.out.cell (w3.heap.size, 2, .int .i64 R2) (by simp)).2
  have cc3 := (S7.out.cell (w3.heap.size, 3, .bool R3) (by simp)).2
  have cc4 := (S7.out.cell (w3.heap.size, 4, .bool R4) (by simp)).2
  have cc5 := (S7.out.cell (w3.heap.size, 5, .bool R5) (by simp)).2
  have cc6 := (S7.out.cell (w3.heap.size, 6, .bool R6) (by simp)).2
  have cc7 := (S7.out.cell (w.heap.size, 0, .int .i64 s0) (by simp)).2
  have cc8 := (S7.out.cell (w.heap.size, 1, .int .i64 s1) (by simp)).2
  have cc9 := (S7.out.cell (w.heap.size, 2, .int .i64 s2) (by simp)).2
  have cc10 := (S7.out.cell (w.heap.size, 3, .bool s3) (by simp)).2
  have cc11 := (S7.out.cell (w.heap.size, 4, .bool s4) (by simp)).2
  have cc12 := (S7.out.cell (w.heap.size, 5, .bool s5) (by simp)).2
  have cc13 := (S7.out.cell (w.heap.size, 6, .bool s6) (by simp)).2
  go_wp2_with fail
  refine (runI_any s0 s1 s2 s3 s4 s5 s6 _ _ _ _ zc R0 R1 R2 R3 R4 R5 R6 m x HA.out _ HLc.out (Nat.le_trans HNc.out (by unfold maxLen; omega)) (Nat.le_refl _) (own_hasv (S7.out.row (ri xc nc nc (zc.map (.int .i64))) (by simp)))).mono ?_
  rintro e w6 ⟨rfl, hb⟩
  have S8 := Lib.hid (S7.out.quiet hb)
  clear cc0 cc1 cc2 cc3 cc4 cc5 cc6 cc7 cc8 cc9 cc10 cc11 cc12 cc13
  clear hb S7
  have zzw6 : w.heap.size ≤ w6.heap.size := S8.out.low.size
  have S9 := Lib.hid ((S8.out.quiet (Below.alloc (Below.refl _ w6) (Nat.le_refl _) (.cells #[.int .i64 R0, .int .i64 R1, .int .i64 R2, .bool R3, .bool R4, .bool R5, .bool R6] 23))).cells (ds := [(w6.heap.size, 0, .int .i64 R0), (w6.heap.size, 1, .int .i64 R1), (w6.heap.size, 2, .int .i64 R2), (w6.heap.size, 3, .bool R3), (w6.heap.size, 4, .bool R4), (w6.heap.size, 5, .bool R5), (w6.heap.size, 6, .bool R6)]) (fun p hp => by
      simp only [List.mem_cons, List.not_mem_nil, or_false] at hp
      rcases hp with rfl | rfl | rfl | rfl | rfl | rfl | rfl
      · exact ⟨zzw6, by rw [sNew]; rfl⟩
      · exact ⟨zzw6, by rw [sNew]; rfl⟩
      · exact ⟨zzw6, by rw [sNew]; rfl⟩
      · exact ⟨zzw6, by rw [sNew]; rfl⟩
      · exact ⟨zzw6, by rw [sNew]; rfl⟩
      · exact ⟨zzw6, by rw [sNew]; rfl⟩
      · exact ⟨zzw6, by rw [sNew]; rfl⟩))
  clear zzw6 S8
  have cc0 := (S9.out.cell (w6.heap.size, 0, .int .i64 R0) (by simp)).2
  have cc1 := (S9.out.cell (w6.heap.size, 1, .int .i64 R1) (by simp)).2
  have cc2 := (S9.out.cell (w6.heap.size, 2, .int .i64 R2) (by simp)).2
  have cc3 := (S9.out.cell (w6.heap.size, 3, .bool R3) (by simp)).2
  have cc4 := (S9.out.cell (w6.heap.size, 4, .bool R4) (by simp)).2
  have cc5 := (S9.out.cell (w6.heap.size, 5, .bool R5) (by simp)).2
  have cc6 := (S9.out.cell (w6.heap.size, 6, .bool R6) (by simp)).2
  have cc7 := (S9.out.cell (w3.heap.size, 0, .int .i64 R0) (by simp)).2
  have cc8 := (S9.out.cell (w3.heap.size, 1, .int .i64 R1) (by simp)).2
  have cc9 := (S9.out.cell (w3.heap.size, 2, .int .i64 R2) (by simp)).2
  have cc10 := (S9.out.cell (w3.heap.size, 3, .bool R3) (by simp)).2
  have cc11 := (S9.out.cell (w3.heap.size, 4, .bool R4) (by simp)).2
  have cc12 := (S9.out.cell (w3.heap.size, 5, .bool R5) (by simp)).2
  have cc13 := (S9.out.cell (w3.heap.size, 6, .bool R6) (by simp)).2
  have cc14 := (S9.out.cell (w.heap.size, 0, .int .i64 s0) (by simp)).2
  have cc15 := (S9.out.cell (w.heap.size, 1, .int .i64 s1) (by simp)).2
  have cc16 := (S9.out.cell (w.heap.size, 2, .int .i64 s2) (by simp)).2
  have cc17 := (S9.out.cell (w.heap.size, 3, .bool s3) (by simp)).2
  have cc18 := (S9.out.cell (w.heap.size, 4, .bool s4) (by simp)).2
  have cc19 := (S9.out.cell (w.heap.size, 5, .bool s5) (by simp)).2
  have cc20 := (S9.out.cell (w.heap.size, 6, .bool s6) (by simp)).2
  go_wp2_with fail
  refine (eqLockState_same R0 R1 R2 R3 R4 R5 R6 _).mono ?_
  rintro e w7 ⟨rfl, hb⟩
  have S10 := Lib.hid (S9.out.quiet hb)
  clear cc0 cc1 cc2 cc3 cc4 cc5 cc6 cc7 cc8 cc9 cc10 cc11 cc12 cc13 cc14 cc15 cc16 cc17 cc18 cc19 cc20
  clear hb S9
  have cc0 := (S10.out.cell (w6.heap.size, 0, .int .i64 R0) (by simp)).2
  have cc1 := (S10.out.cell (w6.heap.size, 1, .int .i64 R1) (by simp)).2
  have cc2 := (S10.out.cell (w6.heap.size, 2, .int .i64 R2) (by simp)).2
  have cc3 := (S10.out.cell (w6.heap.size, 3, .bool R3) (by simp)).2
  have cc4 := (S10.out.cell (w6.heap.size, 4, .bool R4) (by simp)).2
  have cc5 := (S10.out.cell (w6.heap.size, 5, .bool R5) (by simp)).2
  have cc6 := (S10.out.cell (w6.heap.size, 6, .bool R6) (by simp)).2
  have cc7 := (S10.out.cell (w3.heap.size, 0, .int .i64 R0) (by simp)).2
  have cc8 := (S10.out.cell (w3.heap.size, 1, .int .i64 R1) (by simp)).2
  have cc9 := (S10.out.cell (w3.heap.size, 2, .int .i64 R2) (by simp)).2
  have cc10 := (S10.out.cell (w3.heap.size, 3, .bool R3) (by simp)).2
  have cc11 := (S10.out.cell (w3.heap.size, 4, .bool R4) (by simp)).2
  have cc12 := (S10.out.cell (w3.heap.size, 5, .bool R5) (by simp)).2
  have cc13 := (S10.out.cell (w3.heap.size, 6, .bool R6) (by simp)).2
  have cc14 := (S10.out.cell (w.heap.size, 0, .int .i64 s0) (by simp)).2
  have cc15 := (S10.out.cell (w.heap.size, 1, .int .i64 s1) (by simp)).2
  have cc16 := (S10.out.cell (w.heap.size, 2, .int .i64 s2) (by simp)).2
  have cc17 := (S10.out.cell (w.heap.size, 3, .bool s3) (by simp)).2
  have cc18 := (S10.out.cell (w.heap.size, 4, .bool s4) (by simp)).2
  have cc19 := (S10.out.cell (w.heap.size, 5, .bool s5) (by simp)).2
  have cc20 := (S10.out.cell (w.heap.size, 6, .bool s6) (by simp)).2
  go_wp2_with fail
  refine (toI_ex Ac nc cc w.heap.size zc _ HLc.out HNc.out S10.out.low.size (IVc.out _ S10.out.low)).mono ?_
  rintro e w8 ⟨t2, rfl, hown, hb⟩
  have zt2 := hown.lt t2 rfl
  have dt2_xc : t2 ≠ xc := by have h1 := (S10.out.lt (r := ri xc nc nc (zc.map (.int .i64))) (by simp) (g := xc) rfl).2; have h2 := zt2.1; omega
  have bt2 : w.heap.size + 1 ≤ t2 := by have h1 := World.block_lt_of_cell? _ _ cc20; have h2 := zt2.1; simp at h1; (try simp at h2); omega
  have qt2 : w.heap.size ≤ t2 := Nat.le_trans S10.out.low.size zt2.1
  have S11 := Lib.hid ((S10.out.quiet hb).own (ri t2 nc nc (zc.map (.int .i64))) (own_low hown S10.out.low.size))
  clear cc0 cc1 cc2 cc3 cc4 cc5 cc6 cc7 cc8 cc9 cc10 cc11 cc12 cc13 cc14 cc15 cc16 cc17 cc18 cc19 cc20
  clear hb hown zt2 S10
  have cc0 := (S11.out.cell (w6.heap.size, 0, .int .i64 R0) (by simp)).2
  have cc1 := (S11.out.cell (w6.heap.size, 1, .int .i64 R1) (by simp)).2
  have cc2 := (S11.out.cell (w6.heap.size, 2, .int .i64 R2) (by simp)).2
  have cc3 := (S11.out.cell (w6.heap.size, 3, .bool R3) (by simp)).2
  have cc4 := (S11.out.cell (w6.heap.size, 4, .bool R4) (by simp)).2
  have cc5 := (S11.out.cell (w6.heap.size, 5, .bool R5) (by simp)).2
  have cc6 := (S11.out.cell (w6.heap.size, 6, .bool R6) (by simp)).2
  have cc7 := (S11.out.cell (w3.heap.size, 0, .int .i64 R0) (by simp)).2
  have cc8 := (S11.out.cell (w3.heap.size, 1, .int .i64 R1) (by simp)).2
  have cc9 := (S11.out.cell (w3.heap.size, 2, .int .i64 R2) (by simp)).2
  have cc10 := (S11.out.cell (w3.heap.size, 3, .bool R3) (by simp)).2
  have cc11 := (S11.out.cell (w3.heap.size, 4, .bool R4) (by simp)).2
  have cc12 := (S11.out.cell (w3.heap.size, 5, .bool R5) (by simp)).2
  have cc13 := (S11.out.cell (w3.heap.size, 6, .bool R6) (by simp)).2
  have cc14 := (S11.out.cell (w.heap.size, 0, .int .i64 s0) (by simp)).2
  have cc15 := (S11.out.cell (w.heap.size, 1, .int .i64 s1) (by simp)).2
  have cc16 := (S11.out.cell (w.heap.size, 2, .int .i64 s2) (by simp)).2
  have cc17 := (S11.out.cell (w.heap.size, 3, .bool s3) (by simp)).2
  have cc18 := (S11.out.cell (w.heap.size, 4, .bool s4) (by simp)).2
  have cc19 := (S11.out.cell (w.heap.size, 5, .bool s5) (by simp)).2
  have cc20 := (S11.out.cell (w.heap.size, 6, .bool s6) (by simp)).2
  go_wp2_with fail
  refine (eqI_same _ _ nc _ _ _ _ zc _ HLc.out (Nat.le_trans HNc.out (by unfold maxLen; omega)) (own_hasv (S11.out.row (ri xc nc nc (zc.map (.int .i64))) (by simp))) (own_hasv (S11.out.row (ri t2 nc nc (zc.map (.int .i64))) (by simp)))).mono ?_
  rintro e w9 ⟨rfl, hD⟩
  have S12 := Lib.hid (S11.out.drawn hD)
  clear cc0 cc1 cc2 cc3 cc4 cc5 cc6 cc7 cc8 cc9 cc10 cc11 cc12 cc13 cc14 cc15 cc16 cc17 cc18 cc19 cc20
  clear hD S11
  have S13 := Lib.hid (S12.out.sub (rows' := [ri xc nc nc (zc.map (.int .i64))]) (by simp))
  clear S12
  have cc0 := (S13.out.cell (w6.heap.size, 0, .int .i64 R0) (by simp)).2
  have cc1 := (S13.out.cell (w6.heap.size, 1, .int .i64 R1) (by simp)).2
  have cc2 := (S13.out.cell (w6.heap.size, 2, .int .i64 R2) (by simp)).2
  have cc3 := (S13.out.cell (w6.heap.size, 3, .bool R3) (by simp)).2
  have cc4 := (S13.out.cell (w6.heap.size, 4, .bool R4) (by simp)).2
  have cc5 := (S13.out.cell (w6.heap.size, 5, .bool R5) (by simp)).2
  have cc6 := (S13.out.cell (w6.heap.size, 6, .bool R6) (by simp)).2
  have cc7 := (S13.out.cell (w3.heap.size, 0, .int .i64 R0) (by simp)).2
  have cc8 := (S13.out.cell (w3.heap.size, 1, .int .i64 R1) (by simp)).2
  have cc9 := (S13.out.cell (w3.heap.size, 2, .int .i64 R2) (by simp)).2
  have cc10 := (S13.out.cell (w3.heap.size, 3, .bool R3) (by simp)).2
  have cc11 := (S13.out.cell (w3.heap.size, 4, .bool R4) (by simp)).2
  have cc12 := (S13.out.cell (w3.heap.size, 5, .bool R5) (by simp)).2
  have cc13 := (S13.out.cell (w3.heap.size, 6, .bool R6) (by simp)).2
  have cc14 := (S13.out.cell (w.heap.size, 0, .int .i64 s0) (by simp)).2
  have cc15 := (S13.out.cell (w.heap.size, 1, .int .i64 s1) (by simp)).2
  have cc16 := (S13.out.cell (w.heap.size, 2, .int .i64 s2) (by simp)).2
  have cc17 := (S13.out.cell (w.heap.size, 3, .bool s3) (by simp)).2
  have cc18 := (S13.out.cell (w.heap.size, 4, .bool s4) (by simp)).2
  have cc19 := (S13.out.cell (w.heap.size, 5, .bool s5) (by simp)).2
  have cc20 := (S13.out.cell (w.heap.size, 6, .bool s6) (by simp)).2
  go_wp2_with fail
  go_ret
  exact ⟨rfl, S13.out.low⟩
theorem own : ownKnob Try.prog.godebug = none := by kernel_rfl
theorem laidOut : laidOutB Try.prog = true := by kernel_rfl

set_option maxRecDepth 100000 in
theorem lifted (os : Os) (started : os.Started) (H : Type) (enc : TypeId × Value → H) :
    ReturnsInHanded {} Try.checked os 6 .any (Rows.fnExactRunLockSpec.pre6 enc Try.prog Try.f6 Rows.fnExactRunLockRow.domain false) (Rows.fnExactRunLockSpec.post enc Try.prog Try.f6 false true false false) := by
  refine returnsInHanded_of_change (C := Try.checked) own started (by kernel_rfl) Try.func6
    (ChangeSpec.witness6 (enc := enc) (C := Try.checked) false ⟨#[], #[.agg #[.int .i64 0, .int .i64 0, .int .i64 0, .bool false, .bool false, .bool false, .bool false], .slice none 0 0], []⟩ 8 (by kernel_rfl) (by kernel_rfl) (by kernel_rfl) (by kernel_rfl)) ?_
  intro W base args ds gs before hval0 hW hcnd _
  have hval : ∀ (j : Nat) t v, Try.f6.params[j]? = some t → args[j]? = some v → Value.okWide Try.prog W .any base t v := hval0
  have hW' := hW
  obtain ⟨p, q, hA0, hV, rfl, hfz, hnd⟩ := hW
  have hA : DataW.TrodAll enc Try.prog W 0 (fun _ => true) true Try.f6.params.toList args.toList ds p := hA0
  rw [Try.params6] at hA hval
  obtain ⟨v0, vs0, d0, ds0, p0, q0, hargs, rfl, rfl, h0, r0⟩ := trodAll_cons hA
  obtain ⟨v1, vs1, d1, ds1, p1, q1, rfl, rfl, rfl, h1, r1⟩ := trodAll_cons r0
  obtain ⟨rfl, rfl, rfl⟩ := trodAll_nil r1
  obtain rfl : args = #[v0, v1] := by cases args; simp_all
  obtain ⟨rfl, rfl⟩ := trodVars_none hV
  have k0 := h0
  have lt0 : ∀ x ∈ p0, x.block < W.heap.size := by obtain ⟨m, hm⟩ := k0; exact DataW.trod_lt m _ _ _ hm
  obtain ⟨x0_0, x0_1, x0_2, x0_3, x0_4, x0_5, x0_6, rfl⟩ := open_LockState Try.underlying28 (by kernel_rfl) (by kernel_rfl) Try.underlying3 Try.underlying3 Try.underlying3 Try.underlying4 Try.underlying4 Try.underlying4 Try.underlying4 (hval 0 28 v0 rfl rfl) h0
  obtain ⟨a1, len1, cap1, rfl⟩ := okWide_slice Try.underlying34 (hval 1 34 v1 rfl rfl)
  have k1 := h1
  have lt1 : ∀ x ∈ p1, x.block < W.heap.size := by obtain ⟨m, hm⟩ := k1; exact DataW.trod_lt m _ _ _ hm
  obtain ⟨z1, w1⟩ : ∃ zs, IsInts .i64 W a1 len1 zs := by
    obtain ⟨fuel, hf⟩ := h1
    rcases open_ints Try.underlying34 Try.underlying3 (by kernel_rfl) hf with ⟨hcs, _⟩ | ⟨x, l, c, zs, hcs, _, hl, hm, hz, _, hcell, hwz⟩
    · simp [Value.cells] at hcs
      obtain ⟨rfl, rfl, rfl⟩ := hcs
      exact ⟨[], isInts_nil _ W⟩
    · simp [Value.cells] at hcs
      obtain ⟨rfl, rfl, rfl⟩ := hcs
      exact ⟨_, isInts_some hl hm (by simpa using hz) hcell hwz⟩
  clear hA0 hval0
  refine (walk x0_0 x0_1 x0_2 x0_3 x0_4 x0_5 x0_6 a1 len1 cap1 z1 W w1).mono fun e W' ⟨he, bel⟩ => ?_
  subst he
  exact ⟨_, rfl, _, _, _, [], _, [], hW', trodAll_mk1 (shut_bool Try.underlying4 _), (trodAll_cons_mk (Below.trod laidOut (by kernel_rfl) (of_decide_eq_true (by kernel_rfl)) k0 bel lt0) (trodAll_cons_mk (Below.trod laidOut (by kernel_rfl) (of_decide_eq_true (by kernel_rfl)) k1 bel lt1) trodAll_mk0)), rfl, bel.frame _, fun h => by cases h⟩

theorem over : Rows.fnExactRunLockRow.holds Try.pinned (OpenSpec.ofChange Rows.fnExactRunLockSpec) :=
  OpenClaim.holds_of_wide 6 Try.f6 rfl rfl rfl rfl rfl rfl rfl ⟨rfl, rfl, rfl, rfl, rfl⟩ rfl rfl rfl rfl rfl (by kernel_rfl) Try.func6 (by kernel_rfl)
    (of_decide_eq_true (by kernel_rfl)) (by unfold Func.isWrapper; first | (rw [if_pos (by decide +kernel)]; kernel_rfl) | (rw [if_neg (by decide +kernel)]; exact ⟨rfl, rfl⟩))
    (fun os started H enc _ => lifted os started H enc)

/-- The statement. -/
theorem proved : Rows.FnExactRunLockSaid := over
end Go.Proofs.Ytmnagjjpncancaa.fnExactRunLock
