/- MoveWater answers as its model does, at every list and Flow; it writes into no argument and its answer owns its memory. -/
import Derived.Test.YtliebicnejbheaaWaE
import Derived.Test.YtliebicnejbheaaSt0
import Derived.OpenShut
import Derived.ShutString
import Derived.ChangeOld
import Derived.WalkLawsBesides
import Derived.Lib.SmallJoins
import Derived.Deep.RegionHeld3
namespace Go.Proofs.Ytliebicnejbheaa.fnExactMoveWater
open Go.ChangeShapes Go.WideShapes Go.ChangeAt Go.RowKit
open Go.ChangeMaps (open_string shut_string)
set_option linter.unusedVariables false
set_option linter.unusedSimpArgs false

abbrev rBasin (g n c : Nat) (xs : List Value) : RowOf := ⟨53, 3, .slice (some ⟨g, 0, none⟩) n c, n, xs⟩
abbrev ri (g n c : Nat) (xs : List Value) : RowOf := ⟨3, 1, .slice (some ⟨g, 0, none⟩) n c, n, xs⟩

set_option maxRecDepth 100000 in
set_option maxHeartbeats 4000000 in
theorem walk (Ab : Option Addr) (nb cb : Nat) (vb : List TBasin) (f0 : Int) (f1 : Int) (f2 : Int) (w : World) (hnb : vb.length = nb) (hmb : nb ≤ maxLen) (hhb : Has w w.heap.size Ab (flatBasin vb))  :
    Calls Try.prog 7 #[.slice Ab nb cb, .agg #[.int .i64 f0, .int .i64 f1, .int .i64 f2]] w fun e w' => e = .returned (.bool true) ∧ Below w.heap.size w w' := by
  have ivb : IsBasins w w.heap.size Ab nb vb := ⟨hnb, Nat.le_refl _, hhb⟩
  have IVb := Lib.hid (fun W (hb : Below w.heap.size w W) => ivb.below hb (Nat.le_refl _))
  have HMb := Lib.hid hmb
  obtain ⟨L, x, hA⟩ := movA_ex vb ⟨f0, f1, f2⟩
  have HA := Lib.hid hA
  have HLB : Hid (L.length ≤ 6) := Lib.hid hA.len
  have hxx : (x != x) = false := by simp
  clear hA
  clear hnb hhb ivb
  go_enter Try.func7, Try.ntmps7
  have S0 : Hid (St w [(w.heap.size, 0, .int .i64 f0), (w.heap.size, 1, .int .i64 f1), (w.heap.size, 2, .int .i64 f2)] [] (World.alloc w (.cells #[.int .i64 f0, .int .i64 f1, .int .i64 f2] 58))) := Lib.hid (by
    have k0 := ((St.start w)).quiet (Below.alloc (Below.refl _ w) (Nat.le_refl _) (.cells #[.int .i64 f0, .int .i64 f1, .int .i64 f2] 58))
    have j0 := k0.cells (ds := [(w.heap.size, 0, .int .i64 f0), (w.heap.size, 1, .int .i64 f1), (w.heap.size, 2, .int .i64 f2)]) (fun p hp => by
      simp only [List.mem_cons, List.not_mem_nil, or_false] at hp
      rcases hp with rfl | rfl | rfl
      · exact ⟨by omega, by rw [sNew]; rfl⟩
      · exact ⟨by omega, by rw [sNew]; rfl⟩
      · exact ⟨by omega, by rw [sNew]; rfl⟩)
    exact j0)
  obtain ⟨leftb, l0b, l1b, lfb, szb⟩ := szBasinS_is Ab nb cb 1048576 HMb.out (by omega) (by omega)
  have SZb := Lib.hid szb
  clear szb
  have cc0 := (S0.out.cell (w.heap.size, 0, .int .i64 f0) (by simp)).2
  have cc1 := (S0.out.cell (w.heap.size, 1, .int .i64 f1) (by simp)).2
  have cc2 := (S0.out.cell (w.heap.size, 2, .int .i64 f2) (by simp)).2
  go_wp2_with fail
  refine (SZb.out _).mono ?_
  rintro e w1 ⟨rfl, rfl⟩
  clear SZb
  clear cc0 cc1 cc2
  by_cases negb : leftb < 0
  · go_wp2_with fail
    go_ret
    exact ⟨rfl, S0.out.low⟩
  have HNb : Hid (nb ≤ 1048576) := Lib.hid (by have := lfb (by omega); omega)
  obtain ⟨Ln, hLn⟩ : ∃ k, L.length = k := ⟨_, rfl⟩
  have HLn := Lib.hid hLn
  have hLb : Ln ≤ 6 := by rw [← hLn]; exact HLB.out
  clear hLn
  generalize hwq : (World.alloc w (.cells #[.int .i64 f0, .int .i64 f1, .int .i64 f2] 58)) = wq at S0 ⊢
  clear hwq
  have KEEP := Lib.hid (fun W (hb : Below wq.heap.size wq W) => (⟨hb, ((S0.out.quiet hb).cell (w.heap.size, 0, .int .i64 f0) (by simp)).2, ((S0.out.quiet hb).cell (w.heap.size, 1, .int .i64 f1) (by simp)).2, ((S0.out.quiet hb).cell (w.heap.size, 2, .int .i64 f2) (by simp)).2⟩ : Below wq.heap.size wq W ∧ W.cell? ⟨w.heap.size, 0, none⟩ = some (.int .i64 f0) ∧ W.cell? ⟨w.heap.size, 1, none⟩ = some (.int .i64 f1) ∧ W.cell? ⟨w.heap.size, 2, none⟩ = some (.int .i64 f2)))
  have KD := Lib.hid (KEEP.out wq.drew ((Drawn.one wq 1).below _))
  have KT := Lib.hid (fun W W' (hb : Below wq.heap.size wq W) (hb' : Below W.heap.size W W') => KEEP.out W' (hb.trans (hb'.mono hb.size)))
  have IA := Lib.hid (fun W (hb : Below wq.heap.size wq W) => IVb.out W (S0.out.quiet hb).low)
  have cc0 := (S0.out.cell (w.heap.size, 0, .int .i64 f0) (by simp)).2
  have cc1 := (S0.out.cell (w.heap.size, 1, .int .i64 f1) (by simp)).2
  have cc2 := (S0.out.cell (w.heap.size, 2, .int .i64 f2) (by simp)).2
  go_wp2_with fail
  clear cc0 cc1 cc2
  go_region_held3 (fun W => Below wq.heap.size wq W ∧ W.cell? ⟨w.heap.size, 0, none⟩ = some (.int .i64 f0) ∧ W.cell? ⟨w.heap.size, 1, none⟩ = some (.int .i64 f1) ∧ W.cell? ⟨w.heap.size, 2, none⟩ = some (.int .i64 f2))
    (first | exact KD.out | exact KT.out _ _ KD.out.1 hb6 | exact KT.out _ _ (KD.out.1.trans (hb6.mono KD.out.1.size)) hb7 | exact KT.out _ _ ((KD.out.1.trans (hb6.mono KD.out.1.size)).trans (hb7.mono (KD.out.1.trans (hb6.mono KD.out.1.size)).size)) hb8)
    (first
      | (go_at_call 44; refine (toBasinS_is cb (IA.out _ KD.out.1) HNb.out).mono ?_; rintro e wa6 ⟨ga6, rfl, -, i6, hb6⟩)
      | (go_at_call 46; refine (toFlow_any f0 f1 f2 _).mono ?_; rintro e wa7 ⟨rfl, hb7⟩)
      | (go_at_call 24; refine (moveS_any _ (i6.below hb7 (Nat.le_refl _)) HNb.out f0 f1 f2 L x HA.out Ln HLn.out).mono ?_; rintro e w2 ⟨gw, cgw, rfl, hown, hb8⟩))
  have X6 := KD.out.1.trans (hb6.mono KD.out.1.size)
  have X7 := X6.trans (hb7.mono X6.size)
  have X8 := X7.trans (hb8.mono X7.size)
  have zgw := hown.lt gw rfl
  have zlgw : wq.heap.size ≤ gw := Nat.le_trans X7.size zgw.1
  have bgw : w.heap.size + 1 ≤ gw := by have h1 := World.block_lt_of_cell? _ _ (S0.out.cell (w.heap.size, 2, .int .i64 f2) (by simp)).2; simp at h1; omega
  have qgw : w.heap.size ≤ gw := Nat.le_trans S0.out.low.size zlgw
  have S1 := Lib.hid ((S0.out.quiet X8).own (rBasin gw Ln cgw (flatBasin L)) (own_low hown (Nat.le_trans S0.out.low.size X7.size)))
  clear KEEP KD KT IA hb6 hb7 hb8 i6 X6 X7 X8 hown zgw zlgw S0
  have cc0 := (S1.out.cell (w.heap.size, 0, .int .i64 f0) (by simp)).2
  have cc1 := (S1.out.cell (w.heap.size, 1, .int .i64 f1) (by simp)).2
  have cc2 := (S1.out.cell (w.heap.size, 2, .int .i64 f2) (by simp)).2
  go_wp2_with fail
  refine (toBasinS_is cb (IVb.out _ S1.out.low) HNb.out).mono ?_
  rintro e w3 ⟨xb, rfl, hown, -, hb⟩
  have zxb := hown.lt xb rfl
  have dxb_gw : xb ≠ gw := by have h1 := (S1.out.lt (r := rBasin gw Ln cgw (flatBasin L)) (by simp) (g := gw) rfl).2; have h2 := zxb.1; omega
  have bxb : w.heap.size + 1 ≤ xb := by have h1 := World.block_lt_of_cell? _ _ cc2; have h2 := zxb.1; simp at h1; (try simp at h2); omega
  have qxb : w.heap.size ≤ xb := Nat.le_trans S1.out.low.size zxb.1
  have S2 := Lib.hid ((S1.out.quiet hb).own (rBasin xb nb nb (flatBasin vb)) (own_low hown S1.out.low.size))
  clear cc0 cc1 cc2
  clear hb hown zxb S1
  have cc0 := (S2.out.cell (w.heap.size, 0, .int .i64 f0) (by simp)).2
  have cc1 := (S2.out.cell (w.heap.size, 1, .int .i64 f1) (by simp)).2
  have cc2 := (S2.out.cell (w.heap.size, 2, .int .i64 f2) (by simp)).2
  go_wp2_with fail
  refine (toFlow_any f0 f1 f2 _).mono ?_
  rintro e w4 ⟨rfl, hb⟩
  have S3 := Lib.hid (S2.out.quiet hb)
  clear cc0 cc1 cc2
  clear hb S2
  have cc0 := (S3.out.cell (w.heap.size, 0, .int .i64 f0) (by simp)).2
  have cc1 := (S3.out.cell (w.heap.size, 1, .int .i64 f1) (by simp)).2
  have cc2 := (S3.out.cell (w.heap.size, 2, .int .i64 f2) (by simp)).2
  go_wp2_with fail
  refine (moveI_any _ (own_Basins (S3.out.row (rBasin xb nb nb (flatBasin vb)) (by simp))) HNb.out f0 f1 f2 L x HA.out Ln HLn.out).mono ?_
  rintro e w5 ⟨gg, cgg, rfl, hown, hb⟩
  have zgg := hown.lt gg rfl
  have dgg_xb : gg ≠ xb := by have h1 := (S3.out.lt (r := rBasin xb nb nb (flatBasin vb)) (by simp) (g := xb) rfl).2; have h2 := zgg.1; omega
  have dgg_gw : gg ≠ gw := by have h1 := (S3.out.lt (r := rBasin gw Ln cgw (flatBasin L)) (by simp) (g := gw) rfl).2; have h2 := zgg.1; omega
  have bgg : w.heap.size + 1 ≤ gg := by have h1 := World.block_lt_of_cell? _ _ cc2; have h2 := zgg.1; simp at h1; (try simp at h2); omega
  have qgg : w.heap.size ≤ gg := Nat.le_trans S3.out.low.size zgg.1
  have S4 := Lib.hid ((S3.out.quiet hb).own (rBasin gg Ln cgg (flatBasin L)) (own_low hown S3.out.low.size))
  clear cc0 cc1 cc2
  clear hb hown zgg S3
  have cc0 := (S4.out.cell (w.heap.size, 0, .int .i64 f0) (by simp)).2
  have cc1 := (S4.out.cell (w.heap.size, 1, .int .i64 f1) (by simp)).2
  have cc2 := (S4.out.cell (w.heap.size, 2, .int .i64 f2) (by simp)).2
  go_wp2_with fail
  refine (eqBasinS_is _ _ (own_Basins (S4.out.row (rBasin gg Ln cgg (flatBasin L)) (by simp))) (own_Basins (S4.out.row (rBasin gw Ln cgw (flatBasin L)) (by simp))) (by unfold maxLen; omega)).mono ?_
  rintro e w6 ⟨rfl, hb⟩
  have S5 := Lib.hid (S4.out.quiet hb)
  clear cc0 cc1 cc2
  clear hb S4
  have cc0 := (S5.out.cell (w.heap.size, 0, .int .i64 f0) (by simp)).2
  have cc1 := (S5.out.cell (w.heap.size, 1, .int .i64 f1) (by simp)).2
  have cc2 := (S5.out.cell (w.heap.size, 2, .int .i64 f2) (by simp)).2
  go_wp2_with fail
  refine (toBasinS_is cb (IVb.out _ S5.out.low) HNb.out).mono ?_
  rintro e w7 ⟨t1, rfl, hown, -, hb⟩
  have zt1 := hown.lt t1 rfl
  have dt1_gg : t1 ≠ gg := by have h1 := (S5.out.lt (r := rBasin gg Ln cgg (flatBasin L)) (by simp) (g := gg) rfl).2; have h2 := zt1.1; omega
  have dt1_xb : t1 ≠ xb := by have h1 := (S5.out.lt (r := rBasin xb nb nb (flatBasin vb)) (by simp) (g := xb) rfl).2; have h2 := zt1.1; omega
  have dt1_gw : t1 ≠ gw := by have h1 := (S5.out.lt (r := rBasin gw Ln cgw (flatBasin L)) (by simp) (g := gw) rfl).2; have h2 := zt1.1; omega
  have bt1 : w.heap.size + 1 ≤ t1 := by have h1 := World.block_lt_of_cell? _ _ cc2; have h2 := zt1.1; simp at h1; (try simp at h2); omega
  have qt1 : w.heap.size ≤ t1 := Nat.le_trans S5.out.low.size zt1.1
  have S6 := Lib.hid ((S5.out.quiet hb).own (rBasin t1 nb nb (flatBasin vb)) (own_low hown S5.out.low.size))
  clear cc0 cc1 cc2
  clear hb hown zt1 S5
  have cc0 := (S6.out.cell (w.heap.size, 0, .int .i64 f0) (by simp)).2
  have cc1 := (S6.out.cell (w.heap.size, 1, .int .i64 f1) (by simp)).2
  have cc2 := (S6.out.cell (w.heap.size, 2, .int .i64 f2) (by simp)).2
  go_wp2_with fail
  refine (eqBasinS_is _ _ (own_Basins (S6.out.row (rBasin xb nb nb (flatBasin vb)) (by simp))) (own_Basins (S6.out.row (rBasin t1 nb nb (flatBasin vb)) (by simp))) (Nat.le_trans HNb.out (by unfold maxLen; omega))).mono ?_
  rintro e w8 ⟨rfl, hb⟩
  have S7 := Lib.hid (S6.out.quiet hb)
  clear cc0 cc1 cc2
  clear hb S6
  have S8 := Lib.hid (S7.out.sub (rows' := [rBasin gg Ln cgg (flatBasin L), rBasin xb nb nb (flatBasin vb), rBasin gw Ln cgw (flatBasin L)]) (by simp))
  clear S7
  have hNb := HNb.out
  have cc0 := (S8.out.cell (w.heap.size, 0, .int .i64 f0) (by simp)).2
  have cc1 := (S8.out.cell (w.heap.size, 1, .int .i64 f1) (by simp)).2
  have cc2 := (S8.out.cell (w.heap.size, 2, .int .i64 f2) (by simp)).2
  go_wp2_with fail
  refine (markBasinS_any xb nb nb w.heap.size (1) _ _ (by omega) (by omega) (S8.out.row (rBasin xb nb nb (flatBasin vb)) (by simp))).mono ?_
  rintro e w9 ⟨rfl, hoM, hgr⟩
  clear cc0 cc1 cc2
  have T8 := S8.out.sub (rows' := [rBasin xb nb nb (flatBasin vb), rBasin gg Ln cgg (flatBasin L), rBasin gw Ln cgw (flatBasin L)]) (by simp)
  have S9 := Lib.hid (T8.turn (r' := rBasin xb nb nb (flatBasin (mkBasin (1) nb))) hgr (fun q e => by cases e; omega) (by first | (simp; omega) | simp) (by simp [Value.ownBlock]; omega) hoM)
  clear T8 hoM hgr S8
  have S10 := Lib.hid (S9.out.sub (rows' := [rBasin gg Ln cgg (flatBasin L), rBasin gw Ln cgw (flatBasin L)]) (by simp))
  clear S9
  have hkk : ¬ (1 + 3 * (nb : Int) < 0) := by omega
  have cc0 := (S10.out.cell (w.heap.size, 0, .int .i64 f0) (by simp)).2
  have cc1 := (S10.out.cell (w.heap.size, 1, .int .i64 f1) (by simp)).2
  have cc2 := (S10.out.cell (w.heap.size, 2, .int .i64 f2) (by simp)).2
  go_wp2_with fail
  refine (eqBasinS_is _ _ (own_Basins (S10.out.row (rBasin gg Ln cgg (flatBasin L)) (by simp))) (own_Basins (S10.out.row (rBasin gw Ln cgw (flatBasin L)) (by simp))) (by unfold maxLen; omega)).mono ?_
  rintro e w10 ⟨rfl, hb⟩
  have S11 := Lib.hid (S10.out.quiet hb)
  clear cc0 cc1 cc2
  clear hb S10
  have cc0 := (S11.out.cell (w.heap.size, 0, .int .i64 f0) (by simp)).2
  have cc1 := (S11.out.cell (w.heap.size, 1, .int .i64 f1) (by simp)).2
  have cc2 := (S11.out.cell (w.heap.size, 2, .int .i64 f2) (by simp)).2
  go_wp2_with fail
  refine (markBasinS_any gg Ln cgg w.heap.size (1) _ _ (by omega) (by omega) (S11.out.row (rBasin gg Ln cgg (flatBasin L)) (by simp))).mono ?_
  rintro e w11 ⟨rfl, hoM, hgr⟩
  clear cc0 cc1 cc2
  have T8 := S11.out.sub (rows' := [rBasin gg Ln cgg (flatBasin L), rBasin gw Ln cgw (flatBasin L)]) (by simp)
  have S12 := Lib.hid (T8.turn (r' := rBasin gg Ln cgg (flatBasin (mkBasin (1) Ln))) hgr (fun q e => by cases e; omega) (by first | (simp; omega) | simp) (by simp [Value.ownBlock]; omega) hoM)
  clear T8 hoM hgr S11
  have cc0 := (S12.out.cell (w.heap.size, 0, .int .i64 f0) (by simp)).2
  have cc1 := (S12.out.cell (w.heap.size, 1, .int .i64 f1) (by simp)).2
  have cc2 := (S12.out.cell (w.heap.size, 2, .int .i64 f2) (by simp)).2
  go_wp2_with fail
  refine (heldBasinS_any _ Ln cgg _ 1 _ (by omega) (by omega) (Nat.le_refl _) (own_hasv (S12.out.row (rBasin gg Ln cgg (flatBasin (mkBasin (1) Ln))) (by simp)))).mono ?_
  rintro e w12 ⟨rfl, hb⟩
  have S13 := Lib.hid (S12.out.quiet hb)
  clear cc0 cc1 cc2
  clear hb S12
  have hq1 : ¬ (1 + 3 * (Ln : Int) < 0) := by omega
  have hq2 : ((1 + 3 * (Ln : Int)) != (1 + 3 * (Ln : Int))) = false := by simp
  have KEEP := Lib.hid (fun W (hb : Below w12.heap.size w12 W) => (⟨hb, ((S13.out.quiet hb).cell (w.heap.size, 0, .int .i64 f0) (by simp)).2, ((S13.out.quiet hb).cell (w.heap.size, 1, .int .i64 f1) (by simp)).2, ((S13.out.quiet hb).cell (w.heap.size, 2, .int .i64 f2) (by simp)).2⟩ : Below w12.heap.size w12 W ∧ W.cell? ⟨w.heap.size, 0, none⟩ = some (.int .i64 f0) ∧ W.cell? ⟨w.heap.size, 1, none⟩ = some (.int .i64 f1) ∧ W.cell? ⟨w.heap.size, 2, none⟩ = some (.int .i64 f2)))
  have KD := Lib.hid (KEEP.out w12.drew ((Drawn.one w12 1).below _))
  have KT := Lib.hid (fun W W' (hb : Below w12.heap.size w12 W) (hb' : Below W.heap.size W W') => KEEP.out W' (hb.trans (hb'.mono hb.size)))
  have IA := Lib.hid (fun W (hb : Below w12.heap.size w12 W) => IVb.out W (S13.out.quiet hb).low)
  have cc0 := (S13.out.cell (w.heap.size, 0, .int .i64 f0) (by simp)).2
  have cc1 := (S13.out.cell (w.heap.size, 1, .int .i64 f1) (by simp)).2
  have cc2 := (S13.out.cell (w.heap.size, 2, .int .i64 f2) (by simp)).2
  go_wp2_with fail
  clear cc0 cc1 cc2
  go_region_held3 (fun W => Below w12.heap.size w12 W ∧ W.cell? ⟨w.heap.size, 0, none⟩ = some (.int .i64 f0) ∧ W.cell? ⟨w.heap.size, 1, none⟩ = some (.int .i64 f1) ∧ W.cell? ⟨w.heap.size, 2, none⟩ = some (.int .i64 f2))
    (first | exact KD.out | exact KT.out _ _ KD.out.1 hb6 | exact KT.out _ _ (KD.out.1.trans (hb6.mono KD.out.1.size)) hb7 | exact KT.out _ _ ((KD.out.1.trans (hb6.mono KD.out.1.size)).trans (hb7.mono (KD.out.1.trans (hb6.mono KD.out.1.size)).size)) hb8)
    (first
      | (go_at_call 44; refine (toBasinS_is cb (IA.out _ KD.out.1) HNb.out).mono ?_; rintro e wa6 ⟨ga6, rfl, -, i6, hb6⟩)
      | (go_at_call 46; refine (toFlow_any f0 f1 f2 _).mono ?_; rintro e wa7 ⟨rfl, hb7⟩)
      | (go_at_call 22; refine (moveI_any _ (i6.below hb7 (Nat.le_refl _)) HNb.out f0 f1 f2 L x HA.out Ln HLn.out).mono ?_; rintro e w13 ⟨gh, cgh, rfl, hown, hb8⟩))
  have X6 := KD.out.1.trans (hb6.mono KD.out.1.size)
  have X7 := X6.trans (hb7.mono X6.size)
  have X8 := X7.trans (hb8.mono X7.size)
  have zgh := hown.lt gh rfl
  have zlgh : w12.heap.size ≤ gh := Nat.le_trans X7.size zgh.1
  have dgh_gg : gh ≠ gg := by have h1 := (S13.out.lt (r := rBasin gg Ln cgg (flatBasin (mkBasin (1) Ln))) (by simp) (g := gg) rfl).2; omega
  have dgh_gw : gh ≠ gw := by have h1 := (S13.out.lt (r := rBasin gw Ln cgw (flatBasin L)) (by simp) (g := gw) rfl).2; omega
  have bgh : w.heap.size + 1 ≤ gh := by have h1 := World.block_lt_of_cell? _ _ (S13.out.cell (w.heap.size, 2, .int .i64 f2) (by simp)).2; simp at h1; omega
  have qgh : w.heap.size ≤ gh := Nat.le_trans S13.out.low.size zlgh
  have S14 := Lib.hid ((S13.out.quiet X8).own (rBasin gh Ln cgh (flatBasin L)) (own_low hown (Nat.le_trans S13.out.low.size X7.size)))
  clear KEEP KD KT IA hb6 hb7 hb8 i6 X6 X7 X8 hown zgh zlgh S13
  have cc0 := (S14.out.cell (w.heap.size, 0, .int .i64 f0) (by simp)).2
  have cc1 := (S14.out.cell (w.heap.size, 1, .int .i64 f1) (by simp)).2
  have cc2 := (S14.out.cell (w.heap.size, 2, .int .i64 f2) (by simp)).2
  go_wp2_with fail
  refine (eqBasinS_is _ _ (own_Basins (S14.out.row (rBasin gh Ln cgh (flatBasin L)) (by simp))) (own_Basins (S14.out.row (rBasin gw Ln cgw (flatBasin L)) (by simp))) (by unfold maxLen; omega)).mono ?_
  rintro e w14 ⟨rfl, hb⟩
  have S15 := Lib.hid (S14.out.quiet hb)
  clear cc0 cc1 cc2
  clear hb S14
  have cc0 := (S15.out.cell (w.heap.size, 0, .int .i64 f0) (by simp)).2
  have cc1 := (S15.out.cell (w.heap.size, 1, .int .i64 f1) (by simp)).2
  have cc2 := (S15.out.cell (w.heap.size, 2, .int .i64 f2) (by simp)).2
  go_wp2_with fail
  refine (heldBasinS_any _ Ln cgg _ 1 _ (by omega) (by omega) (Nat.le_refl _) (own_hasv (S15.out.row (rBasin gg Ln cgg (flatBasin (mkBasin (1) Ln))) (by simp)))).mono ?_
  rintro e w15 ⟨rfl, hb⟩
  have S16 := Lib.hid (S15.out.quiet hb)
  clear cc0 cc1 cc2
  clear hb S15
  have cc0 := (S16.out.cell (w.heap.size, 0, .int .i64 f0) (by simp)).2
  have cc1 := (S16.out.cell (w.heap.size, 1, .int .i64 f1) (by simp)).2
  have cc2 := (S16.out.cell (w.heap.size, 2, .int .i64 f2) (by simp)).2
  go_wp2_with fail
  go_ret
  exact ⟨rfl, S16.out.low⟩
theorem own : ownKnob Try.prog.godebug = none := by kernel_rfl
theorem laidOut : laidOutB Try.prog = true := by kernel_rfl

set_option maxRecDepth 100000 in
theorem lifted (os : Os) (started : os.Started) (H : Type) (enc : TypeId × Value → H) :
    ReturnsInHanded {} Try.checked os 7 .any (Rows.fnExactMoveWaterSpec.pre6 enc Try.prog Try.f7 Rows.fnExactMoveWaterRow.domain false) (Rows.fnExactMoveWaterSpec.post enc Try.prog Try.f7 false true false false) := by
  refine returnsInHanded_of_change (C := Try.checked) own started (by kernel_rfl) Try.func7
    (ChangeSpec.witness6 (enc := enc) (C := Try.checked) false ⟨#[], #[.slice none 0 0, .agg #[.int .i64 0, .int .i64 0, .int .i64 0]], []⟩ 8 (by kernel_rfl) (by kernel_rfl) (by kernel_rfl) (by kernel_rfl)) ?_
  intro W base args ds gs before hval0 hW hcnd _
  have hval : ∀ (j : Nat) t v, Try.f7.params[j]? = some t → args[j]? = some v → Value.okWide Try.prog W .any base t v := hval0
  have hW' := hW
  obtain ⟨p, q, hA0, hV, rfl, hfz, hnd⟩ := hW
  have hA : DataW.TrodAll enc Try.prog W 0 (fun _ => true) true Try.f7.params.toList args.toList ds p := hA0
  rw [Try.params7] at hA hval
  obtain ⟨v0, vs0, d0, ds0, p0, q0, hargs, rfl, rfl, h0, r0⟩ := trodAll_cons hA
  obtain ⟨v1, vs1, d1, ds1, p1, q1, rfl, rfl, rfl, h1, r1⟩ := trodAll_cons r0
  obtain ⟨rfl, rfl, rfl⟩ := trodAll_nil r1
  obtain rfl : args = #[v0, v1] := by cases args; simp_all
  obtain ⟨rfl, rfl⟩ := trodVars_none hV
  have k0 := h0
  have lt0 : ∀ x ∈ p0, x.block < W.heap.size := by obtain ⟨m, hm⟩ := k0; exact DataW.trod_lt m _ _ _ hm
  obtain ⟨a0, len0, cap0, rfl⟩ := okWide_slice Try.underlying54 (hval 0 54 v0 rfl rfl)
  obtain ⟨z0, wl0, wm0, wh0⟩ : ∃ vs : List TBasin, vs.length = len0 ∧ len0 ≤ maxLen ∧ Has W W.heap.size a0 (flatBasin vs) := by
    obtain ⟨fuel, hf⟩ := h0
    obtain ⟨A, l, c, vs, hcs, h1, h2, h4⟩ := open_Basins Try.underlying54 Try.underlying88 (by kernel_rfl) (by kernel_rfl) Try.underlying3 Try.underlying3 Try.underlying3 hf
    simp [Value.cells] at hcs
    obtain ⟨rfl, rfl, rfl⟩ := hcs
    exact ⟨vs, h1, h2, h4⟩
  have k1 := h1
  have lt1 : ∀ x ∈ p1, x.block < W.heap.size := by obtain ⟨m, hm⟩ := k1; exact DataW.trod_lt m _ _ _ hm
  obtain ⟨x1_0, x1_1, x1_2, rfl⟩ := open_Flow Try.underlying58 (by kernel_rfl) (by kernel_rfl) Try.underlying3 Try.underlying3 Try.underlying3 (hval 1 58 v1 rfl rfl) h1
  clear hA0 hval0
  refine (walk a0 len0 cap0 z0 x1_0 x1_1 x1_2 W wl0 wm0 wh0).mono fun e W' ⟨he, bel⟩ => ?_
  subst he
  exact ⟨_, rfl, _, _, _, [], _, [], hW', trodAll_mk1 (shut_bool Try.underlying4 _), (trodAll_cons_mk (Below.trod laidOut (by kernel_rfl) (of_decide_eq_true (by kernel_rfl)) k0 bel lt0) (trodAll_cons_mk (Below.trod laidOut (by kernel_rfl) (of_decide_eq_true (by kernel_rfl)) k1 bel lt1) trodAll_mk0)), rfl, bel.frame _, fun h => by cases h⟩

theorem over : Rows.fnExactMoveWaterRow.holds Try.pinned (OpenSpec.ofChange Rows.fnExactMoveWaterSpec) :=
  OpenClaim.holds_of_wide 7 Try.f7 rfl rfl rfl rfl rfl rfl rfl ⟨rfl, rfl, rfl, rfl, rfl⟩ rfl rfl rfl rfl rfl (by kernel_rfl) Try.func7 (by kernel_rfl)
    (of_decide_eq_true (by kernel_rfl)) (by unfold Func.isWrapper; first | (rw [if_pos (by decide +kernel)]; kernel_rfl) | (rw [if_neg (by decide +kernel)]; exact ⟨rfl, rfl⟩))
    (fun os started H enc _ => lifted os started H enc)

/-- The statement. -/
theorem proved : Rows.FnExactMoveWaterSaid := over
end Go.Proofs.Ytliebicnejbheaa.fnExactMoveWater
