/- FnCones holds: the gap is mutual, and without cones passengers may share the lock; at every list of bytes. -/
import Derived.Test.YtacpmckdfddmeaaDgK
import Derived.Test.YtacpmckdfddmeaaDgF
import Derived.Test.YtacpmckdfddmeaaDgH
import Derived.Test.YtacpmckdfddmeaaSeBig
import Derived.Test.YtacpmckdfddmeaaSt0
import Derived.OpenShut
import Derived.ShutString
import Derived.ChangeOld
import Derived.WalkLawsBesides
import Derived.Lib.SmallJoins
import Derived.Deep.RegionHeld3
namespace Go.Proofs.Ytacpmckdfddmeaa.fnCones
open Go.ChangeShapes Go.WideShapes Go.ChangeAt Go.RowKit
open Go.ChangeMaps (open_string shut_string)
set_option linter.unusedVariables false
set_option linter.unusedSimpArgs false

/-- The one with the Id that was named has the most cones. -/
theorem most_cones {vs : List TCargo} {i : Nat} (hg : gCs vs = true) (hi : i < vs.length) (he : (vs.getD i noCargo).x0 = (mostC vs (vs.length - 1)).x0) : ∀ j, j < vs.length → (vs.getD j noCargo).x2 ≤ (vs.getD i noCargo).x2 := by
  have hp := List.pairwise_iff_getElem.1 ((goodCs_iff vs).1 ((gCs_iff vs).1 hg)).2.2
  obtain ⟨q, hq, e⟩ := mostC_at vs (vs.length - 1)
  have hqi : q = i := by
    rw [e, getCargo hi, getCargo (by omega)] at he
    rcases Nat.lt_trichotomy q i with h | h | h
    · exact absurd he.symm (hp q i (by omega) hi h)
    · exact h
    · exact absurd he (hp i q hi (by omega) h)
  intro j hj
  have := mostC_max vs (vs.length - 1) j (by omega)
  rw [e, hqi] at this
  exact this
theorem may_ten {vs : List TCargo} {i : Nat} (hg : gCs vs = true) (hi : i < vs.length) (h : ∀ j, j < vs.length → (vs.getD j noCargo).x2 ≤ (vs.getD i noCargo).x2) : MayA vs 10 (decide ((vs.getD i noCargo).x2 ≤ 1)) true := by
  refine ⟨fun _ => ⟨rfl, ?_⟩, fun k => absurd ⟨hg, by omega, by omega⟩ k⟩
  rw [decide_eq_true_iff]
  constructor
  · intro h1
    refine .inr (fun j hj hm => ?_)
    have := h j hj
    unfold MuchC at hm
    omega
  · rintro (h1 | h1)
    · omega
    · have := h1 i hi
      unfold MuchC at this
      omega

set_option maxRecDepth 100000 in
set_option maxHeartbeats 16000000 in
theorem walk (A : Option Addr) (n c : Nat) (zs : List Int) (w : World) (hI : IsInts .u8 w A n zs) :
    Calls Try.prog 4 #[.slice A n c] w fun e w' => e = .returned (.bool true) ∧ Below w.heap.size w w' := by
  have CB := Lib.hid (fun W => rBig_any A n c W hI.2.1)
  by_cases hbig : (65536 : Int) < (n : Int)
  · rw [decide_eq_true hbig] at CB
    clear hI
    go_enter Try.func4, Try.ntmps4
    go_wp2_with fail
    refine (CB.out _).mono ?_
    rintro e w1 ⟨rfl, rfl⟩
    go_wp2_with fail
    go_ret
    exact ⟨rfl, Below.refl _ _⟩
  · rw [decide_eq_false hbig] at CB
    have HC := Lib.hid (Code_.of hI (by omega))
    have D1 := Lib.hid (drawG_any c HC.out)
    clear hI hbig
    go_enter Try.func4, Try.ntmps4
    go_wp2_with fail
    refine (CB.out _).mono ?_
    rintro e w1 ⟨rfl, rfl⟩
    clear CB
    go_wp2_with fail
    refine D1.out.mono ?_
    rintro e w1 ⟨x, y, rfl, hb⟩
    have HB1 := Lib.hid hb
    have hC2 := fun W => neededI_any y x W
    rw [ansG_comm y x, decide_eq_decide.2 (okG_comm y x)] at hC2
    have C1 := Lib.hid (neededI_any x y w1)
    have C2 := Lib.hid hC2
    have C3 := Lib.hid (fun W => neededS_any x y W)
    generalize ansG x y = z at C1 C2 C3
    generalize decide (okG x y) = b at C1 C2 C3
    have hzz : (z != z) = false := by simp
    have hbb : (b != b) = false := by simp
    clear hb D1 hC2
    go_wp2_with fail
    refine C1.out.mono ?_
    rintro e w2 ⟨rfl, hb⟩
    have HB2 := Lib.hid (HB1.out.trans (hb.mono HB1.out.size))
    clear hb C1 HB1
    go_wp2_with fail
    refine (C2.out _).mono ?_
    rintro e w3 ⟨rfl, hb⟩
    have HB3 := Lib.hid (HB2.out.trans (hb.mono HB2.out.size))
    clear hb C2 HB2
    go_wp2_with fail
    refine (C3.out _).mono ?_
    rintro e w4 ⟨rfl, hb⟩
    have HB4 := Lib.hid (HB3.out.trans (hb.mono HB3.out.size))
    have D2 := Lib.hid (drawY_any c (HC.out.on HB4.out))
    clear hb C3 HB3
    go_wp2_with fail
    refine D2.out.mono ?_
    rintro e w5 ⟨g2, c2, q2, L2, p2, rfl, hq2, hqc2, hL2, hb⟩
    have HB5 := Lib.hid (HB4.out.trans (hb.mono HB4.out.size))
    have HL5 := Lib.hid hL2
    obtain ⟨R2, x2, hA⟩ := mayA_ex L2 p2
    have HA := Lib.hid hA
    have C1 := Lib.hid (mayI_any c2 p2 HL5.out (by omega) hqc2 R2 x2 hA)
    have hRR : (R2 != R2) = false := by simp
    have hxx : (x2 != x2) = false := by simp
    clear hb D2 hL2 hA HB4 hzz hbb
    go_wp2_with fail
    refine C1.out.mono ?_
    rintro e w6 ⟨rfl, hb⟩
    have HB6 := Lib.hid (HB5.out.trans (hb.mono HB5.out.size))
    have C2 := Lib.hid (mayS_any c2 p2 (HL5.out.below hb HL5.out.low) (by omega) R2 x2 HA.out)
    clear hb C1 HB5 HL5 HA
    go_wp2_with fail
    refine C2.out.mono ?_
    rintro e w7 ⟨rfl, hb⟩
    have HB7 := Lib.hid (HB6.out.trans (hb.mono HB6.out.size))
    have D3 := Lib.hid (drawM_any c (HC.out.on HB7.out))
    clear hb C2 HB6
    go_wp2_with fail
    refine D3.out.mono ?_
    rintro e w8 ⟨g3, c3, q3, vs, rfl, hq3, hqc3, hL3, hb⟩
    have HB8 := Lib.hid (HB7.out.trans (hb.mono HB7.out.size))
    have HL8 := Lib.hid hL3
    obtain ⟨z3, x3, hA⟩ := mostA_ex vs
    have HA := Lib.hid hA
    have C1 := Lib.hid (mostI_any c3 HL8.out (by omega) hqc3 z3 x3 hA)
    have hzz : (z3 != z3) = false := by simp
    have hyy : (x3 != x3) = false := by simp
    clear hb D3 hL3 hA HB7 hRR hxx HC
    go_wp2_with fail
    refine C1.out.mono ?_
    rintro e w9 ⟨rfl, hb⟩
    have HB9 := Lib.hid (HB8.out.trans (hb.mono HB8.out.size))
    have HL9 := Lib.hid (HL8.out.below hb HL8.out.low)
    have C2 := Lib.hid (mostS_any c3 HL9.out (by omega) z3 x3 HA.out)
    clear hb C1 HB8 HL8
    go_wp2_with fail
    refine C2.out.mono ?_
    rintro e w10 ⟨rfl, hb⟩
    have HB10 := Lib.hid (HB9.out.trans (hb.mono HB9.out.size))
    have HL10 := Lib.hid (HL9.out.below hb HL9.out.low)
    clear hb C2 HB9 HL9
    by_cases hK : gCs vs = true ∧ vs ≠ []
    · obtain ⟨hz3, rfl⟩ := HA.out.1 hK
      obtain ⟨hgc, hne⟩ := hK
      have HG := Lib.hid hgc
      have hlen := HL10.out.len
      have hq0 : 0 < q3 := by rw [← hlen]; exact List.length_pos_iff.2 hne
      have hqi : (0 : Int) < (q3 : Int) := by omega
      have CG := Lib.hid (isCargoList_any c3 HL10.out (by unfold maxLen; omega) hqc3)
      rw [hgc] at CG
      have HMX := Lib.hid (fun i (hi : i < q3) (he : (vs.getD i noCargo).x0 = z3) => most_cones HG.out (i := i) (by rw [HL10.out.len]; exact hi) (he.trans hz3))
      clear hz3 hgc hne hlen HA
      go_wp2_with fail
      refine CG.out.mono ?_
      rintro e w11 ⟨rfl, hb⟩
      have HB11 := Lib.hid (HB10.out.trans (hb.mono HB10.out.size))
      have HL11 := Lib.hid (HL10.out.below hb HL10.out.low)
      clear hb CG HB10 HL10
      go_wp2_with fail
      go_loopw [22] (fun v wr => ∃ i : Nat, i ≤ q3 ∧ v = .int .i64 i ∧ Below w.heap.size w wr ∧ Below w11.heap.size w11 wr) (fun v _ => q3 - (intOf v).toNat)
      case atStart => exact ⟨0, Nat.zero_le _, rfl, HB11.out, Below.refl _ _⟩
      case round =>
        clear HB11 hqi
        obtain ⟨i, hi, rfl, hbw, hbq⟩ := hrel
        have HBW := Lib.hid hbw
        have HBQ := Lib.hid hbq
        clear hbw hbq
        by_cases hlt : i < q3
        · have hil : i < vs.length := by rw [HL11.out.len]; exact hlt
          have HV := Lib.hid (fun W (hq : Below w11.heap.size w11 W) => (HL11.out.below hq HL11.out.low).has.Cargo hil)
          obtain ⟨aV, eV, -, hVc⟩ := HV.out _ HBQ.out
          injection eV with eV
          subst eV
          have v0 := hVc.c0
          simp only [addO, Nat.zero_add] at v0
          have HMI := Lib.hid (HMX.out i hlt)
          have HMY := Lib.hid (fun h => may_ten HG.out hil h)
          obtain ⟨V, hV⟩ : ∃ V, vs.getD i noCargo = V := ⟨_, rfl⟩
          rw [hV] at v0 HV HMI HMY
          have hi0 : (0 : Int) ≤ (i : Int) := by omega
          have hi1 : (i : Int) < (q3 : Int) := by omega
          obtain ⟨vd, vl, vq⟩ := V
          dsimp only at v0 HMI HMY
          clear hVc hV
          by_cases he : vd = z3
          · have hne3 : (vd != z3) = false := by simp [he]
            have HMJ := Lib.hid (HMI.out he)
            have HMY2 := Lib.hid (HMY.out HMJ.out)
            clear HMI HMY he
            go_wp2_with fail
            obtain ⟨wo, hwo⟩ : ∃ W, W = wr := ⟨_, rfl⟩
            subst hwo
            clear v0
            go_loopw [23] (fun v wr => ∃ k : Nat, k ≤ q3 ∧ v = .int .i64 k ∧ Below w.heap.size w wr ∧ Below w11.heap.size w11 wr) (fun v _ => q3 - (intOf v).toNat)
            case atStart => exact ⟨0, Nat.zero_le _, rfl, HBW.out, HBQ.out⟩
            case round =>
              clear HBW HBQ
              obtain ⟨k, hk, rfl, hbw, hbq⟩ := hrel
              have HBW := Lib.hid hbw
              have HBQ := Lib.hid hbq
              clear hbw hbq
              obtain ⟨aV, eV, -, hVc⟩ := HV.out _ HBQ.out
              injection eV with eV
              subst eV
              have v2 := hVc.c2
              simp only [addO, Nat.zero_add] at v2
              clear hVc
              by_cases hlk : k < q3
              · have hkl : k < vs.length := by rw [HL11.out.len]; exact hlk
                obtain ⟨aU, eU, -, hUc⟩ := (HL11.out.below HBQ.out HL11.out.low).has.Cargo hkl
                injection eU with eU
                subst eU
                have u2 := hUc.c2
                simp only [addO, Nat.zero_add] at u2
                have hle := HMJ.out k hkl
                generalize (vs.getD k noCargo).x2 = uq at u2 hle
                have hnl : ¬ vq < uq := by omega
                have U2 := fun (d : Nat) (os : Array Obj) => cell_regrown u2 d os
                have V2 := fun (d : Nat) (os : Array Obj) => cell_regrown v2 d os
                have hk0 : (0 : Int) ≤ (k : Int) := by omega
                have hk1 : (k : Int) < (q3 : Int) := by omega
                clear hUc u2 v2 hle
                go_wp2_with fail
                refine wp_region_quiet_below (by kernel_rfl) (by kernel_rfl) ?_
                repeat (go_big_quiet_step (first | fail))
                refine wpQuiet_nil ?_
                intro _ hw'
                obtain ⟨⟨dq, osq⟩, hw''⟩ := hw'
                subst hw''
                have HBX := Lib.hid (HBW.out.trans ((below_regrown wr dq osq).mono HBW.out.size))
                have HBY := Lib.hid (HBQ.out.trans ((below_regrown wr dq osq).mono HBQ.out.size))
                clear U2 V2
                go_wp2_with fail
                go_roundw
                case rel => exact ⟨k + 1, by omega, by go_num, HBX.out, HBY.out⟩
                case measure => simp [intOf]; omega
              · obtain rfl : k = q3 := by omega
                have C4 := Lib.hid (mayI_any c3 10 (HL11.out.below HBQ.out HL11.out.low) (by omega) hqc3 _ true HMY2.out)
                have hnk : ¬ (k : Int) < (k : Int) := by omega
                clear v2
                go_wp2_with fail
                refine C4.out.mono ?_
                rintro e w12 ⟨rfl, hb⟩
                have HB12 := Lib.hid (HBW.out.trans (hb.mono HBW.out.size))
                have HB13 := Lib.hid (HBQ.out.trans (hb.mono HBQ.out.size))
                obtain ⟨aV, eV, -, hVc⟩ := HV.out _ HB13.out
                injection eV with eV
                subst eV
                have v2 := hVc.c2
                simp only [addO, Nat.zero_add] at v2
                have hdd : (decide (vq ≤ 1) != decide (vq ≤ 1)) = false := by simp
                clear hVc hb C4 HBW HBQ
                go_wp2_with fail
                go_roundw
                case rel => exact ⟨i + 1, by omega, by go_num, HB12.out, HB13.out⟩
                case measure => simp [intOf]; omega
          · have hne3 : (vd != z3) = true := by simp [he]
            clear HMI HMY he
            go_wp2_with fail
            go_roundw
            case rel => exact ⟨i + 1, by omega, by go_num, HBW.out, HBQ.out⟩
            case measure => simp [intOf]; omega
        · obtain rfl : i = q3 := by omega
          have hnk : ¬ (i : Int) < (i : Int) := by omega
          go_wp2_with fail
          go_ret
          exact ⟨rfl, HBW.out⟩
    · obtain ⟨rfl, rfl⟩ := HA.out.2 hK
      have hlen := HL10.out.len
      cases hgc : gCs vs with
      | true =>
        have hq0 : q3 = 0 := by
          rw [← hlen]
          rcases Nat.eq_zero_or_pos vs.length with h | h
          · exact h
          · exact absurd ⟨hgc, List.length_pos_iff.1 h⟩ hK
        subst hq0
        clear hK HA hlen
        -- nothing is known: the loop is not entered
        have CG := Lib.hid (isCargoList_any c3 HL10.out (by unfold maxLen; omega) hqc3)
        rw [hgc] at CG
        go_wp2_with fail
        refine CG.out.mono ?_
        rintro e w11 ⟨rfl, hb⟩
        have HB11 := Lib.hid (HB10.out.trans (hb.mono HB10.out.size))
        clear hb CG HB10 HL10
        go_wp2_with fail
        go_loopw [22] (fun v wr => v = .int .i64 0 ∧ Below w.heap.size w wr) (fun _ _ => 0)
        case atStart => exact ⟨rfl, HB11.out⟩
        case round =>
          obtain ⟨rfl, hbw⟩ := hrel
          have HBW := Lib.hid hbw
          clear hbw HB11
          go_wp2_with fail
          go_ret
          exact ⟨rfl, HBW.out⟩
      | false =>
        clear hK HA hlen
        rcases Nat.eq_zero_or_pos q3 with h0 | h0
        · subst h0
          -- nothing is known: the loop is not entered
          have CG := Lib.hid (isCargoList_any c3 HL10.out (by unfold maxLen; omega) hqc3)
          rw [hgc] at CG
          go_wp2_with fail
          refine CG.out.mono ?_
          rintro e w11 ⟨rfl, hb⟩
          have HB11 := Lib.hid (HB10.out.trans (hb.mono HB10.out.size))
          clear hb CG HB10 HL10
          go_wp2_with fail
          go_loopw [22] (fun v wr => v = .int .i64 0 ∧ Below w.heap.size w wr) (fun _ _ => 0)
          case atStart => exact ⟨rfl, HB11.out⟩
          case round =>
            obtain ⟨rfl, hbw⟩ := hrel
            have HBW := Lib.hid hbw
            clear hbw HB11
            go_wp2_with fail
            go_ret
            exact ⟨rfl, HBW.out⟩
        · have hqi : (0 : Int) < (q3 : Int) := by omega
          -- nothing is known: the loop is not entered
          have CG := Lib.hid (isCargoList_any c3 HL10.out (by unfold maxLen; omega) hqc3)
          rw [hgc] at CG
          go_wp2_with fail
          refine CG.out.mono ?_
          rintro e w11 ⟨rfl, hb⟩
          have HB11 := Lib.hid (HB10.out.trans (hb.mono HB10.out.size))
          clear hb CG HB10 HL10
          go_wp2_with fail
          go_loopw [22] (fun v wr => v = .int .i64 0 ∧ Below w.heap.size w wr) (fun _ _ => 0)
          case atStart => exact ⟨rfl, HB11.out⟩
          case round =>
            obtain ⟨rfl, hbw⟩ := hrel
            have HBW := Lib.hid hbw
            clear hbw HB11
            go_wp2_with fail
            go_ret
            exact ⟨rfl, HBW.out⟩
theorem own : ownKnob Try.prog.godebug = none := by kernel_rfl
theorem laidOut : laidOutB Try.prog = true := by kernel_rfl

set_option maxRecDepth 100000 in
theorem lifted (os : Os) (started : os.Started) (H : Type) (enc : TypeId × Value → H) :
    ReturnsInHanded {} Try.checked os 4 .any (Rows.fnConesSpec.pre6 enc Try.prog Try.f4 Rows.fnConesRow.domain false) (Rows.fnConesSpec.post enc Try.prog Try.f4 false true false false) := by
  refine returnsInHanded_of_change (C := Try.checked) own started (by kernel_rfl) Try.func4
    (ChangeSpec.witness6 (enc := enc) (C := Try.checked) false ⟨#[], #[.slice none 0 0], []⟩ 8 (by kernel_rfl) (by kernel_rfl) (by kernel_rfl) (by kernel_rfl)) ?_
  intro W base args ds gs before hval0 hW hcnd _
  have hval : ∀ (j : Nat) t v, Try.f4.params[j]? = some t → args[j]? = some v → Value.okWide Try.prog W .any base t v := hval0
  have hW' := hW
  obtain ⟨p, q, hA0, hV, rfl, hfz, hnd⟩ := hW
  have hA : DataW.TrodAll enc Try.prog W 0 (fun _ => true) true Try.f4.params.toList args.toList ds p := hA0
  rw [Try.params4] at hA hval
  obtain ⟨v0, vs0, d0, ds0, p0, q0, hargs, rfl, rfl, h0, r0⟩ := trodAll_cons hA
  obtain ⟨rfl, rfl, rfl⟩ := trodAll_nil r0
  obtain rfl : args = #[v0] := by cases args; simp_all
  obtain ⟨rfl, rfl⟩ := trodVars_none hV
  obtain ⟨a0, len0, cap0, rfl⟩ := okWide_slice Try.underlying22 (hval 0 22 v0 rfl rfl)
  have k0 := h0
  have lt0 : ∀ x ∈ p0, x.block < W.heap.size := by obtain ⟨m, hm⟩ := k0; exact DataW.trod_lt m _ _ _ hm
  obtain ⟨z0, w0⟩ : ∃ zs, IsInts .u8 W a0 len0 zs := by
    obtain ⟨fuel, hf⟩ := h0
    rcases open_ints Try.underlying22 Try.underlying5 (by kernel_rfl) hf with ⟨hcs, _⟩ | ⟨x, l, c, zs, hcs, _, hl, hm, hz, _, hcell, hwz⟩
    · simp [Value.cells] at hcs
      obtain ⟨rfl, rfl, rfl⟩ := hcs
      exact ⟨[], isInts_nil _ W⟩
    · simp [Value.cells] at hcs
      obtain ⟨rfl, rfl, rfl⟩ := hcs
      exact ⟨_, isInts_some hl hm (by simpa using hz) hcell hwz⟩
  clear hA0 hval0
  refine (walk a0 len0 cap0 z0 W w0).mono fun e W' ⟨he, bel⟩ => ?_
  subst he
  exact ⟨_, rfl, _, _, _, [], _, [], hW', trodAll_mk1 (shut_bool Try.underlying4 _), (trodAll_cons_mk (Below.trod laidOut (by kernel_rfl) (of_decide_eq_true (by kernel_rfl)) k0 bel lt0) trodAll_mk0), rfl, bel.frame _, fun h => by cases h⟩

theorem over : Rows.fnConesRow.holds Try.pinned (OpenSpec.ofChange Rows.fnConesSpec) :=
  OpenClaim.holds_of_wide 4 Try.f4 rfl rfl rfl rfl rfl rfl rfl ⟨rfl, rfl, rfl, rfl, rfl⟩ rfl rfl rfl rfl rfl (by kernel_rfl) Try.func4 (by kernel_rfl)
    (of_decide_eq_true (by kernel_rfl)) (by unfold Func.isWrapper; first | (rw [if_pos (by decide +kernel)]; kernel_rfl) | (rw [if_neg (by decide +kernel)]; exact ⟨rfl, rfl⟩))
    (fun os started H enc _ => lifted os started H enc)

/-- The statement. -/
theorem proved : Rows.FnConesSaid := over
end Go.Proofs.Ytacpmckdfddmeaa.fnCones
