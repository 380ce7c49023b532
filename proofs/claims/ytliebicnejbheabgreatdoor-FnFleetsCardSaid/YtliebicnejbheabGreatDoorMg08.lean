/- Texts that are joined: FleetJ, VesTo. -/
import Derived.Test.YtliebicnejbheabGreatDoorMg07
import Derived.BigQuiet
import Derived.Test.YtliebicnejbheabGreatDoorMg03
import Derived.Maps.AppendAt
/- Chapter 3, the program: IsFleet. -/
namespace Go.Proofs.YtliebicnejbheabGreatDoor
open Go.RowKit Go.PlainAid Go.Sort

set_option maxHeartbeats 2000000 in
theorem isFleet_any (A : Option Addr) (n c B : Nat) (vs : List Ves) (w : World) (hn : vs.length = n) (hm : n ≤ maxLen) (hcap : n ≤ c) (hs : ∀ v ∈ vs, v.name.size ≤ maxLen) (hB : B ≤ w.heap.size) (h : Has w B A (flatV vs)) :
    Calls Tryz.prog 18 #[.slice A n c] w fun e w' => e = .returned (.bool (gF vs)) ∧ Below w.heap.size w w' := by
  unfold maxLen at hm
  have CG := Lib.hid (fun (i : Int) (s : ByteArray) (l b d q : Int) (W : World) (hs : s.size ≤ maxLen) => implGoodV_any i s l b d q W hs)
  have CP := Lib.hid (fun (k c : Nat) (t : ByteArray) (W : World) (hk : k ≤ n) (hb : Below w.heap.size w W) => placeOfName_any A k c B vs t W (by omega) (by unfold maxLen; omega) (by have := hb.size; omega) (h.below (hb.mono hB)))
  have HL := Lib.hid hn
  have HS := Lib.hid hs
  have H := Lib.hid h
  have HY := Lib.hid (fun h : goodF vs => gF_yes h)
  have HN := Lib.hid (fun h : ¬ goodF vs => gF_no h)
  generalize gF vs = R at HY HN ⊢
  clear hn hs h
  by_cases h8 : (8 : Int) < (n : Int)
  · obtain rfl : R = false := HN.out (fun g => by have := g.1; rw [HL.out] at this; omega)
    clear HY HN H HS CG CP
    go_enter Tryz.func18, Tryz.ntmps18
    go_wp2
    go_ret
    exact ⟨rfl, Below.refl _ _⟩
  · go_enter Tryz.func18, Tryz.ntmps18
    go_wp2_with fail
    go_loopw [10] (fun i wr => ∃ k : Nat, k ≤ n ∧ i = .int .i64 k ∧ Hid (∀ j, j < k → okF vs j) ∧ Below w.heap.size w wr) (fun i _ => n - (intOf i).toNat)
    case atStart => exact ⟨0, Nat.zero_le _, rfl, Lib.hid (by simp), Below.refl _ _⟩
    case round =>
      obtain ⟨k, hk, rfl, hall, hb⟩ := hrel
      by_cases hlt : k < n
      · have hkl : k < vs.length := by rw [HL.out]; exact hlt
        obtain ⟨a1, rfl, hab, HV⟩ := (H.out.below (hb.mono hB)).ves hkl
        have hsz : (vs.getD k noVes).name.size ≤ maxLen := by rw [getV hkl]; exact HS.out _ (List.getElem_mem hkl)
        have HOK : Hid (okF vs k ↔ goodV (vs.getD k noVes) ∧ (0 < k → (vs.getD (k - 1) noVes).id < (vs.getD k noVes).id) ∧ ∀ i, i < k → (vs.getD i noVes).name ≠ (vs.getD k noVes).name) := Lib.hid Iff.rfl
        have HF : Hid (¬ okF vs k → R = false) := Lib.hid (fun h => HN.out (fun g => h (g.2 k hkl)))
        have HA : Hid (okF vs k → ∀ j, j < k + 1 → okF vs j) := Lib.hid (fun h j hj => by
          rcases Nat.lt_succ_iff_lt_or_eq.1 hj with h1 | h1
          · exact hall.out j h1
          · exact h1 ▸ h)
        obtain ⟨V, hV⟩ : ∃ V, vs.getD k noVes = V := ⟨_, rfl⟩
        rw [hV] at HV hsz HOK
        clear hV
        obtain ⟨i, s, l, b, d, q⟩ := V
        dsimp only at hsz
        obtain ⟨e0, e1, e2, e3, e4, e5⟩ := HV
        dsimp only at e0 e1 e2 e3 e4 e5
        have CGk := Lib.hid (fun W => CG.out i s l b d q W hsz)
        have HB := Lib.hid hb
        have hk0 : (0 : Int) ≤ (k : Int) := by omega
        have hk1 : (k : Int) < (n : Int) := by omega
        clear hb hall CG
        go_wp2_with fail
        obtain ⟨W5, hW5⟩ : ∃ W, wr.alloc (.cells #[.int .i64 i, .string s, .int .i64 l, .int .i64 b, .int .i64 d, .int .i64 q] 25) = W := ⟨_, rfl⟩
        obtain ⟨xb, hxb⟩ : ∃ x, wr.heap.size = x := ⟨_, rfl⟩
        have c0 : W5.cell? ⟨xb, 0, none⟩ = some (.int .i64 i) := by rw [← hW5, ← hxb, vNew]; rfl
        have c1 : W5.cell? ⟨xb, 1, none⟩ = some (.string s) := by rw [← hW5, ← hxb, vNew]; rfl
        have c2 : W5.cell? ⟨xb, 2, none⟩ = some (.int .i64 l) := by rw [← hW5, ← hxb, vNew]; rfl
        have c3 : W5.cell? ⟨xb, 3, none⟩ = some (.int .i64 b) := by rw [← hW5, ← hxb, vNew]; rfl
        have c4 : W5.cell? ⟨xb, 4, none⟩ = some (.int .i64 d) := by rw [← hW5, ← hxb, vNew]; rfl
        have c5 : W5.cell? ⟨xb, 5, none⟩ = some (.int .i64 q) := by rw [← hW5, ← hxb, vNew]; rfl
        have HB5 := Lib.hid (show Below w.heap.size w W5 by rw [← hW5]; exact HB.out.alloc HB.out.size _)
        rw [hW5, hxb]
        clear hW5 hxb e0 e1 e2 e3 e4 e5
        have E0 := fun (d : Nat) (os : Array Obj) => cell_regrown c0 d os
        have E1 := fun (d : Nat) (os : Array Obj) => cell_regrown c1 d os
        have E2 := fun (d : Nat) (os : Array Obj) => cell_regrown c2 d os
        have E3 := fun (d : Nat) (os : Array Obj) => cell_regrown c3 d os
        have E4 := fun (d : Nat) (os : Array Obj) => cell_regrown c4 d os
        have E5 := fun (d : Nat) (os : Array Obj) => cell_regrown c5 d os
        clear c0 c1 c2 c3 c4 c5
        by_cases hg : goodV ⟨i, s, l, b, d, q⟩
        · rw [gV_yes hg] at CGk
          have cM := fun (dr : Nat) (os : Array Obj) => Calls.regrown_of (w := W5) (d := dr) (os := os) (CGk.out _)
          have CPk := Lib.hid (fun (c : Nat) W (hb : Below w.heap.size w W) => CP.out k c s W (by omega) hb)
          have cP := fun (c : Nat) (dr : Nat) (os : Array Obj) => Calls.regrown_of (w := W5) (d := dr) (os := os) (CPk.out c _ (HB5.out.trans ((below_regrown W5 dr os).mono HB5.out.size)))
          have HPN := Lib.hid (fun h : ∀ i, i < k → (vs.getD i noVes).name ≠ s => pon_none k h)
          have HPS := Lib.hid (fun h : 0 ≤ pon vs s k => pon_spec h)
          obtain ⟨z, hz⟩ : ∃ z, pon vs s k = z := ⟨_, rfl⟩
          have HZ := Lib.hid hz
          rw [hz] at cP HPN HPS
          clear hz CGk CPk CP
          have HNO : Hid (¬ (0 : Int) ≤ z → ∀ i, i < k → (vs.getD i noVes).name ≠ s) := Lib.hid (fun h i hi e => by
            have := pon_first (vs := vs) (s := s) hi e
            rw [HZ.out] at this
            exact h this)
          have HYE : Hid ((0 : Int) ≤ z → R = false) := Lib.hid (fun h => HF.out (fun g => by
            obtain ⟨j, hj, -, e, -⟩ := HPS.out h
            exact (HOK.out.1 g).2.2 j hj e))
          clear HPN HPS HZ
          rcases Nat.eq_zero_or_pos k with h0 | h0
          · have hkz : ¬ 0 < k := by omega
            have HK0 := Lib.hid h0
            clear h0
            by_cases hz0 : (0 : Int) ≤ z
            · obtain rfl : R = false := HYE.out hz0
              clear HA HOK HF HY HN H HNO HYE
              refine wp_region_quiet_below (by kernel_rfl) (by kernel_rfl) ?_
              repeat (go_big_quiet_step (first | exact cM _ _ | exact cP _ _ _))
              refine wpQuiet_nil ?_
              intro _ hw'
              obtain ⟨⟨dq, osq⟩, hw''⟩ := hw'
              subst hw''
              have HB2 := Lib.hid (HB5.out.trans ((below_regrown W5 dq osq).mono HB5.out.size))
              clear E0 E1 E2 E3 E4 E5 cM cP
              go_wp2
              go_ret
              exact ⟨rfl, HB2.out⟩
            · have HNN := Lib.hid (HNO.out hz0)
              clear HNO HYE
              refine wp_region_quiet_below (by kernel_rfl) (by kernel_rfl) ?_
              repeat (go_big_quiet_step (first | exact cM _ _ | exact cP _ _ _))
              refine wpQuiet_nil ?_
              intro _ hw'
              obtain ⟨⟨dq, osq⟩, hw''⟩ := hw'
              subst hw''
              have HB2 := Lib.hid (HB5.out.trans ((below_regrown W5 dq osq).mono HB5.out.size))
              clear E0 E1 E2 E3 E4 E5 cM cP
              have HR := Lib.hid (HA.out (HOK.out.2 ⟨hg, (fun h => absurd h (by have := HK0.out; omega)), HNN.out⟩))
              clear HA HOK HF HY HN H
              go_wp2
              go_roundw
              case rel => exact ⟨k + 1, by omega, by go_num, HR, HB2.out⟩
              case measure => simp [intOf]; omega
          · obtain ⟨kp, rfl⟩ : ∃ kp, k = kp + 1 := ⟨k - 1, by omega⟩
            have hpl : kp < vs.length := by omega
            obtain ⟨a5, e5, -, HP⟩ := (H.out.below (HB5.out.mono hB)).ves hpl
            injection e5 with e5
            subst e5
            obtain ⟨PV, hPV⟩ : ∃ V, vs.getD kp noVes = V := ⟨_, rfl⟩
            rw [hPV] at HP
            have HPE := Lib.hid hPV
            clear hPV
            have P0 := fun (d : Nat) (os : Array Obj) => cell_regrown HP.c0 d os
            clear HP
            obtain ⟨pi, ps, pl, pb, pd, pq⟩ := PV
            dsimp only at P0
            have hkp : 0 < kp + 1 := by omega
            clear h0
            have hp0 : (0 : Int) ≤ (kp : Int) := by omega
            have hp1 : (kp : Int) < (n : Int) := by omega
            by_cases hpi : i ≤ pi
            · obtain rfl : R = false := HF.out (fun h => by
                have := (HOK.out.1 h).2.1 (by omega)
                rw [Nat.add_sub_cancel, HPE.out] at this
                exact absurd this (by show ¬ pi < i; omega))
              clear HA HOK HF HY HN H HNO HYE HPE
              refine wp_region_quiet_below (by kernel_rfl) (by kernel_rfl) ?_
              repeat (go_big_quiet_step (first | exact cM _ _ | exact cP _ _ _))
              refine wpQuiet_nil ?_
              intro _ hw'
              obtain ⟨⟨dq, osq⟩, hw''⟩ := hw'
              subst hw''
              have HB2 := Lib.hid (HB5.out.trans ((below_regrown W5 dq osq).mono HB5.out.size))
              clear E0 E1 E2 E3 E4 E5 cM cP P0
              go_wp2
              go_ret
              exact ⟨rfl, HB2.out⟩
            · have HPL : Hid (pi < i) := Lib.hid (by omega)
              by_cases hz0 : (0 : Int) ≤ z
              · obtain rfl : R = false := HYE.out hz0
                clear HA HOK HF HY HN H HNO HYE HPE
                refine wp_region_quiet_below (by kernel_rfl) (by kernel_rfl) ?_
                repeat (go_big_quiet_step (first | exact cM _ _ | exact cP _ _ _))
                refine wpQuiet_nil ?_
                intro _ hw'
                obtain ⟨⟨dq, osq⟩, hw''⟩ := hw'
                subst hw''
                have HB2 := Lib.hid (HB5.out.trans ((below_regrown W5 dq osq).mono HB5.out.size))
                clear E0 E1 E2 E3 E4 E5 cM cP P0
                go_wp2
                go_ret
                exact ⟨rfl, HB2.out⟩
              · have HNN := Lib.hid (HNO.out hz0)
                clear HNO HYE
                refine wp_region_quiet_below (by kernel_rfl) (by kernel_rfl) ?_
                repeat (go_big_quiet_step (first | exact cM _ _ | exact cP _ _ _))
                refine wpQuiet_nil ?_
                intro _ hw'
                obtain ⟨⟨dq, osq⟩, hw''⟩ := hw'
                subst hw''
                have HB2 := Lib.hid (HB5.out.trans ((below_regrown W5 dq osq).mono HB5.out.size))
                clear E0 E1 E2 E3 E4 E5 cM cP P0
                have HR := Lib.hid (HA.out (HOK.out.2 ⟨hg, (fun _ => by rw [Nat.add_sub_cancel, HPE.out]; exact HPL.out), HNN.out⟩))
                clear HA HOK HF HY HN H
                go_wp2
                go_roundw
                case rel => exact ⟨kp + 1 + 1, by omega, by go_num, HR, HB2.out⟩
                case measure => simp [intOf]; omega
        · rw [gV_no hg] at CGk
          have cM := fun (dr : Nat) (os : Array Obj) => Calls.regrown_of (w := W5) (d := dr) (os := os) (CGk.out _)
          obtain rfl : R = false := HF.out (fun h => hg (HOK.out.1 h).1)
          clear CGk HOK HF HA H HY HN CP
          refine wp_region_quiet_below (by kernel_rfl) (by kernel_rfl) ?_
          repeat (go_big_quiet_step (first | exact cM _ _))
          refine wpQuiet_nil ?_
          intro _ hw'
          obtain ⟨⟨dq, osq⟩, hw''⟩ := hw'
          subst hw''
          have HB2 := Lib.hid (HB5.out.trans ((below_regrown W5 dq osq).mono HB5.out.size))
          clear E0 E1 E2 E3 E4 E5 cM
          go_wp2
          go_ret
          exact ⟨rfl, HB2.out⟩
      · obtain rfl : k = n := by omega
        obtain rfl : R = true := HY.out ⟨by rw [HL.out]; omega, fun j hj => hall.out j (by rw [HL.out] at hj; exact hj)⟩
        clear HY HN H CG CP hlt HS hall
        go_wp2
        go_ret
        exact ⟨rfl, hb⟩
end Go.Proofs.YtliebicnejbheabGreatDoor

/- Chapter 3: rows of vessels: copy, equality, size. -/
namespace Go.Proofs.YtliebicnejbheabGreatDoor
open Go.RowKit Go.PlainAid Go.Sort

theorem Tryz.infoVes' : (Tryz.prog.info? 25).map (fun i => (i.zero, i.size, i.bytes)) = some (some (.agg #[.int .i64 0, .string ByteArray.empty, .int .i64 0, .int .i64 0, .int .i64 0, .int .i64 0]), 6, 56) := by kernel_rfl

/-- The letters of the first k names. -/
def nsz (vs : List Ves) : Nat → Nat
  | 0 => 0
  | k + 1 => nsz vs k + (vs.getD k ⟨0, ⟨#[]⟩, 0, 0, 0, 0⟩).name.size
theorem nsz_at (vs : List Ves) (k : Nat) (h : k < vs.length) : nsz vs (k + 1) = nsz vs k + vs[k].name.size := by
  simp [nsz, List.getD_eq_getElem?_getD, List.getElem?_eq_getElem h]
theorem nsz_mono (vs : List Ves) (k : Nat) : ∀ d, nsz vs k ≤ nsz vs (k + d)
  | 0 => Nat.le_refl _
  | d + 1 => Nat.le_trans (nsz_mono vs k d) (Nat.le_add_right _ _)



end Go.Proofs.YtliebicnejbheabGreatDoor
