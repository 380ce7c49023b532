/- Texts that are joined: Fleet. -/
import Derived.Test.YtliebicnejbheabGreatDoorMg03
import Derived.BigQuiet
/- Chapter 3, the model: whether a list of vessels is a fleet. -/
namespace Go.Proofs.YtliebicnejbheabGreatDoor
open Go.RowKit Go.PlainAid Go.Sort

def noVes : Ves := ⟨0, ⟨#[]⟩, 0, 0, 0, 0⟩
/-- What the vessel at j must be. -/
def okF (vs : List Ves) (j : Nat) : Prop :=
  goodV (vs.getD j noVes) ∧ (0 < j → (vs.getD (j - 1) noVes).id < (vs.getD j noVes).id) ∧ ∀ i, i < j → (vs.getD i noVes).name ≠ (vs.getD j noVes).name
/-- A fleet. -/
def goodF (vs : List Ves) : Prop := vs.length ≤ 8 ∧ ∀ j, j < vs.length → okF vs j
noncomputable instance decF (vs : List Ves) : Decidable (goodF vs) := Classical.propDecidable _
noncomputable def gF (vs : List Ves) : Bool := decide (goodF vs)
theorem gF_iff (vs : List Ves) : gF vs = true ↔ goodF vs := decide_eq_true_iff
theorem gF_yes {vs : List Ves} (h : goodF vs) : gF vs = true := decide_eq_true h
theorem gF_no {vs : List Ves} (h : ¬ goodF vs) : gF vs = false := decide_eq_false h
theorem getV {vs : List Ves} {j : Nat} (h : j < vs.length) : vs.getD j noVes = vs[j] := by
  rw [List.getD_eq_getElem?_getD, List.getElem?_eq_getElem h]
  rfl
/-- A vessel of a row that lies at a. -/
structure VesAt (w : World) (a : Addr) (k : Nat) (v : Ves) : Prop where
  c0 : w.cell? (a.add (k * 6)) = some (.int .i64 v.id)
  c1 : w.cell? ⟨(a.add (k * 6)).block, (a.add (k * 6)).off + 1, none⟩ = some (.string v.name)
  c2 : w.cell? ⟨(a.add (k * 6)).block, (a.add (k * 6)).off + 2, none⟩ = some (.int .i64 v.len)
  c3 : w.cell? ⟨(a.add (k * 6)).block, (a.add (k * 6)).off + 3, none⟩ = some (.int .i64 v.wid)
  c4 : w.cell? ⟨(a.add (k * 6)).block, (a.add (k * 6)).off + 4, none⟩ = some (.int .i64 v.dr)
  c5 : w.cell? ⟨(a.add (k * 6)).block, (a.add (k * 6)).off + 5, none⟩ = some (.int .i64 v.kind)
theorem Has.ves {w : World} {B : Nat} {A : Option Addr} {vs : List Ves} (h : Has w B A (flatV vs)) {k : Nat} (hk : k < vs.length) :
    ∃ a, A = some a ∧ a.block < B ∧ VesAt w a k (vs.getD k noVes) := by
  obtain ⟨a, e, hb, h0, h1, h2, h3, h4, h5⟩ := h.vesAt hk
  rw [getV hk]
  exact ⟨a, e, hb, h0, h1, h2, h3, h4, h5⟩

theorem list_ne {s t : ByteArray} (h : s ≠ t) : (s.toList == t.toList) = false := by
  rw [beq_eq_false_iff_ne, ByteArray.toList_eq, ByteArray.toList_eq]
  exact fun e => h (ByteArray.ext (Array.ext' e))

set_option maxHeartbeats 2000000 in
theorem l3Fleet_any (A : Option Addr) (n c B : Nat) (vs : List Ves) (w : World) (hn : vs.length = n) (hm : n ≤ maxLen) (hs : ∀ v ∈ vs, v.name.size ≤ maxLen) (hB : B ≤ w.heap.size) (h : Has w B A (flatV vs)) :
    Calls Tryz.prog 42 #[.slice A n c] w fun e w' => e = .returned (.bool (gF vs)) ∧ Below w.heap.size w w' := by
  unfold maxLen at hm
  have CG := Lib.hid (fun (i : Int) (s : ByteArray) (l b d q : Int) (W : World) (hs : s.size ≤ maxLen) => l3Good_any i s l b d q W hs)
  have HL := Lib.hid hn
  have HS := Lib.hid hs
  have H := Lib.hid h
  have HY := Lib.hid (fun h : goodF vs => gF_yes h)
  have HN := Lib.hid (fun h : ¬ goodF vs => gF_no h)
  generalize gF vs = R at HY HN ⊢
  clear hn hs h
  go_enter Tryz.func42, Tryz.ntmps42
  go_wp2_with fail
  go_loopw [3] (fun i wr => ∃ k : Nat, k ≤ n ∧ k ≤ 9 ∧ i = .int .i64 k ∧ Hid (∀ j, j < k → okF vs j) ∧ Below w.heap.size w wr) (fun i _ => n - (intOf i).toNat)
  case atStart => exact ⟨0, Nat.zero_le _, Nat.zero_le _, rfl, Lib.hid (by simp), Below.refl _ _⟩
  case round =>
    obtain ⟨k, hk, hk9, rfl, hall, hb⟩ := hrel
    by_cases hlt : k < n ∧ k ≤ 8
    · obtain ⟨hlt, hk8⟩ := hlt
      have hkl : k < vs.length := by rw [HL.out]; exact hlt
      obtain ⟨a1, rfl, hab, HV⟩ := (H.out.below (hb.mono hB)).ves hkl
      have hsz : (vs.getD k noVes).name.size ≤ maxLen := by rw [getV hkl]; exact HS.out _ (List.getElem_mem hkl)
      have HOK : Hid (okF vs k ↔ goodV (vs.getD k noVes) ∧ (0 < k → (vs.getD (k - 1) noVes).id < (vs.getD k noVes).id) ∧ ∀ i, i < k → (vs.getD i noVes).name ≠ (vs.getD k noVes).name) := Lib.hid Iff.rfl
      have HF : Hid (¬ okF vs k → R = false) := Lib.hid (fun h => HN.out (fun g => h (g.2 k hkl)))
      have HA : Hid (okF vs k → ∀ j, j < k + 1 → okF vs j) := Lib.hid (fun h j hj => by
        rcases Nat.lt_succ_iff_lt_or_eq.1 hj with h1 | h1
        · exact hall.out j h1
        · exact h1 ▸ h)
      have hgen : ∀ v, vs.getD k noVes = v → Hid (vs.getD k noVes = v) := fun _ h => Lib.hid h
      obtain ⟨V, hV⟩ : ∃ V, vs.getD k noVes = V := ⟨_, rfl⟩
      rw [hV] at HV hsz HOK
      have HVE := Lib.hid hV
      clear hV hgen
      obtain ⟨i, s, l, b, d, q⟩ := V
      dsimp only at hsz
      have E0 := fun (d : Nat) (os : Array Obj) => cell_regrown HV.c0 d os
      have E1 := fun (d : Nat) (os : Array Obj) => cell_regrown HV.c1 d os
      have E2 := fun (d : Nat) (os : Array Obj) => cell_regrown HV.c2 d os
      have E3 := fun (d : Nat) (os : Array Obj) => cell_regrown HV.c3 d os
      have E4 := fun (d : Nat) (os : Array Obj) => cell_regrown HV.c4 d os
      have E5 := fun (d : Nat) (os : Array Obj) => cell_regrown HV.c5 d os
      have CGk := Lib.hid (fun W => CG.out i s l b d q W hsz)
      have HB := Lib.hid hb
      have hk0 : (0 : Int) ≤ (k : Int) := by omega
      have hk1 : (k : Int) < (n : Int) := by omega
      have hk2 : (k : Int) ≤ 8 := by omega
      clear hb hall CG
      dsimp only at E0 E1 E2 E3 E4 E5
      by_cases hg : goodV ⟨i, s, l, b, d, q⟩
      · rw [gV_yes hg] at CGk
        have cM := fun (dr : Nat) (os : Array Obj) => Calls.regrown_of (w := wr) (d := dr) (os := os) (CGk.out _)
        clear CGk
        rcases Nat.eq_zero_or_pos k with h0 | h0
        · have hkz : ¬ 0 < k := by omega
          have HK0 := Lib.hid h0
          clear h0
          go_wp2
          refine wp_region_quiet_below (by kernel_rfl) (by kernel_rfl) ?_
          repeat (go_big_quiet_step (exact cM _ _))
          refine wpQuiet_nil ?_
          intro _ hw'
          obtain ⟨⟨dq, osq⟩, hw''⟩ := hw'
          subst hw''
          have HB2 := Lib.hid (HB.out.trans ((below_regrown wr dq osq).mono HB.out.size))
          clear E0 E1 E2 E3 E4 E5 cM hkz
          go_wp2
          go_loopw [4] (fun i wr => ∃ j : Nat, j ≤ k ∧ i = .int .i64 j ∧ Hid (∀ i, i < j → (vs.getD i noVes).name ≠ s) ∧ Below w.heap.size w wr) (fun i _ => k - (intOf i).toNat)
          case atStart => exact ⟨0, Nat.zero_le _, rfl, Lib.hid (by simp), HB2.out⟩
          case round =>
            obtain ⟨j, hj, rfl, hin, hb2⟩ := hrel
            by_cases hjk : j < k
            · have hjl : j < vs.length := by omega
              obtain ⟨a3, e3, -, HJ⟩ := (H.out.below (hb2.mono hB)).ves hjl
              obtain ⟨a4, e4, -, HK⟩ := (H.out.below (hb2.mono hB)).ves hkl
              injection e3 with e3
              subst e3
              injection e4 with e4
              subst e4
              rw [HVE.out] at HK
              have f1 := HJ.c1
              have g1 := HK.c1
              dsimp only at g1
              have HI : Hid ((vs.getD j noVes).name ≠ s → ∀ i, i < j + 1 → (vs.getD i noVes).name ≠ s) := Lib.hid (fun h i hi => by
                rcases Nat.lt_succ_iff_lt_or_eq.1 hi with h1 | h1
                · exact hin.out i h1
                · exact h1 ▸ h)
              have HX : Hid ((vs.getD j noVes).name = s → R = false) := Lib.hid (fun h => HF.out (fun g => ((HOK.out.1 g).2.2 j hjk) h))
              generalize (vs.getD j noVes).name = s2 at f1 HI HX
              have hk0 : (0 : Int) ≤ (j : Int) := by omega
              have hk1 : (j : Int) < (k : Int) := by omega
              clear HJ HK hin HF HOK HA HV H HY HN
              by_cases hss : s2 = s
              · subst hss
                obtain rfl : R = false := HX.out rfl
                go_wp2
                go_quiet (fail)
                go_wp2
                go_ret
                exact ⟨rfl, hb2.trans ((Drawn.one _ _).below _)⟩
              · have hne : (s2.toList == s.toList) = false := list_ne hss
                have HI2 := Lib.hid (HI.out hss)
                clear HI HX
                go_wp2
                go_quiet (fail)
                go_wp2
                go_roundw
                case rel => exact ⟨j + 1, by omega, by go_num, HI2, hb2.trans ((Drawn.one _ _).below _)⟩
                case measure => simp [intOf]; omega
            · obtain rfl : j = k := by omega
              have HR := Lib.hid (HA.out (HOK.out.2 ⟨hg, (fun h => absurd h (by have := HK0.out; omega)), hin.out⟩))
              clear HOK HA HF HV H HY HN hin
              go_wp2
              go_roundw
              case rel => exact ⟨j + 1, by omega, by omega, by go_num, HR, hb2⟩
              case measure => simp [intOf]; omega
        · obtain ⟨kp, rfl⟩ : ∃ kp, k = kp + 1 := ⟨k - 1, by omega⟩
          have hpl : kp < vs.length := by omega
          obtain ⟨a5, e5, -, HP⟩ := (H.out.below (HB.out.mono hB)).ves hpl
          injection e5 with e5
          subst e5
          obtain ⟨PV, hPV⟩ : ∃ V, vs.getD kp noVes = V := ⟨_, rfl⟩
          rw [hPV] at HP
          have HPE := Lib.hid hPV
          clear hPV
          have P0 := fun (d : Nat) (os : Array Obj) => cell_regrown HP.c0 d os
          clear HP
          obtain ⟨pi, ps, pl, pb, pd, pq⟩ := PV
          dsimp only at P0
          have hkp : 0 < kp + 1 := by omega
          clear h0
          have hp0 : (0 : Int) ≤ (kp : Int) := by omega
          have hp1 : (kp : Int) < (n : Int) := by omega
          by_cases hpi : i ≤ pi
          · obtain rfl : R = false := HF.out (fun h => by
              have := (HOK.out.1 h).2.1 (by omega)
              rw [Nat.add_sub_cancel, HPE.out] at this
              exact absurd this (by show ¬ pi < i; omega))
            clear HOK HF HA HV HVE H HY HN HPE
            go_wp2
            refine wp_region_quiet_below (by kernel_rfl) (by kernel_rfl) ?_
            repeat (go_big_quiet_step (exact cM _ _))
            refine wpQuiet_nil ?_
            intro _ hw'
            obtain ⟨⟨dq, osq⟩, hw''⟩ := hw'
            subst hw''
            have HB2 := Lib.hid (HB.out.trans ((below_regrown wr dq osq).mono HB.out.size))
            clear E0 E1 E2 E3 E4 E5 cM P0
            go_wp2
            go_ret
            exact ⟨rfl, HB2.out⟩
          · have HPL : Hid (pi < i) := Lib.hid (by omega)
            go_wp2
            refine wp_region_quiet_below (by kernel_rfl) (by kernel_rfl) ?_
            repeat (go_big_quiet_step (exact cM _ _))
            refine wpQuiet_nil ?_
            intro _ hw'
            obtain ⟨⟨dq, osq⟩, hw''⟩ := hw'
            subst hw''
            have HB2 := Lib.hid (HB.out.trans ((below_regrown wr dq osq).mono HB.out.size))
            clear E0 E1 E2 E3 E4 E5 cM P0
            go_wp2
            go_loopw [4] (fun i wr => ∃ j : Nat, j ≤ (kp + 1) ∧ i = .int .i64 j ∧ Hid (∀ i, i < j → (vs.getD i noVes).name ≠ s) ∧ Below w.heap.size w wr) (fun i _ => (kp + 1) - (intOf i).toNat)
            case atStart => exact ⟨0, Nat.zero_le _, rfl, Lib.hid (by simp), HB2.out⟩
            case round =>
              obtain ⟨j, hj, rfl, hin, hb2⟩ := hrel
              by_cases hjk : j < (kp + 1)
              · have hjl : j < vs.length := by omega
                obtain ⟨a3, e3, -, HJ⟩ := (H.out.below (hb2.mono hB)).ves hjl
                obtain ⟨a4, e4, -, HK⟩ := (H.out.below (hb2.mono hB)).ves hkl
                injection e3 with e3
                subst e3
                injection e4 with e4
                subst e4
                rw [HVE.out] at HK
                have f1 := HJ.c1
                have g1 := HK.c1
                dsimp only at g1
                have HI : Hid ((vs.getD j noVes).name ≠ s → ∀ i, i < j + 1 → (vs.getD i noVes).name ≠ s) := Lib.hid (fun h i hi => by
                  rcases Nat.lt_succ_iff_lt_or_eq.1 hi with h1 | h1
                  · exact hin.out i h1
                  · exact h1 ▸ h)
                have HX : Hid ((vs.getD j noVes).name = s → R = false) := Lib.hid (fun h => HF.out (fun g => ((HOK.out.1 g).2.2 j hjk) h))
                generalize (vs.getD j noVes).name = s2 at f1 HI HX
                have hk0 : (0 : Int) ≤ (j : Int) := by omega
                have hk1 : (j : Int) < ((kp + 1) : Int) := by omega
                clear HJ HK hin HF HOK HA HV H HY HN
                by_cases hss : s2 = s
                · subst hss
                  obtain rfl : R = false := HX.out rfl
                  go_wp2
                  go_quiet (fail)
                  go_wp2
                  go_ret
                  exact ⟨rfl, hb2.trans ((Drawn.one _ _).below _)⟩
                · have hne : (s2.toList == s.toList) = false := list_ne hss
                  have HI2 := Lib.hid (HI.out hss)
                  clear HI HX
                  go_wp2
                  go_quiet (fail)
                  go_wp2
                  go_roundw
                  case rel => exact ⟨j + 1, by omega, by go_num, HI2, hb2.trans ((Drawn.one _ _).below _)⟩
                  case measure => simp [intOf]; omega
              · obtain rfl : j = kp + 1 := by omega
                have HR := Lib.hid (HA.out (HOK.out.2 ⟨hg, (fun _ => by show (vs.getD (kp + 1 - 1) noVes).id < _; rw [Nat.add_sub_cancel, HPE.out]; exact HPL.out), hin.out⟩))
                clear HOK HA HF HV H HY HN hin
                go_wp2
                go_roundw
                case rel => exact ⟨kp + 1 + 1, by omega, by omega, by go_num, HR, hb2⟩
                case measure => simp [intOf]; omega
      · rw [gV_no hg] at CGk
        have cM := fun (dr : Nat) (os : Array Obj) => Calls.regrown_of (w := wr) (d := dr) (os := os) (CGk.out _)
        obtain rfl : R = false := HF.out (fun h => hg (HOK.out.1 h).1)
        clear CGk HOK HF HA HV HVE H HY HN
        go_wp2
        refine wp_region_quiet_below (by kernel_rfl) (by kernel_rfl) ?_
        repeat (go_big_quiet_step (exact cM _ _))
        refine wpQuiet_nil ?_
        intro _ hw'
        obtain ⟨⟨dq, osq⟩, hw''⟩ := hw'
        subst hw''
        have HB2 := Lib.hid (HB.out.trans ((below_regrown wr dq osq).mono HB.out.size))
        clear E0 E1 E2 E3 E4 E5 cM
        go_wp2
        go_ret
        exact ⟨rfl, HB2.out⟩
    · have hb8 : (decide (k ≤ 8) = true ∧ k = n) ∨ (¬ k ≤ 8 ∧ k < n) ∨ (¬ k ≤ 8 ∧ k = n) := by
        by_cases h8 : k ≤ 8
        · exact .inl ⟨by simp [h8], by omega⟩
        · by_cases h9 : k < n
          · exact .inr (.inl ⟨h8, h9⟩)
          · exact .inr (.inr ⟨h8, by omega⟩)
      rcases hb8 with ⟨h8, hkn⟩ | ⟨h8, h9⟩ | ⟨h8, hkn⟩
      · have h8' : k ≤ 8 := by simpa using h8
        subst hkn
        obtain rfl : R = true := HY.out ⟨by rw [HL.out]; exact h8', fun j hj => hall.out j (by rw [HL.out] at hj; exact hj)⟩
        clear HY HN H CG hlt h8 HS hall
        go_wp2
        go_ret
        refine ⟨?_, hb⟩
        show Ending.returned (.bool (decide ((_ : Int) ≤ 8))) = _
        rw [decide_eq_true (by omega)]
      · obtain rfl : R = false := HN.out (fun g => by have := g.1; rw [HL.out] at this; omega)
        have h10 : ¬ n ≤ 8 := by omega
        clear HY HN H CG hlt HS hall
        go_wp2
        go_ret
        refine ⟨?_, hb⟩
        show Ending.returned (.bool (decide ((_ : Int) ≤ 8))) = _
        rw [decide_eq_false (by omega)]
      · subst hkn
        obtain rfl : R = false := HN.out (fun g => by have := g.1; rw [HL.out] at this; omega)
        clear HY HN H CG hlt HS hall
        go_wp2
        go_ret
        refine ⟨?_, hb⟩
        show Ending.returned (.bool (decide ((_ : Int) ≤ 8))) = _
        rw [decide_eq_false (by omega)]
end Go.Proofs.YtliebicnejbheabGreatDoor
