/- Chapter 7, the program: the order that follows. -/
import Derived.Test.YtgnopkemcgbedabDgY
namespace Go.Proofs.Ytgnopkemcgbedab
open Go.RowKit Go.PlainAid Go.Sort
set_option linter.unusedVariables false
set_option linter.unusedSimpArgs false

/-- The vessels with these places in S. -/
def rowOf (S : List TCargo) (p : List Nat) : List TCargo := p.map fun i => S.getD i noCargo
theorem rowOf_len (S : List TCargo) (p : List Nat) : (rowOf S p).length = p.length := by simp [rowOf]
theorem rowOf_at (S : List TCargo) {p : List Nat} {k : Nat} (h : k < p.length) : (rowOf S p).getD k noCargo = S.getD (p.getD k 0) noCargo := by
  rw [getCargo (by rw [rowOf_len]; exact h), List.getD_eq_getElem?_getD (l := p), List.getElem?_eq_getElem h]
  simp [rowOf]
/-- The places are all below n, and different; S ascends. -/
structure PlaceP (S : List TCargo) (p : List Nat) (n : Nat) : Prop where
  len : p.length = n
  sl : S.length = n
  lt : ∀ x ∈ p, x < n
  nd : p.Nodup
  asc : S.Pairwise fun a b => a.x0 < b.x0
theorem PlaceP.at_lt {S : List TCargo} {p : List Nat} {n k : Nat} (h : PlaceP S p n) (hk : k < n) : p.getD k 0 < n := by
  rw [getD_at 0 (by rw [h.len]; exact hk)]
  exact h.lt _ (List.getElem_mem _)
theorem PlaceP.less {S : List TCargo} {p : List Nat} {n a b : Nat} (h : PlaceP S p n) (ha : a < n) (hb : b < n) : (S.getD (p.getD a 0) noCargo).x0 < (S.getD (p.getD b 0) noCargo).x0 ↔ p.getD a 0 < p.getD b 0 := by
  have h1 := h.at_lt ha
  have h2 := h.at_lt hb
  generalize p.getD a 0 = x at h1 ⊢
  generalize p.getD b 0 = y at h2 ⊢
  have key : ∀ x y, x < y → y < n → (S.getD x noCargo).x0 < (S.getD y noCargo).x0 := fun x y hxy hy => by
    rw [getCargo (by rw [h.sl]; omega), getCargo (by rw [h.sl]; omega)]
    exact List.pairwise_iff_getElem.1 h.asc x y (by rw [h.sl]; omega) (by rw [h.sl]; omega) hxy
  refine ⟨fun g => ?_, fun g => key x y g h2⟩
  rcases Nat.lt_trichotomy x y with g1 | g1 | g1
  · exact g1
  · subst g1; omega
  · have := key y x g1 h1; omega
theorem PlaceP.ne {S : List TCargo} {p : List Nat} {n a b : Nat} (h : PlaceP S p n) (ha : a < n) (hb : b < n) (hab : a ≠ b) : p.getD a 0 ≠ p.getD b 0 := by
  rw [getD_at 0 (by rw [h.len]; exact ha), getD_at 0 (by rw [h.len]; exact hb)]
  intro e
  exact hab ((List.getElem_inj h.nd).1 e)
theorem rowOf_set (S : List TCargo) (p : List Nat) (i v : Nat) : rowOf S (p.set i v) = (rowOf S p).set i (S.getD v noCargo) := by
  unfold rowOf
  rw [List.map_set]
theorem rowOf_take (S : List TCargo) (p : List Nat) (k : Nat) : rowOf S (p.take k ++ (p.drop k).reverse) = (rowOf S p).take k ++ ((rowOf S p).drop k).reverse := by
  unfold rowOf
  rw [List.map_append, List.map_take, List.map_reverse, List.map_drop]
set_option maxRecDepth 100000 in
set_option maxHeartbeats 4000000 in
theorem nextC_any {w : World} {base g n c : Nat} {S : List TCargo} {p : List Nat} (hP : PlaceP S p n) (h0 : 0 < n) (hn : n ≤ 6) (hnc : n ≤ c) (hown : w.ownsRow base 54 3 (.slice (some ⟨g, 0, none⟩) n c) n (flatCargo (rowOf S p))) :
    Calls Try.prog 73 #[.slice (some ⟨g, 0, none⟩) n c, .func (.func 68) #[] #[]] w fun e w' => e = .returned (.bool (nextI p).isSome) ∧
      w'.ownsRow base 54 3 (.slice (some ⟨g, 0, none⟩) n c) n (flatCargo (rowOf S (nextP p))) ∧ w.grownBy w' (some g) := by
  have HP := Lib.hid hP
  have HO := Lib.hid hown
  have HRL : Hid ((rowOf S p).length = n) := Lib.hid (by rw [rowOf_len, hP.len])
  have HNO := Lib.hid (nextI_none (p := p))
  have HYES := Lib.hid (fun q => nextI_some (p := p) (q := q))
  rw [hP.len] at HNO HYES
  have HAT := Lib.hid (fun (W : World) (ho : W.ownsRow base 54 3 (.slice (some ⟨g, 0, none⟩) n c) n (flatCargo (rowOf S p))) k (hk : k < n) => by
    have := own_atC ho (by rw [rowOf_len, hP.len]) hk
    rw [rowOf_at S (by rw [hP.len]; exact hk)] at this
    exact this)
  have CC := Lib.hid (fun i l q i2 l2 q2 (W : World) => (cmpId_any i l q i2 l2 q2 W).mono (fun e w' (h : e = .returned (.int .i64 (cmpI i i2)) ∧ BelowD W.heap.size W w') => (show e = .returned (.int .i64 (cmpI i i2)) ∧ Below W.heap.size W w' from ⟨h.1, h.2.b⟩)))
  obtain ⟨N, rfl⟩ : ∃ N, n = N + 1 := ⟨n - 1, by omega⟩
  rw [Nat.add_sub_cancel] at HNO HYES
  clear hP hown
  go_enter Try.func73, Try.ntmps73
  go_wp2_with fail
  go_loopw [5] (fun i wr => ∃ k : Nat, k ≤ N ∧ i = .int .i64 ((k : Int) - 1) ∧ Hid (descI p N = descI p k) ∧ Below w.heap.size w wr) (fun i _ => (intOf i + 1).toNat)
  case atStart => exact ⟨N, Nat.le_refl _, by congr 1; push_cast; omega, Lib.hid rfl, Below.refl _ _⟩
  case round =>
    obtain ⟨k, hk, rfl, hD, hb⟩ := hrel
    have HB := Lib.hid hb
    have HOr := Lib.hid (HO.out.kept (grownBelow hb none) (.inr (by simp [Value.ownBlock])))
    rcases Nat.eq_zero_or_pos k with hk0 | hk0
    · subst hk0
      have hnone := HNO.out (by rw [hD.out]; rfl)
      have HF : Hid (nextI p = none) := Lib.hid hnone
      have hc0 : (((0 : Nat) : Int) - 1) = -1 := by omega
      clear hnone hb HYES
      go_wp2_with fail
      refine wp_region_quiet_below (by kernel_rfl) (by kernel_rfl) ?_
      repeat (go_big_quiet_step (first | fail))
      refine wpQuiet_nil ?_
      intro _ hw'
      obtain ⟨⟨dq, osq⟩, hw''⟩ := hw'
      subst hw''
      have HBX := Lib.hid (HB.out.trans ((below_regrown wr dq osq).mono HB.out.size))
      have HOx := Lib.hid (HO.out.kept (grownBelow HBX.out none) (.inr (by simp [Value.ownBlock])))
      go_wp2_with fail
      go_ret
      exact ⟨by rw [HF.out]; rfl, by rw [nextP, HF.out]; exact HOx.out, grownBelow HBX.out _⟩
    · obtain ⟨q, rfl⟩ : ∃ q, k = q + 1 := ⟨k - 1, by omega⟩
      have hqe : (((q + 1 : Nat) : Int) - 1) = (q : Int) := by omega
      rw [hqe]
      obtain ⟨x0, x1, x2⟩ := HAT.out _ HOr.out q (by omega)
      obtain ⟨y0, y1, y2⟩ := HAT.out _ HOr.out (q + 1) (by omega)
      have HLS := Lib.hid (HP.out.less (a := q + 1) (b := q) (by omega) (by omega))
      have HLR := Lib.hid (HP.out.less (a := q) (b := q + 1) (by omega) (by omega))
      have HNE := Lib.hid (HP.out.ne (a := q) (b := q + 1) (by omega) (by omega) (by omega))
      have HDD : Hid (descI p (q + 1) = if p.getD (q + 1) 0 < p.getD q 0 then descI p q else some q) := Lib.hid rfl
      generalize S.getD (p.getD q 0) noCargo = X at x0 x1 x2 HLS HLR
      generalize S.getD (p.getD (q + 1) 0) noCargo = Y at y0 y1 y2 HLS HLR
      obtain ⟨xq, xq1, xq2⟩ := X
      obtain ⟨yq, yq1, yq2⟩ := Y
      dsimp only at x0 x1 x2 y0 y1 y2 HLS HLR
      have hq0 : (0 : Int) ≤ (q : Int) := by omega
      have hq1 : (q : Int) < ((N : Int) + 1) := by omega
      have hq2 : (q : Int) + 1 < ((N : Int) + 1) := by omega
      have hg0 : g < wr.heap.size := (HOr.out.lt g rfl).2
      have X0 := fun (d : Nat) (os : Array Obj) => cell_regrown x0 d os
      have X1 := fun (d : Nat) (os : Array Obj) => cell_regrown x1 d os
      have X2 := fun (d : Nat) (os : Array Obj) => cell_regrown x2 d os
      have Y0 := fun (d : Nat) (os : Array Obj) => cell_regrown y0 d os
      have Y1 := fun (d : Nat) (os : Array Obj) => cell_regrown y1 d os
      have Y2 := fun (d : Nat) (os : Array Obj) => cell_regrown y2 d os
      have CK := Lib.hid (fun (d : Nat) (os : Array Obj) => Calls.regrown_of (w := wr) (d := d) (os := os) (CC.out xq xq1 xq2 yq yq1 yq2 _))
      clear x0 x1 x2 y0 y1 y2 hb hk0
      by_cases hlt : yq < xq
      · rw [show cmpI xq yq = 1 by unfold cmpI; rw [if_neg (by omega), if_pos hlt]] at CK
        have k1 := CK.out
        have HT : Hid (descI p N = descI p q) := Lib.hid (by rw [hD.out, HDD.out, if_pos (HLS.out.1 hlt)])
        clear HDD HLS hD CK HLR HNE
        go_wp2_with fail
        refine wp_region_quiet_below (by kernel_rfl) (by kernel_rfl) ?_
        repeat (go_big_quiet_step (first | exact k1 _ _))
        refine wpQuiet_nil ?_
        intro _ hw'
        obtain ⟨⟨dq, osq⟩, hw''⟩ := hw'
        subst hw''
        have HBX := Lib.hid (HB.out.trans ((below_regrown wr dq osq).mono HB.out.size))
        clear X0 X1 X2 Y0 Y1 Y2 k1
        go_wp2_with fail
        go_roundw
        case rel => exact ⟨q, by omega, by first | rfl | (congr 1; omega), HT, HBX.out⟩
        case measure => first | (simp [intOf]; done) | (simp [intOf]; omega)
      · have hlt2 : xq < yq := HLR.out.2 (by
          have h1 : ¬ p.getD (q + 1) 0 < p.getD q 0 := fun h => hlt (HLS.out.2 h)
          have := HNE.out
          omega)
        rw [show cmpI xq yq = -1 by unfold cmpI; rw [if_pos hlt2]] at CK
        have k1 := CK.out
        have HT : Hid (descI p N = some q) := Lib.hid (by rw [hD.out, HDD.out, if_neg (fun h => hlt (HLS.out.2 h))])
        have HYQ := Lib.hid (HYES.out q HT.out)
        have HQ : Hid (p.getD q 0 < p.getD (q + 1) 0) := Lib.hid (by
          have h1 : ¬ p.getD (q + 1) 0 < p.getD q 0 := fun h => hlt (HLS.out.2 h)
          have h2 := HP.out.ne (a := q) (b := q + 1) (by omega) (by omega) (by omega)
          omega)
        clear HDD HLS hD HNO HYES HT CK HLR HNE hlt2
        go_wp2_with fail
        refine wp_region_quiet_below (by kernel_rfl) (by kernel_rfl) ?_
        repeat (go_big_quiet_step (first | exact k1 _ _))
        refine wpQuiet_nil ?_
        intro _ hw'
        obtain ⟨⟨dq, osq⟩, hw''⟩ := hw'
        subst hw''
        have HBX := Lib.hid (HB.out.trans ((below_regrown wr dq osq).mono HB.out.size))
        clear X0 X1 X2 Y0 Y1 Y2 k1
        obtain ⟨wo, hwo⟩ : ∃ W, grow (redrawn wr dq) osq = W := ⟨_, rfl⟩
        rw [hwo] at HBX
        try simp only [hwo]
        clear hwo HOr HB
        have HLX : Hid (∀ m, m < N + 1 → (p.getD m 0 < p.getD q 0 ↔ (S.getD (p.getD m 0) noCargo).x0 < (S.getD (p.getD q 0) noCargo).x0)) := Lib.hid (fun m hm => (HP.out.less (a := m) (b := q) hm (by omega)).symm)
        go_wp2_with fail
        go_loopw [6] (fun j wr => ∃ m : Nat, q + 1 ≤ m ∧ m ≤ N ∧ j = .int .i64 m ∧ Hid (lastI p (p.getD q 0) N = lastI p (p.getD q 0) m) ∧ Below w.heap.size w wr) (fun j _ => (intOf j).toNat)
        case atStart => exact ⟨N, by omega, Nat.le_refl _, rfl, Lib.hid rfl, HBX.out⟩
        case round =>
          clear HBX
          obtain ⟨m, hm1, hm2, rfl, hD, hb⟩ := hrel
          have HB := Lib.hid hb
          have HOr := Lib.hid (HO.out.kept (grownBelow hb none) (.inr (by simp [Value.ownBlock])))
          obtain ⟨x0, x1, x2⟩ := HAT.out _ HOr.out q (by omega)
          obtain ⟨y0, y1, y2⟩ := HAT.out _ HOr.out m (by omega)
          obtain ⟨m', rfl⟩ : ∃ m', m = m' + 1 := ⟨m - 1, by omega⟩
          have HDD : Hid (lastI p (p.getD q 0) (m' + 1) = if p.getD (m' + 1) 0 < p.getD q 0 then lastI p (p.getD q 0) m' else m' + 1) := Lib.hid rfl
          have HLm := Lib.hid (HLX.out (m' + 1) (by omega))
          have HLR := Lib.hid (HP.out.less (a := q) (b := m' + 1) (by omega) (by omega))
          have HNE := Lib.hid (HP.out.ne (a := m' + 1) (b := q) (by omega) (by omega) (by omega))
          have HSW : Hid (((rowOf S p).set q (S.getD (p.getD (m' + 1) 0) noCargo)).set (m' + 1) (S.getD (p.getD q 0) noCargo) = rowOf S (swpI p q (m' + 1))) := Lib.hid (by unfold swpI; rw [rowOf_set, rowOf_set])
          generalize S.getD (p.getD q 0) noCargo = X at x0 x1 x2 HLm HSW HLR
          generalize S.getD (p.getD (m' + 1) 0) noCargo = Y at y0 y1 y2 HLm HSW HLR
          obtain ⟨X0, X1, X2⟩ := X
          obtain ⟨Y0, Y1, Y2⟩ := Y
          dsimp only at x0 x1 x2 y0 y1 y2 HLm HLR
          obtain ⟨m, hmm⟩ : ∃ m, m' + 1 = m := ⟨_, rfl⟩
          rw [hmm] at hm1 hm2 hD y0 y1 y2 HDD HLm HSW ⊢
          have HMM := Lib.hid hmm
          have hm0 : (0 : Int) ≤ (m : Int) := by omega
          have hmn : (m : Int) < (N : Int) + 1 := by omega
          have hg0 : g < wr.heap.size := (HOr.out.lt g rfl).2
          have E0 := fun (d : Nat) (os : Array Obj) => cell_regrown x0 d os
          have E1 := fun (d : Nat) (os : Array Obj) => cell_regrown x1 d os
          have E2 := fun (d : Nat) (os : Array Obj) => cell_regrown x2 d os
          have F0 := fun (d : Nat) (os : Array Obj) => cell_regrown y0 d os
          have F1 := fun (d : Nat) (os : Array Obj) => cell_regrown y1 d os
          have F2 := fun (d : Nat) (os : Array Obj) => cell_regrown y2 d os
          have CK := Lib.hid (fun (d : Nat) (os : Array Obj) => Calls.regrown_of (w := wr) (d := d) (os := os) (CC.out Y0 Y1 Y2 X0 X1 X2 _))
          by_cases hlt : Y0 < X0
          · rw [show cmpI Y0 X0 = -1 by unfold cmpI; rw [if_pos hlt]] at CK
            have k1 := CK.out
            have hne : m' ≠ q := fun e => by
              have h1 := HLm.out.2 hlt
              rw [← hmm, e] at h1
              have h2 := HQ.out
              omega
            have HT : Hid (lastI p (p.getD q 0) N = lastI p (p.getD q 0) m') := Lib.hid (by rw [hD.out, HDD.out, if_pos (HLm.out.2 hlt)])
            have hmi : (m : Int) - 1 = (m' : Int) := by omega
            clear HDD HLm HSW hD x0 x1 x2 y0 y1 y2 hb hmm CK HLR HNE
            go_wp2_with fail
            refine wp_region_quiet_below (by kernel_rfl) (by kernel_rfl) ?_
            repeat (go_big_quiet_step (first | exact k1 _ _))
            refine wpQuiet_nil ?_
            intro _ hw'
            obtain ⟨⟨dq, osq⟩, hw''⟩ := hw'
            subst hw''
            have HBX := Lib.hid (HB.out.trans ((below_regrown wr dq osq).mono HB.out.size))
            clear E0 E1 E2 F0 F1 F2 k1
            go_wp2_with fail
            go_roundw
            case rel => exact ⟨m', by have := HMM.out; omega, by have := HMM.out; omega, by first | rfl | (congr 1), HT, HBX.out⟩
            case measure => have := HMM.out; first | (simp [intOf]; done) | (simp [intOf]; omega)
          · have hlt2 : X0 < Y0 := HLR.out.2 (by
              have h1 : ¬ p.getD m 0 < p.getD q 0 := fun h => hlt (HLm.out.1 h)
              have h2 := HNE.out
              rw [hmm] at h2 ⊢
              omega)
            rw [show cmpI Y0 X0 = 1 by unfold cmpI; rw [if_neg hlt, if_pos hlt2]] at CK
            have k1 := CK.out
            have HT : Hid (lastI p (p.getD q 0) N = m) := Lib.hid (by rw [hD.out, HDD.out, if_neg (fun h => hlt (HLm.out.1 h))])
            rw [HT.out] at HYQ
            clear HDD HLm hD hb hmm HT CK HLR HNE hlt2
            go_wp2_with fail
            refine wp_region_quiet_below (by kernel_rfl) (by kernel_rfl) ?_
            repeat (go_big_quiet_step (first | exact k1 _ _))
            refine wpQuiet_nil ?_
            intro _ hw'
            obtain ⟨⟨dq, osq⟩, hw''⟩ := hw'
            subst hw''
            have HBX := Lib.hid (HB.out.trans ((below_regrown wr dq osq).mono HB.out.size))
            have HOx := Lib.hid (HO.out.kept (grownBelow HBX.out none) (.inr (by simp [Value.ownBlock])))
            have x0 := E0 dq osq
            have y0 := F0 dq osq
            have x1 := E1 dq osq
            have x2 := E2 dq osq
            have y1 := F1 dq osq
            have y2 := F2 dq osq
            obtain ⟨wp, hwp⟩ : ∃ W, grow (redrawn wr dq) osq = W := ⟨_, rfl⟩
            rw [hwp] at HBX HOx x0 x1 x2 y0 y1 y2
            try simp only [hwp]
            clear hwp E0 E1 E2 F0 F1 F2 HOr HB k1
            have f0 := HOx.out.frozenAt (q * 3)
            have f1 := HOx.out.frozenAt (q * 3 + 1)
            have f2 := HOx.out.frozenAt (q * 3 + 2)
            have f3 := HOx.out.frozenAt (m * 3)
            have f4 := HOx.out.frozenAt (m * 3 + 1)
            have f5 := HOx.out.frozenAt (m * 3 + 2)
            have hqm : q ≠ m := by omega
            have hqn : q < N + 1 := by omega
            have hmn' : m < N + 1 := by omega
            have s0 := own_setC HOx.out HRL.out hqn Y0 Y1 Y2
            have s1 := own_setC s0.1 (by simpa using HRL.out) hmn' X0 X1 X2
            rw [HSW.out] at s1
            have S1 := Lib.hid s1.1
            have S2 := Lib.hid ((grownBelow HBX.out (some g)).trans (s0.2.trans s1.2))
            have hck : ¬ c = q + 1 := by omega
            have hqc : (q : Int) + 1 ≤ (c : Int) := by omega
            have hqN : (q : Int) + 1 ≤ (N : Int) + 1 := by omega
            clear s0 s1 HSW HO HAT HLX HQ
            go_wp2_with fail
            go_region
            all_goals go_wp2_with fail
            have CR := Lib.hid (revC_any ⟨g, (q + 1) * 3, none⟩ g (q + 1) (N - q) (N + 1) c (c - (q + 1)) base (rowOf S (swpI p q m)) _ rfl (by rw [rowOf_len]; unfold swpI; simpa using HP.out.len) (by omega) (by omega) ((Drawn.one _ 1).own S1.out))
            refine CR.out.mono ?_
            rintro e w9 ⟨rfl, ho, hgr⟩
            have HF : Hid (nextI p = some ((swpI p q m).take (q + 1) ++ ((swpI p q m).drop (q + 1)).reverse)) := HYQ
            have HOF : Hid (w9.ownsRow base 54 3 (.slice (some ⟨g, 0, none⟩) (N + 1) c) (N + 1) (flatCargo (rowOf S (nextP p)))) := Lib.hid (by
              rw [nextP, HF.out, Option.getD_some, rowOf_take]
              exact ho)
            have HGF := Lib.hid (S2.out.trans ((grownBelow ((Drawn.one _ 1).below _) (some g)).trans hgr))
            clear ho hgr CR S1 S2
            go_wp2_with fail
            go_ret
            exact ⟨by rw [HF.out]; rfl, HOF.out, HGF.out⟩
end Go.Proofs.Ytgnopkemcgbedab
