/- Chapter 11, the program: the order that follows, of integers. -/
import Derived.Test.YtgnopkemcgbedaaPoD
import Derived.Deep.RegionHeld3
namespace Go.Proofs.Ytgnopkemcgbedaa
open Go.RowKit Go.PlainAid Go.Sort
set_option linter.unusedVariables false
set_option linter.unusedSimpArgs false

def cmpI (x y : Int) : Int := if x < y then -1 else if y < x then 1 else 0
theorem cmpI_zero (x y : Int) : cmpI x y = 0 ↔ x = y := by
  unfold cmpI
  split
  · omega
  · split <;> omega
theorem isNaN_any (x : Int) (w : World) : Calls Try.prog 89 #[.int .i64 x] w fun e w' => e = .returned (.bool false) ∧ w = w' := by
  have h : (x != x) = false := by simp
  go_enter Try.func89, Try.ntmps89
  go_wp2
  go_ret
  exact ⟨rfl, rfl⟩
set_option maxHeartbeats 400000 in
theorem cmpInt_any (x y : Int) (w : World) : Calls Try.prog 77 #[.int .i64 x, .int .i64 y] w fun e w' => e = .returned (.int .i64 (cmpI x y)) ∧ w = w' := by
  have C := Lib.hid (fun z W => isNaN_any z W)
  unfold cmpI
  by_cases h1 : x < y
  · rw [if_pos h1]
    go_enter Try.func77, Try.ntmps77
    go_wp2_with fail
    refine (C.out _ _).mono ?_
    rintro e w1 ⟨rfl, rfl⟩
    go_wp2_with fail
    refine (C.out _ _).mono ?_
    rintro e w1 ⟨rfl, rfl⟩
    go_wp2_with fail
    go_ret
    exact ⟨rfl, rfl⟩
  · rw [if_neg h1]
    by_cases h2 : y < x
    · rw [if_pos h2]
      go_enter Try.func77, Try.ntmps77
      go_wp2_with fail
      refine (C.out _ _).mono ?_
      rintro e w1 ⟨rfl, rfl⟩
      go_wp2_with fail
      refine (C.out _ _).mono ?_
      rintro e w1 ⟨rfl, rfl⟩
      go_wp2_with fail
      go_ret
      exact ⟨rfl, rfl⟩
    · rw [if_neg h2]
      go_enter Try.func77, Try.ntmps77
      go_wp2_with fail
      refine (C.out _ _).mono ?_
      rintro e w1 ⟨rfl, rfl⟩
      go_wp2_with fail
      refine (C.out _ _).mono ?_
      rintro e w1 ⟨rfl, rfl⟩
      go_wp2_with fail
      go_ret
      exact ⟨rfl, rfl⟩

theorem own_atI {w : World} {base g n c : Nat} {xs : List Int} (h : w.ownsRow base 3 1 (.slice (some ⟨g, 0, none⟩) n c) n (xs.map (.int .i64))) (hl : xs.length = n) {k : Nat} (hk : k < n) :
    w.cell? ⟨g, k, none⟩ = some (.int .i64 (xs.getD k 0)) := by
  rw [h.cellAt k (by omega)]
  simp [List.getD_eq_getElem?_getD, show k < xs.length by omega]
theorem own_setI {w : World} {base g n c : Nat} {xs : List Int} (h : w.ownsRow base 3 1 (.slice (some ⟨g, 0, none⟩) n c) n (xs.map (.int .i64))) (hl : xs.length = n) {k : Nat} (hk : k < n) (x : Int) :
    (w.setCell ⟨g, k, none⟩ (.int .i64 x)).ownsRow base 3 1 (.slice (some ⟨g, 0, none⟩) n c) n ((xs.set k x).map (.int .i64)) ∧ w.grownBy (w.setCell ⟨g, k, none⟩ (.int .i64 x)) (some g) := by
  have s0 := h.stored k (.int .i64 x)
  rw [List.map_set]
  exact s0
/-- Different places below n. -/
structure PlcI (p : List Nat) (n : Nat) : Prop where
  len : p.length = n
  nd : p.Nodup
theorem rowI_len (p : List Nat) : (rowI p).length = p.length := by simp [rowI]
theorem rowI_at {p : List Nat} {k : Nat} (h : k < p.length) : (rowI p).getD k 0 = ((p.getD k 0 : Nat) : Int) + 1 := by
  rw [List.getD_eq_getElem?_getD, List.getD_eq_getElem?_getD (l := p), List.getElem?_eq_getElem h, List.getElem?_eq_getElem (by rw [rowI_len]; exact h)]
  simp [rowI]
theorem rowI_set (p : List Nat) (i v : Nat) : rowI (p.set i v) = (rowI p).set i ((v : Int) + 1) := by
  unfold rowI
  rw [List.map_set]
theorem rowI_take (p : List Nat) (k : Nat) : rowI (p.take k ++ (p.drop k).reverse) = (rowI p).take k ++ ((rowI p).drop k).reverse := by
  unfold rowI
  rw [List.map_append, List.map_take, List.map_reverse, List.map_drop]
theorem PlcI.ne {p : List Nat} {n a b : Nat} (h : PlcI p n) (ha : a < n) (hb : b < n) (hab : a ≠ b) : p.getD a 0 ≠ p.getD b 0 := by
  rw [getD_at 0 (by rw [h.len]; exact ha), getD_at 0 (by rw [h.len]; exact hb)]
  intro e
  exact hab ((List.getElem_inj h.nd).1 e)
set_option maxRecDepth 100000 in
set_option maxHeartbeats 4000000 in
theorem revI_any (a : Addr) (g o m n c c2 base : Nat) (xs : List Int) (w : World) (ha : a = ⟨g, o, none⟩) (hx : xs.length = n) (ho : o + m = n) (hm : n ≤ 1000) (hown : w.ownsRow base 3 1 (.slice (some ⟨g, 0, none⟩) n c) n (xs.map (.int .i64))) :
    Calls Try.prog 88 #[.slice (some a) m c2] w fun e w' => e = .returned (.tuple #[]) ∧
      w'.ownsRow base 3 1 (.slice (some ⟨g, 0, none⟩) n c) n ((xs.take o ++ (xs.drop o).reverse).map (.int .i64)) ∧ w.grownBy w' (some g) := by
  have HAD := Lib.hid (fun j => show a.add j = ⟨g, o + j, none⟩ by rw [ha, addO])
  have HL : Hid ((xs.drop o).length = m) := Lib.hid (by rw [List.length_drop]; omega)
  have HTK : Hid ((xs.take o).length = o) := Lib.hid (by rw [List.length_take]; omega)
  have hstart := Lib.hid (turnedA_start (xs.drop o))
  have HO0 : Hid (w.ownsRow base 3 1 (.slice (some ⟨g, 0, none⟩) n c) n ((xs.take o ++ xs.drop o).map (.int .i64))) := Lib.hid (by rw [List.take_append_drop]; exact hown)
  generalize xs.drop o = ds at HL hstart HO0 ⊢
  generalize xs.take o = hs at HTK HO0 ⊢
  clear hown hx ha
  go_enter Try.func88, Try.ntmps88
  go_wp2_with fail
  go_loopw [2, 3] (fun p q wr => ∃ (k : Nat) (ys : List Int), k ≤ m ∧ p = .int .i64 k ∧ q = .int .i64 ((m : Int) - 1 - k) ∧ Hid (wr.ownsRow base 3 1 (.slice (some ⟨g, 0, none⟩) n c) n ((hs ++ ys).map (.int .i64))) ∧ Hid (TurnedA ds k ys) ∧ w.grownBy wr (some g)) (fun p _ _ => m - (intOf p).toNat)
  case atStart => exact ⟨0, ds, Nat.zero_le _, rfl, by simp, HO0, hstart, World.grownBy.refl _ _⟩
  case round =>
    clear HO0 hstart
    obtain ⟨k, ys, hk, rfl, rfl, HO, ht, hg⟩ := hrel
    by_cases hlt : (k : Int) < (m : Int) - 1 - k
    · obtain ⟨b, hb⟩ : ∃ b : Nat, k + b + 1 = m := ⟨m - 1 - k, by omega⟩
      have hbi : (m : Int) - 1 - k = (b : Int) := by omega
      rw [hbi] at hlt ⊢
      have hyl : ys.length = m := by rw [ht.out.1, HL.out]
      have hk' : k < ds.length := by rw [HL.out]; omega
      have hb' : b < ds.length := by rw [HL.out]; omega
      have yk : ys[k]'(by omega) = ds[k] := by have := ht.out.2 k hk'; rw [if_neg (by rw [HL.out]; omega), List.getElem?_eq_getElem (by omega)] at this; injection this
      have yb : ys[b]'(by omega) = ds[b] := by have := ht.out.2 b hb'; rw [if_neg (by rw [HL.out]; omega), List.getElem?_eq_getElem (by omega)] at this; injection this
      have hHl : (hs ++ ys).length = n := by rw [List.length_append, HTK.out, hyl]; exact ho
      have c0 := own_atI HO.out hHl (k := o + k) (by omega)
      have d0 := own_atI HO.out hHl (k := o + b) (by omega)
      have gk : (hs ++ ys).getD (o + k) 0 = ds[k] := by
        rw [List.getD_eq_getElem?_getD, List.getElem?_append_right (by rw [HTK.out]; omega), HTK.out, Nat.add_sub_cancel_left, List.getElem?_eq_getElem (by omega), yk]; rfl
      have gb : (hs ++ ys).getD (o + b) 0 = ds[b] := by
        rw [List.getD_eq_getElem?_getD, List.getElem?_append_right (by rw [HTK.out]; omega), HTK.out, Nat.add_sub_cancel_left, List.getElem?_eq_getElem (by omega), yb]; rfl
      rw [gk] at c0
      rw [gb] at d0
      have HT := Lib.hid (turnedA_step ht.out (by rw [HL.out]; exact hb) (by omega) hk' hb')
      have HAP := Lib.hid (fun (x y : Int) => show ((hs ++ ys).set (o + k) y).set (o + b) x = hs ++ (ys.set k y).set b x by
        rw [List.set_append, if_neg (by rw [HTK.out]; omega), HTK.out, Nat.add_sub_cancel_left, List.set_append, if_neg (by rw [HTK.out]; omega), HTK.out, Nat.add_sub_cancel_left])
      have ek : a.add k = ⟨g, o + k, none⟩ := by rw [HAD.out]
      have eb : a.add b = ⟨g, o + b, none⟩ := by rw [HAD.out]
      have f0 := HO.out.frozenAt (o + k)
      have f3 := HO.out.frozenAt (o + b)
      clear yk yb gk gb
      generalize ds[k]'hk' = x at c0 HT
      generalize ds[b]'hb' = y at d0 HT
      obtain ⟨K, hK9⟩ : ∃ K, o + k = K := ⟨_, rfl⟩
      obtain ⟨L, hL9⟩ : ∃ L, o + b = L := ⟨_, rfl⟩
      rw [hK9] at c0 f0 ek HAP
      rw [hL9] at d0 f3 eb HAP
      have hKL : K ≠ L := by omega
      have hk0 : (0 : Int) ≤ (k : Int) := by omega
      have hk1 : (k : Int) < (m : Int) := by omega
      have hb0 : (0 : Int) ≤ (b : Int) := by omega
      have hb1 : (b : Int) < (m : Int) := by omega
      have HG := Lib.hid hg
      have HHL := Lib.hid hHl
      have hKn : K < n := by omega
      have hLn : L < n := by omega
      clear ht hg hbi hyl hHl hk' hb' HAD HTK hK9 hL9
      go_wp2_with fail
      go_region
      all_goals go_wp2_with fail
      have s0 := own_setI HO.out HHL.out hKn y
      have s1 := own_setI s0.1 (by simpa using HHL.out) hLn x
      rw [HAP.out x y] at s1
      go_roundw
      case rel => exact ⟨k + 1, _, by omega, by go_num, by congr 1; push_cast; omega, Lib.hid ((Drawn.one _ 1).own s1.1), HT, ((HG.out.trans s0.2).trans s1.2).trans ((Drawn.one _ 1).below _ |> fun h => ⟨h.os, h.tape, h.output, h.size, fun k hk _ => h.block k hk⟩)⟩
      case measure => simp [intOf]; omega
    · have he : Hid (ys = ds.reverse) := Lib.hid (turnedA_end ht.out (by rw [HL.out]; omega))
      clear ht
      go_wp2_with fail
      refine bodyPost_end (results_none rfl _ _ _) rfl ?_
      obtain rfl := he.out
      exact ⟨rfl, by rw [← List.map_reverse, ← List.map_append]; exact HO.out, hg⟩
set_option maxRecDepth 100000 in
set_option maxHeartbeats 4000000 in
theorem nextO_any {w : World} {base g n c : Nat} {p : List Nat} (hP : PlcI p n) (h0 : 0 < n) (hn : n ≤ 6) (hnc : n ≤ c) (hown : w.ownsRow base 3 1 (.slice (some ⟨g, 0, none⟩) n c) n ((rowI p).map (.int .i64))) :
    Calls Try.prog 76 #[.slice (some ⟨g, 0, none⟩) n c, .func (.func 77) #[] #[]] w fun e w' => e = .returned (.bool (nextI p).isSome) ∧
      w'.ownsRow base 3 1 (.slice (some ⟨g, 0, none⟩) n c) n ((rowI (nextP p)).map (.int .i64)) ∧ w.grownBy w' (some g) := by
  have HP := Lib.hid hP
  have HO := Lib.hid hown
  have HRL : Hid ((rowI p).length = n) := Lib.hid (by rw [rowI_len, hP.len])
  have HNO := Lib.hid (nextI_none (p := p))
  have HYES := Lib.hid (fun q => nextI_some (p := p) (q := q))
  rw [hP.len] at HNO HYES
  have HAT := Lib.hid (fun (W : World) (ho : W.ownsRow base 3 1 (.slice (some ⟨g, 0, none⟩) n c) n ((rowI p).map (.int .i64))) k (hk : k < n) => by
    have := own_atI ho (by rw [rowI_len, hP.len]) hk
    rw [rowI_at (by rw [hP.len]; exact hk)] at this
    exact this)
  have CC := Lib.hid (fun x y W => cmpInt_any x y W)
  obtain ⟨N, rfl⟩ : ∃ N, n = N + 1 := ⟨n - 1, by omega⟩
  rw [Nat.add_sub_cancel] at HNO HYES
  clear hP hown
  go_enter Try.func76, Try.ntmps76
  go_wp2_with fail
  go_loopw [5] (fun i wr => ∃ k : Nat, k ≤ N ∧ i = .int .i64 ((k : Int) - 1) ∧ Hid (descI p N = descI p k) ∧ Below w.heap.size w wr) (fun i _ => (intOf i + 1).toNat)
  case atStart => exact ⟨N, Nat.le_refl _, by congr 1; push_cast; omega, Lib.hid rfl, Below.refl _ _⟩
  case round =>
    obtain ⟨k, hk, rfl, hD, hb⟩ := hrel
    have HB := Lib.hid hb
    have HOr := Lib.hid (HO.out.kept (grownBelow hb none) (.inr (by simp [Value.ownBlock])))
    rcases Nat.eq_zero_or_pos k with hk0 | hk0
    · subst hk0
      have hnone := HNO.out (by rw [hD.out]; rfl)
      have HF : Hid (nextI p = none) := Lib.hid hnone
      have hc0 : (((0 : Nat) : Int) - 1) = -1 := by omega
      clear hnone hb HYES
      go_wp2_with fail
      refine wp_region_quiet_below (by kernel_rfl) (by kernel_rfl) ?_
      repeat (go_big_quiet_step (first | fail))
      refine wpQuiet_nil ?_
      intro _ hw'
      obtain ⟨⟨dq, osq⟩, hw''⟩ := hw'
      subst hw''
      have HBX := Lib.hid (HB.out.trans ((below_regrown wr dq osq).mono HB.out.size))
      have HOx := Lib.hid (HO.out.kept (grownBelow HBX.out none) (.inr (by simp [Value.ownBlock])))
      go_wp2_with fail
      go_ret
      exact ⟨by rw [HF.out]; rfl, by rw [nextP, HF.out]; exact HOx.out, grownBelow HBX.out _⟩
    · obtain ⟨q, rfl⟩ : ∃ q, k = q + 1 := ⟨k - 1, by omega⟩
      have hqe : (((q + 1 : Nat) : Int) - 1) = (q : Int) := by omega
      rw [hqe]
      have x0 := HAT.out _ HOr.out q (by omega)
      have y0 := HAT.out _ HOr.out (q + 1) (by omega)
      have HLS : Hid (((p.getD (q + 1) 0 : Nat) : Int) + 1 < ((p.getD q 0 : Nat) : Int) + 1 ↔ p.getD (q + 1) 0 < p.getD q 0) := Lib.hid (by omega)
      have HNE : Hid (((p.getD q 0 : Nat) : Int) + 1 ≠ ((p.getD (q + 1) 0 : Nat) : Int) + 1) := Lib.hid (by
        have h2 := HP.out.ne (a := q) (b := q + 1) (by omega) (by omega) (by omega)
        omega)
      have HDD : Hid (descI p (q + 1) = if p.getD (q + 1) 0 < p.getD q 0 then descI p q else some q) := Lib.hid rfl
      generalize ((p.getD q 0 : Nat) : Int) + 1 = xq at x0 HLS HNE
      generalize ((p.getD (q + 1) 0 : Nat) : Int) + 1 = yq at y0 HLS HNE
      have hq0 : (0 : Int) ≤ (q : Int) := by omega
      have hq1 : (q : Int) < ((N : Int) + 1) := by omega
      have hq2 : (q : Int) + 1 < ((N : Int) + 1) := by omega
      have hg0 : g < wr.heap.size := (HOr.out.lt g rfl).2
      have X0 := fun (d : Nat) (os : Array Obj) => cell_regrown x0 d os
      have Y0 := fun (d : Nat) (os : Array Obj) => cell_regrown y0 d os
      have CK := Lib.hid (fun (d : Nat) (os : Array Obj) => Calls.regrown_of (w := wr) (d := d) (os := os) (toBelow (CC.out xq yq _)))
      clear x0 y0 hb hk0
      by_cases hlt : yq < xq
      · rw [show cmpI xq yq = 1 by unfold cmpI; rw [if_neg (by omega), if_pos hlt]] at CK
        have k1 := CK.out
        have HT : Hid (descI p N = descI p q) := Lib.hid (by rw [hD.out, HDD.out, if_pos (HLS.out.1 hlt)])
        clear HDD HLS hD CK HNE
        go_wp2_with fail
        refine wp_region_quiet_below (by kernel_rfl) (by kernel_rfl) ?_
        repeat (go_big_quiet_step (first | exact k1 _ _))
        refine wpQuiet_nil ?_
        intro _ hw'
        obtain ⟨⟨dq, osq⟩, hw''⟩ := hw'
        subst hw''
        have HBX := Lib.hid (HB.out.trans ((below_regrown wr dq osq).mono HB.out.size))
        clear X0 Y0 k1
        go_wp2_with fail
        go_roundw
        case rel => exact ⟨q, by omega, by first | rfl | (congr 1; omega), HT, HBX.out⟩
        case measure => first | (simp [intOf]; done) | (simp [intOf]; omega)
      · rw [show cmpI xq yq = -1 by unfold cmpI; rw [if_pos (by have := HNE.out; omega)]] at CK
        have k1 := CK.out
        have HT : Hid (descI p N = some q) := Lib.hid (by rw [hD.out, HDD.out, if_neg (fun h => hlt (HLS.out.2 h))])
        have HYQ := Lib.hid (HYES.out q HT.out)
        have HQ : Hid (p.getD q 0 < p.getD (q + 1) 0) := Lib.hid (by
          have h1 : ¬ p.getD (q + 1) 0 < p.getD q 0 := fun h => hlt (HLS.out.2 h)
          have h2 := HP.out.ne (a := q) (b := q + 1) (by omega) (by omega) (by omega)
          omega)
        clear HDD HLS hD HNO HYES HT CK HNE
        go_wp2_with fail
        refine wp_region_quiet_below (by kernel_rfl) (by kernel_rfl) ?_
        repeat (go_big_quiet_step (first | exact k1 _ _))
        refine wpQuiet_nil ?_
        intro _ hw'
        obtain ⟨⟨dq, osq⟩, hw''⟩ := hw'
        subst hw''
        have HBX := Lib.hid (HB.out.trans ((below_regrown wr dq osq).mono HB.out.size))
        clear X0 Y0 k1
        obtain ⟨wo, hwo⟩ : ∃ W, grow (redrawn wr dq) osq = W := ⟨_, rfl⟩
        rw [hwo] at HBX
        try simp only [hwo]
        clear hwo HOr HB
        go_wp2_with fail
        go_loopw [6] (fun j wr => ∃ m : Nat, q + 1 ≤ m ∧ m ≤ N ∧ j = .int .i64 m ∧ Hid (lastI p (p.getD q 0) N = lastI p (p.getD q 0) m) ∧ Below w.heap.size w wr) (fun j _ => (intOf j).toNat)
        case atStart => exact ⟨N, by omega, Nat.le_refl _, rfl, Lib.hid rfl, HBX.out⟩
        case round =>
          clear HBX
          obtain ⟨m, hm1, hm2, rfl, hD, hb⟩ := hrel
          have HB := Lib.hid hb
          have HOr := Lib.hid (HO.out.kept (grownBelow hb none) (.inr (by simp [Value.ownBlock])))
          have x0 := HAT.out _ HOr.out q (by omega)
          have y0 := HAT.out _ HOr.out m (by omega)
          obtain ⟨m', rfl⟩ : ∃ m', m = m' + 1 := ⟨m - 1, by omega⟩
          have HDD : Hid (lastI p (p.getD q 0) (m' + 1) = if p.getD (m' + 1) 0 < p.getD q 0 then lastI p (p.getD q 0) m' else m' + 1) := Lib.hid rfl
          have HLm : Hid (((p.getD (m' + 1) 0 : Nat) : Int) + 1 < ((p.getD q 0 : Nat) : Int) + 1 ↔ p.getD (m' + 1) 0 < p.getD q 0) := Lib.hid (by omega)
          have HNE : Hid (((p.getD (m' + 1) 0 : Nat) : Int) + 1 ≠ ((p.getD q 0 : Nat) : Int) + 1) := Lib.hid (by
            have h2 := HP.out.ne (a := m' + 1) (b := q) (by omega) (by omega) (by omega)
            omega)
          have HSW : Hid (((rowI p).set q (((p.getD (m' + 1) 0 : Nat) : Int) + 1)).set (m' + 1) (((p.getD q 0 : Nat) : Int) + 1) = rowI (swpI p q (m' + 1))) := Lib.hid (by unfold swpI; rw [rowI_set, rowI_set])
          generalize ((p.getD q 0 : Nat) : Int) + 1 = X0 at x0 HLm HSW HNE
          generalize ((p.getD (m' + 1) 0 : Nat) : Int) + 1 = Y0 at y0 HLm HSW HNE
          obtain ⟨m, hmm⟩ : ∃ m, m' + 1 = m := ⟨_, rfl⟩
          rw [hmm] at hm1 hm2 hD y0 HDD HLm HSW ⊢
          have HMM := Lib.hid hmm
          have hm0 : (0 : Int) ≤ (m : Int) := by omega
          have hmn : (m : Int) < (N : Int) + 1 := by omega
          have hg0 : g < wr.heap.size := (HOr.out.lt g rfl).2
          have E0 := fun (d : Nat) (os : Array Obj) => cell_regrown x0 d os
          have F0 := fun (d : Nat) (os : Array Obj) => cell_regrown y0 d os
          have CK := Lib.hid (fun (d : Nat) (os : Array Obj) => Calls.regrown_of (w := wr) (d := d) (os := os) (toBelow (CC.out Y0 X0 _)))
          by_cases hlt : Y0 < X0
          · rw [show cmpI Y0 X0 = -1 by unfold cmpI; rw [if_pos hlt]] at CK
            have k1 := CK.out
            have hne : m' ≠ q := fun e => by
              have h1 := HLm.out.1 hlt
              rw [← hmm, e] at h1
              have h2 := HQ.out
              omega
            have HT : Hid (lastI p (p.getD q 0) N = lastI p (p.getD q 0) m') := Lib.hid (by rw [hD.out, HDD.out, if_pos (HLm.out.1 hlt)])
            have hmi : (m : Int) - 1 = (m' : Int) := by omega
            clear HDD HLm HSW hD x0 y0 hb hmm CK HNE
            go_wp2_with fail
            refine wp_region_quiet_below (by kernel_rfl) (by kernel_rfl) ?_
            repeat (go_big_quiet_step (first | exact k1 _ _))
            refine wpQuiet_nil ?_
            intro _ hw'
            obtain ⟨⟨dq, osq⟩, hw''⟩ := hw'
            subst hw''
            have HBX := Lib.hid (HB.out.trans ((below_regrown wr dq osq).mono HB.out.size))
            clear E0 F0 k1
            go_wp2_with fail
            go_roundw
            case rel => exact ⟨m', by have := HMM.out; omega, by have := HMM.out; omega, by first | rfl | (congr 1), HT, HBX.out⟩
            case measure => have := HMM.out; first | (simp [intOf]; done) | (simp [intOf]; omega)
          · rw [show cmpI Y0 X0 = 1 by unfold cmpI; rw [if_neg hlt, if_pos (by have := HNE.out; omega)]] at CK
            have k1 := CK.out
            have HT : Hid (lastI p (p.getD q 0) N = m) := Lib.hid (by rw [hD.out, HDD.out, if_neg (fun h => hlt (HLm.out.2 h))])
            rw [HT.out] at HYQ
            clear HDD HLm hD hb hmm HT CK HNE
            go_wp2_with fail
            refine wp_region_quiet_below (by kernel_rfl) (by kernel_rfl) ?_
            repeat (go_big_quiet_step (first | exact k1 _ _))
            refine wpQuiet_nil ?_
            intro _ hw'
            obtain ⟨⟨dq, osq⟩, hw''⟩ := hw'
            subst hw''
            have HBX := Lib.hid (HB.out.trans ((below_regrown wr dq osq).mono HB.out.size))
            have HOx := Lib.hid (HO.out.kept (grownBelow HBX.out none) (.inr (by simp [Value.ownBlock])))
            have x0 := E0 dq osq
            have y0 := F0 dq osq
            obtain ⟨wp, hwp⟩ : ∃ W, grow (redrawn wr dq) osq = W := ⟨_, rfl⟩
            rw [hwp] at HBX HOx x0 y0
            try simp only [hwp]
            clear hwp E0 F0 HOr HB k1
            have f0 := HOx.out.frozenAt q
            have f3 := HOx.out.frozenAt m
            have hqm : q ≠ m := by omega
            have hqn : q < N + 1 := by omega
            have hmn' : m < N + 1 := by omega
            have s0 := own_setI HOx.out HRL.out hqn Y0
            have s1 := own_setI s0.1 (by simpa using HRL.out) hmn' X0
            rw [HSW.out] at s1
            have S1 := Lib.hid s1.1
            have S2 := Lib.hid ((grownBelow HBX.out (some g)).trans (s0.2.trans s1.2))
            have hck : ¬ c = q + 1 := by omega
            have hqc : (q : Int) + 1 ≤ (c : Int) := by omega
            have hqN : (q : Int) + 1 ≤ (N : Int) + 1 := by omega
            clear s0 s1 HSW HO HAT HQ
            go_wp2_with fail
            go_region
            all_goals go_wp2_with fail
            have CR := Lib.hid (revI_any ⟨g, q + 1, none⟩ g (q + 1) (N - q) (N + 1) c (c - (q + 1)) base (rowI (swpI p q m)) _ rfl (by rw [rowI_len]; unfold swpI; simpa using HP.out.len) (by omega) (by omega) ((Drawn.one _ 1).own S1.out))
            refine CR.out.mono ?_
            rintro e w9 ⟨rfl, ho, hgr⟩
            have HF : Hid (nextI p = some ((swpI p q m).take (q + 1) ++ ((swpI p q m).drop (q + 1)).reverse)) := HYQ
            have HOF : Hid (w9.ownsRow base 3 1 (.slice (some ⟨g, 0, none⟩) (N + 1) c) (N + 1) ((rowI (nextP p)).map (.int .i64))) := Lib.hid (by
              rw [nextP, HF.out, Option.getD_some, rowI_take]
              exact ho)
            have HGF := Lib.hid (S2.out.trans ((grownBelow ((Drawn.one _ 1).below _) (some g)).trans hgr))
            clear ho hgr CR S1 S2
            go_wp2_with fail
            go_ret
            exact ⟨by rw [HF.out]; rfl, HOF.out, HGF.out⟩
end Go.Proofs.Ytgnopkemcgbedaa
