/- Chapter 7: the unsafe pairs of the model. -/
import Derived.Test.YtgnopkemcgbedabDgT
namespace Go.Proofs.Ytgnopkemcgbedab
open Go.RowKit Go.PlainAid Go.Sort
set_option linter.unusedVariables false
set_option linter.unusedSimpArgs false

/-- The pairs found so far, in a row of one's own. -/
def POwn (w W : World) (vs : List TCargo) (cs : List Int) (n i j : Nat) (v : Value) : Prop :=
  ∃ (g0 cp : Nat) (M : List TPr), v = .slice (some ⟨g0, 0, none⟩) M.length cp ∧ (numsPr M).Perm (allP vs cs n i ++ rowP vs cs i j) ∧ ordP (numsPr M) ∧ w.heap.size ≤ g0 ∧
    W.ownsRow w.heap.size 25 1 (.slice (some ⟨g0, 0, none⟩) M.length cp) M.length (M.map valPr) ∧ EachPr w.heap.size W M ∧ Below w.heap.size w W
theorem POwn.below {w W W' : World} {vs : List TCargo} {cs : List Int} {n i j : Nat} {v : Value} (h : POwn w W vs cs n i j v) (hb : Go.RowKit.Below W.heap.size W W') : POwn w W' vs cs n i j v := by
  obtain ⟨g0, cp, M, rfl, h1, h2, h3, h4, h5, h6⟩ := h
  exact ⟨g0, cp, M, rfl, h1, h2, h3, own_below h4 hb, h5.all hb, h6.trans (hb.mono h6.size)⟩
theorem POwn.no {w W : World} {vs : List TCargo} {cs : List Int} {n i j : Nat} {v : Value} (h : POwn w W vs cs n i j v) (hb : badP vs cs i j = false) : POwn w W vs cs n i (j + 1) v := by
  obtain ⟨g0, cp, M, rfl, h1, h2⟩ := h
  exact ⟨g0, cp, M, rfl, by rw [rowP, hb]; simpa using h1, h2⟩
theorem POwn.next {w W : World} {vs : List TCargo} {cs : List Int} {n i : Nat} {v : Value} (h : POwn w W vs cs n i n v) : POwn w W vs cs n (i + 1) 0 v := by
  obtain ⟨g0, cp, M, rfl, h1, h2⟩ := h
  exact ⟨g0, cp, M, rfl, by rw [allP, rowP, List.append_nil]; exact h1, h2⟩
theorem numsPr_at {M : List TPr} {k : Nat} (h : k < M.length) : (numsPr M)[k]? = some ((M.getD k noPr).x, (M.getD k noPr).y) := by
  rw [getPr h]
  simp [numsPr, h]
/-- A pair put into its place. -/
theorem ordIns_perm {M : List TPr} {L : List (Int × Int)} (h : (numsPr M).Perm L) (k : Nat) (p : TPr) (q : Int × Int) (hq : q = (p.x, p.y)) : (numsPr (M.take k ++ p :: M.drop k)).Perm (L ++ [q]) := by
  subst hq
  have e : numsPr (M.take k ++ p :: M.drop k) = (numsPr M).take k ++ (p.x, p.y) :: (numsPr M).drop k := by simp [numsPr, List.map_take, List.map_drop]
  rw [e]
  refine List.perm_middle.trans ?_
  rw [List.take_append_drop]
  exact (List.Perm.cons _ h).trans (List.perm_append_comm (l₁ := [(p.x, p.y)]))
theorem ordIns_ord {M : List TPr} (h : ordP (numsPr M)) (k : Nat) (p : TPr) (h1 : ∀ j, j < k → ltP ((M.getD j noPr).x, (M.getD j noPr).y) (p.x, p.y)) (hk : k ≤ M.length) (h2 : k < M.length → ¬ ltP ((M.getD k noPr).x, (M.getD k noPr).y) (p.x, p.y)) :
    ordP (numsPr (M.take k ++ p :: M.drop k)) := by
  have e : numsPr (M.take k ++ p :: M.drop k) = (numsPr M).take k ++ (p.x, p.y) :: (numsPr M).drop k := by simp [numsPr, List.map_take, List.map_drop]
  rw [e]
  refine ord_ins (by rw [List.take_append_drop]; exact h) (fun a ha => ?_) (fun b hb => ?_)
  · obtain ⟨j, hj, rfl⟩ := List.mem_iff_getElem.1 ha
    have hj2 : j < k := by simp at hj; omega
    have hj3 : j < M.length := by omega
    have := h1 j hj2
    rw [List.getElem_take]
    rw [getPr hj3] at this
    simpa [numsPr] using this
  · rw [List.getElem?_drop] at hb
    have hk2 : k < M.length := by
      have := (List.getElem?_eq_some_iff.1 hb).1
      simpa [numsPr] using this
    rw [Nat.add_zero, numsPr_at hk2] at hb
    injection hb with hb
    rw [← hb]
    exact h2 hk2
theorem ltP_yes1 {x y X Y : Int} (h : x < X) : ltP (x, y) (X, Y) := .inl h
theorem ltP_yes2 {x y X Y : Int} (h : x = X) (h2 : y < Y) : ltP (x, y) (X, Y) := .inr ⟨h, h2⟩
theorem ltP_no1 {x y X Y : Int} (h : X < x) : ¬ ltP (x, y) (X, Y) := by unfold ltP; dsimp only; omega
theorem ltP_no2 {x y X Y : Int} (h : x = X) (h2 : ¬ y < Y) : ¬ ltP (x, y) (X, Y) := by unfold ltP; dsimp only; omega


set_option maxRecDepth 100000 in
set_option maxHeartbeats 8000000 in
theorem l7Pairs_any {w : World} {B B2 : Nat} {A A2 : Option Addr} {n : Nat} {vs : List TCargo} {cs : List Int} (c c2 : Nat) (h : IsCargos w B A n vs) (hok : okP vs cs) (hB2 : B2 ≤ w.heap.size) (h2 : Has w B2 A2 (cs.map (.int .i64))) :
    Calls Try.prog 84 #[.slice A n c, .slice A2 n c2] w fun e w' => ∃ v, e = .returned v ∧ POwn w w' vs cs n n 0 v := by
  obtain ⟨j0, hj, hy0, hy1, hy2⟩ := info_parts Try.infoSl'
  have hgg := (gCs_iff vs).1 hok.1
  have hn6 : n ≤ 6 := by rw [← h.len]; exact hgg.1
  have HI := Lib.hid h
  have H2 := Lib.hid h2
  have HG := Lib.hid (fun j (hj : j < n) => good_at hgg (k := j) (by rw [h.len]; exact hj))
  have HC := Lib.hid (fun j (hj : j < n) => okP_cell hok (k := j) (by rw [h.len]; exact hj))
  have hcl : cs.length = n := by rw [hok.2.1, h.len]
  have CG := Lib.hid (fun (x y : Int) (hx : 0 ≤ x ∧ x ≤ 3) (hy : 0 ≤ y ∧ y ≤ 3) (W : World) => toBelow (l7Gap_any x y W hx hy))
  have CM := Lib.hid (fun (x y : Int) (W : World) => toBelow (l1Most_any x y W))
  have P1 : Hid (POwn w (w.alloc (.cells #[] 25)) vs cs n 0 0 (.slice (some ⟨w.heap.size, 0, none⟩) 0 0)) := Lib.hid ⟨_, 0, [], rfl, List.Perm.refl _, List.Pairwise.nil, Nat.le_refl _, World.ownsRow_made w #[] 0 (Nat.le_refl _) (by unfold maxLen; omega) rfl, EachPr.nil _ _, below1 _ _⟩
  clear h h2 hok hgg
  go_enter Try.func84, Try.ntmps84
  go_wp2_with fail
  go_loopw [5, 6] (fun v i wr => ∃ k : Nat, k ≤ n ∧ i = .int .i64 k ∧ POwn w wr vs cs n k 0 v) (fun _ i _ => n - (intOf i).toNat)
  case atStart => exact ⟨0, Nat.zero_le _, rfl, P1.out⟩
  case round =>
    clear P1
    obtain ⟨i, hi, rfl, hP⟩ := hrel
    by_cases hlti : i < n
    · have hi0 : (0 : Int) ≤ (i : Int) := by omega
      have hi1 : (i : Int) < (n : Int) := by omega
      have HP := Lib.hid hP
      clear hP
      go_wp2_with fail
      go_loopw [5, 7] (fun v j wr => ∃ k : Nat, k ≤ n ∧ j = .int .i64 k ∧ POwn w wr vs cs n i k v) (fun _ j _ => n - (intOf j).toNat)
      case atStart => exact ⟨0, Nat.zero_le _, rfl, HP.out⟩
      case round =>
        clear HP
        obtain ⟨k, hk, rfl, hP⟩ := hrel
        by_cases hltk : k < n
        · have HP := Lib.hid hP
          obtain ⟨g0, cp, M, rfl, hM1, hM2, hg0, hown, hea, hb⟩ := hP
          obtain ⟨a1, rfl, hab, HV⟩ := (HI.out.below hb HI.out.low).has.Cargo (k := i) (by rw [HI.out.len]; exact hlti)
          have HVI := Lib.hid (fun W (hb : Below w.heap.size w W) => (HI.out.below hb HI.out.low).has.Cargo (k := i) (by rw [HI.out.len]; exact hlti))
          have HUI := Lib.hid (fun W (hb : Below w.heap.size w W) => (HI.out.below hb HI.out.low).has.Cargo (k := k) (by rw [HI.out.len]; exact hltk))
          obtain ⟨a2, rfl, hab2, -⟩ := intGet (H2.out.below (hb.mono hB2)) (k := i) (by rw [hcl]; exact hlti)
          have HCI := Lib.hid (fun W (hb : Below w.heap.size w W) => intGet (H2.out.below (hb.mono hB2)) (k := i) (by rw [hcl]; exact hlti))
          have HCK := Lib.hid (fun W (hb : Below w.heap.size w W) => intGet (H2.out.below (hb.mono hB2)) (k := k) (by rw [hcl]; exact hltk))
          have HBAD0 : Hid (badP vs cs i k = decide ((vs.getD i noCargo).x0 < (vs.getD k noCargo).x0 ∧ betZ (vs.getD i noCargo) (vs.getD k noCargo) (cs.getD i 0) (cs.getD k 0) < gapZ (vs.getD i noCargo).x2 (vs.getD k noCargo).x2)) := Lib.hid rfl
          have HPR0 : Hid (prP vs i k = ((vs.getD i noCargo).x0, (vs.getD k noCargo).x0)) := Lib.hid rfl
          have hgi := HG.out i hlti
          have hgk := HG.out k hltk
          have hci := HC.out i hlti
          have hck := HC.out k hltk
          have hM36 : M.length ≤ 35 := by
            have e1 := hM1.length_eq
            rw [List.length_append] at e1
            have e2 := allP_len vs cs n i
            have e3 := rowP_len vs cs i k
            have e4 : i * n ≤ 5 * 6 := Nat.mul_le_mul (by omega) hn6
            simp [numsPr] at e1
            omega
          obtain ⟨V, hV⟩ : ∃ V, vs.getD i noCargo = V := ⟨_, rfl⟩
          obtain ⟨U, hU⟩ : ∃ U, vs.getD k noCargo = U := ⟨_, rfl⟩
          obtain ⟨ci, hci9⟩ : ∃ z, cs.getD i 0 = z := ⟨_, rfl⟩
          obtain ⟨ck, hck9⟩ : ∃ z, cs.getD k 0 = z := ⟨_, rfl⟩
          rw [hV] at HVI HBAD0 HPR0 hgi
          rw [hU] at HUI HBAD0 HPR0 hgk
          rw [hci9] at HCI HBAD0 hci
          rw [hck9] at HCK HBAD0 hck
          clear hV hU hci9 hck9 HV
          obtain ⟨di, li, qi⟩ := V
          obtain ⟨dk, lk, qk⟩ := U
          have HPR : Hid (prP vs i k = (di, dk)) := HPR0
          have HBAD1 : Hid (badP vs cs i k = decide (di < dk ∧ max (ck - (ci + li)) (ci - (ck + lk)) < gapZ qi qk)) := HBAD0
          obtain ⟨hgi0, hgi1, hgi2⟩ := hgi
          obtain ⟨hgk0, hgk1, hgk2⟩ := hgk
          dsimp only at hgi0 hgi1 hgi2 hgk0 hgk1 hgk2
          obtain ⟨b1, eb1, -, HVc⟩ := HVI.out _ hb
          injection eb1 with eb1
          subst eb1
          obtain ⟨b1, eb1, -, HUc⟩ := HUI.out _ hb
          injection eb1 with eb1
          subst eb1
          have v0 := HVc.c0
          have u0 := HUc.c0
          dsimp only at v0 u0
          have V0 := fun (d : Nat) (os : Array Obj) => cell_regrown v0 d os
          have U0 := fun (d : Nat) (os : Array Obj) => cell_regrown u0 d os
          have hk0 : (0 : Int) ≤ (k : Int) := by omega
          have hk1 : (k : Int) < (n : Int) := by omega
          have HBw := Lib.hid hb
          have HM1 := Lib.hid hM1
          have HM2 := Lib.hid hM2
          have HOW := Lib.hid hown
          have HEA := Lib.hid hea
          clear hM1 hM2 hown hea hb v0 u0 HVc HUc HBAD0 HPR0 HG HC
          by_cases hid : di < dk
          · have hid2 : ¬ dk ≤ di := by omega
            go_wp2_with fail
            refine wp_region_quiet_below (by kernel_rfl) (by kernel_rfl) ?_
            repeat (go_big_quiet_step (first | fail))
            refine wpQuiet_nil ?_
            intro _ hw'
            obtain ⟨⟨dq, osq⟩, hw''⟩ := hw'
            subst hw''
            have HBr := Lib.hid (HBw.out.trans ((below_regrown wr dq osq).mono HBw.out.size))
            have HOWr := Lib.hid (own_below HOW.out (below_regrown wr dq osq))
            have HEAr := Lib.hid (HEA.out.all (below_regrown wr dq osq))
            have HPr := Lib.hid (HP.out.below (below_regrown wr dq osq))
            obtain ⟨wc, hwc⟩ : ∃ W, grow (redrawn wr dq) osq = W := ⟨_, rfl⟩
            rw [hwc] at HBr HOWr HEAr HPr
            try simp only [hwc]
            clear hwc V0 U0 HP HOW HEA HBw
            obtain ⟨b1, eb1, -, HVc⟩ := HVI.out _ HBr.out
            injection eb1 with eb1
            subst eb1
            obtain ⟨b1, eb1, -, HUc⟩ := HUI.out _ HBr.out
            injection eb1 with eb1
            subst eb1
            obtain ⟨b2, eb2, -, c3⟩ := HCI.out _ HBr.out
            injection eb2 with eb2
            subst eb2
            obtain ⟨b2, eb2, -, c4⟩ := HCK.out _ HBr.out
            injection eb2 with eb2
            subst eb2
            have v1 := HVc.c1
            have u1 := HUc.c1
            dsimp only at v1 u1
            have V1 := fun (d : Nat) (os : Array Obj) => cell_regrown v1 d os
            have U1 := fun (d : Nat) (os : Array Obj) => cell_regrown u1 d os
            have C3 := fun (d : Nat) (os : Array Obj) => cell_regrown c3 d os
            have C4 := fun (d : Nat) (os : Array Obj) => cell_regrown c4 d os
            have hzz : max (ck - ci - li) (ci - ck - lk) = max (ck - (ci + li)) (ci - (ck + lk)) := by omega
            have C1 := Lib.hid (fun W => CM.out (ck - ci - li) (ci - ck - lk) W)
            rw [hzz] at C1
            have hbz : -208 ≤ max (ck - (ci + li)) (ci - (ck + lk)) ∧ max (ck - (ci + li)) (ci - (ck + lk)) ≤ 200 := by omega
            generalize max (ck - (ci + li)) (ci - (ck + lk)) = bz at C1 HBAD1 hbz
            have c1 := fun (dr : Nat) (os : Array Obj) => Calls.regrown_of (w := wc) (d := dr) (os := os) (C1.out _)
            clear HVc HUc v1 u1 c3 c4 hzz C1
            go_wp2_with fail
            refine wp_region_quiet_below (by kernel_rfl) (by kernel_rfl) ?_
            repeat (go_big_quiet_step (first | exact c1 _ _))
            refine wpQuiet_nil ?_
            intro _ hw'
            obtain ⟨⟨dq, osq⟩, hw''⟩ := hw'
            subst hw''
            have HBs := Lib.hid (HBr.out.trans ((below_regrown wc dq osq).mono HBr.out.size))
            have HOWs := Lib.hid (own_below HOWr.out (below_regrown wc dq osq))
            have HEAs := Lib.hid (HEAr.out.all (below_regrown wc dq osq))
            have HPs := Lib.hid (HPr.out.below (below_regrown wc dq osq))
            obtain ⟨wd, hwd⟩ : ∃ W, grow (redrawn wc dq) osq = W := ⟨_, rfl⟩
            rw [hwd] at HBs HOWs HEAs HPs
            try simp only [hwd]
            clear hwd V1 U1 C3 C4 c1 HPr HOWr HEAr HBr
            obtain ⟨b1, eb1, -, HVc⟩ := HVI.out _ HBs.out
            injection eb1 with eb1
            subst eb1
            obtain ⟨b1, eb1, -, HUc⟩ := HUI.out _ HBs.out
            injection eb1 with eb1
            subst eb1
            have v2 := HVc.c2
            have u2 := HUc.c2
            dsimp only at v2 u2
            have V2 := fun (d : Nat) (os : Array Obj) => cell_regrown v2 d os
            have U2 := fun (d : Nat) (os : Array Obj) => cell_regrown u2 d os
            have C1 := Lib.hid (fun W => CG.out qi qk hgi2 hgk2 W)
            have hgb := gap_bd hgi2 hgk2
            generalize gapZ qi qk = gz at C1 HBAD1 hgb
            have c1 := fun (dr : Nat) (os : Array Obj) => Calls.regrown_of (w := wd) (d := dr) (os := os) (C1.out _)
            clear HVc HUc v2 u2 C1 CG CM
            by_cases hgap : bz < gz
            · have HBAD : Hid (badP vs cs i k = true) := Lib.hid (by rw [HBAD1.out]; exact decide_eq_true ⟨hid, hgap⟩)
              have hgap2 : ¬ gz ≤ bz := by omega
              clear HBAD1
              go_wp2_with fail
              refine wp_region_quiet_below (by kernel_rfl) (by kernel_rfl) ?_
              repeat (go_big_quiet_step (first | exact c1 _ _))
              refine wpQuiet_nil ?_
              intro _ hw'
              obtain ⟨⟨dq, osq⟩, hw''⟩ := hw'
              subst hw''
              have HBt := Lib.hid (HBs.out.trans ((below_regrown wd dq osq).mono HBs.out.size))
              have HOWt := Lib.hid (own_below HOWs.out (below_regrown wd dq osq))
              have HEAt := Lib.hid (HEAs.out.all (below_regrown wd dq osq))
              obtain ⟨wg, hwg⟩ : ∃ W, grow (redrawn wd dq) osq = W := ⟨_, rfl⟩
              rw [hwg] at HBt HOWt HEAt
              try simp only [hwg]
              clear hwg V2 U2 c1 HPs HOWs HEAs HBs
              have HV9 := Lib.hid (fun W (hq : Below wg.heap.size wg W) => show W.cell? (a1.add (i * 3)) = some (.int .i64 di) from by
                obtain ⟨b1, eb1, -, HVc⟩ := HVI.out _ (HBt.out.trans (hq.mono HBt.out.size))
                injection eb1 with eb1
                subst eb1
                exact HVc.c0)
              have HU9 := Lib.hid (fun W (hq : Below wg.heap.size wg W) => show W.cell? (a1.add (k * 3)) = some (.int .i64 dk) from by
                obtain ⟨b1, eb1, -, HUc⟩ := HUI.out _ (HBt.out.trans (hq.mono HBt.out.size))
                injection eb1 with eb1
                subst eb1
                exact HUc.c0)
              clear HVI HUI
              have HVI := HV9
              have HUI := HU9
              clear HV9 HU9 HCI HCK
              go_wp2_with fail
              refine region_inv (by kernel_rfl) (by kernel_rfl) (fun Fl9 ac W => ∃ (x79 x80 x81 x82 x83 x84 x85 x86 x87 x88 x89 x9 : Value), ac = { tmps := #[Value.slice (some a1) n c, Value.slice (some a2) n c2, undef, undef, Value.slice none 0 0, Value.slice (some ⟨g0, 0, none⟩) M.length cp, Value.int IntKind.i64 (i : Int), Value.int IntKind.i64 (k : Int), Value.int IntKind.i64 bz, x9, u10, Value.slice (some ⟨w.heap.size, 0, none⟩) 0 0, Value.int IntKind.i64 (i : Int), Value.slice (some a1) n c, Value.int IntKind.i64 (n : Int), Value.bool true, u16, u17, Value.int IntKind.i64 (k : Int), Value.slice (some a1) n c, Value.int IntKind.i64 (n : Int), Value.bool true, u22, u23, Value.slice (some a1) n c, Value.int IntKind.i64 (i : Int), Value.pointer (some (a1.add (i * 3))), Value.pointer (some (a1.add (i * 3))), Value.int IntKind.i64 di, Value.slice (some a1) n c, Value.int IntKind.i64 (k : Int), Value.pointer (some (a1.add (k * 3))), Value.pointer (some (a1.add (k * 3))), Value.int IntKind.i64 dk, Value.bool (decide (dk ≤ di)), Value.slice (some a2) n c2, Value.int IntKind.i64 (k : Int), Value.pointer (some (a2.add k)), Value.int IntKind.i64 ck, Value.slice (some a2) n c2, Value.int IntKind.i64 (i : Int), Value.pointer (some (a2.add i)), Value.int IntKind.i64 ci, Value.int IntKind.i64 (ck - ci), Value.slice (some a1) n c, Value.int IntKind.i64 (i : Int), Value.pointer (some (a1.add (i * 3))), Value.pointer (some ⟨(a1.add (i * 3)).block, (a1.add (i * 3)).off + 1, none⟩), Value.int IntKind.i64 li, Value.int IntKind.i64 (ck - ci - li), Value.slice (some a2) n c2, Value.int IntKind.i64 (i : Int), Value.pointer (some (a2.add i)), Value.int IntKind.i64 ci, Value.slice (some a2) n c2, Value.int IntKind.i64 (k : Int), Value.pointer (some (a2.add k)), Value.int IntKind.i64 ck, Value.int IntKind.i64 (ci - ck), Value.slice (some a1) n c, Value.int IntKind.i64 (k : Int), Value.pointer (some (a1.add (k * 3))), Value.pointer (some ⟨(a1.add (k * 3)).block, (a1.add (k * 3)).off + 1, none⟩), Value.int IntKind.i64 lk, Value.int IntKind.i64 (ci - ck - lk), Value.int IntKind.i64 bz, Value.int IntKind.i64 bz, Value.slice (some a1) n c, Value.int IntKind.i64 (i : Int), Value.pointer (some (a1.add (i * 3))), Value.pointer (some ⟨(a1.add (i * 3)).block, (a1.add (i * 3)).off + 2, none⟩), Value.int IntKind.i64 qi, Value.slice (some a1) n c, Value.int IntKind.i64 (k : Int), Value.pointer (some (a1.add (k * 3))), Value.pointer (some ⟨(a1.add (k * 3)).block, (a1.add (k * 3)).off + 2, none⟩), Value.int IntKind.i64 qk, Value.int IntKind.i64 gz, Value.bool (decide (gz ≤ bz)), x79, x80, x81, x82, x83, x84, x85, x86, x87, x88, x89, u90, u91, u92, u93, u94, u95, u96, u97, u98, u99, u100, u101, u102, u103, u104, u105, u106, u107, u108, u109, u110, u111, u112, u113, u114, u115, u116, u117, u118, u119, u120, u121, u122, u123, u124, u125, u126, u127, u128, u129, u130, u131, u132, u133, u134, u135, u136, u137, u138, u139, u140, u141, u142, u143, undef], defers := [] } ∧ Below wg.heap.size wg W ∧
                    (Fl9 0 = true → x79 = .slice (some a1) n c) ∧
                    (Fl9 1 = true → x80 = .int .i64 (i : Int)) ∧
                    (Fl9 2 = true → x81 = .pointer (some (a1.add (i * 3)))) ∧
                    (Fl9 3 = true → x82 = .pointer (some (a1.add (i * 3)))) ∧
                    (Fl9 4 = true → x83 = .int .i64 di) ∧
                    (Fl9 5 = true → x84 = .slice (some a1) n c) ∧
                    (Fl9 6 = true → x85 = .int .i64 (k : Int)) ∧
                    (Fl9 7 = true → x86 = .pointer (some (a1.add (k * 3)))) ∧
                    (Fl9 8 = true → x87 = .pointer (some (a1.add (k * 3)))) ∧
                    (Fl9 9 = true → x88 = .int .i64 dk) ∧
                    (Fl9 10 = true → ∃ g, x89 = .slice (some ⟨g, 0, none⟩) 2 2 ∧ wg.heap.size ≤ g ∧ BoxI W g di dk) ∧
                    (Fl9 11 = true → ∃ g, x9 = .slice (some ⟨g, 0, none⟩) 2 2 ∧ wg.heap.size ≤ g ∧ BoxI W g di dk)) ?_ ?_ ?_
              · exact ⟨_, _, _, _, _, _, _, _, _, _, _, _, rfl, (Drawn.one wg 1).below _, (fun q0 => nomatch q0), (fun q0 => nomatch q0), (fun q0 => nomatch q0), (fun q0 => nomatch q0), (fun q0 => nomatch q0), (fun q0 => nomatch q0), (fun q0 => nomatch q0), (fun q0 => nomatch q0), (fun q0 => nomatch q0), (fun q0 => nomatch q0), (fun q0 => nomatch q0), (fun q0 => nomatch q0)⟩
              · intro Fl9 ac W i9 o9 hJ ho hL hdep K9 hK
                obtain ⟨x79, x80, x81, x82, x83, x84, x85, x86, x87, x88, x89, x9, rfl, hB, hh0, hh1, hh2, hh3, hh4, hh5, hh6, hh7, hh8, hh9, hh10, hh11⟩ := hJ
                have hi9 : i9 < 12 := by simpa using (Array.getElem?_eq_some_iff.1 ho).1
                have V0 := HVI.out W hB
                have U0 := HUI.out W hB
                obtain rfl | rfl | rfl | rfl | rfl | rfl | rfl | rfl | rfl | rfl | rfl | rfl : i9 = 0 ∨ i9 = 1 ∨ i9 = 2 ∨ i9 = 3 ∨ i9 = 4 ∨ i9 = 5 ∨ i9 = 6 ∨ i9 = 7 ∨ i9 = 8 ∨ i9 = 9 ∨ i9 = 10 ∨ i9 = 11 := by omega
                · -- operation 0
                  cases ho
                  go_simp
                  exact hK _ _ ⟨_, _, _, _, _, _, _, _, _, _, _, _, rfl, hB, fun _ => rfl, hh1, hh2, hh3, hh4, hh5, hh6, hh7, hh8, hh9, hh10, hh11⟩
                · -- operation 1
                  cases ho
                  go_simp
                  exact hK _ _ ⟨_, _, _, _, _, _, _, _, _, _, _, _, rfl, hB, hh0, fun _ => rfl, hh2, hh3, hh4, hh5, hh6, hh7, hh8, hh9, hh10, hh11⟩
                · -- operation 2
                  cases ho
                  obtain rfl := hh0 (hdep ⟨0, .data⟩ (by simp) rfl)
                  obtain rfl := hh1 (hdep ⟨1, .data⟩ (by simp) rfl)
                  go_simp
                  exact hK _ _ ⟨_, _, _, _, _, _, _, _, _, _, _, _, rfl, hB, hh0, hh1, fun _ => rfl, hh3, hh4, hh5, hh6, hh7, hh8, hh9, hh10, hh11⟩
                · -- operation 3
                  cases ho
                  obtain rfl := hh2 (hdep ⟨2, .data⟩ (by simp) rfl)
                  go_simp
                  exact hK _ _ ⟨_, _, _, _, _, _, _, _, _, _, _, _, rfl, hB, hh0, hh1, hh2, fun _ => rfl, hh4, hh5, hh6, hh7, hh8, hh9, hh10, hh11⟩
                · -- operation 4
                  cases ho
                  obtain rfl := hh3 (hdep ⟨3, .data⟩ (by simp) rfl)
                  go_simp
                  exact hK _ _ ⟨_, _, _, _, _, _, _, _, _, _, _, _, rfl, hB, hh0, hh1, hh2, hh3, fun _ => rfl, hh5, hh6, hh7, hh8, hh9, hh10, hh11⟩
                · -- operation 5
                  cases ho
                  go_simp
                  exact hK _ _ ⟨_, _, _, _, _, _, _, _, _, _, _, _, rfl, hB, hh0, hh1, hh2, hh3, hh4, fun _ => rfl, hh6, hh7, hh8, hh9, hh10, hh11⟩
                · -- operation 6
                  cases ho
                  go_simp
                  exact hK _ _ ⟨_, _, _, _, _, _, _, _, _, _, _, _, rfl, hB, hh0, hh1, hh2, hh3, hh4, hh5, fun _ => rfl, hh7, hh8, hh9, hh10, hh11⟩
                · -- operation 7
                  cases ho
                  obtain rfl := hh5 (hdep ⟨5, .data⟩ (by simp) rfl)
                  obtain rfl := hh6 (hdep ⟨6, .data⟩ (by simp) rfl)
                  go_simp
                  exact hK _ _ ⟨_, _, _, _, _, _, _, _, _, _, _, _, rfl, hB, hh0, hh1, hh2, hh3, hh4, hh5, hh6, fun _ => rfl, hh8, hh9, hh10, hh11⟩
                · -- operation 8
                  cases ho
                  obtain rfl := hh7 (hdep ⟨7, .data⟩ (by simp) rfl)
                  go_simp
                  exact hK _ _ ⟨_, _, _, _, _, _, _, _, _, _, _, _, rfl, hB, hh0, hh1, hh2, hh3, hh4, hh5, hh6, hh7, fun _ => rfl, hh9, hh10, hh11⟩
                · -- operation 9
                  cases ho
                  obtain rfl := hh8 (hdep ⟨8, .data⟩ (by simp) rfl)
                  go_simp
                  exact hK _ _ ⟨_, _, _, _, _, _, _, _, _, _, _, _, rfl, hB, hh0, hh1, hh2, hh3, hh4, hh5, hh6, hh7, hh8, fun _ => rfl, hh10, hh11⟩
                · -- operation 10
                  cases ho
                  obtain rfl := hh4 (hdep ⟨4, .data⟩ (by simp) rfl)
                  obtain rfl := hh9 (hdep ⟨9, .data⟩ (by simp) rfl)
                  go_simp
                  exact hK _ _ ⟨_, _, _, _, _, _, _, _, _, _, _, _, rfl, hB.trans ((Below.alloc (Below.refl W.heap.size W) (Nat.le_refl _) _).mono hB.size), hh0, hh1, hh2, hh3, hh4, hh5, hh6, hh7, hh8, hh9, fun _ => ⟨_, rfl, hB.size, heap_alloc_new W _⟩, fun q0 => (fun ⟨g, e, h1, h⟩ => ⟨g, e, h1, h.all (Below.alloc (Below.refl W.heap.size W) (Nat.le_refl _) _)⟩) (hh11 q0)⟩
                · -- operation 11
                  cases ho
                  have hd10 := hdep ⟨10, .data⟩ (by simp) rfl
                  obtain ⟨g9, rfl, hg9, hb8⟩ := hh10 hd10
                  go_simp
                  exact hK _ _ ⟨_, _, _, _, _, _, _, _, _, _, _, _, rfl, hB, hh0, hh1, hh2, hh3, hh4, hh5, hh6, hh7, hh8, hh9, hh10, fun _ => ⟨_, rfl, hg9, hb8⟩⟩
              intro Fl9 ac W hJ hall
              obtain ⟨x79, x80, x81, x82, x83, x84, x85, x86, x87, x88, x89, x9, rfl, hB, hh0, hh1, hh2, hh3, hh4, hh5, hh6, hh7, hh8, hh9, hh10, hh11⟩ := hJ
              obtain rfl := hh0 (hall 0 (by decide))
              obtain rfl := hh1 (hall 1 (by decide))
              obtain rfl := hh2 (hall 2 (by decide))
              obtain rfl := hh3 (hall 3 (by decide))
              obtain rfl := hh4 (hall 4 (by decide))
              obtain rfl := hh5 (hall 5 (by decide))
              obtain rfl := hh6 (hall 6 (by decide))
              obtain rfl := hh7 (hall 7 (by decide))
              obtain rfl := hh8 (hall 8 (by decide))
              obtain rfl := hh9 (hall 9 (by decide))
              clear hh10
              obtain ⟨gx, rfl, hgx, hbx⟩ := hh11 (hall 11 (by decide))
              clear hall
              have HBh := Lib.hid (HBt.out.trans (hB.mono HBt.out.size))
              have HOWh := Lib.hid (own_below HOWt.out hB)
              have HEAh := Lib.hid (HEAt.out.all hB)
              have HNE : Hid (∀ q ∈ M, q.g ≠ gx) := Lib.hid (fun q hq e => by have := ((HEAt.out.box q hq).2).lt; omega)
              have HBX := Lib.hid hbx
              have hgx2 : w.heap.size ≤ gx := Nat.le_trans HBt.out.size hgx
              have hgne : gx ≠ g0 := hbx.ne HOWh.out (by decide)
              obtain ⟨wk, hwk⟩ : ∃ W', W = W' := ⟨_, rfl⟩
              subst hwk
              clear hB hbx HBt HOWt HEAt HVI HUI hgx
              have hgx := hgx2
              clear hgx2
              go_wp2_with fail
              generalize W = wx at *
              go_loopw [10] (fun a wr => ∃ at9 : Nat, at9 ≤ M.length ∧ a = .int .i64 at9 ∧ Hid (∀ j, j < at9 → ltP ((M.getD j noPr).x, (M.getD j noPr).y) (di, dk)) ∧ Below wx.heap.size wx wr) (fun a _ => M.length - (intOf a).toNat)
              case atStart => exact ⟨0, Nat.zero_le _, rfl, Lib.hid (by simp), Below.refl _ _⟩
              case round =>
                obtain ⟨at9, hat, rfl, hAll, hb⟩ := hrel
                have HBi0 := Lib.hid hb
                have hat0 : (0 : Int) ≤ (at9 : Int) := by omega
                have HOWj := Lib.hid (own_below HOWh.out hb)
                have HEAj := Lib.hid (HEAh.out.all hb)
                have HBXj := Lib.hid (HBX.out.all hb)
                have x0 := HBXj.out.c0
                have x1 := HBXj.out.c1
                have X0 := fun (d : Nat) (os : Array Obj) => cell_regrown x0 d os
                have X1 := fun (d : Nat) (os : Array Obj) => cell_regrown x1 d os
                clear hb x0 x1
                by_cases hlta : at9 < M.length
                · have p9 := ownPr_cell HOWj.out hlta
                  have hp9 := HEAj.out.box (M.getD at9 noPr) (by rw [getPr hlta]; exact List.getElem_mem _)
                  have HLT : Hid (ltP ((M.getD at9 noPr).x, (M.getD at9 noPr).y) (di, dk) → ∀ j, j < at9 + 1 → ltP ((M.getD j noPr).x, (M.getD j noPr).y) (di, dk)) := Lib.hid (fun h j hj => by
                    rcases Nat.lt_succ_iff_lt_or_eq.1 hj with h1 | h1
                    · exact hAll.out j h1
                    · exact h1 ▸ h)
                  have HNO : Hid (¬ ltP ((M.getD at9 noPr).x, (M.getD at9 noPr).y) (di, dk) → at9 < M.length → ¬ ltP ((M.getD at9 noPr).x, (M.getD at9 noPr).y) (di, dk)) := Lib.hid (fun h _ => h)
                  obtain ⟨p, hp⟩ : ∃ p, M.getD at9 noPr = p := ⟨_, rfl⟩
                  rw [hp] at p9 hp9 HLT
                  have HPE := Lib.hid hp
                  clear hp
                  obtain ⟨pg, px, py⟩ := p
                  have q0 := hp9.2.c0
                  have q1 := hp9.2.c1
                  dsimp only [valPr] at p9 q0 q1 HLT
                  have P9 := fun (d : Nat) (os : Array Obj) => cell_regrown p9 d os
                  have Q0 := fun (d : Nat) (os : Array Obj) => cell_regrown q0 d os
                  have Q1 := fun (d : Nat) (os : Array Obj) => cell_regrown q1 d os
                  have hat1 : (at9 : Int) < (M.length : Int) := by omega
                  clear p9 q0 q1 hp9
                  rcases Int.lt_trichotomy px di with h1 | h1 | h1
                  · have HT := Lib.hid (HLT.out (ltP_yes1 h1))
                    have r1 : decide (px < di) = true := decide_eq_true h1
                    clear HLT HNO h1
                    go_wp2_with fail
                    refine wp_region_quiet_below (by kernel_rfl) (by kernel_rfl) ?_
                    repeat (first | go_big_quiet_step (first | fail) | rw [r1])
                    refine wpQuiet_nil ?_
                    intro _ hw'
                    obtain ⟨⟨dq, osq⟩, hw''⟩ := hw'
                    subst hw''
                    have HBj := Lib.hid (HBi0.out.trans ((below_regrown wr dq osq).mono HBi0.out.size))
                    clear P9 Q0 Q1 X0 X1
                    go_wp2_with fail
                    go_roundw
                    case rel => exact ⟨at9 + 1, by omega, by go_num, HT, HBj.out⟩
                    case measure => simp [intOf]; omega
                  · have hb1 : (px == di) = true := by simp [h1]
                    have r1 : decide (px < di) = false := decide_eq_false (by omega)
                    have r2 := hb1
                    clear hb1
                    by_cases h2 : py < dk
                    · have HT := Lib.hid (HLT.out (ltP_yes2 h1 h2))
                      have r3 : decide (py < dk) = true := decide_eq_true h2
                      clear HLT HNO h1 h2
                      go_wp2_with fail
                      refine wp_region_quiet_below (by kernel_rfl) (by kernel_rfl) ?_
                      repeat (first | go_big_quiet_step (first | fail) | rw [r1] | rw [r2] | rw [r3])
                      refine wpQuiet_nil ?_
                      intro _ hw'
                      obtain ⟨⟨dq, osq⟩, hw''⟩ := hw'
                      subst hw''
                      have HBj := Lib.hid (HBi0.out.trans ((below_regrown wr dq osq).mono HBi0.out.size))
                      clear P9 Q0 Q1 X0 X1
                      go_wp2_with fail
                      go_roundw
                      case rel => exact ⟨at9 + 1, by omega, by go_num, HT, HBj.out⟩
                      case measure => simp [intOf]; omega
                    · have HNL : Hid (at9 < M.length → ¬ ltP ((M.getD at9 noPr).x, (M.getD at9 noPr).y) (di, dk)) := Lib.hid (fun _ => by rw [HPE.out]; exact ltP_no2 h1 h2)
                      have r3 : decide (py < dk) = false := decide_eq_false h2
                      clear HLT HNO HPE h1 h2
                      go_wp2_with fail
                      refine wp_region_quiet_below (by kernel_rfl) (by kernel_rfl) ?_
                      repeat (first | go_big_quiet_step (first | fail) | rw [r1] | rw [r2] | rw [r3])
                      refine wpQuiet_nil ?_
                      intro _ hw'
                      obtain ⟨⟨dq, osq⟩, hw''⟩ := hw'
                      subst hw''
                      have HBj := Lib.hid (HBi0.out.trans ((below_regrown wr dq osq).mono HBi0.out.size))
                      have HBi := Lib.hid (HBh.out.trans (HBj.out.mono HBh.out.size))
                      have HOWi := Lib.hid (own_below HOWh.out HBj.out)
                      have HEAi := Lib.hid (HEAh.out.all HBj.out)
                      have HBXi := Lib.hid (HBX.out.all HBj.out)
                      obtain ⟨wi, hwi⟩ : ∃ W, grow (redrawn wr dq) osq = W := ⟨_, rfl⟩
                      rw [hwi] at HBi HOWi HEAi HBXi
                      try simp only [hwi]
                      clear hwi HBj HBi0 HBh HOWh HEAh HBX HOWj HEAj HBXj X0 X1 P9 Q0 Q1 r1 r2 r3
                      -- the pair goes in at at9; HNL: what stands there does not stand before it
                      have HPERM := Lib.hid (ordIns_perm HM1.out at9 ⟨gx, di, dk⟩ (di, dk) rfl)
                      have HORD := Lib.hid (ordIns_ord HM2.out at9 ⟨gx, di, dk⟩ (fun j hj => hAll.out j hj) hat HNL.out)
                      have HEI : Hid (EachPr w.heap.size wi (M.take at9 ++ ⟨gx, di, dk⟩ :: M.drop at9)) := Lib.hid (EachPr.ins (by rw [List.take_append_drop]; exact HEAi.out) ⟨by have := hgx; omega, HBXi.out⟩ (by rw [List.take_append_drop]; exact HNE.out))
                      obtain ⟨m, hm9⟩ : ∃ m, M.length = m := ⟨_, rfl⟩
                      have HML := Lib.hid hm9
                      have hcp : m ≤ cp := by
                        rcases HOWi.out.2 with ⟨e, -⟩ | ⟨g', cap', cur, e, -, -, h1, -⟩
                        · cases e
                        · injection e with e1 e2 e3; omega
                      have hX0 : ∀ j u, (M.map valPr)[j]? = some u → wi.cell? ⟨g0, j, none⟩ = some u := fun j u hu => by
                        have hjl := (List.getElem?_eq_some_iff.1 hu).1
                        rw [HOWi.out.cellAt j (by have := HOWi.out.1; omega)]
                        exact hu
                      have HX : Hid (∀ W, Below wi.heap.size wi W → ∀ j u, (M.map valPr)[j]? = some u → W.cell? ⟨g0, j, none⟩ = some u) := Lib.hid (fun W hq j u hu => (hq.cell (p := ⟨g0, j, none⟩) (World.block_lt_of_cell? wi _ (hX0 j u hu))).trans (hX0 j u hu))
                      have HXS : Hid ((M.take at9 ++ (⟨gx, di, dk⟩ : TPr) :: M.drop at9).map valPr = (M.map valPr).take at9 ++ [.slice (some ⟨gx, 0, none⟩) 2 2] ++ (M.map valPr).drop at9) := Lib.hid (by simp [List.map_take, List.map_drop])
                      have HXL : Hid ((M.map valPr).length = m) := Lib.hid (by rw [List.length_map, hm9])
                      have HXO : Hid (∀ u ∈ (M.map valPr), u.oneCell' = true) := Lib.hid (fun u hu => by obtain ⟨q, -, rfl⟩ := List.mem_map.1 hu; rfl)
                      have HLEN : Hid ((M.take at9 ++ (⟨gx, di, dk⟩ : TPr) :: M.drop at9).length = m + 1) := Lib.hid (by simp; omega)
                      rw [hm9] at HOWi hat hM36 ⊢
                      clear hX0 hm9
                      generalize M.map valPr = xs at HX HXS HXL HXO
                      have HT1 : Hid ((xs.take at9).length = at9 * 1) := Lib.hid (by rw [List.length_take, HXL.out]; omega)
                      have HT2 : Hid ((xs.drop at9).length = (m - at9) * 1) := Lib.hid (by rw [List.length_drop, HXL.out]; omega)
                      have HO1 : Hid (∀ u ∈ xs.take at9, u.oneCell' = true) := Lib.hid (fun u hu => HXO.out u (List.mem_of_mem_take hu))
                      have HO2 : Hid (∀ u ∈ xs.drop at9, u.oneCell' = true) := Lib.hid (fun u hu => HXO.out u (List.mem_of_mem_drop hu))
                      have HN1 : Hid (∀ W, Below wi.heap.size wi W → ∀ j u, (xs.take at9)[j]? = some u → W.cell? ((⟨g0, 0, none⟩ : Addr).add j) = some u) := Lib.hid (fun W hq j u hu => by
                        rw [show (⟨g0, 0, none⟩ : Addr).add j = ⟨g0, j, none⟩ from (by unfold Addr.add; split <;> simp_all)]
                        refine HX.out W hq j u ?_
                        rw [List.getElem?_take] at hu
                        split at hu
                        · exact hu
                        · cases hu)
                      obtain ⟨aq, haq⟩ : ∃ aq, (if cp = at9 then some ⟨g0, 0, none⟩ else some ⟨g0, at9, none⟩ : Option Addr) = some aq := by split <;> exact ⟨_, rfl⟩
                      have HAQ := Lib.hid haq
                      have HN2 : Hid (∀ W, Below wi.heap.size wi W → ∀ j u, (xs.drop at9)[j]? = some u → W.cell? (aq.add j) = some u) := Lib.hid (fun W hq j u hu => by
                        have hjl := (List.getElem?_eq_some_iff.1 hu).1
                        rw [List.length_drop, HXL.out] at hjl
                        have haq2 := HAQ.out
                        rw [if_neg (by omega)] at haq2
                        injection haq2 with haq2
                        subst haq2
                        rw [show (⟨g0, at9, none⟩ : Addr).add j = ⟨g0, at9 + j, none⟩ from (by unfold Addr.add; split <;> simp_all)]
                        rw [List.getElem?_drop] at hu
                        exact HX.out W hq (at9 + j) u hu)
                      clear haq
                      have hki : at9 + 1 + (m - at9) = m + 1 := by omega
                      have hk0' : (0 : Int) ≤ (at9 : Int) := by omega
                      have hatm : (at9 : Int) ≤ (m : Int) := by omega
                      have hatc : (at9 : Int) ≤ (cp : Int) := by omega
                      have hmc : (m : Int) ≤ (cp : Int) := by omega
                      clear HM1 HM2 HEAi HBXi HNE HX HXL HXO hAll HOWi
                      go_wp2_with fail
                      refine region_inv (by kernel_rfl) (by kernel_rfl) (fun Fl9 ac W => ∃ (x132 x133 x134 x135 x136 x137 x138 x139 x140 x141 x142 x143 x5 : Value), ac = { tmps := #[Value.slice (some a1) n c, Value.slice (some a2) n c2, undef, undef, Value.slice none 0 0, x5, Value.int IntKind.i64 (i : Int), Value.int IntKind.i64 (k : Int), Value.int IntKind.i64 bz, Value.slice (some ⟨gx, 0, none⟩) 2 2, Value.int IntKind.i64 (at9 : Int), Value.slice (some ⟨w.heap.size, 0, none⟩) 0 0, Value.int IntKind.i64 (i : Int), Value.slice (some a1) n c, Value.int IntKind.i64 (n : Int), Value.bool true, u16, u17, Value.int IntKind.i64 (k : Int), Value.slice (some a1) n c, Value.int IntKind.i64 (n : Int), Value.bool true, u22, u23, Value.slice (some a1) n c, Value.int IntKind.i64 (i : Int), Value.pointer (some (a1.add (i * 3))), Value.pointer (some (a1.add (i * 3))), Value.int IntKind.i64 di, Value.slice (some a1) n c, Value.int IntKind.i64 (k : Int), Value.pointer (some (a1.add (k * 3))), Value.pointer (some (a1.add (k * 3))), Value.int IntKind.i64 dk, Value.bool (decide (dk ≤ di)), Value.slice (some a2) n c2, Value.int IntKind.i64 (k : Int), Value.pointer (some (a2.add k)), Value.int IntKind.i64 ck, Value.slice (some a2) n c2, Value.int IntKind.i64 (i : Int), Value.pointer (some (a2.add i)), Value.int IntKind.i64 ci, Value.int IntKind.i64 (ck - ci), Value.slice (some a1) n c, Value.int IntKind.i64 (i : Int), Value.pointer (some (a1.add (i * 3))), Value.pointer (some ⟨(a1.add (i * 3)).block, (a1.add (i * 3)).off + 1, none⟩), Value.int IntKind.i64 li, Value.int IntKind.i64 (ck - ci - li), Value.slice (some a2) n c2, Value.int IntKind.i64 (i : Int), Value.pointer (some (a2.add i)), Value.int IntKind.i64 ci, Value.slice (some a2) n c2, Value.int IntKind.i64 (k : Int), Value.pointer (some (a2.add k)), Value.int IntKind.i64 ck, Value.int IntKind.i64 (ci - ck), Value.slice (some a1) n c, Value.int IntKind.i64 (k : Int), Value.pointer (some (a1.add (k * 3))), Value.pointer (some ⟨(a1.add (k * 3)).block, (a1.add (k * 3)).off + 1, none⟩), Value.int IntKind.i64 lk, Value.int IntKind.i64 (ci - ck - lk), Value.int IntKind.i64 bz, Value.int IntKind.i64 bz, Value.slice (some a1) n c, Value.int IntKind.i64 (i : Int), Value.pointer (some (a1.add (i * 3))), Value.pointer (some ⟨(a1.add (i * 3)).block, (a1.add (i * 3)).off + 2, none⟩), Value.int IntKind.i64 qi, Value.slice (some a1) n c, Value.int IntKind.i64 (k : Int), Value.pointer (some (a1.add (k * 3))), Value.pointer (some ⟨(a1.add (k * 3)).block, (a1.add (k * 3)).off + 2, none⟩), Value.int IntKind.i64 qk, Value.int IntKind.i64 gz, Value.bool (decide (gz ≤ bz)), Value.slice (some a1) n c, Value.int IntKind.i64 (i : Int), Value.pointer (some (a1.add (i * 3))), Value.pointer (some (a1.add (i * 3))), Value.int IntKind.i64 di, Value.slice (some a1) n c, Value.int IntKind.i64 (k : Int), Value.pointer (some (a1.add (k * 3))), Value.pointer (some (a1.add (k * 3))), Value.int IntKind.i64 dk, x89, Value.int IntKind.i64 (at9 : Int), Value.slice (some ⟨g0, 0, none⟩) m cp, Value.int IntKind.i64 (m : Int), Value.bool true, Value.bool true, Value.slice (some ⟨g0, 0, none⟩) m cp, Value.int IntKind.i64 (at9 : Int), Value.pointer (some ⟨g0, at9, none⟩), Value.slice (some ⟨pg, 0, none⟩) 2 2, Value.pointer (some ⟨pg, 0, none⟩), Value.int IntKind.i64 px, Value.slice (some ⟨gx, 0, none⟩) 2 2, Value.pointer (some ⟨gx, 0, none⟩), Value.int IntKind.i64 di, Value.bool false, Value.bool false, Value.slice (some ⟨g0, 0, none⟩) m cp, Value.int IntKind.i64 (at9 : Int), Value.pointer (some ⟨g0, at9, none⟩), Value.slice (some ⟨pg, 0, none⟩) 2 2, Value.pointer (some ⟨pg, 0, none⟩), Value.int IntKind.i64 px, Value.slice (some ⟨gx, 0, none⟩) 2 2, Value.pointer (some ⟨gx, 0, none⟩), Value.int IntKind.i64 di, Value.bool true, Value.bool true, Value.slice (some ⟨g0, 0, none⟩) m cp, Value.int IntKind.i64 (at9 : Int), Value.pointer (some ⟨g0, at9, none⟩), Value.slice (some ⟨pg, 0, none⟩) 2 2, Value.pointer (some ⟨pg, 1, none⟩), Value.int IntKind.i64 py, Value.slice (some ⟨gx, 0, none⟩) 2 2, Value.pointer (some ⟨gx, 1, none⟩), Value.int IntKind.i64 dk, Value.bool false, Value.bool false, Value.bool false, Value.bool false, u130, u131, x132, x133, x134, x135, x136, x137, x138, x139, x140, x141, x142, x143, undef], defers := [] } ∧ Below wi.heap.size wi W ∧
                            (Fl9 0 = true → Fl9 4 = false → ∃ g, x132 = .slice (some ⟨g, 0, none⟩) 0 0 ∧ W.ownsRow wi.heap.size 25 1 (.slice (some ⟨g, 0, none⟩) 0 0) 0 []) ∧
                            (Fl9 1 = true → x133 = .slice (some ⟨g0, 0, none⟩) m cp) ∧
                            (Fl9 2 = true → x134 = .int .i64 (at9 : Int)) ∧
                            (Fl9 3 = true → x135 = .slice (some ⟨g0, 0, none⟩) at9 cp) ∧
                            (Fl9 4 = true → Fl9 7 = false → ∃ g c9, x136 = .slice (some ⟨g, 0, none⟩) at9 c9 ∧ W.ownsRow wi.heap.size 25 1 (.slice (some ⟨g, 0, none⟩) at9 c9) at9 (xs.take at9)) ∧
                            (Fl9 5 = true → x137 = .slice (some ⟨gx, 0, none⟩) 2 2) ∧
                            (Fl9 6 = true → Fl9 7 = false → ∃ g, x138 = .slice (some ⟨g, 0, none⟩) 1 1 ∧ ∀ j u, [Value.slice (some ⟨gx, 0, none⟩) 2 2][j]? = some u → W.cell? ((⟨g, 0, none⟩ : Addr).add j) = some u) ∧
                            (Fl9 7 = true → Fl9 11 = false → ∃ g c9, x139 = .slice (some ⟨g, 0, none⟩) (at9 + 1) c9 ∧ W.ownsRow wi.heap.size 25 1 (.slice (some ⟨g, 0, none⟩) (at9 + 1) c9) (at9 + 1) (xs.take at9 ++ [.slice (some ⟨gx, 0, none⟩) 2 2])) ∧
                            (Fl9 8 = true → x140 = .slice (some ⟨g0, 0, none⟩) m cp) ∧
                            (Fl9 9 = true → x141 = .int .i64 (at9 : Int)) ∧
                            (Fl9 10 = true → x142 = .slice (some aq) (m - at9) (cp - at9)) ∧
                            (Fl9 11 = true → ∃ g c9, x143 = .slice (some ⟨g, 0, none⟩) (m + 1) c9 ∧ wi.heap.size ≤ g ∧ W.ownsRow wi.heap.size 25 1 (.slice (some ⟨g, 0, none⟩) (m + 1) c9) (m + 1) (xs.take at9 ++ [.slice (some ⟨gx, 0, none⟩) 2 2] ++ xs.drop at9)) ∧
                            (Fl9 12 = true → ∃ g c9, x5 = .slice (some ⟨g, 0, none⟩) (m + 1) c9 ∧ wi.heap.size ≤ g ∧ W.ownsRow wi.heap.size 25 1 (.slice (some ⟨g, 0, none⟩) (m + 1) c9) (m + 1) (xs.take at9 ++ [.slice (some ⟨gx, 0, none⟩) 2 2] ++ xs.drop at9)) ∧
                            (Fl9 12 = true → Fl9 1 = true ∧ Fl9 8 = true) ∧
                            (Fl9 12 = false → x5 = .slice (some ⟨g0, 0, none⟩) m cp) ∧
                            (Fl9 7 = true → Fl9 4 = true) ∧
                            (Fl9 11 = true → Fl9 7 = true) ∧
                            (Fl9 12 = true → Fl9 11 = true)) ?_ ?_ ?_
                      · exact ⟨_, _, _, _, _, _, _, _, _, _, _, _, _, rfl, (Drawn.one wi 1).below _, (fun q0 => nomatch q0), (fun q0 => nomatch q0), (fun q0 => nomatch q0), (fun q0 => nomatch q0), (fun q0 => nomatch q0), (fun q0 => nomatch q0), (fun q0 => nomatch q0), (fun q0 => nomatch q0), (fun q0 => nomatch q0), (fun q0 => nomatch q0), (fun q0 => nomatch q0), (fun q0 => nomatch q0), (fun q0 => nomatch q0), (fun q0 => nomatch q0), (fun _ => rfl), (fun q0 => nomatch q0), (fun q0 => nomatch q0), (fun q0 => nomatch q0)⟩
                      · intro Fl9 ac W i9 o9 hJ ho hL hdep K9 hK
                        obtain ⟨x132, x133, x134, x135, x136, x137, x138, x139, x140, x141, x142, x143, x5, rfl, hB, hh0, hh1, hh2, hh3, hh4, hh5, hh6, hh7, hh8, hh9, hh10, hh11, hh12, hx0, hx1, hx2, hx3, hx4⟩ := hJ
                        have hi9 : i9 < 13 := by simpa using (Array.getElem?_eq_some_iff.1 ho).1
                        obtain rfl | rfl | rfl | rfl | rfl | rfl | rfl | rfl | rfl | rfl | rfl | rfl | rfl : i9 = 0 ∨ i9 = 1 ∨ i9 = 2 ∨ i9 = 3 ∨ i9 = 4 ∨ i9 = 5 ∨ i9 = 6 ∨ i9 = 7 ∨ i9 = 8 ∨ i9 = 9 ∨ i9 = 10 ∨ i9 = 11 ∨ i9 = 12 := by omega
                        · -- operation 0
                          cases ho
                          go_simp
                          exact hK _ _ ⟨_, _, _, _, _, _, _, _, _, _, _, _, _, rfl, hB.trans ((Below.alloc (Below.refl W.heap.size W) (Nat.le_refl _) _).mono hB.size), fun _ _ => ⟨_, rfl, own_low (World.ownsRow_made W #[] 0 (Nat.le_refl _) (by unfold maxLen; omega) rfl) hB.size⟩, hh1, hh2, hh3, fun q0 r0 => (fun ⟨g, c9, e, o⟩ => ⟨g, c9, e, own_below o (Below.alloc (Below.refl W.heap.size W) (Nat.le_refl _) _)⟩) (hh4 q0 r0), hh5, fun q0 r0 => (fun ⟨g, e, h⟩ => ⟨g, e, fun j u hu => (Below.cell (Below.alloc (Below.refl W.heap.size W) (Nat.le_refl _) _) (World.block_lt_of_cell? W _ (h j u hu))).trans (h j u hu)⟩) (hh6 q0 r0), fun q0 r0 => (fun ⟨g, c9, e, o⟩ => ⟨g, c9, e, own_below o (Below.alloc (Below.refl W.heap.size W) (Nat.le_refl _) _)⟩) (hh7 q0 r0), hh8, hh9, hh10, fun q0 => (fun ⟨g, c9, e, h, o⟩ => ⟨g, c9, e, h, own_below o (Below.alloc (Below.refl W.heap.size W) (Nat.le_refl _) _)⟩) (hh11 q0), fun q0 => (fun ⟨g, c9, e, h, o⟩ => ⟨g, c9, e, h, own_below o (Below.alloc (Below.refl W.heap.size W) (Nat.le_refl _) _)⟩) (hh12 q0), hx0, hx1, hx2, hx3, hx4⟩
                        · -- operation 1
                          cases ho
                          have hx9 : Fl9 12 = false := by
                            cases hc9 : Fl9 12 with
                            | false => rfl
                            | true => exact absurd (hx0 hc9).1 (by rw [hL]; simp)
                          obtain rfl := hx1 hx9
                          go_simp
                          exact hK _ _ ⟨_, _, _, _, _, _, _, _, _, _, _, _, _, rfl, hB, hh0, fun _ => rfl, hh2, hh3, hh4, hh5, hh6, hh7, hh8, hh9, hh10, hh11, hh12, fun q0 => ⟨rfl, (hx0 q0).2⟩, hx1, hx2, hx3, hx4⟩
                        · -- operation 2
                          cases ho
                          go_simp
                          exact hK _ _ ⟨_, _, _, _, _, _, _, _, _, _, _, _, _, rfl, hB, hh0, hh1, fun _ => rfl, hh3, hh4, hh5, hh6, hh7, hh8, hh9, hh10, hh11, hh12, hx0, hx1, hx2, hx3, hx4⟩
                        · -- operation 3
                          cases ho
                          obtain rfl := hh1 (hdep ⟨1, .data⟩ (by simp) rfl)
                          obtain rfl := hh2 (hdep ⟨2, .data⟩ (by simp) rfl)
                          go_simp
                          exact hK _ _ ⟨_, _, _, _, _, _, _, _, _, _, _, _, _, rfl, hB, hh0, hh1, hh2, fun _ => rfl, hh4, hh5, hh6, hh7, hh8, hh9, hh10, hh11, hh12, hx0, hx1, hx2, hx3, hx4⟩
                        · -- operation 4
                          cases ho
                          have hd0 := hdep ⟨0, .data⟩ (by simp) rfl
                          obtain ⟨g9, rfl, oe⟩ := hh0 hd0 hL
                          obtain rfl := hh3 (hdep ⟨3, .data⟩ (by simp) rfl)
                          refine step_append rfl (.tmp 132) (.tmp 135) 50 rfl wi.heap.size 25 j0 (.slice none 0 0) 1 24 Try.underlying50 hj hy0 hy1 hy2 rfl (by decide) _ 0 _ rfl oe ⟨g0, 0, none⟩ at9 cp (xs.take at9) rfl HT1.out (HN1.out W hB) HO1.out (by unfold maxLen; omega) (by omega) hB.size (fun e => nomatch e) ?_
                          intro g1 cap w9 hown hgr
                          rw [Nat.zero_add, List.nil_append] at hown
                          rw [Nat.zero_add]
                          have keep10 : (∃ g, x138 = .slice (some ⟨g, 0, none⟩) 1 1 ∧ ∀ j u, [Value.slice (some ⟨gx, 0, none⟩) 2 2][j]? = some u → W.cell? ((⟨g, 0, none⟩ : Addr).add j) = some u) → ∃ g, x138 = .slice (some ⟨g, 0, none⟩) 1 1 ∧ ∀ j u, [Value.slice (some ⟨gx, 0, none⟩) 2 2][j]? = some u → w9.cell? ((⟨g, 0, none⟩ : Addr).add j) = some u := fun ⟨gq, e, h⟩ => ⟨gq, e, keep_empty oe hgr h⟩
                          exact hK _ _ ⟨_, _, _, _, _, _, _, _, _, _, _, _, _, rfl, hB.grown hgr hB.size (fun q e => (oe.lt q e).1), (fun _ q0 => nomatch q0), hh1, hh2, hh3, fun _ => fun _ => ⟨_, _, rfl, hown⟩, hh5, (fun q0 r0 => keep10 (hh6 q0 r0)), (fun q0 => absurd (hx2 q0) (by rw [hL]; simp)), hh8, hh9, hh10, (fun q0 => absurd (hx2 (hx3 q0)) (by rw [hL]; simp)), (fun q0 => absurd (hx2 (hx3 (hx4 q0))) (by rw [hL]; simp)), hx0, hx1, fun _ => rfl, hx3, hx4⟩
                        · -- operation 5
                          cases ho
                          go_simp
                          exact hK _ _ ⟨_, _, _, _, _, _, _, _, _, _, _, _, _, rfl, hB, hh0, hh1, hh2, hh3, hh4, fun _ => rfl, hh6, hh7, hh8, hh9, hh10, hh11, hh12, hx0, hx1, hx2, hx3, hx4⟩
                        · -- operation 6
                          cases ho
                          obtain rfl := hh5 (hdep ⟨5, .data⟩ (by simp) rfl)
                          go_simp
                          exact hK _ _ ⟨_, _, _, _, _, _, _, _, _, _, _, _, _, rfl, hB.trans ((Below.alloc (Below.refl W.heap.size W) (Nat.le_refl _) _).mono hB.size), fun q0 r0 => (fun ⟨g, e, o⟩ => ⟨g, e, own_below o (Below.alloc (Below.refl W.heap.size W) (Nat.le_refl _) _)⟩) (hh0 q0 r0), hh1, hh2, hh3, fun q0 r0 => (fun ⟨g, c9, e, o⟩ => ⟨g, c9, e, own_below o (Below.alloc (Below.refl W.heap.size W) (Nat.le_refl _) _)⟩) (hh4 q0 r0), hh5, fun _ _ => ⟨_, rfl, cell_one_new W _ _⟩, fun q0 r0 => (fun ⟨g, c9, e, o⟩ => ⟨g, c9, e, own_below o (Below.alloc (Below.refl W.heap.size W) (Nat.le_refl _) _)⟩) (hh7 q0 r0), hh8, hh9, hh10, fun q0 => (fun ⟨g, c9, e, h, o⟩ => ⟨g, c9, e, h, own_below o (Below.alloc (Below.refl W.heap.size W) (Nat.le_refl _) _)⟩) (hh11 q0), fun q0 => (fun ⟨g, c9, e, h, o⟩ => ⟨g, c9, e, h, own_below o (Below.alloc (Below.refl W.heap.size W) (Nat.le_refl _) _)⟩) (hh12 q0), hx0, hx1, hx2, hx3, hx4⟩
                        · -- operation 7
                          cases ho
                          have hd4 := hdep ⟨4, .data⟩ (by simp) rfl
                          obtain ⟨g9, c9, rfl, oe⟩ := hh4 hd4 hL
                          have hd6 := hdep ⟨6, .data⟩ (by simp) rfl
                          obtain ⟨gn, rfl, hnew⟩ := hh6 hd6 hL
                          refine step_append rfl (.tmp 136) (.tmp 138) 50 rfl wi.heap.size 25 j0 (.slice none 0 0) 1 24 Try.underlying50 hj hy0 hy1 hy2 rfl (by decide) _ at9 _ rfl oe ⟨gn, 0, none⟩ 1 1 [.slice (some ⟨gx, 0, none⟩) 2 2] rfl rfl hnew (by simp [Value.oneCell']) (by unfold maxLen; omega) (by omega) hB.size (fun e => nomatch e) ?_
                          intro g1 cap w9 hown hgr
                          exact hK _ _ ⟨_, _, _, _, _, _, _, _, _, _, _, _, _, rfl, hB.grown hgr hB.size (fun q e => (oe.lt q e).1), (fun _ q0 => absurd ((show Fl9 4 = false from q0).symm.trans hd4) (by simp)), hh1, hh2, hh3, (fun _ q0 => nomatch q0), hh5, (fun _ q0 => nomatch q0), fun _ => fun _ => ⟨_, _, rfl, hown⟩, hh8, hh9, hh10, (fun q0 => absurd (hx3 q0) (by rw [hL]; simp)), (fun q0 => absurd (hx3 (hx4 q0)) (by rw [hL]; simp)), hx0, hx1, fun _ => hd4, fun _ => rfl, hx4⟩
                        · -- operation 8
                          cases ho
                          have hx9 : Fl9 12 = false := by
                            cases hc9 : Fl9 12 with
                            | false => rfl
                            | true => exact absurd (hx0 hc9).2 (by rw [hL]; simp)
                          obtain rfl := hx1 hx9
                          go_simp
                          exact hK _ _ ⟨_, _, _, _, _, _, _, _, _, _, _, _, _, rfl, hB, hh0, hh1, hh2, hh3, hh4, hh5, hh6, hh7, fun _ => rfl, hh9, hh10, hh11, hh12, fun q0 => ⟨(hx0 q0).1, rfl⟩, hx1, hx2, hx3, hx4⟩
                        · -- operation 9
                          cases ho
                          go_simp
                          exact hK _ _ ⟨_, _, _, _, _, _, _, _, _, _, _, _, _, rfl, hB, hh0, hh1, hh2, hh3, hh4, hh5, hh6, hh7, hh8, fun _ => rfl, hh10, hh11, hh12, hx0, hx1, hx2, hx3, hx4⟩
                        · -- operation 10
                          cases ho
                          obtain rfl := hh8 (hdep ⟨8, .data⟩ (by simp) rfl)
                          obtain rfl := hh9 (hdep ⟨9, .data⟩ (by simp) rfl)
                          go_simp
                          exact hK _ _ ⟨_, _, _, _, _, _, _, _, _, _, _, _, _, rfl, hB, hh0, hh1, hh2, hh3, hh4, hh5, hh6, hh7, hh8, hh9, fun _ => (by rw [HAQ.out]), hh11, hh12, hx0, hx1, hx2, hx3, hx4⟩
                        · -- operation 11
                          cases ho
                          have hd7 := hdep ⟨7, .data⟩ (by simp) rfl
                          obtain ⟨g9, c9, rfl, oe⟩ := hh7 hd7 hL
                          obtain rfl := hh10 (hdep ⟨10, .data⟩ (by simp) rfl)
                          refine step_append rfl (.tmp 139) (.tmp 142) 50 rfl wi.heap.size 25 j0 (.slice none 0 0) 1 24 Try.underlying50 hj hy0 hy1 hy2 rfl (by decide) _ (at9 + 1) _ rfl oe aq (m - at9) (cp - at9) (xs.drop at9) rfl HT2.out (HN2.out W hB) HO2.out (by unfold maxLen; omega) (by omega) hB.size (fun e => nomatch e) ?_
                          intro g1 cap w9 hown hgr
                          rw [hki] at hown ⊢
                          exact hK _ _ ⟨_, _, _, _, _, _, _, _, _, _, _, _, _, rfl, hB.grown hgr hB.size (fun q e => (oe.lt q e).1), (fun _ q0 => absurd ((show Fl9 4 = false from q0).symm.trans (hx2 hd7)) (by simp)), hh1, hh2, hh3, (fun _ q0 => absurd ((show Fl9 7 = false from q0).symm.trans hd7) (by simp)), hh5, (fun _ q0 => absurd ((show Fl9 7 = false from q0).symm.trans hd7) (by simp)), (fun _ q0 => nomatch q0), hh8, hh9, hh10, fun _ => ⟨_, _, rfl, (hown.lt g1 rfl).1, hown⟩, (fun q0 => absurd (hx4 q0) (by rw [hL]; simp)), hx0, hx1, hx2, fun _ => hd7, fun _ => rfl⟩
                        · -- operation 12
                          cases ho
                          have hd11 := hdep ⟨11, .data⟩ (by simp) rfl
                          obtain ⟨g9, c9, rfl, hg9, ho9⟩ := hh11 hd11
                          go_simp
                          exact hK _ _ ⟨_, _, _, _, _, _, _, _, _, _, _, _, _, rfl, hB, hh0, hh1, hh2, hh3, hh4, hh5, hh6, hh7, hh8, hh9, hh10, hh11, fun _ => ⟨_, _, rfl, hg9, ho9⟩, fun _ => ⟨hdep ⟨1, .phase⟩ (by simp) rfl, hdep ⟨8, .phase⟩ (by simp) rfl⟩, (fun q0 => nomatch q0), hx2, hx3, fun _ => hd11⟩
                      intro Fl9 ac W hJ hall
                      obtain ⟨x132, x133, x134, x135, x136, x137, x138, x139, x140, x141, x142, x143, x5, rfl, hB, hh0, hh1, hh2, hh3, hh4, hh5, hh6, hh7, hh8, hh9, hh10, hh11, hh12, -, -, -, -, -⟩ := hJ
                      obtain rfl := hh1 (hall 1 (by decide))
                      obtain rfl := hh2 (hall 2 (by decide))
                      obtain rfl := hh3 (hall 3 (by decide))
                      obtain rfl := hh5 (hall 5 (by decide))
                      obtain rfl := hh8 (hall 8 (by decide))
                      obtain rfl := hh9 (hall 9 (by decide))
                      obtain rfl := hh10 (hall 10 (by decide))
                      clear hh0
                      clear hh4
                      clear hh6
                      clear hh7
                      clear hh11
                      obtain ⟨gf, cf, rfl, hgf, hof⟩ := hh12 (hall 12 (by decide))
                      clear hall
                      have HBE := Lib.hid hB
                      have HOF := Lib.hid hof
                      clear hof hB HN1 HN2 HO1 HO2 HT1 HT2
                      go_wp2_with fail
                      go_roundw
                      case rel => exact ⟨k + 1, by omega, by go_num, gf, cf, _, by rw [HLEN.out], by rw [rowP, HBAD.out, if_pos rfl, ← List.append_assoc, HPR.out]; exact HPERM.out, HORD.out, Nat.le_trans HBi.out.size hgf, by rw [HLEN.out, HXS.out]; exact own_low HOF.out HBi.out.size, HEI.out.all HBE.out, HBi.out.trans (HBE.out.mono HBi.out.size)⟩
                      case measure => simp [intOf]; omega
                  · have hb1 : (px == di) = false := by simp; omega
                    have r1 : decide (px < di) = false := decide_eq_false (by omega)
                    have r2 := hb1
                    clear hb1
                    have HNL : Hid (at9 < M.length → ¬ ltP ((M.getD at9 noPr).x, (M.getD at9 noPr).y) (di, dk)) := Lib.hid (fun _ => by rw [HPE.out]; exact ltP_no1 h1)
                    clear HLT HNO HPE h1
                    go_wp2_with fail
                    refine wp_region_quiet_below (by kernel_rfl) (by kernel_rfl) ?_
                    repeat (first | go_big_quiet_step (first | fail) | rw [r1] | rw [r2])
                    refine wpQuiet_nil ?_
                    intro _ hw'
                    obtain ⟨⟨dq, osq⟩, hw''⟩ := hw'
                    subst hw''
                    have HBj := Lib.hid (HBi0.out.trans ((below_regrown wr dq osq).mono HBi0.out.size))
                    have HBi := Lib.hid (HBh.out.trans (HBj.out.mono HBh.out.size))
                    have HOWi := Lib.hid (own_below HOWh.out HBj.out)
                    have HEAi := Lib.hid (HEAh.out.all HBj.out)
                    have HBXi := Lib.hid (HBX.out.all HBj.out)
                    obtain ⟨wi, hwi⟩ : ∃ W, grow (redrawn wr dq) osq = W := ⟨_, rfl⟩
                    rw [hwi] at HBi HOWi HEAi HBXi
                    try simp only [hwi]
                    clear hwi HBj HBi0 HBh HOWh HEAh HBX HOWj HEAj HBXj X0 X1 P9 Q0 Q1 r1 r2
                    -- the pair goes in at at9; HNL: what stands there does not stand before it
                    have HPERM := Lib.hid (ordIns_perm HM1.out at9 ⟨gx, di, dk⟩ (di, dk) rfl)
                    have HORD := Lib.hid (ordIns_ord HM2.out at9 ⟨gx, di, dk⟩ (fun j hj => hAll.out j hj) hat HNL.out)
                    have HEI : Hid (EachPr w.heap.size wi (M.take at9 ++ ⟨gx, di, dk⟩ :: M.drop at9)) := Lib.hid (EachPr.ins (by rw [List.take_append_drop]; exact HEAi.out) ⟨by have := hgx; omega, HBXi.out⟩ (by rw [List.take_append_drop]; exact HNE.out))
                    obtain ⟨m, hm9⟩ : ∃ m, M.length = m := ⟨_, rfl⟩
                    have HML := Lib.hid hm9
                    have hcp : m ≤ cp := by
                      rcases HOWi.out.2 with ⟨e, -⟩ | ⟨g', cap', cur, e, -, -, h1, -⟩
                      · cases e
                      · injection e with e1 e2 e3; omega
                    have hX0 : ∀ j u, (M.map valPr)[j]? = some u → wi.cell? ⟨g0, j, none⟩ = some u := fun j u hu => by
                      have hjl := (List.getElem?_eq_some_iff.1 hu).1
                      rw [HOWi.out.cellAt j (by have := HOWi.out.1; omega)]
                      exact hu
                    have HX : Hid (∀ W, Below wi.heap.size wi W → ∀ j u, (M.map valPr)[j]? = some u → W.cell? ⟨g0, j, none⟩ = some u) := Lib.hid (fun W hq j u hu => (hq.cell (p := ⟨g0, j, none⟩) (World.block_lt_of_cell? wi _ (hX0 j u hu))).trans (hX0 j u hu))
                    have HXS : Hid ((M.take at9 ++ (⟨gx, di, dk⟩ : TPr) :: M.drop at9).map valPr = (M.map valPr).take at9 ++ [.slice (some ⟨gx, 0, none⟩) 2 2] ++ (M.map valPr).drop at9) := Lib.hid (by simp [List.map_take, List.map_drop])
                    have HXL : Hid ((M.map valPr).length = m) := Lib.hid (by rw [List.length_map, hm9])
                    have HXO : Hid (∀ u ∈ (M.map valPr), u.oneCell' = true) := Lib.hid (fun u hu => by obtain ⟨q, -, rfl⟩ := List.mem_map.1 hu; rfl)
                    have HLEN : Hid ((M.take at9 ++ (⟨gx, di, dk⟩ : TPr) :: M.drop at9).length = m + 1) := Lib.hid (by simp; omega)
                    rw [hm9] at HOWi hat hM36 ⊢
                    clear hX0 hm9
                    generalize M.map valPr = xs at HX HXS HXL HXO
                    have HT1 : Hid ((xs.take at9).length = at9 * 1) := Lib.hid (by rw [List.length_take, HXL.out]; omega)
                    have HT2 : Hid ((xs.drop at9).length = (m - at9) * 1) := Lib.hid (by rw [List.length_drop, HXL.out]; omega)
                    have HO1 : Hid (∀ u ∈ xs.take at9, u.oneCell' = true) := Lib.hid (fun u hu => HXO.out u (List.mem_of_mem_take hu))
                    have HO2 : Hid (∀ u ∈ xs.drop at9, u.oneCell' = true) := Lib.hid (fun u hu => HXO.out u (List.mem_of_mem_drop hu))
                    have HN1 : Hid (∀ W, Below wi.heap.size wi W → ∀ j u, (xs.take at9)[j]? = some u → W.cell? ((⟨g0, 0, none⟩ : Addr).add j) = some u) := Lib.hid (fun W hq j u hu => by
                      rw [show (⟨g0, 0, none⟩ : Addr).add j = ⟨g0, j, none⟩ from (by unfold Addr.add; split <;> simp_all)]
                      refine HX.out W hq j u ?_
                      rw [List.getElem?_take] at hu
                      split at hu
                      · exact hu
                      · cases hu)
                    obtain ⟨aq, haq⟩ : ∃ aq, (if cp = at9 then some ⟨g0, 0, none⟩ else some ⟨g0, at9, none⟩ : Option Addr) = some aq := by split <;> exact ⟨_, rfl⟩
                    have HAQ := Lib.hid haq
                    have HN2 : Hid (∀ W, Below wi.heap.size wi W → ∀ j u, (xs.drop at9)[j]? = some u → W.cell? (aq.add j) = some u) := Lib.hid (fun W hq j u hu => by
                      have hjl := (List.getElem?_eq_some_iff.1 hu).1
                      rw [List.length_drop, HXL.out] at hjl
                      have haq2 := HAQ.out
                      rw [if_neg (by omega)] at haq2
                      injection haq2 with haq2
                      subst haq2
                      rw [show (⟨g0, at9, none⟩ : Addr).add j = ⟨g0, at9 + j, none⟩ from (by unfold Addr.add; split <;> simp_all)]
                      rw [List.getElem?_drop] at hu
                      exact HX.out W hq (at9 + j) u hu)
                    clear haq
                    have hki : at9 + 1 + (m - at9) = m + 1 := by omega
                    have hk0' : (0 : Int) ≤ (at9 : Int) := by omega
                    have hatm : (at9 : Int) ≤ (m : Int) := by omega
                    have hatc : (at9 : Int) ≤ (cp : Int) := by omega
                    have hmc : (m : Int) ≤ (cp : Int) := by omega
                    clear HM1 HM2 HEAi HBXi HNE HX HXL HXO hAll HOWi
                    go_wp2_with fail
                    refine region_inv (by kernel_rfl) (by kernel_rfl) (fun Fl9 ac W => ∃ (x132 x133 x134 x135 x136 x137 x138 x139 x140 x141 x142 x143 x5 : Value), ac = { tmps := #[Value.slice (some a1) n c, Value.slice (some a2) n c2, undef, undef, Value.slice none 0 0, x5, Value.int IntKind.i64 (i : Int), Value.int IntKind.i64 (k : Int), Value.int IntKind.i64 bz, Value.slice (some ⟨gx, 0, none⟩) 2 2, Value.int IntKind.i64 (at9 : Int), Value.slice (some ⟨w.heap.size, 0, none⟩) 0 0, Value.int IntKind.i64 (i : Int), Value.slice (some a1) n c, Value.int IntKind.i64 (n : Int), Value.bool true, u16, u17, Value.int IntKind.i64 (k : Int), Value.slice (some a1) n c, Value.int IntKind.i64 (n : Int), Value.bool true, u22, u23, Value.slice (some a1) n c, Value.int IntKind.i64 (i : Int), Value.pointer (some (a1.add (i * 3))), Value.pointer (some (a1.add (i * 3))), Value.int IntKind.i64 di, Value.slice (some a1) n c, Value.int IntKind.i64 (k : Int), Value.pointer (some (a1.add (k * 3))), Value.pointer (some (a1.add (k * 3))), Value.int IntKind.i64 dk, Value.bool (decide (dk ≤ di)), Value.slice (some a2) n c2, Value.int IntKind.i64 (k : Int), Value.pointer (some (a2.add k)), Value.int IntKind.i64 ck, Value.slice (some a2) n c2, Value.int IntKind.i64 (i : Int), Value.pointer (some (a2.add i)), Value.int IntKind.i64 ci, Value.int IntKind.i64 (ck - ci), Value.slice (some a1) n c, Value.int IntKind.i64 (i : Int), Value.pointer (some (a1.add (i * 3))), Value.pointer (some ⟨(a1.add (i * 3)).block, (a1.add (i * 3)).off + 1, none⟩), Value.int IntKind.i64 li, Value.int IntKind.i64 (ck - ci - li), Value.slice (some a2) n c2, Value.int IntKind.i64 (i : Int), Value.pointer (some (a2.add i)), Value.int IntKind.i64 ci, Value.slice (some a2) n c2, Value.int IntKind.i64 (k : Int), Value.pointer (some (a2.add k)), Value.int IntKind.i64 ck, Value.int IntKind.i64 (ci - ck), Value.slice (some a1) n c, Value.int IntKind.i64 (k : Int), Value.pointer (some (a1.add (k * 3))), Value.pointer (some ⟨(a1.add (k * 3)).block, (a1.add (k * 3)).off + 1, none⟩), Value.int IntKind.i64 lk, Value.int IntKind.i64 (ci - ck - lk), Value.int IntKind.i64 bz, Value.int IntKind.i64 bz, Value.slice (some a1) n c, Value.int IntKind.i64 (i : Int), Value.pointer (some (a1.add (i * 3))), Value.pointer (some ⟨(a1.add (i * 3)).block, (a1.add (i * 3)).off + 2, none⟩), Value.int IntKind.i64 qi, Value.slice (some a1) n c, Value.int IntKind.i64 (k : Int), Value.pointer (some (a1.add (k * 3))), Value.pointer (some ⟨(a1.add (k * 3)).block, (a1.add (k * 3)).off + 2, none⟩), Value.int IntKind.i64 qk, Value.int IntKind.i64 gz, Value.bool (decide (gz ≤ bz)), Value.slice (some a1) n c, Value.int IntKind.i64 (i : Int), Value.pointer (some (a1.add (i * 3))), Value.pointer (some (a1.add (i * 3))), Value.int IntKind.i64 di, Value.slice (some a1) n c, Value.int IntKind.i64 (k : Int), Value.pointer (some (a1.add (k * 3))), Value.pointer (some (a1.add (k * 3))), Value.int IntKind.i64 dk, x89, Value.int IntKind.i64 (at9 : Int), Value.slice (some ⟨g0, 0, none⟩) m cp, Value.int IntKind.i64 (m : Int), Value.bool true, Value.bool true, Value.slice (some ⟨g0, 0, none⟩) m cp, Value.int IntKind.i64 (at9 : Int), Value.pointer (some ⟨g0, at9, none⟩), Value.slice (some ⟨pg, 0, none⟩) 2 2, Value.pointer (some ⟨pg, 0, none⟩), Value.int IntKind.i64 px, Value.slice (some ⟨gx, 0, none⟩) 2 2, Value.pointer (some ⟨gx, 0, none⟩), Value.int IntKind.i64 di, Value.bool false, Value.bool false, Value.slice (some ⟨g0, 0, none⟩) m cp, Value.int IntKind.i64 (at9 : Int), Value.pointer (some ⟨g0, at9, none⟩), Value.slice (some ⟨pg, 0, none⟩) 2 2, Value.pointer (some ⟨pg, 0, none⟩), Value.int IntKind.i64 px, Value.slice (some ⟨gx, 0, none⟩) 2 2, Value.pointer (some ⟨gx, 0, none⟩), Value.int IntKind.i64 di, Value.bool false, Value.bool false, undef, undef, undef, undef, undef, undef, undef, undef, undef, undef, Value.bool false, Value.bool false, Value.bool false, u130, u131, x132, x133, x134, x135, x136, x137, x138, x139, x140, x141, x142, x143, undef], defers := [] } ∧ Below wi.heap.size wi W ∧
                          (Fl9 0 = true → Fl9 4 = false → ∃ g, x132 = .slice (some ⟨g, 0, none⟩) 0 0 ∧ W.ownsRow wi.heap.size 25 1 (.slice (some ⟨g, 0, none⟩) 0 0) 0 []) ∧
                          (Fl9 1 = true → x133 = .slice (some ⟨g0, 0, none⟩) m cp) ∧
                          (Fl9 2 = true → x134 = .int .i64 (at9 : Int)) ∧
                          (Fl9 3 = true → x135 = .slice (some ⟨g0, 0, none⟩) at9 cp) ∧
                          (Fl9 4 = true → Fl9 7 = false → ∃ g c9, x136 = .slice (some ⟨g, 0, none⟩) at9 c9 ∧ W.ownsRow wi.heap.size 25 1 (.slice (some ⟨g, 0, none⟩) at9 c9) at9 (xs.take at9)) ∧
                          (Fl9 5 = true → x137 = .slice (some ⟨gx, 0, none⟩) 2 2) ∧
                          (Fl9 6 = true → Fl9 7 = false → ∃ g, x138 = .slice (some ⟨g, 0, none⟩) 1 1 ∧ ∀ j u, [Value.slice (some ⟨gx, 0, none⟩) 2 2][j]? = some u → W.cell? ((⟨g, 0, none⟩ : Addr).add j) = some u) ∧
                          (Fl9 7 = true → Fl9 11 = false → ∃ g c9, x139 = .slice (some ⟨g, 0, none⟩) (at9 + 1) c9 ∧ W.ownsRow wi.heap.size 25 1 (.slice (some ⟨g, 0, none⟩) (at9 + 1) c9) (at9 + 1) (xs.take at9 ++ [.slice (some ⟨gx, 0, none⟩) 2 2])) ∧
                          (Fl9 8 = true → x140 = .slice (some ⟨g0, 0, none⟩) m cp) ∧
                          (Fl9 9 = true → x141 = .int .i64 (at9 : Int)) ∧
                          (Fl9 10 = true → x142 = .slice (some aq) (m - at9) (cp - at9)) ∧
                          (Fl9 11 = true → ∃ g c9, x143 = .slice (some ⟨g, 0, none⟩) (m + 1) c9 ∧ wi.heap.size ≤ g ∧ W.ownsRow wi.heap.size 25 1 (.slice (some ⟨g, 0, none⟩) (m + 1) c9) (m + 1) (xs.take at9 ++ [.slice (some ⟨gx, 0, none⟩) 2 2] ++ xs.drop at9)) ∧
                          (Fl9 12 = true → ∃ g c9, x5 = .slice (some ⟨g, 0, none⟩) (m + 1) c9 ∧ wi.heap.size ≤ g ∧ W.ownsRow wi.heap.size 25 1 (.slice (some ⟨g, 0, none⟩) (m + 1) c9) (m + 1) (xs.take at9 ++ [.slice (some ⟨gx, 0, none⟩) 2 2] ++ xs.drop at9)) ∧
                          (Fl9 12 = true → Fl9 1 = true ∧ Fl9 8 = true) ∧
                          (Fl9 12 = false → x5 = .slice (some ⟨g0, 0, none⟩) m cp) ∧
                          (Fl9 7 = true → Fl9 4 = true) ∧
                          (Fl9 11 = true → Fl9 7 = true) ∧
                          (Fl9 12 = true → Fl9 11 = true)) ?_ ?_ ?_
                    · exact ⟨_, _, _, _, _, _, _, _, _, _, _, _, _, rfl, (Drawn.one wi 1).below _, (fun q0 => nomatch q0), (fun q0 => nomatch q0), (fun q0 => nomatch q0), (fun q0 => nomatch q0), (fun q0 => nomatch q0), (fun q0 => nomatch q0), (fun q0 => nomatch q0), (fun q0 => nomatch q0), (fun q0 => nomatch q0), (fun q0 => nomatch q0), (fun q0 => nomatch q0), (fun q0 => nomatch q0), (fun q0 => nomatch q0), (fun q0 => nomatch q0), (fun _ => rfl), (fun q0 => nomatch q0), (fun q0 => nomatch q0), (fun q0 => nomatch q0)⟩
                    · intro Fl9 ac W i9 o9 hJ ho hL hdep K9 hK
                      obtain ⟨x132, x133, x134, x135, x136, x137, x138, x139, x140, x141, x142, x143, x5, rfl, hB, hh0, hh1, hh2, hh3, hh4, hh5, hh6, hh7, hh8, hh9, hh10, hh11, hh12, hx0, hx1, hx2, hx3, hx4⟩ := hJ
                      have hi9 : i9 < 13 := by simpa using (Array.getElem?_eq_some_iff.1 ho).1
                      obtain rfl | rfl | rfl | rfl | rfl | rfl | rfl | rfl | rfl | rfl | rfl | rfl | rfl : i9 = 0 ∨ i9 = 1 ∨ i9 = 2 ∨ i9 = 3 ∨ i9 = 4 ∨ i9 = 5 ∨ i9 = 6 ∨ i9 = 7 ∨ i9 = 8 ∨ i9 = 9 ∨ i9 = 10 ∨ i9 = 11 ∨ i9 = 12 := by omega
                      · -- operation 0
                        cases ho
                        go_simp
                        exact hK _ _ ⟨_, _, _, _, _, _, _, _, _, _, _, _, _, rfl, hB.trans ((Below.alloc (Below.refl W.heap.size W) (Nat.le_refl _) _).mono hB.size), fun _ _ => ⟨_, rfl, own_low (World.ownsRow_made W #[] 0 (Nat.le_refl _) (by unfold maxLen; omega) rfl) hB.size⟩, hh1, hh2, hh3, fun q0 r0 => (fun ⟨g, c9, e, o⟩ => ⟨g, c9, e, own_below o (Below.alloc (Below.refl W.heap.size W) (Nat.le_refl _) _)⟩) (hh4 q0 r0), hh5, fun q0 r0 => (fun ⟨g, e, h⟩ => ⟨g, e, fun j u hu => (Below.cell (Below.alloc (Below.refl W.heap.size W) (Nat.le_refl _) _) (World.block_lt_of_cell? W _ (h j u hu))).trans (h j u hu)⟩) (hh6 q0 r0), fun q0 r0 => (fun ⟨g, c9, e, o⟩ => ⟨g, c9, e, own_below o (Below.alloc (Below.refl W.heap.size W) (Nat.le_refl _) _)⟩) (hh7 q0 r0), hh8, hh9, hh10, fun q0 => (fun ⟨g, c9, e, h, o⟩ => ⟨g, c9, e, h, own_below o (Below.alloc (Below.refl W.heap.size W) (Nat.le_refl _) _)⟩) (hh11 q0), fun q0 => (fun ⟨g, c9, e, h, o⟩ => ⟨g, c9, e, h, own_below o (Below.alloc (Below.refl W.heap.size W) (Nat.le_refl _) _)⟩) (hh12 q0), hx0, hx1, hx2, hx3, hx4⟩
                      · -- operation 1
                        cases ho
                        have hx9 : Fl9 12 = false := by
                          cases hc9 : Fl9 12 with
                          | false => rfl
                          | true => exact absurd (hx0 hc9).1 (by rw [hL]; simp)
                        obtain rfl := hx1 hx9
                        go_simp
                        exact hK _ _ ⟨_, _, _, _, _, _, _, _, _, _, _, _, _, rfl, hB, hh0, fun _ => rfl, hh2, hh3, hh4, hh5, hh6, hh7, hh8, hh9, hh10, hh11, hh12, fun q0 => ⟨rfl, (hx0 q0).2⟩, hx1, hx2, hx3, hx4⟩
                      · -- operation 2
                        cases ho
                        go_simp
                        exact hK _ _ ⟨_, _, _, _, _, _, _, _, _, _, _, _, _, rfl, hB, hh0, hh1, fun _ => rfl, hh3, hh4, hh5, hh6, hh7, hh8, hh9, hh10, hh11, hh12, hx0, hx1, hx2, hx3, hx4⟩
                      · -- operation 3
                        cases ho
                        obtain rfl := hh1 (hdep ⟨1, .data⟩ (by simp) rfl)
                        obtain rfl := hh2 (hdep ⟨2, .data⟩ (by simp) rfl)
                        go_simp
                        exact hK _ _ ⟨_, _, _, _, _, _, _, _, _, _, _, _, _, rfl, hB, hh0, hh1, hh2, fun _ => rfl, hh4, hh5, hh6, hh7, hh8, hh9, hh10, hh11, hh12, hx0, hx1, hx2, hx3, hx4⟩
                      · -- operation 4
                        cases ho
                        have hd0 := hdep ⟨0, .data⟩ (by simp) rfl
                        obtain ⟨g9, rfl, oe⟩ := hh0 hd0 hL
                        obtain rfl := hh3 (hdep ⟨3, .data⟩ (by simp) rfl)
                        refine step_append rfl (.tmp 132) (.tmp 135) 50 rfl wi.heap.size 25 j0 (.slice none 0 0) 1 24 Try.underlying50 hj hy0 hy1 hy2 rfl (by decide) _ 0 _ rfl oe ⟨g0, 0, none⟩ at9 cp (xs.take at9) rfl HT1.out (HN1.out W hB) HO1.out (by unfold maxLen; omega) (by omega) hB.size (fun e => nomatch e) ?_
                        intro g1 cap w9 hown hgr
                        rw [Nat.zero_add, List.nil_append] at hown
                        rw [Nat.zero_add]
                        have keep10 : (∃ g, x138 = .slice (some ⟨g, 0, none⟩) 1 1 ∧ ∀ j u, [Value.slice (some ⟨gx, 0, none⟩) 2 2][j]? = some u → W.cell? ((⟨g, 0, none⟩ : Addr).add j) = some u) → ∃ g, x138 = .slice (some ⟨g, 0, none⟩) 1 1 ∧ ∀ j u, [Value.slice (some ⟨gx, 0, none⟩) 2 2][j]? = some u → w9.cell? ((⟨g, 0, none⟩ : Addr).add j) = some u := fun ⟨gq, e, h⟩ => ⟨gq, e, keep_empty oe hgr h⟩
                        exact hK _ _ ⟨_, _, _, _, _, _, _, _, _, _, _, _, _, rfl, hB.grown hgr hB.size (fun q e => (oe.lt q e).1), (fun _ q0 => nomatch q0), hh1, hh2, hh3, fun _ => fun _ => ⟨_, _, rfl, hown⟩, hh5, (fun q0 r0 => keep10 (hh6 q0 r0)), (fun q0 => absurd (hx2 q0) (by rw [hL]; simp)), hh8, hh9, hh10, (fun q0 => absurd (hx2 (hx3 q0)) (by rw [hL]; simp)), (fun q0 => absurd (hx2 (hx3 (hx4 q0))) (by rw [hL]; simp)), hx0, hx1, fun _ => rfl, hx3, hx4⟩
                      · -- operation 5
                        cases ho
                        go_simp
                        exact hK _ _ ⟨_, _, _, _, _, _, _, _, _, _, _, _, _, rfl, hB, hh0, hh1, hh2, hh3, hh4, fun _ => rfl, hh6, hh7, hh8, hh9, hh10, hh11, hh12, hx0, hx1, hx2, hx3, hx4⟩
                      · -- operation 6
                        cases ho
                        obtain rfl := hh5 (hdep ⟨5, .data⟩ (by simp) rfl)
                        go_simp
                        exact hK _ _ ⟨_, _, _, _, _, _, _, _, _, _, _, _, _, rfl, hB.trans ((Below.alloc (Below.refl W.heap.size W) (Nat.le_refl _) _).mono hB.size), fun q0 r0 => (fun ⟨g, e, o⟩ => ⟨g, e, own_below o (Below.alloc (Below.refl W.heap.size W) (Nat.le_refl _) _)⟩) (hh0 q0 r0), hh1, hh2, hh3, fun q0 r0 => (fun ⟨g, c9, e, o⟩ => ⟨g, c9, e, own_below o (Below.alloc (Below.refl W.heap.size W) (Nat.le_refl _) _)⟩) (hh4 q0 r0), hh5, fun _ _ => ⟨_, rfl, cell_one_new W _ _⟩, fun q0 r0 => (fun ⟨g, c9, e, o⟩ => ⟨g, c9, e, own_below o (Below.alloc (Below.refl W.heap.size W) (Nat.le_refl _) _)⟩) (hh7 q0 r0), hh8, hh9, hh10, fun q0 => (fun ⟨g, c9, e, h, o⟩ => ⟨g, c9, e, h, own_below o (Below.alloc (Below.refl W.heap.size W) (Nat.le_refl _) _)⟩) (hh11 q0), fun q0 => (fun ⟨g, c9, e, h, o⟩ => ⟨g, c9, e, h, own_below o (Below.alloc (Below.refl W.heap.size W) (Nat.le_refl _) _)⟩) (hh12 q0), hx0, hx1, hx2, hx3, hx4⟩
                      · -- operation 7
                        cases ho
                        have hd4 := hdep ⟨4, .data⟩ (by simp) rfl
                        obtain ⟨g9, c9, rfl, oe⟩ := hh4 hd4 hL
                        have hd6 := hdep ⟨6, .data⟩ (by simp) rfl
                        obtain ⟨gn, rfl, hnew⟩ := hh6 hd6 hL
                        refine step_append rfl (.tmp 136) (.tmp 138) 50 rfl wi.heap.size 25 j0 (.slice none 0 0) 1 24 Try.underlying50 hj hy0 hy1 hy2 rfl (by decide) _ at9 _ rfl oe ⟨gn, 0, none⟩ 1 1 [.slice (some ⟨gx, 0, none⟩) 2 2] rfl rfl hnew (by simp [Value.oneCell']) (by unfold maxLen; omega) (by omega) hB.size (fun e => nomatch e) ?_
                        intro g1 cap w9 hown hgr
                        exact hK _ _ ⟨_, _, _, _, _, _, _, _, _, _, _, _, _, rfl, hB.grown hgr hB.size (fun q e => (oe.lt q e).1), (fun _ q0 => absurd ((show Fl9 4 = false from q0).symm.trans hd4) (by simp)), hh1, hh2, hh3, (fun _ q0 => nomatch q0), hh5, (fun _ q0 => nomatch q0), fun _ => fun _ => ⟨_, _, rfl, hown⟩, hh8, hh9, hh10, (fun q0 => absurd (hx3 q0) (by rw [hL]; simp)), (fun q0 => absurd (hx3 (hx4 q0)) (by rw [hL]; simp)), hx0, hx1, fun _ => hd4, fun _ => rfl, hx4⟩
                      · -- operation 8
                        cases ho
                        have hx9 : Fl9 12 = false := by
                          cases hc9 : Fl9 12 with
                          | false => rfl
                          | true => exact absurd (hx0 hc9).2 (by rw [hL]; simp)
                        obtain rfl := hx1 hx9
                        go_simp
                        exact hK _ _ ⟨_, _, _, _, _, _, _, _, _, _, _, _, _, rfl, hB, hh0, hh1, hh2, hh3, hh4, hh5, hh6, hh7, fun _ => rfl, hh9, hh10, hh11, hh12, fun q0 => ⟨(hx0 q0).1, rfl⟩, hx1, hx2, hx3, hx4⟩
                      · -- operation 9
                        cases ho
                        go_simp
                        exact hK _ _ ⟨_, _, _, _, _, _, _, _, _, _, _, _, _, rfl, hB, hh0, hh1, hh2, hh3, hh4, hh5, hh6, hh7, hh8, fun _ => rfl, hh10, hh11, hh12, hx0, hx1, hx2, hx3, hx4⟩
                      · -- operation 10
                        cases ho
                        obtain rfl := hh8 (hdep ⟨8, .data⟩ (by simp) rfl)
                        obtain rfl := hh9 (hdep ⟨9, .data⟩ (by simp) rfl)
                        go_simp
                        exact hK _ _ ⟨_, _, _, _, _, _, _, _, _, _, _, _, _, rfl, hB, hh0, hh1, hh2, hh3, hh4, hh5, hh6, hh7, hh8, hh9, fun _ => (by rw [HAQ.out]), hh11, hh12, hx0, hx1, hx2, hx3, hx4⟩
                      · -- operation 11
                        cases ho
                        have hd7 := hdep ⟨7, .data⟩ (by simp) rfl
                        obtain ⟨g9, c9, rfl, oe⟩ := hh7 hd7 hL
                        obtain rfl := hh10 (hdep ⟨10, .data⟩ (by simp) rfl)
                        refine step_append rfl (.tmp 139) (.tmp 142) 50 rfl wi.heap.size 25 j0 (.slice none 0 0) 1 24 Try.underlying50 hj hy0 hy1 hy2 rfl (by decide) _ (at9 + 1) _ rfl oe aq (m - at9) (cp - at9) (xs.drop at9) rfl HT2.out (HN2.out W hB) HO2.out (by unfold maxLen; omega) (by omega) hB.size (fun e => nomatch e) ?_
                        intro g1 cap w9 hown hgr
                        rw [hki] at hown ⊢
                        exact hK _ _ ⟨_, _, _, _, _, _, _, _, _, _, _, _, _, rfl, hB.grown hgr hB.size (fun q e => (oe.lt q e).1), (fun _ q0 => absurd ((show Fl9 4 = false from q0).symm.trans (hx2 hd7)) (by simp)), hh1, hh2, hh3, (fun _ q0 => absurd ((show Fl9 7 = false from q0).symm.trans hd7) (by simp)), hh5, (fun _ q0 => absurd ((show Fl9 7 = false from q0).symm.trans hd7) (by simp)), (fun _ q0 => nomatch q0), hh8, hh9, hh10, fun _ => ⟨_, _, rfl, (hown.lt g1 rfl).1, hown⟩, (fun q0 => absurd (hx4 q0) (by rw [hL]; simp)), hx0, hx1, hx2, fun _ => hd7, fun _ => rfl⟩
                      · -- operation 12
                        cases ho
                        have hd11 := hdep ⟨11, .data⟩ (by simp) rfl
                        obtain ⟨g9, c9, rfl, hg9, ho9⟩ := hh11 hd11
                        go_simp
                        exact hK _ _ ⟨_, _, _, _, _, _, _, _, _, _, _, _, _, rfl, hB, hh0, hh1, hh2, hh3, hh4, hh5, hh6, hh7, hh8, hh9, hh10, hh11, fun _ => ⟨_, _, rfl, hg9, ho9⟩, fun _ => ⟨hdep ⟨1, .phase⟩ (by simp) rfl, hdep ⟨8, .phase⟩ (by simp) rfl⟩, (fun q0 => nomatch q0), hx2, hx3, fun _ => hd11⟩
                    intro Fl9 ac W hJ hall
                    obtain ⟨x132, x133, x134, x135, x136, x137, x138, x139, x140, x141, x142, x143, x5, rfl, hB, hh0, hh1, hh2, hh3, hh4, hh5, hh6, hh7, hh8, hh9, hh10, hh11, hh12, -, -, -, -, -⟩ := hJ
                    obtain rfl := hh1 (hall 1 (by decide))
                    obtain rfl := hh2 (hall 2 (by decide))
                    obtain rfl := hh3 (hall 3 (by decide))
                    obtain rfl := hh5 (hall 5 (by decide))
                    obtain rfl := hh8 (hall 8 (by decide))
                    obtain rfl := hh9 (hall 9 (by decide))
                    obtain rfl := hh10 (hall 10 (by decide))
                    clear hh0
                    clear hh4
                    clear hh6
                    clear hh7
                    clear hh11
                    obtain ⟨gf, cf, rfl, hgf, hof⟩ := hh12 (hall 12 (by decide))
                    clear hall
                    have HBE := Lib.hid hB
                    have HOF := Lib.hid hof
                    clear hof hB HN1 HN2 HO1 HO2 HT1 HT2
                    go_wp2_with fail
                    go_roundw
                    case rel => exact ⟨k + 1, by omega, by go_num, gf, cf, _, by rw [HLEN.out], by rw [rowP, HBAD.out, if_pos rfl, ← List.append_assoc, HPR.out]; exact HPERM.out, HORD.out, Nat.le_trans HBi.out.size hgf, by rw [HLEN.out, HXS.out]; exact own_low HOF.out HBi.out.size, HEI.out.all HBE.out, HBi.out.trans (HBE.out.mono HBi.out.size)⟩
                    case measure => simp [intOf]; omega
                · have hnl : ¬ ((at9 : Int) < (M.length : Int)) := by omega
                  have HNL : Hid (at9 < M.length → ¬ ltP ((M.getD at9 noPr).x, (M.getD at9 noPr).y) (di, dk)) := Lib.hid (fun h => absurd h hlta)
                  go_wp2_with fail
                  refine wp_region_quiet_below (by kernel_rfl) (by kernel_rfl) ?_
                  repeat (go_big_quiet_step (first | fail))
                  refine wpQuiet_nil ?_
                  intro _ hw'
                  obtain ⟨⟨dq, osq⟩, hw''⟩ := hw'
                  subst hw''
                  have HBj := Lib.hid (HBi0.out.trans ((below_regrown wr dq osq).mono HBi0.out.size))
                  have HBi := Lib.hid (HBh.out.trans (HBj.out.mono HBh.out.size))
                  have HOWi := Lib.hid (own_below HOWh.out HBj.out)
                  have HEAi := Lib.hid (HEAh.out.all HBj.out)
                  have HBXi := Lib.hid (HBX.out.all HBj.out)
                  obtain ⟨wi, hwi⟩ : ∃ W, grow (redrawn wr dq) osq = W := ⟨_, rfl⟩
                  rw [hwi] at HBi HOWi HEAi HBXi
                  try simp only [hwi]
                  clear hwi HBj HBi0 HBh HOWh HEAh HBX HOWj HEAj HBXj X0 X1 
                  -- the pair goes in at at9; HNL: what stands there does not stand before it
                  have HPERM := Lib.hid (ordIns_perm HM1.out at9 ⟨gx, di, dk⟩ (di, dk) rfl)
                  have HORD := Lib.hid (ordIns_ord HM2.out at9 ⟨gx, di, dk⟩ (fun j hj => hAll.out j hj) hat HNL.out)
                  have HEI : Hid (EachPr w.heap.size wi (M.take at9 ++ ⟨gx, di, dk⟩ :: M.drop at9)) := Lib.hid (EachPr.ins (by rw [List.take_append_drop]; exact HEAi.out) ⟨by have := hgx; omega, HBXi.out⟩ (by rw [List.take_append_drop]; exact HNE.out))
                  obtain ⟨m, hm9⟩ : ∃ m, M.length = m := ⟨_, rfl⟩
                  have HML := Lib.hid hm9
                  have hcp : m ≤ cp := by
                    rcases HOWi.out.2 with ⟨e, -⟩ | ⟨g', cap', cur, e, -, -, h1, -⟩
                    · cases e
                    · injection e with e1 e2 e3; omega
                  have hX0 : ∀ j u, (M.map valPr)[j]? = some u → wi.cell? ⟨g0, j, none⟩ = some u := fun j u hu => by
                    have hjl := (List.getElem?_eq_some_iff.1 hu).1
                    rw [HOWi.out.cellAt j (by have := HOWi.out.1; omega)]
                    exact hu
                  have HX : Hid (∀ W, Below wi.heap.size wi W → ∀ j u, (M.map valPr)[j]? = some u → W.cell? ⟨g0, j, none⟩ = some u) := Lib.hid (fun W hq j u hu => (hq.cell (p := ⟨g0, j, none⟩) (World.block_lt_of_cell? wi _ (hX0 j u hu))).trans (hX0 j u hu))
                  have HXS : Hid ((M.take at9 ++ (⟨gx, di, dk⟩ : TPr) :: M.drop at9).map valPr = (M.map valPr).take at9 ++ [.slice (some ⟨gx, 0, none⟩) 2 2] ++ (M.map valPr).drop at9) := Lib.hid (by simp [List.map_take, List.map_drop])
                  have HXL : Hid ((M.map valPr).length = m) := Lib.hid (by rw [List.length_map, hm9])
                  have HXO : Hid (∀ u ∈ (M.map valPr), u.oneCell' = true) := Lib.hid (fun u hu => by obtain ⟨q, -, rfl⟩ := List.mem_map.1 hu; rfl)
                  have HLEN : Hid ((M.take at9 ++ (⟨gx, di, dk⟩ : TPr) :: M.drop at9).length = m + 1) := Lib.hid (by simp; omega)
                  rw [hm9] at HOWi hat hM36 ⊢
                  clear hX0 hm9
                  generalize M.map valPr = xs at HX HXS HXL HXO
                  have HT1 : Hid ((xs.take at9).length = at9 * 1) := Lib.hid (by rw [List.length_take, HXL.out]; omega)
                  have HT2 : Hid ((xs.drop at9).length = (m - at9) * 1) := Lib.hid (by rw [List.length_drop, HXL.out]; omega)
                  have HO1 : Hid (∀ u ∈ xs.take at9, u.oneCell' = true) := Lib.hid (fun u hu => HXO.out u (List.mem_of_mem_take hu))
                  have HO2 : Hid (∀ u ∈ xs.drop at9, u.oneCell' = true) := Lib.hid (fun u hu => HXO.out u (List.mem_of_mem_drop hu))
                  have HN1 : Hid (∀ W, Below wi.heap.size wi W → ∀ j u, (xs.take at9)[j]? = some u → W.cell? ((⟨g0, 0, none⟩ : Addr).add j) = some u) := Lib.hid (fun W hq j u hu => by
                    rw [show (⟨g0, 0, none⟩ : Addr).add j = ⟨g0, j, none⟩ from (by unfold Addr.add; split <;> simp_all)]
                    refine HX.out W hq j u ?_
                    rw [List.getElem?_take] at hu
                    split at hu
                    · exact hu
                    · cases hu)
                  obtain ⟨aq, haq⟩ : ∃ aq, (if cp = at9 then some ⟨g0, 0, none⟩ else some ⟨g0, at9, none⟩ : Option Addr) = some aq := by split <;> exact ⟨_, rfl⟩
                  have HAQ := Lib.hid haq
                  have HN2 : Hid (∀ W, Below wi.heap.size wi W → ∀ j u, (xs.drop at9)[j]? = some u → W.cell? (aq.add j) = some u) := Lib.hid (fun W hq j u hu => by
                    have hjl := (List.getElem?_eq_some_iff.1 hu).1
                    rw [List.length_drop, HXL.out] at hjl
                    have haq2 := HAQ.out
                    rw [if_neg (by omega)] at haq2
                    injection haq2 with haq2
                    subst haq2
                    rw [show (⟨g0, at9, none⟩ : Addr).add j = ⟨g0, at9 + j, none⟩ from (by unfold Addr.add; split <;> simp_all)]
                    rw [List.getElem?_drop] at hu
                    exact HX.out W hq (at9 + j) u hu)
                  clear haq
                  have hki : at9 + 1 + (m - at9) = m + 1 := by omega
                  have hk0' : (0 : Int) ≤ (at9 : Int) := by omega
                  have hatm : (at9 : Int) ≤ (m : Int) := by omega
                  have hatc : (at9 : Int) ≤ (cp : Int) := by omega
                  have hmc : (m : Int) ≤ (cp : Int) := by omega
                  clear HM1 HM2 HEAi HBXi HNE HX HXL HXO hAll HOWi
                  go_wp2_with fail
                  refine region_inv (by kernel_rfl) (by kernel_rfl) (fun Fl9 ac W => ∃ (x132 x133 x134 x135 x136 x137 x138 x139 x140 x141 x142 x143 x5 : Value), ac = { tmps := #[Value.slice (some a1) n c, Value.slice (some a2) n c2, undef, undef, Value.slice none 0 0, x5, Value.int IntKind.i64 (i : Int), Value.int IntKind.i64 (k : Int), Value.int IntKind.i64 bz, Value.slice (some ⟨gx, 0, none⟩) 2 2, Value.int IntKind.i64 (at9 : Int), Value.slice (some ⟨w.heap.size, 0, none⟩) 0 0, Value.int IntKind.i64 (i : Int), Value.slice (some a1) n c, Value.int IntKind.i64 (n : Int), Value.bool true, u16, u17, Value.int IntKind.i64 (k : Int), Value.slice (some a1) n c, Value.int IntKind.i64 (n : Int), Value.bool true, u22, u23, Value.slice (some a1) n c, Value.int IntKind.i64 (i : Int), Value.pointer (some (a1.add (i * 3))), Value.pointer (some (a1.add (i * 3))), Value.int IntKind.i64 di, Value.slice (some a1) n c, Value.int IntKind.i64 (k : Int), Value.pointer (some (a1.add (k * 3))), Value.pointer (some (a1.add (k * 3))), Value.int IntKind.i64 dk, Value.bool (decide (dk ≤ di)), Value.slice (some a2) n c2, Value.int IntKind.i64 (k : Int), Value.pointer (some (a2.add k)), Value.int IntKind.i64 ck, Value.slice (some a2) n c2, Value.int IntKind.i64 (i : Int), Value.pointer (some (a2.add i)), Value.int IntKind.i64 ci, Value.int IntKind.i64 (ck - ci), Value.slice (some a1) n c, Value.int IntKind.i64 (i : Int), Value.pointer (some (a1.add (i * 3))), Value.pointer (some ⟨(a1.add (i * 3)).block, (a1.add (i * 3)).off + 1, none⟩), Value.int IntKind.i64 li, Value.int IntKind.i64 (ck - ci - li), Value.slice (some a2) n c2, Value.int IntKind.i64 (i : Int), Value.pointer (some (a2.add i)), Value.int IntKind.i64 ci, Value.slice (some a2) n c2, Value.int IntKind.i64 (k : Int), Value.pointer (some (a2.add k)), Value.int IntKind.i64 ck, Value.int IntKind.i64 (ci - ck), Value.slice (some a1) n c, Value.int IntKind.i64 (k : Int), Value.pointer (some (a1.add (k * 3))), Value.pointer (some ⟨(a1.add (k * 3)).block, (a1.add (k * 3)).off + 1, none⟩), Value.int IntKind.i64 lk, Value.int IntKind.i64 (ci - ck - lk), Value.int IntKind.i64 bz, Value.int IntKind.i64 bz, Value.slice (some a1) n c, Value.int IntKind.i64 (i : Int), Value.pointer (some (a1.add (i * 3))), Value.pointer (some ⟨(a1.add (i * 3)).block, (a1.add (i * 3)).off + 2, none⟩), Value.int IntKind.i64 qi, Value.slice (some a1) n c, Value.int IntKind.i64 (k : Int), Value.pointer (some (a1.add (k * 3))), Value.pointer (some ⟨(a1.add (k * 3)).block, (a1.add (k * 3)).off + 2, none⟩), Value.int IntKind.i64 qk, Value.int IntKind.i64 gz, Value.bool (decide (gz ≤ bz)), Value.slice (some a1) n c, Value.int IntKind.i64 (i : Int), Value.pointer (some (a1.add (i * 3))), Value.pointer (some (a1.add (i * 3))), Value.int IntKind.i64 di, Value.slice (some a1) n c, Value.int IntKind.i64 (k : Int), Value.pointer (some (a1.add (k * 3))), Value.pointer (some (a1.add (k * 3))), Value.int IntKind.i64 dk, x89, Value.int IntKind.i64 (at9 : Int), Value.slice (some ⟨g0, 0, none⟩) m cp, Value.int IntKind.i64 (m : Int), Value.bool false, Value.bool false, undef, undef, undef, undef, undef, undef, undef, undef, undef, undef, undef, undef, undef, undef, undef, undef, undef, undef, undef, undef, undef, undef, undef, undef, undef, undef, undef, undef, undef, undef, undef, undef, undef, undef, Value.bool false, u130, u131, x132, x133, x134, x135, x136, x137, x138, x139, x140, x141, x142, x143, undef], defers := [] } ∧ Below wi.heap.size wi W ∧
                        (Fl9 0 = true → Fl9 4 = false → ∃ g, x132 = .slice (some ⟨g, 0, none⟩) 0 0 ∧ W.ownsRow wi.heap.size 25 1 (.slice (some ⟨g, 0, none⟩) 0 0) 0 []) ∧
                        (Fl9 1 = true → x133 = .slice (some ⟨g0, 0, none⟩) m cp) ∧
                        (Fl9 2 = true → x134 = .int .i64 (at9 : Int)) ∧
                        (Fl9 3 = true → x135 = .slice (some ⟨g0, 0, none⟩) at9 cp) ∧
                        (Fl9 4 = true → Fl9 7 = false → ∃ g c9, x136 = .slice (some ⟨g, 0, none⟩) at9 c9 ∧ W.ownsRow wi.heap.size 25 1 (.slice (some ⟨g, 0, none⟩) at9 c9) at9 (xs.take at9)) ∧
                        (Fl9 5 = true → x137 = .slice (some ⟨gx, 0, none⟩) 2 2) ∧
                        (Fl9 6 = true → Fl9 7 = false → ∃ g, x138 = .slice (some ⟨g, 0, none⟩) 1 1 ∧ ∀ j u, [Value.slice (some ⟨gx, 0, none⟩) 2 2][j]? = some u → W.cell? ((⟨g, 0, none⟩ : Addr).add j) = some u) ∧
                        (Fl9 7 = true → Fl9 11 = false → ∃ g c9, x139 = .slice (some ⟨g, 0, none⟩) (at9 + 1) c9 ∧ W.ownsRow wi.heap.size 25 1 (.slice (some ⟨g, 0, none⟩) (at9 + 1) c9) (at9 + 1) (xs.take at9 ++ [.slice (some ⟨gx, 0, none⟩) 2 2])) ∧
                        (Fl9 8 = true → x140 = .slice (some ⟨g0, 0, none⟩) m cp) ∧
                        (Fl9 9 = true → x141 = .int .i64 (at9 : Int)) ∧
                        (Fl9 10 = true → x142 = .slice (some aq) (m - at9) (cp - at9)) ∧
                        (Fl9 11 = true → ∃ g c9, x143 = .slice (some ⟨g, 0, none⟩) (m + 1) c9 ∧ wi.heap.size ≤ g ∧ W.ownsRow wi.heap.size 25 1 (.slice (some ⟨g, 0, none⟩) (m + 1) c9) (m + 1) (xs.take at9 ++ [.slice (some ⟨gx, 0, none⟩) 2 2] ++ xs.drop at9)) ∧
                        (Fl9 12 = true → ∃ g c9, x5 = .slice (some ⟨g, 0, none⟩) (m + 1) c9 ∧ wi.heap.size ≤ g ∧ W.ownsRow wi.heap.size 25 1 (.slice (some ⟨g, 0, none⟩) (m + 1) c9) (m + 1) (xs.take at9 ++ [.slice (some ⟨gx, 0, none⟩) 2 2] ++ xs.drop at9)) ∧
                        (Fl9 12 = true → Fl9 1 = true ∧ Fl9 8 = true) ∧
                        (Fl9 12 = false → x5 = .slice (some ⟨g0, 0, none⟩) m cp) ∧
                        (Fl9 7 = true → Fl9 4 = true) ∧
                        (Fl9 11 = true → Fl9 7 = true) ∧
                        (Fl9 12 = true → Fl9 11 = true)) ?_ ?_ ?_
                  · exact ⟨_, _, _, _, _, _, _, _, _, _, _, _, _, rfl, (Drawn.one wi 1).below _, (fun q0 => nomatch q0), (fun q0 => nomatch q0), (fun q0 => nomatch q0), (fun q0 => nomatch q0), (fun q0 => nomatch q0), (fun q0 => nomatch q0), (fun q0 => nomatch q0), (fun q0 => nomatch q0), (fun q0 => nomatch q0), (fun q0 => nomatch q0), (fun q0 => nomatch q0), (fun q0 => nomatch q0), (fun q0 => nomatch q0), (fun q0 => nomatch q0), (fun _ => rfl), (fun q0 => nomatch q0), (fun q0 => nomatch q0), (fun q0 => nomatch q0)⟩
                  · intro Fl9 ac W i9 o9 hJ ho hL hdep K9 hK
                    obtain ⟨x132, x133, x134, x135, x136, x137, x138, x139, x140, x141, x142, x143, x5, rfl, hB, hh0, hh1, hh2, hh3, hh4, hh5, hh6, hh7, hh8, hh9, hh10, hh11, hh12, hx0, hx1, hx2, hx3, hx4⟩ := hJ
                    have hi9 : i9 < 13 := by simpa using (Array.getElem?_eq_some_iff.1 ho).1
                    obtain rfl | rfl | rfl | rfl | rfl | rfl | rfl | rfl | rfl | rfl | rfl | rfl | rfl : i9 = 0 ∨ i9 = 1 ∨ i9 = 2 ∨ i9 = 3 ∨ i9 = 4 ∨ i9 = 5 ∨ i9 = 6 ∨ i9 = 7 ∨ i9 = 8 ∨ i9 = 9 ∨ i9 = 10 ∨ i9 = 11 ∨ i9 = 12 := by omega
                    · -- operation 0
                      cases ho
                      go_simp
                      exact hK _ _ ⟨_, _, _, _, _, _, _, _, _, _, _, _, _, rfl, hB.trans ((Below.alloc (Below.refl W.heap.size W) (Nat.le_refl _) _).mono hB.size), fun _ _ => ⟨_, rfl, own_low (World.ownsRow_made W #[] 0 (Nat.le_refl _) (by unfold maxLen; omega) rfl) hB.size⟩, hh1, hh2, hh3, fun q0 r0 => (fun ⟨g, c9, e, o⟩ => ⟨g, c9, e, own_below o (Below.alloc (Below.refl W.heap.size W) (Nat.le_refl _) _)⟩) (hh4 q0 r0), hh5, fun q0 r0 => (fun ⟨g, e, h⟩ => ⟨g, e, fun j u hu => (Below.cell (Below.alloc (Below.refl W.heap.size W) (Nat.le_refl _) _) (World.block_lt_of_cell? W _ (h j u hu))).trans (h j u hu)⟩) (hh6 q0 r0), fun q0 r0 => (fun ⟨g, c9, e, o⟩ => ⟨g, c9, e, own_below o (Below.alloc (Below.refl W.heap.size W) (Nat.le_refl _) _)⟩) (hh7 q0 r0), hh8, hh9, hh10, fun q0 => (fun ⟨g, c9, e, h, o⟩ => ⟨g, c9, e, h, own_below o (Below.alloc (Below.refl W.heap.size W) (Nat.le_refl _) _)⟩) (hh11 q0), fun q0 => (fun ⟨g, c9, e, h, o⟩ => ⟨g, c9, e, h, own_below o (Below.alloc (Below.refl W.heap.size W) (Nat.le_refl _) _)⟩) (hh12 q0), hx0, hx1, hx2, hx3, hx4⟩
                    · -- operation 1
                      cases ho
                      have hx9 : Fl9 12 = false := by
                        cases hc9 : Fl9 12 with
                        | false => rfl
                        | true => exact absurd (hx0 hc9).1 (by rw [hL]; simp)
                      obtain rfl := hx1 hx9
                      go_simp
                      exact hK _ _ ⟨_, _, _, _, _, _, _, _, _, _, _, _, _, rfl, hB, hh0, fun _ => rfl, hh2, hh3, hh4, hh5, hh6, hh7, hh8, hh9, hh10, hh11, hh12, fun q0 => ⟨rfl, (hx0 q0).2⟩, hx1, hx2, hx3, hx4⟩
                    · -- operation 2
                      cases ho
                      go_simp
                      exact hK _ _ ⟨_, _, _, _, _, _, _, _, _, _, _, _, _, rfl, hB, hh0, hh1, fun _ => rfl, hh3, hh4, hh5, hh6, hh7, hh8, hh9, hh10, hh11, hh12, hx0, hx1, hx2, hx3, hx4⟩
                    · -- operation 3
                      cases ho
                      obtain rfl := hh1 (hdep ⟨1, .data⟩ (by simp) rfl)
                      obtain rfl := hh2 (hdep ⟨2, .data⟩ (by simp) rfl)
                      go_simp
                      exact hK _ _ ⟨_, _, _, _, _, _, _, _, _, _, _, _, _, rfl, hB, hh0, hh1, hh2, fun _ => rfl, hh4, hh5, hh6, hh7, hh8, hh9, hh10, hh11, hh12, hx0, hx1, hx2, hx3, hx4⟩
                    · -- operation 4
                      cases ho
                      have hd0 := hdep ⟨0, .data⟩ (by simp) rfl
                      obtain ⟨g9, rfl, oe⟩ := hh0 hd0 hL
                      obtain rfl := hh3 (hdep ⟨3, .data⟩ (by simp) rfl)
                      refine step_append rfl (.tmp 132) (.tmp 135) 50 rfl wi.heap.size 25 j0 (.slice none 0 0) 1 24 Try.underlying50 hj hy0 hy1 hy2 rfl (by decide) _ 0 _ rfl oe ⟨g0, 0, none⟩ at9 cp (xs.take at9) rfl HT1.out (HN1.out W hB) HO1.out (by unfold maxLen; omega) (by omega) hB.size (fun e => nomatch e) ?_
                      intro g1 cap w9 hown hgr
                      rw [Nat.zero_add, List.nil_append] at hown
                      rw [Nat.zero_add]
                      have keep10 : (∃ g, x138 = .slice (some ⟨g, 0, none⟩) 1 1 ∧ ∀ j u, [Value.slice (some ⟨gx, 0, none⟩) 2 2][j]? = some u → W.cell? ((⟨g, 0, none⟩ : Addr).add j) = some u) → ∃ g, x138 = .slice (some ⟨g, 0, none⟩) 1 1 ∧ ∀ j u, [Value.slice (some ⟨gx, 0, none⟩) 2 2][j]? = some u → w9.cell? ((⟨g, 0, none⟩ : Addr).add j) = some u := fun ⟨gq, e, h⟩ => ⟨gq, e, keep_empty oe hgr h⟩
                      exact hK _ _ ⟨_, _, _, _, _, _, _, _, _, _, _, _, _, rfl, hB.grown hgr hB.size (fun q e => (oe.lt q e).1), (fun _ q0 => nomatch q0), hh1, hh2, hh3, fun _ => fun _ => ⟨_, _, rfl, hown⟩, hh5, (fun q0 r0 => keep10 (hh6 q0 r0)), (fun q0 => absurd (hx2 q0) (by rw [hL]; simp)), hh8, hh9, hh10, (fun q0 => absurd (hx2 (hx3 q0)) (by rw [hL]; simp)), (fun q0 => absurd (hx2 (hx3 (hx4 q0))) (by rw [hL]; simp)), hx0, hx1, fun _ => rfl, hx3, hx4⟩
                    · -- operation 5
                      cases ho
                      go_simp
                      exact hK _ _ ⟨_, _, _, _, _, _, _, _, _, _, _, _, _, rfl, hB, hh0, hh1, hh2, hh3, hh4, fun _ => rfl, hh6, hh7, hh8, hh9, hh10, hh11, hh12, hx0, hx1, hx2, hx3, hx4⟩
                    · -- operation 6
                      cases ho
                      obtain rfl := hh5 (hdep ⟨5, .data⟩ (by simp) rfl)
                      go_simp
                      exact hK _ _ ⟨_, _, _, _, _, _, _, _, _, _, _, _, _, rfl, hB.trans ((Below.alloc (Below.refl W.heap.size W) (Nat.le_refl _) _).mono hB.size), fun q0 r0 => (fun ⟨g, e, o⟩ => ⟨g, e, own_below o (Below.alloc (Below.refl W.heap.size W) (Nat.le_refl _) _)⟩) (hh0 q0 r0), hh1, hh2, hh3, fun q0 r0 => (fun ⟨g, c9, e, o⟩ => ⟨g, c9, e, own_below o (Below.alloc (Below.refl W.heap.size W) (Nat.le_refl _) _)⟩) (hh4 q0 r0), hh5, fun _ _ => ⟨_, rfl, cell_one_new W _ _⟩, fun q0 r0 => (fun ⟨g, c9, e, o⟩ => ⟨g, c9, e, own_below o (Below.alloc (Below.refl W.heap.size W) (Nat.le_refl _) _)⟩) (hh7 q0 r0), hh8, hh9, hh10, fun q0 => (fun ⟨g, c9, e, h, o⟩ => ⟨g, c9, e, h, own_below o (Below.alloc (Below.refl W.heap.size W) (Nat.le_refl _) _)⟩) (hh11 q0), fun q0 => (fun ⟨g, c9, e, h, o⟩ => ⟨g, c9, e, h, own_below o (Below.alloc (Below.refl W.heap.size W) (Nat.le_refl _) _)⟩) (hh12 q0), hx0, hx1, hx2, hx3, hx4⟩
                    · -- operation 7
                      cases ho
                      have hd4 := hdep ⟨4, .data⟩ (by simp) rfl
                      obtain ⟨g9, c9, rfl, oe⟩ := hh4 hd4 hL
                      have hd6 := hdep ⟨6, .data⟩ (by simp) rfl
                      obtain ⟨gn, rfl, hnew⟩ := hh6 hd6 hL
                      refine step_append rfl (.tmp 136) (.tmp 138) 50 rfl wi.heap.size 25 j0 (.slice none 0 0) 1 24 Try.underlying50 hj hy0 hy1 hy2 rfl (by decide) _ at9 _ rfl oe ⟨gn, 0, none⟩ 1 1 [.slice (some ⟨gx, 0, none⟩) 2 2] rfl rfl hnew (by simp [Value.oneCell']) (by unfold maxLen; omega) (by omega) hB.size (fun e => nomatch e) ?_
                      intro g1 cap w9 hown hgr
                      exact hK _ _ ⟨_, _, _, _, _, _, _, _, _, _, _, _, _, rfl, hB.grown hgr hB.size (fun q e => (oe.lt q e).1), (fun _ q0 => absurd ((show Fl9 4 = false from q0).symm.trans hd4) (by simp)), hh1, hh2, hh3, (fun _ q0 => nomatch q0), hh5, (fun _ q0 => nomatch q0), fun _ => fun _ => ⟨_, _, rfl, hown⟩, hh8, hh9, hh10, (fun q0 => absurd (hx3 q0) (by rw [hL]; simp)), (fun q0 => absurd (hx3 (hx4 q0)) (by rw [hL]; simp)), hx0, hx1, fun _ => hd4, fun _ => rfl, hx4⟩
                    · -- operation 8
                      cases ho
                      have hx9 : Fl9 12 = false := by
                        cases hc9 : Fl9 12 with
                        | false => rfl
                        | true => exact absurd (hx0 hc9).2 (by rw [hL]; simp)
                      obtain rfl := hx1 hx9
                      go_simp
                      exact hK _ _ ⟨_, _, _, _, _, _, _, _, _, _, _, _, _, rfl, hB, hh0, hh1, hh2, hh3, hh4, hh5, hh6, hh7, fun _ => rfl, hh9, hh10, hh11, hh12, fun q0 => ⟨(hx0 q0).1, rfl⟩, hx1, hx2, hx3, hx4⟩
                    · -- operation 9
                      cases ho
                      go_simp
                      exact hK _ _ ⟨_, _, _, _, _, _, _, _, _, _, _, _, _, rfl, hB, hh0, hh1, hh2, hh3, hh4, hh5, hh6, hh7, hh8, fun _ => rfl, hh10, hh11, hh12, hx0, hx1, hx2, hx3, hx4⟩
                    · -- operation 10
                      cases ho
                      obtain rfl := hh8 (hdep ⟨8, .data⟩ (by simp) rfl)
                      obtain rfl := hh9 (hdep ⟨9, .data⟩ (by simp) rfl)
                      go_simp
                      exact hK _ _ ⟨_, _, _, _, _, _, _, _, _, _, _, _, _, rfl, hB, hh0, hh1, hh2, hh3, hh4, hh5, hh6, hh7, hh8, hh9, fun _ => (by rw [HAQ.out]), hh11, hh12, hx0, hx1, hx2, hx3, hx4⟩
                    · -- operation 11
                      cases ho
                      have hd7 := hdep ⟨7, .data⟩ (by simp) rfl
                      obtain ⟨g9, c9, rfl, oe⟩ := hh7 hd7 hL
                      obtain rfl := hh10 (hdep ⟨10, .data⟩ (by simp) rfl)
                      refine step_append rfl (.tmp 139) (.tmp 142) 50 rfl wi.heap.size 25 j0 (.slice none 0 0) 1 24 Try.underlying50 hj hy0 hy1 hy2 rfl (by decide) _ (at9 + 1) _ rfl oe aq (m - at9) (cp - at9) (xs.drop at9) rfl HT2.out (HN2.out W hB) HO2.out (by unfold maxLen; omega) (by omega) hB.size (fun e => nomatch e) ?_
                      intro g1 cap w9 hown hgr
                      rw [hki] at hown ⊢
                      exact hK _ _ ⟨_, _, _, _, _, _, _, _, _, _, _, _, _, rfl, hB.grown hgr hB.size (fun q e => (oe.lt q e).1), (fun _ q0 => absurd ((show Fl9 4 = false from q0).symm.trans (hx2 hd7)) (by simp)), hh1, hh2, hh3, (fun _ q0 => absurd ((show Fl9 7 = false from q0).symm.trans hd7) (by simp)), hh5, (fun _ q0 => absurd ((show Fl9 7 = false from q0).symm.trans hd7) (by simp)), (fun _ q0 => nomatch q0), hh8, hh9, hh10, fun _ => ⟨_, _, rfl, (hown.lt g1 rfl).1, hown⟩, (fun q0 => absurd (hx4 q0) (by rw [hL]; simp)), hx0, hx1, hx2, fun _ => hd7, fun _ => rfl⟩
                    · -- operation 12
                      cases ho
                      have hd11 := hdep ⟨11, .data⟩ (by simp) rfl
                      obtain ⟨g9, c9, rfl, hg9, ho9⟩ := hh11 hd11
                      go_simp
                      exact hK _ _ ⟨_, _, _, _, _, _, _, _, _, _, _, _, _, rfl, hB, hh0, hh1, hh2, hh3, hh4, hh5, hh6, hh7, hh8, hh9, hh10, hh11, fun _ => ⟨_, _, rfl, hg9, ho9⟩, fun _ => ⟨hdep ⟨1, .phase⟩ (by simp) rfl, hdep ⟨8, .phase⟩ (by simp) rfl⟩, (fun q0 => nomatch q0), hx2, hx3, fun _ => hd11⟩
                  intro Fl9 ac W hJ hall
                  obtain ⟨x132, x133, x134, x135, x136, x137, x138, x139, x140, x141, x142, x143, x5, rfl, hB, hh0, hh1, hh2, hh3, hh4, hh5, hh6, hh7, hh8, hh9, hh10, hh11, hh12, -, -, -, -, -⟩ := hJ
                  obtain rfl := hh1 (hall 1 (by decide))
                  obtain rfl := hh2 (hall 2 (by decide))
                  obtain rfl := hh3 (hall 3 (by decide))
                  obtain rfl := hh5 (hall 5 (by decide))
                  obtain rfl := hh8 (hall 8 (by decide))
                  obtain rfl := hh9 (hall 9 (by decide))
                  obtain rfl := hh10 (hall 10 (by decide))
                  clear hh0
                  clear hh4
                  clear hh6
                  clear hh7
                  clear hh11
                  obtain ⟨gf, cf, rfl, hgf, hof⟩ := hh12 (hall 12 (by decide))
                  clear hall
                  have HBE := Lib.hid hB
                  have HOF := Lib.hid hof
                  clear hof hB HN1 HN2 HO1 HO2 HT1 HT2
                  go_wp2_with fail
                  go_roundw
                  case rel => exact ⟨k + 1, by omega, by go_num, gf, cf, _, by rw [HLEN.out], by rw [rowP, HBAD.out, if_pos rfl, ← List.append_assoc, HPR.out]; exact HPERM.out, HORD.out, Nat.le_trans HBi.out.size hgf, by rw [HLEN.out, HXS.out]; exact own_low HOF.out HBi.out.size, HEI.out.all HBE.out, HBi.out.trans (HBE.out.mono HBi.out.size)⟩
                  case measure => simp [intOf]; omega
            · have HNX := Lib.hid (HPs.out.no (by rw [HBAD1.out]; exact decide_eq_false (fun h => hgap h.2)))
              have hgap2 : gz ≤ bz := by omega
              clear HBAD1
              go_wp2_with fail
              refine wp_region_quiet_below (by kernel_rfl) (by kernel_rfl) ?_
              repeat (go_big_quiet_step (first | exact c1 _ _))
              refine wpQuiet_nil ?_
              intro _ hw'
              obtain ⟨⟨dq, osq⟩, hw''⟩ := hw'
              subst hw''
              have HBt := Lib.hid (HBs.out.trans ((below_regrown wd dq osq).mono HBs.out.size))
              have HPt := Lib.hid (HNX.out.below (below_regrown wd dq osq))
              clear V2 U2 c1 HPs HOWs HEAs HBs
              go_wp2_with fail
              go_roundw
              case rel => exact ⟨k + 1, by omega, by go_num, HPt.out⟩
              case measure => simp [intOf]; omega
          · have hid2 : dk ≤ di := by omega
            have HNX := Lib.hid (HP.out.no (by rw [HBAD1.out]; exact decide_eq_false (fun h => hid h.1)))
            clear HBAD1 HM1 HM2 HOW HEA HP
            go_wp2_with fail
            refine wp_region_quiet_below (by kernel_rfl) (by kernel_rfl) ?_
            repeat (go_big_quiet_step (first | fail))
            refine wpQuiet_nil ?_
            intro _ hw'
            obtain ⟨⟨dq, osq⟩, hw''⟩ := hw'
            subst hw''
            have HBr := Lib.hid (HBw.out.trans ((below_regrown wr dq osq).mono HBw.out.size))
            have HPt := Lib.hid (HNX.out.below (below_regrown wr dq osq))
            clear V0 U0 HBw HNX
            go_wp2_with fail
            go_roundw
            case rel => exact ⟨k + 1, by omega, by go_num, HPt.out⟩
            case measure => simp [intOf]; omega
        · obtain rfl : k = n := by omega
          have HPN := Lib.hid hP.next
          clear hP
          go_wp2_with fail
          go_roundw
          case rel => exact ⟨i + 1, by omega, by go_num, HPN.out⟩
          case measure => simp [intOf]; omega
    · obtain rfl : i = n := by omega
      clear HI H2 HG HC CG CM
      go_wp2_with fail
      go_ret
      exact ⟨_, rfl, hP⟩
end Go.Proofs.Ytgnopkemcgbedab
