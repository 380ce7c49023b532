/- Chapter 7: vessels placed in a row: the model and the program. -/
import Derived.Test.YtgnopkemcgbedabDgC
import Derived.Test.YtgnopkemcgbedabInv
namespace Go.Proofs.Ytgnopkemcgbedab
open Go.RowKit Go.PlainAid Go.Sort
set_option linter.unusedVariables false
set_option linter.unusedSimpArgs false
attribute [local go_sem] ite_mx7 ite_mx

/-- The call hands back a row of its own with these integers. -/
def OwnZ (w w' : World) (L : List Int) (n : Nat) (v : Value) : Prop :=
  ∃ g c, v = .slice (some ⟨g, 0, none⟩) n c ∧ w.heap.size ≤ g ∧ w'.ownsRow w.heap.size 3 1 (.slice (some ⟨g, 0, none⟩) n c) n (L.map (.int .i64)) ∧ Below w.heap.size w w'
theorem OwnZ.below {w w' W : World} {L : List Int} {n : Nat} {v : Value} (h : OwnZ w w' L n v) (hb : Go.RowKit.Below w'.heap.size w' W) : OwnZ w W L n v := by
  obtain ⟨g, c, rfl, h1, h2, h3⟩ := h
  exact ⟨g, c, rfl, h1, own_below h2 hb, h3.trans (hb.mono h3.size)⟩
theorem OwnZ.low {w w' : World} {L : List Int} {n : Nat} {v : Value} (h : OwnZ w w' L n v) : Go.RowKit.Below w.heap.size w w' := by
  obtain ⟨g, c, rfl, h1, h2, h3⟩ := h
  exact h3
theorem OwnZ.base {w0 w w' : World} {L : List Int} {n : Nat} {v : Value} (h : OwnZ w w' L n v) (hb : Go.RowKit.Below w0.heap.size w0 w) : OwnZ w0 w' L n v := by
  obtain ⟨g, c, rfl, h1, h2, h3⟩ := h
  exact ⟨g, c, rfl, Nat.le_trans hb.size h1, own_low h2 hb.size, hb.trans (h3.mono hb.size)⟩
theorem OwnZ.nil {w w0 : World} (hb : Below w.heap.size w w0) : OwnZ w (w0.alloc (.cells #[] 3)) [] 0 (.slice (some ⟨w0.heap.size, 0, none⟩) 0 0) :=
  ⟨w0.heap.size, 0, rfl, hb.size, own_low (World.ownsRow_made w0 #[] 0 (Nat.le_refl _) (by unfold maxLen; omega) rfl) hb.size, hb.alloc hb.size _⟩
theorem own_cell {w : World} {base g n c : Nat} {L : List Int} (h : w.ownsRow base 3 1 (.slice (some ⟨g, 0, none⟩) n c) n (L.map (.int .i64))) {k : Nat} (hk : k < n) : w.cell? ⟨g, k, none⟩ = some (.int .i64 (L.getD k 0)) := by
  have hl : L.length = n := by have := h.1; simpa using this
  rw [h.cellAt k (by omega)]
  simp [List.getD_eq_getElem?_getD, hl, hk]
theorem plc_map (vs : List TCargo) (k : Nat) (z : Int) (h : (plc vs (k + 1)).getD k 0 = z) : (plc vs (k + 1)).map (Value.int .i64) = (plc vs k).map (.int .i64) ++ [.int .i64 z] := by
  rw [plc_top] at h
  rw [plc, List.map_append, h]
  rfl

set_option maxRecDepth 100000 in
set_option maxHeartbeats 2000000 in
theorem l7Place_any {w : World} {B : Nat} {A : Option Addr} {n : Nat} {vs : List TCargo} (c : Nat) (h : IsCargos w B A n vs) (hn : n ≤ 6) (hg : ∀ j, j < n → goodC (vs.getD j noCargo)) :
    Calls Try.prog 77 #[.slice A n c] w fun e w' => ∃ v, e = .returned (.tuple #[v, .int .i64 (extK vs n)]) ∧ OwnZ w w' (plc vs n) n v := by
  obtain ⟨i0, hi, hz0, hz1, hz2⟩ := info_parts Try.infoInt'
  have CG := Lib.hid (fun (x y : Int) (hx : 0 ≤ x ∧ x ≤ 3) (hy : 0 ≤ y ∧ y ≤ 3) (W : World) => toBelow (l7Gap_any x y W hx hy))
  have CM := Lib.hid (fun (x y : Int) (W : World) => toBelow (l1Most_any x y W))
  have HI := Lib.hid h
  have HG := Lib.hid hg
  have P1 := Lib.hid (OwnZ.nil (Below.refl w.heap.size w))
  clear h hg
  go_enter Try.func77, Try.ntmps77
  go_wp2_with fail
  go_loopw [4, 5, 6] (fun v z i wr => ∃ k : Nat, k ≤ n ∧ i = .int .i64 k ∧ z = .int .i64 (extK vs k) ∧ OwnZ w wr (plc vs k) k v) (fun _ _ i _ => n - (intOf i).toNat)
  case atStart => exact ⟨0, Nat.zero_le _, rfl, rfl, P1.out⟩
  case round =>
    clear P1
    obtain ⟨k, hk, rfl, rfl, hO⟩ := hrel
    by_cases hlt : k < n
    · obtain ⟨g0, cp, rfl, hg0, hown, hb⟩ := hO
      have hkl : k < vs.length := by rw [HI.out.len]; exact hlt
      obtain ⟨a1, rfl, hab, HV⟩ := (HI.out.below hb HI.out.low).has.Cargo hkl
      have hgk := HG.out k hlt
      have hbd := extK_bd (vs := vs) (k := k) (fun j hj => HG.out j (by omega))
      have HSS := Lib.hid (start_same (vs := vs) (k := k) (fun j hj => HG.out j (by omega)) hgk.2.2)
      have HPM := Lib.hid (plc_map vs k)
      have HPT := Lib.hid (plc_top vs k)
      have HEX : Hid (extK vs (k + 1) = (plc vs (k + 1)).getD k 0 + (vs.getD k noCargo).x1) := Lib.hid rfl
      obtain ⟨V, hV⟩ : ∃ V, vs.getD k noCargo = V := ⟨_, rfl⟩
      rw [hV] at HV hgk HSS HPT HEX
      have HVK := Lib.hid (fun W (hb : Below w.heap.size w W) => (HI.out.below hb HI.out.low).has.Cargo hkl)
      rw [hV] at HVK
      clear hV HV
      obtain ⟨d, l, q3⟩ := V
      dsimp only at hgk HSS HPT HEX
      obtain ⟨hg1, hg2, hg3⟩ := hgk
      have HOW := Lib.hid hown
      have HB := Lib.hid hb
      have hk0 : (0 : Int) ≤ (k : Int) := by omega
      have hk1 : (k : Int) < (n : Int) := by omega
      obtain ⟨s0, hs0⟩ : ∃ s, extK vs k = s := ⟨_, rfl⟩
      rw [hs0] at hbd HSS ⊢
      clear hs0 hown hb
      have hs6 : s0 ≤ 78 := by omega
      go_wp2_with fail
      obtain ⟨wo, hwo⟩ : ∃ W, wr = W := ⟨_, rfl⟩
      rw [hwo] at HOW HB
      subst hwo
      have HBO := Lib.hid (Below.refl wr.heap.size wr)
      obtain ⟨wo, hwo⟩ : ∃ W, W = wr := ⟨_, rfl⟩
      have HOW' : Hid (wo.ownsRow w.heap.size 3 1 (.slice (some ⟨g0, 0, none⟩) k cp) k ((plc vs k).map (.int .i64))) := by rw [hwo]; exact HOW
      have HB' : Hid (Below w.heap.size w wo) := by rw [hwo]; exact HB
      have HBO' : Below wo.heap.size wo wr := by rw [hwo]; exact HBO.out
      clear HOW HB HBO hwo
      go_loopw [7, 8] (fun z j wr => ∃ q : Nat, q ≤ k ∧ j = .int .i64 q ∧ z = .int .i64 (mxAt vs (plc vs k) q3 s0 q) ∧ Below wo.heap.size wo wr) (fun _ j _ => k - (intOf j).toNat)
      case atStart => exact ⟨0, Nat.zero_le _, rfl, rfl, HBO'⟩
      case round =>
        clear HBO'
        obtain ⟨q, hq, rfl, rfl, hb⟩ := hrel
        have HBQ := Lib.hid hb
        have HBW := Lib.hid (HB'.out.trans (hb.mono HB'.out.size))
        have HOWQ := Lib.hid (own_below HOW'.out hb)
        by_cases hqk : q < k
        · have hql : q < vs.length := by omega
          obtain ⟨a2, ea2, -, HV2⟩ := (HI.out.below HBW.out HI.out.low).has.Cargo hql
          injection ea2 with ea2
          subst ea2
          obtain ⟨a2, ea2, -, HVk⟩ := HVK.out _ HBW.out
          injection ea2 with ea2
          subst ea2
          have hcell := own_cell HOWQ.out hqk
          have hbo := plc_bd (vs := vs) (k := k) (fun j hj => HG.out j (by omega)) q hqk
          have hgq := HG.out q (by omega)
          have HMX : Hid (mxAt vs (plc vs k) q3 s0 (q + 1) = max (mxAt vs (plc vs k) q3 s0 q) ((plc vs k).getD q 0 + (vs.getD q noCargo).x1 + gapZ (vs.getD q noCargo).x2 q3)) := Lib.hid rfl
          generalize mxAt vs (plc vs k) q3 s0 q = mx at HMX ⊢
          generalize (plc vs k).getD q 0 = o at hcell hbo HMX
          generalize vs.getD q noCargo = U at HV2 hgq HMX
          obtain ⟨ud, ul, uq⟩ := U
          obtain ⟨u0, u1, u2⟩ := HV2
          have v2 := HVk.c2
          dsimp only at u0 u1 u2 v2 hgq HMX
          obtain ⟨hq1, hq2, hq3⟩ := hgq
          have C1 := Lib.hid (fun W => CG.out uq q3 hq3 hg3 W)
          have hgb := gap_bd hq3 hg3
          generalize gapZ uq q3 = gz at C1 hgb HMX
          have C2 := Lib.hid (fun W => CM.out mx (o + ul + gz) W)
          have c1 := fun (dr : Nat) (os : Array Obj) => Calls.regrown_of (w := wr) (d := dr) (os := os) (C1.out _)
          have c2 := fun (dr : Nat) (os : Array Obj) => Calls.regrown_of (w := wr) (d := dr) (os := os) (C2.out _)
          have U1 := fun (d : Nat) (os : Array Obj) => cell_regrown u1 d os
          have U2 := fun (d : Nat) (os : Array Obj) => cell_regrown u2 d os
          have V2 := fun (d : Nat) (os : Array Obj) => cell_regrown v2 d os
          have O1 := fun (d : Nat) (os : Array Obj) => cell_regrown hcell d os
          have hq0 : (0 : Int) ≤ (q : Int) := by omega
          have hqk1 : (q : Int) < (k : Int) := by omega
          have hqn1 : (q : Int) < (n : Int) := by omega
          have ho6 : o ≤ 78 := by omega
          clear hb u0 u1 u2 v2 hcell HVk C1 C2 HVK HSS HPM HPT HEX
          go_wp2_with fail
          refine wp_region_quiet_below (by kernel_rfl) (by kernel_rfl) ?_
          repeat (go_big_quiet_step (first | exact c1 _ _ | exact c2 _ _))
          refine wpQuiet_nil ?_
          intro _ hw'
          obtain ⟨⟨dq, osq⟩, hw''⟩ := hw'
          subst hw''
          have HBX := Lib.hid (HBQ.out.trans ((below_regrown wr dq osq).mono HBQ.out.size))
          clear U1 U2 V2 O1 c1 c2
          go_wp2_with fail
          go_roundw
          case rel => exact ⟨q + 1, by omega, by go_num, by rw [HMX.out], HBX.out⟩
          case measure => simp [intOf]; omega
        · obtain rfl : q = k := by omega
          have hz : mxAt vs (plc vs q) q3 s0 q = (plc vs (q + 1)).getD q 0 := by rw [HSS.out, HPT.out]
          rw [hz]
          have hbo := plc_bd (vs := vs) (k := q + 1) (fun j hj => HG.out j (by omega)) q (by omega)
          have HPZ := Lib.hid (HPM.out _ rfl)
          generalize (plc vs (q + 1)).getD q 0 = z at hbo HEX HPZ ⊢
          obtain ⟨a2, ea2, -, HVk⟩ := HVK.out _ HBW.out
          injection ea2 with ea2
          subst ea2
          have v1 := HVk.c1
          dsimp only at v1
          have hown := HOWQ.out
          have hbw := HBW.out
          have hz6 : z ≤ 78 := by omega
          have hlq := World.block_lt_of_cell? _ _ v1
          clear hb HVk HSS HPM HPT hz HOW' HOWQ HB' HBQ HBW
          go_wp2_with (at_builtin; refine wpList_append_own _ rfl (.tmp 46) (.tmp 48) 25 rfl w.heap.size 3 i0 (.int .i64 0) 1 8 Try.underlying25 hi hz0 hz1 hz2 rfl (by decide) (.slice (some ⟨g0, 0, none⟩) (q) cp) (q) _ rfl (hown.alloc _) ⟨wr.heap.size, 0, none⟩ 1 1 [.int .i64 z] rfl rfl (cell_one_new _ _ _) (by simp [Value.oneCell']) (by unfold maxLen; omega) (by omega) (by have := (hbw).size; simp; omega) ?_; intro v1 w1 hown1 hgrow1 hnil1; obtain ⟨g1, c1, rfl, hg1⟩ := own_some hown1 (fun e => nomatch (hnil1.1 e).1); have hb1 := ((hbw).alloc (hbw).size (.cells #[.int .i64 z] 3)).grown hgrow1 (by have := (hbw).size; simp; omega) (fun q hq => by cases hq; assumption); obtain ⟨a3, ea3, -, HV3⟩ := HVK.out _ hb1; injection ea3 with ea3; subst ea3; have v1' := HV3.c1; dsimp only at v1'; clear hnil1 hgrow1 hown v1)
          go_roundw
          case rel => exact ⟨q + 1, by omega, by go_num, by rw [HEX.out], g1, c1, rfl, hg1, by rw [HPZ.out]; exact hown1, hb1⟩
          case measure => simp [intOf]; omega
    · obtain rfl : k = n := by omega
      go_wp2_with fail
      refine bodyPost_ret (results_tmp2 rfl _ _ _) rfl ?_
      exact ⟨_, rfl, hO⟩
/-- What PlaceRow answers. -/
def PlaceA (vs : List TCargo) (L : List Int) (x : Bool) : Prop := (gCs vs = true → L = plc vs vs.length ∧ x = true) ∧ (gCs vs = false → L = [] ∧ x = false)
theorem placeA_ex (vs : List TCargo) : ∃ L x, PlaceA vs L x := by
  cases e : gCs vs with
  | true => exact ⟨_, true, fun _ => ⟨rfl, rfl⟩, fun h => (by rw [e] at h; cases h)⟩
  | false => exact ⟨[], false, fun h => (by rw [e] at h; cases h), fun _ => ⟨rfl, rfl⟩⟩
theorem PlaceA.len {vs : List TCargo} {L : List Int} {x : Bool} (h : PlaceA vs L x) : L.length ≤ 6 := by
  cases e : gCs vs with
  | true => rw [(h.1 e).1, plc_len]; exact ((gCs_iff vs).1 e).1
  | false => rw [(h.2 e).1]; simp
/-- What RowExtent answers. -/
def ExtA (vs : List TCargo) (z : Int) (x : Bool) : Prop := (gCs vs = true → z = ext vs ∧ x = true) ∧ (gCs vs = false → z = 0 ∧ x = false)
theorem extA_ex (vs : List TCargo) : ∃ z x, ExtA vs z x := by
  cases e : gCs vs with
  | true => exact ⟨_, true, fun _ => ⟨rfl, rfl⟩, fun h => (by rw [e] at h; cases h)⟩
  | false => exact ⟨0, false, fun h => (by rw [e] at h; cases h), fun _ => ⟨rfl, rfl⟩⟩
/-- A row of integers of its own, and b. -/
def GivesZ (w : World) (L : List Int) (m : Nat) (x : Bool) (e : Ending) (w' : World) : Prop :=
  ∃ g c', e = .returned (.tuple #[.slice (some ⟨g, 0, none⟩) m c', .bool x]) ∧ w'.ownsRow w.heap.size 3 1 (.slice (some ⟨g, 0, none⟩) m c') m (L.map (.int .i64)) ∧ Below w.heap.size w w'
theorem OwnZ.gives {w w' : World} {L : List Int} {n : Nat} {v : Value} (h : OwnZ w w' L n v) (x : Bool) : GivesZ w L n x (.returned (.tuple #[v, .bool x])) w' := by
  obtain ⟨g, c, rfl, h1, h2, h3⟩ := h
  exact ⟨g, c, rfl, h2, h3⟩

set_option maxHeartbeats 2000000 in
theorem placeS_any {w : World} {B : Nat} {A : Option Addr} {n : Nat} {vs : List TCargo} (c : Nat) (h : IsCargos w B A n vs) (hm : n ≤ 1048576) (hnc : n ≤ c) (L : List Int) (x : Bool) (hA : PlaceA vs L x) (m : Nat) (hl : L.length = m) :
    Calls Try.prog 31 #[.slice A n c] w (GivesZ w L m x) := by
  have C := Lib.hid (l7Good_any c h (Nat.le_trans hm (by unfold maxLen; omega)))
  have HI := Lib.hid h
  have HNO := Lib.hid hA.2
  have HYES := Lib.hid hA.1
  have HM := Lib.hid hl
  obtain ⟨G, hG⟩ : ∃ G, gCs vs = G := ⟨_, rfl⟩
  rw [hG] at HNO HYES C
  have HGE := Lib.hid hG
  clear h hA hG hl
  go_enter Try.func31, Try.ntmps31
  go_wp2_with fail
  refine C.out.mono ?_
  rintro e w1 ⟨rfl, hb⟩
  have HB1 := Lib.hid hb
  clear hb C
  cases G with
  | false =>
    obtain ⟨rfl, rfl⟩ := HNO.out rfl
    obtain rfl : 0 = m := HM.out
    clear HNO HYES
    go_wp2_with fail
    refine bodyPost_ret (results_tmp2 rfl _ _ _) rfl ?_
    exact (OwnZ.nil HB1.out).gives false
  | true =>
  obtain ⟨hL, rfl⟩ := HYES.out rfl
  have hgg := (gCs_iff vs).1 HGE.out
  have hn6 : n ≤ 6 := by rw [← HI.out.len]; exact hgg.1
  have HG := Lib.hid (fun j (hj : j < n) => good_at hgg (k := j) (by rw [HI.out.len]; exact hj))
  rw [HI.out.len] at hL
  obtain rfl : n = m := by rw [← HM.out, hL, plc_len]
  have HL := Lib.hid hL
  clear HNO HYES hgg HM HGE hL
  have CP := Lib.hid (l7Place_any c (HI.out.below HB1.out HI.out.low) hn6 HG.out)
  go_wp2_with fail
  refine CP.out.mono ?_
  rintro e w2 ⟨v, rfl, hO⟩
  have HO := Lib.hid (hO.base HB1.out)
  clear hO CP HB1
  go_wp2_with fail
  refine bodyPost_ret (results_tmp2 rfl _ _ _) rfl ?_
  rw [HL.out]
  exact HO.out.gives true
set_option maxRecDepth 100000 in
set_option maxHeartbeats 2000000 in
theorem placeI_any {w : World} {B : Nat} {A : Option Addr} {n : Nat} {vs : List TCargo} (c : Nat) (h : IsCargos w B A n vs) (hm : n ≤ 1048576) (hnc : n ≤ c) (L : List Int) (x : Bool) (hA : PlaceA vs L x) (m : Nat) (hl : L.length = m) :
    Calls Try.prog 29 #[.slice A n c] w (GivesZ w L m x) := by
  obtain ⟨i0, hi, hz0, hz1, hz2⟩ := info_parts Try.infoInt'
  have C := Lib.hid (isCargoList_any c h (Nat.le_trans hm (by unfold maxLen; omega)) hnc)
  have CG := Lib.hid (fun (a0 a1 a2 b0 b1 b2 : Int) (hx : 0 ≤ a2 ∧ a2 ≤ 3) (hy : 0 ≤ b2 ∧ b2 ≤ 3) (W : World) => gapOf_any a0 a1 a2 b0 b1 b2 W hx hy)
  have HI := Lib.hid h
  have HNO := Lib.hid hA.2
  have HYES := Lib.hid hA.1
  have HM := Lib.hid hl
  obtain ⟨G, hG⟩ : ∃ G, gCs vs = G := ⟨_, rfl⟩
  rw [hG] at HNO HYES C
  have HGE := Lib.hid hG
  clear h hA hG hl
  go_enter Try.func29, Try.ntmps29
  go_wp2_with fail
  refine C.out.mono ?_
  rintro e w1 ⟨rfl, hb⟩
  have HB1 := Lib.hid hb
  clear hb C
  cases G with
  | false =>
    obtain ⟨rfl, rfl⟩ := HNO.out rfl
    obtain rfl : 0 = m := HM.out
    clear HNO HYES
    go_wp2_with fail
    refine bodyPost_ret (results_tmp2 rfl _ _ _) rfl ?_
    exact (OwnZ.nil HB1.out).gives false
  | true =>
  obtain ⟨hL, rfl⟩ := HYES.out rfl
  have hgg := (gCs_iff vs).1 HGE.out
  have hn6 : n ≤ 6 := by rw [← HI.out.len]; exact hgg.1
  have HG := Lib.hid (fun j (hj : j < n) => good_at hgg (k := j) (by rw [HI.out.len]; exact hj))
  rw [HI.out.len] at hL
  obtain rfl : n = m := by rw [← HM.out, hL, plc_len]
  have HL := Lib.hid hL
  clear HNO HYES hgg HM HGE hL
  have P1 := Lib.hid (OwnZ.nil HB1.out)
  clear HB1
  go_wp2_with fail
  go_loopw [4, 17] (fun v i wr => ∃ k : Nat, k ≤ n ∧ i = .int .i64 k ∧ OwnZ w wr (plc vs k) k v) (fun _ i _ => n - (intOf i).toNat)
  case atStart => exact ⟨0, Nat.zero_le _, rfl, P1.out⟩
  case round =>
    clear P1
    obtain ⟨k, hk, rfl, hO⟩ := hrel
    by_cases hlt : k < n
    · obtain ⟨g0, cp, rfl, hg0, hown, hb⟩ := hO
      have hkl : k < vs.length := by rw [HI.out.len]; exact hlt
      obtain ⟨a1, rfl, hab, HV⟩ := (HI.out.below hb HI.out.low).has.Cargo hkl
      have hgk := HG.out k hlt
      have HPM := Lib.hid (plc_map vs k)
      have HPT := Lib.hid (plc_top vs k)
      obtain ⟨V, hV⟩ : ∃ V, vs.getD k noCargo = V := ⟨_, rfl⟩
      rw [hV] at HV hgk HPT
      clear hV
      obtain ⟨d, l, q3⟩ := V
      obtain ⟨e0, e1, e2⟩ := HV
      dsimp only at hgk HPT e0 e1 e2
      obtain ⟨hg1, hg2, hg3⟩ := hgk
      have HOW := Lib.hid hown
      have HB := Lib.hid hb
      have hk0 : (0 : Int) ≤ (k : Int) := by omega
      have hk1 : (k : Int) < (n : Int) := by omega
      have hkc : (k : Int) ≤ (c : Int) := by omega
      clear hown hb
      go_wp2_with fail
      obtain ⟨wo, hW5⟩ : ∃ W, World.alloc wr (.cells #[.int .i64 d, .int .i64 l, .int .i64 q3] 54) = W := ⟨_, rfl⟩
      obtain ⟨xb, hxb⟩ : ∃ x, (wr : World).heap.size = x := ⟨_, rfl⟩
      have cx0 : wo.cell? ⟨xb, 0, none⟩ = some (.int .i64 d) := by rw [← hW5, ← hxb, sNew]; rfl
      have cx1 : wo.cell? ⟨xb, 1, none⟩ = some (.int .i64 l) := by rw [← hW5, ← hxb, sNew]; rfl
      have cx2 : wo.cell? ⟨xb, 2, none⟩ = some (.int .i64 q3) := by rw [← hW5, ← hxb, sNew]; rfl
      have hbwo : Below wr.heap.size wr wo := by rw [← hW5]; exact below1 _ _
      have HBo := Lib.hid (HB.out.trans (hbwo.mono HB.out.size))
      have hxl := World.block_lt_of_cell? wo _ cx0
      rw [hW5, hxb]
      clear hW5 hxb
      have HOWo := Lib.hid (own_below HOW.out hbwo)
      have HXC := Lib.hid (fun W (hq : Below wo.heap.size wo W) => show W.cell? ⟨xb, 0, none⟩ = some (.int .i64 d) ∧ W.cell? ⟨xb, 1, none⟩ = some (.int .i64 l) ∧ W.cell? ⟨xb, 2, none⟩ = some (.int .i64 q3) from ⟨(hq.cell hxl).trans cx0, (hq.cell (p := ⟨xb, 1, none⟩) hxl).trans cx1, (hq.cell (p := ⟨xb, 2, none⟩) hxl).trans cx2⟩)
      clear e0 e1 e2 cx0 cx1 cx2 HOW HB hbwo
      have hkz : (k : Int).toNat = k := by omega
      go_loopw [7, 26] (fun z j wr => ∃ q : Nat, q ≤ k ∧ j = .int .i64 q ∧ z = .int .i64 (mxAt vs (plc vs k) q3 0 q) ∧ Below wo.heap.size wo wr) (fun _ j _ => k - (intOf j).toNat)
      case atStart => exact ⟨0, Nat.zero_le _, rfl, rfl, Below.refl _ _⟩
      case round =>
        obtain ⟨q, hq, rfl, rfl, hb⟩ := hrel
        have HBQ := Lib.hid hb
        have HBW := Lib.hid (HBo.out.trans (hb.mono HBo.out.size))
        have HOWQ := Lib.hid (own_below HOWo.out hb)
        by_cases hqk : q < k
        · have hql : q < vs.length := by omega
          obtain ⟨a2, ea2, -, HV2⟩ := (HI.out.below HBW.out HI.out.low).has.Cargo hql
          injection ea2 with ea2
          subst ea2
          have hcell := own_cell HOWQ.out hqk
          have hbo := plc_bd (vs := vs) (k := k) (fun j hj => HG.out j (by omega)) q hqk
          have hgq := HG.out q (by omega)
          have HMX : Hid (mxAt vs (plc vs k) q3 0 (q + 1) = max (mxAt vs (plc vs k) q3 0 q) ((plc vs k).getD q 0 + (vs.getD q noCargo).x1 + gapZ (vs.getD q noCargo).x2 q3)) := Lib.hid rfl
          generalize mxAt vs (plc vs k) q3 0 q = mx at HMX ⊢
          generalize (plc vs k).getD q 0 = o at hcell hbo HMX
          generalize vs.getD q noCargo = U at HV2 hgq HMX
          obtain ⟨ud, ul, uq⟩ := U
          obtain ⟨u0, u1, u2⟩ := HV2
          dsimp only at u0 u1 u2 hgq HMX
          obtain ⟨hq1, hq2, hq3⟩ := hgq
          have C1 := Lib.hid (fun W => CG.out ud ul uq d l q3 hq3 hg3 W)
          have hgb := gap_bd hq3 hg3
          generalize gapZ uq q3 = gz at C1 hgb HMX
          have hq0 : (0 : Int) ≤ (q : Int) := by omega
          have hqk1 : (q : Int) < (k : Int) := by omega
          have hqn1 : (q : Int) < (n : Int) := by omega
          have ho6 : o ≤ 78 := by omega
          clear hb HPM HPT
          go_wp2_with fail
          obtain ⟨wi, hW5⟩ : ∃ W, World.alloc wr (.cells #[.int .i64 ud, .int .i64 ul, .int .i64 uq] 54) = W := ⟨_, rfl⟩
          obtain ⟨xi, hxb⟩ : ∃ x, (wr : World).heap.size = x := ⟨_, rfl⟩
          have cx0 : wi.cell? ⟨xi, 0, none⟩ = some (.int .i64 ud) := by rw [← hW5, ← hxb, sNew]; rfl
          have cx1 : wi.cell? ⟨xi, 1, none⟩ = some (.int .i64 ul) := by rw [← hW5, ← hxb, sNew]; rfl
          have cx2 : wi.cell? ⟨xi, 2, none⟩ = some (.int .i64 uq) := by rw [← hW5, ← hxb, sNew]; rfl
          have hbwo : Below wr.heap.size wr wi := by rw [← hW5]; exact below1 _ _
          have HBi := Lib.hid (HBQ.out.trans (hbwo.mono HBQ.out.size))
          have hxl := World.block_lt_of_cell? wi _ cx0
          rw [hW5, hxb]
          clear hW5 hxb
          obtain ⟨x0, x1, x2⟩ := HXC.out _ HBi.out
          have hcell3 : wi.cell? ⟨g0, q, none⟩ = some (.int .i64 o) := by rw [World.cell?_of_block (a := ⟨g0, q, none⟩) (hbwo.block g0 (World.block_lt_of_cell? _ _ hcell))]; exact hcell
          have c1 := fun (dr : Nat) (os : Array Obj) => Calls.regrown_of (w := wi) (d := dr) (os := os) (C1.out _)
          have X0 := fun (d : Nat) (os : Array Obj) => cell_regrown x0 d os
          have X1 := fun (d : Nat) (os : Array Obj) => cell_regrown x1 d os
          have X2 := fun (d : Nat) (os : Array Obj) => cell_regrown x2 d os
          have U0 := fun (d : Nat) (os : Array Obj) => cell_regrown cx0 d os
          have U1 := fun (d : Nat) (os : Array Obj) => cell_regrown cx1 d os
          have U2 := fun (d : Nat) (os : Array Obj) => cell_regrown cx2 d os
          have O1 := fun (d : Nat) (os : Array Obj) => cell_regrown hcell3 d os
          clear x0 x1 x2 cx0 cx1 cx2 hcell hcell3 hbwo hxl u0 u1 u2 C1 HBQ HBW HOWQ
          go_wp2_with fail
          refine wp_region_quiet_below (by kernel_rfl) (by kernel_rfl) ?_
          repeat (go_big_quiet_step (first | exact c1 _ _))
          refine wpQuiet_nil ?_
          intro _ hw'
          obtain ⟨⟨dq, osq⟩, hw''⟩ := hw'
          subst hw''
          have HBX := Lib.hid (HBi.out.trans ((below_regrown wi dq osq).mono HBi.out.size))
          clear U0 U1 U2 X0 X1 X2 O1 c1
          go_wp2_with fail
          go_roundw
          case rel => exact ⟨q + 1, by omega, by go_num, by rw [HMX.out], HBX.out⟩
          case measure => simp [intOf]; omega
        · obtain rfl : q = k := by omega
          have hz : mxAt vs (plc vs q) q3 0 q = (plc vs (q + 1)).getD q 0 := by rw [HPT.out]
          rw [hz]
          have HPZ := Lib.hid (HPM.out _ rfl)
          generalize (plc vs (q + 1)).getD q 0 = z at HPZ ⊢
          have hown := HOWQ.out
          have hbw := HBW.out
          clear hb HPM HPT hz HOWo HOWQ HBo HBQ HBW HXC hxl
          go_wp2_with (at_builtin; refine wpList_append_own _ rfl (.tmp 45) (.tmp 47) 25 rfl w.heap.size 3 i0 (.int .i64 0) 1 8 Try.underlying25 hi hz0 hz1 hz2 rfl (by decide) (.slice (some ⟨g0, 0, none⟩) (q) cp) (q) _ rfl (hown.alloc _) ⟨wr.heap.size, 0, none⟩ 1 1 [.int .i64 z] rfl rfl (cell_one_new _ _ _) (by simp [Value.oneCell']) (by unfold maxLen; omega) (by omega) (by have := (hbw).size; simp; omega) ?_; intro v1 w1 hown1 hgrow1 hnil1; obtain ⟨g1, c1, rfl, hg1⟩ := own_some hown1 (fun e => nomatch (hnil1.1 e).1); have hb1 := ((hbw).alloc (hbw).size (.cells #[.int .i64 z] 3)).grown hgrow1 (by have := (hbw).size; simp; omega) (fun q hq => by cases hq; assumption); clear hnil1 hgrow1 hown)
          go_roundw
          case rel => exact ⟨q + 1, by omega, by go_num, g1, c1, rfl, hg1, by rw [HPZ.out]; exact hown1, hb1⟩
          case measure => simp [intOf]; omega
    · obtain rfl : k = n := by omega
      go_wp2_with fail
      refine bodyPost_ret (results_tmp2 rfl _ _ _) rfl ?_
      rw [HL.out]
      exact hO.gives true
end Go.Proofs.Ytgnopkemcgbedab
