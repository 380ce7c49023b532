/- Chapter 12: an hour's cost, plans, their levels and their cost: the program. -/
import Derived.Test.YtdjoiodkmanacaaPuD
namespace Go.Proofs.Ytdjoiodkmanacaa
open Go.RowKit Go.PlainAid Go.Sort
set_option linter.unusedVariables false
set_option linter.unusedSimpArgs false

theorem andnU_zero {x : Int} (h : 0 ≤ x ∧ x ≤ 3) : andnU x 0 = x := by rcases four_of h with rfl | rfl | rfl | rfl <;> rfl
set_option maxRecDepth 100000 in
set_option maxHeartbeats 1000000 in
theorem started_any {w : World} {B : Nat} {G : Option Addr} {l : Nat} {xs : List Int} (cx : Nat) (h : IsIs w B G l xs) (hl : l ≤ 1048576) (hin : ∀ j, 0 ≤ xs.getD j 0 ∧ xs.getD j 0 ≤ 3) (k : Nat) (hk : k < l) :
    Calls Try.prog 70 #[.slice G l cx, .int .i64 k] w fun e w' => e = .returned (.int .i64 (andnU (xs.getD k 0) (prevU xs k))) ∧ Below w.heap.size w w' := by
  obtain ⟨aI, rfl, hab, ez⟩ := h.has.numAt (k := k) (by rw [h.len]; exact hk)
  have hx := hin k
  have hk0 : (0 : Int) ≤ (k : Int) := by omega
  have hk1 : (k : Int) < (l : Int) := by omega
  cases k with
  | zero =>
    have HE : Hid (andnU (xs.getD 0 0) (prevU xs 0) = xs.getD 0 0) := Lib.hid (andnU_zero hx)
    rw [HE.out]
    generalize xs.getD 0 0 = x at ez hx ⊢
    clear HE h
    replace ez : w.cell? aI = some (.int .i64 x) := by simpa [Addr.add] using ez
    go_enter Try.func70, Try.ntmps70
    go_wp2_with fail
    go_ret
    exact ⟨rfl, Below.refl _ _⟩
  | succ j =>
    obtain ⟨a2, ea, hab2, ey⟩ := h.has.numAt (k := j) (by rw [h.len]; omega)
    injection ea with ea
    subst ea
    have hy := hin j
    have HE : Hid (andnU (xs.getD (j + 1) 0) (prevU xs (j + 1)) = andnU (xs.getD (j + 1) 0) (xs.getD j 0)) := Lib.hid rfl
    rw [HE.out]
    have hbn := bit_not hx hy
    rw [addFormS _ _ (by omega)] at ez
    generalize andnU (xs.getD (j + 1) 0) (xs.getD j 0) = z at hbn ⊢
    generalize xs.getD (j + 1) 0 = x at ez hx hbn ⊢
    generalize xs.getD j 0 = y at ey hy hbn ⊢
    have E0 := fun (d : Nat) (os : Array Obj) => cell_regrown ez d os
    have E1 := fun (d : Nat) (os : Array Obj) => cell_regrown ey d os
    have HB0 := Lib.hid (Below.refl w.heap.size w)
    have hj0 : (0 : Int) ≤ (j : Int) := by omega
    have hj1 : (j : Int) < (l : Int) := by omega
    have hne : (((j : Int) + 1) == 0) = false := by simp; omega
    have hsub : ((j : Int) + 1) - 1 = (j : Int) := by omega
    push_cast at hk0 hk1 ⊢
    clear HE h
    go_enter Try.func70, Try.ntmps70
    go_wp2_with fail
    refine wp_region_quiet_below (by kernel_rfl) (by kernel_rfl) ?_
    repeat (go_big_quiet_step (first | fail))
    refine wpQuiet_nil ?_
    intro _ hw'
    obtain ⟨⟨dq, osq⟩, hw''⟩ := hw'
    subst hw''
    have HB6 := Lib.hid (HB0.out.trans ((below_regrown w dq osq).mono HB0.out.size))
    clear E0 E1 hbn
    go_wp2_with fail
    go_ret
    exact ⟨rfl, HB6.out⟩
set_option maxRecDepth 100000 in
set_option maxHeartbeats 2000000 in
theorem costHour_any {w : World} {B : Nat} {A D : Option Addr} {n m : Nat} {zs : List Int} {vs : List TPump} (a b c : Int) (q r : Nat) (h : IsTs w B A n zs D m vs) (hg : goodT ⟨a, b, c, zs, vs⟩) {BG : Nat} {G : Option Addr} {l : Nat} {xs : List Int} (cx : Nat) (hp : IsIs w BG G l xs) (hl : l ≤ 1048576) (hin : ∀ j, 0 ≤ xs.getD j 0 ∧ xs.getD j 0 ≤ 3) (k : Nat) (hk : k < l) :
    Calls Try.prog 67 #[.agg #[.int .i64 a, .int .i64 b, .int .i64 c, .slice A n q, .slice D m r], .slice G l cx, .int .i64 k] w fun e w' => e = .returned (.int .i64 (hcU ⟨a, b, c, zs, vs⟩ (xs.getD k 0) (prevU xs k))) ∧ Below w.heap.size w w' := by
  obtain ⟨W5, hW5, X5, B5, z5⟩ := box_in w a b c A n q D m r
  have cT0 := X5.c0
  have cT1 := X5.c1
  have cT2 := X5.c2
  have cT3 := X5.c3
  have cT4 := X5.c4
  have HB5 := Lib.hid B5
  have HX5 := Lib.hid X5
  have h5 := h.upB B5
  have hp5 := hp.upB B5
  have hm2 : m ≤ 2 := by rw [← h.pumps.len]; exact hg.2.2.1
  obtain ⟨aI, rfl, hab, ez⟩ := hp5.has.numAt (k := k) (by rw [hp5.len]; exact hk)
  have hlen : m ≤ vs.length := by rw [h5.pumps.len]; exact Nat.le_refl _
  have hx := hin k
  have hs1 := sumU_bd hg.2.2.2.2 TPump.x1_bdU (xs.getD k 0) m hlen
  have hs2 := sumU_bd hg.2.2.2.2 TPump.x2_bdU (andnU (xs.getD k 0) (prevU xs k)) m hlen
  have hE : hcU ⟨a, b, c, zs, vs⟩ (xs.getD k 0) (prevU xs k) = sumU TPump.x1 vs (xs.getD k 0) m + sumU TPump.x2 vs (andnU (xs.getD k 0) (prevU xs k)) m := by unfold hcU; dsimp only; rw [h.pumps.len]
  rw [hE]
  have k1 := fun (dr : Nat) (os : Array Obj) => Calls.regrown_of (w := W5) (d := dr) (os := os) (sumC_any (w := grow (redrawn W5 dr) os) a b c A n q r (h5.pumps.below (below_regrown W5 dr os) h5.low) hm2 hg.2.2.2.2 _ hx)
  have k2 := fun (dr : Nat) (os : Array Obj) => Calls.regrown_of (w := W5) (d := dr) (os := os) (started_any (w := grow (redrawn W5 dr) os) cx (hp5.below (below_regrown W5 dr os) hp5.low) hl hin k hk)
  have k3 := fun (dr : Nat) (os : Array Obj) => Calls.regrown_of (w := W5) (d := dr) (os := os) (sumS_any (w := grow (redrawn W5 dr) os) a b c A n q r (h5.pumps.below (below_regrown W5 dr os) h5.low) hm2 hg.2.2.2.2 (andnU (xs.getD k 0) (prevU xs k)) (andnU_bd _ _))
  have E0 := fun (d : Nat) (os : Array Obj) => cell_regrown cT0 d os
  have E1 := fun (d : Nat) (os : Array Obj) => cell_regrown cT1 d os
  have E2 := fun (d : Nat) (os : Array Obj) => cell_regrown cT2 d os
  have E3 := fun (d : Nat) (os : Array Obj) => cell_regrown cT3 d os
  have E4 := fun (d : Nat) (os : Array Obj) => cell_regrown cT4 d os
  have EZ := fun (d : Nat) (os : Array Obj) => cell_regrown ez d os
  have hk0 : (0 : Int) ≤ (k : Int) := by omega
  have hk1 : (k : Int) < (l : Int) := by omega
  generalize andnU (xs.getD k 0) (prevU xs k) = y at *
  generalize xs.getD k 0 = x at *
  generalize sumU TPump.x1 vs x m = S1 at *
  generalize sumU TPump.x2 vs y m = S2 at *
  clear X5 B5 h h5 hg cT0 cT1 cT2 cT3 cT4 ez hp hp5 hE HX5 hlen hin
  go_enter Try.func67, Try.ntmps67
  go_wp2_with fail
  (try rw [hW5])
  refine wp_region_quiet_below (by kernel_rfl) (by kernel_rfl) ?_
  repeat (go_big_quiet_step (first | (go_at_call_of 83 (Value.int .i64 x); exact k1 _ _) | (go_at_call 70; exact k2 _ _) | (go_at_call_of 83 (Value.int .i64 y); exact k3 _ _)))
  refine wpQuiet_nil ?_
  intro _ hw'
  obtain ⟨⟨dq, osq⟩, hw''⟩ := hw'
  subst hw''
  have HB6 := Lib.hid (HB5.out.trans ((below_regrown W5 dq osq).mono HB5.out.size))
  clear k1 k2 k3 E0 E1 E2 E3 E4 EZ
  go_wp2_with fail
  go_ret
  exact ⟨rfl, HB6.out⟩
theorem inX_iff {m : Nat} {xs : List Int} : allIn 0 (topU m) xs ↔ inX m xs := by
  constructor
  · intro h k hk; exact allIn_getD h hk
  · intro h z hz
    obtain ⟨k, hk, rfl⟩ := List.getElem_of_mem hz
    have := h k hk
    rwa [List.getD_eq_getElem?_getD, List.getElem?_eq_getElem hk] at this
set_option maxRecDepth 100000 in
set_option maxHeartbeats 2000000 in
theorem planI_any {w : World} {B : Nat} {A D : Option Addr} {n m : Nat} {zs : List Int} {vs : List TPump} (a b c : Int) (q r : Nat) (h : IsTs w B A n zs D m vs) (hm : n ≤ 1048576) (hm2 : m ≤ 1048576) {BG : Nat} {G : Option Addr} {l : Nat} {xs : List Int} (cx : Nat) (hp : IsIs w BG G l xs) (hl : l ≤ 1048576) :
    Calls Try.prog 50 #[.agg #[.int .i64 a, .int .i64 b, .int .i64 c, .slice A n q, .slice D m r], .slice G l cx] w fun e w' => e = .returned (.bool (gX ⟨a, b, c, zs, vs⟩ xs)) ∧ Below w.heap.size w w' := by
  obtain ⟨W5, hW5, X5, B5, z5⟩ := box_in w a b c A n q D m r
  have cT0 := X5.c0
  have cT1 := X5.c1
  have cT2 := X5.c2
  have cT3 := X5.c3
  have cT4 := X5.c4
  have HB5 := Lib.hid B5
  have HX5 := Lib.hid X5
  have HT := Lib.hid h
  have HP := Lib.hid hp
  have C1 := Lib.hid (goodI_any a b c q r (h.upB B5) hm hm2)
  have HIFF : Hid (gX ⟨a, b, c, zs, vs⟩ xs = true ↔ goodT ⟨a, b, c, zs, vs⟩ ∧ (l : Int) = (n : Int) ∧ allIn 0 (topU m) xs) := Lib.hid (by
    rw [gX_iff]; unfold goodX; rw [inX_iff, hp.len]; dsimp only; rw [h.ints.len, h.pumps.len]
    exact ⟨fun g => ⟨g.1, by have := g.2.1; omega, g.2.2⟩, fun g => ⟨g.1, by have := g.2.1; omega, g.2.2⟩⟩)
  have HG := Lib.hid (gT_iff ⟨a, b, c, zs, vs⟩)
  have HM : Hid (goodT ⟨a, b, c, zs, vs⟩ → m ≤ 2) := Lib.hid (fun g => by rw [← h.pumps.len]; exact g.2.2.1)
  generalize gX ⟨a, b, c, zs, vs⟩ xs = R at HIFF ⊢
  generalize gT ⟨a, b, c, zs, vs⟩ = T at HG C1
  clear h hp X5 B5 z5
  go_enter Try.func50, Try.ntmps50
  go_wp2_with fail
  (try rw [hW5])
  clear hW5
  refine C1.out.mono ?_
  rintro e w1 ⟨rfl, hb⟩
  have HX6 := Lib.hid (HX5.out.all hb)
  have HB6 := Lib.hid (HB5.out.trans (hb.mono HB5.out.size))
  clear hb C1 cT0 cT1 cT2 cT3 cT4 HX5 HB5
  cases T with
  | false =>
    obtain rfl : R = false := by rw [← Bool.not_eq_true, HIFF.out]; intro g; have := HG.out.2 g.1; cases this
    clear HIFF HG HM
    go_wp2_with fail
    go_ret
    exact ⟨rfl, HB6.out⟩
  | true =>
    have hg := HG.out.1 rfl
    have hm := HM.out hg
    have cT0 := HX6.out.c0
    have cT1 := HX6.out.c1
    have cT2 := HX6.out.c2
    have cT3 := HX6.out.c3
    have cT4 := HX6.out.c4
    by_cases he : (l : Int) = (n : Int)
    · have C2 := Lib.hid (groups_any a b c A n q D m r hm w1)
      have C3 := Lib.hid (fun W (hb : Below w1.heap.size w1 W) => areIn_any 0 (topU m) G l cx BG xs W HP.out.len hl ((HP.out.upB HB6.out).upB hb).has)
      have htop : ((numM m : Nat) : Int) - 1 = topU m := by rw [numM_top]; omega
      have htb := topU_bd m
      have hR : decide (allIn 0 (topU m) xs) = R := by
        rw [Bool.eq_iff_iff, HIFF.out]; simp [hg, he]
      rw [hR] at C3
      have hnb : 0 ≤ ((numM m : Nat) : Int) ∧ ((numM m : Nat) : Int) ≤ 4 := by omega
      generalize ((numM m : Nat) : Int) = N at C2 htop hnb
      clear HIFF HG HM hR hg
      go_wp2_with fail
      refine C2.out.mono ?_
      rintro e w2 ⟨rfl, hb⟩
      have C4 := Lib.hid (C3.out _ hb)
      have HB7 := Lib.hid (HB6.out.trans (hb.mono HB6.out.size))
      clear C2 C3 hb cT0 cT1 cT2 cT3 cT4
      go_wp2_with fail
      refine C4.out.mono ?_
      rintro e w3 ⟨rfl, rfl⟩
      go_wp2_with fail
      go_ret
      exact ⟨rfl, HB7.out⟩
    · obtain rfl : R = false := by rw [← Bool.not_eq_true, HIFF.out]; intro g; exact he g.2.1
      clear HIFF HG HM hg
      have hne : ((l : Int) == (n : Int)) = false := by simpa using he
      go_wp2_with fail
      go_ret
      exact ⟨rfl, HB6.out⟩
end Go.Proofs.Ytdjoiodkmanacaa
