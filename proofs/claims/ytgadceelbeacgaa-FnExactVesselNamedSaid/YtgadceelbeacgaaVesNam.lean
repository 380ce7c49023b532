/- Chapter 3: the vessel with a name, the model and the program. -/
import Derived.Test.YtgadceelbeacgaaVesV
namespace Go.Proofs.Ytgadceelbeacgaa
open Go.RowKit Go.PlainAid Go.Sort

theorem results_ves {P : Program} {fn : Func} {p t : Tmp} {ty : TypeId} (h : fn.results = #[.cell p ty, .tmp t]) (tmps : Array Value) (w : World) (g : Nat) (cs : List Value) (d : TypeDesc)
    (hp : tmps.getD p undef = .pointer (some ⟨g, 0, none⟩)) (hc : w.rangeAt g 0 cs) (hu : P.underlying ty = some d) (hd : d.isRow = true) (hi : (P.info? ty).map (·.size) = some cs.length) :
    (results fn tmps).run P w = .ok (.tuple #[.agg cs.toArray, tmps.getD t undef]) w := by
  have hp' : tmps[p]?.getD undef = .pointer (some ⟨g, 0, none⟩) := by simpa using hp
  simp [results, h, hp', asAddr, run_loadVar_mid w g 0 ty cs d hc hu hd hi]
theorem at6 {w : World} {g : Nat} {x0 x1 x2 x3 x4 x5 : Value} (h0 : w.cell? ⟨g, 0, none⟩ = some x0) (h1 : w.cell? ⟨g, 1, none⟩ = some x1) (h2 : w.cell? ⟨g, 2, none⟩ = some x2) (h3 : w.cell? ⟨g, 3, none⟩ = some x3) (h4 : w.cell? ⟨g, 4, none⟩ = some x4) (h5 : w.cell? ⟨g, 5, none⟩ = some x5) : w.rangeAt g 0 [x0, x1, x2, x3, x4, x5] := by
  intro j x hj
  match j, hj with
  | 0, hj => injection hj with hj; rw [← hj]; exact h0
  | 1, hj => injection hj with hj; rw [← hj]; exact h1
  | 2, hj => injection hj with hj; rw [← hj]; exact h2
  | 3, hj => injection hj with hj; rw [← hj]; exact h3
  | 4, hj => injection hj with hj; rw [← hj]; exact h4
  | 5, hj => injection hj with hj; rw [← hj]; exact h5

theorem sets6_at {W : World} {g : Nat} {y0 y1 y2 y3 y4 y5 : Value} {t : TypeId} (h : W.heap[g]? = some (.cells #[y0, y1, y2, y3, y4, y5] t (0, 0))) (x0 x1 x2 x3 x4 x5 : Value) :
    ((((((W.setCell ⟨g, 0, none⟩ x0).setCell ⟨g, 1, none⟩ x1).setCell ⟨g, 2, none⟩ x2).setCell ⟨g, 3, none⟩ x3).setCell ⟨g, 4, none⟩ x4).setCell ⟨g, 5, none⟩ x5).heap[g]? = some (.cells #[x0, x1, x2, x3, x4, x5] t (0, 0)) := by
  simp [World.setCell, Array.getElem?_modify, h]
theorem sets6_range {W : World} {g : Nat} {y0 y1 y2 y3 y4 y5 : Value} {t : TypeId} (h : W.heap[g]? = some (.cells #[y0, y1, y2, y3, y4, y5] t (0, 0))) (x0 x1 x2 x3 x4 x5 : Value) :
    ((((((W.setCell ⟨g, 0, none⟩ x0).setCell ⟨g, 1, none⟩ x1).setCell ⟨g, 2, none⟩ x2).setCell ⟨g, 3, none⟩ x3).setCell ⟨g, 4, none⟩ x4).setCell ⟨g, 5, none⟩ x5).rangeAt g 0 [x0, x1, x2, x3, x4, x5] := by
  have := sets6_at h x0 x1 x2 x3 x4 x5
  exact at6 (cell_of_row _ _ 0 _ _ _ this) (cell_of_row _ _ 1 _ _ _ this) (cell_of_row _ _ 2 _ _ _ this) (cell_of_row _ _ 3 _ _ _ this) (cell_of_row _ _ 4 _ _ _ this) (cell_of_row _ _ 5 _ _ _ this)
theorem sets6_below {B : Nat} {w W : World} {g : Nat} (h : Below B w W) (hg : B ≤ g) (x0 x1 x2 x3 x4 x5 : Value) : Below B w ((((((W.setCell ⟨g, 0, none⟩ x0).setCell ⟨g, 1, none⟩ x1).setCell ⟨g, 2, none⟩ x2).setCell ⟨g, 3, none⟩ x3).setCell ⟨g, 4, none⟩ x4).setCell ⟨g, 5, none⟩ x5) :=
  (((((h.setCell (p := ⟨g, 0, none⟩) hg _).setCell (p := ⟨g, 1, none⟩) hg _).setCell (p := ⟨g, 2, none⟩) hg _).setCell (p := ⟨g, 3, none⟩) hg _).setCell (p := ⟨g, 4, none⟩) hg _).setCell (p := ⟨g, 5, none⟩) hg _

set_option maxHeartbeats 1000000 in
theorem specNamed_any {w : World} {B : Nat} {A : Option Addr} {n : Nat} {vs : List Ves} (c : Nat) (t : ByteArray) (h : IsVs w B A n vs) (hm : n ≤ maxLen) (i : Int) (s : ByteArray) (l b d q : Int) (x : Bool)
    (hyes : gF vs = true → ∀ k, k < n → (∀ j, j < k → (vs.getD j noVes).name ≠ t) → (vs.getD k noVes).name = t → vs.getD k noVes = ⟨i, s, l, b, d, q⟩ ∧ x = true)
    (hno : gF vs = true → (∀ j, j < n → (vs.getD j noVes).name ≠ t) → noVes = ⟨i, s, l, b, d, q⟩ ∧ x = false) (hbad : gF vs = false → noVes = ⟨i, s, l, b, d, q⟩ ∧ x = false) :
    Calls Try.prog 57 #[.slice A n c, .string t] w fun e w' => e = .returned (.tuple #[.agg #[.int .i64 i, .string s, .int .i64 l, .int .i64 b, .int .i64 d, .int .i64 q], .bool x]) ∧ Below w.heap.size w w' := by
  have C := Lib.hid (fun o => l3Fleet_vs c (h.below ((Below.refl _ w).alloc (Nat.le_refl _) o) h.low) hm)
  have HI := Lib.hid h
  cases hx : gF vs with
  | false =>
    rw [hx] at C
    obtain ⟨e, rfl⟩ := hbad hx
    obtain ⟨rfl, rfl, rfl, rfl, rfl, rfl⟩ := Ves.mk.inj e
    clear h hx hm HI hyes hno hbad e
    go_enter Try.func57, Try.ntmps57
    go_wp2_with fail
    refine (C.out _).mono ?_
    rintro e w1 ⟨rfl, hb⟩
    have p0 := (hb.block _ (by simp)).trans (heap_alloc_new w (.cells #[.int .i64 0, .string ⟨#[]⟩, .int .i64 0, .int .i64 0, .int .i64 0, .int .i64 0] 53))
    have HB := Lib.hid (((Below.refl _ w).alloc (Nat.le_refl _) (.cells #[.int .i64 0, .string ⟨#[]⟩, .int .i64 0, .int .i64 0, .int .i64 0, .int .i64 0] 53)).trans (hb.mono (by simp)))
    have hgz : w.heap.size < w1.heap.size := by have := hb.size; simp at this; omega
    have HP := Lib.hid p0
    clear hb p0
    have c0 := cell_of_row w1 _ 0 _ _ _ HP.out
    have f0 := frozen_of_row w1 _ 0 _ _ HP.out
    have c1 := cell_of_row w1 _ 1 _ _ _ HP.out
    have f1 := frozen_of_row w1 _ 1 _ _ HP.out
    have c2 := cell_of_row w1 _ 2 _ _ _ HP.out
    have f2 := frozen_of_row w1 _ 2 _ _ HP.out
    have c3 := cell_of_row w1 _ 3 _ _ _ HP.out
    have f3 := frozen_of_row w1 _ 3 _ _ HP.out
    have c4 := cell_of_row w1 _ 4 _ _ _ HP.out
    have f4 := frozen_of_row w1 _ 4 _ _ HP.out
    have c5 := cell_of_row w1 _ 5 _ _ _ HP.out
    have f5 := frozen_of_row w1 _ 5 _ _ HP.out
    go_wp2_with fail
    refine bodyPost_ret (results_ves rfl _ _ w.heap.size [.int .i64 0, .string ⟨#[]⟩, .int .i64 0, .int .i64 0, .int .i64 0, .int .i64 0] _ rfl (sets6_range HP.out _ _ _ _ _ _) Try.underlying53 rfl (by kernel_rfl)) rfl ?_
    exact ⟨rfl, sets6_below HB.out (Nat.le_refl _) _ _ _ _ _ _⟩
  | true =>
    rw [hx] at C
    have HY := Lib.hid (hyes hx)
    have HN := Lib.hid (hno hx)
    unfold maxLen at hm
    clear hyes hno hbad hx h
    go_enter Try.func57, Try.ntmps57
    go_wp2_with fail
    refine (C.out _).mono ?_
    rintro e w1 ⟨rfl, hb⟩
    have p0 := (hb.block _ (by simp)).trans (heap_alloc_new w (.cells #[.int .i64 0, .string ⟨#[]⟩, .int .i64 0, .int .i64 0, .int .i64 0, .int .i64 0] 53))
    have HB := Lib.hid (((Below.refl _ w).alloc (Nat.le_refl _) (.cells #[.int .i64 0, .string ⟨#[]⟩, .int .i64 0, .int .i64 0, .int .i64 0, .int .i64 0] 53)).trans (hb.mono (by simp)))
    have hgz : w.heap.size < w1.heap.size := by have := hb.size; simp at this; omega
    have HP := Lib.hid p0
    clear hb p0
    go_wp2_with fail
    go_loopw [6] (fun i wr => ∃ k : Nat, k ≤ n ∧ i = .int .i64 k ∧ Hid (∀ j, j < k → (vs.getD j noVes).name ≠ t) ∧ Drawn w1 wr) (fun i _ => n - (intOf i).toNat)
    case atStart => exact ⟨0, Nat.zero_le _, rfl, Lib.hid (by simp), Drawn.refl _⟩
    case round =>
      obtain ⟨k, hk, rfl, hall, hb⟩ := hrel
      have HBr := Lib.hid (HB.out.trans (hb.below _))
      have HPr := Lib.hid ((by obtain ⟨q, rfl⟩ := hb; exact HP.out) : wr.heap[w.heap.size]? = some (.cells #[.int .i64 0, .string ⟨#[]⟩, .int .i64 0, .int .i64 0, .int .i64 0, .int .i64 0] 53 (0, 0)))
      by_cases hlt : k < n
      · have hkl : k < vs.length := by rw [HI.out.len]; exact hlt
        obtain ⟨a1, rfl, hab, HV⟩ := (HI.out.below HBr.out HI.out.low).has.ves hkl
        have HYk := Lib.hid (fun e => HY.out k hlt hall.out e)
        have HA : Hid ((vs.getD k noVes).name ≠ t → ∀ j, j < k + 1 → (vs.getD j noVes).name ≠ t) := Lib.hid (fun h j hj => by
          rcases Nat.lt_succ_iff_lt_or_eq.1 hj with h1 | h1
          · exact hall.out j h1
          · exact h1 ▸ h)
        generalize vs.getD k noVes = V at HV HYk HA
        obtain ⟨i2, s2, l2, b2, d2, q2⟩ := V
        obtain ⟨e0, e1, e2, e3, e4, e5⟩ := HV
        dsimp only at e0 e1 e2 e3 e4 e5
        have hk0 : (0 : Int) ≤ (k : Int) := by omega
        have hk1 : (k : Int) < (n : Int) := by omega
        by_cases hst : s2 = t
        · obtain ⟨e, rfl⟩ := HYk.out hst
          obtain ⟨rfl, rfl, rfl, rfl, rfl, rfl⟩ := Ves.mk.inj e
          subst hst
          clear HY HN HYk HA hall C e HI
          have c0 := cell_of_row wr _ 0 _ _ _ HPr.out
          have f0 := frozen_of_row wr _ 0 _ _ HPr.out
          have c1 := cell_of_row wr _ 1 _ _ _ HPr.out
          have f1 := frozen_of_row wr _ 1 _ _ HPr.out
          have c2 := cell_of_row wr _ 2 _ _ _ HPr.out
          have f2 := frozen_of_row wr _ 2 _ _ HPr.out
          have c3 := cell_of_row wr _ 3 _ _ _ HPr.out
          have f3 := frozen_of_row wr _ 3 _ _ HPr.out
          have c4 := cell_of_row wr _ 4 _ _ _ HPr.out
          have f4 := frozen_of_row wr _ 4 _ _ HPr.out
          have c5 := cell_of_row wr _ 5 _ _ _ HPr.out
          have f5 := frozen_of_row wr _ 5 _ _ HPr.out
          go_wp2_with fail
          refine bodyPost_ret (results_ves rfl _ _ w.heap.size [.int .i64 _, .string _, .int .i64 _, .int .i64 _, .int .i64 _, .int .i64 _] _ rfl (sets6_range HPr.out _ _ _ _ _ _) Try.underlying53 rfl (by kernel_rfl)) rfl ?_
          exact ⟨rfl, sets6_below HBr.out (Nat.le_refl _) _ _ _ _ _ _⟩
        · have hne := list_ne hst
          have HR := Lib.hid (HA.out hst)
          clear HY HN HYk HA hall C HI
          go_wp2
          go_roundw
          case rel => exact ⟨k + 1, by omega, by go_num, HR, hb⟩
          case measure => simp [intOf]; omega
      · obtain rfl : k = n := by omega
        obtain ⟨e, rfl⟩ := HN.out hall.out
        obtain ⟨rfl, rfl, rfl, rfl, rfl, rfl⟩ := Ves.mk.inj e
        clear HY HN hall C e HI
        have c0 := cell_of_row wr _ 0 _ _ _ HPr.out
        have f0 := frozen_of_row wr _ 0 _ _ HPr.out
        have c1 := cell_of_row wr _ 1 _ _ _ HPr.out
        have f1 := frozen_of_row wr _ 1 _ _ HPr.out
        have c2 := cell_of_row wr _ 2 _ _ _ HPr.out
        have f2 := frozen_of_row wr _ 2 _ _ HPr.out
        have c3 := cell_of_row wr _ 3 _ _ _ HPr.out
        have f3 := frozen_of_row wr _ 3 _ _ HPr.out
        have c4 := cell_of_row wr _ 4 _ _ _ HPr.out
        have f4 := frozen_of_row wr _ 4 _ _ HPr.out
        have c5 := cell_of_row wr _ 5 _ _ _ HPr.out
        have f5 := frozen_of_row wr _ 5 _ _ HPr.out
        go_wp2_with fail
        refine bodyPost_ret (results_ves rfl _ _ w.heap.size [.int .i64 0, .string ⟨#[]⟩, .int .i64 0, .int .i64 0, .int .i64 0, .int .i64 0] _ rfl (sets6_range HPr.out _ _ _ _ _ _) Try.underlying53 rfl (by kernel_rfl)) rfl ?_
        exact ⟨rfl, sets6_below HBr.out (Nat.le_refl _) _ _ _ _ _ _⟩

set_option maxHeartbeats 1000000 in
theorem implNamed_any {w : World} {B : Nat} {A : Option Addr} {n : Nat} {vs : List Ves} (c : Nat) (t : ByteArray) (h : IsVs w B A n vs) (hm : n ≤ maxLen) (hc : n ≤ c) (i : Int) (s : ByteArray) (l b d q : Int) (x : Bool)
    (hyes : gF vs = true → ∀ k, k < n → (∀ j, j < k → (vs.getD j noVes).name ≠ t) → (vs.getD k noVes).name = t → vs.getD k noVes = ⟨i, s, l, b, d, q⟩ ∧ x = true)
    (hno : gF vs = true → (∀ j, j < n → (vs.getD j noVes).name ≠ t) → noVes = ⟨i, s, l, b, d, q⟩ ∧ x = false) (hbad : gF vs = false → noVes = ⟨i, s, l, b, d, q⟩ ∧ x = false) :
    Calls Try.prog 58 #[.slice A n c, .string t] w fun e w' => e = .returned (.tuple #[.agg #[.int .i64 i, .string s, .int .i64 l, .int .i64 b, .int .i64 d, .int .i64 q], .bool x]) ∧ Below w.heap.size w w' := by
  have C := Lib.hid (fun o => isFleet_vs c (h.below ((Below.refl _ w).alloc (Nat.le_refl _) o) h.low) hm hc)
  have CP := Lib.hid (fun (W : World) (hb : Below w.heap.size w W) => placeOfName_any A n c B vs t W (by rw [h.len]; exact Nat.le_refl _) hm (by have := h.low; have := hb.size; omega) (h.has.below (hb.mono h.low)))
  have HPF := Lib.hid (fun (j : Nat) (hj : j < n) (e : (vs.getD j noVes).name = t) => pon_first hj e)
  have HPS := Lib.hid (fun g : 0 ≤ pon vs t n => pon_spec g)
  have HI := Lib.hid h
  cases hx : gF vs with
  | false =>
    rw [hx] at C
    obtain ⟨e, rfl⟩ := hbad hx
    obtain ⟨rfl, rfl, rfl, rfl, rfl, rfl⟩ := Ves.mk.inj e
    clear h hx hm HI hyes hno hbad e CP HPF HPS
    go_enter Try.func58, Try.ntmps58
    go_wp2_with fail
    refine (C.out _).mono ?_
    rintro e w1 ⟨rfl, hb⟩
    have p0 := (hb.block _ (by simp)).trans (heap_alloc_new w (.cells #[.int .i64 0, .string ⟨#[]⟩, .int .i64 0, .int .i64 0, .int .i64 0, .int .i64 0] 53))
    have HB := Lib.hid (((Below.refl _ w).alloc (Nat.le_refl _) (.cells #[.int .i64 0, .string ⟨#[]⟩, .int .i64 0, .int .i64 0, .int .i64 0, .int .i64 0] 53)).trans (hb.mono (by simp)))
    have hgz : w.heap.size < w1.heap.size := by have := hb.size; simp at this; omega
    have HP := Lib.hid p0
    clear hb p0
    have c0 := cell_of_row w1 _ 0 _ _ _ HP.out
    have f0 := frozen_of_row w1 _ 0 _ _ HP.out
    have c1 := cell_of_row w1 _ 1 _ _ _ HP.out
    have f1 := frozen_of_row w1 _ 1 _ _ HP.out
    have c2 := cell_of_row w1 _ 2 _ _ _ HP.out
    have f2 := frozen_of_row w1 _ 2 _ _ HP.out
    have c3 := cell_of_row w1 _ 3 _ _ _ HP.out
    have f3 := frozen_of_row w1 _ 3 _ _ HP.out
    have c4 := cell_of_row w1 _ 4 _ _ _ HP.out
    have f4 := frozen_of_row w1 _ 4 _ _ HP.out
    have c5 := cell_of_row w1 _ 5 _ _ _ HP.out
    have f5 := frozen_of_row w1 _ 5 _ _ HP.out
    go_wp2_with fail
    refine bodyPost_ret (results_ves rfl _ _ w.heap.size [.int .i64 0, .string ⟨#[]⟩, .int .i64 0, .int .i64 0, .int .i64 0, .int .i64 0] _ rfl (sets6_range HP.out _ _ _ _ _ _) Try.underlying53 rfl (by kernel_rfl)) rfl ?_
    exact ⟨rfl, sets6_below HB.out (Nat.le_refl _) _ _ _ _ _ _⟩
  | true =>
    rw [hx] at C
    have HY := Lib.hid (hyes hx)
    have HN := Lib.hid (hno hx)
    unfold maxLen at hm
    clear hyes hno hbad hx h
    go_enter Try.func58, Try.ntmps58
    go_wp2_with fail
    refine (C.out _).mono ?_
    rintro e w1 ⟨rfl, hb⟩
    have p0 := (hb.block _ (by simp)).trans (heap_alloc_new w (.cells #[.int .i64 0, .string ⟨#[]⟩, .int .i64 0, .int .i64 0, .int .i64 0, .int .i64 0] 53))
    have HB := Lib.hid (((Below.refl _ w).alloc (Nat.le_refl _) (.cells #[.int .i64 0, .string ⟨#[]⟩, .int .i64 0, .int .i64 0, .int .i64 0, .int .i64 0] 53)).trans (hb.mono (by simp)))
    have hgz : w.heap.size < w1.heap.size := by have := hb.size; simp at this; omega
    have HP := Lib.hid p0
    clear hb p0
    go_wp2_with fail
    refine (CP.out _ HB.out).mono ?_
    rintro e w2 ⟨rfl, hb⟩
    have HB2 := Lib.hid (HB.out.trans (hb.mono HB.out.size))
    have HP2 := Lib.hid ((hb.block _ hgz).trans HP.out)
    clear hb HB HP C CP hgz
    by_cases hz : pon vs t n < 0
    · obtain ⟨e, rfl⟩ := HN.out (fun j hj e => absurd (HPF.out j hj e) (by omega))
      obtain ⟨rfl, rfl, rfl, rfl, rfl, rfl⟩ := Ves.mk.inj e
      generalize pon vs t n = z at hz ⊢
      clear HY HN HPF HPS e HI
      have c0 := cell_of_row w2 _ 0 _ _ _ HP2.out
      have f0 := frozen_of_row w2 _ 0 _ _ HP2.out
      have c1 := cell_of_row w2 _ 1 _ _ _ HP2.out
      have f1 := frozen_of_row w2 _ 1 _ _ HP2.out
      have c2 := cell_of_row w2 _ 2 _ _ _ HP2.out
      have f2 := frozen_of_row w2 _ 2 _ _ HP2.out
      have c3 := cell_of_row w2 _ 3 _ _ _ HP2.out
      have f3 := frozen_of_row w2 _ 3 _ _ HP2.out
      have c4 := cell_of_row w2 _ 4 _ _ _ HP2.out
      have f4 := frozen_of_row w2 _ 4 _ _ HP2.out
      have c5 := cell_of_row w2 _ 5 _ _ _ HP2.out
      have f5 := frozen_of_row w2 _ 5 _ _ HP2.out
      go_wp2_with fail
      refine bodyPost_ret (results_ves rfl _ _ w.heap.size [.int .i64 0, .string ⟨#[]⟩, .int .i64 0, .int .i64 0, .int .i64 0, .int .i64 0] _ rfl (sets6_range HP2.out _ _ _ _ _ _) Try.underlying53 rfl (by kernel_rfl)) rfl ?_
      exact ⟨rfl, sets6_below HB2.out (Nat.le_refl _) _ _ _ _ _ _⟩
    · obtain ⟨k, hk, he, hkt, hfst⟩ := HPS.out (by omega)
      have hkl : k < vs.length := by rw [HI.out.len]; exact hk
      obtain ⟨a1, rfl, hab, HV⟩ := (HI.out.below HB2.out HI.out.low).has.ves hkl
      obtain ⟨e, rfl⟩ := HY.out k hk hfst hkt
      rw [he]
      rw [e] at HV
      obtain ⟨e0, e1, e2, e3, e4, e5⟩ := HV
      dsimp only at e0 e1 e2 e3 e4 e5
      have hk0 : (0 : Int) ≤ (k : Int) := by omega
      have hk1 : (k : Int) < (n : Int) := by omega
      clear HY HN HPF HPS e HI hkt hfst he hz
      have c0 := cell_of_row w2 _ 0 _ _ _ HP2.out
      have f0 := frozen_of_row w2 _ 0 _ _ HP2.out
      have c1 := cell_of_row w2 _ 1 _ _ _ HP2.out
      have f1 := frozen_of_row w2 _ 1 _ _ HP2.out
      have c2 := cell_of_row w2 _ 2 _ _ _ HP2.out
      have f2 := frozen_of_row w2 _ 2 _ _ HP2.out
      have c3 := cell_of_row w2 _ 3 _ _ _ HP2.out
      have f3 := frozen_of_row w2 _ 3 _ _ HP2.out
      have c4 := cell_of_row w2 _ 4 _ _ _ HP2.out
      have f4 := frozen_of_row w2 _ 4 _ _ HP2.out
      have c5 := cell_of_row w2 _ 5 _ _ _ HP2.out
      have f5 := frozen_of_row w2 _ 5 _ _ HP2.out
      go_wp2_with fail
      refine bodyPost_ret (results_ves rfl _ _ w.heap.size [.int .i64 i, .string s, .int .i64 l, .int .i64 b, .int .i64 d, .int .i64 q] _ rfl (sets6_range HP2.out _ _ _ _ _ _) Try.underlying53 rfl (by kernel_rfl)) rfl ?_
      exact ⟨rfl, sets6_below HB2.out (Nat.le_refl _) _ _ _ _ _ _⟩

/-- What both are asked for. -/
theorem named_two (vs : List Ves) (n : Nat) (t : ByteArray) : ∃ (i : Int) (s : ByteArray) (l b d q : Int) (x : Bool),
    (gF vs = true → ∀ k, k < n → (∀ j, j < k → (vs.getD j noVes).name ≠ t) → (vs.getD k noVes).name = t → vs.getD k noVes = ⟨i, s, l, b, d, q⟩ ∧ x = true) ∧
    (gF vs = true → (∀ j, j < n → (vs.getD j noVes).name ≠ t) → noVes = ⟨i, s, l, b, d, q⟩ ∧ x = false) ∧ (gF vs = false → noVes = ⟨i, s, l, b, d, q⟩ ∧ x = false) := by
  cases h : gF vs with
  | false => exact ⟨_, _, _, _, _, _, false, fun g => (by cases g), fun g => (by cases g), fun _ => ⟨rfl, rfl⟩⟩
  | true =>
    by_cases hz : 0 ≤ pon vs t n
    · obtain ⟨k, hk, he, hkt, hfst⟩ := pon_spec hz
      refine ⟨(vs.getD k noVes).id, (vs.getD k noVes).name, (vs.getD k noVes).len, (vs.getD k noVes).wid, (vs.getD k noVes).dr, (vs.getD k noVes).kind, true, fun _ k' hk' hf' ht' => ?_, fun _ g => absurd hkt (g k hk), fun g => (by cases g)⟩
      obtain rfl : k' = k := by
        rcases Nat.lt_trichotomy k' k with h1 | h1 | h1
        · exact absurd ht' (hfst k' h1)
        · exact h1
        · exact absurd hkt (hf' k h1)
      exact ⟨rfl, rfl⟩
    · exact ⟨_, _, _, _, _, _, false, fun _ k hk hf ht => absurd (pon_first hk ht) hz, fun _ _ => ⟨rfl, rfl⟩, fun g => (by cases g)⟩
end Go.Proofs.Ytgadceelbeacgaa
