/- Texts that are joined: DrD, VesNam. -/
import Derived.Test.YtliebicnejbheabGreatDoorMg15
import Derived.Test.YtliebicnejbheabGreatDoorMg01
import Derived.Test.YtliebicnejbheabGreatDoorMg09
import Derived.Test.YtliebicnejbheabGreatDoorMg03
/- The draws of chapter 3: arguments with vessels; what FnDepths compares. -/
namespace Go.Proofs.YtliebicnejbheabGreatDoor
open Go.RowKit Go.PlainAid Go.Sort
set_option linter.unusedVariables false
set_option linter.unusedSimpArgs false

set_option maxHeartbeats 1000000 in
theorem rVs_same {w : World} {B1 B2 : Nat} {A1 A2 : Option Addr} {n : Nat} {vs : List Ves} (c1 c2 : Nat) (h1 : IsVs w B1 A1 n vs) (h2 : IsVs w B2 A2 n vs) (hm : n ≤ maxLen) :
    Calls Tryz.prog 15 #[.slice A1 n c1, .slice A2 n c2] w fun e w' => e = .returned (.bool true) ∧ Below w.heap.size w w' := by
  unfold maxLen at hm
  have HL := Lib.hid h1.len
  have H1 := Lib.hid h1
  have H2 := Lib.hid h2
  clear h1 h2
  go_enter Tryz.func15, Tryz.ntmps15
  go_wp2
  go_loopw [5] (fun i wr => ∃ k : Nat, k ≤ n ∧ i = .int .i64 k ∧ Below w.heap.size w wr) (fun i _ => n - (intOf i).toNat)
  case atStart => exact ⟨0, Nat.zero_le _, rfl, Below.refl _ _⟩
  case round =>
    obtain ⟨k, hk, rfl, hb⟩ := hrel
    by_cases hlt : k < n
    · have hkl : k < vs.length := by rw [HL.out]; exact hlt
      obtain ⟨a1, rfl, _, e0, e1, e2, e3, e4, e5⟩ := (H1.out.has.below (hb.mono H1.out.low)).vesAt hkl
      obtain ⟨a2, rfl, _, g0, g1, g2, g3, g4, g5⟩ := (H2.out.has.below (hb.mono H2.out.low)).vesAt hkl
      generalize vs[k]'hkl = V at e0 e1 e2 e3 e4 e5 g0 g1 g2 g3 g4 g5
      obtain ⟨i, s, l, b, d, q⟩ := V
      dsimp only at e0 e1 e2 e3 e4 e5 g0 g1 g2 g3 g4 g5
      have E0 := fun (d : Nat) (os : Array Obj) => cell_regrown e0 d os
      have E1 := fun (d : Nat) (os : Array Obj) => cell_regrown e1 d os
      have E2 := fun (d : Nat) (os : Array Obj) => cell_regrown e2 d os
      have E3 := fun (d : Nat) (os : Array Obj) => cell_regrown e3 d os
      have E4 := fun (d : Nat) (os : Array Obj) => cell_regrown e4 d os
      have E5 := fun (d : Nat) (os : Array Obj) => cell_regrown e5 d os
      have G0 := fun (d : Nat) (os : Array Obj) => cell_regrown g0 d os
      have G1 := fun (d : Nat) (os : Array Obj) => cell_regrown g1 d os
      have G2 := fun (d : Nat) (os : Array Obj) => cell_regrown g2 d os
      have G3 := fun (d : Nat) (os : Array Obj) => cell_regrown g3 d os
      have G4 := fun (d : Nat) (os : Array Obj) => cell_regrown g4 d os
      have G5 := fun (d : Nat) (os : Array Obj) => cell_regrown g5 d os
      have hk0 : (0 : Int) ≤ (k : Int) := by omega
      have hk1 : (k : Int) < (n : Int) := by omega
      have HB := Lib.hid hb
      clear hb H1 H2 e0 e1 e2 e3 e4 e5 g0 g1 g2 g3 g4 g5
      go_wp2
      refine wp_region_quiet_below (by kernel_rfl) (by kernel_rfl) ?_
      repeat (go_big_quiet_step (first | fail))
      refine wpQuiet_nil ?_
      intro _ hw'
      obtain ⟨⟨dq, osq⟩, hw''⟩ := hw'
      subst hw''
      have HB1 := Lib.hid (HB.out.trans ((below_regrown wr dq osq).mono HB.out.size))
      go_wp2
      go_roundw
      case rel => exact ⟨k + 1, by omega, by go_num, HB1.out⟩
      case measure => simp [intOf]; omega
    · obtain rfl : k = n := by omega
      clear H1 H2
      go_wp2
      go_ret
      exact ⟨rfl, hb⟩
/-- A drawn list of vessels, alone. -/
def DrwV (w : World) (e : Ending) (w' : World) : Prop :=
  ∃ (g c q : Nat) (vs : List Ves), e = .returned (.slice (some ⟨g, 0, none⟩) q c) ∧ q ≤ 10 ∧ q ≤ c ∧ IsVs w' w'.heap.size (some ⟨g, 0, none⟩) q vs ∧ Below w.heap.size w w'
/-- A drawn list of vessels and two numbers. -/
def DrwV2 (P : Int → Prop) (w : World) (e : Ending) (w' : World) : Prop :=
  ∃ (g c q : Nat) (vs : List Ves) (z1 z2 : Int), e = .returned (.tuple #[.slice (some ⟨g, 0, none⟩) q c, .int .i64 z1, .int .i64 z2]) ∧ P z2 ∧ q ≤ 10 ∧ q ≤ c ∧ IsVs w' w'.heap.size (some ⟨g, 0, none⟩) q vs ∧ Below w.heap.size w w'
end Go.Proofs.YtliebicnejbheabGreatDoor

/- Chapter 3: the vessel with a name, the model and the program. -/
namespace Go.Proofs.YtliebicnejbheabGreatDoor
open Go.RowKit Go.PlainAid Go.Sort

set_option maxHeartbeats 1000000 in
theorem specNamed_any {w : World} {B : Nat} {A : Option Addr} {n : Nat} {vs : List Ves} (c : Nat) (t : ByteArray) (h : IsVs w B A n vs) (hm : n ≤ maxLen) (i : Int) (s : ByteArray) (l b d q : Int) (x : Bool)
    (hyes : gF vs = true → ∀ k, k < n → (∀ j, j < k → (vs.getD j noVes).name ≠ t) → (vs.getD k noVes).name = t → vs.getD k noVes = ⟨i, s, l, b, d, q⟩ ∧ x = true)
    (hno : gF vs = true → (∀ j, j < n → (vs.getD j noVes).name ≠ t) → noVes = ⟨i, s, l, b, d, q⟩ ∧ x = false) (hbad : gF vs = false → noVes = ⟨i, s, l, b, d, q⟩ ∧ x = false) :
    Calls Tryz.prog 20 #[.slice A n c, .string t] w fun e w' => e = .returned (.tuple #[.agg #[.int .i64 i, .string s, .int .i64 l, .int .i64 b, .int .i64 d, .int .i64 q], .bool x]) ∧ Below w.heap.size w w' := by
  have C := Lib.hid (fun o => l3Fleet_vs c (h.below ((Below.refl _ w).alloc (Nat.le_refl _) o) h.low) hm)
  have HI := Lib.hid h
  cases hx : gF vs with
  | false =>
    rw [hx] at C
    obtain ⟨e, rfl⟩ := hbad hx
    obtain ⟨rfl, rfl, rfl, rfl, rfl, rfl⟩ := Ves.mk.inj e
    clear h hx hm HI hyes hno hbad e
    go_enter Tryz.func20, Tryz.ntmps20
    go_wp2_with fail
    refine (C.out _).mono ?_
    rintro e w1 ⟨rfl, hb⟩
    have p0 := (hb.block _ (by simp)).trans (heap_alloc_new w (.cells #[.int .i64 0, .string ⟨#[]⟩, .int .i64 0, .int .i64 0, .int .i64 0, .int .i64 0] 25))
    have HB := Lib.hid (((Below.refl _ w).alloc (Nat.le_refl _) (.cells #[.int .i64 0, .string ⟨#[]⟩, .int .i64 0, .int .i64 0, .int .i64 0, .int .i64 0] 25)).trans (hb.mono (by simp)))
    have hgz : w.heap.size < w1.heap.size := by have := hb.size; simp at this; omega
    have HP := Lib.hid p0
    clear hb p0
    have c0 := cell_of_row w1 _ 0 _ _ _ HP.out
    have f0 := frozen_of_row w1 _ 0 _ _ HP.out
    have c1 := cell_of_row w1 _ 1 _ _ _ HP.out
    have f1 := frozen_of_row w1 _ 1 _ _ HP.out
    have c2 := cell_of_row w1 _ 2 _ _ _ HP.out
    have f2 := frozen_of_row w1 _ 2 _ _ HP.out
    have c3 := cell_of_row w1 _ 3 _ _ _ HP.out
    have f3 := frozen_of_row w1 _ 3 _ _ HP.out
    have c4 := cell_of_row w1 _ 4 _ _ _ HP.out
    have f4 := frozen_of_row w1 _ 4 _ _ HP.out
    have c5 := cell_of_row w1 _ 5 _ _ _ HP.out
    have f5 := frozen_of_row w1 _ 5 _ _ HP.out
    go_wp2_with fail
    refine bodyPost_ret (results_ves rfl _ _ w.heap.size [.int .i64 0, .string ⟨#[]⟩, .int .i64 0, .int .i64 0, .int .i64 0, .int .i64 0] _ rfl (sets6_range HP.out _ _ _ _ _ _) Tryz.underlying25 rfl (by kernel_rfl)) rfl ?_
    exact ⟨rfl, sets6_below HB.out (Nat.le_refl _) _ _ _ _ _ _⟩
  | true =>
    rw [hx] at C
    have HY := Lib.hid (hyes hx)
    have HN := Lib.hid (hno hx)
    unfold maxLen at hm
    clear hyes hno hbad hx h
    go_enter Tryz.func20, Tryz.ntmps20
    go_wp2_with fail
    refine (C.out _).mono ?_
    rintro e w1 ⟨rfl, hb⟩
    have p0 := (hb.block _ (by simp)).trans (heap_alloc_new w (.cells #[.int .i64 0, .string ⟨#[]⟩, .int .i64 0, .int .i64 0, .int .i64 0, .int .i64 0] 25))
    have HB := Lib.hid (((Below.refl _ w).alloc (Nat.le_refl _) (.cells #[.int .i64 0, .string ⟨#[]⟩, .int .i64 0, .int .i64 0, .int .i64 0, .int .i64 0] 25)).trans (hb.mono (by simp)))
    have hgz : w.heap.size < w1.heap.size := by have := hb.size; simp at this; omega
    have HP := Lib.hid p0
    clear hb p0
    go_wp2_with fail
    go_loopw [6] (fun i wr => ∃ k : Nat, k ≤ n ∧ i = .int .i64 k ∧ Hid (∀ j, j < k → (vs.getD j noVes).name ≠ t) ∧ Drawn w1 wr) (fun i _ => n - (intOf i).toNat)
    case atStart => exact ⟨0, Nat.zero_le _, rfl, Lib.hid (by simp), Drawn.refl _⟩
    case round =>
      obtain ⟨k, hk, rfl, hall, hb⟩ := hrel
      have HBr := Lib.hid (HB.out.trans (hb.below _))
      have HPr := Lib.hid ((by obtain ⟨q, rfl⟩ := hb; exact HP.out) : wr.heap[w.heap.size]? = some (.cells #[.int .i64 0, .string ⟨#[]⟩, .int .i64 0, .int .i64 0, .int .i64 0, .int .i64 0] 25 (0, 0)))
      by_cases hlt : k < n
      · have hkl : k < vs.length := by rw [HI.out.len]; exact hlt
        obtain ⟨a1, rfl, hab, HV⟩ := (HI.out.below HBr.out HI.out.low).has.ves hkl
        have HYk := Lib.hid (fun e => HY.out k hlt hall.out e)
        have HA : Hid ((vs.getD k noVes).name ≠ t → ∀ j, j < k + 1 → (vs.getD j noVes).name ≠ t) := Lib.hid (fun h j hj => by
          rcases Nat.lt_succ_iff_lt_or_eq.1 hj with h1 | h1
          · exact hall.out j h1
          · exact h1 ▸ h)
        generalize vs.getD k noVes = V at HV HYk HA
        obtain ⟨i2, s2, l2, b2, d2, q2⟩ := V
        obtain ⟨e0, e1, e2, e3, e4, e5⟩ := HV
        dsimp only at e0 e1 e2 e3 e4 e5
        have hk0 : (0 : Int) ≤ (k : Int) := by omega
        have hk1 : (k : Int) < (n : Int) := by omega
        by_cases hst : s2 = t
        · obtain ⟨e, rfl⟩ := HYk.out hst
          obtain ⟨rfl, rfl, rfl, rfl, rfl, rfl⟩ := Ves.mk.inj e
          subst hst
          clear HY HN HYk HA hall C e HI
          have c0 := cell_of_row wr _ 0 _ _ _ HPr.out
          have f0 := frozen_of_row wr _ 0 _ _ HPr.out
          have c1 := cell_of_row wr _ 1 _ _ _ HPr.out
          have f1 := frozen_of_row wr _ 1 _ _ HPr.out
          have c2 := cell_of_row wr _ 2 _ _ _ HPr.out
          have f2 := frozen_of_row wr _ 2 _ _ HPr.out
          have c3 := cell_of_row wr _ 3 _ _ _ HPr.out
          have f3 := frozen_of_row wr _ 3 _ _ HPr.out
          have c4 := cell_of_row wr _ 4 _ _ _ HPr.out
          have f4 := frozen_of_row wr _ 4 _ _ HPr.out
          have c5 := cell_of_row wr _ 5 _ _ _ HPr.out
          have f5 := frozen_of_row wr _ 5 _ _ HPr.out
          go_wp2_with fail
          refine bodyPost_ret (results_ves rfl _ _ w.heap.size [.int .i64 _, .string _, .int .i64 _, .int .i64 _, .int .i64 _, .int .i64 _] _ rfl (sets6_range HPr.out _ _ _ _ _ _) Tryz.underlying25 rfl (by kernel_rfl)) rfl ?_
          exact ⟨rfl, sets6_below HBr.out (Nat.le_refl _) _ _ _ _ _ _⟩
        · have hne := list_ne hst
          have HR := Lib.hid (HA.out hst)
          clear HY HN HYk HA hall C HI
          go_wp2
          go_roundw
          case rel => exact ⟨k + 1, by omega, by go_num, HR, hb⟩
          case measure => simp [intOf]; omega
      · obtain rfl : k = n := by omega
        obtain ⟨e, rfl⟩ := HN.out hall.out
        obtain ⟨rfl, rfl, rfl, rfl, rfl, rfl⟩ := Ves.mk.inj e
        clear HY HN hall C e HI
        have c0 := cell_of_row wr _ 0 _ _ _ HPr.out
        have f0 := frozen_of_row wr _ 0 _ _ HPr.out
        have c1 := cell_of_row wr _ 1 _ _ _ HPr.out
        have f1 := frozen_of_row wr _ 1 _ _ HPr.out
        have c2 := cell_of_row wr _ 2 _ _ _ HPr.out
        have f2 := frozen_of_row wr _ 2 _ _ HPr.out
        have c3 := cell_of_row wr _ 3 _ _ _ HPr.out
        have f3 := frozen_of_row wr _ 3 _ _ HPr.out
        have c4 := cell_of_row wr _ 4 _ _ _ HPr.out
        have f4 := frozen_of_row wr _ 4 _ _ HPr.out
        have c5 := cell_of_row wr _ 5 _ _ _ HPr.out
        have f5 := frozen_of_row wr _ 5 _ _ HPr.out
        go_wp2_with fail
        refine bodyPost_ret (results_ves rfl _ _ w.heap.size [.int .i64 0, .string ⟨#[]⟩, .int .i64 0, .int .i64 0, .int .i64 0, .int .i64 0] _ rfl (sets6_range HPr.out _ _ _ _ _ _) Tryz.underlying25 rfl (by kernel_rfl)) rfl ?_
        exact ⟨rfl, sets6_below HBr.out (Nat.le_refl _) _ _ _ _ _ _⟩

set_option maxHeartbeats 1000000 in
theorem implNamed_any {w : World} {B : Nat} {A : Option Addr} {n : Nat} {vs : List Ves} (c : Nat) (t : ByteArray) (h : IsVs w B A n vs) (hm : n ≤ maxLen) (hc : n ≤ c) (i : Int) (s : ByteArray) (l b d q : Int) (x : Bool)
    (hyes : gF vs = true → ∀ k, k < n → (∀ j, j < k → (vs.getD j noVes).name ≠ t) → (vs.getD k noVes).name = t → vs.getD k noVes = ⟨i, s, l, b, d, q⟩ ∧ x = true)
    (hno : gF vs = true → (∀ j, j < n → (vs.getD j noVes).name ≠ t) → noVes = ⟨i, s, l, b, d, q⟩ ∧ x = false) (hbad : gF vs = false → noVes = ⟨i, s, l, b, d, q⟩ ∧ x = false) :
    Calls Tryz.prog 16 #[.slice A n c, .string t] w fun e w' => e = .returned (.tuple #[.agg #[.int .i64 i, .string s, .int .i64 l, .int .i64 b, .int .i64 d, .int .i64 q], .bool x]) ∧ Below w.heap.size w w' := by
  have C := Lib.hid (fun o => isFleet_vs c (h.below ((Below.refl _ w).alloc (Nat.le_refl _) o) h.low) hm hc)
  have CP := Lib.hid (fun (W : World) (hb : Below w.heap.size w W) => placeOfName_any A n c B vs t W (by rw [h.len]; exact Nat.le_refl _) hm (by have := h.low; have := hb.size; omega) (h.has.below (hb.mono h.low)))
  have HPF := Lib.hid (fun (j : Nat) (hj : j < n) (e : (vs.getD j noVes).name = t) => pon_first hj e)
  have HPS := Lib.hid (fun g : 0 ≤ pon vs t n => pon_spec g)
  have HI := Lib.hid h
  cases hx : gF vs with
  | false =>
    rw [hx] at C
    obtain ⟨e, rfl⟩ := hbad hx
    obtain ⟨rfl, rfl, rfl, rfl, rfl, rfl⟩ := Ves.mk.inj e
    clear h hx hm HI hyes hno hbad e CP HPF HPS
    go_enter Tryz.func16, Tryz.ntmps16
    go_wp2_with fail
    refine (C.out _).mono ?_
    rintro e w1 ⟨rfl, hb⟩
    have p0 := (hb.block _ (by simp)).trans (heap_alloc_new w (.cells #[.int .i64 0, .string ⟨#[]⟩, .int .i64 0, .int .i64 0, .int .i64 0, .int .i64 0] 25))
    have HB := Lib.hid (((Below.refl _ w).alloc (Nat.le_refl _) (.cells #[.int .i64 0, .string ⟨#[]⟩, .int .i64 0, .int .i64 0, .int .i64 0, .int .i64 0] 25)).trans (hb.mono (by simp)))
    have hgz : w.heap.size < w1.heap.size := by have := hb.size; simp at this; omega
    have HP := Lib.hid p0
    clear hb p0
    have c0 := cell_of_row w1 _ 0 _ _ _ HP.out
    have f0 := frozen_of_row w1 _ 0 _ _ HP.out
    have c1 := cell_of_row w1 _ 1 _ _ _ HP.out
    have f1 := frozen_of_row w1 _ 1 _ _ HP.out
    have c2 := cell_of_row w1 _ 2 _ _ _ HP.out
    have f2 := frozen_of_row w1 _ 2 _ _ HP.out
    have c3 := cell_of_row w1 _ 3 _ _ _ HP.out
    have f3 := frozen_of_row w1 _ 3 _ _ HP.out
    have c4 := cell_of_row w1 _ 4 _ _ _ HP.out
    have f4 := frozen_of_row w1 _ 4 _ _ HP.out
    have c5 := cell_of_row w1 _ 5 _ _ _ HP.out
    have f5 := frozen_of_row w1 _ 5 _ _ HP.out
    go_wp2_with fail
    refine bodyPost_ret (results_ves rfl _ _ w.heap.size [.int .i64 0, .string ⟨#[]⟩, .int .i64 0, .int .i64 0, .int .i64 0, .int .i64 0] _ rfl (sets6_range HP.out _ _ _ _ _ _) Tryz.underlying25 rfl (by kernel_rfl)) rfl ?_
    exact ⟨rfl, sets6_below HB.out (Nat.le_refl _) _ _ _ _ _ _⟩
  | true =>
    rw [hx] at C
    have HY := Lib.hid (hyes hx)
    have HN := Lib.hid (hno hx)
    unfold maxLen at hm
    clear hyes hno hbad hx h
    go_enter Tryz.func16, Tryz.ntmps16
    go_wp2_with fail
    refine (C.out _).mono ?_
    rintro e w1 ⟨rfl, hb⟩
    have p0 := (hb.block _ (by simp)).trans (heap_alloc_new w (.cells #[.int .i64 0, .string ⟨#[]⟩, .int .i64 0, .int .i64 0, .int .i64 0, .int .i64 0] 25))
    have HB := Lib.hid (((Below.refl _ w).alloc (Nat.le_refl _) (.cells #[.int .i64 0, .string ⟨#[]⟩, .int .i64 0, .int .i64 0, .int .i64 0, .int .i64 0] 25)).trans (hb.mono (by simp)))
    have hgz : w.heap.size < w1.heap.size := by have := hb.size; simp at this; omega
    have HP := Lib.hid p0
    clear hb p0
    go_wp2_with fail
    refine (CP.out _ HB.out).mono ?_
    rintro e w2 ⟨rfl, hb⟩
    have HB2 := Lib.hid (HB.out.trans (hb.mono HB.out.size))
    have HP2 := Lib.hid ((hb.block _ hgz).trans HP.out)
    clear hb HB HP C CP hgz
    by_cases hz : pon vs t n < 0
    · obtain ⟨e, rfl⟩ := HN.out (fun j hj e => absurd (HPF.out j hj e) (by omega))
      obtain ⟨rfl, rfl, rfl, rfl, rfl, rfl⟩ := Ves.mk.inj e
      generalize pon vs t n = z at hz ⊢
      clear HY HN HPF HPS e HI
      have c0 := cell_of_row w2 _ 0 _ _ _ HP2.out
      have f0 := frozen_of_row w2 _ 0 _ _ HP2.out
      have c1 := cell_of_row w2 _ 1 _ _ _ HP2.out
      have f1 := frozen_of_row w2 _ 1 _ _ HP2.out
      have c2 := cell_of_row w2 _ 2 _ _ _ HP2.out
      have f2 := frozen_of_row w2 _ 2 _ _ HP2.out
      have c3 := cell_of_row w2 _ 3 _ _ _ HP2.out
      have f3 := frozen_of_row w2 _ 3 _ _ HP2.out
      have c4 := cell_of_row w2 _ 4 _ _ _ HP2.out
      have f4 := frozen_of_row w2 _ 4 _ _ HP2.out
      have c5 := cell_of_row w2 _ 5 _ _ _ HP2.out
      have f5 := frozen_of_row w2 _ 5 _ _ HP2.out
      go_wp2_with fail
      refine bodyPost_ret (results_ves rfl _ _ w.heap.size [.int .i64 0, .string ⟨#[]⟩, .int .i64 0, .int .i64 0, .int .i64 0, .int .i64 0] _ rfl (sets6_range HP2.out _ _ _ _ _ _) Tryz.underlying25 rfl (by kernel_rfl)) rfl ?_
      exact ⟨rfl, sets6_below HB2.out (Nat.le_refl _) _ _ _ _ _ _⟩
    · obtain ⟨k, hk, he, hkt, hfst⟩ := HPS.out (by omega)
      have hkl : k < vs.length := by rw [HI.out.len]; exact hk
      obtain ⟨a1, rfl, hab, HV⟩ := (HI.out.below HB2.out HI.out.low).has.ves hkl
      obtain ⟨e, rfl⟩ := HY.out k hk hfst hkt
      rw [he]
      rw [e] at HV
      obtain ⟨e0, e1, e2, e3, e4, e5⟩ := HV
      dsimp only at e0 e1 e2 e3 e4 e5
      have hk0 : (0 : Int) ≤ (k : Int) := by omega
      have hk1 : (k : Int) < (n : Int) := by omega
      clear HY HN HPF HPS e HI hkt hfst he hz
      have c0 := cell_of_row w2 _ 0 _ _ _ HP2.out
      have f0 := frozen_of_row w2 _ 0 _ _ HP2.out
      have c1 := cell_of_row w2 _ 1 _ _ _ HP2.out
      have f1 := frozen_of_row w2 _ 1 _ _ HP2.out
      have c2 := cell_of_row w2 _ 2 _ _ _ HP2.out
      have f2 := frozen_of_row w2 _ 2 _ _ HP2.out
      have c3 := cell_of_row w2 _ 3 _ _ _ HP2.out
      have f3 := frozen_of_row w2 _ 3 _ _ HP2.out
      have c4 := cell_of_row w2 _ 4 _ _ _ HP2.out
      have f4 := frozen_of_row w2 _ 4 _ _ HP2.out
      have c5 := cell_of_row w2 _ 5 _ _ _ HP2.out
      have f5 := frozen_of_row w2 _ 5 _ _ HP2.out
      go_wp2_with fail
      refine bodyPost_ret (results_ves rfl _ _ w.heap.size [.int .i64 i, .string s, .int .i64 l, .int .i64 b, .int .i64 d, .int .i64 q] _ rfl (sets6_range HP2.out _ _ _ _ _ _) Tryz.underlying25 rfl (by kernel_rfl)) rfl ?_
      exact ⟨rfl, sets6_below HB2.out (Nat.le_refl _) _ _ _ _ _ _⟩

/-- What both are asked for. -/
theorem named_two (vs : List Ves) (n : Nat) (t : ByteArray) : ∃ (i : Int) (s : ByteArray) (l b d q : Int) (x : Bool),
    (gF vs = true → ∀ k, k < n → (∀ j, j < k → (vs.getD j noVes).name ≠ t) → (vs.getD k noVes).name = t → vs.getD k noVes = ⟨i, s, l, b, d, q⟩ ∧ x = true) ∧
    (gF vs = true → (∀ j, j < n → (vs.getD j noVes).name ≠ t) → noVes = ⟨i, s, l, b, d, q⟩ ∧ x = false) ∧ (gF vs = false → noVes = ⟨i, s, l, b, d, q⟩ ∧ x = false) := by
  cases h : gF vs with
  | false => exact ⟨_, _, _, _, _, _, false, fun g => (by cases g), fun g => (by cases g), fun _ => ⟨rfl, rfl⟩⟩
  | true =>
    by_cases hz : 0 ≤ pon vs t n
    · obtain ⟨k, hk, he, hkt, hfst⟩ := pon_spec hz
      refine ⟨(vs.getD k noVes).id, (vs.getD k noVes).name, (vs.getD k noVes).len, (vs.getD k noVes).wid, (vs.getD k noVes).dr, (vs.getD k noVes).kind, true, fun _ k' hk' hf' ht' => ?_, fun _ g => absurd hkt (g k hk), fun g => (by cases g)⟩
      obtain rfl : k' = k := by
        rcases Nat.lt_trichotomy k' k with h1 | h1 | h1
        · exact absurd ht' (hfst k' h1)
        · exact h1
        · exact absurd hkt (hf' k h1)
      exact ⟨rfl, rfl⟩
    · exact ⟨_, _, _, _, _, _, false, fun _ k hk hf ht => absurd (pon_first hk ht) hz, fun _ _ => ⟨rfl, rfl⟩, fun g => (by cases g)⟩
end Go.Proofs.YtliebicnejbheabGreatDoor
