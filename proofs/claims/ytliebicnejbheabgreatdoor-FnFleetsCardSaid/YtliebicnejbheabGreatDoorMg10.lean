/- Texts that are joined: BinS. -/
import Derived.Test.YtliebicnejbheabGreatDoorMg09
/- Chapter 3, the program: the place of an Id, by a binary search. -/
namespace Go.Proofs.YtliebicnejbheabGreatDoor
open Go.RowKit Go.PlainAid Go.Sort

/-- What comparing two integers tells. -/
def cmpI (x y : Int) : Int := if x < y then -1 else if y < x then 1 else 0
theorem cmpI_neg (x y : Int) : cmpI x y < 0 ↔ x < y := by
  unfold cmpI
  split
  · omega
  · split <;> omega
theorem cmpI_zero (x y : Int) : cmpI x y = 0 ↔ x = y := by
  unfold cmpI
  split
  · omega
  · split <;> omega
set_option maxHeartbeats 400000 in
theorem isNaN_any (x : Int) (w : World) : Calls Tryz.prog 74 #[.int .i64 x] w fun e w' => e = .returned (.bool false) ∧ w = w' := by
  have h : (x != x) = false := by simp
  go_enter Tryz.func74, Tryz.ntmps74
  go_wp2
  go_ret
  exact ⟨rfl, rfl⟩
set_option maxHeartbeats 400000 in
theorem cmpInt_any (x y : Int) (w : World) : Calls Tryz.prog 58 #[.int .i64 x, .int .i64 y] w fun e w' => e = .returned (.int .i64 (cmpI x y)) ∧ w = w' := by
  have C := Lib.hid (fun z W => isNaN_any z W)
  unfold cmpI
  by_cases h1 : x < y
  · rw [if_pos h1]
    go_enter Tryz.func58, Tryz.ntmps58
    go_wp2_with fail
    refine (C.out _ _).mono ?_
    rintro e w1 ⟨rfl, rfl⟩
    go_wp2_with fail
    refine (C.out _ _).mono ?_
    rintro e w1 ⟨rfl, rfl⟩
    go_wp2_with fail
    go_ret
    exact ⟨rfl, rfl⟩
  · rw [if_neg h1]
    by_cases h2 : y < x
    · rw [if_pos h2]
      go_enter Tryz.func58, Tryz.ntmps58
      go_wp2_with fail
      refine (C.out _ _).mono ?_
      rintro e w1 ⟨rfl, rfl⟩
      go_wp2_with fail
      refine (C.out _ _).mono ?_
      rintro e w1 ⟨rfl, rfl⟩
      go_wp2_with fail
      go_ret
      exact ⟨rfl, rfl⟩
    · rw [if_neg h2]
      go_enter Tryz.func58, Tryz.ntmps58
      go_wp2_with fail
      refine (C.out _ _).mono ?_
      rintro e w1 ⟨rfl, rfl⟩
      go_wp2_with fail
      refine (C.out _ _).mono ?_
      rintro e w1 ⟨rfl, rfl⟩
      go_wp2_with fail
      go_ret
      exact ⟨rfl, rfl⟩
set_option maxHeartbeats 400000 in
theorem cmpId_any (i : Int) (s : ByteArray) (l b d q : Int) (t : Int) (w : World) :
    Calls Tryz.prog 57 #[.agg #[.int .i64 i, .string s, .int .i64 l, .int .i64 b, .int .i64 d, .int .i64 q], .int .i64 t] w fun e w' => e = .returned (.int .i64 (cmpI i t)) ∧ Below w.heap.size w w' := by
  have C := Lib.hid (fun W => cmpInt_any i t W)
  generalize cmpI i t = z at C ⊢
  go_enter Tryz.func57, Tryz.ntmps57
  go_wp2_with fail
  refine (C.out _).mono ?_
  rintro e w1 ⟨rfl, rfl⟩
  go_wp2_with fail
  go_ret
  exact ⟨rfl, (Below.refl _ _).alloc (Nat.le_refl _) _⟩

/-- The Ids ascend. -/
def Asc (vs : List Ves) : Prop := ∀ i j, i < j → j < vs.length → (vs.getD i noVes).id < (vs.getD j noVes).id
/-- What a search for the Id t tells: the place p and whether it is there. -/
def Sought (vs : List Ves) (t : Int) (p : Nat) (x : Bool) : Prop :=
  p ≤ vs.length ∧ (Asc vs → (∀ j, j < p → (vs.getD j noVes).id < t) ∧ (∀ j, p ≤ j → j < vs.length → t ≤ (vs.getD j noVes).id)) ∧ (x = true ↔ p < vs.length ∧ (vs.getD p noVes).id = t)

set_option maxHeartbeats 1000000 in
theorem binS_any (A : Option Addr) (n c B : Nat) (vs : List Ves) (t : Int) (w : World) (hn : vs.length = n) (hm : n ≤ 1048576) (hB : B ≤ w.heap.size) (h : Has w B A (flatV vs)) :
    Calls Tryz.prog 56 #[.slice A n c, .int .i64 t, .func (.func 57) #[] #[]] w
      fun e w' => ∃ p x, Sought vs t p x ∧ e = .returned (.tuple #[.int .i64 p, .bool x]) ∧ Below w.heap.size w w' := by
  have CC := Lib.hid (fun (i : Int) (s : ByteArray) (l b d q : Int) (W : World) => cmpId_any i s l b d q t W)
  have HL := Lib.hid hn
  have H := Lib.hid h
  clear hn h
  go_enter Tryz.func56, Tryz.ntmps56
  go_wp2_with fail
  go_loopw [9, 10] (fun i j wr => ∃ a b : Nat, a ≤ b ∧ b ≤ n ∧ i = .int .i64 a ∧ j = .int .i64 b ∧ Hid (Asc vs → (∀ q, q < a → (vs.getD q noVes).id < t) ∧ (∀ q, b ≤ q → q < vs.length → t ≤ (vs.getD q noVes).id)) ∧ Below w.heap.size w wr) (fun i j _ => (intOf j).toNat - (intOf i).toNat)
  case atStart => exact ⟨0, n, Nat.zero_le _, Nat.le_refl _, rfl, rfl, Lib.hid (fun _ => ⟨fun q hq => absurd hq (by omega), fun q h1 h2 => absurd h2 (by rw [HL.out]; omega)⟩), Below.refl _ _⟩
  case round =>
    obtain ⟨a, b, hab, hbn, rfl, rfl, hinv, hb⟩ := hrel
    by_cases hlt : a < b
    · obtain ⟨m, hm2⟩ : ∃ m, (a + b) / 2 = m := ⟨_, rfl⟩
      have hml : m < vs.length := by rw [HL.out]; omega
      obtain ⟨a1, rfl, hb1, HV⟩ := (H.out.below (hb.mono hB)).ves hml
      have HID : Hid (∀ V, vs.getD m noVes = V → (V.id < t → (Asc vs → (∀ q, q < m + 1 → (vs.getD q noVes).id < t) ∧ (∀ q, b ≤ q → q < vs.length → t ≤ (vs.getD q noVes).id))) ∧ (¬ V.id < t → (Asc vs → (∀ q, q < a → (vs.getD q noVes).id < t) ∧ (∀ q, m ≤ q → q < vs.length → t ≤ (vs.getD q noVes).id)))) := Lib.hid (fun V hV => ⟨fun h1 ha => ⟨fun q hq => by
          rcases Nat.lt_succ_iff_lt_or_eq.1 hq with h2 | h2
          · have := ha q m h2 hml
            rw [hV] at this
            omega
          · rw [h2, hV]; exact h1, (hinv.out ha).2⟩, fun h1 ha => ⟨(hinv.out ha).1, fun q h2 h3 => by
          rcases Nat.lt_or_eq_of_le h2 with h4 | h4
          · have := ha m q h4 h3
            rw [hV] at this
            omega
          · rw [← h4, hV]; omega⟩⟩)
      have HD := Lib.hid (HID.out _ rfl)
      generalize vs.getD m noVes = V at HV HD
      obtain ⟨i, s, l, bb, d, q⟩ := V
      obtain ⟨e0, e1, e2, e3, e4, e5⟩ := HV
      dsimp only at e0 e1 e2 e3 e4 e5
      have HB := Lib.hid hb
      have C := Lib.hid (fun W => CC.out i s l bb d q W)
      have hk0 : (0 : Int) ≤ (a : Int) := by omega
      have hk1 : (a : Int) < (b : Int) := by omega
      have hk2 : (b : Int) ≤ (n : Int) := by omega
      have hm3 : ((a : Int) + (b : Int)) / 2 = (m : Int) := by omega
      have hm4 : (m : Int) < (n : Int) := by omega
      have hm5 : (0 : Int) ≤ (m : Int) := by omega
      clear hb hinv HID hm2
      by_cases hit : i < t
      · have hneg : cmpI i t < 0 := (cmpI_neg i t).2 hit
        have HR := Lib.hid (HD.out.1 hit)
        generalize cmpI i t = z at C hneg
        clear HD hit CC
        go_wp2_with fail
        refine (C.out _).mono ?_
        rintro e w2 ⟨rfl, hb2⟩
        have HB2 := Lib.hid (HB.out.trans (hb2.mono HB.out.size))
        clear hb2 e0 e1 e2 e3 e4 e5
        go_wp2_with fail
        refine ⟨⟨m + 1, b, by omega, by omega, by go_num, rfl, HR, HB2.out⟩, by simp [intOf]; omega⟩
      · have hneg : ¬ cmpI i t < 0 := fun h => hit ((cmpI_neg i t).1 h)
        have HR := Lib.hid (HD.out.2 hit)
        generalize cmpI i t = z at C hneg
        clear HD hit CC
        go_wp2_with fail
        refine (C.out _).mono ?_
        rintro e w2 ⟨rfl, hb2⟩
        have HB2 := Lib.hid (HB.out.trans (hb2.mono HB.out.size))
        clear hb2 e0 e1 e2 e3 e4 e5
        go_wp2_with fail
        refine ⟨⟨a, m, by omega, by omega, rfl, rfl, HR, HB2.out⟩, by simp [intOf]; omega⟩
    · obtain rfl : a = b := by omega
      by_cases han : a < n
      · have hml : a < vs.length := by rw [HL.out]; exact han
        obtain ⟨a1, rfl, hb1, HV⟩ := (H.out.below (hb.mono hB)).ves hml
        have HD : Hid (∀ x, (x = true ↔ (vs.getD a noVes).id = t) → Sought vs t a x) := Lib.hid (fun x hx => ⟨by omega, hinv.out, hx.trans ⟨fun h => ⟨hml, h⟩, fun h => h.2⟩⟩)
        generalize vs.getD a noVes = V at HV HD
        obtain ⟨i, s, l, bb, d, q⟩ := V
        obtain ⟨e0, e1, e2, e3, e4, e5⟩ := HV
        dsimp only at e0 e1 e2 e3 e4 e5
        have HD' : Hid (∀ x, (x = true ↔ i = t) → Sought vs t a x) := Lib.hid HD.out
        have HB := Lib.hid hb
        have C := Lib.hid (fun W => CC.out i s l bb d q W)
        have hk0 : (0 : Int) ≤ (a : Int) := by omega
        have hk1 : (a : Int) < (n : Int) := by omega
        by_cases hit : i = t
        · have hz : cmpI i t = 0 := (cmpI_zero i t).2 hit
          have HR := Lib.hid (HD'.out true ⟨fun _ => hit, fun _ => rfl⟩)
          generalize cmpI i t = z at C hz
          subst hz
          clear HD HD' hit CC hb hinv H
          go_wp2_with fail
          refine (C.out _).mono ?_
          rintro e w2 ⟨rfl, hb2⟩
          have HB2 := Lib.hid (HB.out.trans (hb2.mono HB.out.size))
          clear hb2 e0 e1 e2 e3 e4 e5
          go_wp2_with fail
          refine bodyPost_ret (results_tmp2 rfl _ _ _) rfl ?_
          exact ⟨a, true, HR.out, rfl, HB2.out⟩
        · have hz : cmpI i t ≠ 0 := fun h => hit ((cmpI_zero i t).1 h)
          have HR := Lib.hid (HD'.out false ⟨fun h => (by cases h), fun h => absurd h hit⟩)
          generalize cmpI i t = z at C hz
          have hz2 : (z == 0) = false := by simp [hz]
          clear HD HD' hit CC hb hinv H
          go_wp2_with fail
          refine (C.out _).mono ?_
          rintro e w2 ⟨rfl, hb2⟩
          have HB2 := Lib.hid (HB.out.trans (hb2.mono HB.out.size))
          clear hb2 e0 e1 e2 e3 e4 e5
          go_wp2_with fail
          refine bodyPost_ret (results_tmp2 rfl _ _ _) rfl ?_
          exact ⟨a, false, HR.out, rfl, HB2.out⟩
      · have HR : Hid (Sought vs t a false) := Lib.hid ⟨by rw [HL.out]; omega, hinv.out, ⟨fun h => (by cases h), fun h => absurd h.1 (by rw [HL.out]; omega)⟩⟩
        have HB := Lib.hid hb
        clear hinv hb CC H
        go_wp2_with fail
        refine bodyPost_ret (results_tmp2 rfl _ _ _) rfl ?_
        exact ⟨a, false, HR.out, rfl, HB.out⟩

set_option maxHeartbeats 1000000 in
theorem placeOfId_any (A : Option Addr) (n c B : Nat) (vs : List Ves) (t : Int) (w : World) (hn : vs.length = n) (hm : n ≤ 1048576) (hB : B ≤ w.heap.size) (h : Has w B A (flatV vs)) :
    Calls Tryz.prog 40 #[.slice A n c, .int .i64 t] w fun e w' => ∃ p x, Sought vs t p x ∧ e = .returned (.tuple #[.int .i64 p, .bool x]) ∧ Below w.heap.size w w' := by
  have C := Lib.hid (fun W (hb : Below w.heap.size w W) => binS_any A n c B vs t W hn hm (by have := hb.size; omega) (h.below (hb.mono hB)))
  clear hn hm hB h
  go_enter Tryz.func40, Tryz.ntmps40
  go_wp2_with fail
  refine (C.out _ (Below.refl _ _)).mono ?_
  rintro e w1 ⟨p, x, hs, rfl, hb⟩
  have HS := Lib.hid hs
  have HB := Lib.hid hb
  clear hs hb C
  go_wp2_with fail
  refine bodyPost_ret (results_tmp2 rfl _ _ _) rfl ?_
  exact ⟨p, x, HS.out, rfl, HB.out⟩
end Go.Proofs.YtliebicnejbheabGreatDoor
