/- Texts that are joined: FleetI. -/
import Derived.Test.YtliebicnejbheabGreatDoorMg05
import Derived.Test.YtliebicnejbheabGreatDoorMg06
/- Chapter 3, the program: whether a list of vessels is a fleet. -/
namespace Go.Proofs.YtliebicnejbheabGreatDoor
open Go.RowKit Go.PlainAid Go.Sort

/-- The first of the first k vessels with this name. -/
noncomputable def pon (vs : List Ves) (s : ByteArray) : Nat → Int
  | 0 => -1
  | k + 1 => open Classical in if pon vs s k < 0 ∧ (vs.getD k noVes).name = s then (k : Int) else pon vs s k
theorem pon_none {vs : List Ves} {s : ByteArray} : ∀ k, (∀ j, j < k → (vs.getD j noVes).name ≠ s) → pon vs s k = -1
  | 0, _ => rfl
  | k + 1, h => by
    rw [pon, pon_none k (fun j hj => h j (by omega)), if_neg (fun g => h k (by omega) g.2)]
theorem pon_hit {vs : List Ves} {s : ByteArray} {k : Nat} (h : ∀ j, j < k → (vs.getD j noVes).name ≠ s) (hk : (vs.getD k noVes).name = s) : ∀ d, pon vs s (k + 1 + d) = k
  | 0 => by
    show pon vs s (k + 1) = k
    rw [pon, pon_none k h, if_pos ⟨by omega, hk⟩]
  | d + 1 => by
    have ih := pon_hit h hk d
    show pon vs s (k + 1 + d + 1) = k
    rw [pon, ih, if_neg (by omega)]
theorem pon_bd (vs : List Ves) (s : ByteArray) : ∀ k, -1 ≤ pon vs s k ∧ pon vs s k < k
  | 0 => ⟨Int.le_refl _, by show (-1 : Int) < 0; omega⟩
  | k + 1 => by
    have ih := pon_bd vs s k
    rw [pon]
    split <;> omega
theorem pon_first {vs : List Ves} {s : ByteArray} {k j : Nat} (hj : j < k) (e : (vs.getD j noVes).name = s) : 0 ≤ pon vs s k := by
  induction k with
  | zero => exact absurd hj (by omega)
  | succ k ih =>
    rw [pon]
    split
    · omega
    · next g =>
      rcases Nat.lt_succ_iff_lt_or_eq.1 hj with h1 | h1
      · exact ih h1
      · subst h1
        have := pon_bd vs s j
        by_cases h2 : pon vs s j < 0
        · exact absurd ⟨h2, e⟩ g
        · omega

theorem pon_spec {vs : List Ves} {s : ByteArray} {k : Nat} (h : 0 ≤ pon vs s k) : ∃ j, j < k ∧ pon vs s k = j ∧ (vs.getD j noVes).name = s ∧ ∀ i, i < j → (vs.getD i noVes).name ≠ s := by
  induction k with
  | zero => exact absurd h (by show ¬ (0 : Int) ≤ -1; omega)
  | succ k ih =>
    rw [pon] at h ⊢
    split at h
    · next g => rw [if_pos g]; exact ⟨k, by omega, rfl, g.2, fun i hi e => by have := pon_first hi e; omega⟩
    · next g =>
      rw [if_neg g]
      obtain ⟨j, hj, e, hn⟩ := ih h
      exact ⟨j, by omega, e, hn⟩

set_option maxHeartbeats 800000 in
theorem named_any (i : Int) (s : ByteArray) (l b d q : Int) (p : Addr) (t : ByteArray) (r : Bool) (w : World) (hc : w.cell? p = some (.string t)) (hyes : s = t → r = true) (hno : s ≠ t → r = false) :
    Calls Tryz.prog 61 #[.agg #[.int .i64 i, .string s, .int .i64 l, .int .i64 b, .int .i64 d, .int .i64 q], .pointer (some p)] w fun e w' => e = .returned (.bool r) ∧ Below w.heap.size w w' := by
  have hc' := fun (o : Obj) => (World.cell?_alloc_lt w o p (World.block_lt_of_cell? w p hc)).trans hc
  by_cases hst : s = t
  · subst hst
    obtain rfl : r = true := hyes rfl
    clear hyes hno hc
    go_enter Tryz.func61, Tryz.ntmps61
    go_wp2
    go_ret
    exact ⟨rfl, (Below.refl _ _).alloc (Nat.le_refl _) _⟩
  · obtain rfl : r = false := hno hst
    have hne := list_ne hst
    clear hyes hno hc
    go_enter Tryz.func61, Tryz.ntmps61
    go_wp2
    go_ret
    exact ⟨rfl, (Below.refl _ _).alloc (Nat.le_refl _) _⟩

set_option maxHeartbeats 1000000 in
theorem idxV_any (A : Option Addr) (n c B : Nat) (vs : List Ves) (p : Addr) (t : ByteArray) (w : World) (hn : n ≤ vs.length) (hm : n ≤ maxLen) (hB : B ≤ w.heap.size) (h : Has w B A (flatV vs)) (hc : w.cell? p = some (.string t)) :
    Calls Tryz.prog 60 #[.slice A n c, .func (.func 61) #[] #[.pointer (some p)]] w fun e w' => e = .returned (.int .i64 (pon vs t n)) ∧ Below w.heap.size w w' := by
  unfold maxLen at hm
  have CN := Lib.hid (fun (i : Int) (s : ByteArray) (l b d q : Int) (r : Bool) (W : World) (hc : W.cell? p = some (.string t)) (hyes : s = t → r = true) (hno : s ≠ t → r = false) => named_any i s l b d q p t r W hc hyes hno)
  have hpb := World.block_lt_of_cell? w p hc
  have HC := Lib.hid (fun W (hb : Below w.heap.size w W) => (hb.cell hpb).trans hc)
  have HL := Lib.hid hn
  have H := Lib.hid h
  have HP0 := Lib.hid (fun (k : Nat) (h : ∀ j, j < k → (vs.getD j noVes).name ≠ t) => pon_none k h)
  have HP1 := Lib.hid (fun (k d : Nat) (h : ∀ j, j < k → (vs.getD j noVes).name ≠ t) (hk : (vs.getD k noVes).name = t) => pon_hit h hk d)
  clear hn h hpb hc
  go_enter Tryz.func60, Tryz.ntmps60
  go_wp2_with fail
  go_loopw [8] (fun i wr => ∃ k : Nat, k ≤ n ∧ i = .int .i64 k ∧ Hid (∀ j, j < k → (vs.getD j noVes).name ≠ t) ∧ Below w.heap.size w wr) (fun i _ => n - (intOf i).toNat)
  case atStart => exact ⟨0, Nat.zero_le _, rfl, Lib.hid (by simp), Below.refl _ _⟩
  case round =>
    obtain ⟨k, hk, rfl, hall, hb⟩ := hrel
    by_cases hlt : k < n
    · have hkl : k < vs.length := Nat.lt_of_lt_of_le hlt HL.out
      obtain ⟨a1, rfl, hab, HV⟩ := (H.out.below (hb.mono hB)).ves hkl
      have HE : Hid ((vs.getD k noVes).name = t → pon vs t n = k) := Lib.hid (fun h => by
        have := HP1.out k (n - (k + 1)) hall.out h
        rwa [show k + 1 + (n - (k + 1)) = n by omega] at this)
      have HA : Hid ((vs.getD k noVes).name ≠ t → ∀ j, j < k + 1 → (vs.getD j noVes).name ≠ t) := Lib.hid (fun h j hj => by
        rcases Nat.lt_succ_iff_lt_or_eq.1 hj with h1 | h1
        · exact hall.out j h1
        · exact h1 ▸ h)
      generalize vs.getD k noVes = V at HV HE HA
      obtain ⟨i, s, l, b, d, q⟩ := V
      obtain ⟨e0, e1, e2, e3, e4, e5⟩ := HV
      have hE : Hid (s = t → pon vs t n = k) := Lib.hid HE.out
      have hA : Hid (s ≠ t → ∀ j, j < k + 1 → (vs.getD j noVes).name ≠ t) := Lib.hid HA.out
      dsimp only at e0 e1 e2 e3 e4 e5
      have HB := Lib.hid hb
      have hk0 : (0 : Int) ≤ (k : Int) := by omega
      have hk1 : (k : Int) < (n : Int) := by omega
      by_cases hst : s = t
      · have HR := Lib.hid (hE.out hst)
        have C := Lib.hid (fun W hc => CN.out i s l b d q true W hc (fun _ => rfl) (fun h => absurd hst h))
        clear HE HA hE hA hall hb hst H HP0 HP1 CN
        go_wp2_with fail
        refine (C.out _ (HC.out _ HB.out)).mono ?_
        rintro e w2 ⟨rfl, hb2⟩
        have HB2 := Lib.hid (HB.out.trans (hb2.mono HB.out.size))
        clear hb2 e0 e1 e2 e3 e4 e5
        go_wp2_with fail
        go_ret
        exact ⟨ret_int HR.out.symm, HB2.out⟩
      · have HR := Lib.hid (hA.out hst)
        have C := Lib.hid (fun W hc => CN.out i s l b d q false W hc (fun h => absurd h hst) (fun _ => rfl))
        clear HE HA hE hA hall hb hst H HP0 HP1 CN
        go_wp2_with fail
        refine (C.out _ (HC.out _ HB.out)).mono ?_
        rintro e w2 ⟨rfl, hb2⟩
        have HB2 := Lib.hid (HB.out.trans (hb2.mono HB.out.size))
        clear hb2 e0 e1 e2 e3 e4 e5
        go_wp2_with fail
        refine ⟨⟨k + 1, by omega, by go_num, HR, HB2.out⟩, by simp [intOf]; omega⟩
    · obtain rfl : k = n := by omega
      have HR := Lib.hid (HP0.out _ hall.out)
      clear H HP0 HP1 CN HC hall
      go_wp2
      go_ret
      exact ⟨ret_int HR.out.symm, hb⟩

set_option maxHeartbeats 1000000 in
theorem placeOfName_any (A : Option Addr) (n c B : Nat) (vs : List Ves) (t : ByteArray) (w : World) (hn : n ≤ vs.length) (hm : n ≤ maxLen) (hB : B ≤ w.heap.size) (h : Has w B A (flatV vs)) :
    Calls Tryz.prog 43 #[.slice A n c, .string t] w fun e w' => e = .returned (.int .i64 (pon vs t n)) ∧ Below w.heap.size w w' := by
  have C := Lib.hid (fun W (hb : Below w.heap.size w W) (p : Addr) (hc : W.cell? p = some (.string t)) => idxV_any A n c B vs p t W hn hm (by have := hb.size; omega) (h.below (hb.mono hB)) hc)
  generalize pon vs t n = z at C ⊢
  clear hn hm hB h
  go_enter Tryz.func43, Tryz.ntmps43
  go_wp2_with fail
  have hb0 : Below w.heap.size w (w.alloc (.cells #[.string t] 9)) := (Below.refl _ _).alloc (Nat.le_refl _) _
  refine (C.out _ hb0 _ (by rw [vNew]; rfl)).mono ?_
  rintro e w1 ⟨rfl, hb⟩
  have HB := Lib.hid (hb0.trans (hb.mono hb0.size))
  clear hb hb0
  go_wp2_with fail
  go_ret
  exact ⟨rfl, HB.out⟩
end Go.Proofs.YtliebicnejbheabGreatDoor
