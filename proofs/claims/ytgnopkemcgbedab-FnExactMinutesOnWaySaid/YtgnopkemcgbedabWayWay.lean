/- Chapter 2: a waterway in memory, in one word; its copy, its equality, its size, whether it is valid, in these words. -/
import Derived.Test.YtgnopkemcgbedabWayIn
import Derived.Test.YtgnopkemcgbedabWayImpl
import Derived.Test.YtgnopkemcgbedabCur
namespace Go.Proofs.Ytgnopkemcgbedab
open Go.RowKit Go.PlainAid

/-- A waterway's reaches and rises lie below block B. -/
structure IsWay (w : World) (B : Nat) (A : Option Addr) (n : Nat) (A2 : Option Addr) (n2 : Nat) (rs : List (Int × Int × Int)) (zs : List Int) : Prop where
  len : rs.length = n
  len2 : zs.length = n2
  low : B ≤ w.heap.size
  has : Has w B A (flat rs)
  has2 : Has w B A2 (zs.map (.int .i64))
theorem IsWay.below {w w' : World} {B C : Nat} {A A2 : Option Addr} {n n2 : Nat} {rs : List (Int × Int × Int)} {zs : List Int} (h : IsWay w B A n A2 n2 rs zs) (hb : Below C w w') (hC : B ≤ C) : IsWay w' B A n A2 n2 rs zs :=
  ⟨h.len, h.len2, Nat.le_trans h.low hb.size, h.has.below (hb.mono hC), h.has2.below (hb.mono hC)⟩
theorem IsWay.all {w : World} {B : Nat} {A A2 : Option Addr} {n n2 : Nat} {rs : List (Int × Int × Int)} {zs : List Int} (h : IsWay w B A n A2 n2 rs zs) : IsWay w w.heap.size A n A2 n2 rs zs :=
  ⟨h.len, h.len2, Nat.le_refl _, h.has.more h.low, h.has2.more h.low⟩

/-- The words of a waterway's two slices. -/
abbrev wv (A : Option Addr) (n c : Nat) (A2 : Option Addr) (n2 c2 : Nat) : Value := .agg #[.slice A n c, .slice A2 n2 c2]

theorem good_two {w : World} {B : Nat} {A A2 : Option Addr} {n n2 : Nat} {rs : List (Int × Int × Int)} {zs : List Int} (c c2 : Nat) (h : IsWay w B A n A2 n2 rs zs) (hm : n ≤ maxLen) (b : Bool) (hyes : goodW rs zs → b = true) (hno : ¬ goodW rs zs → b = false) :
    Calls Try.prog 94 #[.agg #[.slice A n c, .slice A2 n2 c2]] w (fun e w' => e = .returned (.bool b) ∧ Below w.heap.size w w') ∧
    Calls Try.prog 97 #[.agg #[.slice A n c, .slice A2 n2 c2]] w (fun e w' => e = .returned (.bool b) ∧ Below w.heap.size w w') :=
  ⟨l2Good_any A A2 n c n2 c2 B rs zs w b h.len h.len2 hm h.low h.has h.has2 hyes hno, implGood_any A A2 n c n2 c2 B rs zs w b h.len h.len2 hm h.low h.has h.has2 hyes hno⟩

/-- The call hands back a waterway in memory of its own. -/
def GivesWay (w : World) (n n2 : Nat) (rs : List (Int × Int × Int)) (zs : List Int) (e : Ending) (w' : World) : Prop :=
  ∃ g g2, e = .returned (.agg #[.slice (some ⟨g, 0, none⟩) n n, .slice (some ⟨g2, 0, none⟩) n2 n2]) ∧ g ≠ g2 ∧
      w'.ownsRow w.heap.size 83 3 (.slice (some ⟨g, 0, none⟩) n n) n (flat rs) ∧ w'.ownsRow w.heap.size 3 1 (.slice (some ⟨g2, 0, none⟩) n2 n2) n2 (zs.map (.int .i64)) ∧ Below w.heap.size w w'

theorem own_has {w : World} {base : Nat} {e : TypeId} {size : Nat} {g n c : Nat} {xs : List Value} (h : w.ownsRow base e size (.slice (some ⟨g, 0, none⟩) n c) n xs) (hl : xs.length = n * size) : Has w w.heap.size (some ⟨g, 0, none⟩) xs := by
  intro k u hu
  have hk := (List.getElem?_eq_some_iff.1 hu).1
  refine ⟨_, rfl, (h.lt g rfl).2, ?_⟩
  have := h.cellAt k (by omega)
  rw [← hu, ← this]
  congr 1
  unfold Addr.add
  split
  · next h0 => subst h0; rfl
  · simp

theorem toW_way {w : World} {B : Nat} {A A2 : Option Addr} {n n2 : Nat} {rs : List (Int × Int × Int)} {zs : List Int} (c c2 : Nat) (h : IsWay w B A n A2 n2 rs zs) (hm : n ≤ 1048576) (hm2 : n2 ≤ 1048576) :
    Calls Try.prog 40 #[.agg #[.slice A n c, .slice A2 n2 c2]] w fun e w' => ∃ g g2, e = .returned (.agg #[.slice (some ⟨g, 0, none⟩) n n, .slice (some ⟨g2, 0, none⟩) n2 n2]) ∧ g ≠ g2 ∧
      w'.ownsRow w.heap.size 83 3 (.slice (some ⟨g, 0, none⟩) n n) n (flat rs) ∧ w'.ownsRow w.heap.size 3 1 (.slice (some ⟨g2, 0, none⟩) n2 n2) n2 (zs.map (.int .i64)) ∧
      IsWay w' w'.heap.size (some ⟨g, 0, none⟩) n (some ⟨g2, 0, none⟩) n2 rs zs ∧ Below w.heap.size w w' := by
  have hl := h.len
  have hl2 := h.len2
  refine (toW_any A A2 n c n2 c2 B rs zs w h.len h.len2 hm hm2 h.low h.has h.has2).mono ?_
  rintro e w' ⟨g, g2, rfl, hne, ho1, ho2, hb⟩
  exact ⟨g, g2, rfl, hne, ho1, ho2, ⟨h.len, h.len2, Nat.le_refl _, own_has ho1 (by rw [flat_len, hl]; omega), own_has ho2 (by simp [hl2])⟩, hb⟩

theorem eqW_way {w : World} {B B' : Nat} {A A2 D D2 : Option Addr} {n n2 : Nat} {rs : List (Int × Int × Int)} {zs : List Int} (c c2 d d2 : Nat) (h : IsWay w B A n A2 n2 rs zs) (h' : IsWay w B' D n D2 n2 rs zs) (hm : n ≤ maxLen) (hm2 : n2 ≤ maxLen) :
    Calls Try.prog 41 #[.agg #[.slice A n c, .slice A2 n2 c2], .agg #[.slice D n d, .slice D2 n2 d2]] w fun e w' => e = .returned (.bool true) ∧ Below w.heap.size w w' :=
  eqW_same A D A2 D2 n c d n2 c2 d2 B B' B B' rs zs w h.len hm h.len2 hm2 h.low h'.low h.low h'.low h.has h'.has h.has2 h'.has2

set_option maxHeartbeats 400000 in
theorem szW_any (A A2 : Option Addr) (n c n2 c2 : Nat) (left : Int) (w : World) (hm : n ≤ maxLen) (hm2 : n2 ≤ maxLen) (h0 : 0 ≤ left) (hl : left ≤ 1048576) (v : Int) (hv : (n : Int) + (n2 : Int) ≤ left → v = left - n - n2) (hv2 : ¬ (n : Int) + (n2 : Int) ≤ left → v = -1) :
    Calls Try.prog 39 #[.agg #[.slice A n c, .slice A2 n2 c2], .int .i64 left] w fun e w' => e = .returned (.int .i64 v) ∧ Below w.heap.size w w' := by
  by_cases hfit : (n : Int) + (n2 : Int) ≤ left
  · rw [hv hfit]
    exact szW_ok A A2 n c n2 c2 left w hm hm2 hl hfit
  · obtain rfl : v = -1 := hv2 hfit
    clear hv hv2
    by_cases hf1 : (n : Int) ≤ left
    · have CR := Lib.hid (fun W => szR_ok A n c left W hm hl hf1)
      have CI := Lib.hid (fun W => szI_no A2 n2 c2 (left - n) W hm2 (by omega) (by omega) (by omega))
      clear hm hm2 hfit
      go_enter Try.func39, Try.ntmps39
      go_wp2_with fail
      refine (CR.out _).mono ?_
      rintro e w1 ⟨rfl, rfl⟩
      go_wp2_with fail
      refine (CI.out _).mono ?_
      rintro e w1 ⟨rfl, rfl⟩
      go_wp2_with fail
      go_ret
      exact ⟨rfl, (Below.refl _ _).alloc (Nat.le_refl _) _⟩
    · have CR := Lib.hid (fun W => szR_no A n c left W hm h0 hl (by omega))
      clear hm hm2 hfit hf1
      go_enter Try.func39, Try.ntmps39
      go_wp2_with fail
      refine (CR.out _).mono ?_
      rintro e w1 ⟨rfl, rfl⟩
      go_wp2_with fail
      go_ret
      exact ⟨rfl, (Below.refl _ _).alloc (Nat.le_refl _) _⟩
end Go.Proofs.Ytgnopkemcgbedab
