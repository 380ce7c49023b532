/- Chapter 12: a task as an answer: what is handed back, marks and what is held in rows that may be nil. -/
import Derived.Test.YtdjoiodkmanacaaPuQ
namespace Go.Proofs.Ytdjoiodkmanacaa
open Go.RowKit Go.PlainAid Go.Sort
set_option linter.unusedVariables false
set_option linter.unusedSimpArgs false

abbrev riv (A : Option Addr) (n c : Nat) (xs : List Value) : RowOf := ⟨3, 1, .slice A n c, n, xs⟩
abbrev rpv (A : Option Addr) (n c : Nat) (xs : List Value) : RowOf := ⟨69, 3, .slice A n c, n, xs⟩
/-- A task is handed back, of which the lengths are told. -/
def GivesV (w : World) (sa sb sc : Int) (KF : Nat) (zS : List Int) (KE : Nat) (vS : List TPump) (x : Bool) (e : Ending) (w' : World) : Prop :=
  ∃ (F : Option Addr) (c : Nat) (E : Option Addr) (d : Nat), e = .returned (.tuple #[.agg #[.int .i64 sa, .int .i64 sb, .int .i64 sc, .slice F KF c, .slice E KE d], .bool x]) ∧
    w'.ownsRow w.heap.size 3 1 (.slice F KF c) KF (zS.map (.int .i64)) ∧ w'.ownsRow w.heap.size 69 3 (.slice E KE d) KE (flatPump vS) ∧ Below w.heap.size w w'
theorem GivesW.v {w w' : World} {sa sb sc : Int} {KF KE : Nat} {zS : List Int} {vS : List TPump} {x : Bool} {e : Ending} (h : GivesW w ⟨sa, sb, sc, zS, vS⟩ x e w') (hF : zS.length = KF) (hE : vS.length = KE) : GivesV w sa sb sc KF zS KE vS x e w' := by
  obtain ⟨F, k, c, E, k2, d, rfl, h1, h2, h3⟩ := h
  obtain rfl : k = KF := by have := h1.1; rw [← hF]; simpa using this.symm
  obtain rfl : k2 = KE := by have := h2.1; rw [flatPump_len] at this; dsimp only at this; omega
  exact ⟨F, c, E, d, rfl, h1, h2, h3⟩
theorem own_IsTv {w : World} {b1 b2 n m c1 c2 : Nat} {F E : Option Addr} {zs : List Int} {vs : List TPump} (h1 : w.ownsRow b1 3 1 (.slice F n c1) n (zs.map (.int .i64))) (h2 : w.ownsRow b2 69 3 (.slice E m c2) m (flatPump vs)) : IsTs w w.heap.size F n zs E m vs :=
  ⟨Nat.le_refl _, ⟨by have := h1.1; simpa using this, Nat.le_refl _, own_hasv h1⟩, ⟨by have := h2.1; rw [flatPump_len] at this; omega, Nat.le_refl _, own_hasv h2⟩⟩
theorem wouA_len {a b c : Int} {zs : List Int} {vs : List TPump} {i : Int} {s : Tsk} {x : Bool} (h : WouA ⟨a, b, c, zs, vs⟩ i s x) : s.fs.length ≤ 5 ∧ s.ps.length ≤ 2 := by
  by_cases e : canW ⟨a, b, c, zs, vs⟩ i
  · rw [(h.1 e).1]
    have h1 := e.1.2.1
    have h2 := e.1.2.2.1
    unfold woT
    dsimp only at h1 h2 ⊢
    rw [List.length_append, List.length_take, List.length_drop]
    omega
  · rw [(h.2 e).1]
    exact ⟨Nat.zero_le _, Nat.zero_le _⟩
set_option maxHeartbeats 400000 in
theorem markPumpS_row (v : Value) (n base : Nat) (m : Int) (xs : List Value) (w : World) (hm0 : 0 < m) (hm1 : m + 3 * n ≤ 1000000000) (hown : w.ownsRow base 69 3 v n xs) :
    Calls Try.prog 77 #[v, .int .i64 m] w fun e w' => e = .returned (.int .i64 (m + 3 * n)) ∧ w'.ownsRow base 69 3 v n (flatPump (mkPump m n)) ∧ w.grownBy w' v.ownBlock := by
  rcases hown.2 with ⟨rfl, rfl⟩ | ⟨g, cap, cur, rfl, _⟩
  · clear hown
    go_enter Try.func77, Try.ntmps77
    go_wp2
    go_loop [1, 5] (fun q i => q = .int .i64 m ∧ i = .int .i64 0) (fun _ _ => 0)
    case atStart => exact ⟨rfl, rfl⟩
    case round =>
      obtain ⟨rfl, rfl⟩ := hrel
      go_wp2
      go_ret
      exact ⟨by simp, ⟨rfl, .inl ⟨rfl, rfl⟩⟩, World.grownBy.refl _ _⟩
  · exact markPumpS_any g n cap base m xs w hm0 hm1 hown
set_option maxRecDepth 100000 in
set_option maxHeartbeats 2000000 in
theorem markT_gen (a b c : Int) (F E : Option Addr) (n m q r base : Nat) (k : Int) (xs ys : List Value) (w : World) (hk0 : 0 < k) (hk1 : k + n + 3 * m ≤ 1000000000) (ho : w.ownsRow base 3 1 (.slice F n q) n xs) (ho2 : w.ownsRow base 69 3 (.slice E m r) m ys) :
    Calls Try.prog 44 #[.agg #[.int .i64 a, .int .i64 b, .int .i64 c, .slice F n q, .slice E m r], .int .i64 k] w fun e w' => e = .returned (.int .i64 (k + n + 3 * m)) ∧
      ∃ M, w.grownBy M (Value.slice F n q).ownBlock ∧ M.grownBy w' (Value.slice E m r).ownBlock ∧ M.ownsRow base 3 1 (.slice F n q) n (nums k n) ∧ w'.ownsRow base 69 3 (.slice E m r) m (flatPump (mkPump (k + n) m)) := by
  obtain ⟨Wa, hWa⟩ : ∃ W, w.alloc (.cells #[.int .i64 a, .int .i64 b, .int .i64 c, .slice F n q, .slice E m r] 27) = W := ⟨_, rfl⟩
  have ya : BoxT Wa w.heap.size a b c F n q E m r := by rw [← hWa]; exact BoxT.new ..
  have hga : w.grownBy Wa (Value.slice F n q).ownBlock := by rw [← hWa]; exact World.grownBy_alloc w _ _
  have hlt := fun k hk => (ho.lt k hk).2
  have hne := own_ne ho2 ho (by decide)
  have ho' : Wa.ownsRow base 3 1 (.slice F n q) n xs := by rw [← hWa]; exact ho.alloc _
  have ho2' : Wa.ownsRow base 69 3 (.slice E m r) m ys := by rw [← hWa]; exact ho2.alloc _
  have CI := Lib.hid (markI_row (.slice F n q) n base k xs Wa hk0 (by omega) ho')
  have CP := Lib.hid (fun W (h : W.ownsRow base 69 3 (.slice E m r) m ys) => markPumpS_row (.slice E m r) m base (k + n) ys W (by omega) (by omega) h)
  have x3 := ya.c3
  have HO2 := Lib.hid ho2'
  have HGA := Lib.hid hga
  have HYA := Lib.hid ya
  clear ho ho2 ho' ho2' hga ya
  go_enter Try.func44, Try.ntmps44
  go_wp2_with fail
  (try rw [hWa])
  clear hWa x3
  refine CI.out.mono ?_
  rintro e w1 ⟨rfl, hown, hg⟩
  have x4 := (HYA.out.kept hg (fun e => by have := hlt _ e.symm; omega)).c4
  have HO3 := Lib.hid (HO2.out.kept hg hne)
  have HM := Lib.hid hown
  have HG := Lib.hid (HGA.out.trans hg)
  clear hown hg CI HO2 HGA HYA
  go_wp2_with fail
  refine (CP.out _ HO3.out).mono ?_
  rintro e w2 ⟨rfl, hown, hg⟩
  have HM2 := Lib.hid hown
  have HG2 := Lib.hid hg
  clear hown hg CP HO3 x4
  go_wp2_with fail
  go_ret
  exact ⟨rfl, w1, HG.out, HG2.out, HM.out, HM2.out⟩
set_option maxRecDepth 100000 in
set_option maxHeartbeats 2000000 in
theorem heldT_gen (a b c : Int) (F E : Option Addr) (n m q r b1 b2 : Nat) (k : Int) (w : World) (hk0 : 0 < k) (hk1 : k + n + 3 * m ≤ 1000000000) (ho : w.ownsRow b1 3 1 (.slice F n q) n (nums k n)) (ho2 : w.ownsRow b2 69 3 (.slice E m r) m (flatPump (mkPump (k + n) m))) :
    Calls Try.prog 47 #[.agg #[.int .i64 a, .int .i64 b, .int .i64 c, .slice F n q, .slice E m r], .int .i64 k] w fun e w' => e = .returned (.int .i64 (k + n + 3 * m)) ∧ Below w.heap.size w w' := by
  obtain ⟨Wa, hWa⟩ : ∃ W, w.alloc (.cells #[.int .i64 a, .int .i64 b, .int .i64 c, .slice F n q, .slice E m r] 27) = W := ⟨_, rfl⟩
  have ya : BoxT Wa w.heap.size a b c F n q E m r := by rw [← hWa]; exact BoxT.new ..
  have hba : Below w.heap.size w Wa := by rw [← hWa]; exact below1 _ _
  have CI := Lib.hid (heldI_any F n q w.heap.size k Wa hk0 (by omega) ((own_hasv ho).below hba))
  have CP := Lib.hid (fun W (hb : Below w.heap.size w W) => heldPumpS_any E m r w.heap.size (k + n) W (by omega) (by omega) hb.size ((own_hasv ho2).below hb))
  have x3 := ya.c3
  have x4 := ya.c4
  have HBA := Lib.hid hba
  have hn1 : ¬ (k + (n : Int) < 0) := by omega
  have hn2 : ¬ (k + (n : Int) + 3 * (m : Int) < 0) := by omega
  clear ho ho2 hba ya
  go_enter Try.func47, Try.ntmps47
  go_wp2_with fail
  (try rw [hWa])
  clear hWa
  refine CI.out.mono ?_
  rintro e w1 ⟨rfl, rfl⟩
  clear CI
  go_wp2_with fail
  refine (CP.out _ HBA.out).mono ?_
  rintro e w2 ⟨rfl, hb⟩
  have HB2 := Lib.hid (HBA.out.trans (hb.mono HBA.out.size))
  clear CP hb HBA x3 x4
  go_wp2_with fail
  go_ret
  exact ⟨rfl, HB2.out⟩
end Go.Proofs.Ytdjoiodkmanacaa
