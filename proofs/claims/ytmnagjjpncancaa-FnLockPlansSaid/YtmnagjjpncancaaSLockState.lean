/- Rows of LockStates: their cells, their copy, their equality, their size, marks. Written by tools/mkst.py. -/
import Derived.Test.YtmnagjjpncancaaStk
namespace Go.Proofs.Ytmnagjjpncancaa
open Go.RowKit Go.PlainAid Go.Sort

structure TLockState where
  x0 : Int
  x1 : Int
  x2 : Int
  x3 : Bool
  x4 : Bool
  x5 : Bool
  x6 : Bool
/-- Its value. -/
abbrev valLockState (v : TLockState) : Value := .agg #[.int .i64 v.x0, .int .i64 v.x1, .int .i64 v.x2, .bool v.x3, .bool v.x4, .bool v.x5, .bool v.x6]
/-- The cells of a row. -/
def flatLockState : List TLockState → List Value
  | [] => []
  | v :: t => .int .i64 v.x0 :: .int .i64 v.x1 :: .int .i64 v.x2 :: .bool v.x3 :: .bool v.x4 :: .bool v.x5 :: .bool v.x6 :: flatLockState t
theorem flatLockState_len : ∀ vs, (flatLockState vs).length = 7 * vs.length
  | [] => rfl
  | v :: t => by simp only [flatLockState, List.length_cons, flatLockState_len t]; omega
theorem flatLockState_append : ∀ (rs ts : List TLockState), flatLockState (rs ++ ts) = flatLockState rs ++ flatLockState ts
  | [], _ => rfl
  | r :: rs, ts => by simp only [List.cons_append, flatLockState, flatLockState_append rs ts]
theorem flatLockState_at : ∀ (vs : List TLockState) (k : Nat) (h : k < vs.length),
    (flatLockState vs)[k * 7]? = some (.int .i64 vs[k].x0) ∧ (flatLockState vs)[k * 7 + 1]? = some (.int .i64 vs[k].x1) ∧ (flatLockState vs)[k * 7 + 2]? = some (.int .i64 vs[k].x2) ∧ (flatLockState vs)[k * 7 + 3]? = some (.bool vs[k].x3) ∧ (flatLockState vs)[k * 7 + 4]? = some (.bool vs[k].x4) ∧ (flatLockState vs)[k * 7 + 5]? = some (.bool vs[k].x5) ∧ (flatLockState vs)[k * 7 + 6]? = some (.bool vs[k].x6)
  | [], k, h => absurd h (by simp)
  | v :: t, 0, _ => ⟨rfl, rfl, rfl, rfl, rfl, rfl, rfl⟩
  | v :: t, k + 1, h => by
    have ih := flatLockState_at t k (by simpa using h)
    have e : (k + 1) * 7 = k * 7 + 1 + 1 + 1 + 1 + 1 + 1 + 1 := by omega
    rw [e]
    exact ih
def noLockState : TLockState := ⟨0, 0, 0, false, false, false, false⟩
theorem getLockState {vs : List TLockState} {j : Nat} (h : j < vs.length) : vs.getD j noLockState = vs[j] := by
  rw [List.getD_eq_getElem?_getD, List.getElem?_eq_getElem h]
  rfl
/-- One of a row that lies at a. -/
structure LockStateAt (w : World) (a : Addr) (k : Nat) (v : TLockState) : Prop where
  c0 : w.cell? (a.add (k * 7)) = some (.int .i64 v.x0)
  c1 : w.cell? ⟨(a.add (k * 7)).block, (a.add (k * 7)).off + 1, none⟩ = some (.int .i64 v.x1)
  c2 : w.cell? ⟨(a.add (k * 7)).block, (a.add (k * 7)).off + 2, none⟩ = some (.int .i64 v.x2)
  c3 : w.cell? ⟨(a.add (k * 7)).block, (a.add (k * 7)).off + 3, none⟩ = some (.bool v.x3)
  c4 : w.cell? ⟨(a.add (k * 7)).block, (a.add (k * 7)).off + 4, none⟩ = some (.bool v.x4)
  c5 : w.cell? ⟨(a.add (k * 7)).block, (a.add (k * 7)).off + 5, none⟩ = some (.bool v.x5)
  c6 : w.cell? ⟨(a.add (k * 7)).block, (a.add (k * 7)).off + 6, none⟩ = some (.bool v.x6)
theorem Has.LockState {w : World} {B : Nat} {A : Option Addr} {vs : List TLockState} (h : Has w B A (flatLockState vs)) {k : Nat} (hk : k < vs.length) :
    ∃ a, A = some a ∧ a.block < B ∧ LockStateAt w a k (vs.getD k noLockState) := by
  obtain ⟨f0, f1, f2, f3, f4, f5, f6⟩ := flatLockState_at vs k hk
  obtain ⟨a, rfl, hb, h0⟩ := h _ _ f0
  obtain ⟨a1, e1, -, h1⟩ := h _ _ f1
  injection e1 with e1
  subst e1
  rw [← Go.Deep.add_add, addFormS _ _ (by omega)] at h1
  obtain ⟨a2, e2, -, h2⟩ := h _ _ f2
  injection e2 with e2
  subst e2
  rw [← Go.Deep.add_add, addFormS _ _ (by omega)] at h2
  obtain ⟨a3, e3, -, h3⟩ := h _ _ f3
  injection e3 with e3
  subst e3
  rw [← Go.Deep.add_add, addFormS _ _ (by omega)] at h3
  obtain ⟨a4, e4, -, h4⟩ := h _ _ f4
  injection e4 with e4
  subst e4
  rw [← Go.Deep.add_add, addFormS _ _ (by omega)] at h4
  obtain ⟨a5, e5, -, h5⟩ := h _ _ f5
  injection e5 with e5
  subst e5
  rw [← Go.Deep.add_add, addFormS _ _ (by omega)] at h5
  obtain ⟨a6, e6, -, h6⟩ := h _ _ f6
  injection e6 with e6
  subst e6
  rw [← Go.Deep.add_add, addFormS _ _ (by omega)] at h6
  rw [getLockState hk]
  exact ⟨a, rfl, hb, h0, h1, h2, h3, h4, h5, h6⟩

set_option maxHeartbeats 800000 in
theorem toLockState_any (x0 : Int) (x1 : Int) (x2 : Int) (x3 : Bool) (x4 : Bool) (x5 : Bool) (x6 : Bool) (w : World) :
    Calls Try.prog 17 #[.agg #[.int .i64 x0, .int .i64 x1, .int .i64 x2, .bool x3, .bool x4, .bool x5, .bool x6]] w fun e w' => e = .returned (.agg #[.int .i64 x0, .int .i64 x1, .int .i64 x2, .bool x3, .bool x4, .bool x5, .bool x6]) ∧ Below w.heap.size w w' := by
  go_enter Try.func17, Try.ntmps17
  go_wp2
  refine bodyPost_ret (results_cell_row rfl _ _ (w.heap.size + 1) 23 #[.int .i64 x0, .int .i64 x1, .int .i64 x2, .bool x3, .bool x4, .bool x5, .bool x6] (0, 0) _ rfl ((heap_alloc_old _ _ (by simp)).trans (heap_alloc2_new w _ _)) Try.underlying23 rfl (by kernel_rfl)) rfl ?_
  exact ⟨rfl, (((Below.refl _ _).alloc (Nat.le_refl _) _).alloc (by simp) _).alloc (by simp; omega) _⟩
set_option maxHeartbeats 800000 in
theorem eqLockState_same (x0 : Int) (x1 : Int) (x2 : Int) (x3 : Bool) (x4 : Bool) (x5 : Bool) (x6 : Bool) (w : World) :
    Calls Try.prog 15 #[.agg #[.int .i64 x0, .int .i64 x1, .int .i64 x2, .bool x3, .bool x4, .bool x5, .bool x6], .agg #[.int .i64 x0, .int .i64 x1, .int .i64 x2, .bool x3, .bool x4, .bool x5, .bool x6]] w fun e w' => e = .returned (.bool true) ∧ Below w.heap.size w w' := by
  have h0 : (x0 != x0) = false := by simp
  have h1 : (x1 != x1) = false := by simp
  have h2 : (x2 != x2) = false := by simp
  have h3 : (x3 != x3) = false := by simp
  have h4 : (x4 != x4) = false := by simp
  have h5 : (x5 != x5) = false := by simp
  have h6 : (x6 != x6) = false := by simp
  go_enter Try.func15, Try.ntmps15
  go_wp2
  go_ret
  exact ⟨rfl, ((Below.refl _ _).alloc (Nat.le_refl _) _).alloc (by simp) _⟩

open Go.ChangeShapes Go.WideShapes Go.Deep in
/-- One that came in. -/
theorem open_LockState {H : Type} {enc : TypeId × Value → H} {P : Program} {w : World} {base : Nat} {spare : Nat → Bool} {held : Bool} {t : TypeId} {r : Reach} {b0 : Nat} {f0 f1 f2 f3 f4 f5 f6 : Field} {v : Value} {D : DataW H} {p : List MemPlace}
    (hs : P.underlying t = some (.struct #[f0, f1, f2, f3, f4, f5, f6])) (hone : oneCellFields P #[f0, f1, f2, f3, f4, f5, f6] = true) (hC : P.cellsOf t = 7)
    (h0 : P.underlying f0.type = some (.int .i64)) (h1 : P.underlying f1.type = some (.int .i64)) (h2 : P.underlying f2.type = some (.int .i64)) (h3 : P.underlying f3.type = some .bool) (h4 : P.underlying f4.type = some .bool) (h5 : P.underlying f5.type = some .bool) (h6 : P.underlying f6.type = some .bool)
    (hv : Value.okWide P w r b0 t v) (h : DataW.Trod enc P w base spare held t v D p) :
    ∃ (x0 : Int) (x1 : Int) (x2 : Int) (x3 : Bool) (x4 : Bool) (x5 : Bool) (x6 : Bool), v = .agg #[.int .i64 x0, .int .i64 x1, .int .i64 x2, .bool x3, .bool x4, .bool x5, .bool x6] := by
  obtain ⟨cs, rfl, hsz⟩ := okWide_struct hs hv
  rw [hC] at hsz
  obtain ⟨fuel, ht'⟩ := h
  obtain ⟨ys, n', _, _, _, hyl, hg⟩ := DataW.trod_struct hs ht'
  obtain ⟨o0, k0⟩ := hone_of hone 0 f0 rfl
  obtain ⟨o1, k1⟩ := hone_of hone 1 f1 rfl
  obtain ⟨o2, k2⟩ := hone_of hone 2 f2 rfl
  obtain ⟨o3, k3⟩ := hone_of hone 3 f3 rfl
  obtain ⟨o4, k4⟩ := hone_of hone 4 f4 rfl
  obtain ⟨o5, k5⟩ := hone_of hone 5 f5 rfl
  obtain ⟨o6, k6⟩ := hone_of hone 6 f6 rfl
  obtain ⟨L⟩ := cs
  match L, hsz, ys, hyl with
  | [c0, c1, c2, c3, c4, c5, c6], _, [y0, y1, y2, y3, y4, y5, y6], _ =>
    have g0 := hg 0 f0 rfl
    have g1 := hg 1 f1 rfl
    have g2 := hg 2 f2 rfl
    have g3 := hg 3 f3 rfl
    have g4 := hg 4 f4 rfl
    have g5 := hg 5 f5 rfl
    have g6 := hg 6 f6 rfl
    rw [o0, k0] at g0
    rw [o1, k1] at g1
    rw [o2, k2] at g2
    rw [o3, k3] at g3
    rw [o4, k4] at g4
    rw [o5, k5] at g5
    rw [o6, k6] at g6
    obtain ⟨x0, e0, -, -⟩ := DataW.trod_int h0 g0
    obtain ⟨x1, e1, -, -⟩ := DataW.trod_int h1 g1
    obtain ⟨x2, e2, -, -⟩ := DataW.trod_int h2 g2
    obtain ⟨x3, e3, -, -⟩ := DataW.trod_bool h3 g3
    obtain ⟨x4, e4, -, -⟩ := DataW.trod_bool h4 g4
    obtain ⟨x5, e5, -, -⟩ := DataW.trod_bool h5 g5
    obtain ⟨x6, e6, -, -⟩ := DataW.trod_bool h6 g6
    injection e0 with e0 _
    injection e1 with e1 _
    injection e2 with e2 _
    injection e3 with e3 _
    injection e4 with e4 _
    injection e5 with e5 _
    injection e6 with e6 _
    exact ⟨x0, x1, x2, x3, x4, x5, x6, by rw [← e0, ← e1, ← e2, ← e3, ← e4, ← e5, ← e6]⟩
theorem rowsLockState {w : World} {a : Addr} : ∀ (m : Nat),
    (∀ i, i < m → ∃ v : TLockState, w.cell? (a.add (i * 7)) = some (.int .i64 v.x0) ∧ w.cell? (a.add (i * 7 + 1)) = some (.int .i64 v.x1) ∧ w.cell? (a.add (i * 7 + 2)) = some (.int .i64 v.x2) ∧ w.cell? (a.add (i * 7 + 3)) = some (.bool v.x3) ∧ w.cell? (a.add (i * 7 + 4)) = some (.bool v.x4) ∧ w.cell? (a.add (i * 7 + 5)) = some (.bool v.x5) ∧ w.cell? (a.add (i * 7 + 6)) = some (.bool v.x6)) →
    ∃ vs : List TLockState, vs.length = m ∧ Has w w.heap.size (some a) (flatLockState vs)
  | 0, _ => ⟨[], rfl, Has.nil _ _ _⟩
  | m + 1, h => by
    obtain ⟨vs, hl, hh⟩ := rowsLockState m (fun i hi => h i (by omega))
    obtain ⟨v, c0, c1, c2, c3, c4, c5, c6⟩ := h m (by omega)
    have hb : a.block < w.heap.size := by
      have := World.block_lt_of_cell? w (a.add (m * 7)) c0
      rwa [addBlock] at this
    refine ⟨vs ++ [v], by simp [hl], ?_⟩
    intro k u hu
    rw [flatLockState_append] at hu
    have hfl : (flatLockState vs).length = m * 7 := by rw [flatLockState_len, hl]; omega
    by_cases hk : k < m * 7
    · rw [List.getElem?_append_left (by omega)] at hu
      exact hh k u hu
    · rw [List.getElem?_append_right (by omega), hfl] at hu
      obtain ⟨j, rfl⟩ : ∃ j, k = m * 7 + j := ⟨k - m * 7, by omega⟩
      rw [Nat.add_sub_cancel_left] at hu
      match j, hu with
      | 0, hu => injection hu with hu; exact ⟨a, rfl, hb, by rw [← hu]; exact c0⟩
      | 1, hu => injection hu with hu; exact ⟨a, rfl, hb, by rw [← hu]; exact c1⟩
      | 2, hu => injection hu with hu; exact ⟨a, rfl, hb, by rw [← hu]; exact c2⟩
      | 3, hu => injection hu with hu; exact ⟨a, rfl, hb, by rw [← hu]; exact c3⟩
      | 4, hu => injection hu with hu; exact ⟨a, rfl, hb, by rw [← hu]; exact c4⟩
      | 5, hu => injection hu with hu; exact ⟨a, rfl, hb, by rw [← hu]; exact c5⟩
      | 6, hu => injection hu with hu; exact ⟨a, rfl, hb, by rw [← hu]; exact c6⟩
      | j + 7, hu => simp [flatLockState] at hu
open Go.ChangeShapes Go.WideShapes Go.Deep in
/-- A row that came in. -/
theorem open_LockStates {H : Type} {enc : TypeId × Value → H} {P : Program} {w : World} {base : Nat} {spare : Nat → Bool} {held : Bool} {t e : TypeId} {f0 f1 f2 f3 f4 f5 f6 : Field} {fuel : Nat} {cs : List Value} {x : DataW H × List MemPlace}
    (ht : P.underlying t = some (.slice e)) (he : P.underlying e = some (.struct #[f0, f1, f2, f3, f4, f5, f6])) (hone : oneCellFields P #[f0, f1, f2, f3, f4, f5, f6] = true) (hC : P.cellsOf e = 7)
    (h0 : P.underlying f0.type = some (.int .i64)) (h1 : P.underlying f1.type = some (.int .i64)) (h2 : P.underlying f2.type = some (.int .i64)) (h3 : P.underlying f3.type = some .bool) (h4 : P.underlying f4.type = some .bool) (h5 : P.underlying f5.type = some .bool) (h6 : P.underlying f6.type = some .bool)
    (h : DataW.trod enc P w base spare held fuel t cs = some x) :
    ∃ (A : Option Addr) (len cap : Nat) (vs : List TLockState), cs = [.slice A len cap] ∧ vs.length = len ∧ len ≤ maxLen ∧ Has w w.heap.size A (flatLockState vs) := by
  rcases open_slice ht h with ⟨rfl, _⟩ | ⟨a, len, cap, m, n, D, Pl, rfl, _, hl, hm, hmm, _, hi⟩
  · exact ⟨none, 0, 0, [], rfl, rfl, Nat.zero_le _, Has.nil _ _ _⟩
  · have hlm : len ≤ m := by rw [hmm]; split <;> omega
    obtain ⟨vs, hrl, hh⟩ := rowsLockState (w := w) (a := a) len (fun i hil => by
      obtain ⟨cs', hc, ht'⟩ := hi i (by omega)
      rw [hC] at hc
      obtain ⟨_, hcl, hat⟩ := World.cells?_some hc
      obtain ⟨ys, n', _, _, _, hyl, hg⟩ := DataW.trod_struct he ht'
      obtain ⟨o0, k0⟩ := hone_of hone 0 f0 rfl
      obtain ⟨o1, k1⟩ := hone_of hone 1 f1 rfl
      obtain ⟨o2, k2⟩ := hone_of hone 2 f2 rfl
      obtain ⟨o3, k3⟩ := hone_of hone 3 f3 rfl
      obtain ⟨o4, k4⟩ := hone_of hone 4 f4 rfl
      obtain ⟨o5, k5⟩ := hone_of hone 5 f5 rfl
      obtain ⟨o6, k6⟩ := hone_of hone 6 f6 rfl
      match cs', hcl, ys, hyl with
      | [c0, c1, c2, c3, c4, c5, c6], _, [y0, y1, y2, y3, y4, y5, y6], _ =>
        have g0 := hg 0 f0 rfl
        have g1 := hg 1 f1 rfl
        have g2 := hg 2 f2 rfl
        have g3 := hg 3 f3 rfl
        have g4 := hg 4 f4 rfl
        have g5 := hg 5 f5 rfl
        have g6 := hg 6 f6 rfl
        rw [o0, k0] at g0
        rw [o1, k1] at g1
        rw [o2, k2] at g2
        rw [o3, k3] at g3
        rw [o4, k4] at g4
        rw [o5, k5] at g5
        rw [o6, k6] at g6
        obtain ⟨x0, e0, -, -⟩ := DataW.trod_int h0 g0
        obtain ⟨x1, e1, -, -⟩ := DataW.trod_int h1 g1
        obtain ⟨x2, e2, -, -⟩ := DataW.trod_int h2 g2
        obtain ⟨x3, e3, -, -⟩ := DataW.trod_bool h3 g3
        obtain ⟨x4, e4, -, -⟩ := DataW.trod_bool h4 g4
        obtain ⟨x5, e5, -, -⟩ := DataW.trod_bool h5 g5
        obtain ⟨x6, e6, -, -⟩ := DataW.trod_bool h6 g6
        injection e0 with e0 _
        injection e1 with e1 _
        injection e2 with e2 _
        injection e3 with e3 _
        injection e4 with e4 _
        injection e5 with e5 _
        injection e6 with e6 _
        have a0 := hat 0 (by omega)
        have a1 := hat 1 (by omega)
        have a2 := hat 2 (by omega)
        have a3 := hat 3 (by omega)
        have a4 := hat 4 (by omega)
        have a5 := hat 5 (by omega)
        have a6 := hat 6 (by omega)
        rw [Go.Deep.add_add] at a0 a1 a2 a3 a4 a5 a6
        refine ⟨⟨x0, x1, x2, x3, x4, x5, x6⟩, ?_, ?_, ?_, ?_, ?_, ?_, ?_⟩
        · rw [← e0]; exact a0
        · rw [← e1]; exact a1
        · rw [← e2]; exact a2
        · rw [← e3]; exact a3
        · rw [← e4]; exact a4
        · rw [← e5]; exact a5
        · rw [← e6]; exact a6)
    exact ⟨some a, len, cap, vs, rfl, hrl, by omega, hh⟩

/-- A row that lies below block B. -/
structure IsLockStates (w : World) (B : Nat) (A : Option Addr) (n : Nat) (vs : List TLockState) : Prop where
  len : vs.length = n
  low : B ≤ w.heap.size
  has : Has w B A (flatLockState vs)
theorem IsLockStates.below {w w' : World} {B C : Nat} {A : Option Addr} {n : Nat} {vs : List TLockState} (h : IsLockStates w B A n vs) (hb : Below C w w') (hC : B ≤ C) : IsLockStates w' B A n vs :=
  ⟨h.len, Nat.le_trans h.low hb.size, h.has.below (hb.mono hC)⟩
theorem IsLockStates.all {w : World} {B : Nat} {A : Option Addr} {n : Nat} {vs : List TLockState} (h : IsLockStates w B A n vs) : IsLockStates w w.heap.size A n vs :=
  ⟨h.len, Nat.le_refl _, h.has.more h.low⟩
theorem own_LockStates {w : World} {base : Nat} {g n c : Nat} {vs : List TLockState} (h : w.ownsRow base 23 7 (.slice (some ⟨g, 0, none⟩) n c) n (flatLockState vs)) : IsLockStates w w.heap.size (some ⟨g, 0, none⟩) n vs :=
  ⟨by have := h.1; rw [flatLockState_len] at this; omega, Nat.le_refl _, ownS_has h⟩
theorem Try.infoLockState' : (Try.prog.info? 23).map (fun i => (i.zero, i.size, i.bytes)) = some (some (.agg #[.int .i64 0, .int .i64 0, .int .i64 0, .bool false, .bool false, .bool false, .bool false]), 7, 32) := by kernel_rfl




/-- n elements of marks from m on. -/
def mkLockState (m : Int) (n : Nat) : List TLockState := (List.range n).map fun (j : Nat) => ⟨m + 7 * (j : Int), ((m + 7 * (j : Int)) + 1), ((m + 7 * (j : Int)) + 1 + 1), (((m + 7 * (j : Int)) + 1 + 1 + 1).tmod 3 == 0), (((m + 7 * (j : Int)) + 1 + 1 + 1 + 1).tmod 3 == 0), (((m + 7 * (j : Int)) + 1 + 1 + 1 + 1 + 1).tmod 3 == 0), (((m + 7 * (j : Int)) + 1 + 1 + 1 + 1 + 1 + 1).tmod 3 == 0)⟩
theorem mkLockState_len (m : Int) (n : Nat) : (mkLockState m n).length = n := by simp [mkLockState]
theorem mkLockState_at (m : Int) (n k : Nat) (h : k < n) : (mkLockState m n)[k]'(by rw [mkLockState_len]; exact h) = ⟨(m + 7 * (k : Int)), ((m + 7 * (k : Int)) + 1), ((m + 7 * (k : Int)) + 1 + 1), (((m + 7 * (k : Int)) + 1 + 1 + 1).tmod 3 == 0), (((m + 7 * (k : Int)) + 1 + 1 + 1 + 1).tmod 3 == 0), (((m + 7 * (k : Int)) + 1 + 1 + 1 + 1 + 1).tmod 3 == 0), (((m + 7 * (k : Int)) + 1 + 1 + 1 + 1 + 1 + 1).tmod 3 == 0)⟩ := by simp [mkLockState]
theorem mkLockState_cells (m : Int) (n k : Nat) (h : k < n) : (flatLockState (mkLockState m n))[k * 7]? = some (.int .i64 (m + 7 * (k : Int))) ∧ (flatLockState (mkLockState m n))[k * 7 + 1]? = some (.int .i64 ((m + 7 * (k : Int)) + 1)) ∧ (flatLockState (mkLockState m n))[k * 7 + 2]? = some (.int .i64 ((m + 7 * (k : Int)) + 1 + 1)) ∧ (flatLockState (mkLockState m n))[k * 7 + 3]? = some (.bool (((m + 7 * (k : Int)) + 1 + 1 + 1).tmod 3 == 0)) ∧ (flatLockState (mkLockState m n))[k * 7 + 4]? = some (.bool (((m + 7 * (k : Int)) + 1 + 1 + 1 + 1).tmod 3 == 0)) ∧ (flatLockState (mkLockState m n))[k * 7 + 5]? = some (.bool (((m + 7 * (k : Int)) + 1 + 1 + 1 + 1 + 1).tmod 3 == 0)) ∧ (flatLockState (mkLockState m n))[k * 7 + 6]? = some (.bool (((m + 7 * (k : Int)) + 1 + 1 + 1 + 1 + 1 + 1).tmod 3 == 0)) := by
  have := flatLockState_at (mkLockState m n) k (by rw [mkLockState_len]; exact h)
  rw [mkLockState_at m n k h] at this
  exact this


end Go.Proofs.Ytmnagjjpncancaa
