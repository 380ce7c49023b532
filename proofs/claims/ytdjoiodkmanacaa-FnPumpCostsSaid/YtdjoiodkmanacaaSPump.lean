/- Rows of Pumps: their cells, their copy, their equality, their size, marks. Written by tools/mkst.py. -/
import Derived.Test.YtdjoiodkmanacaaStk
namespace Go.Proofs.Ytdjoiodkmanacaa
open Go.RowKit Go.PlainAid Go.Sort

structure TPump where
  x0 : Int
  x1 : Int
  x2 : Int
/-- Its value. -/
abbrev valPump (v : TPump) : Value := .agg #[.int .i64 v.x0, .int .i64 v.x1, .int .i64 v.x2]
/-- The cells of a row. -/
def flatPump : List TPump → List Value
  | [] => []
  | v :: t => .int .i64 v.x0 :: .int .i64 v.x1 :: .int .i64 v.x2 :: flatPump t
theorem flatPump_len : ∀ vs, (flatPump vs).length = 3 * vs.length
  | [] => rfl
  | v :: t => by simp only [flatPump, List.length_cons, flatPump_len t]; omega
theorem flatPump_append : ∀ (rs ts : List TPump), flatPump (rs ++ ts) = flatPump rs ++ flatPump ts
  | [], _ => rfl
  | r :: rs, ts => by simp only [List.cons_append, flatPump, flatPump_append rs ts]
theorem flatPump_at : ∀ (vs : List TPump) (k : Nat) (h : k < vs.length),
    (flatPump vs)[k * 3]? = some (.int .i64 vs[k].x0) ∧ (flatPump vs)[k * 3 + 1]? = some (.int .i64 vs[k].x1) ∧ (flatPump vs)[k * 3 + 2]? = some (.int .i64 vs[k].x2)
  | [], k, h => absurd h (by simp)
  | v :: t, 0, _ => ⟨rfl, rfl, rfl⟩
  | v :: t, k + 1, h => by
    have ih := flatPump_at t k (by simpa using h)
    have e : (k + 1) * 3 = k * 3 + 1 + 1 + 1 := by omega
    rw [e]
    exact ih
def noPump : TPump := ⟨0, 0, 0⟩
theorem getPump {vs : List TPump} {j : Nat} (h : j < vs.length) : vs.getD j noPump = vs[j] := by
  rw [List.getD_eq_getElem?_getD, List.getElem?_eq_getElem h]
  rfl
/-- One of a row that lies at a. -/
structure PumpAt (w : World) (a : Addr) (k : Nat) (v : TPump) : Prop where
  c0 : w.cell? (a.add (k * 3)) = some (.int .i64 v.x0)
  c1 : w.cell? ⟨(a.add (k * 3)).block, (a.add (k * 3)).off + 1, none⟩ = some (.int .i64 v.x1)
  c2 : w.cell? ⟨(a.add (k * 3)).block, (a.add (k * 3)).off + 2, none⟩ = some (.int .i64 v.x2)
theorem Has.Pump {w : World} {B : Nat} {A : Option Addr} {vs : List TPump} (h : Has w B A (flatPump vs)) {k : Nat} (hk : k < vs.length) :
    ∃ a, A = some a ∧ a.block < B ∧ PumpAt w a k (vs.getD k noPump) := by
  obtain ⟨f0, f1, f2⟩ := flatPump_at vs k hk
  obtain ⟨a, rfl, hb, h0⟩ := h _ _ f0
  obtain ⟨a1, e1, -, h1⟩ := h _ _ f1
  injection e1 with e1
  subst e1
  rw [← Go.Deep.add_add, addFormS _ _ (by omega)] at h1
  obtain ⟨a2, e2, -, h2⟩ := h _ _ f2
  injection e2 with e2
  subst e2
  rw [← Go.Deep.add_add, addFormS _ _ (by omega)] at h2
  rw [getPump hk]
  exact ⟨a, rfl, hb, h0, h1, h2⟩

set_option maxHeartbeats 800000 in
theorem toPump_any (x0 : Int) (x1 : Int) (x2 : Int) (w : World) :
    Calls Try.prog 92 #[.agg #[.int .i64 x0, .int .i64 x1, .int .i64 x2]] w fun e w' => e = .returned (.agg #[.int .i64 x0, .int .i64 x1, .int .i64 x2]) ∧ Below w.heap.size w w' := by
  go_enter Try.func92, Try.ntmps92
  go_wp2
  refine bodyPost_ret (results_cell_row rfl _ _ (w.heap.size + 1) 69 #[.int .i64 x0, .int .i64 x1, .int .i64 x2] (0, 0) _ rfl ((heap_alloc_old _ _ (by simp)).trans (heap_alloc2_new w _ _)) Try.underlying69 rfl (by kernel_rfl)) rfl ?_
  exact ⟨rfl, (((Below.refl _ _).alloc (Nat.le_refl _) _).alloc (by simp) _).alloc (by simp; omega) _⟩
set_option maxHeartbeats 800000 in
theorem eqPump_same (x0 : Int) (x1 : Int) (x2 : Int) (w : World) :
    Calls Try.prog 93 #[.agg #[.int .i64 x0, .int .i64 x1, .int .i64 x2], .agg #[.int .i64 x0, .int .i64 x1, .int .i64 x2]] w fun e w' => e = .returned (.bool true) ∧ Below w.heap.size w w' := by
  have h0 : (x0 != x0) = false := by simp
  have h1 : (x1 != x1) = false := by simp
  have h2 : (x2 != x2) = false := by simp
  go_enter Try.func93, Try.ntmps93
  go_wp2
  go_ret
  exact ⟨rfl, ((Below.refl _ _).alloc (Nat.le_refl _) _).alloc (by simp) _⟩

open Go.ChangeShapes Go.WideShapes Go.Deep in
/-- One that came in. -/
theorem open_Pump {H : Type} {enc : TypeId × Value → H} {P : Program} {w : World} {base : Nat} {spare : Nat → Bool} {held : Bool} {t : TypeId} {r : Reach} {b0 : Nat} {f0 f1 f2 : Field} {v : Value} {D : DataW H} {p : List MemPlace}
    (hs : P.underlying t = some (.struct #[f0, f1, f2])) (hone : oneCellFields P #[f0, f1, f2] = true) (hC : P.cellsOf t = 3)
    (h0 : P.underlying f0.type = some (.int .i64)) (h1 : P.underlying f1.type = some (.int .i64)) (h2 : P.underlying f2.type = some (.int .i64))
    (hv : Value.okWide P w r b0 t v) (h : DataW.Trod enc P w base spare held t v D p) :
    ∃ (x0 : Int) (x1 : Int) (x2 : Int), v = .agg #[.int .i64 x0, .int .i64 x1, .int .i64 x2] := by
  obtain ⟨cs, rfl, hsz⟩ := okWide_struct hs hv
  rw [hC] at hsz
  obtain ⟨fuel, ht'⟩ := h
  obtain ⟨ys, n', _, _, _, hyl, hg⟩ := DataW.trod_struct hs ht'
  obtain ⟨o0, k0⟩ := hone_of hone 0 f0 rfl
  obtain ⟨o1, k1⟩ := hone_of hone 1 f1 rfl
  obtain ⟨o2, k2⟩ := hone_of hone 2 f2 rfl
  obtain ⟨L⟩ := cs
  match L, hsz, ys, hyl with
  | [c0, c1, c2], _, [y0, y1, y2], _ =>
    have g0 := hg 0 f0 rfl
    have g1 := hg 1 f1 rfl
    have g2 := hg 2 f2 rfl
    rw [o0, k0] at g0
    rw [o1, k1] at g1
    rw [o2, k2] at g2
    obtain ⟨x0, e0, -, -⟩ := DataW.trod_int h0 g0
    obtain ⟨x1, e1, -, -⟩ := DataW.trod_int h1 g1
    obtain ⟨x2, e2, -, -⟩ := DataW.trod_int h2 g2
    injection e0 with e0 _
    injection e1 with e1 _
    injection e2 with e2 _
    exact ⟨x0, x1, x2, by rw [← e0, ← e1, ← e2]⟩
theorem rowsPump {w : World} {a : Addr} : ∀ (m : Nat),
    (∀ i, i < m → ∃ v : TPump, w.cell? (a.add (i * 3)) = some (.int .i64 v.x0) ∧ w.cell? (a.add (i * 3 + 1)) = some (.int .i64 v.x1) ∧ w.cell? (a.add (i * 3 + 2)) = some (.int .i64 v.x2)) →
    ∃ vs : List TPump, vs.length = m ∧ Has w w.heap.size (some a) (flatPump vs)
  | 0, _ => ⟨[], rfl, Has.nil _ _ _⟩
  | m + 1, h => by
    obtain ⟨vs, hl, hh⟩ := rowsPump m (fun i hi => h i (by omega))
    obtain ⟨v, c0, c1, c2⟩ := h m (by omega)
    have hb : a.block < w.heap.size := by
      have := World.block_lt_of_cell? w (a.add (m * 3)) c0
      rwa [addBlock] at this
    refine ⟨vs ++ [v], by simp [hl], ?_⟩
    intro k u hu
    rw [flatPump_append] at hu
    have hfl : (flatPump vs).length = m * 3 := by rw [flatPump_len, hl]; omega
    by_cases hk : k < m * 3
    · rw [List.getElem?_append_left (by omega)] at hu
      exact hh k u hu
    · rw [List.getElem?_append_right (by omega), hfl] at hu
      obtain ⟨j, rfl⟩ : ∃ j, k = m * 3 + j := ⟨k - m * 3, by omega⟩
      rw [Nat.add_sub_cancel_left] at hu
      match j, hu with
      | 0, hu => injection hu with hu; exact ⟨a, rfl, hb, by rw [← hu]; exact c0⟩
      | 1, hu => injection hu with hu; exact ⟨a, rfl, hb, by rw [← hu]; exact c1⟩
      | 2, hu => injection hu with hu; exact ⟨a, rfl, hb, by rw [← hu]; exact c2⟩
      | j + 3, hu => simp [flatPump] at hu
open Go.ChangeShapes Go.WideShapes Go.Deep in
/-- A row that came in. -/
theorem open_Pumps {H : Type} {enc : TypeId × Value → H} {P : Program} {w : World} {base : Nat} {spare : Nat → Bool} {held : Bool} {t e : TypeId} {f0 f1 f2 : Field} {fuel : Nat} {cs : List Value} {x : DataW H × List MemPlace}
    (ht : P.underlying t = some (.slice e)) (he : P.underlying e = some (.struct #[f0, f1, f2])) (hone : oneCellFields P #[f0, f1, f2] = true) (hC : P.cellsOf e = 3)
    (h0 : P.underlying f0.type = some (.int .i64)) (h1 : P.underlying f1.type = some (.int .i64)) (h2 : P.underlying f2.type = some (.int .i64))
    (h : DataW.trod enc P w base spare held fuel t cs = some x) :
    ∃ (A : Option Addr) (len cap : Nat) (vs : List TPump), cs = [.slice A len cap] ∧ vs.length = len ∧ len ≤ maxLen ∧ Has w w.heap.size A (flatPump vs) := by
  rcases open_slice ht h with ⟨rfl, _⟩ | ⟨a, len, cap, m, n, D, Pl, rfl, _, hl, hm, hmm, _, hi⟩
  · exact ⟨none, 0, 0, [], rfl, rfl, Nat.zero_le _, Has.nil _ _ _⟩
  · have hlm : len ≤ m := by rw [hmm]; split <;> omega
    obtain ⟨vs, hrl, hh⟩ := rowsPump (w := w) (a := a) len (fun i hil => by
      obtain ⟨cs', hc, ht'⟩ := hi i (by omega)
      rw [hC] at hc
      obtain ⟨_, hcl, hat⟩ := World.cells?_some hc
      obtain ⟨ys, n', _, _, _, hyl, hg⟩ := DataW.trod_struct he ht'
      obtain ⟨o0, k0⟩ := hone_of hone 0 f0 rfl
      obtain ⟨o1, k1⟩ := hone_of hone 1 f1 rfl
      obtain ⟨o2, k2⟩ := hone_of hone 2 f2 rfl
      match cs', hcl, ys, hyl with
      | [c0, c1, c2], _, [y0, y1, y2], _ =>
        have g0 := hg 0 f0 rfl
        have g1 := hg 1 f1 rfl
        have g2 := hg 2 f2 rfl
        rw [o0, k0] at g0
        rw [o1, k1] at g1
        rw [o2, k2] at g2
        obtain ⟨x0, e0, -, -⟩ := DataW.trod_int h0 g0
        obtain ⟨x1, e1, -, -⟩ := DataW.trod_int h1 g1
        obtain ⟨x2, e2, -, -⟩ := DataW.trod_int h2 g2
        injection e0 with e0 _
        injection e1 with e1 _
        injection e2 with e2 _
        have a0 := hat 0 (by omega)
        have a1 := hat 1 (by omega)
        have a2 := hat 2 (by omega)
        rw [Go.Deep.add_add] at a0 a1 a2
        refine ⟨⟨x0, x1, x2⟩, ?_, ?_, ?_⟩
        · rw [← e0]; exact a0
        · rw [← e1]; exact a1
        · rw [← e2]; exact a2)
    exact ⟨some a, len, cap, vs, rfl, hrl, by omega, hh⟩

/-- A row that lies below block B. -/
structure IsPumps (w : World) (B : Nat) (A : Option Addr) (n : Nat) (vs : List TPump) : Prop where
  len : vs.length = n
  low : B ≤ w.heap.size
  has : Has w B A (flatPump vs)
theorem IsPumps.below {w w' : World} {B C : Nat} {A : Option Addr} {n : Nat} {vs : List TPump} (h : IsPumps w B A n vs) (hb : Below C w w') (hC : B ≤ C) : IsPumps w' B A n vs :=
  ⟨h.len, Nat.le_trans h.low hb.size, h.has.below (hb.mono hC)⟩
theorem IsPumps.all {w : World} {B : Nat} {A : Option Addr} {n : Nat} {vs : List TPump} (h : IsPumps w B A n vs) : IsPumps w w.heap.size A n vs :=
  ⟨h.len, Nat.le_refl _, h.has.more h.low⟩
theorem own_Pumps {w : World} {base : Nat} {g n c : Nat} {vs : List TPump} (h : w.ownsRow base 69 3 (.slice (some ⟨g, 0, none⟩) n c) n (flatPump vs)) : IsPumps w w.heap.size (some ⟨g, 0, none⟩) n vs :=
  ⟨by have := h.1; rw [flatPump_len] at this; omega, Nat.le_refl _, ownS_has h⟩
theorem Try.infoPump' : (Try.prog.info? 69).map (fun i => (i.zero, i.size, i.bytes)) = some (some (.agg #[.int .i64 0, .int .i64 0, .int .i64 0]), 3, 24) := by kernel_rfl

set_option maxHeartbeats 400000 in
/-- The size asked of an argument: either it is too great, or what is left is told. -/
theorem szPumpS_is (A : Option Addr) (n c : Nat) (left : Int) (hm : n ≤ maxLen) (h0 : 0 ≤ left) (hl : left ≤ 1048576) :
    ∃ v : Int, -1 ≤ v ∧ v ≤ left ∧ (0 ≤ v → (n : Int) ≤ left) ∧ ∀ W,
      Calls Try.prog 74 #[.slice A n c, .int .i64 left] W fun e w' => e = .returned (.int .i64 v) ∧ W = w' := by
  unfold maxLen at hm
  by_cases hfit : (n : Int) ≤ left
  · refine ⟨left - n, by omega, by omega, fun _ => hfit, fun W => ?_⟩
    go_enter Try.func74, Try.ntmps74
    go_wp2
    go_ret
    exact ⟨rfl, rfl⟩
  · refine ⟨-1, by omega, by omega, fun h => absurd h (by omega), fun W => ?_⟩
    go_enter Try.func74, Try.ntmps74
    go_wp2
    go_ret
    exact ⟨rfl, rfl⟩

set_option maxHeartbeats 1000000 in
/-- The copy of a slice: new memory, the same elements. -/
theorem toPumpS_any (A : Option Addr) (n c B : Nat) (vs : List TPump) (w : World) (hn : vs.length = n) (hm : n ≤ 1048576)
    (hB : B ≤ w.heap.size) (h : Has w B A (flatPump vs)) :
    Calls Try.prog 75 #[.slice A n c] w fun e w' => e = .returned (.slice (some ⟨w.heap.size, 0, none⟩) n n) ∧
      w'.ownsRow w.heap.size 69 3 (.slice (some ⟨w.heap.size, 0, none⟩) n n) n (flatPump vs) ∧ Below w.heap.size w w' := by
  obtain ⟨i0, hi, hz0, hz1, hz2⟩ := info_parts Try.infoPump'
  have CT := Lib.hid (fun x0 x1 x2 W => toPump_any x0 x1 x2 W)
  have HL := Lib.hid hn
  have H := Lib.hid h
  clear hn h
  go_enter Try.func75, Try.ntmps75
  go_wp2_with (at_make; refine wpList_make_full _ rfl _ _ 25 rfl w.heap.size 69 i0 (.agg #[.int .i64 0, .int .i64 0, .int .i64 0]) 3 Try.underlying25 hi hz0 hz1 _ _ _ _ n rfl rfl rfl rfl ?b2 ?b3 (Nat.le_refl _) ?_)
  case b2 => rw [hz2]; omega
  case b3 => unfold maxLen; omega
  intro w0 hown0 hgrow0
  have hb0 : Below w.heap.size w w0 := (Below.refl _ _).grown hgrow0 (Nat.le_refl _) (fun k h => by cases h)
  clear hgrow0
  go_wp2
  go_loopw [4] (fun i wr => ∃ (k : Nat) (xs : List Value), k ≤ n ∧ i = .int .i64 k ∧ wr.ownsRow w.heap.size 69 3 (.slice (some ⟨w.heap.size, 0, none⟩) n n) n xs ∧ Hid (xs.take (k * 3) = (flatPump vs).take (k * 3)) ∧ Below w.heap.size w wr)
    (fun i _ => n - (intOf i).toNat)
  case atStart => exact ⟨0, _, Nat.zero_le _, rfl, hown0, Lib.hid (by simp), hb0⟩
  case round =>
    obtain ⟨k, xs, hk, rfl, hown, hx, hb⟩ := hrel
    by_cases hlt : k < n
    · have hkl : k < vs.length := by rw [HL.out]; exact hlt
      obtain ⟨a1, rfl, hb1, HV⟩ := (H.out.below (hb.mono hB)).Pump hkl
      have HU := Lib.hid (flatPump_at vs k hkl)
      rw [getPump hkl] at HV
      generalize vs[k]'hkl = V at HV HU
      obtain ⟨x0, x1, x2⟩ := V
      obtain ⟨e0, e1, e2⟩ := HV
      dsimp only at e0 e1 e2
      have HT : Hid (((((xs.set (k * 3) (.int .i64 x0)).set (k * 3 + 1) (.int .i64 x1)).set (k * 3 + 2) (.int .i64 x2))).take ((k + 1) * 3) = (flatPump vs).take ((k + 1) * 3)) := Lib.hid (by
        have hxl : xs.length = n * 3 := hown.1
        have e : (k + 1) * 3 = k * 3 + 2 + 1 := by omega
        obtain ⟨u0, u1, u2⟩ := HU.out
        rw [e]
        exact take_set_succ _ _ (k * 3 + 2) _ (by simp; omega) u2 (take_set_succ _ _ (k * 3 + 1) _ (by simp; omega) u1 (take_set_succ _ _ (k * 3) _ (by omega) u0 hx.out)))
      have HOwn := Lib.hid hown
      have HB := Lib.hid hb
      have hk0 : (0 : Int) ≤ (k : Int) := by omega
      have hk1 : (k : Int) < (n : Int) := by omega
      clear hown hb hx HU
      go_wp2_with fail
      refine (CT.out x0 x1 x2 _).mono ?_
      rintro e w2 ⟨rfl, hb2⟩
      have hg2 := grownBelow hb2 none
      have HOwn2 := Lib.hid (HOwn.out.kept hg2 (.inr (by simp [Value.ownBlock])))
      have hxl : xs.length = n * 3 := HOwn2.out.1
      obtain ⟨v0, g0⟩ : ∃ v, w2.cell? ⟨w.heap.size, k * 3, none⟩ = some v := ⟨_, (HOwn2.out.cellAt _ (by omega)).trans (List.getElem?_eq_getElem (by omega))⟩
      obtain ⟨v1, g1⟩ : ∃ v, w2.cell? ⟨w.heap.size, k * 3 + 1, none⟩ = some v := ⟨_, (HOwn2.out.cellAt _ (by omega)).trans (List.getElem?_eq_getElem (by omega))⟩
      obtain ⟨v2, g2⟩ : ∃ v, w2.cell? ⟨w.heap.size, k * 3 + 2, none⟩ = some v := ⟨_, (HOwn2.out.cellAt _ (by omega)).trans (List.getElem?_eq_getElem (by omega))⟩
      have r0 := HOwn2.out.frozenAt (k * 3)
      have r1 := HOwn2.out.frozenAt (k * 3 + 1)
      have r2 := HOwn2.out.frozenAt (k * 3 + 2)
      have HB2 := Lib.hid (HB.out.trans (hb2.mono HB.out.size))
      clear hg2 hb2 e0 e1 e2 hxl
      go_wp2_with fail
      have s0 := HOwn2.out.stored (k * 3) (.int .i64 x0)
      have s1 := s0.1.stored (k * 3 + 1) (.int .i64 x1)
      have s2 := s1.1.stored (k * 3 + 2) (.int .i64 x2)
      refine ⟨⟨k + 1, _, by omega, by go_num, s2.1, HT, ?_⟩, by simp [intOf]; omega⟩
      exact (((HB2.out.setCell (p := ⟨w.heap.size, k * 3, none⟩) (Nat.le_refl _) _).setCell (p := ⟨w.heap.size, k * 3 + 1, none⟩) (Nat.le_refl _) _).setCell (p := ⟨w.heap.size, k * 3 + 2, none⟩) (Nat.le_refl _) _)
    · obtain rfl : k = n := by omega
      have hxl : xs.length = k * 3 := hown.1
      have hall : xs = flatPump vs := by
        have := hx.out
        rwa [List.take_of_length_le (by omega), List.take_of_length_le (by rw [flatPump_len, HL.out]; omega)] at this
      subst hall
      clear H hxl hx
      go_wp2
      go_ret
      exact ⟨rfl, hown, hb⟩
theorem toPumpS_is {w : World} {B : Nat} {A : Option Addr} {n : Nat} {vs : List TPump} (c : Nat) (h : IsPumps w B A n vs) (hm : n ≤ 1048576) :
    Calls Try.prog 75 #[.slice A n c] w fun e w' => ∃ g, e = .returned (.slice (some ⟨g, 0, none⟩) n n) ∧
      w'.ownsRow w.heap.size 69 3 (.slice (some ⟨g, 0, none⟩) n n) n (flatPump vs) ∧ IsPumps w' w'.heap.size (some ⟨g, 0, none⟩) n vs ∧ Below w.heap.size w w' := by
  refine (toPumpS_any A n c B vs w h.len hm h.low h.has).mono ?_
  rintro e w' ⟨rfl, ho, hb⟩
  exact ⟨_, rfl, ho, own_Pumps ho, hb⟩

set_option maxHeartbeats 1000000 in
theorem eqPumpS_same (A1 A2 : Option Addr) (n c1 c2 B1 B2 : Nat) (vs : List TPump) (w : World) (hn : vs.length = n) (hm : n ≤ maxLen) (hB1 : B1 ≤ w.heap.size) (hB2 : B2 ≤ w.heap.size)
    (h1 : Has w B1 A1 (flatPump vs)) (h2 : Has w B2 A2 (flatPump vs)) :
    Calls Try.prog 76 #[.slice A1 n c1, .slice A2 n c2] w fun e w' => e = .returned (.bool true) ∧ Below w.heap.size w w' := by
  unfold maxLen at hm
  have HL := Lib.hid hn
  have H1 := Lib.hid h1
  have H2 := Lib.hid h2
  clear hn h1 h2
  go_enter Try.func76, Try.ntmps76
  go_wp2
  go_loopw [5] (fun i wr => ∃ k : Nat, k ≤ n ∧ i = .int .i64 k ∧ Below w.heap.size w wr) (fun i _ => n - (intOf i).toNat)
  case atStart => exact ⟨0, Nat.zero_le _, rfl, Below.refl _ _⟩
  case round =>
    obtain ⟨k, hk, rfl, hb⟩ := hrel
    by_cases hlt : k < n
    · have hkl : k < vs.length := by rw [HL.out]; exact hlt
      obtain ⟨a1, rfl, _, HV⟩ := (H1.out.below (hb.mono hB1)).Pump hkl
      obtain ⟨a2, rfl, _, HG⟩ := (H2.out.below (hb.mono hB2)).Pump hkl
      generalize vs.getD k noPump = V at HV HG
      obtain ⟨x0, x1, x2⟩ := V
      obtain ⟨e0, e1, e2⟩ := HV
      obtain ⟨g0, g1, g2⟩ := HG
      dsimp only at e0 e1 e2 g0 g1 g2
      have E0 := fun (d : Nat) (os : Array Obj) => cell_regrown e0 d os
      have E1 := fun (d : Nat) (os : Array Obj) => cell_regrown e1 d os
      have E2 := fun (d : Nat) (os : Array Obj) => cell_regrown e2 d os
      have G0 := fun (d : Nat) (os : Array Obj) => cell_regrown g0 d os
      have G1 := fun (d : Nat) (os : Array Obj) => cell_regrown g1 d os
      have G2 := fun (d : Nat) (os : Array Obj) => cell_regrown g2 d os
      have cM := fun (dr : Nat) (os : Array Obj) => Calls.regrown_of (w := wr) (d := dr) (os := os) (eqPump_same x0 x1 x2 _)
      have hk0 : (0 : Int) ≤ (k : Int) := by omega
      have hk1 : (k : Int) < (n : Int) := by omega
      have HB := Lib.hid hb
      clear hb H1 H2 e0 e1 e2 g0 g1 g2
      go_wp2
      refine wp_region_quiet_below (by kernel_rfl) (by kernel_rfl) ?_
      repeat (quiet_step (exact cM _ _))
      refine wpQuiet_nil ?_
      intro _ hw'
      obtain ⟨⟨dq, osq⟩, hw''⟩ := hw'
      subst hw''
      go_wp2
      go_roundw
      case rel => exact ⟨k + 1, by omega, by go_num, HB.out.trans ((below_regrown wr dq osq).mono HB.out.size)⟩
      case measure => simp [intOf]; omega
    · obtain rfl : k = n := by omega
      clear H1 H2
      go_wp2
      go_ret
      exact ⟨rfl, hb⟩
theorem eqPumpS_is {w : World} {B B' : Nat} {A D : Option Addr} {n : Nat} {vs : List TPump} (c d : Nat) (h : IsPumps w B A n vs) (h' : IsPumps w B' D n vs) (hm : n ≤ maxLen) :
    Calls Try.prog 76 #[.slice A n c, .slice D n d] w fun e w' => e = .returned (.bool true) ∧ Below w.heap.size w w' :=
  eqPumpS_same A D n c d B B' vs w h.len hm h.low h'.low h.has h'.has

/-- n elements of marks from m on. -/
def mkPump (m : Int) (n : Nat) : List TPump := (List.range n).map fun (j : Nat) => ⟨m + 3 * (j : Int), ((m + 3 * (j : Int)) + 1), ((m + 3 * (j : Int)) + 1 + 1)⟩
theorem mkPump_len (m : Int) (n : Nat) : (mkPump m n).length = n := by simp [mkPump]
theorem mkPump_at (m : Int) (n k : Nat) (h : k < n) : (mkPump m n)[k]'(by rw [mkPump_len]; exact h) = ⟨(m + 3 * (k : Int)), ((m + 3 * (k : Int)) + 1), ((m + 3 * (k : Int)) + 1 + 1)⟩ := by simp [mkPump]
theorem mkPump_cells (m : Int) (n k : Nat) (h : k < n) : (flatPump (mkPump m n))[k * 3]? = some (.int .i64 (m + 3 * (k : Int))) ∧ (flatPump (mkPump m n))[k * 3 + 1]? = some (.int .i64 ((m + 3 * (k : Int)) + 1)) ∧ (flatPump (mkPump m n))[k * 3 + 2]? = some (.int .i64 ((m + 3 * (k : Int)) + 1 + 1)) := by
  have := flatPump_at (mkPump m n) k (by rw [mkPump_len]; exact h)
  rw [mkPump_at m n k h] at this
  exact this

set_option maxHeartbeats 2000000 in
theorem markPumpS_any (g n c base : Nat) (m : Int) (xs : List Value) (w : World) (hm0 : 0 < m) (hm1 : m + 3 * n ≤ 1000000000) (hown : w.ownsRow base 69 3 (.slice (some ⟨g, 0, none⟩) n c) n xs) :
    Calls Try.prog 77 #[.slice (some ⟨g, 0, none⟩) n c, .int .i64 m] w fun e w' => e = .returned (.int .i64 (m + 3 * n)) ∧
      w'.ownsRow base 69 3 (.slice (some ⟨g, 0, none⟩) n c) n (flatPump (mkPump m n)) ∧ w.grownBy w' (some g) := by
  go_enter Try.func77, Try.ntmps77
  go_wp2_with fail
  go_loopg [1, 5] n (fun gh q i wr => ∃ (k : Nat) (ys : List Value), k + gh = n ∧ i = .int .i64 k ∧ q = .int .i64 (m + 3 * k) ∧ wr.ownsRow base 69 3 (.slice (some ⟨g, 0, none⟩) n c) n ys ∧ Hid (ys.take (k * 3) = (flatPump (mkPump m n)).take (k * 3)) ∧ w.grownBy wr (some g))
  case atStart => exact ⟨0, xs, by omega, rfl, by simp, hown, Lib.hid (by simp), World.grownBy.refl _ _⟩
  case round =>
    obtain ⟨k, ys, hkg, rfl, rfl, hown, hx, hg⟩ := hrel
    cases gk with
    | succ gh =>
      have hlt : k < n := by omega
      have hk0 : (0 : Int) ≤ (k : Int) := by omega
      have hk1 : (k : Int) < (n : Int) := by omega
      have hyl : ys.length = n * 3 := hown.1
      obtain ⟨v0, g0⟩ : ∃ v, wr.cell? ⟨g, k * 3, none⟩ = some v := ⟨_, (hown.cellAt _ (by omega)).trans (List.getElem?_eq_getElem (by omega))⟩
      obtain ⟨v1, g1⟩ : ∃ v, wr.cell? ⟨g, k * 3 + 1, none⟩ = some v := ⟨_, (hown.cellAt _ (by omega)).trans (List.getElem?_eq_getElem (by omega))⟩
      obtain ⟨v2, g2⟩ : ∃ v, wr.cell? ⟨g, k * 3 + 2, none⟩ = some v := ⟨_, (hown.cellAt _ (by omega)).trans (List.getElem?_eq_getElem (by omega))⟩
      have r0 := hown.frozenAt (k * 3)
      have r1 := hown.frozenAt (k * 3 + 1)
      have r2 := hown.frozenAt (k * 3 + 2)
      have HO := Lib.hid hown
      have HG := Lib.hid hg
      have hm2 : m + 3 * (k : Int) + 3 ≤ 1000000000 := by omega
      have hm3 : 0 < m + 3 * (k : Int) := by omega
      have HT := Lib.hid (mkPump_cells m n k hlt)
      have hnb : (n : Int) ≤ 1000000000 := by omega
      obtain ⟨q, hq⟩ : ∃ q, m + 3 * (k : Int) = q := ⟨_, rfl⟩
      rw [hq] at HT hm2 hm3 ⊢
      have HQ := Lib.hid hq
      have HX : Hid (((((ys.set (k * 3) (.int .i64 q)).set (k * 3 + 1) (.int .i64 (q + 1))).set (k * 3 + 2) (.int .i64 (q + 1 + 1)))).take ((k + 1) * 3) = (flatPump (mkPump m n)).take ((k + 1) * 3)) := Lib.hid (by
        have e : (k + 1) * 3 = k * 3 + 2 + 1 := by omega
        obtain ⟨u0, u1, u2⟩ := HT.out
        rw [e]
        exact take_set_succ _ _ (k * 3 + 2) _ (by simp; omega) u2 (take_set_succ _ _ (k * 3 + 1) _ (by simp; omega) u1 (take_set_succ _ _ (k * 3) _ (by omega) u0 hx.out)))
      clear hq hx hown hg hyl hm1 HT
      go_wp2_with fail
      have s0 := HO.out.stored (k * 3) (.int .i64 q)
      have s1 := s0.1.stored (k * 3 + 1) (.int .i64 (q + 1))
      have s2 := s1.1.stored (k * 3 + 2) (.int .i64 (q + 1 + 1))
      go_roundg gh
      case rel => exact ⟨k + 1, _, by omega, by go_num, by congr 1; have := HQ.out; push_cast; omega, s2.1, HX, (((HG.out.trans s0.2).trans s1.2).trans s2.2)⟩
      case measure => omega
    | zero =>
      obtain rfl : k = n := by omega
      have hyl : ys.length = k * 3 := by simpa using hown.1
      have hall : ys = flatPump (mkPump m k) := by
        have := hx.out
        rwa [List.take_of_length_le (by omega), List.take_of_length_le (by rw [flatPump_len, mkPump_len]; omega)] at this
      subst hall
      clear hx hyl
      go_wp2
      go_ret
      exact ⟨rfl, hown, hg⟩

set_option maxHeartbeats 2000000 in
theorem heldPumpS_any (A : Option Addr) (n c B : Nat) (m : Int) (w : World) (hm0 : 0 < m) (hm1 : m + 3 * n ≤ 1000000000) (hB : B ≤ w.heap.size) (h : Has w B A (flatPump (mkPump m n))) :
    Calls Try.prog 78 #[.slice A n c, .int .i64 m] w fun e w' => e = .returned (.int .i64 (m + 3 * n)) ∧ Below w.heap.size w w' := by
  have H := Lib.hid h
  clear h
  go_enter Try.func78, Try.ntmps78
  go_wp2_with fail
  go_loopw [1, 5] (fun q i wr => ∃ k : Nat, k ≤ n ∧ i = .int .i64 k ∧ q = .int .i64 (m + 3 * k) ∧ Below w.heap.size w wr) (fun _ i _ => n - (intOf i).toNat)
  case atStart => exact ⟨0, Nat.zero_le _, rfl, by simp, Below.refl _ _⟩
  case round =>
    obtain ⟨k, hk, rfl, rfl, hb⟩ := hrel
    by_cases hlt : k < n
    · obtain ⟨a1, rfl, hb1, HV⟩ := (H.out.below (hb.mono hB)).Pump (k := k) (by rw [mkPump_len]; exact hlt)
      rw [getPump (by rw [mkPump_len]; exact hlt), mkPump_at m n k hlt] at HV
      obtain ⟨e0, e1, e2⟩ := HV
      dsimp only at e0 e1 e2
      have hk0 : (0 : Int) ≤ (k : Int) := by omega
      have hk1 : (k : Int) < (n : Int) := by omega
      have hm2 : m + 3 * (k : Int) + 3 ≤ 1000000000 := by omega
      have hm3 : 0 < m + 3 * (k : Int) := by omega
      have hnb : (n : Int) ≤ 1000000000 := by omega
      obtain ⟨q, hq⟩ : ∃ q, m + 3 * (k : Int) = q := ⟨_, rfl⟩
      rw [hq] at e0 e1 e2 hm2 hm3 ⊢
      have HQ := Lib.hid hq
      have b0 : (q != q) = false := by simp
      have b1 : ((q + 1) != (q + 1)) = false := by simp
      have b2 : ((q + 1 + 1) != (q + 1 + 1)) = false := by simp
      clear hq hm1 H
      go_wp2
      go_roundw
      case rel => exact ⟨k + 1, by omega, by go_num, by congr 1; have := HQ.out; push_cast; omega, hb⟩
      case measure => simp [intOf]; omega
    · obtain rfl : k = n := by omega
      clear H
      go_wp2
      go_ret
      exact ⟨rfl, hb⟩
end Go.Proofs.Ytdjoiodkmanacaa
