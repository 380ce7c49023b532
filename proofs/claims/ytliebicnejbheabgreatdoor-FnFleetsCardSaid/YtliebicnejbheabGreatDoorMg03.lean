/- Texts that are joined: Ves, VesIn, VesRes. -/
import Derived.Test.YtliebicnejbheabGreatDoorMg02
import Derived.Test.YtliebicnejbheabGreatDoorMg01
import Derived.Deep.MidRow
import Derived.Deep.Slices
import Derived.Deep.Fields
import Derived.ChangeSame
/- Chapter 3: a vessel as a value; whether it is valid, the model and the program. -/
namespace Go.Proofs.YtliebicnejbheabGreatDoor
open Go.RowKit Go.PlainAid

/-- A vessel: its Id, its name, its length, its width, its draught, its kind. -/
structure Ves where
  id : Int
  name : ByteArray
  len : Int
  wid : Int
  dr : Int
  kind : Int
/-- A name: one to ten letters. -/
def goodN (s : ByteArray) : Prop := (1 ≤ s.size ∧ s.size ≤ 10) ∧ ∀ j, j < s.size → 97 ≤ bt s j ∧ bt s j ≤ 122
/-- A valid vessel. -/
def goodV (v : Ves) : Prop := (1 ≤ v.id ∧ v.id ≤ 99) ∧ goodN v.name ∧ (1 ≤ v.len ∧ v.len ≤ 8) ∧ (1 ≤ v.wid ∧ v.wid ≤ 3) ∧ (50 ≤ v.dr ∧ v.dr ≤ 500) ∧ (1 ≤ v.kind ∧ v.kind ≤ 4)
noncomputable instance decN (s : ByteArray) : Decidable (goodN s) := Classical.propDecidable _
noncomputable instance decV (v : Ves) : Decidable (goodV v) := Classical.propDecidable _
/-- As a truth value. -/
noncomputable def gN (s : ByteArray) : Bool := decide (goodN s)
noncomputable def gV (v : Ves) : Bool := decide (goodV v)
theorem gN_yes {s : ByteArray} (h : goodN s) : gN s = true := decide_eq_true h
theorem gN_no {s : ByteArray} (h : ¬ goodN s) : gN s = false := decide_eq_false h
theorem gV_yes {v : Ves} (h : goodV v) : gV v = true := decide_eq_true h
theorem gV_no {v : Ves} (h : ¬ goodV v) : gV v = false := decide_eq_false h
theorem gV_iff (v : Ves) : gV v = true ↔ goodV v := decide_eq_true_iff
theorem gN_iff (s : ByteArray) : gN s = true ↔ goodN s := decide_eq_true_iff
theorem gV_eq (v : Ves) : gV v = (decide (1 ≤ v.id ∧ v.id ≤ 99) && (gN v.name && (decide (1 ≤ v.len ∧ v.len ≤ 8) && (decide (1 ≤ v.wid ∧ v.wid ≤ 3) && (decide (50 ≤ v.dr ∧ v.dr ≤ 500) && decide (1 ≤ v.kind ∧ v.kind ≤ 4)))))) := by
  rw [Bool.eq_iff_iff, gV_iff]
  simp only [Bool.and_eq_true, decide_eq_true_eq, gN_iff]
  exact Iff.rfl
theorem gN_size {s : ByteArray} (h : ∀ j, j < s.size → 97 ≤ bt s j ∧ bt s j ≤ 122) : gN s = decide (1 ≤ (s.size : Int) ∧ (s.size : Int) ≤ 10) := by
  rw [Bool.eq_iff_iff, gN_iff, decide_eq_true_iff]
  constructor
  · rintro ⟨a, -⟩
    omega
  · intro a
    exact ⟨by omega, h⟩

set_option maxHeartbeats 400000 in
theorem l3Name_any (s : ByteArray) (w : World) (hs : s.size ≤ maxLen) :
    Calls Tryz.prog 50 #[.string s] w fun e w' => e = .returned (.bool (gN s)) ∧ w = w' := by
  unfold maxLen at hs
  have C := Lib.hid (fun W => l1In_any (s.size : Int) 1 10 W)
  have HN := Lib.hid (fun (k : Nat) (hk : k < s.size) (h : ¬ (97 ≤ bt s k ∧ bt s k ≤ 122)) => gN_no (s := s) (fun g => h (g.2 k hk)))
  have HY := Lib.hid (fun (h : ∀ j, j < s.size → 97 ≤ bt s j ∧ bt s j ≤ 122) => gN_size h)
  generalize gN s = b at HN HY ⊢
  go_enter Tryz.func50, Tryz.ntmps50
  go_wp2
  go_loop [3] (fun i => ∃ k : Nat, k ≤ s.size ∧ i = .int .i64 k ∧ Hid (∀ j, j < k → 97 ≤ bt s j ∧ bt s j ≤ 122)) (fun i => s.size - (intOf i).toNat)
  case atStart => exact ⟨0, Nat.zero_le _, rfl, Lib.hid (by simp)⟩
  case round =>
    obtain ⟨k, hk, rfl, hall⟩ := hrel
    have c0 := bt_nonneg s k
    have c1 := bt_le s k
    have hb := get_bt s
    by_cases hlt : k < s.size
    · by_cases h1 : bt s k < 97
      · obtain rfl : b = false := HN.out k hlt (by omega)
        clear HN HY C hall
        go_wp2
        go_ret
        exact ⟨rfl, rfl⟩
      · by_cases h2 : 122 < bt s k
        · obtain rfl : b = false := HN.out k hlt (by omega)
          clear HN HY C hall
          go_wp2
          go_ret
          exact ⟨rfl, rfl⟩
        · have HA : Hid (∀ j, j < k + 1 → 97 ≤ bt s j ∧ bt s j ≤ 122) := Lib.hid (fun j hj => by
            rcases Nat.lt_succ_iff_lt_or_eq.1 hj with h3 | h3
            · exact hall.out j h3
            · subst h3; omega)
          clear HN HY C hall
          go_wp2
          go_round
          case rel => exact ⟨k + 1, by omega, by go_num, HA⟩
          case measure => simp [intOf]; omega
    · obtain rfl : k = s.size := by omega
      rw [← HY.out hall.out] at C
      clear HN HY hall c0 c1 hb hlt
      go_wp2_with fail
      refine (C.out _).mono ?_
      rintro e w1 ⟨rfl, rfl⟩
      go_wp2_with fail
      go_ret
      exact ⟨rfl, rfl⟩

set_option maxHeartbeats 800000 in
theorem l3Good_any (i : Int) (s : ByteArray) (l b d k : Int) (w : World) (hs : s.size ≤ maxLen) :
    Calls Tryz.prog 24 #[.agg #[.int .i64 i, .string s, .int .i64 l, .int .i64 b, .int .i64 d, .int .i64 k]] w fun e w' => e = .returned (.bool (gV ⟨i, s, l, b, d, k⟩)) ∧ Below w.heap.size w w' := by
  have C1 := Lib.hid (fun W => l1In_any i 1 99 W)
  have C2 := Lib.hid (fun W => l3Name_any s W hs)
  have C3 := Lib.hid (fun W => l1In_any l 1 8 W)
  have C4 := Lib.hid (fun W => l1In_any b 1 3 W)
  have C5 := Lib.hid (fun W => l1In_any d 50 500 W)
  have C6 := Lib.hid (fun W => l1In_any k 1 4 W)
  have hv := Lib.hid (gV_eq ⟨i, s, l, b, d, k⟩)
  generalize gV ⟨i, s, l, b, d, k⟩ = B at hv ⊢
  generalize decide (1 ≤ i ∧ i ≤ 99) = b1 at C1 hv
  generalize gN s = b2 at C2 hv
  generalize decide (1 ≤ l ∧ l ≤ 8) = b3 at C3 hv
  generalize decide (1 ≤ b ∧ b ≤ 3) = b4 at C4 hv
  generalize decide (50 ≤ d ∧ d ≤ 500) = b5 at C5 hv
  generalize decide (1 ≤ k ∧ k ≤ 4) = b6 at C6 hv
  go_enter Tryz.func24, Tryz.ntmps24
  go_wp2_with fail
  refine (C1.out _).mono ?_
  rintro e w1 ⟨rfl, rfl⟩
  cases b1 with
  | false =>
    obtain rfl : B = false := by have := hv.out; simpa using this
    clear hv
    go_wp2_with fail
    go_ret
    exact ⟨rfl, (Below.refl _ _).alloc (Nat.le_refl _) _⟩
  | true =>
  go_wp2_with fail
  refine (C2.out _).mono ?_
  rintro e w1 ⟨rfl, rfl⟩
  cases b2 with
  | false =>
    obtain rfl : B = false := by have := hv.out; simpa using this
    clear hv
    go_wp2_with fail
    go_ret
    exact ⟨rfl, (Below.refl _ _).alloc (Nat.le_refl _) _⟩
  | true =>
  go_wp2_with fail
  refine (C3.out _).mono ?_
  rintro e w1 ⟨rfl, rfl⟩
  cases b3 with
  | false =>
    obtain rfl : B = false := by have := hv.out; simpa using this
    clear hv
    go_wp2_with fail
    go_ret
    exact ⟨rfl, (Below.refl _ _).alloc (Nat.le_refl _) _⟩
  | true =>
  go_wp2_with fail
  refine (C4.out _).mono ?_
  rintro e w1 ⟨rfl, rfl⟩
  cases b4 with
  | false =>
    obtain rfl : B = false := by have := hv.out; simpa using this
    clear hv
    go_wp2_with fail
    go_ret
    exact ⟨rfl, (Below.refl _ _).alloc (Nat.le_refl _) _⟩
  | true =>
  go_wp2_with fail
  refine (C5.out _).mono ?_
  rintro e w1 ⟨rfl, rfl⟩
  cases b5 with
  | false =>
    obtain rfl : B = false := by have := hv.out; simpa using this
    clear hv
    go_wp2_with fail
    go_ret
    exact ⟨rfl, (Below.refl _ _).alloc (Nat.le_refl _) _⟩
  | true =>
  go_wp2_with fail
  refine (C6.out _).mono ?_
  rintro e w1 ⟨rfl, rfl⟩
  obtain rfl : B = b6 := by have := hv.out; simpa using this
  go_wp2_with fail
  go_ret
  exact ⟨rfl, (Below.refl _ _).alloc (Nat.le_refl _) _⟩
end Go.Proofs.YtliebicnejbheabGreatDoor

/- Chapter 3: rows of vessels: their cells, their copy, their equality, their size. -/
namespace Go.Proofs.YtliebicnejbheabGreatDoor
open Go.RowKit Go.PlainAid Go.Sort

theorem vNew (w : World) (cs : Array Value) (t : TypeId) (k : Nat) : (w.alloc (.cells cs t)).cell? ⟨w.heap.size, k, none⟩ = cs[k]? :=
  cell_of_row _ _ k cs t (0, 0) (heap_alloc_new w _)
/-- A vessel as a value. -/
abbrev vv (v : Ves) : Value := .agg #[.int .i64 v.id, .string v.name, .int .i64 v.len, .int .i64 v.wid, .int .i64 v.dr, .int .i64 v.kind]
/-- The cells of a row of vessels. -/
def flatV : List Ves → List Value
  | [] => []
  | v :: t => .int .i64 v.id :: .string v.name :: .int .i64 v.len :: .int .i64 v.wid :: .int .i64 v.dr :: .int .i64 v.kind :: flatV t
theorem flatV_len : ∀ vs, (flatV vs).length = 6 * vs.length
  | [] => rfl
  | v :: t => by simp only [flatV, List.length_cons, flatV_len t]; omega
theorem flatV_append : ∀ (rs ts : List Ves), flatV (rs ++ ts) = flatV rs ++ flatV ts
  | [], _ => rfl
  | r :: rs, ts => by simp only [List.cons_append, flatV, flatV_append rs ts]
theorem flatV_at : ∀ (vs : List Ves) (k : Nat) (h : k < vs.length),
    (flatV vs)[k * 6]? = some (.int .i64 vs[k].id) ∧ (flatV vs)[k * 6 + 1]? = some (.string vs[k].name) ∧ (flatV vs)[k * 6 + 2]? = some (.int .i64 vs[k].len) ∧ (flatV vs)[k * 6 + 3]? = some (.int .i64 vs[k].wid) ∧ (flatV vs)[k * 6 + 4]? = some (.int .i64 vs[k].dr) ∧ (flatV vs)[k * 6 + 5]? = some (.int .i64 vs[k].kind)
  | [], k, h => absurd h (by simp)
  | v :: t, 0, _ => ⟨rfl, rfl, rfl, rfl, rfl, rfl⟩
  | v :: t, k + 1, h => by
    have ih := flatV_at t k (by simpa using h)
    have e : (k + 1) * 6 = k * 6 + 1 + 1 + 1 + 1 + 1 + 1 := by omega
    rw [e]
    exact ih
theorem addForm (x : Addr) (i : Nat) (h : i ≠ 0) : x.add i = ⟨x.block, x.off + i, none⟩ := by
  unfold Addr.add
  rw [if_neg h]
theorem Has.vesAt {w : World} {B : Nat} {A : Option Addr} {vs : List Ves} (h : Has w B A (flatV vs)) {k : Nat} (hk : k < vs.length) :
    ∃ a, A = some a ∧ a.block < B ∧ w.cell? (a.add (k * 6)) = some (.int .i64 vs[k].id) ∧ w.cell? ⟨(a.add (k * 6)).block, (a.add (k * 6)).off + 1, none⟩ = some (.string vs[k].name) ∧ w.cell? ⟨(a.add (k * 6)).block, (a.add (k * 6)).off + 2, none⟩ = some (.int .i64 vs[k].len) ∧ w.cell? ⟨(a.add (k * 6)).block, (a.add (k * 6)).off + 3, none⟩ = some (.int .i64 vs[k].wid) ∧ w.cell? ⟨(a.add (k * 6)).block, (a.add (k * 6)).off + 4, none⟩ = some (.int .i64 vs[k].dr) ∧ w.cell? ⟨(a.add (k * 6)).block, (a.add (k * 6)).off + 5, none⟩ = some (.int .i64 vs[k].kind) := by
  obtain ⟨f0, f1, f2, f3, f4, f5⟩ := flatV_at vs k hk
  obtain ⟨a, rfl, hb, h0⟩ := h _ _ f0
  obtain ⟨a1, e1, -, h1⟩ := h _ _ f1
  injection e1 with e1
  subst e1
  rw [← Go.Deep.add_add, addForm _ _ (by omega)] at h1
  obtain ⟨a2, e2, -, h2⟩ := h _ _ f2
  injection e2 with e2
  subst e2
  rw [← Go.Deep.add_add, addForm _ _ (by omega)] at h2
  obtain ⟨a3, e3, -, h3⟩ := h _ _ f3
  injection e3 with e3
  subst e3
  rw [← Go.Deep.add_add, addForm _ _ (by omega)] at h3
  obtain ⟨a4, e4, -, h4⟩ := h _ _ f4
  injection e4 with e4
  subst e4
  rw [← Go.Deep.add_add, addForm _ _ (by omega)] at h4
  obtain ⟨a5, e5, -, h5⟩ := h _ _ f5
  injection e5 with e5
  subst e5
  rw [← Go.Deep.add_add, addForm _ _ (by omega)] at h5
  exact ⟨a, rfl, hb, h0, h1, h2, h3, h4, h5⟩

theorem range6 {c : Nat → Option Value} {x0 x1 x2 x3 x4 x5 : Value} (h0 : c 0 = some x0) (h1 : c 1 = some x1) (h2 : c 2 = some x2) (h3 : c 3 = some x3) (h4 : c 4 = some x4) (h5 : c 5 = some x5) : (List.range 6).mapM c = some [x0, x1, x2, x3, x4, x5] := by
  show (List.range' 0 6).mapM c = _
  simp [List.range', h0, h1, h2, h3, h4, h5]




open Go.ChangeShapes Go.WideShapes Go.Deep in
/-- A vessel that came in. -/
theorem open_ves {H : Type} {enc : TypeId × Value → H} {P : Program} {w : World} {base : Nat} {spare : Nat → Bool} {held : Bool} {t : TypeId} {r : Reach} {b0 : Nat} {f0 f1 f2 f3 f4 f5 : Field} {v : Value} {D : DataW H} {p : List MemPlace}
    (hs : P.underlying t = some (.struct #[f0, f1, f2, f3, f4, f5])) (hone : oneCellFields P #[f0, f1, f2, f3, f4, f5] = true) (hC : P.cellsOf t = 6)
    (h0 : P.underlying f0.type = some (.int .i64)) (h1 : P.underlying f1.type = some .string) (h2 : P.underlying f2.type = some (.int .i64)) (h3 : P.underlying f3.type = some (.int .i64)) (h4 : P.underlying f4.type = some (.int .i64)) (h5 : P.underlying f5.type = some (.int .i64))
    (hv : Value.okWide P w r b0 t v) (h : DataW.Trod enc P w base spare held t v D p) :
    ∃ (i : Int) (s : ByteArray) (l b d q : Int), v = .agg #[.int .i64 i, .string s, .int .i64 l, .int .i64 b, .int .i64 d, .int .i64 q] ∧ s.size ≤ maxLen := by
  obtain ⟨cs, rfl, hsz⟩ := okWide_struct hs hv
  rw [hC] at hsz
  obtain ⟨fuel, ht'⟩ := h
  obtain ⟨ys, n', _, _, _, hyl, hg⟩ := DataW.trod_struct hs ht'
  obtain ⟨o0, k0⟩ := hone_of hone 0 f0 rfl
  obtain ⟨o1, k1⟩ := hone_of hone 1 f1 rfl
  obtain ⟨o2, k2⟩ := hone_of hone 2 f2 rfl
  obtain ⟨o3, k3⟩ := hone_of hone 3 f3 rfl
  obtain ⟨o4, k4⟩ := hone_of hone 4 f4 rfl
  obtain ⟨o5, k5⟩ := hone_of hone 5 f5 rfl
  obtain ⟨L⟩ := cs
  match L, hsz, ys, hyl with
  | [c0, c1, c2, c3, c4, c5], _, [y0, y1, y2, y3, y4, y5], _ =>
    have g0 := hg 0 f0 rfl
    have g1 := hg 1 f1 rfl
    have g2 := hg 2 f2 rfl
    have g3 := hg 3 f3 rfl
    have g4 := hg 4 f4 rfl
    have g5 := hg 5 f5 rfl
    rw [o0, k0] at g0
    rw [o1, k1] at g1
    rw [o2, k2] at g2
    rw [o3, k3] at g3
    rw [o4, k4] at g4
    rw [o5, k5] at g5
    obtain ⟨i, e0, -, -⟩ := DataW.trod_int h0 g0
    obtain ⟨s, e1, -, hw⟩ := DataW.trod_string h1 g1
    obtain ⟨l, e2, -, -⟩ := DataW.trod_int h2 g2
    obtain ⟨b, e3, -, -⟩ := DataW.trod_int h3 g3
    obtain ⟨d, e4, -, -⟩ := DataW.trod_int h4 g4
    obtain ⟨q, e5, -, -⟩ := DataW.trod_int h5 g5
    injection e0 with e0 _
    injection e1 with e1 _
    injection e2 with e2 _
    injection e3 with e3 _
    injection e4 with e4 _
    injection e5 with e5 _
    exact ⟨i, s, l, b, d, q, by rw [← e0, ← e1, ← e2, ← e3, ← e4, ← e5], hw⟩

theorem vrows_of {w : World} {a : Addr} : ∀ (m : Nat),
    (∀ i, i < m → ∃ v : Ves, w.cell? (a.add (i * 6)) = some (.int .i64 v.id) ∧ w.cell? (a.add (i * 6 + 1)) = some (.string v.name) ∧ w.cell? (a.add (i * 6 + 2)) = some (.int .i64 v.len) ∧ w.cell? (a.add (i * 6 + 3)) = some (.int .i64 v.wid) ∧ w.cell? (a.add (i * 6 + 4)) = some (.int .i64 v.dr) ∧ w.cell? (a.add (i * 6 + 5)) = some (.int .i64 v.kind) ∧ v.name.size ≤ maxLen) →
    ∃ vs : List Ves, vs.length = m ∧ (∀ v ∈ vs, v.name.size ≤ maxLen) ∧ Has w w.heap.size (some a) (flatV vs)
  | 0, _ => ⟨[], rfl, by simp, Has.nil _ _ _⟩
  | m + 1, h => by
    obtain ⟨vs, hl, hq, hh⟩ := vrows_of m (fun i hi => h i (by omega))
    obtain ⟨v, c0, c1, c2, c3, c4, c5, hQ⟩ := h m (by omega)
    have hb : a.block < w.heap.size := by
      have := World.block_lt_of_cell? w (a.add (m * 6)) c0
      rwa [addBlock] at this
    refine ⟨vs ++ [v], by simp [hl], fun r hr => ?_, ?_⟩
    · rcases List.mem_append.1 hr with hr | hr
      · exact hq r hr
      · obtain rfl : r = v := by simpa using hr
        exact hQ
    · intro k u hu
      rw [flatV_append] at hu
      have hfl : (flatV vs).length = m * 6 := by rw [flatV_len, hl]; omega
      by_cases hk : k < m * 6
      · rw [List.getElem?_append_left (by omega)] at hu
        exact hh k u hu
      · rw [List.getElem?_append_right (by omega), hfl] at hu
        obtain ⟨j, rfl⟩ : ∃ j, k = m * 6 + j := ⟨k - m * 6, by omega⟩
        rw [Nat.add_sub_cancel_left] at hu
        match j, hu with
        | 0, hu => injection hu with hu; exact ⟨a, rfl, hb, by rw [← hu]; exact c0⟩
        | 1, hu => injection hu with hu; exact ⟨a, rfl, hb, by rw [← hu]; exact c1⟩
        | 2, hu => injection hu with hu; exact ⟨a, rfl, hb, by rw [← hu]; exact c2⟩
        | 3, hu => injection hu with hu; exact ⟨a, rfl, hb, by rw [← hu]; exact c3⟩
        | 4, hu => injection hu with hu; exact ⟨a, rfl, hb, by rw [← hu]; exact c4⟩
        | 5, hu => injection hu with hu; exact ⟨a, rfl, hb, by rw [← hu]; exact c5⟩
        | j + 6, hu => simp [flatV] at hu
open Go.ChangeShapes Go.WideShapes Go.Deep in
/-- A row of vessels that came in. -/
theorem open_vess {H : Type} {enc : TypeId × Value → H} {P : Program} {w : World} {base : Nat} {spare : Nat → Bool} {held : Bool} {t e : TypeId} {f0 f1 f2 f3 f4 f5 : Field} {fuel : Nat} {cs : List Value} {x : DataW H × List MemPlace}
    (ht : P.underlying t = some (.slice e)) (he : P.underlying e = some (.struct #[f0, f1, f2, f3, f4, f5])) (hone : oneCellFields P #[f0, f1, f2, f3, f4, f5] = true) (hC : P.cellsOf e = 6)
    (h0 : P.underlying f0.type = some (.int .i64)) (h1 : P.underlying f1.type = some .string) (h2 : P.underlying f2.type = some (.int .i64)) (h3 : P.underlying f3.type = some (.int .i64)) (h4 : P.underlying f4.type = some (.int .i64)) (h5 : P.underlying f5.type = some (.int .i64))
    (h : DataW.trod enc P w base spare held fuel t cs = some x) :
    ∃ (A : Option Addr) (len cap : Nat) (vs : List Ves), cs = [.slice A len cap] ∧ vs.length = len ∧ len ≤ maxLen ∧ (∀ v ∈ vs, v.name.size ≤ maxLen) ∧ Has w w.heap.size A (flatV vs) := by
  rcases open_slice ht h with ⟨rfl, _⟩ | ⟨a, len, cap, m, n, D, Pl, rfl, _, hl, hm, hmm, _, hi⟩
  · exact ⟨none, 0, 0, [], rfl, rfl, Nat.zero_le _, by simp, Has.nil _ _ _⟩
  · have hlm : len ≤ m := by rw [hmm]; split <;> omega
    obtain ⟨vs, hrl, hq, hh⟩ := vrows_of (w := w) (a := a) len (fun i hil => by
      obtain ⟨cs', hc, ht'⟩ := hi i (by omega)
      rw [hC] at hc
      obtain ⟨_, hcl, hat⟩ := World.cells?_some hc
      obtain ⟨ys, n', _, _, _, hyl, hg⟩ := DataW.trod_struct he ht'
      obtain ⟨o0, k0⟩ := hone_of hone 0 f0 rfl
      obtain ⟨o1, k1⟩ := hone_of hone 1 f1 rfl
      obtain ⟨o2, k2⟩ := hone_of hone 2 f2 rfl
      obtain ⟨o3, k3⟩ := hone_of hone 3 f3 rfl
      obtain ⟨o4, k4⟩ := hone_of hone 4 f4 rfl
      obtain ⟨o5, k5⟩ := hone_of hone 5 f5 rfl
      match cs', hcl, ys, hyl with
      | [c0, c1, c2, c3, c4, c5], _, [y0, y1, y2, y3, y4, y5], _ =>
        have g0 := hg 0 f0 rfl
        have g1 := hg 1 f1 rfl
        have g2 := hg 2 f2 rfl
        have g3 := hg 3 f3 rfl
        have g4 := hg 4 f4 rfl
        have g5 := hg 5 f5 rfl
        rw [o0, k0] at g0
        rw [o1, k1] at g1
        rw [o2, k2] at g2
        rw [o3, k3] at g3
        rw [o4, k4] at g4
        rw [o5, k5] at g5
        obtain ⟨i, e0, -, -⟩ := DataW.trod_int h0 g0
        obtain ⟨s, e1, -, hw⟩ := DataW.trod_string h1 g1
        obtain ⟨l, e2, -, -⟩ := DataW.trod_int h2 g2
        obtain ⟨b, e3, -, -⟩ := DataW.trod_int h3 g3
        obtain ⟨d, e4, -, -⟩ := DataW.trod_int h4 g4
        obtain ⟨q, e5, -, -⟩ := DataW.trod_int h5 g5
        injection e0 with e0 _
        injection e1 with e1 _
        injection e2 with e2 _
        injection e3 with e3 _
        injection e4 with e4 _
        injection e5 with e5 _
        have a0 := hat 0 (by omega)
        have a1 := hat 1 (by omega)
        have a2 := hat 2 (by omega)
        have a3 := hat 3 (by omega)
        have a4 := hat 4 (by omega)
        have a5 := hat 5 (by omega)
        rw [Go.Deep.add_add] at a0 a1 a2 a3 a4 a5
        refine ⟨⟨i, s, l, b, d, q⟩, ?_, ?_, ?_, ?_, ?_, ?_, hw⟩
        · rw [← e0]; exact a0
        · rw [← e1]; exact a1
        · rw [← e2]; exact a2
        · rw [← e3]; exact a3
        · rw [← e4]; exact a4
        · rw [← e5]; exact a5)
    exact ⟨some a, len, cap, vs, rfl, hrl, by omega, hq, hh⟩
end Go.Proofs.YtliebicnejbheabGreatDoor

/- A vessel that lies in a block of its own as an answer. -/
namespace Go.Proofs.YtliebicnejbheabGreatDoor
open Go.RowKit Go.PlainAid Go.Sort

theorem results_ves {P : Program} {fn : Func} {p t : Tmp} {ty : TypeId} (h : fn.results = #[.cell p ty, .tmp t]) (tmps : Array Value) (w : World) (g : Nat) (cs : List Value) (d : TypeDesc)
    (hp : tmps.getD p undef = .pointer (some ⟨g, 0, none⟩)) (hc : w.rangeAt g 0 cs) (hu : P.underlying ty = some d) (hd : d.isRow = true) (hi : (P.info? ty).map (·.size) = some cs.length) :
    (results fn tmps).run P w = .ok (.tuple #[.agg cs.toArray, tmps.getD t undef]) w := by
  have hp' : tmps[p]?.getD undef = .pointer (some ⟨g, 0, none⟩) := by simpa using hp
  simp [results, h, hp', asAddr, run_loadVar_mid w g 0 ty cs d hc hu hd hi]
theorem at6 {w : World} {g : Nat} {x0 x1 x2 x3 x4 x5 : Value} (h0 : w.cell? ⟨g, 0, none⟩ = some x0) (h1 : w.cell? ⟨g, 1, none⟩ = some x1) (h2 : w.cell? ⟨g, 2, none⟩ = some x2) (h3 : w.cell? ⟨g, 3, none⟩ = some x3) (h4 : w.cell? ⟨g, 4, none⟩ = some x4) (h5 : w.cell? ⟨g, 5, none⟩ = some x5) : w.rangeAt g 0 [x0, x1, x2, x3, x4, x5] := by
  intro j x hj
  match j, hj with
  | 0, hj => injection hj with hj; rw [← hj]; exact h0
  | 1, hj => injection hj with hj; rw [← hj]; exact h1
  | 2, hj => injection hj with hj; rw [← hj]; exact h2
  | 3, hj => injection hj with hj; rw [← hj]; exact h3
  | 4, hj => injection hj with hj; rw [← hj]; exact h4
  | 5, hj => injection hj with hj; rw [← hj]; exact h5

theorem sets6_at {W : World} {g : Nat} {y0 y1 y2 y3 y4 y5 : Value} {t : TypeId} (h : W.heap[g]? = some (.cells #[y0, y1, y2, y3, y4, y5] t (0, 0))) (x0 x1 x2 x3 x4 x5 : Value) :
    ((((((W.setCell ⟨g, 0, none⟩ x0).setCell ⟨g, 1, none⟩ x1).setCell ⟨g, 2, none⟩ x2).setCell ⟨g, 3, none⟩ x3).setCell ⟨g, 4, none⟩ x4).setCell ⟨g, 5, none⟩ x5).heap[g]? = some (.cells #[x0, x1, x2, x3, x4, x5] t (0, 0)) := by
  simp [World.setCell, Array.getElem?_modify, h]
theorem sets6_range {W : World} {g : Nat} {y0 y1 y2 y3 y4 y5 : Value} {t : TypeId} (h : W.heap[g]? = some (.cells #[y0, y1, y2, y3, y4, y5] t (0, 0))) (x0 x1 x2 x3 x4 x5 : Value) :
    ((((((W.setCell ⟨g, 0, none⟩ x0).setCell ⟨g, 1, none⟩ x1).setCell ⟨g, 2, none⟩ x2).setCell ⟨g, 3, none⟩ x3).setCell ⟨g, 4, none⟩ x4).setCell ⟨g, 5, none⟩ x5).rangeAt g 0 [x0, x1, x2, x3, x4, x5] := by
  have := sets6_at h x0 x1 x2 x3 x4 x5
  exact at6 (cell_of_row _ _ 0 _ _ _ this) (cell_of_row _ _ 1 _ _ _ this) (cell_of_row _ _ 2 _ _ _ this) (cell_of_row _ _ 3 _ _ _ this) (cell_of_row _ _ 4 _ _ _ this) (cell_of_row _ _ 5 _ _ _ this)
theorem sets6_below {B : Nat} {w W : World} {g : Nat} (h : Below B w W) (hg : B ≤ g) (x0 x1 x2 x3 x4 x5 : Value) : Below B w ((((((W.setCell ⟨g, 0, none⟩ x0).setCell ⟨g, 1, none⟩ x1).setCell ⟨g, 2, none⟩ x2).setCell ⟨g, 3, none⟩ x3).setCell ⟨g, 4, none⟩ x4).setCell ⟨g, 5, none⟩ x5) :=
  (((((h.setCell (p := ⟨g, 0, none⟩) hg _).setCell (p := ⟨g, 1, none⟩) hg _).setCell (p := ⟨g, 2, none⟩) hg _).setCell (p := ⟨g, 3, none⟩) hg _).setCell (p := ⟨g, 4, none⟩) hg _).setCell (p := ⟨g, 5, none⟩) hg _
end Go.Proofs.YtliebicnejbheabGreatDoor
