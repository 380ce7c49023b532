/- Chapter 11: rows of Pools of one's own, a Pool in a block, numbers in a range; the copy of a row. -/
import Derived.Test.YtgnopkemcgbedaaPoC
import Derived.Test.YtgnopkemcgbedaaInv
import Derived.Lib.LazyBuf
import Derived.Maps.AppendAt
namespace Go.Proofs.Ytgnopkemcgbedaa
open Go.RowKit Go.PlainAid Go.Sort
set_option linter.unusedVariables false
set_option linter.unusedSimpArgs false

/-- All lie within these. -/
def allIn (lo hi : Int) (zs : List Int) : Prop := ∀ z ∈ zs, lo ≤ z ∧ z ≤ hi
instance (lo hi : Int) (zs : List Int) : Decidable (allIn lo hi zs) := by unfold allIn; infer_instance
theorem allIn_getD {lo hi : Int} {zs : List Int} (h : allIn lo hi zs) {i : Nat} (hi2 : i < zs.length) : lo ≤ zs.getD i 0 ∧ zs.getD i 0 ≤ hi := by
  rw [List.getD_eq_getElem?_getD, List.getElem?_eq_getElem hi2]
  exact h _ (List.getElem_mem hi2)
theorem intGet {w : World} {B : Nat} {A : Option Addr} {zs : List Int} (h : Has w B A (zs.map (.int .i64))) {k : Nat} (hk : k < zs.length) :
    ∃ a, A = some a ∧ a.block < B ∧ w.cell? (a.add k) = some (.int .i64 (zs.getD k 0)) := by
  obtain ⟨a, e, hb, hc⟩ := h.intAt hk
  exact ⟨a, e, hb, by rw [hc]; simp [List.getD_eq_getElem?_getD, hk]⟩

set_option maxHeartbeats 1000000 in
theorem areIn_any (lo hi : Int) (A : Option Addr) (n c B : Nat) (zs : List Int) (w : World) (hn : zs.length = n) (hm : n ≤ 1048576) (h : Has w B A (zs.map (.int .i64))) :
    Calls Try.prog 56 #[.int .i64 lo, .int .i64 hi, .slice A n c] w fun e w' => e = .returned (.bool (decide (allIn lo hi zs))) ∧ w = w' := by
  have CI := Lib.hid (fun (z : Int) W => inRange_any z lo hi W)
  have HL := Lib.hid hn
  have H := Lib.hid h
  obtain ⟨b, hb⟩ : ∃ b, decide (allIn lo hi zs) = b := ⟨_, rfl⟩
  rw [hb]
  have HN : Hid (∀ q, q < n → ¬ (lo ≤ zs.getD q 0 ∧ zs.getD q 0 ≤ hi) → b = false) := Lib.hid (fun q hq hz => by
    rw [← hb]
    refine decide_eq_false fun hs => hz (allIn_getD hs (by omega)))
  have HY : Hid ((∀ q, q < n → lo ≤ zs.getD q 0 ∧ zs.getD q 0 ≤ hi) → b = true) := Lib.hid (fun hz => by
    rw [← hb]
    refine decide_eq_true (fun z hz2 => ?_)
    obtain ⟨q, hq, rfl⟩ := List.getElem_of_mem hz2
    have := hz q (by omega)
    simpa [List.getD_eq_getElem?_getD, hq] using this)
  clear hb hn h
  go_enter Try.func56, Try.ntmps56
  go_wp2_with fail
  go_loop [11] (fun i => ∃ q : Nat, q ≤ n ∧ i = .int .i64 q ∧ Hid (∀ j, j < q → lo ≤ zs.getD j 0 ∧ zs.getD j 0 ≤ hi)) (fun i => n - (intOf i).toNat)
  case atStart => exact ⟨0, Nat.zero_le _, rfl, Lib.hid (fun j hj => absurd hj (by omega))⟩
  case round =>
    obtain ⟨q, hq, rfl, hall⟩ := hrel
    by_cases hlt : q < n
    · obtain ⟨a2, rfl, hab2, ez⟩ := intGet H.out (k := q) (by rw [HL.out]; exact hlt)
      have HF2 := Lib.hid (HN.out q hlt)
      have HA2 : Hid ((lo ≤ zs.getD q 0 ∧ zs.getD q 0 ≤ hi) → ∀ j, j < q + 1 → lo ≤ zs.getD j 0 ∧ zs.getD j 0 ≤ hi) := Lib.hid (fun h j hj => by
        rcases Nat.lt_succ_iff_lt_or_eq.1 hj with h1 | h1
        · exact hall.out j h1
        · subst h1; exact h)
      generalize zs.getD q 0 = z at ez HF2 HA2
      have CZ := Lib.hid (fun W => CI.out z W)
      have hq0 : (0 : Int) ≤ (q : Int) := by omega
      have hq1 : (q : Int) < (n : Int) := by omega
      clear hall HN HY CI H
      by_cases hz : lo ≤ z ∧ z ≤ hi
      · rw [decide_eq_true hz] at CZ
        have HR := Lib.hid (HA2.out hz)
        clear HF2 HA2 hz
        go_wp2_with fail
        refine (CZ.out _).mono ?_
        rintro e w3 ⟨rfl, rfl⟩
        go_wp2_with fail
        go_round
        case rel => exact ⟨q + 1, by omega, by go_num, HR⟩
        case measure => simp [intOf]; omega
      · rw [decide_eq_false hz] at CZ
        obtain rfl : b = false := HF2.out hz
        clear HF2 HA2 hz
        go_wp2_with fail
        refine (CZ.out _).mono ?_
        rintro e w3 ⟨rfl, rfl⟩
        go_wp2_with fail
        go_ret
        exact ⟨rfl, rfl⟩
    · obtain rfl : q = n := by omega
      obtain rfl : b = true := HY.out (fun j h => hall.out j h)
      clear hall HN CI H
      go_wp2_with fail
      go_ret
      exact ⟨rfl, rfl⟩
theorem has_two_new (w : World) (x y : Value) (t : TypeId) : Has (w.alloc (.cells #[x, y] t)) (w.heap.size + 1) (some ⟨w.heap.size, 0, none⟩) [x, y] := by
  intro k u hu
  refine ⟨_, rfl, by simp, ?_⟩
  match k, hu with
  | 0, hu => exact (sNew w #[x, y] t 0).trans hu
  | 1, hu => exact (sNew w #[x, y] t 1).trans hu

theorem flatPool_x2 : ∀ (vs : List TPool) (k : Nat) (z : Int) (h : k < vs.length), (flatPool vs).set (k * 3 + 2) (.int .i64 z) = flatPool (vs.set k ⟨vs[k].x0, vs[k].x1, z⟩)
  | [], k, z, h => absurd h (by simp)
  | x :: t, 0, z, _ => rfl
  | x :: t, k + 1, z, h => by
    have ih := flatPool_x2 t k z (by simpa using h)
    have e : (k + 1) * 3 + 2 = k * 3 + 2 + 1 + 1 + 1 := by omega
    rw [e]
    simp only [flatPool, List.set_cons_succ, List.getElem_cons_succ]
    rw [ih]
theorem flatPool_set : ∀ (vs : List TPool) (k : Nat) (v : TPool), k < vs.length →
    (((flatPool vs).set (k * 3) (.int .i64 v.x0)).set (k * 3 + 1) (.int .i64 v.x1)).set (k * 3 + 2) (.int .i64 v.x2) = flatPool (vs.set k v)
  | [], k, v, h => absurd h (by simp)
  | x :: t, 0, v, _ => rfl
  | x :: t, k + 1, v, h => by
    have ih := flatPool_set t k v (by simpa using h)
    have e : (k + 1) * 3 = k * 3 + 1 + 1 + 1 := by omega
    rw [e]
    simp only [flatPool, List.set_cons_succ]
    rw [ih]
theorem flatPool_one : ∀ (vs : List TPool), ∀ u ∈ flatPool vs, u.oneCell' = true
  | [], u, h => by simp [flatPool] at h
  | v :: t, u, h => by
    simp only [flatPool, List.mem_cons] at h
    rcases h with rfl | rfl | rfl | h
    · rfl
    · rfl
    · rfl
    · exact flatPool_one t u h
theorem addO (g o j : Nat) : (⟨g, o, none⟩ : Addr).add j = ⟨g, o + j, none⟩ := by unfold Addr.add; split <;> simp_all
theorem own_set {w : World} {base : Nat} {e : TypeId} {size n : Nat} {v : Value} {xs : List Value} (h : w.ownsRow base e size v n xs) (b o : Nat) (u : Value) (hne : v.ownBlock ≠ some b) : (w.setCell ⟨b, o, none⟩ u).ownsRow base e size v n xs :=
  h.kept (row := some b) ⟨rfl, rfl, rfl, by simp [World.setCell], fun k _ hk => Below.heap_setCell _ _ _ _ (fun e => hk (by rw [e]))⟩ (.inr hne)
theorem own_capP {w : World} {base : Nat} {e : TypeId} {g n c : Nat} {xs : List Value} {z : Nat} (h : w.ownsRow base e z (.slice (some ⟨g, 0, none⟩) n c) n xs) : n ≤ c := by
  rcases h.2 with ⟨h1, h2⟩ | ⟨g, cap, cur, h1, -, -, h2, -⟩
  · cases h1
  · injection h1 with _ _ h3; omega
/-- A Pool of an own row, in the forms that the walk asks for. -/
theorem own_atP {w : World} {base g n c : Nat} {xs : List TPool} (h : w.ownsRow base 35 3 (.slice (some ⟨g, 0, none⟩) n c) n (flatPool xs)) {k : Nat} (hk : k < n) :
    w.cell? ⟨g, k * 3, none⟩ = some (.int .i64 (xs.getD k noPool).x0) ∧ w.cell? ⟨g, k * 3 + 1, none⟩ = some (.int .i64 (xs.getD k noPool).x1) ∧ w.cell? ⟨g, k * 3 + 2, none⟩ = some (.int .i64 (xs.getD k noPool).x2) := by
  have hl : xs.length = n := by have := h.1; rw [flatPool_len] at this; omega
  obtain ⟨f0, f1, f2⟩ := flatPool_at xs k (by omega)
  rw [getPool (by omega)]
  exact ⟨(h.cellAt (k * 3) (by omega)).trans f0, (h.cellAt (k * 3 + 1) (by omega)).trans f1, (h.cellAt (k * 3 + 2) (by omega)).trans f2⟩
theorem own_lenP {w : World} {base g n c : Nat} {xs : List TPool} (h : w.ownsRow base 35 3 (.slice (some ⟨g, 0, none⟩) n c) n (flatPool xs)) : xs.length = n := by
  have := h.1; rw [flatPool_len] at this; omega
/-- A row of Pools of one's own. -/
def OwnP (w w' : World) (L : List TPool) (n : Nat) (v : Value) : Prop :=
  ∃ g c, v = .slice (some ⟨g, 0, none⟩) n c ∧ w.heap.size ≤ g ∧ w'.ownsRow w.heap.size 35 3 (.slice (some ⟨g, 0, none⟩) n c) n (flatPool L) ∧ Below w.heap.size w w'
theorem OwnP.below {w w' W : World} {L : List TPool} {n : Nat} {v : Value} (h : OwnP w w' L n v) (hb : Go.RowKit.Below w'.heap.size w' W) : OwnP w W L n v := by
  obtain ⟨g, c, rfl, h1, h2, h3⟩ := h
  exact ⟨g, c, rfl, h1, own_below h2 hb, h3.trans (hb.mono h3.size)⟩
theorem OwnP.low {w w' : World} {L : List TPool} {n : Nat} {v : Value} (h : OwnP w w' L n v) : Go.RowKit.Below w.heap.size w w' := by
  obtain ⟨g, c, rfl, h1, h2, h3⟩ := h
  exact h3
theorem OwnP.base {w0 w w' : World} {L : List TPool} {n : Nat} {v : Value} (h : OwnP w w' L n v) (hb : Go.RowKit.Below w0.heap.size w0 w) : OwnP w0 w' L n v := by
  obtain ⟨g, c, rfl, h1, h2, h3⟩ := h
  exact ⟨g, c, rfl, Nat.le_trans hb.size h1, own_low h2 hb.size, hb.trans (h3.mono hb.size)⟩
theorem OwnP.nil {w w0 : World} (hb : Below w.heap.size w w0) : OwnP w (w0.alloc (.cells #[] 35)) [] 0 (.slice (some ⟨w0.heap.size, 0, none⟩) 0 0) :=
  ⟨w0.heap.size, 0, rfl, hb.size, own_low (World.ownsRow_made w0 #[] 0 (Nat.le_refl _) (by unfold maxLen; omega) rfl) hb.size, hb.alloc hb.size _⟩
def GivesP (w : World) (L : List TPool) (m : Nat) (x : Bool) (e : Ending) (w' : World) : Prop :=
  ∃ g c', e = .returned (.tuple #[.slice (some ⟨g, 0, none⟩) m c', .bool x]) ∧ w'.ownsRow w.heap.size 35 3 (.slice (some ⟨g, 0, none⟩) m c') m (flatPool L) ∧ Below w.heap.size w w'
theorem OwnP.gives {w w' : World} {L : List TPool} {n : Nat} {v : Value} (h : OwnP w w' L n v) (x : Bool) : GivesP w L n x (.returned (.tuple #[v, .bool x])) w' := by
  obtain ⟨g, c, rfl, h1, h2, h3⟩ := h
  exact ⟨g, c, rfl, h2, h3⟩
theorem some_ofP {w : World} {B n : Nat} {A : Option Addr} {vs : List TPool} (h : IsPools w B A n vs) (hn : 0 < n) : ∃ a, A = some a := by
  obtain ⟨a, ea, -⟩ := h.has.Pool (k := 0) (by rw [h.len]; exact hn)
  exact ⟨a, ea⟩

theorem own_setP {w : World} {base g n c : Nat} {xs : List TPool} (h : w.ownsRow base 35 3 (.slice (some ⟨g, 0, none⟩) n c) n (flatPool xs)) (hl : xs.length = n) {k : Nat} (hk : k < n) (x0 x1 x2 : Int) :
    (((w.setCell ⟨g, k * 3, none⟩ (.int .i64 x0)).setCell ⟨g, k * 3 + 1, none⟩ (.int .i64 x1)).setCell ⟨g, k * 3 + 2, none⟩ (.int .i64 x2)).ownsRow base 35 3 (.slice (some ⟨g, 0, none⟩) n c) n (flatPool (xs.set k ⟨x0, x1, x2⟩)) ∧
    w.grownBy (((w.setCell ⟨g, k * 3, none⟩ (.int .i64 x0)).setCell ⟨g, k * 3 + 1, none⟩ (.int .i64 x1)).setCell ⟨g, k * 3 + 2, none⟩ (.int .i64 x2)) (some g) := by
  have s0 := h.stored (k * 3) (.int .i64 x0)
  have s1 := s0.1.stored (k * 3 + 1) (.int .i64 x1)
  have s2 := s1.1.stored (k * 3 + 2) (.int .i64 x2)
  rw [flatPool_set _ _ ⟨x0, x1, x2⟩ (by omega)] at s2
  exact ⟨s2.1, (s0.2.trans s1.2).trans s2.2⟩

def GivesP3 (w : World) (L : List TPool) (m : Nat) (z : Int) (x : Bool) (e : Ending) (w' : World) : Prop :=
  ∃ g c', e = .returned (.tuple #[.slice (some ⟨g, 0, none⟩) m c', .int .i64 z, .bool x]) ∧ w'.ownsRow w.heap.size 35 3 (.slice (some ⟨g, 0, none⟩) m c') m (flatPool L) ∧ Below w.heap.size w w'
theorem OwnP.gives3 {w w' : World} {L : List TPool} {n : Nat} {v : Value} (h : OwnP w w' L n v) (z : Int) (x : Bool) : GivesP3 w L n z x (.returned (.tuple #[v, .int .i64 z, .bool x])) w' := by
  obtain ⟨g, c, rfl, h1, h2, h3⟩ := h
  exact ⟨g, c, rfl, h2, h3⟩
theorem own_turnP {w : World} {base g n c : Nat} {xs : List TPool} (h : w.ownsRow base 35 3 (.slice (some ⟨g, 0, none⟩) n c) n (flatPool xs)) {k : Nat} (hk : k < n) (y : Int) :
    (w.setCell ⟨g, k * 3 + 2, none⟩ (.int .i64 y)).ownsRow base 35 3 (.slice (some ⟨g, 0, none⟩) n c) n (flatPool (xs.set k ⟨(xs.getD k noPool).x0, (xs.getD k noPool).x1, y⟩)) ∧ w.grownBy (w.setCell ⟨g, k * 3 + 2, none⟩ (.int .i64 y)) (some g) := by
  have s := h.stored (k * 3 + 2) (.int .i64 y)
  have hl := own_lenP h
  rw [flatPool_x2 xs k y (by omega)] at s
  rw [getPool (by omega)]
  exact s
def BoxP (W : World) (g : Nat) (a b c : Int) : Prop := W.heap[g]? = some (.cells #[.int .i64 a, .int .i64 b, .int .i64 c] 35 (0, 0))
section
variable {W : World} {g : Nat} {a b c : Int}
theorem BoxP.c0 (h : BoxP W g a b c) : W.cell? ⟨g, 0, none⟩ = some (.int .i64 a) := cell_of_row W g 0 _ _ _ h
theorem BoxP.c1 (h : BoxP W g a b c) : W.cell? ⟨g, 1, none⟩ = some (.int .i64 b) := cell_of_row W g 1 _ _ _ h
theorem BoxP.c2 (h : BoxP W g a b c) : W.cell? ⟨g, 2, none⟩ = some (.int .i64 c) := cell_of_row W g 2 _ _ _ h
theorem BoxP.fz (h : BoxP W g a b c) (k : Nat) : W.frozen? ⟨g, k, none⟩ = false := frozen_of_row W g k _ _ h
theorem BoxP.lt (h : BoxP W g a b c) : g < W.heap.size := (Array.getElem?_eq_some_iff.1 h).1
theorem BoxP.below {w' : World} {B : Nat} (h : BoxP W g a b c) (hb : Below B W w') (hg : g < B) : BoxP w' g a b c := (hb.block g hg).trans h
theorem BoxP.all {w' : World} (h : BoxP W g a b c) (hb : Below W.heap.size W w') : BoxP w' g a b c := h.below hb h.lt
theorem BoxP.kept {w' : World} {row : Option Nat} (h : BoxP W g a b c) (hg : W.grownBy w' row) (hne : some g ≠ row) : BoxP w' g a b c := (hg.block g h.lt hne).trans h
theorem BoxP.new (W : World) (a b c : Int) : BoxP (W.alloc (.cells #[.int .i64 a, .int .i64 b, .int .i64 c] 35)) W.heap.size a b c := heap_alloc_new W _
theorem BoxP.rangeAt (h : BoxP W g a b c) : W.rangeAt g 0 [.int .i64 a, .int .i64 b, .int .i64 c] := by
  intro j x hj
  match j, hj with
  | 0, hj => injection hj with hj; rw [← hj]; exact h.c0
  | 1, hj => injection hj with hj; rw [← hj]; exact h.c1
  | 2, hj => injection hj with hj; rw [← hj]; exact h.c2
abbrev sets3P (W : World) (g : Nat) (a b c : Int) : World := ((W.setCell ⟨g, 0, none⟩ (.int .i64 a)).setCell ⟨g, 1, none⟩ (.int .i64 b)).setCell ⟨g, 2, none⟩ (.int .i64 c)
theorem BoxP.sets (h : BoxP W g a b c) (a' b' c' : Int) : BoxP (sets3P W g a' b' c') g a' b' c' := by
  unfold BoxP at *
  simp [sets3P, World.setCell, Array.getElem?_modify, h]
theorem sets3P_below {w W : World} {B : Nat} (h : Below B w W) {g : Nat} (hg : B ≤ g) (a b c : Int) : Below B w (sets3P W g a b c) :=
  ((h.setCell (p := ⟨g, 0, none⟩) hg _).setCell (p := ⟨g, 1, none⟩) hg _).setCell (p := ⟨g, 2, none⟩) hg _
end
set_option maxRecDepth 100000 in
set_option maxHeartbeats 1000000 in
theorem cloneP_any {w : World} {B n : Nat} {a : Addr} {vs : List TPool} (c : Nat) (h : IsPools w B (some a) n vs) (hm : n ≤ 1000) :
    Calls Try.prog 57 #[.slice (some a) n c] w fun e w' => ∃ v, e = .returned v ∧ OwnP w w' vs n v := by
  obtain ⟨i0, hi, hz0, hz1, hz2⟩ := info_parts Try.infoPool'
  have hfl : (flatPool vs).length = n * 3 := by rw [flatPool_len, h.len]; omega
  have HN : Hid (∀ j u, (flatPool vs)[j]? = some u → (w.alloc (.cells #[] 35)).cell? (a.add j) = some u) := Lib.hid (fun j u hu => by
    obtain ⟨a', e, hb, hc⟩ := (h.below (below1 w (.cells #[] 35)) h.low).has j u hu
    injection e with e
    subst e
    exact hc)
  have HO : Hid (∀ u ∈ flatPool vs, u.oneCell' = true) := Lib.hid (flatPool_one vs)
  have HR := Lib.hid (World.ownsRow_made (size := 3) (e := 35) w #[] 0 (Nat.le_refl _) (by unfold maxLen; omega) rfl)
  have heq := run_eql_slice_nil (P := Try.prog) w 24 35 (some a) n c Try.underlying24
  rw [Option.isNone_some] at heq
  unfold OwnP
  generalize flatPool vs = xs at hfl HN HO ⊢
  clear h
  go_enter Try.func57, Try.ntmps57
  go_wp2_with (at_builtin; refine wpList_append_own _ rfl (.tmp 5) (.tmp 6) 24 rfl w.heap.size 35 i0 (.agg #[.int .i64 0, .int .i64 0, .int .i64 0]) 3 24 Try.underlying24 hi hz0 hz1 hz2 rfl (by decide) (.slice (some ⟨w.heap.size, 0, none⟩) 0 0) 0 [] rfl HR.out a n c xs rfl hfl HN.out HO.out (by unfold maxLen; omega) (by omega) (by simp) ?_; intro v1 w1 hown1 hgrow1 hnil1; obtain ⟨g1, c1, rfl, hg1⟩ := own_some hown1 (fun e => nomatch (hnil1.1 e).1); have HB1 := Lib.hid (((Below.refl w.heap.size w).alloc (Nat.le_refl _) (.cells #[] 35)).grown hgrow1 (by simp) (fun q hq => by cases hq; exact Nat.le_refl _)); rw [Nat.zero_add, List.nil_append] at hown1; have HOWN := Lib.hid hown1; clear hown1 hgrow1 hnil1)
  go_ret
  exact ⟨_, rfl, g1, c1, by simp, hg1, HOWN.out, HB1.out⟩

end Go.Proofs.Ytgnopkemcgbedaa
