/- Chapter 12: rows of integers, a task in memory in one word, its block, numbers in a range, copies of a row. -/
import Derived.Test.YtdjoiodkmanacaaPuM
import Derived.Test.YtdjoiodkmanacaaRng
import Derived.Test.YtdjoiodkmanacaaInv
import Derived.Deep.QuietTactic
import Derived.Deep.RegionWith
import Derived.Lib.LazyBuf
import Derived.Maps.AppendAt
namespace Go.Proofs.Ytdjoiodkmanacaa
open Go.RowKit Go.PlainAid Go.Sort
set_option linter.unusedVariables false
set_option linter.unusedSimpArgs false

theorem below1 (w : World) (a : Obj) : Below w.heap.size w (w.alloc a) := (Below.refl _ _).alloc (Nat.le_refl _) _
theorem below2 (w : World) (a b : Obj) : Below w.heap.size w ((w.alloc a).alloc b) := (below1 w a).alloc (by simp) _
theorem ret_bool {a b : Bool} (h : a = b) : Ending.returned (.bool a) = .returned (.bool b) := by rw [h]
theorem toBelow {P : Program} {f : FuncId} {args : Array Value} {w : World} {E : Ending} (h : Calls P f args w fun e w' => e = E ∧ w = w') : Calls P f args w fun e w' => e = E ∧ Below w.heap.size w w' :=
  h.mono fun _ _ ⟨a, b⟩ => ⟨a, b ▸ Below.refl _ _⟩

/-- All lie within these. -/
def allIn (lo hi : Int) (zs : List Int) : Prop := ∀ z ∈ zs, lo ≤ z ∧ z ≤ hi
instance (lo hi : Int) (zs : List Int) : Decidable (allIn lo hi zs) := by unfold allIn; infer_instance
theorem allIn_getD {lo hi : Int} {zs : List Int} (h : allIn lo hi zs) {i : Nat} (hi2 : i < zs.length) : lo ≤ zs.getD i 0 ∧ zs.getD i 0 ≤ hi := by
  rw [List.getD_eq_getElem?_getD, List.getElem?_eq_getElem hi2]
  exact h _ (List.getElem_mem hi2)
theorem intGet {w : World} {B : Nat} {A : Option Addr} {zs : List Int} (h : Has w B A (zs.map (.int .i64))) {k : Nat} (hk : k < zs.length) :
    ∃ a, A = some a ∧ a.block < B ∧ w.cell? (a.add k) = some (.int .i64 (zs.getD k 0)) := by
  obtain ⟨a, e, hb, hc⟩ := h.intAt hk
  exact ⟨a, e, hb, by rw [hc]; simp [List.getD_eq_getElem?_getD, hk]⟩

set_option maxHeartbeats 1000000 in
theorem areIn_any (lo hi : Int) (A : Option Addr) (n c B : Nat) (zs : List Int) (w : World) (hn : zs.length = n) (hm : n ≤ 1048576) (h : Has w B A (zs.map (.int .i64))) :
    Calls Try.prog 57 #[.int .i64 lo, .int .i64 hi, .slice A n c] w fun e w' => e = .returned (.bool (decide (allIn lo hi zs))) ∧ w = w' := by
  have CI := Lib.hid (fun (z : Int) W => inRange_any z lo hi W)
  have HL := Lib.hid hn
  have H := Lib.hid h
  obtain ⟨b, hb⟩ : ∃ b, decide (allIn lo hi zs) = b := ⟨_, rfl⟩
  rw [hb]
  have HN : Hid (∀ q, q < n → ¬ (lo ≤ zs.getD q 0 ∧ zs.getD q 0 ≤ hi) → b = false) := Lib.hid (fun q hq hz => by
    rw [← hb]
    refine decide_eq_false fun hs => hz (allIn_getD hs (by omega)))
  have HY : Hid ((∀ q, q < n → lo ≤ zs.getD q 0 ∧ zs.getD q 0 ≤ hi) → b = true) := Lib.hid (fun hz => by
    rw [← hb]
    refine decide_eq_true (fun z hz2 => ?_)
    obtain ⟨q, hq, rfl⟩ := List.getElem_of_mem hz2
    have := hz q (by omega)
    simpa [List.getD_eq_getElem?_getD, hq] using this)
  clear hb hn h
  go_enter Try.func57, Try.ntmps57
  go_wp2_with fail
  go_loop [11] (fun i => ∃ q : Nat, q ≤ n ∧ i = .int .i64 q ∧ Hid (∀ j, j < q → lo ≤ zs.getD j 0 ∧ zs.getD j 0 ≤ hi)) (fun i => n - (intOf i).toNat)
  case atStart => exact ⟨0, Nat.zero_le _, rfl, Lib.hid (fun j hj => absurd hj (by omega))⟩
  case round =>
    obtain ⟨q, hq, rfl, hall⟩ := hrel
    by_cases hlt : q < n
    · obtain ⟨a2, rfl, hab2, ez⟩ := intGet H.out (k := q) (by rw [HL.out]; exact hlt)
      have HF2 := Lib.hid (HN.out q hlt)
      have HA2 : Hid ((lo ≤ zs.getD q 0 ∧ zs.getD q 0 ≤ hi) → ∀ j, j < q + 1 → lo ≤ zs.getD j 0 ∧ zs.getD j 0 ≤ hi) := Lib.hid (fun h j hj => by
        rcases Nat.lt_succ_iff_lt_or_eq.1 hj with h1 | h1
        · exact hall.out j h1
        · subst h1; exact h)
      generalize zs.getD q 0 = z at ez HF2 HA2
      have CZ := Lib.hid (fun W => CI.out z W)
      have hq0 : (0 : Int) ≤ (q : Int) := by omega
      have hq1 : (q : Int) < (n : Int) := by omega
      clear hall HN HY CI H
      by_cases hz : lo ≤ z ∧ z ≤ hi
      · rw [decide_eq_true hz] at CZ
        have HR := Lib.hid (HA2.out hz)
        clear HF2 HA2 hz
        go_wp2_with fail
        refine (CZ.out _).mono ?_
        rintro e w3 ⟨rfl, rfl⟩
        go_wp2_with fail
        go_round
        case rel => exact ⟨q + 1, by omega, by go_num, HR⟩
        case measure => simp [intOf]; omega
      · rw [decide_eq_false hz] at CZ
        obtain rfl : b = false := HF2.out hz
        clear HF2 HA2 hz
        go_wp2_with fail
        refine (CZ.out _).mono ?_
        rintro e w3 ⟨rfl, rfl⟩
        go_wp2_with fail
        go_ret
        exact ⟨rfl, rfl⟩
    · obtain rfl : q = n := by omega
      obtain rfl : b = true := HY.out (fun j h => hall.out j h)
      clear hall HN CI H
      go_wp2_with fail
      go_ret
      exact ⟨rfl, rfl⟩
theorem addO (g o j : Nat) : (⟨g, o, none⟩ : Addr).add j = ⟨g, o + j, none⟩ := by unfold Addr.add; split <;> simp_all
theorem own_set {w : World} {base : Nat} {e : TypeId} {size n : Nat} {v : Value} {xs : List Value} (h : w.ownsRow base e size v n xs) (b o : Nat) (u : Value) (hne : v.ownBlock ≠ some b) : (w.setCell ⟨b, o, none⟩ u).ownsRow base e size v n xs :=
  h.kept (row := some b) ⟨rfl, rfl, rfl, by simp [World.setCell], fun k _ hk => Below.heap_setCell _ _ _ _ (fun e => hk (by rw [e]))⟩ (.inr hne)
theorem own_capP {w : World} {base : Nat} {e : TypeId} {g n c : Nat} {xs : List Value} {z : Nat} (h : w.ownsRow base e z (.slice (some ⟨g, 0, none⟩) n c) n xs) : n ≤ c := by
  rcases h.2 with ⟨h1, h2⟩ | ⟨g, cap, cur, h1, -, -, h2, -⟩
  · cases h1
  · injection h1 with _ _ h3; omega
structure IsIs (w : World) (B : Nat) (A : Option Addr) (n : Nat) (zs : List Int) : Prop where
  len : zs.length = n
  low : B ≤ w.heap.size
  has : Has w B A (zs.map (.int .i64))
theorem IsIs.below {w w' : World} {B C : Nat} {A : Option Addr} {n : Nat} {zs : List Int} (h : IsIs w B A n zs) (hb : Below C w w') (hC : B ≤ C) : IsIs w' B A n zs :=
  ⟨h.len, Nat.le_trans h.low hb.size, h.has.below (hb.mono hC)⟩
theorem own_IsIs {w : World} {base g n c : Nat} {zs : List Int} (h : w.ownsRow base 3 1 (.slice (some ⟨g, 0, none⟩) n c) n (zs.map (.int .i64))) : IsIs w w.heap.size (some ⟨g, 0, none⟩) n zs :=
  ⟨by have := h.1; simpa using this, Nat.le_refl _, ownS_has h⟩
theorem Has.numAt {w : World} {B : Nat} {A : Option Addr} {zs : List Int} (h : Has w B A (zs.map (.int .i64))) {k : Nat} (hk : k < zs.length) :
    ∃ a, A = some a ∧ a.block < B ∧ w.cell? (a.add k) = some (.int .i64 (zs.getD k 0)) := by
  obtain ⟨a, e, hb, hc⟩ := h.intAt hk
  exact ⟨a, e, hb, by rw [hc]; simp [List.getD_eq_getElem?_getD, hk]⟩
theorem IsIs.take {w : World} {B n : Nat} {A : Option Addr} {zs : List Int} (h : IsIs w B A n zs) {k : Nat} (hk : k ≤ n) : IsIs w B A k (zs.take k) :=
  ⟨by rw [List.length_take, h.len]; omega, h.low, fun j u hu => by
    rw [List.map_take] at hu
    have hj := (List.getElem?_eq_some_iff.1 hu).1
    rw [List.length_take] at hj
    rw [List.getElem?_take_of_lt (by omega)] at hu
    exact h.has j u hu⟩
def OwnY (w w' : World) (L : List Int) (n : Nat) (v : Value) : Prop :=
  ∃ g c, v = .slice (some ⟨g, 0, none⟩) n c ∧ w.heap.size ≤ g ∧ w'.ownsRow w.heap.size 3 1 (.slice (some ⟨g, 0, none⟩) n c) n (L.map (.int .i64)) ∧ Below w.heap.size w w'
theorem OwnY.below {w w' W : World} {L : List Int} {n : Nat} {v : Value} (h : OwnY w w' L n v) (hb : Go.RowKit.Below w'.heap.size w' W) : OwnY w W L n v := by
  obtain ⟨g, c, rfl, h1, h2, h3⟩ := h
  exact ⟨g, c, rfl, h1, own_below h2 hb, h3.trans (hb.mono h3.size)⟩
theorem OwnY.low {w w' : World} {L : List Int} {n : Nat} {v : Value} (h : OwnY w w' L n v) : Go.RowKit.Below w.heap.size w w' := by
  obtain ⟨g, c, rfl, h1, h2, h3⟩ := h
  exact h3
theorem OwnY.base {w0 w w' : World} {L : List Int} {n : Nat} {v : Value} (h : OwnY w w' L n v) (hb : Go.RowKit.Below w0.heap.size w0 w) : OwnY w0 w' L n v := by
  obtain ⟨g, c, rfl, h1, h2, h3⟩ := h
  exact ⟨g, c, rfl, Nat.le_trans hb.size h1, own_low h2 hb.size, hb.trans (h3.mono hb.size)⟩
theorem OwnY.nil {w w0 : World} (hb : Below w.heap.size w w0) : OwnY w (w0.alloc (.cells #[] 3)) [] 0 (.slice (some ⟨w0.heap.size, 0, none⟩) 0 0) :=
  ⟨w0.heap.size, 0, rfl, hb.size, own_low (World.ownsRow_made w0 #[] 0 (Nat.le_refl _) (by unfold maxLen; omega) rfl) hb.size, hb.alloc hb.size _⟩
theorem OwnY.is {w w' : World} {L : List Int} {n : Nat} {v : Value} (h : OwnY w w' L n v) : ∃ g c, v = .slice (some ⟨g, 0, none⟩) n c ∧ IsIs w' w'.heap.size (some ⟨g, 0, none⟩) n L := by
  obtain ⟨g, c, rfl, h1, h2, h3⟩ := h
  exact ⟨g, c, rfl, own_IsIs h2⟩
set_option maxRecDepth 100000 in
set_option maxHeartbeats 2000000 in
theorem l1OwnZ_any {w : World} {B n : Nat} {a : Addr} {L : List Int} (c : Nat) (hm : n ≤ 1000) (h : IsIs w B (some a) n L) :
    Calls Try.prog 66 #[.slice (some a) n c] w fun e w' => ∃ g1 c1, e = .returned (.slice (some ⟨g1, 0, none⟩) n c1) ∧ w.heap.size ≤ g1 ∧ w'.ownsRow w.heap.size 3 1 (.slice (some ⟨g1, 0, none⟩) n c1) n (L.map (.int .i64)) ∧ Below w.heap.size w w' := by
  obtain ⟨i0, hi, hz0, hz1, hz2⟩ := info_parts Try.infoInt'
  have HOWN : Hid ((w.alloc (.cells #[] 3)).ownsRow w.heap.size 3 1 (.slice (some ⟨w.heap.size, 0, none⟩) 0 0) 0 []) := Lib.hid (World.ownsRow_made w #[] 0 (Nat.le_refl _) (by unfold maxLen; omega) rfl)
  have HB := Lib.hid (below1 w (.cells #[] 3))
  have hl : (L.map (Value.int .i64)).length = n * 1 := by rw [List.length_map, h.len]; omega
  have HNEW : Hid (∀ j u, (L.map (Value.int .i64))[j]? = some u → (w.alloc (.cells #[] 3)).cell? (a.add j) = some u) := Lib.hid (fun j u hu => by
    obtain ⟨a', e, hb, hc⟩ := (h.below (below1 w (.cells #[] 3)) h.low).has j u hu
    injection e with e
    subst e
    exact hc)
  have HXO : Hid (∀ u ∈ L.map (Value.int .i64), u.oneCell' = true) := Lib.hid (fun u hu => by obtain ⟨q, -, rfl⟩ := List.mem_map.1 hu; rfl)
  have HLL := Lib.hid hl
  clear h hl
  generalize L.map (Value.int .i64) = xs at HNEW HXO HLL ⊢
  go_enter Try.func66, Try.ntmps66
  go_wp2_with (at_builtin; refine wpList_append_own _ rfl (.tmp 3) (.tmp 4) 24 rfl w.heap.size 3 i0 (.int .i64 0) 1 8 Try.underlying24 hi hz0 hz1 hz2 rfl (by decide) (.slice (some ⟨w.heap.size, 0, none⟩) 0 0) 0 _ rfl HOWN.out a n c xs rfl HLL.out HNEW.out HXO.out (by unfold maxLen; omega) (by omega) HB.out.size ?_; intro v1 w1 hown1 hgrow1 hnil1; obtain ⟨g1, c1, rfl, hg1⟩ := own_some hown1 (fun e => nomatch (hnil1.1 e).1); have hb1 := HB.out.grown hgrow1 HB.out.size (fun q hq => by cases hq; exact Nat.le_refl _); clear hnil1 hgrow1)
  rw [Nat.zero_add, List.nil_append] at hown1
  have HF := Lib.hid (And.intro hg1 (And.intro hown1 hb1))
  clear hown1 hb1 hg1
  go_ret
  exact ⟨g1, c1, by simp, HF.out.1, HF.out.2.1, HF.out.2.2⟩
def GivesY3 (w : World) (L : List Int) (l : Nat) (z : Int) (x : Bool) (e : Ending) (w' : World) : Prop :=
  ∃ g c', e = .returned (.tuple #[.slice (some ⟨g, 0, none⟩) l c', .int .i64 z, .bool x]) ∧ w'.ownsRow w.heap.size 3 1 (.slice (some ⟨g, 0, none⟩) l c') l (L.map (.int .i64)) ∧ Below w.heap.size w w'
theorem OwnY.gives3 {w w' : World} {L : List Int} {n : Nat} {v : Value} (h : OwnY w w' L n v) (z : Int) (x : Bool) : GivesY3 w L n z x (.returned (.tuple #[v, .int .i64 z, .bool x])) w' := by
  obtain ⟨g, c, rfl, h1, h2, h3⟩ := h
  exact ⟨g, c, rfl, h2, h3⟩
set_option maxRecDepth 100000 in
set_option maxHeartbeats 1000000 in
theorem cloneZ_any {w : World} {B n : Nat} {a : Addr} {L : List Int} (c : Nat) (hm : n ≤ 1000) (h : IsIs w B (some a) n L) :
    Calls Try.prog 63 #[.slice (some a) n c] w fun e w' => ∃ v, e = .returned v ∧ OwnY w w' L n v := by
  obtain ⟨i0, hi, hz0, hz1, hz2⟩ := info_parts Try.infoInt'
  have HR := Lib.hid (World.ownsRow_made (size := 1) (e := 3) w #[] 0 (Nat.le_refl _) (by unfold maxLen; omega) rfl)
  have HB := below1 w (.cells #[] 3)
  have hfl : (L.map (Value.int .i64)).length = n * 1 := by rw [List.length_map, h.len]; omega
  have HN : Hid (∀ j u, (L.map (Value.int .i64))[j]? = some u → (w.alloc (.cells #[] 3)).cell? (a.add j) = some u) := Lib.hid (fun j u hu => by
    obtain ⟨a', e, hb, hc⟩ := (h.below (below1 w (.cells #[] 3)) h.low).has j u hu
    injection e with e
    subst e
    exact hc)
  have HO : Hid (∀ u ∈ L.map (Value.int .i64), u.oneCell' = true) := Lib.hid (fun u hu => by obtain ⟨q, -, rfl⟩ := List.mem_map.1 hu; rfl)
  have heq := run_eql_slice_nil (P := Try.prog) w 24 3 (some a) n c Try.underlying24
  rw [Option.isNone_some] at heq
  unfold OwnY
  generalize L.map (Value.int .i64) = xs at hfl HN HO ⊢
  clear h HB
  go_enter Try.func63, Try.ntmps63
  go_wp2_with (at_builtin; refine wpList_append_own _ rfl (.tmp 5) (.tmp 6) 24 rfl w.heap.size 3 i0 (.int .i64 0) 1 8 Try.underlying24 hi hz0 hz1 hz2 rfl (by decide) (.slice (some ⟨w.heap.size, 0, none⟩) 0 0) 0 [] rfl HR.out a n c xs rfl hfl HN.out HO.out (by unfold maxLen; omega) (by omega) (by simp) ?_; intro v1 w1 hown1 hgrow1 hnil1; obtain ⟨g1, c1, rfl, hg1⟩ := own_some hown1 (fun e => nomatch (hnil1.1 e).1); have HB1 := Lib.hid (((Below.refl w.heap.size w).alloc (Nat.le_refl _) (.cells #[] 3)).grown hgrow1 (by simp) (fun q hq => by cases hq; exact Nat.le_refl _)); rw [Nat.zero_add, List.nil_append] at hown1; have HOWN := Lib.hid hown1; clear hown1 hgrow1 hnil1)
  go_ret
  exact ⟨_, rfl, g1, c1, by simp, hg1, HOWN.out, HB1.out⟩

theorem OwnY.gives {w w' : World} {L : List Int} {n : Nat} {v : Value} (h : OwnY w w' L n v) (x : Bool) : ∃ g c', (Ending.returned (.tuple #[v, .bool x]) = .returned (.tuple #[.slice (some ⟨g, 0, none⟩) n c', .bool x])) ∧ w'.ownsRow w.heap.size 3 1 (.slice (some ⟨g, 0, none⟩) n c') n (L.map (.int .i64)) ∧ Below w.heap.size w w' := by
  obtain ⟨g, c, rfl, h1, h2, h3⟩ := h
  exact ⟨g, c, rfl, h2, h3⟩
def GivesY (w : World) (L : List Int) (l : Nat) (x : Bool) (e : Ending) (w' : World) : Prop :=
  ∃ g c', e = .returned (.tuple #[.slice (some ⟨g, 0, none⟩) l c', .bool x]) ∧ w'.ownsRow w.heap.size 3 1 (.slice (some ⟨g, 0, none⟩) l c') l (L.map (.int .i64)) ∧ Below w.heap.size w w'

/-- A task's flows and pumps lie below block B. -/
structure IsTs (w : World) (B : Nat) (A : Option Addr) (n : Nat) (zs : List Int) (D : Option Addr) (m : Nat) (vs : List TPump) : Prop where
  low : B ≤ w.heap.size
  ints : IsIs w B A n zs
  pumps : IsPumps w B D m vs
theorem IsTs.below {w w' : World} {B C : Nat} {A D : Option Addr} {n m : Nat} {zs : List Int} {vs : List TPump} (h : IsTs w B A n zs D m vs) (hb : Below C w w') (hC : B ≤ C) : IsTs w' B A n zs D m vs :=
  ⟨Nat.le_trans h.low hb.size, h.ints.below hb hC, h.pumps.below hb hC⟩
theorem IsTs.upB {w w' : World} {B : Nat} {A D : Option Addr} {n m : Nat} {zs : List Int} {vs : List TPump} (h : IsTs w B A n zs D m vs) (hb : Below w.heap.size w w') : IsTs w' B A n zs D m vs := h.below hb h.low
theorem IsIs.upB {w w' : World} {B : Nat} {A : Option Addr} {n : Nat} {zs : List Int} (h : IsIs w B A n zs) (hb : Below w.heap.size w w') : IsIs w' B A n zs := h.below hb h.low
theorem IsIs.all {w : World} {B : Nat} {A : Option Addr} {n : Nat} {zs : List Int} (h : IsIs w B A n zs) : IsIs w w.heap.size A n zs := ⟨h.len, Nat.le_refl _, h.has.more h.low⟩
theorem IsTs.all {w : World} {B : Nat} {A D : Option Addr} {n m : Nat} {zs : List Int} {vs : List TPump} (h : IsTs w B A n zs D m vs) : IsTs w w.heap.size A n zs D m vs := ⟨Nat.le_refl _, h.ints.all, h.pumps.all⟩
/-- Its value; its block. -/
abbrev tv (a b c : Int) (A : Option Addr) (n q : Nat) (D : Option Addr) (m r : Nat) : Value := .agg #[.int .i64 a, .int .i64 b, .int .i64 c, .slice A n q, .slice D m r]
def BoxT (W : World) (g : Nat) (a b c : Int) (A : Option Addr) (n q : Nat) (D : Option Addr) (m r : Nat) : Prop := W.heap[g]? = some (.cells #[.int .i64 a, .int .i64 b, .int .i64 c, .slice A n q, .slice D m r] 27 (0, 0))
section
variable {W : World} {g : Nat} {a b c : Int} {A D : Option Addr} {n q m r : Nat}
theorem BoxT.c0 (h : BoxT W g a b c A n q D m r) : W.cell? ⟨g, 0, none⟩ = some (.int .i64 a) := cell_of_row W g 0 _ _ _ h
theorem BoxT.c1 (h : BoxT W g a b c A n q D m r) : W.cell? ⟨g, 1, none⟩ = some (.int .i64 b) := cell_of_row W g 1 _ _ _ h
theorem BoxT.c2 (h : BoxT W g a b c A n q D m r) : W.cell? ⟨g, 2, none⟩ = some (.int .i64 c) := cell_of_row W g 2 _ _ _ h
theorem BoxT.c3 (h : BoxT W g a b c A n q D m r) : W.cell? ⟨g, 3, none⟩ = some (.slice A n q) := cell_of_row W g 3 _ _ _ h
theorem BoxT.c4 (h : BoxT W g a b c A n q D m r) : W.cell? ⟨g, 4, none⟩ = some (.slice D m r) := cell_of_row W g 4 _ _ _ h
theorem BoxT.fz (h : BoxT W g a b c A n q D m r) (k : Nat) : W.frozen? ⟨g, k, none⟩ = false := frozen_of_row W g k _ _ h
theorem BoxT.lt (h : BoxT W g a b c A n q D m r) : g < W.heap.size := (Array.getElem?_eq_some_iff.1 h).1
theorem BoxT.below {w' : World} {B : Nat} (h : BoxT W g a b c A n q D m r) (hb : Below B W w') (hg : g < B) : BoxT w' g a b c A n q D m r := (hb.block g hg).trans h
theorem BoxT.all {w' : World} (h : BoxT W g a b c A n q D m r) (hb : Below W.heap.size W w') : BoxT w' g a b c A n q D m r := h.below hb h.lt
theorem BoxT.kept {w' : World} {row : Option Nat} (h : BoxT W g a b c A n q D m r) (hg : W.grownBy w' row) (hne : some g ≠ row) : BoxT w' g a b c A n q D m r := (hg.block g h.lt hne).trans h
theorem BoxT.new (W : World) (a b c : Int) (A : Option Addr) (n q : Nat) (D : Option Addr) (m r : Nat) : BoxT (W.alloc (.cells #[.int .i64 a, .int .i64 b, .int .i64 c, .slice A n q, .slice D m r] 27)) W.heap.size a b c A n q D m r := heap_alloc_new W _
theorem BoxT.rangeAt (h : BoxT W g a b c A n q D m r) : W.rangeAt g 0 [.int .i64 a, .int .i64 b, .int .i64 c, .slice A n q, .slice D m r] := by
  intro j x hj
  match j, hj with
  | 0, hj => injection hj with hj; rw [← hj]; exact h.c0
  | 1, hj => injection hj with hj; rw [← hj]; exact h.c1
  | 2, hj => injection hj with hj; rw [← hj]; exact h.c2
  | 3, hj => injection hj with hj; rw [← hj]; exact h.c3
  | 4, hj => injection hj with hj; rw [← hj]; exact h.c4
end
/-- A task that came in as an argument of a function, in its block. -/
theorem box_in (w : World) (a b c : Int) (A : Option Addr) (n q : Nat) (D : Option Addr) (m r : Nat) :
    ∃ W, w.alloc (.cells #[.int .i64 a, .int .i64 b, .int .i64 c, .slice A n q, .slice D m r] 27) = W ∧ BoxT W w.heap.size a b c A n q D m r ∧ Below w.heap.size w W ∧ W.heap.size = w.heap.size + 1 :=
  ⟨_, rfl, BoxT.new .., below1 _ _, by simp⟩
end Go.Proofs.Ytdjoiodkmanacaa
