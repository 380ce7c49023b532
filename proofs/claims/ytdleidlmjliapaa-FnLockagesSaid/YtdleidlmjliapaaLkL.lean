/- Chapter 8, the program: the order in which they come. -/
import Derived.Test.YtdleidlmjliapaaLkC
import Derived.Test.YtdleidlmjliapaaLkK
import Derived.Test.YtdleidlmjliapaaSrtLayI
import Derived.Sort.LotA
namespace Go.Proofs.Ytdleidlmjliapaa
open Go.RowKit Go.PlainAid Go.Sort Go.Shelf
set_option linter.unusedVariables false
set_option linter.unusedSimpArgs false

theorem take_put {α : Type} [Inhabited α] (enc : α → Value) (cur : Array Value) (d : Array α) (h : d.size ≤ cur.size) : (putCells enc 0 d cur).toList.take d.size = d.toList.map enc := by
  apply List.ext_getElem?
  intro j
  by_cases hj : j < d.size
  · rw [List.getElem?_take_of_lt hj, Array.getElem?_toList]
    simp [putCells, hj, show j < cur.size by omega]
  · rw [List.getElem?_take_eq_none (by omega), List.getElem?_eq_none (by simp; omega)]
/-- Behind the sort the same slice owns what it holds then. -/
theorem own_put {α : Type} [Inhabited α] (enc : α → Value) {w : World} {base g c n z : Nat} {e : TypeId} {xs : List Value} (h : w.ownsRow base e z (.slice (some ⟨g, 0, none⟩) n c) n xs) (d : Array α) (hd : d.size = n * z) (m : Nat) (os : Array Obj) :
    (grow (putRow enc (Go.Sort.ahead w m) g 0 d) os).ownsRow base e z (.slice (some ⟨g, 0, none⟩) n c) n (d.toList.map enc) := by
  have hg := (h.lt g rfl).2
  refine ⟨by simp [hd], .inr ?_⟩
  rcases h.2 with ⟨e1, -⟩ | ⟨g', cap, cur, hv, hb, hbk, h1, h2, h3, -⟩
  · cases e1
  · cases hv
    refine ⟨g, c, putCells enc 0 d cur, rfl, hb, ?_, h1, h2, by simp [putCells, h3], ?_⟩
    · rw [heap_grow_old _ _ (by simpa [putRow, mapBlock, Go.Sort.ahead] using hg)]
      simp [putRow, mapBlock, Go.Sort.ahead, Array.getElem?_modify, hbk, onCells]
    · rw [← hd]
      exact take_put enc cur d (by rw [h3, hd]; exact Nat.mul_le_mul_right _ h1)
theorem grown_put {α : Type} [Inhabited α] (enc : α → Value) (w : World) (g m : Nat) (d : Array α) (os : Array Obj) : w.grownBy (grow (putRow enc (Go.Sort.ahead w m) g 0 d) os) (some g) := by
  refine ⟨rfl, rfl, rfl, by simp [putRow, mapBlock, Go.Sort.ahead], fun k hk hne => ?_⟩
  rw [heap_grow_old _ _ (by simpa [putRow, mapBlock, Go.Sort.ahead] using hk)]
  have : g ≠ k := fun e => hne (by rw [e])
  simp [putRow, mapBlock, Go.Sort.ahead, Array.getElem?_modify, this]
theorem grow_ofBelow {w W : World} (h : BelowD w.heap.size w W) : ∃ q os, W = grow (w.drewN q) os := by
  refine ⟨W.drawn - w.drawn, W.heap.extract w.heap.size W.heap.size, ?_⟩
  have hd := h.d
  have hs := h.size
  obtain ⟨⟨h1, h2, h3, -, h5⟩, -⟩ := h
  obtain ⟨hp, tp, dr, os, ou⟩ := W
  obtain ⟨hp', tp', dr', os', ou'⟩ := w
  simp only at h1 h2 h3 h5 hd hs
  subst h1 h2 h3
  unfold grow World.drewN
  simp only [World.mk.injEq, and_true, true_and]
  refine ⟨?_, by omega⟩
  apply Array.ext_getElem?
  intro k
  by_cases hk : k < hp'.size
  · rw [h5 k hk, Array.getElem?_append_left hk]
  · rw [Array.getElem?_append_right (by omega), Array.getElem?_extract]
    split
    · congr 1; omega
    · rw [Array.getElem?_eq_none (by omega)]
set_option maxRecDepth 100000 in
set_option maxHeartbeats 4000000 in
theorem cmpF_any {w : World} {B : Nat} {A : Option Addr} {n : Nat} {vs : List TArrival} (c : Nat) (h : IsArrivals w B A n vs) (hm : n ≤ 1000) (j i : Int) (hj : inA n j) (hi : inA n i) (lb : Nat) (hl : w.cell? ⟨lb, 0, none⟩ = some (.slice A n c)) :
    Calls Try.prog 67 #[.int .i64 j, .int .i64 i, .pointer (some ⟨lb, 0, none⟩)] w fun e w' => e = .returned (.int .i64 (cmpA (atA vs j) (atA vs i))) ∧ BelowD w.heap.size w w' := by
  obtain ⟨jn, rfl, hjn⟩ := inA_nat hj
  obtain ⟨kn, rfl, hkn⟩ := inA_nat hi
  rw [atA_cast, atA_cast]
  have HVX := Lib.hid (fun W (hb : Below w.heap.size w W) => (h.below hb h.low).has.Arrival (k := jn) (by rw [h.len]; exact hjn))
  have HUX := Lib.hid (fun W (hb : Below w.heap.size w W) => (h.below hb h.low).has.Arrival (k := kn) (by rw [h.len]; exact hkn))
  obtain ⟨a, rfl, -, -⟩ := h.has.Arrival (k := jn) (by rw [h.len]; exact hjn)
  have CC := Lib.hid (fun W => cmpA_any (vs.getD jn noArrival) (vs.getD kn noArrival) W)
  generalize vs.getD jn noArrival = V at HVX CC ⊢
  generalize vs.getD kn noArrival = U at HUX CC ⊢
  generalize cmpA V U = o at CC ⊢
  obtain ⟨v0, v1, v2, v3⟩ := V
  obtain ⟨u0, u1, u2, u3⟩ := U
  dsimp only at CC
  have HLC := Lib.hid (fun W (hb : Below w.heap.size w W) => show W.cell? ⟨lb, 0, none⟩ = some (.slice (some a) n c) from (hb.cell (World.block_lt_of_cell? _ _ hl)).trans hl)
  have HV0 := Lib.hid (fun W (hb : Below w.heap.size w W) => show W.cell? (a.add (jn * 4)) = some (.int .i64 v0) by obtain ⟨b, e, -, hV⟩ := HVX.out W hb; injection e with e; subst e; exact hV.c0)
  have HV1 := Lib.hid (fun W (hb : Below w.heap.size w W) => show W.cell? ⟨(a.add (jn * 4)).block, (a.add (jn * 4)).off + 1, none⟩ = some (.bool v1) by obtain ⟨b, e, -, hV⟩ := HVX.out W hb; injection e with e; subst e; exact hV.c1)
  have HV2 := Lib.hid (fun W (hb : Below w.heap.size w W) => show W.cell? ⟨(a.add (jn * 4)).block, (a.add (jn * 4)).off + 2, none⟩ = some (.int .i64 v2) by obtain ⟨b, e, -, hV⟩ := HVX.out W hb; injection e with e; subst e; exact hV.c2)
  have HV3 := Lib.hid (fun W (hb : Below w.heap.size w W) => show W.cell? ⟨(a.add (jn * 4)).block, (a.add (jn * 4)).off + 3, none⟩ = some (.int .i64 v3) by obtain ⟨b, e, -, hV⟩ := HVX.out W hb; injection e with e; subst e; exact hV.c3)
  have HU0 := Lib.hid (fun W (hb : Below w.heap.size w W) => show W.cell? (a.add (kn * 4)) = some (.int .i64 u0) by obtain ⟨b, e, -, hV⟩ := HUX.out W hb; injection e with e; subst e; exact hV.c0)
  have HU1 := Lib.hid (fun W (hb : Below w.heap.size w W) => show W.cell? ⟨(a.add (kn * 4)).block, (a.add (kn * 4)).off + 1, none⟩ = some (.bool u1) by obtain ⟨b, e, -, hV⟩ := HUX.out W hb; injection e with e; subst e; exact hV.c1)
  have HU2 := Lib.hid (fun W (hb : Below w.heap.size w W) => show W.cell? ⟨(a.add (kn * 4)).block, (a.add (kn * 4)).off + 2, none⟩ = some (.int .i64 u2) by obtain ⟨b, e, -, hV⟩ := HUX.out W hb; injection e with e; subst e; exact hV.c2)
  have HU3 := Lib.hid (fun W (hb : Below w.heap.size w W) => show W.cell? ⟨(a.add (kn * 4)).block, (a.add (kn * 4)).off + 3, none⟩ = some (.int .i64 u3) by obtain ⟨b, e, -, hV⟩ := HUX.out W hb; injection e with e; subst e; exact hV.c3)
  have hk0 : (0 : Int) ≤ (jn : Int) := by omega
  have hk1 : (jn : Int) < (n : Int) := by omega
  have hk2 : (0 : Int) ≤ (kn : Int) := by omega
  have hk3 : (kn : Int) < (n : Int) := by omega
  clear HVX HUX h hl hj hi hjn hkn
  go_enter Try.func67, Try.ntmps67
  go_wp2_with fail
  refine region_inv (by kernel_rfl) (by kernel_rfl) (fun Fl9 ac W => ∃ (x6 x7 x8 x9 x10 x11 x12 x13 x14 x5 : Value), ac = { tmps := #[Value.int IntKind.i64 (jn : Int), Value.int IntKind.i64 (kn : Int), Value.pointer (some ⟨lb, 0, none⟩), undef, undef, x5, x6, x7, x8, x9, x10, x11, x12, x13, x14], defers := [] } ∧ BelowD w.heap.size w W ∧
        (Fl9 0 = true → x6 = .slice (some a) n c) ∧
        (Fl9 1 = true → x7 = .int .i64 (jn : Int)) ∧
        (Fl9 2 = true → x8 = .pointer (some (a.add (jn * 4)))) ∧
        (Fl9 3 = true → x9 = .agg #[.int .i64 v0, .bool v1, .int .i64 v2, .int .i64 v3]) ∧
        (Fl9 4 = true → x10 = .slice (some a) n c) ∧
        (Fl9 5 = true → x11 = .int .i64 (kn : Int)) ∧
        (Fl9 6 = true → x12 = .pointer (some (a.add (kn * 4)))) ∧
        (Fl9 7 = true → x13 = .agg #[.int .i64 u0, .bool u1, .int .i64 u2, .int .i64 u3]) ∧
        (Fl9 8 = true → x14 = .int .i64 o) ∧
        (Fl9 9 = true → x5 = .int .i64 o)) ?_ ?_ ?_
  · exact ⟨_, _, _, _, _, _, _, _, _, _, rfl, ⟨(Drawn.one w 1).below _, by simp⟩, (fun q0 => nomatch q0), (fun q0 => nomatch q0), (fun q0 => nomatch q0), (fun q0 => nomatch q0), (fun q0 => nomatch q0), (fun q0 => nomatch q0), (fun q0 => nomatch q0), (fun q0 => nomatch q0), (fun q0 => nomatch q0), (fun q0 => nomatch q0)⟩
  · intro Fl9 ac W i9 o9 hJ ho hL hdep K9 hK
    obtain ⟨x6, x7, x8, x9, x10, x11, x12, x13, x14, x5, rfl, hB, hh0, hh1, hh2, hh3, hh4, hh5, hh6, hh7, hh8, hh9⟩ := hJ
    have hi9 : i9 < 10 := by simpa using (Array.getElem?_eq_some_iff.1 ho).1
    have L0 := HLC.out W hB.b
    have V0 := HV0.out W hB.b
    have V1 := HV1.out W hB.b
    have V2 := HV2.out W hB.b
    have V3 := HV3.out W hB.b
    have U0 := HU0.out W hB.b
    have U1 := HU1.out W hB.b
    have U2 := HU2.out W hB.b
    have U3 := HU3.out W hB.b
    obtain rfl | rfl | rfl | rfl | rfl | rfl | rfl | rfl | rfl | rfl : i9 = 0 ∨ i9 = 1 ∨ i9 = 2 ∨ i9 = 3 ∨ i9 = 4 ∨ i9 = 5 ∨ i9 = 6 ∨ i9 = 7 ∨ i9 = 8 ∨ i9 = 9 := by omega
    · -- operation 0
      cases ho
      go_simp
      exact hK _ _ ⟨_, _, _, _, _, _, _, _, _, _, rfl, hB, fun _ => rfl, hh1, hh2, hh3, hh4, hh5, hh6, hh7, hh8, hh9⟩
    · -- operation 1
      cases ho
      go_simp
      exact hK _ _ ⟨_, _, _, _, _, _, _, _, _, _, rfl, hB, hh0, fun _ => rfl, hh2, hh3, hh4, hh5, hh6, hh7, hh8, hh9⟩
    · -- operation 2
      cases ho
      obtain rfl := hh0 (hdep ⟨0, .data⟩ (by simp) rfl)
      obtain rfl := hh1 (hdep ⟨1, .data⟩ (by simp) rfl)
      go_simp
      exact hK _ _ ⟨_, _, _, _, _, _, _, _, _, _, rfl, hB, hh0, hh1, fun _ => rfl, hh3, hh4, hh5, hh6, hh7, hh8, hh9⟩
    · -- operation 3
      cases ho
      obtain rfl := hh2 (hdep ⟨2, .data⟩ (by simp) rfl)
      go_simp
      exact hK _ _ ⟨_, _, _, _, _, _, _, _, _, _, rfl, hB, hh0, hh1, hh2, fun _ => rfl, hh4, hh5, hh6, hh7, hh8, hh9⟩
    · -- operation 4
      cases ho
      go_simp
      exact hK _ _ ⟨_, _, _, _, _, _, _, _, _, _, rfl, hB, hh0, hh1, hh2, hh3, fun _ => rfl, hh5, hh6, hh7, hh8, hh9⟩
    · -- operation 5
      cases ho
      go_simp
      exact hK _ _ ⟨_, _, _, _, _, _, _, _, _, _, rfl, hB, hh0, hh1, hh2, hh3, hh4, fun _ => rfl, hh6, hh7, hh8, hh9⟩
    · -- operation 6
      cases ho
      obtain rfl := hh4 (hdep ⟨4, .data⟩ (by simp) rfl)
      obtain rfl := hh5 (hdep ⟨5, .data⟩ (by simp) rfl)
      go_simp
      exact hK _ _ ⟨_, _, _, _, _, _, _, _, _, _, rfl, hB, hh0, hh1, hh2, hh3, hh4, hh5, fun _ => rfl, hh7, hh8, hh9⟩
    · -- operation 7
      cases ho
      obtain rfl := hh6 (hdep ⟨6, .data⟩ (by simp) rfl)
      go_simp
      exact hK _ _ ⟨_, _, _, _, _, _, _, _, _, _, rfl, hB, hh0, hh1, hh2, hh3, hh4, hh5, hh6, fun _ => rfl, hh8, hh9⟩
    · -- operation 8
      cases ho
      obtain rfl := hh3 (hdep ⟨3, .data⟩ (by simp) rfl)
      obtain rfl := hh7 (hdep ⟨7, .data⟩ (by simp) rfl)
      go_simp
      refine (CC.out W).mono ?_
      rintro e w9 ⟨rfl, hb9⟩
      exact hK _ _ ⟨_, _, _, _, _, _, _, _, _, _, rfl, hB.trans (hb9.mono hB.size), hh0, hh1, hh2, hh3, hh4, hh5, hh6, hh7, fun _ => rfl, hh9⟩
    · -- operation 9
      cases ho
      have hd8 := hdep ⟨8, .data⟩ (by simp) rfl
      obtain rfl := hh8 hd8
      go_simp
      exact hK _ _ ⟨_, _, _, _, _, _, _, _, _, _, rfl, hB, hh0, hh1, hh2, hh3, hh4, hh5, hh6, hh7, hh8, fun _ => rfl⟩
  intro Fl9 ac W hJ hall
  obtain ⟨x6, x7, x8, x9, x10, x11, x12, x13, x14, x5, rfl, hB, hh0, hh1, hh2, hh3, hh4, hh5, hh6, hh7, hh8, hh9⟩ := hJ
  obtain rfl := hh0 (hall 0 (by decide))
  obtain rfl := hh1 (hall 1 (by decide))
  obtain rfl := hh2 (hall 2 (by decide))
  obtain rfl := hh3 (hall 3 (by decide))
  obtain rfl := hh4 (hall 4 (by decide))
  obtain rfl := hh5 (hall 5 (by decide))
  obtain rfl := hh6 (hall 6 (by decide))
  obtain rfl := hh7 (hall 7 (by decide))
  obtain rfl := hh9 (hall 9 (by decide))
  obtain rfl := hh8 (hall 8 (by decide))
  clear hall
  go_wp2_with fail
  go_ret
  exact ⟨rfl, hB⟩
instance (vs : List TArrival) (i j : Int) : Decidable (befI vs i j) := by unfold befI; infer_instance
/-- An index of the list. -/
abbrev Idx (n : Nat) := {i : Int // inA n i}
def cfA (vs : List TArrival) (n : Nat) (x y : Idx n) : Int := cmpA (atA vs x.1) (atA vs y.1)
theorem ltA (vs : List TArrival) (n : Nat) : ltOf (cfA vs n) = fun x y => decide (befI vs x.1 y.1) := by
  funext x y
  unfold ltOf cfA
  rw [decide_eq_decide]
  exact cmpA_neg _ _
theorem swoA (vs : List TArrival) (n : Nat) : SWO (ltOf (cfA vs n)) := by
  rw [ltA]
  exact ⟨fun x => by simp only [decide_eq_false_iff_not]; exact bef_irr _, fun x y z h1 h2 => by simp only [decide_eq_true_eq] at *; exact bef_trans h1 h2,
    fun x y z h1 h2 => by simp only [decide_eq_false_iff_not] at *; unfold befI bef at *; omega⟩
theorem lift_I {n : Nat} : ∀ (M : List Int), (∀ z ∈ M, inA n z) → ∃ l : List (Idx n), l.map (·.1) = M
  | [], _ => ⟨[], rfl⟩
  | p :: t, h => by
    obtain ⟨l, hl⟩ := lift_I t (fun u hu => h u (List.mem_cons_of_mem _ hu))
    exact ⟨⟨p, h p List.mem_cons_self⟩ :: l, congrArg (p :: ·) hl⟩
set_option maxHeartbeats 1000000 in
theorem sortI_any {w : World} {base g c m : Nat} {M : List Int} (hn : M.length = m) (hm : m ≤ 1000) (h0 : 0 < m) {B : Nat} {A : Option Addr} {n : Nat} {vs : List TArrival} (cA : Nat) (h : IsArrivals w B A n vs) (hBb : B ≤ base) (hnm : n ≤ 1000) (lb : Nat) (hlb : lb < base) (hl : w.cell? ⟨lb, 0, none⟩ = some (.slice A n cA)) (hin : ∀ z ∈ M, inA n z)
    (hown : w.ownsRow base 3 1 (.slice (some ⟨g, 0, none⟩) m c) m (M.map (.int .i64))) :
    Calls Try.prog 66 #[.slice (some ⟨g, 0, none⟩) m c, .func (.func 67) #[] #[.pointer (some ⟨lb, 0, none⟩)]] w fun e w' =>
      e = .returned (.tuple #[]) ∧ ∃ N : List Int, N.Perm M ∧ N.Pairwise (fun x y => ¬ befI vs y x) ∧ w'.ownsRow base 3 1 (.slice (some ⟨g, 0, none⟩) m c) m (N.map (.int .i64)) ∧ w.grownBy w' (some g) := by
  have hlt := (hown.lt g rfl).2
  have hgb := (hown.lt g rfl).1
  have eg : ∀ args w, (callFunc 67 args).run Try.prog w = .ok (.enter 67 args) w := enters_of Try.func67 (by kernel_rfl) rfl
  have hfz : ∀ j, w.frozen? ⟨g, 0 + j, none⟩ = false := fun j => by rw [Nat.zero_add]; exact hown.frozenAt j
  obtain ⟨l, hll⟩ := lift_I (n := n) M hin
  have hlen : l.length = m := by rw [← hn, ← hll]; simp
  have hne : Nonempty (Idx n) := by
    cases l with
    | nil => simp at hlen; omega
    | cons x _ => exact ⟨x⟩
  letI : Inhabited (Idx n) := ⟨Classical.choice hne⟩
  have hsz : l.toArray.size = m := by simpa using hlen
  have hH : Holds (fun p : Idx n => Value.int .i64 p.1) w g 0 l.toArray := fun j hj => by
    refine ⟨?_, hfz j⟩
    have hj' : j < m := by rw [← hsz]; exact hj
    have hjl : j < l.length := by omega
    rw [Nat.zero_add, hown.cellAt j (by omega), getElem!_pos _ j hj, ← hll]
    simp [hjl]
  have hcon := Any.slices_SortFunc Try.sortI (fun p : Idx n => Value.int .i64 p.1) (fun _ => rfl) (cfA vs n) (swoA vs n) 67 #[.pointer (some ⟨lb, 0, none⟩)] g 0 c l.toArray w eg
    (fun m os dk _ x y => by
      have hk : Below base w (sortWorld (fun p : Idx n => Value.int .i64 p.1) w g 0 m dk os) := (Below.refl _ _).grown (grown_put _ w g m dk os) (by omega) (fun q e => by cases e; exact hgb)
      have := cmpF_any cA (h.below hk hBb) hnm x.1 y.1 x.2 y.2 lb ((hk.cell (p := ⟨lb, 0, none⟩) hlb).trans hl)
      exact this.mono fun _ _ h => ⟨h.1, grow_ofBelow h.2⟩) hH hlt (by omega)
  rw [hsz] at hcon
  refine Calls.mono hcon ?_
  rintro e w' ⟨rfl, d', k, os, hp, hs, rfl⟩
  have hd' : d'.size = m := by rw [hp.1, hsz]
  refine ⟨rfl, d'.toList.map (·.1), ?_, ?_, ?_, grown_put _ w g k d' os⟩
  · obtain ⟨hps, -, hpp⟩ := hp
    rw [← hll]
    rw [← hsz, show d'.extract 0 l.toArray.size = d' from by rw [← hps]; exact Array.extract_size, Array.extract_size] at hpp
    exact hpp.map _
  · rw [List.pairwise_map, List.pairwise_iff_getElem]
    intro i j hi hj hij
    have hi' : i < d'.size := by simpa using hi
    have hj' : j < d'.size := by simpa using hj
    have h5 := hs i j (Nat.zero_le _) hij (by omega)
    rw [ltA, getElem!_pos d' j hj', getElem!_pos d' i hi'] at h5
    simpa using h5
  · have := own_put (fun p : Idx n => Value.int .i64 p.1) hown d' (by omega) k os
    rwa [List.map_map]
/-- Nothing to sort. -/
theorem len64z_any (w : World) : Calls Try.prog 110 #[.int .u64 0] w fun e w' => e = .returned (.int .i64 0) ∧ w = w' := by
  go_enter Try.func110, Try.ntmps110
  go_wp2
  refine bodyPost_ret (results_tmp rfl _ _ _) rfl ?_
  exact ⟨ret_int (by decide +kernel), rfl⟩
theorem lenz_any (w : World) : Calls Try.prog 92 #[.int .u64 0] w fun e w' => e = .returned (.int .i64 0) ∧ w = w' := by
  have C := Lib.hid (fun W => len64z_any W)
  go_enter Try.func92, Try.ntmps92
  go_wp2_with fail
  refine (C.out _).mono ?_
  rintro e w1 ⟨rfl, rfl⟩
  go_wp2_with fail
  go_ret
  exact ⟨rfl, rfl⟩
set_option maxRecDepth 100000 in
set_option maxHeartbeats 1000000 in
theorem insz_any (A : Option Addr) (c : Nat) (fv : Value) (w : World) :
    Calls Try.prog 101 #[.slice A 0 c, .int .i64 0, .int .i64 0, fv] w fun e w' => (∃ v, e = .returned v) ∧ w = w' := by
  go_enter Try.func101, Try.ntmps101
  go_wp2_with fail
  go_loopw [8] (fun i wr => i = .int .i64 1 ∧ wr = w) (fun _ _ => 0)
  case atStart => exact ⟨rfl, rfl⟩
  case round =>
    obtain ⟨rfl, rfl⟩ := hrel
    go_wp2_with fail
    go_end0
    exact ⟨⟨_, rfl⟩, rfl⟩
set_option maxRecDepth 100000 in
set_option maxHeartbeats 1000000 in
theorem pdqz_any (A : Option Addr) (c : Nat) (fv : Value) (w : World) :
    Calls Try.prog 91 #[.slice A 0 c, .int .i64 0, .int .i64 0, .int .i64 0, fv] w fun e w' => (∃ v, e = .returned v) ∧ w = w' := by
  have C := Lib.hid (insz_any A c fv w)
  go_enter Try.func91, Try.ntmps91
  go_wp2_with fail
  go_loopw [1, 2, 3] (fun a b l wr => a = .int .i64 0 ∧ b = .int .i64 0 ∧ wr = w) (fun _ _ _ _ => 0)
  case atStart => exact ⟨rfl, rfl, rfl⟩
  case round =>
    obtain ⟨rfl, rfl, rfl⟩ := hrel
    go_wp2_with fail
    refine C.out.mono ?_
    rintro e w1 ⟨⟨v, rfl⟩, rfl⟩
    go_wp2_with fail
    refine bodyPost_ret (results_none rfl _ _ _) rfl ?_
    exact ⟨⟨_, rfl⟩, rfl⟩
set_option maxRecDepth 100000 in
set_option maxHeartbeats 1000000 in
theorem sortz_any (A : Option Addr) (c : Nat) (f : FuncId) (cap : Array Value) (w : World) :
    Calls Try.prog 66 #[.slice A 0 c, .func (.func f) #[] cap] w fun e w' => (∃ v, e = .returned v) ∧ w = w' := by
  have C := Lib.hid (pdqz_any A c (.func (.func f) #[] cap) w)
  have C2 := Lib.hid (fun W => lenz_any W)
  go_enter Try.func66, Try.ntmps66
  go_wp2_with fail
  refine (C2.out _).mono ?_
  rintro e w1 ⟨rfl, rfl⟩
  go_wp2_with fail
  refine C.out.mono ?_
  rintro e w1 ⟨⟨v, rfl⟩, rfl⟩
  go_wp2_with fail
  go_end0
  exact ⟨⟨_, rfl⟩, rfl⟩
/-- 0, 1 .. k - 1. -/
def upto (k : Nat) : List Int := (List.range k).map (fun j : Nat => (j : Int))
theorem upto_len (k : Nat) : (upto k).length = k := by simp [upto]
theorem upto_snoc (k : Nat) : (upto (k + 1)).map (Value.int .i64) = (upto k).map (.int .i64) ++ [.int .i64 (k : Int)] := by simp [upto, List.range_succ]
theorem upto_in {n : Nat} : ∀ z ∈ upto n, inA n z := fun z hz => by
  obtain ⟨j, hj, rfl⟩ := List.mem_map.1 hz
  have := List.mem_range.1 hj
  unfold inA; omega
theorem first_sorted {vs : List TArrival} (hg : goodAs vs) {N : List Int} (hp : N.Perm (upto vs.length)) (hs : N.Pairwise (fun x y => ¬ befI vs y x)) : FirstA vs vs.length N := by
  have hin : ∀ z ∈ N, inA vs.length z := fun z hz => upto_in z (hp.mem_iff.1 hz)
  have hnd : N.Nodup := hp.nodup_iff.2 (by
    unfold upto List.Nodup
    rw [List.pairwise_map]
    exact List.nodup_range.imp (fun {a b} hab e => hab (by omega)))
  refine ⟨by rw [hp.length_eq, upto_len], hin, ?_⟩
  rw [List.pairwise_iff_getElem] at hs ⊢
  intro i j hi hj hij
  have h1 := hs i j hi hj hij
  have h2 : N[i] ≠ N[j] := List.pairwise_iff_getElem.1 hnd i j hi hj hij
  have hx := hin _ (List.getElem_mem hi)
  have hy := hin _ (List.getElem_mem hj)
  unfold befI at h1 ⊢
  refine bef_tri h1 ?_
  unfold inA at hx hy
  unfold atA
  exact ids_ne hg (by omega) (by omega) (by omega)
set_option maxRecDepth 100000 in
set_option maxHeartbeats 4000000 in
theorem comeI_any {w : World} {B : Nat} {A : Option Addr} {n : Nat} {vs : List TArrival} (c : Nat) (h : IsArrivals w B A n vs) (hm : n ≤ 1048576) (L : List Int) (x : Bool) (hA : ComeA vs L x) (l : Nat) (hl : L.length = l) :
    Calls Try.prog 29 #[.slice A n c] w (GivesZ w L l x) := by
  obtain ⟨i0, hi, hz0, hz1, hz2⟩ := info_parts Try.infoInt'
  obtain ⟨W5, hW5⟩ : ∃ W, World.alloc w (.cells #[.slice A n c] 45) = W := ⟨_, rfl⟩
  obtain ⟨lb, hlb⟩ : ∃ x, w.heap.size = x := ⟨_, rfl⟩
  have cl : W5.cell? ⟨lb, 0, none⟩ = some (.slice A n c) := by rw [← hW5, ← hlb, sNew]; rfl
  have hwl : Below w.heap.size w W5 := by rw [← hW5]; exact below1 _ _
  have hl5 : lb < W5.heap.size := by rw [← hW5, ← hlb]; simp
  have CG := Lib.hid (areArrivals_any c (h.below hwl h.low) (Nat.le_trans hm (by unfold maxLen; omega)))
  have HI := Lib.hid (h.below hwl h.low)
  have HLB := Lib.hid (fun W (hb : Below W5.heap.size W5 W) => show W.cell? ⟨lb, 0, none⟩ = some (.slice A n c) from (hb.cell (World.block_lt_of_cell? _ _ cl)).trans cl)
  have HB5 := Lib.hid hwl
  have HNO := Lib.hid hA.2
  have HYES := Lib.hid hA.1
  have HM := Lib.hid hl
  obtain ⟨G, hG⟩ : ∃ G, gAs vs = G := ⟨_, rfl⟩
  rw [hG] at HNO HYES CG
  have HGE := Lib.hid hG
  have HLV := Lib.hid h.len
  clear h hA hG hl hwl
  cases G with
  | false =>
    obtain ⟨rfl, rfl⟩ := HNO.out rfl
    obtain rfl : 0 = l := HM.out
    clear HNO HYES
    go_enter Try.func29, Try.ntmps29
    go_wp2_with fail
    (try rw [hW5]); (try rw [hlb])
    refine CG.out.mono ?_
    rintro e w6 ⟨rfl, hb6⟩
    have HB6 := Lib.hid (HB5.out.trans (hb6.mono HB5.out.size))
    clear hb6 CG cl hW5
    go_wp2_with fail
    refine bodyPost_ret (results_tmp2 rfl _ _ _) rfl ?_
    first | exact (OwnZ.nil HB6.out).gives false | (rw [← hlb]; exact (OwnZ.nil HB6.out).gives false)
  | true =>
  obtain ⟨hL, rfl⟩ := HYES.out rfl
  have HL := Lib.hid hL
  have HGG := Lib.hid ((gAs_iff vs).1 HGE.out)
  have hn6 : n ≤ 6 := by rw [← HLV.out]; exact HGG.out.1
  obtain rfl : n = l := by rw [← HM.out, hL.len, HLV.out]
  clear HNO HYES hL
  go_enter Try.func29, Try.ntmps29
  go_wp2_with fail
  (try rw [hW5]); (try rw [hlb])
  refine CG.out.mono ?_
  rintro e w6 ⟨rfl, hb6⟩
  have Y := HLB.out _ hb6
  have P1 : Hid (OwnZ W5 (w6.alloc (.cells #[] 3)) (upto 0) 0 (.slice (some ⟨w6.heap.size, 0, none⟩) 0 0)) := Lib.hid (OwnZ.nil hb6)
  have Y2 := HLB.out _ P1.out.low
  clear hb6 CG cl hW5
  go_wp2_with fail
  clear Y Y2
  go_loopw [4, 13] (fun v i wr => ∃ k : Nat, k ≤ n ∧ i = .int .i64 k ∧ OwnZ W5 wr (upto k) k v) (fun _ i _ => n - (intOf i).toNat)
  case atStart => exact ⟨0, Nat.zero_le _, rfl, P1.out⟩
  case round =>
    clear P1
    obtain ⟨k, hk, rfl, hO⟩ := hrel
    by_cases hlt : k < n
    · obtain ⟨g0, cp, rfl, hg0, hown, hb⟩ := hO
      have HS := Lib.hid (upto_snoc k)
      have hk0 : (0 : Int) ≤ (k : Int) := by omega
      have hk1 : (k : Int) < (n : Int) := by omega
      go_wp2_with (at_builtin; refine wpList_append_own _ rfl (.tmp 16) (.tmp 18) 46 rfl W5.heap.size 3 i0 (.int .i64 0) 1 8 Try.underlying46 hi hz0 hz1 hz2 rfl (by decide) (.slice (some ⟨g0, 0, none⟩) (k) cp) (k) _ rfl (hown.alloc _) ⟨wr.heap.size, 0, none⟩ 1 1 [.int .i64 (k : Int)] rfl rfl (cell_one_new _ _ _) (by simp [Value.oneCell']) (by unfold maxLen; omega) (by omega) (by have := (hb).size; simp; omega) ?_; intro v1 w1 hown1 hgrow1 hnil1; obtain ⟨g1, c1, rfl, hg1⟩ := own_some hown1 (fun e => nomatch (hnil1.1 e).1); have hb1 := ((hb).alloc (hb).size (.cells #[.int .i64 (k : Int)] 3)).grown hgrow1 (by have := (hb).size; simp; omega) (fun q hq => by cases hq; assumption); clear hnil1 hgrow1 hown hb)
      go_roundw
      case rel => exact ⟨k + 1, by omega, by go_num, g1, c1, rfl, hg1, by rw [HS.out]; exact hown1, hb1⟩
      case measure => simp [intOf]; omega
    · obtain rfl : k = n := by omega
      obtain ⟨g0, cp, rfl, hg0, hown, hb⟩ := hO
      rcases Nat.eq_zero_or_pos k with h0 | h0
      · subst h0
        have hLnil : L = [] := List.eq_nil_of_length_eq_zero HM.out
        subst hLnil
        have HOF := Lib.hid (OwnZ.base (w0 := w) (w := W5) ⟨g0, cp, rfl, hg0, hown, hb⟩ HB5.out)
        have CS := Lib.hid (sortz_any (some ⟨g0, 0, none⟩) cp 67 #[.pointer (some ⟨lb, 0, none⟩)] wr)
        have HY := HLB.out _ hb
        clear hown hb
        go_wp2_with fail
        refine CS.out.mono ?_
        rintro e w8 ⟨⟨v, rfl⟩, rfl⟩
        go_wp2_with fail
        refine bodyPost_ret (results_tmp2 rfl _ _ _) rfl ?_
        first | exact HOF.out.gives true | (rw [← hlb]; exact HOF.out.gives true)
      · have CS := Lib.hid (sortI_any (upto_len k) (by omega) h0 c (HI.out.below hb HI.out.low) HI.out.low (by omega) lb hl5 (HLB.out _ hb) upto_in hown)
        have HBW := Lib.hid hb
        have HY := Lib.hid (HLB.out _ hb)
        clear hown hb
        go_wp2_with fail
        refine CS.out.mono ?_
        rintro e w8 ⟨rfl, N, hp, hs, hown, hg⟩
        rw [← HLV.out] at hp
        have hNL : N = L := first_one (first_sorted HGG.out hp hs) HL.out
        subst hNL
        have HOF := Lib.hid (OwnZ.base (w0 := w) (w := W5) ⟨g0, cp, rfl, hg0, hown, HBW.out.grown hg HBW.out.size (fun q e => by cases e; exact hg0)⟩ HB5.out)
        clear hown hg hp hs CS
        go_wp2_with fail
        refine bodyPost_ret (results_tmp2 rfl _ _ _) rfl ?_
        first | exact HOF.out.gives true | (rw [← hlb]; exact HOF.out.gives true)
end Go.Proofs.Ytdleidlmjliapaa
