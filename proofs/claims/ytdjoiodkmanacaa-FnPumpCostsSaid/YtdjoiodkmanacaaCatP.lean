/- slices.Grow and slices.Concat over Pumps. -/
import Derived.Test.YtdjoiodkmanacaaInv
import Derived.Test.YtdjoiodkmanacaaSPump
import Derived.Lib.AppendZerosOnto
import Derived.Lib.AppendZeros
namespace Go.Proofs.Ytdjoiodkmanacaa
open Go.RowKit Go.PlainAid

/-- A part of what is put together: where it lies, how long it is, its cells. -/
structure Part' where
  a : Addr
  n : Nat
  c : Nat
  xs : List Value
def Part'.val (s : Part') : Value := .slice (some s.a) s.n s.c
def total : List Part' → Nat
  | [] => 0
  | s :: t => s.n + total t
def allOf : List Part' → List Value
  | [] => []
  | s :: t => s.xs ++ allOf t
theorem total_append : ∀ (S T : List Part'), total (S ++ T) = total S + total T
  | [], T => by simp [total]
  | s :: S, T => by simp only [List.cons_append, total, total_append S T]; omega
theorem allOf_append : ∀ (S T : List Part'), allOf (S ++ T) = allOf S ++ allOf T
  | [], T => by simp [allOf]
  | s :: S, T => by simp only [List.cons_append, allOf, allOf_append S T, List.append_assoc]
theorem total_take (S : List Part') (k : Nat) (h : k < S.length) : total (S.take (k + 1)) = total (S.take k) + S[k].n := by
  rw [List.take_succ_eq_append_getElem h, total_append]
  simp [total]
theorem allOf_take (S : List Part') (k : Nat) (h : k < S.length) : allOf (S.take (k + 1)) = allOf (S.take k) ++ S[k].xs := by
  rw [List.take_succ_eq_append_getElem h, allOf_append]
  simp [allOf]
theorem total_le (S : List Part') (k : Nat) : total (S.take k) ≤ total S := by
  have := total_append (S.take k) (S.drop k)
  rw [List.take_append_drop] at this
  omega

set_option maxRecDepth 100000 in
set_option maxHeartbeats 2000000 in
theorem growP (m : Nat) (hm : m ≤ 1000) (w : World) :
    Calls Try.prog 87 #[.slice none 0 0, .int .i64 m] w fun e w' => ∃ v, e = .returned v ∧ w'.ownsRow w.heap.size 69 3 v 0 [] ∧ Below w.heap.size w w' := by
  obtain ⟨i0, hi, hz0, hz1, hz2⟩ := info_parts Try.infoPump'
  rcases Nat.eq_zero_or_pos m with h0 | h0
  · subst h0
    go_enter Try.func87, Try.ntmps87
    go_wp2
    go_ret
    exact ⟨_, rfl, ⟨rfl, .inl ⟨rfl, rfl⟩⟩, Below.refl _ _⟩
  · have hrz : ∀ ty, (Builtin.append_ #[25, 3] ty #[.slice none 0 0, .int .i64 m]).run Try.prog w = .ok (.slice (some ⟨w.heap.size, 0, none⟩) m (grownCap w m 0 69)) (w.drew.alloc (.cells ((#[] : Array Value) ++ Builtin.zeroCells (.agg #[.int .i64 0, .int .i64 0, .int .i64 0] : Value).cells m ++ Builtin.zeroCells (.agg #[.int .i64 0, .int .i64 0, .int .i64 0] : Value).cells (grownCap w m 0 69 - m)) 69)) := fun ty => by
      have h := Lib.run_append_grow_zeros (P := Try.prog) w 25 3 ty 69 i0 (.agg #[.int .i64 0, .int .i64 0, .int .i64 0]) .i64 .i64 Try.underlying25 Try.underlying3 hi hz0 none 0 0 [] (run_firstCells_none _ _ _ _ _) m h0 (by rw [hz1]; decide) (by omega) (by omega) (by rw [hz2]; omega) (growslice_fits (by omega) (by rw [hz2]; omega))
      simp only [Nat.zero_add] at h
      exact h
    have hG := grownCap_ge w m 0 69
    have hGm := grownCap_le_maxLen w m 0 69 (by unfold maxLen; omega)
    have hsz : ((#[] : Array Value) ++ Builtin.zeroCells (.agg #[.int .i64 0, .int .i64 0, .int .i64 0] : Value).cells m ++ Builtin.zeroCells (.agg #[.int .i64 0, .int .i64 0, .int .i64 0] : Value).cells (grownCap w m 0 69 - m)).size = grownCap w m 0 69 * 3 := by
      simp only [Array.size_append, size_zeroCells]
      have e : (.agg #[.int .i64 0, .int .i64 0, .int .i64 0] : Value).cells.size = 3 := rfl
      rw [e]
      simp
      omega
    generalize grownCap w m 0 69 = G at hrz hG hGm hsz
    generalize (#[] : Array Value) ++ Builtin.zeroCells (.agg #[.int .i64 0, .int .i64 0, .int .i64 0] : Value).cells m ++ Builtin.zeroCells (.agg #[.int .i64 0, .int .i64 0, .int .i64 0] : Value).cells (G - m) = C at hrz hsz
    have hm0 : (0 : Int) < (m : Int) := by omega
    unfold maxLen at hGm
    go_enter Try.func87, Try.ntmps87
    go_wp2_with (at_builtin; refine Lib.wpList_append_run _ rfl _ _ _ _ rfl _ _ rfl rfl _ _ (hrz _) ?_)
    go_ret
    exact ⟨_, rfl, Drawn.own ⟨1, rfl⟩ (World.ownsRow_made w C G (Nat.le_refl _) (by unfold maxLen; omega) hsz), ((Below.refl _ _).alloc (Nat.le_refl _) _).trans ((Drawn.one _ 1).below _)⟩

set_option maxRecDepth 100000 in
set_option maxHeartbeats 2000000 in
/-- slices.Concat: all the parts in memory of its own. -/
theorem catP (S : List Part') (D : Addr) (m cd BD : Nat) (w : World) (hm : S.length = m) (hm2 : m ≤ 1000) (hBD : BD ≤ w.heap.size) (hh : Has w BD (some D) (S.map Part'.val)) (hS : ∀ s ∈ S, s.xs.length = s.n * 3 ∧ s.n ≤ 100 ∧ (∀ u ∈ s.xs, u.oneCell' = true) ∧ Has w BD (some s.a) s.xs) (hN : total S ≤ 1000) :
    Calls Try.prog 64 #[.slice (some D) m cd] w fun e w' => ∃ v, e = .returned v ∧ w'.ownsRow w.heap.size 69 3 v (total S) (allOf S) ∧ Below w.heap.size w w' := by
  obtain ⟨i0, hi, hz0, hz1, hz2⟩ := info_parts Try.infoPump'
  have HL := Lib.hid hm
  have H := Lib.hid hh
  have HS := Lib.hid hS
  have HT := Lib.hid (fun k (hk : k < S.length) => total_take S k hk)
  have HX := Lib.hid (fun k (hk : k < S.length) => allOf_take S k hk)
  have HB := Lib.hid (fun k => total_le S k)
  have GR := Lib.hid (fun (n : Nat) (hn : n ≤ 1000) (W : World) => growP n hn W)
  clear hm hh hS
  go_enter Try.func64, Try.ntmps64
  go_wp2_with fail
  go_loop [3, 11] (fun t i => ∃ k : Nat, k ≤ m ∧ i = .int .i64 k ∧ t = .int .i64 (total (S.take k) : Nat)) (fun _ i => m - (intOf i).toNat)
  case atStart => exact ⟨0, Nat.zero_le _, rfl, rfl⟩
  case round =>
    obtain ⟨k, hk, rfl, rfl⟩ := hrel
    have hk0 : (0 : Int) ≤ (k : Int) := by omega
    have hb := HB.out k
    by_cases hlt : k < m
    · have hkl : k < S.length := by rw [HL.out]; exact hlt
      obtain ⟨a1, ha1, _, e0⟩ := H.out k ((S[k]'hkl).val) (by simp [hkl])
      injection ha1 with ha1
      subst ha1
      have hn := (HS.out _ (List.getElem_mem hkl)).2.1
      have hE := Lib.hid (HT.out k hkl)
      generalize (S[k]'hkl) = s at e0 hn hE
      obtain ⟨sa, sn, sc, sx⟩ := s
      simp only [Part'.val] at e0 hn
      generalize total (S.take k) = t at hb hE ⊢
      have hk1 : (k : Int) < (m : Int) := by omega
      have ht : ¬ ((t : Int) + (sn : Int) < 0) := by omega
      clear H HS HX GR
      go_wp2_with fail
      go_round
      case rel => exact ⟨k + 1, by omega, by go_num, by rw [hE.out]; push_cast; rfl⟩
      case measure => simp [intOf]; omega
    · obtain rfl : k = m := by omega
      have hTk : total (S.take k) = total S := by rw [List.take_of_length_le (by rw [HL.out]; exact Nat.le_refl _)]
      rw [hTk]
      have G := Lib.hid (GR.out (total S) hN w)
      have hlt4 : ¬ (k : Int) < (k : Int) := by omega
      clear GR hb hTk
      go_wp2_with fail
      refine G.out.mono ?_
      rintro e w1 ⟨v, rfl, ho, hb1⟩
      have O0 := Lib.hid ho
      have B1 := Lib.hid hb1
      clear ho hb1 G
      go_wp2_with fail
      go_loopw [6, 27] (fun t i wr => ∃ q : Nat, q ≤ k ∧ i = .int .i64 q ∧ wr.ownsRow w.heap.size 69 3 t (total (S.take q)) (allOf (S.take q)) ∧ Below w.heap.size w wr) (fun _ i _ => k - (intOf i).toNat)
      case atStart => exact ⟨0, Nat.zero_le _, rfl, O0.out, B1.out⟩
      case round =>
        obtain ⟨q, hq, rfl, hown, hb⟩ := hrel
        have hq0 : (0 : Int) ≤ (q : Int) := by omega
        have hbq := HB.out q
        by_cases hlq : q < k
        · have hql : q < S.length := by rw [HL.out]; exact hlq
          obtain ⟨a1, ha1, _, e0⟩ := (H.out.below (hb.mono hBD)) q ((S[q]'hql).val) (by simp [hql])
          injection ha1 with ha1
          subst ha1
          obtain ⟨hxl, hn, hone, hx⟩ := HS.out _ (List.getElem_mem hql)
          have hcell := fun j u hu => (show wr.cell? ((S[q]'hql).a.add j) = some u by
            obtain ⟨a2, ha2, _, hc⟩ := (hx.below (hb.mono hBD)) j u hu
            injection ha2 with ha2
            subst ha2
            exact hc)
          have hE := Lib.hid (HT.out q hql)
          have hF := Lib.hid (HX.out q hql)
          clear hx
          generalize (S[q]'hql) = s at e0 hn hE hF hxl hone hcell
          obtain ⟨sa, sn, sc, sx⟩ := s
          simp only [Part'.val] at e0 hn hxl hone hcell
          have hbq2 := HB.out (q + 1)
          rw [hE.out] at hbq2
          have hq1 : (q : Int) < (k : Int) := by omega
          have CC := Lib.hid hcell
          have OO := Lib.hid hone
          have XL := Lib.hid hxl
          clear H HS HX O0 hcell hone hxl
          obtain ⟨u6, hu6⟩ : ∃ u, u = undef := ⟨_, rfl⟩
          go_wp2_with (at_builtin; refine wpList_append_own _ rfl (.tmp 31) (.tmp 32) 25 rfl w.heap.size 69 i0 (.agg #[.int .i64 0, .int .i64 0, .int .i64 0]) 3 24 Try.underlying25 hi hz0 hz1 hz2 rfl (by decide) _ _ _ rfl hown sa sn sc sx rfl XL.out CC.out OO.out (by unfold maxLen; omega) (by omega) hb.size ?_; intro v1 w2 hown1 hgrow1 hnil1; have hb1 := hb.grown hgrow1 hb.size (fun x e => (hown.lt x e).1); clear hown hgrow1 hnil1 hb)
          go_roundw
          case rel => exact ⟨q + 1, by omega, by go_num, by rw [hE.out, hF.out]; exact hown1, hb1⟩
          case measure => simp [intOf]; omega
        · obtain rfl : q = k := by omega
          have hlt5 : ¬ (q : Int) < (q : Int) := by omega
          rw [List.take_of_length_le (by rw [HL.out]; exact Nat.le_refl _)] at hown
          clear H HS HX O0
          go_wp2_with fail
          go_ret
          exact ⟨_, rfl, hown, hb⟩
end Go.Proofs.Ytdjoiodkmanacaa
