/- Chapter 8, the program: slices.Grow and slices.Concat over integers; the queues of both directions. -/
import Derived.Test.YtdleidlmjliapaaLkL
import Derived.Test.YtdleidlmjliapaaLkP
import Derived.Lib.AppendZerosOnto
import Derived.Lib.AppendZeros
namespace Go.Proofs.Ytdleidlmjliapaa
open Go.RowKit Go.PlainAid Go.Sort
set_option linter.unusedVariables false
set_option linter.unusedSimpArgs false

/-- A part of what is put together: where it lies, how long it is, its cells. -/
structure Part' where
  a : Addr
  n : Nat
  c : Nat
  xs : List Value
def Part'.val (s : Part') : Value := .slice (some s.a) s.n s.c
def total : List Part' → Nat
  | [] => 0
  | s :: t => s.n + total t
def allOf : List Part' → List Value
  | [] => []
  | s :: t => s.xs ++ allOf t
theorem total_append : ∀ (S T : List Part'), total (S ++ T) = total S + total T
  | [], T => by simp [total]
  | s :: S, T => by simp only [List.cons_append, total, total_append S T]; omega
theorem allOf_append : ∀ (S T : List Part'), allOf (S ++ T) = allOf S ++ allOf T
  | [], T => by simp [allOf]
  | s :: S, T => by simp only [List.cons_append, allOf, allOf_append S T, List.append_assoc]
theorem total_take (S : List Part') (k : Nat) (h : k < S.length) : total (S.take (k + 1)) = total (S.take k) + S[k].n := by
  rw [List.take_succ_eq_append_getElem h, total_append]
  simp [total]
theorem allOf_take (S : List Part') (k : Nat) (h : k < S.length) : allOf (S.take (k + 1)) = allOf (S.take k) ++ S[k].xs := by
  rw [List.take_succ_eq_append_getElem h, allOf_append]
  simp [allOf]
theorem total_le (S : List Part') (k : Nat) : total (S.take k) ≤ total S := by
  have := total_append (S.take k) (S.drop k)
  rw [List.take_append_drop] at this
  omega

set_option maxRecDepth 100000 in
set_option maxHeartbeats 2000000 in
theorem growI (m : Nat) (hm : m ≤ 1000) (w : World) :
    Calls Try.prog 99 #[.slice none 0 0, .int .i64 m] w fun e w' => ∃ v, e = .returned v ∧ w'.ownsRow w.heap.size 3 1 v 0 [] ∧ Below w.heap.size w w' := by
  obtain ⟨i0, hi, hz0, hz1, hz2⟩ := info_parts Try.infoInt'
  rcases Nat.eq_zero_or_pos m with h0 | h0
  · subst h0
    go_enter Try.func99, Try.ntmps99
    go_wp2
    go_ret
    exact ⟨_, rfl, ⟨rfl, .inl ⟨rfl, rfl⟩⟩, Below.refl _ _⟩
  · have hrz : ∀ ty, (Builtin.append_ #[46, 3] ty #[.slice none 0 0, .int .i64 m]).run Try.prog w = .ok (.slice (some ⟨w.heap.size, 0, none⟩) m (grownCap w m 0 3)) (w.drew.alloc (.cells ((#[] : Array Value) ++ Builtin.zeroCells (.int .i64 0 : Value).cells m ++ Builtin.zeroCells (.int .i64 0 : Value).cells (grownCap w m 0 3 - m)) 3)) := fun ty => by
      have h := Lib.run_append_grow_zeros (P := Try.prog) w 46 3 ty 3 i0 (.int .i64 0) .i64 .i64 Try.underlying46 Try.underlying3 hi hz0 none 0 0 [] (run_firstCells_none _ _ _ _ _) m h0 (by rw [hz1]; decide) (by omega) (by omega) (by rw [hz2]; omega) (growslice_fits (by omega) (by rw [hz2]; omega))
      simp only [Nat.zero_add] at h
      exact h
    have hG := grownCap_ge w m 0 3
    have hGm := grownCap_le_maxLen w m 0 3 (by unfold maxLen; omega)
    have hsz : ((#[] : Array Value) ++ Builtin.zeroCells (.int .i64 0 : Value).cells m ++ Builtin.zeroCells (.int .i64 0 : Value).cells (grownCap w m 0 3 - m)).size = grownCap w m 0 3 * 1 := by
      simp only [Array.size_append, size_zeroCells]
      have e : (.int .i64 0 : Value).cells.size = 1 := rfl
      rw [e]
      simp
      omega
    generalize grownCap w m 0 3 = G at hrz hG hGm hsz
    generalize (#[] : Array Value) ++ Builtin.zeroCells (.int .i64 0 : Value).cells m ++ Builtin.zeroCells (.int .i64 0 : Value).cells (G - m) = C at hrz hsz
    have hm0 : (0 : Int) < (m : Int) := by omega
    unfold maxLen at hGm
    go_enter Try.func99, Try.ntmps99
    go_wp2_with (at_builtin; refine Lib.wpList_append_run _ rfl _ _ _ _ rfl _ _ rfl rfl _ _ (hrz _) ?_)
    go_ret
    exact ⟨_, rfl, Drawn.own ⟨1, rfl⟩ (World.ownsRow_made w C G (Nat.le_refl _) (by unfold maxLen; omega) hsz), ((Below.refl _ _).alloc (Nat.le_refl _) _).trans ((Drawn.one _ 1).below _)⟩

set_option maxRecDepth 100000 in
set_option maxHeartbeats 2000000 in
/-- slices.Concat: all the parts in memory of its own. -/
theorem catI (S : List Part') (D : Addr) (m cd BD : Nat) (w : World) (hm : S.length = m) (hm2 : m ≤ 1000) (hBD : BD ≤ w.heap.size) (hh : Has w BD (some D) (S.map Part'.val)) (hS : ∀ s ∈ S, s.xs.length = s.n * 1 ∧ s.n ≤ 100 ∧ (∀ u ∈ s.xs, u.oneCell' = true) ∧ Has w BD (some s.a) s.xs) (hN : total S ≤ 1000) :
    Calls Try.prog 84 #[.slice (some D) m cd] w fun e w' => ∃ v, e = .returned v ∧ w'.ownsRow w.heap.size 3 1 v (total S) (allOf S) ∧ Below w.heap.size w w' := by
  obtain ⟨i0, hi, hz0, hz1, hz2⟩ := info_parts Try.infoInt'
  have HL := Lib.hid hm
  have H := Lib.hid hh
  have HS := Lib.hid hS
  have HT := Lib.hid (fun k (hk : k < S.length) => total_take S k hk)
  have HX := Lib.hid (fun k (hk : k < S.length) => allOf_take S k hk)
  have HB := Lib.hid (fun k => total_le S k)
  have GR := Lib.hid (fun (n : Nat) (hn : n ≤ 1000) (W : World) => growI n hn W)
  clear hm hh hS
  go_enter Try.func84, Try.ntmps84
  go_wp2_with fail
  go_loop [3, 11] (fun t i => ∃ k : Nat, k ≤ m ∧ i = .int .i64 k ∧ t = .int .i64 (total (S.take k) : Nat)) (fun _ i => m - (intOf i).toNat)
  case atStart => exact ⟨0, Nat.zero_le _, rfl, rfl⟩
  case round =>
    obtain ⟨k, hk, rfl, rfl⟩ := hrel
    have hk0 : (0 : Int) ≤ (k : Int) := by omega
    have hb := HB.out k
    by_cases hlt : k < m
    · have hkl : k < S.length := by rw [HL.out]; exact hlt
      obtain ⟨a1, ha1, _, e0⟩ := H.out k ((S[k]'hkl).val) (by simp [hkl])
      injection ha1 with ha1
      subst ha1
      have hn := (HS.out _ (List.getElem_mem hkl)).2.1
      have hE := Lib.hid (HT.out k hkl)
      generalize (S[k]'hkl) = s at e0 hn hE
      obtain ⟨sa, sn, sc, sx⟩ := s
      simp only [Part'.val] at e0 hn
      generalize total (S.take k) = t at hb hE ⊢
      have hk1 : (k : Int) < (m : Int) := by omega
      have ht : ¬ ((t : Int) + (sn : Int) < 0) := by omega
      clear H HS HX GR
      go_wp2_with fail
      go_round
      case rel => exact ⟨k + 1, by omega, by go_num, by rw [hE.out]; push_cast; rfl⟩
      case measure => simp [intOf]; omega
    · obtain rfl : k = m := by omega
      have hTk : total (S.take k) = total S := by rw [List.take_of_length_le (by rw [HL.out]; exact Nat.le_refl _)]
      rw [hTk]
      have G := Lib.hid (GR.out (total S) hN w)
      have hlt4 : ¬ (k : Int) < (k : Int) := by omega
      clear GR hb hTk
      go_wp2_with fail
      refine G.out.mono ?_
      rintro e w1 ⟨v, rfl, ho, hb1⟩
      have O0 := Lib.hid ho
      have B1 := Lib.hid hb1
      clear ho hb1 G
      go_wp2_with fail
      go_loopw [6, 27] (fun t i wr => ∃ q : Nat, q ≤ k ∧ i = .int .i64 q ∧ wr.ownsRow w.heap.size 3 1 t (total (S.take q)) (allOf (S.take q)) ∧ Below w.heap.size w wr) (fun _ i _ => k - (intOf i).toNat)
      case atStart => exact ⟨0, Nat.zero_le _, rfl, O0.out, B1.out⟩
      case round =>
        obtain ⟨q, hq, rfl, hown, hb⟩ := hrel
        have hq0 : (0 : Int) ≤ (q : Int) := by omega
        have hbq := HB.out q
        by_cases hlq : q < k
        · have hql : q < S.length := by rw [HL.out]; exact hlq
          obtain ⟨a1, ha1, _, e0⟩ := (H.out.below (hb.mono hBD)) q ((S[q]'hql).val) (by simp [hql])
          injection ha1 with ha1
          subst ha1
          obtain ⟨hxl, hn, hone, hx⟩ := HS.out _ (List.getElem_mem hql)
          have hcell := fun j u hu => (show wr.cell? ((S[q]'hql).a.add j) = some u by
            obtain ⟨a2, ha2, _, hc⟩ := (hx.below (hb.mono hBD)) j u hu
            injection ha2 with ha2
            subst ha2
            exact hc)
          have hE := Lib.hid (HT.out q hql)
          have hF := Lib.hid (HX.out q hql)
          clear hx
          generalize (S[q]'hql) = s at e0 hn hE hF hxl hone hcell
          obtain ⟨sa, sn, sc, sx⟩ := s
          simp only [Part'.val] at e0 hn hxl hone hcell
          have hbq2 := HB.out (q + 1)
          rw [hE.out] at hbq2
          have hq1 : (q : Int) < (k : Int) := by omega
          have CC := Lib.hid hcell
          have OO := Lib.hid hone
          have XL := Lib.hid hxl
          clear H HS HX O0 hcell hone hxl
          go_wp2_with (at_builtin; refine wpList_append_own _ rfl (.tmp 31) (.tmp 32) 46 rfl w.heap.size 3 i0 (.int .i64 0) 1 8 Try.underlying46 hi hz0 hz1 hz2 rfl (by decide) _ _ _ rfl hown sa sn sc sx rfl XL.out CC.out OO.out (by unfold maxLen; omega) (by omega) hb.size ?_; intro v1 w2 hown1 hgrow1 hnil1; have hb1 := hb.grown hgrow1 hb.size (fun x e => (hown.lt x e).1); clear hown hgrow1 hnil1 hb)
          go_roundw
          case rel => exact ⟨q + 1, by omega, by go_num, by rw [hE.out, hF.out]; exact hown1, hb1⟩
          case measure => simp [intOf]; omega
        · obtain rfl : q = k := by omega
          have hlt5 : ¬ (q : Int) < (q : Int) := by omega
          rw [List.take_of_length_le (by rw [HL.out]; exact Nat.le_refl _)] at hown
          clear H HS HX O0
          go_wp2_with fail
          go_ret
          exact ⟨_, rfl, hown, hb⟩

theorem quU_snoc (vs : List TArrival) {os : List Int} {k : Nat} (hk : k < os.length) : quU vs (os.take (k + 1)) = if (atA vs (os.getD k 0)).x1 = true then quU vs (os.take k) ++ [os.getD k 0] else quU vs (os.take k) := by
  unfold quU; rw [take_snoc hk, List.filter_append]
  cases h : (atA vs (os.getD k 0)).x1
  · rw [if_neg (by simp)]; simp only [List.filter_cons, List.filter_nil, h]; simp
  · rw [if_pos rfl]; simp only [List.filter_cons, List.filter_nil, h]; simp
theorem quD_snoc (vs : List TArrival) {os : List Int} {k : Nat} (hk : k < os.length) : quD vs (os.take (k + 1)) = if (atA vs (os.getD k 0)).x1 = true then quD vs (os.take k) else quD vs (os.take k) ++ [os.getD k 0] := by
  unfold quD; rw [take_snoc hk, List.filter_append]
  cases h : (atA vs (os.getD k 0)).x1
  · rw [if_neg (by simp)]; simp only [List.filter_cons, List.filter_nil, h]; simp
  · rw [if_pos rfl]; simp only [List.filter_cons, List.filter_nil, h]; simp
/-- Two rows of their own, apart. -/
def TwoZ (w w' : World) (L M : List Int) (p q : Nat) (u v : Value) : Prop :=
  ∃ g c g' c', u = .slice (some ⟨g, 0, none⟩) p c ∧ v = .slice (some ⟨g', 0, none⟩) q c' ∧ w.heap.size ≤ g ∧ w.heap.size ≤ g' ∧ g ≠ g' ∧ w'.ownsRow w.heap.size 3 1 (.slice (some ⟨g, 0, none⟩) p c) p (L.map (.int .i64)) ∧
    w'.ownsRow w.heap.size 3 1 (.slice (some ⟨g', 0, none⟩) q c') q (M.map (.int .i64)) ∧ Below w.heap.size w w'
set_option maxRecDepth 100000 in
set_option maxHeartbeats 4000000 in
theorem queuesOf_any {w0 : World} {B : Nat} {A : Option Addr} {n : Nat} {vs : List TArrival} (c : Nat) (h : IsArrivals w0 B A n vs) (hm : n ≤ 1048576) (hg : goodAs vs) (os : List Int) (hos : FirstA vs vs.length os) :
    Calls Try.prog 55 #[.slice A n c] w0 fun e w' => ∃ u v, e = .returned (.tuple #[u, v]) ∧ TwoZ w0 w' (quU vs os) (quD vs os) (quU vs os).length (quD vs os).length u v := by
  obtain ⟨i0, hi, hz0, hz1, hz2⟩ := info_parts Try.infoInt'
  have CC := Lib.hid (fun (W : World) (hb : Below w0.heap.size w0 W) => comeI_any c (h.below hb h.low) hm os true ⟨fun _ => ⟨hos, rfl⟩, fun e => by rw [gAs_yes hg] at e; cases e⟩ n (by rw [hos.len, h.len]))
  have HI := Lib.hid h
  have HOL : Hid (os.length = n) := Lib.hid (by rw [hos.len, h.len])
  have HOI : Hid (∀ p, p < n → inA n (os.getD p 0)) := Lib.hid (fun p hp => by rw [← h.len]; exact hos.mem _ (getD_mem (by rw [hos.len, h.len]; exact hp)))
  have hn6 : n ≤ 6 := by rw [← h.len]; exact hg.1
  obtain ⟨ga, hga⟩ : ∃ g, w0.heap.size = g := ⟨_, rfl⟩
  obtain ⟨W2, hW2⟩ : ∃ W, (w0.alloc (.cells #[] 3)).alloc (.cells #[] 3) = W := ⟨_, rfl⟩
  have P1 : Hid (TwoZ w0 W2 [] [] 0 0 (.slice (some ⟨ga, 0, none⟩) 0 0) (.slice (some ⟨ga + 1, 0, none⟩) 0 0)) := Lib.hid (by
    refine ⟨ga, 0, ga + 1, 0, rfl, rfl, by omega, by omega, by omega, ?_, ?_, by rw [← hW2]; exact below2 _ _ _⟩
    · rw [← hW2, ← hga]
      exact (World.ownsRow_made w0 #[] 0 (Nat.le_refl _) (by unfold maxLen; omega) rfl).alloc _
    · rw [← hW2, ← hga]
      have := World.ownsRow_made (e := 3) (size := 1) (w0.alloc (.cells #[] 3)) #[] 0 (base := w0.heap.size) (by simp) (by unfold maxLen; omega) rfl
      rwa [World.size_alloc] at this)
  have hb2 : Below w0.heap.size w0 W2 := by rw [← hW2]; exact below2 _ _ _
  have CC2 := Lib.hid (CC.out W2 hb2)
  clear h hos hg CC hb2
  go_enter Try.func55, Try.ntmps55
  go_wp2_with fail
  (try rw [hW2]); (try rw [hga])
  refine CC2.out.mono ?_
  rintro e w1 ⟨go, co, rfl, hoo, hbo⟩
  have P2 : Hid (w1.ownsRow w0.heap.size 3 1 (.slice (some ⟨ga, 0, none⟩) 0 0) 0 (([] : List Int).map (.int .i64)) ∧ w1.ownsRow w0.heap.size 3 1 (.slice (some ⟨ga + 1, 0, none⟩) 0 0) 0 (([] : List Int).map (.int .i64)) ∧ w1.ownsRow w0.heap.size 3 1 (.slice (some ⟨go, 0, none⟩) n co) n (os.map (.int .i64)) ∧ Below w0.heap.size w0 w1 ∧ ga + 2 ≤ go) := Lib.hid (by
    obtain ⟨g, c, g', c', e1, e2, h1, h2, h3, h4, h5, h6⟩ := P1.out
    injection e1 with e1 _ e3
    injection e1 with e1
    injection e1 with e1 _ _
    injection e2 with e2 _ e4
    injection e2 with e2
    injection e2 with e2 _ _
    subst e1 e2 e3 e4
    have hgo := (hoo.lt go rfl).1
    have hsz : W2.heap.size = ga + 2 := by rw [← hW2, ← hga]; simp
    exact ⟨own_below h4 hbo, own_below h5 hbo, own_low hoo h6.size, h6.trans (hbo.mono h6.size), by omega⟩)
  clear P1 hW2 hoo hbo CC2
  go_wp2_with fail
  go_loopw [4, 5, 19] (fun u v i wr => ∃ (k p q g c g' c' : Nat), k ≤ n ∧ i = .int .i64 k ∧ p + q = k ∧ u = .slice (some ⟨g, 0, none⟩) p c ∧ v = .slice (some ⟨g', 0, none⟩) q c' ∧ w0.heap.size ≤ g ∧ w0.heap.size ≤ g' ∧ g ≠ g' ∧ g ≠ go ∧ g' ≠ go ∧
      wr.ownsRow w0.heap.size 3 1 (.slice (some ⟨g, 0, none⟩) p c) p ((quU vs (os.take k)).map (.int .i64)) ∧ wr.ownsRow w0.heap.size 3 1 (.slice (some ⟨g', 0, none⟩) q c') q ((quD vs (os.take k)).map (.int .i64)) ∧
      wr.ownsRow w0.heap.size 3 1 (.slice (some ⟨go, 0, none⟩) n co) n (os.map (.int .i64)) ∧ Below w0.heap.size w0 wr) (fun _ _ i _ => n - (intOf i).toNat)
  case atStart =>
    obtain ⟨h1, h2, h3, h4, h5⟩ := P2.out
    exact ⟨0, 0, 0, ga, 0, ga + 1, 0, Nat.zero_le _, rfl, rfl, rfl, rfl, by omega, by omega, by omega, by omega, by omega, h1, h2, h3, h4⟩
  case round =>
    clear P2
    obtain ⟨k, p, q, g, c4, g', c5, hk, rfl, hpq, rfl, rfl, hg1, hg2, hne, hno, hno2, h1, h2, h3, hb⟩ := hrel
    by_cases hlt : k < n
    · obtain ⟨a3, ea3, -, t0⟩ := Has.numAt (own_IsIs h3).has (k := k) (by rw [HOL.out]; exact hlt)
      injection ea3 with ea3
      subst ea3
      have HSU := Lib.hid (quU_snoc vs (os := os) (k := k) (by rw [HOL.out]; exact hlt))
      have HSD := Lib.hid (quD_snoc vs (os := os) (k := k) (by rw [HOL.out]; exact hlt))
      obtain ⟨j, hj, hjn⟩ := inA_nat (HOI.out k hlt)
      rw [hj] at t0 HSU HSD
      have t1 := t0
      rw [addO, Nat.zero_add] at t1
      rw [atA_cast] at HSU HSD
      obtain ⟨a1, rfl, -, HV⟩ := (HI.out.below hb HI.out.low).has.Arrival (k := j) (by rw [HI.out.len]; exact hjn)
      have e1 := HV.c1
      generalize (vs.getD j noArrival).x1 = u at e1 HSU HSD
      have hk0 : (0 : Int) ≤ (k : Int) := by omega
      have hk1 : (k : Int) < (n : Int) := by omega
      have hj0 : (0 : Int) ≤ (j : Int) := by omega
      have hj1 : (j : Int) < (n : Int) := by omega
      clear HV hj
      cases u with
      | true =>
        have HSU2 : Hid ((quU vs (os.take (k + 1))).map (Value.int .i64) = (quU vs (os.take k)).map (.int .i64) ++ [.int .i64 (j : Int)]) := Lib.hid (by rw [HSU.out, if_pos rfl, List.map_append]; rfl)
        have HSD2 : Hid (quD vs (os.take (k + 1)) = quD vs (os.take k)) := Lib.hid (by rw [HSD.out, if_pos rfl])
        clear HSU HSD
        obtain ⟨v1, w2, hr, hown1, hgrow1, hnil1, hblk⟩ := run_append_own_at (P := Try.prog) (wr.alloc (.cells #[.int .i64 (j : Int)] 3)) w0.heap.size 46 46 3 i0 (.int .i64 0) 1 8 Try.underlying46 hi hz0 hz1 hz2 rfl (by decide) (.slice (some ⟨g, 0, none⟩) p c4) p _ (h1.alloc _) ⟨wr.heap.size, 0, none⟩ 1 1 [.int .i64 (j : Int)] rfl (cell_one_new _ _ _) (by simp [Value.oneCell']) (by unfold maxLen; omega) (by omega) (by have := hb.size; simp; omega)
        obtain ⟨g9, c9, rfl, hg9⟩ := own_some hown1 (fun e => nomatch (hnil1.1 e).1)
        have hgg : g9 ≠ g' ∧ g9 ≠ go := by
          have h1 := (h2.lt g' rfl).2
          have h4 := (h3.lt go rfl).2
          rcases hblk with h2 | h2
          · have h3 : g9 = g := by simpa [Value.ownBlock] using h2
            omega
          · have h3 : g9 = wr.heap.size + 1 := by simpa [Value.ownBlock] using h2
            omega
        have ho2 := (h2.alloc (.cells #[.int .i64 (j : Int)] 3)).kept hgrow1 (.inr (by simp [Value.ownBlock]; omega))
        have ho3 := (h3.alloc (.cells #[.int .i64 (j : Int)] 3)).kept hgrow1 (.inr (by simp [Value.ownBlock]; omega))
        have hb1 := (hb.alloc hb.size (.cells #[.int .i64 (j : Int)] 3)).grown hgrow1 (by have := hb.size; simp; omega) (fun q hq => by cases hq; assumption)
        have HR := Lib.hid hr
        have HF := Lib.hid (And.intro hown1 (And.intro ho2 (And.intro ho3 hb1)))
        have HN := Lib.hid (And.intro hg9 hgg)
        clear hr hown1 hgrow1 hnil1 hblk ho2 ho3 hb1 hg9 hgg h1 h2 h3 hb
        go_wp2_with (at_builtin; refine Lib.wpList_append_run _ rfl _ _ _ _ rfl _ _ rfl rfl _ _ HR.out ?_)
        go_roundw
        case rel => exact ⟨k + 1, p + 1, q, g9, c9, g', c5, by omega, by go_num, by omega, rfl, rfl, HN.out.1, hg2, HN.out.2.1, HN.out.2.2, hno2, by rw [HSU2.out]; exact HF.out.1, by rw [HSD2.out]; exact HF.out.2.1, HF.out.2.2.1, HF.out.2.2.2⟩
        case measure => simp [intOf]; omega
      | false =>
        have HSU2 : Hid (quU vs (os.take (k + 1)) = quU vs (os.take k)) := Lib.hid (by rw [HSU.out, if_neg (by simp)])
        have HSD2 : Hid ((quD vs (os.take (k + 1))).map (Value.int .i64) = (quD vs (os.take k)).map (.int .i64) ++ [.int .i64 (j : Int)]) := Lib.hid (by rw [HSD.out, if_neg (by simp), List.map_append]; rfl)
        clear HSU HSD
        have hne' := hne.symm
        obtain ⟨v1, w2, hr, hown1, hgrow1, hnil1, hblk⟩ := run_append_own_at (P := Try.prog) (wr.alloc (.cells #[.int .i64 (j : Int)] 3)) w0.heap.size 46 46 3 i0 (.int .i64 0) 1 8 Try.underlying46 hi hz0 hz1 hz2 rfl (by decide) (.slice (some ⟨g', 0, none⟩) q c5) q _ (h2.alloc _) ⟨wr.heap.size, 0, none⟩ 1 1 [.int .i64 (j : Int)] rfl (cell_one_new _ _ _) (by simp [Value.oneCell']) (by unfold maxLen; omega) (by omega) (by have := hb.size; simp; omega)
        obtain ⟨g9, c9, rfl, hg9⟩ := own_some hown1 (fun e => nomatch (hnil1.1 e).1)
        have hgg : g9 ≠ g ∧ g9 ≠ go := by
          have h1 := (h1.lt g rfl).2
          have h4 := (h3.lt go rfl).2
          rcases hblk with h2 | h2
          · have h3 : g9 = g' := by simpa [Value.ownBlock] using h2
            omega
          · have h3 : g9 = wr.heap.size + 1 := by simpa [Value.ownBlock] using h2
            omega
        have ho2 := (h1.alloc (.cells #[.int .i64 (j : Int)] 3)).kept hgrow1 (.inr (by simp [Value.ownBlock]; omega))
        have ho3 := (h3.alloc (.cells #[.int .i64 (j : Int)] 3)).kept hgrow1 (.inr (by simp [Value.ownBlock]; omega))
        have hb1 := (hb.alloc hb.size (.cells #[.int .i64 (j : Int)] 3)).grown hgrow1 (by have := hb.size; simp; omega) (fun q hq => by cases hq; assumption)
        have HR := Lib.hid hr
        have HF := Lib.hid (And.intro hown1 (And.intro ho2 (And.intro ho3 hb1)))
        have HN := Lib.hid (And.intro hg9 hgg)
        clear hr hown1 hgrow1 hnil1 hblk ho2 ho3 hb1 hg9 hgg h1 h2 h3 hb
        go_wp2_with (at_builtin; refine Lib.wpList_append_run _ rfl _ _ _ _ rfl _ _ rfl rfl _ _ HR.out ?_)
        go_roundw
        case rel => exact ⟨k + 1, p, q + 1, g, c4, g9, c9, by omega, by go_num, by omega, rfl, rfl, hg1, HN.out.1, fun e => HN.out.2.1 e.symm, hno, HN.out.2.2, by rw [HSU2.out]; exact HF.out.2.1, by rw [HSD2.out]; exact HF.out.1, HF.out.2.2.1, HF.out.2.2.2⟩
        case measure => simp [intOf]; omega
    · obtain rfl : k = n := by omega
      have hend : os.take k = os := List.take_of_length_le (by rw [HOL.out]; exact Nat.le_refl _)
      rw [hend] at h1 h2
      have hp : (quU vs os).length = p := by have := h1.1; simpa using this
      have hq : (quD vs os).length = q := by have := h2.1; simpa using this
      have HFF := Lib.hid (And.intro h1 (And.intro h2 hb))
      have HPP := Lib.hid (And.intro hp hq)
      clear h1 h2 h3 hb hp hq hend
      go_wp2_with fail
      refine bodyPost_ret (results_tmp2 rfl _ _ _) rfl ?_
      exact ⟨_, _, rfl, g, c4, g', c5, by rw [HPP.out.1]; rfl, by rw [HPP.out.2]; rfl, hg1, hg2, hne, by rw [HPP.out.1]; exact HFF.out.1, by rw [HPP.out.2]; exact HFF.out.2.1, HFF.out.2.2⟩
end Go.Proofs.Ytdleidlmjliapaa
