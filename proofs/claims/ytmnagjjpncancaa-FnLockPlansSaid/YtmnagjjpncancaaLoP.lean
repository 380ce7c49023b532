/- Chapter 5: slices.Repeat of one number. -/
import Derived.Test.YtmnagjjpncancaaLoK
namespace Go.Proofs.Ytmnagjjpncancaa
open Go.RowKit Go.PlainAid Go.Sort
set_option linter.unusedVariables false
set_option linter.unusedSimpArgs false

set_option maxHeartbeats 1000000 in
theorem mulL_any (n : Nat) (h6 : n ≤ 40) (w : World) : Calls Try.prog 65 #[.int .u64 1, .int .u64 n] w fun e w' => e = .returned (.tuple #[.int .u64 0, .int .u64 n]) ∧ w = w' := by
  have C := Lib.hid (fun W => mul64L_any n h6 W)
  go_enter Try.func65, Try.ntmps65
  go_wp2_with fail
  refine (C.out _).mono ?_
  rintro e w1 ⟨rfl, rfl⟩
  go_wp2_with fail
  refine bodyPost_ret (results_tmp2 rfl _ _ _) rfl ?_
  exact ⟨rfl, rfl⟩
theorem own_heap {w : World} {base g : Nat} {e : TypeId} {n c : Nat} {xs : List Value} (h : w.ownsRow base e 1 (.slice (some ⟨g, 0, none⟩) n c) n xs) (hc : c = n) : ∃ cur : List Value, w.heap[g]? = some (.cells cur.toArray e (0, 0)) ∧ cur.length = n := by
  rcases h.2 with ⟨e1, -⟩ | ⟨g', cap, cur, e1, -, hg, hl⟩
  · cases e1
  · injection e1 with e1 e2 e3
    injection e1 with e1
    injection e1 with e1 _ _
    subst e1 e3
    obtain ⟨-, -, hs, -⟩ := hl
    exact ⟨cur.toList, hg, by rw [Array.length_toList]; omega⟩
set_option maxRecDepth 100000 in
set_option maxHeartbeats 2000000 in
theorem repI_any (n : Nat) (h6 : n ≤ 40) (w : World) (a : Addr) (c : Nat) (ha : w.cell? (a.add 0) = some (Value.int .i64 9)) :
    Calls Try.prog 53 #[.slice (some a) 1 c, .int .i64 n] w fun e w' => ∃ g, e = .returned (.slice (some ⟨g, 0, none⟩) n n) ∧ w.heap.size ≤ g ∧
      (∀ j u, (List.replicate n (Value.int .i64 9))[j]? = some u → w'.cell? ⟨g, j, none⟩ = some u) ∧ Below w.heap.size w w' := by
  obtain ⟨i0, hi, hz0, hz1, hz2⟩ := info_parts Try.infoInt'
  have CM := Lib.hid (fun W => mulL_any n h6 W)
  have hn40 : (n : Int) ≤ 40 := by omega
  have hn0 : (0 : Int) ≤ (n : Int) := by omega
  go_enter Try.func53, Try.ntmps53
  go_wp2_with fail
  refine (CM.out w).mono ?_
  rintro e w1 ⟨rfl, rfl⟩
  clear CM
  go_wp2_with (at_make; refine wpList_make_full _ rfl _ _ 34 rfl w.heap.size 3 i0 (.int .i64 0) 1 Try.underlying34 hi hz0 hz1 _ _ _ _ n rfl rfl rfl rfl ?b2 ?b3 (Nat.le_refl _) ?_)
  case b2 => rw [hz2]; omega
  case b3 => unfold maxLen; omega
  intro w0 hown0 hgrow0
  have HB0 := Lib.hid ((Below.refl _ _).grown hgrow0 (Nat.le_refl w.heap.size) (fun k h => by cases h))
  obtain ⟨cur0, hc0, hcl0⟩ := own_heap hown0 rfl
  obtain ⟨m1, hm1⟩ : ∃ m, Nat.min 1 n = m := ⟨_, rfl⟩
  have hm11 : m1 ≤ 1 ∧ m1 ≤ n := by rw [← hm1]; exact ⟨Nat.min_le_left _ _, Nat.min_le_right _ _⟩
  have hm1n : 1 ≤ n → m1 = 1 := by intro h; rw [← hm1]; exact Nat.min_eq_left h
  have HG := Lib.hid hc0
  have HC := Lib.hid (show ∀ j v, (List.replicate m1 (Value.int .i64 9))[j]? = some v → w0.cell? (a.add j) = some v from fun j v hj => by
    have hjm : j < m1 := by have := (List.getElem?_eq_some_iff.1 hj).1; simpa using this
    rw [List.getElem?_replicate, if_pos hjm] at hj
    injection hj with hj
    obtain rfl : j = 0 := by omega
    rw [← hj]
    exact (HB0.out.cell (World.block_lt_of_cell? _ _ ha)).trans ha)
  clear hown0 hgrow0 hc0 ha
  have HM1 := Lib.hid hm1
  have hlr : (List.replicate m1 (Value.int .i64 9)).length = m1 := List.length_replicate
  have hi1 : (m1 : Int) ≤ 1 := by omega
  clear hm1
  go_wp2_with (refine wpList_copy_splice rfl (.tmp 31) (.tmp 32) 34 34 rfl 3 Try.underlying34 (by kernel_rfl) (some ⟨w.heap.size, 0, none⟩) (some a) n n 1 c rfl rfl w.heap.size 0 cur0 3 HG.out (List.replicate m1 (Value.int .i64 9)) (hlr.trans HM1.out.symm) (fun _ => ⟨rfl, a, rfl, HC.out⟩) (by rw [hlr, hcl0]; omega) (fun v hv => by rw [(List.mem_replicate.1 hv).2]; rfl) w.heap.size w HB0.out (Nat.le_refl _) ?_; intro w2 hg2 hb2)
  obtain ⟨g, hg⟩ : ∃ g, w.heap.size = g := ⟨_, rfl⟩
  have HG2 := Lib.hid hg2.out
  have HCU : Hid ((splice cur0 0 (List.replicate m1 (Value.int .i64 9))).length = n ∧ ∀ j, j < m1 → (splice cur0 0 (List.replicate m1 (Value.int .i64 9)))[j]? = some (Value.int .i64 9)) := Lib.hid ⟨by rw [length_splice _ _ _ (by rw [hlr, hcl0]; omega), hcl0], fun j hj => by
    unfold splice
    rw [List.take_zero, List.nil_append, List.getElem?_append_left (by rw [hlr]; exact hj), List.getElem?_replicate, if_pos hj]⟩
  have HB2 := Lib.hid hb2
  have HGE := Lib.hid hg
  rw [hg] at HG2
  clear hg2 hb2 HB0 HG HC hcl0 hlr
  try simp only [hg]
  try simp only [List.length_replicate]
  clear hg
  go_loopw [8] (fun q wr => ∃ (k : Nat) (cur : List Value), (1 ≤ n → 1 ≤ k) ∧ k ≤ n ∧ q = .int .i64 k ∧ Hid (wr.heap[g]? = some (.cells cur.toArray 3 (0, 0))) ∧ Hid (cur.length = n ∧ ∀ j, j < k → cur[j]? = some (Value.int .i64 9)) ∧ Below g w wr) (fun q _ => n - (intOf q).toNat)
  case atStart => exact ⟨m1, _, (fun h => by rw [hm1n h]; omega), hm11.2, by simp [goInt], HG2, HCU, by rw [← HGE.out]; exact HB2.out⟩
  case round =>
    clear HG2 HCU HB2 hm1n hm11 HM1
    obtain ⟨k, cur, hk1', hkn, rfl, hgc, hcu, hb⟩ := hrel
    by_cases hlt : (k : Int) < (n : Int)
    · have hk0 : (0 : Int) ≤ (k : Int) := by omega
      have hk1 : 1 ≤ k := hk1' (by omega)
      have hkne : ¬ n = k := by omega
      have HB := Lib.hid hb
      clear hb hk1'
      obtain ⟨m, hm⟩ : ∃ m, Nat.min k (n - k) = m := ⟨_, rfl⟩
      have hmk : m ≤ k := by rw [← hm]; exact Nat.min_le_left _ _
      have hmn : m ≤ n - k := by rw [← hm]; exact Nat.min_le_right _ _
      have hmp : 1 ≤ m := by rw [← hm]; exact Nat.le_min.2 ⟨hk1, by omega⟩
      have HM := Lib.hid hm
      have HGC := Lib.hid hgc.out
      have hi2 : (k : Int) ≤ (n : Int) := by omega
      clear hm hgc
      go_wp2_with fail
      refine region_inv (by kernel_rfl) (by kernel_rfl) (fun Fl9 ac W => ∃ (x38 x39 x40 x41 x42 x43 x44 x45 x46 x8 : Value), ac = { tmps := #[Value.slice (some a) 1 c, Value.int IntKind.i64 (n : Int), undef, undef, Value.slice none 0 0, Value.int IntKind.u64 0, Value.int IntKind.u64 (n : Int), Value.slice (some ⟨g, 0, none⟩) n n, x8, Value.int IntKind.i64 (n : Int), Value.bool (decide ((n : Int) < 0)), undef, Value.tuple #[Value.int IntKind.u64 0, Value.int IntKind.u64 (n : Int)], Value.slice (some a) 1 c, Value.int IntKind.i64 1, Value.int IntKind.u64 1, Value.int IntKind.i64 (n : Int), Value.int IntKind.u64 (n : Int), Value.tuple #[Value.int IntKind.u64 0, Value.int IntKind.u64 (n : Int)], Value.int IntKind.u64 0, Value.int IntKind.u64 (n : Int), Value.int IntKind.u64 0, Value.bool false, Value.bool false, Value.int IntKind.u64 (n : Int), Value.bool (decide (9223372036854775807 < (n : Int))), Value.bool (decide (9223372036854775807 < (n : Int))), undef, Value.int IntKind.u64 (n : Int), Value.int IntKind.i64 (n : Int), Value.slice (some ⟨g, 0, none⟩) n n, Value.slice (some ⟨g, 0, none⟩) n n, Value.slice (some a) 1 c, Value.int IntKind.i64 (m1 : Int), Value.int IntKind.i64 (k : Int), Value.slice (some ⟨g, 0, none⟩) n n, Value.int IntKind.i64 (n : Int), Value.bool true, x38, x39, x40, x41, x42, x43, x44, x45, x46, undef], defers := [] } ∧ Below g wr W ∧
            (Fl9 0 = true → x38 = .int .i64 (k : Int)) ∧
            (Fl9 1 = true → x39 = .slice (some ⟨g, 0, none⟩) n n) ∧
            (Fl9 2 = true → x40 = .int .i64 (k : Int)) ∧
            (Fl9 3 = true → x41 = .slice (some ⟨g, k, none⟩) (n - k) (n - k)) ∧
            (Fl9 4 = true → x42 = .slice (some ⟨g, 0, none⟩) n n) ∧
            (Fl9 5 = true → x43 = .int .i64 (k : Int)) ∧
            (Fl9 6 = true → x44 = .slice (some ⟨g, 0, none⟩) k n) ∧
            (Fl9 7 = true → x45 = .int .i64 (m : Int) ∧ W.heap[g]? = some (.cells (splice cur k (List.replicate m (Value.int .i64 9))).toArray 3 (0, 0))) ∧
            (Fl9 8 = true → x46 = .int .i64 ((k : Int) + (m : Int))) ∧
            (Fl9 9 = true → x8 = .int .i64 ((k : Int) + (m : Int))) ∧
            (Fl9 9 = true → Fl9 0 = true ∧ Fl9 2 = true ∧ Fl9 5 = true) ∧
            (Fl9 9 = false → x8 = .int .i64 (k : Int)) ∧
            (Fl9 7 = false → W.heap[g]? = some (.cells cur.toArray 3 (0, 0)))) ?_ ?_ ?_
      · exact ⟨_, _, _, _, _, _, _, _, _, _, rfl, (Drawn.one wr 1).below _, (fun q0 => nomatch q0), (fun q0 => nomatch q0), (fun q0 => nomatch q0), (fun q0 => nomatch q0), (fun q0 => nomatch q0), (fun q0 => nomatch q0), (fun q0 => nomatch q0), (fun q0 => nomatch q0), (fun q0 => nomatch q0), (fun q0 => nomatch q0), (fun q0 => nomatch q0), (fun _ => rfl), (fun _ => HGC.out)⟩
      · intro Fl9 ac W i9 o9 hJ ho hL hdep K9 hK
        obtain ⟨x38, x39, x40, x41, x42, x43, x44, x45, x46, x8, rfl, hB, hh0, hh1, hh2, hh3, hh4, hh5, hh6, hh7, hh8, hh9, hx0, hx1, hx2⟩ := hJ
        have hi9 : i9 < 10 := by simpa using (Array.getElem?_eq_some_iff.1 ho).1
        obtain rfl | rfl | rfl | rfl | rfl | rfl | rfl | rfl | rfl | rfl : i9 = 0 ∨ i9 = 1 ∨ i9 = 2 ∨ i9 = 3 ∨ i9 = 4 ∨ i9 = 5 ∨ i9 = 6 ∨ i9 = 7 ∨ i9 = 8 ∨ i9 = 9 := by omega
        · -- operation 0
          cases ho
          have hx9 : Fl9 9 = false := by
            cases hc9 : Fl9 9 with
            | false => rfl
            | true => exact absurd (hx0 hc9).1 (by rw [hL]; simp)
          obtain rfl := hx1 hx9
          go_simp
          exact hK _ _ ⟨_, _, _, _, _, _, _, _, _, _, rfl, hB, fun _ => rfl, hh1, hh2, hh3, hh4, hh5, hh6, hh7, hh8, hh9, fun q0 => ⟨rfl, (hx0 q0).2⟩, hx1, hx2⟩
        · -- operation 1
          cases ho
          go_simp
          exact hK _ _ ⟨_, _, _, _, _, _, _, _, _, _, rfl, hB, hh0, fun _ => rfl, hh2, hh3, hh4, hh5, hh6, hh7, hh8, hh9, hx0, hx1, hx2⟩
        · -- operation 2
          cases ho
          have hx9 : Fl9 9 = false := by
            cases hc9 : Fl9 9 with
            | false => rfl
            | true => exact absurd (hx0 hc9).2.1 (by rw [hL]; simp)
          obtain rfl := hx1 hx9
          go_simp
          exact hK _ _ ⟨_, _, _, _, _, _, _, _, _, _, rfl, hB, hh0, hh1, fun _ => rfl, hh3, hh4, hh5, hh6, hh7, hh8, hh9, fun q0 => ⟨(hx0 q0).1, rfl, (hx0 q0).2.2⟩, hx1, hx2⟩
        · -- operation 3
          cases ho
          obtain rfl := hh1 (hdep ⟨1, .data⟩ (by simp) rfl)
          obtain rfl := hh2 (hdep ⟨2, .data⟩ (by simp) rfl)
          go_simp
          exact hK _ _ ⟨_, _, _, _, _, _, _, _, _, _, rfl, hB, hh0, hh1, hh2, fun _ => rfl, hh4, hh5, hh6, hh7, hh8, hh9, hx0, hx1, hx2⟩
        · -- operation 4
          cases ho
          go_simp
          exact hK _ _ ⟨_, _, _, _, _, _, _, _, _, _, rfl, hB, hh0, hh1, hh2, hh3, fun _ => rfl, hh5, hh6, hh7, hh8, hh9, hx0, hx1, hx2⟩
        · -- operation 5
          cases ho
          have hx9 : Fl9 9 = false := by
            cases hc9 : Fl9 9 with
            | false => rfl
            | true => exact absurd (hx0 hc9).2.2 (by rw [hL]; simp)
          obtain rfl := hx1 hx9
          go_simp
          exact hK _ _ ⟨_, _, _, _, _, _, _, _, _, _, rfl, hB, hh0, hh1, hh2, hh3, hh4, fun _ => rfl, hh6, hh7, hh8, hh9, fun q0 => ⟨(hx0 q0).1, (hx0 q0).2.1, rfl⟩, hx1, hx2⟩
        · -- operation 6
          cases ho
          obtain rfl := hh4 (hdep ⟨4, .data⟩ (by simp) rfl)
          obtain rfl := hh5 (hdep ⟨5, .data⟩ (by simp) rfl)
          go_simp
          exact hK _ _ ⟨_, _, _, _, _, _, _, _, _, _, rfl, hB, hh0, hh1, hh2, hh3, hh4, hh5, fun _ => rfl, hh7, hh8, hh9, hx0, hx1, hx2⟩
        · -- operation 7
          cases ho
          obtain rfl := hh3 (hdep ⟨3, .data⟩ (by simp) rfl)
          obtain rfl := hh6 (hdep ⟨6, .data⟩ (by simp) rfl)
          have hgw := hx2 hL
          refine step_copy_splice rfl (.tmp 41) (.tmp 44) 34 34 rfl 3 Try.underlying34 (by kernel_rfl) (some ⟨g, k, none⟩) (some ⟨g, 0, none⟩) (n - k) (n - k) k n rfl rfl g k cur 3 hgw (List.replicate m (Value.int .i64 9)) (by rw [List.length_replicate]; exact HM.out.symm) (fun _ => ⟨rfl, _, rfl, fun j v hj => ?_⟩) (by rw [List.length_replicate, hcu.out.1]; omega) (fun v hv => by rw [(List.mem_replicate.1 hv).2]; rfl) g wr hB (Nat.le_refl _) ?_
          · have hjm : j < m := by have := (List.getElem?_eq_some_iff.1 hj).1; simpa using this
            rw [List.getElem?_replicate, if_pos hjm] at hj
            rw [show (⟨g, 0, none⟩ : Addr).add j = ⟨g, j, none⟩ from (by unfold Addr.add; split <;> simp_all)]
            exact (cell_of_row W g j _ _ _ hgw).trans (by rw [List.getElem?_toArray, hcu.out.2 j (by omega)]; exact hj)
          · intro w9 hg9 hb9
            rw [show goInt (List.replicate m (Value.int .i64 9)).length = .int .i64 (m : Int) from (by rw [List.length_replicate]; rfl)]
            exact hK _ _ ⟨_, _, _, _, _, _, _, _, _, _, rfl, hb9, hh0, hh1, hh2, hh3, hh4, hh5, hh6, fun _ => ⟨rfl, hg9.out⟩, hh8, hh9, hx0, hx1, (fun q0 => nomatch q0)⟩
        · -- operation 8
          cases ho
          obtain rfl := hh0 (hdep ⟨0, .data⟩ (by simp) rfl)
          have hd7 := hdep ⟨7, .data⟩ (by simp) rfl
          obtain ⟨rfl, hg7⟩ := hh7 hd7
          go_simp
          try rw [show IntKind.i64.wrap ((k : Int) + (m : Int)) = (k : Int) + (m : Int) from (by rw [IntKind.wrap_i64]; omega)]
          exact hK _ _ ⟨_, _, _, _, _, _, _, _, _, _, rfl, hB, hh0, hh1, hh2, hh3, hh4, hh5, hh6, hh7, fun _ => rfl, hh9, hx0, hx1, hx2⟩
        · -- operation 9
          cases ho
          obtain rfl := hh8 (hdep ⟨8, .data⟩ (by simp) rfl)
          clear hx1
          go_simp
          exact hK _ _ ⟨_, _, _, _, _, _, _, _, _, _, rfl, hB, hh0, hh1, hh2, hh3, hh4, hh5, hh6, hh7, hh8, fun _ => rfl, fun _ => ⟨hdep ⟨0, .phase⟩ (by simp) rfl, hdep ⟨2, .phase⟩ (by simp) rfl, hdep ⟨5, .phase⟩ (by simp) rfl⟩, (fun q0 => nomatch q0), hx2⟩
      intro Fl9 ac W hJ hall
      obtain ⟨x38, x39, x40, x41, x42, x43, x44, x45, x46, x8, rfl, hB, hh0, hh1, hh2, hh3, hh4, hh5, hh6, hh7, hh8, hh9, -, -, -⟩ := hJ
      obtain rfl := hh0 (hall 0 (by decide))
      obtain rfl := hh1 (hall 1 (by decide))
      obtain rfl := hh2 (hall 2 (by decide))
      obtain rfl := hh3 (hall 3 (by decide))
      obtain rfl := hh4 (hall 4 (by decide))
      obtain rfl := hh5 (hall 5 (by decide))
      obtain rfl := hh6 (hall 6 (by decide))
      obtain rfl := hh8 (hall 8 (by decide))
      obtain rfl := hh9 (hall 9 (by decide))
      obtain ⟨rfl, hg7⟩ := hh7 (hall 7 (by decide))
      clear hall
      have HB9 := Lib.hid (HB.out.trans hB)
      have HG9 := Lib.hid hg7
      have HC9 : Hid ((splice cur k (List.replicate m (Value.int .i64 9))).length = n ∧ ∀ j, j < k + m → (splice cur k (List.replicate m (Value.int .i64 9)))[j]? = some (Value.int .i64 9)) := Lib.hid ⟨by rw [length_splice _ _ _ (by rw [List.length_replicate, hcu.out.1]; omega), hcu.out.1], fun j hj => by
        unfold splice
        have htl : (cur.take k).length = k := by rw [List.length_take, hcu.out.1]; omega
        by_cases hjk : j < k
        · rw [List.getElem?_append_left (by omega), List.getElem?_take, if_pos hjk]
          exact hcu.out.2 j hjk
        · rw [List.getElem?_append_right (by omega), htl, List.getElem?_append_left (by rw [List.length_replicate]; omega), List.getElem?_replicate, if_pos (by omega)]⟩
      clear hB hg7 HB HGC hcu
      go_wp2_with fail
      go_roundw
      case rel => exact ⟨k + m, _, fun _ => by omega, by omega, by go_num, HG9, HC9, HB9.out⟩
      case measure => simp [intOf]; omega
    · obtain rfl : k = n := by omega
      have HR : Hid (∀ j u, (List.replicate k (Value.int .i64 9))[j]? = some u → wr.cell? ⟨g, j, none⟩ = some u) := Lib.hid (fun j u hj => by
        have hjk : j < k := by have := (List.getElem?_eq_some_iff.1 hj).1; simpa using this
        rw [List.getElem?_replicate, if_pos hjk] at hj
        injection hj with hj
        rw [← hj]
        exact (cell_of_row wr g j _ _ _ hgc.out).trans (by rw [List.getElem?_toArray]; exact hcu.out.2 j hjk))
      have hgs := HGE.out
      clear hgc hcu hk1'
      go_wp2_with fail
      go_ret
      exact ⟨g, rfl, by first | exact Nat.le_refl _ | (rw [hgs]; exact Nat.le_refl _), HR.out, by first | exact hb | (rw [hgs]; exact hb)⟩
end Go.Proofs.Ytmnagjjpncancaa
