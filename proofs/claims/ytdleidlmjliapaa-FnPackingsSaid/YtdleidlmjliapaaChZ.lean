/- Chapter 4: bytes.Repeat of one byte, one to six times. -/
import Derived.Test.YtdleidlmjliapaaChY
import Derived.Test.YtdleidlmjliapaaInv
import Derived.Lib.MakeNoZero
import Derived.Laws.Externs
import Derived.Laws.CopyOwn
import Derived.Deep.RegionLaw
import Derived.Deep.LoopGhost
namespace Go.Proofs.Ytdleidlmjliapaa
open Go.RowKit Go.PlainAid Go.Sort
set_option linter.unusedVariables false
set_option linter.unusedSimpArgs false

set_option maxHeartbeats 1000000 in
theorem mul64_any (n : Nat) (h1 : 1 ≤ n) (h6 : n ≤ 6) (w : World) : Calls Try.prog 97 #[.int .u64 1, .int .u64 n] w fun e w' => e = .returned (.tuple #[.int .u64 0, .int .u64 n]) ∧ w = w' := by
  have hcases : n = 1 ∨ n = 2 ∨ n = 3 ∨ n = 4 ∨ n = 5 ∨ n = 6 := by omega
  rcases hcases with rfl | rfl | rfl | rfl | rfl | rfl
  all_goals
    go_enter Try.func97, Try.ntmps97
    go_wp2
    refine bodyPost_ret (results_tmp2 rfl _ _ _) rfl ?_
    exact ⟨rfl, rfl⟩
set_option maxHeartbeats 1000000 in
theorem mulB_any (n : Nat) (h1 : 1 ≤ n) (h6 : n ≤ 6) (w : World) : Calls Try.prog 77 #[.int .u64 1, .int .u64 n] w fun e w' => e = .returned (.tuple #[.int .u64 0, .int .u64 n]) ∧ w = w' := by
  have C := Lib.hid (fun W => mul64_any n h1 h6 W)
  go_enter Try.func77, Try.ntmps77
  go_wp2_with fail
  refine (C.out _).mono ?_
  rintro e w1 ⟨rfl, rfl⟩
  go_wp2_with fail
  refine bodyPost_ret (results_tmp2 rfl _ _ _) rfl ?_
  exact ⟨rfl, rfl⟩

/-- A row of bytes, with room behind it that is not told. -/
structure ByteRow (w : World) (g : Nat) (L : List UInt8) : Prop where
  ex : ∃ cur : List Value, w.heap[g]? = some (.cells cur.toArray 5 (0, 0)) ∧ L.length ≤ cur.length ∧ ∀ (j : Nat) (b : UInt8), L[j]? = some b → cur[j]? = some (Value.int .u8 (b.toNat : Int))
theorem ByteRow.lt {w : World} {g : Nat} {L : List UInt8} (h : ByteRow w g L) : g < w.heap.size := by
  obtain ⟨cur, h1, -⟩ := h.ex
  exact (Array.getElem?_eq_some_iff.1 h1).1
theorem ByteRow.below {w w' : World} {g B : Nat} {L : List UInt8} (h : ByteRow w g L) (hb : Below B w w') (hg : g < B) : ByteRow w' g L := by
  obtain ⟨cur, h1, h2⟩ := h.ex
  exact ⟨cur, (hb.block g hg).trans h1, h2⟩
theorem ByteRow.cell {w : World} {g : Nat} {L : List UInt8} (h : ByteRow w g L) {j : Nat} {b : UInt8} (hj : L[j]? = some b) : w.cell? ⟨g, j, none⟩ = some (Value.int .u8 (b.toNat : Int)) := by
  obtain ⟨cur, h1, -, h3⟩ := h.ex
  exact (cell_of_row w g j _ _ _ h1).trans (by rw [List.getElem?_toArray]; exact h3 j b hj)
theorem ByteRow.frozen {w : World} {g : Nat} {L : List UInt8} (h : ByteRow w g L) (j : Nat) : w.frozen? ⟨g, j, none⟩ = false := by
  obtain ⟨cur, h1, -⟩ := h.ex
  exact frozen_of_row w g j _ _ h1
theorem below_drewN {B : Nat} {a w : World} (h : Below B a w) (q : Nat) : Below B a (w.drewN q) := ⟨h.os, h.tape, h.output, h.size, h.block⟩
set_option maxRecDepth 100000 in
set_option maxHeartbeats 2000000 in
theorem repeat_any (n : Nat) (h1 : 1 ≤ n) (h6 : n ≤ 6) (w : World) (a : Addr) (c : Nat) (ha : w.cell? (a.add 0) = some (Value.int .u8 46)) :
    Calls Try.prog 47 #[.slice (some a) 1 c, .int .i64 n] w fun e w' => ∃ g, e = .returned (.slice (some ⟨g, 0, none⟩) n n) ∧ w.heap.size ≤ g ∧ ByteRow w' g (List.replicate n 46) ∧ Below w.heap.size w w' := by
  have CM := Lib.hid (fun W => mulB_any n h1 h6 W)
  obtain ⟨cs, hrunM, hle, hmax⟩ := Lib.run_makeNoZero (P := Try.prog) w #[3] 22 5 Try.underlying22 n (by omega)
  have hcall : (callFunc 78 #[.int .i64 (n : Int)]).run Try.prog w = .ok (.value (.slice (some ⟨w.heap.size, 0, none⟩) n cs.size)) ((w.alloc (.cells cs 5)).drewN 2) := by
    rw [run_callFunc_extern Try.func78 (by kernel_rfl) (by kernel_rfl) (by kernel_rfl) (e := Extern.BytealgMakeNoZero.makeNoZero #[3] #[22]) (by kernel_rfl), hrunM]
    rfl
  clear hrunM
  have hn0 : ((n : Int) == 0) = false := by simp; omega
  have hi0 : (0 : Int) ≤ (n : Int) := by omega
  have hi1 : (n : Int) ≤ (cs.size : Int) := by omega
  have hi6 : (n : Int) ≤ 6 := by omega
  go_enter Try.func47, Try.ntmps47
  go_wp2_with fail
  refine (CM.out w).mono ?_
  rintro e w1 ⟨rfl, rfl⟩
  have HG := Lib.hid (show ((w.alloc (.cells cs 5)).drewN 2).heap[w.heap.size]? = some (.cells cs.toList.toArray 5 (0, 0)) from heap_alloc_new w _)
  have HB := Lib.hid (below_drewN (below1 w (.cells cs 5)) 2)
  have HC := Lib.hid (show ∀ j v, [Value.int .u8 46][j]? = some v → ((w.alloc (.cells cs 5)).drewN 2).cell? (a.add j) = some v from fun j v hj => by
    match j, hj with
    | 0, hj =>
      injection hj with hj
      rw [← hj]
      exact (HB.out.cell (World.block_lt_of_cell? _ _ ha)).trans ha)
  have hcs0 : cs.toList.length = cs.size := by simp
  go_wp2_with (refine wpList_copy_splice rfl (.tmp 58) (.tmp 59) 22 22 rfl 5 Try.underlying22 (by kernel_rfl) (some ⟨w.heap.size, 0, none⟩) (some a) n n 1 c rfl rfl w.heap.size 0 cs.toList 5 HG.out [Value.int .u8 46] (Nat.min_eq_left h1).symm (fun _ => ⟨rfl, a, rfl, HC.out⟩) (by rw [hcs0]; show 0 + 1 ≤ cs.size; omega) (by simp [Value.oneCell']) w.heap.size w HB.out (Nat.le_refl _) ?_; intro w2 hg2 hb2)
  clear hcall HG HC
  obtain ⟨g, hg⟩ : ∃ g, w.heap.size = g := ⟨_, rfl⟩
  have HG2 := Lib.hid hg2.out
  have HCU : Hid ((splice cs.toList 0 [Value.int .u8 46]).length = cs.size ∧ ∀ j, j < 1 → (splice cs.toList 0 [Value.int .u8 46])[j]? = some (Value.int .u8 46)) := Lib.hid ⟨by rw [length_splice _ _ _ (by rw [hcs0]; show 0 + 1 ≤ cs.size; omega), hcs0], fun j hj => by rw [show j = 0 by omega]; rfl⟩
  have HB2 := Lib.hid hb2
  have HGE := Lib.hid hg
  rw [hg] at HG2
  clear hg2 hb2 HB
  try simp only [hg]
  clear hg
  go_loopw [10] (fun q wr => ∃ (k : Nat) (cur : List Value), 1 ≤ k ∧ k ≤ n ∧ q = .int .i64 k ∧ Hid (wr.heap[g]? = some (.cells cur.toArray 5 (0, 0))) ∧ Hid (cur.length = cs.size ∧ ∀ j, j < k → cur[j]? = some (Value.int .u8 46)) ∧ Below g w wr) (fun q _ => n - (intOf q).toNat)
  case atStart => exact ⟨1, _, Nat.le_refl _, h1, rfl, HG2, HCU, by rw [← HGE.out]; exact HB2.out⟩
  case round =>
    clear HG2 HCU HB2
    obtain ⟨k, cur, hk1, hkn, rfl, hgc, hcu, hb⟩ := hrel
    by_cases hlt : (k : Int) < (n : Int)
    · have hk0 : (0 : Int) ≤ (k : Int) := by omega
      have hkne : ¬ n = k := by omega
      have HB := Lib.hid hb
      clear hb
      obtain ⟨m, hm⟩ : ∃ m, Nat.min k (n - k) = m := ⟨_, rfl⟩
      have hmk : m ≤ k := by rw [← hm]; exact Nat.min_le_left _ _
      have hmn : m ≤ n - k := by rw [← hm]; exact Nat.min_le_right _ _
      have hm1 : 1 ≤ m := by rw [← hm]; exact Nat.le_min.2 ⟨hk1, by omega⟩
      have HM := Lib.hid hm
      have HGC := Lib.hid hgc.out
      have hi2 : (k : Int) ≤ (n : Int) := by omega
      clear hm hgc
      go_wp2_with fail
      refine region_inv (by kernel_rfl) (by kernel_rfl) (fun Fl9 ac W => ∃ (x67 x68 x69 x70 x71 x72 x73 x74 x75 x10 : Value), ac = { tmps := #[Value.slice (some a) 1 c, Value.int IntKind.i64 (n : Int), undef, undef, Value.slice none 0 0, Value.int IntKind.u64 0, Value.int IntKind.u64 (n : Int), Value.int IntKind.i64 (n : Int), Value.int IntKind.i64 (n : Int), Value.slice (some ⟨g, 0, none⟩) n n, x10, Value.int IntKind.i64 (k : Int), Value.int IntKind.i64 (n : Int), Value.bool false, undef, Value.int IntKind.i64 (n : Int), Value.bool (decide ((n : Int) < 0)), undef, Value.tuple #[Value.int IntKind.u64 0, Value.int IntKind.u64 (n : Int)], Value.slice (some a) 1 c, Value.int IntKind.i64 1, Value.int IntKind.u64 1, Value.int IntKind.i64 (n : Int), Value.int IntKind.u64 (n : Int), Value.tuple #[Value.int IntKind.u64 0, Value.int IntKind.u64 (n : Int)], Value.int IntKind.u64 0, Value.int IntKind.u64 (n : Int), Value.int IntKind.u64 0, Value.bool false, Value.bool false, Value.int IntKind.u64 (n : Int), Value.bool (decide (9223372036854775807 < (n : Int))), Value.bool (decide (9223372036854775807 < (n : Int))), undef, Value.int IntKind.u64 (n : Int), Value.int IntKind.i64 (n : Int), Value.slice (some a) 1 c, Value.int IntKind.i64 1, Value.bool false, undef, Value.int IntKind.i64 (n : Int), Value.int IntKind.i64 (n : Int), Value.bool (decide (8192 < (n : Int))), undef, undef, undef, undef, undef, undef, undef, undef, undef, undef, Value.int IntKind.i64 (n : Int), Value.slice (some ⟨g, 0, none⟩) n cs.size, Value.int IntKind.i64 (n : Int), Value.int IntKind.i64 (n : Int), Value.slice (some ⟨g, 0, none⟩) n n, Value.slice (some ⟨g, 0, none⟩) n n, Value.slice (some a) 1 c, Value.int IntKind.i64 1, Value.int IntKind.i64 (k : Int), Value.int IntKind.i64 (n : Int), Value.bool true, Value.int IntKind.i64 (k : Int), Value.int IntKind.i64 (n : Int), Value.int IntKind.i64 (k : Int), x67, x68, x69, x70, x71, x72, x73, x74, x75, undef], defers := [] } ∧ Below g wr W ∧
            (Fl9 0 = true → x67 = .int .i64 (k : Int)) ∧
            (Fl9 1 = true → x68 = .slice (some ⟨g, 0, none⟩) n n) ∧
            (Fl9 2 = true → x69 = .int .i64 (k : Int)) ∧
            (Fl9 3 = true → x70 = .slice (some ⟨g, k, none⟩) (n - k) (n - k)) ∧
            (Fl9 4 = true → x71 = .slice (some ⟨g, 0, none⟩) n n) ∧
            (Fl9 5 = true → x72 = .int .i64 (k : Int)) ∧
            (Fl9 6 = true → x73 = .slice (some ⟨g, 0, none⟩) k n) ∧
            (Fl9 7 = true → x74 = .int .i64 (m : Int) ∧ W.heap[g]? = some (.cells (splice cur k (List.replicate m (Value.int .u8 46))).toArray 5 (0, 0))) ∧
            (Fl9 8 = true → x75 = .int .i64 ((k : Int) + (m : Int))) ∧
            (Fl9 9 = true → x10 = .int .i64 ((k : Int) + (m : Int))) ∧
            (Fl9 9 = true → Fl9 0 = true ∧ Fl9 2 = true) ∧
            (Fl9 9 = false → x10 = .int .i64 (k : Int)) ∧
            (Fl9 7 = false → W.heap[g]? = some (.cells cur.toArray 5 (0, 0)))) ?_ ?_ ?_
      · exact ⟨_, _, _, _, _, _, _, _, _, _, rfl, (Drawn.one wr 1).below _, (fun q0 => nomatch q0), (fun q0 => nomatch q0), (fun q0 => nomatch q0), (fun q0 => nomatch q0), (fun q0 => nomatch q0), (fun q0 => nomatch q0), (fun q0 => nomatch q0), (fun q0 => nomatch q0), (fun q0 => nomatch q0), (fun q0 => nomatch q0), (fun q0 => nomatch q0), (fun _ => rfl), (fun _ => HGC.out)⟩
      · intro Fl9 ac W i9 o9 hJ ho hL hdep K9 hK
        obtain ⟨x67, x68, x69, x70, x71, x72, x73, x74, x75, x10, rfl, hB, hh0, hh1, hh2, hh3, hh4, hh5, hh6, hh7, hh8, hh9, hx0, hx1, hx2⟩ := hJ
        have hi9 : i9 < 10 := by simpa using (Array.getElem?_eq_some_iff.1 ho).1
        obtain rfl | rfl | rfl | rfl | rfl | rfl | rfl | rfl | rfl | rfl : i9 = 0 ∨ i9 = 1 ∨ i9 = 2 ∨ i9 = 3 ∨ i9 = 4 ∨ i9 = 5 ∨ i9 = 6 ∨ i9 = 7 ∨ i9 = 8 ∨ i9 = 9 := by omega
        · -- operation 0
          cases ho
          have hx9 : Fl9 9 = false := by
            cases hc9 : Fl9 9 with
            | false => rfl
            | true => exact absurd (hx0 hc9).1 (by rw [hL]; simp)
          obtain rfl := hx1 hx9
          go_simp
          exact hK _ _ ⟨_, _, _, _, _, _, _, _, _, _, rfl, hB, fun _ => rfl, hh1, hh2, hh3, hh4, hh5, hh6, hh7, hh8, hh9, fun q0 => ⟨rfl, (hx0 q0).2⟩, hx1, hx2⟩
        · -- operation 1
          cases ho
          go_simp
          exact hK _ _ ⟨_, _, _, _, _, _, _, _, _, _, rfl, hB, hh0, fun _ => rfl, hh2, hh3, hh4, hh5, hh6, hh7, hh8, hh9, hx0, hx1, hx2⟩
        · -- operation 2
          cases ho
          have hx9 : Fl9 9 = false := by
            cases hc9 : Fl9 9 with
            | false => rfl
            | true => exact absurd (hx0 hc9).2 (by rw [hL]; simp)
          obtain rfl := hx1 hx9
          go_simp
          exact hK _ _ ⟨_, _, _, _, _, _, _, _, _, _, rfl, hB, hh0, hh1, fun _ => rfl, hh3, hh4, hh5, hh6, hh7, hh8, hh9, fun q0 => ⟨(hx0 q0).1, rfl⟩, hx1, hx2⟩
        · -- operation 3
          cases ho
          obtain rfl := hh1 (hdep ⟨1, .data⟩ (by simp) rfl)
          obtain rfl := hh2 (hdep ⟨2, .data⟩ (by simp) rfl)
          go_simp
          exact hK _ _ ⟨_, _, _, _, _, _, _, _, _, _, rfl, hB, hh0, hh1, hh2, fun _ => rfl, hh4, hh5, hh6, hh7, hh8, hh9, hx0, hx1, hx2⟩
        · -- operation 4
          cases ho
          go_simp
          exact hK _ _ ⟨_, _, _, _, _, _, _, _, _, _, rfl, hB, hh0, hh1, hh2, hh3, fun _ => rfl, hh5, hh6, hh7, hh8, hh9, hx0, hx1, hx2⟩
        · -- operation 5
          cases ho
          go_simp
          exact hK _ _ ⟨_, _, _, _, _, _, _, _, _, _, rfl, hB, hh0, hh1, hh2, hh3, hh4, fun _ => rfl, hh6, hh7, hh8, hh9, hx0, hx1, hx2⟩
        · -- operation 6
          cases ho
          obtain rfl := hh4 (hdep ⟨4, .data⟩ (by simp) rfl)
          obtain rfl := hh5 (hdep ⟨5, .data⟩ (by simp) rfl)
          go_simp
          exact hK _ _ ⟨_, _, _, _, _, _, _, _, _, _, rfl, hB, hh0, hh1, hh2, hh3, hh4, hh5, fun _ => rfl, hh7, hh8, hh9, hx0, hx1, hx2⟩
        · -- operation 7
          cases ho
          obtain rfl := hh3 (hdep ⟨3, .data⟩ (by simp) rfl)
          obtain rfl := hh6 (hdep ⟨6, .data⟩ (by simp) rfl)
          have hgw := hx2 hL
          refine step_copy_splice rfl (.tmp 70) (.tmp 73) 22 22 rfl 5 Try.underlying22 (by kernel_rfl) (some ⟨g, k, none⟩) (some ⟨g, 0, none⟩) (n - k) (n - k) k n rfl rfl g k cur 5 hgw (List.replicate m (Value.int .u8 46)) (by rw [List.length_replicate]; exact HM.out.symm) (fun _ => ⟨rfl, _, rfl, fun j v hj => ?_⟩) (by rw [List.length_replicate, hcu.out.1]; omega) (fun v hv => by rw [(List.mem_replicate.1 hv).2]; rfl) g wr hB (Nat.le_refl _) ?_
          · have hjm : j < m := by have := (List.getElem?_eq_some_iff.1 hj).1; simpa using this
            rw [List.getElem?_replicate, if_pos hjm] at hj
            rw [show (⟨g, 0, none⟩ : Addr).add j = ⟨g, j, none⟩ from (by unfold Addr.add; split <;> simp_all)]
            exact (cell_of_row W g j _ _ _ hgw).trans (by rw [List.getElem?_toArray, hcu.out.2 j (by omega)]; exact hj)
          · intro w9 hg9 hb9
            rw [show goInt (List.replicate m (Value.int .u8 46)).length = .int .i64 (m : Int) from (by rw [List.length_replicate]; rfl)]
            exact hK _ _ ⟨_, _, _, _, _, _, _, _, _, _, rfl, hb9, hh0, hh1, hh2, hh3, hh4, hh5, hh6, fun _ => ⟨rfl, hg9.out⟩, hh8, hh9, hx0, hx1, (fun q0 => nomatch q0)⟩
        · -- operation 8
          cases ho
          obtain rfl := hh0 (hdep ⟨0, .data⟩ (by simp) rfl)
          have hd7 := hdep ⟨7, .data⟩ (by simp) rfl
          obtain ⟨rfl, hg7⟩ := hh7 hd7
          go_simp
          try rw [show IntKind.i64.wrap ((k : Int) + (m : Int)) = (k : Int) + (m : Int) from (by rw [IntKind.wrap_i64]; omega)]
          exact hK _ _ ⟨_, _, _, _, _, _, _, _, _, _, rfl, hB, hh0, hh1, hh2, hh3, hh4, hh5, hh6, hh7, fun _ => rfl, hh9, hx0, hx1, hx2⟩
        · -- operation 9
          cases ho
          obtain rfl := hh8 (hdep ⟨8, .data⟩ (by simp) rfl)
          clear hx1
          go_simp
          exact hK _ _ ⟨_, _, _, _, _, _, _, _, _, _, rfl, hB, hh0, hh1, hh2, hh3, hh4, hh5, hh6, hh7, hh8, fun _ => rfl, fun _ => ⟨hdep ⟨0, .phase⟩ (by simp) rfl, hdep ⟨2, .phase⟩ (by simp) rfl⟩, (fun q0 => nomatch q0), hx2⟩
      intro Fl9 ac W hJ hall
      obtain ⟨x67, x68, x69, x70, x71, x72, x73, x74, x75, x10, rfl, hB, hh0, hh1, hh2, hh3, hh4, hh5, hh6, hh7, hh8, hh9, -, -, -⟩ := hJ
      obtain rfl := hh0 (hall 0 (by decide))
      obtain rfl := hh1 (hall 1 (by decide))
      obtain rfl := hh2 (hall 2 (by decide))
      obtain rfl := hh3 (hall 3 (by decide))
      obtain rfl := hh4 (hall 4 (by decide))
      obtain rfl := hh5 (hall 5 (by decide))
      obtain rfl := hh6 (hall 6 (by decide))
      obtain rfl := hh8 (hall 8 (by decide))
      obtain rfl := hh9 (hall 9 (by decide))
      obtain ⟨rfl, hg7⟩ := hh7 (hall 7 (by decide))
      clear hall
      have HB9 := Lib.hid (HB.out.trans hB)
      have HG9 := Lib.hid hg7
      have HC9 : Hid ((splice cur k (List.replicate m (Value.int .u8 46))).length = cs.size ∧ ∀ j, j < k + m → (splice cur k (List.replicate m (Value.int .u8 46)))[j]? = some (Value.int .u8 46)) := Lib.hid ⟨by rw [length_splice _ _ _ (by rw [List.length_replicate, hcu.out.1]; omega), hcu.out.1], fun j hj => by
        unfold splice
        have htl : (cur.take k).length = k := by rw [List.length_take, hcu.out.1]; omega
        by_cases hjk : j < k
        · rw [List.getElem?_append_left (by omega), List.getElem?_take, if_pos hjk]
          exact hcu.out.2 j hjk
        · rw [List.getElem?_append_right (by omega), htl, List.getElem?_append_left (by rw [List.length_replicate]; omega), List.getElem?_replicate, if_pos (by omega)]⟩
      clear hB hg7 HB HGC hcu
      go_wp2_with fail
      go_roundw
      case rel => exact ⟨k + m, _, by omega, by omega, by go_num, HG9, HC9, HB9.out⟩
      case measure => simp [intOf]; omega
    · obtain rfl : k = n := by omega
      have HR : Hid (ByteRow wr g (List.replicate k 46)) := Lib.hid ⟨cur, hgc.out, by rw [List.length_replicate, hcu.out.1]; exact hle, fun j b hj => by
        have hjk : j < k := by have := (List.getElem?_eq_some_iff.1 hj).1; simpa using this
        rw [List.getElem?_replicate, if_pos hjk] at hj
        injection hj with hj
        rw [hcu.out.2 j hjk, ← hj]
        rfl⟩
      have hgs := HGE.out
      clear hgc hcu
      go_wp2_with fail
      go_ret
      exact ⟨g, rfl, by first | exact Nat.le_refl _ | (rw [hgs]; exact Nat.le_refl _), HR.out, by first | exact hb | (rw [hgs]; exact hb)⟩
end Go.Proofs.Ytdleidlmjliapaa
