/- The given tests' helpers over slices of strings: equality of two slices, the copy, the size. -/
import Derived.Test.YtcbdifmnbolgpaaMem
namespace Go.Proofs.Ytcbdifmnbolgpaa
open Go.RowKit Go.PlainAid

set_option maxHeartbeats 400000 in
/-- Two slices of the same strings are told equal. -/
theorem eqS_same (A1 A2 : Option Addr) (n c1 c2 B1 B2 : Nat) (ss : List ByteArray) (w : World) (hn : ss.length = n) (hm : n ≤ maxLen)
    (h1 : Has w B1 A1 (ss.map .string)) (h2 : Has w B2 A2 (ss.map .string)) :
    Calls Try.prog 18 #[.slice A1 n c1, .slice A2 n c2] w fun e w' => e = .returned (.bool true) ∧ Drawn w w' := by
  unfold maxLen at hm
  go_enter Try.func18, Try.ntmps18
  go_wp2
  go_loopw [5] (fun i wr => ∃ k : Nat, k ≤ n ∧ i = .int .i64 k ∧ Drawn w wr) (fun i _ => n - (intOf i).toNat)
  case atStart => exact ⟨0, Nat.zero_le _, rfl, Drawn.refl _⟩
  case round =>
    obtain ⟨k, hk, rfl, hD⟩ := hrel
    by_cases hlt : k < n
    · obtain ⟨a1, rfl, _, e1⟩ := (hD.has h1).strAt (k := k) (by omega)
      obtain ⟨a2, rfl, _, e2⟩ := (hD.has h2).strAt (k := k) (by omega)
      generalize ss[k] = s at e1 e2
      clear h1 h2 hn
      have hk0 : (0 : Int) ≤ (k : Int) := by omega
      have hk1 : (k : Int) < (n : Int) := by omega
      go_wp2
      go_quiet (fail)
      go_wp2
      go_roundw
      case rel => exact ⟨k + 1, by omega, by go_num, hD.step _⟩
      case measure => simp [intOf]; omega
    · obtain rfl : k = n := by omega
      clear h1 h2 hn
      go_wp2
      go_ret
      exact ⟨rfl, hD⟩

theorem take_set_succ {α : Type} (xs ys : List α) (k : Nat) (u : α) (hk : k < xs.length) (hu : ys[k]? = some u) (h : xs.take k = ys.take k) : (xs.set k u).take (k + 1) = ys.take (k + 1) := by
  have hy : k < ys.length := (List.getElem?_eq_some_iff.1 hu).1
  rw [List.take_succ_eq_append_getElem (by simpa using hk), List.take_succ_eq_append_getElem hy, List.take_set_of_le (Nat.le_refl _), h]
  have := (List.getElem?_eq_some_iff.1 hu).2
  simp [this]

theorem Try.info9' : (Try.prog.info? 9).map (fun i => (i.zero, i.size, i.bytes)) = some (some (.string ByteArray.empty), 1, 16) := by kernel_rfl

set_option maxHeartbeats 400000 in
/-- The copy of a slice of strings: new memory, the same strings. -/
theorem toS_any (A : Option Addr) (n c B : Nat) (ss : List ByteArray) (w : World) (hn : ss.length = n) (hm : n ≤ 1048576)
    (hB : B ≤ w.heap.size) (h : Has w B A (ss.map .string)) :
    Calls Try.prog 22 #[.slice A n c] w fun e w' => e = .returned (.slice (some ⟨w.heap.size, 0, none⟩) n n) ∧
      w'.ownsRow w.heap.size 9 1 (.slice (some ⟨w.heap.size, 0, none⟩) n n) n (ss.map .string) ∧ Below w.heap.size w w' := by
  obtain ⟨i0, hi, hz0, hz1, hz2⟩ := info_parts Try.info9'
  go_enter Try.func22, Try.ntmps22
  go_wp2_with (at_make; refine wpList_make_full _ rfl _ _ 26 rfl w.heap.size 9 i0 (.string ByteArray.empty) 1 Try.underlying26 hi hz0 hz1 _ _ _ _ n rfl rfl rfl rfl ?b2 ?b3 (Nat.le_refl _) ?_)
  case b2 => rw [hz2]; omega
  case b3 => unfold maxLen; omega
  intro w0 hown0 hgrow0
  have hb0 : Below w.heap.size w w0 := (Below.refl _ _).grown hgrow0 (Nat.le_refl _) (fun k h => by cases h)
  clear hgrow0
  go_wp2
  go_loopw [4] (fun i wr => ∃ (k : Nat) (xs : List Value), k ≤ n ∧ i = .int .i64 k ∧ wr.ownsRow w.heap.size 9 1 (.slice (some ⟨w.heap.size, 0, none⟩) n n) n xs ∧ Hid (xs.take k = (ss.map Value.string).take k) ∧ Below w.heap.size w wr)
    (fun i _ => n - (intOf i).toNat)
  case atStart => exact ⟨0, _, Nat.zero_le _, rfl, hown0, Lib.hid (by simp), hb0⟩
  case round =>
    obtain ⟨k, xs, hk, rfl, hown, hx, hb⟩ := hrel
    by_cases hlt : k < n
    · obtain ⟨a1, rfl, hb1, e1⟩ := ((h.below (hb.mono hB))).strAt (k := k) (by omega)
      have hu : (ss.map Value.string)[k]? = some (.string ss[k]) := by simp [hlt, hn]
      have HU := Lib.hid hu
      clear hu
      generalize ss[k] = s at e1 HU
      have hxl : xs.length = n := by simpa using hown.1
      have hc := hown.cellAt k (by omega)
      have hc' : wr.cell? ⟨w.heap.size, k, none⟩ = some (xs[k]'(by omega)) := by rw [hc]; simp [hxl, hlt]
      have hf := hown.frozenAt k
      have hst := hown.stored k (.string s)
      have HX : Hid ((xs.set k (.string s)).take (k + 1) = (ss.map Value.string).take (k + 1)) := Lib.hid (take_set_succ _ _ _ _ (by omega) HU.out hx.out)
      generalize xs[k]'(by omega) = old at hc'
      clear hc hxl hx HU hown h hn
      go_wp2
      go_roundw
      case rel => exact ⟨k + 1, _, by omega, by go_num, hst.1, HX, hb.setCell (p := ⟨w.heap.size, k, none⟩) (Nat.le_refl _) _⟩
      case measure => simp [intOf]; omega
    · obtain rfl : k = n := by omega
      have hxl : xs.length = k := by simpa using hown.1
      have hall : xs = ss.map Value.string := by
        have := hx.out
        rwa [List.take_of_length_le (by omega), List.take_of_length_le (by simp [hn])] at this
      subst hall
      clear h hn hxl hx
      go_wp2
      go_ret
      exact ⟨rfl, hown, hb⟩

def bytesOf (ss : List ByteArray) : Nat := (ss.map ByteArray.size).sum
theorem bytesOf_take (ss : List ByteArray) (k : Nat) (h : k < ss.length) : bytesOf (ss.take (k + 1)) = bytesOf (ss.take k) + ss[k].size := by
  unfold bytesOf
  rw [List.take_succ_eq_append_getElem h, List.map_append, List.sum_append]; simp
theorem bytesOf_le (ss : List ByteArray) (k : Nat) : bytesOf (ss.take k) ≤ bytesOf ss := by
  have h : bytesOf (ss.take k) + bytesOf (ss.drop k) = bytesOf ss := by
    unfold bytesOf
    rw [← List.sum_append, ← List.map_append, List.take_append_drop]
  omega

set_option maxHeartbeats 400000 in
theorem szS_ok (A : Option Addr) (n c B : Nat) (ss : List ByteArray) (left : Int) (w : World) (hn : ss.length = n) (hm : n ≤ maxLen) (hl : left ≤ 1048576)
    (hfit : (n : Int) + (bytesOf ss : Int) ≤ left) (h : Has w B A (ss.map .string)) :
    Calls Try.prog 21 #[.slice A n c, .int .i64 left] w fun e w' => e = .returned (.int .i64 (left - n - bytesOf ss)) ∧ w = w' := by
  unfold maxLen at hm
  go_enter Try.func21, Try.ntmps21
  go_wp2
  go_loop [1, 5] (fun l i => ∃ k : Nat, k ≤ n ∧ i = .int .i64 k ∧ l = .int .i64 (left - n - bytesOf (ss.take k))) (fun _ i => n - (intOf i).toNat)
  case atStart => exact ⟨0, Nat.zero_le _, rfl, by simp [bytesOf]⟩
  case round =>
    obtain ⟨k, hk, rfl, rfl⟩ := hrel
    have g0 := bytesOf_le ss k
    by_cases hlt : k < n
    · obtain ⟨a1, rfl, _, e1⟩ := h.strAt (k := k) (by omega)
      have g1 := bytesOf_le ss (k + 1)
      have HS := Lib.hid (bytesOf_take ss k (by omega))
      have g2 : bytesOf (ss.take k) + ss[k].size ≤ bytesOf ss := by rw [← HS.out]; exact g1
      generalize ss[k] = s at e1 HS g2
      generalize bytesOf (ss.take k) = t at HS g2 g0
      generalize bytesOf ss = u at *
      clear h hn g1
      go_wp2
      go_round
      case rel => exact ⟨k + 1, by omega, by go_num, by rw [HS.out]; go_num⟩
      case measure => simp [intOf]; omega
    · obtain rfl : k = n := by omega
      have HS : Hid (ss.take k = ss) := Lib.hid (by rw [List.take_of_length_le (by omega)])
      clear h hn
      go_wp2
      go_ret
      exact ⟨ret_int (by rw [HS.out]), rfl⟩

set_option maxHeartbeats 400000 in
theorem szS_no (A : Option Addr) (n c B : Nat) (ss : List ByteArray) (left : Int) (w : World) (hn : ss.length = n) (hm : n ≤ maxLen) (h0 : 0 ≤ left) (hl : left ≤ 1048576)
    (hs : ∀ s ∈ ss, s.size ≤ maxLen) (hfit : left < (n : Int) + (bytesOf ss : Int)) (h : Has w B A (ss.map .string)) :
    Calls Try.prog 21 #[.slice A n c, .int .i64 left] w fun e w' => e = .returned (.int .i64 (-1)) ∧ w = w' := by
  unfold maxLen at hm
  by_cases h00 : left < (n : Int)
  · clear h hn hs hfit
    go_enter Try.func21, Try.ntmps21
    go_wp2
    go_ret
    exact ⟨rfl, rfl⟩
  go_enter Try.func21, Try.ntmps21
  go_wp2
  go_loop [1, 5] (fun l i => ∃ k : Nat, k ≤ n ∧ i = .int .i64 k ∧ l = .int .i64 (left - n - bytesOf (ss.take k)) ∧ (bytesOf (ss.take k) : Int) ≤ left - n) (fun _ i => n - (intOf i).toNat)
  case atStart => exact ⟨0, Nat.zero_le _, rfl, by simp [bytesOf], by simp [bytesOf]; omega⟩
  case round =>
    obtain ⟨k, hk, rfl, rfl, hle⟩ := hrel
    by_cases hlt : k < n
    · obtain ⟨a1, rfl, _, e1⟩ := h.strAt (k := k) (by omega)
      have HS := Lib.hid (bytesOf_take ss k (by omega))
      have hsz : ss[k].size ≤ maxLen := hs _ (List.getElem_mem _)
      unfold maxLen at hsz
      by_cases hneg : left - n - bytesOf (ss.take k) < (ss[k].size : Int)
      · generalize ss[k] = s at e1 HS hsz hneg
        generalize bytesOf (ss.take k) = t at HS hle hneg
        generalize bytesOf ss = u at *
        clear h hn hs
        go_wp2
        go_ret
        exact ⟨rfl, rfl⟩
      · generalize ss[k] = s at e1 HS hsz hneg
        generalize bytesOf (ss.take k) = t at HS hle hneg
        generalize bytesOf ss = u at *
        clear h hn hs
        go_wp2
        go_round
        case rel => exact ⟨k + 1, by omega, by go_num, by rw [HS.out]; go_num, by rw [HS.out]; omega⟩
        case measure => simp [intOf]; omega
    · obtain rfl : k = n := by omega
      exfalso
      rw [List.take_of_length_le (by omega)] at hle
      omega
end Go.Proofs.Ytcbdifmnbolgpaa
