/- The given tests' helpers over slices of integers: equality, size, copy, marks. -/
import Derived.Test.YtdjoiodkmanacaaMem
import Derived.Deep.LoopGhost
import Derived.Lib.QuietBelow
import Derived.Maps.AppendAt
namespace Go.Proofs.Ytdjoiodkmanacaa
open Go.RowKit Go.PlainAid Go.Sort

theorem Try.infoInt' : (Try.prog.info? 3).map (fun i => (i.zero, i.size, i.bytes)) = some (some (.int .i64 0), 1, 8) := by kernel_rfl
theorem grownBelow {w w' : World} (h : Below w.heap.size w w') (row : Option Nat) : w.grownBy w' row := ⟨h.os, h.tape, h.output, h.size, fun k hk _ => h.block k hk⟩

set_option maxHeartbeats 400000 in
/-- Two slices of the same integers are told equal. -/
theorem eqI_same (A1 A2 : Option Addr) (n c1 c2 B1 B2 : Nat) (zs : List Int) (w : World) (hn : zs.length = n) (hm : n ≤ maxLen)
    (h1 : Has w B1 A1 (zs.map (.int .i64))) (h2 : Has w B2 A2 (zs.map (.int .i64))) :
    Calls Try.prog 43 #[.slice A1 n c1, .slice A2 n c2] w fun e w' => e = .returned (.bool true) ∧ Drawn w w' := by
  unfold maxLen at hm
  go_enter Try.func43, Try.ntmps43
  go_wp2
  go_loopw [5] (fun i wr => ∃ k : Nat, k ≤ n ∧ i = .int .i64 k ∧ Drawn w wr) (fun i _ => n - (intOf i).toNat)
  case atStart => exact ⟨0, Nat.zero_le _, rfl, Drawn.refl _⟩
  case round =>
    obtain ⟨k, hk, rfl, hD⟩ := hrel
    by_cases hlt : k < n
    · obtain ⟨a1, rfl, _, e1⟩ := (hD.has h1).intAt (k := k) (by omega)
      obtain ⟨a2, rfl, _, e2⟩ := (hD.has h2).intAt (k := k) (by omega)
      have hne : (zs[k] != zs[k]) = false := by simp
      generalize zs[k] = s at e1 e2 hne
      clear h1 h2 hn
      have hk0 : (0 : Int) ≤ (k : Int) := by omega
      have hk1 : (k : Int) < (n : Int) := by omega
      go_wp2
      go_quiet (fail)
      go_wp2
      go_roundw
      case rel => exact ⟨k + 1, by omega, by go_num, hD.step _⟩
      case measure => simp [intOf]; omega
    · obtain rfl : k = n := by omega
      clear h1 h2 hn
      go_wp2
      go_ret
      exact ⟨rfl, hD⟩

set_option maxHeartbeats 400000 in
theorem szI_ok (A : Option Addr) (n c : Nat) (left : Int) (w : World) (hm : n ≤ maxLen) (hl : left ≤ 1048576) (hfit : (n : Int) ≤ left) :
    Calls Try.prog 73 #[.slice A n c, .int .i64 left] w fun e w' => e = .returned (.int .i64 (left - n)) ∧ w = w' := by
  unfold maxLen at hm
  go_enter Try.func73, Try.ntmps73
  go_wp2
  go_ret
  exact ⟨rfl, rfl⟩
set_option maxHeartbeats 400000 in
theorem szI_no (A : Option Addr) (n c : Nat) (left : Int) (w : World) (hm : n ≤ maxLen) (h0 : 0 ≤ left) (hl : left ≤ 1048576) (hfit : left < (n : Int)) :
    Calls Try.prog 73 #[.slice A n c, .int .i64 left] w fun e w' => e = .returned (.int .i64 (-1)) ∧ w = w' := by
  unfold maxLen at hm
  go_enter Try.func73, Try.ntmps73
  go_wp2
  go_ret
  exact ⟨rfl, rfl⟩

set_option maxHeartbeats 400000 in
/-- The copy of a slice of integers: new memory, the same integers. -/
theorem toI_any (A : Option Addr) (n c B : Nat) (zs : List Int) (w : World) (hn : zs.length = n) (hm : n ≤ 1048576)
    (hB : B ≤ w.heap.size) (h : Has w B A (zs.map (.int .i64))) :
    Calls Try.prog 42 #[.slice A n c] w fun e w' => e = .returned (.slice (some ⟨w.heap.size, 0, none⟩) n n) ∧
      w'.ownsRow w.heap.size 3 1 (.slice (some ⟨w.heap.size, 0, none⟩) n n) n (zs.map (.int .i64)) ∧ Below w.heap.size w w' := by
  obtain ⟨i0, hi, hz0, hz1, hz2⟩ := info_parts Try.infoInt'
  go_enter Try.func42, Try.ntmps42
  go_wp2_with (at_make; refine wpList_make_full _ rfl _ _ 24 rfl w.heap.size 3 i0 (.int .i64 0) 1 Try.underlying24 hi hz0 hz1 _ _ _ _ n rfl rfl rfl rfl ?b2 ?b3 (Nat.le_refl _) ?_)
  case b2 => rw [hz2]; omega
  case b3 => unfold maxLen; omega
  intro w0 hown0 hgrow0
  have hb0 : Below w.heap.size w w0 := (Below.refl _ _).grown hgrow0 (Nat.le_refl _) (fun k h => by cases h)
  clear hgrow0
  go_wp2
  go_loopw [4] (fun i wr => ∃ (k : Nat) (xs : List Value), k ≤ n ∧ i = .int .i64 k ∧ wr.ownsRow w.heap.size 3 1 (.slice (some ⟨w.heap.size, 0, none⟩) n n) n xs ∧ Hid (xs.take k = (zs.map (Value.int .i64)).take k) ∧ Below w.heap.size w wr)
    (fun i _ => n - (intOf i).toNat)
  case atStart => exact ⟨0, _, Nat.zero_le _, rfl, hown0, Lib.hid (by simp), hb0⟩
  case round =>
    obtain ⟨k, xs, hk, rfl, hown, hx, hb⟩ := hrel
    by_cases hlt : k < n
    · obtain ⟨a1, rfl, hb1, e1⟩ := ((h.below (hb.mono hB))).intAt (k := k) (by omega)
      have hu : (zs.map (Value.int .i64))[k]? = some (.int .i64 zs[k]) := by simp [hlt, hn]
      have HU := Lib.hid hu
      clear hu
      generalize zs[k] = s at e1 HU
      have hxl : xs.length = n := by simpa using hown.1
      have hc := hown.cellAt k (by omega)
      have hc' : wr.cell? ⟨w.heap.size, k, none⟩ = some (xs[k]'(by omega)) := by rw [hc]; simp [hxl, hlt]
      have hf := hown.frozenAt k
      have hst := hown.stored k (.int .i64 s)
      have HX : Hid ((xs.set k (.int .i64 s)).take (k + 1) = (zs.map (Value.int .i64)).take (k + 1)) := Lib.hid (take_set_succ _ _ _ _ (by omega) HU.out hx.out)
      generalize xs[k]'(by omega) = old at hc'
      clear hc hxl hx HU hown h hn
      go_wp2
      go_roundw
      case rel => exact ⟨k + 1, _, by omega, by go_num, hst.1, HX, hb.setCell (p := ⟨w.heap.size, k, none⟩) (Nat.le_refl _) _⟩
      case measure => simp [intOf]; omega
    · obtain rfl : k = n := by omega
      have hxl : xs.length = k := by simpa using hown.1
      have hall : xs = zs.map (Value.int .i64) := by
        have := hx.out
        rwa [List.take_of_length_le (by omega), List.take_of_length_le (by simp [hn])] at this
      subst hall
      clear h hn hxl hx
      go_wp2
      go_ret
      exact ⟨rfl, hown, hb⟩

/-- n numbers from m on. -/
def nums (m : Int) (n : Nat) : List Value := (List.range n).map fun (j : Nat) => Value.int .i64 (m + (j : Int))
theorem nums_len (m : Int) (n : Nat) : (nums m n).length = n := by simp [nums]
theorem nums_at (m : Int) (n k : Nat) (h : k < n) : (nums m n)[k]? = some (.int .i64 (m + (k : Int))) := by simp [nums, h]

set_option maxHeartbeats 1000000 in
theorem markI_any (g n c base : Nat) (m : Int) (xs : List Value) (w : World) (hm0 : 0 < m) (hm1 : m + n ≤ 1000000000)
    (hown : w.ownsRow base 3 1 (.slice (some ⟨g, 0, none⟩) n c) n xs) :
    Calls Try.prog 45 #[.slice (some ⟨g, 0, none⟩) n c, .int .i64 m] w fun e w' => e = .returned (.int .i64 (m + n)) ∧
      w'.ownsRow base 3 1 (.slice (some ⟨g, 0, none⟩) n c) n (nums m n) ∧ w.grownBy w' (some g) := by
  go_enter Try.func45, Try.ntmps45
  go_wp2
  go_loopg [1, 5] n (fun gh q i wr => ∃ (k : Nat) (ys : List Value), k + gh = n ∧ i = .int .i64 k ∧ q = .int .i64 (m + k) ∧ wr.ownsRow base 3 1 (.slice (some ⟨g, 0, none⟩) n c) n ys ∧ Hid (ys.take k = (nums m n).take k) ∧ w.grownBy wr (some g))
  case atStart => exact ⟨0, xs, by omega, rfl, by simp, hown, Lib.hid (by simp), World.grownBy.refl _ _⟩
  case round =>
    obtain ⟨k, ys, hkg, rfl, rfl, hown, hx, hg⟩ := hrel
    cases gk with
    | succ gh =>
      have hlt : k < n := by omega
      have hk0 : (0 : Int) ≤ (k : Int) := by omega
      have hk1 : (k : Int) < (n : Int) := by omega
      have hyl : ys.length = n := by simpa using hown.1
      have hc := hown.cellAt k (by omega)
      have hc' : wr.cell? ⟨g, k, none⟩ = some (ys[k]'(by omega)) := by rw [hc]; simp [hyl, hlt]
      have hf := hown.frozenAt k
      have hst := hown.stored k (.int .i64 (m + k))
      have HX : Hid ((ys.set k (.int .i64 (m + k))).take (k + 1) = (nums m n).take (k + 1)) := Lib.hid (take_set_succ _ _ _ _ (by omega) (nums_at m n k hlt) hx.out)
      generalize ys[k]'(by omega) = old at hc'
      clear hc hyl hx hown
      go_wp2
      go_roundg gh
      case rel => exact ⟨k + 1, _, by omega, by go_num, by go_num, hst.1, HX, hg.trans hst.2⟩
      case measure => omega
    | zero =>
      obtain rfl : k = n := by omega
      have hyl : ys.length = k := by simpa using hown.1
      have hall : ys = nums m k := by
        have := hx.out
        rwa [List.take_of_length_le (by omega), List.take_of_length_le (by rw [nums_len]; omega)] at this
      subst hall
      clear hx hyl
      go_wp2
      go_ret
      exact ⟨rfl, hown, hg⟩

set_option maxHeartbeats 1000000 in
theorem heldI_any (A : Option Addr) (n c B : Nat) (m : Int) (w : World) (hm0 : 0 < m) (hm1 : m + n ≤ 1000000000) (h : Has w B A (nums m n)) :
    Calls Try.prog 46 #[.slice A n c, .int .i64 m] w fun e w' => e = .returned (.int .i64 (m + n)) ∧ w = w' := by
  go_enter Try.func46, Try.ntmps46
  go_wp2
  go_loop [1, 5] (fun q i => ∃ k : Nat, k ≤ n ∧ i = .int .i64 k ∧ q = .int .i64 (m + k)) (fun _ i => n - (intOf i).toNat)
  case atStart => exact ⟨0, Nat.zero_le _, rfl, by simp⟩
  case round =>
    obtain ⟨k, hk, rfl, rfl⟩ := hrel
    by_cases hlt : k < n
    · obtain ⟨a1, rfl, _, e1⟩ := h k _ (nums_at m n k hlt)
      have hk0 : (0 : Int) ≤ (k : Int) := by omega
      have hk1 : (k : Int) < (n : Int) := by omega
      clear h
      go_wp2
      go_round
      case rel => exact ⟨k + 1, by omega, by go_num, by go_num⟩
      case measure => simp [intOf]; omega
    · obtain rfl : k = n := by omega
      clear h
      go_wp2
      go_ret
      exact ⟨rfl, rfl⟩
theorem own_form {w : World} {base : Nat} {e : TypeId} {size n : Nat} {v : Value} {xs : List Value} (h : w.ownsRow base e size v n xs) : ∃ A c, v = .slice A n c := by
  rcases h.2 with ⟨rfl, rfl⟩ | ⟨g, cap, cur, rfl, _⟩
  · exact ⟨none, 0, rfl⟩
  · exact ⟨_, _, rfl⟩

set_option maxHeartbeats 1000000 in
theorem markI_row (v : Value) (n base : Nat) (m : Int) (xs : List Value) (w : World) (hm0 : 0 < m) (hm1 : m + n ≤ 1000000000) (hown : w.ownsRow base 3 1 v n xs) :
    Calls Try.prog 45 #[v, .int .i64 m] w fun e w' => e = .returned (.int .i64 (m + n)) ∧ w'.ownsRow base 3 1 v n (nums m n) ∧ w.grownBy w' v.ownBlock := by
  rcases hown.2 with ⟨rfl, rfl⟩ | ⟨g, cap, cur, rfl, _⟩
  · clear hown
    go_enter Try.func45, Try.ntmps45
    go_wp2
    go_loop [1, 5] (fun q i => q = .int .i64 m ∧ i = .int .i64 0) (fun _ _ => 0)
    case atStart => exact ⟨rfl, rfl⟩
    case round =>
      obtain ⟨rfl, rfl⟩ := hrel
      go_wp2
      go_ret
      exact ⟨by simp, ⟨by simp [nums], .inl ⟨rfl, rfl⟩⟩, World.grownBy.refl _ _⟩
  · exact markI_any g n cap base m xs w hm0 hm1 hown
end Go.Proofs.Ytdjoiodkmanacaa
