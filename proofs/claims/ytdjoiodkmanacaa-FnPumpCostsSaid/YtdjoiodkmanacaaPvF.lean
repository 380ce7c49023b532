/- Chapter 12: equal tasks (laws.rPumpTasks). -/
import Derived.Test.YtdjoiodkmanacaaPvE
import Derived.Deep.QuietTactic
namespace Go.Proofs.Ytdjoiodkmanacaa
open Go.RowKit Go.PlainAid Go.Sort
set_option linter.unusedVariables false
set_option linter.unusedSimpArgs false

set_option maxHeartbeats 2000000 in
theorem rT_same {w : World} {B B' : Nat} {A A' D D' : Option Addr} {n m : Nat} {zs : List Int} {vs : List TPump} (a b c : Int) (q r q' r' : Nat) (h : IsTs w B A n zs D m vs) (h' : IsTs w B' A' n zs D' m vs) (hm : n ≤ maxLen) (hm2 : m ≤ 1048576) :
    Calls Try.prog 31 #[.agg #[.int .i64 a, .int .i64 b, .int .i64 c, .slice A n q, .slice D m r], .agg #[.int .i64 a, .int .i64 b, .int .i64 c, .slice A' n q', .slice D' m r']] w fun e w' => e = .returned (.bool true) ∧ Below w.heap.size w w' := by
  have CI := Lib.hid (fun (W : World) (hb : Below w.heap.size w W) => rInts_same A A' n q q' _ _ zs W h.ints.len hm (h.upB hb).ints.has (h'.upB hb).ints.has)
  have H1 := Lib.hid (fun (W : World) (hb : Below w.heap.size w W) => (h.upB hb).pumps)
  have H2 := Lib.hid (fun (W : World) (hb : Below w.heap.size w W) => (h'.upB hb).pumps)
  have HL := Lib.hid h.pumps.len
  have haa : (a != a) = false := by simp
  have hbb : (b != b) = false := by simp
  have hcc : (c != c) = false := by simp
  clear h h'
  go_enter Try.func31, Try.ntmps31
  go_wp2_with fail
  obtain ⟨Wa, hWa⟩ : ∃ W, w.alloc (.cells #[.int .i64 a, .int .i64 b, .int .i64 c, .slice A n q, .slice D m r] 27) = W := ⟨_, rfl⟩
  have sa : Wa.heap.size = w.heap.size + 1 := by rw [← hWa]; simp
  have ba : Below w.heap.size w Wa := by rw [← hWa]; exact below1 _ _
  have ya : BoxT Wa w.heap.size a b c A n q D m r := by rw [← hWa]; exact BoxT.new ..
  rw [hWa]
  obtain ⟨Wb, hWb⟩ : ∃ W, Wa.alloc (.cells #[.int .i64 a, .int .i64 b, .int .i64 c, .slice A' n q', .slice D' m r'] 27) = W := ⟨_, rfl⟩
  have bb : Below Wa.heap.size Wa Wb := by rw [← hWb]; exact below1 _ _
  have yb : BoxT Wb (w.heap.size + 1) a b c A' n q' D' m r' := by rw [← hWb, ← sa]; exact BoxT.new ..
  have ya2 := ya.all bb
  rw [hWb]
  have bw : Below w.heap.size w Wb := ba.trans (bb.mono ba.size)
  clear hWa hWb ba bb ya sa
  refine (CI.out Wb bw).mono ?_
  rintro e w1 ⟨rfl, hD⟩
  have hb1 := hD.below Wb.heap.size
  have YC := Lib.hid (ya2.all hb1)
  have YD := Lib.hid (yb.all hb1)
  have HB := Lib.hid (bw.trans (hb1.mono bw.size))
  have x0 := YC.out.c4
  have x1 := YD.out.c4
  clear CI hD hb1 ya2 yb bw
  obtain ⟨b1, hb1⟩ : ∃ x, w.heap.size = x := ⟨_, rfl⟩
  obtain ⟨b2, hb2⟩ : ∃ x, b1 + 1 = x := ⟨_, rfl⟩
  rw [hb1] at YC YD x0 x1
  rw [hb2] at YD x1
  try simp only [hb1, hb2]
  clear hb1 hb2
  go_wp2_with fail
  clear x0 x1
  go_loopw [5] (fun i wr => ∃ k : Nat, k ≤ m ∧ i = .int .i64 k ∧ Hid (Below w1.heap.size w1 wr)) (fun i _ => m - (intOf i).toNat)
  case atStart => exact ⟨0, Nat.zero_le _, rfl, Lib.hid (Below.refl _ _)⟩
  case round =>
    obtain ⟨k, hk, rfl, HW⟩ := hrel
    have XC := Lib.hid (YC.out.all HW.out)
    have XD := Lib.hid (YD.out.all HW.out)
    have x0 := XC.out.c4
    have x1 := XD.out.c4
    by_cases hlt : k < m
    · have hkl : k < vs.length := by rw [HL.out]; exact hlt
      have hbw : Below w.heap.size w wr := HB.out.trans (HW.out.mono HB.out.size)
      obtain ⟨p1, rfl, _, hs1⟩ := ((H1.out wr hbw).has).Pump hkl
      obtain ⟨p2, rfl, _, hs2⟩ := ((H2.out wr hbw).has).Pump hkl
      have e0 := hs1.c0
      have e1 := hs1.c1
      have e2 := hs1.c2
      have g0 := hs2.c0
      have g1 := hs2.c1
      have g2 := hs2.c2
      clear hs1 hs2 hbw
      generalize vs.getD k noPump = V at e0 e1 e2 g0 g1 g2
      obtain ⟨x, y, z⟩ := V
      dsimp only at e0 e1 e2 g0 g1 g2
      have E0 := fun (d : Nat) (os : Array Obj) => cell_regrown e0 d os
      have E1 := fun (d : Nat) (os : Array Obj) => cell_regrown e1 d os
      have E2 := fun (d : Nat) (os : Array Obj) => cell_regrown e2 d os
      have G0 := fun (d : Nat) (os : Array Obj) => cell_regrown g0 d os
      have G1 := fun (d : Nat) (os : Array Obj) => cell_regrown g1 d os
      have G2 := fun (d : Nat) (os : Array Obj) => cell_regrown g2 d os
      have X0 := fun (d : Nat) (os : Array Obj) => cell_regrown x0 d os
      have X1 := fun (d : Nat) (os : Array Obj) => cell_regrown x1 d os
      have hk0 : (0 : Int) ≤ (k : Int) := by omega
      have hk1 : (k : Int) < (m : Int) := by omega
      clear H1 H2 e0 e1 e2 g0 g1 g2 XC XD
      go_wp2_with fail
      clear x0 x1
      refine wp_region_quiet_below (by kernel_rfl) (by kernel_rfl) ?_
      repeat (go_big_quiet_step (first | fail))
      refine wpQuiet_nil ?_
      intro _ hw'
      obtain ⟨⟨dq, osq⟩, hw''⟩ := hw'
      subst hw''
      have HB1 := Lib.hid (HW.out.trans ((below_regrown wr dq osq).mono HW.out.size))
      go_wp2_with fail
      go_roundw
      case rel => exact ⟨k + 1, by omega, by go_num, HB1⟩
      case measure => simp [intOf]; omega
    · obtain rfl : k = m := by omega
      clear H1 H2
      go_wp2_with fail
      go_ret
      exact ⟨rfl, HB.out.trans (HW.out.mono HB.out.size)⟩
end Go.Proofs.Ytdjoiodkmanacaa
