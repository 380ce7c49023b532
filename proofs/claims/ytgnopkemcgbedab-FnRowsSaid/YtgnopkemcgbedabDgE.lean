/- Chapter 7: the extent of a row, and gaps asked for: the model and the program. -/
import Derived.Test.YtgnopkemcgbedabDgD
namespace Go.Proofs.Ytgnopkemcgbedab
open Go.RowKit Go.PlainAid Go.Sort
set_option linter.unusedVariables false
set_option linter.unusedSimpArgs false

set_option maxHeartbeats 2000000 in
theorem extS_any {w : World} {B : Nat} {A : Option Addr} {n : Nat} {vs : List TCargo} (c : Nat) (h : IsCargos w B A n vs) (hm : n ≤ 1048576) (z : Int) (x : Bool) (hA : ExtA vs z x) :
    Calls Try.prog 32 #[.slice A n c] w fun e w' => e = .returned (.tuple #[.int .i64 z, .bool x]) ∧ Below w.heap.size w w' := by
  have C := Lib.hid (l7Good_any c h (Nat.le_trans hm (by unfold maxLen; omega)))
  have HI := Lib.hid h
  have HNO := Lib.hid hA.2
  have HYES := Lib.hid hA.1
  obtain ⟨G, hG⟩ : ∃ G, gCs vs = G := ⟨_, rfl⟩
  rw [hG] at HNO HYES C
  have HGE := Lib.hid hG
  clear h hA hG
  go_enter Try.func32, Try.ntmps32
  go_wp2_with fail
  refine C.out.mono ?_
  rintro e w1 ⟨rfl, hb⟩
  have HB1 := Lib.hid hb
  clear hb C
  cases G with
  | false =>
    obtain ⟨rfl, rfl⟩ := HNO.out rfl
    clear HNO HYES
    go_wp2_with fail
    refine bodyPost_ret (results_tmp2 rfl _ _ _) rfl ?_
    exact ⟨rfl, HB1.out⟩
  | true =>
  obtain ⟨hz, rfl⟩ := HYES.out rfl
  have hgg := (gCs_iff vs).1 HGE.out
  have hn6 : n ≤ 6 := by rw [← HI.out.len]; exact hgg.1
  have CP := Lib.hid (l7Place_any c (HI.out.below HB1.out HI.out.low) hn6 (fun j (hj : j < n) => good_at hgg (k := j) (by rw [HI.out.len]; exact hj)))
  obtain rfl : z = extK vs n := by rw [hz, ext, HI.out.len]
  clear hz
  clear HNO HYES hgg
  go_wp2_with fail
  refine CP.out.mono ?_
  rintro e w2 ⟨v, rfl, hO⟩
  have HO := Lib.hid (hO.base HB1.out).low
  clear hO CP HB1
  go_wp2_with fail
  refine bodyPost_ret (results_tmp2 rfl _ _ _) rfl ?_
  exact ⟨rfl, HO.out⟩
set_option maxHeartbeats 2000000 in
theorem extI_any {w : World} {B : Nat} {A : Option Addr} {n : Nat} {vs : List TCargo} (c : Nat) (h : IsCargos w B A n vs) (hm : n ≤ 1048576) (hnc : n ≤ c) (z : Int) (x : Bool) (hA : ExtA vs z x) :
    Calls Try.prog 30 #[.slice A n c] w fun e w' => e = .returned (.tuple #[.int .i64 z, .bool x]) ∧ Below w.heap.size w w' := by
  obtain ⟨L, y, hP⟩ := placeA_ex vs
  obtain ⟨m, hlm⟩ : ∃ m, L.length = m := ⟨_, rfl⟩
  have C := Lib.hid (placeI_any c h hm hnc L y hP m hlm)
  have HI := Lib.hid h
  have HNO : Hid (gCs vs = false → (z = 0 ∧ x = false) ∧ L = [] ∧ y = false) := Lib.hid (fun e => ⟨hA.2 e, hP.2 e⟩)
  have HYES : Hid (gCs vs = true → (z = ext vs ∧ x = true) ∧ L = plc vs vs.length ∧ y = true) := Lib.hid (fun e => ⟨hA.1 e, hP.1 e⟩)
  have HM := Lib.hid hlm
  obtain ⟨G, hG⟩ : ∃ G, gCs vs = G := ⟨_, rfl⟩
  rw [hG] at HNO HYES
  have HGE := Lib.hid hG
  clear h hA hG hP hlm
  go_enter Try.func30, Try.ntmps30
  go_wp2_with fail
  refine C.out.mono ?_
  rintro e w1 ⟨g, c', rfl, hown, hb⟩
  have HB1 := Lib.hid hb
  have HO := Lib.hid hown
  clear hb C hown
  cases G with
  | false =>
    obtain ⟨⟨rfl, rfl⟩, rfl, rfl⟩ := HNO.out rfl
    obtain rfl : 0 = m := HM.out
    clear HNO HYES
    go_wp2_with fail
    refine bodyPost_ret (results_tmp2 rfl _ _ _) rfl ?_
    exact ⟨rfl, HB1.out⟩
  | true =>
  obtain ⟨⟨hz, rfl⟩, hL, rfl⟩ := HYES.out rfl
  have hgg := (gCs_iff vs).1 HGE.out
  have hn6 : n ≤ 6 := by rw [← HI.out.len]; exact hgg.1
  have HGG := Lib.hid (fun j (hj : j < n) => good_at hgg (k := j) (by rw [HI.out.len]; exact hj))
  rw [HI.out.len] at hL
  obtain rfl : n = m := by rw [← HM.out, hL, plc_len]
  obtain rfl : z = extK vs n := by rw [hz, ext, HI.out.len]
  clear hz
  clear HNO HYES hgg HM HGE
  rcases Nat.eq_zero_or_pos n with h0 | h0
  · subst h0
    go_wp2_with fail
    refine bodyPost_ret (results_tmp2 rfl _ _ _) rfl ?_
    exact ⟨rfl, HB1.out⟩
  · obtain ⟨k, rfl⟩ : ∃ k, n = k + 1 := ⟨n - 1, by omega⟩
    have hc0 := own_cell HO.out (k := k) (by omega)
    have hbo := plc_bd (vs := vs) (k := k + 1) (fun j hj => HGG.out j hj) k (by omega)
    obtain ⟨a1, rfl, hab, HV⟩ := (HI.out.below HB1.out HI.out.low).has.Cargo (k := k) (by rw [HI.out.len]; omega)
    have hgk := (HGG.out k (by omega)).2.1
    have e1 := HV.c1
    have HEX : Hid (extK vs (k + 1) = L.getD k 0 + (vs.getD k noCargo).x1) := Lib.hid (by rw [hL]; rfl)
    rw [← hL] at hbo
    clear HV hL HGG h0
    generalize L.getD k 0 = o at hc0 hbo HEX
    generalize (vs.getD k noCargo).x1 = l at e1 hgk HEX
    have O1 := fun (d : Nat) (os : Array Obj) => cell_regrown hc0 d os
    have E1 := fun (d : Nat) (os : Array Obj) => cell_regrown e1 d os
    have hn1 : (((k + 1 : Nat) : Int) == 0) = false := by simp; omega
    have hk0 : (0 : Int) ≤ (k : Int) := by omega
    have hk1 : (k : Int) < (((k + 1 : Nat) : Int)) := by omega
    have hsub : ((k + 1 : Nat) : Int) - 1 = (k : Int) := by omega
    clear hc0 e1
    go_wp2_with fail
    refine wp_region_quiet_below (by kernel_rfl) (by kernel_rfl) ?_
    repeat (go_big_quiet_step (first | fail))
    refine wpQuiet_nil ?_
    intro _ hw'
    obtain ⟨⟨dq, osq⟩, hw''⟩ := hw'
    subst hw''
    have HBX := Lib.hid (HB1.out.trans ((below_regrown w1 dq osq).mono HB1.out.size))
    clear O1 E1
    go_wp2_with fail
    refine bodyPost_ret (results_tmp2 rfl _ _ _) rfl ?_
    exact ⟨by rw [HEX.out]; rfl, HBX.out⟩
end Go.Proofs.Ytgnopkemcgbedab
