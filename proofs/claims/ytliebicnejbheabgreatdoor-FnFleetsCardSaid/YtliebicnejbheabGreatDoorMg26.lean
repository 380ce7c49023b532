/- Texts that are joined: Read. -/
import Derived.Test.YtliebicnejbheabGreatDoorMg25
import Derived.Deep.LoopGhost
/- Reading a decimal number: the reference model's function as a contract. -/
namespace Go.Proofs.YtliebicnejbheabGreatDoor
open Go.RowKit Go.PlainAid

set_option maxHeartbeats 600000 in
theorem read_plain1 (s : ByteArray) (R : Ending) (w : World) (hm : s.size ≤ 1048576) (hA : s.size ≤ 1)
    (hyes : rdd (s) → numB (rdv s) = s → R = .returned (.tuple #[.int .i64 (rdv s), .bool true])) (hno : ¬ (rdd (s) ∧ numB (rdv s) = s) → R = .returned (.tuple #[.int .i64 0, .bool false])) :
    Calls Tryz.prog 36 #[.string s] w fun e w' => e = R ∧ Drawn w w' := by
  have HYES := Lib.hid hyes
  have HNO := Lib.hid hno
  clear hyes hno
  have hd1 : ¬ (1 : Int) < (s.size : Int) := by omega
  clear hA

  by_cases hr : 1 ≤ (s).size ∧ (s).size ≤ 6
  case neg =>
    have HL : Hid (((s).size : Int) < 1 ∨ 6 < ((s).size : Int)) := Lib.hid (by omega)
    have HR := Lib.hid (HNO.out (fun h => hr ⟨h.1.1, h.1.2.1⟩))
    clear hr
    go_enter Tryz.func36, Tryz.ntmps36
    go_wp2_with fail
    refine (in_no _ _ _ _ HL.out).mono ?_
    rintro e w1 ⟨rfl, rfl⟩
    go_wp2_with fail
    refine bodyPost_ret (results_tmp2 rfl _ _ _) rfl ?_
    exact ⟨HR.out.symm, Drawn.refl _⟩
  obtain ⟨hr0, hr1⟩ := hr
  go_enter Tryz.func36, Tryz.ntmps36
  go_wp2_with fail
  refine (in_yes _ _ _ _ (by omega) (by omega)).mono ?_
  rintro e w1 ⟨rfl, rfl⟩
  go_wp2_with fail
  go_loopg [5, 6] (s).size (fun g v i wr => ∃ (k : Nat), k + g = (s).size ∧ i = .int .i64 k ∧ v = .int .i64 (pvs (s) k) ∧ Hid (digs (s) k) ∧ w = wr)
  case atStart => exact ⟨0, by omega, rfl, rfl, Lib.hid (fun j hj => absurd hj (by omega)), rfl⟩
  case round =>
    obtain ⟨k, hkg, rfl, rfl, hdg, rfl⟩ := hrel
    have hb := get_bt (s)
    cases gk with
    | succ g =>
      have hlt : k < (s).size := by omega
      obtain ⟨b0, b1⟩ := pvs_6 (s) k hdg.out (by omega)
      have b2 := pvs_bd (s) k hdg.out
      have b3 := pow_le k 5 (by omega)
      have b4 : (10 : Int) ^ 5 = 100000 := by decide
      have b5 : pvs (s) k ≤ 99999 := by omega
      have c0 := bt_nonneg (s) k
      have c1 := bt_le (s) k
      have HP : Hid (pvs (s) (k + 1) = 10 * pvs (s) k + (bt (s) k - 48)) := Lib.hid rfl
      clear b2 b3 b4
      by_cases d0 : bt (s) k < 48
      · have HN : Hid (¬ digs (s) (s).size) := Lib.hid (fun h => by have := h k hlt; omega)
        generalize pvs (s) k = pk at *
        go_wp2
        refine bodyPost_ret (results_tmp2 rfl _ _ _) rfl ?_
        exact ⟨(HNO.out (fun h => HN.out h.1.2.2)).symm, Drawn.refl _⟩
      by_cases d1 : 57 < bt (s) k
      · have HN : Hid (¬ digs (s) (s).size) := Lib.hid (fun h => by have := h k hlt; omega)
        have d2 : decide (57 < bt (s) k) = true := by simp; omega
        generalize pvs (s) k = pk at *
        go_wp2
        refine bodyPost_ret (results_tmp2 rfl _ _ _) rfl ?_
        exact ⟨(HNO.out (fun h => HN.out h.1.2.2)).symm, Drawn.refl _⟩
      have d2 : decide (57 < bt (s) k) = false := by simp; omega
      have hdg' : Hid (digs (s) (k + 1)) := Lib.hid (digs_succ hdg.out (by omega))
      clear hdg
      go_wp2
      go_roundg g
      case rel => exact ⟨k + 1, by omega, by go_num, by rw [HP.out], hdg', rfl⟩
      case measure => omega
    | zero =>
      obtain rfl : k = (s).size := by omega
      obtain ⟨b0, b1⟩ := pvs_6 (s) _ hdg.out (by omega)
      have HR : Hid (rdd (s)) := Lib.hid ⟨by omega, by omega, hdg.out⟩
      have HV : Hid (rdv (s) = pvs (s) (s).size) := Lib.hid rfl
      by_cases he : numB (rdv s) = s
      · have HY := HYES.out HR.out he
        have HE := Lib.hid HY
        have HX := Lib.hid he
        have HNum := Lib.hid (fun (W : World) => num_any (pvs s s.size) W (by omega) (by omega))
        rw [HV.out] at HX HE
        clear he HY
        have hself : (s.toList == s.toList) = true := beq_self_eq_true _
        generalize pvs (s) (s).size = pk at *
        go_wp2_with (go_at_call 51; refine (HNum.out _).mono ?_; rintro e w1 ⟨rfl, hD⟩; rw [HX.out]; refine Hid.out ?_)
        refine Lib.hid ?_
        go_wp2
        refine bodyPost_ret (results_tmp2 rfl _ _ _) rfl ?_
        exact ⟨HE.out.symm, hD⟩
      · have hne := toList_ne he
        have HNum := Lib.hid (fun (W : World) => num_any (pvs s s.size) W (by omega) (by omega))
        have HZ := Lib.hid (HNO.out (fun h => he h.2))
        rw [HV.out] at hne
        clear he
        generalize pvs (s) (s).size = pk at *
        generalize numB (pk) = B at hne HNum
        go_wp2_with (go_at_call 51; refine (HNum.out _).mono ?_; rintro e w1 ⟨rfl, hD⟩)
        refine bodyPost_ret (results_tmp2 rfl _ _ _) rfl ?_
        exact ⟨HZ.out.symm, hD⟩

set_option maxHeartbeats 600000 in
theorem read_plain2 (s : ByteArray) (R : Ending) (w : World) (hm : s.size ≤ 1048576) (hA : 1 < s.size) (hB : bt s 0 ≠ 45)
    (hyes : rdd (s) → numB (rdv s) = s → R = .returned (.tuple #[.int .i64 (rdv s), .bool true])) (hno : ¬ (rdd (s) ∧ numB (rdv s) = s) → R = .returned (.tuple #[.int .i64 0, .bool false])) :
    Calls Tryz.prog 36 #[.string s] w fun e w' => e = R ∧ Drawn w w' := by
  have HYES := Lib.hid hyes
  have HNO := Lib.hid hno
  clear hyes hno
  have hbs := get_bt s
  have hg : (bt s 0 == 45) = false := beq_eq_false_iff_ne.2 hB
  have hd1 : (1 : Int) < (s.size : Int) := by omega
  clear hB

  by_cases hr : 1 ≤ (s).size ∧ (s).size ≤ 6
  case neg =>
    have HL : Hid (((s).size : Int) < 1 ∨ 6 < ((s).size : Int)) := Lib.hid (by omega)
    have HR := Lib.hid (HNO.out (fun h => hr ⟨h.1.1, h.1.2.1⟩))
    clear hr
    go_enter Tryz.func36, Tryz.ntmps36
    go_wp2_with fail
    refine (in_no _ _ _ _ HL.out).mono ?_
    rintro e w1 ⟨rfl, rfl⟩
    go_wp2_with fail
    refine bodyPost_ret (results_tmp2 rfl _ _ _) rfl ?_
    exact ⟨HR.out.symm, Drawn.refl _⟩
  obtain ⟨hr0, hr1⟩ := hr
  go_enter Tryz.func36, Tryz.ntmps36
  go_wp2_with fail
  refine (in_yes _ _ _ _ (by omega) (by omega)).mono ?_
  rintro e w1 ⟨rfl, rfl⟩
  go_wp2_with fail
  go_loopg [5, 6] (s).size (fun g v i wr => ∃ (k : Nat), k + g = (s).size ∧ i = .int .i64 k ∧ v = .int .i64 (pvs (s) k) ∧ Hid (digs (s) k) ∧ w = wr)
  case atStart => exact ⟨0, by omega, rfl, rfl, Lib.hid (fun j hj => absurd hj (by omega)), rfl⟩
  case round =>
    obtain ⟨k, hkg, rfl, rfl, hdg, rfl⟩ := hrel
    have hb := get_bt (s)
    cases gk with
    | succ g =>
      have hlt : k < (s).size := by omega
      obtain ⟨b0, b1⟩ := pvs_6 (s) k hdg.out (by omega)
      have b2 := pvs_bd (s) k hdg.out
      have b3 := pow_le k 5 (by omega)
      have b4 : (10 : Int) ^ 5 = 100000 := by decide
      have b5 : pvs (s) k ≤ 99999 := by omega
      have c0 := bt_nonneg (s) k
      have c1 := bt_le (s) k
      have HP : Hid (pvs (s) (k + 1) = 10 * pvs (s) k + (bt (s) k - 48)) := Lib.hid rfl
      clear b2 b3 b4
      by_cases d0 : bt (s) k < 48
      · have HN : Hid (¬ digs (s) (s).size) := Lib.hid (fun h => by have := h k hlt; omega)
        generalize pvs (s) k = pk at *
        go_wp2
        refine bodyPost_ret (results_tmp2 rfl _ _ _) rfl ?_
        exact ⟨(HNO.out (fun h => HN.out h.1.2.2)).symm, Drawn.refl _⟩
      by_cases d1 : 57 < bt (s) k
      · have HN : Hid (¬ digs (s) (s).size) := Lib.hid (fun h => by have := h k hlt; omega)
        have d2 : decide (57 < bt (s) k) = true := by simp; omega
        generalize pvs (s) k = pk at *
        go_wp2
        refine bodyPost_ret (results_tmp2 rfl _ _ _) rfl ?_
        exact ⟨(HNO.out (fun h => HN.out h.1.2.2)).symm, Drawn.refl _⟩
      have d2 : decide (57 < bt (s) k) = false := by simp; omega
      have hdg' : Hid (digs (s) (k + 1)) := Lib.hid (digs_succ hdg.out (by omega))
      clear hdg
      go_wp2
      go_roundg g
      case rel => exact ⟨k + 1, by omega, by go_num, by rw [HP.out], hdg', rfl⟩
      case measure => omega
    | zero =>
      obtain rfl : k = (s).size := by omega
      obtain ⟨b0, b1⟩ := pvs_6 (s) _ hdg.out (by omega)
      have HR : Hid (rdd (s)) := Lib.hid ⟨by omega, by omega, hdg.out⟩
      have HV : Hid (rdv (s) = pvs (s) (s).size) := Lib.hid rfl
      by_cases he : numB (rdv s) = s
      · have HY := HYES.out HR.out he
        have HE := Lib.hid HY
        have HX := Lib.hid he
        have HNum := Lib.hid (fun (W : World) => num_any (pvs s s.size) W (by omega) (by omega))
        rw [HV.out] at HX HE
        clear he HY
        have hself : (s.toList == s.toList) = true := beq_self_eq_true _
        generalize pvs (s) (s).size = pk at *
        go_wp2_with (go_at_call 51; refine (HNum.out _).mono ?_; rintro e w1 ⟨rfl, hD⟩; rw [HX.out]; refine Hid.out ?_)
        refine Lib.hid ?_
        go_wp2
        refine bodyPost_ret (results_tmp2 rfl _ _ _) rfl ?_
        exact ⟨HE.out.symm, hD⟩
      · have hne := toList_ne he
        have HNum := Lib.hid (fun (W : World) => num_any (pvs s s.size) W (by omega) (by omega))
        have HZ := Lib.hid (HNO.out (fun h => he h.2))
        rw [HV.out] at hne
        clear he
        generalize pvs (s) (s).size = pk at *
        generalize numB (pk) = B at hne HNum
        go_wp2_with (go_at_call 51; refine (HNum.out _).mono ?_; rintro e w1 ⟨rfl, hD⟩)
        refine bodyPost_ret (results_tmp2 rfl _ _ _) rfl ?_
        exact ⟨HZ.out.symm, hD⟩

theorem read_plain (s : ByteArray) (R : Ending) (w : World) (hm : s.size ≤ 1048576) (hA : ¬ (1 < s.size ∧ bt s 0 = 45))
    (hyes : rdd s → numB (rdv s) = s → R = .returned (.tuple #[.int .i64 (rdv s), .bool true])) (hno : ¬ (rdd s ∧ numB (rdv s) = s) → R = .returned (.tuple #[.int .i64 0, .bool false])) :
    Calls Tryz.prog 36 #[.string s] w fun e w' => e = R ∧ Drawn w w' := by
  by_cases h : 1 < s.size
  · exact read_plain2 s R w hm h (fun e => hA ⟨h, e⟩) hyes hno
  · exact read_plain1 s R w hm (by omega) hyes hno

set_option maxHeartbeats 1000000 in
theorem read_minus (s t : ByteArray) (R : Ending) (w : World) (hm : s.size ≤ 1048576) (hA : 1 < s.size) (hB : bt s 0 = 45) (ht : s.extract 1 s.size = t)
    (hyes : rdd (t) → numB (-(rdv t)) = s → R = .returned (.tuple #[.int .i64 (-(rdv t)), .bool true])) (hno : ¬ (rdd (t) ∧ numB (-(rdv t)) = s) → R = .returned (.tuple #[.int .i64 0, .bool false])) :
    Calls Tryz.prog 36 #[.string s] w fun e w' => e = R ∧ Drawn w w' := by
  have HYES := Lib.hid hyes
  have HNO := Lib.hid hno
  clear hyes hno
  have hbs := get_bt s
  have hg : (bt s 0 == 45) = true := beq_iff_eq.2 hB
  have hd1 : (1 : Int) < (s.size : Int) := by omega
  have hz0 : t.size + 1 = s.size := by rw [← ht]; simp [ByteArray.size_extract]; omega
  have hz1 : t.size + 1 ≤ s.size := by omega
  have hz2 : s.size ≤ t.size + 1 := by omega
  have HT := Lib.hid ht
  clear hB ht hz0
  by_cases hr : 1 ≤ (t).size ∧ (t).size ≤ 6
  case neg =>
    have HL : Hid (((s.size - 1 : Nat) : Int) < 1 ∨ 6 < ((s.size - 1 : Nat) : Int)) := Lib.hid (by omega)
    have HR := Lib.hid (HNO.out (fun h => hr ⟨h.1.1, h.1.2.1⟩))
    clear hr
    go_enter Tryz.func36, Tryz.ntmps36
    go_wp2_with fail
    simp only [HT.out]
    refine (in_no _ _ _ _ HL.out).mono ?_
    rintro e w1 ⟨rfl, rfl⟩
    go_wp2_with fail
    refine bodyPost_ret (results_tmp2 rfl _ _ _) rfl ?_
    exact ⟨HR.out.symm, Drawn.refl _⟩
  obtain ⟨hr0, hr1⟩ := hr
  go_enter Tryz.func36, Tryz.ntmps36
  go_wp2_with fail
  simp only [HT.out]
  refine (in_yes _ _ _ _ (by omega) (by omega)).mono ?_
  rintro e w1 ⟨rfl, rfl⟩
  go_wp2_with fail
  go_loopg [5, 6] (t).size (fun g v i wr => ∃ (k : Nat), k + g = (t).size ∧ i = .int .i64 k ∧ v = .int .i64 (pvs (t) k) ∧ Hid (digs (t) k) ∧ w = wr)
  case atStart => exact ⟨0, by omega, rfl, rfl, Lib.hid (fun j hj => absurd hj (by omega)), rfl⟩
  case round =>
    obtain ⟨k, hkg, rfl, rfl, hdg, rfl⟩ := hrel
    have hb := get_bt (t)
    cases gk with
    | succ g =>
      have hlt : k < (t).size := by omega
      obtain ⟨b0, b1⟩ := pvs_6 (t) k hdg.out (by omega)
      have b2 := pvs_bd (t) k hdg.out
      have b3 := pow_le k 5 (by omega)
      have b4 : (10 : Int) ^ 5 = 100000 := by decide
      have b5 : pvs (t) k ≤ 99999 := by omega
      have c0 := bt_nonneg (t) k
      have c1 := bt_le (t) k
      have HP : Hid (pvs (t) (k + 1) = 10 * pvs (t) k + (bt (t) k - 48)) := Lib.hid rfl
      clear b2 b3 b4
      by_cases d0 : bt (t) k < 48
      · have HN : Hid (¬ digs (t) (t).size) := Lib.hid (fun h => by have := h k hlt; omega)
        generalize pvs (t) k = pk at *
        go_wp2
        refine bodyPost_ret (results_tmp2 rfl _ _ _) rfl ?_
        exact ⟨(HNO.out (fun h => HN.out h.1.2.2)).symm, Drawn.refl _⟩
      by_cases d1 : 57 < bt (t) k
      · have HN : Hid (¬ digs (t) (t).size) := Lib.hid (fun h => by have := h k hlt; omega)
        have d2 : decide (57 < bt (t) k) = true := by simp; omega
        generalize pvs (t) k = pk at *
        go_wp2
        refine bodyPost_ret (results_tmp2 rfl _ _ _) rfl ?_
        exact ⟨(HNO.out (fun h => HN.out h.1.2.2)).symm, Drawn.refl _⟩
      have d2 : decide (57 < bt (t) k) = false := by simp; omega
      have hdg' : Hid (digs (t) (k + 1)) := Lib.hid (digs_succ hdg.out (by omega))
      clear hdg
      go_wp2
      go_roundg g
      case rel => exact ⟨k + 1, by omega, by go_num, by rw [HP.out], hdg', rfl⟩
      case measure => omega
    | zero =>
      obtain rfl : k = (t).size := by omega
      obtain ⟨b0, b1⟩ := pvs_6 (t) _ hdg.out (by omega)
      have HR : Hid (rdd (t)) := Lib.hid ⟨by omega, by omega, hdg.out⟩
      have HV : Hid (rdv (t) = pvs (t) (t).size) := Lib.hid rfl
      by_cases he : numB (-(rdv t)) = s
      · have HY := HYES.out HR.out he
        have HE := Lib.hid HY
        have HX := Lib.hid he
        have HNum := Lib.hid (fun (W : World) => num_any (-(pvs t t.size)) W (by omega) (by omega))
        rw [HV.out] at HX HE
        clear he HY
        have hself : (s.toList == s.toList) = true := beq_self_eq_true _
        generalize pvs (t) (t).size = pk at *
        go_wp2_with (go_at_call 51; refine (HNum.out _).mono ?_; rintro e w1 ⟨rfl, hD⟩; rw [HX.out]; refine Hid.out ?_)
        refine Lib.hid ?_
        go_wp2
        refine bodyPost_ret (results_tmp2 rfl _ _ _) rfl ?_
        exact ⟨HE.out.symm, hD⟩
      · have hne := toList_ne he
        have HNum := Lib.hid (fun (W : World) => num_any (-(pvs t t.size)) W (by omega) (by omega))
        have HZ := Lib.hid (HNO.out (fun h => he h.2))
        rw [HV.out] at hne
        clear he
        generalize pvs (t) (t).size = pk at *
        generalize numB (-pk) = B at hne HNum
        go_wp2_with (go_at_call 51; refine (HNum.out _).mono ?_; rintro e w1 ⟨rfl, hD⟩)
        refine bodyPost_ret (results_tmp2 rfl _ _ _) rfl ?_
        exact ⟨HZ.out.symm, hD⟩
end Go.Proofs.YtliebicnejbheabGreatDoor
