/- Chapter 11: all the water, the share that is saved: the model and the program. -/
import Derived.Test.YtgnopkemcgbedaaPoI
namespace Go.Proofs.Ytgnopkemcgbedaa
open Go.RowKit Go.PlainAid Go.Sort
set_option linter.unusedVariables false
set_option linter.unusedSimpArgs false

set_option maxRecDepth 100000 in
set_option maxHeartbeats 2000000 in
theorem allI_any {w : World} {B : Nat} {A : Option Addr} {n : Nat} {vs : List TPool} (c : Nat) (h : IsPools w B A n vs) (hm : n ≤ 1048576) (z : Int) (x : Bool) (hA : AllA vs z x) :
    Calls Try.prog 22 #[.slice A n c] w fun e w' => e = .returned (.tuple #[.int .i64 z, .bool x]) ∧ Below w.heap.size w w' := by
  have C := Lib.hid (arePools_any c h (Nat.le_trans hm (by unfold maxLen; omega)))
  have HI := Lib.hid h
  have HNO := Lib.hid hA.2
  have HYES := Lib.hid hA.1
  obtain ⟨G, hG⟩ : ∃ G, gPs vs = G := ⟨_, rfl⟩
  rw [hG] at HNO HYES C
  have HGE := Lib.hid hG
  clear h hA hG
  go_enter Try.func22, Try.ntmps22
  go_wp2_with fail
  refine C.out.mono ?_
  rintro e w1 ⟨rfl, hb⟩
  have HB1 := Lib.hid hb
  clear hb C
  cases G with
  | false =>
    obtain ⟨rfl, rfl⟩ := HNO.out rfl
    clear HNO HYES HGE
    go_wp2_with fail
    refine bodyPost_ret (results_tmp2 rfl _ _ _) rfl ?_
    exact ⟨rfl, HB1.out⟩
  | true =>
  obtain ⟨hz, rfl⟩ := HYES.out rfl
  have hgood := (gPs_iff vs).1 HGE.out
  have hn6 : n ≤ 5 := by rw [← HI.out.len]; exact hgood.1.2
  rw [HI.out.len] at hz
  have HZ := Lib.hid hz
  have HBD := Lib.hid (fun k (hk : k ≤ n) => totP_bd hgood k (by rw [HI.out.len]; exact hk))
  have HGK := Lib.hid (fun k (hk : k < n) => hgood.2 k (by rw [HI.out.len]; exact hk))
  clear HNO HYES HGE hz hgood
  go_wp2_with fail
  go_loopw [4, 12] (fun s i wr => ∃ k : Nat, k ≤ n ∧ i = .int .i64 k ∧ s = .int .i64 (totP vs k) ∧ Below w.heap.size w wr) (fun _ i _ => n - (intOf i).toNat)
  case atStart => exact ⟨0, Nat.zero_le _, rfl, rfl, HB1.out⟩
  case round =>
    clear HB1
    obtain ⟨k, hk, rfl, rfl, hb⟩ := hrel
    by_cases hlt : k < n
    · obtain ⟨a1, rfl, hab, HV⟩ := (HI.out.below hb HI.out.low).has.Pool (k := k) (by rw [HI.out.len]; exact hlt)
      have hbd := HBD.out k hk
      obtain ⟨⟨g1, g2⟩, g3, g4⟩ := HGK.out k hlt
      have HST : Hid (totP vs (k + 1) = totP vs k + (vs.getD k noPool).x2) := Lib.hid rfl
      generalize vs.getD k noPool = V at HV HST g1 g2 g3 g4
      obtain ⟨d, l, b⟩ := V
      obtain ⟨e0, e1, e2⟩ := HV
      dsimp only at e0 e1 e2 HST g1 g2 g3 g4
      generalize totP vs k = t at HST hbd ⊢
      have HB := Lib.hid hb
      have hk0 : (0 : Int) ≤ (k : Int) := by omega
      have hk1 : (k : Int) < (n : Int) := by omega
      clear hb HBD HGK
      go_wp2_with fail
      go_roundw
      case rel => exact ⟨k + 1, by omega, by go_num, by rw [HST.out], HB.out.alloc HB.out.size _⟩
      case measure => simp [intOf]; omega
    · obtain rfl : k = n := by omega
      obtain rfl := HZ.out
      clear HBD HGK HZ
      go_wp2_with fail
      refine bodyPost_ret (results_tmp2 rfl _ _ _) rfl ?_
      exact ⟨rfl, hb⟩
set_option maxRecDepth 100000 in
set_option maxHeartbeats 2000000 in
theorem allS_any {w : World} {B : Nat} {A : Option Addr} {n : Nat} {vs : List TPool} (c : Nat) (h : IsPools w B A n vs) (hm : n ≤ 1048576) (z : Int) (x : Bool) (hA : AllA vs z x) :
    Calls Try.prog 31 #[.slice A n c] w fun e w' => e = .returned (.tuple #[.int .i64 z, .bool x]) ∧ Below w.heap.size w w' := by
  have C := Lib.hid (l11List_any c h (Nat.le_trans hm (by unfold maxLen; omega)))
  have HI := Lib.hid h
  have HNO := Lib.hid hA.2
  have HYES := Lib.hid hA.1
  obtain ⟨G, hG⟩ : ∃ G, gPs vs = G := ⟨_, rfl⟩
  rw [hG] at HNO HYES C
  have HGE := Lib.hid hG
  clear h hA hG
  go_enter Try.func31, Try.ntmps31
  go_wp2_with fail
  refine C.out.mono ?_
  rintro e w1 ⟨rfl, hb⟩
  have HB1 := Lib.hid hb
  clear hb C
  cases G with
  | false =>
    obtain ⟨rfl, rfl⟩ := HNO.out rfl
    clear HNO HYES HGE
    go_wp2_with fail
    refine bodyPost_ret (results_tmp2 rfl _ _ _) rfl ?_
    exact ⟨rfl, HB1.out⟩
  | true =>
  obtain ⟨hz, rfl⟩ := HYES.out rfl
  have hgood := (gPs_iff vs).1 HGE.out
  have hn6 : n ≤ 5 := by rw [← HI.out.len]; exact hgood.1.2
  rw [HI.out.len] at hz
  have HZ := Lib.hid hz
  have HBD := Lib.hid (fun k (hk : k ≤ n) => totP_bd hgood k (by rw [HI.out.len]; exact hk))
  have HGK := Lib.hid (fun k (hk : k < n) => hgood.2 k (by rw [HI.out.len]; exact hk))
  clear HNO HYES HGE hz hgood
  go_wp2_with fail
  go_loopw [4, 5] (fun s i wr => ∃ k : Nat, k ≤ n ∧ i = .int .i64 k ∧ s = .int .i64 (totP vs k) ∧ Below w.heap.size w wr) (fun _ i _ => n - (intOf i).toNat)
  case atStart => exact ⟨0, Nat.zero_le _, rfl, rfl, HB1.out⟩
  case round =>
    clear HB1
    obtain ⟨k, hk, rfl, rfl, hb⟩ := hrel
    by_cases hlt : k < n
    · obtain ⟨a1, rfl, hab, HV⟩ := (HI.out.below hb HI.out.low).has.Pool (k := k) (by rw [HI.out.len]; exact hlt)
      have hbd := HBD.out k hk
      obtain ⟨⟨g1, g2⟩, g3, g4⟩ := HGK.out k hlt
      have HST : Hid (totP vs (k + 1) = totP vs k + (vs.getD k noPool).x2) := Lib.hid rfl
      generalize vs.getD k noPool = V at HV HST g1 g2 g3 g4
      obtain ⟨d, l, b⟩ := V
      obtain ⟨e0, e1, e2⟩ := HV
      dsimp only at e0 e1 e2 HST g1 g2 g3 g4
      generalize totP vs k = t at HST hbd ⊢
      have HB := Lib.hid hb
      have hk0 : (0 : Int) ≤ (k : Int) := by omega
      have hk1 : (k : Int) < (n : Int) := by omega
      clear hb HBD HGK
      go_wp2_with fail
      go_roundw
      case rel => exact ⟨k + 1, by omega, by go_num, by rw [HST.out], HB.out⟩
      case measure => simp [intOf]; omega
    · obtain rfl : k = n := by omega
      obtain rfl := HZ.out
      clear HBD HGK HZ
      go_wp2_with fail
      refine bodyPost_ret (results_tmp2 rfl _ _ _) rfl ?_
      exact ⟨rfl, hb⟩

set_option maxRecDepth 100000 in
set_option maxHeartbeats 2000000 in
theorem shareI_any {w : World} {B B2 : Nat} {A2 : Option Addr} {g0 : Nat} {n n2 : Nat} {vs : List TPool} {os : List Int} (c c2 : Nat) (h : IsPools w B (some ⟨g0, 0, none⟩) n vs) (hm : n ≤ 1048576) (h2 : IsIs w B2 A2 n2 os) (hm2 : n2 ≤ 1048576) (hnc : n2 ≤ c2) (p r : Int) (x : Bool) (hA : ShrA vs os p r x) :
    Calls Try.prog 41 #[.slice (some ⟨g0, 0, none⟩) n c, .slice A2 n2 c2] w fun e w' => e = .returned (.tuple #[.int .i64 p, .int .i64 r, .bool x]) ∧ Below w.heap.size w w' := by
  obtain ⟨L, z, y, hR⟩ := runP_ex vs os true
  have C := Lib.hid (drainI_any c c2 h hm h2 hm2 hnc L z y hR L.length rfl)
  have HI := Lib.hid h
  have HNO := Lib.hid hA.2
  have HYES := Lib.hid hA.1
  have HRY := Lib.hid hR.1
  have HRN := Lib.hid hR.2
  clear h h2 hA hR
  go_enter Try.func41, Try.ntmps41
  go_wp2_with fail
  refine C.out.mono ?_
  rintro e w1 ⟨g, cg, rfl, ho, hb⟩
  have HB := Lib.hid hb
  clear C ho
  by_cases hcan : canR vs os true
  · obtain ⟨-, hz, rfl⟩ := HRY.out hcan
    have hl2 := hcan.1.1
    have hzb := hcan.zbd os.length (Nat.le_refl _)
    obtain ⟨a, ea, hab, HV⟩ := (HI.out.below hb HI.out.low).has.Pool (k := 0) (by omega)
    injection ea with ea
    subst ea
    have hn1 : 0 < n := by rw [← HI.out.len]; omega
    have hn1' : (0 : Int) < (n : Int) := by omega
    have hgd := (hcan.1.2 0 (by omega)).2.2
    have hzl : runZ vs os true os.length ≤ 100000 := by
      have h1 := run_zero hcan.2.1 (by omega) os.length (Nat.le_refl _)
      have h3 := ((hcan.2.2.good hcan.1 os.length (Nat.le_refl _)).2 0 (by rw [runL_len]; omega)).2.2
      omega
    obtain ⟨hzb0, -⟩ := hzb
    have HCN := Lib.hid hcan
    have HZ := Lib.hid hz
    generalize vs.getD 0 noPool = U at HV HYES HNO hgd
    obtain ⟨d, f, v⟩ := U
    have e2 : w1.cell? ⟨g0, 2, none⟩ = some (.int .i64 v) := by simpa [addO] using HV.c2
    have e3 : w1.cell? ⟨g0, 0 + 2, none⟩ = some (.int .i64 v) := by simpa using e2
    dsimp only at hgd HYES HNO
    obtain ⟨hv0, hv1⟩ := hgd
    rw [← hz] at hzb0 hzl HYES
    clear HRY HRN hcan hl2 HV hb hab hz
    by_cases hv : v = 0
    · have hvb : (v == 0) = true := by simp [hv]
      obtain ⟨rfl, rfl, rfl⟩ := HNO.out (fun g => g.2 hv)
      clear HNO HYES hv
      go_wp2_with fail
      refine bodyPost_ret (results_tmp3 rfl _ _ _) rfl ?_
      exact ⟨rfl, HB.out⟩
    · have hvb : (v == 0) = false := by simp [hv]
      obtain ⟨hp, hr, rfl⟩ := HYES.out ⟨HCN.out, hv⟩
      have CR := Lib.hid (fun W => red_cast (w := W) hp hr (by omega) (by omega) (fun x y h1 h2 h3 => lowest_any x y h1 h2 h3 W))
      clear hp hr HNO HYES hv
      go_wp2_with fail
      refine (CR.out _).mono ?_
      rintro e w2 ⟨rfl, hb⟩
      have HB2 := Lib.hid (HB.out.trans (hb.mono HB.out.size))
      clear hb CR HB
      go_wp2_with fail
      refine bodyPost_ret (results_tmp3 rfl _ _ _) rfl ?_
      exact ⟨rfl, HB2.out⟩
  · obtain ⟨rfl, rfl, rfl⟩ := HRN.out hcan
    obtain ⟨rfl, rfl, rfl⟩ := HNO.out (fun g => hcan g.1)
    clear HNO HYES HRY HRN hcan hb
    go_wp2_with fail
    refine bodyPost_ret (results_tmp3 rfl _ _ _) rfl ?_
    exact ⟨rfl, HB.out⟩
theorem runTrue_any {w : World} {B B2 : Nat} {A2 : Option Addr} {a : Addr} {n n2 : Nat} {vs : List TPool} {os : List Int} (c c2 : Nat) (h : IsPools w B (some a) n vs) (hm : n ≤ 1048576) (h2 : IsIs w B2 A2 n2 os) (hm2 : n2 ≤ 1048576) (hnc : n2 ≤ c2) (L : List TPool) (z : Int) (x : Bool) (hA : RunPA vs os true L z x) (q : Nat) (hl : L.length = q) :
    Calls Try.prog 73 #[.slice (some a) n c, .slice A2 n2 c2, .bool true] w (GivesP3 w L q z x) := l11Run_any true c c2 h hm h2 hm2 hnc L z x hA q hl
set_option maxRecDepth 100000 in
set_option maxHeartbeats 2000000 in
theorem shareS_any {w : World} {B B2 : Nat} {A2 : Option Addr} {g0 : Nat} {n n2 : Nat} {vs : List TPool} {os : List Int} (c c2 : Nat) (h : IsPools w B (some ⟨g0, 0, none⟩) n vs) (hm : n ≤ 1048576) (h2 : IsIs w B2 A2 n2 os) (hm2 : n2 ≤ 1048576) (hnc : n2 ≤ c2) (p r : Int) (x : Bool) (hA : ShrA vs os p r x) :
    Calls Try.prog 42 #[.slice (some ⟨g0, 0, none⟩) n c, .slice A2 n2 c2] w fun e w' => e = .returned (.tuple #[.int .i64 p, .int .i64 r, .bool x]) ∧ Below w.heap.size w w' := by
  obtain ⟨L, z, y, hR⟩ := runP_ex vs os true
  have C := Lib.hid (runTrue_any c c2 h hm h2 hm2 hnc L z y hR L.length rfl)
  have HI := Lib.hid h
  have HNO := Lib.hid hA.2
  have HYES := Lib.hid hA.1
  have HRY := Lib.hid hR.1
  have HRN := Lib.hid hR.2
  clear h h2 hA hR
  go_enter Try.func42, Try.ntmps42
  go_wp2_with fail
  refine C.out.mono ?_
  rintro e w1 ⟨g, cg, rfl, ho, hb⟩
  have HB := Lib.hid hb
  clear C ho
  by_cases hcan : canR vs os true
  · obtain ⟨-, hz, rfl⟩ := HRY.out hcan
    have hl2 := hcan.1.1
    have hzb := hcan.zbd os.length (Nat.le_refl _)
    obtain ⟨a, ea, hab, HV⟩ := (HI.out.below hb HI.out.low).has.Pool (k := 0) (by omega)
    injection ea with ea
    subst ea
    have hn1 : 0 < n := by rw [← HI.out.len]; omega
    have hn1' : (0 : Int) < (n : Int) := by omega
    have hgd := (hcan.1.2 0 (by omega)).2.2
    have hzl : runZ vs os true os.length ≤ 100000 := by
      have h1 := run_zero hcan.2.1 (by omega) os.length (Nat.le_refl _)
      have h3 := ((hcan.2.2.good hcan.1 os.length (Nat.le_refl _)).2 0 (by rw [runL_len]; omega)).2.2
      omega
    obtain ⟨hzb0, -⟩ := hzb
    have HCN := Lib.hid hcan
    have HZ := Lib.hid hz
    generalize vs.getD 0 noPool = U at HV HYES HNO hgd
    obtain ⟨d, f, v⟩ := U
    have e2 : w1.cell? ⟨g0, 2, none⟩ = some (.int .i64 v) := by simpa [addO] using HV.c2
    have e3 : w1.cell? ⟨g0, 0 + 2, none⟩ = some (.int .i64 v) := by simpa using e2
    dsimp only at hgd HYES HNO
    obtain ⟨hv0, hv1⟩ := hgd
    rw [← hz] at hzb0 hzl HYES
    clear HRY HRN hcan hl2 HV hb hab hz
    by_cases hv : v = 0
    · have hvb : (v == 0) = true := by simp [hv]
      obtain ⟨rfl, rfl, rfl⟩ := HNO.out (fun g => g.2 hv)
      clear HNO HYES hv
      go_wp2_with fail
      refine bodyPost_ret (results_tmp3 rfl _ _ _) rfl ?_
      exact ⟨rfl, HB.out⟩
    · have hvb : (v == 0) = false := by simp [hv]
      obtain ⟨hp, hr, rfl⟩ := HYES.out ⟨HCN.out, hv⟩
      have CR := Lib.hid (fun W => red_cast (w := W) hp hr (by omega) (by omega) (fun x y h1 h2 h3 => reduce_any x y h1 h2 h3 W))
      clear hp hr HNO HYES hv
      go_wp2_with fail
      refine (CR.out _).mono ?_
      rintro e w2 ⟨rfl, hb⟩
      have HB2 := Lib.hid (HB.out.trans (hb.mono HB.out.size))
      clear hb CR HB
      go_wp2_with fail
      refine bodyPost_ret (results_tmp3 rfl _ _ _) rfl ?_
      exact ⟨rfl, HB2.out⟩
  · obtain ⟨rfl, rfl, rfl⟩ := HRN.out hcan
    obtain ⟨rfl, rfl, rfl⟩ := HNO.out (fun g => hcan g.1)
    clear HNO HYES HRY HRN hcan hb
    go_wp2_with fail
    refine bodyPost_ret (results_tmp3 rfl _ _ _) rfl ?_
    exact ⟨rfl, HB.out⟩
end Go.Proofs.Ytgnopkemcgbedaa
