/- Chapter 12: levels, costs, starts and the water of a plan: the program. -/
import Derived.Test.YtdjoiodkmanacaaPuE
namespace Go.Proofs.Ytdjoiodkmanacaa
open Go.RowKit Go.PlainAid Go.Sort
set_option linter.unusedVariables false
set_option linter.unusedSimpArgs false

set_option maxRecDepth 100000 in
set_option maxHeartbeats 1000000 in
theorem ones64_any (x : Int) (hx : 0 ≤ x ∧ x ≤ 3) (w : World) : Calls Try.prog 91 #[.int .u64 x] w fun e w' => e = .returned (.int .i64 (popU x)) ∧ w = w' := by
  rcases four_of hx with rfl | rfl | rfl | rfl <;>
  · go_enter Try.func91, Try.ntmps91
    go_wp2
    go_ret
    exact ⟨by kernel_rfl, rfl⟩
set_option maxHeartbeats 1000000 in
theorem ones_any (x : Int) (hx : 0 ≤ x ∧ x ≤ 3) (w : World) : Calls Try.prog 69 #[.int .u64 x] w fun e w' => e = .returned (.int .i64 (popU x)) ∧ w = w' := by
  have C := Lib.hid (fun W => ones64_any x hx W)
  generalize popU x = y at C ⊢
  go_enter Try.func69, Try.ntmps69
  go_wp2_with fail
  refine (C.out _).mono ?_
  rintro e w1 ⟨rfl, rfl⟩
  go_wp2_with fail
  go_ret
  exact ⟨rfl, rfl⟩
set_option maxRecDepth 100000 in
set_option maxHeartbeats 2000000 in
theorem costI_any {w : World} {B : Nat} {A D : Option Addr} {n m : Nat} {zs : List Int} {vs : List TPump} (a b c : Int) (q r : Nat) (h : IsTs w B A n zs D m vs) (hm : n ≤ 1048576) (hm2 : m ≤ 1048576) {BG : Nat} {G : Option Addr} {l : Nat} {xs : List Int} (cx : Nat) (hp : IsIs w BG G l xs) (hl : l ≤ 1048576) (z : Int) (x : Bool) (hA : NumA (costU ⟨a, b, c, zs, vs⟩ xs xs.length) ⟨a, b, c, zs, vs⟩ xs z x) :
    Calls Try.prog 33 #[.agg #[.int .i64 a, .int .i64 b, .int .i64 c, .slice A n q, .slice D m r], .slice G l cx] w fun e w' => e = .returned (.tuple #[.int .i64 z, .bool x]) ∧ Below w.heap.size w w' := by
  obtain ⟨W5, hW5, X5, B5, z5⟩ := box_in w a b c A n q D m r
  have cT0 := X5.c0
  have cT1 := X5.c1
  have cT2 := X5.c2
  have cT3 := X5.c3
  have cT4 := X5.c4
  have HB5 := Lib.hid B5
  have HX5 := Lib.hid X5
  have HT := Lib.hid (h.upB B5)
  have HP := Lib.hid (hp.upB B5)
  have C1 := Lib.hid (planI_any a b c q r (h.upB B5) hm hm2 cx (hp.upB B5) hl)
  have HNO := Lib.hid hA.2
  have HYES := Lib.hid hA.1
  have HG := Lib.hid (gX_iff ⟨a, b, c, zs, vs⟩ xs)
  generalize gX ⟨a, b, c, zs, vs⟩ xs = T at HG C1
  clear h hp X5 B5 z5 hA
  go_enter Try.func33, Try.ntmps33
  go_wp2_with fail
  (try rw [hW5])
  clear hW5
  refine C1.out.mono ?_
  rintro e w1 ⟨rfl, hb⟩
  have HX6 := Lib.hid (HX5.out.all hb)
  have HB6 := Lib.hid (HB5.out.trans (hb.mono HB5.out.size))
  have HT6 := Lib.hid (HT.out.upB hb)
  have HP6 := Lib.hid (HP.out.upB hb)
  clear hb C1 cT0 cT1 cT2 cT3 cT4 HX5 HB5 HT HP
  cases T with
  | false =>
    obtain ⟨rfl, rfl⟩ := HNO.out (fun g => by have := HG.out.2 g; cases this)
    clear HNO HYES HG
    go_wp2_with fail
    refine bodyPost_ret (results_tmp2 rfl _ _ _) rfl ?_
    exact ⟨rfl, HB6.out⟩
  | true =>
    have HGD := Lib.hid (HG.out.1 rfl)
    obtain ⟨hz, rfl⟩ := HYES.out HGD.out
    rw [HP6.out.len] at hz
    have HZ := Lib.hid hz
    have hl5 : l ≤ 5 := by rw [← HP6.out.len, HGD.out.2.1]; exact HGD.out.1.2.1.2
    have hm2x : m ≤ 2 := by rw [← HT6.out.pumps.len]; exact HGD.out.1.2.2.1
    have HIN := Lib.hid (fun j => inX_all HGD.out.2.2 j)
    clear HNO HYES HG hz
    go_wp2_with fail
    go_loopw [6, 14] (fun s i wr => ∃ k : Nat, k ≤ l ∧ i = .int .i64 k ∧ s = .int .i64 (costU ⟨a, b, c, zs, vs⟩ xs k) ∧ BoxT wr w.heap.size a b c A n q D m r ∧ Below w1.heap.size w1 wr) (fun _ i _ => l - (intOf i).toNat)
    case atStart => exact ⟨0, Nat.zero_le _, rfl, rfl, HX6.out, Below.refl _ _⟩
    case round =>
      obtain ⟨k, hk, rfl, rfl, hx, hb⟩ := hrel
      by_cases hlt : k < l
      · have hkn : k < xs.length := by rw [HP6.out.len]; exact hlt
        have hk0 : (0 : Int) ≤ (k : Int) := by omega
        have hk1 : (k : Int) < (l : Int) := by omega
        have HB := Lib.hid hb
        have HX := Lib.hid hx
        have HST : Hid (costU ⟨a, b, c, zs, vs⟩ xs (k + 1) = costU ⟨a, b, c, zs, vs⟩ xs k + hcU ⟨a, b, c, zs, vs⟩ (xs.getD k 0) (prevU xs k)) := Lib.hid (rfl)
        have cT0 := hx.c0
        have cT1 := hx.c1
        have cT2 := hx.c2
        have cT3 := hx.c3
        have cT4 := hx.c4
        have hxk := HIN.out k
        have CC := Lib.hid (costHour_any a b c q r (HT6.out.upB hb) HGD.out.1 cx (HP6.out.upB hb) hl HIN.out k hlt); have hbd := costU_bd HGD.out.1 xs k; have hbe := hcU_bd HGD.out.1 (xs.getD k 0) (prevU xs k)
        obtain ⟨S, hS⟩ : ∃ S, costU ⟨a, b, c, zs, vs⟩ xs k = S := ⟨_, rfl⟩
        obtain ⟨E, hE⟩ : ∃ E, hcU ⟨a, b, c, zs, vs⟩ (xs.getD k 0) (prevU xs k) = E := ⟨_, rfl⟩
        rw [hS] at HST hbd ⊢
        rw [hE] at HST hbe CC
        clear hS hE hb hx
        skip
        go_wp2_with fail
        refine CC.out.mono ?_
        rintro e w3 ⟨rfl, hb⟩
        skip
        have HB3 := Lib.hid (HB.out.trans (hb.mono HB.out.size))
        have HX3 := Lib.hid (HX.out.all hb)
        clear hb HB HX cT0 cT1 cT2 cT3 cT4 CC
        go_wp2_with fail
        go_roundw
        case rel => exact ⟨k + 1, by omega, by go_num, by rw [HST.out], HX3.out, HB3.out⟩
        case measure => simp [intOf]; omega
      · obtain rfl : l = k := by omega
        have hzz := HZ.out
        have HB := Lib.hid (HB6.out.trans (hb.mono HB6.out.size))
        rw [← hzz]
        clear hb hx HIN HGD
        go_wp2_with fail
        refine bodyPost_ret (results_tmp2 rfl _ _ _) rfl ?_
        exact ⟨rfl, HB.out⟩
set_option maxRecDepth 100000 in
set_option maxHeartbeats 2000000 in
theorem waterI_any {w : World} {B : Nat} {A D : Option Addr} {n m : Nat} {zs : List Int} {vs : List TPump} (a b c : Int) (q r : Nat) (h : IsTs w B A n zs D m vs) (hm : n ≤ 1048576) (hm2 : m ≤ 1048576) {BG : Nat} {G : Option Addr} {l : Nat} {xs : List Int} (cx : Nat) (hp : IsIs w BG G l xs) (hl : l ≤ 1048576) (z : Int) (x : Bool) (hA : NumA (waterU ⟨a, b, c, zs, vs⟩ xs xs.length) ⟨a, b, c, zs, vs⟩ xs z x) :
    Calls Try.prog 21 #[.agg #[.int .i64 a, .int .i64 b, .int .i64 c, .slice A n q, .slice D m r], .slice G l cx] w fun e w' => e = .returned (.tuple #[.int .i64 z, .bool x]) ∧ Below w.heap.size w w' := by
  obtain ⟨W5, hW5, X5, B5, z5⟩ := box_in w a b c A n q D m r
  have cT0 := X5.c0
  have cT1 := X5.c1
  have cT2 := X5.c2
  have cT3 := X5.c3
  have cT4 := X5.c4
  have HB5 := Lib.hid B5
  have HX5 := Lib.hid X5
  have HT := Lib.hid (h.upB B5)
  have HP := Lib.hid (hp.upB B5)
  have C1 := Lib.hid (planI_any a b c q r (h.upB B5) hm hm2 cx (hp.upB B5) hl)
  have HNO := Lib.hid hA.2
  have HYES := Lib.hid hA.1
  have HG := Lib.hid (gX_iff ⟨a, b, c, zs, vs⟩ xs)
  generalize gX ⟨a, b, c, zs, vs⟩ xs = T at HG C1
  clear h hp X5 B5 z5 hA
  go_enter Try.func21, Try.ntmps21
  go_wp2_with fail
  (try rw [hW5])
  clear hW5
  refine C1.out.mono ?_
  rintro e w1 ⟨rfl, hb⟩
  have HX6 := Lib.hid (HX5.out.all hb)
  have HB6 := Lib.hid (HB5.out.trans (hb.mono HB5.out.size))
  have HT6 := Lib.hid (HT.out.upB hb)
  have HP6 := Lib.hid (HP.out.upB hb)
  clear hb C1 cT0 cT1 cT2 cT3 cT4 HX5 HB5 HT HP
  cases T with
  | false =>
    obtain ⟨rfl, rfl⟩ := HNO.out (fun g => by have := HG.out.2 g; cases this)
    clear HNO HYES HG
    go_wp2_with fail
    refine bodyPost_ret (results_tmp2 rfl _ _ _) rfl ?_
    exact ⟨rfl, HB6.out⟩
  | true =>
    have HGD := Lib.hid (HG.out.1 rfl)
    obtain ⟨hz, rfl⟩ := HYES.out HGD.out
    rw [HP6.out.len] at hz
    have HZ := Lib.hid hz
    have hl5 : l ≤ 5 := by rw [← HP6.out.len, HGD.out.2.1]; exact HGD.out.1.2.1.2
    have hm2x : m ≤ 2 := by rw [← HT6.out.pumps.len]; exact HGD.out.1.2.2.1
    have HIN := Lib.hid (fun j => inX_all HGD.out.2.2 j)
    clear HNO HYES HG hz
    go_wp2_with fail
    go_loopw [6, 15] (fun s i wr => ∃ k : Nat, k ≤ l ∧ i = .int .i64 k ∧ s = .int .i64 (waterU ⟨a, b, c, zs, vs⟩ xs k) ∧ BoxT wr w.heap.size a b c A n q D m r ∧ Below w1.heap.size w1 wr) (fun _ i _ => l - (intOf i).toNat)
    case atStart => exact ⟨0, Nat.zero_le _, rfl, rfl, HX6.out, Below.refl _ _⟩
    case round =>
      obtain ⟨k, hk, rfl, rfl, hx, hb⟩ := hrel
      by_cases hlt : k < l
      · have hkn : k < xs.length := by rw [HP6.out.len]; exact hlt
        have hk0 : (0 : Int) ≤ (k : Int) := by omega
        have hk1 : (k : Int) < (l : Int) := by omega
        have HB := Lib.hid hb
        have HX := Lib.hid hx
        have HST : Hid (waterU ⟨a, b, c, zs, vs⟩ xs (k + 1) = waterU ⟨a, b, c, zs, vs⟩ xs k + sumU TPump.x0 vs (xs.getD k 0) m) := Lib.hid (by rw [waterU]; unfold outU; dsimp only; rw [HT6.out.pumps.len])
        have cT0 := hx.c0
        have cT1 := hx.c1
        have cT2 := hx.c2
        have cT3 := hx.c3
        have cT4 := hx.c4
        have hxk := HIN.out k
        obtain ⟨aI, rfl, hab, ez⟩ := (HP6.out.upB hb).has.numAt hkn; have CC := Lib.hid (pumped_any a b c A n q r (HT6.out.upB hb).pumps hm2x HGD.out.1.2.2.2.2 (xs.getD k 0) hxk); have hbd := waterU_bd HGD.out.1 xs k; have hbe := sumU_bd HGD.out.1.2.2.2.2 TPump.x0_bdU (xs.getD k 0) m (by show m ≤ vs.length; rw [HT6.out.pumps.len]; exact Nat.le_refl _)
        obtain ⟨S, hS⟩ : ∃ S, waterU ⟨a, b, c, zs, vs⟩ xs k = S := ⟨_, rfl⟩
        obtain ⟨E, hE⟩ : ∃ E, sumU TPump.x0 vs (xs.getD k 0) m = E := ⟨_, rfl⟩
        rw [hS] at HST hbd ⊢
        rw [hE] at HST hbe CC
        clear hS hE hb hx
        clear hkn hxk; generalize xs.getD k 0 = X at ez CC
        go_wp2_with fail
        refine CC.out.mono ?_
        rintro e w3 ⟨rfl, hb⟩
        skip
        have HB3 := Lib.hid (HB.out.trans (hb.mono HB.out.size))
        have HX3 := Lib.hid (HX.out.all hb)
        clear hb HB HX cT0 cT1 cT2 cT3 cT4 CC
        go_wp2_with fail
        go_roundw
        case rel => exact ⟨k + 1, by omega, by go_num, by rw [HST.out], HX3.out, HB3.out⟩
        case measure => simp [intOf]; omega
      · obtain rfl : l = k := by omega
        have hzz := HZ.out
        have HB := Lib.hid (HB6.out.trans (hb.mono HB6.out.size))
        rw [← hzz]
        clear hb hx HIN HGD
        go_wp2_with fail
        refine bodyPost_ret (results_tmp2 rfl _ _ _) rfl ?_
        exact ⟨rfl, HB.out⟩
set_option maxRecDepth 100000 in
set_option maxHeartbeats 2000000 in
theorem startI_any {w : World} {B : Nat} {A D : Option Addr} {n m : Nat} {zs : List Int} {vs : List TPump} (a b c : Int) (q r : Nat) (h : IsTs w B A n zs D m vs) (hm : n ≤ 1048576) (hm2 : m ≤ 1048576) {BG : Nat} {G : Option Addr} {l : Nat} {xs : List Int} (cx : Nat) (hp : IsIs w BG G l xs) (hl : l ≤ 1048576) (z : Int) (x : Bool) (hA : NumA (startU xs xs.length) ⟨a, b, c, zs, vs⟩ xs z x) :
    Calls Try.prog 35 #[.agg #[.int .i64 a, .int .i64 b, .int .i64 c, .slice A n q, .slice D m r], .slice G l cx] w fun e w' => e = .returned (.tuple #[.int .i64 z, .bool x]) ∧ Below w.heap.size w w' := by
  obtain ⟨W5, hW5, X5, B5, z5⟩ := box_in w a b c A n q D m r
  have cT0 := X5.c0
  have cT1 := X5.c1
  have cT2 := X5.c2
  have cT3 := X5.c3
  have cT4 := X5.c4
  have HB5 := Lib.hid B5
  have HX5 := Lib.hid X5
  have HT := Lib.hid (h.upB B5)
  have HP := Lib.hid (hp.upB B5)
  have C1 := Lib.hid (planI_any a b c q r (h.upB B5) hm hm2 cx (hp.upB B5) hl)
  have HNO := Lib.hid hA.2
  have HYES := Lib.hid hA.1
  have HG := Lib.hid (gX_iff ⟨a, b, c, zs, vs⟩ xs)
  generalize gX ⟨a, b, c, zs, vs⟩ xs = T at HG C1
  clear h hp X5 B5 z5 hA
  go_enter Try.func35, Try.ntmps35
  go_wp2_with fail
  (try rw [hW5])
  clear hW5
  refine C1.out.mono ?_
  rintro e w1 ⟨rfl, hb⟩
  have HX6 := Lib.hid (HX5.out.all hb)
  have HB6 := Lib.hid (HB5.out.trans (hb.mono HB5.out.size))
  have HT6 := Lib.hid (HT.out.upB hb)
  have HP6 := Lib.hid (HP.out.upB hb)
  clear hb C1 cT0 cT1 cT2 cT3 cT4 HX5 HB5 HT HP
  cases T with
  | false =>
    obtain ⟨rfl, rfl⟩ := HNO.out (fun g => by have := HG.out.2 g; cases this)
    clear HNO HYES HG
    go_wp2_with fail
    refine bodyPost_ret (results_tmp2 rfl _ _ _) rfl ?_
    exact ⟨rfl, HB6.out⟩
  | true =>
    have HGD := Lib.hid (HG.out.1 rfl)
    obtain ⟨hz, rfl⟩ := HYES.out HGD.out
    rw [HP6.out.len] at hz
    have HZ := Lib.hid hz
    have hl5 : l ≤ 5 := by rw [← HP6.out.len, HGD.out.2.1]; exact HGD.out.1.2.1.2
    have hm2x : m ≤ 2 := by rw [← HT6.out.pumps.len]; exact HGD.out.1.2.2.1
    have HIN := Lib.hid (fun j => inX_all HGD.out.2.2 j)
    clear HNO HYES HG hz
    go_wp2_with fail
    go_loopw [6, 14] (fun s i wr => ∃ k : Nat, k ≤ l ∧ i = .int .i64 k ∧ s = .int .i64 (startU xs k) ∧ BoxT wr w.heap.size a b c A n q D m r ∧ Below w1.heap.size w1 wr) (fun _ i _ => l - (intOf i).toNat)
    case atStart => exact ⟨0, Nat.zero_le _, rfl, rfl, HX6.out, Below.refl _ _⟩
    case round =>
      obtain ⟨k, hk, rfl, rfl, hx, hb⟩ := hrel
      by_cases hlt : k < l
      · have hkn : k < xs.length := by rw [HP6.out.len]; exact hlt
        have hk0 : (0 : Int) ≤ (k : Int) := by omega
        have hk1 : (k : Int) < (l : Int) := by omega
        have HB := Lib.hid hb
        have HX := Lib.hid hx
        have HST : Hid (startU xs (k + 1) = startU xs k + popU (andnU (xs.getD k 0) (prevU xs k))) := Lib.hid (rfl)
        have cT0 := hx.c0
        have cT1 := hx.c1
        have cT2 := hx.c2
        have cT3 := hx.c3
        have cT4 := hx.c4
        have hxk := HIN.out k
        have CC := Lib.hid (started_any cx (HP6.out.upB hb) hl HIN.out k hlt); have hbd := startU_bd xs k; have hbe := popU_bd (andnU (xs.getD k 0) (prevU xs k)); have hay := andnU_bd (xs.getD k 0) (prevU xs k); have CK := Lib.hid (fun W => ones_any (andnU (xs.getD k 0) (prevU xs k)) hay W); generalize andnU (xs.getD k 0) (prevU xs k) = Y at CC CK hay hbe HST ⊢
        obtain ⟨S, hS⟩ : ∃ S, startU xs k = S := ⟨_, rfl⟩
        obtain ⟨E, hE⟩ : ∃ E, popU Y = E := ⟨_, rfl⟩
        rw [hS] at HST hbd ⊢
        rw [hE] at HST hbe CK
        clear hS hE hb hx
        skip
        go_wp2_with fail
        refine CC.out.mono ?_
        rintro e w3 ⟨rfl, hb⟩
        have HB2 := Lib.hid hb; clear hb CC; go_wp2_with fail; refine (CK.out _).mono ?_; rintro e w4 ⟨rfl, rfl⟩; have hb := HB2.out; clear HB2
        have HB3 := Lib.hid (HB.out.trans (hb.mono HB.out.size))
        have HX3 := Lib.hid (HX.out.all hb)
        clear hb HB HX cT0 cT1 cT2 cT3 cT4 CK
        go_wp2_with fail
        go_roundw
        case rel => exact ⟨k + 1, by omega, by go_num, by rw [HST.out], HX3.out, HB3.out⟩
        case measure => simp [intOf]; omega
      · obtain rfl : l = k := by omega
        have hzz := HZ.out
        have HB := Lib.hid (HB6.out.trans (hb.mono HB6.out.size))
        rw [← hzz]
        clear hb hx HIN HGD
        go_wp2_with fail
        refine bodyPost_ret (results_tmp2 rfl _ _ _) rfl ?_
        exact ⟨rfl, HB.out⟩
set_option maxRecDepth 100000 in
set_option maxHeartbeats 4000000 in
theorem levelsI_any {w : World} {B : Nat} {A D : Option Addr} {n m : Nat} {zs : List Int} {vs : List TPump} (a b c : Int) (q r : Nat) (h : IsTs w B A n zs D m vs) (hm : n ≤ 1048576) (hm2 : m ≤ 1048576) {BG : Nat} {G : Option Addr} {l : Nat} {xs : List Int} (cx : Nat) (hp : IsIs w BG G l xs) (hl : l ≤ 1048576) (L : List Int) (x : Bool) (hA : LvsA ⟨a, b, c, zs, vs⟩ xs L x) (j : Nat) (hj : L.length = j) :
    Calls Try.prog 16 #[.agg #[.int .i64 a, .int .i64 b, .int .i64 c, .slice A n q, .slice D m r], .slice G l cx] w (GivesY w L j x) := by
  obtain ⟨i0, hi, hz0, hz1, hz2⟩ := info_parts Try.infoInt'
  obtain ⟨W5, hW5, X5, B5, z5⟩ := box_in w a b c A n q D m r
  obtain ⟨W6, hW6⟩ : ∃ W, W5.alloc (.cells #[] 3) = W := ⟨_, rfl⟩
  obtain ⟨p, hpe⟩ : ∃ p, W5.heap.size = p := ⟨_, rfl⟩
  have hwp : w.heap.size < p := by omega
  have hB6 : Below p W5 W6 := by rw [← hW6, ← hpe]; exact below1 _ _
  have hO6 : W6.ownsRow p 3 1 (.slice (some ⟨p, 0, none⟩) 0 0) 0 ([] : List Value) := by rw [← hW6, ← hpe]; exact World.ownsRow_made W5 #[] 0 (Nat.le_refl _) (by unfold maxLen; omega) rfl
  have hBw : ∀ {W}, Below p W5 W → Below w.heap.size w W := fun hb => B5.trans (hb.mono (by omega))
  have HBW := Lib.hid (fun W (hb : Below p W5 W) => hBw hb)
  have HXW := Lib.hid (fun W (hb : Below p W5 W) => X5.below hb hwp)
  have HTW := Lib.hid (fun W (hb : Below p W5 W) => h.upB (hBw hb))
  have HPW := Lib.hid (fun W (hb : Below p W5 W) => hp.upB (hBw hb))
  have hX6 := HXW.out _ hB6
  have cT0 := hX6.c0
  have cT1 := hX6.c1
  have cT2 := hX6.c2
  have cT3 := hX6.c3
  have cT4 := hX6.c4
  have C1 := Lib.hid (planI_any a b c q r (HTW.out _ hB6) hm hm2 cx (HPW.out _ hB6) hl)
  have HP5 := Lib.hid (show p ≤ W5.heap.size by omega)
  have HB6 := Lib.hid hB6
  have HO6 := Lib.hid hO6
  have HNO := Lib.hid hA.2
  have HYES := Lib.hid hA.1
  have HM := Lib.hid hj
  have HLEN := Lib.hid hp.len
  have HLZ := Lib.hid h.ints.len
  have HG := Lib.hid (gX_iff ⟨a, b, c, zs, vs⟩ xs)
  generalize gX ⟨a, b, c, zs, vs⟩ xs = T at HG C1
  clear h hp X5 B5 z5 hA hj hB6 hX6 hO6 hBw
  go_enter Try.func16, Try.ntmps16
  go_wp2_with fail
  (try rw [hW5])
  (try rw [hpe])
  (try rw [hW6])
  clear hW5 hW6 hpe
  refine C1.out.mono ?_
  rintro e w1 ⟨rfl, hb⟩
  have HB1 := Lib.hid (HB6.out.trans (hb.mono (Nat.le_trans HP5.out HB6.out.size)))
  have HO1 := Lib.hid (own_below HO6.out hb)
  clear hb C1 cT0 cT1 cT2 cT3 cT4 HB6 HO6
  cases T with
  | false =>
    obtain ⟨rfl, rfl⟩ := HNO.out (fun g => by have := HG.out.2 g; cases this)
    obtain rfl : 0 = j := HM.out
    clear HNO HYES HG
    go_wp2_with fail
    go_ret2
    exact ⟨_, _, rfl, own_low HO1.out (Nat.le_of_lt hwp), HBW.out _ HB1.out⟩
  | true =>
    have HGD := Lib.hid (HG.out.1 rfl)
    obtain ⟨hL, rfl⟩ := HYES.out HGD.out
    rw [HLEN.out] at hL
    have HLE := Lib.hid hL
    have HJL := Lib.hid (show l = j by rw [← HM.out, hL, lvsU_len])
    have hl5 : l ≤ 5 := by rw [← HLEN.out, HGD.out.2.1]; exact HGD.out.1.2.1.2
    have HLN := Lib.hid (show l = n by rw [← HLEN.out, HGD.out.2.1]; exact HLZ.out)
    have HIN := Lib.hid (fun i => inX_all HGD.out.2.2 i)
    have hX1 := HXW.out _ HB1.out
    have cT0 := hX1.c0
    have cT1 := hX1.c1
    have cT2 := hX1.c2
    have cT3 := hX1.c3
    have cT4 := hX1.c4
    clear HNO HYES HG hL HM hX1
    go_wp2_with fail
    clear cT0 cT1 cT2 cT3 cT4
    go_loopw [6, 7, 20] (fun v s i wr => ∃ (k : Nat) (g0 cp : Nat), k ≤ l ∧ i = .int .i64 k ∧ s = .int .i64 (lvU ⟨a, b, c, zs, vs⟩ xs k) ∧ v = .slice (some ⟨g0, 0, none⟩) k cp ∧ wr.ownsRow p 3 1 (.slice (some ⟨g0, 0, none⟩) k cp) k ((lvsU ⟨a, b, c, zs, vs⟩ xs k).map (.int .i64)) ∧ Below p W5 wr) (fun _ _ i _ => l - (intOf i).toNat)
    case atStart => exact ⟨0, p, 0, Nat.zero_le _, rfl, rfl, rfl, HO1.out, HB1.out⟩
    case round =>
      obtain ⟨k, g0, cp, hk, rfl, rfl, rfl, hown, hb⟩ := hrel
      by_cases hlt : k < l
      · obtain ⟨aI, rfl, hab, ez⟩ := (HPW.out _ hb).has.numAt (k := k) (by rw [HLEN.out]; exact hlt)
        have hk0 : (0 : Int) ≤ (k : Int) := by omega
        have hk1 : (k : Int) < (l : Int) := by omega
        have hX := HXW.out _ hb
        have cT0 := hX.c0
        have cT1 := hX.c1
        have cT2 := hX.c2
        have cT3 := hX.c3
        have cT4 := hX.c4
        have hkn : k < n := by rw [← HLN.out]; exact hlt
        have hbd := lvU_bd HGD.out.1 xs k (by show k ≤ zs.length; rw [HLZ.out]; omega)
        have CL := Lib.hid (levelAfter_any a b c q r (HTW.out _ hb) HGD.out.1 (lvU ⟨a, b, c, zs, vs⟩ xs k) k (xs.getD k 0) hkn (by omega) (HIN.out k))
        have hST : lvU ⟨a, b, c, zs, vs⟩ xs (k + 1) = lvU ⟨a, b, c, zs, vs⟩ xs k + zs.getD k 0 - sumU TPump.x0 vs (xs.getD k 0) m := by
          rw [lvU]; unfold outU; dsimp only; rw [(HTW.out _ hb).pumps.len]
        have HLS := Lib.hid (lvsU_succ ⟨a, b, c, zs, vs⟩ xs k)
        rw [hST] at HLS
        have HST := Lib.hid hST
        obtain ⟨S, hS⟩ : ∃ S, lvU ⟨a, b, c, zs, vs⟩ xs k = S := ⟨_, rfl⟩
        rw [hS] at CL HST HLS hbd ⊢
        generalize S + zs.getD k 0 - sumU TPump.x0 vs (xs.getD k 0) m = Z at CL HST HLS
        generalize xs.getD k 0 = X at ez CL
        have HB := Lib.hid hb
        have HOWN := Lib.hid hown
        clear hS hX hST hb hown hkn
        go_wp2_with fail
        refine CL.out.mono ?_
        rintro e w3 ⟨rfl, hb3⟩
        have HB3 := Lib.hid (HB.out.trans (hb3.mono (Nat.le_trans HP5.out HB.out.size)))
        have hown := own_below HOWN.out hb3
        have hb := HB3.out
        have hp3 := Nat.le_trans HP5.out HB3.out.size
        have hp5 := HP5.out
        have hg0 : p ≤ g0 := (hown.lt g0 rfl).1
        clear hb3 CL HOWN HB cT0 cT1 cT2 cT3 cT4 ez
        go_wp2_with (at_builtin; go_loud (refine wpList_append_own _ rfl (.tmp 30) (.tmp 32) 24 rfl p 3 i0 (.int .i64 0) 1 8 Try.underlying24 hi hz0 hz1 hz2 rfl (by decide) (.slice (some ⟨g0, 0, none⟩) (k) cp) (k) _ rfl (hown.alloc _) ⟨w3.heap.size, 0, none⟩ 1 1 [.int .i64 Z] rfl rfl (cell_one_new _ _ _) (by simp [Value.oneCell']) (by unfold maxLen; omega) (by omega) (by have := (hb).size; simp; omega) ?_; intro v1 w1 hown1 hgrow1 hnil1; obtain ⟨g1, c1, rfl, hg1⟩ := own_some hown1 (fun e => nomatch (hnil1.1 e).1); have hb1 := (hb.alloc hp3 (.cells #[.int .i64 Z] 3)).grown hgrow1 (by have := (hb).size; simp; omega) (fun q hq => by cases hq; assumption); clear hnil1 hgrow1 hown hb))
        have HO2 := Lib.hid hown1
        have HB2 := Lib.hid hb1
        clear hown1 hb1
        go_roundw
        case rel => exact ⟨k + 1, g1, c1, by omega, by go_num, by rw [HST.out], rfl, by rw [HLS.out, List.map_append]; exact HO2.out, HB2.out⟩
        case measure => simp [intOf]; omega
      · obtain rfl : l = k := by omega
        obtain rfl : l = j := HJL.out
        have hLL := HLE.out
        subst hLL
        have HO := Lib.hid hown
        have HB := Lib.hid hb
        clear hb hown
        go_wp2_with fail
        go_ret2
        exact ⟨g0, cp, rfl, own_low HO.out (Nat.le_of_lt hwp), HBW.out _ HB.out⟩
end Go.Proofs.Ytdjoiodkmanacaa
