/- Chapter 12: safe plans, costs, starts and the water of a plan: the model. -/
import Derived.Test.YtdjoiodkmanacaaPuI
namespace Go.Proofs.Ytdjoiodkmanacaa
open Go.RowKit Go.PlainAid Go.Sort
set_option linter.unusedVariables false
set_option linter.unusedSimpArgs false

set_option maxRecDepth 100000 in
set_option maxHeartbeats 2000000 in
theorem safeS_any {w : World} {B : Nat} {A D : Option Addr} {n m : Nat} {zs : List Int} {vs : List TPump} (a b c : Int) (q r : Nat) (h : IsTs w B A n zs D m vs) (hm : n ≤ 1048576) (hm2 : m ≤ 1048576) {BG : Nat} {G : Option Addr} {l : Nat} {xs : List Int} (cx : Nat) (hp : IsIs w BG G l xs) (hl : l ≤ 1048576) (y x : Bool) (hA : SafA ⟨a, b, c, zs, vs⟩ xs y x) :
    Calls Try.prog 25 #[.agg #[.int .i64 a, .int .i64 b, .int .i64 c, .slice A n q, .slice D m r], .slice G l cx] w fun e w' => e = .returned (.tuple #[.bool y, .bool x]) ∧ Below w.heap.size w w' := by
  obtain ⟨W5, hW5, X5, B5, z5⟩ := box_in w a b c A n q D m r
  have cT0 := X5.c0
  have cT1 := X5.c1
  have cT2 := X5.c2
  have cT3 := X5.c3
  have cT4 := X5.c4
  have HB5 := Lib.hid B5
  have HX5 := Lib.hid X5
  have C1 := Lib.hid (planS_any a b c q r (h.upB B5) hm hm2 cx (hp.upB B5) hl)
  have HT := Lib.hid (h.upB B5)
  have HP := Lib.hid (hp.upB B5)
  have HNO := Lib.hid hA.2
  have HYES := Lib.hid hA.1
  have HG := Lib.hid (gX_iff ⟨a, b, c, zs, vs⟩ xs)
  generalize gX ⟨a, b, c, zs, vs⟩ xs = T at HG C1
  clear h hp X5 B5 z5 hA
  go_enter Try.func25, Try.ntmps25
  go_wp2_with fail
  (try rw [hW5])
  clear hW5 cT0 cT1 cT2 cT3 cT4
  refine C1.out.mono ?_
  rintro e w1 ⟨rfl, hb⟩
  have HX1 := Lib.hid (HX5.out.all hb)
  have HB1 := Lib.hid (HB5.out.trans (hb.mono HB5.out.size))
  have HT1 := Lib.hid (HT.out.upB hb)
  have HP1 := Lib.hid (HP.out.upB hb)
  have hX1 := HX1.out
  have cT0 := hX1.c0
  have cT1 := hX1.c1
  have cT2 := hX1.c2
  have cT3 := hX1.c3
  have cT4 := hX1.c4
  clear hb C1 HX5 HB5 HT HP hX1
  cases T with
  | false =>
    obtain ⟨rfl, rfl⟩ := HNO.out (fun g => by have := HG.out.2 g; cases this)
    clear HNO HYES HG
    go_wp2_with fail
    refine bodyPost_ret (results_tmp2 rfl _ _ _) rfl ?_
    exact ⟨rfl, HB1.out⟩
  | true =>
    have HGD := Lib.hid (HG.out.1 rfl)
    obtain ⟨hy, rfl⟩ := HYES.out HGD.out
    obtain ⟨v, hv⟩ := unsA_ex ⟨a, b, c, zs, vs⟩ xs l
    have C2 := Lib.hid (unsafe_any a b c q r HT1.out HGD.out.1 cx HP1.out (by rw [← HP1.out.len, HGD.out.2.1]; exact Nat.le_of_eq HT1.out.ints.len) (fun i => inX_all HGD.out.2.2 i) v hv)
    have HY : Hid (decide (v < 0) = y) := Lib.hid (by
      rw [Bool.eq_iff_iff, hy, decide_eq_true_eq]
      unfold SafO
      rw [HP1.out.len]
      constructor
      · intro hlt
        exact Classical.byContradiction fun hn => by obtain ⟨k, hk⟩ := fstU_ex hn; have := hv.2 k hk; omega
      · intro hs; have := hv.1 hs; omega)
    clear HNO HYES HG hv hy HGD
    go_wp2_with fail
    refine C2.out.mono ?_
    rintro e w2 ⟨rfl, hb⟩
    have HB2 := Lib.hid (HB1.out.trans (hb.mono HB1.out.size))
    clear hb C2 cT0 cT1 cT2 cT3 cT4
    go_wp2_with fail
    rw [HY.out]
    refine bodyPost_ret (results_tmp2 rfl _ _ _) rfl ?_
    exact ⟨rfl, HB2.out⟩
set_option maxRecDepth 100000 in
set_option maxHeartbeats 2000000 in
theorem firstS_any {w : World} {B : Nat} {A D : Option Addr} {n m : Nat} {zs : List Int} {vs : List TPump} (a b c : Int) (q r : Nat) (h : IsTs w B A n zs D m vs) (hm : n ≤ 1048576) (hm2 : m ≤ 1048576) {BG : Nat} {G : Option Addr} {l : Nat} {xs : List Int} (cx : Nat) (hp : IsIs w BG G l xs) (hl : l ≤ 1048576) (z : Int) (x : Bool) (hA : FstA ⟨a, b, c, zs, vs⟩ xs z x) :
    Calls Try.prog 26 #[.agg #[.int .i64 a, .int .i64 b, .int .i64 c, .slice A n q, .slice D m r], .slice G l cx] w fun e w' => e = .returned (.tuple #[.int .i64 z, .bool x]) ∧ Below w.heap.size w w' := by
  obtain ⟨W5, hW5, X5, B5, z5⟩ := box_in w a b c A n q D m r
  have cT0 := X5.c0
  have cT1 := X5.c1
  have cT2 := X5.c2
  have cT3 := X5.c3
  have cT4 := X5.c4
  have HB5 := Lib.hid B5
  have HX5 := Lib.hid X5
  have C1 := Lib.hid (planS_any a b c q r (h.upB B5) hm hm2 cx (hp.upB B5) hl)
  have HT := Lib.hid (h.upB B5)
  have HP := Lib.hid (hp.upB B5)
  have HNO := Lib.hid hA.2
  have HYES := Lib.hid hA.1
  have HG := Lib.hid (gX_iff ⟨a, b, c, zs, vs⟩ xs)
  generalize gX ⟨a, b, c, zs, vs⟩ xs = T at HG C1
  clear h hp X5 B5 z5 hA
  go_enter Try.func26, Try.ntmps26
  go_wp2_with fail
  (try rw [hW5])
  clear hW5 cT0 cT1 cT2 cT3 cT4
  refine C1.out.mono ?_
  rintro e w1 ⟨rfl, hb⟩
  have HX1 := Lib.hid (HX5.out.all hb)
  have HB1 := Lib.hid (HB5.out.trans (hb.mono HB5.out.size))
  have HT1 := Lib.hid (HT.out.upB hb)
  have HP1 := Lib.hid (HP.out.upB hb)
  have hX1 := HX1.out
  have cT0 := hX1.c0
  have cT1 := hX1.c1
  have cT2 := hX1.c2
  have cT3 := hX1.c3
  have cT4 := hX1.c4
  clear hb C1 HX5 HB5 HT HP hX1
  cases T with
  | false =>
    obtain ⟨rfl, rfl⟩ := HNO.out (fun g => by have := HG.out.2 g.1; cases this)
    clear HNO HYES HG
    go_wp2_with fail
    refine bodyPost_ret (results_tmp2 rfl _ _ _) rfl ?_
    exact ⟨rfl, HB1.out⟩
  | true =>
    have HGD := Lib.hid (HG.out.1 rfl)
    obtain ⟨v, hv⟩ := unsA_ex ⟨a, b, c, zs, vs⟩ xs l
    have hlen := HP1.out.len
    have C2 := Lib.hid (fun W (hb : Below w1.heap.size w1 W) => unsafe_any a b c q r (HT1.out.upB hb) HGD.out.1 cx (HP1.out.upB hb) (by rw [← HP1.out.len, HGD.out.2.1]; exact Nat.le_of_eq HT1.out.ints.len) (fun i => inX_all HGD.out.2.2 i) v hv)
    by_cases hs : safeN ⟨a, b, c, zs, vs⟩ xs l
    · obtain rfl := hv.1 hs
      obtain ⟨rfl, rfl⟩ := HNO.out (fun g => g.2 (by unfold SafO; rw [hlen]; exact hs))
      have C3 := Lib.hid (C2.out w1 (Below.refl _ _))
      clear HNO HYES HG hv hs C2 hlen HGD
      go_wp2_with fail
      refine C3.out.mono ?_
      rintro e w2 ⟨rfl, hb⟩
      have HB2 := Lib.hid (HB1.out.trans (hb.mono HB1.out.size))
      clear hb C3 cT0 cT1 cT2 cT3 cT4
      go_wp2_with fail
      refine bodyPost_ret (results_tmp2 rfl _ _ _) rfl ?_
      exact ⟨rfl, HB2.out⟩
    · obtain ⟨k, hk, hz, rfl⟩ := HYES.out ⟨HGD.out, by unfold SafO; rw [hlen]; exact hs⟩
      rw [hlen] at hk
      obtain rfl : v = z := by rw [hz]; exact hv.2 k hk
      have hv0 : 0 ≤ v := by omega
      have C3 := Lib.hid (C2.out w1 (Below.refl _ _))
      clear HNO HYES HG hv hs hlen HGD hz
      go_wp2_with fail
      refine C3.out.mono ?_
      rintro e w2 ⟨rfl, hb⟩
      have HB2 := Lib.hid (HB1.out.trans (hb.mono HB1.out.size))
      have hX2 := HX1.out.all hb
      have C4 := Lib.hid (C2.out _ hb)
      clear hb C3 C2 cT0 cT1 cT2 cT3 cT4
      have cT0 := hX2.c0
      have cT1 := hX2.c1
      have cT2 := hX2.c2
      have cT3 := hX2.c3
      have cT4 := hX2.c4
      go_wp2_with fail
      refine C4.out.mono ?_
      rintro e w3 ⟨rfl, hb⟩
      have HB3 := Lib.hid (HB2.out.trans (hb.mono HB2.out.size))
      clear hb C4 cT0 cT1 cT2 cT3 cT4
      go_wp2_with fail
      refine bodyPost_ret (results_tmp2 rfl _ _ _) rfl ?_
      exact ⟨rfl, HB3.out⟩
set_option maxRecDepth 100000 in
set_option maxHeartbeats 2000000 in
theorem waterS_any {w : World} {B : Nat} {A D : Option Addr} {n m : Nat} {zs : List Int} {vs : List TPump} (a b c : Int) (q r : Nat) (h : IsTs w B A n zs D m vs) (hm : n ≤ 1048576) (hm2 : m ≤ 1048576) {BG : Nat} {G : Option Addr} {l : Nat} {xs : List Int} (cx : Nat) (hp : IsIs w BG G l xs) (hl : l ≤ 1048576) (z : Int) (x : Bool) (hA : NumA (waterU ⟨a, b, c, zs, vs⟩ xs xs.length) ⟨a, b, c, zs, vs⟩ xs z x) :
    Calls Try.prog 24 #[.agg #[.int .i64 a, .int .i64 b, .int .i64 c, .slice A n q, .slice D m r], .slice G l cx] w fun e w' => e = .returned (.tuple #[.int .i64 z, .bool x]) ∧ Below w.heap.size w w' := by
  obtain ⟨W5, hW5, X5, B5, z5⟩ := box_in w a b c A n q D m r
  have cT0 := X5.c0
  have cT1 := X5.c1
  have cT2 := X5.c2
  have cT3 := X5.c3
  have cT4 := X5.c4
  have HB5 := Lib.hid B5
  have HX5 := Lib.hid X5
  have C1 := Lib.hid (planS_any a b c q r (h.upB B5) hm hm2 cx (hp.upB B5) hl)
  have HT := Lib.hid (h.upB B5)
  have HP := Lib.hid (hp.upB B5)
  have HNO := Lib.hid hA.2
  have HYES := Lib.hid hA.1
  have HG := Lib.hid (gX_iff ⟨a, b, c, zs, vs⟩ xs)
  generalize gX ⟨a, b, c, zs, vs⟩ xs = T at HG C1
  clear h hp X5 B5 z5 hA
  go_enter Try.func24, Try.ntmps24
  go_wp2_with fail
  (try rw [hW5])
  clear hW5 cT0 cT1 cT2 cT3 cT4
  refine C1.out.mono ?_
  rintro e w1 ⟨rfl, hb⟩
  have HX1 := Lib.hid (HX5.out.all hb)
  have HB1 := Lib.hid (HB5.out.trans (hb.mono HB5.out.size))
  have HT1 := Lib.hid (HT.out.upB hb)
  have HP1 := Lib.hid (HP.out.upB hb)
  have hX1 := HX1.out
  have cT0 := hX1.c0
  have cT1 := hX1.c1
  have cT2 := hX1.c2
  have cT3 := hX1.c3
  have cT4 := hX1.c4
  clear hb C1 HX5 HB5 HT HP hX1
  cases T with
  | false =>
    obtain ⟨rfl, rfl⟩ := HNO.out (fun g => by have := HG.out.2 g; cases this)
    clear HNO HYES HG
    go_wp2_with fail
    refine bodyPost_ret (results_tmp2 rfl _ _ _) rfl ?_
    exact ⟨rfl, HB1.out⟩
  | true =>
    have HGD := Lib.hid (HG.out.1 rfl)
    obtain ⟨hz, rfl⟩ := HYES.out HGD.out
    rw [HP1.out.len] at hz
    have HZ := Lib.hid hz
    have hl5 : l ≤ 5 := by rw [← HP1.out.len, HGD.out.2.1]; exact HGD.out.1.2.1.2
    have hm2x : m ≤ 2 := by rw [← HT1.out.pumps.len]; exact HGD.out.1.2.2.1
    have HIN := Lib.hid (fun j => inX_all HGD.out.2.2 j)
    clear HNO HYES HG hz
    go_wp2_with fail
    clear cT0 cT1 cT2 cT3 cT4
    go_loopw [6, 7] (fun s i wr => ∃ k : Nat, k ≤ l ∧ i = .int .i64 k ∧ s = .int .i64 (waterU ⟨a, b, c, zs, vs⟩ xs k) ∧ Below w1.heap.size w1 wr) (fun _ i _ => l - (intOf i).toNat)
    case atStart => exact ⟨0, Nat.zero_le _, rfl, rfl, Below.refl _ _⟩
    case round =>
      obtain ⟨k, hk, rfl, rfl, hb⟩ := hrel
      by_cases hlt : k < l
      · have hk0 : (0 : Int) ≤ (k : Int) := by omega
        have hk1 : (k : Int) < (l : Int) := by omega
        have HST : Hid (waterU ⟨a, b, c, zs, vs⟩ xs (k + 1) = waterU ⟨a, b, c, zs, vs⟩ xs k + sumU TPump.x0 vs (xs.getD k 0) m) := Lib.hid (by rw [waterU]; unfold outU; dsimp only; rw [HT1.out.pumps.len])
        have hbd := waterU_bd HGD.out.1 xs k
        have hbe := sumU_bd HGD.out.1.2.2.2.2 TPump.x0_bdU (xs.getD k 0) m (by show m ≤ vs.length; rw [HT1.out.pumps.len]; exact Nat.le_refl _)
        have CC := Lib.hid (outS_any a b c A n q r (HT1.out.upB hb).pumps hm2x HGD.out.1.2.2.2.2 cx (HP1.out.upB hb) hl HIN.out k hlt)
        have hX := HX1.out.all hb
        have cT0 := hX.c0
        have cT1 := hX.c1
        have cT2 := hX.c2
        have cT3 := hX.c3
        have cT4 := hX.c4
        obtain ⟨S, hS⟩ : ∃ S, waterU ⟨a, b, c, zs, vs⟩ xs k = S := ⟨_, rfl⟩
        rw [hS] at HST hbd ⊢
        generalize sumU TPump.x0 vs (xs.getD k 0) m = E at HST hbe CC
        have HB := Lib.hid hb
        clear hS hb hX
        go_wp2_with fail
        refine CC.out.mono ?_
        rintro e w3 ⟨rfl, hb⟩
        have HB3 := Lib.hid (HB.out.trans (hb.mono HB.out.size))
        clear hb HB cT0 cT1 cT2 cT3 cT4 CC
        go_wp2_with fail
        go_roundw
        case rel => exact ⟨k + 1, by omega, by go_num, by rw [HST.out], HB3.out⟩
        case measure => simp [intOf]; omega
      · obtain rfl : l = k := by omega
        have hzz := HZ.out
        have HB := Lib.hid (HB1.out.trans (hb.mono HB1.out.size))
        rw [← hzz]
        clear hb HIN HGD
        go_wp2_with fail
        refine bodyPost_ret (results_tmp2 rfl _ _ _) rfl ?_
        exact ⟨rfl, HB.out⟩
/-- How many of the first pumps run. -/
def popN (x : Int) : Nat → Int
  | 0 => 0
  | k + 1 => popN x k + (if bitU x k then 1 else 0)
theorem popN_bd (x : Int) : ∀ k, 0 ≤ popN x k ∧ popN x k ≤ (k : Int)
  | 0 => ⟨Int.le_refl _, Int.le_refl _⟩
  | k + 1 => by have ih := popN_bd x k; rw [popN]; split <;> omega
theorem popN_all {m : Nat} (hm : m ≤ 2) {x y : Int} (hx : 0 ≤ x ∧ x ≤ topU m) (hy : 0 ≤ y ∧ y ≤ 3) : popN (andnU x y) m = popU (andnU x y) := by
  have ht := topU_m m
  rcases ht with ⟨rfl, e⟩ | ⟨rfl, e⟩ | ⟨h2, e⟩
  · obtain rfl : x = 0 := by omega
    rcases four_of hy with rfl | rfl | rfl | rfl <;> decide
  · have : x = 0 ∨ x = 1 := by omega
    rcases this with rfl | rfl <;> rcases four_of hy with rfl | rfl | rfl | rfl <;> decide
  · obtain rfl : m = 2 := by omega
    have hx3 : 0 ≤ x ∧ x ≤ 3 := by omega
    rcases four_of hx3 with rfl | rfl | rfl | rfl <;> rcases four_of hy with rfl | rfl | rfl | rfl <;> decide
set_option maxRecDepth 100000 in
set_option maxHeartbeats 4000000 in
theorem costM_any {w : World} {B : Nat} {A D : Option Addr} {n m : Nat} {zs : List Int} {vs : List TPump} (a b c : Int) (q r : Nat) (h : IsTs w B A n zs D m vs) (hgd : goodT ⟨a, b, c, zs, vs⟩) {BG : Nat} {G : Option Addr} {l : Nat} {xs : List Int} (cx : Nat) (hp : IsIs w BG G l xs) (hl : l ≤ 5) (hin : inX m xs) :
    Calls Try.prog 68 #[.agg #[.int .i64 a, .int .i64 b, .int .i64 c, .slice A n q, .slice D m r], .slice G l cx] w fun e w' => e = .returned (.tuple #[.int .i64 (costU ⟨a, b, c, zs, vs⟩ xs l), .int .i64 (startU xs l)]) ∧ Below w.heap.size w w' := by
  obtain ⟨W5, hW5, X5, B5, z5⟩ := box_in w a b c A n q D m r
  have cT0 := X5.c0
  have cT1 := X5.c1
  have cT2 := X5.c2
  have cT3 := X5.c3
  have cT4 := X5.c4
  have HB5 := Lib.hid B5
  have HX5 := Lib.hid X5
  have HT := Lib.hid (h.upB B5)
  have HP := Lib.hid (hp.upB B5)
  have HGD := Lib.hid hgd
  have HI3 := Lib.hid (fun j => inX_all hin j)
  have HPV := Lib.hid (fun j => prevU_bd hin j)
  have HIT := Lib.hid (fun k (hk : k < l) => hin k (by rw [hp.len]; exact hk))
  have hm2 : m ≤ 2 := by rw [← h.pumps.len]; exact hgd.2.2.1
  have CR := Lib.hid (fun k (hk : k < l) i (hi : i < 2) => runs_any cx (hp.upB B5) (by omega) (fun j => inX_all hin j) k hk i hi)
  have CP := Lib.hid (fun k (hk : k ≤ l) i (hi : i < 2) => runsP_any cx (hp.upB B5) (by omega) (fun j => inX_all hin j) k hk i hi)
  clear h hp X5 B5 z5 hgd hin HX5 HP
  go_enter Try.func68, Try.ntmps68
  go_wp2_with fail
  (try rw [hW5])
  clear hW5
  go_loop [6, 7, 8] (fun s p i => ∃ k : Nat, k ≤ l ∧ i = .int .i64 k ∧ s = .int .i64 (costU ⟨a, b, c, zs, vs⟩ xs k) ∧ p = .int .i64 (startU xs k)) (fun _ _ i => l - (intOf i).toNat)
  case atStart => exact ⟨0, Nat.zero_le _, rfl, rfl, rfl⟩
  case round =>
    obtain ⟨k, hk, rfl, rfl, rfl⟩ := hrel
    by_cases hlt : k < l
    · have hk0 : (0 : Int) ≤ (k : Int) := by omega
      have hk1 : (k : Int) < (l : Int) := by omega
      have hx3 := HI3.out k
      have hy3 := HPV.out k
      have hcb := costU_bd HGD.out xs k
      have hsb := startU_bd xs k
      have HSTC : Hid (costU ⟨a, b, c, zs, vs⟩ xs (k + 1) = costU ⟨a, b, c, zs, vs⟩ xs k + (sumU TPump.x1 vs (xs.getD k 0) m + sumU TPump.x2 vs (andnU (xs.getD k 0) (prevU xs k)) m)) := Lib.hid (by rw [costU]; unfold hcU; dsimp only; rw [HT.out.pumps.len])
      have HSTS : Hid (startU xs (k + 1) = startU xs k + popN (andnU (xs.getD k 0) (prevU xs k)) m) := Lib.hid (by rw [startU, popN_all hm2 (HIT.out k hlt) hy3])
      have CRk := Lib.hid (CR.out k hlt)
      have CPk := Lib.hid (CP.out k hk)
      have HBC := Lib.hid (fun i (hi : i ≤ m) => sumU_bd HGD.out.2.2.2.2 TPump.x1_bdU (xs.getD k 0) i (by show i ≤ vs.length; rw [HT.out.pumps.len]; exact hi))
      have HBS := Lib.hid (fun i (hi : i ≤ m) => sumU_bd HGD.out.2.2.2.2 TPump.x2_bdU (andnU (xs.getD k 0) (prevU xs k)) i (by show i ≤ vs.length; rw [HT.out.pumps.len]; exact hi))
      have HBN := Lib.hid (fun i => popN_bd (andnU (xs.getD k 0) (prevU xs k)) i)
      have HAB := Lib.hid (fun i (hi : i < 2) => andnU_bit hx3 hy3 hi)
      obtain ⟨S, hS⟩ : ∃ S, costU ⟨a, b, c, zs, vs⟩ xs k = S := ⟨_, rfl⟩
      obtain ⟨P, hP⟩ : ∃ P, startU xs k = P := ⟨_, rfl⟩
      rw [hS] at HSTC hcb ⊢
      rw [hP] at HSTS hsb ⊢
      generalize xs.getD k 0 = X at HSTC HSTS CRk HBC HBS HBN HAB hx3
      generalize prevU xs k = Y at HSTC HSTS CPk HBS HBN HAB hy3
      obtain ⟨U, hU⟩ : ∃ U, andnU X Y = U := ⟨_, rfl⟩
      rw [hU] at HSTC HSTS HBS HBN HAB
      clear hS hP hU CR CP HI3 HPV HIT
      go_wp2_with fail
      go_loop [6, 7, 9] (fun s p i => ∃ j : Nat, j ≤ m ∧ i = .int .i64 j ∧ s = .int .i64 (S + (sumU TPump.x1 vs X j + sumU TPump.x2 vs U j)) ∧ p = .int .i64 (P + popN U j)) (fun _ _ i => m - (intOf i).toNat)
      case atStart => exact ⟨0, Nat.zero_le _, rfl, by show _ = Value.int .i64 (S + (0 + 0)); congr 1; omega, by show _ = Value.int .i64 (P + 0); congr 1; omega⟩
      case round =>
        obtain ⟨j, hj, rfl, rfl, rfl⟩ := hrel
        by_cases hjm : j < m
        · have hj0 : (0 : Int) ≤ (j : Int) := by omega
          have hj1 : (j : Int) < (m : Int) := by omega
          obtain ⟨a1, rfl, hab, HV⟩ := HT.out.pumps.has.Pump (k := j) (by rw [HT.out.pumps.len]; exact hjm)
          have hu := HGD.out.2.2.2.2 j (by show j < vs.length; rw [HT.out.pumps.len]; exact hjm)
          have hbc := HBC.out j hj
          have hbs := HBS.out j hj
          have hbn := HBN.out j
          have hab2 := HAB.out j (by omega)
          have HC : Hid (sumU TPump.x1 vs X (j + 1) = sumU TPump.x1 vs X j + (if bitU X j then TPump.x1 (vs.getD j noPump) else 0)) := Lib.hid rfl
          have HS : Hid (sumU TPump.x2 vs U (j + 1) = sumU TPump.x2 vs U j + (if bitU U j then TPump.x2 (vs.getD j noPump) else 0)) := Lib.hid rfl
          have HN : Hid (popN U (j + 1) = popN U j + (if bitU U j then 1 else 0)) := Lib.hid rfl
          rw [hab2] at HS HN
          have C1 := Lib.hid (CRk.out j (by omega))
          have C2 := Lib.hid (CPk.out j (by omega))
          dsimp only at hu
          obtain ⟨V, hV⟩ : ∃ V, vs.getD j noPump = V := ⟨_, rfl⟩
          rw [hV] at HV HC HS hu
          obtain ⟨v0, v1, v2⟩ := V
          obtain ⟨e0, e1, e2⟩ := HV
          dsimp only at e0 e1 e2 HC HS
          have hu1 := hu.2.1
          have hu2 := hu.2.2
          dsimp only at hu1 hu2
          generalize sumU TPump.x1 vs X j = C at HC hbc ⊢
          generalize sumU TPump.x2 vs U j = T at HS hbs ⊢
          generalize popN U j = N at HN hbn ⊢
          generalize bitU X j = bX at HC HS HN C1
          generalize bitU Y j = bY at HS HN C2
          clear hab2 hV hu HBC HBS HBN HAB CRk CPk HT HGD HSTC HSTS cT0 cT1 cT2 cT3 hx3 hy3
          go_wp2_with fail
          refine C1.out.mono ?_
          rintro e w6 ⟨rfl, rfl⟩
          clear C1
          cases bX with
          | false =>
            rw [if_neg (by decide)] at HC
            rw [Bool.false_and, if_neg (by decide)] at HS HN
            go_wp2_with fail
            go_round
            case rel => exact ⟨j + 1, by omega, by go_num, by rw [HC.out, HS.out, Int.add_zero, Int.add_zero], by rw [HN.out, Int.add_zero]⟩
            case measure => simp [intOf]; omega
          | true =>
            rw [if_pos rfl] at HC
            go_wp2_with fail
            refine C2.out.mono ?_
            rintro e w6 ⟨rfl, rfl⟩
            clear C2
            cases bY with
            | true =>
              rw [Bool.not_true, Bool.and_false, if_neg (by decide)] at HS HN
              go_wp2_with fail
              go_round
              case rel => exact ⟨j + 1, by omega, by go_num, by rw [HC.out, HS.out]; congr 1; omega, by rw [HN.out, Int.add_zero]⟩
              case measure => simp [intOf]; omega
            | false =>
              rw [Bool.not_false, Bool.and_true, if_pos rfl] at HS HN
              go_wp2_with fail
              go_round
              case rel => exact ⟨j + 1, by omega, by go_num, by rw [HC.out, HS.out]; congr 1; omega, by rw [HN.out]; congr 1; omega⟩
              case measure => simp [intOf]; omega
        · obtain rfl : m = j := by omega
          clear HBC HBS HBN HAB CRk CPk HT HGD cT0 cT1 cT2 cT3 hx3 hy3
          go_wp2_with fail
          go_round
          case rel => exact ⟨k + 1, by omega, by go_num, by rw [HSTC.out], by rw [HSTS.out]⟩
          case measure => simp [intOf]; omega
    · obtain rfl : l = k := by omega
      clear CR CP HI3 HPV HIT HT HGD
      go_wp2_with fail
      go_ret2
      exact ⟨rfl, HB5.out⟩
set_option maxRecDepth 100000 in
set_option maxHeartbeats 2000000 in
theorem costS_any {w : World} {B : Nat} {A D : Option Addr} {n m : Nat} {zs : List Int} {vs : List TPump} (a b c : Int) (q r : Nat) (h : IsTs w B A n zs D m vs) (hm : n ≤ 1048576) (hm2 : m ≤ 1048576) {BG : Nat} {G : Option Addr} {l : Nat} {xs : List Int} (cx : Nat) (hp : IsIs w BG G l xs) (hl : l ≤ 1048576) (z : Int) (x : Bool) (hA : NumA (costU ⟨a, b, c, zs, vs⟩ xs xs.length) ⟨a, b, c, zs, vs⟩ xs z x) :
    Calls Try.prog 34 #[.agg #[.int .i64 a, .int .i64 b, .int .i64 c, .slice A n q, .slice D m r], .slice G l cx] w fun e w' => e = .returned (.tuple #[.int .i64 z, .bool x]) ∧ Below w.heap.size w w' := by
  obtain ⟨W5, hW5, X5, B5, z5⟩ := box_in w a b c A n q D m r
  have cT0 := X5.c0
  have cT1 := X5.c1
  have cT2 := X5.c2
  have cT3 := X5.c3
  have cT4 := X5.c4
  have HB5 := Lib.hid B5
  have HX5 := Lib.hid X5
  have C1 := Lib.hid (planS_any a b c q r (h.upB B5) hm hm2 cx (hp.upB B5) hl)
  have HT := Lib.hid (h.upB B5)
  have HP := Lib.hid (hp.upB B5)
  have HNO := Lib.hid hA.2
  have HYES := Lib.hid hA.1
  have HG := Lib.hid (gX_iff ⟨a, b, c, zs, vs⟩ xs)
  generalize gX ⟨a, b, c, zs, vs⟩ xs = T at HG C1
  clear h hp X5 B5 z5 hA
  go_enter Try.func34, Try.ntmps34
  go_wp2_with fail
  (try rw [hW5])
  clear hW5 cT0 cT1 cT2 cT3 cT4
  refine C1.out.mono ?_
  rintro e w1 ⟨rfl, hb⟩
  have HX1 := Lib.hid (HX5.out.all hb)
  have HB1 := Lib.hid (HB5.out.trans (hb.mono HB5.out.size))
  have HT1 := Lib.hid (HT.out.upB hb)
  have HP1 := Lib.hid (HP.out.upB hb)
  have hX1 := HX1.out
  have cT0 := hX1.c0
  have cT1 := hX1.c1
  have cT2 := hX1.c2
  have cT3 := hX1.c3
  have cT4 := hX1.c4
  clear hb C1 HX5 HB5 HT HP hX1
  cases T with
  | false =>
    obtain ⟨rfl, rfl⟩ := HNO.out (fun g => by have := HG.out.2 g; cases this)
    clear HNO HYES HG
    go_wp2_with fail
    refine bodyPost_ret (results_tmp2 rfl _ _ _) rfl ?_
    exact ⟨rfl, HB1.out⟩
  | true =>
    have HGD := Lib.hid (HG.out.1 rfl)
    obtain ⟨hz, rfl⟩ := HYES.out HGD.out
    have hl5 : l ≤ 5 := by rw [← HP1.out.len, HGD.out.2.1]; exact HGD.out.1.2.1.2
    have hin : inX m xs := by have := HGD.out.2.2; dsimp only at this; rwa [HT1.out.pumps.len] at this
    have C2 := Lib.hid (costM_any a b c q r HT1.out HGD.out.1 cx HP1.out hl5 hin)
    rw [HP1.out.len] at hz
    rw [← hz] at C2
    generalize startU xs l = Y at C2
    clear HNO HYES HG hz hin HGD
    go_wp2_with fail
    refine C2.out.mono ?_
    rintro e w2 ⟨rfl, hb⟩
    have HB2 := Lib.hid (HB1.out.trans (hb.mono HB1.out.size))
    clear hb C2 cT0 cT1 cT2 cT3 cT4
    go_wp2_with fail
    refine bodyPost_ret (results_tmp2 rfl _ _ _) rfl ?_
    exact ⟨rfl, HB2.out⟩
set_option maxRecDepth 100000 in
set_option maxHeartbeats 2000000 in
theorem startS_any {w : World} {B : Nat} {A D : Option Addr} {n m : Nat} {zs : List Int} {vs : List TPump} (a b c : Int) (q r : Nat) (h : IsTs w B A n zs D m vs) (hm : n ≤ 1048576) (hm2 : m ≤ 1048576) {BG : Nat} {G : Option Addr} {l : Nat} {xs : List Int} (cx : Nat) (hp : IsIs w BG G l xs) (hl : l ≤ 1048576) (z : Int) (x : Bool) (hA : NumA (startU xs xs.length) ⟨a, b, c, zs, vs⟩ xs z x) :
    Calls Try.prog 36 #[.agg #[.int .i64 a, .int .i64 b, .int .i64 c, .slice A n q, .slice D m r], .slice G l cx] w fun e w' => e = .returned (.tuple #[.int .i64 z, .bool x]) ∧ Below w.heap.size w w' := by
  obtain ⟨W5, hW5, X5, B5, z5⟩ := box_in w a b c A n q D m r
  have cT0 := X5.c0
  have cT1 := X5.c1
  have cT2 := X5.c2
  have cT3 := X5.c3
  have cT4 := X5.c4
  have HB5 := Lib.hid B5
  have HX5 := Lib.hid X5
  have C1 := Lib.hid (planS_any a b c q r (h.upB B5) hm hm2 cx (hp.upB B5) hl)
  have HT := Lib.hid (h.upB B5)
  have HP := Lib.hid (hp.upB B5)
  have HNO := Lib.hid hA.2
  have HYES := Lib.hid hA.1
  have HG := Lib.hid (gX_iff ⟨a, b, c, zs, vs⟩ xs)
  generalize gX ⟨a, b, c, zs, vs⟩ xs = T at HG C1
  clear h hp X5 B5 z5 hA
  go_enter Try.func36, Try.ntmps36
  go_wp2_with fail
  (try rw [hW5])
  clear hW5 cT0 cT1 cT2 cT3 cT4
  refine C1.out.mono ?_
  rintro e w1 ⟨rfl, hb⟩
  have HX1 := Lib.hid (HX5.out.all hb)
  have HB1 := Lib.hid (HB5.out.trans (hb.mono HB5.out.size))
  have HT1 := Lib.hid (HT.out.upB hb)
  have HP1 := Lib.hid (HP.out.upB hb)
  have hX1 := HX1.out
  have cT0 := hX1.c0
  have cT1 := hX1.c1
  have cT2 := hX1.c2
  have cT3 := hX1.c3
  have cT4 := hX1.c4
  clear hb C1 HX5 HB5 HT HP hX1
  cases T with
  | false =>
    obtain ⟨rfl, rfl⟩ := HNO.out (fun g => by have := HG.out.2 g; cases this)
    clear HNO HYES HG
    go_wp2_with fail
    refine bodyPost_ret (results_tmp2 rfl _ _ _) rfl ?_
    exact ⟨rfl, HB1.out⟩
  | true =>
    have HGD := Lib.hid (HG.out.1 rfl)
    obtain ⟨hz, rfl⟩ := HYES.out HGD.out
    have hl5 : l ≤ 5 := by rw [← HP1.out.len, HGD.out.2.1]; exact HGD.out.1.2.1.2
    have hin : inX m xs := by have := HGD.out.2.2; dsimp only at this; rwa [HT1.out.pumps.len] at this
    have C2 := Lib.hid (costM_any a b c q r HT1.out HGD.out.1 cx HP1.out hl5 hin)
    rw [HP1.out.len] at hz
    rw [← hz] at C2
    generalize costU ⟨a, b, c, zs, vs⟩ xs l = Y at C2
    clear HNO HYES HG hz hin HGD
    go_wp2_with fail
    refine C2.out.mono ?_
    rintro e w2 ⟨rfl, hb⟩
    have HB2 := Lib.hid (HB1.out.trans (hb.mono HB1.out.size))
    clear hb C2 cT0 cT1 cT2 cT3 cT4
    go_wp2_with fail
    refine bodyPost_ret (results_tmp2 rfl _ _ _) rfl ?_
    exact ⟨rfl, HB2.out⟩
end Go.Proofs.Ytdjoiodkmanacaa
