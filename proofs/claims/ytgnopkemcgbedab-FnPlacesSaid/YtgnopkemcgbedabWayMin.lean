/- Chapter 2: minutes on the way: the program's and the model's. -/
import Derived.Test.YtgnopkemcgbedabWayGcd
namespace Go.Proofs.Ytgnopkemcgbedab
open Go.RowKit Go.PlainAid

theorem goodW_spd {rs : List (Int × Int × Int)} {zs : List Int} (h : goodW rs zs) : ∀ r ∈ rs, (1 ≤ r.1 ∧ r.1 ≤ 100) ∧ 1 ≤ r.2.2 ∧ r.2.2 ≤ 20 := by
  intro r hr
  obtain ⟨j, hj, rfl⟩ := List.getElem_of_mem hr
  have := ((goodW_iff rs zs).1 h).2.2.1 j hj
  exact ⟨this.1, this.2.2⟩
/-- Kilometers in the reach k, of a way from lo to hi. -/
def pAt (rs : List (Int × Int × Int)) (lo hi : Int) (k : Nat) : Nat := (max 0 (min hi (tot rs (k + 1)) - max lo (tot rs k))).toNat
/-- The speed in the reach k. -/
def vAt (rs : List (Int × Int × Int)) (s : Int) (k : Nat) : Nat := (min s (rs.getD k (0, 0, 0)).2.2).toNat
/-- The minutes in the first k reaches. -/
def fr (rs : List (Int × Int × Int)) (lo hi s : Int) : Nat → Nat × Nat
  | 0 => (0, 1)
  | k + 1 => frS (vAt rs s k) (pAt rs lo hi k) (fr rs lo hi s k)

theorem vAt_bd {rs : List (Int × Int × Int)} {zs : List Int} (h : goodW rs zs) {s : Int} (hs : 1 ≤ s ∧ s ≤ 20) {k : Nat} (hk : k < rs.length) : 1 ≤ vAt rs s k ∧ vAt rs s k ≤ 20 ∧ ((vAt rs s k : Nat) : Int) = min s (rs[k]'hk).2.2 := by
  have := (goodW_spd h _ (List.getElem_mem hk)).2
  unfold vAt
  rw [List.getD_eq_getElem?_getD, List.getElem?_eq_getElem hk, Option.getD_some]
  omega
theorem pAt_bd {rs : List (Int × Int × Int)} {zs : List Int} (h : goodW rs zs) (lo hi : Int) {k : Nat} (hk : k < rs.length) : pAt rs lo hi k ≤ 100 ∧ ((pAt rs lo hi k : Nat) : Int) = max 0 (min hi (tot rs (k + 1)) - max lo (tot rs k)) := by
  have := (goodW_spd h _ (List.getElem_mem hk)).1
  have := tot_step rs k hk
  unfold pAt
  omega
theorem frS_bd {V P N D n d : Nat} (hV : 1 ≤ V) (hV2 : V ≤ 20) (hP : P ≤ 100) (hN : N ≤ n) (hD : 1 ≤ D) (hD2 : D ≤ d) : (frS V P (N, D)).1 ≤ n * 20 + 6000 * d ∧ 1 ≤ (frS V P (N, D)).2 ∧ (frS V P (N, D)).2 ≤ d * 20 := by
  have h1 : N * V ≤ n * 20 := Nat.mul_le_mul hN hV2
  have h2 : 60 * P * D ≤ 6000 * d := Nat.mul_le_mul (by omega) hD2
  have h3 : D * V ≤ d * 20 := Nat.mul_le_mul hD2 hV2
  have h4 : 1 ≤ D * V := Nat.mul_le_mul hD hV
  have hg : 0 < Nat.gcd (N * V + 60 * P * D) (D * V) := Nat.gcd_pos_of_pos_right _ (by omega)
  have hgb := Nat.gcd_dvd_right (N * V + 60 * P * D) (D * V)
  have hgl := Nat.le_of_dvd (by omega) hgb
  simp only [frS]
  refine ⟨Nat.le_trans (Nat.div_le_self _ _) (by omega), ?_, Nat.le_trans (Nat.div_le_self _ _) h3⟩
  exact Nat.div_pos hgl hg
theorem fr_bd {rs : List (Int × Int × Int)} {zs : List Int} (h : goodW rs zs) (lo hi : Int) {s : Int} (hs : 1 ≤ s ∧ s ≤ 20) : ∀ k, k ≤ rs.length → (fr rs lo hi s k).1 ≤ 6000 * k * 20 ^ k ∧ 1 ≤ (fr rs lo hi s k).2 ∧ (fr rs lo hi s k).2 ≤ 20 ^ k
  | 0, _ => by simp [fr]
  | k + 1, hk => by
    obtain ⟨h1, h2, h3⟩ := fr_bd h lo hi hs k (by omega)
    obtain ⟨v1, v2, -⟩ := vAt_bd h hs (show k < rs.length by omega)
    obtain ⟨b1, b2, b3⟩ := frS_bd v1 v2 (pAt_bd h lo hi (show k < rs.length by omega)).1 h1 h2 h3
    refine ⟨Nat.le_trans b1 ?_, b2, Nat.le_trans b3 (by rw [Nat.pow_succ]; exact Nat.le_refl _)⟩
    rw [Nat.pow_succ]
    have : 6000 * (k + 1) * (20 ^ k * 20) = 6000 * k * 20 ^ k * 20 + 6000 * 20 ^ k * 20 := by
      rw [Nat.mul_add, Nat.add_mul]
      simp only [Nat.mul_one, Nat.mul_assoc]
    rw [this]
    omega
theorem fr_small {rs : List (Int × Int × Int)} {zs : List Int} (h : goodW rs zs) (lo hi : Int) {s : Int} (hs : 1 ≤ s ∧ s ≤ 20) {k : Nat} (hk : k < rs.length) : (fr rs lo hi s k).1 ≤ 100000000000 ∧ 1 ≤ (fr rs lo hi s k).2 ∧ (fr rs lo hi s k).2 ≤ 3200000 := by
  obtain ⟨h1, h2, h3⟩ := fr_bd h lo hi hs k (by omega)
  have hk5 : k ≤ 5 := by have := h.1.2; omega
  match k, hk5 with
  | 0, _ | 1, _ | 2, _ | 3, _ | 4, _ | 5, _ => exact ⟨by simp at h1 ⊢; omega, h2, by simp at h3 ⊢; omega⟩

structure FrFacts (N D P V : Nat) (a b g : Nat) : Prop where
  a1 : a ≤ 3000000000000
  b1 : b ≤ 64000000
  b0 : 1 ≤ b
  g0 : 0 < g
  gb : g ≤ b
  gg : Nat.gcd a b = g
  num : (N : Int) * (V : Int) + 60 * (P : Int) * (D : Int) = (a : Int)
  den : (D : Int) * (V : Int) = (b : Int)
  fr : frS V P (N, D) = (a / g, b / g)
  n0 : (0 : Int) ≤ (N : Int) * (V : Int)
  n1 : (N : Int) * (V : Int) ≤ 2000000000000
  p0 : (0 : Int) ≤ 60 * (P : Int) * (D : Int)
  p1 : 60 * (P : Int) * (D : Int) ≤ 20000000000
  qa0 : (0 : Int) ≤ (a : Int) / (g : Int)
  qa1 : (a : Int) / (g : Int) ≤ 3000000000000
  qb0 : (0 : Int) ≤ (b : Int) / (g : Int)
  qb1 : (b : Int) / (g : Int) ≤ 64000000
theorem frFacts {N D P V : Nat} (hN : N ≤ 100000000000) (hD : 1 ≤ D) (hD2 : D ≤ 3200000) (hP : P ≤ 100) (hV : 1 ≤ V) (hV2 : V ≤ 20) : ∃ a b g, FrFacts N D P V a b g := by
  have h1 : N * V ≤ 100000000000 * 20 := Nat.mul_le_mul hN hV2
  have h2 : 60 * P * D ≤ 6000 * 3200000 := Nat.mul_le_mul (by omega) hD2
  have h3 : D * V ≤ 3200000 * 20 := Nat.mul_le_mul hD2 hV2
  have h4 : 1 ≤ D * V := Nat.mul_le_mul hD hV
  have c1 : (N : Int) * (V : Int) = ((N * V : Nat) : Int) := by push_cast; rfl
  have c2 : 60 * (P : Int) * (D : Int) = ((60 * P * D : Nat) : Int) := by push_cast; rfl
  have c3 : (D : Int) * (V : Int) = ((D * V : Nat) : Int) := by push_cast; rfl
  have dv : ∀ a g : Nat, (0 : Int) ≤ (a : Int) / (g : Int) ∧ (a : Int) / (g : Int) ≤ (a : Int) := fun a g => by
    have h : ((a / g : Nat) : Int) ≤ (a : Int) := Int.ofNat_le.2 (Nat.div_le_self a g)
    have h0 : (0 : Int) ≤ ((a / g : Nat) : Int) := Int.natCast_nonneg _
    rw [Int.natCast_ediv] at h h0
    exact ⟨h0, h⟩
  have hg : 0 < Nat.gcd (N * V + 60 * P * D) (D * V) := Nat.gcd_pos_of_pos_right _ (by omega)
  have hgb := Nat.le_of_dvd (by omega) (Nat.gcd_dvd_right (N * V + 60 * P * D) (D * V))
  have d1 := dv (N * V + 60 * P * D) (Nat.gcd (N * V + 60 * P * D) (D * V))
  have d2 := dv (D * V) (Nat.gcd (N * V + 60 * P * D) (D * V))
  generalize hx : N * V = X at *
  generalize hy : 60 * P * D = Y at *
  generalize hz : D * V = Z at *
  refine ⟨X + Y, Z, Nat.gcd (X + Y) Z, ⟨by omega, by omega, h4, hg, hgb, rfl, ?_, c3, ?_, ?_, ?_, ?_, ?_, d1.1, ?_, d2.1, ?_⟩⟩
  · rw [c1, c2]; push_cast; rfl
  · simp only [frS, hx, hy, hz]
  · rw [c1]; omega
  · rw [c1]; omega
  · rw [c2]; omega
  · rw [c2]; omega
  · refine Int.le_trans d1.2 ?_; omega
  · refine Int.le_trans d2.2 ?_; omega

set_option maxHeartbeats 2000000 in
theorem specMin_any {w : World} {B : Nat} {A A2 : Option Addr} {n n2 : Nat} {rs : List (Int × Int × Int)} {zs : List Int} (c c2 : Nat) (h : IsWay w B A n A2 n2 rs zs) (hm : n ≤ maxLen) (i k s : Int) (x y : Int) (b : Bool)
    (hyes : ((goodW rs zs ∧ 0 ≤ i ∧ i ≤ tot rs n) ∧ (0 ≤ k ∧ k ≤ tot rs n) ∧ (1 ≤ s ∧ s ≤ 20)) → x = ((fr rs (min i k) (max i k) s n).1 : Int) ∧ y = ((fr rs (min i k) (max i k) s n).2 : Int) ∧ b = true)
    (hno : ¬ ((goodW rs zs ∧ 0 ≤ i ∧ i ≤ tot rs n) ∧ (0 ≤ k ∧ k ≤ tot rs n) ∧ (1 ≤ s ∧ s ≤ 20)) → x = 0 ∧ y = 0 ∧ b = false) :
    Calls Try.prog 17 #[.agg #[.slice A n c, .slice A2 n2 c2], .int .i64 i, .int .i64 k, .int .i64 s] w fun e w' => e = .returned (.tuple #[.int .i64 x, .int .i64 y, .bool b]) ∧ Below w.heap.size w w' := by
  have HW := Lib.hid h
  have CR := Lib.hid (fun (W : World) (hW : Below w.heap.size w W) i b => l2Place_any c c2 (h.below hW h.low) hm i b)
  have hba := (Below.refl w.heap.size w).alloc (Nat.le_refl _) (.cells #[.slice A n c, .slice A2 n2 c2] 27)
  clear h
  by_cases hg1 : goodW rs zs ∧ 0 ≤ i ∧ i ≤ tot rs n
  · have R1 := Lib.hid (fun W hW => CR.out W hW i true (fun _ => rfl) (fun g => absurd hg1 g))
    by_cases hg2 : 0 ≤ k ∧ k ≤ tot rs n
    · have R2 := Lib.hid (fun W hW => CR.out W hW k true (fun _ => rfl) (fun g => absurd ⟨hg1.1, hg2⟩ g))
      by_cases hs : 1 ≤ s ∧ s ≤ 20
      · obtain ⟨hx, hy, rfl⟩ := hyes ⟨hg1, hg2, hs⟩
        have HX := Lib.hid hx
        have HY := Lib.hid hy
        have LS := Lib.hid (fun W => (decide_eq_true hs) ▸ l1In_any s 1 20 W)
        have LE := Lib.hid (fun x y W => l1Least_any x y W)
        have LM := Lib.hid (fun x y W => l1Most_any x y W)
        obtain ⟨lo, hlo⟩ : ∃ lo, min i k = lo := ⟨_, rfl⟩
        obtain ⟨hi, hhi⟩ : ∃ hi, max i k = hi := ⟨_, rfl⟩
        have hlo0 : 0 ≤ lo := by omega
        have hhi1 : lo ≤ 1000000 ∧ 0 ≤ hi ∧ hi ≤ 1000000 := by
          have := (tot_bd rs (goodW_len hg1.1) n (by rw [HW.out.len]; omega)).2
          have : n ≤ 6 := by rw [← HW.out.len]; exact hg1.1.1.2
          omega
        obtain ⟨hlo1, hhi0, hhi1⟩ := hhi1
        have LL := Lib.hid (fun W => hlo ▸ l1Least_any i k W)
        have LH := Lib.hid (fun W => hhi ▸ l1Most_any i k W)
        rw [hlo, hhi] at HX HY
        have hn6 : n ≤ 6 := by rw [← HW.out.len]; exact hg1.1.1.2
        have FB := Lib.hid (fun k (hk : k < rs.length) => fr_small hg1.1 lo hi hs hk)
        have FF : Hid (∀ k, fr rs lo hi s (k + 1) = frS (vAt rs s k) (pAt rs lo hi k) (fr rs lo hi s k)) := Lib.hid (fun _ => rfl)
        have VB := Lib.hid (fun k (hk : k < rs.length) => vAt_bd hg1.1 hs hk)
        have PB := Lib.hid (fun k (hk : k < rs.length) => pAt_bd hg1.1 lo hi hk)
        have HB := Lib.hid (goodW_spd hg1.1)
        have TB := Lib.hid (fun k (hk : k ≤ rs.length) => tot_bd rs (goodW_len hg1.1) k hk)
        clear CR hyes hno hg1 hg2 hm hs hx hy hlo hhi
        go_enter Try.func17, Try.ntmps17
        go_wp2_with fail
        refine (R1.out _ hba).mono ?_
        rintro e w1 ⟨rfl, hb⟩
        have c0 : w1.cell? ⟨w.heap.size, 0, none⟩ = some (.slice A n c) := (hb.cell (by simp)).trans (by rw [cellNew]; rfl)
        have c1 : w1.cell? ⟨w.heap.size, 1, none⟩ = some (.slice A2 n2 c2) := (hb.cell (by simp)).trans (by rw [cellNew]; rfl)
        have B1 := Lib.hid (hba.trans (hb.mono (by simp)))
        have z1 : w.heap.size < w1.heap.size := by have := hb.size; simp at this; omega
        clear hb hba R1
        go_wp2_with fail
        refine (R2.out _ B1.out).mono ?_
        rintro e w2 ⟨rfl, hb⟩
        replace c0 := (hb.cell (p := ⟨w.heap.size, 0, none⟩) z1).trans c0
        replace c1 := (hb.cell (p := ⟨w.heap.size, 1, none⟩) z1).trans c1
        have B2 := Lib.hid (B1.out.trans (hb.mono B1.out.size))
        have I2 := Lib.hid (HW.out.below B2.out HW.out.low)
        clear hb R2 HW B1
        go_wp2_with fail
        refine (LS.out _).mono ?_
        rintro e w3 ⟨rfl, rfl⟩
        go_wp2_with fail
        refine (LL.out _).mono ?_
        rintro e w3 ⟨rfl, rfl⟩
        go_wp2_with fail
        refine (LH.out _).mono ?_
        rintro e w3 ⟨rfl, rfl⟩
        clear LS LL LH
        go_wp2_with fail
        go_loop [13, 14, 15, 16] (fun a d t q => ∃ k : Nat, k ≤ n ∧ q = .int .i64 k ∧ a = .int .i64 ((fr rs lo hi s k).1 : Int) ∧ d = .int .i64 ((fr rs lo hi s k).2 : Int) ∧ t = .int .i64 (tot rs k)) (fun _ _ _ q => n - (intOf q).toNat)
        case atStart => exact ⟨0, Nat.zero_le _, rfl, rfl, rfl, by simp [tot]⟩
        case round =>
          obtain ⟨k, hk, rfl, rfl, rfl, rfl⟩ := hrel
          have hk0 : (0 : Int) ≤ (k : Int) := by omega
          by_cases hlt : k < n
          · have hkl : k < rs.length := by rw [I2.out.len]; exact hlt
            obtain ⟨a1, rfl, _, e0, e1, e2⟩ := I2.out.has.reachAt hkl
            obtain ⟨f1, f2⟩ := reach_forms e1 e2
            obtain ⟨hV1, hV2, hV3⟩ := VB.out k hkl
            obtain ⟨hP1, hP2⟩ := PB.out k hkl
            obtain ⟨n1, d1, d2⟩ := FB.out k hkl
            obtain ⟨t0, t1⟩ := TB.out k (by omega)
            obtain ⟨u0, u1⟩ := TB.out (k + 1) (by omega)
            have HS := Lib.hid (tot_step rs k hkl)
            have HF := Lib.hid (FF.out k)
            obtain ⟨⟨l0, l1⟩, -⟩ := HB.out _ (List.getElem_mem hkl)
            have HV3 := Lib.hid hV3
            have HP2 := Lib.hid hP2
            clear e1 e2 f1 hV3 hP2 FF FB VB PB TB HB
            generalize (rs[k]'hkl).1 = l at e0 l0 l1 HS
            generalize (rs[k]'hkl).2.2 = sp at f2 HV3
            generalize fr rs lo hi s k = q at n1 d1 d2 HF ⊢
            obtain ⟨N, D⟩ := q
            simp only at n1 d1 d2 ⊢
            generalize vAt rs s k = V at hV1 hV2 HV3 HF
            generalize pAt rs lo hi k = P at hP1 HP2 HF
            obtain ⟨t', ht'⟩ : ∃ t', tot rs (k + 1) = t' := ⟨_, rfl⟩
            rw [ht'] at HS HP2 u0 u1
            have HT := Lib.hid ht'
            clear ht'
            generalize tot rs k = t at HS HP2 t0 t1 ⊢
            have hk1 : (k : Int) < (n : Int) := by omega
            clear I2
            go_wp2_with fail
            rw [← HS.out]
            refine (LE.out _ _ _).mono ?_
            rintro e w4 ⟨rfl, rfl⟩
            go_wp2_with fail
            refine (LM.out _ _ _).mono ?_
            rintro e w4 ⟨rfl, rfl⟩
            have m1 : -1000000 ≤ min hi t' - max lo t ∧ min hi t' - max lo t ≤ 1000000 := by omega
            obtain ⟨a, b, g, hfr⟩ := frFacts n1 d1 d2 hP1 hV1 hV2
            have HFr := Lib.hid hfr
            obtain ⟨a1', b1', b0', g0', gb', -, -, -, -, x0, x1, y0, y1, qa0, qa1, qb0, qb1⟩ := hfr
            have g2' : (g : Int) ≠ 0 := by omega
            have g3' : (0 : Int) < (g : Int) := by omega
            have y2 : (0 : Int) ≤ 60 * (P : Int) := by omega
            have y3 : 60 * (P : Int) ≤ 6000 := by omega
            have z3 := HFr.out.den
            have z1 : (0 : Int) ≤ (D : Int) * (V : Int) := by omega
            have z2 : (D : Int) * (V : Int) ≤ 64000000 := by omega
            have GC := Lib.hid (fun W => HFr.out.gg ▸ l2Common_any a b (by omega) (by omega) W)
            have HR1 : Hid (((frS V P (N, D)).1 : Int) = (a : Int) / (g : Int)) := Lib.hid (by rw [HFr.out.fr, Int.natCast_ediv])
            have HR2 : Hid (((frS V P (N, D)).2 : Int) = (b : Int) / (g : Int)) := Lib.hid (by rw [HFr.out.fr, Int.natCast_ediv])
            clear z3
            go_wp2_with fail
            refine (LM.out _ _ _).mono ?_
            rintro e w4 ⟨rfl, rfl⟩
            rw [← HP2.out]
            clear m1
            go_wp2_with fail
            refine (LE.out _ _ _).mono ?_
            rintro e w4 ⟨rfl, rfl⟩
            rw [← HV3.out]
            go_wp2_with fail
            rw [HFr.out.num, HFr.out.den]
            refine (GC.out _).mono ?_
            rintro e w4 ⟨rfl, rfl⟩
            go_wp2_with fail
            go_round
            case rel => exact ⟨k + 1, by omega, by go_num, by rw [HF.out, HR1.out], by rw [HF.out, HR2.out], by rw [HT.out]⟩
            case measure => simp [intOf]; omega
          · obtain rfl : k = n := by omega
            have hlt4 : ¬ (k : Int) < (k : Int) := by omega
            have HX1 := HX.out
            have HY1 := HY.out
            subst HX1
            subst HY1
            clear I2 FF FB VB PB TB HB
            go_wp2_with fail
            refine bodyPost_ret (results_tmp3 rfl _ _ _) rfl ?_
            exact ⟨rfl, B2.out⟩
      · obtain ⟨rfl, rfl, rfl⟩ := hno (fun g => hs g.2.2)
        have LS := Lib.hid (fun W => (decide_eq_false hs) ▸ l1In_any s 1 20 W)
        clear CR hyes hno hg1 hg2 hm hs
        go_enter Try.func17, Try.ntmps17
        go_wp2_with fail
        refine (R1.out _ hba).mono ?_
        rintro e w1 ⟨rfl, hb⟩
        have c0 : w1.cell? ⟨w.heap.size, 0, none⟩ = some (.slice A n c) := (hb.cell (by simp)).trans (by rw [cellNew]; rfl)
        have c1 : w1.cell? ⟨w.heap.size, 1, none⟩ = some (.slice A2 n2 c2) := (hb.cell (by simp)).trans (by rw [cellNew]; rfl)
        have B1 := Lib.hid (hba.trans (hb.mono (by simp)))
        clear hb hba R1
        go_wp2_with fail
        refine (R2.out _ B1.out).mono ?_
        rintro e w2 ⟨rfl, hb⟩
        have B2 := Lib.hid (B1.out.trans (hb.mono B1.out.size))
        clear hb R2 HW B1
        go_wp2_with fail
        refine (LS.out _).mono ?_
        rintro e w3 ⟨rfl, rfl⟩
        go_wp2_with fail
        refine bodyPost_ret (results_tmp3 rfl _ _ _) rfl ?_
        exact ⟨rfl, B2.out⟩
    · obtain ⟨rfl, rfl, rfl⟩ := hno (fun g => hg2 g.2.1)
      have R2 := Lib.hid (fun W hW => CR.out W hW k false (fun g => absurd g.2 hg2) (fun _ => rfl))
      clear CR hyes hno hg1 hg2 hm
      go_enter Try.func17, Try.ntmps17
      go_wp2_with fail
      refine (R1.out _ hba).mono ?_
      rintro e w1 ⟨rfl, hb⟩
      have c0 : w1.cell? ⟨w.heap.size, 0, none⟩ = some (.slice A n c) := (hb.cell (by simp)).trans (by rw [cellNew]; rfl)
      have c1 : w1.cell? ⟨w.heap.size, 1, none⟩ = some (.slice A2 n2 c2) := (hb.cell (by simp)).trans (by rw [cellNew]; rfl)
      have B1 := Lib.hid (hba.trans (hb.mono (by simp)))
      clear hb hba R1
      go_wp2_with fail
      refine (R2.out _ B1.out).mono ?_
      rintro e w2 ⟨rfl, hb⟩
      go_wp2_with fail
      refine bodyPost_ret (results_tmp3 rfl _ _ _) rfl ?_
      exact ⟨rfl, B1.out.trans (hb.mono B1.out.size)⟩
  · obtain ⟨rfl, rfl, rfl⟩ := hno (fun g => hg1 g.1)
    have R1 := Lib.hid (fun W hW => CR.out W hW i false (fun g => absurd g hg1) (fun _ => rfl))
    clear CR hyes hno hg1 hm
    go_enter Try.func17, Try.ntmps17
    go_wp2_with fail
    refine (R1.out _ hba).mono ?_
    rintro e w1 ⟨rfl, hb⟩
    go_wp2_with fail
    refine bodyPost_ret (results_tmp3 rfl _ _ _) rfl ?_
    exact ⟨rfl, hba.trans (hb.mono (by simp))⟩

theorem ite_min (x y : Int) : (if y < x then y else x) = min x y := by split <;> omega
theorem ite_max (x y : Int) : (if x < y then y else x) = max x y := by split <;> omega
attribute [local go_sem] ite_min ite_max

set_option maxHeartbeats 2000000 in
theorem implMin_any {w : World} {B : Nat} {A A2 : Option Addr} {n n2 : Nat} {rs : List (Int × Int × Int)} {zs : List Int} (c c2 : Nat) (h : IsWay w B A n A2 n2 rs zs) (hm : n ≤ maxLen) (i k s : Int) (x y : Int) (b : Bool)
    (hyes : ((goodW rs zs ∧ 0 ≤ i ∧ i ≤ tot rs n) ∧ (0 ≤ k ∧ k ≤ tot rs n) ∧ (1 ≤ s ∧ s ≤ 20)) → x = ((fr rs (min i k) (max i k) s n).1 : Int) ∧ y = ((fr rs (min i k) (max i k) s n).2 : Int) ∧ b = true)
    (hno : ¬ ((goodW rs zs ∧ 0 ≤ i ∧ i ≤ tot rs n) ∧ (0 ≤ k ∧ k ≤ tot rs n) ∧ (1 ≤ s ∧ s ≤ 20)) → x = 0 ∧ y = 0 ∧ b = false) :
    Calls Try.prog 16 #[.agg #[.slice A n c, .slice A2 n2 c2], .int .i64 i, .int .i64 k, .int .i64 s] w fun e w' => e = .returned (.tuple #[.int .i64 x, .int .i64 y, .bool b]) ∧ Below w.heap.size w w' := by
  have HW := Lib.hid h
  have CR := Lib.hid (fun (o : Obj) (b : Bool) (hy : ((goodW rs zs ∧ 0 ≤ i ∧ i ≤ tot rs n) ∧ (0 ≤ k ∧ k ≤ tot rs n)) → b = true) (hn : ¬ ((goodW rs zs ∧ 0 ≤ i ∧ i ≤ tot rs n) ∧ (0 ≤ k ∧ k ≤ tot rs n)) → b = false) =>
    hasPlaces_any c c2 (h.below (((Below.refl _ w).alloc (Nat.le_refl _) o).alloc (by simp) (.cells #[.int .i64 i, .int .i64 k] 3)) h.low) hm
      (some ⟨(w.alloc o).heap.size, 0, none⟩) 2 2 ((w.alloc o).heap.size + 1) [i, k] rfl (by omega) (by simp) (has_new2 (w.alloc o) (.int .i64 i) (.int .i64 k) 3) b
      (fun g => hy ⟨⟨g.1, ((two_all (P := fun z => 0 ≤ z ∧ z ≤ tot rs n)).1 g.2).1⟩, ((two_all (P := fun z => 0 ≤ z ∧ z ≤ tot rs n)).1 g.2).2⟩) (fun g => hn (fun g' => g ⟨g'.1.1, (two_all (P := fun z => 0 ≤ z ∧ z ≤ tot rs n)).2 ⟨g'.1.2, g'.2⟩⟩)))
  clear h
  simp only [World.size_alloc] at CR
  have hba : ∀ o o', Below w.heap.size w ((w.alloc o).alloc o') := fun o o' => ((Below.refl _ w).alloc (Nat.le_refl _) o).alloc (by simp) o'
  by_cases hg : (goodW rs zs ∧ 0 ≤ i ∧ i ≤ tot rs n) ∧ (0 ≤ k ∧ k ≤ tot rs n)
  · have R1 := Lib.hid (fun o => CR.out o true (fun _ => rfl) (fun g => absurd hg g))
    by_cases hs : 1 ≤ s ∧ s ≤ 20
    · obtain ⟨hx, hy, rfl⟩ := hyes ⟨hg.1, hg.2, hs⟩
      have HX := Lib.hid hx
      have HY := Lib.hid hy
      have LS := Lib.hid (fun W => (decide_eq_true hs) ▸ inRange_any s 1 20 W)
      have hn6 : n ≤ 6 := by rw [← HW.out.len]; exact hg.1.1.1.2
      have hik : (0 ≤ i ∧ i ≤ 1000000) ∧ (0 ≤ k ∧ k ≤ 1000000) := by
        have := (tot_bd rs (goodW_len hg.1.1) n (by rw [HW.out.len]; omega)).2
        omega
      obtain ⟨⟨hi0, hi1⟩, hk0, hk1⟩ := hik
      have hs0 : 1 ≤ s := hs.1
      have hs1 : s ≤ 20 := hs.2
      have FB := Lib.hid (fun j (hj : j < rs.length) => fr_small hg.1.1 (min i k) (max i k) hs hj)
      have FF : Hid (∀ j, fr rs (min i k) (max i k) s (j + 1) = frS (vAt rs s j) (pAt rs (min i k) (max i k) j) (fr rs (min i k) (max i k) s j)) := Lib.hid (fun _ => rfl)
      have VB := Lib.hid (fun j (hj : j < rs.length) => vAt_bd hg.1.1 hs hj)
      have PB := Lib.hid (fun j (hj : j < rs.length) => pAt_bd hg.1.1 (min i k) (max i k) hj)
      have HB := Lib.hid (goodW_spd hg.1.1)
      have TB := Lib.hid (fun j (hj : j ≤ rs.length) => tot_bd rs (goodW_len hg.1.1) j hj)
      clear CR hyes hno hg hm hs hx hy
      go_enter Try.func16, Try.ntmps16
      go_wp2_with fail
      refine (R1.out _).mono ?_
      rintro e w1 ⟨rfl, hb⟩
      have c0 : w1.cell? ⟨w.heap.size, 0, none⟩ = some (.slice A n c) := (hb.cell (by simp; omega)).trans ((World.cell?_alloc_lt _ _ _ (by simp)).trans (by rw [cellNew]; rfl))
      have B1 := Lib.hid ((hba (.cells #[.slice A n c, .slice A2 n2 c2] 27) (.cells #[.int .i64 i, .int .i64 k] 3)).trans (hb.mono (by omega)))
      have I1 := Lib.hid (HW.out.below B1.out HW.out.low)
      clear hb R1 HW hba
      go_wp2_with fail
      refine (LS.out _).mono ?_
      rintro e w2 ⟨rfl, rfl⟩
      clear LS
      go_wp2_with fail
      go_loopw [11, 12, 13, 32] (fun a d t q wr => ∃ j : Nat, j ≤ n ∧ q = .int .i64 j ∧ a = .int .i64 ((fr rs (min i k) (max i k) s j).1 : Int) ∧ d = .int .i64 ((fr rs (min i k) (max i k) s j).2 : Int) ∧ t = .int .i64 (tot rs j) ∧ Below w1.heap.size w1 wr) (fun _ _ _ q _ => n - (intOf q).toNat)
      case atStart => exact ⟨0, Nat.zero_le _, rfl, rfl, rfl, by simp [tot], Below.refl _ _⟩
      case round =>
        obtain ⟨j, hj, rfl, rfl, rfl, rfl, hb⟩ := hrel
        have hj0 : (0 : Int) ≤ (j : Int) := by omega
        by_cases hlt : j < n
        · have hkl : j < rs.length := by rw [I1.out.len]; exact hlt
          obtain ⟨a1, rfl, _, e0, e1, e2⟩ := (I1.out.below hb I1.out.low).has.reachAt hkl
          obtain ⟨f1, f2⟩ := reach_forms e1 e2
          obtain ⟨hV1, hV2, hV3⟩ := VB.out j hkl
          obtain ⟨hP1, hP2⟩ := PB.out j hkl
          obtain ⟨n1, d1, d2⟩ := FB.out j hkl
          obtain ⟨t0, t1⟩ := TB.out j (by omega)
          obtain ⟨u0, u1⟩ := TB.out (j + 1) (by omega)
          have HS := Lib.hid (tot_step rs j hkl)
          have HF := Lib.hid (FF.out j)
          obtain ⟨⟨l0, l1⟩, -⟩ := HB.out _ (List.getElem_mem hkl)
          have HV3 := Lib.hid hV3
          have HP2 := Lib.hid hP2
          have HBw := Lib.hid (hb.alloc hb.size)
          clear e1 e2 hV3 hP2 FF FB VB PB TB HB hb
          generalize (rs[j]'hkl).1 = l at e0 l0 l1 HS
          generalize (rs[j]'hkl).2.1 = dp at f1
          generalize (rs[j]'hkl).2.2 = sp at f2 HV3
          generalize fr rs (min i k) (max i k) s j = q at n1 d1 d2 HF ⊢
          obtain ⟨N, D⟩ := q
          simp only at n1 d1 d2 ⊢
          generalize vAt rs s j = V at hV1 hV2 HV3 HF
          generalize pAt rs (min i k) (max i k) j = P at hP1 HP2 HF
          obtain ⟨t', ht'⟩ : ∃ t', tot rs (j + 1) = t' := ⟨_, rfl⟩
          rw [ht'] at HS HP2 u0 u1
          have HT := Lib.hid ht'
          clear ht'
          generalize tot rs j = t at HS HP2 t0 t1 ⊢
          have hk1 : (j : Int) < (n : Int) := by omega
          clear I1
          have AF : Hid (∀ (c v : Int) (W : World), c = ((60 * P : Nat) : Int) → v = (V : Int) → Calls Try.prog 58 #[.int .i64 N, .int .i64 D, .int .i64 c, .int .i64 v] W fun e w' => e = .returned (.tuple #[.int .i64 ((frS V P (N, D)).1 : Int), .int .i64 ((frS V P (N, D)).2 : Int)]) ∧ Drawn W w') := Lib.hid (fun c v W hc hv => by
            subst hc hv
            exact addFr_any N D P V n1 d1 d2 hP1 hV1 hV2 W)
          go_wp2_with fail
          refine (AF.out _ _ _ ?h1 ?h2).mono ?_
          case h1 => have := HP2.out; have := HS.out; push_cast; omega
          case h2 => have := HV3.out; omega
          rintro e w3 ⟨rfl, hD⟩
          have HBw2 := Lib.hid ((HBw.out _).trans (hD.below _))
          clear hD AF
          go_wp2_with fail
          go_roundw
          case rel => exact ⟨j + 1, by omega, by go_num, by rw [HF.out], by rw [HF.out], by rw [HT.out, HS.out], HBw2.out⟩
          case measure => simp [intOf]; omega
        · obtain rfl : j = n := by omega
          have hlt4 : ¬ (j : Int) < (j : Int) := by omega
          have HX1 := HX.out
          have HY1 := HY.out
          subst HX1
          subst HY1
          clear I1 FF FB VB PB TB HB
          go_wp2_with fail
          refine bodyPost_ret (results_tmp3 rfl _ _ _) rfl ?_
          exact ⟨rfl, B1.out.trans (hb.mono B1.out.size)⟩
    · obtain ⟨rfl, rfl, rfl⟩ := hno (fun g => hs g.2.2)
      have LS := Lib.hid (fun W => (decide_eq_false hs) ▸ inRange_any s 1 20 W)
      clear CR hyes hno hg hm hs
      go_enter Try.func16, Try.ntmps16
      go_wp2_with fail
      refine (R1.out _).mono ?_
      rintro e w1 ⟨rfl, hb⟩
      go_wp2_with fail
      refine (LS.out _).mono ?_
      rintro e w2 ⟨rfl, rfl⟩
      go_wp2_with fail
      refine bodyPost_ret (results_tmp3 rfl _ _ _) rfl ?_
      exact ⟨rfl, (hba _ _).trans (hb.mono (by omega))⟩
  · obtain ⟨rfl, rfl, rfl⟩ := hno (fun g => hg ⟨g.1, g.2.1⟩)
    have R1 := Lib.hid (fun o => CR.out o false (fun g => absurd g hg) (fun _ => rfl))
    clear CR hyes hno hg hm
    go_enter Try.func16, Try.ntmps16
    go_wp2_with fail
    refine (R1.out _).mono ?_
    rintro e w1 ⟨rfl, hb⟩
    go_wp2_with fail
    refine bodyPost_ret (results_tmp3 rfl _ _ _) rfl ?_
    exact ⟨rfl, (hba _ _).trans (hb.mono (by omega))⟩

theorem two_MinutesOnWay (n n2 : Nat) (rs : List (Int × Int × Int)) (zs : List Int) (i k s : Int) (hm : n ≤ maxLen) (_ : (Lit.int .i64 i).wf = true) (_ : (Lit.int .i64 k).wf = true) (_ : (Lit.int .i64 s).wf = true) : ∃ (x y : Int) (z : Bool),
    (∀ (w : World) (B : Nat) (A A2 : Option Addr) (c c2 : Nat), IsWay w B A n A2 n2 rs zs → n ≤ c → n2 ≤ c2 → Calls Try.prog 17 #[.agg #[.slice A n c, .slice A2 n2 c2], .int .i64 i, .int .i64 k, .int .i64 s] w fun e w' => e = .returned (.tuple #[.int .i64 x, .int .i64 y, .bool z]) ∧ Below w.heap.size w w') ∧
    (∀ (w : World) (B : Nat) (A A2 : Option Addr) (c c2 : Nat), IsWay w B A n A2 n2 rs zs → n ≤ c → n2 ≤ c2 → Calls Try.prog 16 #[.agg #[.slice A n c, .slice A2 n2 c2], .int .i64 i, .int .i64 k, .int .i64 s] w fun e w' => e = .returned (.tuple #[.int .i64 x, .int .i64 y, .bool z]) ∧ Below w.heap.size w w') := by
  by_cases hg : (goodW rs zs ∧ 0 ≤ i ∧ i ≤ tot rs n) ∧ (0 ≤ k ∧ k ≤ tot rs n) ∧ (1 ≤ s ∧ s ≤ 20)
  · exact ⟨_, _, true, fun w B A A2 c c2 h _ _ => specMin_any c c2 h hm _ _ _ _ _ _ (fun _ => ⟨rfl, rfl, rfl⟩) (fun g => absurd hg g), fun w B A A2 c c2 h _ _ => implMin_any c c2 h hm _ _ _ _ _ _ (fun _ => ⟨rfl, rfl, rfl⟩) (fun g => absurd hg g)⟩
  · exact ⟨0, 0, false, fun w B A A2 c c2 h _ _ => specMin_any c c2 h hm _ _ _ _ _ _ (fun g => absurd g hg) (fun _ => ⟨rfl, rfl, rfl⟩), fun w B A A2 c c2 h _ _ => implMin_any c c2 h hm _ _ _ _ _ _ (fun g => absurd g hg) (fun _ => ⟨rfl, rfl, rfl⟩)⟩
end Go.Proofs.Ytgnopkemcgbedab
