/- Chapter 2, the program: whether a waterway is valid. -/
import Derived.Test.YtgnopkemcgbedabWayTotal
import Derived.Test.YtgnopkemcgbedabRng
namespace Go.Proofs.Ytgnopkemcgbedab
open Go.RowKit Go.PlainAid

set_option maxHeartbeats 800000 in
theorem isReach_any (l d s : Int) (w : World) :
    Calls Try.prog 115 #[.agg #[.int .i64 l, .int .i64 d, .int .i64 s]] w fun e w' => e = .returned (.bool (decide (goodR l d s))) ∧ Below w.heap.size w w' := by
  have C1 := Lib.hid (fun W => inRange_any l 1 100 W)
  have C2 := Lib.hid (fun W => inRange_any d 100 900 W)
  have C3 := Lib.hid (fun W => inRange_any s 1 20 W)
  have hv : Hid (decide (goodR l d s) = (decide (1 ≤ l ∧ l ≤ 100) && (decide (100 ≤ d ∧ d ≤ 900) && decide (1 ≤ s ∧ s ≤ 20)))) := Lib.hid (by unfold goodR; by_cases h1 : 1 ≤ l ∧ l ≤ 100 <;> by_cases h2 : 100 ≤ d ∧ d ≤ 900 <;> by_cases h3 : 1 ≤ s ∧ s ≤ 20 <;> simp [h1, h2, h3])
  generalize decide (goodR l d s) = B at hv ⊢
  generalize decide (1 ≤ l ∧ l ≤ 100) = b1 at C1 hv
  generalize decide (100 ≤ d ∧ d ≤ 900) = b2 at C2 hv
  generalize decide (1 ≤ s ∧ s ≤ 20) = b3 at C3 hv
  cases b1 with
  | false =>
    obtain rfl : B = false := hv.out
    clear hv C2 C3
    go_enter Try.func115, Try.ntmps115
    go_wp2_with fail
    refine (C1.out _).mono ?_
    rintro e w1 ⟨rfl, rfl⟩
    go_wp2_with fail
    go_ret
    exact ⟨rfl, (Below.refl _ _).alloc (Nat.le_refl _) _⟩
  | true =>
    cases b2 with
    | false =>
      obtain rfl : B = false := hv.out
      clear hv C3
      go_enter Try.func115, Try.ntmps115
      go_wp2_with fail
      refine (C1.out _).mono ?_
      rintro e w1 ⟨rfl, rfl⟩
      go_wp2_with fail
      refine (C2.out _).mono ?_
      rintro e w1 ⟨rfl, rfl⟩
      go_wp2_with fail
      go_ret
      exact ⟨rfl, (Below.refl _ _).alloc (Nat.le_refl _) _⟩
    | true =>
      obtain rfl : B = b3 := hv.out
      clear hv
      go_enter Try.func115, Try.ntmps115
      go_wp2_with fail
      refine (C1.out _).mono ?_
      rintro e w1 ⟨rfl, rfl⟩
      go_wp2_with fail
      refine (C2.out _).mono ?_
      rintro e w1 ⟨rfl, rfl⟩
      go_wp2_with fail
      refine (C3.out _).mono ?_
      rintro e w1 ⟨rfl, rfl⟩
      go_wp2_with fail
      go_ret
      exact ⟨rfl, (Below.refl _ _).alloc (Nat.le_refl _) _⟩

/-- A valid waterway, row by row. -/
theorem goodW_iff (rs : List (Int × Int × Int)) (zs : List Int) : goodW rs zs ↔ (1 ≤ rs.length ∧ rs.length ≤ 6) ∧ zs.length + 1 = rs.length ∧ (∀ j (h : j < rs.length), goodR rs[j].1 rs[j].2.1 rs[j].2.2) ∧ (∀ j (h : j < zs.length), -1000 ≤ zs[j] ∧ zs[j] ≤ 1000) := by
  unfold goodW
  constructor
  · rintro ⟨h1, h2, h3⟩
    refine ⟨h1, h2, fun j h => ((okAt_iff h h2).1 (h3 j h)).1, fun j h => ?_⟩
    have := ((okAt_iff (j := j + 1) (by omega) h2).1 (h3 (j + 1) (by omega))).2 (by omega)
    simpa using this
  · rintro ⟨h1, h2, h3, h4⟩
    exact ⟨h1, h2, fun j h => (okAt_iff h h2).2 ⟨h3 j h, fun h0 => h4 (j - 1) (by omega)⟩⟩

set_option maxHeartbeats 2000000 in
theorem implGood_any (A A2 : Option Addr) (n c n2 c2 B : Nat) (rs : List (Int × Int × Int)) (zs : List Int) (w : World) (b : Bool) (hn : rs.length = n) (hn2 : zs.length = n2) (hm : n ≤ maxLen)
    (hB : B ≤ w.heap.size) (h1 : Has w B A (flat rs)) (h2 : Has w B A2 (zs.map (.int .i64))) (hyes : goodW rs zs → b = true) (hno : ¬ goodW rs zs → b = false) :
    Calls Try.prog 97 #[.agg #[.slice A n c, .slice A2 n2 c2]] w fun e w' => e = .returned (.bool b) ∧ Below w.heap.size w w' := by
  unfold maxLen at hm
  have C0 := Lib.hid (fun W => inRange_any (n : Int) 1 6 W)
  have CR := Lib.hid (fun l d s W => isReach_any l d s W)
  have CI := Lib.hid (fun (z : Int) W => inRange_any z (-1000) 1000 W)
  have HY := Lib.hid hyes
  have HN := Lib.hid hno
  have HL := Lib.hid hn
  have HL2 := Lib.hid hn2
  have H1 := Lib.hid h1
  have H2 := Lib.hid h2
  clear hyes hno hn hn2 h1 h2
  by_cases hr : (1 : Int) ≤ n ∧ (n : Int) ≤ 6
  · have hd : decide ((1 : Int) ≤ n ∧ (n : Int) ≤ 6) = true := decide_eq_true hr
    rw [hd] at C0
    by_cases he : (n2 : Int) = (n : Int) - 1
    · have hne : ((n2 : Int) != (n : Int) - 1) = false := by simp [he]
      have HE := Lib.hid he
      clear hd
      go_enter Try.func97, Try.ntmps97
      go_wp2_with fail
      refine (C0.out _).mono ?_
      rintro e w1 ⟨rfl, rfl⟩
      go_wp2_with fail
      clear he C0
      go_loopw [25] (fun i wr => ∃ k : Nat, k ≤ n ∧ i = .int .i64 k ∧ Hid (∀ j (h : j < rs.length), j < k → goodR rs[j].1 rs[j].2.1 rs[j].2.2) ∧ Below (w.heap.size + 1) (w.alloc (.cells #[.slice A n c, .slice A2 n2 c2] 27)) wr) (fun i _ => n - (intOf i).toNat)
      case atStart => exact ⟨0, Nat.zero_le _, rfl, Lib.hid (by simp), Below.refl _ _⟩
      case round =>
        obtain ⟨k, hk, rfl, hall, hb⟩ := hrel
        have hbb : Below w.heap.size w wr := ((Below.refl _ _).alloc (Nat.le_refl _) _).trans (hb.mono (by omega))
        by_cases hlt : k < n
        · obtain ⟨a1, rfl, hab, e0, e1, e2⟩ := ((H1.out.alloc hB _).below (hb.mono (by omega))).reachAt (k := k) (by rw [HL.out]; omega)
          have hk0 : (0 : Int) ≤ (k : Int) := by omega
          have hk1 : (k : Int) < (n : Int) := by omega
          have hkl : k < rs.length := by rw [HL.out]; exact hlt
          have HF : Hid (¬ goodR (rs[k]'hkl).1 (rs[k]'hkl).2.1 (rs[k]'hkl).2.2 → b = false) := Lib.hid (fun h => HN.out (fun g => h (((goodW_iff _ _).1 g).2.2.1 k hkl)))
          have HA : Hid (goodR (rs[k]'hkl).1 (rs[k]'hkl).2.1 (rs[k]'hkl).2.2 → ∀ j (h : j < rs.length), j < k + 1 → goodR rs[j].1 rs[j].2.1 rs[j].2.2) := Lib.hid (fun h j hj hj2 => by
            rcases Nat.lt_succ_iff_lt_or_eq.1 hj2 with h1 | h1
            · exact hall.out j hj h1
            · subst h1; exact h)
          have CRk := Lib.hid (fun W => CR.out (rs[k]'hkl).1 (rs[k]'hkl).2.1 (rs[k]'hkl).2.2 W)
          generalize (rs[k]'hkl).1 = l at e0 HF HA CRk
          generalize (rs[k]'hkl).2.1 = d at e1 HF HA CRk
          generalize (rs[k]'hkl).2.2 = s at e2 HF HA CRk
          obtain ⟨f1, f2⟩ := reach_forms e1 e2
          have HBox := Lib.hid hb
          have HBB := Lib.hid hbb
          clear hb hbb hall CR HY HN H1 e1 e2
          by_cases hg : goodR l d s
          · rw [decide_eq_true hg] at CRk
            have hsz : w.heap.size + 1 ≤ wr.heap.size := by simpa using HBox.out.size
            have HR := Lib.hid (HA.out hg)
            clear HF HA hg
            go_wp2_with fail
            refine (CRk.out _).mono ?_
            rintro e w2 ⟨rfl, hb2⟩
            have HB2 := Lib.hid ((HBox.out.alloc hsz (.cells #[.int .i64 l, .int .i64 d, .int .i64 s] 83)).trans (hb2.mono (by simp; omega)))
            clear hb2
            go_wp2_with fail
            go_roundw
            case rel => exact ⟨k + 1, by omega, by go_num, HR, HB2.out⟩
            case measure => simp [intOf]; omega
          · rw [decide_eq_false hg] at CRk
            obtain rfl : b = false := HF.out hg
            clear HF HA hg
            go_wp2_with fail
            refine (CRk.out _).mono ?_
            rintro e w2 ⟨rfl, hb2⟩
            go_wp2_with fail
            go_ret
            exact ⟨rfl, (HBB.out.alloc HBB.out.size _).trans (hb2.mono (by have := HBB.out.size; simp; omega))⟩
        · obtain rfl : k = n := by omega
          have HG := Lib.hid (fun j (h : j < rs.length) => hall.out j h (by rw [HL.out] at h; exact h))
          have HB := Lib.hid hb
          have c1 : wr.cell? ⟨w.heap.size, 1, none⟩ = some (.slice A2 n2 c2) := (hb.cell (by simp)).trans (by rw [cellNew]; rfl)
          have hlt2 : ¬ (k : Int) < (k : Int) := by omega
          clear hb hbb hall CR H1
          go_wp2_with fail
          go_loop [36] (fun i => ∃ q : Nat, q ≤ n2 ∧ i = .int .i64 q ∧ Hid (∀ j (h : j < zs.length), j < q → -1000 ≤ zs[j] ∧ zs[j] ≤ 1000)) (fun i => n2 - (intOf i).toNat)
          case atStart => exact ⟨0, Nat.zero_le _, rfl, Lib.hid (by simp)⟩
          case round =>
            obtain ⟨q, hq, rfl, hall2⟩ := hrel
            by_cases hlt3 : q < n2
            · have hql : q < zs.length := by rw [HL2.out]; exact hlt3
              obtain ⟨a2, rfl, hab2, ez⟩ := ((H2.out.alloc hB (.cells #[.slice A k c, .slice A2 n2 c2] 27)).below (HB.out.mono (by omega))).intAt (k := q) hql
              have HF2 : Hid (¬ (-1000 ≤ zs[q] ∧ zs[q] ≤ 1000) → b = false) := Lib.hid (fun h => HN.out (fun g => h (((goodW_iff _ _).1 g).2.2.2 q hql)))
              have HA2 : Hid ((-1000 ≤ zs[q] ∧ zs[q] ≤ 1000) → ∀ j (h : j < zs.length), j < q + 1 → -1000 ≤ zs[j] ∧ zs[j] ≤ 1000) := Lib.hid (fun h j hj hj2 => by
                rcases Nat.lt_succ_iff_lt_or_eq.1 hj2 with h1 | h1
                · exact hall2.out j hj h1
                · subst h1; exact h)
              have CZ := Lib.hid (fun W => CI.out zs[q] W)
              generalize zs[q] = z at ez HF2 HA2 CZ
              have hq0 : (0 : Int) ≤ (q : Int) := by omega
              have hq1 : (q : Int) < (n2 : Int) := by omega
              have hq2 : (n2 : Int) ≤ 6 := by have := HE.out; omega
              clear hall2 HN HY CI
              by_cases hz : -1000 ≤ z ∧ z ≤ 1000
              · rw [decide_eq_true hz] at CZ
                have HR := Lib.hid (HA2.out hz)
                clear HF2 HA2 hz
                go_wp2_with fail
                refine (CZ.out _).mono ?_
                rintro e w3 ⟨rfl, rfl⟩
                go_wp2_with fail
                go_round
                case rel => exact ⟨q + 1, by omega, by go_num, HR⟩
                case measure => simp [intOf]; omega
              · rw [decide_eq_false hz] at CZ
                obtain rfl : b = false := HF2.out hz
                clear HF2 HA2 hz
                go_wp2_with fail
                refine (CZ.out _).mono ?_
                rintro e w3 ⟨rfl, rfl⟩
                go_wp2_with fail
                go_ret
                exact ⟨rfl, ((Below.refl _ _).alloc (Nat.le_refl _) _).trans (HB.out.mono (by omega))⟩
            · obtain rfl : q = n2 := by omega
              obtain rfl : b = true := HY.out ((goodW_iff _ _).2 ⟨by rw [HL.out]; omega, by rw [HL.out, HL2.out]; have := HE.out; omega, HG.out, fun j h => hall2.out j h (by rw [HL2.out] at h; exact h)⟩)
              have hlt4 : ¬ (q : Int) < (q : Int) := by omega
              clear hall2 HG HN HY
              go_wp2_with fail
              go_ret
              exact ⟨rfl, ((Below.refl _ _).alloc (Nat.le_refl _) _).trans (HB.out.mono (by omega))⟩
    · have hne : ((n2 : Int) != (n : Int) - 1) = true := by simp [he]
      obtain rfl : b = false := HN.out (fun h => he (by have := h.2.1; rw [HL.out, HL2.out] at this; omega))
      clear hd
      go_enter Try.func97, Try.ntmps97
      go_wp2_with fail
      refine (C0.out _).mono ?_
      rintro e w1 ⟨rfl, rfl⟩
      go_wp2_with fail
      go_ret
      exact ⟨rfl, (Below.refl _ _).alloc (Nat.le_refl _) _⟩
  · have hd : decide ((1 : Int) ≤ n ∧ (n : Int) ≤ 6) = false := decide_eq_false hr
    rw [hd] at C0
    obtain rfl : b = false := HN.out (fun h => hr (by have := h.1; rw [HL.out] at this; omega))
    clear hd
    go_enter Try.func97, Try.ntmps97
    go_wp2_with fail
    refine (C0.out _).mono ?_
    rintro e w1 ⟨rfl, rfl⟩
    go_wp2_with fail
    go_ret
    exact ⟨rfl, (Below.refl _ _).alloc (Nat.le_refl _) _⟩
end Go.Proofs.Ytgnopkemcgbedab
