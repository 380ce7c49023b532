/- Chapter 8, the model: which vessel may be next, whether an order is one. -/
import Derived.Test.YtdleidlmjliapaaLkC
namespace Go.Proofs.Ytdleidlmjliapaa
open Go.RowKit Go.PlainAid Go.Sort
set_option linter.unusedVariables false
set_option linter.unusedSimpArgs false

set_option maxHeartbeats 1000000 in
theorem l8Before_any (a b : TArrival) (w : World) :
    Calls Try.prog 93 #[.agg #[.int .i64 a.x0, .bool a.x1, .int .i64 a.x2, .int .i64 a.x3], .agg #[.int .i64 b.x0, .bool b.x1, .int .i64 b.x2, .int .i64 b.x3]] w fun e w' => e = .returned (.bool (decide (bef a b))) ∧ Below w.heap.size w w' := by
  obtain ⟨i, u, m, q⟩ := a
  obtain ⟨i2, u2, m2, q2⟩ := b
  dsimp only
  have hd : bef ⟨i, u, m, q⟩ ⟨i2, u2, m2, q2⟩ ↔ m < m2 ∨ m = m2 ∧ i < i2 := Iff.rfl
  have HBB := Lib.hid (below2 w (.cells #[.int .i64 i, .bool u, .int .i64 m, .int .i64 q] 58) (.cells #[.int .i64 i2, .bool u2, .int .i64 m2, .int .i64 q2] 58))
  by_cases h1 : m < m2
  · rw [decide_eq_true (hd.2 (.inl h1))]
    clear hd
    go_enter Try.func93, Try.ntmps93
    go_wp2
    go_ret
    exact ⟨rfl, HBB.out⟩
  · by_cases h2 : m = m2
    · subst h2
      have hmb : (m == m) = true := by simp
      by_cases h3 : i < i2
      · rw [decide_eq_true (hd.2 (.inr ⟨rfl, h3⟩))]
        clear hd
        go_enter Try.func93, Try.ntmps93
        go_wp2
        go_ret
        exact ⟨rfl, HBB.out⟩
      · rw [decide_eq_false (fun h => by have := hd.1 h; omega)]
        clear hd
        go_enter Try.func93, Try.ntmps93
        go_wp2
        go_ret
        exact ⟨rfl, HBB.out⟩
    · rw [decide_eq_false (fun h => by have := hd.1 h; omega)]
      have hmb : (m == m2) = false := by simpa using h2
      clear hd h2
      go_enter Try.func93, Try.ntmps93
      go_wp2
      go_ret
      exact ⟨rfl, HBB.out⟩
theorem has_iff {L : List Int} {x : Int} : L.contains x = true ↔ x ∈ L := by simp
set_option maxHeartbeats 1000000 in
theorem l1Has_any {w : World} {B : Nat} {A : Option Addr} {n : Nat} {L : List Int} (c : Nat) (x : Int) (hm : n ≤ 1048576) (h : IsIs w B A n L) :
    Calls Try.prog 98 #[.slice A n c, .int .i64 x] w fun e w' => e = .returned (.bool (L.contains x)) ∧ w = w' := by
  have HI := Lib.hid h
  have HN : Hid ((∀ j, j < n → L.getD j 0 ≠ x) → L.contains x = false) := Lib.hid (fun hz => by
    cases hc : L.contains x with
    | false => rfl
    | true =>
      obtain ⟨q, hq, e⟩ := List.getElem_of_mem (has_iff.1 hc)
      exact absurd (by rw [List.getD_eq_getElem?_getD, List.getElem?_eq_getElem hq]; exact e) (hz q (by rw [← HI.out.len]; exact hq)))
  have HY : Hid (∀ j, j < n → L.getD j 0 = x → L.contains x = true) := Lib.hid (fun j hj e => has_iff.2 (e ▸ getD_mem (by rw [HI.out.len]; exact hj)))
  generalize L.contains x = R at HN HY ⊢
  clear h
  go_enter Try.func98, Try.ntmps98
  go_wp2_with fail
  go_loop [5] (fun i => ∃ q : Nat, q ≤ n ∧ i = .int .i64 q ∧ Hid (∀ j, j < q → L.getD j 0 ≠ x)) (fun i => n - (intOf i).toNat)
  case atStart => exact ⟨0, Nat.zero_le _, rfl, Lib.hid (fun j hj => absurd hj (by omega))⟩
  case round =>
    obtain ⟨q, hq, rfl, hall⟩ := hrel
    by_cases hlt : q < n
    · obtain ⟨a2, rfl, hab2, ez⟩ := Has.numAt HI.out.has (k := q) (by rw [HI.out.len]; exact hlt)
      have HF2 := Lib.hid (HY.out q hlt)
      have HA2 : Hid (L.getD q 0 ≠ x → ∀ j, j < q + 1 → L.getD j 0 ≠ x) := Lib.hid (fun h j hj => by
        rcases Nat.lt_succ_iff_lt_or_eq.1 hj with h1 | h1
        · exact hall.out j h1
        · subst h1; exact h)
      generalize L.getD q 0 = z at ez HF2 HA2
      have hq0 : (0 : Int) ≤ (q : Int) := by omega
      have hq1 : (q : Int) < (n : Int) := by omega
      clear hall HN HY HI
      by_cases hz : z = x
      · have hzb : (z == x) = true := by simp [hz]
        obtain rfl : R = true := HF2.out hz
        clear HF2 HA2 hz
        go_wp2_with fail
        go_ret
        exact ⟨rfl, rfl⟩
      · have hzb : (z == x) = false := by simp [hz]
        have HT := Lib.hid (HA2.out hz)
        clear HF2 HA2 hz
        go_wp2_with fail
        go_round
        case rel => exact ⟨q + 1, by omega, by go_num, HT⟩
        case measure => simp [intOf]; omega
    · obtain rfl : q = n := by omega
      obtain rfl : R = false := HN.out (fun j h => hall.out j h)
      clear hall HY HI
      go_wp2_with fail
      go_ret
      exact ⟨rfl, rfl⟩
/-- It does not hinder the next one. -/
def freeP (vs : List TArrival) (L : List Int) (i : Int) (k : Nat) : Prop := (vs.getD k noArrival).x1 = (atA vs i).x1 → bef (vs.getD k noArrival) (atA vs i) → (k : Int) ∈ L
set_option maxRecDepth 100000 in
set_option maxHeartbeats 8000000 in
theorem l8Next_any {w : World} {B B2 : Nat} {A A2 : Option Addr} {n n2 : Nat} {vs : List TArrival} {L : List Int} (c c2 : Nat) (h : IsArrivals w B A n vs) (hm : n ≤ 1000) (h2 : IsIs w B2 A2 n2 L) (hm2 : n2 ≤ 1048576) (i : Int) (hi : inA n i) :
    Calls Try.prog 83 #[.slice A n c, .slice A2 n2 c2, .int .i64 i] w fun e w' => e = .returned (.bool (nxA vs L i)) ∧ Below w.heap.size w w' := by
  have HI := Lib.hid h
  have HO := Lib.hid h2
  have CH := Lib.hid (fun (x : Int) (W : World) (hb : Below w.heap.size w W) => toBelow (l1Has_any c2 x hm2 (h2.below hb h2.low)))
  have HNX := Lib.hid (nxA_iff vs L i)
  generalize nxA vs L i = R at HNX ⊢
  obtain ⟨M, hM⟩ : ∃ M, L.contains i = M := ⟨_, rfl⟩
  have CH0 := Lib.hid (CH.out i w (Below.refl _ _))
  rw [hM] at CH0
  have HM : Hid (M = true ↔ i ∈ L) := Lib.hid (by rw [← hM]; exact has_iff)
  clear h h2 hM
  go_enter Try.func83, Try.ntmps83
  go_wp2_with fail
  refine CH0.out.mono ?_
  rintro e w1 ⟨rfl, hb1⟩
  have HB1 := Lib.hid hb1
  clear hb1 CH0
  cases M with
  | true =>
    obtain rfl : R = false := by
      cases R with
      | false => rfl
      | true => exact absurd (HM.out.1 rfl) (HNX.out.1 rfl).1
    clear HNX HM CH
    go_wp2_with fail
    go_ret
    exact ⟨rfl, HB1.out⟩
  | false =>
    have HNO : Hid (∀ k, k < n → ¬ freeP vs L i k → R = false) := Lib.hid (fun k hk hf => by
      cases R with
      | false => rfl
      | true => exact absurd (fun a b => (HNX.out.1 rfl).2 k (by rw [HI.out.len]; exact hk) a b) hf)
    have HYES : Hid ((∀ k, k < n → freeP vs L i k) → R = true) := Lib.hid (fun hf => HNX.out.2 ⟨fun hm => (by have := HM.out.2 hm; cases this), fun k hk => hf k (by rw [← HI.out.len]; exact hk)⟩)
    clear HNX HM
    obtain ⟨kn, rfl, hkn⟩ := inA_nat hi
    obtain ⟨U, hU⟩ : ∃ U, vs.getD kn noArrival = U := ⟨_, rfl⟩
    have HAT : Hid (atA vs (kn : Int) = U) := Lib.hid (by rw [atA_cast, hU])
    have HUX := Lib.hid (fun (W : World) (hb : Below w.heap.size w W) => by
      have := (HI.out.below hb HI.out.low).has.Arrival (k := kn) (by rw [HI.out.len]; exact hkn)
      rw [hU] at this
      exact this)
    have hk2 : (0 : Int) ≤ (kn : Int) := by omega
    have hk3 : (kn : Int) < (n : Int) := by omega
    obtain ⟨i2, u2, m2, q2⟩ := U
    clear hi hU
    go_wp2_with fail
    go_loopw [7] (fun j wr => ∃ k : Nat, k ≤ n ∧ j = .int .i64 k ∧ Hid (∀ p, p < k → freeP vs L (kn : Int) p) ∧ Below w.heap.size w wr) (fun i _ => n - (intOf i).toNat)
    case atStart => exact ⟨0, Nat.zero_le _, rfl, Lib.hid (by simp), HB1.out⟩
    case round =>
      obtain ⟨k, hk, rfl, hall, hb⟩ := hrel
      have HB := Lib.hid hb
      by_cases hlt : k < n
      · have hk0 : (0 : Int) ≤ (k : Int) := by omega
        have hk1 : (k : Int) < (n : Int) := by omega
        have HA : Hid (freeP vs L (kn : Int) k → ∀ p, p < k + 1 → freeP vs L (kn : Int) p) := Lib.hid (fun h j hj => by
          rcases Nat.lt_succ_iff_lt_or_eq.1 hj with h1 | h1
          · exact hall.out j h1
          · subst h1; exact h)
        have HF := Lib.hid (HNO.out k hlt)
        clear hall hb
        by_cases hkk : k = kn
        · have HT := Lib.hid (HA.out (fun _ hb => by rw [hkk, atA_cast] at hb; exact absurd hb (bef_irr _)))
          have hkb : ((k : Int) != (kn : Int)) = false := by simp [hkk]
          clear HA HF HNO HYES HUX CH HI HO hkk
          go_wp2_with fail
          refine wp_region_quiet_below (by kernel_rfl) (by kernel_rfl) ?_
          repeat (go_big_quiet_step (first | fail))
          refine wpQuiet_nil ?_
          intro _ hw'
          obtain ⟨⟨dq, osq⟩, hw''⟩ := hw'
          subst hw''
          have HBX := Lib.hid (HB.out.trans ((below_regrown wr dq osq).mono HB.out.size))
          go_wp2_with fail
          go_roundw
          case rel => exact ⟨k + 1, by omega, by go_num, HT, HBX.out⟩
          case measure => simp [intOf]; omega
        · have hkb : ((k : Int) != (kn : Int)) = true := by simp; omega
          obtain ⟨a1, rfl, hab, HV⟩ := (HI.out.below HB.out HI.out.low).has.Arrival (k := k) (by rw [HI.out.len]; exact hlt)
          obtain ⟨a2, ea, -, HU⟩ := HUX.out _ HB.out
          injection ea with ea
          subst ea
          have HFP : Hid (freeP vs L (kn : Int) k ↔ ((vs.getD k noArrival).x1 = u2 → bef (vs.getD k noArrival) ⟨i2, u2, m2, q2⟩ → (k : Int) ∈ L)) := Lib.hid (by unfold freeP; rw [HAT.out])
          generalize vs.getD k noArrival = V at HV HFP
          have C1 := Lib.hid (fun W => l8Before_any V ⟨i2, u2, m2, q2⟩ W)
          have C2 := Lib.hid (CH.out (k : Int))
          obtain ⟨i0, u, m0, q0⟩ := V
          obtain ⟨e0, e1, e2, e3⟩ := HV
          obtain ⟨f0, f1, f2, f3⟩ := HU
          dsimp only at e0 e1 e2 e3 f0 f1 f2 f3 HFP C1
          have E1 := fun (d : Nat) (os : Array Obj) => cell_regrown e1 d os
          have F1 := fun (d : Nat) (os : Array Obj) => cell_regrown f1 d os
          by_cases huu : u = u2
          · subst huu
            have hub : (u == u) = true := by simp
            have E0 := fun (d : Nat) (os : Array Obj) => cell_regrown e0 d os
            have E2 := fun (d : Nat) (os : Array Obj) => cell_regrown e2 d os
            have E3 := fun (d : Nat) (os : Array Obj) => cell_regrown e3 d os
            have F0 := fun (d : Nat) (os : Array Obj) => cell_regrown f0 d os
            have F2 := fun (d : Nat) (os : Array Obj) => cell_regrown f2 d os
            have F3 := fun (d : Nat) (os : Array Obj) => cell_regrown f3 d os
            have HBF : Hid (freeP vs L (kn : Int) k ↔ (bef ⟨i0, u, m0, q0⟩ ⟨i2, u, m2, q2⟩ → (k : Int) ∈ L)) := Lib.hid (HFP.out.trans ⟨fun h => h rfl, fun h _ => h⟩)
            obtain ⟨D, hD⟩ : ∃ D, decide (bef ⟨i0, u, m0, q0⟩ ⟨i2, u, m2, q2⟩) = D := ⟨_, rfl⟩
            rw [hD] at C1
            have c1 := fun (dr : Nat) (os : Array Obj) => Calls.regrown_of (w := wr) (d := dr) (os := os) (C1.out _)
            clear e0 e1 e2 e3 f0 f1 f2 f3 HFP C1
            cases D with
            | false =>
              have HT := Lib.hid (HA.out (HBF.out.2 (fun h => absurd h (of_decide_eq_false hD))))
              clear HBF HA HF hD
              go_wp2_with fail
              refine wp_region_quiet_below (by kernel_rfl) (by kernel_rfl) ?_
              repeat (go_big_quiet_step (first | (go_at_call 93; exact c1 _ _)))
              refine wpQuiet_nil ?_
              intro _ hw'
              obtain ⟨⟨dq, osq⟩, hw''⟩ := hw'
              subst hw''
              have HBX := Lib.hid (HB.out.trans ((below_regrown wr dq osq).mono HB.out.size))
              clear E0 E1 E2 E3 F0 F1 F2 F3 c1
              go_wp2_with fail
              go_roundw
              case rel => exact ⟨k + 1, by omega, by go_num, HT, HBX.out⟩
              case measure => simp [intOf]; omega
            | true =>
              obtain ⟨M, hM⟩ : ∃ M, L.contains (k : Int) = M := ⟨_, rfl⟩
              rw [hM] at C2
              have c2x := fun (dr : Nat) (os : Array Obj) => Calls.regrown_of (w := wr) (d := dr) (os := os) (C2.out _ (HB.out.trans ((below_regrown wr dr os).mono HB.out.size)))
              have HM : Hid (M = true ↔ (k : Int) ∈ L) := Lib.hid (by rw [← hM]; exact has_iff)
              have HBE := Lib.hid (of_decide_eq_true hD)
              clear hM C2 hD
              cases M with
              | true =>
                have HT := Lib.hid (HA.out (HBF.out.2 (fun _ => HM.out.1 rfl)))
                clear HBF HA HF
                go_wp2_with fail
                refine wp_region_quiet_below (by kernel_rfl) (by kernel_rfl) ?_
                repeat (go_big_quiet_step (first | (go_at_call 93; exact c1 _ _) | (go_at_call 98; exact c2x _ _)))
                refine wpQuiet_nil ?_
                intro _ hw'
                obtain ⟨⟨dq, osq⟩, hw''⟩ := hw'
                subst hw''
                have HBX := Lib.hid (HB.out.trans ((below_regrown wr dq osq).mono HB.out.size))
                clear E0 E1 E2 E3 F0 F1 F2 F3 c1 c2x
                go_wp2_with fail
                go_roundw
                case rel => exact ⟨k + 1, by omega, by go_num, HT, HBX.out⟩
                case measure => simp [intOf]; omega
              | false =>
                obtain rfl : R = false := HF.out (fun h => by have := HM.out.2 (HBF.out.1 h HBE.out); cases this)
                clear HBF HA HF HNO HYES
                go_wp2_with fail
                refine wp_region_quiet_below (by kernel_rfl) (by kernel_rfl) ?_
                repeat (go_big_quiet_step (first | (go_at_call 93; exact c1 _ _) | (go_at_call 98; exact c2x _ _)))
                refine wpQuiet_nil ?_
                intro _ hw'
                obtain ⟨⟨dq, osq⟩, hw''⟩ := hw'
                subst hw''
                have HBX := Lib.hid (HB.out.trans ((below_regrown wr dq osq).mono HB.out.size))
                clear E0 E1 E2 E3 F0 F1 F2 F3 c1 c2x
                go_wp2_with fail
                go_ret
                exact ⟨rfl, HBX.out⟩
          · have hub : (u == u2) = false := by simpa using huu
            have HT := Lib.hid (HA.out (HFP.out.2 (fun h => absurd h huu)))
            clear e0 e1 e2 e3 f0 f1 f2 f3 HFP C1 C2 HA HF huu
            go_wp2_with fail
            refine wp_region_quiet_below (by kernel_rfl) (by kernel_rfl) ?_
            repeat (go_big_quiet_step (first | fail))
            refine wpQuiet_nil ?_
            intro _ hw'
            obtain ⟨⟨dq, osq⟩, hw''⟩ := hw'
            subst hw''
            have HBX := Lib.hid (HB.out.trans ((below_regrown wr dq osq).mono HB.out.size))
            clear E1 F1
            go_wp2_with fail
            go_roundw
            case rel => exact ⟨k + 1, by omega, by go_num, HT, HBX.out⟩
            case measure => simp [intOf]; omega
      · obtain rfl : k = n := by omega
        obtain rfl : R = true := HYES.out hall.out
        clear HNO HYES hall CH HUX
        go_wp2_with fail
        go_ret
        exact ⟨rfl, hb⟩
theorem take_has {w : World} {B : Nat} {A : Option Addr} {n : Nat} {L : List Int} (h : IsIs w B A n L) {k : Nat} (hk : k ≤ n) : IsIs w B A k (L.take k) :=
  ⟨by rw [List.length_take, h.len]; omega, h.low, by
    intro j u hu
    rw [List.map_take, List.getElem?_take] at hu
    split at hu
    · exact h.has j u hu
    · cases hu⟩
set_option maxRecDepth 100000 in
set_option maxHeartbeats 4000000 in
theorem l8Order_any {w : World} {B B2 : Nat} {A A2 : Option Addr} {n n2 : Nat} {vs : List TArrival} {os : List Int} (c c2 : Nat) (h : IsArrivals w B A n vs) (hm : n ≤ 1048576) (h2 : IsIs w B2 A2 n2 os) (hm2 : n2 ≤ 1048576) (hnc : n2 ≤ c2) :
    Calls Try.prog 51 #[.slice A n c, .slice A2 n2 c2] w fun e w' => e = .returned (.bool (oA vs os)) ∧ Below w.heap.size w w' := by
  have CG := Lib.hid (l8Good_any c h (Nat.le_trans hm (by unfold maxLen; omega)))
  have CI := Lib.hid (fun (x : Int) W => toBelow (l1In_any x 0 ((n : Int) - 1) W))
  have CN := Lib.hid (fun (hn6 : n ≤ 6) (hnn : n2 = n) (k : Nat) (hk : k < n) (i : Int) (hi : inA n i) (W : World) (hb : Below w.heap.size w W) => l8Next_any c c2 (h.below hb h.low) (by omega) (take_has (h2.below hb h2.low) (k := k) (by omega)) (by omega) i hi)
  have HL := Lib.hid h.len
  have HO := Lib.hid h2
  have HN := Lib.hid (fun h : ¬ OrdA vs os => oA_no h)
  have HY := Lib.hid (fun h : OrdA vs os => oA_yes h)
  have HGI := Lib.hid (gAs_iff vs)
  generalize oA vs os = R at HN HY ⊢
  generalize gAs vs = G at CG HGI
  clear h h2
  go_enter Try.func51, Try.ntmps51
  go_wp2_with fail
  refine CG.out.mono ?_
  rintro e w1 ⟨rfl, hb1⟩
  have HB1 := Lib.hid hb1
  clear hb1 CG
  cases G with
  | false =>
    obtain rfl : R = false := HN.out (fun g => by have := HGI.out.2 g.1; cases this)
    clear HN HY HGI CI CN
    go_wp2_with fail
    go_ret
    exact ⟨rfl, HB1.out⟩
  | true =>
    have HG := Lib.hid (HGI.out.1 rfl)
    have hn6 : n ≤ 6 := by rw [← HL.out]; exact HG.out.1
    by_cases hnn : n2 = n
    · subst hnn
      have HYY : Hid ((∀ p, p < n2 → okO vs os p) → R = true) := Lib.hid (fun hz => HY.out ⟨HG.out, by rw [HO.out.len, HL.out], fun p hp => hz p (by rw [← HO.out.len]; exact hp)⟩)
      have HNN : Hid (∀ p, p < n2 → ¬ okO vs os p → R = false) := Lib.hid (fun p hp hb => HN.out (fun g => hb (g.2.2 p (by rw [HO.out.len]; exact hp))))
      have CK := Lib.hid (CN.out hn6 rfl)
      have hnb : ((n2 : Int) != (n2 : Int)) = false := by simp
      clear HN HY HGI HG CN
      go_wp2_with fail
      go_loopw [5] (fun i wr => ∃ k : Nat, k ≤ n2 ∧ i = .int .i64 k ∧ Hid (∀ p, p < k → okO vs os p) ∧ Below w.heap.size w wr) (fun i _ => n2 - (intOf i).toNat)
      case atStart => exact ⟨0, Nat.zero_le _, rfl, Lib.hid (by simp), HB1.out⟩
      case round =>
        obtain ⟨k, hk, rfl, hall, hb⟩ := hrel
        have HB := Lib.hid hb
        by_cases hlt : k < n2
        · obtain ⟨a2, rfl, hab2, ez⟩ := Has.numAt (HO.out.below HB.out HO.out.low).has (k := k) (by rw [HO.out.len]; exact hlt)
          have HF := Lib.hid (HNN.out k hlt)
          have HA : Hid (okO vs os k → ∀ p, p < k + 1 → okO vs os p) := Lib.hid (fun h j hj => by
            rcases Nat.lt_succ_iff_lt_or_eq.1 hj with h1 | h1
            · exact hall.out j h1
            · subst h1; exact h)
          have HOK : Hid (okO vs os k ↔ inA n2 (os.getD k 0) ∧ nxA vs (os.take k) (os.getD k 0) = true) := Lib.hid (by unfold okO; rw [HL.out, nxA_iff])
          generalize os.getD k 0 = i at ez HOK
          have c1 := fun (dr : Nat) (os : Array Obj) => Calls.regrown_of (w := wr) (d := dr) (os := os) (CI.out i _)
          have E0 := fun (d : Nat) (os : Array Obj) => cell_regrown ez d os
          have hk0 : (0 : Int) ≤ (k : Int) := by omega
          have hk1 : (k : Int) < (n2 : Int) := by omega
          have hkc : (k : Int) ≤ (c2 : Int) := by omega
          clear hb hall
          by_cases hi : 0 ≤ i ∧ i ≤ (n2 : Int) - 1
          · rw [decide_eq_true hi] at c1
            have C2 := Lib.hid (CK.out k hlt i hi)
            obtain ⟨M, hM⟩ : ∃ M, nxA vs (os.take k) i = M := ⟨_, rfl⟩
            rw [hM] at C2 HOK
            have c2x := fun (dr : Nat) (os : Array Obj) => Calls.regrown_of (w := wr) (d := dr) (os := os) (C2.out _ (HB.out.trans ((below_regrown wr dr os).mono HB.out.size)))
            clear hM CK C2 CI ez
            cases M with
            | true =>
              have HT := Lib.hid (HA.out (HOK.out.2 ⟨hi, rfl⟩))
              clear HA HF HOK hi
              go_wp2_with fail
              refine wp_region_quiet_below (by kernel_rfl) (by kernel_rfl) ?_
              repeat (go_big_quiet_step (first | (go_at_call 73; exact c1 _ _) | (go_at_call 83; exact c2x _ _)))
              refine wpQuiet_nil ?_
              intro _ hw'
              obtain ⟨⟨dq, osq⟩, hw''⟩ := hw'
              subst hw''
              have HBX := Lib.hid (HB.out.trans ((below_regrown wr dq osq).mono HB.out.size))
              clear E0 c1 c2x
              go_wp2_with fail
              go_roundw
              case rel => exact ⟨k + 1, by omega, by go_num, HT, HBX.out⟩
              case measure => simp [intOf]; omega
            | false =>
              obtain rfl : R = false := HF.out (fun h => by have := (HOK.out.1 h).2; cases this)
              clear HA HF HOK hi HYY HNN
              go_wp2_with fail
              refine wp_region_quiet_below (by kernel_rfl) (by kernel_rfl) ?_
              repeat (go_big_quiet_step (first | (go_at_call 73; exact c1 _ _) | (go_at_call 83; exact c2x _ _)))
              refine wpQuiet_nil ?_
              intro _ hw'
              obtain ⟨⟨dq, osq⟩, hw''⟩ := hw'
              subst hw''
              have HBX := Lib.hid (HB.out.trans ((below_regrown wr dq osq).mono HB.out.size))
              clear E0 c1 c2x
              go_wp2_with fail
              go_ret
              exact ⟨rfl, HBX.out⟩
          · rw [decide_eq_false hi] at c1
            obtain rfl : R = false := HF.out (fun h => hi (HOK.out.1 h).1)
            clear HA HF HOK hi HYY HNN CK CI ez
            go_wp2_with fail
            refine wp_region_quiet_below (by kernel_rfl) (by kernel_rfl) ?_
            repeat (go_big_quiet_step (first | (go_at_call 73; exact c1 _ _)))
            refine wpQuiet_nil ?_
            intro _ hw'
            obtain ⟨⟨dq, osq⟩, hw''⟩ := hw'
            subst hw''
            have HBX := Lib.hid (HB.out.trans ((below_regrown wr dq osq).mono HB.out.size))
            clear E0 c1
            go_wp2_with fail
            go_ret
            exact ⟨rfl, HBX.out⟩
        · obtain rfl : k = n2 := by omega
          obtain rfl : R = true := HYY.out hall.out
          clear HNN HYY CK hall
          go_wp2_with fail
          go_ret
          exact ⟨rfl, hb⟩
    · obtain rfl : R = false := HN.out (fun g => hnn (by rw [← HO.out.len, ← HL.out]; exact g.2.1))
      have hnb : ((n2 : Int) != (n : Int)) = true := by simp; omega
      clear CI CN HN HY HGI
      go_wp2_with fail
      go_ret
      exact ⟨rfl, HB1.out⟩
end Go.Proofs.Ytdleidlmjliapaa
