/- Chapter 8, the model: the longest wait. -/
import Derived.Test.YtjlgabhkpoonkaaLkF
namespace Go.Proofs.Ytjlgabhkpoonkaa
open Go.RowKit Go.PlainAid Go.Sort
set_option linter.unusedVariables false
set_option linter.unusedSimpArgs false

/-- The longest wait of those that P has. -/
def WS (L : List Tlockage) (P : Nat → Prop) (b w : Int) : Prop :=
  ((∀ j, j < L.length → ¬ P j) ∧ b = 0 ∧ w = -1) ∨ ((∃ j, j < L.length ∧ P j ∧ (L.getD j nolockage).x0 = b ∧ (L.getD j nolockage).x3 = w) ∧ ∀ j, j < L.length → P j → (L.getD j nolockage).x3 < w ∨ (L.getD j nolockage).x3 = w ∧ b ≤ (L.getD j nolockage).x0)
/-- Those with a smaller index, and those with this one among the first k. -/
def PW (L : List Tlockage) (i k : Nat) (j : Nat) : Prop := (L.getD j nolockage).x0 < (i : Int) ∨ (L.getD j nolockage).x0 = (i : Int) ∧ j < k
theorem ws_same {L : List Tlockage} {P Q : Nat → Prop} {b w : Int} (h : WS L P b w) (hPQ : ∀ j, j < L.length → (P j ↔ Q j)) : WS L Q b w := by
  rcases h with ⟨h1, h2, h3⟩ | ⟨⟨j, hj, hp, h1, h2⟩, h3⟩
  · exact .inl ⟨fun j hj hq => h1 j hj ((hPQ j hj).2 hq), h2, h3⟩
  · exact .inr ⟨⟨j, hj, (hPQ j hj).1 hp, h1, h2⟩, fun j hj hq => h3 j hj ((hPQ j hj).2 hq)⟩
theorem ws_skip {L : List Tlockage} {i k : Nat} {b w : Int} (h : WS L (PW L i k) b w) (hk : k < L.length) (hne : (L.getD k nolockage).x0 ≠ (i : Int)) : WS L (PW L i (k + 1)) b w :=
  ws_same h (fun j hj => by
    unfold PW
    by_cases e : j = k
    · subst e; omega
    · omega)
theorem ws_new {L : List Tlockage} {i k : Nat} {b w : Int} (h : WS L (PW L i k) b w) (hk : k < L.length) (hi : (L.getD k nolockage).x0 = (i : Int)) (h0 : 0 ≤ (L.getD k nolockage).x3) (hw : w < (L.getD k nolockage).x3) : WS L (PW L i (k + 1)) (i : Int) (L.getD k nolockage).x3 := by
  refine .inr ⟨⟨k, hk, .inr ⟨hi, by omega⟩, hi, rfl⟩, fun j hj hp => ?_⟩
  by_cases e : j = k
  · subst e; exact .inr ⟨rfl, by omega⟩
  · have hp' : PW L i k j := by unfold PW at *; omega
    rcases h with ⟨h1, -, -⟩ | ⟨-, h3⟩
    · exact absurd hp' (h1 j hj)
    · have := h3 j hj hp'
      exact .inl (by omega)
theorem ws_old {L : List Tlockage} {i k : Nat} {b w : Int} (h : WS L (PW L i k) b w) (hk : k < L.length) (hi : (L.getD k nolockage).x0 = (i : Int)) (h0 : 0 ≤ (L.getD k nolockage).x3) (hw : ¬ w < (L.getD k nolockage).x3) : WS L (PW L i (k + 1)) b w := by
  rcases h with ⟨h1, h2, h3⟩ | ⟨⟨j0, hj0, hp0, h1, h2⟩, h3⟩
  · omega
  · refine .inr ⟨⟨j0, hj0, by unfold PW at *; omega, h1, h2⟩, fun j hj hp => ?_⟩
    by_cases e : j = k
    · subst e
      rcases Int.lt_or_eq_of_le (Int.not_lt.1 hw) with h4 | h4
      · exact .inl h4
      · refine .inr ⟨h4, ?_⟩
        unfold PW at hp0
        omega
    · exact h3 j hj (by unfold PW at *; omega)
theorem ws_next {L : List Tlockage} {i n : Nat} {b w : Int} (h : WS L (PW L i n) b w) (hn : L.length = n) : WS L (PW L (i + 1) 0) b w :=
  ws_same h (fun j hj => by unfold PW; omega)
theorem ws_end {L : List Tlockage} {n : Nat} {b w : Int} (h : WS L (PW L n 0) b w) (hall : ∀ j, j < L.length → (L.getD j nolockage).x0 < (n : Int)) (hne : 0 < L.length) : b = (longL L (L.length - 1)).x0 ∧ w = (longL L (L.length - 1)).x3 := by
  obtain ⟨⟨j1, hj1, e⟩, hmax⟩ := longL_is L (L.length - 1) (by omega)
  rcases h with ⟨h1, -, -⟩ | ⟨⟨j0, hj0, -, h1, h2⟩, h3⟩
  · exact absurd (.inl (hall 0 hne)) (h1 0 hne)
  · have h4 := h3 j1 (by omega) (.inl (hall j1 (by omega)))
    rw [← e] at h4
    have h5 := hmax j0 (by omega)
    unfold MoreW at h5
    omega
theorem LongA.ways {vs : List TArrival} {h : Bool} {m : Int} {os : List Int} {z q : Int} {x : Bool} (hA : LongA vs h m os z q x) :
    (oA vs os = true → decide (1 ≤ m ∧ m ≤ 60) = true → 0 < vs.length → z = (longL (lks vs m h os) (vs.length - 1)).x0 ∧ q = (longL (lks vs m h os) (vs.length - 1)).x3 ∧ x = true) ∧
    ((oA vs os = false ∨ decide (1 ≤ m ∧ m ≤ 60) = false ∨ vs.length = 0) → z = 0 ∧ q = 0 ∧ x = false) := by
  obtain ⟨L, y, hL, hyes, hno⟩ := hA
  have hw := lkA_ways hL
  constructor
  · intro h1 h2 h3
    obtain ⟨hLL, hy⟩ := hw.1 h1 h2
    have ho := (oA_iff vs os).1 h1
    have hlen : L.length = vs.length := by rw [hLL, lks_len (of_decide_eq_true h2) (fun p hp => ho.good hp), ho.2.1]
    have := hyes ⟨hy, fun e => by rw [e] at hlen; simp at hlen; omega⟩
    rw [hlen, hLL] at this
    exact this
  · intro h1
    refine hno (fun ⟨hy, hne⟩ => ?_)
    cases e1 : oA vs os with
    | false => have := (hw.2 (.inl e1)).2; rw [this] at hy; cases hy
    | true =>
      cases e2 : decide (1 ≤ m ∧ m ≤ 60) with
      | false => have := (hw.2 (.inr e2)).2; rw [this] at hy; cases hy
      | true =>
        rcases h1 with h1 | h1 | h1
        · rw [e1] at h1; cases h1
        · rw [e2] at h1; cases h1
        · have ho := (oA_iff vs os).1 e1
          have hlen : L.length = vs.length := by rw [(hw.1 e1 e2).1, lks_len (of_decide_eq_true e2) (fun p hp => ho.good hp), ho.2.1]
          exact hne (List.eq_nil_of_length_eq_zero (by omega))
set_option maxRecDepth 100000 in
set_option maxHeartbeats 8000000 in
theorem longS_any {w : World} {B B2 : Nat} {A A2 : Option Addr} {n n2 : Nat} {vs : List TArrival} {os : List Int} (c c2 : Nat) (h : IsArrivals w B A n vs) (hm : n ≤ 1048576) (h2 : IsIs w B2 A2 n2 os) (hm2 : n2 ≤ 1048576) (hnc : n2 ≤ c2) (hi : Bool) (m : Int) (z9 q9 : Int) (x9 : Bool) (hA : LongA vs hi m os z9 q9 x9) :
    Calls Try.prog 21 #[.slice A n c, .bool hi, .int .i64 m, .slice A2 n2 c2] w fun e w' => e = .returned (.tuple #[.int .i64 z9, .int .i64 q9, .bool x9]) ∧ Below w.heap.size w w' := by
  have CO := Lib.hid (l8Order_any c c2 h hm h2 hm2 hnc)
  have CM := Lib.hid (fun W => l8Minutes_any m W)
  have HI := Lib.hid h
  have HO := Lib.hid h2
  have HNO := Lib.hid hA.ways.2
  have HYES := Lib.hid hA.ways.1
  obtain ⟨G, hG⟩ : ∃ G, oA vs os = G := ⟨_, rfl⟩
  obtain ⟨D, hD⟩ : ∃ D, decide (1 ≤ m ∧ m ≤ 60) = D := ⟨_, rfl⟩
  rw [hG, hD] at HNO HYES
  rw [hG] at CO
  rw [hD] at CM
  have HGE := Lib.hid hG
  have HDE := Lib.hid hD
  clear h h2 hA hG hD
  go_enter Try.func21, Try.ntmps21
  go_wp2_with fail
  refine CO.out.mono ?_
  rintro e w1 ⟨rfl, hb⟩
  have HB1 := Lib.hid hb
  clear hb CO
  cases G with
  | false =>
    obtain ⟨rfl, rfl, rfl⟩ := HNO.out (.inl rfl)
    clear HNO HYES CM
    go_wp2_with fail
    go_ret3
    exact ⟨rfl, HB1.out⟩
  | true =>
  replace HYES := Lib.hid (HYES.out rfl)
  replace HNO := Lib.hid (fun d => HNO.out (.inr d))
  go_wp2_with fail
  refine (CM.out _).mono ?_
  rintro e w2 ⟨rfl, rfl⟩
  cases D with
  | false =>
    obtain ⟨rfl, rfl, rfl⟩ := HNO.out (.inl rfl)
    clear HNO HYES CM
    go_wp2_with fail
    go_ret3
    exact ⟨rfl, HB1.out⟩
  | true =>
  rcases Nat.eq_zero_or_pos n with h0 | h0
  · obtain ⟨rfl, rfl, rfl⟩ := HNO.out (.inr (by rw [HI.out.len]; exact h0))
    subst h0
    clear HNO HYES CM
    go_wp2_with fail
    go_ret3
    exact ⟨rfl, HB1.out⟩
  have HOR := Lib.hid ((oA_iff vs os).1 HGE.out)
  have HMM := Lib.hid (of_decide_eq_true HDE.out)
  obtain ⟨hz, hq, rfl⟩ := HYES.out rfl (by rw [HI.out.len]; exact h0)
  have h26 : n2 ≤ 6 := by rw [← HO.out.len]; exact HOR.out.le6
  have HNN : Hid (n = n2) := Lib.hid (by rw [← HI.out.len, ← HO.out.len]; exact HOR.out.2.1.symm)
  have hn6 : n ≤ 6 := by have := HNN.out; omega
  have HR : Hid (∀ p, p < n2 → inA n (os.getD p 0)) := Lib.hid (fun p hp => by rw [← HI.out.len]; exact HOR.out.inn (by rw [HO.out.len]; exact hp))
  have CT := Lib.hid (l8Times_any c c2 (HI.out.below HB1.out HI.out.low) hn6 (HO.out.below HB1.out HO.out.low) h26 hi m HMM.out HOR.out.1 HR.out)
  have HLL : Hid ((lks vs m hi os).length = n2) := Lib.hid (by rw [lks_len HMM.out (fun p hp => HOR.out.good hp), HO.out.len])
  have HTL : Hid ((timesL (lks vs m hi os)).length = n2) := Lib.hid (by rw [timesL_len, HLL.out])
  have HE := Lib.hid (fun j (hj : j < n2) => lks_each (h := hi) (m := m) HOR.out.1 HMM.out (by rw [HO.out.len]; exact h26) (fun p hp => HOR.out.inn hp) (j := j) (by rw [HO.out.len]; exact hj))
  have HT := Lib.hid (fun k (hk : k < n2) => timesL_at (L := lks vs m hi os) (k := k) (by rw [HLL.out]; exact hk))
  generalize lks vs m hi os = L at hz hq CT HLL HTL HE HT
  generalize timesL L = T at CT HTL HT
  rw [HI.out.len, HNN.out, ← HLL.out] at hz hq
  have HEND : Hid (∀ b w', WS L (PW L n 0) b w' → b = z9 ∧ w' = q9) := Lib.hid (fun b w' hws => by
    have := ws_end hws (fun j hj => by have := (HE.out j (by rw [← HLL.out]; exact hj)).inn; rw [HI.out.len] at this; unfold inA at this; omega) (by rw [HLL.out, ← HNN.out]; exact h0)
    rw [this.1, this.2, hz, hq]
    exact ⟨rfl, rfl⟩)
  have HG2 := Lib.hid (fun j (hj : j < n) => show 0 ≤ (vs.getD j noArrival).x2 ∧ (vs.getD j noArrival).x2 ≤ 9999 from (HOR.out.1.2 j (by rw [HI.out.len]; exact hj)).1.2.1)
  have HS0 : Hid (WS L (PW L 0 0) 0 (-1)) := Lib.hid (.inl ⟨fun j hj hp => by
    have := (HE.out j (by rw [← HLL.out]; exact hj)).inn
    unfold inA at this
    unfold PW at hp
    omega, rfl, rfl⟩)
  have hnb : ((n : Int) == 0) = false := by simp; omega
  clear HNO HYES CM HGE HDE hz hq HOR HMM
  go_wp2_with fail
  refine CT.out.mono ?_
  rintro e w3 ⟨v, rfl, hO⟩
  obtain ⟨g9, c9, rfl, hT9⟩ := hO.is
  have HT9 := Lib.hid hT9
  have HB3 := Lib.hid (HB1.out.trans (hO.low.mono HB1.out.size))
  clear hO CT HB1 hT9
  go_wp2_with fail
  go_loopw [12, 13, 14] (fun b q i wr => ∃ (k : Nat) (bz wz : Int), WS L (PW L k 0) bz wz ∧ k ≤ n ∧ i = .int .i64 k ∧ b = .int .i64 bz ∧ q = .int .i64 wz ∧ -1 ≤ wz ∧ Below w3.heap.size w3 wr) (fun _ _ i _ => n - (intOf i).toNat)
  case atStart => exact ⟨0, 0, -1, HS0.out, Nat.zero_le _, rfl, rfl, rfl, by omega, Below.refl _ _⟩
  case round =>
    clear HS0
    obtain ⟨i, bz, wz, hws, hi9, rfl, rfl, rfl, hwz, hb⟩ := hrel
    have HWS := Lib.hid hws
    have HB := Lib.hid hb
    clear hws hb
    by_cases hlt : i < n
    · have hi0 : (0 : Int) ≤ (i : Int) := by omega
      have hi1 : (i : Int) < (n : Int) := by omega
      have hgi := HG2.out i hlt
      have HNX := Lib.hid (fun b w' (h : WS L (PW L i n2) b w') => ws_next h HLL.out)
      go_wp2_with fail
      go_loopw [12, 13, 15] (fun b q j wr => ∃ (k : Nat) (bz wz : Int), WS L (PW L i k) bz wz ∧ k ≤ n2 ∧ j = .int .i64 k ∧ b = .int .i64 bz ∧ q = .int .i64 wz ∧ -1 ≤ wz ∧ Below w3.heap.size w3 wr) (fun _ _ j _ => n2 - (intOf j).toNat)
      case atStart => exact ⟨0, bz, wz, HWS.out, Nat.zero_le _, rfl, rfl, rfl, hwz, HB.out⟩
      case round =>
        clear HB HWS hwz
        obtain ⟨k, bz, wz, hws, hk, rfl, rfl, rfl, hwz, hb⟩ := hrel
        have HWS := Lib.hid hws
        have HB := Lib.hid hb
        have hbw := HB3.out.trans (hb.mono HB3.out.size)
        by_cases hlk : k < n2
        · obtain ⟨a2, rfl, -, f0⟩ := Has.numAt (HO.out.below hbw HO.out.low).has (k := k) (by rw [HO.out.len]; exact hlk)
          obtain ⟨a3, ea3, -, t0⟩ := Has.numAt (HT9.out.below hb (Nat.le_refl _)).has (k := k) (by rw [HTL.out]; exact hlk)
          injection ea3 with ea3
          subst ea3
          obtain ⟨a1, rfl, -, HV⟩ := (HI.out.below hbw HI.out.low).has.Arrival (k := i) (by rw [HI.out.len]; exact hlt)
          have e2 := HV.c2
          have hE := HE.out k hlk
          have hE2 := hE.w
          have hE3 := hE.b
          have hEi := hE.i
          rw [HT.out k hlk] at t0
          have t2 := t0
          rw [addO, Nat.zero_add] at t2
          have hkL : k < L.length := by rw [HLL.out]; exact hlk
          have HSK := Lib.hid (fun h => ws_skip HWS.out hkL h)
          have HNW := Lib.hid (fun h1 h2 => ws_new HWS.out hkL h1 hE2.2 h2)
          have HOL := Lib.hid (fun h1 h2 => ws_old HWS.out hkL h1 hE2.2 h2)
          have HAT : Hid (os.getD k 0 = (i : Int) → (atA vs (os.getD k 0)).x2 = (vs.getD i noArrival).x2) := Lib.hid (fun e => by rw [e, atA_cast])
          rw [hEi] at HSK HNW HOL
          generalize (L.getD k nolockage).x3 = wt at HNW HOL hE2
          generalize (L.getD k nolockage).x2 = b at t0 t2 hE2 hE3
          generalize (vs.getD i noArrival).x2 = mi at e2 hgi HAT
          have HE2 := Lib.hid hE2.1
          have hwt0 := hE2.2
          generalize (atA vs (os.getD k 0)).x2 = mo at HAT HE2
          generalize os.getD k 0 = o at f0 HSK HNW HOL HAT
          have hk0 : (0 : Int) ≤ (k : Int) := by omega
          have hk1 : (k : Int) < (n2 : Int) := by omega
          have E2 := fun (d : Nat) (os : Array Obj) => cell_regrown e2 d os
          have T0 := fun (d : Nat) (os : Array Obj) => cell_regrown t0 d os
          have T2 := fun (d : Nat) (os : Array Obj) => cell_regrown t2 d os
          have F0 := Lib.hid (fun W (hq : Below wr.heap.size wr W) => (hq.cell (World.block_lt_of_cell? _ _ f0)).trans f0)
          clear hws hb hbw hE hEi HV hE2 e2 t0 t2 f0
          go_wp2_with fail
          refine wp_region_quiet_below (by kernel_rfl) (by kernel_rfl) ?_
          repeat (go_big_quiet_step (first | fail))
          refine wpQuiet_nil ?_
          intro _ hw'
          obtain ⟨⟨dq, osq⟩, hw''⟩ := hw'
          subst hw''
          have HBX := Lib.hid (HB.out.trans ((below_regrown wr dq osq).mono HB.out.size))
          have f0 := F0.out _ (below_regrown wr dq osq)
          clear E2 T0 T2 F0
          by_cases ho : o = (i : Int)
          · have hob : (o == (i : Int)) = true := by simp [ho]
            have hwe : wt = b - mi := by rw [HE2.out, HAT.out ho]
            by_cases hwb : wz < wt
            · have HWS2 := Lib.hid (HNW.out ho hwb)
              have hgt : b - mi > wz := by omega
              rw [hwe] at HWS2
              clear HSK HNW HOL HAT HE2 hwe hwb ho
              go_wp2_with fail
              go_roundw
              case rel => exact ⟨k + 1, (i : Int), (b - mi), HWS2.out, by omega, by go_num, rfl, rfl, by omega, HBX.out⟩
              case measure => simp [intOf]; omega
            · have HWS2 := Lib.hid (HOL.out ho (by omega))
              have hgt : ¬ (b - mi > wz) := by omega
              clear HSK HNW HOL HAT HE2 hwe hwb ho
              go_wp2_with fail
              go_roundw
              case rel => exact ⟨k + 1, bz, wz, HWS2.out, by omega, by go_num, rfl, rfl, by omega, HBX.out⟩
              case measure => simp [intOf]; omega
          · have hob : (o == (i : Int)) = false := by simp [ho]
            have HWS2 := Lib.hid (HSK.out ho)
            clear HSK HNW HOL HAT HE2 ho
            go_wp2_with fail
            go_roundw
            case rel => exact ⟨k + 1, bz, wz, HWS2.out, by omega, by go_num, rfl, rfl, by omega, HBX.out⟩
            case measure => simp [intOf]; omega
        · obtain rfl : k = n2 := by omega
          have HWS2 := Lib.hid (HNX.out _ _ HWS.out)
          clear hws hb hbw HWS
          go_wp2_with fail
          go_roundw
          case rel => exact ⟨i + 1, bz, wz, HWS2.out, by omega, by go_num, rfl, rfl, hwz, HB.out⟩
          case measure => simp [intOf]; omega
    · obtain rfl : i = n := by omega
      obtain ⟨rfl, rfl⟩ := HEND.out _ _ HWS.out
      have HBF := Lib.hid (HB3.out.trans (HB.out.mono HB3.out.size))
      clear HEND HG2 HB
      go_wp2_with fail
      go_ret3
      exact ⟨rfl, HBF.out⟩
end Go.Proofs.Ytjlgabhkpoonkaa
