/- Chapter 12: plans and their levels: the model. -/
import Derived.Test.YtdjoiodkmanacaaPuG
namespace Go.Proofs.Ytdjoiodkmanacaa
open Go.RowKit Go.PlainAid Go.Sort
set_option linter.unusedVariables false
set_option linter.unusedSimpArgs false

theorem bit_shr {x : Int} {k : Nat} (hx : 0 ≤ x ∧ x ≤ 3) (hk : k < 2) : (bits BinOp.and IntKind.i64 (x / 2 ^ k) 1 == 1) = bitU x k := by
  rcases four_of hx with rfl | rfl | rfl | rfl <;> (match k, hk with | 0, _ => decide +kernel | 1, _ => decide +kernel)
theorem bitU_zero (i : Nat) : bitU 0 i = false := by unfold bitU; exact decide_eq_false (by omega)
set_option maxRecDepth 100000 in
set_option maxHeartbeats 1000000 in
theorem runs_any {w : World} {B : Nat} {G : Option Addr} {l : Nat} {xs : List Int} (cx : Nat) (h : IsIs w B G l xs) (hl : l ≤ 1048576) (hin : ∀ j, 0 ≤ xs.getD j 0 ∧ xs.getD j 0 ≤ 3) (k : Nat) (hk : k < l) (i : Nat) (hi : i < 2) :
    Calls Try.prog 85 #[.slice G l cx, .int .i64 k, .int .i64 i] w fun e w' => e = .returned (.bool (bitU (xs.getD k 0) i)) ∧ w = w' := by
  obtain ⟨aI, rfl, hab, ez⟩ := h.has.numAt (k := k) (by rw [h.len]; exact hk)
  have hx := hin k
  have hk0 : (0 : Int) ≤ (k : Int) := by omega
  have hk1 : (k : Int) < (l : Int) := by omega
  have hi0 : (0 : Int) ≤ (i : Int) := by omega
  have hi1 : (i : Int) < 2 := by omega
  clear h
  generalize xs.getD k 0 = x at ez hx ⊢
  have HBI := Lib.hid (bit_shr hx hi)
  generalize bitU x i = bb at HBI ⊢
  go_enter Try.func85, Try.ntmps85
  go_wp2_with fail
  rw [HBI.out]
  go_ret
  exact ⟨rfl, rfl⟩
set_option maxHeartbeats 1000000 in
theorem runsP_any {w : World} {B : Nat} {G : Option Addr} {l : Nat} {xs : List Int} (cx : Nat) (h : IsIs w B G l xs) (hl : l ≤ 1048576) (hin : ∀ j, 0 ≤ xs.getD j 0 ∧ xs.getD j 0 ≤ 3) (k : Nat) (hk : k ≤ l) (i : Nat) (hi : i < 2) :
    Calls Try.prog 85 #[.slice G l cx, .int .i64 ((k : Int) - 1), .int .i64 i] w fun e w' => e = .returned (.bool (bitU (prevU xs k) i)) ∧ w = w' := by
  cases k with
  | succ j =>
    have e : (((j + 1 : Nat) : Int)) - 1 = (j : Int) := by omega
    rw [e]
    exact runs_any cx h hl hin j (by omega) i hi
  | zero =>
    have e : bitU (prevU xs 0) i = false := bitU_zero i
    rw [e]
    clear e h
    go_enter Try.func85, Try.ntmps85
    go_wp2_with fail
    go_ret
    exact ⟨rfl, rfl⟩
set_option maxRecDepth 100000 in
set_option maxHeartbeats 2000000 in
theorem outS_any {w : World} {B : Nat} {D : Option Addr} {m : Nat} {vs : List TPump} (a b c : Int) (A : Option Addr) (n q r : Nat) (h : IsPumps w B D m vs) (hm : m ≤ 2) (hu : allU vs) {BG : Nat} {G : Option Addr} {l : Nat} {xs : List Int} (cx : Nat) (hp : IsIs w BG G l xs) (hl : l ≤ 1048576) (hin : ∀ j, 0 ≤ xs.getD j 0 ∧ xs.getD j 0 ≤ 3) (t : Nat) (ht : t < l) :
    Calls Try.prog 60 #[.agg #[.int .i64 a, .int .i64 b, .int .i64 c, .slice A n q, .slice D m r], .slice G l cx, .int .i64 t] w fun e w' => e = .returned (.int .i64 (sumU TPump.x0 vs (xs.getD t 0) m)) ∧ Below w.heap.size w w' := by
  obtain ⟨W5, hW5, X5, B5, z5⟩ := box_in w a b c A n q D m r
  have cT0 := X5.c0
  have cT1 := X5.c1
  have cT2 := X5.c2
  have cT3 := X5.c3
  have cT4 := X5.c4
  have HB5 := Lib.hid B5
  have HX5 := Lib.hid X5
  have HI := Lib.hid (h.below B5 h.low)
  have HP := Lib.hid (hp.upB B5)
  have HBD := Lib.hid (fun k (hk : k ≤ m) => sumU_bd hu TPump.x0_bdU (xs.getD t 0) k (by rw [h.len]; exact hk))
  have HU := Lib.hid (fun k (hk : k < m) => hu k (by rw [h.len]; exact hk))
  have CR := Lib.hid (fun i (hi : i < 2) => runs_any cx (hp.upB B5) hl hin t ht i hi)
  obtain ⟨X, hX⟩ : ∃ X, xs.getD t 0 = X := ⟨_, rfl⟩
  rw [hX] at HBD CR ⊢
  clear h hu hp hX X5 B5 z5 HX5
  go_enter Try.func60, Try.ntmps60
  go_wp2_with fail
  (try rw [hW5])
  clear hW5
  go_loop [7, 8] (fun s i => ∃ k : Nat, k ≤ m ∧ i = .int .i64 k ∧ s = .int .i64 (sumU TPump.x0 vs X k)) (fun _ i => m - (intOf i).toNat)
  case atStart => exact ⟨0, Nat.zero_le _, rfl, rfl⟩
  case round =>
    obtain ⟨k, hk, rfl, rfl⟩ := hrel
    by_cases hlt : k < m
    · obtain ⟨a1, rfl, hab, HV⟩ := HI.out.has.Pump (k := k) (by rw [HI.out.len]; exact hlt)
      have hs := HBD.out k hk
      have hg := TPump.x0_bdU _ (HU.out k hlt)
      have HS : Hid (sumU TPump.x0 vs X (k + 1) = sumU TPump.x0 vs X k + (if bitU X k then TPump.x0 (vs.getD k noPump) else 0)) := Lib.hid rfl
      obtain ⟨V, hV⟩ : ∃ V, vs.getD k noPump = V := ⟨_, rfl⟩
      rw [hV] at HV HS hg
      clear hV
      obtain ⟨S, hS⟩ : ∃ S, sumU TPump.x0 vs X k = S := ⟨_, rfl⟩
      rw [hS] at HS hs ⊢
      clear hS
      obtain ⟨d, l9, y⟩ := V
      obtain ⟨e0, e1, e2⟩ := HV
      dsimp only at e0 e1 e2 HS hg
      have CG := Lib.hid (CR.out k (by omega))
      obtain ⟨bb, hbb⟩ : ∃ bb, bitU X k = bb := ⟨_, rfl⟩
      rw [hbb] at HS CG
      have hk0 : (0 : Int) ≤ (k : Int) := by omega
      have hk1 : (k : Int) < (m : Int) := by omega
      clear hbb HI HBD HU CR HP
      go_wp2_with fail
      refine CG.out.mono ?_
      rintro e w6 ⟨rfl, rfl⟩
      clear CG
      cases bb with
      | true =>
        rw [if_pos rfl] at HS
        go_wp2_with fail
        go_round
        case rel => exact ⟨k + 1, by omega, by go_num, by rw [HS.out]⟩
        case measure => simp [intOf]; omega
      | false =>
        rw [if_neg (by decide)] at HS
        go_wp2_with fail
        go_round
        case rel => exact ⟨k + 1, by omega, by go_num, by rw [HS.out, Int.add_zero]⟩
        case measure => simp [intOf]; omega
    · obtain rfl : m = k := by omega
      clear HI HBD HU CR HP
      go_wp2_with fail
      go_ret
      exact ⟨rfl, HB5.out⟩
theorem shl_top {m : Nat} (hm : m ≤ 2) : wrap64 (2 ^ m) - 1 = topU m := by
  match m, hm with
  | 0, _ => decide +kernel
  | 1, _ => decide +kernel
  | 2, _ => decide +kernel
set_option maxRecDepth 100000 in
set_option maxHeartbeats 4000000 in
theorem planS_any {w : World} {B : Nat} {A D : Option Addr} {n m : Nat} {zs : List Int} {vs : List TPump} (a b c : Int) (q r : Nat) (h : IsTs w B A n zs D m vs) (hm : n ≤ 1048576) (hm2 : m ≤ 1048576) {BG : Nat} {G : Option Addr} {l : Nat} {xs : List Int} (cx : Nat) (hp : IsIs w BG G l xs) (hl : l ≤ 1048576) :
    Calls Try.prog 52 #[.agg #[.int .i64 a, .int .i64 b, .int .i64 c, .slice A n q, .slice D m r], .slice G l cx] w fun e w' => e = .returned (.bool (gX ⟨a, b, c, zs, vs⟩ xs)) ∧ Below w.heap.size w w' := by
  obtain ⟨W5, hW5, X5, B5, z5⟩ := box_in w a b c A n q D m r
  have cT0 := X5.c0
  have cT1 := X5.c1
  have cT2 := X5.c2
  have cT3 := X5.c3
  have cT4 := X5.c4
  have HB5 := Lib.hid B5
  have HX5 := Lib.hid X5
  have HT := Lib.hid (h.upB B5)
  have HP := Lib.hid (hp.upB B5)
  have C1 := Lib.hid (l12Good_any a b c q r (h.upB B5) hm hm2)
  have HIFF : Hid (gX ⟨a, b, c, zs, vs⟩ xs = true ↔ goodT ⟨a, b, c, zs, vs⟩ ∧ (l : Int) = (n : Int) ∧ ∀ k, k < l → 0 ≤ xs.getD k 0 ∧ xs.getD k 0 ≤ topU m) := Lib.hid (by
    rw [gX_iff]; unfold goodX inX; rw [hp.len]; dsimp only; rw [h.ints.len, h.pumps.len]
    exact ⟨fun g => ⟨g.1, by have := g.2.1; omega, g.2.2⟩, fun g => ⟨g.1, by have := g.2.1; omega, g.2.2⟩⟩)
  have HG := Lib.hid (gT_iff ⟨a, b, c, zs, vs⟩)
  have HM : Hid (goodT ⟨a, b, c, zs, vs⟩ → m ≤ 2) := Lib.hid (fun g => by rw [← h.pumps.len]; exact g.2.2.1)
  have CI := Lib.hid (fun z lo hi W => l1In_any z lo hi W)
  generalize gX ⟨a, b, c, zs, vs⟩ xs = R at HIFF ⊢
  generalize gT ⟨a, b, c, zs, vs⟩ = T at HG C1
  clear h hp X5 B5 z5
  go_enter Try.func52, Try.ntmps52
  go_wp2_with fail
  (try rw [hW5])
  clear hW5
  refine C1.out.mono ?_
  rintro e w1 ⟨rfl, hb⟩
  have HX6 := Lib.hid (HX5.out.all hb)
  have HB6 := Lib.hid (HB5.out.trans (hb.mono HB5.out.size))
  have HP6 := Lib.hid (HP.out.upB hb)
  clear hb C1 cT0 cT1 cT2 cT3 cT4 HX5 HB5 HP HT
  cases T with
  | false =>
    obtain rfl : R = false := by rw [← Bool.not_eq_true, HIFF.out]; intro g; have := HG.out.2 g.1; cases this
    clear HIFF HG HM CI
    go_wp2_with fail
    go_ret
    exact ⟨rfl, HB6.out⟩
  | true =>
    have hg := HG.out.1 rfl
    have hm := HM.out hg
    have hX6 := HX6.out
    have cT0 := hX6.c0
    have cT1 := hX6.c1
    have cT2 := hX6.c2
    have cT3 := hX6.c3
    have cT4 := hX6.c4
    by_cases he : (l : Int) = (n : Int)
    · have HY := Lib.hid (fun (g : ∀ k, k < l → 0 ≤ xs.getD k 0 ∧ xs.getD k 0 ≤ topU m) => HIFF.out.2 ⟨hg, he, g⟩)
      have HN : Hid (∀ k, k < l → ¬ (0 ≤ xs.getD k 0 ∧ xs.getD k 0 ≤ topU m) → R = false) := Lib.hid (fun k hk hno => by rw [← Bool.not_eq_true, HIFF.out]; exact fun g => hno (g.2.2 k hk))
      have hne : ((l : Int) != (n : Int)) = false := by simpa using he
      clear HIFF HG HM hg he hX6
      go_wp2_with fail
      clear cT0 cT1 cT2 cT3
      go_loopw [5] (fun i wr => ∃ k : Nat, k ≤ l ∧ i = .int .i64 k ∧ Hid (∀ j, j < k → 0 ≤ xs.getD j 0 ∧ xs.getD j 0 ≤ topU m) ∧ Below w1.heap.size w1 wr) (fun i _ => l - (intOf i).toNat)
      case atStart => exact ⟨0, Nat.zero_le _, rfl, Lib.hid (fun j hj => absurd hj (by omega)), Below.refl _ _⟩
      case round =>
        clear cT4
        obtain ⟨k, hk, rfl, hall, hb⟩ := hrel
        by_cases hlt : k < l
        · obtain ⟨aI, rfl, hab, ez⟩ := (HP6.out.upB hb).has.numAt (k := k) (by rw [HP6.out.len]; exact hlt)
          have hX := HX6.out.all hb
          have cT4 := hX.c4
          have hk0 : (0 : Int) ≤ (k : Int) := by omega
          have hk1 : (k : Int) < (l : Int) := by omega
          have hki : k < xs.length := by rw [HP6.out.len]; exact hlt
          have HF2 := Lib.hid (HN.out k hlt)
          have HA2 : Hid ((0 ≤ xs.getD k 0 ∧ xs.getD k 0 ≤ topU m) → ∀ j, j < k + 1 → 0 ≤ xs.getD j 0 ∧ xs.getD j 0 ≤ topU m) := Lib.hid (fun h j hj => by
            rcases Nat.lt_succ_iff_lt_or_eq.1 hj with h1 | h1
            · exact hall.out j h1
            · subst h1; exact h)
          generalize xs.getD k 0 = z at ez HF2 HA2
          have k1 := fun (dr : Nat) (os : Array Obj) => Calls.regrown_of (w := wr) (d := dr) (os := os) (toBelow (CI.out z 0 (topU m) (grow (redrawn wr dr) os)))
          have E4 := fun (d : Nat) (os : Array Obj) => cell_regrown cT4 d os
          have EZ := fun (d : Nat) (os : Array Obj) => cell_regrown ez d os
          obtain ⟨bb, hbb⟩ : ∃ y, decide (0 ≤ z ∧ z ≤ topU m) = y := ⟨_, rfl⟩
          rw [hbb] at k1
          have HBB := Lib.hid hbb
          have HB := Lib.hid hb
          have htop := shl_top hm
          have HB6o := HB6
          have htb := topU_bd m
          clear hall HY HN CI hb hX hbb cT4 ez
          go_wp2_with fail
          refine wp_region_quiet_below (by kernel_rfl) (by kernel_rfl) ?_
          repeat (go_big_quiet_step (first | exact k1 _ _))
          refine wpQuiet_nil ?_
          intro _ hw'
          obtain ⟨⟨dq, osq⟩, hw''⟩ := hw'
          subst hw''
          have HB6 := Lib.hid (HB.out.trans ((below_regrown wr dq osq).mono HB.out.size))
          clear k1 E4 EZ htop HB
          cases bb with
          | true =>
            have HR := Lib.hid (HA2.out (of_decide_eq_true HBB.out))
            clear HF2 HA2 HBB
            go_wp2_with fail
            go_roundw
            case rel => exact ⟨k + 1, by omega, by go_num, HR, HB6.out⟩
            case measure => simp [intOf]; omega
          | false =>
            obtain rfl : R = false := HF2.out (of_decide_eq_false HBB.out)
            have HBZ := Lib.hid (HB6o.out.trans (HB6.out.mono HB6o.out.size))
            clear HF2 HA2 HBB
            go_wp2_with fail
            go_ret
            exact ⟨rfl, HBZ.out⟩
        · obtain rfl : l = k := by omega
          obtain rfl : R = true := HY.out (fun j hj => hall.out j hj)
          have HBZ := Lib.hid (HB6.out.trans (hb.mono HB6.out.size))
          clear HY HN hall CI hb
          go_wp2_with fail
          go_ret
          exact ⟨rfl, HBZ.out⟩
    · obtain rfl : R = false := by rw [← Bool.not_eq_true, HIFF.out]; intro g; exact he g.2.1
      clear HIFF HG HM hg hX6
      have hne : ((l : Int) != (n : Int)) = true := by simpa using he
      go_wp2_with fail
      go_ret
      exact ⟨rfl, HB6.out⟩
end Go.Proofs.Ytdjoiodkmanacaa
