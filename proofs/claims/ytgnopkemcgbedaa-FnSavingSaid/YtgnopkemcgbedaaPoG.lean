/- Chapter 11: orders of Pools: the model and the program. -/
import Derived.Test.YtgnopkemcgbedaaPoF
namespace Go.Proofs.Ytgnopkemcgbedaa
open Go.RowKit Go.PlainAid Go.Sort
set_option linter.unusedVariables false
set_option linter.unusedSimpArgs false

structure IsIs (w : World) (B : Nat) (A : Option Addr) (n : Nat) (zs : List Int) : Prop where
  len : zs.length = n
  low : B ≤ w.heap.size
  has : Has w B A (zs.map (.int .i64))
theorem IsIs.below {w w' : World} {B C : Nat} {A : Option Addr} {n : Nat} {zs : List Int} (h : IsIs w B A n zs) (hb : Below C w w') (hC : B ≤ C) : IsIs w' B A n zs :=
  ⟨h.len, Nat.le_trans h.low hb.size, h.has.below (hb.mono hC)⟩
theorem own_IsIs {w : World} {base g n c : Nat} {zs : List Int} (h : w.ownsRow base 3 1 (.slice (some ⟨g, 0, none⟩) n c) n (zs.map (.int .i64))) : IsIs w w.heap.size (some ⟨g, 0, none⟩) n zs :=
  ⟨by have := h.1; simpa using this, Nat.le_refl _, ownS_has h⟩
theorem Has.numAt {w : World} {B : Nat} {A : Option Addr} {zs : List Int} (h : Has w B A (zs.map (.int .i64))) {k : Nat} (hk : k < zs.length) :
    ∃ a, A = some a ∧ a.block < B ∧ w.cell? (a.add k) = some (.int .i64 (zs.getD k 0)) := by
  obtain ⟨a, e, hb, hc⟩ := h.intAt hk
  exact ⟨a, e, hb, by rw [hc]; simp [List.getD_eq_getElem?_getD, hk]⟩
theorem IsIs.take {w : World} {B n : Nat} {A : Option Addr} {zs : List Int} (h : IsIs w B A n zs) {k : Nat} (hk : k ≤ n) : IsIs w B A k (zs.take k) :=
  ⟨by rw [List.length_take, h.len]; omega, h.low, fun j u hu => by
    rw [List.map_take] at hu
    have hj := (List.getElem?_eq_some_iff.1 hu).1
    rw [List.length_take] at hj
    rw [List.getElem?_take_of_lt (by omega)] at hu
    exact h.has j u hu⟩
/-- One of an order. -/
def okAt (n : Nat) (os : List Int) (k : Nat) : Prop := (1 ≤ os.getD k 0 ∧ os.getD k 0 ≤ (n : Int) - 1) ∧ os.getD k 0 ∉ os.take k
noncomputable def gO (n : Nat) (os : List Int) : Bool := open Classical in decide (okO n os)
theorem gO_iff (n : Nat) (os : List Int) : gO n os = true ↔ okO n os := by unfold gO; simp
theorem gO_no {n : Nat} {os : List Int} (h : ¬ okO n os) : gO n os = false := by unfold gO; simp [h]
theorem nat_not {os : List Int} {k : Nat} {z : Int} : (os.take k).contains z = true ↔ z ∈ os.take k := by simp
theorem has_not {L : List Int} {x : Int} (h : ∀ j, j < L.length → L.getD j 0 ≠ x) : L.contains x = false := by
  rw [Bool.eq_false_iff]
  intro hc
  rw [List.contains_iff_mem] at hc
  obtain ⟨j, hj, e⟩ := List.getElem_of_mem hc
  exact h j hj (by simp [List.getD_eq_getElem?_getD, hj, e])
theorem has_one6 {L : List Int} {x : Int} {j : Nat} (hj : j < L.length) (h : L.getD j 0 = x) : L.contains x = true := by
  rw [List.contains_iff_mem, ← h, List.getD_eq_getElem?_getD, List.getElem?_eq_getElem hj]
  exact List.getElem_mem hj

set_option maxHeartbeats 1000000 in
theorem l1HasP_any {w : World} {B : Nat} {A : Option Addr} {n : Nat} {L : List Int} (c : Nat) (x : Int) (hm : n ≤ 1048576) (h : IsIs w B A n L) :
    Calls Try.prog 85 #[.slice A n c, .int .i64 x] w fun e w' => e = .returned (.bool (L.contains x)) ∧ w = w' := by
  have HI := Lib.hid h
  obtain ⟨b, hb⟩ : ∃ b, L.contains x = b := ⟨_, rfl⟩
  rw [hb]
  have HY : Hid (∀ j, j < n → L.getD j 0 = x → b = true) := Lib.hid (fun j hj e => by rw [← hb]; exact has_one6 (by rw [h.len]; exact hj) e)
  have HN : Hid ((∀ j, j < n → L.getD j 0 ≠ x) → b = false) := Lib.hid (fun g => by rw [← hb]; exact has_not (by rw [h.len]; exact g))
  clear hb h
  go_enter Try.func85, Try.ntmps85
  go_wp2_with fail
  go_loop [5] (fun i => ∃ q : Nat, q ≤ n ∧ i = .int .i64 q ∧ Hid (∀ j, j < q → L.getD j 0 ≠ x)) (fun i => n - (intOf i).toNat)
  case atStart => exact ⟨0, Nat.zero_le _, rfl, Lib.hid (fun j hj => absurd hj (by omega))⟩
  case round =>
    obtain ⟨q, hq, rfl, hno⟩ := hrel
    by_cases hlt : q < n
    · obtain ⟨a2, rfl, hab2, ez⟩ := Has.numAt HI.out.has (k := q) (by rw [HI.out.len]; exact hlt)
      have HYq := Lib.hid (HY.out q hlt)
      have HNq : Hid (L.getD q 0 ≠ x → ∀ j, j < q + 1 → L.getD j 0 ≠ x) := Lib.hid (fun h j hj => by
        rcases Nat.lt_succ_iff_lt_or_eq.1 hj with h1 | rfl
        · exact hno.out j h1
        · exact h)
      generalize L.getD q 0 = z at ez HYq HNq
      have hq0 : (0 : Int) ≤ (q : Int) := by omega
      have hq1 : (q : Int) < (n : Int) := by omega
      clear hno HY
      by_cases hz : z = x
      · obtain rfl : b = true := HYq.out hz
        have hzb : (z == x) = true := by simp [hz]
        clear HYq HNq HN hz
        go_wp2_with fail
        go_ret
        exact ⟨rfl, rfl⟩
      · have HR := Lib.hid (HNq.out hz)
        have hzb : (z == x) = false := by simp [hz]
        clear HYq HNq hz
        go_wp2_with fail
        go_round
        case rel => exact ⟨q + 1, by omega, by go_num, HR⟩
        case measure => simp [intOf]; omega
    · obtain rfl : q = n := by omega
      obtain rfl : b = false := HN.out hno.out
      clear hno HY HI
      go_wp2_with fail
      go_ret
      exact ⟨rfl, rfl⟩

/-- The first place of a number, or -1. -/
def IdxA (L : List Int) (x : Int) (r : Int) : Prop := (∃ j : Nat, r = j ∧ j < L.length ∧ L.getD j 0 = x ∧ ∀ i, i < j → L.getD i 0 ≠ x) ∨ (r = -1 ∧ ∀ j, j < L.length → L.getD j 0 ≠ x)
set_option maxHeartbeats 1000000 in
theorem indexP_any {w : World} {B : Nat} {A : Option Addr} {n : Nat} {L : List Int} (c : Nat) (x : Int) (hm : n ≤ 1048576) (h : IsIs w B A n L) :
    Calls Try.prog 92 #[.slice A n c, .int .i64 x] w fun e w' => ∃ r : Int, e = .returned (.int .i64 r) ∧ IdxA L x r ∧ w = w' := by
  have HI := Lib.hid h
  have HL := Lib.hid h.len
  clear h
  go_enter Try.func92, Try.ntmps92
  go_wp2_with fail
  go_loop [8] (fun i => ∃ q : Nat, q ≤ n ∧ i = .int .i64 q ∧ Hid (∀ j, j < q → L.getD j 0 ≠ x)) (fun i => n - (intOf i).toNat)
  case atStart => exact ⟨0, Nat.zero_le _, rfl, Lib.hid (fun j hj => absurd hj (by omega))⟩
  case round =>
    obtain ⟨q, hq, rfl, hno⟩ := hrel
    by_cases hlt : q < n
    · obtain ⟨a2, rfl, hab2, ez⟩ := Has.numAt HI.out.has (k := q) (by rw [HI.out.len]; exact hlt)
      have HYq : Hid (L.getD q 0 = x → IdxA L x q) := Lib.hid (fun e => .inl ⟨q, rfl, by rw [HL.out]; exact hlt, e, hno.out⟩)
      have HNq : Hid (L.getD q 0 ≠ x → ∀ j, j < q + 1 → L.getD j 0 ≠ x) := Lib.hid (fun h j hj => by
        rcases Nat.lt_succ_iff_lt_or_eq.1 hj with h1 | rfl
        · exact hno.out j h1
        · exact h)
      generalize L.getD q 0 = z at ez HYq HNq
      have hq0 : (0 : Int) ≤ (q : Int) := by omega
      have hq1 : (q : Int) < (n : Int) := by omega
      clear hno
      by_cases hz : z = x
      · have HR := Lib.hid (HYq.out hz)
        have hzb : (x == z) = true := by simp [hz]
        clear HYq HNq hz
        go_wp2_with fail
        go_ret
        exact ⟨q, rfl, HR.out, rfl⟩
      · have HR := Lib.hid (HNq.out hz)
        have hzb : (x == z) = false := by rw [beq_eq_false_iff_ne]; exact fun e => hz e.symm
        clear HYq HNq hz
        go_wp2_with fail
        go_round
        case rel => exact ⟨q + 1, by omega, by go_num, HR⟩
        case measure => simp [intOf]; omega
    · obtain rfl : q = n := by omega
      have HR : Hid (IdxA L x (-1)) := Lib.hid (.inr ⟨rfl, by rw [HL.out]; exact hno.out⟩)
      clear hno HI
      go_wp2_with fail
      go_ret
      exact ⟨-1, rfl, HR.out, rfl⟩
set_option maxHeartbeats 1000000 in
theorem containsP_any {w : World} {B : Nat} {A : Option Addr} {n : Nat} {L : List Int} (c : Nat) (x : Int) (hm : n ≤ 1048576) (h : IsIs w B A n L) :
    Calls Try.prog 91 #[.slice A n c, .int .i64 x] w fun e w' => e = .returned (.bool (L.contains x)) ∧ w = w' := by
  have C := Lib.hid (indexP_any c x hm h)
  have HX : Hid (∀ r, IdxA L x r → decide (0 ≤ r) = L.contains x) := Lib.hid (fun r hr => by
    rcases hr with ⟨j, rfl, hj, e, -⟩ | ⟨rfl, hn⟩
    · rw [has_one6 hj e]; simp
    · rw [has_not hn]; rfl)
  generalize L.contains x = b at HX ⊢
  clear h
  go_enter Try.func91, Try.ntmps91
  go_wp2_with fail
  refine C.out.mono ?_
  rintro e w1 ⟨r, rfl, hr, rfl⟩
  have HD := Lib.hid (HX.out r hr)
  clear HX C hr
  go_wp2_with fail
  refine bodyPost_ret (results_tmp rfl _ _ _) rfl ?_
  exact ⟨by rw [← HD.out]; rfl, rfl⟩


set_option maxRecDepth 100000 in
set_option maxHeartbeats 4000000 in
theorem l11Order_any {w : World} {B2 : Nat} {A A2 : Option Addr} {n n2 : Nat} {os : List Int} (c c2 : Nat) (hn : n ≤ 1000) (h2 : IsIs w B2 A2 n2 os) (hm2 : n2 ≤ 1048576) (hnc : n2 ≤ c2) :
    Calls Try.prog 87 #[.slice A n c, .slice A2 n2 c2] w fun e w' => e = .returned (.bool (gO n os)) ∧ Below w.heap.size w w' := by
  have HJ := Lib.hid h2
  have CI := Lib.hid (fun z W => l1In_any z 1 ((n : Int) - 1) W)
  have CH := Lib.hid (fun (W : World) k (hk : k ≤ n2) z (h : IsIs W B2 A2 k (os.take k)) => l1HasP_any c2 z (Nat.le_trans hk hm2) h)
  have HY := Lib.hid (fun h : okO n os => (gO_iff n os).2 h)
  have HN := Lib.hid (fun h : ¬ okO n os => gO_no h)
  generalize gO n os = R at HY HN ⊢
  clear h2
  go_enter Try.func87, Try.ntmps87
  go_wp2_with fail
  go_loopw [5] (fun i wr => ∃ k : Nat, k ≤ n2 ∧ i = .int .i64 k ∧ Hid (∀ j, j < k → okAt n os j) ∧ Below w.heap.size w wr) (fun i _ => n2 - (intOf i).toNat)
  case atStart => exact ⟨0, Nat.zero_le _, rfl, Lib.hid (fun j hj => absurd hj (by omega)), Below.refl _ _⟩
  case round =>
    obtain ⟨k, hk, rfl, hall, hb⟩ := hrel
    by_cases hlt : k < n2
    · skip
      obtain ⟨a2, rfl, hab2, ez⟩ := Has.numAt (HJ.out.below hb HJ.out.low).has (k := k) (by rw [HJ.out.len]; exact hlt)
      have HF : Hid (¬ okAt n os k → R = false) := Lib.hid (fun h => HN.out (fun g => h (g k (by rw [HJ.out.len]; exact hlt))))
      have HA : Hid (okAt n os k → ∀ j, j < k + 1 → okAt n os j) := Lib.hid (fun h j hj => by
        rcases Nat.lt_succ_iff_lt_or_eq.1 hj with h1 | h1
        · exact hall.out j h1
        · exact h1 ▸ h)
      have HTK := Lib.hid ((HJ.out.below hb HJ.out.low).take (k := k) (by omega))
      have HK : Hid (okAt n os k ↔ (1 ≤ os.getD k 0 ∧ os.getD k 0 ≤ (n : Int) - 1) ∧ (os.take k).contains (os.getD k 0) = false) := Lib.hid (by
        unfold okAt
        rw [← Bool.not_eq_true, nat_not])
      have hk0 : (0 : Int) ≤ (k : Int) := by omega
      have hk1 : (k : Int) < (n2 : Int) := by omega
      have hkc : (k : Int) ≤ (c2 : Int) := by omega
      have HB := Lib.hid hb
      have k1 := fun (d : Nat) (o9 : Array Obj) => Calls.regrown_of (w := wr) (d := d) (os := o9) (toBelow (CI.out (os.getD k 0) _))
      have k2 := fun (d : Nat) (o9 : Array Obj) => Calls.regrown_of (w := wr) (d := d) (os := o9) (toBelow (CH.out (grow (redrawn wr d) o9) k (by omega) (os.getD k 0) (HTK.out.below (below_regrown wr d o9) HTK.out.low)))
      obtain ⟨D, hD⟩ : ∃ D, decide (1 ≤ os.getD k 0 ∧ os.getD k 0 ≤ (n : Int) - 1) = D := ⟨_, rfl⟩
      obtain ⟨M, hM⟩ : ∃ M, (os.take k).contains (os.getD k 0) = M := ⟨_, rfl⟩
      rw [hD] at k1
      rw [hM] at k2 HK
      have HD : Hid (D = true ↔ 1 ≤ os.getD k 0 ∧ os.getD k 0 ≤ (n : Int) - 1) := Lib.hid (by rw [← hD, decide_eq_true_eq])
      rw [← HD.out] at HK
      generalize os.getD k 0 = z at ez k1 k2
      have E0 := fun (d : Nat) (o9 : Array Obj) => cell_regrown ez d o9
      clear hb hall hD hM ez HTK CI CH HD
      cases D with
      | false =>
        obtain rfl : R = false := HF.out (fun g => by have := (HK.out.1 g).1; cases this)
        clear HF HA HK HN HY k2
        go_wp2_with fail
        refine wp_region_quiet_below (by kernel_rfl) (by kernel_rfl) ?_
        repeat (go_big_quiet_step (first | exact k1 _ _))
        refine wpQuiet_nil ?_
        intro _ hw'
        obtain ⟨⟨dq, osq⟩, hw''⟩ := hw'
        subst hw''
        have HB6 := Lib.hid (HB.out.trans ((below_regrown wr dq osq).mono HB.out.size))
        clear E0 k1
        go_wp2_with fail
        go_ret
        exact ⟨rfl, HB6.out⟩
      | true =>
        cases M with
        | true =>
          obtain rfl : R = false := HF.out (fun g => by have := (HK.out.1 g).2; cases this)
          clear HF HA HK HN HY
          go_wp2_with fail
          refine wp_region_quiet_below (by kernel_rfl) (by kernel_rfl) ?_
          repeat (go_big_quiet_step (first | (go_at_call 59; exact k1 _ _) | (go_at_call 85; exact k2 _ _)))
          refine wpQuiet_nil ?_
          intro _ hw'
          obtain ⟨⟨dq, osq⟩, hw''⟩ := hw'
          subst hw''
          have HB6 := Lib.hid (HB.out.trans ((below_regrown wr dq osq).mono HB.out.size))
          clear E0 k1 k2
          go_wp2_with fail
          go_ret
          exact ⟨rfl, HB6.out⟩
        | false =>
          have HR := Lib.hid (HA.out (HK.out.2 ⟨rfl, rfl⟩))
          clear HF HA HK
          go_wp2_with fail
          refine wp_region_quiet_below (by kernel_rfl) (by kernel_rfl) ?_
          repeat (go_big_quiet_step (first | (go_at_call 59; exact k1 _ _) | (go_at_call 85; exact k2 _ _)))
          refine wpQuiet_nil ?_
          intro _ hw'
          obtain ⟨⟨dq, osq⟩, hw''⟩ := hw'
          subst hw''
          have HB6 := Lib.hid (HB.out.trans ((below_regrown wr dq osq).mono HB.out.size))
          clear E0 k1 k2
          go_wp2_with fail
          go_roundw
          case rel => exact ⟨k + 1, by omega, by go_num, HR, HB6.out⟩
          case measure => simp [intOf]; omega
    · obtain rfl : k = n2 := by omega
      obtain rfl : R = true := HY.out (fun j hj => hall.out j (by rw [← HJ.out.len]; exact hj))
      clear HY HN CI CH hall
      go_wp2
      go_ret
      exact ⟨rfl, hb⟩
theorem okO_all {n : Nat} {os : List Int} (h : okO n os) : allIn 1 ((n : Int) - 1) os := fun z hz => by
  obtain ⟨q, hq, rfl⟩ := List.getElem_of_mem hz
  have := (h q hq).1
  simpa [List.getD_eq_getElem?_getD, hq] using this
set_option maxRecDepth 100000 in
set_option maxHeartbeats 4000000 in
theorem isOrder_any {w : World} {B B2 : Nat} {A A2 : Option Addr} {n n2 : Nat} {vs : List TPool} {os : List Int} (c c2 : Nat) (h : IsPools w B A n vs) (hm : n ≤ 1048576) (h2 : IsIs w B2 A2 n2 os) (hm2 : n2 ≤ 1048576) (hnc : n2 ≤ c2) :
    Calls Try.prog 86 #[.slice A n c, .slice A2 n2 c2] w fun e w' => e = .returned (.bool (gPs vs && gO n os)) ∧ Below w.heap.size w w' := by
  have HJ := Lib.hid h2
  have CG := Lib.hid (arePools_any c h (Nat.le_trans hm (by unfold maxLen; omega)))
  have C0 := Lib.hid (fun (W : World) (hb : Below w.heap.size w W) => areIn_any 1 ((n : Int) - 1) A2 n2 c2 B2 os W h2.len hm2 (h2.below hb h2.low).has)
  have CH := Lib.hid (fun (W : World) k (hk : k ≤ n2) z (h : IsIs W B2 A2 k (os.take k)) => containsP_any c2 z (Nat.le_trans hk hm2) h)
  have HAI := Lib.hid (fun h : okO n os => okO_all h)
  have HY := Lib.hid (fun h : okO n os => (gO_iff n os).2 h)
  have HN := Lib.hid (fun h : ¬ okO n os => gO_no h)
  generalize gO n os = R at HY HN ⊢
  generalize gPs vs = b0 at CG ⊢
  obtain ⟨D, hD⟩ : ∃ D, decide (allIn 1 ((n : Int) - 1) os) = D := ⟨_, rfl⟩
  rw [hD] at C0
  have HD : Hid (D = true ↔ allIn 1 ((n : Int) - 1) os) := Lib.hid (by rw [← hD, decide_eq_true_eq])
  clear h h2 hD
  cases b0 with
  | false =>
    rw [Bool.false_and]
    clear C0 CH HAI HY HN HD
    go_enter Try.func86, Try.ntmps86
    go_wp2_with fail
    refine CG.out.mono ?_
    rintro e w1 ⟨rfl, hb⟩
    go_wp2_with fail
    go_ret
    exact ⟨rfl, hb⟩
  | true =>
  rw [Bool.true_and]
  cases D with
  | false =>
    obtain rfl : R = false := HN.out (fun g => by have := HD.out.2 (HAI.out g); cases this)
    clear CH HAI HY HN HD
    go_enter Try.func86, Try.ntmps86
    go_wp2_with fail
    refine CG.out.mono ?_
    rintro e w1 ⟨rfl, hb⟩
    have CA := Lib.hid (C0.out _ hb)
    have HB := Lib.hid hb
    clear hb C0 CG
    go_wp2_with fail
    refine CA.out.mono ?_
    rintro e w2 ⟨rfl, rfl⟩
    go_wp2_with fail
    go_ret
    exact ⟨rfl, HB.out⟩
  | true =>
  have HAL := Lib.hid (HD.out.1 rfl)
  clear HAI HD
  go_enter Try.func86, Try.ntmps86
  go_wp2_with fail
  refine CG.out.mono ?_
  rintro e w1 ⟨rfl, hb⟩
  have CA := Lib.hid (C0.out _ hb)
  have HB1 := Lib.hid hb
  clear hb C0 CG
  go_wp2_with fail
  refine CA.out.mono ?_
  rintro e w2 ⟨rfl, rfl⟩
  clear CA
  go_wp2_with fail
  go_loopw [20] (fun i wr => ∃ k : Nat, k ≤ n2 ∧ i = .int .i64 k ∧ Hid (∀ j, j < k → okAt n os j) ∧ Below w.heap.size w wr) (fun i _ => n2 - (intOf i).toNat)
  case atStart => exact ⟨0, Nat.zero_le _, rfl, Lib.hid (fun j hj => absurd hj (by omega)), HB1.out⟩
  case round =>
    clear HB1
    obtain ⟨k, hk, rfl, hall, hb⟩ := hrel
    by_cases hlt : k < n2
    · skip
      obtain ⟨a2, rfl, hab2, ez⟩ := Has.numAt (HJ.out.below hb HJ.out.low).has (k := k) (by rw [HJ.out.len]; exact hlt)
      have HF : Hid (¬ okAt n os k → R = false) := Lib.hid (fun h => HN.out (fun g => h (g k (by rw [HJ.out.len]; exact hlt))))
      have HA : Hid (okAt n os k → ∀ j, j < k + 1 → okAt n os j) := Lib.hid (fun h j hj => by
        rcases Nat.lt_succ_iff_lt_or_eq.1 hj with h1 | h1
        · exact hall.out j h1
        · exact h1 ▸ h)
      have HTK := Lib.hid ((HJ.out.below hb HJ.out.low).take (k := k) (by omega))
      have HK : Hid (okAt n os k ↔ (1 ≤ os.getD k 0 ∧ os.getD k 0 ≤ (n : Int) - 1) ∧ (os.take k).contains (os.getD k 0) = false) := Lib.hid (by
        unfold okAt
        rw [← Bool.not_eq_true, nat_not])
      have hk0 : (0 : Int) ≤ (k : Int) := by omega
      have hk1 : (k : Int) < (n2 : Int) := by omega
      have hkc : (k : Int) ≤ (c2 : Int) := by omega
      have HB := Lib.hid hb
      have HZ := Lib.hid (allIn_getD HAL.out (i := k) (by rw [HJ.out.len]; exact hlt))
      have CK := Lib.hid (CH.out wr k (by omega) (os.getD k 0) HTK.out)
      obtain ⟨M, hM⟩ : ∃ M, (os.take k).contains (os.getD k 0) = M := ⟨_, rfl⟩
      rw [hM] at CK HK
      generalize os.getD k 0 = z at ez CK HK HZ
      clear hb hall hM HTK CH HAL
      go_wp2_with fail
      refine CK.out.mono ?_
      rintro e w6 ⟨rfl, rfl⟩
      cases M with
      | true =>
        obtain rfl : R = false := HF.out (fun g => by have := (HK.out.1 g).2; cases this)
        clear HF HA HK HN HY CK
        go_wp2_with fail
        go_ret
        exact ⟨rfl, HB.out⟩
      | false =>
        have HR := Lib.hid (HA.out (HK.out.2 ⟨HZ.out, rfl⟩))
        clear HF HA HK CK
        go_wp2_with fail
        go_roundw
        case rel => exact ⟨k + 1, by omega, by go_num, HR, HB.out⟩
        case measure => simp [intOf]; omega
    · obtain rfl : k = n2 := by omega
      obtain rfl : R = true := HY.out (fun j hj => hall.out j (by rw [← HJ.out.len]; exact hj))
      clear HY HN CH hall
      go_wp2
      go_ret
      exact ⟨rfl, hb⟩
end Go.Proofs.Ytgnopkemcgbedaa
