/- Chapter 8, the program: whether an order is one. -/
import Derived.Test.YtdleidlmjliapaaLkB
namespace Go.Proofs.Ytdleidlmjliapaa
open Go.RowKit Go.PlainAid Go.Sort
set_option linter.unusedVariables false
set_option linter.unusedSimpArgs false

/-- It stands out of its turn. -/
def outP (vs : List TArrival) (j i : Int) : Prop := (atA vs j).x1 = (atA vs i).x1 ∧ ¬ bef (atA vs j) (atA vs i)
theorem inA_nat {n : Nat} {i : Int} (h : inA n i) : ∃ k : Nat, i = (k : Int) ∧ k < n := by
  unfold inA at h
  exact ⟨i.toNat, by omega, by omega⟩
set_option maxHeartbeats 4000000 in
theorem out_any {w : World} {B : Nat} {A : Option Addr} {n : Nat} {vs : List TArrival} (c : Nat) (h : IsArrivals w B A n vs) (hm : n ≤ 1000) (j i : Int) (hj : inA n j) (hi : inA n i) (lb xb : Nat) (hl : w.cell? ⟨lb, 0, none⟩ = some (.slice A n c)) (hx : w.cell? ⟨xb, 0, none⟩ = some (.int .i64 i)) (R : Bool) (hR : R = true ↔ outP vs j i) :
    Calls Try.prog 62 #[.int .i64 j, .pointer (some ⟨lb, 0, none⟩), .pointer (some ⟨xb, 0, none⟩)] w fun e w' => e = .returned (.bool R) ∧ Below w.heap.size w w' := by
  obtain ⟨jn, rfl, hjn⟩ := inA_nat hj
  obtain ⟨kn, rfl, hkn⟩ := inA_nat hi
  unfold outP at hR
  rw [atA_cast, atA_cast] at hR
  obtain ⟨a1, rfl, hab, HV⟩ := h.has.Arrival (k := jn) (by rw [h.len]; exact hjn)
  obtain ⟨a2, ea, -, HU⟩ := h.has.Arrival (k := kn) (by rw [h.len]; exact hkn)
  injection ea with ea
  subst ea
  generalize vs.getD jn noArrival = V at HV hR
  generalize vs.getD kn noArrival = U at HU hR
  have CC := Lib.hid (fun W => (cmpA_any V U W).mono (fun e w' h => (⟨h.1, h.2.b⟩ : e = .returned (.int .i64 (cmpA V U)) ∧ Below W.heap.size W w')))
  have hneg := cmpA_neg V U
  obtain ⟨i0, u, m0, q0⟩ := V
  obtain ⟨i2, u2, m2, q2⟩ := U
  obtain ⟨e0, e1, e2, e3⟩ := HV
  obtain ⟨f0, f1, f2, f3⟩ := HU
  dsimp only at e0 e1 e2 e3 f0 f1 f2 f3 hR CC
  generalize cmpA ⟨i0, u, m0, q0⟩ ⟨i2, u2, m2, q2⟩ = o at CC hneg
  rw [← hneg] at hR
  have E0 := fun (d : Nat) (os : Array Obj) => cell_regrown e0 d os
  have E1 := fun (d : Nat) (os : Array Obj) => cell_regrown e1 d os
  have E2 := fun (d : Nat) (os : Array Obj) => cell_regrown e2 d os
  have E3 := fun (d : Nat) (os : Array Obj) => cell_regrown e3 d os
  have F0 := fun (d : Nat) (os : Array Obj) => cell_regrown f0 d os
  have F1 := fun (d : Nat) (os : Array Obj) => cell_regrown f1 d os
  have F2 := fun (d : Nat) (os : Array Obj) => cell_regrown f2 d os
  have F3 := fun (d : Nat) (os : Array Obj) => cell_regrown f3 d os
  have G0 := fun (d : Nat) (os : Array Obj) => cell_regrown hl d os
  have G1 := fun (d : Nat) (os : Array Obj) => cell_regrown hx d os
  have c1 := fun (dr : Nat) (os : Array Obj) => Calls.regrown_of (w := w) (d := dr) (os := os) (CC.out _)
  have hk0 : (0 : Int) ≤ (jn : Int) := by omega
  have hk1 : (jn : Int) < (n : Int) := by omega
  have hk2 : (0 : Int) ≤ (kn : Int) := by omega
  have hk3 : (kn : Int) < (n : Int) := by omega
  have HB := Lib.hid (Below.refl w.heap.size w)
  clear e0 e1 e2 e3 f0 f1 f2 f3 hl hx CC h hneg hj hi hjn hkn hab
  by_cases huu : u = u2
  · subst huu
    have hub : (u == u) = true := by simp
    have hRR : R = decide (o ≥ 0) := by rw [Bool.eq_iff_iff, hR, decide_eq_true_eq]; constructor <;> intro h <;> first | omega | exact ⟨rfl, by omega⟩
    clear hR
    subst hRR
    go_enter Try.func62, Try.ntmps62
    go_wp2_with fail
    refine wp_region_quiet_below (by kernel_rfl) (by kernel_rfl) ?_
    repeat (go_big_quiet_step (first | (go_at_call 63; exact c1 _ _)))
    refine wpQuiet_nil ?_
    intro _ hw'
    obtain ⟨⟨dq, osq⟩, hw''⟩ := hw'
    subst hw''
    have HBX := Lib.hid (HB.out.trans ((below_regrown w dq osq).mono HB.out.size))
    clear E0 E1 E2 E3 F0 F1 F2 F3 G0 G1
    go_wp2_with fail
    go_ret
    exact ⟨rfl, HBX.out⟩
  · have hub : (u == u2) = false := by simpa using huu
    obtain rfl : R = false := by
      cases R with
      | false => rfl
      | true => exact absurd (hR.1 rfl).1 huu
    clear hR huu c1
    go_enter Try.func62, Try.ntmps62
    go_wp2_with fail
    refine wp_region_quiet_below (by kernel_rfl) (by kernel_rfl) ?_
    repeat (go_big_quiet_step (first | fail))
    refine wpQuiet_nil ?_
    intro _ hw'
    obtain ⟨⟨dq, osq⟩, hw''⟩ := hw'
    subst hw''
    have HBX := Lib.hid (HB.out.trans ((below_regrown w dq osq).mono HB.out.size))
    clear E0 E1 E2 E3 F0 F1 F2 F3 G0 G1
    go_wp2_with fail
    go_ret
    exact ⟨rfl, HBX.out⟩
set_option maxHeartbeats 2000000 in
theorem outIdx_any {w : World} {B B2 : Nat} {A A2 : Option Addr} {n : Nat} {vs : List TArrival} (c : Nat) (h : IsArrivals w B A n vs) (hm : n ≤ 1000) (os : List Int) (p c2 : Nat) (hp : p ≤ os.length) (hpm : p ≤ 1000) (hos : Has w B2 A2 (os.map (.int .i64))) (hB2 : B2 ≤ w.heap.size) (hin : ∀ q, q < p → inA n (os.getD q 0))
    (i : Int) (hi : inA n i) (lb xb : Nat) (hl : w.cell? ⟨lb, 0, none⟩ = some (.slice A n c)) (hx : w.cell? ⟨xb, 0, none⟩ = some (.int .i64 i)) :
    Calls Try.prog 90 #[.slice A2 p c2, .func (.func 62) #[] #[.pointer (some ⟨lb, 0, none⟩), .pointer (some ⟨xb, 0, none⟩)]] w fun e w' => ∃ z : Int, e = .returned (.int .i64 z) ∧ (0 ≤ z ↔ ∃ q, q < p ∧ outP vs (os.getD q 0) i) ∧ Below w.heap.size w w' := by
  have C := Lib.hid (fun (j : Int) (hj : inA n j) (R : Bool) (hR : R = true ↔ outP vs j i) (W : World) (hW : Below w.heap.size w W) => out_any c (h.below hW h.low) hm j i hj hi lb xb ((hW.cell (World.block_lt_of_cell? w _ hl)).trans hl) ((hW.cell (World.block_lt_of_cell? w _ hx)).trans hx) R hR)
  have HL := Lib.hid hp
  have H := Lib.hid hos
  have HIN := Lib.hid hin
  clear hp hos hin h hl hx hi
  go_enter Try.func90, Try.ntmps90
  go_wp2_with fail
  go_loopw [8] (fun i9 wr => ∃ k : Nat, k ≤ p ∧ i9 = .int .i64 k ∧ Hid (∀ q, q < k → ¬ outP vs (os.getD q 0) i) ∧ Below w.heap.size w wr) (fun i _ => p - (intOf i).toNat)
  case atStart => exact ⟨0, Nat.zero_le _, rfl, Lib.hid (by simp), Below.refl _ _⟩
  case round =>
    obtain ⟨k, hk, rfl, hall, hb⟩ := hrel
    by_cases hlt : k < p
    · obtain ⟨a1, rfl, hab, e0⟩ := (H.out.below (hb.mono hB2)).numAt (k := k) (Nat.lt_of_lt_of_le hlt HL.out)
      have HE : Hid (outP vs (os.getD k 0) i → ∃ q, q < p ∧ outP vs (os.getD q 0) i) := Lib.hid (fun h => ⟨k, hlt, h⟩)
      have HA : Hid (¬ outP vs (os.getD k 0) i → ∀ q, q < k + 1 → ¬ outP vs (os.getD q 0) i) := Lib.hid (fun h j hj => by
        rcases Nat.lt_succ_iff_lt_or_eq.1 hj with h1 | h1
        · exact hall.out j h1
        · exact h1 ▸ h)
      have hj := HIN.out k hlt
      generalize os.getD k 0 = j at e0 HE HA hj
      obtain ⟨R, hR⟩ : ∃ R : Bool, R = true ↔ outP vs j i := by
        by_cases g : outP vs j i
        · exact ⟨true, by simpa using g⟩
        · exact ⟨false, by simpa using g⟩
      have C1 := Lib.hid (C.out j hj R hR)
      have HR := Lib.hid hR
      have HB := Lib.hid hb
      have hk0 : (0 : Int) ≤ (k : Int) := by omega
      have hk1 : (k : Int) < (p : Int) := by omega
      clear hall hb H HIN hR C
      go_wp2_with fail
      refine (C1.out _ HB.out).mono ?_
      rintro e w2 ⟨rfl, hb2⟩
      have HB2 := Lib.hid (HB.out.trans (hb2.mono HB.out.size))
      clear hb2 e0 C1
      cases R with
      | true =>
        have HR2 := Lib.hid (HE.out (HR.out.1 rfl))
        clear HE HA HR
        go_wp2_with fail
        go_ret
        exact ⟨_, rfl, ⟨fun _ => HR2.out, fun _ => by omega⟩, HB2.out⟩
      | false =>
        have HR2 := Lib.hid (HA.out (fun h => by have := HR.out.2 h; cases this))
        clear HE HA HR
        go_wp2_with fail
        refine ⟨⟨k + 1, by omega, by go_num, HR2, HB2.out⟩, by simp [intOf]; omega⟩
    · obtain rfl : k = p := by omega
      clear H C HIN
      go_wp2
      go_ret
      exact ⟨_, rfl, ⟨fun h => absurd h (by omega), fun ⟨j, hj, h⟩ => absurd h (hall.out j hj)⟩, hb⟩
set_option maxHeartbeats 1000000 in
theorem outCon_any {w : World} {B B2 : Nat} {A A2 : Option Addr} {n : Nat} {vs : List TArrival} (c : Nat) (h : IsArrivals w B A n vs) (hm : n ≤ 1000) (os : List Int) (p c2 : Nat) (hp : p ≤ os.length) (hpm : p ≤ 1000) (hos : Has w B2 A2 (os.map (.int .i64))) (hB2 : B2 ≤ w.heap.size) (hin : ∀ q, q < p → inA n (os.getD q 0))
    (i : Int) (hi : inA n i) (lb xb : Nat) (hl : w.cell? ⟨lb, 0, none⟩ = some (.slice A n c)) (hx : w.cell? ⟨xb, 0, none⟩ = some (.int .i64 i)) (R : Bool) (hR : R = true ↔ ∃ q, q < p ∧ outP vs (os.getD q 0) i) :
    Calls Try.prog 64 #[.slice A2 p c2, .func (.func 62) #[] #[.pointer (some ⟨lb, 0, none⟩), .pointer (some ⟨xb, 0, none⟩)]] w fun e w' => e = .returned (.bool R) ∧ Below w.heap.size w w' := by
  have C := Lib.hid (outIdx_any c h hm os p c2 hp hpm hos hB2 hin i hi lb xb hl hx)
  have HR := Lib.hid hR
  clear hp hm h hR hos hin hl hx hi
  go_enter Try.func64, Try.ntmps64
  go_wp2_with fail
  refine C.out.mono ?_
  rintro e w1 ⟨z, rfl, hz, hb⟩
  have hzR : R = decide (z ≥ 0) := by rw [Bool.eq_iff_iff, HR.out, ← hz, decide_eq_true_iff]
  clear hz HR C
  go_wp2_with fail
  go_ret
  exact ⟨ret_bool hzR.symm, hb⟩
/-- All lie within these. -/
def allIn (lo hi : Int) (zs : List Int) : Prop := ∀ z ∈ zs, lo ≤ z ∧ z ≤ hi
instance (lo hi : Int) (zs : List Int) : Decidable (allIn lo hi zs) := by unfold allIn; infer_instance
theorem allIn_getD {lo hi : Int} {zs : List Int} (h : allIn lo hi zs) {i : Nat} (hi2 : i < zs.length) : lo ≤ zs.getD i 0 ∧ zs.getD i 0 ≤ hi := h _ (getD_mem hi2)
set_option maxHeartbeats 1000000 in
theorem areIn_any (lo hi : Int) (A : Option Addr) (n c B : Nat) (zs : List Int) (w : World) (hn : zs.length = n) (hm : n ≤ 1048576) (h : Has w B A (zs.map (.int .i64))) :
    Calls Try.prog 61 #[.int .i64 lo, .int .i64 hi, .slice A n c] w fun e w' => e = .returned (.bool (decide (allIn lo hi zs))) ∧ w = w' := by
  have CI := Lib.hid (fun (z : Int) W => inRange_any z lo hi W)
  have HL := Lib.hid hn
  have H := Lib.hid h
  obtain ⟨b, hb⟩ : ∃ b, decide (allIn lo hi zs) = b := ⟨_, rfl⟩
  rw [hb]
  have HN : Hid (∀ q, q < n → ¬ (lo ≤ zs.getD q 0 ∧ zs.getD q 0 ≤ hi) → b = false) := Lib.hid (fun q hq hz => by
    rw [← hb]
    refine decide_eq_false fun hs => hz (allIn_getD hs (by omega)))
  have HY : Hid ((∀ q, q < n → lo ≤ zs.getD q 0 ∧ zs.getD q 0 ≤ hi) → b = true) := Lib.hid (fun hz => by
    rw [← hb]
    refine decide_eq_true (fun z hz2 => ?_)
    obtain ⟨q, hq, rfl⟩ := List.getElem_of_mem hz2
    have := hz q (by omega)
    simpa [List.getD_eq_getElem?_getD, hq] using this)
  clear hb hn h
  go_enter Try.func61, Try.ntmps61
  go_wp2_with fail
  go_loop [11] (fun i => ∃ q : Nat, q ≤ n ∧ i = .int .i64 q ∧ Hid (∀ j, j < q → lo ≤ zs.getD j 0 ∧ zs.getD j 0 ≤ hi)) (fun i => n - (intOf i).toNat)
  case atStart => exact ⟨0, Nat.zero_le _, rfl, Lib.hid (fun j hj => absurd hj (by omega))⟩
  case round =>
    obtain ⟨q, hq, rfl, hall⟩ := hrel
    by_cases hlt : q < n
    · obtain ⟨a2, rfl, hab2, ez⟩ := Has.numAt H.out (k := q) (by rw [HL.out]; exact hlt)
      have HF2 := Lib.hid (HN.out q hlt)
      have HA2 : Hid ((lo ≤ zs.getD q 0 ∧ zs.getD q 0 ≤ hi) → ∀ j, j < q + 1 → lo ≤ zs.getD j 0 ∧ zs.getD j 0 ≤ hi) := Lib.hid (fun h j hj => by
        rcases Nat.lt_succ_iff_lt_or_eq.1 hj with h1 | h1
        · exact hall.out j h1
        · subst h1; exact h)
      generalize zs.getD q 0 = z at ez HF2 HA2
      have CZ := Lib.hid (fun W => CI.out z W)
      have hq0 : (0 : Int) ≤ (q : Int) := by omega
      have hq1 : (q : Int) < (n : Int) := by omega
      clear hall HN HY CI H
      by_cases hz : lo ≤ z ∧ z ≤ hi
      · rw [decide_eq_true hz] at CZ
        have HR := Lib.hid (HA2.out hz)
        clear HF2 HA2 hz
        go_wp2_with fail
        refine (CZ.out _).mono ?_
        rintro e w3 ⟨rfl, rfl⟩
        go_wp2_with fail
        go_round
        case rel => exact ⟨q + 1, by omega, by go_num, HR⟩
        case measure => simp [intOf]; omega
      · rw [decide_eq_false hz] at CZ
        obtain rfl : b = false := HF2.out hz
        clear HF2 HA2 hz
        go_wp2_with fail
        refine (CZ.out _).mono ?_
        rintro e w3 ⟨rfl, rfl⟩
        go_wp2_with fail
        go_ret
        exact ⟨rfl, rfl⟩
    · obtain rfl : q = n := by omega
      obtain rfl : b = true := HY.out (fun j h => hall.out j h)
      clear hall HN CI H
      go_wp2_with fail
      go_ret
      exact ⟨rfl, rfl⟩
/-- A row of integers that lies below block B. -/
structure IsIs (w : World) (B : Nat) (A : Option Addr) (n : Nat) (zs : List Int) : Prop where
  len : zs.length = n
  low : B ≤ w.heap.size
  has : Has w B A (zs.map (.int .i64))
theorem IsIs.below {w w' : World} {B C : Nat} {A : Option Addr} {n : Nat} {zs : List Int} (h : IsIs w B A n zs) (hb : Below C w w') (hC : B ≤ C) : IsIs w' B A n zs :=
  ⟨h.len, Nat.le_trans h.low hb.size, h.has.below (hb.mono hC)⟩
theorem own_IsIs {w : World} {base g n c : Nat} {zs : List Int} (h : w.ownsRow base 3 1 (.slice (some ⟨g, 0, none⟩) n c) n (zs.map (.int .i64))) : IsIs w w.heap.size (some ⟨g, 0, none⟩) n zs :=
  ⟨by have := h.1; simpa using this, Nat.le_refl _, ownS_has h⟩
theorem ordA_bad {vs : List TArrival} {os : List Int} {n p : Nat} (hn : vs.length = n) (h : p < os.length) (hb : ∃ q, q < p ∧ outP vs (os.getD q 0) (os.getD p 0)) : ¬ OrdA vs os := fun g => by
  obtain ⟨q, hq, ho⟩ := hb
  exact ((ordP_iff vs os).2 g).2.2.2 p h q hq ho
set_option maxRecDepth 100000 in
set_option maxHeartbeats 4000000 in
theorem isOrderI_any {w : World} {B B2 : Nat} {A A2 : Option Addr} {n n2 : Nat} {vs : List TArrival} {os : List Int} (c c2 : Nat) (h : IsArrivals w B A n vs) (hm : n ≤ 1048576) (h2 : IsIs w B2 A2 n2 os) (hm2 : n2 ≤ 1048576) (hnc : n2 ≤ c2) :
    Calls Try.prog 27 #[.slice A n c, .slice A2 n2 c2] w fun e w' => e = .returned (.bool (oA vs os)) ∧ Below w.heap.size w w' := by
  obtain ⟨W5, hW5⟩ : ∃ W, World.alloc w (.cells #[.slice A n c] 45) = W := ⟨_, rfl⟩
  obtain ⟨lb, hlb⟩ : ∃ x, w.heap.size = x := ⟨_, rfl⟩
  have cl : W5.cell? ⟨lb, 0, none⟩ = some (.slice A n c) := by rw [← hW5, ← hlb, sNew]; rfl
  have hwl : Below w.heap.size w W5 := by rw [← hW5]; exact below1 _ _
  have CG := Lib.hid (areArrivals_any c (h.below hwl h.low) (Nat.le_trans hm (by unfold maxLen; omega)))
  have CR := Lib.hid (fun (W : World) (hb : Below w.heap.size w W) => toBelow (areIn_any 0 ((n : Int) - 1) A2 n2 c2 B2 os W h2.len hm2 (h2.has.below (hb.mono h2.low))))
  have CC := Lib.hid (fun (hn6 : n ≤ 6) (hn2 : n2 = n) (hr : ∀ q, q < n → inA n (os.getD q 0)) (p : Nat) (hp : p < n) (i : Int) (hi : inA n i) (xb : Nat) (W : World) (hb : Below w.heap.size w W) (hl : W.cell? ⟨lb, 0, none⟩ = some (.slice A n c)) (hx : W.cell? ⟨xb, 0, none⟩ = some (.int .i64 i)) (R : Bool) hR =>
    outCon_any c (h.below hb h.low) (by omega) os p c2 (by rw [h2.len]; omega) (by omega) (h2.has.below (hb.mono h2.low)) (Nat.le_trans h2.low hb.size) (fun q hq => hr q (by omega)) i hi lb xb hl hx R hR)
  have HL := Lib.hid h.len
  have HO := Lib.hid h2
  have HLB := Lib.hid (fun W (hb : Below W5.heap.size W5 W) => show W.cell? ⟨lb, 0, none⟩ = some (.slice A n c) from (hb.cell (World.block_lt_of_cell? _ _ cl)).trans cl)
  have HB5 := Lib.hid hwl
  have HN := Lib.hid (fun h : ¬ OrdA vs os => oA_no h)
  have HY := Lib.hid (fun h : OrdA vs os => oA_yes h)
  have HGI := Lib.hid (gAs_iff vs)
  generalize oA vs os = R at HN HY ⊢
  generalize gAs vs = G at CG HGI
  clear h h2 hwl
  cases G with
  | false =>
    obtain rfl : R = false := HN.out (fun g => by have := HGI.out.2 g.1; cases this)
    go_enter Try.func27, Try.ntmps27
    go_wp2_with fail
    (try rw [hW5]); (try rw [hlb])
    refine CG.out.mono ?_
    rintro e w6 ⟨rfl, hb6⟩
    have HB6 := Lib.hid (HB5.out.trans (hb6.mono HB5.out.size))
    have Y := HLB.out _ hb6
    clear hb6 CG cl hW5 CR CC HN HY HGI
    go_wp2_with fail
    go_ret
    first | exact ⟨rfl, HB6.out⟩ | (rw [← hlb]; exact ⟨rfl, HB6.out⟩)
  | true =>
    have HG := Lib.hid (HGI.out.1 rfl)
    have hn6 : n ≤ 6 := by rw [← HL.out]; exact HG.out.1
    have HPI := Lib.hid (ordP_iff vs os)
    by_cases hnn : n2 = n
    · subst hnn
      have CK := Lib.hid (CC.out hn6 rfl)
      clear CC
      obtain ⟨D, hD⟩ : ∃ D, decide (allIn 0 ((n2 : Int) - 1) os) = D := ⟨_, rfl⟩
      rw [hD] at CR
      have HD := Lib.hid hD
      clear hD
      go_enter Try.func27, Try.ntmps27
      go_wp2_with fail
      (try rw [hW5]); (try rw [hlb])
      refine CG.out.mono ?_
      rintro e w6 ⟨rfl, hb6⟩
      have HB6 := Lib.hid (HB5.out.trans (hb6.mono HB5.out.size))
      have Y := HLB.out _ hb6
      have C6 := Lib.hid (CR.out _ HB6.out)
      have HLC := Lib.hid hb6
      have hnb : ((n2 : Int) != (n2 : Int)) = false := by simp
      clear hb6 CG cl hW5 CR
      go_wp2_with fail
      refine C6.out.mono ?_
      rintro e w7 ⟨rfl, hb7⟩
      have HB7 := Lib.hid (HB6.out.trans (hb7.mono HB6.out.size))
      have HL7 := Lib.hid (HLC.out.trans (hb7.mono HLC.out.size))
      clear hb7 C6 HLC HB6 Y
      cases D with
      | false =>
        obtain rfl : R = false := HN.out (fun g => of_decide_eq_false HD.out (fun z hz => by
          have := (HPI.out.2 g).2.2.1 z hz
          rw [HL.out] at this
          exact this))
        clear HN HY HPI HD
        go_wp2_with fail
        go_ret
        first | exact ⟨rfl, HB7.out⟩ | (rw [← hlb]; exact ⟨rfl, HB7.out⟩)
      | true =>
        have HR : Hid (∀ q, q < n2 → inA n2 (os.getD q 0)) := Lib.hid (fun q hq => of_decide_eq_true HD.out _ (getD_mem (by rw [HO.out.len]; exact hq)))
        have HYY : Hid ((∀ p, p < n2 → ¬ ∃ q, q < p ∧ outP vs (os.getD q 0) (os.getD p 0)) → R = true) := Lib.hid (fun hz => HY.out (HPI.out.1 ⟨HG.out, by rw [HO.out.len, HL.out], fun z hz2 => by
          have := of_decide_eq_true HD.out z hz2
          rw [HL.out]
          exact this, fun p hp q hq ho => hz p (by rw [← HO.out.len]; exact hp) ⟨q, hq, ho⟩⟩))
        have HNN : Hid (∀ p, p < n2 → (∃ q, q < p ∧ outP vs (os.getD q 0) (os.getD p 0)) → R = false) := Lib.hid (fun p hp hb => HN.out (ordA_bad HL.out (by rw [HO.out.len]; exact hp) hb))
        replace CK := Lib.hid (CK.out HR.out)
        clear HN HY HPI HD HGI HG
        go_wp2_with fail
        go_loopw [28] (fun i wr => ∃ k : Nat, k ≤ n2 ∧ i = .int .i64 k ∧ Hid (∀ p, p < k → ¬ ∃ q, q < p ∧ outP vs (os.getD q 0) (os.getD p 0)) ∧ Below W5.heap.size W5 wr) (fun i _ => n2 - (intOf i).toNat)
        case atStart => exact ⟨0, Nat.zero_le _, rfl, Lib.hid (by simp), HL7.out⟩
        case round =>
          obtain ⟨k, hk, rfl, hall, hb⟩ := hrel
          have HB8 := Lib.hid (HB5.out.trans (hb.mono HB5.out.size))
          by_cases hlt : k < n2
          · obtain ⟨a2, rfl, hab2, ez⟩ := Has.numAt (HO.out.below HB8.out HO.out.low).has (k := k) (by rw [HO.out.len]; exact hlt)
            have hi := HR.out k hlt
            have HF := Lib.hid (HNN.out k hlt)
            have HA : Hid ((¬ ∃ q, q < k ∧ outP vs (os.getD q 0) (os.getD k 0)) → ∀ p, p < k + 1 → ¬ ∃ q, q < p ∧ outP vs (os.getD q 0) (os.getD p 0)) := Lib.hid (fun h j hj => by
              rcases Nat.lt_succ_iff_lt_or_eq.1 hj with h1 | h1
              · exact hall.out j h1
              · subst h1; exact h)
            generalize os.getD k 0 = i at ez HF HA hi
            obtain ⟨S, hS⟩ : ∃ S : Bool, S = true ↔ ∃ q, q < k ∧ outP vs (os.getD q 0) i := by
              by_cases g : ∃ q, q < k ∧ outP vs (os.getD q 0) i
              · exact ⟨true, by simpa using g⟩
              · exact ⟨false, by simpa using g⟩
            have HS := Lib.hid hS
            have HB := Lib.hid hb
            have hk0 : (0 : Int) ≤ (k : Int) := by omega
            have hk1 : (k : Int) < (n2 : Int) := by omega
            have hkc : (k : Int) ≤ (c2 : Int) := by omega
            obtain ⟨W9, hW9⟩ : ∃ W, World.alloc wr (.cells #[.int .i64 i] 3) = W := ⟨_, rfl⟩
            obtain ⟨xb, hxb⟩ : ∃ x, wr.heap.size = x := ⟨_, rfl⟩
            have cx : W9.cell? ⟨xb, 0, none⟩ = some (.int .i64 i) := by rw [← hW9, ← hxb, sNew]; rfl
            have hb9 : Below wr.heap.size wr W9 := by rw [← hW9]; exact below1 _ _
            have HL9 := Lib.hid (HB.out.trans (hb9.mono HB.out.size))
            have HB9 := Lib.hid (HB8.out.trans (hb9.mono HB8.out.size))
            have C9 := Lib.hid (CK.out k hlt i hi xb W9 HB9.out (HLB.out _ HL9.out) cx S hS)
            clear hb hall hS HNN HYY CK hi cx hb9
            go_wp2_with fail
            try rw [hW9]
            try rw [hxb]
            clear hW9
            refine C9.out.mono ?_
            rintro e w10 ⟨rfl, hb10⟩
            have HB10 := Lib.hid (HB9.out.trans (hb10.mono HB9.out.size))
            have HL10 := Lib.hid (HL9.out.trans (hb10.mono HL9.out.size))
            clear hb10 C9 ez
            cases S with
            | true =>
              obtain rfl : R = false := HF.out (HS.out.1 rfl)
              clear HF HA HS
              go_wp2_with fail
              go_ret
              first | exact ⟨rfl, HB10.out⟩ | (rw [← hlb]; exact ⟨rfl, HB10.out⟩)
            | false =>
              have HT := Lib.hid (HA.out (fun g => by have := HS.out.2 g; cases this))
              clear HF HA HS
              go_wp2_with fail
              go_roundw
              case rel => exact ⟨k + 1, by omega, by go_num, HT, HL10.out⟩
              case measure => simp [intOf]; omega
          · obtain rfl : k = n2 := by omega
            obtain rfl : R = true := HYY.out hall.out
            clear HNN HYY CK hall hb HR
            go_wp2_with fail
            go_ret
            first | exact ⟨rfl, HB8.out⟩ | (rw [← hlb]; exact ⟨rfl, HB8.out⟩)
    · obtain rfl : R = false := HN.out (fun g => hnn (by rw [← HO.out.len, ← HL.out]; exact g.2.1))
      have hnb : ((n2 : Int) != (n : Int)) = true := by simp; omega
      clear CR CC HN HY HGI HPI
      go_enter Try.func27, Try.ntmps27
      go_wp2_with fail
      (try rw [hW5]); (try rw [hlb])
      refine CG.out.mono ?_
      rintro e w6 ⟨rfl, hb6⟩
      have HB6 := Lib.hid (HB5.out.trans (hb6.mono HB5.out.size))
      have Y := HLB.out _ hb6
      clear hb6 CG cl hW5
      go_wp2_with fail
      go_ret
      first | exact ⟨rfl, HB6.out⟩ | (rw [← hlb]; exact ⟨rfl, HB6.out⟩)
end Go.Proofs.Ytdleidlmjliapaa
