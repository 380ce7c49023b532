/- Chapter 10: valid flows: the model and the program. -/
import Derived.Test.YtliebicnejbheaaWaA
namespace Go.Proofs.Ytliebicnejbheaa
open Go.RowKit Go.PlainAid Go.Sort
set_option linter.unusedVariables false
set_option linter.unusedSimpArgs false

/-- All lie within these. -/
def allIn (lo hi : Int) (zs : List Int) : Prop := ∀ z ∈ zs, lo ≤ z ∧ z ≤ hi
instance (lo hi : Int) (zs : List Int) : Decidable (allIn lo hi zs) := by unfold allIn; infer_instance
theorem allIn_getD {lo hi : Int} {zs : List Int} (h : allIn lo hi zs) {i : Nat} (hi2 : i < zs.length) : lo ≤ zs.getD i 0 ∧ zs.getD i 0 ≤ hi := by
  rw [List.getD_eq_getElem?_getD, List.getElem?_eq_getElem hi2]
  exact h _ (List.getElem_mem hi2)
theorem intGet {w : World} {B : Nat} {A : Option Addr} {zs : List Int} (h : Has w B A (zs.map (.int .i64))) {k : Nat} (hk : k < zs.length) :
    ∃ a, A = some a ∧ a.block < B ∧ w.cell? (a.add k) = some (.int .i64 (zs.getD k 0)) := by
  obtain ⟨a, e, hb, hc⟩ := h.intAt hk
  exact ⟨a, e, hb, by rw [hc]; simp [List.getD_eq_getElem?_getD, hk]⟩

set_option maxHeartbeats 1000000 in
theorem areIn_any (lo hi : Int) (A : Option Addr) (n c B : Nat) (zs : List Int) (w : World) (hn : zs.length = n) (hm : n ≤ 1048576) (h : Has w B A (zs.map (.int .i64))) :
    Calls Try.prog 68 #[.int .i64 lo, .int .i64 hi, .slice A n c] w fun e w' => e = .returned (.bool (decide (allIn lo hi zs))) ∧ w = w' := by
  have CI := Lib.hid (fun (z : Int) W => inRange_any z lo hi W)
  have HL := Lib.hid hn
  have H := Lib.hid h
  obtain ⟨b, hb⟩ : ∃ b, decide (allIn lo hi zs) = b := ⟨_, rfl⟩
  rw [hb]
  have HN : Hid (∀ q, q < n → ¬ (lo ≤ zs.getD q 0 ∧ zs.getD q 0 ≤ hi) → b = false) := Lib.hid (fun q hq hz => by
    rw [← hb]
    refine decide_eq_false fun hs => hz (allIn_getD hs (by omega)))
  have HY : Hid ((∀ q, q < n → lo ≤ zs.getD q 0 ∧ zs.getD q 0 ≤ hi) → b = true) := Lib.hid (fun hz => by
    rw [← hb]
    refine decide_eq_true (fun z hz2 => ?_)
    obtain ⟨q, hq, rfl⟩ := List.getElem_of_mem hz2
    have := hz q (by omega)
    simpa [List.getD_eq_getElem?_getD, hq] using this)
  clear hb hn h
  go_enter Try.func68, Try.ntmps68
  go_wp2_with fail
  go_loop [11] (fun i => ∃ q : Nat, q ≤ n ∧ i = .int .i64 q ∧ Hid (∀ j, j < q → lo ≤ zs.getD j 0 ∧ zs.getD j 0 ≤ hi)) (fun i => n - (intOf i).toNat)
  case atStart => exact ⟨0, Nat.zero_le _, rfl, Lib.hid (fun j hj => absurd hj (by omega))⟩
  case round =>
    obtain ⟨q, hq, rfl, hall⟩ := hrel
    by_cases hlt : q < n
    · obtain ⟨a2, rfl, hab2, ez⟩ := intGet H.out (k := q) (by rw [HL.out]; exact hlt)
      have HF2 := Lib.hid (HN.out q hlt)
      have HA2 : Hid ((lo ≤ zs.getD q 0 ∧ zs.getD q 0 ≤ hi) → ∀ j, j < q + 1 → lo ≤ zs.getD j 0 ∧ zs.getD j 0 ≤ hi) := Lib.hid (fun h j hj => by
        rcases Nat.lt_succ_iff_lt_or_eq.1 hj with h1 | h1
        · exact hall.out j h1
        · subst h1; exact h)
      generalize zs.getD q 0 = z at ez HF2 HA2
      have CZ := Lib.hid (fun W => CI.out z W)
      have hq0 : (0 : Int) ≤ (q : Int) := by omega
      have hq1 : (q : Int) < (n : Int) := by omega
      clear hall HN HY CI H
      by_cases hz : lo ≤ z ∧ z ≤ hi
      · rw [decide_eq_true hz] at CZ
        have HR := Lib.hid (HA2.out hz)
        clear HF2 HA2 hz
        go_wp2_with fail
        refine (CZ.out _).mono ?_
        rintro e w3 ⟨rfl, rfl⟩
        go_wp2_with fail
        go_round
        case rel => exact ⟨q + 1, by omega, by go_num, HR⟩
        case measure => simp [intOf]; omega
      · rw [decide_eq_false hz] at CZ
        obtain rfl : b = false := HF2.out hz
        clear HF2 HA2 hz
        go_wp2_with fail
        refine (CZ.out _).mono ?_
        rintro e w3 ⟨rfl, rfl⟩
        go_wp2_with fail
        go_ret
        exact ⟨rfl, rfl⟩
    · obtain rfl : q = n := by omega
      obtain rfl : b = true := HY.out (fun j h => hall.out j h)
      clear hall HN CI H
      go_wp2_with fail
      go_ret
      exact ⟨rfl, rfl⟩
theorem has_two_new (w : World) (x y : Value) (t : TypeId) : Has (w.alloc (.cells #[x, y] t)) (w.heap.size + 1) (some ⟨w.heap.size, 0, none⟩) [x, y] := by
  intro k u hu
  refine ⟨_, rfl, by simp, ?_⟩
  match k, hu with
  | 0, hu => exact (sNew w #[x, y] t 0).trans hu
  | 1, hu => exact (sNew w #[x, y] t 1).trans hu

set_option maxRecDepth 100000 in
set_option maxHeartbeats 2000000 in
theorem l10Flow_any (n : Nat) (f0 f1 f2 : Int) (w : World) (hm : n ≤ maxLen) :
    Calls Try.prog 67 #[.int .i64 (n : Int), .agg #[.int .i64 f0, .int .i64 f1, .int .i64 f2]] w fun e w' => e = .returned (.bool (gF n ⟨f0, f1, f2⟩)) ∧ Below w.heap.size w w' := by
  unfold maxLen at hm
  have C0 := Lib.hid (fun W => l1In_any f0 (-1) ((n : Int) - 1) W)
  have C1 := Lib.hid (fun W => l1In_any f1 (-1) ((n : Int) - 1) W)
  have C2 := Lib.hid (fun W => l1In_any f2 1 100000 W)
  have hv := Lib.hid ((gF_iff n ⟨f0, f1, f2⟩).trans (show goodF n ⟨f0, f1, f2⟩ ↔ (-1 ≤ f0 ∧ f0 ≤ (n : Int) - 1) ∧ (-1 ≤ f1 ∧ f1 ≤ (n : Int) - 1) ∧ f0 ≠ f1 ∧ (1 ≤ f2 ∧ f2 ≤ 100000) from Iff.rfl))
  generalize gF n ⟨f0, f1, f2⟩ = R at hv ⊢
  by_cases g0 : -1 ≤ f0 ∧ f0 ≤ (n : Int) - 1
  · rw [decide_eq_true g0] at C0
    by_cases g1 : -1 ≤ f1 ∧ f1 ≤ (n : Int) - 1
    · rw [decide_eq_true g1] at C1
      by_cases g2 : f0 = f1
      · obtain rfl : R = false := by cases R with | false => rfl | true => exact absurd g2 (hv.out.1 rfl).2.2.1
        have hb : (f0 != f1) = false := by simp [g2]
        clear g0 g1 hv g2
        go_enter Try.func67, Try.ntmps67
        go_wp2_with fail
        refine (C0.out _).mono ?_
        rintro e w1 ⟨rfl, rfl⟩
        go_wp2_with fail
        refine (C1.out _).mono ?_
        rintro e w1 ⟨rfl, rfl⟩
        go_wp2_with fail
        go_ret
        exact ⟨rfl, below1 _ _⟩
      · have HE : Hid (R = decide (1 ≤ f2 ∧ f2 ≤ 100000)) := Lib.hid (by
          rw [Bool.eq_iff_iff, hv.out, decide_eq_true_eq]
          exact ⟨fun h => h.2.2.2, fun h => ⟨g0, g1, g2, h⟩⟩)
        have hb : (f0 != f1) = true := by simp [g2]
        generalize decide (1 ≤ f2 ∧ f2 ≤ 100000) = z at C2 HE
        obtain rfl := HE.out
        clear g0 g1 hv g2 HE
        go_enter Try.func67, Try.ntmps67
        go_wp2_with fail
        refine (C0.out _).mono ?_
        rintro e w1 ⟨rfl, rfl⟩
        go_wp2_with fail
        refine (C1.out _).mono ?_
        rintro e w1 ⟨rfl, rfl⟩
        go_wp2_with fail
        refine (C2.out _).mono ?_
        rintro e w1 ⟨rfl, rfl⟩
        go_wp2_with fail
        go_ret
        exact ⟨rfl, below1 _ _⟩
    · obtain rfl : R = false := by cases R with | false => rfl | true => exact absurd (hv.out.1 rfl).2.1 g1
      rw [decide_eq_false g1] at C1
      clear g0 g1 hv
      go_enter Try.func67, Try.ntmps67
      go_wp2_with fail
      refine (C0.out _).mono ?_
      rintro e w1 ⟨rfl, rfl⟩
      go_wp2_with fail
      refine (C1.out _).mono ?_
      rintro e w1 ⟨rfl, rfl⟩
      go_wp2_with fail
      go_ret
      exact ⟨rfl, below1 _ _⟩
  · obtain rfl : R = false := by cases R with | false => rfl | true => exact absurd (hv.out.1 rfl).1 g0
    rw [decide_eq_false g0] at C0
    clear g0 hv
    go_enter Try.func67, Try.ntmps67
    go_wp2_with fail
    refine (C0.out _).mono ?_
    rintro e w1 ⟨rfl, rfl⟩
    go_wp2_with fail
    go_ret
    exact ⟨rfl, below1 _ _⟩

set_option maxRecDepth 100000 in
set_option maxHeartbeats 2000000 in
theorem isFlowS_any {w : World} {B : Nat} {A : Option Addr} {n : Nat} {vs : List TBasin} (c : Nat) (h : IsBasins w B A n vs) (hm : n ≤ maxLen) (f0 f1 f2 : Int) (R : Bool) (hR : R = (gBs vs && gF n ⟨f0, f1, f2⟩)) :
    Calls Try.prog 26 #[.slice A n c, .agg #[.int .i64 f0, .int .i64 f1, .int .i64 f2]] w fun e w' => e = .returned (.bool R) ∧ Below w.heap.size w w' := by
  have CG := Lib.hid (fun W (hb : Below w.heap.size w W) => l10Good_any c (h.below hb h.low) hm)
  have CF := Lib.hid (fun W => l10Flow_any n f0 f1 f2 W hm)
  generalize gBs vs = b0 at CG hR
  generalize gF n ⟨f0, f1, f2⟩ = b1 at CF hR
  have HRR := Lib.hid hR
  clear h hR
  go_enter Try.func26, Try.ntmps26
  go_wp2_with fail
  obtain ⟨W5, hW5⟩ : ∃ W, World.alloc w (.cells #[.int .i64 f0, .int .i64 f1, .int .i64 f2] 38) = W := ⟨_, rfl⟩
  obtain ⟨xb, hxb⟩ : ∃ x, (w : World).heap.size = x := ⟨_, rfl⟩
  have cxb0 : W5.cell? ⟨xb, 0, none⟩ = some (.int .i64 f0) := by rw [← hW5, ← hxb, sNew]; rfl
  have cxb1 : W5.cell? ⟨xb, 1, none⟩ = some (.int .i64 f1) := by rw [← hW5, ← hxb, sNew]; rfl
  have cxb2 : W5.cell? ⟨xb, 2, none⟩ = some (.int .i64 f2) := by rw [← hW5, ← hxb, sNew]; rfl
  have HB5 := Lib.hid (show Below w.heap.size w W5 by rw [← hW5]; exact (Below.refl w.heap.size w).alloc (Below.refl w.heap.size w).size _)
  have hxl := World.block_lt_of_cell? W5 _ cxb0
  have HX := Lib.hid (fun W (hq : Below W5.heap.size W5 W) => show W.cell? ⟨xb, 0, none⟩ = some (.int .i64 f0) ∧ W.cell? ⟨xb, 1, none⟩ = some (.int .i64 f1) ∧ W.cell? ⟨xb, 2, none⟩ = some (.int .i64 f2) from ⟨(hq.cell hxl).trans cxb0, (hq.cell (p := ⟨xb, 1, none⟩) hxl).trans cxb1, (hq.cell (p := ⟨xb, 2, none⟩) hxl).trans cxb2⟩)
  rw [hW5, hxb]
  clear hW5 hxb hxl cxb0 cxb1 cxb2
  refine (CG.out _ HB5.out).mono ?_
  rintro e w1 ⟨rfl, hb⟩
  obtain ⟨x0, x1, x2⟩ := HX.out _ hb
  have HB6 := Lib.hid (HB5.out.trans (hb.mono HB5.out.size))
  clear hb CG HX
  cases b0 with
  | false =>
    obtain rfl : R = false := by have := HRR.out; simpa using this
    clear HRR
    go_wp2_with fail
    go_ret
    exact ⟨rfl, HB6.out⟩
  | true =>
    obtain rfl : R = b1 := by have := HRR.out; simpa using this
    clear HRR
    go_wp2_with fail
    refine (CF.out _).mono ?_
    rintro e w2 ⟨rfl, hb⟩
    have HB7 := Lib.hid (HB6.out.trans (hb.mono HB6.out.size))
    clear hb
    go_wp2_with fail
    go_ret
    exact ⟨rfl, HB7.out⟩
set_option maxRecDepth 100000 in
set_option maxHeartbeats 2000000 in
theorem isFlowI_any {w : World} {B : Nat} {A : Option Addr} {n : Nat} {vs : List TBasin} (c : Nat) (h : IsBasins w B A n vs) (hm : n ≤ maxLen) (f0 f1 f2 : Int) (R : Bool) (hR : R = (gBs vs && gF n ⟨f0, f1, f2⟩)) :
    Calls Try.prog 25 #[.slice A n c, .agg #[.int .i64 f0, .int .i64 f1, .int .i64 f2]] w fun e w' => e = .returned (.bool R) ∧ Below w.heap.size w w' := by
  have CG := Lib.hid (fun W (hb : Below w.heap.size w W) => areBasins_any c (h.below hb h.low) hm)
  unfold maxLen at hm
  have C0 := Lib.hid (fun W => areIn_any (-1) ((n : Int) - 1) (some ⟨W.heap.size, 0, none⟩) 2 2 (W.heap.size + 1) [f0, f1] (W.alloc (.cells #[.int .i64 f0, .int .i64 f1] 3)) rfl (by omega) (has_two_new W _ _ _))
  have C2 := Lib.hid (fun W => inRange_any f2 1 100000 W)
  have hv := Lib.hid ((gF_iff n ⟨f0, f1, f2⟩).trans (show goodF n ⟨f0, f1, f2⟩ ↔ allIn (-1) ((n : Int) - 1) [f0, f1] ∧ f0 ≠ f1 ∧ (1 ≤ f2 ∧ f2 ≤ 100000) by unfold goodF allIn; simp [and_assoc]))
  generalize gBs vs = b0 at CG hR
  generalize gF n ⟨f0, f1, f2⟩ = b1 at hv hR
  have HRR := Lib.hid hR
  clear h hR
  go_enter Try.func25, Try.ntmps25
  go_wp2_with fail
  obtain ⟨W5, hW5⟩ : ∃ W, World.alloc w (.cells #[.int .i64 f0, .int .i64 f1, .int .i64 f2] 38) = W := ⟨_, rfl⟩
  obtain ⟨xb, hxb⟩ : ∃ x, (w : World).heap.size = x := ⟨_, rfl⟩
  have cxb0 : W5.cell? ⟨xb, 0, none⟩ = some (.int .i64 f0) := by rw [← hW5, ← hxb, sNew]; rfl
  have cxb1 : W5.cell? ⟨xb, 1, none⟩ = some (.int .i64 f1) := by rw [← hW5, ← hxb, sNew]; rfl
  have cxb2 : W5.cell? ⟨xb, 2, none⟩ = some (.int .i64 f2) := by rw [← hW5, ← hxb, sNew]; rfl
  have HB5 := Lib.hid (show Below w.heap.size w W5 by rw [← hW5]; exact (Below.refl w.heap.size w).alloc (Below.refl w.heap.size w).size _)
  have hxl := World.block_lt_of_cell? W5 _ cxb0
  have HX := Lib.hid (fun W (hq : Below W5.heap.size W5 W) => show W.cell? ⟨xb, 0, none⟩ = some (.int .i64 f0) ∧ W.cell? ⟨xb, 1, none⟩ = some (.int .i64 f1) ∧ W.cell? ⟨xb, 2, none⟩ = some (.int .i64 f2) from ⟨(hq.cell hxl).trans cxb0, (hq.cell (p := ⟨xb, 1, none⟩) hxl).trans cxb1, (hq.cell (p := ⟨xb, 2, none⟩) hxl).trans cxb2⟩)
  rw [hW5, hxb]
  clear hW5 hxb hxl cxb0 cxb1 cxb2
  refine (CG.out _ HB5.out).mono ?_
  rintro e w1 ⟨rfl, hb⟩
  obtain ⟨x0, x1, x2⟩ := HX.out _ hb
  have hxw := World.block_lt_of_cell? _ _ x0
  dsimp only at hxw
  have HB6 := Lib.hid (HB5.out.trans (hb.mono HB5.out.size))
  clear hb CG HX
  cases b0 with
  | false =>
    obtain rfl : R = false := by have := HRR.out; simpa using this
    clear HRR
    go_wp2_with fail
    go_ret
    exact ⟨rfl, HB6.out⟩
  | true =>
    obtain rfl : R = b1 := by have := HRR.out; simpa using this
    clear HRR
    by_cases g0 : allIn (-1) ((n : Int) - 1) [f0, f1]
    · rw [decide_eq_true g0] at C0
      by_cases g2 : f0 = f1
      · obtain rfl : R = false := by cases R with | false => rfl | true => exact absurd g2 (hv.out.1 rfl).2.1
        have hb : (f0 != f1) = false := by simp [g2]
        clear g0 hv g2
        go_wp2_with fail
        refine (C0.out _).mono ?_
        rintro e w2 ⟨rfl, rfl⟩
        have HB7 := Lib.hid (HB6.out.alloc HB6.out.size (.cells #[.int .i64 f0, .int .i64 f1] 3))
        go_wp2_with fail
        go_ret
        exact ⟨rfl, HB7.out⟩
      · have HE : Hid (R = decide (1 ≤ f2 ∧ f2 ≤ 100000)) := Lib.hid (by
          rw [Bool.eq_iff_iff, hv.out, decide_eq_true_eq]
          exact ⟨fun h => h.2.2, fun h => ⟨g0, g2, h⟩⟩)
        have hb : (f0 != f1) = true := by simp [g2]
        generalize decide (1 ≤ f2 ∧ f2 ≤ 100000) = z at C2 HE
        obtain rfl := HE.out
        clear g0 hv g2 HE
        go_wp2_with fail
        refine (C0.out _).mono ?_
        rintro e w2 ⟨rfl, rfl⟩
        have HB7 := Lib.hid (HB6.out.alloc HB6.out.size (.cells #[.int .i64 f0, .int .i64 f1] 3))
        go_wp2_with fail
        refine (C2.out _).mono ?_
        rintro e w2 ⟨rfl, rfl⟩
        go_wp2_with fail
        go_ret
        exact ⟨rfl, HB7.out⟩
    · obtain rfl : R = false := by cases R with | false => rfl | true => exact absurd (hv.out.1 rfl).1 g0
      rw [decide_eq_false g0] at C0
      clear g0 hv
      go_wp2_with fail
      refine (C0.out _).mono ?_
      rintro e w2 ⟨rfl, rfl⟩
      have HB7 := Lib.hid (HB6.out.alloc HB6.out.size (.cells #[.int .i64 f0, .int .i64 f1] 3))
      go_wp2_with fail
      go_ret
      exact ⟨rfl, HB7.out⟩

/-- Both answers in the model's order and in the program's. -/
theorem gT_and (vs : List TBasin) (fs : List TFlow) : gT vs fs = true ↔ goodBs vs ∧ fs.length ≤ 12 ∧ ∀ k, k < fs.length → goodF vs.length (fs.getD k noFlow) := gT_iff vs fs
set_option maxRecDepth 100000 in
set_option maxHeartbeats 2000000 in
theorem l10Flows_any {w : World} {B B2 : Nat} {A A2 : Option Addr} {n m : Nat} {vs : List TBasin} {fs : List TFlow} (c c2 : Nat) (h : IsBasins w B A n vs) (hm : n ≤ maxLen) (h2 : IsFlows w B2 A2 m fs) (hm2 : m ≤ maxLen) :
    Calls Try.prog 60 #[.slice A n c, .slice A2 m c2] w fun e w' => e = .returned (.bool (gT vs fs)) ∧ Below w.heap.size w w' := by
  have CG := Lib.hid (fun W (hb : Below w.heap.size w W) => l10Good_any c (h.below hb h.low) hm)
  have CF := Lib.hid (fun f0 f1 f2 W => l10Flow_any n f0 f1 f2 W hm)
  unfold maxLen at hm hm2
  have HI := Lib.hid h
  have HJ := Lib.hid h2
  have HY := Lib.hid (fun h => (gT_and vs fs).2 h)
  have HN := Lib.hid (fun h => gT_no (vs := vs) (fs := fs) h)
  have HGB := Lib.hid (gBs_iff vs)
  generalize gT vs fs = R at HY HN ⊢
  generalize gBs vs = b0 at CG HGB
  clear h h2
  go_enter Try.func60, Try.ntmps60
  go_wp2_with fail
  go_loopw [5] (fun i wr => ∃ k : Nat, k ≤ m ∧ i = .int .i64 k ∧ Hid (∀ j, j < k → goodF n (fs.getD j noFlow)) ∧ Below w.heap.size w wr) (fun i _ => m - (intOf i).toNat)
  case atStart => exact ⟨0, Nat.zero_le _, rfl, Lib.hid (by simp), Below.refl _ _⟩
  case round =>
    obtain ⟨k, hk, rfl, hall, hb⟩ := hrel
    by_cases hlt : k < m
    · skip
      obtain ⟨a2, ea2, -, HV⟩ := (HJ.out.below hb HJ.out.low).has.Flow (k := k) (by rw [HJ.out.len]; exact hlt)
      obtain rfl := ea2
      have HF : Hid (¬ goodF n (fs.getD k noFlow) → R = false) := Lib.hid (fun h => HN.out (fun g => h (by have := g.2.2 k (by rw [HJ.out.len]; exact hlt); rwa [HI.out.len] at this)))
      have HA : Hid (goodF n (fs.getD k noFlow) → ∀ j, j < k + 1 → goodF n (fs.getD j noFlow)) := Lib.hid (fun h j hj => by
        rcases Nat.lt_succ_iff_lt_or_eq.1 hj with h1 | h1
        · exact hall.out j h1
        · exact h1 ▸ h)
      obtain ⟨V, hV⟩ : ∃ V, fs.getD k noFlow = V := ⟨_, rfl⟩
      rw [hV] at HV HF HA
      clear hV
      obtain ⟨f0, f1, f2⟩ := V
      obtain ⟨e0, e1, e2⟩ := HV
      dsimp only at e0 e1 e2
      have HB := Lib.hid hb
      have hk0 : (0 : Int) ≤ (k : Int) := by omega
      have hk1 : (k : Int) < (m : Int) := by omega
      obtain ⟨G, hG⟩ : ∃ G, gF n ⟨f0, f1, f2⟩ = G := ⟨_, rfl⟩
      have HG : Hid (G = true ↔ goodF n ⟨f0, f1, f2⟩) := Lib.hid (by rw [← hG]; exact gF_iff _ _)
      have D0 := Lib.hid (CF.out f0 f1 f2)
      rw [hG] at D0
      clear hb hall hG CF CG
      go_wp2_with fail
      refine (D0.out _).mono ?_
      rintro e w6 ⟨rfl, hb6⟩
      have HB6 := Lib.hid (HB.out.trans (hb6.mono HB.out.size))
      clear hb6 D0
      cases G with
      | true =>
        have HR := Lib.hid (HA.out (HG.out.1 rfl))
        clear HF HA HG HY HN
        go_wp2_with fail
        go_roundw
        case rel => exact ⟨k + 1, by omega, by go_num, HR, HB6.out⟩
        case measure => simp [intOf]; omega
      | false =>
        obtain rfl : R = false := HF.out (fun h => by have := HG.out.2 h; cases this)
        clear HF HA HG HY HN HI HJ
        go_wp2_with fail
        go_ret
        exact ⟨rfl, HB6.out⟩
    · obtain rfl : k = m := by omega
      have D0 := Lib.hid (CG.out _ hb)
      have HB := Lib.hid hb
      clear hb CG CF
      go_wp2_with fail
      refine D0.out.mono ?_
      rintro e w6 ⟨rfl, hb6⟩
      have HB6 := Lib.hid (HB.out.trans (hb6.mono HB.out.size))
      clear hb6 D0
      cases b0 with
      | false =>
        obtain rfl : R = false := HN.out (fun g => by have := HGB.out.2 g.1; cases this)
        clear HY HN HI HJ HGB hall
        go_wp2_with fail
        go_ret
        exact ⟨rfl, HB6.out⟩
      | true =>
        by_cases g6 : (k : Int) ≤ 12
        · obtain rfl : R = true := HY.out ⟨HGB.out.1 rfl, by rw [HJ.out.len]; omega, fun j hj => by rw [HI.out.len]; rw [HJ.out.len] at hj; exact hall.out j hj⟩
          clear HY HN HI HJ HGB hall
          go_wp2_with fail
          go_ret
          exact ⟨ret_bool (by simp [g6]), HB6.out⟩
        · obtain rfl : R = false := HN.out (fun g => by have := g.2.1; rw [HJ.out.len] at this; omega)
          clear HY HN HI HJ HGB hall
          go_wp2_with fail
          go_ret
          exact ⟨ret_bool (by simp [g6]), HB6.out⟩
set_option maxRecDepth 100000 in
set_option maxHeartbeats 2000000 in
theorem canTry_any {w : World} {B B2 : Nat} {A A2 : Option Addr} {n m : Nat} {vs : List TBasin} {fs : List TFlow} (c c2 : Nat) (h : IsBasins w B A n vs) (hm : n ≤ maxLen) (h2 : IsFlows w B2 A2 m fs) (hm2 : m ≤ maxLen) :
    Calls Try.prog 58 #[.slice A n c, .slice A2 m c2] w fun e w' => e = .returned (.bool (gT vs fs)) ∧ Below w.heap.size w w' := by
  have CG := Lib.hid (areBasins_any c h hm)
  have CF := Lib.hid (fun W (hb : Below w.heap.size w W) f0 f1 f2 R hR => isFlowI_any c (h.below hb h.low) hm f0 f1 f2 R hR)
  unfold maxLen at hm hm2
  have HI := Lib.hid h
  have HJ := Lib.hid h2
  have HY := Lib.hid (fun h => (gT_and vs fs).2 h)
  have HN := Lib.hid (fun h => gT_no (vs := vs) (fs := fs) h)
  have HGB := Lib.hid (gBs_iff vs)
  generalize gT vs fs = R at HY HN ⊢
  generalize gBs vs = b0 at CG HGB CF
  clear h h2
  go_enter Try.func58, Try.ntmps58
  go_wp2_with fail
  refine CG.out.mono ?_
  rintro e w1 ⟨rfl, hb⟩
  have HB1 := Lib.hid hb
  clear hb CG
  cases b0 with
  | false =>
    obtain rfl : R = false := HN.out (fun g => by have := HGB.out.2 g.1; cases this)
    clear HY HN HI HJ HGB CF
    go_wp2_with fail
    go_ret
    exact ⟨rfl, HB1.out⟩
  | true =>
    have HGT := Lib.hid (HGB.out.1 rfl)
    clear HGB
    by_cases g6 : (12 : Int) < (m : Int)
    · obtain rfl : R = false := HN.out (fun g => by have := g.2.1; rw [HJ.out.len] at this; omega)
      clear HY HN HI HJ HGT CF
      go_wp2_with fail
      go_ret
      exact ⟨rfl, HB1.out⟩
    · go_wp2_with fail
      go_loopw [17] (fun i wr => ∃ k : Nat, k ≤ m ∧ i = .int .i64 k ∧ Hid (∀ j, j < k → goodF n (fs.getD j noFlow)) ∧ Below w.heap.size w wr) (fun i _ => m - (intOf i).toNat)
      case atStart => exact ⟨0, Nat.zero_le _, rfl, Lib.hid (by simp), HB1.out⟩
      case round =>
        obtain ⟨k, hk, rfl, hall, hb⟩ := hrel
        by_cases hlt : k < m
        · skip
          obtain ⟨a2, ea2, -, HV⟩ := (HJ.out.below hb HJ.out.low).has.Flow (k := k) (by rw [HJ.out.len]; exact hlt)
          obtain rfl := ea2
          have HF : Hid (¬ goodF n (fs.getD k noFlow) → R = false) := Lib.hid (fun h => HN.out (fun g => h (by have := g.2.2 k (by rw [HJ.out.len]; exact hlt); rwa [HI.out.len] at this)))
          have HA : Hid (goodF n (fs.getD k noFlow) → ∀ j, j < k + 1 → goodF n (fs.getD j noFlow)) := Lib.hid (fun h j hj => by
            rcases Nat.lt_succ_iff_lt_or_eq.1 hj with h1 | h1
            · exact hall.out j h1
            · exact h1 ▸ h)
          obtain ⟨V, hV⟩ : ∃ V, fs.getD k noFlow = V := ⟨_, rfl⟩
          rw [hV] at HV HF HA
          clear hV
          obtain ⟨f0, f1, f2⟩ := V
          obtain ⟨e0, e1, e2⟩ := HV
          dsimp only at e0 e1 e2
          have HB := Lib.hid hb
          have hk0 : (0 : Int) ≤ (k : Int) := by omega
          have hk1 : (k : Int) < (m : Int) := by omega
          obtain ⟨G, hG⟩ : ∃ G, gF n ⟨f0, f1, f2⟩ = G := ⟨_, rfl⟩
          have HG : Hid (G = true ↔ goodF n ⟨f0, f1, f2⟩) := Lib.hid (by rw [← hG]; exact gF_iff _ _)
          have HB5 := Lib.hid (HB.out.alloc HB.out.size (.cells #[.int .i64 f0, .int .i64 f1, .int .i64 f2] 38))
          have D0 := Lib.hid (CF.out _ HB5.out f0 f1 f2 G (by rw [hG]; rfl))
          clear hb hall hG CF
          go_wp2_with fail
          refine D0.out.mono ?_
          rintro e w6 ⟨rfl, hb6⟩
          have HB6 := Lib.hid (HB5.out.trans (hb6.mono HB5.out.size))
          clear hb6 D0 HB5
          cases G with
          | true =>
            have HR := Lib.hid (HA.out (HG.out.1 rfl))
            clear HF HA HG HY HN
            go_wp2_with fail
            go_roundw
            case rel => exact ⟨k + 1, by omega, by go_num, HR, HB6.out⟩
            case measure => simp [intOf]; omega
          | false =>
            obtain rfl : R = false := HF.out (fun h => by have := HG.out.2 h; cases this)
            clear HF HA HG HY HN HI HJ
            go_wp2_with fail
            go_ret
            exact ⟨rfl, HB6.out⟩
        · obtain rfl : k = m := by omega
          obtain rfl : R = true := HY.out ⟨HGT.out, by rw [HJ.out.len]; omega, fun j hj => by rw [HI.out.len]; rw [HJ.out.len] at hj; exact hall.out j hj⟩
          clear HY HN HI HJ HGT hall CF
          go_wp2
          go_ret
          exact ⟨rfl, hb⟩
end Go.Proofs.Ytliebicnejbheaa
