/- Chapter 11: levels and the volume that flows: the model and the program. -/
import Derived.Test.YtgnopkemcgbedaaPoA
import Derived.Test.YtgnopkemcgbedaaGcd
namespace Go.Proofs.Ytgnopkemcgbedaa
open Go.RowKit Go.PlainAid Go.Sort
set_option linter.unusedVariables false
set_option linter.unusedSimpArgs false

set_option maxHeartbeats 800000 in
theorem ltaI_any (a f v : Int) (w : World) (hg : goodP ⟨a, f, v⟩) :
    Calls Try.prog 62 #[.agg #[.int .i64 a, .int .i64 f, .int .i64 v]] w fun e w' => e = .returned (.int .i64 (hgt ⟨a, f, v⟩)) ∧ Below w.heap.size w w' := by
  obtain ⟨h1, h2, h3, h4⟩ := hgt_bd hg
  obtain ⟨⟨g1, g2⟩, ⟨g3, g4⟩, g5, g6⟩ := hg
  have HE : Hid (hgt ⟨a, f, v⟩ = f * a + v) := Lib.hid rfl
  dsimp only at h3 h4 g1 g2 g3 g4 g5 g6
  generalize hgt ⟨a, f, v⟩ = z at HE h1 h2 ⊢
  go_enter Try.func62, Try.ntmps62
  go_wp2
  go_ret
  exact ⟨by rw [HE.out]; rfl, below1 _ _⟩
set_option maxHeartbeats 800000 in
theorem ltaS_any (a f v : Int) (w : World) (hg : goodP ⟨a, f, v⟩) :
    Calls Try.prog 69 #[.agg #[.int .i64 a, .int .i64 f, .int .i64 v]] w fun e w' => e = .returned (.int .i64 (hgt ⟨a, f, v⟩)) ∧ Below w.heap.size w w' := by
  obtain ⟨h1, h2, h3, h4⟩ := hgt_bd hg
  obtain ⟨⟨g1, g2⟩, ⟨g3, g4⟩, g5, g6⟩ := hg
  have HE : Hid (hgt ⟨a, f, v⟩ = f * a + v) := Lib.hid rfl
  dsimp only at h3 h4 g1 g2 g3 g4 g5 g6
  generalize hgt ⟨a, f, v⟩ = z at HE h1 h2 ⊢
  go_enter Try.func69, Try.ntmps69
  go_wp2
  go_ret
  exact ⟨by rw [HE.out]; rfl, below1 _ _⟩

set_option maxHeartbeats 1000000 in
theorem reduce_any (a b : Nat) (ha : (a : Int) ≤ 1000000000000000) (hb : (b : Int) ≤ 1000000000000000) (hb0 : 1 ≤ b) (w : World) :
    Calls Try.prog 68 #[.int .i64 a, .int .i64 b] w fun e w' => e = .returned (.tuple #[.int .i64 ((a / Nat.gcd a b : Nat) : Int), .int .i64 ((b / Nat.gcd a b : Nat) : Int)]) ∧ Drawn w w' := by
  obtain ⟨d, hd⟩ : ∃ d, Nat.gcd a b = d := ⟨_, rfl⟩
  have hg : 0 < d := by rw [← hd]; exact Nat.gcd_pos_of_pos_right _ (by omega)
  rw [hd]
  have HD := Lib.hid hd
  clear hd
  go_enter Try.func68, Try.ntmps68
  go_wp2_with fail
  go_loop [6, 7] (fun p q => ∃ x y : Nat, p = .int .i64 x ∧ q = .int .i64 y ∧ (x : Int) ≤ 1000000000000000 ∧ (y : Int) ≤ 1000000000000000 ∧ Hid (Nat.gcd x y = d)) (fun _ q => (intOf q).toNat)
  case atStart => exact ⟨a, b, rfl, rfl, ha, hb, HD⟩
  case round =>
    obtain ⟨x, y, rfl, rfl, hx, hy, hg2⟩ := hrel
    have hx0 : (0 : Int) ≤ (x : Int) := by omega
    have hy0 : (0 : Int) ≤ (y : Int) := by omega
    by_cases h0 : y = 0
    · subst h0
      have hxd : x = d := by have := hg2.out; simpa using this
      subst hxd
      clear hg2 HD
      have g0 : (0 : Int) < (x : Int) := by omega
      have g1 : (x : Int) ≠ 0 := by omega
      have a0 : (0 : Int) ≤ (a : Int) := by omega
      have b0 : (0 : Int) ≤ (b : Int) := by omega
      have q1 : (0 : Int) ≤ (a : Int) / (x : Int) ∧ (a : Int) / (x : Int) ≤ 1000000000000000 := by
        have h : ((a / x : Nat) : Int) ≤ (a : Int) := Int.ofNat_le.2 (Nat.div_le_self a x)
        have h0 : (0 : Int) ≤ ((a / x : Nat) : Int) := Int.natCast_nonneg _
        rw [Int.natCast_ediv] at h h0
        omega
      have q2 : (0 : Int) ≤ (b : Int) / (x : Int) ∧ (b : Int) / (x : Int) ≤ 1000000000000000 := by
        have h : ((b / x : Nat) : Int) ≤ (b : Int) := Int.ofNat_le.2 (Nat.div_le_self b x)
        have h0 : (0 : Int) ≤ ((b / x : Nat) : Int) := Int.natCast_nonneg _
        rw [Int.natCast_ediv] at h h0
        omega
      obtain ⟨q11, q12⟩ := q1
      obtain ⟨q21, q22⟩ := q2
      go_wp2_with fail
      go_quiet (fail)
      go_wp2_with fail
      refine bodyPost_ret (results_tmp2 rfl _ _ _) rfl ?_
      exact ⟨by rw [Int.natCast_ediv, Int.natCast_ediv]; rfl, Drawn.one _ _⟩
    · have HG : Hid (Nat.gcd y (x % y) = d) := Lib.hid (by rw [gcd_turn]; exact hg2.out)
      have hlt : x % y < y := Nat.mod_lt _ (by omega)
      have hne : ((y : Int) != 0) = true := by simp; omega
      have hy1 : (0 : Int) < (y : Int) := by omega
      have hyn : (y : Int) ≠ 0 := by omega
      clear hg2 HD
      go_wp2_with fail
      exact ⟨⟨y, x % y, rfl, by rw [Int.natCast_emod], hy, by omega, HG⟩, by simp [intOf]; omega⟩
/-- A fraction of two numbers that are told as integers. -/
theorem red_cast {P : Program} {f : FuncId} {a b p q : Int} {w : World} (hp : p = redN a b) (hq : q = redD a b) (ha : 0 ≤ a ∧ a ≤ 1000000) (hb : 1 ≤ b ∧ b ≤ 1000000)
    (h : ∀ (x y : Nat), (x : Int) ≤ 1000000000000000 → (y : Int) ≤ 1000000000000000 → 1 ≤ y → Calls P f #[.int .i64 x, .int .i64 y] w fun e w' => e = .returned (.tuple #[.int .i64 ((x / Nat.gcd x y : Nat) : Int), .int .i64 ((y / Nat.gcd x y : Nat) : Int)]) ∧ Drawn w w') :
    Calls P f #[.int .i64 a, .int .i64 b] w fun e w' => e = .returned (.tuple #[.int .i64 p, .int .i64 q]) ∧ Below w.heap.size w w' := by
  subst hp hq
  obtain ⟨x, rfl⟩ : ∃ x : Nat, a = (x : Int) := ⟨a.toNat, by omega⟩
  obtain ⟨y, rfl⟩ : ∃ y : Nat, b = (y : Int) := ⟨b.toNat, by omega⟩
  refine (h x y (by omega) (by omega) (by omega)).mono ?_
  rintro e w' ⟨rfl, hD⟩
  unfold redN redD
  rw [Int.toNat_natCast, Int.toNat_natCast]
  exact ⟨rfl, hD.below _⟩

set_option maxRecDepth 100000 in
set_option maxHeartbeats 2000000 in
theorem levelI_any (a f v : Int) (w : World) (p q : Int) (x : Bool) (hA : LvlA ⟨a, f, v⟩ p q x) :
    Calls Try.prog 27 #[.agg #[.int .i64 a, .int .i64 f, .int .i64 v]] w fun e w' => e = .returned (.tuple #[.int .i64 p, .int .i64 q, .bool x]) ∧ Below w.heap.size w w' := by
  have C0 := Lib.hid (fun W => isPool_any a f v W)
  have HNO := Lib.hid hA.2
  have HYES := Lib.hid hA.1
  obtain ⟨W5, hW5⟩ : ∃ W, World.alloc w (.cells #[.int .i64 a, .int .i64 f, .int .i64 v] 35) = W := ⟨_, rfl⟩
  obtain ⟨xb, hxb⟩ : ∃ x, (w : World).heap.size = x := ⟨_, rfl⟩
  have cxb0 : W5.cell? ⟨xb, 0, none⟩ = some (.int .i64 a) := by rw [← hW5, ← hxb, sNew]; rfl
  have cxb1 : W5.cell? ⟨xb, 1, none⟩ = some (.int .i64 f) := by rw [← hW5, ← hxb, sNew]; rfl
  have cxb2 : W5.cell? ⟨xb, 2, none⟩ = some (.int .i64 v) := by rw [← hW5, ← hxb, sNew]; rfl
  have HB5 := Lib.hid (show Below w.heap.size w W5 by rw [← hW5]; exact below1 _ _)
  obtain ⟨G, hG⟩ : ∃ G, decide (goodP ⟨a, f, v⟩) = G := ⟨_, rfl⟩
  rw [hG] at C0
  have HGE := Lib.hid hG
  clear hA hG
  go_enter Try.func27, Try.ntmps27
  go_wp2_with fail
  (try rw [hW5])
  (try rw [hxb])
  clear hW5 hxb
  refine (C0.out _).mono ?_
  rintro e w1 ⟨rfl, hb⟩
  have hxl := World.block_lt_of_cell? W5 _ cxb0
  have c0 := (hb.cell hxl).trans cxb0
  have c1 := (hb.cell (p := ⟨xb, 1, none⟩) hxl).trans cxb1
  have c2 := (hb.cell (p := ⟨xb, 2, none⟩) hxl).trans cxb2
  have HB6 := Lib.hid (HB5.out.trans (hb.mono HB5.out.size))
  clear hb C0 cxb0 cxb1 cxb2 hxl HB5
  cases G with
  | false =>
    obtain ⟨rfl, rfl, rfl⟩ := HNO.out (of_decide_eq_false HGE.out)
    clear HNO HYES HGE
    go_wp2_with fail
    refine bodyPost_ret (results_tmp3 rfl _ _ _) rfl ?_
    exact ⟨rfl, HB6.out⟩
  | true =>
    have hg := of_decide_eq_true HGE.out
    obtain ⟨hp, hq, rfl⟩ := HYES.out hg
    have hh := hgt_bd hg
    have k1 := fun (d : Nat) (os : Array Obj) => Calls.regrown_of (w := w1) (d := d) (os := os) (ltaI_any a f v _ hg)
    have k2 := fun (d : Nat) (os : Array Obj) => Calls.regrown_of (w := w1) (d := d) (os := os) (red_cast hp hq (w := grow (redrawn w1 d) os) (a := hgt ⟨a, f, v⟩) (b := a) ⟨hh.1, by omega⟩ ⟨hg.1.1, by have := hg.1.2; dsimp only at this; omega⟩ (fun x y h1 h2 h3 => lowest_any x y h1 h2 h3 _))
    clear hp hq
    generalize hgt ⟨a, f, v⟩ = z at k1 k2
    have E0 := fun (d : Nat) (os : Array Obj) => cell_regrown c0 d os
    have E1 := fun (d : Nat) (os : Array Obj) => cell_regrown c1 d os
    have E2 := fun (d : Nat) (os : Array Obj) => cell_regrown c2 d os
    clear c0 c1 c2 HNO HYES HGE hg hh
    go_wp2_with fail
    refine wp_region_quiet_below (by kernel_rfl) (by kernel_rfl) ?_
    repeat (go_big_quiet_step (first | exact k1 _ _ | exact k2 _ _))
    refine wpQuiet_nil ?_
    intro _ hw'
    obtain ⟨⟨dq, osq⟩, hw''⟩ := hw'
    subst hw''
    have HB7 := Lib.hid (HB6.out.trans ((below_regrown w1 dq osq).mono HB6.out.size))
    clear E0 E1 E2 k1 k2
    go_wp2_with fail
    refine bodyPost_ret (results_tmp3 rfl _ _ _) rfl ?_
    exact ⟨rfl, HB7.out⟩
set_option maxRecDepth 100000 in
set_option maxHeartbeats 2000000 in
theorem levelS_any (a f v : Int) (w : World) (p q : Int) (x : Bool) (hA : LvlA ⟨a, f, v⟩ p q x) :
    Calls Try.prog 28 #[.agg #[.int .i64 a, .int .i64 f, .int .i64 v]] w fun e w' => e = .returned (.tuple #[.int .i64 p, .int .i64 q, .bool x]) ∧ Below w.heap.size w w' := by
  have C0 := Lib.hid (fun W => l11Good_any a f v W)
  have HNO := Lib.hid hA.2
  have HYES := Lib.hid hA.1
  obtain ⟨W5, hW5⟩ : ∃ W, World.alloc w (.cells #[.int .i64 a, .int .i64 f, .int .i64 v] 35) = W := ⟨_, rfl⟩
  obtain ⟨xb, hxb⟩ : ∃ x, (w : World).heap.size = x := ⟨_, rfl⟩
  have cxb0 : W5.cell? ⟨xb, 0, none⟩ = some (.int .i64 a) := by rw [← hW5, ← hxb, sNew]; rfl
  have cxb1 : W5.cell? ⟨xb, 1, none⟩ = some (.int .i64 f) := by rw [← hW5, ← hxb, sNew]; rfl
  have cxb2 : W5.cell? ⟨xb, 2, none⟩ = some (.int .i64 v) := by rw [← hW5, ← hxb, sNew]; rfl
  have HB5 := Lib.hid (show Below w.heap.size w W5 by rw [← hW5]; exact below1 _ _)
  obtain ⟨G, hG⟩ : ∃ G, decide (goodP ⟨a, f, v⟩) = G := ⟨_, rfl⟩
  rw [hG] at C0
  have HGE := Lib.hid hG
  clear hA hG
  go_enter Try.func28, Try.ntmps28
  go_wp2_with fail
  (try rw [hW5])
  (try rw [hxb])
  clear hW5 hxb
  refine (C0.out _).mono ?_
  rintro e w1 ⟨rfl, hb⟩
  have hxl := World.block_lt_of_cell? W5 _ cxb0
  have c0 := (hb.cell hxl).trans cxb0
  have c1 := (hb.cell (p := ⟨xb, 1, none⟩) hxl).trans cxb1
  have c2 := (hb.cell (p := ⟨xb, 2, none⟩) hxl).trans cxb2
  have HB6 := Lib.hid (HB5.out.trans (hb.mono HB5.out.size))
  clear hb C0 cxb0 cxb1 cxb2 hxl HB5
  cases G with
  | false =>
    obtain ⟨rfl, rfl, rfl⟩ := HNO.out (of_decide_eq_false HGE.out)
    clear HNO HYES HGE
    go_wp2_with fail
    refine bodyPost_ret (results_tmp3 rfl _ _ _) rfl ?_
    exact ⟨rfl, HB6.out⟩
  | true =>
    have hg := of_decide_eq_true HGE.out
    obtain ⟨hp, hq, rfl⟩ := HYES.out hg
    have hh := hgt_bd hg
    have k1 := fun (d : Nat) (os : Array Obj) => Calls.regrown_of (w := w1) (d := d) (os := os) (ltaS_any a f v _ hg)
    have k2 := fun (d : Nat) (os : Array Obj) => Calls.regrown_of (w := w1) (d := d) (os := os) (red_cast hp hq (w := grow (redrawn w1 d) os) (a := hgt ⟨a, f, v⟩) (b := a) ⟨hh.1, by omega⟩ ⟨hg.1.1, by have := hg.1.2; dsimp only at this; omega⟩ (fun x y h1 h2 h3 => reduce_any x y h1 h2 h3 _))
    clear hp hq
    generalize hgt ⟨a, f, v⟩ = z at k1 k2
    have E0 := fun (d : Nat) (os : Array Obj) => cell_regrown c0 d os
    have E1 := fun (d : Nat) (os : Array Obj) => cell_regrown c1 d os
    have E2 := fun (d : Nat) (os : Array Obj) => cell_regrown c2 d os
    clear c0 c1 c2 HNO HYES HGE hg hh
    go_wp2_with fail
    refine wp_region_quiet_below (by kernel_rfl) (by kernel_rfl) ?_
    repeat (go_big_quiet_step (first | exact k1 _ _ | exact k2 _ _))
    refine wpQuiet_nil ?_
    intro _ hw'
    obtain ⟨⟨dq, osq⟩, hw''⟩ := hw'
    subst hw''
    have HB7 := Lib.hid (HB6.out.trans ((below_regrown w1 dq osq).mono HB6.out.size))
    clear E0 E1 E2 k1 k2
    go_wp2_with fail
    refine bodyPost_ret (results_tmp3 rfl _ _ _) rfl ?_
    exact ⟨rfl, HB7.out⟩

end Go.Proofs.Ytgnopkemcgbedaa
