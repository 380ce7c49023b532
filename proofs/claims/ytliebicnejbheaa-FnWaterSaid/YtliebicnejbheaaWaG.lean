/- Chapter 10: the Basin that is farthest, the next unit that is moved, a Flow in a block. -/
import Derived.Test.YtliebicnejbheaaWaE
namespace Go.Proofs.Ytliebicnejbheaa
open Go.RowKit Go.PlainAid Go.Sort
set_option linter.unusedVariables false
set_option linter.unusedSimpArgs false

def BoxF (W : World) (g : Nat) (a b c : Int) : Prop := W.heap[g]? = some (.cells #[.int .i64 a, .int .i64 b, .int .i64 c] 38 (0, 0))
section
variable {W : World} {g : Nat} {a b c : Int}
theorem BoxF.c0 (h : BoxF W g a b c) : W.cell? ⟨g, 0, none⟩ = some (.int .i64 a) := cell_of_row W g 0 _ _ _ h
theorem BoxF.c1 (h : BoxF W g a b c) : W.cell? ⟨g, 1, none⟩ = some (.int .i64 b) := cell_of_row W g 1 _ _ _ h
theorem BoxF.c2 (h : BoxF W g a b c) : W.cell? ⟨g, 2, none⟩ = some (.int .i64 c) := cell_of_row W g 2 _ _ _ h
theorem BoxF.fz (h : BoxF W g a b c) (k : Nat) : W.frozen? ⟨g, k, none⟩ = false := frozen_of_row W g k _ _ h
theorem BoxF.lt (h : BoxF W g a b c) : g < W.heap.size := (Array.getElem?_eq_some_iff.1 h).1
theorem BoxF.below {w' : World} {B : Nat} (h : BoxF W g a b c) (hb : Below B W w') (hg : g < B) : BoxF w' g a b c := (hb.block g hg).trans h
theorem BoxF.all {w' : World} (h : BoxF W g a b c) (hb : Below W.heap.size W w') : BoxF w' g a b c := h.below hb h.lt
theorem BoxF.kept {w' : World} {row : Option Nat} (h : BoxF W g a b c) (hg : W.grownBy w' row) (hne : some g ≠ row) : BoxF w' g a b c := (hg.block g h.lt hne).trans h
theorem BoxF.new (W : World) (a b c : Int) : BoxF (W.alloc (.cells #[.int .i64 a, .int .i64 b, .int .i64 c] 38)) W.heap.size a b c := heap_alloc_new W _
theorem BoxF.rangeAt (h : BoxF W g a b c) : W.rangeAt g 0 [.int .i64 a, .int .i64 b, .int .i64 c] := by
  intro j x hj
  match j, hj with
  | 0, hj => injection hj with hj; rw [← hj]; exact h.c0
  | 1, hj => injection hj with hj; rw [← hj]; exact h.c1
  | 2, hj => injection hj with hj; rw [← hj]; exact h.c2
abbrev sets3 (W : World) (g : Nat) (a b c : Int) : World := ((W.setCell ⟨g, 0, none⟩ (.int .i64 a)).setCell ⟨g, 1, none⟩ (.int .i64 b)).setCell ⟨g, 2, none⟩ (.int .i64 c)
theorem BoxF.sets (h : BoxF W g a b c) (a' b' c' : Int) : BoxF (sets3 W g a' b' c') g a' b' c' := by
  unfold BoxF at *
  simp [sets3, World.setCell, Array.getElem?_modify, h]
theorem sets3_below {w W : World} {B : Nat} (h : Below B w W) {g : Nat} (hg : B ≤ g) (a b c : Int) : Below B w (sets3 W g a b c) :=
  ((h.setCell (p := ⟨g, 0, none⟩) hg _).setCell (p := ⟨g, 1, none⟩) hg _).setCell (p := ⟨g, 2, none⟩) hg _
end
theorem results_row0 {P : Program} {fn : Func} {p : Tmp} {ty : TypeId} (h : fn.results = #[.cell p ty]) (tmps : Array Value) (w : World) (g : Nat) (cs : List Value) (d : TypeDesc)
    (hp : tmps.getD p undef = .pointer (some ⟨g, 0, none⟩)) (hc : w.rangeAt g 0 cs) (hu : P.underlying ty = some d) (hd : d.isRow = true) (hi : (P.info? ty).map (·.size) = some cs.length) :
    (results fn tmps).run P w = .ok (.agg cs.toArray) w := by
  have hp' : tmps[p]?.getD undef = .pointer (some ⟨g, 0, none⟩) := by simpa using hp
  simp [results, h, hp', asAddr, run_loadVar_mid w g 0 ty cs d hc hu hd hi]

set_option maxRecDepth 100000 in
set_option maxHeartbeats 2000000 in
theorem farU_any {w : World} {B : Nat} {A : Option Addr} {n : Nat} {vs : List TBasin} (c : Nat) (h : IsBasins w B A n vs) (hm : n ≤ 6) (hg : ∀ k, k < n → goodB (vs.getD k noBasin)) :
    Calls Try.prog 85 #[.slice A n c, .func (.func 70) #[] #[]] w fun e w' => e = .returned (.int .i64 (farK upB vs n : Nat)) ∧ Below w.heap.size w w' := by
  have CI := Lib.hid (fun d l b W h1 h2 h3 => aboveLeast_any d l b W h1 h2 h3)
  have HI := Lib.hid h
  have HG := Lib.hid hg
  clear h hg
  go_enter Try.func85, Try.ntmps85
  go_wp2_with fail
  go_loopw [5, 10] (fun f i wr => ∃ k : Nat, k ≤ n ∧ i = .int .i64 k ∧ f = .int .i64 (farK upB vs k : Nat) ∧ Below w.heap.size w wr) (fun _ i _ => n - (intOf i).toNat)
  case atStart => exact ⟨0, Nat.zero_le _, rfl, rfl, Below.refl _ _⟩
  case round =>
    obtain ⟨k, hk, rfl, rfl, hb⟩ := hrel
    by_cases hlt : k < n
    · skip
      obtain ⟨a1, rfl, hab, HV⟩ := (HI.out.below hb HI.out.low).has.Basin (k := k) (by rw [HI.out.len]; exact hlt)
      have hj : farK upB vs k < n := by have := farK_le upB vs k; omega
      obtain ⟨a2, ea2, -, HU⟩ := (HI.out.below hb HI.out.low).has.Basin (k := farK upB vs k) (by rw [HI.out.len]; exact hj)
      injection ea2 with ea2
      subst ea2
      have HST : Hid (farK upB vs (k + 1) = if upB (vs.getD (farK upB vs k) noBasin) < upB (vs.getD k noBasin) then k else farK upB vs k) := Lib.hid rfl
      obtain ⟨⟨g1, g2⟩, g3, g4⟩ := HG.out k hlt
      obtain ⟨⟨q1, q2⟩, q3, q4⟩ := HG.out _ hj
      obtain ⟨j, hj0⟩ : ∃ j, farK upB vs k = j := ⟨_, rfl⟩
      rw [hj0] at HU HST hj q1 q2 q3 q4 ⊢
      clear hj0
      obtain ⟨V, hV⟩ : ∃ V, vs.getD k noBasin = V := ⟨_, rfl⟩
      obtain ⟨U, hU⟩ : ∃ V, vs.getD j noBasin = V := ⟨_, rfl⟩
      rw [hV] at HV HST g1 g2 g3 g4
      rw [hU] at HU HST q1 q2 q3 q4
      clear hV hU
      obtain ⟨d, l, b⟩ := V
      obtain ⟨d2, l2, b2⟩ := U
      obtain ⟨e0, e1, e2⟩ := HV
      obtain ⟨u0, u1, u2⟩ := HU
      dsimp only at e0 e1 e2 u0 u1 u2 g1 g2 g3 g4 q1 q2 q3 q4
      have HB := Lib.hid hb
      have hk0 : (0 : Int) ≤ (k : Int) := by omega
      have hk1 : (k : Int) < (n : Int) := by omega
      have hj0 : (0 : Int) ≤ (j : Int) := by omega
      have hj1 : (j : Int) < (n : Int) := by omega
      have HC1 : Hid ((d2 - l2) < (d - l) → farK upB vs (k + 1) = k) := Lib.hid (fun h => by rw [HST.out]; exact if_pos h)
      have HC2 : Hid (¬ (d2 - l2) < (d - l) → farK upB vs (k + 1) = j) := Lib.hid (fun h => by rw [HST.out]; exact if_neg h)
      clear hb HST
      go_wp2_with fail
      obtain ⟨W5, hW5⟩ : ∃ W, World.alloc wr (.cells #[.int .i64 d, .int .i64 l, .int .i64 b] 53) = W := ⟨_, rfl⟩
      obtain ⟨xb, hxb⟩ : ∃ x, (wr : World).heap.size = x := ⟨_, rfl⟩
      have cxb0 : W5.cell? ⟨xb, 0, none⟩ = some (.int .i64 d) := by rw [← hW5, ← hxb, sNew]; rfl
      have cxb1 : W5.cell? ⟨xb, 1, none⟩ = some (.int .i64 l) := by rw [← hW5, ← hxb, sNew]; rfl
      have cxb2 : W5.cell? ⟨xb, 2, none⟩ = some (.int .i64 b) := by rw [← hW5, ← hxb, sNew]; rfl
      have HB5 := Lib.hid (show Below w.heap.size w W5 by rw [← hW5]; exact HB.out.alloc HB.out.size _)
      have hwl : Below wr.heap.size wr W5 := by rw [← hW5]; exact below1 _ _
      replace u0 := (hwl.cell (World.block_lt_of_cell? _ _ u0)).trans u0
      replace u1 := (hwl.cell (World.block_lt_of_cell? _ _ u1)).trans u1
      replace u2 := (hwl.cell (World.block_lt_of_cell? _ _ u2)).trans u2
      rw [hW5, hxb]
      clear hW5 hxb hwl e0 e1 e2
      have E0 := fun (d : Nat) (os : Array Obj) => cell_regrown cxb0 d os
      have E1 := fun (d : Nat) (os : Array Obj) => cell_regrown cxb1 d os
      have E2 := fun (d : Nat) (os : Array Obj) => cell_regrown cxb2 d os
      have U0 := fun (d : Nat) (os : Array Obj) => cell_regrown u0 d os
      have U1 := fun (d : Nat) (os : Array Obj) => cell_regrown u1 d os
      have U2 := fun (d : Nat) (os : Array Obj) => cell_regrown u2 d os
      have c1 := fun (dr : Nat) (os : Array Obj) => Calls.regrown_of (w := W5) (d := dr) (os := os) (CI.out d l b _ (by omega) (by omega) (by omega))
      have c2 := fun (dr : Nat) (os : Array Obj) => Calls.regrown_of (w := W5) (d := dr) (os := os) (CI.out d2 l2 b2 _ (by omega) (by omega) (by omega))
      clear cxb0 cxb1 cxb2 u0 u1 u2 CI HB
      refine wp_region_quiet_below (by kernel_rfl) (by kernel_rfl) ?_
      repeat (go_big_quiet_step (first | exact c1 _ _ | exact c2 _ _))
      refine wpQuiet_nil ?_
      intro _ hw'
      obtain ⟨⟨dq, osq⟩, hw''⟩ := hw'
      subst hw''
      have HB6 := Lib.hid (HB5.out.trans ((below_regrown W5 dq osq).mono HB5.out.size))
      clear E0 E1 E2 U0 U1 U2 c1 c2
      by_cases hc : (d2 - l2) < (d - l)
      · have HE := Lib.hid (HC1.out (by omega))
        go_wp2_with fail
        go_roundw
        case rel => exact ⟨k + 1, by omega, by go_num, by rw [HE.out], HB6.out⟩
        case measure => simp [intOf]; omega
      · have HE := Lib.hid (HC2.out (by omega))
        go_wp2_with fail
        go_roundw
        case rel => exact ⟨k + 1, by omega, by go_num, by rw [HE.out], HB6.out⟩
        case measure => simp [intOf]; omega
    · obtain rfl : k = n := by omega
      clear CI HG
      go_wp2_with fail
      go_ret
      exact ⟨rfl, hb⟩
set_option maxRecDepth 100000 in
set_option maxHeartbeats 2000000 in
theorem farD_any {w : World} {B : Nat} {A : Option Addr} {n : Nat} {vs : List TBasin} (c : Nat) (h : IsBasins w B A n vs) (hm : n ≤ 6) (hg : ∀ k, k < n → goodB (vs.getD k noBasin)) :
    Calls Try.prog 85 #[.slice A n c, .func (.func 71) #[] #[]] w fun e w' => e = .returned (.int .i64 (farK dnB vs n : Nat)) ∧ Below w.heap.size w w' := by
  have CI := Lib.hid (fun d l b W h1 h2 h3 => belowMost_any d l b W h1 h2 h3)
  have HI := Lib.hid h
  have HG := Lib.hid hg
  clear h hg
  go_enter Try.func85, Try.ntmps85
  go_wp2_with fail
  go_loopw [5, 10] (fun f i wr => ∃ k : Nat, k ≤ n ∧ i = .int .i64 k ∧ f = .int .i64 (farK dnB vs k : Nat) ∧ Below w.heap.size w wr) (fun _ i _ => n - (intOf i).toNat)
  case atStart => exact ⟨0, Nat.zero_le _, rfl, rfl, Below.refl _ _⟩
  case round =>
    obtain ⟨k, hk, rfl, rfl, hb⟩ := hrel
    by_cases hlt : k < n
    · skip
      obtain ⟨a1, rfl, hab, HV⟩ := (HI.out.below hb HI.out.low).has.Basin (k := k) (by rw [HI.out.len]; exact hlt)
      have hj : farK dnB vs k < n := by have := farK_le dnB vs k; omega
      obtain ⟨a2, ea2, -, HU⟩ := (HI.out.below hb HI.out.low).has.Basin (k := farK dnB vs k) (by rw [HI.out.len]; exact hj)
      injection ea2 with ea2
      subst ea2
      have HST : Hid (farK dnB vs (k + 1) = if dnB (vs.getD (farK dnB vs k) noBasin) < dnB (vs.getD k noBasin) then k else farK dnB vs k) := Lib.hid rfl
      obtain ⟨⟨g1, g2⟩, g3, g4⟩ := HG.out k hlt
      obtain ⟨⟨q1, q2⟩, q3, q4⟩ := HG.out _ hj
      obtain ⟨j, hj0⟩ : ∃ j, farK dnB vs k = j := ⟨_, rfl⟩
      rw [hj0] at HU HST hj q1 q2 q3 q4 ⊢
      clear hj0
      obtain ⟨V, hV⟩ : ∃ V, vs.getD k noBasin = V := ⟨_, rfl⟩
      obtain ⟨U, hU⟩ : ∃ V, vs.getD j noBasin = V := ⟨_, rfl⟩
      rw [hV] at HV HST g1 g2 g3 g4
      rw [hU] at HU HST q1 q2 q3 q4
      clear hV hU
      obtain ⟨d, l, b⟩ := V
      obtain ⟨d2, l2, b2⟩ := U
      obtain ⟨e0, e1, e2⟩ := HV
      obtain ⟨u0, u1, u2⟩ := HU
      dsimp only at e0 e1 e2 u0 u1 u2 g1 g2 g3 g4 q1 q2 q3 q4
      have HB := Lib.hid hb
      have hk0 : (0 : Int) ≤ (k : Int) := by omega
      have hk1 : (k : Int) < (n : Int) := by omega
      have hj0 : (0 : Int) ≤ (j : Int) := by omega
      have hj1 : (j : Int) < (n : Int) := by omega
      have HC1 : Hid ((b2 - d2) < (b - d) → farK dnB vs (k + 1) = k) := Lib.hid (fun h => by rw [HST.out]; exact if_pos h)
      have HC2 : Hid (¬ (b2 - d2) < (b - d) → farK dnB vs (k + 1) = j) := Lib.hid (fun h => by rw [HST.out]; exact if_neg h)
      clear hb HST
      go_wp2_with fail
      obtain ⟨W5, hW5⟩ : ∃ W, World.alloc wr (.cells #[.int .i64 d, .int .i64 l, .int .i64 b] 53) = W := ⟨_, rfl⟩
      obtain ⟨xb, hxb⟩ : ∃ x, (wr : World).heap.size = x := ⟨_, rfl⟩
      have cxb0 : W5.cell? ⟨xb, 0, none⟩ = some (.int .i64 d) := by rw [← hW5, ← hxb, sNew]; rfl
      have cxb1 : W5.cell? ⟨xb, 1, none⟩ = some (.int .i64 l) := by rw [← hW5, ← hxb, sNew]; rfl
      have cxb2 : W5.cell? ⟨xb, 2, none⟩ = some (.int .i64 b) := by rw [← hW5, ← hxb, sNew]; rfl
      have HB5 := Lib.hid (show Below w.heap.size w W5 by rw [← hW5]; exact HB.out.alloc HB.out.size _)
      have hwl : Below wr.heap.size wr W5 := by rw [← hW5]; exact below1 _ _
      replace u0 := (hwl.cell (World.block_lt_of_cell? _ _ u0)).trans u0
      replace u1 := (hwl.cell (World.block_lt_of_cell? _ _ u1)).trans u1
      replace u2 := (hwl.cell (World.block_lt_of_cell? _ _ u2)).trans u2
      rw [hW5, hxb]
      clear hW5 hxb hwl e0 e1 e2
      have E0 := fun (d : Nat) (os : Array Obj) => cell_regrown cxb0 d os
      have E1 := fun (d : Nat) (os : Array Obj) => cell_regrown cxb1 d os
      have E2 := fun (d : Nat) (os : Array Obj) => cell_regrown cxb2 d os
      have U0 := fun (d : Nat) (os : Array Obj) => cell_regrown u0 d os
      have U1 := fun (d : Nat) (os : Array Obj) => cell_regrown u1 d os
      have U2 := fun (d : Nat) (os : Array Obj) => cell_regrown u2 d os
      have c1 := fun (dr : Nat) (os : Array Obj) => Calls.regrown_of (w := W5) (d := dr) (os := os) (CI.out d l b _ (by omega) (by omega) (by omega))
      have c2 := fun (dr : Nat) (os : Array Obj) => Calls.regrown_of (w := W5) (d := dr) (os := os) (CI.out d2 l2 b2 _ (by omega) (by omega) (by omega))
      clear cxb0 cxb1 cxb2 u0 u1 u2 CI HB
      refine wp_region_quiet_below (by kernel_rfl) (by kernel_rfl) ?_
      repeat (go_big_quiet_step (first | exact c1 _ _ | exact c2 _ _))
      refine wpQuiet_nil ?_
      intro _ hw'
      obtain ⟨⟨dq, osq⟩, hw''⟩ := hw'
      subst hw''
      have HB6 := Lib.hid (HB5.out.trans ((below_regrown W5 dq osq).mono HB5.out.size))
      clear E0 E1 E2 U0 U1 U2 c1 c2
      by_cases hc : (b2 - d2) < (b - d)
      · have HE := Lib.hid (HC1.out (by omega))
        go_wp2_with fail
        go_roundw
        case rel => exact ⟨k + 1, by omega, by go_num, by rw [HE.out], HB6.out⟩
        case measure => simp [intOf]; omega
      · have HE := Lib.hid (HC2.out (by omega))
        go_wp2_with fail
        go_roundw
        case rel => exact ⟨k + 1, by omega, by go_num, by rw [HE.out], HB6.out⟩
        case measure => simp [intOf]; omega
    · obtain rfl : k = n := by omega
      clear CI HG
      go_wp2_with fail
      go_ret
      exact ⟨rfl, hb⟩
/-- The next Flow, or none. -/
def lvN (vs : List TBasin) : TFlow := if lvStop vs then ⟨0, 0, 0⟩ else lvF vs
set_option maxRecDepth 100000 in
set_option maxHeartbeats 2000000 in
theorem lvf_any {w : World} {B : Nat} {A : Option Addr} {n : Nat} {vs : List TBasin} (c : Nat) (h : IsBasins w B A n vs) (hm : n ≤ 6) (hn : 0 < n) (hg : ∀ k, k < n → goodB (vs.getD k noBasin)) :
    Calls Try.prog 73 #[.slice A n c] w fun e w' => e = .returned (.agg #[.int .i64 (lvN vs).x0, .int .i64 (lvN vs).x1, .int .i64 (lvN vs).x2]) ∧ Below w.heap.size w w' := by
  have CU := Lib.hid (fun W (hb : Below w.heap.size w W) => farU_any c (h.below hb h.low) hm hg)
  have CD := Lib.hid (fun W (hb : Below w.heap.size w W) => farD_any c (h.below hb h.low) hm hg)
  have C1 := Lib.hid (fun d l b W h1 h2 h3 => aboveLeast_any d l b W h1 h2 h3)
  have C2 := Lib.hid (fun d l b W h1 h2 h3 => belowMost_any d l b W h1 h2 h3)
  have hl := h.len
  have HI := Lib.hid h
  have HG := Lib.hid hg
  have hp := farK_lt upB vs n hn
  have hq := farK_lt dnB vs n hn
  have HST : Hid (lvStop vs ↔ upB (vs.getD (farK upB vs n) noBasin) < upB (vs.getD (farK dnB vs n) noBasin) + 2 ∨ dnB (vs.getD (farK dnB vs n) noBasin) = 0) := Lib.hid (by rw [← hl]; exact Iff.rfl)
  have HF : Hid (lvF vs = ⟨(farK upB vs n : Int), (farK dnB vs n : Int), 1⟩) := Lib.hid (by rw [← hl]; rfl)
  generalize farK upB vs n = p at hp HST HF CU
  generalize farK dnB vs n = q at hq HST HF CD
  have HN1 : Hid (lvStop vs → lvN vs = ⟨0, 0, 0⟩) := Lib.hid (fun h => if_pos h)
  have HN2 : Hid (¬ lvStop vs → lvN vs = ⟨(p : Int), (q : Int), 1⟩) := Lib.hid (fun h => (if_neg h).trans HF.out)
  generalize lvN vs = N at HN1 HN2 ⊢
  clear h hg HF hl
  go_enter Try.func73, Try.ntmps73
  go_wp2_with fail
  have HBX5 := Lib.hid (BoxF.new w 0 0 0)
  obtain ⟨W5, hW5⟩ : ∃ W, World.alloc w (.cells #[.int .i64 0, .int .i64 0, .int .i64 0] 38) = W := ⟨_, rfl⟩
  obtain ⟨xb, hxb⟩ : ∃ x, (w : World).heap.size = x := ⟨_, rfl⟩
  have HXL : Hid (w.heap.size ≤ xb) := Lib.hid (by omega)
  have HB5 := Lib.hid (show Below w.heap.size w W5 by rw [← hW5]; exact below1 _ _)
  rw [hW5, hxb] at HBX5
  rw [hW5, hxb]
  clear hW5 hxb
  refine (CU.out _ HB5.out).mono ?_
  rintro e w1 ⟨rfl, hb⟩
  have HB6 := Lib.hid (HB5.out.trans (hb.mono HB5.out.size))
  have HBX6 := Lib.hid (HBX5.out.all hb)
  clear hb CU HBX5 HB5
  go_wp2_with fail
  refine (CD.out _ HB6.out).mono ?_
  rintro e w2 ⟨rfl, hb⟩
  have HB7 := Lib.hid (HB6.out.trans (hb.mono HB6.out.size))
  have HBX7 := Lib.hid (HBX6.out.all hb)
  clear hb CD HBX6 HB6
  go_wp2_with fail
  obtain ⟨a1, rfl, hab, HV⟩ := (HI.out.below HB7.out HI.out.low).has.Basin (k := p) (by rw [HI.out.len]; exact hp)
  obtain ⟨a2, ea2, -, HU⟩ := (HI.out.below HB7.out HI.out.low).has.Basin (k := q) (by rw [HI.out.len]; exact hq)
  injection ea2 with ea2
  subst ea2
  obtain ⟨⟨g1, g2⟩, g3, g4⟩ := HG.out p hp
  obtain ⟨⟨q1, q2⟩, q3, q4⟩ := HG.out q hq
  obtain ⟨V, hV⟩ : ∃ V, vs.getD p noBasin = V := ⟨_, rfl⟩
  obtain ⟨U, hU⟩ : ∃ V, vs.getD q noBasin = V := ⟨_, rfl⟩
  rw [hV] at HV HST g1 g2 g3 g4
  rw [hU] at HU HST q1 q2 q3 q4
  clear hV hU
  obtain ⟨d, l, b⟩ := V
  obtain ⟨d2, l2, b2⟩ := U
  obtain ⟨e0, e1, e2⟩ := HV
  obtain ⟨u0, u1, u2⟩ := HU
  dsimp only at e0 e1 e2 u0 u1 u2 g1 g2 g3 g4 q1 q2 q3 q4
  have HS : Hid (lvStop vs ↔ d - l < d2 - l2 + 2 ∨ b2 - d2 = 0) := HST
  clear HST
  have hk0 : (0 : Int) ≤ (p : Int) := by omega
  have hk1 : (p : Int) < (n : Int) := by omega
  have hj0 : (0 : Int) ≤ (q : Int) := by omega
  have hj1 : (q : Int) < (n : Int) := by omega
  have E0 := fun (d : Nat) (os : Array Obj) => cell_regrown e0 d os
  have E1 := fun (d : Nat) (os : Array Obj) => cell_regrown e1 d os
  have E2 := fun (d : Nat) (os : Array Obj) => cell_regrown e2 d os
  have U0 := fun (d : Nat) (os : Array Obj) => cell_regrown u0 d os
  have U1 := fun (d : Nat) (os : Array Obj) => cell_regrown u1 d os
  have U2 := fun (d : Nat) (os : Array Obj) => cell_regrown u2 d os
  have k1 := fun (dr : Nat) (os : Array Obj) => Calls.regrown_of (w := w2) (d := dr) (os := os) (C1.out d l b _ (by omega) (by omega) (by omega))
  have k2 := fun (dr : Nat) (os : Array Obj) => Calls.regrown_of (w := w2) (d := dr) (os := os) (C1.out d2 l2 b2 _ (by omega) (by omega) (by omega))
  have k3 := fun (dr : Nat) (os : Array Obj) => Calls.regrown_of (w := w2) (d := dr) (os := os) (C2.out d2 l2 b2 _ (by omega) (by omega) (by omega))
  clear e0 e1 e2 u0 u1 u2 C1 C2
  by_cases c0 : d - l < d2 - l2 + 2
  · have HN := Lib.hid (HN1.out (HS.out.2 (.inl c0)))
    have b0 : decide (d - l < d2 - l2 + 2) = true := decide_eq_true c0
    clear HN1 HN2 HS
    refine wp_region_quiet_below (by kernel_rfl) (by kernel_rfl) ?_
    repeat (first | go_big_quiet_step (first | exact k1 _ _ | exact k2 _ _ | exact k3 _ _) | rw [b0])
    refine wpQuiet_nil ?_
    intro _ hw'
    obtain ⟨⟨dq, osq⟩, hw''⟩ := hw'
    subst hw''
    have HB8 := Lib.hid (HB7.out.trans ((below_regrown w2 dq osq).mono HB7.out.size))
    have HBX := Lib.hid (HBX7.out.all (below_regrown w2 dq osq))
    dsimp only
    generalize grow (redrawn w2 dq) osq = W8 at HB8 HBX ⊢
    have x0 := HBX.out.c0
    have x1 := HBX.out.c1
    have x2 := HBX.out.c2
    have z0 := HBX.out.fz 0
    have z1 := HBX.out.fz 1
    have z2 := HBX.out.fz 2
    clear E0 E1 E2 U0 U1 U2 k1 k2 k3 HBX7 HB7
    go_wp2_with fail
    refine bodyPost_ret (results_row0 rfl _ _ xb [_, _, _] _ rfl (BoxF.rangeAt (HBX.out.sets 0 0 0)) Try.underlying38 rfl (by kernel_rfl)) rfl ?_
    exact ⟨by rw [HN.out], sets3_below HB8.out HXL.out _ _ _⟩
  · have b0 : decide (d - l < d2 - l2 + 2) = false := decide_eq_false c0
    by_cases c1 : b2 - d2 = 0
    · have HN := Lib.hid (HN1.out (HS.out.2 (.inr c1)))
      have b1 : (b2 - d2 == 0) = true := by simp [c1]
      clear HN1 HN2 HS c1
      refine wp_region_quiet_below (by kernel_rfl) (by kernel_rfl) ?_
      repeat (first | go_big_quiet_step (first | exact k1 _ _ | exact k2 _ _ | exact k3 _ _) | rw [b0])
      refine wpQuiet_nil ?_
      intro _ hw'
      obtain ⟨⟨dq, osq⟩, hw''⟩ := hw'
      subst hw''
      have HB8 := Lib.hid (HB7.out.trans ((below_regrown w2 dq osq).mono HB7.out.size))
      have HBX := Lib.hid (HBX7.out.all (below_regrown w2 dq osq))
      dsimp only
      generalize grow (redrawn w2 dq) osq = W8 at HB8 HBX ⊢
      have x0 := HBX.out.c0
      have x1 := HBX.out.c1
      have x2 := HBX.out.c2
      have z0 := HBX.out.fz 0
      have z1 := HBX.out.fz 1
      have z2 := HBX.out.fz 2
      clear E0 E1 E2 U0 U1 U2 k1 k2 k3 HBX7 HB7
      go_wp2_with fail
      refine bodyPost_ret (results_row0 rfl _ _ xb [_, _, _] _ rfl (BoxF.rangeAt (HBX.out.sets 0 0 0)) Try.underlying38 rfl (by kernel_rfl)) rfl ?_
      exact ⟨by rw [HN.out], sets3_below HB8.out HXL.out _ _ _⟩
    · have HN := Lib.hid (HN2.out (fun h => (HS.out.1 h).elim c0 c1))
      have b1 : (b2 - d2 == 0) = false := by simpa using c1
      clear HN1 HN2 HS c1
      refine wp_region_quiet_below (by kernel_rfl) (by kernel_rfl) ?_
      repeat (first | go_big_quiet_step (first | exact k1 _ _ | exact k2 _ _ | exact k3 _ _) | rw [b0])
      refine wpQuiet_nil ?_
      intro _ hw'
      obtain ⟨⟨dq, osq⟩, hw''⟩ := hw'
      subst hw''
      have HB8 := Lib.hid (HB7.out.trans ((below_regrown w2 dq osq).mono HB7.out.size))
      have HBX := Lib.hid (HBX7.out.all (below_regrown w2 dq osq))
      dsimp only
      generalize grow (redrawn w2 dq) osq = W8 at HB8 HBX ⊢
      have x0 := HBX.out.c0
      have x1 := HBX.out.c1
      have x2 := HBX.out.c2
      have z0 := HBX.out.fz 0
      have z1 := HBX.out.fz 1
      have z2 := HBX.out.fz 2
      clear E0 E1 E2 U0 U1 U2 k1 k2 k3 HBX7 HB7
      go_wp2_with fail
      refine bodyPost_ret (results_row0 rfl _ _ xb [_, _, _] _ rfl (BoxF.rangeAt (HBX.out.sets (p : Int) (q : Int) 1)) Try.underlying38 rfl (by kernel_rfl)) rfl ?_
      exact ⟨by rw [HN.out], sets3_below HB8.out HXL.out _ _ _⟩
end Go.Proofs.Ytliebicnejbheaa
