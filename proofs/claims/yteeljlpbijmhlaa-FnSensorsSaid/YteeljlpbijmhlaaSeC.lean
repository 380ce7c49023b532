/- Chapter 6, the model: the middle one, the sensors that agree, the vote. -/
import Derived.Test.YteeljlpbijmhlaaSeA
import Derived.Test.YteeljlpbijmhlaaSeB
import Derived.Maps.AppendAt
import Derived.BigQuiet
namespace Go.Proofs.Yteeljlpbijmhlaa
open Go.RowKit Go.PlainAid Go.Sort
set_option linter.unusedVariables false
set_option linter.unusedSimpArgs false

theorem toBelow6 {P : Program} {f : FuncId} {args : Array Value} {w : World} {E : Ending} (h : Calls P f args w fun e w' => e = E ∧ w = w') : Calls P f args w fun e w' => e = E ∧ Below w.heap.size w w' :=
  h.mono fun _ _ ⟨a, b⟩ => ⟨a, b ▸ Below.refl _ _⟩
/-- The integers l lie in a slice of one's own. -/
def OwnL6 (w w' : World) (l : List Int) (v : Value) : Prop :=
  ∃ g c, v = .slice (some ⟨g, 0, none⟩) l.length c ∧ w.heap.size ≤ g ∧ w'.ownsRow w.heap.size 3 1 (.slice (some ⟨g, 0, none⟩) l.length c) l.length (l.map (.int .i64)) ∧ Below w.heap.size w w'
theorem OwnL6.nil {w w0 : World} (hb : Below w.heap.size w w0) : OwnL6 w (w0.alloc (.cells #[] 3)) [] (.slice (some ⟨w0.heap.size, 0, none⟩) 0 0) :=
  ⟨w0.heap.size, 0, rfl, hb.size, own_low (World.ownsRow_made w0 #[] 0 (Nat.le_refl _) (by unfold maxLen; omega) rfl) hb.size, hb.alloc hb.size _⟩
theorem OwnL6.below {w w0 w' : World} {l : List Int} {v : Value} (h : OwnL6 w w0 l v) (hb : Go.RowKit.Below w0.heap.size w0 w') : OwnL6 w w' l v := by
  obtain ⟨g, c, rfl, hg, ho, hb0⟩ := h
  exact ⟨g, c, rfl, hg, ho.kept (grownBelow hb none) (.inr (by simp [Value.ownBlock])), hb0.trans (hb.mono hb0.size)⟩
theorem OwnL6.gives {w w' : World} {l : List Int} {v : Value} (h : OwnL6 w w' l v) (b : Bool) : GivesInts w l b (.returned (.tuple #[v, .bool b])) w' := by
  obtain ⟨g, c, rfl, hg, ho, hb⟩ := h
  exact ⟨g, c, rfl, hg, ho, hb⟩
theorem OwnL6.low {w w' : World} {l : List Int} {v : Value} (h : OwnL6 w w' l v) : Go.RowKit.Below w.heap.size w w' := by
  obtain ⟨g, c, rfl, hg, ho, hb⟩ := h
  exact hb
theorem OwnL6.up {w w1 w' : World} {l : List Int} {v : Value} (h : OwnL6 w1 w' l v) (hb : Go.RowKit.Below w.heap.size w w1) : OwnL6 w w' l v := by
  obtain ⟨g, c, rfl, hg, ho, hb0⟩ := h
  exact ⟨g, c, rfl, Nat.le_trans hb.size hg, own_low ho hb.size, hb.trans (hb0.mono hb.size)⟩

/-- A triple in memory. -/
structure IsTri (w : World) (B : Nat) (A : Option Addr) (zs : List Int) : Prop where
  tri : triS zs
  has : Has w B A (zs.map (.int .i64))
  low : B ≤ w.heap.size
theorem IsTri.below {w w' : World} {B C : Nat} {A : Option Addr} {zs : List Int} (h : IsTri w B A zs) (hb : Below C w w') (hC : B ≤ C) : IsTri w' B A zs :=
  ⟨h.tri, h.has.below (hb.mono hC), Nat.le_trans h.low hb.size⟩
theorem IsTri.at {w : World} {B : Nat} {A : Option Addr} {zs : List Int} (h : IsTri w B A zs) {k : Nat} (hk : k < 3) :
    ∃ a, A = some a ∧ a.block < B ∧ w.cell? (a.add k) = some (.int .i64 (zs.getD k 0)) := intGet h.has (by rw [h.tri.1]; exact hk)

set_option maxHeartbeats 1000000 in
theorem l6Median_any {w : World} {B : Nat} {A : Option Addr} {zs : List Int} (c : Nat) (h : IsTri w B A zs) :
    Calls Try.prog 60 #[.slice A 3 c] w fun e w' => e = .returned (.int .i64 (medS zs)) ∧ Below w.heap.size w w' := by
  have CM := Lib.hid (fun x y W => l1Most6_any x y W)
  have CL := Lib.hid (fun x y W => l1Least6_any x y W)
  obtain ⟨a0, rfl, hb, e0⟩ := h.at (k := 0) (by omega)
  obtain ⟨a1, h1, -, e1⟩ := h.at (k := 1) (by omega)
  injection h1 with h1; subst h1
  obtain ⟨a2, h2, -, e2⟩ := h.at (k := 2) (by omega)
  injection h2 with h2; subst h2
  rw [show a0.add 0 = a0 from rfl] at e0
  rw [addFormS _ _ (by omega)] at e1 e2
  unfold medS
  generalize zs.getD 0 0 = x at e0 ⊢
  generalize zs.getD 1 0 = y at e1 ⊢
  generalize zs.getD 2 0 = z at e2 ⊢
  unfold med
  clear h
  have HB0 := Lib.hid (Below.refl w.heap.size w)
  have c1 := fun (dr : Nat) (os : Array Obj) => Calls.regrown_of (w := w) (d := dr) (os := os) (toBelow6 (CL.out x y _))
  have c2 := fun (dr : Nat) (os : Array Obj) => Calls.regrown_of (w := w) (d := dr) (os := os) (toBelow6 (CM.out x y _))
  have c3 := fun (dr : Nat) (os : Array Obj) => Calls.regrown_of (w := w) (d := dr) (os := os) (toBelow6 (CL.out (max x y) z _))
  have c4 := fun (dr : Nat) (os : Array Obj) => Calls.regrown_of (w := w) (d := dr) (os := os) (toBelow6 (CM.out (min x y) (min (max x y) z) _))
  clear CM CL
  generalize max x y = p at c2 c3 c4 ⊢
  generalize min x y = q at c1 c4 ⊢
  generalize min p z = r at c3 c4 ⊢
  have E0 := fun (d : Nat) (os : Array Obj) => cell_regrown e0 d os
  have E1 := fun (d : Nat) (os : Array Obj) => cell_regrown e1 d os
  have E2 := fun (d : Nat) (os : Array Obj) => cell_regrown e2 d os
  clear e0 e1 e2
  go_enter Try.func60, Try.ntmps60
  go_wp2_with fail
  refine wp_region_quiet_below (by kernel_rfl) (by kernel_rfl) ?_
  repeat (go_big_quiet_step (first | with_reducible exact c1 _ _ | with_reducible exact c2 _ _ | with_reducible exact c3 _ _ | with_reducible exact c4 _ _))
  refine wpQuiet_nil ?_
  intro _ hw'
  obtain ⟨⟨dq, osq⟩, hw''⟩ := hw'
  subst hw''
  have HB1 := Lib.hid (HB0.out.trans ((below_regrown w dq osq).mono HB0.out.size))
  go_wp2_with fail
  go_ret
  exact ⟨rfl, HB1.out⟩

set_option maxHeartbeats 400000 in
theorem l6Far_any (x y : Int) (hx : 0 ≤ x ∧ x ≤ 2000) (hy : 0 ≤ y ∧ y ≤ 2000) (w : World) :
    Calls Try.prog 76 #[.int .i64 x, .int .i64 y] w fun e w' => e = .returned (.int .i64 (max (x - y) (y - x))) ∧ w = w' := by
  have C := Lib.hid (fun W => l1Most6_any (x - y) (y - x) W)
  go_enter Try.func76, Try.ntmps76
  go_wp2_with fail
  refine (C.out _).mono ?_
  rintro e w1 ⟨rfl, rfl⟩
  go_wp2_with fail
  go_ret
  exact ⟨rfl, rfl⟩

set_option maxHeartbeats 2000000 in
theorem l6Agreeing_any {w : World} {B : Nat} {A : Option Addr} {zs : List Int} (c : Nat) (h : IsTri w B A zs) (q : Int) (hq : 0 ≤ q ∧ q ≤ 2000) :
    Calls Try.prog 65 #[.slice A 3 c, .int .i64 q] w fun e w' => ∃ v, e = .returned v ∧ OwnL6 w w' (agr zs q) v := by
  obtain ⟨i0, hi, hz0, hz1, hz2⟩ := info_parts Try.infoInt'
  have CM := Lib.hid (fun (W : World) (hW : Below w.heap.size w W) => l6Median_any c (h.below hW h.low))
  have CF := Lib.hid (fun (x y : Int) hx hy W => l6Far_any x y hx hy W)
  have HI := Lib.hid h
  have hmi := medS_in h.tri
  have HMI := Lib.hid hmi
  have P0 := Lib.hid (OwnL6.nil (Below.refl w.heap.size w))
  clear h
  go_enter Try.func65, Try.ntmps65
  go_wp2_with fail
  go_loopw [5, 6] (fun o i wr => ∃ k : Nat, k ≤ 3 ∧ i = .int .i64 k ∧ OwnL6 w wr (agrK zs q k) o) (fun _ i _ => 3 - (intOf i).toNat)
  case atStart => exact ⟨0, Nat.zero_le _, rfl, P0.out⟩
  case round =>
    obtain ⟨k, hk, rfl, hP⟩ := hrel
    by_cases hlt : k < 3
    · obtain ⟨a1, ha1, hab, ez⟩ := (HI.out.below hP.low HI.out.low).at hlt
      have hlen := agrK_len zs q k
      have hzi := serS_getD HI.out.tri.2 k
      have HY := Lib.hid (agrK_yes zs q k)
      have HN := Lib.hid (agrK_no zs q k)
      have HB := Lib.hid hP.low
      have CM1 := Lib.hid CM.out
      have CFk := Lib.hid (fun W => CF.out (zs.getD k 0) (medS zs) hzi HMI.out W)
      subst ha1
      generalize medS zs = m at CM1 CFk HY HN HMI hmi
      generalize zs.getD k 0 = z at ez CFk HY HN hzi
      have E0 := fun (d : Nat) (os : Array Obj) => cell_regrown ez d os
      have c1 := fun (dr : Nat) (os : Array Obj) => Calls.regrown_of (w := wr) (d := dr) (os := os) (CM1.out _ (HB.out.trans ((below_regrown wr dr os).mono HB.out.size)))
      have c2 := fun (dr : Nat) (os : Array Obj) => Calls.regrown_of (w := wr) (d := dr) (os := os) (toBelow6 (CFk.out _))
      have hk0 : (0 : Int) ≤ (k : Int) := by omega
      have hk1 : (k : Int) < 3 := by omega
      have HP := Lib.hid hP
      clear CM CF CM1 CFk ez P0 hP
      by_cases hle : max (z - m) (m - z) ≤ q
      · have HS := Lib.hid (HY.out hle)
        have hdle : decide (max (z - m) (m - z) ≤ q) = true := decide_eq_true hle
        generalize max (z - m) (m - z) = d at c2 hdle hle
        clear HY HN
        go_wp2_with fail
        refine wp_region_quiet_below (by kernel_rfl) (by kernel_rfl) ?_
        repeat (go_big_quiet_step (first | with_reducible exact c1 _ _ | with_reducible exact c2 _ _))
        refine wpQuiet_nil ?_
        intro _ hw'
        obtain ⟨⟨dq, osq⟩, hw''⟩ := hw'
        subst hw''
        have HB1 := Lib.hid (HB.out.trans ((below_regrown wr dq osq).mono HB.out.size))
        have HP1 := Lib.hid (HP.out.below (below_regrown wr dq osq))
        clear HP HB1 E0 c1 c2
        generalize grow (redrawn wr dq) osq = W1 at HP1 ⊢
        generalize agrK zs q k = P at HP1 HS hlen
        obtain ⟨g0, cp, rfl, hg0, hown, hb⟩ := HP1.out
        have hP8 : P.length ≤ 3 := by omega
        clear HP1
        go_wp2_with (at_builtin; refine wpList_append_own _ rfl (.tmp 21) (.tmp 23) 22 rfl w.heap.size 3 i0 (.int .i64 0) 1 8 Try.underlying22 hi hz0 hz1 hz2 rfl (by decide) (.slice (some ⟨g0, 0, none⟩) (P.length) cp) (P.length) _ rfl (hown.alloc _) ⟨W1.heap.size, 0, none⟩ 1 1 [.int .i64 (k : Int)] rfl rfl (cell_one_new _ _ _) (by simp [Value.oneCell']) (by unfold maxLen; omega) (by omega) (by have := (hb).size; simp; omega) ?_; intro v1 w1 hown1 hgrow1 hnil1; obtain ⟨g1, c1, rfl, hg1⟩ := own_some hown1 (fun e => nomatch (hnil1.1 e).1); have hb1 := ((hb).alloc (hb).size (.cells #[.int .i64 (k : Int)] 3)).grown hgrow1 (by have := (hb).size; simp; omega) (fun q hq => by cases hq; assumption); clear hnil1 hgrow1 hown hb)
        go_roundw
        case rel => exact ⟨k + 1, by omega, by go_num, by rw [HS.out]; exact ⟨g1, c1, by rw [List.length_append]; rfl, hg1, by rw [List.length_append, List.map_append]; exact hown1, hb1⟩⟩
        case measure => simp [intOf]; omega
      · have HS := Lib.hid (HN.out hle)
        have hdle : decide (max (z - m) (m - z) ≤ q) = false := decide_eq_false hle
        generalize max (z - m) (m - z) = d at c2 hdle hle
        clear HY HN
        go_wp2_with fail
        refine wp_region_quiet_below (by kernel_rfl) (by kernel_rfl) ?_
        repeat (go_big_quiet_step (first | with_reducible exact c1 _ _ | with_reducible exact c2 _ _))
        refine wpQuiet_nil ?_
        intro _ hw'
        obtain ⟨⟨dq, osq⟩, hw''⟩ := hw'
        subst hw''
        have HB1 := Lib.hid (HB.out.trans ((below_regrown wr dq osq).mono HB.out.size))
        have HP1 := Lib.hid (HP.out.below (below_regrown wr dq osq))
        clear HP HB1 E0 c1 c2
        go_wp2_with fail
        go_roundw
        case rel => exact ⟨k + 1, by omega, by go_num, by rw [HS.out]; exact HP1.out⟩
        case measure => simp [intOf]; omega
    · obtain rfl : k = 3 := by omega
      have HP := Lib.hid hP
      clear hP P0 HI
      go_wp2_with fail
      go_ret
      exact ⟨_, rfl, HP.out⟩
end Go.Proofs.Yteeljlpbijmhlaa
