/- Chapter 7: passengers in the same chamber: the model and the program; a vessel in a block. -/
import Derived.Test.YtacpmckdfddmeaaDgE
namespace Go.Proofs.Ytacpmckdfddmeaa
open Go.RowKit Go.PlainAid Go.Sort
set_option linter.unusedVariables false
set_option linter.unusedSimpArgs false

/-- A vessel in a block. -/
def BoxC (W : World) (g : Nat) (x y z : Int) : Prop := W.heap[g]? = some (.cells #[.int .i64 x, .int .i64 y, .int .i64 z] 40 (0, 0))
section
variable {W : World} {g : Nat} {x y z : Int}
theorem BoxC.c0 (h : BoxC W g x y z) : W.cell? ⟨g, 0, none⟩ = some (.int .i64 x) := cell_of_row W g 0 _ _ _ h
theorem BoxC.c1 (h : BoxC W g x y z) : W.cell? ⟨g, 1, none⟩ = some (.int .i64 y) := cell_of_row W g 1 _ _ _ h
theorem BoxC.c2 (h : BoxC W g x y z) : W.cell? ⟨g, 2, none⟩ = some (.int .i64 z) := cell_of_row W g 2 _ _ _ h
theorem BoxC.fz (h : BoxC W g x y z) (k : Nat) : W.frozen? ⟨g, k, none⟩ = false := frozen_of_row W g k _ _ h
theorem BoxC.lt (h : BoxC W g x y z) : g < W.heap.size := (Array.getElem?_eq_some_iff.1 h).1
theorem BoxC.below {w' : World} {B : Nat} (h : BoxC W g x y z) (hb : Below B W w') (hg : g < B) : BoxC w' g x y z := (hb.block g hg).trans h
theorem BoxC.all {w' : World} (h : BoxC W g x y z) (hb : Below W.heap.size W w') : BoxC w' g x y z := h.below hb h.lt
theorem BoxC.kept {w' : World} {row : Option Nat} (h : BoxC W g x y z) (hg : W.grownBy w' row) (hne : some g ≠ row) : BoxC w' g x y z := (hg.block g h.lt hne).trans h
theorem BoxC.new (W : World) (x y z : Int) : BoxC (W.alloc (.cells #[.int .i64 x, .int .i64 y, .int .i64 z] 40)) W.heap.size x y z := heap_alloc_new W _
theorem BoxC.rangeAt (h : BoxC W g x y z) : W.rangeAt g 0 [.int .i64 x, .int .i64 y, .int .i64 z] := by
  intro j u hj
  match j, hj with
  | 0, hj => injection hj with hj; rw [← hj]; exact h.c0
  | 1, hj => injection hj with hj; rw [← hj]; exact h.c1
  | 2, hj => injection hj with hj; rw [← hj]; exact h.c2
theorem BoxC.set0 (h : BoxC W g x y z) (o : Int) : BoxC (W.setCell ⟨g, 0, none⟩ (.int .i64 o)) g o y z := by
  unfold BoxC at *
  simp [World.setCell, Array.getElem?_modify, h]
theorem BoxC.set1 (h : BoxC W g x y z) (o : Int) : BoxC (W.setCell ⟨g, 1, none⟩ (.int .i64 o)) g x o z := by
  unfold BoxC at *
  simp [World.setCell, Array.getElem?_modify, h]
theorem BoxC.set2 (h : BoxC W g x y z) (o : Int) : BoxC (W.setCell ⟨g, 2, none⟩ (.int .i64 o)) g x y o := by
  unfold BoxC at *
  simp [World.setCell, Array.getElem?_modify, h]
/-- All three cells written over. -/
abbrev sets3 (W : World) (g : Nat) (x y z : Int) : World := ((W.setCell ⟨g, 0, none⟩ (.int .i64 x)).setCell ⟨g, 1, none⟩ (.int .i64 y)).setCell ⟨g, 2, none⟩ (.int .i64 z)
theorem BoxC.sets (h : BoxC W g x y z) (x' y' z' : Int) : BoxC (sets3 W g x' y' z') g x' y' z' := ((h.set0 x').set1 y').set2 z'
theorem sets3_below {w W : World} {B : Nat} (h : Below B w W) {g : Nat} (hg : B ≤ g) (x y z : Int) : Below B w (sets3 W g x y z) := ((h.setCell (p := ⟨g, 0, none⟩) hg _).setCell (p := ⟨g, 1, none⟩) hg _).setCell (p := ⟨g, 2, none⟩) hg _
end
/-- A struct in a block as an answer. -/
theorem results_rowC {P : Program} {fn : Func} {p : Tmp} {ty : TypeId} (h : fn.results = #[.cell p ty]) (tmps : Array Value) (w : World) (g : Nat) (cs : List Value) (d : TypeDesc)
    (hp : tmps.getD p undef = .pointer (some ⟨g, 0, none⟩)) (hc : w.rangeAt g 0 cs) (hu : P.underlying ty = some d) (hd : d.isRow = true) (hi : (P.info? ty).map (·.size) = some cs.length) :
    (results fn tmps).run P w = .ok (.agg cs.toArray) w := by
  have hp' : tmps[p]?.getD undef = .pointer (some ⟨g, 0, none⟩) := by simpa using hp
  simp [results, h, hp', asAddr, run_loadVar_mid w g 0 ty cs d hc hu hd hi]

/-- What MayShareLock answers. -/
def MayA (vs : List TCargo) (p : Int) (R x : Bool) : Prop :=
  ((gCs vs = true ∧ 0 ≤ p ∧ p ≤ 1000) → x = true ∧ (R = true ↔ (p = 0 ∨ ∀ j, j < vs.length → ¬ MuchC (vs.getD j noCargo)))) ∧ (¬ (gCs vs = true ∧ 0 ≤ p ∧ p ≤ 1000) → R = false ∧ x = false)
theorem mayA_ex (vs : List TCargo) (p : Int) : ∃ R x, MayA vs p R x := by
  by_cases h : gCs vs = true ∧ 0 ≤ p ∧ p ≤ 1000
  · by_cases g : p = 0 ∨ ∀ j, j < vs.length → ¬ MuchC (vs.getD j noCargo)
    · exact ⟨true, true, fun _ => ⟨rfl, fun _ => g, fun _ => rfl⟩, fun k => absurd h k⟩
    · exact ⟨false, true, fun _ => ⟨rfl, (fun k => nomatch k), fun k => absurd k g⟩, fun k => absurd h k⟩
  · exact ⟨false, false, fun k => absurd k h, fun _ => ⟨rfl, rfl⟩⟩
set_option maxHeartbeats 2000000 in
theorem mayS_any {w : World} {B : Nat} {A : Option Addr} {n : Nat} {vs : List TCargo} (c : Nat) (p : Int) (h : IsCargos w B A n vs) (hm : n ≤ 1048576) (R x : Bool) (hA : MayA vs p R x) :
    Calls Try.prog 34 #[.slice A n c, .int .i64 p] w fun e w' => e = .returned (.tuple #[.bool R, .bool x]) ∧ Below w.heap.size w w' := by
  have C := Lib.hid (l7Good_any c h (Nat.le_trans hm (by unfold maxLen; omega)))
  have CI := Lib.hid (fun W => l1In_any p 0 1000 W)
  have HI := Lib.hid h
  have HNO := Lib.hid hA.2
  have HYES := Lib.hid hA.1
  obtain ⟨G, hG⟩ : ∃ G, gCs vs = G := ⟨_, rfl⟩
  rw [hG] at HNO HYES C
  have HGE := Lib.hid hG
  clear h hA hG
  go_enter Try.func34, Try.ntmps34
  go_wp2_with fail
  refine C.out.mono ?_
  rintro e w1 ⟨rfl, hb⟩
  have HB1 := Lib.hid hb
  clear hb C
  cases G with
  | false =>
    obtain ⟨rfl, rfl⟩ := HNO.out (fun h => nomatch h.1)
    clear HNO HYES
    go_wp2_with fail
    refine bodyPost_ret (results_tmp2 rfl _ _ _) rfl ?_
    exact ⟨rfl, HB1.out⟩
  | true =>
  by_cases hp : 0 ≤ p ∧ p ≤ 1000
  · rw [decide_eq_true hp] at CI
    obtain ⟨rfl, hR⟩ := HYES.out ⟨rfl, hp⟩
    have HR := Lib.hid hR
    clear HNO HYES hR
    go_wp2_with fail
    refine (CI.out _).mono ?_
    rintro e w2 ⟨rfl, rfl⟩
    clear CI
    have hp0 := hp.1
    go_wp2_with fail
    go_loopw [6] (fun i wr => ∃ k : Nat, k ≤ n ∧ i = .int .i64 k ∧ Hid (p = 0 ∨ ∀ j, j < k → ¬ MuchC (vs.getD j noCargo)) ∧ wr = w1) (fun i _ => n - (intOf i).toNat)
    case atStart => exact ⟨0, Nat.zero_le _, rfl, Lib.hid (.inr (by simp)), rfl⟩
    case round =>
      obtain ⟨k, hk, rfl, hall, rfl⟩ := hrel
      by_cases hlt : k < n
      · have hkl : k < vs.length := by rw [HI.out.len]; exact hlt
        obtain ⟨a1, rfl, hab, HV⟩ := (HI.out.below HB1.out HI.out.low).has.Cargo hkl
        have HF : Hid (MuchC (vs.getD k noCargo) → p ≠ 0 → R = false) := Lib.hid (fun h h0 => by
          cases R with
          | false => rfl
          | true => rcases HR.out.1 rfl with g | g
                    · exact absurd g h0
                    · exact absurd h (g k hkl))
        have HT : Hid (p = 0 ∨ ¬ MuchC (vs.getD k noCargo) → p = 0 ∨ ∀ j, j < k + 1 → ¬ MuchC (vs.getD j noCargo)) := Lib.hid (fun h => by
          rcases h with h | h
          · exact .inl h
          · rcases hall.out with g | g
            · exact .inl g
            · refine .inr (fun j hj => ?_)
              rcases Nat.lt_succ_iff_lt_or_eq.1 hj with h1 | h1
              · exact g j h1
              · exact h1 ▸ h)
        have e2 := HV.c2
        clear HV hall
        have HF' : Hid (1 < (vs.getD k noCargo).x2 → p ≠ 0 → R = false) := Lib.hid HF.out
        have HT' : Hid (p = 0 ∨ ¬ 1 < (vs.getD k noCargo).x2 → p = 0 ∨ ∀ j, j < k + 1 → ¬ MuchC (vs.getD j noCargo)) := Lib.hid HT.out
        clear HF HT
        generalize (vs.getD k noCargo).x2 = q at e2 HF' HT'
        have hk0 : (0 : Int) ≤ (k : Int) := by omega
        have hk1 : (k : Int) < (n : Int) := by omega
        by_cases h1 : 1 < q
        · by_cases h0 : p = 0
          · have HT2 := Lib.hid (HT'.out (.inl h0))
            have hp1 : ¬ (p > 0) := by omega
            clear HF' HT' h0
            go_wp2_with fail
            go_roundw
            case rel => exact ⟨k + 1, by omega, by go_num, HT2, trivial⟩
            case measure => simp [intOf]; omega
          · obtain rfl : R = false := HF'.out h1 h0
            have hp1 : p > 0 := by omega
            clear HF' HT' h0
            go_wp2_with fail
            refine bodyPost_ret (results_tmp2 rfl _ _ _) rfl ?_
            exact ⟨rfl, HB1.out⟩
        · have HT2 := Lib.hid (HT'.out (.inr h1))
          clear HF' HT'
          go_wp2_with fail
          go_roundw
          case rel => exact ⟨k + 1, by omega, by go_num, HT2, trivial⟩
          case measure => simp [intOf]; omega
      · obtain rfl : k = n := by omega
        obtain rfl : R = true := HR.out.2 (by rw [HI.out.len]; exact hall.out)
        clear hall
        go_wp2_with fail
        refine bodyPost_ret (results_tmp2 rfl _ _ _) rfl ?_
        exact ⟨rfl, HB1.out⟩
  · rw [decide_eq_false hp] at CI
    obtain ⟨rfl, rfl⟩ := HNO.out (fun h => hp h.2)
    clear HNO HYES hp
    go_wp2_with fail
    refine (CI.out _).mono ?_
    rintro e w2 ⟨rfl, rfl⟩
    go_wp2_with fail
    refine bodyPost_ret (results_tmp2 rfl _ _ _) rfl ?_
    exact ⟨rfl, HB1.out⟩
set_option maxHeartbeats 2000000 in
theorem mayI_any {w : World} {B : Nat} {A : Option Addr} {n : Nat} {vs : List TCargo} (c : Nat) (p : Int) (h : IsCargos w B A n vs) (hm : n ≤ 1048576) (hnc : n ≤ c) (R x : Bool) (hA : MayA vs p R x) :
    Calls Try.prog 33 #[.slice A n c, .int .i64 p] w fun e w' => e = .returned (.tuple #[.bool R, .bool x]) ∧ Below w.heap.size w w' := by
  have C := Lib.hid (isCargoList_any c h (Nat.le_trans hm (by unfold maxLen; omega)) hnc)
  have CI := Lib.hid (fun W => inRange_any p 0 1000 W)
  have CM := Lib.hid (fun W (hb : Below w.heap.size w W) (S : Bool) hS => much_con A n c B vs W (by rw [h.len]; exact Nat.le_refl _) hm (Nat.le_trans h.low hb.size) (h.below hb h.low).has S hS)
  have HI := Lib.hid h
  have HNO := Lib.hid hA.2
  have HYES := Lib.hid hA.1
  obtain ⟨G, hG⟩ : ∃ G, gCs vs = G := ⟨_, rfl⟩
  rw [hG] at HNO HYES C
  have HGE := Lib.hid hG
  clear h hA hG
  go_enter Try.func33, Try.ntmps33
  go_wp2_with fail
  refine C.out.mono ?_
  rintro e w1 ⟨rfl, hb⟩
  have HB1 := Lib.hid hb
  clear hb C
  cases G with
  | false =>
    obtain ⟨rfl, rfl⟩ := HNO.out (fun h => nomatch h.1)
    clear HNO HYES
    go_wp2_with fail
    refine bodyPost_ret (results_tmp2 rfl _ _ _) rfl ?_
    exact ⟨rfl, HB1.out⟩
  | true =>
  by_cases hp : 0 ≤ p ∧ p ≤ 1000
  · rw [decide_eq_true hp] at CI
    obtain ⟨rfl, hR⟩ := HYES.out ⟨rfl, hp⟩
    have HR := Lib.hid hR
    clear HNO HYES hR
    go_wp2_with fail
    refine (CI.out _).mono ?_
    rintro e w2 ⟨rfl, rfl⟩
    clear CI hp
    by_cases h0 : p = 0
    · obtain rfl : R = true := HR.out.2 (.inl h0)
      have hb0 : (p == 0) = true := by simp [h0]
      clear h0 HR CM
      go_wp2_with fail
      refine bodyPost_ret (results_tmp2 rfl _ _ _) rfl ?_
      exact ⟨rfl, HB1.out⟩
    · obtain ⟨S, hS⟩ : ∃ S : Bool, S = true ↔ ∃ j, j < n ∧ MuchC (vs.getD j noCargo) := by
        by_cases g : ∃ j, j < n ∧ MuchC (vs.getD j noCargo)
        · exact ⟨true, by simpa using g⟩
        · exact ⟨false, by simpa using g⟩
      have hRS : R = !S := by
        rw [HI.out.len] at HR
        cases S with
        | true =>
          obtain ⟨j, hj, hm⟩ := hS.1 rfl
          cases R with
          | false => rfl
          | true => rcases HR.out.1 rfl with g | g
                    · exact absurd g h0
                    · exact absurd hm (g j hj)
        | false => exact HR.out.2 (.inr (fun j hj hm => nomatch (hS.2 ⟨j, hj, hm⟩)))
      have CMS := Lib.hid (CM.out _ HB1.out S hS)
      have hb0 : (p == 0) = false := by simp [h0]
      clear h0 HR CM hS
      subst hRS
      go_wp2_with fail
      refine CMS.out.mono ?_
      rintro e w3 ⟨rfl, hb⟩
      have HB3 := Lib.hid (HB1.out.trans (hb.mono HB1.out.size))
      clear hb HB1 CMS
      have HB1 := HB3
      go_wp2_with fail
      refine bodyPost_ret (results_tmp2 rfl _ _ _) rfl ?_
      exact ⟨rfl, HB1.out⟩
  · rw [decide_eq_false hp] at CI
    obtain ⟨rfl, rfl⟩ := HNO.out (fun h => hp h.2)
    clear HNO HYES hp
    go_wp2_with fail
    refine (CI.out _).mono ?_
    rintro e w2 ⟨rfl, rfl⟩
    go_wp2_with fail
    refine bodyPost_ret (results_tmp2 rfl _ _ _) rfl ?_
    exact ⟨rfl, HB1.out⟩
end Go.Proofs.Ytacpmckdfddmeaa
