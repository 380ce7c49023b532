/- Chapter 12: sums over pumps, one hour: the program. -/
import Derived.Test.YtdjoiodkmanacaaPuC
namespace Go.Proofs.Ytdjoiodkmanacaa
open Go.RowKit Go.PlainAid Go.Sort
set_option linter.unusedVariables false
set_option linter.unusedSimpArgs false

set_option maxHeartbeats 800000 in
theorem groups_any (a b c : Int) (A : Option Addr) (n q : Nat) (D : Option Addr) (m r : Nat) (hm : m ≤ 2) (w : World) :
    Calls Try.prog 82 #[.agg #[.int .i64 a, .int .i64 b, .int .i64 c, .slice A n q, .slice D m r]] w fun e w' => e = .returned (.int .i64 ((numM m : Nat) : Int)) ∧ Below w.heap.size w w' := by
  match m, hm with
  | 0, _ =>
    go_enter Try.func82, Try.ntmps82
    go_wp2_with fail
    go_ret
    exact ⟨rfl, below1 _ _⟩
  | 1, _ =>
    go_enter Try.func82, Try.ntmps82
    go_wp2_with fail
    go_ret
    exact ⟨rfl, below1 _ _⟩
  | 2, _ =>
    go_enter Try.func82, Try.ntmps82
    go_wp2_with fail
    go_ret
    exact ⟨rfl, below1 _ _⟩
theorem bit_and {x : Int} {k : Nat} (hx : 0 ≤ x ∧ x ≤ 3) (hk : k < 2) : (bits BinOp.and IntKind.i64 x (wrap64 (2 ^ k)) != 0) = bitU x k := by
  rcases four_of hx with rfl | rfl | rfl | rfl <;> (match k, hk with | 0, _ => decide +kernel | 1, _ => decide +kernel)
theorem bit_not {x y : Int} (hx : 0 ≤ x ∧ x ≤ 3) (hy : 0 ≤ y ∧ y ≤ 3) : bits BinOp.andNot IntKind.i64 x y = andnU x y := by
  rcases four_of hx with rfl | rfl | rfl | rfl <;> rcases four_of hy with rfl | rfl | rfl | rfl <;> decide +kernel
theorem TPump.x0_bdU (v : TPump) (h : goodU v) : 0 ≤ v.x0 ∧ v.x0 ≤ 50 := rate_bd v h
theorem TPump.x1_bdU (v : TPump) (h : goodU v) : 0 ≤ v.x1 ∧ v.x1 ≤ 50 := cost_bd v h
theorem TPump.x2_bdU (v : TPump) (h : goodU v) : 0 ≤ v.x2 ∧ v.x2 ≤ 50 := start_bd v h
set_option maxHeartbeats 400000 in
theorem rateF_any (a f v : Int) (w : World) :
    Calls Try.prog 84 #[.agg #[.int .i64 a, .int .i64 f, .int .i64 v]] w fun e w' => e = .returned (.int .i64 a) ∧ Below w.heap.size w w' := by
  go_enter Try.func84, Try.ntmps84
  go_wp2
  go_ret
  exact ⟨rfl, below1 _ _⟩
set_option maxRecDepth 100000 in
set_option maxHeartbeats 4000000 in
theorem sumR_any {w : World} {B : Nat} {D : Option Addr} {m : Nat} {vs : List TPump} (a b c : Int) (A : Option Addr) (n q r : Nat) (h : IsPumps w B D m vs) (hm : m ≤ 2) (hu : allU vs) (x : Int) (hx : 0 ≤ x ∧ x ≤ 3) :
    Calls Try.prog 83 #[.agg #[.int .i64 a, .int .i64 b, .int .i64 c, .slice A n q, .slice D m r], .int .i64 x, .func (.func 84) #[] #[]] w fun e w' => e = .returned (.int .i64 (sumU TPump.x0 vs x m)) ∧ Below w.heap.size w w' := by
  have HI := Lib.hid h
  have HBD := Lib.hid (fun k (hk : k ≤ m) => sumU_bd hu TPump.x0_bdU x k (by rw [h.len]; exact hk))
  have HU := Lib.hid (fun k (hk : k < m) => hu k (by rw [h.len]; exact hk))
  have CF := Lib.hid (fun d l y W => rateF_any d l y W)
  clear h hu
  go_enter Try.func83, Try.ntmps83
  go_wp2_with fail
  have hb0 := below1 w (.cells #[.int .i64 a, .int .i64 b, .int .i64 c, .slice A n q, .slice D m r] 27)
  go_loopw [7, 13] (fun s i wr => ∃ k : Nat, k ≤ m ∧ i = .int .i64 k ∧ s = .int .i64 (sumU TPump.x0 vs x k) ∧ Below w.heap.size w wr) (fun _ i _ => m - (intOf i).toNat)
  case atStart => exact ⟨0, Nat.zero_le _, rfl, rfl, hb0⟩
  case round =>
    clear hb0
    obtain ⟨k, hk, rfl, rfl, hb⟩ := hrel
    by_cases hlt : k < m
    · have hkl : k < vs.length := by rw [HI.out.len]; exact hlt
      obtain ⟨a1, rfl, hab, HV⟩ := (HI.out.below hb HI.out.low).has.Pump hkl
      have hs := HBD.out k hk
      have hg := TPump.x0_bdU _ (HU.out k hlt)
      have HS : Hid (sumU TPump.x0 vs x (k + 1) = sumU TPump.x0 vs x k + (if bitU x k then TPump.x0 (vs.getD k noPump) else 0)) := Lib.hid rfl
      obtain ⟨V, hV⟩ : ∃ V, vs.getD k noPump = V := ⟨_, rfl⟩
      rw [hV] at HV HS hg
      clear hV
      obtain ⟨S, hS⟩ : ∃ S, sumU TPump.x0 vs x k = S := ⟨_, rfl⟩
      rw [hS] at HS hs ⊢
      clear hS
      obtain ⟨d, l, y⟩ := V
      obtain ⟨e0, e1, e2⟩ := HV
      dsimp only at e0 e1 e2 HS hg
      have HB := Lib.hid (hb.alloc hb.size (.cells #[.int .i64 d, .int .i64 l, .int .i64 y] 69))
      have CG := Lib.hid (CF.out d l y)
      clear hb HI HBD HU CF
      have hk0 : (0 : Int) ≤ (k : Int) := by omega
      have hk1 : (k : Int) < (m : Int) := by omega
      obtain ⟨bb, hbb⟩ : ∃ bb, bitU x k = bb := ⟨_, rfl⟩
      have hcond : (bits BinOp.and IntKind.i64 x (wrap64 (2 ^ k)) != 0) = bb := (bit_and hx (by omega)).trans hbb
      rw [hbb] at HS
      clear hbb
      cases bb with
      | true =>
        rw [if_pos rfl] at HS
        go_wp2_with fail
        refine (CG.out _).mono ?_
        rintro e w6 ⟨rfl, hb⟩
        have HB6 := Lib.hid (HB.out.trans (hb.mono HB.out.size))
        clear hb CG HB hcond
        go_wp2_with fail
        go_roundw
        case rel => exact ⟨k + 1, by omega, by go_num, by rw [HS.out], HB6.out⟩
        case measure => simp [intOf]; omega
      | false =>
        rw [if_neg (by decide)] at HS
        go_wp2_with fail
        go_roundw
        case rel => exact ⟨k + 1, by omega, by go_num, by rw [HS.out, Int.add_zero], HB.out⟩
        case measure => simp [intOf]; omega
    · obtain rfl : m = k := by omega
      go_wp2_with fail
      go_ret
      exact ⟨rfl, hb⟩
set_option maxHeartbeats 400000 in
theorem costF_any (a f v : Int) (w : World) :
    Calls Try.prog 88 #[.agg #[.int .i64 a, .int .i64 f, .int .i64 v]] w fun e w' => e = .returned (.int .i64 f) ∧ Below w.heap.size w w' := by
  go_enter Try.func88, Try.ntmps88
  go_wp2
  go_ret
  exact ⟨rfl, below1 _ _⟩
set_option maxHeartbeats 400000 in
theorem startF_any (a f v : Int) (w : World) :
    Calls Try.prog 89 #[.agg #[.int .i64 a, .int .i64 f, .int .i64 v]] w fun e w' => e = .returned (.int .i64 v) ∧ Below w.heap.size w w' := by
  go_enter Try.func89, Try.ntmps89
  go_wp2
  go_ret
  exact ⟨rfl, below1 _ _⟩
set_option maxRecDepth 100000 in
set_option maxHeartbeats 4000000 in
theorem sumC_any {w : World} {B : Nat} {D : Option Addr} {m : Nat} {vs : List TPump} (a b c : Int) (A : Option Addr) (n q r : Nat) (h : IsPumps w B D m vs) (hm : m ≤ 2) (hu : allU vs) (x : Int) (hx : 0 ≤ x ∧ x ≤ 3) :
    Calls Try.prog 83 #[.agg #[.int .i64 a, .int .i64 b, .int .i64 c, .slice A n q, .slice D m r], .int .i64 x, .func (.func 88) #[] #[]] w fun e w' => e = .returned (.int .i64 (sumU TPump.x1 vs x m)) ∧ Below w.heap.size w w' := by
  have HI := Lib.hid h
  have HBD := Lib.hid (fun k (hk : k ≤ m) => sumU_bd hu TPump.x1_bdU x k (by rw [h.len]; exact hk))
  have HU := Lib.hid (fun k (hk : k < m) => hu k (by rw [h.len]; exact hk))
  have CF := Lib.hid (fun d l y W => costF_any d l y W)
  clear h hu
  go_enter Try.func83, Try.ntmps83
  go_wp2_with fail
  have hb0 := below1 w (.cells #[.int .i64 a, .int .i64 b, .int .i64 c, .slice A n q, .slice D m r] 27)
  go_loopw [7, 13] (fun s i wr => ∃ k : Nat, k ≤ m ∧ i = .int .i64 k ∧ s = .int .i64 (sumU TPump.x1 vs x k) ∧ Below w.heap.size w wr) (fun _ i _ => m - (intOf i).toNat)
  case atStart => exact ⟨0, Nat.zero_le _, rfl, rfl, hb0⟩
  case round =>
    clear hb0
    obtain ⟨k, hk, rfl, rfl, hb⟩ := hrel
    by_cases hlt : k < m
    · have hkl : k < vs.length := by rw [HI.out.len]; exact hlt
      obtain ⟨a1, rfl, hab, HV⟩ := (HI.out.below hb HI.out.low).has.Pump hkl
      have hs := HBD.out k hk
      have hg := TPump.x1_bdU _ (HU.out k hlt)
      have HS : Hid (sumU TPump.x1 vs x (k + 1) = sumU TPump.x1 vs x k + (if bitU x k then TPump.x1 (vs.getD k noPump) else 0)) := Lib.hid rfl
      obtain ⟨V, hV⟩ : ∃ V, vs.getD k noPump = V := ⟨_, rfl⟩
      rw [hV] at HV HS hg
      clear hV
      obtain ⟨S, hS⟩ : ∃ S, sumU TPump.x1 vs x k = S := ⟨_, rfl⟩
      rw [hS] at HS hs ⊢
      clear hS
      obtain ⟨d, l, y⟩ := V
      obtain ⟨e0, e1, e2⟩ := HV
      dsimp only at e0 e1 e2 HS hg
      have HB := Lib.hid (hb.alloc hb.size (.cells #[.int .i64 d, .int .i64 l, .int .i64 y] 69))
      have CG := Lib.hid (CF.out d l y)
      clear hb HI HBD HU CF
      have hk0 : (0 : Int) ≤ (k : Int) := by omega
      have hk1 : (k : Int) < (m : Int) := by omega
      obtain ⟨bb, hbb⟩ : ∃ bb, bitU x k = bb := ⟨_, rfl⟩
      have hcond : (bits BinOp.and IntKind.i64 x (wrap64 (2 ^ k)) != 0) = bb := (bit_and hx (by omega)).trans hbb
      rw [hbb] at HS
      clear hbb
      cases bb with
      | true =>
        rw [if_pos rfl] at HS
        go_wp2_with fail
        refine (CG.out _).mono ?_
        rintro e w6 ⟨rfl, hb⟩
        have HB6 := Lib.hid (HB.out.trans (hb.mono HB.out.size))
        clear hb CG HB hcond
        go_wp2_with fail
        go_roundw
        case rel => exact ⟨k + 1, by omega, by go_num, by rw [HS.out], HB6.out⟩
        case measure => simp [intOf]; omega
      | false =>
        rw [if_neg (by decide)] at HS
        go_wp2_with fail
        go_roundw
        case rel => exact ⟨k + 1, by omega, by go_num, by rw [HS.out, Int.add_zero], HB.out⟩
        case measure => simp [intOf]; omega
    · obtain rfl : m = k := by omega
      go_wp2_with fail
      go_ret
      exact ⟨rfl, hb⟩
set_option maxRecDepth 100000 in
set_option maxHeartbeats 4000000 in
theorem sumS_any {w : World} {B : Nat} {D : Option Addr} {m : Nat} {vs : List TPump} (a b c : Int) (A : Option Addr) (n q r : Nat) (h : IsPumps w B D m vs) (hm : m ≤ 2) (hu : allU vs) (x : Int) (hx : 0 ≤ x ∧ x ≤ 3) :
    Calls Try.prog 83 #[.agg #[.int .i64 a, .int .i64 b, .int .i64 c, .slice A n q, .slice D m r], .int .i64 x, .func (.func 89) #[] #[]] w fun e w' => e = .returned (.int .i64 (sumU TPump.x2 vs x m)) ∧ Below w.heap.size w w' := by
  have HI := Lib.hid h
  have HBD := Lib.hid (fun k (hk : k ≤ m) => sumU_bd hu TPump.x2_bdU x k (by rw [h.len]; exact hk))
  have HU := Lib.hid (fun k (hk : k < m) => hu k (by rw [h.len]; exact hk))
  have CF := Lib.hid (fun d l y W => startF_any d l y W)
  clear h hu
  go_enter Try.func83, Try.ntmps83
  go_wp2_with fail
  have hb0 := below1 w (.cells #[.int .i64 a, .int .i64 b, .int .i64 c, .slice A n q, .slice D m r] 27)
  go_loopw [7, 13] (fun s i wr => ∃ k : Nat, k ≤ m ∧ i = .int .i64 k ∧ s = .int .i64 (sumU TPump.x2 vs x k) ∧ Below w.heap.size w wr) (fun _ i _ => m - (intOf i).toNat)
  case atStart => exact ⟨0, Nat.zero_le _, rfl, rfl, hb0⟩
  case round =>
    clear hb0
    obtain ⟨k, hk, rfl, rfl, hb⟩ := hrel
    by_cases hlt : k < m
    · have hkl : k < vs.length := by rw [HI.out.len]; exact hlt
      obtain ⟨a1, rfl, hab, HV⟩ := (HI.out.below hb HI.out.low).has.Pump hkl
      have hs := HBD.out k hk
      have hg := TPump.x2_bdU _ (HU.out k hlt)
      have HS : Hid (sumU TPump.x2 vs x (k + 1) = sumU TPump.x2 vs x k + (if bitU x k then TPump.x2 (vs.getD k noPump) else 0)) := Lib.hid rfl
      obtain ⟨V, hV⟩ : ∃ V, vs.getD k noPump = V := ⟨_, rfl⟩
      rw [hV] at HV HS hg
      clear hV
      obtain ⟨S, hS⟩ : ∃ S, sumU TPump.x2 vs x k = S := ⟨_, rfl⟩
      rw [hS] at HS hs ⊢
      clear hS
      obtain ⟨d, l, y⟩ := V
      obtain ⟨e0, e1, e2⟩ := HV
      dsimp only at e0 e1 e2 HS hg
      have HB := Lib.hid (hb.alloc hb.size (.cells #[.int .i64 d, .int .i64 l, .int .i64 y] 69))
      have CG := Lib.hid (CF.out d l y)
      clear hb HI HBD HU CF
      have hk0 : (0 : Int) ≤ (k : Int) := by omega
      have hk1 : (k : Int) < (m : Int) := by omega
      obtain ⟨bb, hbb⟩ : ∃ bb, bitU x k = bb := ⟨_, rfl⟩
      have hcond : (bits BinOp.and IntKind.i64 x (wrap64 (2 ^ k)) != 0) = bb := (bit_and hx (by omega)).trans hbb
      rw [hbb] at HS
      clear hbb
      cases bb with
      | true =>
        rw [if_pos rfl] at HS
        go_wp2_with fail
        refine (CG.out _).mono ?_
        rintro e w6 ⟨rfl, hb⟩
        have HB6 := Lib.hid (HB.out.trans (hb.mono HB.out.size))
        clear hb CG HB hcond
        go_wp2_with fail
        go_roundw
        case rel => exact ⟨k + 1, by omega, by go_num, by rw [HS.out], HB6.out⟩
        case measure => simp [intOf]; omega
      | false =>
        rw [if_neg (by decide)] at HS
        go_wp2_with fail
        go_roundw
        case rel => exact ⟨k + 1, by omega, by go_num, by rw [HS.out, Int.add_zero], HB.out⟩
        case measure => simp [intOf]; omega
    · obtain rfl : m = k := by omega
      go_wp2_with fail
      go_ret
      exact ⟨rfl, hb⟩
set_option maxHeartbeats 1000000 in
theorem pumped_any {w : World} {B : Nat} {D : Option Addr} {m : Nat} {vs : List TPump} (a b c : Int) (A : Option Addr) (n q r : Nat) (h : IsPumps w B D m vs) (hm : m ≤ 2) (hu : allU vs) (x : Int) (hx : 0 ≤ x ∧ x ≤ 3) :
    Calls Try.prog 59 #[.agg #[.int .i64 a, .int .i64 b, .int .i64 c, .slice A n q, .slice D m r], .int .i64 x] w fun e w' => e = .returned (.int .i64 (sumU TPump.x0 vs x m)) ∧ Below w.heap.size w w' := by
  have C := Lib.hid (sumR_any a b c A n q r (h.below (below1 w (.cells #[.int .i64 a, .int .i64 b, .int .i64 c, .slice A n q, .slice D m r] 27)) h.low) hm hu x hx)
  have HB := Lib.hid (below1 w (.cells #[.int .i64 a, .int .i64 b, .int .i64 c, .slice A n q, .slice D m r] 27))
  generalize sumU TPump.x0 vs x m = S at C ⊢
  clear h hu
  go_enter Try.func59, Try.ntmps59
  go_wp2_with fail
  refine C.out.mono ?_
  rintro e w6 ⟨rfl, hb⟩
  have HB6 := Lib.hid (HB.out.trans (hb.mono HB.out.size))
  clear hb HB C
  go_wp2_with fail
  go_ret
  exact ⟨rfl, HB6.out⟩
set_option maxRecDepth 100000 in
set_option maxHeartbeats 2000000 in
theorem levelAfter_any {w : World} {B : Nat} {A D : Option Addr} {n m : Nat} {zs : List Int} {vs : List TPump} (a b c : Int) (q r : Nat) (h : IsTs w B A n zs D m vs) (hg : goodT ⟨a, b, c, zs, vs⟩) (z : Int) (k : Nat) (x : Int) (hk : k < n) (hz : -10000 ≤ z ∧ z ≤ 10000) (hx : 0 ≤ x ∧ x ≤ 3) :
    Calls Try.prog 51 #[.agg #[.int .i64 a, .int .i64 b, .int .i64 c, .slice A n q, .slice D m r], .int .i64 z, .int .i64 k, .int .i64 x] w fun e w' => e = .returned (.int .i64 (z + zs.getD k 0 - sumU TPump.x0 vs x m)) ∧ Below w.heap.size w w' := by
  obtain ⟨W5, hW5, X5, B5, z5⟩ := box_in w a b c A n q D m r
  have h5 := h.upB B5
  have hm2 : m ≤ 2 := by rw [← h.pumps.len]; exact hg.2.2.1
  have hn5 : n ≤ 5 := by rw [← h.ints.len]; exact hg.2.1.2
  obtain ⟨aI, rfl, hab, ez⟩ := intGet h5.ints.has (k := k) (by rw [h5.ints.len]; exact hk)
  have hf := hg.2.2.2.1 k (by show k < zs.length; rw [h5.ints.len]; exact hk)
  have hs := sumU_bd hg.2.2.2.2 TPump.x0_bdU x m (by show m ≤ vs.length; rw [h5.pumps.len]; exact Nat.le_refl _)
  dsimp only at hf
  have CM := fun (dr : Nat) (os : Array Obj) => Calls.regrown_of (w := W5) (d := dr) (os := os) (pumped_any (w := grow (redrawn W5 dr) os) a b c (some aI) n q r (h5.pumps.below (below_regrown W5 dr os) h5.low) hm2 hg.2.2.2.2 x hx)
  have cT0 := X5.c0
  have cT1 := X5.c1
  have cT2 := X5.c2
  have cT3 := X5.c3
  have cT4 := X5.c4
  have E0 := fun (d : Nat) (os : Array Obj) => cell_regrown cT0 d os
  have E1 := fun (d : Nat) (os : Array Obj) => cell_regrown cT1 d os
  have E2 := fun (d : Nat) (os : Array Obj) => cell_regrown cT2 d os
  have E3 := fun (d : Nat) (os : Array Obj) => cell_regrown cT3 d os
  have E4 := fun (d : Nat) (os : Array Obj) => cell_regrown cT4 d os
  have EZ := fun (d : Nat) (os : Array Obj) => cell_regrown ez d os
  have HB5 := Lib.hid B5
  have hk0 : (0 : Int) ≤ (k : Int) := by omega
  have hk1 : (k : Int) < (n : Int) := by omega
  generalize sumU TPump.x0 vs x m = S at CM hs ⊢
  generalize zs.getD k 0 = f at EZ hf ez ⊢
  clear X5 B5 h h5 hg cT0 cT1 cT2 cT3 cT4 ez
  go_enter Try.func51, Try.ntmps51
  go_wp2_with fail
  (try rw [hW5])
  refine wp_region_quiet_below (by kernel_rfl) (by kernel_rfl) ?_
  repeat (go_big_quiet_step (first | exact CM _ _))
  refine wpQuiet_nil ?_
  intro _ hw'
  obtain ⟨⟨dq, osq⟩, hw''⟩ := hw'
  subst hw''
  have HB6 := Lib.hid (HB5.out.trans ((below_regrown W5 dq osq).mono HB5.out.size))
  clear CM E0 E1 E2 E3 E4 EZ
  go_wp2_with fail
  go_ret
  exact ⟨rfl, HB6.out⟩
end Go.Proofs.Ytdjoiodkmanacaa
