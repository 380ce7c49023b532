/- Chapter 5: the planned commands: the model. -/
import Derived.Test.YtmnagjjpncancaaLoK
import Derived.Test.YtmnagjjpncancaaLoG
namespace Go.Proofs.Ytmnagjjpncancaa
open Go.RowKit Go.PlainAid Go.Sort
set_option linter.unusedVariables false
set_option linter.unusedSimpArgs false

/-- What is answered of a plan. -/
def AnsP (s : TLockState) (high : Bool) (L : List Int) (x : Bool) : Prop := (goodL s = true ∧ L = planL s high ∧ x = true) ∨ (goodL s = false ∧ L = [] ∧ x = false)
theorem ansP_ex (s : TLockState) (high : Bool) : ∃ L x, AnsP s high L x := by
  cases h : goodL s with
  | true => exact ⟨_, _, .inl ⟨h, rfl, rfl⟩⟩
  | false => exact ⟨_, _, .inr ⟨h, rfl, rfl⟩⟩
theorem AnsP.len {s : TLockState} {high : Bool} {L : List Int} {x : Bool} (h : AnsP s high L x) : L.length ≤ 44 := by
  rcases h with ⟨h, rfl, -⟩ | ⟨-, rfl, -⟩
  · exact planL_len h high
  · simp
theorem repl_succ (o : List Int) (k : Nat) : o ++ List.replicate (k + 1) 9 = (o ++ List.replicate k 9) ++ [9] := by
  rw [List.replicate_succ', List.append_assoc]
/-- The call hands back m integers L of its own, and x. -/
abbrev GivesP (w : World) (L : List Int) (m : Nat) (x : Bool) (e : Ending) (w' : World) : Prop :=
  ∃ g c', e = .returned (.tuple #[.slice (some ⟨g, 0, none⟩) m c', .bool x]) ∧ w'.ownsRow w.heap.size 3 1 (.slice (some ⟨g, 0, none⟩) m c') m (L.map (.int .i64)) ∧ Below w.heap.size w w'
theorem givesP_mk {w wA W : World} {g0 g q c m : Nat} {o L : List Int} (x : Bool) (hA : Below w.heap.size w wA) (hg : w.heap.size ≤ g0) (hO : W.ownsRow g0 3 1 (.slice (some ⟨g, 0, none⟩) q c) q (o.map (.int .i64))) (hB : Below g0 wA W) (hL : L = o) (hm : L.length = m) :
    GivesP w L m x (.returned (.tuple #[.slice (some ⟨g, 0, none⟩) q c, .bool x])) W := by
  subst hL
  have hq : q = m := by have := hO.1; simp at this; omega
  subst hq
  exact ⟨g, c, rfl, own_low hO hg, hA.trans (hB.mono hg)⟩
set_option maxRecDepth 100000 in
set_option maxHeartbeats 16000000 in
theorem planS_any (l u v : Int) (a b c d high : Bool) (L : List Int) (x : Bool) (hA : AnsP ⟨l, u, v, a, b, c, d⟩ high L x) (m : Nat) (hm : L.length = m) (w : World) :
    Calls Try.prog 27 #[.agg #[.int .i64 l, .int .i64 u, .int .i64 v, .bool a, .bool b, .bool c, .bool d], .bool high] w (GivesP w L m x) := by
  obtain ⟨i0, hi, hz0, hz1, hz2⟩ := info_parts Try.infoInt'
  have C := Lib.hid (fun W => l5Good_any l u v a b c d W)
  go_enter Try.func27, Try.ntmps27
  go_wp2_with fail
  obtain ⟨wA, hwA⟩ : ∃ x, w.alloc (.cells #[.int .i64 l, .int .i64 u, .int .i64 v, .bool a, .bool b, .bool c, .bool d] 23) = x := ⟨_, rfl⟩
  have QA : Hid (BoxL wA w.heap.size l u v a b c d) := Lib.hid (hwA ▸ BoxL.new w l u v a b c d)
  have HBA : Hid (Below w.heap.size w wA) := Lib.hid (hwA ▸ below1 w _)
  have hsz : wA.heap.size = w.heap.size + 1 := by rw [← hwA]; simp
  rw [hwA]
  clear hwA
  have O0 := Lib.hid (World.ownsRow_made (size := 1) (e := 3) wA #[] 0 (Nat.le_refl _) (by unfold maxLen; omega) rfl)
  have HB0 := Lib.hid (below1 wA (.cells #[] 3))
  obtain ⟨g0, hg0⟩ : ∃ g, w.heap.size + 1 = g := ⟨_, rfl⟩
  rw [hg0] at hsz
  rw [hsz] at O0 HB0
  have hgle : g0 ≤ wA.heap.size := by omega
  have HG0 : Hid (w.heap.size ≤ g0) := Lib.hid (by omega)
  have HXG : Hid (w.heap.size < g0) := Lib.hid (by omega)
  try rw [hg0]
  have hgg : g0 ≤ g0 := Nat.le_refl _
  clear hsz hg0
  obtain ⟨xb, hxb⟩ : ∃ y, w.heap.size = y := ⟨_, rfl⟩
  rw [hxb] at QA HXG
  try simp only [hxb]
  clear hxb
  refine (C.out _).mono ?_
  rintro e w1 ⟨rfl, hb⟩
  have HB1 := Lib.hid (HB0.out.trans (hb.mono (Nat.le_trans hgle HB0.out.size)))
  have O1 := Lib.hid (own_below O0.out hb)
  clear hb C HB0 O0
  cases hG : goodL ⟨l, u, v, a, b, c, d⟩ with
  | false =>
    rcases hA with ⟨h, -⟩ | ⟨-, rfl, rfl⟩
    · rw [hG] at h; cases h
    clear hG
    go_wp2_with fail
    refine bodyPost_ret (results_tmp2 rfl _ _ _) rfl ?_
    exact givesP_mk false HBA.out HG0.out (o := []) O1.out HB1.out rfl hm
  | true =>
    rcases hA with ⟨-, hL, rfl⟩ | ⟨h, -⟩
    rotate_left
    · rw [hG] at h; cases h
    have HL := Lib.hid hL
    have CM := Lib.hid (fun a' b' c' d' h' W => l5Minutes_any l u v a' b' c' d' h' W (goodL_levs hG))
    have Q1 := Lib.hid (BoxL.below QA.out HB1.out HXG.out)
    clear hL
    go_wp2_with fail
    have E0 := fun (dr : Nat) (os : Array Obj) => cell_regrown Q1.out.c3 dr os
    have E1 := fun (dr : Nat) (os : Array Obj) => cell_regrown Q1.out.c4 dr os
    have E2 := fun (dr : Nat) (os : Array Obj) => cell_regrown Q1.out.c5 dr os
    have E3 := fun (dr : Nat) (os : Array Obj) => cell_regrown Q1.out.c6 dr os
    refine wp_region_quiet_below (by kernel_rfl) (by kernel_rfl) ?_
    repeat (go_big_quiet_step (fail))
    refine wpQuiet_nil ?_
    intro _ hw'
    obtain ⟨⟨dq, osq⟩, hw''⟩ := hw'
    subst hw''
    have HB2 := Lib.hid (HB1.out.trans ((below_regrown w1 dq osq).mono (Nat.le_trans hgle HB1.out.size)))
    have O2 := Lib.hid (own_below O1.out (below_regrown w1 dq osq))
    obtain ⟨w2, hw2⟩ : ∃ x, grow (redrawn w1 dq) osq = x := ⟨_, rfl⟩
    rw [hw2] at HB2 O2 ⊢
    clear hw2 E0 E1 E2 E3 HB1 O1
    go_wp2_with fail
    have Q2 := Lib.hid (BoxL.below QA.out HB2.out HXG.out)
    have E0 := fun (dr : Nat) (os : Array Obj) => cell_regrown Q2.out.c3 dr os
    have E1 := fun (dr : Nat) (os : Array Obj) => cell_regrown Q2.out.c4 dr os
    have E2 := fun (dr : Nat) (os : Array Obj) => cell_regrown Q2.out.c5 dr os
    have E3 := fun (dr : Nat) (os : Array Obj) => cell_regrown Q2.out.c6 dr os
    refine wp_region_quiet_below (by kernel_rfl) (by kernel_rfl) ?_
    repeat (go_big_quiet_step (fail))
    refine wpQuiet_nil ?_
    intro _ hw'
    obtain ⟨⟨dq, osq⟩, hw''⟩ := hw'
    subst hw''
    have HB3 := Lib.hid (HB2.out.trans ((below_regrown w2 dq osq).mono (Nat.le_trans hgle HB2.out.size)))
    have O3 := Lib.hid (own_below O2.out (below_regrown w2 dq osq))
    obtain ⟨w3, hw2⟩ : ∃ x, grow (redrawn w2 dq) osq = x := ⟨_, rfl⟩
    rw [hw2] at HB3 O3 ⊢
    clear hw2 E0 E1 E2 E3 HB2 O2
    have Q3 := Lib.hid (BoxL.below QA.out HB3.out HXG.out)
    clear Q1 Q2
    cases high with
    | false =>
      cases a with
      | true =>
        have HPL := Lib.hid (show planL ⟨l, u, v, true, b, c, d⟩ false = [] from by simp [planL, gateL])
        have c0 := Q3.out.c0
        have c1 := Q3.out.c1
        have c2 := Q3.out.c2
        have c3 := Q3.out.c3
        have c4 := Q3.out.c4
        have c5 := Q3.out.c5
        have c6 := Q3.out.c6
        go_wp2_with fail
        refine bodyPost_ret (results_tmp2 rfl _ _ _) rfl ?_
        exact givesP_mk true HBA.out HG0.out (o := []) O3.out HB3.out (by rw [HL.out, HPL.out]) hm
      | false =>
        cases b with
        | true =>
          cases d with
          | true =>
            have k0 := Q3.out.c0
            have k1 := Q3.out.c1
            have k2 := Q3.out.c2
            have k3 := Q3.out.c3
            have k4 := Q3.out.c4
            have k5 := Q3.out.c5
            have k6 := Q3.out.c6
            go_wp2_with (first | (at_builtin; refine wpList_append_own _ rfl (.tmp 40) (.tmp 43) 34 rfl g0 3 i0 (.int .i64 0) 1 8 Try.underlying34 hi hz0 hz1 hz2 rfl (by decide) (.slice (some ⟨g0, 0, none⟩) (0) 0) (0) _ rfl (O3.out.alloc _) ⟨w3.heap.size, 0, none⟩ 1 1 [.int .i64 4] rfl rfl (cell_one_new _ _ _) (by simp [Value.oneCell']) (by unfold maxLen; omega) (by omega) (by have := (HB3.out).size; simp; omega) ?_; intro v1 w1 hown1 hgrow1 hnil1; obtain ⟨g1, c1, rfl, hg1⟩ := own_some hown1 (fun e => nomatch (hnil1.1 e).1); have hb1 := (HB3.out.alloc (Nat.le_trans hgle HB3.out.size) (.cells #[.int .i64 4] 3)).grown hgrow1 (by have := (HB3.out).size; simp; omega) (fun q hq => by cases hq; assumption); have qq := BoxL.below QA.out hb1 HXG.out; clear k0 k1 k2 k3 k4 k5 k6; have k0 := qq.c0; have k1 := qq.c1; have k2 := qq.c2; have k3 := qq.c3; have k4 := qq.c4; have k5 := qq.c5; have k6 := qq.c6; clear qq; clear hnil1 hgrow1) | (at_builtin; refine wpList_append_own _ rfl (.tmp 46) (.tmp 49) 34 rfl g0 3 i0 (.int .i64 0) 1 8 Try.underlying34 hi hz0 hz1 hz2 rfl (by decide) (.slice (some ⟨g1, 0, none⟩) (1) c1) (1) _ rfl (hown1.alloc _) ⟨w1.heap.size, 0, none⟩ 1 1 [.int .i64 8] rfl rfl (cell_one_new _ _ _) (by simp [Value.oneCell']) (by unfold maxLen; omega) (by omega) (by have := (hb1).size; simp; omega) ?_; intro v1 w1 hown1 hgrow1 hnil1; obtain ⟨g1, c1, rfl, hg1⟩ := own_some hown1 (fun e => nomatch (hnil1.1 e).1); have hb1 := (hb1.alloc (Nat.le_trans hgle hb1.size) (.cells #[.int .i64 8] 3)).grown hgrow1 (by have := (hb1).size; simp; omega) (fun q hq => by cases hq; assumption); have qq := BoxL.below QA.out hb1 HXG.out; clear k0 k1 k2 k3 k4 k5 k6; have k0 := qq.c0; have k1 := qq.c1; have k2 := qq.c2; have k3 := qq.c3; have k4 := qq.c4; have k5 := qq.c5; have k6 := qq.c6; clear qq; clear hnil1 hgrow1))
            have O_2 : Hid (w1.ownsRow g0 3 1 (.slice (some ⟨g1, 0, none⟩) 2 c1) 2 (([4, 8] : List Int).map (.int .i64))) := Lib.hid hown1
            have HB_2 : Hid (Below g0 wA w1) := Lib.hid hb1
            clear hown1 hb1 O3 HB3
            have CM2 := Lib.hid (fun W => CM.out false true c true false W)
            have hN40 := (minL_le (s := ⟨l, u, v, false, true, c, true⟩) hG false).1
            have HPL0 := Lib.hid (show planL ⟨l, u, v, false, true, c, true⟩ false = preL ⟨l, u, v, false, true, c, true⟩ false ++ (List.replicate (minL ⟨l, u, v, false, true, c, true⟩ false) 9 ++ [1]) from by simp [planL, gateL])
            unfold preL at HPL0
            generalize minL ⟨l, u, v, false, true, c, true⟩ false = N at CM2 hN40 HPL0
            clear CM hG
            refine (CM2.out _).mono ?_
            rintro e w5 ⟨rfl, hb⟩
            have O5 := Lib.hid (own_below O_2.out hb)
            have HB5 := Lib.hid (HB_2.out.trans (hb.mono (Nat.le_trans hgle HB_2.out.size)))
            clear hb O_2 HB_2 CM2
            have q5 := BoxL.below QA.out HB5.out HXG.out
            clear k0 k1 k2 k3 k4 k5 k6
            have k0 := q5.c0
            have k1 := q5.c1
            have k2 := q5.c2
            have k3 := q5.c3
            have k4 := q5.c4
            have k5 := q5.c5
            have k6 := q5.c6
            clear q5
            have hN0 : (0 : Int) ≤ (N : Int) := by omega
            have hNb : (N : Int) ≤ 40 := by omega
            by_cases hN : 0 < (N : Int)
            · cases c with
              | true =>
                have HPL := Lib.hid (HPL0.out.trans (by simp [gateL, paddL, (show 0 < N by omega)] : _ = ([4, 8] : List Int) ++ (List.replicate N 9 ++ [1])))
                clear HPL0
                try go_wp2_with fail
                go_loopw [6, 14] (fun x i wr => ∃ (k g cc : Nat), k ≤ N ∧ i = .int .i64 k ∧ x = .slice (some ⟨g, 0, none⟩) (2 + k) cc ∧ g0 ≤ g ∧ Hid (wr.ownsRow g0 3 1 (.slice (some ⟨g, 0, none⟩) (2 + k) cc) (2 + k) (([4, 8] ++ List.replicate k 9 : List Int).map (.int .i64))) ∧ Hid (Below g0 wA wr)) (fun _ i _ => N - (intOf i).toNat)
                case atStart => exact ⟨0, _, _, Nat.zero_le _, rfl, rfl, by assumption, Lib.hid O5.out, HB5⟩
                case round =>
                  clear k0 k1 k2 k3 k4 k5 k6
                  clear O5 HB5
                  obtain ⟨k, gk, ck, hk, rfl, rfl, hgk, OK, HBK⟩ := hrel
                  by_cases hlt : (k : Int) < (N : Int)
                  · have HS := Lib.hid (repl_succ [4, 8] k)
                    go_wp2_with (at_builtin; refine wpList_append_own _ rfl (.tmp 69) (.tmp 70) 34 rfl g0 3 i0 (.int .i64 0) 1 8 Try.underlying34 hi hz0 hz1 hz2 rfl (by decide) (.slice (some ⟨gk, 0, none⟩) (2 + k) ck) (2 + k) _ rfl (OK.out.alloc _) ⟨wr.heap.size, 0, none⟩ 1 1 [.int .i64 9] rfl rfl (cell_one_new _ _ _) (by simp [Value.oneCell']) (by unfold maxLen; omega) (by omega) (by have := (HBK.out).size; simp; omega) ?_; intro v1 w1 hown1 hgrow1 hnil1; obtain ⟨g1, c1, rfl, hg1⟩ := own_some hown1 (fun e => nomatch (hnil1.1 e).1); have hb1 := ((HBK.out.alloc (Nat.le_trans hgle HBK.out.size) (.cells #[.int .i64 9] 3))).grown hgrow1 (by have := (HBK.out).size; simp; omega) (fun q hq => by cases hq; assumption); clear hnil1 hgrow1 )
                    have O9 : Hid (w1.ownsRow g0 3 1 (.slice (some ⟨g1, 0, none⟩) (2 + (k + 1)) c1) (2 + (k + 1)) (([4, 8] ++ List.replicate (k + 1) 9 : List Int).map (.int .i64))) := Lib.hid (by rw [HS.out, List.map_append]; exact hown1)
                    have HB9 : Hid (Below g0 wA w1) := Lib.hid hb1
                    clear hown1 hb1 OK HBK HS
                    go_roundw
                    case rel => exact ⟨k + 1, g1, c1, by omega, by go_num, rfl, hg1, O9, HB9⟩
                    case measure => simp [intOf]; omega
                  · obtain rfl : k = N := by omega
                    go_wp2_with (at_builtin; refine wpList_append_own _ rfl (.tmp 72) (.tmp 74) 34 rfl g0 3 i0 (.int .i64 0) 1 8 Try.underlying34 hi hz0 hz1 hz2 rfl (by decide) (.slice (some ⟨gk, 0, none⟩) (2 + k) ck) (2 + k) _ rfl (OK.out.alloc _) ⟨wr.heap.size, 0, none⟩ 1 1 [.int .i64 1] rfl rfl (cell_one_new _ _ _) (by simp [Value.oneCell']) (by unfold maxLen; omega) (by omega) (by have := (HBK.out).size; simp; omega) ?_; intro v1 w1 hown1 hgrow1 hnil1; obtain ⟨g1, c1, rfl, hg1⟩ := own_some hown1 (fun e => nomatch (hnil1.1 e).1); have hb1 := ((HBK.out.alloc (Nat.le_trans hgle HBK.out.size) (.cells #[.int .i64 1] 3))).grown hgrow1 (by have := (HBK.out).size; simp; omega) (fun q hq => by cases hq; assumption); clear hnil1 hgrow1 )
                    have O9 : Hid (w1.ownsRow g0 3 1 (.slice (some ⟨g1, 0, none⟩) (2 + k + 1) c1) ((2 + k + 1)) (([4, 8] ++ List.replicate k 9 ++ [1] : List Int).map (.int .i64))) := Lib.hid (by rw [List.map_append]; exact hown1)
                    have HB9 : Hid (Below g0 wA w1) := Lib.hid hb1
                    clear hown1 hb1 OK HBK
                    try go_wp2_with fail
                    refine bodyPost_ret (results_tmp2 rfl _ _ _) rfl ?_
                    exact givesP_mk true HBA.out HG0.out O9.out HB9.out (by rw [HL.out, HPL.out] <;> simp) hm
              | false =>
                go_wp2_with (at_builtin; refine wpList_append_own _ rfl (.tmp 60) (.tmp 62) 34 rfl g0 3 i0 (.int .i64 0) 1 8 Try.underlying34 hi hz0 hz1 hz2 rfl (by decide) (.slice (some ⟨g1, 0, none⟩) (2) c1) (2) _ rfl (O5.out.alloc _) ⟨w5.heap.size, 0, none⟩ 1 1 [.int .i64 5] rfl rfl (cell_one_new _ _ _) (by simp [Value.oneCell']) (by unfold maxLen; omega) (by omega) (by have := (HB5.out).size; simp; omega) ?_; intro v1 w1 hown1 hgrow1 hnil1; obtain ⟨g1, c1, rfl, hg1⟩ := own_some hown1 (fun e => nomatch (hnil1.1 e).1); have hb1 := (HB5.out.alloc (Nat.le_trans hgle HB5.out.size) (.cells #[.int .i64 5] 3)).grown hgrow1 (by have := (HB5.out).size; simp; omega) (fun q hq => by cases hq; assumption); have qq := BoxL.below QA.out hb1 HXG.out; clear k0 k1 k2 k3 k4 k5 k6; have k0 := qq.c0; have k1 := qq.c1; have k2 := qq.c2; have k3 := qq.c3; have k4 := qq.c4; have k5 := qq.c5; have k6 := qq.c6; clear qq; clear hnil1 hgrow1)
                have O_3 : Hid (w1.ownsRow g0 3 1 (.slice (some ⟨g1, 0, none⟩) 3 c1) 3 (([4, 8, 5] : List Int).map (.int .i64))) := Lib.hid hown1
                have HB_3 : Hid (Below g0 wA w1) := Lib.hid hb1
                clear hown1 hb1 O5 HB5
                have HPL := Lib.hid (HPL0.out.trans (by simp [gateL, paddL, (show 0 < N by omega)] : _ = ([4, 8, 5] : List Int) ++ (List.replicate N 9 ++ [1])))
                clear HPL0
                try go_wp2_with fail
                go_loopw [6, 14] (fun x i wr => ∃ (k g cc : Nat), k ≤ N ∧ i = .int .i64 k ∧ x = .slice (some ⟨g, 0, none⟩) (3 + k) cc ∧ g0 ≤ g ∧ Hid (wr.ownsRow g0 3 1 (.slice (some ⟨g, 0, none⟩) (3 + k) cc) (3 + k) (([4, 8, 5] ++ List.replicate k 9 : List Int).map (.int .i64))) ∧ Hid (Below g0 wA wr)) (fun _ i _ => N - (intOf i).toNat)
                case atStart => exact ⟨0, _, _, Nat.zero_le _, rfl, rfl, by assumption, Lib.hid O_3.out, HB_3⟩
                case round =>
                  clear k0 k1 k2 k3 k4 k5 k6
                  clear O_3 HB_3
                  obtain ⟨k, gk, ck, hk, rfl, rfl, hgk, OK, HBK⟩ := hrel
                  by_cases hlt : (k : Int) < (N : Int)
                  · have HS := Lib.hid (repl_succ [4, 8, 5] k)
                    go_wp2_with (at_builtin; refine wpList_append_own _ rfl (.tmp 69) (.tmp 70) 34 rfl g0 3 i0 (.int .i64 0) 1 8 Try.underlying34 hi hz0 hz1 hz2 rfl (by decide) (.slice (some ⟨gk, 0, none⟩) (3 + k) ck) (3 + k) _ rfl (OK.out.alloc _) ⟨wr.heap.size, 0, none⟩ 1 1 [.int .i64 9] rfl rfl (cell_one_new _ _ _) (by simp [Value.oneCell']) (by unfold maxLen; omega) (by omega) (by have := (HBK.out).size; simp; omega) ?_; intro v1 w1 hown1 hgrow1 hnil1; obtain ⟨g1, c1, rfl, hg1⟩ := own_some hown1 (fun e => nomatch (hnil1.1 e).1); have hb1 := ((HBK.out.alloc (Nat.le_trans hgle HBK.out.size) (.cells #[.int .i64 9] 3))).grown hgrow1 (by have := (HBK.out).size; simp; omega) (fun q hq => by cases hq; assumption); clear hnil1 hgrow1 )
                    have O9 : Hid (w1.ownsRow g0 3 1 (.slice (some ⟨g1, 0, none⟩) (3 + (k + 1)) c1) (3 + (k + 1)) (([4, 8, 5] ++ List.replicate (k + 1) 9 : List Int).map (.int .i64))) := Lib.hid (by rw [HS.out, List.map_append]; exact hown1)
                    have HB9 : Hid (Below g0 wA w1) := Lib.hid hb1
                    clear hown1 hb1 OK HBK HS
                    go_roundw
                    case rel => exact ⟨k + 1, g1, c1, by omega, by go_num, rfl, hg1, O9, HB9⟩
                    case measure => simp [intOf]; omega
                  · obtain rfl : k = N := by omega
                    go_wp2_with (at_builtin; refine wpList_append_own _ rfl (.tmp 72) (.tmp 74) 34 rfl g0 3 i0 (.int .i64 0) 1 8 Try.underlying34 hi hz0 hz1 hz2 rfl (by decide) (.slice (some ⟨gk, 0, none⟩) (3 + k) ck) (3 + k) _ rfl (OK.out.alloc _) ⟨wr.heap.size, 0, none⟩ 1 1 [.int .i64 1] rfl rfl (cell_one_new _ _ _) (by simp [Value.oneCell']) (by unfold maxLen; omega) (by omega) (by have := (HBK.out).size; simp; omega) ?_; intro v1 w1 hown1 hgrow1 hnil1; obtain ⟨g1, c1, rfl, hg1⟩ := own_some hown1 (fun e => nomatch (hnil1.1 e).1); have hb1 := ((HBK.out.alloc (Nat.le_trans hgle HBK.out.size) (.cells #[.int .i64 1] 3))).grown hgrow1 (by have := (HBK.out).size; simp; omega) (fun q hq => by cases hq; assumption); clear hnil1 hgrow1 )
                    have O9 : Hid (w1.ownsRow g0 3 1 (.slice (some ⟨g1, 0, none⟩) (3 + k + 1) c1) ((3 + k + 1)) (([4, 8, 5] ++ List.replicate k 9 ++ [1] : List Int).map (.int .i64))) := Lib.hid (by rw [List.map_append]; exact hown1)
                    have HB9 : Hid (Below g0 wA w1) := Lib.hid hb1
                    clear hown1 hb1 OK HBK
                    try go_wp2_with fail
                    refine bodyPost_ret (results_tmp2 rfl _ _ _) rfl ?_
                    exact givesP_mk true HBA.out HG0.out O9.out HB9.out (by rw [HL.out, HPL.out] <;> simp) hm
            · obtain rfl : N = 0 := by omega
              have HPL := Lib.hid (HPL0.out.trans (by simp [gateL, paddL] : _ = ([4, 8, 1] : List Int)))
              clear HPL0 hN
              try go_wp2_with fail
              go_loopw [6, 14] (fun x i wr => i = .int .i64 0 ∧ x = .slice (some ⟨g1, 0, none⟩) 2 c1 ∧ Hid (wr.ownsRow g0 3 1 (.slice (some ⟨g1, 0, none⟩) 2 c1) 2 (([4, 8] : List Int).map (.int .i64))) ∧ Hid (Below g0 wA wr)) (fun _ _ _ => 0)
              case atStart => exact ⟨rfl, rfl, Lib.hid O5.out, HB5⟩
              case round =>
                clear k0 k1 k2 k3 k4 k5 k6
                clear O5 HB5
                obtain ⟨rfl, rfl, OK, HBK⟩ := hrel
                go_wp2_with (at_builtin; refine wpList_append_own _ rfl (.tmp 72) (.tmp 74) 34 rfl g0 3 i0 (.int .i64 0) 1 8 Try.underlying34 hi hz0 hz1 hz2 rfl (by decide) (.slice (some ⟨g1, 0, none⟩) (2) c1) (2) _ rfl (OK.out.alloc _) ⟨wr.heap.size, 0, none⟩ 1 1 [.int .i64 1] rfl rfl (cell_one_new _ _ _) (by simp [Value.oneCell']) (by unfold maxLen; omega) (by omega) (by have := (HBK.out).size; simp; omega) ?_; intro v1 w1 hown1 hgrow1 hnil1; obtain ⟨g1, c1, rfl, hg1⟩ := own_some hown1 (fun e => nomatch (hnil1.1 e).1); have hb1 := ((HBK.out.alloc (Nat.le_trans hgle HBK.out.size) (.cells #[.int .i64 1] 3))).grown hgrow1 (by have := (HBK.out).size; simp; omega) (fun q hq => by cases hq; assumption); clear hnil1 hgrow1 )
                have O9 : Hid (w1.ownsRow g0 3 1 (.slice (some ⟨g1, 0, none⟩) 3 c1) (3) (([4, 8, 1] : List Int).map (.int .i64))) := Lib.hid (hown1)
                have HB9 : Hid (Below g0 wA w1) := Lib.hid hb1
                clear hown1 hb1 OK HBK
                try go_wp2_with fail
                refine bodyPost_ret (results_tmp2 rfl _ _ _) rfl ?_
                exact givesP_mk true HBA.out HG0.out O9.out HB9.out (by rw [HL.out, HPL.out] <;> simp) hm
          | false =>
            have k0 := Q3.out.c0
            have k1 := Q3.out.c1
            have k2 := Q3.out.c2
            have k3 := Q3.out.c3
            have k4 := Q3.out.c4
            have k5 := Q3.out.c5
            have k6 := Q3.out.c6
            go_wp2_with (at_builtin; refine wpList_append_own _ rfl (.tmp 40) (.tmp 43) 34 rfl g0 3 i0 (.int .i64 0) 1 8 Try.underlying34 hi hz0 hz1 hz2 rfl (by decide) (.slice (some ⟨g0, 0, none⟩) (0) 0) (0) _ rfl (O3.out.alloc _) ⟨w3.heap.size, 0, none⟩ 1 1 [.int .i64 4] rfl rfl (cell_one_new _ _ _) (by simp [Value.oneCell']) (by unfold maxLen; omega) (by omega) (by have := (HB3.out).size; simp; omega) ?_; intro v1 w1 hown1 hgrow1 hnil1; obtain ⟨g1, c1, rfl, hg1⟩ := own_some hown1 (fun e => nomatch (hnil1.1 e).1); have hb1 := (HB3.out.alloc (Nat.le_trans hgle HB3.out.size) (.cells #[.int .i64 4] 3)).grown hgrow1 (by have := (HB3.out).size; simp; omega) (fun q hq => by cases hq; assumption); have qq := BoxL.below QA.out hb1 HXG.out; clear k0 k1 k2 k3 k4 k5 k6; have k0 := qq.c0; have k1 := qq.c1; have k2 := qq.c2; have k3 := qq.c3; have k4 := qq.c4; have k5 := qq.c5; have k6 := qq.c6; clear qq; clear hnil1 hgrow1)
            have O_1 : Hid (w1.ownsRow g0 3 1 (.slice (some ⟨g1, 0, none⟩) 1 c1) 1 (([4] : List Int).map (.int .i64))) := Lib.hid hown1
            have HB_1 : Hid (Below g0 wA w1) := Lib.hid hb1
            clear hown1 hb1 O3 HB3
            have CM2 := Lib.hid (fun W => CM.out false true c false false W)
            have hN40 := (minL_le (s := ⟨l, u, v, false, true, c, false⟩) hG false).1
            have HPL0 := Lib.hid (show planL ⟨l, u, v, false, true, c, false⟩ false = preL ⟨l, u, v, false, true, c, false⟩ false ++ (List.replicate (minL ⟨l, u, v, false, true, c, false⟩ false) 9 ++ [1]) from by simp [planL, gateL])
            unfold preL at HPL0
            generalize minL ⟨l, u, v, false, true, c, false⟩ false = N at CM2 hN40 HPL0
            clear CM hG
            refine (CM2.out _).mono ?_
            rintro e w5 ⟨rfl, hb⟩
            have O5 := Lib.hid (own_below O_1.out hb)
            have HB5 := Lib.hid (HB_1.out.trans (hb.mono (Nat.le_trans hgle HB_1.out.size)))
            clear hb O_1 HB_1 CM2
            have q5 := BoxL.below QA.out HB5.out HXG.out
            clear k0 k1 k2 k3 k4 k5 k6
            have k0 := q5.c0
            have k1 := q5.c1
            have k2 := q5.c2
            have k3 := q5.c3
            have k4 := q5.c4
            have k5 := q5.c5
            have k6 := q5.c6
            clear q5
            have hN0 : (0 : Int) ≤ (N : Int) := by omega
            have hNb : (N : Int) ≤ 40 := by omega
            by_cases hN : 0 < (N : Int)
            · cases c with
              | true =>
                have HPL := Lib.hid (HPL0.out.trans (by simp [gateL, paddL, (show 0 < N by omega)] : _ = ([4] : List Int) ++ (List.replicate N 9 ++ [1])))
                clear HPL0
                try go_wp2_with fail
                go_loopw [6, 14] (fun x i wr => ∃ (k g cc : Nat), k ≤ N ∧ i = .int .i64 k ∧ x = .slice (some ⟨g, 0, none⟩) (1 + k) cc ∧ g0 ≤ g ∧ Hid (wr.ownsRow g0 3 1 (.slice (some ⟨g, 0, none⟩) (1 + k) cc) (1 + k) (([4] ++ List.replicate k 9 : List Int).map (.int .i64))) ∧ Hid (Below g0 wA wr)) (fun _ i _ => N - (intOf i).toNat)
                case atStart => exact ⟨0, _, _, Nat.zero_le _, rfl, rfl, by assumption, Lib.hid O5.out, HB5⟩
                case round =>
                  clear k0 k1 k2 k3 k4 k5 k6
                  clear O5 HB5
                  obtain ⟨k, gk, ck, hk, rfl, rfl, hgk, OK, HBK⟩ := hrel
                  by_cases hlt : (k : Int) < (N : Int)
                  · have HS := Lib.hid (repl_succ [4] k)
                    go_wp2_with (at_builtin; refine wpList_append_own _ rfl (.tmp 69) (.tmp 70) 34 rfl g0 3 i0 (.int .i64 0) 1 8 Try.underlying34 hi hz0 hz1 hz2 rfl (by decide) (.slice (some ⟨gk, 0, none⟩) (1 + k) ck) (1 + k) _ rfl (OK.out.alloc _) ⟨wr.heap.size, 0, none⟩ 1 1 [.int .i64 9] rfl rfl (cell_one_new _ _ _) (by simp [Value.oneCell']) (by unfold maxLen; omega) (by omega) (by have := (HBK.out).size; simp; omega) ?_; intro v1 w1 hown1 hgrow1 hnil1; obtain ⟨g1, c1, rfl, hg1⟩ := own_some hown1 (fun e => nomatch (hnil1.1 e).1); have hb1 := ((HBK.out.alloc (Nat.le_trans hgle HBK.out.size) (.cells #[.int .i64 9] 3))).grown hgrow1 (by have := (HBK.out).size; simp; omega) (fun q hq => by cases hq; assumption); clear hnil1 hgrow1 )
                    have O9 : Hid (w1.ownsRow g0 3 1 (.slice (some ⟨g1, 0, none⟩) (1 + (k + 1)) c1) (1 + (k + 1)) (([4] ++ List.replicate (k + 1) 9 : List Int).map (.int .i64))) := Lib.hid (by rw [HS.out, List.map_append]; exact hown1)
                    have HB9 : Hid (Below g0 wA w1) := Lib.hid hb1
                    clear hown1 hb1 OK HBK HS
                    go_roundw
                    case rel => exact ⟨k + 1, g1, c1, by omega, by go_num, rfl, hg1, O9, HB9⟩
                    case measure => simp [intOf]; omega
                  · obtain rfl : k = N := by omega
                    go_wp2_with (at_builtin; refine wpList_append_own _ rfl (.tmp 72) (.tmp 74) 34 rfl g0 3 i0 (.int .i64 0) 1 8 Try.underlying34 hi hz0 hz1 hz2 rfl (by decide) (.slice (some ⟨gk, 0, none⟩) (1 + k) ck) (1 + k) _ rfl (OK.out.alloc _) ⟨wr.heap.size, 0, none⟩ 1 1 [.int .i64 1] rfl rfl (cell_one_new _ _ _) (by simp [Value.oneCell']) (by unfold maxLen; omega) (by omega) (by have := (HBK.out).size; simp; omega) ?_; intro v1 w1 hown1 hgrow1 hnil1; obtain ⟨g1, c1, rfl, hg1⟩ := own_some hown1 (fun e => nomatch (hnil1.1 e).1); have hb1 := ((HBK.out.alloc (Nat.le_trans hgle HBK.out.size) (.cells #[.int .i64 1] 3))).grown hgrow1 (by have := (HBK.out).size; simp; omega) (fun q hq => by cases hq; assumption); clear hnil1 hgrow1 )
                    have O9 : Hid (w1.ownsRow g0 3 1 (.slice (some ⟨g1, 0, none⟩) (1 + k + 1) c1) ((1 + k + 1)) (([4] ++ List.replicate k 9 ++ [1] : List Int).map (.int .i64))) := Lib.hid (by rw [List.map_append]; exact hown1)
                    have HB9 : Hid (Below g0 wA w1) := Lib.hid hb1
                    clear hown1 hb1 OK HBK
                    try go_wp2_with fail
                    refine bodyPost_ret (results_tmp2 rfl _ _ _) rfl ?_
                    exact givesP_mk true HBA.out HG0.out O9.out HB9.out (by rw [HL.out, HPL.out] <;> simp) hm
              | false =>
                go_wp2_with (at_builtin; refine wpList_append_own _ rfl (.tmp 60) (.tmp 62) 34 rfl g0 3 i0 (.int .i64 0) 1 8 Try.underlying34 hi hz0 hz1 hz2 rfl (by decide) (.slice (some ⟨g1, 0, none⟩) (1) c1) (1) _ rfl (O5.out.alloc _) ⟨w5.heap.size, 0, none⟩ 1 1 [.int .i64 5] rfl rfl (cell_one_new _ _ _) (by simp [Value.oneCell']) (by unfold maxLen; omega) (by omega) (by have := (HB5.out).size; simp; omega) ?_; intro v1 w1 hown1 hgrow1 hnil1; obtain ⟨g1, c1, rfl, hg1⟩ := own_some hown1 (fun e => nomatch (hnil1.1 e).1); have hb1 := (HB5.out.alloc (Nat.le_trans hgle HB5.out.size) (.cells #[.int .i64 5] 3)).grown hgrow1 (by have := (HB5.out).size; simp; omega) (fun q hq => by cases hq; assumption); have qq := BoxL.below QA.out hb1 HXG.out; clear k0 k1 k2 k3 k4 k5 k6; have k0 := qq.c0; have k1 := qq.c1; have k2 := qq.c2; have k3 := qq.c3; have k4 := qq.c4; have k5 := qq.c5; have k6 := qq.c6; clear qq; clear hnil1 hgrow1)
                have O_2 : Hid (w1.ownsRow g0 3 1 (.slice (some ⟨g1, 0, none⟩) 2 c1) 2 (([4, 5] : List Int).map (.int .i64))) := Lib.hid hown1
                have HB_2 : Hid (Below g0 wA w1) := Lib.hid hb1
                clear hown1 hb1 O5 HB5
                have HPL := Lib.hid (HPL0.out.trans (by simp [gateL, paddL, (show 0 < N by omega)] : _ = ([4, 5] : List Int) ++ (List.replicate N 9 ++ [1])))
                clear HPL0
                try go_wp2_with fail
                go_loopw [6, 14] (fun x i wr => ∃ (k g cc : Nat), k ≤ N ∧ i = .int .i64 k ∧ x = .slice (some ⟨g, 0, none⟩) (2 + k) cc ∧ g0 ≤ g ∧ Hid (wr.ownsRow g0 3 1 (.slice (some ⟨g, 0, none⟩) (2 + k) cc) (2 + k) (([4, 5] ++ List.replicate k 9 : List Int).map (.int .i64))) ∧ Hid (Below g0 wA wr)) (fun _ i _ => N - (intOf i).toNat)
                case atStart => exact ⟨0, _, _, Nat.zero_le _, rfl, rfl, by assumption, Lib.hid O_2.out, HB_2⟩
                case round =>
                  clear k0 k1 k2 k3 k4 k5 k6
                  clear O_2 HB_2
                  obtain ⟨k, gk, ck, hk, rfl, rfl, hgk, OK, HBK⟩ := hrel
                  by_cases hlt : (k : Int) < (N : Int)
                  · have HS := Lib.hid (repl_succ [4, 5] k)
                    go_wp2_with (at_builtin; refine wpList_append_own _ rfl (.tmp 69) (.tmp 70) 34 rfl g0 3 i0 (.int .i64 0) 1 8 Try.underlying34 hi hz0 hz1 hz2 rfl (by decide) (.slice (some ⟨gk, 0, none⟩) (2 + k) ck) (2 + k) _ rfl (OK.out.alloc _) ⟨wr.heap.size, 0, none⟩ 1 1 [.int .i64 9] rfl rfl (cell_one_new _ _ _) (by simp [Value.oneCell']) (by unfold maxLen; omega) (by omega) (by have := (HBK.out).size; simp; omega) ?_; intro v1 w1 hown1 hgrow1 hnil1; obtain ⟨g1, c1, rfl, hg1⟩ := own_some hown1 (fun e => nomatch (hnil1.1 e).1); have hb1 := ((HBK.out.alloc (Nat.le_trans hgle HBK.out.size) (.cells #[.int .i64 9] 3))).grown hgrow1 (by have := (HBK.out).size; simp; omega) (fun q hq => by cases hq; assumption); clear hnil1 hgrow1 )
                    have O9 : Hid (w1.ownsRow g0 3 1 (.slice (some ⟨g1, 0, none⟩) (2 + (k + 1)) c1) (2 + (k + 1)) (([4, 5] ++ List.replicate (k + 1) 9 : List Int).map (.int .i64))) := Lib.hid (by rw [HS.out, List.map_append]; exact hown1)
                    have HB9 : Hid (Below g0 wA w1) := Lib.hid hb1
                    clear hown1 hb1 OK HBK HS
                    go_roundw
                    case rel => exact ⟨k + 1, g1, c1, by omega, by go_num, rfl, hg1, O9, HB9⟩
                    case measure => simp [intOf]; omega
                  · obtain rfl : k = N := by omega
                    go_wp2_with (at_builtin; refine wpList_append_own _ rfl (.tmp 72) (.tmp 74) 34 rfl g0 3 i0 (.int .i64 0) 1 8 Try.underlying34 hi hz0 hz1 hz2 rfl (by decide) (.slice (some ⟨gk, 0, none⟩) (2 + k) ck) (2 + k) _ rfl (OK.out.alloc _) ⟨wr.heap.size, 0, none⟩ 1 1 [.int .i64 1] rfl rfl (cell_one_new _ _ _) (by simp [Value.oneCell']) (by unfold maxLen; omega) (by omega) (by have := (HBK.out).size; simp; omega) ?_; intro v1 w1 hown1 hgrow1 hnil1; obtain ⟨g1, c1, rfl, hg1⟩ := own_some hown1 (fun e => nomatch (hnil1.1 e).1); have hb1 := ((HBK.out.alloc (Nat.le_trans hgle HBK.out.size) (.cells #[.int .i64 1] 3))).grown hgrow1 (by have := (HBK.out).size; simp; omega) (fun q hq => by cases hq; assumption); clear hnil1 hgrow1 )
                    have O9 : Hid (w1.ownsRow g0 3 1 (.slice (some ⟨g1, 0, none⟩) (2 + k + 1) c1) ((2 + k + 1)) (([4, 5] ++ List.replicate k 9 ++ [1] : List Int).map (.int .i64))) := Lib.hid (by rw [List.map_append]; exact hown1)
                    have HB9 : Hid (Below g0 wA w1) := Lib.hid hb1
                    clear hown1 hb1 OK HBK
                    try go_wp2_with fail
                    refine bodyPost_ret (results_tmp2 rfl _ _ _) rfl ?_
                    exact givesP_mk true HBA.out HG0.out O9.out HB9.out (by rw [HL.out, HPL.out] <;> simp) hm
            · obtain rfl : N = 0 := by omega
              have HPL := Lib.hid (HPL0.out.trans (by simp [gateL, paddL] : _ = ([4, 1] : List Int)))
              clear HPL0 hN
              try go_wp2_with fail
              go_loopw [6, 14] (fun x i wr => i = .int .i64 0 ∧ x = .slice (some ⟨g1, 0, none⟩) 1 c1 ∧ Hid (wr.ownsRow g0 3 1 (.slice (some ⟨g1, 0, none⟩) 1 c1) 1 (([4] : List Int).map (.int .i64))) ∧ Hid (Below g0 wA wr)) (fun _ _ _ => 0)
              case atStart => exact ⟨rfl, rfl, Lib.hid O5.out, HB5⟩
              case round =>
                clear k0 k1 k2 k3 k4 k5 k6
                clear O5 HB5
                obtain ⟨rfl, rfl, OK, HBK⟩ := hrel
                go_wp2_with (at_builtin; refine wpList_append_own _ rfl (.tmp 72) (.tmp 74) 34 rfl g0 3 i0 (.int .i64 0) 1 8 Try.underlying34 hi hz0 hz1 hz2 rfl (by decide) (.slice (some ⟨g1, 0, none⟩) (1) c1) (1) _ rfl (OK.out.alloc _) ⟨wr.heap.size, 0, none⟩ 1 1 [.int .i64 1] rfl rfl (cell_one_new _ _ _) (by simp [Value.oneCell']) (by unfold maxLen; omega) (by omega) (by have := (HBK.out).size; simp; omega) ?_; intro v1 w1 hown1 hgrow1 hnil1; obtain ⟨g1, c1, rfl, hg1⟩ := own_some hown1 (fun e => nomatch (hnil1.1 e).1); have hb1 := ((HBK.out.alloc (Nat.le_trans hgle HBK.out.size) (.cells #[.int .i64 1] 3))).grown hgrow1 (by have := (HBK.out).size; simp; omega) (fun q hq => by cases hq; assumption); clear hnil1 hgrow1 )
                have O9 : Hid (w1.ownsRow g0 3 1 (.slice (some ⟨g1, 0, none⟩) 2 c1) (2) (([4, 1] : List Int).map (.int .i64))) := Lib.hid (hown1)
                have HB9 : Hid (Below g0 wA w1) := Lib.hid hb1
                clear hown1 hb1 OK HBK
                try go_wp2_with fail
                refine bodyPost_ret (results_tmp2 rfl _ _ _) rfl ?_
                exact givesP_mk true HBA.out HG0.out O9.out HB9.out (by rw [HL.out, HPL.out] <;> simp) hm
        | false =>
          cases d with
          | true =>
            have k0 := Q3.out.c0
            have k1 := Q3.out.c1
            have k2 := Q3.out.c2
            have k3 := Q3.out.c3
            have k4 := Q3.out.c4
            have k5 := Q3.out.c5
            have k6 := Q3.out.c6
            go_wp2_with (at_builtin; refine wpList_append_own _ rfl (.tmp 46) (.tmp 49) 34 rfl g0 3 i0 (.int .i64 0) 1 8 Try.underlying34 hi hz0 hz1 hz2 rfl (by decide) (.slice (some ⟨g0, 0, none⟩) (0) 0) (0) _ rfl (O3.out.alloc _) ⟨w3.heap.size, 0, none⟩ 1 1 [.int .i64 8] rfl rfl (cell_one_new _ _ _) (by simp [Value.oneCell']) (by unfold maxLen; omega) (by omega) (by have := (HB3.out).size; simp; omega) ?_; intro v1 w1 hown1 hgrow1 hnil1; obtain ⟨g1, c1, rfl, hg1⟩ := own_some hown1 (fun e => nomatch (hnil1.1 e).1); have hb1 := (HB3.out.alloc (Nat.le_trans hgle HB3.out.size) (.cells #[.int .i64 8] 3)).grown hgrow1 (by have := (HB3.out).size; simp; omega) (fun q hq => by cases hq; assumption); have qq := BoxL.below QA.out hb1 HXG.out; clear k0 k1 k2 k3 k4 k5 k6; have k0 := qq.c0; have k1 := qq.c1; have k2 := qq.c2; have k3 := qq.c3; have k4 := qq.c4; have k5 := qq.c5; have k6 := qq.c6; clear qq; clear hnil1 hgrow1)
            have O_1 : Hid (w1.ownsRow g0 3 1 (.slice (some ⟨g1, 0, none⟩) 1 c1) 1 (([8] : List Int).map (.int .i64))) := Lib.hid hown1
            have HB_1 : Hid (Below g0 wA w1) := Lib.hid hb1
            clear hown1 hb1 O3 HB3
            have CM2 := Lib.hid (fun W => CM.out false false c true false W)
            have hN40 := (minL_le (s := ⟨l, u, v, false, false, c, true⟩) hG false).1
            have HPL0 := Lib.hid (show planL ⟨l, u, v, false, false, c, true⟩ false = preL ⟨l, u, v, false, false, c, true⟩ false ++ (List.replicate (minL ⟨l, u, v, false, false, c, true⟩ false) 9 ++ [1]) from by simp [planL, gateL])
            unfold preL at HPL0
            generalize minL ⟨l, u, v, false, false, c, true⟩ false = N at CM2 hN40 HPL0
            clear CM hG
            refine (CM2.out _).mono ?_
            rintro e w5 ⟨rfl, hb⟩
            have O5 := Lib.hid (own_below O_1.out hb)
            have HB5 := Lib.hid (HB_1.out.trans (hb.mono (Nat.le_trans hgle HB_1.out.size)))
            clear hb O_1 HB_1 CM2
            have q5 := BoxL.below QA.out HB5.out HXG.out
            clear k0 k1 k2 k3 k4 k5 k6
            have k0 := q5.c0
            have k1 := q5.c1
            have k2 := q5.c2
            have k3 := q5.c3
            have k4 := q5.c4
            have k5 := q5.c5
            have k6 := q5.c6
            clear q5
            have hN0 : (0 : Int) ≤ (N : Int) := by omega
            have hNb : (N : Int) ≤ 40 := by omega
            by_cases hN : 0 < (N : Int)
            · cases c with
              | true =>
                have HPL := Lib.hid (HPL0.out.trans (by simp [gateL, paddL, (show 0 < N by omega)] : _ = ([8] : List Int) ++ (List.replicate N 9 ++ [1])))
                clear HPL0
                try go_wp2_with fail
                go_loopw [6, 14] (fun x i wr => ∃ (k g cc : Nat), k ≤ N ∧ i = .int .i64 k ∧ x = .slice (some ⟨g, 0, none⟩) (1 + k) cc ∧ g0 ≤ g ∧ Hid (wr.ownsRow g0 3 1 (.slice (some ⟨g, 0, none⟩) (1 + k) cc) (1 + k) (([8] ++ List.replicate k 9 : List Int).map (.int .i64))) ∧ Hid (Below g0 wA wr)) (fun _ i _ => N - (intOf i).toNat)
                case atStart => exact ⟨0, _, _, Nat.zero_le _, rfl, rfl, by assumption, Lib.hid O5.out, HB5⟩
                case round =>
                  clear k0 k1 k2 k3 k4 k5 k6
                  clear O5 HB5
                  obtain ⟨k, gk, ck, hk, rfl, rfl, hgk, OK, HBK⟩ := hrel
                  by_cases hlt : (k : Int) < (N : Int)
                  · have HS := Lib.hid (repl_succ [8] k)
                    go_wp2_with (at_builtin; refine wpList_append_own _ rfl (.tmp 69) (.tmp 70) 34 rfl g0 3 i0 (.int .i64 0) 1 8 Try.underlying34 hi hz0 hz1 hz2 rfl (by decide) (.slice (some ⟨gk, 0, none⟩) (1 + k) ck) (1 + k) _ rfl (OK.out.alloc _) ⟨wr.heap.size, 0, none⟩ 1 1 [.int .i64 9] rfl rfl (cell_one_new _ _ _) (by simp [Value.oneCell']) (by unfold maxLen; omega) (by omega) (by have := (HBK.out).size; simp; omega) ?_; intro v1 w1 hown1 hgrow1 hnil1; obtain ⟨g1, c1, rfl, hg1⟩ := own_some hown1 (fun e => nomatch (hnil1.1 e).1); have hb1 := ((HBK.out.alloc (Nat.le_trans hgle HBK.out.size) (.cells #[.int .i64 9] 3))).grown hgrow1 (by have := (HBK.out).size; simp; omega) (fun q hq => by cases hq; assumption); clear hnil1 hgrow1 )
                    have O9 : Hid (w1.ownsRow g0 3 1 (.slice (some ⟨g1, 0, none⟩) (1 + (k + 1)) c1) (1 + (k + 1)) (([8] ++ List.replicate (k + 1) 9 : List Int).map (.int .i64))) := Lib.hid (by rw [HS.out, List.map_append]; exact hown1)
                    have HB9 : Hid (Below g0 wA w1) := Lib.hid hb1
                    clear hown1 hb1 OK HBK HS
                    go_roundw
                    case rel => exact ⟨k + 1, g1, c1, by omega, by go_num, rfl, hg1, O9, HB9⟩
                    case measure => simp [intOf]; omega
                  · obtain rfl : k = N := by omega
                    go_wp2_with (at_builtin; refine wpList_append_own _ rfl (.tmp 72) (.tmp 74) 34 rfl g0 3 i0 (.int .i64 0) 1 8 Try.underlying34 hi hz0 hz1 hz2 rfl (by decide) (.slice (some ⟨gk, 0, none⟩) (1 + k) ck) (1 + k) _ rfl (OK.out.alloc _) ⟨wr.heap.size, 0, none⟩ 1 1 [.int .i64 1] rfl rfl (cell_one_new _ _ _) (by simp [Value.oneCell']) (by unfold maxLen; omega) (by omega) (by have := (HBK.out).size; simp; omega) ?_; intro v1 w1 hown1 hgrow1 hnil1; obtain ⟨g1, c1, rfl, hg1⟩ := own_some hown1 (fun e => nomatch (hnil1.1 e).1); have hb1 := ((HBK.out.alloc (Nat.le_trans hgle HBK.out.size) (.cells #[.int .i64 1] 3))).grown hgrow1 (by have := (HBK.out).size; simp; omega) (fun q hq => by cases hq; assumption); clear hnil1 hgrow1 )
                    have O9 : Hid (w1.ownsRow g0 3 1 (.slice (some ⟨g1, 0, none⟩) (1 + k + 1) c1) ((1 + k + 1)) (([8] ++ List.replicate k 9 ++ [1] : List Int).map (.int .i64))) := Lib.hid (by rw [List.map_append]; exact hown1)
                    have HB9 : Hid (Below g0 wA w1) := Lib.hid hb1
                    clear hown1 hb1 OK HBK
                    try go_wp2_with fail
                    refine bodyPost_ret (results_tmp2 rfl _ _ _) rfl ?_
                    exact givesP_mk true HBA.out HG0.out O9.out HB9.out (by rw [HL.out, HPL.out] <;> simp) hm
              | false =>
                go_wp2_with (at_builtin; refine wpList_append_own _ rfl (.tmp 60) (.tmp 62) 34 rfl g0 3 i0 (.int .i64 0) 1 8 Try.underlying34 hi hz0 hz1 hz2 rfl (by decide) (.slice (some ⟨g1, 0, none⟩) (1) c1) (1) _ rfl (O5.out.alloc _) ⟨w5.heap.size, 0, none⟩ 1 1 [.int .i64 5] rfl rfl (cell_one_new _ _ _) (by simp [Value.oneCell']) (by unfold maxLen; omega) (by omega) (by have := (HB5.out).size; simp; omega) ?_; intro v1 w1 hown1 hgrow1 hnil1; obtain ⟨g1, c1, rfl, hg1⟩ := own_some hown1 (fun e => nomatch (hnil1.1 e).1); have hb1 := (HB5.out.alloc (Nat.le_trans hgle HB5.out.size) (.cells #[.int .i64 5] 3)).grown hgrow1 (by have := (HB5.out).size; simp; omega) (fun q hq => by cases hq; assumption); have qq := BoxL.below QA.out hb1 HXG.out; clear k0 k1 k2 k3 k4 k5 k6; have k0 := qq.c0; have k1 := qq.c1; have k2 := qq.c2; have k3 := qq.c3; have k4 := qq.c4; have k5 := qq.c5; have k6 := qq.c6; clear qq; clear hnil1 hgrow1)
                have O_2 : Hid (w1.ownsRow g0 3 1 (.slice (some ⟨g1, 0, none⟩) 2 c1) 2 (([8, 5] : List Int).map (.int .i64))) := Lib.hid hown1
                have HB_2 : Hid (Below g0 wA w1) := Lib.hid hb1
                clear hown1 hb1 O5 HB5
                have HPL := Lib.hid (HPL0.out.trans (by simp [gateL, paddL, (show 0 < N by omega)] : _ = ([8, 5] : List Int) ++ (List.replicate N 9 ++ [1])))
                clear HPL0
                try go_wp2_with fail
                go_loopw [6, 14] (fun x i wr => ∃ (k g cc : Nat), k ≤ N ∧ i = .int .i64 k ∧ x = .slice (some ⟨g, 0, none⟩) (2 + k) cc ∧ g0 ≤ g ∧ Hid (wr.ownsRow g0 3 1 (.slice (some ⟨g, 0, none⟩) (2 + k) cc) (2 + k) (([8, 5] ++ List.replicate k 9 : List Int).map (.int .i64))) ∧ Hid (Below g0 wA wr)) (fun _ i _ => N - (intOf i).toNat)
                case atStart => exact ⟨0, _, _, Nat.zero_le _, rfl, rfl, by assumption, Lib.hid O_2.out, HB_2⟩
                case round =>
                  clear k0 k1 k2 k3 k4 k5 k6
                  clear O_2 HB_2
                  obtain ⟨k, gk, ck, hk, rfl, rfl, hgk, OK, HBK⟩ := hrel
                  by_cases hlt : (k : Int) < (N : Int)
                  · have HS := Lib.hid (repl_succ [8, 5] k)
                    go_wp2_with (at_builtin; refine wpList_append_own _ rfl (.tmp 69) (.tmp 70) 34 rfl g0 3 i0 (.int .i64 0) 1 8 Try.underlying34 hi hz0 hz1 hz2 rfl (by decide) (.slice (some ⟨gk, 0, none⟩) (2 + k) ck) (2 + k) _ rfl (OK.out.alloc _) ⟨wr.heap.size, 0, none⟩ 1 1 [.int .i64 9] rfl rfl (cell_one_new _ _ _) (by simp [Value.oneCell']) (by unfold maxLen; omega) (by omega) (by have := (HBK.out).size; simp; omega) ?_; intro v1 w1 hown1 hgrow1 hnil1; obtain ⟨g1, c1, rfl, hg1⟩ := own_some hown1 (fun e => nomatch (hnil1.1 e).1); have hb1 := ((HBK.out.alloc (Nat.le_trans hgle HBK.out.size) (.cells #[.int .i64 9] 3))).grown hgrow1 (by have := (HBK.out).size; simp; omega) (fun q hq => by cases hq; assumption); clear hnil1 hgrow1 )
                    have O9 : Hid (w1.ownsRow g0 3 1 (.slice (some ⟨g1, 0, none⟩) (2 + (k + 1)) c1) (2 + (k + 1)) (([8, 5] ++ List.replicate (k + 1) 9 : List Int).map (.int .i64))) := Lib.hid (by rw [HS.out, List.map_append]; exact hown1)
                    have HB9 : Hid (Below g0 wA w1) := Lib.hid hb1
                    clear hown1 hb1 OK HBK HS
                    go_roundw
                    case rel => exact ⟨k + 1, g1, c1, by omega, by go_num, rfl, hg1, O9, HB9⟩
                    case measure => simp [intOf]; omega
                  · obtain rfl : k = N := by omega
                    go_wp2_with (at_builtin; refine wpList_append_own _ rfl (.tmp 72) (.tmp 74) 34 rfl g0 3 i0 (.int .i64 0) 1 8 Try.underlying34 hi hz0 hz1 hz2 rfl (by decide) (.slice (some ⟨gk, 0, none⟩) (2 + k) ck) (2 + k) _ rfl (OK.out.alloc _) ⟨wr.heap.size, 0, none⟩ 1 1 [.int .i64 1] rfl rfl (cell_one_new _ _ _) (by simp [Value.oneCell']) (by unfold maxLen; omega) (by omega) (by have := (HBK.out).size; simp; omega) ?_; intro v1 w1 hown1 hgrow1 hnil1; obtain ⟨g1, c1, rfl, hg1⟩ := own_some hown1 (fun e => nomatch (hnil1.1 e).1); have hb1 := ((HBK.out.alloc (Nat.le_trans hgle HBK.out.size) (.cells #[.int .i64 1] 3))).grown hgrow1 (by have := (HBK.out).size; simp; omega) (fun q hq => by cases hq; assumption); clear hnil1 hgrow1 )
                    have O9 : Hid (w1.ownsRow g0 3 1 (.slice (some ⟨g1, 0, none⟩) (2 + k + 1) c1) ((2 + k + 1)) (([8, 5] ++ List.replicate k 9 ++ [1] : List Int).map (.int .i64))) := Lib.hid (by rw [List.map_append]; exact hown1)
                    have HB9 : Hid (Below g0 wA w1) := Lib.hid hb1
                    clear hown1 hb1 OK HBK
                    try go_wp2_with fail
                    refine bodyPost_ret (results_tmp2 rfl _ _ _) rfl ?_
                    exact givesP_mk true HBA.out HG0.out O9.out HB9.out (by rw [HL.out, HPL.out] <;> simp) hm
            · obtain rfl : N = 0 := by omega
              have HPL := Lib.hid (HPL0.out.trans (by simp [gateL, paddL] : _ = ([8, 1] : List Int)))
              clear HPL0 hN
              try go_wp2_with fail
              go_loopw [6, 14] (fun x i wr => i = .int .i64 0 ∧ x = .slice (some ⟨g1, 0, none⟩) 1 c1 ∧ Hid (wr.ownsRow g0 3 1 (.slice (some ⟨g1, 0, none⟩) 1 c1) 1 (([8] : List Int).map (.int .i64))) ∧ Hid (Below g0 wA wr)) (fun _ _ _ => 0)
              case atStart => exact ⟨rfl, rfl, Lib.hid O5.out, HB5⟩
              case round =>
                clear k0 k1 k2 k3 k4 k5 k6
                clear O5 HB5
                obtain ⟨rfl, rfl, OK, HBK⟩ := hrel
                go_wp2_with (at_builtin; refine wpList_append_own _ rfl (.tmp 72) (.tmp 74) 34 rfl g0 3 i0 (.int .i64 0) 1 8 Try.underlying34 hi hz0 hz1 hz2 rfl (by decide) (.slice (some ⟨g1, 0, none⟩) (1) c1) (1) _ rfl (OK.out.alloc _) ⟨wr.heap.size, 0, none⟩ 1 1 [.int .i64 1] rfl rfl (cell_one_new _ _ _) (by simp [Value.oneCell']) (by unfold maxLen; omega) (by omega) (by have := (HBK.out).size; simp; omega) ?_; intro v1 w1 hown1 hgrow1 hnil1; obtain ⟨g1, c1, rfl, hg1⟩ := own_some hown1 (fun e => nomatch (hnil1.1 e).1); have hb1 := ((HBK.out.alloc (Nat.le_trans hgle HBK.out.size) (.cells #[.int .i64 1] 3))).grown hgrow1 (by have := (HBK.out).size; simp; omega) (fun q hq => by cases hq; assumption); clear hnil1 hgrow1 )
                have O9 : Hid (w1.ownsRow g0 3 1 (.slice (some ⟨g1, 0, none⟩) 2 c1) (2) (([8, 1] : List Int).map (.int .i64))) := Lib.hid (hown1)
                have HB9 : Hid (Below g0 wA w1) := Lib.hid hb1
                clear hown1 hb1 OK HBK
                try go_wp2_with fail
                refine bodyPost_ret (results_tmp2 rfl _ _ _) rfl ?_
                exact givesP_mk true HBA.out HG0.out O9.out HB9.out (by rw [HL.out, HPL.out] <;> simp) hm
          | false =>
            have k0 := Q3.out.c0
            have k1 := Q3.out.c1
            have k2 := Q3.out.c2
            have k3 := Q3.out.c3
            have k4 := Q3.out.c4
            have k5 := Q3.out.c5
            have k6 := Q3.out.c6
            go_wp2_with fail
            have CM2 := Lib.hid (fun W => CM.out false false c false false W)
            have hN40 := (minL_le (s := ⟨l, u, v, false, false, c, false⟩) hG false).1
            have HPL0 := Lib.hid (show planL ⟨l, u, v, false, false, c, false⟩ false = preL ⟨l, u, v, false, false, c, false⟩ false ++ (List.replicate (minL ⟨l, u, v, false, false, c, false⟩ false) 9 ++ [1]) from by simp [planL, gateL])
            unfold preL at HPL0
            generalize minL ⟨l, u, v, false, false, c, false⟩ false = N at CM2 hN40 HPL0
            clear CM hG
            refine (CM2.out _).mono ?_
            rintro e w5 ⟨rfl, hb⟩
            have O5 := Lib.hid (own_below O3.out hb)
            have HB5 := Lib.hid (HB3.out.trans (hb.mono (Nat.le_trans hgle HB3.out.size)))
            clear hb O3 HB3 CM2
            have q5 := BoxL.below QA.out HB5.out HXG.out
            clear k0 k1 k2 k3 k4 k5 k6
            have k0 := q5.c0
            have k1 := q5.c1
            have k2 := q5.c2
            have k3 := q5.c3
            have k4 := q5.c4
            have k5 := q5.c5
            have k6 := q5.c6
            clear q5
            have hN0 : (0 : Int) ≤ (N : Int) := by omega
            have hNb : (N : Int) ≤ 40 := by omega
            by_cases hN : 0 < (N : Int)
            · cases c with
              | true =>
                have HPL := Lib.hid (HPL0.out.trans (by simp [gateL, paddL, (show 0 < N by omega)] : _ = ([] : List Int) ++ (List.replicate N 9 ++ [1])))
                clear HPL0
                try go_wp2_with fail
                go_loopw [6, 14] (fun x i wr => ∃ (k g cc : Nat), k ≤ N ∧ i = .int .i64 k ∧ x = .slice (some ⟨g, 0, none⟩) (k) cc ∧ g0 ≤ g ∧ Hid (wr.ownsRow g0 3 1 (.slice (some ⟨g, 0, none⟩) (k) cc) (k) (([] ++ List.replicate k 9 : List Int).map (.int .i64))) ∧ Hid (Below g0 wA wr)) (fun _ i _ => N - (intOf i).toNat)
                case atStart => exact ⟨0, _, _, Nat.zero_le _, rfl, rfl, by assumption, Lib.hid O5.out, HB5⟩
                case round =>
                  clear k0 k1 k2 k3 k4 k5 k6
                  clear O5 HB5
                  obtain ⟨k, gk, ck, hk, rfl, rfl, hgk, OK, HBK⟩ := hrel
                  by_cases hlt : (k : Int) < (N : Int)
                  · have HS := Lib.hid (repl_succ [] k)
                    go_wp2_with (at_builtin; refine wpList_append_own _ rfl (.tmp 69) (.tmp 70) 34 rfl g0 3 i0 (.int .i64 0) 1 8 Try.underlying34 hi hz0 hz1 hz2 rfl (by decide) (.slice (some ⟨gk, 0, none⟩) (k) ck) (k) _ rfl (OK.out.alloc _) ⟨wr.heap.size, 0, none⟩ 1 1 [.int .i64 9] rfl rfl (cell_one_new _ _ _) (by simp [Value.oneCell']) (by unfold maxLen; omega) (by omega) (by have := (HBK.out).size; simp; omega) ?_; intro v1 w1 hown1 hgrow1 hnil1; obtain ⟨g1, c1, rfl, hg1⟩ := own_some hown1 (fun e => nomatch (hnil1.1 e).1); have hb1 := ((HBK.out.alloc (Nat.le_trans hgle HBK.out.size) (.cells #[.int .i64 9] 3))).grown hgrow1 (by have := (HBK.out).size; simp; omega) (fun q hq => by cases hq; assumption); clear hnil1 hgrow1 )
                    have O9 : Hid (w1.ownsRow g0 3 1 (.slice (some ⟨g1, 0, none⟩) (k + 1) c1) (k + 1) (([] ++ List.replicate (k + 1) 9 : List Int).map (.int .i64))) := Lib.hid (by rw [HS.out, List.map_append]; exact hown1)
                    have HB9 : Hid (Below g0 wA w1) := Lib.hid hb1
                    clear hown1 hb1 OK HBK HS
                    go_roundw
                    case rel => exact ⟨k + 1, g1, c1, by omega, by go_num, rfl, hg1, O9, HB9⟩
                    case measure => simp [intOf]; omega
                  · obtain rfl : k = N := by omega
                    go_wp2_with (at_builtin; refine wpList_append_own _ rfl (.tmp 72) (.tmp 74) 34 rfl g0 3 i0 (.int .i64 0) 1 8 Try.underlying34 hi hz0 hz1 hz2 rfl (by decide) (.slice (some ⟨gk, 0, none⟩) (k) ck) (k) _ rfl (OK.out.alloc _) ⟨wr.heap.size, 0, none⟩ 1 1 [.int .i64 1] rfl rfl (cell_one_new _ _ _) (by simp [Value.oneCell']) (by unfold maxLen; omega) (by omega) (by have := (HBK.out).size; simp; omega) ?_; intro v1 w1 hown1 hgrow1 hnil1; obtain ⟨g1, c1, rfl, hg1⟩ := own_some hown1 (fun e => nomatch (hnil1.1 e).1); have hb1 := ((HBK.out.alloc (Nat.le_trans hgle HBK.out.size) (.cells #[.int .i64 1] 3))).grown hgrow1 (by have := (HBK.out).size; simp; omega) (fun q hq => by cases hq; assumption); clear hnil1 hgrow1 )
                    have O9 : Hid (w1.ownsRow g0 3 1 (.slice (some ⟨g1, 0, none⟩) (k + 1) c1) ((k + 1)) (([] ++ List.replicate k 9 ++ [1] : List Int).map (.int .i64))) := Lib.hid (by rw [List.map_append]; exact hown1)
                    have HB9 : Hid (Below g0 wA w1) := Lib.hid hb1
                    clear hown1 hb1 OK HBK
                    try go_wp2_with fail
                    refine bodyPost_ret (results_tmp2 rfl _ _ _) rfl ?_
                    exact givesP_mk true HBA.out HG0.out O9.out HB9.out (by rw [HL.out, HPL.out] <;> simp) hm
              | false =>
                go_wp2_with (at_builtin; refine wpList_append_own _ rfl (.tmp 60) (.tmp 62) 34 rfl g0 3 i0 (.int .i64 0) 1 8 Try.underlying34 hi hz0 hz1 hz2 rfl (by decide) (.slice (some ⟨g0, 0, none⟩) (0) 0) (0) _ rfl (O5.out.alloc _) ⟨w5.heap.size, 0, none⟩ 1 1 [.int .i64 5] rfl rfl (cell_one_new _ _ _) (by simp [Value.oneCell']) (by unfold maxLen; omega) (by omega) (by have := (HB5.out).size; simp; omega) ?_; intro v1 w1 hown1 hgrow1 hnil1; obtain ⟨g1, c1, rfl, hg1⟩ := own_some hown1 (fun e => nomatch (hnil1.1 e).1); have hb1 := (HB5.out.alloc (Nat.le_trans hgle HB5.out.size) (.cells #[.int .i64 5] 3)).grown hgrow1 (by have := (HB5.out).size; simp; omega) (fun q hq => by cases hq; assumption); have qq := BoxL.below QA.out hb1 HXG.out; clear k0 k1 k2 k3 k4 k5 k6; have k0 := qq.c0; have k1 := qq.c1; have k2 := qq.c2; have k3 := qq.c3; have k4 := qq.c4; have k5 := qq.c5; have k6 := qq.c6; clear qq; clear hnil1 hgrow1)
                have O_1 : Hid (w1.ownsRow g0 3 1 (.slice (some ⟨g1, 0, none⟩) 1 c1) 1 (([5] : List Int).map (.int .i64))) := Lib.hid hown1
                have HB_1 : Hid (Below g0 wA w1) := Lib.hid hb1
                clear hown1 hb1 O5 HB5
                have HPL := Lib.hid (HPL0.out.trans (by simp [gateL, paddL, (show 0 < N by omega)] : _ = ([5] : List Int) ++ (List.replicate N 9 ++ [1])))
                clear HPL0
                try go_wp2_with fail
                go_loopw [6, 14] (fun x i wr => ∃ (k g cc : Nat), k ≤ N ∧ i = .int .i64 k ∧ x = .slice (some ⟨g, 0, none⟩) (1 + k) cc ∧ g0 ≤ g ∧ Hid (wr.ownsRow g0 3 1 (.slice (some ⟨g, 0, none⟩) (1 + k) cc) (1 + k) (([5] ++ List.replicate k 9 : List Int).map (.int .i64))) ∧ Hid (Below g0 wA wr)) (fun _ i _ => N - (intOf i).toNat)
                case atStart => exact ⟨0, _, _, Nat.zero_le _, rfl, rfl, by assumption, Lib.hid O_1.out, HB_1⟩
                case round =>
                  clear k0 k1 k2 k3 k4 k5 k6
                  clear O_1 HB_1
                  obtain ⟨k, gk, ck, hk, rfl, rfl, hgk, OK, HBK⟩ := hrel
                  by_cases hlt : (k : Int) < (N : Int)
                  · have HS := Lib.hid (repl_succ [5] k)
                    go_wp2_with (at_builtin; refine wpList_append_own _ rfl (.tmp 69) (.tmp 70) 34 rfl g0 3 i0 (.int .i64 0) 1 8 Try.underlying34 hi hz0 hz1 hz2 rfl (by decide) (.slice (some ⟨gk, 0, none⟩) (1 + k) ck) (1 + k) _ rfl (OK.out.alloc _) ⟨wr.heap.size, 0, none⟩ 1 1 [.int .i64 9] rfl rfl (cell_one_new _ _ _) (by simp [Value.oneCell']) (by unfold maxLen; omega) (by omega) (by have := (HBK.out).size; simp; omega) ?_; intro v1 w1 hown1 hgrow1 hnil1; obtain ⟨g1, c1, rfl, hg1⟩ := own_some hown1 (fun e => nomatch (hnil1.1 e).1); have hb1 := ((HBK.out.alloc (Nat.le_trans hgle HBK.out.size) (.cells #[.int .i64 9] 3))).grown hgrow1 (by have := (HBK.out).size; simp; omega) (fun q hq => by cases hq; assumption); clear hnil1 hgrow1 )
                    have O9 : Hid (w1.ownsRow g0 3 1 (.slice (some ⟨g1, 0, none⟩) (1 + (k + 1)) c1) (1 + (k + 1)) (([5] ++ List.replicate (k + 1) 9 : List Int).map (.int .i64))) := Lib.hid (by rw [HS.out, List.map_append]; exact hown1)
                    have HB9 : Hid (Below g0 wA w1) := Lib.hid hb1
                    clear hown1 hb1 OK HBK HS
                    go_roundw
                    case rel => exact ⟨k + 1, g1, c1, by omega, by go_num, rfl, hg1, O9, HB9⟩
                    case measure => simp [intOf]; omega
                  · obtain rfl : k = N := by omega
                    go_wp2_with (at_builtin; refine wpList_append_own _ rfl (.tmp 72) (.tmp 74) 34 rfl g0 3 i0 (.int .i64 0) 1 8 Try.underlying34 hi hz0 hz1 hz2 rfl (by decide) (.slice (some ⟨gk, 0, none⟩) (1 + k) ck) (1 + k) _ rfl (OK.out.alloc _) ⟨wr.heap.size, 0, none⟩ 1 1 [.int .i64 1] rfl rfl (cell_one_new _ _ _) (by simp [Value.oneCell']) (by unfold maxLen; omega) (by omega) (by have := (HBK.out).size; simp; omega) ?_; intro v1 w1 hown1 hgrow1 hnil1; obtain ⟨g1, c1, rfl, hg1⟩ := own_some hown1 (fun e => nomatch (hnil1.1 e).1); have hb1 := ((HBK.out.alloc (Nat.le_trans hgle HBK.out.size) (.cells #[.int .i64 1] 3))).grown hgrow1 (by have := (HBK.out).size; simp; omega) (fun q hq => by cases hq; assumption); clear hnil1 hgrow1 )
                    have O9 : Hid (w1.ownsRow g0 3 1 (.slice (some ⟨g1, 0, none⟩) (1 + k + 1) c1) ((1 + k + 1)) (([5] ++ List.replicate k 9 ++ [1] : List Int).map (.int .i64))) := Lib.hid (by rw [List.map_append]; exact hown1)
                    have HB9 : Hid (Below g0 wA w1) := Lib.hid hb1
                    clear hown1 hb1 OK HBK
                    try go_wp2_with fail
                    refine bodyPost_ret (results_tmp2 rfl _ _ _) rfl ?_
                    exact givesP_mk true HBA.out HG0.out O9.out HB9.out (by rw [HL.out, HPL.out] <;> simp) hm
            · obtain rfl : N = 0 := by omega
              have HPL := Lib.hid (HPL0.out.trans (by simp [gateL, paddL] : _ = ([1] : List Int)))
              clear HPL0 hN
              try go_wp2_with fail
              go_loopw [6, 14] (fun x i wr => i = .int .i64 0 ∧ x = .slice (some ⟨g0, 0, none⟩) 0 0 ∧ Hid (wr.ownsRow g0 3 1 (.slice (some ⟨g0, 0, none⟩) 0 0) 0 (([] : List Int).map (.int .i64))) ∧ Hid (Below g0 wA wr)) (fun _ _ _ => 0)
              case atStart => exact ⟨rfl, rfl, Lib.hid O5.out, HB5⟩
              case round =>
                clear k0 k1 k2 k3 k4 k5 k6
                clear O5 HB5
                obtain ⟨rfl, rfl, OK, HBK⟩ := hrel
                go_wp2_with (at_builtin; refine wpList_append_own _ rfl (.tmp 72) (.tmp 74) 34 rfl g0 3 i0 (.int .i64 0) 1 8 Try.underlying34 hi hz0 hz1 hz2 rfl (by decide) (.slice (some ⟨g0, 0, none⟩) (0) 0) (0) _ rfl (OK.out.alloc _) ⟨wr.heap.size, 0, none⟩ 1 1 [.int .i64 1] rfl rfl (cell_one_new _ _ _) (by simp [Value.oneCell']) (by unfold maxLen; omega) (by omega) (by have := (HBK.out).size; simp; omega) ?_; intro v1 w1 hown1 hgrow1 hnil1; obtain ⟨g1, c1, rfl, hg1⟩ := own_some hown1 (fun e => nomatch (hnil1.1 e).1); have hb1 := ((HBK.out.alloc (Nat.le_trans hgle HBK.out.size) (.cells #[.int .i64 1] 3))).grown hgrow1 (by have := (HBK.out).size; simp; omega) (fun q hq => by cases hq; assumption); clear hnil1 hgrow1 )
                have O9 : Hid (w1.ownsRow g0 3 1 (.slice (some ⟨g1, 0, none⟩) 1 c1) (1) (([1] : List Int).map (.int .i64))) := Lib.hid (hown1)
                have HB9 : Hid (Below g0 wA w1) := Lib.hid hb1
                clear hown1 hb1 OK HBK
                try go_wp2_with fail
                refine bodyPost_ret (results_tmp2 rfl _ _ _) rfl ?_
                exact givesP_mk true HBA.out HG0.out O9.out HB9.out (by rw [HL.out, HPL.out] <;> simp) hm
    | true =>
      cases b with
      | true =>
        have HPL := Lib.hid (show planL ⟨l, u, v, a, true, c, d⟩ true = [] from by simp [planL, gateL])
        have c0 := Q3.out.c0
        have c1 := Q3.out.c1
        have c2 := Q3.out.c2
        have c3 := Q3.out.c3
        have c4 := Q3.out.c4
        have c5 := Q3.out.c5
        have c6 := Q3.out.c6
        go_wp2_with fail
        refine bodyPost_ret (results_tmp2 rfl _ _ _) rfl ?_
        exact givesP_mk true HBA.out HG0.out (o := []) O3.out HB3.out (by rw [HL.out, HPL.out]) hm
      | false =>
        cases a with
        | true =>
          cases c with
          | true =>
            have k0 := Q3.out.c0
            have k1 := Q3.out.c1
            have k2 := Q3.out.c2
            have k3 := Q3.out.c3
            have k4 := Q3.out.c4
            have k5 := Q3.out.c5
            have k6 := Q3.out.c6
            go_wp2_with (first | (at_builtin; refine wpList_append_own _ rfl (.tmp 40) (.tmp 43) 34 rfl g0 3 i0 (.int .i64 0) 1 8 Try.underlying34 hi hz0 hz1 hz2 rfl (by decide) (.slice (some ⟨g0, 0, none⟩) (0) 0) (0) _ rfl (O3.out.alloc _) ⟨w3.heap.size, 0, none⟩ 1 1 [.int .i64 2] rfl rfl (cell_one_new _ _ _) (by simp [Value.oneCell']) (by unfold maxLen; omega) (by omega) (by have := (HB3.out).size; simp; omega) ?_; intro v1 w1 hown1 hgrow1 hnil1; obtain ⟨g1, c1, rfl, hg1⟩ := own_some hown1 (fun e => nomatch (hnil1.1 e).1); have hb1 := (HB3.out.alloc (Nat.le_trans hgle HB3.out.size) (.cells #[.int .i64 2] 3)).grown hgrow1 (by have := (HB3.out).size; simp; omega) (fun q hq => by cases hq; assumption); have qq := BoxL.below QA.out hb1 HXG.out; clear k0 k1 k2 k3 k4 k5 k6; have k0 := qq.c0; have k1 := qq.c1; have k2 := qq.c2; have k3 := qq.c3; have k4 := qq.c4; have k5 := qq.c5; have k6 := qq.c6; clear qq; clear hnil1 hgrow1) | (at_builtin; refine wpList_append_own _ rfl (.tmp 46) (.tmp 49) 34 rfl g0 3 i0 (.int .i64 0) 1 8 Try.underlying34 hi hz0 hz1 hz2 rfl (by decide) (.slice (some ⟨g1, 0, none⟩) (1) c1) (1) _ rfl (hown1.alloc _) ⟨w1.heap.size, 0, none⟩ 1 1 [.int .i64 6] rfl rfl (cell_one_new _ _ _) (by simp [Value.oneCell']) (by unfold maxLen; omega) (by omega) (by have := (hb1).size; simp; omega) ?_; intro v1 w1 hown1 hgrow1 hnil1; obtain ⟨g1, c1, rfl, hg1⟩ := own_some hown1 (fun e => nomatch (hnil1.1 e).1); have hb1 := (hb1.alloc (Nat.le_trans hgle hb1.size) (.cells #[.int .i64 6] 3)).grown hgrow1 (by have := (hb1).size; simp; omega) (fun q hq => by cases hq; assumption); have qq := BoxL.below QA.out hb1 HXG.out; clear k0 k1 k2 k3 k4 k5 k6; have k0 := qq.c0; have k1 := qq.c1; have k2 := qq.c2; have k3 := qq.c3; have k4 := qq.c4; have k5 := qq.c5; have k6 := qq.c6; clear qq; clear hnil1 hgrow1))
            have O_2 : Hid (w1.ownsRow g0 3 1 (.slice (some ⟨g1, 0, none⟩) 2 c1) 2 (([2, 6] : List Int).map (.int .i64))) := Lib.hid hown1
            have HB_2 : Hid (Below g0 wA w1) := Lib.hid hb1
            clear hown1 hb1 O3 HB3
            have CM2 := Lib.hid (fun W => CM.out true false true d true W)
            have hN40 := (minL_le (s := ⟨l, u, v, true, false, true, d⟩) hG true).1
            have HPL0 := Lib.hid (show planL ⟨l, u, v, true, false, true, d⟩ true = preL ⟨l, u, v, true, false, true, d⟩ true ++ (List.replicate (minL ⟨l, u, v, true, false, true, d⟩ true) 9 ++ [3]) from by simp [planL, gateL])
            unfold preL at HPL0
            generalize minL ⟨l, u, v, true, false, true, d⟩ true = N at CM2 hN40 HPL0
            clear CM hG
            refine (CM2.out _).mono ?_
            rintro e w5 ⟨rfl, hb⟩
            have O5 := Lib.hid (own_below O_2.out hb)
            have HB5 := Lib.hid (HB_2.out.trans (hb.mono (Nat.le_trans hgle HB_2.out.size)))
            clear hb O_2 HB_2 CM2
            have q5 := BoxL.below QA.out HB5.out HXG.out
            clear k0 k1 k2 k3 k4 k5 k6
            have k0 := q5.c0
            have k1 := q5.c1
            have k2 := q5.c2
            have k3 := q5.c3
            have k4 := q5.c4
            have k5 := q5.c5
            have k6 := q5.c6
            clear q5
            have hN0 : (0 : Int) ≤ (N : Int) := by omega
            have hNb : (N : Int) ≤ 40 := by omega
            by_cases hN : 0 < (N : Int)
            · cases d with
              | true =>
                have HPL := Lib.hid (HPL0.out.trans (by simp [gateL, paddL, (show 0 < N by omega)] : _ = ([2, 6] : List Int) ++ (List.replicate N 9 ++ [3])))
                clear HPL0
                try go_wp2_with fail
                go_loopw [6, 14] (fun x i wr => ∃ (k g cc : Nat), k ≤ N ∧ i = .int .i64 k ∧ x = .slice (some ⟨g, 0, none⟩) (2 + k) cc ∧ g0 ≤ g ∧ Hid (wr.ownsRow g0 3 1 (.slice (some ⟨g, 0, none⟩) (2 + k) cc) (2 + k) (([2, 6] ++ List.replicate k 9 : List Int).map (.int .i64))) ∧ Hid (Below g0 wA wr)) (fun _ i _ => N - (intOf i).toNat)
                case atStart => exact ⟨0, _, _, Nat.zero_le _, rfl, rfl, by assumption, Lib.hid O5.out, HB5⟩
                case round =>
                  clear k0 k1 k2 k3 k4 k5 k6
                  clear O5 HB5
                  obtain ⟨k, gk, ck, hk, rfl, rfl, hgk, OK, HBK⟩ := hrel
                  by_cases hlt : (k : Int) < (N : Int)
                  · have HS := Lib.hid (repl_succ [2, 6] k)
                    go_wp2_with (at_builtin; refine wpList_append_own _ rfl (.tmp 69) (.tmp 70) 34 rfl g0 3 i0 (.int .i64 0) 1 8 Try.underlying34 hi hz0 hz1 hz2 rfl (by decide) (.slice (some ⟨gk, 0, none⟩) (2 + k) ck) (2 + k) _ rfl (OK.out.alloc _) ⟨wr.heap.size, 0, none⟩ 1 1 [.int .i64 9] rfl rfl (cell_one_new _ _ _) (by simp [Value.oneCell']) (by unfold maxLen; omega) (by omega) (by have := (HBK.out).size; simp; omega) ?_; intro v1 w1 hown1 hgrow1 hnil1; obtain ⟨g1, c1, rfl, hg1⟩ := own_some hown1 (fun e => nomatch (hnil1.1 e).1); have hb1 := ((HBK.out.alloc (Nat.le_trans hgle HBK.out.size) (.cells #[.int .i64 9] 3))).grown hgrow1 (by have := (HBK.out).size; simp; omega) (fun q hq => by cases hq; assumption); clear hnil1 hgrow1 )
                    have O9 : Hid (w1.ownsRow g0 3 1 (.slice (some ⟨g1, 0, none⟩) (2 + (k + 1)) c1) (2 + (k + 1)) (([2, 6] ++ List.replicate (k + 1) 9 : List Int).map (.int .i64))) := Lib.hid (by rw [HS.out, List.map_append]; exact hown1)
                    have HB9 : Hid (Below g0 wA w1) := Lib.hid hb1
                    clear hown1 hb1 OK HBK HS
                    go_roundw
                    case rel => exact ⟨k + 1, g1, c1, by omega, by go_num, rfl, hg1, O9, HB9⟩
                    case measure => simp [intOf]; omega
                  · obtain rfl : k = N := by omega
                    go_wp2_with (at_builtin; refine wpList_append_own _ rfl (.tmp 72) (.tmp 74) 34 rfl g0 3 i0 (.int .i64 0) 1 8 Try.underlying34 hi hz0 hz1 hz2 rfl (by decide) (.slice (some ⟨gk, 0, none⟩) (2 + k) ck) (2 + k) _ rfl (OK.out.alloc _) ⟨wr.heap.size, 0, none⟩ 1 1 [.int .i64 3] rfl rfl (cell_one_new _ _ _) (by simp [Value.oneCell']) (by unfold maxLen; omega) (by omega) (by have := (HBK.out).size; simp; omega) ?_; intro v1 w1 hown1 hgrow1 hnil1; obtain ⟨g1, c1, rfl, hg1⟩ := own_some hown1 (fun e => nomatch (hnil1.1 e).1); have hb1 := ((HBK.out.alloc (Nat.le_trans hgle HBK.out.size) (.cells #[.int .i64 3] 3))).grown hgrow1 (by have := (HBK.out).size; simp; omega) (fun q hq => by cases hq; assumption); clear hnil1 hgrow1 )
                    have O9 : Hid (w1.ownsRow g0 3 1 (.slice (some ⟨g1, 0, none⟩) (2 + k + 1) c1) ((2 + k + 1)) (([2, 6] ++ List.replicate k 9 ++ [3] : List Int).map (.int .i64))) := Lib.hid (by rw [List.map_append]; exact hown1)
                    have HB9 : Hid (Below g0 wA w1) := Lib.hid hb1
                    clear hown1 hb1 OK HBK
                    try go_wp2_with fail
                    refine bodyPost_ret (results_tmp2 rfl _ _ _) rfl ?_
                    exact givesP_mk true HBA.out HG0.out O9.out HB9.out (by rw [HL.out, HPL.out] <;> simp) hm
              | false =>
                go_wp2_with (at_builtin; refine wpList_append_own _ rfl (.tmp 60) (.tmp 62) 34 rfl g0 3 i0 (.int .i64 0) 1 8 Try.underlying34 hi hz0 hz1 hz2 rfl (by decide) (.slice (some ⟨g1, 0, none⟩) (2) c1) (2) _ rfl (O5.out.alloc _) ⟨w5.heap.size, 0, none⟩ 1 1 [.int .i64 7] rfl rfl (cell_one_new _ _ _) (by simp [Value.oneCell']) (by unfold maxLen; omega) (by omega) (by have := (HB5.out).size; simp; omega) ?_; intro v1 w1 hown1 hgrow1 hnil1; obtain ⟨g1, c1, rfl, hg1⟩ := own_some hown1 (fun e => nomatch (hnil1.1 e).1); have hb1 := (HB5.out.alloc (Nat.le_trans hgle HB5.out.size) (.cells #[.int .i64 7] 3)).grown hgrow1 (by have := (HB5.out).size; simp; omega) (fun q hq => by cases hq; assumption); have qq := BoxL.below QA.out hb1 HXG.out; clear k0 k1 k2 k3 k4 k5 k6; have k0 := qq.c0; have k1 := qq.c1; have k2 := qq.c2; have k3 := qq.c3; have k4 := qq.c4; have k5 := qq.c5; have k6 := qq.c6; clear qq; clear hnil1 hgrow1)
                have O_3 : Hid (w1.ownsRow g0 3 1 (.slice (some ⟨g1, 0, none⟩) 3 c1) 3 (([2, 6, 7] : List Int).map (.int .i64))) := Lib.hid hown1
                have HB_3 : Hid (Below g0 wA w1) := Lib.hid hb1
                clear hown1 hb1 O5 HB5
                have HPL := Lib.hid (HPL0.out.trans (by simp [gateL, paddL, (show 0 < N by omega)] : _ = ([2, 6, 7] : List Int) ++ (List.replicate N 9 ++ [3])))
                clear HPL0
                try go_wp2_with fail
                go_loopw [6, 14] (fun x i wr => ∃ (k g cc : Nat), k ≤ N ∧ i = .int .i64 k ∧ x = .slice (some ⟨g, 0, none⟩) (3 + k) cc ∧ g0 ≤ g ∧ Hid (wr.ownsRow g0 3 1 (.slice (some ⟨g, 0, none⟩) (3 + k) cc) (3 + k) (([2, 6, 7] ++ List.replicate k 9 : List Int).map (.int .i64))) ∧ Hid (Below g0 wA wr)) (fun _ i _ => N - (intOf i).toNat)
                case atStart => exact ⟨0, _, _, Nat.zero_le _, rfl, rfl, by assumption, Lib.hid O_3.out, HB_3⟩
                case round =>
                  clear k0 k1 k2 k3 k4 k5 k6
                  clear O_3 HB_3
                  obtain ⟨k, gk, ck, hk, rfl, rfl, hgk, OK, HBK⟩ := hrel
                  by_cases hlt : (k : Int) < (N : Int)
                  · have HS := Lib.hid (repl_succ [2, 6, 7] k)
                    go_wp2_with (at_builtin; refine wpList_append_own _ rfl (.tmp 69) (.tmp 70) 34 rfl g0 3 i0 (.int .i64 0) 1 8 Try.underlying34 hi hz0 hz1 hz2 rfl (by decide) (.slice (some ⟨gk, 0, none⟩) (3 + k) ck) (3 + k) _ rfl (OK.out.alloc _) ⟨wr.heap.size, 0, none⟩ 1 1 [.int .i64 9] rfl rfl (cell_one_new _ _ _) (by simp [Value.oneCell']) (by unfold maxLen; omega) (by omega) (by have := (HBK.out).size; simp; omega) ?_; intro v1 w1 hown1 hgrow1 hnil1; obtain ⟨g1, c1, rfl, hg1⟩ := own_some hown1 (fun e => nomatch (hnil1.1 e).1); have hb1 := ((HBK.out.alloc (Nat.le_trans hgle HBK.out.size) (.cells #[.int .i64 9] 3))).grown hgrow1 (by have := (HBK.out).size; simp; omega) (fun q hq => by cases hq; assumption); clear hnil1 hgrow1 )
                    have O9 : Hid (w1.ownsRow g0 3 1 (.slice (some ⟨g1, 0, none⟩) (3 + (k + 1)) c1) (3 + (k + 1)) (([2, 6, 7] ++ List.replicate (k + 1) 9 : List Int).map (.int .i64))) := Lib.hid (by rw [HS.out, List.map_append]; exact hown1)
                    have HB9 : Hid (Below g0 wA w1) := Lib.hid hb1
                    clear hown1 hb1 OK HBK HS
                    go_roundw
                    case rel => exact ⟨k + 1, g1, c1, by omega, by go_num, rfl, hg1, O9, HB9⟩
                    case measure => simp [intOf]; omega
                  · obtain rfl : k = N := by omega
                    go_wp2_with (at_builtin; refine wpList_append_own _ rfl (.tmp 72) (.tmp 74) 34 rfl g0 3 i0 (.int .i64 0) 1 8 Try.underlying34 hi hz0 hz1 hz2 rfl (by decide) (.slice (some ⟨gk, 0, none⟩) (3 + k) ck) (3 + k) _ rfl (OK.out.alloc _) ⟨wr.heap.size, 0, none⟩ 1 1 [.int .i64 3] rfl rfl (cell_one_new _ _ _) (by simp [Value.oneCell']) (by unfold maxLen; omega) (by omega) (by have := (HBK.out).size; simp; omega) ?_; intro v1 w1 hown1 hgrow1 hnil1; obtain ⟨g1, c1, rfl, hg1⟩ := own_some hown1 (fun e => nomatch (hnil1.1 e).1); have hb1 := ((HBK.out.alloc (Nat.le_trans hgle HBK.out.size) (.cells #[.int .i64 3] 3))).grown hgrow1 (by have := (HBK.out).size; simp; omega) (fun q hq => by cases hq; assumption); clear hnil1 hgrow1 )
                    have O9 : Hid (w1.ownsRow g0 3 1 (.slice (some ⟨g1, 0, none⟩) (3 + k + 1) c1) ((3 + k + 1)) (([2, 6, 7] ++ List.replicate k 9 ++ [3] : List Int).map (.int .i64))) := Lib.hid (by rw [List.map_append]; exact hown1)
                    have HB9 : Hid (Below g0 wA w1) := Lib.hid hb1
                    clear hown1 hb1 OK HBK
                    try go_wp2_with fail
                    refine bodyPost_ret (results_tmp2 rfl _ _ _) rfl ?_
                    exact givesP_mk true HBA.out HG0.out O9.out HB9.out (by rw [HL.out, HPL.out] <;> simp) hm
            · obtain rfl : N = 0 := by omega
              have HPL := Lib.hid (HPL0.out.trans (by simp [gateL, paddL] : _ = ([2, 6, 3] : List Int)))
              clear HPL0 hN
              try go_wp2_with fail
              go_loopw [6, 14] (fun x i wr => i = .int .i64 0 ∧ x = .slice (some ⟨g1, 0, none⟩) 2 c1 ∧ Hid (wr.ownsRow g0 3 1 (.slice (some ⟨g1, 0, none⟩) 2 c1) 2 (([2, 6] : List Int).map (.int .i64))) ∧ Hid (Below g0 wA wr)) (fun _ _ _ => 0)
              case atStart => exact ⟨rfl, rfl, Lib.hid O5.out, HB5⟩
              case round =>
                clear k0 k1 k2 k3 k4 k5 k6
                clear O5 HB5
                obtain ⟨rfl, rfl, OK, HBK⟩ := hrel
                go_wp2_with (at_builtin; refine wpList_append_own _ rfl (.tmp 72) (.tmp 74) 34 rfl g0 3 i0 (.int .i64 0) 1 8 Try.underlying34 hi hz0 hz1 hz2 rfl (by decide) (.slice (some ⟨g1, 0, none⟩) (2) c1) (2) _ rfl (OK.out.alloc _) ⟨wr.heap.size, 0, none⟩ 1 1 [.int .i64 3] rfl rfl (cell_one_new _ _ _) (by simp [Value.oneCell']) (by unfold maxLen; omega) (by omega) (by have := (HBK.out).size; simp; omega) ?_; intro v1 w1 hown1 hgrow1 hnil1; obtain ⟨g1, c1, rfl, hg1⟩ := own_some hown1 (fun e => nomatch (hnil1.1 e).1); have hb1 := ((HBK.out.alloc (Nat.le_trans hgle HBK.out.size) (.cells #[.int .i64 3] 3))).grown hgrow1 (by have := (HBK.out).size; simp; omega) (fun q hq => by cases hq; assumption); clear hnil1 hgrow1 )
                have O9 : Hid (w1.ownsRow g0 3 1 (.slice (some ⟨g1, 0, none⟩) 3 c1) (3) (([2, 6, 3] : List Int).map (.int .i64))) := Lib.hid (hown1)
                have HB9 : Hid (Below g0 wA w1) := Lib.hid hb1
                clear hown1 hb1 OK HBK
                try go_wp2_with fail
                refine bodyPost_ret (results_tmp2 rfl _ _ _) rfl ?_
                exact givesP_mk true HBA.out HG0.out O9.out HB9.out (by rw [HL.out, HPL.out] <;> simp) hm
          | false =>
            have k0 := Q3.out.c0
            have k1 := Q3.out.c1
            have k2 := Q3.out.c2
            have k3 := Q3.out.c3
            have k4 := Q3.out.c4
            have k5 := Q3.out.c5
            have k6 := Q3.out.c6
            go_wp2_with (at_builtin; refine wpList_append_own _ rfl (.tmp 40) (.tmp 43) 34 rfl g0 3 i0 (.int .i64 0) 1 8 Try.underlying34 hi hz0 hz1 hz2 rfl (by decide) (.slice (some ⟨g0, 0, none⟩) (0) 0) (0) _ rfl (O3.out.alloc _) ⟨w3.heap.size, 0, none⟩ 1 1 [.int .i64 2] rfl rfl (cell_one_new _ _ _) (by simp [Value.oneCell']) (by unfold maxLen; omega) (by omega) (by have := (HB3.out).size; simp; omega) ?_; intro v1 w1 hown1 hgrow1 hnil1; obtain ⟨g1, c1, rfl, hg1⟩ := own_some hown1 (fun e => nomatch (hnil1.1 e).1); have hb1 := (HB3.out.alloc (Nat.le_trans hgle HB3.out.size) (.cells #[.int .i64 2] 3)).grown hgrow1 (by have := (HB3.out).size; simp; omega) (fun q hq => by cases hq; assumption); have qq := BoxL.below QA.out hb1 HXG.out; clear k0 k1 k2 k3 k4 k5 k6; have k0 := qq.c0; have k1 := qq.c1; have k2 := qq.c2; have k3 := qq.c3; have k4 := qq.c4; have k5 := qq.c5; have k6 := qq.c6; clear qq; clear hnil1 hgrow1)
            have O_1 : Hid (w1.ownsRow g0 3 1 (.slice (some ⟨g1, 0, none⟩) 1 c1) 1 (([2] : List Int).map (.int .i64))) := Lib.hid hown1
            have HB_1 : Hid (Below g0 wA w1) := Lib.hid hb1
            clear hown1 hb1 O3 HB3
            have CM2 := Lib.hid (fun W => CM.out true false false d true W)
            have hN40 := (minL_le (s := ⟨l, u, v, true, false, false, d⟩) hG true).1
            have HPL0 := Lib.hid (show planL ⟨l, u, v, true, false, false, d⟩ true = preL ⟨l, u, v, true, false, false, d⟩ true ++ (List.replicate (minL ⟨l, u, v, true, false, false, d⟩ true) 9 ++ [3]) from by simp [planL, gateL])
            unfold preL at HPL0
            generalize minL ⟨l, u, v, true, false, false, d⟩ true = N at CM2 hN40 HPL0
            clear CM hG
            refine (CM2.out _).mono ?_
            rintro e w5 ⟨rfl, hb⟩
            have O5 := Lib.hid (own_below O_1.out hb)
            have HB5 := Lib.hid (HB_1.out.trans (hb.mono (Nat.le_trans hgle HB_1.out.size)))
            clear hb O_1 HB_1 CM2
            have q5 := BoxL.below QA.out HB5.out HXG.out
            clear k0 k1 k2 k3 k4 k5 k6
            have k0 := q5.c0
            have k1 := q5.c1
            have k2 := q5.c2
            have k3 := q5.c3
            have k4 := q5.c4
            have k5 := q5.c5
            have k6 := q5.c6
            clear q5
            have hN0 : (0 : Int) ≤ (N : Int) := by omega
            have hNb : (N : Int) ≤ 40 := by omega
            by_cases hN : 0 < (N : Int)
            · cases d with
              | true =>
                have HPL := Lib.hid (HPL0.out.trans (by simp [gateL, paddL, (show 0 < N by omega)] : _ = ([2] : List Int) ++ (List.replicate N 9 ++ [3])))
                clear HPL0
                try go_wp2_with fail
                go_loopw [6, 14] (fun x i wr => ∃ (k g cc : Nat), k ≤ N ∧ i = .int .i64 k ∧ x = .slice (some ⟨g, 0, none⟩) (1 + k) cc ∧ g0 ≤ g ∧ Hid (wr.ownsRow g0 3 1 (.slice (some ⟨g, 0, none⟩) (1 + k) cc) (1 + k) (([2] ++ List.replicate k 9 : List Int).map (.int .i64))) ∧ Hid (Below g0 wA wr)) (fun _ i _ => N - (intOf i).toNat)
                case atStart => exact ⟨0, _, _, Nat.zero_le _, rfl, rfl, by assumption, Lib.hid O5.out, HB5⟩
                case round =>
                  clear k0 k1 k2 k3 k4 k5 k6
                  clear O5 HB5
                  obtain ⟨k, gk, ck, hk, rfl, rfl, hgk, OK, HBK⟩ := hrel
                  by_cases hlt : (k : Int) < (N : Int)
                  · have HS := Lib.hid (repl_succ [2] k)
                    go_wp2_with (at_builtin; refine wpList_append_own _ rfl (.tmp 69) (.tmp 70) 34 rfl g0 3 i0 (.int .i64 0) 1 8 Try.underlying34 hi hz0 hz1 hz2 rfl (by decide) (.slice (some ⟨gk, 0, none⟩) (1 + k) ck) (1 + k) _ rfl (OK.out.alloc _) ⟨wr.heap.size, 0, none⟩ 1 1 [.int .i64 9] rfl rfl (cell_one_new _ _ _) (by simp [Value.oneCell']) (by unfold maxLen; omega) (by omega) (by have := (HBK.out).size; simp; omega) ?_; intro v1 w1 hown1 hgrow1 hnil1; obtain ⟨g1, c1, rfl, hg1⟩ := own_some hown1 (fun e => nomatch (hnil1.1 e).1); have hb1 := ((HBK.out.alloc (Nat.le_trans hgle HBK.out.size) (.cells #[.int .i64 9] 3))).grown hgrow1 (by have := (HBK.out).size; simp; omega) (fun q hq => by cases hq; assumption); clear hnil1 hgrow1 )
                    have O9 : Hid (w1.ownsRow g0 3 1 (.slice (some ⟨g1, 0, none⟩) (1 + (k + 1)) c1) (1 + (k + 1)) (([2] ++ List.replicate (k + 1) 9 : List Int).map (.int .i64))) := Lib.hid (by rw [HS.out, List.map_append]; exact hown1)
                    have HB9 : Hid (Below g0 wA w1) := Lib.hid hb1
                    clear hown1 hb1 OK HBK HS
                    go_roundw
                    case rel => exact ⟨k + 1, g1, c1, by omega, by go_num, rfl, hg1, O9, HB9⟩
                    case measure => simp [intOf]; omega
                  · obtain rfl : k = N := by omega
                    go_wp2_with (at_builtin; refine wpList_append_own _ rfl (.tmp 72) (.tmp 74) 34 rfl g0 3 i0 (.int .i64 0) 1 8 Try.underlying34 hi hz0 hz1 hz2 rfl (by decide) (.slice (some ⟨gk, 0, none⟩) (1 + k) ck) (1 + k) _ rfl (OK.out.alloc _) ⟨wr.heap.size, 0, none⟩ 1 1 [.int .i64 3] rfl rfl (cell_one_new _ _ _) (by simp [Value.oneCell']) (by unfold maxLen; omega) (by omega) (by have := (HBK.out).size; simp; omega) ?_; intro v1 w1 hown1 hgrow1 hnil1; obtain ⟨g1, c1, rfl, hg1⟩ := own_some hown1 (fun e => nomatch (hnil1.1 e).1); have hb1 := ((HBK.out.alloc (Nat.le_trans hgle HBK.out.size) (.cells #[.int .i64 3] 3))).grown hgrow1 (by have := (HBK.out).size; simp; omega) (fun q hq => by cases hq; assumption); clear hnil1 hgrow1 )
                    have O9 : Hid (w1.ownsRow g0 3 1 (.slice (some ⟨g1, 0, none⟩) (1 + k + 1) c1) ((1 + k + 1)) (([2] ++ List.replicate k 9 ++ [3] : List Int).map (.int .i64))) := Lib.hid (by rw [List.map_append]; exact hown1)
                    have HB9 : Hid (Below g0 wA w1) := Lib.hid hb1
                    clear hown1 hb1 OK HBK
                    try go_wp2_with fail
                    refine bodyPost_ret (results_tmp2 rfl _ _ _) rfl ?_
                    exact givesP_mk true HBA.out HG0.out O9.out HB9.out (by rw [HL.out, HPL.out] <;> simp) hm
              | false =>
                go_wp2_with (at_builtin; refine wpList_append_own _ rfl (.tmp 60) (.tmp 62) 34 rfl g0 3 i0 (.int .i64 0) 1 8 Try.underlying34 hi hz0 hz1 hz2 rfl (by decide) (.slice (some ⟨g1, 0, none⟩) (1) c1) (1) _ rfl (O5.out.alloc _) ⟨w5.heap.size, 0, none⟩ 1 1 [.int .i64 7] rfl rfl (cell_one_new _ _ _) (by simp [Value.oneCell']) (by unfold maxLen; omega) (by omega) (by have := (HB5.out).size; simp; omega) ?_; intro v1 w1 hown1 hgrow1 hnil1; obtain ⟨g1, c1, rfl, hg1⟩ := own_some hown1 (fun e => nomatch (hnil1.1 e).1); have hb1 := (HB5.out.alloc (Nat.le_trans hgle HB5.out.size) (.cells #[.int .i64 7] 3)).grown hgrow1 (by have := (HB5.out).size; simp; omega) (fun q hq => by cases hq; assumption); have qq := BoxL.below QA.out hb1 HXG.out; clear k0 k1 k2 k3 k4 k5 k6; have k0 := qq.c0; have k1 := qq.c1; have k2 := qq.c2; have k3 := qq.c3; have k4 := qq.c4; have k5 := qq.c5; have k6 := qq.c6; clear qq; clear hnil1 hgrow1)
                have O_2 : Hid (w1.ownsRow g0 3 1 (.slice (some ⟨g1, 0, none⟩) 2 c1) 2 (([2, 7] : List Int).map (.int .i64))) := Lib.hid hown1
                have HB_2 : Hid (Below g0 wA w1) := Lib.hid hb1
                clear hown1 hb1 O5 HB5
                have HPL := Lib.hid (HPL0.out.trans (by simp [gateL, paddL, (show 0 < N by omega)] : _ = ([2, 7] : List Int) ++ (List.replicate N 9 ++ [3])))
                clear HPL0
                try go_wp2_with fail
                go_loopw [6, 14] (fun x i wr => ∃ (k g cc : Nat), k ≤ N ∧ i = .int .i64 k ∧ x = .slice (some ⟨g, 0, none⟩) (2 + k) cc ∧ g0 ≤ g ∧ Hid (wr.ownsRow g0 3 1 (.slice (some ⟨g, 0, none⟩) (2 + k) cc) (2 + k) (([2, 7] ++ List.replicate k 9 : List Int).map (.int .i64))) ∧ Hid (Below g0 wA wr)) (fun _ i _ => N - (intOf i).toNat)
                case atStart => exact ⟨0, _, _, Nat.zero_le _, rfl, rfl, by assumption, Lib.hid O_2.out, HB_2⟩
                case round =>
                  clear k0 k1 k2 k3 k4 k5 k6
                  clear O_2 HB_2
                  obtain ⟨k, gk, ck, hk, rfl, rfl, hgk, OK, HBK⟩ := hrel
                  by_cases hlt : (k : Int) < (N : Int)
                  · have HS := Lib.hid (repl_succ [2, 7] k)
                    go_wp2_with (at_builtin; refine wpList_append_own _ rfl (.tmp 69) (.tmp 70) 34 rfl g0 3 i0 (.int .i64 0) 1 8 Try.underlying34 hi hz0 hz1 hz2 rfl (by decide) (.slice (some ⟨gk, 0, none⟩) (2 + k) ck) (2 + k) _ rfl (OK.out.alloc _) ⟨wr.heap.size, 0, none⟩ 1 1 [.int .i64 9] rfl rfl (cell_one_new _ _ _) (by simp [Value.oneCell']) (by unfold maxLen; omega) (by omega) (by have := (HBK.out).size; simp; omega) ?_; intro v1 w1 hown1 hgrow1 hnil1; obtain ⟨g1, c1, rfl, hg1⟩ := own_some hown1 (fun e => nomatch (hnil1.1 e).1); have hb1 := ((HBK.out.alloc (Nat.le_trans hgle HBK.out.size) (.cells #[.int .i64 9] 3))).grown hgrow1 (by have := (HBK.out).size; simp; omega) (fun q hq => by cases hq; assumption); clear hnil1 hgrow1 )
                    have O9 : Hid (w1.ownsRow g0 3 1 (.slice (some ⟨g1, 0, none⟩) (2 + (k + 1)) c1) (2 + (k + 1)) (([2, 7] ++ List.replicate (k + 1) 9 : List Int).map (.int .i64))) := Lib.hid (by rw [HS.out, List.map_append]; exact hown1)
                    have HB9 : Hid (Below g0 wA w1) := Lib.hid hb1
                    clear hown1 hb1 OK HBK HS
                    go_roundw
                    case rel => exact ⟨k + 1, g1, c1, by omega, by go_num, rfl, hg1, O9, HB9⟩
                    case measure => simp [intOf]; omega
                  · obtain rfl : k = N := by omega
                    go_wp2_with (at_builtin; refine wpList_append_own _ rfl (.tmp 72) (.tmp 74) 34 rfl g0 3 i0 (.int .i64 0) 1 8 Try.underlying34 hi hz0 hz1 hz2 rfl (by decide) (.slice (some ⟨gk, 0, none⟩) (2 + k) ck) (2 + k) _ rfl (OK.out.alloc _) ⟨wr.heap.size, 0, none⟩ 1 1 [.int .i64 3] rfl rfl (cell_one_new _ _ _) (by simp [Value.oneCell']) (by unfold maxLen; omega) (by omega) (by have := (HBK.out).size; simp; omega) ?_; intro v1 w1 hown1 hgrow1 hnil1; obtain ⟨g1, c1, rfl, hg1⟩ := own_some hown1 (fun e => nomatch (hnil1.1 e).1); have hb1 := ((HBK.out.alloc (Nat.le_trans hgle HBK.out.size) (.cells #[.int .i64 3] 3))).grown hgrow1 (by have := (HBK.out).size; simp; omega) (fun q hq => by cases hq; assumption); clear hnil1 hgrow1 )
                    have O9 : Hid (w1.ownsRow g0 3 1 (.slice (some ⟨g1, 0, none⟩) (2 + k + 1) c1) ((2 + k + 1)) (([2, 7] ++ List.replicate k 9 ++ [3] : List Int).map (.int .i64))) := Lib.hid (by rw [List.map_append]; exact hown1)
                    have HB9 : Hid (Below g0 wA w1) := Lib.hid hb1
                    clear hown1 hb1 OK HBK
                    try go_wp2_with fail
                    refine bodyPost_ret (results_tmp2 rfl _ _ _) rfl ?_
                    exact givesP_mk true HBA.out HG0.out O9.out HB9.out (by rw [HL.out, HPL.out] <;> simp) hm
            · obtain rfl : N = 0 := by omega
              have HPL := Lib.hid (HPL0.out.trans (by simp [gateL, paddL] : _ = ([2, 3] : List Int)))
              clear HPL0 hN
              try go_wp2_with fail
              go_loopw [6, 14] (fun x i wr => i = .int .i64 0 ∧ x = .slice (some ⟨g1, 0, none⟩) 1 c1 ∧ Hid (wr.ownsRow g0 3 1 (.slice (some ⟨g1, 0, none⟩) 1 c1) 1 (([2] : List Int).map (.int .i64))) ∧ Hid (Below g0 wA wr)) (fun _ _ _ => 0)
              case atStart => exact ⟨rfl, rfl, Lib.hid O5.out, HB5⟩
              case round =>
                clear k0 k1 k2 k3 k4 k5 k6
                clear O5 HB5
                obtain ⟨rfl, rfl, OK, HBK⟩ := hrel
                go_wp2_with (at_builtin; refine wpList_append_own _ rfl (.tmp 72) (.tmp 74) 34 rfl g0 3 i0 (.int .i64 0) 1 8 Try.underlying34 hi hz0 hz1 hz2 rfl (by decide) (.slice (some ⟨g1, 0, none⟩) (1) c1) (1) _ rfl (OK.out.alloc _) ⟨wr.heap.size, 0, none⟩ 1 1 [.int .i64 3] rfl rfl (cell_one_new _ _ _) (by simp [Value.oneCell']) (by unfold maxLen; omega) (by omega) (by have := (HBK.out).size; simp; omega) ?_; intro v1 w1 hown1 hgrow1 hnil1; obtain ⟨g1, c1, rfl, hg1⟩ := own_some hown1 (fun e => nomatch (hnil1.1 e).1); have hb1 := ((HBK.out.alloc (Nat.le_trans hgle HBK.out.size) (.cells #[.int .i64 3] 3))).grown hgrow1 (by have := (HBK.out).size; simp; omega) (fun q hq => by cases hq; assumption); clear hnil1 hgrow1 )
                have O9 : Hid (w1.ownsRow g0 3 1 (.slice (some ⟨g1, 0, none⟩) 2 c1) (2) (([2, 3] : List Int).map (.int .i64))) := Lib.hid (hown1)
                have HB9 : Hid (Below g0 wA w1) := Lib.hid hb1
                clear hown1 hb1 OK HBK
                try go_wp2_with fail
                refine bodyPost_ret (results_tmp2 rfl _ _ _) rfl ?_
                exact givesP_mk true HBA.out HG0.out O9.out HB9.out (by rw [HL.out, HPL.out] <;> simp) hm
        | false =>
          cases c with
          | true =>
            have k0 := Q3.out.c0
            have k1 := Q3.out.c1
            have k2 := Q3.out.c2
            have k3 := Q3.out.c3
            have k4 := Q3.out.c4
            have k5 := Q3.out.c5
            have k6 := Q3.out.c6
            go_wp2_with (at_builtin; refine wpList_append_own _ rfl (.tmp 46) (.tmp 49) 34 rfl g0 3 i0 (.int .i64 0) 1 8 Try.underlying34 hi hz0 hz1 hz2 rfl (by decide) (.slice (some ⟨g0, 0, none⟩) (0) 0) (0) _ rfl (O3.out.alloc _) ⟨w3.heap.size, 0, none⟩ 1 1 [.int .i64 6] rfl rfl (cell_one_new _ _ _) (by simp [Value.oneCell']) (by unfold maxLen; omega) (by omega) (by have := (HB3.out).size; simp; omega) ?_; intro v1 w1 hown1 hgrow1 hnil1; obtain ⟨g1, c1, rfl, hg1⟩ := own_some hown1 (fun e => nomatch (hnil1.1 e).1); have hb1 := (HB3.out.alloc (Nat.le_trans hgle HB3.out.size) (.cells #[.int .i64 6] 3)).grown hgrow1 (by have := (HB3.out).size; simp; omega) (fun q hq => by cases hq; assumption); have qq := BoxL.below QA.out hb1 HXG.out; clear k0 k1 k2 k3 k4 k5 k6; have k0 := qq.c0; have k1 := qq.c1; have k2 := qq.c2; have k3 := qq.c3; have k4 := qq.c4; have k5 := qq.c5; have k6 := qq.c6; clear qq; clear hnil1 hgrow1)
            have O_1 : Hid (w1.ownsRow g0 3 1 (.slice (some ⟨g1, 0, none⟩) 1 c1) 1 (([6] : List Int).map (.int .i64))) := Lib.hid hown1
            have HB_1 : Hid (Below g0 wA w1) := Lib.hid hb1
            clear hown1 hb1 O3 HB3
            have CM2 := Lib.hid (fun W => CM.out false false true d true W)
            have hN40 := (minL_le (s := ⟨l, u, v, false, false, true, d⟩) hG true).1
            have HPL0 := Lib.hid (show planL ⟨l, u, v, false, false, true, d⟩ true = preL ⟨l, u, v, false, false, true, d⟩ true ++ (List.replicate (minL ⟨l, u, v, false, false, true, d⟩ true) 9 ++ [3]) from by simp [planL, gateL])
            unfold preL at HPL0
            generalize minL ⟨l, u, v, false, false, true, d⟩ true = N at CM2 hN40 HPL0
            clear CM hG
            refine (CM2.out _).mono ?_
            rintro e w5 ⟨rfl, hb⟩
            have O5 := Lib.hid (own_below O_1.out hb)
            have HB5 := Lib.hid (HB_1.out.trans (hb.mono (Nat.le_trans hgle HB_1.out.size)))
            clear hb O_1 HB_1 CM2
            have q5 := BoxL.below QA.out HB5.out HXG.out
            clear k0 k1 k2 k3 k4 k5 k6
            have k0 := q5.c0
            have k1 := q5.c1
            have k2 := q5.c2
            have k3 := q5.c3
            have k4 := q5.c4
            have k5 := q5.c5
            have k6 := q5.c6
            clear q5
            have hN0 : (0 : Int) ≤ (N : Int) := by omega
            have hNb : (N : Int) ≤ 40 := by omega
            by_cases hN : 0 < (N : Int)
            · cases d with
              | true =>
                have HPL := Lib.hid (HPL0.out.trans (by simp [gateL, paddL, (show 0 < N by omega)] : _ = ([6] : List Int) ++ (List.replicate N 9 ++ [3])))
                clear HPL0
                try go_wp2_with fail
                go_loopw [6, 14] (fun x i wr => ∃ (k g cc : Nat), k ≤ N ∧ i = .int .i64 k ∧ x = .slice (some ⟨g, 0, none⟩) (1 + k) cc ∧ g0 ≤ g ∧ Hid (wr.ownsRow g0 3 1 (.slice (some ⟨g, 0, none⟩) (1 + k) cc) (1 + k) (([6] ++ List.replicate k 9 : List Int).map (.int .i64))) ∧ Hid (Below g0 wA wr)) (fun _ i _ => N - (intOf i).toNat)
                case atStart => exact ⟨0, _, _, Nat.zero_le _, rfl, rfl, by assumption, Lib.hid O5.out, HB5⟩
                case round =>
                  clear k0 k1 k2 k3 k4 k5 k6
                  clear O5 HB5
                  obtain ⟨k, gk, ck, hk, rfl, rfl, hgk, OK, HBK⟩ := hrel
                  by_cases hlt : (k : Int) < (N : Int)
                  · have HS := Lib.hid (repl_succ [6] k)
                    go_wp2_with (at_builtin; refine wpList_append_own _ rfl (.tmp 69) (.tmp 70) 34 rfl g0 3 i0 (.int .i64 0) 1 8 Try.underlying34 hi hz0 hz1 hz2 rfl (by decide) (.slice (some ⟨gk, 0, none⟩) (1 + k) ck) (1 + k) _ rfl (OK.out.alloc _) ⟨wr.heap.size, 0, none⟩ 1 1 [.int .i64 9] rfl rfl (cell_one_new _ _ _) (by simp [Value.oneCell']) (by unfold maxLen; omega) (by omega) (by have := (HBK.out).size; simp; omega) ?_; intro v1 w1 hown1 hgrow1 hnil1; obtain ⟨g1, c1, rfl, hg1⟩ := own_some hown1 (fun e => nomatch (hnil1.1 e).1); have hb1 := ((HBK.out.alloc (Nat.le_trans hgle HBK.out.size) (.cells #[.int .i64 9] 3))).grown hgrow1 (by have := (HBK.out).size; simp; omega) (fun q hq => by cases hq; assumption); clear hnil1 hgrow1 )
                    have O9 : Hid (w1.ownsRow g0 3 1 (.slice (some ⟨g1, 0, none⟩) (1 + (k + 1)) c1) (1 + (k + 1)) (([6] ++ List.replicate (k + 1) 9 : List Int).map (.int .i64))) := Lib.hid (by rw [HS.out, List.map_append]; exact hown1)
                    have HB9 : Hid (Below g0 wA w1) := Lib.hid hb1
                    clear hown1 hb1 OK HBK HS
                    go_roundw
                    case rel => exact ⟨k + 1, g1, c1, by omega, by go_num, rfl, hg1, O9, HB9⟩
                    case measure => simp [intOf]; omega
                  · obtain rfl : k = N := by omega
                    go_wp2_with (at_builtin; refine wpList_append_own _ rfl (.tmp 72) (.tmp 74) 34 rfl g0 3 i0 (.int .i64 0) 1 8 Try.underlying34 hi hz0 hz1 hz2 rfl (by decide) (.slice (some ⟨gk, 0, none⟩) (1 + k) ck) (1 + k) _ rfl (OK.out.alloc _) ⟨wr.heap.size, 0, none⟩ 1 1 [.int .i64 3] rfl rfl (cell_one_new _ _ _) (by simp [Value.oneCell']) (by unfold maxLen; omega) (by omega) (by have := (HBK.out).size; simp; omega) ?_; intro v1 w1 hown1 hgrow1 hnil1; obtain ⟨g1, c1, rfl, hg1⟩ := own_some hown1 (fun e => nomatch (hnil1.1 e).1); have hb1 := ((HBK.out.alloc (Nat.le_trans hgle HBK.out.size) (.cells #[.int .i64 3] 3))).grown hgrow1 (by have := (HBK.out).size; simp; omega) (fun q hq => by cases hq; assumption); clear hnil1 hgrow1 )
                    have O9 : Hid (w1.ownsRow g0 3 1 (.slice (some ⟨g1, 0, none⟩) (1 + k + 1) c1) ((1 + k + 1)) (([6] ++ List.replicate k 9 ++ [3] : List Int).map (.int .i64))) := Lib.hid (by rw [List.map_append]; exact hown1)
                    have HB9 : Hid (Below g0 wA w1) := Lib.hid hb1
                    clear hown1 hb1 OK HBK
                    try go_wp2_with fail
                    refine bodyPost_ret (results_tmp2 rfl _ _ _) rfl ?_
                    exact givesP_mk true HBA.out HG0.out O9.out HB9.out (by rw [HL.out, HPL.out] <;> simp) hm
              | false =>
                go_wp2_with (at_builtin; refine wpList_append_own _ rfl (.tmp 60) (.tmp 62) 34 rfl g0 3 i0 (.int .i64 0) 1 8 Try.underlying34 hi hz0 hz1 hz2 rfl (by decide) (.slice (some ⟨g1, 0, none⟩) (1) c1) (1) _ rfl (O5.out.alloc _) ⟨w5.heap.size, 0, none⟩ 1 1 [.int .i64 7] rfl rfl (cell_one_new _ _ _) (by simp [Value.oneCell']) (by unfold maxLen; omega) (by omega) (by have := (HB5.out).size; simp; omega) ?_; intro v1 w1 hown1 hgrow1 hnil1; obtain ⟨g1, c1, rfl, hg1⟩ := own_some hown1 (fun e => nomatch (hnil1.1 e).1); have hb1 := (HB5.out.alloc (Nat.le_trans hgle HB5.out.size) (.cells #[.int .i64 7] 3)).grown hgrow1 (by have := (HB5.out).size; simp; omega) (fun q hq => by cases hq; assumption); have qq := BoxL.below QA.out hb1 HXG.out; clear k0 k1 k2 k3 k4 k5 k6; have k0 := qq.c0; have k1 := qq.c1; have k2 := qq.c2; have k3 := qq.c3; have k4 := qq.c4; have k5 := qq.c5; have k6 := qq.c6; clear qq; clear hnil1 hgrow1)
                have O_2 : Hid (w1.ownsRow g0 3 1 (.slice (some ⟨g1, 0, none⟩) 2 c1) 2 (([6, 7] : List Int).map (.int .i64))) := Lib.hid hown1
                have HB_2 : Hid (Below g0 wA w1) := Lib.hid hb1
                clear hown1 hb1 O5 HB5
                have HPL := Lib.hid (HPL0.out.trans (by simp [gateL, paddL, (show 0 < N by omega)] : _ = ([6, 7] : List Int) ++ (List.replicate N 9 ++ [3])))
                clear HPL0
                try go_wp2_with fail
                go_loopw [6, 14] (fun x i wr => ∃ (k g cc : Nat), k ≤ N ∧ i = .int .i64 k ∧ x = .slice (some ⟨g, 0, none⟩) (2 + k) cc ∧ g0 ≤ g ∧ Hid (wr.ownsRow g0 3 1 (.slice (some ⟨g, 0, none⟩) (2 + k) cc) (2 + k) (([6, 7] ++ List.replicate k 9 : List Int).map (.int .i64))) ∧ Hid (Below g0 wA wr)) (fun _ i _ => N - (intOf i).toNat)
                case atStart => exact ⟨0, _, _, Nat.zero_le _, rfl, rfl, by assumption, Lib.hid O_2.out, HB_2⟩
                case round =>
                  clear k0 k1 k2 k3 k4 k5 k6
                  clear O_2 HB_2
                  obtain ⟨k, gk, ck, hk, rfl, rfl, hgk, OK, HBK⟩ := hrel
                  by_cases hlt : (k : Int) < (N : Int)
                  · have HS := Lib.hid (repl_succ [6, 7] k)
                    go_wp2_with (at_builtin; refine wpList_append_own _ rfl (.tmp 69) (.tmp 70) 34 rfl g0 3 i0 (.int .i64 0) 1 8 Try.underlying34 hi hz0 hz1 hz2 rfl (by decide) (.slice (some ⟨gk, 0, none⟩) (2 + k) ck) (2 + k) _ rfl (OK.out.alloc _) ⟨wr.heap.size, 0, none⟩ 1 1 [.int .i64 9] rfl rfl (cell_one_new _ _ _) (by simp [Value.oneCell']) (by unfold maxLen; omega) (by omega) (by have := (HBK.out).size; simp; omega) ?_; intro v1 w1 hown1 hgrow1 hnil1; obtain ⟨g1, c1, rfl, hg1⟩ := own_some hown1 (fun e => nomatch (hnil1.1 e).1); have hb1 := ((HBK.out.alloc (Nat.le_trans hgle HBK.out.size) (.cells #[.int .i64 9] 3))).grown hgrow1 (by have := (HBK.out).size; simp; omega) (fun q hq => by cases hq; assumption); clear hnil1 hgrow1 )
                    have O9 : Hid (w1.ownsRow g0 3 1 (.slice (some ⟨g1, 0, none⟩) (2 + (k + 1)) c1) (2 + (k + 1)) (([6, 7] ++ List.replicate (k + 1) 9 : List Int).map (.int .i64))) := Lib.hid (by rw [HS.out, List.map_append]; exact hown1)
                    have HB9 : Hid (Below g0 wA w1) := Lib.hid hb1
                    clear hown1 hb1 OK HBK HS
                    go_roundw
                    case rel => exact ⟨k + 1, g1, c1, by omega, by go_num, rfl, hg1, O9, HB9⟩
                    case measure => simp [intOf]; omega
                  · obtain rfl : k = N := by omega
                    go_wp2_with (at_builtin; refine wpList_append_own _ rfl (.tmp 72) (.tmp 74) 34 rfl g0 3 i0 (.int .i64 0) 1 8 Try.underlying34 hi hz0 hz1 hz2 rfl (by decide) (.slice (some ⟨gk, 0, none⟩) (2 + k) ck) (2 + k) _ rfl (OK.out.alloc _) ⟨wr.heap.size, 0, none⟩ 1 1 [.int .i64 3] rfl rfl (cell_one_new _ _ _) (by simp [Value.oneCell']) (by unfold maxLen; omega) (by omega) (by have := (HBK.out).size; simp; omega) ?_; intro v1 w1 hown1 hgrow1 hnil1; obtain ⟨g1, c1, rfl, hg1⟩ := own_some hown1 (fun e => nomatch (hnil1.1 e).1); have hb1 := ((HBK.out.alloc (Nat.le_trans hgle HBK.out.size) (.cells #[.int .i64 3] 3))).grown hgrow1 (by have := (HBK.out).size; simp; omega) (fun q hq => by cases hq; assumption); clear hnil1 hgrow1 )
                    have O9 : Hid (w1.ownsRow g0 3 1 (.slice (some ⟨g1, 0, none⟩) (2 + k + 1) c1) ((2 + k + 1)) (([6, 7] ++ List.replicate k 9 ++ [3] : List Int).map (.int .i64))) := Lib.hid (by rw [List.map_append]; exact hown1)
                    have HB9 : Hid (Below g0 wA w1) := Lib.hid hb1
                    clear hown1 hb1 OK HBK
                    try go_wp2_with fail
                    refine bodyPost_ret (results_tmp2 rfl _ _ _) rfl ?_
                    exact givesP_mk true HBA.out HG0.out O9.out HB9.out (by rw [HL.out, HPL.out] <;> simp) hm
            · obtain rfl : N = 0 := by omega
              have HPL := Lib.hid (HPL0.out.trans (by simp [gateL, paddL] : _ = ([6, 3] : List Int)))
              clear HPL0 hN
              try go_wp2_with fail
              go_loopw [6, 14] (fun x i wr => i = .int .i64 0 ∧ x = .slice (some ⟨g1, 0, none⟩) 1 c1 ∧ Hid (wr.ownsRow g0 3 1 (.slice (some ⟨g1, 0, none⟩) 1 c1) 1 (([6] : List Int).map (.int .i64))) ∧ Hid (Below g0 wA wr)) (fun _ _ _ => 0)
              case atStart => exact ⟨rfl, rfl, Lib.hid O5.out, HB5⟩
              case round =>
                clear k0 k1 k2 k3 k4 k5 k6
                clear O5 HB5
                obtain ⟨rfl, rfl, OK, HBK⟩ := hrel
                go_wp2_with (at_builtin; refine wpList_append_own _ rfl (.tmp 72) (.tmp 74) 34 rfl g0 3 i0 (.int .i64 0) 1 8 Try.underlying34 hi hz0 hz1 hz2 rfl (by decide) (.slice (some ⟨g1, 0, none⟩) (1) c1) (1) _ rfl (OK.out.alloc _) ⟨wr.heap.size, 0, none⟩ 1 1 [.int .i64 3] rfl rfl (cell_one_new _ _ _) (by simp [Value.oneCell']) (by unfold maxLen; omega) (by omega) (by have := (HBK.out).size; simp; omega) ?_; intro v1 w1 hown1 hgrow1 hnil1; obtain ⟨g1, c1, rfl, hg1⟩ := own_some hown1 (fun e => nomatch (hnil1.1 e).1); have hb1 := ((HBK.out.alloc (Nat.le_trans hgle HBK.out.size) (.cells #[.int .i64 3] 3))).grown hgrow1 (by have := (HBK.out).size; simp; omega) (fun q hq => by cases hq; assumption); clear hnil1 hgrow1 )
                have O9 : Hid (w1.ownsRow g0 3 1 (.slice (some ⟨g1, 0, none⟩) 2 c1) (2) (([6, 3] : List Int).map (.int .i64))) := Lib.hid (hown1)
                have HB9 : Hid (Below g0 wA w1) := Lib.hid hb1
                clear hown1 hb1 OK HBK
                try go_wp2_with fail
                refine bodyPost_ret (results_tmp2 rfl _ _ _) rfl ?_
                exact givesP_mk true HBA.out HG0.out O9.out HB9.out (by rw [HL.out, HPL.out] <;> simp) hm
          | false =>
            have k0 := Q3.out.c0
            have k1 := Q3.out.c1
            have k2 := Q3.out.c2
            have k3 := Q3.out.c3
            have k4 := Q3.out.c4
            have k5 := Q3.out.c5
            have k6 := Q3.out.c6
            go_wp2_with fail
            have CM2 := Lib.hid (fun W => CM.out false false false d true W)
            have hN40 := (minL_le (s := ⟨l, u, v, false, false, false, d⟩) hG true).1
            have HPL0 := Lib.hid (show planL ⟨l, u, v, false, false, false, d⟩ true = preL ⟨l, u, v, false, false, false, d⟩ true ++ (List.replicate (minL ⟨l, u, v, false, false, false, d⟩ true) 9 ++ [3]) from by simp [planL, gateL])
            unfold preL at HPL0
            generalize minL ⟨l, u, v, false, false, false, d⟩ true = N at CM2 hN40 HPL0
            clear CM hG
            refine (CM2.out _).mono ?_
            rintro e w5 ⟨rfl, hb⟩
            have O5 := Lib.hid (own_below O3.out hb)
            have HB5 := Lib.hid (HB3.out.trans (hb.mono (Nat.le_trans hgle HB3.out.size)))
            clear hb O3 HB3 CM2
            have q5 := BoxL.below QA.out HB5.out HXG.out
            clear k0 k1 k2 k3 k4 k5 k6
            have k0 := q5.c0
            have k1 := q5.c1
            have k2 := q5.c2
            have k3 := q5.c3
            have k4 := q5.c4
            have k5 := q5.c5
            have k6 := q5.c6
            clear q5
            have hN0 : (0 : Int) ≤ (N : Int) := by omega
            have hNb : (N : Int) ≤ 40 := by omega
            by_cases hN : 0 < (N : Int)
            · cases d with
              | true =>
                have HPL := Lib.hid (HPL0.out.trans (by simp [gateL, paddL, (show 0 < N by omega)] : _ = ([] : List Int) ++ (List.replicate N 9 ++ [3])))
                clear HPL0
                try go_wp2_with fail
                go_loopw [6, 14] (fun x i wr => ∃ (k g cc : Nat), k ≤ N ∧ i = .int .i64 k ∧ x = .slice (some ⟨g, 0, none⟩) (k) cc ∧ g0 ≤ g ∧ Hid (wr.ownsRow g0 3 1 (.slice (some ⟨g, 0, none⟩) (k) cc) (k) (([] ++ List.replicate k 9 : List Int).map (.int .i64))) ∧ Hid (Below g0 wA wr)) (fun _ i _ => N - (intOf i).toNat)
                case atStart => exact ⟨0, _, _, Nat.zero_le _, rfl, rfl, by assumption, Lib.hid O5.out, HB5⟩
                case round =>
                  clear k0 k1 k2 k3 k4 k5 k6
                  clear O5 HB5
                  obtain ⟨k, gk, ck, hk, rfl, rfl, hgk, OK, HBK⟩ := hrel
                  by_cases hlt : (k : Int) < (N : Int)
                  · have HS := Lib.hid (repl_succ [] k)
                    go_wp2_with (at_builtin; refine wpList_append_own _ rfl (.tmp 69) (.tmp 70) 34 rfl g0 3 i0 (.int .i64 0) 1 8 Try.underlying34 hi hz0 hz1 hz2 rfl (by decide) (.slice (some ⟨gk, 0, none⟩) (k) ck) (k) _ rfl (OK.out.alloc _) ⟨wr.heap.size, 0, none⟩ 1 1 [.int .i64 9] rfl rfl (cell_one_new _ _ _) (by simp [Value.oneCell']) (by unfold maxLen; omega) (by omega) (by have := (HBK.out).size; simp; omega) ?_; intro v1 w1 hown1 hgrow1 hnil1; obtain ⟨g1, c1, rfl, hg1⟩ := own_some hown1 (fun e => nomatch (hnil1.1 e).1); have hb1 := ((HBK.out.alloc (Nat.le_trans hgle HBK.out.size) (.cells #[.int .i64 9] 3))).grown hgrow1 (by have := (HBK.out).size; simp; omega) (fun q hq => by cases hq; assumption); clear hnil1 hgrow1 )
                    have O9 : Hid (w1.ownsRow g0 3 1 (.slice (some ⟨g1, 0, none⟩) (k + 1) c1) (k + 1) (([] ++ List.replicate (k + 1) 9 : List Int).map (.int .i64))) := Lib.hid (by rw [HS.out, List.map_append]; exact hown1)
                    have HB9 : Hid (Below g0 wA w1) := Lib.hid hb1
                    clear hown1 hb1 OK HBK HS
                    go_roundw
                    case rel => exact ⟨k + 1, g1, c1, by omega, by go_num, rfl, hg1, O9, HB9⟩
                    case measure => simp [intOf]; omega
                  · obtain rfl : k = N := by omega
                    go_wp2_with (at_builtin; refine wpList_append_own _ rfl (.tmp 72) (.tmp 74) 34 rfl g0 3 i0 (.int .i64 0) 1 8 Try.underlying34 hi hz0 hz1 hz2 rfl (by decide) (.slice (some ⟨gk, 0, none⟩) (k) ck) (k) _ rfl (OK.out.alloc _) ⟨wr.heap.size, 0, none⟩ 1 1 [.int .i64 3] rfl rfl (cell_one_new _ _ _) (by simp [Value.oneCell']) (by unfold maxLen; omega) (by omega) (by have := (HBK.out).size; simp; omega) ?_; intro v1 w1 hown1 hgrow1 hnil1; obtain ⟨g1, c1, rfl, hg1⟩ := own_some hown1 (fun e => nomatch (hnil1.1 e).1); have hb1 := ((HBK.out.alloc (Nat.le_trans hgle HBK.out.size) (.cells #[.int .i64 3] 3))).grown hgrow1 (by have := (HBK.out).size; simp; omega) (fun q hq => by cases hq; assumption); clear hnil1 hgrow1 )
                    have O9 : Hid (w1.ownsRow g0 3 1 (.slice (some ⟨g1, 0, none⟩) (k + 1) c1) ((k + 1)) (([] ++ List.replicate k 9 ++ [3] : List Int).map (.int .i64))) := Lib.hid (by rw [List.map_append]; exact hown1)
                    have HB9 : Hid (Below g0 wA w1) := Lib.hid hb1
                    clear hown1 hb1 OK HBK
                    try go_wp2_with fail
                    refine bodyPost_ret (results_tmp2 rfl _ _ _) rfl ?_
                    exact givesP_mk true HBA.out HG0.out O9.out HB9.out (by rw [HL.out, HPL.out] <;> simp) hm
              | false =>
                go_wp2_with (at_builtin; refine wpList_append_own _ rfl (.tmp 60) (.tmp 62) 34 rfl g0 3 i0 (.int .i64 0) 1 8 Try.underlying34 hi hz0 hz1 hz2 rfl (by decide) (.slice (some ⟨g0, 0, none⟩) (0) 0) (0) _ rfl (O5.out.alloc _) ⟨w5.heap.size, 0, none⟩ 1 1 [.int .i64 7] rfl rfl (cell_one_new _ _ _) (by simp [Value.oneCell']) (by unfold maxLen; omega) (by omega) (by have := (HB5.out).size; simp; omega) ?_; intro v1 w1 hown1 hgrow1 hnil1; obtain ⟨g1, c1, rfl, hg1⟩ := own_some hown1 (fun e => nomatch (hnil1.1 e).1); have hb1 := (HB5.out.alloc (Nat.le_trans hgle HB5.out.size) (.cells #[.int .i64 7] 3)).grown hgrow1 (by have := (HB5.out).size; simp; omega) (fun q hq => by cases hq; assumption); have qq := BoxL.below QA.out hb1 HXG.out; clear k0 k1 k2 k3 k4 k5 k6; have k0 := qq.c0; have k1 := qq.c1; have k2 := qq.c2; have k3 := qq.c3; have k4 := qq.c4; have k5 := qq.c5; have k6 := qq.c6; clear qq; clear hnil1 hgrow1)
                have O_1 : Hid (w1.ownsRow g0 3 1 (.slice (some ⟨g1, 0, none⟩) 1 c1) 1 (([7] : List Int).map (.int .i64))) := Lib.hid hown1
                have HB_1 : Hid (Below g0 wA w1) := Lib.hid hb1
                clear hown1 hb1 O5 HB5
                have HPL := Lib.hid (HPL0.out.trans (by simp [gateL, paddL, (show 0 < N by omega)] : _ = ([7] : List Int) ++ (List.replicate N 9 ++ [3])))
                clear HPL0
                try go_wp2_with fail
                go_loopw [6, 14] (fun x i wr => ∃ (k g cc : Nat), k ≤ N ∧ i = .int .i64 k ∧ x = .slice (some ⟨g, 0, none⟩) (1 + k) cc ∧ g0 ≤ g ∧ Hid (wr.ownsRow g0 3 1 (.slice (some ⟨g, 0, none⟩) (1 + k) cc) (1 + k) (([7] ++ List.replicate k 9 : List Int).map (.int .i64))) ∧ Hid (Below g0 wA wr)) (fun _ i _ => N - (intOf i).toNat)
                case atStart => exact ⟨0, _, _, Nat.zero_le _, rfl, rfl, by assumption, Lib.hid O_1.out, HB_1⟩
                case round =>
                  clear k0 k1 k2 k3 k4 k5 k6
                  clear O_1 HB_1
                  obtain ⟨k, gk, ck, hk, rfl, rfl, hgk, OK, HBK⟩ := hrel
                  by_cases hlt : (k : Int) < (N : Int)
                  · have HS := Lib.hid (repl_succ [7] k)
                    go_wp2_with (at_builtin; refine wpList_append_own _ rfl (.tmp 69) (.tmp 70) 34 rfl g0 3 i0 (.int .i64 0) 1 8 Try.underlying34 hi hz0 hz1 hz2 rfl (by decide) (.slice (some ⟨gk, 0, none⟩) (1 + k) ck) (1 + k) _ rfl (OK.out.alloc _) ⟨wr.heap.size, 0, none⟩ 1 1 [.int .i64 9] rfl rfl (cell_one_new _ _ _) (by simp [Value.oneCell']) (by unfold maxLen; omega) (by omega) (by have := (HBK.out).size; simp; omega) ?_; intro v1 w1 hown1 hgrow1 hnil1; obtain ⟨g1, c1, rfl, hg1⟩ := own_some hown1 (fun e => nomatch (hnil1.1 e).1); have hb1 := ((HBK.out.alloc (Nat.le_trans hgle HBK.out.size) (.cells #[.int .i64 9] 3))).grown hgrow1 (by have := (HBK.out).size; simp; omega) (fun q hq => by cases hq; assumption); clear hnil1 hgrow1 )
                    have O9 : Hid (w1.ownsRow g0 3 1 (.slice (some ⟨g1, 0, none⟩) (1 + (k + 1)) c1) (1 + (k + 1)) (([7] ++ List.replicate (k + 1) 9 : List Int).map (.int .i64))) := Lib.hid (by rw [HS.out, List.map_append]; exact hown1)
                    have HB9 : Hid (Below g0 wA w1) := Lib.hid hb1
                    clear hown1 hb1 OK HBK HS
                    go_roundw
                    case rel => exact ⟨k + 1, g1, c1, by omega, by go_num, rfl, hg1, O9, HB9⟩
                    case measure => simp [intOf]; omega
                  · obtain rfl : k = N := by omega
                    go_wp2_with (at_builtin; refine wpList_append_own _ rfl (.tmp 72) (.tmp 74) 34 rfl g0 3 i0 (.int .i64 0) 1 8 Try.underlying34 hi hz0 hz1 hz2 rfl (by decide) (.slice (some ⟨gk, 0, none⟩) (1 + k) ck) (1 + k) _ rfl (OK.out.alloc _) ⟨wr.heap.size, 0, none⟩ 1 1 [.int .i64 3] rfl rfl (cell_one_new _ _ _) (by simp [Value.oneCell']) (by unfold maxLen; omega) (by omega) (by have := (HBK.out).size; simp; omega) ?_; intro v1 w1 hown1 hgrow1 hnil1; obtain ⟨g1, c1, rfl, hg1⟩ := own_some hown1 (fun e => nomatch (hnil1.1 e).1); have hb1 := ((HBK.out.alloc (Nat.le_trans hgle HBK.out.size) (.cells #[.int .i64 3] 3))).grown hgrow1 (by have := (HBK.out).size; simp; omega) (fun q hq => by cases hq; assumption); clear hnil1 hgrow1 )
                    have O9 : Hid (w1.ownsRow g0 3 1 (.slice (some ⟨g1, 0, none⟩) (1 + k + 1) c1) ((1 + k + 1)) (([7] ++ List.replicate k 9 ++ [3] : List Int).map (.int .i64))) := Lib.hid (by rw [List.map_append]; exact hown1)
                    have HB9 : Hid (Below g0 wA w1) := Lib.hid hb1
                    clear hown1 hb1 OK HBK
                    try go_wp2_with fail
                    refine bodyPost_ret (results_tmp2 rfl _ _ _) rfl ?_
                    exact givesP_mk true HBA.out HG0.out O9.out HB9.out (by rw [HL.out, HPL.out] <;> simp) hm
            · obtain rfl : N = 0 := by omega
              have HPL := Lib.hid (HPL0.out.trans (by simp [gateL, paddL] : _ = ([3] : List Int)))
              clear HPL0 hN
              try go_wp2_with fail
              go_loopw [6, 14] (fun x i wr => i = .int .i64 0 ∧ x = .slice (some ⟨g0, 0, none⟩) 0 0 ∧ Hid (wr.ownsRow g0 3 1 (.slice (some ⟨g0, 0, none⟩) 0 0) 0 (([] : List Int).map (.int .i64))) ∧ Hid (Below g0 wA wr)) (fun _ _ _ => 0)
              case atStart => exact ⟨rfl, rfl, Lib.hid O5.out, HB5⟩
              case round =>
                clear k0 k1 k2 k3 k4 k5 k6
                clear O5 HB5
                obtain ⟨rfl, rfl, OK, HBK⟩ := hrel
                go_wp2_with (at_builtin; refine wpList_append_own _ rfl (.tmp 72) (.tmp 74) 34 rfl g0 3 i0 (.int .i64 0) 1 8 Try.underlying34 hi hz0 hz1 hz2 rfl (by decide) (.slice (some ⟨g0, 0, none⟩) (0) 0) (0) _ rfl (OK.out.alloc _) ⟨wr.heap.size, 0, none⟩ 1 1 [.int .i64 3] rfl rfl (cell_one_new _ _ _) (by simp [Value.oneCell']) (by unfold maxLen; omega) (by omega) (by have := (HBK.out).size; simp; omega) ?_; intro v1 w1 hown1 hgrow1 hnil1; obtain ⟨g1, c1, rfl, hg1⟩ := own_some hown1 (fun e => nomatch (hnil1.1 e).1); have hb1 := ((HBK.out.alloc (Nat.le_trans hgle HBK.out.size) (.cells #[.int .i64 3] 3))).grown hgrow1 (by have := (HBK.out).size; simp; omega) (fun q hq => by cases hq; assumption); clear hnil1 hgrow1 )
                have O9 : Hid (w1.ownsRow g0 3 1 (.slice (some ⟨g1, 0, none⟩) 1 c1) (1) (([3] : List Int).map (.int .i64))) := Lib.hid (hown1)
                have HB9 : Hid (Below g0 wA w1) := Lib.hid hb1
                clear hown1 hb1 OK HBK
                try go_wp2_with fail
                refine bodyPost_ret (results_tmp2 rfl _ _ _) rfl ?_
                exact givesP_mk true HBA.out HG0.out O9.out HB9.out (by rw [HL.out, HPL.out] <;> simp) hm
end Go.Proofs.Ytmnagjjpncancaa
