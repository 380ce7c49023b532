/- Chapter 7, the program: the list in ascending order of Id; the Ids of a row. -/
import Derived.Test.YtgnopkemcgbedabDgW
import Derived.Test.YtgnopkemcgbedabDgS
import Derived.Test.YtgnopkemcgbedabDgD
import Derived.Test.YtgnopkemcgbedabDgG
import Derived.Test.YtgnopkemcgbedabDgP
import Derived.Test.YtgnopkemcgbedabSrtLayC
namespace Go.Proofs.Ytgnopkemcgbedab
open Go.RowKit Go.PlainAid Go.Sort Go.Shelf
set_option linter.unusedVariables false
set_option linter.unusedSimpArgs false

instance : Inhabited TCargo := ⟨noCargo⟩
/-- The three cells of a vessel. -/
def encC (v : TCargo) : List Value := flatCargo [v]
theorem encC_len (x : TCargo) : (encC x).length = 3 := rfl
theorem encC_one (x : TCargo) : ∀ v ∈ encC x, v.oneCell' = true := by
  intro v hv
  simp [encC, flatCargo] at hv
  rcases hv with rfl | rfl | rfl <;> rfl
def cfC (x y : TCargo) : Int := cmpI x.x0 y.x0
theorem ltC : ltOf cfC = fun x y => decide (x.x0 < y.x0) := by
  funext x y
  unfold ltOf cfC
  rw [decide_eq_decide]
  unfold cmpI
  split
  · omega
  · split <;> omega
theorem swoC : SWO (ltOf cfC) := by
  rw [ltC]
  exact ⟨fun x => by simp, fun x y z h1 h2 => by simp only [decide_eq_true_eq] at *; omega, fun x y z h1 h2 => by simp only [decide_eq_false_iff_not] at *; omega⟩
theorem flatCargo_get : ∀ (vs : List TCargo) (t : Nat), t < 3 * vs.length → (flatCargo vs)[t]? = (flatCargo [vs.getD (t / 3) noCargo])[t % 3]?
  | [], t, h => absurd h (by simp)
  | v :: l, t, h => by
    by_cases h3 : t < 3
    · rw [Nat.div_eq_of_lt h3, Nat.mod_eq_of_lt h3]
      rcases t with _ | _ | _ | t
      · rfl
      · rfl
      · rfl
      · omega
    · obtain ⟨u, rfl⟩ : ∃ u, t = u + 3 := ⟨t - 3, by omega⟩
      have ih := flatCargo_get l u (by simp at h; omega)
      rw [show (u + 3) / 3 = u / 3 + 1 by omega, show (u + 3) % 3 = u % 3 by omega]
      exact ih
theorem flatK_C (d : Array TCargo) : flatK encC 3 d = (flatCargo d.toList).toArray := by
  apply Array.ext
  · rw [size_flatK]; show d.size * 3 = (flatCargo _).length; rw [flatCargo_len]; simp; omega
  · intro t h1 h2
    rw [size_flatK] at h1
    have hk : t / 3 < d.size := by omega
    have hg := flatCargo_get d.toList t (by simp; omega)
    have e1 := get_flatK encC 3 d t h1
    rw [getElem!_pos _ t (by rw [size_flatK]; exact h1)] at e1
    rw [e1, List.getElem_toArray]
    have e2 : d.toList.getD (t / 3) noCargo = d[t / 3]! := by
      rw [List.getD_eq_getElem?_getD, Array.getElem?_toList, Array.getElem?_eq_getElem hk, getElem!_pos d _ hk]; rfl
    rw [e2] at hg
    have e3 : (encC d[t / 3]!)[t % 3]? = some (encC d[t / 3]!)[t % 3]! := by
      have hl : t % 3 < (encC d[t / 3]!).length := by rw [encC_len]; omega
      rw [List.getElem?_eq_getElem hl, getElem!_pos (encC d[t / 3]!) (t % 3) hl]
    have e4 : (flatCargo d.toList)[t]? = some (encC d[t / 3]!)[t % 3]! := hg.trans e3
    rw [List.getElem?_eq_getElem (by simpa using h2)] at e4
    exact (Option.some.inj e4).symm
theorem holds_ofC {w : World} {base g n c : Nat} {d : Array TCargo} {vs : List TCargo} (hd : d.toList = vs) (h : w.ownsRow base 54 3 (.slice (some ⟨g, 0, none⟩) n c) n (flatCargo vs)) : HoldsK encC 3 w g 0 d := by
  unfold HoldsK
  rw [flatK_C, hd]
  intro j hj
  have hj' : j < (flatCargo vs).length := by simpa using hj
  refine ⟨?_, ?_⟩
  · rw [Nat.zero_add, h.cellAt j (by have := h.1; omega), getElem!_pos _ j hj]
    simp
  · rw [Nat.zero_add]; exact h.frozenAt j
theorem grow_ofBelow {w W : World} (h : BelowD w.heap.size w W) : ∃ q os, W = grow (w.drewN q) os := by
  refine ⟨W.drawn - w.drawn, W.heap.extract w.heap.size W.heap.size, ?_⟩
  have hd := h.d
  have hs := h.size
  obtain ⟨⟨h1, h2, h3, -, h5⟩, -⟩ := h
  obtain ⟨hp, tp, dr, os, ou⟩ := W
  obtain ⟨hp', tp', dr', os', ou'⟩ := w
  simp only at h1 h2 h3 h5 hd hs
  subst h1 h2 h3
  unfold grow World.drewN
  simp only [World.mk.injEq, and_true, true_and]
  refine ⟨?_, by omega⟩
  apply Array.ext_getElem?
  intro k
  by_cases hk : k < hp'.size
  · rw [h5 k hk, Array.getElem?_append_left hk]
  · rw [Array.getElem?_append_right (by omega), Array.getElem?_extract]
    split
    · congr 1; omega
    · rw [Array.getElem?_eq_none (by omega)]

set_option maxHeartbeats 1000000 in
theorem cmpId_any (i l q i2 l2 q2 : Int) (w : World) :
    Calls Try.prog 68 #[.agg #[.int .i64 i, .int .i64 l, .int .i64 q], .agg #[.int .i64 i2, .int .i64 l2, .int .i64 q2]] w fun e w' => e = .returned (.int .i64 (cmpI i i2)) ∧ BelowD w.heap.size w w' := by
  have CX := Lib.hid (fun W => cmpInt_any i i2 W)
  have HB := Lib.hid ((BelowD.allocW w (.cells #[.int .i64 i, .int .i64 l, .int .i64 q] 54)).trans ((BelowD.allocW (w.alloc (.cells #[.int .i64 i, .int .i64 l, .int .i64 q] 54)) (.cells #[.int .i64 i2, .int .i64 l2, .int .i64 q2] 54)).mono (by simp)))
  generalize cmpI i i2 = X at CX ⊢
  go_enter Try.func68, Try.ntmps68
  go_wp2_with fail
  refine (CX.out _).mono ?_
  rintro e w1 ⟨rfl, rfl⟩
  go_wp2_with fail
  go_ret
  exact ⟨rfl, HB.out⟩
theorem cmpLaysC (g size : Nat) (w : World) : CmpLays Try.prog 68 #[] encC 3 cfC g 0 size w :=
  fun m os dk _ x y => (cmpId_any x.x0 x.x1 x.x2 y.x0 y.x1 y.x2 (sortWorldK encC 3 w g 0 m dk os)).mono fun _ _ h => ⟨h.1, grow_ofBelow h.2⟩
theorem sortC_any {w : World} {base g c n : Nat} {vs : List TCargo} (hn : vs.length = n) (hm : n ≤ 1000) (hown : w.ownsRow base 54 3 (.slice (some ⟨g, 0, none⟩) n c) n (flatCargo vs)) :
    Calls Try.prog 103 #[.slice (some ⟨g, 0, none⟩) n c, .func (.func 68) #[] #[]] w fun e w' =>
      e = .returned (.tuple #[]) ∧ ∃ N : List TCargo, N.Perm vs ∧ N.Pairwise (fun x y => x.x0 ≤ y.x0) ∧ w'.ownsRow base 54 3 (.slice (some ⟨g, 0, none⟩) n c) n (flatCargo N) ∧ w.grownBy w' (some g) := by
  have hlt := (hown.lt g rfl).2
  have eg : ∀ args w, (callFunc 68 args).run Try.prog w = .ok (.enter 68 args) w := enters_of Try.func68 (by kernel_rfl) rfl
  have hsz : vs.toArray.size = n := by simpa using hn
  have hH := holds_ofC (d := vs.toArray) (by simp) hown
  have hcon := AnyQ.slices_SortFunc Try.sortC 3 Try.isAgg54 Try.sizeOf54 encC encC_len encC_one cfC swoC 68 #[] g 0 c vs.toArray w eg (cmpLaysC g _ w) hH hlt (by omega)
  rw [hsz] at hcon
  refine Calls.mono hcon ?_
  rintro e w' ⟨rfl, d', k, os, hp, hs, rfl⟩
  have hd' : d'.size = n := by rw [hp.1, hsz]
  refine ⟨rfl, d'.toList, ?_, ?_, ?_, ?_⟩
  · obtain ⟨hps, -, hpp⟩ := hp
    rw [← hsz, show d'.extract 0 vs.toArray.size = d' from by rw [← hps]; exact Array.extract_size, Array.extract_size] at hpp
    simpa using hpp
  · rw [List.pairwise_iff_getElem]
    intro i j hi hj hij
    have hi' : i < d'.size := by simpa using hi
    have hj' : j < d'.size := by simpa using hj
    have h5 := hs i j (Nat.zero_le _) hij (by omega)
    rw [ltC, getElem!_pos d' j hj', getElem!_pos d' i hi'] at h5
    simpa using h5
  · have := own_put (id : Value → Value) hown (flatK encC 3 d') (by rw [size_flatK, hd']) k os
    rw [List.map_id, flatK_C] at this
    show (grow (putRow id (Go.Sort.ahead w k) g 0 (flatK encC 3 d')) os).ownsRow _ _ _ _ _ _
    rw [flatK_C]
    exact this
  · exact grown_put (id : Value → Value) w g k (flatK encC 3 d') os
set_option maxHeartbeats 1000000 in
/-- The vessels in order, in a row of one's own. -/
theorem sortedC_any (Bs d : Nat) (A : Option Addr) (n c : Nat) (vs : List TCargo) (hz : vs.length = n) (hm : n ≤ 1000) (w : World) (hbs : Bs < w.heap.size) (hd : d ≤ w.heap.size) (hA : n = 0 → True)
    (hBs : w.cell? ⟨Bs, 0, none⟩ = some (.slice A n c)) (hh : Has w d A (flatCargo vs)) (h0 : 0 < n) :
    Calls Try.prog 70 #[.func (.func 104) #[] #[.pointer (some ⟨Bs, 0, none⟩)], .func (.func 68) #[] #[]] w fun e w' =>
      ∃ (g cp : Nat) (N : List TCargo), e = .returned (.slice (some ⟨g, 0, none⟩) n cp) ∧ N.Perm vs ∧ N.Pairwise (fun x y => x.x0 ≤ y.x0) ∧ w'.ownsRow w.heap.size 54 3 (.slice (some ⟨g, 0, none⟩) n cp) n (flatCargo N) ∧ Below w.heap.size w w' := by
  have C := Lib.hid (callsIn_wide.1 (appSeqC_in 3 (Nat.le_refl _) Bs d A n c vs hz hm w hbs hd hBs hh))
  have CC : Hid (Calls Try.prog 102 #[.func (.func 104) #[] #[.pointer (some ⟨Bs, 0, none⟩)]] w
      fun e w' => ∃ v, e = .returned v ∧ w'.ownsRow w.heap.size 54 3 v n (flatCargo vs) ∧ Below w.heap.size w w') := Lib.hid (by
    clear hh hBs
    go_enter Try.func102, Try.ntmps102
    go_wp2_with fail
    refine C.out.mono ?_
    rintro e w1 ⟨v, rfl, h1, h2⟩
    go_wp2_with fail
    go_ret
    exact ⟨v, rfl, h1, h2⟩)
  have CS := Lib.hid (fun g cp base W h => sortC_any (w := W) (base := base) (g := g) (c := cp) hz hm h)
  clear hh hBs C
  go_enter Try.func70, Try.ntmps70
  go_wp2_with fail
  refine CC.out.mono ?_
  rintro e w1 ⟨v, rfl, h1, h2⟩
  obtain ⟨g, cp, rfl, hg⟩ := own_some h1 (fun e => by
    have h3 := h1.2
    rw [e] at h3
    rcases h3 with ⟨-, h⟩ | ⟨_, _, _, h, -⟩
    · omega
    · cases h)
  have HO := Lib.hid h1
  have HB := Lib.hid h2
  clear h1 h2 CC
  go_wp2_with fail
  refine (CS.out _ _ _ _ HO.out).mono ?_
  rintro e w2 ⟨rfl, N, h1, h2, h3, h4⟩
  have H1 := Lib.hid h1
  have H2 := Lib.hid h2
  have H3 := Lib.hid h3
  have HB2 := Lib.hid (HB.out.grown h4 HB.out.size (fun k e => by cases e; exact hg))
  clear h1 h2 h3 h4 CS
  go_wp2_with fail
  go_ret
  first | exact ⟨g, cp, N, rfl, H1.out, H2.out, H3.out, HB2.out⟩ | exact ⟨g, cp, rfl, N, H1.out, H2.out, H3.out, HB2.out⟩
set_option maxRecDepth 100000 in
set_option maxHeartbeats 2000000 in
theorem ids_any {w : World} {B : Nat} {A : Option Addr} {n : Nat} {M : List TCargo} (c : Nat) (h : IsCargos w B A n M) (hm : n ≤ 1000) :
    Calls Try.prog 72 #[.slice A n c] w fun e w' => ∃ v, e = .returned v ∧ OwnZ w w' (M.map (·.x0)) n v := by
  obtain ⟨i0, hi, hz0, hz1, hz2⟩ := info_parts Try.infoInt'
  have HI := Lib.hid h
  have P1 : Hid (OwnZ w (w.alloc (.cells #[] 3)) ((M.take 0).map (·.x0)) 0 (.slice (some ⟨w.heap.size, 0, none⟩) 0 0)) := Lib.hid (OwnZ.nil (Below.refl _ _))
  clear h
  go_enter Try.func72, Try.ntmps72
  go_wp2_with fail
  go_loopw [3, 9] (fun o i wr => ∃ k : Nat, k ≤ n ∧ i = .int .i64 k ∧ OwnZ w wr ((M.take k).map (·.x0)) k o) (fun _ i _ => n - (intOf i).toNat)
  case atStart => exact ⟨0, Nat.zero_le _, rfl, P1.out⟩
  case round =>
    clear P1
    obtain ⟨k, hk, rfl, hP⟩ := hrel
    have hq := hP.low
    by_cases hlt : k < n
    · have hkl : k < M.length := by rw [HI.out.len]; exact hlt
      obtain ⟨a1, rfl, hab, HV⟩ := (HI.out.below hq HI.out.low).has.Cargo hkl
      have HS : Hid (((M.take (k + 1)).map (·.x0)).map (Value.int .i64) = ((M.take k).map (·.x0)).map (Value.int .i64) ++ [.int .i64 (M.getD k noCargo).x0]) := Lib.hid (by
        rw [List.take_succ_eq_append_getElem hkl, getCargo hkl]; simp only [List.map_append, List.map_cons, List.map_nil])
      generalize M.getD k noCargo = V at HV HS
      obtain ⟨i, l, q⟩ := V
      obtain ⟨e0, e1, e2⟩ := HV
      dsimp only at e0 e1 e2
      have hk0 : (0 : Int) ≤ (k : Int) := by omega
      have hk1 : (k : Int) < (n : Int) := by omega
      have HS' : Hid (((M.take (k + 1)).map (·.x0)).map (Value.int .i64) = ((M.take k).map (·.x0)).map (Value.int .i64) ++ [.int .i64 i]) := HS
      obtain ⟨g0, cp, rfl, hg0, hown, hb⟩ := hP
      clear HS hq
      have hcell : ∀ j u, [Value.int .i64 i][j]? = some u → ((wr.alloc (.cells #[.int .i64 i, .int .i64 l, .int .i64 q] 54)).alloc (.cells #[.int .i64 i] 3)).cell? ((⟨wr.heap.size + 1, 0, none⟩ : Addr).add j) = some u := by
        have h := cell_one_new (wr.alloc (.cells #[.int .i64 i, .int .i64 l, .int .i64 q] 54)) (.int .i64 i) 3
        rwa [World.size_alloc] at h
      have HCELL := Lib.hid hcell
      clear hcell
      go_wp2_with (at_builtin; refine wpList_append_own _ rfl (.tmp 13) (.tmp 16) 25 rfl w.heap.size 3 i0 (.int .i64 0) 1 8 Try.underlying25 hi hz0 hz1 hz2 rfl (by decide) (.slice (some ⟨g0, 0, none⟩) k cp) k _ rfl ((hown.alloc _).alloc _) ⟨wr.heap.size + 1, 0, none⟩ 1 1 [.int .i64 i] rfl rfl HCELL.out (by simp [Value.oneCell']) (by unfold maxLen; omega) (by omega) (by have := hb.size; simp; omega) ?_; intro v1 w1 hown1 hgrow1 hnil1; obtain ⟨g1, c1, rfl, hg1⟩ := own_some hown1 (fun e => nomatch (hnil1.1 e).1); have hb1 := ((hb.alloc hb.size (.cells #[.int .i64 i, .int .i64 l, .int .i64 q] 54)).alloc (by have := hb.size; simp; omega) (.cells #[.int .i64 i] 3)).grown hgrow1 (by have := hb.size; simp; omega) (fun q hq => by cases hq; assumption); clear hown hnil1 hgrow1 hb HCELL)
      go_roundw
      case rel => exact ⟨k + 1, by omega, by go_num, g1, c1, rfl, hg1, by rw [HS'.out]; exact hown1, hb1⟩
      case measure => simp [intOf]; omega
    · obtain rfl : k = n := by omega
      rw [List.take_of_length_le (by rw [HI.out.len]; exact Nat.le_refl _)] at hP
      go_wp2_with fail
      go_ret
      exact ⟨_, rfl, hP⟩
end Go.Proofs.Ytgnopkemcgbedab
