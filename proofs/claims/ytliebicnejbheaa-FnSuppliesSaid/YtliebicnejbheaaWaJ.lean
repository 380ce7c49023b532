/- Chapter 10: what has to be refilled: the model and the program. -/
import Derived.Test.YtliebicnejbheaaWaE
import Derived.Test.YtliebicnejbheaaInts
import Derived.StillTailTactics
import Derived.Laws.OwnMore
namespace Go.Proofs.Ytliebicnejbheaa
open Go.RowKit Go.PlainAid Go.Sort
set_option linter.unusedVariables false
set_option linter.unusedSimpArgs false
theorem ite_mx7 (x y : Int) : (if x < y then y else x) = max x y := by split <;> omega
theorem ite_mx (x y : Int) : (if y < x then x else y) = max x y := by split <;> omega
attribute [local go_sem] ite_mx7 ite_mx

/-- A row of integers of its own, and b. -/
def GivesZ (w : World) (L : List Int) (m : Nat) (x : Bool) (e : Ending) (w' : World) : Prop :=
  ∃ g c', e = .returned (.tuple #[.slice (some ⟨g, 0, none⟩) m c', .bool x]) ∧ w'.ownsRow w.heap.size 3 1 (.slice (some ⟨g, 0, none⟩) m c') m (L.map (.int .i64)) ∧ Below w.heap.size w w'
theorem givesZ_nil {w w0 : World} (hb : Below w.heap.size w w0) (x : Bool) : GivesZ w [] 0 x (.returned (.tuple #[.slice (some ⟨w0.heap.size, 0, none⟩) 0 0, .bool x])) (w0.alloc (.cells #[] 3)) :=
  ⟨w0.heap.size, 0, rfl, own_low (World.ownsRow_made w0 #[] 0 (Nat.le_refl _) (by unfold maxLen; omega) rfl) hb.size, hb.alloc hb.size _⟩
theorem l1Most_any (x y : Int) (w : World) : Calls Try.prog 75 #[.int .i64 x, .int .i64 y] w fun e w' => e = .returned (.int .i64 (max x y)) ∧ w = w' := by
  by_cases h : x > y
  · rw [show max x y = x by omega]
    go_enter Try.func75, Try.ntmps75
    go_wp2
    go_ret
    exact ⟨rfl, rfl⟩
  · rw [show max x y = y by omega]
    go_enter Try.func75, Try.ntmps75
    go_wp2
    go_ret
    exact ⟨rfl, rfl⟩
theorem own_cellZ {w : World} {base g n c : Nat} {L : List Int} (h : w.ownsRow base 3 1 (.slice (some ⟨g, 0, none⟩) n c) n (L.map (.int .i64))) {k : Nat} (hk : k < n) : w.cell? ⟨g, k, none⟩ = some (.int .i64 (L.getD k 0)) := by
  have hl : L.length = n := by have := h.1; simpa using this
  rw [h.cellAt k (by omega)]
  simp [List.getD_eq_getElem?_getD, hl, hk]
theorem own_storeZ {w : World} {base g n c : Nat} {L : List Int} (h : w.ownsRow base 3 1 (.slice (some ⟨g, 0, none⟩) n c) n (L.map (.int .i64))) (k : Nat) (z : Int) :
    (w.setCell ⟨g, k, none⟩ (.int .i64 z)).ownsRow base 3 1 (.slice (some ⟨g, 0, none⟩) n c) n ((L.set k z).map (.int .i64)) ∧ w.grownBy (w.setCell ⟨g, k, none⟩ (.int .i64 z)) (some g) := by
  have s := h.stored k (.int .i64 z)
  rw [List.map_set]
  exact s
/-- One round more. -/
theorem need_step (vs : List TBasin) (fs : List TFlow) (i t : Nat) : need vs fs i (t + 1) = max (need vs fs i t) (((moves vs fs (t + 1)).getD i noBasin).x1 - ((moves vs fs (t + 1)).getD i noBasin).x0) := rfl

set_option maxRecDepth 100000 in
set_option maxHeartbeats 4000000 in
theorem refS_any {w : World} {B B2 : Nat} {A A2 : Option Addr} {n m : Nat} {vs : List TBasin} {fs : List TFlow} (c c2 : Nat) (h : IsBasins w B A n vs) (hm : n ≤ 1048576) (h2 : IsFlows w B2 A2 m fs) (hm2 : m ≤ 1048576)
    (L : List Int) (x : Bool) (hA : RefA vs fs L x) (q : Nat) (hl : L.length = q) :
    Calls Try.prog 39 #[.slice A n c, .slice A2 m c2] w (GivesZ w L q x) := by
  have C := Lib.hid (l10Flows_any c c2 h (Nat.le_trans hm (by unfold maxLen; omega)) h2 (Nat.le_trans hm2 (by unfold maxLen; omega)))
  have HI := Lib.hid h
  have HJ := Lib.hid h2
  have HNO := Lib.hid hA.2
  have HYES := Lib.hid hA.1
  have HM := Lib.hid hl
  obtain ⟨G, hG⟩ : ∃ G, gT vs fs = G := ⟨_, rfl⟩
  rw [hG] at HNO HYES C
  have HGE := Lib.hid hG
  clear h h2 hA hG hl
  go_enter Try.func39, Try.ntmps39
  go_wp2_with fail
  refine C.out.mono ?_
  rintro e w1 ⟨rfl, hb⟩
  have HB1 := Lib.hid hb
  clear hb C
  cases G with
  | false =>
    obtain ⟨rfl, rfl⟩ := HNO.out rfl
    obtain rfl : 0 = q := HM.out
    clear HNO HYES HGE
    go_wp2_with fail
    refine bodyPost_ret (results_tmp2 rfl _ _ _) rfl ?_
    exact givesZ_nil HB1.out false
  | true =>
  obtain ⟨hL, rfl⟩ := HYES.out rfl
  have hcan := (gT_iff vs fs).1 HGE.out
  have hn6 : n ≤ 6 := by rw [← HI.out.len]; exact hcan.1.1.2
  have hn1 : 0 < n := by rw [← HI.out.len]; exact hcan.1.1.1
  have hm12 : m ≤ 12 := by rw [← HJ.out.len]; exact hcan.2.1
  obtain ⟨a, rfl⟩ := some_of HI.out hn1
  obtain rfl : n = q := by rw [← HM.out, hL, needs_len, HI.out.len]
  rw [HJ.out.len] at hL
  have HL := Lib.hid hL
  have HF := Lib.hid (fun k (hk : k < m) => show goodF vs.length (fs.getD k noFlow) from hcan.2.2 k (by rw [HJ.out.len]; exact hk))
  have HLM := Lib.hid (fun k => (moves_len vs fs k).trans HI.out.len)
  have HBD := Lib.hid (fun k (hk : k ≤ m) => (moves_bd hcan k (by rw [HJ.out.len]; exact hk)).le (by omega : k ≤ 12))
  have HND := Lib.hid (fun i (hi : i < n) t (ht : t ≤ m) => need_bd hcan (i := i) (by rw [HI.out.len]; exact hi) t (by rw [HJ.out.len]; exact ht))
  have HN0 : Hid (needs vs fs 0 = List.replicate n 0) := Lib.hid (by rw [← HI.out.len]; exact needs_zero vs fs)
  have HNZ := Lib.hid (fun t => needK_zero vs fs t)
  have HNA : Hid (∀ t, needK vs fs t n = needs vs fs (t + 1)) := Lib.hid (fun t => by rw [← HI.out.len]; exact needK_all vs fs t)
  have HNS := Lib.hid (fun t k (hk : k < n) => needK_set (vs := vs) (fs := fs) (t := t) (k := k) (by rw [HI.out.len]; exact hk))
  have HNT := Lib.hid (fun t k (hk : k < n) => needK_at (vs := vs) (fs := fs) (t := t) (k := k) (by rw [HI.out.len]; exact hk))
  clear HNO HYES HM HGE hL hcan
  obtain ⟨j0, hj, hy0, hy1, hy2⟩ := info_parts Try.infoInt'
  go_wp2_with (at_make; refine wpList_make_full _ rfl _ _ 47 rfl w1.heap.size 3 j0 (.int .i64 0) 1 Try.underlying47 hj hy0 hy1 _ _ _ _ n rfl rfl rfl rfl ?b2 ?b3 (Nat.le_refl _) ?_)
  case b2 => rw [hy2]; omega
  case b3 => unfold maxLen; omega
  intro w0 hown0 hgrow0
  have hbm : Below w1.heap.size w1 w0 := (Below.refl _ _).grown hgrow0 (Nat.le_refl _) (fun k h => by cases h)
  have HB0 := Lib.hid (HB1.out.trans (hbm.mono HB1.out.size))
  rw [toList_madeCells_one, ← List.map_replicate (f := Value.int .i64), ← HN0.out] at hown0
  have HNEED := Lib.hid (own_low hown0 HB1.out.size)
  have hgn : w.heap.size ≤ w1.heap.size := HB1.out.size
  generalize w1.heap.size = gn at HNEED hgn ⊢
  clear hown0 hgrow0 hbm HB1
  obtain ⟨i0, hi, hz0, hz1, hz2⟩ := info_parts Try.infoBasin'
  have hfl : (flatBasin vs).length = n * 3 := by rw [flatBasin_len, HI.out.len]; omega
  have HN : Hid (∀ j u, (flatBasin vs)[j]? = some u → (w0.alloc (.cells #[] 53)).cell? (a.add j) = some u) := Lib.hid (fun j u hu => by
    obtain ⟨a', e, hb, hc⟩ := (HI.out.below (HB0.out.alloc HB0.out.size (.cells #[] 53)) HI.out.low).has j u hu
    injection e with e
    subst e
    exact hc)
  have HOC : Hid (∀ u ∈ flatBasin vs, u.oneCell' = true) := Lib.hid (flatBasin_one vs)
  have HR := Lib.hid (World.ownsRow_made (size := 3) (e := 53) w0 #[] 0 (Nat.le_refl _) (by unfold maxLen; omega) rfl)
  obtain ⟨xs, hxs⟩ : ∃ xs, flatBasin vs = xs := ⟨_, rfl⟩
  rw [hxs] at hfl HN HOC
  have HXS := Lib.hid hxs
  clear hxs
  go_wp2_with (at_builtin; refine wpList_append_own _ rfl (.tmp 18) (.tmp 19) 24 rfl w0.heap.size 53 i0 (.agg #[.int .i64 0, .int .i64 0, .int .i64 0]) 3 24 Try.underlying24 hi hz0 hz1 hz2 rfl (by decide) (.slice (some ⟨w0.heap.size, 0, none⟩) 0 0) 0 [] rfl HR.out a n c xs rfl hfl HN.out HOC.out (by unfold maxLen; omega) (by omega) (by simp) ?_; intro v1 w2 hown1 hgrow1 hnil1; obtain ⟨g1, c1, rfl, hg1⟩ := own_some hown1 (fun e => nomatch (hnil1.1 e).1); have HB9 := Lib.hid (((Below.refl w0.heap.size w0).alloc (Nat.le_refl _) (.cells #[] 53)).grown hgrow1 (by simp) (fun q hq => by cases hq; exact Nat.le_refl _)); rw [Nat.zero_add, List.nil_append] at hown1; have HOWN := Lib.hid hown1; clear hown1 hgrow1 hnil1 HR HN HOC)
  rw [← HXS.out] at HOWN
  have HO0 : Hid (OwnB w w2 vs n (.slice (some ⟨g1, 0, none⟩) n c1)) := Lib.hid (OwnB.base ⟨g1, c1, rfl, hg1, HOWN.out, HB9.out⟩ HB0.out)
  have HNEED2 := Lib.hid (own_below HNEED.out HB9.out)
  clear HOWN HB9 HXS hg1 hfl HNEED
  clear HB0
  go_wp2_with fail
  go_loopw [7, 8] (fun v i wr => ∃ t : Nat, t ≤ m ∧ i = .int .i64 t ∧ OwnB w wr (moves vs fs t) n v ∧ Hid (wr.ownsRow w.heap.size 3 1 (.slice (some ⟨gn, 0, none⟩) n n) n ((needs vs fs t).map (.int .i64)))) (fun _ i _ => m - (intOf i).toNat)
  case atStart => exact ⟨0, Nat.zero_le _, rfl, HO0.out, HNEED2⟩
  case round =>
    clear HO0 HNEED2
    obtain ⟨t, ht, rfl, hO, HNEED⟩ := hrel
    by_cases hlt : t < m
    · obtain ⟨a2, ea2, -, HV⟩ := (HJ.out.below hO.low HJ.out.low).has.Flow (k := t) (by rw [HJ.out.len]; exact hlt)
      obtain rfl := ea2
      have hfk := HF.out t hlt
      rw [HI.out.len] at hfk
      have HMV : Hid (move (moves vs fs t) (fs.getD t noFlow) = moves vs fs (t + 1)) := Lib.hid rfl
      obtain ⟨V, hV⟩ : ∃ V, fs.getD t noFlow = V := ⟨_, rfl⟩
      rw [hV] at HV hfk HMV
      clear hV
      obtain ⟨f0, f1, f2⟩ := V
      obtain ⟨e0, e1, e2⟩ := HV
      dsimp only at e0 e1 e2
      have hk0 : (0 : Int) ≤ (t : Int) := by omega
      have hk1 : (t : Int) < (m : Int) := by omega
      obtain ⟨g, cg, rfl, hg1, hg2, hg3⟩ := hO
      have CM := Lib.hid (l10Move_any cg (own_Basins hg2) hn6 f0 f1 f2 hfk (HBD.out t ht))
      rw [HMV.out] at CM
      have HB := Lib.hid hg3
      clear hg2 hg3 hfk HMV
      go_wp2_with fail
      refine CM.out.mono ?_
      rintro e w5 ⟨v5, rfl, hO5⟩
      have HNE5 := Lib.hid (own_below HNEED.out hO5.low)
      have hO6 := hO5.base HB.out
      obtain ⟨g5, c5, rfl, hg5, hg6, hg7⟩ := hO6
      have HOW5 := Lib.hid hg6
      have HB5 := Lib.hid hg7
      have HGG : Hid (some gn ≠ some g5) := Lib.hid (by
        rcases own_ne HNE5.out hg6 (by decide) with h | h
        · simp [Value.ownBlock] at h
        · simpa [Value.ownBlock] using h)
      clear hO5 hg6 hg7 CM HNEED HB
      have HT1 : t + 1 ≤ m := hlt
      rw [← HNZ.out] at HNE5
      go_wp2_with fail
      go_loopw [9] (fun i wr => ∃ k : Nat, k ≤ n ∧ i = .int .i64 k ∧ Hid (wr.ownsRow w.heap.size 3 1 (.slice (some ⟨gn, 0, none⟩) n n) n ((needK vs fs t k).map (.int .i64))) ∧ Hid (wr.ownsRow w.heap.size 53 3 (.slice (some ⟨g5, 0, none⟩) n c5) n (flatBasin (moves vs fs (t + 1)))) ∧ Hid (Below w.heap.size w wr)) (fun i _ => n - (intOf i).toNat)
      case atStart => exact ⟨0, Nat.zero_le _, rfl, HNE5, HOW5, HB5⟩
      case round =>
        clear HNE5 HOW5 HB5 e0 e1 e2
        obtain ⟨k, hk, rfl, HNE, HOW, HB⟩ := hrel
        by_cases hlk : k < n
        · have n0 := own_cellZ HNE.out hlk
          have n1 := HNE.out.frozenAt k
          rw [HNT.out t k hlk] at n0
          obtain ⟨b0, b1, b2⟩ := own_atB HOW.out hlk
          have hbk := HBD.out (t + 1) HT1 k (by rw [HLM.out]; exact hlk)
          have hnk := HND.out k hlk t ht
          have HSTEP := Lib.hid (need_step vs fs k t)
          have HSET := Lib.hid (HNS.out t k hlk)
          generalize need vs fs k (t + 1) = nx at HSTEP HSET
          generalize need vs fs k t = nn at n0 hnk HSTEP
          generalize (moves vs fs (t + 1)).getD k noBasin = V at b0 b1 b2 hbk HSTEP
          obtain ⟨d, l, mo⟩ := V
          dsimp only at b0 b1 b2 hbk HSTEP
          have hj0 : (0 : Int) ≤ (k : Int) := by omega
          have hj1 : (k : Int) < (n : Int) := by omega
          have hng : gn ≠ g5 := fun e => HGG.out (by rw [e])
          have HOT := Lib.hid (own_storeZ HNE.out k nx)
          rw [HSET.out] at HOT
          have CX := Lib.hid (fun W => flip (l1Most_any nn (l - d) W))
          rw [← HSTEP.out] at CX
          have hnx : 0 ≤ nx ∧ nx ≤ 2000000 := by rw [HSTEP.out]; omega
          obtain ⟨WD, hWD⟩ : ∃ WD : World, ({ wr with drawn := wr.drawn + 1 } : World) = WD := ⟨_, rfl⟩
          have HWD := Lib.hid hWD
          have q0 : WD.cell? ⟨gn, k, none⟩ = some (.int .i64 nn) := by rw [← hWD]; exact n0
          have q1 : WD.frozen? ⟨gn, k, none⟩ = false := by rw [← hWD]; exact n1
          have c0 : WD.cell? ⟨g5, k * 3, none⟩ = some (.int .i64 d) := by rw [← hWD]; exact b0
          have c1 : WD.cell? ⟨g5, k * 3 + 1, none⟩ = some (.int .i64 l) := by rw [← hWD]; exact b1
          clear n0 n1 b0 b1 b2 hWD HSTEP HSET
          have hwr : IntKind.i64.wrap (l - d) = l - d := by rw [IntKind.wrap_i64]; omega
          go_wp2_with fail
          refine wp_region_still_tail 19 (by kernel_rfl) (by kernel_rfl) ?_
          rw [HWD.out]
          simp only [List.take_succ_cons, List.take_zero, List.drop_succ_cons, List.drop_zero]
          repeat still_step
          still_call (CX.out WD)
          repeat still_step
          refine wpStill_nil ?_
          have t1 := HOT.out
          clear hwr
          go_wp2_with fail
          have hbd : Below wr.heap.size wr WD := by rw [← HWD.out]; exact (Drawn.one _ 1).below _
          have t0 : (WD.setCell ⟨gn, k, none⟩ (.int .i64 nx)).ownsRow w.heap.size 3 1 (.slice (some ⟨gn, 0, none⟩) n n) n ((needK vs fs t (k + 1)).map (.int .i64)) := by rw [← HWD.out]; exact t1.1
          go_roundw
          case rel => exact ⟨k + 1, by omega, by go_num, Lib.hid t0, Lib.hid (own_set (own_below HOW.out hbd) gn k _ (by simp [Value.ownBlock]; omega)), Lib.hid ((HB.out.trans (hbd.mono HB.out.size)).setCell (p := ⟨gn, k, none⟩) hgn _)⟩
          case measure => simp [intOf]; omega
        · obtain rfl : k = n := by omega
          rw [HNA.out] at HNE
          have HOO : Hid (OwnB w wr (moves vs fs (t + 1)) k (.slice (some ⟨g5, 0, none⟩) k c5)) := Lib.hid ⟨g5, c5, rfl, hg5, HOW.out, HB.out⟩
          clear HNT HNS HND HBD HOW HB HF HLM
          go_wp2_with fail
          go_roundw
          case rel => exact ⟨t + 1, by omega, by go_num, HOO.out, HNE⟩
          case measure => simp [intOf]; omega
    · obtain rfl : t = m := by omega
      have HB := Lib.hid hO.low
      obtain ⟨g, cg, rfl, -⟩ := hO
      have HE := Lib.hid HNEED.out
      rw [← HL.out] at HE
      clear HNT HNS HND HBD HF HLM HNEED
      go_wp2_with fail
      refine bodyPost_ret (results_tmp2 rfl _ _ _) rfl ?_
      exact ⟨gn, n, rfl, HE.out, HB.out⟩
end Go.Proofs.Ytliebicnejbheaa
