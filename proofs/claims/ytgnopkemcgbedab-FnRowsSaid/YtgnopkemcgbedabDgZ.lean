/- Chapter 7: ShortestRow of the program. -/
import Derived.Test.YtgnopkemcgbedabDgN
import Derived.Test.YtgnopkemcgbedabDgE
import Derived.Test.YtgnopkemcgbedabSt0
namespace Go.Proofs.Ytgnopkemcgbedab
open Go.RowKit Go.PlainAid Go.Sort
set_option linter.unusedVariables false
set_option linter.unusedSimpArgs false

/-- The best of the first t orders. -/
def foldTo (S : List TCargo) (t : Nat) : List TCargo × Int := (((prmN S.length).take t).map fun p => (rowOf S p, ext (rowOf S p))).foldl stepB ([], -1)
theorem foldTo_all {S : List TCargo} (hg : ∀ v ∈ S, goodC v) : foldTo S (prmN S.length).length = bst S.length [] S := by
  rw [bst_prm S.length [] S rfl (by simpa using hg), prm_idx, foldTo, List.take_length, List.map_map]
  rfl
theorem prmN_place {S : List TCargo} {n : Nat} (hl : S.length = n) (ha : S.Pairwise fun a b => a.x0 < b.x0) {t : Nat} (ht : t < (prmN n).length) : PlaceP S (prmN n)[t] n := by
  have hp := prm_perm 9 (by simp) (List.getElem_mem ht)
  refine ⟨by rw [hp.length_eq]; simp, hl, fun x hx => by have := hp.mem_iff.1 hx; simpa using this, hp.nodup_iff.2 List.nodup_range, ha⟩
theorem rowOf_perm {S : List TCargo} {n : Nat} (hl : S.length = n) {t : Nat} (ht : t < (prmN n).length) : (rowOf S (prmN n)[t]).Perm S := by
  have hp := prm_perm 9 (by simp) (List.getElem_mem ht)
  have := hp.map (fun i => S.getD i noCargo)
  subst hl
  rwa [range_map] at this
theorem foldTo_next {S : List TCargo} {t : Nat} (ht : t < (prmN S.length).length) : foldTo S (t + 1) = stepB (foldTo S t) (rowOf S (prmN S.length)[t], ext (rowOf S (prmN S.length)[t])) := by
  unfold foldTo
  rw [List.take_succ_eq_append_getElem ht, List.map_append, List.foldl_append]
  rfl
theorem ext_pos {S : List TCargo} (hg : ∀ v ∈ S, goodC v) {P : List TCargo} (hP : P.Perm S) : 0 ≤ ext P := (extK_bd (fun j hj => by
  rw [getCargo hj]
  exact hg _ (hP.mem_iff.1 (List.getElem_mem hj)))).1
theorem foldTo_pos {S : List TCargo} (hg : ∀ v ∈ S, goodC v) : ∀ t, t < (prmN S.length).length → 0 ≤ (foldTo S (t + 1)).2
  | 0, ht => by
    rw [foldTo_next ht, show foldTo S 0 = ([], -1) from rfl, stepB_none]
    exact ext_pos hg (rowOf_perm rfl ht)
  | t + 1, ht => by
    rw [foldTo_next ht]
    exact stepB_pos _ _ (foldTo_pos hg t (by omega)) (ext_pos hg (rowOf_perm rfl ht))
theorem foldTo_one {S : List TCargo} (h6 : S.length ≤ 6) : foldTo S 1 = (S, ext S) := by
  have h0 := first_all S.length h6
  have hl : 0 < (prmN S.length).length := by
    have := (List.getElem?_eq_some_iff.1 h0).1
    exact this
  rw [foldTo_next hl, show foldTo S 0 = ([], -1) from rfl, stepB_none]
  have e : (prmN S.length)[0] = List.range S.length := by rw [List.getElem?_eq_getElem hl] at h0; exact Option.some.inj h0
  rw [e]
  unfold rowOf
  rw [range_map]
theorem extA_perm {vs P : List TCargo} (hg : goodCs vs) (hP : P.Perm vs) : ExtA P (ext P) true := ⟨fun _ => ⟨rfl, rfl⟩, fun e => by rw [gCs_yes (goodCs_perm hg hP)] at e; cases e⟩
theorem asc_of {vs N : List TCargo} (hg : goodCs vs) (hp : N.Perm vs) (hs : N.Pairwise fun x y => x.x0 ≤ y.x0) : Asc vs N := by
  refine ⟨hp, ?_⟩
  have hd := ((goodCs_iff N).1 (goodCs_perm hg hp)).2.2
  have := hd.and hs
  refine this.imp (fun {a b} h => ?_)
  obtain ⟨h1, h2⟩ := h
  omega

set_option maxHeartbeats 1000000 in
theorem len64z_any (w : World) : Calls Try.prog 128 #[.int .u64 0] w fun e w' => e = .returned (.int .i64 0) ∧ w = w' := by
  go_enter Try.func128, Try.ntmps128
  go_wp2
  refine bodyPost_ret (results_tmp rfl _ _ _) rfl ?_
  exact ⟨ret_int (by decide +kernel), rfl⟩
set_option maxHeartbeats 1000000 in
theorem lenz_any (w : World) : Calls Try.prog 109 #[.int .u64 0] w fun e w' => e = .returned (.int .i64 0) ∧ w = w' := by
  have C := Lib.hid (fun W => len64z_any W)
  go_enter Try.func109, Try.ntmps109
  go_wp2_with fail
  refine (C.out _).mono ?_
  rintro e w1 ⟨rfl, rfl⟩
  go_wp2_with fail
  go_ret
  exact ⟨rfl, rfl⟩
set_option maxHeartbeats 1000000 in
theorem insz_any (F : Value) (w : World) : Calls Try.prog 129 #[.slice none 0 0, .int .i64 0, .int .i64 0, F] w fun e w' => (∃ v, e = .returned v) ∧ Below w.heap.size w w' := by
  go_enter Try.func129, Try.ntmps129
  go_wp2_with fail
  go_loopw [8] (fun i wr => i = .int .i64 1 ∧ Below w.heap.size w wr) (fun i _ => 0)
  case atStart => exact ⟨rfl, Below.refl _ _⟩
  case round =>
    obtain ⟨rfl, hb⟩ := hrel
    go_wp2_with fail
    go_end0
    exact ⟨⟨_, rfl⟩, hb⟩
set_option maxHeartbeats 1000000 in
theorem pdqz_any (F : Value) (w : World) : Calls Try.prog 118 #[.slice none 0 0, .int .i64 0, .int .i64 0, .int .i64 0, F] w fun e w' => (∃ v, e = .returned v) ∧ Below w.heap.size w w' := by
  have C := Lib.hid (fun W => insz_any F W)
  go_enter Try.func118, Try.ntmps118
  go_wp2_with fail
  go_loopw [1, 2, 3] (fun a b l wr => a = .int .i64 0 ∧ b = .int .i64 0 ∧ wr = w) (fun _ _ _ _ => 0)
  case atStart => exact ⟨rfl, rfl, rfl⟩
  case round =>
    obtain ⟨rfl, rfl, rfl⟩ := hrel
    go_wp2_with fail
    refine (C.out _).mono ?_
    rintro e w1 ⟨⟨v, rfl⟩, hb⟩
    go_wp2_with fail
    refine bodyPost_ret (results_none rfl _ _ _) rfl ?_
    exact ⟨⟨_, rfl⟩, hb⟩
set_option maxHeartbeats 1000000 in
theorem sortz_any (F : Value) (w : World) : Calls Try.prog 103 #[.slice none 0 0, F] w fun e w' => (∃ v, e = .returned v) ∧ Below w.heap.size w w' := by
  have C := Lib.hid (fun W => pdqz_any F W)
  have C2 := Lib.hid (fun W => lenz_any W)
  go_enter Try.func103, Try.ntmps103
  go_wp2_with fail
  refine (C2.out _).mono ?_
  rintro e w1 ⟨rfl, rfl⟩
  go_wp2_with fail
  refine (C.out _).mono ?_
  rintro e w1 ⟨⟨v, rfl⟩, hb⟩
  go_wp2_with fail
  go_end0
  exact ⟨⟨_, rfl⟩, hb⟩
set_option maxHeartbeats 1000000 in
/-- The vessels in order, be there any or not. -/
theorem sortedAll_any (Bs d : Nat) (A : Option Addr) (n c : Nat) (vs : List TCargo) (hz : vs.length = n) (hm : n ≤ 1000) (w : World) (hbs : Bs < w.heap.size) (hd : d ≤ w.heap.size)
    (hBs : w.cell? ⟨Bs, 0, none⟩ = some (.slice A n c)) (hh : Has w d A (flatCargo vs)) :
    Calls Try.prog 70 #[.func (.func 104) #[] #[.pointer (some ⟨Bs, 0, none⟩)], .func (.func 68) #[] #[]] w fun e w' =>
      ∃ (v : Value) (N : List TCargo), e = .returned v ∧ N.Perm vs ∧ N.Pairwise (fun x y => x.x0 ≤ y.x0) ∧ w'.ownsRow w.heap.size 54 3 v n (flatCargo N) ∧ Below w.heap.size w w' := by
  rcases Nat.eq_zero_or_pos n with h0 | h0
  · subst h0
    have HV := Lib.hid (List.eq_nil_of_length_eq_zero hz)
    have C := Lib.hid (callsIn_wide.1 (appSeqC_in 3 (Nat.le_refl _) Bs d A 0 c vs hz hm w hbs hd hBs hh))
    have CC : Hid (Calls Try.prog 102 #[.func (.func 104) #[] #[.pointer (some ⟨Bs, 0, none⟩)]] w
        fun e w' => ∃ v, e = .returned v ∧ w'.ownsRow w.heap.size 54 3 v 0 (flatCargo vs) ∧ Below w.heap.size w w') := Lib.hid (by
      clear hh hBs hz
      go_enter Try.func102, Try.ntmps102
      go_wp2_with fail
      refine C.out.mono ?_
      rintro e w1 ⟨v, rfl, h1, h2⟩
      go_wp2_with fail
      go_ret
      exact ⟨v, rfl, h1, h2⟩)
    have CS := Lib.hid (fun g cp base W h => sortC_any (w := W) (base := base) (g := g) (c := cp) (n := 0) (vs := vs) hz (by omega) h)
    have CZ := Lib.hid (fun W => sortz_any (.func (.func 68) #[] #[]) W)
    clear hh hBs C hz
    go_enter Try.func70, Try.ntmps70
    go_wp2_with fail
    refine CC.out.mono ?_
    rintro e w1 ⟨v, rfl, h1, h2⟩
    have HO := Lib.hid h1
    have HB := Lib.hid h2
    rcases h1.2 with ⟨rfl, -⟩ | ⟨g, cap, cur, rfl, hg, -⟩
    · clear h1 h2 CC CS
      go_wp2_with fail
      refine (CZ.out _).mono ?_
      rintro e w2 ⟨⟨v, rfl⟩, hb⟩
      have HB2 := Lib.hid (HB.out.trans (hb.mono HB.out.size))
      clear hb CZ
      go_wp2_with fail
      go_ret
      have HF : Hid (vs.Perm vs ∧ vs.Pairwise (fun x y => x.x0 ≤ y.x0) ∧ w2.ownsRow w.heap.size 54 3 (.slice none 0 0) 0 (flatCargo vs)) := Lib.hid (by rw [HV.out]; exact ⟨List.Perm.refl _, List.Pairwise.nil, rfl, .inl ⟨rfl, rfl⟩⟩)
      first | exact ⟨_, vs, rfl, HF.out.1, HF.out.2.1, HF.out.2.2, HB2.out⟩ | exact ⟨_, vs, rfl, HF.out.1, (by simpa using HF.out.2.1), HF.out.2.2, HB2.out⟩ | exact ⟨vs, HF.out.1, (by simpa using HF.out.2.1), HF.out.2.2, HB2.out⟩ | exact ⟨vs, HF.out.1, HF.out.2.1, HF.out.2.2, HB2.out⟩ | exact ⟨_, rfl, vs, HF.out.1, HF.out.2.1, HF.out.2.2, HB2.out⟩
    · clear h1 h2 CC CZ
      go_wp2_with fail
      refine (CS.out _ _ _ _ HO.out).mono ?_
      rintro e w2 ⟨rfl, N, h1, h2, h3, h4⟩
      have H1 := Lib.hid h1
      have H2 := Lib.hid h2
      have H3 := Lib.hid h3
      have HB2 := Lib.hid (HB.out.grown h4 HB.out.size (fun k e => by cases e; exact hg))
      clear h1 h2 h3 h4 CS
      go_wp2_with fail
      go_ret
      first | exact ⟨_, N, rfl, H1.out, H2.out, H3.out, HB2.out⟩ | exact ⟨_, N, rfl, H1.out, (by simpa using H2.out), H3.out, HB2.out⟩ | exact ⟨N, H1.out, (by simpa using H2.out), H3.out, HB2.out⟩ | exact ⟨N, H1.out, H2.out, H3.out, HB2.out⟩ | exact ⟨_, rfl, N, H1.out, H2.out, H3.out, HB2.out⟩
  · refine (sortedC_any Bs d A n c vs hz hm w hbs hd (fun _ => trivial) hBs hh h0).mono ?_
    rintro e w' ⟨g, cp, N, rfl, h1, h2, h3, h4⟩
    exact ⟨_, N, rfl, h1, h2, h3, h4⟩
set_option maxHeartbeats 1000000 in
/-- No row follows on the empty one. -/
theorem nextz_any (A : Option Addr) (c : Nat) (w : World) : Calls Try.prog 73 #[.slice A 0 c, .func (.func 68) #[] #[]] w fun e w' => e = .returned (.bool false) ∧ Below w.heap.size w w' := by
  go_enter Try.func73, Try.ntmps73
  go_wp2_with fail
  go_loopw [5] (fun i wr => i = .int .i64 (-2) ∧ Below w.heap.size w wr) (fun _ _ => 0)
  case atStart => exact ⟨rfl, Below.refl _ _⟩
  case round =>
    obtain ⟨rfl, hb⟩ := hrel
    have HB := Lib.hid hb
    clear hb
    go_wp2_with fail
    refine wp_region_quiet_below (by kernel_rfl) (by kernel_rfl) ?_
    repeat (go_big_quiet_step (first | fail))
    refine wpQuiet_nil ?_
    intro _ hw'
    obtain ⟨⟨dq, osq⟩, hw''⟩ := hw'
    subst hw''
    have HBX := Lib.hid (HB.out.trans ((below_regrown wr dq osq).mono HB.out.size))
    go_wp2_with fail
    go_ret
    exact ⟨rfl, HBX.out⟩

theorem own_isC {W : World} {base n c : Nat} {A : Option Addr} {xs : List TCargo} (h : W.ownsRow base 54 3 (.slice A n c) n (flatCargo xs)) : IsCargos W W.heap.size A n xs :=
  ⟨by have := h.1; rw [flatCargo_len] at this; omega, Nat.le_refl _, own_hasv h⟩
theorem own_capC {W : World} {base n c : Nat} {A : Option Addr} {xs : List Value} (h : W.ownsRow base 54 3 (.slice A n c) n xs) : n ≤ c := by
  rcases h.2 with ⟨e, h0⟩ | ⟨g, cap, cur, e, -, -, h1, -⟩
  · omega
  · injection e with e1 e2 e3
    omega
/-- The call hands back integers of its own, a number and b. -/
def GivesZ3 (w : World) (L : List Int) (m : Nat) (z : Int) (x : Bool) (e : Ending) (w' : World) : Prop :=
  ∃ g c', e = .returned (.tuple #[.slice (some ⟨g, 0, none⟩) m c', .int .i64 z, .bool x]) ∧ w'.ownsRow w.heap.size 3 1 (.slice (some ⟨g, 0, none⟩) m c') m (L.map (.int .i64)) ∧ Below w.heap.size w w'
theorem OwnZ.gives3 {w w' : World} {L : List Int} {n : Nat} {v : Value} (h : OwnZ w w' L n v) (z : Int) (x : Bool) : GivesZ3 w L n z x (.returned (.tuple #[v, .int .i64 z, .bool x])) w' := by
  obtain ⟨g, c, rfl, h1, h2, h3⟩ := h
  exact ⟨g, c, rfl, h2, h3⟩

theorem nextAll_any {w : World} {base n c : Nat} {A : Option Addr} {S : List TCargo} {p : List Nat} (hP : PlaceP S p n) (hn : n ≤ 6) (hown : w.ownsRow base 54 3 (.slice A n c) n (flatCargo (rowOf S p))) (hb : base ≤ w.heap.size) :
    Calls Try.prog 73 #[.slice A n c, .func (.func 68) #[] #[]] w fun e w' => e = .returned (.bool (nextI p).isSome) ∧
      w'.ownsRow base 54 3 (.slice A n c) n (flatCargo (rowOf S (nextP p))) ∧ Below base w w' ∧ ∀ b v m xs, w.ownsRow b 3 1 v m xs → w'.ownsRow b 3 1 v m xs := by
  rcases Nat.eq_zero_or_pos n with h0 | h0
  · subst h0
    have hp0 : p = [] := List.eq_nil_of_length_eq_zero hP.len
    have hnx : nextI p = none := nextI_none (by rw [hp0]; rfl)
    refine (nextz_any A c w).mono ?_
    rintro e w' ⟨rfl, hb'⟩
    exact ⟨by rw [hnx]; rfl, by rw [nextP, hnx]; exact own_below hown hb', hb'.mono hb, fun b v m xs h => own_below h hb'⟩
  · rcases hown.2 with ⟨e, h1⟩ | ⟨g, cap, cur, e, hg, -⟩
    · omega
    · injection e with e1 e2 e3
      subst e1
      refine (nextC_any hP h0 hn (own_capC hown) hown).mono ?_
      rintro e w' ⟨rfl, ho, hgr⟩
      exact ⟨rfl, ho, ⟨hgr.os, hgr.tape, hgr.output, hgr.size, fun k hk => hgr.block k (by omega) (fun e => by have := Option.some.inj e; omega)⟩, fun b v m xs h => h.kept hgr (own_ne h hown (by decide))⟩
theorem OwnZ.keep {w W W' : World} {L : List Int} {n : Nat} {v : Value} (h : OwnZ w W L n v) (hb : Go.RowKit.Below w.heap.size W W') (hk : ∀ b v m xs, W.ownsRow b 3 1 v m xs → W'.ownsRow b 3 1 v m xs) : OwnZ w W' L n v := by
  obtain ⟨g, c, rfl, h1, h2, h3⟩ := h
  exact ⟨g, c, rfl, h1, hk _ _ _ _ h2, h3.trans hb⟩
set_option maxRecDepth 100000 in
set_option maxHeartbeats 4000000 in
theorem shortI_any {w : World} {B : Nat} {A : Option Addr} {n : Nat} {vs : List TCargo} (c : Nat) (h : IsCargos w B A n vs) (hm : n ≤ 1048576) (hnc : n ≤ c) (L : List Int) (z : Int) (x : Bool) (hA : ShortA vs L z x) (m : Nat) (hl : L.length = m) :
    Calls Try.prog 26 #[.slice A n c] w (GivesZ3 w L m z x) := by
  have C := Lib.hid (isCargoList_any c h (Nat.le_trans hm (by unfold maxLen; omega)) hnc)
  have HI := Lib.hid h
  have HNO := Lib.hid hA.2
  have HYES := Lib.hid hA.1
  have HM := Lib.hid hl
  obtain ⟨G, hG⟩ : ∃ G, gCs vs = G := ⟨_, rfl⟩
  rw [hG] at HNO HYES C
  have HGE := Lib.hid hG
  clear h hA hG hl
  go_enter Try.func26, Try.ntmps26
  go_wp2_with fail
  refine C.out.mono ?_
  rintro e w1 ⟨rfl, hb⟩
  have HB1 := Lib.hid hb
  clear hb C
  cases G with
  | false =>
    obtain ⟨rfl, rfl, rfl⟩ := HNO.out rfl
    obtain rfl : 0 = m := HM.out
    clear HNO HYES
    go_wp2_with fail
    go_ret3
    exact (OwnZ.nil HB1.out).gives3 0 false
  | true =>
  obtain ⟨rfl, hS⟩ := HYES.out rfl
  have HS := Lib.hid hS
  have HGG := Lib.hid ((gCs_iff vs).1 HGE.out)
  have hn6 : n ≤ 6 := by rw [← HI.out.len]; exact HGG.out.1
  have CV := Lib.hid (valuesC_any A n c w1)
  clear HNO HYES HGE hS
  go_wp2_with fail
  refine CV.out.mono ?_
  rintro e w2 ⟨rfl, hw2⟩
  have hb2 : Below w1.heap.size w1 w2 := by rw [hw2]; exact below1 _ _
  have HB2 := Lib.hid (HB1.out.trans (hb2.mono HB1.out.size))
  have CS := Lib.hid (sortedAll_any w1.heap.size B A n c vs HI.out.len (by omega) w2 (by rw [hw2]; simp) (Nat.le_trans HI.out.low HB2.out.size) (by rw [hw2, sNew]; rfl) (HI.out.below HB2.out HI.out.low).has)
  clear hw2 hb2 CV HB1
  go_wp2_with fail
  refine CS.out.mono ?_
  rintro e w3 ⟨v, S, rfl, hp, hs, hown, hb⟩
  have HB3 := Lib.hid (HB2.out.trans (hb.mono HB2.out.size))
  have HAsc := Lib.hid (asc_of HGG.out hp hs)
  have HO := Lib.hid (own_low hown HB2.out.size)
  clear hp hs hown hb CS HB2
  obtain ⟨hLe, hze⟩ := HS.out S HAsc.out
  have HLE := Lib.hid hLe
  have HZE := Lib.hid hze
  have hSl : S.length = n := by rw [HAsc.out.1.length_eq]; exact HI.out.len
  have HSL := Lib.hid hSl
  have HGS := Lib.hid ((goodCs_iff S).1 (goodCs_perm HGG.out HAsc.out.1)).2.1
  have HFA := Lib.hid (foldTo_all HGS.out)
  have HF1 := Lib.hid (foldTo_one (S := S) (by rw [hSl]; exact hn6))
  clear hLe hze HS hSl
  obtain ⟨A2, c2, rfl⟩ : ∃ A2 c2, v = .slice A2 n c2 := by
    rcases HO.out.2 with ⟨e, h0⟩ | ⟨g, cap, cur, e, -⟩
    · exact ⟨none, 0, by rw [e, h0]⟩
    · exact ⟨_, _, e⟩
  have hnc2 := own_capC HO.out
  have CI := Lib.hid (ids_any c2 (own_isC HO.out) (by omega))
  go_wp2_with fail
  refine CI.out.mono ?_
  rintro e w4 ⟨vi, rfl, hZ⟩
  have HZ := Lib.hid (hZ.base HB3.out)
  have hb4 := hZ.low
  have HO4 := Lib.hid (own_below HO.out hb4)
  have HB4 := Lib.hid (HB3.out.trans (hb4.mono HB3.out.size))
  clear hZ hb4 CI HO HB3
  have CE := Lib.hid (extI_any c2 (own_isC HO4.out) (by omega) hnc2 (ext S) true (extA_perm HGG.out HAsc.out.1))
  go_wp2_with fail
  refine CE.out.mono ?_
  rintro e w5 ⟨rfl, hb⟩
  have HZ5 := Lib.hid (HZ.out.below hb)
  have HO5 := Lib.hid (own_below HO4.out hb)
  have HB5 := Lib.hid (HB4.out.trans (hb.mono HB4.out.size))
  have hT0 : 0 < (prmN n).length := (List.getElem?_eq_some_iff.1 (first_all n hn6)).1
  have HR0 : Hid (rowOf S (prmN n)[0] = S) := Lib.hid (by
    have e : (prmN n)[0] = List.range n := by have := first_all n hn6; rw [List.getElem?_eq_getElem hT0] at this; exact Option.some.inj this
    rw [e, ← HSL.out]
    unfold rowOf
    rw [range_map])
  have HCH := Lib.hid (fun t (ht : t < (prmN n).length) => chn_at (chn_all n hn6) ht)
  have HPL := Lib.hid (fun t (ht : t < (prmN n).length) => prmN_place HSL.out HAsc.out.2 ht)
  have HPM := Lib.hid (fun t (ht : t < (prmN n).length) => (rowOf_perm HSL.out ht).trans HAsc.out.1)
  have HFN := Lib.hid (fun t (ht : t < (prmN n).length) => show foldTo S (t + 1) = stepB (foldTo S t) (rowOf S (prmN n)[t], ext (rowOf S (prmN n)[t])) from by
    have := HSL.out
    subst this
    exact foldTo_next ht)
  have HFP := Lib.hid (fun t (ht : t < (prmN n).length) => foldTo_pos HGS.out t (by rw [HSL.out]; exact ht))
  rw [HSL.out] at HFA HLE HZE
  obtain ⟨T, hT⟩ : ∃ T, (prmN n).length = T + 1 := ⟨(prmN n).length - 1, by omega⟩
  rw [hT] at HFA
  have HX5 : Hid (w5.ownsRow w.heap.size 54 3 (.slice A2 n c2) n (flatCargo (rowOf S ((prmN n).getD 0 [])))) := Lib.hid (by
    rw [getD_at [] hT0, HR0.out]; exact HO5.out)
  have HV5 : Hid (OwnZ w w5 ((foldTo S 1).1.map (·.x0)) n vi) := Lib.hid (by rw [HF1.out]; exact HZ5.out)
  have HW5 : Hid (ext S = (foldTo S 1).2) := Lib.hid (by rw [HF1.out])
  have hTT : ∀ t, t < T + 1 → t < (prmN n).length := fun t ht => by omega
  have HTT := Lib.hid hTT
  have HNL := Lib.hid hT
  clear hb CE HO4 HB4 HZ HO5 HZ5 HR0 HF1 hTT hT0 hT
  go_wp2_with fail
  go_loopg [7, 8] T (fun gh v z wr => ∃ t : Nat, t + gh = T ∧ OwnZ w wr ((foldTo S (t + 1)).1.map (·.x0)) n v ∧ z = .int .i64 (foldTo S (t + 1)).2 ∧ Hid (wr.ownsRow w.heap.size 54 3 (.slice A2 n c2) n (flatCargo (rowOf S ((prmN n).getD t [])))))
  case atStart => exact ⟨0, by omega, HV5.out, by rw [HW5.out], HX5⟩
  case round =>
    clear HX5 HV5 HW5 HB5
    obtain ⟨t, ht, hZ, rfl, HX⟩ := hrel
    have hlow := hZ.low
    have htl := HTT.out t (by omega)
    have hPt : PlaceP S ((prmN n).getD t []) n := by rw [getD_at [] htl]; exact HPL.out t htl
    have hNt : nextI ((prmN n).getD t []) = (prmN n)[t + 1]? := by rw [getD_at [] htl]; exact HCH.out t htl
    have CN := Lib.hid (nextAll_any hPt hn6 HX.out hlow.size)
    have HZt := Lib.hid hZ
    have HLO := Lib.hid hlow
    cases gk with
    | zero =>
      have hnone : nextI ((prmN n).getD t []) = none := by
        rw [hNt, List.getElem?_eq_none]
        have h3 := HNL.out
        omega
      have hs : (nextI ((prmN n).getD t [])).isSome = false := by rw [hnone]; rfl
      rw [hs] at CN
      obtain rfl : t = T := by omega
      have HV : Hid (L = (foldTo S (t + 1)).1.map (·.x0) ∧ z = (foldTo S (t + 1)).2) := Lib.hid (by rw [HFA.out]; exact ⟨HLE.out, HZE.out⟩)
      clear hNt hnone hs hPt hlow hZ
      go_wp2_with fail
      refine CN.out.mono ?_
      rintro e w6 ⟨rfl, -, hb, hk⟩
      have HZ6 := Lib.hid (HZt.out.keep hb hk)
      obtain ⟨hL1, rfl⟩ := HV.out
      have HL1 := Lib.hid hL1
      have HMN : Hid (n = m) := Lib.hid (by
        obtain ⟨_, _, _, _, h2, _⟩ := HZ6.out
        have := h2.1
        rw [← hL1] at this
        rw [← HM.out]
        simpa using this.symm)
      clear hb hk CN HZt HV hL1
      go_wp2_with fail
      go_ret3
      rw [HL1.out, ← HMN.out]
      exact HZ6.out.gives3 _ true
    | succ gh =>
      have ht1 := HTT.out (t + 1) (by omega)
      have hsome : nextI ((prmN n).getD t []) = some (prmN n)[t + 1] := by rw [hNt, List.getElem?_eq_getElem ht1]
      have hs : (nextI ((prmN n).getD t [])).isSome = true := by rw [hsome]; rfl
      have hnp : nextP ((prmN n).getD t []) = (prmN n).getD (t + 1) [] := by rw [nextP, hsome, getD_at [] ht1]; rfl
      rw [hs, hnp] at CN
      have hpm : (rowOf S ((prmN n).getD (t + 1) [])).Perm vs := by rw [getD_at [] ht1]; exact HPM.out (t + 1) ht1
      have hfn : foldTo S (t + 1 + 1) = stepB (foldTo S (t + 1)) (rowOf S ((prmN n).getD (t + 1) []), ext (rowOf S ((prmN n).getD (t + 1) []))) := by rw [getD_at [] ht1]; exact HFN.out (t + 1) ht1
      have hfp := HFP.out t htl
      clear hNt hsome hs hnp hPt hlow hZ HX
      generalize hRR : rowOf S ((prmN n).getD (t + 1) []) = R at CN hpm hfn
      have HRR := Lib.hid hRR
      clear hRR
      have HFN1 := Lib.hid hfn
      have HPM1 := Lib.hid hpm
      clear hfn hpm
      go_wp2_with fail
      refine CN.out.mono ?_
      rintro e w6 ⟨rfl, ho, hb, hk⟩
      have HZ6 := Lib.hid (HZt.out.keep hb hk)
      have HO6 := Lib.hid ho
      have HB6 := Lib.hid (HLO.out.trans hb)
      clear ho hb hk CN HZt HLO
      have CE := Lib.hid (extI_any c2 (own_isC HO6.out) (by omega) hnc2 (ext R) true (extA_perm HGG.out HPM1.out))
      go_wp2_with fail
      refine CE.out.mono ?_
      rintro e w7 ⟨rfl, hb⟩
      have HZ7 := Lib.hid (HZ6.out.below hb)
      have HO7 := Lib.hid (own_below HO6.out hb)
      have HB7 := Lib.hid (HB6.out.trans (hb.mono HB6.out.size))
      clear hb CE HO6 HB6 HZ6
      obtain ⟨acc, hacc⟩ : ∃ a, foldTo S (t + 1) = a := ⟨_, rfl⟩
      rw [hacc] at HZ7 HFN1 hfp ⊢
      obtain ⟨aR, az⟩ := acc
      dsimp only at HZ7 hfp ⊢
      obtain ⟨ez, hez⟩ : ∃ e, ext R = e := ⟨_, rfl⟩
      rw [hez] at HFN1 ⊢
      have HFN2 : Hid (foldTo S (t + 1 + 1) = if az < 0 ∨ ez < az then (R, ez) else (aR, az)) := HFN1
      clear HFN1 hez hacc
      by_cases hlt : ez < az
      · have HF : Hid (foldTo S (t + 1 + 1) = (R, ez)) := Lib.hid (by rw [HFN2.out, if_pos (.inr hlt)])
        have CI := Lib.hid (ids_any c2 (own_isC HO7.out) (by omega))
        clear HFN2
        go_wp2_with fail
        refine CI.out.mono ?_
        rintro e w8 ⟨v8, rfl, hZ8⟩
        have HZ8 := Lib.hid (hZ8.base HB7.out)
        have HO8 := Lib.hid (own_below HO7.out hZ8.low)
        clear hZ8 CI HO7 HB7 HZ7
        go_wp2_with fail
        go_roundg gh
        case measure => omega
        case rel => exact ⟨t + 1, by omega, by rw [HF.out]; exact HZ8.out, by rw [HF.out], by rw [HRR.out]; exact HO8⟩
      · have HF : Hid (foldTo S (t + 1 + 1) = (aR, az)) := Lib.hid (by rw [HFN2.out, if_neg (by omega)])
        clear HFN2
        go_wp2_with fail
        go_roundg gh
        case measure => omega
        case rel => exact ⟨t + 1, by omega, by rw [HF.out]; exact HZ7.out, by rw [HF.out], by rw [HRR.out]; exact HO7⟩
end Go.Proofs.Ytgnopkemcgbedab
