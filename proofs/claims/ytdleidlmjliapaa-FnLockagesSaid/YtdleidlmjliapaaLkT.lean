/- Chapter 8, the program: all ways to take two queues from their fronts, tried one after the other. -/
import Derived.Test.YtdleidlmjliapaaLkS
namespace Go.Proofs.Ytdleidlmjliapaa
open Go.RowKit Go.PlainAid Go.Sort
set_option linter.unusedVariables false
set_option linter.unusedSimpArgs false

/-- A part of a row of integers above the boxes. -/
structure RowY (sb : Nat) (w : World) (a : Addr) (xs : List Int) : Prop where
  at' : ∀ j u, (xs.map (Value.int .i64))[j]? = some u → w.cell? (a.add j) = some u
  hi : sb < a.block
  lt : a.block < w.heap.size
theorem RowY.keep {bb sb : Nat} {w W : World} {a : Addr} {xs : List Int} (h : RowY sb w a xs) (hs : sb = bb + 1) (hk : KeepY bb sb w.heap.size w W) : RowY sb W a xs :=
  ⟨fun j u hu => by
    have hb : (a.add j).block = a.block := addBlock a j
    exact (hk.cell (by rw [hb]; exact h.lt) (by rw [hb]; have := h.hi; omega) (by rw [hb]; have := h.hi; omega)).trans (h.at' j u hu), h.hi, Nat.lt_of_lt_of_le h.lt hk.size⟩
theorem RowY.has {sb : Nat} {w : World} {a : Addr} {xs : List Int} (h : RowY sb w a xs) : Has w w.heap.size (some a) (xs.map (.int .i64)) := fun j u hu => ⟨a, rfl, h.lt, h.at' j u hu⟩
theorem RowY.own {sb : Nat} {w : World} {base g n c : Nat} {xs : List Int} (h : w.ownsRow base 3 1 (.slice (some ⟨g, 0, none⟩) n c) n (xs.map (.int .i64))) (hg : sb < g) : RowY sb w ⟨g, 0, none⟩ xs :=
  ⟨fun j u hu => by
    have hj := (List.getElem?_eq_some_iff.1 hu).1
    rw [addO, Nat.zero_add, h.cellAt j (by have := h.1; omega)]; exact hu, hg, (h.lt g rfl).2⟩
theorem RowY.tail {sb : Nat} {w : World} {a aq : Addr} {x : Int} {t : List Int} {n c : Nat} (h : RowY sb w a (x :: t)) (hn : (x :: t).length = n) (hc : n ≤ c) (hq : (if c = 1 then some a else some (a.add 1) : Option Addr) = some aq) : RowY sb w aq t := by
  have hb : (a.add 1).block = a.block := addBlock a 1
  by_cases h1 : c = 1
  · rw [if_pos h1] at hq
    injection hq with hq
    subst hq
    have ht : t = [] := List.eq_nil_of_length_eq_zero (by simp at hn; omega)
    subst ht
    exact ⟨fun j u hu => by simp at hu, h.hi, h.lt⟩
  · rw [if_neg h1] at hq
    injection hq with hq
    subst hq
    refine ⟨fun j u hu => ?_, by rw [hb]; exact h.hi, by rw [hb]; exact h.lt⟩
    rw [Go.Deep.add_add, Nat.add_comm 1 j]
    exact h.at' (j + 1) u (by simpa using hu)
theorem RowY.one {sb : Nat} {w : World} {a : Addr} {x : Int} {t : List Int} (h : RowY sb w a (x :: t)) : RowY sb w a [x] :=
  ⟨fun j u hu => h.at' j u (by
    match j, hu with
    | 0, hu => simpa using hu
    | j + 1, hu => simp at hu), h.hi, h.lt⟩
theorem mgs_base {f : Nat} {t a b : List Int} (h : a = [] ∨ b = []) : mgs f t a b = [t ++ a ++ b] := by
  cases f with
  | zero => rfl
  | succ f =>
    cases a with
    | nil => rfl
    | cons x a =>
      rcases h with h | h
      · cases h
      · subst h; rfl
theorem intsOne (xs : List Int) : ∀ u ∈ xs.map (Value.int .i64), u.oneCell' = true := fun u hu => by obtain ⟨q, -, rfl⟩ := List.mem_map.1 hu; rfl
/-- One element more, behind what is taken. -/
theorem cat2_any {sb : Nat} {W : World} {ta pa : Addr} {t : List Int} {x : Int} {nt ct cp g9 : Nat} (ht : RowY sb W ta t) (hp : RowY sb W pa [x]) (hnt : t.length = nt) (hn6 : nt ≤ 6) (b : Nat) (hb : b ≤ W.heap.size) (h : Has W W.heap.size (some ⟨g9, 0, none⟩) [.slice (some ta) nt ct, .slice (some pa) 1 cp]) :
    Calls Try.prog 84 #[.slice (some ⟨g9, 0, none⟩) 2 2] W fun e w' => ∃ g c9, e = .returned (.slice (some ⟨g, 0, none⟩) (nt + 1) c9) ∧ sb < g ∧ w'.ownsRow b 3 1 (.slice (some ⟨g, 0, none⟩) (nt + 1) c9) (nt + 1) ((t ++ [x]).map (.int .i64)) ∧ Below W.heap.size W w' := by
  have hsb : sb < W.heap.size := Nat.lt_trans ht.hi ht.lt
  refine (catI [⟨ta, nt, ct, t.map (.int .i64)⟩, ⟨pa, 1, cp, [x].map (.int .i64)⟩] ⟨g9, 0, none⟩ 2 2 W.heap.size W rfl (by omega) (Nat.le_refl _) h (fun s hs => ?_) (by simp only [total]; omega)).mono ?_
  · simp only [List.mem_cons, List.not_mem_nil, or_false] at hs
    rcases hs with rfl | rfl
    · exact ⟨by simp [hnt], by show nt ≤ 100; omega, intsOne t, ht.has⟩
    · exact ⟨by simp, by show 1 ≤ 100; omega, intsOne [x], hp.has⟩
  · rintro e w' ⟨v, rfl, h1, h2⟩
    have e1 : total [(⟨ta, nt, ct, t.map (.int .i64)⟩ : Part'), ⟨pa, 1, cp, [x].map (.int .i64)⟩] = nt + 1 := by simp only [total]
    have e2 : allOf [(⟨ta, nt, ct, t.map (.int .i64)⟩ : Part'), ⟨pa, 1, cp, [x].map (.int .i64)⟩] = (t ++ [x]).map (.int .i64) := by simp [allOf]
    rw [e1, e2] at h1
    obtain ⟨g, cc, rfl, hg⟩ := own_some h1 (fun e => by
      have h3 := h1.2
      rw [e] at h3
      rcases h3 with ⟨-, h⟩ | ⟨_, _, _, h, -⟩
      · omega
      · cases h)
    exact ⟨g, cc, rfl, by omega, own_low h1 hb, h2⟩
set_option maxRecDepth 100000 in
set_option maxHeartbeats 8000000 in
theorem mergeBase_any {lb hb mb sb bb B : Nat} {A : Option Addr} {n c : Nat} {vs : List TArrival} {hg : Bool} {mi : Int} {base : Nat} (FX : FixB lb hb mb sb bb B A n vs) (hm : n ≤ 6) (hmm : 1 ≤ mi ∧ mi ≤ 60) (t a b : List Int) (w : World) (acc : List Int × Int) (ta aa ba : Addr) (nt ct na ca nb cb : Nat)
    (hT : RowY sb w ta t) (hA : RowY sb w aa a) (hBB : RowY sb w ba b) (hnt : t.length = nt) (hna : a.length = na) (hnb : b.length = nb) (h6 : nt + na + nb ≤ 6) (hO : OrdA vs (t ++ a ++ b)) (hz : na = 0 ∨ (na ≠ 0 ∧ nb = 0)) (hbase : base ≤ w.heap.size) (hS : BSt lb hb mb sb bb B A n c vs hg mi base w acc) :
    Calls Try.prog 56 #[.slice (some ta) nt ct, .slice (some aa) na ca, .slice (some ba) nb cb, .func (.func 57) #[] #[.pointer (some ⟨lb, 0, none⟩), .pointer (some ⟨hb, 0, none⟩), .pointer (some ⟨mb, 0, none⟩), .pointer (some ⟨sb, 0, none⟩), .pointer (some ⟨bb, 0, none⟩)]] w fun e w' =>
      e = .returned (.tuple #[]) ∧ BSt lb hb mb sb bb B A n c vs hg mi base w' (fmS (dly vs mi hg) acc (t ++ a ++ b)) ∧ KeepY bb sb w.heap.size w w' := by
  have e1 : total [(⟨ta, nt, ct, t.map (.int .i64)⟩ : Part'), ⟨aa, na, ca, a.map (.int .i64)⟩, ⟨ba, nb, cb, b.map (.int .i64)⟩] = nt + (na + nb) := by simp only [total]; omega
  have e2 : allOf [(⟨ta, nt, ct, t.map (.int .i64)⟩ : Part'), ⟨aa, na, ca, a.map (.int .i64)⟩, ⟨ba, nb, cb, b.map (.int .i64)⟩] = (t ++ a ++ b).map (.int .i64) := by simp [allOf]
  obtain ⟨W5, hW5⟩ : ∃ W, w.alloc (.cells #[.slice (some ta) nt ct, .slice (some aa) na ca, .slice (some ba) nb cb] 46) = W := ⟨_, rfl⟩
  have hb5 : Below w.heap.size w W5 := by rw [← hW5]; exact below1 _ _
  have hk5 : KeepY bb sb w.heap.size w W5 := KeepY.of hb5
  have hH5 : Has W5 W5.heap.size (some ⟨w.heap.size, 0, none⟩) [.slice (some ta) nt ct, .slice (some aa) na ca, .slice (some ba) nb cb] := by
    intro k u hu
    refine ⟨_, rfl, by rw [← hW5]; simp, ?_⟩
    rw [addO, Nat.zero_add, ← hW5, sNew]
    simpa using hu
  have CA := Lib.hid (catI [⟨ta, nt, ct, t.map (.int .i64)⟩, ⟨aa, na, ca, a.map (.int .i64)⟩, ⟨ba, nb, cb, b.map (.int .i64)⟩] ⟨w.heap.size, 0, none⟩ 3 3 W5.heap.size W5 rfl (by omega) (Nat.le_refl _) hH5 (fun s hs => by
    simp only [List.mem_cons, List.not_mem_nil, or_false] at hs
    rcases hs with rfl | rfl | rfl
    · exact ⟨by simp [hnt], by show nt ≤ 100; omega, intsOne t, (RowY.keep hT FX.s1 hk5).has⟩
    · exact ⟨by simp [hna], by show na ≤ 100; omega, intsOne a, (RowY.keep hA FX.s1 hk5).has⟩
    · exact ⟨by simp [hnb], by show nb ≤ 100; omega, intsOne b, (RowY.keep hBB FX.s1 hk5).has⟩) (by rw [e1]; omega))
  rw [e1, e2] at CA
  have HS5 := Lib.hid (hS.quiet hb5)
  have HFX := Lib.hid FX
  have HO := Lib.hid hO
  have HSB := Lib.hid (show sb < W5.heap.size from Nat.lt_of_lt_of_le hS.lts hb5.size)
  have HBS := Lib.hid (Nat.le_trans hbase hb5.size)
  have HK5 := Lib.hid hk5
  clear hT hA hBB hS FX e1 e2 hH5 hb5 hk5 hO
  rcases hz with hz | ⟨hz, hz2⟩
  · have hnz : ((na : Int) == 0) = true := by simp [hz]
    clear hz
    go_enter Try.func56, Try.ntmps56
    go_wp2_with fail
    (try rw [hW5])
    refine CA.out.mono ?_
    rintro e w1 ⟨v, rfl, hown, hbq⟩
    have CT := Lib.hid (try_any HFX.out (HS5.out.quiet hbq) hm hmm v _ W5.heap.size _ HBS.out HSB.out hown HO.out)
    have HK1 := Lib.hid (HK5.out.trans ((KeepY.of (bb := bb) (sb := sb) hbq).mono HK5.out.size))
    clear hown hbq CA HS5 HO HK5 hW5
    go_wp2_with fail
    refine CT.out.mono ?_
    rintro e w2 ⟨rfl, hs, hk⟩
    have HF := Lib.hid (And.intro hs (HK1.out.trans (hk.mono HK1.out.size)))
    clear hs hk CT HK1
    go_wp2_with fail
    refine bodyPost_ret (results_none rfl _ _ _) rfl ?_
    exact ⟨rfl, HF.out.1, HF.out.2⟩
  · have hnz : ((na : Int) == 0) = false := by simp; omega
    have hnz2 : ((nb : Int) == 0) = true := by simp [hz2]
    clear hz hz2
    go_enter Try.func56, Try.ntmps56
    go_wp2_with fail
    (try rw [hW5])
    refine CA.out.mono ?_
    rintro e w1 ⟨v, rfl, hown, hbq⟩
    have CT := Lib.hid (try_any HFX.out (HS5.out.quiet hbq) hm hmm v _ W5.heap.size _ HBS.out HSB.out hown HO.out)
    have HK1 := Lib.hid (HK5.out.trans ((KeepY.of (bb := bb) (sb := sb) hbq).mono HK5.out.size))
    clear hown hbq CA HS5 HO HK5 hW5
    go_wp2_with fail
    refine CT.out.mono ?_
    rintro e w2 ⟨rfl, hs, hk⟩
    have HF := Lib.hid (And.intro hs (HK1.out.trans (hk.mono HK1.out.size)))
    clear hs hk CT HK1
    go_wp2_with fail
    refine bodyPost_ret (results_none rfl _ _ _) rfl ?_
    exact ⟨rfl, HF.out.1, HF.out.2⟩
set_option maxRecDepth 100000 in
set_option maxHeartbeats 8000000 in
theorem merge_any {lb hb mb sb bb B : Nat} {A : Option Addr} {n c : Nat} {vs : List TArrival} {hg : Bool} {mi : Int} {base : Nat} (FX : FixB lb hb mb sb bb B A n vs) (hm : n ≤ 6) (hmm : 1 ≤ mi ∧ mi ≤ 60) : ∀ (f : Nat) (t a b : List Int) (w : World) (acc : List Int × Int) (ta aa ba : Addr) (nt ct na ca nb cb : Nat),
    RowY sb w ta t → RowY sb w aa a → RowY sb w ba b → t.length = nt → a.length = na → b.length = nb → na ≤ ca → nb ≤ cb → a.length + b.length = f → nt + na + nb ≤ 6 → (∀ O ∈ mgs f t a b, OrdA vs O) → base ≤ w.heap.size → BSt lb hb mb sb bb B A n c vs hg mi base w acc →
    Calls Try.prog 56 #[.slice (some ta) nt ct, .slice (some aa) na ca, .slice (some ba) nb cb, .func (.func 57) #[] #[.pointer (some ⟨lb, 0, none⟩), .pointer (some ⟨hb, 0, none⟩), .pointer (some ⟨mb, 0, none⟩), .pointer (some ⟨sb, 0, none⟩), .pointer (some ⟨bb, 0, none⟩)]] w fun e w' =>
      e = .returned (.tuple #[]) ∧ BSt lb hb mb sb bb B A n c vs hg mi base w' (fm (dly vs mi hg) acc (mgs f t a b)) ∧ KeepY bb sb w.heap.size w w' := by
  intro f
  induction f with
  | zero =>
    intro t a b w acc ta aa ba nt ct na ca nb cb hT hA hBB hnt hna hnb hca hcb hf h6 hord hbase hS
    have ha0 : a = [] := List.eq_nil_of_length_eq_zero (by omega)
    rw [mgs_base (.inl ha0)] at hord ⊢
    exact mergeBase_any FX hm hmm t a b w acc ta aa ba nt ct na ca nb cb hT hA hBB hnt hna hnb h6 (hord _ (by simp)) (.inl (by rw [← hna, ha0]; rfl)) hbase hS
  | succ f ih =>
    intro t a b w acc ta aa ba nt ct na ca nb cb hT hA hBB hnt hna hnb hca hcb hf h6 hord hbase hS
    cases a with
    | nil =>
      rw [mgs_base (.inl rfl)] at hord ⊢
      exact mergeBase_any FX hm hmm t [] b w acc ta aa ba nt ct na ca nb cb hT hA hBB hnt hna hnb h6 (hord _ (by simp)) (.inl hna.symm) hbase hS
    | cons x a =>
      cases b with
      | nil =>
        rw [mgs_base (.inr rfl)] at hord ⊢
        exact mergeBase_any FX hm hmm t (x :: a) [] w acc ta aa ba nt ct na ca nb cb hT hA hBB hnt hna hnb h6 (hord _ (by simp)) (.inr ⟨by simp at hna; omega, hnb.symm⟩) hbase hS
      | cons y b =>
        have hff : na + nb = f + 1 := by rw [← hna, ← hnb]; exact hf
        have IH := Lib.hid ih
        have HORD := Lib.hid hord
        have HT := Lib.hid hT
        have HA := Lib.hid hA
        have HBB := Lib.hid hBB
        have HS := Lib.hid hS
        have hx := hA.at' 0 (.int .i64 x) (by simp)
        have hy := hBB.at' 0 (.int .i64 y) (by simp)
        have hx1 : w.cell? aa = some (.int .i64 x) := hx
        have hy1 : w.cell? ba = some (.int .i64 y) := hy
        have X0 := fun (d : Nat) (os : Array Obj) => cell_regrown hx1 d os
        have Y0 := fun (d : Nat) (os : Array Obj) => cell_regrown hy1 d os
        have hnz : ((na : Int) == 0) = false := by simp at hna ⊢; omega
        have hnz2 : ((nb : Int) == 0) = false := by simp at hnb ⊢; omega
        have hn0 : (0 : Int) < (na : Int) := by simp at hna; omega
        have hn02 : (0 : Int) < (nb : Int) := by simp at hnb; omega
        have HB0 := Lib.hid (Below.refl w.heap.size w)
        clear ih hord hT hA hBB hS hx hy hx1 hy1
        by_cases hxy : y < x
        · have hgt : x > y := hxy
          go_enter Try.func56, Try.ntmps56
          go_wp2_with fail
          refine wp_region_quiet_below (by kernel_rfl) (by kernel_rfl) ?_
          repeat (go_big_quiet_step (first | fail))
          refine wpQuiet_nil ?_
          intro _ hw'
          obtain ⟨⟨dq, osq⟩, hw''⟩ := hw'
          subst hw''
          have HBX := Lib.hid (HB0.out.trans ((below_regrown w dq osq).mono HB0.out.size))
          clear X0 Y0
          have HK9 := Lib.hid (KeepY.of (bb := bb) (sb := sb) HBX.out)
          have HS9 := Lib.hid (HS.out.quiet HBX.out)
          obtain ⟨w9, hw9⟩ : ∃ W, grow (redrawn w dq) osq = W := ⟨_, rfl⟩
          rw [hw9] at HK9 HS9 HBX ⊢
          obtain ⟨pa, hpa⟩ : ∃ x9, x9 = ba := ⟨_, rfl⟩
          obtain ⟨np, hnp⟩ : ∃ x9, x9 = nb := ⟨_, rfl⟩
          obtain ⟨cp, hcp⟩ : ∃ x9, x9 = cb := ⟨_, rfl⟩
          obtain ⟨p0, hp0⟩ : ∃ x9, x9 = y := ⟨_, rfl⟩
          obtain ⟨p, hp⟩ : ∃ x9, x9 = b := ⟨_, rfl⟩
          obtain ⟨qa, hqa⟩ : ∃ x9, x9 = aa := ⟨_, rfl⟩
          obtain ⟨nq, hnq⟩ : ∃ x9, x9 = na := ⟨_, rfl⟩
          obtain ⟨cq, hcq⟩ : ∃ x9, x9 = ca := ⟨_, rfl⟩
          obtain ⟨q0, hq0⟩ : ∃ x9, x9 = x := ⟨_, rfl⟩
          obtain ⟨q, hq⟩ : ∃ x9, x9 = a := ⟨_, rfl⟩
          have HP : Hid (RowY sb w pa (p0 :: p)) := Lib.hid (by rw [hpa, hp0, hp]; exact HBB.out)
          have HQ : Hid (RowY sb w qa (q0 :: q)) := Lib.hid (by rw [hqa, hq0, hq]; exact HA.out)
          have hnp1 : (p0 :: p).length = np := by rw [hp0, hp, hnp]; exact hnb
          have hnq1 : (q0 :: q).length = nq := by rw [hq0, hq, hnq]; exact hna
          have hcp1 : np ≤ cp := by rw [hnp, hcp]; exact hcb
          have hcq1 : nq ≤ cq := by rw [hnq, hcq]; exact hca
          have hall6 : nt + np + nq ≤ 6 := by rw [hnp, hnq]; omega
          have hsum : np + nq = f + 1 := by rw [hnp, hnq]; omega
          have HMG : Hid (mgs (f + 1) t (x :: a) (y :: b) = mgs f (t ++ [p0]) p (q0 :: q) ++ mgs f (t ++ [q0]) (p0 :: p) q) := Lib.hid (by rw [hp0, hp, hq0, hq]; exact (by rw [mgs, if_pos (by omega)]))
          rw [← hpa, ← hnp, ← hcp, ← hqa, ← hnq, ← hcq]
          clear hpa hnp hcp hp0 hp hqa hnq hcq hq0 hq hw9
          have hn1 : 1 ≤ np := by simp at hnp1; omega
          have hn2 : 1 ≤ nq := by simp at hnq1; omega
          have hf9 : p.length + q.length + 1 = f := by simp at hnp1 hnq1; omega
          obtain ⟨pq, hpq⟩ : ∃ aq, (if cp = 1 then some pa else some (pa.add 1) : Option Addr) = some aq := by split <;> exact ⟨_, rfl⟩
          obtain ⟨qq, hqq⟩ : ∃ aq, (if cq = 1 then some qa else some (qa.add 1) : Option Addr) = some aq := by split <;> exact ⟨_, rfl⟩
          have HPQ := Lib.hid hpq
          have HQQ := Lib.hid hqq
          have HPF := Lib.hid hpq
          have HQF := Lib.hid hqq
          rw [addFormS _ _ (by decide)] at HPF HQF
          obtain ⟨acc1, ha1⟩ : ∃ x, fm (dly vs mi hg) acc (mgs f (t ++ [p0]) p (q0 :: q)) = x := ⟨_, rfl⟩
          obtain ⟨acc2, ha2⟩ : ∃ x, fm (dly vs mi hg) acc1 (mgs f (t ++ [q0]) (p0 :: p) q) = x := ⟨_, rfl⟩
          have HAC : Hid (fm (dly vs mi hg) acc (mgs (f + 1) t (x :: a) (y :: b)) = acc2) := Lib.hid (by rw [HMG.out, fm_append, ha1, ha2])
          have CA := Lib.hid (fun W g9 (hk : KeepY bb sb w.heap.size w W) h => cat2_any (W := W) (cp := cp) (ct := ct) (g9 := g9) (HT.out.keep FX.s1 hk) (HP.out.keep FX.s1 hk).one hnt (by omega) w.heap.size hk.size h)
          have CB := Lib.hid (fun W g9 (hk : KeepY bb sb w.heap.size w W) h => cat2_any (W := W) (cp := cq) (ct := ct) (g9 := g9) (HT.out.keep FX.s1 hk) (HQ.out.keep FX.s1 hk).one hnt (by omega) w.heap.size hk.size h)
          have MA := Lib.hid (fun W g c9 (hk : KeepY bb sb w.heap.size w W) (hsg : sb < g) (hown : W.ownsRow w.heap.size 3 1 (.slice (some ⟨g, 0, none⟩) (nt + 1) c9) (nt + 1) ((t ++ [p0]).map (.int .i64))) hs => IH.out (t ++ [p0]) p (q0 :: q) W acc ⟨g, 0, none⟩ pq qa (nt + 1) c9 (np - 1) (cp - 1) nq cq (RowY.own hown hsg) ((HP.out.keep FX.s1 hk).tail hnp1 hcp1 HPQ.out) (HQ.out.keep FX.s1 hk) (by simp [hnt]) (by simp at hnp1; omega) hnq1 (by omega) hcq1 (by simp; omega) (by omega) (fun O hO => HORD.out O (by rw [HMG.out]; exact List.mem_append_left _ hO)) (Nat.le_trans hbase hk.size) hs)
          have MB := Lib.hid (fun W g c9 (hk : KeepY bb sb w.heap.size w W) (hsg : sb < g) (hown : W.ownsRow w.heap.size 3 1 (.slice (some ⟨g, 0, none⟩) (nt + 1) c9) (nt + 1) ((t ++ [q0]).map (.int .i64))) hs => IH.out (t ++ [q0]) (p0 :: p) q W acc1 ⟨g, 0, none⟩ pa qq (nt + 1) c9 np cp (nq - 1) (cq - 1) (RowY.own hown hsg) (HP.out.keep FX.s1 hk) ((HQ.out.keep FX.s1 hk).tail hnq1 hcq1 HQQ.out) (by simp [hnt]) hnp1 (by simp at hnq1; omega) hcp1 (by omega) (by simp; omega) (by omega) (fun O hO => HORD.out O (by rw [HMG.out]; exact List.mem_append_right _ hO)) (Nat.le_trans hbase hk.size) hs)
          rw [ha1] at MA
          rw [ha2] at MB
          have hle9 := HK9.out.size
          have hn3 : (1 : Int) ≤ (np : Int) := by omega
          have hn4 : (1 : Int) ≤ (nq : Int) := by omega
          have hn5 : (1 : Int) ≤ (cp : Int) := by omega
          have hn7 : (1 : Int) ≤ (cq : Int) := by omega
          have hn8 : (np : Int) ≤ (cp : Int) := by omega
          have hn9 : (nq : Int) ≤ (cq : Int) := by omega
          have HFXX := Lib.hid FX
          clear hpq hqq ha1 ha2 HMG HP HQ HT IH HORD HS HBX HA HBB hnp1 hnq1
          go_wp2_with fail
          refine region_inv (by kernel_rfl) (by kernel_rfl) (fun Fl9 ac W => ∃ (x32 x33 x34 x35 x36 x37 x38 x39 x40 x41 : Value), ac = { tmps := #[Value.slice (some ta) nt ct, Value.slice (some pa) np cp, Value.slice (some qa) nq cq, Value.func (Fn.func 57) #[] #[Value.pointer (some ⟨lb, 0, none⟩), Value.pointer (some ⟨hb, 0, none⟩), Value.pointer (some ⟨mb, 0, none⟩), Value.pointer (some ⟨sb, 0, none⟩), Value.pointer (some ⟨bb, 0, none⟩)], undef, undef, undef, undef, Value.slice (some qa) nq cq, Value.int IntKind.i64 (nq : Int), Value.bool false, Value.bool false, Value.slice (some pa) np cp, Value.int IntKind.i64 (np : Int), Value.bool false, Value.bool false, undef, undef, undef, undef, undef, undef, undef, Value.slice (some qa) nq cq, Value.pointer (some qa), Value.int IntKind.i64 x, Value.slice (some pa) np cp, Value.pointer (some pa), Value.int IntKind.i64 y, Value.bool true, Value.slice (some pa) np cp, Value.slice (some qa) nq cq, x32, x33, x34, x35, x36, x37, x38, x39, x40, x41, undef, undef, undef, undef, undef, undef, undef, undef, undef, undef], defers := [] } ∧ KeepY bb sb w.heap.size w9 W ∧
                (Fl9 0 = true → x32 = .slice (some ta) nt ct) ∧
                (Fl9 1 = true → x33 = .slice (some pa) np cp) ∧
                (Fl9 2 = true → x34 = .slice (some pa) 1 cp) ∧
                (Fl9 3 = true → Fl9 4 = false → ∃ g9, x35 = .slice (some ⟨g9, 0, none⟩) 2 2 ∧ Has W W.heap.size (some ⟨g9, 0, none⟩) [.slice (some ta) nt ct, .slice (some pa) 1 cp]) ∧
                (Fl9 4 = true → Fl9 9 = false → ∃ g c9, x36 = .slice (some ⟨g, 0, none⟩) (nt + 1) c9 ∧ sb < g ∧ W.ownsRow w.heap.size 3 1 (.slice (some ⟨g, 0, none⟩) (nt + 1) c9) (nt + 1) ((t ++ [p0]).map (.int .i64))) ∧
                (Fl9 5 = true → x37 = .slice (some pa) np cp) ∧
                (Fl9 6 = true → x38 = .slice (some pq) (np - 1) (cp - 1)) ∧
                (Fl9 7 = true → x39 = .slice (some qa) nq cq) ∧
                (Fl9 8 = true → x40 = .func (.func 57) #[] #[.pointer (some ⟨lb, 0, none⟩), .pointer (some ⟨hb, 0, none⟩), .pointer (some ⟨mb, 0, none⟩), .pointer (some ⟨sb, 0, none⟩), .pointer (some ⟨bb, 0, none⟩)]) ∧
                (Fl9 9 = true → True) ∧
                (Fl9 9 = false → BSt lb hb mb sb bb B A n c vs hg mi base W acc) ∧
                (Fl9 9 = true → BSt lb hb mb sb bb B A n c vs hg mi base W acc1) ∧
                (Fl9 9 = true → Fl9 4 = true) ∧
                (Fl9 4 = true → Fl9 3 = true)) ?_ ?_ ?_
          · exact ⟨_, _, _, _, _, _, _, _, _, _, rfl, (KeepY.of ((Drawn.one w9 1).below _)), (fun q0 => nomatch q0), (fun q0 => nomatch q0), (fun q0 => nomatch q0), (fun q0 => nomatch q0), (fun q0 => nomatch q0), (fun q0 => nomatch q0), (fun q0 => nomatch q0), (fun q0 => nomatch q0), (fun q0 => nomatch q0), (fun q0 => nomatch q0), (fun _ => HS9.out.quiet ((Drawn.one w9 1).below _)), (fun q0 => nomatch q0), (fun q0 => nomatch q0), (fun q0 => nomatch q0)⟩
          · intro Fl9 ac W i9 o9 hJ ho hL hdep K9 hK
            obtain ⟨x32, x33, x34, x35, x36, x37, x38, x39, x40, x41, rfl, hB, hh0, hh1, hh2, hh3, hh4, hh5, hh6, hh7, hh8, hh9, hx0, hx1, hx2, hx3⟩ := hJ
            have hi9 : i9 < 10 := by simpa using (Array.getElem?_eq_some_iff.1 ho).1
            have hB9 := HK9.out.trans hB
            obtain rfl | rfl | rfl | rfl | rfl | rfl | rfl | rfl | rfl | rfl : i9 = 0 ∨ i9 = 1 ∨ i9 = 2 ∨ i9 = 3 ∨ i9 = 4 ∨ i9 = 5 ∨ i9 = 6 ∨ i9 = 7 ∨ i9 = 8 ∨ i9 = 9 := by omega
            · -- operation 0
              cases ho
              go_simp
              exact hK _ _ ⟨_, _, _, _, _, _, _, _, _, _, rfl, hB, fun _ => rfl, hh1, hh2, hh3, hh4, hh5, hh6, hh7, hh8, hh9, hx0, hx1, hx2, hx3⟩
            · -- operation 1
              cases ho
              go_simp
              exact hK _ _ ⟨_, _, _, _, _, _, _, _, _, _, rfl, hB, hh0, fun _ => rfl, hh2, hh3, hh4, hh5, hh6, hh7, hh8, hh9, hx0, hx1, hx2, hx3⟩
            · -- operation 2
              cases ho
              obtain rfl := hh1 (hdep ⟨1, .data⟩ (by simp) rfl)
              go_simp
              exact hK _ _ ⟨_, _, _, _, _, _, _, _, _, _, rfl, hB, hh0, hh1, fun _ => rfl, hh3, hh4, hh5, hh6, hh7, hh8, hh9, hx0, hx1, hx2, hx3⟩
            · -- operation 3
              cases ho
              obtain rfl := hh0 (hdep ⟨0, .data⟩ (by simp) rfl)
              obtain rfl := hh2 (hdep ⟨2, .data⟩ (by simp) rfl)
              go_simp
              exact hK _ _ ⟨_, _, _, _, _, _, _, _, _, _, rfl, hB.trans ((KeepY.of (bb := bb) (sb := sb) (below1 W _)).mono (Nat.le_trans hle9 hB.size)), hh0, hh1, hh2, fun _ => fun _ => ⟨_, rfl, by simpa using has_new2 W _ _ _⟩, fun q0 r0 => (fun ⟨g, c9, e, h, o⟩ => ⟨g, c9, e, h, own_below o (below1 W _)⟩) (hh4 q0 r0), hh5, hh6, hh7, hh8, hh9, fun q0 => (fun h => h.quiet (below1 W _)) (hx0 q0), fun q0 => (fun h => h.quiet (below1 W _)) (hx1 q0), hx2, fun _ => rfl⟩
            · -- operation 4
              cases ho
              have hd3 := hdep ⟨3, .data⟩ (by simp) rfl
              obtain ⟨g9, rfl, hg9⟩ := hh3 hd3 hL
              go_simp
              refine (CA.out W g9 hB9 hg9).mono ?_
              rintro e w8 ⟨g, c9, rfl, hsg, hown, hbq9⟩
              exact hK _ _ ⟨_, _, _, _, _, _, _, _, _, _, rfl, hB.trans ((KeepY.of (bb := bb) (sb := sb) hbq9).mono (Nat.le_trans hle9 hB.size)), hh0, hh1, hh2, (fun _ q0 => nomatch q0), fun _ => fun _ => ⟨_, _, rfl, hsg, hown⟩, hh5, hh6, hh7, hh8, (fun q0 => absurd (hx2 q0) (by rw [hL]; simp)), fun q0 => (fun h => h.quiet hbq9) (hx0 q0), fun q0 => (fun h => h.quiet hbq9) (hx1 q0), fun _ => rfl, fun _ => hd3⟩
            · -- operation 5
              cases ho
              go_simp
              exact hK _ _ ⟨_, _, _, _, _, _, _, _, _, _, rfl, hB, hh0, hh1, hh2, hh3, hh4, fun _ => rfl, hh6, hh7, hh8, hh9, hx0, hx1, hx2, hx3⟩
            · -- operation 6
              cases ho
              obtain rfl := hh5 (hdep ⟨5, .data⟩ (by simp) rfl)
              go_simp
              exact hK _ _ ⟨_, _, _, _, _, _, _, _, _, _, rfl, hB, hh0, hh1, hh2, hh3, hh4, hh5, fun _ => (by rw [HPF.out]), hh7, hh8, hh9, hx0, hx1, hx2, hx3⟩
            · -- operation 7
              cases ho
              go_simp
              exact hK _ _ ⟨_, _, _, _, _, _, _, _, _, _, rfl, hB, hh0, hh1, hh2, hh3, hh4, hh5, hh6, fun _ => rfl, hh8, hh9, hx0, hx1, hx2, hx3⟩
            · -- operation 8
              cases ho
              go_simp
              exact hK _ _ ⟨_, _, _, _, _, _, _, _, _, _, rfl, hB, hh0, hh1, hh2, hh3, hh4, hh5, hh6, hh7, fun _ => rfl, hh9, hx0, hx1, hx2, hx3⟩
            · -- operation 9
              cases ho
              have hd4 := hdep ⟨4, .data⟩ (by simp) rfl
              obtain ⟨g, c9, rfl, hsg, hown⟩ := hh4 hd4 hL
              obtain rfl := hh6 (hdep ⟨6, .data⟩ (by simp) rfl)
              obtain rfl := hh7 (hdep ⟨7, .data⟩ (by simp) rfl)
              obtain rfl := hh8 (hdep ⟨8, .data⟩ (by simp) rfl)
              go_simp
              refine (MA.out W g c9 hB9 hsg hown (hx0 hL)).mono ?_
              rintro e w8 ⟨rfl, hs9, hk9⟩
              exact hK _ _ ⟨_, _, _, _, _, _, _, _, _, _, rfl, hB.trans (hk9.mono (Nat.le_trans hle9 hB.size)), hh0, hh1, hh2, (fun _ q0 => absurd ((show Fl9 4 = false from q0).symm.trans hd4) (by simp)), (fun _ q0 => nomatch q0), hh5, hh6, hh7, hh8, fun _ => trivial, (fun q0 => nomatch q0), (fun _ => hs9), fun _ => hd4, hx3⟩
          intro Fl9 ac W hJ hall
          obtain ⟨x32, x33, x34, x35, x36, x37, x38, x39, x40, x41, rfl, hB, hh0, hh1, hh2, hh3, hh4, hh5, hh6, hh7, hh8, hh9, -, hxs, -, -⟩ := hJ
          obtain rfl := hh0 (hall 0 (by decide))
          obtain rfl := hh1 (hall 1 (by decide))
          obtain rfl := hh2 (hall 2 (by decide))
          obtain rfl := hh5 (hall 5 (by decide))
          obtain rfl := hh6 (hall 6 (by decide))
          obtain rfl := hh7 (hall 7 (by decide))
          obtain rfl := hh8 (hall 8 (by decide))
          obtain - := hh3 (hall 3 (by decide))
          obtain - := hh4 (hall 4 (by decide))
          obtain - := hh9 (hall 9 (by decide))
          replace hxs := hxs (hall 9 (by decide))
          clear hall
          have HS10 := Lib.hid hxs
          have HK10 := Lib.hid (HK9.out.trans hB)
          have hle9 := HK10.out.size
          clear hB hxs CA MA HS9 HK9
          obtain ⟨w10, hw10⟩ : ∃ W', W' = W := ⟨_, rfl⟩
          subst hw10
          go_wp2_with fail
          refine region_inv (by kernel_rfl) (by kernel_rfl) (fun Fl9 ac W => ∃ (x42 x43 x44 x45 x46 x47 x48 x49 x50 x51 : Value), ac = { tmps := #[Value.slice (some ta) nt ct, Value.slice (some pa) np cp, Value.slice (some qa) nq cq, Value.func (Fn.func 57) #[] #[Value.pointer (some ⟨lb, 0, none⟩), Value.pointer (some ⟨hb, 0, none⟩), Value.pointer (some ⟨mb, 0, none⟩), Value.pointer (some ⟨sb, 0, none⟩), Value.pointer (some ⟨bb, 0, none⟩)], undef, undef, undef, undef, Value.slice (some qa) nq cq, Value.int IntKind.i64 (nq : Int), Value.bool false, Value.bool false, Value.slice (some pa) np cp, Value.int IntKind.i64 (np : Int), Value.bool false, Value.bool false, undef, undef, undef, undef, undef, undef, undef, Value.slice (some qa) nq cq, Value.pointer (some qa), Value.int IntKind.i64 x, Value.slice (some pa) np cp, Value.pointer (some pa), Value.int IntKind.i64 y, Value.bool true, Value.slice (some pa) np cp, Value.slice (some qa) nq cq, Value.slice (some ta) nt ct, Value.slice (some pa) np cp, Value.slice (some pa) 1 cp, x35, x36, Value.slice (some pa) np cp, Value.slice (some pq) (np - 1) (cp - 1), Value.slice (some qa) nq cq, Value.func (Fn.func 57) #[] #[Value.pointer (some ⟨lb, 0, none⟩), Value.pointer (some ⟨hb, 0, none⟩), Value.pointer (some ⟨mb, 0, none⟩), Value.pointer (some ⟨sb, 0, none⟩), Value.pointer (some ⟨bb, 0, none⟩)], x41, x42, x43, x44, x45, x46, x47, x48, x49, x50, x51], defers := [] } ∧ KeepY bb sb w.heap.size w10 W ∧
                (Fl9 0 = true → x42 = .slice (some ta) nt ct) ∧
                (Fl9 1 = true → x43 = .slice (some qa) nq cq) ∧
                (Fl9 2 = true → x44 = .slice (some qa) 1 cq) ∧
                (Fl9 3 = true → Fl9 4 = false → ∃ g9, x45 = .slice (some ⟨g9, 0, none⟩) 2 2 ∧ Has W W.heap.size (some ⟨g9, 0, none⟩) [.slice (some ta) nt ct, .slice (some qa) 1 cq]) ∧
                (Fl9 4 = true → Fl9 9 = false → ∃ g c9, x46 = .slice (some ⟨g, 0, none⟩) (nt + 1) c9 ∧ sb < g ∧ W.ownsRow w.heap.size 3 1 (.slice (some ⟨g, 0, none⟩) (nt + 1) c9) (nt + 1) ((t ++ [q0]).map (.int .i64))) ∧
                (Fl9 5 = true → x47 = .slice (some pa) np cp) ∧
                (Fl9 6 = true → x48 = .slice (some qa) nq cq) ∧
                (Fl9 7 = true → x49 = .slice (some qq) (nq - 1) (cq - 1)) ∧
                (Fl9 8 = true → x50 = .func (.func 57) #[] #[.pointer (some ⟨lb, 0, none⟩), .pointer (some ⟨hb, 0, none⟩), .pointer (some ⟨mb, 0, none⟩), .pointer (some ⟨sb, 0, none⟩), .pointer (some ⟨bb, 0, none⟩)]) ∧
                (Fl9 9 = true → True) ∧
                (Fl9 9 = false → BSt lb hb mb sb bb B A n c vs hg mi base W acc1) ∧
                (Fl9 9 = true → BSt lb hb mb sb bb B A n c vs hg mi base W acc2) ∧
                (Fl9 9 = true → Fl9 4 = true) ∧
                (Fl9 4 = true → Fl9 3 = true)) ?_ ?_ ?_
          · exact ⟨_, _, _, _, _, _, _, _, _, _, rfl, (KeepY.of ((Drawn.one w10 1).below _)), (fun q0 => nomatch q0), (fun q0 => nomatch q0), (fun q0 => nomatch q0), (fun q0 => nomatch q0), (fun q0 => nomatch q0), (fun q0 => nomatch q0), (fun q0 => nomatch q0), (fun q0 => nomatch q0), (fun q0 => nomatch q0), (fun q0 => nomatch q0), (fun _ => HS10.out.quiet ((Drawn.one w10 1).below _)), (fun q0 => nomatch q0), (fun q0 => nomatch q0), (fun q0 => nomatch q0)⟩
          · intro Fl9 ac W i9 o9 hJ ho hL hdep K9 hK
            obtain ⟨x42, x43, x44, x45, x46, x47, x48, x49, x50, x51, rfl, hB, hh0, hh1, hh2, hh3, hh4, hh5, hh6, hh7, hh8, hh9, hx0, hx1, hx2, hx3⟩ := hJ
            have hi9 : i9 < 10 := by simpa using (Array.getElem?_eq_some_iff.1 ho).1
            have hB9 := HK10.out.trans hB
            obtain rfl | rfl | rfl | rfl | rfl | rfl | rfl | rfl | rfl | rfl : i9 = 0 ∨ i9 = 1 ∨ i9 = 2 ∨ i9 = 3 ∨ i9 = 4 ∨ i9 = 5 ∨ i9 = 6 ∨ i9 = 7 ∨ i9 = 8 ∨ i9 = 9 := by omega
            · -- operation 0
              cases ho
              go_simp
              exact hK _ _ ⟨_, _, _, _, _, _, _, _, _, _, rfl, hB, fun _ => rfl, hh1, hh2, hh3, hh4, hh5, hh6, hh7, hh8, hh9, hx0, hx1, hx2, hx3⟩
            · -- operation 1
              cases ho
              go_simp
              exact hK _ _ ⟨_, _, _, _, _, _, _, _, _, _, rfl, hB, hh0, fun _ => rfl, hh2, hh3, hh4, hh5, hh6, hh7, hh8, hh9, hx0, hx1, hx2, hx3⟩
            · -- operation 2
              cases ho
              obtain rfl := hh1 (hdep ⟨1, .data⟩ (by simp) rfl)
              go_simp
              exact hK _ _ ⟨_, _, _, _, _, _, _, _, _, _, rfl, hB, hh0, hh1, fun _ => rfl, hh3, hh4, hh5, hh6, hh7, hh8, hh9, hx0, hx1, hx2, hx3⟩
            · -- operation 3
              cases ho
              obtain rfl := hh0 (hdep ⟨0, .data⟩ (by simp) rfl)
              obtain rfl := hh2 (hdep ⟨2, .data⟩ (by simp) rfl)
              go_simp
              exact hK _ _ ⟨_, _, _, _, _, _, _, _, _, _, rfl, hB.trans ((KeepY.of (bb := bb) (sb := sb) (below1 W _)).mono (Nat.le_trans hle9 hB.size)), hh0, hh1, hh2, fun _ => fun _ => ⟨_, rfl, by simpa using has_new2 W _ _ _⟩, fun q0 r0 => (fun ⟨g, c9, e, h, o⟩ => ⟨g, c9, e, h, own_below o (below1 W _)⟩) (hh4 q0 r0), hh5, hh6, hh7, hh8, hh9, fun q0 => (fun h => h.quiet (below1 W _)) (hx0 q0), fun q0 => (fun h => h.quiet (below1 W _)) (hx1 q0), hx2, fun _ => rfl⟩
            · -- operation 4
              cases ho
              have hd3 := hdep ⟨3, .data⟩ (by simp) rfl
              obtain ⟨g9, rfl, hg9⟩ := hh3 hd3 hL
              go_simp
              refine (CB.out W g9 hB9 hg9).mono ?_
              rintro e w8 ⟨g, c9, rfl, hsg, hown, hbq9⟩
              exact hK _ _ ⟨_, _, _, _, _, _, _, _, _, _, rfl, hB.trans ((KeepY.of (bb := bb) (sb := sb) hbq9).mono (Nat.le_trans hle9 hB.size)), hh0, hh1, hh2, (fun _ q0 => nomatch q0), fun _ => fun _ => ⟨_, _, rfl, hsg, hown⟩, hh5, hh6, hh7, hh8, (fun q0 => absurd (hx2 q0) (by rw [hL]; simp)), fun q0 => (fun h => h.quiet hbq9) (hx0 q0), fun q0 => (fun h => h.quiet hbq9) (hx1 q0), fun _ => rfl, fun _ => hd3⟩
            · -- operation 5
              cases ho
              go_simp
              exact hK _ _ ⟨_, _, _, _, _, _, _, _, _, _, rfl, hB, hh0, hh1, hh2, hh3, hh4, fun _ => rfl, hh6, hh7, hh8, hh9, hx0, hx1, hx2, hx3⟩
            · -- operation 6
              cases ho
              go_simp
              exact hK _ _ ⟨_, _, _, _, _, _, _, _, _, _, rfl, hB, hh0, hh1, hh2, hh3, hh4, hh5, fun _ => rfl, hh7, hh8, hh9, hx0, hx1, hx2, hx3⟩
            · -- operation 7
              cases ho
              obtain rfl := hh6 (hdep ⟨6, .data⟩ (by simp) rfl)
              go_simp
              exact hK _ _ ⟨_, _, _, _, _, _, _, _, _, _, rfl, hB, hh0, hh1, hh2, hh3, hh4, hh5, hh6, fun _ => (by rw [HQF.out]), hh8, hh9, hx0, hx1, hx2, hx3⟩
            · -- operation 8
              cases ho
              go_simp
              exact hK _ _ ⟨_, _, _, _, _, _, _, _, _, _, rfl, hB, hh0, hh1, hh2, hh3, hh4, hh5, hh6, hh7, fun _ => rfl, hh9, hx0, hx1, hx2, hx3⟩
            · -- operation 9
              cases ho
              have hd4 := hdep ⟨4, .data⟩ (by simp) rfl
              obtain ⟨g, c9, rfl, hsg, hown⟩ := hh4 hd4 hL
              obtain rfl := hh5 (hdep ⟨5, .data⟩ (by simp) rfl)
              obtain rfl := hh7 (hdep ⟨7, .data⟩ (by simp) rfl)
              obtain rfl := hh8 (hdep ⟨8, .data⟩ (by simp) rfl)
              go_simp
              refine (MB.out W g c9 hB9 hsg hown (hx0 hL)).mono ?_
              rintro e w8 ⟨rfl, hs9, hk9⟩
              exact hK _ _ ⟨_, _, _, _, _, _, _, _, _, _, rfl, hB.trans (hk9.mono (Nat.le_trans hle9 hB.size)), hh0, hh1, hh2, (fun _ q0 => absurd ((show Fl9 4 = false from q0).symm.trans hd4) (by simp)), (fun _ q0 => nomatch q0), hh5, hh6, hh7, hh8, fun _ => trivial, (fun q0 => nomatch q0), (fun _ => hs9), fun _ => hd4, hx3⟩
          intro Fl9 ac W hJ hall
          obtain ⟨x42, x43, x44, x45, x46, x47, x48, x49, x50, x51, rfl, hB, hh0, hh1, hh2, hh3, hh4, hh5, hh6, hh7, hh8, hh9, -, hxs, -, -⟩ := hJ
          obtain rfl := hh0 (hall 0 (by decide))
          obtain rfl := hh1 (hall 1 (by decide))
          obtain rfl := hh2 (hall 2 (by decide))
          obtain rfl := hh5 (hall 5 (by decide))
          obtain rfl := hh6 (hall 6 (by decide))
          obtain rfl := hh7 (hall 7 (by decide))
          obtain rfl := hh8 (hall 8 (by decide))
          obtain - := hh3 (hall 3 (by decide))
          obtain - := hh4 (hall 4 (by decide))
          obtain - := hh9 (hall 9 (by decide))
          replace hxs := hxs (hall 9 (by decide))
          clear hall
          have HF := Lib.hid (And.intro hxs (HK10.out.trans hB))
          clear hB hxs CB MB HS10 HK10
          go_wp2_with fail
          go_end0
          exact ⟨rfl, by rw [HAC.out]; exact HF.out.1, HF.out.2⟩
        · have hgt : ¬ x > y := hxy
          go_enter Try.func56, Try.ntmps56
          go_wp2_with fail
          refine wp_region_quiet_below (by kernel_rfl) (by kernel_rfl) ?_
          repeat (go_big_quiet_step (first | fail))
          refine wpQuiet_nil ?_
          intro _ hw'
          obtain ⟨⟨dq, osq⟩, hw''⟩ := hw'
          subst hw''
          have HBX := Lib.hid (HB0.out.trans ((below_regrown w dq osq).mono HB0.out.size))
          clear X0 Y0
          have HK9 := Lib.hid (KeepY.of (bb := bb) (sb := sb) HBX.out)
          have HS9 := Lib.hid (HS.out.quiet HBX.out)
          obtain ⟨w9, hw9⟩ : ∃ W, grow (redrawn w dq) osq = W := ⟨_, rfl⟩
          rw [hw9] at HK9 HS9 HBX ⊢
          obtain ⟨pa, hpa⟩ : ∃ x9, x9 = aa := ⟨_, rfl⟩
          obtain ⟨np, hnp⟩ : ∃ x9, x9 = na := ⟨_, rfl⟩
          obtain ⟨cp, hcp⟩ : ∃ x9, x9 = ca := ⟨_, rfl⟩
          obtain ⟨p0, hp0⟩ : ∃ x9, x9 = x := ⟨_, rfl⟩
          obtain ⟨p, hp⟩ : ∃ x9, x9 = a := ⟨_, rfl⟩
          obtain ⟨qa, hqa⟩ : ∃ x9, x9 = ba := ⟨_, rfl⟩
          obtain ⟨nq, hnq⟩ : ∃ x9, x9 = nb := ⟨_, rfl⟩
          obtain ⟨cq, hcq⟩ : ∃ x9, x9 = cb := ⟨_, rfl⟩
          obtain ⟨q0, hq0⟩ : ∃ x9, x9 = y := ⟨_, rfl⟩
          obtain ⟨q, hq⟩ : ∃ x9, x9 = b := ⟨_, rfl⟩
          have HP : Hid (RowY sb w pa (p0 :: p)) := Lib.hid (by rw [hpa, hp0, hp]; exact HA.out)
          have HQ : Hid (RowY sb w qa (q0 :: q)) := Lib.hid (by rw [hqa, hq0, hq]; exact HBB.out)
          have hnp1 : (p0 :: p).length = np := by rw [hp0, hp, hnp]; exact hna
          have hnq1 : (q0 :: q).length = nq := by rw [hq0, hq, hnq]; exact hnb
          have hcp1 : np ≤ cp := by rw [hnp, hcp]; exact hca
          have hcq1 : nq ≤ cq := by rw [hnq, hcq]; exact hcb
          have hall6 : nt + np + nq ≤ 6 := by rw [hnp, hnq]; omega
          have hsum : np + nq = f + 1 := by rw [hnp, hnq]; omega
          have HMG : Hid (mgs (f + 1) t (x :: a) (y :: b) = mgs f (t ++ [p0]) p (q0 :: q) ++ mgs f (t ++ [q0]) (p0 :: p) q) := Lib.hid (by rw [hp0, hp, hq0, hq]; exact (by rw [mgs, if_neg (by omega)]))
          rw [← hpa, ← hnp, ← hcp, ← hqa, ← hnq, ← hcq]
          clear hpa hnp hcp hp0 hp hqa hnq hcq hq0 hq hw9
          have hn1 : 1 ≤ np := by simp at hnp1; omega
          have hn2 : 1 ≤ nq := by simp at hnq1; omega
          have hf9 : p.length + q.length + 1 = f := by simp at hnp1 hnq1; omega
          obtain ⟨pq, hpq⟩ : ∃ aq, (if cp = 1 then some pa else some (pa.add 1) : Option Addr) = some aq := by split <;> exact ⟨_, rfl⟩
          obtain ⟨qq, hqq⟩ : ∃ aq, (if cq = 1 then some qa else some (qa.add 1) : Option Addr) = some aq := by split <;> exact ⟨_, rfl⟩
          have HPQ := Lib.hid hpq
          have HQQ := Lib.hid hqq
          have HPF := Lib.hid hpq
          have HQF := Lib.hid hqq
          rw [addFormS _ _ (by decide)] at HPF HQF
          obtain ⟨acc1, ha1⟩ : ∃ x, fm (dly vs mi hg) acc (mgs f (t ++ [p0]) p (q0 :: q)) = x := ⟨_, rfl⟩
          obtain ⟨acc2, ha2⟩ : ∃ x, fm (dly vs mi hg) acc1 (mgs f (t ++ [q0]) (p0 :: p) q) = x := ⟨_, rfl⟩
          have HAC : Hid (fm (dly vs mi hg) acc (mgs (f + 1) t (x :: a) (y :: b)) = acc2) := Lib.hid (by rw [HMG.out, fm_append, ha1, ha2])
          have CA := Lib.hid (fun W g9 (hk : KeepY bb sb w.heap.size w W) h => cat2_any (W := W) (cp := cp) (ct := ct) (g9 := g9) (HT.out.keep FX.s1 hk) (HP.out.keep FX.s1 hk).one hnt (by omega) w.heap.size hk.size h)
          have CB := Lib.hid (fun W g9 (hk : KeepY bb sb w.heap.size w W) h => cat2_any (W := W) (cp := cq) (ct := ct) (g9 := g9) (HT.out.keep FX.s1 hk) (HQ.out.keep FX.s1 hk).one hnt (by omega) w.heap.size hk.size h)
          have MA := Lib.hid (fun W g c9 (hk : KeepY bb sb w.heap.size w W) (hsg : sb < g) (hown : W.ownsRow w.heap.size 3 1 (.slice (some ⟨g, 0, none⟩) (nt + 1) c9) (nt + 1) ((t ++ [p0]).map (.int .i64))) hs => IH.out (t ++ [p0]) p (q0 :: q) W acc ⟨g, 0, none⟩ pq qa (nt + 1) c9 (np - 1) (cp - 1) nq cq (RowY.own hown hsg) ((HP.out.keep FX.s1 hk).tail hnp1 hcp1 HPQ.out) (HQ.out.keep FX.s1 hk) (by simp [hnt]) (by simp at hnp1; omega) hnq1 (by omega) hcq1 (by simp; omega) (by omega) (fun O hO => HORD.out O (by rw [HMG.out]; exact List.mem_append_left _ hO)) (Nat.le_trans hbase hk.size) hs)
          have MB := Lib.hid (fun W g c9 (hk : KeepY bb sb w.heap.size w W) (hsg : sb < g) (hown : W.ownsRow w.heap.size 3 1 (.slice (some ⟨g, 0, none⟩) (nt + 1) c9) (nt + 1) ((t ++ [q0]).map (.int .i64))) hs => IH.out (t ++ [q0]) (p0 :: p) q W acc1 ⟨g, 0, none⟩ pa qq (nt + 1) c9 np cp (nq - 1) (cq - 1) (RowY.own hown hsg) (HP.out.keep FX.s1 hk) ((HQ.out.keep FX.s1 hk).tail hnq1 hcq1 HQQ.out) (by simp [hnt]) hnp1 (by simp at hnq1; omega) hcp1 (by omega) (by simp; omega) (by omega) (fun O hO => HORD.out O (by rw [HMG.out]; exact List.mem_append_right _ hO)) (Nat.le_trans hbase hk.size) hs)
          rw [ha1] at MA
          rw [ha2] at MB
          have hle9 := HK9.out.size
          have hn3 : (1 : Int) ≤ (np : Int) := by omega
          have hn4 : (1 : Int) ≤ (nq : Int) := by omega
          have hn5 : (1 : Int) ≤ (cp : Int) := by omega
          have hn7 : (1 : Int) ≤ (cq : Int) := by omega
          have hn8 : (np : Int) ≤ (cp : Int) := by omega
          have hn9 : (nq : Int) ≤ (cq : Int) := by omega
          have HFXX := Lib.hid FX
          clear hpq hqq ha1 ha2 HMG HP HQ HT IH HORD HS HBX HA HBB hnp1 hnq1
          go_wp2_with fail
          refine region_inv (by kernel_rfl) (by kernel_rfl) (fun Fl9 ac W => ∃ (x32 x33 x34 x35 x36 x37 x38 x39 x40 x41 : Value), ac = { tmps := #[Value.slice (some ta) nt ct, Value.slice (some pa) np cp, Value.slice (some qa) nq cq, Value.func (Fn.func 57) #[] #[Value.pointer (some ⟨lb, 0, none⟩), Value.pointer (some ⟨hb, 0, none⟩), Value.pointer (some ⟨mb, 0, none⟩), Value.pointer (some ⟨sb, 0, none⟩), Value.pointer (some ⟨bb, 0, none⟩)], undef, undef, undef, undef, Value.slice (some pa) np cp, Value.int IntKind.i64 (np : Int), Value.bool false, Value.bool false, Value.slice (some qa) nq cq, Value.int IntKind.i64 (nq : Int), Value.bool false, Value.bool false, undef, undef, undef, undef, undef, undef, undef, Value.slice (some pa) np cp, Value.pointer (some pa), Value.int IntKind.i64 x, Value.slice (some qa) nq cq, Value.pointer (some qa), Value.int IntKind.i64 y, Value.bool (decide (y < x)), undef, undef, x32, x33, x34, x35, x36, x37, x38, x39, x40, x41, undef, undef, undef, undef, undef, undef, undef, undef, undef, undef], defers := [] } ∧ KeepY bb sb w.heap.size w9 W ∧
                (Fl9 0 = true → x32 = .slice (some ta) nt ct) ∧
                (Fl9 1 = true → x33 = .slice (some pa) np cp) ∧
                (Fl9 2 = true → x34 = .slice (some pa) 1 cp) ∧
                (Fl9 3 = true → Fl9 4 = false → ∃ g9, x35 = .slice (some ⟨g9, 0, none⟩) 2 2 ∧ Has W W.heap.size (some ⟨g9, 0, none⟩) [.slice (some ta) nt ct, .slice (some pa) 1 cp]) ∧
                (Fl9 4 = true → Fl9 9 = false → ∃ g c9, x36 = .slice (some ⟨g, 0, none⟩) (nt + 1) c9 ∧ sb < g ∧ W.ownsRow w.heap.size 3 1 (.slice (some ⟨g, 0, none⟩) (nt + 1) c9) (nt + 1) ((t ++ [p0]).map (.int .i64))) ∧
                (Fl9 5 = true → x37 = .slice (some pa) np cp) ∧
                (Fl9 6 = true → x38 = .slice (some pq) (np - 1) (cp - 1)) ∧
                (Fl9 7 = true → x39 = .slice (some qa) nq cq) ∧
                (Fl9 8 = true → x40 = .func (.func 57) #[] #[.pointer (some ⟨lb, 0, none⟩), .pointer (some ⟨hb, 0, none⟩), .pointer (some ⟨mb, 0, none⟩), .pointer (some ⟨sb, 0, none⟩), .pointer (some ⟨bb, 0, none⟩)]) ∧
                (Fl9 9 = true → True) ∧
                (Fl9 9 = false → BSt lb hb mb sb bb B A n c vs hg mi base W acc) ∧
                (Fl9 9 = true → BSt lb hb mb sb bb B A n c vs hg mi base W acc1) ∧
                (Fl9 9 = true → Fl9 4 = true) ∧
                (Fl9 4 = true → Fl9 3 = true)) ?_ ?_ ?_
          · exact ⟨_, _, _, _, _, _, _, _, _, _, rfl, (KeepY.of ((Drawn.one w9 1).below _)), (fun q0 => nomatch q0), (fun q0 => nomatch q0), (fun q0 => nomatch q0), (fun q0 => nomatch q0), (fun q0 => nomatch q0), (fun q0 => nomatch q0), (fun q0 => nomatch q0), (fun q0 => nomatch q0), (fun q0 => nomatch q0), (fun q0 => nomatch q0), (fun _ => HS9.out.quiet ((Drawn.one w9 1).below _)), (fun q0 => nomatch q0), (fun q0 => nomatch q0), (fun q0 => nomatch q0)⟩
          · intro Fl9 ac W i9 o9 hJ ho hL hdep K9 hK
            obtain ⟨x32, x33, x34, x35, x36, x37, x38, x39, x40, x41, rfl, hB, hh0, hh1, hh2, hh3, hh4, hh5, hh6, hh7, hh8, hh9, hx0, hx1, hx2, hx3⟩ := hJ
            have hi9 : i9 < 10 := by simpa using (Array.getElem?_eq_some_iff.1 ho).1
            have hB9 := HK9.out.trans hB
            obtain rfl | rfl | rfl | rfl | rfl | rfl | rfl | rfl | rfl | rfl : i9 = 0 ∨ i9 = 1 ∨ i9 = 2 ∨ i9 = 3 ∨ i9 = 4 ∨ i9 = 5 ∨ i9 = 6 ∨ i9 = 7 ∨ i9 = 8 ∨ i9 = 9 := by omega
            · -- operation 0
              cases ho
              go_simp
              exact hK _ _ ⟨_, _, _, _, _, _, _, _, _, _, rfl, hB, fun _ => rfl, hh1, hh2, hh3, hh4, hh5, hh6, hh7, hh8, hh9, hx0, hx1, hx2, hx3⟩
            · -- operation 1
              cases ho
              go_simp
              exact hK _ _ ⟨_, _, _, _, _, _, _, _, _, _, rfl, hB, hh0, fun _ => rfl, hh2, hh3, hh4, hh5, hh6, hh7, hh8, hh9, hx0, hx1, hx2, hx3⟩
            · -- operation 2
              cases ho
              obtain rfl := hh1 (hdep ⟨1, .data⟩ (by simp) rfl)
              go_simp
              exact hK _ _ ⟨_, _, _, _, _, _, _, _, _, _, rfl, hB, hh0, hh1, fun _ => rfl, hh3, hh4, hh5, hh6, hh7, hh8, hh9, hx0, hx1, hx2, hx3⟩
            · -- operation 3
              cases ho
              obtain rfl := hh0 (hdep ⟨0, .data⟩ (by simp) rfl)
              obtain rfl := hh2 (hdep ⟨2, .data⟩ (by simp) rfl)
              go_simp
              exact hK _ _ ⟨_, _, _, _, _, _, _, _, _, _, rfl, hB.trans ((KeepY.of (bb := bb) (sb := sb) (below1 W _)).mono (Nat.le_trans hle9 hB.size)), hh0, hh1, hh2, fun _ => fun _ => ⟨_, rfl, by simpa using has_new2 W _ _ _⟩, fun q0 r0 => (fun ⟨g, c9, e, h, o⟩ => ⟨g, c9, e, h, own_below o (below1 W _)⟩) (hh4 q0 r0), hh5, hh6, hh7, hh8, hh9, fun q0 => (fun h => h.quiet (below1 W _)) (hx0 q0), fun q0 => (fun h => h.quiet (below1 W _)) (hx1 q0), hx2, fun _ => rfl⟩
            · -- operation 4
              cases ho
              have hd3 := hdep ⟨3, .data⟩ (by simp) rfl
              obtain ⟨g9, rfl, hg9⟩ := hh3 hd3 hL
              go_simp
              refine (CA.out W g9 hB9 hg9).mono ?_
              rintro e w8 ⟨g, c9, rfl, hsg, hown, hbq9⟩
              exact hK _ _ ⟨_, _, _, _, _, _, _, _, _, _, rfl, hB.trans ((KeepY.of (bb := bb) (sb := sb) hbq9).mono (Nat.le_trans hle9 hB.size)), hh0, hh1, hh2, (fun _ q0 => nomatch q0), fun _ => fun _ => ⟨_, _, rfl, hsg, hown⟩, hh5, hh6, hh7, hh8, (fun q0 => absurd (hx2 q0) (by rw [hL]; simp)), fun q0 => (fun h => h.quiet hbq9) (hx0 q0), fun q0 => (fun h => h.quiet hbq9) (hx1 q0), fun _ => rfl, fun _ => hd3⟩
            · -- operation 5
              cases ho
              go_simp
              exact hK _ _ ⟨_, _, _, _, _, _, _, _, _, _, rfl, hB, hh0, hh1, hh2, hh3, hh4, fun _ => rfl, hh6, hh7, hh8, hh9, hx0, hx1, hx2, hx3⟩
            · -- operation 6
              cases ho
              obtain rfl := hh5 (hdep ⟨5, .data⟩ (by simp) rfl)
              go_simp
              exact hK _ _ ⟨_, _, _, _, _, _, _, _, _, _, rfl, hB, hh0, hh1, hh2, hh3, hh4, hh5, fun _ => (by rw [HPF.out]), hh7, hh8, hh9, hx0, hx1, hx2, hx3⟩
            · -- operation 7
              cases ho
              go_simp
              exact hK _ _ ⟨_, _, _, _, _, _, _, _, _, _, rfl, hB, hh0, hh1, hh2, hh3, hh4, hh5, hh6, fun _ => rfl, hh8, hh9, hx0, hx1, hx2, hx3⟩
            · -- operation 8
              cases ho
              go_simp
              exact hK _ _ ⟨_, _, _, _, _, _, _, _, _, _, rfl, hB, hh0, hh1, hh2, hh3, hh4, hh5, hh6, hh7, fun _ => rfl, hh9, hx0, hx1, hx2, hx3⟩
            · -- operation 9
              cases ho
              have hd4 := hdep ⟨4, .data⟩ (by simp) rfl
              obtain ⟨g, c9, rfl, hsg, hown⟩ := hh4 hd4 hL
              obtain rfl := hh6 (hdep ⟨6, .data⟩ (by simp) rfl)
              obtain rfl := hh7 (hdep ⟨7, .data⟩ (by simp) rfl)
              obtain rfl := hh8 (hdep ⟨8, .data⟩ (by simp) rfl)
              go_simp
              refine (MA.out W g c9 hB9 hsg hown (hx0 hL)).mono ?_
              rintro e w8 ⟨rfl, hs9, hk9⟩
              exact hK _ _ ⟨_, _, _, _, _, _, _, _, _, _, rfl, hB.trans (hk9.mono (Nat.le_trans hle9 hB.size)), hh0, hh1, hh2, (fun _ q0 => absurd ((show Fl9 4 = false from q0).symm.trans hd4) (by simp)), (fun _ q0 => nomatch q0), hh5, hh6, hh7, hh8, fun _ => trivial, (fun q0 => nomatch q0), (fun _ => hs9), fun _ => hd4, hx3⟩
          intro Fl9 ac W hJ hall
          obtain ⟨x32, x33, x34, x35, x36, x37, x38, x39, x40, x41, rfl, hB, hh0, hh1, hh2, hh3, hh4, hh5, hh6, hh7, hh8, hh9, -, hxs, -, -⟩ := hJ
          obtain rfl := hh0 (hall 0 (by decide))
          obtain rfl := hh1 (hall 1 (by decide))
          obtain rfl := hh2 (hall 2 (by decide))
          obtain rfl := hh5 (hall 5 (by decide))
          obtain rfl := hh6 (hall 6 (by decide))
          obtain rfl := hh7 (hall 7 (by decide))
          obtain rfl := hh8 (hall 8 (by decide))
          obtain - := hh3 (hall 3 (by decide))
          obtain - := hh4 (hall 4 (by decide))
          obtain - := hh9 (hall 9 (by decide))
          replace hxs := hxs (hall 9 (by decide))
          clear hall
          have HS10 := Lib.hid hxs
          have HK10 := Lib.hid (HK9.out.trans hB)
          have hle9 := HK10.out.size
          clear hB hxs CA MA HS9 HK9
          obtain ⟨w10, hw10⟩ : ∃ W', W' = W := ⟨_, rfl⟩
          subst hw10
          go_wp2_with fail
          refine region_inv (by kernel_rfl) (by kernel_rfl) (fun Fl9 ac W => ∃ (x42 x43 x44 x45 x46 x47 x48 x49 x50 x51 : Value), ac = { tmps := #[Value.slice (some ta) nt ct, Value.slice (some pa) np cp, Value.slice (some qa) nq cq, Value.func (Fn.func 57) #[] #[Value.pointer (some ⟨lb, 0, none⟩), Value.pointer (some ⟨hb, 0, none⟩), Value.pointer (some ⟨mb, 0, none⟩), Value.pointer (some ⟨sb, 0, none⟩), Value.pointer (some ⟨bb, 0, none⟩)], undef, undef, undef, undef, Value.slice (some pa) np cp, Value.int IntKind.i64 (np : Int), Value.bool false, Value.bool false, Value.slice (some qa) nq cq, Value.int IntKind.i64 (nq : Int), Value.bool false, Value.bool false, undef, undef, undef, undef, undef, undef, undef, Value.slice (some pa) np cp, Value.pointer (some pa), Value.int IntKind.i64 x, Value.slice (some qa) nq cq, Value.pointer (some qa), Value.int IntKind.i64 y, Value.bool (decide (y < x)), undef, undef, Value.slice (some ta) nt ct, Value.slice (some pa) np cp, Value.slice (some pa) 1 cp, x35, x36, Value.slice (some pa) np cp, Value.slice (some pq) (np - 1) (cp - 1), Value.slice (some qa) nq cq, Value.func (Fn.func 57) #[] #[Value.pointer (some ⟨lb, 0, none⟩), Value.pointer (some ⟨hb, 0, none⟩), Value.pointer (some ⟨mb, 0, none⟩), Value.pointer (some ⟨sb, 0, none⟩), Value.pointer (some ⟨bb, 0, none⟩)], x41, x42, x43, x44, x45, x46, x47, x48, x49, x50, x51], defers := [] } ∧ KeepY bb sb w.heap.size w10 W ∧
                (Fl9 0 = true → x42 = .slice (some ta) nt ct) ∧
                (Fl9 1 = true → x43 = .slice (some qa) nq cq) ∧
                (Fl9 2 = true → x44 = .slice (some qa) 1 cq) ∧
                (Fl9 3 = true → Fl9 4 = false → ∃ g9, x45 = .slice (some ⟨g9, 0, none⟩) 2 2 ∧ Has W W.heap.size (some ⟨g9, 0, none⟩) [.slice (some ta) nt ct, .slice (some qa) 1 cq]) ∧
                (Fl9 4 = true → Fl9 9 = false → ∃ g c9, x46 = .slice (some ⟨g, 0, none⟩) (nt + 1) c9 ∧ sb < g ∧ W.ownsRow w.heap.size 3 1 (.slice (some ⟨g, 0, none⟩) (nt + 1) c9) (nt + 1) ((t ++ [q0]).map (.int .i64))) ∧
                (Fl9 5 = true → x47 = .slice (some pa) np cp) ∧
                (Fl9 6 = true → x48 = .slice (some qa) nq cq) ∧
                (Fl9 7 = true → x49 = .slice (some qq) (nq - 1) (cq - 1)) ∧
                (Fl9 8 = true → x50 = .func (.func 57) #[] #[.pointer (some ⟨lb, 0, none⟩), .pointer (some ⟨hb, 0, none⟩), .pointer (some ⟨mb, 0, none⟩), .pointer (some ⟨sb, 0, none⟩), .pointer (some ⟨bb, 0, none⟩)]) ∧
                (Fl9 9 = true → True) ∧
                (Fl9 9 = false → BSt lb hb mb sb bb B A n c vs hg mi base W acc1) ∧
                (Fl9 9 = true → BSt lb hb mb sb bb B A n c vs hg mi base W acc2) ∧
                (Fl9 9 = true → Fl9 4 = true) ∧
                (Fl9 4 = true → Fl9 3 = true)) ?_ ?_ ?_
          · exact ⟨_, _, _, _, _, _, _, _, _, _, rfl, (KeepY.of ((Drawn.one w10 1).below _)), (fun q0 => nomatch q0), (fun q0 => nomatch q0), (fun q0 => nomatch q0), (fun q0 => nomatch q0), (fun q0 => nomatch q0), (fun q0 => nomatch q0), (fun q0 => nomatch q0), (fun q0 => nomatch q0), (fun q0 => nomatch q0), (fun q0 => nomatch q0), (fun _ => HS10.out.quiet ((Drawn.one w10 1).below _)), (fun q0 => nomatch q0), (fun q0 => nomatch q0), (fun q0 => nomatch q0)⟩
          · intro Fl9 ac W i9 o9 hJ ho hL hdep K9 hK
            obtain ⟨x42, x43, x44, x45, x46, x47, x48, x49, x50, x51, rfl, hB, hh0, hh1, hh2, hh3, hh4, hh5, hh6, hh7, hh8, hh9, hx0, hx1, hx2, hx3⟩ := hJ
            have hi9 : i9 < 10 := by simpa using (Array.getElem?_eq_some_iff.1 ho).1
            have hB9 := HK10.out.trans hB
            obtain rfl | rfl | rfl | rfl | rfl | rfl | rfl | rfl | rfl | rfl : i9 = 0 ∨ i9 = 1 ∨ i9 = 2 ∨ i9 = 3 ∨ i9 = 4 ∨ i9 = 5 ∨ i9 = 6 ∨ i9 = 7 ∨ i9 = 8 ∨ i9 = 9 := by omega
            · -- operation 0
              cases ho
              go_simp
              exact hK _ _ ⟨_, _, _, _, _, _, _, _, _, _, rfl, hB, fun _ => rfl, hh1, hh2, hh3, hh4, hh5, hh6, hh7, hh8, hh9, hx0, hx1, hx2, hx3⟩
            · -- operation 1
              cases ho
              go_simp
              exact hK _ _ ⟨_, _, _, _, _, _, _, _, _, _, rfl, hB, hh0, fun _ => rfl, hh2, hh3, hh4, hh5, hh6, hh7, hh8, hh9, hx0, hx1, hx2, hx3⟩
            · -- operation 2
              cases ho
              obtain rfl := hh1 (hdep ⟨1, .data⟩ (by simp) rfl)
              go_simp
              exact hK _ _ ⟨_, _, _, _, _, _, _, _, _, _, rfl, hB, hh0, hh1, fun _ => rfl, hh3, hh4, hh5, hh6, hh7, hh8, hh9, hx0, hx1, hx2, hx3⟩
            · -- operation 3
              cases ho
              obtain rfl := hh0 (hdep ⟨0, .data⟩ (by simp) rfl)
              obtain rfl := hh2 (hdep ⟨2, .data⟩ (by simp) rfl)
              go_simp
              exact hK _ _ ⟨_, _, _, _, _, _, _, _, _, _, rfl, hB.trans ((KeepY.of (bb := bb) (sb := sb) (below1 W _)).mono (Nat.le_trans hle9 hB.size)), hh0, hh1, hh2, fun _ => fun _ => ⟨_, rfl, by simpa using has_new2 W _ _ _⟩, fun q0 r0 => (fun ⟨g, c9, e, h, o⟩ => ⟨g, c9, e, h, own_below o (below1 W _)⟩) (hh4 q0 r0), hh5, hh6, hh7, hh8, hh9, fun q0 => (fun h => h.quiet (below1 W _)) (hx0 q0), fun q0 => (fun h => h.quiet (below1 W _)) (hx1 q0), hx2, fun _ => rfl⟩
            · -- operation 4
              cases ho
              have hd3 := hdep ⟨3, .data⟩ (by simp) rfl
              obtain ⟨g9, rfl, hg9⟩ := hh3 hd3 hL
              go_simp
              refine (CB.out W g9 hB9 hg9).mono ?_
              rintro e w8 ⟨g, c9, rfl, hsg, hown, hbq9⟩
              exact hK _ _ ⟨_, _, _, _, _, _, _, _, _, _, rfl, hB.trans ((KeepY.of (bb := bb) (sb := sb) hbq9).mono (Nat.le_trans hle9 hB.size)), hh0, hh1, hh2, (fun _ q0 => nomatch q0), fun _ => fun _ => ⟨_, _, rfl, hsg, hown⟩, hh5, hh6, hh7, hh8, (fun q0 => absurd (hx2 q0) (by rw [hL]; simp)), fun q0 => (fun h => h.quiet hbq9) (hx0 q0), fun q0 => (fun h => h.quiet hbq9) (hx1 q0), fun _ => rfl, fun _ => hd3⟩
            · -- operation 5
              cases ho
              go_simp
              exact hK _ _ ⟨_, _, _, _, _, _, _, _, _, _, rfl, hB, hh0, hh1, hh2, hh3, hh4, fun _ => rfl, hh6, hh7, hh8, hh9, hx0, hx1, hx2, hx3⟩
            · -- operation 6
              cases ho
              go_simp
              exact hK _ _ ⟨_, _, _, _, _, _, _, _, _, _, rfl, hB, hh0, hh1, hh2, hh3, hh4, hh5, fun _ => rfl, hh7, hh8, hh9, hx0, hx1, hx2, hx3⟩
            · -- operation 7
              cases ho
              obtain rfl := hh6 (hdep ⟨6, .data⟩ (by simp) rfl)
              go_simp
              exact hK _ _ ⟨_, _, _, _, _, _, _, _, _, _, rfl, hB, hh0, hh1, hh2, hh3, hh4, hh5, hh6, fun _ => (by rw [HQF.out]), hh8, hh9, hx0, hx1, hx2, hx3⟩
            · -- operation 8
              cases ho
              go_simp
              exact hK _ _ ⟨_, _, _, _, _, _, _, _, _, _, rfl, hB, hh0, hh1, hh2, hh3, hh4, hh5, hh6, hh7, fun _ => rfl, hh9, hx0, hx1, hx2, hx3⟩
            · -- operation 9
              cases ho
              have hd4 := hdep ⟨4, .data⟩ (by simp) rfl
              obtain ⟨g, c9, rfl, hsg, hown⟩ := hh4 hd4 hL
              obtain rfl := hh5 (hdep ⟨5, .data⟩ (by simp) rfl)
              obtain rfl := hh7 (hdep ⟨7, .data⟩ (by simp) rfl)
              obtain rfl := hh8 (hdep ⟨8, .data⟩ (by simp) rfl)
              go_simp
              refine (MB.out W g c9 hB9 hsg hown (hx0 hL)).mono ?_
              rintro e w8 ⟨rfl, hs9, hk9⟩
              exact hK _ _ ⟨_, _, _, _, _, _, _, _, _, _, rfl, hB.trans (hk9.mono (Nat.le_trans hle9 hB.size)), hh0, hh1, hh2, (fun _ q0 => absurd ((show Fl9 4 = false from q0).symm.trans hd4) (by simp)), (fun _ q0 => nomatch q0), hh5, hh6, hh7, hh8, fun _ => trivial, (fun q0 => nomatch q0), (fun _ => hs9), fun _ => hd4, hx3⟩
          intro Fl9 ac W hJ hall
          obtain ⟨x42, x43, x44, x45, x46, x47, x48, x49, x50, x51, rfl, hB, hh0, hh1, hh2, hh3, hh4, hh5, hh6, hh7, hh8, hh9, -, hxs, -, -⟩ := hJ
          obtain rfl := hh0 (hall 0 (by decide))
          obtain rfl := hh1 (hall 1 (by decide))
          obtain rfl := hh2 (hall 2 (by decide))
          obtain rfl := hh5 (hall 5 (by decide))
          obtain rfl := hh6 (hall 6 (by decide))
          obtain rfl := hh7 (hall 7 (by decide))
          obtain rfl := hh8 (hall 8 (by decide))
          obtain - := hh3 (hall 3 (by decide))
          obtain - := hh4 (hall 4 (by decide))
          obtain - := hh9 (hall 9 (by decide))
          replace hxs := hxs (hall 9 (by decide))
          clear hall
          have HF := Lib.hid (And.intro hxs (HK10.out.trans hB))
          clear hB hxs CB MB HS10 HK10
          go_wp2_with fail
          go_end0
          exact ⟨rfl, by rw [HAC.out]; exact HF.out.1, HF.out.2⟩
end Go.Proofs.Ytdleidlmjliapaa
