/- Texts that are joined: Split2, VesPS. -/
import Derived.Test.YtliebicnejbheabGreatDoorMg29
import Derived.RangeFuncNested
import Derived.RangeFuncBound
import Derived.RangeFuncCalls
import Derived.Deep.LoopGhost
import Derived.Test.YtliebicnejbheabGreatDoorMg28
import Derived.Test.YtliebicnejbheabGreatDoorMg12
/- Splitting: the program's function as contracts. -/
namespace Go.Proofs.YtliebicnejbheabGreatDoor
open Go.RowKit Go.PlainAid Go.Shelf

attribute [local go_sem] Oper.semAt_some

/-- The call hands back a slice of its own with the strings ss, and b. -/
def GivesStrs (w : World) (ss : List ByteArray) (b : Bool) (e : Ending) (w' : World) : Prop :=
  ∃ g c, e = .returned (.tuple #[.slice (some ⟨g, 0, none⟩) ss.length c, .bool b]) ∧ w.heap.size ≤ g ∧ w'.ownsRow w.heap.size 9 1 (.slice (some ⟨g, 0, none⟩) ss.length c) ss.length (ss.map .string) ∧ Below w.heap.size w w'

/-- An append inside a fence, which says where the row lies behind it. -/
theorem wpListIn_append_at {F : Fence} {n : Nat} {P : Program} (w : World) {ops : Array Oper} {rest : List Oper} {o : Oper} {a : Act} {Q : Exit → Act → World → Prop}
    (hg : o.guard = none) (s x : Operand) (t : TypeId) (hop : o.op = Op.call { callee := Callee.builtin Builtin.append, args := #[s, x], argTypes := #[t, t] })
    (base : Nat) (e : TypeId) (i : TypeInfo) (z : Value) (size bytes : Nat) (h1 : P.underlying t = some (.slice e)) (h2 : P.info? e = some i) (h3 : i.zero = some z) (h4 : i.size = size) (h5 : i.bytes = bytes) (h6 : z.cells.size = size) (h7 : 0 < size)
    (v : Value) (k : Nat) (xs : List Value) (hs : a.eval s = v) (hown : w.ownsRow base e size v k xs) (ad : Addr) (m c : Nat) (news : List Value) (hx : a.eval x = .slice (some ad) m c) (hn : news.length = m * size)
    (hc : ∀ j u, news[j]? = some u → w.cell? (ad.add j) = some u) (h1c : ∀ u ∈ news, u.oneCell' = true) (b1 : k + m ≤ maxLen) (b2 : (k + m) * bytes ≤ 140737488355328) (b3 : base ≤ w.heap.size)
    (hK : ∀ v' w', w'.ownsRow base e size v' (k + m) (xs ++ news) → w.grownBy w' v.ownBlock → (v' = .slice none 0 0 ↔ v = .slice none 0 0 ∧ m = 0) → (v'.ownBlock = v.ownBlock ∨ v'.ownBlock = some w.heap.size) → wpListIn F n P ops Q rest (a.put o.dst v') w') :
    wpListIn F n P ops Q (o :: rest) a w := by
  refine wpListIn_plain hg fun K hK' => ?_
  obtain ⟨v', w', hrun, r1, r2, r3, r4⟩ := run_append_own_at (P := P) w base t o.type e i z size bytes h1 h2 h3 h4 h5 h6 h7 v k xs hown ad m c news hn hc h1c b1 b2 b3
  unfold Oper.wpIn
  refine ⟨?_, ?_⟩
  · simp [Oper.about, hop, resolve, Target.leads, Sem.run_pure]
  · rw [Oper.semAt_plain F _ _ (by rw [hop]; intro c hc'; cases hc')]
    simp [execOp, hop, resolve, invoke, builtin, hs, hx, hrun, Result.andThen]
    exact hK' _ _ (hK v' w' r1 r2 r3 r4)

/-- The slice is not nil, and its row is neither of the two captured variables. -/
def Apart2 (h : Nat) (v : Value) : Prop := v ≠ .slice none 0 0 ∧ ∀ r, v.ownBlock = some r → r ≠ h + 1 + 1 ∧ r ≠ h + 1 + 1 + 1
theorem apart2_at {h g n c : Nat} (h1 : g ≠ h + 1 + 1) (h2 : g ≠ h + 1 + 1 + 1) : Apart2 h (.slice (some ⟨g, 0, none⟩) n c) := ⟨by simp, fun r hr => by
  have : g = r := by simpa [Value.ownBlock] using hr
  subst this
  exact ⟨h1, h2⟩⟩

theorem parts_stops (n : Nat) (hn : 1 ≤ n) (Bs Bp : Nat) (s : ByteArray) (v : Int) (hm : s.size ≤ 4000) (w : World) (hbs : Bs < w.heap.size) (hbp : Bp < w.heap.size)
    (hBs : w.cell? ⟨Bs, 0, none⟩ = some (.string s)) (hBp : w.cell? ⟨Bp, 0, none⟩ = some (.int .u8 v)) :
    SeqStopsK Fence.wide n Tryz.prog 70 #[.pointer (some ⟨Bs, 0, none⟩), .pointer (some ⟨Bp, 0, none⟩)] (fun x : ByteArray => #[Value.string x]) (KeepsTwo Bs Bp) (fun ys => ys = parts s v) (fun _ => True) (s.size + 1) w := fun l J Jx W hW hJ _ hY h0 =>
  parts1_in n hn l Bs Bp s v hm J Jx W hJ hY ((hW.cell (p := ⟨Bs, 0, none⟩) hbs).trans hBs) ((hW.cell (p := ⟨Bp, 0, none⟩) hbp).trans hBp) h0

set_option maxRecDepth 100000 in
set_option maxHeartbeats 2000000 in
theorem implSplit_in (n : Nat) (hn : 3 ≤ n) (s sep : ByteArray) (w : World) (hs : s.size ≤ 4000) (h1 : sep.size = 1) :
    CallsIn Fence.wide n Tryz.prog 28 #[.string s, .string sep] w (GivesStrs w (parts s (bt sep 0)) true) := by
  have hn1 : 1 ≤ n := by omega
  obtain ⟨i0, hi, hz0, hz1, hz2⟩ := info_parts Tryz.info9'
  have hsb : ((sep.size : Int) != 1) = false := by simp [h1]
  have hs2 : 0 < sep.size := by omega
  have hs3 : sep.size ≤ 1 := by omega
  have hbs := get_bt sep
  clear h1
  have hd : decide ((4000 : Int) < (s.size : Int)) = false := by simp; omega
  refine callsIn_of_wp_marks Tryz.func28 rfl trivial ?_ rfl
  simp only [Tryz.ntmps28, List.size_toArray, List.length_cons, List.length_nil, Nat.reduceAdd, Nat.reduceSub, Array.replicate_succ, Array.replicate_zero, List.push_toArray, List.append_toArray, List.nil_append, List.cons_append]
  gi_wp2_with (refine ⟨trivial, ?_⟩; gi_at_call 52; refine (partsOf_in (n - 1) _ _ _).mono ?_; rintro e w' ⟨rfl, rfl⟩)
  obtain ⟨W0, hW0⟩ : ∃ W0, ((((w.alloc (Obj.cells #[] 9)).alloc (Obj.cells #[Value.slice (some { block := w.heap.size, off := 0 }) 0 0] 50)).alloc (Obj.cells #[Value.string s] 9)).alloc (Obj.cells #[Value.int IntKind.u8 (bt sep 0)] 5)) = W0 := ⟨_, rfl⟩
  have hsz : W0.heap.size = w.heap.size + 4 := by rw [← hW0]; simp
  have bS : W0.cell? ⟨w.heap.size + 1 + 1, 0, none⟩ = some (.string s) := by rw [← hW0]; simp [go_sem]
  have bP : W0.cell? ⟨w.heap.size + 1 + 1 + 1, 0, none⟩ = some (.int .u8 (bt sep 0)) := by rw [← hW0]; simp [go_sem]
  have bO : Boxed W0 (w.heap.size + 1) 50 (Value.slice (some { block := w.heap.size, off := 0 }) 0 0) := by
    have := Boxed.new (w.alloc (Obj.cells #[] 9)) 50 (Value.slice (some { block := w.heap.size, off := 0 }) 0 0)
    rw [World.size_alloc] at this
    rw [← hW0]; exact (this.alloc _).alloc _
  have hr0 : W0.ownsRow w.heap.size 9 1 (Value.slice (some { block := w.heap.size, off := 0 }) 0 0) 0 [] := by
    rw [← hW0]; exact (((World.ownsRow_made w #[] 0 (Nat.le_refl _) (by unfold maxLen; omega) rfl).alloc _).alloc _).alloc _
  have hB0 : Below w.heap.size w W0 := by rw [← hW0]; exact ((((Below.refl _ w).alloc (Nat.le_refl _) _).alloc (by simp) _).alloc (by simp; omega) _).alloc (by simp; omega) _
  rw [hW0]
  refine wpIn_rangeFunc_ownG rfl hn1 (gf := 70) (lb := #[.pointer (some ⟨w.heap.size + 1 + 1, 0, none⟩), .pointer (some ⟨w.heap.size + 1 + 1 + 1, 0, none⟩)]) rfl trivial (enters_of Tryz.func70 (by kernel_rfl) rfl)
    (parts_stops (n - 1) (by omega) (w.heap.size + 1 + 1) (w.heap.size + 1 + 1 + 1) s (bt sep 0) hs W0 (by omega) (by omega) bS bP) keepsTwo_t (keepsTwo_b (by omega) (by omega)) (Below.refl _ _) (fun _ => rfl)
    (fun (pre : List ByteArray) W => (∃ v, Boxed W (w.heap.size + 1) 50 v ∧ W.ownsRow w.heap.size 9 1 v pre.length (pre.map Value.string) ∧ Apart2 w.heap.size v) ∧ Below w.heap.size w W ∧ w.heap.size + 4 ≤ W.heap.size)
    (fun _ _ _ => False)
    (OwnFrom.and (Own.from (holdsRow_own w.heap.size (w.heap.size + 1) 50 9 1 (fun (pre : List ByteArray) => pre.length) (fun pre => pre.map Value.string) (fun _ v => Apart2 w.heap.size v)) _) (OwnFrom.and (ownFrom_below (Nat.le_refl _) (by omega)) (fun _ _ _ _ hs hg _ => Nat.le_trans hs hg.size)))
    (fun _ _ _ _ _ hs _ _ => hs)
    ⟨⟨_, bO, hr0, apart2_at (by omega) (by omega)⟩, hB0, by omega⟩
    (fun x => { tmps :=
        #[Value.string s, Value.string sep, undef, undef, Value.slice none 0 0, Value.bool false,
          Value.pointer (some { block := w.heap.size + 1, off := 0 }), Value.string x, Value.string s,
          Value.int IntKind.i64 s.size, Value.bool false, Value.bool false, Value.string sep,
          Value.int IntKind.i64 sep.size, Value.bool false, Value.bool false, undef,
          Value.slice (some { block := w.heap.size, off := 0 }) 0 0, Value.string s, Value.string sep,
          Value.int IntKind.u8 (bt sep 0),
          Value.func (Fn.func 70) #[]
            #[Value.pointer (some { block := w.heap.size + 1 + 1, off := 0 }),
              Value.pointer (some { block := w.heap.size + 1 + 1 + 1, off := 0 })],
          Value.string x, undef, undef, undef, undef, undef], defers := [] }) ?assign ?body ?done ?stop
  case assign =>
    intro l x W K hK
    gi_wp2
    exact hK
  case body =>
    rintro l pre x W ⟨⟨v, hv, hrow, hnil⟩, hB, hsW⟩ hlt
    have hc := hv.cell
    have hW4 : w.heap.size + 4 ≤ W.heap.size := hsW
    gi_wp2_with (gi_at_builtin; refine wpListIn_append_at _ rfl _ _ 50 rfl w.heap.size 9 i0 (.string ByteArray.empty) 1 16 Tryz.underlying50 hi hz0 hz1 hz2 rfl (by decide) _ _ _ rfl (hrow.alloc _) ⟨W.heap.size, 0, none⟩ 1 1 [.string x] rfl rfl (cell_one_new _ _ _) (by simp [Value.oneCell']) (by unfold maxLen; omega) (by omega) (by have := hB.size; simp; omega) ?_; intro v' w1 hown' hgrow hnil' hat; obtain ⟨g', cap', rfl⟩ := ownsRow_succ hown'; obtain ⟨hv1, hv2, hr2, hk2, hb2⟩ := hv.appended (by decide) hrow hB.size (by omega) hown' hgrow; have hc1 := hv1.cell; have hf1 := hv1.frozen)
    have hkeep : ∀ r, r < W.heap.size → some r ≠ v.ownBlock → r ≠ w.heap.size + 1 → (w1.setCell ⟨w.heap.size + 1, 0, none⟩ (.slice (some ⟨g', 0, none⟩) (pre.length + 1) cap')).heap[r]? = W.heap[r]? := fun r hr hne hne2 =>
      (Below.heap_setCell _ _ _ _ hne2).trans ((hgrow.block r (by simp; omega) hne).trans (Below.heap_alloc W _ _ hr))
    refine ⟨hk2.from _, ⟨hkeep _ (by omega) (fun e => (hnil.2 _ e.symm).1 rfl) (by omega), hkeep _ (by omega) (fun e => (hnil.2 _ e.symm).2 rfl) (by omega)⟩, ⟨_, hv2, by simpa using hr2, ?_⟩, hB.trans hb2, by have := hb2.size; omega⟩
    have hg' : (Value.slice (some ⟨g', 0, none⟩) (pre.length + 1) cap').ownBlock = some g' := rfl
    rcases hat with e | e
    · rw [hg'] at e
      exact apart2_at (hnil.2 g' e.symm).1 (hnil.2 g' e.symm).2
    · rw [hg'] at e
      have : g' = W.heap.size + 1 := by simpa using e
      exact apart2_at (by omega) (by omega)
  case done =>
    rintro D ys W hD rfl ⟨⟨v, hv, hrow, hnil⟩, hB, hsW⟩ hK
    have hc := hv.cell
    gi_wp2
    refine ⟨by simp, .inl ⟨_, _, rfl, run_takeDeferred hK, ?_⟩⟩
    obtain ⟨g, c, rfl, hg⟩ := own_some hrow hnil.1
    exact ⟨_, results_tmp2 rfl _ _ _, g, c, rfl, hg, ownsRow_putObj hrow _ hK rfl, hB.trans (belowK_b (w := w) (Nat.le_refl _) W D _ _ (by omega) hK rfl rfl)⟩
  case stop =>
    rintro D c pre W _ _ h _
    exact h.elim

theorem implSplit_ok (s sep : ByteArray) (w : World) (hs : s.size ≤ 4000) (h1 : sep.size = 1) :
    Calls Tryz.prog 28 #[.string s, .string sep] w (GivesStrs w (parts s (bt sep 0)) true) :=
  callsIn_wide.1 (implSplit_in 3 (Nat.le_refl _) s sep w hs h1)

theorem gives_none (w : World) : GivesStrs w [] false (.returned (.tuple #[.slice (some ⟨w.heap.size, 0, none⟩) 0 0, .bool false])) (w.alloc (.cells #[] 9)) :=
  ⟨w.heap.size, 0, rfl, Nat.le_refl _, World.ownsRow_made w #[] 0 (Nat.le_refl _) (by unfold maxLen; omega) rfl, (Below.refl _ _).alloc (Nat.le_refl _) _⟩

set_option linter.unusedVariables false in
set_option maxHeartbeats 1000000 in
theorem implSplit_no (s sep : ByteArray) (w : World) (hm : s.size ≤ maxLen) (hm2 : sep.size ≤ maxLen) (h : ¬ (s.size ≤ 4000 ∧ sep.size = 1)) :
    Calls Tryz.prog 28 #[.string s, .string sep] w (GivesStrs w [] false) := by
  unfold maxLen at hm hm2
  by_cases hd : (4000 : Int) < (s.size : Int)
  · clear h
    go_enter Tryz.func28, Tryz.ntmps28
    go_wp2
    refine bodyPost_ret (results_tmp2 rfl _ _ _) rfl ?_
    exact gives_none w
  · have hd2 : decide ((4000 : Int) < (s.size : Int)) = false := by simp; omega
    have hsb : ((sep.size : Int) != 1) = true := by rw [bne_iff_ne]; omega
    clear h
    go_enter Tryz.func28, Tryz.ntmps28
    go_wp2
    refine bodyPost_ret (results_tmp2 rfl _ _ _) rfl ?_
    exact gives_none w

/-- The call hands back a slice of its own with the strings ss. -/
def GivesStrs1 (w : World) (ss : List ByteArray) (e : Ending) (w' : World) : Prop :=
  ∃ g c, e = .returned (.slice (some ⟨g, 0, none⟩) ss.length c) ∧ w.heap.size ≤ g ∧ w'.ownsRow w.heap.size 9 1 (.slice (some ⟨g, 0, none⟩) ss.length c) ss.length (ss.map .string) ∧ Below w.heap.size w w'

set_option maxRecDepth 100000 in
set_option maxHeartbeats 1000000 in
theorem l1Split_any (s : ByteArray) (v : Int) (w : World) (hs : s.size ≤ 1048576) :
    Calls Tryz.prog 35 #[.string s, .int .u8 v] w (GivesStrs1 w (parts s v)) := by
  obtain ⟨i0, hi, hz0, hz1, hz2⟩ := info_parts Tryz.info9'
  go_enter Tryz.func35, Tryz.ntmps35
  go_wp2
  go_loopg [5, 6, 7] s.size (fun g o fr i wr => ∃ (k st : Nat) (ql : List ByteArray) (g0 c0 : Nat), k + g = s.size ∧ i = .int .i64 k ∧ fr = .int .i64 st ∧ o = .slice (some ⟨g0, 0, none⟩) ql.length c0 ∧ w.heap.size ≤ g0 ∧ st ≤ k ∧ ql.length ≤ k ∧ Hid (spl s v k = (ql, st)) ∧
    wr.ownsRow w.heap.size 9 1 (.slice (some ⟨g0, 0, none⟩) ql.length c0) ql.length (ql.map .string) ∧ Below w.heap.size w wr)
  case atStart => exact ⟨0, 0, [], _, 0, by omega, rfl, rfl, rfl, Nat.le_refl _, Nat.le_refl _, Nat.le_refl _, Lib.hid rfl, World.ownsRow_made w #[] 0 (Nat.le_refl _) (by unfold maxLen; omega) rfl, (Below.refl _ _).alloc (Nat.le_refl _) _⟩
  case round =>
    obtain ⟨k, st, ql, g0, c0, hkg, rfl, rfl, rfl, hg0, hst, hql, hsp, hown, hb⟩ := hrel
    cases gk with
    | succ g =>
      have hlt : k < s.size := by omega
      have hk0 : (0 : Int) ≤ (k : Int) := by omega
      have hk1 : (k : Int) ≤ (s.size : Int) := by omega
      have hk2 : k ≤ s.size := by omega
      have hst1 : (st : Int) ≤ (k : Int) := by omega
      have hkg' : k + g + 1 ≤ s.size ∧ s.size ≤ k + g + 1 := by omega
      clear hkg
      have hbs := get_bt s
      by_cases he : bt s k = v
      · have hne : (bt s k == v) = true := beq_iff_eq.2 he
        have HS : Hid (spl s v (k + 1) = (ql ++ [s.extract st k], k + 1)) := Lib.hid (by rw [spl_hit he, hsp.out])
        clear he hsp
        go_wp2_with (at_builtin; refine wpList_append_own _ rfl (.tmp 20) (.tmp 25) 50 rfl w.heap.size 9 i0 (.string ByteArray.empty) 1 16 Tryz.underlying50 hi hz0 hz1 hz2 rfl (by decide) (.slice (some ⟨g0, 0, none⟩) ql.length c0) ql.length _ rfl (hown.alloc _) ⟨wr.heap.size, 0, none⟩ 1 1 [.string (s.extract st k)] rfl rfl (cell_one_new _ _ _) (by simp [Value.oneCell']) (by unfold maxLen; omega) (by omega) (by have := hb.size; simp; omega) ?_; intro v1 w1 hown1 hgrow1 hnil1; obtain ⟨g1, c1, rfl, hg1⟩ := own_some hown1 (fun e => nomatch (hnil1.1 e).1); have hb1 := (hb.alloc hb.size (.cells #[.string (s.extract st k)] 9)).grown hgrow1 (by have := hb.size; simp; omega) (fun q hq => by cases hq; assumption); clear hown hnil1 hgrow1 hb)
        go_roundg g
        case rel => exact ⟨k + 1, k + 1, ql ++ [s.extract st k], g1, c1, by omega, by go_num, by go_num, by simp, hg1, Nat.le_refl _, by simp; omega, HS, by simpa using hown1, hb1⟩
        case measure => omega
      · have hne : (bt s k == v) = false := beq_eq_false_iff_ne.2 he
        have HS : Hid (spl s v (k + 1) = (ql, st)) := Lib.hid (by rw [spl_miss he, hsp.out])
        clear he hsp
        go_wp2
        go_roundg g
        case rel => exact ⟨k + 1, st, ql, g0, c0, by omega, by go_num, rfl, rfl, hg0, by omega, by omega, HS, hown, hb⟩
        case measure => omega
    | zero =>
      obtain rfl : k = s.size := by omega
      have HP : Hid (parts s v = ql ++ [s.extract st s.size]) := Lib.hid (by unfold parts; rw [hsp.out])
      clear hsp
      go_wp2_with (at_builtin; refine wpList_append_own _ rfl (.tmp 29) (.tmp 33) 50 rfl w.heap.size 9 i0 (.string ByteArray.empty) 1 16 Tryz.underlying50 hi hz0 hz1 hz2 rfl (by decide) (.slice (some ⟨g0, 0, none⟩) ql.length c0) ql.length _ rfl (hown.alloc _) ⟨wr.heap.size, 0, none⟩ 1 1 [.string (s.extract st s.size)] rfl rfl (cell_one_new _ _ _) (by simp [Value.oneCell']) (by unfold maxLen; omega) (by omega) (by have := hb.size; simp; omega) ?_; intro v1 w1 hown1 hgrow1 hnil1; obtain ⟨g1, c1, rfl, hg1⟩ := own_some hown1 (fun e => nomatch (hnil1.1 e).1); have hb1 := (hb.alloc hb.size (.cells #[.string (s.extract st s.size)] 9)).grown hgrow1 (by have := hb.size; simp; omega) (fun q hq => by cases hq; assumption); clear hown hnil1 hgrow1 hb)
      refine bodyPost_ret (results_tmp rfl _ _ _) rfl ?_
      rw [HP.out]
      exact ⟨g1, c1, by simp, hg1, by simpa using hown1, hb1⟩


end Go.Proofs.YtliebicnejbheabGreatDoor

/- Chapter 3: ParseVessel, the model. -/
namespace Go.Proofs.YtliebicnejbheabGreatDoor
open Go.RowKit Go.PlainAid Go.Sort

abbrev vt (u : Ves) : ByteArray := vtxt u.id u.name u.len u.wid u.dr (kindB u.kind)
def zVes : Ves := ⟨0, ⟨#[]⟩, 0, 0, 0, 0⟩
/-- What ParseVessel answers. -/
structure Parsed (t : ByteArray) (v : Ves) (x : Bool) : Prop where
  yes : ∀ u, goodV u → vt u = t → v = u ∧ x = true
  no : (∀ u, goodV u → vt u ≠ t) → v = zVes ∧ x = false
theorem parsed_ex (t : ByteArray) : ∃ (v : Ves) (x : Bool), Parsed t v x := by
  rcases Classical.em (∃ u, goodV u ∧ vt u = t) with ⟨u, hu, he⟩ | h
  · exact ⟨u, true, ⟨fun u' hu' he' => ⟨vtxt_one hu hu' (he.trans he'.symm), rfl⟩, fun g => absurd he (g u hu)⟩⟩
  · exact ⟨zVes, false, ⟨fun u hu he => absurd ⟨u, hu, he⟩ h, fun _ => ⟨rfl, rfl⟩⟩⟩
theorem numB_999 {n : Int} (h0 : 0 ≤ n) (h1 : n ≤ 999) : (numB n).size ≤ 3 := by
  obtain ⟨x, rfl⟩ : ∃ x : Nat, n = (x : Int) := ⟨n.toNat, by omega⟩
  rw [numB_sz]
  exact nDig_le x 2 (by omega)
theorem vt_parts {u : Ves} {t : ByteArray} (hg : goodV u) (h : vt u = t) : t.size ≤ 60 ∧ parts t 32 = [numB u.id, u.name, kindB u.kind, wLW u.len u.wid, wDr, numB u.dr] := by
  refine ⟨?_, by rw [← h]; exact words_V _ _ _ _ _ _ (no_small hg.2.1 32 (by decide)) (kind_no _ 32 (by decide))⟩
  rw [← h]
  obtain ⟨h1, h2, h3, h4, h5, h6⟩ := hg
  have n1 := numB_999 (n := u.id) (by omega) (by omega)
  have n2 := numB_999 (n := u.len) (by omega) (by omega)
  have n3 := numB_999 (n := u.wid) (by omega) (by omega)
  have n4 := numB_999 (n := u.dr) (by omega) (by omega)
  have n5 := kind_size u.kind
  have n6 := h2.1.2
  have z1 : (⟨#[32]⟩ : ByteArray).size = 1 := rfl
  have z2 : (⟨#[120]⟩ : ByteArray).size = 1 := rfl
  have z3 : (⟨#[32, 100, 114, 97, 117, 103, 104, 116, 32]⟩ : ByteArray).size = 9 := rfl
  unfold vt vtxt
  simp only [ByteArray.size_append]
  omega
theorem spl_size (s : ByteArray) (v : Int) : ∀ k, k ≤ s.size → ∀ x ∈ (spl s v k).1, x.size ≤ s.size
  | 0, _, x, h => by simp [spl] at h
  | k + 1, hk, x, h => by
    have ih := spl_size s v k (by omega)
    simp only [spl] at h
    split at h
    · rcases List.mem_append.1 h with h1 | h1
      · exact ih x h1
      · obtain rfl := List.mem_singleton.1 h1
        rw [ByteArray.size_extract]
        omega
    · exact ih x h
theorem parts_size (s : ByteArray) (v : Int) : ∀ x ∈ parts s v, x.size ≤ s.size := by
  intro x h
  unfold parts at h
  rcases List.mem_append.1 h with h1 | h1
  · exact spl_size s v _ (Nat.le_refl _) x h1
  · obtain rfl := List.mem_singleton.1 h1
    rw [ByteArray.size_extract]
    omega
/-- The words of a list of six. -/
theorem six {ws : List ByteArray} (h : ws.length = 6) : ∃ a b c d e f, ws = [a, b, c, d, e, f] := by
  match ws, h with
  | [a, b, c, d, e, f], _ => exact ⟨a, b, c, d, e, f, rfl⟩
theorem two {ws : List ByteArray} (h : ws.length = 2) : ∃ a b, ws = [a, b] := by
  match ws, h with
  | [a, b], _ => exact ⟨a, b, rfl⟩
theorem strs_at {w : World} {base g c : Nat} {ss : List ByteArray} (h : w.ownsRow base 9 1 (.slice (some ⟨g, 0, none⟩) ss.length c) ss.length (ss.map .string)) {k : Nat} (hk : k < ss.length) : w.cell? ⟨g, k, none⟩ = some (.string ss[k]) := by
  have := h.cellAt k (by omega)
  rw [this]
  simp [hk]
/-- What the model's reading of a word tells. -/
theorem read_pair (s : ByteArray) (hs : s.size ≤ 1048576) : ∃ (n : Int) (b : Bool), (-999999 ≤ n ∧ n ≤ 999999) ∧ (b = true → numB n = s) ∧ (∀ m : Int, 0 ≤ m → m ≤ 999 → numB m = s → n = m ∧ b = true) ∧
    ∀ W, Calls Tryz.prog 36 #[.string s] W fun e w' => e = .returned (.tuple #[.int .i64 n, .bool b]) ∧ Drawn W w' := by
  refine ⟨(rdO s).getD 0, (rdO s).isSome, ?_, fun h => ?_, fun m h0 h1 h2 => ?_, fun W => l1Read_any s W hs⟩
  · cases e : rdO s with
    | none => show (-999999 : Int) ≤ 0 ∧ (0 : Int) ≤ 999999; omega
    | some n => obtain ⟨a, b, -⟩ := rdO_some e; exact ⟨a, b⟩
  · cases e : rdO s with
    | none => rw [e] at h; cases h
    | some n => exact (rdO_some e).2.2
  · rw [← h2, rdO_num m (by omega) (by omega)]
    exact ⟨rfl, rfl⟩
end Go.Proofs.YtliebicnejbheabGreatDoor
