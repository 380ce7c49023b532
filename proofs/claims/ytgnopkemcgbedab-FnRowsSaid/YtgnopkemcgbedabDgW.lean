/- Chapter 7, the program: vessels collected: slices.Values, AppendSeq, Collect. -/
import Derived.Test.YtgnopkemcgbedabDgL
import Derived.RangeFuncBox
import Derived.RangeFuncLeaves
import Derived.RangeFuncNested
import Derived.RangeFuncBound
import Derived.RangeFuncCalls
import Derived.Shelf.Abstract
import Derived.OwnWalkIn
import Derived.TacticsInMore
import Derived.LoopNIn
import Derived.LoopIn
import Derived.Maps.AppendAt
import Derived.Sort.QuietIn
import Derived.Deep.LoopGhost
namespace Go.Proofs.Ytgnopkemcgbedab
open Go.RowKit Go.PlainAid Go.Sort Go.Shelf
set_option linter.unusedVariables false
set_option linter.unusedSimpArgs false

attribute [local go_sem] Oper.semAt_some

/-- What a round leaves alone: all that lies below B. -/
def KeepsV (B : Nat) (W W' : World) : Prop := ∀ b, b < B → W'.heap[b]? = W.heap[b]?
theorem keepsV_t {d : Nat} {A B C : World} (h : KeepsV d A B) (k : KeepsV d B C) : KeepsV d A C := fun b hb => (k b hb).trans (h b hb)
theorem keepsV_below {d B : Nat} {W W' : World} (h : Below B W W') (hd : d ≤ B) : KeepsV d W W' := fun b hb => h.block b (by omega)
theorem keepsV_b {d n : Nat} (hd : d ≤ n) (W : World) (l : Nat) (o o' : Obj) (hl : n ≤ l) (h : W.heap[l]? = some o) (_ : o.isCells = false) (_ : o.isWalk = false) : KeepsV d W (W.putObj l o') := by
  have hlt := (Array.getElem?_eq_some_iff.1 h).1
  exact keepsV_below ((Below.refl n W).grown (grownBy_putObj' W l o') (by omega) (fun k e => by cases e; omega)) hd
theorem keepsV_size {d : Nat} {W W' : World} (h : KeepsV d W W') (hd : d ≤ W.heap.size) : d ≤ W'.heap.size := by
  by_cases g : d ≤ W'.heap.size
  · exact g
  · have h1 := h W'.heap.size (by omega)
    rw [Array.getElem?_eq_none (Nat.le_refl _), Array.getElem?_eq_getElem (show W'.heap.size < W.heap.size by omega)] at h1
    cases h1
theorem keepsV_alloc {d : Nat} {W : World} (hd : d ≤ W.heap.size) (o : Obj) : KeepsV d W (W.alloc o) := keepsV_below (below1 W o) hd

set_option maxRecDepth 100000 in
set_option maxHeartbeats 2000000 in
/-- The iterator: it yields all elements in order. -/
theorem valuesC_in (n : Nat) (hn : 1 ≤ n) (l Bs d : Nat) (A : Option Addr) (m c : Nat) (vs : List TCargo) (hz : vs.length = m) (hm : m ≤ 1000) (J Jx : List TCargo → World → Prop)
    (W : World) (hdW : d ≤ W.heap.size) (hJ : AbidesFrom W.heap.size J)
    (hY : ∀ pre x W, J pre W → pre.length < m → YieldAt Fence.wide (n - 1) Try.prog l #[valCargo x] W fun e W' =>
      (e = .returned (.bool true) ∧ J (pre ++ [x]) W' ∧ KeepsV d W W') ∨ (e = .returned (.bool false) ∧ Jx (pre ++ [x]) W'))
    (hBs : W.cell? ⟨Bs, 0, none⟩ = some (.slice A m c)) (hh : Has W d A (flatCargo vs)) (h0 : J [] W) :
    CallsIn Fence.wide n Try.prog 104 #[.func (.yield l) #[] #[], .pointer (some ⟨Bs, 0, none⟩)] W fun e W' => (∃ v, e = .returned v) ∧
      ((∃ ys, ys = vs ∧ J ys W') ∨ (∃ pre, True ∧ Jx pre W')) := by
  have HL := Lib.hid hz
  refine callsIn_of_wp Try.func104 rfl trivial ?_ rfl
  simp only [Try.ntmps104, List.size_toArray, List.length_cons, List.length_nil, Nat.reduceAdd, Nat.reduceSub, Array.replicate_succ, Array.replicate_zero, List.push_toArray, List.append_toArray, List.nil_append, List.cons_append]
  gi_wp2
  gi_loopw [7] (fun i wr => ∃ k : Nat, k ≤ m ∧ i = .int .i64 k ∧ J (vs.take k) wr ∧ KeepsV d W wr)
    (fun i _ => m - (intOf i).toNat)
  case atStart => exact ⟨0, Nat.zero_le _, rfl, by simpa using h0, fun _ _ => rfl⟩
  case round =>
    obtain ⟨k, hk, rfl, hJs, hnx⟩ := hrel
    by_cases hlt : k < m
    · obtain ⟨a, rfl, hab, HV⟩ := hh.Cargo (k := k) (by omega)
      have hds := keepsV_size hnx hdW
      have e0 := (World.cell?_of_block (a := a.add (k * 3)) (hnx _ (by rw [addBlock]; exact hab))).trans HV.c0
      have e1 := (World.cell?_of_block (a := ⟨(a.add (k * 3)).block, (a.add (k * 3)).off + 1, none⟩) (hnx _ (by show (a.add (k * 3)).block < d; rw [addBlock]; exact hab))).trans HV.c1
      have e2 := (World.cell?_of_block (a := ⟨(a.add (k * 3)).block, (a.add (k * 3)).off + 2, none⟩) (hnx _ (by show (a.add (k * 3)).block < d; rw [addBlock]; exact hab))).trans HV.c2
      have HT : Hid (vs.take (k + 1) = vs.take k ++ [vs.getD k noCargo]) := Lib.hid (by
        rw [List.take_succ_eq_append_getElem (by rw [HL.out]; exact hlt), getCargo (by rw [HL.out]; exact hlt)])
      have hJa := fun o => hJ _ _ _ none hJs (World.grownBy_alloc wr o none) (fun r hr => by cases hr)
      have HY0 := hY (vs.take k) (vs.getD k noCargo) (wr.alloc (.cells #[.int .i64 (vs.getD k noCargo).x0, .int .i64 (vs.getD k noCargo).x1, .int .i64 (vs.getD k noCargo).x2] 54)) (hJa _) (by rw [List.length_take]; omega)
      have hnx2 : KeepsV d W (wr.alloc (.cells #[.int .i64 (vs.getD k noCargo).x0, .int .i64 (vs.getD k noCargo).x1, .int .i64 (vs.getD k noCargo).x2] 54)) := keepsV_t hnx (keepsV_alloc hds _)
      generalize vs.getD k noCargo = v at *
      obtain ⟨d0, l0, q0⟩ := v
      dsimp only at e0 e1 e2 HY0 hnx2
      have HN2 := Lib.hid hnx2
      have hk0 : (0 : Int) ≤ (k : Int) := by omega
      have hk1 : (k : Int) < (m : Int) := by omega
      clear hh HV hBs hnx2 hJa
      obtain ⟨fn, tmps, assign, body, hy, hR⟩ := HY0
      gi_wp2
      refine hR.mono ?_
      rintro e W3 (⟨rfl, hJ3, hk3⟩ | ⟨rfl, hJx3⟩)
      · gi_wp2
        go_roundw
        case rel => exact ⟨k + 1, by omega, by go_num, by rw [HT.out]; exact hJ3, keepsV_t HN2.out hk3⟩
        case measure => simp [intOf]; omega
      · gi_wp2
        refine bodyPost_ret (results_none rfl _ _ _) rfl ?_
        exact ⟨⟨_, rfl⟩, .inr ⟨_, trivial, hJx3⟩⟩
    · obtain rfl : k = m := by omega
      have HJ : Hid (J vs wr) := Lib.hid (by rw [List.take_of_length_le (by omega)] at hJs; exact hJs)
      clear hJs hh
      gi_wp2
      go_end0
      exact ⟨⟨_, rfl⟩, .inl ⟨_, rfl, HJ.out⟩⟩

set_option maxHeartbeats 1000000 in
theorem valuesC_any (A : Option Addr) (m c : Nat) (w : World) :
    Calls Try.prog 71 #[.slice A m c] w fun e w' => e = .returned (.func (.func 104) #[] #[.pointer (some ⟨w.heap.size, 0, none⟩)]) ∧ w' = w.alloc (.cells #[.slice A m c] 42) := by
  go_enter Try.func71, Try.ntmps71
  go_wp2
  go_ret
  exact ⟨rfl, rfl⟩
theorem valuesC_stops (n : Nat) (hn : 1 ≤ n) (Bs d : Nat) (A : Option Addr) (m c : Nat) (vs : List TCargo) (hz : vs.length = m) (hm : m ≤ 1000) (w : World) (hbs : Bs < w.heap.size) (hd : d ≤ w.heap.size)
    (hBs : w.cell? ⟨Bs, 0, none⟩ = some (.slice A m c)) (hh : Has w d A (flatCargo vs)) :
    SeqStopsK Fence.wide n Try.prog 104 #[.pointer (some ⟨Bs, 0, none⟩)] (fun x : TCargo => #[valCargo x]) (KeepsV d) (fun ys => ys = vs) (fun _ => True) m w := fun l J Jx W hW hJ _ hY h0 =>
  valuesC_in n hn l Bs d A m c vs hz hm J Jx W (Nat.le_trans hd hW.size) hJ hY ((hW.cell (p := ⟨Bs, 0, none⟩) hbs).trans hBs) (hh.move fun p hp => hW.cell (by omega)) h0

/-- An append inside a fence, which says where the row lies behind it. -/
theorem wpListIn_append_at6 {F : Fence} {n : Nat} {P : Program} (w : World) {ops : Array Oper} {rest : List Oper} {o : Oper} {a : Act} {Q : Exit → Act → World → Prop}
    (hg : o.guard = none) (s x : Operand) (t : TypeId) (hop : o.op = Op.call { callee := Callee.builtin Builtin.append, args := #[s, x], argTypes := #[t, t] })
    (base : Nat) (e : TypeId) (i : TypeInfo) (z : Value) (size bytes : Nat) (h1 : P.underlying t = some (.slice e)) (h2 : P.info? e = some i) (h3 : i.zero = some z) (h4 : i.size = size) (h5 : i.bytes = bytes) (h6 : z.cells.size = size) (h7 : 0 < size)
    (v : Value) (k : Nat) (xs : List Value) (hs : a.eval s = v) (hown : w.ownsRow base e size v k xs) (ad : Addr) (m c : Nat) (news : List Value) (hx : a.eval x = .slice (some ad) m c) (hn : news.length = m * size)
    (hc : ∀ j u, news[j]? = some u → w.cell? (ad.add j) = some u) (h1c : ∀ u ∈ news, u.oneCell' = true) (b1 : k + m ≤ maxLen) (b2 : (k + m) * bytes ≤ 140737488355328) (b3 : base ≤ w.heap.size)
    (hK : ∀ v' w', w'.ownsRow base e size v' (k + m) (xs ++ news) → w.grownBy w' v.ownBlock → (v' = .slice none 0 0 ↔ v = .slice none 0 0 ∧ m = 0) → (v'.ownBlock = v.ownBlock ∨ v'.ownBlock = some w.heap.size) → wpListIn F n P ops Q rest (a.put o.dst v') w') :
    wpListIn F n P ops Q (o :: rest) a w := by
  refine wpListIn_plain hg fun K hK' => ?_
  obtain ⟨v', w', hrun, r1, r2, r3, r4⟩ := run_append_own_at (P := P) w base t o.type e i z size bytes h1 h2 h3 h4 h5 h6 h7 v k xs hown ad m c news hn hc h1c b1 b2 b3
  unfold Oper.wpIn
  refine ⟨?_, ?_⟩
  · simp [Oper.about, hop, resolve, Target.leads, Sem.run_pure]
  · rw [Oper.semAt_plain F _ _ (by rw [hop]; intro c hc'; cases hc')]
    simp [execOp, hop, resolve, invoke, builtin, hs, hx, hrun, Result.andThen]
    exact hK' _ _ (hK v' w' r1 r2 r3 r4)

theorem cell_three_new (w : World) (a b c : Value) (t : TypeId) : ∀ j u, [a, b, c][j]? = some u → (w.alloc (.cells #[a, b, c] t)).cell? ((⟨w.heap.size, 0, none⟩ : Addr).add j) = some u := by
  intro j u hu
  match j, hu with
  | 0, hu => exact (sNew w #[a, b, c] t 0).trans hu
  | 1, hu => exact (sNew w #[a, b, c] t 1).trans hu
  | 2, hu => exact (sNew w #[a, b, c] t 2).trans hu
theorem keepsFrom_alloc (B : Nat) (W : World) (o : Obj) : KeepsFrom B W (W.alloc o) := ⟨by simp, fun k u _ hk _ => by
  have hlt := (Array.getElem?_eq_some_iff.1 hk).1
  rw [Below.heap_alloc W o k (by omega)]
  exact hk⟩
/-- The frame of a round of AppendSeq. -/
def AxC (B Bs : Nat) (x : TCargo) (a : Act) (W : World) : Prop :=
  ∃ b, B + 1 ≤ b ∧ BoxC W b x.x0 x.x1 x.x2 ∧ a = (⟨#[Value.slice none 0 0, Value.func (Fn.func 104) #[] #[Value.pointer (some { block := Bs, off := 0 })],
          Value.pointer (some { block := B, off := 0 }), undef, Value.slice none 0 0, Value.pointer (some { block := b, off := 0 }),
          Value.func (Fn.func 104) #[] #[Value.pointer (some { block := Bs, off := 0 })], valCargo x, undef, undef, undef,
          undef, undef], []⟩ : Act)
theorem axC_own (n0 B Bs : Nat) (x : TCargo) (a : Act) : OwnFrom n0 (fun (_ : Unit) W => AxC B Bs x a W) := by
  rintro s W W' row ⟨b, hb, hbx, e⟩ hg hr
  refine ⟨b, hb, hbx.kept hg (fun e' => ?_), e⟩
  obtain ⟨-, o, ho, hc⟩ := hr b e'.symm
  unfold BoxC at hbx
  rw [hbx] at ho
  cases ho
  cases hc

set_option maxRecDepth 100000 in
set_option maxHeartbeats 4000000 in
theorem appSeqC_in (n : Nat) (hn : 3 ≤ n) (Bs d : Nat) (A : Option Addr) (m c : Nat) (vs : List TCargo) (hz : vs.length = m) (hm : m ≤ 1000) (w : World) (hbs : Bs < w.heap.size) (hd : d ≤ w.heap.size)
    (hBs : w.cell? ⟨Bs, 0, none⟩ = some (.slice A m c)) (hh : Has w d A (flatCargo vs)) :
    CallsIn Fence.wide n Try.prog 117 #[.slice none 0 0, .func (.func 104) #[] #[.pointer (some ⟨Bs, 0, none⟩)]] w
      fun e w' => ∃ v, e = .returned v ∧ w'.ownsRow w.heap.size 54 3 v m (flatCargo vs) ∧ Below w.heap.size w w' := by
  have hn1 : 1 ≤ n := by omega
  obtain ⟨i0, hi, hz0, hz1, hz2⟩ := info_parts Try.infoCargo'
  refine callsIn_of_wp_marks Try.func117 rfl trivial ?_ rfl
  simp only [Try.ntmps117, List.size_toArray, List.length_cons, List.length_nil, Nat.reduceAdd, Nat.reduceSub, Array.replicate_succ, Array.replicate_zero, List.push_toArray, List.append_toArray, List.nil_append, List.cons_append]
  gi_wp2
  obtain ⟨W0, hW0⟩ : ∃ W0, (w.alloc (Obj.cells #[Value.slice none 0 0] 42)) = W0 := ⟨_, rfl⟩
  have hsz : W0.heap.size = w.heap.size + 1 := by rw [← hW0]; simp
  have bO : Boxed W0 w.heap.size 42 (Value.slice none 0 0) := by rw [← hW0]; exact Boxed.new w 42 _
  have hr0 : W0.ownsRow w.heap.size 54 3 (Value.slice none 0 0) 0 [] := ⟨rfl, .inl ⟨rfl, rfl⟩⟩
  have hB0 : Below w.heap.size w W0 := by rw [← hW0]; exact (Below.refl _ w).alloc (Nat.le_refl _) _
  have bS : W0.cell? ⟨Bs, 0, none⟩ = some (.slice A m c) := (hB0.cell (p := ⟨Bs, 0, none⟩) hbs).trans hBs
  have hh0 : Has W0 d A (flatCargo vs) := hh.below (hB0.mono hd)
  rw [hW0]
  refine wpIn_rangeFunc_ownH rfl hn1 (gf := 104) (lb := #[.pointer (some ⟨Bs, 0, none⟩)]) rfl trivial (enters_of Try.func104 (by kernel_rfl) rfl)
    (valuesC_stops (n - 1) (by omega) Bs d A m c vs hz hm W0 (by omega) (by omega) bS hh0) keepsV_t (keepsV_b (by omega)) (Below.refl _ _) (fun _ => rfl)
    (fun (pre : List TCargo) W => (∃ v, Boxed W w.heap.size 42 v ∧ W.ownsRow w.heap.size 54 3 v pre.length (flatCargo pre) ∧ True) ∧ Below w.heap.size w W ∧ w.heap.size + 1 ≤ W.heap.size)
    (fun _ _ _ => False)
    (OwnFrom.and (Own.from (holdsRow_own w.heap.size w.heap.size 42 54 3 (fun (pre : List TCargo) => pre.length) (fun pre => flatCargo pre) (fun _ v => True)) _) (OwnFrom.and (ownFrom_below (Nat.le_refl _) (by omega)) (fun _ _ _ _ hs hg _ => Nat.le_trans hs hg.size)))
    (fun _ _ _ _ _ hs _ _ => hs)
    ⟨⟨_, bO, hr0, trivial⟩, hB0, by omega⟩
    (fun x a W => AxC w.heap.size Bs x a W) (fun x a => axC_own _ _ _ x a) ?assign ?body ?done ?stop
  case assign =>
    rintro l pre ⟨x0, x1, x2⟩ W K ⟨⟨v, hv, hrow, -⟩, hB, hsW⟩ hK
    gi_wp2
    refine hK _ _ (keepsFrom_alloc _ W (.cells #[.int .i64 x0, .int .i64 x1, .int .i64 x2] 54)) (keepsV_alloc (by omega) _) ⟨⟨v, hv.alloc _, hrow.alloc _, trivial⟩, hB.alloc hB.size _, by simp; omega⟩ ⟨W.heap.size, hsW, BoxC.new W x0 x1 x2, rfl⟩
  case body =>
    rintro l pre ⟨x0, x1, x2⟩ a' W - - ⟨⟨v, hv, hrow, -⟩, hB, hsW⟩ ⟨b, hb, hbx, rfl⟩ hlt
    have hc := hv.cell
    have c0 := hbx.c0
    have c1 := hbx.c1
    have c2 := hbx.c2
    dsimp only at c0 c1 c2
    gi_wp2_with (gi_at_builtin; refine wpListIn_append_at6 _ rfl _ _ 42 rfl w.heap.size 54 i0 (.agg #[.int .i64 0, .int .i64 0, .int .i64 0]) 3 24 Try.underlying42 hi hz0 hz1 hz2 rfl (by decide) _ _ _ rfl (hrow.alloc _) ⟨W.heap.size, 0, none⟩ 1 1 [.int .i64 x0, .int .i64 x1, .int .i64 x2] rfl rfl (cell_three_new _ _ _ _ _) (by simp [Value.oneCell']) (by unfold maxLen; omega) (by omega) (by have := hB.size; simp; omega) ?_; intro v' w1 hown' hgrow hnil' hat; obtain ⟨g', cap', rfl⟩ := ownsRow_succ hown'; obtain ⟨hv1, hv2, hr2, hk2, hb2⟩ := hv.appended (by decide) hrow hB.size (by omega) hown' hgrow; have hc1 := hv1.cell; have hf1 := hv1.frozen)
    have hr3 := hr2
    rw [show flatCargo pre ++ [Value.int IntKind.i64 x0, Value.int IntKind.i64 x1, Value.int IntKind.i64 x2] = flatCargo (pre ++ [⟨x0, x1, x2⟩]) by rw [flatCargo_append]; rfl] at hr3
    refine ⟨hk2.from _, fun r hr => ?_, ⟨_, hv2, by first | (rw [List.length_append]; exact hr3) | (rw [List.length_append]; exact ⟨hr3, trivial⟩)⟩, hB.trans hb2, by have := hb2.size; omega⟩
    have hr1 : r < w.heap.size := by omega
    have hr2' : r ≠ w.heap.size := by omega
    refine (Below.heap_setCell _ _ _ _ hr2').trans ((hgrow.block r (by simp; omega) (fun e => ?_)).trans (Below.heap_alloc W _ _ (by omega)))
    have hlow := hrow.2
    rcases hlow with ⟨rfl, -⟩ | ⟨g, cap, cur, rfl, hbg, -⟩
    · exact absurd (show some r = none from e) (by simp)
    · have h9 := Option.some.inj (show some r = some g from e)
      omega
  case done =>
    rintro D ys W hD rfl ⟨⟨v, hv, hrow, -⟩, hB, hsW⟩ hK
    have hc := hv.cell
    gi_wp2
    refine ⟨by simp, .inl ⟨_, _, rfl, run_takeDeferred hK, ?_⟩⟩
    exact ⟨_, results_tmp rfl _ _ _, _, rfl, by rw [hz] at hrow; exact ownsRow_putObj hrow _ hK rfl, hB.trans (belowK_b (w := w) (Nat.le_refl _) W D _ _ (by omega) hK rfl rfl)⟩
  case stop =>
    rintro D c pre W _ _ h _
    exact h.elim
end Go.Proofs.Ytgnopkemcgbedab
