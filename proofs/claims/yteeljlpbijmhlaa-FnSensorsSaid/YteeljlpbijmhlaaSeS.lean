/- Chapter 6, the program: a row of levels put in order: slices.Sorted over slices.Values. -/
import Derived.Test.YteeljlpbijmhlaaSeB
import Derived.RangeFuncBox
import Derived.RangeFuncLeaves
import Derived.RangeFuncNested
import Derived.RangeFuncBound
import Derived.RangeFuncCalls
import Derived.Shelf.Abstract
import Derived.OwnWalkIn
import Derived.TacticsInMore
import Derived.LoopNIn
import Derived.LoopIn
import Derived.Maps.AppendAt
import Derived.Sort.QuietIn
import Derived.Deep.LoopGhost
namespace Go.Proofs.Yteeljlpbijmhlaa
open Go.RowKit Go.PlainAid Go.Sort Go.Shelf
set_option linter.unusedVariables false
set_option linter.unusedSimpArgs false

attribute [local go_sem] Oper.semAt_some

/-- What a round leaves alone: all that lies below B. -/
def KeepsV (B : Nat) (W W' : World) : Prop := ∀ b, b < B → W'.heap[b]? = W.heap[b]?
theorem keepsV_t {d : Nat} {A B C : World} (h : KeepsV d A B) (k : KeepsV d B C) : KeepsV d A C := fun b hb => (k b hb).trans (h b hb)
theorem keepsV_below {d B : Nat} {W W' : World} (h : Below B W W') (hd : d ≤ B) : KeepsV d W W' := fun b hb => h.block b (by omega)
theorem keepsV_b {d n : Nat} (hd : d ≤ n) (W : World) (l : Nat) (o o' : Obj) (hl : n ≤ l) (h : W.heap[l]? = some o) (_ : o.isCells = false) (_ : o.isWalk = false) : KeepsV d W (W.putObj l o') := by
  have hlt := (Array.getElem?_eq_some_iff.1 h).1
  exact keepsV_below ((Below.refl n W).grown (grownBy_putObj' W l o') (by omega) (fun k e => by cases e; omega)) hd

set_option maxRecDepth 100000 in
set_option maxHeartbeats 2000000 in
/-- The iterator: it yields all elements in order. -/
theorem values1_in (n : Nat) (hn : 1 ≤ n) (l Bs d : Nat) (A : Option Addr) (m c : Nat) (zs : List Int) (hz : zs.length = m) (hm : m ≤ 1000) (J Jx : List Int → World → Prop)
    (W : World) (hJ : AbidesFrom W.heap.size J)
    (hY : ∀ pre x W, J pre W → pre.length < m → YieldAt Fence.wide (n - 1) Try.prog l #[.int .i64 x] W fun e W' =>
      (e = .returned (.bool true) ∧ J (pre ++ [x]) W' ∧ KeepsV d W W') ∨ (e = .returned (.bool false) ∧ Jx (pre ++ [x]) W'))
    (hBs : W.cell? ⟨Bs, 0, none⟩ = some (.slice A m c)) (hh : Has W d A (zs.map (.int .i64))) (h0 : J [] W) :
    CallsIn Fence.wide n Try.prog 95 #[.func (.yield l) #[] #[], .pointer (some ⟨Bs, 0, none⟩)] W fun e W' => (∃ v, e = .returned v) ∧
      ((∃ ys, ys = zs ∧ J ys W') ∨ (∃ pre, True ∧ Jx pre W')) := by
  have HL := Lib.hid hz
  refine callsIn_of_wp Try.func95 rfl trivial ?_ rfl
  simp only [Try.ntmps95, List.size_toArray, List.length_cons, List.length_nil, Nat.reduceAdd, Nat.reduceSub, Array.replicate_succ, Array.replicate_zero, List.push_toArray, List.append_toArray, List.nil_append, List.cons_append]
  gi_wp2
  gi_loopw [7] (fun i wr => ∃ k : Nat, k ≤ m ∧ i = .int .i64 k ∧ J (zs.take k) wr ∧ KeepsV d W wr)
    (fun i _ => m - (intOf i).toNat)
  case atStart => exact ⟨0, Nat.zero_le _, rfl, by simpa using h0, fun _ _ => rfl⟩
  case round =>
    obtain ⟨k, hk, rfl, hJs, hnx⟩ := hrel
    by_cases hlt : k < m
    · obtain ⟨a, rfl, hab, ez⟩ := intGet hh (k := k) (by omega)
      have ez2 : wr.cell? (a.add k) = some (.int .i64 (zs.getD k 0)) := (World.cell?_of_block (a := a.add k) (hnx _ (by rw [addBlock]; exact hab))).trans ez
      have HT : Hid (zs.take (k + 1) = zs.take k ++ [zs.getD k 0]) := Lib.hid (by
        rw [List.take_succ_eq_append_getElem (by rw [HL.out]; exact hlt)]
        simp [List.getD_eq_getElem?_getD, HL.out, hlt])
      have HY : ∀ nq, YieldAt Fence.wide (n - 1) Try.prog l #[.int .i64 (zs.getD k 0)] (wr.drewN nq) _ := fun nq => hY (zs.take k) (zs.getD k 0) (wr.drewN nq)
          (hJ _ _ _ none hJs ⟨rfl, rfl, rfl, Nat.le_refl _, fun _ _ _ => rfl⟩ (fun r hr => by cases hr)) (by rw [List.length_take]; omega)
      have HY0 := hY (zs.take k) (zs.getD k 0) wr hJs (by rw [List.length_take]; omega)
      generalize zs.getD k 0 = z at *
      have hk0 : (0 : Int) ≤ (k : Int) := by omega
      have hk1 : (k : Int) < (m : Int) := by omega
      clear hh ez hBs
      obtain ⟨fn, tmps, assign, body, hy, hR⟩ := HY0
      gi_wp2
      refine hR.mono ?_
      rintro e W3 (⟨rfl, hJ3, hk3⟩ | ⟨rfl, hJx3⟩)
      · gi_wp2
        go_roundw
        case rel => exact ⟨k + 1, by omega, by go_num, by rw [HT.out]; exact hJ3, keepsV_t hnx hk3⟩
        case measure => simp [intOf]; omega
      · gi_wp2
        refine bodyPost_ret (results_none rfl _ _ _) rfl ?_
        exact ⟨⟨_, rfl⟩, .inr ⟨_, trivial, hJx3⟩⟩
    · obtain rfl : k = m := by omega
      have HJ : Hid (J zs wr) := Lib.hid (by rw [List.take_of_length_le (by omega)] at hJs; exact hJs)
      clear hJs hh
      gi_wp2
      go_end0
      exact ⟨⟨_, rfl⟩, .inl ⟨_, rfl, HJ.out⟩⟩

set_option maxHeartbeats 1000000 in
theorem values_any (A : Option Addr) (m c : Nat) (w : World) :
    Calls Try.prog 63 #[.slice A m c] w fun e w' => e = .returned (.func (.func 95) #[] #[.pointer (some ⟨w.heap.size, 0, none⟩)]) ∧ w' = w.alloc (.cells #[.slice A m c] 22) := by
  go_enter Try.func63, Try.ntmps63
  go_wp2
  go_ret
  exact ⟨rfl, rfl⟩

theorem values_stops (n : Nat) (hn : 1 ≤ n) (Bs d : Nat) (A : Option Addr) (m c : Nat) (zs : List Int) (hz : zs.length = m) (hm : m ≤ 1000) (w : World) (hbs : Bs < w.heap.size) (hd : d ≤ w.heap.size)
    (hBs : w.cell? ⟨Bs, 0, none⟩ = some (.slice A m c)) (hh : Has w d A (zs.map (.int .i64))) :
    SeqStopsK Fence.wide n Try.prog 95 #[.pointer (some ⟨Bs, 0, none⟩)] (fun x : Int => #[Value.int .i64 x]) (KeepsV d) (fun ys => ys = zs) (fun _ => True) m w := fun l J Jx W hW hJ _ hY h0 =>
  values1_in n hn l Bs d A m c zs hz hm J Jx W hJ hY ((hW.cell (p := ⟨Bs, 0, none⟩) hbs).trans hBs) (hh.move fun p hp => hW.cell (by omega)) h0

/-- An append inside a fence, which says where the row lies behind it. -/
theorem wpListIn_append_at6 {F : Fence} {n : Nat} {P : Program} (w : World) {ops : Array Oper} {rest : List Oper} {o : Oper} {a : Act} {Q : Exit → Act → World → Prop}
    (hg : o.guard = none) (s x : Operand) (t : TypeId) (hop : o.op = Op.call { callee := Callee.builtin Builtin.append, args := #[s, x], argTypes := #[t, t] })
    (base : Nat) (e : TypeId) (i : TypeInfo) (z : Value) (size bytes : Nat) (h1 : P.underlying t = some (.slice e)) (h2 : P.info? e = some i) (h3 : i.zero = some z) (h4 : i.size = size) (h5 : i.bytes = bytes) (h6 : z.cells.size = size) (h7 : 0 < size)
    (v : Value) (k : Nat) (xs : List Value) (hs : a.eval s = v) (hown : w.ownsRow base e size v k xs) (ad : Addr) (m c : Nat) (news : List Value) (hx : a.eval x = .slice (some ad) m c) (hn : news.length = m * size)
    (hc : ∀ j u, news[j]? = some u → w.cell? (ad.add j) = some u) (h1c : ∀ u ∈ news, u.oneCell' = true) (b1 : k + m ≤ maxLen) (b2 : (k + m) * bytes ≤ 140737488355328) (b3 : base ≤ w.heap.size)
    (hK : ∀ v' w', w'.ownsRow base e size v' (k + m) (xs ++ news) → w.grownBy w' v.ownBlock → (v' = .slice none 0 0 ↔ v = .slice none 0 0 ∧ m = 0) → (v'.ownBlock = v.ownBlock ∨ v'.ownBlock = some w.heap.size) → wpListIn F n P ops Q rest (a.put o.dst v') w') :
    wpListIn F n P ops Q (o :: rest) a w := by
  refine wpListIn_plain hg fun K hK' => ?_
  obtain ⟨v', w', hrun, r1, r2, r3, r4⟩ := run_append_own_at (P := P) w base t o.type e i z size bytes h1 h2 h3 h4 h5 h6 h7 v k xs hown ad m c news hn hc h1c b1 b2 b3
  unfold Oper.wpIn
  refine ⟨?_, ?_⟩
  · simp [Oper.about, hop, resolve, Target.leads, Sem.run_pure]
  · rw [Oper.semAt_plain F _ _ (by rw [hop]; intro c hc'; cases hc')]
    simp [execOp, hop, resolve, invoke, builtin, hs, hx, hrun, Result.andThen]
    exact hK' _ _ (hK v' w' r1 r2 r3 r4)

set_option maxRecDepth 100000 in
set_option maxHeartbeats 2000000 in
theorem appSeq_in (n : Nat) (hn : 3 ≤ n) (Bs d : Nat) (A : Option Addr) (m c : Nat) (zs : List Int) (hz : zs.length = m) (hm : m ≤ 1000) (w : World) (hbs : Bs < w.heap.size) (hd : d ≤ w.heap.size)
    (hBs : w.cell? ⟨Bs, 0, none⟩ = some (.slice A m c)) (hh : Has w d A (zs.map (.int .i64))) :
    CallsIn Fence.wide n Try.prog 100 #[.slice none 0 0, .func (.func 95) #[] #[.pointer (some ⟨Bs, 0, none⟩)]] w
      fun e w' => ∃ v, e = .returned v ∧ w'.ownsRow w.heap.size 3 1 v m (zs.map (.int .i64)) ∧ Below w.heap.size w w' := by
  have hn1 : 1 ≤ n := by omega
  obtain ⟨i0, hi, hz0, hz1, hz2⟩ := info_parts Try.infoInt'
  refine callsIn_of_wp_marks Try.func100 rfl trivial ?_ rfl
  simp only [Try.ntmps100, List.size_toArray, List.length_cons, List.length_nil, Nat.reduceAdd, Nat.reduceSub, Array.replicate_succ, Array.replicate_zero, List.push_toArray, List.append_toArray, List.nil_append, List.cons_append]
  gi_wp2
  obtain ⟨W0, hW0⟩ : ∃ W0, (w.alloc (Obj.cells #[Value.slice none 0 0] 22)) = W0 := ⟨_, rfl⟩
  have hsz : W0.heap.size = w.heap.size + 1 := by rw [← hW0]; simp
  have bO : Boxed W0 w.heap.size 22 (Value.slice none 0 0) := by rw [← hW0]; exact Boxed.new w 22 _
  have hr0 : W0.ownsRow w.heap.size 3 1 (Value.slice none 0 0) 0 [] := ⟨rfl, .inl ⟨rfl, rfl⟩⟩
  have hB0 : Below w.heap.size w W0 := by rw [← hW0]; exact (Below.refl _ w).alloc (Nat.le_refl _) _
  have bS : W0.cell? ⟨Bs, 0, none⟩ = some (.slice A m c) := (hB0.cell (p := ⟨Bs, 0, none⟩) hbs).trans hBs
  have hh0 : Has W0 d A (zs.map (.int .i64)) := hh.below (hB0.mono hd)
  rw [hW0]
  refine wpIn_rangeFunc_ownG rfl hn1 (gf := 95) (lb := #[.pointer (some ⟨Bs, 0, none⟩)]) rfl trivial (enters_of Try.func95 (by kernel_rfl) rfl)
    (values_stops (n - 1) (by omega) Bs d A m c zs hz hm W0 (by omega) (by omega) bS hh0) keepsV_t (keepsV_b (by omega)) (Below.refl _ _) (fun _ => rfl)
    (fun (pre : List Int) W => (∃ v, Boxed W w.heap.size 22 v ∧ W.ownsRow w.heap.size 3 1 v pre.length (pre.map (Value.int .i64)) ∧ True) ∧ Below w.heap.size w W ∧ w.heap.size + 1 ≤ W.heap.size)
    (fun _ _ _ => False)
    (OwnFrom.and (Own.from (holdsRow_own w.heap.size w.heap.size 22 3 1 (fun (pre : List Int) => pre.length) (fun pre => pre.map (Value.int .i64)) (fun _ v => True)) _) (OwnFrom.and (ownFrom_below (Nat.le_refl _) (by omega)) (fun _ _ _ _ hs hg _ => Nat.le_trans hs hg.size)))
    (fun _ _ _ _ _ hs _ _ => hs)
    ⟨⟨_, bO, hr0, trivial⟩, hB0, by omega⟩
    (fun x => { tmps :=
        #[Value.slice none 0 0, Value.func (Fn.func 95) #[] #[Value.pointer (some { block := Bs, off := 0 })],
          Value.pointer (some { block := w.heap.size, off := 0 }), undef, Value.slice none 0 0, Value.int .i64 x,
          Value.func (Fn.func 95) #[] #[Value.pointer (some { block := Bs, off := 0 })], Value.int .i64 x, undef, undef, undef,
          undef, undef], defers := [] }) ?assign ?body ?done ?stop
  case assign =>
    intro l x W K hK
    gi_wp2
    exact hK
  case body =>
    rintro l pre x W ⟨⟨v, hv, hrow, -⟩, hB, hsW⟩ hlt
    have hc := hv.cell
    gi_wp2_with (gi_at_builtin; refine wpListIn_append_at6 _ rfl _ _ 22 rfl w.heap.size 3 i0 (.int .i64 0) 1 8 Try.underlying22 hi hz0 hz1 hz2 rfl (by decide) _ _ _ rfl (hrow.alloc _) ⟨W.heap.size, 0, none⟩ 1 1 [.int .i64 x] rfl rfl (cell_one_new _ _ _) (by simp [Value.oneCell']) (by unfold maxLen; omega) (by omega) (by have := hB.size; simp; omega) ?_; intro v' w1 hown' hgrow hnil' hat; obtain ⟨g', cap', rfl⟩ := ownsRow_succ hown'; obtain ⟨hv1, hv2, hr2, hk2, hb2⟩ := hv.appended (by decide) hrow hB.size (by omega) hown' hgrow; have hc1 := hv1.cell; have hf1 := hv1.frozen)
    refine ⟨hk2.from _, fun r hr => ?_, ⟨_, hv2, by simpa using hr2, trivial⟩, hB.trans hb2, by have := hb2.size; omega⟩
    have hr1 : r < w.heap.size := by omega
    have hr2' : r ≠ w.heap.size := by omega
    refine (Below.heap_setCell _ _ _ _ hr2').trans ((hgrow.block r (by simp; omega) (fun e => ?_)).trans (Below.heap_alloc W _ _ (by omega)))
    have hlow := hrow.2
    rcases hlow with ⟨rfl, -⟩ | ⟨g, cap, cur, rfl, hbg, -⟩
    · exact absurd (show some r = none from e) (by simp)
    · have h9 := Option.some.inj (show some r = some g from e)
      omega
  case done =>
    rintro D ys W hD rfl ⟨⟨v, hv, hrow, -⟩, hB, hsW⟩ hK
    have hc := hv.cell
    gi_wp2
    refine ⟨by simp, .inl ⟨_, _, rfl, run_takeDeferred hK, ?_⟩⟩
    exact ⟨_, results_tmp rfl _ _ _, _, rfl, by rw [hz] at hrow; exact ownsRow_putObj hrow _ hK rfl, hB.trans (belowK_b (w := w) (Nat.le_refl _) W D _ _ (by omega) hK rfl rfl)⟩
  case stop =>
    rintro D c pre W _ _ h _
    exact h.elim

theorem appSeq_any (Bs d : Nat) (A : Option Addr) (m c : Nat) (zs : List Int) (hz : zs.length = m) (hm : m ≤ 1000) (w : World) (hbs : Bs < w.heap.size) (hd : d ≤ w.heap.size)
    (hBs : w.cell? ⟨Bs, 0, none⟩ = some (.slice A m c)) (hh : Has w d A (zs.map (.int .i64))) :
    Calls Try.prog 100 #[.slice none 0 0, .func (.func 95) #[] #[.pointer (some ⟨Bs, 0, none⟩)]] w
      fun e w' => ∃ v, e = .returned v ∧ w'.ownsRow w.heap.size 3 1 v m (zs.map (.int .i64)) ∧ Below w.heap.size w w' :=
  callsIn_wide.1 (appSeq_in 3 (Nat.le_refl _) Bs d A m c zs hz hm w hbs hd hBs hh)
end Go.Proofs.Yteeljlpbijmhlaa
