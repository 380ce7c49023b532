/- Chapter 2: a waterway that the laws draw: its box, its two rows, the cursor; the draw of a good one. -/
import Derived.Test.YtgnopkemcgbedabInv
import Derived.Test.YtgnopkemcgbedabSt0
import Derived.Test.YtgnopkemcgbedabStk
import Derived.Test.YtgnopkemcgbedabCurX
import Derived.Test.YtgnopkemcgbedabWayWay
namespace Go.Proofs.Ytgnopkemcgbedab
open Go.RowKit Go.PlainAid Go.Sort
set_option linter.unusedVariables false
set_option linter.unusedSimpArgs false

abbrev wayO (v1 v2 : Value) : Obj := .cells #[v1, v2] 27
/-- The answer's box, the box of what is drawn (v1, v2), its rows (u1, u2). -/
structure WyS (B : Nat) (W : World) (b0 b3 : Nat) (v1 v2 u1 u2 : Value) (nR nZ : Nat) (R : List (Int × Int × Int)) (Z : List Int) : Prop where
  res : W.heap[b0]? = some (.cells #[.slice none 0 0, .slice none 0 0] 27 (0, 0))
  box : W.heap[b3]? = some (.cells #[v1, v2] 27 (0, 0))
  r : W.ownsRow B 83 3 u1 nR (flat R)
  z : W.ownsRow B 3 1 u2 nZ (Z.map (.int .i64))
theorem lt_of_heap {W : World} {b : Nat} {o : Obj} (h : W.heap[b]? = some o) : b < W.heap.size := (Array.getElem?_eq_some_iff.1 h).1
theorem ne_wr : (83 : TypeId) ≠ 27 := by decide
theorem ne_wi : (3 : TypeId) ≠ 27 := by decide
theorem ne_ri : (83 : TypeId) ≠ 3 := by decide
theorem ne_ir : (3 : TypeId) ≠ 83 := by decide
theorem ne_row {v : Value} {b : Nat} (h : v.ownBlock ≠ some b) : some b ≠ v.ownBlock := fun e => h e.symm
theorem own_past {w : World} {B : Nat} {e : TypeId} {s n : Nat} {v : Value} {xs : List Value} (h : w.ownsRow B e s v n xs) {g : Nat} (hg : g < B) : v.ownBlock ≠ some g := by
  intro hv
  have := (h.lt g hv).1
  omega
theorem grown_setW (w : World) (g i : Nat) (u : Value) : w.grownBy (w.setCell ⟨g, i, none⟩ u) (some g) :=
  ⟨rfl, rfl, rfl, by simp [World.setCell], fun k hk hne => by simp [World.setCell, Array.getElem?_modify]; intro e; exact absurd (e ▸ rfl) hne⟩
theorem heap_setA {w : World} {g : Nat} {t : TypeId} {u v u' : Value} (h : w.heap[g]? = some (.cells #[u, v] t (0, 0))) : (w.setCell ⟨g, 0, none⟩ u').heap[g]? = some (.cells #[u', v] t (0, 0)) := by
  simp [World.setCell, Array.getElem?_modify, h]
theorem heap_setB {w : World} {g : Nat} {t : TypeId} {u v u' : Value} (h : w.heap[g]? = some (.cells #[u, v] t (0, 0))) : (w.setCell ⟨g, 1, none⟩ u').heap[g]? = some (.cells #[u, u'] t (0, 0)) := by
  simp [World.setCell, Array.getElem?_modify, h]
theorem own_nothing {w : World} {B : Nat} {e : TypeId} {k : Nat} : w.ownsRow B e k (.slice none 0 0) 0 [] := by
  refine ⟨by simp, .inl ⟨rfl, rfl⟩⟩
theorem addOW (g o j : Nat) : (⟨g, o, none⟩ : Addr).add j = ⟨g, o + j, none⟩ := by unfold Addr.add; split <;> simp_all
theorem flat_appW : ∀ (rs ts : List (Int × Int × Int)), flat (rs ++ ts) = flat rs ++ flat ts
  | [], _ => rfl
  | r :: rs, ts => by simp only [List.cons_append, flat, flat_appW rs ts]
section
variable {B : Nat} {W W' : World} {b0 b3 : Nat} {v1 v2 u1 u2 u' : Value} {nR nZ nX : Nat} {R R' : List (Int × Int × Int)} {Z Z' : List Int}
theorem WyS.below (h : WyS B W b0 b3 v1 v2 u1 u2 nR nZ R Z) (hb : Below W.heap.size W W') : WyS B W' b0 b3 v1 v2 u1 u2 nR nZ R Z :=
  ⟨(hb.block _ (lt_of_heap h.res)).trans h.res, (hb.block _ (lt_of_heap h.box)).trans h.box, own_below h.r hb, own_below h.z hb⟩
/-- The cursor moves on. -/
theorem WyS.kept {g : Nat} (h : WyS B W b0 b3 v1 v2 u1 u2 nR nZ R Z) (hg : W.grownBy W' (some g)) (hB : g < B) (h0 : B ≤ b0) (h3 : B ≤ b3) : WyS B W' b0 b3 v1 v2 u1 u2 nR nZ R Z :=
  ⟨(hg.block _ (lt_of_heap h.res) (fun e => by injection e; omega)).trans h.res, (hg.block _ (lt_of_heap h.box) (fun e => by injection e; omega)).trans h.box, h.r.kept hg (.inr (own_past h.r hB)), h.z.kept hg (.inr (own_past h.z hB))⟩
theorem WyS.appR (h : WyS B W b0 b3 v1 v2 u1 u2 nR nZ R Z) (hg : W.grownBy W' u1.ownBlock) (ho : W'.ownsRow B 83 3 u' nX (flat R')) : WyS B W' b0 b3 v1 v2 u' u2 nX nZ R' Z :=
  ⟨(hg.block _ (lt_of_heap h.res) (ne_row (own_off h.r h.res ne_wr))).trans h.res, (hg.block _ (lt_of_heap h.box) (ne_row (own_off h.r h.box ne_wr))).trans h.box, ho, h.z.kept hg (own_ne h.z h.r ne_ir)⟩
theorem WyS.appZ (h : WyS B W b0 b3 v1 v2 u1 u2 nR nZ R Z) (hg : W.grownBy W' u2.ownBlock) (ho : W'.ownsRow B 3 1 u' nX (Z'.map (.int .i64))) : WyS B W' b0 b3 v1 v2 u1 u' nR nX R Z' :=
  ⟨(hg.block _ (lt_of_heap h.res) (ne_row (own_off h.z h.res ne_wi))).trans h.res, (hg.block _ (lt_of_heap h.box) (ne_row (own_off h.z h.box ne_wi))).trans h.box, h.r.kept hg (own_ne h.r h.z ne_ri), ho⟩
theorem WyS.putR (h : WyS B W b0 b3 v1 v2 u1 u2 nR nZ R Z) (hne : b0 ≠ b3) : WyS B (W.setCell ⟨b3, 0, none⟩ u1) b0 b3 u1 v2 u1 u2 nR nZ R Z :=
  have hg := grown_setW W b3 0 u1
  ⟨(hg.block _ (lt_of_heap h.res) (fun e => hne (by injection e))).trans h.res, heap_setA h.box, h.r.kept hg (.inr (own_off h.r h.box ne_wr)), h.z.kept hg (.inr (own_off h.z h.box ne_wi))⟩
theorem WyS.putZ (h : WyS B W b0 b3 v1 v2 u1 u2 nR nZ R Z) (hne : b0 ≠ b3) : WyS B (W.setCell ⟨b3, 1, none⟩ u2) b0 b3 v1 u2 u1 u2 nR nZ R Z :=
  have hg := grown_setW W b3 1 u2
  ⟨(hg.block _ (lt_of_heap h.res) (fun e => hne (by injection e))).trans h.res, heap_setB h.box, h.r.kept hg (.inr (own_off h.r h.box ne_wr)), h.z.kept hg (.inr (own_off h.z h.box ne_wi))⟩
theorem WyS.c0 (h : WyS B W b0 b3 v1 v2 u1 u2 nR nZ R Z) : W.cell? ⟨b3, 0, none⟩ = some v1 := cell_of_row _ _ 0 _ _ _ h.box
theorem WyS.c1 (h : WyS B W b0 b3 v1 v2 u1 u2 nR nZ R Z) : W.cell? ⟨b3, 1, none⟩ = some v2 := cell_of_row _ _ 1 _ _ _ h.box
theorem WyS.f0 (h : WyS B W b0 b3 v1 v2 u1 u2 nR nZ R Z) : W.frozen? ⟨b3, 0, none⟩ = false := frozen_of_row _ _ 0 _ _ h.box
theorem WyS.f1 (h : WyS B W b0 b3 v1 v2 u1 u2 nR nZ R Z) : W.frozen? ⟨b3, 1, none⟩ = false := frozen_of_row _ _ 1 _ _ h.box
end
/-- A list that was laid beside the cursor. -/
structure LstS (W : World) (g g9 : Nat) (xs : List Value) : Prop where
  ne : g9 ≠ g
  at' : ∀ j u, xs[j]? = some u → W.cell? ⟨g9, j, none⟩ = some u
theorem LstS.new (W : World) {g : Nat} (xs : List Value) (t : TypeId) (hg : g < W.heap.size) : LstS (W.alloc (.cells xs.toArray t)) g W.heap.size xs :=
  ⟨by omega, fun j u hu => by rw [sNew, List.getElem?_toArray]; exact hu⟩
theorem LstS.below {W W' : World} {g g9 : Nat} {xs : List Value} (h : LstS W g g9 xs) (hb : Below W.heap.size W W') : LstS W' g g9 xs :=
  ⟨h.ne, fun j u hu => (Below.cell hb (World.block_lt_of_cell? W _ (h.at' j u hu))).trans (h.at' j u hu)⟩
theorem LstS.kept {W W' : World} {g g9 : Nat} {xs : List Value} (h : LstS W g g9 xs) (hg : W.grownBy W' (some g)) : LstS W' g g9 xs :=
  ⟨h.ne, fun j u hu => (World.cell?_of_block (a := ⟨g9, j, none⟩) (hg.block g9 (World.block_lt_of_cell? W _ (h.at' j u hu)) (fun e => h.ne (by injection e)))).trans (h.at' j u hu)⟩
theorem LstS.nums {W : World} {g g9 : Nat} {ns : List Int} (h : LstS W g g9 (ns.map (.int .i64))) : ∀ k (hk : k < ns.length), W.cell? ⟨g9, k, none⟩ = some (.int .i64 ns[k]) := fun k hk =>
  h.at' k _ (by rw [List.getElem?_map, List.getElem?_eq_getElem hk]; rfl)
theorem LstS.cells {W : World} {g g9 : Nat} {xs : List Value} (h : LstS W g g9 xs) : ∀ j u, xs[j]? = some u → W.cell? ((⟨g9, 0, none⟩ : Addr).add j) = some u := fun j u hu => by
  rw [addOW, Nat.zero_add]
  exact h.at' j u hu
/-- Nothing is said of the worlds but that blocks stay. -/
structure UpW (B : Nat) (w W : World) : Prop where
  size : w.heap.size ≤ W.heap.size
theorem UpW.of {B : Nat} {w W : World} (h : Below B w W) : UpW B w W := ⟨h.size⟩
theorem UpW.trans {B : Nat} {w W W' : World} (h : UpW B w W) (k : UpW B W W') : UpW B w W' := ⟨Nat.le_trans h.size k.size⟩
theorem UpW.mono {B B' : Nat} {w W : World} (h : UpW B w W) (_ : B' ≤ B) : UpW B' w W := ⟨h.size⟩
theorem UpW.grown {B : Nat} {w W : World} {r : Option Nat} (h : w.grownBy W r) : UpW B w W := ⟨h.size⟩
theorem UpW.set {B : Nat} {w W : World} (h : UpW B w W) (p : Addr) (u : Value) : UpW B w (W.setCell p u) := ⟨by simpa [World.setCell] using h.size⟩
/-- An append of something, in a region. -/
theorem step_append1 {P : Program} {ops : Array Oper} {o : Oper} {a : Act} {w : World} {K : Act → World → Prop} {Q : Exit → Act → World → Prop} {E : Prop} (hgd : o.guard = none) (s x : Operand) (t : TypeId)
    (ho : o.op = .call { callee := .builtin .append, args := #[s, x], argTypes := #[t, t] }) (base : Nat) (e : TypeId) (i : TypeInfo) (z : Value) (size bytes : Nat) (ht : P.underlying t = some (.slice e)) (hi : P.info? e = some i) (hz : i.zero = some z)
    (hsize : i.size = size) (hby : i.bytes = bytes) (hzs : z.cells.size = size) (hsz : 0 < size) (v : Value) (n : Nat) (xs : List Value) (hs : a.eval s = v) (hown : w.ownsRow base e size v n xs)
    (ad : Addr) (c : Nat) (news : List Value) (hx : a.eval x = .slice (some ad) 1 c) (hl : news.length = 1 * size) (hnews : ∀ j u, news[j]? = some u → w.cell? (ad.add j) = some u) (h1 : ∀ u ∈ news, u.oneCell' = true)
    (h63 : n + 1 ≤ maxLen) (hbytes : (n + 1) * bytes ≤ 140737488355328) (hbase : base ≤ w.heap.size)
    (h : ∀ g cap w', base ≤ g → w'.ownsRow base e size (.slice (some ⟨g, 0, none⟩) (n + 1) cap) (n + 1) (xs ++ news) → w.grownBy w' v.ownBlock → K (a.put o.dst (.slice (some ⟨g, 0, none⟩) (n + 1) cap)) w') :
    if Region.wanted o (yielded ops a.tmps) = true then Oper.wp P o a w K Q else E := by
  have hw : Region.wanted o (yielded ops a.tmps) = true := by simp [Region.wanted, hgd]
  rw [if_pos hw]
  obtain ⟨v', w', hr, h2, h3, h4, -⟩ := run_append_own_at (P := P) w base t o.type e i z size bytes ht hi hz hsize hby hzs hsz v n xs hown ad 1 c news hl hnews h1 h63 hbytes hbase
  obtain ⟨g, cap, rfl, hg⟩ := own_some h2 (fun e => by have := (h4.1 e).2; omega)
  unfold Oper.wp execOp
  simp only [ho, resolve, invoke, builtin, Sem.run_bind, Sem.run_pure, Result.andThen_ok, List.map_toArray, List.map_cons, List.map_nil, hs, hx, hr]
  exact h g cap w' hg h2 h3
theorem CurStep.lt {w W : World} {g : Nat} {A : Option Addr} {n c : Nat} {p d : Int} (h : CurStep w W g A n c p d) : g < W.heap.size := by
  obtain ⟨q, -, -, hq⟩ := h.cur
  exact hq.lt
theorem CurStep.row {w W W' : World} {g : Nat} {A : Option Addr} {n c : Nat} {p d : Int} {v : Value} (h : CurStep w W g A n c p d) (hg : W.grownBy W' v.ownBlock) {e : TypeId} {s m : Nat} {xs : List Value} (ho : W.ownsRow w.heap.size e s v m xs) (hl : g < w.heap.size) : CurStep w W' g A n c p d := by
  cases hv : v.ownBlock with
  | none =>
    rw [hv] at hg
    exact h.on ⟨hg.os, hg.tape, hg.output, hg.size, fun k hk => hg.block k hk (by simp)⟩
  | some b =>
    rw [hv] at hg
    have := (ho.lt b hv).1
    exact h.own hg this (by omega)
theorem bN (b : Bool) : b.toNat ≤ 1 := by cases b <;> simp
/-- Lengths are small. -/
def okR (R : List (Int × Int × Int)) : Prop := ∀ r ∈ R, 0 ≤ r.1 ∧ r.1 ≤ 101
theorem okR.nil : okR [] := fun r hr => nomatch hr
theorem okR.add {R : List (Int × Int × Int)} (h : okR R) {x y z : Int} (hx : 0 ≤ x ∧ x ≤ 101) : okR (R ++ [(x, y, z)]) := fun r hr => by
  rcases List.mem_append.1 hr with h1 | h1
  · exact h r h1
  · rw [List.mem_singleton] at h1
    subst h1
    exact hx
theorem mem5 {z : Int} (h : z ∈ [1, 2, 5, 10, 100]) : 0 ≤ z ∧ z ≤ 101 := by
  simp only [List.mem_cons, List.not_mem_nil, or_false] at h
  omega
/-- What a draw of a waterway hands back. -/
def GivesWy (m : Nat) (dd : Int) (w : World) (g : Nat) (A : Option Addr) (n c : Nat) (p : Int) (e : Ending) (w' : World) : Prop :=
  ∃ (g1 : Nat) (A2 : Option Addr) (nR c1 nZ c2 : Nat) (R : List (Int × Int × Int)) (Z : List Int), e = .returned (.agg #[.slice (some ⟨g1, 0, none⟩) nR c1, .slice A2 nZ c2]) ∧ 0 < nR ∧ nR ≤ m ∧ nZ ≤ 10 * m ∧ R.length = nR ∧ Z.length = nZ ∧ okR R ∧
    w'.ownsRow w.heap.size 83 3 (.slice (some ⟨g1, 0, none⟩) nR c1) nR (flat R) ∧ w'.ownsRow w.heap.size 3 1 (.slice A2 nZ c2) nZ (Z.map (.int .i64)) ∧ CurStep w w' g A n c p dd
theorem res_range {W : World} {b0 : Nat} {x y : Value} (h : W.heap[b0]? = some (.cells #[.slice none 0 0, .slice none 0 0] 27 (0, 0))) : ((W.setCell ⟨b0, 0, none⟩ x).setCell ⟨b0, 1, none⟩ y).rangeAt b0 0 [x, y] :=
  have k := heap_set2 (u' := x) (v' := y) h
  range2 (cell_of_row _ _ 0 _ _ _ k) (cell_of_row _ _ 1 _ _ _ k)
theorem WyS.done {B : Nat} {W : World} {b0 b3 : Nat} {v1 v2 u1 u2 x y : Value} {nR nZ : Nat} {R : List (Int × Int × Int)} {Z : List Int} (h : WyS B W b0 b3 v1 v2 u1 u2 nR nZ R Z) :
    ((W.setCell ⟨b0, 0, none⟩ x).setCell ⟨b0, 1, none⟩ y).ownsRow B 83 3 u1 nR (flat R) ∧ ((W.setCell ⟨b0, 0, none⟩ x).setCell ⟨b0, 1, none⟩ y).ownsRow B 3 1 u2 nZ (Z.map (.int .i64)) := by
  have k := heap_setA (u' := x) h.res
  have r1 := h.r.kept (grown_setW W b0 0 x) (.inr (own_off h.r h.res ne_wr))
  have z1 := h.z.kept (grown_setW W b0 0 x) (.inr (own_off h.z h.res ne_wi))
  exact ⟨r1.kept (grown_setW _ b0 1 y) (.inr (own_off r1 k ne_wr)), z1.kept (grown_setW _ b0 1 y) (.inr (own_off z1 k ne_wi))⟩
theorem CurStep.sets2 {w W : World} {g : Nat} {A : Option Addr} {n c : Nat} {p d : Int} (h : CurStep w W g A n c p d) {b0 : Nat} (x y : Value) (hb : w.heap.size ≤ b0) (hne : b0 ≠ g) : CurStep w ((W.setCell ⟨b0, 0, none⟩ x).setCell ⟨b0, 1, none⟩ y) g A n c p d :=
  (h.own (grown_setW W b0 0 x) hb hne).own (grown_setW _ b0 1 y) hb hne
set_option maxRecDepth 100000 in
set_option maxHeartbeats 8000000 in
theorem waterway_at {g : Nat} {A : Option Addr} {n c : Nat} {p : Int} {zs : List Int} {B : Nat} {w : World} (h : CurAt w g A n c p zs B) (hp : p ≤ 800000000) :
    Calls Try.prog 92 #[.pointer (some ⟨g, 0, none⟩)] w (GivesWy 6 100 w g A n c p) := by
  obtain ⟨i0, hi, hz0, hz1, hz2⟩ := info_parts Try.infoInt'
  obtain ⟨j0, hj, jz0, jz1, jz2⟩ := info_parts Try.infoReach'
  have H := Lib.hid h
  have hgl := h.lt
  have hp0 := h.p0
  have S1 := Lib.hid (((CurStep.refl h.cur).alloc (wayO (.slice none 0 0) (.slice none 0 0))).alloc (wayO (.slice none 0 0) (.slice none 0 0)))
  have P1 : Hid (WyS w.heap.size ((w.alloc (wayO (.slice none 0 0) (.slice none 0 0))).alloc (wayO (.slice none 0 0) (.slice none 0 0))) w.heap.size (w.heap.size + 1) (.slice none 0 0) (.slice none 0 0) (.slice none 0 0) (.slice none 0 0) 0 0 [] []) := Lib.hid
    ⟨(heap_alloc_old _ _ (by simp)).trans (heap_alloc_new w _), by have h := heap_alloc_new (w.alloc (wayO (.slice none 0 0) (.slice none 0 0))) (wayO (.slice none 0 0) (.slice none 0 0)); simpa using h, own_nothing, own_nothing⟩
  clear h
  go_enter Try.func92, Try.ntmps92
  go_wp2_with fail
  obtain ⟨W1, hW1⟩ : ∃ x, (w.alloc (wayO (.slice none 0 0) (.slice none 0 0))).alloc (wayO (.slice none 0 0) (.slice none 0 0)) = x := ⟨_, rfl⟩
  obtain ⟨b0, hb0⟩ : ∃ x, w.heap.size = x := ⟨_, rfl⟩
  rw [hW1] at S1 P1 ⊢
  obtain ⟨b3, hb3⟩ : ∃ x, w.heap.size + 1 = x := ⟨_, rfl⟩
  have hgb : w.heap.size ≤ b0 := by omega
  have hgb3 : w.heap.size ≤ b3 := by omega
  have hne03 : b0 ≠ b3 := by omega
  rw [hb3] at P1
  rw [show WyS w.heap.size W1 w.heap.size b3 = WyS w.heap.size W1 b0 b3 from by rw [hb0]] at P1
  try simp only [hb3]
  try simp only [hb0]
  clear hW1 hb3
  obtain ⟨r5, r50, r51, H5⟩ := S1.out.at H.out
  refine (pick_at H5 (by omega) 6 (by omega)).mono ?_
  rintro e w6 ⟨b6, b60, b61, rfl, hs⟩
  obtain ⟨k6, rfl⟩ : ∃ k : Nat, b6 = (k : Int) := ⟨b6.toNat, by omega⟩
  have hk6 : k6 ≤ 5 := by omega
  have S6 := Lib.hid ((S1.out.then hs r50 r51).mono (d' := 10 + 8 * (6 - ((k6 + 1 : Nat) : Int))) (by push_cast; omega))
  have P6 := Lib.hid (P1.out.kept hs.grown (by omega) hgb hgb3)
  clear hs S1 P1 H5 r50 r51 b60 b61
  go_wp2_with fail
  go_loopw [4] (fun i wr => ∃ (k nR c1 nZ c2 : Nat) (A1 A2 : Option Addr) (R : List (Int × Int × Int)) (Z : List Int), k ≤ 6 ∧ i = .int .i64 k ∧ nR + k ≤ 6 ∧ nZ ≤ nR ∧ (k = 6 ∨ 0 < nR ∨ 0 < k) ∧ R.length = nR ∧ Z.length = nZ ∧ (0 < nR → ∃ g1, A1 = some ⟨g1, 0, none⟩) ∧ Hid (okR R) ∧ Hid (WyS w.heap.size wr b0 b3 (.slice A1 nR c1) (.slice A2 nZ c2) (.slice A1 nR c1) (.slice A2 nZ c2) nR nZ R Z) ∧ Hid (CurStep w wr g A n c p (10 + 8 * (6 - (k : Int))))) (fun i _ => (intOf i).toNat)
  case atStart => exact ⟨k6 + 1, 0, 0, 0, 0, none, none, [], [], by omega, by go_num, by omega, by omega, by omega, rfl, rfl, fun h => absurd h (by omega), Lib.hid okR.nil, P6, S6⟩
  case round =>
    clear P6 S6 hk6
    obtain ⟨k, nR, c1, nZ, c2, A1, A2, R, Z, hk, rfl, hq, hq2, hq3, hRl, hZl, hA1, HOK, P6, S6⟩ := hrel
    have HA1 := Lib.hid hA1
    clear hA1
    by_cases hlt : 0 < (k : Int)
    · obtain ⟨k, rfl⟩ : ∃ j, k = j + 1 := ⟨k - 1, by omega⟩
      obtain ⟨D9, hD9⟩ : ∃ d : Int, d = 10 + 8 * (6 - ((k + 1 : Nat) : Int)) := ⟨_, rfl⟩
      rw [← hD9] at S6
      have hD60 : D9 ≤ 60 := by omega
      have HD9 := Lib.hid hD9
      clear hD9
      have C0 := P6.out.c0
      by_cases hn0 : 0 < nR
      · have hn1 : (0 : Int) < (nR : Int) := by omega
        have HA5 := Lib.hid (HA1.out hn0)
        go_wp2_with fail
        clear C0
        refine region_inv (by kernel_rfl) (by kernel_rfl) (fun Fl9 ac W => ∃ (x17 x18 x19 x20 x21 x22 x23 x24 : Value), ac = { tmps := #[Value.pointer (some ⟨g, 0, none⟩), undef, Value.pointer (some ⟨b0, 0, none⟩), Value.pointer (some ⟨b3, 0, none⟩), Value.int IntKind.i64 ((k + 1 : Nat) : Int), Value.agg #[Value.slice none 0 0, Value.slice none 0 0], Value.pointer (some ⟨g, 0, none⟩), Value.int IntKind.i64 (k6 : Int), Value.int IntKind.i64 (1 + (k6 : Int)), Value.int IntKind.i64 ((k + 1 : Nat) : Int), Value.bool true, u11, u12, Value.pointer (some ⟨b3, 0, none⟩), Value.slice A1 nR c1, Value.int IntKind.i64 (nR : Int), Value.bool true, x17, x18, x19, x20, x21, x22, x23, x24, u25, u26, u27, u28, u29, u30, u31, u32, u33, u34, u35, u36, u37, u38, u39, undef], defers := [] } ∧ UpW wr.heap.size wr W ∧
              (Fl9 0 = true → x17 = .pointer (some ⟨b3, 1, none⟩)) ∧
              (Fl9 1 = true → x18 = .slice A2 nZ c2) ∧
              (Fl9 2 = true → x19 = .pointer (some ⟨g, 0, none⟩)) ∧
              (Fl9 3 = true → Fl9 6 = false → ∃ g9, x20 = .slice (some ⟨g9, 0, none⟩) 6 6 ∧ LstS W g g9 (([0, 100, 250, (-300), 1000, (-1000)] : List Int).map (.int .i64))) ∧
              (Fl9 4 = true → ∃ z9 : Int, x21 = .int .i64 z9 ∧ z9 ∈ ([0, 100, 250, -300, 1000, -1000] : List Int)) ∧
              (Fl9 5 = true → Fl9 6 = false → ∃ g9, x22 = .slice (some ⟨g9, 0, none⟩) 1 1 ∧ ∃ z9, LstS W g g9 [.int .i64 z9]) ∧
              (Fl9 6 = true → Fl9 8 = false → ∃ (z9 : Int) (g5 c5 : Nat), x23 = (.slice (some ⟨g5, 0, none⟩) (nZ + 1) c5) ∧ WyS w.heap.size W b0 b3 (.slice A1 nR c1) (.slice A2 nZ c2) (.slice A1 nR c1) (.slice (some ⟨g5, 0, none⟩) (nZ + 1) c5) nR (nZ + 1) R (Z ++ [z9])) ∧
              (Fl9 7 = true → x24 = .pointer (some ⟨b3, 1, none⟩)) ∧
              (Fl9 8 = true → ∃ (z9 : Int) (g5 c5 : Nat), x23 = (.slice (some ⟨g5, 0, none⟩) (nZ + 1) c5) ∧ WyS w.heap.size W b0 b3 (.slice A1 nR c1) (.slice (some ⟨g5, 0, none⟩) (nZ + 1) c5) (.slice A1 nR c1) (.slice (some ⟨g5, 0, none⟩) (nZ + 1) c5) nR (nZ + 1) R (Z ++ [z9])) ∧
              (Fl9 6 = false → WyS w.heap.size W b0 b3 (.slice A1 nR c1) (.slice A2 nZ c2) (.slice A1 nR c1) (.slice A2 nZ c2) nR nZ R Z) ∧
              (True → CurStep w W g A n c p (D9 + 2 * (((Fl9 4).toNat : Int)))) ∧
              (Fl9 6 = true → Fl9 1 = true) ∧
              (Fl9 6 = true → Fl9 4 = true) ∧
              (Fl9 8 = true → Fl9 6 = true)) ?_ ?_ ?_
        · exact ⟨_, _, _, _, _, _, _, _, rfl, UpW.of ((Drawn.one wr 1).below _), (fun q0 => nomatch q0), (fun q0 => nomatch q0), (fun q0 => nomatch q0), (fun q0 => nomatch q0), (fun q0 => nomatch q0), (fun q0 => nomatch q0), (fun q0 => nomatch q0), (fun q0 => nomatch q0), (fun q0 => nomatch q0), (fun _ => P6.out.below ((Drawn.one wr 1).below _)), (fun _ => (S6.out.on ((Drawn.one wr 1).below _)).mono (by simp)), (fun q0 => nomatch q0), (fun q0 => nomatch q0), (fun q0 => nomatch q0)⟩
        · intro Fl9 ac W i9 o9 hJ ho hL hdep K9 hK
          obtain ⟨x17, x18, x19, x20, x21, x22, x23, x24, rfl, hB, hh0, hh1, hh2, hh3, hh4, hh5, hh6, hh7, hh8, hx0, hx1, hx2, hx3, hx4⟩ := hJ
          have hi9 : i9 < 9 := by simpa using (Array.getElem?_eq_some_iff.1 ho).1
          obtain rfl | rfl | rfl | rfl | rfl | rfl | rfl | rfl | rfl : i9 = 0 ∨ i9 = 1 ∨ i9 = 2 ∨ i9 = 3 ∨ i9 = 4 ∨ i9 = 5 ∨ i9 = 6 ∨ i9 = 7 ∨ i9 = 8 := by omega
          · -- operation 0
            cases ho
            go_simp
            exact hK _ _ ⟨_, _, _, _, _, _, _, _, rfl, hB, fun _ => rfl, hh1, hh2, hh3, hh4, hh5, hh6, hh7, hh8, hx0, hx1, hx2, hx3, hx4⟩
          · -- operation 1
            cases ho
            obtain rfl := hh0 (hdep ⟨0, .data⟩ (by simp) rfl)
            have hT : Fl9 6 = false := Bool.eq_false_iff.2 (fun h => absurd (hx2 h) (by rw [hL]; simp))
            have C9 := (hx0 hT).c1
            go_simp
            exact hK _ _ ⟨_, _, _, _, _, _, _, _, rfl, hB, hh0, fun _ => rfl, hh2, hh3, hh4, hh5, hh6, hh7, hh8, hx0, hx1, fun _ => rfl, hx3, hx4⟩
          · -- operation 2
            cases ho
            go_simp
            exact hK _ _ ⟨_, _, _, _, _, _, _, _, rfl, hB, hh0, hh1, fun _ => rfl, hh3, hh4, hh5, hh6, hh7, hh8, hx0, hx1, hx2, hx3, hx4⟩
          · -- operation 3
            cases ho
            go_simp
            exact hK _ _ ⟨_, _, _, _, _, _, _, _, rfl, hB.trans ((UpW.of (Below.alloc (Below.refl W.heap.size W) (Nat.le_refl _) _)).mono hB.size), hh0, hh1, hh2, fun _ _ => ⟨_, rfl, LstS.new W _ _ (hx1 trivial).lt⟩, hh4, fun q0 r0 => (fun ⟨g9, e, z9, h⟩ => ⟨g9, e, z9, h.below (Below.alloc (Below.refl W.heap.size W) (Nat.le_refl _) _)⟩) (hh5 q0 r0), fun q0 r0 => (fun ⟨z9, g5, c5, e, h⟩ => ⟨z9, g5, c5, e, h.below (Below.alloc (Below.refl W.heap.size W) (Nat.le_refl _) _)⟩) (hh6 q0 r0), hh7, fun q0 => (fun ⟨z9, g5, c5, e, h⟩ => ⟨z9, g5, c5, e, h.below (Below.alloc (Below.refl W.heap.size W) (Nat.le_refl _) _)⟩) (hh8 q0), fun q0 => (fun h => h.below (Below.alloc (Below.refl W.heap.size W) (Nat.le_refl _) _)) (hx0 q0), fun q0 => (fun h => h.on (Below.alloc (Below.refl W.heap.size W) (Nat.le_refl _) _)) (hx1 q0), hx2, hx3, hx4⟩
          · -- operation 4
            cases ho
            have hT : Fl9 6 = false := Bool.eq_false_iff.2 (fun h => absurd (hx3 h) (by rw [hL]; simp))
            have hbn4 := bN (Fl9 4)
            obtain ⟨g9, rfl, hl9⟩ := hh3 (hdep ⟨3, .data⟩ (by simp) rfl) hT
            obtain rfl := hh2 (hdep ⟨2, .data⟩ (by simp) rfl)
            obtain ⟨q9, q90, q91, H9⟩ := (hx1 trivial).at H.out
            go_simp
            refine (amongN_at H9 (by omega) g9 6 6 [0, 100, 250, -300, 1000, -1000] rfl (by omega) (by omega) hl9.nums hl9.ne).mono ?_
            rintro e w9 ⟨z9, hz9, rfl, hs9⟩
            exact hK _ _ ⟨_, _, _, _, _, _, _, _, rfl, hB.trans ((UpW.grown hs9.grown).mono hB.size), hh0, hh1, hh2, (fun q0 r0 => (fun ⟨g9, e, h⟩ => ⟨g9, e, h.kept hs9.grown⟩) (hh3 q0 r0)), fun _ => ⟨_, rfl, hz9⟩, (fun q0 r0 => (fun ⟨g9, e, z9, h⟩ => ⟨g9, e, z9, h.kept hs9.grown⟩) (hh5 q0 r0)), (fun q0 r0 => (fun ⟨z9, g5, c5, e, h⟩ => ⟨z9, g5, c5, e, h.kept hs9.grown (by omega) hgb hgb3⟩) (hh6 q0 r0)), hh7, (fun q0 => (fun ⟨z9, g5, c5, e, h⟩ => ⟨z9, g5, c5, e, h.kept hs9.grown (by omega) hgb hgb3⟩) (hh8 q0)), fun q0 => (hx0 q0).kept hs9.grown (by omega) hgb hgb3, fun _ => ((hx1 trivial).then hs9 q90 q91).mono (by simp [hL] <;> omega), hx2, fun _ => rfl, hx4⟩
          · -- operation 5
            cases ho
            have hd4 := hdep ⟨4, .data⟩ (by simp) rfl
            obtain ⟨z21, rfl, hz21⟩ := hh4 hd4
            go_simp
            exact hK _ _ ⟨_, _, _, _, _, _, _, _, rfl, hB.trans ((UpW.of (Below.alloc (Below.refl W.heap.size W) (Nat.le_refl _) _)).mono hB.size), hh0, hh1, hh2, fun q0 r0 => (fun ⟨g9, e, h⟩ => ⟨g9, e, h.below (Below.alloc (Below.refl W.heap.size W) (Nat.le_refl _) _)⟩) (hh3 q0 r0), hh4, fun _ _ => ⟨_, rfl, _, LstS.new W _ _ (hx1 trivial).lt⟩, fun q0 r0 => (fun ⟨z9, g5, c5, e, h⟩ => ⟨z9, g5, c5, e, h.below (Below.alloc (Below.refl W.heap.size W) (Nat.le_refl _) _)⟩) (hh6 q0 r0), hh7, fun q0 => (fun ⟨z9, g5, c5, e, h⟩ => ⟨z9, g5, c5, e, h.below (Below.alloc (Below.refl W.heap.size W) (Nat.le_refl _) _)⟩) (hh8 q0), fun q0 => (fun h => h.below (Below.alloc (Below.refl W.heap.size W) (Nat.le_refl _) _)) (hx0 q0), fun q0 => (fun h => h.on (Below.alloc (Below.refl W.heap.size W) (Nat.le_refl _) _)) (hx1 q0), hx2, hx3, hx4⟩
          · -- operation 6
            cases ho
            have hp1 := hdep ⟨1, .data⟩ (by simp) rfl
            have hp4 := hdep ⟨4, .chain⟩ (by simp) rfl
            obtain rfl := hh1 hp1
            obtain ⟨g9, rfl, z9, hl9⟩ := hh5 (hdep ⟨5, .data⟩ (by simp) rfl) hL
            refine step_append1 rfl (.tmp 18) (.tmp 22) 25 rfl w.heap.size 3 i0 (.int .i64 0) 1 8 Try.underlying25 hi hz0 hz1 hz2 rfl (by decide) _ nZ _ rfl (hx0 hL).z ⟨g9, 0, none⟩ 1 [.int .i64 z9] rfl rfl hl9.cells (by simp [Value.oneCell']) (by unfold maxLen; omega) (by omega) (hx1 trivial).grown.size ?_
            intro g5 c5 w9 hg5 hown hgr
            exact hK _ _ ⟨_, _, _, _, _, _, _, _, rfl, hB.trans ((UpW.grown hgr).mono hB.size), hh0, hh1, hh2, (fun _ q0 => nomatch q0), hh4, (fun _ q0 => nomatch q0), fun _ => fun _ => ⟨z9, g5, c5, rfl, (hx0 hL).appZ hgr (by rw [List.map_append]; exact hown)⟩, hh7, (fun q0 => absurd (hx4 q0) (by rw [hL]; simp)), (fun q0 => nomatch q0), fun _ => (hx1 trivial).row hgr (hx0 hL).z hgl, fun _ => hp1, fun _ => hp4, fun _ => rfl⟩
          · -- operation 7
            cases ho
            go_simp
            exact hK _ _ ⟨_, _, _, _, _, _, _, _, rfl, hB, hh0, hh1, hh2, hh3, hh4, hh5, hh6, fun _ => rfl, hh8, hx0, hx1, hx2, hx3, hx4⟩
          · -- operation 8
            cases ho
            have hdT := hdep ⟨6, .data⟩ (by simp) rfl
            obtain ⟨z9, g5, c5, rfl, hw9⟩ := hh6 hdT hL
            obtain rfl := hh7 (hdep ⟨7, .data⟩ (by simp) rfl)
            have fz := hw9.f1
            have cc := hw9.c1
            go_simp
            exact hK _ _ ⟨_, _, _, _, _, _, _, _, rfl, hB.set _ _, hh0, (fun _ => rfl), hh2, (fun _ q0 => absurd (hdT.symm.trans q0) (by simp)), hh4, (fun _ q0 => absurd (hdT.symm.trans q0) (by simp)), (fun _ q0 => nomatch q0), hh7, fun _ => ⟨z9, g5, c5, rfl, hw9.putZ hne03⟩, (fun q0 => absurd (hdT.symm.trans q0) (by simp)), fun _ => (hx1 trivial).own (grown_setW _ _ _ _) hgb3 (by omega), hx2, hx3, fun _ => hdT⟩
        intro Fl9 ac W hJ hall
        obtain ⟨x17, x18, x19, x20, x21, x22, x23, x24, rfl, hB, hh0, hh1, hh2, hh3, hh4, hh5, hh6, hh7, hh8, -, hcs9, -, -, -⟩ := hJ
        obtain rfl := hh0 (hall 0 (by decide))
        obtain rfl := hh1 (hall 1 (by decide))
        obtain rfl := hh2 (hall 2 (by decide))
        obtain rfl := hh7 (hall 7 (by decide))
        obtain - := hh3 (hall 3 (by decide))
        obtain - := hh4 (hall 4 (by decide))
        obtain - := hh5 (hall 5 (by decide))
        obtain - := hh6 (hall 6 (by decide))
        obtain ⟨z9, g5, c5, rfl, P7⟩ := hh8 (hall 8 (by decide))
        clear hall
        have S7 : Hid (CurStep w W g A n c p (D9 + 2)) := Lib.hid ((hcs9 trivial).mono (by have := bN (Fl9 4); omega))
        have P7 := Lib.hid P7
        have hq4 : nZ + 1 ≤ nR + 1 := by omega
        have hZ5 : (Z ++ [z9]).length = nZ + 1 := by rw [List.length_append, hZl]; rfl
        obtain ⟨Z5, hZ5e⟩ : ∃ Z5, Z ++ [z9] = Z5 := ⟨_, rfl⟩
        obtain ⟨nZ5, hnZ5⟩ : ∃ m, nZ + 1 = m := ⟨_, rfl⟩
        rw [hZ5e] at P7 hZ5
        rw [hnZ5] at P7 hZ5 hq4
        simp only [hnZ5]
        clear hcs9 hB P6 S6 hZ5e hnZ5 hZl hq2
        go_wp2_with fail
        have P6 := P7
        have S7 := S7
        obtain ⟨WR, hWR⟩ : ∃ x, x = W := ⟨_, rfl⟩
        subst hWR
        obtain ⟨D9, hDq⟩ : ∃ d : Int, d = D9 + 2 := ⟨_, rfl⟩
        have S6 : Hid (CurStep w WR g A n c p D9) := Lib.hid (by rw [hDq]; exact S7.out)
        clear S7
        have HDQ := Lib.hid hDq
        have hD70 : D9 ≤ 70 := by omega
        clear hDq
        refine region_inv (by kernel_rfl) (by kernel_rfl) (fun Fl9 ac W => ∃ (x25 x26 x27 x28 x29 x30 x31 x32 x33 x34 x35 x36 x37 x38 x39 : Value), ac = { tmps := #[Value.pointer (some ⟨g, 0, none⟩), undef, Value.pointer (some ⟨b0, 0, none⟩), Value.pointer (some ⟨b3, 0, none⟩), Value.int IntKind.i64 ((k + 1 : Nat) : Int), Value.agg #[Value.slice none 0 0, Value.slice none 0 0], Value.pointer (some ⟨g, 0, none⟩), Value.int IntKind.i64 (k6 : Int), Value.int IntKind.i64 (1 + (k6 : Int)), Value.int IntKind.i64 ((k + 1 : Nat) : Int), Value.bool true, u11, u12, Value.pointer (some ⟨b3, 0, none⟩), Value.slice A1 nR c1, Value.int IntKind.i64 (nR : Int), Value.bool true, Value.pointer (some ⟨b3, 1, none⟩), Value.slice A2 nZ c2, Value.pointer (some ⟨g, 0, none⟩), x20, x21, x22, Value.slice (some ⟨g5, 0, none⟩) nZ5 c5, Value.pointer (some ⟨b3, 1, none⟩), x25, x26, x27, x28, x29, x30, x31, x32, x33, x34, x35, x36, x37, x38, x39, undef], defers := [] } ∧ UpW WR.heap.size WR W ∧
              (Fl9 0 = true → x25 = .pointer (some ⟨b3, 0, none⟩)) ∧
              (Fl9 1 = true → x26 = .slice A1 nR c1) ∧
              (Fl9 2 = true → x27 = .pointer (some ⟨g, 0, none⟩)) ∧
              (Fl9 3 = true → Fl9 13 = false → ∃ g9, x28 = .slice (some ⟨g9, 0, none⟩) 5 5 ∧ LstS W g g9 (([1, 2, 5, 10, 100] : List Int).map (.int .i64))) ∧
              (Fl9 4 = true → ∃ z9 : Int, x29 = .int .i64 z9 ∧ z9 ∈ ([1, 2, 5, 10, 100] : List Int)) ∧
              (Fl9 5 = true → x30 = .pointer (some ⟨g, 0, none⟩)) ∧
              (Fl9 6 = true → Fl9 13 = false → ∃ g9, x31 = .slice (some ⟨g9, 0, none⟩) 4 4 ∧ LstS W g g9 (([100, 250, 300, 900] : List Int).map (.int .i64))) ∧
              (Fl9 7 = true → ∃ z9 : Int, x32 = .int .i64 z9 ∧ z9 ∈ ([100, 250, 300, 900] : List Int)) ∧
              (Fl9 8 = true → x33 = .pointer (some ⟨g, 0, none⟩)) ∧
              (Fl9 9 = true → ∃ z9 : Int, x34 = .int .i64 z9 ∧ 0 ≤ z9 ∧ z9 ≤ 19) ∧
              (Fl9 10 = true → ∃ z9 : Int, x35 = .int .i64 z9) ∧
              (Fl9 11 = true → ∃ y1 y2 y3 : Int, x36 = .agg #[.int .i64 y1, .int .i64 y2, .int .i64 y3] ∧ (0 ≤ y1 ∧ y1 ≤ 101)) ∧
              (Fl9 12 = true → Fl9 13 = false → ∃ g9, x37 = .slice (some ⟨g9, 0, none⟩) 1 1 ∧ ∃ y1 y2 y3 : Int, (0 ≤ y1 ∧ y1 ≤ 101) ∧ LstS W g g9 [.int .i64 y1, .int .i64 y2, .int .i64 y3]) ∧
              (Fl9 13 = true → Fl9 15 = false → ∃ (y1 y2 y3 : Int) (g6 c6 : Nat), x38 = (.slice (some ⟨g6, 0, none⟩) (nR + 1) c6) ∧ ((0 ≤ y1 ∧ y1 ≤ 101) ∧ WyS w.heap.size W b0 b3 (.slice A1 nR c1) (.slice (some ⟨g5, 0, none⟩) nZ5 c5) (.slice (some ⟨g6, 0, none⟩) (nR + 1) c6) (.slice (some ⟨g5, 0, none⟩) nZ5 c5) (nR + 1) nZ5 (R ++ [(y1, y2, y3)]) Z5)) ∧
              (Fl9 14 = true → x39 = .pointer (some ⟨b3, 0, none⟩)) ∧
              (Fl9 15 = true → ∃ (y1 y2 y3 : Int) (g6 c6 : Nat), x38 = (.slice (some ⟨g6, 0, none⟩) (nR + 1) c6) ∧ ((0 ≤ y1 ∧ y1 ≤ 101) ∧ WyS w.heap.size W b0 b3 (.slice (some ⟨g6, 0, none⟩) (nR + 1) c6) (.slice (some ⟨g5, 0, none⟩) nZ5 c5) (.slice (some ⟨g6, 0, none⟩) (nR + 1) c6) (.slice (some ⟨g5, 0, none⟩) nZ5 c5) (nR + 1) nZ5 (R ++ [(y1, y2, y3)]) Z5)) ∧
              (Fl9 13 = false → WyS w.heap.size W b0 b3 (.slice A1 nR c1) (.slice (some ⟨g5, 0, none⟩) nZ5 c5) (.slice A1 nR c1) (.slice (some ⟨g5, 0, none⟩) nZ5 c5) nR nZ5 R Z5) ∧
              (True → CurStep w W g A n c p (D9 + 2 * (((Fl9 4).toNat : Int) + ((Fl9 7).toNat : Int) + ((Fl9 9).toNat : Int)))) ∧
              (Fl9 13 = true → Fl9 1 = true) ∧
              (Fl9 13 = true → Fl9 4 = true) ∧
              (Fl9 13 = true → Fl9 7 = true) ∧
              (Fl9 13 = true → Fl9 9 = true) ∧
              (Fl9 9 = true → Fl9 7 = true) ∧
              (Fl9 7 = true → Fl9 4 = true) ∧
              (Fl9 15 = true → Fl9 13 = true)) ?_ ?_ ?_
        · exact ⟨_, _, _, _, _, _, _, _, _, _, _, _, _, _, _, rfl, UpW.of ((Drawn.one WR 1).below _), (fun q0 => nomatch q0), (fun q0 => nomatch q0), (fun q0 => nomatch q0), (fun q0 => nomatch q0), (fun q0 => nomatch q0), (fun q0 => nomatch q0), (fun q0 => nomatch q0), (fun q0 => nomatch q0), (fun q0 => nomatch q0), (fun q0 => nomatch q0), (fun q0 => nomatch q0), (fun q0 => nomatch q0), (fun q0 => nomatch q0), (fun q0 => nomatch q0), (fun q0 => nomatch q0), (fun q0 => nomatch q0), (fun _ => P6.out.below ((Drawn.one WR 1).below _)), (fun _ => (S6.out.on ((Drawn.one WR 1).below _)).mono (by simp)), (fun q0 => nomatch q0), (fun q0 => nomatch q0), (fun q0 => nomatch q0), (fun q0 => nomatch q0), (fun q0 => nomatch q0), (fun q0 => nomatch q0), (fun q0 => nomatch q0)⟩
        · intro Fl9 ac W i9 o9 hJ ho hL hdep K9 hK
          obtain ⟨x25, x26, x27, x28, x29, x30, x31, x32, x33, x34, x35, x36, x37, x38, x39, rfl, hB, hh0, hh1, hh2, hh3, hh4, hh5, hh6, hh7, hh8, hh9, hh10, hh11, hh12, hh13, hh14, hh15, hx0, hx1, hx2, hx3, hx4, hx5, hx6, hx7, hx8⟩ := hJ
          have hi9 : i9 < 16 := by simpa using (Array.getElem?_eq_some_iff.1 ho).1
          obtain rfl | rfl | rfl | rfl | rfl | rfl | rfl | rfl | rfl | rfl | rfl | rfl | rfl | rfl | rfl | rfl : i9 = 0 ∨ i9 = 1 ∨ i9 = 2 ∨ i9 = 3 ∨ i9 = 4 ∨ i9 = 5 ∨ i9 = 6 ∨ i9 = 7 ∨ i9 = 8 ∨ i9 = 9 ∨ i9 = 10 ∨ i9 = 11 ∨ i9 = 12 ∨ i9 = 13 ∨ i9 = 14 ∨ i9 = 15 := by omega
          · -- operation 0
            cases ho
            go_simp
            exact hK _ _ ⟨_, _, _, _, _, _, _, _, _, _, _, _, _, _, _, rfl, hB, fun _ => rfl, hh1, hh2, hh3, hh4, hh5, hh6, hh7, hh8, hh9, hh10, hh11, hh12, hh13, hh14, hh15, hx0, hx1, hx2, hx3, hx4, hx5, hx6, hx7, hx8⟩
          · -- operation 1
            cases ho
            obtain rfl := hh0 (hdep ⟨0, .data⟩ (by simp) rfl)
            have hT : Fl9 13 = false := Bool.eq_false_iff.2 (fun h => absurd (hx2 h) (by rw [hL]; simp))
            have C9 := (hx0 hT).c0
            go_simp
            exact hK _ _ ⟨_, _, _, _, _, _, _, _, _, _, _, _, _, _, _, rfl, hB, hh0, fun _ => rfl, hh2, hh3, hh4, hh5, hh6, hh7, hh8, hh9, hh10, hh11, hh12, hh13, hh14, hh15, hx0, hx1, fun _ => rfl, hx3, hx4, hx5, hx6, hx7, hx8⟩
          · -- operation 2
            cases ho
            go_simp
            exact hK _ _ ⟨_, _, _, _, _, _, _, _, _, _, _, _, _, _, _, rfl, hB, hh0, hh1, fun _ => rfl, hh3, hh4, hh5, hh6, hh7, hh8, hh9, hh10, hh11, hh12, hh13, hh14, hh15, hx0, hx1, hx2, hx3, hx4, hx5, hx6, hx7, hx8⟩
          · -- operation 3
            cases ho
            go_simp
            exact hK _ _ ⟨_, _, _, _, _, _, _, _, _, _, _, _, _, _, _, rfl, hB.trans ((UpW.of (Below.alloc (Below.refl W.heap.size W) (Nat.le_refl _) _)).mono hB.size), hh0, hh1, hh2, fun _ _ => ⟨_, rfl, LstS.new W _ _ (hx1 trivial).lt⟩, hh4, hh5, fun q0 r0 => (fun ⟨g9, e, h⟩ => ⟨g9, e, h.below (Below.alloc (Below.refl W.heap.size W) (Nat.le_refl _) _)⟩) (hh6 q0 r0), hh7, hh8, hh9, hh10, hh11, fun q0 r0 => (fun ⟨g9, e, y1, y2, y3, hy, h⟩ => ⟨g9, e, y1, y2, y3, hy, h.below (Below.alloc (Below.refl W.heap.size W) (Nat.le_refl _) _)⟩) (hh12 q0 r0), fun q0 r0 => (fun ⟨y1, y2, y3, g6, c6, e, hy, h⟩ => ⟨y1, y2, y3, g6, c6, e, hy, h.below (Below.alloc (Below.refl W.heap.size W) (Nat.le_refl _) _)⟩) (hh13 q0 r0), hh14, fun q0 => (fun ⟨y1, y2, y3, g6, c6, e, hy, h⟩ => ⟨y1, y2, y3, g6, c6, e, hy, h.below (Below.alloc (Below.refl W.heap.size W) (Nat.le_refl _) _)⟩) (hh15 q0), fun q0 => (fun h => h.below (Below.alloc (Below.refl W.heap.size W) (Nat.le_refl _) _)) (hx0 q0), fun q0 => (fun h => h.on (Below.alloc (Below.refl W.heap.size W) (Nat.le_refl _) _)) (hx1 q0), hx2, hx3, hx4, hx5, hx6, hx7, hx8⟩
          · -- operation 4
            cases ho
            have hT : Fl9 13 = false := Bool.eq_false_iff.2 (fun h => absurd (hx3 h) (by rw [hL]; simp))
            have hbn4 := bN (Fl9 4)
            have hbn7 := bN (Fl9 7)
            have hbn9 := bN (Fl9 9)
            obtain ⟨g9, rfl, hl9⟩ := hh3 (hdep ⟨3, .data⟩ (by simp) rfl) hT
            obtain rfl := hh2 (hdep ⟨2, .data⟩ (by simp) rfl)
            obtain ⟨q9, q90, q91, H9⟩ := (hx1 trivial).at H.out
            go_simp
            refine (amongN_at H9 (by omega) g9 5 5 [1, 2, 5, 10, 100] rfl (by omega) (by omega) hl9.nums hl9.ne).mono ?_
            rintro e w9 ⟨z9, hz9, rfl, hs9⟩
            exact hK _ _ ⟨_, _, _, _, _, _, _, _, _, _, _, _, _, _, _, rfl, hB.trans ((UpW.grown hs9.grown).mono hB.size), hh0, hh1, hh2, (fun q0 r0 => (fun ⟨g9, e, h⟩ => ⟨g9, e, h.kept hs9.grown⟩) (hh3 q0 r0)), fun _ => ⟨_, rfl, hz9⟩, hh5, (fun q0 r0 => (fun ⟨g9, e, h⟩ => ⟨g9, e, h.kept hs9.grown⟩) (hh6 q0 r0)), hh7, hh8, hh9, hh10, hh11, (fun q0 r0 => (fun ⟨g9, e, y1, y2, y3, hy, h⟩ => ⟨g9, e, y1, y2, y3, hy, h.kept hs9.grown⟩) (hh12 q0 r0)), (fun q0 r0 => (fun ⟨y1, y2, y3, g6, c6, e, hy, h⟩ => ⟨y1, y2, y3, g6, c6, e, hy, h.kept hs9.grown (by omega) hgb hgb3⟩) (hh13 q0 r0)), hh14, (fun q0 => (fun ⟨y1, y2, y3, g6, c6, e, hy, h⟩ => ⟨y1, y2, y3, g6, c6, e, hy, h.kept hs9.grown (by omega) hgb hgb3⟩) (hh15 q0)), fun q0 => (hx0 q0).kept hs9.grown (by omega) hgb hgb3, fun _ => ((hx1 trivial).then hs9 q90 q91).mono (by simp [hL] <;> omega), hx2, fun _ => rfl, hx4, hx5, hx6, fun _ => rfl, hx8⟩
          · -- operation 5
            cases ho
            go_simp
            exact hK _ _ ⟨_, _, _, _, _, _, _, _, _, _, _, _, _, _, _, rfl, hB, hh0, hh1, hh2, hh3, hh4, fun _ => rfl, hh6, hh7, hh8, hh9, hh10, hh11, hh12, hh13, hh14, hh15, hx0, hx1, hx2, hx3, hx4, hx5, hx6, hx7, hx8⟩
          · -- operation 6
            cases ho
            go_simp
            exact hK _ _ ⟨_, _, _, _, _, _, _, _, _, _, _, _, _, _, _, rfl, hB.trans ((UpW.of (Below.alloc (Below.refl W.heap.size W) (Nat.le_refl _) _)).mono hB.size), hh0, hh1, hh2, fun q0 r0 => (fun ⟨g9, e, h⟩ => ⟨g9, e, h.below (Below.alloc (Below.refl W.heap.size W) (Nat.le_refl _) _)⟩) (hh3 q0 r0), hh4, hh5, fun _ _ => ⟨_, rfl, LstS.new W _ _ (hx1 trivial).lt⟩, hh7, hh8, hh9, hh10, hh11, fun q0 r0 => (fun ⟨g9, e, y1, y2, y3, hy, h⟩ => ⟨g9, e, y1, y2, y3, hy, h.below (Below.alloc (Below.refl W.heap.size W) (Nat.le_refl _) _)⟩) (hh12 q0 r0), fun q0 r0 => (fun ⟨y1, y2, y3, g6, c6, e, hy, h⟩ => ⟨y1, y2, y3, g6, c6, e, hy, h.below (Below.alloc (Below.refl W.heap.size W) (Nat.le_refl _) _)⟩) (hh13 q0 r0), hh14, fun q0 => (fun ⟨y1, y2, y3, g6, c6, e, hy, h⟩ => ⟨y1, y2, y3, g6, c6, e, hy, h.below (Below.alloc (Below.refl W.heap.size W) (Nat.le_refl _) _)⟩) (hh15 q0), fun q0 => (fun h => h.below (Below.alloc (Below.refl W.heap.size W) (Nat.le_refl _) _)) (hx0 q0), fun q0 => (fun h => h.on (Below.alloc (Below.refl W.heap.size W) (Nat.le_refl _) _)) (hx1 q0), hx2, hx3, hx4, hx5, hx6, hx7, hx8⟩
          · -- operation 7
            cases ho
            have hT : Fl9 13 = false := Bool.eq_false_iff.2 (fun h => absurd (hx4 h) (by rw [hL]; simp))
            have hbn4 := bN (Fl9 4)
            have hbn7 := bN (Fl9 7)
            have hbn9 := bN (Fl9 9)
            obtain ⟨g9, rfl, hl9⟩ := hh6 (hdep ⟨6, .data⟩ (by simp) rfl) hT
            obtain rfl := hh5 (hdep ⟨5, .data⟩ (by simp) rfl)
            obtain ⟨q9, q90, q91, H9⟩ := (hx1 trivial).at H.out
            go_simp
            refine (amongN_at H9 (by omega) g9 4 4 [100, 250, 300, 900] rfl (by omega) (by omega) hl9.nums hl9.ne).mono ?_
            rintro e w9 ⟨z9, hz9, rfl, hs9⟩
            exact hK _ _ ⟨_, _, _, _, _, _, _, _, _, _, _, _, _, _, _, rfl, hB.trans ((UpW.grown hs9.grown).mono hB.size), hh0, hh1, hh2, (fun q0 r0 => (fun ⟨g9, e, h⟩ => ⟨g9, e, h.kept hs9.grown⟩) (hh3 q0 r0)), hh4, hh5, (fun q0 r0 => (fun ⟨g9, e, h⟩ => ⟨g9, e, h.kept hs9.grown⟩) (hh6 q0 r0)), fun _ => ⟨_, rfl, hz9⟩, hh8, hh9, hh10, hh11, (fun q0 r0 => (fun ⟨g9, e, y1, y2, y3, hy, h⟩ => ⟨g9, e, y1, y2, y3, hy, h.kept hs9.grown⟩) (hh12 q0 r0)), (fun q0 r0 => (fun ⟨y1, y2, y3, g6, c6, e, hy, h⟩ => ⟨y1, y2, y3, g6, c6, e, hy, h.kept hs9.grown (by omega) hgb hgb3⟩) (hh13 q0 r0)), hh14, (fun q0 => (fun ⟨y1, y2, y3, g6, c6, e, hy, h⟩ => ⟨y1, y2, y3, g6, c6, e, hy, h.kept hs9.grown (by omega) hgb hgb3⟩) (hh15 q0)), fun q0 => (hx0 q0).kept hs9.grown (by omega) hgb hgb3, fun _ => ((hx1 trivial).then hs9 q90 q91).mono (by simp [hL] <;> omega), hx2, hx3, fun _ => rfl, hx5, fun _ => rfl, fun _ => hdep ⟨4, .chain⟩ (by simp) rfl, hx8⟩
          · -- operation 8
            cases ho
            go_simp
            exact hK _ _ ⟨_, _, _, _, _, _, _, _, _, _, _, _, _, _, _, rfl, hB, hh0, hh1, hh2, hh3, hh4, hh5, hh6, hh7, fun _ => rfl, hh9, hh10, hh11, hh12, hh13, hh14, hh15, hx0, hx1, hx2, hx3, hx4, hx5, hx6, hx7, hx8⟩
          · -- operation 9
            cases ho
            have hT : Fl9 13 = false := Bool.eq_false_iff.2 (fun h => absurd (hx5 h) (by rw [hL]; simp))
            have hbn4 := bN (Fl9 4)
            have hbn7 := bN (Fl9 7)
            have hbn9 := bN (Fl9 9)
            obtain rfl := hh8 (hdep ⟨8, .data⟩ (by simp) rfl)
            obtain ⟨q9, q90, q91, H9⟩ := (hx1 trivial).at H.out
            go_simp
            refine (pick_at H9 (by omega) 20 (by omega)).mono ?_
            rintro e w9 ⟨z9, hb90, hb91, rfl, hs9⟩
            exact hK _ _ ⟨_, _, _, _, _, _, _, _, _, _, _, _, _, _, _, rfl, hB.trans ((UpW.grown hs9.grown).mono hB.size), hh0, hh1, hh2, (fun q0 r0 => (fun ⟨g9, e, h⟩ => ⟨g9, e, h.kept hs9.grown⟩) (hh3 q0 r0)), hh4, hh5, (fun q0 r0 => (fun ⟨g9, e, h⟩ => ⟨g9, e, h.kept hs9.grown⟩) (hh6 q0 r0)), hh7, hh8, fun _ => ⟨_, rfl, hb90, by omega⟩, hh10, hh11, (fun q0 r0 => (fun ⟨g9, e, y1, y2, y3, hy, h⟩ => ⟨g9, e, y1, y2, y3, hy, h.kept hs9.grown⟩) (hh12 q0 r0)), (fun q0 r0 => (fun ⟨y1, y2, y3, g6, c6, e, hy, h⟩ => ⟨y1, y2, y3, g6, c6, e, hy, h.kept hs9.grown (by omega) hgb hgb3⟩) (hh13 q0 r0)), hh14, (fun q0 => (fun ⟨y1, y2, y3, g6, c6, e, hy, h⟩ => ⟨y1, y2, y3, g6, c6, e, hy, h.kept hs9.grown (by omega) hgb hgb3⟩) (hh15 q0)), fun q0 => (hx0 q0).kept hs9.grown (by omega) hgb hgb3, fun _ => ((hx1 trivial).then hs9 q90 q91).mono (by simp [hL] <;> omega), hx2, hx3, hx4, fun _ => rfl, fun _ => hdep ⟨7, .chain⟩ (by simp) rfl, hx7, hx8⟩
          · -- operation 10
            cases ho
            obtain ⟨z34, rfl, hz34⟩ := hh9 (hdep ⟨9, .data⟩ (by simp) rfl)
            go_simp
            exact hK _ _ ⟨_, _, _, _, _, _, _, _, _, _, _, _, _, _, _, rfl, hB, hh0, hh1, hh2, hh3, hh4, hh5, hh6, hh7, hh8, hh9, fun _ => ⟨_, rfl⟩, hh11, hh12, hh13, hh14, hh15, hx0, hx1, hx2, hx3, hx4, hx5, hx6, hx7, hx8⟩
          · -- operation 11
            cases ho
            obtain ⟨z29, rfl, hz29⟩ := hh4 (hdep ⟨4, .data⟩ (by simp) rfl)
            obtain ⟨z32, rfl, hz32⟩ := hh7 (hdep ⟨7, .data⟩ (by simp) rfl)
            obtain ⟨z35, rfl⟩ := hh10 (hdep ⟨10, .data⟩ (by simp) rfl)
            go_simp
            exact hK _ _ ⟨_, _, _, _, _, _, _, _, _, _, _, _, _, _, _, rfl, hB, hh0, hh1, hh2, hh3, hh4, hh5, hh6, hh7, hh8, hh9, hh10, fun _ => ⟨_, _, _, rfl, mem5 hz29⟩, hh12, hh13, hh14, hh15, hx0, hx1, hx2, hx3, hx4, hx5, hx6, hx7, hx8⟩
          · -- operation 12
            cases ho
            have hd11 := hdep ⟨11, .data⟩ (by simp) rfl
            obtain ⟨y1, y2, y3, rfl, hy1⟩ := hh11 hd11
            go_simp
            exact hK _ _ ⟨_, _, _, _, _, _, _, _, _, _, _, _, _, _, _, rfl, hB.trans ((UpW.of (Below.alloc (Below.refl W.heap.size W) (Nat.le_refl _) _)).mono hB.size), hh0, hh1, hh2, fun q0 r0 => (fun ⟨g9, e, h⟩ => ⟨g9, e, h.below (Below.alloc (Below.refl W.heap.size W) (Nat.le_refl _) _)⟩) (hh3 q0 r0), hh4, hh5, fun q0 r0 => (fun ⟨g9, e, h⟩ => ⟨g9, e, h.below (Below.alloc (Below.refl W.heap.size W) (Nat.le_refl _) _)⟩) (hh6 q0 r0), hh7, hh8, hh9, hh10, hh11, fun _ _ => ⟨_, rfl, _, _, _, hy1, LstS.new W _ _ (hx1 trivial).lt⟩, fun q0 r0 => (fun ⟨y1, y2, y3, g6, c6, e, hy, h⟩ => ⟨y1, y2, y3, g6, c6, e, hy, h.below (Below.alloc (Below.refl W.heap.size W) (Nat.le_refl _) _)⟩) (hh13 q0 r0), hh14, fun q0 => (fun ⟨y1, y2, y3, g6, c6, e, hy, h⟩ => ⟨y1, y2, y3, g6, c6, e, hy, h.below (Below.alloc (Below.refl W.heap.size W) (Nat.le_refl _) _)⟩) (hh15 q0), fun q0 => (fun h => h.below (Below.alloc (Below.refl W.heap.size W) (Nat.le_refl _) _)) (hx0 q0), fun q0 => (fun h => h.on (Below.alloc (Below.refl W.heap.size W) (Nat.le_refl _) _)) (hx1 q0), hx2, hx3, hx4, hx5, hx6, hx7, hx8⟩
          · -- operation 13
            cases ho
            have hp1 := hdep ⟨1, .data⟩ (by simp) rfl
            have hp9 := hdep ⟨9, .chain⟩ (by simp) rfl
            have hp7 := hx6 hp9
            have hp4 := hx7 hp7
            obtain rfl := hh1 hp1
            obtain ⟨g9, rfl, y1, y2, y3, hy1, hl9⟩ := hh12 (hdep ⟨12, .data⟩ (by simp) rfl) hL
            refine step_append1 rfl (.tmp 26) (.tmp 37) 24 rfl w.heap.size 83 j0 (.agg #[.int .i64 0, .int .i64 0, .int .i64 0]) 3 24 Try.underlying24 hj jz0 jz1 jz2 rfl (by decide) _ nR _ rfl (hx0 hL).r ⟨g9, 0, none⟩ 1 [.int .i64 y1, .int .i64 y2, .int .i64 y3] rfl rfl hl9.cells (by simp [Value.oneCell']) (by unfold maxLen; omega) (by omega) (hx1 trivial).grown.size ?_
            intro g6 c6 w9 hg6 hown hgr
            exact hK _ _ ⟨_, _, _, _, _, _, _, _, _, _, _, _, _, _, _, rfl, hB.trans ((UpW.grown hgr).mono hB.size), hh0, hh1, hh2, (fun _ q0 => nomatch q0), hh4, hh5, (fun _ q0 => nomatch q0), hh7, hh8, hh9, hh10, hh11, (fun _ q0 => nomatch q0), fun _ => fun _ => ⟨y1, y2, y3, g6, c6, rfl, hy1, (hx0 hL).appR hgr (by rw [flat_appW]; exact hown)⟩, hh14, (fun q0 => absurd (hx8 q0) (by rw [hL]; simp)), (fun q0 => nomatch q0), fun _ => (hx1 trivial).row hgr (hx0 hL).r hgl, fun _ => hp1, fun _ => hp4, fun _ => hp7, fun _ => hp9, hx6, hx7, fun _ => rfl⟩
          · -- operation 14
            cases ho
            go_simp
            exact hK _ _ ⟨_, _, _, _, _, _, _, _, _, _, _, _, _, _, _, rfl, hB, hh0, hh1, hh2, hh3, hh4, hh5, hh6, hh7, hh8, hh9, hh10, hh11, hh12, hh13, fun _ => rfl, hh15, hx0, hx1, hx2, hx3, hx4, hx5, hx6, hx7, hx8⟩
          · -- operation 15
            cases ho
            have hdT := hdep ⟨13, .data⟩ (by simp) rfl
            obtain ⟨y1, y2, y3, g6, c6, rfl, hy1, hw9⟩ := hh13 hdT hL
            obtain rfl := hh14 (hdep ⟨14, .data⟩ (by simp) rfl)
            have fz := hw9.f0
            have cc := hw9.c0
            go_simp
            exact hK _ _ ⟨_, _, _, _, _, _, _, _, _, _, _, _, _, _, _, rfl, hB.set _ _, hh0, (fun _ => rfl), hh2, (fun _ q0 => absurd (hdT.symm.trans q0) (by simp)), hh4, hh5, (fun _ q0 => absurd (hdT.symm.trans q0) (by simp)), hh7, hh8, hh9, hh10, hh11, (fun _ q0 => absurd (hdT.symm.trans q0) (by simp)), (fun _ q0 => nomatch q0), hh14, fun _ => ⟨y1, y2, y3, g6, c6, rfl, hy1, hw9.putR hne03⟩, (fun q0 => absurd (hdT.symm.trans q0) (by simp)), fun _ => (hx1 trivial).own (grown_setW _ _ _ _) hgb3 (by omega), hx2, hx3, hx4, hx5, hx6, hx7, fun _ => hdT⟩
        intro Fl9 ac W hJ hall
        obtain ⟨x25, x26, x27, x28, x29, x30, x31, x32, x33, x34, x35, x36, x37, x38, x39, rfl, hB, hh0, hh1, hh2, hh3, hh4, hh5, hh6, hh7, hh8, hh9, hh10, hh11, hh12, hh13, hh14, hh15, -, hcs9, -, -, -, -, -, -, -⟩ := hJ
        obtain rfl := hh0 (hall 0 (by decide))
        obtain rfl := hh1 (hall 1 (by decide))
        obtain rfl := hh2 (hall 2 (by decide))
        obtain rfl := hh5 (hall 5 (by decide))
        obtain rfl := hh8 (hall 8 (by decide))
        obtain rfl := hh14 (hall 14 (by decide))
        obtain - := hh3 (hall 3 (by decide))
        obtain - := hh4 (hall 4 (by decide))
        obtain - := hh6 (hall 6 (by decide))
        obtain - := hh7 (hall 7 (by decide))
        obtain - := hh9 (hall 9 (by decide))
        obtain - := hh10 (hall 10 (by decide))
        obtain - := hh11 (hall 11 (by decide))
        obtain - := hh12 (hall 12 (by decide))
        obtain - := hh13 (hall 13 (by decide))
        obtain ⟨y1, y2, y3, g6, c6, rfl, hy1, P7⟩ := hh15 (hall 15 (by decide))
        clear hall
        have S7 : Hid (CurStep w W g A n c p (D9 + 6)) := Lib.hid ((hcs9 trivial).mono (by have := bN (Fl9 4); have := bN (Fl9 7); have := bN (Fl9 9); omega))
        have P7 := Lib.hid P7
        have HOK5 := Lib.hid (HOK.out.add (y := y2) (z := y3) hy1)
        have hR5 : (R ++ [(y1, y2, y3)]).length = nR + 1 := by rw [List.length_append, hRl]; rfl
        clear hcs9 hB
        go_wp2_with fail
        go_roundw
        case rel => exact ⟨k, _, _, _, _, _, _, _, _, by omega, by go_num, by omega, hq4, by omega, hR5, hZ5, fun _ => ⟨_, rfl⟩, HOK5, P7, Lib.hid (S7.out.mono (by have := HDQ.out; have := HD9.out; push_cast at *; omega))⟩
        case measure => simp [intOf]
      · have hn1 : ¬ (0 : Int) < (nR : Int) := by omega
        go_wp2_with fail
        clear C0
        have hq4 : nZ ≤ nR + 1 := by omega
        have P6 := P6
        have S7 := S6
        obtain ⟨WR, hWR⟩ : ∃ x, x = wr := ⟨_, rfl⟩
        subst hWR
        obtain ⟨D9, hDq⟩ : ∃ d : Int, d = D9 := ⟨_, rfl⟩
        have S6 : Hid (CurStep w WR g A n c p D9) := Lib.hid (by rw [hDq]; exact S7.out)
        clear S7
        have HDQ := Lib.hid hDq
        have hD70 : D9 ≤ 70 := by omega
        clear hDq
        refine region_inv (by kernel_rfl) (by kernel_rfl) (fun Fl9 ac W => ∃ (x25 x26 x27 x28 x29 x30 x31 x32 x33 x34 x35 x36 x37 x38 x39 : Value), ac = { tmps := #[Value.pointer (some ⟨g, 0, none⟩), undef, Value.pointer (some ⟨b0, 0, none⟩), Value.pointer (some ⟨b3, 0, none⟩), Value.int IntKind.i64 ((k : Int) + 1), Value.agg #[Value.slice none 0 0, Value.slice none 0 0], Value.pointer (some ⟨g, 0, none⟩), Value.int IntKind.i64 (k6 : Int), Value.int IntKind.i64 (1 + (k6 : Int)), Value.int IntKind.i64 ((k : Int) + 1), Value.bool true, u11, u12, Value.pointer (some ⟨b3, 0, none⟩), Value.slice A1 nR c1, Value.int IntKind.i64 (nR : Int), Value.bool false, u17, u18, u19, u20, u21, u22, u23, u24, x25, x26, x27, x28, x29, x30, x31, x32, x33, x34, x35, x36, x37, x38, x39, undef], defers := [] } ∧ UpW WR.heap.size WR W ∧
              (Fl9 0 = true → x25 = .pointer (some ⟨b3, 0, none⟩)) ∧
              (Fl9 1 = true → x26 = .slice A1 nR c1) ∧
              (Fl9 2 = true → x27 = .pointer (some ⟨g, 0, none⟩)) ∧
              (Fl9 3 = true → Fl9 13 = false → ∃ g9, x28 = .slice (some ⟨g9, 0, none⟩) 5 5 ∧ LstS W g g9 (([1, 2, 5, 10, 100] : List Int).map (.int .i64))) ∧
              (Fl9 4 = true → ∃ z9 : Int, x29 = .int .i64 z9 ∧ z9 ∈ ([1, 2, 5, 10, 100] : List Int)) ∧
              (Fl9 5 = true → x30 = .pointer (some ⟨g, 0, none⟩)) ∧
              (Fl9 6 = true → Fl9 13 = false → ∃ g9, x31 = .slice (some ⟨g9, 0, none⟩) 4 4 ∧ LstS W g g9 (([100, 250, 300, 900] : List Int).map (.int .i64))) ∧
              (Fl9 7 = true → ∃ z9 : Int, x32 = .int .i64 z9 ∧ z9 ∈ ([100, 250, 300, 900] : List Int)) ∧
              (Fl9 8 = true → x33 = .pointer (some ⟨g, 0, none⟩)) ∧
              (Fl9 9 = true → ∃ z9 : Int, x34 = .int .i64 z9 ∧ 0 ≤ z9 ∧ z9 ≤ 19) ∧
              (Fl9 10 = true → ∃ z9 : Int, x35 = .int .i64 z9) ∧
              (Fl9 11 = true → ∃ y1 y2 y3 : Int, x36 = .agg #[.int .i64 y1, .int .i64 y2, .int .i64 y3] ∧ (0 ≤ y1 ∧ y1 ≤ 101)) ∧
              (Fl9 12 = true → Fl9 13 = false → ∃ g9, x37 = .slice (some ⟨g9, 0, none⟩) 1 1 ∧ ∃ y1 y2 y3 : Int, (0 ≤ y1 ∧ y1 ≤ 101) ∧ LstS W g g9 [.int .i64 y1, .int .i64 y2, .int .i64 y3]) ∧
              (Fl9 13 = true → Fl9 15 = false → ∃ (y1 y2 y3 : Int) (g6 c6 : Nat), x38 = (.slice (some ⟨g6, 0, none⟩) (nR + 1) c6) ∧ ((0 ≤ y1 ∧ y1 ≤ 101) ∧ WyS w.heap.size W b0 b3 (.slice A1 nR c1) (.slice A2 nZ c2) (.slice (some ⟨g6, 0, none⟩) (nR + 1) c6) (.slice A2 nZ c2) (nR + 1) nZ (R ++ [(y1, y2, y3)]) Z)) ∧
              (Fl9 14 = true → x39 = .pointer (some ⟨b3, 0, none⟩)) ∧
              (Fl9 15 = true → ∃ (y1 y2 y3 : Int) (g6 c6 : Nat), x38 = (.slice (some ⟨g6, 0, none⟩) (nR + 1) c6) ∧ ((0 ≤ y1 ∧ y1 ≤ 101) ∧ WyS w.heap.size W b0 b3 (.slice (some ⟨g6, 0, none⟩) (nR + 1) c6) (.slice A2 nZ c2) (.slice (some ⟨g6, 0, none⟩) (nR + 1) c6) (.slice A2 nZ c2) (nR + 1) nZ (R ++ [(y1, y2, y3)]) Z)) ∧
              (Fl9 13 = false → WyS w.heap.size W b0 b3 (.slice A1 nR c1) (.slice A2 nZ c2) (.slice A1 nR c1) (.slice A2 nZ c2) nR nZ R Z) ∧
              (True → CurStep w W g A n c p (D9 + 2 * (((Fl9 4).toNat : Int) + ((Fl9 7).toNat : Int) + ((Fl9 9).toNat : Int)))) ∧
              (Fl9 13 = true → Fl9 1 = true) ∧
              (Fl9 13 = true → Fl9 4 = true) ∧
              (Fl9 13 = true → Fl9 7 = true) ∧
              (Fl9 13 = true → Fl9 9 = true) ∧
              (Fl9 9 = true → Fl9 7 = true) ∧
              (Fl9 7 = true → Fl9 4 = true) ∧
              (Fl9 15 = true → Fl9 13 = true)) ?_ ?_ ?_
        · exact ⟨_, _, _, _, _, _, _, _, _, _, _, _, _, _, _, rfl, UpW.of ((Drawn.one WR 1).below _), (fun q0 => nomatch q0), (fun q0 => nomatch q0), (fun q0 => nomatch q0), (fun q0 => nomatch q0), (fun q0 => nomatch q0), (fun q0 => nomatch q0), (fun q0 => nomatch q0), (fun q0 => nomatch q0), (fun q0 => nomatch q0), (fun q0 => nomatch q0), (fun q0 => nomatch q0), (fun q0 => nomatch q0), (fun q0 => nomatch q0), (fun q0 => nomatch q0), (fun q0 => nomatch q0), (fun q0 => nomatch q0), (fun _ => P6.out.below ((Drawn.one WR 1).below _)), (fun _ => (S6.out.on ((Drawn.one WR 1).below _)).mono (by simp)), (fun q0 => nomatch q0), (fun q0 => nomatch q0), (fun q0 => nomatch q0), (fun q0 => nomatch q0), (fun q0 => nomatch q0), (fun q0 => nomatch q0), (fun q0 => nomatch q0)⟩
        · intro Fl9 ac W i9 o9 hJ ho hL hdep K9 hK
          obtain ⟨x25, x26, x27, x28, x29, x30, x31, x32, x33, x34, x35, x36, x37, x38, x39, rfl, hB, hh0, hh1, hh2, hh3, hh4, hh5, hh6, hh7, hh8, hh9, hh10, hh11, hh12, hh13, hh14, hh15, hx0, hx1, hx2, hx3, hx4, hx5, hx6, hx7, hx8⟩ := hJ
          have hi9 : i9 < 16 := by simpa using (Array.getElem?_eq_some_iff.1 ho).1
          obtain rfl | rfl | rfl | rfl | rfl | rfl | rfl | rfl | rfl | rfl | rfl | rfl | rfl | rfl | rfl | rfl : i9 = 0 ∨ i9 = 1 ∨ i9 = 2 ∨ i9 = 3 ∨ i9 = 4 ∨ i9 = 5 ∨ i9 = 6 ∨ i9 = 7 ∨ i9 = 8 ∨ i9 = 9 ∨ i9 = 10 ∨ i9 = 11 ∨ i9 = 12 ∨ i9 = 13 ∨ i9 = 14 ∨ i9 = 15 := by omega
          · -- operation 0
            cases ho
            go_simp
            exact hK _ _ ⟨_, _, _, _, _, _, _, _, _, _, _, _, _, _, _, rfl, hB, fun _ => rfl, hh1, hh2, hh3, hh4, hh5, hh6, hh7, hh8, hh9, hh10, hh11, hh12, hh13, hh14, hh15, hx0, hx1, hx2, hx3, hx4, hx5, hx6, hx7, hx8⟩
          · -- operation 1
            cases ho
            obtain rfl := hh0 (hdep ⟨0, .data⟩ (by simp) rfl)
            have hT : Fl9 13 = false := Bool.eq_false_iff.2 (fun h => absurd (hx2 h) (by rw [hL]; simp))
            have C9 := (hx0 hT).c0
            go_simp
            exact hK _ _ ⟨_, _, _, _, _, _, _, _, _, _, _, _, _, _, _, rfl, hB, hh0, fun _ => rfl, hh2, hh3, hh4, hh5, hh6, hh7, hh8, hh9, hh10, hh11, hh12, hh13, hh14, hh15, hx0, hx1, fun _ => rfl, hx3, hx4, hx5, hx6, hx7, hx8⟩
          · -- operation 2
            cases ho
            go_simp
            exact hK _ _ ⟨_, _, _, _, _, _, _, _, _, _, _, _, _, _, _, rfl, hB, hh0, hh1, fun _ => rfl, hh3, hh4, hh5, hh6, hh7, hh8, hh9, hh10, hh11, hh12, hh13, hh14, hh15, hx0, hx1, hx2, hx3, hx4, hx5, hx6, hx7, hx8⟩
          · -- operation 3
            cases ho
            go_simp
            exact hK _ _ ⟨_, _, _, _, _, _, _, _, _, _, _, _, _, _, _, rfl, hB.trans ((UpW.of (Below.alloc (Below.refl W.heap.size W) (Nat.le_refl _) _)).mono hB.size), hh0, hh1, hh2, fun _ _ => ⟨_, rfl, LstS.new W _ _ (hx1 trivial).lt⟩, hh4, hh5, fun q0 r0 => (fun ⟨g9, e, h⟩ => ⟨g9, e, h.below (Below.alloc (Below.refl W.heap.size W) (Nat.le_refl _) _)⟩) (hh6 q0 r0), hh7, hh8, hh9, hh10, hh11, fun q0 r0 => (fun ⟨g9, e, y1, y2, y3, hy, h⟩ => ⟨g9, e, y1, y2, y3, hy, h.below (Below.alloc (Below.refl W.heap.size W) (Nat.le_refl _) _)⟩) (hh12 q0 r0), fun q0 r0 => (fun ⟨y1, y2, y3, g6, c6, e, hy, h⟩ => ⟨y1, y2, y3, g6, c6, e, hy, h.below (Below.alloc (Below.refl W.heap.size W) (Nat.le_refl _) _)⟩) (hh13 q0 r0), hh14, fun q0 => (fun ⟨y1, y2, y3, g6, c6, e, hy, h⟩ => ⟨y1, y2, y3, g6, c6, e, hy, h.below (Below.alloc (Below.refl W.heap.size W) (Nat.le_refl _) _)⟩) (hh15 q0), fun q0 => (fun h => h.below (Below.alloc (Below.refl W.heap.size W) (Nat.le_refl _) _)) (hx0 q0), fun q0 => (fun h => h.on (Below.alloc (Below.refl W.heap.size W) (Nat.le_refl _) _)) (hx1 q0), hx2, hx3, hx4, hx5, hx6, hx7, hx8⟩
          · -- operation 4
            cases ho
            have hT : Fl9 13 = false := Bool.eq_false_iff.2 (fun h => absurd (hx3 h) (by rw [hL]; simp))
            have hbn4 := bN (Fl9 4)
            have hbn7 := bN (Fl9 7)
            have hbn9 := bN (Fl9 9)
            obtain ⟨g9, rfl, hl9⟩ := hh3 (hdep ⟨3, .data⟩ (by simp) rfl) hT
            obtain rfl := hh2 (hdep ⟨2, .data⟩ (by simp) rfl)
            obtain ⟨q9, q90, q91, H9⟩ := (hx1 trivial).at H.out
            go_simp
            refine (amongN_at H9 (by omega) g9 5 5 [1, 2, 5, 10, 100] rfl (by omega) (by omega) hl9.nums hl9.ne).mono ?_
            rintro e w9 ⟨z9, hz9, rfl, hs9⟩
            exact hK _ _ ⟨_, _, _, _, _, _, _, _, _, _, _, _, _, _, _, rfl, hB.trans ((UpW.grown hs9.grown).mono hB.size), hh0, hh1, hh2, (fun q0 r0 => (fun ⟨g9, e, h⟩ => ⟨g9, e, h.kept hs9.grown⟩) (hh3 q0 r0)), fun _ => ⟨_, rfl, hz9⟩, hh5, (fun q0 r0 => (fun ⟨g9, e, h⟩ => ⟨g9, e, h.kept hs9.grown⟩) (hh6 q0 r0)), hh7, hh8, hh9, hh10, hh11, (fun q0 r0 => (fun ⟨g9, e, y1, y2, y3, hy, h⟩ => ⟨g9, e, y1, y2, y3, hy, h.kept hs9.grown⟩) (hh12 q0 r0)), (fun q0 r0 => (fun ⟨y1, y2, y3, g6, c6, e, hy, h⟩ => ⟨y1, y2, y3, g6, c6, e, hy, h.kept hs9.grown (by omega) hgb hgb3⟩) (hh13 q0 r0)), hh14, (fun q0 => (fun ⟨y1, y2, y3, g6, c6, e, hy, h⟩ => ⟨y1, y2, y3, g6, c6, e, hy, h.kept hs9.grown (by omega) hgb hgb3⟩) (hh15 q0)), fun q0 => (hx0 q0).kept hs9.grown (by omega) hgb hgb3, fun _ => ((hx1 trivial).then hs9 q90 q91).mono (by simp [hL] <;> omega), hx2, fun _ => rfl, hx4, hx5, hx6, fun _ => rfl, hx8⟩
          · -- operation 5
            cases ho
            go_simp
            exact hK _ _ ⟨_, _, _, _, _, _, _, _, _, _, _, _, _, _, _, rfl, hB, hh0, hh1, hh2, hh3, hh4, fun _ => rfl, hh6, hh7, hh8, hh9, hh10, hh11, hh12, hh13, hh14, hh15, hx0, hx1, hx2, hx3, hx4, hx5, hx6, hx7, hx8⟩
          · -- operation 6
            cases ho
            go_simp
            exact hK _ _ ⟨_, _, _, _, _, _, _, _, _, _, _, _, _, _, _, rfl, hB.trans ((UpW.of (Below.alloc (Below.refl W.heap.size W) (Nat.le_refl _) _)).mono hB.size), hh0, hh1, hh2, fun q0 r0 => (fun ⟨g9, e, h⟩ => ⟨g9, e, h.below (Below.alloc (Below.refl W.heap.size W) (Nat.le_refl _) _)⟩) (hh3 q0 r0), hh4, hh5, fun _ _ => ⟨_, rfl, LstS.new W _ _ (hx1 trivial).lt⟩, hh7, hh8, hh9, hh10, hh11, fun q0 r0 => (fun ⟨g9, e, y1, y2, y3, hy, h⟩ => ⟨g9, e, y1, y2, y3, hy, h.below (Below.alloc (Below.refl W.heap.size W) (Nat.le_refl _) _)⟩) (hh12 q0 r0), fun q0 r0 => (fun ⟨y1, y2, y3, g6, c6, e, hy, h⟩ => ⟨y1, y2, y3, g6, c6, e, hy, h.below (Below.alloc (Below.refl W.heap.size W) (Nat.le_refl _) _)⟩) (hh13 q0 r0), hh14, fun q0 => (fun ⟨y1, y2, y3, g6, c6, e, hy, h⟩ => ⟨y1, y2, y3, g6, c6, e, hy, h.below (Below.alloc (Below.refl W.heap.size W) (Nat.le_refl _) _)⟩) (hh15 q0), fun q0 => (fun h => h.below (Below.alloc (Below.refl W.heap.size W) (Nat.le_refl _) _)) (hx0 q0), fun q0 => (fun h => h.on (Below.alloc (Below.refl W.heap.size W) (Nat.le_refl _) _)) (hx1 q0), hx2, hx3, hx4, hx5, hx6, hx7, hx8⟩
          · -- operation 7
            cases ho
            have hT : Fl9 13 = false := Bool.eq_false_iff.2 (fun h => absurd (hx4 h) (by rw [hL]; simp))
            have hbn4 := bN (Fl9 4)
            have hbn7 := bN (Fl9 7)
            have hbn9 := bN (Fl9 9)
            obtain ⟨g9, rfl, hl9⟩ := hh6 (hdep ⟨6, .data⟩ (by simp) rfl) hT
            obtain rfl := hh5 (hdep ⟨5, .data⟩ (by simp) rfl)
            obtain ⟨q9, q90, q91, H9⟩ := (hx1 trivial).at H.out
            go_simp
            refine (amongN_at H9 (by omega) g9 4 4 [100, 250, 300, 900] rfl (by omega) (by omega) hl9.nums hl9.ne).mono ?_
            rintro e w9 ⟨z9, hz9, rfl, hs9⟩
            exact hK _ _ ⟨_, _, _, _, _, _, _, _, _, _, _, _, _, _, _, rfl, hB.trans ((UpW.grown hs9.grown).mono hB.size), hh0, hh1, hh2, (fun q0 r0 => (fun ⟨g9, e, h⟩ => ⟨g9, e, h.kept hs9.grown⟩) (hh3 q0 r0)), hh4, hh5, (fun q0 r0 => (fun ⟨g9, e, h⟩ => ⟨g9, e, h.kept hs9.grown⟩) (hh6 q0 r0)), fun _ => ⟨_, rfl, hz9⟩, hh8, hh9, hh10, hh11, (fun q0 r0 => (fun ⟨g9, e, y1, y2, y3, hy, h⟩ => ⟨g9, e, y1, y2, y3, hy, h.kept hs9.grown⟩) (hh12 q0 r0)), (fun q0 r0 => (fun ⟨y1, y2, y3, g6, c6, e, hy, h⟩ => ⟨y1, y2, y3, g6, c6, e, hy, h.kept hs9.grown (by omega) hgb hgb3⟩) (hh13 q0 r0)), hh14, (fun q0 => (fun ⟨y1, y2, y3, g6, c6, e, hy, h⟩ => ⟨y1, y2, y3, g6, c6, e, hy, h.kept hs9.grown (by omega) hgb hgb3⟩) (hh15 q0)), fun q0 => (hx0 q0).kept hs9.grown (by omega) hgb hgb3, fun _ => ((hx1 trivial).then hs9 q90 q91).mono (by simp [hL] <;> omega), hx2, hx3, fun _ => rfl, hx5, fun _ => rfl, fun _ => hdep ⟨4, .chain⟩ (by simp) rfl, hx8⟩
          · -- operation 8
            cases ho
            go_simp
            exact hK _ _ ⟨_, _, _, _, _, _, _, _, _, _, _, _, _, _, _, rfl, hB, hh0, hh1, hh2, hh3, hh4, hh5, hh6, hh7, fun _ => rfl, hh9, hh10, hh11, hh12, hh13, hh14, hh15, hx0, hx1, hx2, hx3, hx4, hx5, hx6, hx7, hx8⟩
          · -- operation 9
            cases ho
            have hT : Fl9 13 = false := Bool.eq_false_iff.2 (fun h => absurd (hx5 h) (by rw [hL]; simp))
            have hbn4 := bN (Fl9 4)
            have hbn7 := bN (Fl9 7)
            have hbn9 := bN (Fl9 9)
            obtain rfl := hh8 (hdep ⟨8, .data⟩ (by simp) rfl)
            obtain ⟨q9, q90, q91, H9⟩ := (hx1 trivial).at H.out
            go_simp
            refine (pick_at H9 (by omega) 20 (by omega)).mono ?_
            rintro e w9 ⟨z9, hb90, hb91, rfl, hs9⟩
            exact hK _ _ ⟨_, _, _, _, _, _, _, _, _, _, _, _, _, _, _, rfl, hB.trans ((UpW.grown hs9.grown).mono hB.size), hh0, hh1, hh2, (fun q0 r0 => (fun ⟨g9, e, h⟩ => ⟨g9, e, h.kept hs9.grown⟩) (hh3 q0 r0)), hh4, hh5, (fun q0 r0 => (fun ⟨g9, e, h⟩ => ⟨g9, e, h.kept hs9.grown⟩) (hh6 q0 r0)), hh7, hh8, fun _ => ⟨_, rfl, hb90, by omega⟩, hh10, hh11, (fun q0 r0 => (fun ⟨g9, e, y1, y2, y3, hy, h⟩ => ⟨g9, e, y1, y2, y3, hy, h.kept hs9.grown⟩) (hh12 q0 r0)), (fun q0 r0 => (fun ⟨y1, y2, y3, g6, c6, e, hy, h⟩ => ⟨y1, y2, y3, g6, c6, e, hy, h.kept hs9.grown (by omega) hgb hgb3⟩) (hh13 q0 r0)), hh14, (fun q0 => (fun ⟨y1, y2, y3, g6, c6, e, hy, h⟩ => ⟨y1, y2, y3, g6, c6, e, hy, h.kept hs9.grown (by omega) hgb hgb3⟩) (hh15 q0)), fun q0 => (hx0 q0).kept hs9.grown (by omega) hgb hgb3, fun _ => ((hx1 trivial).then hs9 q90 q91).mono (by simp [hL] <;> omega), hx2, hx3, hx4, fun _ => rfl, fun _ => hdep ⟨7, .chain⟩ (by simp) rfl, hx7, hx8⟩
          · -- operation 10
            cases ho
            obtain ⟨z34, rfl, hz34⟩ := hh9 (hdep ⟨9, .data⟩ (by simp) rfl)
            go_simp
            exact hK _ _ ⟨_, _, _, _, _, _, _, _, _, _, _, _, _, _, _, rfl, hB, hh0, hh1, hh2, hh3, hh4, hh5, hh6, hh7, hh8, hh9, fun _ => ⟨_, rfl⟩, hh11, hh12, hh13, hh14, hh15, hx0, hx1, hx2, hx3, hx4, hx5, hx6, hx7, hx8⟩
          · -- operation 11
            cases ho
            obtain ⟨z29, rfl, hz29⟩ := hh4 (hdep ⟨4, .data⟩ (by simp) rfl)
            obtain ⟨z32, rfl, hz32⟩ := hh7 (hdep ⟨7, .data⟩ (by simp) rfl)
            obtain ⟨z35, rfl⟩ := hh10 (hdep ⟨10, .data⟩ (by simp) rfl)
            go_simp
            exact hK _ _ ⟨_, _, _, _, _, _, _, _, _, _, _, _, _, _, _, rfl, hB, hh0, hh1, hh2, hh3, hh4, hh5, hh6, hh7, hh8, hh9, hh10, fun _ => ⟨_, _, _, rfl, mem5 hz29⟩, hh12, hh13, hh14, hh15, hx0, hx1, hx2, hx3, hx4, hx5, hx6, hx7, hx8⟩
          · -- operation 12
            cases ho
            have hd11 := hdep ⟨11, .data⟩ (by simp) rfl
            obtain ⟨y1, y2, y3, rfl, hy1⟩ := hh11 hd11
            go_simp
            exact hK _ _ ⟨_, _, _, _, _, _, _, _, _, _, _, _, _, _, _, rfl, hB.trans ((UpW.of (Below.alloc (Below.refl W.heap.size W) (Nat.le_refl _) _)).mono hB.size), hh0, hh1, hh2, fun q0 r0 => (fun ⟨g9, e, h⟩ => ⟨g9, e, h.below (Below.alloc (Below.refl W.heap.size W) (Nat.le_refl _) _)⟩) (hh3 q0 r0), hh4, hh5, fun q0 r0 => (fun ⟨g9, e, h⟩ => ⟨g9, e, h.below (Below.alloc (Below.refl W.heap.size W) (Nat.le_refl _) _)⟩) (hh6 q0 r0), hh7, hh8, hh9, hh10, hh11, fun _ _ => ⟨_, rfl, _, _, _, hy1, LstS.new W _ _ (hx1 trivial).lt⟩, fun q0 r0 => (fun ⟨y1, y2, y3, g6, c6, e, hy, h⟩ => ⟨y1, y2, y3, g6, c6, e, hy, h.below (Below.alloc (Below.refl W.heap.size W) (Nat.le_refl _) _)⟩) (hh13 q0 r0), hh14, fun q0 => (fun ⟨y1, y2, y3, g6, c6, e, hy, h⟩ => ⟨y1, y2, y3, g6, c6, e, hy, h.below (Below.alloc (Below.refl W.heap.size W) (Nat.le_refl _) _)⟩) (hh15 q0), fun q0 => (fun h => h.below (Below.alloc (Below.refl W.heap.size W) (Nat.le_refl _) _)) (hx0 q0), fun q0 => (fun h => h.on (Below.alloc (Below.refl W.heap.size W) (Nat.le_refl _) _)) (hx1 q0), hx2, hx3, hx4, hx5, hx6, hx7, hx8⟩
          · -- operation 13
            cases ho
            have hp1 := hdep ⟨1, .data⟩ (by simp) rfl
            have hp9 := hdep ⟨9, .chain⟩ (by simp) rfl
            have hp7 := hx6 hp9
            have hp4 := hx7 hp7
            obtain rfl := hh1 hp1
            obtain ⟨g9, rfl, y1, y2, y3, hy1, hl9⟩ := hh12 (hdep ⟨12, .data⟩ (by simp) rfl) hL
            refine step_append1 rfl (.tmp 26) (.tmp 37) 24 rfl w.heap.size 83 j0 (.agg #[.int .i64 0, .int .i64 0, .int .i64 0]) 3 24 Try.underlying24 hj jz0 jz1 jz2 rfl (by decide) _ nR _ rfl (hx0 hL).r ⟨g9, 0, none⟩ 1 [.int .i64 y1, .int .i64 y2, .int .i64 y3] rfl rfl hl9.cells (by simp [Value.oneCell']) (by unfold maxLen; omega) (by omega) (hx1 trivial).grown.size ?_
            intro g6 c6 w9 hg6 hown hgr
            exact hK _ _ ⟨_, _, _, _, _, _, _, _, _, _, _, _, _, _, _, rfl, hB.trans ((UpW.grown hgr).mono hB.size), hh0, hh1, hh2, (fun _ q0 => nomatch q0), hh4, hh5, (fun _ q0 => nomatch q0), hh7, hh8, hh9, hh10, hh11, (fun _ q0 => nomatch q0), fun _ => fun _ => ⟨y1, y2, y3, g6, c6, rfl, hy1, (hx0 hL).appR hgr (by rw [flat_appW]; exact hown)⟩, hh14, (fun q0 => absurd (hx8 q0) (by rw [hL]; simp)), (fun q0 => nomatch q0), fun _ => (hx1 trivial).row hgr (hx0 hL).r hgl, fun _ => hp1, fun _ => hp4, fun _ => hp7, fun _ => hp9, hx6, hx7, fun _ => rfl⟩
          · -- operation 14
            cases ho
            go_simp
            exact hK _ _ ⟨_, _, _, _, _, _, _, _, _, _, _, _, _, _, _, rfl, hB, hh0, hh1, hh2, hh3, hh4, hh5, hh6, hh7, hh8, hh9, hh10, hh11, hh12, hh13, fun _ => rfl, hh15, hx0, hx1, hx2, hx3, hx4, hx5, hx6, hx7, hx8⟩
          · -- operation 15
            cases ho
            have hdT := hdep ⟨13, .data⟩ (by simp) rfl
            obtain ⟨y1, y2, y3, g6, c6, rfl, hy1, hw9⟩ := hh13 hdT hL
            obtain rfl := hh14 (hdep ⟨14, .data⟩ (by simp) rfl)
            have fz := hw9.f0
            have cc := hw9.c0
            go_simp
            exact hK _ _ ⟨_, _, _, _, _, _, _, _, _, _, _, _, _, _, _, rfl, hB.set _ _, hh0, (fun _ => rfl), hh2, (fun _ q0 => absurd (hdT.symm.trans q0) (by simp)), hh4, hh5, (fun _ q0 => absurd (hdT.symm.trans q0) (by simp)), hh7, hh8, hh9, hh10, hh11, (fun _ q0 => absurd (hdT.symm.trans q0) (by simp)), (fun _ q0 => nomatch q0), hh14, fun _ => ⟨y1, y2, y3, g6, c6, rfl, hy1, hw9.putR hne03⟩, (fun q0 => absurd (hdT.symm.trans q0) (by simp)), fun _ => (hx1 trivial).own (grown_setW _ _ _ _) hgb3 (by omega), hx2, hx3, hx4, hx5, hx6, hx7, fun _ => hdT⟩
        intro Fl9 ac W hJ hall
        obtain ⟨x25, x26, x27, x28, x29, x30, x31, x32, x33, x34, x35, x36, x37, x38, x39, rfl, hB, hh0, hh1, hh2, hh3, hh4, hh5, hh6, hh7, hh8, hh9, hh10, hh11, hh12, hh13, hh14, hh15, -, hcs9, -, -, -, -, -, -, -⟩ := hJ
        obtain rfl := hh0 (hall 0 (by decide))
        obtain rfl := hh1 (hall 1 (by decide))
        obtain rfl := hh2 (hall 2 (by decide))
        obtain rfl := hh5 (hall 5 (by decide))
        obtain rfl := hh8 (hall 8 (by decide))
        obtain rfl := hh14 (hall 14 (by decide))
        obtain - := hh3 (hall 3 (by decide))
        obtain - := hh4 (hall 4 (by decide))
        obtain - := hh6 (hall 6 (by decide))
        obtain - := hh7 (hall 7 (by decide))
        obtain - := hh9 (hall 9 (by decide))
        obtain - := hh10 (hall 10 (by decide))
        obtain - := hh11 (hall 11 (by decide))
        obtain - := hh12 (hall 12 (by decide))
        obtain - := hh13 (hall 13 (by decide))
        obtain ⟨y1, y2, y3, g6, c6, rfl, hy1, P7⟩ := hh15 (hall 15 (by decide))
        clear hall
        have S7 : Hid (CurStep w W g A n c p (D9 + 6)) := Lib.hid ((hcs9 trivial).mono (by have := bN (Fl9 4); have := bN (Fl9 7); have := bN (Fl9 9); omega))
        have P7 := Lib.hid P7
        have HOK5 := Lib.hid (HOK.out.add (y := y2) (z := y3) hy1)
        have hR5 : (R ++ [(y1, y2, y3)]).length = nR + 1 := by rw [List.length_append, hRl]; rfl
        clear hcs9 hB
        go_wp2_with fail
        go_roundw
        case rel => exact ⟨k, _, _, _, _, _, _, _, _, by omega, by go_num, by omega, hq4, by omega, hR5, hZl, fun _ => ⟨_, rfl⟩, HOK5, P7, Lib.hid (S7.out.mono (by have := HDQ.out; have := HD9.out; push_cast at *; omega))⟩
        case measure => simp [intOf]
    · obtain rfl : k = 0 := by omega
      have hR0 : 0 < nR := by omega
      obtain ⟨g1, rfl⟩ := HA1.out hR0
      have C0 := P6.out.c0
      have C1 := P6.out.c1
      have d0 := cell_of_row _ _ 0 _ _ _ P6.out.res
      have d1 := cell_of_row _ _ 1 _ _ _ P6.out.res
      have f0 := frozen_of_row _ _ 0 _ _ P6.out.res
      have f1 := frozen_of_row _ _ 1 _ _ P6.out.res
      go_wp2_with fail
      refine bodyPost_ret (results_cell_at rfl _ _ b0 [.slice (some ⟨g1, 0, none⟩) nR c1, .slice A2 nZ c2] _ rfl (res_range P6.out.res) Try.underlying27 rfl (by kernel_rfl)) rfl ?_
      exact ⟨g1, A2, nR, c1, nZ, c2, R, Z, rfl, hR0, by omega, by omega, hRl, hZl, HOK.out, P6.out.done.1, P6.out.done.2, (S6.out.sets2 _ _ hgb (by omega)).mono (by omega)⟩
end Go.Proofs.Ytgnopkemcgbedab
