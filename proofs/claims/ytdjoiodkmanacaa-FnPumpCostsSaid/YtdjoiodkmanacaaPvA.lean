/- Chapter 12: a PumpTask that the laws draw: its box, its two rows, the cursor. -/
import Derived.Test.YtdjoiodkmanacaaPuA
import Derived.Test.YtdjoiodkmanacaaInv
import Derived.Test.YtdjoiodkmanacaaSt0
import Derived.Test.YtdjoiodkmanacaaStk
import Derived.Test.YtdjoiodkmanacaaCurX
namespace Go.Proofs.Ytdjoiodkmanacaa
open Go.RowKit Go.PlainAid Go.Sort
set_option linter.unusedVariables false
set_option linter.unusedSimpArgs false

theorem lt_of_heap {W : World} {b : Nat} {o : Obj} (h : W.heap[b]? = some o) : b < W.heap.size := (Array.getElem?_eq_some_iff.1 h).1
theorem ne_row {v : Value} {b : Nat} (h : v.ownBlock ≠ some b) : some b ≠ v.ownBlock := fun e => h e.symm
theorem own_past {w : World} {B : Nat} {e : TypeId} {s n : Nat} {v : Value} {xs : List Value} (h : w.ownsRow B e s v n xs) {g : Nat} (hg : g < B) : v.ownBlock ≠ some g := by
  intro hv
  have := (h.lt g hv).1
  omega
theorem grown_setW (w : World) (g i : Nat) (u : Value) : w.grownBy (w.setCell ⟨g, i, none⟩ u) (some g) :=
  ⟨rfl, rfl, rfl, by simp [World.setCell], fun k hk hne => by simp [World.setCell, Array.getElem?_modify]; intro e; exact absurd (e ▸ rfl) hne⟩
theorem own_nothing {w : World} {B : Nat} {e : TypeId} {k : Nat} : w.ownsRow B e k (.slice none 0 0) 0 [] := by
  refine ⟨by simp, .inl ⟨rfl, rfl⟩⟩
theorem addOW (g o j : Nat) : (⟨g, o, none⟩ : Addr).add j = ⟨g, o + j, none⟩ := by unfold Addr.add; split <;> simp_all
structure LstS (W : World) (g g9 : Nat) (xs : List Value) : Prop where
  ne : g9 ≠ g
  at' : ∀ j u, xs[j]? = some u → W.cell? ⟨g9, j, none⟩ = some u
theorem LstS.new (W : World) {g : Nat} (xs : List Value) (t : TypeId) (hg : g < W.heap.size) : LstS (W.alloc (.cells xs.toArray t)) g W.heap.size xs :=
  ⟨by omega, fun j u hu => by rw [sNew, List.getElem?_toArray]; exact hu⟩
theorem LstS.below {W W' : World} {g g9 : Nat} {xs : List Value} (h : LstS W g g9 xs) (hb : Below W.heap.size W W') : LstS W' g g9 xs :=
  ⟨h.ne, fun j u hu => (Below.cell hb (World.block_lt_of_cell? W _ (h.at' j u hu))).trans (h.at' j u hu)⟩
theorem LstS.kept {W W' : World} {g g9 : Nat} {xs : List Value} (h : LstS W g g9 xs) (hg : W.grownBy W' (some g)) : LstS W' g g9 xs :=
  ⟨h.ne, fun j u hu => (World.cell?_of_block (a := ⟨g9, j, none⟩) (hg.block g9 (World.block_lt_of_cell? W _ (h.at' j u hu)) (fun e => h.ne (by injection e)))).trans (h.at' j u hu)⟩
theorem LstS.nums {W : World} {g g9 : Nat} {ns : List Int} (h : LstS W g g9 (ns.map (.int .i64))) : ∀ k (hk : k < ns.length), W.cell? ⟨g9, k, none⟩ = some (.int .i64 ns[k]) := fun k hk =>
  h.at' k _ (by rw [List.getElem?_map, List.getElem?_eq_getElem hk]; rfl)
theorem LstS.cells {W : World} {g g9 : Nat} {xs : List Value} (h : LstS W g g9 xs) : ∀ j u, xs[j]? = some u → W.cell? ((⟨g9, 0, none⟩ : Addr).add j) = some u := fun j u hu => by
  rw [addOW, Nat.zero_add]
  exact h.at' j u hu
structure UpW (B : Nat) (w W : World) : Prop where
  size : w.heap.size ≤ W.heap.size
theorem UpW.of {B : Nat} {w W : World} (h : Below B w W) : UpW B w W := ⟨h.size⟩
theorem UpW.trans {B : Nat} {w W W' : World} (h : UpW B w W) (k : UpW B W W') : UpW B w W' := ⟨Nat.le_trans h.size k.size⟩
theorem UpW.mono {B B' : Nat} {w W : World} (h : UpW B w W) (_ : B' ≤ B) : UpW B' w W := ⟨h.size⟩
theorem UpW.grown {B : Nat} {w W : World} {r : Option Nat} (h : w.grownBy W r) : UpW B w W := ⟨h.size⟩
theorem UpW.set {B : Nat} {w W : World} (h : UpW B w W) (p : Addr) (u : Value) : UpW B w (W.setCell p u) := ⟨by simpa [World.setCell] using h.size⟩
theorem step_append1 {P : Program} {ops : Array Oper} {o : Oper} {a : Act} {w : World} {K : Act → World → Prop} {Q : Exit → Act → World → Prop} {E : Prop} (hgd : o.guard = none) (s x : Operand) (t : TypeId)
    (ho : o.op = .call { callee := .builtin .append, args := #[s, x], argTypes := #[t, t] }) (base : Nat) (e : TypeId) (i : TypeInfo) (z : Value) (size bytes : Nat) (ht : P.underlying t = some (.slice e)) (hi : P.info? e = some i) (hz : i.zero = some z)
    (hsize : i.size = size) (hby : i.bytes = bytes) (hzs : z.cells.size = size) (hsz : 0 < size) (v : Value) (n : Nat) (xs : List Value) (hs : a.eval s = v) (hown : w.ownsRow base e size v n xs)
    (ad : Addr) (c : Nat) (news : List Value) (hx : a.eval x = .slice (some ad) 1 c) (hl : news.length = 1 * size) (hnews : ∀ j u, news[j]? = some u → w.cell? (ad.add j) = some u) (h1 : ∀ u ∈ news, u.oneCell' = true)
    (h63 : n + 1 ≤ maxLen) (hbytes : (n + 1) * bytes ≤ 140737488355328) (hbase : base ≤ w.heap.size)
    (h : ∀ g cap w', base ≤ g → w'.ownsRow base e size (.slice (some ⟨g, 0, none⟩) (n + 1) cap) (n + 1) (xs ++ news) → w.grownBy w' v.ownBlock → K (a.put o.dst (.slice (some ⟨g, 0, none⟩) (n + 1) cap)) w') :
    if Region.wanted o (yielded ops a.tmps) = true then Oper.wp P o a w K Q else E := by
  have hw : Region.wanted o (yielded ops a.tmps) = true := by simp [Region.wanted, hgd]
  rw [if_pos hw]
  obtain ⟨v', w', hr, h2, h3, h4, -⟩ := run_append_own_at (P := P) w base t o.type e i z size bytes ht hi hz hsize hby hzs hsz v n xs hown ad 1 c news hl hnews h1 h63 hbytes hbase
  obtain ⟨g, cap, rfl, hg⟩ := own_some h2 (fun e => by have := (h4.1 e).2; omega)
  unfold Oper.wp execOp
  simp only [ho, resolve, invoke, builtin, Sem.run_bind, Sem.run_pure, Result.andThen_ok, List.map_toArray, List.map_cons, List.map_nil, hs, hx, hr]
  exact h g cap w' hg h2 h3
theorem CurStep.lt {w W : World} {g : Nat} {A : Option Addr} {n c : Nat} {p d : Int} (h : CurStep w W g A n c p d) : g < W.heap.size := by
  obtain ⟨q, -, -, hq⟩ := h.cur
  exact hq.lt
theorem CurStep.row {w W W' : World} {g : Nat} {A : Option Addr} {n c : Nat} {p d : Int} {v : Value} (h : CurStep w W g A n c p d) (hg : W.grownBy W' v.ownBlock) {e : TypeId} {s m : Nat} {xs : List Value} (ho : W.ownsRow w.heap.size e s v m xs) (hl : g < w.heap.size) : CurStep w W' g A n c p d := by
  cases hv : v.ownBlock with
  | none =>
    rw [hv] at hg
    exact h.on ⟨hg.os, hg.tape, hg.output, hg.size, fun k hk => hg.block k hk (by simp)⟩
  | some b =>
    rw [hv] at hg
    have := (ho.lt b hv).1
    exact h.own hg this (by omega)
theorem bN (b : Bool) : b.toNat ≤ 1 := by cases b <;> simp
abbrev taskO (a b c : Int) (v1 v2 : Value) : Obj := .cells #[.int .i64 a, .int .i64 b, .int .i64 c, v1, v2] 27
/-- The answer's box, the box of what is drawn (v1, v2), its rows (u1, u2). -/
structure TkS (B : Nat) (W : World) (b0 b3 : Nat) (a b c : Int) (v1 v2 u1 u2 : Value) (nZ nV : Nat) (Z : List Int) (V : List TPump) : Prop where
  res : W.heap[b0]? = some (.cells #[.int .i64 0, .int .i64 0, .int .i64 0, .slice none 0 0, .slice none 0 0] 27 (0, 0))
  box : W.heap[b3]? = some (.cells #[.int .i64 a, .int .i64 b, .int .i64 c, v1, v2] 27 (0, 0))
  z : W.ownsRow B 3 1 u1 nZ (Z.map (.int .i64))
  r : W.ownsRow B 69 3 u2 nV (flatPump V)
theorem ne_it : (3 : TypeId) ≠ 27 := by decide
theorem ne_ut : (69 : TypeId) ≠ 27 := by decide
theorem ne_iu : (3 : TypeId) ≠ 69 := by decide
theorem ne_ui : (69 : TypeId) ≠ 3 := by decide
section
variable {B : Nat} {W W' : World} {b0 b3 : Nat} {a b c : Int} {v1 v2 u1 u2 u' : Value} {nZ nV nX : Nat} {Z Z' : List Int} {V V' : List TPump}
theorem TkS.below (h : TkS B W b0 b3 a b c v1 v2 u1 u2 nZ nV Z V) (hb : Below W.heap.size W W') : TkS B W' b0 b3 a b c v1 v2 u1 u2 nZ nV Z V :=
  ⟨(hb.block _ (lt_of_heap h.res)).trans h.res, (hb.block _ (lt_of_heap h.box)).trans h.box, own_below h.z hb, own_below h.r hb⟩
/-- The cursor moves on. -/
theorem TkS.kept {g : Nat} (h : TkS B W b0 b3 a b c v1 v2 u1 u2 nZ nV Z V) (hg : W.grownBy W' (some g)) (hB : g < B) (h0 : B ≤ b0) (h3 : B ≤ b3) : TkS B W' b0 b3 a b c v1 v2 u1 u2 nZ nV Z V :=
  ⟨(hg.block _ (lt_of_heap h.res) (fun e => by injection e; omega)).trans h.res, (hg.block _ (lt_of_heap h.box) (fun e => by injection e; omega)).trans h.box, h.z.kept hg (.inr (own_past h.z hB)), h.r.kept hg (.inr (own_past h.r hB))⟩
theorem TkS.appZ (h : TkS B W b0 b3 a b c v1 v2 u1 u2 nZ nV Z V) (hg : W.grownBy W' u1.ownBlock) (ho : W'.ownsRow B 3 1 u' nX (Z'.map (.int .i64))) : TkS B W' b0 b3 a b c v1 v2 u' u2 nX nV Z' V :=
  ⟨(hg.block _ (lt_of_heap h.res) (ne_row (own_off h.z h.res ne_it))).trans h.res, (hg.block _ (lt_of_heap h.box) (ne_row (own_off h.z h.box ne_it))).trans h.box, ho, h.r.kept hg (own_ne h.r h.z ne_ui)⟩
theorem TkS.appR (h : TkS B W b0 b3 a b c v1 v2 u1 u2 nZ nV Z V) (hg : W.grownBy W' u2.ownBlock) (ho : W'.ownsRow B 69 3 u' nX (flatPump V')) : TkS B W' b0 b3 a b c v1 v2 u1 u' nZ nX Z V' :=
  ⟨(hg.block _ (lt_of_heap h.res) (ne_row (own_off h.r h.res ne_ut))).trans h.res, (hg.block _ (lt_of_heap h.box) (ne_row (own_off h.r h.box ne_ut))).trans h.box, h.z.kept hg (own_ne h.z h.r ne_iu), ho⟩
/-- A cell of the box turns. -/
theorem TkS.put (h : TkS B W b0 b3 a b c v1 v2 u1 u2 nZ nV Z V) (hne : b0 ≠ b3) (k : Nat) (u : Value) {a' b' c' : Int} {v1' v2' : Value} (hk : (W.setCell ⟨b3, k, none⟩ u).heap[b3]? = some (.cells #[.int .i64 a', .int .i64 b', .int .i64 c', v1', v2'] 27 (0, 0))) : TkS B (W.setCell ⟨b3, k, none⟩ u) b0 b3 a' b' c' v1' v2' u1 u2 nZ nV Z V :=
  have hg := grown_setW W b3 k u
  ⟨(hg.block _ (lt_of_heap h.res) (fun e => hne (by injection e))).trans h.res, hk, h.z.kept hg (.inr (own_off h.z h.box ne_it)), h.r.kept hg (.inr (own_off h.r h.box ne_ut))⟩
theorem TkS.put0 (h : TkS B W b0 b3 a b c v1 v2 u1 u2 nZ nV Z V) (hne : b0 ≠ b3) (x : Int) : TkS B (W.setCell ⟨b3, 0, none⟩ (.int .i64 x)) b0 b3 x b c v1 v2 u1 u2 nZ nV Z V :=
  h.put hne 0 _ (by have k := h.box; simp [World.setCell, Array.getElem?_modify, k])
theorem TkS.put1 (h : TkS B W b0 b3 a b c v1 v2 u1 u2 nZ nV Z V) (hne : b0 ≠ b3) (x : Int) : TkS B (W.setCell ⟨b3, 1, none⟩ (.int .i64 x)) b0 b3 a x c v1 v2 u1 u2 nZ nV Z V :=
  h.put hne 1 _ (by have k := h.box; simp [World.setCell, Array.getElem?_modify, k])
theorem TkS.putZ (h : TkS B W b0 b3 a b c v1 v2 u1 u2 nZ nV Z V) (hne : b0 ≠ b3) : TkS B (W.setCell ⟨b3, 3, none⟩ u1) b0 b3 a b c u1 v2 u1 u2 nZ nV Z V :=
  h.put hne 3 _ (by have k := h.box; simp [World.setCell, Array.getElem?_modify, k])
theorem TkS.putR (h : TkS B W b0 b3 a b c v1 v2 u1 u2 nZ nV Z V) (hne : b0 ≠ b3) : TkS B (W.setCell ⟨b3, 4, none⟩ u2) b0 b3 a b c v1 u2 u1 u2 nZ nV Z V :=
  h.put hne 4 _ (by have k := h.box; simp [World.setCell, Array.getElem?_modify, k])
/-- The row of flows is cut to nothing. -/
theorem TkS.cutZ {g1 n c1 : Nat} (h : TkS B W b0 b3 a b c v1 v2 (.slice (some ⟨g1, 0, none⟩) n c1) u2 nZ nV Z V) (hne : b0 ≠ b3) : TkS B (W.setCell ⟨b3, 3, none⟩ (.slice (some ⟨g1, 0, none⟩) 0 c1)) b0 b3 a b c (.slice (some ⟨g1, 0, none⟩) 0 c1) v2 (.slice (some ⟨g1, 0, none⟩) n c1) u2 nZ nV Z V :=
  h.put hne 3 _ (by have k := h.box; simp [World.setCell, Array.getElem?_modify, k])
/-- The first flow turns. -/
theorem TkS.setZ {g1 c1 : Nat} (h : TkS B W b0 b3 a b c v1 v2 (.slice (some ⟨g1, 0, none⟩) nZ c1) u2 nZ nV Z V) (x : Int) :
    TkS B (W.setCell ⟨g1, 0, none⟩ (.int .i64 x)) b0 b3 a b c v1 v2 (.slice (some ⟨g1, 0, none⟩) nZ c1) u2 nZ nV (Z.set 0 x) V ∧ W.grownBy (W.setCell ⟨g1, 0, none⟩ (.int .i64 x)) (some g1) := by
  have s0 := h.z.stored 0 (.int .i64 x)
  exact ⟨h.appZ (by simpa [Value.ownBlock] using s0.2) (by rw [List.map_set]; exact s0.1), s0.2⟩
theorem TkS.c0 (h : TkS B W b0 b3 a b c v1 v2 u1 u2 nZ nV Z V) : W.cell? ⟨b3, 0, none⟩ = some (.int .i64 a) := cell_of_row _ _ 0 _ _ _ h.box
theorem TkS.c1 (h : TkS B W b0 b3 a b c v1 v2 u1 u2 nZ nV Z V) : W.cell? ⟨b3, 1, none⟩ = some (.int .i64 b) := cell_of_row _ _ 1 _ _ _ h.box
theorem TkS.c2 (h : TkS B W b0 b3 a b c v1 v2 u1 u2 nZ nV Z V) : W.cell? ⟨b3, 2, none⟩ = some (.int .i64 c) := cell_of_row _ _ 2 _ _ _ h.box
theorem TkS.c3 (h : TkS B W b0 b3 a b c v1 v2 u1 u2 nZ nV Z V) : W.cell? ⟨b3, 3, none⟩ = some v1 := cell_of_row _ _ 3 _ _ _ h.box
theorem TkS.c4 (h : TkS B W b0 b3 a b c v1 v2 u1 u2 nZ nV Z V) : W.cell? ⟨b3, 4, none⟩ = some v2 := cell_of_row _ _ 4 _ _ _ h.box
theorem TkS.fz (h : TkS B W b0 b3 a b c v1 v2 u1 u2 nZ nV Z V) (k : Nat) : W.frozen? ⟨b3, k, none⟩ = false := frozen_of_row _ _ k _ _ h.box
end
end Go.Proofs.Ytdjoiodkmanacaa
