/- Chapter 4: the search of the program: hulls that lie in a chain. -/
import Derived.Test.YtdleidlmjliapaaChG
import Derived.Test.YtdleidlmjliapaaInv
import Derived.WalkMore
import Derived.Deep.LoopGhost
namespace Go.Proofs.Ytdleidlmjliapaa
open Go.RowKit Go.PlainAid Go.Sort
set_option linter.unusedVariables false
set_option linter.unusedSimpArgs false

/-- A hull at a spot in memory, with the one before it. -/
structure LaidAt (w : World) (g : Nat) (p : THull × TSpot) (v : Value) : Prop where
  c0 : w.cell? ⟨g, 0, none⟩ = some (.int .i64 p.1.x0)
  c1 : w.cell? ⟨g, 1, none⟩ = some (.int .i64 p.1.x1)
  c2 : w.cell? ⟨g, 2, none⟩ = some (.int .i64 p.1.x2)
  c3 : w.cell? ⟨g, 3, none⟩ = some (.int .i64 p.2.x0)
  c4 : w.cell? ⟨g, 4, none⟩ = some (.int .i64 p.2.x1)
  c5 : w.cell? ⟨g, 5, none⟩ = some v
theorem LaidAt.below {w w' : World} {B g : Nat} {p : THull × TSpot} {v : Value} (h : LaidAt w g p v) (hb : Below B w w') (hg : g < B) : LaidAt w' g p v :=
  ⟨(hb.cell hg).trans h.c0, (hb.cell hg).trans h.c1, (hb.cell hg).trans h.c2, (hb.cell hg).trans h.c3, (hb.cell hg).trans h.c4, (hb.cell hg).trans h.c5⟩
/-- A chain of them. -/
def Lays (w : World) (B : Nat) : Value → List (THull × TSpot) → Prop
  | v, [] => v = .pointer none
  | v, p :: d => ∃ g u, v = .pointer (some ⟨g, 0, none⟩) ∧ g < B ∧ LaidAt w g p u ∧ Lays w B u d
theorem Lays.below {w w' : World} {B C : Nat} (hb : Below C w w') (hC : B ≤ C) : ∀ {d : List (THull × TSpot)} {v : Value}, Lays w B v d → Lays w' B v d
  | [], _, h => h
  | _ :: _, _, ⟨g, u, e, hg, h1, h2⟩ => ⟨g, u, e, hg, h1.below hb (by omega), Lays.below hb hC h2⟩
theorem Lays.more {w : World} {B C : Nat} (hC : B ≤ C) : ∀ {d : List (THull × TSpot)} {v : Value}, Lays w B v d → Lays w C v d
  | [], _, h => h
  | _ :: _, _, ⟨g, u, e, hg, h1, h2⟩ => ⟨g, u, e, by omega, h1, Lays.more hC h2⟩
def okD (p : THull × TSpot) : Prop := goodH p.1 ∧ (0 ≤ p.2.x0 ∧ p.2.x0 ≤ 6) ∧ (0 ≤ p.2.x1 ∧ p.2.x1 ≤ 3)
/-- What the search answers. -/
def LayR (w : World) (o : Option (List (THull × TSpot))) (r : Value) : Prop := ∀ res, o = some res → Lays w w.heap.size r res
theorem LayR.below {w w' : World} {o : Option (List (THull × TSpot))} {r : Value} (h : LayR w o r) (hb : Below w.heap.size w w') : LayR w' o r :=
  fun res e => Lays.more hb.size (Lays.below hb (Nat.le_refl _) (h res e))
theorem hulls_tail {w : World} {B : Nat} {a : Addr} {n c : Nat} {h : THull} {t : List THull} (k : IsHulls w B (some a) (n + 1) (h :: t)) (hnc : n + 1 ≤ c) :
    ∃ a23, (if c = 1 then some a else some ⟨a.block, a.off + 3, none⟩) = some a23 ∧ IsHulls w B (some a23) n t := by
  have hl : t.length = n := by have := k.len; simpa using this
  by_cases h1 : c = 1
  · have : t = [] := List.eq_nil_of_length_eq_zero (by omega)
    subst this
    exact ⟨a, if_pos h1, hl, k.low, Has.nil _ _ _⟩
  · refine ⟨a.add 3, by rw [if_neg h1, addFormS a 3 (by decide)], hl, k.low, ?_⟩
    intro j u hu
    obtain ⟨a', e, hb, hc⟩ := k.has (j + 3) u (by simpa [flatHull] using hu)
    injection e with e
    subst e
    refine ⟨_, rfl, by rw [addBlock]; exact hb, ?_⟩
    rw [Go.Deep.add_add, show 3 + j = j + 3 by omega]
    exact hc
theorem hullAt0 {w : World} {a : Addr} {v : THull} (h : HullAt w a 0 v) : w.cell? a = some (.int .i64 v.x0) ∧ w.cell? ⟨a.block, a.off + 1, none⟩ = some (.int .i64 v.x1) ∧ w.cell? ⟨a.block, a.off + 2, none⟩ = some (.int .i64 v.x2) := by
  obtain ⟨h0, h1, h2⟩ := h
  have e : a.add (0 * 3) = a := by unfold Addr.add; rw [if_pos (by omega)]
  rw [e] at h0 h1 h2
  exact ⟨h0, h1, h2⟩
theorem freeB_app (h : THull) (s : TSpot) (a b : List (THull × TSpot)) : freeB h s (a ++ b) = (freeB h s a && freeB h s b) := by unfold freeB; rw [List.all_append]
theorem try_free {c : TChamber} {h : THull} {t : List THull} {done : List (THull × TSpot)} {i j : Nat} (hf : freeB h (sp i j) done = true) : tryAt c h t done i j = search c t ((h, sp i j) :: done) := by unfold tryAt; rw [if_pos hf]
theorem try_not {c : TChamber} {h : THull} {t : List THull} {done : List (THull × TSpot)} {i j : Nat} (hf : freeB h (sp i j) done = false) : tryAt c h t done i j = none := by unfold tryAt; rw [if_neg (by rw [hf]; simp)]
theorem search_row {c : TChamber} {h : THull} {t : List THull} {done : List (THull × TSpot)} {i j : Nat} {x : List (THull × TSpot)} (hi : fstS (tryRow c h t done) i = none) (hj : fstS (tryAt c h t done i) j = none) (hx : tryAt c h t done i j = some x) (hin : i < nAt c h) (hjn : j < nSide c h) : search c (h :: t) done = some x := by
  have h1 : tryRow c h t done i = some x := by
    obtain ⟨d, hd⟩ : ∃ d, nSide c h = j + 1 + d := ⟨nSide c h - (j + 1), by omega⟩
    unfold tryRow
    rw [hd]
    exact fstS_hit hj hx d
  obtain ⟨d, hd⟩ : ∃ d, nAt c h = i + 1 + d := ⟨nAt c h - (i + 1), by omega⟩
  rw [search_cons, hd]
  exact fstS_hit hi h1 d

set_option maxRecDepth 100000 in
set_option maxHeartbeats 4000000 in
theorem layAll_any (cl cb : Int) (hc : goodC ⟨cl, cb⟩) (t : List THull) : ∀ (w : World) (B : Nat) (A : Option Addr) (n c : Nat) (done : List (THull × TSpot)) (P : Value),
    IsHulls w B A n t → n ≤ c → n ≤ 4 → (∀ x ∈ t, goodH x) → Lays w w.heap.size P done → (∀ p ∈ done, okD p) →
    Calls Try.prog 35 #[.agg #[.int .i64 cl, .int .i64 cb], .slice A n c, P] w fun e w' => (∃ r, e = .returned (.tuple #[r, .bool (search ⟨cl, cb⟩ t done).isSome]) ∧ Hid (LayR w' (search ⟨cl, cb⟩ t done) r)) ∧ Below w.heap.size w w' := by
  induction t with
  | nil =>
    intro w B A n c done P h hnc hn4 hg hl hd
    have hn : n = 0 := by have := h.len; simpa using this.symm
    subst hn
    have HL := Lib.hid hl
    clear h hg hd hl
    go_enter Try.func35, Try.ntmps35
    go_wp2_with fail
    refine bodyPost_ret (results_tmp2 rfl _ _ _) rfl ?_
    exact ⟨⟨_, rfl, Lib.hid (fun res e => by injection e with e; subst e; exact Lays.more (by simp) (Lays.below (below1 w _) (Nat.le_refl _) HL.out))⟩, below1 _ _⟩
  | cons h t ih =>
    intro w B A n0 c done P hh hnc hn4 hg hl hd
    obtain ⟨n, rfl⟩ : ∃ n, n0 = n + 1 := ⟨n0 - 1, by have := hh.len; simp at this; omega⟩
    obtain ⟨pp, rfl⟩ : ∃ pp, P = .pointer pp := by
      cases done with
      | nil => exact ⟨none, hl⟩
      | cons p d => obtain ⟨g, u, e, -⟩ := hl; exact ⟨_, e⟩
    have HH := Lib.hid hh
    have HG := Lib.hid hg
    have HL := Lib.hid hl
    have HD := Lib.hid hd
    have HC := Lib.hid hc
    have IH := Lib.hid ih
    have hgh := hg h (by simp)
    have CME := Lib.hid (fun ad al ab s0 s1 bd bl bb t0 t1 W h1 h2 h3 h4 k1 k2 k3 k4 => meet_any ad al ab s0 s1 bd bl bb t0 t1 W h1 h2 h3 h4 k1 k2 k3 k4)
    obtain ⟨aH, rfl, haB, HV⟩ := (hh.below (below1 w (.cells #[.int .i64 cl, .int .i64 cb] 25)) hh.low).has.Hull (k := 0) (by simp)
    obtain ⟨e0, e1, e2⟩ := hullAt0 HV
    rw [List.getD_cons_zero] at e0 e1 e2
    have hbd : ((1 ≤ h.x1 ∧ h.x1 ≤ 6) ∧ 1 ≤ h.x2 ∧ h.x2 ≤ 3) ∧ (1 ≤ cl ∧ cl ≤ 6) ∧ 1 ≤ cb ∧ cb ≤ 3 := ⟨⟨hgh.2.1, hgh.2.2⟩, hc.1, hc.2⟩
    have HGh := Lib.hid hgh
    have HSR := Lib.hid (fun i j x => search_row (c := ⟨cl, cb⟩) (h := h) (t := t) (done := done) (i := i) (j := j) (x := x))
    have HS0 := Lib.hid (search_cons ⟨cl, cb⟩ h t done)
    have hnA : nAt ⟨cl, cb⟩ h = (cl - h.x1 + 1).toNat := rfl
    have hnS : nSide ⟨cl, cb⟩ h = (cb - h.x2 + 1).toNat := rfl
    obtain ⟨R, hR⟩ : ∃ R, search ⟨cl, cb⟩ (h :: t) done = R := ⟨_, rfl⟩
    rw [hR] at HSR HS0 ⊢
    clear hR hh hg hl hd hc ih hgh
    obtain ⟨hd, hl, hbb⟩ := h
    dsimp only at e0 e1 e2 hbd hnA hnS
    have HNA := Lib.hid hnA
    have HNS := Lib.hid hnS
    clear hnA hnS
    obtain ⟨xb, hxb⟩ : ∃ x, w.heap.size = x := ⟨_, rfl⟩
    have hn0 : ((n : Int) + 1 == 0) = false := by simp; omega
    go_enter Try.func35, Try.ntmps35
    go_wp2_with fail
    obtain ⟨NA, hNA⟩ : ∃ k, nAt ⟨cl, cb⟩ ⟨hd, hl, hbb⟩ = k := ⟨_, rfl⟩
    obtain ⟨NS, hNS⟩ : ∃ k, nSide ⟨cl, cb⟩ ⟨hd, hl, hbb⟩ = k := ⟨_, rfl⟩
    rw [hNA] at HSR HS0 HNA
    rw [hNS] at HSR HNS
    have hna := HNA.out
    have hns := HNS.out
    have HROW := Lib.hid (fun i => (show tryRow ⟨cl, cb⟩ ⟨hd, hl, hbb⟩ t done i = fstS (tryAt ⟨cl, cb⟩ ⟨hd, hl, hbb⟩ t done i) NS by unfold tryRow; rw [hNS]))
    clear hNA hNS HNA HNS
    obtain ⟨W2, hW2⟩ : ∃ W, World.alloc (World.alloc w (.cells #[.int .i64 cl, .int .i64 cb] 25)) (.cells #[.int .i64 hd, .int .i64 hl, .int .i64 hbb] 40) = W := ⟨_, rfl⟩
    have HB2 := Lib.hid (show Below w.heap.size w W2 by rw [← hW2]; exact below2 w _ _)
    have x0 : W2.cell? ⟨xb, 0, none⟩ = some (.int .i64 cl) := by rw [← hW2, ← hxb]; exact (World.cell?_alloc_lt _ _ _ (by simp)).trans (by rw [sNew]; rfl)
    have x1 : W2.cell? ⟨xb, 1, none⟩ = some (.int .i64 cb) := by rw [← hW2, ← hxb]; exact (World.cell?_alloc_lt _ _ _ (by simp)).trans (by rw [sNew]; rfl)
    have y0 : W2.cell? ⟨xb + 1, 0, none⟩ = some (.int .i64 hd) := by rw [← hW2, ← hxb]; simp
    have y1 : W2.cell? ⟨xb + 1, 1, none⟩ = some (.int .i64 hl) := by rw [← hW2, ← hxb]; simp
    have y2 : W2.cell? ⟨xb + 1, 2, none⟩ = some (.int .i64 hbb) := by rw [← hW2, ← hxb]; simp
    rw [hW2]
    clear hW2 e0 e1 e2
    go_loopw [28] (fun q wr => ∃ i : Nat, i ≤ NA ∧ q = .int .i64 i ∧ Hid (fstS (tryRow ⟨cl, cb⟩ ⟨hd, hl, hbb⟩ t done) i = none) ∧ Below w.heap.size w wr ∧ wr.cell? ⟨xb, 0, none⟩ = some (.int .i64 cl) ∧ wr.cell? ⟨xb, 1, none⟩ = some (.int .i64 cb) ∧ wr.cell? ⟨xb + 1, 0, none⟩ = some (.int .i64 hd) ∧ wr.cell? ⟨xb + 1, 1, none⟩ = some (.int .i64 hl) ∧ wr.cell? ⟨xb + 1, 2, none⟩ = some (.int .i64 hbb)) (fun q _ => NA - (intOf q).toNat)
    case atStart => exact ⟨0, Nat.zero_le _, rfl, Lib.hid rfl, HB2.out, x0, x1, y0, y1, y2⟩
    case round =>
      clear x0 x1 y0 y1 y2
      obtain ⟨i, hi, rfl, hrow, hb, x0, x1, y0, y1, y2⟩ := hrel
      by_cases hlt : (i : Int) < cl - hl + 1
      · go_wp2_with fail
        go_step3
        go_wp2_with fail
        go_step3
        go_wp2_with fail
        go_loopw [37] (fun q wr => ∃ j : Nat, j ≤ NS ∧ q = .int .i64 j ∧ Hid (fstS (tryAt ⟨cl, cb⟩ ⟨hd, hl, hbb⟩ t done i) j = none) ∧ Below w.heap.size w wr ∧ wr.cell? ⟨xb, 0, none⟩ = some (.int .i64 cl) ∧ wr.cell? ⟨xb, 1, none⟩ = some (.int .i64 cb) ∧ wr.cell? ⟨xb + 1, 0, none⟩ = some (.int .i64 hd) ∧ wr.cell? ⟨xb + 1, 1, none⟩ = some (.int .i64 hl) ∧ wr.cell? ⟨xb + 1, 2, none⟩ = some (.int .i64 hbb)) (fun q _ => NS - (intOf q).toNat)
        case atStart => exact ⟨0, Nat.zero_le _, rfl, Lib.hid rfl, hb, x0, x1, y0, y1, y2⟩
        case round =>
          clear x0 x1 y0 y1 y2 hb
          obtain ⟨j, hj, rfl, hat, hb, x0, x1, y0, y1, y2⟩ := hrel
          by_cases hjlt : (j : Int) < cb - hbb + 1
          · have HB := Lib.hid hb
            have lx := World.block_lt_of_cell? _ _ x0
            have ly := World.block_lt_of_cell? _ _ y0
            have HLW := Lib.hid (Lays.below HB.out (Nat.le_refl _) HL.out)
            clear hb
            go_wp2_with fail
            have x0' := (World.cell?_alloc_lt wr (.cells #[.int .i64 i, .int .i64 j] 42) ⟨xb, 0, none⟩ lx).trans x0
            have x1' := (World.cell?_alloc_lt wr (.cells #[.int .i64 i, .int .i64 j] 42) ⟨xb, 1, none⟩ lx).trans x1
            have y0' := (World.cell?_alloc_lt wr (.cells #[.int .i64 i, .int .i64 j] 42) ⟨xb + 1, 0, none⟩ ly).trans y0
            have y1' := (World.cell?_alloc_lt wr (.cells #[.int .i64 i, .int .i64 j] 42) ⟨xb + 1, 1, none⟩ ly).trans y1
            have y2' := (World.cell?_alloc_lt wr (.cells #[.int .i64 i, .int .i64 j] 42) ⟨xb + 1, 2, none⟩ ly).trans y2
            clear x0 x1 y0 y1 y2 lx ly
            obtain ⟨W5, hW5⟩ : ∃ W, wr.alloc (.cells #[.int .i64 i, .int .i64 j] 42) = W := ⟨_, rfl⟩
            obtain ⟨zb, hzb⟩ : ∃ x, wr.heap.size = x := ⟨_, rfl⟩
            have z0 : W5.cell? ⟨zb, 0, none⟩ = some (.int .i64 i) := by rw [← hW5, ← hzb, sNew]; rfl
            have z1 : W5.cell? ⟨zb, 1, none⟩ = some (.int .i64 j) := by rw [← hW5, ← hzb, sNew]; rfl
            have HB5 := Lib.hid (show Below w.heap.size w W5 by rw [← hW5]; exact HB.out.alloc HB.out.size _)
            have HL5 := Lib.hid (Lays.more HB5.out.size (Lays.below HB5.out (Nat.le_refl _) HL.out))
            rw [hW5] at x0' x1' y0' y1' y2'
            rw [hW5, hzb]
            clear hW5 hzb HLW HB
            go_loopg [12] done.length (fun gh q wr => ∃ (pre rest : List (THull × TSpot)), done = pre ++ rest ∧ rest.length = gh ∧ Hid (freeB ⟨hd, hl, hbb⟩ (sp i j) pre = true) ∧ Lays wr wr.heap.size q rest ∧ Below w.heap.size w wr ∧ wr.cell? ⟨xb, 0, none⟩ = some (.int .i64 cl) ∧ wr.cell? ⟨xb, 1, none⟩ = some (.int .i64 cb) ∧ wr.cell? ⟨xb + 1, 0, none⟩ = some (.int .i64 hd) ∧ wr.cell? ⟨xb + 1, 1, none⟩ = some (.int .i64 hl) ∧ wr.cell? ⟨xb + 1, 2, none⟩ = some (.int .i64 hbb) ∧ wr.cell? ⟨zb, 0, none⟩ = some (.int .i64 i) ∧ wr.cell? ⟨zb, 1, none⟩ = some (.int .i64 j))
            case atStart => exact ⟨[], done, rfl, rfl, Lib.hid rfl, HL5.out, HB5.out, x0', x1', y0', y1', y2', z0, z1⟩
            case round =>
              clear x0' x1' y0' y1' y2' z0 z1
              obtain ⟨pre, rest, hpr, hrl, hfr, hch, hb, x0, x1, y0, y1, y2, z0, z1⟩ := hrel
              cases gk with
              | succ gh =>
                obtain ⟨p, rest', rfl⟩ : ∃ p r, rest = p :: r := by
                  cases rest with
                  | nil => cases hrl
                  | cons p r => exact ⟨p, r, rfl⟩
                obtain ⟨g, u, rfl, hgl, HLA, hch'⟩ := hch
                have hpd : okD p := HD.out p (by rw [hpr]; simp)
                have hgb := HGh.out
                obtain ⟨⟨pd, pl, pb⟩, ⟨s0, s1⟩⟩ := p
                obtain ⟨q0, q1, q2, q3, q4, q5⟩ := HLA
                obtain ⟨⟨-, hp1, hp2⟩, hp3, hp4⟩ := hpd
                dsimp only at q0 q1 q2 q3 q4 hp1 hp2 hp3 hp4
                have hi6 : (i : Int) ≤ 6 := by omega
                have hj6 : (j : Int) ≤ 6 := by omega
                have CMk := Lib.hid (fun W => CME.out hd hl hbb (i : Int) (j : Int) pd pl pb s0 s1 W (by omega) (by omega) (by omega) (by omega) (by omega) (by omega) (by omega) (by omega))
                have HB := Lib.hid hb
                have HCH := Lib.hid hch'
                have HPR := Lib.hid hpr
                have HRL := Lib.hid hrl
                have X0 := fun (d : Nat) (os : Array Obj) => cell_regrown x0 d os
                have X1 := fun (d : Nat) (os : Array Obj) => cell_regrown x1 d os
                have Y0 := fun (d : Nat) (os : Array Obj) => cell_regrown y0 d os
                have Y1 := fun (d : Nat) (os : Array Obj) => cell_regrown y1 d os
                have Y2 := fun (d : Nat) (os : Array Obj) => cell_regrown y2 d os
                have Z0 := fun (d : Nat) (os : Array Obj) => cell_regrown z0 d os
                have Z1 := fun (d : Nat) (os : Array Obj) => cell_regrown z1 d os
                have Q0 := fun (d : Nat) (os : Array Obj) => cell_regrown q0 d os
                have Q1 := fun (d : Nat) (os : Array Obj) => cell_regrown q1 d os
                have Q2 := fun (d : Nat) (os : Array Obj) => cell_regrown q2 d os
                have Q3 := fun (d : Nat) (os : Array Obj) => cell_regrown q3 d os
                have Q4 := fun (d : Nat) (os : Array Obj) => cell_regrown q4 d os
                have Q5 := fun (d : Nat) (os : Array Obj) => cell_regrown q5 d os
                clear x0 x1 y0 y1 y2 z0 z1 q0 q1 q2 q3 q4 q5 hb hch' hpr hrl hp1 hp2 hp3 hp4 hgb hgl CME
                by_cases hme : meet ⟨hd, hl, hbb⟩ (sp i j) ⟨pd, pl, pb⟩ ⟨s0, s1⟩
                · rw [decide_eq_true hme] at CMk
                  have cM := fun (dr : Nat) (os : Array Obj) => Calls.regrown_of (w := wr) (d := dr) (os := os) (CMk.out _)
                  have HT : Hid (fstS (tryAt ⟨cl, cb⟩ ⟨hd, hl, hbb⟩ t done i) (j + 1) = none) := Lib.hid (fstS_none hat.out (try_not (by rw [HPR.out, freeB_app, freeB_cons, decide_eq_true hme]; simp)))
                  clear CMk hme
                  go_wp2
                  refine wp_region_quiet_below (by kernel_rfl) (by kernel_rfl) ?_
                  repeat (go_big_quiet_step (first | exact cM _ _))
                  refine wpQuiet_nil ?_
                  intro _ hw'
                  obtain ⟨⟨dq, osq⟩, hw''⟩ := hw'
                  subst hw''
                  have HB4 := Lib.hid (HB.out.trans ((below_regrown wr dq osq).mono HB.out.size))
                  have k0 := X0 dq osq
                  have k1 := X1 dq osq
                  have k2 := Y0 dq osq
                  have k3 := Y1 dq osq
                  have k4 := Y2 dq osq
                  clear X0 X1 Y0 Y1 Y2 Z0 Z1 Q0 Q1 Q2 Q3 Q4 Q5 cM
                  go_wp2
                  go_roundw
                  case rel => exact ⟨j + 1, by omega, by go_num, HT, HB4.out, k0, k1, k2, k3, k4⟩
                  case measure => simp [intOf]; omega
                · rw [decide_eq_false hme] at CMk
                  have cM := fun (dr : Nat) (os : Array Obj) => Calls.regrown_of (w := wr) (d := dr) (os := os) (CMk.out _)
                  have HF : Hid (freeB ⟨hd, hl, hbb⟩ (sp i j) (pre ++ [(⟨pd, pl, pb⟩, ⟨s0, s1⟩)]) = true) := Lib.hid (by rw [freeB_app, hfr.out, freeB_cons, decide_eq_false hme]; rfl)
                  clear CMk hme
                  go_wp2
                  refine wp_region_quiet_below (by kernel_rfl) (by kernel_rfl) ?_
                  repeat (go_big_quiet_step (first | exact cM _ _))
                  refine wpQuiet_nil ?_
                  intro _ hw'
                  obtain ⟨⟨dq, osq⟩, hw''⟩ := hw'
                  subst hw''
                  have HB4 := Lib.hid (HB.out.trans ((below_regrown wr dq osq).mono HB.out.size))
                  have k0 := X0 dq osq
                  have k1 := X1 dq osq
                  have k2 := Y0 dq osq
                  have k3 := Y1 dq osq
                  have k4 := Y2 dq osq
                  have k5 := Z0 dq osq
                  have k6 := Z1 dq osq
                  have k7 := Q5 dq osq
                  have HC4 := Lib.hid (Lays.more (below_regrown wr dq osq).size (Lays.below (below_regrown wr dq osq) (Nat.le_refl _) HCH.out))
                  clear X0 X1 Y0 Y1 Y2 Z0 Z1 Q0 Q1 Q2 Q3 Q4 Q5 cM
                  go_wp2
                  go_roundg gh
                  case rel => exact ⟨pre ++ [(⟨pd, pl, pb⟩, ⟨s0, s1⟩)], rest', by simp [HPR.out], by have := HRL.out; simpa using this, HF, HC4.out, HB4.out, k0, k1, k2, k3, k4, k5, k6⟩
                  case measure => omega
              | zero =>
                obtain rfl : rest = [] := List.eq_nil_of_length_eq_zero hrl
                obtain rfl : _ = Value.pointer none := hch
                have HF : Hid (freeB ⟨hd, hl, hbb⟩ (sp i j) done = true) := Lib.hid (by rw [hpr, List.append_nil]; exact hfr.out)
                have HLr := Lib.hid (Lays.more hb.size (Lays.below hb (Nat.le_refl _) HL.out))
                have HB := Lib.hid hb
                obtain ⟨a23, ha23, htl⟩ := hulls_tail HH.out hnc
                have HA23 := Lib.hid ha23
                have HTL := Lib.hid htl
                obtain ⟨RK, hRK⟩ : ∃ x, search ⟨cl, cb⟩ t ((⟨hd, hl, hbb⟩, sp i j) :: done) = x := ⟨_, rfl⟩
                have HTRY : Hid (tryAt ⟨cl, cb⟩ ⟨hd, hl, hbb⟩ t done i j = RK) := Lib.hid ((try_free HF.out).trans hRK)
                have hi6 : (i : Int) ≤ 6 := by omega
                have hj6 : (j : Int) ≤ 3 := by omega
                have hdec : n + 1 - 1 = n := by omega
                have hc1 : 1 ≤ c := by omega
                have IHk := Lib.hid (fun (W : World) (g : Nat) (hB : Below wr.heap.size wr W) (hla : LaidAt W g (⟨hd, hl, hbb⟩, sp i j) (.pointer pp)) (hgl : g < W.heap.size) =>
                  IH.out W B (some a23) n (c - 1) ((⟨hd, hl, hbb⟩, sp i j) :: done) (.pointer (some ⟨g, 0, none⟩)) (HTL.out.below (HB.out.trans (hB.mono HB.out.size)) HTL.out.low) (by omega) (by omega) (fun x hx => HG.out x (by simp [hx]))
                    ⟨g, .pointer pp, rfl, hgl, hla, Lays.more hB.size (Lays.below hB (Nat.le_refl _) HLr.out)⟩
                    (fun p hp => by
                      rcases List.mem_cons.1 hp with e | e
                      · subst e; exact ⟨HGh.out, by dsimp only; omega, by dsimp only; omega⟩
                      · exact HD.out p e))
                rw [hRK] at IHk
                clear hpr hfr hrl hb CME ha23 htl hRK IH
                go_wp2_with fail
                refine region_inv (by kernel_rfl) (by kernel_rfl) (fun Fl9 ac W => ∃ (x62 x63 x64 x65 x66 x67 x68 x69 x70 x61 x71 x72 x13 x14 : Value), ac = { tmps := #[Value.agg #[Value.int IntKind.i64 cl, Value.int IntKind.i64 cb], Value.slice (some aH) (n + 1) c, Value.pointer pp, Value.pointer (some ⟨xb, 0, none⟩), undef, undef, u6, u7, Value.pointer (some ⟨xb + 1, 0, none⟩), Value.int IntKind.i64 (i : Int), Value.int IntKind.i64 (j : Int), Value.pointer (some ⟨zb, 0, none⟩), Value.pointer none, x13, x14, Value.slice (some aH) (n + 1) c, Value.int IntKind.i64 ((n : Int) + 1), Value.bool false, undef, Value.slice (some aH) (n + 1) c, Value.pointer (some aH), Value.agg #[Value.int IntKind.i64 hd, Value.int IntKind.i64 hl, Value.int IntKind.i64 hbb], Value.pointer (some ⟨xb, 0, none⟩), Value.int IntKind.i64 cl, Value.pointer (some ⟨xb + 1, 1, none⟩), Value.int IntKind.i64 hl, Value.int IntKind.i64 (cl - hl), Value.int IntKind.i64 (cl - hl + 1), Value.int IntKind.i64 (i : Int), Value.bool true, Value.int IntKind.i64 (i : Int), Value.pointer (some ⟨xb, 1, none⟩), Value.int IntKind.i64 cb, Value.pointer (some ⟨xb + 1, 2, none⟩), Value.int IntKind.i64 hbb, Value.int IntKind.i64 (cb - hbb), Value.int IntKind.i64 (cb - hbb + 1), Value.int IntKind.i64 (j : Int), Value.bool true, Value.int IntKind.i64 (j : Int), Value.int IntKind.i64 (i : Int), Value.int IntKind.i64 (j : Int), Value.agg #[Value.int IntKind.i64 (i : Int), Value.int IntKind.i64 (j : Int)], Value.pointer pp, Value.pointer none, Value.bool false, u46, u47, u48, u49, u50, u51, u52, u53, u54, u55, u56, u57, u58, u59, u60, x61, x62, x63, x64, x65, x66, x67, x68, x69, x70, x71, x72, u73, u74, u75, u76], defers := [] } ∧ Below wr.heap.size wr W ∧
                      (Fl9 0 = true → x62 = .agg #[.int .i64 cl, .int .i64 cb]) ∧
                      (Fl9 1 = true → x63 = .slice (some aH) (n + 1) c) ∧
                      (Fl9 2 = true → x64 = .slice (some a23) n (c - 1)) ∧
                      (Fl9 3 = true → x65 = .agg #[.int .i64 hd, .int .i64 hl, .int .i64 hbb]) ∧
                      (Fl9 4 = true → x66 = .agg #[.int .i64 (i : Int), .int .i64 (j : Int)]) ∧
                      (Fl9 5 = true → x67 = .pointer pp) ∧
                      (Fl9 6 = true → x68 = .agg #[.int .i64 hd, .int .i64 hl, .int .i64 hbb, .int .i64 (i : Int), .int .i64 (j : Int), .pointer pp]) ∧
                      (Fl9 7 = true → ∃ g, x69 = .pointer (some ⟨g, 0, none⟩) ∧ LaidAt W g (⟨hd, hl, hbb⟩, sp i j) (.pointer pp) ∧ g < W.heap.size) ∧
                      (Fl9 8 = true → ∃ r, x70 = .tuple #[r, .bool RK.isSome] ∧ Hid (LayR W RK r)) ∧
                      (Fl9 9 = true → ∃ r, x61 = .tuple #[r, .bool RK.isSome] ∧ Hid (LayR W RK r)) ∧
                      (Fl9 10 = true → Hid (LayR W RK x71)) ∧
                      (Fl9 11 = true → x72 = .bool RK.isSome) ∧
                      (Fl9 12 = true → Hid (LayR W RK x13)) ∧
                      (Fl9 13 = true → x14 = .bool RK.isSome)) ?_ ?_ ?_
                · exact ⟨_, _, _, _, _, _, _, _, _, _, _, _, _, _, rfl, (Drawn.one wr 1).below _, (fun q0 => nomatch q0), (fun q0 => nomatch q0), (fun q0 => nomatch q0), (fun q0 => nomatch q0), (fun q0 => nomatch q0), (fun q0 => nomatch q0), (fun q0 => nomatch q0), (fun q0 => nomatch q0), (fun q0 => nomatch q0), (fun q0 => nomatch q0), (fun q0 => nomatch q0), (fun q0 => nomatch q0), (fun q0 => nomatch q0), (fun q0 => nomatch q0)⟩
                · intro Fl9 ac W i9 o9 hJ ho hL hdep K9 hK
                  obtain ⟨x62, x63, x64, x65, x66, x67, x68, x69, x70, x61, x71, x72, x13, x14, rfl, hB, hh0, hh1, hh2, hh3, hh4, hh5, hh6, hh7, hh8, hh9, hh10, hh11, hh12, hh13⟩ := hJ
                  have hi9 : i9 < 14 := by simpa using (Array.getElem?_eq_some_iff.1 ho).1
                  have lx := World.block_lt_of_cell? _ _ x0
                  have ly := World.block_lt_of_cell? _ _ y0
                  have lz := World.block_lt_of_cell? _ _ z0
                  have C0 := (hB.cell lx).trans x0
                  have C1 := (hB.cell (p := ⟨xb, 1, none⟩) lx).trans x1
                  have C2 := (hB.cell ly).trans y0
                  have C3 := (hB.cell (p := ⟨xb + 1, 1, none⟩) ly).trans y1
                  have C4 := (hB.cell (p := ⟨xb + 1, 2, none⟩) ly).trans y2
                  have C5 := (hB.cell lz).trans z0
                  have C6 := (hB.cell (p := ⟨zb, 1, none⟩) lz).trans z1
                  clear lx ly lz
                  obtain rfl | rfl | rfl | rfl | rfl | rfl | rfl | rfl | rfl | rfl | rfl | rfl | rfl | rfl : i9 = 0 ∨ i9 = 1 ∨ i9 = 2 ∨ i9 = 3 ∨ i9 = 4 ∨ i9 = 5 ∨ i9 = 6 ∨ i9 = 7 ∨ i9 = 8 ∨ i9 = 9 ∨ i9 = 10 ∨ i9 = 11 ∨ i9 = 12 ∨ i9 = 13 := by omega
                  · -- operation 0
                    cases ho
                    go_simp
                    exact hK _ _ ⟨_, _, _, _, _, _, _, _, _, _, _, _, _, _, rfl, hB, fun _ => rfl, hh1, hh2, hh3, hh4, hh5, hh6, hh7, hh8, hh9, hh10, hh11, hh12, hh13⟩
                  · -- operation 1
                    cases ho
                    go_simp
                    exact hK _ _ ⟨_, _, _, _, _, _, _, _, _, _, _, _, _, _, rfl, hB, hh0, fun _ => rfl, hh2, hh3, hh4, hh5, hh6, hh7, hh8, hh9, hh10, hh11, hh12, hh13⟩
                  · -- operation 2
                    cases ho
                    obtain rfl := hh1 (hdep ⟨1, .data⟩ (by simp) rfl)
                    have hn1 : (1 : Int) ≤ (n : Int) + 1 := by omega
                    go_simp
                    rw [HA23.out]
                    exact hK _ _ ⟨_, _, _, _, _, _, _, _, _, _, _, _, _, _, rfl, hB, hh0, hh1, fun _ => rfl, hh3, hh4, hh5, hh6, hh7, hh8, hh9, hh10, hh11, hh12, hh13⟩
                  · -- operation 3
                    cases ho
                    go_simp
                    exact hK _ _ ⟨_, _, _, _, _, _, _, _, _, _, _, _, _, _, rfl, hB, hh0, hh1, hh2, fun _ => rfl, hh4, hh5, hh6, hh7, hh8, hh9, hh10, hh11, hh12, hh13⟩
                  · -- operation 4
                    cases ho
                    go_simp
                    exact hK _ _ ⟨_, _, _, _, _, _, _, _, _, _, _, _, _, _, rfl, hB, hh0, hh1, hh2, hh3, fun _ => rfl, hh5, hh6, hh7, hh8, hh9, hh10, hh11, hh12, hh13⟩
                  · -- operation 5
                    cases ho
                    go_simp
                    exact hK _ _ ⟨_, _, _, _, _, _, _, _, _, _, _, _, _, _, rfl, hB, hh0, hh1, hh2, hh3, hh4, fun _ => rfl, hh6, hh7, hh8, hh9, hh10, hh11, hh12, hh13⟩
                  · -- operation 6
                    cases ho
                    obtain rfl := hh3 (hdep ⟨3, .data⟩ (by simp) rfl)
                    obtain rfl := hh4 (hdep ⟨4, .data⟩ (by simp) rfl)
                    obtain rfl := hh5 (hdep ⟨5, .data⟩ (by simp) rfl)
                    go_simp
                    exact hK _ _ ⟨_, _, _, _, _, _, _, _, _, _, _, _, _, _, rfl, hB, hh0, hh1, hh2, hh3, hh4, hh5, fun _ => rfl, hh7, hh8, hh9, hh10, hh11, hh12, hh13⟩
                  · -- operation 7
                    cases ho
                    obtain rfl := hh6 (hdep ⟨6, .data⟩ (by simp) rfl)
                    go_simp
                    exact hK _ _ ⟨_, _, _, _, _, _, _, _, _, _, _, _, _, _, rfl, hB.trans ((Below.alloc (Below.refl W.heap.size W) (Nat.le_refl _) _).mono hB.size), hh0, hh1, hh2, hh3, hh4, hh5, hh6, fun _ => ⟨_, rfl, ⟨by rw [sNew]; rfl, by rw [sNew]; rfl, by rw [sNew]; rfl, by rw [sNew]; rfl, by rw [sNew]; rfl, by rw [sNew]; rfl⟩, by simp⟩, fun q0 => (fun ⟨r, e, h⟩ => ⟨r, e, Lib.hid (h.out.below (Below.alloc (Below.refl W.heap.size W) (Nat.le_refl _) _))⟩) (hh8 q0), fun q0 => (fun ⟨r, e, h⟩ => ⟨r, e, Lib.hid (h.out.below (Below.alloc (Below.refl W.heap.size W) (Nat.le_refl _) _))⟩) (hh9 q0), fun q0 => (fun h => Lib.hid (h.out.below (Below.alloc (Below.refl W.heap.size W) (Nat.le_refl _) _))) (hh10 q0), hh11, fun q0 => (fun h => Lib.hid (h.out.below (Below.alloc (Below.refl W.heap.size W) (Nat.le_refl _) _))) (hh12 q0), hh13⟩
                  · -- operation 8
                    cases ho
                    obtain rfl := hh0 (hdep ⟨0, .data⟩ (by simp) rfl)
                    obtain rfl := hh2 (hdep ⟨2, .data⟩ (by simp) rfl)
                    have hd7 := hdep ⟨7, .data⟩ (by simp) rfl
                    obtain ⟨g, rfl, hla, hgl⟩ := hh7 hd7
                    go_simp
                    refine (IHk.out W g hB hla hgl).mono ?_
                    rintro e w9 ⟨⟨r, rfl, hr⟩, hb9⟩
                    exact hK _ _ ⟨_, _, _, _, _, _, _, _, _, _, _, _, _, _, rfl, hB.trans (hb9.mono hB.size), hh0, hh1, hh2, hh3, hh4, hh5, hh6, fun q0 => (fun ⟨g, e, h, m⟩ => ⟨g, e, h.below hb9 m, Nat.lt_of_lt_of_le m (Below.size hb9)⟩) (hh7 q0), fun _ => ⟨_, rfl, hr⟩, fun q0 => (fun ⟨r, e, h⟩ => ⟨r, e, Lib.hid (h.out.below hb9)⟩) (hh9 q0), fun q0 => (fun h => Lib.hid (h.out.below hb9)) (hh10 q0), hh11, fun q0 => (fun h => Lib.hid (h.out.below hb9)) (hh12 q0), hh13⟩
                  · -- operation 9
                    cases ho
                    have hd8 := hdep ⟨8, .data⟩ (by simp) rfl
                    obtain ⟨r, rfl, hr⟩ := hh8 hd8
                    go_simp
                    exact hK _ _ ⟨_, _, _, _, _, _, _, _, _, _, _, _, _, _, rfl, hB, hh0, hh1, hh2, hh3, hh4, hh5, hh6, hh7, hh8, fun _ => ⟨_, rfl, hr⟩, hh10, hh11, hh12, hh13⟩
                  · -- operation 10
                    cases ho
                    have hd9 := hdep ⟨9, .data⟩ (by simp) rfl
                    obtain ⟨r, rfl, hr⟩ := hh9 hd9
                    go_simp
                    exact hK _ _ ⟨_, _, _, _, _, _, _, _, _, _, _, _, _, _, rfl, hB, hh0, hh1, hh2, hh3, hh4, hh5, hh6, hh7, hh8, hh9, fun _ => hr, hh11, hh12, hh13⟩
                  · -- operation 11
                    cases ho
                    have hd9 := hdep ⟨9, .data⟩ (by simp) rfl
                    obtain ⟨r, rfl, hr⟩ := hh9 hd9
                    go_simp
                    exact hK _ _ ⟨_, _, _, _, _, _, _, _, _, _, _, _, _, _, rfl, hB, hh0, hh1, hh2, hh3, hh4, hh5, hh6, hh7, hh8, hh9, hh10, fun _ => rfl, hh12, hh13⟩
                  · -- operation 12
                    cases ho
                    have hd10 := hdep ⟨10, .data⟩ (by simp) rfl
                    obtain hr := hh10 hd10
                    go_simp
                    exact hK _ _ ⟨_, _, _, _, _, _, _, _, _, _, _, _, _, _, rfl, hB, hh0, hh1, hh2, hh3, hh4, hh5, hh6, hh7, hh8, hh9, hh10, hh11, fun _ => hr, hh13⟩
                  · -- operation 13
                    cases ho
                    obtain rfl := hh11 (hdep ⟨11, .data⟩ (by simp) rfl)
                    go_simp
                    exact hK _ _ ⟨_, _, _, _, _, _, _, _, _, _, _, _, _, _, rfl, hB, hh0, hh1, hh2, hh3, hh4, hh5, hh6, hh7, hh8, hh9, hh10, hh11, hh12, fun _ => rfl⟩
                intro Fl9 ac W hJ hall
                obtain ⟨x62, x63, x64, x65, x66, x67, x68, x69, x70, x61, x71, x72, x13, x14, rfl, hB, hh0, hh1, hh2, hh3, hh4, hh5, hh6, hh7, hh8, hh9, hh10, hh11, hh12, hh13⟩ := hJ
                obtain rfl := hh0 (hall 0 (by decide))
                obtain rfl := hh1 (hall 1 (by decide))
                obtain rfl := hh2 (hall 2 (by decide))
                obtain rfl := hh3 (hall 3 (by decide))
                obtain rfl := hh4 (hall 4 (by decide))
                obtain rfl := hh5 (hall 5 (by decide))
                obtain rfl := hh6 (hall 6 (by decide))
                obtain rfl := hh11 (hall 11 (by decide))
                obtain rfl := hh13 (hall 13 (by decide))
                clear hh7
                clear hh8
                clear hh9
                clear hh10
                obtain hr13 := hh12 (hall 12 (by decide))
                clear hall
                have lx := World.block_lt_of_cell? _ _ x0
                have ly := World.block_lt_of_cell? _ _ y0
                have k0 := (hB.cell lx).trans x0
                have k1 := (hB.cell (p := ⟨xb, 1, none⟩) lx).trans x1
                have k2 := (hB.cell ly).trans y0
                have k3 := (hB.cell (p := ⟨xb + 1, 1, none⟩) ly).trans y1
                have k4 := (hB.cell (p := ⟨xb + 1, 2, none⟩) ly).trans y2
                have HB9 := Lib.hid (HB.out.trans (hB.mono HB.out.size))
                clear x0 x1 y0 y1 y2 z0 z1 lx ly hB HB IHk HLr
                cases RK with
                | none =>
                  have HT : Hid (fstS (tryAt ⟨cl, cb⟩ ⟨hd, hl, hbb⟩ t done i) (j + 1) = none) := Lib.hid (fstS_none hat.out HTRY.out)
                  clear hr13 HTRY
                  go_wp2
                  go_roundw
                  case rel => exact ⟨j + 1, by omega, by go_num, HT, HB9.out, k0, k1, k2, k3, k4⟩
                  case measure => simp [intOf]; omega
                | some res =>
                  obtain rfl : R = some res := HSR.out i j res hrow.out hat.out HTRY.out (by omega) (by omega)
                  clear HTRY HSR HS0 k0 k1 k2 k3 k4
                  go_wp2
                  try rw [Exit.noGoto_ret]
                  refine bodyPost_ret (results_tmp2 rfl _ _ _) rfl ?_
                  exact ⟨⟨_, rfl, hr13⟩, by first | exact HB9.out | (rw [← hxb]; exact HB9.out)⟩
          · have hje : j = NS := by omega
            have HR : Hid (fstS (tryRow ⟨cl, cb⟩ ⟨hd, hl, hbb⟩ t done) (i + 1) = none) := Lib.hid (fstS_none hrow.out (by rw [HROW.out, ← hje]; exact hat.out))
            clear hje
            go_wp2
            go_roundw
            case rel => exact ⟨i + 1, by omega, by go_num, HR, hb, x0, x1, y0, y1, y2⟩
            case measure => simp [intOf]; omega
      · have hie : i = NA := by omega
        obtain rfl : R = none := HS0.out.trans (by rw [← hie]; exact hrow.out)
        clear hie
        go_wp2
        try rw [Exit.noGoto_ret]
        refine bodyPost_ret (results_tmp2 rfl _ _ _) rfl ?_
        exact ⟨⟨_, rfl, Lib.hid (fun _ e => nomatch e)⟩, by rw [← hxb]; exact hb⟩
end Go.Proofs.Ytdleidlmjliapaa
