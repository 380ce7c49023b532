/- Chapter 2: a waterway that is read piece by piece: its box and its two rows; the model's reading of a text. -/
import Derived.Test.YtkdolpgnaabdaabDoorPwA
import Derived.Test.YtkdolpgnaabdaabDoorInv
import Derived.Test.YtkdolpgnaabdaabDoorSt0
import Derived.Test.YtkdolpgnaabdaabDoorStk
namespace Go.Proofs.YtkdolpgnaabdaabDoor
open Go.RowKit Go.PlainAid Go.Sort
set_option linter.unusedVariables false
set_option linter.unusedSimpArgs false

abbrev wayO (v1 v2 : Value) : Obj := .cells #[v1, v2] 25
/-- The answer's box, the box of what is read, its rows. -/
structure PwS (B : Nat) (W : World) (b0 b3 : Nat) (v1 v2 : Value) (nR nZ : Nat) (R : List (Int × Int × Int)) (Z : List Int) : Prop where
  res : W.heap[b0]? = some (.cells #[.slice none 0 0, .slice none 0 0] 25 (0, 0))
  box : W.heap[b3]? = some (.cells #[v1, v2] 25 (0, 0))
  r : W.ownsRow B 37 3 v1 nR (flat R)
  z : W.ownsRow B 3 1 v2 nZ (Z.map (.int .i64))
theorem lt_of_heap {W : World} {b : Nat} {o : Obj} (h : W.heap[b]? = some o) : b < W.heap.size := (Array.getElem?_eq_some_iff.1 h).1
theorem PwS.below {B : Nat} {W W' : World} {b0 b3 : Nat} {v1 v2 : Value} {nR nZ : Nat} {R : List (Int × Int × Int)} {Z : List Int} (h : PwS B W b0 b3 v1 v2 nR nZ R Z) (hb : Below W.heap.size W W') : PwS B W' b0 b3 v1 v2 nR nZ R Z :=
  ⟨(hb.block _ (lt_of_heap h.res)).trans h.res, (hb.block _ (lt_of_heap h.box)).trans h.box, own_below h.r hb, own_below h.z hb⟩
theorem ne_wr : (37 : TypeId) ≠ 25 := by decide
theorem ne_wi : (3 : TypeId) ≠ 25 := by decide
theorem ne_ri : (37 : TypeId) ≠ 3 := by decide
theorem ne_ir : (3 : TypeId) ≠ 37 := by decide
theorem ne_sw : (9 : TypeId) ≠ 25 := by decide
theorem ne_si : (9 : TypeId) ≠ 3 := by decide
theorem ne_sr : (9 : TypeId) ≠ 37 := by decide
theorem ne_row {v : Value} {b : Nat} (h : v.ownBlock ≠ some b) : some b ≠ v.ownBlock := fun e => h e.symm
/-- What an append to the reaches leaves, ahead of its store. -/
theorem PwS.afterR {B : Nat} {W W' : World} {b0 b3 : Nat} {v1 v2 v' : Value} {nR nZ nX : Nat} {R R' : List (Int × Int × Int)} {Z : List Int} (h : PwS B W b0 b3 v1 v2 nR nZ R Z) (hg : W.grownBy W' v1.ownBlock) (ho : W'.ownsRow B 37 3 v' nX (flat R')) :
    W'.heap[b0]? = some (.cells #[.slice none 0 0, .slice none 0 0] 25 (0, 0)) ∧ W'.heap[b3]? = some (.cells #[v1, v2] 25 (0, 0)) ∧ W'.ownsRow B 3 1 v2 nZ (Z.map (.int .i64)) :=
  ⟨(hg.block _ (lt_of_heap h.res) (ne_row (own_off h.r h.res ne_wr))).trans h.res, (hg.block _ (lt_of_heap h.box) (ne_row (own_off h.r h.box ne_wr))).trans h.box, h.z.kept hg (own_ne h.z h.r ne_ir)⟩
theorem PwS.afterZ {B : Nat} {W W' : World} {b0 b3 : Nat} {v1 v2 v' : Value} {nR nZ nX : Nat} {R : List (Int × Int × Int)} {Z Z' : List Int} (h : PwS B W b0 b3 v1 v2 nR nZ R Z) (hg : W.grownBy W' v2.ownBlock) (ho : W'.ownsRow B 3 1 v' nX (Z'.map (.int .i64))) :
    W'.heap[b0]? = some (.cells #[.slice none 0 0, .slice none 0 0] 25 (0, 0)) ∧ W'.heap[b3]? = some (.cells #[v1, v2] 25 (0, 0)) ∧ W'.ownsRow B 37 3 v1 nR (flat R) :=
  ⟨(hg.block _ (lt_of_heap h.res) (ne_row (own_off h.z h.res ne_wi))).trans h.res, (hg.block _ (lt_of_heap h.box) (ne_row (own_off h.z h.box ne_wi))).trans h.box, h.r.kept hg (own_ne h.r h.z ne_ri)⟩
theorem heap_setA {w : World} {g : Nat} {t : TypeId} {u v u' : Value} (h : w.heap[g]? = some (.cells #[u, v] t (0, 0))) : (w.setCell ⟨g, 0, none⟩ u').heap[g]? = some (.cells #[u', v] t (0, 0)) := by
  simp [World.setCell, Array.getElem?_modify, h]
theorem heap_setB {w : World} {g : Nat} {t : TypeId} {u v u' : Value} (h : w.heap[g]? = some (.cells #[u, v] t (0, 0))) : (w.setCell ⟨g, 1, none⟩ u').heap[g]? = some (.cells #[u, u'] t (0, 0)) := by
  simp [World.setCell, Array.getElem?_modify, h]
theorem grown_setW (w : World) (g i : Nat) (u : Value) : w.grownBy (w.setCell ⟨g, i, none⟩ u) (some g) :=
  ⟨rfl, rfl, rfl, by simp [World.setCell], fun k hk hne => by simp [World.setCell, Array.getElem?_modify]; intro e; exact absurd (e ▸ rfl) hne⟩
theorem PwS.putR {B : Nat} {W : World} {b0 b3 : Nat} {v1 v2 v' : Value} {nR nZ : Nat} {R' : List (Int × Int × Int)} {Z : List Int} (hne : b0 ≠ b3) (h0 : W.heap[b0]? = some (.cells #[.slice none 0 0, .slice none 0 0] 25 (0, 0))) (h3 : W.heap[b3]? = some (.cells #[v1, v2] 25 (0, 0)))
    (ho : W.ownsRow B 37 3 v' nR (flat R')) (hz : W.ownsRow B 3 1 v2 nZ (Z.map (.int .i64))) : PwS B (W.setCell ⟨b3, 0, none⟩ v') b0 b3 v' v2 nR nZ R' Z :=
  have hg := grown_setW W b3 0 v'
  ⟨(hg.block _ (lt_of_heap h0) (fun e => hne (by injection e))).trans h0, heap_setA h3, ho.kept hg (.inr (own_off ho h3 ne_wr)), hz.kept hg (.inr (own_off hz h3 ne_wi))⟩
theorem PwS.putZ {B : Nat} {W : World} {b0 b3 : Nat} {v1 v2 v' : Value} {nR nZ : Nat} {R : List (Int × Int × Int)} {Z' : List Int} (hne : b0 ≠ b3) (h0 : W.heap[b0]? = some (.cells #[.slice none 0 0, .slice none 0 0] 25 (0, 0))) (h3 : W.heap[b3]? = some (.cells #[v1, v2] 25 (0, 0)))
    (hr : W.ownsRow B 37 3 v1 nR (flat R)) (ho : W.ownsRow B 3 1 v' nZ (Z'.map (.int .i64))) : PwS B (W.setCell ⟨b3, 1, none⟩ v') b0 b3 v1 v' nR nZ R Z' :=
  have hg := grown_setW W b3 1 v'
  ⟨(hg.block _ (lt_of_heap h0) (fun e => hne (by injection e))).trans h0, heap_setB h3, hr.kept hg (.inr (own_off hr h3 ne_wr)), ho.kept hg (.inr (own_off ho h3 ne_wi))⟩
theorem results_wayT {P : Program} {fn : Func} {p t : Tmp} {ty : TypeId} (h : fn.results = #[.cell p ty, .tmp t]) (tmps : Array Value) (w : World) (g : Nat) (cs : List Value) (d : TypeDesc)
    (hp : tmps.getD p undef = .pointer (some ⟨g, 0, none⟩)) (hc : w.rangeAt g 0 cs) (hu : P.underlying ty = some d) (hd : d.isRow = true) (hi : (P.info? ty).map (·.size) = some cs.length) :
    (results fn tmps).run P w = .ok (.tuple #[.agg cs.toArray, tmps.getD t undef]) w := by
  have hp' : tmps[p]?.getD undef = .pointer (some ⟨g, 0, none⟩) := by simpa using hp
  simp [results, h, hp', asAddr, run_loadVar_mid w g 0 ty cs d hc hu hd hi]
/-- The call hands back a waterway of its own, and whether it is one. -/
def GivesW (w : World) (R : List (Int × Int × Int)) (Z : List Int) (x : Bool) (e : Ending) (w' : World) : Prop :=
  ∃ v1 v2 : Value, e = .returned (.tuple #[.agg #[v1, v2], .bool x]) ∧ w'.ownsRow w.heap.size 37 3 v1 R.length (flat R) ∧ w'.ownsRow w.heap.size 3 1 v2 Z.length (Z.map (.int .i64)) ∧ Below w.heap.size w w'
theorem own_nothing {w : World} {B : Nat} {e : TypeId} {k : Nat} : w.ownsRow B e k (.slice none 0 0) 0 [] := by
  refine ⟨by simp, .inl ⟨rfl, rfl⟩⟩
theorem GivesW.fail {w W : World} {b0 : Nat} (hlow : Below w.heap.size w W) (hge : w.heap.size ≤ b0) : GivesW w [] [] false (.returned (.tuple #[.agg #[.slice none 0 0, .slice none 0 0], .bool false])) ((W.setCell ⟨b0, 0, none⟩ (.slice none 0 0)).setCell ⟨b0, 1, none⟩ (.slice none 0 0)) :=
  ⟨_, _, rfl, own_nothing, own_nothing, (hlow.setCell (p := ⟨b0, 0, none⟩) hge _).setCell (p := ⟨b0, 1, none⟩) hge _⟩
theorem fail_range {W : World} {b0 : Nat} {x y : Value} (h : W.heap[b0]? = some (.cells #[.slice none 0 0, .slice none 0 0] 25 (0, 0))) : ((W.setCell ⟨b0, 0, none⟩ x).setCell ⟨b0, 1, none⟩ y).rangeAt b0 0 [x, y] :=
  have k := heap_set2 (u' := x) (v' := y) h
  range2 (cell_of_row _ _ 0 _ _ _ k) (cell_of_row _ _ 1 _ _ _ k)
theorem addOW (g o j : Nat) : (⟨g, o, none⟩ : Addr).add j = ⟨g, o + j, none⟩ := by unfold Addr.add; split <;> simp_all
theorem strs_atW {w : World} {base g c : Nat} {ss : List ByteArray} (h : w.ownsRow base 9 1 (.slice (some ⟨g, 0, none⟩) ss.length c) ss.length (ss.map .string)) {k : Nat} (hk : k < ss.length) : w.cell? ⟨g, k, none⟩ = some (.string ss[k]) := by
  have := h.cellAt k (by omega)
  rw [this]
  simp [hk]
theorem twoW {ws : List ByteArray} (h : ws.length = 2) : ∃ a b, ws = [a, b] := by
  match ws, h with
  | [a, b], _ => exact ⟨a, b, rfl⟩
theorem sevenW {ws : List ByteArray} (h : ws.length = 7) : ∃ a b c d e f g, ws = [a, b, c, d, e, f, g] := by
  match ws, h with
  | [a, b, c, d, e, f, g], _ => exact ⟨a, b, c, d, e, f, g, rfl⟩
theorem PwS.done {B : Nat} {W : World} {b0 b3 : Nat} {v1 v2 : Value} {nR nZ : Nat} {R : List (Int × Int × Int)} {Z : List Int} (h : PwS B W b0 b3 v1 v2 nR nZ R Z) :
    ((W.setCell ⟨b0, 0, none⟩ v1).setCell ⟨b0, 1, none⟩ v2).ownsRow B 37 3 v1 nR (flat R) ∧ ((W.setCell ⟨b0, 0, none⟩ v1).setCell ⟨b0, 1, none⟩ v2).ownsRow B 3 1 v2 nZ (Z.map (.int .i64)) := by
  have k := heap_setA (u' := v1) h.res
  have r1 := h.r.kept (grown_setW W b0 0 v1) (.inr (own_off h.r h.res ne_wr))
  have z1 := h.z.kept (grown_setW W b0 0 v1) (.inr (own_off h.z h.res ne_wi))
  exact ⟨r1.kept (grown_setW _ b0 1 v2) (.inr (own_off r1 k ne_wr)), z1.kept (grown_setW _ b0 1 v2) (.inr (own_off z1 k ne_wi))⟩
theorem PwS.way {B : Nat} {W : World} {b0 b3 : Nat} {A1 A2 : Option Addr} {c1 c2 : Nat} {nR nZ : Nat} {R : List (Int × Int × Int)} {Z : List Int} (h : PwS B W b0 b3 (.slice A1 nR c1) (.slice A2 nZ c2) nR nZ R Z) (hR : R.length = nR) (hZ : Z.length = nZ) : IsWay W W.heap.size A1 nR A2 nZ R Z :=
  ⟨hR, hZ, Nat.le_refl _, own_hasv h.r, own_hasv h.z⟩
theorem flat_appW : ∀ (rs ts : List (Int × Int × Int)), flat (rs ++ ts) = flat rs ++ flat ts
  | [], _ => rfl
  | r :: rs, ts => by simp only [List.cons_append, flat, flat_appW rs ts]
theorem cell_1W (w : World) (a : Value) (t : TypeId) : ∀ j u, [a][j]? = some u → (w.alloc (.cells #[a] t)).cell? ((⟨w.heap.size, 0, none⟩ : Addr).add j) = some u := by
  intro j u h
  rw [addOW, Nat.zero_add, sNew]
  simpa using h
theorem cell_3W (w : World) (a b c : Value) (t : TypeId) : ∀ j u, [a, b, c][j]? = some u → (w.alloc (.cells #[a, b, c] t)).cell? ((⟨w.heap.size, 0, none⟩ : Addr).add j) = some u := by
  intro j u h
  rw [addOW, Nat.zero_add, sNew]
  simpa using h
theorem strneW {a b : ByteArray} (h : a ≠ b) : (a.toList != b.toList) = true := by
  unfold bne; rw [toList_ne h]; rfl
set_option maxRecDepth 100000 in
set_option maxHeartbeats 8000000 in
theorem l2Parse_any (t : ByteArray) (w : World) (ht : t.size ≤ 1048576) (R9 : List (Int × Int × Int)) (Z9 : List Int) (x9 : Bool) (hp : ParsedW t R9 Z9 x9) :
    Calls Tryd.prog 9 #[.string t] w (GivesW w R9 Z9 x9) := by
  obtain ⟨i0, hi, hz0, hz1, hz2⟩ := info_parts Tryd.infoInt'
  obtain ⟨j0, hj, jz0, jz1, jz2⟩ := info_parts Tryd.infoReach'
  have HP := Lib.hid hp
  obtain ⟨b0, hb0⟩ : ∃ b, w.heap.size = b := ⟨_, rfl⟩
  obtain ⟨W4, hW4⟩ : ∃ W, (((w.alloc (wayO (.slice none 0 0) (.slice none 0 0))).alloc (.cells #[] 37)).alloc (.cells #[] 3)).alloc (wayO (.slice (some ⟨b0 + 1, 0, none⟩) 0 0) (.slice (some ⟨b0 + 1 + 1, 0, none⟩) 0 0)) = W := ⟨_, rfl⟩
  clear hp
  go_enter Tryd.func9, Tryd.ntmps9
  go_wp2_with fail
  have hres : W4.heap[b0]? = some (.cells #[.slice none 0 0, .slice none 0 0] 25 (0, 0)) := by
    rw [← hW4, ← hb0]
    exact (heap_alloc_old _ _ (by simp; omega)).trans ((heap_alloc_old _ _ (by simp; omega)).trans ((heap_alloc_old _ _ (by simp)).trans (heap_alloc_new w _)))
  have hbox : W4.heap[b0 + 1 + 1 + 1]? = some (.cells #[.slice (some ⟨b0 + 1, 0, none⟩) 0 0, .slice (some ⟨b0 + 1 + 1, 0, none⟩) 0 0] 25 (0, 0)) := by
    have h := heap_alloc_new (((w.alloc (wayO (.slice none 0 0) (.slice none 0 0))).alloc (.cells #[] 37)).alloc (.cells #[] 3)) (wayO (.slice (some ⟨b0 + 1, 0, none⟩) 0 0) (.slice (some ⟨b0 + 1 + 1, 0, none⟩) 0 0))
    rw [← hW4, ← hb0]
    rw [← hb0] at h
    simpa using h
  have hr0 : W4.ownsRow w.heap.size 37 3 (.slice (some ⟨b0 + 1, 0, none⟩) 0 0) 0 (flat []) := by
    have h := World.ownsRow_made (size := 3) (e := 37) (w.alloc (wayO (.slice none 0 0) (.slice none 0 0))) #[] 0 (base := w.heap.size) (by simp) (by unfold maxLen; omega) rfl
    have h2 := own_below h ((Below.refl _ _).alloc (Nat.le_refl _) (.cells #[] 3))
    have h3 := own_below h2 ((Below.refl _ _).alloc (Nat.le_refl _) (wayO (.slice (some ⟨b0 + 1, 0, none⟩) 0 0) (.slice (some ⟨b0 + 1 + 1, 0, none⟩) 0 0)))
    rw [hW4] at h3
    rw [← hb0]
    simpa [flat] using h3
  have hz0' : W4.ownsRow w.heap.size 3 1 (.slice (some ⟨b0 + 1 + 1, 0, none⟩) 0 0) 0 (([] : List Int).map (.int .i64)) := by
    have h := World.ownsRow_made (size := 1) (e := 3) ((w.alloc (wayO (.slice none 0 0) (.slice none 0 0))).alloc (.cells #[] 37)) #[] 0 (base := w.heap.size) (by simp; omega) (by unfold maxLen; omega) rfl
    have h3 := own_below h ((Below.refl _ _).alloc (Nat.le_refl _) (wayO (.slice (some ⟨b0 + 1, 0, none⟩) 0 0) (.slice (some ⟨b0 + 1 + 1, 0, none⟩) 0 0)))
    rw [hW4] at h3
    rw [← hb0]
    simpa using h3
  have hlow : Below w.heap.size w W4 := by
    rw [← hW4]
    exact (((((Below.refl _ w).alloc (Nat.le_refl _) _).alloc (by simp) _).alloc (by simp; omega) _).alloc (by simp; omega) _)
  have HP0 : Hid (PwS w.heap.size W4 b0 (b0 + 1 + 1 + 1) (.slice (some ⟨b0 + 1, 0, none⟩) 0 0) (.slice (some ⟨b0 + 1 + 1, 0, none⟩) 0 0) 0 0 [] []) := Lib.hid ⟨hres, hbox, hr0, hz0'⟩
  have HLOW := Lib.hid hlow
  have hge : w.heap.size ≤ b0 := by omega
  clear hres hbox hr0 hz0' hlow hW4
  refine (l1Split_any t 10 W4 ht).mono ?_
  rintro e w1 ⟨gl, cl, rfl, hgl, hown, hb⟩
  have HP1 := Lib.hid (HP0.out.below hb)
  have HB1 := Lib.hid (HLOW.out.trans (hb.mono HLOW.out.size))
  have HL1 := Lib.hid hown
  clear hown hb HP0 HLOW hgl
  have HSX := Lib.hid (parts_sizeW t 10)
  have HN0 := Lib.hid (parts_ne t 10)
  have HNL := Lib.hid (parts_lenW t 10)
  have HTX : Hid (∀ rs zs, goodW rs zs → txt rs zs rs.length = t → specK (parts t 10) ((parts t 10).length - 1) = some (rs, zs)) := Lib.hid (fun rs zs hg he => specK_txt hg he)
  obtain ⟨ls, hls⟩ : ∃ ls, parts t 10 = ls := ⟨_, rfl⟩
  rw [hls] at HL1 HSX HN0 HNL HTX
  rw [hls]
  clear hls
  obtain ⟨b3, hb3⟩ : ∃ b, b0 + 1 + 1 + 1 = b := ⟨_, rfl⟩
  have hne03 : b0 ≠ b3 := by omega
  rw [hb3] at HP1
  rw [hb3]
  have hge3 : w.heap.size ≤ b3 := by omega
  clear hb3 hb0
  obtain ⟨BL, hBL⟩ : ∃ b, W4.heap.size = b := ⟨_, rfl⟩
  rw [hBL] at HL1
  clear hBL
  by_cases hsz : (400 : Int) < (t.size : Int)
  · obtain ⟨rfl, rfl, rfl⟩ := HP.out.not (fun rs zs hg he => by have := txt_400 hg he; omega)
    have hC0 := cell_of_row _ _ 0 _ _ _ HP1.out.res
    have hC1 := cell_of_row _ _ 1 _ _ _ HP1.out.res
    have hF0 := frozen_of_row _ _ 0 _ _ HP1.out.res
    have hF1 := frozen_of_row _ _ 1 _ _ HP1.out.res
    go_wp2_with fail
    refine bodyPost_ret (results_wayT rfl _ _ b0 [.slice none 0 0, .slice none 0 0] _ rfl (fail_range HP1.out.res) Tryd.underlying25 rfl (by kernel_rfl)) rfl ?_
    exact GivesW.fail HB1.out hge
  · go_wp2_with fail
    go_loopw [6] (fun i wr => ∃ (k : Nat) (R : List (Int × Int × Int)) (Z : List Int) (nR nZ g1 c1 g2 c2 : Nat), specK ls k = some (R, Z) ∧ k + 1 ≤ ls.length ∧ i = .int .i64 k ∧ R.length = nR ∧ Z.length = nZ ∧ nR ≤ k ∧ nZ ≤ k ∧ PwS w.heap.size wr b0 b3 (.slice (some ⟨g1, 0, none⟩) nR c1) (.slice (some ⟨g2, 0, none⟩) nZ c2) nR nZ R Z ∧ Below w.heap.size w wr ∧ Hid (wr.ownsRow BL 9 1 (.slice (some ⟨gl, 0, none⟩) ls.length cl) ls.length (ls.map .string))) (fun i _ => ls.length - (intOf i).toNat)
    case atStart => exact ⟨0, [], [], 0, 0, _, 0, _, 0, rfl, HN0.out, rfl, rfl, rfl, Nat.le_refl _, Nat.le_refl _, HP1.out, HB1.out, HL1⟩
    case round =>
      clear HP1 HB1 HL1
      obtain ⟨k, R, Z, nR, nZ, g1, c1, g2, c2, hst, hk, rfl, hR, hZ, hRk, hZk, hpw, hb, HL⟩ := hrel
      have HST := Lib.hid hst
      have HPW := Lib.hid hpw
      have HB := Lib.hid hb
      have HRL := Lib.hid (And.intro hR hZ)
      have hll : ls.length ≤ 500 := by have := HNL.out; omega
      clear hst hR hZ hpw hb
      by_cases hlt : k + 1 < ls.length
      · have hkl : k < ls.length := by omega
        have f0 := strs_atW HL.out hkl
        have hlz : (ls[k]'hkl).size ≤ 1048576 := by have := HSX.out _ (List.getElem_mem hkl); omega
        have HSS := Lib.hid (specK_succ hkl)
        obtain ⟨line, hline⟩ : ∃ l, ls[k]'hkl = l := ⟨_, rfl⟩
        rw [hline] at f0 hlz HSS
        have f1 : wr.cell? ((⟨gl, 0, none⟩ : Addr).add k) = some (.string line) := by rw [addOW, Nat.zero_add]; exact f0
        have C1 := Lib.hid (l1Split_any line 32 wr hlz)
        have hk0 : (0 : Int) ≤ (k : Int) := by omega
        have hk1 : (k : Int) < (ls.length : Int) - 1 := by omega
        have hk2 : (k : Int) < (ls.length : Int) := by omega
        clear hline hkl
        go_wp2_with fail
        refine C1.out.mono ?_
        rintro e w2 ⟨g9, c9, rfl, hg9, hown, hb⟩
        have HP2 := Lib.hid (HPW.out.below hb)
        have HB2 := Lib.hid (HB.out.trans (hb.mono HB.out.size))
        have HL2 := Lib.hid (own_below HL.out hb)
        have HWS := Lib.hid (parts_sizeW line 32)
        have HWO := Lib.hid hown
        have HFAIL : Hid (specStep (R, Z) line = none → R9 = [] ∧ Z9 = [] ∧ x9 = false) := Lib.hid (fun e => HP.out.not (fun rs zs hg he => by
          have h1 := HTX.out rs zs hg he
          have h2 : specK ls (k + 1) = none := by rw [HSS.out, HST.out]; exact e
          have h3 := specK_none h2 (ls.length - 1 - (k + 1)) (by omega)
          rw [show k + 1 + (ls.length - 1 - (k + 1)) = ls.length - 1 by omega, h1] at h3
          cases h3))
        have HNEXT : Hid (∀ st, specStep (R, Z) line = some st → specK ls (k + 1) = some st) := Lib.hid (fun st e => by rw [HSS.out, HST.out]; exact e)
        clear hb hown C1 f0 f1 HPW HB HL HSS HST
        obtain ⟨q, hq⟩ : ∃ q, (parts line 32).length = q := ⟨_, rfl⟩
        rw [hq]
        have HQ := Lib.hid hq
        clear hq
        have k0 := cell_of_row _ _ 0 _ _ _ HP2.out.box
        have k1 := cell_of_row _ _ 1 _ _ _ HP2.out.box
        by_cases h2 : q = 2
        · subst h2
          obtain ⟨a, b, hab⟩ := twoW HQ.out
          have x1 := strs_atW HWO.out (k := 1) (by rw [HQ.out]; omega)
          simp only [hab, List.getElem_cons_succ, List.getElem_cons_zero] at x1
          have hbz : b.size ≤ 1048576 := by have := HWS.out b (by rw [hab]; simp); omega
          have C2 := Lib.hid (l1Read_any b w2 hbz)
          have HSB := Lib.hid (specStep_2 (st := (R, Z)) hab)
          clear hab HWO HWS
          cases hr : rdO b with
          | none =>
            rw [hr] at C2
            obtain ⟨rfl, rfl, rfl⟩ := HFAIL.out (by rw [HSB.out, hr]; rfl)
            clear hr
            go_wp2_with fail
            refine C2.out.mono ?_
            rintro e w3 ⟨rfl, hD⟩
            have HP3 := Lib.hid (HP2.out.below (hD.below _))
            have HB3 := Lib.hid (HB2.out.trans (hD.below _))
            clear hD C2 k0 k1 x1 HP2 HB2
            have hC0 := cell_of_row _ _ 0 _ _ _ HP3.out.res
            have hC1 := cell_of_row _ _ 1 _ _ _ HP3.out.res
            have hF0 := frozen_of_row _ _ 0 _ _ HP3.out.res
            have hF1 := frozen_of_row _ _ 1 _ _ HP3.out.res
            go_wp2_with fail
            refine bodyPost_ret (results_wayT rfl _ _ b0 [.slice none 0 0, .slice none 0 0] _ rfl (fail_range HP3.out.res) Tryd.underlying25 rfl (by kernel_rfl)) rfl ?_
            exact GivesW.fail HB3.out hge
          | some z =>
            rw [hr] at C2
            have HN := Lib.hid (HNEXT.out _ (by rw [HSB.out, hr]; rfl))
            obtain ⟨hz3, hz4, -⟩ := rdO_some hr
            clear hr
            have HE2 : Hid (∀ v, (Option.some z).getD 0 = v → v = z) := Lib.hid (fun v e => e.symm)
            go_wp2_with fail
            refine C2.out.mono ?_
            rintro e w3 ⟨rfl, hD⟩
            have HP3 := Lib.hid (HP2.out.below (hD.below _))
            have HB3 := Lib.hid (HB2.out.trans (hD.below _))
            have HL3 := Lib.hid (own_below HL2.out (hD.below _))
            clear hD C2 k0 k1 x1 HP2 HB2 HL2
            have k0 := cell_of_row _ _ 0 _ _ _ HP3.out.box
            have k1 := cell_of_row _ _ 1 _ _ _ HP3.out.box
            have HPA := Lib.hid (HP3.out.below ((Below.refl _ _).alloc (Nat.le_refl _) (.cells #[.int .i64 z] 3)))
            have HBA := Lib.hid (HB3.out.alloc HB3.out.size (.cells #[.int .i64 z] 3))
            have HLA := Lib.hid (own_below HL3.out ((Below.refl _ _).alloc (Nat.le_refl _) (.cells #[.int .i64 z] 3)))
            have HSZ := Lib.hid HB3.out.size
            go_wp2_with (at_builtin; go_loud (refine wpList_append_own _ rfl (.tmp 52) (.tmp 54) 23 rfl w.heap.size 3 i0 (.int .i64 0) 1 8 Tryd.underlying23 hi hz0 hz1 hz2 rfl (by decide) (.slice (some ⟨g2, 0, none⟩) nZ c2) nZ _ rfl HPA.out.z ⟨w3.heap.size, 0, none⟩ 1 1 [.int .i64 z] rfl rfl (cell_1W _ _ _) (by simp [Value.oneCell']) (by unfold maxLen; omega) (by omega) (by have := HSZ.out; simp; omega) ?_; intro v1 w4 hown1 hgrow1 hnil1; obtain ⟨g5, c5, rfl, hg5⟩ := own_some hown1 (fun e => nomatch (hnil1.1 e).1); refine Hid.out ?_))
            have hon : w4.ownsRow w.heap.size 3 1 (.slice (some ⟨g5, 0, none⟩) (nZ + 1) c5) (nZ + 1) ((Z ++ [z]).map (.int .i64)) := by rw [List.map_append]; exact hown1
            obtain ⟨q0, q3, qr⟩ := PwS.afterZ HPA.out hgrow1 hon
            have e0 := cell_of_row _ _ 0 _ _ _ q3
            have e1 := cell_of_row _ _ 1 _ _ _ q3
            have fz := frozen_of_row _ _ 1 _ _ q3
            have HPN := Lib.hid (PwS.putZ hne03 q0 q3 qr hon)
            have HLN := Lib.hid ((HLA.out.kept hgrow1 (own_ne HLA.out HPA.out.z ne_si)).kept (grown_setW w4 b3 1 (.slice (some ⟨g5, 0, none⟩) (nZ + 1) c5)) (.inr (own_off (HLA.out.kept hgrow1 (own_ne HLA.out HPA.out.z ne_si)) q3 ne_sw)))
            have HBN := Lib.hid ((HBA.out.grown hgrow1 (by have := HSZ.out; simp; omega) (fun q hq => by cases hq; exact (HPA.out.z.lt g2 rfl).1)).setCell (p := ⟨b3, 1, none⟩) hge3 (.slice (some ⟨g5, 0, none⟩) (nZ + 1) c5))
            clear hon q0 q3 qr hown1 hgrow1 hnil1 hg5 HPA HBA HLA HSZ HP3 HB3 HL3 k0 k1
            refine Lib.hid ?_
            go_wp2_with fail
            go_roundw
            case rel => exact ⟨k + 1, _, _, nR, nZ + 1, _, _, _, _, HN.out, by omega, by go_num, HRL.out.1, by rw [List.length_append, HRL.out.2]; rfl, by omega, by omega, HPN.out, HBN.out, HLN⟩
            case measure => simp [intOf]; omega
        · by_cases h7 : q = 7
          · subst h7
            obtain ⟨a, b, a2, d, a3, f, a4, hab⟩ := sevenW HQ.out
            have x1 := strs_atW HWO.out (k := 1) (by rw [HQ.out]; omega)
            have x3 := strs_atW HWO.out (k := 3) (by rw [HQ.out]; omega)
            have x5 := strs_atW HWO.out (k := 5) (by rw [HQ.out]; omega)
            simp only [hab, List.getElem_cons_succ, List.getElem_cons_zero] at x1 x3 x5
            have hbz : b.size ≤ 1048576 := by have := HWS.out b (by rw [hab]; simp); omega
            have hdz : d.size ≤ 1048576 := by have := HWS.out d (by rw [hab]; simp); omega
            have hfz : f.size ≤ 1048576 := by have := HWS.out f (by rw [hab]; simp); omega
            have C2 := Lib.hid (fun W => l1Read_any b W hbz)
            have C3 := Lib.hid (fun W => l1Read_any d W hdz)
            have C4 := Lib.hid (fun W => l1Read_any f W hfz)
            have HSB := Lib.hid (specStep_7 (st := (R, Z)) hab)
            have hg92 : g9 < w2.heap.size := (HWO.out.lt g9 rfl).2
            have HX3 := Lib.hid x3
            have HX5 := Lib.hid x5
            clear hab HWO HWS x3 x5
            obtain ⟨ro1, hr1⟩ : ∃ r, rdO b = r := ⟨_, rfl⟩
            obtain ⟨ro2, hr2⟩ : ∃ r, rdO d = r := ⟨_, rfl⟩
            obtain ⟨ro3, hr3⟩ : ∃ r, rdO f = r := ⟨_, rfl⟩
            rw [hr1] at C2
            rw [hr2] at C3
            rw [hr3] at C4
            rw [hr1, hr2, hr3] at HSB
            obtain ⟨y1, hy1⟩ : ∃ y, ro1.getD 0 = y := ⟨_, rfl⟩
            obtain ⟨y2, hy2⟩ : ∃ y, ro2.getD 0 = y := ⟨_, rfl⟩
            obtain ⟨y3, hy3⟩ : ∃ y, ro3.getD 0 = y := ⟨_, rfl⟩
            rw [hy1] at C2
            rw [hy2] at C3
            rw [hy3] at C4
            have HY := Lib.hid (And.intro hy1 (And.intro hy2 hy3))
            clear hr1 hr2 hr3 hy1 hy2 hy3
            go_wp2_with fail
            refine (C2.out _).mono ?_
            rintro e w3 ⟨rfl, hD⟩
            have HP3 := Lib.hid (HP2.out.below (hD.below _))
            have HB3 := Lib.hid (HB2.out.trans (hD.below _))
            have HL3 := Lib.hid (own_below HL2.out (hD.below _))
            have x3 := ((hD.below w2.heap.size).cell (p := ⟨g9, 3, none⟩) hg92).trans HX3.out
            have HX5' := Lib.hid (((hD.below w2.heap.size).cell (p := ⟨g9, 5, none⟩) hg92).trans HX5.out)
            have hg93 : g9 < w3.heap.size := by have := (hD.below w2.heap.size).size; omega
            clear hD C2 k0 k1 x1 HP2 HB2 HL2 HX3 HX5 hg92
            go_wp2_with fail
            refine (C3.out _).mono ?_
            rintro e w4 ⟨rfl, hD⟩
            have HP4 := Lib.hid (HP3.out.below (hD.below _))
            have HB4 := Lib.hid (HB3.out.trans (hD.below _))
            have HL4 := Lib.hid (own_below HL3.out (hD.below _))
            have x5 := ((hD.below w3.heap.size).cell (p := ⟨g9, 5, none⟩) hg93).trans HX5'.out
            clear hD C3 x3 HP3 HB3 HL3 HX5' hg93
            go_wp2_with fail
            refine (C4.out _).mono ?_
            rintro e w5 ⟨rfl, hD⟩
            have HP5 := Lib.hid (HP4.out.below (hD.below _))
            have HB5 := Lib.hid (HB4.out.trans (hD.below _))
            have HL5 := Lib.hid (own_below HL4.out (hD.below _))
            clear hD C4 x5 HP4 HB4 HL4
            by_cases hall : ro1.isSome = true ∧ ro2.isSome = true ∧ ro3.isSome = true
            · obtain ⟨s1, s2, s3⟩ := hall
              have HN : Hid (specK ls (k + 1) = some (R ++ [(y1, y2, y3)], Z)) := Lib.hid (HNEXT.out _ (by
                rw [HSB.out]
                obtain ⟨e1, e2, e3⟩ := HY.out
                cases ro1 with
                | none => cases s1
                | some u1 => cases ro2 with
                  | none => cases s2
                  | some u2 => cases ro3 with
                    | none => cases s3
                    | some u3 => subst e1; subst e2; subst e3; rfl))
              have k0 := cell_of_row _ _ 0 _ _ _ HP5.out.box
              have k1 := cell_of_row _ _ 1 _ _ _ HP5.out.box
              have HPA := Lib.hid (HP5.out.below ((Below.refl _ _).alloc (Nat.le_refl _) (.cells #[.int .i64 y1, .int .i64 y2, .int .i64 y3] 37)))
              have HBA := Lib.hid (HB5.out.alloc HB5.out.size (.cells #[.int .i64 y1, .int .i64 y2, .int .i64 y3] 37))
              have HLA := Lib.hid (own_below HL5.out ((Below.refl _ _).alloc (Nat.le_refl _) (.cells #[.int .i64 y1, .int .i64 y2, .int .i64 y3] 37)))
              have HSZ := Lib.hid HB5.out.size
              clear HY HSB
              go_wp2_with (at_builtin; go_loud (refine wpList_append_own _ rfl (.tmp 94) (.tmp 99) 22 rfl w.heap.size 37 j0 (.agg #[.int .i64 0, .int .i64 0, .int .i64 0]) 3 24 Tryd.underlying22 hj jz0 jz1 jz2 rfl (by decide) (.slice (some ⟨g1, 0, none⟩) nR c1) nR _ rfl HPA.out.r ⟨w5.heap.size, 0, none⟩ 1 1 [.int .i64 y1, .int .i64 y2, .int .i64 y3] rfl rfl (cell_3W _ _ _ _ _) (by simp [Value.oneCell']) (by unfold maxLen; omega) (by omega) (by have := HSZ.out; simp; omega) ?_; intro v1 w6 hown1 hgrow1 hnil1; obtain ⟨g5, c5, rfl, hg5⟩ := own_some hown1 (fun e => nomatch (hnil1.1 e).1); refine Hid.out ?_))
              have hon : w6.ownsRow w.heap.size 37 3 (.slice (some ⟨g5, 0, none⟩) (nR + 1) c5) (nR + 1) (flat (R ++ [(y1, y2, y3)])) := by rw [flat_appW]; exact hown1
              obtain ⟨q0, q3, qz⟩ := PwS.afterR HPA.out hgrow1 hon
              have e0 := cell_of_row _ _ 0 _ _ _ q3
              have e1 := cell_of_row _ _ 1 _ _ _ q3
              have fz := frozen_of_row _ _ 0 _ _ q3
              have HPN := Lib.hid (PwS.putR hne03 q0 q3 hon qz)
              have HLN := Lib.hid ((HLA.out.kept hgrow1 (own_ne HLA.out HPA.out.r ne_sr)).kept (grown_setW w6 b3 0 (.slice (some ⟨g5, 0, none⟩) (nR + 1) c5)) (.inr (own_off (HLA.out.kept hgrow1 (own_ne HLA.out HPA.out.r ne_sr)) q3 ne_sw)))
              have HBN := Lib.hid ((HBA.out.grown hgrow1 (by have := HSZ.out; simp; omega) (fun q hq => by cases hq; exact (HPA.out.r.lt g1 rfl).1)).setCell (p := ⟨b3, 0, none⟩) hge3 (.slice (some ⟨g5, 0, none⟩) (nR + 1) c5))
              clear hon q0 q3 qz hown1 hgrow1 hnil1 hg5 HPA HBA HLA HSZ HP5 HB5 HL5 k0 k1
              refine Lib.hid ?_
              go_wp2_with fail
              go_roundw
              case rel => exact ⟨k + 1, _, _, nR + 1, nZ, _, _, _, _, HN.out, by omega, by go_num, by rw [List.length_append, HRL.out.1]; rfl, HRL.out.2, by omega, by omega, HPN.out, HBN.out, HLN⟩
              case measure => simp [intOf]; omega
            · obtain ⟨rfl, rfl, rfl⟩ := HFAIL.out (by
                rw [HSB.out]
                cases ro1 with
                | none => rfl
                | some u1 => cases ro2 with
                  | none => rfl
                  | some u2 => cases ro3 with
                    | none => rfl
                    | some u3 => exact absurd ⟨rfl, rfl, rfl⟩ hall)
              clear HY HSB
              cases hs1 : ro1.isSome with
              | false =>
                have hC0 := cell_of_row _ _ 0 _ _ _ HP5.out.res
                have hC1 := cell_of_row _ _ 1 _ _ _ HP5.out.res
                have hF0 := frozen_of_row _ _ 0 _ _ HP5.out.res
                have hF1 := frozen_of_row _ _ 1 _ _ HP5.out.res
                go_wp2_with fail
                refine bodyPost_ret (results_wayT rfl _ _ b0 [.slice none 0 0, .slice none 0 0] _ rfl (fail_range HP5.out.res) Tryd.underlying25 rfl (by kernel_rfl)) rfl ?_
                exact GivesW.fail HB5.out hge
              | true =>
                cases hs2 : ro2.isSome with
                | false =>
                  have hC0 := cell_of_row _ _ 0 _ _ _ HP5.out.res
                  have hC1 := cell_of_row _ _ 1 _ _ _ HP5.out.res
                  have hF0 := frozen_of_row _ _ 0 _ _ HP5.out.res
                  have hF1 := frozen_of_row _ _ 1 _ _ HP5.out.res
                  go_wp2_with fail
                  refine bodyPost_ret (results_wayT rfl _ _ b0 [.slice none 0 0, .slice none 0 0] _ rfl (fail_range HP5.out.res) Tryd.underlying25 rfl (by kernel_rfl)) rfl ?_
                  exact GivesW.fail HB5.out hge
                | true =>
                  have hs3 : ro3.isSome = false := by
                    cases h9 : ro3.isSome with
                    | false => rfl
                    | true => exact absurd ⟨hs1, hs2, h9⟩ hall
                  have hC0 := cell_of_row _ _ 0 _ _ _ HP5.out.res
                  have hC1 := cell_of_row _ _ 1 _ _ _ HP5.out.res
                  have hF0 := frozen_of_row _ _ 0 _ _ HP5.out.res
                  have hF1 := frozen_of_row _ _ 1 _ _ HP5.out.res
                  go_wp2_with fail
                  refine bodyPost_ret (results_wayT rfl _ _ b0 [.slice none 0 0, .slice none 0 0] _ rfl (fail_range HP5.out.res) Tryd.underlying25 rfl (by kernel_rfl)) rfl ?_
                  exact GivesW.fail HB5.out hge
          · have hq2 : ((q : Int) == 2) = false := by simp; omega
            have hq7 : ((q : Int) == 7) = false := by simp; omega
            have HN := Lib.hid (HNEXT.out _ (specStep_no (st := (R, Z)) (by rw [HQ.out]; exact h2) (by rw [HQ.out]; exact h7)))
            clear HFAIL HNEXT k0 k1 h2 h7 HWO HWS
            go_wp2_with fail
            go_roundw
            case rel => exact ⟨k + 1, _, _, nR, nZ, _, _, _, _, HN.out, by omega, by go_num, HRL.out.1, HRL.out.2, by omega, by omega, HP2.out, HB2.out, HL2⟩
            case measure => simp [intOf]; omega
      · have hkn : k = ls.length - 1 := by omega
        have hend : ¬ (k : Int) < (ls.length : Int) - 1 := by omega
        have HALL : Hid (∀ rs zs, goodW rs zs → txt rs zs rs.length = t → rs = R ∧ zs = Z) := Lib.hid (fun rs zs hg he => by
          have h1 := HTX.out rs zs hg he
          rw [← hkn, HST.out] at h1
          injection h1 with h1
          injection h1 with h2 h3
          exact ⟨h2.symm, h3.symm⟩)
        obtain ⟨rfl, rfl⟩ := HRL.out
        have HWAY := Lib.hid (HPW.out.way rfl rfl)
        have k0 := cell_of_row _ _ 0 _ _ _ HPW.out.box
        have k1 := cell_of_row _ _ 1 _ _ _ HPW.out.box
        have hR6 : R.length ≤ maxLen := by unfold maxLen; omega
        clear HL HST HSX HTX HNL HN0
        by_cases hg : goodW R Z
        · have C1 := Lib.hid ((good_two c1 c2 HWAY.out hR6 true (fun _ => rfl) (fun g => absurd hg g)).1)
          have HG := Lib.hid hg
          clear hg
          go_wp2_with fail
          refine C1.out.mono ?_
          rintro e w3 ⟨rfl, hb⟩
          have HP3 := Lib.hid (HPW.out.below hb)
          have HB3 := Lib.hid (HB.out.trans (hb.mono HB.out.size))
          have C2 := Lib.hid (l2Text_any c1 c2 (HWAY.out.below hb HWAY.out.low) HG.out)
          clear hb C1 HPW HB HWAY k0 k1
          have k0 := cell_of_row _ _ 0 _ _ _ HP3.out.box
          have k1 := cell_of_row _ _ 1 _ _ _ HP3.out.box
          obtain ⟨T, hT⟩ : ∃ T, txt R Z R.length = T := ⟨_, rfl⟩
          rw [hT] at C2
          have HT := Lib.hid hT
          clear hT
          go_wp2_with fail
          refine C2.out.mono ?_
          rintro e w4 ⟨rfl, hb⟩
          have HP4 := Lib.hid (HP3.out.below hb)
          have HB4 := Lib.hid (HB3.out.trans (hb.mono HB3.out.size))
          clear hb C2 HP3 HB3 k0 k1
          by_cases he : T = t
          · subst he
            obtain ⟨rfl, rfl, rfl⟩ := HP.out.yes R Z HG.out HT.out
            have hself : (T.toList != T.toList) = false := by simp
            have hself2 : (T.toList == T.toList) = true := by simp
            have k0 := cell_of_row _ _ 0 _ _ _ HP4.out.box
            have k1 := cell_of_row _ _ 1 _ _ _ HP4.out.box
            have e0 := cell_of_row _ _ 0 _ _ _ HP4.out.res
            have e1 := cell_of_row _ _ 1 _ _ _ HP4.out.res
            have f0 := frozen_of_row _ _ 0 _ _ HP4.out.res
            have f1 := frozen_of_row _ _ 1 _ _ HP4.out.res
            go_wp2_with fail
            refine bodyPost_ret (results_wayT rfl _ _ b0 [.slice (some ⟨g1, 0, none⟩) R9.length c1, .slice (some ⟨g2, 0, none⟩) Z9.length c2] _ rfl (fail_range HP4.out.res) Tryd.underlying25 rfl (by kernel_rfl)) rfl ?_
            exact ⟨_, _, rfl, HP4.out.done.1, HP4.out.done.2, (HB4.out.setCell (p := ⟨b0, 0, none⟩) hge _).setCell (p := ⟨b0, 1, none⟩) hge _⟩
          · have hne := strneW he
            have hne2 := toList_ne he
            obtain ⟨rfl, rfl, rfl⟩ := HP.out.not (fun rs zs hg he2 => by
              obtain ⟨rfl, rfl⟩ := HALL.out rs zs hg he2
              exact he (HT.out.symm.trans he2))
            clear he
            have hC0 := cell_of_row _ _ 0 _ _ _ HP4.out.res
            have hC1 := cell_of_row _ _ 1 _ _ _ HP4.out.res
            have hF0 := frozen_of_row _ _ 0 _ _ HP4.out.res
            have hF1 := frozen_of_row _ _ 1 _ _ HP4.out.res
            go_wp2_with fail
            refine bodyPost_ret (results_wayT rfl _ _ b0 [.slice none 0 0, .slice none 0 0] _ rfl (fail_range HP4.out.res) Tryd.underlying25 rfl (by kernel_rfl)) rfl ?_
            exact GivesW.fail HB4.out hge
        · have C1 := Lib.hid ((good_two c1 c2 HWAY.out hR6 false (fun g => absurd g hg) (fun _ => rfl)).1)
          obtain ⟨rfl, rfl, rfl⟩ := HP.out.not (fun rs zs hg2 he2 => by
            obtain ⟨rfl, rfl⟩ := HALL.out rs zs hg2 he2
            exact hg hg2)
          clear hg
          go_wp2_with fail
          refine C1.out.mono ?_
          rintro e w3 ⟨rfl, hb⟩
          have HP3 := Lib.hid (HPW.out.below hb)
          have HB3 := Lib.hid (HB.out.trans (hb.mono HB.out.size))
          clear hb C1 HPW HB HWAY k0 k1
          have hC0 := cell_of_row _ _ 0 _ _ _ HP3.out.res
          have hC1 := cell_of_row _ _ 1 _ _ _ HP3.out.res
          have hF0 := frozen_of_row _ _ 0 _ _ HP3.out.res
          have hF1 := frozen_of_row _ _ 1 _ _ HP3.out.res
          go_wp2_with fail
          refine bodyPost_ret (results_wayT rfl _ _ b0 [.slice none 0 0, .slice none 0 0] _ rfl (fail_range HP3.out.res) Tryd.underlying25 rfl (by kernel_rfl)) rfl ?_
          exact GivesW.fail HB3.out hge
end Go.Proofs.YtkdolpgnaabdaabDoor
