/- Chapter 10: a Flow made: the copy of a row of Basins, one poured in a row of one's own, one made in a copy. -/
import Derived.Test.YtliebicnejbheaaWaB
import Derived.Test.YtliebicnejbheaaInv
import Derived.Lib.LazyBuf
import Derived.Maps.AppendAt
namespace Go.Proofs.Ytliebicnejbheaa
open Go.RowKit Go.PlainAid Go.Sort
set_option linter.unusedVariables false
set_option linter.unusedSimpArgs false

theorem addO (g o j : Nat) : (⟨g, o, none⟩ : Addr).add j = ⟨g, o + j, none⟩ := by unfold Addr.add; split <;> simp_all
theorem own_set {w : World} {base : Nat} {e : TypeId} {size n : Nat} {v : Value} {xs : List Value} (h : w.ownsRow base e size v n xs) (b o : Nat) (u : Value) (hne : v.ownBlock ≠ some b) : (w.setCell ⟨b, o, none⟩ u).ownsRow base e size v n xs :=
  h.kept (row := some b) ⟨rfl, rfl, rfl, by simp [World.setCell], fun k _ hk => Below.heap_setCell _ _ _ _ (fun e => hk (by rw [e]))⟩ (.inr hne)
theorem own_capB {w : World} {base : Nat} {e : TypeId} {g n c : Nat} {xs : List Value} {z : Nat} (h : w.ownsRow base e z (.slice (some ⟨g, 0, none⟩) n c) n xs) : n ≤ c := by
  rcases h.2 with ⟨h1, h2⟩ | ⟨g, cap, cur, h1, -, -, h2, -⟩
  · cases h1
  · injection h1 with _ _ h3; omega
/-- A Basin of an own row, in the forms that the walk asks for. -/
theorem own_atB {w : World} {base g n c : Nat} {xs : List TBasin} (h : w.ownsRow base 53 3 (.slice (some ⟨g, 0, none⟩) n c) n (flatBasin xs)) {k : Nat} (hk : k < n) :
    w.cell? ⟨g, k * 3, none⟩ = some (.int .i64 (xs.getD k noBasin).x0) ∧ w.cell? ⟨g, k * 3 + 1, none⟩ = some (.int .i64 (xs.getD k noBasin).x1) ∧ w.cell? ⟨g, k * 3 + 2, none⟩ = some (.int .i64 (xs.getD k noBasin).x2) := by
  have hl : xs.length = n := by have := h.1; rw [flatBasin_len] at this; omega
  obtain ⟨f0, f1, f2⟩ := flatBasin_at xs k (by omega)
  rw [getBasin (by omega)]
  exact ⟨(h.cellAt (k * 3) (by omega)).trans f0, (h.cellAt (k * 3 + 1) (by omega)).trans f1, (h.cellAt (k * 3 + 2) (by omega)).trans f2⟩
theorem own_lenB {w : World} {base g n c : Nat} {xs : List TBasin} (h : w.ownsRow base 53 3 (.slice (some ⟨g, 0, none⟩) n c) n (flatBasin xs)) : xs.length = n := by
  have := h.1; rw [flatBasin_len] at this; omega
/-- A row of Basins of one's own. -/
def OwnB (w w' : World) (L : List TBasin) (n : Nat) (v : Value) : Prop :=
  ∃ g c, v = .slice (some ⟨g, 0, none⟩) n c ∧ w.heap.size ≤ g ∧ w'.ownsRow w.heap.size 53 3 (.slice (some ⟨g, 0, none⟩) n c) n (flatBasin L) ∧ Below w.heap.size w w'
theorem OwnB.below {w w' W : World} {L : List TBasin} {n : Nat} {v : Value} (h : OwnB w w' L n v) (hb : Go.RowKit.Below w'.heap.size w' W) : OwnB w W L n v := by
  obtain ⟨g, c, rfl, h1, h2, h3⟩ := h
  exact ⟨g, c, rfl, h1, own_below h2 hb, h3.trans (hb.mono h3.size)⟩
theorem OwnB.low {w w' : World} {L : List TBasin} {n : Nat} {v : Value} (h : OwnB w w' L n v) : Go.RowKit.Below w.heap.size w w' := by
  obtain ⟨g, c, rfl, h1, h2, h3⟩ := h
  exact h3
theorem OwnB.base {w0 w w' : World} {L : List TBasin} {n : Nat} {v : Value} (h : OwnB w w' L n v) (hb : Go.RowKit.Below w0.heap.size w0 w) : OwnB w0 w' L n v := by
  obtain ⟨g, c, rfl, h1, h2, h3⟩ := h
  exact ⟨g, c, rfl, Nat.le_trans hb.size h1, own_low h2 hb.size, hb.trans (h3.mono hb.size)⟩
theorem OwnB.nil {w w0 : World} (hb : Below w.heap.size w w0) : OwnB w (w0.alloc (.cells #[] 53)) [] 0 (.slice (some ⟨w0.heap.size, 0, none⟩) 0 0) :=
  ⟨w0.heap.size, 0, rfl, hb.size, own_low (World.ownsRow_made w0 #[] 0 (Nat.le_refl _) (by unfold maxLen; omega) rfl) hb.size, hb.alloc hb.size _⟩
def GivesB (w : World) (L : List TBasin) (m : Nat) (x : Bool) (e : Ending) (w' : World) : Prop :=
  ∃ g c', e = .returned (.tuple #[.slice (some ⟨g, 0, none⟩) m c', .bool x]) ∧ w'.ownsRow w.heap.size 53 3 (.slice (some ⟨g, 0, none⟩) m c') m (flatBasin L) ∧ Below w.heap.size w w'
theorem OwnB.gives {w w' : World} {L : List TBasin} {n : Nat} {v : Value} (h : OwnB w w' L n v) (x : Bool) : GivesB w L n x (.returned (.tuple #[v, .bool x])) w' := by
  obtain ⟨g, c, rfl, h1, h2, h3⟩ := h
  exact ⟨g, c, rfl, h2, h3⟩
theorem some_of {w : World} {B n : Nat} {A : Option Addr} {vs : List TBasin} (h : IsBasins w B A n vs) (hn : 0 < n) : ∃ a, A = some a := by
  obtain ⟨a, ea, -⟩ := h.has.Basin (k := 0) (by rw [h.len]; exact hn)
  exact ⟨a, ea⟩

/-- The first k Basins behind a Flow, the others ahead of it. -/
def mvK (vs : List TBasin) (f : TFlow) (k : Nat) : List TBasin := vs.mapIdx fun i b => if i < k then mv f i b else b
theorem mvK_len (vs : List TBasin) (f : TFlow) (k : Nat) : (mvK vs f k).length = vs.length := by simp [mvK]
theorem mvK_zero (vs : List TBasin) (f : TFlow) : mvK vs f 0 = vs := by
  refine List.ext_getElem (by simp [mvK]) (fun i h1 h2 => ?_)
  simp [mvK]
theorem mvK_all (vs : List TBasin) (f : TFlow) : mvK vs f vs.length = move vs f := by
  refine List.ext_getElem (by simp [mvK, move]) (fun i h1 h2 => ?_)
  have : i < vs.length := by rwa [mvK_len] at h1
  simp [mvK, move, this]
theorem mvK_at {vs : List TBasin} {f : TFlow} {k : Nat} (h : k < vs.length) : (mvK vs f k).getD k noBasin = vs.getD k noBasin := by
  rw [getBasin (by rw [mvK_len]; exact h), getBasin h]
  simp [mvK]
theorem mvK_set {vs : List TBasin} {f : TFlow} {k : Nat} (h : k < vs.length) : (mvK vs f k).set k (mv f k (vs.getD k noBasin)) = mvK vs f (k + 1) := by
  rw [getBasin h]
  refine List.ext_getElem (by simp [mvK]) (fun i h1 h2 => ?_)
  simp only [List.getElem_set, mvK, List.getElem_mapIdx]
  by_cases e : k = i
  · subst e; rw [if_pos rfl, if_pos (by omega)]
  · rw [if_neg e]
    by_cases e2 : i < k
    · rw [if_pos e2, if_pos (by omega)]
    · rw [if_neg e2, if_neg (by omega)]

set_option maxRecDepth 100000 in
set_option maxHeartbeats 1000000 in
theorem cloneB_any {w : World} {B n : Nat} {a : Addr} {vs : List TBasin} (c : Nat) (h : IsBasins w B (some a) n vs) (hm : n ≤ 1000) :
    Calls Try.prog 59 #[.slice (some a) n c] w fun e w' => ∃ v, e = .returned v ∧ OwnB w w' vs n v := by
  obtain ⟨i0, hi, hz0, hz1, hz2⟩ := info_parts Try.infoBasin'
  have hfl : (flatBasin vs).length = n * 3 := by rw [flatBasin_len, h.len]; omega
  have HN : Hid (∀ j u, (flatBasin vs)[j]? = some u → (w.alloc (.cells #[] 53)).cell? (a.add j) = some u) := Lib.hid (fun j u hu => by
    obtain ⟨a', e, hb, hc⟩ := (h.below (below1 w (.cells #[] 53)) h.low).has j u hu
    injection e with e
    subst e
    exact hc)
  have HO : Hid (∀ u ∈ flatBasin vs, u.oneCell' = true) := Lib.hid (flatBasin_one vs)
  have HR := Lib.hid (World.ownsRow_made (size := 3) (e := 53) w #[] 0 (Nat.le_refl _) (by unfold maxLen; omega) rfl)
  have heq := run_eql_slice_nil (P := Try.prog) w 24 53 (some a) n c Try.underlying24
  rw [Option.isNone_some] at heq
  unfold OwnB
  generalize flatBasin vs = xs at hfl HN HO ⊢
  clear h
  go_enter Try.func59, Try.ntmps59
  go_wp2_with (at_builtin; refine wpList_append_own _ rfl (.tmp 5) (.tmp 6) 24 rfl w.heap.size 53 i0 (.agg #[.int .i64 0, .int .i64 0, .int .i64 0]) 3 24 Try.underlying24 hi hz0 hz1 hz2 rfl (by decide) (.slice (some ⟨w.heap.size, 0, none⟩) 0 0) 0 [] rfl HR.out a n c xs rfl hfl HN.out HO.out (by unfold maxLen; omega) (by omega) (by simp) ?_; intro v1 w1 hown1 hgrow1 hnil1; obtain ⟨g1, c1, rfl, hg1⟩ := own_some hown1 (fun e => nomatch (hnil1.1 e).1); have HB1 := Lib.hid (((Below.refl w.heap.size w).alloc (Nat.le_refl _) (.cells #[] 53)).grown hgrow1 (by simp) (fun q hq => by cases hq; exact Nat.le_refl _)); rw [Nat.zero_add, List.nil_append] at hown1; have HOWN := Lib.hid hown1; clear hown1 hgrow1 hnil1)
  go_ret
  exact ⟨_, rfl, g1, c1, by simp, hg1, HOWN.out, HB1.out⟩

theorem own_turn {w : World} {base g n c : Nat} {xs : List TBasin} (h : w.ownsRow base 53 3 (.slice (some ⟨g, 0, none⟩) n c) n (flatBasin xs)) {k : Nat} (hk : k < n) (z y : Int) (hy : y = (xs.getD k noBasin).x0 + z) :
    (w.setCell ⟨g, k * 3, none⟩ (.int .i64 y)).ownsRow base 53 3 (.slice (some ⟨g, 0, none⟩) n c) n (flatBasin (addTo xs k z)) ∧ w.grownBy (w.setCell ⟨g, k * 3, none⟩ (.int .i64 y)) (some g) := by
  have s := h.stored (k * 3) (.int .i64 y)
  rw [← addTo_flat z (by rw [own_lenB h]; exact hk), ← hy]
  exact s
theorem grown_below {w w' W : World} {g : Option Nat} (h : w.grownBy w' g) (hb : Below w'.heap.size w' W) : w.grownBy W g := h.trans ⟨hb.os, hb.tape, hb.output, hb.size, fun k hk _ => hb.block k hk⟩
set_option maxRecDepth 100000 in
set_option maxHeartbeats 2000000 in
/-- The first half of pour leaves the box and the row of its first half. -/
theorem pour_any {w : World} {base g n c : Nat} {vs : List TBasin} (hown : w.ownsRow base 53 3 (.slice (some ⟨g, 0, none⟩) n c) n (flatBasin vs)) (hn : n ≤ 6) (f0 f1 f2 : Int) (hf : goodF n ⟨f0, f1, f2⟩) (hbd : bdB 12 vs) :
    Calls Try.prog 65 #[.slice (some ⟨g, 0, none⟩) n c, .agg #[.int .i64 f0, .int .i64 f1, .int .i64 f2]] w fun e w' => e = .returned (.tuple #[]) ∧
      w'.ownsRow base 53 3 (.slice (some ⟨g, 0, none⟩) n c) n (flatBasin (move vs ⟨f0, f1, f2⟩)) ∧ w.grownBy w' (some g) := by
  have hl := own_lenB hown
  have HP : Hid (pourB (pourA vs ⟨f0, f1, f2⟩) ⟨f0, f1, f2⟩ = move vs ⟨f0, f1, f2⟩) := Lib.hid (pour_move (by rw [hl]; exact hf))
  have HLA : Hid ((pourA vs ⟨f0, f1, f2⟩).length = n) := Lib.hid (by rw [pourA_len, hl])
  have HBV : Hid (∀ k, k < n → -1200000 ≤ (vs.getD k noBasin).x0 ∧ (vs.getD k noBasin).x0 ≤ 1300000) := Lib.hid (fun k hk => by
    have hb := hbd k (by omega)
    omega)
  obtain ⟨⟨h1, h2⟩, ⟨h3, h4⟩, h5, h6, h7⟩ := hf
  dsimp only at h1 h2 h3 h4 h5 h6 h7
  have HO5 := Lib.hid hown
  have hgw := (hown.lt g rfl).2
  clear hown hbd
  by_cases g0 : f0 = -1
  · subst g0
    obtain ⟨q, rfl⟩ : ∃ q : Nat, f1 = (q : Int) := ⟨f1.toNat, by omega⟩
    have hq : q < n := by omega
    obtain ⟨z0, -, -⟩ := own_atB HO5.out (k := q) hq
    have z1 := HO5.out.frozenAt (q * 3)
    have hbz := HBV.out q hq
    have HT := Lib.hid (fun y hy => own_turn HO5.out (k := q) hq f2 y hy)
    have HE : Hid (addTo vs q f2 = move vs ⟨-1, (q : Int), f2⟩) := Lib.hid (by rw [← HP.out]; unfold pourB pourA; rw [if_pos rfl, if_neg (by simp)]; simp)
    obtain ⟨z, hz⟩ : ∃ z, (vs.getD q noBasin).x0 = z := ⟨_, rfl⟩
    rw [hz] at z0 hbz HT
    have hq1 : (q : Int) < (n : Int) := by omega
    have hq0 : (0 : Int) ≤ (q : Int) := by omega
    have b1 : ((q : Int) != -1) = true := by simp
    have b0 : ((-1 : Int) != -1) = false := by simp
    clear hz HO5 HP HBV
    go_enter Try.func65, Try.ntmps65
    go_wp2_with fail
    go_region
    all_goals go_wp2_with fail
    refine bodyPost_end (results_none rfl _ _ _) rfl ?_
    obtain ⟨t1, t2⟩ := HT.out (z + f2) rfl
    rw [HE.out] at t1
    exact ⟨rfl, (Drawn.one _ 1).own (own_below t1 (below1 _ _)), grown_below (grown_below t2 (below1 _ _)) ((Drawn.one _ 1).below _)⟩
  · obtain ⟨p, rfl⟩ : ∃ p : Nat, f0 = (p : Int) := ⟨f0.toNat, by omega⟩
    have hp : p < n := by omega
    obtain ⟨y0, -, -⟩ := own_atB HO5.out (k := p) hp
    have y1 := HO5.out.frozenAt (p * 3)
    have hby := HBV.out p hp
    have HS := Lib.hid (fun y hy => own_turn HO5.out (k := p) hp (-f2) y hy)
    have hp1 : (p : Int) < (n : Int) := by omega
    have hp0 : (0 : Int) ≤ (p : Int) := by omega
    have b0 : ((p : Int) != -1) = true := by simp
    by_cases g1 : f1 = -1
    · subst g1
      have HE : Hid (addTo vs p (-f2) = move vs ⟨(p : Int), -1, f2⟩) := Lib.hid (by rw [← HP.out]; unfold pourB pourA; rw [if_pos rfl, if_neg (by simp)]; simp)
      obtain ⟨z, hz⟩ : ∃ z, (vs.getD p noBasin).x0 = z := ⟨_, rfl⟩
      rw [hz] at y0 hby HS
      have b1 : ((-1 : Int) != -1) = false := by simp
      clear hz HO5 HP HBV
      go_enter Try.func65, Try.ntmps65
      go_wp2_with fail
      go_region
      all_goals go_wp2_with fail
      refine bodyPost_end (results_none rfl _ _ _) rfl ?_
      obtain ⟨t1, t2⟩ := HS.out (z - f2) (by omega)
      rw [HE.out] at t1
      exact ⟨rfl, (Drawn.one _ 1).own (own_below t1 (below1 _ _)), grown_below (grown_below t2 (below1 _ _)) ((Drawn.one _ 1).below _)⟩
    · obtain ⟨q, rfl⟩ : ∃ q : Nat, f1 = (q : Int) := ⟨f1.toNat, by omega⟩
      have hq : q < n := by omega
      obtain ⟨z0, -, -⟩ := own_atB HO5.out (k := q) hq
      have z1 := HO5.out.frozenAt (q * 3)
      have hbz := HBV.out q hq
      have hpq : p ≠ q := by omega
      have hqp : q ≠ p := by omega
      have HE : Hid (addTo (addTo vs p (-f2)) q f2 = move vs ⟨(p : Int), (q : Int), f2⟩) := Lib.hid (by rw [← HP.out]; unfold pourB pourA; rw [if_neg (by simp), if_neg (by simp)]; simp)
      have HX : Hid (((addTo vs p (-f2)).getD q noBasin).x0 = (vs.getD q noBasin).x0) := Lib.hid (by rw [addTo_at _ (by omega) (by omega), if_neg hqp])
      have HT := Lib.hid (fun y hy W (hW : World.ownsRow W base 53 3 (.slice (some ⟨g, 0, none⟩) n c) n (flatBasin (addTo vs p (-f2)))) => own_turn hW (k := q) hq f2 y hy)
      rw [HX.out] at HT
      obtain ⟨y, hy⟩ : ∃ z, (vs.getD p noBasin).x0 = z := ⟨_, rfl⟩
      rw [hy] at y0 hby HS
      obtain ⟨z, hz⟩ : ∃ z, (vs.getD q noBasin).x0 = z := ⟨_, rfl⟩
      rw [hz] at z0 hbz HT
      have hq1 : (q : Int) < (n : Int) := by omega
      have hq0 : (0 : Int) ≤ (q : Int) := by omega
      have b1 : ((q : Int) != -1) = true := by simp
      clear hz hy HO5 HP HBV HX
      go_enter Try.func65, Try.ntmps65
      go_wp2_with fail
      go_region
      all_goals go_wp2_with fail
      go_region
      all_goals go_wp2_with fail
      refine bodyPost_end (results_none rfl _ _ _) rfl ?_
      obtain ⟨s1, s2⟩ := HS.out (y - f2) (by omega)
      obtain ⟨t1, t2⟩ := HT.out (z + f2) rfl _ s1
      rw [HE.out] at t1
      exact ⟨rfl, ((Drawn.one _ 1).trans (Drawn.one _ 1)).own (own_below t1 (below1 _ _)), grown_below (grown_below (s2.trans t2) (below1 _ _)) (((Drawn.one _ 1).trans (Drawn.one _ 1)).below _)⟩
end Go.Proofs.Ytliebicnejbheaa
