/- Chapter 10: what the laws draw; basins beside basins; a part of a list of flows; a sum. -/
import Derived.Test.YtliebicnejbheaaWbC
import Derived.Test.YtliebicnejbheaaDraw
import Derived.Test.YtliebicnejbheaaVInt
namespace Go.Proofs.Ytliebicnejbheaa
open Go.RowKit Go.PlainAid Go.Sort
set_option linter.unusedVariables false
set_option linter.unusedSimpArgs false

def DrwB (w : World) (e : Ending) (w' : World) : Prop :=
  ∃ (g c q : Nat) (vs : List TBasin), e = .returned (.slice (some ⟨g, 0, none⟩) q c) ∧ q ≤ 8 ∧ q ≤ c ∧ IsBasins w' w'.heap.size (some ⟨g, 0, none⟩) q vs ∧ Below w.heap.size w w'
def DrwBF (w : World) (e : Ending) (w' : World) : Prop :=
  ∃ (g c q : Nat) (vs : List TBasin) (f0 f1 f2 : Int), e = .returned (.tuple #[.slice (some ⟨g, 0, none⟩) q c, .agg #[.int .i64 f0, .int .i64 f1, .int .i64 f2]]) ∧ q ≤ 8 ∧ q ≤ c ∧ IsBasins w' w'.heap.size (some ⟨g, 0, none⟩) q vs ∧ Below w.heap.size w w' ∧ w.heap.size ≤ g
def DrwB3 (w : World) (e : Ending) (w' : World) : Prop :=
  ∃ (g c q : Nat) (vs : List TBasin) (f0 f1 f2 : Int), e = .returned (.tuple #[.slice (some ⟨g, 0, none⟩) q c, .int .i64 f0, .int .i64 f1, .int .i64 f2]) ∧ q ≤ 8 ∧ q ≤ c ∧ IsBasins w' w'.heap.size (some ⟨g, 0, none⟩) q vs ∧ Below w.heap.size w w'
def DrwBFs (w : World) (e : Ending) (w' : World) : Prop :=
  ∃ (g c q : Nat) (vs : List TBasin) (g2 c2 m : Nat) (fs : List TFlow), e = .returned (.tuple #[.slice (some ⟨g, 0, none⟩) q c, .slice (some ⟨g2, 0, none⟩) m c2]) ∧ q ≤ 8 ∧ q ≤ c ∧ m ≤ 16 ∧ m ≤ c2 ∧ IsBasins w' w'.heap.size (some ⟨g, 0, none⟩) q vs ∧ IsFlows w' w'.heap.size (some ⟨g2, 0, none⟩) m fs ∧ Below w.heap.size w w'
theorem OwnN.is {w W : World} {g1 q c1 : Nat} (h : OwnN w W g1 q c1) : q ≤ c1 ∧ ∃ vs, IsBasins W W.heap.size (some ⟨g1, 0, none⟩) q vs := by
  obtain ⟨L, h0, h1, h2⟩ := h
  exact ⟨own_capB h2, L, own_Basins h2⟩
theorem OwnFl.is {w W : World} {g1 q c1 : Nat} (h : OwnFl w W g1 q c1) : q ≤ c1 ∧ ∃ vs, IsFlows W W.heap.size (some ⟨g1, 0, none⟩) q vs := by
  obtain ⟨L, h1, h2⟩ := h
  exact ⟨own_capB h2, L, own_Flows h2⟩
theorem IsFlows.take {w : World} {B : Nat} {A : Option Addr} {n : Nat} {fs : List TFlow} (h : IsFlows w B A n fs) {k : Nat} (hk : k ≤ n) : IsFlows w B A k (fs.take k) := by
  refine ⟨by rw [List.length_take, h.len]; omega, h.low, fun j u hu => h.has j u ?_⟩
  have e : flatFlow fs = flatFlow (fs.take k) ++ flatFlow (fs.drop k) := by rw [← flatFlow_append, List.take_append_drop]
  rw [e, List.getElem?_append_left (List.getElem?_eq_some_iff.1 hu).1]
  exact hu
set_option maxHeartbeats 1000000 in
theorem drawB_any {w : World} {A : Option Addr} {n : Nat} {zs : List Int} {B : Nat} (c : Nat) (h : Code_ w A n zs B) :
    Calls Try.prog 69 #[.slice A n c] w (DrwB w) := by
  have H := Lib.hid (h.start c)
  have hbs := Lib.hid (fun w' (h : (w.alloc (.cells #[.slice A n c, .int .i64 0, .int .u64 0] 73)).grownBy w' (some w.heap.size)) => below_start h)
  have C := Lib.hid (basins_at (h.start c) (by omega))
  clear h
  go_enter Try.func69, Try.ntmps69
  go_wp2_with fail
  refine C.out.mono ?_
  rintro e w1 ⟨g1, q, c1, rfl, hq, ho, hs⟩
  obtain ⟨hqc, vs, hvs⟩ := ho.is
  have HR := Lib.hid hvs
  have HB := Lib.hid (hbs.out _ hs.grown)
  clear hs ho hvs H C
  go_wp2_with fail
  refine bodyPost_ret (results_tmp rfl _ _ _) rfl ?_
  exact ⟨g1, c1, q, vs, rfl, hq, hqc, HR.out, HB.out⟩
set_option maxHeartbeats 1000000 in
theorem drawT_any {w : World} {A : Option Addr} {n : Nat} {zs : List Int} {B : Nat} (c : Nat) (h : Code_ w A n zs B) :
    Calls Try.prog 29 #[.slice A n c] w (DrwB w) := by
  have C := Lib.hid (drawB_any c h)
  clear h
  go_enter Try.func29, Try.ntmps29
  go_wp2_with fail
  refine C.out.mono ?_
  rintro e w1 ⟨g1, c1, q, vs, rfl, h1, h2, h3, h4⟩
  have H3 := Lib.hid h3
  have H4 := Lib.hid h4
  clear h3 h4 C
  go_wp2_with fail
  refine bodyPost_ret (results_tmp rfl _ _ _) rfl ?_
  exact ⟨g1, c1, q, vs, rfl, h1, h2, H3.out, H4.out⟩
set_option maxHeartbeats 1000000 in
theorem drawLv_any {w : World} {A : Option Addr} {n : Nat} {zs : List Int} {B : Nat} (c : Nat) (h : Code_ w A n zs B) :
    Calls Try.prog 34 #[.slice A n c] w (DrwB w) := by
  have C := Lib.hid (drawB_any c h)
  clear h
  go_enter Try.func34, Try.ntmps34
  go_wp2_with fail
  refine C.out.mono ?_
  rintro e w1 ⟨g1, c1, q, vs, rfl, h1, h2, h3, h4⟩
  have H3 := Lib.hid h3
  have H4 := Lib.hid h4
  clear h3 h4 C
  go_wp2_with fail
  refine bodyPost_ret (results_tmp rfl _ _ _) rfl ?_
  exact ⟨g1, c1, q, vs, rfl, h1, h2, H3.out, H4.out⟩
theorem results_tc {P : Program} {fn : Func} {p t : Tmp} {ty : TypeId} (h : fn.results = #[.tmp t, .cell p ty]) (tmps : Array Value) (w : World) (g : Nat) (cs : List Value) (d : TypeDesc)
    (hp : tmps.getD p undef = .pointer (some ⟨g, 0, none⟩)) (hc : w.rangeAt g 0 cs) (hu : P.underlying ty = some d) (hd : d.isRow = true) (hi : (P.info? ty).map (·.size) = some cs.length) :
    (results fn tmps).run P w = .ok (.tuple #[tmps.getD t undef, .agg cs.toArray]) w := by
  have hp' : tmps[p]?.getD undef = .pointer (some ⟨g, 0, none⟩) := by simpa using hp
  simp [results, h, hp', asAddr, run_loadVar_mid w g 0 ty cs d hc hu hd hi]
theorem results_tmp4 {fn : Func} {t u v x : Tmp} (h : fn.results = #[.tmp t, .tmp u, .tmp v, .tmp x]) (tmps : Array Value) (P : Program) (w : World) :
    (results fn tmps).run P w = .ok (.tuple #[tmps.getD t undef, tmps.getD u undef, tmps.getD v undef, tmps.getD x undef]) w := by
  simp [results, h]
/-- A row beside a box of another kind, whose cells are written over. -/
theorem has_sets {W : World} {x : Nat} {a b c a' b' c' : Int} {B : Nat} {A : Option Addr} {n : Nat} {vs : List TBasin} (hx : BoxF W x a b c) (h : IsBasins W B A n vs) (hne : ∀ p, A = some p → p.block ≠ x) :
    Has (sets3 W x a' b' c') (sets3 W x a' b' c').heap.size A (flatBasin vs) := by
  have hb := h.all.has
  intro k u hu
  obtain ⟨p, rfl, h1, h2⟩ := hb k u hu
  have hp := hne p rfl
  refine ⟨p, rfl, by simp [sets3, World.setCell]; exact h1, ?_⟩
  have e : ∀ (W' : World) j v, (W'.setCell ⟨x, j, none⟩ v).heap[(p.add k).block]? = W'.heap[(p.add k).block]? := fun W' j v => Below.heap_setCell _ _ _ _ (by rw [addBlock]; exact hp)
  rw [World.cell?_of_block (a := p.add k) (w := W) (by simp only [sets3, e])]
  exact h2
set_option maxHeartbeats 2000000 in
theorem drawI_any {w : World} {A : Option Addr} {n : Nat} {zs : List Int} {B : Nat} (c : Nat) (h : Code_ w A n zs B) :
    Calls Try.prog 66 #[.slice A n c] w (DrwBF w) := by
  have hsz : (w.alloc (.cells #[.int .i64 0, .int .i64 0, .int .i64 0] 38)).heap.size = w.heap.size + 1 := by simp
  have h2 : Code_ (w.alloc (.cells #[.int .i64 0, .int .i64 0, .int .i64 0] 38)) A n zs B := h.on ((below1 w _).mono h.size)
  have H := Lib.hid (h2.start c)
  have BX := Lib.hid ((BoxF.new w 0 0 0).all (below1 _ (.cells #[.slice A n c, .int .i64 0, .int .u64 0] 73)))
  have hbs := Lib.hid (fun w' (h : ((w.alloc (.cells #[.int .i64 0, .int .i64 0, .int .i64 0] 38)).alloc (.cells #[.slice A n c, .int .i64 0, .int .u64 0] 73)).grownBy w' (some (w.alloc (.cells #[.int .i64 0, .int .i64 0, .int .i64 0] 38)).heap.size)) => (below1 w _).trans ((below_start h).mono (by simp)))
  have C := Lib.hid (basins_at (h2.start c) (by omega))
  rw [hsz] at H hbs C
  clear h h2
  go_enter Try.func66, Try.ntmps66
  go_wp2_with fail
  obtain ⟨W0, hW0⟩ : ∃ W, (w.alloc (.cells #[.int .i64 0, .int .i64 0, .int .i64 0] 38)).alloc (.cells #[.slice A n c, .int .i64 0, .int .u64 0] 73) = W := ⟨_, rfl⟩
  rw [hW0] at H BX hbs C ⊢
  clear hW0 hsz
  obtain ⟨xr, hxr⟩ : ∃ x, w.heap.size = x := ⟨_, rfl⟩
  rw [hxr] at BX H C
  have hbs2 : Hid (∀ w', W0.grownBy w' (some (xr + 1)) → Below w.heap.size w w') := Lib.hid (fun w' h => hbs.out w' (by rw [hxr]; exact h))
  clear hbs
  try simp only [hxr]
  have HXR : Hid (w.heap.size ≤ xr) := Lib.hid (by omega)
  clear hxr
  refine C.out.mono ?_
  rintro e w1 ⟨g1, q, c1, rfl, hq, ho, hs⟩
  obtain ⟨vs, hv0, hv1, hv2⟩ := ho
  have hqc := own_capB hv2
  have HR := Lib.hid hv2
  obtain ⟨r5, r50, r51, H5⟩ := hs.at H.out
  have HS1 := Lib.hid hs.grown
  have BX1 := Lib.hid (BX.out.kept hs.grown (by simp))
  have hgx : xr < W0.heap.size := BX.out.lt
  have hne : g1 ≠ xr := by omega
  have hne2 : g1 ≠ xr + 1 := by have := H.out.lt; omega
  clear hs hv2 hv0 C BX
  go_wp2_with fail
  refine (flow_at H5 (by omega) q (by omega)).mono ?_
  rintro e w2 ⟨f0, f1, f2, rfl, hs⟩
  have HB2 := Lib.hid (hbs2.out _ (HS1.out.trans hs.grown))
  have BX2 := Lib.hid (BX1.out.kept hs.grown (by simp))
  have HV2 := Lib.hid (HR.out.kept hs.grown (.inr (by simp [Value.ownBlock]; exact hne2)))
  clear hs HS1 BX1 H5 HR H hbs2
  have x0 := BX2.out.c0
  have x1 := BX2.out.c1
  have x2 := BX2.out.c2
  have z0 := BX2.out.fz 0
  have z1 := BX2.out.fz 1
  have z2 := BX2.out.fz 2
  go_wp2_with fail
  refine bodyPost_ret (results_tc rfl _ _ xr [_, _, _] _ rfl (BoxF.rangeAt (BX2.out.sets f0 f1 f2)) Try.underlying38 rfl (by kernel_rfl)) rfl ?_
  exact ⟨g1, c1, q, vs, f0, f1, f2, rfl, hq, hqc, own_Basins (own_set (own_set (own_set HV2.out xr 0 _ (by simp [Value.ownBlock]; exact hne)) xr 1 _ (by simp [Value.ownBlock]; exact hne)) xr 2 _ (by simp [Value.ownBlock]; exact hne)), sets3_below HB2.out HXR.out _ _ _, by have := HXR.out; omega⟩
set_option maxHeartbeats 2000000 in
theorem drawM_any {w : World} {A : Option Addr} {n : Nat} {zs : List Int} {B : Nat} (c : Nat) (h : Code_ w A n zs B) :
    Calls Try.prog 23 #[.slice A n c] w (DrwBF w) := by
  have hsz : (w.alloc (.cells #[.int .i64 0, .int .i64 0, .int .i64 0] 38)).heap.size = w.heap.size + 1 := by simp
  have C := Lib.hid (drawI_any c (h.on ((below1 w (.cells #[.int .i64 0, .int .i64 0, .int .i64 0] 38)).mono h.size)))
  have BX := Lib.hid (BoxF.new w 0 0 0)
  have HB0 := Lib.hid (below1 w (.cells #[.int .i64 0, .int .i64 0, .int .i64 0] 38))
  clear h
  go_enter Try.func23, Try.ntmps23
  go_wp2_with fail
  obtain ⟨W0, hW0⟩ : ∃ W, (w.alloc (.cells #[.int .i64 0, .int .i64 0, .int .i64 0] 38)) = W := ⟨_, rfl⟩
  rw [hW0] at BX HB0 C hsz ⊢
  clear hW0
  obtain ⟨xr, hxr⟩ : ∃ x, w.heap.size = x := ⟨_, rfl⟩
  rw [hxr] at BX hsz
  try simp only [hxr]
  have HXR : Hid (w.heap.size ≤ xr) := Lib.hid (by omega)
  clear hxr
  refine C.out.mono ?_
  rintro e w2 ⟨g1, c1, q, vs, f0, f1, f2, rfl, hq, hqc, hV, hb, hgq⟩
  have BX2 := Lib.hid (BX.out.all hb)
  have HB2 := Lib.hid (HB0.out.trans (hb.mono HB0.out.size))
  have HV := Lib.hid hV
  clear C BX hb hV HB0
  have x0 := BX2.out.c0
  have x1 := BX2.out.c1
  have x2 := BX2.out.c2
  have z0 := BX2.out.fz 0
  have z1 := BX2.out.fz 1
  have z2 := BX2.out.fz 2
  go_wp2_with fail
  refine bodyPost_ret (results_tc rfl _ _ xr [_, _, _] _ rfl (BoxF.rangeAt (BX2.out.sets f0 f1 f2)) Try.underlying38 rfl (by kernel_rfl)) rfl ?_
  refine ⟨g1, c1, q, vs, f0, f1, f2, rfl, hq, hqc, ⟨HV.out.len, Nat.le_refl _, ?_⟩, sets3_below HB2.out HXR.out _ _ _, by have := HXR.out; omega⟩
  exact has_sets BX2.out HV.out (fun p e => by injection e with e; subst e; dsimp only; omega)
set_option maxHeartbeats 2000000 in
theorem drawMo_any {w : World} {A : Option Addr} {n : Nat} {zs : List Int} {B : Nat} (c : Nat) (h : Code_ w A n zs B) :
    Calls Try.prog 31 #[.slice A n c] w (DrwB3 w) := by
  have C := Lib.hid (drawI_any c h)
  clear h
  go_enter Try.func31, Try.ntmps31
  go_wp2_with fail
  refine C.out.mono ?_
  rintro e w2 ⟨g1, c1, q, vs, f0, f1, f2, rfl, hq, hqc, hV, hb, -⟩
  have BX2 := Lib.hid (BoxF.new w2 f0 f1 f2)
  have HB2 := Lib.hid (hb.alloc hb.size (.cells #[.int .i64 f0, .int .i64 f1, .int .i64 f2] 38))
  have HV := Lib.hid (hV.below (below1 w2 (.cells #[.int .i64 f0, .int .i64 f1, .int .i64 f2] 38)) (Nat.le_refl _))
  clear C hb hV
  go_wp2_with fail
  obtain ⟨W5, hW5⟩ : ∃ W, (w2.alloc (.cells #[.int .i64 f0, .int .i64 f1, .int .i64 f2] 38)) = W := ⟨_, rfl⟩
  obtain ⟨xr, hxr⟩ : ∃ x, w2.heap.size = x := ⟨_, rfl⟩
  rw [hW5] at BX2 HB2 HV ⊢
  rw [hxr] at BX2
  try simp only [hxr]
  clear hW5 hxr
  have x0 := BX2.out.c0
  have x1 := BX2.out.c1
  have x2 := BX2.out.c2
  have E0 := fun (d : Nat) (os : Array Obj) => cell_regrown x0 d os
  have E1 := fun (d : Nat) (os : Array Obj) => cell_regrown x1 d os
  have E2 := fun (d : Nat) (os : Array Obj) => cell_regrown x2 d os
  clear x0 x1 x2
  refine wp_region_quiet_below (by kernel_rfl) (by kernel_rfl) ?_
  repeat (go_big_quiet_step (first | fail))
  refine wpQuiet_nil ?_
  intro _ hw'
  obtain ⟨⟨dq, osq⟩, hw''⟩ := hw'
  subst hw''
  have HB3 := Lib.hid (HB2.out.trans ((below_regrown W5 dq osq).mono HB2.out.size))
  have HV3 := Lib.hid (HV.out.all.below (below_regrown W5 dq osq) (Nat.le_refl _)).all
  go_wp2_with fail
  refine bodyPost_ret (results_tmp4 rfl _ _ _) rfl ?_
  exact ⟨g1, c1, q, vs, f0, f1, f2, rfl, hq, hqc, HV3.out, HB3.out⟩
set_option maxHeartbeats 2000000 in
theorem drawR_any {w : World} {A : Option Addr} {n : Nat} {zs : List Int} {B : Nat} (c : Nat) (h : Code_ w A n zs B) :
    Calls Try.prog 15 #[.slice A n c] w (DrwBFs w) := by
  have H := Lib.hid (h.start c)
  have hbs := Lib.hid (fun w' (h : (w.alloc (.cells #[.slice A n c, .int .i64 0, .int .u64 0] 73)).grownBy w' (some w.heap.size)) => below_start h)
  have hw0 : (w.alloc (.cells #[.slice A n c, .int .i64 0, .int .u64 0] 73)).heap.size = w.heap.size + 1 := by simp
  have C := Lib.hid (basins_at (h.start c) (by omega))
  clear h
  go_enter Try.func15, Try.ntmps15
  go_wp2_with fail
  refine C.out.mono ?_
  rintro e w1 ⟨g1, q, c1, rfl, hq, ho, hs⟩
  obtain ⟨vs, hv0, hv1, hv2⟩ := ho
  have hqc := own_capB hv2
  have HR := Lib.hid hv2
  have hne : g1 ≠ w.heap.size := by omega
  obtain ⟨r5, r50, r51, H5⟩ := hs.at H.out
  have HS1 := Lib.hid hs.grown
  clear hs hv2 hv0 C
  go_wp2_with fail
  refine (flows_at H5 (by omega) q (by omega)).mono ?_
  rintro e w2 ⟨g2, m, c2, rfl, hm, hf, hs⟩
  obtain ⟨hmc, fs, hfs⟩ := hf.is
  have HB2 := Lib.hid (hbs.out _ (HS1.out.trans hs.grown))
  have HV2 := Lib.hid (HR.out.kept hs.grown (.inr (by simp [Value.ownBlock]; exact hne)))
  have HF2 := Lib.hid hfs
  clear hs HS1 H5 HR H hbs hf hfs
  go_wp2_with fail
  refine bodyPost_ret (results_tmp2 rfl _ _ _) rfl ?_
  exact ⟨g1, c1, q, vs, g2, c2, m, fs, rfl, hq, hqc, hm, hmc, own_Basins HV2.out, HF2.out, HB2.out⟩
set_option maxHeartbeats 1000000 in
theorem drawN_any {w : World} {A : Option Addr} {n : Nat} {zs : List Int} {B : Nat} (c : Nat) (h : Code_ w A n zs B) :
    Calls Try.prog 27 #[.slice A n c] w (DrwBFs w) := by
  have C := Lib.hid (drawR_any c h)
  clear h
  go_enter Try.func27, Try.ntmps27
  go_wp2_with fail
  refine C.out.mono ?_
  rintro e w1 ⟨g1, c1, q, vs, g2, c2, m, fs, rfl, h1, h2, h3, h4, h5, h6, h7⟩
  have H5 := Lib.hid h5
  have H6 := Lib.hid h6
  have H7 := Lib.hid h7
  clear h5 h6 h7 C
  go_wp2_with fail
  refine bodyPost_ret (results_tmp2 rfl _ _ _) rfl ?_
  exact ⟨g1, c1, q, vs, g2, c2, m, fs, rfl, h1, h2, h3, h4, H5.out, H6.out, H7.out⟩
set_option maxHeartbeats 1000000 in
theorem drawRf_any {w : World} {A : Option Addr} {n : Nat} {zs : List Int} {B : Nat} (c : Nat) (h : Code_ w A n zs B) :
    Calls Try.prog 37 #[.slice A n c] w (DrwBFs w) := by
  have C := Lib.hid (drawR_any c h)
  clear h
  go_enter Try.func37, Try.ntmps37
  go_wp2_with fail
  refine C.out.mono ?_
  rintro e w1 ⟨g1, c1, q, vs, g2, c2, m, fs, rfl, h1, h2, h3, h4, h5, h6, h7⟩
  have H5 := Lib.hid h5
  have H6 := Lib.hid h6
  have H7 := Lib.hid h7
  clear h5 h6 h7 C
  go_wp2_with fail
  refine bodyPost_ret (results_tmp2 rfl _ _ _) rfl ?_
  exact ⟨g1, c1, q, vs, g2, c2, m, fs, rfl, h1, h2, h3, h4, H5.out, H6.out, H7.out⟩
set_option maxHeartbeats 1000000 in
theorem vBasins_same {w : World} {B1 B2 : Nat} {A1 A2 : Option Addr} {n : Nat} {vs : List TBasin} (c1 c2 : Nat) (h1 : IsBasins w B1 A1 n vs) (h2 : IsBasins w B2 A2 n vs) (hm : n ≤ 1048576) :
    Calls Try.prog 18 #[.slice A1 n c1, .slice A2 n c2] w fun e w' => e = .returned (.bool true) ∧ Below w.heap.size w w' := by
  have HL := Lib.hid h1.len
  have H1 := Lib.hid h1
  have H2 := Lib.hid h2
  clear h1 h2
  go_enter Try.func18, Try.ntmps18
  go_wp2
  go_loopw [5] (fun i wr => ∃ k : Nat, k ≤ n ∧ i = .int .i64 k ∧ Below w.heap.size w wr) (fun i _ => n - (intOf i).toNat)
  case atStart => exact ⟨0, Nat.zero_le _, rfl, Below.refl _ _⟩
  case round =>
    obtain ⟨k, hk, rfl, hb⟩ := hrel
    by_cases hlt : k < n
    · have hkl : k < vs.length := by rw [HL.out]; exact hlt
      obtain ⟨a1, rfl, _, hs1⟩ := (H1.out.has.below (hb.mono H1.out.low)).Basin hkl
      obtain ⟨a2, rfl, _, hs2⟩ := (H2.out.has.below (hb.mono H2.out.low)).Basin hkl
      have e0 := hs1.c0
      have e1 := hs1.c1
      have e2 := hs1.c2
      have g0 := hs2.c0
      have g1 := hs2.c1
      have g2 := hs2.c2
      clear hs1 hs2
      generalize vs.getD k noBasin = V at e0 e1 e2 g0 g1 g2
      obtain ⟨x, y, z⟩ := V
      dsimp only at e0 e1 e2 g0 g1 g2
      have E0 := fun (d : Nat) (os : Array Obj) => cell_regrown e0 d os
      have E1 := fun (d : Nat) (os : Array Obj) => cell_regrown e1 d os
      have E2 := fun (d : Nat) (os : Array Obj) => cell_regrown e2 d os
      have G0 := fun (d : Nat) (os : Array Obj) => cell_regrown g0 d os
      have G1 := fun (d : Nat) (os : Array Obj) => cell_regrown g1 d os
      have G2 := fun (d : Nat) (os : Array Obj) => cell_regrown g2 d os
      have hk0 : (0 : Int) ≤ (k : Int) := by omega
      have hk1 : (k : Int) < (n : Int) := by omega
      have HB := Lib.hid hb
      clear hb H1 H2 e0 e1 e2 g0 g1 g2
      go_wp2
      refine wp_region_quiet_below (by kernel_rfl) (by kernel_rfl) ?_
      repeat (go_big_quiet_step (first | fail))
      refine wpQuiet_nil ?_
      intro _ hw'
      obtain ⟨⟨dq, osq⟩, hw''⟩ := hw'
      subst hw''
      have HB1 := Lib.hid (HB.out.trans ((below_regrown wr dq osq).mono HB.out.size))
      go_wp2
      go_roundw
      case rel => exact ⟨k + 1, by omega, by go_num, HB1.out⟩
      case measure => simp [intOf]; omega
    · obtain rfl : k = n := by omega
      clear H1 H2
      go_wp2
      go_ret
      exact ⟨rfl, hb⟩
def sumZ (zs : List Int) : Nat → Int
  | 0 => 0
  | k + 1 => sumZ zs k + zs.getD k 0
theorem sumZ_zero {zs : List Int} : ∀ k, (∀ j, j < k → zs.getD j 0 = 0) → sumZ zs k = 0
  | 0, _ => rfl
  | k + 1, h => by
    have ih := sumZ_zero (zs := zs) k (fun j hj => h j (by omega))
    have := h k (by omega)
    unfold sumZ
    omega
theorem sumZ_bd {zs : List Int} : ∀ k, (∀ j, j < k → 0 ≤ zs.getD j 0 ∧ zs.getD j 0 ≤ 2000000) → 0 ≤ sumZ zs k ∧ sumZ zs k ≤ 2000000 * (k : Int)
  | 0, _ => by unfold sumZ; omega
  | k + 1, h => by
    have ih := sumZ_bd (zs := zs) k (fun j hj => h j (by omega))
    have := h k (by omega)
    unfold sumZ
    omega
set_option maxHeartbeats 1000000 in
theorem vSum_any {w : World} {B n : Nat} {A : Option Addr} {zs : List Int} (c : Nat) (hn : zs.length = n) (h : Has w B A (zs.map (.int .i64))) (hm : n ≤ 1000) (hz : ∀ j, j < n → 0 ≤ zs.getD j 0 ∧ zs.getD j 0 ≤ 2000000) :
    Calls Try.prog 41 #[.slice A n c] w fun e w' => e = .returned (.int .i64 (sumZ zs n)) ∧ w = w' := by
  have HI := Lib.hid h
  have HL := Lib.hid hn
  have HZ := Lib.hid hz
  clear h hn hz
  go_enter Try.func41, Try.ntmps41
  go_wp2_with fail
  go_loop [3, 4] (fun s i => ∃ k : Nat, k ≤ n ∧ i = .int .i64 k ∧ s = .int .i64 (sumZ zs k)) (fun _ i => n - (intOf i).toNat)
  case atStart => exact ⟨0, Nat.zero_le _, rfl, rfl⟩
  case round =>
    obtain ⟨k, hk, rfl, rfl⟩ := hrel
    by_cases hlt : k < n
    · obtain ⟨a, rfl, hab, ez⟩ := intGet HI.out (k := k) (by rw [HL.out]; exact hlt)
      have hb := sumZ_bd k (fun j hj => HZ.out j (by omega))
      have hzk := HZ.out k hlt
      have HS : Hid (sumZ zs (k + 1) = sumZ zs k + zs.getD k 0) := Lib.hid rfl
      generalize zs.getD k 0 = z at ez hzk HS
      generalize sumZ zs k = t at hb HS ⊢
      have hk0 : (0 : Int) ≤ (k : Int) := by omega
      have hk1 : (k : Int) < (n : Int) := by omega
      go_wp2_with fail
      go_round
      case rel => exact ⟨k + 1, by omega, by go_num, by rw [HS.out]⟩
      case measure => simp [intOf]; omega
    · obtain rfl : k = n := by omega
      go_wp2_with fail
      go_ret
      exact ⟨rfl, rfl⟩
end Go.Proofs.Ytliebicnejbheaa
