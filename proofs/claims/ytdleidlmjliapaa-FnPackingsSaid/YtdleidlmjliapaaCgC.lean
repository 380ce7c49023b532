/- Chapter 4: a chamber and hulls that the laws draw. -/
import Derived.Test.YtdleidlmjliapaaCgB
import Derived.Test.YtdleidlmjliapaaDraw
namespace Go.Proofs.Ytdleidlmjliapaa
open Go.RowKit Go.PlainAid Go.Sort
set_option linter.unusedVariables false
set_option linter.unusedSimpArgs false

theorem results_rowM1 {P : Program} {fn : Func} {p t : Tmp} {ty : TypeId} (h : fn.results = #[.cell p ty, .tmp t]) (tmps : Array Value) (w : World) (g : Nat) (cs : List Value) (d : TypeDesc)
    (hp : tmps.getD p undef = .pointer (some ⟨g, 0, none⟩)) (hc : w.rangeAt g 0 cs) (hu : P.underlying ty = some d) (hd : d.isRow = true) (hi : (P.info? ty).map (·.size) = some cs.length) :
    (results fn tmps).run P w = .ok (.tuple #[.agg cs.toArray, tmps.getD t undef]) w := by
  have hp' : tmps[p]?.getD undef = .pointer (some ⟨g, 0, none⟩) := by simpa using hp
  simp [results, h, hp', asAddr, run_loadVar_mid w g 0 ty cs d hc hu hd hi]
/-- A drawn chamber and drawn hulls. -/
def DrwM (w : World) (e : Ending) (w' : World) : Prop :=
  ∃ (l d : Int) (g1 q c1 : Nat) (vs : List THull), e = .returned (.tuple #[.agg #[.int .i64 l, .int .i64 d], .slice (some ⟨g1, 0, none⟩) q c1]) ∧ q ≤ 8 ∧ q ≤ c1 ∧ w.heap.size ≤ g1 ∧ w'.ownsRow w.heap.size 40 3 (.slice (some ⟨g1, 0, none⟩) q c1) q (flatHull vs) ∧ Below w.heap.size w w'
theorem own_capH {w : World} {base : Nat} {e : TypeId} {g n c : Nat} {xs : List Value} {z : Nat} (h : w.ownsRow base e z (.slice (some ⟨g, 0, none⟩) n c) n xs) : n ≤ c := by
  rcases h.2 with ⟨h1, h2⟩ | ⟨g, cap, cur, h1, -, -, h2, -⟩
  · cases h1
  · injection h1 with _ _ h3; omega
set_option maxHeartbeats 2000000 in
theorem drawFirst_any {w : World} {A : Option Addr} {n : Nat} {zs : List Int} {B : Nat} (c : Nat) (h : Code_ w A n zs B) :
    Calls Try.prog 6 #[.slice A n c] w (DrwM w) := by
  have HZ := Lib.hid (BoxM.new w 0 0)
  have HBZ := Lib.hid (below1x w (.cells #[.int .i64 0, .int .i64 0] 25))
  have HCD := Lib.hid (h.on (HBZ.out.mono h.size))
  have hws : (w.alloc (.cells #[.int .i64 0, .int .i64 0] 25)).heap.size = w.heap.size + 1 := by simp
  clear h
  go_enter Try.func6, Try.ntmps6
  go_wp2_with fail
  obtain ⟨wa, hwa⟩ : ∃ x, w.alloc (.cells #[.int .i64 0, .int .i64 0] 25) = x := ⟨_, rfl⟩
  have hwb : w.heap.size + 1 = wa.heap.size := by rw [← hwa]; exact hws.symm
  rw [hwa] at HZ HBZ HCD ⊢
  try rw [hwb]
  clear hws hwa
  have H := Lib.hid (HCD.out.start c)
  have hbs := Lib.hid (fun w' (h : (wa.alloc (.cells #[.slice A n c, .int .i64 0, .int .u64 0] 65)).grownBy w' (some wa.heap.size)) => below_start h)
  have C := Lib.hid (chamber_at (HCD.out.start c) (by omega))
  refine C.out.mono ?_
  rintro e w1 ⟨l, d, rfl, hs⟩
  obtain ⟨r5, r50, r51, H5⟩ := hs.at H.out
  have HS1 := Lib.hid hs
  clear hs C
  go_wp2_with fail
  refine (hulls_at H5 (by omega)).mono ?_
  rintro e w2 ⟨g1, q, c1, rfl, hq, ⟨vs, hg1, hov⟩, hs⟩
  have HV := Lib.hid (own_Hulls hov)
  have hcap := own_capH hov
  have hov2 := Lib.hid hov
  have HB := Lib.hid (hbs.out _ (HS1.out.then hs r50 r51).grown)
  have Z2 := Lib.hid (BoxM.all HZ.out HB.out)
  have hzl := HZ.out.lt
  have hg1w : w1.heap.size ≤ g1 := hg1
  have hw1 := HS1.out.grown.size
  simp at hw1
  clear hs hov H5 HS1 HZ H hbs HCD
  have z0 := Z2.out.c0
  have z1 := Z2.out.c1
  have zf0 := Z2.out.fz 0
  have zf1 := Z2.out.fz 1
  go_wp2_with fail
  have ZE := Z2.out.sets l d
  have HG := grown_setsM w2 w.heap.size l d
  refine bodyPost_ret (results_rowM1 rfl _ _ w.heap.size [_, _] _ rfl ZE.rangeAt Try.underlying25 rfl (by kernel_rfl)) rfl ?_
  exact ⟨l, d, g1, q, c1, vs, rfl, hq, hcap, by omega, own_low (hov2.out.kept HG (.inr (by simp [Value.ownBlock]; omega))) (by have := HBZ.out.size; have e9 := World.size_alloc wa (.cells #[.slice A n c, .int .i64 0, .int .u64 0] 65); omega), (HBZ.out.trans (HB.out.mono HBZ.out.size)).grown HG (by have := HB.out.size; have := HBZ.out.size; omega) (fun r e => by cases e; exact Nat.le_refl _)⟩
end Go.Proofs.Ytdleidlmjliapaa
