/- Chapter 8, the program: the state of the search for the best order, and one order tried. -/
import Derived.Test.YtdleidlmjliapaaLkR
import Derived.Test.YtdleidlmjliapaaLkH
namespace Go.Proofs.Ytdleidlmjliapaa
open Go.RowKit Go.PlainAid Go.Sort
set_option linter.unusedVariables false
set_option linter.unusedSimpArgs false

/-- Below B nothing turns but the blocks bb and sb. -/
structure KeepY (bb sb B : Nat) (w W : World) : Prop where
  os : W.os = w.os
  tape : W.tape = w.tape
  output : W.output = w.output
  size : w.heap.size ≤ W.heap.size
  block : ∀ k, k < B → k ≠ bb → k ≠ sb → W.heap[k]? = w.heap[k]?
section
variable {bb sb B : Nat} {w W W' : World}
theorem KeepY.of (h : Below B w W) : KeepY bb sb B w W := ⟨h.os, h.tape, h.output, h.size, fun k hk _ _ => h.block k hk⟩
theorem KeepY.refl (bb sb B : Nat) (w : World) : KeepY bb sb B w w := KeepY.of (Below.refl _ _)
theorem KeepY.trans (h : KeepY bb sb B w W) (k : KeepY bb sb B W W') : KeepY bb sb B w W' := ⟨k.os.trans h.os, k.tape.trans h.tape, k.output.trans h.output, Nat.le_trans h.size k.size, fun j hj hn hm => (k.block j hj hn hm).trans (h.block j hj hn hm)⟩
theorem KeepY.mono {B' : Nat} (h : KeepY bb sb B w W) (hb : B' ≤ B) : KeepY bb sb B' w W := ⟨h.os, h.tape, h.output, h.size, fun k hk hn hm => h.block k (Nat.lt_of_lt_of_le hk hb) hn hm⟩
theorem KeepY.cell (h : KeepY bb sb B w W) {p : Addr} (hp : p.block < B) (h1 : p.block ≠ bb) (h2 : p.block ≠ sb) : W.cell? p = w.cell? p := World.cell?_of_block (h.block _ hp h1 h2)
/-- Where both lie above, it is Below. -/
theorem KeepY.below {b : Nat} (h : KeepY bb sb B w W) (hb : b ≤ B) (h1 : b ≤ bb) (h2 : b ≤ sb) : Below b w W := ⟨h.os, h.tape, h.output, h.size, fun k hk => h.block k (by omega) (by omega) (by omega)⟩
theorem KeepY.setb (u : Value) : KeepY bb sb B w (w.setCell ⟨bb, 0, none⟩ u) := ⟨rfl, rfl, rfl, by simp [World.setCell], fun k _ h1 _ => Below.heap_setCell _ _ _ _ (fun e => h1 e)⟩
theorem KeepY.sets (u : Value) : KeepY bb sb B w (w.setCell ⟨sb, 0, none⟩ u) := ⟨rfl, rfl, rfl, by simp [World.setCell], fun k _ _ h2 => Below.heap_setCell _ _ _ _ (fun e => h2 e)⟩
end
theorem own_same {w W : World} {base : Nat} {e : TypeId} {s n : Nat} {v : Value} {xs : List Value} (h : w.ownsRow base e s v n xs) (hb : ∀ g, v.ownBlock = some g → W.heap[g]? = w.heap[g]?) : W.ownsRow base e s v n xs := by
  refine ⟨h.1, ?_⟩
  rcases h.2 with h1 | ⟨g, cap, cur, hv, h2, h3, h4⟩
  · exact .inl h1
  · exact .inr ⟨g, cap, cur, hv, h2, (hb g (by rw [hv]; rfl)).trans h3, h4⟩
/-- One value in a block. -/
def Box1 (W : World) (g : Nat) (t : TypeId) (v : Value) : Prop := W.heap[g]? = some (.cells #[v] t (0, 0))
section
variable {W : World} {g : Nat} {t : TypeId} {v : Value}
theorem Box1.c (h : Box1 W g t v) : W.cell? ⟨g, 0, none⟩ = some v := cell_of_row W g 0 _ _ _ h
theorem Box1.fz (h : Box1 W g t v) : W.frozen? ⟨g, 0, none⟩ = false := frozen_of_row W g 0 _ _ h
theorem Box1.lt (h : Box1 W g t v) : g < W.heap.size := (Array.getElem?_eq_some_iff.1 h).1
theorem Box1.keep {W' : World} {bb sb B : Nat} (h : Box1 W g t v) (hk : KeepY bb sb B W W') (hB : g < B) (h1 : g ≠ bb) (h2 : g ≠ sb) : Box1 W' g t v := (hk.block g hB h1 h2).trans h
theorem Box1.all {W' : World} (h : Box1 W g t v) (hb : Below W.heap.size W W') : Box1 W' g t v := (hb.block g h.lt).trans h
theorem Box1.set (h : Box1 W g t v) (u : Value) : Box1 (W.setCell ⟨g, 0, none⟩ u) g t u := by
  unfold Box1 at *
  simp [World.setCell, Array.getElem?_modify, h]
theorem Box1.past {x : Nat} (h : Box1 W g t v) (hx : x ≠ g) (u : Value) : Box1 (W.setCell ⟨x, 0, none⟩ u) g t v := (Below.heap_setCell _ _ _ _ (fun e => hx e.symm)).trans h
end
/-- What holds through the whole search. -/
structure FixB (lb hb mb sb bb B : Nat) (A : Option Addr) (n : Nat) (vs : List TArrival) : Prop where
  s1 : sb = bb + 1
  l : lb < bb
  h : hb < bb
  m : mb < bb
  B : B ≤ bb
/-- The five boxes of the search, and the best order so far. -/
structure BSt (lb hb mb sb bb B : Nat) (A : Option Addr) (n c : Nat) (vs : List TArrival) (hg : Bool) (mi : Int) (base : Nat) (W : World) (acc : List Int × Int) : Prop where
  l : Box1 W lb 45 (.slice A n c)
  h : Box1 W hb 4 (.bool hg)
  m : Box1 W mb 3 (.int .i64 mi)
  s : Box1 W sb 3 (.int .i64 acc.2)
  b : ∃ v q, Box1 W bb 46 v ∧ W.ownsRow base 3 1 v q (acc.1.map (.int .i64)) ∧ v.ownBlock ≠ some bb ∧ v.ownBlock ≠ some sb
  vs : IsArrivals W B A n vs
section
variable {lb hb mb sb bb B : Nat} {A : Option Addr} {n c : Nat} {vs : List TArrival} {hg : Bool} {mi : Int} {base : Nat} {W W' : World} {acc : List Int × Int}
theorem BSt.quiet (h : BSt lb hb mb sb bb B A n c vs hg mi base W acc) (hq : Below W.heap.size W W') : BSt lb hb mb sb bb B A n c vs hg mi base W' acc := by
  obtain ⟨v, q, h1, h2, h3, h4⟩ := h.b
  exact ⟨h.l.all hq, h.h.all hq, h.m.all hq, h.s.all hq, ⟨v, q, h1.all hq, own_below h2 hq, h3, h4⟩, h.vs.below hq h.vs.low⟩
theorem BSt.lts (h : BSt lb hb mb sb bb B A n c vs hg mi base W acc) : sb < W.heap.size := h.s.lt
end
set_option maxRecDepth 100000 in
set_option maxHeartbeats 4000000 in
theorem try_any {lb hb mb sb bb B : Nat} {A : Option Addr} {n c : Nat} {vs : List TArrival} {hg : Bool} {mi : Int} {base : Nat} {w : World} {acc : List Int × Int} (FX : FixB lb hb mb sb bb B A n vs) (hS : BSt lb hb mb sb bb B A n c vs hg mi base w acc) (hm : n ≤ 6) (hmm : 1 ≤ mi ∧ mi ≤ 60)
    (v : Value) (q b1 : Nat) (O : List Int) (hb1 : base ≤ b1) (hsb : sb < b1) (hO : w.ownsRow b1 3 1 v q (O.map (.int .i64))) (hord : OrdA vs O) :
    Calls Try.prog 57 #[v, .pointer (some ⟨lb, 0, none⟩), .pointer (some ⟨hb, 0, none⟩), .pointer (some ⟨mb, 0, none⟩), .pointer (some ⟨sb, 0, none⟩), .pointer (some ⟨bb, 0, none⟩)] w fun e w' => e = .returned (.tuple #[]) ∧ BSt lb hb mb sb bb B A n c vs hg mi base w' (fmS (dly vs mi hg) acc O) ∧ KeepY bb sb w.heap.size w w' := by
  obtain ⟨A2, c2, rfl⟩ := own_form2 hO
  have hOl : O.length = q := by have := hO.1; simpa using this
  have hq6 : q ≤ 6 := by rw [← hOl]; exact hord.le6
  have hqc : q ≤ c2 := by
    rcases hO.2 with ⟨h1, h2⟩ | ⟨g, cap, cur, h1, -, -, h2, -⟩
    · injection h1 with _ h1 _; omega
    · injection h1 with _ _ h3; omega
  have hII : IsIs w w.heap.size A2 q O := ⟨hOl, Nat.le_refl _, own_hasv hO⟩
  have hDA : DelayA vs hg mi O (dly vs mi hg O) true := ⟨_, ⟨fun _ => ⟨rfl, rfl⟩, fun e => by rw [(gO_iff vs mi O).2 ⟨hord, hmm⟩] at e; cases e⟩, rfl⟩
  have CD := Lib.hid (delayI_any c c2 hS.vs (by omega) hII (by omega) hqc hg mi _ _ hDA)
  have hbd := dly_bd hg hmm hord
  have HST := Lib.hid hS
  have HO := Lib.hid hO
  have HFX := Lib.hid FX
  have l0 := hS.l.c
  have h0 := hS.h.c
  have m0 := hS.m.c
  have HFM : Hid (fmS (dly vs mi hg) acc O = if dly vs mi hg O < acc.2 then (O, dly vs mi hg O) else acc) := Lib.hid rfl
  generalize dly vs mi hg O = z at CD hbd HFM
  clear hO hS FX hII hDA hord hOl
  go_enter Try.func57, Try.ntmps57
  go_wp2_with fail
  refine CD.out.mono ?_
  rintro e w1 ⟨rfl, hbq⟩
  have HS1 := Lib.hid (HST.out.quiet hbq)
  have HO1 := Lib.hid (own_below HO.out hbq)
  have HK := Lib.hid (KeepY.of (bb := bb) (sb := sb) hbq)
  have s0 := HS1.out.s.c
  clear hbq CD HST HO l0 h0 m0
  by_cases hz : z < acc.2
  · obtain ⟨vb, qb, hbb, hob, hn1, hn2⟩ := HS1.out.b
    have b0 := hbb.c
    have bf := hbb.fz
    have sf := HS1.out.s.fz
    have hne : bb ≠ sb := by have := HFX.out.s1; omega
    have HBB := Lib.hid hbb
    have HEND : Hid (BSt lb hb mb sb bb B A n c vs hg mi base ((w1.setCell ⟨bb, 0, none⟩ (.slice A2 q c2)).setCell ⟨sb, 0, none⟩ (.int .i64 z)) (fmS (dly vs mi hg) acc O)) := Lib.hid (by
      rw [HFM.out, if_pos hz]
      have hgl := fun g (e : (Value.slice A2 q c2).ownBlock = some g) => HO1.out.lt g e
      have f1 := HFX.out.l
      have f2 := HFX.out.h
      have f3 := HFX.out.m
      have f4 := HFX.out.s1
      have f5 := HFX.out.B
      refine ⟨(HS1.out.l.past (by omega) _).past (by omega) _, (HS1.out.h.past (by omega) _).past (by omega) _, (HS1.out.m.past (by omega) _).past (by omega) _, (HS1.out.s.past (by omega) _).set _, ⟨_, q, (HBB.out.set _).past (by omega) _, ?_, fun e => ?_, fun e => ?_⟩, ?_⟩
      · refine own_low (own_same HO1.out (fun g e => ?_)) hb1
        have := (hgl g e).1
        exact (Below.heap_setCell _ _ _ _ (show g ≠ sb by omega)).trans (Below.heap_setCell _ _ _ _ (show g ≠ bb by omega))
      · have := (hgl bb e).1; omega
      · have := (hgl sb e).1; omega
      · have hlow := HS1.out.vs.low
        exact HS1.out.vs.below (((Below.refl bb w1).setCell (p := ⟨bb, 0, none⟩) (Nat.le_refl _) _).setCell (p := ⟨sb, 0, none⟩) (by show bb ≤ sb; omega) _) (by omega))
    have HKK := Lib.hid (HK.out.trans ((KeepY.setb (w := w1) (bb := bb) (sb := sb) (B := w.heap.size) (.slice A2 q c2)).trans (KeepY.sets (.int .i64 z))))
    clear HS1 HO1 HK HFM HBB hbb hob hn1 hn2
    go_wp2_with fail
    go_end0
    exact ⟨rfl, HEND.out, HKK.out⟩
  · have HEND : Hid (BSt lb hb mb sb bb B A n c vs hg mi base w1 (fmS (dly vs mi hg) acc O)) := Lib.hid (by rw [HFM.out, if_neg hz]; exact HS1.out)
    clear HS1 HO1 HFM
    go_wp2_with fail
    go_end0
    exact ⟨rfl, HEND.out, HK.out⟩
end Go.Proofs.Ytdleidlmjliapaa
