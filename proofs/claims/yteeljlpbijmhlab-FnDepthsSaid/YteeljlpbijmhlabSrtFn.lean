/- Chapter 3, the program: slices.SortFunc as OrderVessels calls it. -/
import Derived.Test.YteeljlpbijmhlabSrtRow
namespace Go.Proofs.Yteeljlpbijmhlab
open Go.RowKit Go.PlainAid Go.Sort Go.Shelf
set_option linter.unusedVariables false
set_option linter.unusedSimpArgs false

theorem cmpLaysV (g size : Nat) (w : World) : CmpLays Try.prog 66 #[] encV 6 cfV g 0 size w :=
  fun m os dk _ x y => (cmpV_any x.1.id x.1.name x.1.len x.1.wid x.1.dr x.1.kind y.1.id y.1.name y.1.len y.1.wid y.1.dr y.1.kind (sortWorldK encV 6 w g 0 m dk os) x.2.1 x.2.2 y.2.1 y.2.2).mono fun _ _ h => ⟨h.1, grow_ofBelow h.2⟩
/-- A fleet's vessels, each with its bounds. -/
theorem lift_V : ∀ (vs : List Ves), (∀ v ∈ vs, 0 ≤ v.len * v.wid ∧ v.len * v.wid ≤ 24) → ∃ l : List CVes, l.map (·.1) = vs
  | [], _ => ⟨[], rfl⟩
  | v :: t, h => by
    obtain ⟨l, hl⟩ := lift_V t (fun u hu => h u (List.mem_cons_of_mem _ hu))
    exact ⟨⟨v, h v List.mem_cons_self⟩ :: l, congrArg (v :: ·) hl⟩
theorem pairV {d : Array CVes} (h : SortedIn (ltOf cfV) 0 d.size d) : (d.toList.map (·.1)).Pairwise (fun x y => ¬ Ahead y x) := by
  rw [List.pairwise_iff_getElem]
  intro i j hi hj hij
  have hi' : i < d.size := by simpa using hi
  have hj' : j < d.size := by simpa using hj
  have := (ltV_no _ _).1 (h i j (Nat.zero_le _) hij hj')
  rw [getElem!_pos d j hj', getElem!_pos d i hi'] at this
  simpa using this
theorem permV {d d' : Array CVes} (h : PermIn 0 d.size d d') : (d'.toList.map (·.1)).Perm (d.toList.map (·.1)) := by
  obtain ⟨hs, -, hp⟩ := h
  rw [show d'.extract 0 d.size = d' from by rw [← hs]; exact Array.extract_size, Array.extract_size] at hp
  exact hp.map _
theorem sortV_any {w : World} {base g n c : Nat} {vs : List Ves} (h : w.ownsRow base 38 6 (.slice (some ⟨g, 0, none⟩) n c) n (flatV vs)) (hn : vs.length = n) (hm : n ≤ 1000) (hb : ∀ v ∈ vs, 0 ≤ v.len * v.wid ∧ v.len * v.wid ≤ 24) :
    Calls Try.prog 65 #[.slice (some ⟨g, 0, none⟩) n c, .func (.func 66) #[] #[]] w fun e w' =>
      e = .returned (.tuple #[]) ∧ ∃ L : List Ves, L.Perm vs ∧ L.Pairwise (fun x y => ¬ Ahead y x) ∧ Has w' w'.heap.size (some ⟨g, 0, none⟩) (flatV L) ∧ Go.RowKit.Below g w w' := by
  obtain ⟨l, hl⟩ := lift_V vs hb
  have hd : l.toArray.toList.map (·.1) = vs := hl
  have hsz : l.toArray.size = n := by rw [← hn, ← hl]; simp
  have hH := holds_ofV hd h
  have hlt := (h.lt g rfl).2
  have eg : ∀ args w, (callFunc 66 args).run Try.prog w = .ok (.enter 66 args) w := enters_of Try.func66 (by kernel_rfl) rfl
  have hcon := AnyQ.slices_SortFunc Try.sortV 6 Try.isAgg38 Try.sizeOf38 encV encV_len encV_one cfV swoV 66 #[] g 0 c l.toArray w eg (cmpLaysV g _ w) hH hlt (by omega)
  rw [hsz] at hcon
  refine Calls.mono hcon ?_
  rintro e w' ⟨rfl, d', k, os, hp, hs, rfl⟩
  rw [← hsz] at hp hs
  have hs' : SortedIn (ltOf cfV) 0 d'.size d' := by rw [hp.1]; exact hs
  refine ⟨rfl, d'.toList.map (·.1), ?_, pairV hs', has_ofV ?_ ?_, below_sortV _ hlt⟩
  · rw [← hd]; exact permV hp
  · exact Nat.lt_of_lt_of_le hlt (below_sortV d' hlt).size
  · exact holdsK_sortWorldK encV 6 w g 0 k l.toArray d' os hlt hH hp.1
end Go.Proofs.Yteeljlpbijmhlab
