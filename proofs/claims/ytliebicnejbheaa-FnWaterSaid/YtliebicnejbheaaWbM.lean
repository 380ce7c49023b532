/- Chapter 10: what FnWater and FnSupplies ask of the answers: the mathematics. -/
import Derived.Test.YtliebicnejbheaaWaM
namespace Go.Proofs.Ytliebicnejbheaa
set_option linter.unusedVariables false

theorem TotA.told {vs : List TBasin} {z : Int} {x : Bool} (h : TotA vs z x) : x = gBs vs := by
  cases e : gBs vs with
  | true => exact (h.1 e).2
  | false => exact (h.2 e).2
theorem netK_take {fs : List TFlow} {M : Nat} : ∀ k, k ≤ M → M ≤ fs.length → netK (fs.take M) k = netK fs k
  | 0, _, _ => rfl
  | k + 1, h, hM => by
    have ih := netK_take (fs := fs) (M := M) k (by omega) hM
    have e : (fs.take M).getD k noFlow = fs.getD k noFlow := by
      rw [getFlow (by rw [List.length_take]; omega), getFlow (by omega), List.getElem_take]
    unfold netK
    rw [ih, e]
theorem canT.take {vs : List TBasin} {fs : List TFlow} (h : canT vs fs) {M : Nat} (hM : M ≤ fs.length) : canT vs (fs.take M) := by
  refine ⟨h.1, by have := h.2.1; rw [List.length_take]; omega, fun k hk => ?_⟩
  rw [List.length_take] at hk
  have e : (fs.take M).getD k noFlow = fs.getD k noFlow := by
    rw [getFlow (by rw [List.length_take]; omega), getFlow (by omega), List.getElem_take]
  rw [e]
  exact h.2.2 k (by omega)
/-- What is asked behind RunFlows. -/
structure RunF (vs : List TBasin) (fs : List TFlow) (L : List TBasin) (M : Nat) (t d : Int) : Prop where
  le : M ≤ fs.length
  len : L.length = vs.length
  low : vs.length ≤ 6
  t0 : TotA vs t true
  t1 : TotA L (t + d) true
  net : NetA vs (fs.take M) d true
  good : gBs L = true
  stop : M < fs.length → MovA L (fs.getD M noFlow) [] false
  bt : 0 ≤ t ∧ t ≤ 600000
  bd : -1200000 ≤ d ∧ d ≤ 1200000
theorem RunA.facts {vs : List TBasin} {fs : List TFlow} {L : List TBasin} {z : Int} (h : RunA vs fs L z true) : ∃ (M : Nat) (t d : Int), z = (M : Int) ∧ RunF vs fs L M t d := by
  cases e : gT vs fs with
  | false => have := (h.2 e).2.2; cases this
  | true =>
    have hc := (gT_iff vs fs).1 e
    obtain ⟨rfl, rfl, -⟩ := h.1 e
    have hM := made_le vs fs fs.length
    have hgL := made_good (fs := fs) hc.1 fs.length _ (Nat.le_refl _)
    have hl := moves_len vs fs (made vs fs fs.length)
    have hst := made_stop (vs := vs) (fs := fs) fs.length
    generalize made vs fs fs.length = M at hM hgL hl hst
    have b1 := totK_bd hc.1 vs.length (Nat.le_refl _)
    have b2 := netK_bd hc.2 M hM
    have b3 := hc.1.1.2
    have b4 := hc.2.1
    refine ⟨M, totK vs vs.length, netK fs M, rfl, hM, hl, b3, ⟨fun _ => ⟨rfl, rfl⟩, fun g => by rw [gBs_yes hc.1] at g; cases g⟩, ⟨fun _ => ⟨?_, rfl⟩, fun g => by rw [gBs_yes hgL] at g; cases g⟩,
      ⟨fun _ => ⟨?_, rfl⟩, fun g => by rw [(gT_iff _ _).2 (hc.take hM)] at g; cases g⟩, gBs_yes hgL, fun hlt => ⟨fun g => ?_, fun _ => ⟨rfl, rfl⟩⟩, by omega, by omega⟩
    · rw [hl, tot_moves hc M hM]
    · rw [List.length_take, show min M fs.length = M by omega, netK_take M (Nat.le_refl _) hM]
    · exact absurd g.2.2 (hst hlt)
/-- The way back. -/
theorem MovA.back {vs : List TBasin} {f : TFlow} {L : List TBasin} (h : MovA vs f L true) : L.length = vs.length ∧ vs.length ≤ 6 ∧ MovA L ⟨f.x1, f.x0, f.x2⟩ vs true := by
  by_cases e : goodBs vs ∧ goodF vs.length f ∧ goodBs (move vs f)
  · obtain ⟨rfl, -⟩ := h.1 e
    obtain ⟨h1, h2, h3⟩ := e
    refine ⟨move_len vs f, h1.1.2, fun _ => ⟨move_back.symm, rfl⟩, fun g => absurd ⟨h3, ?_, ?_⟩ g⟩
    · rw [move_len]
      obtain ⟨a, b, c, d⟩ := h2
      exact ⟨b, a, fun e => c e.symm, d⟩
    · rw [move_back]; exact h1
  · have := (h.2 e).2; cases this

/-- As many lockages as told are possible and not one more. -/
theorem MosA.facts {vs : List TBasin} {f : TFlow} {z : Int} (h : MosA vs f z true) :
    goodBs vs ∧ goodF vs.length f ∧ 0 ≤ z ∧ z ≤ 100000 ∧ 1 ≤ f.x2 ∧ f.x2 ≤ 100000 ∧ z = units vs f / f.x2 := by
  by_cases e : goodBs vs ∧ goodF vs.length f
  · obtain ⟨rfl, -⟩ := h.1 e
    have b0 := uniF_bd e.1 e.2
    have b1 := uniT_bd e.1 e.2
    have hv := e.2.2.2.2
    have hu : 0 ≤ units vs f ∧ units vs f ≤ 100000 := by unfold units; omega
    refine ⟨e.1, e.2, Int.ediv_nonneg hu.1 (by omega), Int.le_trans (Int.ediv_le_self _ hu.1) hu.2, hv.1, hv.2, rfl⟩
  · have := (h.2 e).2; cases this
theorem units_same (vs : List TBasin) (a b c d : Int) : units vs ⟨a, b, c⟩ = units vs ⟨a, b, d⟩ := rfl
theorem most_some {vs : List TBasin} {f0 f1 f2 z : Int} (hg : goodBs vs) (hf : goodF vs.length ⟨f0, f1, f2⟩) (hz : z = units vs ⟨f0, f1, f2⟩ / f2) (h0 : 0 < z) (h1 : z * f2 < 100000) :
    MovA vs ⟨f0, f1, z * f2⟩ (move vs ⟨f0, f1, z * f2⟩) true := by
  have hv := hf.2.2.2.1
  dsimp only at hv
  have hp : 0 < z * f2 := Int.mul_pos h0 (by omega)
  have hf2 : goodF vs.length ⟨f0, f1, z * f2⟩ := ⟨hf.1, hf.2.1, hf.2.2.1, by dsimp only; omega, by dsimp only; omega⟩
  have hu : z * f2 ≤ units vs ⟨f0, f1, z * f2⟩ := by
    rw [units_same vs f0 f1 (z * f2) f2, hz]
    exact Int.ediv_mul_le _ (by omega)
  have hm := (move_ok hg hf2).2 hu
  exact ⟨fun _ => ⟨rfl, rfl⟩, fun g => absurd ⟨hg, hf2, hm⟩ g⟩
theorem most_more {vs : List TBasin} {f0 f1 f2 z : Int} (hg : goodBs vs) (hf : goodF vs.length ⟨f0, f1, f2⟩) (hz : z = units vs ⟨f0, f1, f2⟩ / f2) : MovA vs ⟨f0, f1, (z + 1) * f2⟩ [] false := by
  refine ⟨fun g => ?_, fun _ => ⟨rfl, rfl⟩⟩
  exfalso
  obtain ⟨-, h2, h3⟩ := g
  have h4 := (move_ok hg h2).1 h3
  rw [units_same vs f0 f1 ((z + 1) * f2) f2] at h4
  dsimp only at h4
  have hv := hf.2.2.2.1
  dsimp only at hv
  have := Int.lt_ediv_add_one_mul_self (units vs ⟨f0, f1, f2⟩) (show 0 < f2 by omega)
  rw [← hz] at this
  omega
theorem most_zero {vs : List TBasin} (f0 f1 : Int) : MovA vs ⟨f0, f1, 0⟩ [] false := by
  refine ⟨fun g => ?_, fun _ => ⟨rfl, rfl⟩⟩
  have := g.2.1.2.2.2.1
  dsimp only at this
  omega
/-- What is asked behind LevelOut. -/
theorem LevA.facts {vs L : List TBasin} (h : LevA vs L true) : L.length = vs.length ∧ vs.length ≤ 6 ∧ gBs L = true ∧ LevA L L true ∧ ∃ t, TotA vs t true ∧ TotA L t true := by
  cases e : gBs vs with
  | false => have := (h.2 e).2; cases this
  | true =>
    have hg := (gBs_iff vs).1 e
    obtain ⟨⟨T, hT, rfl⟩, -⟩ := h.1 e
    have hgL := lv_good hg T hT.2
    refine ⟨lvK_len vs T, hg.1.2, gBs_yes hgL, ⟨fun _ => ⟨⟨0, ⟨hT.1, fun t ht => absurd ht (by omega)⟩, rfl⟩, rfl⟩, fun g => by rw [gBs_yes hgL] at g; cases g⟩, totK vs vs.length, ⟨fun _ => ⟨rfl, rfl⟩, fun g => by rw [e] at g; cases g⟩, ⟨fun _ => ⟨?_, rfl⟩, fun g => by rw [gBs_yes hgL] at g; cases g⟩⟩
    rw [lvK_len]
    exact (Lv.tot hg T hT.2).symm
/-- The Basins refilled and made roomy. -/
def roomy (vs : List TBasin) (L : List Int) : List TBasin := (List.range vs.length).map fun i => ⟨(vs.getD i noBasin).x0 + L.getD i 0, (vs.getD i noBasin).x1, 100000⟩
theorem roomy_len (vs : List TBasin) (L : List Int) : (roomy vs L).length = vs.length := by simp [roomy]
theorem roomy_at {vs : List TBasin} {L : List Int} {i : Nat} (h : i < vs.length) : (roomy vs L).getD i noBasin = ⟨(vs.getD i noBasin).x0 + L.getD i 0, (vs.getD i noBasin).x1, 100000⟩ := by
  rw [getBasin (by rw [roomy_len]; exact h)]
  simp [roomy]
theorem needs_at {vs : List TBasin} {fs : List TFlow} {t i : Nat} (h : i < vs.length) : (needs vs fs t).getD i 0 = need vs fs i t := by
  rw [List.getD_eq_getElem?_getD, List.getElem?_eq_getElem (by rw [needs_len]; exact h)]
  simp [needs]
theorem moves_roomy {vs : List TBasin} {fs : List TFlow} {L : List Int} {i : Nat} (h : i < vs.length) : ∀ t, ((moves (roomy vs L) fs t).getD i noBasin).x0 = ((moves vs fs t).getD i noBasin).x0 + L.getD i 0 ∧ ((moves (roomy vs L) fs t).getD i noBasin).x1 = ((moves vs fs t).getD i noBasin).x1
  | 0 => by
    show ((roomy vs L).getD i noBasin).x0 = _ ∧ _
    unfold moves
    rw [roomy_at h]
    exact ⟨rfl, rfl⟩
  | t + 1 => by
    obtain ⟨h1, h2⟩ := moves_roomy (L := L) (fs := fs) h t
    unfold moves
    rw [move_at (by rw [moves_len, roomy_len]; exact h), move_at (by rw [moves_len]; exact h)]
    unfold mv
    dsimp only
    rw [h1, h2]
    refine ⟨?_, rfl⟩
    split <;> split <;> omega
theorem need_mono (vs : List TBasin) (fs : List TFlow) (i : Nat) : ∀ t d, need vs fs i t ≤ need vs fs i (t + d)
  | t, 0 => Int.le_refl _
  | t, d + 1 => by
    have := need_mono vs fs i t d
    have h2 : need vs fs i (t + d) ≤ need vs fs i (t + (d + 1)) := by
      show _ ≤ max (need vs fs i (t + d)) _
      omega
    omega
theorem need_ge (vs : List TBasin) (fs : List TFlow) (i t : Nat) : ((moves vs fs (t + 1)).getD i noBasin).x1 - ((moves vs fs (t + 1)).getD i noBasin).x0 ≤ need vs fs i (t + 1) := by
  show _ ≤ max (need vs fs i t) _
  omega
theorem need_roomy {vs : List TBasin} {fs : List TFlow} {m i : Nat} (h : i < vs.length) : ∀ t, t ≤ m → need (roomy vs (needs vs fs m)) fs i t = 0
  | 0, _ => rfl
  | t + 1, ht => by
    have ih := need_roomy (fs := fs) (m := m) h t (by omega)
    obtain ⟨h1, h2⟩ := moves_roomy (L := needs vs fs m) (fs := fs) h (t + 1)
    have h3 := need_mono vs fs i (t + 1) (m - (t + 1))
    rw [show t + 1 + (m - (t + 1)) = m by omega] at h3
    have h4 := need_ge vs fs i t
    unfold need
    rw [ih, h1, h2, needs_at h]
    omega
/-- What is asked behind RefillNeeded. -/
structure RefF (vs : List TBasin) (fs : List TFlow) (L : List Int) : Prop where
  len : L.length = vs.length
  low : vs.length ≤ 6
  pos : 1 ≤ vs.length
  can : gT vs fs = true
  bd : ∀ j, j < vs.length → 0 ≤ L.getD j 0 ∧ L.getD j 0 ≤ 1300000
  good : goodBs vs
  zero : (made vs fs fs.length = fs.length) → ∀ j, j < vs.length → L.getD j 0 = 0
  room : gBs (roomy vs L) = true → ∃ R, RefA (roomy vs L) fs R true ∧ R.length = vs.length ∧ ∀ j, j < vs.length → R.getD j 0 = 0
theorem RefA.facts {vs : List TBasin} {fs : List TFlow} {L : List Int} (h : RefA vs fs L true) : RefF vs fs L := by
  cases e : gT vs fs with
  | false => have := (h.2 e).2; cases this
  | true =>
    have hc := (gT_iff vs fs).1 e
    obtain ⟨rfl, -⟩ := h.1 e
    refine ⟨needs_len _ _ _, hc.1.1.2, hc.1.1.1, e, fun j hj => ?_, hc.1, fun hm j hj => ?_, fun hr => ?_⟩
    · rw [needs_at hj]
      have := need_bd hc hj fs.length (Nat.le_refl _)
      have := hc.2.1
      omega
    · rw [needs_at hj]
      have hgd := made_good (fs := fs) hc.1 fs.length
      rw [hm] at hgd
      have : ∀ t, t ≤ fs.length → need vs fs j t = 0 := by
        intro t
        induction t with
        | zero => intro _; rfl
        | succ t ih =>
          intro ht
          have := ih (by omega)
          obtain ⟨⟨g1, g2⟩, -⟩ := (hgd (t + 1) ht).2 j (by rw [moves_len]; exact hj)
          unfold need
          omega
      exact this _ (Nat.le_refl _)
    · have hrg := (gBs_iff _).1 hr
      have hrc : gT (roomy vs (needs vs fs fs.length)) fs = true := (gT_iff _ _).2 ⟨hrg, hc.2.1, fun k hk => by rw [roomy_len]; exact hc.2.2 k hk⟩
      refine ⟨_, ⟨fun _ => ⟨rfl, rfl⟩, fun g => by rw [hrc] at g; cases g⟩, by rw [needs_len, roomy_len], fun j hj => ?_⟩
      rw [needs_at (by rw [roomy_len]; exact hj)]
      exact need_roomy hj _ (Nat.le_refl _)
theorem roomy_take {vs : List TBasin} {L : List Int} {k : Nat} (h : k < vs.length) : (roomy vs L).take (k + 1) = (roomy vs L).take k ++ [⟨(vs.getD k noBasin).x0 + L.getD k 0, (vs.getD k noBasin).x1, 100000⟩] := by
  rw [List.take_succ_eq_append_getElem (by rw [roomy_len]; exact h)]
  congr 2
  simp [roomy]
end Go.Proofs.Ytliebicnejbheaa
