/- Chapter 3: a fleet with a lightened vessel, the model and the program. -/
import Derived.Test.YteeljlpbijmhlabBinS
import Derived.Test.YteeljlpbijmhlabVesPas
import Derived.Maps.AppendAt
import Derived.Lib.LazyBuf
namespace Go.Proofs.Yteeljlpbijmhlab
open Go.RowKit Go.PlainAid Go.Sort

theorem flatV_one : ∀ (vs : List Ves), ∀ u ∈ flatV vs, u.oneCell' = true
  | [], u, h => by simp [flatV] at h
  | v :: t, u, h => by
    simp only [flatV, List.mem_cons] at h
    rcases h with rfl | rfl | rfl | rfl | rfl | rfl | h
    · rfl
    · rfl
    · rfl
    · rfl
    · rfl
    · rfl
    · exact flatV_one t u h
theorem flatV_set : ∀ (vs : List Ves) (k : Nat) (v : Ves), k < vs.length →
    ((((((flatV vs).set (k * 6) (.int .i64 v.id)).set (k * 6 + 1) (.string v.name)).set (k * 6 + 2) (.int .i64 v.len)).set (k * 6 + 3) (.int .i64 v.wid)).set (k * 6 + 4) (.int .i64 v.dr)).set (k * 6 + 5) (.int .i64 v.kind) = flatV (vs.set k v)
  | [], k, v, h => absurd h (by simp)
  | x :: t, 0, v, _ => rfl
  | x :: t, k + 1, v, h => by
    have ih := flatV_set t k v (by simpa using h)
    have e : (k + 1) * 6 = k * 6 + 1 + 1 + 1 + 1 + 1 + 1 := by omega
    rw [e]
    simp only [flatV, List.set_cons_succ]
    show _ :: _ :: _ :: _ :: _ :: _ :: _ = _
    rw [ih]
theorem flatV_dr : ∀ (vs : List Ves) (k : Nat) (z : Int) (h : k < vs.length), (flatV vs).set (k * 6 + 4) (.int .i64 z) = flatV (vs.set k ⟨vs[k].id, vs[k].name, vs[k].len, vs[k].wid, z, vs[k].kind⟩)
  | [], k, z, h => absurd h (by simp)
  | x :: t, 0, z, _ => rfl
  | x :: t, k + 1, z, h => by
    have ih := flatV_dr t k z (by simpa using h)
    have e : (k + 1) * 6 + 4 = k * 6 + 4 + 1 + 1 + 1 + 1 + 1 + 1 := by omega
    rw [e]
    simp only [flatV, List.set_cons_succ, List.getElem_cons_succ]
    rw [ih]
/-- The vessel at k lightened. -/
def lt (vs : List Ves) (k : Nat) (z : Int) : List Ves := vs.set k ⟨(vs.getD k noVes).id, (vs.getD k noVes).name, (vs.getD k noVes).len, (vs.getD k noVes).wid, (vs.getD k noVes).dr - z, (vs.getD k noVes).kind⟩
theorem lt_len (vs : List Ves) (k : Nat) (z : Int) : (lt vs k z).length = vs.length := by simp [lt]
theorem lt_flat {vs : List Ves} {k : Nat} (z : Int) (h : k < vs.length) : (flatV vs).set (k * 6 + 4) (.int .i64 ((vs.getD k noVes).dr - z)) = flatV (lt vs k z) := by
  rw [flatV_dr vs k _ h]
  unfold lt
  rw [getV h]
theorem lt_names {vs : List Ves} {k : Nat} {z : Int} (h : k < vs.length) (hs : ∀ v ∈ vs, v.name.size ≤ maxLen) : ∀ v ∈ lt vs k z, v.name.size ≤ maxLen := by
  intro v hv
  rcases List.mem_or_eq_of_mem_set hv with h1 | h1
  · exact hs v h1
  · rw [h1, getV h]
    have := hs _ (List.getElem_mem h)
    exact this
/-- The call hands back a row of vessels of its own, and x. -/
def GivesVs (w : World) (L : List Ves) (x : Bool) (e : Ending) (w' : World) : Prop :=
  ∃ g c, e = .returned (.tuple #[.slice (some ⟨g, 0, none⟩) L.length c, .bool x]) ∧ w.heap.size ≤ g ∧ w'.ownsRow w.heap.size 38 6 (.slice (some ⟨g, 0, none⟩) L.length c) L.length (flatV L) ∧ Below w.heap.size w w'
theorem givesVs_nil {w w0 : World} (hb : Below w.heap.size w w0) : GivesVs w [] false (.returned (.tuple #[.slice (some ⟨w0.heap.size, 0, none⟩) 0 0, .bool false])) (w0.alloc (.cells #[] 38)) :=
  ⟨w0.heap.size, 0, rfl, hb.size, own_low (World.ownsRow_made w0 #[] 0 (Nat.le_refl _) (by unfold maxLen; omega) rfl) hb.size, hb.alloc hb.size _⟩
theorem asc_of {vs : List Ves} (h : goodF vs) : Asc vs := by
  intro i j hij hj
  obtain ⟨d, rfl⟩ : ∃ d, j = i + 1 + d := ⟨j - (i + 1), by omega⟩
  clear hij
  induction d with
  | zero => exact (h.2 (i + 1) hj).2.1 (by omega)
  | succ d ih =>
    have h1 := ih (by omega)
    have h2 := (h.2 (i + 1 + (d + 1)) hj).2.1 (by omega)
    rw [show i + 1 + (d + 1) - 1 = i + 1 + d by omega] at h2
    omega

set_option maxRecDepth 100000 in
set_option maxHeartbeats 1000000 in
theorem cloneV_any (a : Addr) (n c B : Nat) (vs : List Ves) (w : World) (hn : vs.length = n) (hm : n ≤ 1000) (hB : B ≤ w.heap.size) (h : Has w B (some a) (flatV vs)) :
    Calls Try.prog 58 #[.slice (some a) n c] w fun e w' => ∃ g c', e = .returned (.slice (some ⟨g, 0, none⟩) n c') ∧ n ≤ c' ∧ w.heap.size ≤ g ∧ w'.ownsRow w.heap.size 38 6 (.slice (some ⟨g, 0, none⟩) n c') n (flatV vs) ∧ Below w.heap.size w w' := by
  obtain ⟨i0, hi, hz0, hz1, hz2⟩ := info_parts Try.infoVes'
  have hfl : (flatV vs).length = n * 6 := by rw [flatV_len, hn]; omega
  have HN : Hid (∀ j u, (flatV vs)[j]? = some u → (w.alloc (.cells #[] 38)).cell? (a.add j) = some u) := Lib.hid (fun j u hu => by
    obtain ⟨a', e, hb, hc⟩ := (h.below ((Below.refl B w).alloc hB (.cells #[] 38))) j u hu
    injection e with e
    subst e
    exact hc)
  have HO : Hid (∀ u ∈ flatV vs, u.oneCell' = true) := Lib.hid (flatV_one vs)
  have HR := Lib.hid (World.ownsRow_made (size := 6) (e := 38) w #[] 0 (Nat.le_refl _) (by unfold maxLen; omega) rfl)
  have heq := run_eql_slice_nil (P := Try.prog) w 24 38 (some a) n c Try.underlying24
  rw [Option.isNone_some] at heq
  generalize flatV vs = xs at hfl HN HO ⊢
  clear h hn
  go_enter Try.func58, Try.ntmps58
  go_wp2_with (at_builtin; refine wpList_append_own _ rfl (.tmp 5) (.tmp 6) 24 rfl w.heap.size 38 i0 (.agg #[.int .i64 0, .string ByteArray.empty, .int .i64 0, .int .i64 0, .int .i64 0, .int .i64 0]) 6 56 Try.underlying24 hi hz0 hz1 hz2 rfl (by decide) (.slice (some ⟨w.heap.size, 0, none⟩) 0 0) 0 [] rfl HR.out a n c xs rfl hfl HN.out HO.out (by unfold maxLen; omega) (by omega) (by simp) ?_; intro v1 w1 hown1 hgrow1 hnil1; obtain ⟨g1, c1, rfl, hg1⟩ := own_some hown1 (fun e => nomatch (hnil1.1 e).1); have HB1 := Lib.hid (((Below.refl w.heap.size w).alloc (Nat.le_refl _) (.cells #[] 38)).grown hgrow1 (by simp) (fun q hq => by cases hq; exact Nat.le_refl _)); rw [Nat.zero_add, List.nil_append] at hown1; have HOWN := Lib.hid hown1; clear hown1 hgrow1 hnil1)
  have hcc : n ≤ c1 := by
    rcases HOWN.out.2 with ⟨e, -⟩ | ⟨g, cap, cur, e, -, -, h1, -⟩
    · cases e
    · injection e with e1 e2 e3; omega
  go_ret
  exact ⟨g1, c1, by simp, hcc, hg1, HOWN.out, HB1.out⟩

/-- The first of the first k vessels with this Id. -/
def fnd (vs : List Ves) (t : Int) : Nat → Int
  | 0 => -1
  | k + 1 => if fnd vs t k < 0 ∧ (vs.getD k noVes).id = t then (k : Int) else fnd vs t k
theorem fnd_none {vs : List Ves} {t : Int} : ∀ k, (∀ j, j < k → (vs.getD j noVes).id ≠ t) → fnd vs t k = -1
  | 0, _ => rfl
  | k + 1, h => by
    rw [fnd, fnd_none k (fun j hj => h j (by omega)), if_neg (fun g => h k (by omega) g.2)]
theorem fnd_hit {vs : List Ves} {t : Int} {k : Nat} (h : ∀ j, j < k → (vs.getD j noVes).id ≠ t) (hk : (vs.getD k noVes).id = t) : ∀ d, fnd vs t (k + 1 + d) = k
  | 0 => by
    show fnd vs t (k + 1) = k
    rw [fnd, fnd_none k h, if_pos ⟨by omega, hk⟩]
  | d + 1 => by
    have ih := fnd_hit h hk d
    show fnd vs t (k + 1 + d + 1) = k
    rw [fnd, ih, if_neg (by omega)]
theorem fnd_or (vs : List Ves) (t : Int) (n : Nat) : (∀ j, j < n → (vs.getD j noVes).id ≠ t) ∨ ∃ k, k < n ∧ (vs.getD k noVes).id = t ∧ (∀ j, j < k → (vs.getD j noVes).id ≠ t) := by
  induction n with
  | zero => exact .inl (fun j hj => absurd hj (by omega))
  | succ n ih =>
    rcases ih with h | ⟨k, hk, h1, h2⟩
    · by_cases e : (vs.getD n noVes).id = t
      · exact .inr ⟨n, by omega, e, h⟩
      · exact .inl (fun j hj => by
          rcases Nat.lt_succ_iff_lt_or_eq.1 hj with g | g
          · exact h j g
          · rw [g]; exact e)
    · exact .inr ⟨k, by omega, h1, h2⟩

set_option maxHeartbeats 1000000 in
theorem l3Find_any (A : Option Addr) (n c B : Nat) (vs : List Ves) (t : Int) (w : World) (hn : vs.length = n) (hm : n ≤ maxLen) (h : Has w B A (flatV vs)) :
    Calls Try.prog 59 #[.slice A n c, .int .i64 t] w fun e w' => e = .returned (.int .i64 (fnd vs t n)) ∧ w = w' := by
  unfold maxLen at hm
  have HL := Lib.hid hn
  have H := Lib.hid h
  have HP0 := Lib.hid (fun (k : Nat) (h : ∀ j, j < k → (vs.getD j noVes).id ≠ t) => fnd_none k h)
  have HP1 := Lib.hid (fun (k d : Nat) (h : ∀ j, j < k → (vs.getD j noVes).id ≠ t) (hk : (vs.getD k noVes).id = t) => fnd_hit h hk d)
  clear hn h
  go_enter Try.func59, Try.ntmps59
  go_wp2_with fail
  go_loop [5] (fun i => ∃ k : Nat, k ≤ n ∧ i = .int .i64 k ∧ Hid (∀ j, j < k → (vs.getD j noVes).id ≠ t)) (fun i => n - (intOf i).toNat)
  case atStart => exact ⟨0, Nat.zero_le _, rfl, Lib.hid (by simp)⟩
  case round =>
    obtain ⟨k, hk, rfl, hall⟩ := hrel
    by_cases hlt : k < n
    · have hkl : k < vs.length := by rw [HL.out]; exact hlt
      obtain ⟨a1, rfl, hab, HV⟩ := H.out.ves hkl
      have HE : Hid ((vs.getD k noVes).id = t → fnd vs t n = k) := Lib.hid (fun h => by
        have := HP1.out k (n - (k + 1)) hall.out h
        rwa [show k + 1 + (n - (k + 1)) = n by omega] at this)
      have HA : Hid ((vs.getD k noVes).id ≠ t → ∀ j, j < k + 1 → (vs.getD j noVes).id ≠ t) := Lib.hid (fun h j hj => by
        rcases Nat.lt_succ_iff_lt_or_eq.1 hj with h1 | h1
        · exact hall.out j h1
        · exact h1 ▸ h)
      have e0 := HV.c0
      generalize (vs.getD k noVes).id = z at e0 HE HA
      have hk0 : (0 : Int) ≤ (k : Int) := by omega
      have hk1 : (k : Int) < (n : Int) := by omega
      by_cases hst : z = t
      · have HR := Lib.hid (HE.out hst)
        have hbe : (z == t) = true := by simp [hst]
        clear HE HA hall hst H HP0 HP1 HV
        go_wp2
        go_ret
        exact ⟨ret_int HR.out.symm, rfl⟩
      · have HR := Lib.hid (HA.out hst)
        have hbe : (z == t) = false := by simp [hst]
        clear HE HA hall hst H HP0 HP1 HV
        go_wp2
        go_round
        case rel => exact ⟨k + 1, by omega, by go_num, HR⟩
        case measure => simp [intOf]; omega
    · obtain rfl : k = n := by omega
      have HR := Lib.hid (HP0.out _ hall.out)
      clear H HP0 HP1 hall
      go_wp2
      go_ret
      exact ⟨ret_int HR.out.symm, rfl⟩
/-- What LightenVessel answers. -/
structure Light (vs : List Ves) (n : Nat) (t z : Int) (L : List Ves) (x : Bool) : Prop where
  yes : ∀ k, k < n → gF vs = true → (vs.getD k noVes).id = t → 1 ≤ z → gF (lt vs k z) = true → L = lt vs k z ∧ x = true
  no : (∀ k, k < n → gF vs = true → (vs.getD k noVes).id = t → 1 ≤ z → gF (lt vs k z) = true → False) → L = [] ∧ x = false
theorem Light.bad {vs : List Ves} {n : Nat} {t z : Int} {L : List Ves} {x : Bool} (h : Light vs n t z L x) (g : gF vs = false) : L = [] ∧ x = false := h.no (fun _ _ e => by rw [g] at e; cases e)
theorem Light.neg {vs : List Ves} {n : Nat} {t z : Int} {L : List Ves} {x : Bool} (h : Light vs n t z L x) (g : ¬ 1 ≤ z) : L = [] ∧ x = false := h.no (fun _ _ _ _ e => absurd e g)
theorem Light.miss {vs : List Ves} {n : Nat} {t z : Int} {L : List Ves} {x : Bool} (h : Light vs n t z L x) (g : ∀ j, j < n → (vs.getD j noVes).id ≠ t) : L = [] ∧ x = false := h.no (fun k hk _ e => absurd e (g k hk))
theorem lt_bad {vs : List Ves} {k : Nat} {z : Int} (hk : k < vs.length) (hg : gF vs = true) (h : 500 < z) : gF (lt vs k z) = false := gF_no (fun g => by
  have h1 := (g.2 k (by rw [lt_len]; exact hk)).1
  have h2 := (((gF_iff vs).1 hg).2 k hk).1
  unfold lt at h1
  rw [List.getD_eq_getElem?_getD, List.getElem?_set_self hk] at h1
  have h3 := h1.2.2.2.2.1.1
  have h4 := h2.2.2.2.2.1.2
  simp only [Option.getD_some] at h3
  omega)
theorem Light.big {vs : List Ves} {n : Nat} {t z : Int} {L : List Ves} {x : Bool} (h : Light vs n t z L x) (hn : vs.length = n) (g : 500 < z) : L = [] ∧ x = false :=
  h.no (fun k hk e1 _ _ e2 => by rw [lt_bad (by rw [hn]; exact hk) e1 g] at e2; cases e2)
theorem fleet_one {vs : List Ves} {n : Nat} (hn : vs.length = n) (hg : gF vs = true) {j k : Nat} (hj : j < n) (hk : k < n) (h : (vs.getD j noVes).id = (vs.getD k noVes).id) : j = k := by
  have ha := asc_of ((gF_iff vs).1 hg)
  rcases Nat.lt_trichotomy j k with h1 | h1 | h1
  · have := ha j k h1 (by omega); omega
  · exact h1
  · have := ha k j h1 (by omega); omega
theorem Light.fails {vs : List Ves} {n : Nat} {t z : Int} {L : List Ves} {x : Bool} (h : Light vs n t z L x) (hn : vs.length = n) (hg : gF vs = true) {k : Nat} (hk : k < n) (he : (vs.getD k noVes).id = t) (g : gF (lt vs k z) = false) : L = [] ∧ x = false :=
  h.no (fun j hj _ e _ e2 => by
    obtain rfl := fleet_one hn hg hj hk (e.trans he.symm)
    rw [g] at e2
    cases e2)
theorem light_ex (vs : List Ves) (n : Nat) (hn : vs.length = n) (t z : Int) : ∃ (L : List Ves) (x : Bool), L.length ≤ 8 ∧ (∀ v ∈ L, v.name.size ≤ maxLen) ∧ Light vs n t z L x := by
  by_cases hg : gF vs = true
  · rcases fnd_or vs t n with h | ⟨k, hk, he, hf⟩
    · exact ⟨[], false, by simp, by simp, ⟨fun k hk _ e => absurd e (h k hk), fun _ => ⟨rfl, rfl⟩⟩⟩
    · by_cases hl : 1 ≤ z ∧ gF (lt vs k z) = true
      · refine ⟨lt vs k z, true, by rw [lt_len]; exact ((gF_iff vs).1 hg).1, fun v hv => ?_, ⟨fun j hj _ e _ _ => ?_, fun g => (g k hk hg he hl.1 hl.2).elim⟩⟩
        · obtain ⟨i, hi, rfl⟩ := List.mem_iff_getElem.1 hv
          have := (((gF_iff _).1 hl.2).2 i hi).1.2.1.1.2
          rw [getV hi] at this
          unfold maxLen
          omega
        · obtain rfl := fleet_one hn hg hj hk (e.trans he.symm)
          exact ⟨rfl, rfl⟩
      · refine ⟨[], false, by simp, by simp, ⟨fun j hj _ e h1 h2 => ?_, fun _ => ⟨rfl, rfl⟩⟩⟩
        obtain rfl := fleet_one hn hg hj hk (e.trans he.symm)
        exact absurd ⟨h1, h2⟩ hl
  · exact ⟨[], false, by simp, by simp, ⟨fun k hk g => absurd g hg, fun _ => ⟨rfl, rfl⟩⟩⟩
end Go.Proofs.Yteeljlpbijmhlab
