/- Chapter 3: the vessels that pass a depth, the model and the program. -/
import Derived.Test.YteeljlpbijmhlabVesV
import Derived.Test.YteeljlpbijmhlabInts
import Derived.Maps.AppendAt
namespace Go.Proofs.Yteeljlpbijmhlab
open Go.RowKit Go.PlainAid Go.Sort

/-- The integers l lie in a slice of one's own. -/
def OwnL (w w' : World) (l : List Int) (v : Value) : Prop :=
  ∃ g c, v = .slice (some ⟨g, 0, none⟩) l.length c ∧ w.heap.size ≤ g ∧ w'.ownsRow w.heap.size 3 1 (.slice (some ⟨g, 0, none⟩) l.length c) l.length (l.map (.int .i64)) ∧ Below w.heap.size w w'
theorem OwnL.nil {w w0 : World} (hb : Below w.heap.size w w0) : OwnL w (w0.alloc (.cells #[] 3)) [] (.slice (some ⟨w0.heap.size, 0, none⟩) 0 0) :=
  ⟨w0.heap.size, 0, rfl, hb.size, own_low (World.ownsRow_made w0 #[] 0 (Nat.le_refl _) (by unfold maxLen; omega) rfl) hb.size, hb.alloc hb.size _⟩
theorem OwnL.below {w w0 w' : World} {l : List Int} {v : Value} (h : OwnL w w0 l v) (hb : Go.RowKit.Below w0.heap.size w0 w') : OwnL w w' l v := by
  obtain ⟨g, c, rfl, hg, ho, hb0⟩ := h
  exact ⟨g, c, rfl, hg, ho.kept (grownBelow hb none) (.inr (by simp [Value.ownBlock])), hb0.trans (hb.mono hb0.size)⟩
theorem OwnL.gives {w w' : World} {l : List Int} {v : Value} (h : OwnL w w' l v) (b : Bool) : GivesInts w l b (.returned (.tuple #[v, .bool b])) w' := by
  obtain ⟨g, c, rfl, hg, ho, hb⟩ := h
  exact ⟨g, c, rfl, hg, ho, hb⟩
theorem OwnL.low {w w' : World} {l : List Int} {v : Value} (h : OwnL w w' l v) : Go.RowKit.Below w.heap.size w w' := by
  obtain ⟨g, c, rfl, hg, ho, hb⟩ := h
  exact hb

/-- The Ids of those of the first k vessels that pass. -/
def pasL (vs : List Ves) (depth keel : Int) : Nat → List Int
  | 0 => []
  | k + 1 => if (vs.getD k noVes).dr + keel ≤ depth then pasL vs depth keel k ++ [(vs.getD k noVes).id] else pasL vs depth keel k
theorem pasL_len (vs : List Ves) (depth keel : Int) : ∀ k, (pasL vs depth keel k).length ≤ k
  | 0 => Nat.le_refl _
  | k + 1 => by
    have ih := pasL_len vs depth keel k
    rw [pasL]
    split
    · rw [List.length_append, List.length_singleton]; omega
    · omega

set_option maxRecDepth 100000 in
set_option maxHeartbeats 2000000 in
theorem specPas_any {w : World} {B : Nat} {A : Option Addr} {n : Nat} {vs : List Ves} (c : Nat) (h : IsVs w B A n vs) (hm : n ≤ maxLen) (depth keel : Int) (L : List Int) (x : Bool)
    (hyes : gF vs = true → (0 ≤ depth ∧ depth ≤ 1000) → (0 ≤ keel ∧ keel ≤ 100) → L = pasL vs depth keel n ∧ x = true)
    (hno : ¬ (gF vs = true ∧ (0 ≤ depth ∧ depth ≤ 1000) ∧ (0 ≤ keel ∧ keel ≤ 100)) → L = [] ∧ x = false) :
    Calls Try.prog 13 #[.slice A n c, .int .i64 depth, .int .i64 keel] w (GivesInts w L x) := by
  obtain ⟨i0, hi, hz0, hz1, hz2⟩ := info_parts Try.infoInt'
  have C := Lib.hid (fun (W : World) (hb : Below w.heap.size w W) => l3Fleet_vs c (h.below hb h.low) hm)
  have C2 := Lib.hid (fun W => l1In_any depth 0 1000 W)
  have C3 := Lib.hid (fun W => l1In_any keel 0 100 W)
  have HI := Lib.hid h
  have HNO : Hid ((gF vs = false ∨ decide (0 ≤ depth ∧ depth ≤ 1000) = false ∨ decide (0 ≤ keel ∧ keel ≤ 100) = false) → L = [] ∧ x = false) := Lib.hid (fun g => hno (fun e => by
    rcases g with g | g | g
    · rw [e.1] at g; cases g
    · exact of_decide_eq_false g e.2.1
    · exact of_decide_eq_false g e.2.2))
  have HYES : Hid (gF vs = true → decide (0 ≤ depth ∧ depth ≤ 1000) = true → decide (0 ≤ keel ∧ keel ≤ 100) = true → (L = pasL vs depth keel n ∧ x = true) ∧ (0 ≤ depth ∧ depth ≤ 1000) ∧ (0 ≤ keel ∧ keel ≤ 100) ∧ goodF vs) := Lib.hid (fun e1 e2 e3 => ⟨hyes e1 (of_decide_eq_true e2) (of_decide_eq_true e3), of_decide_eq_true e2, of_decide_eq_true e3, (gF_iff vs).1 e1⟩)
  generalize gF vs = b1 at C HNO HYES
  generalize decide (0 ≤ depth ∧ depth ≤ 1000) = b2 at C2 HNO HYES
  generalize decide (0 ≤ keel ∧ keel ≤ 100) = b3 at C3 HNO HYES
  unfold maxLen at hm
  clear hyes hno h
  go_enter Try.func13, Try.ntmps13
  have P0 := Lib.hid (OwnL.nil (Below.refl w.heap.size w))
  go_wp2_with fail
  refine (C.out _ P0.out.low).mono ?_
  rintro e w1 ⟨rfl, hb⟩
  have P1 := Lib.hid (P0.out.below hb)
  clear hb P0 C
  cases b1 with
  | false =>
    obtain ⟨rfl, rfl⟩ := HNO.out (by simp)
    clear HNO HYES
    go_wp2_with fail
    refine bodyPost_ret (results_tmp2 rfl _ _ _) rfl ?_
    exact P1.out.gives false
  | true =>
  go_wp2_with fail
  refine (C2.out _).mono ?_
  rintro e w1' ⟨rfl, rfl⟩
  cases b2 with
  | false =>
    obtain ⟨rfl, rfl⟩ := HNO.out (by simp)
    clear HNO HYES
    go_wp2_with fail
    refine bodyPost_ret (results_tmp2 rfl _ _ _) rfl ?_
    exact P1.out.gives false
  | true =>
  go_wp2_with fail
  refine (C3.out _).mono ?_
  rintro e w1' ⟨rfl, rfl⟩
  cases b3 with
  | false =>
    obtain ⟨rfl, rfl⟩ := HNO.out (by simp)
    clear HNO HYES
    go_wp2_with fail
    refine bodyPost_ret (results_tmp2 rfl _ _ _) rfl ?_
    exact P1.out.gives false
  | true =>
  obtain ⟨⟨hL, rfl⟩, ⟨d0, d1⟩, ⟨k0, k1⟩, hg⟩ := HYES.out (by simp) (by simp) (by simp)
  have HG := Lib.hid hg
  have HL := Lib.hid hL
  have hn8 : n ≤ 8 := by have := hg.1; rw [HI.out.len] at this; exact this
  clear HNO HYES hg hL C2 C3
  go_wp2_with fail
  go_loopw [8, 9] (fun o i wr => ∃ k : Nat, k ≤ n ∧ i = .int .i64 k ∧ OwnL w wr (pasL vs depth keel k) o) (fun _ i _ => n - (intOf i).toNat)
  case atStart => exact ⟨0, Nat.zero_le _, rfl, P1.out⟩
  case round =>
    obtain ⟨k, hk, rfl, hP⟩ := hrel
    by_cases hlt : k < n
    · have hkl : k < vs.length := by rw [HI.out.len]; exact hlt
      have hlen := pasL_len vs depth keel k
      obtain ⟨a1, rfl, hab, HV⟩ := (HI.out.below hP.low HI.out.low).has.ves hkl
      have HS : Hid (pasL vs depth keel (k + 1) = if (vs.getD k noVes).dr + keel ≤ depth then pasL vs depth keel k ++ [(vs.getD k noVes).id] else pasL vs depth keel k) := Lib.hid rfl
      obtain ⟨⟨-, -⟩, -, -, -, ⟨dr0, dr1⟩, -⟩ := (HG.out.2 k hkl).1
      generalize vs.getD k noVes = V at HV HS dr0 dr1
      obtain ⟨i, s, l, b, d, q⟩ := V
      obtain ⟨e0, e1, e2, e3, e4, e5⟩ := HV
      dsimp only at e0 e1 e2 e3 e4 e5 dr0 dr1
      have hk0 : (0 : Int) ≤ (k : Int) := by omega
      have hk1 : (k : Int) < (n : Int) := by omega
      by_cases hle : d + keel ≤ depth
      · have HS' : Hid (pasL vs depth keel (k + 1) = pasL vs depth keel k ++ [i]) := Lib.hid (HS.out.trans (if_pos hle))
        generalize pasL vs depth keel k = P at hP HS' hlen
        obtain ⟨g0, cp, rfl, hg0, hown, hb⟩ := hP
        have hP8 : P.length ≤ 8 := by omega
        clear HS P1 
        go_wp2_with (at_builtin; refine wpList_append_own _ rfl (.tmp 40) (.tmp 46) 30 rfl w.heap.size 3 i0 (.int .i64 0) 1 8 Try.underlying30 hi hz0 hz1 hz2 rfl (by decide) (.slice (some ⟨g0, 0, none⟩) P.length cp) P.length _ rfl (hown.alloc _) ⟨wr.heap.size, 0, none⟩ 1 1 [.int .i64 i] rfl rfl (cell_one_new _ _ _) (by simp [Value.oneCell']) (by unfold maxLen; omega) (by omega) (by have := hb.size; simp; omega) ?_; intro v1 w1 hown1 hgrow1 hnil1; obtain ⟨g1, c1, rfl, hg1⟩ := own_some hown1 (fun e => nomatch (hnil1.1 e).1); have hb1 := (hb.alloc hb.size (.cells #[.int .i64 i] 3)).grown hgrow1 (by have := hb.size; simp; omega) (fun q hq => by cases hq; assumption); clear hown hnil1 hgrow1 hb)
        go_roundw
        case rel => exact ⟨k + 1, by omega, by go_num, by rw [HS'.out]; exact ⟨g1, c1, by rw [List.length_append]; rfl, hg1, by rw [List.length_append, List.map_append]; exact hown1, hb1⟩⟩
        case measure => simp [intOf]; omega
      · have HS' : Hid (pasL vs depth keel (k + 1) = pasL vs depth keel k) := Lib.hid (HS.out.trans (if_neg hle))
        have HP := Lib.hid hP
        clear HS P1 hP 
        go_wp2_with fail
        go_roundw
        case rel => exact ⟨k + 1, by omega, by go_num, by rw [HS'.out]; exact HP.out⟩
        case measure => simp [intOf]; omega
    · obtain rfl : k = n := by omega
      have HP := Lib.hid (hP.gives true)
      rw [← HL.out] at HP
      clear hP P1 HI HG
      go_wp2_with fail
      refine bodyPost_ret (results_tmp2 rfl _ _ _) rfl ?_
      exact HP.out

set_option maxRecDepth 100000 in
set_option maxHeartbeats 2000000 in
theorem implPas_any {w : World} {B : Nat} {A : Option Addr} {n : Nat} {vs : List Ves} (c : Nat) (h : IsVs w B A n vs) (hm : n ≤ maxLen) (hc : n ≤ c) (depth keel : Int) (L : List Int) (x : Bool)
    (hyes : gF vs = true → (0 ≤ depth ∧ depth ≤ 1000) → (0 ≤ keel ∧ keel ≤ 100) → L = pasL vs depth keel n ∧ x = true)
    (hno : ¬ (gF vs = true ∧ (0 ≤ depth ∧ depth ≤ 1000) ∧ (0 ≤ keel ∧ keel ≤ 100)) → L = [] ∧ x = false) :
    Calls Try.prog 12 #[.slice A n c, .int .i64 depth, .int .i64 keel] w (GivesInts w L x) := by
  obtain ⟨i0, hi, hz0, hz1, hz2⟩ := info_parts Try.infoInt'
  have C := Lib.hid (fun (W : World) (hb : Below w.heap.size w W) => isFleet_vs c (h.below hb h.low) hm hc)
  have C2 := Lib.hid (fun W => inRange_any depth 0 1000 W)
  have C3 := Lib.hid (fun W => inRange_any keel 0 100 W)
  have HI := Lib.hid h
  have HNO : Hid ((gF vs = false ∨ decide (0 ≤ depth ∧ depth ≤ 1000) = false ∨ decide (0 ≤ keel ∧ keel ≤ 100) = false) → L = [] ∧ x = false) := Lib.hid (fun g => hno (fun e => by
    rcases g with g | g | g
    · rw [e.1] at g; cases g
    · exact of_decide_eq_false g e.2.1
    · exact of_decide_eq_false g e.2.2))
  have HYES : Hid (gF vs = true → decide (0 ≤ depth ∧ depth ≤ 1000) = true → decide (0 ≤ keel ∧ keel ≤ 100) = true → (L = pasL vs depth keel n ∧ x = true) ∧ (0 ≤ depth ∧ depth ≤ 1000) ∧ (0 ≤ keel ∧ keel ≤ 100) ∧ goodF vs) := Lib.hid (fun e1 e2 e3 => ⟨hyes e1 (of_decide_eq_true e2) (of_decide_eq_true e3), of_decide_eq_true e2, of_decide_eq_true e3, (gF_iff vs).1 e1⟩)
  generalize gF vs = b1 at C HNO HYES
  generalize decide (0 ≤ depth ∧ depth ≤ 1000) = b2 at C2 HNO HYES
  generalize decide (0 ≤ keel ∧ keel ≤ 100) = b3 at C3 HNO HYES
  unfold maxLen at hm
  clear hyes hno h
  go_enter Try.func12, Try.ntmps12
  go_wp2_with fail
  refine (C.out _ (Below.refl _ _)).mono ?_
  rintro e w1 ⟨rfl, hb⟩
  have P1 := Lib.hid (OwnL.nil hb)
  have B1 := Lib.hid hb
  clear hb C
  cases b1 with
  | false =>
    obtain ⟨rfl, rfl⟩ := HNO.out (by simp)
    clear HNO HYES
    go_wp2_with fail
    refine bodyPost_ret (results_tmp2 rfl _ _ _) rfl ?_
    exact P1.out.gives false
  | true =>
  go_wp2_with fail
  refine (C2.out _).mono ?_
  rintro e w1' ⟨rfl, rfl⟩
  cases b2 with
  | false =>
    obtain ⟨rfl, rfl⟩ := HNO.out (by simp)
    clear HNO HYES
    go_wp2_with fail
    refine bodyPost_ret (results_tmp2 rfl _ _ _) rfl ?_
    exact P1.out.gives false
  | true =>
  go_wp2_with fail
  refine (C3.out _).mono ?_
  rintro e w1' ⟨rfl, rfl⟩
  cases b3 with
  | false =>
    obtain ⟨rfl, rfl⟩ := HNO.out (by simp)
    clear HNO HYES
    go_wp2_with fail
    refine bodyPost_ret (results_tmp2 rfl _ _ _) rfl ?_
    exact P1.out.gives false
  | true =>
  obtain ⟨⟨hL, rfl⟩, ⟨d0, d1⟩, ⟨k0, k1⟩, hg⟩ := HYES.out (by simp) (by simp) (by simp)
  have HG := Lib.hid hg
  have HL := Lib.hid hL
  have hn8 : n ≤ 8 := by have := hg.1; rw [HI.out.len] at this; exact this
  clear HNO HYES hg hL C2 C3
  go_wp2_with fail
  go_loopw [8, 28] (fun o i wr => ∃ k : Nat, k ≤ n ∧ i = .int .i64 k ∧ OwnL w wr (pasL vs depth keel k) o) (fun _ i _ => n - (intOf i).toNat)
  case atStart => exact ⟨0, Nat.zero_le _, rfl, P1.out⟩
  case round =>
    obtain ⟨k, hk, rfl, hP⟩ := hrel
    by_cases hlt : k < n
    · have hkl : k < vs.length := by rw [HI.out.len]; exact hlt
      have hlen := pasL_len vs depth keel k
      obtain ⟨a1, rfl, hab, HV⟩ := (HI.out.below hP.low HI.out.low).has.ves hkl
      have HS : Hid (pasL vs depth keel (k + 1) = if (vs.getD k noVes).dr + keel ≤ depth then pasL vs depth keel k ++ [(vs.getD k noVes).id] else pasL vs depth keel k) := Lib.hid rfl
      obtain ⟨⟨-, -⟩, -, -, -, ⟨dr0, dr1⟩, -⟩ := (HG.out.2 k hkl).1
      generalize vs.getD k noVes = V at HV HS dr0 dr1
      obtain ⟨i, s, l, b, d, q⟩ := V
      obtain ⟨e0, e1, e2, e3, e4, e5⟩ := HV
      dsimp only at e0 e1 e2 e3 e4 e5 dr0 dr1
      have hk0 : (0 : Int) ≤ (k : Int) := by omega
      have hk1 : (k : Int) < (n : Int) := by omega
      by_cases hle : d + keel ≤ depth
      · have HS' : Hid (pasL vs depth keel (k + 1) = pasL vs depth keel k ++ [i]) := Lib.hid (HS.out.trans (if_pos hle))
        generalize pasL vs depth keel k = P at hP HS' hlen
        obtain ⟨g0, cp, rfl, hg0, hown, hb⟩ := hP
        have hP8 : P.length ≤ 8 := by omega
        clear HS P1 B1
        have hcell : ∀ j u, [Value.int .i64 i][j]? = some u → ((wr.alloc (.cells #[.int .i64 i, .string s, .int .i64 l, .int .i64 b, .int .i64 d, .int .i64 q] 38)).alloc (.cells #[.int .i64 i] 3)).cell? ((⟨wr.heap.size + 1, 0, none⟩ : Addr).add j) = some u := by
          have h := cell_one_new (wr.alloc (.cells #[.int .i64 i, .string s, .int .i64 l, .int .i64 b, .int .i64 d, .int .i64 q] 38)) (.int .i64 i) 3
          rwa [World.size_alloc] at h
        have HCELL := Lib.hid hcell
        clear hcell
        go_wp2_with (at_builtin; refine wpList_append_own _ rfl (.tmp 38) (.tmp 41) 30 rfl w.heap.size 3 i0 (.int .i64 0) 1 8 Try.underlying30 hi hz0 hz1 hz2 rfl (by decide) (.slice (some ⟨g0, 0, none⟩) P.length cp) P.length _ rfl ((hown.alloc _).alloc _) ⟨wr.heap.size + 1, 0, none⟩ 1 1 [.int .i64 i] rfl rfl HCELL.out (by simp [Value.oneCell']) (by unfold maxLen; omega) (by omega) (by have := hb.size; simp; omega) ?_; intro v1 w1 hown1 hgrow1 hnil1; obtain ⟨g1, c1, rfl, hg1⟩ := own_some hown1 (fun e => nomatch (hnil1.1 e).1); have hb1 := ((hb.alloc hb.size (.cells #[.int .i64 i, .string s, .int .i64 l, .int .i64 b, .int .i64 d, .int .i64 q] 38)).alloc (by have := hb.size; simp; omega) (.cells #[.int .i64 i] 3)).grown hgrow1 (by have := hb.size; simp; omega) (fun q hq => by cases hq; assumption); clear hown hnil1 hgrow1 hb HCELL)
        go_roundw
        case rel => exact ⟨k + 1, by omega, by go_num, by rw [HS'.out]; exact ⟨g1, c1, by rw [List.length_append]; rfl, hg1, by rw [List.length_append, List.map_append]; exact hown1, hb1⟩⟩
        case measure => simp [intOf]; omega
      · have HS' : Hid (pasL vs depth keel (k + 1) = pasL vs depth keel k) := Lib.hid (HS.out.trans (if_neg hle))
        have HP := Lib.hid (hP.below ((Below.refl _ wr).alloc (Nat.le_refl _) (.cells #[.int .i64 i, .string s, .int .i64 l, .int .i64 b, .int .i64 d, .int .i64 q] 38)))
        clear HS P1 hP B1
        go_wp2_with fail
        go_roundw
        case rel => exact ⟨k + 1, by omega, by go_num, by rw [HS'.out]; exact HP.out⟩
        case measure => simp [intOf]; omega
    · obtain rfl : k = n := by omega
      have HP := Lib.hid (hP.gives true)
      rw [← HL.out] at HP
      clear hP P1 HI HG
      go_wp2_with fail
      refine bodyPost_ret (results_tmp2 rfl _ _ _) rfl ?_
      exact HP.out

/-- What both are asked for. -/
theorem pas_two (vs : List Ves) (n : Nat) (hn : vs.length = n) (depth keel : Int) : ∃ (L : List Int) (x : Bool), L.length ≤ 8 ∧
    (gF vs = true → (0 ≤ depth ∧ depth ≤ 1000) → (0 ≤ keel ∧ keel ≤ 100) → L = pasL vs depth keel n ∧ x = true) ∧
    (¬ (gF vs = true ∧ (0 ≤ depth ∧ depth ≤ 1000) ∧ (0 ≤ keel ∧ keel ≤ 100)) → L = [] ∧ x = false) := by
  by_cases h : gF vs = true ∧ (0 ≤ depth ∧ depth ≤ 1000) ∧ (0 ≤ keel ∧ keel ≤ 100)
  · exact ⟨pasL vs depth keel n, true, by have h1 := pasL_len vs depth keel n; have h2 := ((gF_iff vs).1 h.1).1; omega, fun _ _ _ => ⟨rfl, rfl⟩, fun g => absurd h g⟩
  · exact ⟨[], false, by simp, fun h1 h2 h3 => absurd ⟨h1, h2, h3⟩ h, fun _ => ⟨rfl, rfl⟩⟩
end Go.Proofs.Yteeljlpbijmhlab
