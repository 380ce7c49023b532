/- Texts that are joined: FlB, FlC, VesCel. -/
import Derived.Test.YtliebicnejbheabGreatDoorMg17
import Derived.Test.YtliebicnejbheabGreatDoorMg33
import Derived.Test.YtliebicnejbheabGreatDoorMg09
/- The draws of chapter 3: a spoilt text; a list and a name. -/
namespace Go.Proofs.YtliebicnejbheabGreatDoor
open Go.RowKit Go.PlainAid Go.Sort
set_option linter.unusedVariables false
set_option linter.unusedSimpArgs false

theorem ext_le (a : ByteArray) (i j : Nat) : (a.extract i j).size ≤ a.size := by
  rw [ByteArray.size_extract]
  omega
theorem app2_le {a b : ByteArray} (ha : a.size ≤ 100) (hb : b.size ≤ 100) : (a ++ b).size ≤ 300 := by
  rw [ByteArray.size_append]
  omega
theorem app3_le {a b c : ByteArray} (ha : a.size ≤ 100) (hb : b.size ≤ 100) (hc : c.size ≤ 100) : (a ++ b ++ c).size ≤ 300 := by
  rw [ByteArray.size_append, ByteArray.size_append]
  omega
/-- The text of a vessel, or none. -/
theorem vt_ex (v : Ves) : ∃ (T : ByteArray) (x : Bool), T.size ≤ 60 ∧ (goodV v → T = vtxt v.id v.name v.len v.wid v.dr (kindB v.kind) ∧ x = true) ∧ (¬ goodV v → T = ⟨#[]⟩ ∧ x = false) := by
  by_cases h : goodV v
  · exact ⟨_, true, (vt_parts h rfl).1, fun _ => ⟨rfl, rfl⟩, fun g => absurd h g⟩
  · exact ⟨⟨#[]⟩, false, by decide, fun g => absurd g h, fun _ => ⟨rfl, rfl⟩⟩
set_option maxHeartbeats 2000000 in
theorem spoilt_at {g : Nat} {A : Option Addr} {n c : Nat} {p : Int} {zs : List Int} {B : Nat} {w : World} (h : CurAt w g A n c p zs B) (hp : p ≤ 800000000) (t : ByteArray) (ht : t.size ≤ 100) :
    Calls Tryz.prog 34 #[.pointer (some ⟨g, 0, none⟩), .string t, .string ⟨#[48, 32, 120, 49, 97]⟩] w fun e w' => ∃ s : ByteArray, s.size ≤ 300 ∧ e = .returned (.string s) ∧ CurStep w w' g A n c p 6 := by
  have H := Lib.hid h
  have hp0 := h.p0
  by_cases h0 : t = ⟨#[]⟩
  · subst h0
    have S0 := Lib.hid (CurStep.refl h.cur)
    clear h
    go_enter Tryz.func34, Tryz.ntmps34
    go_wp2_with fail
    refine bodyPost_ret (results_tmp rfl _ _ _) rfl ?_
    exact ⟨_, Nat.le_trans (ext_le _ _ _) (by decide), rfl, S0.out.mono (by omega)⟩
  · have hne : t.toList.isEmpty = false := by
      have := list_ne h0
      rw [ByteArray.toList_eq] at this ⊢
      cases hd : t.data.toList with
      | nil => exact absurd (ByteArray.ext (Array.ext' hd)) h0
      | cons _ _ => rfl
    have hsz : 0 < t.size := by
      rcases Nat.eq_zero_or_pos t.size with e | e
      · exact absurd (ByteArray.ext (Array.eq_empty_of_size_eq_zero e)) h0
      · exact e
    clear h
    go_enter Tryz.func34, Tryz.ntmps34
    go_wp2_with fail
    refine (pick_at H.out (by omega) t.size (by omega)).mono ?_
    rintro e w1 ⟨b1, b10, b11, rfl, hs⟩
    obtain ⟨k, rfl⟩ : ∃ k : Nat, b1 = (k : Int) := ⟨b1.toNat, by omega⟩
    have hk : k < t.size := by omega
    have hk1 : (k : Int) < (t.size : Int) := by omega
    obtain ⟨r5, r50, r51, H5⟩ := hs.at H.out
    have S1 := Lib.hid hs
    have H0 := H
    clear hs H b11
    go_wp2_with fail
    refine (pick_at H5 (by omega) 5 (by omega)).mono ?_
    rintro e w2 ⟨b2, b20, b21, rfl, hs⟩
    have hb2 : b2 < 5 := by omega
    have hb3 : b2 = 0 ∨ b2 = 1 ∨ b2 = 2 ∨ b2 = 3 ∨ b2 = 4 := by omega
    have S2 := Lib.hid (S1.out.then hs r50 r51)
    clear hs S1 b21 H5
    rcases hb3 with rfl | rfl | rfl | rfl | rfl
    all_goals
      go_wp2_with fail
      refine (pick_at (S2.out.at H0.out).choose_spec.2.2 (by have := (S2.out.at H0.out).choose_spec.2.1; omega) 3 (by omega)).mono ?_
      rintro e w3 ⟨b3, b30, b31, rfl, hs⟩
      have S3 := Lib.hid (S2.out.then hs (S2.out.at H0.out).choose_spec.1 (S2.out.at H0.out).choose_spec.2.1)
      clear hs S2
      rcases (show b3 = 0 ∨ b3 = 1 ∨ b3 = 2 by omega) with rfl | rfl | rfl
      all_goals
        go_wp2_with fail
        have HB := Lib.hid (Below.refl w3.heap.size w3)
        refine wp_region_quiet_below (by kernel_rfl) (by kernel_rfl) ?_
        repeat (go_big_quiet_step (first | fail))
        refine wpQuiet_nil ?_
        intro _ hw'
        obtain ⟨⟨dq, osq⟩, hw''⟩ := hw'
        subst hw''
        have HB1 := Lib.hid (HB.out.trans ((below_regrown w3 dq osq).mono HB.out.size))
        go_wp2_with fail
        refine bodyPost_ret (results_tmp rfl _ _ _) rfl ?_
        refine ⟨_, ?_, rfl, (S3.out.on HB1.out).mono (by omega)⟩
        simp only [ByteArray.size_append, ByteArray.size_extract]
        omega

set_option maxHeartbeats 2000000 in
theorem drawPV_any {w : World} {A : Option Addr} {n : Nat} {zs : List Int} {B : Nat} (c : Nat) (h : Code_ w A n zs B) :
    Calls Tryz.prog 10 #[.slice A n c] w fun e w' => ∃ t : ByteArray, t.size ≤ 300 ∧ e = .returned (.string t) ∧ Below w.heap.size w w' := by
  have H := Lib.hid (h.start c)
  have hbs := Lib.hid (fun w' (h : (w.alloc (.cells #[.slice A n c, .int .i64 0, .int .u64 0] 60)).grownBy w' (some w.heap.size)) => below_start h)
  clear h
  go_enter Tryz.func10, Tryz.ntmps10
  go_wp2_with fail
  refine (vessel_at H.out (by omega)).mono ?_
  rintro e w1 ⟨i, s, l, b, d, q, hs, rfl, hstep⟩
  have S1 := Lib.hid hstep
  obtain ⟨T, x, hT, hy, hn⟩ := vt_ex ⟨i, s, l, b, d, q⟩
  have CT := Lib.hid (specVT_any i s l b d q w1 (by unfold maxLen; omega) T x hy hn)
  clear hstep hy hn
  go_wp2_with fail
  refine CT.out.mono ?_
  rintro e w2 ⟨rfl, hb⟩
  have S2 := Lib.hid (S1.out.on hb)
  obtain ⟨r5, r50, r51, H5⟩ := S2.out.at H.out
  clear hb S1 CT
  go_wp2_with fail
  refine (one_at H5 (by omega) 4 (by omega)).mono ?_
  rintro e w3 ⟨b3, rfl, hs3⟩
  have S3 := Lib.hid (S2.out.then hs3 r50 r51)
  clear hs3 S2 H5 r50 r51
  cases b3 with
  | false =>
    go_wp2_with fail
    refine bodyPost_ret (results_tmp rfl _ _ _) rfl ?_
    exact ⟨T, by omega, rfl, hbs.out _ S3.out.grown⟩
  | true =>
    obtain ⟨r5, r50, r51, H5⟩ := S3.out.at H.out
    go_wp2_with fail
    refine (spoilt_at H5 (by omega) T (by omega)).mono ?_
    rintro e w4 ⟨t, ht, rfl, hs4⟩
    have S4 := Lib.hid (S3.out.then hs4 r50 r51)
    clear hs4 S3 H5 r50 r51
    go_wp2_with fail
    refine bodyPost_ret (results_tmp rfl _ _ _) rfl ?_
    exact ⟨t, ht, rfl, hbs.out _ S4.out.grown⟩
/-- A drawn list and a drawn name. -/
def DrwVN (w : World) (e : Ending) (w' : World) : Prop :=
  ∃ (g c q : Nat) (vs : List Ves) (t : ByteArray), e = .returned (.tuple #[.slice (some ⟨g, 0, none⟩) q c, .string t]) ∧ q ≤ 10 ∧ q ≤ c ∧ IsVs w' w'.heap.size (some ⟨g, 0, none⟩) q vs ∧ Below w.heap.size w w'
end Go.Proofs.YtliebicnejbheabGreatDoor

/- The draws of chapter 3: a list and a name. -/
namespace Go.Proofs.YtliebicnejbheabGreatDoor
open Go.RowKit Go.PlainAid Go.Sort
set_option linter.unusedVariables false
set_option linter.unusedSimpArgs false

theorem addZX (g k : Nat) : (⟨g, 0, none⟩ : Addr).add k = ⟨g, k, none⟩ := by
  unfold Addr.add
  split
  · next h => subst h; rfl
  · simp
theorem CurStep.pre' {w0 w w' : World} {g : Nat} {A : Option Addr} {n c : Nat} {p d : Int} (h : CurStep w w' g A n c p d) (hW : Drawn w0 w) : CurStep w0 w' g A n c p d := ⟨h.cur, (grown_drawn hW (some g)).trans h.grown⟩
/-- A vessel of the drawn list, picked. -/
theorem nam_back {w0 wa w2 w3 : World} {g : Nat} {A : Option Addr} {n c g1 q c1 : Nat} {p r d : Int} (O : OwnVs wa w2 g1 q c1) (S : CurStep w0 w2 g A n c p d) (r0 : p ≤ r) (r1 : r ≤ p + d) (hq : q ≤ 10) (hq0 : (0 : Int) < (q : Int)) (hg : w2.grownBy w3 (some g)) (hs : CurStep w2 w3 g A n c r 2) (hga : g < wa.heap.size) {b : Int} (b0 : 0 ≤ b) (b1 : b < (q : Int) ∨ b = 0) :
    ∃ (k : Nat) (t : ByteArray), b = (k : Int) ∧ (0 : Int) ≤ (k : Int) ∧ (k : Int) < (q : Int) ∧ w3.cell? ⟨g1, k * 6 + 1, none⟩ = some (.string t) ∧ (q ≤ c1 ∧ ∃ L, IsVs w3 w3.heap.size (some ⟨g1, 0, none⟩) q L ∧ w0.grownBy w3 (some g)) := by
  obtain ⟨k, rfl⟩ : ∃ k : Nat, b = (k : Int) := ⟨b.toNat, by omega⟩
  have hk : k < q := by omega
  obtain ⟨hqc, L, hL⟩ := (O.kept hg hga).isV
  obtain ⟨a, ha, -, -, e1, -⟩ := hL.has.vesAt (k := k) (by rw [hL.len]; omega)
  injection ha with ha
  subst ha
  rw [addZX] at e1
  exact ⟨k, _, rfl, by omega, by omega, e1, hqc, L, hL, S.grown.trans hg⟩
set_option maxHeartbeats 2000000 in
theorem drawNam_any {w : World} {A : Option Addr} {n : Nat} {zs : List Int} {B : Nat} (c : Nat) (h : Code_ w A n zs B) :
    Calls Tryz.prog 19 #[.slice A n c] w (DrwVN w) := by
  have H := Lib.hid (h.start c)
  have hbs := Lib.hid (fun w' (h : (w.alloc (.cells #[.slice A n c, .int .i64 0, .int .u64 0] 60)).grownBy w' (some w.heap.size)) => below_start h)
  clear h
  go_enter Tryz.func19, Tryz.ntmps19
  go_wp2_with fail
  refine (vessels_at H.out (by omega) 6 (by omega)).mono ?_
  rintro e w1 ⟨g1, q, c1, rfl, hq, ho, hs⟩
  obtain ⟨r5, r50, r51, H5⟩ := hs.at H.out
  have S1 := Lib.hid hs
  have O1 := Lib.hid ho
  clear ho hs
  by_cases h0 : q = 0
  · subst h0
    have S1' := S1
    have O1' := O1
    go_wp2_with fail
    refine (of_new H5 (by omega) [⟨#[]⟩, ⟨#[110, 111, 98, 111, 100, 121]⟩, ⟨#[109, 97, 114, 105, 97]⟩] 3 rfl (by omega) (by omega) w1.heap.size rfl).mono ?_
    rintro e w9 ⟨t, -, rfl, hs⟩
    have S9 := Lib.hid (S1'.out.then hs r50 r51)
    have O9 := Lib.hid (O1'.out.kept hs.grown (by simp))
    clear hs
    go_wp2_with fail
    refine bodyPost_ret (results_tmp2 rfl _ _ _) rfl ?_
    obtain ⟨hqc, L, hL⟩ := O9.out.isV
    exact ⟨g1, c1, _, L, t, rfl, hq, hqc, hL, hbs.out _ S9.out.grown⟩
  · have hq0 : (0 : Int) < (q : Int) := by omega
    go_wp2_with fail
    refine (one_at H5 (by omega) 4 (by omega)).mono ?_
    rintro e w2 ⟨b2, rfl, hs⟩
    have S2 := Lib.hid (S1.out.then hs r50 r51)
    have O2 := Lib.hid (O1.out.kept hs.grown (by simp))
    clear hs S1 O1 H5 r50 r51
    obtain ⟨r5, r50, r51, H5⟩ := S2.out.at H.out
    cases b2 with
    | true =>
      have S1' := S2
      have O1' := O2
      go_wp2_with fail
      refine (of_new H5 (by omega) [⟨#[]⟩, ⟨#[110, 111, 98, 111, 100, 121]⟩, ⟨#[109, 97, 114, 105, 97]⟩] 3 rfl (by omega) (by omega) w2.heap.size rfl).mono ?_
      rintro e w9 ⟨t, -, rfl, hs⟩
      have S9 := Lib.hid (S1'.out.then hs r50 r51)
      have O9 := Lib.hid (O1'.out.kept hs.grown (by simp))
      clear hs
      go_wp2_with fail
      refine bodyPost_ret (results_tmp2 rfl _ _ _) rfl ?_
      obtain ⟨hqc, L, hL⟩ := O9.out.isV
      exact ⟨g1, c1, _, L, t, rfl, hq, hqc, hL, hbs.out _ S9.out.grown⟩
    | false =>
      have CP := Lib.hid (fun (W : World) (hW : Drawn w2 W) => pick_at (H5.kept (grown_drawn hW none) (by simp) (fun r e => by cases e)) (by omega) (q : Int) (by omega))
      have CW := Lib.hid (fun (W W' : World) (hW : Drawn w2 W) (hs : CurStep W W' w.heap.size A n c r5 2) (b : Int) (b0 : 0 ≤ b) (b1 : b < (q : Int) ∨ b = 0) => nam_back O2.out S2.out r50 r51 hq hq0 ((grown_drawn hW (some w.heap.size)).trans hs.grown) (hs.pre' hW) (by simp) b0 b1)
      clear S2 O2 H5
      go_wp2_with fail
      go_region_with (go_at_call 45; refine (CP.out _ (Drawn.one w2 1)).mono ?_; rintro e w3 ⟨b, b0, b1, rfl, hs⟩; obtain ⟨k, t, rfl, k0, k1, t0, hfin⟩ := CW.out _ _ (Drawn.one w2 1) hs b b0 b1; have HF := Lib.hid hfin; clear hfin b0 b1 hs)
      all_goals
        go_wp2_with fail
        refine bodyPost_ret (results_tmp2 rfl _ _ _) rfl ?_
        obtain ⟨hqc, L, hL, hgr⟩ := HF.out
        exact ⟨g1, c1, _, L, t, rfl, hq, hqc, hL, hbs.out _ hgr⟩
end Go.Proofs.YtliebicnejbheabGreatDoor

/- Chapter 3: the cells of a fleet, the model and the program. -/
namespace Go.Proofs.YtliebicnejbheabGreatDoor
open Go.RowKit Go.PlainAid Go.Sort

/-- The cells of the first k vessels. -/
def cel (vs : List Ves) : Nat → Int
  | 0 => 0
  | k + 1 => cel vs k + (vs.getD k noVes).len * (vs.getD k noVes).wid
theorem cell_bd {v : Ves} (h : goodV v) : 0 ≤ v.len * v.wid ∧ v.len * v.wid ≤ 24 := by
  obtain ⟨-, -, h1, h2, -⟩ := h
  obtain h3 | h3 | h3 : v.wid = 1 ∨ v.wid = 2 ∨ v.wid = 3 := by omega
  all_goals rw [h3]; omega
theorem cel_bd {vs : List Ves} (h : goodF vs) : ∀ k, k ≤ vs.length → 0 ≤ cel vs k ∧ cel vs k ≤ 24 * k
  | 0, _ => by simp [cel]
  | k + 1, hk => by
    have ih := cel_bd h k (by omega)
    have := cell_bd (h.2 k (by omega)).1
    simp only [cel]
    omega
theorem goodF_len {vs : List Ves} (h : gF vs = true) : vs.length ≤ 8 := ((gF_iff vs).1 h).1

set_option maxHeartbeats 400000 in
theorem vesCells_any (i : Int) (s : ByteArray) (l b d q : Int) (w : World) (h0 : 0 ≤ l * b) (h1 : l * b ≤ 24) :
    Calls Tryz.prog 44 #[.agg #[.int .i64 i, .string s, .int .i64 l, .int .i64 b, .int .i64 d, .int .i64 q]] w fun e w' => e = .returned (.int .i64 (l * b)) ∧ Below w.heap.size w w' := by
  go_enter Tryz.func44, Tryz.ntmps44
  go_wp2
  go_ret
  exact ⟨rfl, (Below.refl _ _).alloc (Nat.le_refl _) _⟩

set_option maxHeartbeats 1000000 in
theorem implCells_any {w : World} {B : Nat} {A : Option Addr} {n : Nat} {vs : List Ves} (c : Nat) (h : IsVs w B A n vs) (hm : n ≤ maxLen) (hc : n ≤ c) (x : Bool) (hx : gF vs = x) (v : Int) (hv : x = true → v = cel vs n) (hv0 : x = false → v = 0) :
    Calls Tryz.prog 17 #[.slice A n c] w fun e w' => e = .returned (.tuple #[.int .i64 v, .bool x]) ∧ Below w.heap.size w w' := by
  have C := Lib.hid (isFleet_vs c h hm hc)
  rw [hx] at C
  have CL := Lib.hid (fun (i : Int) (s : ByteArray) (l b d q : Int) (W : World) (h0 : 0 ≤ l * b) (h1 : l * b ≤ 24) => vesCells_any i s l b d q W h0 h1)
  have HI := Lib.hid h
  cases x with
  | false =>
    obtain rfl : v = 0 := hv0 rfl
    clear hv hv0 h hx hm HI CL
    go_enter Tryz.func17, Tryz.ntmps17
    go_wp2_with fail
    refine C.out.mono ?_
    rintro e w1 ⟨rfl, hb⟩
    go_wp2_with fail
    go_ret2
    exact ⟨rfl, hb⟩
  | true =>
    have HG := Lib.hid ((gF_iff vs).1 hx)
    have hn8 : n ≤ 8 := by have := goodF_len hx; rw [h.len] at this; exact this
    have HV := Lib.hid (hv rfl)
    clear hv hv0 h hx hm
    go_enter Tryz.func17, Tryz.ntmps17
    go_wp2_with fail
    refine C.out.mono ?_
    rintro e w1 ⟨rfl, hb1⟩
    have HB1 := Lib.hid hb1
    clear hb1 C
    go_wp2_with fail
    go_loopw [4, 12] (fun m i wr => ∃ k : Nat, k ≤ n ∧ i = .int .i64 k ∧ m = .int .i64 (cel vs k) ∧ Below w.heap.size w wr) (fun _ i _ => n - (intOf i).toNat)
    case atStart => exact ⟨0, Nat.zero_le _, rfl, rfl, HB1.out⟩
    case round =>
      obtain ⟨k, hk, rfl, rfl, hb⟩ := hrel
      obtain ⟨b0, b1⟩ := cel_bd HG.out k (by rw [HI.out.len]; exact hk)
      by_cases hlt : k < n
      · have hkl : k < vs.length := by rw [HI.out.len]; exact hlt
        obtain ⟨a1, rfl, hab, HV⟩ := (HI.out.below hb HI.out.low).has.ves hkl
        obtain ⟨p0, p1⟩ := cell_bd (HG.out.2 k hkl).1
        have HS : Hid (cel vs (k + 1) = cel vs k + (vs.getD k noVes).len * (vs.getD k noVes).wid) := Lib.hid rfl
        generalize vs.getD k noVes = V at HV HS p0 p1
        obtain ⟨i, s, l, b, d, q⟩ := V
        obtain ⟨e0, e1, e2, e3, e4, e5⟩ := HV
        dsimp only at e0 e1 e2 e3 e4 e5 p0 p1
        have HS' : Hid (cel vs (k + 1) = cel vs k + l * b) := Lib.hid HS.out
        have C := Lib.hid (fun W => CL.out i s l b d q W p0 p1)
        generalize l * b = P at p0 p1 HS' C
        generalize cel vs k = S at b0 b1 HS'
        have HB := Lib.hid (hb.alloc hb.size (.cells #[.int .i64 i, .string s, .int .i64 l, .int .i64 b, .int .i64 d, .int .i64 q] 25))
        have hk0 : (0 : Int) ≤ (k : Int) := by omega
        have hk1 : (k : Int) < (n : Int) := by omega
        clear HS hb
        go_wp2_with fail
        refine (C.out _).mono ?_
        rintro e w2 ⟨rfl, hb2⟩
        have HB2 := Lib.hid (HB.out.trans (hb2.mono HB.out.size))
        clear hb2 e0 e1 e2 e3 e4 e5
        go_wp2_with fail
        refine ⟨⟨k + 1, by omega, by go_num, by rw [HS'.out], HB2.out⟩, by simp [intOf]; omega⟩
      · obtain rfl : k = n := by omega
        clear HI HG CL
        go_wp2
        go_ret2
        exact ⟨by rw [HV.out]; rfl, hb⟩
/-- What both are asked for. -/
theorem cells_two (vs : List Ves) (n : Nat) : ∃ (x : Bool) (v : Int), gF vs = x ∧ (x = true → v = cel vs n) ∧ (x = false → v = 0) := by
  cases h : gF vs with
  | true => exact ⟨true, cel vs n, rfl, fun _ => rfl, fun g => by cases g⟩
  | false => exact ⟨false, 0, rfl, fun g => (by cases g), fun _ => rfl⟩
end Go.Proofs.YtliebicnejbheabGreatDoor
