/- Texts that are joined: VesPI2. -/
import Derived.Test.YtliebicnejbheabGreatDoorMg31
import Derived.Test.YtliebicnejbheabGreatDoorMg32
import Derived.Test.YtliebicnejbheabGreatDoorMg25
/- Chapter 3: ParseVessel, the program. -/
namespace Go.Proofs.YtliebicnejbheabGreatDoor
open Go.RowKit Go.PlainAid Go.Sort

/-- What the program's reading of a word tells. -/
theorem parse_pair (s : ByteArray) (hs : s.size ≤ 1048576) : ∃ (n : Int) (b : Bool), (∀ m : Int, 0 ≤ m → m ≤ 999 → numB m = s → n = m) ∧
    ∀ W, Tab W → Errs W → Calls Tryz.prog 31 #[.string s] W fun e w' => e = .returned (.tuple #[.int .i64 n, .bool b]) ∧ Below W.heap.size W w' := by
  cases e : rdO s with
  | none =>
    have hn := rdO_none e
    exact ⟨0, false, fun m h0 h1 h2 => absurd h2 (hn m (by omega) (by omega)), fun W ht he => implParse_no s W (by omega) hn ht he⟩
  | some n =>
    obtain ⟨h0, h1, h2⟩ := rdO_some e
    exact ⟨n, true, fun m m0 m1 h3 => numB_inj _ _ (h2.trans h3.symm), fun W ht _ => implParse_ok n s W (by omega) h0 h1 h2 ht⟩

theorem set1_at {W : World} {g : Nat} {cs : Array Value} {t : TypeId} {r : Nat × Nat} (h : W.heap[g]? = some (.cells cs t r)) (k : Nat) (x : Value) : (W.setCell ⟨g, k, none⟩ x).heap[g]? = some (.cells (cs.setIfInBounds k x) t r) := by
  simp [World.setCell, Array.getElem?_modify, h]

set_option maxRecDepth 100000 in
set_option maxHeartbeats 4000000 in
theorem implPV_any (t : ByteArray) (w : World) (ht : t.size ≤ 1048576) (i : Int) (s : ByteArray) (l b d q : Int) (x : Bool) (hp : Parsed t ⟨i, s, l, b, d, q⟩ x) (hT : Tab w) (hE : Errs w) (hM : Mx w) :
    Calls Tryz.prog 9 #[.string t] w fun e w' => e = .returned (.tuple #[.agg #[.int .i64 i, .string s, .int .i64 l, .int .i64 b, .int .i64 d, .int .i64 q], .bool x]) ∧ Below w.heap.size w w' := by
  have HP := Lib.hid hp
  have TT := Lib.hid (fun W (hW : Below w.heap.size w W) => (⟨hT.on hW (Nat.le_refl _), hE.on hW (Nat.le_refl _), hM.on hW (Nat.le_refl _)⟩ : Tab W ∧ Errs W ∧ Mx W))
  obtain ⟨ws, ok, hws0, hno, CS0⟩ : ∃ (ws : List ByteArray) (ok : Bool), (t.size ≤ 4000 → ws = parts t 32 ∧ ok = true) ∧ (¬ t.size ≤ 4000 → ok = false) ∧ ∀ W, Calls Tryz.prog 28 #[.string t, .string ⟨#[32]⟩] W (GivesStrs W ws ok) := by
    by_cases h : t.size ≤ 4000
    · exact ⟨parts t 32, true, fun _ => ⟨rfl, rfl⟩, fun g => absurd h g, fun W => implSplit_ok t ⟨#[32]⟩ W h rfl⟩
    · exact ⟨[], false, fun g => absurd g h, fun _ => rfl, fun W => implSplit_no t ⟨#[32]⟩ W (by unfold maxLen; omega) (by unfold maxLen; exact Nat.le_trans (show (1 : Nat) ≤ 1 by omega) (by omega)) (fun g => h g.1)⟩
  have CS := Lib.hid CS0
  clear hp hT hE hM CS0
  go_enter Tryz.func9, Tryz.ntmps9
  go_wp2_with fail
  have b0 := (Below.refl w.heap.size w).alloc (Nat.le_refl _) (.cells #[.int .i64 0, .string ⟨#[]⟩, .int .i64 0, .int .i64 0, .int .i64 0, .int .i64 0] 25)
  have q0 := heap_alloc_new w (.cells #[.int .i64 0, .string ⟨#[]⟩, .int .i64 0, .int .i64 0, .int .i64 0, .int .i64 0] 25)
  refine (CS.out _).mono ?_
  rintro e w1 ⟨g, cg, rfl, hg, hown, hb⟩
  simp only [World.size_alloc] at hg hown hb
  have p0 := (hb.block _ (by omega)).trans q0
  have B1 := Lib.hid (b0.trans (hb.mono (by omega)))
  have hz1 : w.heap.size + 1 ≤ w1.heap.size := by have := hb.size; simp at this; omega
  have HP0 := Lib.hid p0
  have HO := Lib.hid hown
  clear b0 q0 hb p0 hown CS
  by_cases hok : ok = true ∧ ws.length = 6
  · obtain ⟨rfl, hlen⟩ := hok
    have ht4 : t.size ≤ 4000 := by
      by_cases h : t.size ≤ 4000
      · exact h
      · exact nomatch hno h
    obtain ⟨rfl, -⟩ := hws0 ht4
    obtain ⟨wa, wb, wc, wd, we, wf, hws⟩ := six hlen
    have hwa : ∀ y ∈ parts t 32, y.size ≤ t.size := parts_size t 32
    rw [hws] at hwa
    have szs : wa.size ≤ 1048576 ∧ wb.size ≤ 1048576 ∧ wc.size ≤ 1048576 ∧ wd.size ≤ 1048576 ∧ we.size ≤ 1048576 ∧ wf.size ≤ 1048576 := by
      have a1 := hwa wa (by simp)
      have a2 := hwa wb (by simp)
      have a3 := hwa wc (by simp)
      have a4 := hwa wd (by simp)
      have a5 := hwa we (by simp)
      have a6 := hwa wf (by simp)
      omega
    obtain ⟨sa, sb, sc, sd, se, sf⟩ := szs
    have HL6 : ∀ j (hj : j < 6), w1.cell? ⟨g, j, none⟩ = some (.string ([wa, wb, wc, wd, we, wf][j]'hj)) := fun j hj => by
      have := strs_at HO.out (k := j) (by rw [hlen]; exact hj)
      rw [this]
      simp only [hws]
    have hg1 : g < w1.heap.size := (HO.out.lt g rfl).2
    have CW := Lib.hid (fun W (hW : Below w1.heap.size w1 W) => (⟨(hW.cell hg1).trans (HL6 0 (by omega)), (hW.cell hg1).trans (HL6 1 (by omega)), (hW.cell hg1).trans (HL6 2 (by omega)), (hW.cell hg1).trans (HL6 3 (by omega)), (hW.cell hg1).trans (HL6 5 (by omega))⟩ :
      W.cell? ⟨g, 0, none⟩ = some (.string wa) ∧ W.cell? ⟨g, 1, none⟩ = some (.string wb) ∧ W.cell? ⟨g, 2, none⟩ = some (.string wc) ∧ W.cell? ⟨g, 3, none⟩ = some (.string wd) ∧ W.cell? ⟨g, 5, none⟩ = some (.string wf)))
    have PV := Lib.hid (fun W (hW : Below w1.heap.size w1 W) => ((hW.block _ (by omega)).trans HP0.out : W.heap[w.heap.size]? = some (.cells #[.int .i64 0, .string ⟨#[]⟩, .int .i64 0, .int .i64 0, .int .i64 0, .int .i64 0] 25 (0, 0))))
    have BV := Lib.hid (fun W (hW : Below w1.heap.size w1 W) => B1.out.trans (hW.mono B1.out.size))
    obtain ⟨xa, xb, f, sxa, sxb, hx, CC0⟩ := cut_any wd sd
    have CC := Lib.hid CC0
    obtain ⟨n0, f0, u0, R0'⟩ := parse_pair wa sa
    obtain ⟨n1, f1, u1, R1'⟩ := parse_pair xa sxa
    obtain ⟨n2, f2, u2, R2'⟩ := parse_pair xb sxb
    obtain ⟨n3, f3, u3, R3'⟩ := parse_pair wf sf
    have R0 := Lib.hid (fun W hW => R0' W (TT.out W hW).1 (TT.out W hW).2.1)
    have R1 := Lib.hid (fun W hW => R1' W (TT.out W hW).1 (TT.out W hW).2.1)
    have R2 := Lib.hid (fun W hW => R2' W (TT.out W hW).1 (TT.out W hW).2.1)
    have R3 := Lib.hid (fun W hW => R3' W (TT.out W hW).1 (TT.out W hW).2.1)
    have KW := Lib.hid (fun W => kindOfWord_any wc W)
    have HEQ : Hid (∀ u, goodV u → vt u = t → u = ⟨n0, wb, n1, n2, n3, kix wc⟩) := Lib.hid (fun u hu he => by
      have h1 := (vt_parts hu he).2
      rw [hws] at h1
      simp only [List.cons.injEq] at h1
      obtain ⟨e0, e1, e2, e3, -, e5, -⟩ := h1
      obtain ⟨x1, x2⟩ := hx _ _ e3
      obtain ⟨⟨i0, i1⟩, -, ⟨l0, l1⟩, ⟨b0, b1⟩, ⟨d0, d1⟩, q1⟩ := hu
      rw [u0 _ (by omega) (by omega) e0.symm, u1 _ (by omega) (by omega) x1.symm, u2 _ (by omega) (by omega) x2.symm, u3 _ (by omega) (by omega) e5.symm, e1, e2, kix_of q1])
    obtain ⟨T, y, hy, hny⟩ : ∃ (T : ByteArray) (y : Bool), (goodV ⟨n0, wb, n1, n2, n3, kix wc⟩ → T = vtxt n0 wb n1 n2 n3 (kindB (kix wc)) ∧ y = true) ∧ (¬ goodV ⟨n0, wb, n1, n2, n3, kix wc⟩ → T = ⟨#[]⟩ ∧ y = false) := by
      by_cases h : goodV ⟨n0, wb, n1, n2, n3, kix wc⟩
      · exact ⟨_, true, fun _ => ⟨rfl, rfl⟩, fun g => absurd h g⟩
      · exact ⟨_, false, fun g => absurd g h, fun _ => ⟨rfl, rfl⟩⟩
    have CT := Lib.hid (fun W hW => implVT_any n0 wb n1 n2 n3 (kix wc) W (by unfold maxLen; omega) T y hy hny (TT.out W hW).1 (TT.out W hW).2.2)
    -- the text is t: the vessel read; else no good vessel has the text t
    have HYES : Hid (y = true → T = t → (⟨i, s, l, b, d, q⟩ : Ves) = ⟨n0, wb, n1, n2, n3, kix wc⟩ ∧ x = true) := Lib.hid (fun y1 y2 => by
      by_cases h : goodV ⟨n0, wb, n1, n2, n3, kix wc⟩
      · exact HP.out.yes _ h ((hy h).1.symm.trans y2)
      · rw [(hny h).2] at y1; cases y1)
    have HNO : Hid (¬ (y = true ∧ T = t) → (⟨i, s, l, b, d, q⟩ : Ves) = zVes ∧ x = false) := Lib.hid (fun hh => HP.out.no (fun u hu he => by
      have e := HEQ.out u hu he
      rw [e] at hu he
      exact hh ⟨(hy hu).2, (hy hu).1.trans he⟩))
    generalize kix wc = qn at KW CT HYES
    clear HL6 HO hws hwa HP0 HP hx CC0 u0 u1 u2 u3 R0' R1' R2' R3' HEQ hy hny hno hws0 TT sa sb sc sd se sf sxa sxb ht4
    rw [hlen]
    obtain ⟨-, -, -, c3, -⟩ := CW.out w1 (Below.refl _ _)
    go_wp2_with fail
    refine (CC.out _).mono ?_
    rintro e w2 ⟨rfl, hD⟩
    have Y2 := Lib.hid (hD.below w1.heap.size)
    clear hD c3 CC
    go_wp2_with fail
    refine region_inv (by kernel_rfl) (by kernel_rfl) (fun F ac W => ∃ (x33 x34 x35 x36 x37 x38 x39 x40 x9 : Value), ac = { tmps := #[Value.string t, undef, Value.pointer (some ⟨w.heap.size, 0, none⟩), Value.bool false, Value.slice (some ⟨g, 0, none⟩) 6 cg, Value.bool true, Value.string xa, Value.string xb, Value.bool f, x9, undef, undef, Value.tuple #[Value.slice (some ⟨g, 0, none⟩) 6 cg, Value.bool true], Value.string t, Value.tuple #[Value.slice (some ⟨g, 0, none⟩) 6 cg, Value.bool true], Value.slice (some ⟨g, 0, none⟩) 6 cg, Value.bool true, Value.bool true, Value.bool false, Value.bool false, Value.slice (some ⟨g, 0, none⟩) 6 cg, Value.int IntKind.i64 6, Value.bool false, Value.bool false, undef, Value.tuple #[Value.string xa, Value.string xb, Value.bool f], Value.slice (some ⟨g, 0, none⟩) 6 cg, Value.pointer (some ⟨g, 3, none⟩), Value.string wd, Value.tuple #[Value.string xa, Value.string xb, Value.bool f], Value.string xa, Value.string xb, Value.bool f, x33, x34, x35, x36, x37, x38, x39, x40, undef, undef, undef, undef, undef, undef, undef, undef, undef, undef, undef, undef, undef, undef, undef, undef, undef, undef, undef, undef, undef, undef, undef, undef, undef, undef, undef, undef, undef, undef, undef, undef, undef, undef, undef, undef, undef, undef, undef, undef, undef, undef], defers := [] } ∧ Below w2.heap.size w2 W ∧
          (F 0 = true → x33 = .slice (some ⟨g, 0, none⟩) 6 cg) ∧
          (F 1 = true → x34 = .pointer (some ⟨g, 1, none⟩)) ∧
          (F 2 = true → x35 = .string wb) ∧
          (F 3 = true → x36 = .slice (some ⟨g, 0, none⟩) 6 cg) ∧
          (F 4 = true → x37 = .pointer (some ⟨g, 2, none⟩)) ∧
          (F 5 = true → x38 = .string wc) ∧
          (F 6 = true → x39 = .int .i64 qn) ∧
          (F 7 = true → x40 = .agg #[.int .i64 0, .string wb, .int .i64 0, .int .i64 0, .int .i64 0, .int .i64 qn]) ∧
          (F 8 = true → F 9 = false → ∃ gp, x9 = .pointer (some ⟨gp, 0, none⟩) ∧ w2.heap.size ≤ gp ∧ W.heap[gp]? = some (.cells #[.int .i64 0, .string ⟨#[]⟩, .int .i64 0, .int .i64 0, .int .i64 0, .int .i64 0] 25 (0, 0))) ∧
          (F 9 = true → ∃ gp, x9 = .pointer (some ⟨gp, 0, none⟩) ∧ w2.heap.size ≤ gp ∧ W.heap[gp]? = some (.cells #[.int .i64 0, .string wb, .int .i64 0, .int .i64 0, .int .i64 0, .int .i64 qn] 25 (0, 0))) ∧
          (F 9 = true → F 8 = true)) ?_ ?_ ?_
    · exact ⟨_, _, _, _, _, _, _, _, _, rfl, (Drawn.one w2 1).below _, (fun q0 => nomatch q0), (fun q0 => nomatch q0), (fun q0 => nomatch q0), (fun q0 => nomatch q0), (fun q0 => nomatch q0), (fun q0 => nomatch q0), (fun q0 => nomatch q0), (fun q0 => nomatch q0), (fun q0 => nomatch q0), (fun q0 => nomatch q0), (fun q0 => nomatch q0)⟩
    · intro F ac W i9 o hJ ho hL hdep K' hK
      obtain ⟨x33, x34, x35, x36, x37, x38, x39, x40, x9, rfl, hB, h0, h1, h2, h3, h4, h5, h6, h7, h8, h9, k9⟩ := hJ
      have hi9 : i9 < 10 := by simpa using (Array.getElem?_eq_some_iff.1 ho).1
      obtain ⟨-, D1, D2, -, -⟩ := CW.out W (Y2.out.trans (hB.mono Y2.out.size))
      obtain rfl | rfl | rfl | rfl | rfl | rfl | rfl | rfl | rfl | rfl : i9 = 0 ∨ i9 = 1 ∨ i9 = 2 ∨ i9 = 3 ∨ i9 = 4 ∨ i9 = 5 ∨ i9 = 6 ∨ i9 = 7 ∨ i9 = 8 ∨ i9 = 9 := by omega
      · -- operation 0
        cases ho
        go_simp
        exact hK _ _ ⟨_, _, _, _, _, _, _, _, _, rfl, hB, fun _ => rfl, h1, h2, h3, h4, h5, h6, h7, h8, h9, k9⟩
      · -- operation 1
        cases ho
        obtain rfl := h0 (hdep ⟨0, .data⟩ (by simp) rfl)
        go_simp
        exact hK _ _ ⟨_, _, _, _, _, _, _, _, _, rfl, hB, h0, fun _ => rfl, h2, h3, h4, h5, h6, h7, h8, h9, k9⟩
      · -- operation 2
        cases ho
        obtain rfl := h1 (hdep ⟨1, .data⟩ (by simp) rfl)
        go_simp
        exact hK _ _ ⟨_, _, _, _, _, _, _, _, _, rfl, hB, h0, h1, fun _ => rfl, h3, h4, h5, h6, h7, h8, h9, k9⟩
      · -- operation 3
        cases ho
        go_simp
        exact hK _ _ ⟨_, _, _, _, _, _, _, _, _, rfl, hB, h0, h1, h2, fun _ => rfl, h4, h5, h6, h7, h8, h9, k9⟩
      · -- operation 4
        cases ho
        obtain rfl := h3 (hdep ⟨3, .data⟩ (by simp) rfl)
        go_simp
        exact hK _ _ ⟨_, _, _, _, _, _, _, _, _, rfl, hB, h0, h1, h2, h3, fun _ => rfl, h5, h6, h7, h8, h9, k9⟩
      · -- operation 5
        cases ho
        obtain rfl := h4 (hdep ⟨4, .data⟩ (by simp) rfl)
        go_simp
        exact hK _ _ ⟨_, _, _, _, _, _, _, _, _, rfl, hB, h0, h1, h2, h3, h4, fun _ => rfl, h6, h7, h8, h9, k9⟩
      · -- operation 6
        cases ho
        obtain rfl := h5 (hdep ⟨5, .data⟩ (by simp) rfl)
        go_simp
        refine (KW.out _).mono ?_
        rintro e w9 ⟨rfl, rfl⟩
        exact hK _ _ ⟨_, _, _, _, _, _, _, _, _, rfl, hB, h0, h1, h2, h3, h4, fun _ => rfl, fun _ => rfl, h7, h8, h9, k9⟩
      · -- operation 7
        cases ho
        obtain rfl := h2 (hdep ⟨2, .data⟩ (by simp) rfl)
        obtain rfl := h6 (hdep ⟨6, .data⟩ (by simp) rfl)
        go_simp
        exact hK _ _ ⟨_, _, _, _, _, _, _, _, _, rfl, hB, h0, h1, h2, h3, h4, h5, h6, fun _ => rfl, h8, h9, k9⟩
      · -- operation 8
        cases ho
        go_simp
        exact hK _ _ ⟨_, _, _, _, _, _, _, _, _, rfl, hB.alloc hB.size _, h0, h1, h2, h3, h4, h5, h6, h7, fun _ _ => ⟨_, rfl, hB.size, heap_alloc_new W _⟩, (fun q0 => by have z := k9 q0; rw [hL] at z; exact nomatch z), fun _ => rfl⟩
      · -- operation 9
        cases ho
        have hd8 := hdep ⟨8, .data⟩ (by simp) rfl
        have hd7 := hdep ⟨7, .data⟩ (by simp) rfl
        obtain ⟨gp, rfl, hgp, hpp⟩ := h8 hd8 hL
        obtain rfl := h7 hd7
        have s0 := cell_of_row W gp 0 _ _ _ hpp
        have r0 := frozen_of_row W gp 0 _ _ hpp
        have s1 := cell_of_row W gp 1 _ _ _ hpp
        have r1 := frozen_of_row W gp 1 _ _ hpp
        have s2 := cell_of_row W gp 2 _ _ _ hpp
        have r2 := frozen_of_row W gp 2 _ _ hpp
        have s3 := cell_of_row W gp 3 _ _ _ hpp
        have r3 := frozen_of_row W gp 3 _ _ hpp
        have s4 := cell_of_row W gp 4 _ _ _ hpp
        have r4 := frozen_of_row W gp 4 _ _ hpp
        have s5 := cell_of_row W gp 5 _ _ _ hpp
        have r5 := frozen_of_row W gp 5 _ _ hpp
        go_simp
        exact hK _ _ ⟨_, _, _, _, _, _, _, _, _, rfl, sets6_below hB hgp _ _ _ _ _ _, h0, h1, h2, h3, h4, h5, h6, fun _ => rfl, (fun _ r0 => nomatch r0), fun _ => ⟨_, rfl, hgp, sets6_at hpp _ _ _ _ _ _⟩, fun _ => hd8⟩
    intro F ac w3 hJ hall
    obtain ⟨x33, x34, x35, x36, x37, x38, x39, x40, x9, rfl, hB, h0, h1, h2, h3, h4, h5, h6, h7, h8, h9, -⟩ := hJ
    obtain ⟨gp, rfl, hgp0, hpp⟩ := h9 (hall 9 (by decide))
    have hgp : w1.heap.size ≤ gp := Nat.le_trans Y2.out.size hgp0
    have Y3 := Lib.hid (Y2.out.trans (hB.mono Y2.out.size))
    have GP3 := Lib.hid hpp
    have hgne : ¬ gp = g := by omega
    have hgne' : ¬ g = gp := by omega
    clear hB hpp h0 h1 h2 h3 h4 h5 h6 h7 h8 h9 hall Y2 hgp0 KW
    obtain ⟨c0, -, -, -, -⟩ := CW.out w3 Y3.out
    go_wp2_with fail
    refine (R0.out _ (BV.out _ Y3.out)).mono ?_
    rintro e w4 ⟨rfl, hb⟩
    have Z := Lib.hid (Y3.out.trans (hb.mono Y3.out.size))
    have Q : w4.heap[gp]? = some (.cells #[.int .i64 0, .string wb, .int .i64 0, .int .i64 0, .int .i64 0, .int .i64 qn] 25 (0, 0)) := (hb.block gp (Array.getElem?_eq_some_iff.1 GP3.out).1).trans GP3.out
    clear hb Y3 GP3 R0 c0
    have d0 := cell_of_row w4 gp 0 _ _ _ Q
    have d1 := cell_of_row w4 gp 1 _ _ _ Q
    have d2 := cell_of_row w4 gp 2 _ _ _ Q
    have d3 := cell_of_row w4 gp 3 _ _ _ Q
    have d4 := cell_of_row w4 gp 4 _ _ _ Q
    have d5 := cell_of_row w4 gp 5 _ _ _ Q
    have z0 := frozen_of_row w4 gp 0 _ _ Q
    have Y4 : Hid (Below w1.heap.size w1 (w4.setCell ⟨gp, 0, none⟩ (.int .i64 n0))) := Lib.hid (Z.out.setCell (p := ⟨gp, 0, none⟩) hgp _)
    have GP4 : Hid ((w4.setCell ⟨gp, 0, none⟩ (.int .i64 n0)).heap[gp]? = some (.cells #[.int .i64 n0, .string wb, .int .i64 0, .int .i64 0, .int .i64 0, .int .i64 qn] 25 (0, 0))) := Lib.hid (set1_at Q 0 _)
    clear Q
    clear Z
    go_wp2_with fail
    clear d0 d1 d2 d3 d4 d5 z0
    refine (R1.out _ (BV.out _ Y4.out)).mono ?_
    rintro e w5 ⟨rfl, hb⟩
    have Z := Lib.hid (Y4.out.trans (hb.mono Y4.out.size))
    have Q : w5.heap[gp]? = some (.cells #[.int .i64 n0, .string wb, .int .i64 0, .int .i64 0, .int .i64 0, .int .i64 qn] 25 (0, 0)) := (hb.block gp (Array.getElem?_eq_some_iff.1 GP4.out).1).trans GP4.out
    clear hb Y4 GP4 R1
    have d0 := cell_of_row w5 gp 0 _ _ _ Q
    have d1 := cell_of_row w5 gp 1 _ _ _ Q
    have d2 := cell_of_row w5 gp 2 _ _ _ Q
    have d3 := cell_of_row w5 gp 3 _ _ _ Q
    have d4 := cell_of_row w5 gp 4 _ _ _ Q
    have d5 := cell_of_row w5 gp 5 _ _ _ Q
    have z0 := frozen_of_row w5 gp 2 _ _ Q
    have Y5 : Hid (Below w1.heap.size w1 (w5.setCell ⟨gp, 2, none⟩ (.int .i64 n1))) := Lib.hid (Z.out.setCell (p := ⟨gp, 2, none⟩) hgp _)
    have GP5 : Hid ((w5.setCell ⟨gp, 2, none⟩ (.int .i64 n1)).heap[gp]? = some (.cells #[.int .i64 n0, .string wb, .int .i64 n1, .int .i64 0, .int .i64 0, .int .i64 qn] 25 (0, 0))) := Lib.hid (set1_at Q 2 _)
    clear Q
    clear Z
    go_wp2_with fail
    clear d0 d1 d2 d3 d4 d5 z0
    refine (R2.out _ (BV.out _ Y5.out)).mono ?_
    rintro e w6 ⟨rfl, hb⟩
    have Z := Lib.hid (Y5.out.trans (hb.mono Y5.out.size))
    have Q : w6.heap[gp]? = some (.cells #[.int .i64 n0, .string wb, .int .i64 n1, .int .i64 0, .int .i64 0, .int .i64 qn] 25 (0, 0)) := (hb.block gp (Array.getElem?_eq_some_iff.1 GP5.out).1).trans GP5.out
    clear hb Y5 GP5 R2
    have d0 := cell_of_row w6 gp 0 _ _ _ Q
    have d1 := cell_of_row w6 gp 1 _ _ _ Q
    have d2 := cell_of_row w6 gp 2 _ _ _ Q
    have d3 := cell_of_row w6 gp 3 _ _ _ Q
    have d4 := cell_of_row w6 gp 4 _ _ _ Q
    have d5 := cell_of_row w6 gp 5 _ _ _ Q
    have z0 := frozen_of_row w6 gp 3 _ _ Q
    have Y6 : Hid (Below w1.heap.size w1 (w6.setCell ⟨gp, 3, none⟩ (.int .i64 n2))) := Lib.hid (Z.out.setCell (p := ⟨gp, 3, none⟩) hgp _)
    have GP6 : Hid ((w6.setCell ⟨gp, 3, none⟩ (.int .i64 n2)).heap[gp]? = some (.cells #[.int .i64 n0, .string wb, .int .i64 n1, .int .i64 n2, .int .i64 0, .int .i64 qn] 25 (0, 0))) := Lib.hid (set1_at Q 3 _)
    clear Q
    obtain ⟨-, -, -, -, c5⟩ := CW.out w6 Z.out
    clear Z
    go_wp2_with fail
    clear c5
    clear d0 d1 d2 d3 d4 d5 z0
    refine (R3.out _ (BV.out _ Y6.out)).mono ?_
    rintro e w7 ⟨rfl, hb⟩
    have Z := Lib.hid (Y6.out.trans (hb.mono Y6.out.size))
    have Q : w7.heap[gp]? = some (.cells #[.int .i64 n0, .string wb, .int .i64 n1, .int .i64 n2, .int .i64 0, .int .i64 qn] 25 (0, 0)) := (hb.block gp (Array.getElem?_eq_some_iff.1 GP6.out).1).trans GP6.out
    clear hb Y6 GP6 R3
    have d0 := cell_of_row w7 gp 0 _ _ _ Q
    have d1 := cell_of_row w7 gp 1 _ _ _ Q
    have d2 := cell_of_row w7 gp 2 _ _ _ Q
    have d3 := cell_of_row w7 gp 3 _ _ _ Q
    have d4 := cell_of_row w7 gp 4 _ _ _ Q
    have d5 := cell_of_row w7 gp 5 _ _ _ Q
    have z0 := frozen_of_row w7 gp 4 _ _ Q
    have Y7 : Hid (Below w1.heap.size w1 (w7.setCell ⟨gp, 4, none⟩ (.int .i64 n3))) := Lib.hid (Z.out.setCell (p := ⟨gp, 4, none⟩) hgp _)
    have GP7 : Hid ((w7.setCell ⟨gp, 4, none⟩ (.int .i64 n3)).heap[gp]? = some (.cells #[.int .i64 n0, .string wb, .int .i64 n1, .int .i64 n2, .int .i64 n3, .int .i64 qn] 25 (0, 0))) := Lib.hid (set1_at Q 4 _)
    clear Q
    clear Z
    go_wp2_with fail
    clear d0 d1 d2 d3 d4 d5 z0
    refine (CT.out _ (BV.out _ Y7.out)).mono ?_
    rintro e w9 ⟨rfl, hb⟩
    have PP := Lib.hid (PV.out w9 (Y7.out.trans (hb.mono Y7.out.size)))
    have BB := Lib.hid (BV.out w9 (Y7.out.trans (hb.mono Y7.out.size)))
    have Q : w9.heap[gp]? = some (.cells #[.int .i64 n0, .string wb, .int .i64 n1, .int .i64 n2, .int .i64 n3, .int .i64 qn] 25 (0, 0)) := (hb.block gp (Array.getElem?_eq_some_iff.1 GP7.out).1).trans GP7.out
    clear hb Y7 GP7 CT CW PV BV
    have c0 := cell_of_row w9 _ 0 _ _ _ PP.out
    have f0' := frozen_of_row w9 _ 0 _ _ PP.out
    have c1 := cell_of_row w9 _ 1 _ _ _ PP.out
    have f1' := frozen_of_row w9 _ 1 _ _ PP.out
    have c2 := cell_of_row w9 _ 2 _ _ _ PP.out
    have f2' := frozen_of_row w9 _ 2 _ _ PP.out
    have c3 := cell_of_row w9 _ 3 _ _ _ PP.out
    have f3' := frozen_of_row w9 _ 3 _ _ PP.out
    have c4 := cell_of_row w9 _ 4 _ _ _ PP.out
    have f4' := frozen_of_row w9 _ 4 _ _ PP.out
    have c5 := cell_of_row w9 _ 5 _ _ _ PP.out
    have f5' := frozen_of_row w9 _ 5 _ _ PP.out
    by_cases hTt : T = t
    · have hself : (T.toList != t.toList) = false := by rw [hTt]; simp
      cases y with
      | false =>
        obtain ⟨e, rfl⟩ := HNO.out (fun hh => nomatch hh.1)
        obtain ⟨rfl, rfl, rfl, rfl, rfl, rfl⟩ := Ves.mk.inj e
        clear HYES HNO e Q
        go_wp2_with fail
        refine bodyPost_ret (results_ves rfl _ _ w.heap.size [.int .i64 0, .string ⟨#[]⟩, .int .i64 0, .int .i64 0, .int .i64 0, .int .i64 0] _ rfl (sets6_range PP.out _ _ _ _ _ _) Tryz.underlying25 rfl (by kernel_rfl)) rfl ?_
        exact ⟨rfl, sets6_below BB.out (Nat.le_refl _) _ _ _ _ _ _⟩
      | true =>
        obtain ⟨e, rfl⟩ := HYES.out rfl hTt
        obtain ⟨rfl, rfl, rfl, rfl, rfl, rfl⟩ := Ves.mk.inj e
        have d0 := cell_of_row w9 gp 0 _ _ _ Q
        have d1 := cell_of_row w9 gp 1 _ _ _ Q
        have d2 := cell_of_row w9 gp 2 _ _ _ Q
        have d3 := cell_of_row w9 gp 3 _ _ _ Q
        have d4 := cell_of_row w9 gp 4 _ _ _ Q
        have d5 := cell_of_row w9 gp 5 _ _ _ Q
        subst hTt
        have hs2 : (T.toList == T.toList) = true := beq_self_eq_true _
        clear HYES HNO e Q
        go_wp2_with fail
        refine bodyPost_ret (results_ves rfl _ _ w.heap.size [_ , _ , _ , _ , _ , _ ] _ rfl (sets6_range PP.out _ _ _ _ _ _) Tryz.underlying25 rfl (by kernel_rfl)) rfl ?_
        exact ⟨rfl, sets6_below BB.out (Nat.le_refl _) _ _ _ _ _ _⟩
    · have hne := toList_ne hTt
      cases y with
      | false =>
        obtain ⟨e, rfl⟩ := HNO.out (fun hh => nomatch hh.1)
        obtain ⟨rfl, rfl, rfl, rfl, rfl, rfl⟩ := Ves.mk.inj e
        clear HYES HNO e Q
        go_wp2_with fail
        refine bodyPost_ret (results_ves rfl _ _ w.heap.size [.int .i64 0, .string ⟨#[]⟩, .int .i64 0, .int .i64 0, .int .i64 0, .int .i64 0] _ rfl (sets6_range PP.out _ _ _ _ _ _) Tryz.underlying25 rfl (by kernel_rfl)) rfl ?_
        exact ⟨rfl, sets6_below BB.out (Nat.le_refl _) _ _ _ _ _ _⟩
      | true =>
        obtain ⟨e, rfl⟩ := HNO.out (fun hh => hTt hh.2)
        obtain ⟨rfl, rfl, rfl, rfl, rfl, rfl⟩ := Ves.mk.inj e
        clear HYES HNO e Q
        go_wp2_with fail
        refine bodyPost_ret (results_ves rfl _ _ w.heap.size [.int .i64 0, .string ⟨#[]⟩, .int .i64 0, .int .i64 0, .int .i64 0, .int .i64 0] _ rfl (sets6_range PP.out _ _ _ _ _ _) Tryz.underlying25 rfl (by kernel_rfl)) rfl ?_
        exact ⟨rfl, sets6_below BB.out (Nat.le_refl _) _ _ _ _ _ _⟩
  · have hwhy : ∀ u, goodV u → vt u ≠ t := fun u hu he => by
      obtain ⟨h1, h2⟩ := vt_parts hu he
      obtain ⟨rfl, rfl⟩ := hws0 (by omega)
      exact hok ⟨rfl, by rw [h2]; rfl⟩
    obtain ⟨e, rfl⟩ := HP.out.no hwhy
    obtain ⟨rfl, rfl, rfl, rfl, rfl, rfl⟩ := Ves.mk.inj e
    have c0 := cell_of_row w1 _ 0 _ _ _ HP0.out
    have f0 := frozen_of_row w1 _ 0 _ _ HP0.out
    have c1 := cell_of_row w1 _ 1 _ _ _ HP0.out
    have f1 := frozen_of_row w1 _ 1 _ _ HP0.out
    have c2 := cell_of_row w1 _ 2 _ _ _ HP0.out
    have f2 := frozen_of_row w1 _ 2 _ _ HP0.out
    have c3 := cell_of_row w1 _ 3 _ _ _ HP0.out
    have f3 := frozen_of_row w1 _ 3 _ _ HP0.out
    have c4 := cell_of_row w1 _ 4 _ _ _ HP0.out
    have f4 := frozen_of_row w1 _ 4 _ _ HP0.out
    have c5 := cell_of_row w1 _ 5 _ _ _ HP0.out
    have f5 := frozen_of_row w1 _ 5 _ _ HP0.out
    obtain ⟨L, hL⟩ : ∃ L, ws.length = L := ⟨_, rfl⟩
    rw [hL] at hok ⊢
    clear hno hws0 HO HP hwhy TT hL
    cases ok
    · have hv : ((L : Int) != 6) = true ∨ ((L : Int) != 6) = false := by cases ((L : Int) != 6) <;> simp
      clear hok
      rcases hv with hv | hv
      · go_wp2_with fail
        refine bodyPost_ret (results_ves rfl _ _ w.heap.size [.int .i64 0, .string ⟨#[]⟩, .int .i64 0, .int .i64 0, .int .i64 0, .int .i64 0] _ rfl (sets6_range HP0.out _ _ _ _ _ _) Tryz.underlying25 rfl (by kernel_rfl)) rfl ?_
        exact ⟨rfl, sets6_below B1.out (Nat.le_refl _) _ _ _ _ _ _⟩
      · go_wp2_with fail
        refine bodyPost_ret (results_ves rfl _ _ w.heap.size [.int .i64 0, .string ⟨#[]⟩, .int .i64 0, .int .i64 0, .int .i64 0, .int .i64 0] _ rfl (sets6_range HP0.out _ _ _ _ _ _) Tryz.underlying25 rfl (by kernel_rfl)) rfl ?_
        exact ⟨rfl, sets6_below B1.out (Nat.le_refl _) _ _ _ _ _ _⟩
    · have hne : ((L : Int) != 6) = true := by simp at hok ⊢; omega
      go_wp2_with fail
      refine bodyPost_ret (results_ves rfl _ _ w.heap.size [.int .i64 0, .string ⟨#[]⟩, .int .i64 0, .int .i64 0, .int .i64 0, .int .i64 0] _ rfl (sets6_range HP0.out _ _ _ _ _ _) Tryz.underlying25 rfl (by kernel_rfl)) rfl ?_
      exact ⟨rfl, sets6_below B1.out (Nat.le_refl _) _ _ _ _ _ _⟩
end Go.Proofs.YtliebicnejbheabGreatDoor
