/- Texts that are joined: VesPS2. -/
import Derived.Test.YtliebicnejbheabGreatDoorMg30
import Derived.Test.YtliebicnejbheabGreatDoorMg03
/- Chapter 3: ParseVessel, the model. -/
namespace Go.Proofs.YtliebicnejbheabGreatDoor
open Go.RowKit Go.PlainAid Go.Sort

theorem heap_keepV {w : World} {g : Nat} {x : Obj} (h : w.heap[g]? = some x) (o : Obj) : (w.alloc o).heap[g]? = some x := (heap_alloc_old w o (Array.getElem?_eq_some_iff.1 h).1).trans h

set_option maxRecDepth 100000 in
set_option maxHeartbeats 4000000 in
theorem specPV_any (t : ByteArray) (w : World) (ht : t.size ≤ 1048576) (i : Int) (s : ByteArray) (l b d q : Int) (x : Bool) (hp : Parsed t ⟨i, s, l, b, d, q⟩ x) :
    Calls Tryz.prog 11 #[.string t] w fun e w' => e = .returned (.tuple #[.agg #[.int .i64 i, .string s, .int .i64 l, .int .i64 b, .int .i64 d, .int .i64 q], .bool x]) ∧ Below w.heap.size w w' := by
  have HP := Lib.hid hp
  clear hp
  go_enter Tryz.func11, Tryz.ntmps11
  go_wp2_with fail
  have b0 := (Below.refl w.heap.size w).alloc (Nat.le_refl _) (.cells #[.int .i64 0, .string ⟨#[]⟩, .int .i64 0, .int .i64 0, .int .i64 0, .int .i64 0] 25)
  have b1 := b0.alloc b0.size (.cells #[.int .i64 0, .string ⟨#[]⟩, .int .i64 0, .int .i64 0, .int .i64 0, .int .i64 0] 25)
  have q0 := (heap_alloc_old (w.alloc (.cells #[.int .i64 0, .string ⟨#[]⟩, .int .i64 0, .int .i64 0, .int .i64 0, .int .i64 0] 25)) (.cells #[.int .i64 0, .string ⟨#[]⟩, .int .i64 0, .int .i64 0, .int .i64 0, .int .i64 0] 25) (r := w.heap.size) (by simp)).trans (heap_alloc_new w _)
  have q1 := heap_alloc2_new w (.cells #[.int .i64 0, .string ⟨#[]⟩, .int .i64 0, .int .i64 0, .int .i64 0, .int .i64 0] 25) (.cells #[.int .i64 0, .string ⟨#[]⟩, .int .i64 0, .int .i64 0, .int .i64 0, .int .i64 0] 25)
  refine (l1Split_any t 32 _ ht).mono ?_
  rintro e w1 ⟨g, cg, rfl, hg, hown, hb⟩
  simp only [World.size_alloc] at hg hown hb
  have p0 := (hb.block _ (by omega)).trans q0
  have p1 := (hb.block _ (by omega)).trans q1
  have B1 := Lib.hid (b1.trans (hb.mono (by omega)))
  have hz1 : w.heap.size + 2 ≤ w1.heap.size := by have := hb.size; simp at this; omega
  have HP0 := Lib.hid p0
  have HP1 := Lib.hid p1
  have HO := Lib.hid hown
  clear b0 b1 q0 q1 hb p0 p1 hown
  have ht' : (t.size : Int) ≤ 1048576 := by omega
  by_cases hsz : (60 : Int) < (t.size : Int)
  · have hwhy : ∀ u, goodV u → vt u ≠ t := fun u hu he => by have := (vt_parts hu he).1; omega
    obtain ⟨e, rfl⟩ := HP.out.no hwhy
    obtain ⟨rfl, rfl, rfl, rfl, rfl, rfl⟩ := Ves.mk.inj e
    have c0 := cell_of_row w1 _ 0 _ _ _ HP0.out
    have f0 := frozen_of_row w1 _ 0 _ _ HP0.out
    have k0 := cell_of_row w1 _ 0 _ _ _ HP1.out
    have c1 := cell_of_row w1 _ 1 _ _ _ HP0.out
    have f1 := frozen_of_row w1 _ 1 _ _ HP0.out
    have k1 := cell_of_row w1 _ 1 _ _ _ HP1.out
    have c2 := cell_of_row w1 _ 2 _ _ _ HP0.out
    have f2 := frozen_of_row w1 _ 2 _ _ HP0.out
    have k2 := cell_of_row w1 _ 2 _ _ _ HP1.out
    have c3 := cell_of_row w1 _ 3 _ _ _ HP0.out
    have f3 := frozen_of_row w1 _ 3 _ _ HP0.out
    have k3 := cell_of_row w1 _ 3 _ _ _ HP1.out
    have c4 := cell_of_row w1 _ 4 _ _ _ HP0.out
    have f4 := frozen_of_row w1 _ 4 _ _ HP0.out
    have k4 := cell_of_row w1 _ 4 _ _ _ HP1.out
    have c5 := cell_of_row w1 _ 5 _ _ _ HP0.out
    have f5 := frozen_of_row w1 _ 5 _ _ HP0.out
    have k5 := cell_of_row w1 _ 5 _ _ _ HP1.out
    go_wp2_with fail
    refine bodyPost_ret (results_ves rfl _ _ w.heap.size [.int .i64 0, .string ⟨#[]⟩, .int .i64 0, .int .i64 0, .int .i64 0, .int .i64 0] _ rfl (sets6_range HP0.out _ _ _ _ _ _) Tryz.underlying25 rfl (by kernel_rfl)) rfl ?_
    exact ⟨rfl, sets6_below B1.out (Nat.le_refl _) _ _ _ _ _ _⟩
  by_cases hlen : (parts t 32).length = 6
  · obtain ⟨wa, wb, wc, wd, we, wf, hws⟩ := six hlen
    have hwa : ∀ y ∈ parts t 32, y.size ≤ t.size := parts_size t 32
    rw [hws] at hwa
    have szs : wa.size ≤ 1048576 ∧ wb.size ≤ 1048576 ∧ wc.size ≤ 1048576 ∧ wd.size ≤ 1048576 ∧ we.size ≤ 1048576 ∧ wf.size ≤ 1048576 := by
      have a1 := hwa wa (by simp)
      have a2 := hwa wb (by simp)
      have a3 := hwa wc (by simp)
      have a4 := hwa wd (by simp)
      have a5 := hwa we (by simp)
      have a6 := hwa wf (by simp)
      omega
    obtain ⟨sa, sb, sc, sd, se, sf⟩ := szs
    have HWS := Lib.hid hws
    have HL6 : ∀ j (hj : j < 6), w1.cell? ⟨g, j, none⟩ = some (.string ([wa, wb, wc, wd, we, wf][j]'hj)) := fun j hj => by
      have := strs_at HO.out (k := j) (by rw [hlen]; exact hj)
      rw [this]
      simp only [hws]
    have hg1 : g < w1.heap.size := (HO.out.lt g rfl).2
    have CW := Lib.hid (fun W (hW : Below w1.heap.size w1 W) => (⟨(hW.cell hg1).trans (HL6 0 (by omega)), (hW.cell hg1).trans (HL6 1 (by omega)), (hW.cell hg1).trans (HL6 2 (by omega)), (hW.cell hg1).trans (HL6 3 (by omega)), (hW.cell hg1).trans (HL6 5 (by omega))⟩ :
      W.cell? ⟨g, 0, none⟩ = some (.string wa) ∧ W.cell? ⟨g, 1, none⟩ = some (.string wb) ∧ W.cell? ⟨g, 2, none⟩ = some (.string wc) ∧ W.cell? ⟨g, 3, none⟩ = some (.string wd) ∧ W.cell? ⟨g, 5, none⟩ = some (.string wf)))
    have PQ := Lib.hid (fun W (hW : Below w1.heap.size w1 W) => (⟨(hW.block _ (by omega)).trans HP0.out, (hW.block _ (by omega)).trans HP1.out⟩ : W.heap[w.heap.size]? = some (.cells #[.int .i64 0, .string ⟨#[]⟩, .int .i64 0, .int .i64 0, .int .i64 0, .int .i64 0] 25 (0, 0)) ∧ W.heap[w.heap.size + 1]? = some (.cells #[.int .i64 0, .string ⟨#[]⟩, .int .i64 0, .int .i64 0, .int .i64 0, .int .i64 0] 25 (0, 0))))
    rw [hlen]
    have hsz' : ¬ (60 : Int) < (t.size : Int) := hsz
    have e3 := HL6 3 (by omega)
    dsimp only [List.getElem_cons_succ, List.getElem_cons_zero] at e3
    clear HL6 HO hws hwa hlen HP0 HP1
    go_wp2_with fail
    refine (l1Split_any wd 120 w1 sd).mono ?_
    rintro e w2 ⟨g2, cg2, rfl, hg2, hown2, hb⟩
    have B2 := Lib.hid (B1.out.trans (hb.mono B1.out.size))
    have X2 := Lib.hid hb
    have HO2 := Lib.hid hown2
    clear hb hown2 e3
    by_cases hlen2 : (parts wd 120).length = 2
    · obtain ⟨xa, xb, hxs⟩ := two hlen2
      have hxa : ∀ y ∈ parts wd 120, y.size ≤ wd.size := parts_size wd 120
      rw [hxs] at hxa
      have sxa : xa.size ≤ 1048576 := by have := hxa xa (by simp); omega
      have sxb : xb.size ≤ 1048576 := by have := hxa xb (by simp); omega
      obtain ⟨n0, f0, m0, hy0, hu0, hr0⟩ := read_pair wa sa
      obtain ⟨n1, f1, m1, hy1, hu1, hr1⟩ := read_pair xa sxa
      obtain ⟨n2, f2, m2, hy2, hu2, hr2⟩ := read_pair xb sxb
      obtain ⟨n3, f3, m3, hy3, hu3, hr3⟩ := read_pair wf sf
      have R0 := Lib.hid hr0
      have R1 := Lib.hid hr1
      have R2 := Lib.hid hr2
      have R3 := Lib.hid hr3
      have HXS := Lib.hid hxs
      have HY := Lib.hid (⟨hy0, hy1, hy2, hy3⟩ : (f0 = true → numB n0 = wa) ∧ (f1 = true → numB n1 = xa) ∧ (f2 = true → numB n2 = xb) ∧ (f3 = true → numB n3 = wf))
      have HU := Lib.hid (⟨hu0, hu1, hu2, hu3⟩ : (∀ m : Int, 0 ≤ m → m ≤ 999 → numB m = wa → n0 = m ∧ f0 = true) ∧ (∀ m : Int, 0 ≤ m → m ≤ 999 → numB m = xa → n1 = m ∧ f1 = true) ∧ (∀ m : Int, 0 ≤ m → m ≤ 999 → numB m = xb → n2 = m ∧ f2 = true) ∧ (∀ m : Int, 0 ≤ m → m ≤ 999 → numB m = wf → n3 = m ∧ f3 = true))
      have hg22 : g2 < w2.heap.size := (HO2.out.lt g2 rfl).2
      have hs0 : w2.cell? ⟨g2, 0, none⟩ = some (.string xa) := by
        have := strs_at HO2.out (k := 0) (by rw [hlen2]; omega)
        rw [this]
        simp only [hxs]
        rfl
      have hs1 : w2.cell? ⟨g2, 1, none⟩ = some (.string xb) := by
        have := strs_at HO2.out (k := 1) (by rw [hlen2]; omega)
        rw [this]
        simp only [hxs]
        rfl
      have CX := Lib.hid (fun W (hW : Below w2.heap.size w2 W) => (⟨(hW.cell hg22).trans hs0, (hW.cell hg22).trans hs1⟩ : W.cell? ⟨g2, 0, none⟩ = some (.string xa) ∧ W.cell? ⟨g2, 1, none⟩ = some (.string xb)))
      have CV := Lib.hid (fun W (hW : Below w2.heap.size w2 W) => CW.out W (X2.out.trans (hW.mono X2.out.size)))
      have PV := Lib.hid (fun W (hW : Below w2.heap.size w2 W) => PQ.out W (X2.out.trans (hW.mono X2.out.size)))
      have BV := Lib.hid (fun W (hW : Below w2.heap.size w2 W) => B2.out.trans (hW.mono B2.out.size))
      rw [hlen2]
      obtain ⟨c0, -, -, -, -⟩ := CV.out w2 (Below.refl _ _)
      clear hxs hxa hr0 hr1 hr2 hr3 hy0 hy1 hy2 hy3 hu0 hu1 hu2 hu3 hs0 hs1 HO2 CW PQ B2 B1 X2 hlen2
      go_wp2_with fail
      refine (R0.out _).mono ?_
      rintro e w3 ⟨rfl, hD⟩
      have Y3 := Lib.hid (hD.below w2.heap.size)
      clear hD c0
      obtain ⟨c0, c1⟩ := CX.out w3 Y3.out
      go_wp2_with fail
      refine (R1.out _).mono ?_
      rintro e w4 ⟨rfl, hD⟩
      have Y4 := Lib.hid (Y3.out.trans (hD.below w2.heap.size))
      clear hD c0 c1 Y3
      obtain ⟨c0, c1⟩ := CX.out w4 Y4.out
      go_wp2_with fail
      refine (R2.out _).mono ?_
      rintro e w5 ⟨rfl, hD⟩
      have Y5 := Lib.hid (Y4.out.trans (hD.below w2.heap.size))
      clear hD c0 c1 Y4
      obtain ⟨-, -, -, -, c5⟩ := CV.out w5 Y5.out
      go_wp2_with fail
      refine (R3.out _).mono ?_
      rintro e w6 ⟨rfl, hD⟩
      have Y6 := Lib.hid (Y5.out.trans (hD.below w2.heap.size))
      clear hD c5 Y5 R0 R1 R2 R3
      have HALL : Hid (∀ u, goodV u → vt u = t → (n0 = u.id ∧ f0 = true) ∧ (n1 = u.len ∧ f1 = true) ∧ (n2 = u.wid ∧ f2 = true) ∧ (n3 = u.dr ∧ f3 = true) ∧ wb = u.name ∧ kix wc = u.kind) := Lib.hid (fun u hu he => by
        have h1 := (vt_parts hu he).2
        rw [HWS.out] at h1
        simp only [List.cons.injEq] at h1
        obtain ⟨e0, e1, e2, e3, -, e5, -⟩ := h1
        have h2 := sides_V u.len u.wid
        rw [← e3, HXS.out] at h2
        simp only [List.cons.injEq] at h2
        obtain ⟨u0, u1, u2, u3⟩ := HU.out
        obtain ⟨⟨i0, i1⟩, -, ⟨l0, l1⟩, ⟨b0, b1⟩, ⟨d0, d1⟩, q1⟩ := hu
        exact ⟨u0 _ (by omega) (by omega) e0.symm, u1 _ (by omega) (by omega) h2.1.symm, u2 _ (by omega) (by omega) h2.2.1.symm, u3 _ (by omega) (by omega) e5.symm, e1, by rw [e2]; exact kix_of q1⟩)
      obtain ⟨qn, hqn⟩ : ∃ qn : Nat, kix wc = (qn : Int) := ⟨(kix wc).toNat, by have := kix_bd wc; omega⟩
      have HQN := Lib.hid hqn
      clear hqn
      go_wp2_with fail
      refine region_inv (by kernel_rfl) (by kernel_rfl) (fun F ac W => ∃ (x64 x65 x66 x67 x68 x69 x70 x71 x72 x73 x74 x75 x76 x15 : Value), ac = { tmps := #[Value.string t, undef, Value.pointer (some ⟨w.heap.size, 0, none⟩), Value.bool false, Value.pointer (some ⟨w.heap.size + 1, 0, none⟩), Value.slice (some ⟨g, 0, none⟩) 6 cg, Value.slice (some ⟨g2, 0, none⟩) 2 cg2, Value.int IntKind.i64 n0, Value.bool f0, Value.int IntKind.i64 n1, Value.bool f1, Value.int IntKind.i64 n2, Value.bool f2, Value.int IntKind.i64 n3, Value.bool f3, x15, Value.agg #[Value.int IntKind.i64 0, Value.string ⟨#[]⟩, Value.int IntKind.i64 0, Value.int IntKind.i64 0, Value.int IntKind.i64 0, Value.int IntKind.i64 0], Value.string t, Value.slice (some ⟨g, 0, none⟩) 6 cg, Value.string t, Value.int IntKind.i64 (t.size : Int), Value.bool (decide ((60 : Int) < (t.size : Int))), Value.bool (decide ((60 : Int) < (t.size : Int))), Value.slice (some ⟨g, 0, none⟩) 6 cg, Value.int IntKind.i64 6, Value.bool false, Value.bool (decide ((60 : Int) < (t.size : Int))), undef, Value.slice (some ⟨g, 0, none⟩) 6 cg, Value.pointer (some ⟨g, 3, none⟩), Value.string wd, Value.slice (some ⟨g2, 0, none⟩) 2 cg2, Value.slice (some ⟨g2, 0, none⟩) 2 cg2, Value.int IntKind.i64 2, Value.bool false, undef, Value.tuple #[Value.int IntKind.i64 n0, Value.bool f0], Value.slice (some ⟨g, 0, none⟩) 6 cg, Value.pointer (some ⟨g, 0, none⟩), Value.string wa, Value.tuple #[Value.int IntKind.i64 n0, Value.bool f0], Value.int IntKind.i64 n0, Value.bool f0, Value.tuple #[Value.int IntKind.i64 n1, Value.bool f1], Value.slice (some ⟨g2, 0, none⟩) 2 cg2, Value.pointer (some ⟨g2, 0, none⟩), Value.string xa, Value.tuple #[Value.int IntKind.i64 n1, Value.bool f1], Value.int IntKind.i64 n1, Value.bool f1, Value.tuple #[Value.int IntKind.i64 n2, Value.bool f2], Value.slice (some ⟨g2, 0, none⟩) 2 cg2, Value.pointer (some ⟨g2, 1, none⟩), Value.string xb, Value.tuple #[Value.int IntKind.i64 n2, Value.bool f2], Value.int IntKind.i64 n2, Value.bool f2, Value.tuple #[Value.int IntKind.i64 n3, Value.bool f3], Value.slice (some ⟨g, 0, none⟩) 6 cg, Value.pointer (some ⟨g, 5, none⟩), Value.string wf, Value.tuple #[Value.int IntKind.i64 n3, Value.bool f3], Value.int IntKind.i64 n3, Value.bool f3, x64, x65, x66, x67, x68, x69, x70, x71, x72, x73, x74, x75, x76, undef, undef, undef, undef, undef, undef, undef, undef, undef, undef, undef, undef, undef, undef, undef, undef, undef, undef, undef, undef, undef, undef, undef, undef, undef, undef, undef], defers := [] } ∧ Below w6.heap.size w6 W ∧
            (F 0 = true → x64 = .int .i64 n0) ∧
            (F 1 = true → x65 = .slice (some ⟨g, 0, none⟩) 6 cg) ∧
            (F 2 = true → x66 = .pointer (some ⟨g, 1, none⟩)) ∧
            (F 3 = true → x67 = .string wb) ∧
            (F 4 = true → x68 = .int .i64 n1) ∧
            (F 5 = true → x69 = .int .i64 n2) ∧
            (F 6 = true → x70 = .int .i64 n3) ∧
            (F 7 = true → F 11 = false → ∃ gk, x71 = .slice (some ⟨gk, 0, none⟩) 5 5 ∧ W.heap[gk]? = some (.cells #[.string ⟨#[]⟩, .string ⟨#[98, 97, 114, 103, 101]⟩, .string ⟨#[116, 97, 110, 107, 101, 114]⟩, .string ⟨#[112, 97, 115, 115, 101, 110, 103, 101, 114]⟩, .string ⟨#[112, 108, 101, 97, 115, 117, 114, 101]⟩] 9 (0, 0))) ∧
            (F 8 = true → x72 = .slice (some ⟨g, 0, none⟩) 6 cg) ∧
            (F 9 = true → x73 = .pointer (some ⟨g, 2, none⟩)) ∧
            (F 10 = true → x74 = .string wc) ∧
            (F 11 = true → x75 = .int .i64 (qn : Int)) ∧
            (F 12 = true → x76 = .agg #[.int .i64 n0, .string wb, .int .i64 n1, .int .i64 n2, .int .i64 n3, .int .i64 (qn : Int)]) ∧
            (F 13 = true → F 14 = false → ∃ gp, x15 = .pointer (some ⟨gp, 0, none⟩) ∧ w6.heap.size ≤ gp ∧ W.heap[gp]? = some (.cells #[.int .i64 0, .string ⟨#[]⟩, .int .i64 0, .int .i64 0, .int .i64 0, .int .i64 0] 25 (0, 0))) ∧
            (F 14 = true → ∃ gp, x15 = .pointer (some ⟨gp, 0, none⟩) ∧ w6.heap.size ≤ gp ∧ W.heap[gp]? = some (.cells #[.int .i64 n0, .string wb, .int .i64 n1, .int .i64 n2, .int .i64 n3, .int .i64 (qn : Int)] 25 (0, 0))) ∧
            (F 12 = true → F 11 = true) ∧ (F 14 = true → F 13 = true)) ?_ ?_ ?_
      · exact ⟨_, _, _, _, _, _, _, _, _, _, _, _, _, _, rfl, (Drawn.one w6 1).below _, (fun q0 => nomatch q0), (fun q0 => nomatch q0), (fun q0 => nomatch q0), (fun q0 => nomatch q0), (fun q0 => nomatch q0), (fun q0 => nomatch q0), (fun q0 => nomatch q0), (fun q0 => nomatch q0), (fun q0 => nomatch q0), (fun q0 => nomatch q0), (fun q0 => nomatch q0), (fun q0 => nomatch q0), (fun q0 => nomatch q0), (fun q0 => nomatch q0), (fun q0 => nomatch q0), (fun q0 => nomatch q0), (fun q0 => nomatch q0)⟩
      · intro F ac W i9 o hJ ho hL hdep K' hK
        obtain ⟨x64, x65, x66, x67, x68, x69, x70, x71, x72, x73, x74, x75, x76, x15, rfl, hB, h0, h1, h2, h3, h4, h5, h6, h7, h8, h9, h10, h11, h12, h13, h14, k12, k14⟩ := hJ
        have hi9 : i9 < 15 := by simpa using (Array.getElem?_eq_some_iff.1 ho).1
        obtain ⟨-, D1, D2, -, -⟩ := CV.out W (Y6.out.trans (hB.mono Y6.out.size))
        obtain rfl | rfl | rfl | rfl | rfl | rfl | rfl | rfl | rfl | rfl | rfl | rfl | rfl | rfl | rfl : i9 = 0 ∨ i9 = 1 ∨ i9 = 2 ∨ i9 = 3 ∨ i9 = 4 ∨ i9 = 5 ∨ i9 = 6 ∨ i9 = 7 ∨ i9 = 8 ∨ i9 = 9 ∨ i9 = 10 ∨ i9 = 11 ∨ i9 = 12 ∨ i9 = 13 ∨ i9 = 14 := by omega
        · -- operation 0
          cases ho
          go_simp
          exact hK _ _ ⟨_, _, _, _, _, _, _, _, _, _, _, _, _, _, rfl, hB, fun _ => rfl, h1, h2, h3, h4, h5, h6, h7, h8, h9, h10, h11, h12, h13, h14, k12, k14⟩
        · -- operation 1
          cases ho
          go_simp
          exact hK _ _ ⟨_, _, _, _, _, _, _, _, _, _, _, _, _, _, rfl, hB, h0, fun _ => rfl, h2, h3, h4, h5, h6, h7, h8, h9, h10, h11, h12, h13, h14, k12, k14⟩
        · -- operation 2
          cases ho
          obtain rfl := h1 (hdep ⟨1, .data⟩ (by simp) rfl)
          go_simp
          exact hK _ _ ⟨_, _, _, _, _, _, _, _, _, _, _, _, _, _, rfl, hB, h0, h1, fun _ => rfl, h3, h4, h5, h6, h7, h8, h9, h10, h11, h12, h13, h14, k12, k14⟩
        · -- operation 3
          cases ho
          obtain rfl := h2 (hdep ⟨2, .data⟩ (by simp) rfl)
          go_simp
          exact hK _ _ ⟨_, _, _, _, _, _, _, _, _, _, _, _, _, _, rfl, hB, h0, h1, h2, fun _ => rfl, h4, h5, h6, h7, h8, h9, h10, h11, h12, h13, h14, k12, k14⟩
        · -- operation 4
          cases ho
          go_simp
          exact hK _ _ ⟨_, _, _, _, _, _, _, _, _, _, _, _, _, _, rfl, hB, h0, h1, h2, h3, fun _ => rfl, h5, h6, h7, h8, h9, h10, h11, h12, h13, h14, k12, k14⟩
        · -- operation 5
          cases ho
          go_simp
          exact hK _ _ ⟨_, _, _, _, _, _, _, _, _, _, _, _, _, _, rfl, hB, h0, h1, h2, h3, h4, fun _ => rfl, h6, h7, h8, h9, h10, h11, h12, h13, h14, k12, k14⟩
        · -- operation 6
          cases ho
          go_simp
          exact hK _ _ ⟨_, _, _, _, _, _, _, _, _, _, _, _, _, _, rfl, hB, h0, h1, h2, h3, h4, h5, fun _ => rfl, h7, h8, h9, h10, h11, h12, h13, h14, k12, k14⟩
        · -- operation 7
          cases ho
          go_simp
          refine (kinds_any _).mono ?_
          rintro e w9 ⟨rfl, rfl⟩
          exact hK _ _ ⟨_, _, _, _, _, _, _, _, _, _, _, _, _, _, rfl, hB.alloc hB.size _, h0, h1, h2, h3, h4, h5, h6, fun _ _ => ⟨_, rfl, heap_alloc_new W _⟩, h8, h9, h10, h11, h12, fun q0 r0 => let ⟨gp, e, l9, hp⟩ := h13 q0 r0; ⟨gp, e, l9, heap_keepV hp _⟩, fun q0 => let ⟨gp, e, l9, hp⟩ := h14 q0; ⟨gp, e, l9, heap_keepV hp _⟩, k12, k14⟩
        · -- operation 8
          cases ho
          go_simp
          exact hK _ _ ⟨_, _, _, _, _, _, _, _, _, _, _, _, _, _, rfl, hB, h0, h1, h2, h3, h4, h5, h6, h7, fun _ => rfl, h9, h10, h11, h12, h13, h14, k12, k14⟩
        · -- operation 9
          cases ho
          obtain rfl := h8 (hdep ⟨8, .data⟩ (by simp) rfl)
          go_simp
          exact hK _ _ ⟨_, _, _, _, _, _, _, _, _, _, _, _, _, _, rfl, hB, h0, h1, h2, h3, h4, h5, h6, h7, h8, fun _ => rfl, h10, h11, h12, h13, h14, k12, k14⟩
        · -- operation 10
          cases ho
          obtain rfl := h9 (hdep ⟨9, .data⟩ (by simp) rfl)
          go_simp
          exact hK _ _ ⟨_, _, _, _, _, _, _, _, _, _, _, _, _, _, rfl, hB, h0, h1, h2, h3, h4, h5, h6, h7, h8, h9, fun _ => rfl, h11, h12, h13, h14, k12, k14⟩
        · -- operation 11
          cases ho
          obtain ⟨gk, rfl, hpk⟩ := h7 (hdep ⟨7, .data⟩ (by simp) rfl) hL
          obtain rfl := h10 (hdep ⟨10, .data⟩ (by simp) rfl)
          go_simp
          refine (l3Index_any gk wc W hpk).mono ?_
          rw [HQN.out]
          rintro e w9 ⟨rfl, rfl⟩
          exact hK _ _ ⟨_, _, _, _, _, _, _, _, _, _, _, _, _, _, rfl, hB, h0, h1, h2, h3, h4, h5, h6, (fun _ r0 => nomatch r0), h8, h9, fun _ => rfl, fun _ => rfl, h12, h13, h14, fun _ => rfl, k14⟩
        · -- operation 12
          cases ho
          have hd11 := hdep ⟨11, .data⟩ (by simp) rfl
          obtain rfl := h0 (hdep ⟨0, .data⟩ (by simp) rfl)
          obtain rfl := h3 (hdep ⟨3, .data⟩ (by simp) rfl)
          obtain rfl := h4 (hdep ⟨4, .data⟩ (by simp) rfl)
          obtain rfl := h5 (hdep ⟨5, .data⟩ (by simp) rfl)
          obtain rfl := h6 (hdep ⟨6, .data⟩ (by simp) rfl)
          obtain rfl := h11 (hdep ⟨11, .data⟩ (by simp) rfl)
          go_simp
          exact hK _ _ ⟨_, _, _, _, _, _, _, _, _, _, _, _, _, _, rfl, hB, h0, h1, h2, h3, h4, h5, h6, h7, h8, h9, h10, h11, fun _ => rfl, h13, h14, fun _ => hd11, k14⟩
        · -- operation 13
          cases ho
          go_simp
          exact hK _ _ ⟨_, _, _, _, _, _, _, _, _, _, _, _, _, _, rfl, hB.alloc hB.size _, h0, h1, h2, h3, h4, h5, h6, fun q0 r0 => let ⟨gk, e, hp⟩ := h7 q0 r0; ⟨gk, e, heap_keepV hp _⟩, h8, h9, h10, h11, h12, fun _ _ => ⟨_, rfl, hB.size, heap_alloc_new W _⟩, (fun q0 => by have z := k14 q0; rw [hL] at z; exact nomatch z), k12, fun _ => rfl⟩
        · -- operation 14
          cases ho
          have hd13 := hdep ⟨13, .data⟩ (by simp) rfl
          have hd12 := hdep ⟨12, .data⟩ (by simp) rfl
          have hd11 := k12 hd12
          obtain ⟨gp, rfl, hgp, hpp⟩ := h13 hd13 hL
          obtain rfl := h12 hd12
          obtain rfl := h11 hd11
          have s0 := cell_of_row W gp 0 _ _ _ hpp
          have r0 := frozen_of_row W gp 0 _ _ hpp
          have s1 := cell_of_row W gp 1 _ _ _ hpp
          have r1 := frozen_of_row W gp 1 _ _ hpp
          have s2 := cell_of_row W gp 2 _ _ _ hpp
          have r2 := frozen_of_row W gp 2 _ _ hpp
          have s3 := cell_of_row W gp 3 _ _ _ hpp
          have r3 := frozen_of_row W gp 3 _ _ hpp
          have s4 := cell_of_row W gp 4 _ _ _ hpp
          have r4 := frozen_of_row W gp 4 _ _ hpp
          have s5 := cell_of_row W gp 5 _ _ _ hpp
          have r5 := frozen_of_row W gp 5 _ _ hpp
          go_simp
          exact hK _ _ ⟨_, _, _, _, _, _, _, _, _, _, _, _, _, _, rfl, sets6_below hB hgp _ _ _ _ _ _, h0, h1, h2, h3, h4, h5, h6, (fun _ r0 => nomatch (hd11.symm.trans r0)), h8, h9, h10, fun _ => rfl, fun _ => rfl, (fun _ r0 => nomatch r0), fun _ => ⟨_, rfl, hgp, sets6_at hpp _ _ _ _ _ _⟩, k12, fun _ => hd13⟩
      intro F ac w7 hJ hall
      obtain ⟨x64, x65, x66, x67, x68, x69, x70, x71, x72, x73, x74, x75, x76, x15, rfl, hB, h0, h1, h2, h3, h4, h5, h6, h7, h8, h9, h10, h11, h12, h13, h14, -, -⟩ := hJ
      obtain ⟨gp, rfl, hgp, hpp⟩ := h14 (hall 14 (by decide))
      have Y7 := Lib.hid (Y6.out.trans (hB.mono Y6.out.size))
      have hgl : gp < w7.heap.size := (Array.getElem?_eq_some_iff.1 hpp).1
      have HGP := Lib.hid (fun W (hW : Below w7.heap.size w7 W) => (⟨(hW.cell hgl).trans (cell_of_row w7 gp 0 _ _ _ hpp), (hW.cell hgl).trans (cell_of_row w7 gp 1 _ _ _ hpp), (hW.cell hgl).trans (cell_of_row w7 gp 2 _ _ _ hpp), (hW.cell hgl).trans (cell_of_row w7 gp 3 _ _ _ hpp), (hW.cell hgl).trans (cell_of_row w7 gp 4 _ _ _ hpp), (hW.cell hgl).trans (cell_of_row w7 gp 5 _ _ _ hpp)⟩ : W.cell? ⟨gp, 0, none⟩ = some (.int .i64 n0) ∧ W.cell? ⟨gp, 1, none⟩ = some (.string wb) ∧ W.cell? ⟨gp, 2, none⟩ = some (.int .i64 n1) ∧ W.cell? ⟨gp, 3, none⟩ = some (.int .i64 n2) ∧ W.cell? ⟨gp, 4, none⟩ = some (.int .i64 n3) ∧ W.cell? ⟨gp, 5, none⟩ = some (.int .i64 (qn : Int))))
      have Y77 := Lib.hid (Below.refl w7.heap.size w7)
      clear hB hpp h0 h1 h2 h3 h4 h5 h6 h7 h8 h9 h10 h11 h12 h13 h14 hall hgp
      cases f0 with
      | false =>
        have hwhy : ∀ u, goodV u → vt u ≠ t := fun u hu he => by have := (HALL.out u hu he).1.2; cases this
        obtain ⟨e, rfl⟩ := HP.out.no hwhy
        obtain ⟨rfl, rfl, rfl, rfl, rfl, rfl⟩ := Ves.mk.inj e
        have PP := Lib.hid (PV.out w7 Y7.out)
        have BB := Lib.hid (BV.out w7 Y7.out)
        clear HALL HU HY HWS HXS CX CV PV BV HGP HP e
        have c0 := cell_of_row w7 _ 0 _ _ _ PP.out.1
        have f0' := frozen_of_row w7 _ 0 _ _ PP.out.1
        have k0 := cell_of_row w7 _ 0 _ _ _ PP.out.2
        have c1 := cell_of_row w7 _ 1 _ _ _ PP.out.1
        have f1' := frozen_of_row w7 _ 1 _ _ PP.out.1
        have k1 := cell_of_row w7 _ 1 _ _ _ PP.out.2
        have c2 := cell_of_row w7 _ 2 _ _ _ PP.out.1
        have f2' := frozen_of_row w7 _ 2 _ _ PP.out.1
        have k2 := cell_of_row w7 _ 2 _ _ _ PP.out.2
        have c3 := cell_of_row w7 _ 3 _ _ _ PP.out.1
        have f3' := frozen_of_row w7 _ 3 _ _ PP.out.1
        have k3 := cell_of_row w7 _ 3 _ _ _ PP.out.2
        have c4 := cell_of_row w7 _ 4 _ _ _ PP.out.1
        have f4' := frozen_of_row w7 _ 4 _ _ PP.out.1
        have k4 := cell_of_row w7 _ 4 _ _ _ PP.out.2
        have c5 := cell_of_row w7 _ 5 _ _ _ PP.out.1
        have f5' := frozen_of_row w7 _ 5 _ _ PP.out.1
        have k5 := cell_of_row w7 _ 5 _ _ _ PP.out.2
        go_wp2_with fail
        refine bodyPost_ret (results_ves rfl _ _ w.heap.size [.int .i64 0, .string ⟨#[]⟩, .int .i64 0, .int .i64 0, .int .i64 0, .int .i64 0] _ rfl (sets6_range PP.out.1 _ _ _ _ _ _) Tryz.underlying25 rfl (by kernel_rfl)) rfl ?_
        exact ⟨rfl, sets6_below BB.out (Nat.le_refl _) _ _ _ _ _ _⟩
      | true =>
      cases f1 with
      | false =>
        have hwhy : ∀ u, goodV u → vt u ≠ t := fun u hu he => by have := (HALL.out u hu he).2.1.2; cases this
        obtain ⟨e, rfl⟩ := HP.out.no hwhy
        obtain ⟨rfl, rfl, rfl, rfl, rfl, rfl⟩ := Ves.mk.inj e
        have PP := Lib.hid (PV.out w7 Y7.out)
        have BB := Lib.hid (BV.out w7 Y7.out)
        clear HALL HU HY HWS HXS CX CV PV BV HGP HP e
        have c0 := cell_of_row w7 _ 0 _ _ _ PP.out.1
        have f0' := frozen_of_row w7 _ 0 _ _ PP.out.1
        have k0 := cell_of_row w7 _ 0 _ _ _ PP.out.2
        have c1 := cell_of_row w7 _ 1 _ _ _ PP.out.1
        have f1' := frozen_of_row w7 _ 1 _ _ PP.out.1
        have k1 := cell_of_row w7 _ 1 _ _ _ PP.out.2
        have c2 := cell_of_row w7 _ 2 _ _ _ PP.out.1
        have f2' := frozen_of_row w7 _ 2 _ _ PP.out.1
        have k2 := cell_of_row w7 _ 2 _ _ _ PP.out.2
        have c3 := cell_of_row w7 _ 3 _ _ _ PP.out.1
        have f3' := frozen_of_row w7 _ 3 _ _ PP.out.1
        have k3 := cell_of_row w7 _ 3 _ _ _ PP.out.2
        have c4 := cell_of_row w7 _ 4 _ _ _ PP.out.1
        have f4' := frozen_of_row w7 _ 4 _ _ PP.out.1
        have k4 := cell_of_row w7 _ 4 _ _ _ PP.out.2
        have c5 := cell_of_row w7 _ 5 _ _ _ PP.out.1
        have f5' := frozen_of_row w7 _ 5 _ _ PP.out.1
        have k5 := cell_of_row w7 _ 5 _ _ _ PP.out.2
        go_wp2_with fail
        refine bodyPost_ret (results_ves rfl _ _ w.heap.size [.int .i64 0, .string ⟨#[]⟩, .int .i64 0, .int .i64 0, .int .i64 0, .int .i64 0] _ rfl (sets6_range PP.out.1 _ _ _ _ _ _) Tryz.underlying25 rfl (by kernel_rfl)) rfl ?_
        exact ⟨rfl, sets6_below BB.out (Nat.le_refl _) _ _ _ _ _ _⟩
      | true =>
      cases f2 with
      | false =>
        have hwhy : ∀ u, goodV u → vt u ≠ t := fun u hu he => by have := (HALL.out u hu he).2.2.1.2; cases this
        obtain ⟨e, rfl⟩ := HP.out.no hwhy
        obtain ⟨rfl, rfl, rfl, rfl, rfl, rfl⟩ := Ves.mk.inj e
        have PP := Lib.hid (PV.out w7 Y7.out)
        have BB := Lib.hid (BV.out w7 Y7.out)
        clear HALL HU HY HWS HXS CX CV PV BV HGP HP e
        have c0 := cell_of_row w7 _ 0 _ _ _ PP.out.1
        have f0' := frozen_of_row w7 _ 0 _ _ PP.out.1
        have k0 := cell_of_row w7 _ 0 _ _ _ PP.out.2
        have c1 := cell_of_row w7 _ 1 _ _ _ PP.out.1
        have f1' := frozen_of_row w7 _ 1 _ _ PP.out.1
        have k1 := cell_of_row w7 _ 1 _ _ _ PP.out.2
        have c2 := cell_of_row w7 _ 2 _ _ _ PP.out.1
        have f2' := frozen_of_row w7 _ 2 _ _ PP.out.1
        have k2 := cell_of_row w7 _ 2 _ _ _ PP.out.2
        have c3 := cell_of_row w7 _ 3 _ _ _ PP.out.1
        have f3' := frozen_of_row w7 _ 3 _ _ PP.out.1
        have k3 := cell_of_row w7 _ 3 _ _ _ PP.out.2
        have c4 := cell_of_row w7 _ 4 _ _ _ PP.out.1
        have f4' := frozen_of_row w7 _ 4 _ _ PP.out.1
        have k4 := cell_of_row w7 _ 4 _ _ _ PP.out.2
        have c5 := cell_of_row w7 _ 5 _ _ _ PP.out.1
        have f5' := frozen_of_row w7 _ 5 _ _ PP.out.1
        have k5 := cell_of_row w7 _ 5 _ _ _ PP.out.2
        go_wp2_with fail
        refine bodyPost_ret (results_ves rfl _ _ w.heap.size [.int .i64 0, .string ⟨#[]⟩, .int .i64 0, .int .i64 0, .int .i64 0, .int .i64 0] _ rfl (sets6_range PP.out.1 _ _ _ _ _ _) Tryz.underlying25 rfl (by kernel_rfl)) rfl ?_
        exact ⟨rfl, sets6_below BB.out (Nat.le_refl _) _ _ _ _ _ _⟩
      | true =>
      cases f3 with
      | false =>
        have hwhy : ∀ u, goodV u → vt u ≠ t := fun u hu he => by have := (HALL.out u hu he).2.2.2.1.2; cases this
        obtain ⟨e, rfl⟩ := HP.out.no hwhy
        obtain ⟨rfl, rfl, rfl, rfl, rfl, rfl⟩ := Ves.mk.inj e
        have PP := Lib.hid (PV.out w7 Y7.out)
        have BB := Lib.hid (BV.out w7 Y7.out)
        clear HALL HU HY HWS HXS CX CV PV BV HGP HP e
        have c0 := cell_of_row w7 _ 0 _ _ _ PP.out.1
        have f0' := frozen_of_row w7 _ 0 _ _ PP.out.1
        have k0 := cell_of_row w7 _ 0 _ _ _ PP.out.2
        have c1 := cell_of_row w7 _ 1 _ _ _ PP.out.1
        have f1' := frozen_of_row w7 _ 1 _ _ PP.out.1
        have k1 := cell_of_row w7 _ 1 _ _ _ PP.out.2
        have c2 := cell_of_row w7 _ 2 _ _ _ PP.out.1
        have f2' := frozen_of_row w7 _ 2 _ _ PP.out.1
        have k2 := cell_of_row w7 _ 2 _ _ _ PP.out.2
        have c3 := cell_of_row w7 _ 3 _ _ _ PP.out.1
        have f3' := frozen_of_row w7 _ 3 _ _ PP.out.1
        have k3 := cell_of_row w7 _ 3 _ _ _ PP.out.2
        have c4 := cell_of_row w7 _ 4 _ _ _ PP.out.1
        have f4' := frozen_of_row w7 _ 4 _ _ PP.out.1
        have k4 := cell_of_row w7 _ 4 _ _ _ PP.out.2
        have c5 := cell_of_row w7 _ 5 _ _ _ PP.out.1
        have f5' := frozen_of_row w7 _ 5 _ _ PP.out.1
        have k5 := cell_of_row w7 _ 5 _ _ _ PP.out.2
        go_wp2_with fail
        refine bodyPost_ret (results_ves rfl _ _ w.heap.size [.int .i64 0, .string ⟨#[]⟩, .int .i64 0, .int .i64 0, .int .i64 0, .int .i64 0] _ rfl (sets6_range PP.out.1 _ _ _ _ _ _) Tryz.underlying25 rfl (by kernel_rfl)) rfl ?_
        exact ⟨rfl, sets6_below BB.out (Nat.le_refl _) _ _ _ _ _ _⟩
      | true =>
      have HEQ : Hid (∀ u, goodV u → vt u = t → u = ⟨n0, wb, n1, n2, n3, (qn : Int)⟩) := Lib.hid (fun u hu he => by
        obtain ⟨⟨a0, -⟩, ⟨a1, -⟩, ⟨a2, -⟩, ⟨a3, -⟩, a4, a5⟩ := HALL.out u hu he
        rw [HQN.out] at a5
        obtain ⟨ui, us, ul, ub, ud, uq⟩ := u
        dsimp only at a0 a1 a2 a3 a4 a5
        rw [← a0, ← a1, ← a2, ← a3, ← a4, ← a5])
      have CG := Lib.hid (fun W => l3Good_any n0 wb n1 n2 n3 (qn : Int) W (by unfold maxLen; omega))
      obtain ⟨d0, d1, d2, d3, d4, d5⟩ := HGP.out w7 Y77.out
      cases hgv : gV ⟨n0, wb, n1, n2, n3, (qn : Int)⟩ with
      | false =>
        rw [hgv] at CG
        have hwhy : ∀ u, goodV u → vt u ≠ t := fun u hu he => by
          have := HEQ.out u hu he
          rw [this] at hu
          rw [gV_yes hu] at hgv
          cases hgv
        clear hgv
        go_wp2_with fail
        refine (CG.out _).mono ?_
        rintro e w8 ⟨rfl, hb8⟩
        have Y8 := Lib.hid (Y7.out.trans (hb8.mono Y7.out.size))
        clear hb8 d0 d1 d2 d3 d4 d5 HEQ CG
        obtain ⟨e, rfl⟩ := HP.out.no hwhy
        obtain ⟨rfl, rfl, rfl, rfl, rfl, rfl⟩ := Ves.mk.inj e
        have PP := Lib.hid (PV.out w8 Y8.out)
        have BB := Lib.hid (BV.out w8 Y8.out)
        clear HALL HU HY HWS HXS CX CV PV BV HGP HP e
        have c0 := cell_of_row w8 _ 0 _ _ _ PP.out.1
        have f0' := frozen_of_row w8 _ 0 _ _ PP.out.1
        have k0 := cell_of_row w8 _ 0 _ _ _ PP.out.2
        have c1 := cell_of_row w8 _ 1 _ _ _ PP.out.1
        have f1' := frozen_of_row w8 _ 1 _ _ PP.out.1
        have k1 := cell_of_row w8 _ 1 _ _ _ PP.out.2
        have c2 := cell_of_row w8 _ 2 _ _ _ PP.out.1
        have f2' := frozen_of_row w8 _ 2 _ _ PP.out.1
        have k2 := cell_of_row w8 _ 2 _ _ _ PP.out.2
        have c3 := cell_of_row w8 _ 3 _ _ _ PP.out.1
        have f3' := frozen_of_row w8 _ 3 _ _ PP.out.1
        have k3 := cell_of_row w8 _ 3 _ _ _ PP.out.2
        have c4 := cell_of_row w8 _ 4 _ _ _ PP.out.1
        have f4' := frozen_of_row w8 _ 4 _ _ PP.out.1
        have k4 := cell_of_row w8 _ 4 _ _ _ PP.out.2
        have c5 := cell_of_row w8 _ 5 _ _ _ PP.out.1
        have f5' := frozen_of_row w8 _ 5 _ _ PP.out.1
        have k5 := cell_of_row w8 _ 5 _ _ _ PP.out.2
        go_wp2_with fail
        refine bodyPost_ret (results_ves rfl _ _ w.heap.size [.int .i64 0, .string ⟨#[]⟩, .int .i64 0, .int .i64 0, .int .i64 0, .int .i64 0] _ rfl (sets6_range PP.out.1 _ _ _ _ _ _) Tryz.underlying25 rfl (by kernel_rfl)) rfl ?_
        exact ⟨rfl, sets6_below BB.out (Nat.le_refl _) _ _ _ _ _ _⟩
      | true =>
        rw [hgv] at CG
        have hgood := (gV_iff _).1 hgv
        obtain ⟨⟨i0, i1⟩, hnm, ⟨l0, l1⟩, ⟨b0, b1⟩, ⟨d0', d1'⟩, ⟨q0, q1⟩⟩ := hgood
        dsimp only at i0 i1 hnm l0 l1 b0 b1 d0' d1' q0 q1
        have CT := Lib.hid (fun W => l3Text_any n0 wb n1 n2 n3 qn (kindB qn) W (by omega) (by omega) (by omega) (by omega) hnm.1.2 (kind_size _) (by omega) (kind_at (by omega)))
        have hgood := (gV_iff _).1 hgv
        have HT : Hid (vt ⟨n0, wb, n1, n2, n3, (qn : Int)⟩ = vtxt n0 wb n1 n2 n3 (kindB qn)) := Lib.hid rfl
        generalize vtxt n0 wb n1 n2 n3 (kindB qn) = T at CT HT
        have HGD := Lib.hid hgood
        clear hgv hgood hnm
        go_wp2_with fail
        refine (CG.out _).mono ?_
        rintro e w8 ⟨rfl, hb8⟩
        have Y8 := Lib.hid (Y7.out.trans (hb8.mono Y7.out.size))
        have Z8 := Lib.hid hb8
        clear hb8 d0 d1 d2 d3 d4 d5 CG
        obtain ⟨d0, d1, d2, d3, d4, d5⟩ := HGP.out w8 Z8.out
        go_wp2_with fail
        refine (CT.out _).mono ?_
        rintro e w9 ⟨rfl, hb9⟩
        have Y9 := Lib.hid (Y8.out.trans (hb9.mono Y8.out.size))
        have Z9 := Lib.hid (Z8.out.trans (hb9.mono Z8.out.size))
        clear hb9 d0 d1 d2 d3 d4 d5 CT
        by_cases hTt : T = t
        · obtain ⟨e, rfl⟩ := HP.out.yes _ HGD.out (HT.out.trans hTt)
          obtain ⟨rfl, rfl, rfl, rfl, rfl, rfl⟩ := Ves.mk.inj e
          subst hTt
          have hself : (T.toList == T.toList) = true := beq_self_eq_true _
          have PP := Lib.hid (PV.out w9 Y9.out)
          have BB := Lib.hid (BV.out w9 Y9.out)
          obtain ⟨d0, d1, d2, d3, d4, d5⟩ := HGP.out w9 Z9.out
          clear HALL HU HY HWS HXS CX CV PV BV HGP HP e HEQ HT HGD
          have c0 := cell_of_row w9 _ 0 _ _ _ PP.out.1
          have f0' := frozen_of_row w9 _ 0 _ _ PP.out.1
          have c1 := cell_of_row w9 _ 1 _ _ _ PP.out.1
          have f1' := frozen_of_row w9 _ 1 _ _ PP.out.1
          have c2 := cell_of_row w9 _ 2 _ _ _ PP.out.1
          have f2' := frozen_of_row w9 _ 2 _ _ PP.out.1
          have c3 := cell_of_row w9 _ 3 _ _ _ PP.out.1
          have f3' := frozen_of_row w9 _ 3 _ _ PP.out.1
          have c4 := cell_of_row w9 _ 4 _ _ _ PP.out.1
          have f4' := frozen_of_row w9 _ 4 _ _ PP.out.1
          have c5 := cell_of_row w9 _ 5 _ _ _ PP.out.1
          have f5' := frozen_of_row w9 _ 5 _ _ PP.out.1
          go_wp2_with fail
          refine bodyPost_ret (results_ves rfl _ _ w.heap.size [.int .i64 _, .string _, .int .i64 _, .int .i64 _, .int .i64 _, .int .i64 _] _ rfl (sets6_range PP.out.1 _ _ _ _ _ _) Tryz.underlying25 rfl (by kernel_rfl)) rfl ?_
          exact ⟨rfl, sets6_below BB.out (Nat.le_refl _) _ _ _ _ _ _⟩
        · have hwhy : ∀ u, goodV u → vt u ≠ t := fun u hu he => by
            have := HEQ.out u hu he
            rw [this, HT.out] at he
            exact hTt he
          have hne := toList_ne hTt
          clear HEQ HT HGD hTt
          obtain ⟨e, rfl⟩ := HP.out.no hwhy
          obtain ⟨rfl, rfl, rfl, rfl, rfl, rfl⟩ := Ves.mk.inj e
          have PP := Lib.hid (PV.out w9 Y9.out)
          have BB := Lib.hid (BV.out w9 Y9.out)
          clear HALL HU HY HWS HXS CX CV PV BV HGP HP e
          have c0 := cell_of_row w9 _ 0 _ _ _ PP.out.1
          have f0' := frozen_of_row w9 _ 0 _ _ PP.out.1
          have k0 := cell_of_row w9 _ 0 _ _ _ PP.out.2
          have c1 := cell_of_row w9 _ 1 _ _ _ PP.out.1
          have f1' := frozen_of_row w9 _ 1 _ _ PP.out.1
          have k1 := cell_of_row w9 _ 1 _ _ _ PP.out.2
          have c2 := cell_of_row w9 _ 2 _ _ _ PP.out.1
          have f2' := frozen_of_row w9 _ 2 _ _ PP.out.1
          have k2 := cell_of_row w9 _ 2 _ _ _ PP.out.2
          have c3 := cell_of_row w9 _ 3 _ _ _ PP.out.1
          have f3' := frozen_of_row w9 _ 3 _ _ PP.out.1
          have k3 := cell_of_row w9 _ 3 _ _ _ PP.out.2
          have c4 := cell_of_row w9 _ 4 _ _ _ PP.out.1
          have f4' := frozen_of_row w9 _ 4 _ _ PP.out.1
          have k4 := cell_of_row w9 _ 4 _ _ _ PP.out.2
          have c5 := cell_of_row w9 _ 5 _ _ _ PP.out.1
          have f5' := frozen_of_row w9 _ 5 _ _ PP.out.1
          have k5 := cell_of_row w9 _ 5 _ _ _ PP.out.2
          go_wp2_with fail
          refine bodyPost_ret (results_ves rfl _ _ w.heap.size [.int .i64 0, .string ⟨#[]⟩, .int .i64 0, .int .i64 0, .int .i64 0, .int .i64 0] _ rfl (sets6_range PP.out.1 _ _ _ _ _ _) Tryz.underlying25 rfl (by kernel_rfl)) rfl ?_
          exact ⟨rfl, sets6_below BB.out (Nat.le_refl _) _ _ _ _ _ _⟩
    · have hwhy : ∀ u, goodV u → vt u ≠ t := fun u hu he => hlen2 (by
        have h1 := (vt_parts hu he).2
        rw [HWS.out] at h1
        simp only [List.cons.injEq] at h1
        rw [h1.2.2.2.1, sides_V]
        rfl)
      obtain ⟨L, hL⟩ : ∃ L, (parts wd 120).length = L := ⟨_, rfl⟩
      have hne : ((L : Int) != 2) = true := by simp; omega
      rw [hL] at HO2 ⊢
      clear hL hlen2
      obtain ⟨e, rfl⟩ := HP.out.no hwhy
      obtain ⟨rfl, rfl, rfl, rfl, rfl, rfl⟩ := Ves.mk.inj e
      have PP := Lib.hid (PQ.out w2 X2.out)
      have c0 := cell_of_row w2 _ 0 _ _ _ PP.out.1
      have f0 := frozen_of_row w2 _ 0 _ _ PP.out.1
      have k0 := cell_of_row w2 _ 0 _ _ _ PP.out.2
      have c1 := cell_of_row w2 _ 1 _ _ _ PP.out.1
      have f1 := frozen_of_row w2 _ 1 _ _ PP.out.1
      have k1 := cell_of_row w2 _ 1 _ _ _ PP.out.2
      have c2 := cell_of_row w2 _ 2 _ _ _ PP.out.1
      have f2 := frozen_of_row w2 _ 2 _ _ PP.out.1
      have k2 := cell_of_row w2 _ 2 _ _ _ PP.out.2
      have c3 := cell_of_row w2 _ 3 _ _ _ PP.out.1
      have f3 := frozen_of_row w2 _ 3 _ _ PP.out.1
      have k3 := cell_of_row w2 _ 3 _ _ _ PP.out.2
      have c4 := cell_of_row w2 _ 4 _ _ _ PP.out.1
      have f4 := frozen_of_row w2 _ 4 _ _ PP.out.1
      have k4 := cell_of_row w2 _ 4 _ _ _ PP.out.2
      have c5 := cell_of_row w2 _ 5 _ _ _ PP.out.1
      have f5 := frozen_of_row w2 _ 5 _ _ PP.out.1
      have k5 := cell_of_row w2 _ 5 _ _ _ PP.out.2
      go_wp2_with fail
      refine bodyPost_ret (results_ves rfl _ _ w.heap.size [.int .i64 0, .string ⟨#[]⟩, .int .i64 0, .int .i64 0, .int .i64 0, .int .i64 0] _ rfl (sets6_range PP.out.1 _ _ _ _ _ _) Tryz.underlying25 rfl (by kernel_rfl)) rfl ?_
      exact ⟨rfl, sets6_below B2.out (Nat.le_refl _) _ _ _ _ _ _⟩
  · have hwhy : ∀ u, goodV u → vt u ≠ t := fun u hu he => hlen (by rw [(vt_parts hu he).2]; rfl)
    obtain ⟨L, hL⟩ : ∃ L, (parts t 32).length = L := ⟨_, rfl⟩
    have hne : ((L : Int) != 6) = true := by simp; omega
    rw [hL] at HO ⊢
    clear hL hlen
    obtain ⟨e, rfl⟩ := HP.out.no hwhy
    obtain ⟨rfl, rfl, rfl, rfl, rfl, rfl⟩ := Ves.mk.inj e
    have c0 := cell_of_row w1 _ 0 _ _ _ HP0.out
    have f0 := frozen_of_row w1 _ 0 _ _ HP0.out
    have k0 := cell_of_row w1 _ 0 _ _ _ HP1.out
    have c1 := cell_of_row w1 _ 1 _ _ _ HP0.out
    have f1 := frozen_of_row w1 _ 1 _ _ HP0.out
    have k1 := cell_of_row w1 _ 1 _ _ _ HP1.out
    have c2 := cell_of_row w1 _ 2 _ _ _ HP0.out
    have f2 := frozen_of_row w1 _ 2 _ _ HP0.out
    have k2 := cell_of_row w1 _ 2 _ _ _ HP1.out
    have c3 := cell_of_row w1 _ 3 _ _ _ HP0.out
    have f3 := frozen_of_row w1 _ 3 _ _ HP0.out
    have k3 := cell_of_row w1 _ 3 _ _ _ HP1.out
    have c4 := cell_of_row w1 _ 4 _ _ _ HP0.out
    have f4 := frozen_of_row w1 _ 4 _ _ HP0.out
    have k4 := cell_of_row w1 _ 4 _ _ _ HP1.out
    have c5 := cell_of_row w1 _ 5 _ _ _ HP0.out
    have f5 := frozen_of_row w1 _ 5 _ _ HP0.out
    have k5 := cell_of_row w1 _ 5 _ _ _ HP1.out
    go_wp2_with fail
    refine bodyPost_ret (results_ves rfl _ _ w.heap.size [.int .i64 0, .string ⟨#[]⟩, .int .i64 0, .int .i64 0, .int .i64 0, .int .i64 0] _ rfl (sets6_range HP0.out _ _ _ _ _ _) Tryz.underlying25 rfl (by kernel_rfl)) rfl ?_
    exact ⟨rfl, sets6_below B1.out (Nat.le_refl _) _ _ _ _ _ _⟩
end Go.Proofs.YtliebicnejbheabGreatDoor
