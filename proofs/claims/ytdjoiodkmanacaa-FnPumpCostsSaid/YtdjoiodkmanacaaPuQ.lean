/- Chapter 12: a task without a pump: the program. -/
import Derived.Test.YtdjoiodkmanacaaPuP
import Derived.Test.YtdjoiodkmanacaaCatP
namespace Go.Proofs.Ytdjoiodkmanacaa
open Go.RowKit Go.PlainAid Go.Sort
set_option linter.unusedVariables false
set_option linter.unusedSimpArgs false

theorem cell_two9 (w : World) (a b : Value) (t : TypeId) : ∀ j u, [a, b][j]? = some u → (w.alloc (.cells #[a, b] t)).cell? ((⟨w.heap.size, 0, none⟩ : Addr).add j) = some u := by
  intro j u hu
  rw [addO, Nat.zero_add, sNew]
  match j, hu with
  | 0, hu => exact hu
  | 1, hu => exact hu
theorem has_two9 {w : World} {g : Nat} {u v : Value} (h : ∀ j x, [u, v][j]? = some x → w.cell? ((⟨g, 0, none⟩ : Addr).add j) = some x) : Has w w.heap.size (some ⟨g, 0, none⟩) [u, v] := by
  have h0 := World.block_lt_of_cell? _ _ (h 0 u rfl)
  rw [addO] at h0
  intro j x hx
  exact ⟨⟨g, 0, none⟩, rfl, h0, h j x hx⟩
theorem has_of_cells {w : World} {a : Addr} {xs : List Value} (ha : a.block < w.heap.size) (h : ∀ j u, xs[j]? = some u → w.cell? (a.add j) = some u) : Has w w.heap.size (some a) xs := fun j u hu => ⟨a, rfl, ha, h j u hu⟩
set_option maxRecDepth 100000 in
set_option maxHeartbeats 8000000 in
theorem woI_any {w : World} {B : Nat} {A D : Option Addr} {n m : Nat} {zs : List Int} {vs : List TPump} (a b c : Int) (q r : Nat) (h : IsTs w B A n zs D m vs) (hm : n ≤ 1048576) (hm2 : m ≤ 1048576) (hmr : m ≤ r) (i : Int) (s : Tsk) (x : Bool) (hA : WouA ⟨a, b, c, zs, vs⟩ i s x) :
    Calls Try.prog 29 #[.agg #[.int .i64 a, .int .i64 b, .int .i64 c, .slice A n q, .slice D m r], .int .i64 i] w (GivesW w s x) := by
  obtain ⟨W5, hW5, X5, B5, z5⟩ := box_in w a b c A n q D m r
  obtain ⟨W6, hW6⟩ : ∃ W, W5.alloc (.cells #[.int .i64 0, .int .i64 0, .int .i64 0, .slice none 0 0, .slice none 0 0] 27) = W := ⟨_, rfl⟩
  have b6 : Below W5.heap.size W5 W6 := by rw [← hW6]; exact below1 _ _
  have x6 := X5.all b6
  have z6 : BoxT W6 (w.heap.size + 1) 0 0 0 none 0 0 none 0 0 := by rw [← hW6, ← z5]; exact BoxT.new ..
  have bw6 := B5.trans (b6.mono B5.size)
  have cT0 := x6.c0
  have cT1 := x6.c1
  have cT2 := x6.c2
  have cT3 := x6.c3
  have cT4 := x6.c4
  have C1 := Lib.hid (goodI_any a b c q r (h.upB bw6) hm hm2)
  have HT := Lib.hid (h.upB bw6)
  have HT1L := Lib.hid h.low
  have HTB := Lib.hid (fun W (hb : Below w.heap.size w W) => h.upB hb)
  have HX6 := Lib.hid x6
  have HZ6 := Lib.hid z6
  have HB6 := Lib.hid bw6
  have HNO := Lib.hid hA.2
  have HYES := Lib.hid hA.1
  have CR := Lib.hid (fun W => inRange_any i 0 ((m : Int) - 1) W)
  rw [canW_iff h.pumps.len] at HNO HYES
  have HG := Lib.hid (gT_iff ⟨a, b, c, zs, vs⟩)
  generalize gT ⟨a, b, c, zs, vs⟩ = T at HG C1
  clear h X5 B5 hA b6 x6 z6 bw6
  go_enter Try.func29, Try.ntmps29
  go_wp2_with fail
  (try rw [hW5])
  (try rw [hW6])
  (try simp only [z5])
  clear hW5 hW6 z5 cT0 cT1 cT2 cT3 cT4
  refine C1.out.mono ?_
  rintro e w1 ⟨rfl, hb⟩
  have HX1 := Lib.hid (HX6.out.all hb)
  have HZ1 := Lib.hid (HZ6.out.all hb)
  have HB1 := Lib.hid (HB6.out.trans (hb.mono HB6.out.size))
  have HT1 := Lib.hid (HT.out.upB hb)
  clear hb C1 HX6 HZ6 HB6 HT
  cases T with
  | false =>
    obtain ⟨rfl, rfl⟩ := HNO.out (fun g => by have := HG.out.2 g.1; cases this)
    clear HNO HYES HG CR
    · skip
      have y0 := HZ1.out.c0
      have y1 := HZ1.out.c1
      have y2 := HZ1.out.c2
      have y3 := HZ1.out.c3
      have y4 := HZ1.out.c4
      have f0 := HZ1.out.fz 0
      have f1 := HZ1.out.fz 1
      have f2 := HZ1.out.fz 2
      have f3 := HZ1.out.fz 3
      have f4 := HZ1.out.fz 4
      go_wp2_with fail
      refine bodyPost_ret (results_rowT rfl _ _ (w.heap.size + 1) _ _ rfl (HZ1.out.sets 0 0 0 none 0 0 none 0 0).rangeAt Try.underlying27 rfl (by kernel_rfl)) rfl ?_
      exact givesW_no (sets5_below HB1.out (by omega) _ _ _ _ _)
  | true =>
  have HGD := Lib.hid (HG.out.1 rfl)
  have hX1 := HX1.out
  have cT4 := hX1.c4
  obtain ⟨bb, hbb⟩ : ∃ y, decide (0 ≤ i ∧ i ≤ (m : Int) - 1) = y := ⟨_, rfl⟩
  rw [hbb] at CR
  have HBB := Lib.hid hbb
  clear hX1 HG hbb
  go_wp2_with fail
  refine (CR.out _).mono ?_
  rintro e w2 ⟨rfl, rfl⟩
  clear CR
  cases bb with
  | false =>
    obtain ⟨rfl, rfl⟩ := HNO.out (fun g => of_decide_eq_false HBB.out g.2)
    clear HNO HYES HBB cT4 HGD
    · skip
      have y0 := HZ1.out.c0
      have y1 := HZ1.out.c1
      have y2 := HZ1.out.c2
      have y3 := HZ1.out.c3
      have y4 := HZ1.out.c4
      have f0 := HZ1.out.fz 0
      have f1 := HZ1.out.fz 1
      have f2 := HZ1.out.fz 2
      have f3 := HZ1.out.fz 3
      have f4 := HZ1.out.fz 4
      go_wp2_with fail
      refine bodyPost_ret (results_rowT rfl _ _ (w.heap.size + 1) _ _ rfl (HZ1.out.sets 0 0 0 none 0 0 none 0 0).rangeAt Try.underlying27 rfl (by kernel_rfl)) rfl ?_
      exact givesW_no (sets5_below HB1.out (by omega) _ _ _ _ _)
  | true =>
  have hiR := of_decide_eq_true HBB.out
  obtain ⟨hs, rfl⟩ := HYES.out ⟨HGD.out, hiR⟩
  subst hs
  obtain ⟨k, rfl⟩ : ∃ k : Nat, i = (k : Int) := ⟨i.toNat, by omega⟩
  have hkm : k < m := by omega
  have hm3 : m ≤ 2 := by rw [← HT1.out.pumps.len]; exact HGD.out.2.2.1
  have hn5 : n ≤ 5 := by rw [← HT1.out.ints.len]; exact HGD.out.2.1.2
  have hn1 : 1 ≤ n := by rw [← HT1.out.ints.len]; exact HGD.out.2.1.1
  obtain ⟨ap, rfl, hapB, -⟩ := HT1.out.pumps.has.Pump (k := k) (by rw [HT1.out.pumps.len]; exact hkm)
  obtain ⟨az, rfl, -, -⟩ := HT1.out.ints.has.numAt (k := 0) (by rw [HT1.out.ints.len]; omega)
  have cT3 := HX1.out.c3
  have CO := Lib.hid (cloneZ_any q (by omega) HT1.out.ints)
  clear HNO HYES HBB cT4
  go_wp2_with fail
  refine CO.out.mono ?_
  rintro e w2 ⟨v, rfl, hv⟩
  obtain ⟨g1, c1, rfl, hg1, hO1, hb⟩ := hv
  have hX2 := HX1.out.all hb
  have hZ2 := HZ1.out.all hb
  have HB2 := Lib.hid (HB1.out.trans (hb.mono HB1.out.size))
  have HT2x := Lib.hid (HT1.out.upB hb)
  have y3 := hX2.c3
  have f3 := hX2.fz 3
  obtain ⟨wr, hwr⟩ : ∃ W, w2.setCell ⟨w.heap.size, 3, none⟩ (.slice (some ⟨g1, 0, none⟩) n c1) = W := ⟨_, rfl⟩
  have hlt1 := HX1.out.lt
  have hX3 := hX2.set3 (some ⟨g1, 0, none⟩) n c1
  have hZ3 := hZ2.off (g' := w.heap.size) (by omega) 3 (.slice (some ⟨g1, 0, none⟩) n c1)
  have hO3 := own_set (own_low hO1 HB1.out.size) w.heap.size 3 (.slice (some ⟨g1, 0, none⟩) n c1) (by simp [Value.ownBlock]; omega)
  have hB3 := HB2.out.setCell (p := ⟨w.heap.size, 3, none⟩) (Nat.le_refl _) (.slice (some ⟨g1, 0, none⟩) n c1)
  rw [hwr] at hX3 hZ3 hO3 hB3
  have HBX := Lib.hid hX3
  have HBZ := Lib.hid hZ3
  have HOF := Lib.hid hO3
  have HBR := Lib.hid hB3
  have hlq : w.heap.size ≤ wr.heap.size := hB3.size
  have HTR := Lib.hid (fun W (hq : Below w.heap.size wr W) => (show IsTs W B (some az) n zs (some ap) m vs from by
    have h0 : Below w.heap.size w W := hB3.trans hq
    exact HTB.out W h0))
  clear hX2 hZ2 hX3 hZ3 hO3 hB3 hO1 hb CO cT3 HX1 HZ1 HB1 HB2 HT1 HT2x hg1 hlt1
  have HP1 : Hid ((flatPump (vs.take k)).length = k * 3) := Lib.hid (by rw [flatPump_len, List.length_take, (HTR.out wr (Below.refl _ _)).pumps.len]; omega)
  have HP2 : Hid ((flatPump (vs.drop (k + 1))).length = (m - (k + 1)) * 3) := Lib.hid (by rw [flatPump_len, List.length_drop, (HTR.out wr (Below.refl _ _)).pumps.len]; omega)
  have HN1 := Lib.hid (fun W (hq : Below w.heap.size wr W) => hasU_take (k := k) (HTR.out W hq).pumps)
  obtain ⟨aq, haq⟩ : ∃ aq, (if r = k + 1 then some ap else some (ap.add ((k + 1) * 3)) : Option Addr) = some aq := by split <;> exact ⟨_, rfl⟩
  have HAQ := Lib.hid haq
  have hqb : aq.block = ap.block := by
    split at haq
    · injection haq with haq; rw [haq]
    · injection haq with haq; rw [← haq, addBlock]
  have HN2 := Lib.hid (fun W (hq : Below w.heap.size wr W) => hasU_drop (k := k + 1) (HTR.out W hq).pumps (by omega) hmr HAQ.out)
  obtain ⟨f, hki⟩ : ∃ f, k + (m - (k + 1)) = f := ⟨_, rfl⟩
  have HKI := Lib.hid hki
  have CC : Hid (∀ (W : World) (gn : Nat), Below w.heap.size wr W → (∀ j u, [Value.slice (some ap) k r, Value.slice (some aq) (m - (k + 1)) (r - (k + 1))][j]? = some u → W.cell? ((⟨gn, 0, none⟩ : Addr).add j) = some u) →
      Calls Try.prog 64 #[.slice (some ⟨gn, 0, none⟩) 2 2] W fun e w' => ∃ E c9, e = .returned (.slice E f c9) ∧ w'.ownsRow W.heap.size 69 3 (.slice E f c9) f (flatPump (vs.take k) ++ flatPump (vs.drop (k + 1))) ∧ Below W.heap.size W w') := Lib.hid (fun W gn hq hnew => by
    have hapW : ap.block < W.heap.size := Nat.lt_of_lt_of_le hapB ((HTR.out W hq).low)
    refine (catP [⟨ap, k, r, flatPump (vs.take k)⟩, ⟨aq, m - (k + 1), r - (k + 1), flatPump (vs.drop (k + 1))⟩] ⟨gn, 0, none⟩ 2 2 W.heap.size W rfl (by omega) (Nat.le_refl _) (has_two9 hnew) ?_ ?_).mono ?_
    · intro s hs
      simp only [List.mem_cons, List.not_mem_nil, or_false] at hs
      rcases hs with rfl | rfl
      · exact ⟨HP1.out, by dsimp only; omega, flatPump_one _, has_of_cells hapW (HN1.out W hq)⟩
      · exact ⟨HP2.out, by dsimp only; omega, flatPump_one _, has_of_cells (by dsimp only; rw [hqb]; exact hapW) (HN2.out W hq)⟩
    · simp only [total]; omega
    · rintro e w' ⟨v, rfl, ho, hb⟩
      have e1 : total [(⟨ap, k, r, flatPump (vs.take k)⟩ : Part'), ⟨aq, m - (k + 1), r - (k + 1), flatPump (vs.drop (k + 1))⟩] = f := by simp only [total]; have := HKI.out; omega
      have e2 : allOf [(⟨ap, k, r, flatPump (vs.take k)⟩ : Part'), ⟨aq, m - (k + 1), r - (k + 1), flatPump (vs.drop (k + 1))⟩] = flatPump (vs.take k) ++ flatPump (vs.drop (k + 1)) := by simp [allOf]
      rw [e1, e2] at ho
      obtain ⟨E, c9, rfl⟩ := own_form2 ho
      exact ⟨E, c9, rfl, ho, hb⟩)
  have hkr : k ≤ r := by omega
  have hk0 : (0 : Int) ≤ (k : Int) := by omega
  have hk1 : (k : Int) < (m : Int) := by omega
  clear haq hqb HN1 HN2 HP1 HP2 hapB
  go_wp2_with fail
  (try rw [hwr])
  clear hwr y3 f3
  refine region_inv (by kernel_rfl) (by kernel_rfl) (fun Fl9 ac W => ∃ (x23 x24 x25 x26 x27 x28 x29 x30 x31 x32 x33 x34 : Value), ac = { tmps := #[Value.agg #[Value.int IntKind.i64 a, Value.int IntKind.i64 b, Value.int IntKind.i64 c, Value.slice (some az) n q, Value.slice (some ap) m r], Value.int IntKind.i64 (k : Int), Value.pointer (some ⟨w.heap.size, 0, none⟩), undef, Value.pointer (some ⟨w.heap.size + 1, 0, none⟩), Value.bool false, Value.agg #[Value.int IntKind.i64 a, Value.int IntKind.i64 b, Value.int IntKind.i64 c, Value.slice (some az) n q, Value.slice (some ap) m r], Value.bool true, Value.bool false, Value.bool false, Value.int IntKind.i64 (k : Int), Value.pointer (some ⟨w.heap.size, 4, none⟩), Value.slice (some ap) m r, Value.int IntKind.i64 (m : Int), Value.int IntKind.i64 ((m : Int) - 1), Value.bool true, Value.bool false, Value.bool false, undef, Value.pointer (some ⟨w.heap.size, 3, none⟩), Value.slice (some az) n q, Value.slice (some ⟨g1, 0, none⟩) n c1, Value.pointer (some ⟨w.heap.size, 3, none⟩), x23, x24, x25, x26, x27, x28, x29, x30, x31, x32, x33, x34, undef], defers := [] } ∧ Below w.heap.size wr W ∧
        (Fl9 0 = true → x23 = .pointer (some ⟨w.heap.size, 4, none⟩)) ∧
        (Fl9 1 = true → x24 = .slice (some ap) m r) ∧
        (Fl9 2 = true → x25 = .int .i64 (k : Int)) ∧
        (Fl9 3 = true → x26 = .slice (some ap) k r) ∧
        (Fl9 4 = true → x27 = .pointer (some ⟨w.heap.size, 4, none⟩)) ∧
        (Fl9 5 = true → x28 = .slice (some ap) m r) ∧
        (Fl9 6 = true → x29 = .int .i64 (k : Int)) ∧
        (Fl9 7 = true → x30 = .int .i64 ((k + 1 : Nat) : Int)) ∧
        (Fl9 8 = true → x31 = .slice (some aq) (m - (k + 1)) (r - (k + 1))) ∧
        (Fl9 9 = true → Fl9 10 = false → ∃ g, x32 = .slice (some ⟨g, 0, none⟩) 2 2 ∧ ∀ j u, [Value.slice (some ap) k r, Value.slice (some aq) (m - (k + 1)) (r - (k + 1))][j]? = some u → W.cell? ((⟨g, 0, none⟩ : Addr).add j) = some u) ∧
        (Fl9 10 = true → ∃ E c9, x33 = .slice E f c9 ∧ W.ownsRow wr.heap.size 69 3 (.slice E f c9) f (flatPump (vs.take k) ++ flatPump (vs.drop (k + 1)))) ∧
        (Fl9 11 = true → x34 = .pointer (some ⟨w.heap.size, 4, none⟩)) ∧
        (Fl9 12 = true → ∃ E c9, BoxT W w.heap.size a b c (some ⟨g1, 0, none⟩) n c1 E f c9 ∧ W.ownsRow wr.heap.size 69 3 (.slice E f c9) f (flatPump (vs.take k) ++ flatPump (vs.drop (k + 1)))) ∧
        (Fl9 12 = false → BoxT W w.heap.size a b c (some ⟨g1, 0, none⟩) n c1 (some ap) m r) ∧
        (True → W.ownsRow w.heap.size 3 1 (.slice (some ⟨g1, 0, none⟩) n c1) n (zs.map (.int .i64))) ∧
        (True → BoxT W (w.heap.size + 1) 0 0 0 none 0 0 none 0 0) ∧
        (Fl9 12 = true → Fl9 1 = true ∧ Fl9 5 = true) ∧
        (Fl9 12 = true → Fl9 10 = true)) ?_ ?_ ?_
  · exact ⟨_, _, _, _, _, _, _, _, _, _, _, _, rfl, ((Drawn.one wr 1).below _), (fun q0 => nomatch q0), (fun q0 => nomatch q0), (fun q0 => nomatch q0), (fun q0 => nomatch q0), (fun q0 => nomatch q0), (fun q0 => nomatch q0), (fun q0 => nomatch q0), (fun q0 => nomatch q0), (fun q0 => nomatch q0), (fun q0 => nomatch q0), (fun q0 => nomatch q0), (fun q0 => nomatch q0), (fun q0 => nomatch q0), (fun _ => HBX.out.all ((Drawn.one wr 1).below _)), (fun _ => own_below HOF.out ((Drawn.one wr 1).below _)), (fun _ => HBZ.out.all ((Drawn.one wr 1).below _)), (fun q0 => nomatch q0), (fun q0 => nomatch q0)⟩
  · intro Fl9 ac W i9 o9 hJ ho hL hdep K9 hK
    obtain ⟨x23, x24, x25, x26, x27, x28, x29, x30, x31, x32, x33, x34, rfl, hB, hh0, hh1, hh2, hh3, hh4, hh5, hh6, hh7, hh8, hh9, hh10, hh11, hh12, hx0, hx1, hx2, hx3, hx4⟩ := hJ
    have hi9 : i9 < 13 := by simpa using (Array.getElem?_eq_some_iff.1 ho).1
    obtain rfl | rfl | rfl | rfl | rfl | rfl | rfl | rfl | rfl | rfl | rfl | rfl | rfl : i9 = 0 ∨ i9 = 1 ∨ i9 = 2 ∨ i9 = 3 ∨ i9 = 4 ∨ i9 = 5 ∨ i9 = 6 ∨ i9 = 7 ∨ i9 = 8 ∨ i9 = 9 ∨ i9 = 10 ∨ i9 = 11 ∨ i9 = 12 := by omega
    · -- operation 0
      cases ho
      go_simp
      exact hK _ _ ⟨_, _, _, _, _, _, _, _, _, _, _, _, rfl, hB, fun _ => rfl, hh1, hh2, hh3, hh4, hh5, hh6, hh7, hh8, hh9, hh10, hh11, hh12, hx0, hx1, hx2, hx3, hx4⟩
    · -- operation 1
      cases ho
      obtain rfl := hh0 (hdep ⟨0, .data⟩ (by simp) rfl)
      have hx9 : Fl9 12 = false := by
        cases hc9 : Fl9 12 with
        | false => rfl
        | true => exact absurd (hx3 hc9).1 (by rw [hL]; simp)
      have C4 := (hx0 hx9).c4
      go_simp
      exact hK _ _ ⟨_, _, _, _, _, _, _, _, _, _, _, _, rfl, hB, hh0, fun _ => rfl, hh2, hh3, hh4, hh5, hh6, hh7, hh8, hh9, hh10, hh11, hh12, hx0, hx1, hx2, fun q0 => ⟨rfl, (hx3 q0).2⟩, hx4⟩
    · -- operation 2
      cases ho
      go_simp
      exact hK _ _ ⟨_, _, _, _, _, _, _, _, _, _, _, _, rfl, hB, hh0, hh1, fun _ => rfl, hh3, hh4, hh5, hh6, hh7, hh8, hh9, hh10, hh11, hh12, hx0, hx1, hx2, hx3, hx4⟩
    · -- operation 3
      cases ho
      obtain rfl := hh1 (hdep ⟨1, .data⟩ (by simp) rfl)
      obtain rfl := hh2 (hdep ⟨2, .data⟩ (by simp) rfl)
      go_simp
      exact hK _ _ ⟨_, _, _, _, _, _, _, _, _, _, _, _, rfl, hB, hh0, hh1, hh2, fun _ => rfl, hh4, hh5, hh6, hh7, hh8, hh9, hh10, hh11, hh12, hx0, hx1, hx2, hx3, hx4⟩
    · -- operation 4
      cases ho
      go_simp
      exact hK _ _ ⟨_, _, _, _, _, _, _, _, _, _, _, _, rfl, hB, hh0, hh1, hh2, hh3, fun _ => rfl, hh5, hh6, hh7, hh8, hh9, hh10, hh11, hh12, hx0, hx1, hx2, hx3, hx4⟩
    · -- operation 5
      cases ho
      obtain rfl := hh4 (hdep ⟨4, .data⟩ (by simp) rfl)
      have hx9 : Fl9 12 = false := by
        cases hc9 : Fl9 12 with
        | false => rfl
        | true => exact absurd (hx3 hc9).2 (by rw [hL]; simp)
      have C4 := (hx0 hx9).c4
      go_simp
      exact hK _ _ ⟨_, _, _, _, _, _, _, _, _, _, _, _, rfl, hB, hh0, hh1, hh2, hh3, hh4, fun _ => rfl, hh6, hh7, hh8, hh9, hh10, hh11, hh12, hx0, hx1, hx2, fun q0 => ⟨(hx3 q0).1, rfl⟩, hx4⟩
    · -- operation 6
      cases ho
      go_simp
      exact hK _ _ ⟨_, _, _, _, _, _, _, _, _, _, _, _, rfl, hB, hh0, hh1, hh2, hh3, hh4, hh5, fun _ => rfl, hh7, hh8, hh9, hh10, hh11, hh12, hx0, hx1, hx2, hx3, hx4⟩
    · -- operation 7
      cases ho
      obtain rfl := hh6 (hdep ⟨6, .data⟩ (by simp) rfl)
      go_simp
      rw [show IntKind.i64.wrap ((k : Int) + 1) = ((k + 1 : Nat) : Int) from (by rw [IntKind.wrap_i64]; omega)]
      exact hK _ _ ⟨_, _, _, _, _, _, _, _, _, _, _, _, rfl, hB, hh0, hh1, hh2, hh3, hh4, hh5, hh6, fun _ => rfl, hh8, hh9, hh10, hh11, hh12, hx0, hx1, hx2, hx3, hx4⟩
    · -- operation 8
      cases ho
      obtain rfl := hh5 (hdep ⟨5, .data⟩ (by simp) rfl)
      obtain rfl := hh7 (hdep ⟨7, .data⟩ (by simp) rfl)
      have hk9 : (k : Int) + 1 ≤ (m : Int) := by omega
      have hk8 : (0 : Int) ≤ (k : Int) + 1 := by omega
      go_simp
      exact hK _ _ ⟨_, _, _, _, _, _, _, _, _, _, _, _, rfl, hB, hh0, hh1, hh2, hh3, hh4, hh5, hh6, hh7, fun _ => (by rw [HAQ.out]), hh9, hh10, hh11, hh12, hx0, hx1, hx2, hx3, hx4⟩
    · -- operation 9
      cases ho
      obtain rfl := hh3 (hdep ⟨3, .data⟩ (by simp) rfl)
      obtain rfl := hh8 (hdep ⟨8, .data⟩ (by simp) rfl)
      go_simp
      exact hK _ _ ⟨_, _, _, _, _, _, _, _, _, _, _, _, rfl, hB.trans ((Below.alloc (Below.refl W.heap.size W) (Nat.le_refl _) _).mono (Nat.le_trans hlq hB.size)), hh0, hh1, hh2, hh3, hh4, hh5, hh6, hh7, hh8, fun _ _ => ⟨_, rfl, cell_two9 W _ _ _⟩, fun q0 => (fun ⟨E, c9, e, o⟩ => ⟨E, c9, e, own_below o (Below.alloc (Below.refl W.heap.size W) (Nat.le_refl _) _)⟩) (hh10 q0), hh11, fun q0 => (fun ⟨E, c9, h, o⟩ => ⟨E, c9, h.all (Below.alloc (Below.refl W.heap.size W) (Nat.le_refl _) _), own_below o (Below.alloc (Below.refl W.heap.size W) (Nat.le_refl _) _)⟩) (hh12 q0), fun q0 => (fun h => h.all (Below.alloc (Below.refl W.heap.size W) (Nat.le_refl _) _)) (hx0 q0), fun q0 => (fun h => own_below h (Below.alloc (Below.refl W.heap.size W) (Nat.le_refl _) _)) (hx1 q0), fun q0 => (fun h => h.all (Below.alloc (Below.refl W.heap.size W) (Nat.le_refl _) _)) (hx2 q0), hx3, hx4⟩
    · -- operation 10
      cases ho
      have hd9 := hdep ⟨9, .data⟩ (by simp) rfl
      obtain ⟨gn, rfl, hnew⟩ := hh9 hd9 hL
      go_simp
      refine (CC.out W gn hB hnew).mono ?_
      rintro e w9 ⟨E9, c9, rfl, ho9, hb9⟩
      exact hK _ _ ⟨_, _, _, _, _, _, _, _, _, _, _, _, rfl, hB.trans (hb9.mono (Nat.le_trans hlq hB.size)), hh0, hh1, hh2, hh3, hh4, hh5, hh6, hh7, hh8, (fun _ q0 => nomatch q0), fun _ => ⟨_, _, rfl, own_low ho9 hB.size⟩, hh11, (fun q0 => absurd (hx4 q0) (by rw [hL]; simp)), fun q0 => (fun h => h.all hb9) (hx0 q0), fun q0 => (fun h => own_below h hb9) (hx1 q0), fun q0 => (fun h => h.all hb9) (hx2 q0), hx3, fun _ => rfl⟩
    · -- operation 11
      cases ho
      go_simp
      exact hK _ _ ⟨_, _, _, _, _, _, _, _, _, _, _, _, rfl, hB, hh0, hh1, hh2, hh3, hh4, hh5, hh6, hh7, hh8, hh9, hh10, fun _ => rfl, hh12, hx0, hx1, hx2, hx3, hx4⟩
    · -- operation 12
      cases ho
      obtain rfl := hh11 (hdep ⟨11, .data⟩ (by simp) rfl)
      have hd10 := hdep ⟨10, .data⟩ (by simp) rfl
      obtain ⟨E9, c9, rfl, ho9⟩ := hh10 hd10
      have hz9 := hx0 hL
      have z4 := hz9.c4
      have y4 := hz9.fz 4
      have hne9 := own_off ho9 hz9 (by decide)
      have hne1 := own_off (hx1 trivial) hz9 (by decide)
      go_simp
      exact hK _ _ ⟨_, _, _, _, _, _, _, _, _, _, _, _, rfl, hB.setCell (p := ⟨w.heap.size, 4, none⟩) (Nat.le_refl _) _, hh0, hh1, hh2, hh3, hh4, hh5, hh6, hh7, hh8, (fun _ q0 => absurd ((show Fl9 10 = false from q0).symm.trans hd10) (by simp)), (fun _ => ⟨E9, c9, rfl, own_set ho9 _ _ _ hne9⟩), hh11, fun _ => ⟨E9, c9, hz9.set4 E9 f c9, own_set ho9 _ _ _ hne9⟩, (fun q0 => nomatch q0), (fun _ => own_set (hx1 trivial) _ _ _ hne1), (fun _ => (hx2 trivial).off (by omega) 4 (.slice E9 f c9)), fun _ => ⟨hdep ⟨1, .phase⟩ (by simp) rfl, hdep ⟨5, .phase⟩ (by simp) rfl⟩, fun _ => hd10⟩
  intro Fl9 ac W hJ hall
  obtain ⟨x23, x24, x25, x26, x27, x28, x29, x30, x31, x32, x33, x34, rfl, hB, hh0, hh1, hh2, hh3, hh4, hh5, hh6, hh7, hh8, hh9, hh10, hh11, hh12, -, hxf, hxz, -, -⟩ := hJ
  obtain rfl := hh0 (hall 0 (by decide))
  obtain rfl := hh1 (hall 1 (by decide))
  obtain rfl := hh2 (hall 2 (by decide))
  obtain rfl := hh3 (hall 3 (by decide))
  obtain rfl := hh4 (hall 4 (by decide))
  obtain rfl := hh5 (hall 5 (by decide))
  obtain rfl := hh6 (hall 6 (by decide))
  obtain rfl := hh7 (hall 7 (by decide))
  obtain rfl := hh8 (hall 8 (by decide))
  obtain rfl := hh11 (hall 11 (by decide))
  clear hh9
  clear hh10
  obtain ⟨Ef, cf, hbx, hop⟩ := hh12 (hall 12 (by decide))
  clear hall
  have a0 := hbx.c0
  have a1 := hbx.c1
  have a2 := hbx.c2
  have a3 := hbx.c3
  have a4 := hbx.c4
  have hz := hxz trivial
  have b0 := hz.c0
  have b1 := hz.c1
  have b2 := hz.c2
  have b3 := hz.c3
  have b4 := hz.c4
  have f0 := hz.fz 0
  have f1 := hz.fz 1
  have f2 := hz.fz 2
  have f3 := hz.fz 3
  have f4 := hz.fz 4
  have HOP := Lib.hid (own_low hop hlq)
  have HOF2 := Lib.hid (hxf trivial)
  have HZ := Lib.hid hz
  have HBF := Lib.hid (HBR.out.trans hB)
  have hn1 := own_off HOP.out hz (by decide)
  have hn2 := own_off HOF2.out hz (by decide)
  clear hbx hop hz hB hxf hxz
  go_wp2_with fail
  refine bodyPost_ret (results_rowT rfl _ _ (w.heap.size + 1) _ _ rfl (HZ.out.sets a b c (some ⟨g1, 0, none⟩) n c1 Ef f cf).rangeAt Try.underlying27 rfl (by kernel_rfl)) rfl ?_
  refine ⟨some ⟨g1, 0, none⟩, n, c1, Ef, f, cf, rfl, ?_, ?_, ?_⟩
  · exact own_sets5 HOF2.out _ _ _ _ _ _ hn2
  · show World.ownsRow _ _ _ _ _ _ (flatPump (vs.take k ++ vs.drop (k + 1)))
    rw [flatPump_append]
    exact own_sets5 HOP.out _ _ _ _ _ _ hn1
  · exact sets5_below HBF.out (by omega) _ _ _ _ _
end Go.Proofs.Ytdjoiodkmanacaa
