/- Chapter 12: a task without a pump: the model. -/
import Derived.Test.YtdjoiodkmanacaaPuC
import Derived.Test.YtdjoiodkmanacaaPuT
namespace Go.Proofs.Ytdjoiodkmanacaa
open Go.RowKit Go.PlainAid Go.Sort
set_option linter.unusedVariables false
set_option linter.unusedSimpArgs false

theorem results_rowT {P : Program} {fn : Func} {p t : Tmp} {ty : TypeId} (h : fn.results = #[.cell p ty, .tmp t]) (tmps : Array Value) (w : World) (g : Nat) (cs : List Value) (d : TypeDesc)
    (hp : tmps.getD p undef = .pointer (some ⟨g, 0, none⟩)) (hc : w.rangeAt g 0 cs) (hu : P.underlying ty = some d) (hd : d.isRow = true) (hi : (P.info? ty).map (·.size) = some cs.length) :
    (results fn tmps).run P w = .ok (.tuple #[.agg cs.toArray, tmps.getD t undef]) w := by
  have hp' : tmps[p]?.getD undef = .pointer (some ⟨g, 0, none⟩) := by simpa using hp
  simp [results, h, hp', asAddr, run_loadVar_mid w g 0 ty cs d hc hu hd hi]
theorem flatPump_one : ∀ (vs : List TPump), ∀ u ∈ flatPump vs, u.oneCell' = true
  | [], u, h => by simp [flatPump] at h
  | v :: t, u, h => by
    simp only [flatPump, List.mem_cons] at h
    rcases h with rfl | rfl | rfl | h
    · rfl
    · rfl
    · rfl
    · exact flatPump_one t u h
theorem hasU_at {w : World} {B n : Nat} {a : Addr} {vs : List TPump} (h : IsPumps w B (some a) n vs) : ∀ j u, (flatPump vs)[j]? = some u → w.cell? (a.add j) = some u := by
  intro j u hu
  obtain ⟨a', e, hb, hc⟩ := h.has j u hu
  injection e with e
  subst e
  exact hc
theorem flatPump_take (vs : List TPump) (k : Nat) : flatPump (vs.take k) = (flatPump vs).take (k * 3) := by
  have e : flatPump vs = flatPump (vs.take k) ++ flatPump (vs.drop k) := by rw [← flatPump_append, List.take_append_drop]
  by_cases hk : k ≤ vs.length
  · have hl : (flatPump (vs.take k)).length = k * 3 := by rw [flatPump_len, List.length_take]; omega
    rw [e, List.take_append_of_le_length (by omega), List.take_of_length_le (l := flatPump (vs.take k)) (by omega)]
  · rw [List.take_of_length_le (l := vs) (by omega), List.take_of_length_le (l := flatPump vs) (by rw [flatPump_len]; omega)]
theorem hasU_take {w : World} {B n k : Nat} {a : Addr} {vs : List TPump} (h : IsPumps w B (some a) n vs) : ∀ j u, (flatPump (vs.take k))[j]? = some u → w.cell? (a.add j) = some u := by
  intro j u hu
  rw [flatPump_take, List.getElem?_take] at hu
  split at hu
  · exact hasU_at h j u hu
  · cases hu
theorem hasU_drop {w : World} {B n k c : Nat} {a aq : Addr} {vs : List TPump} (h : IsPumps w B (some a) n vs) (hk : k ≤ n) (hc : n ≤ c) (hq : (if c = k then some a else some (a.add (k * 3))) = some aq) : ∀ j u, (flatPump (vs.drop k))[j]? = some u → w.cell? (aq.add j) = some u := by
  intro j u hu
  have hjl := (List.getElem?_eq_some_iff.1 hu).1
  rw [flatPump_len, List.length_drop, h.len] at hjl
  rw [if_neg (by omega)] at hq
  injection hq with hq
  subst hq
  have e : flatPump vs = flatPump (vs.take k) ++ flatPump (vs.drop k) := by rw [← flatPump_append, List.take_append_drop]
  have hl : (flatPump (vs.take k)).length = k * 3 := by rw [flatPump_len, List.length_take, h.len]; omega
  rw [Go.Deep.add_add]
  refine hasU_at h (k * 3 + j) u ?_
  rw [e, List.getElem?_append_right (by omega), hl, Nat.add_sub_cancel_left]
  exact hu
/-- What a task without a pump is handed back as. -/
def GivesW (w : World) (s : Tsk) (x : Bool) (e : Ending) (w' : World) : Prop :=
  ∃ (F : Option Addr) (k c : Nat) (E : Option Addr) (k2 c2 : Nat), e = .returned (.tuple #[.agg #[.int .i64 s.lo, .int .i64 s.hi, .int .i64 s.lv, .slice F k c, .slice E k2 c2], .bool x]) ∧
    w'.ownsRow w.heap.size 3 1 (.slice F k c) k (s.fs.map (.int .i64)) ∧ w'.ownsRow w.heap.size 69 3 (.slice E k2 c2) k2 (flatPump s.ps) ∧ Below w.heap.size w w'
theorem givesW_no {w w' : World} (hb : Below w.heap.size w w') : GivesW w noT false (.returned (.tuple #[.agg #[.int .i64 0, .int .i64 0, .int .i64 0, .slice none 0 0, .slice none 0 0], .bool false])) w' :=
  ⟨none, 0, 0, none, 0, 0, rfl, ⟨rfl, .inl ⟨rfl, rfl⟩⟩, ⟨rfl, .inl ⟨rfl, rfl⟩⟩, hb⟩
theorem canW_iff {a b c : Int} {m : Nat} {zs : List Int} {vs : List TPump} (h : vs.length = m) (i : Int) : canW ⟨a, b, c, zs, vs⟩ i ↔ goodT ⟨a, b, c, zs, vs⟩ ∧ 0 ≤ i ∧ i ≤ (m : Int) - 1 := by unfold canW; dsimp only; rw [h]
set_option maxRecDepth 100000 in
set_option maxHeartbeats 8000000 in
theorem woS_any {w : World} {B : Nat} {A D : Option Addr} {n m : Nat} {zs : List Int} {vs : List TPump} (a b c : Int) (q r : Nat) (h : IsTs w B A n zs D m vs) (hm : n ≤ 1048576) (hm2 : m ≤ 1048576) (hmr : m ≤ r) (i : Int) (s : Tsk) (x : Bool) (hA : WouA ⟨a, b, c, zs, vs⟩ i s x) :
    Calls Try.prog 30 #[.agg #[.int .i64 a, .int .i64 b, .int .i64 c, .slice A n q, .slice D m r], .int .i64 i] w (GivesW w s x) := by
  obtain ⟨i0, hi, hz0, hz1, hz2⟩ := info_parts Try.infoPump'
  obtain ⟨W5, hW5, X5, B5, z5⟩ := box_in w a b c A n q D m r
  obtain ⟨W6, hW6⟩ : ∃ W, W5.alloc (.cells #[.int .i64 0, .int .i64 0, .int .i64 0, .slice none 0 0, .slice none 0 0] 27) = W := ⟨_, rfl⟩
  have b6 : Below W5.heap.size W5 W6 := by rw [← hW6]; exact below1 _ _
  have x6 := X5.all b6
  have z6 : BoxT W6 (w.heap.size + 1) 0 0 0 none 0 0 none 0 0 := by rw [← hW6, ← z5]; exact BoxT.new ..
  have bw6 := B5.trans (b6.mono B5.size)
  have cT0 := x6.c0
  have cT1 := x6.c1
  have cT2 := x6.c2
  have cT3 := x6.c3
  have cT4 := x6.c4
  have C1 := Lib.hid (l12Good_any a b c q r (h.upB bw6) hm hm2)
  have HT := Lib.hid (h.upB bw6)
  have HT1L := Lib.hid h.low
  have HX6 := Lib.hid x6
  have HZ6 := Lib.hid z6
  have HB6 := Lib.hid bw6
  have HNO := Lib.hid hA.2
  have HYES := Lib.hid hA.1
  have CR := Lib.hid (fun W => l1In_any i 0 ((m : Int) - 1) W)
  rw [canW_iff h.pumps.len] at HNO HYES
  have HG := Lib.hid (gT_iff ⟨a, b, c, zs, vs⟩)
  generalize gT ⟨a, b, c, zs, vs⟩ = T at HG C1
  clear h X5 B5 hA b6 x6 z6 bw6
  go_enter Try.func30, Try.ntmps30
  go_wp2_with fail
  (try rw [hW5])
  (try rw [hW6])
  (try simp only [z5])
  clear hW5 hW6 z5 cT0 cT1 cT2 cT3 cT4
  refine C1.out.mono ?_
  rintro e w1 ⟨rfl, hb⟩
  have HX1 := Lib.hid (HX6.out.all hb)
  have HZ1 := Lib.hid (HZ6.out.all hb)
  have HB1 := Lib.hid (HB6.out.trans (hb.mono HB6.out.size))
  have HT1 := Lib.hid (HT.out.upB hb)
  clear hb C1 HX6 HZ6 HB6 HT
  cases T with
  | false =>
    obtain ⟨rfl, rfl⟩ := HNO.out (fun g => by have := HG.out.2 g.1; cases this)
    clear HNO HYES HG CR
    · skip
      have y0 := HZ1.out.c0
      have y1 := HZ1.out.c1
      have y2 := HZ1.out.c2
      have y3 := HZ1.out.c3
      have y4 := HZ1.out.c4
      have f0 := HZ1.out.fz 0
      have f1 := HZ1.out.fz 1
      have f2 := HZ1.out.fz 2
      have f3 := HZ1.out.fz 3
      have f4 := HZ1.out.fz 4
      go_wp2_with fail
      refine bodyPost_ret (results_rowT rfl _ _ (w.heap.size + 1) _ _ rfl (HZ1.out.sets 0 0 0 none 0 0 none 0 0).rangeAt Try.underlying27 rfl (by kernel_rfl)) rfl ?_
      exact givesW_no (sets5_below HB1.out (by omega) _ _ _ _ _)
  | true =>
  have HGD := Lib.hid (HG.out.1 rfl)
  have hX1 := HX1.out
  have cT4 := hX1.c4
  obtain ⟨bb, hbb⟩ : ∃ y, decide (0 ≤ i ∧ i ≤ (m : Int) - 1) = y := ⟨_, rfl⟩
  rw [hbb] at CR
  have HBB := Lib.hid hbb
  clear hX1 HG hbb
  go_wp2_with fail
  refine (CR.out _).mono ?_
  rintro e w2 ⟨rfl, rfl⟩
  clear CR
  cases bb with
  | false =>
    obtain ⟨rfl, rfl⟩ := HNO.out (fun g => of_decide_eq_false HBB.out g.2)
    clear HNO HYES HBB cT4 HGD
    · skip
      have y0 := HZ1.out.c0
      have y1 := HZ1.out.c1
      have y2 := HZ1.out.c2
      have y3 := HZ1.out.c3
      have y4 := HZ1.out.c4
      have f0 := HZ1.out.fz 0
      have f1 := HZ1.out.fz 1
      have f2 := HZ1.out.fz 2
      have f3 := HZ1.out.fz 3
      have f4 := HZ1.out.fz 4
      go_wp2_with fail
      refine bodyPost_ret (results_rowT rfl _ _ (w.heap.size + 1) _ _ rfl (HZ1.out.sets 0 0 0 none 0 0 none 0 0).rangeAt Try.underlying27 rfl (by kernel_rfl)) rfl ?_
      exact givesW_no (sets5_below HB1.out (by omega) _ _ _ _ _)
  | true =>
  have hiR := of_decide_eq_true HBB.out
  obtain ⟨hs, rfl⟩ := HYES.out ⟨HGD.out, hiR⟩
  subst hs
  obtain ⟨k, rfl⟩ : ∃ k : Nat, i = (k : Int) := ⟨i.toNat, by omega⟩
  have hkm : k < m := by omega
  have hm3 : m ≤ 2 := by rw [← HT1.out.pumps.len]; exact HGD.out.2.2.1
  have hn5 : n ≤ 5 := by rw [← HT1.out.ints.len]; exact HGD.out.2.1.2
  have hn1 : 1 ≤ n := by rw [← HT1.out.ints.len]; exact HGD.out.2.1.1
  obtain ⟨ap, rfl, -, -⟩ := HT1.out.pumps.has.Pump (k := k) (by rw [HT1.out.pumps.len]; exact hkm)
  obtain ⟨az, rfl, -, -⟩ := HT1.out.ints.has.numAt (k := 0) (by rw [HT1.out.ints.len]; omega)
  have lV := World.block_lt_of_cell? _ _ cT4
  obtain ⟨wq, hwq⟩ : ∃ W, W = w1 := ⟨_, rfl⟩
  subst hwq
  have HT1' : Hid ((flatPump (vs.take k)).length = k * 3) := Lib.hid (by rw [flatPump_len, List.length_take, HT1.out.pumps.len]; omega)
  have HT2 : Hid ((flatPump (vs.drop (k + 1))).length = (m - (k + 1)) * 3) := Lib.hid (by rw [flatPump_len, List.length_drop, HT1.out.pumps.len]; omega)
  have HN1 := Lib.hid (fun W (hq : Below wq.heap.size wq W) => hasU_take (k := k) (HT1.out.upB hq).pumps)
  obtain ⟨aq, haq⟩ : ∃ aq, (if r = k + 1 then some ap else some (ap.add ((k + 1) * 3)) : Option Addr) = some aq := by split <;> exact ⟨_, rfl⟩
  have HAQ := Lib.hid haq
  have HN2 := Lib.hid (fun W (hq : Below wq.heap.size wq W) => hasU_drop (k := k + 1) (HT1.out.upB hq).pumps (by omega) hmr HAQ.out)
  obtain ⟨f, hki⟩ : ∃ f, k + (m - (k + 1)) = f := ⟨_, rfl⟩
  have hkr : k ≤ r := by omega
  have hk0 : (0 : Int) ≤ (k : Int) := by omega
  have hk1 : (k : Int) < (m : Int) := by omega
  have HT := HT1
  have HT1 := HT1'
  clear HNO HYES HBB haq HT1'
  go_wp2_with fail
  refine region_inv (by kernel_rfl) (by kernel_rfl) (fun Fl9 ac W => ∃ (x20 x21 x22 x23 x24 x25 x26 x27 x28 x29 x30 x31 x6 : Value), ac = { tmps := #[Value.agg #[Value.int IntKind.i64 a, Value.int IntKind.i64 b, Value.int IntKind.i64 c, Value.slice (some az) n q, Value.slice (some ap) m r], Value.int IntKind.i64 (k : Int), Value.pointer (some ⟨w.heap.size, 0, none⟩), undef, Value.pointer (some ⟨w.heap.size + 1, 0, none⟩), Value.bool false, x6, Value.agg #[Value.int IntKind.i64 a, Value.int IntKind.i64 b, Value.int IntKind.i64 c, Value.slice (some az) n q, Value.slice (some ap) m r], Value.bool true, Value.bool false, Value.bool false, Value.int IntKind.i64 (k : Int), Value.pointer (some ⟨w.heap.size, 4, none⟩), Value.slice (some ap) m r, Value.int IntKind.i64 (m : Int), Value.int IntKind.i64 ((m : Int) - 1), Value.bool true, Value.bool false, Value.bool false, undef, x20, x21, x22, x23, x24, x25, x26, x27, x28, x29, x30, x31, undef, undef, undef, undef, undef, undef, undef, undef, undef, undef, undef], defers := [] } ∧ Below wq.heap.size wq W ∧
        (Fl9 0 = true → Fl9 5 = false → ∃ g, x20 = .slice (some ⟨g, 0, none⟩) 0 0 ∧ W.ownsRow wq.heap.size 69 3 (.slice (some ⟨g, 0, none⟩) 0 0) 0 []) ∧
        (Fl9 1 = true → x21 = .pointer (some ⟨w.heap.size, 4, none⟩)) ∧
        (Fl9 2 = true → x22 = .slice (some ap) m r) ∧
        (Fl9 3 = true → x23 = .int .i64 (k : Int)) ∧
        (Fl9 4 = true → x24 = .slice (some ap) k r) ∧
        (Fl9 5 = true → Fl9 11 = false → ∃ g c9, x25 = .slice (some ⟨g, 0, none⟩) k c9 ∧ W.ownsRow wq.heap.size 69 3 (.slice (some ⟨g, 0, none⟩) k c9) k (flatPump (vs.take k))) ∧
        (Fl9 6 = true → x26 = .pointer (some ⟨w.heap.size, 4, none⟩)) ∧
        (Fl9 7 = true → x27 = .slice (some ap) m r) ∧
        (Fl9 8 = true → x28 = .int .i64 (k : Int)) ∧
        (Fl9 9 = true → x29 = .int .i64 ((k + 1 : Nat) : Int)) ∧
        (Fl9 10 = true → x30 = .slice (some aq) (m - (k + 1)) (r - (k + 1))) ∧
        (Fl9 11 = true → ∃ g c9, x31 = .slice (some ⟨g, 0, none⟩) f c9 ∧ W.ownsRow wq.heap.size 69 3 (.slice (some ⟨g, 0, none⟩) f c9) f (flatPump (vs.take k) ++ flatPump (vs.drop (k + 1)))) ∧
        (Fl9 12 = true → ∃ g c9, x6 = .slice (some ⟨g, 0, none⟩) f c9 ∧ W.ownsRow wq.heap.size 69 3 (.slice (some ⟨g, 0, none⟩) f c9) f (flatPump (vs.take k) ++ flatPump (vs.drop (k + 1)))) ∧
        (Fl9 11 = true → Fl9 5 = true) ∧
        (Fl9 12 = true → Fl9 11 = true)) ?_ ?_ ?_
  · exact ⟨_, _, _, _, _, _, _, _, _, _, _, _, _, rfl, (Drawn.one wq 1).below _, (fun q0 => nomatch q0), (fun q0 => nomatch q0), (fun q0 => nomatch q0), (fun q0 => nomatch q0), (fun q0 => nomatch q0), (fun q0 => nomatch q0), (fun q0 => nomatch q0), (fun q0 => nomatch q0), (fun q0 => nomatch q0), (fun q0 => nomatch q0), (fun q0 => nomatch q0), (fun q0 => nomatch q0), (fun q0 => nomatch q0), (fun q0 => nomatch q0), (fun q0 => nomatch q0)⟩
  · intro Fl9 ac W i9 o9 hJ ho hL hdep K9 hK
    obtain ⟨x20, x21, x22, x23, x24, x25, x26, x27, x28, x29, x30, x31, x6, rfl, hB, hh0, hh1, hh2, hh3, hh4, hh5, hh6, hh7, hh8, hh9, hh10, hh11, hh12, hx0, hx1⟩ := hJ
    have hi9 : i9 < 13 := by simpa using (Array.getElem?_eq_some_iff.1 ho).1
    have C4 := (hB.cell lV).trans cT4
    obtain rfl | rfl | rfl | rfl | rfl | rfl | rfl | rfl | rfl | rfl | rfl | rfl | rfl : i9 = 0 ∨ i9 = 1 ∨ i9 = 2 ∨ i9 = 3 ∨ i9 = 4 ∨ i9 = 5 ∨ i9 = 6 ∨ i9 = 7 ∨ i9 = 8 ∨ i9 = 9 ∨ i9 = 10 ∨ i9 = 11 ∨ i9 = 12 := by omega
    · -- operation 0
      cases ho
      go_simp
      exact hK _ _ ⟨_, _, _, _, _, _, _, _, _, _, _, _, _, rfl, hB.trans ((Below.alloc (Below.refl W.heap.size W) (Nat.le_refl _) _).mono hB.size), fun _ _ => ⟨_, rfl, own_low (World.ownsRow_made W #[] 0 (Nat.le_refl _) (by unfold maxLen; omega) rfl) hB.size⟩, hh1, hh2, hh3, hh4, fun q0 r0 => (fun ⟨g, c9, e, o⟩ => ⟨g, c9, e, own_below o (Below.alloc (Below.refl W.heap.size W) (Nat.le_refl _) _)⟩) (hh5 q0 r0), hh6, hh7, hh8, hh9, hh10, fun q0 => (fun ⟨g, c9, e, o⟩ => ⟨g, c9, e, own_below o (Below.alloc (Below.refl W.heap.size W) (Nat.le_refl _) _)⟩) (hh11 q0), fun q0 => (fun ⟨g, c9, e, o⟩ => ⟨g, c9, e, own_below o (Below.alloc (Below.refl W.heap.size W) (Nat.le_refl _) _)⟩) (hh12 q0), hx0, hx1⟩
    · -- operation 1
      cases ho
      go_simp
      exact hK _ _ ⟨_, _, _, _, _, _, _, _, _, _, _, _, _, rfl, hB, hh0, fun _ => rfl, hh2, hh3, hh4, hh5, hh6, hh7, hh8, hh9, hh10, hh11, hh12, hx0, hx1⟩
    · -- operation 2
      cases ho
      obtain rfl := hh1 (hdep ⟨1, .data⟩ (by simp) rfl)
      go_simp
      exact hK _ _ ⟨_, _, _, _, _, _, _, _, _, _, _, _, _, rfl, hB, hh0, hh1, fun _ => rfl, hh3, hh4, hh5, hh6, hh7, hh8, hh9, hh10, hh11, hh12, hx0, hx1⟩
    · -- operation 3
      cases ho
      go_simp
      exact hK _ _ ⟨_, _, _, _, _, _, _, _, _, _, _, _, _, rfl, hB, hh0, hh1, hh2, fun _ => rfl, hh4, hh5, hh6, hh7, hh8, hh9, hh10, hh11, hh12, hx0, hx1⟩
    · -- operation 4
      cases ho
      obtain rfl := hh2 (hdep ⟨2, .data⟩ (by simp) rfl)
      obtain rfl := hh3 (hdep ⟨3, .data⟩ (by simp) rfl)
      go_simp
      exact hK _ _ ⟨_, _, _, _, _, _, _, _, _, _, _, _, _, rfl, hB, hh0, hh1, hh2, hh3, fun _ => rfl, hh5, hh6, hh7, hh8, hh9, hh10, hh11, hh12, hx0, hx1⟩
    · -- operation 5
      cases ho
      have hd0 := hdep ⟨0, .data⟩ (by simp) rfl
      obtain ⟨g9, rfl, oe⟩ := hh0 hd0 hL
      obtain rfl := hh4 (hdep ⟨4, .data⟩ (by simp) rfl)
      refine step_append rfl (.tmp 20) (.tmp 24) 25 rfl wq.heap.size 69 i0 (.agg #[.int .i64 0, .int .i64 0, .int .i64 0]) 3 24 Try.underlying25 hi hz0 hz1 hz2 rfl (by decide) _ 0 _ rfl oe ap k r (flatPump (vs.take k)) rfl HT1.out (HN1.out W hB) (flatPump_one _) (by unfold maxLen; omega) (by omega) hB.size (fun e => nomatch e) ?_
      intro g1 cap w9 hown hgr
      rw [Nat.zero_add, List.nil_append] at hown
      rw [Nat.zero_add]
      exact hK _ _ ⟨_, _, _, _, _, _, _, _, _, _, _, _, _, rfl, hB.grown hgr hB.size (fun q e => (oe.lt q e).1), (fun _ q0 => nomatch q0), hh1, hh2, hh3, hh4, fun _ => fun _ => ⟨_, _, rfl, hown⟩, hh6, hh7, hh8, hh9, hh10, (fun q0 => absurd (hx0 q0) (by rw [hL]; simp)), (fun q0 => absurd (hx0 (hx1 q0)) (by rw [hL]; simp)), fun _ => rfl, hx1⟩
    · -- operation 6
      cases ho
      go_simp
      exact hK _ _ ⟨_, _, _, _, _, _, _, _, _, _, _, _, _, rfl, hB, hh0, hh1, hh2, hh3, hh4, hh5, fun _ => rfl, hh7, hh8, hh9, hh10, hh11, hh12, hx0, hx1⟩
    · -- operation 7
      cases ho
      obtain rfl := hh6 (hdep ⟨6, .data⟩ (by simp) rfl)
      go_simp
      exact hK _ _ ⟨_, _, _, _, _, _, _, _, _, _, _, _, _, rfl, hB, hh0, hh1, hh2, hh3, hh4, hh5, hh6, fun _ => rfl, hh8, hh9, hh10, hh11, hh12, hx0, hx1⟩
    · -- operation 8
      cases ho
      go_simp
      exact hK _ _ ⟨_, _, _, _, _, _, _, _, _, _, _, _, _, rfl, hB, hh0, hh1, hh2, hh3, hh4, hh5, hh6, hh7, fun _ => rfl, hh9, hh10, hh11, hh12, hx0, hx1⟩
    · -- operation 9
      cases ho
      obtain rfl := hh8 (hdep ⟨8, .data⟩ (by simp) rfl)
      go_simp
      rw [show IntKind.i64.wrap ((k : Int) + 1) = ((k + 1 : Nat) : Int) from (by rw [IntKind.wrap_i64]; omega)]
      exact hK _ _ ⟨_, _, _, _, _, _, _, _, _, _, _, _, _, rfl, hB, hh0, hh1, hh2, hh3, hh4, hh5, hh6, hh7, hh8, fun _ => rfl, hh10, hh11, hh12, hx0, hx1⟩
    · -- operation 10
      cases ho
      obtain rfl := hh7 (hdep ⟨7, .data⟩ (by simp) rfl)
      obtain rfl := hh9 (hdep ⟨9, .data⟩ (by simp) rfl)
      have hk9 : (k : Int) + 1 ≤ (m : Int) := by omega
      have hk8 : (0 : Int) ≤ (k : Int) + 1 := by omega
      go_simp
      exact hK _ _ ⟨_, _, _, _, _, _, _, _, _, _, _, _, _, rfl, hB, hh0, hh1, hh2, hh3, hh4, hh5, hh6, hh7, hh8, hh9, fun _ => (by rw [HAQ.out]), hh11, hh12, hx0, hx1⟩
    · -- operation 11
      cases ho
      have hd5 := hdep ⟨5, .data⟩ (by simp) rfl
      obtain ⟨g9, c9, rfl, oe⟩ := hh5 hd5 hL
      obtain rfl := hh10 (hdep ⟨10, .data⟩ (by simp) rfl)
      refine step_append rfl (.tmp 25) (.tmp 30) 25 rfl wq.heap.size 69 i0 (.agg #[.int .i64 0, .int .i64 0, .int .i64 0]) 3 24 Try.underlying25 hi hz0 hz1 hz2 rfl (by decide) _ k _ rfl oe aq (m - (k + 1)) (r - (k + 1)) (flatPump (vs.drop (k + 1))) rfl HT2.out (HN2.out W hB) (flatPump_one _) (by unfold maxLen; omega) (by omega) hB.size (fun e => nomatch e) ?_
      intro g1 cap w9 hown hgr
      rw [hki] at hown ⊢
      exact hK _ _ ⟨_, _, _, _, _, _, _, _, _, _, _, _, _, rfl, hB.grown hgr hB.size (fun q e => (oe.lt q e).1), (fun _ q0 => absurd ((show Fl9 5 = false from q0).symm.trans hd5) (by simp)), hh1, hh2, hh3, hh4, (fun _ q0 => nomatch q0), hh6, hh7, hh8, hh9, hh10, fun _ => ⟨_, _, rfl, hown⟩, (fun q0 => absurd (hx1 q0) (by rw [hL]; simp)), fun _ => hd5, fun _ => rfl⟩
    · -- operation 12
      cases ho
      have hd11 := hdep ⟨11, .data⟩ (by simp) rfl
      obtain ⟨g9, c9, rfl, ho9⟩ := hh11 hd11
      go_simp
      exact hK _ _ ⟨_, _, _, _, _, _, _, _, _, _, _, _, _, rfl, hB, hh0, hh1, hh2, hh3, hh4, hh5, hh6, hh7, hh8, hh9, hh10, hh11, fun _ => ⟨_, _, rfl, ho9⟩, hx0, fun _ => hd11⟩
  intro Fl9 ac W hJ hall
  obtain ⟨x20, x21, x22, x23, x24, x25, x26, x27, x28, x29, x30, x31, x6, rfl, hB, hh0, hh1, hh2, hh3, hh4, hh5, hh6, hh7, hh8, hh9, hh10, hh11, hh12, -, -⟩ := hJ
  obtain rfl := hh1 (hall 1 (by decide))
  obtain rfl := hh2 (hall 2 (by decide))
  obtain rfl := hh3 (hall 3 (by decide))
  obtain rfl := hh4 (hall 4 (by decide))
  obtain rfl := hh6 (hall 6 (by decide))
  obtain rfl := hh7 (hall 7 (by decide))
  obtain rfl := hh8 (hall 8 (by decide))
  obtain rfl := hh9 (hall 9 (by decide))
  obtain rfl := hh10 (hall 10 (by decide))
  clear hh0
  clear hh5
  clear hh11
  obtain ⟨gp, cp, rfl, hop⟩ := hh12 (hall 12 (by decide))
  clear hall
  obtain ⟨wr, hwr⟩ : ∃ W', W' = W := ⟨_, rfl⟩
  subst hwr
  have HBZ := Lib.hid (HZ1.out.all hB)
  have hlq : w.heap.size + 1 ≤ wr.heap.size := by have := HZ1.out.lt; have := hB.size; omega
  have HOP := Lib.hid (own_low hop HB1.out.size)
  have HBR := Lib.hid (HB1.out.trans (hB.mono HB1.out.size))
  have hXR := HX1.out.all hB
  have cT0 := hXR.c0
  have cT1 := hXR.c1
  have cT2 := hXR.c2
  have cT3 := hXR.c3
  have CO := Lib.hid (fun W (hq : Below w.heap.size wr W) => l1OwnZ_any (w := W) q (by omega) ((HT.out.upB hB).below hq HT1L.out).ints)
  clear hB hop hXR cT4 HN1 HN2 HT2 HT1 lV
  go_wp2_with fail
  refine region_inv (by kernel_rfl) (by kernel_rfl) (fun Fl9 ac W => ∃ (x32 x33 x34 x35 x36 x37 x38 x39 x40 x41 x42 x5 : Value), ac = { tmps := #[Value.agg #[Value.int IntKind.i64 a, Value.int IntKind.i64 b, Value.int IntKind.i64 c, Value.slice (some az) n q, Value.slice (some ap) m r], Value.int IntKind.i64 (k : Int), Value.pointer (some ⟨w.heap.size, 0, none⟩), undef, Value.pointer (some ⟨w.heap.size + 1, 0, none⟩), x5, Value.slice (some ⟨gp, 0, none⟩) f cp, Value.agg #[Value.int IntKind.i64 a, Value.int IntKind.i64 b, Value.int IntKind.i64 c, Value.slice (some az) n q, Value.slice (some ap) m r], Value.bool true, Value.bool false, Value.bool false, Value.int IntKind.i64 (k : Int), Value.pointer (some ⟨w.heap.size, 4, none⟩), Value.slice (some ap) m r, Value.int IntKind.i64 (m : Int), Value.int IntKind.i64 ((m : Int) - 1), Value.bool true, Value.bool false, Value.bool false, undef, x20, Value.pointer (some ⟨w.heap.size, 4, none⟩), Value.slice (some ap) m r, Value.int IntKind.i64 (k : Int), Value.slice (some ap) k r, x25, Value.pointer (some ⟨w.heap.size, 4, none⟩), Value.slice (some ap) m r, Value.int IntKind.i64 (k : Int), Value.int IntKind.i64 ((k : Int) + 1), Value.slice (some aq) (m - (k + 1)) (r - (k + 1)), x31, x32, x33, x34, x35, x36, x37, x38, x39, x40, x41, x42], defers := [] } ∧ Below (w.heap.size + 1) wr W ∧
        (Fl9 0 = true → x32 = .pointer (some ⟨w.heap.size, 0, none⟩)) ∧
        (Fl9 1 = true → x33 = .int .i64 a) ∧
        (Fl9 2 = true → x34 = .pointer (some ⟨w.heap.size, 1, none⟩)) ∧
        (Fl9 3 = true → x35 = .int .i64 b) ∧
        (Fl9 4 = true → x36 = .pointer (some ⟨w.heap.size, 2, none⟩)) ∧
        (Fl9 5 = true → x37 = .int .i64 c) ∧
        (Fl9 6 = true → x38 = .pointer (some ⟨w.heap.size, 3, none⟩)) ∧
        (Fl9 7 = true → x39 = .slice (some az) n q) ∧
        (Fl9 8 = true → ∃ g c9, x40 = .slice (some ⟨g, 0, none⟩) n c9 ∧ W.ownsRow wr.heap.size 3 1 (.slice (some ⟨g, 0, none⟩) n c9) n (zs.map (.int .i64))) ∧
        (Fl9 9 = true → x41 = .slice (some ⟨gp, 0, none⟩) f cp) ∧
        (Fl9 10 = true → ∃ g c9, x42 = .agg #[.int .i64 a, .int .i64 b, .int .i64 c, .slice (some ⟨g, 0, none⟩) n c9, .slice (some ⟨gp, 0, none⟩) f cp] ∧ W.ownsRow wr.heap.size 3 1 (.slice (some ⟨g, 0, none⟩) n c9) n (zs.map (.int .i64))) ∧
        (Fl9 11 = true → ∃ g c9, BoxT W (w.heap.size + 1) a b c (some ⟨g, 0, none⟩) n c9 (some ⟨gp, 0, none⟩) f cp ∧ W.ownsRow wr.heap.size 3 1 (.slice (some ⟨g, 0, none⟩) n c9) n (zs.map (.int .i64))) ∧
        (Fl9 12 = true → x5 = .bool true) ∧
        (Fl9 11 = false → BoxT W (w.heap.size + 1) 0 0 0 none 0 0 none 0 0) ∧
        (True → W.ownsRow w.heap.size 69 3 (.slice (some ⟨gp, 0, none⟩) f cp) f (flatPump (vs.take k) ++ flatPump (vs.drop (k + 1)))) ∧
        (Fl9 11 = true → Fl9 10 = true) ∧
        (Fl9 10 = true → Fl9 8 = true)) ?_ ?_ ?_
  · exact ⟨_, _, _, _, _, _, _, _, _, _, _, _, rfl, ((Drawn.one wr 1).below _), (fun q0 => nomatch q0), (fun q0 => nomatch q0), (fun q0 => nomatch q0), (fun q0 => nomatch q0), (fun q0 => nomatch q0), (fun q0 => nomatch q0), (fun q0 => nomatch q0), (fun q0 => nomatch q0), (fun q0 => nomatch q0), (fun q0 => nomatch q0), (fun q0 => nomatch q0), (fun q0 => nomatch q0), (fun q0 => nomatch q0), (fun _ => HBZ.out.all ((Drawn.one wr 1).below _)), (fun _ => own_below HOP.out ((Drawn.one wr 1).below _)), (fun q0 => nomatch q0), (fun q0 => nomatch q0)⟩
  · intro Fl9 ac W i9 o9 hJ ho hL hdep K9 hK
    obtain ⟨x32, x33, x34, x35, x36, x37, x38, x39, x40, x41, x42, x5, rfl, hB, hh0, hh1, hh2, hh3, hh4, hh5, hh6, hh7, hh8, hh9, hh10, hh11, hh12, hx0, hx1, hx2, hx3⟩ := hJ
    have hi9 : i9 < 13 := by simpa using (Array.getElem?_eq_some_iff.1 ho).1
    have C0 := (hB.cell (p := ⟨w.heap.size, 0, none⟩) (by show w.heap.size < _; omega)).trans cT0
    have C1 := (hB.cell (p := ⟨w.heap.size, 1, none⟩) (by show w.heap.size < _; omega)).trans cT1
    have C2 := (hB.cell (p := ⟨w.heap.size, 2, none⟩) (by show w.heap.size < _; omega)).trans cT2
    have C3 := (hB.cell (p := ⟨w.heap.size, 3, none⟩) (by show w.heap.size < _; omega)).trans cT3
    obtain rfl | rfl | rfl | rfl | rfl | rfl | rfl | rfl | rfl | rfl | rfl | rfl | rfl : i9 = 0 ∨ i9 = 1 ∨ i9 = 2 ∨ i9 = 3 ∨ i9 = 4 ∨ i9 = 5 ∨ i9 = 6 ∨ i9 = 7 ∨ i9 = 8 ∨ i9 = 9 ∨ i9 = 10 ∨ i9 = 11 ∨ i9 = 12 := by omega
    · -- operation 0
      cases ho
      go_simp
      exact hK _ _ ⟨_, _, _, _, _, _, _, _, _, _, _, _, rfl, hB, fun _ => rfl, hh1, hh2, hh3, hh4, hh5, hh6, hh7, hh8, hh9, hh10, hh11, hh12, hx0, hx1, hx2, hx3⟩
    · -- operation 1
      cases ho
      obtain rfl := hh0 (hdep ⟨0, .data⟩ (by simp) rfl)
      go_simp
      exact hK _ _ ⟨_, _, _, _, _, _, _, _, _, _, _, _, rfl, hB, hh0, fun _ => rfl, hh2, hh3, hh4, hh5, hh6, hh7, hh8, hh9, hh10, hh11, hh12, hx0, hx1, hx2, hx3⟩
    · -- operation 2
      cases ho
      go_simp
      exact hK _ _ ⟨_, _, _, _, _, _, _, _, _, _, _, _, rfl, hB, hh0, hh1, fun _ => rfl, hh3, hh4, hh5, hh6, hh7, hh8, hh9, hh10, hh11, hh12, hx0, hx1, hx2, hx3⟩
    · -- operation 3
      cases ho
      obtain rfl := hh2 (hdep ⟨2, .data⟩ (by simp) rfl)
      go_simp
      exact hK _ _ ⟨_, _, _, _, _, _, _, _, _, _, _, _, rfl, hB, hh0, hh1, hh2, fun _ => rfl, hh4, hh5, hh6, hh7, hh8, hh9, hh10, hh11, hh12, hx0, hx1, hx2, hx3⟩
    · -- operation 4
      cases ho
      go_simp
      exact hK _ _ ⟨_, _, _, _, _, _, _, _, _, _, _, _, rfl, hB, hh0, hh1, hh2, hh3, fun _ => rfl, hh5, hh6, hh7, hh8, hh9, hh10, hh11, hh12, hx0, hx1, hx2, hx3⟩
    · -- operation 5
      cases ho
      obtain rfl := hh4 (hdep ⟨4, .data⟩ (by simp) rfl)
      go_simp
      exact hK _ _ ⟨_, _, _, _, _, _, _, _, _, _, _, _, rfl, hB, hh0, hh1, hh2, hh3, hh4, fun _ => rfl, hh6, hh7, hh8, hh9, hh10, hh11, hh12, hx0, hx1, hx2, hx3⟩
    · -- operation 6
      cases ho
      go_simp
      exact hK _ _ ⟨_, _, _, _, _, _, _, _, _, _, _, _, rfl, hB, hh0, hh1, hh2, hh3, hh4, hh5, fun _ => rfl, hh7, hh8, hh9, hh10, hh11, hh12, hx0, hx1, hx2, hx3⟩
    · -- operation 7
      cases ho
      obtain rfl := hh6 (hdep ⟨6, .data⟩ (by simp) rfl)
      go_simp
      exact hK _ _ ⟨_, _, _, _, _, _, _, _, _, _, _, _, rfl, hB, hh0, hh1, hh2, hh3, hh4, hh5, hh6, fun _ => rfl, hh8, hh9, hh10, hh11, hh12, hx0, hx1, hx2, hx3⟩
    · -- operation 8
      cases ho
      obtain rfl := hh7 (hdep ⟨7, .data⟩ (by simp) rfl)
      go_simp
      refine (CO.out W (Below.mono hB (by omega))).mono ?_
      rintro e w9 ⟨g9, c9, rfl, -, ho9, hb9⟩
      exact hK _ _ ⟨_, _, _, _, _, _, _, _, _, _, _, _, rfl, hB.trans (hb9.mono (Nat.le_trans hlq hB.size)), hh0, hh1, hh2, hh3, hh4, hh5, hh6, hh7, fun _ => ⟨_, _, rfl, own_low ho9 hB.size⟩, hh9, fun q0 => (fun ⟨g, c9, e, o⟩ => ⟨g, c9, e, own_below o hb9⟩) (hh10 q0), (fun q0 => absurd (hx3 (hx2 q0)) (by rw [hL]; simp)), hh12, fun q0 => (fun h => h.all hb9) (hx0 q0), fun q0 => (fun h => own_below h hb9) (hx1 q0), hx2, fun _ => rfl⟩
    · -- operation 9
      cases ho
      go_simp
      exact hK _ _ ⟨_, _, _, _, _, _, _, _, _, _, _, _, rfl, hB, hh0, hh1, hh2, hh3, hh4, hh5, hh6, hh7, hh8, fun _ => rfl, hh10, hh11, hh12, hx0, hx1, hx2, hx3⟩
    · -- operation 10
      cases ho
      obtain rfl := hh1 (hdep ⟨1, .data⟩ (by simp) rfl)
      obtain rfl := hh3 (hdep ⟨3, .data⟩ (by simp) rfl)
      obtain rfl := hh5 (hdep ⟨5, .data⟩ (by simp) rfl)
      have hd8 := hdep ⟨8, .data⟩ (by simp) rfl
      obtain ⟨g8, c8, rfl, ho8⟩ := hh8 hd8
      obtain rfl := hh9 (hdep ⟨9, .data⟩ (by simp) rfl)
      go_simp
      exact hK _ _ ⟨_, _, _, _, _, _, _, _, _, _, _, _, rfl, hB, hh0, hh1, hh2, hh3, hh4, hh5, hh6, hh7, hh8, hh9, fun _ => ⟨_, _, rfl, ho8⟩, hh11, hh12, hx0, hx1, fun _ => rfl, fun _ => hd8⟩
    · -- operation 11
      cases ho
      have hd10 := hdep ⟨10, .data⟩ (by simp) rfl
      obtain ⟨g7, c7, rfl, ho7⟩ := hh10 hd10
      have hz9 := hx0 hL
      have ho6 := hx1 trivial
      have z0 := hz9.c0
      have z1 := hz9.c1
      have z2 := hz9.c2
      have z3 := hz9.c3
      have z4 := hz9.c4
      have y0 := hz9.fz 0
      have y1 := hz9.fz 1
      have y2 := hz9.fz 2
      have y3 := hz9.fz 3
      have y4 := hz9.fz 4
      obtain ⟨g8, c8, rfl, ho8⟩ := hh8 (hx3 hd10)
      have hne7 : g7 ≠ w.heap.size + 1 := fun e => own_off ho7 hz9 (by decide) (by simp [Value.ownBlock, e])
      have hne8 : g8 ≠ w.heap.size + 1 := fun e => own_off ho8 hz9 (by decide) (by simp [Value.ownBlock, e])
      have hne6 : gp ≠ w.heap.size + 1 := fun e => own_off ho6 hz9 (by decide) (by simp [Value.ownBlock, e])
      go_simp
      have hr79 := own_sets5 ho7 (w.heap.size + 1) (.int .i64 a) (.int .i64 b) (.int .i64 c) (.slice (some ⟨g7, 0, none⟩) n c7) (.slice (some ⟨gp, 0, none⟩) f cp) (by simpa [Value.ownBlock] using hne7)
      have hr89 := own_sets5 ho8 (w.heap.size + 1) (.int .i64 a) (.int .i64 b) (.int .i64 c) (.slice (some ⟨g7, 0, none⟩) n c7) (.slice (some ⟨gp, 0, none⟩) f cp) (by simpa [Value.ownBlock] using hne8)
      have hrp9 := own_sets5 ho6 (w.heap.size + 1) (.int .i64 a) (.int .i64 b) (.int .i64 c) (.slice (some ⟨g7, 0, none⟩) n c7) (.slice (some ⟨gp, 0, none⟩) f cp) (by simpa [Value.ownBlock] using hne6)
      exact hK _ _ ⟨_, _, _, _, _, _, _, _, _, _, _, _, rfl, sets5_below hB (Nat.le_refl _) _ _ _ _ _, hh0, hh1, hh2, hh3, hh4, hh5, hh6, hh7, (fun _ => ⟨_, _, rfl, hr89⟩), hh9, (fun _ => ⟨_, _, rfl, hr79⟩), fun _ => ⟨g7, c7, hz9.sets a b c (some ⟨g7, 0, none⟩) n c7 (some ⟨gp, 0, none⟩) f cp, hr79⟩, hh12, (fun q0 => nomatch q0), (fun _ => hrp9), fun _ => hd10, hx3⟩
    · -- operation 12
      cases ho
      go_simp
      exact hK _ _ ⟨_, _, _, _, _, _, _, _, _, _, _, _, rfl, hB, hh0, hh1, hh2, hh3, hh4, hh5, hh6, hh7, hh8, hh9, hh10, hh11, fun _ => rfl, hx0, hx1, hx2, hx3⟩
  intro Fl9 ac W hJ hall
  obtain ⟨x32, x33, x34, x35, x36, x37, x38, x39, x40, x41, x42, x5, rfl, hB, hh0, hh1, hh2, hh3, hh4, hh5, hh6, hh7, hh8, hh9, hh10, hh11, hh12, -, hxp, -, -⟩ := hJ
  obtain rfl := hh0 (hall 0 (by decide))
  obtain rfl := hh1 (hall 1 (by decide))
  obtain rfl := hh2 (hall 2 (by decide))
  obtain rfl := hh3 (hall 3 (by decide))
  obtain rfl := hh4 (hall 4 (by decide))
  obtain rfl := hh5 (hall 5 (by decide))
  obtain rfl := hh6 (hall 6 (by decide))
  obtain rfl := hh7 (hall 7 (by decide))
  obtain rfl := hh9 (hall 9 (by decide))
  obtain rfl := hh12 (hall 12 (by decide))
  clear hh8
  clear hh10
  obtain ⟨gf, cf, hbx, hof⟩ := hh11 (hall 11 (by decide))
  clear hall
  go_wp2_with fail
  refine bodyPost_ret (results_rowT rfl _ _ (w.heap.size + 1) _ _ rfl hbx.rangeAt Try.underlying27 rfl (by kernel_rfl)) rfl ?_
  refine ⟨some ⟨gf, 0, none⟩, n, cf, some ⟨gp, 0, none⟩, f, cp, rfl, ?_, ?_, ?_⟩
  · exact own_low hof HBR.out.size
  · show W.ownsRow _ _ _ _ _ (flatPump (vs.take k ++ vs.drop (k + 1)))
    rw [flatPump_append]
    exact hxp trivial
  · exact HBR.out.trans (hB.mono (by omega))
end Go.Proofs.Ytdjoiodkmanacaa
