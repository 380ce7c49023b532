/- Texts that are joined: VesAdd. -/
import Derived.Test.YtliebicnejbheabGreatDoorMg12
import Derived.BigQuiet
/- Chapter 3: AddVessel, the program. -/
namespace Go.Proofs.YtliebicnejbheabGreatDoor
open Go.RowKit Go.PlainAid Go.Sort

theorem own_below' {w w' : World} {base : Nat} {e : TypeId} {size n : Nat} {v : Value} {xs : List Value} (h : w.ownsRow base e size v n xs) (hb : Below w.heap.size w w') : w'.ownsRow base e size v n xs :=
  h.kept (grownBelow hb none) (by cases v.ownBlock <;> simp)
theorem heap_keepVa {w : World} {g : Nat} {x : Obj} (h : w.heap[g]? = some x) (o : Obj) : (w.alloc o).heap[g]? = some x := (heap_alloc_old w o (Array.getElem?_eq_some_iff.1 h).1).trans h
theorem has_row {w : World} {g : Nat} {xs : List Value} {t : TypeId} (h : w.heap[g]? = some (.cells xs.toArray t (0, 0))) : Has w w.heap.size (some ⟨g, 0, none⟩) xs := by
  intro k u hu
  refine ⟨_, rfl, (Array.getElem?_eq_some_iff.1 h).1, ?_⟩
  have := cell_of_row w g k _ _ _ h
  have e : (⟨g, 0, none⟩ : Addr).add k = ⟨g, k, none⟩ := by
    unfold Addr.add
    split
    · next h0 => subst h0; rfl
    · simp
  rw [e, this]
  simpa using hu

set_option maxHeartbeats 1000000 in
/-- The three parts put together. -/
theorem cat3 {w : World} {B : Nat} {a : Addr} {n c p : Nat} {vs : List Ves} (h : IsVs w B (some a) n vs) (hm : n ≤ 1048576) (hp : p ≤ n) (hc : n ≤ c) {a23 : Addr} (h23 : (if c = p then some a else some (a.add (p * 6))) = some a23) (v : Ves) (g g0 : Nat)
    (h1 : w.heap[g]? = some (.cells #[.slice (some a) p c, .slice (some ⟨g0, 0, none⟩) 1 1, .slice (some a23) (n - p) (c - p)] 33 (0, 0))) (h2 : w.heap[g0]? = some (.cells #[.int .i64 v.id, .string v.name, .int .i64 v.len, .int .i64 v.wid, .int .i64 v.dr, .int .i64 v.kind] 25 (0, 0))) :
    Calls Tryz.prog 41 #[.slice (some ⟨g, 0, none⟩) 3 3] w fun e w' => ∃ A c9, e = .returned (.slice A (n + 1) c9) ∧ w'.ownsRow w.heap.size 25 6 (.slice A (n + 1) c9) (n + 1) (flatV (ins vs p v)) ∧ Below w.heap.size w w' := by
  have hl := h.len
  have hs := h.has.more h.low
  rw [flatV_split vs p] at hs
  have hf := hs.front
  have hbk := hs.back
  have e1 : (flatV (vs.take p)).length = p * 6 := by rw [flatV_len, List.length_take]; omega
  have e2 : (flatV (vs.drop p)).length = (n - p) * 6 := by rw [flatV_len, List.length_drop]; omega
  rw [e1] at hbk
  have hb23 : Has w w.heap.size (some a23) (flatV (vs.drop p)) := by
    by_cases e : c = p
    · have : vs.drop p = [] := List.drop_eq_nil_of_le (by omega)
      rw [this]
      exact Has.nil _ _ _
    · rw [if_neg e] at h23
      injection h23 with h23
      rw [← h23]
      exact hbk
  have hv : Has w w.heap.size (some ⟨g0, 0, none⟩) (flatV [v]) := has_row (xs := flatV [v]) h2
  have hT : total [⟨a, p, c, flatV (vs.take p)⟩, ⟨⟨g0, 0, none⟩, 1, 1, flatV [v]⟩, ⟨a23, n - p, c - p, flatV (vs.drop p)⟩] = n + 1 := by simp only [total]; omega
  have hA : allOf [⟨a, p, c, flatV (vs.take p)⟩, ⟨⟨g0, 0, none⟩, 1, 1, flatV [v]⟩, ⟨a23, n - p, c - p, flatV (vs.drop p)⟩] = flatV (ins vs p v) := by
    simp only [allOf, List.append_nil]
    exact ins_flat vs p v
  refine (catV [⟨a, p, c, flatV (vs.take p)⟩, ⟨⟨g0, 0, none⟩, 1, 1, flatV [v]⟩, ⟨a23, n - p, c - p, flatV (vs.drop p)⟩] ⟨g, 0, none⟩ 3 3 w.heap.size w rfl (by omega) (Nat.le_refl _) (has_row (xs := [.slice (some a) p c, .slice (some ⟨g0, 0, none⟩) 1 1, .slice (some a23) (n - p) (c - p)]) h1) ?_ (by rw [hT]; omega)).mono ?_
  · refine List.forall_mem_cons.2 ⟨⟨e1, by show p ≤ 2000000; omega, flatV_one _, hf⟩, List.forall_mem_cons.2 ⟨⟨rfl, by show 1 ≤ 2000000; omega, flatV_one _, hv⟩, List.forall_mem_cons.2 ⟨⟨e2, by show n - p ≤ 2000000; omega, flatV_one _, hb23⟩, by simp⟩⟩⟩
  · rintro e w' ⟨v', rfl, ho, hb⟩
    rw [hT, hA] at ho
    obtain ⟨A, c9, rfl⟩ := own_form ho
    exact ⟨A, c9, rfl, ho, hb⟩

set_option maxRecDepth 100000 in
set_option maxHeartbeats 8000000 in
theorem implAdd_any {w : World} {B : Nat} {a : Addr} {n : Nat} {vs : List Ves} (c : Nat) (h : IsVs w B (some a) n vs) (hm : n ≤ 1048576) (hc : n ≤ c) (i : Int) (s : ByteArray) (l b d q : Int) (hs : s.size ≤ maxLen) (R : List Ves) (x : Bool) (hx : Added vs ⟨i, s, l, b, d, q⟩ R x) :
    Calls Tryz.prog 13 #[.slice (some a) n c, .agg #[.int .i64 i, .string s, .int .i64 l, .int .i64 b, .int .i64 d, .int .i64 q]] w (GivesVs w R x) := by
  have C2 := Lib.hid (fun W (hb : Below w.heap.size w W) => placeOfId_any (some a) n c B vs i W h.len hm (by have := h.low; have := hb.size; omega) (h.has.below (hb.mono h.low)))
  have HI := Lib.hid h
  have HX := Lib.hid hx
  have HNS := Lib.hid (fun p => ins_names (p := p) (v := ⟨i, s, l, b, d, q⟩) h.nm hs)

  clear hx h hs
  go_enter Tryz.func13, Tryz.ntmps13
  go_wp2_with fail
  have hb0 := (Below.refl w.heap.size w).alloc (Nat.le_refl _) (.cells #[.int .i64 i, .string s, .int .i64 l, .int .i64 b, .int .i64 d, .int .i64 q] 25)
  refine (C2.out _ hb0).mono ?_
  rintro e w2 ⟨p, y, hso, rfl, hb⟩
  have c0 : w2.cell? ⟨w.heap.size, 0, none⟩ = some (.int .i64 i) := (hb.cell (by simp)).trans (by rw [vNew]; rfl)
  have c1 : w2.cell? ⟨w.heap.size, 1, none⟩ = some (.string s) := (hb.cell (by simp)).trans (by rw [vNew]; rfl)
  have c2 : w2.cell? ⟨w.heap.size, 2, none⟩ = some (.int .i64 l) := (hb.cell (by simp)).trans (by rw [vNew]; rfl)
  have c3 : w2.cell? ⟨w.heap.size, 3, none⟩ = some (.int .i64 b) := (hb.cell (by simp)).trans (by rw [vNew]; rfl)
  have c4 : w2.cell? ⟨w.heap.size, 4, none⟩ = some (.int .i64 d) := (hb.cell (by simp)).trans (by rw [vNew]; rfl)
  have c5 : w2.cell? ⟨w.heap.size, 5, none⟩ = some (.int .i64 q) := (hb.cell (by simp)).trans (by rw [vNew]; rfl)
  have B2 := Lib.hid (hb0.trans (hb.mono hb0.size))
  have hpn : p ≤ n := by have := hso.1; rw [HI.out.len] at this; exact this
  have HSO := Lib.hid hso
  obtain ⟨a23, ha23⟩ : ∃ x, (if c = p then some a else some (a.add (p * 6))) = some x := by
    by_cases e : c = p
    · exact ⟨a, if_pos e⟩
    · exact ⟨_, if_neg e⟩
  have HA23 := Lib.hid ha23
  clear ha23
  have CAT := Lib.hid (fun W (hW : Below w2.heap.size w2 W) g g0 h1 h2 => cat3 (c := c) (p := p) (HI.out.below (B2.out.trans (hW.mono B2.out.size)) HI.out.low) hm hpn hc HA23.out ⟨i, s, l, b, d, q⟩ g g0 h1 h2)
  have hp0 : (0 : Int) ≤ (p : Int) := by omega
  have hp1 : (p : Int) ≤ (n : Int) := by omega
  have hp2 : (p : Int) ≤ (c : Int) := by omega
  have hn1 : (n : Int) ≤ (c : Int) := by omega
  clear hb hb0 hso C2
  go_wp2_with fail
  refine region_inv (by kernel_rfl) (by kernel_rfl) (fun F ac W => ∃ (x16 x17 x18 x19 x20 x21 x22 x23 x24 x25 x8 : Value), ac = { tmps := #[.slice (some a) n c, .agg #[.int .i64 i, .string s, .int .i64 l, .int .i64 b, .int .i64 d, .int .i64 q], undef, .pointer (some ⟨w.heap.size, 0, none⟩), .slice none 0 0, .bool false, .int .i64 (p : Int), .bool y, x8, .tuple #[.int .i64 (p : Int), .bool y], .slice (some a) n c, .pointer (some ⟨w.heap.size, 0, none⟩), .int .i64 i, .tuple #[.int .i64 (p : Int), .bool y], .int .i64 (p : Int), .bool y, x16, x17, x18, x19, x20, x21, x22, x23, x24, x25, undef, undef, undef, undef, undef], defers := [] } ∧ Below w2.heap.size w2 W ∧
    (F 0 = true → x16 = .slice (some a) n c) ∧
    (F 1 = true → x17 = .int .i64 (p : Int)) ∧
    (F 2 = true → x18 = .slice (some a) p c) ∧
    (F 3 = true → x19 = .agg #[.int .i64 i, .string s, .int .i64 l, .int .i64 b, .int .i64 d, .int .i64 q]) ∧
    (F 4 = true → ∃ g, x20 = .slice (some ⟨g, 0, none⟩) 1 1 ∧ W.heap[g]? = some (.cells #[.int .i64 i, .string s, .int .i64 l, .int .i64 b, .int .i64 d, .int .i64 q] 25 (0, 0))) ∧
    (F 5 = true → x21 = .slice (some a) n c) ∧
    (F 6 = true → x22 = .int .i64 (p : Int)) ∧
    (F 7 = true → x23 = .slice (some a23) (n - p) (c - p)) ∧
    (F 8 = true → ∃ g g0, x24 = .slice (some ⟨g, 0, none⟩) 3 3 ∧ W.heap[g]? = some (.cells #[.slice (some a) p c, .slice (some ⟨g0, 0, none⟩) 1 1, .slice (some a23) (n - p) (c - p)] 33 (0, 0)) ∧ W.heap[g0]? = some (.cells #[.int .i64 i, .string s, .int .i64 l, .int .i64 b, .int .i64 d, .int .i64 q] 25 (0, 0))) ∧
    (F 9 = true → ∃ A c9, x25 = .slice A (n + 1) c9 ∧ W.ownsRow w2.heap.size 25 6 (.slice A (n + 1) c9) (n + 1) (flatV (ins vs p ⟨i, s, l, b, d, q⟩))) ∧
    (F 10 = true → ∃ A c9, x8 = .slice A (n + 1) c9 ∧ W.ownsRow w2.heap.size 25 6 (.slice A (n + 1) c9) (n + 1) (flatV (ins vs p ⟨i, s, l, b, d, q⟩)))) ?_ ?_ ?_
  · exact ⟨_, _, _, _, _, _, _, _, _, _, _, rfl, (Drawn.one w2 1).below _, (fun q0 => nomatch q0), (fun q0 => nomatch q0), (fun q0 => nomatch q0), (fun q0 => nomatch q0), (fun q0 => nomatch q0), (fun q0 => nomatch q0), (fun q0 => nomatch q0), (fun q0 => nomatch q0), (fun q0 => nomatch q0), (fun q0 => nomatch q0), (fun q0 => nomatch q0)⟩
  · intro F ac W i9 o hJ ho hL hdep K' hK
    obtain ⟨x16, x17, x18, x19, x20, x21, x22, x23, x24, x25, x8, rfl, hB, h0, h1, h2, h3, h4, h5, h6, h7, h8, h9, h10⟩ := hJ
    have hi9 : i9 < 11 := by simpa using (Array.getElem?_eq_some_iff.1 ho).1
    have C0 : W.cell? ⟨w.heap.size, 0, none⟩ = some (.int .i64 i) := (hB.cell (World.block_lt_of_cell? w2 _ c0)).trans c0
    have C1 : W.cell? ⟨w.heap.size, 1, none⟩ = some (.string s) := (hB.cell (World.block_lt_of_cell? w2 _ c1)).trans c1
    have C2 : W.cell? ⟨w.heap.size, 2, none⟩ = some (.int .i64 l) := (hB.cell (World.block_lt_of_cell? w2 _ c2)).trans c2
    have C3 : W.cell? ⟨w.heap.size, 3, none⟩ = some (.int .i64 b) := (hB.cell (World.block_lt_of_cell? w2 _ c3)).trans c3
    have C4 : W.cell? ⟨w.heap.size, 4, none⟩ = some (.int .i64 d) := (hB.cell (World.block_lt_of_cell? w2 _ c4)).trans c4
    have C5 : W.cell? ⟨w.heap.size, 5, none⟩ = some (.int .i64 q) := (hB.cell (World.block_lt_of_cell? w2 _ c5)).trans c5
    obtain rfl | rfl | rfl | rfl | rfl | rfl | rfl | rfl | rfl | rfl | rfl : i9 = 0 ∨ i9 = 1 ∨ i9 = 2 ∨ i9 = 3 ∨ i9 = 4 ∨ i9 = 5 ∨ i9 = 6 ∨ i9 = 7 ∨ i9 = 8 ∨ i9 = 9 ∨ i9 = 10 := by omega
    · -- operation 0
      cases ho
      go_simp
      exact hK _ _ ⟨_, _, _, _, _, _, _, _, _, _, _, rfl, hB, fun _ => rfl, h1, h2, h3, h4, h5, h6, h7, h8, h9, h10⟩
    · -- operation 1
      cases ho
      go_simp
      exact hK _ _ ⟨_, _, _, _, _, _, _, _, _, _, _, rfl, hB, h0, fun _ => rfl, h2, h3, h4, h5, h6, h7, h8, h9, h10⟩
    · -- operation 2
      cases ho
      obtain rfl := h0 (hdep ⟨0, .data⟩ (by simp) rfl)
      obtain rfl := h1 (hdep ⟨1, .data⟩ (by simp) rfl)
      go_simp
      exact hK _ _ ⟨_, _, _, _, _, _, _, _, _, _, _, rfl, hB, h0, h1, fun _ => rfl, h3, h4, h5, h6, h7, h8, h9, h10⟩
    · -- operation 3
      cases ho
      go_simp
      exact hK _ _ ⟨_, _, _, _, _, _, _, _, _, _, _, rfl, hB, h0, h1, h2, fun _ => rfl, h4, h5, h6, h7, h8, h9, h10⟩
    · -- operation 4
      cases ho
      obtain rfl := h3 (hdep ⟨3, .data⟩ (by simp) rfl)
      go_simp
      exact hK _ _ ⟨_, _, _, _, _, _, _, _, _, _, _, rfl, hB.alloc hB.size _, h0, h1, h2, h3, fun _ => ⟨_, rfl, heap_alloc_new W _⟩, h5, h6, h7, fun q0 => let ⟨g, g0, e, hp, hp2⟩ := h8 q0; ⟨g, g0, e, heap_keepVa hp _, heap_keepVa hp2 _⟩, fun q0 => let ⟨A, c9, e, o⟩ := h9 q0; ⟨A, c9, e, o.alloc _⟩, fun q0 => let ⟨A, c9, e, o⟩ := h10 q0; ⟨A, c9, e, o.alloc _⟩⟩
    · -- operation 5
      cases ho
      go_simp
      exact hK _ _ ⟨_, _, _, _, _, _, _, _, _, _, _, rfl, hB, h0, h1, h2, h3, h4, fun _ => rfl, h6, h7, h8, h9, h10⟩
    · -- operation 6
      cases ho
      go_simp
      exact hK _ _ ⟨_, _, _, _, _, _, _, _, _, _, _, rfl, hB, h0, h1, h2, h3, h4, h5, fun _ => rfl, h7, h8, h9, h10⟩
    · -- operation 7
      cases ho
      obtain rfl := h5 (hdep ⟨5, .data⟩ (by simp) rfl)
      obtain rfl := h6 (hdep ⟨6, .data⟩ (by simp) rfl)
      go_simp
      exact hK _ _ ⟨_, _, _, _, _, _, _, _, _, _, _, rfl, hB, h0, h1, h2, h3, h4, h5, h6, fun _ => (by rw [HA23.out]), h8, h9, h10⟩
    · -- operation 8
      cases ho
      obtain rfl := h2 (hdep ⟨2, .data⟩ (by simp) rfl)
      have hd4 := hdep ⟨4, .data⟩ (by simp) rfl
      obtain ⟨g4, rfl, hp4⟩ := h4 hd4
      obtain rfl := h7 (hdep ⟨7, .data⟩ (by simp) rfl)
      go_simp
      exact hK _ _ ⟨_, _, _, _, _, _, _, _, _, _, _, rfl, hB.alloc hB.size _, h0, h1, fun _ => rfl, h3, fun _ => ⟨_, rfl, heap_keepVa hp4 _⟩, h5, h6, fun _ => rfl, fun _ => ⟨_, _, rfl, heap_alloc_new W _, heap_keepVa hp4 _⟩, fun q0 => let ⟨A, c9, e, o⟩ := h9 q0; ⟨A, c9, e, o.alloc _⟩, fun q0 => let ⟨A, c9, e, o⟩ := h10 q0; ⟨A, c9, e, o.alloc _⟩⟩
    · -- operation 9
      cases ho
      have hd8 := hdep ⟨8, .data⟩ (by simp) rfl
      obtain ⟨g, g0, rfl, hp, hp2⟩ := h8 hd8
      go_simp
      refine (CAT.out W (hB.mono (Nat.le_refl _)) g g0 hp hp2).mono ?_
      rintro e w9 ⟨A, c9, rfl, hown, hb9⟩
      exact hK _ _ ⟨_, _, _, _, _, _, _, _, _, _, _, rfl, hB.trans (hb9.mono hB.size), h0, h1, h2, h3, fun q0 => let ⟨g, e, hp⟩ := h4 q0; ⟨g, e, (hb9.block g (Array.getElem?_eq_some_iff.1 hp).1).trans hp⟩, h5, h6, h7, fun _ => ⟨_, _, rfl, (hb9.block g (Array.getElem?_eq_some_iff.1 hp).1).trans hp, (hb9.block g0 (Array.getElem?_eq_some_iff.1 hp2).1).trans hp2⟩, fun _ => ⟨_, _, rfl, own_low hown hB.size⟩, fun q0 => let ⟨A, c9, e, o⟩ := h10 q0; ⟨A, c9, e, own_below' o hb9⟩⟩
    · -- operation 10
      cases ho
      have hd9 := hdep ⟨9, .data⟩ (by simp) rfl
      obtain ⟨A, c9, rfl, o⟩ := h9 hd9
      go_simp
      exact hK _ _ ⟨_, _, _, _, _, _, _, _, _, _, _, rfl, hB, h0, h1, h2, h3, h4, h5, h6, h7, h8, fun _ => ⟨_, _, rfl, o⟩, fun _ => ⟨_, _, rfl, o⟩⟩
  intro F ac W hJ hall
  obtain ⟨x16, x17, x18, x19, x20, x21, x22, x23, x24, x25, x8, rfl, hB, h0, h1, h2, h3, h4, h5, h6, h7, h8, h9, h10⟩ := hJ
  obtain ⟨A, c9, rfl, hown⟩ := h10 (hall 10 (by decide))
  have B3 := Lib.hid (B2.out.trans (hB.mono B2.out.size))
  obtain ⟨gA, cap, e9, hgA⟩ := own_some hown (by
    rcases hown.2 with ⟨e, e2⟩ | ⟨g, cap, cur, e, -⟩
    · exact absurd e2 (by omega)
    · rw [e]; exact fun e => nomatch e)
  injection e9 with e9 e10 e11
  subst e9 e11
  have hcc : n + 1 ≤ c9 := by
    rcases hown.2 with ⟨e, -⟩ | ⟨g, cap, cur, e, -, -, h1, -⟩
    · cases e
    · injection e with e1 e2 e3; omega
  have HO := Lib.hid (own_low hown B2.out.size)
  have hgw : w.heap.size ≤ gA := Nat.le_trans B2.out.size hgA
  have I3 := Lib.hid (own_vs HO.out (HNS.out p))
  clear hB hown h0 h1 h2 h3 h4 h5 h6 h7 h8 h9 h10 hall c0 c1 c2 c3 c4 c5
  go_wp2_with fail
  refine (isFleet_vs c9 I3.out (by unfold maxLen; omega) hcc).mono ?_
  rintro e w5 ⟨rfl, hb⟩
  have B5 := Lib.hid (B3.out.trans (hb.mono B3.out.size))
  have HO5 := Lib.hid (HO.out.kept (grownBelow hb none) (.inr (by simp [Value.ownBlock])))
  clear hb
  cases hg : gF (ins vs p ⟨i, s, l, b, d, q⟩) with
  | false =>
    obtain ⟨rfl, rfl⟩ := HX.out.at HSO.out.1 HSO.out.2.1 hg
    have HR := Lib.hid (givesVs_nil B5.out)
    clear HX HI HSO HNS CAT I3 HO HO5 hg
    go_wp2_with fail
    refine bodyPost_ret (results_tmp2 rfl _ _ _) rfl ?_
    exact HR.out
  | true =>
    obtain ⟨hR, rfl⟩ := HX.out.yes p HSO.out.1 hg
    have HRn : Hid (R.length = n + 1) := Lib.hid (by rw [hR, ins_len HSO.out.1, HI.out.len])
    have HR : Hid (GivesVs w R true (.returned (.tuple #[.slice (some ⟨gA, 0, none⟩) (n + 1) c9, .bool true])) w5) := Lib.hid (by
      rw [← HRn.out]
      refine ⟨gA, c9, rfl, hgw, ?_, B5.out⟩
      rw [HRn.out, hR]
      exact HO5.out)
    clear HX HI HSO HNS CAT I3 HO HO5 hg hR
    go_wp2_with fail
    refine bodyPost_ret (results_tmp2 rfl _ _ _) rfl ?_
    exact HR.out
end Go.Proofs.YtliebicnejbheabGreatDoor
