/- Texts that are joined: DrC. -/
import Derived.Test.YtliebicnejbheabGreatDoorMg04
import Derived.Test.YtliebicnejbheabGreatDoorMg14
/- The draws of chapter 3: vessels. -/
namespace Go.Proofs.YtliebicnejbheabGreatDoor
open Go.RowKit Go.PlainAid Go.Sort
set_option linter.unusedVariables false
set_option linter.unusedSimpArgs false

/-- Vessels in a row of one's own. -/
def OwnVs (w W : World) (g1 q c1 : Nat) : Prop := ∃ vs : List Ves, w.heap.size ≤ g1 ∧ W.ownsRow w.heap.size 25 6 (.slice (some ⟨g1, 0, none⟩) q c1) q (flatV vs) ∧ ∀ v ∈ vs, v.name.size ≤ maxLen
theorem OwnVs.kept {w W W' : World} {g1 q c1 : Nat} {g : Nat} (h : OwnVs w W g1 q c1) (hg : W.grownBy W' (some g)) (hgw : g < w.heap.size) : OwnVs w W' g1 q c1 := by
  obtain ⟨vs, h1, h2, h3⟩ := h
  exact ⟨vs, h1, h2.kept hg (.inr (by simp [Value.ownBlock]; omega)), h3⟩
theorem OwnVs.on {w W W' : World} {g1 q c1 : Nat} (h : OwnVs w W g1 q c1) (hb : Below W.heap.size W W') : OwnVs w W' g1 q c1 := by
  obtain ⟨vs, h1, h2, h3⟩ := h
  exact ⟨vs, h1, h2.kept (grownBelow hb none) (.inr (by simp [Value.ownBlock])), h3⟩
theorem OwnVs.g {w W : World} {g1 q c1 : Nat} (h : OwnVs w W g1 q c1) : w.heap.size ≤ g1 := by
  obtain ⟨vs, h1, -⟩ := h
  exact h1
theorem OwnVs.isV {w W : World} {g1 q c1 : Nat} (h : OwnVs w W g1 q c1) : q ≤ c1 ∧ ∃ vs, IsVs W W.heap.size (some ⟨g1, 0, none⟩) q vs := by
  obtain ⟨vs, h1, h2, h3⟩ := h
  refine ⟨?_, vs, own_vs h2 h3⟩
  rcases h2.2 with ⟨e, -⟩ | ⟨g', cap, cur, e, -, -, h4, -⟩
  · cases e
  · injection e with e1 e2 e3
    omega
theorem added_names {vs : List Ves} {v : Ves} {R : List Ves} {x : Bool} (h : Added vs v R x) (h1 : ∀ u ∈ vs, u.name.size ≤ maxLen) (h2 : v.name.size ≤ maxLen) : ∀ u ∈ R, u.name.size ≤ maxLen := by
  by_cases g : ∀ p, p ≤ vs.length → gF (ins vs p v) = false
  · obtain ⟨rfl, -⟩ := h.no g
    intro u hu
    cases hu
  · simp only [Classical.not_forall] at g
    obtain ⟨p, hp, g⟩ := g
    obtain ⟨rfl, -⟩ := h.yes p hp (by simpa using g)
    exact ins_names h1 h2
/-- One more vessel for a drawn list. -/
theorem addS_at {w W : World} {g1 q c1 : Nat} (h : OwnVs w W g1 q c1) (hq : q ≤ 9) (hw : w.heap.size ≤ W.heap.size) (i : Int) (s : ByteArray) (l b d k : Int) (hs : s.size ≤ 16) :
    Calls Tryz.prog 14 #[.slice (some ⟨g1, 0, none⟩) q c1, .agg #[.int .i64 i, .string s, .int .i64 l, .int .i64 b, .int .i64 d, .int .i64 k]] W fun e W' => ∃ g2 q2 c2 x, e = .returned (.tuple #[.slice (some ⟨g2, 0, none⟩) q2 c2, .bool x]) ∧ q2 ≤ 9 ∧ OwnVs w W' g2 q2 c2 ∧ Below W.heap.size W W' := by
  obtain ⟨hqc, -, -⟩ := h.isV
  obtain ⟨vs, h1, h2, h3⟩ := h
  have hv := own_vs h2 h3
  have hs' : s.size ≤ maxLen := by unfold maxLen; omega
  obtain ⟨R, x, hR, hx⟩ := added_ex vs ⟨i, s, l, b, d, k⟩
  refine (specAdd_any c1 hv (by omega) hqc i s l b d k hs' R x hx).mono ?_
  rintro e W' ⟨g2, c2, rfl, hg2, ho, hb⟩
  exact ⟨g2, R.length, c2, x, rfl, hR, ⟨R, by omega, own_low ho hw, added_names hx h3 hs'⟩, hb⟩
/-- The name of one byte. -/
def oneB (q : Nat) : ByteArray := ⟨#[UInt8.ofNat (97 + q)]⟩
theorem run_one {P : Program} (src dst e : TypeId) (hs : P.underlying src = some (.slice e)) (he : P.underlying e = some (.int .u8)) (hd : P.underlying dst = some .string) (q : Nat) (hq : q ≤ 9) (wr : World) :
    (convert src dst (.slice (some ⟨wr.heap.size, 0, none⟩) 1 1)).run P (wr.alloc (.cells #[.int .u8 (97 + (q : Int))] e)) = .ok (.string (oneB q)) (wr.alloc (.cells #[.int .u8 (97 + (q : Int))] e)) := by
  have hb : (((UInt8.ofNat (97 + q)).toNat : Nat) : Int) = 97 + (q : Int) := by
    rw [UInt8.toNat_ofNat']; omega
  have := run_convert_bytes_back (P := P) (wr.alloc (.cells #[.int .u8 (97 + (q : Int))] e)) src dst e ⟨wr.heap.size, 0, none⟩ 1 [UInt8.ofNat (97 + q)] hs he hd (fun j hj => by
    have : j = 0 := by simpa using hj
    subst this
    simp only [List.getElem_cons_zero, hb]
    simp [Addr.add])
  exact this
theorem cell_six6 (w : World) (cs : Array Value) (t : TypeId) : ∀ j u, cs.toList[j]? = some u → (w.alloc (.cells cs t)).cell? ((⟨w.heap.size, 0, none⟩ : Addr).add j) = some u := by
  intro j u h
  rw [show (⟨w.heap.size, 0, none⟩ : Addr).add j = ⟨w.heap.size, j, none⟩ from (by unfold Addr.add; split <;> simp_all)]
  rw [vNew, ← Array.getElem?_toList]
  exact h
theorem cell_two_six6 (w : World) (o : Obj) (cs : Array Value) (t : TypeId) : ∀ j u, cs.toList[j]? = some u → ((w.alloc o).alloc (.cells cs t)).cell? ((⟨w.heap.size + 1, 0, none⟩ : Addr).add j) = some u := by
  intro j u h
  have := cell_six6 (w.alloc o) cs t j u h
  simpa using this
theorem name_one {vs : List Ves} {i : Int} {s : ByteArray} {l b d k : Int} (h : ∀ v ∈ vs, v.name.size ≤ maxLen) (hs : s.size ≤ maxLen) : ∀ v ∈ vs ++ [⟨i, s, l, b, d, k⟩], v.name.size ≤ maxLen := by
  intro v hv
  rcases List.mem_append.1 hv with h1 | h1
  · exact h v h1
  · simp only [List.mem_cons, List.not_mem_nil, or_false] at h1
    subst h1
    exact hs
set_option maxRecDepth 100000 in
set_option maxHeartbeats 4000000 in
theorem vessels_at {g : Nat} {A : Option Addr} {n c : Nat} {p : Int} {zs : List Int} {B : Nat} {w : World} (h : CurAt w g A n c p zs B) (hp : p ≤ 800000000) (m : Nat) (hm : m ≤ 8) :
    Calls Tryz.prog 39 #[.pointer (some ⟨g, 0, none⟩), .int .i64 m] w fun e w' => ∃ g1 q c1, e = .returned (.slice (some ⟨g1, 0, none⟩) q c1) ∧ q ≤ 10 ∧ OwnVs w w' g1 q c1 ∧ CurStep w w' g A n c p 600 := by
  obtain ⟨i0, hi, hz0, hz1, hz2⟩ := info_parts Tryz.infoVes'
  have H := Lib.hid h
  have hgl := h.lt
  have hp0 := h.p0
  have S1 := Lib.hid ((CurStep.refl h.cur).alloc (.cells #[] 25))
  have O1 : Hid (OwnVs w (w.alloc (.cells #[] 25)) w.heap.size 0 0) := Lib.hid ⟨[], Nat.le_refl _, World.ownsRow_made w #[] 0 (Nat.le_refl _) (by unfold maxLen; omega) rfl, fun v hv => by cases hv⟩
  clear h
  go_enter Tryz.func39, Tryz.ntmps39
  go_wp2_with fail
  obtain ⟨W1, hW1⟩ : ∃ x, w.alloc (.cells #[] 25) = x := ⟨_, rfl⟩
  have hw1 : w.heap.size ≤ W1.heap.size := by rw [← hW1]; simp
  rw [hW1] at S1 O1
  try simp only [hW1]
  obtain ⟨r5, r50, r51, H5⟩ := S1.out.at H.out
  refine (pick_at H5 (by omega) ((m : Int) + 1) (by omega)).mono ?_
  rintro e w6 ⟨b6, b60, b61, rfl, hs⟩
  obtain ⟨k6, rfl⟩ : ∃ k : Nat, b6 = (k : Int) := ⟨b6.toNat, by omega⟩
  have hk6 : k6 ≤ m := by omega
  have S6 := Lib.hid ((S1.out.then hs r50 r51).mono (d' := 10 + 30 * ((m : Int) - (k6 : Int))) (by omega))
  have O6 := Lib.hid (O1.out.kept hs.grown hgl)
  clear hs S1 O1 H5 r50 r51 b60 b61 hw1 hW1
  go_wp2_with fail
  go_loopw [5, 6, 7, 8] (fun v i a b wr => ∃ (k q g1 c1 : Nat), k ≤ m ∧ i = .int .i64 k ∧ v = .slice (some ⟨g1, 0, none⟩) q c1 ∧ q ≤ 9 ∧ Hid (OwnVs w wr g1 q c1) ∧ Hid (CurStep w wr g A n c p (10 + 30 * ((m : Int) - (k : Int))))) (fun _ i _ _ _ => (intOf i).toNat)
  case atStart => exact ⟨k6, 0, _, 0, hk6, rfl, rfl, by omega, O6, S6⟩
  case round =>
    clear O6 S6 hk6
    obtain ⟨k, q, g1, c1, hk, rfl, rfl, hq, O6, S6⟩ := hrel
    have hgg := O6.out.g
    by_cases hlt : 0 < (k : Int)
    · obtain ⟨k, rfl⟩ : ∃ j, k = j + 1 := ⟨k - 1, by omega⟩
      obtain ⟨r5, r50, r51, H5⟩ := S6.out.at H.out
      go_wp2_with fail
      refine (vessel_at H5 (by push_cast at r51; omega)).mono ?_
      rintro e w7 ⟨vi, vs, vl, vb, vd, vk, hvs, rfl, hs⟩
      have S7 := Lib.hid (S6.out.then hs r50 r51)
      have O7 := Lib.hid (O6.out.kept hs.grown hgl)
      have hsz := S7.out.grown.size
      have CA := Lib.hid (addS_at O7.out hq hsz vi vs vl vb vd vk hvs)
      clear hs S6 O6 H5 r50 r51 hsz
      go_wp2_with fail
      refine CA.out.mono ?_
      rintro e w8 ⟨g2, q2, c2, x, rfl, hq2, ho, hb⟩
      have S8 := Lib.hid (S7.out.on hb)
      have OA := Lib.hid ho
      have OB := Lib.hid (O7.out.on hb)
      clear hb ho S7 O7 CA
      cases x with
      | true =>
        go_wp2_with fail
        go_roundw
        case rel => exact ⟨k, q2, g2, c2, by omega, by go_num, rfl, hq2, OA, Lib.hid (S8.out.mono (by push_cast; omega))⟩
        case measure => simp [intOf]
      | false =>
        go_wp2_with fail
        go_roundw
        case rel => exact ⟨k, q, g1, c1, by omega, by go_num, rfl, hq, OB, Lib.hid (S8.out.mono (by push_cast; omega))⟩
        case measure => simp [intOf]
    · obtain rfl : k = 0 := by omega
      have SR := Lib.hid (S6.out.mono (d' := 260) (by omega))
      have OR := O6
      clear S6 O6 hlt
      go_wp2_with fail
      obtain ⟨r5, r50, r51, H5⟩ := SR.out.at H.out
      refine (pick_at H5 (by omega) 30 (by omega)).mono ?_
      rintro e w8 ⟨b8, b80, b81, rfl, hs⟩
      have S8 := Lib.hid (SR.out.then hs r50 r51)
      have O8 := Lib.hid (OR.out.kept hs.grown hgl)
      clear hs SR OR H5 r50 r51
      by_cases h0 : b8 = 0
      · subst h0
        obtain ⟨r5, r50, r51, H5⟩ := S8.out.at H.out
        go_wp2_with fail
        refine (vessel_at H5 (by omega)).mono ?_
        rintro e w7 ⟨vi, vs, vl, vb, vd, vk, hvs, rfl, hs⟩
        have S7 := Lib.hid (S8.out.then hs r50 r51)
        have O7 := Lib.hid (O8.out.kept hs.grown hgl)
        obtain ⟨L7, hg7, ho7, hn7⟩ := O7.out
        have hne7 : g1 ≠ g := by omega
        clear hs S8 O8 O7 H5 r50 r51
        go_wp2_with (at_builtin; refine wpList_append_own _ rfl (.tmp 32) (.tmp 35) 33 rfl w.heap.size 25 i0 (.agg #[.int .i64 0, .string ByteArray.empty, .int .i64 0, .int .i64 0, .int .i64 0, .int .i64 0]) 6 56 Tryz.underlying33 hi hz0 hz1 hz2 rfl (by decide) (.slice (some ⟨g1, 0, none⟩) q c1) q _ rfl (ho7.alloc _) ⟨w7.heap.size, 0, none⟩ 1 1 [.int .i64 vi, .string vs, .int .i64 vl, .int .i64 vb, .int .i64 vd, .int .i64 vk] rfl rfl (cell_six6 _ _ _) (by simp [Value.oneCell']) (by unfold maxLen; omega) (by omega) (by have := S7.out.grown.size; simp; omega) ?_; intro v1 w1 hown1 hgrow1 hnil1; obtain ⟨g2, c2, rfl, hg2⟩ := own_some hown1 (fun e => nomatch (hnil1.1 e).1); have S9 := Lib.hid ((S7.out.alloc (.cells #[.int .i64 vi, .string vs, .int .i64 vl, .int .i64 vb, .int .i64 vd, .int .i64 vk] 25)).own hgrow1 hg7 hne7); have O9 : Hid (OwnVs w w1 g2 (q + 1) c2) := Lib.hid ⟨L7 ++ [⟨vi, vs, vl, vb, vd, vk⟩], hg2, by rw [flatV_append]; exact hown1, name_one hn7 (by unfold maxLen; omega)⟩; clear hnil1 hgrow1 hown1)
        refine bodyPost_ret (results_tmp rfl _ _ _) rfl ?_
        exact ⟨g2, _, c2, rfl, by omega, O9.out, S9.out.mono (by omega)⟩
      · by_cases h1 : b8 = 1
        · subst h1
          have S8' := Lib.hid ((S8.out.alloc (.cells #[] 25)).mono (d' := 300 + 2 * (0 : Int)) (by omega))
          have O8' : Hid (OwnVs w (w8.alloc (.cells #[] 25)) w8.heap.size 0 0) := Lib.hid ⟨[], S8.out.grown.size, World.ownsRow_made w8 #[] 0 (S8.out.grown.size) (by unfold maxLen; omega) rfl, fun v hv => by cases hv⟩
          clear S8 O8 h0
          go_wp2_with fail
          go_loopw [5, 9] (fun v i wr => ∃ (q g1 c1 : Nat), v = .slice (some ⟨g1, 0, none⟩) q c1 ∧ i = .int .i64 q ∧ q ≤ 9 ∧ Hid (OwnVs w wr g1 q c1) ∧ Hid (CurStep w wr g A n c p (300 + 2 * (q : Int)))) (fun v _ _ => 9 - lenV v)
          case atStart => exact ⟨0, w8.heap.size, 0, rfl, rfl, by omega, O8', S8'⟩
          case round =>
            clear O8' S8' hgg
            obtain ⟨q, g1, c1, rfl, rfl, hq61, O8, S8⟩ := hrel
            have hgg := O8.out.g
            obtain ⟨r5, r50, r51, H5⟩ := S8.out.at H.out
            go_wp2_with fail
            refine (pick_at H5 (by omega) 2 (by omega)).mono ?_
            rintro e w7 ⟨b7, b70, b71, rfl, hs⟩
            have S7 := Lib.hid (S8.out.then hs r50 r51)
            have O7 := Lib.hid (O8.out.kept hs.grown hgl)
            clear hs S8 O8 H5 r50 r51
            by_cases hlt : (q : Int) < 8 + b7
            · obtain ⟨L7, hg7, ho7, hn7⟩ := O7.out
              have hne7 : g1 ≠ g := by omega
              have hcv := run_one (P := Tryz.prog) 22 9 5 Tryz.underlying22 Tryz.underlying5 Tryz.underlying9 q hq61 w7
              have hr3 : (q : Int) % 3 ≤ 2 := by omega
              have hr4 : 0 ≤ (q : Int) % 3 := by omega
              have hon : (oneB q).size ≤ maxLen := by unfold maxLen; exact Nat.le_trans (Nat.le_refl 1) (by omega)
              clear O7
              go_wp2_with (at_builtin; refine wpList_append_own _ rfl (.tmp 47) (.tmp 59) 33 rfl w.heap.size 25 i0 (.agg #[.int .i64 0, .string ByteArray.empty, .int .i64 0, .int .i64 0, .int .i64 0, .int .i64 0]) 6 56 Tryz.underlying33 hi hz0 hz1 hz2 rfl (by decide) (.slice (some ⟨g1, 0, none⟩) q c1) q _ rfl ((ho7.alloc _).alloc _) ⟨w7.heap.size + 1, 0, none⟩ 1 1 [.int .i64 ((q : Int) + 1), .string (oneB q), .int .i64 (1 + (q : Int) % 3), .int .i64 1, .int .i64 100, .int .i64 1] rfl rfl (cell_two_six6 _ _ _ _) (by simp [Value.oneCell']) (by unfold maxLen; omega) (by omega) (by have := S7.out.grown.size; simp; omega) ?_; intro v1 w1 hown1 hgrow1 hnil1; obtain ⟨g2, c2, rfl, hg2⟩ := own_some hown1 (fun e => nomatch (hnil1.1 e).1); have S9 := Lib.hid (((S7.out.alloc (.cells #[.int .u8 (97 + (q : Int))] 5)).alloc (.cells #[.int .i64 ((q : Int) + 1), .string (oneB q), .int .i64 (1 + (q : Int) % 3), .int .i64 1, .int .i64 100, .int .i64 1] 25)).own hgrow1 hg7 hne7); have O9 : Hid (OwnVs w w1 g2 (q + 1) c2) := Lib.hid ⟨L7 ++ [⟨(q : Int) + 1, oneB q, 1 + (q : Int) % 3, 1, 100, 1⟩], hg2, by rw [flatV_append]; exact hown1, name_one hn7 hon⟩; clear hnil1 hgrow1 hown1)
              go_roundw
              case rel => exact ⟨q + 1, g2, c2, rfl, by go_num, by omega, O9, Lib.hid (S9.out.mono (by push_cast; omega))⟩
              case measure => simp [lenV]; omega
            · go_wp2_with fail
              refine bodyPost_ret (results_tmp rfl _ _ _) rfl ?_
              exact ⟨g1, q, c1, rfl, by omega, O7.out, S7.out.mono (by omega)⟩
        · have n0 : (b8 == 0) = false := by simp [h0]
          have n1 : (b8 == 1) = false := by simp [h1]
          clear h0 h1
          go_wp2_with fail
          refine bodyPost_ret (results_tmp rfl _ _ _) rfl ?_
          exact ⟨g1, q, c1, rfl, by omega, O8.out, S8.out.mono (by omega)⟩
end Go.Proofs.YtliebicnejbheabGreatDoor
