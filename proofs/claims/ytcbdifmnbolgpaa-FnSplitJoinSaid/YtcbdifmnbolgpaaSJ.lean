/- What the laws on splitting and joining draw. -/
import Derived.Test.YtcbdifmnbolgpaaDraw
import Derived.Deep.LoopGhost
namespace Go.Proofs.Ytcbdifmnbolgpaa
open Go.RowKit Go.PlainAid

/-- Below its own blocks a step of a fresh cursor turns nothing. -/
theorem below_start {w w' : World} {o : Obj} (h : (w.alloc o).grownBy w' (some w.heap.size)) : Below w.heap.size w w' :=
  ((Below.refl _ w).alloc (Nat.le_refl _) o).grown h (by simp) (fun k e => by cases e; exact Nat.le_refl _)

def sepTexts : List ByteArray := [⟨#[44]⟩, ⟨#[44]⟩, ⟨#[32]⟩, ⟨#[]⟩, ⟨#[44, 44]⟩]
theorem sepTexts_small : ∀ s ∈ sepTexts, s.size ≤ 2 := by decide +kernel
theorem sep_cells (w : World) (t : TypeId) : ∀ k (hk : k < sepTexts.length), (w.alloc (.cells #[.string ⟨#[44]⟩, .string ⟨#[44]⟩, .string ⟨#[32]⟩, .string ⟨#[]⟩, .string ⟨#[44, 44]⟩] t)).cell? ⟨w.heap.size, k, none⟩ = some (.string sepTexts[k]) := by
  intro k hk
  rw [cell_new]
  match k, hk with
  | 0, _ => rfl
  | 1, _ => rfl
  | 2, _ => rfl
  | 3, _ => rfl
  | 4, _ => rfl
def joinTexts : List ByteArray := [⟨#[44]⟩, ⟨#[59]⟩, ⟨#[59]⟩, ⟨#[]⟩, ⟨#[97, 98]⟩]
theorem joinTexts_small : ∀ s ∈ joinTexts, s.size ≤ 2 := by decide +kernel
theorem join_cells (w : World) (t : TypeId) : ∀ k (hk : k < joinTexts.length), (w.alloc (.cells #[.string ⟨#[44]⟩, .string ⟨#[59]⟩, .string ⟨#[59]⟩, .string ⟨#[]⟩, .string ⟨#[97, 98]⟩] t)).cell? ⟨w.heap.size, k, none⟩ = some (.string joinTexts[k]) := by
  intro k hk
  rw [cell_new]
  match k, hk with
  | 0, _ => rfl
  | 1, _ => rfl
  | 2, _ => rfl
  | 3, _ => rfl
  | 4, _ => rfl

set_option maxHeartbeats 1000000 in
theorem drawSplit {A : Option Addr} {n : Nat} {zs : List Int} {B : Nat} {w : World} (c : Nat) (h : Code_ w A n zs B) :
    Calls Try.prog 9 #[.slice A n c] w fun e w' => ∃ s sep : ByteArray, s.size ≤ 16 ∧ sep.size ≤ 2 ∧ e = .returned (.tuple #[.string s, .string sep]) ∧ Below w.heap.size w w' := by
  have H := Lib.hid (h.start c)
  clear h
  go_enter Try.func9, Try.ntmps9
  go_wp2_with fail
  refine (any1_at H.out (by omega)).mono ?_
  rintro e w1 ⟨s, hs, rfl, hst⟩
  obtain ⟨q, q0, q1, H1⟩ := H.out.step hst
  have H1' := Lib.hid (fun (o : Obj) => H1.kept (World.grownBy_alloc w1 o none) (by simp) (fun r e => by cases e))
  have hlt := H1.lt
  clear H1
  go_wp2_with fail
  refine (of_at (H1'.out _) (by omega) w1.heap.size 5 5 sepTexts rfl (by omega) (by omega) (sep_cells w1 _) (by omega)).mono ?_
  rintro e w2 ⟨sep, hsep, rfl, hst2⟩
  have hs2 := sepTexts_small sep hsep
  have hb := below_start (World.grownBy.trans (World.grownBy.trans hst.grown (World.grownBy_alloc w1 _ _)) hst2.grown)
  clear hst hst2 hsep
  go_wp2_with fail
  refine bodyPost_ret (results_tmp2 rfl _ _ _) rfl ?_
  exact ⟨s, sep, hs, hs2, rfl, hb⟩

set_option maxHeartbeats 1000000 in
theorem drawLess {A : Option Addr} {n : Nat} {zs : List Int} {B : Nat} {w : World} (c : Nat) (h : Code_ w A n zs B) :
    Calls Try.prog 14 #[.slice A n c] w fun e w' => ∃ s t : ByteArray, s.size ≤ 16 ∧ t.size ≤ 16 ∧ e = .returned (.tuple #[.string s, .string t]) ∧ Below w.heap.size w w' := by
  have H := Lib.hid (h.start c)
  clear h
  go_enter Try.func14, Try.ntmps14
  go_wp2_with fail
  refine (any1_at H.out (by omega)).mono ?_
  rintro e w1 ⟨s, hs, rfl, hst⟩
  obtain ⟨q, q0, q1, H1⟩ := H.out.step hst
  have H1' := Lib.hid H1
  clear H1
  go_wp2_with fail
  refine (any1_at H1'.out (by omega)).mono ?_
  rintro e w2 ⟨t, ht, rfl, hst2⟩
  have hb := below_start (World.grownBy.trans hst.grown hst2.grown)
  clear hst hst2
  go_wp2_with fail
  refine bodyPost_ret (results_tmp2 rfl _ _ _) rfl ?_
  exact ⟨s, t, hs, ht, rfl, hb⟩

/-- The call hands back a slice of its own with small strings, and a separator. -/
def GivesJoin (w : World) (e : Ending) (w' : World) : Prop :=
  ∃ (ss : List ByteArray) (sep : ByteArray) (g c : Nat), ss.length ≤ 4 ∧ (∀ s ∈ ss, s.size ≤ 4010) ∧ sep.size ≤ 2 ∧ e = .returned (.tuple #[.slice (some ⟨g, 0, none⟩) ss.length c, .string sep]) ∧
    w'.ownsRow w.heap.size 9 1 (.slice (some ⟨g, 0, none⟩) ss.length c) ss.length (ss.map .string) ∧ Below w.heap.size w w'
theorem own_base {w : World} {base base' : Nat} {e : TypeId} {size n : Nat} {v : Value} {xs : List Value} (h : w.ownsRow base e size v n xs) (hb : base' ≤ base) : w.ownsRow base' e size v n xs := by
  refine ⟨h.1, ?_⟩
  rcases h.2 with h | ⟨g, cap, cur, h1, h2, h3⟩
  · exact .inl h
  · exact .inr ⟨g, cap, cur, h1, by omega, h3⟩
theorem Try.info5'' : (Try.prog.info? 5).map (fun i => (i.zero, i.size, i.bytes)) = some (some (.int .u8 0), 1, 1) := by kernel_rfl
theorem run_zeros {P : Program} (src dst e : TypeId) (hs : P.underlying src = some (.slice e)) (he : P.underlying e = some (.int .u8)) (hd : P.underlying dst = some .string) (l : Nat) (w : World) {g : Nat} {base : Nat}
    (h : w.ownsRow base e 1 (.slice (some ⟨g, 0, none⟩) l l) l (madeCells (Value.int .u8 0).cells (l * 1)).toList) :
    (convert src dst (.slice (some ⟨g, 0, none⟩) l l)).run P w = .ok (.string ⟨(List.replicate l (0 : UInt8)).toArray⟩) w := by
  have := run_convert_bytes_back (P := P) w src dst e ⟨g, 0, none⟩ l (List.replicate l 0) hs he hd (fun j hj => h.cells (g := g) rfl j _ (by
    have hj' : j < l := by simpa using hj
    simp [madeCells, hj', Value.cells, Nat.mod_one]))
  simpa using this

set_option maxRecDepth 100000 in
set_option maxHeartbeats 2000000 in
theorem drawJoin {A : Option Addr} {n : Nat} {zs : List Int} {B : Nat} {w : World} (c : Nat) (h : Code_ w A n zs B) :
    Calls Try.prog 11 #[.slice A n c] w (GivesJoin w) := by
  have H := Lib.hid (h.start c)
  obtain ⟨i0, hi, hz0, hz1, hz2'⟩ := info_parts Try.info9'
  clear h
  go_enter Try.func11, Try.ntmps11
  go_wp2_with fail
  have H0 := Lib.hid (fun (o : Obj) => H.out.kept (World.grownBy_alloc _ o none) (by simp) (fun r e => by cases e))
  refine (pick_at (H0.out _) (by omega) 4 (by omega)).mono ?_
  rintro e w1 ⟨m, m0, m1, rfl, hst⟩
  have hm4 : m ≤ 3 := by omega
  obtain ⟨q, q0, q1, H1⟩ := (H0.out _).step hst
  have hown1 : w1.ownsRow (w.heap.size + 1) 9 1 (.slice (some ⟨w.heap.size + 1, 0, none⟩) 0 0) 0 [] := by
    have h0 := World.ownsRow_made (e := 9) (size := 1) (base := w.heap.size + 1) (w.alloc (.cells #[.slice A n c, .int .i64 0, .int .u64 0] 44)) #[] 0 (by simp) (by unfold maxLen; omega) rfl
    rw [World.size_alloc] at h0
    exact h0.kept hst.grown (.inr (by simp [Value.ownBlock]))
  have hb1 : Below w.heap.size w w1 := below_start ((World.grownBy_alloc _ _ _).trans hst.grown)
  clear hst
  go_wp2_with fail
  go_loopg [5, 7] 3 (fun gh l i wr => ∃ (k : Nat) (ss : List ByteArray) (g0 c0 : Nat) (q : Int), k + gh = 3 ∧ i = .int .i64 k ∧ l = .slice (some ⟨g0, 0, none⟩) ss.length c0 ∧ ss.length ≤ k ∧ Hid (∀ s ∈ ss, s.size ≤ 4010) ∧ w.heap.size + 1 ≤ g0 ∧ q ≤ 2 + 2 * (k : Int) ∧
    CurAt wr w.heap.size A n c q zs B ∧ wr.ownsRow (w.heap.size + 1) 9 1 (.slice (some ⟨g0, 0, none⟩) ss.length c0) ss.length (ss.map .string) ∧ Below w.heap.size w wr)
  case atStart => exact ⟨0, [], _, 0, q, by omega, rfl, rfl, by simp, Lib.hid (by simp), Nat.le_refl _, by omega, H1, hown1, hb1⟩
  case round =>
    obtain ⟨k, ss, g0, c0, q, hkg, rfl, rfl, hsl, hss, hg0, hq, hcur, hown, hb⟩ := hrel
    have hcb := hcur.below
    by_cases hlt : (k : Int) < m
    · cases gk with
      | zero => exfalso; omega
      | succ gh =>
        have HCU := Lib.hid hcur
        have HOW := Lib.hid hown
        have HBE := Lib.hid hb
        clear hcur hown hb
        go_wp2_with fail
        refine (any1_at HCU.out (by omega)).mono ?_
        rintro e w2 ⟨x, hx, rfl, hst⟩
        obtain ⟨q2, q20, q21, H2⟩ := HCU.out.step hst
        have own2 := HOW.out.kept hst.grown (.inr (by simp [Value.ownBlock]; omega))
        have hb2 := HBE.out.grown hst.grown HBE.out.size (fun k e => by cases e; exact Nat.le_refl _)
        have hz2 := hb2.size
        have hlt2 := H2.lt
        clear hst
        go_wp2_with (at_builtin; refine wpList_append_own _ rfl (.tmp 19) (.tmp 22) 26 rfl (w.heap.size + 1) 9 i0 (.string ByteArray.empty) 1 16 Try.underlying26 hi hz0 hz1 hz2' rfl (by decide) (.slice (some ⟨g0, 0, none⟩) ss.length c0) ss.length _ rfl (own2.alloc _) ⟨w2.heap.size, 0, none⟩ 1 1 [.string x] rfl rfl (cell_one_new _ _ _) (by simp [Value.oneCell']) (by unfold maxLen; omega) (by omega) (by rw [World.size_alloc]; omega) ?_; intro v3 w3 own3 hgrow3 hnil3; refine Hid.out ?_)
        obtain ⟨g3, c3, rfl, hg3⟩ := own_some own3 (fun e => nomatch (hnil3.1 e).1)
        have H3 := (H2.kept (World.grownBy_alloc w2 (.cells #[.string x] 9) none) (by simp) (fun r e => by cases e)).kept hgrow3 (by simp [Value.ownBlock]; omega) (fun r e => by cases e; show _ ≤ g0; omega)
        have hb3 := (hb2.alloc hb2.size (.cells #[.string x] 9)).grown hgrow3 (by rw [World.size_alloc]; omega) (fun k e => by cases e; show _ ≤ g0; omega)
        clear H2 own2 hb2 hgrow3 hnil3
        refine Lib.hid ?_
        go_wp2_with fail
        go_roundg gh
        case rel => exact ⟨k + 1, ss ++ [x], g3, c3, q2, by omega, by go_num, by simp, by simp; omega, Lib.hid (fun s hs => by
          rcases List.mem_append.1 hs with h | h
          · exact hss.out s h
          · have : s = x := by simpa using h
            rw [this]; omega), hg3, by omega, H3, by simpa using own3, hb3⟩
        case measure => omega
    · have HCU := Lib.hid hcur
      have HOW := Lib.hid hown
      have HBE := Lib.hid hb
      clear hcur hown hb
      go_wp2_with fail
      refine (one_at HCU.out (by omega) 20 (by omega)).mono ?_
      rintro e w2 ⟨b, rfl, hst⟩
      obtain ⟨q2, q20, q21, H2⟩ := HCU.out.step hst
      have own2 := HOW.out.kept hst.grown (.inr (by simp [Value.ownBlock]; omega))
      have hb2 := HBE.out.grown hst.grown HBE.out.size (fun k e => by cases e; exact Nat.le_refl _)
      have hz2 := hb2.size
      have hltc := H2.lt
      clear hst
      cases b with
      | false =>
        have H5' := Lib.hid (fun (o : Obj) => (H2).kept (World.grownBy_alloc w2 o none) (by simp) (fun r e => by cases e))
        have hlt5 := (H2).lt
        have HOX5 := Lib.hid (own2)
        have HB5 := Lib.hid (hb2)
        have HQ : q2 ≤ 100 := by omega
        clear H2 own2 hb2
        go_wp2_with fail
        refine (of_at (H5'.out _) (by omega) w2.heap.size 5 5 joinTexts rfl (by omega) (by omega) (join_cells w2 _) (by omega)).mono ?_
        rintro e w9 ⟨sep, hsep, rfl, hst9⟩
        have hs9 := joinTexts_small sep hsep
        have hg9 := (World.grownBy_alloc w2 _ _).trans hst9.grown
        have own9 := HOX5.out.kept hg9 (.inr (by simp [Value.ownBlock]; omega))
        have hb9 := HB5.out.grown hg9 HB5.out.size (fun k e => by cases e; exact Nat.le_refl _)
        clear hst9 hsep hg9
        go_wp2_with fail
        refine bodyPost_ret (results_tmp2 rfl _ _ _) rfl ?_
        exact ⟨ss, sep, g0, c0, by omega, hss.out, hs9, rfl, own_base own9 (by omega), hb9⟩
      | true =>
        have HCU2 := Lib.hid H2
        have HOW2 := Lib.hid own2
        have HBE2 := Lib.hid hb2
        clear H2 own2 hb2
        go_wp2_with fail
        refine (pick_at HCU2.out (by omega) 20 (by omega)).mono ?_
        rintro e w3 ⟨kb, kb0, kb1, rfl, hst⟩
        obtain ⟨kn, rfl⟩ : ∃ kn : Nat, kb = (kn : Int) := ⟨kb.toNat, by omega⟩
        have hkn : kn < 20 := by omega
        obtain ⟨q3, q30, q31, H3⟩ := HCU2.out.step hst
        have own3 := HOW2.out.kept hst.grown (.inr (by simp [Value.ownBlock]; omega))
        have hb3 := HBE2.out.grown hst.grown HBE2.out.size (fun k e => by cases e; exact Nat.le_refl _)
        have hz3 := hb3.size
        have hlt3 := H3.lt
        obtain ⟨j0, hj, hjz, hj1, hj2⟩ := info_parts Try.info5''
        clear hst kb1
        go_wp2_with (at_make; refine wpList_make_full _ rfl _ _ 22 rfl w3.heap.size 5 j0 (.int .u8 0) 1 Try.underlying22 hj hjz hj1 _ _ _ _ (3990 + kn) rfl rfl (by omega) (by omega) (by rw [hj2]; omega) (by unfold maxLen; omega) (Nat.le_refl _) ?_; intro w4 own4 hgrow4; have hcv := run_zeros (P := Try.prog) 22 9 5 Try.underlying22 Try.underlying5 Try.underlying9 (3990 + kn) w4 own4; refine Hid.out ?_)
        have hzl : (⟨(List.replicate (3990 + kn) (0 : UInt8)).toArray⟩ : ByteArray).size = 3990 + kn := by
          show (List.replicate (3990 + kn) (0 : UInt8)).toArray.size = _
          simp
        have hzl2 : (⟨(List.replicate (3990 + kn) (0 : UInt8)).toArray⟩ : ByteArray).size ≤ 4010 := by omega
        generalize (⟨(List.replicate (3990 + kn) (0 : UInt8)).toArray⟩ : ByteArray) = x at hcv hzl2 hzl
        have H4 := H3.kept hgrow4 (by simp) (fun r e => by cases e)
        have own4' := own3.kept hgrow4 (.inr (by simp [Value.ownBlock]))
        have hb4 := hb3.grown hgrow4 hb3.size (fun k e => by cases e)
        have hz4 := hb4.size
        have hz34 := hgrow4.size
        clear own4 hgrow4 own3 hb3 H3 hzl
        refine Lib.hid ?_
        go_wp2_with (at_builtin; refine wpList_append_own _ rfl (.tmp 26) (.tmp 32) 26 rfl (w.heap.size + 1) 9 i0 (.string ByteArray.empty) 1 16 Try.underlying26 hi hz0 hz1 hz2' rfl (by decide) (.slice (some ⟨g0, 0, none⟩) ss.length c0) ss.length _ rfl (own4'.alloc _) ⟨w4.heap.size, 0, none⟩ 1 1 [.string x] rfl rfl (cell_one_new _ _ _) (by simp [Value.oneCell']) (by unfold maxLen; omega) (by omega) (by rw [World.size_alloc]; omega) ?_; intro v5 w5 own5 hgrow5 hnil5; refine Hid.out ?_)
        obtain ⟨g5, c5, rfl, hg5⟩ := own_some own5 (fun e => nomatch (hnil5.1 e).1)
        have H5 := (H4.kept (World.grownBy_alloc w4 (.cells #[.string x] 9) none) (by simp) (fun r e => by cases e)).kept hgrow5 (by simp [Value.ownBlock]; omega) (fun r e => by cases e; show _ ≤ g0; omega)
        have hb5 := (hb4.alloc hb4.size (.cells #[.string x] 9)).grown hgrow5 (by rw [World.size_alloc]; omega) (fun k e => by cases e; show _ ≤ g0; omega)
        clear H4 own4' hb4 hgrow5 hnil5 hcv
        refine Lib.hid ?_
        have H5' := Lib.hid (fun (o : Obj) => (H5).kept (World.grownBy_alloc w5 o none) (by simp) (fun r e => by cases e))
        have hlt5 := (H5).lt
        have HOX5 := Lib.hid (show w5.ownsRow (w.heap.size + 1) 9 1 (.slice (some ⟨g5, 0, none⟩) (ss ++ [x]).length c5) (ss ++ [x]).length ((ss ++ [x]).map .string) by simpa using own5)
        have HB5 := Lib.hid (hb5)
        have HQ : q3 ≤ 100 := by omega
        clear H5 own5 hb5
        go_wp2_with fail
        refine (of_at (H5'.out _) (by omega) w5.heap.size 5 5 joinTexts rfl (by omega) (by omega) (join_cells w5 _) (by omega)).mono ?_
        rintro e w9 ⟨sep, hsep, rfl, hst9⟩
        have hs9 := joinTexts_small sep hsep
        have hg9 := (World.grownBy_alloc w5 _ _).trans hst9.grown
        have own9 := HOX5.out.kept hg9 (.inr (by simp [Value.ownBlock]; omega))
        have hb9 := HB5.out.grown hg9 HB5.out.size (fun k e => by cases e; exact Nat.le_refl _)
        clear hst9 hsep hg9
        go_wp2_with fail
        refine bodyPost_ret (results_tmp2 rfl _ _ _) rfl ?_
        exact ⟨ss ++ [x], sep, g5, c5, by simp; omega, (fun s hs => by rcases List.mem_append.1 hs with h | h; exact hss.out s h; have : s = x := (by simpa using h); rw [this]; exact hzl2), hs9, by simp, own_base own9 (by omega), hb9⟩
end Go.Proofs.Ytcbdifmnbolgpaa
