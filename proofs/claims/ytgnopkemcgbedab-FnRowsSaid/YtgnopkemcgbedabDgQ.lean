/- Chapter 7: the best order of the model, tried one after the other. -/
import Derived.Test.YtgnopkemcgbedabDgZ
namespace Go.Proofs.Ytgnopkemcgbedab
open Go.RowKit Go.PlainAid Go.Sort
set_option linter.unusedVariables false
set_option linter.unusedSimpArgs false

theorem flatCargo_take : ∀ (k : Nat) (vs : List TCargo), flatCargo (vs.take k) = (flatCargo vs).take (k * 3)
  | 0, vs => by simp [flatCargo]
  | k + 1, [] => by simp [flatCargo]
  | k + 1, v :: t => by
    have ih := flatCargo_take k t
    rw [show (k + 1) * 3 = k * 3 + 1 + 1 + 1 from by omega]
    simp only [List.take_succ_cons, flatCargo, ih]
theorem flatCargo_drop : ∀ (k : Nat) (vs : List TCargo), flatCargo (vs.drop k) = (flatCargo vs).drop (k * 3)
  | 0, vs => by simp
  | k + 1, [] => by simp [flatCargo]
  | k + 1, v :: t => by
    have ih := flatCargo_drop k t
    rw [show (k + 1) * 3 = k * 3 + 1 + 1 + 1 from by omega]
    simp only [List.drop_succ_cons, flatCargo, ih]
theorem flatCargo_one : ∀ vs : List TCargo, ∀ u ∈ flatCargo vs, u.oneCell' = true
  | [], u, h => absurd h (by simp [flatCargo])
  | v :: t, u, h => by
    simp only [flatCargo, List.mem_cons] at h
    rcases h with rfl | rfl | rfl | h
    · rfl
    · rfl
    · rfl
    · exact flatCargo_one t u h
theorem hasC_at {w : World} {B n : Nat} {a : Addr} {vs : List TCargo} (h : IsCargos w B (some a) n vs) : ∀ j u, (flatCargo vs)[j]? = some u → w.cell? (a.add j) = some u := by
  intro j u hu
  obtain ⟨x, e, -, hc⟩ := h.has j u hu
  injection e with e
  rw [e]
  exact hc
theorem hasC_take {w : World} {B n k : Nat} {a : Addr} {vs : List TCargo} (h : IsCargos w B (some a) n vs) : ∀ j u, (flatCargo (vs.take k))[j]? = some u → w.cell? (a.add j) = some u := by
  intro j u hu
  rw [flatCargo_take, List.getElem?_take] at hu
  split at hu
  · exact hasC_at h j u hu
  · cases hu
theorem hasC_drop {w : World} {B n k c : Nat} {a aq : Addr} {vs : List TCargo} (h : IsCargos w B (some a) n vs) (hc : n ≤ c) (hq : (if c = k then some a else some (a.add (k * 3))) = some aq) : ∀ j u, (flatCargo (vs.drop k))[j]? = some u → w.cell? (aq.add j) = some u := by
  intro j u hu
  have hjl := (List.getElem?_eq_some_iff.1 hu).1
  rw [flatCargo_len, List.length_drop, h.len] at hjl
  rw [if_neg (by omega)] at hq
  injection hq with hq
  subst hq
  rw [flatCargo_drop, List.getElem?_drop] at hu
  rw [Go.Deep.add_add]
  exact hasC_at h (k * 3 + j) u hu
/-- What the search hands back. -/
def GivesB (w : World) (Bd : Nat) (BL : List TCargo × Int) (e : Ending) (w' : World) : Prop :=
  ∃ gx cx q, e = .returned (.tuple #[.slice (some gx) q cx, .int .i64 BL.2]) ∧ w'.ownsRow Bd 54 3 (.slice (some gx) q cx) q (flatCargo BL.1) ∧ Below w.heap.size w w'

set_option maxRecDepth 100000 in
set_option maxHeartbeats 4000000 in
theorem best_any : ∀ (f : Nat) (R T : List TCargo) (w : World) (a b : Addr) (n c m d Bd : Nat), T.length = f → m = f → w.ownsRow Bd 54 3 (.slice (some a) n c) n (flatCargo R) → Bd ≤ w.heap.size → IsCargos w w.heap.size (some b) m T → n + f ≤ 6 → m ≤ d → (∀ v ∈ R ++ T, goodC v) →
    Calls Try.prog 75 #[.slice (some a) n c, .slice (some b) m d] w (GivesB w Bd (bst f R T)) := by
  intro f
  induction f with
  | zero =>
    intro R T w a b n c m d Bd hT hm hR hBd hTT hn hmd hg
    subst hm
    have hRl := (own_isC hR).len
    have C := Lib.hid (l7Place_any c (own_isC hR) (by omega) (fun j hj => by rw [getCargo (by omega)]; exact hg _ (List.mem_append_left _ (List.getElem_mem _))))
    have HR := Lib.hid hR
    have HE : Hid (extK R n = (bst 0 R T).2) := Lib.hid (by rw [bst, ext, hRl])
    clear hR hTT hg hT
    go_enter Try.func75, Try.ntmps75
    go_wp2_with fail
    refine C.out.mono ?_
    rintro e w1 ⟨v, rfl, hO⟩
    have HO := Lib.hid hO.low
    have HR1 := Lib.hid (own_below HR.out hO.low)
    clear C HR hO
    go_wp2_with fail
    go_ret2
    exact ⟨a, c, n, by rw [HE.out]; rfl, HR1.out, HO.out⟩
  | succ f ih =>
    intro R T w a b n c m d Bd hT hm hR hBd hTT hn hmd hg
    obtain ⟨i0, hi, hz0, hz1, hz2⟩ := info_parts Try.infoCargo'
    have HI := Lib.hid ih
    have HR := Lib.hid hR
    have HT := Lib.hid hTT
    have HG := Lib.hid hg
    have HTL := Lib.hid hT
    have HM := Lib.hid hm
    have hm0 : 0 < m := by omega
    have hmi : ((m : Int) == 0) = false := by simp; omega
    have hm6 : n + m ≤ 6 := by omega
    clear ih hR hTT hg hT hm hn
    obtain ⟨G, hG⟩ : ∃ G : Nat → List TCargo × Int, G = fun i => bst f (R ++ [T.getD i noCargo]) (T.eraseIdx i) := ⟨_, rfl⟩
    have HGG := Lib.hid hG
    have HEND : Hid (bst (f + 1) R T = foldK [] G m) := Lib.hid (by rw [bst, hG, HTL.out, HM.out])
    have HGI : Hid (∀ i, G i = bst f (R ++ [T.getD i noCargo]) (T.eraseIdx i)) := Lib.hid (fun i => by rw [hG])
    clear hG HGG
    have HST := Lib.hid (show (w.alloc (.cells #[] 54)).ownsRow Bd 54 3 (.slice (some ⟨w.heap.size, 0, none⟩) 0 0) 0 (flatCargo []) from own_low (World.ownsRow_made w #[] 0 (Nat.le_refl _) (by unfold maxLen; omega) rfl) hBd)
    go_enter Try.func75, Try.ntmps75
    go_wp2_with fail
    go_loopw [8, 9, 10] (fun v z i wr => ∃ k : Nat, k ≤ m ∧ i = .int .i64 k ∧ z = .int .i64 (foldK [] G k).2 ∧ (∃ gx cx q, v = .slice (some gx) q cx ∧ wr.ownsRow Bd 54 3 (.slice (some gx) q cx) q (flatCargo (foldK [] G k).1)) ∧ Below w.heap.size w wr) (fun _ _ i _ => m - (intOf i).toNat)
    case atStart => exact ⟨0, Nat.zero_le _, rfl, rfl, ⟨_, _, _, rfl, HST.out⟩, (Below.refl _ _).alloc (Nat.le_refl _) _⟩
    case round =>
      obtain ⟨k, hk, rfl, rfl, ⟨gx, cx, q, rfl, hX⟩, hb⟩ := hrel
      have HX := Lib.hid hX
      have HB := Lib.hid hb
      clear hX hb HST
      by_cases hlt : k < m
      · have hk0 : (0 : Int) ≤ (k : Int) := by omega
        have hk1 : (k : Int) < (m : Int) := by omega
        obtain ⟨acc, hacc⟩ : ∃ x, foldK [] G k = x := ⟨_, rfl⟩
        have HNX : Hid (foldK [] G (k + 1) = stepB acc (G k)) := Lib.hid (by rw [foldK, hacc])
        rw [hacc] at HX ⊢
        clear hacc
        obtain ⟨aR, az⟩ := acc
        dsimp only at HX ⊢
        have HTb := Lib.hid (HT.out.below HB.out (Nat.le_refl _)).all
        have HRb := Lib.hid (own_isC (own_below HR.out HB.out))
        have hkl : k < T.length := by rw [HT.out.len]; exact hlt
        have HGK := Lib.hid (HGI.out k)
        have HGR : Hid (∀ v ∈ (R ++ [T.getD k noCargo]) ++ T.eraseIdx k, goodC v) := Lib.hid (fun v hv => HG.out v (by
          rcases List.mem_append.1 hv with h | h
          · rcases List.mem_append.1 h with h | h
            · exact List.mem_append_left _ h
            · rw [List.mem_singleton] at h
              rw [h, getCargo hkl]
              exact List.mem_append_right _ (List.getElem_mem _)
          · exact List.mem_append_right _ (List.mem_of_mem_eraseIdx h)))
        obtain ⟨a1, ea, hlv, HV⟩ := HTb.out.has.Cargo hkl
        injection ea with ea
        subst ea
        obtain ⟨V, hV⟩ : ∃ V, T.getD k noCargo = V := ⟨_, rfl⟩
        rw [hV] at HV HGR HGK
        have HVV := Lib.hid hV
        clear hV
        obtain ⟨vd, vl, vq⟩ := V
        obtain ⟨f0, f1, f2⟩ := HV
        dsimp only at f0 f1 f2
        have lV := World.block_lt_of_cell? _ _ f0
        have HNR := Lib.hid (fun W (hq : Below wr.heap.size wr W) => hasC_at (HRb.out.below hq (Nat.le_refl _)))
        have HLR : Hid ((flatCargo R).length = n * 3) := Lib.hid (by rw [flatCargo_len, HRb.out.len]; omega)
        go_wp2_with fail
        refine region_inv (by kernel_rfl) (by kernel_rfl) (fun Fl9 ac W => ∃ (x31 x32 x33 x34 x35 x36 x37 x38 x39 x11 : Value), ac = { tmps := #[Value.slice (some a) n c, Value.slice (some b) m d, undef, undef, Value.slice none 0 0, Value.int IntKind.i64 0, undef, undef, Value.slice (some gx) q cx, Value.int IntKind.i64 az, Value.int IntKind.i64 (k : Int), x11, u12, u13, Value.slice (some b) m d, Value.int IntKind.i64 (m : Int), Value.bool false, undef, undef, undef, undef, undef, undef, undef, Value.slice (some ⟨w.heap.size, 0, none⟩) 0 0, Value.int IntKind.i64 (k : Int), Value.slice (some b) m d, Value.int IntKind.i64 (m : Int), Value.bool true, u29, u30, x31, x32, x33, x34, x35, x36, x37, x38, x39, u40, u41, u42, u43, u44, u45, u46, u47, u48, u49, u50, u51, u52, u53, u54, u55, u56, u57, u58, u59, u60, u61, u62, u63, undef, undef], defers := [] } ∧ Below wr.heap.size wr W ∧
              (Fl9 0 = true → Fl9 2 = false → ∃ g, x31 = .slice (some ⟨g, 0, none⟩) 0 0 ∧ W.ownsRow wr.heap.size 54 3 (.slice (some ⟨g, 0, none⟩) 0 0) 0 []) ∧
              (Fl9 1 = true → x32 = .slice (some a) n c) ∧
              (Fl9 2 = true → Fl9 8 = false → ∃ g c9, x33 = .slice (some ⟨g, 0, none⟩) n c9 ∧ W.ownsRow wr.heap.size 54 3 (.slice (some ⟨g, 0, none⟩) n c9) n (flatCargo R)) ∧
              (Fl9 3 = true → x34 = .slice (some b) m d) ∧
              (Fl9 4 = true → x35 = .int .i64 (k : Int)) ∧
              (Fl9 5 = true → x36 = .pointer (some (b.add (k * 3)))) ∧
              (Fl9 6 = true → x37 = .agg #[.int .i64 vd, .int .i64 vl, .int .i64 vq]) ∧
              (Fl9 7 = true → Fl9 8 = false → ∃ g, x38 = .slice (some ⟨g, 0, none⟩) 1 1 ∧ ∀ j u, [Value.int .i64 vd, Value.int .i64 vl, Value.int .i64 vq][j]? = some u → W.cell? ((⟨g, 0, none⟩ : Addr).add j) = some u) ∧
              (Fl9 8 = true → ∃ g c9, x39 = .slice (some ⟨g, 0, none⟩) (n + 1) c9 ∧ W.ownsRow wr.heap.size 54 3 (.slice (some ⟨g, 0, none⟩) (n + 1) c9) (n + 1) (flatCargo R ++ [Value.int .i64 vd, Value.int .i64 vl, Value.int .i64 vq])) ∧
              (Fl9 9 = true → ∃ g c9, x11 = .slice (some ⟨g, 0, none⟩) (n + 1) c9 ∧ W.ownsRow wr.heap.size 54 3 (.slice (some ⟨g, 0, none⟩) (n + 1) c9) (n + 1) (flatCargo R ++ [Value.int .i64 vd, Value.int .i64 vl, Value.int .i64 vq])) ∧
              (Fl9 8 = true → Fl9 2 = true) ∧
              (Fl9 9 = true → Fl9 8 = true)) ?_ ?_ ?_
        · exact ⟨_, _, _, _, _, _, _, _, _, _, rfl, (Drawn.one wr 1).below _, (fun q0 => nomatch q0), (fun q0 => nomatch q0), (fun q0 => nomatch q0), (fun q0 => nomatch q0), (fun q0 => nomatch q0), (fun q0 => nomatch q0), (fun q0 => nomatch q0), (fun q0 => nomatch q0), (fun q0 => nomatch q0), (fun q0 => nomatch q0), (fun q0 => nomatch q0), (fun q0 => nomatch q0)⟩
        · intro Fl9 ac W i9 o9 hJ ho hL hdep K9 hK
          obtain ⟨x31, x32, x33, x34, x35, x36, x37, x38, x39, x11, rfl, hB, hh0, hh1, hh2, hh3, hh4, hh5, hh6, hh7, hh8, hh9, hx0, hx1⟩ := hJ
          have hi9 : i9 < 10 := by simpa using (Array.getElem?_eq_some_iff.1 ho).1
          have C0 := (hB.cell lV).trans f0
          have C1 := (hB.cell (p := ⟨(b.add (k * 3)).block, (b.add (k * 3)).off + 1, none⟩) lV).trans f1
          have C2 := (hB.cell (p := ⟨(b.add (k * 3)).block, (b.add (k * 3)).off + 2, none⟩) lV).trans f2
          obtain rfl | rfl | rfl | rfl | rfl | rfl | rfl | rfl | rfl | rfl : i9 = 0 ∨ i9 = 1 ∨ i9 = 2 ∨ i9 = 3 ∨ i9 = 4 ∨ i9 = 5 ∨ i9 = 6 ∨ i9 = 7 ∨ i9 = 8 ∨ i9 = 9 := by omega
          · -- operation 0
            cases ho
            go_simp
            exact hK _ _ ⟨_, _, _, _, _, _, _, _, _, _, rfl, hB.trans ((Below.alloc (Below.refl W.heap.size W) (Nat.le_refl _) _).mono hB.size), fun _ _ => ⟨_, rfl, own_low (World.ownsRow_made W #[] 0 (Nat.le_refl _) (by unfold maxLen; omega) rfl) hB.size⟩, hh1, fun q0 r0 => (fun ⟨g, c9, e, o⟩ => ⟨g, c9, e, own_below o (Below.alloc (Below.refl W.heap.size W) (Nat.le_refl _) _)⟩) (hh2 q0 r0), hh3, hh4, hh5, hh6, fun q0 r0 => (fun ⟨g, e, h⟩ => ⟨g, e, fun j u hu => (Below.cell (Below.alloc (Below.refl W.heap.size W) (Nat.le_refl _) _) (World.block_lt_of_cell? W _ (h j u hu))).trans (h j u hu)⟩) (hh7 q0 r0), fun q0 => (fun ⟨g, c9, e, o⟩ => ⟨g, c9, e, own_below o (Below.alloc (Below.refl W.heap.size W) (Nat.le_refl _) _)⟩) (hh8 q0), fun q0 => (fun ⟨g, c9, e, o⟩ => ⟨g, c9, e, own_below o (Below.alloc (Below.refl W.heap.size W) (Nat.le_refl _) _)⟩) (hh9 q0), hx0, hx1⟩
          · -- operation 1
            cases ho
            go_simp
            exact hK _ _ ⟨_, _, _, _, _, _, _, _, _, _, rfl, hB, hh0, fun _ => rfl, hh2, hh3, hh4, hh5, hh6, hh7, hh8, hh9, hx0, hx1⟩
          · -- operation 2
            cases ho
            have hd0 := hdep ⟨0, .data⟩ (by simp) rfl
            obtain ⟨g9, rfl, oe⟩ := hh0 hd0 hL
            obtain rfl := hh1 (hdep ⟨1, .data⟩ (by simp) rfl)
            refine step_append rfl (.tmp 31) (.tmp 32) 42 rfl wr.heap.size 54 i0 (.agg #[.int .i64 0, .int .i64 0, .int .i64 0]) 3 24 Try.underlying42 hi hz0 hz1 hz2 rfl (by decide) _ 0 _ rfl oe a n c (flatCargo R) rfl HLR.out (HNR.out W hB) (flatCargo_one _) (by unfold maxLen; omega) (by omega) hB.size (fun e => nomatch e) ?_
            intro g1 cap w9 hown hgr
            rw [Nat.zero_add, List.nil_append] at hown
            rw [Nat.zero_add]
            have keep10 : (∃ g, x38 = .slice (some ⟨g, 0, none⟩) 1 1 ∧ ∀ j u, [Value.int .i64 vd, Value.int .i64 vl, Value.int .i64 vq][j]? = some u → W.cell? ((⟨g, 0, none⟩ : Addr).add j) = some u) → ∃ g, x38 = .slice (some ⟨g, 0, none⟩) 1 1 ∧ ∀ j u, [Value.int .i64 vd, Value.int .i64 vl, Value.int .i64 vq][j]? = some u → w9.cell? ((⟨g, 0, none⟩ : Addr).add j) = some u := fun ⟨gq, e, h⟩ => ⟨gq, e, keep_empty oe hgr h⟩
            exact hK _ _ ⟨_, _, _, _, _, _, _, _, _, _, rfl, hB.grown hgr hB.size (fun q e => (oe.lt q e).1), (fun _ q0 => nomatch q0), hh1, fun _ => fun _ => ⟨_, _, rfl, hown⟩, hh3, hh4, hh5, hh6, (fun q0 r0 => keep10 (hh7 q0 r0)), (fun q0 => absurd (hx0 q0) (by rw [hL]; simp)), (fun q0 => absurd (hx0 (hx1 q0)) (by rw [hL]; simp)), fun _ => rfl, hx1⟩
          · -- operation 3
            cases ho
            go_simp
            exact hK _ _ ⟨_, _, _, _, _, _, _, _, _, _, rfl, hB, hh0, hh1, hh2, fun _ => rfl, hh4, hh5, hh6, hh7, hh8, hh9, hx0, hx1⟩
          · -- operation 4
            cases ho
            go_simp
            exact hK _ _ ⟨_, _, _, _, _, _, _, _, _, _, rfl, hB, hh0, hh1, hh2, hh3, fun _ => rfl, hh5, hh6, hh7, hh8, hh9, hx0, hx1⟩
          · -- operation 5
            cases ho
            obtain rfl := hh3 (hdep ⟨3, .data⟩ (by simp) rfl)
            obtain rfl := hh4 (hdep ⟨4, .data⟩ (by simp) rfl)
            go_simp
            exact hK _ _ ⟨_, _, _, _, _, _, _, _, _, _, rfl, hB, hh0, hh1, hh2, hh3, hh4, fun _ => rfl, hh6, hh7, hh8, hh9, hx0, hx1⟩
          · -- operation 6
            cases ho
            obtain rfl := hh5 (hdep ⟨5, .data⟩ (by simp) rfl)
            go_simp
            exact hK _ _ ⟨_, _, _, _, _, _, _, _, _, _, rfl, hB, hh0, hh1, hh2, hh3, hh4, hh5, fun _ => rfl, hh7, hh8, hh9, hx0, hx1⟩
          · -- operation 7
            cases ho
            obtain rfl := hh6 (hdep ⟨6, .data⟩ (by simp) rfl)
            go_simp
            exact hK _ _ ⟨_, _, _, _, _, _, _, _, _, _, rfl, hB.trans ((Below.alloc (Below.refl W.heap.size W) (Nat.le_refl _) _).mono hB.size), fun q0 r0 => (fun ⟨g, e, o⟩ => ⟨g, e, own_below o (Below.alloc (Below.refl W.heap.size W) (Nat.le_refl _) _)⟩) (hh0 q0 r0), hh1, fun q0 r0 => (fun ⟨g, c9, e, o⟩ => ⟨g, c9, e, own_below o (Below.alloc (Below.refl W.heap.size W) (Nat.le_refl _) _)⟩) (hh2 q0 r0), hh3, hh4, hh5, hh6, fun _ _ => ⟨_, rfl, cell_three_new W _ _ _ _⟩, fun q0 => (fun ⟨g, c9, e, o⟩ => ⟨g, c9, e, own_below o (Below.alloc (Below.refl W.heap.size W) (Nat.le_refl _) _)⟩) (hh8 q0), fun q0 => (fun ⟨g, c9, e, o⟩ => ⟨g, c9, e, own_below o (Below.alloc (Below.refl W.heap.size W) (Nat.le_refl _) _)⟩) (hh9 q0), hx0, hx1⟩
          · -- operation 8
            cases ho
            have hd2 := hdep ⟨2, .data⟩ (by simp) rfl
            obtain ⟨g9, c9, rfl, oe⟩ := hh2 hd2 hL
            have hd7 := hdep ⟨7, .data⟩ (by simp) rfl
            obtain ⟨gn, rfl, hnew⟩ := hh7 hd7 hL
            refine step_append rfl (.tmp 33) (.tmp 38) 42 rfl wr.heap.size 54 i0 (.agg #[.int .i64 0, .int .i64 0, .int .i64 0]) 3 24 Try.underlying42 hi hz0 hz1 hz2 rfl (by decide) _ n _ rfl oe ⟨gn, 0, none⟩ 1 1 [Value.int .i64 vd, Value.int .i64 vl, Value.int .i64 vq] rfl rfl hnew (by simp [Value.oneCell']) (by unfold maxLen; omega) (by omega) hB.size (fun e => nomatch e) ?_
            intro g1 cap w9 hown hgr
            exact hK _ _ ⟨_, _, _, _, _, _, _, _, _, _, rfl, hB.grown hgr hB.size (fun q e => (oe.lt q e).1), (fun _ q0 => absurd ((show Fl9 2 = false from q0).symm.trans hd2) (by simp)), hh1, (fun _ q0 => nomatch q0), hh3, hh4, hh5, hh6, (fun _ q0 => nomatch q0), fun _ => ⟨_, _, rfl, hown⟩, (fun q0 => absurd (hx1 q0) (by rw [hL]; simp)), fun _ => hd2, fun _ => rfl⟩
          · -- operation 9
            cases ho
            have hd8 := hdep ⟨8, .data⟩ (by simp) rfl
            obtain ⟨g9, c9, rfl, ho9⟩ := hh8 hd8
            go_simp
            exact hK _ _ ⟨_, _, _, _, _, _, _, _, _, _, rfl, hB, hh0, hh1, hh2, hh3, hh4, hh5, hh6, hh7, hh8, fun _ => ⟨_, _, rfl, ho9⟩, hx0, fun _ => hd8⟩
        intro Fl9 ac W hJ hall
        obtain ⟨x31, x32, x33, x34, x35, x36, x37, x38, x39, x11, rfl, hB, hh0, hh1, hh2, hh3, hh4, hh5, hh6, hh7, hh8, hh9, -, -⟩ := hJ
        obtain rfl := hh1 (hall 1 (by decide))
        obtain rfl := hh3 (hall 3 (by decide))
        obtain rfl := hh4 (hall 4 (by decide))
        obtain rfl := hh5 (hall 5 (by decide))
        obtain rfl := hh6 (hall 6 (by decide))
        clear hh0
        clear hh2
        clear hh7
        clear hh8
        obtain ⟨gf, cf, rfl, hof⟩ := hh9 (hall 9 (by decide))
        clear hall
        have HBw := Lib.hid (HB.out.trans (hB.mono HB.out.size))
        have HOA : Hid (W.ownsRow wr.heap.size 54 3 (.slice (some ⟨gf, 0, none⟩) (n + 1) cf) (n + 1) (flatCargo (R ++ [(⟨vd, vl, vq⟩ : TCargo)]))) := Lib.hid (by rw [flatCargo_append]; exact hof)
        have HTa := Lib.hid (HTb.out.below hB (Nat.le_refl _)).all
        have HXa := Lib.hid (own_below HX.out hB)
        obtain ⟨BL, hBL⟩ : ∃ x, bst f (R ++ [(⟨vd, vl, vq⟩ : TCargo)]) (T.eraseIdx k) = x := ⟨_, rfl⟩
        obtain ⟨wa, hwa⟩ : ∃ W', W' = W := ⟨_, rfl⟩
        subst hwa
        have CB : Hid (∀ (W : World) (g9 c9 : Nat), Below wa.heap.size wa W → W.ownsRow wa.heap.size 54 3 (.slice (some ⟨g9, 0, none⟩) f c9) f (flatCargo (T.take k) ++ flatCargo (T.drop (k + 1))) →
            Calls Try.prog 75 #[.slice (some ⟨gf, 0, none⟩) (n + 1) cf, .slice (some ⟨g9, 0, none⟩) f c9] W (GivesB W Bd BL)) := Lib.hid (fun W g9 c9 hq ho => by
          rw [← hBL]
          rw [← flatCargo_append, ← List.eraseIdx_eq_take_drop_succ] at ho
          exact HI.out _ _ W _ _ (n + 1) cf f c9 Bd (by rw [List.length_eraseIdx_of_lt hkl, HTL.out]; rfl) rfl (own_low (own_below HOA.out hq) (Nat.le_trans hBd HB.out.size)) (Nat.le_trans hBd (Nat.le_trans HBw.out.size hq.size)) (own_Cargos ho) (by have := HM.out; omega) (own_capC ho) HGR.out)
        have HGL : Hid (G k = BL) := Lib.hid (by rw [HGK.out, hBL])
        have HT1 : Hid ((flatCargo (T.take k)).length = k * 3) := Lib.hid (by rw [flatCargo_len, List.length_take]; omega)
        have HT2 : Hid ((flatCargo (T.drop (k + 1))).length = (m - (k + 1)) * 3) := Lib.hid (by rw [flatCargo_len, List.length_drop, HT.out.len]; omega)
        have HN1 := Lib.hid (fun W (hq : Below wa.heap.size wa W) => hasC_take (k := k) (HTa.out.below hq (Nat.le_refl _)))
        obtain ⟨aq, haq⟩ : ∃ aq, (if d = k + 1 then some b else some (b.add ((k + 1) * 3)) : Option Addr) = some aq := by split <;> exact ⟨_, rfl⟩
        have HAQ := Lib.hid haq
        have HN2 := Lib.hid (fun W (hq : Below wa.heap.size wa W) => hasC_drop (HTa.out.below hq (Nat.le_refl _)) hmd HAQ.out)
        have hki : k + (m - (k + 1)) = f := by have := HM.out; omega
        have hkd : k ≤ d := by omega
        clear hB hof hBL haq HX HTb HRb HNR HLR HOA HGK HGR HI HVV f0 f1 f2 lV hlv hkl HB
        go_wp2_with fail
        refine region_inv (by kernel_rfl) (by kernel_rfl) (fun Fl9 ac W => ∃ (x41 x42 x43 x44 x45 x46 x47 x48 x49 x50 x51 x52 x40 x53 x54 x12 x13 : Value), ac = { tmps := #[Value.slice (some a) n c, Value.slice (some b) m d, undef, undef, Value.slice none 0 0, Value.int IntKind.i64 0, undef, undef, Value.slice (some gx) q cx, Value.int IntKind.i64 az, Value.int IntKind.i64 (k : Int), Value.slice (some ⟨gf, 0, none⟩) (n + 1) cf, x12, x13, Value.slice (some b) m d, Value.int IntKind.i64 (m : Int), Value.bool false, undef, undef, undef, undef, undef, undef, undef, Value.slice (some ⟨w.heap.size, 0, none⟩) 0 0, Value.int IntKind.i64 (k : Int), Value.slice (some b) m d, Value.int IntKind.i64 (m : Int), Value.bool true, u29, u30, x31, Value.slice (some a) n c, x33, Value.slice (some b) m d, Value.int IntKind.i64 (k : Int), Value.pointer (some (b.add (k * 3))), Value.agg #[Value.int IntKind.i64 vd, Value.int IntKind.i64 vl, Value.int IntKind.i64 vq], x38, x39, x40, x41, x42, x43, x44, x45, x46, x47, x48, x49, x50, x51, x52, x53, x54, u55, u56, u57, u58, u59, u60, u61, u62, u63, undef, undef], defers := [] } ∧ Below wa.heap.size wa W ∧
              (Fl9 0 = true → x41 = .slice (some ⟨gf, 0, none⟩) (n + 1) cf) ∧
              (Fl9 1 = true → Fl9 5 = false → ∃ g, x42 = .slice (some ⟨g, 0, none⟩) 0 0 ∧ W.ownsRow wa.heap.size 54 3 (.slice (some ⟨g, 0, none⟩) 0 0) 0 []) ∧
              (Fl9 2 = true → x43 = .slice (some b) m d) ∧
              (Fl9 3 = true → x44 = .int .i64 (k : Int)) ∧
              (Fl9 4 = true → x45 = .slice (some b) k d) ∧
              (Fl9 5 = true → Fl9 10 = false → ∃ g c9, x46 = .slice (some ⟨g, 0, none⟩) k c9 ∧ W.ownsRow wa.heap.size 54 3 (.slice (some ⟨g, 0, none⟩) k c9) k (flatCargo (T.take k))) ∧
              (Fl9 6 = true → x47 = .slice (some b) m d) ∧
              (Fl9 7 = true → x48 = .int .i64 (k : Int)) ∧
              (Fl9 8 = true → x49 = .int .i64 ((k + 1 : Nat) : Int)) ∧
              (Fl9 9 = true → x50 = .slice (some aq) (m - (k + 1)) (d - (k + 1))) ∧
              (Fl9 10 = true → ∃ g c9, x51 = .slice (some ⟨g, 0, none⟩) f c9 ∧ W.ownsRow wa.heap.size 54 3 (.slice (some ⟨g, 0, none⟩) f c9) f (flatCargo (T.take k) ++ flatCargo (T.drop (k + 1)))) ∧
              (Fl9 11 = true → ∃ gx cx q, x52 = .tuple #[.slice (some gx) q cx, .int .i64 BL.2] ∧ W.ownsRow Bd 54 3 (.slice (some gx) q cx) q (flatCargo BL.1)) ∧
              (Fl9 12 = true → ∃ gx cx q, x40 = .tuple #[.slice (some gx) q cx, .int .i64 BL.2] ∧ W.ownsRow Bd 54 3 (.slice (some gx) q cx) q (flatCargo BL.1)) ∧
              (Fl9 13 = true → ∃ gx cx q, x53 = .slice (some gx) q cx ∧ W.ownsRow Bd 54 3 (.slice (some gx) q cx) q (flatCargo BL.1)) ∧
              (Fl9 14 = true → x54 = .int .i64 BL.2) ∧
              (Fl9 15 = true → ∃ gx cx q, x12 = .slice (some gx) q cx ∧ W.ownsRow Bd 54 3 (.slice (some gx) q cx) q (flatCargo BL.1)) ∧
              (Fl9 16 = true → x13 = .int .i64 BL.2) ∧
              (Fl9 10 = true → Fl9 5 = true) ∧
              (Fl9 11 = true → Fl9 10 = true) ∧
              (Fl9 12 = true → Fl9 11 = true) ∧
              (Fl9 13 = true → Fl9 12 = true) ∧
              (Fl9 15 = true → Fl9 13 = true)) ?_ ?_ ?_
        · exact ⟨_, _, _, _, _, _, _, _, _, _, _, _, _, _, _, _, _, rfl, (Drawn.one wa 1).below _, (fun q0 => nomatch q0), (fun q0 => nomatch q0), (fun q0 => nomatch q0), (fun q0 => nomatch q0), (fun q0 => nomatch q0), (fun q0 => nomatch q0), (fun q0 => nomatch q0), (fun q0 => nomatch q0), (fun q0 => nomatch q0), (fun q0 => nomatch q0), (fun q0 => nomatch q0), (fun q0 => nomatch q0), (fun q0 => nomatch q0), (fun q0 => nomatch q0), (fun q0 => nomatch q0), (fun q0 => nomatch q0), (fun q0 => nomatch q0), (fun q0 => nomatch q0), (fun q0 => nomatch q0), (fun q0 => nomatch q0), (fun q0 => nomatch q0), (fun q0 => nomatch q0)⟩
        · intro Fl9 ac W i9 o9 hJ ho hL hdep K9 hK
          obtain ⟨x41, x42, x43, x44, x45, x46, x47, x48, x49, x50, x51, x52, x40, x53, x54, x12, x13, rfl, hB, hh0, hh1, hh2, hh3, hh4, hh5, hh6, hh7, hh8, hh9, hh10, hh11, hh12, hh13, hh14, hh15, hh16, hx0, hx1, hx2, hx3, hx4⟩ := hJ
          have hi9 : i9 < 17 := by simpa using (Array.getElem?_eq_some_iff.1 ho).1
          obtain rfl | rfl | rfl | rfl | rfl | rfl | rfl | rfl | rfl | rfl | rfl | rfl | rfl | rfl | rfl | rfl | rfl : i9 = 0 ∨ i9 = 1 ∨ i9 = 2 ∨ i9 = 3 ∨ i9 = 4 ∨ i9 = 5 ∨ i9 = 6 ∨ i9 = 7 ∨ i9 = 8 ∨ i9 = 9 ∨ i9 = 10 ∨ i9 = 11 ∨ i9 = 12 ∨ i9 = 13 ∨ i9 = 14 ∨ i9 = 15 ∨ i9 = 16 := by omega
          · -- operation 0
            cases ho
            go_simp
            exact hK _ _ ⟨_, _, _, _, _, _, _, _, _, _, _, _, _, _, _, _, _, rfl, hB, fun _ => rfl, hh1, hh2, hh3, hh4, hh5, hh6, hh7, hh8, hh9, hh10, hh11, hh12, hh13, hh14, hh15, hh16, hx0, hx1, hx2, hx3, hx4⟩
          · -- operation 1
            cases ho
            go_simp
            exact hK _ _ ⟨_, _, _, _, _, _, _, _, _, _, _, _, _, _, _, _, _, rfl, hB.trans ((Below.alloc (Below.refl W.heap.size W) (Nat.le_refl _) _).mono hB.size), hh0, fun _ _ => ⟨_, rfl, own_low (World.ownsRow_made W #[] 0 (Nat.le_refl _) (by unfold maxLen; omega) rfl) hB.size⟩, hh2, hh3, hh4, fun q0 r0 => (fun ⟨g, c9, e, o⟩ => ⟨g, c9, e, own_below o (Below.alloc (Below.refl W.heap.size W) (Nat.le_refl _) _)⟩) (hh5 q0 r0), hh6, hh7, hh8, hh9, fun q0 => (fun ⟨g, c9, e, o⟩ => ⟨g, c9, e, own_below o (Below.alloc (Below.refl W.heap.size W) (Nat.le_refl _) _)⟩) (hh10 q0), fun q0 => (fun ⟨gx, cx, q, e, h⟩ => ⟨gx, cx, q, e, own_below h (Below.alloc (Below.refl W.heap.size W) (Nat.le_refl _) _)⟩) (hh11 q0), fun q0 => (fun ⟨gx, cx, q, e, h⟩ => ⟨gx, cx, q, e, own_below h (Below.alloc (Below.refl W.heap.size W) (Nat.le_refl _) _)⟩) (hh12 q0), fun q0 => (fun ⟨gx, cx, q, e, h⟩ => ⟨gx, cx, q, e, own_below h (Below.alloc (Below.refl W.heap.size W) (Nat.le_refl _) _)⟩) (hh13 q0), hh14, fun q0 => (fun ⟨gx, cx, q, e, h⟩ => ⟨gx, cx, q, e, own_below h (Below.alloc (Below.refl W.heap.size W) (Nat.le_refl _) _)⟩) (hh15 q0), hh16, hx0, hx1, hx2, hx3, hx4⟩
          · -- operation 2
            cases ho
            go_simp
            exact hK _ _ ⟨_, _, _, _, _, _, _, _, _, _, _, _, _, _, _, _, _, rfl, hB, hh0, hh1, fun _ => rfl, hh3, hh4, hh5, hh6, hh7, hh8, hh9, hh10, hh11, hh12, hh13, hh14, hh15, hh16, hx0, hx1, hx2, hx3, hx4⟩
          · -- operation 3
            cases ho
            go_simp
            exact hK _ _ ⟨_, _, _, _, _, _, _, _, _, _, _, _, _, _, _, _, _, rfl, hB, hh0, hh1, hh2, fun _ => rfl, hh4, hh5, hh6, hh7, hh8, hh9, hh10, hh11, hh12, hh13, hh14, hh15, hh16, hx0, hx1, hx2, hx3, hx4⟩
          · -- operation 4
            cases ho
            obtain rfl := hh2 (hdep ⟨2, .data⟩ (by simp) rfl)
            obtain rfl := hh3 (hdep ⟨3, .data⟩ (by simp) rfl)
            go_simp
            exact hK _ _ ⟨_, _, _, _, _, _, _, _, _, _, _, _, _, _, _, _, _, rfl, hB, hh0, hh1, hh2, hh3, fun _ => rfl, hh5, hh6, hh7, hh8, hh9, hh10, hh11, hh12, hh13, hh14, hh15, hh16, hx0, hx1, hx2, hx3, hx4⟩
          · -- operation 5
            cases ho
            have hd1 := hdep ⟨1, .data⟩ (by simp) rfl
            obtain ⟨g9, rfl, oe⟩ := hh1 hd1 hL
            obtain rfl := hh4 (hdep ⟨4, .data⟩ (by simp) rfl)
            refine step_append rfl (.tmp 42) (.tmp 45) 42 rfl wa.heap.size 54 i0 (.agg #[.int .i64 0, .int .i64 0, .int .i64 0]) 3 24 Try.underlying42 hi hz0 hz1 hz2 rfl (by decide) _ 0 _ rfl oe b k d (flatCargo (T.take k)) rfl HT1.out (HN1.out W hB) (flatCargo_one _) (by unfold maxLen; omega) (by omega) hB.size (fun e => nomatch e) ?_
            intro g1 cap w9 hown hgr
            rw [Nat.zero_add, List.nil_append] at hown
            rw [Nat.zero_add]
            exact hK _ _ ⟨_, _, _, _, _, _, _, _, _, _, _, _, _, _, _, _, _, rfl, hB.grown hgr hB.size (fun q e => (oe.lt q e).1), hh0, (fun _ q0 => nomatch q0), hh2, hh3, hh4, fun _ => fun _ => ⟨_, _, rfl, hown⟩, hh6, hh7, hh8, hh9, (fun q0 => absurd (hx0 q0) (by rw [hL]; simp)), (fun q0 => absurd (hx0 (hx1 q0)) (by rw [hL]; simp)), (fun q0 => absurd (hx0 (hx1 (hx2 q0))) (by rw [hL]; simp)), (fun q0 => absurd (hx0 (hx1 (hx2 (hx3 q0)))) (by rw [hL]; simp)), hh14, (fun q0 => absurd (hx0 (hx1 (hx2 (hx3 (hx4 q0))))) (by rw [hL]; simp)), hh16, fun _ => rfl, hx1, hx2, hx3, hx4⟩
          · -- operation 6
            cases ho
            go_simp
            exact hK _ _ ⟨_, _, _, _, _, _, _, _, _, _, _, _, _, _, _, _, _, rfl, hB, hh0, hh1, hh2, hh3, hh4, hh5, fun _ => rfl, hh7, hh8, hh9, hh10, hh11, hh12, hh13, hh14, hh15, hh16, hx0, hx1, hx2, hx3, hx4⟩
          · -- operation 7
            cases ho
            go_simp
            exact hK _ _ ⟨_, _, _, _, _, _, _, _, _, _, _, _, _, _, _, _, _, rfl, hB, hh0, hh1, hh2, hh3, hh4, hh5, hh6, fun _ => rfl, hh8, hh9, hh10, hh11, hh12, hh13, hh14, hh15, hh16, hx0, hx1, hx2, hx3, hx4⟩
          · -- operation 8
            cases ho
            obtain rfl := hh7 (hdep ⟨7, .data⟩ (by simp) rfl)
            go_simp
            rw [show IntKind.i64.wrap ((k : Int) + 1) = ((k + 1 : Nat) : Int) from (by rw [IntKind.wrap_i64]; omega)]
            exact hK _ _ ⟨_, _, _, _, _, _, _, _, _, _, _, _, _, _, _, _, _, rfl, hB, hh0, hh1, hh2, hh3, hh4, hh5, hh6, hh7, fun _ => rfl, hh9, hh10, hh11, hh12, hh13, hh14, hh15, hh16, hx0, hx1, hx2, hx3, hx4⟩
          · -- operation 9
            cases ho
            obtain rfl := hh6 (hdep ⟨6, .data⟩ (by simp) rfl)
            obtain rfl := hh8 (hdep ⟨8, .data⟩ (by simp) rfl)
            have hk9 : (k : Int) + 1 ≤ (m : Int) := by omega
            have hk8 : (0 : Int) ≤ (k : Int) + 1 := by omega
            go_simp
            exact hK _ _ ⟨_, _, _, _, _, _, _, _, _, _, _, _, _, _, _, _, _, rfl, hB, hh0, hh1, hh2, hh3, hh4, hh5, hh6, hh7, hh8, fun _ => (by rw [HAQ.out]), hh10, hh11, hh12, hh13, hh14, hh15, hh16, hx0, hx1, hx2, hx3, hx4⟩
          · -- operation 10
            cases ho
            have hd5 := hdep ⟨5, .data⟩ (by simp) rfl
            obtain ⟨g9, c9, rfl, oe⟩ := hh5 hd5 hL
            obtain rfl := hh9 (hdep ⟨9, .data⟩ (by simp) rfl)
            refine step_append rfl (.tmp 46) (.tmp 50) 42 rfl wa.heap.size 54 i0 (.agg #[.int .i64 0, .int .i64 0, .int .i64 0]) 3 24 Try.underlying42 hi hz0 hz1 hz2 rfl (by decide) _ k _ rfl oe aq (m - (k + 1)) (d - (k + 1)) (flatCargo (T.drop (k + 1))) rfl HT2.out (HN2.out W hB) (flatCargo_one _) (by unfold maxLen; omega) (by omega) hB.size (fun e => nomatch e) ?_
            intro g1 cap w9 hown hgr
            rw [hki] at hown ⊢
            exact hK _ _ ⟨_, _, _, _, _, _, _, _, _, _, _, _, _, _, _, _, _, rfl, hB.grown hgr hB.size (fun q e => (oe.lt q e).1), hh0, (fun _ q0 => absurd ((show Fl9 5 = false from q0).symm.trans hd5) (by simp)), hh2, hh3, hh4, (fun _ q0 => nomatch q0), hh6, hh7, hh8, hh9, fun _ => ⟨_, _, rfl, hown⟩, (fun q0 => absurd (hx1 q0) (by rw [hL]; simp)), (fun q0 => absurd (hx1 (hx2 q0)) (by rw [hL]; simp)), (fun q0 => absurd (hx1 (hx2 (hx3 q0))) (by rw [hL]; simp)), hh14, (fun q0 => absurd (hx1 (hx2 (hx3 (hx4 q0)))) (by rw [hL]; simp)), hh16, fun _ => hd5, fun _ => rfl, hx2, hx3, hx4⟩
          · -- operation 11
            cases ho
            obtain rfl := hh0 (hdep ⟨0, .data⟩ (by simp) rfl)
            have hd10 := hdep ⟨10, .data⟩ (by simp) rfl
            obtain ⟨g9, c9, rfl, ho9⟩ := hh10 hd10
            go_simp
            refine (CB.out W g9 c9 hB ho9).mono ?_
            rintro e w9 ⟨gx, cx, q, rfl, hcx, hb9⟩
            exact hK _ _ ⟨_, _, _, _, _, _, _, _, _, _, _, _, _, _, _, _, _, rfl, hB.trans (hb9.mono hB.size), hh0, fun q0 r0 => (fun ⟨g, e, o⟩ => ⟨g, e, own_below o hb9⟩) (hh1 q0 r0), hh2, hh3, hh4, fun q0 r0 => (fun ⟨g, c9, e, o⟩ => ⟨g, c9, e, own_below o hb9⟩) (hh5 q0 r0), hh6, hh7, hh8, hh9, fun q0 => (fun ⟨g, c9, e, o⟩ => ⟨g, c9, e, own_below o hb9⟩) (hh10 q0), fun _ => ⟨_, _, _, rfl, hcx⟩, fun q0 => (fun ⟨gx, cx, q, e, h⟩ => ⟨gx, cx, q, e, own_below h hb9⟩) (hh12 q0), fun q0 => (fun ⟨gx, cx, q, e, h⟩ => ⟨gx, cx, q, e, own_below h hb9⟩) (hh13 q0), hh14, fun q0 => (fun ⟨gx, cx, q, e, h⟩ => ⟨gx, cx, q, e, own_below h hb9⟩) (hh15 q0), hh16, hx0, fun _ => hd10, fun _ => rfl, hx3, hx4⟩
          · -- operation 12
            cases ho
            have hd11 := hdep ⟨11, .data⟩ (by simp) rfl
            obtain ⟨gx, cx, q, rfl, hcx⟩ := hh11 hd11
            go_simp
            exact hK _ _ ⟨_, _, _, _, _, _, _, _, _, _, _, _, _, _, _, _, _, rfl, hB, hh0, hh1, hh2, hh3, hh4, hh5, hh6, hh7, hh8, hh9, hh10, hh11, fun _ => ⟨_, _, _, rfl, hcx⟩, hh13, hh14, hh15, hh16, hx0, hx1, fun _ => hd11, fun _ => rfl, hx4⟩
          · -- operation 13
            cases ho
            have hd12 := hdep ⟨12, .data⟩ (by simp) rfl
            obtain ⟨gx, cx, q, rfl, hcx⟩ := hh12 hd12
            go_simp
            exact hK _ _ ⟨_, _, _, _, _, _, _, _, _, _, _, _, _, _, _, _, _, rfl, hB, hh0, hh1, hh2, hh3, hh4, hh5, hh6, hh7, hh8, hh9, hh10, hh11, hh12, fun _ => ⟨_, _, _, rfl, hcx⟩, hh14, hh15, hh16, hx0, hx1, hx2, fun _ => hd12, fun _ => rfl⟩
          · -- operation 14
            cases ho
            have hd12 := hdep ⟨12, .data⟩ (by simp) rfl
            obtain ⟨gx, cx, q, rfl, hcx⟩ := hh12 hd12
            go_simp
            exact hK _ _ ⟨_, _, _, _, _, _, _, _, _, _, _, _, _, _, _, _, _, rfl, hB, hh0, hh1, hh2, hh3, hh4, hh5, hh6, hh7, hh8, hh9, hh10, hh11, hh12, hh13, fun _ => rfl, hh15, hh16, hx0, hx1, hx2, hx3, hx4⟩
          · -- operation 15
            cases ho
            have hd13 := hdep ⟨13, .data⟩ (by simp) rfl
            obtain ⟨gx, cx, q, rfl, hcx⟩ := hh13 hd13
            go_simp
            exact hK _ _ ⟨_, _, _, _, _, _, _, _, _, _, _, _, _, _, _, _, _, rfl, hB, hh0, hh1, hh2, hh3, hh4, hh5, hh6, hh7, hh8, hh9, hh10, hh11, hh12, hh13, hh14, fun _ => ⟨_, _, _, rfl, hcx⟩, hh16, hx0, hx1, hx2, hx3, fun _ => hd13⟩
          · -- operation 16
            cases ho
            obtain rfl := hh14 (hdep ⟨14, .data⟩ (by simp) rfl)
            go_simp
            exact hK _ _ ⟨_, _, _, _, _, _, _, _, _, _, _, _, _, _, _, _, _, rfl, hB, hh0, hh1, hh2, hh3, hh4, hh5, hh6, hh7, hh8, hh9, hh10, hh11, hh12, hh13, hh14, hh15, fun _ => rfl, hx0, hx1, hx2, hx3, hx4⟩
        intro Fl9 ac W hJ hall
        obtain ⟨x41, x42, x43, x44, x45, x46, x47, x48, x49, x50, x51, x52, x40, x53, x54, x12, x13, rfl, hB, hh0, hh1, hh2, hh3, hh4, hh5, hh6, hh7, hh8, hh9, hh10, hh11, hh12, hh13, hh14, hh15, hh16, -, -, -, -, -⟩ := hJ
        obtain rfl := hh0 (hall 0 (by decide))
        obtain rfl := hh2 (hall 2 (by decide))
        obtain rfl := hh3 (hall 3 (by decide))
        obtain rfl := hh4 (hall 4 (by decide))
        obtain rfl := hh6 (hall 6 (by decide))
        obtain rfl := hh7 (hall 7 (by decide))
        obtain rfl := hh8 (hall 8 (by decide))
        obtain rfl := hh9 (hall 9 (by decide))
        obtain rfl := hh14 (hall 14 (by decide))
        obtain rfl := hh16 (hall 16 (by decide))
        clear hh1
        clear hh5
        clear hh10
        clear hh11
        clear hh12
        clear hh13
        obtain ⟨gy, cy, qy, rfl, hcy⟩ := hh15 (hall 15 (by decide))
        clear hall
        have HBe := Lib.hid (HBw.out.trans (hB.mono HBw.out.size))
        have HXe := Lib.hid (own_below HXa.out hB)
        have HY := Lib.hid hcy
        clear hB hcy HBw HXa HTa CB HT1 HT2 HN1 HN2 HAQ
        have HNY : Hid (foldK [] G (k + 1) = if az < 0 ∨ BL.2 < az then BL else (aR, az)) := Lib.hid (by rw [HNX.out, HGL.out]; rfl)
        clear HNX HGL
        by_cases h1 : az < 0
        · have HF : Hid (foldK [] G (k + 1) = BL) := Lib.hid (by rw [HNY.out, if_pos (.inl h1)])
          clear HNY
          go_wp2_with fail
          go_roundw
          case rel => exact ⟨k + 1, by omega, by go_num, by rw [HF.out], ⟨_, _, _, rfl, by rw [HF.out]; exact HY.out⟩, HBe.out⟩
          case measure => simp [intOf]; omega
        · by_cases h2 : BL.2 < az
          · have HF : Hid (foldK [] G (k + 1) = BL) := Lib.hid (by rw [HNY.out, if_pos (.inr h2)])
            clear HNY
            go_wp2_with fail
            go_roundw
            case rel => exact ⟨k + 1, by omega, by go_num, by rw [HF.out], ⟨_, _, _, rfl, by rw [HF.out]; exact HY.out⟩, HBe.out⟩
            case measure => simp [intOf]; omega
          · have HF : Hid (foldK [] G (k + 1) = (aR, az)) := Lib.hid (by rw [HNY.out, if_neg (by omega)])
            clear HNY
            go_wp2_with fail
            go_roundw
            case rel => exact ⟨k + 1, by omega, by go_num, by rw [HF.out], ⟨_, _, _, rfl, by rw [HF.out]; exact HXe.out⟩, HBe.out⟩
            case measure => simp [intOf]; omega
      · have hk1 : ¬ (k : Int) < (m : Int) := by omega
        obtain rfl : k = m := by omega
        go_wp2_with fail
        go_ret2
        exact ⟨gx, cx, q, by rw [HEND.out]; rfl, by rw [HEND.out]; exact HX.out, HB.out⟩
end Go.Proofs.Ytgnopkemcgbedab
