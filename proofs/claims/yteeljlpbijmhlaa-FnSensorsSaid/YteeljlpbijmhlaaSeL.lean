/- Slices of slices of integers: what came in, the size, the copy, equality. -/
import Derived.Test.YteeljlpbijmhlaaSeC
import Derived.Test.YteeljlpbijmhlaaSeV
import Derived.Test.YteeljlpbijmhlaaIntX
import Derived.Test.YteeljlpbijmhlaaCur
namespace Go.Proofs.Yteeljlpbijmhlaa
open Go.RowKit Go.PlainAid Go.Sort
set_option linter.unusedVariables false
set_option linter.unusedSimpArgs false

structure TSl where
  a : Option Addr
  n : Nat
  c : Nat
  zs : List Int
def noSl : TSl := ⟨none, 0, 0, []⟩
abbrev valSl (v : TSl) : Value := .slice v.a v.n v.c
def flatSl (vs : List TSl) : List Value := vs.map valSl
def tss (vs : List TSl) : List (List Int) := vs.map fun v => v.zs
theorem getSl {vs : List TSl} {j : Nat} (h : j < vs.length) : vs.getD j noSl = vs[j] := by
  rw [List.getD_eq_getElem?_getD, List.getElem?_eq_getElem h]
  rfl
theorem tss_len (vs : List TSl) : (tss vs).length = vs.length := by simp [tss]
theorem tss_at {vs : List TSl} {k : Nat} (hk : k < vs.length) : (tss vs)[k]'(by rw [tss_len]; exact hk) = (vs.getD k noSl).zs := by
  rw [getSl hk]
  simp [tss]
/-- A row of slices of integers, all below block B. -/
structure IsSls (w : World) (B : Nat) (A : Option Addr) (n : Nat) (vs : List TSl) : Prop where
  len : vs.length = n
  low : B ≤ w.heap.size
  has : Has w B A (flatSl vs)
  each : ∀ k, k < n → (vs.getD k noSl).zs.length = (vs.getD k noSl).n ∧ (vs.getD k noSl).n ≤ maxLen ∧ Has w B (vs.getD k noSl).a ((vs.getD k noSl).zs.map (.int .i64))
theorem IsSls.below {w w' : World} {B C n : Nat} {A : Option Addr} {vs : List TSl} (h : IsSls w B A n vs) (hb : Below C w w') (hC : B ≤ C) : IsSls w' B A n vs :=
  ⟨h.len, Nat.le_trans h.low hb.size, h.has.below (hb.mono hC), fun k hk => ⟨(h.each k hk).1, (h.each k hk).2.1, (h.each k hk).2.2.below (hb.mono hC)⟩⟩
theorem IsSls.at {w : World} {B n : Nat} {A : Option Addr} {vs : List TSl} (h : IsSls w B A n vs) {k : Nat} (hk : k < n) : ∃ a, A = some a ∧ a.block < B ∧ w.cell? (a.add k) = some (valSl (vs.getD k noSl)) := by
  have hl : k < vs.length := by rw [h.len]; exact hk
  obtain ⟨a, e, hb, hc⟩ := h.has k (valSl (vs.getD k noSl)) (by rw [getSl hl]; simp [flatSl, hl])
  exact ⟨a, e, hb, hc⟩
theorem isSls_nil (w : World) : IsSls w w.heap.size none 0 [] := ⟨rfl, Nat.le_refl _, Has.nil _ _ _, fun k hk => absurd hk (by omega)⟩

theorem rowsSl {w : World} {a : Addr} : ∀ (m : Nat),
    (∀ i, i < m → ∃ v : TSl, w.cell? (a.add i) = some (valSl v) ∧ v.zs.length = v.n ∧ v.n ≤ maxLen ∧ Has w w.heap.size v.a (v.zs.map (.int .i64))) →
    ∃ vs : List TSl, vs.length = m ∧ Has w w.heap.size (some a) (flatSl vs) ∧ ∀ k, k < m → (vs.getD k noSl).zs.length = (vs.getD k noSl).n ∧ (vs.getD k noSl).n ≤ maxLen ∧ Has w w.heap.size (vs.getD k noSl).a ((vs.getD k noSl).zs.map (.int .i64))
  | 0, _ => ⟨[], rfl, Has.nil _ _ _, fun k hk => absurd hk (by omega)⟩
  | m + 1, h => by
    obtain ⟨vs, hl, hh, he⟩ := rowsSl m (fun i hi => h i (by omega))
    obtain ⟨v, c0, r⟩ := h m (by omega)
    have hb : a.block < w.heap.size := by
      have := World.block_lt_of_cell? w (a.add m) c0
      rwa [addBlock] at this
    refine ⟨vs ++ [v], by simp [hl], ?_, ?_⟩
    · intro k u hu
      unfold flatSl at hu
      rw [List.map_append] at hu
      by_cases hk : k < m
      · rw [List.getElem?_append_left (by simp; omega)] at hu
        exact hh k u hu
      · rw [List.getElem?_append_right (by simp; omega)] at hu
        simp only [List.length_map, hl] at hu
        obtain ⟨j, rfl⟩ : ∃ j, k = m + j := ⟨k - m, by omega⟩
        rw [Nat.add_sub_cancel_left] at hu
        match j, hu with
        | 0, hu => injection hu with hu; exact ⟨a, rfl, hb, by rw [← hu]; exact c0⟩
        | j + 1, hu => simp at hu
    · intro k hk
      by_cases hkm : k < m
      · rw [List.getD_eq_getElem?_getD, List.getElem?_append_left (by omega), ← List.getD_eq_getElem?_getD]
        exact he k hkm
      · obtain rfl : k = m := by omega
        rw [List.getD_eq_getElem?_getD, List.getElem?_append_right (by omega), hl, Nat.sub_self]
        exact r
open Go.ChangeShapes Go.WideShapes Go.Deep in
/-- A row of slices that came in. -/
theorem open_intss {H : Type} {enc : TypeId × Value → H} {P : Program} {w : World} {base : Nat} {spare : Nat → Bool} {held : Bool} {t e d : TypeId} {fuel : Nat} {cs : List Value} {x : DataW H × List MemPlace}
    (ht : P.underlying t = some (.slice e)) (he : P.underlying e = some (.slice d)) (hC : P.cellsOf e = 1) (hd : P.underlying d = some (.int .i64)) (hD : P.cellsOf d = 1)
    (h : DataW.trod enc P w base spare held fuel t cs = some x) :
    ∃ (A : Option Addr) (len cap : Nat) (vs : List TSl), cs = [.slice A len cap] ∧ len ≤ maxLen ∧ IsSls w w.heap.size A len vs := by
  rcases open_slice ht h with ⟨rfl, _⟩ | ⟨a, len, cap, m, n, D, Pl, rfl, _, hl, hm, hmm, _, hi⟩
  · exact ⟨none, 0, 0, [], rfl, Nat.zero_le _, isSls_nil w⟩
  · have hlm : len ≤ m := by rw [hmm]; split <;> omega
    obtain ⟨vs, hrl, hh, hee⟩ := rowsSl (w := w) (a := a) len (fun i hil => by
      obtain ⟨cs', hc, ht'⟩ := hi i (by omega)
      rw [hC] at hc
      obtain ⟨_, hcl, hat⟩ := World.cells?_some hc
      have a0 := hat 0 (by omega)
      rw [Nat.mul_one, Go.Deep.add_add, Nat.add_zero] at a0
      rcases open_ints he hd hD ht' with ⟨rfl, _⟩ | ⟨x', l', c', zs, rfl, _, hl', hm', hz', _, hcell, _⟩
      · exact ⟨⟨none, 0, 0, []⟩, a0, rfl, Nat.zero_le _, Has.nil _ _ _⟩
      · have hzl : l' ≤ zs.length := by rw [hz']; split <;> omega
        refine ⟨⟨some x', l', c', zs.take l'⟩, a0, by simp; omega, by show l' ≤ maxLen; omega, ?_⟩
        intro k u hu
        have hk : k < l' := by
          have := (List.getElem?_eq_some_iff.1 hu).1
          simp at this
          omega
        have hc2 := hcell k (by omega)
        have hb := World.block_lt_of_cell? w (x'.add k) hc2
        rw [addBlock] at hb
        refine ⟨x', rfl, hb, hc2.trans ?_⟩
        rw [List.getElem?_map, List.getElem?_take, if_pos hk, List.getElem?_eq_getElem (by omega)] at hu
        rw [← hu, List.getD_eq_getElem?_getD, List.getElem?_eq_getElem (by omega)]
        rfl)
    exact ⟨some a, len, cap, vs, rfl, by omega, hrl, Nat.le_refl _, hh, hee⟩

/-- What the size tells. -/
def SzP (vs : List TSl) (n : Nat) (left v : Int) : Prop := 0 ≤ v → (n : Int) ≤ left ∧ ∀ k, k < n → ((vs.getD k noSl).n : Int) ≤ left
set_option maxHeartbeats 1000000 in
theorem szSS_any {w : World} {B n : Nat} {A : Option Addr} {vs : List TSl} (c : Nat) (h : IsSls w B A n vs) (hm : n ≤ maxLen) (left : Int) (h0 : 0 ≤ left) (hl : left ≤ 1048576) :
    Calls Try.prog 26 #[.slice A n c, .int .i64 left] w fun e w' => ∃ v : Int, e = .returned (.int .i64 v) ∧ SzP vs n left v ∧ w = w' := by
  have HI := Lib.hid h
  have CO := Lib.hid (fun (A' : Option Addr) (n' c' : Nat) (l : Int) (W : World) h1 h2 h3 => szI_ok A' n' c' l W h1 h2 h3)
  have CN := Lib.hid (fun (A' : Option Addr) (n' c' : Nat) (l : Int) (W : World) h1 h2 h3 h4 => szI_no A' n' c' l W h1 h2 h3 h4)
  have hm2 := hm
  unfold maxLen at hm2
  clear h
  by_cases hfit : (n : Int) ≤ left
  · have hnn : ¬ (left - (n : Int) < 0) := by omega
    go_enter Try.func26, Try.ntmps26
    go_wp2_with fail
    go_loop [1, 5] (fun l i => ∃ (k : Nat) (r : Int), k ≤ n ∧ i = .int .i64 k ∧ l = .int .i64 r ∧ 0 ≤ r ∧ r ≤ left ∧ Hid (∀ j, j < k → ((vs.getD j noSl).n : Int) ≤ left)) (fun _ i => n - (intOf i).toNat)
    case atStart => exact ⟨0, _, Nat.zero_le _, rfl, rfl, by omega, by omega, Lib.hid (fun j hj => absurd hj (by omega))⟩
    case round =>
      obtain ⟨k, r, hk, rfl, rfl, hr0, hr1, hall⟩ := hrel
      by_cases hlt : k < n
      · obtain ⟨a1, ha1, hab, ez⟩ := HI.out.at hlt
        obtain ⟨-, hv2, -⟩ := HI.out.each k hlt
        subst ha1
        have HA : Hid (((vs.getD k noSl).n : Int) ≤ left → ∀ j, j < k + 1 → ((vs.getD j noSl).n : Int) ≤ left) := Lib.hid (fun h j hj => by
          rcases Nat.lt_succ_iff_lt_or_eq.1 hj with h1 | rfl
          · exact hall.out j h1
          · exact h)
        generalize vs.getD k noSl = V at ez hv2 HA
        obtain ⟨A', n', c', zs⟩ := V
        dsimp only at ez hv2 HA
        have hk0 : (0 : Int) ≤ (k : Int) := by omega
        have hk1 : (k : Int) < (n : Int) := by omega
        by_cases hf : (n' : Int) ≤ r
        · have C := Lib.hid (fun W => CO.out A' n' c' r W hv2 (by omega) hf)
          have hrn : ¬ (r - (n' : Int) < 0) := by omega
          have HR := Lib.hid (HA.out (by omega))
          unfold maxLen at hv2
          clear CO CN HA hall
          go_wp2_with fail
          refine (C.out _).mono ?_
          rintro e w1 ⟨rfl, rfl⟩
          go_wp2_with fail
          go_round
          case rel => exact ⟨k + 1, _, by omega, by go_num, rfl, by omega, by omega, HR⟩
          case measure => simp [intOf]; omega
        · have C := Lib.hid (fun W => CN.out A' n' c' r W hv2 hr0 (by omega) (by omega))
          clear CO CN HA hall
          go_wp2_with fail
          refine (C.out _).mono ?_
          rintro e w1 ⟨rfl, rfl⟩
          go_wp2_with fail
          go_ret
          exact ⟨-1, rfl, fun h => absurd h (by omega), rfl⟩
      · obtain rfl : k = n := by omega
        clear CO CN
        go_wp2_with fail
        go_ret
        exact ⟨r, rfl, fun _ => ⟨hfit, hall.out⟩, rfl⟩
  · have hnn : left - (n : Int) < 0 := by omega
    clear CO CN
    go_enter Try.func26, Try.ntmps26
    go_wp2_with fail
    go_ret
    exact ⟨-1, rfl, fun h => absurd h (by omega), rfl⟩
theorem Try.infoSl' : (Try.prog.info? 22).map (fun i => (i.zero, i.size, i.bytes)) = some (some (.slice none 0 0), 1, 24) := by kernel_rfl
set_option maxRecDepth 100000 in
set_option maxHeartbeats 2000000 in
/-- The copy of a slice of slices. -/
theorem toSS_any {w : World} {B n : Nat} {A : Option Addr} {vs : List TSl} (c : Nat) (h : IsSls w B A n vs) (hm : n ≤ 1048576) (hs : ∀ k, k < n → (vs.getD k noSl).n ≤ 1048576) :
    Calls Try.prog 28 #[.slice A n c] w fun e w' => ∃ (g : Nat) (us : List TSl), e = .returned (.slice (some ⟨g, 0, none⟩) n n) ∧ IsSls w' w'.heap.size (some ⟨g, 0, none⟩) n us ∧ tss us = tss vs ∧ Below w.heap.size w w' := by
  obtain ⟨i0, hi, hz0, hz1, hz2⟩ := info_parts Try.infoSl'
  have HI := Lib.hid h
  have HS := Lib.hid hs
  have CT := Lib.hid (fun (A' : Option Addr) (n' c' B' : Nat) (zs : List Int) (W : World) h1 h2 h3 h4 => toI_ex A' n' c' B' zs W h1 h2 h3 h4)
  clear h hs
  go_enter Try.func28, Try.ntmps28
  go_wp2_with (at_make; refine wpList_make_full _ rfl _ _ 33 rfl w.heap.size 22 i0 (.slice none 0 0) 1 Try.underlying33 hi hz0 hz1 _ _ _ _ n rfl rfl rfl rfl ?b2 ?b3 (Nat.le_refl _) ?_)
  case b2 => rw [hz2]; omega
  case b3 => unfold maxLen; omega
  intro w0 hown0 hgrow0
  have hb0 : Below w.heap.size w w0 := (Below.refl _ _).grown hgrow0 (Nat.le_refl _) (fun k h => by cases h)
  obtain ⟨g, hg⟩ : ∃ g, w.heap.size = g := ⟨_, rfl⟩
  have HG := Lib.hid hg
  have HO := Lib.hid hown0
  have HB := Lib.hid hb0
  clear hgrow0 hown0 hb0
  rw [hg] at HO
  try simp only [hg]
  clear hg
  go_wp2_with fail
  go_loopw [4] (fun i wr => ∃ (k : Nat) (us : List TSl) (rest : List Value), k ≤ n ∧ i = .int .i64 k ∧ Hid (wr.ownsRow g 22 1 (.slice (some ⟨g, 0, none⟩) n n) n (flatSl us ++ rest)) ∧ Hid (us.length = k ∧ tss us = tss (vs.take k) ∧
      ∀ j, j < k → (us.getD j noSl).zs.length = (us.getD j noSl).n ∧ (us.getD j noSl).n ≤ maxLen ∧ ∃ b, (us.getD j noSl).a = some ⟨b, 0, none⟩ ∧ g < b ∧ ∀ i u, ((us.getD j noSl).zs.map (Value.int .i64))[i]? = some u → wr.cell? ⟨b, i, none⟩ = some u) ∧ Below g w wr)
    (fun i _ => n - (intOf i).toNat)
  case atStart => exact ⟨0, [], _, Nat.zero_le _, rfl, HO, Lib.hid ⟨rfl, rfl, fun j hj => absurd hj (by omega)⟩, by rw [← HG.out]; exact HB.out⟩
  case round =>
    clear HO HB
    obtain ⟨k, us, rest, hk, rfl, hown, hus, hb⟩ := hrel
    have HB : Hid (Below w.heap.size w wr) := Lib.hid (by rw [HG.out]; exact hb)
    by_cases hlt : k < n
    · obtain ⟨a1, ha1, hab, ez⟩ := (HI.out.below HB.out HI.out.low).at hlt
      obtain ⟨hv1, hv2, hv3⟩ := (HI.out.below HB.out HI.out.low).each k hlt
      have hv4 := HS.out k hlt
      subst ha1
      have HT : Hid (tss (vs.take (k + 1)) = tss (vs.take k) ++ [(vs.getD k noSl).zs]) := Lib.hid (by
        have hl : k < vs.length := by rw [HI.out.len]; exact hlt
        rw [List.take_succ_eq_append_getElem hl, getSl hl]
        unfold tss
        rw [List.map_append]
        rfl)
      generalize vs.getD k noSl = V at ez hv1 hv2 hv3 hv4 HT
      obtain ⟨A', n', c', zs⟩ := V
      dsimp only at ez hv1 hv2 hv3 hv4 HT
      have C := Lib.hid (CT.out A' n' c' B zs wr hv1 hv4 (Nat.le_trans HI.out.low HB.out.size) hv3)
      have hk0 : (0 : Int) ≤ (k : Int) := by omega
      have hk1 : (k : Int) < (n : Int) := by omega
      have HBg := Lib.hid hb
      clear CT hb hv3
      go_wp2_with fail
      refine C.out.mono ?_
      rintro e w1 ⟨b, rfl, hob, hbb⟩
      have hgl := (hown.out.lt g rfl).2
      have hbl := hob.lt b rfl
      have HOb := Lib.hid hob
      have hown1 := hown.out.kept (grownBelow hbb none) (.inr (by simp [Value.ownBlock]))
      have hrl : rest.length = n - k := by
        have := hown.out.1
        rw [List.length_append] at this
        simp only [flatSl, List.length_map, hus.out.1] at this
        omega
      have hcell := hown1.cellAt k (by omega)
      have hfz := hown1.frozenAt k
      have hst := hown1.stored k (.slice (some ⟨b, 0, none⟩) n' n')
      obtain ⟨old, hold⟩ : ∃ old, (flatSl us ++ rest)[k]? = some old := ⟨_, List.getElem?_eq_getElem (by rw [List.length_append]; simp only [flatSl, List.length_map, hus.out.1]; omega)⟩
      rw [hold] at hcell
      have HB1 := Lib.hid (HBg.out.trans (hbb.mono (Nat.le_of_lt hgl)))
      have hne : b ≠ g := by omega
      have HNEW : Hid (∀ i u, (zs.map (Value.int .i64))[i]? = some u → (w1.setCell ⟨g, k, none⟩ (.slice (some ⟨b, 0, none⟩) n' n')).cell? ⟨b, i, none⟩ = some u) := Lib.hid (fun i u hu => by
        have hc : w1.cell? ⟨b, i, none⟩ = some u := by
          obtain ⟨a', e', -, hc⟩ := ownS_has HOb.out i u hu
          injection e' with e'
          rw [← e', addZ] at hc
          exact hc
        exact (World.cell?_of_block (a := ⟨b, i, none⟩) (Below.heap_setCell _ _ _ _ hne)).trans hc)
      have HSET : Hid ((flatSl us ++ rest).set k (.slice (some ⟨b, 0, none⟩) n' n') = flatSl (us ++ [⟨some ⟨b, 0, none⟩, n', n', zs⟩]) ++ rest.drop 1) := Lib.hid (by
        have hul : (flatSl us).length = k := by simp [flatSl, hus.out.1]
        rw [List.set_append_right _ _ (by omega), hul, Nat.sub_self]
        cases rest with
        | nil => simp at hrl; omega
        | cons r t => simp [flatSl])
      have HUS : Hid ((us ++ [(⟨some ⟨b, 0, none⟩, n', n', zs⟩ : TSl)]).length = k + 1 ∧ tss (us ++ [(⟨some ⟨b, 0, none⟩, n', n', zs⟩ : TSl)]) = tss (vs.take (k + 1)) ∧
          ∀ j, j < k + 1 → ((us ++ [(⟨some ⟨b, 0, none⟩, n', n', zs⟩ : TSl)]).getD j noSl).zs.length = ((us ++ [(⟨some ⟨b, 0, none⟩, n', n', zs⟩ : TSl)]).getD j noSl).n ∧ ((us ++ [(⟨some ⟨b, 0, none⟩, n', n', zs⟩ : TSl)]).getD j noSl).n ≤ maxLen ∧
            ∃ b', ((us ++ [(⟨some ⟨b, 0, none⟩, n', n', zs⟩ : TSl)]).getD j noSl).a = some ⟨b', 0, none⟩ ∧ g < b' ∧ ∀ i u, (((us ++ [(⟨some ⟨b, 0, none⟩, n', n', zs⟩ : TSl)]).getD j noSl).zs.map (Value.int .i64))[i]? = some u → (w1.setCell ⟨g, k, none⟩ (.slice (some ⟨b, 0, none⟩) n' n')).cell? ⟨b', i, none⟩ = some u) := Lib.hid (by
        refine ⟨by simp [hus.out.1], by rw [HT.out, ← hus.out.2.1]; simp [tss], fun j hj => ?_⟩
        rcases Nat.lt_succ_iff_lt_or_eq.1 hj with h1 | rfl
        · rw [List.getD_eq_getElem?_getD, List.getElem?_append_left (by rw [hus.out.1]; exact h1), ← List.getD_eq_getElem?_getD]
          obtain ⟨q1, q2, b', q3, q4, q5⟩ := hus.out.2.2 j h1
          refine ⟨q1, q2, b', q3, q4, fun i u hu => ?_⟩
          have hc := q5 i u hu
          have hb' := World.block_lt_of_cell? _ _ hc
          have hne' : b' ≠ g := by omega
          exact (World.cell?_of_block (a := ⟨b', i, none⟩) (Below.heap_setCell _ _ _ _ hne')).trans ((hbb.cell (p := ⟨b', i, none⟩) hb').trans hc)
        · rw [List.getD_eq_getElem?_getD, List.getElem?_append_right (by rw [hus.out.1]; exact Nat.le_refl _), hus.out.1, Nat.sub_self]
          exact ⟨hv1, hv2, b, rfl, by omega, HNEW.out⟩)
      clear hown1 hob hbb hown hus HNEW HT hbl hgl
      go_wp2_with fail
      go_roundw
      case rel => exact ⟨k + 1, _, rest.drop 1, by omega, by go_num, Lib.hid (by rw [← HSET.out]; exact hst.1), HUS, HB1.out.setCell (p := ⟨g, k, none⟩) (Nat.le_refl _) _⟩
      case measure => simp [intOf]; omega
    · obtain rfl : k = n := by omega
      have hrl : rest = [] := by
        have := hown.out.1
        rw [List.length_append] at this
        simp only [flatSl, List.length_map, hus.out.1] at this
        exact List.length_eq_zero_iff.1 (by omega)
      subst hrl
      have HR : Hid (IsSls wr wr.heap.size (some ⟨g, 0, none⟩) k us) := Lib.hid ⟨hus.out.1, Nat.le_refl _, by have := ownS_has hown.out; rwa [List.append_nil] at this, fun j hj => by
        obtain ⟨q1, q2, b', q3, q4, q5⟩ := hus.out.2.2 j hj
        refine ⟨q1, q2, fun i u hu => ⟨⟨b', 0, none⟩, q3, ?_, by rw [addZ]; exact q5 i u hu⟩⟩
        exact World.block_lt_of_cell? _ ⟨b', i, none⟩ (q5 i u hu)⟩
      have HTS : Hid (tss us = tss vs) := Lib.hid (by have := hus.out.2.1; rwa [List.take_of_length_le (by rw [HI.out.len]; exact Nat.le_refl _)] at this)
      clear hown hus hb CT
      go_wp2_with fail
      go_ret
      exact ⟨g, us, rfl, HR.out, HTS.out, HB.out⟩
set_option maxHeartbeats 1000000 in
theorem eqSS_same {w : World} {B B' n : Nat} {A A' : Option Addr} {vs us : List TSl} (c c' : Nat) (h : IsSls w B A n vs) (h' : IsSls w B' A' n us) (ht : tss us = tss vs) (hm : n ≤ 1048576) :
    Calls Try.prog 30 #[.slice A n c, .slice A' n c'] w fun e w' => e = .returned (.bool true) ∧ Below w.heap.size w w' := by
  have HI := Lib.hid h
  have HI' := Lib.hid h'
  have HT : Hid (∀ k, k < n → (us.getD k noSl).zs = (vs.getD k noSl).zs) := Lib.hid (fun k hk => by
    have h1 : k < vs.length := by rw [h.len]; exact hk
    have h2 : k < us.length := by rw [h'.len]; exact hk
    rw [← tss_at h1, ← tss_at h2]
    simp only [ht])
  clear h h' ht
  go_enter Try.func30, Try.ntmps30
  go_wp2_with fail
  go_loopw [5] (fun i wr => ∃ k : Nat, k ≤ n ∧ i = .int .i64 k ∧ Below w.heap.size w wr) (fun i _ => n - (intOf i).toNat)
  case atStart => exact ⟨0, Nat.zero_le _, rfl, Below.refl _ _⟩
  case round =>
    obtain ⟨k, hk, rfl, hb⟩ := hrel
    have HB := Lib.hid hb
    by_cases hlt : k < n
    · obtain ⟨a1, ha1, hab, e1⟩ := (HI.out.below hb HI.out.low).at hlt
      obtain ⟨a2, ha2, -, e2⟩ := (HI'.out.below hb HI'.out.low).at hlt
      subst ha1 ha2
      have C : Hid (∀ W, Below w.heap.size w W → Calls Try.prog 19 #[valSl (vs.getD k noSl), valSl (us.getD k noSl)] W fun e w' => e = .returned (.bool true) ∧ Below W.heap.size W w') := Lib.hid (fun W hW => by
        obtain ⟨p1, p2, p3⟩ := (HI.out.below hW HI.out.low).each k hlt
        obtain ⟨q1, q2, q3⟩ := (HI'.out.below hW HI'.out.low).each k hlt
        have hzz := HT.out k hlt
        have hnn : (us.getD k noSl).n = (vs.getD k noSl).n := by rw [← q1, ← p1, hzz]
        rw [hzz] at q3
        unfold valSl
        rw [hnn]
        exact (eqI_same _ _ _ _ _ _ _ _ W p1 p2 p3 q3).mono fun _ _ ⟨a, b⟩ => ⟨a, b.below _⟩)
      have E1 := fun (d : Nat) (os : Array Obj) => cell_regrown e1 d os
      have E2 := fun (d : Nat) (os : Array Obj) => cell_regrown e2 d os
      generalize vs.getD k noSl = V at e1 E1 C
      generalize us.getD k noSl = U at e2 E2 C
      obtain ⟨va, vn, vc, vz⟩ := V
      obtain ⟨ua, un, uc, uz⟩ := U
      have c1 := fun (dr : Nat) (os : Array Obj) => Calls.regrown_of (w := wr) (d := dr) (os := os) (C.out _ (HB.out.trans ((below_regrown wr dr os).mono HB.out.size)))
      dsimp only [valSl] at E1 E2 c1
      have hk0 : (0 : Int) ≤ (k : Int) := by omega
      have hk1 : (k : Int) < (n : Int) := by omega
      clear e1 e2 C hb HT
      go_wp2_with fail
      refine wp_region_quiet_below (by kernel_rfl) (by kernel_rfl) ?_
      repeat (go_big_quiet_step (first | exact c1 _ _))
      refine wpQuiet_nil ?_
      intro _ hw'
      obtain ⟨⟨dq, osq⟩, hw''⟩ := hw'
      subst hw''
      have HB1 := Lib.hid (HB.out.trans ((below_regrown wr dq osq).mono HB.out.size))
      clear E1 E2 c1
      go_wp2_with fail
      go_roundw
      case rel => exact ⟨k + 1, by omega, by go_num, HB1.out⟩
      case measure => simp [intOf]; omega
    · obtain rfl : k = n := by omega
      clear hb HT HI HI'
      go_wp2_with fail
      go_ret
      exact ⟨rfl, HB.out⟩
end Go.Proofs.Yteeljlpbijmhlaa
