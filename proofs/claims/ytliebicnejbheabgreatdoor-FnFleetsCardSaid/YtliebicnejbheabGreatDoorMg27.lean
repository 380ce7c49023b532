/- Texts that are joined: Parse, WayPaM. -/
import Derived.Test.YtliebicnejbheabGreatDoorMg26
import Derived.Lib.AtoiErrMem
import Derived.Lib.AtoiAllCases
import Derived.Test.YtliebicnejbheabGreatDoorMg25
/- ParseInt: both functions as contracts. -/
namespace Go.Proofs.YtliebicnejbheabGreatDoor
open Go.RowKit Go.PlainAid

theorem bt_ne45 {x : Nat} : ¬ bt (numB (x : Int)) 0 = 45 := fun e => by have := num_first x; omega

theorem read_ok (n : Int) (s : ByteArray) (w : World) (hm : s.size ≤ 1048576) (h0 : -999999 ≤ n) (h1 : n ≤ 999999) (h : numB n = s) :
    Calls Tryz.prog 36 #[.string s] w fun e w' => e = .returned (.tuple #[.int .i64 n, .bool true]) ∧ Drawn w w' := by
  by_cases hn : n < 0
  · obtain ⟨x, rfl⟩ : ∃ x : Nat, n = -(x : Int) := ⟨n.natAbs, by omega⟩
    obtain ⟨p1, p2, p3⟩ := neg_parts x (by omega)
    subst h
    have hr := rdd_num x (by omega)
    have hv := rdv_num x
    refine read_minus _ _ _ w hm p1 p2 p3 (fun _ _ => by rw [hv]) (fun hno => absurd ⟨hr, by rw [hv]⟩ hno)
  · obtain ⟨x, rfl⟩ : ∃ x : Nat, n = (x : Int) := ⟨n.toNat, by omega⟩
    subst h
    have hr := rdd_num x (by omega)
    have hv := rdv_num x
    exact read_plain _ _ w hm (fun ⟨_, e⟩ => bt_ne45 e) (fun _ _ => by rw [hv]) (fun hno => absurd ⟨hr, by rw [hv]⟩ hno)

theorem read_no (s : ByteArray) (w : World) (hm : s.size ≤ 1048576) (h : ∀ n : Int, -999999 ≤ n → n ≤ 999999 → numB n ≠ s) :
    Calls Tryz.prog 36 #[.string s] w fun e w' => e = .returned (.tuple #[.int .i64 0, .bool false]) ∧ Drawn w w' := by
  by_cases hA : 1 < s.size ∧ bt s 0 = 45
  · exact read_minus s _ _ w hm hA.1 hA.2 rfl (fun hr he => by
      have := pvs_6 (s.extract 1 s.size) _ hr.2.2 hr.2.1
      exact absurd he (h _ (by unfold rdv; omega) (by unfold rdv; omega))) (fun _ => rfl)
  · exact read_plain s _ w hm hA (fun hr he => by
      have := pvs_6 s _ hr.2.2 hr.2.1
      exact absurd he (h _ (by unfold rdv; omega) (by unfold rdv; omega))) (fun _ => rfl)


/-- The library's two errors hold an error each. -/
def Errs (w : World) : Prop := (∃ tp p, w.var? Tryz.prog "strconv.ErrSyntax" = some #[.iface tp p]) ∧ (∃ tp p, w.var? Tryz.prog "strconv.ErrRange" = some #[.iface tp p])
theorem gSyn : Tryz.prog.globalNamed "strconv.ErrSyntax" = some 3 := by kernel_rfl
theorem gRng : Tryz.prog.globalNamed "strconv.ErrRange" = some 4 := by kernel_rfl
theorem var_on {n : String} {g : Nat} {x : Value} {w w' : World} {B : Nat} (hg : Tryz.prog.globalNamed n = some g) (h : w.var? Tryz.prog n = some #[x]) (hb : Below B w w') (hB : w.heap.size ≤ B) : w'.var? Tryz.prog n = some #[x] := by
  have hc := World.var?_cell hg h 0
  have hlt : g < w.heap.size := World.block_lt_of_cell? w (a := ⟨g, 0, none⟩) (hc.trans rfl)
  exact var?_below (hb.mono hB) hg hlt h
theorem Errs.on {w w' : World} {B : Nat} (h : Errs w) (hb : Below B w w') (hB : w.heap.size ≤ B) : Errs w' := by
  obtain ⟨⟨a, b, h1⟩, ⟨c, d, h2⟩⟩ := h
  exact ⟨⟨a, b, var_on gSyn h1 hb hB⟩, ⟨c, d, var_on gRng h2 hb hB⟩⟩
theorem errStar : "*" ++ "errors.errorString" = "*errors.errorString" := by decide
theorem rowErr (u : TypeId) (h : Tryz.prog.typeName? 3 u = some "*errors.errorString") : u = 133 :=
  typeName_ptr_named (nm := "errors.errorString") (by rw [errStar]; kernel_rfl) (by kernel_rfl) (by decide) u (by rw [errStar]; exact h)
theorem errs_of {x y z : String × DataW Unit} {w : World} (h : laidMet Tryz.prog (x :: y :: z :: ("strconv.ErrRange", Rows.laid_strconv_ErrRange) :: ("strconv.ErrSyntax", Rows.laid_strconv_ErrSyntax) :: []) w) : Errs w := by
  have h3 := h.tail.tail.tail
  obtain ⟨a0, s0, hv0, -, -, -⟩ := laid_sentinel h3 gRng (show (Tryz.prog.globals[4]?).map (·.type) = some 81 by kernel_rfl) Tryz.underlying81 rowErr Tryz.underlying133 Tryz.underlying135 rfl rfl Tryz.underlying9 (by kernel_rfl) (by kernel_rfl)
  obtain ⟨a1, s1, hv1, -, -, -⟩ := laid_sentinel h3.tail gSyn (show (Tryz.prog.globals[3]?).map (·.type) = some 81 by kernel_rfl) Tryz.underlying81 rowErr Tryz.underlying133 Tryz.underlying135 rfl rfl Tryz.underlying9 (by kernel_rfl) (by kernel_rfl)
  exact ⟨⟨_, _, hv1⟩, ⟨_, _, hv0⟩⟩

theorem atoi_below {w w' : World} (h : w' = w ∨ ∃ t, w' = Lib.bytesWorld w 5 t) : Below w.heap.size w w' := by
  rcases h with rfl | ⟨t, rfl⟩
  · exact Below.refl _ _
  · exact Lib.bytesWorld_below _ _ _

set_option maxHeartbeats 400000 in
theorem implParse_ok (n : Int) (s : ByteArray) (w : World) (hm : s.size ≤ 1048576) (h0 : -999999 ≤ n) (h1 : n ≤ 999999) (h : numB n = s) (ht : Tab w) :
    Calls Tryz.prog 31 #[.string s] w fun e w' => e = .returned (.tuple #[.int .i64 n, .bool true]) ∧ Below w.heap.size w w' := by
  have HA := Lib.hid (Tryz.strconv_Atoi_ok s (by omega) n (by rw [← h]; exact atoi_num n h0 h1) w)
  have HT := Lib.hid ht
  have HE := Lib.hid h
  have hself : (s.toList == s.toList) = true := beq_self_eq_true _
  clear ht h
  go_enter Tryz.func31, Tryz.ntmps31
  go_wp2_with fail
  refine HA.out.mono ?_
  rintro e w1 ⟨rfl, hw⟩
  have hb1 := atoi_below hw
  clear hw
  go_wp2_with fail
  refine (implFmt_ok n _ h0 h1 (HT.out.on hb1 (Nat.le_refl _))).mono ?_
  rintro e w2 ⟨rfl, hb2⟩
  have hbb := hb1.trans (hb2.mono hb1.size)
  rw [HE.out]
  clear hb1 hb2
  go_wp2_with fail
  go_ret2
  exact ⟨rfl, hbb⟩

set_option maxHeartbeats 400000 in
theorem implParse_no (s : ByteArray) (w : World) (hm : s.size ≤ 1048576) (h : ∀ n : Int, -999999 ≤ n → n ≤ 999999 → numB n ≠ s) (ht : Tab w) (he : Errs w) :
    Calls Tryz.prog 31 #[.string s] w fun e w' => e = .returned (.tuple #[.int .i64 0, .bool false]) ∧ Below w.heap.size w w' := by
  rcases ha : Lib.atoiAll s.data.toList with v | _ | _
  · obtain ⟨v0, v1⟩ := Lib.atoiAll_bounds ha
    have HA := Lib.hid (Tryz.strconv_Atoi_ok s (by omega) v ha w)
    have HT := Lib.hid ht
    clear ht he ha v0 v1
    by_cases hv : -999999 ≤ v ∧ v ≤ 999999
    · have hne := toList_ne (h v hv.1 hv.2)
      obtain ⟨h0, h1⟩ := hv
      have HF := Lib.hid (fun (W : World) (ht : Tab W) => implFmt_ok v W h0 h1 ht)
      clear h
      generalize numB v = B at hne HF
      go_enter Tryz.func31, Tryz.ntmps31
      go_wp2_with fail
      refine HA.out.mono ?_
      rintro e w1 ⟨rfl, hw⟩
      have hb1 := atoi_below hw
      clear hw
      go_wp2_with fail
      refine (HF.out _ (HT.out.on hb1 (Nat.le_refl _))).mono ?_
      rintro e w2 ⟨rfl, hb2⟩
      have hbb := hb1.trans (hb2.mono hb1.size)
      clear hb1 hb2
      go_wp2_with fail
      go_ret2
      exact ⟨rfl, hbb⟩
    · have HV : Hid (v < -999999 ∨ 999999 < v) := Lib.hid (by omega)
      clear hv h
      go_enter Tryz.func31, Tryz.ntmps31
      go_wp2_with fail
      refine HA.out.mono ?_
      rintro e w1 ⟨rfl, hw⟩
      have hb1 := atoi_below hw
      clear hw
      go_wp2_with fail
      refine (implFmt_no v _ HV.out).mono ?_
      rintro e w2 ⟨rfl, rfl⟩
      go_wp2_with fail
      go_ret2
      exact ⟨rfl, hb1⟩
  · obtain ⟨⟨tp, p, hv⟩, -⟩ := he
    have HA := Lib.hid (Tryz.strconv_Atoi_syntax_var s (by omega) ha tp p w hv)
    clear ht ha hv h
    go_enter Tryz.func31, Tryz.ntmps31
    go_wp2_with fail
    refine HA.out.mono ?_
    rintro e w1 ⟨N, rfl, -, -, hb1⟩
    go_wp2_with fail
    go_ret2
    exact ⟨rfl, hb1⟩
  · obtain ⟨-, ⟨tp, p, hv⟩⟩ := he
    have HA := Lib.hid (Tryz.strconv_Atoi_range_var s (by omega) ha tp p w hv)
    clear ht ha hv h
    go_enter Tryz.func31, Tryz.ntmps31
    go_wp2_with fail
    refine HA.out.mono ?_
    rintro e w1 ⟨N, rfl, -, -, hb1⟩
    go_wp2_with fail
    go_ret2
    exact ⟨rfl, hb1⟩
end Go.Proofs.YtliebicnejbheabGreatDoor

/- Chapter 2: the model's reading of a waterway's text, as plain words. -/
namespace Go.Proofs.YtliebicnejbheabGreatDoor
open Go.RowKit Go.PlainAid

/-- A number's text tells the number. -/
theorem numB_inj (n m : Int) (h : numB n = numB m) : n = m := by
  by_cases hn : n < 0
  · obtain ⟨x, rfl⟩ : ∃ x : Nat, n = -(x : Int) := ⟨n.natAbs, by omega⟩
    obtain ⟨p1, p2, p3⟩ := neg_parts x (by omega)
    by_cases hm : m < 0
    · obtain ⟨y, rfl⟩ : ∃ y : Nat, m = -(y : Int) := ⟨m.natAbs, by omega⟩
      obtain ⟨-, -, q3⟩ := neg_parts y (by omega)
      have e : numB (x : Int) = numB (y : Int) := by rw [← p3, ← q3, h]
      have := rdv_num x
      rw [e, rdv_num y] at this
      omega
    · obtain ⟨y, rfl⟩ : ∃ y : Nat, m = (y : Int) := ⟨m.toNat, by omega⟩
      have := num_first y
      rw [← h, p2] at this
      omega
  · obtain ⟨x, rfl⟩ : ∃ x : Nat, n = (x : Int) := ⟨n.toNat, by omega⟩
    by_cases hm : m < 0
    · obtain ⟨y, rfl⟩ : ∃ y : Nat, m = -(y : Int) := ⟨m.natAbs, by omega⟩
      obtain ⟨-, p2, -⟩ := neg_parts y (by omega)
      have := num_first x
      rw [h, p2] at this
      omega
    · obtain ⟨y, rfl⟩ : ∃ y : Nat, m = (y : Int) := ⟨m.toNat, by omega⟩
      have := rdv_num x
      rw [h, rdv_num y] at this
      omega
open Classical in
/-- The number that a word is, if it is one. -/
noncomputable def rdO (s : ByteArray) : Option Int := if h : ∃ n : Int, -999999 ≤ n ∧ n ≤ 999999 ∧ numB n = s then some (Classical.choose h) else none
theorem rdO_num (n : Int) (h0 : -999999 ≤ n) (h1 : n ≤ 999999) : rdO (numB n) = some n := by
  unfold rdO
  have h : ∃ m : Int, -999999 ≤ m ∧ m ≤ 999999 ∧ numB m = numB n := ⟨n, h0, h1, rfl⟩
  rw [dif_pos h]
  rw [numB_inj _ _ (Classical.choose_spec h).2.2]
theorem rdO_some {s : ByteArray} {n : Int} (h : rdO s = some n) : -999999 ≤ n ∧ n ≤ 999999 ∧ numB n = s := by
  unfold rdO at h
  split at h
  · next hx =>
    injection h with h
    rw [← h]
    exact Classical.choose_spec hx
  · cases h
theorem rdO_none {s : ByteArray} (h : rdO s = none) : ∀ n : Int, -999999 ≤ n → n ≤ 999999 → numB n ≠ s := by
  intro n h0 h1 e
  subst e
  rw [rdO_num n h0 h1] at h
  cases h
theorem l1Read_any (s : ByteArray) (w : World) (hm : s.size ≤ 1048576) :
    Calls Tryz.prog 36 #[.string s] w fun e w' => e = .returned (.tuple #[.int .i64 ((rdO s).getD 0), .bool (rdO s).isSome]) ∧ Drawn w w' := by
  cases h : rdO s with
  | none => exact read_no s w hm (rdO_none h)
  | some n =>
    obtain ⟨h0, h1, e⟩ := rdO_some h
    exact read_ok n s w hm h0 h1 e
/-- One line read by the model. -/
noncomputable def specStep (st : List (Int × Int × Int) × List Int) (line : ByteArray) : Option (List (Int × Int × Int) × List Int) :=
  match parts line 32 with
  | [_, x] => (rdO x).map fun z => (st.1, st.2 ++ [z])
  | [_, l, _, d, _, s, _] => match rdO l, rdO d, rdO s with
    | some l, some d, some s => some (st.1 ++ [(l, d, s)], st.2)
    | _, _, _ => none
  | _ => some st
theorem step_R (st : List (Int × Int × Int) × List Int) (l d s : Int) (h1 : -999999 ≤ l ∧ l ≤ 999999) (h2 : -999999 ≤ d ∧ d ≤ 999999) (h3 : -999999 ≤ s ∧ s ≤ 999999) : specStep st (lineR l d s) = some (st.1 ++ [(l, d, s)], st.2) := by
  unfold specStep
  rw [words_R]
  simp only [rdO_num l h1.1 h1.2, rdO_num d h2.1 h2.2, rdO_num s h3.1 h3.2]
theorem step_L (st : List (Int × Int × Int) × List Int) (z : Int) (h : -999999 ≤ z ∧ z ≤ 999999) : specStep st (lineL z) = some (st.1, st.2 ++ [z]) := by
  unfold specStep
  rw [words_L]
  simp only [rdO_num z h.1 h.2, Option.map_some]
theorem getD_in {α : Type} (l : List α) (d : α) {i : Nat} (h : i < l.length) : l.getD i d = l[i] := by
  rw [List.getD_eq_getElem?_getD, List.getElem?_eq_getElem h]
  rfl
/-- The lines of a text read back. -/
theorem fold_lines (rs : List (Int × Int × Int)) (zs : List Int) (hr : ∀ r ∈ rs, (-999999 ≤ r.1 ∧ r.1 ≤ 999999) ∧ (-999999 ≤ r.2.1 ∧ r.2.1 ≤ 999999) ∧ -999999 ≤ r.2.2 ∧ r.2.2 ≤ 999999) (hz : ∀ z ∈ zs, -999999 ≤ z ∧ z ≤ 999999) :
    ∀ k, k < rs.length → k ≤ zs.length → (lines rs zs (k + 1)).foldlM specStep ([], []) = some (rs.take (k + 1), zs.take k)
  | 0, h, _ => by
    have hm := List.getElem_mem h
    obtain ⟨g1, g2, g3⟩ := hr _ hm
    rw [lines, if_pos rfl]
    simp only [lines, List.nil_append, List.foldlM_cons, List.foldlM_nil, getD_in _ _ h]
    rw [step_R _ _ _ _ g1 g2 g3]
    simp [List.take_succ_eq_append_getElem h]
  | k + 1, h, hk => by
    have ih := fold_lines rs zs hr hz k (by omega) (by omega)
    have hm := List.getElem_mem h
    obtain ⟨g1, g2, g3⟩ := hr _ hm
    have hk' : k < zs.length := by omega
    have hzm := hz _ (List.getElem_mem hk')
    rw [lines.eq_2 rs zs (k + 1), if_neg (by omega), List.foldlM_append, List.foldlM_append, ih]
    simp only [Nat.add_sub_cancel, List.foldlM_cons, List.foldlM_nil, getD_in _ _ h, getD_in _ _ hk', Option.bind_eq_bind, Option.bind_some, Option.pure_def]
    rw [step_L _ _ hzm]
    simp only [Option.bind_some]
    rw [step_R _ _ _ _ g1 g2 g3]
    simp only [Option.bind_some, List.take_succ_eq_append_getElem h, List.take_succ_eq_append_getElem hk']
theorem good_small {rs : List (Int × Int × Int)} {zs : List Int} (hg : goodW rs zs) : (∀ r ∈ rs, (-999999 ≤ r.1 ∧ r.1 ≤ 999999) ∧ (-999999 ≤ r.2.1 ∧ r.2.1 ≤ 999999) ∧ -999999 ≤ r.2.2 ∧ r.2.2 ≤ 999999) ∧ ∀ z ∈ zs, -999999 ≤ z ∧ z ≤ 999999 := by
  obtain ⟨h1, h2⟩ := goodW_all hg
  refine ⟨fun r hr => ?_, fun z hz => ?_⟩
  · obtain ⟨g1, g2, g3⟩ := h1 r hr
    omega
  · obtain ⟨j, hj, rfl⟩ := List.mem_iff_getElem.1 hz
    have := h2 j hj
    omega
/-- A good waterway's text read back by the model. -/
theorem fold_txt {rs : List (Int × Int × Int)} {zs : List Int} (hg : goodW rs zs) : ∃ L, parts (txt rs zs rs.length) 10 = L ++ [⟨#[]⟩] ∧ L.foldlM specStep ([], []) = some (rs, zs) := by
  obtain ⟨k, hk⟩ : ∃ k, rs.length = k + 1 := ⟨rs.length - 1, by have := hg.1.1; omega⟩
  have hz : zs.length = k := by have := hg.2.1; omega
  obtain ⟨hr, hz'⟩ := good_small hg
  refine ⟨lines rs zs (k + 1), by rw [hk]; exact parts_txt rs zs k, ?_⟩
  rw [fold_lines rs zs hr hz' k (by omega) (by omega), List.take_of_length_le (by omega), List.take_of_length_le (by omega)]
/-- Two good waterways of one text are one. -/
theorem txt_one {rs rs' : List (Int × Int × Int)} {zs zs' : List Int} (hg : goodW rs zs) (hg' : goodW rs' zs') (h : txt rs zs rs.length = txt rs' zs' rs'.length) : rs = rs' ∧ zs = zs' := by
  obtain ⟨L, h1, h2⟩ := fold_txt hg
  obtain ⟨L', h3, h4⟩ := fold_txt hg'
  rw [h, h3] at h1
  have e : L' = L := (List.append_inj' h1 rfl).1
  subst e
  rw [h2] at h4
  injection h4 with h4
  exact ⟨congrArg Prod.fst h4, congrArg Prod.snd h4⟩
end Go.Proofs.YtliebicnejbheabGreatDoor
