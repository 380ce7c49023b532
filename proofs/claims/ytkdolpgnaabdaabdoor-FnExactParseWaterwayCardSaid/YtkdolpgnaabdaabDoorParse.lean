/- ParseInt: both functions as contracts. -/
import Derived.Test.YtkdolpgnaabdaabDoorRead
import Derived.Lib.AtoiErrMem
import Derived.Lib.AtoiAllCases
namespace Go.Proofs.YtkdolpgnaabdaabDoor
open Go.RowKit Go.PlainAid

theorem bt_ne45 {x : Nat} : ¬ bt (numB (x : Int)) 0 = 45 := fun e => by have := num_first x; omega

theorem read_ok (n : Int) (s : ByteArray) (w : World) (hm : s.size ≤ 1048576) (h0 : -999999 ≤ n) (h1 : n ≤ 999999) (h : numB n = s) :
    Calls Tryd.prog 20 #[.string s] w fun e w' => e = .returned (.tuple #[.int .i64 n, .bool true]) ∧ Drawn w w' := by
  by_cases hn : n < 0
  · obtain ⟨x, rfl⟩ : ∃ x : Nat, n = -(x : Int) := ⟨n.natAbs, by omega⟩
    obtain ⟨p1, p2, p3⟩ := neg_parts x (by omega)
    subst h
    have hr := rdd_num x (by omega)
    have hv := rdv_num x
    refine read_minus _ _ _ w hm p1 p2 p3 (fun _ _ => by rw [hv]) (fun hno => absurd ⟨hr, by rw [hv]⟩ hno)
  · obtain ⟨x, rfl⟩ : ∃ x : Nat, n = (x : Int) := ⟨n.toNat, by omega⟩
    subst h
    have hr := rdd_num x (by omega)
    have hv := rdv_num x
    exact read_plain _ _ w hm (fun ⟨_, e⟩ => bt_ne45 e) (fun _ _ => by rw [hv]) (fun hno => absurd ⟨hr, by rw [hv]⟩ hno)

theorem read_no (s : ByteArray) (w : World) (hm : s.size ≤ 1048576) (h : ∀ n : Int, -999999 ≤ n → n ≤ 999999 → numB n ≠ s) :
    Calls Tryd.prog 20 #[.string s] w fun e w' => e = .returned (.tuple #[.int .i64 0, .bool false]) ∧ Drawn w w' := by
  by_cases hA : 1 < s.size ∧ bt s 0 = 45
  · exact read_minus s _ _ w hm hA.1 hA.2 rfl (fun hr he => by
      have := pvs_6 (s.extract 1 s.size) _ hr.2.2 hr.2.1
      exact absurd he (h _ (by unfold rdv; omega) (by unfold rdv; omega))) (fun _ => rfl)
  · exact read_plain s _ w hm hA (fun hr he => by
      have := pvs_6 s _ hr.2.2 hr.2.1
      exact absurd he (h _ (by unfold rdv; omega) (by unfold rdv; omega))) (fun _ => rfl)


/-- The library's two errors hold an error each. -/
def Errs (w : World) : Prop := (∃ tp p, w.var? Tryd.prog "strconv.ErrSyntax" = some #[.iface tp p]) ∧ (∃ tp p, w.var? Tryd.prog "strconv.ErrRange" = some #[.iface tp p])
theorem gSyn : Tryd.prog.globalNamed "strconv.ErrSyntax" = some 1 := by kernel_rfl
theorem gRng : Tryd.prog.globalNamed "strconv.ErrRange" = some 2 := by kernel_rfl
theorem var_on {n : String} {g : Nat} {x : Value} {w w' : World} {B : Nat} (hg : Tryd.prog.globalNamed n = some g) (h : w.var? Tryd.prog n = some #[x]) (hb : Below B w w') (hB : w.heap.size ≤ B) : w'.var? Tryd.prog n = some #[x] := by
  have hc := World.var?_cell hg h 0
  have hlt : g < w.heap.size := World.block_lt_of_cell? w (a := ⟨g, 0, none⟩) (hc.trans rfl)
  exact var?_below (hb.mono hB) hg hlt h
theorem Errs.on {w w' : World} {B : Nat} (h : Errs w) (hb : Below B w w') (hB : w.heap.size ≤ B) : Errs w' := by
  obtain ⟨⟨a, b, h1⟩, ⟨c, d, h2⟩⟩ := h
  exact ⟨⟨a, b, var_on gSyn h1 hb hB⟩, ⟨c, d, var_on gRng h2 hb hB⟩⟩
theorem errStar : "*" ++ "errors.errorString" = "*errors.errorString" := by decide
theorem rowErr (u : TypeId) (h : Tryd.prog.typeName? 3 u = some "*errors.errorString") : u = 107 :=
  typeName_ptr_named (nm := "errors.errorString") (by rw [errStar]; kernel_rfl) (by kernel_rfl) (by decide) u (by rw [errStar]; exact h)
theorem errs_of {x y z : String × DataW Unit} {w : World} (h : laidMet Tryd.prog (x :: y :: z :: ("strconv.ErrRange", Rows.laid_strconv_ErrRange) :: ("strconv.ErrSyntax", Rows.laid_strconv_ErrSyntax) :: []) w) : Errs w := by
  have h3 := h.tail.tail.tail
  obtain ⟨a0, s0, hv0, -, -, -⟩ := laid_sentinel h3 gRng (show (Tryd.prog.globals[2]?).map (·.type) = some 61 by kernel_rfl) Tryd.underlying61 rowErr Tryd.underlying107 Tryd.underlying109 rfl rfl Tryd.underlying9 (by kernel_rfl) (by kernel_rfl)
  obtain ⟨a1, s1, hv1, -, -, -⟩ := laid_sentinel h3.tail gSyn (show (Tryd.prog.globals[1]?).map (·.type) = some 61 by kernel_rfl) Tryd.underlying61 rowErr Tryd.underlying107 Tryd.underlying109 rfl rfl Tryd.underlying9 (by kernel_rfl) (by kernel_rfl)
  exact ⟨⟨_, _, hv1⟩, ⟨_, _, hv0⟩⟩

theorem atoi_below {w w' : World} (h : w' = w ∨ ∃ t, w' = Lib.bytesWorld w 5 t) : Below w.heap.size w w' := by
  rcases h with rfl | ⟨t, rfl⟩
  · exact Below.refl _ _
  · exact Lib.bytesWorld_below _ _ _

set_option maxHeartbeats 400000 in
theorem implParse_ok (n : Int) (s : ByteArray) (w : World) (hm : s.size ≤ 1048576) (h0 : -999999 ≤ n) (h1 : n ≤ 999999) (h : numB n = s) (ht : Tab w) :
    Calls Tryd.prog 25 #[.string s] w fun e w' => e = .returned (.tuple #[.int .i64 n, .bool true]) ∧ Below w.heap.size w w' := by
  have HA := Lib.hid (Tryd.strconv_Atoi_ok s (by omega) n (by rw [← h]; exact atoi_num n h0 h1) w)
  have HT := Lib.hid ht
  have HE := Lib.hid h
  have hself : (s.toList == s.toList) = true := beq_self_eq_true _
  clear ht h
  go_enter Tryd.func25, Tryd.ntmps25
  go_wp2_with fail
  refine HA.out.mono ?_
  rintro e w1 ⟨rfl, hw⟩
  have hb1 := atoi_below hw
  clear hw
  go_wp2_with fail
  refine (implFmt_ok n _ h0 h1 (HT.out.on hb1 (Nat.le_refl _))).mono ?_
  rintro e w2 ⟨rfl, hb2⟩
  have hbb := hb1.trans (hb2.mono hb1.size)
  rw [HE.out]
  clear hb1 hb2
  go_wp2_with fail
  go_ret2
  exact ⟨rfl, hbb⟩

set_option maxHeartbeats 400000 in
theorem implParse_no (s : ByteArray) (w : World) (hm : s.size ≤ 1048576) (h : ∀ n : Int, -999999 ≤ n → n ≤ 999999 → numB n ≠ s) (ht : Tab w) (he : Errs w) :
    Calls Tryd.prog 25 #[.string s] w fun e w' => e = .returned (.tuple #[.int .i64 0, .bool false]) ∧ Below w.heap.size w w' := by
  rcases ha : Lib.atoiAll s.data.toList with v | _ | _
  · obtain ⟨v0, v1⟩ := Lib.atoiAll_bounds ha
    have HA := Lib.hid (Tryd.strconv_Atoi_ok s (by omega) v ha w)
    have HT := Lib.hid ht
    clear ht he ha v0 v1
    by_cases hv : -999999 ≤ v ∧ v ≤ 999999
    · have hne := toList_ne (h v hv.1 hv.2)
      obtain ⟨h0, h1⟩ := hv
      have HF := Lib.hid (fun (W : World) (ht : Tab W) => implFmt_ok v W h0 h1 ht)
      clear h
      generalize numB v = B at hne HF
      go_enter Tryd.func25, Tryd.ntmps25
      go_wp2_with fail
      refine HA.out.mono ?_
      rintro e w1 ⟨rfl, hw⟩
      have hb1 := atoi_below hw
      clear hw
      go_wp2_with fail
      refine (HF.out _ (HT.out.on hb1 (Nat.le_refl _))).mono ?_
      rintro e w2 ⟨rfl, hb2⟩
      have hbb := hb1.trans (hb2.mono hb1.size)
      clear hb1 hb2
      go_wp2_with fail
      go_ret2
      exact ⟨rfl, hbb⟩
    · have HV : Hid (v < -999999 ∨ 999999 < v) := Lib.hid (by omega)
      clear hv h
      go_enter Tryd.func25, Tryd.ntmps25
      go_wp2_with fail
      refine HA.out.mono ?_
      rintro e w1 ⟨rfl, hw⟩
      have hb1 := atoi_below hw
      clear hw
      go_wp2_with fail
      refine (implFmt_no v _ HV.out).mono ?_
      rintro e w2 ⟨rfl, rfl⟩
      go_wp2_with fail
      go_ret2
      exact ⟨rfl, hb1⟩
  · obtain ⟨⟨tp, p, hv⟩, -⟩ := he
    have HA := Lib.hid (Tryd.strconv_Atoi_syntax_var s (by omega) ha tp p w hv)
    clear ht ha hv h
    go_enter Tryd.func25, Tryd.ntmps25
    go_wp2_with fail
    refine HA.out.mono ?_
    rintro e w1 ⟨N, rfl, -, -, hb1⟩
    go_wp2_with fail
    go_ret2
    exact ⟨rfl, hb1⟩
  · obtain ⟨-, ⟨tp, p, hv⟩⟩ := he
    have HA := Lib.hid (Tryd.strconv_Atoi_range_var s (by omega) ha tp p w hv)
    clear ht ha hv h
    go_enter Tryd.func25, Tryd.ntmps25
    go_wp2_with fail
    refine HA.out.mono ?_
    rintro e w1 ⟨N, rfl, -, -, hb1⟩
    go_wp2_with fail
    go_ret2
    exact ⟨rfl, hb1⟩
end Go.Proofs.YtkdolpgnaabdaabDoor
