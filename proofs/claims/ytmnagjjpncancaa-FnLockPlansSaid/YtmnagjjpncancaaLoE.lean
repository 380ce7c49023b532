/- Chapter 5: heads and minutes: the model and the program. -/
import Derived.Test.YtmnagjjpncancaaLoC
namespace Go.Proofs.Ytmnagjjpncancaa
open Go.RowKit Go.PlainAid Go.Sort
set_option linter.unusedVariables false
set_option linter.unusedSimpArgs false

/-- What is answered of a number that there may be. -/
def AnsN (o : Option Int) (r : Int) (x : Bool) : Prop := (o = some r ∧ x = true) ∨ (o = none ∧ r = 0 ∧ x = false)
theorem ansN_ex (o : Option Int) : ∃ r x, AnsN o r x := by
  cases o with
  | none => exact ⟨0, false, .inr ⟨rfl, rfl, rfl⟩⟩
  | some t => exact ⟨t, true, .inl ⟨rfl, rfl⟩⟩
def headO (s : TLockState) (high : Bool) : Option Int := if goodL s = true then some (headL s high) else none
def minO (s : TLockState) (high : Bool) : Option Int := if goodL s = true then some (minL s high : Int) else none
theorem goodL_levs {s : TLockState} (h : goodL s = true) : 0 ≤ s.x0 ∧ s.x0 ≤ s.x2 ∧ s.x2 ≤ s.x1 ∧ s.x1 ≤ 2000 := ((goodL_iff s).1 h).1
theorem l1MostL_any (x y : Int) (w : World) :
    Calls Try.prog 61 #[.int .i64 x, .int .i64 y] w fun e w' => e = .returned (.int .i64 (max x y)) ∧ w = w' := by
  by_cases h : y < x
  · have e : max x y = x := by omega
    rw [e]
    clear e
    go_enter Try.func61, Try.ntmps61
    go_wp2
    go_ret
    exact ⟨rfl, rfl⟩
  · have e : max x y = y := by omega
    rw [e]
    clear e
    go_enter Try.func61, Try.ntmps61
    go_wp2
    go_ret
    exact ⟨rfl, rfl⟩
theorem l1LeastL_any (x y : Int) (w : World) :
    Calls Try.prog 62 #[.int .i64 x, .int .i64 y] w fun e w' => e = .returned (.int .i64 (min x y)) ∧ w = w' := by
  by_cases h : x < y
  · have e : min x y = x := by omega
    rw [e]
    clear e
    go_enter Try.func62, Try.ntmps62
    go_wp2
    go_ret
    exact ⟨rfl, rfl⟩
  · have e : min x y = y := by omega
    rw [e]
    clear e
    go_enter Try.func62, Try.ntmps62
    go_wp2
    go_ret
    exact ⟨rfl, rfl⟩
theorem ite_minL (x y : Int) : (if y < x then y else x) = min x y := by split <;> omega
theorem ite_maxL (x y : Int) : (if x < y then y else x) = max x y := by split <;> omega

set_option maxHeartbeats 800000 in
theorem l5Head_any (l u v : Int) (a b c d high : Bool) (w : World) (h : 0 ≤ l ∧ l ≤ v ∧ v ≤ u ∧ u ≤ 2000) :
    Calls Try.prog 54 #[.agg #[.int .i64 l, .int .i64 u, .int .i64 v, .bool a, .bool b, .bool c, .bool d], .bool high] w fun e w' => e = .returned (.int .i64 (headL ⟨l, u, v, a, b, c, d⟩ high)) ∧ Below w.heap.size w w' := by
  obtain ⟨h1, h2, h3, h4⟩ := h
  unfold headL
  dsimp only
  cases high
  · rw [if_neg (by simp)]
    go_enter Try.func54, Try.ntmps54
    go_wp2
    go_ret
    exact ⟨rfl, below1 _ _⟩
  · rw [if_pos rfl]
    go_enter Try.func54, Try.ntmps54
    go_wp2
    go_ret
    exact ⟨rfl, below1 _ _⟩

set_option maxRecDepth 100000 in
set_option maxHeartbeats 1000000 in
theorem headS_any (l u v : Int) (a b c d : Bool) (high : Bool) (r : Int) (x : Bool) (hA : AnsN (headO ⟨l, u, v, a, b, c, d⟩ high) r x) (w : World) :
    Calls Try.prog 33 #[.agg #[.int .i64 l, .int .i64 u, .int .i64 v, .bool a, .bool b, .bool c, .bool d], .bool high] w fun e w' => e = .returned (.tuple #[.int .i64 r, .bool x]) ∧ Below w.heap.size w w' := by
  have C := Lib.hid (fun W => l5Good_any l u v a b c d W)
  have HG := Lib.hid (fun h : goodL ⟨l, u, v, a, b, c, d⟩ = true => goodL_levs h)
  have HB0 := Lib.hid (below1 w (.cells #[.int .i64 l, .int .i64 u, .int .i64 v, .bool a, .bool b, .bool c, .bool d] 23))
  have P0 := Lib.hid (BoxL.new w l u v a b c d)
  unfold headO at hA
  have CH := Lib.hid (fun (hg : 0 ≤ l ∧ l ≤ v ∧ v ≤ u ∧ u ≤ 2000) W => l5Head_any l u v a b c d high W hg)
  skip
  generalize headL ⟨l, u, v, a, b, c, d⟩ high = q at CH hA
  skip
  generalize goodL ⟨l, u, v, a, b, c, d⟩ = G at C HG hA
  go_enter Try.func33, Try.ntmps33
  go_wp2_with fail
  refine (C.out _).mono ?_
  rintro e w1 ⟨rfl, hb⟩
  have HB1 := Lib.hid (HB0.out.trans (hb.mono HB0.out.size))
  have Q0 := Lib.hid (P0.out.all hb)
  clear hb C HB0 P0
  cases G with
  | false =>
    obtain ⟨rfl, rfl⟩ : r = 0 ∧ x = false := by
      rcases hA with ⟨h, -⟩ | ⟨-, h, h'⟩
      · cases h
      · exact ⟨h, h'⟩
    clear hA
    go_wp2_with fail
    refine bodyPost_ret (results_tmp2 rfl _ _ _) rfl ?_
    exact ⟨rfl, HB1.out⟩
  | true =>
    have CH2 := Lib.hid (CH.out (HG.out rfl))
    obtain ⟨rfl, rfl⟩ : q = r ∧ x = true := by
      rcases hA with ⟨h, h'⟩ | ⟨h, -⟩
      · injection h with h
        exact ⟨h, h'⟩
      · cases h
    clear hA HG CH
    have c0 := Q0.out.c0
    have c1 := Q0.out.c1
    have c2 := Q0.out.c2
    have c3 := Q0.out.c3
    have c4 := Q0.out.c4
    have c5 := Q0.out.c5
    have c6 := Q0.out.c6
    go_wp2_with fail
    refine (CH2.out _).mono ?_
    rintro e w2 ⟨rfl, hb⟩
    have HB2 := Lib.hid (HB1.out.trans (hb.mono HB1.out.size))
    clear hb CH2
    go_wp2_with fail
    refine bodyPost_ret (results_tmp2 rfl _ _ _) rfl ?_
    exact ⟨rfl, HB2.out⟩
set_option maxRecDepth 100000 in
set_option maxHeartbeats 1000000 in
theorem headI0_any (l u v : Int) (a b c d : Bool) (r : Int) (x : Bool) (hA : AnsN (headO ⟨l, u, v, a, b, c, d⟩ false) r x) (w : World) :
    Calls Try.prog 34 #[.agg #[.int .i64 l, .int .i64 u, .int .i64 v, .bool a, .bool b, .bool c, .bool d], .bool false] w fun e w' => e = .returned (.tuple #[.int .i64 r, .bool x]) ∧ Below w.heap.size w w' := by
  have C := Lib.hid (fun W => safeI_any l u v a b c d W)
  have HG := Lib.hid (fun h : goodL ⟨l, u, v, a, b, c, d⟩ = true => goodL_levs h)
  have HB0 := Lib.hid (below1 w (.cells #[.int .i64 l, .int .i64 u, .int .i64 v, .bool a, .bool b, .bool c, .bool d] 23))
  have P0 := Lib.hid (BoxL.new w l u v a b c d)
  unfold headO at hA
  have CH := Lib.hid (fun (hg : 0 ≤ l ∧ l ≤ v ∧ v ≤ u ∧ u ≤ 2000) W => sideLow_any l u v a b c d W hg)
  rw [show headL ⟨l, u, v, a, b, c, d⟩ false = v - l from rfl] at hA
  generalize v - l = q at CH hA
  have hfd : ∀ W : World, (Instr.field 58 (.agg #[.int .i64 q, .bool a, .bool c, .int .i64 1, .int .i64 2, .int .i64 5, .int .i64 6]) 0).run Try.prog W = .ok (.int .i64 q) W := fun _ => by kernel_rfl
  generalize goodL ⟨l, u, v, a, b, c, d⟩ = G at C HG hA
  go_enter Try.func34, Try.ntmps34
  go_wp2_with fail
  refine (C.out _).mono ?_
  rintro e w1 ⟨rfl, hb⟩
  have HB1 := Lib.hid (HB0.out.trans (hb.mono HB0.out.size))
  have Q0 := Lib.hid (P0.out.all hb)
  clear hb C HB0 P0
  cases G with
  | false =>
    obtain ⟨rfl, rfl⟩ : r = 0 ∧ x = false := by
      rcases hA with ⟨h, -⟩ | ⟨-, h, h'⟩
      · cases h
      · exact ⟨h, h'⟩
    clear hA
    go_wp2_with fail
    refine bodyPost_ret (results_tmp2 rfl _ _ _) rfl ?_
    exact ⟨rfl, HB1.out⟩
  | true =>
    have CH2 := Lib.hid (CH.out (HG.out rfl))
    obtain ⟨rfl, rfl⟩ : q = r ∧ x = true := by
      rcases hA with ⟨h, h'⟩ | ⟨h, -⟩
      · injection h with h
        exact ⟨h, h'⟩
      · cases h
    clear hA HG CH
    have c0 := Q0.out.c0
    have c1 := Q0.out.c1
    have c2 := Q0.out.c2
    have c3 := Q0.out.c3
    have c4 := Q0.out.c4
    have c5 := Q0.out.c5
    have c6 := Q0.out.c6
    go_wp2_with fail
    refine (CH2.out _).mono ?_
    rintro e w2 ⟨rfl, hb⟩
    have HB2 := Lib.hid (HB1.out.trans (hb.mono HB1.out.size))
    clear hb CH2
    go_wp2_with fail
    refine bodyPost_ret (results_tmp2 rfl _ _ _) rfl ?_
    exact ⟨rfl, HB2.out⟩
set_option maxRecDepth 100000 in
set_option maxHeartbeats 1000000 in
theorem headI1_any (l u v : Int) (a b c d : Bool) (r : Int) (x : Bool) (hA : AnsN (headO ⟨l, u, v, a, b, c, d⟩ true) r x) (w : World) :
    Calls Try.prog 34 #[.agg #[.int .i64 l, .int .i64 u, .int .i64 v, .bool a, .bool b, .bool c, .bool d], .bool true] w fun e w' => e = .returned (.tuple #[.int .i64 r, .bool x]) ∧ Below w.heap.size w w' := by
  have C := Lib.hid (fun W => safeI_any l u v a b c d W)
  have HG := Lib.hid (fun h : goodL ⟨l, u, v, a, b, c, d⟩ = true => goodL_levs h)
  have HB0 := Lib.hid (below1 w (.cells #[.int .i64 l, .int .i64 u, .int .i64 v, .bool a, .bool b, .bool c, .bool d] 23))
  have P0 := Lib.hid (BoxL.new w l u v a b c d)
  unfold headO at hA
  have CH := Lib.hid (fun (hg : 0 ≤ l ∧ l ≤ v ∧ v ≤ u ∧ u ≤ 2000) W => sideHigh_any l u v a b c d W hg)
  rw [show headL ⟨l, u, v, a, b, c, d⟩ true = u - v from rfl] at hA
  generalize u - v = q at CH hA
  have hfd : ∀ W : World, (Instr.field 58 (.agg #[.int .i64 q, .bool b, .bool d, .int .i64 3, .int .i64 4, .int .i64 7, .int .i64 8]) 0).run Try.prog W = .ok (.int .i64 q) W := fun _ => by kernel_rfl
  generalize goodL ⟨l, u, v, a, b, c, d⟩ = G at C HG hA
  go_enter Try.func34, Try.ntmps34
  go_wp2_with fail
  refine (C.out _).mono ?_
  rintro e w1 ⟨rfl, hb⟩
  have HB1 := Lib.hid (HB0.out.trans (hb.mono HB0.out.size))
  have Q0 := Lib.hid (P0.out.all hb)
  clear hb C HB0 P0
  cases G with
  | false =>
    obtain ⟨rfl, rfl⟩ : r = 0 ∧ x = false := by
      rcases hA with ⟨h, -⟩ | ⟨-, h, h'⟩
      · cases h
      · exact ⟨h, h'⟩
    clear hA
    go_wp2_with fail
    refine bodyPost_ret (results_tmp2 rfl _ _ _) rfl ?_
    exact ⟨rfl, HB1.out⟩
  | true =>
    have CH2 := Lib.hid (CH.out (HG.out rfl))
    obtain ⟨rfl, rfl⟩ : q = r ∧ x = true := by
      rcases hA with ⟨h, h'⟩ | ⟨h, -⟩
      · injection h with h
        exact ⟨h, h'⟩
      · cases h
    clear hA HG CH
    have c0 := Q0.out.c0
    have c1 := Q0.out.c1
    have c2 := Q0.out.c2
    have c3 := Q0.out.c3
    have c4 := Q0.out.c4
    have c5 := Q0.out.c5
    have c6 := Q0.out.c6
    go_wp2_with fail
    refine (CH2.out _).mono ?_
    rintro e w2 ⟨rfl, hb⟩
    have HB2 := Lib.hid (HB1.out.trans (hb.mono HB1.out.size))
    clear hb CH2
    go_wp2_with fail
    refine bodyPost_ret (results_tmp2 rfl _ _ _) rfl ?_
    exact ⟨rfl, HB2.out⟩
theorem headI_any (l u v : Int) (a b c d : Bool) (high : Bool) (r : Int) (x : Bool) (hA : AnsN (headO ⟨l, u, v, a, b, c, d⟩ high) r x) (w : World) :
    Calls Try.prog 34 #[.agg #[.int .i64 l, .int .i64 u, .int .i64 v, .bool a, .bool b, .bool c, .bool d], .bool high] w fun e w' => e = .returned (.tuple #[.int .i64 r, .bool x]) ∧ Below w.heap.size w w' := by
  cases high
  · exact headI0_any l u v a b c d r x hA w
  · exact headI1_any l u v a b c d r x hA w

/-- The minutes of a head. -/
def minH (q : Int) : Nat := ((max 0 (q - 5) + 50 - 1) / 50).toNat
theorem minH_le {q : Int} (h : 0 ≤ q ∧ q ≤ 2000) : ((minH q : Nat) : Int) = (max 0 (q - 5) + 50 - 1) / 50 ∧ (minH q : Int) ≤ 40 := by
  unfold minH
  omega
set_option maxHeartbeats 1000000 in
theorem l5Minutes_any (l u v : Int) (a b c d high : Bool) (w : World) (h : 0 ≤ l ∧ l ≤ v ∧ v ≤ u ∧ u ≤ 2000) :
    Calls Try.prog 52 #[.agg #[.int .i64 l, .int .i64 u, .int .i64 v, .bool a, .bool b, .bool c, .bool d], .bool high] w fun e w' => e = .returned (.int .i64 (minL ⟨l, u, v, a, b, c, d⟩ high : Int)) ∧ Below w.heap.size w w' := by
  have CH := Lib.hid (fun W => l5Head_any l u v a b c d high W h)
  have CM := Lib.hid (fun x W => l1MostL_any 0 x W)
  have HB0 := Lib.hid (below1 w (.cells #[.int .i64 l, .int .i64 u, .int .i64 v, .bool a, .bool b, .bool c, .bool d] 23))
  have hq : 0 ≤ headL ⟨l, u, v, a, b, c, d⟩ high ∧ headL ⟨l, u, v, a, b, c, d⟩ high ≤ 2000 := by
    unfold headL
    cases high <;> simp <;> omega
  have HR := Lib.hid (minH_le hq)
  change Calls _ _ _ _ fun e w' => e = .returned (.int .i64 (minH (headL ⟨l, u, v, a, b, c, d⟩ high) : Int)) ∧ _
  generalize minH (headL ⟨l, u, v, a, b, c, d⟩ high) = m at HR ⊢
  generalize headL ⟨l, u, v, a, b, c, d⟩ high = q at CH HR hq
  obtain ⟨q0, q1⟩ := hq
  clear h
  go_enter Try.func52, Try.ntmps52
  go_wp2_with fail
  refine (CH.out _).mono ?_
  rintro e w1 ⟨rfl, hb⟩
  have HB1 := Lib.hid (HB0.out.trans (hb.mono HB0.out.size))
  clear hb CH HB0
  go_wp2_with fail
  refine (CM.out _ _).mono ?_
  rintro e w1' ⟨rfl, rfl⟩
  obtain ⟨y, hy⟩ : ∃ y, max 0 (q - 5) = y := ⟨_, rfl⟩
  have hy0 : 0 ≤ y ∧ y ≤ 2000 := by omega
  rw [hy] at HR ⊢
  obtain ⟨y0, y1⟩ := hy0
  clear hy CM
  go_wp2_with fail
  refine bodyPost_ret (results_tmp rfl _ _ _) rfl ?_
  exact ⟨ret_int (by have := HR.out; omega), HB1.out⟩

theorem minO_eq (s : TLockState) (high : Bool) : minO s high = (headO s high).map (fun q => (minH q : Int)) := by
  unfold minO headO
  split <;> rfl
set_option maxRecDepth 100000 in
set_option maxHeartbeats 1000000 in
theorem minS_any (l u v : Int) (a b c d high : Bool) (r : Int) (x : Bool) (hA : AnsN (minO ⟨l, u, v, a, b, c, d⟩ high) r x) (w : World) :
    Calls Try.prog 25 #[.agg #[.int .i64 l, .int .i64 u, .int .i64 v, .bool a, .bool b, .bool c, .bool d], .bool high] w fun e w' => e = .returned (.tuple #[.int .i64 r, .bool x]) ∧ Below w.heap.size w w' := by
  have C := Lib.hid (fun W => l5Good_any l u v a b c d W)
  have HG := Lib.hid (fun h : goodL ⟨l, u, v, a, b, c, d⟩ = true => goodL_levs h)
  have HB0 := Lib.hid (below1 w (.cells #[.int .i64 l, .int .i64 u, .int .i64 v, .bool a, .bool b, .bool c, .bool d] 23))
  have P0 := Lib.hid (BoxL.new w l u v a b c d)
  unfold minO at hA
  have CH := Lib.hid (fun (hg : 0 ≤ l ∧ l ≤ v ∧ v ≤ u ∧ u ≤ 2000) W => l5Minutes_any l u v a b c d high W hg)
  generalize (minL ⟨l, u, v, a, b, c, d⟩ high : Int) = q at CH hA
  generalize goodL ⟨l, u, v, a, b, c, d⟩ = G at C HG hA
  go_enter Try.func25, Try.ntmps25
  go_wp2_with fail
  refine (C.out _).mono ?_
  rintro e w1 ⟨rfl, hb⟩
  have HB1 := Lib.hid (HB0.out.trans (hb.mono HB0.out.size))
  have Q0 := Lib.hid (P0.out.all hb)
  clear hb C HB0 P0
  cases G with
  | false =>
    obtain ⟨rfl, rfl⟩ : r = 0 ∧ x = false := by
      rcases hA with ⟨h, -⟩ | ⟨-, h, h'⟩
      · cases h
      · exact ⟨h, h'⟩
    clear hA
    go_wp2_with fail
    refine bodyPost_ret (results_tmp2 rfl _ _ _) rfl ?_
    exact ⟨rfl, HB1.out⟩
  | true =>
    have CH2 := Lib.hid (CH.out (HG.out rfl))
    obtain ⟨rfl, rfl⟩ : q = r ∧ x = true := by
      rcases hA with ⟨h, h'⟩ | ⟨h, -⟩
      · injection h with h
        exact ⟨h, h'⟩
      · cases h
    clear hA HG CH
    have c0 := Q0.out.c0
    have c1 := Q0.out.c1
    have c2 := Q0.out.c2
    have c3 := Q0.out.c3
    have c4 := Q0.out.c4
    have c5 := Q0.out.c5
    have c6 := Q0.out.c6
    go_wp2_with fail
    refine (CH2.out _).mono ?_
    rintro e w2 ⟨rfl, hb⟩
    have HB2 := Lib.hid (HB1.out.trans (hb.mono HB1.out.size))
    clear hb CH2
    go_wp2_with fail
    refine bodyPost_ret (results_tmp2 rfl _ _ _) rfl ?_
    exact ⟨rfl, HB2.out⟩
attribute [local go_sem] ite_minL ite_maxL
set_option maxRecDepth 100000 in
set_option maxHeartbeats 1000000 in
theorem minI_any (l u v : Int) (a b c d high : Bool) (r : Int) (x : Bool) (hA : AnsN (minO ⟨l, u, v, a, b, c, d⟩ high) r x) (w : World) :
    Calls Try.prog 26 #[.agg #[.int .i64 l, .int .i64 u, .int .i64 v, .bool a, .bool b, .bool c, .bool d], .bool high] w fun e w' => e = .returned (.tuple #[.int .i64 r, .bool x]) ∧ Below w.heap.size w w' := by
  have HG := Lib.hid (fun h : goodL ⟨l, u, v, a, b, c, d⟩ = true => headL_in h high)
  have HB0 := Lib.hid (below1 w (.cells #[.int .i64 l, .int .i64 u, .int .i64 v, .bool a, .bool b, .bool c, .bool d] 23))
  obtain ⟨r1, x1, h1⟩ := ansN_ex (headO ⟨l, u, v, a, b, c, d⟩ high)
  have C := Lib.hid (fun W => headI_any l u v a b c d high r1 x1 h1 W)
  rw [minO_eq] at hA
  unfold headO at hA h1
  generalize headL ⟨l, u, v, a, b, c, d⟩ high = q at HG hA h1
  generalize goodL ⟨l, u, v, a, b, c, d⟩ = G at HG hA h1
  have HH : Hid ((x1 = true ∧ 0 ≤ r1 ∧ r1 ≤ 2000 ∧ r = (minH r1 : Int) ∧ x = true) ∨ (x1 = false ∧ r = 0 ∧ x = false)) := Lib.hid (by
    cases G with
    | false =>
      rcases h1 with ⟨h, -⟩ | ⟨-, -, h1⟩
      · cases h
      rcases hA with ⟨h, -⟩ | ⟨-, h2, h3⟩
      · cases h
      exact .inr ⟨h1, h2, h3⟩
    | true =>
      rcases h1 with ⟨h, h1⟩ | ⟨h, -⟩
      · injection h with h
        subst h
        rcases hA with ⟨h, h2⟩ | ⟨h, -⟩
        · injection h with h
          exact .inl ⟨h1, (HG.out rfl).1, (HG.out rfl).2, h.symm, h2⟩
        · cases h
      · cases h)
  clear hA h1 HG
  go_enter Try.func26, Try.ntmps26
  go_wp2_with fail
  refine (C.out _).mono ?_
  rintro e w1 ⟨rfl, hb⟩
  have HB1 := Lib.hid (HB0.out.trans (hb.mono HB0.out.size))
  clear hb C HB0
  rcases HH.out with ⟨rfl, h0, h1, h2, rfl⟩ | ⟨rfl, rfl, rfl⟩
  · have HR := Lib.hid (h2.trans (minH_le ⟨h0, h1⟩).1)
    clear HH h2
    go_wp2_with fail
    refine bodyPost_ret (results_tmp2 rfl _ _ _) rfl ?_
    refine ⟨?_, HB1.out⟩
    rw [HR.out]
    have e9 : max (r1 - 5) 0 = max 0 (r1 - 5) := by omega
    simp [e9]
  · clear HH
    go_wp2_with fail
    refine bodyPost_ret (results_tmp2 rfl _ _ _) rfl ?_
    exact ⟨rfl, HB1.out⟩
end Go.Proofs.Ytmnagjjpncancaa
