/- Chapter 5: a drawn state. -/
import Derived.Test.YtmnagjjpncancaaLoT
namespace Go.Proofs.Ytmnagjjpncancaa
open Go.RowKit Go.PlainAid Go.Sort
set_option linter.unusedVariables false
set_option linter.unusedSimpArgs false

theorem has_row {w : World} {g : Nat} {xs : List Value} {t : TypeId} (h : w.heap[g]? = some (.cells xs.toArray t (0, 0))) : Has w w.heap.size (some ⟨g, 0, none⟩) xs := by
  intro k u hu
  have hg := (Array.getElem?_eq_some_iff.1 h).1
  refine ⟨_, rfl, hg, ?_⟩
  rw [show (⟨g, 0, none⟩ : Addr).add k = ⟨g, k, none⟩ from (by unfold Addr.add; split <;> simp_all)]
  exact (cell_of_row w g k _ _ _ h).trans (by rw [List.getElem?_toArray]; exact hu)
theorem mem3 {z : Int} (h : z ∈ [0, 100, 1000]) : 0 ≤ z ∧ z ≤ 1000 := by
  simp only [List.mem_cons, List.not_mem_nil, or_false] at h
  omega
theorem mem7 {z : Int} (h : z ∈ [0, 5, 6, 55, 130, 300, 1000]) : 0 ≤ z ∧ z ≤ 1000 := by
  simp only [List.mem_cons, List.not_mem_nil, or_false] at h
  omega
theorem goodL_new {lo dz : Int} (h : 0 ≤ lo ∧ lo ≤ 1000) (k : 0 ≤ dz ∧ dz ≤ 1000) : goodL ⟨lo, lo + dz, lo, false, false, false, false⟩ = true := by
  rw [goodL_iff]
  simp
  omega
theorem stepS_ex (l u v : Int) (a b c d : Bool) (k : Int) (w : World) :
    Calls Try.prog 19 #[.agg #[.int .i64 l, .int .i64 u, .int .i64 v, .bool a, .bool b, .bool c, .bool d], .int .i64 k] w fun e w' => ∃ R0 R1 R2 R3 R4 R5 R6 x, AnsL (stepL ⟨l, u, v, a, b, c, d⟩ k) R0 R1 R2 R3 R4 R5 R6 x ∧ e = .returned (.tuple #[.agg #[.int .i64 R0, .int .i64 R1, .int .i64 R2, .bool R3, .bool R4, .bool R5, .bool R6], .bool x]) ∧ Below w.heap.size w w' := by
  obtain ⟨R0, R1, R2, R3, R4, R5, R6, x, hA⟩ := ansL_ex (stepL ⟨l, u, v, a, b, c, d⟩ k)
  refine (stepS_any l u v a b c d k R0 R1 R2 R3 R4 R5 R6 x hA w).mono ?_
  rintro e w' ⟨rfl, hb⟩
  exact ⟨R0, R1, R2, R3, R4, R5, R6, x, hA, rfl, hb⟩
theorem BoxL.set1 {W : World} {g : Nat} {l u v : Int} {a b c d : Bool} (h : BoxL W g l u v a b c d) (z : Int) : BoxL (W.setCell ⟨g, 1, none⟩ (.int .i64 z)) g l z v a b c d := by
  unfold BoxL at *
  simp [World.setCell, Array.getElem?_modify, h]
/-- Below B nothing turns but block g. -/
structure BelowX (g B : Nat) (w W : World) : Prop where
  os : W.os = w.os
  tape : W.tape = w.tape
  output : W.output = w.output
  size : w.heap.size ≤ W.heap.size
  block : ∀ k, k < B → k ≠ g → W.heap[k]? = w.heap[k]?
theorem BelowX.of {g B : Nat} {w W : World} (h : Below B w W) : BelowX g B w W := ⟨h.os, h.tape, h.output, h.size, fun k hk _ => h.block k hk⟩
theorem BelowX.trans {g B : Nat} {w W W' : World} (h : BelowX g B w W) (k : BelowX g B W W') : BelowX g B w W' := ⟨k.os.trans h.os, k.tape.trans h.tape, k.output.trans h.output, Nat.le_trans h.size k.size, fun j hj hn => (k.block j hj hn).trans (h.block j hj hn)⟩
theorem BelowX.mono {g B B' : Nat} {w W : World} (h : BelowX g B w W) (hb : B' ≤ B) : BelowX g B' w W := ⟨h.os, h.tape, h.output, h.size, fun k hk hn => h.block k (Nat.lt_of_lt_of_le hk hb) hn⟩
theorem BelowX.grown {g : Nat} {w W : World} (h : w.grownBy W (some g)) : BelowX g w.heap.size w W := ⟨h.os, h.tape, h.output, h.size, fun k hk hn => h.block k hk (fun e => hn (by cases e; rfl))⟩
theorem BelowX.setsX {g B x : Nat} {w W : World} (h : BelowX g B w W) (hx : B ≤ x) (l u v : Int) (a b c d : Bool) : BelowX g B w (sets7 W x l u v a b c d) := h.trans (BelowX.of (sets7_below (Below.refl B W) hx l u v a b c d))
theorem BoxL.allX {W w' : World} {g x : Nat} {l u v : Int} {a b c d : Bool} (h : BoxL W x l u v a b c d) (hb : BelowX g W.heap.size W w') (hx : x ≠ g) : BoxL w' x l u v a b c d := (hb.block x h.lt hx).trans h
theorem stepS_out (l u v : Int) (a b c d : Bool) (F : Int → TLockState × Bool) (hF : ∀ k, F k = (outL (stepL ⟨l, u, v, a, b, c, d⟩ k), (stepL ⟨l, u, v, a, b, c, d⟩ k).isSome)) (k : Int) (w : World) :
    Calls Try.prog 19 #[.agg #[.int .i64 l, .int .i64 u, .int .i64 v, .bool a, .bool b, .bool c, .bool d], .int .i64 k] w fun e w' => e = .returned (.tuple #[valLockState (F k).1, .bool (F k).2]) ∧ Below w.heap.size w w' := by
  rw [hF k]
  cases hs : stepL ⟨l, u, v, a, b, c, d⟩ k with
  | none => exact stepS_any l u v a b c d k 0 0 0 false false false false false (.inr ⟨hs, ⟨rfl, rfl, rfl, rfl, rfl, rfl, rfl⟩, rfl⟩) w
  | some t => exact stepS_any l u v a b c d k t.x0 t.x1 t.x2 t.x3 t.x4 t.x5 t.x6 true (.inl ⟨hs, rfl⟩) w
set_option maxRecDepth 100000 in
set_option maxHeartbeats 4000000 in
theorem lockState_at {g : Nat} {A : Option Addr} {n c : Nat} {p : Int} {zs : List Int} {B : Nat} {w : World} (h : CurAt w g A n c p zs B) (hp : p ≤ 800000000) :
    Calls Try.prog 55 #[.pointer (some ⟨g, 0, none⟩)] w fun e w' => ∃ l u v a b c' d, e = .returned (.agg #[.int .i64 l, .int .i64 u, .int .i64 v, .bool a, .bool b, .bool c', .bool d]) ∧ CurStep w w' g A n c p 100 := by
  have H := Lib.hid h
  have hgl := h.lt
  have hp0 := h.p0
  have CS := Lib.hid (fun l u v a b c d k W => stepS_ex l u v a b c d k W)
  have S0 := Lib.hid ((CurStep.refl h.cur).alloc (.cells #[.int .i64 0, .int .i64 0, .int .i64 0, .bool false, .bool false, .bool false, .bool false] 23))
  clear h
  go_enter Try.func55, Try.ntmps55
  go_wp2_with fail
  obtain ⟨q1, q10, q11, H1⟩ := S0.out.at H.out
  refine (among_new H1 (by omega) [0, 100, 1000] 3 rfl (by omega) (by omega) (w.heap.size + 1) (by simp)).mono ?_
  rintro e w1 ⟨lo, hlo, rfl, hs⟩
  have hlo2 := mem3 hlo
  have S1 := Lib.hid (S0.out.then hs q10 q11)
  have QZ := Lib.hid ((BoxL.new w 0 0 0 false false false false).kept hs.grown (by simp; omega))
  obtain ⟨xz, hxz⟩ : ∃ x, w.heap.size = x := ⟨_, rfl⟩
  have hzg : xz ≠ g := by omega
  have HXZ : Hid (w.heap.size ≤ xz) := Lib.hid (by omega)
  rw [hxz] at QZ
  try simp only [hxz]
  clear hs hlo S0 H1 hxz q10 q11
  obtain ⟨q2, q20, q21, H2⟩ := S1.out.at H.out
  go_wp2_with fail
  refine (among_new H2 (by omega) [0, 5, 6, 55, 130, 300, 1000] 7 rfl (by omega) (by omega) w1.heap.size rfl).mono ?_
  rintro e w2 ⟨dz, hdz, rfl, hs⟩
  have hdz2 := mem7 hdz
  have hg0 := Lib.hid (goodL_new hlo2 hdz2)
  have S2 := Lib.hid (S1.out.then hs q20 q21)
  have QZ2 := Lib.hid (QZ.out.kept hs.grown (by simp; exact hzg))
  obtain ⟨lo0, lo1⟩ := hlo2
  obtain ⟨dz0, dz1⟩ := hdz2
  clear hs hdz S1 QZ H2 q20 q21
  go_wp2_with fail
  refine (newS_any lo (lo + dz) lo (lo + dz) lo false false false false true (.inl ⟨by unfold newL; rw [if_pos hg0.out], rfl⟩) _).mono ?_
  rintro e w3 ⟨rfl, hb⟩
  have S3 := Lib.hid ((S2.out.on hb).alloc (.cells #[.int .i64 lo, .int .i64 (lo + dz), .int .i64 lo, .bool false, .bool false, .bool false, .bool false] 23))
  have QZ3 := Lib.hid ((QZ2.out.all hb).all (below1 w3 (.cells #[.int .i64 lo, .int .i64 (lo + dz), .int .i64 lo, .bool false, .bool false, .bool false, .bool false] 23)))
  have Q3 := Lib.hid (BoxL.new w3 lo (lo + dz) lo false false false false)
  have hsz := (S2.out.on hb).grown.size
  have hzl := (QZ2.out.all hb).lt
  clear hb S2 QZ2
  obtain ⟨q3, q30, q31, H3⟩ := S3.out.at H.out
  generalize lo + dz = hi at *
  go_wp2_with fail
  refine (pick_at H3 (by omega) 12 (by omega)).mono ?_
  rintro e w4 ⟨b4, b40, b41, rfl, hs⟩
  obtain ⟨k4, rfl⟩ : ∃ k : Nat, b4 = (k : Int) := ⟨b4.toNat, by omega⟩
  have hk4 : k4 ≤ 11 := by omega
  have S4 := Lib.hid ((S3.out.then hs q30 q31).mono (d' := 10 + 4 * (11 - (k4 : Int))) (by omega))
  have QZ4 := Lib.hid (QZ3.out.kept hs.grown (by simp; exact hzg))
  have Q4 := Lib.hid (Q3.out.kept hs.grown (by simp; omega))
  obtain ⟨xb, hxb⟩ : ∃ x, w3.heap.size = x := ⟨_, rfl⟩
  have hbg : xb ≠ g := by omega
  have HXB : Hid (w.heap.size ≤ xb) := Lib.hid (by omega)
  have hzb : xz ≠ xb := by omega
  rw [hxb] at Q4
  try simp only [hxb]
  clear hs S3 QZ3 Q3 hxb q30 q31 H3 b40 b41 hsz hzl
  go_wp2_with fail
  go_loopw [6] (fun i wr => ∃ (k : Nat) (T0 T1 T2 : Int) (T3 T4 T5 T6 : Bool), k ≤ 11 ∧ i = .int .i64 k ∧ Hid (goodL ⟨T0, T1, T2, T3, T4, T5, T6⟩ = true) ∧ Hid (BoxL wr xb T0 T1 T2 T3 T4 T5 T6) ∧ Hid (BoxL wr xz 0 0 0 false false false false) ∧ Hid (CurStep w wr g A n c p (10 + 4 * (11 - (k : Int))))) (fun i _ => (intOf i).toNat)
  case atStart => exact ⟨k4, lo, hi, lo, false, false, false, false, hk4, rfl, hg0, Q4, QZ4, S4⟩
  case round =>
    clear hg0 Q4 QZ4 S4 hk4
    obtain ⟨k, T0, T1, T2, T3, T4, T5, T6, hk, rfl, hg0, Q, QZ, S⟩ := hrel
    obtain ⟨q5, q50, q51, H5⟩ := S.out.at H.out
    by_cases hlt : 0 < (k : Int)
    · obtain ⟨k, rfl⟩ : ∃ j, k = j + 1 := ⟨k - 1, by omega⟩
      go_wp2_with fail
      refine (one_at H5 (by omega) 4 (by omega)).mono ?_
      rintro e w6 ⟨y, rfl, hs⟩
      obtain ⟨D9, hD9⟩ : ∃ d, 10 + 4 * (11 - ((k + 1 : Nat) : Int)) + 2 = d := ⟨_, rfl⟩
      have hDD : D9 + 2 = 10 + 4 * (11 - (k : Int)) := by push_cast at hD9; omega
      have HDD := Lib.hid hDD
      have S6 := Lib.hid (hD9 ▸ S.out.then hs q50 q51 : CurStep w w6 g A n c p D9)
      have Q6 := Lib.hid (Q.out.kept hs.grown (by simp; exact hbg))
      have QZ6 := Lib.hid (QZ.out.kept hs.grown (by simp; exact hzg))
      have hwl : w.heap.size ≤ w6.heap.size := S6.out.grown.size
      have hD100 : D9 ≤ 100 := by omega
      clear hs S Q QZ H5 q50 q51 hD9 hDD
      cases y with
      | true =>
        have k0 := Q6.out.c0
        have k1 := Q6.out.c1
        have k2 := Q6.out.c2
        have k3 := Q6.out.c3
        have k4 := Q6.out.c4
        have k5 := Q6.out.c5
        have k6 := Q6.out.c6
        go_wp2_with fail
        refine (l5Run_any T0 T1 T2 T3 T4 T5 T6 (some ⟨w6.heap.size, 0, none⟩) 2 2 (w6.alloc (.cells #[.int .i64 9, .int .i64 9] 3)).heap.size [9, 9] _ rfl (by omega) (Nat.le_refl _) (has_row (xs := [.int .i64 9, .int .i64 9]) (heap_alloc_new w6 _))).mono ?_
        rintro e w7 ⟨rfl, hb⟩
        obtain ⟨⟨⟨U0, U1, U2, U3, U4, U5, U6⟩, m7⟩, hU⟩ : ∃ T, runL ⟨T0, T1, T2, T3, T4, T5, T6⟩ [9, 9] = T := ⟨_, rfl⟩
        have hgU := Lib.hid (show goodL ⟨U0, U1, U2, U3, U4, U5, U6⟩ = true by have := runL_good [9, 9] _ hg0.out; rw [hU] at this; exact this)
        rw [hU]
        generalize riseL ⟨T0, T1, T2, T3, T4, T5, T6⟩ [9, 9] = r7
        dsimp only
        have S7 := Lib.hid ((S6.out.alloc (.cells #[.int .i64 9, .int .i64 9] 3)).on hb)
        have Q7 := Lib.hid ((Q6.out.all (below1 w6 (.cells #[.int .i64 9, .int .i64 9] 3))).all hb)
        have QZ7 := Lib.hid ((QZ6.out.all (below1 w6 (.cells #[.int .i64 9, .int .i64 9] 3))).all hb)
        clear hb S6 Q6 QZ6 k0 k1 k2 k3 k4 k5 k6 hU
        have k0 := Q7.out.c0
        have k1 := Q7.out.c1
        have k2 := Q7.out.c2
        have k3 := Q7.out.c3
        have k4 := Q7.out.c4
        have k5 := Q7.out.c5
        have k6 := Q7.out.c6
        have f0 := Q7.out.fz 0
        have f1 := Q7.out.fz 1
        have f2 := Q7.out.fz 2
        have f3 := Q7.out.fz 3
        have f4 := Q7.out.fz 4
        have f5 := Q7.out.fz 5
        have f6 := Q7.out.fz 6
        go_wp2_with fail
        go_roundw
        case rel => exact ⟨k, U0, U1, U2, U3, U4, U5, U6, by omega, by go_num, hgU, Lib.hid (Q7.out.sets _ _ _ _ _ _ _), Lib.hid (QZ7.out.kept (grown_sets7 _ _ _ _ _ _ _ _ _) (by simp; exact hzb)), Lib.hid ((S7.out.own (grown_sets7 _ _ _ _ _ _ _ _ _) HXB.out hbg).mono (by have := HDD.out; omega))⟩
        case measure => simp [intOf]
      | false =>
        obtain ⟨F, hF⟩ : ∃ F : Int → TLockState × Bool, ∀ k, F k = (outL (stepL ⟨T0, T1, T2, T3, T4, T5, T6⟩ k), (stepL ⟨T0, T1, T2, T3, T4, T5, T6⟩ k).isSome) := ⟨_, fun _ => rfl⟩
        have HF := Lib.hid hF
        have CF := Lib.hid (fun k W => stepS_out T0 T1 T2 T3 T4 T5 T6 F HF.out k W)
        clear hF CS
        go_wp2_with fail
        refine region_inv (by kernel_rfl) (by kernel_rfl) (fun Fl9 ac W => ∃ (x38 x39 x40 x41 x42 x37 x43 x44 x7 x8 : Value), ac = { tmps := #[Value.pointer (some ⟨g, 0, none⟩), undef, Value.pointer (some ⟨xz, 0, none⟩), Value.int IntKind.i64 lo, Value.pointer (some ⟨xb, 0, none⟩), Value.bool true, Value.int IntKind.i64 ((k : Int) + 1), x7, x8, Value.pointer (some ⟨g, 0, none⟩), Value.slice (some ⟨xz + 1, 0, none⟩) 3 3, Value.int IntKind.i64 lo, Value.tuple #[Value.agg #[Value.int IntKind.i64 lo, Value.int IntKind.i64 hi, Value.int IntKind.i64 lo, Value.bool false, Value.bool false, Value.bool false, Value.bool false], Value.bool true], Value.int IntKind.i64 lo, Value.int IntKind.i64 lo, Value.pointer (some ⟨g, 0, none⟩), Value.slice (some ⟨w1.heap.size, 0, none⟩) 7 7, Value.int IntKind.i64 dz, Value.int IntKind.i64 hi, Value.tuple #[Value.agg #[Value.int IntKind.i64 lo, Value.int IntKind.i64 hi, Value.int IntKind.i64 lo, Value.bool false, Value.bool false, Value.bool false, Value.bool false], Value.bool true], Value.agg #[Value.int IntKind.i64 lo, Value.int IntKind.i64 hi, Value.int IntKind.i64 lo, Value.bool false, Value.bool false, Value.bool false, Value.bool false], Value.bool true, Value.pointer (some ⟨g, 0, none⟩), Value.int IntKind.i64 (k4 : Int), Value.int IntKind.i64 ((k : Int) + 1), Value.bool true, u26, u27, Value.pointer (some ⟨g, 0, none⟩), Value.bool false, u30, u31, u32, u33, u34, u35, u36, x37, x38, x39, x40, x41, x42, x43, x44, u45, u46, undef, undef, undef, undef, undef, undef, undef, undef, undef, undef, undef, undef, undef, undef, undef, undef, undef, undef, undef, undef, undef, undef, undef, undef, undef, undef, undef, undef, undef, undef, undef, undef, undef, undef, undef, undef, undef], defers := [] } ∧ BelowX g w6.heap.size w6 W ∧
              (Fl9 0 = true → x38 = .agg #[.int .i64 T0, .int .i64 T1, .int .i64 T2, .bool T3, .bool T4, .bool T5, .bool T6]) ∧
              (Fl9 1 = true → x39 = .pointer (some ⟨g, 0, none⟩)) ∧
              (Fl9 2 = true → (∃ b9, x40 = .int .i64 b9 ∧ 0 ≤ b9 ∧ b9 ≤ 8) ∧ CurStep w W g A n c p (D9 + 2)) ∧
              (Fl9 3 = true → x41 = .int .i64 (1 + intOf x40)) ∧
              (Fl9 4 = true → x42 = .tuple #[.agg #[.int .i64 (F (1 + intOf x40)).1.x0, .int .i64 (F (1 + intOf x40)).1.x1, .int .i64 (F (1 + intOf x40)).1.x2, .bool (F (1 + intOf x40)).1.x3, .bool (F (1 + intOf x40)).1.x4, .bool (F (1 + intOf x40)).1.x5, .bool (F (1 + intOf x40)).1.x6], .bool (F (1 + intOf x40)).2]) ∧
              (Fl9 5 = true → x37 = .tuple #[.agg #[.int .i64 (F (1 + intOf x40)).1.x0, .int .i64 (F (1 + intOf x40)).1.x1, .int .i64 (F (1 + intOf x40)).1.x2, .bool (F (1 + intOf x40)).1.x3, .bool (F (1 + intOf x40)).1.x4, .bool (F (1 + intOf x40)).1.x5, .bool (F (1 + intOf x40)).1.x6], .bool (F (1 + intOf x40)).2]) ∧
              (Fl9 6 = true → x43 = .agg #[.int .i64 (F (1 + intOf x40)).1.x0, .int .i64 (F (1 + intOf x40)).1.x1, .int .i64 (F (1 + intOf x40)).1.x2, .bool (F (1 + intOf x40)).1.x3, .bool (F (1 + intOf x40)).1.x4, .bool (F (1 + intOf x40)).1.x5, .bool (F (1 + intOf x40)).1.x6]) ∧
              (Fl9 7 = true → x44 = .bool (F (1 + intOf x40)).2) ∧
              (Fl9 8 = true → ∃ g9, x7 = .pointer (some ⟨g9, 0, none⟩) ∧ w6.heap.size ≤ g9 ∧ ∃ a0 a1 a2 a3 a4 a5 a6, BoxL W g9 a0 a1 a2 a3 a4 a5 a6) ∧
              (Fl9 9 = true → ∃ g9, x7 = .pointer (some ⟨g9, 0, none⟩) ∧ w6.heap.size ≤ g9 ∧ BoxL W g9 (F (1 + intOf x40)).1.x0 (F (1 + intOf x40)).1.x1 (F (1 + intOf x40)).1.x2 (F (1 + intOf x40)).1.x3 (F (1 + intOf x40)).1.x4 (F (1 + intOf x40)).1.x5 (F (1 + intOf x40)).1.x6) ∧
              (Fl9 10 = true → x8 = .bool (F (1 + intOf x40)).2) ∧
              (Fl9 2 = false → CurStep w W g A n c p D9) ∧
              (Fl9 9 = true → Fl9 8 = true) ∧
              (Fl9 3 = true → Fl9 2 = true) ∧
              (Fl9 4 = true → Fl9 2 = true) ∧
              (Fl9 5 = true → Fl9 2 = true) ∧
              (Fl9 6 = true → Fl9 2 = true) ∧
              (Fl9 7 = true → Fl9 2 = true) ∧
              (Fl9 9 = true → Fl9 2 = true) ∧
              (Fl9 10 = true → Fl9 2 = true)) ?_ ?_ ?_
        · exact ⟨_, _, _, _, _, _, _, _, _, _, rfl, BelowX.of ((Drawn.one w6 1).below _), (fun q0 => nomatch q0), (fun q0 => nomatch q0), (fun q0 => nomatch q0), (fun q0 => nomatch q0), (fun q0 => nomatch q0), (fun q0 => nomatch q0), (fun q0 => nomatch q0), (fun q0 => nomatch q0), (fun q0 => nomatch q0), (fun q0 => nomatch q0), (fun q0 => nomatch q0), (fun _ => S6.out.on ((Drawn.one w6 1).below _)), (fun q0 => nomatch q0), (fun q0 => nomatch q0), (fun q0 => nomatch q0), (fun q0 => nomatch q0), (fun q0 => nomatch q0), (fun q0 => nomatch q0), (fun q0 => nomatch q0), (fun q0 => nomatch q0)⟩
        · intro Fl9 ac W i9 o9 hJ ho hL hdep K9 hK
          obtain ⟨x38, x39, x40, x41, x42, x37, x43, x44, x7, x8, rfl, hB, hh0, hh1, hh2, hh3, hh4, hh5, hh6, hh7, hh8, hh9, hh10, hx0, hx1, hx2, hx3, hx4, hx5, hx6, hx7, hx8⟩ := hJ
          have hi9 : i9 < 11 := by simpa using (Array.getElem?_eq_some_iff.1 ho).1
          have QW := Q6.out.allX hB hbg
          have C0 := QW.c0
          have C1 := QW.c1
          have C2 := QW.c2
          have C3 := QW.c3
          have C4 := QW.c4
          have C5 := QW.c5
          have C6 := QW.c6
          clear QW
          obtain rfl | rfl | rfl | rfl | rfl | rfl | rfl | rfl | rfl | rfl | rfl : i9 = 0 ∨ i9 = 1 ∨ i9 = 2 ∨ i9 = 3 ∨ i9 = 4 ∨ i9 = 5 ∨ i9 = 6 ∨ i9 = 7 ∨ i9 = 8 ∨ i9 = 9 ∨ i9 = 10 := by omega
          · -- operation 0
            cases ho
            go_simp
            exact hK _ _ ⟨_, _, _, _, _, _, _, _, _, _, rfl, hB, fun _ => rfl, hh1, hh2, hh3, hh4, hh5, hh6, hh7, hh8, hh9, hh10, hx0, hx1, hx2, hx3, hx4, hx5, hx6, hx7, hx8⟩
          · -- operation 1
            cases ho
            go_simp
            exact hK _ _ ⟨_, _, _, _, _, _, _, _, _, _, rfl, hB, hh0, fun _ => rfl, hh2, hh3, hh4, hh5, hh6, hh7, hh8, hh9, hh10, hx0, hx1, hx2, hx3, hx4, hx5, hx6, hx7, hx8⟩
          · -- operation 2
            cases ho
            obtain rfl := hh1 (hdep ⟨1, .data⟩ (by simp) rfl)
            have hcs := hx0 hL
            obtain ⟨q9, q90, q91, H9⟩ := hcs.at H.out
            go_simp
            refine (pick_at H9 (by omega) 9 (by omega)).mono ?_
            rintro e w9 ⟨b9, hb90, hb91, rfl, hs9⟩
            have hx9 := BelowX.grown hs9.grown
            exact hK _ _ ⟨_, _, _, _, _, _, _, _, _, _, rfl, hB.trans (hx9.mono hB.size), hh0, hh1, fun _ => ⟨⟨b9, rfl, hb90, by omega⟩, hcs.then hs9 q90 q91⟩, (fun q0 => absurd (hx2 q0) (by rw [hL]; simp)), (fun q0 => absurd (hx3 q0) (by rw [hL]; simp)), (fun q0 => absurd (hx4 q0) (by rw [hL]; simp)), (fun q0 => absurd (hx5 q0) (by rw [hL]; simp)), (fun q0 => absurd (hx6 q0) (by rw [hL]; simp)), fun q0 => (by obtain ⟨g9, e, hg, a0, a1, a2, a3, a4, a5, a6, h⟩ := hh8 q0; exact ⟨g9, e, hg, a0, a1, a2, a3, a4, a5, a6, h.allX hx9 (by omega)⟩), (fun q0 => absurd (hx7 q0) (by rw [hL]; simp)), (fun q0 => absurd (hx8 q0) (by rw [hL]; simp)), (fun q0 => nomatch q0), hx1, fun _ => rfl, fun _ => rfl, fun _ => rfl, fun _ => rfl, fun _ => rfl, fun _ => rfl, fun _ => rfl⟩
          · -- operation 3
            cases ho
            have hd2 := hdep ⟨2, .data⟩ (by simp) rfl
            obtain ⟨⟨b9, rfl, hb90, hb91⟩, hcs2⟩ := hh2 hd2
            go_simp
            try rw [show IntKind.i64.wrap (1 + b9) = 1 + b9 from (by rw [IntKind.wrap_i64]; omega)]
            exact hK _ _ ⟨_, _, _, _, _, _, _, _, _, _, rfl, hB, hh0, hh1, hh2, fun _ => rfl, hh4, hh5, hh6, hh7, hh8, hh9, hh10, hx0, hx1, fun _ => hdep ⟨2, .data⟩ (by simp) rfl, hx3, hx4, hx5, hx6, hx7, hx8⟩
          · -- operation 4
            cases ho
            obtain rfl := hh0 (hdep ⟨0, .data⟩ (by simp) rfl)
            obtain rfl := hh3 (hdep ⟨3, .data⟩ (by simp) rfl)
            go_simp
            refine (CF.out (1 + intOf x40) W).mono ?_
            rintro e w9 ⟨rfl, hb9⟩
            exact hK _ _ ⟨_, _, _, _, _, _, _, _, _, _, rfl, hB.trans ((BelowX.of (g := g) hb9).mono hB.size), hh0, hh1, fun q0 => (fun ⟨h1, h⟩ => ⟨h1, h.on hb9⟩) (hh2 q0), hh3, fun _ => rfl, hh5, hh6, hh7, fun q0 => (fun ⟨g9, e, hg, a0, a1, a2, a3, a4, a5, a6, h⟩ => ⟨g9, e, hg, a0, a1, a2, a3, a4, a5, a6, h.all hb9⟩) (hh8 q0), fun q0 => (fun ⟨g9, e, hg, h⟩ => ⟨g9, e, hg, h.all hb9⟩) (hh9 q0), hh10, fun q0 => (fun h => h.on hb9) (hx0 q0), hx1, hx2, fun _ => hx2 (hdep ⟨3, .data⟩ (by simp) rfl), hx4, hx5, hx6, hx7, hx8⟩
          · -- operation 5
            cases ho
            have hd4 := hdep ⟨4, .data⟩ (by simp) rfl
            obtain rfl := hh4 hd4
            go_simp
            exact hK _ _ ⟨_, _, _, _, _, _, _, _, _, _, rfl, hB, hh0, hh1, hh2, hh3, hh4, fun _ => rfl, hh6, hh7, hh8, hh9, hh10, hx0, hx1, hx2, hx3, fun _ => hx3 (hdep ⟨4, .data⟩ (by simp) rfl), hx5, hx6, hx7, hx8⟩
          · -- operation 6
            cases ho
            obtain rfl := hh5 (hdep ⟨5, .data⟩ (by simp) rfl)
            go_simp
            exact hK _ _ ⟨_, _, _, _, _, _, _, _, _, _, rfl, hB, hh0, hh1, hh2, hh3, hh4, hh5, fun _ => rfl, hh7, hh8, hh9, hh10, hx0, hx1, hx2, hx3, hx4, fun _ => hx4 (hdep ⟨5, .data⟩ (by simp) rfl), hx6, hx7, hx8⟩
          · -- operation 7
            cases ho
            obtain rfl := hh5 (hdep ⟨5, .data⟩ (by simp) rfl)
            go_simp
            exact hK _ _ ⟨_, _, _, _, _, _, _, _, _, _, rfl, hB, hh0, hh1, hh2, hh3, hh4, hh5, hh6, fun _ => rfl, hh8, hh9, hh10, hx0, hx1, hx2, hx3, hx4, hx5, fun _ => hx4 (hdep ⟨5, .data⟩ (by simp) rfl), hx7, hx8⟩
          · -- operation 8
            cases ho
            go_simp
            exact hK _ _ ⟨_, _, _, _, _, _, _, _, _, _, rfl, hB.trans ((BelowX.of (g := g) (Below.alloc (Below.refl W.heap.size W) (Nat.le_refl _) _)).mono hB.size), hh0, hh1, fun q0 => (fun ⟨h1, h⟩ => ⟨h1, h.on (Below.alloc (Below.refl W.heap.size W) (Nat.le_refl _) _)⟩) (hh2 q0), hh3, hh4, hh5, hh6, hh7, fun _ => ⟨_, rfl, hB.size, _, _, _, _, _, _, _, BoxL.new W _ _ _ _ _ _ _⟩, (fun q0 => absurd (hx1 q0) (by rw [hL]; simp)), hh10, fun q0 => (fun h => h.on (Below.alloc (Below.refl W.heap.size W) (Nat.le_refl _) _)) (hx0 q0), fun _ => rfl, hx2, hx3, hx4, hx5, hx6, hx7, hx8⟩
          · -- operation 9
            cases ho
            obtain rfl := hh6 (hdep ⟨6, .data⟩ (by simp) rfl)
            have hd8 := hdep ⟨8, .data⟩ (by simp) rfl
            obtain ⟨gq, rfl, hgq, z0, z1, z2, z3, z4, z5, z6, hbx⟩ := hh8 hd8
            have ii0 := hbx.c0
            have ii1 := hbx.c1
            have ii2 := hbx.c2
            have ii3 := hbx.c3
            have ii4 := hbx.c4
            have ii5 := hbx.c5
            have ii6 := hbx.c6
            have jj0 := hbx.fz 0
            have jj1 := hbx.fz 1
            have jj2 := hbx.fz 2
            have jj3 := hbx.fz 3
            have jj4 := hbx.fz 4
            have jj5 := hbx.fz 5
            have jj6 := hbx.fz 6
            go_simp
            exact hK _ _ ⟨_, _, _, _, _, _, _, _, _, _, rfl, hB.setsX hgq _ _ _ _ _ _ _, hh0, hh1, fun q0 => ⟨(hh2 q0).1, (hh2 q0).2.own (grown_sets7 _ _ _ _ _ _ _ _ _) (by omega) (by omega)⟩, hh3, hh4, hh5, hh6, hh7, fun _ => ⟨gq, rfl, hgq, _, _, _, _, _, _, _, hbx.sets _ _ _ _ _ _ _⟩, fun _ => ⟨gq, rfl, hgq, hbx.sets _ _ _ _ _ _ _⟩, hh10, fun q0 => (hx0 q0).own (grown_sets7 _ _ _ _ _ _ _ _ _) (by omega) (by omega), fun _ => hd8, hx2, hx3, hx4, hx5, hx6, fun _ => hx5 (hdep ⟨6, .data⟩ (by simp) rfl), hx8⟩
          · -- operation 10
            cases ho
            obtain rfl := hh7 (hdep ⟨7, .data⟩ (by simp) rfl)
            go_simp
            exact hK _ _ ⟨_, _, _, _, _, _, _, _, _, _, rfl, hB, hh0, hh1, hh2, hh3, hh4, hh5, hh6, hh7, hh8, hh9, fun _ => rfl, hx0, hx1, hx2, hx3, hx4, hx5, hx6, hx7, fun _ => hx6 (hdep ⟨7, .data⟩ (by simp) rfl)⟩
        intro Fl9 ac W hJ hall
        obtain ⟨x38, x39, x40, x41, x42, x37, x43, x44, x7, x8, rfl, hB, hh0, hh1, hh2, hh3, hh4, hh5, hh6, hh7, hh8, hh9, hh10, -, -, -, -, -, -, -, -, -⟩ := hJ
        obtain rfl := hh0 (hall 0 (by decide))
        obtain rfl := hh1 (hall 1 (by decide))
        obtain rfl := hh3 (hall 3 (by decide))
        obtain rfl := hh5 (hall 5 (by decide))
        obtain rfl := hh6 (hall 6 (by decide))
        obtain rfl := hh7 (hall 7 (by decide))
        obtain rfl := hh10 (hall 10 (by decide))
        obtain ⟨⟨b9, rfl, hb90, hb91⟩, hcs2⟩ := hh2 (hall 2 (by decide))
        obtain rfl := hh4 (hall 4 (by decide))
        obtain ⟨gf, rfl, hgf, -⟩ := hh8 (hall 8 (by decide))
        obtain ⟨gz, ez, -, hbf⟩ := hh9 (hall 9 (by decide))
        clear hall
        obtain rfl : gf = gz := by injection ez with ez; injection ez with ez; injection ez with ez _ _
        clear ez
        have hFb := HF.out (1 + b9)
        have hkk : (1 + intOf (.int .i64 b9)) = 1 + b9 := rfl
        obtain ⟨⟨⟨U0, U1, U2, U3, U4, U5, U6⟩, y8⟩, hP⟩ : ∃ P, F (1 + b9) = P := ⟨_, rfl⟩
        have hgU : Hid (y8 = true → goodL ⟨U0, U1, U2, U3, U4, U5, U6⟩ = true) := Lib.hid (fun hy => by
          rw [hP] at hFb
          obtain ⟨e1, e2⟩ := Prod.mk.inj hFb
          cases hs : stepL ⟨T0, T1, T2, T3, T4, T5, T6⟩ (1 + b9) with
          | none => rw [hs, hy] at e2; cases e2
          | some t =>
            rw [hs] at e1
            have : (⟨U0, U1, U2, U3, U4, U5, U6⟩ : TLockState) = t := e1
            rw [this]
            exact (stepL_good hs).2.1)
        rw [hkk, hP] at hbf
        simp only [hkk, hP]
        have Q8 := Lib.hid (Q6.out.allX hB hbg)
        have QZ8 := Lib.hid (QZ6.out.allX hB hzg)
        have QF := Lib.hid hbf
        have S8 := Lib.hid hcs2
        clear hB hbf hcs2 hFb hkk hP HF CF S6 Q6 QZ6
        have d0 := QF.out.c0
        have d1 := QF.out.c1
        have d2 := QF.out.c2
        have d3 := QF.out.c3
        have d4 := QF.out.c4
        have d5 := QF.out.c5
        have d6 := QF.out.c6
        have k0 := Q8.out.c0
        have k1 := Q8.out.c1
        have k2 := Q8.out.c2
        have k3 := Q8.out.c3
        have k4 := Q8.out.c4
        have k5 := Q8.out.c5
        have k6 := Q8.out.c6
        have f0 := Q8.out.fz 0
        have f1 := Q8.out.fz 1
        have f2 := Q8.out.fz 2
        have f3 := Q8.out.fz 3
        have f4 := Q8.out.fz 4
        have f5 := Q8.out.fz 5
        have f6 := Q8.out.fz 6
        cases y8 with
        | true =>
          have hgU2 := Lib.hid (hgU.out rfl)
          go_wp2_with fail
          go_roundw
          case rel => exact ⟨k, U0, U1, U2, U3, U4, U5, U6, by omega, by go_num, hgU2, Lib.hid (Q8.out.sets _ _ _ _ _ _ _), Lib.hid (QZ8.out.kept (grown_sets7 _ _ _ _ _ _ _ _ _) (by simp; exact hzb)), Lib.hid ((S8.out.own (grown_sets7 _ _ _ _ _ _ _ _ _) HXB.out hbg).mono (by have := HDD.out; omega))⟩
          case measure => simp [intOf]
        | false =>
          go_wp2_with fail
          go_roundw
          case rel => exact ⟨k, T0, T1, T2, T3, T4, T5, T6, by omega, by go_num, hg0, Q8, QZ8, Lib.hid (S8.out.mono (by have := HDD.out; omega))⟩
          case measure => simp [intOf]
    · obtain rfl : k = 0 := by omega
      have hlv := goodL_levs hg0.out
      dsimp only at hlv
      obtain ⟨lv0, lv1, lv2, lv3⟩ := hlv
      clear hlt CS hg0
      go_wp2_with fail
      refine (pick_at H5 (by omega) 24 (by omega)).mono ?_
      rintro e w6 ⟨b6, b60, b61, rfl, hs⟩
      have S6 := Lib.hid (S.out.then hs q50 q51)
      have Q6 := Lib.hid (Q.out.kept hs.grown (by simp; exact hbg))
      have QZ6 := Lib.hid (QZ.out.kept hs.grown (by simp; exact hzg))
      clear hs S Q QZ H5 q50 q51 b60 b61
      by_cases h0 : b6 = 0
      · subst h0
        obtain ⟨q7, q70, q71, H7⟩ := S6.out.at H.out
        have k0 := Q6.out.c0
        have k1 := Q6.out.c1
        have k2 := Q6.out.c2
        have k3 := Q6.out.c3
        have k4 := Q6.out.c4
        have k5 := Q6.out.c5
        have k6 := Q6.out.c6
        go_wp2_with fail
        refine (among_new H7 (by omega) [T0 - 1, T1 + 1, T1, T0] 4 rfl (by omega) (by omega) w6.heap.size rfl).mono ?_
        rintro e w8 ⟨z8, -, rfl, hs⟩
        clear k0 k1 k2 k3 k4 k5 k6
        have Q8 := Lib.hid (Q6.out.kept hs.grown (by simp; exact hbg))
        have e6 := Q8.out.c2
        have g6 := Q8.out.fz 2
        have S9 := Lib.hid ((S6.out.then hs q70 q71).own (grown_setL w8 xb 2 (.int .i64 z8)) HXB.out hbg)
        have Q9 := Lib.hid (Q8.out.set2 z8)
        have QZ9 := Lib.hid ((QZ6.out.kept hs.grown (by simp; exact hzg)).kept (grown_setL w8 xb 2 (.int .i64 z8)) (by simp; exact hzb))
        clear hs S6 Q6 QZ6 H7 Q8
        have k0 := Q9.out.c0
        have k1 := Q9.out.c1
        have k2 := Q9.out.c2
        have k3 := Q9.out.c3
        have k4 := Q9.out.c4
        have k5 := Q9.out.c5
        have k6 := Q9.out.c6
        have z0 := QZ9.out.c0
        have z1 := QZ9.out.c1
        have z2 := QZ9.out.c2
        have z3 := QZ9.out.c3
        have z4 := QZ9.out.c4
        have z5 := QZ9.out.c5
        have z6 := QZ9.out.c6
        have f0 := QZ9.out.fz 0
        have f1 := QZ9.out.fz 1
        have f2 := QZ9.out.fz 2
        have f3 := QZ9.out.fz 3
        have f4 := QZ9.out.fz 4
        have f5 := QZ9.out.fz 5
        have f6 := QZ9.out.fz 6
        go_wp2_with fail
        refine bodyPost_ret (results_row0 rfl _ _ xz [_, _, _, _, _, _, _] _ rfl (QZ9.out.sets _ _ _ _ _ _ _).rangeAt Try.underlying23 rfl (by kernel_rfl)) rfl ?_
        exact ⟨_, _, _, _, _, _, _, rfl, (S9.out.own (grown_sets7 _ _ _ _ _ _ _ _ _) HXZ.out hzg).mono (by omega)⟩
      by_cases h1 : b6 = 1
      · subst h1
        clear h0
        have e3 := Q6.out.c3
        have g3 := Q6.out.fz 3
        have S7 := Lib.hid (S6.out.own (grown_setL w6 xb 3 (.bool true)) HXB.out hbg)
        have Q7 := Lib.hid (Q6.out.set3 true)
        have QZ7 := Lib.hid (QZ6.out.kept (grown_setL w6 xb 3 (.bool true)) (by simp; exact hzb))
        obtain ⟨q7, q70, q71, H7⟩ := S7.out.at H.out
        clear S6 QZ6
        go_wp2_with fail
        refine (one_at H7 (by omega) 2 (by omega)).mono ?_
        rintro e w8 ⟨y8, rfl, hs⟩
        clear e3 g3 Q6
        have Q8 := Lib.hid (Q7.out.kept hs.grown (by simp; exact hbg))
        have e6 := Q8.out.c6
        have g6 := Q8.out.fz 6
        have S9 := Lib.hid ((S7.out.then hs q70 q71).own (grown_setL w8 xb 6 (.bool y8)) HXB.out hbg)
        have Q9 := Lib.hid (Q8.out.set6 y8)
        have QZ9 := Lib.hid ((QZ7.out.kept hs.grown (by simp; exact hzg)).kept (grown_setL w8 xb 6 (.bool y8)) (by simp; exact hzb))
        clear hs S7 Q7 QZ7 H7 Q8
        have k0 := Q9.out.c0
        have k1 := Q9.out.c1
        have k2 := Q9.out.c2
        have k3 := Q9.out.c3
        have k4 := Q9.out.c4
        have k5 := Q9.out.c5
        have k6 := Q9.out.c6
        have z0 := QZ9.out.c0
        have z1 := QZ9.out.c1
        have z2 := QZ9.out.c2
        have z3 := QZ9.out.c3
        have z4 := QZ9.out.c4
        have z5 := QZ9.out.c5
        have z6 := QZ9.out.c6
        have f0 := QZ9.out.fz 0
        have f1 := QZ9.out.fz 1
        have f2 := QZ9.out.fz 2
        have f3 := QZ9.out.fz 3
        have f4 := QZ9.out.fz 4
        have f5 := QZ9.out.fz 5
        have f6 := QZ9.out.fz 6
        go_wp2_with fail
        refine bodyPost_ret (results_row0 rfl _ _ xz [_, _, _, _, _, _, _] _ rfl (QZ9.out.sets _ _ _ _ _ _ _).rangeAt Try.underlying23 rfl (by kernel_rfl)) rfl ?_
        exact ⟨_, _, _, _, _, _, _, rfl, (S9.out.own (grown_sets7 _ _ _ _ _ _ _ _ _) HXZ.out hzg).mono (by omega)⟩
      by_cases h2 : b6 = 2
      · subst h2
        clear h0 h1
        have e3 := Q6.out.c4
        have g3 := Q6.out.fz 4
        have S7 := Lib.hid (S6.out.own (grown_setL w6 xb 4 (.bool true)) HXB.out hbg)
        have Q7 := Lib.hid (Q6.out.set4 true)
        have QZ7 := Lib.hid (QZ6.out.kept (grown_setL w6 xb 4 (.bool true)) (by simp; exact hzb))
        obtain ⟨q7, q70, q71, H7⟩ := S7.out.at H.out
        clear S6 QZ6
        go_wp2_with fail
        refine (one_at H7 (by omega) 2 (by omega)).mono ?_
        rintro e w8 ⟨y8, rfl, hs⟩
        clear e3 g3 Q6
        have Q8 := Lib.hid (Q7.out.kept hs.grown (by simp; exact hbg))
        have e6 := Q8.out.c5
        have g6 := Q8.out.fz 5
        have S9 := Lib.hid ((S7.out.then hs q70 q71).own (grown_setL w8 xb 5 (.bool y8)) HXB.out hbg)
        have Q9 := Lib.hid (Q8.out.set5 y8)
        have QZ9 := Lib.hid ((QZ7.out.kept hs.grown (by simp; exact hzg)).kept (grown_setL w8 xb 5 (.bool y8)) (by simp; exact hzb))
        clear hs S7 Q7 QZ7 H7 Q8
        have k0 := Q9.out.c0
        have k1 := Q9.out.c1
        have k2 := Q9.out.c2
        have k3 := Q9.out.c3
        have k4 := Q9.out.c4
        have k5 := Q9.out.c5
        have k6 := Q9.out.c6
        have z0 := QZ9.out.c0
        have z1 := QZ9.out.c1
        have z2 := QZ9.out.c2
        have z3 := QZ9.out.c3
        have z4 := QZ9.out.c4
        have z5 := QZ9.out.c5
        have z6 := QZ9.out.c6
        have f0 := QZ9.out.fz 0
        have f1 := QZ9.out.fz 1
        have f2 := QZ9.out.fz 2
        have f3 := QZ9.out.fz 3
        have f4 := QZ9.out.fz 4
        have f5 := QZ9.out.fz 5
        have f6 := QZ9.out.fz 6
        go_wp2_with fail
        refine bodyPost_ret (results_row0 rfl _ _ xz [_, _, _, _, _, _, _] _ rfl (QZ9.out.sets _ _ _ _ _ _ _).rangeAt Try.underlying23 rfl (by kernel_rfl)) rfl ?_
        exact ⟨_, _, _, _, _, _, _, rfl, (S9.out.own (grown_sets7 _ _ _ _ _ _ _ _ _) HXZ.out hzg).mono (by omega)⟩
      by_cases h3 : b6 = 3
      · subst h3
        clear h0 h1 h2
        obtain ⟨q7, q70, q71, H7⟩ := S6.out.at H.out
        have k0 := Q6.out.c0
        have k1 := Q6.out.c1
        have k2 := Q6.out.c2
        have k3 := Q6.out.c3
        have k4 := Q6.out.c4
        have k5 := Q6.out.c5
        have k6 := Q6.out.c6
        go_wp2_with fail
        refine (among_new H7 (by omega) [2000, 2001] 2 rfl (by omega) (by omega) w6.heap.size rfl).mono ?_
        rintro e w8 ⟨z8, -, rfl, hs⟩
        clear k0 k1 k2 k3 k4 k5 k6
        have Q8 := Lib.hid (Q6.out.kept hs.grown (by simp; exact hbg))
        have e6 := Q8.out.c1
        have g6 := Q8.out.fz 1
        have S9 := Lib.hid ((S6.out.then hs q70 q71).own (grown_setL w8 xb 1 (.int .i64 z8)) HXB.out hbg)
        have Q9 := Lib.hid (Q8.out.set1 z8)
        have QZ9 := Lib.hid ((QZ6.out.kept hs.grown (by simp; exact hzg)).kept (grown_setL w8 xb 1 (.int .i64 z8)) (by simp; exact hzb))
        clear hs S6 Q6 QZ6 H7 Q8
        have k0 := Q9.out.c0
        have k1 := Q9.out.c1
        have k2 := Q9.out.c2
        have k3 := Q9.out.c3
        have k4 := Q9.out.c4
        have k5 := Q9.out.c5
        have k6 := Q9.out.c6
        have z0 := QZ9.out.c0
        have z1 := QZ9.out.c1
        have z2 := QZ9.out.c2
        have z3 := QZ9.out.c3
        have z4 := QZ9.out.c4
        have z5 := QZ9.out.c5
        have z6 := QZ9.out.c6
        have f0 := QZ9.out.fz 0
        have f1 := QZ9.out.fz 1
        have f2 := QZ9.out.fz 2
        have f3 := QZ9.out.fz 3
        have f4 := QZ9.out.fz 4
        have f5 := QZ9.out.fz 5
        have f6 := QZ9.out.fz 6
        go_wp2_with fail
        refine bodyPost_ret (results_row0 rfl _ _ xz [_, _, _, _, _, _, _] _ rfl (QZ9.out.sets _ _ _ _ _ _ _).rangeAt Try.underlying23 rfl (by kernel_rfl)) rfl ?_
        exact ⟨_, _, _, _, _, _, _, rfl, (S9.out.own (grown_sets7 _ _ _ _ _ _ _ _ _) HXZ.out hzg).mono (by omega)⟩
      have n0 : (b6 == 0) = false := by simp [h0]
      have n1 : (b6 == 1) = false := by simp [h1]
      have n2 : (b6 == 2) = false := by simp [h2]
      have n3 : (b6 == 3) = false := by simp [h3]
      clear h0 h1 h2 h3
      have k0 := Q6.out.c0
      have k1 := Q6.out.c1
      have k2 := Q6.out.c2
      have k3 := Q6.out.c3
      have k4 := Q6.out.c4
      have k5 := Q6.out.c5
      have k6 := Q6.out.c6
      have z0 := QZ6.out.c0
      have z1 := QZ6.out.c1
      have z2 := QZ6.out.c2
      have z3 := QZ6.out.c3
      have z4 := QZ6.out.c4
      have z5 := QZ6.out.c5
      have z6 := QZ6.out.c6
      have f0 := QZ6.out.fz 0
      have f1 := QZ6.out.fz 1
      have f2 := QZ6.out.fz 2
      have f3 := QZ6.out.fz 3
      have f4 := QZ6.out.fz 4
      have f5 := QZ6.out.fz 5
      have f6 := QZ6.out.fz 6
      go_wp2_with fail
      refine bodyPost_ret (results_row0 rfl _ _ xz [_, _, _, _, _, _, _] _ rfl (QZ6.out.sets _ _ _ _ _ _ _).rangeAt Try.underlying23 rfl (by kernel_rfl)) rfl ?_
      exact ⟨_, _, _, _, _, _, _, rfl, (S6.out.own (grown_sets7 _ _ _ _ _ _ _ _ _) HXZ.out hzg).mono (by omega)⟩
end Go.Proofs.Ytmnagjjpncancaa
