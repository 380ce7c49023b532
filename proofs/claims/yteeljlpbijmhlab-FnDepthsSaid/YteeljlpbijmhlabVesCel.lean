/- Chapter 3: the cells of a fleet, the model and the program. -/
import Derived.Test.YteeljlpbijmhlabVesV
namespace Go.Proofs.Yteeljlpbijmhlab
open Go.RowKit Go.PlainAid Go.Sort

/-- The cells of the first k vessels. -/
def cel (vs : List Ves) : Nat → Int
  | 0 => 0
  | k + 1 => cel vs k + (vs.getD k noVes).len * (vs.getD k noVes).wid
theorem cell_bd {v : Ves} (h : goodV v) : 0 ≤ v.len * v.wid ∧ v.len * v.wid ≤ 24 := by
  obtain ⟨-, -, h1, h2, -⟩ := h
  obtain h3 | h3 | h3 : v.wid = 1 ∨ v.wid = 2 ∨ v.wid = 3 := by omega
  all_goals rw [h3]; omega
theorem cel_bd {vs : List Ves} (h : goodF vs) : ∀ k, k ≤ vs.length → 0 ≤ cel vs k ∧ cel vs k ≤ 24 * k
  | 0, _ => by simp [cel]
  | k + 1, hk => by
    have ih := cel_bd h k (by omega)
    have := cell_bd (h.2 k (by omega)).1
    simp only [cel]
    omega
theorem goodF_len {vs : List Ves} (h : gF vs = true) : vs.length ≤ 8 := ((gF_iff vs).1 h).1

set_option maxHeartbeats 400000 in
theorem l3Cells_any (i : Int) (s : ByteArray) (l b d q : Int) (w : World) (h0 : 0 ≤ l * b) (h1 : l * b ≤ 24) :
    Calls Try.prog 71 #[.agg #[.int .i64 i, .string s, .int .i64 l, .int .i64 b, .int .i64 d, .int .i64 q]] w fun e w' => e = .returned (.int .i64 (l * b)) ∧ Below w.heap.size w w' := by
  go_enter Try.func71, Try.ntmps71
  go_wp2
  go_ret
  exact ⟨rfl, (Below.refl _ _).alloc (Nat.le_refl _) _⟩
set_option maxHeartbeats 400000 in
theorem vesCells_any (i : Int) (s : ByteArray) (l b d q : Int) (w : World) (h0 : 0 ≤ l * b) (h1 : l * b ≤ 24) :
    Calls Try.prog 69 #[.agg #[.int .i64 i, .string s, .int .i64 l, .int .i64 b, .int .i64 d, .int .i64 q]] w fun e w' => e = .returned (.int .i64 (l * b)) ∧ Below w.heap.size w w' := by
  go_enter Try.func69, Try.ntmps69
  go_wp2
  go_ret
  exact ⟨rfl, (Below.refl _ _).alloc (Nat.le_refl _) _⟩

set_option maxHeartbeats 1000000 in
theorem specCells_any {w : World} {B : Nat} {A : Option Addr} {n : Nat} {vs : List Ves} (c : Nat) (h : IsVs w B A n vs) (hm : n ≤ maxLen) (x : Bool) (hx : gF vs = x) (v : Int) (hv : x = true → v = cel vs n) (hv0 : x = false → v = 0) :
    Calls Try.prog 21 #[.slice A n c] w fun e w' => e = .returned (.tuple #[.int .i64 v, .bool x]) ∧ Below w.heap.size w w' := by
  have C := Lib.hid (l3Fleet_vs c h hm)
  rw [hx] at C
  have CL := Lib.hid (fun (i : Int) (s : ByteArray) (l b d q : Int) (W : World) (h0 : 0 ≤ l * b) (h1 : l * b ≤ 24) => l3Cells_any i s l b d q W h0 h1)
  have HI := Lib.hid h
  cases x with
  | false =>
    obtain rfl : v = 0 := hv0 rfl
    clear hv hv0 h hx hm HI CL
    go_enter Try.func21, Try.ntmps21
    go_wp2_with fail
    refine C.out.mono ?_
    rintro e w1 ⟨rfl, hb⟩
    go_wp2_with fail
    go_ret2
    exact ⟨rfl, hb⟩
  | true =>
    have HG := Lib.hid ((gF_iff vs).1 hx)
    have hn8 : n ≤ 8 := by have := goodF_len hx; rw [h.len] at this; exact this
    have HV := Lib.hid (hv rfl)
    clear hv hv0 h hx hm
    go_enter Try.func21, Try.ntmps21
    go_wp2_with fail
    refine C.out.mono ?_
    rintro e w1 ⟨rfl, hb1⟩
    have HB1 := Lib.hid hb1
    clear hb1 C
    go_wp2_with fail
    go_loopw [4, 5] (fun m i wr => ∃ k : Nat, k ≤ n ∧ i = .int .i64 k ∧ m = .int .i64 (cel vs k) ∧ Below w.heap.size w wr) (fun _ i _ => n - (intOf i).toNat)
    case atStart => exact ⟨0, Nat.zero_le _, rfl, rfl, HB1.out⟩
    case round =>
      obtain ⟨k, hk, rfl, rfl, hb⟩ := hrel
      obtain ⟨b0, b1⟩ := cel_bd HG.out k (by rw [HI.out.len]; exact hk)
      by_cases hlt : k < n
      · have hkl : k < vs.length := by rw [HI.out.len]; exact hlt
        obtain ⟨a1, rfl, hab, HV⟩ := (HI.out.below hb HI.out.low).has.ves hkl
        obtain ⟨p0, p1⟩ := cell_bd (HG.out.2 k hkl).1
        have HS : Hid (cel vs (k + 1) = cel vs k + (vs.getD k noVes).len * (vs.getD k noVes).wid) := Lib.hid rfl
        generalize vs.getD k noVes = V at HV HS p0 p1
        obtain ⟨i, s, l, b, d, q⟩ := V
        obtain ⟨e0, e1, e2, e3, e4, e5⟩ := HV
        dsimp only at e0 e1 e2 e3 e4 e5 p0 p1
        have HS' : Hid (cel vs (k + 1) = cel vs k + l * b) := Lib.hid HS.out
        have C := Lib.hid (fun W => CL.out i s l b d q W p0 p1)
        generalize l * b = P at p0 p1 HS' C
        generalize cel vs k = S at b0 b1 HS'
        have HB := Lib.hid hb
        have hk0 : (0 : Int) ≤ (k : Int) := by omega
        have hk1 : (k : Int) < (n : Int) := by omega
        clear HS hb
        go_wp2_with fail
        refine (C.out _).mono ?_
        rintro e w2 ⟨rfl, hb2⟩
        have HB2 := Lib.hid (HB.out.trans (hb2.mono HB.out.size))
        clear hb2 e0 e1 e2 e3 e4 e5
        go_wp2_with fail
        refine ⟨⟨k + 1, by omega, by go_num, by rw [HS'.out], HB2.out⟩, by simp [intOf]; omega⟩
      · obtain rfl : k = n := by omega
        clear HI HG CL
        go_wp2
        go_ret2
        exact ⟨by rw [HV.out]; rfl, hb⟩

set_option maxHeartbeats 1000000 in
theorem implCells_any {w : World} {B : Nat} {A : Option Addr} {n : Nat} {vs : List Ves} (c : Nat) (h : IsVs w B A n vs) (hm : n ≤ maxLen) (hc : n ≤ c) (x : Bool) (hx : gF vs = x) (v : Int) (hv : x = true → v = cel vs n) (hv0 : x = false → v = 0) :
    Calls Try.prog 20 #[.slice A n c] w fun e w' => e = .returned (.tuple #[.int .i64 v, .bool x]) ∧ Below w.heap.size w w' := by
  have C := Lib.hid (isFleet_vs c h hm hc)
  rw [hx] at C
  have CL := Lib.hid (fun (i : Int) (s : ByteArray) (l b d q : Int) (W : World) (h0 : 0 ≤ l * b) (h1 : l * b ≤ 24) => vesCells_any i s l b d q W h0 h1)
  have HI := Lib.hid h
  cases x with
  | false =>
    obtain rfl : v = 0 := hv0 rfl
    clear hv hv0 h hx hm HI CL
    go_enter Try.func20, Try.ntmps20
    go_wp2_with fail
    refine C.out.mono ?_
    rintro e w1 ⟨rfl, hb⟩
    go_wp2_with fail
    go_ret2
    exact ⟨rfl, hb⟩
  | true =>
    have HG := Lib.hid ((gF_iff vs).1 hx)
    have hn8 : n ≤ 8 := by have := goodF_len hx; rw [h.len] at this; exact this
    have HV := Lib.hid (hv rfl)
    clear hv hv0 h hx hm
    go_enter Try.func20, Try.ntmps20
    go_wp2_with fail
    refine C.out.mono ?_
    rintro e w1 ⟨rfl, hb1⟩
    have HB1 := Lib.hid hb1
    clear hb1 C
    go_wp2_with fail
    go_loopw [4, 12] (fun m i wr => ∃ k : Nat, k ≤ n ∧ i = .int .i64 k ∧ m = .int .i64 (cel vs k) ∧ Below w.heap.size w wr) (fun _ i _ => n - (intOf i).toNat)
    case atStart => exact ⟨0, Nat.zero_le _, rfl, rfl, HB1.out⟩
    case round =>
      obtain ⟨k, hk, rfl, rfl, hb⟩ := hrel
      obtain ⟨b0, b1⟩ := cel_bd HG.out k (by rw [HI.out.len]; exact hk)
      by_cases hlt : k < n
      · have hkl : k < vs.length := by rw [HI.out.len]; exact hlt
        obtain ⟨a1, rfl, hab, HV⟩ := (HI.out.below hb HI.out.low).has.ves hkl
        obtain ⟨p0, p1⟩ := cell_bd (HG.out.2 k hkl).1
        have HS : Hid (cel vs (k + 1) = cel vs k + (vs.getD k noVes).len * (vs.getD k noVes).wid) := Lib.hid rfl
        generalize vs.getD k noVes = V at HV HS p0 p1
        obtain ⟨i, s, l, b, d, q⟩ := V
        obtain ⟨e0, e1, e2, e3, e4, e5⟩ := HV
        dsimp only at e0 e1 e2 e3 e4 e5 p0 p1
        have HS' : Hid (cel vs (k + 1) = cel vs k + l * b) := Lib.hid HS.out
        have C := Lib.hid (fun W => CL.out i s l b d q W p0 p1)
        generalize l * b = P at p0 p1 HS' C
        generalize cel vs k = S at b0 b1 HS'
        have HB := Lib.hid (hb.alloc hb.size (.cells #[.int .i64 i, .string s, .int .i64 l, .int .i64 b, .int .i64 d, .int .i64 q] 38))
        have hk0 : (0 : Int) ≤ (k : Int) := by omega
        have hk1 : (k : Int) < (n : Int) := by omega
        clear HS hb
        go_wp2_with fail
        refine (C.out _).mono ?_
        rintro e w2 ⟨rfl, hb2⟩
        have HB2 := Lib.hid (HB.out.trans (hb2.mono HB.out.size))
        clear hb2 e0 e1 e2 e3 e4 e5
        go_wp2_with fail
        refine ⟨⟨k + 1, by omega, by go_num, by rw [HS'.out], HB2.out⟩, by simp [intOf]; omega⟩
      · obtain rfl : k = n := by omega
        clear HI HG CL
        go_wp2
        go_ret2
        exact ⟨by rw [HV.out]; rfl, hb⟩
/-- What both are asked for. -/
theorem cells_two (vs : List Ves) (n : Nat) : ∃ (x : Bool) (v : Int), gF vs = x ∧ (x = true → v = cel vs n) ∧ (x = false → v = 0) := by
  cases h : gF vs with
  | true => exact ⟨true, cel vs n, rfl, fun _ => rfl, fun g => by cases g⟩
  | false => exact ⟨false, 0, rfl, fun g => (by cases g), fun _ => rfl⟩
end Go.Proofs.Yteeljlpbijmhlab
