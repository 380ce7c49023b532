/- The given tests' cursor over bytes: each of its methods as a contract. -/
import Derived.Test.YtdjoiodkmanacaaMem
import Derived.Maps.AppendAt
namespace Go.Proofs.Ytdjoiodkmanacaa
open Go.RowKit Go.PlainAid

/-- A slice of integers that came in: its elements are zs. -/
def IsInts (k : IntKind) (w : World) (a : Option Addr) (len : Nat) (zs : List Int) : Prop :=
  zs.length = len ∧ len ≤ maxLen ∧ (∀ z ∈ zs, (Lit.int k z).wf = true) ∧ Has w w.heap.size a (zs.map (.int k))
theorem isInts_nil (k : IntKind) (w : World) : IsInts k w none 0 [] := ⟨rfl, Nat.zero_le _, by simp, Has.nil _ _ _⟩
theorem isInts_some {k : IntKind} {w : World} {a : Addr} {len cap : Nat} {zs : List Int} (hl : len ≤ cap) (hm : cap ≤ maxLen) (hz : zs.length = cap)
    (hcell : ∀ i, i < zs.length → w.cell? (a.add i) = some (.int k (zs.getD i 0))) (hws : ∀ z ∈ zs, (Lit.int k z).wf = true) : IsInts k w (some a) len (zs.take len) := by
  refine ⟨by rw [List.length_take]; omega, by omega, fun s hs => hws s (List.mem_of_mem_take hs), ?_⟩
  intro i u hu
  have hk : i < (zs.take len).length := by
    have := (List.getElem?_eq_some_iff.1 hu).1
    simpa using this
  rw [List.length_take] at hk
  have hc := hcell i (by omega)
  have hb := World.block_lt_of_cell? w (a.add i) hc
  rw [addBlock] at hb
  refine ⟨a, rfl, hb, hc.trans ?_⟩
  rw [List.getElem?_map, List.getElem?_take, if_pos (by omega), List.getElem?_eq_getElem (by omega)] at hu
  rw [← hu, List.getD_eq_getElem?_getD, List.getElem?_eq_getElem (by omega)]
  rfl

/-- The cursor in block g: the bytes' slice, the place, some seed. -/
def Cur (w : World) (g : Nat) (A : Option Addr) (n c : Nat) (p : Int) : Prop := ∃ sd : Int, w.heap[g]? = some (.cells #[.slice A n c, .int .i64 p, .int .u64 sd] 60 (0, 0))
/-- What every call of a cursor's method leaves: the value is v; the cursor has moved on; nothing else has turned. -/
structure CurStep (w w' : World) (g : Nat) (A : Option Addr) (n c : Nat) (p d : Int) : Prop where
  cur : ∃ q : Int, p ≤ q ∧ q ≤ p + d ∧ Cur w' g A n c q
  grown : w.grownBy w' (some g)

theorem cur_set1 {w : World} {g : Nat} {A : Option Addr} {n c : Nat} {p sd : Int} (h : w.heap[g]? = some (.cells #[.slice A n c, .int .i64 p, .int .u64 sd] 60 (0, 0))) (x : Int) :
    (w.setCell ⟨g, 1, none⟩ (.int .i64 x)).heap[g]? = some (.cells #[.slice A n c, .int .i64 x, .int .u64 sd] 60 (0, 0)) := by
  simp [World.setCell, Array.getElem?_modify, h]
theorem cur_set2 {w : World} {g : Nat} {A : Option Addr} {n c : Nat} {p sd : Int} (h : w.heap[g]? = some (.cells #[.slice A n c, .int .i64 p, .int .u64 sd] 60 (0, 0))) (x : Int) :
    (w.setCell ⟨g, 2, none⟩ (.int .u64 x)).heap[g]? = some (.cells #[.slice A n c, .int .i64 p, .int .u64 x] 60 (0, 0)) := by
  simp [World.setCell, Array.getElem?_modify, h]
theorem grown_set (w : World) (g i : Nat) (u : Value) : w.grownBy (w.setCell ⟨g, i, none⟩ u) (some g) :=
  ⟨rfl, rfl, rfl, by simp [World.setCell], fun k _ hk => Below.heap_setCell _ _ _ _ (fun e => hk (by rw [e]))⟩
theorem grown_drawn {w w' : World} (h : Drawn w w') (row : Option Nat) : w.grownBy w' row := by
  obtain ⟨q, rfl⟩ := h
  exact ⟨rfl, rfl, rfl, Nat.le_refl _, fun _ _ _ => rfl⟩

theorem and255 (a : Int) : 0 ≤ bits .and .u64 a 255 ∧ bits .and .u64 a 255 ≤ 255 := by
  have h2 : (BitVec.ofInt 64 (255 : Int)).toNat = 255 := by decide
  have h : bits .and .u64 a 255 = IntKind.u64.wrap ((BitVec.ofInt 64 a &&& BitVec.ofInt 64 255).toNat : Int) := rfl
  rw [h, BitVec.toNat_and, h2]
  have hb : (BitVec.ofInt 64 a).toNat &&& 255 ≤ 255 := Nat.and_le_right
  generalize (BitVec.ofInt 64 a).toNat &&& 255 = x at hb
  rw [IntKind.wrap_u64]
  omega
set_option maxHeartbeats 1000000 in
theorem next_any (g : Nat) (A : Option Addr) (n c : Nat) (p : Int) (zs : List Int) (B : Nat) (w : World) (hcur : Cur w g A n c p) (hz : zs.length = n)
    (hzb : ∀ z ∈ zs, 0 ≤ z ∧ z ≤ 255) (hh : Has w B A (zs.map (.int .u8))) (hp0 : 0 ≤ p) (hp1 : p ≤ 1000000000) :
    Calls Try.prog 86 #[.pointer (some ⟨g, 0, none⟩)] w fun e w' => ∃ b : Int, 0 ≤ b ∧ b ≤ 255 ∧ e = .returned (.int .i64 b) ∧ CurStep w w' g A n c p 1 := by
  obtain ⟨sd, hc⟩ := hcur
  have c0 : w.cell? ⟨g, 0, none⟩ = some (.slice A n c) := by rw [cell_of_row w g 0 _ _ (0, 0) hc]; rfl
  have c1 : w.cell? ⟨g, 1, none⟩ = some (.int .i64 p) := by rw [cell_of_row w g 1 _ _ (0, 0) hc]; rfl
  have c2 : w.cell? ⟨g, 2, none⟩ = some (.int .u64 sd) := by rw [cell_of_row w g 2 _ _ (0, 0) hc]; rfl
  have f1 := frozen_of_row w g 1 _ _ hc
  have f2 := frozen_of_row w g 2 _ _ hc
  have HC := Lib.hid hc
  clear hc
  by_cases hlt : p < (n : Int)
  · obtain ⟨k, rfl⟩ : ∃ k : Nat, p = (k : Int) := ⟨p.toNat, by omega⟩
    obtain ⟨a1, rfl, hab, e1⟩ := hh.intAt (k := k) (by omega)
    obtain ⟨z0, z1⟩ := hzb zs[k] (List.getElem_mem _)
    generalize zs[k]'(by omega) = z at e1 z0 z1
    clear hh hz hzb
    go_enter Try.func86, Try.ntmps86
    go_wp2
    go_quiet (fail)
    go_wp2
    go_quiet (fail)
    go_wp2
    generalize IntKind.u64.wrap (IntKind.u64.wrap (IntKind.u64.wrap (sd * 6364136223846793005) + z) + 924924) = sd2
    have hd : (k : Int) + 1 ≤ (n : Int) := by omega
    go_quiet (fail)
    go_wp2
    go_ret
    exact ⟨z, z0, z1, rfl, ⟨⟨(k : Int) + 1, by omega, by omega, sd2, cur_set2 (cur_set1 HC.out _) _⟩, (World.grownBy.trans (World.grownBy.trans (grown_drawn (Drawn.one w _) _) (grown_set _ g 1 _)) (grown_set _ g 2 _)).trans (grown_drawn (Drawn.one _ _) _)⟩⟩
  · have hge : ¬ p + 1 ≤ (n : Int) := by omega
    clear hh hz hzb
    go_enter Try.func86, Try.ntmps86
    go_wp2
    go_quiet (fail)
    go_wp2
    generalize IntKind.u64.wrap (IntKind.u64.wrap (IntKind.u64.wrap (sd * 6364136223846793005)) + 924924) = sd2
    go_quiet (fail)
    go_wp2
    obtain ⟨q0, q1⟩ := and255 (sd2 / 1099511627776)
    refine bodyPost_ret (results_tmp rfl _ _ _) rfl ?_
    exact ⟨_, q0, q1, ret_int (IntWalk.wrap64_in _ ⟨by omega, by omega⟩), ⟨⟨p + 1, by omega, by omega, sd2, cur_set2 (cur_set1 HC.out _) _⟩, (World.grownBy.trans (World.grownBy.trans (grown_drawn (Drawn.one w _) _) (grown_set _ g 1 _)) (grown_set _ g 2 _)).trans (grown_drawn (Drawn.one _ _) _)⟩⟩

/-- The cursor and the bytes it reads, in one word. -/
structure CurAt (w : World) (g : Nat) (A : Option Addr) (n c : Nat) (p : Int) (zs : List Int) (B : Nat) : Prop where
  cur : Cur w g A n c p
  len : zs.length = n
  small : n ≤ 65536
  bytes : ∀ z ∈ zs, 0 ≤ z ∧ z ≤ 255
  has : Has w B A (zs.map (.int .u8))
  below : B ≤ g
  p0 : 0 ≤ p
theorem CurAt.lt {w : World} {g : Nat} {A : Option Addr} {n c : Nat} {p : Int} {zs : List Int} {B : Nat} (h : CurAt w g A n c p zs B) : g < w.heap.size := by
  obtain ⟨sd, hc⟩ := h.cur
  exact (Array.getElem?_eq_some_iff.1 hc).1
/-- What turns neither the cursor nor what lies below B. -/
theorem CurAt.kept {w w' : World} {row : Option Nat} {g : Nat} {A : Option Addr} {n c : Nat} {p : Int} {zs : List Int} {B : Nat} (h : CurAt w g A n c p zs B) (hg : w.grownBy w' row) (hne : some g ≠ row) (hr : ∀ r, row = some r → B ≤ r) : CurAt w' g A n c p zs B := by
  obtain ⟨sd, hc⟩ := h.cur
  have hlt := h.lt
  have hbg := h.below
  exact ⟨⟨sd, (hg.block g hlt hne).trans hc⟩, h.len, h.small, h.bytes, h.has.move (fun a ha => World.cell?_of_block (hg.block a.block (by omega) (fun e => by have := hr _ e.symm; omega))), h.below, h.p0⟩
theorem CurAt.step {w w' : World} {g : Nat} {A : Option Addr} {n c : Nat} {p : Int} {zs : List Int} {B : Nat} {d : Int} (h : CurAt w g A n c p zs B) (hs : CurStep w w' g A n c p d) : ∃ q : Int, p ≤ q ∧ q ≤ p + d ∧ CurAt w' g A n c q zs B := by
  obtain ⟨q, q0, q1, hq⟩ := hs.cur
  have hlt := h.lt
  have hbg := h.below
  have hp0 := h.p0
  exact ⟨q, q0, q1, hq, h.len, h.small, h.bytes, h.has.move (fun a ha => World.cell?_of_block (hs.grown.block a.block (by omega) (fun e => by cases e; omega))), h.below, by omega⟩

theorem next_at {g : Nat} {A : Option Addr} {n c : Nat} {p : Int} {zs : List Int} {B : Nat} {w : World} (h : CurAt w g A n c p zs B) (hp1 : p ≤ 1000000000) :
    Calls Try.prog 86 #[.pointer (some ⟨g, 0, none⟩)] w fun e w' => ∃ b : Int, 0 ≤ b ∧ b ≤ 255 ∧ e = .returned (.int .i64 b) ∧ CurStep w w' g A n c p 1 :=
  next_any g A n c p zs B w h.cur h.len h.bytes h.has h.p0 hp1

theorem CurStep.trans {w w' w'' : World} {g : Nat} {A : Option Addr} {n c : Nat} {p q d d' : Int} (h : CurStep w w' g A n c p d) (h' : CurStep w' w'' g A n c q d') (h0 : p ≤ q) (h1 : q ≤ p + d) : CurStep w w'' g A n c p (d + d') := by
  obtain ⟨r, r0, r1, hr⟩ := h'.cur
  exact ⟨⟨r, by omega, by omega, hr⟩, h.grown.trans h'.grown⟩
theorem CurStep.mono {w w' : World} {g : Nat} {A : Option Addr} {n c : Nat} {p d d' : Int} (h : CurStep w w' g A n c p d) (hd : d ≤ d') : CurStep w w' g A n c p d' := by
  obtain ⟨r, r0, r1, hr⟩ := h.cur
  exact ⟨⟨r, r0, by omega, hr⟩, h.grown⟩
theorem CurStep.here {w w' : World} {g : Nat} {A : Option Addr} {n c : Nat} {p d : Int} (h : Cur w' g A n c p) (hg : w.grownBy w' (some g)) (hd : 0 ≤ d) : CurStep w w' g A n c p d := ⟨⟨p, Int.le_refl _, by omega, h⟩, hg⟩
theorem mod_lt' (a m : Int) (h : 1 ≤ m) : 0 ≤ a % m ∧ a % m < m := ⟨Int.emod_nonneg _ (by omega), Int.emod_lt_of_pos _ (by omega)⟩

set_option maxHeartbeats 1000000 in
/-- A number from 0 to m - 1 (0 where m is at most 1). -/
theorem pick_at {g : Nat} {A : Option Addr} {n c : Nat} {p : Int} {zs : List Int} {B : Nat} {w : World} (h : CurAt w g A n c p zs B) (hp1 : p ≤ 900000000) (m : Int) (hm : m ≤ 1000000000) :
    Calls Try.prog 62 #[.pointer (some ⟨g, 0, none⟩), .int .i64 m] w fun e w' => ∃ b : Int, 0 ≤ b ∧ (b < m ∨ b = 0) ∧ e = .returned (.int .i64 b) ∧ CurStep w w' g A n c p 2 := by
  by_cases h1 : m ≤ 1
  · have hc := h.cur
    go_enter Try.func62, Try.ntmps62
    go_wp2_with fail
    refine bodyPost_ret (results_tmp rfl _ _ _) rfl ?_
    exact ⟨0, Int.le_refl _, .inr rfl, rfl, CurStep.here hc (World.grownBy.refl _ _) (by omega)⟩
  · have hm1 : 1 ≤ m := by omega
    have H := Lib.hid h
    have hp0 := h.p0
    clear h
    by_cases h2 : 200 < m
    · go_enter Try.func62, Try.ntmps62
      go_wp2_with fail
      refine (next_at H.out (by omega)).mono ?_
      rintro e w1 ⟨b1, b10, b11, rfl, hs1⟩
      obtain ⟨q1, q10, q11, H1⟩ := H.out.step hs1
      have H1' := Lib.hid H1
      clear H1
      go_wp2_with fail
      refine (next_at H1'.out (by omega)).mono ?_
      rintro e w2 ⟨b2, b20, b21, rfl, hs2⟩
      have hk : 0 ≤ b1 * 256 + b2 := by omega
      have hk2 : b1 * 256 + b2 ≤ 65535 := by omega
      have HS := Lib.hid (hs1.trans hs2 q10 q11)
      obtain ⟨r0, r1⟩ := mod_lt' (b1 * 256 + b2) m hm1
      clear hs1 hs2
      go_wp2_with fail
      refine bodyPost_ret (results_tmp rfl _ _ _) rfl ?_
      exact ⟨_, r0, .inl r1, rfl, HS.out⟩
    · go_enter Try.func62, Try.ntmps62
      go_wp2_with fail
      refine (next_at H.out (by omega)).mono ?_
      rintro e w1 ⟨b1, b10, b11, rfl, hs1⟩
      have HS := Lib.hid (hs1.mono (d' := 2) (by omega))
      obtain ⟨r0, r1⟩ := mod_lt' b1 m hm1
      clear hs1
      go_wp2_with fail
      refine bodyPost_ret (results_tmp rfl _ _ _) rfl ?_
      exact ⟨_, r0, .inl r1, rfl, HS.out⟩

set_option maxHeartbeats 1000000 in
/-- Yes once in m times. -/
theorem one_at {g : Nat} {A : Option Addr} {n c : Nat} {p : Int} {zs : List Int} {B : Nat} {w : World} (h : CurAt w g A n c p zs B) (hp1 : p ≤ 900000000) (m : Int) (hm : m ≤ 1000000000) :
    Calls Try.prog 80 #[.pointer (some ⟨g, 0, none⟩), .int .i64 m] w fun e w' => ∃ b : Bool, e = .returned (.bool b) ∧ CurStep w w' g A n c p 2 := by
  have H := Lib.hid h
  clear h
  go_enter Try.func80, Try.ntmps80
  go_wp2_with fail
  refine (pick_at H.out hp1 m hm).mono ?_
  rintro e w1 ⟨b1, b10, b11, rfl, hs1⟩
  go_wp2_with fail
  refine bodyPost_ret (results_tmp rfl _ _ _) rfl ?_
  exact ⟨_, rfl, hs1⟩

end Go.Proofs.Ytdjoiodkmanacaa
