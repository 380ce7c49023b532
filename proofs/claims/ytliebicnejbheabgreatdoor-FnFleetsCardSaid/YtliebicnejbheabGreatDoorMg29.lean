/- Texts that are joined: Split. -/
import Derived.Test.YtliebicnejbheabGreatDoorMg24
import Derived.RangeFuncBox
import Derived.RangeFuncLeaves
import Derived.Shelf.Abstract
import Derived.OwnWalkIn
import Derived.TacticsInMore
import Derived.LoopNIn
import Derived.LoopIn
import Derived.Maps.AppendAt
import Derived.Sort.QuietIn
/- Splitting: the reference model's function and the program's (a range over a function), each as contracts. -/
namespace Go.Proofs.YtliebicnejbheabGreatDoor
open Go.RowKit Go.PlainAid Go.Shelf

attribute [local go_sem] Oper.semAt_some

/-- What a round leaves alone: the two captured variables. -/
def KeepsTwo (b c : Nat) (W W' : World) : Prop := W'.heap[b]? = W.heap[b]? ∧ W'.heap[c]? = W.heap[c]?
theorem keepsTwo_t {b c : Nat} {A B C : World} (h : KeepsTwo b c A B) (k : KeepsTwo b c B C) : KeepsTwo b c A C := ⟨k.1.trans h.1, k.2.trans h.2⟩
theorem keepsTwo_below {b c B : Nat} {W W' : World} (h : Below B W W') (hb : b < B) (hc : c < B) : KeepsTwo b c W W' := ⟨h.block b hb, h.block c hc⟩
theorem keepsTwo_b {b c n : Nat} (hb : b < n) (hc : c < n) (W : World) (l : Nat) (o o' : Obj) (hl : n ≤ l) (h : W.heap[l]? = some o) (_ : o.isCells = false) (_ : o.isWalk = false) : KeepsTwo b c W (W.putObj l o') := by
  have hlt := (Array.getElem?_eq_some_iff.1 h).1
  exact keepsTwo_below ((Below.refl n W).grown (grownBy_putObj' W l o') (by omega) (fun k e => by cases e; omega)) hb hc

set_option maxRecDepth 100000 in
set_option maxHeartbeats 2000000 in
/-- The iterator: it yields all parts in order. -/
theorem parts1_in (n : Nat) (hn : 1 ≤ n) (l Bs Bp : Nat) (s : ByteArray) (v : Int) (hm : s.size ≤ 4000) (J Jx : List ByteArray → World → Prop)
    (W : World) (hJ : AbidesFrom W.heap.size J)
    (hY : ∀ pre x W, J pre W → pre.length < s.size + 1 → YieldAt Fence.wide (n - 1) Tryz.prog l #[.string x] W fun e W' =>
      (e = .returned (.bool true) ∧ J (pre ++ [x]) W' ∧ KeepsTwo Bs Bp W W') ∨ (e = .returned (.bool false) ∧ Jx (pre ++ [x]) W'))
    (hBs : W.cell? ⟨Bs, 0, none⟩ = some (.string s)) (hBp : W.cell? ⟨Bp, 0, none⟩ = some (.int .u8 v)) (h0 : J [] W) :
    CallsIn Fence.wide n Tryz.prog 70 #[.func (.yield l) #[] #[], .pointer (some ⟨Bs, 0, none⟩), .pointer (some ⟨Bp, 0, none⟩)] W fun e W' => (∃ v, e = .returned v) ∧
      ((∃ ys, ys = parts s v ∧ J ys W') ∨ (∃ pre, True ∧ Jx pre W')) := by
  refine callsIn_of_wp Tryz.func70 rfl trivial ?_ rfl
  simp only [Tryz.ntmps70, List.size_toArray, List.length_cons, List.length_nil, Nat.reduceAdd, Nat.reduceSub, Array.replicate_succ, Array.replicate_zero, List.push_toArray, List.append_toArray, List.nil_append, List.cons_append]
  gi_wp2
  gi_loopw [4, 8] (fun st i wr => ∃ k : Nat, k ≤ s.size ∧ i = .int .i64 k ∧ st = .int .i64 (spl s v k).2 ∧ J (spl s v k).1 wr ∧ KeepsTwo Bs Bp W wr)
    (fun _ i _ => s.size - (intOf i).toNat)
  case atStart => exact ⟨0, Nat.zero_le _, rfl, rfl, h0, rfl, rfl⟩
  case round =>
    obtain ⟨k, hk, rfl, rfl, hJs, hnx⟩ := hrel
    have hcs := (World.cell?_of_block (a := ⟨Bs, 0, none⟩) hnx.1).trans hBs
    have hcp := (World.cell?_of_block (a := ⟨Bp, 0, none⟩) hnx.2).trans hBp
    obtain ⟨hst, hln⟩ := spl_le s v k
    by_cases hlt : k < s.size
    · have hb := get_bt s
      have hk0 : (0 : Int) ≤ (k : Int) := by omega
      have hk1 : (k : Int) < (s.size : Int) := by omega
      by_cases he : bt s k = v
      · have HY : ∀ nq, YieldAt Fence.wide (n - 1) Tryz.prog l #[.string (s.extract (spl s v k).2 k)] (wr.drewN nq) _ := fun nq => hY (spl s v k).1 (s.extract (spl s v k).2 k) (wr.drewN nq)
          (hJ _ _ _ none hJs ⟨rfl, rfl, rfl, Nat.le_refl _, fun _ _ _ => rfl⟩ (fun r hr => by cases hr)) (by omega)
        have HS := Lib.hid (spl_hit he)
        have hne : (bt s k != v) = false := by simp [he]
        clear he
        generalize spl s v k = q at *
        obtain ⟨ql, st⟩ := q
        dsimp only at *
        gi_wp2
        gi_quiet (fail)
        obtain ⟨fn, tmps, assign, body, hy, hR⟩ := HY nq
        clear HY
        gi_wp2
        refine hR.mono ?_
        rintro e W3 (⟨rfl, hJ3, hk3⟩ | ⟨rfl, hJx3⟩)
        · gi_wp2
          go_roundw
          case rel => exact ⟨k + 1, by omega, by go_num, by rw [HS.out]; go_num, by rw [HS.out]; exact hJ3, keepsTwo_t hnx hk3⟩
          case measure => simp [intOf]; omega
        · gi_wp2
          refine bodyPost_ret (results_none rfl _ _ _) rfl ?_
          exact ⟨⟨_, rfl⟩, .inr ⟨_, trivial, hJx3⟩⟩
      · have hne : (bt s k != v) = true := by simp [he]
        have HS := Lib.hid (spl_miss he)
        have hJq : ∀ nq, J (spl s v k).1 (wr.drewN nq) := fun nq => hJ _ _ _ none hJs ⟨rfl, rfl, rfl, Nat.le_refl _, fun _ _ _ => rfl⟩ (fun r hr => by cases hr)
        clear he
        generalize spl s v k = q at *
        obtain ⟨ql, st⟩ := q
        dsimp only at *
        gi_wp2
        gi_quiet (fail)
        gi_wp2
        go_roundw
        case rel => exact ⟨k + 1, by omega, by go_num, by rw [HS.out], by rw [HS.out]; exact hJq nq, hnx⟩
        case measure => simp [intOf]; omega
    · obtain rfl : k = s.size := by omega
      have hY1 := hY (spl s v s.size).1 (s.extract (spl s v s.size).2 s.size) wr hJs (by omega)
      have HP : Hid (parts s v = (spl s v s.size).1 ++ [s.extract (spl s v s.size).2 s.size]) := Lib.hid rfl
      generalize spl s v s.size = q at *
      obtain ⟨ql, st⟩ := q
      dsimp only at *
      obtain ⟨fn, tmps, assign, body, hy, hR⟩ := hY1
      gi_wp2
      refine hR.mono ?_
      rintro e W3 (⟨rfl, hJ3, hk3⟩ | ⟨rfl, hJx3⟩)
      · gi_wp2
        go_end0
        exact ⟨⟨_, rfl⟩, .inl ⟨_, HP.out.symm, hJ3⟩⟩
      · gi_wp2
        go_end0
        exact ⟨⟨_, rfl⟩, .inr ⟨_, trivial, hJx3⟩⟩

set_option maxHeartbeats 1000000 in
theorem partsOf_in (n : Nat) (s : ByteArray) (v : Int) (w : World) :
    CallsIn Fence.wide n Tryz.prog 52 #[.string s, .int .u8 v] w fun e w' => e = .returned (.func (.func 70) #[] #[.pointer (some ⟨w.heap.size, 0, none⟩), .pointer (some ⟨w.heap.size + 1, 0, none⟩)]) ∧ w' = (w.alloc (.cells #[.string s] 9)).alloc (.cells #[.int .u8 v] 5) := by
  refine callsIn_of_wp Tryz.func52 rfl trivial ?_ rfl
  simp only [Tryz.ntmps52, List.size_toArray, List.length_cons, List.length_nil, Nat.reduceAdd, Nat.reduceSub, Array.replicate_succ, Array.replicate_zero, List.push_toArray, List.append_toArray, List.nil_append, List.cons_append]
  gi_wp2
  go_ret
  exact ⟨rfl, rfl⟩
end Go.Proofs.YtliebicnejbheabGreatDoor
