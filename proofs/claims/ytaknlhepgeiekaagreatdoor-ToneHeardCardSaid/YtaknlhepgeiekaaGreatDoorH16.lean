import Derived.RangeFuncNested
import Derived.RangeFuncBound
import Derived.RangeFuncCalls
import Derived.RangeFuncLeaves
import Derived.RangeFuncFrom
import Derived.Shelf.Abstract
import Derived.Shelf.RegionOpen
import Derived.OwnWalkIn
import Derived.TacticsInMore
import Derived.LoopNIn
import Derived.LoopIn
import Derived.Test.YtaknlhepgeiekaaGreatDoorH15
namespace Go.Proofs.YtaknlhepgeiekaaGreatDoor
set_option linter.all false
open Go.RowKit Go.Fl
attribute [local go_sem] Oper.semAt_some
theorem belowKO {W W' : World} (hb : Below W.heap.size W W') : KeepsOthers W W' := ⟨hb.size, fun k o hk _ => (hb.block k (Array.getElem?_eq_some_iff.1 hk).1).trans hk⟩
theorem belowGr {W W' : World} (hb : Below W.heap.size W W') : W.grownBy W' none := ⟨hb.os, hb.tape, hb.output, hb.size, fun k hk _ => hb.block k hk⟩
theorem below_put {n0 : Nat} {w : World} (hn : n0 ≤ w.heap.size) (W : World) (l : Nat) (o o' : Obj) (hl : w.heap.size ≤ l) (_ : W.heap[l]? = some o) (_ : o.isCells = false) (_ : o.isWalk = false) : Below n0 W (W.putObj l o') :=
 ⟨rfl, rfl, rfl, by simp, fun k hk => World.putObj_heap_other (by omega)⟩
theorem range_snoc {n : Nat} (k : Nat) (h : k < n) : (List.finRange n).take k ++ [⟨k, h⟩] = (List.finRange n).take (k + 1) := by
 rw [List.take_succ_eq_append_getElem (by simpa using h)]; simp
def numV (L : List Sg) (i : Nat) : Value := .agg #[.int .i64 (L.getD i ⟨0, 0, 0, 0, 0, 0⟩).a, .int .i64 (L.getD i ⟨0, 0, 0, 0, 0, 0⟩).b, .int .i64 (L.getD i ⟨0, 0, 0, 0, 0, 0⟩).c, .int .i64 (L.getD i ⟨0, 0, 0, 0, 0, 0⟩).d, .int .i64 (L.getD i ⟨0, 0, 0, 0, 0, 0⟩).x, .int .i64 (L.getD i ⟨0, 0, 0, 0, 0, 0⟩).y, .int .i64 (i : Int)]
def VisQ {n : Nat} (J Jx : List (Fin n) → World → Prop) (n0 : Nat) (W2 : World) (k : Nat) (h : k < n) (s : Value) (wx : World) : Prop := (s = .bool false ∧ J ((List.finRange n).take (k + 1)) wx ∧ Below n0 W2 wx) ∨ (s = .bool true ∧ Jx ((List.finRange n).take k ++ [⟨k, h⟩]) wx)
set_option maxRecDepth 100000 in
set_option maxHeartbeats 3000000 in
theorem visit_in (n : Nat) (hn : 1 ≤ n) (l Bn n0 : Nat) (A : Option Addr) (c : Nat) (L : List Sg) (hL : L.length ≤ 1000000) (J Jx : List (Fin L.length) → World → Prop) (W : World) (hJ : AbidesFrom W.heap.size J)
 (hY : ∀ pre x W1, J pre W1 → pre.length < L.length → YieldAt Fence.wide (n - 1) Tryz.prog l #[numV L x.1] W1 fun e W' =>
   (e = .returned (.bool true) ∧ J (pre ++ [x]) W' ∧ Below n0 W1 W') ∨ (e = .returned (.bool false) ∧ Jx (pre ++ [x]) W'))
 (hn0 : n0 ≤ W.heap.size) (hR : ∀ V, Below n0 W V → Rd V A (sgC L)) (hB : Row W Bn 45 [.slice A L.length c]) (h0 : J [] W) :
 CallsIn Fence.wide n Tryz.prog 109 #[.func (.yield l) #[] #[], .pointer (some ⟨Bn, 0, none⟩)] W fun e W' => (∃ v, e = .returned v) ∧
  ((∃ ys, ys = List.finRange L.length ∧ J ys W') ∨ (∃ pre, True ∧ Jx pre W')) := by
 have c0 := hB.cell 0
 simp only [List.getElem?_cons_succ, List.getElem?_cons_zero] at c0
 have HY := Lib.hid hY; have HR := Lib.hid hR; have HJ := Lib.hid hJ; have HJ0 := Lib.hid h0; have HN0 : Hid (n0 ≤ W.heap.size) := hn0
 clear hY hR hB hJ h0 hn0
 refine callsIn_of_wp Tryz.func109 rfl trivial ?_ rfl
 simp only [Tryz.ntmps109, List.size_toArray, List.length_cons, List.length_nil, Nat.reduceAdd, Nat.reduceSub, Array.replicate_succ, Array.replicate_zero, List.push_toArray, List.append_toArray, List.nil_append, List.cons_append]
 gi_wp2
 gi_loopw [7] (fun i wr => ∃ k : Nat, k ≤ L.length ∧ i = .int .i64 k ∧ Hid (J ((List.finRange L.length).take k) wr) ∧ Hid (Below n0 W wr) ∧ Hid (W.heap.size ≤ wr.heap.size)) (fun i _ => L.length - (intOf i).toNat)
 case atStart => exact ⟨0, Nat.zero_le _, rfl, by simpa using HJ0, Below.refl _ _, Nat.le_refl _⟩
 case round =>
  clear HJ0
  obtain ⟨k, hk, rfl, Hj, Hb, Hz⟩ := hrel
  by_cases hlt : k < L.length
  · obtain ⟨b0, off, rfl, q0, q1, q2, q3, q4, q5⟩ := Rd.sg (HR.out _ Hb.out) hlt
    have hnv : numV L k = .agg #[.int .i64 L[k].a, .int .i64 L[k].b, .int .i64 L[k].c, .int .i64 L[k].d, .int .i64 L[k].x, .int .i64 L[k].y, .int .i64 (k : Int)] := by unfold numV; simp [hlt]
    have HNV := Lib.hid hnv
    obtain ⟨⟨a, b, cc, d, x, y⟩, hs⟩ : ∃ s, s = L[k] := ⟨_, rfl⟩
    rw [← hs] at q0 q1 q2 q3 q4 q5 hnv
    dsimp only at q0 q1 q2 q3 q4 q5 hnv
    have hbn : Below wr.heap.size wr ((wr.alloc (.cells #[.int .i64 0, .int .i64 0, .int .i64 0, .int .i64 0, .int .i64 0, .int .i64 0] 35)).setRow wr.heap.size #[.int .i64 a, .int .i64 b, .int .i64 cc, .int .i64 d, .int .i64 x, .int .i64 y]) := Below.setRow ((Below.refl _ _).alloc (Nat.le_refl _) _) (Nat.le_refl _) _
    have HW := Lib.hid hbn
    have Hn : Hid (Row ((wr.alloc (.cells #[.int .i64 0, .int .i64 0, .int .i64 0, .int .i64 0, .int .i64 0, .int .i64 0] 35)).setRow wr.heap.size #[.int .i64 a, .int .i64 b, .int .i64 cc, .int .i64 d, .int .i64 x, .int .i64 y]) wr.heap.size 35 [.int .i64 a, .int .i64 b, .int .i64 cc, .int .i64 d, .int .i64 x, .int .i64 y]) := (Row.new wr 35 [.int .i64 0, .int .i64 0, .int .i64 0, .int .i64 0, .int .i64 0, .int .i64 0]).setRow _
    have HNV := Lib.hid hnv
    clear hs hbn hnv
    refine wpIn_wide.2 ?_
    go_upto_region 3 with (first
     | (refine wpList_store_row rfl 35 _ _ rfl (wr.heap.size) #[.int .i64 a, .int .i64 b, .int .i64 cc, .int .i64 d, .int .i64 x, .int .i64 y] rfl rfl 35 _ (Row.new wr 35 [.int .i64 0, .int .i64 0, .int .i64 0, .int .i64 0, .int .i64 0, .int .i64 0]) ?_ ?_ ?_ ?_; (kernel_rfl); (rfl); (simp [Value.oneCell'])))
    refine genT (fun V => Row V wr.heap.size 35 [.int .i64 a, .int .i64 b, .int .i64 cc, .int .i64 d, .int .i64 x, .int .i64 y] ∧ Below wr.heap.size wr V) ⟨Hn.out, HW.out⟩ ?_
    clear Hn HW q0 q1 q2 q3 q4 q5
    intro W2 s2
    have HS2 := Lib.hid s2
    clear s2
    have hj2 : J ((List.finRange L.length).take k) W2 := HJ.out _ _ _ none Hj.out (belowGr HS2.out.2) (fun r e => by cases e)
    obtain ⟨fn, tmps, assign, body, hy, hRR⟩ := HY.out _ ⟨k, hlt⟩ W2 hj2 (by rw [List.length_take, List.length_finRange]; omega)
    rw [HNV.out] at hy
    have HRR := Lib.hid hRR
    have e0 := HS2.out.1.cell 0; have e1 := HS2.out.1.cell 1; have e2 := HS2.out.1.cell 2; have e3 := HS2.out.1.cell 3; have e4 := HS2.out.1.cell 4; have e5 := HS2.out.1.cell 5
    simp only [List.getElem?_cons_succ, List.getElem?_cons_zero] at e0 e1 e2 e3 e4 e5
    have HB2 : Hid (Below n0 W W2 ∧ W.heap.size ≤ W2.heap.size) := ⟨Hb.out.trans (HS2.out.2.mono (Nat.le_trans HN0.out Hz.out)), Nat.le_trans Hz.out HS2.out.2.size⟩
    clear hRR hj2 Hj Hb
    simp only [Act.put]
    go_cut [17] from 12 to 18 (fun s17 wx => VisQ J Jx n0 W2 k hlt s17 wx)
    case first =>
     refine wpIn_wide.1 (?_ : Code.wpIn Fence.wide n Tryz.prog _ _ _ _)
     gi_wp2
     refine HRR.out.mono ?_
     rintro e W3 (⟨rfl, hJ3, hk3⟩ | ⟨rfl, hJx3⟩)
     · have HV : Hid (VisQ J Jx n0 W2 k hlt (.bool false) W3) := .inl ⟨rfl, by rw [← range_snoc k hlt]; exact hJ3, hk3⟩
       clear hJ3 hk3 hy
       gi_wp2
       go_meet
       exact HV.out
     · have HV : Hid (VisQ J Jx n0 W2 k hlt (.bool true) W3) := .inr ⟨rfl, hJx3⟩
       clear hJx3 hy
       gi_wp2
       go_meet
       exact HV.out
    case rest =>
    rcases hcut with ⟨rfl, hJ3, hk3⟩ | ⟨rfl, hJx3⟩
    · have HJ3 := Lib.hid hJ3
      have HB3 : Hid (Below n0 W wc ∧ W.heap.size ≤ wc.heap.size) := ⟨HB2.out.1.trans hk3, Nat.le_trans HB2.out.2 hk3.size⟩
      clear hJ3 hk3 hy
      go_wp2_with fail
      go_roundw
      case rel => exact ⟨k + 1, by omega, by go_num, HJ3, HB3.out.1, HB3.out.2⟩
      case measure => simp [intOf]; omega
    · have HJX := Lib.hid hJx3
      clear hJx3
      go_wp2_with fail
      refine bodyPost_ret (results_none rfl _ _ _) rfl ?_
      exact ⟨⟨_, rfl⟩, .inr ⟨_, trivial, HJX.out⟩⟩
  · obtain rfl : k = L.length := by omega
    gi_wp2
    go_end0
    exact ⟨⟨_, rfl⟩, .inl ⟨_, rfl, by have h := Hj.out; rw [List.take_of_length_le (by rw [List.length_finRange]; exact Nat.le_refl _)] at h; exact h⟩⟩
end Go.Proofs.YtaknlhepgeiekaaGreatDoor
