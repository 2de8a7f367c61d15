/- Contracts: a packet's bytes. -/
import Derived.RangeFuncNested
import Derived.RangeFuncBound
import Derived.RangeFuncCalls
import Derived.RangeFuncLeaves
import Derived.RangeFuncFrom
import Derived.Shelf.Abstract
import Derived.Shelf.RegionOpen
import Derived.OwnWalkIn
import Derived.TacticsInMore
import Derived.LoopNIn
import Derived.LoopIn
import Derived.Test.YtjgofnbfpoephaaGreatDoorM15
import Derived.Test.YtjgofnbfpoephaaGreatDoorM09
namespace Go.Proofs.YtjgofnbfpoephaaGreatDoor
set_option linter.all false
open Go.RowKit Go.Fl
set_option linter.unusedVariables false
set_option linter.unusedSimpArgs false
attribute [local go_sem] Oper.semAt_some

def headB (st ct ln : Int) : List Int := [201, st, ct % 65536 / 256, ct % 256, ln]
def tailB (xs : List Nat) : List Int := xs.flatMap fun x => [hiI x, loI x]
/-- the bytes of a packet before its seal -/
def bodyB (st ct ln : Int) (xs : List Nat) : List Int := headB st ct ln ++ tailB xs
theorem index_head (a0 a1 a2 a3 a4 : Int) (j : Nat) (hj : j < 5) (w : World) :
    (Instr.index 242 (.agg #[.int .u8 a0, .int .u8 a1, .int .u8 a2, .int .u8 a3, .int .u8 a4]) (.int .i64 (j : Int))).run Tryz.prog w = .ok (.int .u8 ([a0, a1, a2, a3, a4].getD j 0)) w := by
  rcases (show j = 0 ∨ j = 1 ∨ j = 2 ∨ j = 3 ∨ j = 4 by omega) with rfl | rfl | rfl | rfl | rfl
  all_goals kernel_rfl
theorem index_samp (x0 x1 x2 x3 x4 x5 x6 x7 : Nat) (j : Nat) (hj : j < 8) (w : World) :
    (Instr.index 48 (.agg #[.float .f32 x0, .float .f32 x1, .float .f32 x2, .float .f32 x3, .float .f32 x4, .float .f32 x5, .float .f32 x6, .float .f32 x7]) (.int .i64 (j : Int))).run Tryz.prog w = .ok (.float .f32 ([x0, x1, x2, x3, x4, x5, x6, x7].getD j 0)) w := by
  rcases (show j = 0 ∨ j = 1 ∨ j = 2 ∨ j = 3 ∨ j = 4 ∨ j = 5 ∨ j = 6 ∨ j = 7 by omega) with rfl | rfl | rfl | rfl | rfl | rfl | rfl | rfl
  all_goals kernel_rfl
theorem take_getD {l : List Int} {k : Nat} (h : k < l.length) : l.take (k + 1) = l.take k ++ [l.getD k 0] := by
  rw [List.take_succ_eq_append_getElem h]; simp [List.getD, List.getElem?_eq_getElem h]
theorem tailB_take {xs : List Nat} {k : Nat} (h : k < xs.length) : tailB (xs.take (k + 1)) = tailB (xs.take k) ++ [hiI (xs.getD k 0)] ++ [loI (xs.getD k 0)] := by
  rw [List.take_succ_eq_append_getElem h, tailB, List.flatMap_append]; simp [tailB, List.getD, List.getElem?_eq_getElem h]

/-- what a round keeps: this block -/
def KeepB (g : Nat) (A B : World) : Prop := B.heap[g]? = A.heap[g]?
theorem KeepB.refl (g : Nat) (A : World) : KeepB g A A := rfl
theorem KeepB.trans {g : Nat} {A B C : World} (h : KeepB g A B) (k : KeepB g B C) : KeepB g A C := Eq.trans k h
theorem keepB_b {g : Nat} {w : World} (hg : g < w.heap.size) (W : World) (l : Nat) (o o' : Obj) (hl : w.heap.size ≤ l) (_ : W.heap[l]? = some o) (_ : o.isCells = false) (_ : o.isWalk = false) : KeepB g W (W.putObj l o') := World.putObj_heap_other (by omega)

set_option maxRecDepth 100000 in
set_option maxHeartbeats 3000000 in
theorem body1_in (n : Nat) (hn : 1 ≤ n) (l Bn : Nat) (st ct ln : Int) (x0 x1 x2 x3 x4 x5 x6 x7 : Nat) (hst : 0 ≤ st ∧ st ≤ 255) (hct : 0 ≤ ct ∧ ct ≤ 65535) (hln : 0 ≤ ln ∧ ln ≤ 8) (hxs : ∀ x ∈ [x0, x1, x2, x3, x4, x5, x6, x7], sampI x = 0) (J Jx : List Int → World → Prop)
    (hY : ∀ pre x W, J pre W → pre.length < 21 → YieldAt Fence.wide (n - 1) Tryz.prog l #[.int .u8 x] W fun e W' =>
      (e = .returned (.bool true) ∧ J (pre ++ [x]) W' ∧ KeepB Bn W W') ∨ (e = .returned (.bool false) ∧ Jx (pre ++ [x]) W'))
    (W : World) (hB : Row W Bn 54 (pkC st ct ln [x0, x1, x2, x3, x4, x5, x6, x7])) (h0 : J [] W) :
    CallsIn Fence.wide n Tryz.prog 173 #[.func (.yield l) #[] #[], .pointer (some ⟨Bn, 0, none⟩)] W fun e W' => (∃ v, e = .returned v) ∧
      ((∃ ys, ys = bodyB st ct ln [x0, x1, x2, x3, x4, x5, x6, x7] ∧ J ys W') ∨ (∃ pre, True ∧ Jx pre W')) := by
  have c0 := hB.cell 0; have c1 := hB.cell 1; have c2 := hB.cell 2
  simp only [pkC, flts, List.cons_append, List.nil_append, List.map_cons, List.map_nil, List.getElem?_cons_succ, List.getElem?_cons_zero] at c0 c1 c2
  have HBX : Hid (∀ V, KeepB Bn W V → Row V Bn 54 (pkC st ct ln [x0, x1, x2, x3, x4, x5, x6, x7])) := fun V hV => Eq.trans hV hB
  have HH : Hid (∀ V, Calls Tryz.prog 147 #[.int .i64 ct] V fun e w' => e = .returned (.tuple #[.int .u8 (ct % 65536 / 256), .int .u8 (ct % 256)]) ∧ V = w') := fun V => halves_any ct V (by omega)
  have HX := Lib.hid hxs
  obtain ⟨a2, ha2⟩ : ∃ a2, a2 = ct % 65536 / 256 := ⟨_, rfl⟩
  obtain ⟨a3, ha3⟩ : ∃ a3, a3 = ct % 256 := ⟨_, rfl⟩
  rw [← ha2, ← ha3] at HH
  have HHB : Hid (headB st ct ln = [201, st, a2, a3, ln]) := by unfold Hid headB; rw [ha2, ha3]
  have HI5 := Lib.hid (fun (j : Nat) (hj : j < 5) V => index_head 201 st a2 a3 ln j hj V)
  have HI8 := Lib.hid (fun (j : Nat) (hj : j < 8) V => index_samp x0 x1 x2 x3 x4 x5 x6 x7 j hj V)
  have u1 : IntKind.u8.wrap st = st := by unfold IntKind.wrap; simp [IntKind.signed, IntKind.bits]; omega
  have u2 : IntKind.u8.wrap ln = ln := by unfold IntKind.wrap; simp [IntKind.signed, IntKind.bits]; omega
  have HY := Lib.hid hY
  clear ha2 ha3 hxs hB hct hY
  refine callsIn_of_wp Tryz.func173 rfl trivial ?_ rfl
  simp only [Tryz.ntmps173, List.size_toArray, List.length_cons, List.length_nil, Nat.reduceAdd, Nat.reduceSub, Array.replicate_succ, Array.replicate_zero, List.push_toArray, List.append_toArray, List.nil_append, List.cons_append]
  gi_wp2_with (refine ⟨trivial, ?_⟩; gi_at_call 147; refine (callsIn_wide.2 (HH.out _)).mono ?_; rintro e w' ⟨rfl, rfl⟩)
  gi_loopw [26] (fun i wr => ∃ k : Nat, k ≤ 5 ∧ i = .int .i64 k ∧ Hid (J ([201, st, a2, a3, ln].take k) wr) ∧ Hid (KeepB Bn W wr)) (fun i _ => 5 - (intOf i).toNat)
  case atStart => exact ⟨0, Nat.zero_le _, rfl, h0, KeepB.refl _ _⟩
  case round =>
    obtain ⟨k, hk, rfl, Hj, Hb⟩ := hrel
    by_cases hlt5 : k < 5
    · obtain ⟨bk, hbk⟩ : ∃ bk, bk = [201, st, a2, a3, ln].getD k 0 := ⟨_, rfl⟩
      have hi := fun V => HI5.out k hlt5 V
      rw [← hbk] at hi
      obtain ⟨fn, tmps, assign, body, hy, hR⟩ := HY.out _ bk wr Hj.out (by rw [List.length_take]; simp; omega)
      have HTK : Hid ([201, st, a2, a3, ln].take (k + 1) = [201, st, a2, a3, ln].take k ++ [bk]) := by unfold Hid; rw [hbk]; exact take_getD (by simpa using hlt5)
      have HRR := Lib.hid hR
      clear hbk hR
      gi_wp2
      refine HRR.out.mono ?_
      rintro e W3 (⟨rfl, hJ3, hk3⟩ | ⟨rfl, hJx3⟩)
      · have HJ3 := Lib.hid hJ3; have HK3 := Lib.hid (Hb.out.trans hk3)
        clear hJ3 hk3
        gi_wp2
        go_roundw
        case rel => exact ⟨k + 1, by omega, by go_num, by rw [HTK.out]; exact HJ3, HK3⟩
        case measure => simp [intOf]; omega
      · gi_wp2
        refine bodyPost_ret (results_none rfl _ _ _) rfl ?_
        exact ⟨⟨_, rfl⟩, .inr ⟨_, trivial, hJx3⟩⟩
    · obtain rfl : k = 5 := by omega
      rw [show ((5 : Nat) : Int) = 5 from rfl]
      have HJ5 : Hid (J (headB st ct ln) wr) := by unfold Hid; rw [HHB.out]; exact Hj.out
      have hrow := HBX.out _ Hb.out
      have d3 := hrow.cell 3; have d4 := hrow.cell 4; have d5 := hrow.cell 5; have d6 := hrow.cell 6; have d7 := hrow.cell 7; have d8 := hrow.cell 8; have d9 := hrow.cell 9; have d10 := hrow.cell 10
      simp only [pkC, flts, List.cons_append, List.nil_append, List.map_cons, List.map_nil, List.getElem?_cons_succ, List.getElem?_cons_zero] at d3 d4 d5 d6 d7 d8 d9 d10
      clear hrow Hj HI5
      gi_wp2
      gi_loopw [36] (fun i wr => ∃ k : Nat, k ≤ 8 ∧ i = .int .i64 k ∧ Hid (J (headB st ct ln ++ tailB ([x0, x1, x2, x3, x4, x5, x6, x7].take k)) wr) ∧ Hid (KeepB Bn W wr)) (fun i _ => 8 - (intOf i).toNat)
      case atStart => exact ⟨0, Nat.zero_le _, rfl, by simpa [tailB] using HJ5, Hb⟩
      case round =>
        clear HJ5 Hb
        obtain ⟨k, hk, rfl, Hj, Hb⟩ := hrel
        by_cases hlt8 : k < 8
        · obtain ⟨xk, hxk⟩ : ∃ xk, xk = [x0, x1, x2, x3, x4, x5, x6, x7].getD k 0 := ⟨_, rfl⟩
          have hi := fun V => HI8.out k hlt8 V
          rw [← hxk] at hi
          have hsx : sampI xk = 0 := by
            rw [hxk, show [x0, x1, x2, x3, x4, x5, x6, x7].getD k 0 = [x0, x1, x2, x3, x4, x5, x6, x7][k]'(by simpa using hlt8) by simp [List.getD, List.getElem?_eq_getElem (show k < [x0, x1, x2, x3, x4, x5, x6, x7].length by simpa using hlt8)]]
            exact HX.out _ (List.getElem_mem _)
          have hub := unitI_bd2 hsx
          have HU : Hid (∀ V, Calls Tryz.prog 128 #[.float .f32 xk] V fun e w' => e = .returned (.int .i64 (unitI xk)) ∧ V = w') := fun V => unitOf_ok xk V hsx
          have HV : Hid (∀ V, Calls Tryz.prog 147 #[.int .i64 (unitI xk)] V fun e w' => e = .returned (.tuple #[.int .u8 (hiI xk), .int .u8 (loI xk)]) ∧ V = w') := fun V => halves_any (unitI xk) V hub
          have HTK : Hid (tailB ([x0, x1, x2, x3, x4, x5, x6, x7].take (k + 1)) = tailB ([x0, x1, x2, x3, x4, x5, x6, x7].take k) ++ [hiI xk] ++ [loI xk]) := by unfold Hid; rw [hxk]; exact tailB_take (by simpa using hlt8)
          have hlen : (headB st ct ln ++ tailB ([x0, x1, x2, x3, x4, x5, x6, x7].take k)).length = 5 + k * 2 := by
            rw [List.length_append, tailB]
            have h2 : ∀ ys : List Nat, (ys.flatMap fun x => [hiI x, loI x]).length = ys.length * 2 := by
              intro ys; induction ys with
              | nil => rfl
              | cons y ys ih => rw [List.flatMap_cons, List.length_append, ih]; simp; omega
            rw [h2, List.length_take]; simp [headB]; omega
          obtain ⟨fn, tmps, assign, body, hy, hR⟩ := HY.out _ (hiI xk) wr Hj.out (by rw [hlen]; omega)
          have HRR := Lib.hid hR
          have HLEN := Lib.hid hlen
          obtain ⟨ux, hux⟩ : ∃ ux, ux = unitI xk := ⟨_, rfl⟩
          obtain ⟨hx, hhx⟩ : ∃ hx, hx = hiI xk := ⟨_, rfl⟩
          obtain ⟨lx, hlx⟩ : ∃ lx, lx = loI xk := ⟨_, rfl⟩
          rw [← hux] at HU HV; rw [← hhx, ← hlx] at HV HTK; rw [← hhx] at hy HRR
          clear hux hhx hlx hxk hR hub hsx hlen
          gi_wp2_with (first
            | (refine ⟨trivial, ?_⟩; gi_at_call 128; refine (callsIn_wide.2 (HU.out _)).mono ?_; rintro e w' ⟨rfl, rfl⟩)
            | (refine ⟨trivial, ?_⟩; gi_at_call 147; refine (callsIn_wide.2 (HV.out _)).mono ?_; rintro e w' ⟨rfl, rfl⟩))
          refine HRR.out.mono ?_
          rintro e W3 (⟨rfl, hJ3, hk3⟩ | ⟨rfl, hJx3⟩)
          · have HK3 := Lib.hid (Hb.out.trans hk3)
            obtain ⟨fn2, tmps2, assign2, body2, hy2, hR2⟩ := HY.out _ lx W3 hJ3 (by rw [List.length_append, HLEN.out]; simp; omega)
            have HRR2 := Lib.hid hR2
            clear hJ3 hk3 hR2 hy
            gi_wp2
            refine HRR2.out.mono ?_
            rintro e W4 (⟨rfl, hJ4, hk4⟩ | ⟨rfl, hJx4⟩)
            · have HJ4 := Lib.hid hJ4; have HK4 := Lib.hid (HK3.out.trans hk4)
              clear hJ4 hk4
              gi_wp2
              go_roundw
              case rel => exact ⟨k + 1, by omega, by go_num, by rw [HTK.out, ← List.append_assoc, ← List.append_assoc]; exact HJ4, HK4⟩
              case measure => simp [intOf]; omega
            · gi_wp2
              refine bodyPost_ret (results_none rfl _ _ _) rfl ?_
              exact ⟨⟨_, rfl⟩, .inr ⟨_, trivial, hJx4⟩⟩
          · gi_wp2
            refine ⟨fun _ h => (by cases h), ?_⟩
            gi_wp2
            refine bodyPost_ret (results_none rfl _ _ _) rfl ?_
            exact ⟨⟨_, rfl⟩, .inr ⟨_, trivial, hJx3⟩⟩
        · obtain rfl : k = 8 := by omega
          gi_wp2
          go_end0
          exact ⟨⟨_, rfl⟩, .inl ⟨_, rfl, Hj.out⟩⟩
end Go.Proofs.YtjgofnbfpoephaaGreatDoor
